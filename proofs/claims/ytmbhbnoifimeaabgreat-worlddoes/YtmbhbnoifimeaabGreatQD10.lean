/- The House's Step. -/
import Derived.Test.YtmbhbnoifimeaabGreatQD9
namespace Go.Proofs.YtmbhbnoifimeaabGreat
open Go.RowKit
set_option linter.unusedSimpArgs false
set_option linter.unusedVariables false
set_option maxRecDepth 100000 in
set_option maxHeartbeats 4000000 in
theorem hstep_callfar {N : Nat} {w : World} {H : Nat} {o : HOwn} {A : AW} (h : HRep N w H o A) (x : AX) (hx : SmallC x.call) (hk : x.kind = 1) (hn : x.n < 0 ∨ 2 < x.n) :
    Calls Tryz.prog 27 #[.pointer (some ⟨H, 0, none⟩), x.val] w fun e w' => e = .returned (.int .i64 (A.step x).1) ∧ HTurn N w H o w' (A.step x).2 := by
  obtain ⟨V, hV⟩ : ∃ V, V = w.alloc (.cells #[.int .i64 x.kind, .int .i64 x.n, .int .i64 x.keep, .int .i64 x.call.kind, .string x.call.name, .string x.call.dst, .string x.call.text] 69) := ⟨_, rfl⟩
  have hBV : Below w.heap.size w V := by rw [hV]; exact (Below.refl _ _).alloc (Nat.le_refl _) _
  have hXV : V.heap[w.heap.size]? = some (.cells #[.int .i64 x.kind, .int .i64 x.n, .int .i64 x.keep, .int .i64 x.call.kind, .string x.call.name, .string x.call.dst, .string x.call.text] 69 (0, 0)) := by rw [hV]; exact heap_alloc_new _ _
  have hlV : w.heap.size < V.heap.size := (Array.getElem?_eq_some_iff.1 hXV).1
  have hrV := h.below hBV
  have HBV := hide hBV
  have HXV := hide hXV
  have HV := hide hV
  have e1 : A.step x = (9, A) := by unfold AW.step AW.have; rw [if_pos hk, if_pos hn]
  rw [e1]
  have HT := hide (HTurn.of_below h hBV)
  obtain ⟨⟨x0, x1, x2, x3⟩, ⟨x4, x5, x6⟩, xf⟩ := seven hXV
  clear h e1 hV hBV hXV hrV hx
  obtain ⟨xk, xn, xp, ⟨ck, ca, cb, ct⟩⟩ := x
  dsimp only [AX.val] at *
  subst hk
  by_cases h0 : xn < 0
  · clear hn
    go_enter Tryz.func27, Tryz.ntmps27
    go_wp2_with fail
    rw [← unhide HV]
    go_wp2
    go_ret
    exact ⟨rfl, unhide HT⟩
  · have h2 : (3 : Int) ≤ xn := by omega
    clear hn
    go_enter Tryz.func27, Tryz.ntmps27
    go_wp2_with fail
    rw [← unhide HV]
    go_wp2
    go_ret
    exact ⟨rfl, unhide HT⟩
set_option maxRecDepth 100000 in
set_option maxHeartbeats 4000000 in
theorem hstep_sendfar {N : Nat} {w : World} {H : Nat} {o : HOwn} {A : AW} (h : HRep N w H o A) (x : AX) (hx : SmallC x.call) (hk : x.kind = 2) (hn : x.n < 0 ∨ 2 < x.n) :
    Calls Tryz.prog 27 #[.pointer (some ⟨H, 0, none⟩), x.val] w fun e w' => e = .returned (.int .i64 (A.step x).1) ∧ HTurn N w H o w' (A.step x).2 := by
  obtain ⟨V, hV⟩ : ∃ V, V = w.alloc (.cells #[.int .i64 x.kind, .int .i64 x.n, .int .i64 x.keep, .int .i64 x.call.kind, .string x.call.name, .string x.call.dst, .string x.call.text] 69) := ⟨_, rfl⟩
  have hBV : Below w.heap.size w V := by rw [hV]; exact (Below.refl _ _).alloc (Nat.le_refl _) _
  have hXV : V.heap[w.heap.size]? = some (.cells #[.int .i64 x.kind, .int .i64 x.n, .int .i64 x.keep, .int .i64 x.call.kind, .string x.call.name, .string x.call.dst, .string x.call.text] 69 (0, 0)) := by rw [hV]; exact heap_alloc_new _ _
  have hlV : w.heap.size < V.heap.size := (Array.getElem?_eq_some_iff.1 hXV).1
  have hrV := h.below hBV
  have HBV := hide hBV
  have HXV := hide hXV
  have HV := hide hV
  have e1 : A.step x = (9, A) := by unfold AW.step AW.send; rw [if_neg (by omega), if_pos hk, if_pos hn]
  rw [e1]
  have HT := hide (HTurn.of_below h hBV)
  obtain ⟨⟨x0, x1, x2, x3⟩, ⟨x4, x5, x6⟩, xf⟩ := seven hXV
  clear h e1 hV hBV hXV hrV hx
  obtain ⟨xk, xn, xp, ⟨ck, ca, cb, ct⟩⟩ := x
  dsimp only [AX.val] at *
  subst hk
  by_cases h0 : xn < 0
  · clear hn
    go_enter Tryz.func27, Tryz.ntmps27
    go_wp2_with fail
    rw [← unhide HV]
    go_wp2
    go_ret
    exact ⟨rfl, unhide HT⟩
  · have h2 : (3 : Int) ≤ xn := by omega
    clear hn
    go_enter Tryz.func27, Tryz.ntmps27
    go_wp2_with fail
    rw [← unhide HV]
    go_wp2
    go_ret
    exact ⟨rfl, unhide HT⟩
set_option maxRecDepth 100000 in
set_option maxHeartbeats 4000000 in
theorem hstep_crash {N : Nat} {w : World} {H : Nat} {o : HOwn} {A : AW} (h : HRep N w H o A) (x : AX) (hx : SmallC x.call) (hk : x.kind = 6) :
    Calls Tryz.prog 27 #[.pointer (some ⟨H, 0, none⟩), x.val] w fun e w' => e = .returned (.int .i64 (A.step x).1) ∧ HTurn N w H o w' (A.step x).2 := by
  obtain ⟨V, hV⟩ : ∃ V, V = w.alloc (.cells #[.int .i64 x.kind, .int .i64 x.n, .int .i64 x.keep, .int .i64 x.call.kind, .string x.call.name, .string x.call.dst, .string x.call.text] 69) := ⟨_, rfl⟩
  have hBV : Below w.heap.size w V := by rw [hV]; exact (Below.refl _ _).alloc (Nat.le_refl _) _
  have hXV : V.heap[w.heap.size]? = some (.cells #[.int .i64 x.kind, .int .i64 x.n, .int .i64 x.keep, .int .i64 x.call.kind, .string x.call.name, .string x.call.dst, .string x.call.text] 69 (0, 0)) := by rw [hV]; exact heap_alloc_new _ _
  have hlV : w.heap.size < V.heap.size := (Array.getElem?_eq_some_iff.1 hXV).1
  have hrV := h.below hBV
  have HBV := hide hBV
  have HXV := hide hXV
  have HV := hide hV
  have e1 : A.step x = (0, A) := by unfold AW.step; rw [if_neg (by omega), if_neg (by omega), if_neg (by omega), if_neg (by omega), if_pos hk]
  rw [e1]
  have HT := hide (HTurn.of_below h hBV)
  obtain ⟨⟨x0, x1, x2, x3⟩, ⟨x4, x5, x6⟩, xf⟩ := seven hXV
  clear h e1 hV hBV hXV hrV hx
  obtain ⟨xk, xn, xp, ⟨ck, ca, cb, ct⟩⟩ := x
  dsimp only [AX.val] at *
  subst hk
  go_enter Tryz.func27, Tryz.ntmps27
  go_wp2_with fail
  rw [← unhide HV]
  go_wp2
  go_ret
  exact ⟨rfl, unhide HT⟩
set_option maxRecDepth 100000 in
set_option maxHeartbeats 4000000 in
theorem hstep_none {N : Nat} {w : World} {H : Nat} {o : HOwn} {A : AW} (h : HRep N w H o A) (x : AX) (hx : SmallC x.call) (h1 : x.kind ≠ 1) (h2 : x.kind ≠ 2) (h3 : x.kind ≠ 3) (h4 : x.kind ≠ 4) (h5 : x.kind ≠ 5) (h6 : x.kind ≠ 6) (h7 : x.kind ≠ 7) :
    Calls Tryz.prog 27 #[.pointer (some ⟨H, 0, none⟩), x.val] w fun e w' => e = .returned (.int .i64 (A.step x).1) ∧ HTurn N w H o w' (A.step x).2 := by
  obtain ⟨V, hV⟩ : ∃ V, V = w.alloc (.cells #[.int .i64 x.kind, .int .i64 x.n, .int .i64 x.keep, .int .i64 x.call.kind, .string x.call.name, .string x.call.dst, .string x.call.text] 69) := ⟨_, rfl⟩
  have hBV : Below w.heap.size w V := by rw [hV]; exact (Below.refl _ _).alloc (Nat.le_refl _) _
  have hXV : V.heap[w.heap.size]? = some (.cells #[.int .i64 x.kind, .int .i64 x.n, .int .i64 x.keep, .int .i64 x.call.kind, .string x.call.name, .string x.call.dst, .string x.call.text] 69 (0, 0)) := by rw [hV]; exact heap_alloc_new _ _
  have hlV : w.heap.size < V.heap.size := (Array.getElem?_eq_some_iff.1 hXV).1
  have hrV := h.below hBV
  have HBV := hide hBV
  have HXV := hide hXV
  have HV := hide hV
  have e1 : A.step x = (1, A) := by unfold AW.step; rw [if_neg h1, if_neg h2, if_neg h5, if_neg (by omega), if_neg h6]
  rw [e1]
  have HT := hide (HTurn.of_below h hBV)
  obtain ⟨⟨x0, x1, x2, x3⟩, ⟨x4, x5, x6⟩, xf⟩ := seven hXV
  clear h e1 hV hBV hXV hrV hx
  obtain ⟨xk, xn, xp, ⟨ck, ca, cb, ct⟩⟩ := x
  dsimp only [AX.val] at *
  have b1 : (xk == 1) = false := by simpa using h1
  have b2 : (xk == 2) = false := by simpa using h2
  have b3 : (xk == 3) = false := by simpa using h3
  have b4 : (xk == 4) = false := by simpa using h4
  have b5 : (xk == 5) = false := by simpa using h5
  have b6 : (xk == 6) = false := by simpa using h6
  have b7 : (xk == 7) = false := by simpa using h7
  clear h1 h2 h3 h4 h5 h6 h7
  go_enter Tryz.func27, Tryz.ntmps27
  go_wp2_with fail
  rw [← unhide HV]
  go_wp2
  go_ret
  exact ⟨rfl, unhide HT⟩
set_option maxRecDepth 100000 in
set_option maxHeartbeats 4000000 in
theorem hstep_empty {N : Nat} {w : World} {H : Nat} {o : HOwn} {A : AW} (h : HRep N w H o A) (x : AX) (hx : SmallC x.call) (hk : x.kind = 3 ∨ x.kind = 4 ∨ x.kind = 5 ∨ x.kind = 7) (h0 : A.ms.length = 0) :
    Calls Tryz.prog 27 #[.pointer (some ⟨H, 0, none⟩), x.val] w fun e w' => e = .returned (.int .i64 (A.step x).1) ∧ HTurn N w H o w' (A.step x).2 := by
  obtain ⟨V, hV⟩ : ∃ V, V = w.alloc (.cells #[.int .i64 x.kind, .int .i64 x.n, .int .i64 x.keep, .int .i64 x.call.kind, .string x.call.name, .string x.call.dst, .string x.call.text] 69) := ⟨_, rfl⟩
  have hBV : Below w.heap.size w V := by rw [hV]; exact (Below.refl _ _).alloc (Nat.le_refl _) _
  have hXV : V.heap[w.heap.size]? = some (.cells #[.int .i64 x.kind, .int .i64 x.n, .int .i64 x.keep, .int .i64 x.call.kind, .string x.call.name, .string x.call.dst, .string x.call.text] 69 (0, 0)) := by rw [hV]; exact heap_alloc_new _ _
  have hlV : w.heap.size < V.heap.size := (Array.getElem?_eq_some_iff.1 hXV).1
  have hrV := h.below hBV
  have HBV := hide hBV
  have HXV := hide hXV
  have HV := hide hV
  have e1 : A.step x = (6, A) := by
    unfold AW.step AW.take AW.dbl
    rw [if_neg (by omega), if_neg (by omega), if_pos h0, if_pos h0]
    by_cases h5 : x.kind = 5
    · rw [if_pos h5]
    · rw [if_neg h5, if_pos (by omega)]
  rw [e1]
  have HT := hide (HTurn.of_below h hBV)
  obtain ⟨pa, pcap, hpf⟩ := h.bag.form
  rw [h0] at hpf
  have hcp := h.bag.can.1
  rw [hpf] at hcp
  have hHl := h.lt
  obtain ⟨⟨x0, x1, x2, x3⟩, ⟨x4, x5, x6⟩, xf⟩ := seven hXV
  clear h e1 hV hBV hXV hrV hx hpf h0
  obtain ⟨xk, xn, xp, ⟨ck, ca, cb, ct⟩⟩ := x
  dsimp only [AX.val] at *
  rcases hk with rfl | rfl | rfl | rfl
  · go_enter Tryz.func27, Tryz.ntmps27
    go_wp2_with fail
    rw [← unhide HV]
    go_wp2
    go_ret
    exact ⟨rfl, unhide HT⟩
  · go_enter Tryz.func27, Tryz.ntmps27
    go_wp2_with fail
    rw [← unhide HV]
    go_wp2
    go_ret
    exact ⟨rfl, unhide HT⟩
  · go_enter Tryz.func27, Tryz.ntmps27
    go_wp2_with fail
    rw [← unhide HV]
    go_wp2
    go_ret
    exact ⟨rfl, unhide HT⟩
  · go_enter Tryz.func27, Tryz.ntmps27
    go_wp2_with fail
    rw [← unhide HV]
    go_wp2
    go_ret
    exact ⟨rfl, unhide HT⟩
set_option maxRecDepth 100000 in
set_option maxHeartbeats 4000000 in
theorem hstep_call0 {N : Nat} {w : World} {H : Nat} {o : HOwn} {A : AW} (h : HRep N w H o A) (x : AX) (hx : SmallC x.call) (hk : x.kind = 1) (hn : x.n = 0) :
    Calls Tryz.prog 27 #[.pointer (some ⟨H, 0, none⟩), x.val] w fun e w' => e = .returned (.int .i64 (A.step x).1) ∧ HTurn N w H o w' (A.step x).2 := by
  obtain ⟨V, hV⟩ : ∃ V, V = w.alloc (.cells #[.int .i64 x.kind, .int .i64 x.n, .int .i64 x.keep, .int .i64 x.call.kind, .string x.call.name, .string x.call.dst, .string x.call.text] 69) := ⟨_, rfl⟩
  have hBV : Below w.heap.size w V := by rw [hV]; exact (Below.refl _ _).alloc (Nat.le_refl _) _
  have hXV : V.heap[w.heap.size]? = some (.cells #[.int .i64 x.kind, .int .i64 x.n, .int .i64 x.keep, .int .i64 x.call.kind, .string x.call.name, .string x.call.dst, .string x.call.text] 69 (0, 0)) := by rw [hV]; exact heap_alloc_new _ _
  have hlV : w.heap.size < V.heap.size := (Array.getElem?_eq_some_iff.1 hXV).1
  have hrV := h.below hBV
  have HBV := hide hBV
  have HXV := hide hXV
  have HV := hide hV
  have e1 : A.step x = ((A.cl 0).ask x.call, ⟨A.log, upd A.cl 0 ((A.cl 0).asked x.call), A.ms⟩) := by unfold AW.step AW.have; rw [if_pos hk, hn, if_neg (by omega)]; rfl
  rw [e1]
  have HG : Hid (Calls Tryz.prog 50 #[.pointer (some ⟨H, 1, none⟩), .agg #[.int .i64 x.call.kind, .string x.call.name, .string x.call.dst, .string x.call.text]] V.drew fun e w' => e = .returned (.int .i64 ((A.cl 0).ask x.call)) ∧ GTurnH (FG o A 0) 42 N V.drew H (o.v 0) w' ((A.cl 0).asked x.call) ((A.cl 0).keepsA (o.y 0) x.call)) := Ask_anyH ((hrV.below (below_drew V)).guest (n := 0) (by omega)) x.call hx
  have HT := hide (fun w1 (hT : GTurnH (FG o A 0) 42 N V.drew H (o.v 0) w1 ((A.cl 0).asked x.call) ((A.cl 0).keepsA (o.y 0) x.call)) => ((hrV.below (below_drew V)).turnG (n := 0) (by omega) hT ((h.ok 0 (by omega)).asked hx) (keepsA_ok (h.keeps 0 (by omega)))).before (hBV.trans ((below_drew V).mono hBV.size)) h.size)
  have HNB : Hid (w.heap.size ∉ powns H (o.v 0)) := fun hm => by
    rcases List.mem_cons.1 hm with e | e
    · have := h.lt; omega
    · have := ((h.crow 0 (by omega)).lt _ (by simpa using e)).2; omega
  obtain ⟨⟨x0, x1, x2, x3⟩, ⟨x4, x5, x6⟩, xf⟩ := seven hXV
  generalize (A.cl 0).asked x.call = c' at HG HT ⊢
  generalize (A.cl 0).ask x.call = cc at HG ⊢
  generalize (A.cl 0).keepsA (o.y 0) x.call = yy at HG HT
  generalize o.v 0 = vv at HG HT HNB
  clear h e1 hV hBV hXV hrV hx
  obtain ⟨xk, xn, xp, ⟨ck, ca, cb, ct⟩⟩ := x
  dsimp only [AX.val] at *
  subst hk hn
  go_enter Tryz.func27, Tryz.ntmps27
  go_wp2_with fail
  rw [← unhide HV]
  clear x0 x1 x2 x3 x4 x5 x6 xf
  refine wp_region_held_drew (S := (fun wx => wx.heap[w.heap.size]? = V.heap[w.heap.size]?)) (by kernel_rfl) (rfl) (fun hHeld => ?_)
  refine tkH ?_ opn0 (fun _ _ _ h => h) hHeld ?_ ?_
  rotate_left 1
  · intro wz hSw; (try dsimp only at hSw); go_simp; all_goals with_reducible rfl
  try simp only [pS]
  refine tkH ?_ opn1 (fun _ _ _ h => h) hHeld ?_ ?_
  rotate_left 1
  · intro wz hSw; (try dsimp only at hSw); go_simp; all_goals with_reducible rfl
  try simp only [pS]
  refine tkH ?_ opn2 (fun _ _ _ h => h) hHeld ?_ ?_
  rotate_left 1
  · intro wz hSw; (try dsimp only at hSw)
    obtain ⟨⟨x0, x1, x2, x3⟩, ⟨x4, x5, x6⟩, xf⟩ := seven (hSw.trans (unhide HXV))
    go_simp; all_goals with_reducible rfl
  try simp only [pS]
  refine tkH ?_ opn3 (fun _ _ _ h => h) hHeld ?_ ?_
  rotate_left 1
  · intro wz hSw; (try dsimp only at hSw); go_simp; all_goals with_reducible rfl
  try simp only [pS]
  refine tkH ?_ opn4 (fun _ _ _ h => h) hHeld ?_ ?_
  rotate_left 1
  · intro wz hSw; (try dsimp only at hSw); go_simp; all_goals with_reducible rfl
  try simp only [pS]
  refine tkH ?_ opn5 (fun _ _ _ h => h) hHeld ?_ ?_
  rotate_left 1
  · intro wz hSw; (try dsimp only at hSw); go_simp; all_goals with_reducible rfl
  try simp only [pS]
  refine tkH ?_ opn6 (fun _ _ _ h => h) hHeld ?_ ?_
  rotate_left 1
  · intro wz hSw; (try dsimp only at hSw); go_simp; all_goals with_reducible rfl
  try simp only [pS]
  refine tkH ?_ opn7 (fun _ _ _ h => h) hHeld ?_ ?_
  rotate_left 1
  · intro wz hSw; (try dsimp only at hSw)
    obtain ⟨⟨x0, x1, x2, x3⟩, ⟨x4, x5, x6⟩, xf⟩ := seven (hSw.trans (unhide HXV))
    go_simp; all_goals with_reducible rfl
  try simp only [pS]
  refine wpAnyH_ready (rs := [8]) (by kernel_rfl) (by simp) ?_
  refine AllReadyH.cons opn8 (fun K hK => ?_) AllReadyH.nil
  rw [if_pos (by kernel_rfl)]
  go_simp
  refine (unhide HG).mono ?_
  rintro e w1 ⟨rfl, hT⟩
  have hk2 : w1.heap[w.heap.size]? = V.heap[w.heap.size]? := hT.blk hlV (unhide HNB)
  have HT3 := hide ((unhide HT) _ hT)
  clear hT
  refine hK.out _ _ (hk2) (fun hHeldN => ?_)
  clear hHeld hK K; have hHeld := hHeldN; clear hHeldN
  try simp only [pS]
  refine tkH ?_ opn9 (fun _ _ _ h => h) hHeld ?_ ?_
  rotate_left 1
  · intro wz hSw; (try dsimp only at hSw); go_simp; all_goals with_reducible rfl
  try simp only [pS]
  refine wpAnyH_done (by kernel_rfl) ?_ _
  clear hHeld hk2
  go_wp2
  go_ret
  exact ⟨rfl, unhide HT3⟩
set_option maxRecDepth 100000 in
set_option maxHeartbeats 4000000 in
theorem hstep_call1 {N : Nat} {w : World} {H : Nat} {o : HOwn} {A : AW} (h : HRep N w H o A) (x : AX) (hx : SmallC x.call) (hk : x.kind = 1) (hn : x.n = 1) :
    Calls Tryz.prog 27 #[.pointer (some ⟨H, 0, none⟩), x.val] w fun e w' => e = .returned (.int .i64 (A.step x).1) ∧ HTurn N w H o w' (A.step x).2 := by
  obtain ⟨V, hV⟩ : ∃ V, V = w.alloc (.cells #[.int .i64 x.kind, .int .i64 x.n, .int .i64 x.keep, .int .i64 x.call.kind, .string x.call.name, .string x.call.dst, .string x.call.text] 69) := ⟨_, rfl⟩
  have hBV : Below w.heap.size w V := by rw [hV]; exact (Below.refl _ _).alloc (Nat.le_refl _) _
  have hXV : V.heap[w.heap.size]? = some (.cells #[.int .i64 x.kind, .int .i64 x.n, .int .i64 x.keep, .int .i64 x.call.kind, .string x.call.name, .string x.call.dst, .string x.call.text] 69 (0, 0)) := by rw [hV]; exact heap_alloc_new _ _
  have hlV : w.heap.size < V.heap.size := (Array.getElem?_eq_some_iff.1 hXV).1
  have hrV := h.below hBV
  have HBV := hide hBV
  have HXV := hide hXV
  have HV := hide hV
  have e1 : A.step x = ((A.cl 1).ask x.call, ⟨A.log, upd A.cl 1 ((A.cl 1).asked x.call), A.ms⟩) := by unfold AW.step AW.have; rw [if_pos hk, hn, if_neg (by omega)]; rfl
  rw [e1]
  have HG : Hid (Calls Tryz.prog 50 #[.pointer (some ⟨H, 9, none⟩), .agg #[.int .i64 x.call.kind, .string x.call.name, .string x.call.dst, .string x.call.text]] V.drew fun e w' => e = .returned (.int .i64 ((A.cl 1).ask x.call)) ∧ GTurnH (FG o A 1) 42 N V.drew H (o.v 1) w' ((A.cl 1).asked x.call) ((A.cl 1).keepsA (o.y 1) x.call)) := Ask_anyH ((hrV.below (below_drew V)).guest (n := 1) (by omega)) x.call hx
  have HT := hide (fun w1 (hT : GTurnH (FG o A 1) 42 N V.drew H (o.v 1) w1 ((A.cl 1).asked x.call) ((A.cl 1).keepsA (o.y 1) x.call)) => ((hrV.below (below_drew V)).turnG (n := 1) (by omega) hT ((h.ok 1 (by omega)).asked hx) (keepsA_ok (h.keeps 1 (by omega)))).before (hBV.trans ((below_drew V).mono hBV.size)) h.size)
  have HNB : Hid (w.heap.size ∉ powns H (o.v 1)) := fun hm => by
    rcases List.mem_cons.1 hm with e | e
    · have := h.lt; omega
    · have := ((h.crow 1 (by omega)).lt _ (by simpa using e)).2; omega
  obtain ⟨⟨x0, x1, x2, x3⟩, ⟨x4, x5, x6⟩, xf⟩ := seven hXV
  generalize (A.cl 1).asked x.call = c' at HG HT ⊢
  generalize (A.cl 1).ask x.call = cc at HG ⊢
  generalize (A.cl 1).keepsA (o.y 1) x.call = yy at HG HT
  generalize o.v 1 = vv at HG HT HNB
  clear h e1 hV hBV hXV hrV hx
  obtain ⟨xk, xn, xp, ⟨ck, ca, cb, ct⟩⟩ := x
  dsimp only [AX.val] at *
  subst hk hn
  go_enter Tryz.func27, Tryz.ntmps27
  go_wp2_with fail
  rw [← unhide HV]
  clear x0 x1 x2 x3 x4 x5 x6 xf
  refine wp_region_held_drew (S := (fun wx => wx.heap[w.heap.size]? = V.heap[w.heap.size]?)) (by kernel_rfl) (rfl) (fun hHeld => ?_)
  refine tkH ?_ opn0 (fun _ _ _ h => h) hHeld ?_ ?_
  rotate_left 1
  · intro wz hSw; (try dsimp only at hSw); go_simp; all_goals with_reducible rfl
  try simp only [pS]
  refine tkH ?_ opn1 (fun _ _ _ h => h) hHeld ?_ ?_
  rotate_left 1
  · intro wz hSw; (try dsimp only at hSw); go_simp; all_goals with_reducible rfl
  try simp only [pS]
  refine tkH ?_ opn2 (fun _ _ _ h => h) hHeld ?_ ?_
  rotate_left 1
  · intro wz hSw; (try dsimp only at hSw)
    obtain ⟨⟨x0, x1, x2, x3⟩, ⟨x4, x5, x6⟩, xf⟩ := seven (hSw.trans (unhide HXV))
    go_simp; all_goals with_reducible rfl
  try simp only [pS]
  refine tkH ?_ opn3 (fun _ _ _ h => h) hHeld ?_ ?_
  rotate_left 1
  · intro wz hSw; (try dsimp only at hSw); go_simp; all_goals with_reducible rfl
  try simp only [pS]
  refine tkH ?_ opn4 (fun _ _ _ h => h) hHeld ?_ ?_
  rotate_left 1
  · intro wz hSw; (try dsimp only at hSw); go_simp; all_goals with_reducible rfl
  try simp only [pS]
  refine tkH ?_ opn5 (fun _ _ _ h => h) hHeld ?_ ?_
  rotate_left 1
  · intro wz hSw; (try dsimp only at hSw); go_simp; all_goals with_reducible rfl
  try simp only [pS]
  refine tkH ?_ opn6 (fun _ _ _ h => h) hHeld ?_ ?_
  rotate_left 1
  · intro wz hSw; (try dsimp only at hSw); go_simp; all_goals with_reducible rfl
  try simp only [pS]
  refine tkH ?_ opn7 (fun _ _ _ h => h) hHeld ?_ ?_
  rotate_left 1
  · intro wz hSw; (try dsimp only at hSw)
    obtain ⟨⟨x0, x1, x2, x3⟩, ⟨x4, x5, x6⟩, xf⟩ := seven (hSw.trans (unhide HXV))
    go_simp; all_goals with_reducible rfl
  try simp only [pS]
  refine wpAnyH_ready (rs := [8]) (by kernel_rfl) (by simp) ?_
  refine AllReadyH.cons opn8 (fun K hK => ?_) AllReadyH.nil
  rw [if_pos (by kernel_rfl)]
  go_simp
  refine (unhide HG).mono ?_
  rintro e w1 ⟨rfl, hT⟩
  have hk2 : w1.heap[w.heap.size]? = V.heap[w.heap.size]? := hT.blk hlV (unhide HNB)
  have HT3 := hide ((unhide HT) _ hT)
  clear hT
  refine hK.out _ _ (hk2) (fun hHeldN => ?_)
  clear hHeld hK K; have hHeld := hHeldN; clear hHeldN
  try simp only [pS]
  refine tkH ?_ opn9 (fun _ _ _ h => h) hHeld ?_ ?_
  rotate_left 1
  · intro wz hSw; (try dsimp only at hSw); go_simp; all_goals with_reducible rfl
  try simp only [pS]
  refine wpAnyH_done (by kernel_rfl) ?_ _
  clear hHeld hk2
  go_wp2
  go_ret
  exact ⟨rfl, unhide HT3⟩
set_option maxRecDepth 100000 in
set_option maxHeartbeats 4000000 in
theorem hstep_call2 {N : Nat} {w : World} {H : Nat} {o : HOwn} {A : AW} (h : HRep N w H o A) (x : AX) (hx : SmallC x.call) (hk : x.kind = 1) (hn : x.n = 2) :
    Calls Tryz.prog 27 #[.pointer (some ⟨H, 0, none⟩), x.val] w fun e w' => e = .returned (.int .i64 (A.step x).1) ∧ HTurn N w H o w' (A.step x).2 := by
  obtain ⟨V, hV⟩ : ∃ V, V = w.alloc (.cells #[.int .i64 x.kind, .int .i64 x.n, .int .i64 x.keep, .int .i64 x.call.kind, .string x.call.name, .string x.call.dst, .string x.call.text] 69) := ⟨_, rfl⟩
  have hBV : Below w.heap.size w V := by rw [hV]; exact (Below.refl _ _).alloc (Nat.le_refl _) _
  have hXV : V.heap[w.heap.size]? = some (.cells #[.int .i64 x.kind, .int .i64 x.n, .int .i64 x.keep, .int .i64 x.call.kind, .string x.call.name, .string x.call.dst, .string x.call.text] 69 (0, 0)) := by rw [hV]; exact heap_alloc_new _ _
  have hlV : w.heap.size < V.heap.size := (Array.getElem?_eq_some_iff.1 hXV).1
  have hrV := h.below hBV
  have HBV := hide hBV
  have HXV := hide hXV
  have HV := hide hV
  have e1 : A.step x = ((A.cl 2).ask x.call, ⟨A.log, upd A.cl 2 ((A.cl 2).asked x.call), A.ms⟩) := by unfold AW.step AW.have; rw [if_pos hk, hn, if_neg (by omega)]; rfl
  rw [e1]
  have HG : Hid (Calls Tryz.prog 50 #[.pointer (some ⟨H, 17, none⟩), .agg #[.int .i64 x.call.kind, .string x.call.name, .string x.call.dst, .string x.call.text]] V.drew fun e w' => e = .returned (.int .i64 ((A.cl 2).ask x.call)) ∧ GTurnH (FG o A 2) 42 N V.drew H (o.v 2) w' ((A.cl 2).asked x.call) ((A.cl 2).keepsA (o.y 2) x.call)) := Ask_anyH ((hrV.below (below_drew V)).guest (n := 2) (by omega)) x.call hx
  have HT := hide (fun w1 (hT : GTurnH (FG o A 2) 42 N V.drew H (o.v 2) w1 ((A.cl 2).asked x.call) ((A.cl 2).keepsA (o.y 2) x.call)) => ((hrV.below (below_drew V)).turnG (n := 2) (by omega) hT ((h.ok 2 (by omega)).asked hx) (keepsA_ok (h.keeps 2 (by omega)))).before (hBV.trans ((below_drew V).mono hBV.size)) h.size)
  have HNB : Hid (w.heap.size ∉ powns H (o.v 2)) := fun hm => by
    rcases List.mem_cons.1 hm with e | e
    · have := h.lt; omega
    · have := ((h.crow 2 (by omega)).lt _ (by simpa using e)).2; omega
  obtain ⟨⟨x0, x1, x2, x3⟩, ⟨x4, x5, x6⟩, xf⟩ := seven hXV
  generalize (A.cl 2).asked x.call = c' at HG HT ⊢
  generalize (A.cl 2).ask x.call = cc at HG ⊢
  generalize (A.cl 2).keepsA (o.y 2) x.call = yy at HG HT
  generalize o.v 2 = vv at HG HT HNB
  clear h e1 hV hBV hXV hrV hx
  obtain ⟨xk, xn, xp, ⟨ck, ca, cb, ct⟩⟩ := x
  dsimp only [AX.val] at *
  subst hk hn
  go_enter Tryz.func27, Tryz.ntmps27
  go_wp2_with fail
  rw [← unhide HV]
  clear x0 x1 x2 x3 x4 x5 x6 xf
  refine wp_region_held_drew (S := (fun wx => wx.heap[w.heap.size]? = V.heap[w.heap.size]?)) (by kernel_rfl) (rfl) (fun hHeld => ?_)
  refine tkH ?_ opn0 (fun _ _ _ h => h) hHeld ?_ ?_
  rotate_left 1
  · intro wz hSw; (try dsimp only at hSw); go_simp; all_goals with_reducible rfl
  try simp only [pS]
  refine tkH ?_ opn1 (fun _ _ _ h => h) hHeld ?_ ?_
  rotate_left 1
  · intro wz hSw; (try dsimp only at hSw); go_simp; all_goals with_reducible rfl
  try simp only [pS]
  refine tkH ?_ opn2 (fun _ _ _ h => h) hHeld ?_ ?_
  rotate_left 1
  · intro wz hSw; (try dsimp only at hSw)
    obtain ⟨⟨x0, x1, x2, x3⟩, ⟨x4, x5, x6⟩, xf⟩ := seven (hSw.trans (unhide HXV))
    go_simp; all_goals with_reducible rfl
  try simp only [pS]
  refine tkH ?_ opn3 (fun _ _ _ h => h) hHeld ?_ ?_
  rotate_left 1
  · intro wz hSw; (try dsimp only at hSw); go_simp; all_goals with_reducible rfl
  try simp only [pS]
  refine tkH ?_ opn4 (fun _ _ _ h => h) hHeld ?_ ?_
  rotate_left 1
  · intro wz hSw; (try dsimp only at hSw); go_simp; all_goals with_reducible rfl
  try simp only [pS]
  refine tkH ?_ opn5 (fun _ _ _ h => h) hHeld ?_ ?_
  rotate_left 1
  · intro wz hSw; (try dsimp only at hSw); go_simp; all_goals with_reducible rfl
  try simp only [pS]
  refine tkH ?_ opn6 (fun _ _ _ h => h) hHeld ?_ ?_
  rotate_left 1
  · intro wz hSw; (try dsimp only at hSw); go_simp; all_goals with_reducible rfl
  try simp only [pS]
  refine tkH ?_ opn7 (fun _ _ _ h => h) hHeld ?_ ?_
  rotate_left 1
  · intro wz hSw; (try dsimp only at hSw)
    obtain ⟨⟨x0, x1, x2, x3⟩, ⟨x4, x5, x6⟩, xf⟩ := seven (hSw.trans (unhide HXV))
    go_simp; all_goals with_reducible rfl
  try simp only [pS]
  refine wpAnyH_ready (rs := [8]) (by kernel_rfl) (by simp) ?_
  refine AllReadyH.cons opn8 (fun K hK => ?_) AllReadyH.nil
  rw [if_pos (by kernel_rfl)]
  go_simp
  refine (unhide HG).mono ?_
  rintro e w1 ⟨rfl, hT⟩
  have hk2 : w1.heap[w.heap.size]? = V.heap[w.heap.size]? := hT.blk hlV (unhide HNB)
  have HT3 := hide ((unhide HT) _ hT)
  clear hT
  refine hK.out _ _ (hk2) (fun hHeldN => ?_)
  clear hHeld hK K; have hHeld := hHeldN; clear hHeldN
  try simp only [pS]
  refine tkH ?_ opn9 (fun _ _ _ h => h) hHeld ?_ ?_
  rotate_left 1
  · intro wz hSw; (try dsimp only at hSw); go_simp; all_goals with_reducible rfl
  try simp only [pS]
  refine wpAnyH_done (by kernel_rfl) ?_ _
  clear hHeld hk2
  go_wp2
  go_ret
  exact ⟨rfl, unhide HT3⟩
set_option maxRecDepth 100000 in
set_option maxHeartbeats 4000000 in
theorem hstep_double {N : Nat} {w : World} {H : Nat} {o : HOwn} {A : AW} (h : HRep N w H o A) (x : AX) (hx : SmallC x.call) (hk : x.kind = 5) (h0 : A.ms.length ≠ 0) :
    Calls Tryz.prog 27 #[.pointer (some ⟨H, 0, none⟩), x.val] w fun e w' => e = .returned (.int .i64 (A.step x).1) ∧ HTurn N w H o w' (A.step x).2 := by
  obtain ⟨V, hV⟩ : ∃ V, V = w.alloc (.cells #[.int .i64 x.kind, .int .i64 x.n, .int .i64 x.keep, .int .i64 x.call.kind, .string x.call.name, .string x.call.dst, .string x.call.text] 69) := ⟨_, rfl⟩
  have hBV : Below w.heap.size w V := by rw [hV]; exact (Below.refl _ _).alloc (Nat.le_refl _) _
  have hXV : V.heap[w.heap.size]? = some (.cells #[.int .i64 x.kind, .int .i64 x.n, .int .i64 x.keep, .int .i64 x.call.kind, .string x.call.name, .string x.call.dst, .string x.call.text] 69 (0, 0)) := by rw [hV]; exact heap_alloc_new _ _
  have hlV : w.heap.size < V.heap.size := (Array.getElem?_eq_some_iff.1 hXV).1
  have hrV := h.below hBV
  have HBV := hide hBV
  have HXV := hide hXV
  have HV := hide hV
  have e1 : A.step x = A.dbl x.n := by unfold AW.step; rw [if_neg (by omega), if_neg (by omega), if_pos hk]
  rw [e1]
  have e2 : A.dbl x.n = (if A.ms.length < 40 then (0, ⟨A.log, A.cl, aDblL A.ms x.n⟩) else (7, A)) := by unfold AW.dbl; rw [if_neg h0]
  have HD := hide (BDbl_anyH (hrV.below (below_drew V)).bag x.n)
  have HT := hide (fun w1 (hT : PTurnH (FP o A) 42 N V.drew H o.pv w1 (aDblL A.ms x.n)) => ((hrV.below (below_drew V)).turnP hT).before (hBV.trans ((below_drew V).mono hBV.size)) h.size)
  have HNB : Hid (w.heap.size ∉ powns H o.pv) := fun hm => by
    rcases List.mem_cons.1 hm with e | e
    · have := h.lt; omega
    · have := (h.prow.lt _ (by simpa using e)).2; omega
  have hB : aDblB A.ms = decide (A.ms.length < 40) := by unfold aDblB; by_cases h4 : A.ms.length < 40 <;> simp [h4] <;> omega
  rw [hB] at HD
  have HSTAY : Hid (¬ A.ms.length < 40 → aDblL A.ms x.n = A.ms) := fun h4 => by
    unfold aDblL aSend
    first | (rw [if_neg h4]; done) | (split <;> first | rfl | (rw [if_neg h4]; done) | omega)
  obtain ⟨pa, pcap, hpf⟩ := h.bag.form
  have hcp := h.bag.can.1
  rw [hpf] at hcp
  have hHl := h.lt
  have hlen : (A.ms.length : Int) ≠ 0 := by omega
  obtain ⟨ln, hln⟩ : ∃ ln, A.ms.length = ln := ⟨_, rfl⟩
  rw [hln] at hcp hlen
  have hlb : ((ln : Int) == 0) = false := by simpa using hlen
  obtain ⟨⟨x0, x1, x2, x3⟩, ⟨x4, x5, x6⟩, xf⟩ := seven hXV
  clear h hV hBV hXV hrV hx hpf h0 e1 hB hlen
  obtain ⟨xk, xn, xp, ⟨ck, ca, cb, ct⟩⟩ := x
  dsimp only [AX.val] at *
  subst hk
  have HLN := hide hln
  have HE2 := hide e2
  clear e2 hln
  go_enter Tryz.func27, Tryz.ntmps27
  go_wp2_with fail
  rw [← unhide HV]
  clear x0 x1 x2 x3 x4 x5 x6 xf
  clear hcp hHl
  refine wp_region_held_drew (S := (fun wx => wx.heap[w.heap.size]? = V.heap[w.heap.size]?)) (by kernel_rfl) (rfl) (fun hHeld => ?_)
  refine tkH ?_ opn0 (fun _ _ _ h => h) hHeld ?_ ?_
  rotate_left 1
  · intro wz hSw; (try dsimp only at hSw); go_simp; all_goals with_reducible rfl
  try simp only [pS]
  refine tkH ?_ opn1 (fun _ _ _ h => h) hHeld ?_ ?_
  rotate_left 1
  · intro wz hSw; (try dsimp only at hSw); go_simp; all_goals with_reducible rfl
  try simp only [pS]
  refine tkH ?_ opn2 (fun _ _ _ h => h) hHeld ?_ ?_
  rotate_left 1
  · intro wz hSw; (try dsimp only at hSw); go_simp; all_goals with_reducible rfl
  try simp only [pS]
  refine tkH ?_ opn3 (fun _ _ _ h => h) hHeld ?_ ?_
  rotate_left 1
  · intro wz hSw; (try dsimp only at hSw); go_simp; all_goals with_reducible rfl
  try simp only [pS]
  refine tkH ?_ opn4 (fun _ _ _ h => h) hHeld ?_ ?_
  rotate_left 1
  · intro wz hSw; (try dsimp only at hSw)
    obtain ⟨⟨x0, x1, x2, x3⟩, ⟨x4, x5, x6⟩, xf⟩ := seven (hSw.trans (unhide HXV))
    go_simp; all_goals with_reducible rfl
  try simp only [pS]
  refine wpAnyH_ready (rs := [5]) (by kernel_rfl) (by simp) ?_
  refine AllReadyH.cons opn5 (fun K hK => ?_) AllReadyH.nil
  rw [if_pos (by kernel_rfl)]
  go_simp
  refine (unhide HD).mono ?_
  rintro e w1 ⟨rfl, hT⟩
  have hk2 : w1.heap[w.heap.size]? = V.heap[w.heap.size]? := hT.same hlV (unhide HNB)
  have HT3 := hide ((unhide HT) _ hT)
  clear hT
  by_cases h4 : A.ms.length < 40
  · rw [decide_eq_true h4]
    refine hK.out _ _ (hk2) (fun hHeldN => ?_)
    clear hHeld hK K; have hHeld := hHeldN; clear hHeldN
    try simp only [pS]
    refine tkH (.bool false) opn6 (fun _ _ _ h => h) hHeld ?_ ?_
    · intro wz hSw; (try dsimp only at hSw); go_simp; all_goals with_reducible rfl
    try simp only [pS]
    refine wpAnyH_done (by kernel_rfl) ?_ _
    clear hHeld hk2
    go_wp2
    go_ret
    rw [unhide HE2, if_pos h4]
    exact ⟨rfl, unhide HT3⟩
  · rw [decide_eq_false h4]
    refine hK.out _ _ (hk2) (fun hHeldN => ?_)
    clear hHeld hK K; have hHeld := hHeldN; clear hHeldN
    try simp only [pS]
    refine tkH (.bool true) opn6 (fun _ _ _ h => h) hHeld ?_ ?_
    · intro wz hSw; (try dsimp only at hSw); go_simp; all_goals with_reducible rfl
    try simp only [pS]
    refine wpAnyH_done (by kernel_rfl) ?_ _
    clear hHeld hk2
    go_wp2
    go_ret
    rw [unhide HE2, if_neg h4]
    have HT4 := unhide HT3
    rw [(unhide HSTAY) h4] at HT4
    exact ⟨rfl, HT4⟩
set_option maxRecDepth 100000 in
set_option maxHeartbeats 4000000 in
theorem hstep_send0 {N : Nat} {w : World} {H : Nat} {o : HOwn} {A : AW} (h : HRep N w H o A) (x : AX) (hx : SmallC x.call) (hk : x.kind = 2) (hn : x.n = 0) :
    Calls Tryz.prog 27 #[.pointer (some ⟨H, 0, none⟩), x.val] w fun e w' => e = .returned (.int .i64 (A.step x).1) ∧ HTurn N w H o w' (A.step x).2 := by
  obtain ⟨V, hV⟩ : ∃ V, V = w.alloc (.cells #[.int .i64 x.kind, .int .i64 x.n, .int .i64 x.keep, .int .i64 x.call.kind, .string x.call.name, .string x.call.dst, .string x.call.text] 69) := ⟨_, rfl⟩
  have hBV : Below w.heap.size w V := by rw [hV]; exact (Below.refl _ _).alloc (Nat.le_refl _) _
  have hXV : V.heap[w.heap.size]? = some (.cells #[.int .i64 x.kind, .int .i64 x.n, .int .i64 x.keep, .int .i64 x.call.kind, .string x.call.name, .string x.call.dst, .string x.call.text] 69 (0, 0)) := by rw [hV]; exact heap_alloc_new _ _
  have hlV : w.heap.size < V.heap.size := (Array.getElem?_eq_some_iff.1 hXV).1
  have hrV := h.below hBV
  have HBV := hide hBV
  have HXV := hide hXV
  have HV := hide hV
  have e1 : A.step x = (if (A.cl 0).op = false then (6, A) else if A.ms.length < 40 then (0, ⟨A.log, A.cl, aSend A.ms (A.cl 0).pkt⟩) else (7, A)) := by unfold AW.step AW.send; rw [if_neg (by omega), if_pos hk, hn, if_neg (by omega)]; rfl
  generalize A.step x = R at e1 ⊢
  have HRES := hide e1
  have hNw := h.size
  have HTK : Hid (∀ W', Below V.heap.size V W' → Calls Tryz.prog 51 #[.pointer (some ⟨H, 1, none⟩)] W' fun e w' => e = .returned (.tuple #[(A.cl 0).pkt.val, .bool (A.cl 0).op]) ∧ Below W'.heap.size W' w') := fun W' hb => GSend_anyH ((hrV.below hb).guest (n := 0) (by omega))
  have HTP := hide (fun W' w1 (hb : Below V.heap.size V W') (hb1 : Below W'.heap.size W' w1) => HTurn.of_below (hrV.below hb) hb1)
  have HKA : Hid (∀ b, w.heap.size ≤ b → b ∉ o.all H) := fun b hb => h.not_new hb
  have HSM : Hid (SmallP (A.cl 0).pkt) := pkt_small (h.ok 0 (by omega))
  generalize (A.cl 0).pkt = p at HTK HSM HRES
  generalize (A.cl 0).op = op at HTK HRES
  obtain ⟨⟨x0, x1, x2, x3⟩, ⟨x4, x5, x6⟩, xf⟩ := seven hXV
  clear h e1 hV hBV hXV hrV hx
  obtain ⟨pr, pc, pn, ⟨pk, pa, pb, pt⟩, pd, pu⟩ := p
  obtain ⟨xk, xn, xp, ⟨ck, ca, cb, ct⟩⟩ := x
  dsimp only [AX.val] at *
  dsimp only [APkt.val] at *
  subst hk hn
  go_enter Tryz.func27, Tryz.ntmps27
  go_wp2_with fail
  rw [← unhide HV]
  clear x0 x1 x2 x3 x4 x5 x6 xf
  refine wp_region_held_drew (S := (fun wx => wx.heap[w.heap.size]? = V.heap[w.heap.size]?)) (by kernel_rfl) (rfl) (fun hHeld => ?_)
  refine tkH ?_ opn0 (fun _ _ _ h => h) hHeld ?_ ?_
  rotate_left 1
  · intro wz hSw; (try dsimp only at hSw); go_simp; all_goals with_reducible rfl
  try simp only [pS]
  refine tkH ?_ opn1 (fun _ _ _ h => h) hHeld ?_ ?_
  rotate_left 1
  · intro wz hSw; (try dsimp only at hSw); go_simp; all_goals with_reducible rfl
  try simp only [pS]
  refine tkH ?_ opn2 (fun _ _ _ h => h) hHeld ?_ ?_
  rotate_left 1
  · intro wz hSw; (try dsimp only at hSw)
    obtain ⟨⟨x0, x1, x2, x3⟩, ⟨x4, x5, x6⟩, xf⟩ := seven (hSw.trans (unhide HXV))
    go_simp; all_goals with_reducible rfl
  try simp only [pS]
  refine tkH ?_ opn3 (fun _ _ _ h => h) hHeld ?_ ?_
  rotate_left 1
  · intro wz hSw; (try dsimp only at hSw); go_simp; all_goals with_reducible rfl
  try simp only [pS]
  refine tkH ?_ opn4 (fun _ _ _ h => h) hHeld ?_ ?_
  rotate_left 1
  · intro wz hSw; (try dsimp only at hSw); go_simp; all_goals with_reducible rfl
  try simp only [pS]
  refine tkH ?_ opn5 (fun _ _ _ h => h) hHeld ?_ ?_
  rotate_left 1
  · intro wz hSw; (try dsimp only at hSw); go_simp; all_goals with_reducible rfl
  try simp only [pS]
  refine wpAnyH_ready (rs := [6, 10]) (by kernel_rfl) (by simp) ?_
  refine AllReadyH.cons opn6 (fun K hK => ?_) (AllReadyH.cons opn10 (fun K hK => ?_) (AllReadyH.nil))
  · rw [if_pos (by kernel_rfl)]
    go_simp
    refine ((unhide HTK) _ (below_drew V)).mono ?_
    rintro e w1 ⟨rfl, hb1⟩
    have hk2 : w1.heap[w.heap.size]? = V.heap[w.heap.size]? := (hb1.block _ hlV).trans (Eq.refl _)
    obtain ⟨o1, r1, n1⟩ := (unhide HTP) _ _ (below_drew V) hb1
    have hnb := (n1.keep w.heap.size hlV ((unhide HKA) _ (Nat.le_refl _))).1
    have hl1 : V.heap.size ≤ w1.heap.size := n1.below.size
    have HR1 := hide r1
    have HN1 := hide (((Next.of_below (o.all H) ((unhide HBV).trans (((below_drew V)).mono (unhide HBV).size)) hNw)).trans n1)
    clear hb1 r1 n1
    refine hK.out _ _ (hk2) (fun hHeldN => ?_)
    clear hHeld hK K; have hHeld := hHeldN; clear hHeldN
    try simp only [pS]
    clear hk2
    refine tkH ?_ opn7 (fun _ _ _ h => h) hHeld ?_ ?_
    rotate_left 1
    · intro wz hSw; (try dsimp only at hSw); go_simp; all_goals with_reducible rfl
    try simp only [pS]
    refine tkH ?_ opn8 (fun _ _ _ h => h) hHeld ?_ ?_
    rotate_left 1
    · intro wz hSw; (try dsimp only at hSw); go_simp; all_goals with_reducible rfl
    try simp only [pS]
    refine tkH ?_ opn9 (fun _ _ _ h => h) hHeld ?_ ?_
    rotate_left 1
    · intro wz hSw; (try dsimp only at hSw); go_simp; all_goals with_reducible rfl
    try simp only [pS]
    refine wpAnyH_ready (rs := [10]) (by kernel_rfl) (by simp) ?_
    refine AllReadyH.cons opn10 (fun K hK => ?_) AllReadyH.nil
    rw [if_pos (by kernel_rfl)]
    go_simp
    have hba : Below w1.heap.size w1 (w1.alloc (.cells #[.bool false, .int .i64 0, .int .i64 0, .int .i64 0, .string ⟨#[]⟩, .string ⟨#[]⟩, .string ⟨#[]⟩, .int .i64 0, .string ⟨#[]⟩] 92)) := (Below.refl _ _).alloc (Nat.le_refl _) _
    have HZ : Hid ((w1.alloc (.cells #[.bool false, .int .i64 0, .int .i64 0, .int .i64 0, .string ⟨#[]⟩, .string ⟨#[]⟩, .string ⟨#[]⟩, .int .i64 0, .string ⟨#[]⟩] 92)).heap[w1.heap.size]? = some (.cells #[.bool false, .int .i64 0, .int .i64 0, .int .i64 0, .string ⟨#[]⟩, .string ⟨#[]⟩, .string ⟨#[]⟩, .int .i64 0, .string ⟨#[]⟩] 92 (0, 0))) := heap_alloc_new _ _
    refine hK.out _ _ ((hba.block w.heap.size (by omega)).trans hHeld) (fun hHeldN => ?_)
    clear hHeld hK K; have hHeld := hHeldN; clear hHeldN
    try simp only [pS]
    generalize w1.alloc (.cells #[.bool false, .int .i64 0, .int .i64 0, .int .i64 0, .string ⟨#[]⟩, .string ⟨#[]⟩, .string ⟨#[]⟩, .int .i64 0, .string ⟨#[]⟩] 92) = W1 at hba HZ hHeld ⊢
    refine wpAnyH_ready (rs := [11]) (by kernel_rfl) (by simp) ?_
    refine AllReadyH.cons opn11 (fun K hK => ?_) AllReadyH.nil
    rw [if_pos (by kernel_rfl)]
    refine wp_store_mid _ _ _ rfl w1.heap.size 0 #[.bool pr, .int .i64 pc, .int .i64 pn, .int .i64 pk, .string pa, .string pb, .string pt, .int .i64 pd, .string pu] (by simp [Act.eval]) (by simp [Act.eval]) (fun j hj => ⟨by rw [Nat.zero_add, cell_of_row W1 w1.heap.size j _ _ _ (unhide HZ), Array.getElem?_eq_getElem (by simpa using hj)]; rfl, by rw [Nat.zero_add]; exact frozen_of_row W1 w1.heap.size j _ _ (unhide HZ)⟩) infoP (by simp [Value.oneCell']) ?_
    have hQ2 := setRowN (cs := #[.bool pr, .int .i64 pc, .int .i64 pn, .int .i64 pk, .string pa, .string pb, .string pt, .int .i64 pd, .string pu]) (unhide HZ) rfl
    have hK2 := kept_setCells w1.heap.size (Array.toList #[.bool pr, .int .i64 pc, .int .i64 pn, .int .i64 pk, .string pa, .string pb, .string pt, .int .i64 pd, .string pu]) 0 W1
    obtain ⟨W2, hW2⟩ : ∃ W', W' = W1.setCells w1.heap.size 0 (Array.toList #[.bool pr, .int .i64 pc, .int .i64 pn, .int .i64 pk, .string pa, .string pb, .string pt, .int .i64 pd, .string pu]) := ⟨_, rfl⟩
    rw [← hW2] at hQ2 hK2 ⊢
    have hlW1 := hba.size
    refine hK.out _ _ ((hK2.block w.heap.size (by omega) (by simp; omega)).trans hHeld) (fun hHeldN => ?_)
    clear hHeld hK K; have hHeld := hHeldN; clear hHeldN
    try simp only [pS]
    have hbW : Below w1.heap.size w1 W2 := ⟨hK2.os.trans hba.os, hK2.tape.trans hba.tape, hK2.output.trans hba.output, Nat.le_trans hba.size hK2.size, fun j hj => (hK2.block j (Nat.lt_of_lt_of_le hj hba.size) (by simp; omega)).trans (hba.block j hj)⟩
    refine tkH ?_ opn12 (fun _ _ _ h => h) hHeld ?_ ?_
    rotate_left 1
    · intro wz hSw; (try dsimp only at hSw); go_simp; all_goals with_reducible rfl
    try simp only [pS]
    refine wpAnyH_done (by kernel_rfl) ?_ _
    have HX := hide (hHeld.trans (unhide HXV))
    have HQ := hide hQ2
    have HR := hide ((unhide HR1).below hbW)
    have HN := hide ((unhide HN1).trans (Next.of_below _ hbW (unhide HR1).size))
    have hnq := (unhide HR1).not_new (Nat.le_refl _)
    have hlQ : w1.heap.size < W2.heap.size := (Array.getElem?_eq_some_iff.1 (unhide HQ)).1
    have hlX : w.heap.size < W2.heap.size := (Array.getElem?_eq_some_iff.1 (unhide HX)).1
    clear hQ2 hK2 hbW hba HZ hlW1 hHeld HR1 HN1 hW2
    cases op
    · go_wp2
      go_ret
      have hres : R = (6, A) := (unhide HRES).trans (if_pos (by trivial))
      rw [hres]
      exact ⟨rfl, _, unhide HR, unhide HN⟩
    · have hbd := below_drew W2
      have HPS := hide (BSend_anyH ((unhide HR).below hbd).bag ⟨pr, pc, pn, ⟨pk, pa, pb, pt⟩, pd, pu⟩ (unhide HSM))
      have HPT := hide (fun w' (hT : PTurnH (FP o1 A) 42 N W2.drew H o1.pv w' (aSend A.ms ⟨pr, pc, pn, ⟨pk, pa, pb, pt⟩, pd, pu⟩)) => ((unhide HR).below hbd).turnP hT)
      have HKQ : Hid (w1.heap.size ∉ powns H o1.pv) := fun hm => hnq (by
        rcases List.mem_cons.1 hm with e | e
        · exact HOwn.mem_all.2 (.inl e)
        · exact HOwn.mem_all.2 (.inr ⟨4, by omega, by show o1.pv.ownBlock = _; simpa using e⟩))
      have HN4 := hide ((unhide HN).trans (Next.of_below _ hbd (unhide HR).size))
      have HSTAY : Hid (¬ A.ms.length < 40 → aSend A.ms ⟨pr, pc, pn, ⟨pk, pa, pb, pt⟩, pd, pu⟩ = A.ms) := fun h4 => by unfold aSend; rw [if_neg h4]
      dsimp only [APkt.val] at HPS
      generalize o1.pv = pv at HPS HPT HKQ
      clear hbd
      go_wp2_with fail
      refine wp_region_held_drew (S := (fun wx => wx.heap[w1.heap.size]? = W2.heap[w1.heap.size]?)) (by kernel_rfl) (rfl) (fun hHeld => ?_)
      refine tkH ?_ opn0 (fun _ _ _ h => h) hHeld ?_ ?_
      rotate_left 1
      · intro wz hSw; (try dsimp only at hSw); go_simp; all_goals with_reducible rfl
      try simp only [pS]
      refine tkH ?_ opn1 (fun _ _ _ h => h) hHeld ?_ ?_
      rotate_left 1
      · intro wz hSw; (try dsimp only at hSw); go_simp; all_goals with_reducible rfl
      try simp only [pS]
      refine tkH ?_ opn2 (fun _ _ _ h => h) hHeld ?_ ?_
      rotate_left 1
      · intro wz hSw; (try dsimp only at hSw); go_simp; all_goals with_reducible rfl
      try simp only [pS]
      refine tkH ?_ opn3 (fun _ _ _ h => h) hHeld ?_ ?_
      rotate_left 1
      · intro wz hSw; (try dsimp only at hSw)
        obtain ⟨⟨x0, x1, x2, x3⟩, ⟨x4, x5, x6, x7, x8⟩, xf⟩ := nine (hSw.trans (unhide HQ))
        go_simp; all_goals with_reducible rfl
      try simp only [pS]
      refine wpAnyH_ready (rs := [4]) (by kernel_rfl) (by simp) ?_
      refine AllReadyH.cons opn4 (fun K hK => ?_) AllReadyH.nil
      rw [if_pos (by kernel_rfl)]
      go_simp
      refine (unhide HPS).mono ?_
      rintro e w4 ⟨rfl, hT⟩
      have hk2 : w4.heap[w1.heap.size]? = W2.heap[w1.heap.size]? := hT.same hlQ (unhide HKQ)
      obtain ⟨o4, r4, n4⟩ := (unhide HPT) _ hT
      have HFIN := hide (And.intro r4 ((unhide HN4).trans n4))
      clear hT r4 n4
      by_cases h4 : A.ms.length < 40
      · rw [decide_eq_true h4]
        refine hK.out _ _ (hk2) (fun hHeldN => ?_)
        clear hHeld hK K; have hHeld := hHeldN; clear hHeldN
        try simp only [pS]
        refine tkH (.bool false) opn5 (fun _ _ _ h => h) hHeld ?_ ?_
        · intro wz hSw; (try dsimp only at hSw); go_simp; all_goals with_reducible rfl
        try simp only [pS]
        refine wpAnyH_done (by kernel_rfl) ?_ _
        clear hHeld hk2
        go_wp2
        go_ret
        have hres := (unhide HRES).trans ((if_neg (c := true = false) (by simp)).trans (if_pos h4))
        rw [hres]
        exact ⟨rfl, _, (unhide HFIN).1, (unhide HFIN).2⟩
      · rw [decide_eq_false h4]
        refine hK.out _ _ (hk2) (fun hHeldN => ?_)
        clear hHeld hK K; have hHeld := hHeldN; clear hHeldN
        try simp only [pS]
        refine tkH (.bool true) opn5 (fun _ _ _ h => h) hHeld ?_ ?_
        · intro wz hSw; (try dsimp only at hSw); go_simp; all_goals with_reducible rfl
        try simp only [pS]
        refine wpAnyH_done (by kernel_rfl) ?_ _
        clear hHeld hk2
        go_wp2
        go_ret
        have hres := (unhide HRES).trans ((if_neg (c := true = false) (by simp)).trans (if_neg h4))
        rw [hres]
        have hf := (unhide HFIN).1
        rw [(unhide HSTAY) h4] at hf
        exact ⟨rfl, _, hf, (unhide HFIN).2⟩
  · rw [if_pos (by kernel_rfl)]
    go_simp
    have hba := below_alloc_drew V (.cells #[.bool false, .int .i64 0, .int .i64 0, .int .i64 0, .string ⟨#[]⟩, .string ⟨#[]⟩, .string ⟨#[]⟩, .int .i64 0, .string ⟨#[]⟩] 92)
    have HZ := hide (alloc_drew_new V (.cells #[.bool false, .int .i64 0, .int .i64 0, .int .i64 0, .string ⟨#[]⟩, .string ⟨#[]⟩, .string ⟨#[]⟩, .int .i64 0, .string ⟨#[]⟩] 92))
    refine hK.out _ _ (hba.block w.heap.size hlV) (fun hHeldN => ?_)
    clear hHeld hK K; have hHeld := hHeldN; clear hHeldN
    try simp only [pS]
    generalize (V.alloc (.cells #[.bool false, .int .i64 0, .int .i64 0, .int .i64 0, .string ⟨#[]⟩, .string ⟨#[]⟩, .string ⟨#[]⟩, .int .i64 0, .string ⟨#[]⟩] 92)).drew = V1 at hba HZ hHeld ⊢
    have hlZ : V.heap.size < V1.heap.size := (Array.getElem?_eq_some_iff.1 (unhide HZ)).1
    refine wpAnyH_ready (rs := [6]) (by kernel_rfl) (by simp) ?_
    refine AllReadyH.cons opn6 (fun K hK => ?_) AllReadyH.nil
    rw [if_pos (by kernel_rfl)]
    go_simp
    refine ((unhide HTK) _ hba).mono ?_
    rintro e w1 ⟨rfl, hb1⟩
    have hk2 : w1.heap[w.heap.size]? = V.heap[w.heap.size]? := (hb1.block _ (Nat.lt_trans hlV hlZ)).trans ((hba.block _ hlV))
    have HZ1 := hide ((hb1.block _ hlZ).trans (unhide HZ))
    obtain ⟨o1, r1, n1⟩ := (unhide HTP) _ _ hba hb1
    have hnb := (n1.keep w.heap.size (Nat.lt_trans hlV hlZ) ((unhide HKA) _ (Nat.le_refl _))).1
    have hnz := (n1.keep V.heap.size hlZ ((unhide HKA) _ (Nat.le_of_lt hlV))).1
    have hl1 : V1.heap.size ≤ w1.heap.size := n1.below.size
    have HR1 := hide r1
    have HN1 := hide (((Next.of_below (o.all H) ((unhide HBV).trans ((hba).mono (unhide HBV).size)) hNw)).trans n1)
    clear hb1 r1 n1
    refine hK.out _ _ (hk2) (fun hHeldN => ?_)
    clear hHeld hK K; have hHeld := hHeldN; clear hHeldN
    try simp only [pS]
    clear hk2
    refine tkH ?_ opn7 (fun _ _ _ h => h) hHeld ?_ ?_
    rotate_left 1
    · intro wz hSw; (try dsimp only at hSw); go_simp; all_goals with_reducible rfl
    try simp only [pS]
    refine tkH ?_ opn8 (fun _ _ _ h => h) hHeld ?_ ?_
    rotate_left 1
    · intro wz hSw; (try dsimp only at hSw); go_simp; all_goals with_reducible rfl
    try simp only [pS]
    refine tkH ?_ opn9 (fun _ _ _ h => h) hHeld ?_ ?_
    rotate_left 1
    · intro wz hSw; (try dsimp only at hSw); go_simp; all_goals with_reducible rfl
    try simp only [pS]
    refine wpAnyH_ready (rs := [11]) (by kernel_rfl) (by simp) ?_
    refine AllReadyH.cons opn11 (fun K hK => ?_) AllReadyH.nil
    rw [if_pos (by kernel_rfl)]
    refine wp_store_mid _ _ _ rfl V.heap.size 0 #[.bool pr, .int .i64 pc, .int .i64 pn, .int .i64 pk, .string pa, .string pb, .string pt, .int .i64 pd, .string pu] (by simp [Act.eval]) (by simp [Act.eval]) (fun j hj => ⟨by rw [Nat.zero_add, cell_of_row w1 V.heap.size j _ _ _ (unhide HZ1), Array.getElem?_eq_getElem (by simpa using hj)]; rfl, by rw [Nat.zero_add]; exact frozen_of_row w1 V.heap.size j _ _ (unhide HZ1)⟩) infoP (by simp [Value.oneCell']) ?_
    have hQ2 := setRowN (cs := #[.bool pr, .int .i64 pc, .int .i64 pn, .int .i64 pk, .string pa, .string pb, .string pt, .int .i64 pd, .string pu]) (unhide HZ1) rfl
    have hK2 := kept_setCells V.heap.size (Array.toList #[.bool pr, .int .i64 pc, .int .i64 pn, .int .i64 pk, .string pa, .string pb, .string pt, .int .i64 pd, .string pu]) 0 w1
    obtain ⟨W2, hW2⟩ : ∃ W', W' = w1.setCells V.heap.size 0 (Array.toList #[.bool pr, .int .i64 pc, .int .i64 pn, .int .i64 pk, .string pa, .string pb, .string pt, .int .i64 pd, .string pu]) := ⟨_, rfl⟩
    rw [← hW2] at hQ2 hK2 ⊢
    refine hK.out _ _ ((hK2.block w.heap.size (by omega) (by simp; omega)).trans hHeld) (fun hHeldN => ?_)
    clear hHeld hK K; have hHeld := hHeldN; clear hHeldN
    try simp only [pS]
    refine tkH ?_ opn12 (fun _ _ _ h => h) hHeld ?_ ?_
    rotate_left 1
    · intro wz hSw; (try dsimp only at hSw); go_simp; all_goals with_reducible rfl
    try simp only [pS]
    refine wpAnyH_done (by kernel_rfl) ?_ _
    have HX := hide (hHeld.trans (unhide HXV))
    have HQ := hide hQ2
    have HR := hide ((unhide HR1).set hnz hK2)
    have HN := hide ((unhide HN1).setN hNw (Nat.le_of_lt hlV) hK2)
    have hnq := hnz
    have hlQ : V.heap.size < W2.heap.size := (Array.getElem?_eq_some_iff.1 (unhide HQ)).1
    have hlX : w.heap.size < W2.heap.size := (Array.getElem?_eq_some_iff.1 (unhide HX)).1
    clear hQ2 hK2 hba HZ HZ1 hHeld HR1 HN1 hW2
    cases op
    · go_wp2
      go_ret
      have hres : R = (6, A) := (unhide HRES).trans (if_pos (by trivial))
      rw [hres]
      exact ⟨rfl, _, unhide HR, unhide HN⟩
    · have hbd := below_drew W2
      have HPS := hide (BSend_anyH ((unhide HR).below hbd).bag ⟨pr, pc, pn, ⟨pk, pa, pb, pt⟩, pd, pu⟩ (unhide HSM))
      have HPT := hide (fun w' (hT : PTurnH (FP o1 A) 42 N W2.drew H o1.pv w' (aSend A.ms ⟨pr, pc, pn, ⟨pk, pa, pb, pt⟩, pd, pu⟩)) => ((unhide HR).below hbd).turnP hT)
      have HKQ : Hid (V.heap.size ∉ powns H o1.pv) := fun hm => hnq (by
        rcases List.mem_cons.1 hm with e | e
        · exact HOwn.mem_all.2 (.inl e)
        · exact HOwn.mem_all.2 (.inr ⟨4, by omega, by show o1.pv.ownBlock = _; simpa using e⟩))
      have HN4 := hide ((unhide HN).trans (Next.of_below _ hbd (unhide HR).size))
      have HSTAY : Hid (¬ A.ms.length < 40 → aSend A.ms ⟨pr, pc, pn, ⟨pk, pa, pb, pt⟩, pd, pu⟩ = A.ms) := fun h4 => by unfold aSend; rw [if_neg h4]
      dsimp only [APkt.val] at HPS
      generalize o1.pv = pv at HPS HPT HKQ
      clear hbd
      go_wp2_with fail
      refine wp_region_held_drew (S := (fun wx => wx.heap[V.heap.size]? = W2.heap[V.heap.size]?)) (by kernel_rfl) (rfl) (fun hHeld => ?_)
      refine tkH ?_ opn0 (fun _ _ _ h => h) hHeld ?_ ?_
      rotate_left 1
      · intro wz hSw; (try dsimp only at hSw); go_simp; all_goals with_reducible rfl
      try simp only [pS]
      refine tkH ?_ opn1 (fun _ _ _ h => h) hHeld ?_ ?_
      rotate_left 1
      · intro wz hSw; (try dsimp only at hSw); go_simp; all_goals with_reducible rfl
      try simp only [pS]
      refine tkH ?_ opn2 (fun _ _ _ h => h) hHeld ?_ ?_
      rotate_left 1
      · intro wz hSw; (try dsimp only at hSw); go_simp; all_goals with_reducible rfl
      try simp only [pS]
      refine tkH ?_ opn3 (fun _ _ _ h => h) hHeld ?_ ?_
      rotate_left 1
      · intro wz hSw; (try dsimp only at hSw)
        obtain ⟨⟨x0, x1, x2, x3⟩, ⟨x4, x5, x6, x7, x8⟩, xf⟩ := nine (hSw.trans (unhide HQ))
        go_simp; all_goals with_reducible rfl
      try simp only [pS]
      refine wpAnyH_ready (rs := [4]) (by kernel_rfl) (by simp) ?_
      refine AllReadyH.cons opn4 (fun K hK => ?_) AllReadyH.nil
      rw [if_pos (by kernel_rfl)]
      go_simp
      refine (unhide HPS).mono ?_
      rintro e w4 ⟨rfl, hT⟩
      have hk2 : w4.heap[V.heap.size]? = W2.heap[V.heap.size]? := hT.same hlQ (unhide HKQ)
      obtain ⟨o4, r4, n4⟩ := (unhide HPT) _ hT
      have HFIN := hide (And.intro r4 ((unhide HN4).trans n4))
      clear hT r4 n4
      by_cases h4 : A.ms.length < 40
      · rw [decide_eq_true h4]
        refine hK.out _ _ (hk2) (fun hHeldN => ?_)
        clear hHeld hK K; have hHeld := hHeldN; clear hHeldN
        try simp only [pS]
        refine tkH (.bool false) opn5 (fun _ _ _ h => h) hHeld ?_ ?_
        · intro wz hSw; (try dsimp only at hSw); go_simp; all_goals with_reducible rfl
        try simp only [pS]
        refine wpAnyH_done (by kernel_rfl) ?_ _
        clear hHeld hk2
        go_wp2
        go_ret
        have hres := (unhide HRES).trans ((if_neg (c := true = false) (by simp)).trans (if_pos h4))
        rw [hres]
        exact ⟨rfl, _, (unhide HFIN).1, (unhide HFIN).2⟩
      · rw [decide_eq_false h4]
        refine hK.out _ _ (hk2) (fun hHeldN => ?_)
        clear hHeld hK K; have hHeld := hHeldN; clear hHeldN
        try simp only [pS]
        refine tkH (.bool true) opn5 (fun _ _ _ h => h) hHeld ?_ ?_
        · intro wz hSw; (try dsimp only at hSw); go_simp; all_goals with_reducible rfl
        try simp only [pS]
        refine wpAnyH_done (by kernel_rfl) ?_ _
        clear hHeld hk2
        go_wp2
        go_ret
        have hres := (unhide HRES).trans ((if_neg (c := true = false) (by simp)).trans (if_neg h4))
        rw [hres]
        have hf := (unhide HFIN).1
        rw [(unhide HSTAY) h4] at hf
        exact ⟨rfl, _, hf, (unhide HFIN).2⟩
set_option maxRecDepth 100000 in
set_option maxHeartbeats 4000000 in
theorem hstep_send1 {N : Nat} {w : World} {H : Nat} {o : HOwn} {A : AW} (h : HRep N w H o A) (x : AX) (hx : SmallC x.call) (hk : x.kind = 2) (hn : x.n = 1) :
    Calls Tryz.prog 27 #[.pointer (some ⟨H, 0, none⟩), x.val] w fun e w' => e = .returned (.int .i64 (A.step x).1) ∧ HTurn N w H o w' (A.step x).2 := by
  obtain ⟨V, hV⟩ : ∃ V, V = w.alloc (.cells #[.int .i64 x.kind, .int .i64 x.n, .int .i64 x.keep, .int .i64 x.call.kind, .string x.call.name, .string x.call.dst, .string x.call.text] 69) := ⟨_, rfl⟩
  have hBV : Below w.heap.size w V := by rw [hV]; exact (Below.refl _ _).alloc (Nat.le_refl _) _
  have hXV : V.heap[w.heap.size]? = some (.cells #[.int .i64 x.kind, .int .i64 x.n, .int .i64 x.keep, .int .i64 x.call.kind, .string x.call.name, .string x.call.dst, .string x.call.text] 69 (0, 0)) := by rw [hV]; exact heap_alloc_new _ _
  have hlV : w.heap.size < V.heap.size := (Array.getElem?_eq_some_iff.1 hXV).1
  have hrV := h.below hBV
  have HBV := hide hBV
  have HXV := hide hXV
  have HV := hide hV
  have e1 : A.step x = (if (A.cl 1).op = false then (6, A) else if A.ms.length < 40 then (0, ⟨A.log, A.cl, aSend A.ms (A.cl 1).pkt⟩) else (7, A)) := by unfold AW.step AW.send; rw [if_neg (by omega), if_pos hk, hn, if_neg (by omega)]; rfl
  generalize A.step x = R at e1 ⊢
  have HRES := hide e1
  have hNw := h.size
  have HTK : Hid (∀ W', Below V.heap.size V W' → Calls Tryz.prog 51 #[.pointer (some ⟨H, 9, none⟩)] W' fun e w' => e = .returned (.tuple #[(A.cl 1).pkt.val, .bool (A.cl 1).op]) ∧ Below W'.heap.size W' w') := fun W' hb => GSend_anyH ((hrV.below hb).guest (n := 1) (by omega))
  have HTP := hide (fun W' w1 (hb : Below V.heap.size V W') (hb1 : Below W'.heap.size W' w1) => HTurn.of_below (hrV.below hb) hb1)
  have HKA : Hid (∀ b, w.heap.size ≤ b → b ∉ o.all H) := fun b hb => h.not_new hb
  have HSM : Hid (SmallP (A.cl 1).pkt) := pkt_small (h.ok 1 (by omega))
  generalize (A.cl 1).pkt = p at HTK HSM HRES
  generalize (A.cl 1).op = op at HTK HRES
  obtain ⟨⟨x0, x1, x2, x3⟩, ⟨x4, x5, x6⟩, xf⟩ := seven hXV
  clear h e1 hV hBV hXV hrV hx
  obtain ⟨pr, pc, pn, ⟨pk, pa, pb, pt⟩, pd, pu⟩ := p
  obtain ⟨xk, xn, xp, ⟨ck, ca, cb, ct⟩⟩ := x
  dsimp only [AX.val] at *
  dsimp only [APkt.val] at *
  subst hk hn
  go_enter Tryz.func27, Tryz.ntmps27
  go_wp2_with fail
  rw [← unhide HV]
  clear x0 x1 x2 x3 x4 x5 x6 xf
  refine wp_region_held_drew (S := (fun wx => wx.heap[w.heap.size]? = V.heap[w.heap.size]?)) (by kernel_rfl) (rfl) (fun hHeld => ?_)
  refine tkH ?_ opn0 (fun _ _ _ h => h) hHeld ?_ ?_
  rotate_left 1
  · intro wz hSw; (try dsimp only at hSw); go_simp; all_goals with_reducible rfl
  try simp only [pS]
  refine tkH ?_ opn1 (fun _ _ _ h => h) hHeld ?_ ?_
  rotate_left 1
  · intro wz hSw; (try dsimp only at hSw); go_simp; all_goals with_reducible rfl
  try simp only [pS]
  refine tkH ?_ opn2 (fun _ _ _ h => h) hHeld ?_ ?_
  rotate_left 1
  · intro wz hSw; (try dsimp only at hSw)
    obtain ⟨⟨x0, x1, x2, x3⟩, ⟨x4, x5, x6⟩, xf⟩ := seven (hSw.trans (unhide HXV))
    go_simp; all_goals with_reducible rfl
  try simp only [pS]
  refine tkH ?_ opn3 (fun _ _ _ h => h) hHeld ?_ ?_
  rotate_left 1
  · intro wz hSw; (try dsimp only at hSw); go_simp; all_goals with_reducible rfl
  try simp only [pS]
  refine tkH ?_ opn4 (fun _ _ _ h => h) hHeld ?_ ?_
  rotate_left 1
  · intro wz hSw; (try dsimp only at hSw); go_simp; all_goals with_reducible rfl
  try simp only [pS]
  refine tkH ?_ opn5 (fun _ _ _ h => h) hHeld ?_ ?_
  rotate_left 1
  · intro wz hSw; (try dsimp only at hSw); go_simp; all_goals with_reducible rfl
  try simp only [pS]
  refine wpAnyH_ready (rs := [6, 10]) (by kernel_rfl) (by simp) ?_
  refine AllReadyH.cons opn6 (fun K hK => ?_) (AllReadyH.cons opn10 (fun K hK => ?_) (AllReadyH.nil))
  · rw [if_pos (by kernel_rfl)]
    go_simp
    refine ((unhide HTK) _ (below_drew V)).mono ?_
    rintro e w1 ⟨rfl, hb1⟩
    have hk2 : w1.heap[w.heap.size]? = V.heap[w.heap.size]? := (hb1.block _ hlV).trans (Eq.refl _)
    obtain ⟨o1, r1, n1⟩ := (unhide HTP) _ _ (below_drew V) hb1
    have hnb := (n1.keep w.heap.size hlV ((unhide HKA) _ (Nat.le_refl _))).1
    have hl1 : V.heap.size ≤ w1.heap.size := n1.below.size
    have HR1 := hide r1
    have HN1 := hide (((Next.of_below (o.all H) ((unhide HBV).trans (((below_drew V)).mono (unhide HBV).size)) hNw)).trans n1)
    clear hb1 r1 n1
    refine hK.out _ _ (hk2) (fun hHeldN => ?_)
    clear hHeld hK K; have hHeld := hHeldN; clear hHeldN
    try simp only [pS]
    clear hk2
    refine tkH ?_ opn7 (fun _ _ _ h => h) hHeld ?_ ?_
    rotate_left 1
    · intro wz hSw; (try dsimp only at hSw); go_simp; all_goals with_reducible rfl
    try simp only [pS]
    refine tkH ?_ opn8 (fun _ _ _ h => h) hHeld ?_ ?_
    rotate_left 1
    · intro wz hSw; (try dsimp only at hSw); go_simp; all_goals with_reducible rfl
    try simp only [pS]
    refine tkH ?_ opn9 (fun _ _ _ h => h) hHeld ?_ ?_
    rotate_left 1
    · intro wz hSw; (try dsimp only at hSw); go_simp; all_goals with_reducible rfl
    try simp only [pS]
    refine wpAnyH_ready (rs := [10]) (by kernel_rfl) (by simp) ?_
    refine AllReadyH.cons opn10 (fun K hK => ?_) AllReadyH.nil
    rw [if_pos (by kernel_rfl)]
    go_simp
    have hba : Below w1.heap.size w1 (w1.alloc (.cells #[.bool false, .int .i64 0, .int .i64 0, .int .i64 0, .string ⟨#[]⟩, .string ⟨#[]⟩, .string ⟨#[]⟩, .int .i64 0, .string ⟨#[]⟩] 92)) := (Below.refl _ _).alloc (Nat.le_refl _) _
    have HZ : Hid ((w1.alloc (.cells #[.bool false, .int .i64 0, .int .i64 0, .int .i64 0, .string ⟨#[]⟩, .string ⟨#[]⟩, .string ⟨#[]⟩, .int .i64 0, .string ⟨#[]⟩] 92)).heap[w1.heap.size]? = some (.cells #[.bool false, .int .i64 0, .int .i64 0, .int .i64 0, .string ⟨#[]⟩, .string ⟨#[]⟩, .string ⟨#[]⟩, .int .i64 0, .string ⟨#[]⟩] 92 (0, 0))) := heap_alloc_new _ _
    refine hK.out _ _ ((hba.block w.heap.size (by omega)).trans hHeld) (fun hHeldN => ?_)
    clear hHeld hK K; have hHeld := hHeldN; clear hHeldN
    try simp only [pS]
    generalize w1.alloc (.cells #[.bool false, .int .i64 0, .int .i64 0, .int .i64 0, .string ⟨#[]⟩, .string ⟨#[]⟩, .string ⟨#[]⟩, .int .i64 0, .string ⟨#[]⟩] 92) = W1 at hba HZ hHeld ⊢
    refine wpAnyH_ready (rs := [11]) (by kernel_rfl) (by simp) ?_
    refine AllReadyH.cons opn11 (fun K hK => ?_) AllReadyH.nil
    rw [if_pos (by kernel_rfl)]
    refine wp_store_mid _ _ _ rfl w1.heap.size 0 #[.bool pr, .int .i64 pc, .int .i64 pn, .int .i64 pk, .string pa, .string pb, .string pt, .int .i64 pd, .string pu] (by simp [Act.eval]) (by simp [Act.eval]) (fun j hj => ⟨by rw [Nat.zero_add, cell_of_row W1 w1.heap.size j _ _ _ (unhide HZ), Array.getElem?_eq_getElem (by simpa using hj)]; rfl, by rw [Nat.zero_add]; exact frozen_of_row W1 w1.heap.size j _ _ (unhide HZ)⟩) infoP (by simp [Value.oneCell']) ?_
    have hQ2 := setRowN (cs := #[.bool pr, .int .i64 pc, .int .i64 pn, .int .i64 pk, .string pa, .string pb, .string pt, .int .i64 pd, .string pu]) (unhide HZ) rfl
    have hK2 := kept_setCells w1.heap.size (Array.toList #[.bool pr, .int .i64 pc, .int .i64 pn, .int .i64 pk, .string pa, .string pb, .string pt, .int .i64 pd, .string pu]) 0 W1
    obtain ⟨W2, hW2⟩ : ∃ W', W' = W1.setCells w1.heap.size 0 (Array.toList #[.bool pr, .int .i64 pc, .int .i64 pn, .int .i64 pk, .string pa, .string pb, .string pt, .int .i64 pd, .string pu]) := ⟨_, rfl⟩
    rw [← hW2] at hQ2 hK2 ⊢
    have hlW1 := hba.size
    refine hK.out _ _ ((hK2.block w.heap.size (by omega) (by simp; omega)).trans hHeld) (fun hHeldN => ?_)
    clear hHeld hK K; have hHeld := hHeldN; clear hHeldN
    try simp only [pS]
    have hbW : Below w1.heap.size w1 W2 := ⟨hK2.os.trans hba.os, hK2.tape.trans hba.tape, hK2.output.trans hba.output, Nat.le_trans hba.size hK2.size, fun j hj => (hK2.block j (Nat.lt_of_lt_of_le hj hba.size) (by simp; omega)).trans (hba.block j hj)⟩
    refine tkH ?_ opn12 (fun _ _ _ h => h) hHeld ?_ ?_
    rotate_left 1
    · intro wz hSw; (try dsimp only at hSw); go_simp; all_goals with_reducible rfl
    try simp only [pS]
    refine wpAnyH_done (by kernel_rfl) ?_ _
    have HX := hide (hHeld.trans (unhide HXV))
    have HQ := hide hQ2
    have HR := hide ((unhide HR1).below hbW)
    have HN := hide ((unhide HN1).trans (Next.of_below _ hbW (unhide HR1).size))
    have hnq := (unhide HR1).not_new (Nat.le_refl _)
    have hlQ : w1.heap.size < W2.heap.size := (Array.getElem?_eq_some_iff.1 (unhide HQ)).1
    have hlX : w.heap.size < W2.heap.size := (Array.getElem?_eq_some_iff.1 (unhide HX)).1
    clear hQ2 hK2 hbW hba HZ hlW1 hHeld HR1 HN1 hW2
    cases op
    · go_wp2
      go_ret
      have hres : R = (6, A) := (unhide HRES).trans (if_pos (by trivial))
      rw [hres]
      exact ⟨rfl, _, unhide HR, unhide HN⟩
    · have hbd := below_drew W2
      have HPS := hide (BSend_anyH ((unhide HR).below hbd).bag ⟨pr, pc, pn, ⟨pk, pa, pb, pt⟩, pd, pu⟩ (unhide HSM))
      have HPT := hide (fun w' (hT : PTurnH (FP o1 A) 42 N W2.drew H o1.pv w' (aSend A.ms ⟨pr, pc, pn, ⟨pk, pa, pb, pt⟩, pd, pu⟩)) => ((unhide HR).below hbd).turnP hT)
      have HKQ : Hid (w1.heap.size ∉ powns H o1.pv) := fun hm => hnq (by
        rcases List.mem_cons.1 hm with e | e
        · exact HOwn.mem_all.2 (.inl e)
        · exact HOwn.mem_all.2 (.inr ⟨4, by omega, by show o1.pv.ownBlock = _; simpa using e⟩))
      have HN4 := hide ((unhide HN).trans (Next.of_below _ hbd (unhide HR).size))
      have HSTAY : Hid (¬ A.ms.length < 40 → aSend A.ms ⟨pr, pc, pn, ⟨pk, pa, pb, pt⟩, pd, pu⟩ = A.ms) := fun h4 => by unfold aSend; rw [if_neg h4]
      dsimp only [APkt.val] at HPS
      generalize o1.pv = pv at HPS HPT HKQ
      clear hbd
      go_wp2_with fail
      refine wp_region_held_drew (S := (fun wx => wx.heap[w1.heap.size]? = W2.heap[w1.heap.size]?)) (by kernel_rfl) (rfl) (fun hHeld => ?_)
      refine tkH ?_ opn0 (fun _ _ _ h => h) hHeld ?_ ?_
      rotate_left 1
      · intro wz hSw; (try dsimp only at hSw); go_simp; all_goals with_reducible rfl
      try simp only [pS]
      refine tkH ?_ opn1 (fun _ _ _ h => h) hHeld ?_ ?_
      rotate_left 1
      · intro wz hSw; (try dsimp only at hSw); go_simp; all_goals with_reducible rfl
      try simp only [pS]
      refine tkH ?_ opn2 (fun _ _ _ h => h) hHeld ?_ ?_
      rotate_left 1
      · intro wz hSw; (try dsimp only at hSw); go_simp; all_goals with_reducible rfl
      try simp only [pS]
      refine tkH ?_ opn3 (fun _ _ _ h => h) hHeld ?_ ?_
      rotate_left 1
      · intro wz hSw; (try dsimp only at hSw)
        obtain ⟨⟨x0, x1, x2, x3⟩, ⟨x4, x5, x6, x7, x8⟩, xf⟩ := nine (hSw.trans (unhide HQ))
        go_simp; all_goals with_reducible rfl
      try simp only [pS]
      refine wpAnyH_ready (rs := [4]) (by kernel_rfl) (by simp) ?_
      refine AllReadyH.cons opn4 (fun K hK => ?_) AllReadyH.nil
      rw [if_pos (by kernel_rfl)]
      go_simp
      refine (unhide HPS).mono ?_
      rintro e w4 ⟨rfl, hT⟩
      have hk2 : w4.heap[w1.heap.size]? = W2.heap[w1.heap.size]? := hT.same hlQ (unhide HKQ)
      obtain ⟨o4, r4, n4⟩ := (unhide HPT) _ hT
      have HFIN := hide (And.intro r4 ((unhide HN4).trans n4))
      clear hT r4 n4
      by_cases h4 : A.ms.length < 40
      · rw [decide_eq_true h4]
        refine hK.out _ _ (hk2) (fun hHeldN => ?_)
        clear hHeld hK K; have hHeld := hHeldN; clear hHeldN
        try simp only [pS]
        refine tkH (.bool false) opn5 (fun _ _ _ h => h) hHeld ?_ ?_
        · intro wz hSw; (try dsimp only at hSw); go_simp; all_goals with_reducible rfl
        try simp only [pS]
        refine wpAnyH_done (by kernel_rfl) ?_ _
        clear hHeld hk2
        go_wp2
        go_ret
        have hres := (unhide HRES).trans ((if_neg (c := true = false) (by simp)).trans (if_pos h4))
        rw [hres]
        exact ⟨rfl, _, (unhide HFIN).1, (unhide HFIN).2⟩
      · rw [decide_eq_false h4]
        refine hK.out _ _ (hk2) (fun hHeldN => ?_)
        clear hHeld hK K; have hHeld := hHeldN; clear hHeldN
        try simp only [pS]
        refine tkH (.bool true) opn5 (fun _ _ _ h => h) hHeld ?_ ?_
        · intro wz hSw; (try dsimp only at hSw); go_simp; all_goals with_reducible rfl
        try simp only [pS]
        refine wpAnyH_done (by kernel_rfl) ?_ _
        clear hHeld hk2
        go_wp2
        go_ret
        have hres := (unhide HRES).trans ((if_neg (c := true = false) (by simp)).trans (if_neg h4))
        rw [hres]
        have hf := (unhide HFIN).1
        rw [(unhide HSTAY) h4] at hf
        exact ⟨rfl, _, hf, (unhide HFIN).2⟩
  · rw [if_pos (by kernel_rfl)]
    go_simp
    have hba := below_alloc_drew V (.cells #[.bool false, .int .i64 0, .int .i64 0, .int .i64 0, .string ⟨#[]⟩, .string ⟨#[]⟩, .string ⟨#[]⟩, .int .i64 0, .string ⟨#[]⟩] 92)
    have HZ := hide (alloc_drew_new V (.cells #[.bool false, .int .i64 0, .int .i64 0, .int .i64 0, .string ⟨#[]⟩, .string ⟨#[]⟩, .string ⟨#[]⟩, .int .i64 0, .string ⟨#[]⟩] 92))
    refine hK.out _ _ (hba.block w.heap.size hlV) (fun hHeldN => ?_)
    clear hHeld hK K; have hHeld := hHeldN; clear hHeldN
    try simp only [pS]
    generalize (V.alloc (.cells #[.bool false, .int .i64 0, .int .i64 0, .int .i64 0, .string ⟨#[]⟩, .string ⟨#[]⟩, .string ⟨#[]⟩, .int .i64 0, .string ⟨#[]⟩] 92)).drew = V1 at hba HZ hHeld ⊢
    have hlZ : V.heap.size < V1.heap.size := (Array.getElem?_eq_some_iff.1 (unhide HZ)).1
    refine wpAnyH_ready (rs := [6]) (by kernel_rfl) (by simp) ?_
    refine AllReadyH.cons opn6 (fun K hK => ?_) AllReadyH.nil
    rw [if_pos (by kernel_rfl)]
    go_simp
    refine ((unhide HTK) _ hba).mono ?_
    rintro e w1 ⟨rfl, hb1⟩
    have hk2 : w1.heap[w.heap.size]? = V.heap[w.heap.size]? := (hb1.block _ (Nat.lt_trans hlV hlZ)).trans ((hba.block _ hlV))
    have HZ1 := hide ((hb1.block _ hlZ).trans (unhide HZ))
    obtain ⟨o1, r1, n1⟩ := (unhide HTP) _ _ hba hb1
    have hnb := (n1.keep w.heap.size (Nat.lt_trans hlV hlZ) ((unhide HKA) _ (Nat.le_refl _))).1
    have hnz := (n1.keep V.heap.size hlZ ((unhide HKA) _ (Nat.le_of_lt hlV))).1
    have hl1 : V1.heap.size ≤ w1.heap.size := n1.below.size
    have HR1 := hide r1
    have HN1 := hide (((Next.of_below (o.all H) ((unhide HBV).trans ((hba).mono (unhide HBV).size)) hNw)).trans n1)
    clear hb1 r1 n1
    refine hK.out _ _ (hk2) (fun hHeldN => ?_)
    clear hHeld hK K; have hHeld := hHeldN; clear hHeldN
    try simp only [pS]
    clear hk2
    refine tkH ?_ opn7 (fun _ _ _ h => h) hHeld ?_ ?_
    rotate_left 1
    · intro wz hSw; (try dsimp only at hSw); go_simp; all_goals with_reducible rfl
    try simp only [pS]
    refine tkH ?_ opn8 (fun _ _ _ h => h) hHeld ?_ ?_
    rotate_left 1
    · intro wz hSw; (try dsimp only at hSw); go_simp; all_goals with_reducible rfl
    try simp only [pS]
    refine tkH ?_ opn9 (fun _ _ _ h => h) hHeld ?_ ?_
    rotate_left 1
    · intro wz hSw; (try dsimp only at hSw); go_simp; all_goals with_reducible rfl
    try simp only [pS]
    refine wpAnyH_ready (rs := [11]) (by kernel_rfl) (by simp) ?_
    refine AllReadyH.cons opn11 (fun K hK => ?_) AllReadyH.nil
    rw [if_pos (by kernel_rfl)]
    refine wp_store_mid _ _ _ rfl V.heap.size 0 #[.bool pr, .int .i64 pc, .int .i64 pn, .int .i64 pk, .string pa, .string pb, .string pt, .int .i64 pd, .string pu] (by simp [Act.eval]) (by simp [Act.eval]) (fun j hj => ⟨by rw [Nat.zero_add, cell_of_row w1 V.heap.size j _ _ _ (unhide HZ1), Array.getElem?_eq_getElem (by simpa using hj)]; rfl, by rw [Nat.zero_add]; exact frozen_of_row w1 V.heap.size j _ _ (unhide HZ1)⟩) infoP (by simp [Value.oneCell']) ?_
    have hQ2 := setRowN (cs := #[.bool pr, .int .i64 pc, .int .i64 pn, .int .i64 pk, .string pa, .string pb, .string pt, .int .i64 pd, .string pu]) (unhide HZ1) rfl
    have hK2 := kept_setCells V.heap.size (Array.toList #[.bool pr, .int .i64 pc, .int .i64 pn, .int .i64 pk, .string pa, .string pb, .string pt, .int .i64 pd, .string pu]) 0 w1
    obtain ⟨W2, hW2⟩ : ∃ W', W' = w1.setCells V.heap.size 0 (Array.toList #[.bool pr, .int .i64 pc, .int .i64 pn, .int .i64 pk, .string pa, .string pb, .string pt, .int .i64 pd, .string pu]) := ⟨_, rfl⟩
    rw [← hW2] at hQ2 hK2 ⊢
    refine hK.out _ _ ((hK2.block w.heap.size (by omega) (by simp; omega)).trans hHeld) (fun hHeldN => ?_)
    clear hHeld hK K; have hHeld := hHeldN; clear hHeldN
    try simp only [pS]
    refine tkH ?_ opn12 (fun _ _ _ h => h) hHeld ?_ ?_
    rotate_left 1
    · intro wz hSw; (try dsimp only at hSw); go_simp; all_goals with_reducible rfl
    try simp only [pS]
    refine wpAnyH_done (by kernel_rfl) ?_ _
    have HX := hide (hHeld.trans (unhide HXV))
    have HQ := hide hQ2
    have HR := hide ((unhide HR1).set hnz hK2)
    have HN := hide ((unhide HN1).setN hNw (Nat.le_of_lt hlV) hK2)
    have hnq := hnz
    have hlQ : V.heap.size < W2.heap.size := (Array.getElem?_eq_some_iff.1 (unhide HQ)).1
    have hlX : w.heap.size < W2.heap.size := (Array.getElem?_eq_some_iff.1 (unhide HX)).1
    clear hQ2 hK2 hba HZ HZ1 hHeld HR1 HN1 hW2
    cases op
    · go_wp2
      go_ret
      have hres : R = (6, A) := (unhide HRES).trans (if_pos (by trivial))
      rw [hres]
      exact ⟨rfl, _, unhide HR, unhide HN⟩
    · have hbd := below_drew W2
      have HPS := hide (BSend_anyH ((unhide HR).below hbd).bag ⟨pr, pc, pn, ⟨pk, pa, pb, pt⟩, pd, pu⟩ (unhide HSM))
      have HPT := hide (fun w' (hT : PTurnH (FP o1 A) 42 N W2.drew H o1.pv w' (aSend A.ms ⟨pr, pc, pn, ⟨pk, pa, pb, pt⟩, pd, pu⟩)) => ((unhide HR).below hbd).turnP hT)
      have HKQ : Hid (V.heap.size ∉ powns H o1.pv) := fun hm => hnq (by
        rcases List.mem_cons.1 hm with e | e
        · exact HOwn.mem_all.2 (.inl e)
        · exact HOwn.mem_all.2 (.inr ⟨4, by omega, by show o1.pv.ownBlock = _; simpa using e⟩))
      have HN4 := hide ((unhide HN).trans (Next.of_below _ hbd (unhide HR).size))
      have HSTAY : Hid (¬ A.ms.length < 40 → aSend A.ms ⟨pr, pc, pn, ⟨pk, pa, pb, pt⟩, pd, pu⟩ = A.ms) := fun h4 => by unfold aSend; rw [if_neg h4]
      dsimp only [APkt.val] at HPS
      generalize o1.pv = pv at HPS HPT HKQ
      clear hbd
      go_wp2_with fail
      refine wp_region_held_drew (S := (fun wx => wx.heap[V.heap.size]? = W2.heap[V.heap.size]?)) (by kernel_rfl) (rfl) (fun hHeld => ?_)
      refine tkH ?_ opn0 (fun _ _ _ h => h) hHeld ?_ ?_
      rotate_left 1
      · intro wz hSw; (try dsimp only at hSw); go_simp; all_goals with_reducible rfl
      try simp only [pS]
      refine tkH ?_ opn1 (fun _ _ _ h => h) hHeld ?_ ?_
      rotate_left 1
      · intro wz hSw; (try dsimp only at hSw); go_simp; all_goals with_reducible rfl
      try simp only [pS]
      refine tkH ?_ opn2 (fun _ _ _ h => h) hHeld ?_ ?_
      rotate_left 1
      · intro wz hSw; (try dsimp only at hSw); go_simp; all_goals with_reducible rfl
      try simp only [pS]
      refine tkH ?_ opn3 (fun _ _ _ h => h) hHeld ?_ ?_
      rotate_left 1
      · intro wz hSw; (try dsimp only at hSw)
        obtain ⟨⟨x0, x1, x2, x3⟩, ⟨x4, x5, x6, x7, x8⟩, xf⟩ := nine (hSw.trans (unhide HQ))
        go_simp; all_goals with_reducible rfl
      try simp only [pS]
      refine wpAnyH_ready (rs := [4]) (by kernel_rfl) (by simp) ?_
      refine AllReadyH.cons opn4 (fun K hK => ?_) AllReadyH.nil
      rw [if_pos (by kernel_rfl)]
      go_simp
      refine (unhide HPS).mono ?_
      rintro e w4 ⟨rfl, hT⟩
      have hk2 : w4.heap[V.heap.size]? = W2.heap[V.heap.size]? := hT.same hlQ (unhide HKQ)
      obtain ⟨o4, r4, n4⟩ := (unhide HPT) _ hT
      have HFIN := hide (And.intro r4 ((unhide HN4).trans n4))
      clear hT r4 n4
      by_cases h4 : A.ms.length < 40
      · rw [decide_eq_true h4]
        refine hK.out _ _ (hk2) (fun hHeldN => ?_)
        clear hHeld hK K; have hHeld := hHeldN; clear hHeldN
        try simp only [pS]
        refine tkH (.bool false) opn5 (fun _ _ _ h => h) hHeld ?_ ?_
        · intro wz hSw; (try dsimp only at hSw); go_simp; all_goals with_reducible rfl
        try simp only [pS]
        refine wpAnyH_done (by kernel_rfl) ?_ _
        clear hHeld hk2
        go_wp2
        go_ret
        have hres := (unhide HRES).trans ((if_neg (c := true = false) (by simp)).trans (if_pos h4))
        rw [hres]
        exact ⟨rfl, _, (unhide HFIN).1, (unhide HFIN).2⟩
      · rw [decide_eq_false h4]
        refine hK.out _ _ (hk2) (fun hHeldN => ?_)
        clear hHeld hK K; have hHeld := hHeldN; clear hHeldN
        try simp only [pS]
        refine tkH (.bool true) opn5 (fun _ _ _ h => h) hHeld ?_ ?_
        · intro wz hSw; (try dsimp only at hSw); go_simp; all_goals with_reducible rfl
        try simp only [pS]
        refine wpAnyH_done (by kernel_rfl) ?_ _
        clear hHeld hk2
        go_wp2
        go_ret
        have hres := (unhide HRES).trans ((if_neg (c := true = false) (by simp)).trans (if_neg h4))
        rw [hres]
        have hf := (unhide HFIN).1
        rw [(unhide HSTAY) h4] at hf
        exact ⟨rfl, _, hf, (unhide HFIN).2⟩
set_option maxRecDepth 100000 in
set_option maxHeartbeats 4000000 in
theorem hstep_send2 {N : Nat} {w : World} {H : Nat} {o : HOwn} {A : AW} (h : HRep N w H o A) (x : AX) (hx : SmallC x.call) (hk : x.kind = 2) (hn : x.n = 2) :
    Calls Tryz.prog 27 #[.pointer (some ⟨H, 0, none⟩), x.val] w fun e w' => e = .returned (.int .i64 (A.step x).1) ∧ HTurn N w H o w' (A.step x).2 := by
  obtain ⟨V, hV⟩ : ∃ V, V = w.alloc (.cells #[.int .i64 x.kind, .int .i64 x.n, .int .i64 x.keep, .int .i64 x.call.kind, .string x.call.name, .string x.call.dst, .string x.call.text] 69) := ⟨_, rfl⟩
  have hBV : Below w.heap.size w V := by rw [hV]; exact (Below.refl _ _).alloc (Nat.le_refl _) _
  have hXV : V.heap[w.heap.size]? = some (.cells #[.int .i64 x.kind, .int .i64 x.n, .int .i64 x.keep, .int .i64 x.call.kind, .string x.call.name, .string x.call.dst, .string x.call.text] 69 (0, 0)) := by rw [hV]; exact heap_alloc_new _ _
  have hlV : w.heap.size < V.heap.size := (Array.getElem?_eq_some_iff.1 hXV).1
  have hrV := h.below hBV
  have HBV := hide hBV
  have HXV := hide hXV
  have HV := hide hV
  have e1 : A.step x = (if (A.cl 2).op = false then (6, A) else if A.ms.length < 40 then (0, ⟨A.log, A.cl, aSend A.ms (A.cl 2).pkt⟩) else (7, A)) := by unfold AW.step AW.send; rw [if_neg (by omega), if_pos hk, hn, if_neg (by omega)]; rfl
  generalize A.step x = R at e1 ⊢
  have HRES := hide e1
  have hNw := h.size
  have HTK : Hid (∀ W', Below V.heap.size V W' → Calls Tryz.prog 51 #[.pointer (some ⟨H, 17, none⟩)] W' fun e w' => e = .returned (.tuple #[(A.cl 2).pkt.val, .bool (A.cl 2).op]) ∧ Below W'.heap.size W' w') := fun W' hb => GSend_anyH ((hrV.below hb).guest (n := 2) (by omega))
  have HTP := hide (fun W' w1 (hb : Below V.heap.size V W') (hb1 : Below W'.heap.size W' w1) => HTurn.of_below (hrV.below hb) hb1)
  have HKA : Hid (∀ b, w.heap.size ≤ b → b ∉ o.all H) := fun b hb => h.not_new hb
  have HSM : Hid (SmallP (A.cl 2).pkt) := pkt_small (h.ok 2 (by omega))
  generalize (A.cl 2).pkt = p at HTK HSM HRES
  generalize (A.cl 2).op = op at HTK HRES
  obtain ⟨⟨x0, x1, x2, x3⟩, ⟨x4, x5, x6⟩, xf⟩ := seven hXV
  clear h e1 hV hBV hXV hrV hx
  obtain ⟨pr, pc, pn, ⟨pk, pa, pb, pt⟩, pd, pu⟩ := p
  obtain ⟨xk, xn, xp, ⟨ck, ca, cb, ct⟩⟩ := x
  dsimp only [AX.val] at *
  dsimp only [APkt.val] at *
  subst hk hn
  go_enter Tryz.func27, Tryz.ntmps27
  go_wp2_with fail
  rw [← unhide HV]
  clear x0 x1 x2 x3 x4 x5 x6 xf
  refine wp_region_held_drew (S := (fun wx => wx.heap[w.heap.size]? = V.heap[w.heap.size]?)) (by kernel_rfl) (rfl) (fun hHeld => ?_)
  refine tkH ?_ opn0 (fun _ _ _ h => h) hHeld ?_ ?_
  rotate_left 1
  · intro wz hSw; (try dsimp only at hSw); go_simp; all_goals with_reducible rfl
  try simp only [pS]
  refine tkH ?_ opn1 (fun _ _ _ h => h) hHeld ?_ ?_
  rotate_left 1
  · intro wz hSw; (try dsimp only at hSw); go_simp; all_goals with_reducible rfl
  try simp only [pS]
  refine tkH ?_ opn2 (fun _ _ _ h => h) hHeld ?_ ?_
  rotate_left 1
  · intro wz hSw; (try dsimp only at hSw)
    obtain ⟨⟨x0, x1, x2, x3⟩, ⟨x4, x5, x6⟩, xf⟩ := seven (hSw.trans (unhide HXV))
    go_simp; all_goals with_reducible rfl
  try simp only [pS]
  refine tkH ?_ opn3 (fun _ _ _ h => h) hHeld ?_ ?_
  rotate_left 1
  · intro wz hSw; (try dsimp only at hSw); go_simp; all_goals with_reducible rfl
  try simp only [pS]
  refine tkH ?_ opn4 (fun _ _ _ h => h) hHeld ?_ ?_
  rotate_left 1
  · intro wz hSw; (try dsimp only at hSw); go_simp; all_goals with_reducible rfl
  try simp only [pS]
  refine tkH ?_ opn5 (fun _ _ _ h => h) hHeld ?_ ?_
  rotate_left 1
  · intro wz hSw; (try dsimp only at hSw); go_simp; all_goals with_reducible rfl
  try simp only [pS]
  refine wpAnyH_ready (rs := [6, 10]) (by kernel_rfl) (by simp) ?_
  refine AllReadyH.cons opn6 (fun K hK => ?_) (AllReadyH.cons opn10 (fun K hK => ?_) (AllReadyH.nil))
  · rw [if_pos (by kernel_rfl)]
    go_simp
    refine ((unhide HTK) _ (below_drew V)).mono ?_
    rintro e w1 ⟨rfl, hb1⟩
    have hk2 : w1.heap[w.heap.size]? = V.heap[w.heap.size]? := (hb1.block _ hlV).trans (Eq.refl _)
    obtain ⟨o1, r1, n1⟩ := (unhide HTP) _ _ (below_drew V) hb1
    have hnb := (n1.keep w.heap.size hlV ((unhide HKA) _ (Nat.le_refl _))).1
    have hl1 : V.heap.size ≤ w1.heap.size := n1.below.size
    have HR1 := hide r1
    have HN1 := hide (((Next.of_below (o.all H) ((unhide HBV).trans (((below_drew V)).mono (unhide HBV).size)) hNw)).trans n1)
    clear hb1 r1 n1
    refine hK.out _ _ (hk2) (fun hHeldN => ?_)
    clear hHeld hK K; have hHeld := hHeldN; clear hHeldN
    try simp only [pS]
    clear hk2
    refine tkH ?_ opn7 (fun _ _ _ h => h) hHeld ?_ ?_
    rotate_left 1
    · intro wz hSw; (try dsimp only at hSw); go_simp; all_goals with_reducible rfl
    try simp only [pS]
    refine tkH ?_ opn8 (fun _ _ _ h => h) hHeld ?_ ?_
    rotate_left 1
    · intro wz hSw; (try dsimp only at hSw); go_simp; all_goals with_reducible rfl
    try simp only [pS]
    refine tkH ?_ opn9 (fun _ _ _ h => h) hHeld ?_ ?_
    rotate_left 1
    · intro wz hSw; (try dsimp only at hSw); go_simp; all_goals with_reducible rfl
    try simp only [pS]
    refine wpAnyH_ready (rs := [10]) (by kernel_rfl) (by simp) ?_
    refine AllReadyH.cons opn10 (fun K hK => ?_) AllReadyH.nil
    rw [if_pos (by kernel_rfl)]
    go_simp
    have hba : Below w1.heap.size w1 (w1.alloc (.cells #[.bool false, .int .i64 0, .int .i64 0, .int .i64 0, .string ⟨#[]⟩, .string ⟨#[]⟩, .string ⟨#[]⟩, .int .i64 0, .string ⟨#[]⟩] 92)) := (Below.refl _ _).alloc (Nat.le_refl _) _
    have HZ : Hid ((w1.alloc (.cells #[.bool false, .int .i64 0, .int .i64 0, .int .i64 0, .string ⟨#[]⟩, .string ⟨#[]⟩, .string ⟨#[]⟩, .int .i64 0, .string ⟨#[]⟩] 92)).heap[w1.heap.size]? = some (.cells #[.bool false, .int .i64 0, .int .i64 0, .int .i64 0, .string ⟨#[]⟩, .string ⟨#[]⟩, .string ⟨#[]⟩, .int .i64 0, .string ⟨#[]⟩] 92 (0, 0))) := heap_alloc_new _ _
    refine hK.out _ _ ((hba.block w.heap.size (by omega)).trans hHeld) (fun hHeldN => ?_)
    clear hHeld hK K; have hHeld := hHeldN; clear hHeldN
    try simp only [pS]
    generalize w1.alloc (.cells #[.bool false, .int .i64 0, .int .i64 0, .int .i64 0, .string ⟨#[]⟩, .string ⟨#[]⟩, .string ⟨#[]⟩, .int .i64 0, .string ⟨#[]⟩] 92) = W1 at hba HZ hHeld ⊢
    refine wpAnyH_ready (rs := [11]) (by kernel_rfl) (by simp) ?_
    refine AllReadyH.cons opn11 (fun K hK => ?_) AllReadyH.nil
    rw [if_pos (by kernel_rfl)]
    refine wp_store_mid _ _ _ rfl w1.heap.size 0 #[.bool pr, .int .i64 pc, .int .i64 pn, .int .i64 pk, .string pa, .string pb, .string pt, .int .i64 pd, .string pu] (by simp [Act.eval]) (by simp [Act.eval]) (fun j hj => ⟨by rw [Nat.zero_add, cell_of_row W1 w1.heap.size j _ _ _ (unhide HZ), Array.getElem?_eq_getElem (by simpa using hj)]; rfl, by rw [Nat.zero_add]; exact frozen_of_row W1 w1.heap.size j _ _ (unhide HZ)⟩) infoP (by simp [Value.oneCell']) ?_
    have hQ2 := setRowN (cs := #[.bool pr, .int .i64 pc, .int .i64 pn, .int .i64 pk, .string pa, .string pb, .string pt, .int .i64 pd, .string pu]) (unhide HZ) rfl
    have hK2 := kept_setCells w1.heap.size (Array.toList #[.bool pr, .int .i64 pc, .int .i64 pn, .int .i64 pk, .string pa, .string pb, .string pt, .int .i64 pd, .string pu]) 0 W1
    obtain ⟨W2, hW2⟩ : ∃ W', W' = W1.setCells w1.heap.size 0 (Array.toList #[.bool pr, .int .i64 pc, .int .i64 pn, .int .i64 pk, .string pa, .string pb, .string pt, .int .i64 pd, .string pu]) := ⟨_, rfl⟩
    rw [← hW2] at hQ2 hK2 ⊢
    have hlW1 := hba.size
    refine hK.out _ _ ((hK2.block w.heap.size (by omega) (by simp; omega)).trans hHeld) (fun hHeldN => ?_)
    clear hHeld hK K; have hHeld := hHeldN; clear hHeldN
    try simp only [pS]
    have hbW : Below w1.heap.size w1 W2 := ⟨hK2.os.trans hba.os, hK2.tape.trans hba.tape, hK2.output.trans hba.output, Nat.le_trans hba.size hK2.size, fun j hj => (hK2.block j (Nat.lt_of_lt_of_le hj hba.size) (by simp; omega)).trans (hba.block j hj)⟩
    refine tkH ?_ opn12 (fun _ _ _ h => h) hHeld ?_ ?_
    rotate_left 1
    · intro wz hSw; (try dsimp only at hSw); go_simp; all_goals with_reducible rfl
    try simp only [pS]
    refine wpAnyH_done (by kernel_rfl) ?_ _
    have HX := hide (hHeld.trans (unhide HXV))
    have HQ := hide hQ2
    have HR := hide ((unhide HR1).below hbW)
    have HN := hide ((unhide HN1).trans (Next.of_below _ hbW (unhide HR1).size))
    have hnq := (unhide HR1).not_new (Nat.le_refl _)
    have hlQ : w1.heap.size < W2.heap.size := (Array.getElem?_eq_some_iff.1 (unhide HQ)).1
    have hlX : w.heap.size < W2.heap.size := (Array.getElem?_eq_some_iff.1 (unhide HX)).1
    clear hQ2 hK2 hbW hba HZ hlW1 hHeld HR1 HN1 hW2
    cases op
    · go_wp2
      go_ret
      have hres : R = (6, A) := (unhide HRES).trans (if_pos (by trivial))
      rw [hres]
      exact ⟨rfl, _, unhide HR, unhide HN⟩
    · have hbd := below_drew W2
      have HPS := hide (BSend_anyH ((unhide HR).below hbd).bag ⟨pr, pc, pn, ⟨pk, pa, pb, pt⟩, pd, pu⟩ (unhide HSM))
      have HPT := hide (fun w' (hT : PTurnH (FP o1 A) 42 N W2.drew H o1.pv w' (aSend A.ms ⟨pr, pc, pn, ⟨pk, pa, pb, pt⟩, pd, pu⟩)) => ((unhide HR).below hbd).turnP hT)
      have HKQ : Hid (w1.heap.size ∉ powns H o1.pv) := fun hm => hnq (by
        rcases List.mem_cons.1 hm with e | e
        · exact HOwn.mem_all.2 (.inl e)
        · exact HOwn.mem_all.2 (.inr ⟨4, by omega, by show o1.pv.ownBlock = _; simpa using e⟩))
      have HN4 := hide ((unhide HN).trans (Next.of_below _ hbd (unhide HR).size))
      have HSTAY : Hid (¬ A.ms.length < 40 → aSend A.ms ⟨pr, pc, pn, ⟨pk, pa, pb, pt⟩, pd, pu⟩ = A.ms) := fun h4 => by unfold aSend; rw [if_neg h4]
      dsimp only [APkt.val] at HPS
      generalize o1.pv = pv at HPS HPT HKQ
      clear hbd
      go_wp2_with fail
      refine wp_region_held_drew (S := (fun wx => wx.heap[w1.heap.size]? = W2.heap[w1.heap.size]?)) (by kernel_rfl) (rfl) (fun hHeld => ?_)
      refine tkH ?_ opn0 (fun _ _ _ h => h) hHeld ?_ ?_
      rotate_left 1
      · intro wz hSw; (try dsimp only at hSw); go_simp; all_goals with_reducible rfl
      try simp only [pS]
      refine tkH ?_ opn1 (fun _ _ _ h => h) hHeld ?_ ?_
      rotate_left 1
      · intro wz hSw; (try dsimp only at hSw); go_simp; all_goals with_reducible rfl
      try simp only [pS]
      refine tkH ?_ opn2 (fun _ _ _ h => h) hHeld ?_ ?_
      rotate_left 1
      · intro wz hSw; (try dsimp only at hSw); go_simp; all_goals with_reducible rfl
      try simp only [pS]
      refine tkH ?_ opn3 (fun _ _ _ h => h) hHeld ?_ ?_
      rotate_left 1
      · intro wz hSw; (try dsimp only at hSw)
        obtain ⟨⟨x0, x1, x2, x3⟩, ⟨x4, x5, x6, x7, x8⟩, xf⟩ := nine (hSw.trans (unhide HQ))
        go_simp; all_goals with_reducible rfl
      try simp only [pS]
      refine wpAnyH_ready (rs := [4]) (by kernel_rfl) (by simp) ?_
      refine AllReadyH.cons opn4 (fun K hK => ?_) AllReadyH.nil
      rw [if_pos (by kernel_rfl)]
      go_simp
      refine (unhide HPS).mono ?_
      rintro e w4 ⟨rfl, hT⟩
      have hk2 : w4.heap[w1.heap.size]? = W2.heap[w1.heap.size]? := hT.same hlQ (unhide HKQ)
      obtain ⟨o4, r4, n4⟩ := (unhide HPT) _ hT
      have HFIN := hide (And.intro r4 ((unhide HN4).trans n4))
      clear hT r4 n4
      by_cases h4 : A.ms.length < 40
      · rw [decide_eq_true h4]
        refine hK.out _ _ (hk2) (fun hHeldN => ?_)
        clear hHeld hK K; have hHeld := hHeldN; clear hHeldN
        try simp only [pS]
        refine tkH (.bool false) opn5 (fun _ _ _ h => h) hHeld ?_ ?_
        · intro wz hSw; (try dsimp only at hSw); go_simp; all_goals with_reducible rfl
        try simp only [pS]
        refine wpAnyH_done (by kernel_rfl) ?_ _
        clear hHeld hk2
        go_wp2
        go_ret
        have hres := (unhide HRES).trans ((if_neg (c := true = false) (by simp)).trans (if_pos h4))
        rw [hres]
        exact ⟨rfl, _, (unhide HFIN).1, (unhide HFIN).2⟩
      · rw [decide_eq_false h4]
        refine hK.out _ _ (hk2) (fun hHeldN => ?_)
        clear hHeld hK K; have hHeld := hHeldN; clear hHeldN
        try simp only [pS]
        refine tkH (.bool true) opn5 (fun _ _ _ h => h) hHeld ?_ ?_
        · intro wz hSw; (try dsimp only at hSw); go_simp; all_goals with_reducible rfl
        try simp only [pS]
        refine wpAnyH_done (by kernel_rfl) ?_ _
        clear hHeld hk2
        go_wp2
        go_ret
        have hres := (unhide HRES).trans ((if_neg (c := true = false) (by simp)).trans (if_neg h4))
        rw [hres]
        have hf := (unhide HFIN).1
        rw [(unhide HSTAY) h4] at hf
        exact ⟨rfl, _, hf, (unhide HFIN).2⟩
  · rw [if_pos (by kernel_rfl)]
    go_simp
    have hba := below_alloc_drew V (.cells #[.bool false, .int .i64 0, .int .i64 0, .int .i64 0, .string ⟨#[]⟩, .string ⟨#[]⟩, .string ⟨#[]⟩, .int .i64 0, .string ⟨#[]⟩] 92)
    have HZ := hide (alloc_drew_new V (.cells #[.bool false, .int .i64 0, .int .i64 0, .int .i64 0, .string ⟨#[]⟩, .string ⟨#[]⟩, .string ⟨#[]⟩, .int .i64 0, .string ⟨#[]⟩] 92))
    refine hK.out _ _ (hba.block w.heap.size hlV) (fun hHeldN => ?_)
    clear hHeld hK K; have hHeld := hHeldN; clear hHeldN
    try simp only [pS]
    generalize (V.alloc (.cells #[.bool false, .int .i64 0, .int .i64 0, .int .i64 0, .string ⟨#[]⟩, .string ⟨#[]⟩, .string ⟨#[]⟩, .int .i64 0, .string ⟨#[]⟩] 92)).drew = V1 at hba HZ hHeld ⊢
    have hlZ : V.heap.size < V1.heap.size := (Array.getElem?_eq_some_iff.1 (unhide HZ)).1
    refine wpAnyH_ready (rs := [6]) (by kernel_rfl) (by simp) ?_
    refine AllReadyH.cons opn6 (fun K hK => ?_) AllReadyH.nil
    rw [if_pos (by kernel_rfl)]
    go_simp
    refine ((unhide HTK) _ hba).mono ?_
    rintro e w1 ⟨rfl, hb1⟩
    have hk2 : w1.heap[w.heap.size]? = V.heap[w.heap.size]? := (hb1.block _ (Nat.lt_trans hlV hlZ)).trans ((hba.block _ hlV))
    have HZ1 := hide ((hb1.block _ hlZ).trans (unhide HZ))
    obtain ⟨o1, r1, n1⟩ := (unhide HTP) _ _ hba hb1
    have hnb := (n1.keep w.heap.size (Nat.lt_trans hlV hlZ) ((unhide HKA) _ (Nat.le_refl _))).1
    have hnz := (n1.keep V.heap.size hlZ ((unhide HKA) _ (Nat.le_of_lt hlV))).1
    have hl1 : V1.heap.size ≤ w1.heap.size := n1.below.size
    have HR1 := hide r1
    have HN1 := hide (((Next.of_below (o.all H) ((unhide HBV).trans ((hba).mono (unhide HBV).size)) hNw)).trans n1)
    clear hb1 r1 n1
    refine hK.out _ _ (hk2) (fun hHeldN => ?_)
    clear hHeld hK K; have hHeld := hHeldN; clear hHeldN
    try simp only [pS]
    clear hk2
    refine tkH ?_ opn7 (fun _ _ _ h => h) hHeld ?_ ?_
    rotate_left 1
    · intro wz hSw; (try dsimp only at hSw); go_simp; all_goals with_reducible rfl
    try simp only [pS]
    refine tkH ?_ opn8 (fun _ _ _ h => h) hHeld ?_ ?_
    rotate_left 1
    · intro wz hSw; (try dsimp only at hSw); go_simp; all_goals with_reducible rfl
    try simp only [pS]
    refine tkH ?_ opn9 (fun _ _ _ h => h) hHeld ?_ ?_
    rotate_left 1
    · intro wz hSw; (try dsimp only at hSw); go_simp; all_goals with_reducible rfl
    try simp only [pS]
    refine wpAnyH_ready (rs := [11]) (by kernel_rfl) (by simp) ?_
    refine AllReadyH.cons opn11 (fun K hK => ?_) AllReadyH.nil
    rw [if_pos (by kernel_rfl)]
    refine wp_store_mid _ _ _ rfl V.heap.size 0 #[.bool pr, .int .i64 pc, .int .i64 pn, .int .i64 pk, .string pa, .string pb, .string pt, .int .i64 pd, .string pu] (by simp [Act.eval]) (by simp [Act.eval]) (fun j hj => ⟨by rw [Nat.zero_add, cell_of_row w1 V.heap.size j _ _ _ (unhide HZ1), Array.getElem?_eq_getElem (by simpa using hj)]; rfl, by rw [Nat.zero_add]; exact frozen_of_row w1 V.heap.size j _ _ (unhide HZ1)⟩) infoP (by simp [Value.oneCell']) ?_
    have hQ2 := setRowN (cs := #[.bool pr, .int .i64 pc, .int .i64 pn, .int .i64 pk, .string pa, .string pb, .string pt, .int .i64 pd, .string pu]) (unhide HZ1) rfl
    have hK2 := kept_setCells V.heap.size (Array.toList #[.bool pr, .int .i64 pc, .int .i64 pn, .int .i64 pk, .string pa, .string pb, .string pt, .int .i64 pd, .string pu]) 0 w1
    obtain ⟨W2, hW2⟩ : ∃ W', W' = w1.setCells V.heap.size 0 (Array.toList #[.bool pr, .int .i64 pc, .int .i64 pn, .int .i64 pk, .string pa, .string pb, .string pt, .int .i64 pd, .string pu]) := ⟨_, rfl⟩
    rw [← hW2] at hQ2 hK2 ⊢
    refine hK.out _ _ ((hK2.block w.heap.size (by omega) (by simp; omega)).trans hHeld) (fun hHeldN => ?_)
    clear hHeld hK K; have hHeld := hHeldN; clear hHeldN
    try simp only [pS]
    refine tkH ?_ opn12 (fun _ _ _ h => h) hHeld ?_ ?_
    rotate_left 1
    · intro wz hSw; (try dsimp only at hSw); go_simp; all_goals with_reducible rfl
    try simp only [pS]
    refine wpAnyH_done (by kernel_rfl) ?_ _
    have HX := hide (hHeld.trans (unhide HXV))
    have HQ := hide hQ2
    have HR := hide ((unhide HR1).set hnz hK2)
    have HN := hide ((unhide HN1).setN hNw (Nat.le_of_lt hlV) hK2)
    have hnq := hnz
    have hlQ : V.heap.size < W2.heap.size := (Array.getElem?_eq_some_iff.1 (unhide HQ)).1
    have hlX : w.heap.size < W2.heap.size := (Array.getElem?_eq_some_iff.1 (unhide HX)).1
    clear hQ2 hK2 hba HZ HZ1 hHeld HR1 HN1 hW2
    cases op
    · go_wp2
      go_ret
      have hres : R = (6, A) := (unhide HRES).trans (if_pos (by trivial))
      rw [hres]
      exact ⟨rfl, _, unhide HR, unhide HN⟩
    · have hbd := below_drew W2
      have HPS := hide (BSend_anyH ((unhide HR).below hbd).bag ⟨pr, pc, pn, ⟨pk, pa, pb, pt⟩, pd, pu⟩ (unhide HSM))
      have HPT := hide (fun w' (hT : PTurnH (FP o1 A) 42 N W2.drew H o1.pv w' (aSend A.ms ⟨pr, pc, pn, ⟨pk, pa, pb, pt⟩, pd, pu⟩)) => ((unhide HR).below hbd).turnP hT)
      have HKQ : Hid (V.heap.size ∉ powns H o1.pv) := fun hm => hnq (by
        rcases List.mem_cons.1 hm with e | e
        · exact HOwn.mem_all.2 (.inl e)
        · exact HOwn.mem_all.2 (.inr ⟨4, by omega, by show o1.pv.ownBlock = _; simpa using e⟩))
      have HN4 := hide ((unhide HN).trans (Next.of_below _ hbd (unhide HR).size))
      have HSTAY : Hid (¬ A.ms.length < 40 → aSend A.ms ⟨pr, pc, pn, ⟨pk, pa, pb, pt⟩, pd, pu⟩ = A.ms) := fun h4 => by unfold aSend; rw [if_neg h4]
      dsimp only [APkt.val] at HPS
      generalize o1.pv = pv at HPS HPT HKQ
      clear hbd
      go_wp2_with fail
      refine wp_region_held_drew (S := (fun wx => wx.heap[V.heap.size]? = W2.heap[V.heap.size]?)) (by kernel_rfl) (rfl) (fun hHeld => ?_)
      refine tkH ?_ opn0 (fun _ _ _ h => h) hHeld ?_ ?_
      rotate_left 1
      · intro wz hSw; (try dsimp only at hSw); go_simp; all_goals with_reducible rfl
      try simp only [pS]
      refine tkH ?_ opn1 (fun _ _ _ h => h) hHeld ?_ ?_
      rotate_left 1
      · intro wz hSw; (try dsimp only at hSw); go_simp; all_goals with_reducible rfl
      try simp only [pS]
      refine tkH ?_ opn2 (fun _ _ _ h => h) hHeld ?_ ?_
      rotate_left 1
      · intro wz hSw; (try dsimp only at hSw); go_simp; all_goals with_reducible rfl
      try simp only [pS]
      refine tkH ?_ opn3 (fun _ _ _ h => h) hHeld ?_ ?_
      rotate_left 1
      · intro wz hSw; (try dsimp only at hSw)
        obtain ⟨⟨x0, x1, x2, x3⟩, ⟨x4, x5, x6, x7, x8⟩, xf⟩ := nine (hSw.trans (unhide HQ))
        go_simp; all_goals with_reducible rfl
      try simp only [pS]
      refine wpAnyH_ready (rs := [4]) (by kernel_rfl) (by simp) ?_
      refine AllReadyH.cons opn4 (fun K hK => ?_) AllReadyH.nil
      rw [if_pos (by kernel_rfl)]
      go_simp
      refine (unhide HPS).mono ?_
      rintro e w4 ⟨rfl, hT⟩
      have hk2 : w4.heap[V.heap.size]? = W2.heap[V.heap.size]? := hT.same hlQ (unhide HKQ)
      obtain ⟨o4, r4, n4⟩ := (unhide HPT) _ hT
      have HFIN := hide (And.intro r4 ((unhide HN4).trans n4))
      clear hT r4 n4
      by_cases h4 : A.ms.length < 40
      · rw [decide_eq_true h4]
        refine hK.out _ _ (hk2) (fun hHeldN => ?_)
        clear hHeld hK K; have hHeld := hHeldN; clear hHeldN
        try simp only [pS]
        refine tkH (.bool false) opn5 (fun _ _ _ h => h) hHeld ?_ ?_
        · intro wz hSw; (try dsimp only at hSw); go_simp; all_goals with_reducible rfl
        try simp only [pS]
        refine wpAnyH_done (by kernel_rfl) ?_ _
        clear hHeld hk2
        go_wp2
        go_ret
        have hres := (unhide HRES).trans ((if_neg (c := true = false) (by simp)).trans (if_pos h4))
        rw [hres]
        exact ⟨rfl, _, (unhide HFIN).1, (unhide HFIN).2⟩
      · rw [decide_eq_false h4]
        refine hK.out _ _ (hk2) (fun hHeldN => ?_)
        clear hHeld hK K; have hHeld := hHeldN; clear hHeldN
        try simp only [pS]
        refine tkH (.bool true) opn5 (fun _ _ _ h => h) hHeld ?_ ?_
        · intro wz hSw; (try dsimp only at hSw); go_simp; all_goals with_reducible rfl
        try simp only [pS]
        refine wpAnyH_done (by kernel_rfl) ?_ _
        clear hHeld hk2
        go_wp2
        go_ret
        have hres := (unhide HRES).trans ((if_neg (c := true = false) (by simp)).trans (if_neg h4))
        rw [hres]
        have hf := (unhide HFIN).1
        rw [(unhide HSTAY) h4] at hf
        exact ⟨rfl, _, hf, (unhide HFIN).2⟩
set_option maxRecDepth 100000 in
set_option maxHeartbeats 4000000 in
theorem hstep_lose {N : Nat} {w : World} {H : Nat} {o : HOwn} {A : AW} (h : HRep N w H o A) (x : AX) (hx : SmallC x.call) (hk : x.kind = 4) (h0 : A.ms.length ≠ 0) :
    Calls Tryz.prog 27 #[.pointer (some ⟨H, 0, none⟩), x.val] w fun e w' => e = .returned (.int .i64 (A.step x).1) ∧ HTurn N w H o w' (A.step x).2 := by
  obtain ⟨V, hV⟩ : ∃ V, V = w.alloc (.cells #[.int .i64 x.kind, .int .i64 x.n, .int .i64 x.keep, .int .i64 x.call.kind, .string x.call.name, .string x.call.dst, .string x.call.text] 69) := ⟨_, rfl⟩
  have hBV : Below w.heap.size w V := by rw [hV]; exact (Below.refl _ _).alloc (Nat.le_refl _) _
  have hXV : V.heap[w.heap.size]? = some (.cells #[.int .i64 x.kind, .int .i64 x.n, .int .i64 x.keep, .int .i64 x.call.kind, .string x.call.name, .string x.call.dst, .string x.call.text] 69 (0, 0)) := by rw [hV]; exact heap_alloc_new _ _
  have hlV : w.heap.size < V.heap.size := (Array.getElem?_eq_some_iff.1 hXV).1
  have hrV := h.below hBV
  have HBV := hide hBV
  have HXV := hide hXV
  have HV := hide hV
  have e1 : A.step x = A.take x := by unfold AW.step; rw [if_neg (by omega), if_neg (by omega), if_neg (by omega), if_pos (by omega)]
  rw [e1]
  have hNw := h.size
  have HTK := hide (fun W' (hb : Below V.heap.size V W') => BTake_anyH (hrV.below hb).bag x.n)
  have HTP := hide (fun W' w1 (hb : Below V.heap.size V W') (hT : PTurnH (FP o A) 42 N W' H o.pv w1 (aTakeL A.ms x.n)) => (hrV.below hb).turnP hT)
  have HKB : Hid (∀ b, w.heap.size ≤ b → b ∉ powns H o.pv) := fun b hb hm => by
    rcases List.mem_cons.1 hm with e | e
    · have := h.lt; omega
    · have := (h.prow.lt _ (by simpa using e)).2; omega
  have HKA : Hid (∀ b, w.heap.size ≤ b → b ∉ o.all H) := fun b hb => h.not_new hb
  have hB : aTakeB A.ms = true := decide_eq_true (by omega)
  rw [hB] at HTK
  have HSM : Hid (SmallP (aTakeM A.ms x.n)) := h.small _ (takeM_mem x.n h0)
  have HRES : Hid (A.take x = (0, A.took x.n)) := by show AW.take A x = _; unfold AW.take; rw [if_neg h0]; rw [if_neg (by omega), if_neg (by omega)]
  generalize A.take x = R at HRES ⊢
  have HAT : Hid (A.took x.n = ⟨A.log, A.cl, aTakeL A.ms x.n⟩) := rfl
  generalize A.took x.n = A2 at HRES HAT
  generalize aTakeM A.ms x.n = p at HTK HSM HRES
  generalize aTakeL A.ms x.n = ms' at HTK HTP HAT
  obtain ⟨pr, pc, pn, ⟨pk, pa, pb, pt⟩, pd, pu⟩ := p
  obtain ⟨qa, qcap, hpf⟩ := h.bag.form
  have hcp := h.bag.can.1
  rw [hpf] at hcp
  have hHl := h.lt
  have hlen : (A.ms.length : Int) ≠ 0 := by omega
  obtain ⟨ln, hln⟩ : ∃ ln, A.ms.length = ln := ⟨_, rfl⟩
  rw [hln] at hcp hlen
  have hlb : ((ln : Int) == 0) = false := by simpa using hlen
  generalize o.pv = pv at HTK HTP HKB hpf
  obtain ⟨⟨x0, x1, x2, x3⟩, ⟨x4, x5, x6⟩, xf⟩ := seven hXV
  clear h e1 hV hBV hXV hrV hx h0 hB hpf hln hlen
  obtain ⟨xk, xn, xp, ⟨ck, ca, cb, ct⟩⟩ := x
  dsimp only [AX.val] at *
  dsimp only [APkt.val] at *
  subst hk
  go_enter Tryz.func27, Tryz.ntmps27
  go_wp2_with fail
  rw [← unhide HV]
  clear x0 x1 x2 x3 x4 x5 x6 xf
  clear hcp hHl hlb
  refine wp_region_held_drew (S := (fun wx => wx.heap[w.heap.size]? = V.heap[w.heap.size]?)) (by kernel_rfl) (rfl) (fun hHeld => ?_)
  refine tkH ?_ opn0 (fun _ _ _ h => h) hHeld ?_ ?_
  rotate_left 1
  · intro wz hSw; (try dsimp only at hSw); go_simp; all_goals with_reducible rfl
  try simp only [pS]
  refine tkH ?_ opn1 (fun _ _ _ h => h) hHeld ?_ ?_
  rotate_left 1
  · intro wz hSw; (try dsimp only at hSw); go_simp; all_goals with_reducible rfl
  try simp only [pS]
  refine tkH ?_ opn2 (fun _ _ _ h => h) hHeld ?_ ?_
  rotate_left 1
  · intro wz hSw; (try dsimp only at hSw); go_simp; all_goals with_reducible rfl
  try simp only [pS]
  refine tkH ?_ opn3 (fun _ _ _ h => h) hHeld ?_ ?_
  rotate_left 1
  · intro wz hSw; (try dsimp only at hSw); go_simp; all_goals with_reducible rfl
  try simp only [pS]
  refine tkH ?_ opn4 (fun _ _ _ h => h) hHeld ?_ ?_
  rotate_left 1
  · intro wz hSw; (try dsimp only at hSw)
    obtain ⟨⟨x0, x1, x2, x3⟩, ⟨x4, x5, x6⟩, xf⟩ := seven (hSw.trans (unhide HXV))
    go_simp; all_goals with_reducible rfl
  try simp only [pS]
  refine wpAnyH_ready (rs := [5, 9]) (by kernel_rfl) (by simp) ?_
  refine AllReadyH.cons opn5 (fun K hK => ?_) (AllReadyH.cons opn9 (fun K hK => ?_) (AllReadyH.nil))
  · rw [if_pos (by kernel_rfl)]
    go_simp
    refine ((unhide HTK) _ (below_drew V)).mono ?_
    rintro e w1 ⟨rfl, hT⟩
    have hk2 : w1.heap[w.heap.size]? = V.heap[w.heap.size]? := (hT.same hlV ((unhide HKB) _ (Nat.le_refl _))).trans (Eq.refl _)
    obtain ⟨o1, r1, n1⟩ := (unhide HTP) _ _ (below_drew V) hT
    have hnb := (n1.keep w.heap.size hlV ((unhide HKA) _ (Nat.le_refl _))).1
    have hl1 : V.heap.size ≤ w1.heap.size := n1.below.size
    have HR1 := hide r1
    have HN1 := hide (((Next.of_below (o.all H) ((unhide HBV).trans (((below_drew V)).mono (unhide HBV).size)) hNw)).trans n1)
    clear hT r1 n1
    refine hK.out _ _ (hk2) (fun hHeldN => ?_)
    clear hHeld hK K; have hHeld := hHeldN; clear hHeldN
    try simp only [pS]
    clear hk2
    refine tkH ?_ opn6 (fun _ _ _ h => h) hHeld ?_ ?_
    rotate_left 1
    · intro wz hSw; (try dsimp only at hSw); go_simp; all_goals with_reducible rfl
    try simp only [pS]
    refine tkH ?_ opn7 (fun _ _ _ h => h) hHeld ?_ ?_
    rotate_left 1
    · intro wz hSw; (try dsimp only at hSw); go_simp; all_goals with_reducible rfl
    try simp only [pS]
    refine tkH ?_ opn8 (fun _ _ _ h => h) hHeld ?_ ?_
    rotate_left 1
    · intro wz hSw; (try dsimp only at hSw); go_simp; all_goals with_reducible rfl
    try simp only [pS]
    refine wpAnyH_ready (rs := [9]) (by kernel_rfl) (by simp) ?_
    refine AllReadyH.cons opn9 (fun K hK => ?_) AllReadyH.nil
    rw [if_pos (by kernel_rfl)]
    go_simp
    have hba : Below w1.heap.size w1 (w1.alloc (.cells #[.bool false, .int .i64 0, .int .i64 0, .int .i64 0, .string ⟨#[]⟩, .string ⟨#[]⟩, .string ⟨#[]⟩, .int .i64 0, .string ⟨#[]⟩] 92)) := (Below.refl _ _).alloc (Nat.le_refl _) _
    have HZ : Hid ((w1.alloc (.cells #[.bool false, .int .i64 0, .int .i64 0, .int .i64 0, .string ⟨#[]⟩, .string ⟨#[]⟩, .string ⟨#[]⟩, .int .i64 0, .string ⟨#[]⟩] 92)).heap[w1.heap.size]? = some (.cells #[.bool false, .int .i64 0, .int .i64 0, .int .i64 0, .string ⟨#[]⟩, .string ⟨#[]⟩, .string ⟨#[]⟩, .int .i64 0, .string ⟨#[]⟩] 92 (0, 0))) := heap_alloc_new _ _
    refine hK.out _ _ ((hba.block w.heap.size (by omega)).trans hHeld) (fun hHeldN => ?_)
    clear hHeld hK K; have hHeld := hHeldN; clear hHeldN
    try simp only [pS]
    generalize w1.alloc (.cells #[.bool false, .int .i64 0, .int .i64 0, .int .i64 0, .string ⟨#[]⟩, .string ⟨#[]⟩, .string ⟨#[]⟩, .int .i64 0, .string ⟨#[]⟩] 92) = W1 at hba HZ hHeld ⊢
    refine wpAnyH_ready (rs := [10]) (by kernel_rfl) (by simp) ?_
    refine AllReadyH.cons opn10 (fun K hK => ?_) AllReadyH.nil
    rw [if_pos (by kernel_rfl)]
    refine wp_store_mid _ _ _ rfl w1.heap.size 0 #[.bool pr, .int .i64 pc, .int .i64 pn, .int .i64 pk, .string pa, .string pb, .string pt, .int .i64 pd, .string pu] (by simp [Act.eval]) (by simp [Act.eval]) (fun j hj => ⟨by rw [Nat.zero_add, cell_of_row W1 w1.heap.size j _ _ _ (unhide HZ), Array.getElem?_eq_getElem (by simpa using hj)]; rfl, by rw [Nat.zero_add]; exact frozen_of_row W1 w1.heap.size j _ _ (unhide HZ)⟩) infoP (by simp [Value.oneCell']) ?_
    have hQ2 := setRowN (cs := #[.bool pr, .int .i64 pc, .int .i64 pn, .int .i64 pk, .string pa, .string pb, .string pt, .int .i64 pd, .string pu]) (unhide HZ) rfl
    have hK2 := kept_setCells w1.heap.size (Array.toList #[.bool pr, .int .i64 pc, .int .i64 pn, .int .i64 pk, .string pa, .string pb, .string pt, .int .i64 pd, .string pu]) 0 W1
    obtain ⟨W2, hW2⟩ : ∃ W', W' = W1.setCells w1.heap.size 0 (Array.toList #[.bool pr, .int .i64 pc, .int .i64 pn, .int .i64 pk, .string pa, .string pb, .string pt, .int .i64 pd, .string pu]) := ⟨_, rfl⟩
    rw [← hW2] at hQ2 hK2 ⊢
    have hlW1 := hba.size
    refine hK.out _ _ ((hK2.block w.heap.size (by omega) (by simp; omega)).trans hHeld) (fun hHeldN => ?_)
    clear hHeld hK K; have hHeld := hHeldN; clear hHeldN
    try simp only [pS]
    have hbW : Below w1.heap.size w1 W2 := ⟨hK2.os.trans hba.os, hK2.tape.trans hba.tape, hK2.output.trans hba.output, Nat.le_trans hba.size hK2.size, fun j hj => (hK2.block j (Nat.lt_of_lt_of_le hj hba.size) (by simp; omega)).trans (hba.block j hj)⟩
    refine tkH ?_ opn11 (fun _ _ _ h => h) hHeld ?_ ?_
    rotate_left 1
    · intro wz hSw; (try dsimp only at hSw); go_simp; all_goals with_reducible rfl
    try simp only [pS]
    refine wpAnyH_done (by kernel_rfl) ?_ _
    have HX := hide (hHeld.trans (unhide HXV))
    have HQ := hide hQ2
    have HR := hide ((unhide HR1).below hbW)
    have HN := hide ((unhide HN1).trans (Next.of_below _ hbW (unhide HR1).size))
    have hnq := (unhide HR1).not_new (Nat.le_refl _)
    have hlQ : w1.heap.size < W2.heap.size := (Array.getElem?_eq_some_iff.1 (unhide HQ)).1
    have hlX : w.heap.size < W2.heap.size := (Array.getElem?_eq_some_iff.1 (unhide HX)).1
    clear hQ2 hK2 hbW hba HZ hlW1 hHeld HR1 HN1 hW2
    obtain ⟨⟨x0, x1, x2, x3⟩, ⟨x4, x5, x6⟩, xf⟩ := seven (unhide HX)
    obtain ⟨⟨q0, q1, q2, q3⟩, ⟨q4, q5, q6, q7, q8⟩, qf⟩ := nine (unhide HQ)
    have HR2 : Hid (HRep N W2 H o1 A2) := by rw [unhide HAT]; exact unhide HR
    go_wp2
    go_ret
    rw [unhide HRES]
    exact ⟨rfl, _, unhide HR2, unhide HN⟩
  · rw [if_pos (by kernel_rfl)]
    go_simp
    have hba := below_alloc_drew V (.cells #[.bool false, .int .i64 0, .int .i64 0, .int .i64 0, .string ⟨#[]⟩, .string ⟨#[]⟩, .string ⟨#[]⟩, .int .i64 0, .string ⟨#[]⟩] 92)
    have HZ := hide (alloc_drew_new V (.cells #[.bool false, .int .i64 0, .int .i64 0, .int .i64 0, .string ⟨#[]⟩, .string ⟨#[]⟩, .string ⟨#[]⟩, .int .i64 0, .string ⟨#[]⟩] 92))
    refine hK.out _ _ (hba.block w.heap.size hlV) (fun hHeldN => ?_)
    clear hHeld hK K; have hHeld := hHeldN; clear hHeldN
    try simp only [pS]
    generalize (V.alloc (.cells #[.bool false, .int .i64 0, .int .i64 0, .int .i64 0, .string ⟨#[]⟩, .string ⟨#[]⟩, .string ⟨#[]⟩, .int .i64 0, .string ⟨#[]⟩] 92)).drew = V1 at hba HZ hHeld ⊢
    have hlZ : V.heap.size < V1.heap.size := (Array.getElem?_eq_some_iff.1 (unhide HZ)).1
    refine wpAnyH_ready (rs := [5]) (by kernel_rfl) (by simp) ?_
    refine AllReadyH.cons opn5 (fun K hK => ?_) AllReadyH.nil
    rw [if_pos (by kernel_rfl)]
    go_simp
    refine ((unhide HTK) _ hba).mono ?_
    rintro e w1 ⟨rfl, hT⟩
    have hk2 : w1.heap[w.heap.size]? = V.heap[w.heap.size]? := (hT.same (Nat.lt_trans hlV hlZ) ((unhide HKB) _ (Nat.le_refl _))).trans ((hba.block _ hlV))
    have HZ1 := hide ((hT.same hlZ ((unhide HKB) _ (Nat.le_of_lt hlV))).trans (unhide HZ))
    obtain ⟨o1, r1, n1⟩ := (unhide HTP) _ _ hba hT
    have hnb := (n1.keep w.heap.size (Nat.lt_trans hlV hlZ) ((unhide HKA) _ (Nat.le_refl _))).1
    have hnz := (n1.keep V.heap.size hlZ ((unhide HKA) _ (Nat.le_of_lt hlV))).1
    have hl1 : V1.heap.size ≤ w1.heap.size := n1.below.size
    have HR1 := hide r1
    have HN1 := hide (((Next.of_below (o.all H) ((unhide HBV).trans ((hba).mono (unhide HBV).size)) hNw)).trans n1)
    clear hT r1 n1
    refine hK.out _ _ (hk2) (fun hHeldN => ?_)
    clear hHeld hK K; have hHeld := hHeldN; clear hHeldN
    try simp only [pS]
    clear hk2
    refine tkH ?_ opn6 (fun _ _ _ h => h) hHeld ?_ ?_
    rotate_left 1
    · intro wz hSw; (try dsimp only at hSw); go_simp; all_goals with_reducible rfl
    try simp only [pS]
    refine tkH ?_ opn7 (fun _ _ _ h => h) hHeld ?_ ?_
    rotate_left 1
    · intro wz hSw; (try dsimp only at hSw); go_simp; all_goals with_reducible rfl
    try simp only [pS]
    refine tkH ?_ opn8 (fun _ _ _ h => h) hHeld ?_ ?_
    rotate_left 1
    · intro wz hSw; (try dsimp only at hSw); go_simp; all_goals with_reducible rfl
    try simp only [pS]
    refine wpAnyH_ready (rs := [10]) (by kernel_rfl) (by simp) ?_
    refine AllReadyH.cons opn10 (fun K hK => ?_) AllReadyH.nil
    rw [if_pos (by kernel_rfl)]
    refine wp_store_mid _ _ _ rfl V.heap.size 0 #[.bool pr, .int .i64 pc, .int .i64 pn, .int .i64 pk, .string pa, .string pb, .string pt, .int .i64 pd, .string pu] (by simp [Act.eval]) (by simp [Act.eval]) (fun j hj => ⟨by rw [Nat.zero_add, cell_of_row w1 V.heap.size j _ _ _ (unhide HZ1), Array.getElem?_eq_getElem (by simpa using hj)]; rfl, by rw [Nat.zero_add]; exact frozen_of_row w1 V.heap.size j _ _ (unhide HZ1)⟩) infoP (by simp [Value.oneCell']) ?_
    have hQ2 := setRowN (cs := #[.bool pr, .int .i64 pc, .int .i64 pn, .int .i64 pk, .string pa, .string pb, .string pt, .int .i64 pd, .string pu]) (unhide HZ1) rfl
    have hK2 := kept_setCells V.heap.size (Array.toList #[.bool pr, .int .i64 pc, .int .i64 pn, .int .i64 pk, .string pa, .string pb, .string pt, .int .i64 pd, .string pu]) 0 w1
    obtain ⟨W2, hW2⟩ : ∃ W', W' = w1.setCells V.heap.size 0 (Array.toList #[.bool pr, .int .i64 pc, .int .i64 pn, .int .i64 pk, .string pa, .string pb, .string pt, .int .i64 pd, .string pu]) := ⟨_, rfl⟩
    rw [← hW2] at hQ2 hK2 ⊢
    refine hK.out _ _ ((hK2.block w.heap.size (by omega) (by simp; omega)).trans hHeld) (fun hHeldN => ?_)
    clear hHeld hK K; have hHeld := hHeldN; clear hHeldN
    try simp only [pS]
    refine tkH ?_ opn11 (fun _ _ _ h => h) hHeld ?_ ?_
    rotate_left 1
    · intro wz hSw; (try dsimp only at hSw); go_simp; all_goals with_reducible rfl
    try simp only [pS]
    refine wpAnyH_done (by kernel_rfl) ?_ _
    have HX := hide (hHeld.trans (unhide HXV))
    have HQ := hide hQ2
    have HR := hide ((unhide HR1).set hnz hK2)
    have HN := hide ((unhide HN1).setN hNw (Nat.le_of_lt hlV) hK2)
    have hnq := hnz
    have hlQ : V.heap.size < W2.heap.size := (Array.getElem?_eq_some_iff.1 (unhide HQ)).1
    have hlX : w.heap.size < W2.heap.size := (Array.getElem?_eq_some_iff.1 (unhide HX)).1
    clear hQ2 hK2 hba HZ HZ1 hHeld HR1 HN1 hW2
    obtain ⟨⟨x0, x1, x2, x3⟩, ⟨x4, x5, x6⟩, xf⟩ := seven (unhide HX)
    obtain ⟨⟨q0, q1, q2, q3⟩, ⟨q4, q5, q6, q7, q8⟩, qf⟩ := nine (unhide HQ)
    have HR2 : Hid (HRep N W2 H o1 A2) := by rw [unhide HAT]; exact unhide HR
    go_wp2
    go_ret
    rw [unhide HRES]
    exact ⟨rfl, _, unhide HR2, unhide HN⟩
set_option maxRecDepth 100000 in
set_option maxHeartbeats 4000000 in
theorem hstep_deliver {N : Nat} {w : World} {H : Nat} {o : HOwn} {A : AW} (h : HRep N w H o A) (x : AX) (hx : SmallC x.call) (hk : x.kind = 3) (h0 : A.ms.length ≠ 0) :
    Calls Tryz.prog 27 #[.pointer (some ⟨H, 0, none⟩), x.val] w fun e w' => e = .returned (.int .i64 (A.step x).1) ∧ HTurn N w H o w' (A.step x).2 := by
  obtain ⟨V, hV⟩ : ∃ V, V = w.alloc (.cells #[.int .i64 x.kind, .int .i64 x.n, .int .i64 x.keep, .int .i64 x.call.kind, .string x.call.name, .string x.call.dst, .string x.call.text] 69) := ⟨_, rfl⟩
  have hBV : Below w.heap.size w V := by rw [hV]; exact (Below.refl _ _).alloc (Nat.le_refl _) _
  have hXV : V.heap[w.heap.size]? = some (.cells #[.int .i64 x.kind, .int .i64 x.n, .int .i64 x.keep, .int .i64 x.call.kind, .string x.call.name, .string x.call.dst, .string x.call.text] 69 (0, 0)) := by rw [hV]; exact heap_alloc_new _ _
  have hlV : w.heap.size < V.heap.size := (Array.getElem?_eq_some_iff.1 hXV).1
  have hrV := h.below hBV
  have HBV := hide hBV
  have HXV := hide hXV
  have HV := hide hV
  have e1 : A.step x = A.take x := by unfold AW.step; rw [if_neg (by omega), if_neg (by omega), if_neg (by omega), if_pos (by omega)]
  rw [e1]
  have hNw := h.size
  have HTK := hide (fun W' (hb : Below V.heap.size V W') => BTake_anyH (hrV.below hb).bag x.n)
  have HTP := hide (fun W' w1 (hb : Below V.heap.size V W') (hT : PTurnH (FP o A) 42 N W' H o.pv w1 (aTakeL A.ms x.n)) => (hrV.below hb).turnP hT)
  have HKB : Hid (∀ b, w.heap.size ≤ b → b ∉ powns H o.pv) := fun b hb hm => by
    rcases List.mem_cons.1 hm with e | e
    · have := h.lt; omega
    · have := (h.prow.lt _ (by simpa using e)).2; omega
  have HKA : Hid (∀ b, w.heap.size ≤ b → b ∉ o.all H) := fun b hb => h.not_new hb
  have hB : aTakeB A.ms = true := decide_eq_true (by omega)
  rw [hB] at HTK
  have HSM : Hid (SmallP (aTakeM A.ms x.n)) := h.small _ (takeM_mem x.n h0)
  have HRES : Hid (A.take x = (0, (A.took x.n).come (aTakeM A.ms x.n))) := by show AW.take A x = _; unfold AW.take; rw [if_neg h0]; rw [if_pos hk]
  generalize A.take x = R at HRES ⊢
  have HAT : Hid (A.took x.n = ⟨A.log, A.cl, aTakeL A.ms x.n⟩) := rfl
  generalize A.took x.n = A2 at HRES HAT
  generalize aTakeM A.ms x.n = p at HTK HSM HRES
  generalize aTakeL A.ms x.n = ms' at HTK HTP HAT
  obtain ⟨pr, pc, pn, ⟨pk, pa, pb, pt⟩, pd, pu⟩ := p
  obtain ⟨qa, qcap, hpf⟩ := h.bag.form
  have hcp := h.bag.can.1
  rw [hpf] at hcp
  have hHl := h.lt
  have hlen : (A.ms.length : Int) ≠ 0 := by omega
  obtain ⟨ln, hln⟩ : ∃ ln, A.ms.length = ln := ⟨_, rfl⟩
  rw [hln] at hcp hlen
  have hlb : ((ln : Int) == 0) = false := by simpa using hlen
  generalize o.pv = pv at HTK HTP HKB hpf
  obtain ⟨⟨x0, x1, x2, x3⟩, ⟨x4, x5, x6⟩, xf⟩ := seven hXV
  clear h e1 hV hBV hXV hrV hx h0 hB hpf hln hlen
  obtain ⟨xk, xn, xp, ⟨ck, ca, cb, ct⟩⟩ := x
  dsimp only [AX.val] at *
  dsimp only [APkt.val] at *
  subst hk
  go_enter Tryz.func27, Tryz.ntmps27
  go_wp2_with fail
  rw [← unhide HV]
  clear x0 x1 x2 x3 x4 x5 x6 xf
  clear hcp hHl hlb
  refine wp_region_held_drew (S := (fun wx => wx.heap[w.heap.size]? = V.heap[w.heap.size]?)) (by kernel_rfl) (rfl) (fun hHeld => ?_)
  refine tkH ?_ opn0 (fun _ _ _ h => h) hHeld ?_ ?_
  rotate_left 1
  · intro wz hSw; (try dsimp only at hSw); go_simp; all_goals with_reducible rfl
  try simp only [pS]
  refine tkH ?_ opn1 (fun _ _ _ h => h) hHeld ?_ ?_
  rotate_left 1
  · intro wz hSw; (try dsimp only at hSw); go_simp; all_goals with_reducible rfl
  try simp only [pS]
  refine tkH ?_ opn2 (fun _ _ _ h => h) hHeld ?_ ?_
  rotate_left 1
  · intro wz hSw; (try dsimp only at hSw); go_simp; all_goals with_reducible rfl
  try simp only [pS]
  refine tkH ?_ opn3 (fun _ _ _ h => h) hHeld ?_ ?_
  rotate_left 1
  · intro wz hSw; (try dsimp only at hSw); go_simp; all_goals with_reducible rfl
  try simp only [pS]
  refine tkH ?_ opn4 (fun _ _ _ h => h) hHeld ?_ ?_
  rotate_left 1
  · intro wz hSw; (try dsimp only at hSw)
    obtain ⟨⟨x0, x1, x2, x3⟩, ⟨x4, x5, x6⟩, xf⟩ := seven (hSw.trans (unhide HXV))
    go_simp; all_goals with_reducible rfl
  try simp only [pS]
  refine wpAnyH_ready (rs := [5, 9]) (by kernel_rfl) (by simp) ?_
  refine AllReadyH.cons opn5 (fun K hK => ?_) (AllReadyH.cons opn9 (fun K hK => ?_) (AllReadyH.nil))
  · rw [if_pos (by kernel_rfl)]
    go_simp
    refine ((unhide HTK) _ (below_drew V)).mono ?_
    rintro e w1 ⟨rfl, hT⟩
    have hk2 : w1.heap[w.heap.size]? = V.heap[w.heap.size]? := (hT.same hlV ((unhide HKB) _ (Nat.le_refl _))).trans (Eq.refl _)
    obtain ⟨o1, r1, n1⟩ := (unhide HTP) _ _ (below_drew V) hT
    have hnb := (n1.keep w.heap.size hlV ((unhide HKA) _ (Nat.le_refl _))).1
    have hl1 : V.heap.size ≤ w1.heap.size := n1.below.size
    have HR1 := hide r1
    have HN1 := hide (((Next.of_below (o.all H) ((unhide HBV).trans (((below_drew V)).mono (unhide HBV).size)) hNw)).trans n1)
    clear hT r1 n1
    refine hK.out _ _ (hk2) (fun hHeldN => ?_)
    clear hHeld hK K; have hHeld := hHeldN; clear hHeldN
    try simp only [pS]
    clear hk2
    refine tkH ?_ opn6 (fun _ _ _ h => h) hHeld ?_ ?_
    rotate_left 1
    · intro wz hSw; (try dsimp only at hSw); go_simp; all_goals with_reducible rfl
    try simp only [pS]
    refine tkH ?_ opn7 (fun _ _ _ h => h) hHeld ?_ ?_
    rotate_left 1
    · intro wz hSw; (try dsimp only at hSw); go_simp; all_goals with_reducible rfl
    try simp only [pS]
    refine tkH ?_ opn8 (fun _ _ _ h => h) hHeld ?_ ?_
    rotate_left 1
    · intro wz hSw; (try dsimp only at hSw); go_simp; all_goals with_reducible rfl
    try simp only [pS]
    refine wpAnyH_ready (rs := [9]) (by kernel_rfl) (by simp) ?_
    refine AllReadyH.cons opn9 (fun K hK => ?_) AllReadyH.nil
    rw [if_pos (by kernel_rfl)]
    go_simp
    have hba : Below w1.heap.size w1 (w1.alloc (.cells #[.bool false, .int .i64 0, .int .i64 0, .int .i64 0, .string ⟨#[]⟩, .string ⟨#[]⟩, .string ⟨#[]⟩, .int .i64 0, .string ⟨#[]⟩] 92)) := (Below.refl _ _).alloc (Nat.le_refl _) _
    have HZ : Hid ((w1.alloc (.cells #[.bool false, .int .i64 0, .int .i64 0, .int .i64 0, .string ⟨#[]⟩, .string ⟨#[]⟩, .string ⟨#[]⟩, .int .i64 0, .string ⟨#[]⟩] 92)).heap[w1.heap.size]? = some (.cells #[.bool false, .int .i64 0, .int .i64 0, .int .i64 0, .string ⟨#[]⟩, .string ⟨#[]⟩, .string ⟨#[]⟩, .int .i64 0, .string ⟨#[]⟩] 92 (0, 0))) := heap_alloc_new _ _
    refine hK.out _ _ ((hba.block w.heap.size (by omega)).trans hHeld) (fun hHeldN => ?_)
    clear hHeld hK K; have hHeld := hHeldN; clear hHeldN
    try simp only [pS]
    generalize w1.alloc (.cells #[.bool false, .int .i64 0, .int .i64 0, .int .i64 0, .string ⟨#[]⟩, .string ⟨#[]⟩, .string ⟨#[]⟩, .int .i64 0, .string ⟨#[]⟩] 92) = W1 at hba HZ hHeld ⊢
    refine wpAnyH_ready (rs := [10]) (by kernel_rfl) (by simp) ?_
    refine AllReadyH.cons opn10 (fun K hK => ?_) AllReadyH.nil
    rw [if_pos (by kernel_rfl)]
    refine wp_store_mid _ _ _ rfl w1.heap.size 0 #[.bool pr, .int .i64 pc, .int .i64 pn, .int .i64 pk, .string pa, .string pb, .string pt, .int .i64 pd, .string pu] (by simp [Act.eval]) (by simp [Act.eval]) (fun j hj => ⟨by rw [Nat.zero_add, cell_of_row W1 w1.heap.size j _ _ _ (unhide HZ), Array.getElem?_eq_getElem (by simpa using hj)]; rfl, by rw [Nat.zero_add]; exact frozen_of_row W1 w1.heap.size j _ _ (unhide HZ)⟩) infoP (by simp [Value.oneCell']) ?_
    have hQ2 := setRowN (cs := #[.bool pr, .int .i64 pc, .int .i64 pn, .int .i64 pk, .string pa, .string pb, .string pt, .int .i64 pd, .string pu]) (unhide HZ) rfl
    have hK2 := kept_setCells w1.heap.size (Array.toList #[.bool pr, .int .i64 pc, .int .i64 pn, .int .i64 pk, .string pa, .string pb, .string pt, .int .i64 pd, .string pu]) 0 W1
    obtain ⟨W2, hW2⟩ : ∃ W', W' = W1.setCells w1.heap.size 0 (Array.toList #[.bool pr, .int .i64 pc, .int .i64 pn, .int .i64 pk, .string pa, .string pb, .string pt, .int .i64 pd, .string pu]) := ⟨_, rfl⟩
    rw [← hW2] at hQ2 hK2 ⊢
    have hlW1 := hba.size
    refine hK.out _ _ ((hK2.block w.heap.size (by omega) (by simp; omega)).trans hHeld) (fun hHeldN => ?_)
    clear hHeld hK K; have hHeld := hHeldN; clear hHeldN
    try simp only [pS]
    have hbW : Below w1.heap.size w1 W2 := ⟨hK2.os.trans hba.os, hK2.tape.trans hba.tape, hK2.output.trans hba.output, Nat.le_trans hba.size hK2.size, fun j hj => (hK2.block j (Nat.lt_of_lt_of_le hj hba.size) (by simp; omega)).trans (hba.block j hj)⟩
    refine tkH ?_ opn11 (fun _ _ _ h => h) hHeld ?_ ?_
    rotate_left 1
    · intro wz hSw; (try dsimp only at hSw); go_simp; all_goals with_reducible rfl
    try simp only [pS]
    refine wpAnyH_done (by kernel_rfl) ?_ _
    have HX := hide (hHeld.trans (unhide HXV))
    have HQ := hide hQ2
    have HR := hide ((unhide HR1).below hbW)
    have HN := hide ((unhide HN1).trans (Next.of_below _ hbW (unhide HR1).size))
    have hnq := (unhide HR1).not_new (Nat.le_refl _)
    have hlQ : w1.heap.size < W2.heap.size := (Array.getElem?_eq_some_iff.1 (unhide HQ)).1
    have hlX : w.heap.size < W2.heap.size := (Array.getElem?_eq_some_iff.1 (unhide HX)).1
    clear hQ2 hK2 hbW hba HZ hlW1 hHeld HR1 HN1 hW2
    obtain ⟨⟨x0, x1, x2, x3⟩, ⟨x4, x5, x6⟩, xf⟩ := seven (unhide HX)
    obtain ⟨⟨q0, q1, q2, q3⟩, ⟨q4, q5, q6, q7, q8⟩, qf⟩ := nine (unhide HQ)
    have HR2 : Hid (HRep N W2 H o1 A2) := by rw [unhide HAT]; exact unhide HR
    have HD := hide (hcome_any (unhide HR2) ⟨pr, pc, pn, ⟨pk, pa, pb, pt⟩, pd, pu⟩ (unhide HSM))
    dsimp only [APkt.val] at HD
    go_wp2_with fail
    refine (unhide HD).mono ?_
    rintro e w4 ⟨rfl, hT⟩
    have hX4 := (hT.blk hlX hnb).trans (unhide HX)
    obtain ⟨o4, r4, n4⟩ := hT
    have HFIN := hide (And.intro r4 ((unhide HN).trans n4))
    clear r4 n4 x0 x1 x2 x3 x4 x5 x6 xf q0 q1 q2 q3 q4 q5 q6 q7 q8 qf
    obtain ⟨⟨x0, x1, x2, x3⟩, ⟨x4, x5, x6⟩, xf⟩ := seven hX4
    clear hX4
    go_wp2
    go_ret
    rw [unhide HRES]
    exact ⟨rfl, _, (unhide HFIN).1, (unhide HFIN).2⟩
  · rw [if_pos (by kernel_rfl)]
    go_simp
    have hba := below_alloc_drew V (.cells #[.bool false, .int .i64 0, .int .i64 0, .int .i64 0, .string ⟨#[]⟩, .string ⟨#[]⟩, .string ⟨#[]⟩, .int .i64 0, .string ⟨#[]⟩] 92)
    have HZ := hide (alloc_drew_new V (.cells #[.bool false, .int .i64 0, .int .i64 0, .int .i64 0, .string ⟨#[]⟩, .string ⟨#[]⟩, .string ⟨#[]⟩, .int .i64 0, .string ⟨#[]⟩] 92))
    refine hK.out _ _ (hba.block w.heap.size hlV) (fun hHeldN => ?_)
    clear hHeld hK K; have hHeld := hHeldN; clear hHeldN
    try simp only [pS]
    generalize (V.alloc (.cells #[.bool false, .int .i64 0, .int .i64 0, .int .i64 0, .string ⟨#[]⟩, .string ⟨#[]⟩, .string ⟨#[]⟩, .int .i64 0, .string ⟨#[]⟩] 92)).drew = V1 at hba HZ hHeld ⊢
    have hlZ : V.heap.size < V1.heap.size := (Array.getElem?_eq_some_iff.1 (unhide HZ)).1
    refine wpAnyH_ready (rs := [5]) (by kernel_rfl) (by simp) ?_
    refine AllReadyH.cons opn5 (fun K hK => ?_) AllReadyH.nil
    rw [if_pos (by kernel_rfl)]
    go_simp
    refine ((unhide HTK) _ hba).mono ?_
    rintro e w1 ⟨rfl, hT⟩
    have hk2 : w1.heap[w.heap.size]? = V.heap[w.heap.size]? := (hT.same (Nat.lt_trans hlV hlZ) ((unhide HKB) _ (Nat.le_refl _))).trans ((hba.block _ hlV))
    have HZ1 := hide ((hT.same hlZ ((unhide HKB) _ (Nat.le_of_lt hlV))).trans (unhide HZ))
    obtain ⟨o1, r1, n1⟩ := (unhide HTP) _ _ hba hT
    have hnb := (n1.keep w.heap.size (Nat.lt_trans hlV hlZ) ((unhide HKA) _ (Nat.le_refl _))).1
    have hnz := (n1.keep V.heap.size hlZ ((unhide HKA) _ (Nat.le_of_lt hlV))).1
    have hl1 : V1.heap.size ≤ w1.heap.size := n1.below.size
    have HR1 := hide r1
    have HN1 := hide (((Next.of_below (o.all H) ((unhide HBV).trans ((hba).mono (unhide HBV).size)) hNw)).trans n1)
    clear hT r1 n1
    refine hK.out _ _ (hk2) (fun hHeldN => ?_)
    clear hHeld hK K; have hHeld := hHeldN; clear hHeldN
    try simp only [pS]
    clear hk2
    refine tkH ?_ opn6 (fun _ _ _ h => h) hHeld ?_ ?_
    rotate_left 1
    · intro wz hSw; (try dsimp only at hSw); go_simp; all_goals with_reducible rfl
    try simp only [pS]
    refine tkH ?_ opn7 (fun _ _ _ h => h) hHeld ?_ ?_
    rotate_left 1
    · intro wz hSw; (try dsimp only at hSw); go_simp; all_goals with_reducible rfl
    try simp only [pS]
    refine tkH ?_ opn8 (fun _ _ _ h => h) hHeld ?_ ?_
    rotate_left 1
    · intro wz hSw; (try dsimp only at hSw); go_simp; all_goals with_reducible rfl
    try simp only [pS]
    refine wpAnyH_ready (rs := [10]) (by kernel_rfl) (by simp) ?_
    refine AllReadyH.cons opn10 (fun K hK => ?_) AllReadyH.nil
    rw [if_pos (by kernel_rfl)]
    refine wp_store_mid _ _ _ rfl V.heap.size 0 #[.bool pr, .int .i64 pc, .int .i64 pn, .int .i64 pk, .string pa, .string pb, .string pt, .int .i64 pd, .string pu] (by simp [Act.eval]) (by simp [Act.eval]) (fun j hj => ⟨by rw [Nat.zero_add, cell_of_row w1 V.heap.size j _ _ _ (unhide HZ1), Array.getElem?_eq_getElem (by simpa using hj)]; rfl, by rw [Nat.zero_add]; exact frozen_of_row w1 V.heap.size j _ _ (unhide HZ1)⟩) infoP (by simp [Value.oneCell']) ?_
    have hQ2 := setRowN (cs := #[.bool pr, .int .i64 pc, .int .i64 pn, .int .i64 pk, .string pa, .string pb, .string pt, .int .i64 pd, .string pu]) (unhide HZ1) rfl
    have hK2 := kept_setCells V.heap.size (Array.toList #[.bool pr, .int .i64 pc, .int .i64 pn, .int .i64 pk, .string pa, .string pb, .string pt, .int .i64 pd, .string pu]) 0 w1
    obtain ⟨W2, hW2⟩ : ∃ W', W' = w1.setCells V.heap.size 0 (Array.toList #[.bool pr, .int .i64 pc, .int .i64 pn, .int .i64 pk, .string pa, .string pb, .string pt, .int .i64 pd, .string pu]) := ⟨_, rfl⟩
    rw [← hW2] at hQ2 hK2 ⊢
    refine hK.out _ _ ((hK2.block w.heap.size (by omega) (by simp; omega)).trans hHeld) (fun hHeldN => ?_)
    clear hHeld hK K; have hHeld := hHeldN; clear hHeldN
    try simp only [pS]
    refine tkH ?_ opn11 (fun _ _ _ h => h) hHeld ?_ ?_
    rotate_left 1
    · intro wz hSw; (try dsimp only at hSw); go_simp; all_goals with_reducible rfl
    try simp only [pS]
    refine wpAnyH_done (by kernel_rfl) ?_ _
    have HX := hide (hHeld.trans (unhide HXV))
    have HQ := hide hQ2
    have HR := hide ((unhide HR1).set hnz hK2)
    have HN := hide ((unhide HN1).setN hNw (Nat.le_of_lt hlV) hK2)
    have hnq := hnz
    have hlQ : V.heap.size < W2.heap.size := (Array.getElem?_eq_some_iff.1 (unhide HQ)).1
    have hlX : w.heap.size < W2.heap.size := (Array.getElem?_eq_some_iff.1 (unhide HX)).1
    clear hQ2 hK2 hba HZ HZ1 hHeld HR1 HN1 hW2
    obtain ⟨⟨x0, x1, x2, x3⟩, ⟨x4, x5, x6⟩, xf⟩ := seven (unhide HX)
    obtain ⟨⟨q0, q1, q2, q3⟩, ⟨q4, q5, q6, q7, q8⟩, qf⟩ := nine (unhide HQ)
    have HR2 : Hid (HRep N W2 H o1 A2) := by rw [unhide HAT]; exact unhide HR
    have HD := hide (hcome_any (unhide HR2) ⟨pr, pc, pn, ⟨pk, pa, pb, pt⟩, pd, pu⟩ (unhide HSM))
    dsimp only [APkt.val] at HD
    go_wp2_with fail
    refine (unhide HD).mono ?_
    rintro e w4 ⟨rfl, hT⟩
    have hX4 := (hT.blk hlX hnb).trans (unhide HX)
    obtain ⟨o4, r4, n4⟩ := hT
    have HFIN := hide (And.intro r4 ((unhide HN).trans n4))
    clear r4 n4 x0 x1 x2 x3 x4 x5 x6 xf q0 q1 q2 q3 q4 q5 q6 q7 q8 qf
    obtain ⟨⟨x0, x1, x2, x3⟩, ⟨x4, x5, x6⟩, xf⟩ := seven hX4
    clear hX4
    go_wp2
    go_ret
    rw [unhide HRES]
    exact ⟨rfl, _, (unhide HFIN).1, (unhide HFIN).2⟩
set_option maxRecDepth 100000 in
set_option maxHeartbeats 4000000 in
theorem hstep_tear {N : Nat} {w : World} {H : Nat} {o : HOwn} {A : AW} (h : HRep N w H o A) (x : AX) (hx : SmallC x.call) (hk : x.kind = 7) (h0 : A.ms.length ≠ 0) :
    Calls Tryz.prog 27 #[.pointer (some ⟨H, 0, none⟩), x.val] w fun e w' => e = .returned (.int .i64 (A.step x).1) ∧ HTurn N w H o w' (A.step x).2 := by
  obtain ⟨V, hV⟩ : ∃ V, V = w.alloc (.cells #[.int .i64 x.kind, .int .i64 x.n, .int .i64 x.keep, .int .i64 x.call.kind, .string x.call.name, .string x.call.dst, .string x.call.text] 69) := ⟨_, rfl⟩
  have hBV : Below w.heap.size w V := by rw [hV]; exact (Below.refl _ _).alloc (Nat.le_refl _) _
  have hXV : V.heap[w.heap.size]? = some (.cells #[.int .i64 x.kind, .int .i64 x.n, .int .i64 x.keep, .int .i64 x.call.kind, .string x.call.name, .string x.call.dst, .string x.call.text] 69 (0, 0)) := by rw [hV]; exact heap_alloc_new _ _
  have hlV : w.heap.size < V.heap.size := (Array.getElem?_eq_some_iff.1 hXV).1
  have hrV := h.below hBV
  have HBV := hide hBV
  have HXV := hide hXV
  have HV := hide hV
  have e1 : A.step x = A.take x := by unfold AW.step; rw [if_neg (by omega), if_neg (by omega), if_neg (by omega), if_pos (by omega)]
  rw [e1]
  have hNw := h.size
  have HTK := hide (fun W' (hb : Below V.heap.size V W') => BTake_anyH (hrV.below hb).bag x.n)
  have HTP := hide (fun W' w1 (hb : Below V.heap.size V W') (hT : PTurnH (FP o A) 42 N W' H o.pv w1 (aTakeL A.ms x.n)) => (hrV.below hb).turnP hT)
  have HKB : Hid (∀ b, w.heap.size ≤ b → b ∉ powns H o.pv) := fun b hb hm => by
    rcases List.mem_cons.1 hm with e | e
    · have := h.lt; omega
    · have := (h.prow.lt _ (by simpa using e)).2; omega
  have HKA : Hid (∀ b, w.heap.size ≤ b → b ∉ o.all H) := fun b hb => h.not_new hb
  have hB : aTakeB A.ms = true := decide_eq_true (by omega)
  rw [hB] at HTK
  have HSM : Hid (SmallP (aTakeM A.ms x.n)) := h.small _ (takeM_mem x.n h0)
  have HRES : Hid (A.take x = (A.took x.n).tear (aTakeM A.ms x.n) x.keep) := by show AW.take A x = _; unfold AW.take; rw [if_neg h0]; rw [if_neg (by omega), if_pos hk]
  generalize A.take x = R at HRES ⊢
  have HAT : Hid (A.took x.n = ⟨A.log, A.cl, aTakeL A.ms x.n⟩) := rfl
  generalize A.took x.n = A2 at HRES HAT
  generalize aTakeM A.ms x.n = p at HTK HSM HRES
  generalize aTakeL A.ms x.n = ms' at HTK HTP HAT
  obtain ⟨pr, pc, pn, ⟨pk, pa, pb, pt⟩, pd, pu⟩ := p
  obtain ⟨qa, qcap, hpf⟩ := h.bag.form
  have hcp := h.bag.can.1
  rw [hpf] at hcp
  have hHl := h.lt
  have hlen : (A.ms.length : Int) ≠ 0 := by omega
  obtain ⟨ln, hln⟩ : ∃ ln, A.ms.length = ln := ⟨_, rfl⟩
  rw [hln] at hcp hlen
  have hlb : ((ln : Int) == 0) = false := by simpa using hlen
  generalize o.pv = pv at HTK HTP HKB hpf
  obtain ⟨⟨x0, x1, x2, x3⟩, ⟨x4, x5, x6⟩, xf⟩ := seven hXV
  clear h e1 hV hBV hXV hrV hx h0 hB hpf hln hlen
  obtain ⟨xk, xn, xp, ⟨ck, ca, cb, ct⟩⟩ := x
  dsimp only [AX.val] at *
  dsimp only [APkt.val] at *
  subst hk
  go_enter Tryz.func27, Tryz.ntmps27
  go_wp2_with fail
  rw [← unhide HV]
  clear x0 x1 x2 x3 x4 x5 x6 xf
  clear hcp hHl hlb
  refine wp_region_held_drew (S := (fun wx => wx.heap[w.heap.size]? = V.heap[w.heap.size]?)) (by kernel_rfl) (rfl) (fun hHeld => ?_)
  refine tkH ?_ opn0 (fun _ _ _ h => h) hHeld ?_ ?_
  rotate_left 1
  · intro wz hSw; (try dsimp only at hSw); go_simp; all_goals with_reducible rfl
  try simp only [pS]
  refine tkH ?_ opn1 (fun _ _ _ h => h) hHeld ?_ ?_
  rotate_left 1
  · intro wz hSw; (try dsimp only at hSw); go_simp; all_goals with_reducible rfl
  try simp only [pS]
  refine tkH ?_ opn2 (fun _ _ _ h => h) hHeld ?_ ?_
  rotate_left 1
  · intro wz hSw; (try dsimp only at hSw); go_simp; all_goals with_reducible rfl
  try simp only [pS]
  refine tkH ?_ opn3 (fun _ _ _ h => h) hHeld ?_ ?_
  rotate_left 1
  · intro wz hSw; (try dsimp only at hSw); go_simp; all_goals with_reducible rfl
  try simp only [pS]
  refine tkH ?_ opn4 (fun _ _ _ h => h) hHeld ?_ ?_
  rotate_left 1
  · intro wz hSw; (try dsimp only at hSw)
    obtain ⟨⟨x0, x1, x2, x3⟩, ⟨x4, x5, x6⟩, xf⟩ := seven (hSw.trans (unhide HXV))
    go_simp; all_goals with_reducible rfl
  try simp only [pS]
  refine wpAnyH_ready (rs := [5, 9]) (by kernel_rfl) (by simp) ?_
  refine AllReadyH.cons opn5 (fun K hK => ?_) (AllReadyH.cons opn9 (fun K hK => ?_) (AllReadyH.nil))
  · rw [if_pos (by kernel_rfl)]
    go_simp
    refine ((unhide HTK) _ (below_drew V)).mono ?_
    rintro e w1 ⟨rfl, hT⟩
    have hk2 : w1.heap[w.heap.size]? = V.heap[w.heap.size]? := (hT.same hlV ((unhide HKB) _ (Nat.le_refl _))).trans (Eq.refl _)
    obtain ⟨o1, r1, n1⟩ := (unhide HTP) _ _ (below_drew V) hT
    have hnb := (n1.keep w.heap.size hlV ((unhide HKA) _ (Nat.le_refl _))).1
    have hl1 : V.heap.size ≤ w1.heap.size := n1.below.size
    have HR1 := hide r1
    have HN1 := hide (((Next.of_below (o.all H) ((unhide HBV).trans (((below_drew V)).mono (unhide HBV).size)) hNw)).trans n1)
    clear hT r1 n1
    refine hK.out _ _ (hk2) (fun hHeldN => ?_)
    clear hHeld hK K; have hHeld := hHeldN; clear hHeldN
    try simp only [pS]
    clear hk2
    refine tkH ?_ opn6 (fun _ _ _ h => h) hHeld ?_ ?_
    rotate_left 1
    · intro wz hSw; (try dsimp only at hSw); go_simp; all_goals with_reducible rfl
    try simp only [pS]
    refine tkH ?_ opn7 (fun _ _ _ h => h) hHeld ?_ ?_
    rotate_left 1
    · intro wz hSw; (try dsimp only at hSw); go_simp; all_goals with_reducible rfl
    try simp only [pS]
    refine tkH ?_ opn8 (fun _ _ _ h => h) hHeld ?_ ?_
    rotate_left 1
    · intro wz hSw; (try dsimp only at hSw); go_simp; all_goals with_reducible rfl
    try simp only [pS]
    refine wpAnyH_ready (rs := [9]) (by kernel_rfl) (by simp) ?_
    refine AllReadyH.cons opn9 (fun K hK => ?_) AllReadyH.nil
    rw [if_pos (by kernel_rfl)]
    go_simp
    have hba : Below w1.heap.size w1 (w1.alloc (.cells #[.bool false, .int .i64 0, .int .i64 0, .int .i64 0, .string ⟨#[]⟩, .string ⟨#[]⟩, .string ⟨#[]⟩, .int .i64 0, .string ⟨#[]⟩] 92)) := (Below.refl _ _).alloc (Nat.le_refl _) _
    have HZ : Hid ((w1.alloc (.cells #[.bool false, .int .i64 0, .int .i64 0, .int .i64 0, .string ⟨#[]⟩, .string ⟨#[]⟩, .string ⟨#[]⟩, .int .i64 0, .string ⟨#[]⟩] 92)).heap[w1.heap.size]? = some (.cells #[.bool false, .int .i64 0, .int .i64 0, .int .i64 0, .string ⟨#[]⟩, .string ⟨#[]⟩, .string ⟨#[]⟩, .int .i64 0, .string ⟨#[]⟩] 92 (0, 0))) := heap_alloc_new _ _
    refine hK.out _ _ ((hba.block w.heap.size (by omega)).trans hHeld) (fun hHeldN => ?_)
    clear hHeld hK K; have hHeld := hHeldN; clear hHeldN
    try simp only [pS]
    generalize w1.alloc (.cells #[.bool false, .int .i64 0, .int .i64 0, .int .i64 0, .string ⟨#[]⟩, .string ⟨#[]⟩, .string ⟨#[]⟩, .int .i64 0, .string ⟨#[]⟩] 92) = W1 at hba HZ hHeld ⊢
    refine wpAnyH_ready (rs := [10]) (by kernel_rfl) (by simp) ?_
    refine AllReadyH.cons opn10 (fun K hK => ?_) AllReadyH.nil
    rw [if_pos (by kernel_rfl)]
    refine wp_store_mid _ _ _ rfl w1.heap.size 0 #[.bool pr, .int .i64 pc, .int .i64 pn, .int .i64 pk, .string pa, .string pb, .string pt, .int .i64 pd, .string pu] (by simp [Act.eval]) (by simp [Act.eval]) (fun j hj => ⟨by rw [Nat.zero_add, cell_of_row W1 w1.heap.size j _ _ _ (unhide HZ), Array.getElem?_eq_getElem (by simpa using hj)]; rfl, by rw [Nat.zero_add]; exact frozen_of_row W1 w1.heap.size j _ _ (unhide HZ)⟩) infoP (by simp [Value.oneCell']) ?_
    have hQ2 := setRowN (cs := #[.bool pr, .int .i64 pc, .int .i64 pn, .int .i64 pk, .string pa, .string pb, .string pt, .int .i64 pd, .string pu]) (unhide HZ) rfl
    have hK2 := kept_setCells w1.heap.size (Array.toList #[.bool pr, .int .i64 pc, .int .i64 pn, .int .i64 pk, .string pa, .string pb, .string pt, .int .i64 pd, .string pu]) 0 W1
    obtain ⟨W2, hW2⟩ : ∃ W', W' = W1.setCells w1.heap.size 0 (Array.toList #[.bool pr, .int .i64 pc, .int .i64 pn, .int .i64 pk, .string pa, .string pb, .string pt, .int .i64 pd, .string pu]) := ⟨_, rfl⟩
    rw [← hW2] at hQ2 hK2 ⊢
    have hlW1 := hba.size
    refine hK.out _ _ ((hK2.block w.heap.size (by omega) (by simp; omega)).trans hHeld) (fun hHeldN => ?_)
    clear hHeld hK K; have hHeld := hHeldN; clear hHeldN
    try simp only [pS]
    have hbW : Below w1.heap.size w1 W2 := ⟨hK2.os.trans hba.os, hK2.tape.trans hba.tape, hK2.output.trans hba.output, Nat.le_trans hba.size hK2.size, fun j hj => (hK2.block j (Nat.lt_of_lt_of_le hj hba.size) (by simp; omega)).trans (hba.block j hj)⟩
    refine tkH ?_ opn11 (fun _ _ _ h => h) hHeld ?_ ?_
    rotate_left 1
    · intro wz hSw; (try dsimp only at hSw); go_simp; all_goals with_reducible rfl
    try simp only [pS]
    refine wpAnyH_done (by kernel_rfl) ?_ _
    have HX := hide (hHeld.trans (unhide HXV))
    have HQ := hide hQ2
    have HR := hide ((unhide HR1).below hbW)
    have HN := hide ((unhide HN1).trans (Next.of_below _ hbW (unhide HR1).size))
    have hnq := (unhide HR1).not_new (Nat.le_refl _)
    have hlQ : w1.heap.size < W2.heap.size := (Array.getElem?_eq_some_iff.1 (unhide HQ)).1
    have hlX : w.heap.size < W2.heap.size := (Array.getElem?_eq_some_iff.1 (unhide HX)).1
    clear hQ2 hK2 hbW hba HZ hlW1 hHeld HR1 HN1 hW2
    obtain ⟨⟨x0, x1, x2, x3⟩, ⟨x4, x5, x6⟩, xf⟩ := seven (unhide HX)
    obtain ⟨⟨q0, q1, q2, q3⟩, ⟨q4, q5, q6, q7, q8⟩, qf⟩ := nine (unhide HQ)
    have HR2 : Hid (HRep N W2 H o1 A2) := by rw [unhide HAT]; exact unhide HR
    unfold AW.tear at HRES
    cases pr
    · rw [if_neg (by simp)] at HRES
      dsimp only at HRES
      have hbd := below_drew W2
      have HPS := hide (CTear_anyH N H o1.rv A2.log pc pn xp ⟨pk, pa, pb, pt⟩ W2.drew ((unhide HR2).below hbd).chest (unhide HR2).good (unhide HR2).ss (SmallP.max (unhide HSM)).1 (SmallP.max (unhide HSM)).2.1 (SmallP.max (unhide HSM)).2.2)
      have HPT := hide (fun w' (hT : CTurnedH (FS o1 A2) 42 W2.drew N H o1.rv w' (aTear A2.log pc pn ⟨pk, pa, pb, pt⟩ xp).2) => ((unhide HR2).below hbd).turnS hT (aTear_good (unhide HR2).good _ _ _ _) (aTear_short (unhide HR2).good (unhide HR2).ss _ _ _ _))
      have HKK : Hid (∀ b, b ∉ o1.all H → b ≠ H ∧ o1.rv.ownBlock ≠ some b) := fun b hb => ⟨fun e => hb (HOwn.mem_all.2 (.inl e)), fun e => hb (HOwn.mem_all.2 (.inr ⟨3, by omega, e⟩))⟩
      have HN4 := hide ((unhide HN).trans (Next.of_below _ hbd (unhide HR).size))
      dsimp only at HPS
      generalize o1.rv = rv at HPS HPT HKK
      generalize aTear A2.log pc pn ⟨pk, pa, pb, pt⟩ xp = TT at HPS HPT HRES
      clear hbd
      go_wp2_with fail
      clear x0 x1 x2 x3 x4 x5 x6 xf q0 q1 q2 q3 q4 q5 q6 q7 q8 qf
      refine wp_region_held_drew (S := (fun wx => wx.heap[w.heap.size]? = W2.heap[w.heap.size]? ∧ wx.heap[w1.heap.size]? = W2.heap[w1.heap.size]?)) (by kernel_rfl) (⟨rfl, rfl⟩) (fun hHeld => ?_)
      refine tkH ?_ opn0 (fun _ _ _ h => h) hHeld ?_ ?_
      rotate_left 1
      · intro wz hSw; (try dsimp only at hSw); go_simp; all_goals with_reducible rfl
      try simp only [pS]
      refine tkH ?_ opn1 (fun _ _ _ h => h) hHeld ?_ ?_
      rotate_left 1
      · intro wz hSw; (try dsimp only at hSw); go_simp; all_goals with_reducible rfl
      try simp only [pS]
      refine tkH ?_ opn2 (fun _ _ _ h => h) hHeld ?_ ?_
      rotate_left 1
      · intro wz hSw; (try dsimp only at hSw); go_simp; all_goals with_reducible rfl
      try simp only [pS]
      refine tkH ?_ opn3 (fun _ _ _ h => h) hHeld ?_ ?_
      rotate_left 1
      · intro wz hSw; (try dsimp only at hSw); go_simp; all_goals with_reducible rfl
      try simp only [pS]
      refine tkH ?_ opn4 (fun _ _ _ h => h) hHeld ?_ ?_
      rotate_left 1
      · intro wz hSw; (try dsimp only at hSw)
        obtain ⟨⟨x0, x1, x2, x3⟩, ⟨x4, x5, x6, x7, x8⟩, xf⟩ := nine (hSw.2.trans (unhide HQ))
        go_simp; all_goals with_reducible rfl
      try simp only [pS]
      refine tkH ?_ opn5 (fun _ _ _ h => h) hHeld ?_ ?_
      rotate_left 1
      · intro wz hSw; (try dsimp only at hSw); go_simp; all_goals with_reducible rfl
      try simp only [pS]
      refine tkH ?_ opn6 (fun _ _ _ h => h) hHeld ?_ ?_
      rotate_left 1
      · intro wz hSw; (try dsimp only at hSw)
        obtain ⟨⟨x0, x1, x2, x3⟩, ⟨x4, x5, x6, x7, x8⟩, xf⟩ := nine (hSw.2.trans (unhide HQ))
        go_simp; all_goals with_reducible rfl
      try simp only [pS]
      refine tkH ?_ opn7 (fun _ _ _ h => h) hHeld ?_ ?_
      rotate_left 1
      · intro wz hSw; (try dsimp only at hSw); go_simp; all_goals with_reducible rfl
      try simp only [pS]
      refine tkH ?_ opn8 (fun _ _ _ h => h) hHeld ?_ ?_
      rotate_left 1
      · intro wz hSw; (try dsimp only at hSw)
        obtain ⟨⟨x0, x1, x2, x3⟩, ⟨x4, x5, x6, x7, x8⟩, xf⟩ := nine (hSw.2.trans (unhide HQ))
        go_simp; all_goals with_reducible rfl
      try simp only [pS]
      refine tkH ?_ opn9 (fun _ _ _ h => h) hHeld ?_ ?_
      rotate_left 1
      · intro wz hSw; (try dsimp only at hSw); go_simp; all_goals with_reducible rfl
      try simp only [pS]
      refine tkH ?_ opn10 (fun _ _ _ h => h) hHeld ?_ ?_
      rotate_left 1
      · intro wz hSw; (try dsimp only at hSw)
        obtain ⟨⟨x0, x1, x2, x3⟩, ⟨x4, x5, x6⟩, xf⟩ := seven (hSw.1.trans (unhide HX))
        go_simp; all_goals with_reducible rfl
      try simp only [pS]
      refine wpAnyH_ready (rs := [11]) (by kernel_rfl) (by simp) ?_
      refine AllReadyH.cons opn11 (fun K hK => ?_) AllReadyH.nil
      rw [if_pos (by kernel_rfl)]
      go_simp
      refine (unhide HPS).mono ?_
      rintro e w4 ⟨rfl, hT⟩
      have hk1 : w4.heap[w.heap.size]? = W2.heap[w.heap.size]? := hT.same hlX ((unhide HKK) _ hnb)
      have hk2 : w4.heap[w1.heap.size]? = W2.heap[w1.heap.size]? := hT.same hlQ ((unhide HKK) _ hnq)
      obtain ⟨o4, r4, n4⟩ := (unhide HPT) _ hT
      have HFIN := hide (And.intro r4 ((unhide HN4).trans n4))
      clear hT r4 n4
      refine hK.out _ _ (⟨hk1, hk2⟩) (fun hHeldN => ?_)
      clear hHeld hK K; have hHeld := hHeldN; clear hHeldN
      try simp only [pS]
      clear hk1 hk2
      refine tkH ?_ opn12 (fun _ _ _ h => h) hHeld ?_ ?_
      rotate_left 1
      · intro wz hSw; (try dsimp only at hSw); go_simp; all_goals with_reducible rfl
      try simp only [pS]
      refine wpAnyH_done (by kernel_rfl) ?_ _
      clear hHeld
      go_wp2
      go_ret
      rw [unhide HRES]
      exact ⟨rfl, _, (unhide HFIN).1, (unhide HFIN).2⟩
    · rw [if_pos rfl] at HRES
      go_wp2
      go_ret
      rw [unhide HRES]
      exact ⟨rfl, _, unhide HR2, unhide HN⟩
  · rw [if_pos (by kernel_rfl)]
    go_simp
    have hba := below_alloc_drew V (.cells #[.bool false, .int .i64 0, .int .i64 0, .int .i64 0, .string ⟨#[]⟩, .string ⟨#[]⟩, .string ⟨#[]⟩, .int .i64 0, .string ⟨#[]⟩] 92)
    have HZ := hide (alloc_drew_new V (.cells #[.bool false, .int .i64 0, .int .i64 0, .int .i64 0, .string ⟨#[]⟩, .string ⟨#[]⟩, .string ⟨#[]⟩, .int .i64 0, .string ⟨#[]⟩] 92))
    refine hK.out _ _ (hba.block w.heap.size hlV) (fun hHeldN => ?_)
    clear hHeld hK K; have hHeld := hHeldN; clear hHeldN
    try simp only [pS]
    generalize (V.alloc (.cells #[.bool false, .int .i64 0, .int .i64 0, .int .i64 0, .string ⟨#[]⟩, .string ⟨#[]⟩, .string ⟨#[]⟩, .int .i64 0, .string ⟨#[]⟩] 92)).drew = V1 at hba HZ hHeld ⊢
    have hlZ : V.heap.size < V1.heap.size := (Array.getElem?_eq_some_iff.1 (unhide HZ)).1
    refine wpAnyH_ready (rs := [5]) (by kernel_rfl) (by simp) ?_
    refine AllReadyH.cons opn5 (fun K hK => ?_) AllReadyH.nil
    rw [if_pos (by kernel_rfl)]
    go_simp
    refine ((unhide HTK) _ hba).mono ?_
    rintro e w1 ⟨rfl, hT⟩
    have hk2 : w1.heap[w.heap.size]? = V.heap[w.heap.size]? := (hT.same (Nat.lt_trans hlV hlZ) ((unhide HKB) _ (Nat.le_refl _))).trans ((hba.block _ hlV))
    have HZ1 := hide ((hT.same hlZ ((unhide HKB) _ (Nat.le_of_lt hlV))).trans (unhide HZ))
    obtain ⟨o1, r1, n1⟩ := (unhide HTP) _ _ hba hT
    have hnb := (n1.keep w.heap.size (Nat.lt_trans hlV hlZ) ((unhide HKA) _ (Nat.le_refl _))).1
    have hnz := (n1.keep V.heap.size hlZ ((unhide HKA) _ (Nat.le_of_lt hlV))).1
    have hl1 : V1.heap.size ≤ w1.heap.size := n1.below.size
    have HR1 := hide r1
    have HN1 := hide (((Next.of_below (o.all H) ((unhide HBV).trans ((hba).mono (unhide HBV).size)) hNw)).trans n1)
    clear hT r1 n1
    refine hK.out _ _ (hk2) (fun hHeldN => ?_)
    clear hHeld hK K; have hHeld := hHeldN; clear hHeldN
    try simp only [pS]
    clear hk2
    refine tkH ?_ opn6 (fun _ _ _ h => h) hHeld ?_ ?_
    rotate_left 1
    · intro wz hSw; (try dsimp only at hSw); go_simp; all_goals with_reducible rfl
    try simp only [pS]
    refine tkH ?_ opn7 (fun _ _ _ h => h) hHeld ?_ ?_
    rotate_left 1
    · intro wz hSw; (try dsimp only at hSw); go_simp; all_goals with_reducible rfl
    try simp only [pS]
    refine tkH ?_ opn8 (fun _ _ _ h => h) hHeld ?_ ?_
    rotate_left 1
    · intro wz hSw; (try dsimp only at hSw); go_simp; all_goals with_reducible rfl
    try simp only [pS]
    refine wpAnyH_ready (rs := [10]) (by kernel_rfl) (by simp) ?_
    refine AllReadyH.cons opn10 (fun K hK => ?_) AllReadyH.nil
    rw [if_pos (by kernel_rfl)]
    refine wp_store_mid _ _ _ rfl V.heap.size 0 #[.bool pr, .int .i64 pc, .int .i64 pn, .int .i64 pk, .string pa, .string pb, .string pt, .int .i64 pd, .string pu] (by simp [Act.eval]) (by simp [Act.eval]) (fun j hj => ⟨by rw [Nat.zero_add, cell_of_row w1 V.heap.size j _ _ _ (unhide HZ1), Array.getElem?_eq_getElem (by simpa using hj)]; rfl, by rw [Nat.zero_add]; exact frozen_of_row w1 V.heap.size j _ _ (unhide HZ1)⟩) infoP (by simp [Value.oneCell']) ?_
    have hQ2 := setRowN (cs := #[.bool pr, .int .i64 pc, .int .i64 pn, .int .i64 pk, .string pa, .string pb, .string pt, .int .i64 pd, .string pu]) (unhide HZ1) rfl
    have hK2 := kept_setCells V.heap.size (Array.toList #[.bool pr, .int .i64 pc, .int .i64 pn, .int .i64 pk, .string pa, .string pb, .string pt, .int .i64 pd, .string pu]) 0 w1
    obtain ⟨W2, hW2⟩ : ∃ W', W' = w1.setCells V.heap.size 0 (Array.toList #[.bool pr, .int .i64 pc, .int .i64 pn, .int .i64 pk, .string pa, .string pb, .string pt, .int .i64 pd, .string pu]) := ⟨_, rfl⟩
    rw [← hW2] at hQ2 hK2 ⊢
    refine hK.out _ _ ((hK2.block w.heap.size (by omega) (by simp; omega)).trans hHeld) (fun hHeldN => ?_)
    clear hHeld hK K; have hHeld := hHeldN; clear hHeldN
    try simp only [pS]
    refine tkH ?_ opn11 (fun _ _ _ h => h) hHeld ?_ ?_
    rotate_left 1
    · intro wz hSw; (try dsimp only at hSw); go_simp; all_goals with_reducible rfl
    try simp only [pS]
    refine wpAnyH_done (by kernel_rfl) ?_ _
    have HX := hide (hHeld.trans (unhide HXV))
    have HQ := hide hQ2
    have HR := hide ((unhide HR1).set hnz hK2)
    have HN := hide ((unhide HN1).setN hNw (Nat.le_of_lt hlV) hK2)
    have hnq := hnz
    have hlQ : V.heap.size < W2.heap.size := (Array.getElem?_eq_some_iff.1 (unhide HQ)).1
    have hlX : w.heap.size < W2.heap.size := (Array.getElem?_eq_some_iff.1 (unhide HX)).1
    clear hQ2 hK2 hba HZ HZ1 hHeld HR1 HN1 hW2
    obtain ⟨⟨x0, x1, x2, x3⟩, ⟨x4, x5, x6⟩, xf⟩ := seven (unhide HX)
    obtain ⟨⟨q0, q1, q2, q3⟩, ⟨q4, q5, q6, q7, q8⟩, qf⟩ := nine (unhide HQ)
    have HR2 : Hid (HRep N W2 H o1 A2) := by rw [unhide HAT]; exact unhide HR
    unfold AW.tear at HRES
    cases pr
    · rw [if_neg (by simp)] at HRES
      dsimp only at HRES
      have hbd := below_drew W2
      have HPS := hide (CTear_anyH N H o1.rv A2.log pc pn xp ⟨pk, pa, pb, pt⟩ W2.drew ((unhide HR2).below hbd).chest (unhide HR2).good (unhide HR2).ss (SmallP.max (unhide HSM)).1 (SmallP.max (unhide HSM)).2.1 (SmallP.max (unhide HSM)).2.2)
      have HPT := hide (fun w' (hT : CTurnedH (FS o1 A2) 42 W2.drew N H o1.rv w' (aTear A2.log pc pn ⟨pk, pa, pb, pt⟩ xp).2) => ((unhide HR2).below hbd).turnS hT (aTear_good (unhide HR2).good _ _ _ _) (aTear_short (unhide HR2).good (unhide HR2).ss _ _ _ _))
      have HKK : Hid (∀ b, b ∉ o1.all H → b ≠ H ∧ o1.rv.ownBlock ≠ some b) := fun b hb => ⟨fun e => hb (HOwn.mem_all.2 (.inl e)), fun e => hb (HOwn.mem_all.2 (.inr ⟨3, by omega, e⟩))⟩
      have HN4 := hide ((unhide HN).trans (Next.of_below _ hbd (unhide HR).size))
      dsimp only at HPS
      generalize o1.rv = rv at HPS HPT HKK
      generalize aTear A2.log pc pn ⟨pk, pa, pb, pt⟩ xp = TT at HPS HPT HRES
      clear hbd
      go_wp2_with fail
      clear x0 x1 x2 x3 x4 x5 x6 xf q0 q1 q2 q3 q4 q5 q6 q7 q8 qf
      refine wp_region_held_drew (S := (fun wx => wx.heap[w.heap.size]? = W2.heap[w.heap.size]? ∧ wx.heap[V.heap.size]? = W2.heap[V.heap.size]?)) (by kernel_rfl) (⟨rfl, rfl⟩) (fun hHeld => ?_)
      refine tkH ?_ opn0 (fun _ _ _ h => h) hHeld ?_ ?_
      rotate_left 1
      · intro wz hSw; (try dsimp only at hSw); go_simp; all_goals with_reducible rfl
      try simp only [pS]
      refine tkH ?_ opn1 (fun _ _ _ h => h) hHeld ?_ ?_
      rotate_left 1
      · intro wz hSw; (try dsimp only at hSw); go_simp; all_goals with_reducible rfl
      try simp only [pS]
      refine tkH ?_ opn2 (fun _ _ _ h => h) hHeld ?_ ?_
      rotate_left 1
      · intro wz hSw; (try dsimp only at hSw); go_simp; all_goals with_reducible rfl
      try simp only [pS]
      refine tkH ?_ opn3 (fun _ _ _ h => h) hHeld ?_ ?_
      rotate_left 1
      · intro wz hSw; (try dsimp only at hSw); go_simp; all_goals with_reducible rfl
      try simp only [pS]
      refine tkH ?_ opn4 (fun _ _ _ h => h) hHeld ?_ ?_
      rotate_left 1
      · intro wz hSw; (try dsimp only at hSw)
        obtain ⟨⟨x0, x1, x2, x3⟩, ⟨x4, x5, x6, x7, x8⟩, xf⟩ := nine (hSw.2.trans (unhide HQ))
        go_simp; all_goals with_reducible rfl
      try simp only [pS]
      refine tkH ?_ opn5 (fun _ _ _ h => h) hHeld ?_ ?_
      rotate_left 1
      · intro wz hSw; (try dsimp only at hSw); go_simp; all_goals with_reducible rfl
      try simp only [pS]
      refine tkH ?_ opn6 (fun _ _ _ h => h) hHeld ?_ ?_
      rotate_left 1
      · intro wz hSw; (try dsimp only at hSw)
        obtain ⟨⟨x0, x1, x2, x3⟩, ⟨x4, x5, x6, x7, x8⟩, xf⟩ := nine (hSw.2.trans (unhide HQ))
        go_simp; all_goals with_reducible rfl
      try simp only [pS]
      refine tkH ?_ opn7 (fun _ _ _ h => h) hHeld ?_ ?_
      rotate_left 1
      · intro wz hSw; (try dsimp only at hSw); go_simp; all_goals with_reducible rfl
      try simp only [pS]
      refine tkH ?_ opn8 (fun _ _ _ h => h) hHeld ?_ ?_
      rotate_left 1
      · intro wz hSw; (try dsimp only at hSw)
        obtain ⟨⟨x0, x1, x2, x3⟩, ⟨x4, x5, x6, x7, x8⟩, xf⟩ := nine (hSw.2.trans (unhide HQ))
        go_simp; all_goals with_reducible rfl
      try simp only [pS]
      refine tkH ?_ opn9 (fun _ _ _ h => h) hHeld ?_ ?_
      rotate_left 1
      · intro wz hSw; (try dsimp only at hSw); go_simp; all_goals with_reducible rfl
      try simp only [pS]
      refine tkH ?_ opn10 (fun _ _ _ h => h) hHeld ?_ ?_
      rotate_left 1
      · intro wz hSw; (try dsimp only at hSw)
        obtain ⟨⟨x0, x1, x2, x3⟩, ⟨x4, x5, x6⟩, xf⟩ := seven (hSw.1.trans (unhide HX))
        go_simp; all_goals with_reducible rfl
      try simp only [pS]
      refine wpAnyH_ready (rs := [11]) (by kernel_rfl) (by simp) ?_
      refine AllReadyH.cons opn11 (fun K hK => ?_) AllReadyH.nil
      rw [if_pos (by kernel_rfl)]
      go_simp
      refine (unhide HPS).mono ?_
      rintro e w4 ⟨rfl, hT⟩
      have hk1 : w4.heap[w.heap.size]? = W2.heap[w.heap.size]? := hT.same hlX ((unhide HKK) _ hnb)
      have hk2 : w4.heap[V.heap.size]? = W2.heap[V.heap.size]? := hT.same hlQ ((unhide HKK) _ hnq)
      obtain ⟨o4, r4, n4⟩ := (unhide HPT) _ hT
      have HFIN := hide (And.intro r4 ((unhide HN4).trans n4))
      clear hT r4 n4
      refine hK.out _ _ (⟨hk1, hk2⟩) (fun hHeldN => ?_)
      clear hHeld hK K; have hHeld := hHeldN; clear hHeldN
      try simp only [pS]
      clear hk1 hk2
      refine tkH ?_ opn12 (fun _ _ _ h => h) hHeld ?_ ?_
      rotate_left 1
      · intro wz hSw; (try dsimp only at hSw); go_simp; all_goals with_reducible rfl
      try simp only [pS]
      refine wpAnyH_done (by kernel_rfl) ?_ _
      clear hHeld
      go_wp2
      go_ret
      rw [unhide HRES]
      exact ⟨rfl, _, (unhide HFIN).1, (unhide HFIN).2⟩
    · rw [if_pos rfl] at HRES
      go_wp2
      go_ret
      rw [unhide HRES]
      exact ⟨rfl, _, unhide HR2, unhide HN⟩
theorem HStep_any {N : Nat} {w : World} {H : Nat} {o : HOwn} {A : AW} (h : HRep N w H o A) (x : AX) (hx : SmallC x.call) :
    Calls Tryz.prog 27 #[.pointer (some ⟨H, 0, none⟩), x.val] w fun e w' => e = .returned (.int .i64 (A.step x).1) ∧ HTurn N w H o w' (A.step x).2 := by
  by_cases h1 : x.kind = 1
  · by_cases hn : x.n < 0 ∨ 2 < x.n
    · exact hstep_callfar h x hx h1 hn
    · rcases (show x.n = 0 ∨ x.n = 1 ∨ x.n = 2 by omega) with h0 | h0 | h0
      · exact hstep_call0 h x hx h1 h0
      · exact hstep_call1 h x hx h1 h0
      · exact hstep_call2 h x hx h1 h0
  by_cases h2 : x.kind = 2
  · by_cases hn : x.n < 0 ∨ 2 < x.n
    · exact hstep_sendfar h x hx h2 hn
    · rcases (show x.n = 0 ∨ x.n = 1 ∨ x.n = 2 by omega) with h0 | h0 | h0
      · exact hstep_send0 h x hx h2 h0
      · exact hstep_send1 h x hx h2 h0
      · exact hstep_send2 h x hx h2 h0
  by_cases h6 : x.kind = 6
  · exact hstep_crash h x hx h6
  by_cases h0 : A.ms.length = 0
  · by_cases hk : x.kind = 3 ∨ x.kind = 4 ∨ x.kind = 5 ∨ x.kind = 7
    · exact hstep_empty h x hx hk h0
    · exact hstep_none h x hx h1 h2 (by omega) (by omega) (by omega) h6 (by omega)
  by_cases h3 : x.kind = 3
  · exact hstep_deliver h x hx h3 h0
  by_cases h4 : x.kind = 4
  · exact hstep_lose h x hx h4 h0
  by_cases h5 : x.kind = 5
  · exact hstep_double h x hx h5 h0
  by_cases h7 : x.kind = 7
  · exact hstep_tear h x hx h7 h0
  exact hstep_none h x hx h1 h2 h3 h4 h5 h6 h7
end Go.Proofs.YtmbhbnoifimeaabGreat
