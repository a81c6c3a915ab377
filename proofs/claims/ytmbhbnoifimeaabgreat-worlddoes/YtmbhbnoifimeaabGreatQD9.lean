/- The world's functions: take, Step. -/
import Derived.Test.YtmbhbnoifimeaabGreatQD8
namespace Go.Proofs.YtmbhbnoifimeaabGreat
open Go.RowKit
set_option linter.unusedSimpArgs false
set_option linter.unusedVariables false
set_option maxRecDepth 100000 in
set_option maxHeartbeats 4000000 in
theorem wtake_none {N : Nat} {w : World} {W : Nat} {o : WOwn} {A : AW} (h : WRep N w W o A) (x : AX) (h0 : A.ms.length = 0) :
    Calls Tryz.prog 48 #[.pointer (some ⟨W, 0, none⟩), x.val] w fun e w' => e = .returned (.int .i64 (A.take x).1) ∧ WTurn N w W o w' (A.take x).2 := by
  obtain ⟨V, hV⟩ : ∃ V, V = w.alloc (.cells #[.int .i64 x.kind, .int .i64 x.n, .int .i64 x.keep, .int .i64 x.call.kind, .string x.call.name, .string x.call.dst, .string x.call.text] 69) := ⟨_, rfl⟩
  have hBV : Below w.heap.size w V := by rw [hV]; exact (Below.refl _ _).alloc (Nat.le_refl _) _
  have hXV : V.heap[w.heap.size]? = some (.cells #[.int .i64 x.kind, .int .i64 x.n, .int .i64 x.keep, .int .i64 x.call.kind, .string x.call.name, .string x.call.dst, .string x.call.text] 69 (0, 0)) := by rw [hV]; exact heap_alloc_new _ _
  have hlV : w.heap.size < V.heap.size := (Array.getElem?_eq_some_iff.1 hXV).1
  have hrV := h.below hBV
  have HBV := hide hBV
  have HXV := hide hXV
  have HV := hide hV
  have HPC := hide hrV.cells.1.2.2.2.2
  have hWl := h.lt
  have hNw := h.size
  have HTK := hide (fun W' (hb : Below V.heap.size V W') => PTake_any (hrV.below hb).p x.n)
  have HTP := hide (fun W' w1 (hb : Below V.heap.size V W') (hT : PTurn 115 N W' o.P o.pv w1 (aTakeL A.ms x.n)) => (hrV.below hb).turnP hT)
  have HKW : Hid (W ∉ powns o.P o.pv) := h.nW 4 (by omega)
  have HKB : Hid (∀ b, w.heap.size ≤ b → b ∉ powns o.P o.pv) := fun b hb => h.not_part hb (i := 4) (by omega)
  have HKA : Hid (∀ b, w.heap.size ≤ b → b ∉ o.all W) := fun b hb => h.not_new hb
  have hB : aTakeB A.ms = false := decide_eq_false (by omega)
  rw [hB] at HTK
  have e1 : A.take x = (6, A) := by unfold AW.take; rw [if_pos h0]
  have e2 : aTakeM A.ms x.n = zeroPkt := by have : A.ms = [] := List.length_eq_zero_iff.1 h0; unfold aTakeM; rw [this]; rfl
  have e3 : aTakeL A.ms x.n = A.ms := by have : A.ms = [] := List.length_eq_zero_iff.1 h0; unfold aTakeL; rw [this]; rfl
  rw [e1]
  rw [e2, e3] at HTK
  rw [e3] at HTP
  obtain ⟨pr, pc, pn, pk, pa, pb, pt, pd, pu, hz⟩ : ∃ pr pc pn pk pa pb pt pd pu, zeroPkt = ⟨pr, pc, pn, ⟨pk, pa, pb, pt⟩, pd, pu⟩ := ⟨_, _, _, _, _, _, _, _, _, rfl⟩
  rw [hz] at HTK
  clear e1 e2 e3 hz
  generalize o.P = P at HTK HTP HKW HKB HPC
  generalize o.pv = pv at HTK HTP HKW HKB
  clear h hV hBV hXV hrV h0 hB
  obtain ⟨xk, xn, xp, ⟨ck, ca, cb, ct⟩⟩ := x
  dsimp only [APkt.val, AX.val] at *
  go_enter Tryz.func48, Tryz.ntmps48
  go_wp2_with fail
  rw [← unhide HV]
  refine wp_region_held_drew (S := (fun wx => wx.heap[W]? = V.heap[W]? ∧ wx.heap[w.heap.size]? = V.heap[w.heap.size]?)) (by kernel_rfl) (⟨rfl, rfl⟩) (fun hHeld => ?_)
  refine tkH ?_ opn0 (fun _ _ _ h => h) hHeld ?_ ?_
  rotate_left 1
  · intro wz hSw; (try dsimp only at hSw); go_simp; all_goals with_reducible rfl
  try simp only [pS]
  refine tkH ?_ opn1 (fun _ _ _ h => h) hHeld ?_ ?_
  rotate_left 1
  · intro wz hSw; (try dsimp only at hSw); go_simp; all_goals with_reducible rfl
  try simp only [pS]
  refine tkH ?_ opn2 (fun _ _ _ h => h) hHeld ?_ ?_
  rotate_left 1
  · intro wz hSw; (try dsimp only at hSw); go_simp; all_goals with_reducible rfl
  try simp only [pS]
  refine tkH ?_ opn3 (fun _ _ _ h => h) hHeld ?_ ?_
  rotate_left 1
  · intro wz hSw; (try dsimp only at hSw)
    have hq : wz.cell? ⟨W, 4, none⟩ = some (.pointer (some ⟨P, 0, none⟩)) := (World.cell?_of_block (w := V) (a := ⟨W, 4, none⟩) hSw.1).trans (unhide HPC)
    go_simp; all_goals with_reducible rfl
  try simp only [pS]
  refine tkH ?_ opn4 (fun _ _ _ h => h) hHeld ?_ ?_
  rotate_left 1
  · intro wz hSw; (try dsimp only at hSw); go_simp; all_goals with_reducible rfl
  try simp only [pS]
  refine tkH ?_ opn5 (fun _ _ _ h => h) hHeld ?_ ?_
  rotate_left 1
  · intro wz hSw; (try dsimp only at hSw)
    obtain ⟨⟨x0, x1, x2, x3⟩, ⟨x4, x5, x6⟩, xf⟩ := seven (hSw.2.trans (unhide HXV))
    go_simp; all_goals with_reducible rfl
  try simp only [pS]
  refine wpAnyH_ready (rs := [6, 10]) (by kernel_rfl) (by simp) ?_
  refine AllReadyH.cons opn6 (fun K hK => ?_) (AllReadyH.cons opn10 (fun K hK => ?_) (AllReadyH.nil))
  · rw [if_pos (by kernel_rfl)]
    go_simp
    refine ((unhide HTK) _ (below_drew V)).mono ?_
    rintro e w1 ⟨rfl, hT⟩
    have hWV : W < V.heap.size := Nat.lt_trans hWl hlV
    have hk1 : w1.heap[W]? = V.heap[W]? := hT.same hWV (unhide HKW)
    have hk2 : w1.heap[w.heap.size]? = V.heap[w.heap.size]? := hT.same hlV ((unhide HKB) _ (Nat.le_refl _))
    obtain ⟨o1, r1, n1⟩ := (unhide HTP) _ _ (below_drew V) hT
    have hl1 : V.heap.size ≤ w1.heap.size := n1.below.size
    have HR1 := hide r1
    have HN1 := hide (((Next.of_below (o.all W) ((unhide HBV).trans ((below_drew V).mono (unhide HBV).size)) hNw)).trans n1)
    clear hT r1 n1
    refine hK.out _ _ (⟨hk1, hk2⟩) (fun hHeldN => ?_)
    clear hHeld hK K; have hHeld := hHeldN; clear hHeldN
    try simp only [pS]
    clear hk1 hk2
    refine tkH ?_ opn7 (fun _ _ _ h => h) hHeld ?_ ?_
    rotate_left 1
    · intro wz hSw; (try dsimp only at hSw); go_simp; all_goals with_reducible rfl
    try simp only [pS]
    refine tkH ?_ opn8 (fun _ _ _ h => h) hHeld ?_ ?_
    rotate_left 1
    · intro wz hSw; (try dsimp only at hSw); go_simp; all_goals with_reducible rfl
    try simp only [pS]
    refine tkH ?_ opn9 (fun _ _ _ h => h) hHeld ?_ ?_
    rotate_left 1
    · intro wz hSw; (try dsimp only at hSw); go_simp; all_goals with_reducible rfl
    try simp only [pS]
    refine wpAnyH_ready (rs := [10]) (by kernel_rfl) (by simp) ?_
    refine AllReadyH.cons opn10 (fun K hK => ?_) AllReadyH.nil
    rw [if_pos (by kernel_rfl)]
    go_simp
    have hba : Below w1.heap.size w1 (w1.alloc (.cells #[.bool false, .int .i64 0, .int .i64 0, .int .i64 0, .string ⟨#[]⟩, .string ⟨#[]⟩, .string ⟨#[]⟩, .int .i64 0, .string ⟨#[]⟩] 92)) := (Below.refl _ _).alloc (Nat.le_refl _) _
    have HZ : Hid ((w1.alloc (.cells #[.bool false, .int .i64 0, .int .i64 0, .int .i64 0, .string ⟨#[]⟩, .string ⟨#[]⟩, .string ⟨#[]⟩, .int .i64 0, .string ⟨#[]⟩] 92)).heap[w1.heap.size]? = some (.cells #[.bool false, .int .i64 0, .int .i64 0, .int .i64 0, .string ⟨#[]⟩, .string ⟨#[]⟩, .string ⟨#[]⟩, .int .i64 0, .string ⟨#[]⟩] 92 (0, 0))) := heap_alloc_new _ _
    refine hK.out _ _ (⟨(hba.block W (by omega)).trans hHeld.1, (hba.block w.heap.size (by omega)).trans hHeld.2⟩) (fun hHeldN => ?_)
    clear hHeld hK K; have hHeld := hHeldN; clear hHeldN
    try simp only [pS]
    generalize w1.alloc (.cells #[.bool false, .int .i64 0, .int .i64 0, .int .i64 0, .string ⟨#[]⟩, .string ⟨#[]⟩, .string ⟨#[]⟩, .int .i64 0, .string ⟨#[]⟩] 92) = W1 at hba HZ hHeld ⊢
    refine wpAnyH_ready (rs := [11]) (by kernel_rfl) (by simp) ?_
    refine AllReadyH.cons opn11 (fun K hK => ?_) AllReadyH.nil
    rw [if_pos (by kernel_rfl)]
    refine wp_store_mid _ _ _ rfl w1.heap.size 0 #[.bool pr, .int .i64 pc, .int .i64 pn, .int .i64 pk, .string pa, .string pb, .string pt, .int .i64 pd, .string pu] (by simp [Act.eval]) (by simp [Act.eval]) (fun j hj => ⟨by rw [Nat.zero_add, cell_of_row W1 w1.heap.size j _ _ _ (unhide HZ), Array.getElem?_eq_getElem (by simpa using hj)]; rfl, by rw [Nat.zero_add]; exact frozen_of_row W1 w1.heap.size j _ _ (unhide HZ)⟩) infoP (by simp [Value.oneCell']) ?_
    have hQ2 := setRowN (cs := #[.bool pr, .int .i64 pc, .int .i64 pn, .int .i64 pk, .string pa, .string pb, .string pt, .int .i64 pd, .string pu]) (unhide HZ) rfl
    have hK2 := kept_setCells w1.heap.size (Array.toList #[.bool pr, .int .i64 pc, .int .i64 pn, .int .i64 pk, .string pa, .string pb, .string pt, .int .i64 pd, .string pu]) 0 W1
    obtain ⟨W2, hW2⟩ : ∃ W', W' = W1.setCells w1.heap.size 0 (Array.toList #[.bool pr, .int .i64 pc, .int .i64 pn, .int .i64 pk, .string pa, .string pb, .string pt, .int .i64 pd, .string pu]) := ⟨_, rfl⟩
    rw [← hW2] at hQ2 hK2 ⊢
    have hlW1 := hba.size
    refine hK.out _ _ (⟨(hK2.block W (by omega) (by simp; omega)).trans hHeld.1, (hK2.block w.heap.size (by omega) (by simp; omega)).trans hHeld.2⟩) (fun hHeldN => ?_)
    clear hHeld hK K; have hHeld := hHeldN; clear hHeldN
    try simp only [pS]
    have hbW : Below w1.heap.size w1 W2 := ⟨hK2.os.trans hba.os, hK2.tape.trans hba.tape, hK2.output.trans hba.output, Nat.le_trans hba.size hK2.size, fun j hj => (hK2.block j (Nat.lt_of_lt_of_le hj hba.size) (by simp; omega)).trans (hba.block j hj)⟩
    refine tkH ?_ opn12 (fun _ _ _ h => h) hHeld ?_ ?_
    rotate_left 1
    · intro wz hSw; (try dsimp only at hSw); go_simp; all_goals with_reducible rfl
    try simp only [pS]
    refine wpAnyH_done (by kernel_rfl) ?_ _
    have HX := hide (hHeld.2.trans (unhide HXV))
    have HQ := hide hQ2
    have HR := hide ((unhide HR1).below hbW)
    have HN := hide ((unhide HN1).trans (Next.of_below _ hbW (unhide HR1).size))
    clear hQ2 hK2 hbW hba HZ hlW1 hHeld HR1 HN1 hW2
    go_wp2
    go_ret
    exact ⟨rfl, _, unhide HR, unhide HN⟩
  · rw [if_pos (by kernel_rfl)]
    go_simp
    have hba := below_alloc_drew V (.cells #[.bool false, .int .i64 0, .int .i64 0, .int .i64 0, .string ⟨#[]⟩, .string ⟨#[]⟩, .string ⟨#[]⟩, .int .i64 0, .string ⟨#[]⟩] 92)
    have HZ := hide (alloc_drew_new V (.cells #[.bool false, .int .i64 0, .int .i64 0, .int .i64 0, .string ⟨#[]⟩, .string ⟨#[]⟩, .string ⟨#[]⟩, .int .i64 0, .string ⟨#[]⟩] 92))
    have hWV : W < V.heap.size := Nat.lt_trans hWl hlV
    refine hK.out _ _ (⟨hba.block W hWV, hba.block w.heap.size hlV⟩) (fun hHeldN => ?_)
    clear hHeld hK K; have hHeld := hHeldN; clear hHeldN
    try simp only [pS]
    generalize (V.alloc (.cells #[.bool false, .int .i64 0, .int .i64 0, .int .i64 0, .string ⟨#[]⟩, .string ⟨#[]⟩, .string ⟨#[]⟩, .int .i64 0, .string ⟨#[]⟩] 92)).drew = V1 at hba HZ hHeld ⊢
    have hlZ : V.heap.size < V1.heap.size := (Array.getElem?_eq_some_iff.1 (unhide HZ)).1
    refine wpAnyH_ready (rs := [6]) (by kernel_rfl) (by simp) ?_
    refine AllReadyH.cons opn6 (fun K hK => ?_) AllReadyH.nil
    rw [if_pos (by kernel_rfl)]
    go_simp
    refine ((unhide HTK) _ hba).mono ?_
    rintro e w1 ⟨rfl, hT⟩
    have hk1 : w1.heap[W]? = V.heap[W]? := (hT.same (Nat.lt_trans hWV hlZ) (unhide HKW)).trans (hba.block W hWV)
    have hk2 : w1.heap[w.heap.size]? = V.heap[w.heap.size]? := (hT.same (Nat.lt_trans hlV hlZ) ((unhide HKB) _ (Nat.le_refl _))).trans (hba.block _ hlV)
    have HZ1 := hide ((hT.same hlZ ((unhide HKB) _ (Nat.le_of_lt hlV))).trans (unhide HZ))
    obtain ⟨o1, r1, n1⟩ := (unhide HTP) _ _ hba hT
    have hnz := (n1.keep V.heap.size hlZ ((unhide HKA) _ (Nat.le_of_lt hlV))).1
    have hl1 : V1.heap.size ≤ w1.heap.size := n1.below.size
    have HR1 := hide r1
    have HN1 := hide (((Next.of_below (o.all W) ((unhide HBV).trans (hba.mono (unhide HBV).size)) hNw)).trans n1)
    clear hT r1 n1
    refine hK.out _ _ (⟨hk1, hk2⟩) (fun hHeldN => ?_)
    clear hHeld hK K; have hHeld := hHeldN; clear hHeldN
    try simp only [pS]
    clear hk1 hk2
    refine tkH ?_ opn7 (fun _ _ _ h => h) hHeld ?_ ?_
    rotate_left 1
    · intro wz hSw; (try dsimp only at hSw); go_simp; all_goals with_reducible rfl
    try simp only [pS]
    refine tkH ?_ opn8 (fun _ _ _ h => h) hHeld ?_ ?_
    rotate_left 1
    · intro wz hSw; (try dsimp only at hSw); go_simp; all_goals with_reducible rfl
    try simp only [pS]
    refine tkH ?_ opn9 (fun _ _ _ h => h) hHeld ?_ ?_
    rotate_left 1
    · intro wz hSw; (try dsimp only at hSw); go_simp; all_goals with_reducible rfl
    try simp only [pS]
    refine wpAnyH_ready (rs := [11]) (by kernel_rfl) (by simp) ?_
    refine AllReadyH.cons opn11 (fun K hK => ?_) AllReadyH.nil
    rw [if_pos (by kernel_rfl)]
    refine wp_store_mid _ _ _ rfl V.heap.size 0 #[.bool pr, .int .i64 pc, .int .i64 pn, .int .i64 pk, .string pa, .string pb, .string pt, .int .i64 pd, .string pu] (by simp [Act.eval]) (by simp [Act.eval]) (fun j hj => ⟨by rw [Nat.zero_add, cell_of_row w1 V.heap.size j _ _ _ (unhide HZ1), Array.getElem?_eq_getElem (by simpa using hj)]; rfl, by rw [Nat.zero_add]; exact frozen_of_row w1 V.heap.size j _ _ (unhide HZ1)⟩) infoP (by simp [Value.oneCell']) ?_
    have hQ2 := setRowN (cs := #[.bool pr, .int .i64 pc, .int .i64 pn, .int .i64 pk, .string pa, .string pb, .string pt, .int .i64 pd, .string pu]) (unhide HZ1) rfl
    have hK2 := kept_setCells V.heap.size (Array.toList #[.bool pr, .int .i64 pc, .int .i64 pn, .int .i64 pk, .string pa, .string pb, .string pt, .int .i64 pd, .string pu]) 0 w1
    obtain ⟨W2, hW2⟩ : ∃ W', W' = w1.setCells V.heap.size 0 (Array.toList #[.bool pr, .int .i64 pc, .int .i64 pn, .int .i64 pk, .string pa, .string pb, .string pt, .int .i64 pd, .string pu]) := ⟨_, rfl⟩
    rw [← hW2] at hQ2 hK2 ⊢
    refine hK.out _ _ (⟨(hK2.block W (by omega) (by simp; omega)).trans hHeld.1, (hK2.block w.heap.size (by omega) (by simp; omega)).trans hHeld.2⟩) (fun hHeldN => ?_)
    clear hHeld hK K; have hHeld := hHeldN; clear hHeldN
    try simp only [pS]
    refine tkH ?_ opn12 (fun _ _ _ h => h) hHeld ?_ ?_
    rotate_left 1
    · intro wz hSw; (try dsimp only at hSw); go_simp; all_goals with_reducible rfl
    try simp only [pS]
    refine wpAnyH_done (by kernel_rfl) ?_ _
    have HX := hide (hHeld.2.trans (unhide HXV))
    have HQ := hide hQ2
    have HR := hide ((unhide HR1).set hnz hK2)
    have HN := hide ((unhide HN1).setN hNw (Nat.le_of_lt hlV) hK2)
    clear hQ2 hK2 hba HZ HZ1 hHeld HR1 HN1 hW2
    go_wp2
    go_ret
    exact ⟨rfl, _, unhide HR, unhide HN⟩
set_option maxRecDepth 100000 in
set_option maxHeartbeats 4000000 in
theorem wtake_some {N : Nat} {w : World} {W : Nat} {o : WOwn} {A : AW} (h : WRep N w W o A) (x : AX) (h0 : A.ms.length ≠ 0) :
    Calls Tryz.prog 48 #[.pointer (some ⟨W, 0, none⟩), x.val] w fun e w' => e = .returned (.int .i64 (A.take x).1) ∧ WTurn N w W o w' (A.take x).2 := by
  obtain ⟨V, hV⟩ : ∃ V, V = w.alloc (.cells #[.int .i64 x.kind, .int .i64 x.n, .int .i64 x.keep, .int .i64 x.call.kind, .string x.call.name, .string x.call.dst, .string x.call.text] 69) := ⟨_, rfl⟩
  have hBV : Below w.heap.size w V := by rw [hV]; exact (Below.refl _ _).alloc (Nat.le_refl _) _
  have hXV : V.heap[w.heap.size]? = some (.cells #[.int .i64 x.kind, .int .i64 x.n, .int .i64 x.keep, .int .i64 x.call.kind, .string x.call.name, .string x.call.dst, .string x.call.text] 69 (0, 0)) := by rw [hV]; exact heap_alloc_new _ _
  have hlV : w.heap.size < V.heap.size := (Array.getElem?_eq_some_iff.1 hXV).1
  have hrV := h.below hBV
  have HBV := hide hBV
  have HXV := hide hXV
  have HV := hide hV
  have HPC := hide hrV.cells.1.2.2.2.2
  have hWl := h.lt
  have hNw := h.size
  have HTK := hide (fun W' (hb : Below V.heap.size V W') => PTake_any (hrV.below hb).p x.n)
  have HTP := hide (fun W' w1 (hb : Below V.heap.size V W') (hT : PTurn 115 N W' o.P o.pv w1 (aTakeL A.ms x.n)) => (hrV.below hb).turnP hT)
  have HKW : Hid (W ∉ powns o.P o.pv) := h.nW 4 (by omega)
  have HKB : Hid (∀ b, w.heap.size ≤ b → b ∉ powns o.P o.pv) := fun b hb => h.not_part hb (i := 4) (by omega)
  have HKA : Hid (∀ b, w.heap.size ≤ b → b ∉ o.all W) := fun b hb => h.not_new hb
  have hB : aTakeB A.ms = true := decide_eq_true (by omega)
  rw [hB] at HTK
  have HSM : Hid (SmallP (aTakeM A.ms x.n)) := h.p.small _ (takeM_mem x.n h0)
  have HRES : Hid (A.take x = if x.kind = 3 then (0, (A.took x.n).come (aTakeM A.ms x.n)) else if x.kind = 7 then (A.took x.n).tear (aTakeM A.ms x.n) x.keep else (0, A.took x.n)) := by show AW.take A x = _; unfold AW.take; rw [if_neg h0]
  generalize A.take x = R at HRES ⊢
  have HAT : Hid (A.took x.n = ⟨A.log, A.cl, aTakeL A.ms x.n⟩) := rfl
  generalize aTakeM A.ms x.n = p at HTK HSM HRES
  generalize aTakeL A.ms x.n = ms' at HTK HTP HAT
  obtain ⟨pr, pc, pn, ⟨pk, pa, pb, pt⟩, pd, pu⟩ := p
  generalize o.P = P at HTK HTP HKW HKB HPC
  generalize o.pv = pv at HTK HTP HKW HKB
  clear h hV hBV hXV hrV h0 hB
  obtain ⟨xk, xn, xp, ⟨ck, ca, cb, ct⟩⟩ := x
  dsimp only [APkt.val, AX.val] at *
  go_enter Tryz.func48, Tryz.ntmps48
  go_wp2_with fail
  rw [← unhide HV]
  refine wp_region_held_drew (S := (fun wx => wx.heap[W]? = V.heap[W]? ∧ wx.heap[w.heap.size]? = V.heap[w.heap.size]?)) (by kernel_rfl) (⟨rfl, rfl⟩) (fun hHeld => ?_)
  refine tkH ?_ opn0 (fun _ _ _ h => h) hHeld ?_ ?_
  rotate_left 1
  · intro wz hSw; (try dsimp only at hSw); go_simp; all_goals with_reducible rfl
  try simp only [pS]
  refine tkH ?_ opn1 (fun _ _ _ h => h) hHeld ?_ ?_
  rotate_left 1
  · intro wz hSw; (try dsimp only at hSw); go_simp; all_goals with_reducible rfl
  try simp only [pS]
  refine tkH ?_ opn2 (fun _ _ _ h => h) hHeld ?_ ?_
  rotate_left 1
  · intro wz hSw; (try dsimp only at hSw); go_simp; all_goals with_reducible rfl
  try simp only [pS]
  refine tkH ?_ opn3 (fun _ _ _ h => h) hHeld ?_ ?_
  rotate_left 1
  · intro wz hSw; (try dsimp only at hSw)
    have hq : wz.cell? ⟨W, 4, none⟩ = some (.pointer (some ⟨P, 0, none⟩)) := (World.cell?_of_block (w := V) (a := ⟨W, 4, none⟩) hSw.1).trans (unhide HPC)
    go_simp; all_goals with_reducible rfl
  try simp only [pS]
  refine tkH ?_ opn4 (fun _ _ _ h => h) hHeld ?_ ?_
  rotate_left 1
  · intro wz hSw; (try dsimp only at hSw); go_simp; all_goals with_reducible rfl
  try simp only [pS]
  refine tkH ?_ opn5 (fun _ _ _ h => h) hHeld ?_ ?_
  rotate_left 1
  · intro wz hSw; (try dsimp only at hSw)
    obtain ⟨⟨x0, x1, x2, x3⟩, ⟨x4, x5, x6⟩, xf⟩ := seven (hSw.2.trans (unhide HXV))
    go_simp; all_goals with_reducible rfl
  try simp only [pS]
  refine wpAnyH_ready (rs := [6, 10]) (by kernel_rfl) (by simp) ?_
  refine AllReadyH.cons opn6 (fun K hK => ?_) (AllReadyH.cons opn10 (fun K hK => ?_) (AllReadyH.nil))
  · rw [if_pos (by kernel_rfl)]
    go_simp
    refine ((unhide HTK) _ (below_drew V)).mono ?_
    rintro e w1 ⟨rfl, hT⟩
    have hWV : W < V.heap.size := Nat.lt_trans hWl hlV
    have hk1 : w1.heap[W]? = V.heap[W]? := hT.same hWV (unhide HKW)
    have hk2 : w1.heap[w.heap.size]? = V.heap[w.heap.size]? := hT.same hlV ((unhide HKB) _ (Nat.le_refl _))
    obtain ⟨o1, r1, n1⟩ := (unhide HTP) _ _ (below_drew V) hT
    have hl1 : V.heap.size ≤ w1.heap.size := n1.below.size
    have HR1 := hide r1
    have HN1 := hide (((Next.of_below (o.all W) ((unhide HBV).trans ((below_drew V).mono (unhide HBV).size)) hNw)).trans n1)
    clear hT r1 n1
    refine hK.out _ _ (⟨hk1, hk2⟩) (fun hHeldN => ?_)
    clear hHeld hK K; have hHeld := hHeldN; clear hHeldN
    try simp only [pS]
    clear hk1 hk2
    refine tkH ?_ opn7 (fun _ _ _ h => h) hHeld ?_ ?_
    rotate_left 1
    · intro wz hSw; (try dsimp only at hSw); go_simp; all_goals with_reducible rfl
    try simp only [pS]
    refine tkH ?_ opn8 (fun _ _ _ h => h) hHeld ?_ ?_
    rotate_left 1
    · intro wz hSw; (try dsimp only at hSw); go_simp; all_goals with_reducible rfl
    try simp only [pS]
    refine tkH ?_ opn9 (fun _ _ _ h => h) hHeld ?_ ?_
    rotate_left 1
    · intro wz hSw; (try dsimp only at hSw); go_simp; all_goals with_reducible rfl
    try simp only [pS]
    refine wpAnyH_ready (rs := [10]) (by kernel_rfl) (by simp) ?_
    refine AllReadyH.cons opn10 (fun K hK => ?_) AllReadyH.nil
    rw [if_pos (by kernel_rfl)]
    go_simp
    have hba : Below w1.heap.size w1 (w1.alloc (.cells #[.bool false, .int .i64 0, .int .i64 0, .int .i64 0, .string ⟨#[]⟩, .string ⟨#[]⟩, .string ⟨#[]⟩, .int .i64 0, .string ⟨#[]⟩] 92)) := (Below.refl _ _).alloc (Nat.le_refl _) _
    have HZ : Hid ((w1.alloc (.cells #[.bool false, .int .i64 0, .int .i64 0, .int .i64 0, .string ⟨#[]⟩, .string ⟨#[]⟩, .string ⟨#[]⟩, .int .i64 0, .string ⟨#[]⟩] 92)).heap[w1.heap.size]? = some (.cells #[.bool false, .int .i64 0, .int .i64 0, .int .i64 0, .string ⟨#[]⟩, .string ⟨#[]⟩, .string ⟨#[]⟩, .int .i64 0, .string ⟨#[]⟩] 92 (0, 0))) := heap_alloc_new _ _
    refine hK.out _ _ (⟨(hba.block W (by omega)).trans hHeld.1, (hba.block w.heap.size (by omega)).trans hHeld.2⟩) (fun hHeldN => ?_)
    clear hHeld hK K; have hHeld := hHeldN; clear hHeldN
    try simp only [pS]
    generalize w1.alloc (.cells #[.bool false, .int .i64 0, .int .i64 0, .int .i64 0, .string ⟨#[]⟩, .string ⟨#[]⟩, .string ⟨#[]⟩, .int .i64 0, .string ⟨#[]⟩] 92) = W1 at hba HZ hHeld ⊢
    refine wpAnyH_ready (rs := [11]) (by kernel_rfl) (by simp) ?_
    refine AllReadyH.cons opn11 (fun K hK => ?_) AllReadyH.nil
    rw [if_pos (by kernel_rfl)]
    refine wp_store_mid _ _ _ rfl w1.heap.size 0 #[.bool pr, .int .i64 pc, .int .i64 pn, .int .i64 pk, .string pa, .string pb, .string pt, .int .i64 pd, .string pu] (by simp [Act.eval]) (by simp [Act.eval]) (fun j hj => ⟨by rw [Nat.zero_add, cell_of_row W1 w1.heap.size j _ _ _ (unhide HZ), Array.getElem?_eq_getElem (by simpa using hj)]; rfl, by rw [Nat.zero_add]; exact frozen_of_row W1 w1.heap.size j _ _ (unhide HZ)⟩) infoP (by simp [Value.oneCell']) ?_
    have hQ2 := setRowN (cs := #[.bool pr, .int .i64 pc, .int .i64 pn, .int .i64 pk, .string pa, .string pb, .string pt, .int .i64 pd, .string pu]) (unhide HZ) rfl
    have hK2 := kept_setCells w1.heap.size (Array.toList #[.bool pr, .int .i64 pc, .int .i64 pn, .int .i64 pk, .string pa, .string pb, .string pt, .int .i64 pd, .string pu]) 0 W1
    obtain ⟨W2, hW2⟩ : ∃ W', W' = W1.setCells w1.heap.size 0 (Array.toList #[.bool pr, .int .i64 pc, .int .i64 pn, .int .i64 pk, .string pa, .string pb, .string pt, .int .i64 pd, .string pu]) := ⟨_, rfl⟩
    rw [← hW2] at hQ2 hK2 ⊢
    have hlW1 := hba.size
    refine hK.out _ _ (⟨(hK2.block W (by omega) (by simp; omega)).trans hHeld.1, (hK2.block w.heap.size (by omega) (by simp; omega)).trans hHeld.2⟩) (fun hHeldN => ?_)
    clear hHeld hK K; have hHeld := hHeldN; clear hHeldN
    try simp only [pS]
    have hbW : Below w1.heap.size w1 W2 := ⟨hK2.os.trans hba.os, hK2.tape.trans hba.tape, hK2.output.trans hba.output, Nat.le_trans hba.size hK2.size, fun j hj => (hK2.block j (Nat.lt_of_lt_of_le hj hba.size) (by simp; omega)).trans (hba.block j hj)⟩
    refine tkH ?_ opn12 (fun _ _ _ h => h) hHeld ?_ ?_
    rotate_left 1
    · intro wz hSw; (try dsimp only at hSw); go_simp; all_goals with_reducible rfl
    try simp only [pS]
    refine wpAnyH_done (by kernel_rfl) ?_ _
    have HX := hide (hHeld.2.trans (unhide HXV))
    have HQ := hide hQ2
    have HR := hide ((unhide HR1).below hbW)
    have HN := hide ((unhide HN1).trans (Next.of_below _ hbW (unhide HR1).size))
    clear hQ2 hK2 hbW hba HZ hlW1 hHeld HR1 HN1 hW2
    rw [unhide HAT] at HRES
    obtain ⟨⟨x0, x1, x2, x3⟩, ⟨x4, x5, x6⟩, xf⟩ := seven (unhide HX)
    obtain ⟨⟨q0, q1, q2, q3⟩, ⟨q4, q5, q6, q7, q8⟩, qf⟩ := nine (unhide HQ)
    by_cases h3 : xk = 3
    · subst h3
      have hres := (unhide HRES)
      rw [if_pos rfl] at hres
      have HD := hide (deliver_any (unhide HR) ⟨pr, pc, pn, ⟨pk, pa, pb, pt⟩, pd, pu⟩ (unhide HSM))
      dsimp only [APkt.val] at HD
      have HRS := hide hres
      clear hres
      go_wp2_with fail
      refine (unhide HD).mono ?_
      rintro e w4 ⟨rfl, hT⟩
      have hres := unhide HRS
      obtain ⟨o4, r4, n4⟩ := hT
      have HFIN := hide (And.intro r4 ((unhide HN).trans n4))
      clear r4 n4
      go_wp2
      go_ret
      exact ⟨by rw [hres]; rfl, by rw [hres]; exact ⟨_, (unhide HFIN).1, (unhide HFIN).2⟩⟩
    · by_cases h7 : xk = 7
      · subst h7
        have hres := (unhide HRES)
        rw [if_neg (by omega), if_pos rfl] at hres
        have HD := hide (wtear_any (unhide HR) ⟨pr, pc, pn, ⟨pk, pa, pb, pt⟩, pd, pu⟩ (unhide HSM) xp)
        rw [← hres] at HD
        dsimp only [APkt.val] at HD
        clear hres h3
        go_wp2_with fail
        refine (unhide HD).mono ?_
        rintro e w4 ⟨rfl, hT⟩
        obtain ⟨o4, r4, n4⟩ := hT
        have HFIN := hide (And.intro r4 ((unhide HN).trans n4))
        clear r4 n4
        go_wp2
        go_ret
        exact ⟨rfl, _, (unhide HFIN).1, (unhide HFIN).2⟩
      · have hres := (unhide HRES)
        rw [if_neg h3, if_neg h7] at hres
        have h3b : (xk == 3) = false := by simpa using h3
        have h7b : (xk == 7) = false := by simpa using h7
        have HRS := hide hres
        clear hres h3 h7
        go_wp2
        go_ret
        exact ⟨by rw [unhide HRS]; rfl, by rw [unhide HRS]; exact ⟨_, unhide HR, unhide HN⟩⟩
  · rw [if_pos (by kernel_rfl)]
    go_simp
    have hba := below_alloc_drew V (.cells #[.bool false, .int .i64 0, .int .i64 0, .int .i64 0, .string ⟨#[]⟩, .string ⟨#[]⟩, .string ⟨#[]⟩, .int .i64 0, .string ⟨#[]⟩] 92)
    have HZ := hide (alloc_drew_new V (.cells #[.bool false, .int .i64 0, .int .i64 0, .int .i64 0, .string ⟨#[]⟩, .string ⟨#[]⟩, .string ⟨#[]⟩, .int .i64 0, .string ⟨#[]⟩] 92))
    have hWV : W < V.heap.size := Nat.lt_trans hWl hlV
    refine hK.out _ _ (⟨hba.block W hWV, hba.block w.heap.size hlV⟩) (fun hHeldN => ?_)
    clear hHeld hK K; have hHeld := hHeldN; clear hHeldN
    try simp only [pS]
    generalize (V.alloc (.cells #[.bool false, .int .i64 0, .int .i64 0, .int .i64 0, .string ⟨#[]⟩, .string ⟨#[]⟩, .string ⟨#[]⟩, .int .i64 0, .string ⟨#[]⟩] 92)).drew = V1 at hba HZ hHeld ⊢
    have hlZ : V.heap.size < V1.heap.size := (Array.getElem?_eq_some_iff.1 (unhide HZ)).1
    refine wpAnyH_ready (rs := [6]) (by kernel_rfl) (by simp) ?_
    refine AllReadyH.cons opn6 (fun K hK => ?_) AllReadyH.nil
    rw [if_pos (by kernel_rfl)]
    go_simp
    refine ((unhide HTK) _ hba).mono ?_
    rintro e w1 ⟨rfl, hT⟩
    have hk1 : w1.heap[W]? = V.heap[W]? := (hT.same (Nat.lt_trans hWV hlZ) (unhide HKW)).trans (hba.block W hWV)
    have hk2 : w1.heap[w.heap.size]? = V.heap[w.heap.size]? := (hT.same (Nat.lt_trans hlV hlZ) ((unhide HKB) _ (Nat.le_refl _))).trans (hba.block _ hlV)
    have HZ1 := hide ((hT.same hlZ ((unhide HKB) _ (Nat.le_of_lt hlV))).trans (unhide HZ))
    obtain ⟨o1, r1, n1⟩ := (unhide HTP) _ _ hba hT
    have hnz := (n1.keep V.heap.size hlZ ((unhide HKA) _ (Nat.le_of_lt hlV))).1
    have hl1 : V1.heap.size ≤ w1.heap.size := n1.below.size
    have HR1 := hide r1
    have HN1 := hide (((Next.of_below (o.all W) ((unhide HBV).trans (hba.mono (unhide HBV).size)) hNw)).trans n1)
    clear hT r1 n1
    refine hK.out _ _ (⟨hk1, hk2⟩) (fun hHeldN => ?_)
    clear hHeld hK K; have hHeld := hHeldN; clear hHeldN
    try simp only [pS]
    clear hk1 hk2
    refine tkH ?_ opn7 (fun _ _ _ h => h) hHeld ?_ ?_
    rotate_left 1
    · intro wz hSw; (try dsimp only at hSw); go_simp; all_goals with_reducible rfl
    try simp only [pS]
    refine tkH ?_ opn8 (fun _ _ _ h => h) hHeld ?_ ?_
    rotate_left 1
    · intro wz hSw; (try dsimp only at hSw); go_simp; all_goals with_reducible rfl
    try simp only [pS]
    refine tkH ?_ opn9 (fun _ _ _ h => h) hHeld ?_ ?_
    rotate_left 1
    · intro wz hSw; (try dsimp only at hSw); go_simp; all_goals with_reducible rfl
    try simp only [pS]
    refine wpAnyH_ready (rs := [11]) (by kernel_rfl) (by simp) ?_
    refine AllReadyH.cons opn11 (fun K hK => ?_) AllReadyH.nil
    rw [if_pos (by kernel_rfl)]
    refine wp_store_mid _ _ _ rfl V.heap.size 0 #[.bool pr, .int .i64 pc, .int .i64 pn, .int .i64 pk, .string pa, .string pb, .string pt, .int .i64 pd, .string pu] (by simp [Act.eval]) (by simp [Act.eval]) (fun j hj => ⟨by rw [Nat.zero_add, cell_of_row w1 V.heap.size j _ _ _ (unhide HZ1), Array.getElem?_eq_getElem (by simpa using hj)]; rfl, by rw [Nat.zero_add]; exact frozen_of_row w1 V.heap.size j _ _ (unhide HZ1)⟩) infoP (by simp [Value.oneCell']) ?_
    have hQ2 := setRowN (cs := #[.bool pr, .int .i64 pc, .int .i64 pn, .int .i64 pk, .string pa, .string pb, .string pt, .int .i64 pd, .string pu]) (unhide HZ1) rfl
    have hK2 := kept_setCells V.heap.size (Array.toList #[.bool pr, .int .i64 pc, .int .i64 pn, .int .i64 pk, .string pa, .string pb, .string pt, .int .i64 pd, .string pu]) 0 w1
    obtain ⟨W2, hW2⟩ : ∃ W', W' = w1.setCells V.heap.size 0 (Array.toList #[.bool pr, .int .i64 pc, .int .i64 pn, .int .i64 pk, .string pa, .string pb, .string pt, .int .i64 pd, .string pu]) := ⟨_, rfl⟩
    rw [← hW2] at hQ2 hK2 ⊢
    refine hK.out _ _ (⟨(hK2.block W (by omega) (by simp; omega)).trans hHeld.1, (hK2.block w.heap.size (by omega) (by simp; omega)).trans hHeld.2⟩) (fun hHeldN => ?_)
    clear hHeld hK K; have hHeld := hHeldN; clear hHeldN
    try simp only [pS]
    refine tkH ?_ opn12 (fun _ _ _ h => h) hHeld ?_ ?_
    rotate_left 1
    · intro wz hSw; (try dsimp only at hSw); go_simp; all_goals with_reducible rfl
    try simp only [pS]
    refine wpAnyH_done (by kernel_rfl) ?_ _
    have HX := hide (hHeld.2.trans (unhide HXV))
    have HQ := hide hQ2
    have HR := hide ((unhide HR1).set hnz hK2)
    have HN := hide ((unhide HN1).setN hNw (Nat.le_of_lt hlV) hK2)
    clear hQ2 hK2 hba HZ HZ1 hHeld HR1 HN1 hW2
    rw [unhide HAT] at HRES
    obtain ⟨⟨x0, x1, x2, x3⟩, ⟨x4, x5, x6⟩, xf⟩ := seven (unhide HX)
    obtain ⟨⟨q0, q1, q2, q3⟩, ⟨q4, q5, q6, q7, q8⟩, qf⟩ := nine (unhide HQ)
    by_cases h3 : xk = 3
    · subst h3
      have hres := (unhide HRES)
      rw [if_pos rfl] at hres
      have HD := hide (deliver_any (unhide HR) ⟨pr, pc, pn, ⟨pk, pa, pb, pt⟩, pd, pu⟩ (unhide HSM))
      dsimp only [APkt.val] at HD
      have HRS := hide hres
      clear hres
      go_wp2_with fail
      refine (unhide HD).mono ?_
      rintro e w4 ⟨rfl, hT⟩
      have hres := unhide HRS
      obtain ⟨o4, r4, n4⟩ := hT
      have HFIN := hide (And.intro r4 ((unhide HN).trans n4))
      clear r4 n4
      go_wp2
      go_ret
      exact ⟨by rw [hres]; rfl, by rw [hres]; exact ⟨_, (unhide HFIN).1, (unhide HFIN).2⟩⟩
    · by_cases h7 : xk = 7
      · subst h7
        have hres := (unhide HRES)
        rw [if_neg (by omega), if_pos rfl] at hres
        have HD := hide (wtear_any (unhide HR) ⟨pr, pc, pn, ⟨pk, pa, pb, pt⟩, pd, pu⟩ (unhide HSM) xp)
        rw [← hres] at HD
        dsimp only [APkt.val] at HD
        clear hres h3
        go_wp2_with fail
        refine (unhide HD).mono ?_
        rintro e w4 ⟨rfl, hT⟩
        obtain ⟨o4, r4, n4⟩ := hT
        have HFIN := hide (And.intro r4 ((unhide HN).trans n4))
        clear r4 n4
        go_wp2
        go_ret
        exact ⟨rfl, _, (unhide HFIN).1, (unhide HFIN).2⟩
      · have hres := (unhide HRES)
        rw [if_neg h3, if_neg h7] at hres
        have h3b : (xk == 3) = false := by simpa using h3
        have h7b : (xk == 7) = false := by simpa using h7
        have HRS := hide hres
        clear hres h3 h7
        go_wp2
        go_ret
        exact ⟨by rw [unhide HRS]; rfl, by rw [unhide HRS]; exact ⟨_, unhide HR, unhide HN⟩⟩
theorem wtake_any {N : Nat} {w : World} {W : Nat} {o : WOwn} {A : AW} (h : WRep N w W o A) (x : AX) :
    Calls Tryz.prog 48 #[.pointer (some ⟨W, 0, none⟩), x.val] w fun e w' => e = .returned (.int .i64 (A.take x).1) ∧ WTurn N w W o w' (A.take x).2 := by
  by_cases h0 : A.ms.length = 0
  · exact wtake_none h x h0
  · exact wtake_some h x h0
set_option maxRecDepth 100000 in
set_option maxHeartbeats 4000000 in
theorem Step_any {N : Nat} {w : World} {W : Nat} {o : WOwn} {A : AW} (h : WRep N w W o A) (x : AX) (hx : SmallC x.call) :
    Calls Tryz.prog 26 #[.pointer (some ⟨W, 0, none⟩), x.val] w fun e w' => e = .returned (.int .i64 (A.step x).1) ∧ WTurn N w W o w' (A.step x).2 := by
  obtain ⟨V, hV⟩ : ∃ V, V = w.alloc (.cells #[.int .i64 x.kind, .int .i64 x.n, .int .i64 x.keep, .int .i64 x.call.kind, .string x.call.name, .string x.call.dst, .string x.call.text] 69) := ⟨_, rfl⟩
  have hBV : Below w.heap.size w V := by rw [hV]; exact (Below.refl _ _).alloc (Nat.le_refl _) _
  have hXV : V.heap[w.heap.size]? = some (.cells #[.int .i64 x.kind, .int .i64 x.n, .int .i64 x.keep, .int .i64 x.call.kind, .string x.call.name, .string x.call.dst, .string x.call.text] 69 (0, 0)) := by rw [hV]; exact heap_alloc_new _ _
  have hlV : w.heap.size < V.heap.size := (Array.getElem?_eq_some_iff.1 hXV).1
  have hrV := h.below hBV
  have HBV := hide hBV
  have HXV := hide hXV
  have HV := hide hV
  have HRES : Hid (A.step x = if x.kind = 1 then A.have x.n x.call else if x.kind = 2 then A.send x.n else if x.kind = 5 then A.dbl x.n else if x.kind = 4 ∨ x.kind = 3 ∨ x.kind = 7 then A.take x else if x.kind = 6 then (0, A) else (1, A)) := rfl
  generalize A.step x = R at HRES ⊢
  have HN := hide h.size
  have HCV := hide (have_any hrV x.n x.call hx)
  have HSD := hide (wsend_any hrV x.n)
  have HDB := hide (double_any hrV x.n)
  have HTK := hide (wtake_any hrV x)
  have HCR := hide (Crash_any hrV.s (by have := h.ss; omega) hrV.size)
  have HTS := hide (fun w' (hT : STurned N V o.S o.own o.lv w' A.log) => hrV.turnS hT h.ss)
  have hsc := h.cells.1.1
  have hWl := h.lt
  have hWn : W ≠ w.heap.size := by omega
  have HT0 := hide (WTurn.of_below hrV (Below.refl _ _))
  obtain ⟨⟨x0, x1, x2, x3⟩, ⟨x4, x5, x6⟩, xf⟩ := seven hXV
  clear h hV hBV hXV hrV hx
  obtain ⟨xk, xn, xp, ⟨ck, ca, cb, ct⟩⟩ := x
  dsimp only [AX.val] at *
  by_cases h1 : xk = 1
  · subst h1
    have hres := unhide HRES
    rw [if_pos rfl] at hres
    rw [← hres] at HCV
    clear hres
    go_enter Tryz.func26, Tryz.ntmps26
    go_wp2_with fail
    rw [← unhide HV]
    refine (unhide HCV).mono ?_
    rintro e w4 ⟨rfl, hT⟩
    have HFIN := hide (hT.before (unhide HBV) (unhide HN))
    clear hT
    go_wp2
    go_ret
    exact ⟨rfl, unhide HFIN⟩
  by_cases h2 : xk = 2
  · subst h2
    clear h1
    have hres := unhide HRES
    rw [if_neg (by omega), if_pos rfl] at hres
    rw [← hres] at HSD
    clear hres
    go_enter Tryz.func26, Tryz.ntmps26
    go_wp2_with fail
    rw [← unhide HV]
    refine (unhide HSD).mono ?_
    rintro e w4 ⟨rfl, hT⟩
    have HFIN := hide (hT.before (unhide HBV) (unhide HN))
    clear hT
    go_wp2
    go_ret
    exact ⟨rfl, unhide HFIN⟩
  by_cases h5 : xk = 5
  · subst h5
    clear h1 h2
    have hres := unhide HRES
    rw [if_neg (by omega), if_neg (by omega), if_pos rfl] at hres
    rw [← hres] at HDB
    clear hres
    go_enter Tryz.func26, Tryz.ntmps26
    go_wp2_with fail
    rw [← unhide HV]
    refine (unhide HDB).mono ?_
    rintro e w4 ⟨rfl, hT⟩
    have HFIN := hide (hT.before (unhide HBV) (unhide HN))
    clear hT
    go_wp2
    go_ret
    exact ⟨rfl, unhide HFIN⟩
  by_cases h4 : xk = 4
  · subst h4
    clear h1 h2 h5
    have hres := unhide HRES
    rw [if_neg (by omega), if_neg (by omega), if_neg (by omega), if_pos (by omega)] at hres
    rw [← hres] at HTK
    clear hres
    go_enter Tryz.func26, Tryz.ntmps26
    go_wp2_with fail
    rw [← unhide HV]
    refine (unhide HTK).mono ?_
    rintro e w4 ⟨rfl, hT⟩
    have HFIN := hide (hT.before (unhide HBV) (unhide HN))
    clear hT
    go_wp2
    go_ret
    exact ⟨rfl, unhide HFIN⟩
  by_cases h3 : xk = 3
  · subst h3
    clear h1 h2 h5 h4
    have hres := unhide HRES
    rw [if_neg (by omega), if_neg (by omega), if_neg (by omega), if_pos (by omega)] at hres
    rw [← hres] at HTK
    clear hres
    go_enter Tryz.func26, Tryz.ntmps26
    go_wp2_with fail
    rw [← unhide HV]
    refine (unhide HTK).mono ?_
    rintro e w4 ⟨rfl, hT⟩
    have HFIN := hide (hT.before (unhide HBV) (unhide HN))
    clear hT
    go_wp2
    go_ret
    exact ⟨rfl, unhide HFIN⟩
  by_cases h7 : xk = 7
  · subst h7
    clear h1 h2 h5 h4 h3
    have hres := unhide HRES
    rw [if_neg (by omega), if_neg (by omega), if_neg (by omega), if_pos (by omega)] at hres
    rw [← hres] at HTK
    clear hres
    go_enter Tryz.func26, Tryz.ntmps26
    go_wp2_with fail
    rw [← unhide HV]
    refine (unhide HTK).mono ?_
    rintro e w4 ⟨rfl, hT⟩
    have HFIN := hide (hT.before (unhide HBV) (unhide HN))
    clear hT
    go_wp2
    go_ret
    exact ⟨rfl, unhide HFIN⟩
  by_cases h6 : xk = 6
  · subst h6
    clear h1 h2 h5 h4 h3 h7
    have hres := unhide HRES
    rw [if_neg (by omega), if_neg (by omega), if_neg (by omega), if_neg (by omega), if_pos rfl] at hres
    have HRS := hide hres
    clear hres
    generalize o.S = S at HCR HTS hsc
    generalize o.own = own at HCR HTS
    generalize o.lv = lv at HCR HTS
    go_enter Tryz.func26, Tryz.ntmps26
    go_wp2_with fail
    rw [← unhide HV]
    refine (unhide HCR).mono ?_
    rintro e w4 ⟨rfl, hT⟩
    have HFIN := hide (((unhide HTS) _ hT).before (unhide HBV) (unhide HN))
    clear hT
    go_wp2
    go_ret
    exact ⟨by rw [unhide HRS]; rfl, by rw [unhide HRS]; exact unhide HFIN⟩
  have hres := unhide HRES
  rw [if_neg h1, if_neg h2, if_neg h5, if_neg (by omega), if_neg h6] at hres
  have HRS := hide hres
  have b1 : (xk == 1) = false := by simpa using h1
  have b2 : (xk == 2) = false := by simpa using h2
  have b5 : (xk == 5) = false := by simpa using h5
  have b4 : (xk == 4) = false := by simpa using h4
  have b3 : (xk == 3) = false := by simpa using h3
  have b7 : (xk == 7) = false := by simpa using h7
  have b6 : (xk == 6) = false := by simpa using h6
  clear hres h1 h2 h5 h4 h3 h7 h6
  go_enter Tryz.func26, Tryz.ntmps26
  go_wp2
  go_ret
  exact ⟨by rw [unhide HRS]; rfl, by rw [unhide HRS, ← unhide HV]; exact (unhide HT0).before (unhide HBV) (unhide HN)⟩
end Go.Proofs.YtmbhbnoifimeaabGreat
