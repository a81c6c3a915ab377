/- The Guest: Ask, Send. -/
import Derived.Test.YtfpommjolbipmabKj
namespace Go.Proofs.Ytfpommjolbipmab
open Go.RowKit
set_option linter.unusedSimpArgs false
set_option linter.unusedVariables false

theorem set6g {w : World} {X : Nat} {t : TypeId} {y0 y1 y2 y3 y4 y5 y6 y7 a1 a2 a3 a4 a5 a6 : Value} (h : w.heap[X]? = some (.cells #[y0, y1, y2, y3, y4, y5, y6, y7] t (0, 0))) :
    ((((((w.setCell ⟨X, 1, none⟩ a1).setCell ⟨X, 2, none⟩ a2).setCell ⟨X, 3, none⟩ a3).setCell ⟨X, 4, none⟩ a4).setCell ⟨X, 5, none⟩ a5).setCell ⟨X, 6, none⟩ a6).heap[X]? = some (.cells #[y0, a1, a2, a3, a4, a5, a6, y7] t (0, 0)) ∧
    Kept [X] w ((((((w.setCell ⟨X, 1, none⟩ a1).setCell ⟨X, 2, none⟩ a2).setCell ⟨X, 3, none⟩ a3).setCell ⟨X, 4, none⟩ a4).setCell ⟨X, 5, none⟩ a5).setCell ⟨X, 6, none⟩ a6) := by
  have k : ∀ (W : World) (o : Nat) (u : Value), Kept [X] W (W.setCell ⟨X, o, none⟩ u) := fun W o u => kept_setCell [X] W X o u (by simp)
  have k0 := Kept.refl [X] w
  have h1 : (w.setCell ⟨X, 1, none⟩ a1).heap[X]? = some (.cells #[y0, a1, y2, y3, y4, y5, y6, y7] t (0, 0)) := heap_setCell_same h a1
  have k1 := k0.trans (k w 1 a1) (fun x hx => .inl hx)
  generalize w.setCell ⟨X, 1, none⟩ a1 = w1 at *
  have h2 : (w1.setCell ⟨X, 2, none⟩ a2).heap[X]? = some (.cells #[y0, a1, a2, y3, y4, y5, y6, y7] t (0, 0)) := heap_setCell_same h1 a2
  have k2 := k1.trans (k w1 2 a2) (fun x hx => .inl hx)
  generalize w1.setCell ⟨X, 2, none⟩ a2 = w2 at *
  have h3 : (w2.setCell ⟨X, 3, none⟩ a3).heap[X]? = some (.cells #[y0, a1, a2, a3, y4, y5, y6, y7] t (0, 0)) := heap_setCell_same h2 a3
  have k3 := k2.trans (k w2 3 a3) (fun x hx => .inl hx)
  generalize w2.setCell ⟨X, 3, none⟩ a3 = w3 at *
  have h4 : (w3.setCell ⟨X, 4, none⟩ a4).heap[X]? = some (.cells #[y0, a1, a2, a3, a4, y5, y6, y7] t (0, 0)) := heap_setCell_same h3 a4
  have k4 := k3.trans (k w3 4 a4) (fun x hx => .inl hx)
  generalize w3.setCell ⟨X, 4, none⟩ a4 = w4 at *
  have h5 : (w4.setCell ⟨X, 5, none⟩ a5).heap[X]? = some (.cells #[y0, a1, a2, a3, a4, a5, y6, y7] t (0, 0)) := heap_setCell_same h4 a5
  have k5 := k4.trans (k w4 5 a5) (fun x hx => .inl hx)
  generalize w4.setCell ⟨X, 5, none⟩ a5 = w5 at *
  have h6 : (w5.setCell ⟨X, 6, none⟩ a6).heap[X]? = some (.cells #[y0, a1, a2, a3, a4, a5, a6, y7] t (0, 0)) := heap_setCell_same h5 a6
  have k6 := k5.trans (k w5 6 a6) (fun x hx => .inl hx)
  generalize w5.setCell ⟨X, 6, none⟩ a6 = w6 at *
  exact ⟨h6, k6⟩

theorem GRep.below {N : Nat} {w w' : World} {X : Nat} {v : Value} {c : ACli} {y : ACall} (h : GRep N w X v c y) (hb : Below w.heap.size w w') : GRep N w' X v c y := ⟨h.o.below hb, h.ok, h.keeps⟩
/-- The call that a Guest keeps behind Ask. -/
def ACli.keepsA (c : ACli) (y x : ACall) : ACall := if c.ask x = 0 then x else y
theorem keepsA_ok {c : ACli} {y x : ACall} (h : c.op = true → y = c.call) : (c.asked x).op = true → c.keepsA y x = (c.asked x).call := by
  unfold ACli.asked ACli.keepsA
  by_cases h0 : c.ask x = 0
  · rw [if_pos h0, if_pos h0]; intro _; rfl
  · rw [if_neg h0, if_neg h0]; exact h

set_option maxRecDepth 100000 in
set_option maxHeartbeats 4000000 in
theorem Ask_any {N : Nat} {w : World} {X : Nat} {v : Value} {c : ACli} {y : ACall} (h : GRep N w X v c y) (x : ACall) (hx : SmallC x) :
    Calls Try.prog 37 #[.pointer (some ⟨X, 0, none⟩), .agg #[.int .i64 x.kind, .string x.name, .string x.dst, .string x.text]] w fun e w' => e = .returned (.int .i64 (c.ask x)) ∧ GTurn N w X v w' (c.asked x) (c.keepsA y x) := by
  obtain ⟨V, hV⟩ : ∃ V, V = w.alloc (.cells #[.int .i64 x.kind, .string x.name, .string x.dst, .string x.text] 29) := ⟨_, rfl⟩
  have hBV : Below w.heap.size w V := by rw [hV]; exact (Below.refl _ _).alloc (Nat.le_refl _) _
  have hXV : V.heap[w.heap.size]? = some (.cells #[.int .i64 x.kind, .string x.name, .string x.dst, .string x.text] 29 (0, 0)) := by rw [hV]; exact heap_alloc_new _ _
  have hrV := h.below hBV
  have HCK := hide (CallFault_any x.kind x.name x.dst x.text V (small_max hx.1) (small_max hx.2.1) (small_max hx.2.2))
  have hce : checkI ⟨x.kind, x.name, x.dst, x.text⟩ = checkI x := rfl
  rw [hce] at HCK
  have hlV : w.heap.size < V.heap.size := (Array.getElem?_eq_some_iff.1 hXV).1
  have hXn : w.heap.size ≠ X := by have := h.o.lt; omega
  have HRV := hide hrV
  have HXV := hide hXV
  have HBV := hide hBV
  have HV := hide hV
  by_cases hck : checkI x = 0
  · cases hop : c.op
    · have hgno : gno c = (c.done.length : Int) := by unfold gno; rw [hop]; rfl
      by_cases hfull : 200 ≤ c.done.length
      · have e1 : c.ask x = 7 := by unfold ACli.ask; rw [if_neg (by simp [hck]), if_neg (by simp [hop]), if_pos hfull]
        have e2 : c.asked x = c := by unfold ACli.asked; rw [e1, if_neg (by omega)]
        have e3 : c.keepsA y x = y := by unfold ACli.keepsA; rw [e1, if_neg (by omega)]
        rw [e1, e2, e3]
        rw [hck] at HCK
        have HT : Hid (∀ w', Below V.heap.size V w' → GTurn N w X v w' c y) := fun w' hb => OTurn.of_below h.o (hBV.trans (hb.mono hBV.size))
        obtain ⟨x0, x1, x2, x3, xf⟩ := four hXV
        have HK : Hid (∀ w', Below V.heap.size V w' → w'.cell? ⟨X, 6, none⟩ = some (.bool false) ∧ w'.cell? ⟨X, 1, none⟩ = some (.int .i64 (c.done.length : Int))) := fun w' hb => by
          obtain ⟨⟨k0, k1, k2, k3⟩, ⟨k4, k5, k6, k7⟩, kf⟩ := eight ((hrV.below hb).o.blk)
          exact ⟨by rw [← hop]; exact k6, by rw [← hgno]; exact k1⟩
        have hfi : (200 : Int) ≤ (c.done.length : Int) := by omega
        generalize c.done.length = n at HK hfi
        clear h hBV hXV hrV hV hck hop hfull e1 e2 e3 hce hgno
        go_enter Try.func37, Try.ntmps37
        go_wp2_with fail
        rw [← unhide HV]
        refine (unhide HCK).mono ?_
        rintro e w1 ⟨rfl, b1⟩
        obtain ⟨k6, k1⟩ := (unhide HK) w1 b1
        go_wp2
        go_ret
        exact ⟨rfl, (unhide HT) _ b1⟩
      · have e1 : c.ask x = 0 := by unfold ACli.ask; rw [if_neg (by simp [hck]), if_neg (by simp [hop]), if_neg hfull]
        have e2 : c.asked x = ⟨c.me, c.done, x, true⟩ := by unfold ACli.asked; rw [e1, if_pos rfl]
        have e3 : c.keepsA y x = x := by unfold ACli.keepsA; rw [e1, if_pos rfl]
        rw [e1, e2, e3]
        rw [hck] at HCK
        have HK : Hid (∀ w', Below V.heap.size V w' → w'.heap[X]? = some (.cells #[.int .i64 c.me, .int .i64 (c.done.length : Int), .int .i64 y.kind, .string y.name, .string y.dst, .string y.text, .bool false, v] 53 (0, 0))) := fun w' hb => by
          have := (hrV.below hb).o.blk
          unfold gcells at this
          rw [hop, hgno] at this
          exact this
        have HXK : Hid (∀ w', Below V.heap.size V w' → w'.heap[w.heap.size]? = some (.cells #[.int .i64 x.kind, .string x.name, .string x.dst, .string x.text] 29 (0, 0))) := fun w' hb => (hb.block _ hlV).trans hXV
        obtain ⟨x0, x1, x2, x3, xf⟩ := four hXV
        have hXl : X < V.heap.size := hrV.o.lt
        have hfi : ¬ (200 : Int) ≤ (c.done.length : Int) := by omega
        clear hBV hXV hrV hV hck hop hfull e1 e2 e3 hce hgno
        have HH := hide h
        clear h
        obtain ⟨me, done, cl, op⟩ := c
        obtain ⟨xk, xa, xb, xt⟩ := x
        obtain ⟨yk, ya, yb, yt⟩ := y
        dsimp only at *
        obtain ⟨n, hn⟩ : ∃ n, done.length = n := ⟨_, rfl⟩
        rw [hn] at HK hfi
        have hwr : IntKind.i64.wrap ((n : Int) + 1) = (n : Int) + 1 := by rw [IntKind.wrap_i64]; omega
        go_enter Try.func37, Try.ntmps37
        go_wp2_with fail
        rw [← unhide HV]
        refine (unhide HCK).mono ?_
        rintro e w1 ⟨rfl, b1⟩
        clear x0 x1 x2 x3 xf
        have HX1 := hide ((unhide HXK) w1 b1)
        have hk1 := (unhide HK) w1 b1
        obtain ⟨⟨k0, k1, k2, k3⟩, ⟨k4, k5, k6, k7⟩, kf⟩ := eight hk1
        obtain ⟨x0, x1, x2, x3, xf⟩ := four (unhide HX1)
        have kf1 := kf 1
        have kf2 := kf 2
        have kf3 := kf 3
        have kf4 := kf 4
        have kf5 := kf 5
        have kf6 := kf 6
        clear kf xf
        obtain ⟨hs1, hs2⟩ := set6g (w := w1) (a1 := .int .i64 ((n : Int) + 1)) (a2 := .int .i64 xk) (a3 := .string xa) (a4 := .string xb) (a5 := .string xt) (a6 := .bool true) hk1
        have hb1 : Below w.heap.size w w1 := (unhide HBV).trans (b1.mono (unhide HBV).size)
        obtain ⟨W9, hW9⟩ : ∃ W, W = ((((((w1.setCell ⟨X, 1, none⟩ (.int .i64 ((n : Int) + 1))).setCell ⟨X, 2, none⟩ (.int .i64 xk)).setCell ⟨X, 3, none⟩ (.string xa)).setCell ⟨X, 4, none⟩ (.string xb)).setCell ⟨X, 5, none⟩ (.string xt)).setCell ⟨X, 6, none⟩ (.bool true)) := ⟨_, rfl⟩
        rw [← hW9] at hs1 hs2
        have hT : GTurn N w X v _ ⟨me, done, ⟨xk, xa, xb, xt⟩, true⟩ ⟨xk, xa, xb, xt⟩ := ((((unhide HH).below hb1).o).reblk (f' := gcells ⟨me, done, ⟨xk, xa, xb, xt⟩, true⟩ ⟨xk, xa, xb, xt⟩) (by unfold gcells gno ACli.no; rw [hn]; exact hs1) hs2).before hb1
        have HT := hide (hT.after (below_drew W9))
        have HW9 := hide hW9
        clear hs1 hs2 hT hk1 hW9
        go_wp2_with fail
        go_region_law (fail)
        all_goals
          rw [← unhide HW9]
          clear k0 k1 k2 k3 k4 k5 k6 k7 kf1 kf2 kf3 kf4 kf5 kf6 x0 x1 x2 x3
          go_wp2
          go_ret
          exact ⟨rfl, unhide HT⟩
    · have e1 : c.ask x = 11 := by unfold ACli.ask; rw [if_neg (by simp [hck]), if_pos hop]
      have e2 : c.asked x = c := by unfold ACli.asked; rw [e1, if_neg (by omega)]
      have e3 : c.keepsA y x = y := by unfold ACli.keepsA; rw [e1, if_neg (by omega)]
      rw [e1, e2, e3]
      rw [hck] at HCK
      have HT : Hid (∀ w', Below V.heap.size V w' → GTurn N w X v w' c y) := fun w' hb => OTurn.of_below h.o (hBV.trans (hb.mono hBV.size))
      obtain ⟨x0, x1, x2, x3, xf⟩ := four hXV
      have HK : Hid (∀ w', Below V.heap.size V w' → w'.cell? ⟨X, 6, none⟩ = some (.bool true)) := fun w' hb => by
        obtain ⟨⟨k0, k1, k2, k3⟩, ⟨k4, k5, k6, k7⟩, kf⟩ := eight ((hrV.below hb).o.blk)
        rw [← hop]; exact k6
      clear h hBV hXV hrV hV hck hop e1 e2 e3 hce
      go_enter Try.func37, Try.ntmps37
      go_wp2_with fail
      rw [← unhide HV]
      refine (unhide HCK).mono ?_
      rintro e w1 ⟨rfl, b1⟩
      have k6 := (unhide HK) w1 b1
      go_wp2
      go_ret
      exact ⟨rfl, (unhide HT) _ b1⟩
  · have e1 : c.ask x = checkI x := by unfold ACli.ask; rw [if_pos hck]
    have e2 : c.asked x = c := by unfold ACli.asked; rw [e1, if_neg hck]
    have e3 : c.keepsA y x = y := by unfold ACli.keepsA; rw [e1, if_neg hck]
    rw [e1, e2, e3]
    have HT : Hid (∀ w', Below V.heap.size V w' → GTurn N w X v w' c y) := fun w' hb => OTurn.of_below h.o (hBV.trans (hb.mono hBV.size))
    obtain ⟨x0, x1, x2, x3, xf⟩ := four hXV
    generalize checkI x = ci at *
    have hcb : (ci != 0) = true := by simpa using hck
    clear h hBV hXV hrV hV hce hck e1 e2 e3
    go_enter Try.func37, Try.ntmps37
    go_wp2_with fail
    rw [← unhide HV]
    refine (unhide HCK).mono ?_
    rintro e w1 ⟨rfl, b1⟩
    go_wp2
    go_ret
    exact ⟨rfl, (unhide HT) _ b1⟩

set_option maxRecDepth 100000 in
set_option maxHeartbeats 4000000 in
theorem GSend_none {N : Nat} {w : World} {X : Nat} {v : Value} {c : ACli} {y : ACall} (h : GRep N w X v c y) (hop : c.op = false) :
    Calls Try.prog 26 #[.pointer (some ⟨X, 0, none⟩)] w fun e w' => e = .returned (.tuple #[zeroPkt.val, .bool false]) ∧ Below w.heap.size w w' := by
  obtain ⟨V, hV⟩ : ∃ V, V = w.alloc (.cells zeroP 33) := ⟨_, rfl⟩
  have hBV : Below w.heap.size w V := by rw [hV]; exact (Below.refl _ _).alloc (Nat.le_refl _) _
  have hYV : V.heap[w.heap.size]? = some (.cells zeroP 33 (0, 0)) := by rw [hV]; exact heap_alloc_new _ _
  obtain ⟨⟨k0, k1, k2, k3⟩, ⟨k4, k5, k6, k7⟩, kf⟩ := eight h.o.blk
  have hXl := h.o.lt
  rw [hop] at k6
  obtain ⟨V5, hV5⟩ : ∃ W, W = V.setRow w.heap.size zeroP := ⟨_, rfl⟩
  have hZ : V5.heap[w.heap.size]? = some (.cells zeroP 33 (0, 0)) := by rw [hV5]; exact setRow_heap V w.heap.size _ _ 33 (0, 0) hYV
  have HB5 : Hid (Below w.heap.size w V5) := by
    rw [hV5]
    exact ⟨hBV.os, hBV.tape, hBV.output, by simp [World.setRow]; exact hBV.size, fun k hk => (setRow_other V w.heap.size k _ (by omega)).trans (hBV.block k hk)⟩
  rw [hV] at hV5 hYV
  dsimp only [zeroP, zeroPkt, APkt.val] at *
  obtain ⟨⟨z0, z1, z2, z3⟩, ⟨z4, z5, z6, z7, z8⟩, _⟩ := nine hZ
  clear h hop hBV hZ hV k0 k1 k2 k3 k4 k5 k7 kf
  go_enter Try.func26, Try.ntmps26
  go_wp2_with (refine wpList_store_row rfl 33 _ _ rfl w.heap.size #[.bool false, .int .i64 0, .int .i64 0, .int .i64 0, .string ⟨#[]⟩, .string ⟨#[]⟩, .string ⟨#[]⟩, .int .i64 0, .string ⟨#[]⟩] rfl rfl 33 _ hYV infoP rfl (by simp [Value.oneCell']) ?_)
  rw [← hV5]
  refine bodyPost_ret (v := .tuple #[.agg #[.bool false, .int .i64 0, .int .i64 0, .int .i64 0, .string ⟨#[]⟩, .string ⟨#[]⟩, .string ⟨#[]⟩, .int .i64 0, .string ⟨#[]⟩], .bool false]) (by simp [results, Try.results26, go_sem, z0, z1, z2, z3, z4, z5, z6, z7, z8]) rfl ⟨rfl, unhide HB5⟩

set_option maxRecDepth 100000 in
set_option maxHeartbeats 4000000 in
theorem GSend_some {N : Nat} {w : World} {X : Nat} {v : Value} {c : ACli} {y : ACall} (h : GRep N w X v c y) (hop : c.op = true) :
    Calls Try.prog 26 #[.pointer (some ⟨X, 0, none⟩)] w fun e w' => e = .returned (.tuple #[(⟨false, c.me, c.no, c.call, 0, ⟨#[]⟩⟩ : APkt).val, .bool true]) ∧ Below w.heap.size w w' := by
  obtain ⟨V, hV⟩ : ∃ V, V = w.alloc (.cells zeroP 33) := ⟨_, rfl⟩
  have hBV : Below w.heap.size w V := by rw [hV]; exact (Below.refl _ _).alloc (Nat.le_refl _) _
  have hYV : V.heap[w.heap.size]? = some (.cells zeroP 33 (0, 0)) := by rw [hV]; exact heap_alloc_new _ _
  have hrV := h.below hBV
  have hgno : gno c = c.no := by unfold gno; rw [hop]; rfl
  have hyc := h.keeps hop
  subst hyc
  obtain ⟨⟨k0, k1, k2, k3⟩, ⟨k4, k5, k6, k7⟩, kf⟩ := eight h.o.blk
  obtain ⟨⟨j0, j1, j2, j3⟩, ⟨j4, j5, j6, j7⟩, jf⟩ := eight hrV.o.blk
  have hXl := h.o.lt
  have hXV : X < V.heap.size := hrV.o.lt
  have hzV : V.heap.size = w.heap.size + 1 := by rw [hV]; simp
  rw [hop] at k6
  rw [hgno] at j1
  obtain ⟨⟨r0, r1, r2, r3⟩, ⟨r4, r5, r6, r7, r8⟩, rf⟩ := nine hYV
  obtain ⟨hs1, hs2⟩ := set9 (w := V) (a0 := .bool false) (a1 := .int .i64 c.me) (a2 := .int .i64 c.no) (a3 := .int .i64 c.call.kind) (a4 := .string c.call.name) (a5 := .string c.call.dst) (a6 := .string c.call.text) (a7 := .int .i64 0) (a8 := .string ⟨#[]⟩) hYV
  have hB5 := hBV.trans (hs2.below (by omega) (by simp))
  obtain ⟨W9, hW9⟩ : ∃ W, W = (((((((((V.setCell ⟨w.heap.size, 0, none⟩ (.bool false)).setCell ⟨w.heap.size, 1, none⟩ (.int .i64 c.me)).setCell ⟨w.heap.size, 2, none⟩ (.int .i64 c.no)).setCell ⟨w.heap.size, 3, none⟩ (.int .i64 c.call.kind)).setCell ⟨w.heap.size, 4, none⟩ (.string c.call.name)).setCell ⟨w.heap.size, 5, none⟩ (.string c.call.dst)).setCell ⟨w.heap.size, 6, none⟩ (.string c.call.text)).setCell ⟨w.heap.size, 7, none⟩ (.int .i64 0)).setCell ⟨w.heap.size, 8, none⟩ (.string ⟨#[]⟩)) := ⟨_, rfl⟩
  rw [← hW9] at hs1 hs2 hB5
  have HB5 := hide hB5.drew
  obtain ⟨⟨z0, z1, z2, z3⟩, ⟨z4, z5, z6, z7, z8⟩, _⟩ := nine hs1
  have hXne : w.heap.size ≠ X := by omega
  have HV := hide hV
  generalize c.no = cno at *
  obtain ⟨me, done, ⟨ck, ca, cb, ct⟩, op⟩ := c
  dsimp only [zeroP, zeroPkt, APkt.val] at *
  have HW9 := hide hW9
  clear h hBV hYV hrV hV hop k0 k1 k2 k3 k4 k5 k7 kf j6 j7 hgno hs1 hs2 hB5 hW9
  go_enter Try.func26, Try.ntmps26
  go_wp2_with fail
  rw [← unhide HV]
  clear k6
  go_region_held3 (fun W => W.cell? ⟨X, 0, none⟩ = some (.int .i64 me) ∧ W.cell? ⟨X, 1, none⟩ = some (.int .i64 cno) ∧ W.cell? ⟨X, 2, none⟩ = some (.int .i64 ck) ∧ W.cell? ⟨X, 3, none⟩ = some (.string ca) ∧ W.cell? ⟨X, 4, none⟩ = some (.string cb) ∧ W.cell? ⟨X, 5, none⟩ = some (.string ct)) (first | (go_keep; done) | (simp [World.cell?_setCell_far, hXne, j0, j1, j2, j3, j4, j5]; done)) (fail)
  all_goals
    rw [← unhide HW9]
    clear r0 r1 r2 r3 r4 r5 r6 r7 r8 rf j0 j1 j2 j3 j4 j5 jf
    go_wp2
    refine bodyPost_ret (v := .tuple #[.agg #[.bool false, .int .i64 me, .int .i64 cno, .int .i64 ck, .string ca, .string cb, .string ct, .int .i64 0, .string ⟨#[]⟩], .bool true]) (by simp [results, Try.results26, go_sem, z0, z1, z2, z3, z4, z5, z6, z7, z8]) rfl ⟨rfl, unhide HB5⟩

theorem GSend_any {N : Nat} {w : World} {X : Nat} {v : Value} {c : ACli} {y : ACall} (h : GRep N w X v c y) :
    Calls Try.prog 26 #[.pointer (some ⟨X, 0, none⟩)] w fun e w' => e = .returned (.tuple #[c.pkt.val, .bool c.op]) ∧ Below w.heap.size w w' := by
  unfold ACli.pkt
  cases hop : c.op
  · exact GSend_none h hop
  · exact GSend_some h hop

end Go.Proofs.Ytfpommjolbipmab
