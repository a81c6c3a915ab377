/- A client: Done. -/
import Derived.Test.YtfpommjolbipmabKi
namespace Go.Proofs.Ytfpommjolbipmab
open Go.RowKit
set_option linter.unusedSimpArgs false
set_option linter.unusedVariables false

theorem six_set {W : World} {b i : Nat} {u2 u3 u4 u5 u6 u7 u : Value} (h : W.cell? ⟨b, 2, none⟩ = some u2 ∧ W.cell? ⟨b, 3, none⟩ = some u3 ∧ W.cell? ⟨b, 4, none⟩ = some u4 ∧ W.cell? ⟨b, 5, none⟩ = some u5 ∧ W.cell? ⟨b, 6, none⟩ = some u6 ∧ W.cell? ⟨b, 7, none⟩ = some u7) (hi : W.cell? ⟨b, i, none⟩ = some u) : (W.setCell ⟨b, i, none⟩ u).cell? ⟨b, 2, none⟩ = some u2 ∧ (W.setCell ⟨b, i, none⟩ u).cell? ⟨b, 3, none⟩ = some u3 ∧ (W.setCell ⟨b, i, none⟩ u).cell? ⟨b, 4, none⟩ = some u4 ∧ (W.setCell ⟨b, i, none⟩ u).cell? ⟨b, 5, none⟩ = some u5 ∧ (W.setCell ⟨b, i, none⟩ u).cell? ⟨b, 6, none⟩ = some u6 ∧ (W.setCell ⟨b, i, none⟩ u).cell? ⟨b, 7, none⟩ = some u7 :=
  ⟨keep_set hi h.1, keep_set hi h.2.1, keep_set hi h.2.2.1, keep_set hi h.2.2.2.1, keep_set hi h.2.2.2.2.1, keep_set hi h.2.2.2.2.2⟩
theorem six_set2 {W : World} {b : Nat} {u2 u3 u4 u5 u6 u7 : Value} (h : W.cell? ⟨b, 2, none⟩ = some u2 ∧ W.cell? ⟨b, 3, none⟩ = some u3 ∧ W.cell? ⟨b, 4, none⟩ = some u4 ∧ W.cell? ⟨b, 5, none⟩ = some u5 ∧ W.cell? ⟨b, 6, none⟩ = some u6 ∧ W.cell? ⟨b, 7, none⟩ = some u7) : (W.setCell ⟨b, 2, none⟩ u2).cell? ⟨b, 2, none⟩ = some u2 ∧ (W.setCell ⟨b, 2, none⟩ u2).cell? ⟨b, 3, none⟩ = some u3 ∧ (W.setCell ⟨b, 2, none⟩ u2).cell? ⟨b, 4, none⟩ = some u4 ∧ (W.setCell ⟨b, 2, none⟩ u2).cell? ⟨b, 5, none⟩ = some u5 ∧ (W.setCell ⟨b, 2, none⟩ u2).cell? ⟨b, 6, none⟩ = some u6 ∧ (W.setCell ⟨b, 2, none⟩ u2).cell? ⟨b, 7, none⟩ = some u7 := six_set h h.1
theorem six_set3 {W : World} {b : Nat} {u2 u3 u4 u5 u6 u7 : Value} (h : W.cell? ⟨b, 2, none⟩ = some u2 ∧ W.cell? ⟨b, 3, none⟩ = some u3 ∧ W.cell? ⟨b, 4, none⟩ = some u4 ∧ W.cell? ⟨b, 5, none⟩ = some u5 ∧ W.cell? ⟨b, 6, none⟩ = some u6 ∧ W.cell? ⟨b, 7, none⟩ = some u7) : (W.setCell ⟨b, 3, none⟩ u3).cell? ⟨b, 2, none⟩ = some u2 ∧ (W.setCell ⟨b, 3, none⟩ u3).cell? ⟨b, 3, none⟩ = some u3 ∧ (W.setCell ⟨b, 3, none⟩ u3).cell? ⟨b, 4, none⟩ = some u4 ∧ (W.setCell ⟨b, 3, none⟩ u3).cell? ⟨b, 5, none⟩ = some u5 ∧ (W.setCell ⟨b, 3, none⟩ u3).cell? ⟨b, 6, none⟩ = some u6 ∧ (W.setCell ⟨b, 3, none⟩ u3).cell? ⟨b, 7, none⟩ = some u7 := six_set h h.2.1
theorem six_set4 {W : World} {b : Nat} {u2 u3 u4 u5 u6 u7 : Value} (h : W.cell? ⟨b, 2, none⟩ = some u2 ∧ W.cell? ⟨b, 3, none⟩ = some u3 ∧ W.cell? ⟨b, 4, none⟩ = some u4 ∧ W.cell? ⟨b, 5, none⟩ = some u5 ∧ W.cell? ⟨b, 6, none⟩ = some u6 ∧ W.cell? ⟨b, 7, none⟩ = some u7) : (W.setCell ⟨b, 4, none⟩ u4).cell? ⟨b, 2, none⟩ = some u2 ∧ (W.setCell ⟨b, 4, none⟩ u4).cell? ⟨b, 3, none⟩ = some u3 ∧ (W.setCell ⟨b, 4, none⟩ u4).cell? ⟨b, 4, none⟩ = some u4 ∧ (W.setCell ⟨b, 4, none⟩ u4).cell? ⟨b, 5, none⟩ = some u5 ∧ (W.setCell ⟨b, 4, none⟩ u4).cell? ⟨b, 6, none⟩ = some u6 ∧ (W.setCell ⟨b, 4, none⟩ u4).cell? ⟨b, 7, none⟩ = some u7 := six_set h h.2.2.1
theorem six_set5 {W : World} {b : Nat} {u2 u3 u4 u5 u6 u7 : Value} (h : W.cell? ⟨b, 2, none⟩ = some u2 ∧ W.cell? ⟨b, 3, none⟩ = some u3 ∧ W.cell? ⟨b, 4, none⟩ = some u4 ∧ W.cell? ⟨b, 5, none⟩ = some u5 ∧ W.cell? ⟨b, 6, none⟩ = some u6 ∧ W.cell? ⟨b, 7, none⟩ = some u7) : (W.setCell ⟨b, 5, none⟩ u5).cell? ⟨b, 2, none⟩ = some u2 ∧ (W.setCell ⟨b, 5, none⟩ u5).cell? ⟨b, 3, none⟩ = some u3 ∧ (W.setCell ⟨b, 5, none⟩ u5).cell? ⟨b, 4, none⟩ = some u4 ∧ (W.setCell ⟨b, 5, none⟩ u5).cell? ⟨b, 5, none⟩ = some u5 ∧ (W.setCell ⟨b, 5, none⟩ u5).cell? ⟨b, 6, none⟩ = some u6 ∧ (W.setCell ⟨b, 5, none⟩ u5).cell? ⟨b, 7, none⟩ = some u7 := six_set h h.2.2.2.1
theorem six_set6 {W : World} {b : Nat} {u2 u3 u4 u5 u6 u7 : Value} (h : W.cell? ⟨b, 2, none⟩ = some u2 ∧ W.cell? ⟨b, 3, none⟩ = some u3 ∧ W.cell? ⟨b, 4, none⟩ = some u4 ∧ W.cell? ⟨b, 5, none⟩ = some u5 ∧ W.cell? ⟨b, 6, none⟩ = some u6 ∧ W.cell? ⟨b, 7, none⟩ = some u7) : (W.setCell ⟨b, 6, none⟩ u6).cell? ⟨b, 2, none⟩ = some u2 ∧ (W.setCell ⟨b, 6, none⟩ u6).cell? ⟨b, 3, none⟩ = some u3 ∧ (W.setCell ⟨b, 6, none⟩ u6).cell? ⟨b, 4, none⟩ = some u4 ∧ (W.setCell ⟨b, 6, none⟩ u6).cell? ⟨b, 5, none⟩ = some u5 ∧ (W.setCell ⟨b, 6, none⟩ u6).cell? ⟨b, 6, none⟩ = some u6 ∧ (W.setCell ⟨b, 6, none⟩ u6).cell? ⟨b, 7, none⟩ = some u7 := six_set h h.2.2.2.2.1
theorem six_set7 {W : World} {b : Nat} {u2 u3 u4 u5 u6 u7 : Value} (h : W.cell? ⟨b, 2, none⟩ = some u2 ∧ W.cell? ⟨b, 3, none⟩ = some u3 ∧ W.cell? ⟨b, 4, none⟩ = some u4 ∧ W.cell? ⟨b, 5, none⟩ = some u5 ∧ W.cell? ⟨b, 6, none⟩ = some u6 ∧ W.cell? ⟨b, 7, none⟩ = some u7) : (W.setCell ⟨b, 7, none⟩ u7).cell? ⟨b, 2, none⟩ = some u2 ∧ (W.setCell ⟨b, 7, none⟩ u7).cell? ⟨b, 3, none⟩ = some u3 ∧ (W.setCell ⟨b, 7, none⟩ u7).cell? ⟨b, 4, none⟩ = some u4 ∧ (W.setCell ⟨b, 7, none⟩ u7).cell? ⟨b, 5, none⟩ = some u5 ∧ (W.setCell ⟨b, 7, none⟩ u7).cell? ⟨b, 6, none⟩ = some u6 ∧ (W.setCell ⟨b, 7, none⟩ u7).cell? ⟨b, 7, none⟩ = some u7 := six_set h h.2.2.2.2.2

theorem rtake_snoc (rs : List ARec) (k : Nat) (r : ARec) (h : rs[k]? = some r) : (rs.take (k + 1)).flatMap rcells = (rs.take k).flatMap rcells ++ rcells r := by
  rw [List.take_add_one, h]
  simp

set_option maxRecDepth 100000 in
set_option maxHeartbeats 4000000 in
theorem Done_any {N : Nat} {w : World} {X : Nat} {v : Value} {c : ACli} (h : KRep N w X v c) {n : Nat} (hn : c.done.length = n) :
    Calls Try.prog 28 #[.pointer (some ⟨X, 0, none⟩)] w fun e w' => ∃ g cap, e = .returned (.slice (some ⟨g, 0, none⟩) n cap) ∧ w'.ownsRow w.heap.size 63 8 (.slice (some ⟨g, 0, none⟩) n cap) n (c.done.flatMap rcells) ∧ Below w.heap.size w w' := by
  obtain ⟨i0, hi0, hz0, hz1, hz2⟩ := info_parts info63
  have hlen : n ≤ 200 := by rw [← hn]; exact h.ok.few
  have hB : X < w.heap.size := h.o.lt
  obtain ⟨⟨y0, hc, y2, y3⟩, ⟨y4, y5, y6⟩, yf⟩ := seven h.o.blk
  obtain ⟨a, cap, rfl⟩ := h.o.form
  rw [hn] at hc
  have HP := hide (recs_row h.o.row rfl)
  rw [hn] at HP
  have HSM := hide h.ok.small
  have HN := hide hn
  obtain ⟨me, done, cl, op⟩ := c
  dsimp only at *
  clear h hn y0 y2 y3 y4 y5 y6 yf
  go_enter Try.func28, Try.ntmps28
  go_wp2_with (refine wpList_make_own _ rfl _ _ 51 rfl w.heap.size 63 i0 _ 8 Try.underlying51 hi0 hz0 hz1 .i64 .i64 (n : Int) n rfl rfl rfl (by rw [hz2]; omega) (by unfold maxLen; omega) (Nat.le_refl _) ?_)
  intro w0 hown0 hgr0
  have b0 : Below w.heap.size w w0 := (Below.refl _ _).grown hgr0 (Nat.le_refl _) (by simp)
  have hc0 := (b0.cell (p := ⟨X, 1, none⟩) hB).trans hc
  have HO0 := hide hown0
  have HB0 := hide b0
  clear hc hown0 b0 hgr0
  go_wp2
  go_loopw [3, 5, 17] (fun nv _ i wr => ∃ k : Nat, k ≤ n ∧ i = .int .i64 k ∧ Hid (Below w.heap.size w wr) ∧ Hid (∃ g c, nv = .slice (some ⟨g, 0, none⟩) k c) ∧ Hid (wr.ownsRow w.heap.size 63 8 nv k ((done.take k).flatMap rcells))) (fun _ _ i _ => n - (intOf i).toNat)
  case atStart => exact ⟨0, Nat.zero_le _, rfl, unhide HB0, ⟨_, _, rfl⟩, (by simpa using unhide HO0 : w0.ownsRow w.heap.size 63 8 (Value.slice (some ⟨w.heap.size, 0, none⟩) 0 n) 0 ((done.take 0).flatMap rcells))⟩
  case round =>
    obtain ⟨k, hk, rfl, HB, ⟨g1, c1, rfl⟩, HO⟩ := hrel
    by_cases hlt : (k : Int) < (n : Int)
    · obtain ⟨x, hx⟩ : ∃ x, done[k]? = some x := ⟨_, List.getElem?_eq_getElem (by rw [unhide HN]; omega)⟩
      obtain ⟨g, off, rfl, hcx⟩ := ((unhide HP).below (unhide HB)).2 (by omega)
      obtain ⟨x0, x1, x2, x3, x4, x5, x6, x7⟩ := hcx k x hx
      have hgz : g < wr.heap.size := (hcx k x hx).lt
      have HX := hide hx
      have hwz := (unhide HB).size
      have hsm := (unhide HSM) x (List.mem_of_getElem? hx)
      have HCC := hide (fun W => cloneCall_any x.call W hsm.1)
      have HCA := hide (fun W => cloneAnswer_any x.code x.ans W hsm.2)
      obtain ⟨xc, xn, ⟨ck, ca, cb, ct⟩, d, u⟩ := x
      dsimp only at *
      obtain ⟨V, hV⟩ : ∃ V, V = wr.alloc (.cells #[.int .i64 xc, .int .i64 xn, .int .i64 ck, .string ca, .string cb, .string ct, .int .i64 d, .string u] 63) := ⟨_, rfl⟩
      have hBV : Below wr.heap.size wr V := by rw [hV]; exact (Below.refl _ _).alloc (Nat.le_refl _) _
      have hRV : V.heap[wr.heap.size]? = some (.cells #[.int .i64 xc, .int .i64 xn, .int .i64 ck, .string ca, .string cb, .string ct, .int .i64 d, .string u] 63 (0, 0)) := by rw [hV]; exact heap_alloc_new _ _
      have hzV : V.heap.size = wr.heap.size + 1 := by rw [hV]; simp
      have HOW := hide ((unhide HO).alloc (.cells #[.int .i64 xc, .int .i64 xn, .int .i64 ck, .string ca, .string cb, .string ct, .int .i64 d, .string u] 63))
      rw [← hV] at HOW
      have HF : Hid (∀ W, Below V.heap.size V W → W.heap[wr.heap.size]? = some (.cells #[.int .i64 xc, .int .i64 xn, .int .i64 ck, .string ca, .string cb, .string ct, .int .i64 d, .string u] 63 (0, 0))) := fun W hW => (hW.block _ (by omega)).trans hRV
      have HBV : Hid (Below w.heap.size w V) := (unhide HB).trans (hBV.mono hwz)
      have HV := hide hV
      clear hx hcx hsm hBV hRV hV
      go_wp2_with fail
      rw [← unhide HV]
      clear x0 x1 x2 x3 x4 x5 x6 x7
      obtain ⟨⟨z0, z1, z2, z3⟩, ⟨z4, z5, z6, z7⟩, zf⟩ := eight ((unhide HF) V (Below.refl _ _))
      go_region_held3 (fun W => W.cell? ⟨wr.heap.size, 2, none⟩ = some (.int .i64 ck) ∧ W.cell? ⟨wr.heap.size, 3, none⟩ = some (.string ca) ∧ W.cell? ⟨wr.heap.size, 4, none⟩ = some (.string cb) ∧ W.cell? ⟨wr.heap.size, 5, none⟩ = some (.string ct) ∧ W.cell? ⟨wr.heap.size, 6, none⟩ = some (.int .i64 d) ∧ W.cell? ⟨wr.heap.size, 7, none⟩ = some (.string u)) (first | (with_reducible exact six_set7 (six_set6 (by assumption))) | (with_reducible exact six_set5 (six_set4 (six_set3 (six_set2 (by assumption))))) | (go_keep; done)) (first
        | (go_at_call 40; refine ((unhide HCC) _).mono ?_; rintro e w2 ⟨rfl, b2⟩; have bV2 := (below_drew V).trans b2; obtain ⟨⟨p0, p1, p2, p3⟩, ⟨p4, p5, p6, p7⟩, pf⟩ := eight ((unhide HF) w2 bV2))
        | (go_at_call 41; refine ((unhide HCA) _).mono ?_; rintro e w3 ⟨rfl, b3⟩; have bV3 := bV2.trans (b3.mono bV2.size); obtain ⟨⟨q0, q1, q2, q3⟩, ⟨q4, q5, q6, q7⟩, qf⟩ := eight ((unhide HF) w3 bV3)))
      all_goals
        have hR3 := (unhide HF) w3 bV3
        have hz3 := bV3.size
        have hR4 := (set_same (j := 7) (x := .string u) (set_same (j := 6) (x := .int .i64 d) (set_same (j := 5) (x := .string ct) (set_same (j := 4) (x := .string cb) (set_same (j := 3) (x := .string ca) (set_same (j := 2) (x := .int .i64 ck) hR3 rfl) rfl) rfl) rfl) rfl) rfl)
        have hB4 : Below w.heap.size w ((((((w3.setCell ⟨wr.heap.size, 2, none⟩ (.int .i64 ck)).setCell ⟨wr.heap.size, 3, none⟩ (.string ca)).setCell ⟨wr.heap.size, 4, none⟩ (.string cb)).setCell ⟨wr.heap.size, 5, none⟩ (.string ct)).setCell ⟨wr.heap.size, 6, none⟩ (.int .i64 d)).setCell ⟨wr.heap.size, 7, none⟩ (.string u)) := (below_set (below_set (below_set (below_set (below_set (below_set ((unhide HBV).trans (bV3.mono (unhide HBV).size)) (by omega)) (by omega)) (by omega)) (by omega)) (by omega)) (by omega))
        have hO4 : ((((((w3.setCell ⟨wr.heap.size, 2, none⟩ (.int .i64 ck)).setCell ⟨wr.heap.size, 3, none⟩ (.string ca)).setCell ⟨wr.heap.size, 4, none⟩ (.string cb)).setCell ⟨wr.heap.size, 5, none⟩ (.string ct)).setCell ⟨wr.heap.size, 6, none⟩ (.int .i64 d)).setCell ⟨wr.heap.size, 7, none⟩ (.string u)).ownsRow w.heap.size 63 8 (.slice (some ⟨g1, 0, none⟩) k c1) k ((done.take k).flatMap rcells) := by
          have hgne : g1 ≠ wr.heap.size := by have := ((unhide HO).lt g1 rfl).2; omega
          have hgl := ((unhide HOW).lt g1 rfl).2
          refine ownsRow_same (unhide HOW) (fun j hj => ?_)
          have : j = g1 := by simpa [Value.ownBlock] using hj.symm
          subst this
          rw [Below.heap_setCell _ _ _ _ (by simp; omega), Below.heap_setCell _ _ _ _ (by simp; omega), Below.heap_setCell _ _ _ _ (by simp; omega), Below.heap_setCell _ _ _ _ (by simp; omega), Below.heap_setCell _ _ _ _ (by simp; omega), Below.heap_setCell _ _ _ _ (by simp; omega)]
          exact bV3.block j hgl
        obtain ⟨W4, hW4⟩ : ∃ W4, W4 = ((((((w3.setCell ⟨wr.heap.size, 2, none⟩ (.int .i64 ck)).setCell ⟨wr.heap.size, 3, none⟩ (.string ca)).setCell ⟨wr.heap.size, 4, none⟩ (.string cb)).setCell ⟨wr.heap.size, 5, none⟩ (.string ct)).setCell ⟨wr.heap.size, 6, none⟩ (.int .i64 d)).setCell ⟨wr.heap.size, 7, none⟩ (.string u)) := ⟨_, rfl⟩
        rw [← hW4] at hR4 hB4 hO4
        rw [← hW4]
        obtain ⟨⟨m0, m1, m2, m3⟩, ⟨m4, m5, m6, m7⟩, mf⟩ := eight hR4
        have HO4 := hide hO4
        have HB4 := hide hB4
        have hz4 := hB4.size
        clear hR3 hR4 hO4 hB4 hW4 p0 p1 p2 p3 p4 p5 p6 p7 pf q0 q1 q2 q3 q4 q5 q6 q7 qf z0 z1 z2 z3 z4 z5 z6 z7 zf b2 b3 bV2 bV3
        go_wp2_with (first
          | (at_builtin; refine wpList_append_lies _ rfl _ _ 51 rfl w.heap.size 63 i0 _ 8 96 Try.underlying51 hi0 hz0 hz1 hz2 rfl (by omega) (.slice (some ⟨g1, 0, none⟩) k c1) k ((done.take k).flatMap rcells) rfl ((unhide HO4).alloc _) ⟨W4.heap.size, 0, none⟩ 1 1 [.int .i64 xc, .int .i64 xn, .int .i64 ck, .string ca, .string cb, .string ct, .int .i64 d, .string u] rfl rfl (World.news_of_block (cs := #[.int .i64 xc, .int .i64 xn, .int .i64 ck, .string ca, .string cb, .string ct, .int .i64 d, .string u]) (t := 63) (fr := (0, 0)) (heap_alloc_new W4 _)) (by simp [Value.oneCell']) (by omega) (by unfold maxLen; omega) (by omega) (by simp; omega) (W4.heap.size + 1) (by simp) ?_; intro g2 c2 w5 hown2 hgrow hat hlt2))
        go_roundw
        case rel =>
          refine ⟨k + 1, by omega, by go_num, ?_, ⟨_, _, rfl⟩, ?_⟩
          · refine ((unhide HB4).alloc hz4 _).grown hgrow (by simp; omega) ?_
            intro j hj
            exact ((unhide HO).lt j hj).1
          · show w5.ownsRow _ _ _ _ _ _
            rw [rtake_snoc done k _ (unhide HX)]
            exact hown2
        case measure => simp [intOf]; omega
    · obtain rfl : k = n := by omega
      have hown := unhide HO
      rw [List.take_of_length_le (by rw [unhide HN]; omega)] at hown
      have HO' := hide hown
      clear hown
      go_wp2
      go_ret
      exact ⟨g1, c1, rfl, unhide HO', unhide HB⟩

end Go.Proofs.Ytfpommjolbipmab
