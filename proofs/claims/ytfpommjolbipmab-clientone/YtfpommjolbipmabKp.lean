/- clientStep: the answer to what it sends; clientStep, whole. -/
import Derived.Test.YtfpommjolbipmabKo
namespace Go.Proofs.Ytfpommjolbipmab
open Go.RowKit
set_option linter.unusedSimpArgs false
set_option linter.unusedVariables false

set_option maxRecDepth 100000 in
set_option maxHeartbeats 8000000 in
theorem step_ask {N : Nat} {w : World} {X Y : Nat} {v u : Value} {c : ACli} {y : ACall} (h : KG N w X v c Y u c y) (s : AKStep) (hs : SmallK s) (ha : s.act = 2) :
    Calls Try.prog 23 #[.pointer (some ⟨X, 0, none⟩), .pointer (some ⟨Y, 0, none⟩), s.val] w (StepOk N w (kown X v Y u) X Y (c.step s)) := by
  obtain ⟨V, hV⟩ : ∃ V, V = w.alloc (.cells (kxcells s).toArray 56) := ⟨_, rfl⟩
  have hBV : Below w.heap.size w V := by rw [hV]; exact (Below.refl _ _).alloc (Nat.le_refl _) _
  have hXV : V.heap[w.heap.size]? = some (.cells (kxcells s).toArray 56 (0, 0)) := by rw [hV]; exact heap_alloc_new _ _
  have hzV : V.heap.size = w.heap.size + 1 := by rw [hV]; simp
  have hno : w.heap.size ∉ kown X v Y u := fun hm => by have := (h.ge _ hm).2; omega
  have hHV := h.below hBV
  have hst : c.step s = c.heard (c.reply s) := by unfold ACli.step; rw [ha]; rfl
  rw [hst]
  have HOK : Hid (COk (c.heard (c.reply s))) := h.k.ok.heard (reply_small h.k.ok hs)
  have HKP := hide h.g.keeps
  have HSM := hide (reply_small h.k.ok hs)
  have HS1 := hide (Send_any hHV.k)
  have HS2 : Hid (∀ W, Below V.heap.size V W → Calls Try.prog 26 #[.pointer (some ⟨Y, 0, none⟩)] W fun e w' => e = .returned (.tuple #[c.pkt.val, .bool c.op]) ∧ Below W.heap.size W w') := fun W hW => GSend_any (hHV.below hW).g
  have HHV := hide hHV
  have HV := hide hV
  have HBV := hide hBV
  have HNO := hide hno
  have hpr : c.reply s = ⟨true, c.pkt.client, c.pkt.no, c.pkt.call, s.d, s.u⟩ := rfl
  have eP := fun W => neqP c.pkt c.pkt W
  rw [pktB_self] at eP
  rw [hpr] at HOK HSM ⊢
  clear hpr hst
  generalize c.pkt = m at *
  obtain ⟨op, hop⟩ : ∃ b, c.op = b := ⟨_, rfl⟩
  rw [hop] at HS1 HS2
  obtain ⟨mr, mc, mn, ⟨mk, m1, m2, m3⟩, md, mu⟩ := m
  obtain ⟨act, ⟨ck, ca, cb, ct⟩, ⟨r, pc, pn, ⟨pk, s1, s2, s3⟩, d, u2⟩, ad, au⟩ := s
  dsimp only at ha
  subst ha
  dsimp only [AKStep.val, kxcells, APkt.val, Bool.not_true] at *
  have HXV := hide hXV
  obtain ⟨e0, _, _, _, _, _, _, _, _, _, _, _, _, _, _, _⟩ := KStepAt.blk (x := ⟨2, ⟨ck, ca, cb, ct⟩, ⟨r, pc, pn, ⟨pk, s1, s2, s3⟩, d, u2⟩, ad, au⟩) hXV
  clear h hBV hXV hV hHV hno hs hop
  go_enter Try.func23, Try.ntmps23
  go_wp2_with fail
  rw [← unhide HV]
  refine (unhide HS1).mono ?_
  rintro e w1 ⟨rfl, b1⟩
  obtain ⟨W1, hW1⟩ : ∃ W, W = w1.alloc (.cells #[.bool mr, .int .i64 mc, .int .i64 mn, .int .i64 mk, .string m1, .string m2, .string m3, .int .i64 md, .string mu] 33) := ⟨_, rfl⟩
  have hB1 : Below V.heap.size V W1 := by rw [hW1]; exact b1.alloc b1.size _
  have hP1 : W1.heap[w1.heap.size]? = some (.cells #[.bool mr, .int .i64 mc, .int .i64 mn, .int .i64 mk, .string m1, .string m2, .string m3, .int .i64 md, .string mu] 33 (0, 0)) := by rw [hW1]; exact heap_alloc_new _ _
  have hz1 : V.heap.size ≤ w1.heap.size := b1.size
  have HB1 := hide hB1
  have HP1 := hide hP1
  have HW1 := hide hW1
  have hl1 : w1.heap.size < W1.heap.size := (Array.getElem?_eq_some_iff.1 hP1).1
  clear b1 hB1 hP1 hW1 e0
  go_wp2_with fail
  rw [← unhide HW1]
  refine ((unhide HS2) _ (unhide HB1)).mono ?_
  rintro e w2 ⟨rfl, b2⟩
  have hP2 := (b2.block _ hl1).trans (unhide HP1)
  have hX2 := (((unhide HB1).trans (b2.mono (unhide HB1).size)).block w.heap.size (by omega)).trans (unhide HXV)
  have hz2 := b2.size
  have hl2 : w1.heap.size < w2.heap.size := by omega
  have hlx2 : w.heap.size < w2.heap.size := by omega
  obtain ⟨⟨p0, p1, p2, p3⟩, ⟨p4, p5, p6, p7, p8⟩, pf⟩ := nine hP2
  obtain ⟨W2, hW2⟩ : ∃ W, W = w2.alloc (.cells #[.bool mr, .int .i64 mc, .int .i64 mn, .int .i64 mk, .string m1, .string m2, .string m3, .int .i64 md, .string mu] 33) := ⟨_, rfl⟩
  have hB2 : Below V.heap.size V W2 := by rw [hW2]; exact ((unhide HB1).trans (b2.mono (unhide HB1).size)).alloc (by omega) _
  have hP3 : W2.heap[w1.heap.size]? = some (.cells #[.bool mr, .int .i64 mc, .int .i64 mn, .int .i64 mk, .string m1, .string m2, .string m3, .int .i64 md, .string mu] 33 (0, 0)) := by rw [hW2, Below.heap_alloc _ _ _ hl2]; exact hP2
  have hX3 : W2.heap[w.heap.size]? = some (.cells #[.int .i64 2, .int .i64 ck, .string ca, .string cb, .string ct, .bool r, .int .i64 pc, .int .i64 pn, .int .i64 pk, .string s1, .string s2, .string s3, .int .i64 d, .string u2, .int .i64 ad, .string au] 56 (0, 0)) := by rw [hW2, Below.heap_alloc _ _ _ hlx2]; exact hX2
  have HB2 := hide hB2
  have HP3 := hide hP3
  have HX3 := hide hX3
  have HW2 := hide hW2
  have hzW2 : W2.heap.size = w2.heap.size + 1 := by rw [hW2]; simp
  clear b2 hB2 hP2 hP3 hX2 hX3 hW2
  go_wp2_with fail
  rw [← unhide HW2]
  clear p0 p1 p2 p3 p4 p5 p6 p7 p8 pf
  obtain ⟨⟨p0, p1, p2, p3⟩, ⟨p4, p5, p6, p7, p8⟩, pf⟩ := nine (unhide HP3)
  obtain ⟨_, _, _, _, _, _, _, _, _, _, _, _, _, _, e14, e15⟩ := KStepAt.blk (x := ⟨2, ⟨ck, ca, cb, ct⟩, ⟨r, pc, pn, ⟨pk, s1, s2, s3⟩, d, u2⟩, ad, au⟩) (unhide HX3)
  simp only [Nat.zero_add] at e14 e15
  have pf0 := pf 0
  have pf7 := pf 7
  have pf8 := pf 8
  have hne : w1.heap.size ≠ w.heap.size := by omega
  clear pf
  go_region_held3 (fun W => W.cell? ⟨w.heap.size, 14, none⟩ = some (.int .i64 ad) ∧ W.cell? ⟨w.heap.size, 15, none⟩ = some (.string au)) (first | (go_keep; done) | (simp [World.cell?_setCell_far, hne, e14, e15]; done)) (fail)
  all_goals
    have hs1 : ((W2.setCell ⟨w1.heap.size, 0, none⟩ (.bool true)).setCell ⟨w1.heap.size, 7, none⟩ (.int .i64 ad)).heap[w1.heap.size]? = some (.cells #[.bool true, .int .i64 mc, .int .i64 mn, .int .i64 mk, .string m1, .string m2, .string m3, .int .i64 ad, .string mu] 33 (0, 0)) := heap_setCell_same (heap_setCell_same (unhide HP3) _) _
    have hs2 : (((W2.setCell ⟨w1.heap.size, 0, none⟩ (.bool true)).setCell ⟨w1.heap.size, 7, none⟩ (.int .i64 ad)).setCell ⟨w1.heap.size, 8, none⟩ (.string au)).heap[w1.heap.size]? = some (.cells #[.bool true, .int .i64 mc, .int .i64 mn, .int .i64 mk, .string m1, .string m2, .string m3, .int .i64 ad, .string au] 33 (0, 0)) := heap_setCell_same hs1 _
    have hs3 : Below V.heap.size V (((W2.setCell ⟨w1.heap.size, 0, none⟩ (.bool true)).setCell ⟨w1.heap.size, 7, none⟩ (.int .i64 ad)).setCell ⟨w1.heap.size, 8, none⟩ (.string au)) := below_set (below_set (below_set (unhide HB2) hz1) hz1) hz1
    obtain ⟨W3, hW3⟩ : ∃ W, W = (((W2.setCell ⟨w1.heap.size, 0, none⟩ (.bool true)).setCell ⟨w1.heap.size, 7, none⟩ (.int .i64 ad)).setCell ⟨w1.heap.size, 8, none⟩ (.string au)).drew := ⟨_, rfl⟩
    have hP4 : W3.drew.heap[w1.heap.size]? = some (.cells #[.bool true, .int .i64 mc, .int .i64 mn, .int .i64 mk, .string m1, .string m2, .string m3, .int .i64 ad, .string au] 33 (0, 0)) := by rw [hW3]; exact hs2
    have hB4 : Below V.heap.size V W3.drew := by rw [hW3]; exact hs3.drew.drew
    rw [← hW3]
    have hH4 := (unhide HHV).below hB4
    have HC1 := hide (Hear_any hH4.k ⟨true, mc, mn, ⟨mk, m1, m2, m3⟩, ad, au⟩ (unhide HSM))
    have HNP : Hid (w1.heap.size ∉ kown X v Y u) := fun hm => by have := ((unhide HHV).ge _ hm).2; omega
    have hl4 : w1.heap.size < W3.drew.heap.size := (Array.getElem?_eq_some_iff.1 hP4).1
    have HH4 := hide hH4
    have HP4 := hide hP4
    have HB4 := hide ((unhide HBV).trans (hB4.mono (unhide HBV).size))
    dsimp only [APkt.val] at HC1
    clear hs1 hs2 hs3 hW3 hP4 hB4 hH4 p0 p1 p2 p3 p4 p5 p6 p7 p8 pf0 pf7 pf8 e14 e15
    go_wp2_with fail
    refine wp_region_held_drew (S := (fun wx => wx.heap[w1.heap.size]? = some (.cells #[.bool true, .int .i64 mc, .int .i64 mn, .int .i64 mk, .string m1, .string m2, .string m3, .int .i64 ad, .string au] 33 (0, 0)))) (by kernel_rfl) (unhide HP4) (fun hHeld => ?_)
    refine wpAnyH_take (i := 0) (v := ?_) opn0 (by kernel_rfl) (by kernel_rfl) (by kernel_rfl) (fun _ _ _ h => h) (Or.inl ⟨by rfl, ?_⟩) (by assumption) ?_
    rotate_left 1
    · intro wz hSw
      try dsimp only at hSw
      go_simp
      all_goals with_reducible rfl
    try simp only [Act.put, List.setIfInBounds_toArray, List.set_cons_zero, List.set_cons_succ]
    refine wpAnyH_take (i := 1) (v := ?_) opn1 (by kernel_rfl) (by kernel_rfl) (by kernel_rfl) (fun _ _ _ h => h) (Or.inl ⟨by rfl, ?_⟩) (by assumption) ?_
    rotate_left 1
    · intro wz hSw
      try dsimp only at hSw
      obtain ⟨⟨e0, e1, e2, e3⟩, ⟨e4, e5, e6, e7, e8⟩, _⟩ := nine hSw
      go_simp
      all_goals with_reducible rfl
    try simp only [Act.put, List.setIfInBounds_toArray, List.set_cons_zero, List.set_cons_succ]
    refine wpAnyH_take (i := 3) (v := ?_) opn3 (by kernel_rfl) (by kernel_rfl) (by kernel_rfl) (fun _ _ _ h => h) (Or.inl ⟨by rfl, ?_⟩) (by assumption) ?_
    rotate_left 1
    · intro wz hSw
      try dsimp only at hSw
      go_simp
      all_goals with_reducible rfl
    try simp only [Act.put, List.setIfInBounds_toArray, List.set_cons_zero, List.set_cons_succ]
    refine wpAnyH_take (i := 4) (v := ?_) opn4 (by kernel_rfl) (by kernel_rfl) (by kernel_rfl) (fun _ _ _ h => h) (Or.inl ⟨by rfl, ?_⟩) (by assumption) ?_
    rotate_left 1
    · intro wz hSw
      try dsimp only at hSw
      obtain ⟨⟨e0, e1, e2, e3⟩, ⟨e4, e5, e6, e7, e8⟩, _⟩ := nine hSw
      go_simp
      all_goals with_reducible rfl
    try simp only [Act.put, List.setIfInBounds_toArray, List.set_cons_zero, List.set_cons_succ]
    refine wpAnyH_ready (rs := [2]) (by kernel_rfl) (by simp) ?_
    refine AllReadyH.cons opn2 (fun K hK => ?_) AllReadyH.nil
    go_simp
    refine (unhide HC1).mono ?_
    rintro e w3 ⟨rfl, hT1⟩
    have hG1 := (unhide HH4).turnK hT1 (unhide HOK)
    have hx1 := (hG1.blk hl4 (unhide HNP)).trans (unhide HP4)
    obtain ⟨v1, u1, h1, hk1, hn1⟩ := hG1
    have HC2 := hide (GHear_any h1.g ⟨true, mc, mn, ⟨mk, m1, m2, m3⟩, ad, au⟩ (unhide HSM))
    dsimp only [APkt.val] at HC2
    have H1 := hide h1
    have HK1 := hide hk1
    have HN1 := hide hn1
    clear hT1 h1 hk1 hn1
    refine hK.out _ _ hx1 (fun hHeldN => ?_)
    clear hHeld hK K
    have hHeld := hHeldN
    clear hHeldN
    try simp only [Act.put, List.setIfInBounds_toArray, List.set_cons_zero, List.set_cons_succ]
    refine wpAnyH_ready (rs := [5]) (by kernel_rfl) (by simp) ?_
    refine AllReadyH.cons opn5 (fun K hK => ?_) AllReadyH.nil
    go_simp
    refine (unhide HC2).mono ?_
    rintro e w4 ⟨rfl, hT2⟩
    have hG2 := (unhide H1).turnG hT2 (unhide HOK) (heard_keeps (unhide HKP))
    have hG3 := KGT.trans (unhide HK1) (unhide HN1) hG2
    have hx2 := (hG3.blk hl4 (unhide HNP)).trans (unhide HP4)
    have HG3 := hide (hG3.before (unhide HB4))
    clear hT2 hG2 hG3
    refine hK.out _ _ hx2 (fun hHeldN => ?_)
    clear hHeld hK K
    have hHeld := hHeldN
    clear hHeldN
    try simp only [Act.put, List.setIfInBounds_toArray, List.set_cons_zero, List.set_cons_succ]
    refine wpAnyH_take (i := 6) (v := ?_) opn6 (by kernel_rfl) (by kernel_rfl) (by kernel_rfl) (fun _ _ _ h => h) (Or.inl ⟨by rfl, ?_⟩) (by assumption) ?_
    rotate_left 1
    · intro wz hSw
      try dsimp only at hSw
      go_simp
      all_goals with_reducible rfl
    try simp only [Act.put, List.setIfInBounds_toArray, List.set_cons_zero, List.set_cons_succ]
    refine wpAnyH_take (i := 7) (v := ?_) opn7 (by kernel_rfl) (by kernel_rfl) (by kernel_rfl) (fun _ _ _ h => h) (Or.inl ⟨by rfl, ?_⟩) (by assumption) ?_
    rotate_left 1
    · intro wz hSw
      try dsimp only at hSw
      go_simp
      all_goals with_reducible rfl
    try simp only [Act.put, List.setIfInBounds_toArray, List.set_cons_zero, List.set_cons_succ]
    refine wpAnyH_done (by kernel_rfl) ?_ _
    clear hHeld hx1 hx2
    go_wp2
    go_ret
    exact ⟨rfl, _, unhide HG3⟩

theorem clientStep_any {N : Nat} {w : World} {X Y : Nat} {v u : Value} {c : ACli} {y : ACall} (h : KG N w X v c Y u c y) (s : AKStep) (hs : SmallK s) :
    Calls Try.prog 23 #[.pointer (some ⟨X, 0, none⟩), .pointer (some ⟨Y, 0, none⟩), s.val] w (StepOk N w (kown X v Y u) X Y (c.step s)) := by
  by_cases h0 : s.act = 0
  · exact step_call h s hs h0
  by_cases h1 : s.act = 1
  · exact step_hear h s hs h1
  by_cases h2 : s.act = 2
  · exact step_ask h s hs h2
  · exact step_none h s hs ⟨h0, h1, h2⟩

end Go.Proofs.Ytfpommjolbipmab
