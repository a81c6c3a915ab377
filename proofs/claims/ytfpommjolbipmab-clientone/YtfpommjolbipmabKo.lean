/- clientStep. -/
import Derived.Test.YtfpommjolbipmabKn
namespace Go.Proofs.Ytfpommjolbipmab
open Go.RowKit
set_option linter.unusedSimpArgs false
set_option linter.unusedVariables false

set_option maxRecDepth 100000 in
set_option maxHeartbeats 8000000 in
theorem step_none {N : Nat} {w : World} {X Y : Nat} {v u : Value} {c : ACli} {y : ACall} (h : KG N w X v c Y u c y) (s : AKStep) (hs : SmallK s) (ha : s.act ≠ 0 ∧ s.act ≠ 1 ∧ s.act ≠ 2) :
    Calls Try.prog 23 #[.pointer (some ⟨X, 0, none⟩), .pointer (some ⟨Y, 0, none⟩), s.val] w (StepOk N w (kown X v Y u) X Y (c.step s)) := by
  obtain ⟨V, hV⟩ : ∃ V, V = w.alloc (.cells (kxcells s).toArray 56) := ⟨_, rfl⟩
  have hBV : Below w.heap.size w V := by rw [hV]; exact (Below.refl _ _).alloc (Nat.le_refl _) _
  have hXV : V.heap[w.heap.size]? = some (.cells (kxcells s).toArray 56 (0, 0)) := by rw [hV]; exact heap_alloc_new _ _
  have hzV : V.heap.size = w.heap.size + 1 := by rw [hV]; simp
  have hno : w.heap.size ∉ kown X v Y u := fun hm => by have := (h.ge _ hm).2; omega
  have hst : c.step s = c := by unfold ACli.step; rw [if_neg ha.1, if_neg ha.2.1, if_neg ha.2.2]
  rw [hst]
  have HT := hide ((h.below hBV).self.before hBV)
  rw [hV] at HT
  obtain ⟨act, ⟨ck, ca, cb, ct⟩, ⟨r, pc, pn, ⟨pk, s1, s2, s3⟩, d, u2⟩, ad, au⟩ := s
  dsimp only [AKStep.val, kxcells] at *
  have a0 : (act == 0) = false := by simpa using ha.1
  have a1 : (act == 1) = false := by simpa using ha.2.1
  have a2 : (act == 2) = false := by simpa using ha.2.2
  clear h hBV hXV hV hno hs hst ha
  go_enter Try.func23, Try.ntmps23
  go_wp2
  go_ret
  exact ⟨rfl, _, unhide HT⟩

set_option maxRecDepth 100000 in
set_option maxHeartbeats 8000000 in
theorem step_call {N : Nat} {w : World} {X Y : Nat} {v u : Value} {c : ACli} {y : ACall} (h : KG N w X v c Y u c y) (s : AKStep) (hs : SmallK s) (ha : s.act = 0) :
    Calls Try.prog 23 #[.pointer (some ⟨X, 0, none⟩), .pointer (some ⟨Y, 0, none⟩), s.val] w (StepOk N w (kown X v Y u) X Y (c.step s)) := by
  obtain ⟨V, hV⟩ : ∃ V, V = w.alloc (.cells (kxcells s).toArray 56) := ⟨_, rfl⟩
  have hBV : Below w.heap.size w V := by rw [hV]; exact (Below.refl _ _).alloc (Nat.le_refl _) _
  have hXV : V.heap[w.heap.size]? = some (.cells (kxcells s).toArray 56 (0, 0)) := by rw [hV]; exact heap_alloc_new _ _
  have hzV : V.heap.size = w.heap.size + 1 := by rw [hV]; simp
  have hno : w.heap.size ∉ kown X v Y u := fun hm => by have := (h.ge _ hm).2; omega
  have hHV := h.below (hBV.drew)
  have HBD : Hid (Below w.heap.size w V.drew) := hBV.drew
  have hst : c.step s = c.asked s.c := by unfold ACli.step; rw [ha]; rfl
  rw [hst]
  have HOK : Hid (COk (c.asked s.c)) := h.k.ok.asked hs.1
  have HC1 := hide (Call_any hHV.k s.c hs.1)
  have HKP := hide h.g.keeps
  have HSM := hide hs.1
  have HHV := hide hHV
  have HV := hide hV
  have HNO := hide hno
  obtain ⟨act, ⟨ck, ca, cb, ct⟩, ⟨r, pc, pn, ⟨pk, s1, s2, s3⟩, d, u2⟩, ad, au⟩ := s
  dsimp only at ha
  subst ha
  dsimp only [AKStep.val, kxcells, APkt.val] at *
  have HXV := hide hXV
  obtain ⟨e0, _, _, _, _, _, _, _, _, _, _, _, _, _, _, _⟩ := KStepAt.blk (x := ⟨0, ⟨ck, ca, cb, ct⟩, ⟨r, pc, pn, ⟨pk, s1, s2, s3⟩, d, u2⟩, ad, au⟩) hXV
  clear h hBV hXV hV hHV hno hs hst
  go_enter Try.func23, Try.ntmps23
  go_wp2_with fail
  rw [← unhide HV]
  refine wp_region_held_drew (S := (fun wx => wx.heap[w.heap.size]? = some (.cells #[.int .i64 0, .int .i64 ck, .string ca, .string cb, .string ct, .bool r, .int .i64 pc, .int .i64 pn, .int .i64 pk, .string s1, .string s2, .string s3, .int .i64 d, .string u2, .int .i64 ad, .string au] 56 (0, 0)))) (by kernel_rfl) (unhide HXV) (fun hHeld => ?_)
  refine wpAnyH_take (i := 0) (v := ?_) opn0 (by kernel_rfl) (by kernel_rfl) (by kernel_rfl) (fun _ _ _ h => h) (Or.inl ⟨by rfl, ?_⟩) (by assumption) ?_
  rotate_left 1
  · intro wz hSw
    try dsimp only at hSw
    go_simp
    all_goals with_reducible rfl
  try simp only [Act.put, List.setIfInBounds_toArray, List.set_cons_zero, List.set_cons_succ]
  refine wpAnyH_take (i := 1) (v := ?_) opn1 (by kernel_rfl) (by kernel_rfl) (by kernel_rfl) (fun _ _ _ h => h) (Or.inl ⟨by rfl, ?_⟩) (by assumption) ?_
  rotate_left 1
  · intro wz hSw
    try dsimp only at hSw
    go_simp
    all_goals with_reducible rfl
  try simp only [Act.put, List.setIfInBounds_toArray, List.set_cons_zero, List.set_cons_succ]
  refine wpAnyH_take (i := 2) (v := ?_) opn2 (by kernel_rfl) (by kernel_rfl) (by kernel_rfl) (fun _ _ _ h => h) (Or.inl ⟨by rfl, ?_⟩) (by assumption) ?_
  rotate_left 1
  · intro wz hSw
    try dsimp only at hSw
    obtain ⟨e0, e1, e2, e3, e4, e5, e6, e7, e8, e9, e10, e11, e12, e13, e14, e15⟩ := KStepAt.blk (x := ⟨0, ⟨ck, ca, cb, ct⟩, ⟨r, pc, pn, ⟨pk, s1, s2, s3⟩, d, u2⟩, ad, au⟩) hSw
    simp only [Nat.zero_add] at e0 e1 e2 e3 e4 e5 e6 e7 e8 e9 e10 e11 e12 e13 e14 e15
    go_simp
    all_goals with_reducible rfl
  try simp only [Act.put, List.setIfInBounds_toArray, List.set_cons_zero, List.set_cons_succ]
  refine wpAnyH_take (i := 4) (v := ?_) opn4 (by kernel_rfl) (by kernel_rfl) (by kernel_rfl) (fun _ _ _ h => h) (Or.inl ⟨by rfl, ?_⟩) (by assumption) ?_
  rotate_left 1
  · intro wz hSw
    try dsimp only at hSw
    go_simp
    all_goals with_reducible rfl
  try simp only [Act.put, List.setIfInBounds_toArray, List.set_cons_zero, List.set_cons_succ]
  refine wpAnyH_take (i := 5) (v := ?_) opn5 (by kernel_rfl) (by kernel_rfl) (by kernel_rfl) (fun _ _ _ h => h) (Or.inl ⟨by rfl, ?_⟩) (by assumption) ?_
  rotate_left 1
  · intro wz hSw
    try dsimp only at hSw
    go_simp
    all_goals with_reducible rfl
  try simp only [Act.put, List.setIfInBounds_toArray, List.set_cons_zero, List.set_cons_succ]
  refine wpAnyH_take (i := 6) (v := ?_) opn6 (by kernel_rfl) (by kernel_rfl) (by kernel_rfl) (fun _ _ _ h => h) (Or.inl ⟨by rfl, ?_⟩) (by assumption) ?_
  rotate_left 1
  · intro wz hSw
    try dsimp only at hSw
    obtain ⟨e0, e1, e2, e3, e4, e5, e6, e7, e8, e9, e10, e11, e12, e13, e14, e15⟩ := KStepAt.blk (x := ⟨0, ⟨ck, ca, cb, ct⟩, ⟨r, pc, pn, ⟨pk, s1, s2, s3⟩, d, u2⟩, ad, au⟩) hSw
    simp only [Nat.zero_add] at e0 e1 e2 e3 e4 e5 e6 e7 e8 e9 e10 e11 e12 e13 e14 e15
    go_simp
    all_goals with_reducible rfl
  try simp only [Act.put, List.setIfInBounds_toArray, List.set_cons_zero, List.set_cons_succ]
  refine wpAnyH_ready (rs := [3]) (by kernel_rfl) (by simp) ?_
  refine AllReadyH.cons opn3 (fun K hK => ?_) AllReadyH.nil
  go_simp
  refine (unhide HC1).mono ?_
  rintro e w1 ⟨rfl, hT1⟩
  have hG1 := (unhide HHV).turnK hT1 (unhide HOK)
  have hx1 := (hG1.blk (by show w.heap.size < V.heap.size; omega) (unhide HNO)).trans (unhide HXV)
  obtain ⟨v1, u1, h1, hk1, hn1⟩ := hG1
  have HC2 := hide (Ask_any h1.g ⟨ck, ca, cb, ct⟩ (unhide HSM))
  have H1 := hide h1
  have HK1 := hide hk1
  have HN1 := hide hn1
  clear hT1 h1 hk1 hn1
  refine hK.out _ _ hx1 (fun hHeldN => ?_)
  clear hHeld hK K
  have hHeld := hHeldN
  clear hHeldN
  try simp only [Act.put, List.setIfInBounds_toArray, List.set_cons_zero, List.set_cons_succ]
  refine wpAnyH_ready (rs := [7]) (by kernel_rfl) (by simp) ?_
  refine AllReadyH.cons opn7 (fun K hK => ?_) AllReadyH.nil
  go_simp
  refine (unhide HC2).mono ?_
  rintro e w2 ⟨rfl, hT2⟩
  have hG2 := (unhide H1).turnG hT2 (unhide HOK) (keepsA_ok (unhide HKP))
  have hG3 := KGT.trans (unhide HK1) (unhide HN1) hG2
  have hx2 := (hG3.blk (by show w.heap.size < V.heap.size; omega) (unhide HNO)).trans (unhide HXV)
  have HG3 := hide (hG3.before (unhide HBD))
  clear hT2 hG2 hG3
  refine hK.out _ _ hx2 (fun hHeldN => ?_)
  clear hHeld hK K
  have hHeld := hHeldN
  clear hHeldN
  try simp only [Act.put, List.setIfInBounds_toArray, List.set_cons_zero, List.set_cons_succ]
  refine wpAnyH_take (i := 8) (v := ?_) opn8 (by kernel_rfl) (by kernel_rfl) (by kernel_rfl) (fun _ _ _ h => h) (Or.inl ⟨by rfl, ?_⟩) (by assumption) ?_
  rotate_left 1
  · intro wz hSw
    try dsimp only at hSw
    go_simp
    all_goals with_reducible rfl
  try simp only [Act.put, List.setIfInBounds_toArray, List.set_cons_zero, List.set_cons_succ]
  refine wpAnyH_take (i := 9) (v := ?_) opn9 (by kernel_rfl) (by kernel_rfl) (by kernel_rfl) (fun _ _ _ h => h) (Or.inl ⟨by rfl, ?_⟩) (by assumption) ?_
  rotate_left 1
  · intro wz hSw
    try dsimp only at hSw
    go_simp
    all_goals with_reducible rfl
  try simp only [Act.put, List.setIfInBounds_toArray, List.set_cons_zero, List.set_cons_succ]
  refine wpAnyH_done (by kernel_rfl) ?_ _
  clear hHeld hx1 hx2
  go_wp2
  go_ret
  exact ⟨rfl, _, unhide HG3⟩

set_option maxRecDepth 100000 in
set_option maxHeartbeats 8000000 in
theorem step_hear {N : Nat} {w : World} {X Y : Nat} {v u : Value} {c : ACli} {y : ACall} (h : KG N w X v c Y u c y) (s : AKStep) (hs : SmallK s) (ha : s.act = 1) :
    Calls Try.prog 23 #[.pointer (some ⟨X, 0, none⟩), .pointer (some ⟨Y, 0, none⟩), s.val] w (StepOk N w (kown X v Y u) X Y (c.step s)) := by
  obtain ⟨V, hV⟩ : ∃ V, V = w.alloc (.cells (kxcells s).toArray 56) := ⟨_, rfl⟩
  have hBV : Below w.heap.size w V := by rw [hV]; exact (Below.refl _ _).alloc (Nat.le_refl _) _
  have hXV : V.heap[w.heap.size]? = some (.cells (kxcells s).toArray 56 (0, 0)) := by rw [hV]; exact heap_alloc_new _ _
  have hzV : V.heap.size = w.heap.size + 1 := by rw [hV]; simp
  have hno : w.heap.size ∉ kown X v Y u := fun hm => by have := (h.ge _ hm).2; omega
  have hHV := h.below (hBV.drew)
  have HBD : Hid (Below w.heap.size w V.drew) := hBV.drew
  have hst : c.step s = c.heard s.m := by unfold ACli.step; rw [ha]; rfl
  rw [hst]
  have HOK : Hid (COk (c.heard s.m)) := h.k.ok.heard hs.2.1
  have HC1 := hide (Hear_any hHV.k s.m hs.2.1)
  have HKP := hide h.g.keeps
  have HSM := hide hs.2.1
  have HHV := hide hHV
  have HV := hide hV
  have HNO := hide hno
  obtain ⟨act, ⟨ck, ca, cb, ct⟩, ⟨r, pc, pn, ⟨pk, s1, s2, s3⟩, d, u2⟩, ad, au⟩ := s
  dsimp only at ha
  subst ha
  dsimp only [AKStep.val, kxcells, APkt.val] at *
  have HXV := hide hXV
  obtain ⟨e0, _, _, _, _, _, _, _, _, _, _, _, _, _, _, _⟩ := KStepAt.blk (x := ⟨1, ⟨ck, ca, cb, ct⟩, ⟨r, pc, pn, ⟨pk, s1, s2, s3⟩, d, u2⟩, ad, au⟩) hXV
  clear h hBV hXV hV hHV hno hs hst
  go_enter Try.func23, Try.ntmps23
  go_wp2_with fail
  rw [← unhide HV]
  refine wp_region_held_drew (S := (fun wx => wx.heap[w.heap.size]? = some (.cells #[.int .i64 1, .int .i64 ck, .string ca, .string cb, .string ct, .bool r, .int .i64 pc, .int .i64 pn, .int .i64 pk, .string s1, .string s2, .string s3, .int .i64 d, .string u2, .int .i64 ad, .string au] 56 (0, 0)))) (by kernel_rfl) (unhide HXV) (fun hHeld => ?_)
  refine wpAnyH_take (i := 0) (v := ?_) opn0 (by kernel_rfl) (by kernel_rfl) (by kernel_rfl) (fun _ _ _ h => h) (Or.inl ⟨by rfl, ?_⟩) (by assumption) ?_
  rotate_left 1
  · intro wz hSw
    try dsimp only at hSw
    go_simp
    all_goals with_reducible rfl
  try simp only [Act.put, List.setIfInBounds_toArray, List.set_cons_zero, List.set_cons_succ]
  refine wpAnyH_take (i := 1) (v := ?_) opn1 (by kernel_rfl) (by kernel_rfl) (by kernel_rfl) (fun _ _ _ h => h) (Or.inl ⟨by rfl, ?_⟩) (by assumption) ?_
  rotate_left 1
  · intro wz hSw
    try dsimp only at hSw
    go_simp
    all_goals with_reducible rfl
  try simp only [Act.put, List.setIfInBounds_toArray, List.set_cons_zero, List.set_cons_succ]
  refine wpAnyH_take (i := 2) (v := ?_) opn2 (by kernel_rfl) (by kernel_rfl) (by kernel_rfl) (fun _ _ _ h => h) (Or.inl ⟨by rfl, ?_⟩) (by assumption) ?_
  rotate_left 1
  · intro wz hSw
    try dsimp only at hSw
    obtain ⟨e0, e1, e2, e3, e4, e5, e6, e7, e8, e9, e10, e11, e12, e13, e14, e15⟩ := KStepAt.blk (x := ⟨1, ⟨ck, ca, cb, ct⟩, ⟨r, pc, pn, ⟨pk, s1, s2, s3⟩, d, u2⟩, ad, au⟩) hSw
    simp only [Nat.zero_add] at e0 e1 e2 e3 e4 e5 e6 e7 e8 e9 e10 e11 e12 e13 e14 e15
    go_simp
    all_goals with_reducible rfl
  try simp only [Act.put, List.setIfInBounds_toArray, List.set_cons_zero, List.set_cons_succ]
  refine wpAnyH_take (i := 4) (v := ?_) opn4 (by kernel_rfl) (by kernel_rfl) (by kernel_rfl) (fun _ _ _ h => h) (Or.inl ⟨by rfl, ?_⟩) (by assumption) ?_
  rotate_left 1
  · intro wz hSw
    try dsimp only at hSw
    go_simp
    all_goals with_reducible rfl
  try simp only [Act.put, List.setIfInBounds_toArray, List.set_cons_zero, List.set_cons_succ]
  refine wpAnyH_take (i := 5) (v := ?_) opn5 (by kernel_rfl) (by kernel_rfl) (by kernel_rfl) (fun _ _ _ h => h) (Or.inl ⟨by rfl, ?_⟩) (by assumption) ?_
  rotate_left 1
  · intro wz hSw
    try dsimp only at hSw
    go_simp
    all_goals with_reducible rfl
  try simp only [Act.put, List.setIfInBounds_toArray, List.set_cons_zero, List.set_cons_succ]
  refine wpAnyH_take (i := 6) (v := ?_) opn6 (by kernel_rfl) (by kernel_rfl) (by kernel_rfl) (fun _ _ _ h => h) (Or.inl ⟨by rfl, ?_⟩) (by assumption) ?_
  rotate_left 1
  · intro wz hSw
    try dsimp only at hSw
    obtain ⟨e0, e1, e2, e3, e4, e5, e6, e7, e8, e9, e10, e11, e12, e13, e14, e15⟩ := KStepAt.blk (x := ⟨1, ⟨ck, ca, cb, ct⟩, ⟨r, pc, pn, ⟨pk, s1, s2, s3⟩, d, u2⟩, ad, au⟩) hSw
    simp only [Nat.zero_add] at e0 e1 e2 e3 e4 e5 e6 e7 e8 e9 e10 e11 e12 e13 e14 e15
    go_simp
    all_goals with_reducible rfl
  try simp only [Act.put, List.setIfInBounds_toArray, List.set_cons_zero, List.set_cons_succ]
  refine wpAnyH_ready (rs := [3]) (by kernel_rfl) (by simp) ?_
  refine AllReadyH.cons opn3 (fun K hK => ?_) AllReadyH.nil
  go_simp
  refine (unhide HC1).mono ?_
  rintro e w1 ⟨rfl, hT1⟩
  have hG1 := (unhide HHV).turnK hT1 (unhide HOK)
  have hx1 := (hG1.blk (by show w.heap.size < V.heap.size; omega) (unhide HNO)).trans (unhide HXV)
  obtain ⟨v1, u1, h1, hk1, hn1⟩ := hG1
  have HC2 := hide (GHear_any h1.g ⟨r, pc, pn, ⟨pk, s1, s2, s3⟩, d, u2⟩ (unhide HSM))
  have H1 := hide h1
  have HK1 := hide hk1
  have HN1 := hide hn1
  clear hT1 h1 hk1 hn1
  refine hK.out _ _ hx1 (fun hHeldN => ?_)
  clear hHeld hK K
  have hHeld := hHeldN
  clear hHeldN
  try simp only [Act.put, List.setIfInBounds_toArray, List.set_cons_zero, List.set_cons_succ]
  refine wpAnyH_ready (rs := [7]) (by kernel_rfl) (by simp) ?_
  refine AllReadyH.cons opn7 (fun K hK => ?_) AllReadyH.nil
  go_simp
  refine (unhide HC2).mono ?_
  rintro e w2 ⟨rfl, hT2⟩
  have hG2 := (unhide H1).turnG hT2 (unhide HOK) (heard_keeps (unhide HKP))
  have hG3 := KGT.trans (unhide HK1) (unhide HN1) hG2
  have hx2 := (hG3.blk (by show w.heap.size < V.heap.size; omega) (unhide HNO)).trans (unhide HXV)
  have HG3 := hide (hG3.before (unhide HBD))
  clear hT2 hG2 hG3
  refine hK.out _ _ hx2 (fun hHeldN => ?_)
  clear hHeld hK K
  have hHeld := hHeldN
  clear hHeldN
  try simp only [Act.put, List.setIfInBounds_toArray, List.set_cons_zero, List.set_cons_succ]
  refine wpAnyH_take (i := 8) (v := ?_) opn8 (by kernel_rfl) (by kernel_rfl) (by kernel_rfl) (fun _ _ _ h => h) (Or.inl ⟨by rfl, ?_⟩) (by assumption) ?_
  rotate_left 1
  · intro wz hSw
    try dsimp only at hSw
    go_simp
    all_goals with_reducible rfl
  try simp only [Act.put, List.setIfInBounds_toArray, List.set_cons_zero, List.set_cons_succ]
  refine wpAnyH_take (i := 9) (v := ?_) opn9 (by kernel_rfl) (by kernel_rfl) (by kernel_rfl) (fun _ _ _ h => h) (Or.inl ⟨by rfl, ?_⟩) (by assumption) ?_
  rotate_left 1
  · intro wz hSw
    try dsimp only at hSw
    go_simp
    all_goals with_reducible rfl
  try simp only [Act.put, List.setIfInBounds_toArray, List.set_cons_zero, List.set_cons_succ]
  refine wpAnyH_done (by kernel_rfl) ?_ _
  clear hHeld hx1 hx2
  go_wp2
  go_ret
  exact ⟨rfl, _, unhide HG3⟩

end Go.Proofs.Ytfpommjolbipmab
