/- The Guest: Hear. -/
import Derived.Test.YtfpommjolbipmabKk
namespace Go.Proofs.Ytfpommjolbipmab
open Go.RowKit
set_option linter.unusedSimpArgs false
set_option linter.unusedVariables false

set_option maxRecDepth 100000 in
set_option maxHeartbeats 4000000 in
theorem GHear_none {N : Nat} {w : World} {X : Nat} {v : Value} {c : ACli} {y : ACall} (h : GRep N w X v c y) (p : APkt) (hp : c.hears p = false) :
    Calls Try.prog 38 #[.pointer (some ⟨X, 0, none⟩), p.val] w fun e w' => e = .returned (.bool false) ∧ GTurn N w X v w' c y := by
  obtain ⟨V, hV⟩ : ∃ V, V = w.alloc (.cells (pArr p) 33) := ⟨_, rfl⟩
  have hBV : Below w.heap.size w V := by rw [hV]; exact (Below.refl _ _).alloc (Nat.le_refl _) _
  have hXV : V.heap[w.heap.size]? = some (.cells (pArr p) 33 (0, 0)) := by rw [hV]; exact heap_alloc_new _ _
  have hrV := h.below hBV
  have HT : Hid (∀ n, GTurn N w X v (V.drewN n) c y) := fun n => OTurn.of_below h.o (hBV.trans ⟨rfl, rfl, rfl, Nat.le_refl _, fun _ _ => rfl⟩)
  have hE := fun W => eql32 p.call y W
  have hgno : c.op = true → gno c = c.no := fun e => by unfold gno; rw [if_pos e]
  have hky := h.keeps
  obtain ⟨⟨k0, k1, k2, k3⟩, ⟨k4, k5, k6, k7⟩, kf⟩ := eight hrV.o.blk
  unfold ACli.hears at hp
  generalize c.no = cno at *
  generalize gno c = gn at *
  obtain ⟨me, done, cl, op⟩ := c
  obtain ⟨r, pc, pn, ⟨pk, s1, s2, s3⟩, d, u⟩ := p
  dsimp only [APkt.val, pArr, callCells] at *
  obtain ⟨⟨x0, x1, x2, x3⟩, ⟨x4, x5, x6, x7, x8⟩, xf⟩ := nine hXV
  have HV := hide hV
  clear h hBV hXV hrV hV xf kf k7
  cases op
  · clear hp hgno hky hE
    skip
    go_enter Try.func38, Try.ntmps38
    go_wp2_with fail
    rw [← unhide HV]
    go_quiet (fail)
    go_wp2
    go_ret
    exact ⟨rfl, (unhide HT) _⟩
  have hgn := hgno rfl
  have hyc := hky rfl
  subst hgn hyc
  cases r
  · clear hp hgno hky hE
    go_enter Try.func38, Try.ntmps38
    go_wp2_with fail
    rw [← unhide HV]
    go_quiet (fail)
    go_wp2
    go_ret
    exact ⟨rfl, (unhide HT) _⟩
  cases hc : (pc == me)
  · clear hp hgno hky hE
    go_enter Try.func38, Try.ntmps38
    go_wp2_with fail
    rw [← unhide HV]
    go_quiet (fail)
    go_wp2
    go_ret
    exact ⟨rfl, (unhide HT) _⟩
  cases hn : (pn == gn)
  · clear hp hgno hky hE
    go_enter Try.func38, Try.ntmps38
    go_wp2_with fail
    rw [← unhide HV]
    go_quiet (fail)
    go_wp2
    go_ret
    exact ⟨rfl, (unhide HT) _⟩
  have hcb : callB ⟨pk, s1, s2, s3⟩ y = false := by
    rw [hc, hn] at hp
    simpa using hp
  rw [hcb] at hE
  clear hp hgno hky hcb
  go_enter Try.func38, Try.ntmps38
  go_wp2_with fail
  rw [← unhide HV]
  go_quiet (fail)
  go_wp2
  go_ret
  exact ⟨rfl, (unhide HT) _⟩

set_option maxRecDepth 100000 in
set_option maxHeartbeats 4000000 in
theorem GHear_some {N : Nat} {w : World} {X : Nat} {v : Value} {c : ACli} {y : ACall} (h : GRep N w X v c y) (p : APkt) (hsm : SmallP p) (hp : c.hears p = true) :
    Calls Try.prog 38 #[.pointer (some ⟨X, 0, none⟩), p.val] w fun e w' => e = .returned (.bool true) ∧ GTurn N w X v w' (c.heard p) y := by
  have e2 : c.heard p = ⟨c.me, c.done ++ [c.rcd p], zeroCall, false⟩ := by unfold ACli.heard; rw [if_pos hp]
  rw [e2]
  clear e2
  obtain ⟨hop, hr, hcm, hpn, hpc⟩ : c.op = true ∧ p.reply = true ∧ p.client = c.me ∧ p.no = c.no ∧ p.call = c.call := by
    unfold ACli.hears at hp
    simp only [Bool.and_eq_true] at hp
    exact ⟨hp.1.1.1.1, hp.1.1.1.2, by simpa using hp.1.1.2, by simpa using hp.1.2, (callB_iff _ _).1 hp.2⟩
  have hyc := h.keeps hop
  rw [← hyc] at hpc
  have hgno : gno c = c.no := by unfold gno; rw [if_pos hop]
  obtain ⟨V, hV⟩ : ∃ V, V = w.alloc (.cells (pArr p) 33) := ⟨_, rfl⟩
  have hBV : Below w.heap.size w V := by rw [hV]; exact (Below.refl _ _).alloc (Nat.le_refl _) _
  have hXV : V.heap[w.heap.size]? = some (.cells (pArr p) 33 (0, 0)) := by rw [hV]; exact heap_alloc_new _ _
  have hrV := h.below hBV
  have hE := fun W => eql32 p.call y W
  rw [← hpc] at hE
  rw [callB_self] at hE
  have hXl : X < V.heap.size := hrV.o.lt
  have hzV : V.heap.size = w.heap.size + 1 := by rw [hV]; simp
  have hroom := h.ok.room hop
  obtain ⟨k, hk⟩ : ∃ k, c.done.length = k := ⟨_, rfl⟩
  rw [hk] at hroom
  obtain ⟨a, cap, hv⟩ := h.o.form
  rw [hk] at hv
  subst hv
  have HF : Hid (∀ W, Below V.heap.size V W → W.heap[X]? = some (.cells #[.int .i64 c.me, .int .i64 c.no, .int .i64 p.call.kind, .string p.call.name, .string p.call.dst, .string p.call.text, .bool true, .slice a k cap] 53 (0, 0)) ∧ W.heap[w.heap.size]? = some (.cells (pArr p) 33 (0, 0))) := fun W hW => by
    have := (hrV.below hW).o.blk
    unfold gcells at this
    rw [hop, hgno, ← hpc] at this
    exact ⟨this, (hW.block _ (by omega)).trans hXV⟩
  have HOR : Hid (∀ wx, Below V.heap.size V wx → wx.ownsRow N 63 8 (.slice a k cap) k (c.done.flatMap rcells)) := fun wx hb => by have := (hrV.below hb).o.row; rw [hk] at this; exact this
  have HH := hide h
  have nB := h.o.nd
  have hXw : X < w.heap.size := h.o.lt
  have nP : (Value.slice a k cap).ownBlock ≠ some w.heap.size := fun e => by have := (h.o.row.lt _ e).2; omega
  have HNN : Hid (N ≤ V.heap.size) := hrV.o.size
  have HBV := hide hBV
  have HV := hide hV
  have HK := hide hk
  have hrc : c.rcd p = ⟨c.me, c.no, y, p.code, p.ans⟩ := by unfold ACli.rcd; rw [hyc]
  rw [hrc]
  have HGN : Hid (c.no = ((c.done.length + 1 : Nat) : Int)) := by unfold ACli.no; simp [Hid]
  obtain ⟨i0, hi0, hz0, hz1, hz2⟩ := info_parts info63
  generalize c.no = cno at *
  obtain ⟨me, done, cl, op⟩ := c
  obtain ⟨r, pc, pn, ⟨pk, s1, s2, s3⟩, d, u⟩ := p
  dsimp only [APkt.val, pArr, callCells] at *
  subst hr hcm hpn hop hpc
  clear h hBV hrV hV hp hsm hyc hgno hk hrc hXV
  obtain ⟨hX0, hP0⟩ := (unhide HF) V (Below.refl _ _)
  obtain ⟨⟨k0, k1, k2, k3⟩, ⟨k4, k5, k6, k7⟩, kf⟩ := eight hX0
  obtain ⟨⟨x0, x1, x2, x3⟩, ⟨x4, x5, x6, x7, x8⟩, xf⟩ := nine hP0
  clear hX0 hP0
  go_enter Try.func38, Try.ntmps38
  go_wp2_with fail
  rw [← unhide HV]
  go_quiet (fail)
  clear k0 k1 k2 k3 k4 k5 k6 k7 kf x0 x1 x2 x3 x4 x5 x6 x7 x8 xf
  go_wp2_with fail
  generalize hg : World.drewN V _ = V2
  have hb2 : Below V.heap.size V V2 := by rw [← hg]; exact ⟨rfl, rfl, rfl, Nat.le_refl _, fun _ _ => rfl⟩
  clear hg
  have hz2V := hb2.size
  obtain ⟨hX0, hP0⟩ := (unhide HF) V2 hb2
  obtain ⟨⟨k0, k1, k2, k3⟩, ⟨k4, k5, k6, k7⟩, kf⟩ := eight hX0
  obtain ⟨⟨x0, x1, x2, x3⟩, ⟨x4, x5, x6, x7, x8⟩, xf⟩ := nine hP0
  have hXl2 : X < V2.heap.size := by omega
  have hPl2 : w.heap.size < V2.heap.size := by omega
  refine wp_region_held_drew (S := (fun wx => wx.cell? ⟨X, 0, none⟩ = some (.int .i64 pc) ∧ wx.cell? ⟨X, 1, none⟩ = some (.int .i64 pn) ∧ wx.cell? ⟨X, 2, none⟩ = some (.int .i64 pk) ∧ wx.cell? ⟨X, 3, none⟩ = some (.string s1) ∧ wx.cell? ⟨X, 4, none⟩ = some (.string s2) ∧ wx.cell? ⟨X, 5, none⟩ = some (.string s3) ∧ wx.cell? ⟨w.heap.size, 7, none⟩ = some (.int .i64 d) ∧ wx.cell? ⟨w.heap.size, 8, none⟩ = some (.string u))) (by kernel_rfl) ⟨k0, k1, k2, k3, k4, k5, x7, x8⟩ (fun hHeld => ?_)
  refine wpAnyH_take (i := 0) (v := ?_) opn0 (by kernel_rfl) (by kernel_rfl) (by kernel_rfl) (fun _ _ _ h => h) (Or.inl ⟨by rfl, ?_⟩) (by assumption) ?_
  rotate_left 1
  · intro wz hSw
    try dsimp only at hSw
    go_simp
    all_goals with_reducible rfl
  try simp only [Act.put, List.setIfInBounds_toArray, List.set_cons_zero, List.set_cons_succ]
  refine wpAnyH_take (i := 1) (v := ?_) opn1 (by kernel_rfl) (by kernel_rfl) (by kernel_rfl) (fun _ _ _ h => h) (Or.inl ⟨by rfl, ?_⟩) (by assumption) ?_
  rotate_left 1
  · intro wz hSw
    try dsimp only at hSw
    go_simp
    all_goals with_reducible rfl
  try simp only [Act.put, List.setIfInBounds_toArray, List.set_cons_zero, List.set_cons_succ]
  refine wpAnyH_take (i := 2) (v := ?_) opn2 (by kernel_rfl) (by kernel_rfl) (by kernel_rfl) (fun _ _ _ h => h) (Or.inl ⟨by rfl, ?_⟩) (by assumption) ?_
  rotate_left 1
  · intro wz hSw
    try dsimp only at hSw
    go_simp
    all_goals with_reducible rfl
  try simp only [Act.put, List.setIfInBounds_toArray, List.set_cons_zero, List.set_cons_succ]
  refine wpAnyH_take (i := 3) (v := ?_) opn3 (by kernel_rfl) (by kernel_rfl) (by kernel_rfl) (fun _ _ _ h => h) (Or.inl ⟨by rfl, ?_⟩) (by assumption) ?_
  rotate_left 1
  · intro wz hSw
    try dsimp only at hSw
    go_simp
    all_goals with_reducible rfl
  try simp only [Act.put, List.setIfInBounds_toArray, List.set_cons_zero, List.set_cons_succ]
  refine wpAnyH_take (i := 5) (v := ?_) opn5 (by kernel_rfl) (by kernel_rfl) (by kernel_rfl) (fun _ _ _ h => h) (Or.inl ⟨by rfl, ?_⟩) (by assumption) ?_
  rotate_left 1
  · intro wz hSw
    try dsimp only at hSw
    go_simp
    all_goals with_reducible rfl
  try simp only [Act.put, List.setIfInBounds_toArray, List.set_cons_zero, List.set_cons_succ]
  refine wpAnyH_take (i := 6) (v := ?_) opn6 (by kernel_rfl) (by kernel_rfl) (by kernel_rfl) (fun _ _ _ h => h) (Or.inl ⟨by rfl, ?_⟩) (by assumption) ?_
  rotate_left 1
  · intro wz hSw
    try dsimp only at hSw
    go_simp
    all_goals with_reducible rfl
  try simp only [Act.put, List.setIfInBounds_toArray, List.set_cons_zero, List.set_cons_succ]
  refine wpAnyH_take (i := 7) (v := ?_) opn7 (by kernel_rfl) (by kernel_rfl) (by kernel_rfl) (fun _ _ _ h => h) (Or.inl ⟨by rfl, ?_⟩) (by assumption) ?_
  rotate_left 1
  · intro wz hSw
    try dsimp only at hSw
    go_simp
    all_goals with_reducible rfl
  try simp only [Act.put, List.setIfInBounds_toArray, List.set_cons_zero, List.set_cons_succ]
  refine wpAnyH_take (i := 8) (v := ?_) opn8 (by kernel_rfl) (by kernel_rfl) (by kernel_rfl) (fun _ _ _ h => h) (Or.inl ⟨by rfl, ?_⟩) (by assumption) ?_
  rotate_left 1
  · intro wz hSw
    try dsimp only at hSw
    obtain ⟨e0, e1, e2, e3, e4, e5, e7, e8⟩ := hSw
    go_simp
    all_goals with_reducible rfl
  try simp only [Act.put, List.setIfInBounds_toArray, List.set_cons_zero, List.set_cons_succ]
  refine wpAnyH_take (i := 9) (v := ?_) opn9 (by kernel_rfl) (by kernel_rfl) (by kernel_rfl) (fun _ _ _ h => h) (Or.inl ⟨by rfl, ?_⟩) (by assumption) ?_
  rotate_left 1
  · intro wz hSw
    try dsimp only at hSw
    go_simp
    all_goals with_reducible rfl
  try simp only [Act.put, List.setIfInBounds_toArray, List.set_cons_zero, List.set_cons_succ]
  refine wpAnyH_take (i := 10) (v := ?_) opn10 (by kernel_rfl) (by kernel_rfl) (by kernel_rfl) (fun _ _ _ h => h) (Or.inl ⟨by rfl, ?_⟩) (by assumption) ?_
  rotate_left 1
  · intro wz hSw
    try dsimp only at hSw
    go_simp
    all_goals with_reducible rfl
  try simp only [Act.put, List.setIfInBounds_toArray, List.set_cons_zero, List.set_cons_succ]
  refine wpAnyH_take (i := 11) (v := ?_) opn11 (by kernel_rfl) (by kernel_rfl) (by kernel_rfl) (fun _ _ _ h => h) (Or.inl ⟨by rfl, ?_⟩) (by assumption) ?_
  rotate_left 1
  · intro wz hSw
    try dsimp only at hSw
    go_simp
    all_goals with_reducible rfl
  try simp only [Act.put, List.setIfInBounds_toArray, List.set_cons_zero, List.set_cons_succ]
  refine wpAnyH_take (i := 12) (v := ?_) opn12 (by kernel_rfl) (by kernel_rfl) (by kernel_rfl) (fun _ _ _ h => h) (Or.inl ⟨by rfl, ?_⟩) (by assumption) ?_
  rotate_left 1
  · intro wz hSw
    try dsimp only at hSw
    obtain ⟨e0, e1, e2, e3, e4, e5, e7, e8⟩ := hSw
    go_simp
    all_goals with_reducible rfl
  try simp only [Act.put, List.setIfInBounds_toArray, List.set_cons_zero, List.set_cons_succ]
  refine wpAnyH_take (i := 13) (v := ?_) opn13 (by kernel_rfl) (by kernel_rfl) (by kernel_rfl) (fun _ _ _ h => h) (Or.inl ⟨by rfl, ?_⟩) (by assumption) ?_
  rotate_left 1
  · intro wz hSw
    try dsimp only at hSw
    go_simp
    all_goals with_reducible rfl
  try simp only [Act.put, List.setIfInBounds_toArray, List.set_cons_zero, List.set_cons_succ]
  refine wpAnyH_take (i := 14) (v := ?_) opn14 (by kernel_rfl) (by kernel_rfl) (by kernel_rfl) (fun _ _ _ h => h) (Or.inl ⟨by rfl, ?_⟩) (by assumption) ?_
  rotate_left 1
  · intro wz hSw
    try dsimp only at hSw
    go_simp
    all_goals with_reducible rfl
  try simp only [Act.put, List.setIfInBounds_toArray, List.set_cons_zero, List.set_cons_succ]
  refine wpAnyH_take (i := 15) (v := ?_) opn15 (by kernel_rfl) (by kernel_rfl) (by kernel_rfl) (fun _ _ _ h => h) (Or.inl ⟨by rfl, ?_⟩) (by assumption) ?_
  rotate_left 1
  · intro wz hSw
    try dsimp only at hSw
    go_simp
    all_goals with_reducible rfl
  try simp only [Act.put, List.setIfInBounds_toArray, List.set_cons_zero, List.set_cons_succ]
  refine wpAnyH_take (i := 16) (v := ?_) opn16 (by kernel_rfl) (by kernel_rfl) (by kernel_rfl) (fun _ _ _ h => h) (Or.inl ⟨by rfl, ?_⟩) (by assumption) ?_
  rotate_left 1
  · intro wz hSw
    try dsimp only at hSw
    obtain ⟨e0, e1, e2, e3, e4, e5, e7, e8⟩ := hSw
    go_simp
    all_goals with_reducible rfl
  try simp only [Act.put, List.setIfInBounds_toArray, List.set_cons_zero, List.set_cons_succ]
  refine wpAnyH_take (i := 17) (v := ?_) opn17 (by kernel_rfl) (by kernel_rfl) (by kernel_rfl) (fun _ _ _ h => h) (Or.inl ⟨by rfl, ?_⟩) (by assumption) ?_
  rotate_left 1
  · intro wz hSw
    try dsimp only at hSw
    go_simp
    all_goals with_reducible rfl
  try simp only [Act.put, List.setIfInBounds_toArray, List.set_cons_zero, List.set_cons_succ]
  refine wpAnyH_take (i := 18) (v := ?_) opn18 (by kernel_rfl) (by kernel_rfl) (by kernel_rfl) (fun _ _ _ h => h) (Or.inl ⟨by rfl, ?_⟩) (by assumption) ?_
  rotate_left 1
  · intro wz hSw
    try dsimp only at hSw
    obtain ⟨e0, e1, e2, e3, e4, e5, e7, e8⟩ := hSw
    go_simp
    all_goals with_reducible rfl
  try simp only [Act.put, List.setIfInBounds_toArray, List.set_cons_zero, List.set_cons_succ]
  refine wpAnyH_take (i := 19) (v := ?_) opn19 (by kernel_rfl) (by kernel_rfl) (by kernel_rfl) (fun _ _ _ h => h) (Or.inl ⟨by rfl, ?_⟩) (by assumption) ?_
  rotate_left 1
  · intro wz hSw
    try dsimp only at hSw
    go_simp
    all_goals with_reducible rfl
  try simp only [Act.put, List.setIfInBounds_toArray, List.set_cons_zero, List.set_cons_succ]
  refine wpAnyH_ready (rs := [4, 20]) (by kernel_rfl) (by simp) ?_
  refine AllReadyH.cons opn4 (fun K hK => ?_) (AllReadyH.cons opn20 (fun K hK => ?_) AllReadyH.nil)
  · go_simp
    refine hK.out _ _ hHeld (fun hHeldN => ?_)
    clear hHeld hK K
    have hHeld := hHeldN
    clear hHeldN
    try simp only [Act.put, List.setIfInBounds_toArray, List.set_cons_zero, List.set_cons_succ]
    refine wpAnyH_ready (rs := [20]) (by kernel_rfl) (by simp) ?_
    refine AllReadyH.cons opn20 (fun K hK => ?_) AllReadyH.nil
    go_simp
    have hba : Below V2.heap.size V2 (V2.alloc (.cells #[.int .i64 pc, .int .i64 pn, .int .i64 pk, .string s1, .string s2, .string s3, .int .i64 d, .string u] 63)).drew := below_alloc_drew V2 _
    have c7 := (hba.cell (p := ⟨X, 7, none⟩) hXl2).trans k7
    refine hK.out _ _ ⟨(hba.cell (p := ⟨X, 0, none⟩) hXl2).trans k0, (hba.cell (p := ⟨X, 1, none⟩) hXl2).trans k1, (hba.cell (p := ⟨X, 2, none⟩) hXl2).trans k2, (hba.cell (p := ⟨X, 3, none⟩) hXl2).trans k3, (hba.cell (p := ⟨X, 4, none⟩) hXl2).trans k4, (hba.cell (p := ⟨X, 5, none⟩) hXl2).trans k5, (hba.cell (p := ⟨w.heap.size, 7, none⟩) hPl2).trans x7, (hba.cell (p := ⟨w.heap.size, 8, none⟩) hPl2).trans x8⟩ (fun hHeldN => ?_)
    clear hHeld hK K
    have hHeld := hHeldN
    clear hHeldN
    try simp only [Act.put, List.setIfInBounds_toArray, List.set_cons_zero, List.set_cons_succ]
    have hVW := hb2.trans (hba.mono hz2V)
    have HLs := hide (alloc_drew_new V2 (.cells #[.int .i64 pc, .int .i64 pn, .int .i64 pk, .string s1, .string s2, .string s3, .int .i64 d, .string u] 63))
    obtain ⟨hXW, hPW⟩ := (unhide HF) _ hVW
    have HOW := hide ((unhide HOR) _ hVW)
    have hzW : (V2.alloc (.cells #[.int .i64 pc, .int .i64 pn, .int .i64 pk, .string s1, .string s2, .string s3, .int .i64 d, .string u] 63)).drew.heap.size = V2.heap.size + 1 := by show (V2.alloc (.cells #[.int .i64 pc, .int .i64 pn, .int .i64 pk, .string s1, .string s2, .string s3, .int .i64 d, .string u] 63)).heap.size = _; simp
    have HVW := hide hVW
    have HWX := hide hXW
    have HWP := hide hPW
    clear hba c7 hVW hXW hPW k0 k1 k2 k3 k4 k5 k6 k7 kf x0 x1 x2 x3 x4 x5 x6 x7 x8 xf
    generalize (V2.alloc (.cells #[.int .i64 pc, .int .i64 pn, .int .i64 pk, .string s1, .string s2, .string s3, .int .i64 d, .string u] 63)).drew = W at *
    refine wpAnyH_ready (rs := [21]) (by kernel_rfl) (by simp) ?_
    refine AllReadyH.cons opn21 (fun K hK => ?_) AllReadyH.nil
    refine step_append_lies _ (by rfl) _ _ _ (by rfl) N 63 i0 _ 8 96 Try.underlying51 hi0 hz0 hz1 hz2 rfl (by omega) (.slice a k cap) k (done.flatMap rcells) (by rfl) (unhide HOW) ⟨V2.heap.size, 0, none⟩ 1 1 [.int .i64 pc, .int .i64 pn, .int .i64 pk, .string s1, .string s2, .string s3, .int .i64 d, .string u] (by rfl) (by rfl) (World.news_of_block (cs := #[.int .i64 pc, .int .i64 pn, .int .i64 pk, .string s1, .string s2, .string s3, .int .i64 d, .string u]) (t := 63) (fr := (0, 0)) (unhide HLs)) (by simp [Value.oneCell']) (by omega) (by unfold maxLen; omega) (by omega) (by have h4 := unhide HNN; omega) (V2.heap.size + 1) (by omega) ?_
    intro g cap' w5 hown2 hgrow hat hlt
    have hX5 := (hgrow.block X (by omega) (fun e => nB e.symm)).trans (unhide HWX)
    have hP5 := (hgrow.block w.heap.size (by omega) (fun e => nP e.symm)).trans (unhide HWP)
    obtain ⟨⟨k0, k1, k2, k3⟩, ⟨k4, k5, k6, k7⟩, kf⟩ := eight hX5
    obtain ⟨⟨x0, x1, x2, x3⟩, ⟨x4, x5, x6, x7, x8⟩, xf⟩ := nine hP5
    have kf7 := kf 7
    clear kf xf
    refine hK.out _ _ ⟨k0, k1, k2, k3, k4, k5, x7, x8⟩ (fun hHeldN => ?_)
    clear hHeld hK K
    have hHeld := hHeldN
    clear hHeldN
    try simp only [Act.put, List.setIfInBounds_toArray, List.set_cons_zero, List.set_cons_succ]
    refine wpAnyH_take (i := 22) (v := ?_) opn22 (by kernel_rfl) (by kernel_rfl) (by kernel_rfl) (fun _ _ _ h => h) (Or.inl ⟨by rfl, ?_⟩) (by assumption) ?_
    rotate_left 1
    · intro wz hSw
      try dsimp only at hSw
      go_simp
      all_goals with_reducible rfl
    try simp only [Act.put, List.setIfInBounds_toArray, List.set_cons_zero, List.set_cons_succ]
    refine wpAnyH_take (i := 23) (v := ?_) opn23 (by kernel_rfl) (by kernel_rfl) (by kernel_rfl) (fun _ _ _ h => h) (Or.inl ⟨by rfl, ?_⟩) (by assumption) ?_
    rotate_left 1
    · intro wz hSw
      try dsimp only at hSw
      go_simp
      all_goals with_reducible rfl
    try simp only [Act.put, List.setIfInBounds_toArray, List.set_cons_zero, List.set_cons_succ]
    refine wpAnyH_ready (rs := [24]) (by kernel_rfl) (by simp) ?_
    refine AllReadyH.cons opn24 (fun K hK => ?_) AllReadyH.nil
    go_simp
    have hX6 : (w5.setCell ⟨X, 7, none⟩ (.slice (some ⟨g, 0, none⟩) (k + 1) cap')).heap[X]? = some (.cells #[.int .i64 pc, .int .i64 pn, .int .i64 pk, .string s1, .string s2, .string s3, .bool true, .slice (some ⟨g, 0, none⟩) (k + 1) cap'] 53 (0, 0)) := heap_setCell_same hX5 _
    have hP6 := (Below.heap_setCell w5 ⟨X, 7, none⟩ (.slice (some ⟨g, 0, none⟩) (k + 1) cap') w.heap.size (by simp; omega)).trans hP5
    have hk6 := kept_setCell [X] w5 X 7 (.slice (some ⟨g, 0, none⟩) (k + 1) cap') (by simp)
    clear k0 k1 k2 k3 k4 k5 k6 k7 kf7 x0 x1 x2 x3 x4 x5 x6 x7 x8
    obtain ⟨⟨k0, k1, k2, k3⟩, ⟨k4, k5, k6, k7⟩, kf⟩ := eight hX6
    obtain ⟨⟨x0, x1, x2, x3⟩, ⟨x4, x5, x6, x7, x8⟩, xf⟩ := nine hP6
    refine hK.out _ _ ⟨k0, k1, k2, k3, k4, k5, x7, x8⟩ (fun hHeldN => ?_)
    clear hHeld hK K
    have hHeld := hHeldN
    clear hHeldN
    try simp only [Act.put, List.setIfInBounds_toArray, List.set_cons_zero, List.set_cons_succ]
    refine wpAnyH_done (by kernel_rfl) ?_ _
    clear hHeld
    obtain ⟨W6, hW6⟩ : ∃ W6, W6 = w5.setCell ⟨X, 7, none⟩ (.slice (some ⟨g, 0, none⟩) (k + 1) cap') := ⟨_, rfl⟩
    rw [← hW6] at hX6 hk6 k0 k1 k2 k3 k4 k5 k6 k7
    rw [← hW6]
    have kf6 : W6.frozen? ⟨X, 6, none⟩ = false := by rw [hW6]; exact kf 6
    have hX7 : (W6.setCell ⟨X, 6, none⟩ (.bool false)).heap[X]? = some (.cells #[.int .i64 pc, .int .i64 pn, .int .i64 pk, .string s1, .string s2, .string s3, .bool false, .slice (some ⟨g, 0, none⟩) (k + 1) cap'] 53 (0, 0)) := heap_setCell_same hX6 _
    have hk7 := hk6.trans (kept_setCell [X] W6 X 6 (.bool false) (by simp)) (fun x hx => .inl hx)
    have hbw := (unhide HBV).trans ((unhide HVW).mono (unhide HBV).size)
    have hrW := (unhide HH).below hbw
    have e2 : gno ⟨pc, done ++ [⟨pc, pn, ⟨pk, s1, s2, s3⟩, d, u⟩], zeroCall, false⟩ = pn := by unfold gno; rw [if_neg (by simp)]; rw [unhide HGN]; simp
    have hX8 : (W6.setCell ⟨X, 6, none⟩ (.bool false)).heap[X]? = some (.cells (gcells ⟨pc, done ++ [⟨pc, pn, ⟨pk, s1, s2, s3⟩, d, u⟩], zeroCall, false⟩ ⟨pk, s1, s2, s3⟩ (.slice (some ⟨g, 0, none⟩) (k + 1) cap')) 53 (0, 0)) := by unfold gcells; rw [e2]; exact hX7
    have hT : GTurn N W X (.slice a k cap) _ ⟨pc, done ++ [⟨pc, pn, ⟨pk, s1, s2, s3⟩, d, u⟩], zeroCall, false⟩ ⟨pk, s1, s2, s3⟩ := hrW.o.push (f' := gcells ⟨pc, done ++ [⟨pc, pn, ⟨pk, s1, s2, s3⟩, d, u⟩], zeroCall, false⟩ ⟨pk, s1, s2, s3⟩) (n := k + 1) (r := ⟨pc, pn, ⟨pk, s1, s2, s3⟩, d, u⟩) hgrow (by rw [unhide HK]) hown2 (by rw [hzW]; exact hat) hk7 hX8
    have HT := hide (hT.before hbw)
    clear hT hX7 hX8 e2 hk7 hbw hrW hX6 hk6 hW6 hP6 hP5 hX5 hown2 hgrow hat hlt x0 x1 x2 x3 x4 x5 x6 x7 x8 xf kf k0 k1 k2 k3 k4 k5 k7
    go_wp2
    go_ret
    exact ⟨rfl, unhide HT⟩
  · go_simp
    have hba : Below V2.heap.size V2 (V2.alloc (.cells #[.int .i64 pc, .int .i64 pn, .int .i64 pk, .string s1, .string s2, .string s3, .int .i64 d, .string u] 63)).drew := below_alloc_drew V2 _
    have c7 := (hba.cell (p := ⟨X, 7, none⟩) hXl2).trans k7
    refine hK.out _ _ ⟨(hba.cell (p := ⟨X, 0, none⟩) hXl2).trans k0, (hba.cell (p := ⟨X, 1, none⟩) hXl2).trans k1, (hba.cell (p := ⟨X, 2, none⟩) hXl2).trans k2, (hba.cell (p := ⟨X, 3, none⟩) hXl2).trans k3, (hba.cell (p := ⟨X, 4, none⟩) hXl2).trans k4, (hba.cell (p := ⟨X, 5, none⟩) hXl2).trans k5, (hba.cell (p := ⟨w.heap.size, 7, none⟩) hPl2).trans x7, (hba.cell (p := ⟨w.heap.size, 8, none⟩) hPl2).trans x8⟩ (fun hHeldN => ?_)
    clear hHeld hK K
    have hHeld := hHeldN
    clear hHeldN
    try simp only [Act.put, List.setIfInBounds_toArray, List.set_cons_zero, List.set_cons_succ]
    refine wpAnyH_ready (rs := [4]) (by kernel_rfl) (by simp) ?_
    refine AllReadyH.cons opn4 (fun K hK => ?_) AllReadyH.nil
    go_simp
    refine hK.out _ _ hHeld (fun hHeldN => ?_)
    clear hHeld hK K
    have hHeld := hHeldN
    clear hHeldN
    try simp only [Act.put, List.setIfInBounds_toArray, List.set_cons_zero, List.set_cons_succ]
    have hVW := hb2.trans (hba.mono hz2V)
    have HLs := hide (alloc_drew_new V2 (.cells #[.int .i64 pc, .int .i64 pn, .int .i64 pk, .string s1, .string s2, .string s3, .int .i64 d, .string u] 63))
    obtain ⟨hXW, hPW⟩ := (unhide HF) _ hVW
    have HOW := hide ((unhide HOR) _ hVW)
    have hzW : (V2.alloc (.cells #[.int .i64 pc, .int .i64 pn, .int .i64 pk, .string s1, .string s2, .string s3, .int .i64 d, .string u] 63)).drew.heap.size = V2.heap.size + 1 := by show (V2.alloc (.cells #[.int .i64 pc, .int .i64 pn, .int .i64 pk, .string s1, .string s2, .string s3, .int .i64 d, .string u] 63)).heap.size = _; simp
    have HVW := hide hVW
    have HWX := hide hXW
    have HWP := hide hPW
    clear hba c7 hVW hXW hPW k0 k1 k2 k3 k4 k5 k6 k7 kf x0 x1 x2 x3 x4 x5 x6 x7 x8 xf
    generalize (V2.alloc (.cells #[.int .i64 pc, .int .i64 pn, .int .i64 pk, .string s1, .string s2, .string s3, .int .i64 d, .string u] 63)).drew = W at *
    refine wpAnyH_ready (rs := [21]) (by kernel_rfl) (by simp) ?_
    refine AllReadyH.cons opn21 (fun K hK => ?_) AllReadyH.nil
    refine step_append_lies _ (by rfl) _ _ _ (by rfl) N 63 i0 _ 8 96 Try.underlying51 hi0 hz0 hz1 hz2 rfl (by omega) (.slice a k cap) k (done.flatMap rcells) (by rfl) (unhide HOW) ⟨V2.heap.size, 0, none⟩ 1 1 [.int .i64 pc, .int .i64 pn, .int .i64 pk, .string s1, .string s2, .string s3, .int .i64 d, .string u] (by rfl) (by rfl) (World.news_of_block (cs := #[.int .i64 pc, .int .i64 pn, .int .i64 pk, .string s1, .string s2, .string s3, .int .i64 d, .string u]) (t := 63) (fr := (0, 0)) (unhide HLs)) (by simp [Value.oneCell']) (by omega) (by unfold maxLen; omega) (by omega) (by have h4 := unhide HNN; omega) (V2.heap.size + 1) (by omega) ?_
    intro g cap' w5 hown2 hgrow hat hlt
    have hX5 := (hgrow.block X (by omega) (fun e => nB e.symm)).trans (unhide HWX)
    have hP5 := (hgrow.block w.heap.size (by omega) (fun e => nP e.symm)).trans (unhide HWP)
    obtain ⟨⟨k0, k1, k2, k3⟩, ⟨k4, k5, k6, k7⟩, kf⟩ := eight hX5
    obtain ⟨⟨x0, x1, x2, x3⟩, ⟨x4, x5, x6, x7, x8⟩, xf⟩ := nine hP5
    have kf7 := kf 7
    clear kf xf
    refine hK.out _ _ ⟨k0, k1, k2, k3, k4, k5, x7, x8⟩ (fun hHeldN => ?_)
    clear hHeld hK K
    have hHeld := hHeldN
    clear hHeldN
    try simp only [Act.put, List.setIfInBounds_toArray, List.set_cons_zero, List.set_cons_succ]
    refine wpAnyH_take (i := 22) (v := ?_) opn22 (by kernel_rfl) (by kernel_rfl) (by kernel_rfl) (fun _ _ _ h => h) (Or.inl ⟨by rfl, ?_⟩) (by assumption) ?_
    rotate_left 1
    · intro wz hSw
      try dsimp only at hSw
      go_simp
      all_goals with_reducible rfl
    try simp only [Act.put, List.setIfInBounds_toArray, List.set_cons_zero, List.set_cons_succ]
    refine wpAnyH_take (i := 23) (v := ?_) opn23 (by kernel_rfl) (by kernel_rfl) (by kernel_rfl) (fun _ _ _ h => h) (Or.inl ⟨by rfl, ?_⟩) (by assumption) ?_
    rotate_left 1
    · intro wz hSw
      try dsimp only at hSw
      go_simp
      all_goals with_reducible rfl
    try simp only [Act.put, List.setIfInBounds_toArray, List.set_cons_zero, List.set_cons_succ]
    refine wpAnyH_ready (rs := [24]) (by kernel_rfl) (by simp) ?_
    refine AllReadyH.cons opn24 (fun K hK => ?_) AllReadyH.nil
    go_simp
    have hX6 : (w5.setCell ⟨X, 7, none⟩ (.slice (some ⟨g, 0, none⟩) (k + 1) cap')).heap[X]? = some (.cells #[.int .i64 pc, .int .i64 pn, .int .i64 pk, .string s1, .string s2, .string s3, .bool true, .slice (some ⟨g, 0, none⟩) (k + 1) cap'] 53 (0, 0)) := heap_setCell_same hX5 _
    have hP6 := (Below.heap_setCell w5 ⟨X, 7, none⟩ (.slice (some ⟨g, 0, none⟩) (k + 1) cap') w.heap.size (by simp; omega)).trans hP5
    have hk6 := kept_setCell [X] w5 X 7 (.slice (some ⟨g, 0, none⟩) (k + 1) cap') (by simp)
    clear k0 k1 k2 k3 k4 k5 k6 k7 kf7 x0 x1 x2 x3 x4 x5 x6 x7 x8
    obtain ⟨⟨k0, k1, k2, k3⟩, ⟨k4, k5, k6, k7⟩, kf⟩ := eight hX6
    obtain ⟨⟨x0, x1, x2, x3⟩, ⟨x4, x5, x6, x7, x8⟩, xf⟩ := nine hP6
    refine hK.out _ _ ⟨k0, k1, k2, k3, k4, k5, x7, x8⟩ (fun hHeldN => ?_)
    clear hHeld hK K
    have hHeld := hHeldN
    clear hHeldN
    try simp only [Act.put, List.setIfInBounds_toArray, List.set_cons_zero, List.set_cons_succ]
    refine wpAnyH_done (by kernel_rfl) ?_ _
    clear hHeld
    obtain ⟨W6, hW6⟩ : ∃ W6, W6 = w5.setCell ⟨X, 7, none⟩ (.slice (some ⟨g, 0, none⟩) (k + 1) cap') := ⟨_, rfl⟩
    rw [← hW6] at hX6 hk6 k0 k1 k2 k3 k4 k5 k6 k7
    rw [← hW6]
    have kf6 : W6.frozen? ⟨X, 6, none⟩ = false := by rw [hW6]; exact kf 6
    have hX7 : (W6.setCell ⟨X, 6, none⟩ (.bool false)).heap[X]? = some (.cells #[.int .i64 pc, .int .i64 pn, .int .i64 pk, .string s1, .string s2, .string s3, .bool false, .slice (some ⟨g, 0, none⟩) (k + 1) cap'] 53 (0, 0)) := heap_setCell_same hX6 _
    have hk7 := hk6.trans (kept_setCell [X] W6 X 6 (.bool false) (by simp)) (fun x hx => .inl hx)
    have hbw := (unhide HBV).trans ((unhide HVW).mono (unhide HBV).size)
    have hrW := (unhide HH).below hbw
    have e2 : gno ⟨pc, done ++ [⟨pc, pn, ⟨pk, s1, s2, s3⟩, d, u⟩], zeroCall, false⟩ = pn := by unfold gno; rw [if_neg (by simp)]; rw [unhide HGN]; simp
    have hX8 : (W6.setCell ⟨X, 6, none⟩ (.bool false)).heap[X]? = some (.cells (gcells ⟨pc, done ++ [⟨pc, pn, ⟨pk, s1, s2, s3⟩, d, u⟩], zeroCall, false⟩ ⟨pk, s1, s2, s3⟩ (.slice (some ⟨g, 0, none⟩) (k + 1) cap')) 53 (0, 0)) := by unfold gcells; rw [e2]; exact hX7
    have hT : GTurn N W X (.slice a k cap) _ ⟨pc, done ++ [⟨pc, pn, ⟨pk, s1, s2, s3⟩, d, u⟩], zeroCall, false⟩ ⟨pk, s1, s2, s3⟩ := hrW.o.push (f' := gcells ⟨pc, done ++ [⟨pc, pn, ⟨pk, s1, s2, s3⟩, d, u⟩], zeroCall, false⟩ ⟨pk, s1, s2, s3⟩) (n := k + 1) (r := ⟨pc, pn, ⟨pk, s1, s2, s3⟩, d, u⟩) hgrow (by rw [unhide HK]) hown2 (by rw [hzW]; exact hat) hk7 hX8
    have HT := hide (hT.before hbw)
    clear hT hX7 hX8 e2 hk7 hbw hrW hX6 hk6 hW6 hP6 hP5 hX5 hown2 hgrow hat hlt x0 x1 x2 x3 x4 x5 x6 x7 x8 xf kf k0 k1 k2 k3 k4 k5 k7
    go_wp2
    go_ret
    exact ⟨rfl, unhide HT⟩

theorem GHear_any {N : Nat} {w : World} {X : Nat} {v : Value} {c : ACli} {y : ACall} (h : GRep N w X v c y) (p : APkt) (hsm : SmallP p) :
    Calls Try.prog 38 #[.pointer (some ⟨X, 0, none⟩), p.val] w fun e w' => e = .returned (.bool (c.hears p)) ∧ GTurn N w X v w' (c.heard p) y := by
  cases hp : c.hears p
  · have e : c.heard p = c := by unfold ACli.heard; rw [hp]; rfl
    rw [e]
    exact GHear_none h p hp
  · exact GHear_some h p hsm hp

end Go.Proofs.Ytfpommjolbipmab
