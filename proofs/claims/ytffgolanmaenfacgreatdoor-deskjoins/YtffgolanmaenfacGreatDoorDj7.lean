/- Texts joined, what is needed of them: Vi Vj Vk Ek El Yb Yc Yd Sv Em. -/
import Derived.Test.YtffgolanmaenfacGreatDoorDj6
namespace Go.Proofs.YtffgolanmaenfacGreatDoor
open Go.RowKit
set_option linter.unusedSimpArgs false
set_option linter.unusedVariables false

set_option maxRecDepth 100000 in
set_option maxHeartbeats 4000000 in
theorem wtake_none {N : Nat} {w : World} {W : Nat} {o : WOwn} {A : AW} (h : WRep N w W o A) (x : AX) (h0 : A.ms.length = 0) :
    Calls Tryz.prog 129 #[.pointer (some ⟨W, 0, none⟩), x.val] w fun e w' => e = .returned (.int .i64 (A.take x).1) ∧ WTurn N w W o w' (A.take x).2 := by
  obtain ⟨V, hV⟩ : ∃ V, V = w.alloc (.cells #[.int .i64 x.kind, .int .i64 x.n, .int .i64 x.keep, .int .i64 x.call.kind, .string x.call.name, .string x.call.dst, .string x.call.text] 95) := ⟨_, rfl⟩
  have hBV : Below w.heap.size w V := by rw [hV]; exact (Below.refl _ _).alloc (Nat.le_refl _) _
  have hXV : V.heap[w.heap.size]? = some (.cells #[.int .i64 x.kind, .int .i64 x.n, .int .i64 x.keep, .int .i64 x.call.kind, .string x.call.name, .string x.call.dst, .string x.call.text] 95 (0, 0)) := by rw [hV]; exact heap_alloc_new _ _
  have hlV : w.heap.size < V.heap.size := (Array.getElem?_eq_some_iff.1 hXV).1
  have hrV := h.below hBV
  have HBV := hide hBV
  have HXV := hide hXV
  have HV := hide hV
  have HPC := hide hrV.cells.1.2.2.2.2
  have hWl := h.lt
  have hNw := h.size
  have HTK := hide (fun W' (hb : Below V.heap.size V W') => PTake_any (hrV.below hb).p x.n)
  have HTP := hide (fun W' w1 (hb : Below V.heap.size V W') (hT : PTurn 116 N W' o.P o.pv w1 (aTakeL A.ms x.n)) => (hrV.below hb).turnP hT)
  have HKW : Hid (W ∉ powns o.P o.pv) := h.nW 4 (by omega)
  have HKB : Hid (∀ b, w.heap.size ≤ b → b ∉ powns o.P o.pv) := fun b hb => h.not_part hb (i := 4) (by omega)
  have HKA : Hid (∀ b, w.heap.size ≤ b → b ∉ o.all W) := fun b hb => h.not_new hb
  have hB : aTakeB A.ms = false := decide_eq_false (by omega)
  rw [hB] at HTK
  have e1 : A.take x = (6, A) := by unfold AW.take; rw [if_pos h0]
  have e2 : aTakeM A.ms x.n = zeroPkt := by have : A.ms = [] := List.length_eq_zero_iff.1 h0; unfold aTakeM; rw [this]; rfl
  have e3 : aTakeL A.ms x.n = A.ms := by have : A.ms = [] := List.length_eq_zero_iff.1 h0; unfold aTakeL; rw [this]; rfl
  rw [e1]
  rw [e2, e3] at HTK
  rw [e3] at HTP
  obtain ⟨pr, pc, pn, pk, pa, pb, pt, pd, pu, hz⟩ : ∃ pr pc pn pk pa pb pt pd pu, zeroPkt = ⟨pr, pc, pn, ⟨pk, pa, pb, pt⟩, pd, pu⟩ := ⟨_, _, _, _, _, _, _, _, _, rfl⟩
  rw [hz] at HTK
  clear e1 e2 e3 hz
  generalize o.P = P at HTK HTP HKW HKB HPC
  generalize o.pv = pv at HTK HTP HKW HKB
  clear h hV hBV hXV hrV h0 hB
  obtain ⟨xk, xn, xp, ⟨ck, ca, cb, ct⟩⟩ := x
  dsimp only [APkt.val, AX.val] at *
  go_enter Tryz.func129, Tryz.ntmps129
  go_wp2_with fail
  rw [← unhide HV]
  refine wp_region_held_drew (S := (fun wx => wx.heap[W]? = V.heap[W]? ∧ wx.heap[w.heap.size]? = V.heap[w.heap.size]?)) (by kernel_rfl) (⟨rfl, rfl⟩) (fun hHeld => ?_)
  refine wpAnyH_take (i := 0) (v := ?_) opn0 (by kernel_rfl) (by kernel_rfl) (by kernel_rfl) (fun _ _ _ h => h) (Or.inl ⟨by kernel_rfl, ?_⟩) (by assumption) ?_
  rotate_left 1
  · intro wz hSw
    try dsimp only at hSw
    go_simp
    all_goals with_reducible rfl
  try simp only [Act.put, List.setIfInBounds_toArray, List.set_cons_zero, List.set_cons_succ]
  refine wpAnyH_take (i := 1) (v := ?_) opn1 (by kernel_rfl) (by kernel_rfl) (by kernel_rfl) (fun _ _ _ h => h) (Or.inl ⟨by kernel_rfl, ?_⟩) (by assumption) ?_
  rotate_left 1
  · intro wz hSw
    try dsimp only at hSw
    go_simp
    all_goals with_reducible rfl
  try simp only [Act.put, List.setIfInBounds_toArray, List.set_cons_zero, List.set_cons_succ]
  refine wpAnyH_take (i := 2) (v := ?_) opn2 (by kernel_rfl) (by kernel_rfl) (by kernel_rfl) (fun _ _ _ h => h) (Or.inl ⟨by kernel_rfl, ?_⟩) (by assumption) ?_
  rotate_left 1
  · intro wz hSw
    try dsimp only at hSw
    go_simp
    all_goals with_reducible rfl
  try simp only [Act.put, List.setIfInBounds_toArray, List.set_cons_zero, List.set_cons_succ]
  refine wpAnyH_take (i := 3) (v := ?_) opn3 (by kernel_rfl) (by kernel_rfl) (by kernel_rfl) (fun _ _ _ h => h) (Or.inl ⟨by kernel_rfl, ?_⟩) (by assumption) ?_
  rotate_left 1
  · intro wz hSw
    try dsimp only at hSw
    have hq : wz.cell? ⟨W, 4, none⟩ = some (.pointer (some ⟨P, 0, none⟩)) := (World.cell?_of_block (w := V) (a := ⟨W, 4, none⟩) hSw.1).trans (unhide HPC)
    go_simp
    all_goals with_reducible rfl
  try simp only [Act.put, List.setIfInBounds_toArray, List.set_cons_zero, List.set_cons_succ]
  refine wpAnyH_take (i := 4) (v := ?_) opn4 (by kernel_rfl) (by kernel_rfl) (by kernel_rfl) (fun _ _ _ h => h) (Or.inl ⟨by kernel_rfl, ?_⟩) (by assumption) ?_
  rotate_left 1
  · intro wz hSw
    try dsimp only at hSw
    go_simp
    all_goals with_reducible rfl
  try simp only [Act.put, List.setIfInBounds_toArray, List.set_cons_zero, List.set_cons_succ]
  refine wpAnyH_take (i := 5) (v := ?_) opn5 (by kernel_rfl) (by kernel_rfl) (by kernel_rfl) (fun _ _ _ h => h) (Or.inl ⟨by kernel_rfl, ?_⟩) (by assumption) ?_
  rotate_left 1
  · intro wz hSw
    try dsimp only at hSw
    obtain ⟨⟨x0, x1, x2, x3⟩, ⟨x4, x5, x6⟩, xf⟩ := seven (hSw.2.trans (unhide HXV))
    go_simp
    all_goals with_reducible rfl
  try simp only [Act.put, List.setIfInBounds_toArray, List.set_cons_zero, List.set_cons_succ]
  refine wpAnyH_ready (rs := [6, 10]) (by kernel_rfl) (by simp) ?_
  refine AllReadyH.cons opn6 (fun K hK => ?_) (AllReadyH.cons opn10 (fun K hK => ?_) (AllReadyH.nil))
  · rw [if_pos (by kernel_rfl)]
    go_simp
    refine ((unhide HTK) _ (below_drew V)).mono ?_
    rintro e w1 ⟨rfl, hT⟩
    have hWV : W < V.heap.size := Nat.lt_trans hWl hlV
    have hk1 : w1.heap[W]? = V.heap[W]? := hT.same hWV (unhide HKW)
    have hk2 : w1.heap[w.heap.size]? = V.heap[w.heap.size]? := hT.same hlV ((unhide HKB) _ (Nat.le_refl _))
    obtain ⟨o1, r1, n1⟩ := (unhide HTP) _ _ (below_drew V) hT
    have hl1 : V.heap.size ≤ w1.heap.size := n1.below.size
    have HR1 := hide r1
    have HN1 := hide (((Next.of_below (o.all W) ((unhide HBV).trans ((below_drew V).mono (unhide HBV).size)) hNw)).trans n1)
    clear hT r1 n1
    refine hK.out _ _ (⟨hk1, hk2⟩) (fun hHeldN => ?_)
    clear hHeld hK K
    have hHeld := hHeldN
    clear hHeldN
    try simp only [Act.put, List.setIfInBounds_toArray, List.set_cons_zero, List.set_cons_succ]
    clear hk1 hk2
    refine wpAnyH_take (i := 7) (v := ?_) opn7 (by kernel_rfl) (by kernel_rfl) (by kernel_rfl) (fun _ _ _ h => h) (Or.inl ⟨by kernel_rfl, ?_⟩) (by assumption) ?_
    rotate_left 1
    · intro wz hSw
      try dsimp only at hSw
      go_simp
      all_goals with_reducible rfl
    try simp only [Act.put, List.setIfInBounds_toArray, List.set_cons_zero, List.set_cons_succ]
    refine wpAnyH_take (i := 8) (v := ?_) opn8 (by kernel_rfl) (by kernel_rfl) (by kernel_rfl) (fun _ _ _ h => h) (Or.inl ⟨by kernel_rfl, ?_⟩) (by assumption) ?_
    rotate_left 1
    · intro wz hSw
      try dsimp only at hSw
      go_simp
      all_goals with_reducible rfl
    try simp only [Act.put, List.setIfInBounds_toArray, List.set_cons_zero, List.set_cons_succ]
    refine wpAnyH_take (i := 9) (v := ?_) opn9 (by kernel_rfl) (by kernel_rfl) (by kernel_rfl) (fun _ _ _ h => h) (Or.inl ⟨by kernel_rfl, ?_⟩) (by assumption) ?_
    rotate_left 1
    · intro wz hSw
      try dsimp only at hSw
      go_simp
      all_goals with_reducible rfl
    try simp only [Act.put, List.setIfInBounds_toArray, List.set_cons_zero, List.set_cons_succ]
    refine wpAnyH_ready (rs := [10]) (by kernel_rfl) (by simp) ?_
    refine AllReadyH.cons opn10 (fun K hK => ?_) AllReadyH.nil
    rw [if_pos (by kernel_rfl)]
    go_simp
    have hba : Below w1.heap.size w1 (w1.alloc (.cells #[.bool false, .int .i64 0, .int .i64 0, .int .i64 0, .string ⟨#[]⟩, .string ⟨#[]⟩, .string ⟨#[]⟩, .int .i64 0, .string ⟨#[]⟩] 102)) := (Below.refl _ _).alloc (Nat.le_refl _) _
    have HZ : Hid ((w1.alloc (.cells #[.bool false, .int .i64 0, .int .i64 0, .int .i64 0, .string ⟨#[]⟩, .string ⟨#[]⟩, .string ⟨#[]⟩, .int .i64 0, .string ⟨#[]⟩] 102)).heap[w1.heap.size]? = some (.cells #[.bool false, .int .i64 0, .int .i64 0, .int .i64 0, .string ⟨#[]⟩, .string ⟨#[]⟩, .string ⟨#[]⟩, .int .i64 0, .string ⟨#[]⟩] 102 (0, 0))) := heap_alloc_new _ _
    refine hK.out _ _ (⟨(hba.block W (by omega)).trans hHeld.1, (hba.block w.heap.size (by omega)).trans hHeld.2⟩) (fun hHeldN => ?_)
    clear hHeld hK K
    have hHeld := hHeldN
    clear hHeldN
    try simp only [Act.put, List.setIfInBounds_toArray, List.set_cons_zero, List.set_cons_succ]
    generalize w1.alloc (.cells #[.bool false, .int .i64 0, .int .i64 0, .int .i64 0, .string ⟨#[]⟩, .string ⟨#[]⟩, .string ⟨#[]⟩, .int .i64 0, .string ⟨#[]⟩] 102) = W1 at hba HZ hHeld ⊢
    refine wpAnyH_ready (rs := [11]) (by kernel_rfl) (by simp) ?_
    refine AllReadyH.cons opn11 (fun K hK => ?_) AllReadyH.nil
    rw [if_pos (by kernel_rfl)]
    refine wp_store_mid _ _ _ rfl w1.heap.size 0 #[.bool pr, .int .i64 pc, .int .i64 pn, .int .i64 pk, .string pa, .string pb, .string pt, .int .i64 pd, .string pu] (by simp [Act.eval]) (by simp [Act.eval]) (fun j hj => ⟨by rw [Nat.zero_add, cell_of_row W1 w1.heap.size j _ _ _ (unhide HZ), Array.getElem?_eq_getElem (by simpa using hj)]; rfl, by rw [Nat.zero_add]; exact frozen_of_row W1 w1.heap.size j _ _ (unhide HZ)⟩) infoP (by simp [Value.oneCell']) ?_
    have hQ2 := setRowN (cs := #[.bool pr, .int .i64 pc, .int .i64 pn, .int .i64 pk, .string pa, .string pb, .string pt, .int .i64 pd, .string pu]) (unhide HZ) rfl
    have hK2 := kept_setCells w1.heap.size (Array.toList #[.bool pr, .int .i64 pc, .int .i64 pn, .int .i64 pk, .string pa, .string pb, .string pt, .int .i64 pd, .string pu]) 0 W1
    obtain ⟨W2, hW2⟩ : ∃ W', W' = W1.setCells w1.heap.size 0 (Array.toList #[.bool pr, .int .i64 pc, .int .i64 pn, .int .i64 pk, .string pa, .string pb, .string pt, .int .i64 pd, .string pu]) := ⟨_, rfl⟩
    rw [← hW2] at hQ2 hK2 ⊢
    have hlW1 := hba.size
    refine hK.out _ _ (⟨(hK2.block W (by omega) (by simp; omega)).trans hHeld.1, (hK2.block w.heap.size (by omega) (by simp; omega)).trans hHeld.2⟩) (fun hHeldN => ?_)
    clear hHeld hK K
    have hHeld := hHeldN
    clear hHeldN
    try simp only [Act.put, List.setIfInBounds_toArray, List.set_cons_zero, List.set_cons_succ]
    have hbW : Below w1.heap.size w1 W2 := ⟨hK2.os.trans hba.os, hK2.tape.trans hba.tape, hK2.output.trans hba.output, Nat.le_trans hba.size hK2.size, fun j hj => (hK2.block j (Nat.lt_of_lt_of_le hj hba.size) (by simp; omega)).trans (hba.block j hj)⟩
    refine wpAnyH_take (i := 12) (v := ?_) opn12 (by kernel_rfl) (by kernel_rfl) (by kernel_rfl) (fun _ _ _ h => h) (Or.inl ⟨by kernel_rfl, ?_⟩) (by assumption) ?_
    rotate_left 1
    · intro wz hSw
      try dsimp only at hSw
      go_simp
      all_goals with_reducible rfl
    try simp only [Act.put, List.setIfInBounds_toArray, List.set_cons_zero, List.set_cons_succ]
    refine wpAnyH_done (by kernel_rfl) ?_ _
    have HX := hide (hHeld.2.trans (unhide HXV))
    have HQ := hide hQ2
    have HR := hide ((unhide HR1).below hbW)
    have HN := hide ((unhide HN1).trans (Next.of_below _ hbW (unhide HR1).size))
    clear hQ2 hK2 hbW hba HZ hlW1 hHeld HR1 HN1 hW2
    go_wp2
    go_ret
    exact ⟨rfl, _, unhide HR, unhide HN⟩
  · rw [if_pos (by kernel_rfl)]
    go_simp
    have hba := below_alloc_drew V (.cells #[.bool false, .int .i64 0, .int .i64 0, .int .i64 0, .string ⟨#[]⟩, .string ⟨#[]⟩, .string ⟨#[]⟩, .int .i64 0, .string ⟨#[]⟩] 102)
    have HZ := hide (alloc_drew_new V (.cells #[.bool false, .int .i64 0, .int .i64 0, .int .i64 0, .string ⟨#[]⟩, .string ⟨#[]⟩, .string ⟨#[]⟩, .int .i64 0, .string ⟨#[]⟩] 102))
    have hWV : W < V.heap.size := Nat.lt_trans hWl hlV
    refine hK.out _ _ (⟨hba.block W hWV, hba.block w.heap.size hlV⟩) (fun hHeldN => ?_)
    clear hHeld hK K
    have hHeld := hHeldN
    clear hHeldN
    try simp only [Act.put, List.setIfInBounds_toArray, List.set_cons_zero, List.set_cons_succ]
    generalize (V.alloc (.cells #[.bool false, .int .i64 0, .int .i64 0, .int .i64 0, .string ⟨#[]⟩, .string ⟨#[]⟩, .string ⟨#[]⟩, .int .i64 0, .string ⟨#[]⟩] 102)).drew = V1 at hba HZ hHeld ⊢
    have hlZ : V.heap.size < V1.heap.size := (Array.getElem?_eq_some_iff.1 (unhide HZ)).1
    refine wpAnyH_ready (rs := [6]) (by kernel_rfl) (by simp) ?_
    refine AllReadyH.cons opn6 (fun K hK => ?_) AllReadyH.nil
    rw [if_pos (by kernel_rfl)]
    go_simp
    refine ((unhide HTK) _ hba).mono ?_
    rintro e w1 ⟨rfl, hT⟩
    have hk1 : w1.heap[W]? = V.heap[W]? := (hT.same (Nat.lt_trans hWV hlZ) (unhide HKW)).trans (hba.block W hWV)
    have hk2 : w1.heap[w.heap.size]? = V.heap[w.heap.size]? := (hT.same (Nat.lt_trans hlV hlZ) ((unhide HKB) _ (Nat.le_refl _))).trans (hba.block _ hlV)
    have HZ1 := hide ((hT.same hlZ ((unhide HKB) _ (Nat.le_of_lt hlV))).trans (unhide HZ))
    obtain ⟨o1, r1, n1⟩ := (unhide HTP) _ _ hba hT
    have hnz := (n1.keep V.heap.size hlZ ((unhide HKA) _ (Nat.le_of_lt hlV))).1
    have hl1 : V1.heap.size ≤ w1.heap.size := n1.below.size
    have HR1 := hide r1
    have HN1 := hide (((Next.of_below (o.all W) ((unhide HBV).trans (hba.mono (unhide HBV).size)) hNw)).trans n1)
    clear hT r1 n1
    refine hK.out _ _ (⟨hk1, hk2⟩) (fun hHeldN => ?_)
    clear hHeld hK K
    have hHeld := hHeldN
    clear hHeldN
    try simp only [Act.put, List.setIfInBounds_toArray, List.set_cons_zero, List.set_cons_succ]
    clear hk1 hk2
    refine wpAnyH_take (i := 7) (v := ?_) opn7 (by kernel_rfl) (by kernel_rfl) (by kernel_rfl) (fun _ _ _ h => h) (Or.inl ⟨by kernel_rfl, ?_⟩) (by assumption) ?_
    rotate_left 1
    · intro wz hSw
      try dsimp only at hSw
      go_simp
      all_goals with_reducible rfl
    try simp only [Act.put, List.setIfInBounds_toArray, List.set_cons_zero, List.set_cons_succ]
    refine wpAnyH_take (i := 8) (v := ?_) opn8 (by kernel_rfl) (by kernel_rfl) (by kernel_rfl) (fun _ _ _ h => h) (Or.inl ⟨by kernel_rfl, ?_⟩) (by assumption) ?_
    rotate_left 1
    · intro wz hSw
      try dsimp only at hSw
      go_simp
      all_goals with_reducible rfl
    try simp only [Act.put, List.setIfInBounds_toArray, List.set_cons_zero, List.set_cons_succ]
    refine wpAnyH_take (i := 9) (v := ?_) opn9 (by kernel_rfl) (by kernel_rfl) (by kernel_rfl) (fun _ _ _ h => h) (Or.inl ⟨by kernel_rfl, ?_⟩) (by assumption) ?_
    rotate_left 1
    · intro wz hSw
      try dsimp only at hSw
      go_simp
      all_goals with_reducible rfl
    try simp only [Act.put, List.setIfInBounds_toArray, List.set_cons_zero, List.set_cons_succ]
    refine wpAnyH_ready (rs := [11]) (by kernel_rfl) (by simp) ?_
    refine AllReadyH.cons opn11 (fun K hK => ?_) AllReadyH.nil
    rw [if_pos (by kernel_rfl)]
    refine wp_store_mid _ _ _ rfl V.heap.size 0 #[.bool pr, .int .i64 pc, .int .i64 pn, .int .i64 pk, .string pa, .string pb, .string pt, .int .i64 pd, .string pu] (by simp [Act.eval]) (by simp [Act.eval]) (fun j hj => ⟨by rw [Nat.zero_add, cell_of_row w1 V.heap.size j _ _ _ (unhide HZ1), Array.getElem?_eq_getElem (by simpa using hj)]; rfl, by rw [Nat.zero_add]; exact frozen_of_row w1 V.heap.size j _ _ (unhide HZ1)⟩) infoP (by simp [Value.oneCell']) ?_
    have hQ2 := setRowN (cs := #[.bool pr, .int .i64 pc, .int .i64 pn, .int .i64 pk, .string pa, .string pb, .string pt, .int .i64 pd, .string pu]) (unhide HZ1) rfl
    have hK2 := kept_setCells V.heap.size (Array.toList #[.bool pr, .int .i64 pc, .int .i64 pn, .int .i64 pk, .string pa, .string pb, .string pt, .int .i64 pd, .string pu]) 0 w1
    obtain ⟨W2, hW2⟩ : ∃ W', W' = w1.setCells V.heap.size 0 (Array.toList #[.bool pr, .int .i64 pc, .int .i64 pn, .int .i64 pk, .string pa, .string pb, .string pt, .int .i64 pd, .string pu]) := ⟨_, rfl⟩
    rw [← hW2] at hQ2 hK2 ⊢
    refine hK.out _ _ (⟨(hK2.block W (by omega) (by simp; omega)).trans hHeld.1, (hK2.block w.heap.size (by omega) (by simp; omega)).trans hHeld.2⟩) (fun hHeldN => ?_)
    clear hHeld hK K
    have hHeld := hHeldN
    clear hHeldN
    try simp only [Act.put, List.setIfInBounds_toArray, List.set_cons_zero, List.set_cons_succ]
    refine wpAnyH_take (i := 12) (v := ?_) opn12 (by kernel_rfl) (by kernel_rfl) (by kernel_rfl) (fun _ _ _ h => h) (Or.inl ⟨by kernel_rfl, ?_⟩) (by assumption) ?_
    rotate_left 1
    · intro wz hSw
      try dsimp only at hSw
      go_simp
      all_goals with_reducible rfl
    try simp only [Act.put, List.setIfInBounds_toArray, List.set_cons_zero, List.set_cons_succ]
    refine wpAnyH_done (by kernel_rfl) ?_ _
    have HX := hide (hHeld.2.trans (unhide HXV))
    have HQ := hide hQ2
    have HR := hide ((unhide HR1).set hnz hK2)
    have HN := hide ((unhide HN1).setN hNw (Nat.le_of_lt hlV) hK2)
    clear hQ2 hK2 hba HZ HZ1 hHeld HR1 HN1 hW2
    go_wp2
    go_ret
    exact ⟨rfl, _, unhide HR, unhide HN⟩

set_option maxRecDepth 100000 in
set_option maxHeartbeats 4000000 in
theorem wtake_some {N : Nat} {w : World} {W : Nat} {o : WOwn} {A : AW} (h : WRep N w W o A) (x : AX) (h0 : A.ms.length ≠ 0) :
    Calls Tryz.prog 129 #[.pointer (some ⟨W, 0, none⟩), x.val] w fun e w' => e = .returned (.int .i64 (A.take x).1) ∧ WTurn N w W o w' (A.take x).2 := by
  obtain ⟨V, hV⟩ : ∃ V, V = w.alloc (.cells #[.int .i64 x.kind, .int .i64 x.n, .int .i64 x.keep, .int .i64 x.call.kind, .string x.call.name, .string x.call.dst, .string x.call.text] 95) := ⟨_, rfl⟩
  have hBV : Below w.heap.size w V := by rw [hV]; exact (Below.refl _ _).alloc (Nat.le_refl _) _
  have hXV : V.heap[w.heap.size]? = some (.cells #[.int .i64 x.kind, .int .i64 x.n, .int .i64 x.keep, .int .i64 x.call.kind, .string x.call.name, .string x.call.dst, .string x.call.text] 95 (0, 0)) := by rw [hV]; exact heap_alloc_new _ _
  have hlV : w.heap.size < V.heap.size := (Array.getElem?_eq_some_iff.1 hXV).1
  have hrV := h.below hBV
  have HBV := hide hBV
  have HXV := hide hXV
  have HV := hide hV
  have HPC := hide hrV.cells.1.2.2.2.2
  have hWl := h.lt
  have hNw := h.size
  have HTK := hide (fun W' (hb : Below V.heap.size V W') => PTake_any (hrV.below hb).p x.n)
  have HTP := hide (fun W' w1 (hb : Below V.heap.size V W') (hT : PTurn 116 N W' o.P o.pv w1 (aTakeL A.ms x.n)) => (hrV.below hb).turnP hT)
  have HKW : Hid (W ∉ powns o.P o.pv) := h.nW 4 (by omega)
  have HKB : Hid (∀ b, w.heap.size ≤ b → b ∉ powns o.P o.pv) := fun b hb => h.not_part hb (i := 4) (by omega)
  have HKA : Hid (∀ b, w.heap.size ≤ b → b ∉ o.all W) := fun b hb => h.not_new hb
  have hB : aTakeB A.ms = true := decide_eq_true (by omega)
  rw [hB] at HTK
  have HSM : Hid (SmallP (aTakeM A.ms x.n)) := h.p.small _ (takeM_mem x.n h0)
  have HRES : Hid (A.take x = if x.kind = 3 then (0, (A.took x.n).come (aTakeM A.ms x.n)) else if x.kind = 7 then (A.took x.n).tear (aTakeM A.ms x.n) x.keep else (0, A.took x.n)) := by show AW.take A x = _; unfold AW.take; rw [if_neg h0]
  generalize A.take x = R at HRES ⊢
  have HAT : Hid (A.took x.n = ⟨A.log, A.cl, aTakeL A.ms x.n⟩) := rfl
  generalize aTakeM A.ms x.n = p at HTK HSM HRES
  generalize aTakeL A.ms x.n = ms' at HTK HTP HAT
  obtain ⟨pr, pc, pn, ⟨pk, pa, pb, pt⟩, pd, pu⟩ := p
  generalize o.P = P at HTK HTP HKW HKB HPC
  generalize o.pv = pv at HTK HTP HKW HKB
  clear h hV hBV hXV hrV h0 hB
  obtain ⟨xk, xn, xp, ⟨ck, ca, cb, ct⟩⟩ := x
  dsimp only [APkt.val, AX.val] at *
  go_enter Tryz.func129, Tryz.ntmps129
  go_wp2_with fail
  rw [← unhide HV]
  refine wp_region_held_drew (S := (fun wx => wx.heap[W]? = V.heap[W]? ∧ wx.heap[w.heap.size]? = V.heap[w.heap.size]?)) (by kernel_rfl) (⟨rfl, rfl⟩) (fun hHeld => ?_)
  refine wpAnyH_take (i := 0) (v := ?_) opn0 (by kernel_rfl) (by kernel_rfl) (by kernel_rfl) (fun _ _ _ h => h) (Or.inl ⟨by kernel_rfl, ?_⟩) (by assumption) ?_
  rotate_left 1
  · intro wz hSw
    try dsimp only at hSw
    go_simp
    all_goals with_reducible rfl
  try simp only [Act.put, List.setIfInBounds_toArray, List.set_cons_zero, List.set_cons_succ]
  refine wpAnyH_take (i := 1) (v := ?_) opn1 (by kernel_rfl) (by kernel_rfl) (by kernel_rfl) (fun _ _ _ h => h) (Or.inl ⟨by kernel_rfl, ?_⟩) (by assumption) ?_
  rotate_left 1
  · intro wz hSw
    try dsimp only at hSw
    go_simp
    all_goals with_reducible rfl
  try simp only [Act.put, List.setIfInBounds_toArray, List.set_cons_zero, List.set_cons_succ]
  refine wpAnyH_take (i := 2) (v := ?_) opn2 (by kernel_rfl) (by kernel_rfl) (by kernel_rfl) (fun _ _ _ h => h) (Or.inl ⟨by kernel_rfl, ?_⟩) (by assumption) ?_
  rotate_left 1
  · intro wz hSw
    try dsimp only at hSw
    go_simp
    all_goals with_reducible rfl
  try simp only [Act.put, List.setIfInBounds_toArray, List.set_cons_zero, List.set_cons_succ]
  refine wpAnyH_take (i := 3) (v := ?_) opn3 (by kernel_rfl) (by kernel_rfl) (by kernel_rfl) (fun _ _ _ h => h) (Or.inl ⟨by kernel_rfl, ?_⟩) (by assumption) ?_
  rotate_left 1
  · intro wz hSw
    try dsimp only at hSw
    have hq : wz.cell? ⟨W, 4, none⟩ = some (.pointer (some ⟨P, 0, none⟩)) := (World.cell?_of_block (w := V) (a := ⟨W, 4, none⟩) hSw.1).trans (unhide HPC)
    go_simp
    all_goals with_reducible rfl
  try simp only [Act.put, List.setIfInBounds_toArray, List.set_cons_zero, List.set_cons_succ]
  refine wpAnyH_take (i := 4) (v := ?_) opn4 (by kernel_rfl) (by kernel_rfl) (by kernel_rfl) (fun _ _ _ h => h) (Or.inl ⟨by kernel_rfl, ?_⟩) (by assumption) ?_
  rotate_left 1
  · intro wz hSw
    try dsimp only at hSw
    go_simp
    all_goals with_reducible rfl
  try simp only [Act.put, List.setIfInBounds_toArray, List.set_cons_zero, List.set_cons_succ]
  refine wpAnyH_take (i := 5) (v := ?_) opn5 (by kernel_rfl) (by kernel_rfl) (by kernel_rfl) (fun _ _ _ h => h) (Or.inl ⟨by kernel_rfl, ?_⟩) (by assumption) ?_
  rotate_left 1
  · intro wz hSw
    try dsimp only at hSw
    obtain ⟨⟨x0, x1, x2, x3⟩, ⟨x4, x5, x6⟩, xf⟩ := seven (hSw.2.trans (unhide HXV))
    go_simp
    all_goals with_reducible rfl
  try simp only [Act.put, List.setIfInBounds_toArray, List.set_cons_zero, List.set_cons_succ]
  refine wpAnyH_ready (rs := [6, 10]) (by kernel_rfl) (by simp) ?_
  refine AllReadyH.cons opn6 (fun K hK => ?_) (AllReadyH.cons opn10 (fun K hK => ?_) (AllReadyH.nil))
  · rw [if_pos (by kernel_rfl)]
    go_simp
    refine ((unhide HTK) _ (below_drew V)).mono ?_
    rintro e w1 ⟨rfl, hT⟩
    have hWV : W < V.heap.size := Nat.lt_trans hWl hlV
    have hk1 : w1.heap[W]? = V.heap[W]? := hT.same hWV (unhide HKW)
    have hk2 : w1.heap[w.heap.size]? = V.heap[w.heap.size]? := hT.same hlV ((unhide HKB) _ (Nat.le_refl _))
    obtain ⟨o1, r1, n1⟩ := (unhide HTP) _ _ (below_drew V) hT
    have hl1 : V.heap.size ≤ w1.heap.size := n1.below.size
    have HR1 := hide r1
    have HN1 := hide (((Next.of_below (o.all W) ((unhide HBV).trans ((below_drew V).mono (unhide HBV).size)) hNw)).trans n1)
    clear hT r1 n1
    refine hK.out _ _ (⟨hk1, hk2⟩) (fun hHeldN => ?_)
    clear hHeld hK K
    have hHeld := hHeldN
    clear hHeldN
    try simp only [Act.put, List.setIfInBounds_toArray, List.set_cons_zero, List.set_cons_succ]
    clear hk1 hk2
    refine wpAnyH_take (i := 7) (v := ?_) opn7 (by kernel_rfl) (by kernel_rfl) (by kernel_rfl) (fun _ _ _ h => h) (Or.inl ⟨by kernel_rfl, ?_⟩) (by assumption) ?_
    rotate_left 1
    · intro wz hSw
      try dsimp only at hSw
      go_simp
      all_goals with_reducible rfl
    try simp only [Act.put, List.setIfInBounds_toArray, List.set_cons_zero, List.set_cons_succ]
    refine wpAnyH_take (i := 8) (v := ?_) opn8 (by kernel_rfl) (by kernel_rfl) (by kernel_rfl) (fun _ _ _ h => h) (Or.inl ⟨by kernel_rfl, ?_⟩) (by assumption) ?_
    rotate_left 1
    · intro wz hSw
      try dsimp only at hSw
      go_simp
      all_goals with_reducible rfl
    try simp only [Act.put, List.setIfInBounds_toArray, List.set_cons_zero, List.set_cons_succ]
    refine wpAnyH_take (i := 9) (v := ?_) opn9 (by kernel_rfl) (by kernel_rfl) (by kernel_rfl) (fun _ _ _ h => h) (Or.inl ⟨by kernel_rfl, ?_⟩) (by assumption) ?_
    rotate_left 1
    · intro wz hSw
      try dsimp only at hSw
      go_simp
      all_goals with_reducible rfl
    try simp only [Act.put, List.setIfInBounds_toArray, List.set_cons_zero, List.set_cons_succ]
    refine wpAnyH_ready (rs := [10]) (by kernel_rfl) (by simp) ?_
    refine AllReadyH.cons opn10 (fun K hK => ?_) AllReadyH.nil
    rw [if_pos (by kernel_rfl)]
    go_simp
    have hba : Below w1.heap.size w1 (w1.alloc (.cells #[.bool false, .int .i64 0, .int .i64 0, .int .i64 0, .string ⟨#[]⟩, .string ⟨#[]⟩, .string ⟨#[]⟩, .int .i64 0, .string ⟨#[]⟩] 102)) := (Below.refl _ _).alloc (Nat.le_refl _) _
    have HZ : Hid ((w1.alloc (.cells #[.bool false, .int .i64 0, .int .i64 0, .int .i64 0, .string ⟨#[]⟩, .string ⟨#[]⟩, .string ⟨#[]⟩, .int .i64 0, .string ⟨#[]⟩] 102)).heap[w1.heap.size]? = some (.cells #[.bool false, .int .i64 0, .int .i64 0, .int .i64 0, .string ⟨#[]⟩, .string ⟨#[]⟩, .string ⟨#[]⟩, .int .i64 0, .string ⟨#[]⟩] 102 (0, 0))) := heap_alloc_new _ _
    refine hK.out _ _ (⟨(hba.block W (by omega)).trans hHeld.1, (hba.block w.heap.size (by omega)).trans hHeld.2⟩) (fun hHeldN => ?_)
    clear hHeld hK K
    have hHeld := hHeldN
    clear hHeldN
    try simp only [Act.put, List.setIfInBounds_toArray, List.set_cons_zero, List.set_cons_succ]
    generalize w1.alloc (.cells #[.bool false, .int .i64 0, .int .i64 0, .int .i64 0, .string ⟨#[]⟩, .string ⟨#[]⟩, .string ⟨#[]⟩, .int .i64 0, .string ⟨#[]⟩] 102) = W1 at hba HZ hHeld ⊢
    refine wpAnyH_ready (rs := [11]) (by kernel_rfl) (by simp) ?_
    refine AllReadyH.cons opn11 (fun K hK => ?_) AllReadyH.nil
    rw [if_pos (by kernel_rfl)]
    refine wp_store_mid _ _ _ rfl w1.heap.size 0 #[.bool pr, .int .i64 pc, .int .i64 pn, .int .i64 pk, .string pa, .string pb, .string pt, .int .i64 pd, .string pu] (by simp [Act.eval]) (by simp [Act.eval]) (fun j hj => ⟨by rw [Nat.zero_add, cell_of_row W1 w1.heap.size j _ _ _ (unhide HZ), Array.getElem?_eq_getElem (by simpa using hj)]; rfl, by rw [Nat.zero_add]; exact frozen_of_row W1 w1.heap.size j _ _ (unhide HZ)⟩) infoP (by simp [Value.oneCell']) ?_
    have hQ2 := setRowN (cs := #[.bool pr, .int .i64 pc, .int .i64 pn, .int .i64 pk, .string pa, .string pb, .string pt, .int .i64 pd, .string pu]) (unhide HZ) rfl
    have hK2 := kept_setCells w1.heap.size (Array.toList #[.bool pr, .int .i64 pc, .int .i64 pn, .int .i64 pk, .string pa, .string pb, .string pt, .int .i64 pd, .string pu]) 0 W1
    obtain ⟨W2, hW2⟩ : ∃ W', W' = W1.setCells w1.heap.size 0 (Array.toList #[.bool pr, .int .i64 pc, .int .i64 pn, .int .i64 pk, .string pa, .string pb, .string pt, .int .i64 pd, .string pu]) := ⟨_, rfl⟩
    rw [← hW2] at hQ2 hK2 ⊢
    have hlW1 := hba.size
    refine hK.out _ _ (⟨(hK2.block W (by omega) (by simp; omega)).trans hHeld.1, (hK2.block w.heap.size (by omega) (by simp; omega)).trans hHeld.2⟩) (fun hHeldN => ?_)
    clear hHeld hK K
    have hHeld := hHeldN
    clear hHeldN
    try simp only [Act.put, List.setIfInBounds_toArray, List.set_cons_zero, List.set_cons_succ]
    have hbW : Below w1.heap.size w1 W2 := ⟨hK2.os.trans hba.os, hK2.tape.trans hba.tape, hK2.output.trans hba.output, Nat.le_trans hba.size hK2.size, fun j hj => (hK2.block j (Nat.lt_of_lt_of_le hj hba.size) (by simp; omega)).trans (hba.block j hj)⟩
    refine wpAnyH_take (i := 12) (v := ?_) opn12 (by kernel_rfl) (by kernel_rfl) (by kernel_rfl) (fun _ _ _ h => h) (Or.inl ⟨by kernel_rfl, ?_⟩) (by assumption) ?_
    rotate_left 1
    · intro wz hSw
      try dsimp only at hSw
      go_simp
      all_goals with_reducible rfl
    try simp only [Act.put, List.setIfInBounds_toArray, List.set_cons_zero, List.set_cons_succ]
    refine wpAnyH_done (by kernel_rfl) ?_ _
    have HX := hide (hHeld.2.trans (unhide HXV))
    have HQ := hide hQ2
    have HR := hide ((unhide HR1).below hbW)
    have HN := hide ((unhide HN1).trans (Next.of_below _ hbW (unhide HR1).size))
    clear hQ2 hK2 hbW hba HZ hlW1 hHeld HR1 HN1 hW2
    rw [unhide HAT] at HRES
    obtain ⟨⟨x0, x1, x2, x3⟩, ⟨x4, x5, x6⟩, xf⟩ := seven (unhide HX)
    obtain ⟨⟨q0, q1, q2, q3⟩, ⟨q4, q5, q6, q7, q8⟩, qf⟩ := nine (unhide HQ)
    by_cases h3 : xk = 3
    · subst h3
      have hres := (unhide HRES)
      rw [if_pos rfl] at hres
      have HD := hide (deliver_any (unhide HR) ⟨pr, pc, pn, ⟨pk, pa, pb, pt⟩, pd, pu⟩ (unhide HSM))
      dsimp only [APkt.val] at HD
      have HRS := hide hres
      clear hres
      go_wp2_with fail
      refine (unhide HD).mono ?_
      rintro e w4 ⟨rfl, hT⟩
      have hres := unhide HRS
      obtain ⟨o4, r4, n4⟩ := hT
      have HFIN := hide (And.intro r4 ((unhide HN).trans n4))
      clear r4 n4
      go_wp2
      go_ret
      exact ⟨by rw [hres]; rfl, by rw [hres]; exact ⟨_, (unhide HFIN).1, (unhide HFIN).2⟩⟩
    · by_cases h7 : xk = 7
      · subst h7
        have hres := (unhide HRES)
        rw [if_neg (by omega), if_pos rfl] at hres
        have HD := hide (wtear_any (unhide HR) ⟨pr, pc, pn, ⟨pk, pa, pb, pt⟩, pd, pu⟩ (unhide HSM) xp)
        rw [← hres] at HD
        dsimp only [APkt.val] at HD
        clear hres h3
        go_wp2_with fail
        refine (unhide HD).mono ?_
        rintro e w4 ⟨rfl, hT⟩
        obtain ⟨o4, r4, n4⟩ := hT
        have HFIN := hide (And.intro r4 ((unhide HN).trans n4))
        clear r4 n4
        go_wp2
        go_ret
        exact ⟨rfl, _, (unhide HFIN).1, (unhide HFIN).2⟩
      · have hres := (unhide HRES)
        rw [if_neg h3, if_neg h7] at hres
        have h3b : (xk == 3) = false := by simpa using h3
        have h7b : (xk == 7) = false := by simpa using h7
        have HRS := hide hres
        clear hres h3 h7
        go_wp2
        go_ret
        exact ⟨by rw [unhide HRS]; rfl, by rw [unhide HRS]; exact ⟨_, unhide HR, unhide HN⟩⟩
  · rw [if_pos (by kernel_rfl)]
    go_simp
    have hba := below_alloc_drew V (.cells #[.bool false, .int .i64 0, .int .i64 0, .int .i64 0, .string ⟨#[]⟩, .string ⟨#[]⟩, .string ⟨#[]⟩, .int .i64 0, .string ⟨#[]⟩] 102)
    have HZ := hide (alloc_drew_new V (.cells #[.bool false, .int .i64 0, .int .i64 0, .int .i64 0, .string ⟨#[]⟩, .string ⟨#[]⟩, .string ⟨#[]⟩, .int .i64 0, .string ⟨#[]⟩] 102))
    have hWV : W < V.heap.size := Nat.lt_trans hWl hlV
    refine hK.out _ _ (⟨hba.block W hWV, hba.block w.heap.size hlV⟩) (fun hHeldN => ?_)
    clear hHeld hK K
    have hHeld := hHeldN
    clear hHeldN
    try simp only [Act.put, List.setIfInBounds_toArray, List.set_cons_zero, List.set_cons_succ]
    generalize (V.alloc (.cells #[.bool false, .int .i64 0, .int .i64 0, .int .i64 0, .string ⟨#[]⟩, .string ⟨#[]⟩, .string ⟨#[]⟩, .int .i64 0, .string ⟨#[]⟩] 102)).drew = V1 at hba HZ hHeld ⊢
    have hlZ : V.heap.size < V1.heap.size := (Array.getElem?_eq_some_iff.1 (unhide HZ)).1
    refine wpAnyH_ready (rs := [6]) (by kernel_rfl) (by simp) ?_
    refine AllReadyH.cons opn6 (fun K hK => ?_) AllReadyH.nil
    rw [if_pos (by kernel_rfl)]
    go_simp
    refine ((unhide HTK) _ hba).mono ?_
    rintro e w1 ⟨rfl, hT⟩
    have hk1 : w1.heap[W]? = V.heap[W]? := (hT.same (Nat.lt_trans hWV hlZ) (unhide HKW)).trans (hba.block W hWV)
    have hk2 : w1.heap[w.heap.size]? = V.heap[w.heap.size]? := (hT.same (Nat.lt_trans hlV hlZ) ((unhide HKB) _ (Nat.le_refl _))).trans (hba.block _ hlV)
    have HZ1 := hide ((hT.same hlZ ((unhide HKB) _ (Nat.le_of_lt hlV))).trans (unhide HZ))
    obtain ⟨o1, r1, n1⟩ := (unhide HTP) _ _ hba hT
    have hnz := (n1.keep V.heap.size hlZ ((unhide HKA) _ (Nat.le_of_lt hlV))).1
    have hl1 : V1.heap.size ≤ w1.heap.size := n1.below.size
    have HR1 := hide r1
    have HN1 := hide (((Next.of_below (o.all W) ((unhide HBV).trans (hba.mono (unhide HBV).size)) hNw)).trans n1)
    clear hT r1 n1
    refine hK.out _ _ (⟨hk1, hk2⟩) (fun hHeldN => ?_)
    clear hHeld hK K
    have hHeld := hHeldN
    clear hHeldN
    try simp only [Act.put, List.setIfInBounds_toArray, List.set_cons_zero, List.set_cons_succ]
    clear hk1 hk2
    refine wpAnyH_take (i := 7) (v := ?_) opn7 (by kernel_rfl) (by kernel_rfl) (by kernel_rfl) (fun _ _ _ h => h) (Or.inl ⟨by kernel_rfl, ?_⟩) (by assumption) ?_
    rotate_left 1
    · intro wz hSw
      try dsimp only at hSw
      go_simp
      all_goals with_reducible rfl
    try simp only [Act.put, List.setIfInBounds_toArray, List.set_cons_zero, List.set_cons_succ]
    refine wpAnyH_take (i := 8) (v := ?_) opn8 (by kernel_rfl) (by kernel_rfl) (by kernel_rfl) (fun _ _ _ h => h) (Or.inl ⟨by kernel_rfl, ?_⟩) (by assumption) ?_
    rotate_left 1
    · intro wz hSw
      try dsimp only at hSw
      go_simp
      all_goals with_reducible rfl
    try simp only [Act.put, List.setIfInBounds_toArray, List.set_cons_zero, List.set_cons_succ]
    refine wpAnyH_take (i := 9) (v := ?_) opn9 (by kernel_rfl) (by kernel_rfl) (by kernel_rfl) (fun _ _ _ h => h) (Or.inl ⟨by kernel_rfl, ?_⟩) (by assumption) ?_
    rotate_left 1
    · intro wz hSw
      try dsimp only at hSw
      go_simp
      all_goals with_reducible rfl
    try simp only [Act.put, List.setIfInBounds_toArray, List.set_cons_zero, List.set_cons_succ]
    refine wpAnyH_ready (rs := [11]) (by kernel_rfl) (by simp) ?_
    refine AllReadyH.cons opn11 (fun K hK => ?_) AllReadyH.nil
    rw [if_pos (by kernel_rfl)]
    refine wp_store_mid _ _ _ rfl V.heap.size 0 #[.bool pr, .int .i64 pc, .int .i64 pn, .int .i64 pk, .string pa, .string pb, .string pt, .int .i64 pd, .string pu] (by simp [Act.eval]) (by simp [Act.eval]) (fun j hj => ⟨by rw [Nat.zero_add, cell_of_row w1 V.heap.size j _ _ _ (unhide HZ1), Array.getElem?_eq_getElem (by simpa using hj)]; rfl, by rw [Nat.zero_add]; exact frozen_of_row w1 V.heap.size j _ _ (unhide HZ1)⟩) infoP (by simp [Value.oneCell']) ?_
    have hQ2 := setRowN (cs := #[.bool pr, .int .i64 pc, .int .i64 pn, .int .i64 pk, .string pa, .string pb, .string pt, .int .i64 pd, .string pu]) (unhide HZ1) rfl
    have hK2 := kept_setCells V.heap.size (Array.toList #[.bool pr, .int .i64 pc, .int .i64 pn, .int .i64 pk, .string pa, .string pb, .string pt, .int .i64 pd, .string pu]) 0 w1
    obtain ⟨W2, hW2⟩ : ∃ W', W' = w1.setCells V.heap.size 0 (Array.toList #[.bool pr, .int .i64 pc, .int .i64 pn, .int .i64 pk, .string pa, .string pb, .string pt, .int .i64 pd, .string pu]) := ⟨_, rfl⟩
    rw [← hW2] at hQ2 hK2 ⊢
    refine hK.out _ _ (⟨(hK2.block W (by omega) (by simp; omega)).trans hHeld.1, (hK2.block w.heap.size (by omega) (by simp; omega)).trans hHeld.2⟩) (fun hHeldN => ?_)
    clear hHeld hK K
    have hHeld := hHeldN
    clear hHeldN
    try simp only [Act.put, List.setIfInBounds_toArray, List.set_cons_zero, List.set_cons_succ]
    refine wpAnyH_take (i := 12) (v := ?_) opn12 (by kernel_rfl) (by kernel_rfl) (by kernel_rfl) (fun _ _ _ h => h) (Or.inl ⟨by kernel_rfl, ?_⟩) (by assumption) ?_
    rotate_left 1
    · intro wz hSw
      try dsimp only at hSw
      go_simp
      all_goals with_reducible rfl
    try simp only [Act.put, List.setIfInBounds_toArray, List.set_cons_zero, List.set_cons_succ]
    refine wpAnyH_done (by kernel_rfl) ?_ _
    have HX := hide (hHeld.2.trans (unhide HXV))
    have HQ := hide hQ2
    have HR := hide ((unhide HR1).set hnz hK2)
    have HN := hide ((unhide HN1).setN hNw (Nat.le_of_lt hlV) hK2)
    clear hQ2 hK2 hba HZ HZ1 hHeld HR1 HN1 hW2
    rw [unhide HAT] at HRES
    obtain ⟨⟨x0, x1, x2, x3⟩, ⟨x4, x5, x6⟩, xf⟩ := seven (unhide HX)
    obtain ⟨⟨q0, q1, q2, q3⟩, ⟨q4, q5, q6, q7, q8⟩, qf⟩ := nine (unhide HQ)
    by_cases h3 : xk = 3
    · subst h3
      have hres := (unhide HRES)
      rw [if_pos rfl] at hres
      have HD := hide (deliver_any (unhide HR) ⟨pr, pc, pn, ⟨pk, pa, pb, pt⟩, pd, pu⟩ (unhide HSM))
      dsimp only [APkt.val] at HD
      have HRS := hide hres
      clear hres
      go_wp2_with fail
      refine (unhide HD).mono ?_
      rintro e w4 ⟨rfl, hT⟩
      have hres := unhide HRS
      obtain ⟨o4, r4, n4⟩ := hT
      have HFIN := hide (And.intro r4 ((unhide HN).trans n4))
      clear r4 n4
      go_wp2
      go_ret
      exact ⟨by rw [hres]; rfl, by rw [hres]; exact ⟨_, (unhide HFIN).1, (unhide HFIN).2⟩⟩
    · by_cases h7 : xk = 7
      · subst h7
        have hres := (unhide HRES)
        rw [if_neg (by omega), if_pos rfl] at hres
        have HD := hide (wtear_any (unhide HR) ⟨pr, pc, pn, ⟨pk, pa, pb, pt⟩, pd, pu⟩ (unhide HSM) xp)
        rw [← hres] at HD
        dsimp only [APkt.val] at HD
        clear hres h3
        go_wp2_with fail
        refine (unhide HD).mono ?_
        rintro e w4 ⟨rfl, hT⟩
        obtain ⟨o4, r4, n4⟩ := hT
        have HFIN := hide (And.intro r4 ((unhide HN).trans n4))
        clear r4 n4
        go_wp2
        go_ret
        exact ⟨rfl, _, (unhide HFIN).1, (unhide HFIN).2⟩
      · have hres := (unhide HRES)
        rw [if_neg h3, if_neg h7] at hres
        have h3b : (xk == 3) = false := by simpa using h3
        have h7b : (xk == 7) = false := by simpa using h7
        have HRS := hide hres
        clear hres h3 h7
        go_wp2
        go_ret
        exact ⟨by rw [unhide HRS]; rfl, by rw [unhide HRS]; exact ⟨_, unhide HR, unhide HN⟩⟩

theorem wtake_any {N : Nat} {w : World} {W : Nat} {o : WOwn} {A : AW} (h : WRep N w W o A) (x : AX) :
    Calls Tryz.prog 129 #[.pointer (some ⟨W, 0, none⟩), x.val] w fun e w' => e = .returned (.int .i64 (A.take x).1) ∧ WTurn N w W o w' (A.take x).2 := by
  by_cases h0 : A.ms.length = 0
  · exact wtake_none h x h0
  · exact wtake_some h x h0

set_option maxRecDepth 100000 in
set_option maxHeartbeats 4000000 in
theorem Step_any {N : Nat} {w : World} {W : Nat} {o : WOwn} {A : AW} (h : WRep N w W o A) (x : AX) (hx : SmallC x.call) :
    Calls Tryz.prog 84 #[.pointer (some ⟨W, 0, none⟩), x.val] w fun e w' => e = .returned (.int .i64 (A.step x).1) ∧ WTurn N w W o w' (A.step x).2 := by
  obtain ⟨V, hV⟩ : ∃ V, V = w.alloc (.cells #[.int .i64 x.kind, .int .i64 x.n, .int .i64 x.keep, .int .i64 x.call.kind, .string x.call.name, .string x.call.dst, .string x.call.text] 95) := ⟨_, rfl⟩
  have hBV : Below w.heap.size w V := by rw [hV]; exact (Below.refl _ _).alloc (Nat.le_refl _) _
  have hXV : V.heap[w.heap.size]? = some (.cells #[.int .i64 x.kind, .int .i64 x.n, .int .i64 x.keep, .int .i64 x.call.kind, .string x.call.name, .string x.call.dst, .string x.call.text] 95 (0, 0)) := by rw [hV]; exact heap_alloc_new _ _
  have hlV : w.heap.size < V.heap.size := (Array.getElem?_eq_some_iff.1 hXV).1
  have hrV := h.below hBV
  have HBV := hide hBV
  have HXV := hide hXV
  have HV := hide hV
  have HRES : Hid (A.step x = if x.kind = 1 then A.have x.n x.call else if x.kind = 2 then A.send x.n else if x.kind = 5 then A.dbl x.n else if x.kind = 4 ∨ x.kind = 3 ∨ x.kind = 7 then A.take x else if x.kind = 6 then (0, A) else (1, A)) := rfl
  generalize A.step x = R at HRES ⊢
  have HN := hide h.size
  have HCV := hide (have_any hrV x.n x.call hx)
  have HSD := hide (wsend_any hrV x.n)
  have HDB := hide (double_any hrV x.n)
  have HTK := hide (wtake_any hrV x)
  have HCR := hide (Crash_any hrV.s (by have := h.ss; omega) hrV.size)
  have HTS := hide (fun w' (hT : STurned N V o.S o.own o.lv w' A.log) => hrV.turnS hT h.ss)
  have hsc := h.cells.1.1
  have hWl := h.lt
  have hWn : W ≠ w.heap.size := by omega
  have HT0 := hide (WTurn.of_below hrV (Below.refl _ _))
  obtain ⟨⟨x0, x1, x2, x3⟩, ⟨x4, x5, x6⟩, xf⟩ := seven hXV
  clear h hV hBV hXV hrV hx
  obtain ⟨xk, xn, xp, ⟨ck, ca, cb, ct⟩⟩ := x
  dsimp only [AX.val] at *
  by_cases h1 : xk = 1
  · subst h1
    have hres := unhide HRES
    rw [if_pos rfl] at hres
    rw [← hres] at HCV
    clear hres
    go_enter Tryz.func84, Tryz.ntmps84
    go_wp2_with fail
    rw [← unhide HV]
    refine (unhide HCV).mono ?_
    rintro e w4 ⟨rfl, hT⟩
    have HFIN := hide (hT.before (unhide HBV) (unhide HN))
    clear hT
    go_wp2
    go_ret
    exact ⟨rfl, unhide HFIN⟩
  by_cases h2 : xk = 2
  · subst h2
    clear h1
    have hres := unhide HRES
    rw [if_neg (by omega), if_pos rfl] at hres
    rw [← hres] at HSD
    clear hres
    go_enter Tryz.func84, Tryz.ntmps84
    go_wp2_with fail
    rw [← unhide HV]
    refine (unhide HSD).mono ?_
    rintro e w4 ⟨rfl, hT⟩
    have HFIN := hide (hT.before (unhide HBV) (unhide HN))
    clear hT
    go_wp2
    go_ret
    exact ⟨rfl, unhide HFIN⟩
  by_cases h5 : xk = 5
  · subst h5
    clear h1 h2
    have hres := unhide HRES
    rw [if_neg (by omega), if_neg (by omega), if_pos rfl] at hres
    rw [← hres] at HDB
    clear hres
    go_enter Tryz.func84, Tryz.ntmps84
    go_wp2_with fail
    rw [← unhide HV]
    refine (unhide HDB).mono ?_
    rintro e w4 ⟨rfl, hT⟩
    have HFIN := hide (hT.before (unhide HBV) (unhide HN))
    clear hT
    go_wp2
    go_ret
    exact ⟨rfl, unhide HFIN⟩
  by_cases h4 : xk = 4
  · subst h4
    clear h1 h2 h5
    have hres := unhide HRES
    rw [if_neg (by omega), if_neg (by omega), if_neg (by omega), if_pos (by omega)] at hres
    rw [← hres] at HTK
    clear hres
    go_enter Tryz.func84, Tryz.ntmps84
    go_wp2_with fail
    rw [← unhide HV]
    refine (unhide HTK).mono ?_
    rintro e w4 ⟨rfl, hT⟩
    have HFIN := hide (hT.before (unhide HBV) (unhide HN))
    clear hT
    go_wp2
    go_ret
    exact ⟨rfl, unhide HFIN⟩
  by_cases h3 : xk = 3
  · subst h3
    clear h1 h2 h5 h4
    have hres := unhide HRES
    rw [if_neg (by omega), if_neg (by omega), if_neg (by omega), if_pos (by omega)] at hres
    rw [← hres] at HTK
    clear hres
    go_enter Tryz.func84, Tryz.ntmps84
    go_wp2_with fail
    rw [← unhide HV]
    refine (unhide HTK).mono ?_
    rintro e w4 ⟨rfl, hT⟩
    have HFIN := hide (hT.before (unhide HBV) (unhide HN))
    clear hT
    go_wp2
    go_ret
    exact ⟨rfl, unhide HFIN⟩
  by_cases h7 : xk = 7
  · subst h7
    clear h1 h2 h5 h4 h3
    have hres := unhide HRES
    rw [if_neg (by omega), if_neg (by omega), if_neg (by omega), if_pos (by omega)] at hres
    rw [← hres] at HTK
    clear hres
    go_enter Tryz.func84, Tryz.ntmps84
    go_wp2_with fail
    rw [← unhide HV]
    refine (unhide HTK).mono ?_
    rintro e w4 ⟨rfl, hT⟩
    have HFIN := hide (hT.before (unhide HBV) (unhide HN))
    clear hT
    go_wp2
    go_ret
    exact ⟨rfl, unhide HFIN⟩
  by_cases h6 : xk = 6
  · subst h6
    clear h1 h2 h5 h4 h3 h7
    have hres := unhide HRES
    rw [if_neg (by omega), if_neg (by omega), if_neg (by omega), if_neg (by omega), if_pos rfl] at hres
    have HRS := hide hres
    clear hres
    generalize o.S = S at HCR HTS hsc
    generalize o.own = own at HCR HTS
    generalize o.lv = lv at HCR HTS
    go_enter Tryz.func84, Tryz.ntmps84
    go_wp2_with fail
    rw [← unhide HV]
    refine (unhide HCR).mono ?_
    rintro e w4 ⟨rfl, hT⟩
    have HFIN := hide (((unhide HTS) _ hT).before (unhide HBV) (unhide HN))
    clear hT
    go_wp2
    go_ret
    exact ⟨by rw [unhide HRS]; rfl, by rw [unhide HRS]; exact unhide HFIN⟩
  have hres := unhide HRES
  rw [if_neg h1, if_neg h2, if_neg h5, if_neg (by omega), if_neg h6] at hres
  have HRS := hide hres
  have b1 : (xk == 1) = false := by simpa using h1
  have b2 : (xk == 2) = false := by simpa using h2
  have b5 : (xk == 5) = false := by simpa using h5
  have b4 : (xk == 4) = false := by simpa using h4
  have b3 : (xk == 3) = false := by simpa using h3
  have b7 : (xk == 7) = false := by simpa using h7
  have b6 : (xk == 6) = false := by simpa using h6
  clear hres h1 h2 h5 h4 h3 h7 h6
  go_enter Tryz.func84, Tryz.ntmps84
  go_wp2
  go_ret
  exact ⟨by rw [unhide HRS]; rfl, by rw [unhide HRS, ← unhide HV]; exact (unhide HT0).before (unhide HBV) (unhide HN)⟩

end Go.Proofs.YtffgolanmaenfacGreatDoor

namespace Go.Proofs.YtffgolanmaenfacGreatDoor
open Go.RowKit
set_option linter.unusedSimpArgs false
set_option linter.unusedVariables false

/-- The world has come from w to wr, as A1. -/
structure WNow (N : Nat) (w : World) (W : Nat) (o : WOwn) (wr : World) (o1 : WOwn) (A1 : AW) : Prop where
  rep : WRep N wr W o1 A1
  nx : Next N w wr (o.all W) (o1.all W)
theorem WNow.refl {N : Nat} {w : World} {W : Nat} {o : WOwn} {A : AW} (h : WRep N w W o A) : WNow N w W o w o A := ⟨h, Next.of_below _ (Below.refl _ _) h.size⟩
theorem WNow.then {N : Nat} {w w1 w2 : World} {W : Nat} {o o1 : WOwn} {A1 A2 : AW} (h : WNow N w W o w1 o1 A1) (hT : WTurn N w1 W o1 w2 A2) : ∃ o2, WNow N w W o w2 o2 A2 := by
  obtain ⟨o2, r2, n2⟩ := hT
  exact ⟨o2, r2, h.nx.trans n2⟩
theorem WNow.turn {N : Nat} {w w1 : World} {W : Nat} {o o1 : WOwn} {A1 : AW} (h : WNow N w W o w1 o1 A1) : WTurn N w W o w1 A1 := ⟨o1, h.rep, h.nx⟩
theorem WNow.below {N : Nat} {w w1 w2 : World} {W : Nat} {o o1 : WOwn} {A1 : AW} (h : WNow N w W o w1 o1 A1) (hb : Below w1.heap.size w1 w2) : WNow N w W o w2 o1 A1 := ⟨h.rep.below hb, h.nx.trans (Next.of_below _ hb h.rep.size)⟩

set_option maxRecDepth 100000 in
set_option maxHeartbeats 4000000 in
theorem deliverAll_any {N : Nat} {w : World} {W : Nat} {o : WOwn} {A : AW} (h : WRep N w W o A) :
    Calls Tryz.prog 134 #[.pointer (some ⟨W, 0, none⟩)] w fun e w' => e = .returned (.tuple #[]) ∧ WTurn N w W o w' A.drain := by
  have H0 := hide (WNow.refl h)
  clear h
  go_enter Tryz.func134, Tryz.ntmps134
  go_wp2_with fail
  go_loopg [2, 3] (wght A.ms) (fun k _ _ wr => Hid (∃ j o1, WNow N w W o wr o1 (AW.pops j A) ∧ wght (AW.pops j A).ms ≤ k))
  case atStart => exact ⟨0, o, unhide H0, Nat.le_refl _⟩
  case round =>
    obtain ⟨j, o1, hw1, hk⟩ := unhide hrel
    clear hrel
    have HD : Hid ((AW.pops j A).ms = [] → AW.pops j A = A.drain) := fun h => drain_of h
    have HP : Hid (AW.pops (j + 1) A = (AW.pops j A).pop) := pops_succ j A
    have HPC := hide hw1.rep.cells.1.2.2.2.2
    have hpc := hw1.rep.cells.1.2.2.2.2
    have HTK := hide (PTake_any hw1.rep.p 0)
    have HTP := hide (fun w1 (hT : PTurn 116 N wr o1.P o1.pv w1 (aTakeL (AW.pops j A).ms 0)) => hw1.then (hw1.rep.turnP hT))
    have HS := hide hw1.rep.p.small
    generalize AW.pops j A = A1 at *
    generalize o1.P = P at hpc HTK HTP
    generalize o1.pv = pv at HTK HTP
    have HK := hide hk
    by_cases h0 : A1.ms = []
    · have e2 : aTakeM A1.ms 0 = zeroPkt := by unfold aTakeM; rw [h0]; rfl
      have e3 : aTakeL A1.ms 0 = A1.ms := by unfold aTakeL; rw [h0]; rfl
      have e4 : aTakeB A1.ms = false := by unfold aTakeB; rw [h0]; rfl
      rw [e2, e3, e4] at HTK
      rw [e3] at HTP
      dsimp only [APkt.val, zeroPkt] at HTK
      have HAE := hide ((unhide HD) h0)
      clear e2 e3 e4 h0 hk hw1 HD HP HPC HS HK
      go_wp2_with fail
      refine (unhide HTK).mono ?_
      rintro e w1 ⟨rfl, hT⟩
      obtain ⟨o2, hw2⟩ := (unhide HTP) _ hT
      have HF := hide (hw2.below ((Below.refl w1.heap.size w1).alloc (Nat.le_refl _) (.cells #[.bool false, .int .i64 0, .int .i64 0, .int .i64 0, .string ⟨#[]⟩, .string ⟨#[]⟩, .string ⟨#[]⟩, .int .i64 0, .string ⟨#[]⟩] 102))).turn
      clear hT hw2
      go_wp2
      refine bodyPost_ret (v := .tuple #[]) (by simp [results, Tryz.results134, go_sem]) rfl ?_
      refine ⟨rfl, ?_⟩
      rw [← unhide HAE]
      exact unhide HF
    · have hl : A1.ms.length ≠ 0 := fun e => h0 (List.length_eq_zero_iff.1 e)
      have e4 : aTakeB A1.ms = true := decide_eq_true (by omega)
      rw [e4] at HTK
      have hsm := (unhide HS) _ (takeM_mem 0 hl)
      have hpo : A1.pop = (A1.took 0).come (aTakeM A1.ms 0) := by unfold AW.pop; rw [if_neg hl]
      have HW : Hid (wght A1.pop.ms < wght A1.ms) := pop_wght hl
      rw [hpo] at HW HP
      have HAT : Hid (A1.took 0 = ⟨A1.log, A1.cl, aTakeL A1.ms 0⟩) := rfl
      have HSM := hide hsm
      generalize aTakeM A1.ms 0 = p at HTK HSM HW HP
      generalize aTakeL A1.ms 0 = ms' at HTK HTP HAT
      rw [← unhide HAT] at HTP
      generalize A1.took 0 = A2 at HTP HP HW
      clear hsm hpo hl e4 h0 hk hw1 HD HPC HS HAT
      obtain ⟨pr, pc, pn, ⟨pk, pa, pb, pt⟩, pd, pu⟩ := p
      dsimp only [APkt.val] at HTK
      go_wp2_with fail
      refine (unhide HTK).mono ?_
      rintro e w1 ⟨rfl, hT⟩
      obtain ⟨o2, hw2⟩ := (unhide HTP) _ hT
      clear hT
      obtain ⟨V, hV⟩ : ∃ V, V = w1.alloc (.cells #[.bool pr, .int .i64 pc, .int .i64 pn, .int .i64 pk, .string pa, .string pb, .string pt, .int .i64 pd, .string pu] 102) := ⟨_, rfl⟩
      have hBV : Below w1.heap.size w1 V := by rw [hV]; exact (Below.refl _ _).alloc (Nat.le_refl _) _
      have hw3 := hw2.below hBV
      have HD3 := hide (deliver_any hw3.rep ⟨pr, pc, pn, ⟨pk, pa, pb, pt⟩, pd, pu⟩ (unhide HSM))
      dsimp only [APkt.val] at HD3
      have HW3 := hide hw3
      have HV := hide hV
      clear hw2 hV hBV hw3
      go_wp2_with fail
      rw [← unhide HV]
      refine (unhide HD3).mono ?_
      rintro e w4 ⟨rfl, hT⟩
      obtain ⟨o4, hw4⟩ := (unhide HW3).then hT
      have HW4 := hide hw4
      clear hT hw4
      go_wp2
      go_roundg (wght (A2.come ⟨pr, pc, pn, ⟨pk, pa, pb, pt⟩, pd, pu⟩).ms)
      case measure => exact Nat.lt_of_lt_of_le (unhide HW) (unhide HK)
      case rel => exact ⟨j + 1, o4, by rw [unhide HP]; exact unhide HW4, by rw [unhide HP]; exact Nat.le_refl _⟩

theorem send_fail {A : AW} {n : Int} (h : (A.send n).1 ≠ 0) : (A.send n).2 = A := by
  unfold AW.send at h ⊢
  split
  · rfl
  rename_i h1
  rw [if_neg h1] at h
  split
  · rfl
  rename_i h2
  rw [if_neg h2] at h
  split
  · rename_i h3
    rw [if_pos h3] at h
    exact absurd rfl h
  · rfl
theorem sends_idle {A : AW} (h : A.busy = false) : A.sends = A := by
  unfold AW.busy at h
  simp only [Bool.or_eq_false_iff, decide_eq_false_iff_not] at h
  obtain ⟨⟨h0, h1⟩, h2⟩ := h
  have e0 := send_fail h0
  rw [e0] at h1 h2
  have e1 := send_fail h1
  rw [e1] at h2
  unfold AW.sends
  rw [e0, e1]
  exact send_fail h2
/-- The first q clients have sent. -/
def AW.sendN (A : AW) : Nat → AW
  | 0 => A
  | q + 1 => ((A.sendN q).send q).2
def AW.busyN (A : AW) : Nat → Bool
  | 0 => false
  | q + 1 => if ((A.sendN q).send q).1 = 0 then true else A.busyN q
theorem sendN3 (A : AW) : A.sendN 3 = A.sends ∧ A.busyN 3 = A.busy := by
  refine ⟨rfl, ?_⟩
  have e0 : ((A.sendN 0).send (0 : Nat)).1 = (A.send 0).1 := rfl
  have e1 : ((A.sendN 1).send (1 : Nat)).1 = ((A.send 0).2.send 1).1 := rfl
  have e2 : ((A.sendN 2).send (2 : Nat)).1 = (((A.send 0).2.send 1).2.send 2).1 := rfl
  unfold AW.busyN AW.busyN AW.busyN AW.busyN AW.busy
  rw [e0, e1, e2]
  by_cases h2 : (((A.send 0).2.send 1).2.send 2).1 = 0
  · rw [if_pos h2, decide_eq_true h2, Bool.or_true]
  · rw [if_neg h2, decide_eq_false h2, Bool.or_false]
    by_cases h1 : ((A.send 0).2.send 1).1 = 0
    · rw [if_pos h1, decide_eq_true h1, Bool.or_true]
    · rw [if_neg h1, decide_eq_false h1, Bool.or_false]
      by_cases h0 : (A.send 0).1 = 0
      · rw [if_pos h0, decide_eq_true h0]
      · rw [if_neg h0, decide_eq_false h0]

set_option maxRecDepth 100000 in
set_option maxHeartbeats 4000000 in
theorem sendAll_any {N : Nat} {w : World} {W : Nat} {o : WOwn} {A : AW} (h : WRep N w W o A) :
    Calls Tryz.prog 135 #[.pointer (some ⟨W, 0, none⟩)] w fun e w' => e = .returned (.bool A.busy) ∧ WTurn N w W o w' A.sends := by
  have H0 := hide (WNow.refl h)
  clear h
  have HB3 : Hid (A.busyN 3 = A.busy ∧ A.sendN 3 = A.sends) := ⟨(sendN3 A).2, (sendN3 A).1⟩
  go_enter Tryz.func135, Tryz.ntmps135
  go_wp2_with fail
  go_loopw [3, 4, 5] (fun s _ i wr => ∃ q : Nat, q ≤ 3 ∧ i = .int .i64 (q : Int) ∧ s = .bool (A.busyN q) ∧ Hid (∃ o1, WNow N w W o wr o1 (A.sendN q))) (fun _ _ i _ => 3 - (intOf i).toNat)
  case atStart => exact ⟨0, Nat.zero_le _, rfl, rfl, o, unhide H0⟩
  case round =>
    obtain ⟨q, hq, rfl, rfl, HR⟩ := hrel
    by_cases hlt : (q : Int) < 3
    · obtain ⟨o1, hw1⟩ := unhide HR
      have HS := hide (wsend_any hw1.rep (q : Int))
      have HW1 := hide hw1
      have HE : Hid (A.busyN (q + 1) = (if ((A.sendN q).send q).1 = 0 then true else A.busyN q) ∧ A.sendN (q + 1) = ((A.sendN q).send q).2) := ⟨rfl, rfl⟩
      generalize A.busyN q = bq at HE ⊢
      generalize A.sendN q = Aq at HS HW1 HE HR hw1
      generalize Aq.send q = R at HS HE
      obtain ⟨r1, A2⟩ := R
      dsimp only at HS HE
      clear hw1 HR
      have HQ := hide hq
      have HLT := hide hlt
      by_cases hr : r1 = 0
      · subst hr
        go_wp2_with fail
        refine (unhide HS).mono ?_
        rintro e w4 ⟨rfl, hT⟩
        obtain ⟨o4, hw4⟩ := (unhide HW1).then hT
        have HW4 := hide hw4
        clear hT hw4
        go_wp2
        go_roundw
        case rel =>
          refine ⟨q + 1, by have := unhide HLT; omega, by go_num, ?_, o4, ?_⟩
          · rw [(unhide HE).1]; simp
          · rw [(unhide HE).2]; exact unhide HW4
        case measure => have := unhide HLT; simp [intOf]; omega
      · have hrb : (r1 == 0) = false := by simpa using hr
        have HE1 : Hid (A.busyN (q + 1) = bq) := by rw [show A.busyN (q + 1) = _ from (unhide HE).1, if_neg hr]; exact rfl
        clear hr
        go_wp2_with fail
        refine (unhide HS).mono ?_
        rintro e w4 ⟨rfl, hT⟩
        obtain ⟨o4, hw4⟩ := (unhide HW1).then hT
        have HW4 := hide hw4
        clear hT hw4
        go_wp2
        go_roundw
        case rel =>
          refine ⟨q + 1, by have := unhide HLT; omega, by go_num, ?_, o4, ?_⟩
          · rw [unhide HE1]
          · rw [(unhide HE).2]; exact unhide HW4
        case measure => have := unhide HLT; simp [intOf]; omega
    · obtain rfl : q = 3 := by omega
      clear hlt hq
      rw [(unhide HB3).2] at HR
      rw [(unhide HB3).1]
      go_wp2
      go_ret
      obtain ⟨o1, hw1⟩ := unhide HR
      exact ⟨rfl, hw1.turn⟩

set_option maxRecDepth 100000 in
set_option maxHeartbeats 4000000 in
theorem Calm_any {N : Nat} {w : World} {W : Nat} {o : WOwn} {A : AW} (h : WRep N w W o A) :
    Calls Tryz.prog 92 #[.pointer (some ⟨W, 0, none⟩)] w fun e w' => e = .returned (.int .i64 (AW.calm 3 A).1) ∧ WTurn N w W o w' (AW.calm 3 A).2 := by
  have H0 := hide (WNow.refl h)
  clear h
  go_enter Tryz.func92, Tryz.ntmps92
  go_wp2_with fail
  go_loopw [3] (fun s wr => ∃ q : Nat, q ≤ 3 ∧ s = .int .i64 (q : Int) ∧ Hid (∃ o1 A1, WNow N w W o wr o1 A1 ∧ AW.calm 3 A = AW.calm (3 - q) A1)) (fun s _ => 3 - (intOf s).toNat)
  case atStart => exact ⟨0, Nat.zero_le _, rfl, o, A, unhide H0, rfl⟩
  case round =>
    obtain ⟨q, hq, rfl, HR⟩ := hrel
    obtain ⟨o1, A1, hw1, hc⟩ := unhide HR
    clear HR
    have HDA := hide (deliverAll_any hw1.rep)
    have HW1 := hide hw1
    have HSA := hide (fun (wx : World) (o2 : WOwn) (hr : WRep N wx W o2 A1.drain) => sendAll_any hr)
    have HC := hide hc
    clear hw1 hc
    by_cases h3 : q = 3
    · subst h3
      clear hq
      have HC2 : Hid (AW.calm 3 A = (3, A1.drain)) := by rw [show AW.calm 3 A = AW.calm (3 - 3) A1 from unhide HC]; exact rfl
      generalize A1.drain = A2 at HDA HC2
      clear HC HSA
      go_wp2_with fail
      refine (unhide HDA).mono ?_
      rintro e w2 ⟨rfl, hT⟩
      obtain ⟨o2, hw2⟩ := (unhide HW1).then hT
      have HF := hide hw2.turn
      clear hT hw2
      go_wp2
      go_ret
      exact ⟨by rw [unhide HC2]; rfl, by rw [unhide HC2]; exact unhide HF⟩
    · obtain ⟨f, hf⟩ : ∃ f, 3 - q = f + 1 := ⟨2 - q, by omega⟩
      have hqf : (q : Int) = 2 - (f : Int) := by omega
      have HC2 : Hid (AW.calm 3 A = if A1.drain.busy = true then AW.calm f A1.drain.sends else (2 - (f : Int), A1.drain)) := by rw [show AW.calm 3 A = AW.calm (3 - q) A1 from unhide HC, hf]; exact rfl
      have hq3 : ((q : Int) == 3) = false := by simp; omega
      have hlt : (q : Int) < 3 := by omega
      have HQ : Hid (q < 3 ∧ (q : Int) = 2 - (f : Int) ∧ 3 - (q + 1) = f) := ⟨by omega, hqf, by omega⟩
      generalize A1.drain = A2 at HDA HC2 HSA
      clear HC hq h3 hf hqf
      cases hb : A2.busy
      · have hid := sends_idle hb
        rw [hb] at HC2 HSA
        rw [hid] at HSA
        rw [if_neg (by simp)] at HC2
        clear hb hid
        go_wp2_with fail
        refine (unhide HDA).mono ?_
        rintro e w2 ⟨rfl, hT⟩
        obtain ⟨o2, hw2⟩ := (unhide HW1).then hT
        have HS2 := hide ((unhide HSA) _ _ hw2.rep)
        have HW2 := hide hw2
        clear hT hw2
        go_wp2_with fail
        refine (unhide HS2).mono ?_
        rintro e w3 ⟨rfl, hT⟩
        obtain ⟨o3, hw3⟩ := (unhide HW2).then hT
        have HF := hide hw3.turn
        clear hT hw3
        have hqf := (unhide HQ).2.1
        have HQF := hide hqf
        clear hqf
        go_wp2
        go_ret
        exact ⟨by rw [unhide HC2, ← unhide HQF]; rfl, by rw [unhide HC2]; exact unhide HF⟩
      · rw [hb] at HC2 HSA
        rw [if_pos rfl] at HC2
        clear hb
        go_wp2_with fail
        refine (unhide HDA).mono ?_
        rintro e w2 ⟨rfl, hT⟩
        obtain ⟨o2, hw2⟩ := (unhide HW1).then hT
        have HS2 := hide ((unhide HSA) _ _ hw2.rep)
        have HW2 := hide hw2
        clear hT hw2
        go_wp2_with fail
        refine (unhide HS2).mono ?_
        rintro e w3 ⟨rfl, hT⟩
        obtain ⟨o3, hw3⟩ := (unhide HW2).then hT
        have HF := hide hw3
        clear hT hw3
        go_wp2
        go_roundw
        case rel =>
          refine ⟨q + 1, by have := (unhide HQ).1; omega, by go_num, o3, _, unhide HF, ?_⟩
          rw [(unhide HQ).2.2]
          exact unhide HC2
        case measure => have := (unhide HQ).1; simp [intOf]; omega

end Go.Proofs.YtffgolanmaenfacGreatDoor

namespace Go.Proofs.YtffgolanmaenfacGreatDoor
open Go.RowKit
set_option linter.unusedSimpArgs false
set_option linter.unusedVariables false

/-- q clients are made; h: the post's block, h + 1 the world's own. -/
def cptr (h i q : Nat) : Value := if i < q then .pointer (some ⟨h + 2 + i, 0, none⟩) else .pointer none
structure NewSt (w3 : World) (h S q : Nat) (wr : World) : Prop where
  sz : wr.heap.size = h + 2 + q
  blk : wr.heap[h + 1]? = some (.cells #[.pointer (some ⟨S, 0, none⟩), cptr h 0 q, cptr h 1 q, cptr h 2 q, .pointer (some ⟨h, 0, none⟩)] 64 (0, 0))
  cl : ∀ i, i < q → wr.heap[h + 2 + i]? = some (.cells #[.int .i64 (i : Int), .slice none 0 0, .int .i64 0, .string ⟨#[]⟩, .string ⟨#[]⟩, .string ⟨#[]⟩, .bool false] 118 (0, 0))
  kp : Kept [h + 1] w3 wr
theorem five {w : World} {b : Nat} {x0 x1 x2 x3 x4 : Value} {e : TypeId} (h : w.heap[b]? = some (.cells #[x0, x1, x2, x3, x4] e (0, 0))) :
    (w.cell? ⟨b, 0, none⟩ = some x0 ∧ w.cell? ⟨b, 1, none⟩ = some x1 ∧ w.cell? ⟨b, 2, none⟩ = some x2 ∧ w.cell? ⟨b, 3, none⟩ = some x3 ∧ w.cell? ⟨b, 4, none⟩ = some x4) ∧ ∀ j, w.frozen? ⟨b, j, none⟩ = false := by
  refine ⟨⟨?_, ?_, ?_, ?_, ?_⟩, fun j => frozen_of_row w b j _ _ h⟩ <;> rw [cell_of_row w b _ _ _ _ h] <;> rfl
theorem NewSt.next {w3 : World} {h S q : Nat} {wr : World} (hs : NewSt w3 h S q wr) (hq : q < 3) (hh : h + 2 ≤ w3.heap.size) :
    NewSt w3 h S (q + 1) ((wr.drew.alloc (.cells #[.int .i64 (q : Int), .slice none 0 0, .int .i64 0, .string ⟨#[]⟩, .string ⟨#[]⟩, .string ⟨#[]⟩, .bool false] 118)).setCell ⟨h + 1, 1 + q, none⟩ (.pointer (some ⟨wr.heap.size, 0, none⟩))) := by
  have hsz := hs.sz
  rw [hsz]
  have hbA : Below wr.heap.size wr (wr.drew.alloc (.cells #[.int .i64 (q : Int), .slice none 0 0, .int .i64 0, .string ⟨#[]⟩, .string ⟨#[]⟩, .string ⟨#[]⟩, .bool false] 118)) := below_drew_alloc wr _
  have hnew : (wr.drew.alloc (.cells #[.int .i64 (q : Int), .slice none 0 0, .int .i64 0, .string ⟨#[]⟩, .string ⟨#[]⟩, .string ⟨#[]⟩, .bool false] 118)).heap[wr.heap.size]? = some (.cells #[.int .i64 (q : Int), .slice none 0 0, .int .i64 0, .string ⟨#[]⟩, .string ⟨#[]⟩, .string ⟨#[]⟩, .bool false] 118 (0, 0)) := heap_alloc_new wr.drew _
  have hzA : (wr.drew.alloc (.cells #[.int .i64 (q : Int), .slice none 0 0, .int .i64 0, .string ⟨#[]⟩, .string ⟨#[]⟩, .string ⟨#[]⟩, .bool false] 118)).heap.size = wr.heap.size + 1 := al_size wr.drew _
  generalize wr.drew.alloc (.cells #[.int .i64 (q : Int), .slice none 0 0, .int .i64 0, .string ⟨#[]⟩, .string ⟨#[]⟩, .string ⟨#[]⟩, .bool false] 118) = V at hbA hnew hzA ⊢
  have hb1 := (hbA.block (h + 1) (by omega)).trans hs.blk
  have k : Kept [h + 1] V (V.setCell ⟨h + 1, 1 + q, none⟩ (.pointer (some ⟨h + 2 + q, 0, none⟩))) := kept_setCell [h + 1] V (h + 1) (1 + q) _ (by simp)
  have hzk : (V.setCell ⟨h + 1, 1 + q, none⟩ (.pointer (some ⟨h + 2 + q, 0, none⟩))).heap.size = V.heap.size := by simp [World.setCell]
  have hb2 := heap_setCell_same (o := 1 + q) hb1 (.pointer (some ⟨h + 2 + q, 0, none⟩))
  refine ⟨by rw [hzk]; omega, ?_, fun i hi => ?_, hs.kp.trans ((Kept.of_below (own := [h + 1]) hbA).trans k (fun x hx => .inl hx)) (fun x hx => .inl hx)⟩
  · rw [hb2]
    match q, hq with
    | 0, _ => rfl
    | 1, _ => rfl
    | 2, _ => rfl
  · refine (k.block (h + 2 + i) (by omega) (by simp; omega)).trans ?_
    by_cases e : i = q
    · subst e
      rw [← hsz]; exact hnew
    · exact (hbA.block (h + 2 + i) (by omega)).trans (hs.cl i (by omega))

theorem KRep.of_new {N X : Nat} {w : World} {me : Int} (h : w.heap[X]? = some (.cells #[.int .i64 me, .slice none 0 0, .int .i64 0, .string ⟨#[]⟩, .string ⟨#[]⟩, .string ⟨#[]⟩, .bool false] 118 (0, 0))) (hN : N ≤ X) : KRep N w X (.slice none 0 0) ⟨me, [], zeroCall, false⟩ :=
  ⟨⟨hN, h, World.ownsRow_nil _ _ _ _, by simp [Value.ownBlock]⟩, COk.start me⟩
/-- All is made. -/
theorem NewSt.world {N : Nat} {w1 w3 : World} {S B : Nat} {own : List Nat} {lv : Value} {wr : World} (hr : SRep N w1 S B own lv []) (hN : N ≤ w1.heap.size) (hb : Below w1.heap.size w1 w3) (hP : w3.heap[w1.heap.size]? = some (.cells #[.slice none 0 0] 116 (0, 0))) (hs : NewSt w3 w1.heap.size S 3 wr) :
    WRep N wr (w1.heap.size + 1) ⟨S, B, own, lv, fun i => w1.heap.size + 2 + i, fun _ => .slice none 0 0, w1.heap.size, .slice none 0 0⟩ AW.start := by
  have hP2 : wr.heap[w1.heap.size]? = some (.cells #[.slice none 0 0] 116 (0, 0)) := (hs.kp.block _ (Array.getElem?_eq_some_iff.1 hP).1 (by simp)).trans hP
  have hs3 : SRep N w3 S B own lv [] := hr.below hb
  have hge := sown_ge hr
  have hp : ∀ i, i < 5 → ∀ b, b ∈ (⟨S, B, own, lv, fun i => w1.heap.size + 2 + i, fun _ => .slice none 0 0, w1.heap.size, .slice none 0 0⟩ : WOwn).part i → (i = 3 ∧ b < w1.heap.size) ∨ (i = 4 ∧ b = w1.heap.size) ∨ (i < 3 ∧ b = w1.heap.size + 2 + i) := fun i hi b hm => by
    match i, hi with
    | 0, _ => simp [WOwn.part, powns, Value.ownBlock] at hm; omega
    | 1, _ => simp [WOwn.part, powns, Value.ownBlock] at hm; omega
    | 2, _ => simp [WOwn.part, powns, Value.ownBlock] at hm; omega
    | 3, _ => exact .inl ⟨rfl, (hge b hm).2⟩
    | 4, _ => simp [WOwn.part, powns, Value.ownBlock] at hm; omega
  refine ⟨by omega, ?_, hs3.kept hs.kp (fun k hk hm => ?_), fun n hn => KRep.of_new (hs.cl n hn) (show N ≤ w1.heap.size + 2 + n by omega), ⟨hN, hP2, World.ownsRow_nil _ _ _ _, by simp [Value.ownBlock], by simp [AW.start], by simp [AW.start]⟩, fun i j hi hj hij b h1 h2 => ?_, fun i hi hm => ?_, by simp [AW.start, logB]⟩
  · rw [hs.blk]; rfl
  · have := (hge k hk).2
    simp at hm; omega
  · rcases hp i hi b h1 with h | h | h <;> rcases hp j hj b h2 with h' | h' | h' <;> omega
  · rcases hp i hi _ hm with h | h | h <;> omega

set_option maxRecDepth 100000 in
set_option maxHeartbeats 4000000 in
theorem WNew_any (w : World) :
    Calls Tryz.prog 12 #[] w fun e w' => ∃ W o, e = .returned (.pointer (some ⟨W, 0, none⟩)) ∧ WRep w.heap.size w' W o AW.start ∧ Below w.heap.size w w' := by
  have HSN := hide (SNew_any w)
  have HPN := hide New_P
  go_enter Tryz.func12, Tryz.ntmps12
  go_wp2_with fail
  refine (unhide HSN).mono ?_
  rintro e w1 ⟨S, B, own, lv, rfl, hr1, hb1⟩
  have HR1 := hide hr1
  have HB1 := hide hb1
  clear hr1 hb1
  go_wp2_with fail
  refine ((unhide HPN) _).mono ?_
  rintro e w2 ⟨rfl, rfl⟩
  obtain ⟨V, hV⟩ : ∃ V, V = (w1.alloc (.cells #[.slice none 0 0] 116)).alloc (.cells #[.pointer (some ⟨S, 0, none⟩), .pointer none, .pointer none, .pointer none, .pointer (some ⟨w1.heap.size, 0, none⟩)] 64) := ⟨_, rfl⟩
  have hbV : Below w1.heap.size w1 V := by rw [hV]; exact ((Below.refl _ _).alloc (Nat.le_refl _) _).alloc (by simp) _
  have hPV : V.heap[w1.heap.size]? = some (.cells #[.slice none 0 0] 116 (0, 0)) := by rw [hV, Below.heap_alloc _ _ _ (by simp)]; exact heap_alloc_new _ _
  have hWV : V.heap[w1.heap.size + 1]? = some (.cells #[.pointer (some ⟨S, 0, none⟩), .pointer none, .pointer none, .pointer none, .pointer (some ⟨w1.heap.size, 0, none⟩)] 64 (0, 0)) := by rw [hV]; have := heap_alloc_new (w1.alloc (.cells #[.slice none 0 0] 116)) (.cells #[.pointer (some ⟨S, 0, none⟩), .pointer none, .pointer none, .pointer none, .pointer (some ⟨w1.heap.size, 0, none⟩)] 64); rw [al_size] at this; exact this
  have hzV : V.heap.size = w1.heap.size + 2 := by rw [hV]; simp
  have HST : Hid (NewSt V w1.heap.size S 0 V) := ⟨by omega, hWV, fun i hi => absurd hi (by omega), Kept.refl _ _⟩
  have HH : Hid (w1.heap.size + 2 ≤ V.heap.size) := by show _ ≤ _; omega
  have HFIN := hide (fun wr (hs : NewSt V w1.heap.size S 3 wr) => And.intro ((unhide HR1).base (N := w.heap.size) (Nat.le_refl _) |>.below (Below.refl _ _) |> fun h => NewSt.world h (unhide HB1).size hbV hPV hs) (((unhide HB1).trans (hbV.mono (unhide HB1).size)).trans (hs.kp.below (Nat.le_trans (unhide HB1).size hbV.size) (fun k hk => by simp at hk; subst hk; have := (unhide HB1).size; omega))))
  have HV := hide hV
  clear hV hbV hPV hWV hzV
  go_wp2_with fail
  rw [← unhide HV]
  go_loopw [2, 7] (fun _ i wr => ∃ q : Nat, q ≤ 3 ∧ i = .int .i64 (q : Int) ∧ Hid (NewSt V w1.heap.size S q wr)) (fun _ i _ => 3 - (intOf i).toNat)
  case atStart => exact ⟨0, Nat.zero_le _, rfl, unhide HST⟩
  case round =>
    obtain ⟨q, hq, rfl, HQ⟩ := hrel
    match q, hq with
    | 3, _ =>
      go_wp2
      go_ret
      exact ⟨_, _, rfl, (unhide HFIN) _ (unhide HQ)⟩
    | 0, _ =>
      obtain ⟨⟨y0, y1, y2, y3, y4⟩, yf⟩ := five (unhide HQ).blk
      have hc3 : (0 : Int) < 3 := by omega
      have HSZ := hide (unhide HQ).sz
      have HCN := hide (New_some (0 : Int) wr.drew (by omega))
      have HNX := hide ((unhide HQ).next (by omega) (unhide HH))
      clear y0 y1 y2 y3 y4 yf
      go_wp2_with fail
      refine wp_region_held_drew (S := (fun wx => True)) (by kernel_rfl) (trivial) (fun hHeld => ?_)
      refine wpAnyH_take (i := 0) (v := ?_) opn0 (by kernel_rfl) (by kernel_rfl) (by kernel_rfl) (fun _ _ _ h => h) (Or.inl ⟨by kernel_rfl, ?_⟩) (by assumption) ?_
      rotate_left 1
      · intro wz hSw
        try dsimp only at hSw
        go_simp
        all_goals with_reducible rfl
      try simp only [Act.put, List.setIfInBounds_toArray, List.set_cons_zero, List.set_cons_succ]
      refine wpAnyH_take (i := 1) (v := ?_) opn1 (by kernel_rfl) (by kernel_rfl) (by kernel_rfl) (fun _ _ _ h => h) (Or.inl ⟨by kernel_rfl, ?_⟩) (by assumption) ?_
      rotate_left 1
      · intro wz hSw
        try dsimp only at hSw
        go_simp
        all_goals with_reducible rfl
      try simp only [Act.put, List.setIfInBounds_toArray, List.set_cons_zero, List.set_cons_succ]
      refine wpAnyH_take (i := 2) (v := ?_) opn2 (by kernel_rfl) (by kernel_rfl) (by kernel_rfl) (fun _ _ _ h => h) (Or.inl ⟨by kernel_rfl, ?_⟩) (by assumption) ?_
      rotate_left 1
      · intro wz hSw
        try dsimp only at hSw
        go_simp
        all_goals with_reducible rfl
      try simp only [Act.put, List.setIfInBounds_toArray, List.set_cons_zero, List.set_cons_succ]
      refine wpAnyH_take (i := 4) (v := ?_) opn4 (by kernel_rfl) (by kernel_rfl) (by kernel_rfl) (fun _ _ _ h => h) (Or.inl ⟨by kernel_rfl, ?_⟩) (by assumption) ?_
      rotate_left 1
      · intro wz hSw
        try dsimp only at hSw
        go_simp
        all_goals with_reducible rfl
      try simp only [Act.put, List.setIfInBounds_toArray, List.set_cons_zero, List.set_cons_succ]
      refine wpAnyH_take (i := 5) (v := ?_) opn5 (by kernel_rfl) (by kernel_rfl) (by kernel_rfl) (fun _ _ _ h => h) (Or.inl ⟨by kernel_rfl, ?_⟩) (by assumption) ?_
      rotate_left 1
      · intro wz hSw
        try dsimp only at hSw
        go_simp
        all_goals with_reducible rfl
      try simp only [Act.put, List.setIfInBounds_toArray, List.set_cons_zero, List.set_cons_succ]
      refine wpAnyH_ready (rs := [3]) (by kernel_rfl) (by simp) ?_
      refine AllReadyH.cons opn3 (fun K hK => ?_) AllReadyH.nil
      rw [if_pos (by kernel_rfl)]
      go_simp
      refine (unhide HCN).mono ?_
      rintro e w4 ⟨rfl, hw4⟩
      have HW4 := hide hw4
      clear hw4
      refine hK.out _ _ (trivial) (fun hHeldN => ?_)
      clear hHeld hK K
      have hHeld := hHeldN
      clear hHeldN
      try simp only [Act.put, List.setIfInBounds_toArray, List.set_cons_zero, List.set_cons_succ]
      refine wpAnyH_take (i := 6) (v := ?_) opn6 (by kernel_rfl) (by kernel_rfl) (by kernel_rfl) (fun _ _ _ h => h) (Or.inl ⟨by kernel_rfl, ?_⟩) (by assumption) ?_
      rotate_left 1
      · intro wz hSw
        try dsimp only at hSw
        go_simp
        all_goals with_reducible rfl
      try simp only [Act.put, List.setIfInBounds_toArray, List.set_cons_zero, List.set_cons_succ]
      have hb4 : w4.heap[w1.heap.size + 1]? = wr.heap[w1.heap.size + 1]? := by rw [unhide HW4]; exact (below_drew_alloc wr _).block _ (by have := unhide HSZ; omega)
      obtain ⟨⟨y0, y1, y2, y3, y4⟩, yf⟩ := five (hb4.trans (unhide HQ).blk)
      have yf0 := yf 1
      refine wpAnyH_ready (rs := [7]) (by kernel_rfl) (by simp) ?_
      refine AllReadyH.cons opn7 (fun K hK => ?_) AllReadyH.nil
      rw [if_pos (by kernel_rfl)]
      go_simp
      clear y0 y1 y2 y3 y4 yf yf0 hb4
      refine hK.out _ _ (trivial) (fun hHeldN => ?_)
      clear hHeld hK K
      have hHeld := hHeldN
      clear hHeldN
      try simp only [Act.put, List.setIfInBounds_toArray, List.set_cons_zero, List.set_cons_succ]
      refine wpAnyH_done (by kernel_rfl) ?_ _
      go_wp2
      go_roundw
      case rel =>
        refine ⟨1, by omega, rfl, ?_⟩
        have h9 := unhide HNX
        have h8 : NewSt V w1.heap.size S 1 (w4.setCell ⟨w1.heap.size + 1, 1, none⟩ (.pointer (some ⟨wr.heap.size, 0, none⟩))) := by rw [unhide HW4]; exact h9
        first | exact h8 | exact h8.drewR
      case measure => simp [intOf]
    | 1, _ =>
      obtain ⟨⟨y0, y1, y2, y3, y4⟩, yf⟩ := five (unhide HQ).blk
      have hc3 : (1 : Int) < 3 := by omega
      have HSZ := hide (unhide HQ).sz
      have HCN := hide (New_some (1 : Int) wr.drew (by omega))
      have HNX := hide ((unhide HQ).next (by omega) (unhide HH))
      clear y0 y1 y2 y3 y4 yf
      go_wp2_with fail
      refine wp_region_held_drew (S := (fun wx => True)) (by kernel_rfl) (trivial) (fun hHeld => ?_)
      refine wpAnyH_take (i := 0) (v := ?_) opn0 (by kernel_rfl) (by kernel_rfl) (by kernel_rfl) (fun _ _ _ h => h) (Or.inl ⟨by kernel_rfl, ?_⟩) (by assumption) ?_
      rotate_left 1
      · intro wz hSw
        try dsimp only at hSw
        go_simp
        all_goals with_reducible rfl
      try simp only [Act.put, List.setIfInBounds_toArray, List.set_cons_zero, List.set_cons_succ]
      refine wpAnyH_take (i := 1) (v := ?_) opn1 (by kernel_rfl) (by kernel_rfl) (by kernel_rfl) (fun _ _ _ h => h) (Or.inl ⟨by kernel_rfl, ?_⟩) (by assumption) ?_
      rotate_left 1
      · intro wz hSw
        try dsimp only at hSw
        go_simp
        all_goals with_reducible rfl
      try simp only [Act.put, List.setIfInBounds_toArray, List.set_cons_zero, List.set_cons_succ]
      refine wpAnyH_take (i := 2) (v := ?_) opn2 (by kernel_rfl) (by kernel_rfl) (by kernel_rfl) (fun _ _ _ h => h) (Or.inl ⟨by kernel_rfl, ?_⟩) (by assumption) ?_
      rotate_left 1
      · intro wz hSw
        try dsimp only at hSw
        go_simp
        all_goals with_reducible rfl
      try simp only [Act.put, List.setIfInBounds_toArray, List.set_cons_zero, List.set_cons_succ]
      refine wpAnyH_take (i := 4) (v := ?_) opn4 (by kernel_rfl) (by kernel_rfl) (by kernel_rfl) (fun _ _ _ h => h) (Or.inl ⟨by kernel_rfl, ?_⟩) (by assumption) ?_
      rotate_left 1
      · intro wz hSw
        try dsimp only at hSw
        go_simp
        all_goals with_reducible rfl
      try simp only [Act.put, List.setIfInBounds_toArray, List.set_cons_zero, List.set_cons_succ]
      refine wpAnyH_take (i := 5) (v := ?_) opn5 (by kernel_rfl) (by kernel_rfl) (by kernel_rfl) (fun _ _ _ h => h) (Or.inl ⟨by kernel_rfl, ?_⟩) (by assumption) ?_
      rotate_left 1
      · intro wz hSw
        try dsimp only at hSw
        go_simp
        all_goals with_reducible rfl
      try simp only [Act.put, List.setIfInBounds_toArray, List.set_cons_zero, List.set_cons_succ]
      refine wpAnyH_ready (rs := [3]) (by kernel_rfl) (by simp) ?_
      refine AllReadyH.cons opn3 (fun K hK => ?_) AllReadyH.nil
      rw [if_pos (by kernel_rfl)]
      go_simp
      refine (unhide HCN).mono ?_
      rintro e w4 ⟨rfl, hw4⟩
      have HW4 := hide hw4
      clear hw4
      refine hK.out _ _ (trivial) (fun hHeldN => ?_)
      clear hHeld hK K
      have hHeld := hHeldN
      clear hHeldN
      try simp only [Act.put, List.setIfInBounds_toArray, List.set_cons_zero, List.set_cons_succ]
      refine wpAnyH_take (i := 6) (v := ?_) opn6 (by kernel_rfl) (by kernel_rfl) (by kernel_rfl) (fun _ _ _ h => h) (Or.inl ⟨by kernel_rfl, ?_⟩) (by assumption) ?_
      rotate_left 1
      · intro wz hSw
        try dsimp only at hSw
        go_simp
        all_goals with_reducible rfl
      try simp only [Act.put, List.setIfInBounds_toArray, List.set_cons_zero, List.set_cons_succ]
      have hb4 : w4.heap[w1.heap.size + 1]? = wr.heap[w1.heap.size + 1]? := by rw [unhide HW4]; exact (below_drew_alloc wr _).block _ (by have := unhide HSZ; omega)
      obtain ⟨⟨y0, y1, y2, y3, y4⟩, yf⟩ := five (hb4.trans (unhide HQ).blk)
      have yf0 := yf 2
      refine wpAnyH_ready (rs := [7]) (by kernel_rfl) (by simp) ?_
      refine AllReadyH.cons opn7 (fun K hK => ?_) AllReadyH.nil
      rw [if_pos (by kernel_rfl)]
      go_simp
      clear y0 y1 y2 y3 y4 yf yf0 hb4
      refine hK.out _ _ (trivial) (fun hHeldN => ?_)
      clear hHeld hK K
      have hHeld := hHeldN
      clear hHeldN
      try simp only [Act.put, List.setIfInBounds_toArray, List.set_cons_zero, List.set_cons_succ]
      refine wpAnyH_done (by kernel_rfl) ?_ _
      go_wp2
      go_roundw
      case rel =>
        refine ⟨2, by omega, rfl, ?_⟩
        have h9 := unhide HNX
        have h8 : NewSt V w1.heap.size S 2 (w4.setCell ⟨w1.heap.size + 1, 2, none⟩ (.pointer (some ⟨wr.heap.size, 0, none⟩))) := by rw [unhide HW4]; exact h9
        first | exact h8 | exact h8.drewR
      case measure => simp [intOf]
    | 2, _ =>
      obtain ⟨⟨y0, y1, y2, y3, y4⟩, yf⟩ := five (unhide HQ).blk
      have hc3 : (2 : Int) < 3 := by omega
      have HSZ := hide (unhide HQ).sz
      have HCN := hide (New_some (2 : Int) wr.drew (by omega))
      have HNX := hide ((unhide HQ).next (by omega) (unhide HH))
      clear y0 y1 y2 y3 y4 yf
      go_wp2_with fail
      refine wp_region_held_drew (S := (fun wx => True)) (by kernel_rfl) (trivial) (fun hHeld => ?_)
      refine wpAnyH_take (i := 0) (v := ?_) opn0 (by kernel_rfl) (by kernel_rfl) (by kernel_rfl) (fun _ _ _ h => h) (Or.inl ⟨by kernel_rfl, ?_⟩) (by assumption) ?_
      rotate_left 1
      · intro wz hSw
        try dsimp only at hSw
        go_simp
        all_goals with_reducible rfl
      try simp only [Act.put, List.setIfInBounds_toArray, List.set_cons_zero, List.set_cons_succ]
      refine wpAnyH_take (i := 1) (v := ?_) opn1 (by kernel_rfl) (by kernel_rfl) (by kernel_rfl) (fun _ _ _ h => h) (Or.inl ⟨by kernel_rfl, ?_⟩) (by assumption) ?_
      rotate_left 1
      · intro wz hSw
        try dsimp only at hSw
        go_simp
        all_goals with_reducible rfl
      try simp only [Act.put, List.setIfInBounds_toArray, List.set_cons_zero, List.set_cons_succ]
      refine wpAnyH_take (i := 2) (v := ?_) opn2 (by kernel_rfl) (by kernel_rfl) (by kernel_rfl) (fun _ _ _ h => h) (Or.inl ⟨by kernel_rfl, ?_⟩) (by assumption) ?_
      rotate_left 1
      · intro wz hSw
        try dsimp only at hSw
        go_simp
        all_goals with_reducible rfl
      try simp only [Act.put, List.setIfInBounds_toArray, List.set_cons_zero, List.set_cons_succ]
      refine wpAnyH_take (i := 4) (v := ?_) opn4 (by kernel_rfl) (by kernel_rfl) (by kernel_rfl) (fun _ _ _ h => h) (Or.inl ⟨by kernel_rfl, ?_⟩) (by assumption) ?_
      rotate_left 1
      · intro wz hSw
        try dsimp only at hSw
        go_simp
        all_goals with_reducible rfl
      try simp only [Act.put, List.setIfInBounds_toArray, List.set_cons_zero, List.set_cons_succ]
      refine wpAnyH_take (i := 5) (v := ?_) opn5 (by kernel_rfl) (by kernel_rfl) (by kernel_rfl) (fun _ _ _ h => h) (Or.inl ⟨by kernel_rfl, ?_⟩) (by assumption) ?_
      rotate_left 1
      · intro wz hSw
        try dsimp only at hSw
        go_simp
        all_goals with_reducible rfl
      try simp only [Act.put, List.setIfInBounds_toArray, List.set_cons_zero, List.set_cons_succ]
      refine wpAnyH_ready (rs := [3]) (by kernel_rfl) (by simp) ?_
      refine AllReadyH.cons opn3 (fun K hK => ?_) AllReadyH.nil
      rw [if_pos (by kernel_rfl)]
      go_simp
      refine (unhide HCN).mono ?_
      rintro e w4 ⟨rfl, hw4⟩
      have HW4 := hide hw4
      clear hw4
      refine hK.out _ _ (trivial) (fun hHeldN => ?_)
      clear hHeld hK K
      have hHeld := hHeldN
      clear hHeldN
      try simp only [Act.put, List.setIfInBounds_toArray, List.set_cons_zero, List.set_cons_succ]
      refine wpAnyH_take (i := 6) (v := ?_) opn6 (by kernel_rfl) (by kernel_rfl) (by kernel_rfl) (fun _ _ _ h => h) (Or.inl ⟨by kernel_rfl, ?_⟩) (by assumption) ?_
      rotate_left 1
      · intro wz hSw
        try dsimp only at hSw
        go_simp
        all_goals with_reducible rfl
      try simp only [Act.put, List.setIfInBounds_toArray, List.set_cons_zero, List.set_cons_succ]
      have hb4 : w4.heap[w1.heap.size + 1]? = wr.heap[w1.heap.size + 1]? := by rw [unhide HW4]; exact (below_drew_alloc wr _).block _ (by have := unhide HSZ; omega)
      obtain ⟨⟨y0, y1, y2, y3, y4⟩, yf⟩ := five (hb4.trans (unhide HQ).blk)
      have yf0 := yf 3
      refine wpAnyH_ready (rs := [7]) (by kernel_rfl) (by simp) ?_
      refine AllReadyH.cons opn7 (fun K hK => ?_) AllReadyH.nil
      rw [if_pos (by kernel_rfl)]
      go_simp
      clear y0 y1 y2 y3 y4 yf yf0 hb4
      refine hK.out _ _ (trivial) (fun hHeldN => ?_)
      clear hHeld hK K
      have hHeld := hHeldN
      clear hHeldN
      try simp only [Act.put, List.setIfInBounds_toArray, List.set_cons_zero, List.set_cons_succ]
      refine wpAnyH_done (by kernel_rfl) ?_ _
      go_wp2
      go_roundw
      case rel =>
        refine ⟨3, by omega, rfl, ?_⟩
        have h9 := unhide HNX
        have h8 : NewSt V w1.heap.size S 3 (w4.setCell ⟨w1.heap.size + 1, 3, none⟩ (.pointer (some ⟨wr.heap.size, 0, none⟩))) := by rw [unhide HW4]; exact h9
        first | exact h8 | exact h8.drewR
      case measure => simp [intOf]

end Go.Proofs.YtffgolanmaenfacGreatDoor

namespace Go.Proofs.YtffgolanmaenfacGreatDoor
open Go.RowKit
set_option linter.unusedSimpArgs false
set_option linter.unusedVariables false

def dF (W : Nat) (p v : Value) : Array Value := #[p, v, .pointer (some ⟨W, 0, none⟩)]
theorem dok (W : Nat) : EOk (dF W) 46 := ⟨fun p v => ⟨rfl, rfl, fun u => ⟨rfl, rfl⟩⟩, ⟨3, fun _ _ => rfl, by omega, by kernel_rfl⟩, by decide⟩
/-- A desk at block D: what it has told so far, its world. -/
structure DS (N : Nat) (w : World) (D W : Nat) (p v : Value) (o : WOwn) (bs : List UInt8) (A : AW) : Prop where
  e : EX (dF W) 46 N D p v bs w
  w : WRep N w W o A
  dj : ∀ k, k ∈ eown D v → k ∉ o.all W
  i : DInv A
def down (D W : Nat) (v : Value) (o : WOwn) : List Nat := eown D v ++ o.all W
theorem mem_down {D W : Nat} {v : Value} {o : WOwn} {k : Nat} : k ∈ down D W v o ↔ k ∈ eown D v ∨ k ∈ o.all W := by unfold down; exact List.mem_append
/-- The desk has come to this. -/
def DOut (N : Nat) (w : World) (own : List Nat) (D W : Nat) (bs : List UInt8) (A : AW) (w' : World) : Prop := ∃ p v o, DS N w' D W p v o bs A ∧ Next N w w' own (down D W v o)
section
variable {N : Nat} {w w' w1 : World} {D W : Nat} {p v : Value} {o : WOwn} {bs bs' : List UInt8} {A A' : AW} {own : List Nat}
theorem EX.lt {F : Value → Value → Array Value} {T : TypeId} (h : EX F T N D p v bs w) : ∀ k, k ∈ eown D v → N ≤ k ∧ k < w.heap.size := fun k hk => by
  rcases List.mem_cons.1 hk with rfl | hk
  · exact ⟨h.new, elt h.blk⟩
  · exact h.row.lt k (by simpa using hk)
theorem DS.size (h : DS N w D W p v o bs A) : N ≤ w.heap.size := h.e.size
theorem DS.below (h : DS N w D W p v o bs A) (hb : Below w.heap.size w w') : DS N w' D W p v o bs A := ⟨h.e.below hb, h.w.below hb, h.dj, h.i⟩
theorem DS.ge (h : DS N w D W p v o bs A) : ∀ k, k ∈ down D W v o → N ≤ k ∧ k < w.heap.size := fun k hk => by
  rcases mem_down.1 hk with hk | hk
  · exact h.e.lt k hk
  · exact h.w.all_ge k hk
theorem DS.kept {ow : List Nat} (h : DS N w D W p v o bs A) (hk : Kept ow w w') (hd : ∀ k, k ∈ down D W v o → k ∉ ow) : DS N w' D W p v o bs A :=
  ⟨h.e.kept hk (fun k hm => hd k (mem_down.2 (.inl hm))), h.w.kept hk (fun k hm => hd k (mem_down.2 (.inr hm))), h.dj, h.i⟩
theorem DS.out (h : DS N w D W p v o bs A) (hb : Below w.heap.size w w') : DOut N w (down D W v o) D W bs A w' := ⟨p, v, o, h.below hb, Next.of_below _ hb h.size⟩
theorem DS.wrote (h : DS N w D W p v o bs A) (hT : ETurn (dF W) 46 N D v w w' bs') : DOut N w (down D W v o) D W bs' A w' := by
  obtain ⟨p', v', he, hn⟩ := hT
  refine ⟨p', v', o, ⟨he, h.w.kept hn.kept (fun k hk hm => h.dj k hm hk), fun k hk hm => ?_, h.i⟩, hn.below, fun b hb hnb => ?_⟩
  · exact (hn.keep k (h.w.all_ge k hm).2 (fun h1 => h.dj k h1 hm)).1 hk
  · have h1 := hn.keep b hb (fun hm => hnb (mem_down.2 (.inl hm)))
    refine ⟨fun hm => ?_, h1.2⟩
    rcases mem_down.1 hm with hm | hm
    · exact h1.1 hm
    · exact hnb (mem_down.2 (.inr hm))
theorem DS.stepped (h : DS N w D W p v o bs A) (hT : WTurn N w W o w' A') (hi : DInv A') : DOut N w (down D W v o) D W bs A' w' := by
  obtain ⟨o', hw, hn⟩ := hT
  refine ⟨p, v, o', ⟨h.e.kept hn.kept h.dj, hw, fun k hk hm => ?_, hi⟩, hn.below, fun b hb hnb => ?_⟩
  · exact (hn.keep k (h.e.lt k hk).2 (h.dj k hk)).1 hm
  · have h1 := hn.keep b hb (fun hm => hnb (mem_down.2 (.inr hm)))
    refine ⟨fun hm => ?_, h1.2⟩
    rcases mem_down.1 hm with hm | hm
    · exact hnb (mem_down.2 (.inl hm))
    · exact h1.1 hm
theorem DOut.then {w2 : World} (h : DOut N w own D W bs A w1) (h2 : ∀ p v o, DS N w1 D W p v o bs A → DOut N w1 (down D W v o) D W bs' A' w2) : DOut N w own D W bs' A' w2 := by
  obtain ⟨p, v, o, h1, hn⟩ := h
  obtain ⟨p2, v2, o2, h3, hn2⟩ := h2 p v o h1
  exact ⟨p2, v2, o2, h3, hn.trans hn2⟩
theorem DOut.after (h : DOut N w own D W bs A w1) (hb : Below w1.heap.size w1 w') : DOut N w own D W bs A w' := h.then fun _ _ _ h1 => h1.out hb
theorem DOut.before (hb : Below w.heap.size w w1) (hN : N ≤ w.heap.size) (h : DOut N w1 own D W bs A w') : DOut N w own D W bs A w' := by
  obtain ⟨p, v, o, h1, hn⟩ := h
  exact ⟨p, v, o, h1, (Next.of_below own hb hN).trans hn⟩
theorem DOut.below (h : DOut N w own D W bs A w') : Below N w w' := by
  obtain ⟨p, v, o, h1, hn⟩ := h
  exact hn.below
end

/-- What is read of the variables: it stands as long as their blocks do. -/
def GN : Nat := 9
def GW (w : World) : Prop := GN ≤ w.heap.size ∧ ∀ w', Below GN w w' → LW w' ∧ NW w'
theorem GW.on {w w' : World} {B : Nat} (h : GW w) (hb : Below B w w') (hB : GN ≤ B) : GW w' := ⟨Nat.le_trans h.1 hb.size, fun w2 h2 => h.2 w2 ((hb.mono hB).trans h2)⟩
theorem GW.lw {w : World} (h : GW w) : LW w := (h.2 w (Below.refl _ _)).1
theorem GW.nw {w : World} (h : GW w) : NW w := (h.2 w (Below.refl _ _)).2
theorem GW.below {w w' : World} (h : GW w) (hb : Below w.heap.size w w') : GW w' := h.on hb h.1

/-- A row of texts. -/
def XRow (w : World) (g : Nat) (xs : List ByteArray) : Prop := g < w.heap.size ∧ ∀ (j : Nat) (x : ByteArray), xs[j]? = some x → w.cell? ⟨g, 0 + j, none⟩ = some (.string x)
theorem XRow.below {w w' : World} {g : Nat} {xs : List ByteArray} (h : XRow w g xs) (hb : Below w.heap.size w w') : XRow w' g xs := ⟨Nat.lt_of_lt_of_le h.1 hb.size, fun j x hx => (hb.cell h.1).trans (h.2 j x hx)⟩
theorem XRow.one {w : World} {g : Nat} {x : ByteArray} {t : TypeId} {fr : Nat × Nat} (h : w.heap[g]? = some (.cells #[.string x] t fr)) : XRow w g [x] := ⟨elt h, fun j y hy => by
  rw [Lib.cell_of_heap h]
  match j, hy with
  | 0, hy => simp at hy; subst hy; rfl⟩
theorem XRow.two {w : World} {g : Nat} {x y : ByteArray} {t : TypeId} {fr : Nat × Nat} (h : w.heap[g]? = some (.cells #[.string x, .string y] t fr)) : XRow w g [x, y] := ⟨elt h, fun j z hz => by
  rw [Lib.cell_of_heap h]
  match j, hz with
  | 0, hz => simp at hz; subst hz; rfl
  | 1, hz => simp at hz; subst hz; rfl⟩
theorem XRow.three {w : World} {g : Nat} {x y z : ByteArray} {t : TypeId} {fr : Nat × Nat} (h : w.heap[g]? = some (.cells #[.string x, .string y, .string z] t fr)) : XRow w g [x, y, z] := ⟨elt h, fun j u hu => by
  rw [Lib.cell_of_heap h]
  match j, hu with
  | 0, hu => simp at hu; subst hu; rfl
  | 1, hu => simp at hu; subst hu; rfl
  | 2, hu => simp at hu; subst hu; rfl⟩
def spL (xs : List ByteArray) : List UInt8 := Lib.join (xs.map (·.data.toList)) [32]
theorem spL_one (x : ByteArray) : spL [x] = x.data.toList := Lib.join_one _ _
theorem spL_two (x y : ByteArray) : spL [x, y] = x.data.toList ++ 32 :: y.data.toList := by simp [spL, Lib.join, List.intercalate]
theorem spL_three (x y z : ByteArray) : spL [x, y, z] = x.data.toList ++ 32 :: (y.data.toList ++ 32 :: z.data.toList) := by simp [spL, Lib.join, List.intercalate]

set_option maxRecDepth 100000 in
set_option maxHeartbeats 4000000 in
theorem spaced_any (g n c : Nat) (xs : List ByteArray) (w : World) (hx : XRow w g xs) (hn : xs.length = n) (hc : n ≤ c) (hs : n ≤ 1000) (hl : (spL xs).length ≤ 1000000000) :
    Calls Tryz.prog 77 #[.slice (some ⟨g, 0, none⟩) n c] w fun e w' => e = .returned (.string (B (spL xs))) ∧ Below w.heap.size w w' := by
  have hJ : (spL xs).length ≤ 140737488355328 := by omega
  have HJ := hide (Tryz.strings_Join g 0 c xs ⟨#[32]⟩ w hx.2 hx.1 (by omega) (by omega) hJ)
  rw [hn] at HJ
  clear hx hn hc hs hl hJ
  go_enter Tryz.func77, Tryz.ntmps77
  go_wp2_with fail
  refine (unhide HJ).mono ?_
  rintro e w1 ⟨rfl, b1⟩
  have HB1 := hide b1
  clear b1 HJ
  go_wp2
  go_ret
  exact ⟨rfl, unhide HB1⟩

set_option maxRecDepth 100000 in
set_option maxHeartbeats 4000000 in
theorem say_any {N : Nat} {w : World} {D W : Nat} {p v : Value} {o : WOwn} {bs : List UInt8} {A : AW} (h : DS N w D W p v o bs A) (g n c : Nat) (xs : List ByteArray) (hx : XRow w g xs) (hn : xs.length = n) (hc : n ≤ c) (hs : n ≤ 1000) (hl : bs.length + (spL xs).length + 1 ≤ 1000000000) :
    Calls Tryz.prog 48 #[.pointer (some ⟨D, 0, none⟩), .slice (some ⟨g, 0, none⟩) n c] w fun e w' => e = .returned (.tuple #[]) ∧ DOut N w (down D W v o) D W (bs ++ (spL xs ++ [10])) A w' := by
  have HSP : Hid (∀ W', Below w.heap.size w W' → Calls Tryz.prog 77 #[.slice (some ⟨g, 0, none⟩) n c] W' fun e w' => e = .returned (.string (B (spL xs))) ∧ Below W'.heap.size W' w') := hide fun W' hb => spaced_any g n c xs W' (hx.below hb) hn hc hs (by omega)
  have HWS : Hid (∀ W', Below w.heap.size w W' → Calls Tryz.prog 76 #[.pointer (some ⟨D, 0, none⟩), .string (B (spL xs))] W' fun e w' => (∃ n, e = .returned (.tuple #[.int .i64 n, .nilIface])) ∧ DOut N w (down D W v o) D W (bs ++ spL xs) A w') := hide fun W' hb => by
    have hz : (B (spL xs)).size = (spL xs).length := by rw [← bsize, B_data]
    refine (EWriteString (dok W) (B (spL xs)) (h.below hb).e (by omega)).mono ?_
    rintro e w' ⟨rfl, hT⟩
    rw [B_data] at hT
    exact ⟨⟨_, rfl⟩, ((h.below hb).wrote hT).before hb h.size⟩
  have HWB : Hid (∀ W' , DOut N w (down D W v o) D W (bs ++ spL xs) A W' → Calls Tryz.prog 78 #[.pointer (some ⟨D, 0, none⟩), .int .u8 10] W' fun e w' => e = .returned .nilIface ∧ DOut N w (down D W v o) D W (bs ++ (spL xs ++ [10])) A w') := hide fun W' hd => by
    obtain ⟨p2, v2, o2, hd2, hn2⟩ := hd
    refine (EWriteByte (dok W) 10 10 rfl hd2.e (by rw [List.length_append]; omega)).mono ?_
    rintro e w' ⟨rfl, hT⟩
    rw [List.append_assoc] at hT
    obtain ⟨p3, v3, o3, hd3, hn3⟩ := hd2.wrote hT
    exact ⟨rfl, p3, v3, o3, hd3, hn2.trans hn3⟩
  clear h hx hn hc hs hl
  go_enter Tryz.func48, Tryz.ntmps48
  go_wp2_with fail
  --@A1@
  go_region_law (first | (go_simp; go_at_call 77; refine ((unhide HSP) _ (Below.refl _ _).drew).mono ?_; rintro e w1 ⟨rfl, b1⟩; have HB1 := hide ((Below.refl w.heap.size w).drew.trans b1); clear b1) | (go_simp; go_at_call 76; refine ((unhide HWS) _ (unhide HB1)).mono ?_; rintro e w2 ⟨⟨k, rfl⟩, hd2⟩; have HD2 := hide hd2; clear hd2))
  --@A2@
  go_wp2_with fail
  refine ((unhide HWB) _ (unhide HD2)).mono ?_
  rintro e w3 ⟨rfl, hd3⟩
  have HD3 := hide hd3
  clear hd3
  go_wp2
  go_end0
  exact ⟨rfl, unhide HD3⟩

set_option maxRecDepth 100000 in
set_option maxHeartbeats 4000000 in
theorem refuse_any {N : Nat} {w : World} {D W : Nat} {p v : Value} {o : WOwn} {bs : List UInt8} {A : AW} (h : DS N w D W p v o bs A) (hg : GW w) (d : Int) (h0 : -9223372036854775808 ≤ d) (h1 : d ≤ 9223372036854775807) (hl : bs.length ≤ 900000000) :
    Calls Tryz.prog 50 #[.pointer (some ⟨D, 0, none⟩), .int .i64 d] w fun e w' => e = .returned (.tuple #[]) ∧ DOut N w (down D W v o) D W (bs ++ tNo d) A w' := by
  have HIT := hide (itoa_any d h0 h1 w hg.lw.pw)
  have hil := itoa_few h0 h1
  have HS : Hid (∀ w1, Below w.heap.size w w1 → Calls Tryz.prog 48 #[.pointer (some ⟨D, 0, none⟩), .slice (some ⟨w1.heap.size, 0, none⟩) 2 2] (w1.alloc (.cells #[.string ⟨#[110, 111]⟩, .string (B (Lib.itoa d))] 9)) fun e w' => e = .returned (.tuple #[]) ∧ DOut N w (down D W v o) D W (bs ++ tNo d) A w') := hide fun w1 b1 => by
    have b2 : Below w.heap.size w (w1.alloc (.cells #[.string ⟨#[110, 111]⟩, .string (B (Lib.itoa d))] 9)) := b1.trans (((Below.refl _ _).alloc (Nat.le_refl _) _).mono b1.size)
    have e1 : spL [⟨#[110, 111]⟩, B (Lib.itoa d)] = [110, 111, 32] ++ Lib.itoa d := by rw [spL_two, B_data]; rfl
    refine (say_any (h.below b2) w1.heap.size 2 2 [⟨#[110, 111]⟩, B (Lib.itoa d)] (XRow.two (heap_alloc_new _ _)) rfl (by omega) (by omega) (by rw [e1]; simp only [List.length_append, List.length_cons, List.length_nil]; omega)).mono ?_
    rintro e w' ⟨rfl, hd⟩
    rw [e1] at hd
    exact ⟨rfl, hd.before b2 h.size⟩
  clear h hg h0 h1 hl hil
  go_enter Tryz.func50, Tryz.ntmps50
  go_wp2_with fail
  refine (unhide HIT).mono ?_
  rintro e w1 ⟨rfl, b1⟩
  have HB1 := hide b1
  clear b1 HIT
  go_wp2_with fail
  refine ((unhide HS) w1 (unhide HB1)).mono ?_
  rintro e w2 ⟨rfl, hd2⟩
  have HD2 := hide hd2
  clear hd2
  go_wp2
  go_end0
  exact ⟨rfl, unhide HD2⟩
end Go.Proofs.YtffgolanmaenfacGreatDoor

namespace Go.Proofs.YtffgolanmaenfacGreatDoor
open Go.RowKit
set_option linter.unusedSimpArgs false
set_option linter.unusedVariables false

def calledL (c no : Int) (x : ACall) : List UInt8 := Lib.itoa c ++ 32 :: (Lib.itoa no ++ 32 :: (aLine x).1)
theorem recT_eq (r : ARec) : recT r.client r.no r.call r.code r.ans = calledL r.client r.no r.call ++ 58 :: 32 :: ansL r.code r.ans.data.toList := by
  unfold recT calledL
  simp
/-- A record's numbers are ints, its texts short. -/
structure RInt (r : ARec) : Prop where
  c0 : -9223372036854775808 ≤ r.client
  c1 : r.client ≤ 9223372036854775807
  n0 : -9223372036854775808 ≤ r.no
  n1 : r.no ≤ 9223372036854775807
  s : SmallC r.call
  a : SmallA r.code r.ans
theorem calledL_len {r : ARec} (h : RInt r) : (calledL r.client r.no r.call).length ≤ 100 := by
  have h1 := itoa_few h.c0 h.c1
  have h2 := itoa_few h.n0 h.n1
  have h3 := line_len r.call
  unfold calledL
  simp only [List.length_append, List.length_cons]
  omega
set_option maxRecDepth 100000 in
set_option maxHeartbeats 8000000 in
theorem called_any (r : ARec) (w : World) (hw : LW w) (hr : RInt r) :
    Calls Tryz.prog 138 #[r.val] w fun e w' => e = .returned (.string (B (calledL r.client r.no r.call))) ∧ Below w.heap.size w w' := by
  have hlen := calledL_len hr
  obtain ⟨client, no, ⟨k, a, b, t⟩, code, ans⟩ := r
  obtain ⟨hc0, hc1, hn0, hn1, hs, ha⟩ := hr
  dsimp only [ARec.val] at *
  obtain ⟨V, hV⟩ : ∃ V, V = w.alloc (.cells #[.int .i64 client, .int .i64 no, .int .i64 k, .string a, .string b, .string t, .int .i64 code, .string ans] 111) := ⟨_, rfl⟩
  have hB0 : Below w.heap.size w V := by rw [hV]; exact (Below.refl _ _).alloc (Nat.le_refl _) _
  have hX : V.heap[w.heap.size]? = some (.cells #[.int .i64 client, .int .i64 no, .int .i64 k, .string a, .string b, .string t, .int .i64 code, .string ans] 111 (0, 0)) := by rw [hV]; exact heap_alloc_new _ _
  have hlt : w.heap.size < V.heap.size := elt hX
  have HWV : Hid (∀ W', Below V.heap.size V W' → LW W') := hide fun W' hb => (hw.below hB0).below hb
  have HLC := hide (LCall_any ⟨k, a, b, t⟩ V (hw.below hB0) (Nat.le_trans hs.1 (by unfold maxLen; omega)) (Nat.le_trans hs.2.1 (by unfold maxLen; omega)) (Nat.le_trans hs.2.2 (by unfold maxLen; omega)))
  have HI1 : Hid (∀ W', Below V.heap.size V W' → Calls Tryz.prog 59 #[.int .i64 client] W' fun e w' => e = .returned (.string (B (Lib.itoa client))) ∧ Below W'.heap.size W' w') := hide fun W' hb => itoa_any client hc0 hc1 W' ((unhide HWV) W' hb).pw
  have HI2 : Hid (∀ W', Below V.heap.size V W' → Calls Tryz.prog 59 #[.int .i64 no] W' fun e w' => e = .returned (.string (B (Lib.itoa no))) ∧ Below W'.heap.size W' w') := hide fun W' hb => itoa_any no hn0 hn1 W' ((unhide HWV) W' hb).pw
  obtain ⟨ln, hln⟩ : ∃ ln, aLine ⟨k, a, b, t⟩ = ln := ⟨_, rfl⟩
  rw [hln] at HLC
  have e1 : spL [B (Lib.itoa client), B (Lib.itoa no), B ln.1] = calledL client no ⟨k, a, b, t⟩ := by rw [spL_three, B_data, B_data, B_data, ← hln]; rfl
  have HSP : Hid (∀ W' g, XRow W' g [B (Lib.itoa client), B (Lib.itoa no), B ln.1] → Calls Tryz.prog 77 #[.slice (some ⟨g, 0, none⟩) 3 3] W' fun e w' => e = .returned (.string (B (calledL client no ⟨k, a, b, t⟩))) ∧ Below W'.heap.size W' w') := hide fun W' g hx => by
    have := spaced_any g 3 3 _ W' hx rfl (by omega) (by omega) (by rw [e1]; omega)
    rwa [e1] at this
  generalize B (calledL client no ⟨k, a, b, t⟩) = RES at *
  obtain ⟨l1, l2⟩ := ln
  dsimp only at *
  generalize B (Lib.itoa client) = S1 at *
  generalize B (Lib.itoa no) = S2 at *
  generalize B l1 = S3 at *
  have HC : Hid (∀ W', Below V.heap.size V W' → W'.cell? ⟨w.heap.size, 0, none⟩ = some (.int .i64 client) ∧ W'.cell? ⟨w.heap.size, 1, none⟩ = some (.int .i64 no)) := hide fun W' hb => by
    obtain ⟨⟨x0, x1, x2, x3⟩, ⟨x4, x5, x6, x7⟩, _⟩ := eight hX
    exact ⟨(hb.cell hlt).trans x0, (hb.cell hlt).trans x1⟩
  obtain ⟨⟨x0, x1, x2, x3⟩, ⟨x4, x5, x6, x7⟩, xf⟩ := eight hX
  have HB0 := hide hB0
  have HV := hide hV
  have HLT := hide hlt
  clear hw hc0 hc1 hn0 hn1 hs ha hB0 hX hlt hln e1 hlen HWV hV
  go_enter Tryz.func138, Tryz.ntmps138
  go_wp2_with fail
  --@A1@
  rw [← unhide HV]
  refine (unhide HLC).mono ?_
  rintro e w1 ⟨rfl, b1⟩
  have HB1 := hide b1
  obtain ⟨y0, y1⟩ := (unhide HC) w1 b1
  clear b1 HLC x0 x1 x2 x3 x4 x5 x6 x7 xf
  go_wp2_with fail
  --@A2@
  go_region_held3 (fun W' => W'.cell? ⟨w.heap.size, 0, none⟩ = some (.int .i64 client) ∧ W'.cell? ⟨w.heap.size, 1, none⟩ = some (.int .i64 no)) ((go_keep; done)) (first | (go_at_call 59; refine ((unhide HI1) _ (unhide HB1).drew).mono ?_; rintro e w2 ⟨rfl, b2⟩; have HB2 := hide ((unhide HB1).drew.trans (b2.mono (unhide HB1).drew.size)); obtain ⟨z0, z1⟩ := (unhide HC) w2 (unhide HB2); clear b2) | (go_at_call 59; refine ((unhide HI2) _ (unhide HB2)).mono ?_; rintro e w3 ⟨rfl, b3⟩; have HB3 := hide ((unhide HB2).trans (b3.mono (unhide HB2).size)); obtain ⟨u0, u1⟩ := (unhide HC) w3 (unhide HB3); clear b3) | (go_at_call 77; refine ((unhide HSP) _ _ (by exact XRow.three (heap_alloc_new _ _))).mono ?_; rintro e w4 ⟨rfl, b4⟩; have HB4 := hide ((unhide HB3).trans ((((Below.refl _ _).alloc (Nat.le_refl _) _).trans (b4.mono (by simp))).mono (unhide HB3).size)); obtain ⟨v0, v1⟩ := (unhide HC) w4 (unhide HB4); clear b4))
  --@A3@
  all_goals
    go_wp2
    go_ret
    exact ⟨rfl, (unhide HB0).trans ((unhide HB4).mono (unhide HB0).size)⟩

set_option maxRecDepth 100000 in
set_option maxHeartbeats 8000000 in
theorem record_any (r : ARec) (w : World) (hw : LW w) (hr : RInt r) :
    Calls Tryz.prog 137 #[r.val] w fun e w' => e = .returned (.string (B (recT r.client r.no r.call r.code r.ans))) ∧ Below w.heap.size w w' := by
  have hlen := calledL_len hr
  have hal := ans_len hr.a
  obtain ⟨V, hV⟩ : ∃ V, V = w.alloc (.cells #[.int .i64 r.client, .int .i64 r.no, .int .i64 r.call.kind, .string r.call.name, .string r.call.dst, .string r.call.text, .int .i64 r.code, .string r.ans] 111) := ⟨_, rfl⟩
  have hB0 : Below w.heap.size w V := by rw [hV]; exact (Below.refl _ _).alloc (Nat.le_refl _) _
  have hX : V.heap[w.heap.size]? = some (.cells #[.int .i64 r.client, .int .i64 r.no, .int .i64 r.call.kind, .string r.call.name, .string r.call.dst, .string r.call.text, .int .i64 r.code, .string r.ans] 111 (0, 0)) := by rw [hV]; exact heap_alloc_new _ _
  have hlt : w.heap.size < V.heap.size := elt hX
  have HWV : Hid (∀ W', Below V.heap.size V W' → LW W') := hide fun W' hb => (hw.below hB0).below hb
  have HCD : Hid (∀ W', Below V.heap.size V W' → Calls Tryz.prog 138 #[r.val] W' fun e w' => e = .returned (.string (B (calledL r.client r.no r.call))) ∧ Below W'.heap.size W' w') := hide fun W' hb => called_any r W' ((unhide HWV) W' hb) hr
  have HAN : Hid (∀ W', Below V.heap.size V W' → Calls Tryz.prog 171 #[.agg #[.int .i64 r.code, .string r.ans]] W' fun e w' => e = .returned (.string (B (ansL r.code r.ans.data.toList))) ∧ Below W'.heap.size W' w') := hide fun W' hb => Answer_any r.code r.ans W' ((unhide HWV) W' hb) (Int.le_trans (by decide) hr.a.1) (Int.le_trans hr.a.2.1 (by decide)) (Nat.le_trans hr.a.2.2 (by decide))
  have e1 : spL [B (calledL r.client r.no r.call ++ [58]), B (ansL r.code r.ans.data.toList)] = recT r.client r.no r.call r.code r.ans := by rw [spL_two, B_data, B_data, recT_eq]; simp
  have HSP : Hid (∀ W' g, XRow W' g [B (calledL r.client r.no r.call ++ [58]), B (ansL r.code r.ans.data.toList)] → Calls Tryz.prog 77 #[.slice (some ⟨g, 0, none⟩) 2 2] W' fun e w' => e = .returned (.string (B (recT r.client r.no r.call r.code r.ans))) ∧ Below W'.heap.size W' w') := hide fun W' g hx => by
    have := spaced_any g 2 2 _ W' hx rfl (by omega) (by omega) (by rw [e1, recT_eq, List.length_append, List.length_cons, List.length_cons]; omega)
    rwa [e1] at this
  have hcat : (B (calledL r.client r.no r.call)) ++ (⟨#[58]⟩ : ByteArray) = B (calledL r.client r.no r.call ++ [58]) := by rw [show (⟨#[58]⟩ : ByteArray) = B [58] from rfl, B_app]
  have hz : ¬ (9223372036854775807 < (B (calledL r.client r.no r.call)).size + 1) := by rw [← bsize, B_data]; omega
  generalize B (recT r.client r.no r.call r.code r.ans) = RES at *
  generalize B (calledL r.client r.no r.call ++ [58]) = S2 at *
  generalize B (calledL r.client r.no r.call) = S1 at *
  generalize B (ansL r.code r.ans.data.toList) = S3 at *
  obtain ⟨client, no, ⟨k, a, b, t⟩, code, ans⟩ := r
  dsimp only [ARec.val] at *
  have HC : Hid (∀ W', Below V.heap.size V W' → W'.cell? ⟨w.heap.size, 0, none⟩ = some (.int .i64 client) ∧ W'.cell? ⟨w.heap.size, 1, none⟩ = some (.int .i64 no) ∧ W'.cell? ⟨w.heap.size, 2, none⟩ = some (.int .i64 k) ∧ W'.cell? ⟨w.heap.size, 3, none⟩ = some (.string a) ∧ W'.cell? ⟨w.heap.size, 4, none⟩ = some (.string b) ∧ W'.cell? ⟨w.heap.size, 5, none⟩ = some (.string t) ∧ W'.cell? ⟨w.heap.size, 6, none⟩ = some (.int .i64 code) ∧ W'.cell? ⟨w.heap.size, 7, none⟩ = some (.string ans)) := hide fun W' hb => by
    obtain ⟨⟨x0, x1, x2, x3⟩, ⟨x4, x5, x6, x7⟩, _⟩ := eight hX
    exact ⟨(hb.cell hlt).trans x0, (hb.cell hlt).trans x1, (hb.cell hlt).trans x2, (hb.cell hlt).trans x3, (hb.cell hlt).trans x4, (hb.cell hlt).trans x5, (hb.cell hlt).trans x6, (hb.cell hlt).trans x7⟩
  obtain ⟨x0, x1, x2, x3, x4, x5, x6, x7⟩ := (unhide HC) V (Below.refl _ _)
  have HB0 := hide hB0
  have HV := hide hV
  have HLT := hide hlt
  have HBV : Hid (Below V.heap.size V V) := hide (Below.refl _ _)
  clear hw hr hB0 hX hlt e1 hlen hal HWV hV
  go_enter Tryz.func137, Tryz.ntmps137
  go_wp2_with fail
  --@B1@
  rw [← unhide HV]
  go_region_held3 (fun W' => W'.cell? ⟨w.heap.size, 0, none⟩ = some (.int .i64 client) ∧ W'.cell? ⟨w.heap.size, 1, none⟩ = some (.int .i64 no) ∧ W'.cell? ⟨w.heap.size, 2, none⟩ = some (.int .i64 k) ∧ W'.cell? ⟨w.heap.size, 3, none⟩ = some (.string a) ∧ W'.cell? ⟨w.heap.size, 4, none⟩ = some (.string b) ∧ W'.cell? ⟨w.heap.size, 5, none⟩ = some (.string t) ∧ W'.cell? ⟨w.heap.size, 6, none⟩ = some (.int .i64 code) ∧ W'.cell? ⟨w.heap.size, 7, none⟩ = some (.string ans)) ((go_keep; done)) (first | (go_at_call 138; refine ((unhide HCD) _ (unhide HBV).drew).mono ?_; rintro e w2 ⟨rfl, b2⟩; have HB2 := hide ((unhide HBV).drew.trans (b2.mono (unhide HBV).drew.size)); obtain ⟨z0, z1, z2, z3, z4, z5, z6, z7⟩ := (unhide HC) w2 (unhide HB2); clear b2) | (go_at_call 171; refine ((unhide HAN) _ (unhide HB2)).mono ?_; rintro e w3 ⟨rfl, b3⟩; have HB3 := hide ((unhide HB2).trans (b3.mono (unhide HB2).size)); obtain ⟨u0, u1, u2, u3, u4, u5, u6, u7⟩ := (unhide HC) w3 (unhide HB3); clear b3) | (go_at_call 77; refine ((unhide HSP) _ _ (by exact XRow.two (heap_alloc_new _ _))).mono ?_; rintro e w4 ⟨rfl, b4⟩; have HB4 := hide ((unhide HB3).trans ((((Below.refl _ _).alloc (Nat.le_refl _) _).trans (b4.mono (by simp))).mono (unhide HB3).size)); obtain ⟨v0, v1, v2, v3, v4, v5, v6, v7⟩ := (unhide HC) w4 (unhide HB4); clear b4))
  --@B2@
  all_goals
    go_wp2
    go_ret
    exact ⟨rfl, (unhide HB0).trans ((unhide HB4).mono (unhide HB0).size)⟩
end Go.Proofs.YtffgolanmaenfacGreatDoor

namespace Go.Proofs.YtffgolanmaenfacGreatDoor
open Go.RowKit
set_option linter.unusedSimpArgs false
set_option linter.unusedVariables false

/-- A story at block S: its records. -/
structure YRep (w : World) (S : Nat) (a : Option Addr) (n c : Nat) (L : List ARec) : Prop where
  blk : w.heap[S]? = some (.cells #[.slice a n c] 233 (0, 0))
  recs : RecsAt w a n L
  cap : n ≤ c
  good : Good L
  few : n ≤ 1000000
section
variable {w w' : World} {S : Nat} {a : Option Addr} {n c : Nat} {L : List ARec}
theorem YRep.len (h : YRep w S a n c L) : L.length = n := h.recs.1
theorem YRep.lt (h : YRep w S a n c L) : S < w.heap.size := (Array.getElem?_eq_some_iff.1 h.blk).1
theorem YRep.cell (h : YRep w S a n c L) : w.cell? ⟨S, 0, none⟩ = some (.slice a n c) := by rw [cell_of_row w S _ _ _ _ h.blk]; rfl
end

set_option maxRecDepth 100000 in
theorem Len_y {w : World} {S : Nat} {a : Option Addr} {n c : Nat} {L : List ARec} (h : YRep w S a n c L) :
    Calls Tryz.prog 143 #[.pointer (some ⟨S, 0, none⟩)] w fun e w' => e = .returned (.int .i64 (n : Int)) ∧ w' = w := by
  have hc := h.cell
  clear h
  go_enter Tryz.func143, Tryz.ntmps143
  go_wp2
  go_ret
  exact ⟨rfl, rfl⟩

set_option maxRecDepth 100000 in
theorem behind_out {w : World} {S : Nat} {a : Option Addr} {n c : Nat} {L : List ARec} (h : YRep w S a n c L) (k : Int) (hk : k < 0 ∨ (n : Int) < k) :
    Calls Tryz.prog 178 #[.pointer (some ⟨S, 0, none⟩), .int .i64 k] w fun e w' => e = .returned (.tuple #[.pointer none, .bool false]) ∧ w' = w := by
  have hc := h.cell
  clear h
  by_cases h0 : k < 0
  · clear hk
    go_enter Tryz.func178, Tryz.ntmps178
    go_wp2
    go_ret2
    exact ⟨rfl, rfl⟩
  · have h1 : (n : Int) < k := by omega
    clear hk
    go_enter Tryz.func178, Tryz.ntmps178
    go_wp2
    go_ret2
    exact ⟨rfl, rfl⟩

set_option maxRecDepth 100000 in
set_option maxHeartbeats 4000000 in
theorem behind_in {w : World} {S : Nat} {a : Option Addr} {n c : Nat} {L : List ARec} (h : YRep w S a n c L) (k : Nat) (hk : k ≤ n) :
    Calls Tryz.prog 178 #[.pointer (some ⟨S, 0, none⟩), .int .i64 (k : Int)] w fun e w' => ∃ B own, e = .returned (.tuple #[.pointer (some ⟨B, 0, none⟩), .bool true]) ∧ OObj w.heap.size w' B own (behind (L.take k)) ∧ Below w.heap.size w w' := by
  have HL := hide h
  have hc0 := h.cell
  have hm := h.few
  have hlen := h.len
  have hlt := h.lt
  have HNW := hide New_any
  have h1 : ¬ ((k : Int) < 0) := by omega
  have h2 : ¬ ((n : Int) < (k : Int)) := by omega
  have h3 : (k : Int) ≤ (c : Int) := by have := h.cap; omega
  clear h
  go_enter Tryz.func178, Tryz.ntmps178
  go_wp2_with (go_at_call 43; refine ((unhide HNW) w).mono ?_; rintro e w' ⟨rfl, rfl⟩)
  have HO := hide (New_obj w)
  have HB0 := hide ((Below.refl w.heap.size w).alloc (Nat.le_refl _) (.cells #[.slice none 0 0] 155))
  go_loopw [28, 8] (fun i _ wr => ∃ (q : Nat) (own : List Nat), q ≤ k ∧ i = .int .i64 (q : Int) ∧ Hid (OObj w.heap.size wr w.heap.size own (behind (L.take q))) ∧ Hid (Below w.heap.size w wr)) (fun i _ _ => k - (intOf i).toNat)
  case atStart => exact ⟨0, _, Nat.zero_le _, rfl, unhide HO, unhide HB0⟩
  case round =>
    clear HO HB0
    obtain ⟨q, own, hq, rfl, HO, HB⟩ := hrel
    by_cases hql : (q : Int) < (k : Int)
    · obtain ⟨r, hr⟩ : ∃ r, L[q]? = some r := ⟨_, List.getElem?_eq_getElem (by rw [hlen]; omega)⟩
      obtain ⟨b, off, rfl, hx⟩ := ((unhide HL).recs.below (unhide HB)).2 (by omega)
      obtain ⟨x0, x1, x2, x3, x4, x5, x6, x7⟩ := hx q r hr
      have hok := rec_ok ((unhide HL).good r (List.mem_of_getElem? hr))
      have hqi : (0 : Int) ≤ (q : Int) := by omega
      have HDo : Hid (∀ W, Below wr.heap.size wr W → Calls Tryz.prog 180 #[.pointer (some ⟨w.heap.size, 0, none⟩), .agg #[.int .i64 r.call.kind, .string r.call.name, .string r.call.dst, .string r.call.text]] W fun e w' => ∃ d u, e = .returned (.agg #[.int .i64 d, .string u]) ∧ ∃ own', OObj w.heap.size w' w.heap.size own' (behind (L.take (q + 1))) ∧ Next w.heap.size W w' own own') := fun W hW => by
        refine (Do_obj r.call ((unhide HO).below hW) (by have := hok.name; unfold maxLen; omega) (by have := hok.dst; unfold maxLen; omega) (by have := hok.text; unfold maxLen; omega)).mono ?_
        rintro e w' ⟨rfl, own', h1, h2⟩
        refine ⟨_, _, rfl, own', ?_, h2⟩
        rw [behind_next hr]
        exact h1
      clear hx hr hok
      obtain ⟨rc, rn, ⟨rk, ra, rb, rt⟩, rd, ru⟩ := r
      dsimp only at *
      have HBW := hide ((Below.refl wr.heap.size wr).alloc (Nat.le_refl _) (.cells #[.int .i64 rc, .int .i64 rn, .int .i64 rk, .string ra, .string rb, .string rt, .int .i64 rd, .string ru] 111))
      go_wp2_with fail
      refine ((unhide HDo) _ (unhide HBW)).mono ?_
      rintro e w2 ⟨d, u, rfl, own2, ho2, hn2⟩
      have HO2 := hide ho2
      have HB2 := hide ((unhide HB).trans (((unhide HBW).mono (unhide HB).size).trans hn2.below))
      clear ho2 hn2
      go_wp2
      go_roundw
      case rel => exact ⟨q + 1, own2, by omega, by go_num, unhide HO2, unhide HB2⟩
      case measure => simp [intOf]; omega
    · obtain rfl : q = k := by omega
      go_wp2
      go_ret2
      exact ⟨_, rfl, ⟨own, unhide HO⟩, unhide HB⟩

end Go.Proofs.YtffgolanmaenfacGreatDoor

namespace Go.Proofs.YtffgolanmaenfacGreatDoor
open Go.RowKit
set_option linter.unusedSimpArgs false
set_option linter.unusedVariables false

theorem infoR8 : (Tryz.prog.info? 111).map (·.size) = some 8 := by kernel_rfl

set_option maxRecDepth 100000 in
set_option maxHeartbeats 4000000 in
theorem clone_y (r : ARec) (w : World) (hr : recI r = 0) : Calls Tryz.prog 177 #[r.val] w fun e w' => e = .returned r.val ∧ Below w.heap.size w w' := by
  have hok := rec_ok hr
  have h1 : r.call.name.size ≤ 281474976710656 := by have := hok.name; omega
  have h2 : r.call.dst.size ≤ 281474976710656 := by have := hok.dst; omega
  have h3 : r.call.text.size ≤ 281474976710656 := by have := hok.text; omega
  clear hr hok
  obtain ⟨c, n, ⟨k, a, b, t⟩, d, u⟩ := r
  dsimp only [ARec.val, ARec.cells] at *
  obtain ⟨V, hV⟩ : ∃ V, V = (w.alloc (.cells #[.int .i64 c, .int .i64 n, .int .i64 k, .string a, .string b, .string t, .int .i64 d, .string u] 111)).alloc (.cells #[.int .i64 0, .int .i64 0, .int .i64 0, .string ⟨#[]⟩, .string ⟨#[]⟩, .string ⟨#[]⟩, .int .i64 0, .string ⟨#[]⟩] 111) := ⟨_, rfl⟩
  have hB0 : Below w.heap.size w V := by rw [hV]; exact ((Below.refl _ _).alloc (Nat.le_refl _) _).alloc (by simp) _
  have hX0 : V.heap[w.heap.size]? = some (.cells #[.int .i64 c, .int .i64 n, .int .i64 k, .string a, .string b, .string t, .int .i64 d, .string u] 111 (0, 0)) := by rw [hV, Below.heap_alloc _ _ _ (by simp)]; exact heap_alloc_new _ _
  have hY0 : V.heap[w.heap.size + 1]? = some (.cells #[.int .i64 0, .int .i64 0, .int .i64 0, .string ⟨#[]⟩, .string ⟨#[]⟩, .string ⟨#[]⟩, .int .i64 0, .string ⟨#[]⟩] 111 (0, 0)) := by rw [hV]; have := heap_alloc_new (w.alloc (.cells #[.int .i64 c, .int .i64 n, .int .i64 k, .string a, .string b, .string t, .int .i64 d, .string u] 111)) (.cells #[.int .i64 0, .int .i64 0, .int .i64 0, .string ⟨#[]⟩, .string ⟨#[]⟩, .string ⟨#[]⟩, .int .i64 0, .string ⟨#[]⟩] 111); simpa using this
  have HV := hide hV
  have HC1 := hide (fun W => SClone_any a W h1)
  have HC2 := hide (fun W => SClone_any b W h2)
  have HC3 := hide (fun W => SClone_any t W h3)
  have HB0 := hide hB0
  have HX0 := hide hX0
  have HY0 := hide hY0
  obtain ⟨⟨x0, x1, x2, x3⟩, ⟨x4, x5, x6, x7⟩, xf⟩ := eightK hX0
  clear hB0 hX0 hY0 hV h1 h2 h3
  go_enter Tryz.func177, Tryz.ntmps177
  go_wp2_with fail
  rw [← unhide HV]
  refine ((unhide HC1) _).mono ?_
  rintro e w1 ⟨rfl, b1⟩
  clear x0 x1 x2 x3 x4 x5 x6 x7 xf
  have hX1 := (b1.block _ (Array.getElem?_eq_some_iff.1 (unhide HX0)).1).trans (unhide HX0)
  have hY1 := (b1.block _ (Array.getElem?_eq_some_iff.1 (unhide HY0)).1).trans (unhide HY0)
  have hS1 := set_same (j := 3) (x := .string a) hX1 rfl
  have hT1 : (w1.setCell ⟨w.heap.size, 3, none⟩ (.string a)).heap[w.heap.size + 1]? = _ := (Below.heap_setCell w1 _ _ _ (by simp)).trans hY1
  have hbx := below_set (j := 3) (x := .string a) ((unhide HB0).trans (b1.mono (unhide HB0).size)) (Nat.le_refl w.heap.size)
  obtain ⟨⟨x0, x1, x2, x3⟩, ⟨x4, x5, x6, x7⟩, xf⟩ := eightK hX1
  obtain ⟨V1, hV1⟩ : ∃ V, V = w1.setCell ⟨w.heap.size, 3, none⟩ (.string a) := ⟨_, rfl⟩
  rw [← hV1] at hS1 hT1 hbx
  have HX1 := hide hS1
  have HY1 := hide hT1
  have HB1 := hide hbx
  have HV1 := hide hV1
  clear b1 hX1 hY1 hS1 hT1 hbx hV1
  go_wp2_with fail
  rw [← unhide HV1]
  refine ((unhide HC2) _).mono ?_
  rintro e w2 ⟨rfl, b2⟩
  clear x0 x1 x2 x3 x4 x5 x6 x7 xf
  have hX2 := (b2.block _ (Array.getElem?_eq_some_iff.1 (unhide HX1)).1).trans (unhide HX1)
  have hY2 := (b2.block _ (Array.getElem?_eq_some_iff.1 (unhide HY1)).1).trans (unhide HY1)
  have hS2 := set_same (j := 4) (x := .string b) hX2 rfl
  have hT2 : (w2.setCell ⟨w.heap.size, 4, none⟩ (.string b)).heap[w.heap.size + 1]? = _ := (Below.heap_setCell w2 _ _ _ (by simp)).trans hY2
  have hbx := below_set (j := 4) (x := .string b) ((unhide HB1).trans (b2.mono (unhide HB1).size)) (Nat.le_refl w.heap.size)
  obtain ⟨⟨x0, x1, x2, x3⟩, ⟨x4, x5, x6, x7⟩, xf⟩ := eightK hX2
  obtain ⟨V2, hV2⟩ : ∃ V, V = w2.setCell ⟨w.heap.size, 4, none⟩ (.string b) := ⟨_, rfl⟩
  rw [← hV2] at hS2 hT2 hbx
  have HX2 := hide hS2
  have HY2 := hide hT2
  have HB2 := hide hbx
  have HV2 := hide hV2
  clear b2 hX2 hY2 hS2 hT2 hbx hV2
  go_wp2_with fail
  rw [← unhide HV2]
  refine ((unhide HC3) _).mono ?_
  rintro e w3 ⟨rfl, b3⟩
  clear x0 x1 x2 x3 x4 x5 x6 x7 xf
  have hX3 := (b3.block _ (Array.getElem?_eq_some_iff.1 (unhide HX2)).1).trans (unhide HX2)
  have hY3 := (b3.block _ (Array.getElem?_eq_some_iff.1 (unhide HY2)).1).trans (unhide HY2)
  have hS3 := set_same (j := 5) (x := .string t) hX3 rfl
  have hT3 : (w3.setCell ⟨w.heap.size, 5, none⟩ (.string t)).heap[w.heap.size + 1]? = _ := (Below.heap_setCell w3 _ _ _ (by simp)).trans hY3
  have hbx := below_set (j := 5) (x := .string t) ((unhide HB2).trans (b3.mono (unhide HB2).size)) (Nat.le_refl w.heap.size)
  obtain ⟨⟨x0, x1, x2, x3⟩, ⟨x4, x5, x6, x7⟩, xf⟩ := eightK hX3
  obtain ⟨V3, hV3⟩ : ∃ V, V = w3.setCell ⟨w.heap.size, 5, none⟩ (.string t) := ⟨_, rfl⟩
  rw [← hV3] at hS3 hT3 hbx
  have HX3 := hide hS3
  have HY3 := hide hT3
  have HB3 := hide hbx
  have HV3 := hide hV3
  clear b3 hX3  hS3 hT3 hbx hV3
  have hYn := (Below.heap_setCell w3 ⟨w.heap.size, 5, none⟩ (.string t) (w.heap.size + 1) (by simp)).trans hY3
  obtain ⟨V5, hV5⟩ : ∃ V, V = V3.setRow (w.heap.size + 1) #[.int .i64 c, .int .i64 n, .int .i64 k, .string a, .string b, .string t, .int .i64 d, .string u] := ⟨_, rfl⟩
  have hZ : V5.heap[w.heap.size + 1]? = some (.cells #[.int .i64 c, .int .i64 n, .int .i64 k, .string a, .string b, .string t, .int .i64 d, .string u] 111 (0, 0)) := by rw [hV5]; exact setRow_heap V3 (w.heap.size + 1) _ _ 111 (0, 0) (unhide HY3)
  have hB5 : Below w.heap.size w V5 := by
    have h := unhide HB3
    rw [hV5]
    exact ⟨h.os, h.tape, h.output, by simp [World.setRow]; exact h.size, fun k hk => (setRow_other V3 (w.heap.size + 1) k _ (by omega)).trans (h.block k hk)⟩
  obtain ⟨⟨z0, z1, z2, z3⟩, ⟨z4, z5, z6, z7⟩, _⟩ := eightK hZ
  have HB5 := hide hB5
  rw [unhide HV3] at hV5
  clear hB5 hZ
  go_wp2_with (refine wpList_store_row rfl 111 _ _ rfl (w.heap.size + 1) #[.int .i64 c, .int .i64 n, .int .i64 k, .string a, .string b, .string t, .int .i64 d, .string u] rfl rfl 111 _ hYn infoR8 rfl (by simp [Value.oneCell']) ?_)
  rw [← hV5]
  clear x0 x1 x2 x3 x4 x5 x6 x7 xf hYn
  refine bodyPost_ret (v := .agg #[.int .i64 c, .int .i64 n, .int .i64 k, .string a, .string b, .string t, .int .i64 d, .string u]) (by simp [results, Tryz.results177, go_sem, z0, z1, z2, z3, z4, z5, z6, z7]) rfl ⟨rfl, unhide HB5⟩

set_option maxRecDepth 100000 in
set_option maxHeartbeats 4000000 in
theorem Record_in {w : World} {S : Nat} {a : Option Addr} {n c : Nat} {L : List ARec} (h : YRep w S a n c L) (q : Nat) (r : ARec) (hr : L[q]? = some r) :
    Calls Tryz.prog 144 #[.pointer (some ⟨S, 0, none⟩), .int .i64 (q : Int)] w fun e w' => e = .returned (.tuple #[r.val, .bool true]) ∧ Below w.heap.size w w' := by
  have hq : q < n := by have := (List.getElem?_eq_some_iff.1 hr).1; rw [h.len] at this; exact this
  obtain ⟨V, hV⟩ : ∃ V, V = w.alloc (.cells #[.int .i64 0, .int .i64 0, .int .i64 0, .string ⟨#[]⟩, .string ⟨#[]⟩, .string ⟨#[]⟩, .int .i64 0, .string ⟨#[]⟩] 111) := ⟨_, rfl⟩
  have hB0 : Below w.heap.size w V := by rw [hV]; exact (Below.refl _ _).alloc (Nat.le_refl _) _
  have hY0 : V.heap[w.heap.size]? = some (.cells #[.int .i64 0, .int .i64 0, .int .i64 0, .string ⟨#[]⟩, .string ⟨#[]⟩, .string ⟨#[]⟩, .int .i64 0, .string ⟨#[]⟩] 111 (0, 0)) := by rw [hV]; exact heap_alloc_new _ _
  have hcl := h.cell
  have hlt := h.lt
  have h0 : ¬ ((q : Int) < 0) := by omega
  have h1 : ¬ ((n : Int) ≤ (q : Int)) := by omega
  have h2 : (q : Int) < (n : Int) := by omega
  obtain ⟨b0, off, rfl, hx⟩ := h.recs.2 (by omega)
  have hx1 := hx q r hr
  have hbl := hx1.lt
  obtain ⟨x0, x1, x2, x3, x4, x5, x6, x7⟩ := hx1
  have HCL := hide (fun W => clone_y r W (h.good r (List.mem_of_getElem? hr)))
  have HY0 := hide hY0
  have HB0 := hide hB0
  have HV := hide hV
  clear hx hr h hY0 hB0 hV
  obtain ⟨rc, rn, ⟨rk, ra, rb, rt⟩, rd, ru⟩ := r
  dsimp only [ARec.val, ARec.cells] at *
  go_enter Tryz.func144, Tryz.ntmps144
  go_wp2_with fail
  refine ((unhide HCL) _).mono ?_
  rintro e w1 ⟨rfl, b1⟩
  rw [← unhide HV] at b1
  have hY1 := (b1.block _ (Array.getElem?_eq_some_iff.1 (unhide HY0)).1).trans (unhide HY0)
  have hB1 := (unhide HB0).trans (b1.mono (unhide HB0).size)
  clear b1 x0 x1 x2 x3 x4 x5 x6 x7
  obtain ⟨V5, hV5⟩ : ∃ V9, V9 = w1.setRow w.heap.size #[.int .i64 rc, .int .i64 rn, .int .i64 rk, .string ra, .string rb, .string rt, .int .i64 rd, .string ru] := ⟨_, rfl⟩
  have hZ : V5.heap[w.heap.size]? = some (.cells #[.int .i64 rc, .int .i64 rn, .int .i64 rk, .string ra, .string rb, .string rt, .int .i64 rd, .string ru] 111 (0, 0)) := by rw [hV5]; exact setRow_heap w1 w.heap.size _ _ 111 (0, 0) hY1
  have hB5 : Below w.heap.size w V5 := by
    have h := hB1
    rw [hV5]
    exact ⟨h.os, h.tape, h.output, by simp [World.setRow]; exact h.size, fun k hk => (setRow_other w1 w.heap.size k _ (by omega)).trans (h.block k hk)⟩
  obtain ⟨⟨z0, z1, z2, z3⟩, ⟨z4, z5, z6, z7⟩, _⟩ := eightK hZ
  have HB5 := hide hB5
  clear hB5 hZ
  go_wp2_with (refine wpList_store_row rfl 111 _ _ rfl w.heap.size #[.int .i64 rc, .int .i64 rn, .int .i64 rk, .string ra, .string rb, .string rt, .int .i64 rd, .string ru] rfl rfl 111 _ hY1 infoR8 rfl (by simp [Value.oneCell']) ?_)
  rw [← hV5]
  refine bodyPost_ret (v := .tuple #[.agg #[.int .i64 rc, .int .i64 rn, .int .i64 rk, .string ra, .string rb, .string rt, .int .i64 rd, .string ru], .bool true]) (by simp [results, Tryz.results144, go_sem, z0, z1, z2, z3, z4, z5, z6, z7]) rfl ⟨rfl, unhide HB5⟩

end Go.Proofs.YtffgolanmaenfacGreatDoor

namespace Go.Proofs.YtffgolanmaenfacGreatDoor
open Go.RowKit
set_option linter.unusedSimpArgs false
set_option linter.unusedVariables false

set_option maxRecDepth 100000 in
set_option maxHeartbeats 1000000 in
theorem Do_readB (a b t : ByteArray) (B : Nat) (own : List Nat) (st : List AFile) (w : World) (hr : St w B own st) (hi : Inv st) (ha : a.size ≤ maxLen) (hb : b.size ≤ maxLen) (ht : t.size ≤ maxLen) (hc : checkI ⟨5, a, b, t⟩ = 0) (hf : 0 ≤ fInt a st) :
    Calls Tryz.prog 180 #[.pointer (some ⟨B, 0, none⟩), .agg #[.int .i64 5, .string a, .string b, .string t]] w
      fun e w' => e = .returned (.agg #[.int .i64 0, .string (fileAt st (fIdx a st)).text]) ∧ Below w.heap.size w w' := by
  have hcon := Check_any 5 a b t (doW w 5 a b t) ha hb ht
  have hin := DoIn.start w 5 a b t
  rw [hc] at hcon
  have HI := hide hin
  have HS := hide hr
  have HV := hide hi
  have hl := hi.few
  have hcr : ∀ W : World, St W B own st → Calls Tryz.prog 204 #[.pointer (some ⟨B, 0, none⟩), .string a] W fun e w' => e = .returned (.int .i64 (fInt a st)) ∧ Below W.heap.size W w' := fun W h => find_any a B own st W h (by omega)
  have HC := hide hcr
  obtain ⟨g, n, cap, l1, l2, f, hrep, hown, rfl, hn, hix, hit⟩ := hr.at_file a hf
  rw [hix]
  rw [hit] at HC
  have hnl : n ≤ 1000 := by rw [hn]; simp at hl ⊢; omega
  have hln : (l1.length : Int) < (n : Int) := by rw [hn]; simp; omega
  have HRq := hide hrep
  have HN := hide hn
  have HW := hide hown
  have hfa : (fileAt ((l1 ++ f :: l2).map FV.abs) l1.length).text = f.text := by rw [fileAt_mid]
  rw [hfa]
  clear hfa
  unfold doW at hcon
  clear hin hr hc hi hcr hf hix hit hrep hown hn hl
  go_enter Tryz.func180, Tryz.ntmps180
  go_wp2_with fail
  refine hcon.mono ?_
  rintro e w1 ⟨rfl, b1⟩
  have h1 := (unhide HI).later b1
  have HH := hide h1
  have k0 := h1.k0
  have k1 := h1.k1
  have HS1 := hide ((unhide HS).below h1.below)
  clear h1 b1
  go_wp2_with fail
  refine ((unhide HC) _ (unhide HS1)).mono ?_
  rintro e w2 ⟨rfl, b2⟩
  have h3 := (unhide HH).later b2
  have HH3 := hide h3
  have HR2 := hide ((unhide HRq).below h3.below)
  have k03 := h3.k0
  have k13 := h3.k1
  have k23 := h3.k2
  have k33 := h3.k3
  have cB := (unhide HR2).cellB
  have hl0 : (0 : Int) ≤ (l1.length : Int) := by omega
  clear h3 b2 k0 k1
  have cF := ((unhide HR2).file l1.length f mid_get).2
  obtain ⟨ta, tc, htv⟩ := row_form ((unhide HR2).texts f (by simp))
  have hcv := conv_back w2 f.tv f.text ((unhide HR2).texts f (by simp))
  rw [htv] at cF hcv
  have h3 := unhide HH3
  have e1 := h3.a0.1
  have e2 := h3.a0.2
  have e3 := h3.a1.1
  have e4 := h3.a1.2
  have q0 := ans0 (.int .i64 0) (.string f.text) e1
  have q1 := ans1 (.int .i64 0) (.string f.text) e3
  clear h3 htv
  generalize hts : f.text.size = ts at cF hcv
  clear hts
  go_wp2
  refine bodyPost_ret (v := .agg #[.int .i64 0, .string f.text]) (by simp [results, Tryz.results180, go_sem, q0, q1]) rfl ⟨rfl, ?_⟩
  exact below_set (below_set (unhide HH3).below (Nat.le_succ _)) (Nat.le_succ _)

/-- A file's text is read. -/
theorem Read_y {N : Nat} {w : World} {B : Nat} {own : List Nat} {st : List AFile} (h : OObj N w B own st) {x : ByteArray} (hx : x ∈ sNames st) :
    Calls Tryz.prog 180 #[.pointer (some ⟨B, 0, none⟩), .agg #[.int .i64 5, .string x, .string ⟨#[]⟩, .string ⟨#[]⟩]] w fun e w' => e = .returned (.agg #[.int .i64 0, .string (fileAt st (fIdx x st)).text]) ∧ Below w.heap.size w w' :=
  Do_readB x ⟨#[]⟩ ⟨#[]⟩ B own st w h.rep h.inv (by have := nameB_size (ySN_named h.inv hx); unfold maxLen; omega) (by unfold maxLen; decide) (by unfold maxLen; decide) (read_check (ySN_named h.inv hx)) (sNames_found hx)
theorem WriteByte_c (c : UInt8) (i : Int) (hi : (c.toNat : Int) = i) (B b : Nat) (bs : List UInt8) (w : World) (h : YB B b bs w) (hlen : bs.length ≤ 1000000) (hBw : B ≤ w.heap.size) :
    Calls Tryz.prog 78 #[.pointer (some ⟨b, 0, none⟩), .int .u8 i] w fun e w' => e = .returned .nilIface ∧ YB B b (bs ++ [c]) w' ∧ Below B w w' ∧ Lib.OthersKept 5 (some b) w w' := by
  subst hi
  exact WriteByte_y B b bs c w h hlen hBw
/-- A row of texts outlasts a builder's writing. -/
theorem texts_kept {b g : Nat} {w w' : World} {cur : Array Value} (hk : Lib.OthersKept 5 (some b) w w') (hg : w.heap[g]? = some (.cells cur 9 (0, 0))) (hb : b < g) : w'.heap[g]? = some (.cells cur 9 (0, 0)) :=
  hk g _ hg (fun e => by have := Option.some.inj e; omega) (fun c fz e => by injection e with _ h _; exact absurd h (by decide))
theorem IsBuilderF_below {T e : TypeId} {B b : Nat} {bs : List Value} {w w' : World} (h : Lib.IsBuilderF T e B b bs w) (hb : Below w.heap.size w w') : Lib.IsBuilderF T e B b bs w' := by
  have go : ∀ p, Lib.BuilderAtF T e B b p bs w → Lib.BuilderAtF T e B b p bs w' := by
    rintro p ⟨h1, v, h2, h3, h4⟩
    refine ⟨h1, v, (hb.block b (Array.getElem?_eq_some_iff.1 h2).1).trans h2, ?_, h4⟩
    obtain ⟨k1, k2⟩ := h3
    refine ⟨k1, ?_⟩
    rcases k2 with k2 | ⟨g, cap, cur, fz, e1, e2, e3, e4⟩
    · exact .inl k2
    · exact .inr ⟨g, cap, cur, fz, e1, e2, (hb.block g (Array.getElem?_eq_some_iff.1 e3).1).trans e3, e4⟩
  rcases h with h | h
  · exact .inl (go _ h)
  · exact .inr (go _ h)

set_option maxRecDepth 100000 in
theorem Text_out {w : World} {S : Nat} {a : Option Addr} {n c : Nat} {L : List ARec} (h : YRep w S a n c L) (k : Int) (hk : k < 0 ∨ (n : Int) < k) :
    Calls Tryz.prog 145 #[.pointer (some ⟨S, 0, none⟩), .int .i64 k] w fun e w' => e = .returned (.tuple #[.string ⟨#[]⟩, .bool false]) ∧ Below w.heap.size w w' := by
  have HBH := hide (behind_out h k hk)
  clear h hk
  go_enter Tryz.func145, Tryz.ntmps145
  go_wp2_with fail
  refine (unhide HBH).mono ?_
  rintro e w1 ⟨rfl, rfl⟩
  go_wp2
  go_ret2
  exact ⟨rfl, Below.refl _ _⟩

set_option maxRecDepth 100000 in
set_option maxHeartbeats 4000000 in
theorem Text_in {w : World} {S : Nat} {a : Option Addr} {n c : Nat} {L : List ARec} (h : YRep w S a n c L) (k : Nat) (hk : k ≤ n) :
    Calls Tryz.prog 145 #[.pointer (some ⟨S, 0, none⟩), .int .i64 (k : Int)] w fun e w' => e = .returned (.tuple #[.string ⟨(textL (behind (L.take k))).toArray⟩, .bool true]) ∧ Below w.heap.size w w' := by
  have HI := hide (behind_inv (L.take k))
  have HBH := hide (behind_in h k hk)
  generalize behind (L.take k) = st at HI HBH ⊢
  obtain ⟨res, HRES⟩ : ∃ res : ByteArray, Hid (res = ⟨(textL st).toArray⟩) := ⟨_, rfl⟩
  rw [← unhide HRES]
  clear h hk
  go_enter Tryz.func145, Tryz.ntmps145
  go_wp2_with fail
  refine (unhide HBH).mono ?_
  rintro e w1 ⟨F, own, rfl, ho1, b1⟩
  have HO := hide ho1
  have HB1 := hide b1
  obtain ⟨V, hV⟩ : ∃ V, V = w1.alloc (.cells #[.pointer none, .slice none 0 0] 44) := ⟨_, rfl⟩
  have hbV : Below w1.heap.size w1 V := by rw [hV]; exact (Below.refl _ _).alloc (Nat.le_refl _) _
  have hzV : V.heap.size = w1.heap.size + 1 := by rw [hV]; exact al_size _ _
  have HY0 : Hid (YB w1.heap.size w1.heap.size [] V) := by rw [hV]; exact Lib.IsBuilderF.of (Lib.fresh_isBuilder 44 5 w1)
  have HNM := hide (Names_obj (ho1.below hbV))
  have HBV := hide hbV
  have HV := hide hV
  clear ho1 b1 hbV hV HBH
  go_wp2_with fail
  rw [← unhide HV]
  refine (unhide HNM).mono ?_
  rintro e w2 ⟨g, cp, rfl, hn2, b2⟩
  have hns := sNames_len st
  obtain ⟨m, hm⟩ : ∃ m, st.length = m := ⟨_, rfl⟩
  rw [hm] at hn2 hns ⊢
  obtain ⟨cur, hg2, hgb, hcur⟩ : ∃ cur : Array Value, w2.heap[g]? = some (.cells cur 9 (0, 0)) ∧ w1.heap.size < g ∧ ∀ (j : Nat) (x : ByteArray), (sNames st)[j]? = some x → cur[j]? = some (.string x) := by
    rcases hn2.2 with ⟨hv, h0⟩ | ⟨g', cap', cur, hv, h1, h2, h3, h4, h5, h6⟩
    · cases hv
    · cases hv
      refine ⟨cur, h2, by omega, fun j x hx => ?_⟩
      have := texts_cell hn2 j x hx
      rw [cell_of_row w2 g _ _ _ _ h2] at this
      exact this
  have HY2 := hide (IsBuilderF_below (unhide HY0) b2)
  have HG2 := hide hg2
  have HCUR := hide hcur
  have HB2 := hide ((unhide HBV).trans (b2.mono (unhide HBV).size))
  have hm6 : m ≤ 6 := by have := (unhide HI).few; omega
  have HNS := hide hns
  clear hn2 b2 hg2 hcur HY0 HNM hns hm
  go_wp2_with fail
  go_loopw [22, 10] (fun i _ wr => ∃ q : Nat, q ≤ m ∧ i = .int .i64 (q : Int) ∧ Hid (YB w1.heap.size w1.heap.size (linesB st ((sNames st).take q)) wr) ∧ Hid (wr.heap[g]? = some (.cells cur 9 (0, 0))) ∧ Hid (Below w1.heap.size w1 wr)) (fun i _ _ => m - (intOf i).toNat)
  case atStart => exact ⟨0, Nat.zero_le _, rfl, unhide HY2, unhide HG2, unhide HB2⟩
  case round =>
    clear HY2 HG2 HB2
    obtain ⟨q, hq, rfl, HY, HG, HB⟩ := hrel
    by_cases hlt : (q : Int) < (m : Int)
    · obtain ⟨x, hx⟩ : ∃ x, (sNames st)[q]? = some x := ⟨_, List.getElem?_eq_getElem (by rw [unhide HNS]; omega)⟩
      have hxm : x ∈ sNames st := List.mem_of_getElem? hx
      have hcx : wr.cell? ⟨g, q, none⟩ = some (.string x) := by rw [cell_of_row wr g _ _ _ _ (unhide HG)]; exact (unhide HCUR) q x hx
      have hqi : (0 : Int) ≤ (q : Int) := by omega
      have hacc := linesB_take (unhide HI) q
      have hln := linesB_snoc st ((sNames st).take q) x
      have htk : (sNames st).take (q + 1) = (sNames st).take q ++ [x] := by rw [List.take_add_one, hx]; rfl
      rw [← htk] at hln
      obtain ⟨acc, HA⟩ : ∃ acc, Hid (acc = linesB st ((sNames st).take q)) := ⟨_, rfl⟩
      rw [← unhide HA] at HY hacc hln
      have HLN := hide hln
      have HRD := hide (fun (W : World) (hW : Below w1.heap.size w1 W) => Read_y ((unhide HO).below hW) hxm)
      have hxs : x.size ≤ 5 := (nameB_size (ySN_named (unhide HI) hxm)).2
      have hts : (fileAt st (fIdx x st)).text.size ≤ 16 := (unhide HI).short _ (fileAt_mem (fIdx_spec x st (sNames_found hxm)).1)
      have HL2 : Hid (linesB st ((sNames st).take (q + 1)) = acc ++ x.data.toList ++ [61] ++ (fileAt st (fIdx x st)).text.data.toList ++ [10]) := hide (by rw [unhide HLN]; unfold lineB; simp)
      generalize (fileAt st (fIdx x st)).text = tx at HRD hts HL2
      have fd1 := field1 0 tx
      have hbs : w1.heap.size ≤ wr.heap.size := (unhide HB).size
      clear hx hxm hln htk HLN HA
      have l0 : x.data.toList.length = x.size := bsize x
      have l1 : tx.data.toList.length = tx.size := bsize tx
      go_wp2_with fail
      refine (WriteString_y w1.heap.size w1.heap.size acc x wr (unhide HY) (by omega) hbs).mono ?_
      rintro e w3 ⟨rfl, y3, bl3, k3⟩
      have HY3 := hide y3
      have HG3 := hide (texts_kept k3 (unhide HG) hgb)
      have HB3 := hide ((unhide HB).trans bl3)
      clear y3 bl3 k3 hcx
      go_wp2_with fail
      refine (WriteByte_c 61 61 rfl w1.heap.size w1.heap.size (acc ++ x.data.toList) w3 (unhide HY3) (by rw [List.length_append]; omega) (unhide HB3).size).mono ?_
      rintro e w4 ⟨rfl, y4, bl4, k4⟩
      have HY4 := hide y4
      have HG4 := hide (texts_kept k4 (unhide HG3) hgb)
      have HB4 := hide ((unhide HB3).trans bl4)
      clear y4 bl4 k4
      go_wp2_with fail
      refine ((unhide HRD) w4 (unhide HB4)).mono ?_
      rintro e w5 ⟨rfl, b5⟩
      have HY5 := hide (IsBuilderF_below (unhide HY4) b5)
      have HG5 := hide ((b5.block g (Array.getElem?_eq_some_iff.1 (unhide HG4)).1).trans (unhide HG4))
      have HB5 := hide ((unhide HB4).trans (b5.mono (unhide HB4).size))
      clear b5
      go_wp2_with fail
      refine (WriteString_y w1.heap.size w1.heap.size (acc ++ x.data.toList ++ [61]) tx w5 (unhide HY5) (by simp only [List.length_append, List.length_cons, List.length_nil]; omega) (unhide HB5).size).mono ?_
      rintro e w6 ⟨rfl, y6, bl6, k6⟩
      have HY6 := hide y6
      have HG6 := hide (texts_kept k6 (unhide HG5) hgb)
      have HB6 := hide ((unhide HB5).trans bl6)
      clear y6 bl6 k6
      go_wp2_with fail
      refine (WriteByte_c 10 10 rfl w1.heap.size w1.heap.size (acc ++ x.data.toList ++ [61] ++ tx.data.toList) w6 (unhide HY6) (by simp only [List.length_append, List.length_cons, List.length_nil]; omega) (unhide HB6).size).mono ?_
      rintro e w7 ⟨rfl, y7, bl7, k7⟩
      have HG7 := hide (texts_kept k7 (unhide HG6) hgb)
      have HB7 := hide ((unhide HB6).trans bl7)
      rw [← unhide HL2] at y7
      have HY7 := hide y7
      clear y7 bl7 k7
      go_wp2
      go_roundw
      case rel => exact ⟨q + 1, by omega, by go_num, unhide HY7, unhide HG7, unhide HB7⟩
      case measure => simp [intOf]; omega
    · obtain rfl : q = m := by omega
      have hfull : (sNames st).take q = sNames st := List.take_of_length_le (by rw [unhide HNS]; omega)
      rw [hfull] at HY
      have HST := hide (String_y w1.heap.size w1.heap.size (linesB st (sNames st)) wr (unhide HY) (unhide HB).size)
      rw [show linesB st (sNames st) = textL st from rfl, ← show res = _ from unhide HRES] at HST
      clear hfull
      go_wp2_with fail
      refine (unhide HST).mono ?_
      rintro e w3 ⟨rfl, b3⟩
      have HBE := hide ((unhide HB1).trans (((unhide HB).trans b3).mono (unhide HB1).size))
      clear b3
      go_wp2
      go_ret2
      exact ⟨rfl, unhide HBE⟩

end Go.Proofs.YtffgolanmaenfacGreatDoor

namespace Go.Proofs.YtffgolanmaenfacGreatDoor
open Go.RowKit
set_option linter.unusedSimpArgs false
set_option linter.unusedVariables false

def ca : ACall := ⟨1, ⟨#[97]⟩, ⟨#[]⟩, ⟨#[]⟩⟩
def cb' : ACall := ⟨1, ⟨#[98]⟩, ⟨#[]⟩, ⟨#[]⟩⟩
end Go.Proofs.YtffgolanmaenfacGreatDoor

namespace Go.Proofs.YtffgolanmaenfacGreatDoor
open Go.RowKit
set_option linter.unusedSimpArgs false
set_option linter.unusedVariables false

/-- A desk in the midst of a Do: it has come to this, and the variables stand. -/
structure DN (N : Nat) (w : World) (own : List Nat) (D W : Nat) (bs : List UInt8) (A : AW) (wr : World) : Prop where
  g : GW w
  n : GN ≤ N
  d : DOut N w own D W bs A wr
section
variable {N : Nat} {w wr w1 w2 : World} {D W : Nat} {p v : Value} {o : WOwn} {bs bs' : List UInt8} {A A' : AW} {own : List Nat}
theorem DN.gw (h : DN N w own D W bs A wr) : GW wr := h.g.on h.d.below h.n
theorem DN.inv (h : DN N w own D W bs A wr) : DInv A := by obtain ⟨p, v, o, hd, _⟩ := h.d; exact hd.i
theorem DN.after (h : DN N w own D W bs A wr) (hb : Below wr.heap.size wr w1) : DN N w own D W bs A w1 := ⟨h.g, h.n, h.d.after hb⟩
theorem DN.rebase (h : DN N w own D W bs A w1) : ∃ own1, (∀ k, k ∈ own1 → k < w1.heap.size) ∧ ∀ w2, Below w1.heap.size w1 w2 → DN N w2 own1 D W bs A w2 ∧ ∀ bs' A' w3, DN N w2 own1 D W bs' A' w3 → DN N w own D W bs' A' w3 := by
  have hg := h.gw
  obtain ⟨h1, h2, p, v, o, hd, hn⟩ := h
  refine ⟨down D W v o, fun k hk => (hd.ge k hk).2, fun w2 hb => ⟨⟨hg.below hb, h2, p, v, o, hd.below hb, Next.of_below _ (Below.refl _ _) (hd.below hb).size⟩, fun bs' A' w3 h3 => ⟨h1, h2, ?_⟩⟩⟩
  obtain ⟨p3, v3, o3, hd3, hn3⟩ := h3.d
  exact ⟨p3, v3, o3, hd3, (hn.trans (Next.of_below _ hb hd.size)).trans hn3⟩
theorem DN.blk (h : DN N w own D W bs A wr) {b : Nat} (hb : b < w.heap.size) (hn : b ∉ own) : wr.heap[b]? = w.heap[b]? := by
  obtain ⟨p, v, o, hd, hk⟩ := h.d
  exact (hk.keep b hb hn).2
/-- The desk's third cell is its world. -/
theorem DS.cell (h : DS N w D W p v o bs A) : w.cell? ⟨D, 2, none⟩ = some (.pointer (some ⟨W, 0, none⟩)) := by
  rw [Lib.cell_of_heap h.e.blk]; rfl
theorem DN.cell (h : DN N w own D W bs A wr) : wr.cell? ⟨D, 2, none⟩ = some (.pointer (some ⟨W, 0, none⟩)) := by
  obtain ⟨p, v, o, hd, _⟩ := h.d
  exact hd.cell
/-- A text of one word, of two words is said. -/
theorem DN.say1 (h : DN N w own D W bs A wr) (x : ByteArray) (hb : Below wr.heap.size wr w1) (hl : bs.length + x.size + 1 ≤ 1000000000) :
    Calls Tryz.prog 48 #[.pointer (some ⟨D, 0, none⟩), .slice (some ⟨w1.heap.size, 0, none⟩) 1 1] (w1.alloc (.cells #[.string x] 9)) fun e w' => e = .returned (.tuple #[]) ∧ DN N w own D W (bs ++ (x.data.toList ++ [10])) A w' := by
  have b2 : Below wr.heap.size wr (w1.alloc (.cells #[.string x] 9)) := hb.trans (((Below.refl _ _).alloc (Nat.le_refl _) _).mono hb.size)
  have h2 := h.after b2
  obtain ⟨p, v, o, hd, hn⟩ := h2.d
  refine (say_any hd w1.heap.size 1 1 [x] (XRow.one (heap_alloc_new _ _)) rfl (by omega) (by omega) (by rw [spL_one, bsize]; exact hl)).mono ?_
  rintro e w' ⟨rfl, p3, v3, o3, hd3, hn3⟩
  rw [spL_one] at hd3
  exact ⟨rfl, h.g, h.n, p3, v3, o3, hd3, hn.trans hn3⟩
theorem DN.say2 (h : DN N w own D W bs A wr) (x y : ByteArray) (hb : Below wr.heap.size wr w1) (hl : bs.length + x.size + y.size + 2 ≤ 1000000000) :
    Calls Tryz.prog 48 #[.pointer (some ⟨D, 0, none⟩), .slice (some ⟨w1.heap.size, 0, none⟩) 2 2] (w1.alloc (.cells #[.string x, .string y] 9)) fun e w' => e = .returned (.tuple #[]) ∧ DN N w own D W (bs ++ (x.data.toList ++ 32 :: y.data.toList ++ [10])) A w' := by
  have b2 : Below wr.heap.size wr (w1.alloc (.cells #[.string x, .string y] 9)) := hb.trans (((Below.refl _ _).alloc (Nat.le_refl _) _).mono hb.size)
  have h2 := h.after b2
  obtain ⟨p, v, o, hd, hn⟩ := h2.d
  refine (say_any hd w1.heap.size 2 2 [x, y] (XRow.two (heap_alloc_new _ _)) rfl (by omega) (by omega) (by rw [spL_two, List.length_append, List.length_cons, bsize, bsize]; omega)).mono ?_
  rintro e w' ⟨rfl, p3, v3, o3, hd3, hn3⟩
  rw [spL_two] at hd3
  exact ⟨rfl, h.g, h.n, p3, v3, o3, hd3, hn.trans hn3⟩
theorem DN.refuse (h : DN N w own D W bs A wr) (d : Int) (h0 : -9223372036854775808 ≤ d) (h1 : d ≤ 9223372036854775807) (hl : bs.length ≤ 900000000) :
    Calls Tryz.prog 50 #[.pointer (some ⟨D, 0, none⟩), .int .i64 d] wr fun e w' => e = .returned (.tuple #[]) ∧ DN N w own D W (bs ++ tNo d) A w' := by
  have hg := h.gw
  obtain ⟨p, v, o, hd, hn⟩ := h.d
  refine (refuse_any hd hg d h0 h1 hl).mono ?_
  rintro e w' ⟨rfl, p3, v3, o3, hd3, hn3⟩
  exact ⟨rfl, h.g, h.n, p3, v3, o3, hd3, hn.trans hn3⟩
theorem DN.end (h : DN N w own D W bs A wr) (hb : Below wr.heap.size wr w1) (hl : bs.length ≤ 900000000) :
    Calls Tryz.prog 48 #[.pointer (some ⟨D, 0, none⟩), .slice (some ⟨w1.heap.size, 0, none⟩) 1 1] (w1.alloc (.cells #[.string ⟨#[101, 110, 100]⟩] 9)) fun e w' => e = .returned (.tuple #[]) ∧ DN N w own D W (bs ++ tEnd) A w' := h.say1 ⟨#[101, 110, 100]⟩ hb (by show _ + 3 + 1 ≤ _; omega)
theorem DN.what (h : DN N w own D W bs A wr) (hb : Below wr.heap.size wr w1) (hl : bs.length ≤ 900000000) :
    Calls Tryz.prog 48 #[.pointer (some ⟨D, 0, none⟩), .slice (some ⟨w1.heap.size, 0, none⟩) 1 1] (w1.alloc (.cells #[.string ⟨#[119, 104, 97, 116]⟩] 9)) fun e w' => e = .returned (.tuple #[]) ∧ DN N w own D W (bs ++ tWhat) A w' := h.say1 ⟨#[119, 104, 97, 116]⟩ hb (by show _ + 4 + 1 ≤ _; omega)
end

set_option maxRecDepth 100000 in
set_option maxHeartbeats 8000000 in
theorem dstep_any {N : Nat} {w wr : World} {D W : Nat} {own : List Nat} {bs : List UInt8} {A : AW} (h : DN N w own D W bs A wr) (x : AX) (hx : SmallC x.call) (hl : bs.length ≤ 900000000) :
    Calls Tryz.prog 51 #[.pointer (some ⟨D, 0, none⟩), x.val] wr fun e w' => e = .returned (.tuple #[]) ∧ DN N w own D W (bs ++ tStep (A.step x).1) (A.step x).2 w' := by
  obtain ⟨V, hV⟩ : ∃ V, V = wr.alloc (.cells #[.int .i64 x.kind, .int .i64 x.n, .int .i64 x.keep, .int .i64 x.call.kind, .string x.call.name, .string x.call.dst, .string x.call.text] 95) := ⟨_, rfl⟩
  have hB0 : Below wr.heap.size wr V := by rw [hV]; exact (Below.refl _ _).alloc (Nat.le_refl _) _
  have hX : V.heap[wr.heap.size]? = some (.cells #[.int .i64 x.kind, .int .i64 x.n, .int .i64 x.keep, .int .i64 x.call.kind, .string x.call.name, .string x.call.dst, .string x.call.text] 95 (0, 0)) := by rw [hV]; exact heap_alloc_new _ _
  have hS := h.after hB0
  have hcd := hS.cell
  have hcode := step_code A x
  have HST : Hid (Calls Tryz.prog 84 #[.pointer (some ⟨W, 0, none⟩), x.val] V.drew fun e w' => e = .returned (.int .i64 (A.step x).1) ∧ DN N w own D W bs (A.step x).2 w' ∧ w'.heap[wr.heap.size]? = some (.cells #[.int .i64 x.kind, .int .i64 x.n, .int .i64 x.keep, .int .i64 x.call.kind, .string x.call.name, .string x.call.dst, .string x.call.text] 95 (0, 0))) := hide (by
    have hi := h.inv
    obtain ⟨p, v, o, hd, hn⟩ := h.d
    have hd2 := hd.below hB0.drew
    refine (Step_any hd2.w x hx).mono ?_
    rintro e w' ⟨rfl, hT⟩
    have hbl := hT.blk (b := wr.heap.size) (elt hX) (fun hm => by have := (hd.w.all_ge _ hm).2; omega)
    obtain ⟨p3, v3, o3, hd3, hn3⟩ := hd2.stepped hT ⟨hi.wi.step hx, hi.ti.step hi.wi x⟩
    exact ⟨rfl, ⟨h.g, h.n, p3, v3, o3, hd3, (hn.trans (Next.of_below _ hB0.drew hd.size)).trans hn3⟩, hbl.trans hX⟩)
  have HRF : Hid (∀ W', DN N w own D W bs (A.step x).2 W' → (A.step x).1 ≠ 0 → Calls Tryz.prog 50 #[.pointer (some ⟨D, 0, none⟩), .int .i64 (A.step x).1] W' fun e w' => e = .returned (.tuple #[]) ∧ DN N w own D W (bs ++ tStep (A.step x).1) (A.step x).2 w') := hide fun W' hd hne => by
    have := hd.refuse (A.step x).1 (by omega) (by omega) hl
    unfold tStep
    rw [if_pos hne]
    exact this
  have HOK : Hid (∀ W', DN N w own D W bs (A.step x).2 W' → (A.step x).1 = 0 → Calls Tryz.prog 48 #[.pointer (some ⟨D, 0, none⟩), .slice (some ⟨W'.heap.size, 0, none⟩) 1 1] (W'.alloc (.cells #[.string ⟨#[111, 107]⟩] 9)) fun e w' => e = .returned (.tuple #[]) ∧ DN N w own D W (bs ++ tStep (A.step x).1) (A.step x).2 w') := hide fun W' hd h0 => by
    have := hd.say1 (w1 := W') ⟨#[111, 107]⟩ (Below.refl _ _) (by show _ + 2 + 1 ≤ _; omega)
    unfold tStep
    rw [if_neg (by omega)]
    exact this
  generalize tStep (A.step x).1 = TS at *
  generalize A.step x = R at *
  obtain ⟨code, A'⟩ := R
  obtain ⟨kind, n, keep, ⟨k, a, b, t⟩⟩ := x
  dsimp only [AX.val] at *
  obtain ⟨⟨x0, x1, x2, x3⟩, ⟨x4, x5, x6⟩, _⟩ := seven hX
  have HV := hide hV
  clear h hx hl hB0 hX hS hV hcode
  go_enter Tryz.func51, Tryz.ntmps51
  go_wp2_with fail
  --@A1@
  rw [← unhide HV]
  go_region_held3 (fun W' => W'.cell? ⟨D, 2, none⟩ = some (.pointer (some ⟨W, 0, none⟩)) ∧ W'.cell? ⟨wr.heap.size, 0, none⟩ = some (.int .i64 kind) ∧ W'.cell? ⟨wr.heap.size, 1, none⟩ = some (.int .i64 n) ∧ W'.cell? ⟨wr.heap.size, 2, none⟩ = some (.int .i64 keep) ∧ W'.cell? ⟨wr.heap.size, 3, none⟩ = some (.int .i64 k) ∧ W'.cell? ⟨wr.heap.size, 4, none⟩ = some (.string a) ∧ W'.cell? ⟨wr.heap.size, 5, none⟩ = some (.string b) ∧ W'.cell? ⟨wr.heap.size, 6, none⟩ = some (.string t)) ((go_keep; done)) (first | (go_at_call 84; refine (unhide HST).mono ?_; rintro e w1 ⟨rfl, hd1, hX1⟩; have HD1 := hide hd1; have yd := hd1.cell; obtain ⟨⟨y0, y1, y2, y3⟩, ⟨y4, y5, y6⟩, _⟩ := seven hX1; clear hd1 hX1))
  --@A2@
  all_goals
    clear x0 x1 x2 x3 x4 x5 x6 hcd y0 y1 y2 y3 y4 y5 y6 yd
    by_cases hc : code = 0
    · have HC0 := hide hc
      subst hc
      go_wp2_with fail
      refine ((unhide HOK) _ (unhide HD1) (by first | rfl | trivial)).mono ?_
      rintro e w2 ⟨rfl, hd2⟩
      have HD2 := hide hd2
      clear hd2
      go_wp2
      go_end0
      exact ⟨rfl, unhide HD2⟩
    · go_wp2_with fail
      refine ((unhide HRF) _ (unhide HD1) hc).mono ?_
      rintro e w2 ⟨rfl, hd2⟩
      have HD2 := hide hd2
      clear hd2
      go_wp2
      ((try simp only [Exit.inBlock, Exit.then]); refine bodyPost_ret (results_none rfl _ _ _) rfl ?_)
      exact ⟨rfl, unhide HD2⟩
end Go.Proofs.YtffgolanmaenfacGreatDoor
