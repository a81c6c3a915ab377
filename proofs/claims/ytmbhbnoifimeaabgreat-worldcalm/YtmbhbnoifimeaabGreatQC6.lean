/- Texts joined, what is needed of them: Vi Vj Vk Vl Vm Sv Open OpenB Sy0 Vo OpenP VOpen. -/
import Derived.Test.YtmbhbnoifimeaabGreatQC5
import Derived.ChangeOld
import Derived.Lib.SmallJoins
import Derived.OpenShut
import Derived.ProofKit
import Derived.ShutString
import Derived.SizedLaws
namespace Go.Proofs.YtmbhbnoifimeaabGreat
open Go.RowKit
set_option linter.unusedSimpArgs false
set_option linter.unusedVariables false

set_option maxRecDepth 100000 in
set_option maxHeartbeats 4000000 in
theorem wtake_none {N : Nat} {w : World} {W : Nat} {o : WOwn} {A : AW} (h : WRep N w W o A) (x : AX) (h0 : A.ms.length = 0) :
    Calls Tryz.prog 48 #[.pointer (some ⟨W, 0, none⟩), x.val] w fun e w' => e = .returned (.int .i64 (A.take x).1) ∧ WTurn N w W o w' (A.take x).2 := by
  obtain ⟨V, hV⟩ : ∃ V, V = w.alloc (.cells #[.int .i64 x.kind, .int .i64 x.n, .int .i64 x.keep, .int .i64 x.call.kind, .string x.call.name, .string x.call.dst, .string x.call.text] 69) := ⟨_, rfl⟩
  have hBV : Below w.heap.size w V := by rw [hV]; exact (Below.refl _ _).alloc (Nat.le_refl _) _
  have hXV : V.heap[w.heap.size]? = some (.cells #[.int .i64 x.kind, .int .i64 x.n, .int .i64 x.keep, .int .i64 x.call.kind, .string x.call.name, .string x.call.dst, .string x.call.text] 69 (0, 0)) := by rw [hV]; exact heap_alloc_new _ _
  have hlV : w.heap.size < V.heap.size := (Array.getElem?_eq_some_iff.1 hXV).1
  have hrV := h.below hBV
  have HBV := hide hBV
  have HXV := hide hXV
  have HV := hide hV
  have HPC := hide hrV.cells.1.2.2.2.2
  have hWl := h.lt
  have hNw := h.size
  have HTK := hide (fun W' (hb : Below V.heap.size V W') => PTake_any (hrV.below hb).p x.n)
  have HTP := hide (fun W' w1 (hb : Below V.heap.size V W') (hT : PTurn 115 N W' o.P o.pv w1 (aTakeL A.ms x.n)) => (hrV.below hb).turnP hT)
  have HKW : Hid (W ∉ powns o.P o.pv) := h.nW 4 (by omega)
  have HKB : Hid (∀ b, w.heap.size ≤ b → b ∉ powns o.P o.pv) := fun b hb => h.not_part hb (i := 4) (by omega)
  have HKA : Hid (∀ b, w.heap.size ≤ b → b ∉ o.all W) := fun b hb => h.not_new hb
  have hB : aTakeB A.ms = false := decide_eq_false (by omega)
  rw [hB] at HTK
  have e1 : A.take x = (6, A) := by unfold AW.take; rw [if_pos h0]
  have e2 : aTakeM A.ms x.n = zeroPkt := by have : A.ms = [] := List.length_eq_zero_iff.1 h0; unfold aTakeM; rw [this]; rfl
  have e3 : aTakeL A.ms x.n = A.ms := by have : A.ms = [] := List.length_eq_zero_iff.1 h0; unfold aTakeL; rw [this]; rfl
  rw [e1]
  rw [e2, e3] at HTK
  rw [e3] at HTP
  obtain ⟨pr, pc, pn, pk, pa, pb, pt, pd, pu, hz⟩ : ∃ pr pc pn pk pa pb pt pd pu, zeroPkt = ⟨pr, pc, pn, ⟨pk, pa, pb, pt⟩, pd, pu⟩ := ⟨_, _, _, _, _, _, _, _, _, rfl⟩
  rw [hz] at HTK
  clear e1 e2 e3 hz
  generalize o.P = P at HTK HTP HKW HKB HPC
  generalize o.pv = pv at HTK HTP HKW HKB
  clear h hV hBV hXV hrV h0 hB
  obtain ⟨xk, xn, xp, ⟨ck, ca, cb, ct⟩⟩ := x
  dsimp only [APkt.val, AX.val] at *
  go_enter Tryz.func48, Tryz.ntmps48
  go_wp2_with fail
  rw [← unhide HV]
  refine wp_region_held_drew (S := (fun wx => wx.heap[W]? = V.heap[W]? ∧ wx.heap[w.heap.size]? = V.heap[w.heap.size]?)) (by kernel_rfl) (⟨rfl, rfl⟩) (fun hHeld => ?_)
  refine wpAnyH_take (i := 0) (v := ?_) opn0 (by kernel_rfl) (by kernel_rfl) (by kernel_rfl) (fun _ _ _ h => h) (Or.inl ⟨by kernel_rfl, ?_⟩) (by assumption) ?_
  rotate_left 1
  · intro wz hSw
    try dsimp only at hSw
    go_simp
    all_goals with_reducible rfl
  try simp only [Act.put, List.setIfInBounds_toArray, List.set_cons_zero, List.set_cons_succ]
  refine wpAnyH_take (i := 1) (v := ?_) opn1 (by kernel_rfl) (by kernel_rfl) (by kernel_rfl) (fun _ _ _ h => h) (Or.inl ⟨by kernel_rfl, ?_⟩) (by assumption) ?_
  rotate_left 1
  · intro wz hSw
    try dsimp only at hSw
    go_simp
    all_goals with_reducible rfl
  try simp only [Act.put, List.setIfInBounds_toArray, List.set_cons_zero, List.set_cons_succ]
  refine wpAnyH_take (i := 2) (v := ?_) opn2 (by kernel_rfl) (by kernel_rfl) (by kernel_rfl) (fun _ _ _ h => h) (Or.inl ⟨by kernel_rfl, ?_⟩) (by assumption) ?_
  rotate_left 1
  · intro wz hSw
    try dsimp only at hSw
    go_simp
    all_goals with_reducible rfl
  try simp only [Act.put, List.setIfInBounds_toArray, List.set_cons_zero, List.set_cons_succ]
  refine wpAnyH_take (i := 3) (v := ?_) opn3 (by kernel_rfl) (by kernel_rfl) (by kernel_rfl) (fun _ _ _ h => h) (Or.inl ⟨by kernel_rfl, ?_⟩) (by assumption) ?_
  rotate_left 1
  · intro wz hSw
    try dsimp only at hSw
    have hq : wz.cell? ⟨W, 4, none⟩ = some (.pointer (some ⟨P, 0, none⟩)) := (World.cell?_of_block (w := V) (a := ⟨W, 4, none⟩) hSw.1).trans (unhide HPC)
    go_simp
    all_goals with_reducible rfl
  try simp only [Act.put, List.setIfInBounds_toArray, List.set_cons_zero, List.set_cons_succ]
  refine wpAnyH_take (i := 4) (v := ?_) opn4 (by kernel_rfl) (by kernel_rfl) (by kernel_rfl) (fun _ _ _ h => h) (Or.inl ⟨by kernel_rfl, ?_⟩) (by assumption) ?_
  rotate_left 1
  · intro wz hSw
    try dsimp only at hSw
    go_simp
    all_goals with_reducible rfl
  try simp only [Act.put, List.setIfInBounds_toArray, List.set_cons_zero, List.set_cons_succ]
  refine wpAnyH_take (i := 5) (v := ?_) opn5 (by kernel_rfl) (by kernel_rfl) (by kernel_rfl) (fun _ _ _ h => h) (Or.inl ⟨by kernel_rfl, ?_⟩) (by assumption) ?_
  rotate_left 1
  · intro wz hSw
    try dsimp only at hSw
    obtain ⟨⟨x0, x1, x2, x3⟩, ⟨x4, x5, x6⟩, xf⟩ := seven (hSw.2.trans (unhide HXV))
    go_simp
    all_goals with_reducible rfl
  try simp only [Act.put, List.setIfInBounds_toArray, List.set_cons_zero, List.set_cons_succ]
  refine wpAnyH_ready (rs := [6, 10]) (by kernel_rfl) (by simp) ?_
  refine AllReadyH.cons opn6 (fun K hK => ?_) (AllReadyH.cons opn10 (fun K hK => ?_) (AllReadyH.nil))
  · rw [if_pos (by kernel_rfl)]
    go_simp
    refine ((unhide HTK) _ (below_drew V)).mono ?_
    rintro e w1 ⟨rfl, hT⟩
    have hWV : W < V.heap.size := Nat.lt_trans hWl hlV
    have hk1 : w1.heap[W]? = V.heap[W]? := hT.same hWV (unhide HKW)
    have hk2 : w1.heap[w.heap.size]? = V.heap[w.heap.size]? := hT.same hlV ((unhide HKB) _ (Nat.le_refl _))
    obtain ⟨o1, r1, n1⟩ := (unhide HTP) _ _ (below_drew V) hT
    have hl1 : V.heap.size ≤ w1.heap.size := n1.below.size
    have HR1 := hide r1
    have HN1 := hide (((Next.of_below (o.all W) ((unhide HBV).trans ((below_drew V).mono (unhide HBV).size)) hNw)).trans n1)
    clear hT r1 n1
    refine hK.out _ _ (⟨hk1, hk2⟩) (fun hHeldN => ?_)
    clear hHeld hK K
    have hHeld := hHeldN
    clear hHeldN
    try simp only [Act.put, List.setIfInBounds_toArray, List.set_cons_zero, List.set_cons_succ]
    clear hk1 hk2
    refine wpAnyH_take (i := 7) (v := ?_) opn7 (by kernel_rfl) (by kernel_rfl) (by kernel_rfl) (fun _ _ _ h => h) (Or.inl ⟨by kernel_rfl, ?_⟩) (by assumption) ?_
    rotate_left 1
    · intro wz hSw
      try dsimp only at hSw
      go_simp
      all_goals with_reducible rfl
    try simp only [Act.put, List.setIfInBounds_toArray, List.set_cons_zero, List.set_cons_succ]
    refine wpAnyH_take (i := 8) (v := ?_) opn8 (by kernel_rfl) (by kernel_rfl) (by kernel_rfl) (fun _ _ _ h => h) (Or.inl ⟨by kernel_rfl, ?_⟩) (by assumption) ?_
    rotate_left 1
    · intro wz hSw
      try dsimp only at hSw
      go_simp
      all_goals with_reducible rfl
    try simp only [Act.put, List.setIfInBounds_toArray, List.set_cons_zero, List.set_cons_succ]
    refine wpAnyH_take (i := 9) (v := ?_) opn9 (by kernel_rfl) (by kernel_rfl) (by kernel_rfl) (fun _ _ _ h => h) (Or.inl ⟨by kernel_rfl, ?_⟩) (by assumption) ?_
    rotate_left 1
    · intro wz hSw
      try dsimp only at hSw
      go_simp
      all_goals with_reducible rfl
    try simp only [Act.put, List.setIfInBounds_toArray, List.set_cons_zero, List.set_cons_succ]
    refine wpAnyH_ready (rs := [10]) (by kernel_rfl) (by simp) ?_
    refine AllReadyH.cons opn10 (fun K hK => ?_) AllReadyH.nil
    rw [if_pos (by kernel_rfl)]
    go_simp
    have hba : Below w1.heap.size w1 (w1.alloc (.cells #[.bool false, .int .i64 0, .int .i64 0, .int .i64 0, .string ⟨#[]⟩, .string ⟨#[]⟩, .string ⟨#[]⟩, .int .i64 0, .string ⟨#[]⟩] 92)) := (Below.refl _ _).alloc (Nat.le_refl _) _
    have HZ : Hid ((w1.alloc (.cells #[.bool false, .int .i64 0, .int .i64 0, .int .i64 0, .string ⟨#[]⟩, .string ⟨#[]⟩, .string ⟨#[]⟩, .int .i64 0, .string ⟨#[]⟩] 92)).heap[w1.heap.size]? = some (.cells #[.bool false, .int .i64 0, .int .i64 0, .int .i64 0, .string ⟨#[]⟩, .string ⟨#[]⟩, .string ⟨#[]⟩, .int .i64 0, .string ⟨#[]⟩] 92 (0, 0))) := heap_alloc_new _ _
    refine hK.out _ _ (⟨(hba.block W (by omega)).trans hHeld.1, (hba.block w.heap.size (by omega)).trans hHeld.2⟩) (fun hHeldN => ?_)
    clear hHeld hK K
    have hHeld := hHeldN
    clear hHeldN
    try simp only [Act.put, List.setIfInBounds_toArray, List.set_cons_zero, List.set_cons_succ]
    generalize w1.alloc (.cells #[.bool false, .int .i64 0, .int .i64 0, .int .i64 0, .string ⟨#[]⟩, .string ⟨#[]⟩, .string ⟨#[]⟩, .int .i64 0, .string ⟨#[]⟩] 92) = W1 at hba HZ hHeld ⊢
    refine wpAnyH_ready (rs := [11]) (by kernel_rfl) (by simp) ?_
    refine AllReadyH.cons opn11 (fun K hK => ?_) AllReadyH.nil
    rw [if_pos (by kernel_rfl)]
    refine wp_store_mid _ _ _ rfl w1.heap.size 0 #[.bool pr, .int .i64 pc, .int .i64 pn, .int .i64 pk, .string pa, .string pb, .string pt, .int .i64 pd, .string pu] (by simp [Act.eval]) (by simp [Act.eval]) (fun j hj => ⟨by rw [Nat.zero_add, cell_of_row W1 w1.heap.size j _ _ _ (unhide HZ), Array.getElem?_eq_getElem (by simpa using hj)]; rfl, by rw [Nat.zero_add]; exact frozen_of_row W1 w1.heap.size j _ _ (unhide HZ)⟩) infoP (by simp [Value.oneCell']) ?_
    have hQ2 := setRowN (cs := #[.bool pr, .int .i64 pc, .int .i64 pn, .int .i64 pk, .string pa, .string pb, .string pt, .int .i64 pd, .string pu]) (unhide HZ) rfl
    have hK2 := kept_setCells w1.heap.size (Array.toList #[.bool pr, .int .i64 pc, .int .i64 pn, .int .i64 pk, .string pa, .string pb, .string pt, .int .i64 pd, .string pu]) 0 W1
    obtain ⟨W2, hW2⟩ : ∃ W', W' = W1.setCells w1.heap.size 0 (Array.toList #[.bool pr, .int .i64 pc, .int .i64 pn, .int .i64 pk, .string pa, .string pb, .string pt, .int .i64 pd, .string pu]) := ⟨_, rfl⟩
    rw [← hW2] at hQ2 hK2 ⊢
    have hlW1 := hba.size
    refine hK.out _ _ (⟨(hK2.block W (by omega) (by simp; omega)).trans hHeld.1, (hK2.block w.heap.size (by omega) (by simp; omega)).trans hHeld.2⟩) (fun hHeldN => ?_)
    clear hHeld hK K
    have hHeld := hHeldN
    clear hHeldN
    try simp only [Act.put, List.setIfInBounds_toArray, List.set_cons_zero, List.set_cons_succ]
    have hbW : Below w1.heap.size w1 W2 := ⟨hK2.os.trans hba.os, hK2.tape.trans hba.tape, hK2.output.trans hba.output, Nat.le_trans hba.size hK2.size, fun j hj => (hK2.block j (Nat.lt_of_lt_of_le hj hba.size) (by simp; omega)).trans (hba.block j hj)⟩
    refine wpAnyH_take (i := 12) (v := ?_) opn12 (by kernel_rfl) (by kernel_rfl) (by kernel_rfl) (fun _ _ _ h => h) (Or.inl ⟨by kernel_rfl, ?_⟩) (by assumption) ?_
    rotate_left 1
    · intro wz hSw
      try dsimp only at hSw
      go_simp
      all_goals with_reducible rfl
    try simp only [Act.put, List.setIfInBounds_toArray, List.set_cons_zero, List.set_cons_succ]
    refine wpAnyH_done (by kernel_rfl) ?_ _
    have HX := hide (hHeld.2.trans (unhide HXV))
    have HQ := hide hQ2
    have HR := hide ((unhide HR1).below hbW)
    have HN := hide ((unhide HN1).trans (Next.of_below _ hbW (unhide HR1).size))
    clear hQ2 hK2 hbW hba HZ hlW1 hHeld HR1 HN1 hW2
    go_wp2
    go_ret
    exact ⟨rfl, _, unhide HR, unhide HN⟩
  · rw [if_pos (by kernel_rfl)]
    go_simp
    have hba := below_alloc_drew V (.cells #[.bool false, .int .i64 0, .int .i64 0, .int .i64 0, .string ⟨#[]⟩, .string ⟨#[]⟩, .string ⟨#[]⟩, .int .i64 0, .string ⟨#[]⟩] 92)
    have HZ := hide (alloc_drew_new V (.cells #[.bool false, .int .i64 0, .int .i64 0, .int .i64 0, .string ⟨#[]⟩, .string ⟨#[]⟩, .string ⟨#[]⟩, .int .i64 0, .string ⟨#[]⟩] 92))
    have hWV : W < V.heap.size := Nat.lt_trans hWl hlV
    refine hK.out _ _ (⟨hba.block W hWV, hba.block w.heap.size hlV⟩) (fun hHeldN => ?_)
    clear hHeld hK K
    have hHeld := hHeldN
    clear hHeldN
    try simp only [Act.put, List.setIfInBounds_toArray, List.set_cons_zero, List.set_cons_succ]
    generalize (V.alloc (.cells #[.bool false, .int .i64 0, .int .i64 0, .int .i64 0, .string ⟨#[]⟩, .string ⟨#[]⟩, .string ⟨#[]⟩, .int .i64 0, .string ⟨#[]⟩] 92)).drew = V1 at hba HZ hHeld ⊢
    have hlZ : V.heap.size < V1.heap.size := (Array.getElem?_eq_some_iff.1 (unhide HZ)).1
    refine wpAnyH_ready (rs := [6]) (by kernel_rfl) (by simp) ?_
    refine AllReadyH.cons opn6 (fun K hK => ?_) AllReadyH.nil
    rw [if_pos (by kernel_rfl)]
    go_simp
    refine ((unhide HTK) _ hba).mono ?_
    rintro e w1 ⟨rfl, hT⟩
    have hk1 : w1.heap[W]? = V.heap[W]? := (hT.same (Nat.lt_trans hWV hlZ) (unhide HKW)).trans (hba.block W hWV)
    have hk2 : w1.heap[w.heap.size]? = V.heap[w.heap.size]? := (hT.same (Nat.lt_trans hlV hlZ) ((unhide HKB) _ (Nat.le_refl _))).trans (hba.block _ hlV)
    have HZ1 := hide ((hT.same hlZ ((unhide HKB) _ (Nat.le_of_lt hlV))).trans (unhide HZ))
    obtain ⟨o1, r1, n1⟩ := (unhide HTP) _ _ hba hT
    have hnz := (n1.keep V.heap.size hlZ ((unhide HKA) _ (Nat.le_of_lt hlV))).1
    have hl1 : V1.heap.size ≤ w1.heap.size := n1.below.size
    have HR1 := hide r1
    have HN1 := hide (((Next.of_below (o.all W) ((unhide HBV).trans (hba.mono (unhide HBV).size)) hNw)).trans n1)
    clear hT r1 n1
    refine hK.out _ _ (⟨hk1, hk2⟩) (fun hHeldN => ?_)
    clear hHeld hK K
    have hHeld := hHeldN
    clear hHeldN
    try simp only [Act.put, List.setIfInBounds_toArray, List.set_cons_zero, List.set_cons_succ]
    clear hk1 hk2
    refine wpAnyH_take (i := 7) (v := ?_) opn7 (by kernel_rfl) (by kernel_rfl) (by kernel_rfl) (fun _ _ _ h => h) (Or.inl ⟨by kernel_rfl, ?_⟩) (by assumption) ?_
    rotate_left 1
    · intro wz hSw
      try dsimp only at hSw
      go_simp
      all_goals with_reducible rfl
    try simp only [Act.put, List.setIfInBounds_toArray, List.set_cons_zero, List.set_cons_succ]
    refine wpAnyH_take (i := 8) (v := ?_) opn8 (by kernel_rfl) (by kernel_rfl) (by kernel_rfl) (fun _ _ _ h => h) (Or.inl ⟨by kernel_rfl, ?_⟩) (by assumption) ?_
    rotate_left 1
    · intro wz hSw
      try dsimp only at hSw
      go_simp
      all_goals with_reducible rfl
    try simp only [Act.put, List.setIfInBounds_toArray, List.set_cons_zero, List.set_cons_succ]
    refine wpAnyH_take (i := 9) (v := ?_) opn9 (by kernel_rfl) (by kernel_rfl) (by kernel_rfl) (fun _ _ _ h => h) (Or.inl ⟨by kernel_rfl, ?_⟩) (by assumption) ?_
    rotate_left 1
    · intro wz hSw
      try dsimp only at hSw
      go_simp
      all_goals with_reducible rfl
    try simp only [Act.put, List.setIfInBounds_toArray, List.set_cons_zero, List.set_cons_succ]
    refine wpAnyH_ready (rs := [11]) (by kernel_rfl) (by simp) ?_
    refine AllReadyH.cons opn11 (fun K hK => ?_) AllReadyH.nil
    rw [if_pos (by kernel_rfl)]
    refine wp_store_mid _ _ _ rfl V.heap.size 0 #[.bool pr, .int .i64 pc, .int .i64 pn, .int .i64 pk, .string pa, .string pb, .string pt, .int .i64 pd, .string pu] (by simp [Act.eval]) (by simp [Act.eval]) (fun j hj => ⟨by rw [Nat.zero_add, cell_of_row w1 V.heap.size j _ _ _ (unhide HZ1), Array.getElem?_eq_getElem (by simpa using hj)]; rfl, by rw [Nat.zero_add]; exact frozen_of_row w1 V.heap.size j _ _ (unhide HZ1)⟩) infoP (by simp [Value.oneCell']) ?_
    have hQ2 := setRowN (cs := #[.bool pr, .int .i64 pc, .int .i64 pn, .int .i64 pk, .string pa, .string pb, .string pt, .int .i64 pd, .string pu]) (unhide HZ1) rfl
    have hK2 := kept_setCells V.heap.size (Array.toList #[.bool pr, .int .i64 pc, .int .i64 pn, .int .i64 pk, .string pa, .string pb, .string pt, .int .i64 pd, .string pu]) 0 w1
    obtain ⟨W2, hW2⟩ : ∃ W', W' = w1.setCells V.heap.size 0 (Array.toList #[.bool pr, .int .i64 pc, .int .i64 pn, .int .i64 pk, .string pa, .string pb, .string pt, .int .i64 pd, .string pu]) := ⟨_, rfl⟩
    rw [← hW2] at hQ2 hK2 ⊢
    refine hK.out _ _ (⟨(hK2.block W (by omega) (by simp; omega)).trans hHeld.1, (hK2.block w.heap.size (by omega) (by simp; omega)).trans hHeld.2⟩) (fun hHeldN => ?_)
    clear hHeld hK K
    have hHeld := hHeldN
    clear hHeldN
    try simp only [Act.put, List.setIfInBounds_toArray, List.set_cons_zero, List.set_cons_succ]
    refine wpAnyH_take (i := 12) (v := ?_) opn12 (by kernel_rfl) (by kernel_rfl) (by kernel_rfl) (fun _ _ _ h => h) (Or.inl ⟨by kernel_rfl, ?_⟩) (by assumption) ?_
    rotate_left 1
    · intro wz hSw
      try dsimp only at hSw
      go_simp
      all_goals with_reducible rfl
    try simp only [Act.put, List.setIfInBounds_toArray, List.set_cons_zero, List.set_cons_succ]
    refine wpAnyH_done (by kernel_rfl) ?_ _
    have HX := hide (hHeld.2.trans (unhide HXV))
    have HQ := hide hQ2
    have HR := hide ((unhide HR1).set hnz hK2)
    have HN := hide ((unhide HN1).setN hNw (Nat.le_of_lt hlV) hK2)
    clear hQ2 hK2 hba HZ HZ1 hHeld HR1 HN1 hW2
    go_wp2
    go_ret
    exact ⟨rfl, _, unhide HR, unhide HN⟩

set_option maxRecDepth 100000 in
set_option maxHeartbeats 4000000 in
theorem wtake_some {N : Nat} {w : World} {W : Nat} {o : WOwn} {A : AW} (h : WRep N w W o A) (x : AX) (h0 : A.ms.length ≠ 0) :
    Calls Tryz.prog 48 #[.pointer (some ⟨W, 0, none⟩), x.val] w fun e w' => e = .returned (.int .i64 (A.take x).1) ∧ WTurn N w W o w' (A.take x).2 := by
  obtain ⟨V, hV⟩ : ∃ V, V = w.alloc (.cells #[.int .i64 x.kind, .int .i64 x.n, .int .i64 x.keep, .int .i64 x.call.kind, .string x.call.name, .string x.call.dst, .string x.call.text] 69) := ⟨_, rfl⟩
  have hBV : Below w.heap.size w V := by rw [hV]; exact (Below.refl _ _).alloc (Nat.le_refl _) _
  have hXV : V.heap[w.heap.size]? = some (.cells #[.int .i64 x.kind, .int .i64 x.n, .int .i64 x.keep, .int .i64 x.call.kind, .string x.call.name, .string x.call.dst, .string x.call.text] 69 (0, 0)) := by rw [hV]; exact heap_alloc_new _ _
  have hlV : w.heap.size < V.heap.size := (Array.getElem?_eq_some_iff.1 hXV).1
  have hrV := h.below hBV
  have HBV := hide hBV
  have HXV := hide hXV
  have HV := hide hV
  have HPC := hide hrV.cells.1.2.2.2.2
  have hWl := h.lt
  have hNw := h.size
  have HTK := hide (fun W' (hb : Below V.heap.size V W') => PTake_any (hrV.below hb).p x.n)
  have HTP := hide (fun W' w1 (hb : Below V.heap.size V W') (hT : PTurn 115 N W' o.P o.pv w1 (aTakeL A.ms x.n)) => (hrV.below hb).turnP hT)
  have HKW : Hid (W ∉ powns o.P o.pv) := h.nW 4 (by omega)
  have HKB : Hid (∀ b, w.heap.size ≤ b → b ∉ powns o.P o.pv) := fun b hb => h.not_part hb (i := 4) (by omega)
  have HKA : Hid (∀ b, w.heap.size ≤ b → b ∉ o.all W) := fun b hb => h.not_new hb
  have hB : aTakeB A.ms = true := decide_eq_true (by omega)
  rw [hB] at HTK
  have HSM : Hid (SmallP (aTakeM A.ms x.n)) := h.p.small _ (takeM_mem x.n h0)
  have HRES : Hid (A.take x = if x.kind = 3 then (0, (A.took x.n).come (aTakeM A.ms x.n)) else if x.kind = 7 then (A.took x.n).tear (aTakeM A.ms x.n) x.keep else (0, A.took x.n)) := by show AW.take A x = _; unfold AW.take; rw [if_neg h0]
  generalize A.take x = R at HRES ⊢
  have HAT : Hid (A.took x.n = ⟨A.log, A.cl, aTakeL A.ms x.n⟩) := rfl
  generalize aTakeM A.ms x.n = p at HTK HSM HRES
  generalize aTakeL A.ms x.n = ms' at HTK HTP HAT
  obtain ⟨pr, pc, pn, ⟨pk, pa, pb, pt⟩, pd, pu⟩ := p
  generalize o.P = P at HTK HTP HKW HKB HPC
  generalize o.pv = pv at HTK HTP HKW HKB
  clear h hV hBV hXV hrV h0 hB
  obtain ⟨xk, xn, xp, ⟨ck, ca, cb, ct⟩⟩ := x
  dsimp only [APkt.val, AX.val] at *
  go_enter Tryz.func48, Tryz.ntmps48
  go_wp2_with fail
  rw [← unhide HV]
  refine wp_region_held_drew (S := (fun wx => wx.heap[W]? = V.heap[W]? ∧ wx.heap[w.heap.size]? = V.heap[w.heap.size]?)) (by kernel_rfl) (⟨rfl, rfl⟩) (fun hHeld => ?_)
  refine wpAnyH_take (i := 0) (v := ?_) opn0 (by kernel_rfl) (by kernel_rfl) (by kernel_rfl) (fun _ _ _ h => h) (Or.inl ⟨by kernel_rfl, ?_⟩) (by assumption) ?_
  rotate_left 1
  · intro wz hSw
    try dsimp only at hSw
    go_simp
    all_goals with_reducible rfl
  try simp only [Act.put, List.setIfInBounds_toArray, List.set_cons_zero, List.set_cons_succ]
  refine wpAnyH_take (i := 1) (v := ?_) opn1 (by kernel_rfl) (by kernel_rfl) (by kernel_rfl) (fun _ _ _ h => h) (Or.inl ⟨by kernel_rfl, ?_⟩) (by assumption) ?_
  rotate_left 1
  · intro wz hSw
    try dsimp only at hSw
    go_simp
    all_goals with_reducible rfl
  try simp only [Act.put, List.setIfInBounds_toArray, List.set_cons_zero, List.set_cons_succ]
  refine wpAnyH_take (i := 2) (v := ?_) opn2 (by kernel_rfl) (by kernel_rfl) (by kernel_rfl) (fun _ _ _ h => h) (Or.inl ⟨by kernel_rfl, ?_⟩) (by assumption) ?_
  rotate_left 1
  · intro wz hSw
    try dsimp only at hSw
    go_simp
    all_goals with_reducible rfl
  try simp only [Act.put, List.setIfInBounds_toArray, List.set_cons_zero, List.set_cons_succ]
  refine wpAnyH_take (i := 3) (v := ?_) opn3 (by kernel_rfl) (by kernel_rfl) (by kernel_rfl) (fun _ _ _ h => h) (Or.inl ⟨by kernel_rfl, ?_⟩) (by assumption) ?_
  rotate_left 1
  · intro wz hSw
    try dsimp only at hSw
    have hq : wz.cell? ⟨W, 4, none⟩ = some (.pointer (some ⟨P, 0, none⟩)) := (World.cell?_of_block (w := V) (a := ⟨W, 4, none⟩) hSw.1).trans (unhide HPC)
    go_simp
    all_goals with_reducible rfl
  try simp only [Act.put, List.setIfInBounds_toArray, List.set_cons_zero, List.set_cons_succ]
  refine wpAnyH_take (i := 4) (v := ?_) opn4 (by kernel_rfl) (by kernel_rfl) (by kernel_rfl) (fun _ _ _ h => h) (Or.inl ⟨by kernel_rfl, ?_⟩) (by assumption) ?_
  rotate_left 1
  · intro wz hSw
    try dsimp only at hSw
    go_simp
    all_goals with_reducible rfl
  try simp only [Act.put, List.setIfInBounds_toArray, List.set_cons_zero, List.set_cons_succ]
  refine wpAnyH_take (i := 5) (v := ?_) opn5 (by kernel_rfl) (by kernel_rfl) (by kernel_rfl) (fun _ _ _ h => h) (Or.inl ⟨by kernel_rfl, ?_⟩) (by assumption) ?_
  rotate_left 1
  · intro wz hSw
    try dsimp only at hSw
    obtain ⟨⟨x0, x1, x2, x3⟩, ⟨x4, x5, x6⟩, xf⟩ := seven (hSw.2.trans (unhide HXV))
    go_simp
    all_goals with_reducible rfl
  try simp only [Act.put, List.setIfInBounds_toArray, List.set_cons_zero, List.set_cons_succ]
  refine wpAnyH_ready (rs := [6, 10]) (by kernel_rfl) (by simp) ?_
  refine AllReadyH.cons opn6 (fun K hK => ?_) (AllReadyH.cons opn10 (fun K hK => ?_) (AllReadyH.nil))
  · rw [if_pos (by kernel_rfl)]
    go_simp
    refine ((unhide HTK) _ (below_drew V)).mono ?_
    rintro e w1 ⟨rfl, hT⟩
    have hWV : W < V.heap.size := Nat.lt_trans hWl hlV
    have hk1 : w1.heap[W]? = V.heap[W]? := hT.same hWV (unhide HKW)
    have hk2 : w1.heap[w.heap.size]? = V.heap[w.heap.size]? := hT.same hlV ((unhide HKB) _ (Nat.le_refl _))
    obtain ⟨o1, r1, n1⟩ := (unhide HTP) _ _ (below_drew V) hT
    have hl1 : V.heap.size ≤ w1.heap.size := n1.below.size
    have HR1 := hide r1
    have HN1 := hide (((Next.of_below (o.all W) ((unhide HBV).trans ((below_drew V).mono (unhide HBV).size)) hNw)).trans n1)
    clear hT r1 n1
    refine hK.out _ _ (⟨hk1, hk2⟩) (fun hHeldN => ?_)
    clear hHeld hK K
    have hHeld := hHeldN
    clear hHeldN
    try simp only [Act.put, List.setIfInBounds_toArray, List.set_cons_zero, List.set_cons_succ]
    clear hk1 hk2
    refine wpAnyH_take (i := 7) (v := ?_) opn7 (by kernel_rfl) (by kernel_rfl) (by kernel_rfl) (fun _ _ _ h => h) (Or.inl ⟨by kernel_rfl, ?_⟩) (by assumption) ?_
    rotate_left 1
    · intro wz hSw
      try dsimp only at hSw
      go_simp
      all_goals with_reducible rfl
    try simp only [Act.put, List.setIfInBounds_toArray, List.set_cons_zero, List.set_cons_succ]
    refine wpAnyH_take (i := 8) (v := ?_) opn8 (by kernel_rfl) (by kernel_rfl) (by kernel_rfl) (fun _ _ _ h => h) (Or.inl ⟨by kernel_rfl, ?_⟩) (by assumption) ?_
    rotate_left 1
    · intro wz hSw
      try dsimp only at hSw
      go_simp
      all_goals with_reducible rfl
    try simp only [Act.put, List.setIfInBounds_toArray, List.set_cons_zero, List.set_cons_succ]
    refine wpAnyH_take (i := 9) (v := ?_) opn9 (by kernel_rfl) (by kernel_rfl) (by kernel_rfl) (fun _ _ _ h => h) (Or.inl ⟨by kernel_rfl, ?_⟩) (by assumption) ?_
    rotate_left 1
    · intro wz hSw
      try dsimp only at hSw
      go_simp
      all_goals with_reducible rfl
    try simp only [Act.put, List.setIfInBounds_toArray, List.set_cons_zero, List.set_cons_succ]
    refine wpAnyH_ready (rs := [10]) (by kernel_rfl) (by simp) ?_
    refine AllReadyH.cons opn10 (fun K hK => ?_) AllReadyH.nil
    rw [if_pos (by kernel_rfl)]
    go_simp
    have hba : Below w1.heap.size w1 (w1.alloc (.cells #[.bool false, .int .i64 0, .int .i64 0, .int .i64 0, .string ⟨#[]⟩, .string ⟨#[]⟩, .string ⟨#[]⟩, .int .i64 0, .string ⟨#[]⟩] 92)) := (Below.refl _ _).alloc (Nat.le_refl _) _
    have HZ : Hid ((w1.alloc (.cells #[.bool false, .int .i64 0, .int .i64 0, .int .i64 0, .string ⟨#[]⟩, .string ⟨#[]⟩, .string ⟨#[]⟩, .int .i64 0, .string ⟨#[]⟩] 92)).heap[w1.heap.size]? = some (.cells #[.bool false, .int .i64 0, .int .i64 0, .int .i64 0, .string ⟨#[]⟩, .string ⟨#[]⟩, .string ⟨#[]⟩, .int .i64 0, .string ⟨#[]⟩] 92 (0, 0))) := heap_alloc_new _ _
    refine hK.out _ _ (⟨(hba.block W (by omega)).trans hHeld.1, (hba.block w.heap.size (by omega)).trans hHeld.2⟩) (fun hHeldN => ?_)
    clear hHeld hK K
    have hHeld := hHeldN
    clear hHeldN
    try simp only [Act.put, List.setIfInBounds_toArray, List.set_cons_zero, List.set_cons_succ]
    generalize w1.alloc (.cells #[.bool false, .int .i64 0, .int .i64 0, .int .i64 0, .string ⟨#[]⟩, .string ⟨#[]⟩, .string ⟨#[]⟩, .int .i64 0, .string ⟨#[]⟩] 92) = W1 at hba HZ hHeld ⊢
    refine wpAnyH_ready (rs := [11]) (by kernel_rfl) (by simp) ?_
    refine AllReadyH.cons opn11 (fun K hK => ?_) AllReadyH.nil
    rw [if_pos (by kernel_rfl)]
    refine wp_store_mid _ _ _ rfl w1.heap.size 0 #[.bool pr, .int .i64 pc, .int .i64 pn, .int .i64 pk, .string pa, .string pb, .string pt, .int .i64 pd, .string pu] (by simp [Act.eval]) (by simp [Act.eval]) (fun j hj => ⟨by rw [Nat.zero_add, cell_of_row W1 w1.heap.size j _ _ _ (unhide HZ), Array.getElem?_eq_getElem (by simpa using hj)]; rfl, by rw [Nat.zero_add]; exact frozen_of_row W1 w1.heap.size j _ _ (unhide HZ)⟩) infoP (by simp [Value.oneCell']) ?_
    have hQ2 := setRowN (cs := #[.bool pr, .int .i64 pc, .int .i64 pn, .int .i64 pk, .string pa, .string pb, .string pt, .int .i64 pd, .string pu]) (unhide HZ) rfl
    have hK2 := kept_setCells w1.heap.size (Array.toList #[.bool pr, .int .i64 pc, .int .i64 pn, .int .i64 pk, .string pa, .string pb, .string pt, .int .i64 pd, .string pu]) 0 W1
    obtain ⟨W2, hW2⟩ : ∃ W', W' = W1.setCells w1.heap.size 0 (Array.toList #[.bool pr, .int .i64 pc, .int .i64 pn, .int .i64 pk, .string pa, .string pb, .string pt, .int .i64 pd, .string pu]) := ⟨_, rfl⟩
    rw [← hW2] at hQ2 hK2 ⊢
    have hlW1 := hba.size
    refine hK.out _ _ (⟨(hK2.block W (by omega) (by simp; omega)).trans hHeld.1, (hK2.block w.heap.size (by omega) (by simp; omega)).trans hHeld.2⟩) (fun hHeldN => ?_)
    clear hHeld hK K
    have hHeld := hHeldN
    clear hHeldN
    try simp only [Act.put, List.setIfInBounds_toArray, List.set_cons_zero, List.set_cons_succ]
    have hbW : Below w1.heap.size w1 W2 := ⟨hK2.os.trans hba.os, hK2.tape.trans hba.tape, hK2.output.trans hba.output, Nat.le_trans hba.size hK2.size, fun j hj => (hK2.block j (Nat.lt_of_lt_of_le hj hba.size) (by simp; omega)).trans (hba.block j hj)⟩
    refine wpAnyH_take (i := 12) (v := ?_) opn12 (by kernel_rfl) (by kernel_rfl) (by kernel_rfl) (fun _ _ _ h => h) (Or.inl ⟨by kernel_rfl, ?_⟩) (by assumption) ?_
    rotate_left 1
    · intro wz hSw
      try dsimp only at hSw
      go_simp
      all_goals with_reducible rfl
    try simp only [Act.put, List.setIfInBounds_toArray, List.set_cons_zero, List.set_cons_succ]
    refine wpAnyH_done (by kernel_rfl) ?_ _
    have HX := hide (hHeld.2.trans (unhide HXV))
    have HQ := hide hQ2
    have HR := hide ((unhide HR1).below hbW)
    have HN := hide ((unhide HN1).trans (Next.of_below _ hbW (unhide HR1).size))
    clear hQ2 hK2 hbW hba HZ hlW1 hHeld HR1 HN1 hW2
    rw [unhide HAT] at HRES
    obtain ⟨⟨x0, x1, x2, x3⟩, ⟨x4, x5, x6⟩, xf⟩ := seven (unhide HX)
    obtain ⟨⟨q0, q1, q2, q3⟩, ⟨q4, q5, q6, q7, q8⟩, qf⟩ := nine (unhide HQ)
    by_cases h3 : xk = 3
    · subst h3
      have hres := (unhide HRES)
      rw [if_pos rfl] at hres
      have HD := hide (deliver_any (unhide HR) ⟨pr, pc, pn, ⟨pk, pa, pb, pt⟩, pd, pu⟩ (unhide HSM))
      dsimp only [APkt.val] at HD
      have HRS := hide hres
      clear hres
      go_wp2_with fail
      refine (unhide HD).mono ?_
      rintro e w4 ⟨rfl, hT⟩
      have hres := unhide HRS
      obtain ⟨o4, r4, n4⟩ := hT
      have HFIN := hide (And.intro r4 ((unhide HN).trans n4))
      clear r4 n4
      go_wp2
      go_ret
      exact ⟨by rw [hres]; rfl, by rw [hres]; exact ⟨_, (unhide HFIN).1, (unhide HFIN).2⟩⟩
    · by_cases h7 : xk = 7
      · subst h7
        have hres := (unhide HRES)
        rw [if_neg (by omega), if_pos rfl] at hres
        have HD := hide (wtear_any (unhide HR) ⟨pr, pc, pn, ⟨pk, pa, pb, pt⟩, pd, pu⟩ (unhide HSM) xp)
        rw [← hres] at HD
        dsimp only [APkt.val] at HD
        clear hres h3
        go_wp2_with fail
        refine (unhide HD).mono ?_
        rintro e w4 ⟨rfl, hT⟩
        obtain ⟨o4, r4, n4⟩ := hT
        have HFIN := hide (And.intro r4 ((unhide HN).trans n4))
        clear r4 n4
        go_wp2
        go_ret
        exact ⟨rfl, _, (unhide HFIN).1, (unhide HFIN).2⟩
      · have hres := (unhide HRES)
        rw [if_neg h3, if_neg h7] at hres
        have h3b : (xk == 3) = false := by simpa using h3
        have h7b : (xk == 7) = false := by simpa using h7
        have HRS := hide hres
        clear hres h3 h7
        go_wp2
        go_ret
        exact ⟨by rw [unhide HRS]; rfl, by rw [unhide HRS]; exact ⟨_, unhide HR, unhide HN⟩⟩
  · rw [if_pos (by kernel_rfl)]
    go_simp
    have hba := below_alloc_drew V (.cells #[.bool false, .int .i64 0, .int .i64 0, .int .i64 0, .string ⟨#[]⟩, .string ⟨#[]⟩, .string ⟨#[]⟩, .int .i64 0, .string ⟨#[]⟩] 92)
    have HZ := hide (alloc_drew_new V (.cells #[.bool false, .int .i64 0, .int .i64 0, .int .i64 0, .string ⟨#[]⟩, .string ⟨#[]⟩, .string ⟨#[]⟩, .int .i64 0, .string ⟨#[]⟩] 92))
    have hWV : W < V.heap.size := Nat.lt_trans hWl hlV
    refine hK.out _ _ (⟨hba.block W hWV, hba.block w.heap.size hlV⟩) (fun hHeldN => ?_)
    clear hHeld hK K
    have hHeld := hHeldN
    clear hHeldN
    try simp only [Act.put, List.setIfInBounds_toArray, List.set_cons_zero, List.set_cons_succ]
    generalize (V.alloc (.cells #[.bool false, .int .i64 0, .int .i64 0, .int .i64 0, .string ⟨#[]⟩, .string ⟨#[]⟩, .string ⟨#[]⟩, .int .i64 0, .string ⟨#[]⟩] 92)).drew = V1 at hba HZ hHeld ⊢
    have hlZ : V.heap.size < V1.heap.size := (Array.getElem?_eq_some_iff.1 (unhide HZ)).1
    refine wpAnyH_ready (rs := [6]) (by kernel_rfl) (by simp) ?_
    refine AllReadyH.cons opn6 (fun K hK => ?_) AllReadyH.nil
    rw [if_pos (by kernel_rfl)]
    go_simp
    refine ((unhide HTK) _ hba).mono ?_
    rintro e w1 ⟨rfl, hT⟩
    have hk1 : w1.heap[W]? = V.heap[W]? := (hT.same (Nat.lt_trans hWV hlZ) (unhide HKW)).trans (hba.block W hWV)
    have hk2 : w1.heap[w.heap.size]? = V.heap[w.heap.size]? := (hT.same (Nat.lt_trans hlV hlZ) ((unhide HKB) _ (Nat.le_refl _))).trans (hba.block _ hlV)
    have HZ1 := hide ((hT.same hlZ ((unhide HKB) _ (Nat.le_of_lt hlV))).trans (unhide HZ))
    obtain ⟨o1, r1, n1⟩ := (unhide HTP) _ _ hba hT
    have hnz := (n1.keep V.heap.size hlZ ((unhide HKA) _ (Nat.le_of_lt hlV))).1
    have hl1 : V1.heap.size ≤ w1.heap.size := n1.below.size
    have HR1 := hide r1
    have HN1 := hide (((Next.of_below (o.all W) ((unhide HBV).trans (hba.mono (unhide HBV).size)) hNw)).trans n1)
    clear hT r1 n1
    refine hK.out _ _ (⟨hk1, hk2⟩) (fun hHeldN => ?_)
    clear hHeld hK K
    have hHeld := hHeldN
    clear hHeldN
    try simp only [Act.put, List.setIfInBounds_toArray, List.set_cons_zero, List.set_cons_succ]
    clear hk1 hk2
    refine wpAnyH_take (i := 7) (v := ?_) opn7 (by kernel_rfl) (by kernel_rfl) (by kernel_rfl) (fun _ _ _ h => h) (Or.inl ⟨by kernel_rfl, ?_⟩) (by assumption) ?_
    rotate_left 1
    · intro wz hSw
      try dsimp only at hSw
      go_simp
      all_goals with_reducible rfl
    try simp only [Act.put, List.setIfInBounds_toArray, List.set_cons_zero, List.set_cons_succ]
    refine wpAnyH_take (i := 8) (v := ?_) opn8 (by kernel_rfl) (by kernel_rfl) (by kernel_rfl) (fun _ _ _ h => h) (Or.inl ⟨by kernel_rfl, ?_⟩) (by assumption) ?_
    rotate_left 1
    · intro wz hSw
      try dsimp only at hSw
      go_simp
      all_goals with_reducible rfl
    try simp only [Act.put, List.setIfInBounds_toArray, List.set_cons_zero, List.set_cons_succ]
    refine wpAnyH_take (i := 9) (v := ?_) opn9 (by kernel_rfl) (by kernel_rfl) (by kernel_rfl) (fun _ _ _ h => h) (Or.inl ⟨by kernel_rfl, ?_⟩) (by assumption) ?_
    rotate_left 1
    · intro wz hSw
      try dsimp only at hSw
      go_simp
      all_goals with_reducible rfl
    try simp only [Act.put, List.setIfInBounds_toArray, List.set_cons_zero, List.set_cons_succ]
    refine wpAnyH_ready (rs := [11]) (by kernel_rfl) (by simp) ?_
    refine AllReadyH.cons opn11 (fun K hK => ?_) AllReadyH.nil
    rw [if_pos (by kernel_rfl)]
    refine wp_store_mid _ _ _ rfl V.heap.size 0 #[.bool pr, .int .i64 pc, .int .i64 pn, .int .i64 pk, .string pa, .string pb, .string pt, .int .i64 pd, .string pu] (by simp [Act.eval]) (by simp [Act.eval]) (fun j hj => ⟨by rw [Nat.zero_add, cell_of_row w1 V.heap.size j _ _ _ (unhide HZ1), Array.getElem?_eq_getElem (by simpa using hj)]; rfl, by rw [Nat.zero_add]; exact frozen_of_row w1 V.heap.size j _ _ (unhide HZ1)⟩) infoP (by simp [Value.oneCell']) ?_
    have hQ2 := setRowN (cs := #[.bool pr, .int .i64 pc, .int .i64 pn, .int .i64 pk, .string pa, .string pb, .string pt, .int .i64 pd, .string pu]) (unhide HZ1) rfl
    have hK2 := kept_setCells V.heap.size (Array.toList #[.bool pr, .int .i64 pc, .int .i64 pn, .int .i64 pk, .string pa, .string pb, .string pt, .int .i64 pd, .string pu]) 0 w1
    obtain ⟨W2, hW2⟩ : ∃ W', W' = w1.setCells V.heap.size 0 (Array.toList #[.bool pr, .int .i64 pc, .int .i64 pn, .int .i64 pk, .string pa, .string pb, .string pt, .int .i64 pd, .string pu]) := ⟨_, rfl⟩
    rw [← hW2] at hQ2 hK2 ⊢
    refine hK.out _ _ (⟨(hK2.block W (by omega) (by simp; omega)).trans hHeld.1, (hK2.block w.heap.size (by omega) (by simp; omega)).trans hHeld.2⟩) (fun hHeldN => ?_)
    clear hHeld hK K
    have hHeld := hHeldN
    clear hHeldN
    try simp only [Act.put, List.setIfInBounds_toArray, List.set_cons_zero, List.set_cons_succ]
    refine wpAnyH_take (i := 12) (v := ?_) opn12 (by kernel_rfl) (by kernel_rfl) (by kernel_rfl) (fun _ _ _ h => h) (Or.inl ⟨by kernel_rfl, ?_⟩) (by assumption) ?_
    rotate_left 1
    · intro wz hSw
      try dsimp only at hSw
      go_simp
      all_goals with_reducible rfl
    try simp only [Act.put, List.setIfInBounds_toArray, List.set_cons_zero, List.set_cons_succ]
    refine wpAnyH_done (by kernel_rfl) ?_ _
    have HX := hide (hHeld.2.trans (unhide HXV))
    have HQ := hide hQ2
    have HR := hide ((unhide HR1).set hnz hK2)
    have HN := hide ((unhide HN1).setN hNw (Nat.le_of_lt hlV) hK2)
    clear hQ2 hK2 hba HZ HZ1 hHeld HR1 HN1 hW2
    rw [unhide HAT] at HRES
    obtain ⟨⟨x0, x1, x2, x3⟩, ⟨x4, x5, x6⟩, xf⟩ := seven (unhide HX)
    obtain ⟨⟨q0, q1, q2, q3⟩, ⟨q4, q5, q6, q7, q8⟩, qf⟩ := nine (unhide HQ)
    by_cases h3 : xk = 3
    · subst h3
      have hres := (unhide HRES)
      rw [if_pos rfl] at hres
      have HD := hide (deliver_any (unhide HR) ⟨pr, pc, pn, ⟨pk, pa, pb, pt⟩, pd, pu⟩ (unhide HSM))
      dsimp only [APkt.val] at HD
      have HRS := hide hres
      clear hres
      go_wp2_with fail
      refine (unhide HD).mono ?_
      rintro e w4 ⟨rfl, hT⟩
      have hres := unhide HRS
      obtain ⟨o4, r4, n4⟩ := hT
      have HFIN := hide (And.intro r4 ((unhide HN).trans n4))
      clear r4 n4
      go_wp2
      go_ret
      exact ⟨by rw [hres]; rfl, by rw [hres]; exact ⟨_, (unhide HFIN).1, (unhide HFIN).2⟩⟩
    · by_cases h7 : xk = 7
      · subst h7
        have hres := (unhide HRES)
        rw [if_neg (by omega), if_pos rfl] at hres
        have HD := hide (wtear_any (unhide HR) ⟨pr, pc, pn, ⟨pk, pa, pb, pt⟩, pd, pu⟩ (unhide HSM) xp)
        rw [← hres] at HD
        dsimp only [APkt.val] at HD
        clear hres h3
        go_wp2_with fail
        refine (unhide HD).mono ?_
        rintro e w4 ⟨rfl, hT⟩
        obtain ⟨o4, r4, n4⟩ := hT
        have HFIN := hide (And.intro r4 ((unhide HN).trans n4))
        clear r4 n4
        go_wp2
        go_ret
        exact ⟨rfl, _, (unhide HFIN).1, (unhide HFIN).2⟩
      · have hres := (unhide HRES)
        rw [if_neg h3, if_neg h7] at hres
        have h3b : (xk == 3) = false := by simpa using h3
        have h7b : (xk == 7) = false := by simpa using h7
        have HRS := hide hres
        clear hres h3 h7
        go_wp2
        go_ret
        exact ⟨by rw [unhide HRS]; rfl, by rw [unhide HRS]; exact ⟨_, unhide HR, unhide HN⟩⟩

theorem wtake_any {N : Nat} {w : World} {W : Nat} {o : WOwn} {A : AW} (h : WRep N w W o A) (x : AX) :
    Calls Tryz.prog 48 #[.pointer (some ⟨W, 0, none⟩), x.val] w fun e w' => e = .returned (.int .i64 (A.take x).1) ∧ WTurn N w W o w' (A.take x).2 := by
  by_cases h0 : A.ms.length = 0
  · exact wtake_none h x h0
  · exact wtake_some h x h0

set_option maxRecDepth 100000 in
set_option maxHeartbeats 4000000 in
theorem Step_any {N : Nat} {w : World} {W : Nat} {o : WOwn} {A : AW} (h : WRep N w W o A) (x : AX) (hx : SmallC x.call) :
    Calls Tryz.prog 26 #[.pointer (some ⟨W, 0, none⟩), x.val] w fun e w' => e = .returned (.int .i64 (A.step x).1) ∧ WTurn N w W o w' (A.step x).2 := by
  obtain ⟨V, hV⟩ : ∃ V, V = w.alloc (.cells #[.int .i64 x.kind, .int .i64 x.n, .int .i64 x.keep, .int .i64 x.call.kind, .string x.call.name, .string x.call.dst, .string x.call.text] 69) := ⟨_, rfl⟩
  have hBV : Below w.heap.size w V := by rw [hV]; exact (Below.refl _ _).alloc (Nat.le_refl _) _
  have hXV : V.heap[w.heap.size]? = some (.cells #[.int .i64 x.kind, .int .i64 x.n, .int .i64 x.keep, .int .i64 x.call.kind, .string x.call.name, .string x.call.dst, .string x.call.text] 69 (0, 0)) := by rw [hV]; exact heap_alloc_new _ _
  have hlV : w.heap.size < V.heap.size := (Array.getElem?_eq_some_iff.1 hXV).1
  have hrV := h.below hBV
  have HBV := hide hBV
  have HXV := hide hXV
  have HV := hide hV
  have HRES : Hid (A.step x = if x.kind = 1 then A.have x.n x.call else if x.kind = 2 then A.send x.n else if x.kind = 5 then A.dbl x.n else if x.kind = 4 ∨ x.kind = 3 ∨ x.kind = 7 then A.take x else if x.kind = 6 then (0, A) else (1, A)) := rfl
  generalize A.step x = R at HRES ⊢
  have HN := hide h.size
  have HCV := hide (have_any hrV x.n x.call hx)
  have HSD := hide (wsend_any hrV x.n)
  have HDB := hide (double_any hrV x.n)
  have HTK := hide (wtake_any hrV x)
  have HCR := hide (Crash_any hrV.s (by have := h.ss; omega) hrV.size)
  have HTS := hide (fun w' (hT : STurned N V o.S o.own o.lv w' A.log) => hrV.turnS hT h.ss)
  have hsc := h.cells.1.1
  have hWl := h.lt
  have hWn : W ≠ w.heap.size := by omega
  have HT0 := hide (WTurn.of_below hrV (Below.refl _ _))
  obtain ⟨⟨x0, x1, x2, x3⟩, ⟨x4, x5, x6⟩, xf⟩ := seven hXV
  clear h hV hBV hXV hrV hx
  obtain ⟨xk, xn, xp, ⟨ck, ca, cb, ct⟩⟩ := x
  dsimp only [AX.val] at *
  by_cases h1 : xk = 1
  · subst h1
    have hres := unhide HRES
    rw [if_pos rfl] at hres
    rw [← hres] at HCV
    clear hres
    go_enter Tryz.func26, Tryz.ntmps26
    go_wp2_with fail
    rw [← unhide HV]
    refine (unhide HCV).mono ?_
    rintro e w4 ⟨rfl, hT⟩
    have HFIN := hide (hT.before (unhide HBV) (unhide HN))
    clear hT
    go_wp2
    go_ret
    exact ⟨rfl, unhide HFIN⟩
  by_cases h2 : xk = 2
  · subst h2
    clear h1
    have hres := unhide HRES
    rw [if_neg (by omega), if_pos rfl] at hres
    rw [← hres] at HSD
    clear hres
    go_enter Tryz.func26, Tryz.ntmps26
    go_wp2_with fail
    rw [← unhide HV]
    refine (unhide HSD).mono ?_
    rintro e w4 ⟨rfl, hT⟩
    have HFIN := hide (hT.before (unhide HBV) (unhide HN))
    clear hT
    go_wp2
    go_ret
    exact ⟨rfl, unhide HFIN⟩
  by_cases h5 : xk = 5
  · subst h5
    clear h1 h2
    have hres := unhide HRES
    rw [if_neg (by omega), if_neg (by omega), if_pos rfl] at hres
    rw [← hres] at HDB
    clear hres
    go_enter Tryz.func26, Tryz.ntmps26
    go_wp2_with fail
    rw [← unhide HV]
    refine (unhide HDB).mono ?_
    rintro e w4 ⟨rfl, hT⟩
    have HFIN := hide (hT.before (unhide HBV) (unhide HN))
    clear hT
    go_wp2
    go_ret
    exact ⟨rfl, unhide HFIN⟩
  by_cases h4 : xk = 4
  · subst h4
    clear h1 h2 h5
    have hres := unhide HRES
    rw [if_neg (by omega), if_neg (by omega), if_neg (by omega), if_pos (by omega)] at hres
    rw [← hres] at HTK
    clear hres
    go_enter Tryz.func26, Tryz.ntmps26
    go_wp2_with fail
    rw [← unhide HV]
    refine (unhide HTK).mono ?_
    rintro e w4 ⟨rfl, hT⟩
    have HFIN := hide (hT.before (unhide HBV) (unhide HN))
    clear hT
    go_wp2
    go_ret
    exact ⟨rfl, unhide HFIN⟩
  by_cases h3 : xk = 3
  · subst h3
    clear h1 h2 h5 h4
    have hres := unhide HRES
    rw [if_neg (by omega), if_neg (by omega), if_neg (by omega), if_pos (by omega)] at hres
    rw [← hres] at HTK
    clear hres
    go_enter Tryz.func26, Tryz.ntmps26
    go_wp2_with fail
    rw [← unhide HV]
    refine (unhide HTK).mono ?_
    rintro e w4 ⟨rfl, hT⟩
    have HFIN := hide (hT.before (unhide HBV) (unhide HN))
    clear hT
    go_wp2
    go_ret
    exact ⟨rfl, unhide HFIN⟩
  by_cases h7 : xk = 7
  · subst h7
    clear h1 h2 h5 h4 h3
    have hres := unhide HRES
    rw [if_neg (by omega), if_neg (by omega), if_neg (by omega), if_pos (by omega)] at hres
    rw [← hres] at HTK
    clear hres
    go_enter Tryz.func26, Tryz.ntmps26
    go_wp2_with fail
    rw [← unhide HV]
    refine (unhide HTK).mono ?_
    rintro e w4 ⟨rfl, hT⟩
    have HFIN := hide (hT.before (unhide HBV) (unhide HN))
    clear hT
    go_wp2
    go_ret
    exact ⟨rfl, unhide HFIN⟩
  by_cases h6 : xk = 6
  · subst h6
    clear h1 h2 h5 h4 h3 h7
    have hres := unhide HRES
    rw [if_neg (by omega), if_neg (by omega), if_neg (by omega), if_neg (by omega), if_pos rfl] at hres
    have HRS := hide hres
    clear hres
    generalize o.S = S at HCR HTS hsc
    generalize o.own = own at HCR HTS
    generalize o.lv = lv at HCR HTS
    go_enter Tryz.func26, Tryz.ntmps26
    go_wp2_with fail
    rw [← unhide HV]
    refine (unhide HCR).mono ?_
    rintro e w4 ⟨rfl, hT⟩
    have HFIN := hide (((unhide HTS) _ hT).before (unhide HBV) (unhide HN))
    clear hT
    go_wp2
    go_ret
    exact ⟨by rw [unhide HRS]; rfl, by rw [unhide HRS]; exact unhide HFIN⟩
  have hres := unhide HRES
  rw [if_neg h1, if_neg h2, if_neg h5, if_neg (by omega), if_neg h6] at hres
  have HRS := hide hres
  have b1 : (xk == 1) = false := by simpa using h1
  have b2 : (xk == 2) = false := by simpa using h2
  have b5 : (xk == 5) = false := by simpa using h5
  have b4 : (xk == 4) = false := by simpa using h4
  have b3 : (xk == 3) = false := by simpa using h3
  have b7 : (xk == 7) = false := by simpa using h7
  have b6 : (xk == 6) = false := by simpa using h6
  clear hres h1 h2 h5 h4 h3 h7 h6
  go_enter Tryz.func26, Tryz.ntmps26
  go_wp2
  go_ret
  exact ⟨by rw [unhide HRS]; rfl, by rw [unhide HRS, ← unhide HV]; exact (unhide HT0).before (unhide HBV) (unhide HN)⟩

end Go.Proofs.YtmbhbnoifimeaabGreat

namespace Go.Proofs.YtmbhbnoifimeaabGreat
open Go.RowKit
set_option linter.unusedSimpArgs false
set_option linter.unusedVariables false

/-- The world has come from w to wr, as A1. -/
structure WNow (N : Nat) (w : World) (W : Nat) (o : WOwn) (wr : World) (o1 : WOwn) (A1 : AW) : Prop where
  rep : WRep N wr W o1 A1
  nx : Next N w wr (o.all W) (o1.all W)
theorem WNow.refl {N : Nat} {w : World} {W : Nat} {o : WOwn} {A : AW} (h : WRep N w W o A) : WNow N w W o w o A := ⟨h, Next.of_below _ (Below.refl _ _) h.size⟩
theorem WNow.then {N : Nat} {w w1 w2 : World} {W : Nat} {o o1 : WOwn} {A1 A2 : AW} (h : WNow N w W o w1 o1 A1) (hT : WTurn N w1 W o1 w2 A2) : ∃ o2, WNow N w W o w2 o2 A2 := by
  obtain ⟨o2, r2, n2⟩ := hT
  exact ⟨o2, r2, h.nx.trans n2⟩
theorem WNow.turn {N : Nat} {w w1 : World} {W : Nat} {o o1 : WOwn} {A1 : AW} (h : WNow N w W o w1 o1 A1) : WTurn N w W o w1 A1 := ⟨o1, h.rep, h.nx⟩
theorem WNow.below {N : Nat} {w w1 w2 : World} {W : Nat} {o o1 : WOwn} {A1 : AW} (h : WNow N w W o w1 o1 A1) (hb : Below w1.heap.size w1 w2) : WNow N w W o w2 o1 A1 := ⟨h.rep.below hb, h.nx.trans (Next.of_below _ hb h.rep.size)⟩

set_option maxRecDepth 100000 in
set_option maxHeartbeats 4000000 in
theorem deliverAll_any {N : Nat} {w : World} {W : Nat} {o : WOwn} {A : AW} (h : WRep N w W o A) :
    Calls Tryz.prog 57 #[.pointer (some ⟨W, 0, none⟩)] w fun e w' => e = .returned (.tuple #[]) ∧ WTurn N w W o w' A.drain := by
  have H0 := hide (WNow.refl h)
  clear h
  go_enter Tryz.func57, Tryz.ntmps57
  go_wp2_with fail
  go_loopg [2, 3] (wght A.ms) (fun k _ _ wr => Hid (∃ j o1, WNow N w W o wr o1 (AW.pops j A) ∧ wght (AW.pops j A).ms ≤ k))
  case atStart => exact ⟨0, o, unhide H0, Nat.le_refl _⟩
  case round =>
    obtain ⟨j, o1, hw1, hk⟩ := unhide hrel
    clear hrel
    have HD : Hid ((AW.pops j A).ms = [] → AW.pops j A = A.drain) := fun h => drain_of h
    have HP : Hid (AW.pops (j + 1) A = (AW.pops j A).pop) := pops_succ j A
    have HPC := hide hw1.rep.cells.1.2.2.2.2
    have hpc := hw1.rep.cells.1.2.2.2.2
    have HTK := hide (PTake_any hw1.rep.p 0)
    have HTP := hide (fun w1 (hT : PTurn 115 N wr o1.P o1.pv w1 (aTakeL (AW.pops j A).ms 0)) => hw1.then (hw1.rep.turnP hT))
    have HS := hide hw1.rep.p.small
    generalize AW.pops j A = A1 at *
    generalize o1.P = P at hpc HTK HTP
    generalize o1.pv = pv at HTK HTP
    have HK := hide hk
    by_cases h0 : A1.ms = []
    · have e2 : aTakeM A1.ms 0 = zeroPkt := by unfold aTakeM; rw [h0]; rfl
      have e3 : aTakeL A1.ms 0 = A1.ms := by unfold aTakeL; rw [h0]; rfl
      have e4 : aTakeB A1.ms = false := by unfold aTakeB; rw [h0]; rfl
      rw [e2, e3, e4] at HTK
      rw [e3] at HTP
      dsimp only [APkt.val, zeroPkt] at HTK
      have HAE := hide ((unhide HD) h0)
      clear e2 e3 e4 h0 hk hw1 HD HP HPC HS HK
      go_wp2_with fail
      refine (unhide HTK).mono ?_
      rintro e w1 ⟨rfl, hT⟩
      obtain ⟨o2, hw2⟩ := (unhide HTP) _ hT
      have HF := hide (hw2.below ((Below.refl w1.heap.size w1).alloc (Nat.le_refl _) (.cells #[.bool false, .int .i64 0, .int .i64 0, .int .i64 0, .string ⟨#[]⟩, .string ⟨#[]⟩, .string ⟨#[]⟩, .int .i64 0, .string ⟨#[]⟩] 92))).turn
      clear hT hw2
      go_wp2
      refine bodyPost_ret (v := .tuple #[]) (by simp [results, Tryz.results57, go_sem]) rfl ?_
      refine ⟨rfl, ?_⟩
      rw [← unhide HAE]
      exact unhide HF
    · have hl : A1.ms.length ≠ 0 := fun e => h0 (List.length_eq_zero_iff.1 e)
      have e4 : aTakeB A1.ms = true := decide_eq_true (by omega)
      rw [e4] at HTK
      have hsm := (unhide HS) _ (takeM_mem 0 hl)
      have hpo : A1.pop = (A1.took 0).come (aTakeM A1.ms 0) := by unfold AW.pop; rw [if_neg hl]
      have HW : Hid (wght A1.pop.ms < wght A1.ms) := pop_wght hl
      rw [hpo] at HW HP
      have HAT : Hid (A1.took 0 = ⟨A1.log, A1.cl, aTakeL A1.ms 0⟩) := rfl
      have HSM := hide hsm
      generalize aTakeM A1.ms 0 = p at HTK HSM HW HP
      generalize aTakeL A1.ms 0 = ms' at HTK HTP HAT
      rw [← unhide HAT] at HTP
      generalize A1.took 0 = A2 at HTP HP HW
      clear hsm hpo hl e4 h0 hk hw1 HD HPC HS HAT
      obtain ⟨pr, pc, pn, ⟨pk, pa, pb, pt⟩, pd, pu⟩ := p
      dsimp only [APkt.val] at HTK
      go_wp2_with fail
      refine (unhide HTK).mono ?_
      rintro e w1 ⟨rfl, hT⟩
      obtain ⟨o2, hw2⟩ := (unhide HTP) _ hT
      clear hT
      obtain ⟨V, hV⟩ : ∃ V, V = w1.alloc (.cells #[.bool pr, .int .i64 pc, .int .i64 pn, .int .i64 pk, .string pa, .string pb, .string pt, .int .i64 pd, .string pu] 92) := ⟨_, rfl⟩
      have hBV : Below w1.heap.size w1 V := by rw [hV]; exact (Below.refl _ _).alloc (Nat.le_refl _) _
      have hw3 := hw2.below hBV
      have HD3 := hide (deliver_any hw3.rep ⟨pr, pc, pn, ⟨pk, pa, pb, pt⟩, pd, pu⟩ (unhide HSM))
      dsimp only [APkt.val] at HD3
      have HW3 := hide hw3
      have HV := hide hV
      clear hw2 hV hBV hw3
      go_wp2_with fail
      rw [← unhide HV]
      refine (unhide HD3).mono ?_
      rintro e w4 ⟨rfl, hT⟩
      obtain ⟨o4, hw4⟩ := (unhide HW3).then hT
      have HW4 := hide hw4
      clear hT hw4
      go_wp2
      go_roundg (wght (A2.come ⟨pr, pc, pn, ⟨pk, pa, pb, pt⟩, pd, pu⟩).ms)
      case measure => exact Nat.lt_of_lt_of_le (unhide HW) (unhide HK)
      case rel => exact ⟨j + 1, o4, by rw [unhide HP]; exact unhide HW4, by rw [unhide HP]; exact Nat.le_refl _⟩

theorem send_fail {A : AW} {n : Int} (h : (A.send n).1 ≠ 0) : (A.send n).2 = A := by
  unfold AW.send at h ⊢
  split
  · rfl
  rename_i h1
  rw [if_neg h1] at h
  split
  · rfl
  rename_i h2
  rw [if_neg h2] at h
  split
  · rename_i h3
    rw [if_pos h3] at h
    exact absurd rfl h
  · rfl
theorem sends_idle {A : AW} (h : A.busy = false) : A.sends = A := by
  unfold AW.busy at h
  simp only [Bool.or_eq_false_iff, decide_eq_false_iff_not] at h
  obtain ⟨⟨h0, h1⟩, h2⟩ := h
  have e0 := send_fail h0
  rw [e0] at h1 h2
  have e1 := send_fail h1
  rw [e1] at h2
  unfold AW.sends
  rw [e0, e1]
  exact send_fail h2
/-- The first q clients have sent. -/
def AW.sendN (A : AW) : Nat → AW
  | 0 => A
  | q + 1 => ((A.sendN q).send q).2
def AW.busyN (A : AW) : Nat → Bool
  | 0 => false
  | q + 1 => if ((A.sendN q).send q).1 = 0 then true else A.busyN q
theorem sendN3 (A : AW) : A.sendN 3 = A.sends ∧ A.busyN 3 = A.busy := by
  refine ⟨rfl, ?_⟩
  have e0 : ((A.sendN 0).send (0 : Nat)).1 = (A.send 0).1 := rfl
  have e1 : ((A.sendN 1).send (1 : Nat)).1 = ((A.send 0).2.send 1).1 := rfl
  have e2 : ((A.sendN 2).send (2 : Nat)).1 = (((A.send 0).2.send 1).2.send 2).1 := rfl
  unfold AW.busyN AW.busyN AW.busyN AW.busyN AW.busy
  rw [e0, e1, e2]
  by_cases h2 : (((A.send 0).2.send 1).2.send 2).1 = 0
  · rw [if_pos h2, decide_eq_true h2, Bool.or_true]
  · rw [if_neg h2, decide_eq_false h2, Bool.or_false]
    by_cases h1 : ((A.send 0).2.send 1).1 = 0
    · rw [if_pos h1, decide_eq_true h1, Bool.or_true]
    · rw [if_neg h1, decide_eq_false h1, Bool.or_false]
      by_cases h0 : (A.send 0).1 = 0
      · rw [if_pos h0, decide_eq_true h0]
      · rw [if_neg h0, decide_eq_false h0]

set_option maxRecDepth 100000 in
set_option maxHeartbeats 4000000 in
theorem sendAll_any {N : Nat} {w : World} {W : Nat} {o : WOwn} {A : AW} (h : WRep N w W o A) :
    Calls Tryz.prog 58 #[.pointer (some ⟨W, 0, none⟩)] w fun e w' => e = .returned (.bool A.busy) ∧ WTurn N w W o w' A.sends := by
  have H0 := hide (WNow.refl h)
  clear h
  have HB3 : Hid (A.busyN 3 = A.busy ∧ A.sendN 3 = A.sends) := ⟨(sendN3 A).2, (sendN3 A).1⟩
  go_enter Tryz.func58, Tryz.ntmps58
  go_wp2_with fail
  go_loopw [3, 4, 5] (fun s _ i wr => ∃ q : Nat, q ≤ 3 ∧ i = .int .i64 (q : Int) ∧ s = .bool (A.busyN q) ∧ Hid (∃ o1, WNow N w W o wr o1 (A.sendN q))) (fun _ _ i _ => 3 - (intOf i).toNat)
  case atStart => exact ⟨0, Nat.zero_le _, rfl, rfl, o, unhide H0⟩
  case round =>
    obtain ⟨q, hq, rfl, rfl, HR⟩ := hrel
    by_cases hlt : (q : Int) < 3
    · obtain ⟨o1, hw1⟩ := unhide HR
      have HS := hide (wsend_any hw1.rep (q : Int))
      have HW1 := hide hw1
      have HE : Hid (A.busyN (q + 1) = (if ((A.sendN q).send q).1 = 0 then true else A.busyN q) ∧ A.sendN (q + 1) = ((A.sendN q).send q).2) := ⟨rfl, rfl⟩
      generalize A.busyN q = bq at HE ⊢
      generalize A.sendN q = Aq at HS HW1 HE HR hw1
      generalize Aq.send q = R at HS HE
      obtain ⟨r1, A2⟩ := R
      dsimp only at HS HE
      clear hw1 HR
      have HQ := hide hq
      have HLT := hide hlt
      by_cases hr : r1 = 0
      · subst hr
        go_wp2_with fail
        refine (unhide HS).mono ?_
        rintro e w4 ⟨rfl, hT⟩
        obtain ⟨o4, hw4⟩ := (unhide HW1).then hT
        have HW4 := hide hw4
        clear hT hw4
        go_wp2
        go_roundw
        case rel =>
          refine ⟨q + 1, by have := unhide HLT; omega, by go_num, ?_, o4, ?_⟩
          · rw [(unhide HE).1]; simp
          · rw [(unhide HE).2]; exact unhide HW4
        case measure => have := unhide HLT; simp [intOf]; omega
      · have hrb : (r1 == 0) = false := by simpa using hr
        have HE1 : Hid (A.busyN (q + 1) = bq) := by rw [show A.busyN (q + 1) = _ from (unhide HE).1, if_neg hr]; exact rfl
        clear hr
        go_wp2_with fail
        refine (unhide HS).mono ?_
        rintro e w4 ⟨rfl, hT⟩
        obtain ⟨o4, hw4⟩ := (unhide HW1).then hT
        have HW4 := hide hw4
        clear hT hw4
        go_wp2
        go_roundw
        case rel =>
          refine ⟨q + 1, by have := unhide HLT; omega, by go_num, ?_, o4, ?_⟩
          · rw [unhide HE1]
          · rw [(unhide HE).2]; exact unhide HW4
        case measure => have := unhide HLT; simp [intOf]; omega
    · obtain rfl : q = 3 := by omega
      clear hlt hq
      rw [(unhide HB3).2] at HR
      rw [(unhide HB3).1]
      go_wp2
      go_ret
      obtain ⟨o1, hw1⟩ := unhide HR
      exact ⟨rfl, hw1.turn⟩

set_option maxRecDepth 100000 in
set_option maxHeartbeats 4000000 in
theorem Calm_any {N : Nat} {w : World} {W : Nat} {o : WOwn} {A : AW} (h : WRep N w W o A) :
    Calls Tryz.prog 28 #[.pointer (some ⟨W, 0, none⟩)] w fun e w' => e = .returned (.int .i64 (AW.calm 3 A).1) ∧ WTurn N w W o w' (AW.calm 3 A).2 := by
  have H0 := hide (WNow.refl h)
  clear h
  go_enter Tryz.func28, Tryz.ntmps28
  go_wp2_with fail
  go_loopw [3] (fun s wr => ∃ q : Nat, q ≤ 3 ∧ s = .int .i64 (q : Int) ∧ Hid (∃ o1 A1, WNow N w W o wr o1 A1 ∧ AW.calm 3 A = AW.calm (3 - q) A1)) (fun s _ => 3 - (intOf s).toNat)
  case atStart => exact ⟨0, Nat.zero_le _, rfl, o, A, unhide H0, rfl⟩
  case round =>
    obtain ⟨q, hq, rfl, HR⟩ := hrel
    obtain ⟨o1, A1, hw1, hc⟩ := unhide HR
    clear HR
    have HDA := hide (deliverAll_any hw1.rep)
    have HW1 := hide hw1
    have HSA := hide (fun (wx : World) (o2 : WOwn) (hr : WRep N wx W o2 A1.drain) => sendAll_any hr)
    have HC := hide hc
    clear hw1 hc
    by_cases h3 : q = 3
    · subst h3
      clear hq
      have HC2 : Hid (AW.calm 3 A = (3, A1.drain)) := by rw [show AW.calm 3 A = AW.calm (3 - 3) A1 from unhide HC]; exact rfl
      generalize A1.drain = A2 at HDA HC2
      clear HC HSA
      go_wp2_with fail
      refine (unhide HDA).mono ?_
      rintro e w2 ⟨rfl, hT⟩
      obtain ⟨o2, hw2⟩ := (unhide HW1).then hT
      have HF := hide hw2.turn
      clear hT hw2
      go_wp2
      go_ret
      exact ⟨by rw [unhide HC2]; rfl, by rw [unhide HC2]; exact unhide HF⟩
    · obtain ⟨f, hf⟩ : ∃ f, 3 - q = f + 1 := ⟨2 - q, by omega⟩
      have hqf : (q : Int) = 2 - (f : Int) := by omega
      have HC2 : Hid (AW.calm 3 A = if A1.drain.busy = true then AW.calm f A1.drain.sends else (2 - (f : Int), A1.drain)) := by rw [show AW.calm 3 A = AW.calm (3 - q) A1 from unhide HC, hf]; exact rfl
      have hq3 : ((q : Int) == 3) = false := by simp; omega
      have hlt : (q : Int) < 3 := by omega
      have HQ : Hid (q < 3 ∧ (q : Int) = 2 - (f : Int) ∧ 3 - (q + 1) = f) := ⟨by omega, hqf, by omega⟩
      generalize A1.drain = A2 at HDA HC2 HSA
      clear HC hq h3 hf hqf
      cases hb : A2.busy
      · have hid := sends_idle hb
        rw [hb] at HC2 HSA
        rw [hid] at HSA
        rw [if_neg (by simp)] at HC2
        clear hb hid
        go_wp2_with fail
        refine (unhide HDA).mono ?_
        rintro e w2 ⟨rfl, hT⟩
        obtain ⟨o2, hw2⟩ := (unhide HW1).then hT
        have HS2 := hide ((unhide HSA) _ _ hw2.rep)
        have HW2 := hide hw2
        clear hT hw2
        go_wp2_with fail
        refine (unhide HS2).mono ?_
        rintro e w3 ⟨rfl, hT⟩
        obtain ⟨o3, hw3⟩ := (unhide HW2).then hT
        have HF := hide hw3.turn
        clear hT hw3
        have hqf := (unhide HQ).2.1
        have HQF := hide hqf
        clear hqf
        go_wp2
        go_ret
        exact ⟨by rw [unhide HC2, ← unhide HQF]; rfl, by rw [unhide HC2]; exact unhide HF⟩
      · rw [hb] at HC2 HSA
        rw [if_pos rfl] at HC2
        clear hb
        go_wp2_with fail
        refine (unhide HDA).mono ?_
        rintro e w2 ⟨rfl, hT⟩
        obtain ⟨o2, hw2⟩ := (unhide HW1).then hT
        have HS2 := hide ((unhide HSA) _ _ hw2.rep)
        have HW2 := hide hw2
        clear hT hw2
        go_wp2_with fail
        refine (unhide HS2).mono ?_
        rintro e w3 ⟨rfl, hT⟩
        obtain ⟨o3, hw3⟩ := (unhide HW2).then hT
        have HF := hide hw3
        clear hT hw3
        go_wp2
        go_roundw
        case rel =>
          refine ⟨q + 1, by have := (unhide HQ).1; omega, by go_num, o3, _, unhide HF, ?_⟩
          rw [(unhide HQ).2.2]
          exact unhide HC2
        case measure => have := (unhide HQ).1; simp [intOf]; omega

end Go.Proofs.YtmbhbnoifimeaabGreat

namespace Go.Proofs.YtmbhbnoifimeaabGreat
open Go.RowKit
set_option linter.unusedSimpArgs false
set_option linter.unusedVariables false

/-- q clients are made; h: the post's block, h + 1 the world's own. -/
def cptr (h i q : Nat) : Value := if i < q then .pointer (some ⟨h + 2 + i, 0, none⟩) else .pointer none
structure NewSt (w3 : World) (h S q : Nat) (wr : World) : Prop where
  sz : wr.heap.size = h + 2 + q
  blk : wr.heap[h + 1]? = some (.cells #[.pointer (some ⟨S, 0, none⟩), cptr h 0 q, cptr h 1 q, cptr h 2 q, .pointer (some ⟨h, 0, none⟩)] 51 (0, 0))
  cl : ∀ i, i < q → wr.heap[h + 2 + i]? = some (.cells #[.int .i64 (i : Int), .slice none 0 0, .int .i64 0, .string ⟨#[]⟩, .string ⟨#[]⟩, .string ⟨#[]⟩, .bool false] 85 (0, 0))
  kp : Kept [h + 1] w3 wr
theorem five {w : World} {b : Nat} {x0 x1 x2 x3 x4 : Value} {e : TypeId} (h : w.heap[b]? = some (.cells #[x0, x1, x2, x3, x4] e (0, 0))) :
    (w.cell? ⟨b, 0, none⟩ = some x0 ∧ w.cell? ⟨b, 1, none⟩ = some x1 ∧ w.cell? ⟨b, 2, none⟩ = some x2 ∧ w.cell? ⟨b, 3, none⟩ = some x3 ∧ w.cell? ⟨b, 4, none⟩ = some x4) ∧ ∀ j, w.frozen? ⟨b, j, none⟩ = false := by
  refine ⟨⟨?_, ?_, ?_, ?_, ?_⟩, fun j => frozen_of_row w b j _ _ h⟩ <;> rw [cell_of_row w b _ _ _ _ h] <;> rfl
theorem NewSt.next {w3 : World} {h S q : Nat} {wr : World} (hs : NewSt w3 h S q wr) (hq : q < 3) (hh : h + 2 ≤ w3.heap.size) :
    NewSt w3 h S (q + 1) ((wr.drew.alloc (.cells #[.int .i64 (q : Int), .slice none 0 0, .int .i64 0, .string ⟨#[]⟩, .string ⟨#[]⟩, .string ⟨#[]⟩, .bool false] 85)).setCell ⟨h + 1, 1 + q, none⟩ (.pointer (some ⟨wr.heap.size, 0, none⟩))) := by
  have hsz := hs.sz
  rw [hsz]
  have hbA : Below wr.heap.size wr (wr.drew.alloc (.cells #[.int .i64 (q : Int), .slice none 0 0, .int .i64 0, .string ⟨#[]⟩, .string ⟨#[]⟩, .string ⟨#[]⟩, .bool false] 85)) := below_drew_alloc wr _
  have hnew : (wr.drew.alloc (.cells #[.int .i64 (q : Int), .slice none 0 0, .int .i64 0, .string ⟨#[]⟩, .string ⟨#[]⟩, .string ⟨#[]⟩, .bool false] 85)).heap[wr.heap.size]? = some (.cells #[.int .i64 (q : Int), .slice none 0 0, .int .i64 0, .string ⟨#[]⟩, .string ⟨#[]⟩, .string ⟨#[]⟩, .bool false] 85 (0, 0)) := heap_alloc_new wr.drew _
  have hzA : (wr.drew.alloc (.cells #[.int .i64 (q : Int), .slice none 0 0, .int .i64 0, .string ⟨#[]⟩, .string ⟨#[]⟩, .string ⟨#[]⟩, .bool false] 85)).heap.size = wr.heap.size + 1 := al_size wr.drew _
  generalize wr.drew.alloc (.cells #[.int .i64 (q : Int), .slice none 0 0, .int .i64 0, .string ⟨#[]⟩, .string ⟨#[]⟩, .string ⟨#[]⟩, .bool false] 85) = V at hbA hnew hzA ⊢
  have hb1 := (hbA.block (h + 1) (by omega)).trans hs.blk
  have k : Kept [h + 1] V (V.setCell ⟨h + 1, 1 + q, none⟩ (.pointer (some ⟨h + 2 + q, 0, none⟩))) := kept_setCell [h + 1] V (h + 1) (1 + q) _ (by simp)
  have hzk : (V.setCell ⟨h + 1, 1 + q, none⟩ (.pointer (some ⟨h + 2 + q, 0, none⟩))).heap.size = V.heap.size := by simp [World.setCell]
  have hb2 := heap_setCell_same (o := 1 + q) hb1 (.pointer (some ⟨h + 2 + q, 0, none⟩))
  refine ⟨by rw [hzk]; omega, ?_, fun i hi => ?_, hs.kp.trans ((Kept.of_below (own := [h + 1]) hbA).trans k (fun x hx => .inl hx)) (fun x hx => .inl hx)⟩
  · rw [hb2]
    match q, hq with
    | 0, _ => rfl
    | 1, _ => rfl
    | 2, _ => rfl
  · refine (k.block (h + 2 + i) (by omega) (by simp; omega)).trans ?_
    by_cases e : i = q
    · subst e
      rw [← hsz]; exact hnew
    · exact (hbA.block (h + 2 + i) (by omega)).trans (hs.cl i (by omega))

theorem KRep.of_new {N X : Nat} {w : World} {me : Int} (h : w.heap[X]? = some (.cells #[.int .i64 me, .slice none 0 0, .int .i64 0, .string ⟨#[]⟩, .string ⟨#[]⟩, .string ⟨#[]⟩, .bool false] 85 (0, 0))) (hN : N ≤ X) : KRep N w X (.slice none 0 0) ⟨me, [], zeroCall, false⟩ :=
  ⟨⟨hN, h, World.ownsRow_nil _ _ _ _, by simp [Value.ownBlock]⟩, COk.start me⟩
/-- All is made. -/
theorem NewSt.world {N : Nat} {w1 w3 : World} {S B : Nat} {own : List Nat} {lv : Value} {wr : World} (hr : SRep N w1 S B own lv []) (hN : N ≤ w1.heap.size) (hb : Below w1.heap.size w1 w3) (hP : w3.heap[w1.heap.size]? = some (.cells #[.slice none 0 0] 115 (0, 0))) (hs : NewSt w3 w1.heap.size S 3 wr) :
    WRep N wr (w1.heap.size + 1) ⟨S, B, own, lv, fun i => w1.heap.size + 2 + i, fun _ => .slice none 0 0, w1.heap.size, .slice none 0 0⟩ AW.start := by
  have hP2 : wr.heap[w1.heap.size]? = some (.cells #[.slice none 0 0] 115 (0, 0)) := (hs.kp.block _ (Array.getElem?_eq_some_iff.1 hP).1 (by simp)).trans hP
  have hs3 : SRep N w3 S B own lv [] := hr.below hb
  have hge := sown_ge hr
  have hp : ∀ i, i < 5 → ∀ b, b ∈ (⟨S, B, own, lv, fun i => w1.heap.size + 2 + i, fun _ => .slice none 0 0, w1.heap.size, .slice none 0 0⟩ : WOwn).part i → (i = 3 ∧ b < w1.heap.size) ∨ (i = 4 ∧ b = w1.heap.size) ∨ (i < 3 ∧ b = w1.heap.size + 2 + i) := fun i hi b hm => by
    match i, hi with
    | 0, _ => simp [WOwn.part, powns, Value.ownBlock] at hm; omega
    | 1, _ => simp [WOwn.part, powns, Value.ownBlock] at hm; omega
    | 2, _ => simp [WOwn.part, powns, Value.ownBlock] at hm; omega
    | 3, _ => exact .inl ⟨rfl, (hge b hm).2⟩
    | 4, _ => simp [WOwn.part, powns, Value.ownBlock] at hm; omega
  refine ⟨by omega, ?_, hs3.kept hs.kp (fun k hk hm => ?_), fun n hn => KRep.of_new (hs.cl n hn) (show N ≤ w1.heap.size + 2 + n by omega), ⟨hN, hP2, World.ownsRow_nil _ _ _ _, by simp [Value.ownBlock], by simp [AW.start], by simp [AW.start]⟩, fun i j hi hj hij b h1 h2 => ?_, fun i hi hm => ?_, by simp [AW.start, logB]⟩
  · rw [hs.blk]; rfl
  · have := (hge k hk).2
    simp at hm; omega
  · rcases hp i hi b h1 with h | h | h <;> rcases hp j hj b h2 with h' | h' | h' <;> omega
  · rcases hp i hi _ hm with h | h | h <;> omega

set_option maxRecDepth 100000 in
set_option maxHeartbeats 4000000 in
theorem WNew_any (w : World) :
    Calls Tryz.prog 11 #[] w fun e w' => ∃ W o, e = .returned (.pointer (some ⟨W, 0, none⟩)) ∧ WRep w.heap.size w' W o AW.start ∧ Below w.heap.size w w' := by
  have HSN := hide (SNew_any w)
  have HPN := hide New_P
  go_enter Tryz.func11, Tryz.ntmps11
  go_wp2_with fail
  refine (unhide HSN).mono ?_
  rintro e w1 ⟨S, B, own, lv, rfl, hr1, hb1⟩
  have HR1 := hide hr1
  have HB1 := hide hb1
  clear hr1 hb1
  go_wp2_with fail
  refine ((unhide HPN) _).mono ?_
  rintro e w2 ⟨rfl, rfl⟩
  obtain ⟨V, hV⟩ : ∃ V, V = (w1.alloc (.cells #[.slice none 0 0] 115)).alloc (.cells #[.pointer (some ⟨S, 0, none⟩), .pointer none, .pointer none, .pointer none, .pointer (some ⟨w1.heap.size, 0, none⟩)] 51) := ⟨_, rfl⟩
  have hbV : Below w1.heap.size w1 V := by rw [hV]; exact ((Below.refl _ _).alloc (Nat.le_refl _) _).alloc (by simp) _
  have hPV : V.heap[w1.heap.size]? = some (.cells #[.slice none 0 0] 115 (0, 0)) := by rw [hV, Below.heap_alloc _ _ _ (by simp)]; exact heap_alloc_new _ _
  have hWV : V.heap[w1.heap.size + 1]? = some (.cells #[.pointer (some ⟨S, 0, none⟩), .pointer none, .pointer none, .pointer none, .pointer (some ⟨w1.heap.size, 0, none⟩)] 51 (0, 0)) := by rw [hV]; have := heap_alloc_new (w1.alloc (.cells #[.slice none 0 0] 115)) (.cells #[.pointer (some ⟨S, 0, none⟩), .pointer none, .pointer none, .pointer none, .pointer (some ⟨w1.heap.size, 0, none⟩)] 51); rw [al_size] at this; exact this
  have hzV : V.heap.size = w1.heap.size + 2 := by rw [hV]; simp
  have HST : Hid (NewSt V w1.heap.size S 0 V) := ⟨by omega, hWV, fun i hi => absurd hi (by omega), Kept.refl _ _⟩
  have HH : Hid (w1.heap.size + 2 ≤ V.heap.size) := by show _ ≤ _; omega
  have HFIN := hide (fun wr (hs : NewSt V w1.heap.size S 3 wr) => And.intro ((unhide HR1).base (N := w.heap.size) (Nat.le_refl _) |>.below (Below.refl _ _) |> fun h => NewSt.world h (unhide HB1).size hbV hPV hs) (((unhide HB1).trans (hbV.mono (unhide HB1).size)).trans (hs.kp.below (Nat.le_trans (unhide HB1).size hbV.size) (fun k hk => by simp at hk; subst hk; have := (unhide HB1).size; omega))))
  have HV := hide hV
  clear hV hbV hPV hWV hzV
  go_wp2_with fail
  rw [← unhide HV]
  go_loopw [2, 7] (fun _ i wr => ∃ q : Nat, q ≤ 3 ∧ i = .int .i64 (q : Int) ∧ Hid (NewSt V w1.heap.size S q wr)) (fun _ i _ => 3 - (intOf i).toNat)
  case atStart => exact ⟨0, Nat.zero_le _, rfl, unhide HST⟩
  case round =>
    obtain ⟨q, hq, rfl, HQ⟩ := hrel
    match q, hq with
    | 3, _ =>
      go_wp2
      go_ret
      exact ⟨_, _, rfl, (unhide HFIN) _ (unhide HQ)⟩
    | 0, _ =>
      obtain ⟨⟨y0, y1, y2, y3, y4⟩, yf⟩ := five (unhide HQ).blk
      have hc3 : (0 : Int) < 3 := by omega
      have HSZ := hide (unhide HQ).sz
      have HCN := hide (New_some (0 : Int) wr.drew (by omega))
      have HNX := hide ((unhide HQ).next (by omega) (unhide HH))
      clear y0 y1 y2 y3 y4 yf
      go_wp2_with fail
      refine wp_region_held_drew (S := (fun wx => True)) (by kernel_rfl) (trivial) (fun hHeld => ?_)
      refine wpAnyH_take (i := 0) (v := ?_) opn0 (by kernel_rfl) (by kernel_rfl) (by kernel_rfl) (fun _ _ _ h => h) (Or.inl ⟨by kernel_rfl, ?_⟩) (by assumption) ?_
      rotate_left 1
      · intro wz hSw
        try dsimp only at hSw
        go_simp
        all_goals with_reducible rfl
      try simp only [Act.put, List.setIfInBounds_toArray, List.set_cons_zero, List.set_cons_succ]
      refine wpAnyH_take (i := 1) (v := ?_) opn1 (by kernel_rfl) (by kernel_rfl) (by kernel_rfl) (fun _ _ _ h => h) (Or.inl ⟨by kernel_rfl, ?_⟩) (by assumption) ?_
      rotate_left 1
      · intro wz hSw
        try dsimp only at hSw
        go_simp
        all_goals with_reducible rfl
      try simp only [Act.put, List.setIfInBounds_toArray, List.set_cons_zero, List.set_cons_succ]
      refine wpAnyH_take (i := 2) (v := ?_) opn2 (by kernel_rfl) (by kernel_rfl) (by kernel_rfl) (fun _ _ _ h => h) (Or.inl ⟨by kernel_rfl, ?_⟩) (by assumption) ?_
      rotate_left 1
      · intro wz hSw
        try dsimp only at hSw
        go_simp
        all_goals with_reducible rfl
      try simp only [Act.put, List.setIfInBounds_toArray, List.set_cons_zero, List.set_cons_succ]
      refine wpAnyH_take (i := 4) (v := ?_) opn4 (by kernel_rfl) (by kernel_rfl) (by kernel_rfl) (fun _ _ _ h => h) (Or.inl ⟨by kernel_rfl, ?_⟩) (by assumption) ?_
      rotate_left 1
      · intro wz hSw
        try dsimp only at hSw
        go_simp
        all_goals with_reducible rfl
      try simp only [Act.put, List.setIfInBounds_toArray, List.set_cons_zero, List.set_cons_succ]
      refine wpAnyH_take (i := 5) (v := ?_) opn5 (by kernel_rfl) (by kernel_rfl) (by kernel_rfl) (fun _ _ _ h => h) (Or.inl ⟨by kernel_rfl, ?_⟩) (by assumption) ?_
      rotate_left 1
      · intro wz hSw
        try dsimp only at hSw
        go_simp
        all_goals with_reducible rfl
      try simp only [Act.put, List.setIfInBounds_toArray, List.set_cons_zero, List.set_cons_succ]
      refine wpAnyH_ready (rs := [3]) (by kernel_rfl) (by simp) ?_
      refine AllReadyH.cons opn3 (fun K hK => ?_) AllReadyH.nil
      rw [if_pos (by kernel_rfl)]
      go_simp
      refine (unhide HCN).mono ?_
      rintro e w4 ⟨rfl, hw4⟩
      have HW4 := hide hw4
      clear hw4
      refine hK.out _ _ (trivial) (fun hHeldN => ?_)
      clear hHeld hK K
      have hHeld := hHeldN
      clear hHeldN
      try simp only [Act.put, List.setIfInBounds_toArray, List.set_cons_zero, List.set_cons_succ]
      refine wpAnyH_take (i := 6) (v := ?_) opn6 (by kernel_rfl) (by kernel_rfl) (by kernel_rfl) (fun _ _ _ h => h) (Or.inl ⟨by kernel_rfl, ?_⟩) (by assumption) ?_
      rotate_left 1
      · intro wz hSw
        try dsimp only at hSw
        go_simp
        all_goals with_reducible rfl
      try simp only [Act.put, List.setIfInBounds_toArray, List.set_cons_zero, List.set_cons_succ]
      have hb4 : w4.heap[w1.heap.size + 1]? = wr.heap[w1.heap.size + 1]? := by rw [unhide HW4]; exact (below_drew_alloc wr _).block _ (by have := unhide HSZ; omega)
      obtain ⟨⟨y0, y1, y2, y3, y4⟩, yf⟩ := five (hb4.trans (unhide HQ).blk)
      have yf0 := yf 1
      refine wpAnyH_ready (rs := [7]) (by kernel_rfl) (by simp) ?_
      refine AllReadyH.cons opn7 (fun K hK => ?_) AllReadyH.nil
      rw [if_pos (by kernel_rfl)]
      go_simp
      clear y0 y1 y2 y3 y4 yf yf0 hb4
      refine hK.out _ _ (trivial) (fun hHeldN => ?_)
      clear hHeld hK K
      have hHeld := hHeldN
      clear hHeldN
      try simp only [Act.put, List.setIfInBounds_toArray, List.set_cons_zero, List.set_cons_succ]
      refine wpAnyH_done (by kernel_rfl) ?_ _
      go_wp2
      go_roundw
      case rel =>
        refine ⟨1, by omega, rfl, ?_⟩
        have h9 := unhide HNX
        have h8 : NewSt V w1.heap.size S 1 (w4.setCell ⟨w1.heap.size + 1, 1, none⟩ (.pointer (some ⟨wr.heap.size, 0, none⟩))) := by rw [unhide HW4]; exact h9
        first | exact h8 | exact h8.drewR
      case measure => simp [intOf]
    | 1, _ =>
      obtain ⟨⟨y0, y1, y2, y3, y4⟩, yf⟩ := five (unhide HQ).blk
      have hc3 : (1 : Int) < 3 := by omega
      have HSZ := hide (unhide HQ).sz
      have HCN := hide (New_some (1 : Int) wr.drew (by omega))
      have HNX := hide ((unhide HQ).next (by omega) (unhide HH))
      clear y0 y1 y2 y3 y4 yf
      go_wp2_with fail
      refine wp_region_held_drew (S := (fun wx => True)) (by kernel_rfl) (trivial) (fun hHeld => ?_)
      refine wpAnyH_take (i := 0) (v := ?_) opn0 (by kernel_rfl) (by kernel_rfl) (by kernel_rfl) (fun _ _ _ h => h) (Or.inl ⟨by kernel_rfl, ?_⟩) (by assumption) ?_
      rotate_left 1
      · intro wz hSw
        try dsimp only at hSw
        go_simp
        all_goals with_reducible rfl
      try simp only [Act.put, List.setIfInBounds_toArray, List.set_cons_zero, List.set_cons_succ]
      refine wpAnyH_take (i := 1) (v := ?_) opn1 (by kernel_rfl) (by kernel_rfl) (by kernel_rfl) (fun _ _ _ h => h) (Or.inl ⟨by kernel_rfl, ?_⟩) (by assumption) ?_
      rotate_left 1
      · intro wz hSw
        try dsimp only at hSw
        go_simp
        all_goals with_reducible rfl
      try simp only [Act.put, List.setIfInBounds_toArray, List.set_cons_zero, List.set_cons_succ]
      refine wpAnyH_take (i := 2) (v := ?_) opn2 (by kernel_rfl) (by kernel_rfl) (by kernel_rfl) (fun _ _ _ h => h) (Or.inl ⟨by kernel_rfl, ?_⟩) (by assumption) ?_
      rotate_left 1
      · intro wz hSw
        try dsimp only at hSw
        go_simp
        all_goals with_reducible rfl
      try simp only [Act.put, List.setIfInBounds_toArray, List.set_cons_zero, List.set_cons_succ]
      refine wpAnyH_take (i := 4) (v := ?_) opn4 (by kernel_rfl) (by kernel_rfl) (by kernel_rfl) (fun _ _ _ h => h) (Or.inl ⟨by kernel_rfl, ?_⟩) (by assumption) ?_
      rotate_left 1
      · intro wz hSw
        try dsimp only at hSw
        go_simp
        all_goals with_reducible rfl
      try simp only [Act.put, List.setIfInBounds_toArray, List.set_cons_zero, List.set_cons_succ]
      refine wpAnyH_take (i := 5) (v := ?_) opn5 (by kernel_rfl) (by kernel_rfl) (by kernel_rfl) (fun _ _ _ h => h) (Or.inl ⟨by kernel_rfl, ?_⟩) (by assumption) ?_
      rotate_left 1
      · intro wz hSw
        try dsimp only at hSw
        go_simp
        all_goals with_reducible rfl
      try simp only [Act.put, List.setIfInBounds_toArray, List.set_cons_zero, List.set_cons_succ]
      refine wpAnyH_ready (rs := [3]) (by kernel_rfl) (by simp) ?_
      refine AllReadyH.cons opn3 (fun K hK => ?_) AllReadyH.nil
      rw [if_pos (by kernel_rfl)]
      go_simp
      refine (unhide HCN).mono ?_
      rintro e w4 ⟨rfl, hw4⟩
      have HW4 := hide hw4
      clear hw4
      refine hK.out _ _ (trivial) (fun hHeldN => ?_)
      clear hHeld hK K
      have hHeld := hHeldN
      clear hHeldN
      try simp only [Act.put, List.setIfInBounds_toArray, List.set_cons_zero, List.set_cons_succ]
      refine wpAnyH_take (i := 6) (v := ?_) opn6 (by kernel_rfl) (by kernel_rfl) (by kernel_rfl) (fun _ _ _ h => h) (Or.inl ⟨by kernel_rfl, ?_⟩) (by assumption) ?_
      rotate_left 1
      · intro wz hSw
        try dsimp only at hSw
        go_simp
        all_goals with_reducible rfl
      try simp only [Act.put, List.setIfInBounds_toArray, List.set_cons_zero, List.set_cons_succ]
      have hb4 : w4.heap[w1.heap.size + 1]? = wr.heap[w1.heap.size + 1]? := by rw [unhide HW4]; exact (below_drew_alloc wr _).block _ (by have := unhide HSZ; omega)
      obtain ⟨⟨y0, y1, y2, y3, y4⟩, yf⟩ := five (hb4.trans (unhide HQ).blk)
      have yf0 := yf 2
      refine wpAnyH_ready (rs := [7]) (by kernel_rfl) (by simp) ?_
      refine AllReadyH.cons opn7 (fun K hK => ?_) AllReadyH.nil
      rw [if_pos (by kernel_rfl)]
      go_simp
      clear y0 y1 y2 y3 y4 yf yf0 hb4
      refine hK.out _ _ (trivial) (fun hHeldN => ?_)
      clear hHeld hK K
      have hHeld := hHeldN
      clear hHeldN
      try simp only [Act.put, List.setIfInBounds_toArray, List.set_cons_zero, List.set_cons_succ]
      refine wpAnyH_done (by kernel_rfl) ?_ _
      go_wp2
      go_roundw
      case rel =>
        refine ⟨2, by omega, rfl, ?_⟩
        have h9 := unhide HNX
        have h8 : NewSt V w1.heap.size S 2 (w4.setCell ⟨w1.heap.size + 1, 2, none⟩ (.pointer (some ⟨wr.heap.size, 0, none⟩))) := by rw [unhide HW4]; exact h9
        first | exact h8 | exact h8.drewR
      case measure => simp [intOf]
    | 2, _ =>
      obtain ⟨⟨y0, y1, y2, y3, y4⟩, yf⟩ := five (unhide HQ).blk
      have hc3 : (2 : Int) < 3 := by omega
      have HSZ := hide (unhide HQ).sz
      have HCN := hide (New_some (2 : Int) wr.drew (by omega))
      have HNX := hide ((unhide HQ).next (by omega) (unhide HH))
      clear y0 y1 y2 y3 y4 yf
      go_wp2_with fail
      refine wp_region_held_drew (S := (fun wx => True)) (by kernel_rfl) (trivial) (fun hHeld => ?_)
      refine wpAnyH_take (i := 0) (v := ?_) opn0 (by kernel_rfl) (by kernel_rfl) (by kernel_rfl) (fun _ _ _ h => h) (Or.inl ⟨by kernel_rfl, ?_⟩) (by assumption) ?_
      rotate_left 1
      · intro wz hSw
        try dsimp only at hSw
        go_simp
        all_goals with_reducible rfl
      try simp only [Act.put, List.setIfInBounds_toArray, List.set_cons_zero, List.set_cons_succ]
      refine wpAnyH_take (i := 1) (v := ?_) opn1 (by kernel_rfl) (by kernel_rfl) (by kernel_rfl) (fun _ _ _ h => h) (Or.inl ⟨by kernel_rfl, ?_⟩) (by assumption) ?_
      rotate_left 1
      · intro wz hSw
        try dsimp only at hSw
        go_simp
        all_goals with_reducible rfl
      try simp only [Act.put, List.setIfInBounds_toArray, List.set_cons_zero, List.set_cons_succ]
      refine wpAnyH_take (i := 2) (v := ?_) opn2 (by kernel_rfl) (by kernel_rfl) (by kernel_rfl) (fun _ _ _ h => h) (Or.inl ⟨by kernel_rfl, ?_⟩) (by assumption) ?_
      rotate_left 1
      · intro wz hSw
        try dsimp only at hSw
        go_simp
        all_goals with_reducible rfl
      try simp only [Act.put, List.setIfInBounds_toArray, List.set_cons_zero, List.set_cons_succ]
      refine wpAnyH_take (i := 4) (v := ?_) opn4 (by kernel_rfl) (by kernel_rfl) (by kernel_rfl) (fun _ _ _ h => h) (Or.inl ⟨by kernel_rfl, ?_⟩) (by assumption) ?_
      rotate_left 1
      · intro wz hSw
        try dsimp only at hSw
        go_simp
        all_goals with_reducible rfl
      try simp only [Act.put, List.setIfInBounds_toArray, List.set_cons_zero, List.set_cons_succ]
      refine wpAnyH_take (i := 5) (v := ?_) opn5 (by kernel_rfl) (by kernel_rfl) (by kernel_rfl) (fun _ _ _ h => h) (Or.inl ⟨by kernel_rfl, ?_⟩) (by assumption) ?_
      rotate_left 1
      · intro wz hSw
        try dsimp only at hSw
        go_simp
        all_goals with_reducible rfl
      try simp only [Act.put, List.setIfInBounds_toArray, List.set_cons_zero, List.set_cons_succ]
      refine wpAnyH_ready (rs := [3]) (by kernel_rfl) (by simp) ?_
      refine AllReadyH.cons opn3 (fun K hK => ?_) AllReadyH.nil
      rw [if_pos (by kernel_rfl)]
      go_simp
      refine (unhide HCN).mono ?_
      rintro e w4 ⟨rfl, hw4⟩
      have HW4 := hide hw4
      clear hw4
      refine hK.out _ _ (trivial) (fun hHeldN => ?_)
      clear hHeld hK K
      have hHeld := hHeldN
      clear hHeldN
      try simp only [Act.put, List.setIfInBounds_toArray, List.set_cons_zero, List.set_cons_succ]
      refine wpAnyH_take (i := 6) (v := ?_) opn6 (by kernel_rfl) (by kernel_rfl) (by kernel_rfl) (fun _ _ _ h => h) (Or.inl ⟨by kernel_rfl, ?_⟩) (by assumption) ?_
      rotate_left 1
      · intro wz hSw
        try dsimp only at hSw
        go_simp
        all_goals with_reducible rfl
      try simp only [Act.put, List.setIfInBounds_toArray, List.set_cons_zero, List.set_cons_succ]
      have hb4 : w4.heap[w1.heap.size + 1]? = wr.heap[w1.heap.size + 1]? := by rw [unhide HW4]; exact (below_drew_alloc wr _).block _ (by have := unhide HSZ; omega)
      obtain ⟨⟨y0, y1, y2, y3, y4⟩, yf⟩ := five (hb4.trans (unhide HQ).blk)
      have yf0 := yf 3
      refine wpAnyH_ready (rs := [7]) (by kernel_rfl) (by simp) ?_
      refine AllReadyH.cons opn7 (fun K hK => ?_) AllReadyH.nil
      rw [if_pos (by kernel_rfl)]
      go_simp
      clear y0 y1 y2 y3 y4 yf yf0 hb4
      refine hK.out _ _ (trivial) (fun hHeldN => ?_)
      clear hHeld hK K
      have hHeld := hHeldN
      clear hHeldN
      try simp only [Act.put, List.setIfInBounds_toArray, List.set_cons_zero, List.set_cons_succ]
      refine wpAnyH_done (by kernel_rfl) ?_ _
      go_wp2
      go_roundw
      case rel =>
        refine ⟨3, by omega, rfl, ?_⟩
        have h9 := unhide HNX
        have h8 : NewSt V w1.heap.size S 3 (w4.setCell ⟨w1.heap.size + 1, 3, none⟩ (.pointer (some ⟨wr.heap.size, 0, none⟩))) := by rw [unhide HW4]; exact h9
        first | exact h8 | exact h8.drewR
      case measure => simp [intOf]

end Go.Proofs.YtmbhbnoifimeaabGreat

namespace Go.Proofs.YtmbhbnoifimeaabGreat
open Go.RowKit
set_option linter.unusedSimpArgs false
set_option linter.unusedVariables false

def wbc : ACall := ⟨1, ⟨#[97]⟩, ⟨#[]⟩, ⟨#[]⟩⟩
def wbx1 : AX := ⟨1, 1, 0, wbc⟩
def wbx2 : AX := ⟨2, 1, 0, zeroCall⟩
def wbx3 : AX := ⟨5, 0, 0, zeroCall⟩
def wbx4 : AX := ⟨7, 0, 3, zeroCall⟩
def wbx5 : AX := ⟨3, 0, 0, zeroCall⟩
def wb1 : AW := (AW.start.step wbx1).2
def wb2 : AW := (wb1.step wbx2).2
def wb3 : AW := (wb2.step wbx3).2
def wb4 : AW := (wb3.step wbx4).2
def wb5 : AW := (wb4.step wbx5).2
def wb6 : AW := (AW.calm 3 wb5).2
def wbr : ARec := ⟨1, 1, wbc, 0, ⟨#[]⟩⟩
theorem wb_1 : (AW.start.step wbx1).1 = 0 := by kernel_rfl
theorem wb_2 : (wb1.step wbx2).1 = 0 := by kernel_rfl
theorem wb_3 : (wb2.step wbx3).1 = 0 := by kernel_rfl
theorem wb_4 : (wb3.step wbx4).1 = 0 := by kernel_rfl
theorem wb_5 : (wb4.step wbx5).1 = 0 := by kernel_rfl
theorem wb_6 : (AW.calm 3 wb5).1 = 0 := by kernel_rfl
theorem wb_d : (wb6.cl 1).done = [wbr] := by kernel_rfl
theorem wb_l : (lastR wb6.log 1).no = 1 := by kernel_rfl
theorem wb_m : wb6.ms.length = 0 := by kernel_rfl

end Go.Proofs.YtmbhbnoifimeaabGreat

namespace Go.Proofs.YtmbhbnoifimeaabGreat
open Go.RowKit
set_option linter.unusedSimpArgs false
set_option linter.unusedVariables false

/-- What steps can bring; few of them, where it tells false. -/
def RetF (n : Nat) (e : Ending) : Prop := ∃ r, e = .returned (.bool r) ∧ (r = false → n ≤ 250)
set_option maxRecDepth 100000 in
set_option maxHeartbeats 4000000 in
theorem greatSteps_any (a0 : Option Addr) (len cap : Nat) (xs : List AX) (w : World) (hl : XsAt w a0 len xs) :
    Calls Tryz.prog 10 #[.slice a0 len cap] w fun e w' => RetF len e ∧ Below w.heap.size w w' := by
  have hm := hl.2.1
  unfold maxLen at hm
  have HL := hide hl
  clear hl
  go_enter Tryz.func10, Tryz.ntmps10
  go_wp2
  go_loopw [3] (fun i wr => ∃ k : Nat, k ≤ 300 ∧ i = .int .i64 k ∧ Hid (Below w.heap.size w wr)) (fun i _ => 300 - (intOf i).toNat)
  case atStart => exact ⟨0, Nat.zero_le _, rfl, Below.refl _ _⟩
  case round =>
    obtain ⟨k, hk, rfl, HB⟩ := hrel
    by_cases h1 : (k : Int) < (len : Int)
    · by_cases h2 : (k : Int) < 300
      · obtain ⟨b, off, rfl, hc⟩ := ((unhide HL).below (unhide HB)).2.2.2 (by omega)
        obtain ⟨x, hx⟩ : ∃ x, xs[k]? = some x := ⟨_, List.getElem?_eq_getElem (by rw [(unhide HL).1]; omega)⟩
        obtain ⟨g0, g1, g2, g3, g4, g5, g6⟩ := hc k x hx
        have hcon := greatCall_any x.call.kind x.call.name x.call.dst x.call.text wr
        obtain ⟨xk, xn, xp, ⟨ck, ca, cb, ct⟩⟩ := x
        dsimp only at g0 g1 g2 g3 g4 g5 g6 hcon
        clear hc hx
        go_wp2_with (go_at_call 34; refine hcon.mono ?_; rintro e w1 ⟨⟨r, rfl⟩, b1⟩)
        · go_ret
          exact ⟨⟨_, rfl, fun h => by cases h⟩, (unhide HB).trans (b1.mono (unhide HB).size)⟩
        · go_roundw
          case rel => exact ⟨k + 1, by omega, by go_num, (unhide HB).trans (b1.mono (unhide HB).size)⟩
          case measure => simp [intOf]; omega
      · have h3 : (250 : Int) < (len : Int) := by omega
        go_wp2
        go_ret
        exact ⟨⟨_, rfl, fun h => by cases h⟩, unhide HB⟩
    · by_cases h4 : (250 : Int) < (len : Int)
      · go_wp2
        go_ret
        exact ⟨⟨_, rfl, fun h => by cases h⟩, unhide HB⟩
      · go_wp2
        go_ret
        exact ⟨⟨_, rfl, fun _ => by omega⟩, unhide HB⟩

set_option maxRecDepth 100000 in
set_option maxHeartbeats 8000000 in
theorem worldBegun_any (w : World) : Calls Tryz.prog 9 #[] w fun e w' => e = .returned (.bool true) ∧ Below w.heap.size w w' := by
  have HNEW := hide (WNew_any w)
  have HSTEP := hide (fun (wx : World) (W : Nat) (o : WOwn) (A : AW) (x : AX) (hr : WRep w.heap.size wx W o A) (hx : SmallC x.call) => Step_any hr x hx)
  have hs1 : SmallC wbc := by unfold SmallC wbc; decide
  have hs0 : SmallC zeroCall := zeroCall_small
  have HS1 := hide hs1
  have HS0 := hide hs0
  clear hs1 hs0
  go_enter Tryz.func9, Tryz.ntmps9
  go_wp2_with fail
  refine (unhide HNEW).mono ?_
  rintro e w1 ⟨W, o0, rfl, hr0, hb0⟩
  obtain ⟨V, hV⟩ : ∃ V, V = w1.alloc (.cells #[.int .i64 1, .string ⟨#[97]⟩, .string ⟨#[]⟩, .string ⟨#[]⟩] 32) := ⟨_, rfl⟩
  have hBV : Below w1.heap.size w1 V := by rw [hV]; exact (Below.refl _ _).alloc (Nat.le_refl _) _
  have HR := hide (hr0.below hBV)
  have HB := hide (hb0.trans (hBV.mono hb0.size))
  have HV := hide hV
  have HC := hide ((unhide HSTEP) _ _ _ _ wbx1 (unhide HR) (unhide HS1))
  rw [wb_1] at HC
  dsimp only [AX.val, wbx1, wbc] at HC
  clear hV hBV hr0 hb0
  go_wp2_with fail
  rw [← unhide HV]
  refine (unhide HC).mono ?_
  rintro e w2 ⟨rfl, hT⟩
  clear HC
  obtain ⟨o1, hr, hn⟩ := hT
  have hbn := (unhide HB).trans hn.below
  clear HR HB
  have HR : Hid (WRep w.heap.size w2 W o1 wb1) := hr
  have HB := hide hbn
  clear hr hn hbn
  have HC := hide ((unhide HSTEP) _ _ _ _ wbx2 (unhide HR) (unhide HS0))
  rw [wb_2] at HC
  dsimp only [AX.val, wbx2, zeroCall] at HC
  go_wp2_with fail
  refine (unhide HC).mono ?_
  rintro e w3 ⟨rfl, hT⟩
  clear HC
  obtain ⟨o2, hr, hn⟩ := hT
  have hbn := (unhide HB).trans hn.below
  clear HR HB
  have HR : Hid (WRep w.heap.size w3 W o2 wb2) := hr
  have HB := hide hbn
  clear hr hn hbn
  have HC := hide ((unhide HSTEP) _ _ _ _ wbx3 (unhide HR) (unhide HS0))
  rw [wb_3] at HC
  dsimp only [AX.val, wbx3, zeroCall] at HC
  go_wp2_with fail
  refine (unhide HC).mono ?_
  rintro e w4 ⟨rfl, hT⟩
  clear HC
  obtain ⟨o3, hr, hn⟩ := hT
  have hbn := (unhide HB).trans hn.below
  clear HR HB
  have HR : Hid (WRep w.heap.size w4 W o3 wb3) := hr
  have HB := hide hbn
  clear hr hn hbn
  have HC := hide ((unhide HSTEP) _ _ _ _ wbx4 (unhide HR) (unhide HS0))
  rw [wb_4] at HC
  dsimp only [AX.val, wbx4, zeroCall] at HC
  go_wp2_with fail
  refine (unhide HC).mono ?_
  rintro e w5 ⟨rfl, hT⟩
  clear HC
  obtain ⟨o4, hr, hn⟩ := hT
  have hbn := (unhide HB).trans hn.below
  clear HR HB
  have HR : Hid (WRep w.heap.size w5 W o4 wb4) := hr
  have HB := hide hbn
  clear hr hn hbn
  have HC := hide ((unhide HSTEP) _ _ _ _ wbx5 (unhide HR) (unhide HS0))
  rw [wb_5] at HC
  dsimp only [AX.val, wbx5, zeroCall] at HC
  go_wp2_with fail
  refine (unhide HC).mono ?_
  rintro e w6 ⟨rfl, hT⟩
  clear HC
  obtain ⟨o5, hr, hn⟩ := hT
  have hbn := (unhide HB).trans hn.below
  clear HR HB
  have HR : Hid (WRep w.heap.size w6 W o5 wb5) := hr
  have HB := hide hbn
  clear hr hn hbn
  have HC := hide (Calm_any (unhide HR))
  rw [wb_6] at HC
  go_wp2_with fail
  refine (unhide HC).mono ?_
  rintro e w7 ⟨rfl, hT⟩
  clear HC
  obtain ⟨o6, hr, hn⟩ := hT
  have hbn := (unhide HB).trans hn.below
  clear HR HB
  have HR : Hid (WRep w.heap.size w7 W o6 wb6) := hr
  have HB := hide hbn
  clear hr hn hbn
  have HC := hide (Client_some (unhide HR) 1 (by omega))
  go_wp2_with fail
  refine (unhide HC).mono ?_
  rintro e w8 ⟨rfl, hw⟩
  subst hw
  clear HC
  have HC := hide (Done_any ((unhide HR).c 1 (by omega)) (n := 1) (by rw [wb_d]; rfl))
  rw [wb_d] at HC
  go_wp2_with fail
  refine (unhide HC).mono ?_
  rintro e w9 ⟨g, cap, rfl, ho, hb9⟩
  clear HC
  have hr9 := (unhide HR).below hb9
  have HB9 := hide ((unhide HB).trans (hb9.mono (unhide HB).size))
  have hcl := fun j v h => World.ownsRow.cells (v := .slice (some ⟨g, 0, none⟩) 1 cap) ho (g := g) rfl j v h
  have k6 : w9.cell? ⟨g, 6, none⟩ = some (.int .i64 0) := by have := hcl 6 (.int .i64 0) rfl; rw [addr_add] at this; exact this
  have k7 : w9.cell? ⟨g, 7, none⟩ = some (.string ⟨#[]⟩) := by have := hcl 7 (.string ⟨#[]⟩) rfl; rw [addr_add] at this; exact this
  have hS := hr9.cells.1.1
  have HLS := hide (SLast_any hr9.s 1)
  rw [if_neg (by omega)] at HLS
  rw [show (lastR wb6.log 1).no = 1 from wb_l] at HLS
  have HCN := hide (fun w => Client_none W w 3 (by omega))
  have HPK := hide (Packets_any hr9 wb_m)
  generalize o6.S = S at hS HLS
  clear hcl ho hb9 hr9 HR HB
  go_wp2_with fail
  refine (unhide HLS).mono ?_
  rintro e w10 ⟨rfl, hw⟩
  subst hw
  go_wp2_with fail
  refine ((unhide HCN) _).mono ?_
  rintro e w11 ⟨rfl, hw⟩
  subst hw
  go_wp2_with fail
  refine (unhide HPK).mono ?_
  rintro e w12 ⟨g2, cap2, rfl, ho, hb12⟩
  have HF := hide ((unhide HB9).trans (hb12.mono (unhide HB9).size))
  clear ho hb12
  go_wp2
  go_ret
  exact ⟨rfl, unhide HF⟩

end Go.Proofs.YtmbhbnoifimeaabGreat

namespace Go.Proofs.YtmbhbnoifimeaabGreat
open Go.RowKit
set_option linter.unusedSimpArgs false
set_option linter.unusedVariables false

def ca : ACall := ⟨1, ⟨#[97]⟩, ⟨#[]⟩, ⟨#[]⟩⟩
def cb' : ACall := ⟨1, ⟨#[98]⟩, ⟨#[]⟩, ⟨#[]⟩⟩
end Go.Proofs.YtmbhbnoifimeaabGreat

namespace Go.Proofs.YtmbhbnoifimeaabGreat
open Go.ChangeShapes Go.WideShapes Go.ChangeAt Go.RowKit Go.Deep Go.Joins
set_option linter.unusedSimpArgs false
set_option linter.unusedVariables false

theorem own0 : ownKnob Tryz.prog.godebug = none := by kernel_rfl
theorem laidOut0 : laidOutB Tryz.prog = true := by kernel_rfl
theorem cells32 : Tryz.prog.cellsOf 32 = 4 := by kernel_rfl
theorem cells3 : Tryz.prog.cellsOf 3 = 1 := by kernel_rfl
theorem cells9 : Tryz.prog.cellsOf 9 = 1 := by kernel_rfl

section
variable {H : Type} {enc : TypeId × Value → H} {w : World} {base : Nat} {spare : Nat → Bool} {held : Bool}

end

end Go.Proofs.YtmbhbnoifimeaabGreat

namespace Go.Proofs.YtmbhbnoifimeaabGreat
open Go.ChangeShapes Go.WideShapes Go.ChangeAt Go.RowKit Go.Deep Go.Joins
set_option linter.unusedSimpArgs false
set_option linter.unusedVariables false

theorem spot_none {w : World} {a : Addr} {v : Value} (h : w.cell? a = some v) : a = ⟨a.block, a.off, none⟩ := by
  obtain ⟨b, off, spot⟩ := a
  cases spot with
  | none => rfl
  | some s =>
    exfalso
    simp only [World.cell?] at h
    split at h <;> simp at h

end Go.Proofs.YtmbhbnoifimeaabGreat

namespace Go.Proofs.YtmbhbnoifimeaabGreat
open Go.RowKit
set_option linter.unusedSimpArgs false
set_option linter.unusedVariables false

/-- Log, its length a letter. -/
theorem Log_T {N : Nat} {w : World} {S B : Nat} {own : List Nat} {lv : Value} {L : List ARec} (h : SRep N w S B own lv L) (hs : (logB L).length ≤ 2000) {T : Nat} (hT : (logB L).length = T) :
    Calls Tryz.prog 18 #[.pointer (some ⟨S, 0, none⟩)] w fun e w' => ∃ a c', e = .returned (.slice a T c') ∧ BRow w' w.heap.size (.slice a T c') (logB L) ∧ Below w.heap.size w w' := by
  have := Log_any h (by omega)
  rw [hT] at this
  exact this
end Go.Proofs.YtmbhbnoifimeaabGreat

namespace Go.Proofs.YtmbhbnoifimeaabGreat
open Go.RowKit
set_option linter.unusedSimpArgs false
set_option linter.unusedVariables false

theorem quiet_calm3 {A : AW} (h : Quiet A) : AW.calm 3 A = (0, A) := quiet_calm h 2
set_option maxRecDepth 100000 in
set_option maxHeartbeats 4000000 in
theorem calm_walk (a0 : Option Addr) (n0 c0 : Nat) (ls : List AX) (w : World) (hl : XsAt w a0 n0 ls) :
    Calls Tryz.prog 7 #[.slice a0 n0 c0] w fun e w' => e = .returned (.bool true) ∧ Below w.heap.size w w' := by
  have HBG := hide worldBegun_any
  have HL := hide hl
  have HGR := hide (fun W (hb : Below w.heap.size w W) => greatSteps_any a0 n0 c0 ls W (hl.below hb))
  have HNEW := hide WNew_any
  clear hl
  go_enter Tryz.func7, Tryz.ntmps7
  go_wp2_with fail
  refine ((unhide HBG) _).mono ?_
  rintro e w1 ⟨rfl, b1⟩
  have HB1 := hide b1
  go_wp2_with fail
  refine ((unhide HGR) _ b1).mono ?_
  rintro e w2 ⟨⟨r, rfl, hr⟩, b2⟩
  have HB2 := hide (b1.trans (b2.mono b1.size))
  have HRF := hide hr
  clear b1 b2 HB1 hr
  cases r
  rotate_left 1
  · go_wp2
    go_ret
    exact ⟨rfl, unhide HB2⟩
  have hn0 := (unhide HRF) rfl
  clear HRF HBG HGR
  go_wp2_with fail
  refine ((unhide HNEW) _).mono ?_
  rintro e w3 ⟨W, o0, rfl, hr0, hb0⟩
  have HR0 := hide hr0
  have HB0 := hide hb0
  have hz2 : w.heap.size ≤ w2.heap.size := (unhide HB2).size
  clear hr0 hb0
  go_wp2_with fail
  go_loopw [4] (fun i wr => ∃ (q : Nat) (o : WOwn) (A : AW), q ≤ n0 ∧ i = .int .i64 (q : Int) ∧ Hid (WRep w2.heap.size wr W o A) ∧ Hid (WInv A) ∧ Hid (Below w2.heap.size w2 wr)) (fun i _ => n0 - (intOf i).toNat)
  case atStart => exact ⟨0, o0, AW.start, Nat.zero_le _, rfl, unhide HR0, WInv.start, unhide HB0⟩
  case round =>
    obtain ⟨q, o, A, hq, rfl, HR, HI, HB⟩ := hrel
    have HBw := hide ((unhide HB2).trans ((unhide HB).mono hz2))
    by_cases hlt : (q : Int) < (n0 : Int)
    · obtain ⟨x, hx⟩ : ∃ x, ls[q]? = some x := ⟨_, List.getElem?_eq_getElem (by rw [(unhide HL).1]; omega)⟩
      obtain ⟨b, off, rfl, hc⟩ := ((unhide HL).below (unhide HBw)).2.2.2 (by omega)
      have hxa := hc q x hx
      have hsz := (unhide HL).2.2.1 x (List.mem_of_getElem? hx)
      have HST := hide (Step_any (unhide HR) x hsz)
      have HI2 := hide ((unhide HI).step hsz)
      have hqi : (0 : Int) ≤ (q : Int) := by omega
      generalize A.step x = R at HST HI2
      obtain ⟨r1, A2⟩ := R
      dsimp only at HST HI2
      clear hc hx hsz
      obtain ⟨xk, xn, xp, ⟨ck, ca, cb, ct⟩⟩ := x
      obtain ⟨g0, g1, g2, g3, g4, g5, g6⟩ := hxa
      dsimp only [AX.val] at HST g0 g1 g2 g3 g4 g5 g6
      go_wp2_with fail
      refine (unhide HST).mono ?_
      rintro e w4 ⟨rfl, hT⟩
      obtain ⟨o4, hr4, hn4⟩ := hT
      have HR4 := hide hr4
      have HB4 := hide ((unhide HB).trans hn4.below)
      clear g0 g1 g2 g3 g4 g5 g6 hr4 hn4
      go_wp2
      go_roundw
      case rel => exact ⟨q + 1, o4, A2, by omega, by go_num, unhide HR4, unhide HI2, unhide HB4⟩
      case measure => simp [intOf]; omega
    · have hsc := (unhide HR).cells.1.1
      obtain ⟨T, hT⟩ : ∃ T, (logB A.log).length = T := ⟨_, rfl⟩
      have HLG := hide (Log_T (unhide HR).s (unhide HR).ss hT)
      have hss : (T : Int) ≤ 2000 := by have := (unhide HR).ss; omega
      have hw84 : wrap64 ((T : Int) + 84) = (T : Int) + 84 := by unfold wrap64; omega
      have HTT := hide hT
      generalize o.S = S at hsc HLG
      clear hT
      go_wp2_with fail
      refine (unhide HLG).mono ?_
      rintro e w4 ⟨a4, c4, rfl, ho4, hb4⟩
      clear ho4 hsc
      have HR4 := hide ((unhide HR).below hb4)
      have HB4 := hide ((unhide HB).trans (hb4.mono (unhide HB).size))
      have HCM := hide (Calm_any (unhide HR4))
      clear hb4 HLG
      have hrng := calm_range 3 (by omega) A
      by_cases hroom : (T : Int) + 84 ≤ 2000
      · obtain ⟨hcr, hqt⟩ := calm_room (unhide HI) (Room.of (by have := unhide HTT; omega))
        have HQT := hide hqt
        have hcr1 : (AW.calm 3 A).1 ≤ 1 := by rcases hcr with h | h <;> omega
        generalize AW.calm 3 A = R at HCM HQT hcr1
        obtain ⟨r1, A2⟩ := R
        dsimp only at HCM HQT hcr1
        clear hcr hqt hrng
        go_wp2_with fail
        refine (unhide HCM).mono ?_
        rintro e w5 ⟨rfl, hT⟩
        obtain ⟨o5, hr5, hn5⟩ := hT
        have HR5 := hide hr5
        have HB5 := hide ((unhide HB4).trans hn5.below)
        clear hr5 hn5 HCM HR4
        go_wp2_with fail
        go_loopw [7, 8] (fun i _ wr => ∃ q : Nat, q ≤ 3 ∧ i = .int .i64 (q : Int) ∧ wr = w5) (fun i _ _ => 3 - (intOf i).toNat)
        case atStart => exact ⟨0, Nat.zero_le _, rfl, rfl⟩
        case round =>
          obtain ⟨q2, hq2, rfl, hwr⟩ := hrel
          subst hwr
          by_cases hl3 : (q2 : Int) < 3
          · have HCL := hide (Client_some (unhide HR5) q2 (by omega))
            have HOP := hide (KOpen_any ((unhide HR5).c q2 (by omega)))
            rw [(unhide HQT).2 q2 (by omega)] at HOP
            generalize o5.X q2 = X at HCL HOP
            go_wp2_with fail
            refine (unhide HCL).mono ?_
            rintro e w6 ⟨rfl, hw⟩
            subst hw
            go_wp2_with fail
            refine (unhide HOP).mono ?_
            rintro e w7 ⟨rfl, hw⟩
            subst hw
            go_wp2
            go_roundw
            case rel => exact ⟨q2 + 1, by omega, by go_num, by first | rfl | trivial⟩
            case measure => simp [intOf]; omega
          · have HPK := hide (Packets_any (unhide HR5) (n := 0) (by rw [(unhide HQT).1]; rfl))
            go_wp2_with fail
            refine (unhide HPK).mono ?_
            rintro e w6 ⟨g6, c6, rfl, ho6, hb6⟩
            have HCM2 := hide (Calm_any ((unhide HR5).below hb6))
            rw [quiet_calm3 (unhide HQT)] at HCM2
            have HB6 := hide ((unhide HB5).trans (hb6.mono (unhide HB5).size))
            clear ho6 hb6
            go_wp2_with fail
            refine (unhide HCM2).mono ?_
            rintro e w7 ⟨rfl, hT⟩
            have HB7 := hide ((unhide HB2).trans (((unhide HB6).trans hT.below).mono hz2))
            clear hT
            go_wp2
            go_ret
            exact ⟨rfl, unhide HB7⟩
      · have hrm : (2000 : Int) < (T : Int) + 84 := by omega
        have hrd : decide ((T : Int) + 84 ≤ 2000) = false := decide_eq_false hroom
        generalize AW.calm 3 A = R at HCM hrng
        obtain ⟨r1, A2⟩ := R
        dsimp only at HCM hrng
        obtain ⟨hr1, hr2⟩ := hrng
        go_wp2_with fail
        refine (unhide HCM).mono ?_
        rintro e w5 ⟨rfl, hT⟩
        have HB7 := hide ((unhide HB2).trans (((unhide HB4).trans hT.below).mono hz2))
        clear hT
        go_wp2
        go_ret
        exact ⟨rfl, unhide HB7⟩

end Go.Proofs.YtmbhbnoifimeaabGreat

namespace Go.Proofs.YtmbhbnoifimeaabGreat
open Go.ChangeShapes Go.WideShapes Go.ChangeAt Go.RowKit Go.Deep Go.Joins
set_option linter.unusedSimpArgs false
set_option linter.unusedVariables false

theorem reach48 {s : ByteArray} (h : s.data.toList.length ≤ reachBytes) : s.size ≤ 281474976710656 := by
  have h1 : s.size = s.data.toList.length := by show s.data.size = _; rw [Array.length_toList]
  unfold reachBytes at h
  omega

section
variable {H : Type} {enc : TypeId × Value → H} {w : World} {base : Nat} {spare : Nat → Bool} {held : Bool}

theorem trodS4 {P : Program} {t : TypeId} {f0 f1 f2 f3 : Field} {fuel : Nat} {cs : List Value} {x : DataW H × List MemPlace} (ht : P.underlying t = some (.struct #[f0, f1, f2, f3])) (h : DataW.trod enc P w base spare held fuel t cs = some x) :
    ∃ y0 y1 y2 y3 n, x.1 = .agg [y0.1, y1.1, y2.1, y3.1] ∧ cs.length = P.cellsOf t ∧ DataW.trod enc P w base spare held n f0.type ((cs.drop f0.offset).take (P.cellsOf f0.type)) = some y0 ∧ DataW.trod enc P w base spare held n f1.type ((cs.drop f1.offset).take (P.cellsOf f1.type)) = some y1 ∧ DataW.trod enc P w base spare held n f2.type ((cs.drop f2.offset).take (P.cellsOf f2.type)) = some y2 ∧ DataW.trod enc P w base spare held n f3.type ((cs.drop f3.offset).take (P.cellsOf f3.type)) = some y3 := by
  obtain ⟨xs, n, _, rfl, hl, hlen, hf⟩ := DataW.trod_struct ht h
  match xs, hlen with
  | [y0, y1, y2, y3], _ => exact ⟨y0, y1, y2, y3, n, rfl, hl, by simpa using hf 0 f0 rfl, by simpa using hf 1 f1 rfl, by simpa using hf 2 f2 rfl, by simpa using hf 3 f3 rfl⟩
set_option maxRecDepth 100000 in
/-- A call's four cells. -/
theorem open_callW {fuel : Nat} {cs : List Value} {x : DataW H × List MemPlace} (h : DataW.trod enc Tryz.prog w base spare held fuel 32 cs = some x) (hw : ∀ n ∈ x.1.weights Tryz.prog 32, n ≤ reachBytes) :
    ∃ c : ACall, cs = [.int .i64 c.kind, .string c.name, .string c.dst, .string c.text] ∧ c.name.size ≤ 281474976710656 ∧ c.dst.size ≤ 281474976710656 ∧ c.text.size ≤ 281474976710656 := by
  obtain ⟨y0, y1, y2, y3, n, hx, hl, h0, h1, h2, h3⟩ := trodS4 Tryz.underlying32 h
  rw [cells32] at hl
  obtain ⟨c0, c1, c2, c3, hcs⟩ := array4 (cs := cs.toArray) (by simpa using hl)
  have hcs : cs = [c0, c1, c2, c3] := by simpa using congrArg Array.toList hcs
  subst hcs
  simp only [cells3, cells9, List.drop, List.take] at h0 h1 h2 h3
  obtain ⟨k, e0, f0, wk⟩ := DataW.trod_int Tryz.underlying3 h0
  obtain ⟨a, e1, f1, wa⟩ := DataW.trod_string Tryz.underlying9 h1
  obtain ⟨b, e2, f2, wb⟩ := DataW.trod_string Tryz.underlying9 h2
  obtain ⟨t, e3, f3, wt⟩ := DataW.trod_string Tryz.underlying9 h3
  simp at e0 e1 e2 e3
  rw [hx] at hw
  subst e0 e1 e2 e3 f0 f1 f2 f3
  simp only [DataW.weights, Tryz.underlying32, List.map, DataW.weightsEach, List.nil_append, List.append_nil, List.mem_append, List.mem_singleton] at hw
  exact ⟨⟨k, a, b, t⟩, rfl, reach48 (hw _ (by simp)), reach48 (hw _ (by simp)), reach48 (hw _ (by simp))⟩

theorem mem_weightsAll {e : TypeId} : ∀ {l : List (DataW H)} {d : DataW H}, d ∈ l → ∀ n ∈ d.weights Tryz.prog e, n ∈ DataW.weightsAll Tryz.prog e l
  | x :: l, d, hd, n, hn => by
    simp only [DataW.weightsAll, List.mem_append]
    rcases List.mem_cons.1 hd with rfl | h
    · exact .inl hn
    · exact .inr (mem_weightsAll h n hn)
end

end Go.Proofs.YtmbhbnoifimeaabGreat

namespace Go.Proofs.YtmbhbnoifimeaabGreat
open Go.ChangeShapes Go.WideShapes Go.ChangeAt Go.RowKit Go.Deep Go.Joins
set_option linter.unusedSimpArgs false
set_option linter.unusedVariables false

theorem cells69 : Tryz.prog.cellsOf 69 = 7 := by kernel_rfl
theorem list7 {α : Type} {l : List α} (h : l.length = 7) : ∃ c0 c1 c2 c3 c4 c5 c6, l = [c0, c1, c2, c3, c4, c5, c6] := by
  match l, h with
  | [c0, c1, c2, c3, c4, c5, c6], _ => exact ⟨_, _, _, _, _, _, _, rfl⟩
set_option maxRecDepth 100000 in
/-- A step's seven cells. -/
theorem open_xW {H : Type} {enc : TypeId × Value → H} {w : World} {base : Nat} {spare : Nat → Bool} {held : Bool} {fuel : Nat} {cs : List Value} {x : DataW H × List MemPlace} (h : DataW.trod enc Tryz.prog w base spare held fuel 69 cs = some x) (hw : ∀ n ∈ x.1.weights Tryz.prog 69, n ≤ reachBytes) :
    ∃ s : AX, cs = wxcells s ∧ SmallC s.call := by
  obtain ⟨y0, y1, y2, y3, n, hx, hl, h0, h1, h2, h3⟩ := trodS4 Tryz.underlying69 h
  rw [cells69] at hl
  obtain ⟨c0, c1, c2, c3, c4, c5, c6, rfl⟩ := list7 hl
  rw [hx] at hw
  simp only [DataW.weights, Tryz.underlying69, List.map, DataW.weightsEach, List.append_nil, List.mem_append] at hw
  simp only [cells3, cells32, List.drop, List.take] at h0 h1 h2 h3
  obtain ⟨k0, f0, _, _⟩ := DataW.trod_int Tryz.underlying3 h0
  obtain ⟨k1, f1, _, _⟩ := DataW.trod_int Tryz.underlying3 h1
  obtain ⟨k2, f2, _, _⟩ := DataW.trod_int Tryz.underlying3 h2
  obtain ⟨c, f3, s1, s2, s3⟩ := open_callW h3 (fun n hn => hw n (by simp [hn]))
  simp at f0 f1 f2 f3
  obtain ⟨rfl, rfl, rfl, rfl⟩ := f3
  subst f0 f1 f2
  exact ⟨⟨k0, k1, k2, c⟩, rfl, s1, s2, s3⟩

/-- A row of steps. -/
theorem open_xs {H : Type} {enc : TypeId × Value → H} {w : World} {base : Nat} {held : Bool} {fuel : Nat} {a0 : Option Addr} {len cap : Nat} {x : DataW H × List MemPlace}
    (h : DataW.trod enc Tryz.prog w base (fun _ => true) held fuel 22 [.slice a0 len cap] = some x) (hw : ∀ n ∈ x.1.weights Tryz.prog 22, n ≤ reachBytes) : ∃ xs : List AX, XsAt w a0 len xs := by
  rcases open_slice Tryz.underlying22 h with ⟨hcs, _⟩ | ⟨a, len', cap', m, n, D, Pl, hcs, _, hl, hm, hmm, hxe, hx⟩
  · simp at hcs
    obtain ⟨rfl, rfl, rfl⟩ := hcs
    exact ⟨[], rfl, Nat.zero_le _, by simp, fun h => absurd h (Nat.lt_irrefl _)⟩
  · simp at hcs
    obtain ⟨rfl, rfl, rfl⟩ := hcs
    simp only [if_true] at hmm
    subst hmm
    rw [cells69] at hx
    have hwD : ∀ i, i < len → ∀ n ∈ (D i).weights Tryz.prog 69, n ≤ reachBytes := fun i hi n hn => hw n (by
      rw [hxe]
      simp only [DataW.weights, Tryz.underlying22, List.mem_cons, List.mem_append]
      exact .inr (.inl (mem_weightsAll (List.mem_map.2 ⟨i, List.mem_range.2 hi, rfl⟩) n hn)))
    obtain ⟨f, hf⟩ : ∃ f : Nat → AX, ∀ i, i < len → w.cells? base (a.add (i * 7)) 7 = some (wxcells (f i)) ∧ SmallC (f i).call := by
      classical
      have hc : ∀ i, i < len → ∃ r : AX, w.cells? base (a.add (i * 7)) 7 = some (wxcells r) ∧ SmallC r.call := fun i hi => by
        obtain ⟨cs', h1, h2⟩ := hx i (by omega)
        obtain ⟨r, rfl, w1⟩ := open_xW h2 (hwD i hi)
        exact ⟨r, h1, w1⟩
      refine ⟨fun i => if hi : i < len then Classical.choose (hc i hi) else ⟨0, 0, 0, zeroCall⟩, fun i hi => ?_⟩
      simp only [dif_pos hi]
      exact Classical.choose_spec (hc i hi)
    refine ⟨(List.range len).map f, by simp, by omega, fun r hr => ?_, fun h0 => ?_⟩
    · simp at hr
      obtain ⟨i, hi, rfl⟩ := hr
      exact (hf i hi).2
    · have hs : ∀ i, i < len → ∀ j, j < 7 → w.cell? ((a.add (i * 7)).add j) = (wxcells (f i))[j]? := fun i hi j hj => by
        obtain ⟨_, hlen, hcell⟩ := World.cells?_some (hf i hi).1
        exact hcell j hj
      have e0 := hs 0 h0 0 (by omega)
      have ea : a = ⟨a.block, a.off, none⟩ := by
        have : (a.add (0 * 7)).add 0 = a := by simp [Addr.add]
        rw [this] at e0
        exact spot_none e0
      refine ⟨a.block, a.off, by rw [← ea], fun j r hj => ?_⟩
      have hj' : j < len := by have := (List.getElem?_eq_some_iff.1 hj).1; simpa using this
      have hr : r = f j := by
        rw [List.getElem?_map, List.getElem?_range hj'] at hj
        simpa using hj.symm
      subst hr
      have hq : ∀ i, i < 7 → w.cell? ⟨a.block, a.off + j * 7 + i, none⟩ = (wxcells (f j))[i]? := fun i hi => by
        have := hs j hj' i hi
        rw [ea, addr_add, addr_add] at this
        exact this
      exact ⟨hq 0 (by omega), hq 1 (by omega), hq 2 (by omega), hq 3 (by omega), hq 4 (by omega), hq 5 (by omega), hq 6 (by omega)⟩

end Go.Proofs.YtmbhbnoifimeaabGreat
