/- Texts joined, what is needed of them: Vh VHa. -/
import Derived.Test.YtmbhbnoifimeaabGreatQD7
namespace Go.Proofs.YtmbhbnoifimeaabGreat
open Go.RowKit
set_option linter.unusedSimpArgs false
set_option linter.unusedVariables false
theorem WRep.set {N : Nat} {w1 w2 : World} {W : Nat} {o : WOwn} {A : AW} (h : WRep N w1 W o A) {b : Nat} (hn : b ∉ o.all W) (hk : Kept [b] w1 w2) : WRep N w2 W o A := h.kept hk fun k h1 h2 => by simp at h2; subst h2; exact hn h1
theorem Next.setN {N : Nat} {w w1 w2 : World} {a c : List Nat} (h : Next N w w1 a c) (hN : N ≤ w.heap.size) {b : Nat} (hb : w.heap.size ≤ b) (hk : Kept [b] w1 w2) : Next N w w2 a c :=
  ⟨h.below.trans (hk.below (Nat.le_trans hN h.below.size) (fun k h1 => by simp at h1; subst h1; omega)), fun x hx hn => ⟨(h.keep x hx hn).1, (hk.block x (Nat.lt_of_lt_of_le hx h.below.size) (fun hm => by simp at hm; omega)).trans (h.keep x hx hn).2⟩⟩
theorem setTwo {w : World} {b : Nat} {x0 x1 : Value} {e : TypeId} (h : w.heap[b]? = some (.cells #[x0, x1] e (0, 0))) (y0 y1 : Value) : ((w.setCell ⟨b, 0, none⟩ y0).setCell ⟨b, 1, none⟩ y1).heap[b]? = some (.cells #[y0, y1] e (0, 0)) ∧ Kept [b] w ((w.setCell ⟨b, 0, none⟩ y0).setCell ⟨b, 1, none⟩ y1) := by
  refine ⟨heap_setCell_same (heap_setCell_same h _) _, ?_⟩
  have k : ∀ (W : World) (o : Nat) (u : Value), Kept [b] W (W.setCell ⟨b, o, none⟩ u) := fun W o u => kept_setCell [b] W b o u (by simp)
  exact (k w 0 y0).trans (k _ 1 y1) (fun x hx => .inl hx)
theorem set078 {w : World} {b : Nat} {x0 x1 x2 x3 x4 x5 x6 x7 x8 : Value} {e : TypeId} (h : w.heap[b]? = some (.cells #[x0, x1, x2, x3, x4, x5, x6, x7, x8] e (0, 0))) (y0 y7 y8 : Value) : (((w.setCell ⟨b, 0, none⟩ y0).setCell ⟨b, 7, none⟩ y7).setCell ⟨b, 8, none⟩ y8).heap[b]? = some (.cells #[y0, x1, x2, x3, x4, x5, x6, y7, y8] e (0, 0)) ∧ Kept [b] w (((w.setCell ⟨b, 0, none⟩ y0).setCell ⟨b, 7, none⟩ y7).setCell ⟨b, 8, none⟩ y8) := by
  refine ⟨heap_setCell_same (heap_setCell_same (heap_setCell_same h _) _) _, ?_⟩
  have k : ∀ (W : World) (o : Nat) (u : Value), Kept [b] W (W.setCell ⟨b, o, none⟩ u) := fun W o u => kept_setCell [b] W b o u (by simp)
  exact ((k w 0 y0).trans (k _ 7 y7) (fun x hx => .inl hx)).trans (k _ 8 y8) (fun x hx => .inl hx)
theorem Kept.drewR {o : List Nat} {w w' : World} (h : Kept o w w') : Kept o w w'.drew := ⟨h.os, h.tape, h.output, h.size, h.block⟩
theorem setRowN {w : World} {b : Nat} {C cs : Array Value} {e : TypeId} (h : w.heap[b]? = some (.cells C e (0, 0))) (hs : C.size = cs.size) : (w.setCells b 0 cs.toList).heap[b]? = some (.cells cs e (0, 0)) := by
  rw [heap_setCells b e (0, 0) cs.toList 0 w C h]
  congr 2
  apply Array.ext'
  rw [putList_toList cs.toList 0 C (by simp; omega)]
  simp
  omega
set_option maxRecDepth 100000 in
set_option maxHeartbeats 4000000 in
theorem serve_err {N : Nat} {w : World} {W : Nat} {o : WOwn} {A : AW} (h : WRep N w W o A) (p : APkt) (hs : SmallP p) (he : (aCall A.log p.client p.no p.call).err ≠ 0) :
    Calls Tryz.prog 99 #[.pointer (some ⟨W, 0, none⟩), p.val] w fun e w' => e = .returned (.tuple #[]) ∧ WTurn N w W o w' (A.serve p) := by
  obtain ⟨V, hV⟩ : ∃ V, V = w.alloc (.cells #[.bool p.reply, .int .i64 p.client, .int .i64 p.no, .int .i64 p.call.kind, .string p.call.name, .string p.call.dst, .string p.call.text, .int .i64 p.code, .string p.ans] 92) := ⟨_, rfl⟩
  have hBV : Below w.heap.size w V := by rw [hV]; exact (Below.refl _ _).alloc (Nat.le_refl _) _
  have hXV : V.heap[w.heap.size]? = some (.cells #[.bool p.reply, .int .i64 p.client, .int .i64 p.no, .int .i64 p.call.kind, .string p.call.name, .string p.call.dst, .string p.call.text, .int .i64 p.code, .string p.ans] 92 (0, 0)) := by rw [hV]; exact heap_alloc_new _ _
  have hlV : w.heap.size < V.heap.size := (Array.getElem?_eq_some_iff.1 hXV).1
  have hrV := h.below hBV
  have HBV := hide hBV
  have HXV := hide hXV
  have HV := hide hV
  have e1 : A.serve p = ⟨(aCall A.log p.client p.no p.call).log, A.cl, A.ms⟩ := by unfold AW.serve; rw [if_neg he]
  rw [e1]
  have HSC := hide hrV.cells.1.1
  have hWl := h.lt
  have hNw := h.size
  have HCALL := hide (fun W' (hb : Below V.heap.size V W') => SCall_any (hrV.below hb).s p.client p.no p.call (by have := h.ss; omega) (hrV.below hb).size hs.max.1 hs.max.2.1 hs.max.2.2)
  have HTS := hide (fun W' w1 (hb : Below V.heap.size V W') (hT : STurned N W' o.S o.own o.lv w1 (aCall A.log p.client p.no p.call).log) => (hrV.below hb).turnS hT (aCall_short h.s.good h.ss _ _ _))
  have HKW : Hid (W ∉ sown o.S o.own o.lv) := h.nW 3 (by omega)
  have HKB : Hid (∀ b, w.heap.size ≤ b → b ∉ sown o.S o.own o.lv) := fun b hb => h.not_part hb (i := 3) (by omega)
  have HKA : Hid (∀ b, w.heap.size ≤ b → b ∉ o.all W) := fun b hb => h.not_new hb
  have hsm := call_small h.s.good p.client p.no p.call
  have HSM : Hid (SmallP (p.back (aCall A.log p.client p.no p.call).code (aCall A.log p.client p.no p.call).text)) := ⟨hs.1, hs.2.1, hs.2.2.1, by show (aCall A.log p.client p.no p.call).text.size ≤ _; omega⟩
  generalize aCall A.log p.client p.no p.call = R at HCALL HTS he HSM ⊢
  obtain ⟨rc, rt, re, rl⟩ := R
  unfold AddRes at HCALL
  dsimp only [APkt.back] at HCALL HTS he HSM ⊢
  generalize o.S = S at HCALL HTS HKW HKB HSC
  generalize o.own = own at HCALL HTS HKW HKB
  generalize o.lv = lv at HCALL HTS HKW HKB
  have heb : (re != 0) = true := by simpa using he
  clear h e1 hV hBV hXV hrV hs hsm
  clear he
  obtain ⟨pr, pc, pn, ⟨pk, pa, pb, pt⟩, pd, pu⟩ := p
  dsimp only [APkt.val] at *
  go_enter Tryz.func99, Tryz.ntmps99
  go_wp2_with fail
  rw [← unhide HV]
  refine wp_region_held_drew (S := (fun wx => wx.heap[W]? = V.heap[W]? ∧ wx.heap[w.heap.size]? = V.heap[w.heap.size]?)) (by kernel_rfl) (⟨rfl, rfl⟩) (fun hHeld => ?_)
  refine tkH ?_ opn0 (fun _ _ _ h => h) hHeld ?_ ?_
  rotate_left 1
  · intro wz hSw; (try dsimp only at hSw); go_simp; all_goals with_reducible rfl
  try simp only [pS]
  refine tkH ?_ opn1 (fun _ _ _ h => h) hHeld ?_ ?_
  rotate_left 1
  · intro wz hSw; (try dsimp only at hSw); go_simp; all_goals with_reducible rfl
  try simp only [pS]
  refine tkH ?_ opn2 (fun _ _ _ h => h) hHeld ?_ ?_
  rotate_left 1
  · intro wz hSw; (try dsimp only at hSw); go_simp; all_goals with_reducible rfl
  try simp only [pS]
  refine tkH ?_ opn3 (fun _ _ _ h => h) hHeld ?_ ?_
  rotate_left 1
  · intro wz hSw; (try dsimp only at hSw)
    have hq : wz.cell? ⟨W, 0, none⟩ = some (.pointer (some ⟨S, 0, none⟩)) := (World.cell?_of_block (w := V) (a := ⟨W, 0, none⟩) hSw.1).trans (unhide HSC)
    go_simp; all_goals with_reducible rfl
  try simp only [pS]
  refine tkH ?_ opn4 (fun _ _ _ h => h) hHeld ?_ ?_
  rotate_left 1
  · intro wz hSw; (try dsimp only at hSw); go_simp; all_goals with_reducible rfl
  try simp only [pS]
  refine tkH ?_ opn5 (fun _ _ _ h => h) hHeld ?_ ?_
  rotate_left 1
  · intro wz hSw; (try dsimp only at hSw)
    obtain ⟨⟨x0, x1, x2, x3⟩, ⟨x4, x5, x6, x7, x8⟩, xf⟩ := nine (hSw.2.trans (unhide HXV))
    go_simp; all_goals with_reducible rfl
  try simp only [pS]
  refine tkH ?_ opn6 (fun _ _ _ h => h) hHeld ?_ ?_
  rotate_left 1
  · intro wz hSw; (try dsimp only at hSw); go_simp; all_goals with_reducible rfl
  try simp only [pS]
  refine tkH ?_ opn7 (fun _ _ _ h => h) hHeld ?_ ?_
  rotate_left 1
  · intro wz hSw; (try dsimp only at hSw)
    obtain ⟨⟨x0, x1, x2, x3⟩, ⟨x4, x5, x6, x7, x8⟩, xf⟩ := nine (hSw.2.trans (unhide HXV))
    go_simp; all_goals with_reducible rfl
  try simp only [pS]
  refine tkH ?_ opn8 (fun _ _ _ h => h) hHeld ?_ ?_
  rotate_left 1
  · intro wz hSw; (try dsimp only at hSw); go_simp; all_goals with_reducible rfl
  try simp only [pS]
  refine tkH ?_ opn9 (fun _ _ _ h => h) hHeld ?_ ?_
  rotate_left 1
  · intro wz hSw; (try dsimp only at hSw)
    obtain ⟨⟨x0, x1, x2, x3⟩, ⟨x4, x5, x6, x7, x8⟩, xf⟩ := nine (hSw.2.trans (unhide HXV))
    go_simp; all_goals with_reducible rfl
  try simp only [pS]
  refine wpAnyH_ready (rs := [10, 14]) (by kernel_rfl) (by simp) ?_
  refine AllReadyH.cons opn10 (fun K hK => ?_) (AllReadyH.cons opn14 (fun K hK => ?_) (AllReadyH.nil))
  · rw [if_pos (by kernel_rfl)]
    go_simp
    refine ((unhide HCALL) _ (below_drew V)).mono ?_
    rintro e w1 ⟨rfl, hT⟩
    have hWV : W < V.heap.size := Nat.lt_trans hWl hlV
    have hk1 : w1.heap[W]? = V.heap[W]? := hT.same hWV (unhide HKW)
    have hk2 : w1.heap[w.heap.size]? = V.heap[w.heap.size]? := hT.same hlV ((unhide HKB) _ (Nat.le_refl _))
    obtain ⟨o1, r1, n1⟩ := (unhide HTS) _ _ (below_drew V) hT
    have hnb := (n1.keep w.heap.size hlV ((unhide HKA) _ (Nat.le_refl _))).1
    have hl1 := n1.below.size
    have hl1 : V.heap.size ≤ w1.heap.size := hl1
    have HR1 := hide r1
    have HN1 := hide (((Next.of_below (o.all W) ((unhide HBV).trans ((below_drew V).mono (unhide HBV).size)) hNw)).trans n1)
    clear hT r1 n1
    refine hK.out _ _ (⟨hk1, hk2⟩) (fun hHeldN => ?_)
    clear hHeld hK K; have hHeld := hHeldN; clear hHeldN
    try simp only [pS]
    clear hk1 hk2
    refine tkH ?_ opn11 (fun _ _ _ h => h) hHeld ?_ ?_
    rotate_left 1
    · intro wz hSw; (try dsimp only at hSw); go_simp; all_goals with_reducible rfl
    try simp only [pS]
    refine tkH ?_ opn12 (fun _ _ _ h => h) hHeld ?_ ?_
    rotate_left 1
    · intro wz hSw; (try dsimp only at hSw); go_simp; all_goals with_reducible rfl
    try simp only [pS]
    refine tkH ?_ opn13 (fun _ _ _ h => h) hHeld ?_ ?_
    rotate_left 1
    · intro wz hSw; (try dsimp only at hSw); go_simp; all_goals with_reducible rfl
    try simp only [pS]
    refine wpAnyH_ready (rs := [14]) (by kernel_rfl) (by simp) ?_
    refine AllReadyH.cons opn14 (fun K hK => ?_) AllReadyH.nil
    rw [if_pos (by kernel_rfl)]
    go_simp
    have hba : Below w1.heap.size w1 (w1.alloc (.cells #[.int .i64 0, .string ⟨#[]⟩] 59)) := (Below.refl _ _).alloc (Nat.le_refl _) _
    have HZ : Hid ((w1.alloc (.cells #[.int .i64 0, .string ⟨#[]⟩] 59)).heap[w1.heap.size]? = some (.cells #[.int .i64 0, .string ⟨#[]⟩] 59 (0, 0))) := heap_alloc_new _ _
    refine hK.out _ _ (⟨(hba.block W (by omega)).trans hHeld.1, (hba.block w.heap.size (by omega)).trans hHeld.2⟩) (fun hHeldN => ?_)
    clear hHeld hK K; have hHeld := hHeldN; clear hHeldN
    try simp only [pS]
    generalize w1.alloc (.cells #[.int .i64 0, .string ⟨#[]⟩] 59) = W1 at hba HZ hHeld ⊢
    obtain ⟨⟨z0, z1⟩, zf⟩ := two (unhide HZ)
    have zf0 := zf 0
    have zf1 := zf 1
    refine wpAnyH_ready (rs := [15]) (by kernel_rfl) (by simp) ?_
    refine AllReadyH.cons opn15 (fun K hK => ?_) AllReadyH.nil
    rw [if_pos (by kernel_rfl)]
    go_simp
    clear z0 z1 zf zf0 zf1
    obtain ⟨hQ2, hK2⟩ := setTwo (unhide HZ) (.int .i64 rc) (.string rt)
    have hlW1 := hba.size
    refine hK.out _ _ (⟨(hK2.block W (by omega) (by simp; omega)).trans hHeld.1, (hK2.block w.heap.size (by omega) (by simp; omega)).trans hHeld.2⟩) (fun hHeldN => ?_)
    clear hHeld hK K; have hHeld := hHeldN; clear hHeldN
    try simp only [pS]
    generalize (W1.setCell ⟨w1.heap.size, 0, none⟩ (.int .i64 rc)).setCell ⟨w1.heap.size, 1, none⟩ (.string rt) = W2 at hQ2 hK2 hHeld ⊢
    have hbW : Below w1.heap.size w1 W2 := ⟨hK2.os.trans hba.os, hK2.tape.trans hba.tape, hK2.output.trans hba.output, Nat.le_trans hba.size hK2.size, fun j hj => (hK2.block j (Nat.lt_of_lt_of_le hj hba.size) (by simp; omega)).trans (hba.block j hj)⟩
    refine tkH ?_ opn16 (fun _ _ _ h => h) hHeld ?_ ?_
    rotate_left 1
    · intro wz hSw; (try dsimp only at hSw); go_simp; all_goals with_reducible rfl
    try simp only [pS]
    refine wpAnyH_done (by kernel_rfl) ?_ _
    have HX := hide (hHeld.2.trans (unhide HXV))
    have HQ := hide hQ2
    have HR := hide ((unhide HR1).below hbW)
    have HN := hide ((unhide HN1).trans (Next.of_below _ hbW (unhide HR1).size))
    have hne : w.heap.size ≠ w1.heap.size := by omega
    have hlB : w.heap.size < W2.heap.size := (Array.getElem?_eq_some_iff.1 (unhide HX)).1
    clear hQ2 hK2 hbW hba HZ hlW1 hHeld HR1 HN1
    go_wp2
    refine bodyPost_ret (v := .tuple #[]) (by simp [results, Tryz.results99, go_sem]) rfl ?_
    exact ⟨rfl, _, unhide HR, unhide HN⟩
  · rw [if_pos (by kernel_rfl)]
    go_simp
    have hba := below_alloc_drew V (.cells #[.int .i64 0, .string ⟨#[]⟩] 59)
    have HZ := hide (alloc_drew_new V (.cells #[.int .i64 0, .string ⟨#[]⟩] 59))
    have hWV : W < V.heap.size := Nat.lt_trans hWl hlV
    refine hK.out _ _ (⟨hba.block W hWV, hba.block w.heap.size hlV⟩) (fun hHeldN => ?_)
    clear hHeld hK K; have hHeld := hHeldN; clear hHeldN
    try simp only [pS]
    generalize (V.alloc (.cells #[.int .i64 0, .string ⟨#[]⟩] 59)).drew = V1 at hba HZ hHeld ⊢
    have hlZ : V.heap.size < V1.heap.size := (Array.getElem?_eq_some_iff.1 (unhide HZ)).1
    refine wpAnyH_ready (rs := [10]) (by kernel_rfl) (by simp) ?_
    refine AllReadyH.cons opn10 (fun K hK => ?_) AllReadyH.nil
    rw [if_pos (by kernel_rfl)]
    go_simp
    refine ((unhide HCALL) _ hba).mono ?_
    rintro e w1 ⟨rfl, hT⟩
    have hk1 : w1.heap[W]? = V.heap[W]? := (hT.same (Nat.lt_trans hWV hlZ) (unhide HKW)).trans (hba.block W hWV)
    have hk2 : w1.heap[w.heap.size]? = V.heap[w.heap.size]? := (hT.same (Nat.lt_trans hlV hlZ) ((unhide HKB) _ (Nat.le_refl _))).trans (hba.block _ hlV)
    have HZ1 := hide ((hT.same hlZ ((unhide HKB) _ (Nat.le_of_lt hlV))).trans (unhide HZ))
    obtain ⟨o1, r1, n1⟩ := (unhide HTS) _ _ hba hT
    have hnb := (n1.keep w.heap.size (Nat.lt_trans hlV hlZ) ((unhide HKA) _ (Nat.le_refl _))).1
    have hnz := (n1.keep V.heap.size hlZ ((unhide HKA) _ (Nat.le_of_lt hlV))).1
    have hl1 : V1.heap.size ≤ w1.heap.size := n1.below.size
    have HR1 := hide r1
    have HN1 := hide (((Next.of_below (o.all W) ((unhide HBV).trans (hba.mono (unhide HBV).size)) hNw)).trans n1)
    clear hT r1 n1
    refine hK.out _ _ (⟨hk1, hk2⟩) (fun hHeldN => ?_)
    clear hHeld hK K; have hHeld := hHeldN; clear hHeldN
    try simp only [pS]
    clear hk1 hk2
    refine tkH ?_ opn11 (fun _ _ _ h => h) hHeld ?_ ?_
    rotate_left 1
    · intro wz hSw; (try dsimp only at hSw); go_simp; all_goals with_reducible rfl
    try simp only [pS]
    refine tkH ?_ opn12 (fun _ _ _ h => h) hHeld ?_ ?_
    rotate_left 1
    · intro wz hSw; (try dsimp only at hSw); go_simp; all_goals with_reducible rfl
    try simp only [pS]
    refine tkH ?_ opn13 (fun _ _ _ h => h) hHeld ?_ ?_
    rotate_left 1
    · intro wz hSw; (try dsimp only at hSw); go_simp; all_goals with_reducible rfl
    try simp only [pS]
    obtain ⟨⟨z0, z1⟩, zf⟩ := two (unhide HZ1)
    have zf0 := zf 0
    have zf1 := zf 1
    refine wpAnyH_ready (rs := [15]) (by kernel_rfl) (by simp) ?_
    refine AllReadyH.cons opn15 (fun K hK => ?_) AllReadyH.nil
    rw [if_pos (by kernel_rfl)]
    go_simp
    clear z0 z1 zf zf0 zf1
    obtain ⟨hQ2, hK2⟩ := setTwo (unhide HZ1) (.int .i64 rc) (.string rt)
    refine hK.out _ _ (⟨(hK2.block W (by omega) (by simp; omega)).trans hHeld.1, (hK2.block w.heap.size (by omega) (by simp; omega)).trans hHeld.2⟩) (fun hHeldN => ?_)
    clear hHeld hK K; have hHeld := hHeldN; clear hHeldN
    try simp only [pS]
    generalize (w1.setCell ⟨V.heap.size, 0, none⟩ (.int .i64 rc)).setCell ⟨V.heap.size, 1, none⟩ (.string rt) = W2 at hQ2 hK2 hHeld ⊢
    refine tkH ?_ opn16 (fun _ _ _ h => h) hHeld ?_ ?_
    rotate_left 1
    · intro wz hSw; (try dsimp only at hSw); go_simp; all_goals with_reducible rfl
    try simp only [pS]
    refine wpAnyH_done (by kernel_rfl) ?_ _
    have HX := hide (hHeld.2.trans (unhide HXV))
    have HQ := hide hQ2
    have HR := hide ((unhide HR1).set hnz hK2)
    have HN := hide ((unhide HN1).setN hNw (Nat.le_of_lt hlV) hK2)
    have hne : w.heap.size ≠ V.heap.size := by omega
    have hlB : w.heap.size < W2.heap.size := (Array.getElem?_eq_some_iff.1 (unhide HX)).1
    clear hQ2 hK2 hba HZ HZ1 hHeld HR1 HN1
    go_wp2
    refine bodyPost_ret (v := .tuple #[]) (by simp [results, Tryz.results99, go_sem]) rfl ?_
    exact ⟨rfl, _, unhide HR, unhide HN⟩
set_option maxRecDepth 100000 in
set_option maxHeartbeats 4000000 in
theorem serve_ok {N : Nat} {w : World} {W : Nat} {o : WOwn} {A : AW} (h : WRep N w W o A) (p : APkt) (hs : SmallP p) (he : (aCall A.log p.client p.no p.call).err = 0) :
    Calls Tryz.prog 99 #[.pointer (some ⟨W, 0, none⟩), p.val] w fun e w' => e = .returned (.tuple #[]) ∧ WTurn N w W o w' (A.serve p) := by
  obtain ⟨V, hV⟩ : ∃ V, V = w.alloc (.cells #[.bool p.reply, .int .i64 p.client, .int .i64 p.no, .int .i64 p.call.kind, .string p.call.name, .string p.call.dst, .string p.call.text, .int .i64 p.code, .string p.ans] 92) := ⟨_, rfl⟩
  have hBV : Below w.heap.size w V := by rw [hV]; exact (Below.refl _ _).alloc (Nat.le_refl _) _
  have hXV : V.heap[w.heap.size]? = some (.cells #[.bool p.reply, .int .i64 p.client, .int .i64 p.no, .int .i64 p.call.kind, .string p.call.name, .string p.call.dst, .string p.call.text, .int .i64 p.code, .string p.ans] 92 (0, 0)) := by rw [hV]; exact heap_alloc_new _ _
  have hlV : w.heap.size < V.heap.size := (Array.getElem?_eq_some_iff.1 hXV).1
  have hrV := h.below hBV
  have HBV := hide hBV
  have HXV := hide hXV
  have HV := hide hV
  have e1 : A.serve p = ⟨(aCall A.log p.client p.no p.call).log, A.cl, aSend A.ms (p.back (aCall A.log p.client p.no p.call).code (aCall A.log p.client p.no p.call).text)⟩ := by unfold AW.serve; rw [if_pos he]
  rw [e1]
  have HSC := hide hrV.cells.1.1
  have hWl := h.lt
  have hNw := h.size
  have HCALL := hide (fun W' (hb : Below V.heap.size V W') => SCall_any (hrV.below hb).s p.client p.no p.call (by have := h.ss; omega) (hrV.below hb).size hs.max.1 hs.max.2.1 hs.max.2.2)
  have HTS := hide (fun W' w1 (hb : Below V.heap.size V W') (hT : STurned N W' o.S o.own o.lv w1 (aCall A.log p.client p.no p.call).log) => (hrV.below hb).turnS hT (aCall_short h.s.good h.ss _ _ _))
  have HKW : Hid (W ∉ sown o.S o.own o.lv) := h.nW 3 (by omega)
  have HKB : Hid (∀ b, w.heap.size ≤ b → b ∉ sown o.S o.own o.lv) := fun b hb => h.not_part hb (i := 3) (by omega)
  have HKA : Hid (∀ b, w.heap.size ≤ b → b ∉ o.all W) := fun b hb => h.not_new hb
  have hsm := call_small h.s.good p.client p.no p.call
  have HSM : Hid (SmallP (p.back (aCall A.log p.client p.no p.call).code (aCall A.log p.client p.no p.call).text)) := ⟨hs.1, hs.2.1, hs.2.2.1, by show (aCall A.log p.client p.no p.call).text.size ≤ _; omega⟩
  generalize aCall A.log p.client p.no p.call = R at HCALL HTS he HSM ⊢
  obtain ⟨rc, rt, re, rl⟩ := R
  unfold AddRes at HCALL
  dsimp only [APkt.back] at HCALL HTS he HSM ⊢
  generalize o.S = S at HCALL HTS HKW HKB HSC
  generalize o.own = own at HCALL HTS HKW HKB
  generalize o.lv = lv at HCALL HTS HKW HKB
  subst he
  clear h e1 hV hBV hXV hrV hs hsm
  obtain ⟨pr, pc, pn, ⟨pk, pa, pb, pt⟩, pd, pu⟩ := p
  dsimp only [APkt.val] at *
  go_enter Tryz.func99, Tryz.ntmps99
  go_wp2_with fail
  rw [← unhide HV]
  refine wp_region_held_drew (S := (fun wx => wx.heap[W]? = V.heap[W]? ∧ wx.heap[w.heap.size]? = V.heap[w.heap.size]?)) (by kernel_rfl) (⟨rfl, rfl⟩) (fun hHeld => ?_)
  refine tkH ?_ opn0 (fun _ _ _ h => h) hHeld ?_ ?_
  rotate_left 1
  · intro wz hSw; (try dsimp only at hSw); go_simp; all_goals with_reducible rfl
  try simp only [pS]
  refine tkH ?_ opn1 (fun _ _ _ h => h) hHeld ?_ ?_
  rotate_left 1
  · intro wz hSw; (try dsimp only at hSw); go_simp; all_goals with_reducible rfl
  try simp only [pS]
  refine tkH ?_ opn2 (fun _ _ _ h => h) hHeld ?_ ?_
  rotate_left 1
  · intro wz hSw; (try dsimp only at hSw); go_simp; all_goals with_reducible rfl
  try simp only [pS]
  refine tkH ?_ opn3 (fun _ _ _ h => h) hHeld ?_ ?_
  rotate_left 1
  · intro wz hSw; (try dsimp only at hSw)
    have hq : wz.cell? ⟨W, 0, none⟩ = some (.pointer (some ⟨S, 0, none⟩)) := (World.cell?_of_block (w := V) (a := ⟨W, 0, none⟩) hSw.1).trans (unhide HSC)
    go_simp; all_goals with_reducible rfl
  try simp only [pS]
  refine tkH ?_ opn4 (fun _ _ _ h => h) hHeld ?_ ?_
  rotate_left 1
  · intro wz hSw; (try dsimp only at hSw); go_simp; all_goals with_reducible rfl
  try simp only [pS]
  refine tkH ?_ opn5 (fun _ _ _ h => h) hHeld ?_ ?_
  rotate_left 1
  · intro wz hSw; (try dsimp only at hSw)
    obtain ⟨⟨x0, x1, x2, x3⟩, ⟨x4, x5, x6, x7, x8⟩, xf⟩ := nine (hSw.2.trans (unhide HXV))
    go_simp; all_goals with_reducible rfl
  try simp only [pS]
  refine tkH ?_ opn6 (fun _ _ _ h => h) hHeld ?_ ?_
  rotate_left 1
  · intro wz hSw; (try dsimp only at hSw); go_simp; all_goals with_reducible rfl
  try simp only [pS]
  refine tkH ?_ opn7 (fun _ _ _ h => h) hHeld ?_ ?_
  rotate_left 1
  · intro wz hSw; (try dsimp only at hSw)
    obtain ⟨⟨x0, x1, x2, x3⟩, ⟨x4, x5, x6, x7, x8⟩, xf⟩ := nine (hSw.2.trans (unhide HXV))
    go_simp; all_goals with_reducible rfl
  try simp only [pS]
  refine tkH ?_ opn8 (fun _ _ _ h => h) hHeld ?_ ?_
  rotate_left 1
  · intro wz hSw; (try dsimp only at hSw); go_simp; all_goals with_reducible rfl
  try simp only [pS]
  refine tkH ?_ opn9 (fun _ _ _ h => h) hHeld ?_ ?_
  rotate_left 1
  · intro wz hSw; (try dsimp only at hSw)
    obtain ⟨⟨x0, x1, x2, x3⟩, ⟨x4, x5, x6, x7, x8⟩, xf⟩ := nine (hSw.2.trans (unhide HXV))
    go_simp; all_goals with_reducible rfl
  try simp only [pS]
  refine wpAnyH_ready (rs := [10, 14]) (by kernel_rfl) (by simp) ?_
  refine AllReadyH.cons opn10 (fun K hK => ?_) (AllReadyH.cons opn14 (fun K hK => ?_) (AllReadyH.nil))
  · rw [if_pos (by kernel_rfl)]
    go_simp
    refine ((unhide HCALL) _ (below_drew V)).mono ?_
    rintro e w1 ⟨rfl, hT⟩
    have hWV : W < V.heap.size := Nat.lt_trans hWl hlV
    have hk1 : w1.heap[W]? = V.heap[W]? := hT.same hWV (unhide HKW)
    have hk2 : w1.heap[w.heap.size]? = V.heap[w.heap.size]? := hT.same hlV ((unhide HKB) _ (Nat.le_refl _))
    obtain ⟨o1, r1, n1⟩ := (unhide HTS) _ _ (below_drew V) hT
    have hnb := (n1.keep w.heap.size hlV ((unhide HKA) _ (Nat.le_refl _))).1
    have hl1 := n1.below.size
    have hl1 : V.heap.size ≤ w1.heap.size := hl1
    have HR1 := hide r1
    have HN1 := hide (((Next.of_below (o.all W) ((unhide HBV).trans ((below_drew V).mono (unhide HBV).size)) hNw)).trans n1)
    clear hT r1 n1
    refine hK.out _ _ (⟨hk1, hk2⟩) (fun hHeldN => ?_)
    clear hHeld hK K; have hHeld := hHeldN; clear hHeldN
    try simp only [pS]
    clear hk1 hk2
    refine tkH ?_ opn11 (fun _ _ _ h => h) hHeld ?_ ?_
    rotate_left 1
    · intro wz hSw; (try dsimp only at hSw); go_simp; all_goals with_reducible rfl
    try simp only [pS]
    refine tkH ?_ opn12 (fun _ _ _ h => h) hHeld ?_ ?_
    rotate_left 1
    · intro wz hSw; (try dsimp only at hSw); go_simp; all_goals with_reducible rfl
    try simp only [pS]
    refine tkH ?_ opn13 (fun _ _ _ h => h) hHeld ?_ ?_
    rotate_left 1
    · intro wz hSw; (try dsimp only at hSw); go_simp; all_goals with_reducible rfl
    try simp only [pS]
    refine wpAnyH_ready (rs := [14]) (by kernel_rfl) (by simp) ?_
    refine AllReadyH.cons opn14 (fun K hK => ?_) AllReadyH.nil
    rw [if_pos (by kernel_rfl)]
    go_simp
    have hba : Below w1.heap.size w1 (w1.alloc (.cells #[.int .i64 0, .string ⟨#[]⟩] 59)) := (Below.refl _ _).alloc (Nat.le_refl _) _
    have HZ : Hid ((w1.alloc (.cells #[.int .i64 0, .string ⟨#[]⟩] 59)).heap[w1.heap.size]? = some (.cells #[.int .i64 0, .string ⟨#[]⟩] 59 (0, 0))) := heap_alloc_new _ _
    refine hK.out _ _ (⟨(hba.block W (by omega)).trans hHeld.1, (hba.block w.heap.size (by omega)).trans hHeld.2⟩) (fun hHeldN => ?_)
    clear hHeld hK K; have hHeld := hHeldN; clear hHeldN
    try simp only [pS]
    generalize w1.alloc (.cells #[.int .i64 0, .string ⟨#[]⟩] 59) = W1 at hba HZ hHeld ⊢
    obtain ⟨⟨z0, z1⟩, zf⟩ := two (unhide HZ)
    have zf0 := zf 0
    have zf1 := zf 1
    refine wpAnyH_ready (rs := [15]) (by kernel_rfl) (by simp) ?_
    refine AllReadyH.cons opn15 (fun K hK => ?_) AllReadyH.nil
    rw [if_pos (by kernel_rfl)]
    go_simp
    clear z0 z1 zf zf0 zf1
    obtain ⟨hQ2, hK2⟩ := setTwo (unhide HZ) (.int .i64 rc) (.string rt)
    have hlW1 := hba.size
    refine hK.out _ _ (⟨(hK2.block W (by omega) (by simp; omega)).trans hHeld.1, (hK2.block w.heap.size (by omega) (by simp; omega)).trans hHeld.2⟩) (fun hHeldN => ?_)
    clear hHeld hK K; have hHeld := hHeldN; clear hHeldN
    try simp only [pS]
    generalize (W1.setCell ⟨w1.heap.size, 0, none⟩ (.int .i64 rc)).setCell ⟨w1.heap.size, 1, none⟩ (.string rt) = W2 at hQ2 hK2 hHeld ⊢
    have hbW : Below w1.heap.size w1 W2 := ⟨hK2.os.trans hba.os, hK2.tape.trans hba.tape, hK2.output.trans hba.output, Nat.le_trans hba.size hK2.size, fun j hj => (hK2.block j (Nat.lt_of_lt_of_le hj hba.size) (by simp; omega)).trans (hba.block j hj)⟩
    refine tkH ?_ opn16 (fun _ _ _ h => h) hHeld ?_ ?_
    rotate_left 1
    · intro wz hSw; (try dsimp only at hSw); go_simp; all_goals with_reducible rfl
    try simp only [pS]
    refine wpAnyH_done (by kernel_rfl) ?_ _
    have HX := hide (hHeld.2.trans (unhide HXV))
    have HQ := hide hQ2
    have HR := hide ((unhide HR1).below hbW)
    have HN := hide ((unhide HN1).trans (Next.of_below _ hbW (unhide HR1).size))
    have hne : w.heap.size ≠ w1.heap.size := by omega
    have hlB : w.heap.size < W2.heap.size := (Array.getElem?_eq_some_iff.1 (unhide HX)).1
    clear hQ2 hK2 hbW hba HZ hlW1 hHeld HR1 HN1
    go_wp2_with fail
    obtain ⟨⟨x0, x1, x2, x3⟩, ⟨x4, x5, x6, x7, x8⟩, xf⟩ := nine (unhide HX)
    obtain ⟨⟨z0, z1⟩, _⟩ := two (unhide HQ)
    have xf0 := xf 0
    have xf7 := xf 7
    have xf8 := xf 8
    clear xf
    go_region_held3 (fun W' => W'.cell? ⟨w1.heap.size, 0, none⟩ = some (.int .i64 rc) ∧ W'.cell? ⟨w1.heap.size, 1, none⟩ = some (.string rt)) (first | (go_keep; done) | (simp [World.cell?_setCell_far, hne, z0, z1]; done)) (fail)
    all_goals
      obtain ⟨hs1, hs2⟩ := set078 (unhide HX) (.bool true) (.int .i64 rc) (.string rt)
      obtain ⟨W3, hW3⟩ : ∃ W', W' = (((W2.setCell ⟨w.heap.size, 0, none⟩ (.bool true)).setCell ⟨w.heap.size, 7, none⟩ (.int .i64 rc)).setCell ⟨w.heap.size, 8, none⟩ (.string rt)).drew := ⟨_, rfl⟩
      have hP4 : W3.heap[w.heap.size]? = some (.cells #[.bool true, .int .i64 pc, .int .i64 pn, .int .i64 pk, .string pa, .string pb, .string pt, .int .i64 rc, .string rt] 92 (0, 0)) := by rw [hW3]; exact hs1
      have hK4 : Kept [w.heap.size] W2 W3.drew := by rw [hW3]; exact hs2.drewR.drewR
      rw [← hW3]
      have hr4 := (unhide HR).set hnb hK4
      have HN4 := hide ((unhide HN).setN hNw (Nat.le_refl _) hK4)
      have HPS := hide (PSend_any hr4.p ⟨true, pc, pn, ⟨pk, pa, pb, pt⟩, rc, rt⟩ (unhide HSM))
      have HPT := hide (fun w' (hT : PTurn 115 N W3.drew o1.P o1.pv w' (aSend A.ms ⟨true, pc, pn, ⟨pk, pa, pb, pt⟩, rc, rt⟩)) => hr4.turnP hT)
      have hcell := hr4.cells.1.2.2.2.2
      have HPC : Hid (W3.cell? ⟨W, 4, none⟩ = some (.pointer (some ⟨o1.P, 0, none⟩))) := hcell
      have HK4W : Hid (W < W3.heap.size ∧ W ∉ powns o1.P o1.pv) := ⟨hr4.lt, hr4.nW 4 (by omega)⟩
      have HK4X : Hid (w.heap.size < W3.heap.size ∧ w.heap.size ∉ powns o1.P o1.pv) := ⟨(Array.getElem?_eq_some_iff.1 hP4).1, fun hm => hnb (WOwn.mem_all.2 (.inr ⟨4, by omega, hm⟩))⟩
      have HP4 := hide hP4
      dsimp only [APkt.val] at HPS
      generalize o1.P = P at HPS HPT HPC HK4W HK4X
      generalize o1.pv = pv at HPS HPT HK4W HK4X
      clear hs1 hs2 hW3 hP4 hK4 hr4 hcell x0 x1 x2 x3 x4 x5 x6 x7 x8 xf0 xf7 xf8 z0 z1
      go_wp2_with fail
      refine wp_region_held_drew (S := (fun wx => wx.heap[W]? = W3.heap[W]? ∧ wx.heap[w.heap.size]? = W3.heap[w.heap.size]?)) (by kernel_rfl) (⟨rfl, rfl⟩) (fun hHeld => ?_)
      refine tkH ?_ opn0 (fun _ _ _ h => h) hHeld ?_ ?_
      rotate_left 1
      · intro wz hSw; (try dsimp only at hSw); go_simp; all_goals with_reducible rfl
      try simp only [pS]
      refine tkH ?_ opn1 (fun _ _ _ h => h) hHeld ?_ ?_
      rotate_left 1
      · intro wz hSw; (try dsimp only at hSw); go_simp; all_goals with_reducible rfl
      try simp only [pS]
      refine tkH ?_ opn2 (fun _ _ _ h => h) hHeld ?_ ?_
      rotate_left 1
      · intro wz hSw; (try dsimp only at hSw); go_simp; all_goals with_reducible rfl
      try simp only [pS]
      refine tkH ?_ opn3 (fun _ _ _ h => h) hHeld ?_ ?_
      rotate_left 1
      · intro wz hSw; (try dsimp only at hSw)
        have hq : wz.cell? ⟨W, 4, none⟩ = some (.pointer (some ⟨P, 0, none⟩)) := (World.cell?_of_block (w := W3) (a := ⟨W, 4, none⟩) hSw.1).trans (unhide HPC)
        go_simp; all_goals with_reducible rfl
      try simp only [pS]
      refine tkH ?_ opn4 (fun _ _ _ h => h) hHeld ?_ ?_
      rotate_left 1
      · intro wz hSw; (try dsimp only at hSw)
        obtain ⟨⟨x0, x1, x2, x3⟩, ⟨x4, x5, x6, x7, x8⟩, xf⟩ := nine (hSw.2.trans (unhide HP4))
        go_simp; all_goals with_reducible rfl
      try simp only [pS]
      refine wpAnyH_ready (rs := [5]) (by kernel_rfl) (by simp) ?_
      refine AllReadyH.cons opn5 (fun K hK => ?_) AllReadyH.nil
      rw [if_pos (by kernel_rfl)]
      go_simp
      refine (unhide HPS).mono ?_
      rintro e w4 ⟨rfl, hT⟩
      obtain ⟨o4, r4, n4⟩ := (unhide HPT) _ hT
      have hk1 : w4.heap[W]? = W3.heap[W]? := hT.same (unhide HK4W).1 (unhide HK4W).2
      have hk2 : w4.heap[w.heap.size]? = W3.heap[w.heap.size]? := hT.same (unhide HK4X).1 (unhide HK4X).2
      have HFIN := hide (And.intro r4 ((unhide HN4).trans n4))
      clear hT r4 n4
      refine hK.out _ _ (⟨hk1, hk2⟩) (fun hHeldN => ?_)
      clear hHeld hK K; have hHeld := hHeldN; clear hHeldN
      try simp only [pS]
      clear hk1 hk2
      refine wpAnyH_done (by kernel_rfl) ?_ _
      refine bodyPost_end (v := .tuple #[]) (by simp [results, Tryz.results99, go_sem]) rfl ?_
      exact ⟨rfl, _, (unhide HFIN).1, (unhide HFIN).2⟩
  · rw [if_pos (by kernel_rfl)]
    go_simp
    have hba := below_alloc_drew V (.cells #[.int .i64 0, .string ⟨#[]⟩] 59)
    have HZ := hide (alloc_drew_new V (.cells #[.int .i64 0, .string ⟨#[]⟩] 59))
    have hWV : W < V.heap.size := Nat.lt_trans hWl hlV
    refine hK.out _ _ (⟨hba.block W hWV, hba.block w.heap.size hlV⟩) (fun hHeldN => ?_)
    clear hHeld hK K; have hHeld := hHeldN; clear hHeldN
    try simp only [pS]
    generalize (V.alloc (.cells #[.int .i64 0, .string ⟨#[]⟩] 59)).drew = V1 at hba HZ hHeld ⊢
    have hlZ : V.heap.size < V1.heap.size := (Array.getElem?_eq_some_iff.1 (unhide HZ)).1
    refine wpAnyH_ready (rs := [10]) (by kernel_rfl) (by simp) ?_
    refine AllReadyH.cons opn10 (fun K hK => ?_) AllReadyH.nil
    rw [if_pos (by kernel_rfl)]
    go_simp
    refine ((unhide HCALL) _ hba).mono ?_
    rintro e w1 ⟨rfl, hT⟩
    have hk1 : w1.heap[W]? = V.heap[W]? := (hT.same (Nat.lt_trans hWV hlZ) (unhide HKW)).trans (hba.block W hWV)
    have hk2 : w1.heap[w.heap.size]? = V.heap[w.heap.size]? := (hT.same (Nat.lt_trans hlV hlZ) ((unhide HKB) _ (Nat.le_refl _))).trans (hba.block _ hlV)
    have HZ1 := hide ((hT.same hlZ ((unhide HKB) _ (Nat.le_of_lt hlV))).trans (unhide HZ))
    obtain ⟨o1, r1, n1⟩ := (unhide HTS) _ _ hba hT
    have hnb := (n1.keep w.heap.size (Nat.lt_trans hlV hlZ) ((unhide HKA) _ (Nat.le_refl _))).1
    have hnz := (n1.keep V.heap.size hlZ ((unhide HKA) _ (Nat.le_of_lt hlV))).1
    have hl1 : V1.heap.size ≤ w1.heap.size := n1.below.size
    have HR1 := hide r1
    have HN1 := hide (((Next.of_below (o.all W) ((unhide HBV).trans (hba.mono (unhide HBV).size)) hNw)).trans n1)
    clear hT r1 n1
    refine hK.out _ _ (⟨hk1, hk2⟩) (fun hHeldN => ?_)
    clear hHeld hK K; have hHeld := hHeldN; clear hHeldN
    try simp only [pS]
    clear hk1 hk2
    refine tkH ?_ opn11 (fun _ _ _ h => h) hHeld ?_ ?_
    rotate_left 1
    · intro wz hSw; (try dsimp only at hSw); go_simp; all_goals with_reducible rfl
    try simp only [pS]
    refine tkH ?_ opn12 (fun _ _ _ h => h) hHeld ?_ ?_
    rotate_left 1
    · intro wz hSw; (try dsimp only at hSw); go_simp; all_goals with_reducible rfl
    try simp only [pS]
    refine tkH ?_ opn13 (fun _ _ _ h => h) hHeld ?_ ?_
    rotate_left 1
    · intro wz hSw; (try dsimp only at hSw); go_simp; all_goals with_reducible rfl
    try simp only [pS]
    obtain ⟨⟨z0, z1⟩, zf⟩ := two (unhide HZ1)
    have zf0 := zf 0
    have zf1 := zf 1
    refine wpAnyH_ready (rs := [15]) (by kernel_rfl) (by simp) ?_
    refine AllReadyH.cons opn15 (fun K hK => ?_) AllReadyH.nil
    rw [if_pos (by kernel_rfl)]
    go_simp
    clear z0 z1 zf zf0 zf1
    obtain ⟨hQ2, hK2⟩ := setTwo (unhide HZ1) (.int .i64 rc) (.string rt)
    refine hK.out _ _ (⟨(hK2.block W (by omega) (by simp; omega)).trans hHeld.1, (hK2.block w.heap.size (by omega) (by simp; omega)).trans hHeld.2⟩) (fun hHeldN => ?_)
    clear hHeld hK K; have hHeld := hHeldN; clear hHeldN
    try simp only [pS]
    generalize (w1.setCell ⟨V.heap.size, 0, none⟩ (.int .i64 rc)).setCell ⟨V.heap.size, 1, none⟩ (.string rt) = W2 at hQ2 hK2 hHeld ⊢
    refine tkH ?_ opn16 (fun _ _ _ h => h) hHeld ?_ ?_
    rotate_left 1
    · intro wz hSw; (try dsimp only at hSw); go_simp; all_goals with_reducible rfl
    try simp only [pS]
    refine wpAnyH_done (by kernel_rfl) ?_ _
    have HX := hide (hHeld.2.trans (unhide HXV))
    have HQ := hide hQ2
    have HR := hide ((unhide HR1).set hnz hK2)
    have HN := hide ((unhide HN1).setN hNw (Nat.le_of_lt hlV) hK2)
    have hne : w.heap.size ≠ V.heap.size := by omega
    have hlB : w.heap.size < W2.heap.size := (Array.getElem?_eq_some_iff.1 (unhide HX)).1
    clear hQ2 hK2 hba HZ HZ1 hHeld HR1 HN1
    go_wp2_with fail
    obtain ⟨⟨x0, x1, x2, x3⟩, ⟨x4, x5, x6, x7, x8⟩, xf⟩ := nine (unhide HX)
    obtain ⟨⟨z0, z1⟩, _⟩ := two (unhide HQ)
    have xf0 := xf 0
    have xf7 := xf 7
    have xf8 := xf 8
    clear xf
    go_region_held3 (fun W' => W'.cell? ⟨V.heap.size, 0, none⟩ = some (.int .i64 rc) ∧ W'.cell? ⟨V.heap.size, 1, none⟩ = some (.string rt)) (first | (go_keep; done) | (simp [World.cell?_setCell_far, hne, z0, z1]; done)) (fail)
    all_goals
      obtain ⟨hs1, hs2⟩ := set078 (unhide HX) (.bool true) (.int .i64 rc) (.string rt)
      obtain ⟨W3, hW3⟩ : ∃ W', W' = (((W2.setCell ⟨w.heap.size, 0, none⟩ (.bool true)).setCell ⟨w.heap.size, 7, none⟩ (.int .i64 rc)).setCell ⟨w.heap.size, 8, none⟩ (.string rt)).drew := ⟨_, rfl⟩
      have hP4 : W3.heap[w.heap.size]? = some (.cells #[.bool true, .int .i64 pc, .int .i64 pn, .int .i64 pk, .string pa, .string pb, .string pt, .int .i64 rc, .string rt] 92 (0, 0)) := by rw [hW3]; exact hs1
      have hK4 : Kept [w.heap.size] W2 W3.drew := by rw [hW3]; exact hs2.drewR.drewR
      rw [← hW3]
      have hr4 := (unhide HR).set hnb hK4
      have HN4 := hide ((unhide HN).setN hNw (Nat.le_refl _) hK4)
      have HPS := hide (PSend_any hr4.p ⟨true, pc, pn, ⟨pk, pa, pb, pt⟩, rc, rt⟩ (unhide HSM))
      have HPT := hide (fun w' (hT : PTurn 115 N W3.drew o1.P o1.pv w' (aSend A.ms ⟨true, pc, pn, ⟨pk, pa, pb, pt⟩, rc, rt⟩)) => hr4.turnP hT)
      have hcell := hr4.cells.1.2.2.2.2
      have HPC : Hid (W3.cell? ⟨W, 4, none⟩ = some (.pointer (some ⟨o1.P, 0, none⟩))) := hcell
      have HK4W : Hid (W < W3.heap.size ∧ W ∉ powns o1.P o1.pv) := ⟨hr4.lt, hr4.nW 4 (by omega)⟩
      have HK4X : Hid (w.heap.size < W3.heap.size ∧ w.heap.size ∉ powns o1.P o1.pv) := ⟨(Array.getElem?_eq_some_iff.1 hP4).1, fun hm => hnb (WOwn.mem_all.2 (.inr ⟨4, by omega, hm⟩))⟩
      have HP4 := hide hP4
      dsimp only [APkt.val] at HPS
      generalize o1.P = P at HPS HPT HPC HK4W HK4X
      generalize o1.pv = pv at HPS HPT HK4W HK4X
      clear hs1 hs2 hW3 hP4 hK4 hr4 hcell x0 x1 x2 x3 x4 x5 x6 x7 x8 xf0 xf7 xf8 z0 z1
      go_wp2_with fail
      refine wp_region_held_drew (S := (fun wx => wx.heap[W]? = W3.heap[W]? ∧ wx.heap[w.heap.size]? = W3.heap[w.heap.size]?)) (by kernel_rfl) (⟨rfl, rfl⟩) (fun hHeld => ?_)
      refine tkH ?_ opn0 (fun _ _ _ h => h) hHeld ?_ ?_
      rotate_left 1
      · intro wz hSw; (try dsimp only at hSw); go_simp; all_goals with_reducible rfl
      try simp only [pS]
      refine tkH ?_ opn1 (fun _ _ _ h => h) hHeld ?_ ?_
      rotate_left 1
      · intro wz hSw; (try dsimp only at hSw); go_simp; all_goals with_reducible rfl
      try simp only [pS]
      refine tkH ?_ opn2 (fun _ _ _ h => h) hHeld ?_ ?_
      rotate_left 1
      · intro wz hSw; (try dsimp only at hSw); go_simp; all_goals with_reducible rfl
      try simp only [pS]
      refine tkH ?_ opn3 (fun _ _ _ h => h) hHeld ?_ ?_
      rotate_left 1
      · intro wz hSw; (try dsimp only at hSw)
        have hq : wz.cell? ⟨W, 4, none⟩ = some (.pointer (some ⟨P, 0, none⟩)) := (World.cell?_of_block (w := W3) (a := ⟨W, 4, none⟩) hSw.1).trans (unhide HPC)
        go_simp; all_goals with_reducible rfl
      try simp only [pS]
      refine tkH ?_ opn4 (fun _ _ _ h => h) hHeld ?_ ?_
      rotate_left 1
      · intro wz hSw; (try dsimp only at hSw)
        obtain ⟨⟨x0, x1, x2, x3⟩, ⟨x4, x5, x6, x7, x8⟩, xf⟩ := nine (hSw.2.trans (unhide HP4))
        go_simp; all_goals with_reducible rfl
      try simp only [pS]
      refine wpAnyH_ready (rs := [5]) (by kernel_rfl) (by simp) ?_
      refine AllReadyH.cons opn5 (fun K hK => ?_) AllReadyH.nil
      rw [if_pos (by kernel_rfl)]
      go_simp
      refine (unhide HPS).mono ?_
      rintro e w4 ⟨rfl, hT⟩
      obtain ⟨o4, r4, n4⟩ := (unhide HPT) _ hT
      have hk1 : w4.heap[W]? = W3.heap[W]? := hT.same (unhide HK4W).1 (unhide HK4W).2
      have hk2 : w4.heap[w.heap.size]? = W3.heap[w.heap.size]? := hT.same (unhide HK4X).1 (unhide HK4X).2
      have HFIN := hide (And.intro r4 ((unhide HN4).trans n4))
      clear hT r4 n4
      refine hK.out _ _ (⟨hk1, hk2⟩) (fun hHeldN => ?_)
      clear hHeld hK K; have hHeld := hHeldN; clear hHeldN
      try simp only [pS]
      clear hk1 hk2
      refine wpAnyH_done (by kernel_rfl) ?_ _
      refine bodyPost_end (v := .tuple #[]) (by simp [results, Tryz.results99, go_sem]) rfl ?_
      exact ⟨rfl, _, (unhide HFIN).1, (unhide HFIN).2⟩
theorem serve_any {N : Nat} {w : World} {W : Nat} {o : WOwn} {A : AW} (h : WRep N w W o A) (p : APkt) (hs : SmallP p) :
    Calls Tryz.prog 99 #[.pointer (some ⟨W, 0, none⟩), p.val] w fun e w' => e = .returned (.tuple #[]) ∧ WTurn N w W o w' (A.serve p) := by
  by_cases he : (aCall A.log p.client p.no p.call).err = 0
  · exact serve_ok h p hs he
  · exact serve_err h p hs he
set_option maxRecDepth 100000 in
set_option maxHeartbeats 4000000 in
theorem deliver_any {N : Nat} {w : World} {W : Nat} {o : WOwn} {A : AW} (h : WRep N w W o A) (p : APkt) (hs : SmallP p) :
    Calls Tryz.prog 73 #[.pointer (some ⟨W, 0, none⟩), p.val] w fun e w' => e = .returned (.tuple #[]) ∧ WTurn N w W o w' (A.come p) := by
  obtain ⟨V, hV⟩ : ∃ V, V = w.alloc (.cells #[.bool p.reply, .int .i64 p.client, .int .i64 p.no, .int .i64 p.call.kind, .string p.call.name, .string p.call.dst, .string p.call.text, .int .i64 p.code, .string p.ans] 92) := ⟨_, rfl⟩
  have hBV : Below w.heap.size w V := by rw [hV]; exact (Below.refl _ _).alloc (Nat.le_refl _) _
  have hXV : V.heap[w.heap.size]? = some (.cells #[.bool p.reply, .int .i64 p.client, .int .i64 p.no, .int .i64 p.call.kind, .string p.call.name, .string p.call.dst, .string p.call.text, .int .i64 p.code, .string p.ans] 92 (0, 0)) := by rw [hV]; exact heap_alloc_new _ _
  have hlV : w.heap.size < V.heap.size := (Array.getElem?_eq_some_iff.1 hXV).1
  have hrV := h.below hBV
  have HBV := hide hBV
  have HXV := hide hXV
  have HV := hide hV
  cases hr : p.reply
  · have e1 : A.come p = A.serve p := by unfold AW.come; rw [hr]; rfl
    rw [e1]
    have HSV := hide (serve_any hrV p hs)
    have HT := hide (fun w' (hT : WTurn N V W o w' (A.serve p)) => hT.before hBV h.size)
    obtain ⟨⟨x0, x1, x2, x3⟩, ⟨x4, x5, x6, x7, x8⟩, xf⟩ := nine hXV
    generalize A.serve p = A2 at HSV HT ⊢
    clear h e1 hV hBV hXV hrV hs
    obtain ⟨pr, pc, pn, ⟨pk, pa, pb, pt⟩, pd, pu⟩ := p
    dsimp only [APkt.val] at *
    subst hr
    go_enter Tryz.func73, Tryz.ntmps73
    go_wp2_with fail
    rw [← unhide HV]
    refine (unhide HSV).mono ?_
    rintro e w1 ⟨rfl, hT⟩
    have HT3 := hide ((unhide HT) _ hT)
    clear hT
    go_wp2
    refine bodyPost_end (v := .tuple #[]) (by simp [results, Tryz.results73, go_sem]) rfl ?_
    exact ⟨rfl, unhide HT3⟩
  · have e1 : A.come p = A.hear p := by unfold AW.come; rw [hr]; rfl
    rw [e1]
    have HSV := hide (whear_any hrV p hs)
    have HT := hide (fun w' (hT : WTurn N V W o w' (A.hear p)) => hT.before hBV h.size)
    obtain ⟨⟨x0, x1, x2, x3⟩, ⟨x4, x5, x6, x7, x8⟩, xf⟩ := nine hXV
    generalize A.hear p = A2 at HSV HT ⊢
    clear h e1 hV hBV hXV hrV hs
    obtain ⟨pr, pc, pn, ⟨pk, pa, pb, pt⟩, pd, pu⟩ := p
    dsimp only [APkt.val] at *
    subst hr
    go_enter Tryz.func73, Tryz.ntmps73
    go_wp2_with fail
    rw [← unhide HV]
    refine (unhide HSV).mono ?_
    rintro e w1 ⟨rfl, hT⟩
    have HT3 := hide ((unhide HT) _ hT)
    clear hT
    go_wp2
    refine bodyPost_end (v := .tuple #[]) (by simp [results, Tryz.results73, go_sem]) rfl ?_
    exact ⟨rfl, unhide HT3⟩
theorem HRep.set {N : Nat} {w1 w2 : World} {H : Nat} {o : HOwn} {A : AW} (h : HRep N w1 H o A) {b : Nat} (hn : b ∉ o.all H) (hk : Kept [b] w1 w2) : HRep N w2 H o A := h.kept hk fun k h1 h2 => by simp at h2; subst h2; exact hn h1
theorem HRep.not_new {N : Nat} {w : World} {H : Nat} {o : HOwn} {A : AW} (h : HRep N w H o A) {b : Nat} (hb : w.heap.size ≤ b) : b ∉ o.all H := fun hm => by have := (h.all_ge b hm).2; omega
theorem CTurnedH.same {F : Value → Array Value} {tyH : TypeId} {N : Nat} {w w' : World} {K : Nat} {rv : Value} {L : List ARec} (h : CTurnedH F tyH w N K rv w' L) {b : Nat} (hb : b < w.heap.size) (hn : b ≠ K ∧ rv.ownBlock ≠ some b) : w'.heap[b]? = w.heap[b]? := by
  obtain ⟨_, _, hk, _⟩ := h
  exact hk.block b hb (fun hm => by
    rcases List.mem_cons.1 hm with e | e
    · exact hn.1 e
    · exact hn.2 (by simpa using e))
theorem PTurnH.same {F : Value → Array Value} {tyH : TypeId} {N : Nat} {w w' : World} {P : Nat} {v : Value} {ms : List APkt} (h : PTurnH F tyH N w P v w' ms) {b : Nat} (hb : b < w.heap.size) (hn : b ∉ powns P v) : w'.heap[b]? = w.heap[b]? := by
  obtain ⟨v', _, hk, _⟩ := h
  exact hk.block b hb hn
set_option maxRecDepth 100000 in
set_option maxHeartbeats 4000000 in
theorem hcome_hear0 {N : Nat} {w : World} {H : Nat} {o : HOwn} {A : AW} (h : HRep N w H o A) (p : APkt) (hs : SmallP p) (hr : p.reply = true) (hc : p.client = 0) :
    Calls Tryz.prog 55 #[.pointer (some ⟨H, 0, none⟩), p.val] w fun e w' => e = .returned (.tuple #[]) ∧ HTurn N w H o w' (A.come p) := by
  obtain ⟨V, hV⟩ : ∃ V, V = w.alloc (.cells #[.bool p.reply, .int .i64 p.client, .int .i64 p.no, .int .i64 p.call.kind, .string p.call.name, .string p.call.dst, .string p.call.text, .int .i64 p.code, .string p.ans] 92) := ⟨_, rfl⟩
  have hBV : Below w.heap.size w V := by rw [hV]; exact (Below.refl _ _).alloc (Nat.le_refl _) _
  have hXV : V.heap[w.heap.size]? = some (.cells #[.bool p.reply, .int .i64 p.client, .int .i64 p.no, .int .i64 p.call.kind, .string p.call.name, .string p.call.dst, .string p.call.text, .int .i64 p.code, .string p.ans] 92 (0, 0)) := by rw [hV]; exact heap_alloc_new _ _
  have hlV : w.heap.size < V.heap.size := (Array.getElem?_eq_some_iff.1 hXV).1
  have hrV := h.below hBV
  have HBV := hide hBV
  have HXV := hide hXV
  have HV := hide hV
  have e1 : A.come p = ⟨A.log, upd A.cl 0 ((A.cl 0).heard p), A.ms⟩ := by unfold AW.come AW.hear; rw [if_pos hr, hc, if_neg (by omega)]; rfl
  rw [e1]
  have HG : Hid (Calls Tryz.prog 77 #[.pointer (some ⟨H, 1, none⟩), p.val] V.drew fun e w' => e = .returned (.bool ((A.cl 0).hears p)) ∧ GTurnH (FG o A 0) 42 N V.drew H (o.v 0) w' ((A.cl 0).heard p) (o.y 0)) := GHear_anyH ((hrV.below (below_drew V)).guest (n := 0) (by omega)) p hs
  have HT := hide (fun w1 (hT : GTurnH (FG o A 0) 42 N V.drew H (o.v 0) w1 ((A.cl 0).heard p) (o.y 0)) => ((hrV.below (below_drew V)).turnG (n := 0) (by omega) hT ((h.ok 0 (by omega)).heard hs) (by
    unfold ACli.heard
    split
    · intro e; simp at e
    · exact h.keeps 0 (by omega))).before (hBV.trans ((below_drew V).mono hBV.size)) h.size)
  have HNB : Hid (w.heap.size ∉ powns H (o.v 0)) := fun hm => by
    rcases List.mem_cons.1 hm with e | e
    · have := h.lt; omega
    · have := ((h.crow 0 (by omega)).lt _ (by simpa using e)).2; omega
  obtain ⟨⟨x0, x1, x2, x3⟩, ⟨x4, x5, x6, x7, x8⟩, xf⟩ := nine hXV
  generalize (A.cl 0).heard p = c' at HG HT ⊢
  generalize (A.cl 0).hears p = bb at HG
  generalize o.v 0 = vv at HG HT HNB
  generalize o.y 0 = yy at HG HT
  clear h e1 hV hBV hXV hrV hs
  obtain ⟨pr, pc, pn, ⟨pk, pa, pb, pt⟩, pd, pu⟩ := p
  dsimp only [APkt.val] at *
  subst hr hc
  go_enter Tryz.func55, Tryz.ntmps55
  go_wp2_with fail
  rw [← unhide HV]
  clear x0 x1 x2 x3 x4 x5 x6 x7 x8 xf
  refine wp_region_held_drew (S := (fun wx => wx.heap[w.heap.size]? = V.heap[w.heap.size]?)) (by kernel_rfl) (rfl) (fun hHeld => ?_)
  refine tkH ?_ opn0 (fun _ _ _ h => h) hHeld ?_ ?_
  rotate_left 1
  · intro wz hSw; (try dsimp only at hSw); go_simp; all_goals with_reducible rfl
  try simp only [pS]
  refine tkH ?_ opn1 (fun _ _ _ h => h) hHeld ?_ ?_
  rotate_left 1
  · intro wz hSw; (try dsimp only at hSw); go_simp; all_goals with_reducible rfl
  try simp only [pS]
  refine tkH ?_ opn2 (fun _ _ _ h => h) hHeld ?_ ?_
  rotate_left 1
  · intro wz hSw; (try dsimp only at hSw)
    obtain ⟨⟨x0, x1, x2, x3⟩, ⟨x4, x5, x6, x7, x8⟩, xf⟩ := nine (hSw.trans (unhide HXV))
    go_simp; all_goals with_reducible rfl
  try simp only [pS]
  refine tkH ?_ opn3 (fun _ _ _ h => h) hHeld ?_ ?_
  rotate_left 1
  · intro wz hSw; (try dsimp only at hSw); go_simp; all_goals with_reducible rfl
  try simp only [pS]
  refine tkH ?_ opn4 (fun _ _ _ h => h) hHeld ?_ ?_
  rotate_left 1
  · intro wz hSw; (try dsimp only at hSw); go_simp; all_goals with_reducible rfl
  try simp only [pS]
  refine tkH ?_ opn5 (fun _ _ _ h => h) hHeld ?_ ?_
  rotate_left 1
  · intro wz hSw; (try dsimp only at hSw); go_simp; all_goals with_reducible rfl
  try simp only [pS]
  refine tkH ?_ opn6 (fun _ _ _ h => h) hHeld ?_ ?_
  rotate_left 1
  · intro wz hSw; (try dsimp only at hSw)
    obtain ⟨⟨x0, x1, x2, x3⟩, ⟨x4, x5, x6, x7, x8⟩, xf⟩ := nine (hSw.trans (unhide HXV))
    go_simp; all_goals with_reducible rfl
  try simp only [pS]
  refine wpAnyH_ready (rs := [7]) (by kernel_rfl) (by simp) ?_
  refine AllReadyH.cons opn7 (fun K hK => ?_) AllReadyH.nil
  rw [if_pos (by kernel_rfl)]
  go_simp
  refine (unhide HG).mono ?_
  rintro e w1 ⟨rfl, hT⟩
  have hk2 : w1.heap[w.heap.size]? = V.heap[w.heap.size]? := hT.blk hlV (unhide HNB)
  have HT3 := hide ((unhide HT) _ hT)
  clear hT
  refine hK.out _ _ (hk2) (fun hHeldN => ?_)
  clear hHeld hK K; have hHeld := hHeldN; clear hHeldN
  try simp only [pS]
  refine wpAnyH_done (by kernel_rfl) ?_ _
  clear hHeld hk2
  go_wp2
  refine bodyPost_ret (v := .tuple #[]) (by simp [results, Tryz.results55, go_sem]) rfl ?_
  exact ⟨rfl, unhide HT3⟩
set_option maxRecDepth 100000 in
set_option maxHeartbeats 4000000 in
theorem hcome_hear1 {N : Nat} {w : World} {H : Nat} {o : HOwn} {A : AW} (h : HRep N w H o A) (p : APkt) (hs : SmallP p) (hr : p.reply = true) (hc : p.client = 1) :
    Calls Tryz.prog 55 #[.pointer (some ⟨H, 0, none⟩), p.val] w fun e w' => e = .returned (.tuple #[]) ∧ HTurn N w H o w' (A.come p) := by
  obtain ⟨V, hV⟩ : ∃ V, V = w.alloc (.cells #[.bool p.reply, .int .i64 p.client, .int .i64 p.no, .int .i64 p.call.kind, .string p.call.name, .string p.call.dst, .string p.call.text, .int .i64 p.code, .string p.ans] 92) := ⟨_, rfl⟩
  have hBV : Below w.heap.size w V := by rw [hV]; exact (Below.refl _ _).alloc (Nat.le_refl _) _
  have hXV : V.heap[w.heap.size]? = some (.cells #[.bool p.reply, .int .i64 p.client, .int .i64 p.no, .int .i64 p.call.kind, .string p.call.name, .string p.call.dst, .string p.call.text, .int .i64 p.code, .string p.ans] 92 (0, 0)) := by rw [hV]; exact heap_alloc_new _ _
  have hlV : w.heap.size < V.heap.size := (Array.getElem?_eq_some_iff.1 hXV).1
  have hrV := h.below hBV
  have HBV := hide hBV
  have HXV := hide hXV
  have HV := hide hV
  have e1 : A.come p = ⟨A.log, upd A.cl 1 ((A.cl 1).heard p), A.ms⟩ := by unfold AW.come AW.hear; rw [if_pos hr, hc, if_neg (by omega)]; rfl
  rw [e1]
  have HG : Hid (Calls Tryz.prog 77 #[.pointer (some ⟨H, 9, none⟩), p.val] V.drew fun e w' => e = .returned (.bool ((A.cl 1).hears p)) ∧ GTurnH (FG o A 1) 42 N V.drew H (o.v 1) w' ((A.cl 1).heard p) (o.y 1)) := GHear_anyH ((hrV.below (below_drew V)).guest (n := 1) (by omega)) p hs
  have HT := hide (fun w1 (hT : GTurnH (FG o A 1) 42 N V.drew H (o.v 1) w1 ((A.cl 1).heard p) (o.y 1)) => ((hrV.below (below_drew V)).turnG (n := 1) (by omega) hT ((h.ok 1 (by omega)).heard hs) (by
    unfold ACli.heard
    split
    · intro e; simp at e
    · exact h.keeps 1 (by omega))).before (hBV.trans ((below_drew V).mono hBV.size)) h.size)
  have HNB : Hid (w.heap.size ∉ powns H (o.v 1)) := fun hm => by
    rcases List.mem_cons.1 hm with e | e
    · have := h.lt; omega
    · have := ((h.crow 1 (by omega)).lt _ (by simpa using e)).2; omega
  obtain ⟨⟨x0, x1, x2, x3⟩, ⟨x4, x5, x6, x7, x8⟩, xf⟩ := nine hXV
  generalize (A.cl 1).heard p = c' at HG HT ⊢
  generalize (A.cl 1).hears p = bb at HG
  generalize o.v 1 = vv at HG HT HNB
  generalize o.y 1 = yy at HG HT
  clear h e1 hV hBV hXV hrV hs
  obtain ⟨pr, pc, pn, ⟨pk, pa, pb, pt⟩, pd, pu⟩ := p
  dsimp only [APkt.val] at *
  subst hr hc
  go_enter Tryz.func55, Tryz.ntmps55
  go_wp2_with fail
  rw [← unhide HV]
  clear x0 x1 x2 x3 x4 x5 x6 x7 x8 xf
  refine wp_region_held_drew (S := (fun wx => wx.heap[w.heap.size]? = V.heap[w.heap.size]?)) (by kernel_rfl) (rfl) (fun hHeld => ?_)
  refine tkH ?_ opn0 (fun _ _ _ h => h) hHeld ?_ ?_
  rotate_left 1
  · intro wz hSw; (try dsimp only at hSw); go_simp; all_goals with_reducible rfl
  try simp only [pS]
  refine tkH ?_ opn1 (fun _ _ _ h => h) hHeld ?_ ?_
  rotate_left 1
  · intro wz hSw; (try dsimp only at hSw); go_simp; all_goals with_reducible rfl
  try simp only [pS]
  refine tkH ?_ opn2 (fun _ _ _ h => h) hHeld ?_ ?_
  rotate_left 1
  · intro wz hSw; (try dsimp only at hSw)
    obtain ⟨⟨x0, x1, x2, x3⟩, ⟨x4, x5, x6, x7, x8⟩, xf⟩ := nine (hSw.trans (unhide HXV))
    go_simp; all_goals with_reducible rfl
  try simp only [pS]
  refine tkH ?_ opn3 (fun _ _ _ h => h) hHeld ?_ ?_
  rotate_left 1
  · intro wz hSw; (try dsimp only at hSw); go_simp; all_goals with_reducible rfl
  try simp only [pS]
  refine tkH ?_ opn4 (fun _ _ _ h => h) hHeld ?_ ?_
  rotate_left 1
  · intro wz hSw; (try dsimp only at hSw); go_simp; all_goals with_reducible rfl
  try simp only [pS]
  refine tkH ?_ opn5 (fun _ _ _ h => h) hHeld ?_ ?_
  rotate_left 1
  · intro wz hSw; (try dsimp only at hSw); go_simp; all_goals with_reducible rfl
  try simp only [pS]
  refine tkH ?_ opn6 (fun _ _ _ h => h) hHeld ?_ ?_
  rotate_left 1
  · intro wz hSw; (try dsimp only at hSw)
    obtain ⟨⟨x0, x1, x2, x3⟩, ⟨x4, x5, x6, x7, x8⟩, xf⟩ := nine (hSw.trans (unhide HXV))
    go_simp; all_goals with_reducible rfl
  try simp only [pS]
  refine wpAnyH_ready (rs := [7]) (by kernel_rfl) (by simp) ?_
  refine AllReadyH.cons opn7 (fun K hK => ?_) AllReadyH.nil
  rw [if_pos (by kernel_rfl)]
  go_simp
  refine (unhide HG).mono ?_
  rintro e w1 ⟨rfl, hT⟩
  have hk2 : w1.heap[w.heap.size]? = V.heap[w.heap.size]? := hT.blk hlV (unhide HNB)
  have HT3 := hide ((unhide HT) _ hT)
  clear hT
  refine hK.out _ _ (hk2) (fun hHeldN => ?_)
  clear hHeld hK K; have hHeld := hHeldN; clear hHeldN
  try simp only [pS]
  refine wpAnyH_done (by kernel_rfl) ?_ _
  clear hHeld hk2
  go_wp2
  refine bodyPost_ret (v := .tuple #[]) (by simp [results, Tryz.results55, go_sem]) rfl ?_
  exact ⟨rfl, unhide HT3⟩
set_option maxRecDepth 100000 in
set_option maxHeartbeats 4000000 in
theorem hcome_hear2 {N : Nat} {w : World} {H : Nat} {o : HOwn} {A : AW} (h : HRep N w H o A) (p : APkt) (hs : SmallP p) (hr : p.reply = true) (hc : p.client = 2) :
    Calls Tryz.prog 55 #[.pointer (some ⟨H, 0, none⟩), p.val] w fun e w' => e = .returned (.tuple #[]) ∧ HTurn N w H o w' (A.come p) := by
  obtain ⟨V, hV⟩ : ∃ V, V = w.alloc (.cells #[.bool p.reply, .int .i64 p.client, .int .i64 p.no, .int .i64 p.call.kind, .string p.call.name, .string p.call.dst, .string p.call.text, .int .i64 p.code, .string p.ans] 92) := ⟨_, rfl⟩
  have hBV : Below w.heap.size w V := by rw [hV]; exact (Below.refl _ _).alloc (Nat.le_refl _) _
  have hXV : V.heap[w.heap.size]? = some (.cells #[.bool p.reply, .int .i64 p.client, .int .i64 p.no, .int .i64 p.call.kind, .string p.call.name, .string p.call.dst, .string p.call.text, .int .i64 p.code, .string p.ans] 92 (0, 0)) := by rw [hV]; exact heap_alloc_new _ _
  have hlV : w.heap.size < V.heap.size := (Array.getElem?_eq_some_iff.1 hXV).1
  have hrV := h.below hBV
  have HBV := hide hBV
  have HXV := hide hXV
  have HV := hide hV
  have e1 : A.come p = ⟨A.log, upd A.cl 2 ((A.cl 2).heard p), A.ms⟩ := by unfold AW.come AW.hear; rw [if_pos hr, hc, if_neg (by omega)]; rfl
  rw [e1]
  have HG : Hid (Calls Tryz.prog 77 #[.pointer (some ⟨H, 17, none⟩), p.val] V.drew fun e w' => e = .returned (.bool ((A.cl 2).hears p)) ∧ GTurnH (FG o A 2) 42 N V.drew H (o.v 2) w' ((A.cl 2).heard p) (o.y 2)) := GHear_anyH ((hrV.below (below_drew V)).guest (n := 2) (by omega)) p hs
  have HT := hide (fun w1 (hT : GTurnH (FG o A 2) 42 N V.drew H (o.v 2) w1 ((A.cl 2).heard p) (o.y 2)) => ((hrV.below (below_drew V)).turnG (n := 2) (by omega) hT ((h.ok 2 (by omega)).heard hs) (by
    unfold ACli.heard
    split
    · intro e; simp at e
    · exact h.keeps 2 (by omega))).before (hBV.trans ((below_drew V).mono hBV.size)) h.size)
  have HNB : Hid (w.heap.size ∉ powns H (o.v 2)) := fun hm => by
    rcases List.mem_cons.1 hm with e | e
    · have := h.lt; omega
    · have := ((h.crow 2 (by omega)).lt _ (by simpa using e)).2; omega
  obtain ⟨⟨x0, x1, x2, x3⟩, ⟨x4, x5, x6, x7, x8⟩, xf⟩ := nine hXV
  generalize (A.cl 2).heard p = c' at HG HT ⊢
  generalize (A.cl 2).hears p = bb at HG
  generalize o.v 2 = vv at HG HT HNB
  generalize o.y 2 = yy at HG HT
  clear h e1 hV hBV hXV hrV hs
  obtain ⟨pr, pc, pn, ⟨pk, pa, pb, pt⟩, pd, pu⟩ := p
  dsimp only [APkt.val] at *
  subst hr hc
  go_enter Tryz.func55, Tryz.ntmps55
  go_wp2_with fail
  rw [← unhide HV]
  clear x0 x1 x2 x3 x4 x5 x6 x7 x8 xf
  refine wp_region_held_drew (S := (fun wx => wx.heap[w.heap.size]? = V.heap[w.heap.size]?)) (by kernel_rfl) (rfl) (fun hHeld => ?_)
  refine tkH ?_ opn0 (fun _ _ _ h => h) hHeld ?_ ?_
  rotate_left 1
  · intro wz hSw; (try dsimp only at hSw); go_simp; all_goals with_reducible rfl
  try simp only [pS]
  refine tkH ?_ opn1 (fun _ _ _ h => h) hHeld ?_ ?_
  rotate_left 1
  · intro wz hSw; (try dsimp only at hSw); go_simp; all_goals with_reducible rfl
  try simp only [pS]
  refine tkH ?_ opn2 (fun _ _ _ h => h) hHeld ?_ ?_
  rotate_left 1
  · intro wz hSw; (try dsimp only at hSw)
    obtain ⟨⟨x0, x1, x2, x3⟩, ⟨x4, x5, x6, x7, x8⟩, xf⟩ := nine (hSw.trans (unhide HXV))
    go_simp; all_goals with_reducible rfl
  try simp only [pS]
  refine tkH ?_ opn3 (fun _ _ _ h => h) hHeld ?_ ?_
  rotate_left 1
  · intro wz hSw; (try dsimp only at hSw); go_simp; all_goals with_reducible rfl
  try simp only [pS]
  refine tkH ?_ opn4 (fun _ _ _ h => h) hHeld ?_ ?_
  rotate_left 1
  · intro wz hSw; (try dsimp only at hSw); go_simp; all_goals with_reducible rfl
  try simp only [pS]
  refine tkH ?_ opn5 (fun _ _ _ h => h) hHeld ?_ ?_
  rotate_left 1
  · intro wz hSw; (try dsimp only at hSw); go_simp; all_goals with_reducible rfl
  try simp only [pS]
  refine tkH ?_ opn6 (fun _ _ _ h => h) hHeld ?_ ?_
  rotate_left 1
  · intro wz hSw; (try dsimp only at hSw)
    obtain ⟨⟨x0, x1, x2, x3⟩, ⟨x4, x5, x6, x7, x8⟩, xf⟩ := nine (hSw.trans (unhide HXV))
    go_simp; all_goals with_reducible rfl
  try simp only [pS]
  refine wpAnyH_ready (rs := [7]) (by kernel_rfl) (by simp) ?_
  refine AllReadyH.cons opn7 (fun K hK => ?_) AllReadyH.nil
  rw [if_pos (by kernel_rfl)]
  go_simp
  refine (unhide HG).mono ?_
  rintro e w1 ⟨rfl, hT⟩
  have hk2 : w1.heap[w.heap.size]? = V.heap[w.heap.size]? := hT.blk hlV (unhide HNB)
  have HT3 := hide ((unhide HT) _ hT)
  clear hT
  refine hK.out _ _ (hk2) (fun hHeldN => ?_)
  clear hHeld hK K; have hHeld := hHeldN; clear hHeldN
  try simp only [pS]
  refine wpAnyH_done (by kernel_rfl) ?_ _
  clear hHeld hk2
  go_wp2
  refine bodyPost_ret (v := .tuple #[]) (by simp [results, Tryz.results55, go_sem]) rfl ?_
  exact ⟨rfl, unhide HT3⟩
set_option maxRecDepth 100000 in
set_option maxHeartbeats 4000000 in
theorem hcome_far {N : Nat} {w : World} {H : Nat} {o : HOwn} {A : AW} (h : HRep N w H o A) (p : APkt) (hs : SmallP p) (hr : p.reply = true) (hc : p.client < 0 ∨ 2 < p.client) :
    Calls Tryz.prog 55 #[.pointer (some ⟨H, 0, none⟩), p.val] w fun e w' => e = .returned (.tuple #[]) ∧ HTurn N w H o w' (A.come p) := by
  obtain ⟨V, hV⟩ : ∃ V, V = w.alloc (.cells #[.bool p.reply, .int .i64 p.client, .int .i64 p.no, .int .i64 p.call.kind, .string p.call.name, .string p.call.dst, .string p.call.text, .int .i64 p.code, .string p.ans] 92) := ⟨_, rfl⟩
  have hBV : Below w.heap.size w V := by rw [hV]; exact (Below.refl _ _).alloc (Nat.le_refl _) _
  have hXV : V.heap[w.heap.size]? = some (.cells #[.bool p.reply, .int .i64 p.client, .int .i64 p.no, .int .i64 p.call.kind, .string p.call.name, .string p.call.dst, .string p.call.text, .int .i64 p.code, .string p.ans] 92 (0, 0)) := by rw [hV]; exact heap_alloc_new _ _
  have hlV : w.heap.size < V.heap.size := (Array.getElem?_eq_some_iff.1 hXV).1
  have hrV := h.below hBV
  have HBV := hide hBV
  have HXV := hide hXV
  have HV := hide hV
  have e1 : A.come p = A := by unfold AW.come AW.hear; rw [if_pos hr, if_pos hc]
  rw [e1]
  have HT := hide (HTurn.of_below h hBV)
  obtain ⟨⟨x0, x1, x2, x3⟩, ⟨x4, x5, x6, x7, x8⟩, xf⟩ := nine hXV
  clear h e1 hV hBV hXV hrV hs
  obtain ⟨pr, pc, pn, ⟨pk, pa, pb, pt⟩, pd, pu⟩ := p
  dsimp only [APkt.val] at *
  subst hr
  by_cases h0 : pc < 0
  · have h1 : ¬ (0 : Int) ≤ pc := by omega
    clear hc
    go_enter Tryz.func55, Tryz.ntmps55
    go_wp2_with fail
    rw [← unhide HV]
    go_wp2
    refine bodyPost_ret (v := .tuple #[]) (by simp [results, Tryz.results55, go_sem]) rfl ?_
    exact ⟨rfl, unhide HT⟩
  · have h1 : (0 : Int) ≤ pc := by omega
    have h2 : ¬ pc < 3 := by omega
    clear hc h0
    go_enter Tryz.func55, Tryz.ntmps55
    go_wp2_with fail
    rw [← unhide HV]
    go_wp2
    refine bodyPost_ret (v := .tuple #[]) (by simp [results, Tryz.results55, go_sem]) rfl ?_
    exact ⟨rfl, unhide HT⟩
set_option maxRecDepth 100000 in
set_option maxHeartbeats 4000000 in
theorem hcome_err {N : Nat} {w : World} {H : Nat} {o : HOwn} {A : AW} (h : HRep N w H o A) (p : APkt) (hs : SmallP p) (hr : p.reply = false) (he : (aCall A.log p.client p.no p.call).err ≠ 0) :
    Calls Tryz.prog 55 #[.pointer (some ⟨H, 0, none⟩), p.val] w fun e w' => e = .returned (.tuple #[]) ∧ HTurn N w H o w' (A.come p) := by
  obtain ⟨V, hV⟩ : ∃ V, V = w.alloc (.cells #[.bool p.reply, .int .i64 p.client, .int .i64 p.no, .int .i64 p.call.kind, .string p.call.name, .string p.call.dst, .string p.call.text, .int .i64 p.code, .string p.ans] 92) := ⟨_, rfl⟩
  have hBV : Below w.heap.size w V := by rw [hV]; exact (Below.refl _ _).alloc (Nat.le_refl _) _
  have hXV : V.heap[w.heap.size]? = some (.cells #[.bool p.reply, .int .i64 p.client, .int .i64 p.no, .int .i64 p.call.kind, .string p.call.name, .string p.call.dst, .string p.call.text, .int .i64 p.code, .string p.ans] 92 (0, 0)) := by rw [hV]; exact heap_alloc_new _ _
  have hlV : w.heap.size < V.heap.size := (Array.getElem?_eq_some_iff.1 hXV).1
  have hrV := h.below hBV
  have HBV := hide hBV
  have HXV := hide hXV
  have HV := hide hV
  have e0 : A.come p = A.serve p := by unfold AW.come; rw [hr]; rfl
  rw [e0]
  clear e0
  have e1 : A.serve p = ⟨(aCall A.log p.client p.no p.call).log, A.cl, A.ms⟩ := by unfold AW.serve; rw [if_neg he]
  rw [e1]
  have hWl := h.lt
  have hNw := h.size
  have HCALL := hide (fun W' (hb : Below V.heap.size V W') => CCall_anyH N H o.rv A.log p.client p.no p.call W' (hrV.below hb).chest h.good h.ss hs.max.1 hs.max.2.1 hs.max.2.2)
  have HTS := hide (fun W' w1 (hb : Below V.heap.size V W') (hT : CTurnedH (FS o A) 42 W' N H o.rv w1 (aCall A.log p.client p.no p.call).log) => (hrV.below hb).turnS hT (aCall_good h.good _ _ _) (aCall_short h.good h.ss _ _ _))
  have HKB : Hid (∀ b, w.heap.size ≤ b → b ≠ H ∧ o.rv.ownBlock ≠ some b) := fun b hb => ⟨by omega, fun e => by have := (h.srow.lt b e).2; omega⟩
  have HKA : Hid (∀ b, w.heap.size ≤ b → b ∉ o.all H) := fun b hb => h.not_new hb
  have hsm := call_small h.good p.client p.no p.call
  have HSM : Hid (SmallP (p.back (aCall A.log p.client p.no p.call).code (aCall A.log p.client p.no p.call).text)) := ⟨hs.1, hs.2.1, hs.2.2.1, by show (aCall A.log p.client p.no p.call).text.size ≤ _; omega⟩
  generalize aCall A.log p.client p.no p.call = R at HCALL HTS he HSM ⊢
  obtain ⟨rc, rt, re, rl⟩ := R
  unfold CCResH at HCALL
  dsimp only [APkt.back] at HCALL HTS he HSM ⊢
  generalize ((logB rl).length : Int) - ((logB A.log).length : Int) = dl at HCALL
  generalize o.rv = rv at HCALL HTS HKB
  obtain ⟨x0, xf⟩ : V.cell? ⟨w.heap.size, 0, none⟩ = some (.bool p.reply) ∧ V.frozen? ⟨w.heap.size, 0, none⟩ = false := ⟨(nine hXV).1.1, (nine hXV).2.2 0⟩
  have heb : (re == 0) = false := by simpa using he
  clear h e1 hV hBV hXV hrV hs hsm
  clear he
  obtain ⟨pr, pc, pn, ⟨pk, pa, pb, pt⟩, pd, pu⟩ := p
  dsimp only [APkt.val] at *
  subst hr
  go_enter Tryz.func55, Tryz.ntmps55
  go_wp2_with fail
  rw [← unhide HV]
  clear x0 xf
  refine wp_region_held_drew (S := (fun wx => wx.heap[w.heap.size]? = V.heap[w.heap.size]?)) (by kernel_rfl) (rfl) (fun hHeld => ?_)
  refine tkH ?_ opn0 (fun _ _ _ h => h) hHeld ?_ ?_
  rotate_left 1
  · intro wz hSw; (try dsimp only at hSw); go_simp; all_goals with_reducible rfl
  try simp only [pS]
  refine tkH ?_ opn1 (fun _ _ _ h => h) hHeld ?_ ?_
  rotate_left 1
  · intro wz hSw; (try dsimp only at hSw); go_simp; all_goals with_reducible rfl
  try simp only [pS]
  refine tkH ?_ opn2 (fun _ _ _ h => h) hHeld ?_ ?_
  rotate_left 1
  · intro wz hSw; (try dsimp only at hSw); go_simp; all_goals with_reducible rfl
  try simp only [pS]
  refine tkH ?_ opn3 (fun _ _ _ h => h) hHeld ?_ ?_
  rotate_left 1
  · intro wz hSw; (try dsimp only at hSw); go_simp; all_goals with_reducible rfl
  try simp only [pS]
  refine tkH ?_ opn4 (fun _ _ _ h => h) hHeld ?_ ?_
  rotate_left 1
  · intro wz hSw; (try dsimp only at hSw)
    obtain ⟨⟨x0, x1, x2, x3⟩, ⟨x4, x5, x6, x7, x8⟩, xf⟩ := nine (hSw.trans (unhide HXV))
    go_simp; all_goals with_reducible rfl
  try simp only [pS]
  refine tkH ?_ opn5 (fun _ _ _ h => h) hHeld ?_ ?_
  rotate_left 1
  · intro wz hSw; (try dsimp only at hSw); go_simp; all_goals with_reducible rfl
  try simp only [pS]
  refine tkH ?_ opn6 (fun _ _ _ h => h) hHeld ?_ ?_
  rotate_left 1
  · intro wz hSw; (try dsimp only at hSw)
    obtain ⟨⟨x0, x1, x2, x3⟩, ⟨x4, x5, x6, x7, x8⟩, xf⟩ := nine (hSw.trans (unhide HXV))
    go_simp; all_goals with_reducible rfl
  try simp only [pS]
  refine tkH ?_ opn7 (fun _ _ _ h => h) hHeld ?_ ?_
  rotate_left 1
  · intro wz hSw; (try dsimp only at hSw); go_simp; all_goals with_reducible rfl
  try simp only [pS]
  refine tkH ?_ opn8 (fun _ _ _ h => h) hHeld ?_ ?_
  rotate_left 1
  · intro wz hSw; (try dsimp only at hSw)
    obtain ⟨⟨x0, x1, x2, x3⟩, ⟨x4, x5, x6, x7, x8⟩, xf⟩ := nine (hSw.trans (unhide HXV))
    go_simp; all_goals with_reducible rfl
  try simp only [pS]
  refine wpAnyH_ready (rs := [9, 14]) (by kernel_rfl) (by simp) ?_
  refine AllReadyH.cons opn9 (fun K hK => ?_) (AllReadyH.cons opn14 (fun K hK => ?_) (AllReadyH.nil))
  · rw [if_pos (by kernel_rfl)]
    go_simp
    refine ((unhide HCALL) _ (below_drew V)).mono ?_
    rintro e w1 ⟨rfl, hT⟩
    have hk2 : w1.heap[w.heap.size]? = V.heap[w.heap.size]? := hT.same hlV ((unhide HKB) _ (Nat.le_refl _))
    obtain ⟨o1, r1, n1⟩ := (unhide HTS) _ _ (below_drew V) hT
    have hnb := (n1.keep w.heap.size hlV ((unhide HKA) _ (Nat.le_refl _))).1
    have hl1 := n1.below.size
    have hl1 : V.heap.size ≤ w1.heap.size := hl1
    have hnq1 := r1.not_new (Nat.le_refl _)
    have HR1 := hide r1
    have HN1 := hide (((Next.of_below (o.all H) ((unhide HBV).trans ((below_drew V).mono (unhide HBV).size)) hNw)).trans n1)
    clear hT r1 n1
    refine hK.out _ _ (hk2) (fun hHeldN => ?_)
    clear hHeld hK K; have hHeld := hHeldN; clear hHeldN
    try simp only [pS]
    clear hk2
    refine tkH ?_ opn10 (fun _ _ _ h => h) hHeld ?_ ?_
    rotate_left 1
    · intro wz hSw; (try dsimp only at hSw); go_simp; all_goals with_reducible rfl
    try simp only [pS]
    refine tkH ?_ opn11 (fun _ _ _ h => h) hHeld ?_ ?_
    rotate_left 1
    · intro wz hSw; (try dsimp only at hSw); go_simp; all_goals with_reducible rfl
    try simp only [pS]
    refine tkH ?_ opn12 (fun _ _ _ h => h) hHeld ?_ ?_
    rotate_left 1
    · intro wz hSw; (try dsimp only at hSw); go_simp; all_goals with_reducible rfl
    try simp only [pS]
    refine tkH ?_ opn13 (fun _ _ _ h => h) hHeld ?_ ?_
    rotate_left 1
    · intro wz hSw; (try dsimp only at hSw); go_simp; all_goals with_reducible rfl
    try simp only [pS]
    refine wpAnyH_ready (rs := [14]) (by kernel_rfl) (by simp) ?_
    refine AllReadyH.cons opn14 (fun K hK => ?_) AllReadyH.nil
    rw [if_pos (by kernel_rfl)]
    go_simp
    have hba : Below w1.heap.size w1 (w1.alloc (.cells #[.int .i64 0, .string ⟨#[]⟩] 59)) := (Below.refl _ _).alloc (Nat.le_refl _) _
    have HZ : Hid ((w1.alloc (.cells #[.int .i64 0, .string ⟨#[]⟩] 59)).heap[w1.heap.size]? = some (.cells #[.int .i64 0, .string ⟨#[]⟩] 59 (0, 0))) := heap_alloc_new _ _
    refine hK.out _ _ ((hba.block w.heap.size (by omega)).trans hHeld) (fun hHeldN => ?_)
    clear hHeld hK K; have hHeld := hHeldN; clear hHeldN
    try simp only [pS]
    generalize w1.alloc (.cells #[.int .i64 0, .string ⟨#[]⟩] 59) = W1 at hba HZ hHeld ⊢
    obtain ⟨⟨z0, z1⟩, zf⟩ := two (unhide HZ)
    have zf0 := zf 0
    have zf1 := zf 1
    refine wpAnyH_ready (rs := [15]) (by kernel_rfl) (by simp) ?_
    refine AllReadyH.cons opn15 (fun K hK => ?_) AllReadyH.nil
    rw [if_pos (by kernel_rfl)]
    go_simp
    clear z0 z1 zf zf0 zf1
    obtain ⟨hQ2, hK2⟩ := setTwo (unhide HZ) (.int .i64 rc) (.string rt)
    have hlW1 := hba.size
    refine hK.out _ _ ((hK2.block w.heap.size (by omega) (by simp; omega)).trans hHeld) (fun hHeldN => ?_)
    clear hHeld hK K; have hHeld := hHeldN; clear hHeldN
    try simp only [pS]
    generalize (W1.setCell ⟨w1.heap.size, 0, none⟩ (.int .i64 rc)).setCell ⟨w1.heap.size, 1, none⟩ (.string rt) = W2 at hQ2 hK2 hHeld ⊢
    have hbW : Below w1.heap.size w1 W2 := ⟨hK2.os.trans hba.os, hK2.tape.trans hba.tape, hK2.output.trans hba.output, Nat.le_trans hba.size hK2.size, fun j hj => (hK2.block j (Nat.lt_of_lt_of_le hj hba.size) (by simp; omega)).trans (hba.block j hj)⟩
    refine tkH ?_ opn16 (fun _ _ _ h => h) hHeld ?_ ?_
    rotate_left 1
    · intro wz hSw; (try dsimp only at hSw); go_simp; all_goals with_reducible rfl
    try simp only [pS]
    refine tkH ?_ opn17 (fun _ _ _ h => h) hHeld ?_ ?_
    rotate_left 1
    · intro wz hSw; (try dsimp only at hSw); go_simp; all_goals with_reducible rfl
    try simp only [pS]
    refine wpAnyH_done (by kernel_rfl) ?_ _
    have HX := hide (hHeld.trans (unhide HXV))
    have HQ := hide hQ2
    have HR := hide ((unhide HR1).below hbW)
    have HN := hide ((unhide HN1).trans (Next.of_below _ hbW (unhide HR1).size))
    clear hQ2 hK2 hbW hba HZ hlW1 hHeld HR1 HN1
    go_wp2
    refine bodyPost_end (v := .tuple #[]) (by simp [results, Tryz.results55, go_sem]) rfl ?_
    exact ⟨rfl, _, unhide HR, unhide HN⟩
  · rw [if_pos (by kernel_rfl)]
    go_simp
    have hba := below_alloc_drew V (.cells #[.int .i64 0, .string ⟨#[]⟩] 59)
    have HZ := hide (alloc_drew_new V (.cells #[.int .i64 0, .string ⟨#[]⟩] 59))
    refine hK.out _ _ (hba.block w.heap.size hlV) (fun hHeldN => ?_)
    clear hHeld hK K; have hHeld := hHeldN; clear hHeldN
    try simp only [pS]
    generalize (V.alloc (.cells #[.int .i64 0, .string ⟨#[]⟩] 59)).drew = V1 at hba HZ hHeld ⊢
    have hlZ : V.heap.size < V1.heap.size := (Array.getElem?_eq_some_iff.1 (unhide HZ)).1
    refine wpAnyH_ready (rs := [9]) (by kernel_rfl) (by simp) ?_
    refine AllReadyH.cons opn9 (fun K hK => ?_) AllReadyH.nil
    rw [if_pos (by kernel_rfl)]
    go_simp
    refine ((unhide HCALL) _ hba).mono ?_
    rintro e w1 ⟨rfl, hT⟩
    have hk2 : w1.heap[w.heap.size]? = V.heap[w.heap.size]? := (hT.same (Nat.lt_trans hlV hlZ) ((unhide HKB) _ (Nat.le_refl _))).trans (hba.block _ hlV)
    have HZ1 := hide ((hT.same hlZ ((unhide HKB) _ (Nat.le_of_lt hlV))).trans (unhide HZ))
    obtain ⟨o1, r1, n1⟩ := (unhide HTS) _ _ hba hT
    have hnb := (n1.keep w.heap.size (Nat.lt_trans hlV hlZ) ((unhide HKA) _ (Nat.le_refl _))).1
    have hnz := (n1.keep V.heap.size hlZ ((unhide HKA) _ (Nat.le_of_lt hlV))).1
    have hl1 : V1.heap.size ≤ w1.heap.size := n1.below.size
    have HR1 := hide r1
    have HN1 := hide (((Next.of_below (o.all H) ((unhide HBV).trans (hba.mono (unhide HBV).size)) hNw)).trans n1)
    clear hT r1 n1
    refine hK.out _ _ (hk2) (fun hHeldN => ?_)
    clear hHeld hK K; have hHeld := hHeldN; clear hHeldN
    try simp only [pS]
    clear hk2
    refine tkH ?_ opn10 (fun _ _ _ h => h) hHeld ?_ ?_
    rotate_left 1
    · intro wz hSw; (try dsimp only at hSw); go_simp; all_goals with_reducible rfl
    try simp only [pS]
    refine tkH ?_ opn11 (fun _ _ _ h => h) hHeld ?_ ?_
    rotate_left 1
    · intro wz hSw; (try dsimp only at hSw); go_simp; all_goals with_reducible rfl
    try simp only [pS]
    refine tkH ?_ opn12 (fun _ _ _ h => h) hHeld ?_ ?_
    rotate_left 1
    · intro wz hSw; (try dsimp only at hSw); go_simp; all_goals with_reducible rfl
    try simp only [pS]
    refine tkH ?_ opn13 (fun _ _ _ h => h) hHeld ?_ ?_
    rotate_left 1
    · intro wz hSw; (try dsimp only at hSw); go_simp; all_goals with_reducible rfl
    try simp only [pS]
    obtain ⟨⟨z0, z1⟩, zf⟩ := two (unhide HZ1)
    have zf0 := zf 0
    have zf1 := zf 1
    refine wpAnyH_ready (rs := [15]) (by kernel_rfl) (by simp) ?_
    refine AllReadyH.cons opn15 (fun K hK => ?_) AllReadyH.nil
    rw [if_pos (by kernel_rfl)]
    go_simp
    clear z0 z1 zf zf0 zf1
    obtain ⟨hQ2, hK2⟩ := setTwo (unhide HZ1) (.int .i64 rc) (.string rt)
    refine hK.out _ _ ((hK2.block w.heap.size (by omega) (by simp; omega)).trans hHeld) (fun hHeldN => ?_)
    clear hHeld hK K; have hHeld := hHeldN; clear hHeldN
    try simp only [pS]
    generalize (w1.setCell ⟨V.heap.size, 0, none⟩ (.int .i64 rc)).setCell ⟨V.heap.size, 1, none⟩ (.string rt) = W2 at hQ2 hK2 hHeld ⊢
    refine tkH ?_ opn16 (fun _ _ _ h => h) hHeld ?_ ?_
    rotate_left 1
    · intro wz hSw; (try dsimp only at hSw); go_simp; all_goals with_reducible rfl
    try simp only [pS]
    refine tkH ?_ opn17 (fun _ _ _ h => h) hHeld ?_ ?_
    rotate_left 1
    · intro wz hSw; (try dsimp only at hSw); go_simp; all_goals with_reducible rfl
    try simp only [pS]
    refine wpAnyH_done (by kernel_rfl) ?_ _
    have HX := hide (hHeld.trans (unhide HXV))
    have HQ := hide hQ2
    have HR := hide ((unhide HR1).set hnz hK2)
    have HN := hide ((unhide HN1).setN hNw (Nat.le_of_lt hlV) hK2)
    clear hQ2 hK2 hba HZ HZ1 hHeld HR1 HN1
    go_wp2
    refine bodyPost_end (v := .tuple #[]) (by simp [results, Tryz.results55, go_sem]) rfl ?_
    exact ⟨rfl, _, unhide HR, unhide HN⟩
set_option maxRecDepth 100000 in
set_option maxHeartbeats 4000000 in
theorem hcome_ok {N : Nat} {w : World} {H : Nat} {o : HOwn} {A : AW} (h : HRep N w H o A) (p : APkt) (hs : SmallP p) (hr : p.reply = false) (he : (aCall A.log p.client p.no p.call).err = 0) :
    Calls Tryz.prog 55 #[.pointer (some ⟨H, 0, none⟩), p.val] w fun e w' => e = .returned (.tuple #[]) ∧ HTurn N w H o w' (A.come p) := by
  obtain ⟨V, hV⟩ : ∃ V, V = w.alloc (.cells #[.bool p.reply, .int .i64 p.client, .int .i64 p.no, .int .i64 p.call.kind, .string p.call.name, .string p.call.dst, .string p.call.text, .int .i64 p.code, .string p.ans] 92) := ⟨_, rfl⟩
  have hBV : Below w.heap.size w V := by rw [hV]; exact (Below.refl _ _).alloc (Nat.le_refl _) _
  have hXV : V.heap[w.heap.size]? = some (.cells #[.bool p.reply, .int .i64 p.client, .int .i64 p.no, .int .i64 p.call.kind, .string p.call.name, .string p.call.dst, .string p.call.text, .int .i64 p.code, .string p.ans] 92 (0, 0)) := by rw [hV]; exact heap_alloc_new _ _
  have hlV : w.heap.size < V.heap.size := (Array.getElem?_eq_some_iff.1 hXV).1
  have hrV := h.below hBV
  have HBV := hide hBV
  have HXV := hide hXV
  have HV := hide hV
  have e0 : A.come p = A.serve p := by unfold AW.come; rw [hr]; rfl
  rw [e0]
  clear e0
  have e1 : A.serve p = ⟨(aCall A.log p.client p.no p.call).log, A.cl, aSend A.ms (p.back (aCall A.log p.client p.no p.call).code (aCall A.log p.client p.no p.call).text)⟩ := by unfold AW.serve; rw [if_pos he]
  rw [e1]
  have hWl := h.lt
  have hNw := h.size
  have HCALL := hide (fun W' (hb : Below V.heap.size V W') => CCall_anyH N H o.rv A.log p.client p.no p.call W' (hrV.below hb).chest h.good h.ss hs.max.1 hs.max.2.1 hs.max.2.2)
  have HTS := hide (fun W' w1 (hb : Below V.heap.size V W') (hT : CTurnedH (FS o A) 42 W' N H o.rv w1 (aCall A.log p.client p.no p.call).log) => (hrV.below hb).turnS hT (aCall_good h.good _ _ _) (aCall_short h.good h.ss _ _ _))
  have HKB : Hid (∀ b, w.heap.size ≤ b → b ≠ H ∧ o.rv.ownBlock ≠ some b) := fun b hb => ⟨by omega, fun e => by have := (h.srow.lt b e).2; omega⟩
  have HKA : Hid (∀ b, w.heap.size ≤ b → b ∉ o.all H) := fun b hb => h.not_new hb
  have hsm := call_small h.good p.client p.no p.call
  have HSM : Hid (SmallP (p.back (aCall A.log p.client p.no p.call).code (aCall A.log p.client p.no p.call).text)) := ⟨hs.1, hs.2.1, hs.2.2.1, by show (aCall A.log p.client p.no p.call).text.size ≤ _; omega⟩
  generalize aCall A.log p.client p.no p.call = R at HCALL HTS he HSM ⊢
  obtain ⟨rc, rt, re, rl⟩ := R
  unfold CCResH at HCALL
  dsimp only [APkt.back] at HCALL HTS he HSM ⊢
  generalize ((logB rl).length : Int) - ((logB A.log).length : Int) = dl at HCALL
  generalize o.rv = rv at HCALL HTS HKB
  obtain ⟨x0, xf⟩ : V.cell? ⟨w.heap.size, 0, none⟩ = some (.bool p.reply) ∧ V.frozen? ⟨w.heap.size, 0, none⟩ = false := ⟨(nine hXV).1.1, (nine hXV).2.2 0⟩
  subst he
  clear h e1 hV hBV hXV hrV hs hsm
  obtain ⟨pr, pc, pn, ⟨pk, pa, pb, pt⟩, pd, pu⟩ := p
  dsimp only [APkt.val] at *
  subst hr
  go_enter Tryz.func55, Tryz.ntmps55
  go_wp2_with fail
  rw [← unhide HV]
  clear x0 xf
  refine wp_region_held_drew (S := (fun wx => wx.heap[w.heap.size]? = V.heap[w.heap.size]?)) (by kernel_rfl) (rfl) (fun hHeld => ?_)
  refine tkH ?_ opn0 (fun _ _ _ h => h) hHeld ?_ ?_
  rotate_left 1
  · intro wz hSw; (try dsimp only at hSw); go_simp; all_goals with_reducible rfl
  try simp only [pS]
  refine tkH ?_ opn1 (fun _ _ _ h => h) hHeld ?_ ?_
  rotate_left 1
  · intro wz hSw; (try dsimp only at hSw); go_simp; all_goals with_reducible rfl
  try simp only [pS]
  refine tkH ?_ opn2 (fun _ _ _ h => h) hHeld ?_ ?_
  rotate_left 1
  · intro wz hSw; (try dsimp only at hSw); go_simp; all_goals with_reducible rfl
  try simp only [pS]
  refine tkH ?_ opn3 (fun _ _ _ h => h) hHeld ?_ ?_
  rotate_left 1
  · intro wz hSw; (try dsimp only at hSw); go_simp; all_goals with_reducible rfl
  try simp only [pS]
  refine tkH ?_ opn4 (fun _ _ _ h => h) hHeld ?_ ?_
  rotate_left 1
  · intro wz hSw; (try dsimp only at hSw)
    obtain ⟨⟨x0, x1, x2, x3⟩, ⟨x4, x5, x6, x7, x8⟩, xf⟩ := nine (hSw.trans (unhide HXV))
    go_simp; all_goals with_reducible rfl
  try simp only [pS]
  refine tkH ?_ opn5 (fun _ _ _ h => h) hHeld ?_ ?_
  rotate_left 1
  · intro wz hSw; (try dsimp only at hSw); go_simp; all_goals with_reducible rfl
  try simp only [pS]
  refine tkH ?_ opn6 (fun _ _ _ h => h) hHeld ?_ ?_
  rotate_left 1
  · intro wz hSw; (try dsimp only at hSw)
    obtain ⟨⟨x0, x1, x2, x3⟩, ⟨x4, x5, x6, x7, x8⟩, xf⟩ := nine (hSw.trans (unhide HXV))
    go_simp; all_goals with_reducible rfl
  try simp only [pS]
  refine tkH ?_ opn7 (fun _ _ _ h => h) hHeld ?_ ?_
  rotate_left 1
  · intro wz hSw; (try dsimp only at hSw); go_simp; all_goals with_reducible rfl
  try simp only [pS]
  refine tkH ?_ opn8 (fun _ _ _ h => h) hHeld ?_ ?_
  rotate_left 1
  · intro wz hSw; (try dsimp only at hSw)
    obtain ⟨⟨x0, x1, x2, x3⟩, ⟨x4, x5, x6, x7, x8⟩, xf⟩ := nine (hSw.trans (unhide HXV))
    go_simp; all_goals with_reducible rfl
  try simp only [pS]
  refine wpAnyH_ready (rs := [9, 14]) (by kernel_rfl) (by simp) ?_
  refine AllReadyH.cons opn9 (fun K hK => ?_) (AllReadyH.cons opn14 (fun K hK => ?_) (AllReadyH.nil))
  · rw [if_pos (by kernel_rfl)]
    go_simp
    refine ((unhide HCALL) _ (below_drew V)).mono ?_
    rintro e w1 ⟨rfl, hT⟩
    have hk2 : w1.heap[w.heap.size]? = V.heap[w.heap.size]? := hT.same hlV ((unhide HKB) _ (Nat.le_refl _))
    obtain ⟨o1, r1, n1⟩ := (unhide HTS) _ _ (below_drew V) hT
    have hnb := (n1.keep w.heap.size hlV ((unhide HKA) _ (Nat.le_refl _))).1
    have hl1 := n1.below.size
    have hl1 : V.heap.size ≤ w1.heap.size := hl1
    have hnq1 := r1.not_new (Nat.le_refl _)
    have HR1 := hide r1
    have HN1 := hide (((Next.of_below (o.all H) ((unhide HBV).trans ((below_drew V).mono (unhide HBV).size)) hNw)).trans n1)
    clear hT r1 n1
    refine hK.out _ _ (hk2) (fun hHeldN => ?_)
    clear hHeld hK K; have hHeld := hHeldN; clear hHeldN
    try simp only [pS]
    clear hk2
    refine tkH ?_ opn10 (fun _ _ _ h => h) hHeld ?_ ?_
    rotate_left 1
    · intro wz hSw; (try dsimp only at hSw); go_simp; all_goals with_reducible rfl
    try simp only [pS]
    refine tkH ?_ opn11 (fun _ _ _ h => h) hHeld ?_ ?_
    rotate_left 1
    · intro wz hSw; (try dsimp only at hSw); go_simp; all_goals with_reducible rfl
    try simp only [pS]
    refine tkH ?_ opn12 (fun _ _ _ h => h) hHeld ?_ ?_
    rotate_left 1
    · intro wz hSw; (try dsimp only at hSw); go_simp; all_goals with_reducible rfl
    try simp only [pS]
    refine tkH ?_ opn13 (fun _ _ _ h => h) hHeld ?_ ?_
    rotate_left 1
    · intro wz hSw; (try dsimp only at hSw); go_simp; all_goals with_reducible rfl
    try simp only [pS]
    refine wpAnyH_ready (rs := [14]) (by kernel_rfl) (by simp) ?_
    refine AllReadyH.cons opn14 (fun K hK => ?_) AllReadyH.nil
    rw [if_pos (by kernel_rfl)]
    go_simp
    have hba : Below w1.heap.size w1 (w1.alloc (.cells #[.int .i64 0, .string ⟨#[]⟩] 59)) := (Below.refl _ _).alloc (Nat.le_refl _) _
    have HZ : Hid ((w1.alloc (.cells #[.int .i64 0, .string ⟨#[]⟩] 59)).heap[w1.heap.size]? = some (.cells #[.int .i64 0, .string ⟨#[]⟩] 59 (0, 0))) := heap_alloc_new _ _
    refine hK.out _ _ ((hba.block w.heap.size (by omega)).trans hHeld) (fun hHeldN => ?_)
    clear hHeld hK K; have hHeld := hHeldN; clear hHeldN
    try simp only [pS]
    generalize w1.alloc (.cells #[.int .i64 0, .string ⟨#[]⟩] 59) = W1 at hba HZ hHeld ⊢
    obtain ⟨⟨z0, z1⟩, zf⟩ := two (unhide HZ)
    have zf0 := zf 0
    have zf1 := zf 1
    refine wpAnyH_ready (rs := [15]) (by kernel_rfl) (by simp) ?_
    refine AllReadyH.cons opn15 (fun K hK => ?_) AllReadyH.nil
    rw [if_pos (by kernel_rfl)]
    go_simp
    clear z0 z1 zf zf0 zf1
    obtain ⟨hQ2, hK2⟩ := setTwo (unhide HZ) (.int .i64 rc) (.string rt)
    have hlW1 := hba.size
    refine hK.out _ _ ((hK2.block w.heap.size (by omega) (by simp; omega)).trans hHeld) (fun hHeldN => ?_)
    clear hHeld hK K; have hHeld := hHeldN; clear hHeldN
    try simp only [pS]
    generalize (W1.setCell ⟨w1.heap.size, 0, none⟩ (.int .i64 rc)).setCell ⟨w1.heap.size, 1, none⟩ (.string rt) = W2 at hQ2 hK2 hHeld ⊢
    have hbW : Below w1.heap.size w1 W2 := ⟨hK2.os.trans hba.os, hK2.tape.trans hba.tape, hK2.output.trans hba.output, Nat.le_trans hba.size hK2.size, fun j hj => (hK2.block j (Nat.lt_of_lt_of_le hj hba.size) (by simp; omega)).trans (hba.block j hj)⟩
    refine tkH ?_ opn16 (fun _ _ _ h => h) hHeld ?_ ?_
    rotate_left 1
    · intro wz hSw; (try dsimp only at hSw); go_simp; all_goals with_reducible rfl
    try simp only [pS]
    refine tkH ?_ opn17 (fun _ _ _ h => h) hHeld ?_ ?_
    rotate_left 1
    · intro wz hSw; (try dsimp only at hSw); go_simp; all_goals with_reducible rfl
    try simp only [pS]
    refine wpAnyH_done (by kernel_rfl) ?_ _
    have HX := hide (hHeld.trans (unhide HXV))
    have HQ := hide hQ2
    have HR := hide ((unhide HR1).below hbW)
    have HN := hide ((unhide HN1).trans (Next.of_below _ hbW (unhide HR1).size))
    clear hQ2 hK2 hbW hba HZ hlW1 hHeld HR1 HN1
    have hnq : w1.heap.size ∉ o1.all H := hnq1
    have hbd := below_drew W2
    have HPS := hide (BSend_anyH ((unhide HR).below hbd).bag ⟨true, pc, pn, ⟨pk, pa, pb, pt⟩, rc, rt⟩ (unhide HSM))
    have HPT := hide (fun w' (hT : PTurnH (FP o1 ⟨rl, A.cl, A.ms⟩) 42 N W2.drew H o1.pv w' (aSend A.ms ⟨true, pc, pn, ⟨pk, pa, pb, pt⟩, rc, rt⟩)) => ((unhide HR).below hbd).turnP hT)
    have HK4X : Hid (w.heap.size < W2.heap.size ∧ w.heap.size ∉ powns H o1.pv) := ⟨(Array.getElem?_eq_some_iff.1 (unhide HX)).1, fun hm => hnb (by
      rcases List.mem_cons.1 hm with e | e
      · exact HOwn.mem_all.2 (.inl e)
      · exact HOwn.mem_all.2 (.inr ⟨4, by omega, by show o1.pv.ownBlock = _; simpa using e⟩))⟩
    have HKQ : Hid (w1.heap.size < W2.heap.size ∧ w1.heap.size ∉ powns H o1.pv) := ⟨(Array.getElem?_eq_some_iff.1 (unhide HQ)).1, fun hm => hnq (by
      rcases List.mem_cons.1 hm with e | e
      · exact HOwn.mem_all.2 (.inl e)
      · exact HOwn.mem_all.2 (.inr ⟨4, by omega, by show o1.pv.ownBlock = _; simpa using e⟩))⟩
    have HN4 := hide ((unhide HN).trans (Next.of_below _ hbd (unhide HR).size))
    dsimp only [APkt.val] at HPS
    generalize o1.pv = pv at HPS HPT HK4X HKQ
    clear hbd
    go_wp2_with fail
    refine wp_region_held_drew (S := (fun wx => wx.heap[w.heap.size]? = W2.heap[w.heap.size]? ∧ wx.heap[w1.heap.size]? = W2.heap[w1.heap.size]?)) (by kernel_rfl) (⟨rfl, rfl⟩) (fun hHeld => ?_)
    refine tkH ?_ opn0 (fun _ _ _ h => h) hHeld ?_ ?_
    rotate_left 1
    · intro wz hSw; (try dsimp only at hSw); go_simp; all_goals with_reducible rfl
    try simp only [pS]
    refine tkH ?_ opn1 (fun _ _ _ h => h) hHeld ?_ ?_
    rotate_left 1
    · intro wz hSw; (try dsimp only at hSw); go_simp; all_goals with_reducible rfl
    try simp only [pS]
    refine tkH ?_ opn2 (fun _ _ _ h => h) hHeld ?_ ?_
    rotate_left 1
    · intro wz hSw; (try dsimp only at hSw); go_simp; all_goals with_reducible rfl
    try simp only [pS]
    refine tkH ?_ opn3 (fun _ _ _ h => h) hHeld ?_ ?_
    rotate_left 1
    · intro wz hSw; (try dsimp only at hSw); go_simp; all_goals with_reducible rfl
    try simp only [pS]
    refine tkH ?_ opn4 (fun _ _ _ h => h) hHeld ?_ ?_
    rotate_left 1
    · intro wz hSw; (try dsimp only at hSw)
      obtain ⟨⟨x0, x1, x2, x3⟩, ⟨x4, x5, x6, x7, x8⟩, xf⟩ := nine (hSw.1.trans (unhide HX))
      go_simp; all_goals with_reducible rfl
    try simp only [pS]
    refine tkH ?_ opn5 (fun _ _ _ h => h) hHeld ?_ ?_
    rotate_left 1
    · intro wz hSw; (try dsimp only at hSw); go_simp; all_goals with_reducible rfl
    try simp only [pS]
    refine tkH ?_ opn6 (fun _ _ _ h => h) hHeld ?_ ?_
    rotate_left 1
    · intro wz hSw; (try dsimp only at hSw)
      obtain ⟨⟨x0, x1, x2, x3⟩, ⟨x4, x5, x6, x7, x8⟩, xf⟩ := nine (hSw.1.trans (unhide HX))
      go_simp; all_goals with_reducible rfl
    try simp only [pS]
    refine tkH ?_ opn7 (fun _ _ _ h => h) hHeld ?_ ?_
    rotate_left 1
    · intro wz hSw; (try dsimp only at hSw); go_simp; all_goals with_reducible rfl
    try simp only [pS]
    refine tkH ?_ opn8 (fun _ _ _ h => h) hHeld ?_ ?_
    rotate_left 1
    · intro wz hSw; (try dsimp only at hSw)
      obtain ⟨⟨x0, x1, x2, x3⟩, ⟨x4, x5, x6, x7, x8⟩, xf⟩ := nine (hSw.1.trans (unhide HX))
      go_simp; all_goals with_reducible rfl
    try simp only [pS]
    refine tkH ?_ opn9 (fun _ _ _ h => h) hHeld ?_ ?_
    rotate_left 1
    · intro wz hSw; (try dsimp only at hSw)
      obtain ⟨⟨z0, z1⟩, _⟩ := two (hSw.2.trans (unhide HQ))
      go_simp; all_goals with_reducible rfl
    try simp only [pS]
    refine tkH ?_ opn10 (fun _ _ _ h => h) hHeld ?_ ?_
    rotate_left 1
    · intro wz hSw; (try dsimp only at hSw); go_simp; all_goals with_reducible rfl
    try simp only [pS]
    refine wpAnyH_ready (rs := [11]) (by kernel_rfl) (by simp) ?_
    refine AllReadyH.cons opn11 (fun K hK => ?_) AllReadyH.nil
    rw [if_pos (by kernel_rfl)]
    go_simp
    refine (unhide HPS).mono ?_
    rintro e w4 ⟨rfl, hT⟩
    obtain ⟨o4, r4, n4⟩ := (unhide HPT) _ hT
    have hk1 : w4.heap[w.heap.size]? = W2.heap[w.heap.size]? := hT.same (unhide HK4X).1 (unhide HK4X).2
    have hk2 : w4.heap[w1.heap.size]? = W2.heap[w1.heap.size]? := hT.same (unhide HKQ).1 (unhide HKQ).2
    have HFIN := hide (And.intro r4 ((unhide HN4).trans n4))
    clear hT r4 n4
    refine hK.out _ _ (⟨hk1, hk2⟩) (fun hHeldN => ?_)
    clear hHeld hK K; have hHeld := hHeldN; clear hHeldN
    try simp only [pS]
    clear hk1 hk2
    refine wpAnyH_done (by kernel_rfl) ?_ _
    refine bodyPost_end (v := .tuple #[]) (by simp [results, Tryz.results55, go_sem]) rfl ?_
    exact ⟨rfl, _, (unhide HFIN).1, (unhide HFIN).2⟩
  · rw [if_pos (by kernel_rfl)]
    go_simp
    have hba := below_alloc_drew V (.cells #[.int .i64 0, .string ⟨#[]⟩] 59)
    have HZ := hide (alloc_drew_new V (.cells #[.int .i64 0, .string ⟨#[]⟩] 59))
    refine hK.out _ _ (hba.block w.heap.size hlV) (fun hHeldN => ?_)
    clear hHeld hK K; have hHeld := hHeldN; clear hHeldN
    try simp only [pS]
    generalize (V.alloc (.cells #[.int .i64 0, .string ⟨#[]⟩] 59)).drew = V1 at hba HZ hHeld ⊢
    have hlZ : V.heap.size < V1.heap.size := (Array.getElem?_eq_some_iff.1 (unhide HZ)).1
    refine wpAnyH_ready (rs := [9]) (by kernel_rfl) (by simp) ?_
    refine AllReadyH.cons opn9 (fun K hK => ?_) AllReadyH.nil
    rw [if_pos (by kernel_rfl)]
    go_simp
    refine ((unhide HCALL) _ hba).mono ?_
    rintro e w1 ⟨rfl, hT⟩
    have hk2 : w1.heap[w.heap.size]? = V.heap[w.heap.size]? := (hT.same (Nat.lt_trans hlV hlZ) ((unhide HKB) _ (Nat.le_refl _))).trans (hba.block _ hlV)
    have HZ1 := hide ((hT.same hlZ ((unhide HKB) _ (Nat.le_of_lt hlV))).trans (unhide HZ))
    obtain ⟨o1, r1, n1⟩ := (unhide HTS) _ _ hba hT
    have hnb := (n1.keep w.heap.size (Nat.lt_trans hlV hlZ) ((unhide HKA) _ (Nat.le_refl _))).1
    have hnz := (n1.keep V.heap.size hlZ ((unhide HKA) _ (Nat.le_of_lt hlV))).1
    have hl1 : V1.heap.size ≤ w1.heap.size := n1.below.size
    have HR1 := hide r1
    have HN1 := hide (((Next.of_below (o.all H) ((unhide HBV).trans (hba.mono (unhide HBV).size)) hNw)).trans n1)
    clear hT r1 n1
    refine hK.out _ _ (hk2) (fun hHeldN => ?_)
    clear hHeld hK K; have hHeld := hHeldN; clear hHeldN
    try simp only [pS]
    clear hk2
    refine tkH ?_ opn10 (fun _ _ _ h => h) hHeld ?_ ?_
    rotate_left 1
    · intro wz hSw; (try dsimp only at hSw); go_simp; all_goals with_reducible rfl
    try simp only [pS]
    refine tkH ?_ opn11 (fun _ _ _ h => h) hHeld ?_ ?_
    rotate_left 1
    · intro wz hSw; (try dsimp only at hSw); go_simp; all_goals with_reducible rfl
    try simp only [pS]
    refine tkH ?_ opn12 (fun _ _ _ h => h) hHeld ?_ ?_
    rotate_left 1
    · intro wz hSw; (try dsimp only at hSw); go_simp; all_goals with_reducible rfl
    try simp only [pS]
    refine tkH ?_ opn13 (fun _ _ _ h => h) hHeld ?_ ?_
    rotate_left 1
    · intro wz hSw; (try dsimp only at hSw); go_simp; all_goals with_reducible rfl
    try simp only [pS]
    obtain ⟨⟨z0, z1⟩, zf⟩ := two (unhide HZ1)
    have zf0 := zf 0
    have zf1 := zf 1
    refine wpAnyH_ready (rs := [15]) (by kernel_rfl) (by simp) ?_
    refine AllReadyH.cons opn15 (fun K hK => ?_) AllReadyH.nil
    rw [if_pos (by kernel_rfl)]
    go_simp
    clear z0 z1 zf zf0 zf1
    obtain ⟨hQ2, hK2⟩ := setTwo (unhide HZ1) (.int .i64 rc) (.string rt)
    refine hK.out _ _ ((hK2.block w.heap.size (by omega) (by simp; omega)).trans hHeld) (fun hHeldN => ?_)
    clear hHeld hK K; have hHeld := hHeldN; clear hHeldN
    try simp only [pS]
    generalize (w1.setCell ⟨V.heap.size, 0, none⟩ (.int .i64 rc)).setCell ⟨V.heap.size, 1, none⟩ (.string rt) = W2 at hQ2 hK2 hHeld ⊢
    refine tkH ?_ opn16 (fun _ _ _ h => h) hHeld ?_ ?_
    rotate_left 1
    · intro wz hSw; (try dsimp only at hSw); go_simp; all_goals with_reducible rfl
    try simp only [pS]
    refine tkH ?_ opn17 (fun _ _ _ h => h) hHeld ?_ ?_
    rotate_left 1
    · intro wz hSw; (try dsimp only at hSw); go_simp; all_goals with_reducible rfl
    try simp only [pS]
    refine wpAnyH_done (by kernel_rfl) ?_ _
    have HX := hide (hHeld.trans (unhide HXV))
    have HQ := hide hQ2
    have HR := hide ((unhide HR1).set hnz hK2)
    have HN := hide ((unhide HN1).setN hNw (Nat.le_of_lt hlV) hK2)
    clear hQ2 hK2 hba HZ HZ1 hHeld HR1 HN1
    have hnq := hnz
    have hbd := below_drew W2
    have HPS := hide (BSend_anyH ((unhide HR).below hbd).bag ⟨true, pc, pn, ⟨pk, pa, pb, pt⟩, rc, rt⟩ (unhide HSM))
    have HPT := hide (fun w' (hT : PTurnH (FP o1 ⟨rl, A.cl, A.ms⟩) 42 N W2.drew H o1.pv w' (aSend A.ms ⟨true, pc, pn, ⟨pk, pa, pb, pt⟩, rc, rt⟩)) => ((unhide HR).below hbd).turnP hT)
    have HK4X : Hid (w.heap.size < W2.heap.size ∧ w.heap.size ∉ powns H o1.pv) := ⟨(Array.getElem?_eq_some_iff.1 (unhide HX)).1, fun hm => hnb (by
      rcases List.mem_cons.1 hm with e | e
      · exact HOwn.mem_all.2 (.inl e)
      · exact HOwn.mem_all.2 (.inr ⟨4, by omega, by show o1.pv.ownBlock = _; simpa using e⟩))⟩
    have HKQ : Hid (V.heap.size < W2.heap.size ∧ V.heap.size ∉ powns H o1.pv) := ⟨(Array.getElem?_eq_some_iff.1 (unhide HQ)).1, fun hm => hnq (by
      rcases List.mem_cons.1 hm with e | e
      · exact HOwn.mem_all.2 (.inl e)
      · exact HOwn.mem_all.2 (.inr ⟨4, by omega, by show o1.pv.ownBlock = _; simpa using e⟩))⟩
    have HN4 := hide ((unhide HN).trans (Next.of_below _ hbd (unhide HR).size))
    dsimp only [APkt.val] at HPS
    generalize o1.pv = pv at HPS HPT HK4X HKQ
    clear hbd
    go_wp2_with fail
    refine wp_region_held_drew (S := (fun wx => wx.heap[w.heap.size]? = W2.heap[w.heap.size]? ∧ wx.heap[V.heap.size]? = W2.heap[V.heap.size]?)) (by kernel_rfl) (⟨rfl, rfl⟩) (fun hHeld => ?_)
    refine tkH ?_ opn0 (fun _ _ _ h => h) hHeld ?_ ?_
    rotate_left 1
    · intro wz hSw; (try dsimp only at hSw); go_simp; all_goals with_reducible rfl
    try simp only [pS]
    refine tkH ?_ opn1 (fun _ _ _ h => h) hHeld ?_ ?_
    rotate_left 1
    · intro wz hSw; (try dsimp only at hSw); go_simp; all_goals with_reducible rfl
    try simp only [pS]
    refine tkH ?_ opn2 (fun _ _ _ h => h) hHeld ?_ ?_
    rotate_left 1
    · intro wz hSw; (try dsimp only at hSw); go_simp; all_goals with_reducible rfl
    try simp only [pS]
    refine tkH ?_ opn3 (fun _ _ _ h => h) hHeld ?_ ?_
    rotate_left 1
    · intro wz hSw; (try dsimp only at hSw); go_simp; all_goals with_reducible rfl
    try simp only [pS]
    refine tkH ?_ opn4 (fun _ _ _ h => h) hHeld ?_ ?_
    rotate_left 1
    · intro wz hSw; (try dsimp only at hSw)
      obtain ⟨⟨x0, x1, x2, x3⟩, ⟨x4, x5, x6, x7, x8⟩, xf⟩ := nine (hSw.1.trans (unhide HX))
      go_simp; all_goals with_reducible rfl
    try simp only [pS]
    refine tkH ?_ opn5 (fun _ _ _ h => h) hHeld ?_ ?_
    rotate_left 1
    · intro wz hSw; (try dsimp only at hSw); go_simp; all_goals with_reducible rfl
    try simp only [pS]
    refine tkH ?_ opn6 (fun _ _ _ h => h) hHeld ?_ ?_
    rotate_left 1
    · intro wz hSw; (try dsimp only at hSw)
      obtain ⟨⟨x0, x1, x2, x3⟩, ⟨x4, x5, x6, x7, x8⟩, xf⟩ := nine (hSw.1.trans (unhide HX))
      go_simp; all_goals with_reducible rfl
    try simp only [pS]
    refine tkH ?_ opn7 (fun _ _ _ h => h) hHeld ?_ ?_
    rotate_left 1
    · intro wz hSw; (try dsimp only at hSw); go_simp; all_goals with_reducible rfl
    try simp only [pS]
    refine tkH ?_ opn8 (fun _ _ _ h => h) hHeld ?_ ?_
    rotate_left 1
    · intro wz hSw; (try dsimp only at hSw)
      obtain ⟨⟨x0, x1, x2, x3⟩, ⟨x4, x5, x6, x7, x8⟩, xf⟩ := nine (hSw.1.trans (unhide HX))
      go_simp; all_goals with_reducible rfl
    try simp only [pS]
    refine tkH ?_ opn9 (fun _ _ _ h => h) hHeld ?_ ?_
    rotate_left 1
    · intro wz hSw; (try dsimp only at hSw)
      obtain ⟨⟨z0, z1⟩, _⟩ := two (hSw.2.trans (unhide HQ))
      go_simp; all_goals with_reducible rfl
    try simp only [pS]
    refine tkH ?_ opn10 (fun _ _ _ h => h) hHeld ?_ ?_
    rotate_left 1
    · intro wz hSw; (try dsimp only at hSw); go_simp; all_goals with_reducible rfl
    try simp only [pS]
    refine wpAnyH_ready (rs := [11]) (by kernel_rfl) (by simp) ?_
    refine AllReadyH.cons opn11 (fun K hK => ?_) AllReadyH.nil
    rw [if_pos (by kernel_rfl)]
    go_simp
    refine (unhide HPS).mono ?_
    rintro e w4 ⟨rfl, hT⟩
    obtain ⟨o4, r4, n4⟩ := (unhide HPT) _ hT
    have hk1 : w4.heap[w.heap.size]? = W2.heap[w.heap.size]? := hT.same (unhide HK4X).1 (unhide HK4X).2
    have hk2 : w4.heap[V.heap.size]? = W2.heap[V.heap.size]? := hT.same (unhide HKQ).1 (unhide HKQ).2
    have HFIN := hide (And.intro r4 ((unhide HN4).trans n4))
    clear hT r4 n4
    refine hK.out _ _ (⟨hk1, hk2⟩) (fun hHeldN => ?_)
    clear hHeld hK K; have hHeld := hHeldN; clear hHeldN
    try simp only [pS]
    clear hk1 hk2
    refine wpAnyH_done (by kernel_rfl) ?_ _
    refine bodyPost_end (v := .tuple #[]) (by simp [results, Tryz.results55, go_sem]) rfl ?_
    exact ⟨rfl, _, (unhide HFIN).1, (unhide HFIN).2⟩
theorem hcome_any {N : Nat} {w : World} {H : Nat} {o : HOwn} {A : AW} (h : HRep N w H o A) (p : APkt) (hs : SmallP p) :
    Calls Tryz.prog 55 #[.pointer (some ⟨H, 0, none⟩), p.val] w fun e w' => e = .returned (.tuple #[]) ∧ HTurn N w H o w' (A.come p) := by
  cases hr : p.reply
  · by_cases he : (aCall A.log p.client p.no p.call).err = 0
    · exact hcome_ok h p hs hr he
    · exact hcome_err h p hs hr he
  · by_cases hc : p.client < 0 ∨ 2 < p.client
    · exact hcome_far h p hs hr hc
    · rcases (show p.client = 0 ∨ p.client = 1 ∨ p.client = 2 by omega) with h0 | h0 | h0
      · exact hcome_hear0 h p hs hr h0
      · exact hcome_hear1 h p hs hr h0
      · exact hcome_hear2 h p hs hr h0
end Go.Proofs.YtmbhbnoifimeaabGreat
