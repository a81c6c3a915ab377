/- A client: Send. -/
import Derived.Test.YtfpommjolbipmabKe
namespace Go.Proofs.Ytfpommjolbipmab
open Go.RowKit
set_option linter.unusedSimpArgs false
set_option linter.unusedVariables false

def zeroP : Array Value := #[.bool false, .int .i64 0, .int .i64 0, .int .i64 0, .string ⟨#[]⟩, .string ⟨#[]⟩, .string ⟨#[]⟩, .int .i64 0, .string ⟨#[]⟩]

theorem set9 {w : World} {X : Nat} {t : TypeId} {y0 y1 y2 y3 y4 y5 y6 y7 y8 a0 a1 a2 a3 a4 a5 a6 a7 a8 : Value} (h : w.heap[X]? = some (.cells #[y0, y1, y2, y3, y4, y5, y6, y7, y8] t (0, 0))) :
    (((((((((w.setCell ⟨X, 0, none⟩ a0).setCell ⟨X, 1, none⟩ a1).setCell ⟨X, 2, none⟩ a2).setCell ⟨X, 3, none⟩ a3).setCell ⟨X, 4, none⟩ a4).setCell ⟨X, 5, none⟩ a5).setCell ⟨X, 6, none⟩ a6).setCell ⟨X, 7, none⟩ a7).setCell ⟨X, 8, none⟩ a8).heap[X]? = some (.cells #[a0, a1, a2, a3, a4, a5, a6, a7, a8] t (0, 0)) ∧
    Kept [X] w (((((((((w.setCell ⟨X, 0, none⟩ a0).setCell ⟨X, 1, none⟩ a1).setCell ⟨X, 2, none⟩ a2).setCell ⟨X, 3, none⟩ a3).setCell ⟨X, 4, none⟩ a4).setCell ⟨X, 5, none⟩ a5).setCell ⟨X, 6, none⟩ a6).setCell ⟨X, 7, none⟩ a7).setCell ⟨X, 8, none⟩ a8) := by
  have k : ∀ (W : World) (o : Nat) (u : Value), Kept [X] W (W.setCell ⟨X, o, none⟩ u) := fun W o u => kept_setCell [X] W X o u (by simp)
  have k0 := Kept.refl [X] w
  have h1 : (w.setCell ⟨X, 0, none⟩ a0).heap[X]? = some (.cells #[a0, y1, y2, y3, y4, y5, y6, y7, y8] t (0, 0)) := heap_setCell_same h a0
  have k1 := k0.trans (k w 0 a0) (fun x hx => .inl hx)
  generalize w.setCell ⟨X, 0, none⟩ a0 = w1 at *
  have h2 : (w1.setCell ⟨X, 1, none⟩ a1).heap[X]? = some (.cells #[a0, a1, y2, y3, y4, y5, y6, y7, y8] t (0, 0)) := heap_setCell_same h1 a1
  have k2 := k1.trans (k w1 1 a1) (fun x hx => .inl hx)
  generalize w1.setCell ⟨X, 1, none⟩ a1 = w2 at *
  have h3 : (w2.setCell ⟨X, 2, none⟩ a2).heap[X]? = some (.cells #[a0, a1, a2, y3, y4, y5, y6, y7, y8] t (0, 0)) := heap_setCell_same h2 a2
  have k3 := k2.trans (k w2 2 a2) (fun x hx => .inl hx)
  generalize w2.setCell ⟨X, 2, none⟩ a2 = w3 at *
  have h4 : (w3.setCell ⟨X, 3, none⟩ a3).heap[X]? = some (.cells #[a0, a1, a2, a3, y4, y5, y6, y7, y8] t (0, 0)) := heap_setCell_same h3 a3
  have k4 := k3.trans (k w3 3 a3) (fun x hx => .inl hx)
  generalize w3.setCell ⟨X, 3, none⟩ a3 = w4 at *
  have h5 : (w4.setCell ⟨X, 4, none⟩ a4).heap[X]? = some (.cells #[a0, a1, a2, a3, a4, y5, y6, y7, y8] t (0, 0)) := heap_setCell_same h4 a4
  have k5 := k4.trans (k w4 4 a4) (fun x hx => .inl hx)
  generalize w4.setCell ⟨X, 4, none⟩ a4 = w5 at *
  have h6 : (w5.setCell ⟨X, 5, none⟩ a5).heap[X]? = some (.cells #[a0, a1, a2, a3, a4, a5, y6, y7, y8] t (0, 0)) := heap_setCell_same h5 a5
  have k6 := k5.trans (k w5 5 a5) (fun x hx => .inl hx)
  generalize w5.setCell ⟨X, 5, none⟩ a5 = w6 at *
  have h7 : (w6.setCell ⟨X, 6, none⟩ a6).heap[X]? = some (.cells #[a0, a1, a2, a3, a4, a5, a6, y7, y8] t (0, 0)) := heap_setCell_same h6 a6
  have k7 := k6.trans (k w6 6 a6) (fun x hx => .inl hx)
  generalize w6.setCell ⟨X, 6, none⟩ a6 = w7 at *
  have h8 : (w7.setCell ⟨X, 7, none⟩ a7).heap[X]? = some (.cells #[a0, a1, a2, a3, a4, a5, a6, a7, y8] t (0, 0)) := heap_setCell_same h7 a7
  have k8 := k7.trans (k w7 7 a7) (fun x hx => .inl hx)
  generalize w7.setCell ⟨X, 7, none⟩ a7 = w8 at *
  have h9 : (w8.setCell ⟨X, 8, none⟩ a8).heap[X]? = some (.cells #[a0, a1, a2, a3, a4, a5, a6, a7, a8] t (0, 0)) := heap_setCell_same h8 a8
  have k9 := k8.trans (k w8 8 a8) (fun x hx => .inl hx)
  generalize w8.setCell ⟨X, 8, none⟩ a8 = w9 at *
  exact ⟨h9, k9⟩

set_option maxRecDepth 100000 in
set_option maxHeartbeats 4000000 in
theorem Send_none {N : Nat} {w : World} {X : Nat} {v : Value} {c : ACli} (h : KRep N w X v c) (hop : c.op = false) :
    Calls Try.prog 25 #[.pointer (some ⟨X, 0, none⟩)] w fun e w' => e = .returned (.tuple #[zeroPkt.val, .bool false]) ∧ Below w.heap.size w w' := by
  obtain ⟨V, hV⟩ : ∃ V, V = w.alloc (.cells zeroP 33) := ⟨_, rfl⟩
  have hBV : Below w.heap.size w V := by rw [hV]; exact (Below.refl _ _).alloc (Nat.le_refl _) _
  have hYV : V.heap[w.heap.size]? = some (.cells zeroP 33 (0, 0)) := by rw [hV]; exact heap_alloc_new _ _
  obtain ⟨⟨k0, k1, k2, k3⟩, ⟨k4, k5, k6⟩, kf⟩ := seven h.o.blk
  have hXl := h.o.lt
  rw [hop] at k6
  obtain ⟨V5, hV5⟩ : ∃ W, W = V.setRow w.heap.size zeroP := ⟨_, rfl⟩
  have hZ : V5.heap[w.heap.size]? = some (.cells zeroP 33 (0, 0)) := by rw [hV5]; exact setRow_heap V w.heap.size _ _ 33 (0, 0) hYV
  have HB5 : Hid (Below w.heap.size w V5) := by
    rw [hV5]
    exact ⟨hBV.os, hBV.tape, hBV.output, by simp [World.setRow]; exact hBV.size, fun k hk => (setRow_other V w.heap.size k _ (by omega)).trans (hBV.block k hk)⟩
  rw [hV] at hV5 hYV
  dsimp only [zeroP, zeroPkt, APkt.val] at *
  obtain ⟨⟨z0, z1, z2, z3⟩, ⟨z4, z5, z6, z7, z8⟩, _⟩ := nine hZ
  clear h hop hBV hZ hV k0 k1 k2 k3 k4 k5 kf
  go_enter Try.func25, Try.ntmps25
  go_wp2_with (refine wpList_store_row rfl 33 _ _ rfl w.heap.size #[.bool false, .int .i64 0, .int .i64 0, .int .i64 0, .string ⟨#[]⟩, .string ⟨#[]⟩, .string ⟨#[]⟩, .int .i64 0, .string ⟨#[]⟩] rfl rfl 33 _ hYV infoP rfl (by simp [Value.oneCell']) ?_)
  rw [← hV5]
  refine bodyPost_ret (v := .tuple #[.agg #[.bool false, .int .i64 0, .int .i64 0, .int .i64 0, .string ⟨#[]⟩, .string ⟨#[]⟩, .string ⟨#[]⟩, .int .i64 0, .string ⟨#[]⟩], .bool false]) (by simp [results, Try.results25, go_sem, z0, z1, z2, z3, z4, z5, z6, z7, z8]) rfl ⟨rfl, unhide HB5⟩

set_option maxRecDepth 100000 in
set_option maxHeartbeats 4000000 in
theorem Send_some {N : Nat} {w : World} {X : Nat} {v : Value} {c : ACli} (h : KRep N w X v c) (hop : c.op = true) :
    Calls Try.prog 25 #[.pointer (some ⟨X, 0, none⟩)] w fun e w' => e = .returned (.tuple #[(⟨false, c.me, c.no, c.call, 0, ⟨#[]⟩⟩ : APkt).val, .bool true]) ∧ Below w.heap.size w w' := by
  obtain ⟨V, hV⟩ : ∃ V, V = w.alloc (.cells zeroP 33) := ⟨_, rfl⟩
  have hBV : Below w.heap.size w V := by rw [hV]; exact (Below.refl _ _).alloc (Nat.le_refl _) _
  have hYV : V.heap[w.heap.size]? = some (.cells zeroP 33 (0, 0)) := by rw [hV]; exact heap_alloc_new _ _
  have hrV := h.below hBV
  have HNO := hide (number_any (hrV.below (below_drew V)))
  have HCL := hide (fun W => cloneCall_any c.call W h.ok.smallc)
  obtain ⟨⟨k0, k1, k2, k3⟩, ⟨k4, k5, k6⟩, kf⟩ := seven h.o.blk
  obtain ⟨⟨j0, j1, j2, j3⟩, ⟨j4, j5, j6⟩, jf⟩ := seven hrV.o.blk
  have hXl := h.o.lt
  have hXV : X < V.heap.size := hrV.o.lt
  have hzV : V.heap.size = w.heap.size + 1 := by rw [hV]; simp
  rw [hop] at k6
  have HYV := hide hYV
  have HBV := hide hBV
  have HV := hide hV
  have hXne : w.heap.size ≠ X := by omega
  have HF : Hid (∀ W, Below V.heap.size V W → W.cell? ⟨X, 0, none⟩ = some (.int .i64 c.me) ∧ W.cell? ⟨X, 2, none⟩ = some (.int .i64 c.call.kind) ∧ W.cell? ⟨X, 3, none⟩ = some (.string c.call.name) ∧ W.cell? ⟨X, 4, none⟩ = some (.string c.call.dst) ∧ W.cell? ⟨X, 5, none⟩ = some (.string c.call.text)) := fun W hW => by
    obtain ⟨⟨y0, y1, y2, y3⟩, ⟨y4, y5, y6⟩, yf⟩ := seven (hrV.below hW).o.blk
    exact ⟨y0, y2, y3, y4, y5⟩
  have HYF : Hid (∀ W, Below V.heap.size V W → W.heap[w.heap.size]? = some (.cells zeroP 33 (0, 0))) := fun W hW => (hW.block _ (by omega)).trans hYV
  generalize c.no = cno at HNO ⊢
  obtain ⟨me, done, ⟨ck, ca, cb, ct⟩, op⟩ := c
  dsimp only [zeroP, zeroPkt, APkt.val] at *
  clear h hBV hYV hrV hV hop k0 k1 k2 k3 k4 k5 kf j1 j6
  go_enter Try.func25, Try.ntmps25
  go_wp2_with fail
  rw [← unhide HV]
  clear k6
  go_region_held3 (fun W => W.cell? ⟨X, 0, none⟩ = some (.int .i64 me) ∧ W.cell? ⟨X, 2, none⟩ = some (.int .i64 ck) ∧ W.cell? ⟨X, 3, none⟩ = some (.string ca) ∧ W.cell? ⟨X, 4, none⟩ = some (.string cb) ∧ W.cell? ⟨X, 5, none⟩ = some (.string ct)) (first | (go_keep; done) | (simp [World.cell?_setCell_far, hXne, q0, q2, q3, q4, q5]; done)) (first
    | (go_at_call 39; refine (unhide HNO).mono ?_; rintro e w1 ⟨rfl, hw1⟩; obtain rfl := hw1.symm; clear hw1)
    | (go_at_call 40; refine ((unhide HCL) _).mono ?_; rintro e w2 ⟨rfl, b2⟩; have bV2 := (below_drew V).trans b2; obtain ⟨q0, q2, q3, q4, q5⟩ := (unhide HF) w2 bV2; have hY2 := (unhide HYF) w2 bV2; obtain ⟨⟨r0, r1, r2, r3⟩, ⟨r4, r5, r6, r7, r8⟩, rf⟩ := nine hY2))
  all_goals
    obtain ⟨hs1, hs2⟩ := set9 (a0 := .bool false) (a1 := .int .i64 me) (a2 := .int .i64 cno) (a3 := .int .i64 ck) (a4 := .string ca) (a5 := .string cb) (a6 := .string ct) (a7 := .int .i64 0) (a8 := .string ⟨#[]⟩) hY2
    have hB5 := ((unhide HBV).trans (bV2.mono (unhide HBV).size)).trans (hs2.below (by have := bV2.size; omega) (by simp))
    have HB5 := hide hB5
    obtain ⟨⟨z0, z1, z2, z3⟩, ⟨z4, z5, z6, z7, z8⟩, _⟩ := nine hs1
    clear hs1 hs2 hB5 hY2 r0 r1 r2 r3 r4 r5 r6 r7 r8 rf q0 q2 q3 q4 q5 j0 j2 j3 j4 j5 jf b2 bV2
    go_wp2
    refine bodyPost_ret (v := .tuple #[.agg #[.bool false, .int .i64 me, .int .i64 cno, .int .i64 ck, .string ca, .string cb, .string ct, .int .i64 0, .string ⟨#[]⟩], .bool true]) (by simp [results, Try.results25, go_sem, z0, z1, z2, z3, z4, z5, z6, z7, z8]) rfl ⟨rfl, unhide HB5⟩

theorem Send_any {N : Nat} {w : World} {X : Nat} {v : Value} {c : ACli} (h : KRep N w X v c) :
    Calls Try.prog 25 #[.pointer (some ⟨X, 0, none⟩)] w fun e w' => e = .returned (.tuple #[c.pkt.val, .bool c.op]) ∧ Below w.heap.size w w' := by
  unfold ACli.pkt
  cases hop : c.op
  · exact Send_none h hop
  · exact Send_some h hop

end Go.Proofs.Ytfpommjolbipmab
