/- round, at, clone. -/
import Derived.Test.YtfpommjolbipmabPb
import Derived.Laws.OwnMore
namespace Go.Proofs.Ytfpommjolbipmab
open Go.RowKit
set_option linter.unusedSimpArgs false
set_option linter.unusedVariables false

theorem conv_u53 (n : Int) (w : World) : (convert 3 77 (.int .i64 n)).run Try.prog w = .ok (.int .u64 (IntKind.u64.wrap n)) w := by kernel_rfl
theorem conv_b53 (n : Int) (w : World) : (convert 77 3 (.int .u64 n)).run Try.prog w = .ok (.int .i64 (IntKind.i64.wrap n)) w := by kernel_rfl
theorem conv_u44 (n : Int) (w : World) : (convert 3 44 (.int .i64 n)).run Try.prog w = .ok (.int .u64 (IntKind.u64.wrap n)) w := by kernel_rfl
theorem conv_b44 (n : Int) (w : World) : (convert 44 3 (.int .u64 n)).run Try.prog w = .ok (.int .i64 (IntKind.i64.wrap n)) w := by kernel_rfl

set_option maxHeartbeats 1000000 in
theorem round_P {N : Nat} {w : World} {P : Nat} {v : Value} {ms : List APkt} (h : PRep 67 N w P v ms) (n : Int) {k : Nat} (hk : ms.length = k) (h0 : 0 < k) : Calls Try.prog 34 #[.pointer (some ⟨P, 0, none⟩), .int .i64 n] w fun e w' => e = .returned (.int .i64 (rnd n k : Int)) ∧ w' = w := by
  obtain ⟨a, c, rfl⟩ := h.form
  have hc := h.can.1
  have hv := rnd_val n h0 (by rw [← hk]; exact h.few)
  have hne : ¬ (IntKind.u64.wrap (k : Int) = 0) := by rw [wrap_u]; have := h.few; omega
  rw [hk] at hc
  clear h
  go_enter Try.func34, Try.ntmps34
  go_wp2
  go_ret
  exact ⟨congrArg (fun b => Ending.returned (.int .i64 b)) hv, rfl⟩
set_option maxHeartbeats 1000000 in
theorem at_B {N : Nat} {w : World} {P : Nat} {v : Value} {ms : List APkt} (h : PRep 27 N w P v ms) (n : Int) {k : Nat} (hk : ms.length = k) (h0 : 0 < k) : Calls Try.prog 36 #[.pointer (some ⟨P, 0, none⟩), .int .i64 n] w fun e w' => e = .returned (.int .i64 (rnd n k : Int)) ∧ w' = w := by
  obtain ⟨a, c, rfl⟩ := h.form
  have hc := h.can.1
  have hv := rnd_val n h0 (by rw [← hk]; exact h.few)
  have hne : ¬ (IntKind.u64.wrap (k : Int) = 0) := by rw [wrap_u]; have := h.few; omega
  rw [hk] at hc
  clear h
  go_enter Try.func36, Try.ntmps36
  go_wp2
  go_ret
  exact ⟨congrArg (fun b => Ending.returned (.int .i64 b)) hv, rfl⟩

theorem nine {w : World} {b : Nat} {x0 x1 x2 x3 x4 x5 x6 x7 x8 : Value} {e : TypeId} (h : w.heap[b]? = some (.cells #[x0, x1, x2, x3, x4, x5, x6, x7, x8] e (0, 0))) :
    (w.cell? ⟨b, 0, none⟩ = some x0 ∧ w.cell? ⟨b, 1, none⟩ = some x1 ∧ w.cell? ⟨b, 2, none⟩ = some x2 ∧ w.cell? ⟨b, 3, none⟩ = some x3) ∧ (w.cell? ⟨b, 4, none⟩ = some x4 ∧ w.cell? ⟨b, 5, none⟩ = some x5 ∧ w.cell? ⟨b, 6, none⟩ = some x6 ∧ w.cell? ⟨b, 7, none⟩ = some x7 ∧ w.cell? ⟨b, 8, none⟩ = some x8) ∧ ∀ j, w.frozen? ⟨b, j, none⟩ = false := by
  refine ⟨⟨?_, ?_, ?_, ?_⟩, ⟨?_, ?_, ?_, ?_, ?_⟩, fun j => frozen_of_row w b j _ _ h⟩ <;> rw [cell_of_row w b _ _ _ _ h] <;> rfl
theorem infoP : (Try.prog.info? 33).map (·.size) = some 9 := by kernel_rfl
/-- A text of a packet's block set to what it is. -/
theorem set_same {w : World} {b : Nat} {C : Array Value} {e : TypeId} {j : Nat} {x : Value} (h : w.heap[b]? = some (.cells C e (0, 0))) (hx : C[j]? = some x) : (w.setCell ⟨b, j, none⟩ x).heap[b]? = some (.cells C e (0, 0)) := by
  rw [heap_setCell_same h x]
  congr 2
  obtain ⟨hj, hx⟩ := Array.getElem?_eq_some_iff.1 hx
  apply Array.ext
  · simp
  · intro i h1 h2
    rw [Array.getElem_setIfInBounds]
    split
    · rename_i hi; subst hi; exact hx.symm
    · rfl
theorem below_set {n : Nat} {w0 w : World} {b j : Nat} {x : Value} (h : Below n w0 w) (hb : n ≤ b) : Below n w0 (w.setCell ⟨b, j, none⟩ x) :=
  ⟨h.os, h.tape, h.output, by rw [setCell_size]; exact h.size, fun k hk => (Below.heap_setCell w _ x k (fun e => by simp at e; omega)).trans (h.block k hk)⟩

set_option maxRecDepth 100000 in
set_option maxHeartbeats 4000000 in
theorem clone_P (m : APkt) (w : World) (hm : SmallP m) : Calls Try.prog 33 #[m.val] w fun e w' => e = .returned m.val ∧ Below w.heap.size w w' := by
  obtain ⟨h1, h2, h3, h4⟩ := hm
  obtain ⟨y, c, n, ⟨k, a, b, t⟩, d, u⟩ := m
  dsimp only [APkt.val] at *
  obtain ⟨V, hV⟩ : ∃ V, V = (w.alloc (.cells #[.bool y, .int .i64 c, .int .i64 n, .int .i64 k, .string a, .string b, .string t, .int .i64 d, .string u] 33)).alloc (.cells #[.bool false, .int .i64 0, .int .i64 0, .int .i64 0, .string ⟨#[]⟩, .string ⟨#[]⟩, .string ⟨#[]⟩, .int .i64 0, .string ⟨#[]⟩] 33) := ⟨_, rfl⟩
  have hB0 : Below w.heap.size w V := by rw [hV]; exact ((Below.refl _ _).alloc (Nat.le_refl _) _).alloc (by simp) _
  have hX0 : V.heap[w.heap.size]? = some (.cells #[.bool y, .int .i64 c, .int .i64 n, .int .i64 k, .string a, .string b, .string t, .int .i64 d, .string u] 33 (0, 0)) := by rw [hV, Below.heap_alloc _ _ _ (by simp)]; exact heap_alloc_new _ _
  have hY0 : V.heap[w.heap.size + 1]? = some (.cells #[.bool false, .int .i64 0, .int .i64 0, .int .i64 0, .string ⟨#[]⟩, .string ⟨#[]⟩, .string ⟨#[]⟩, .int .i64 0, .string ⟨#[]⟩] 33 (0, 0)) := by rw [hV]; have := heap_alloc_new (w.alloc (.cells #[.bool y, .int .i64 c, .int .i64 n, .int .i64 k, .string a, .string b, .string t, .int .i64 d, .string u] 33)) (.cells #[.bool false, .int .i64 0, .int .i64 0, .int .i64 0, .string ⟨#[]⟩, .string ⟨#[]⟩, .string ⟨#[]⟩, .int .i64 0, .string ⟨#[]⟩] 33); simpa using this
  have HV := hide hV
  have HC1 := hide (fun W => SClone_any a W h1)
  have HC2 := hide (fun W => SClone_any b W h2)
  have HC3 := hide (fun W => SClone_any t W h3)
  have HC4 := hide (fun W => SClone_any u W h4)
  have HB0 := hide hB0
  have HX0 := hide hX0
  have HY0 := hide hY0
  obtain ⟨⟨x0, x1, x2, x3⟩, ⟨x4, x5, x6, x7, x8⟩, xf⟩ := nine hX0
  clear hB0 hX0 hY0 hV h1 h2 h3 h4
  go_enter Try.func33, Try.ntmps33
  go_wp2_with fail
  rw [← unhide HV]
  refine ((unhide HC1) _).mono ?_
  rintro e w1 ⟨rfl, b1⟩
  clear x0 x1 x2 x3 x4 x5 x6 x7 x8 xf
  have hX1 := (b1.block _ (Array.getElem?_eq_some_iff.1 (unhide HX0)).1).trans (unhide HX0)
  have hY1 := (b1.block _ (Array.getElem?_eq_some_iff.1 (unhide HY0)).1).trans (unhide HY0)
  have hS1 := set_same (j := 4) (x := .string a) hX1 rfl
  have hT1 : (w1.setCell ⟨w.heap.size, 4, none⟩ (.string a)).heap[w.heap.size + 1]? = _ := (Below.heap_setCell w1 _ _ _ (by simp)).trans hY1
  have hbx := below_set (j := 4) (x := .string a) ((unhide HB0).trans (b1.mono (unhide HB0).size)) (Nat.le_refl w.heap.size)
  obtain ⟨⟨x0, x1, x2, x3⟩, ⟨x4, x5, x6, x7, x8⟩, xf⟩ := nine hX1
  obtain ⟨V1, hV1⟩ : ∃ V, V = w1.setCell ⟨w.heap.size, 4, none⟩ (.string a) := ⟨_, rfl⟩
  rw [← hV1] at hS1 hT1 hbx
  have HX1 := hide hS1
  have HY1 := hide hT1
  have HB1 := hide hbx
  have HV1 := hide hV1
  clear b1 hX1 hY1 hS1 hT1 hbx hV1
  go_wp2_with fail
  rw [← unhide HV1]
  refine ((unhide HC2) _).mono ?_
  rintro e w2 ⟨rfl, b2⟩
  clear x0 x1 x2 x3 x4 x5 x6 x7 x8 xf
  have hX2 := (b2.block _ (Array.getElem?_eq_some_iff.1 (unhide HX1)).1).trans (unhide HX1)
  have hY2 := (b2.block _ (Array.getElem?_eq_some_iff.1 (unhide HY1)).1).trans (unhide HY1)
  have hS2 := set_same (j := 5) (x := .string b) hX2 rfl
  have hT2 : (w2.setCell ⟨w.heap.size, 5, none⟩ (.string b)).heap[w.heap.size + 1]? = _ := (Below.heap_setCell w2 _ _ _ (by simp)).trans hY2
  have hbx := below_set (j := 5) (x := .string b) ((unhide HB1).trans (b2.mono (unhide HB1).size)) (Nat.le_refl w.heap.size)
  obtain ⟨⟨x0, x1, x2, x3⟩, ⟨x4, x5, x6, x7, x8⟩, xf⟩ := nine hX2
  obtain ⟨V2, hV2⟩ : ∃ V, V = w2.setCell ⟨w.heap.size, 5, none⟩ (.string b) := ⟨_, rfl⟩
  rw [← hV2] at hS2 hT2 hbx
  have HX2 := hide hS2
  have HY2 := hide hT2
  have HB2 := hide hbx
  have HV2 := hide hV2
  clear b2 hX2 hY2 hS2 hT2 hbx hV2
  go_wp2_with fail
  rw [← unhide HV2]
  refine ((unhide HC3) _).mono ?_
  rintro e w3 ⟨rfl, b3⟩
  clear x0 x1 x2 x3 x4 x5 x6 x7 x8 xf
  have hX3 := (b3.block _ (Array.getElem?_eq_some_iff.1 (unhide HX2)).1).trans (unhide HX2)
  have hY3 := (b3.block _ (Array.getElem?_eq_some_iff.1 (unhide HY2)).1).trans (unhide HY2)
  have hS3 := set_same (j := 6) (x := .string t) hX3 rfl
  have hT3 : (w3.setCell ⟨w.heap.size, 6, none⟩ (.string t)).heap[w.heap.size + 1]? = _ := (Below.heap_setCell w3 _ _ _ (by simp)).trans hY3
  have hbx := below_set (j := 6) (x := .string t) ((unhide HB2).trans (b3.mono (unhide HB2).size)) (Nat.le_refl w.heap.size)
  obtain ⟨⟨x0, x1, x2, x3⟩, ⟨x4, x5, x6, x7, x8⟩, xf⟩ := nine hX3
  obtain ⟨V3, hV3⟩ : ∃ V, V = w3.setCell ⟨w.heap.size, 6, none⟩ (.string t) := ⟨_, rfl⟩
  rw [← hV3] at hS3 hT3 hbx
  have HX3 := hide hS3
  have HY3 := hide hT3
  have HB3 := hide hbx
  have HV3 := hide hV3
  clear b3 hX3 hY3 hS3 hT3 hbx hV3
  go_wp2_with fail
  rw [← unhide HV3]
  refine ((unhide HC4) _).mono ?_
  rintro e w4 ⟨rfl, b4⟩
  clear x0 x1 x2 x3 x4 x5 x6 x7 x8 xf
  have hX4 := (b4.block _ (Array.getElem?_eq_some_iff.1 (unhide HX3)).1).trans (unhide HX3)
  have hY4 := (b4.block _ (Array.getElem?_eq_some_iff.1 (unhide HY3)).1).trans (unhide HY3)
  have hS4 := set_same (j := 8) (x := .string u) hX4 rfl
  have hT4 : (w4.setCell ⟨w.heap.size, 8, none⟩ (.string u)).heap[w.heap.size + 1]? = _ := (Below.heap_setCell w4 _ _ _ (by simp)).trans hY4
  have hbx := below_set (j := 8) (x := .string u) ((unhide HB3).trans (b4.mono (unhide HB3).size)) (Nat.le_refl w.heap.size)
  obtain ⟨⟨x0, x1, x2, x3⟩, ⟨x4, x5, x6, x7, x8⟩, xf⟩ := nine hX4
  obtain ⟨V4, hV4⟩ : ∃ V, V = w4.setCell ⟨w.heap.size, 8, none⟩ (.string u) := ⟨_, rfl⟩
  rw [← hV4] at hS4 hT4 hbx
  have HX4 := hide hS4
  have HY4 := hide hT4
  have HB4 := hide hbx
  have HV4 := hide hV4
  clear b4 hX4 hS4 hT4 hbx hV4
  have hYn := (Below.heap_setCell w4 ⟨w.heap.size, 8, none⟩ (.string u) (w.heap.size + 1) (by simp)).trans hY4
  obtain ⟨V5, hV5⟩ : ∃ V, V = V4.setRow (w.heap.size + 1) #[.bool y, .int .i64 c, .int .i64 n, .int .i64 k, .string a, .string b, .string t, .int .i64 d, .string u] := ⟨_, rfl⟩
  have hZ : V5.heap[w.heap.size + 1]? = some (.cells #[.bool y, .int .i64 c, .int .i64 n, .int .i64 k, .string a, .string b, .string t, .int .i64 d, .string u] 33 (0, 0)) := by rw [hV5]; exact setRow_heap V4 (w.heap.size + 1) _ _ 33 (0, 0) (unhide HY4)
  have hB5 : Below w.heap.size w V5 := by
    have h := unhide HB4
    rw [hV5]
    exact ⟨h.os, h.tape, h.output, by simp [World.setRow]; exact h.size, fun k hk => (setRow_other V4 (w.heap.size + 1) k _ (by omega)).trans (h.block k hk)⟩
  obtain ⟨⟨z0, z1, z2, z3⟩, ⟨z4, z5, z6, z7, z8⟩, _⟩ := nine hZ
  have HB5 := hide hB5
  rw [unhide HV4] at hV5
  clear hB5 hZ
  go_wp2_with (refine wpList_store_row rfl 33 _ _ rfl (w.heap.size + 1) #[.bool y, .int .i64 c, .int .i64 n, .int .i64 k, .string a, .string b, .string t, .int .i64 d, .string u] rfl rfl 33 _ hYn infoP rfl (by simp [Value.oneCell']) ?_)
  rw [← hV5]
  clear x0 x1 x2 x3 x4 x5 x6 x7 x8 xf hYn
  refine bodyPost_ret (v := .agg #[.bool y, .int .i64 c, .int .i64 n, .int .i64 k, .string a, .string b, .string t, .int .i64 d, .string u]) (by simp [results, Try.results33, go_sem, z0, z1, z2, z3, z4, z5, z6, z7, z8]) rfl ⟨rfl, unhide HB5⟩

end Go.Proofs.Ytfpommjolbipmab
