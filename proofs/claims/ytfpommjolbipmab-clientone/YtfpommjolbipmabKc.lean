/- A client: cloneAnswer, cloneCall. -/
import Derived.Test.YtfpommjolbipmabKb
namespace Go.Proofs.Ytfpommjolbipmab
open Go.RowKit
set_option linter.unusedSimpArgs false
set_option linter.unusedVariables false

theorem info31s : (Try.prog.info? 31).map (·.size) = some 2 := by kernel_rfl
theorem info29s : (Try.prog.info? 29).map (·.size) = some 4 := by kernel_rfl

set_option maxRecDepth 100000 in
set_option maxHeartbeats 4000000 in
theorem cloneAnswer_any (d : Int) (u : ByteArray) (w : World) (hu : u.size ≤ 281474976710656) : Calls Try.prog 41 #[.agg #[.int .i64 d, .string u]] w fun e w' => e = .returned (.agg #[.int .i64 d, .string u]) ∧ Below w.heap.size w w' := by
  obtain ⟨V, hV⟩ : ∃ V, V = (w.alloc (.cells #[.int .i64 d, .string u] 31)).alloc (.cells #[.int .i64 0, .string ⟨#[]⟩] 31) := ⟨_, rfl⟩
  have hB0 : Below w.heap.size w V := by rw [hV]; exact ((Below.refl _ _).alloc (Nat.le_refl _) _).alloc (by simp) _
  have hX0 : V.heap[w.heap.size]? = some (.cells #[.int .i64 d, .string u] 31 (0, 0)) := by rw [hV, Below.heap_alloc _ _ _ (by simp)]; exact heap_alloc_new _ _
  have hY0 : V.heap[w.heap.size + 1]? = some (.cells #[.int .i64 0, .string ⟨#[]⟩] 31 (0, 0)) := by rw [hV]; have := heap_alloc_new (w.alloc (.cells #[.int .i64 d, .string u] 31)) (.cells #[.int .i64 0, .string ⟨#[]⟩] 31); simpa using this
  have HC1 := hide (fun W => SClone_any u W hu)
  obtain ⟨x0, x1, xf⟩ := two hX0
  have HV := hide hV
  have HB0 := hide hB0
  have HX0 := hide hX0
  have HY0 := hide hY0
  clear hB0 hX0 hY0 hV
  go_enter Try.func41, Try.ntmps41
  go_wp2_with fail
  rw [← unhide HV]
  refine ((unhide HC1) _).mono ?_
  rintro e w1 ⟨rfl, b1⟩
  clear x0 x1 xf
  have hX1 := (b1.block _ (Array.getElem?_eq_some_iff.1 (unhide HX0)).1).trans (unhide HX0)
  have hY1 := (b1.block _ (Array.getElem?_eq_some_iff.1 (unhide HY0)).1).trans (unhide HY0)
  have hS1 := set_same (j := 1) (x := .string u) hX1 rfl
  have hT1 : (w1.setCell ⟨w.heap.size, 1, none⟩ (.string u)).heap[w.heap.size + 1]? = _ := (Below.heap_setCell w1 _ _ _ (by simp)).trans hY1
  have hbx := below_set (j := 1) (x := .string u) ((unhide HB0).trans (b1.mono (unhide HB0).size)) (Nat.le_refl w.heap.size)
  obtain ⟨V1, hV1⟩ : ∃ V, V = w1.setCell ⟨w.heap.size, 1, none⟩ (.string u) := ⟨_, rfl⟩
  rw [← hV1] at hS1 hT1 hbx
  obtain ⟨V5, hV5⟩ : ∃ V, V = V1.setRow (w.heap.size + 1) #[.int .i64 d, .string u] := ⟨_, rfl⟩
  have hZ : V5.heap[w.heap.size + 1]? = some (.cells #[.int .i64 d, .string u] 31 (0, 0)) := by rw [hV5]; exact setRow_heap V1 (w.heap.size + 1) _ _ 31 (0, 0) hT1
  have hB5 : Below w.heap.size w V5 := by
    have h := hbx
    rw [hV5]
    exact ⟨h.os, h.tape, h.output, by simp [World.setRow]; exact h.size, fun k hk => (setRow_other V1 (w.heap.size + 1) k _ (by omega)).trans (h.block k hk)⟩
  obtain ⟨z0, z1, _⟩ := two hZ
  obtain ⟨x0, x1, xf⟩ := two hX1
  have HB5 := hide hB5
  rw [hV1] at hV5
  have hYn := (Below.heap_setCell w1 ⟨w.heap.size, 1, none⟩ (.string u) (w.heap.size + 1) (by simp)).trans hY1
  clear hB5 hZ hX1 hY1 hS1 hT1 hbx hV1 b1
  go_wp2_with (refine wpList_store_row rfl 31 _ _ rfl (w.heap.size + 1) #[.int .i64 d, .string u] rfl rfl 31 _ hYn info31s rfl (by simp [Value.oneCell']) ?_)
  rw [← hV5]
  refine bodyPost_ret (v := .agg #[.int .i64 d, .string u]) (by simp [results, Try.results41, go_sem, z0, z1]) rfl ⟨rfl, unhide HB5⟩

theorem keep_set {W : World} {b i j : Nat} {u v : Value} (hi : W.cell? ⟨b, i, none⟩ = some u) (hj : W.cell? ⟨b, j, none⟩ = some v) : (W.setCell ⟨b, i, none⟩ u).cell? ⟨b, j, none⟩ = some v := by
  by_cases h : i = j
  · subst h
    rw [hi] at hj
    rw [World.cell?_setCell_same _ _ _ hi]
    exact hj
  · rw [World.cell?_setCell_other _ _ _ _ (by simp [h])]
    exact hj
theorem keep3 {W : World} {b i1 i2 i3 : Nat} {u1 u2 u3 : Value} (h : W.cell? ⟨b, i1, none⟩ = some u1 ∧ W.cell? ⟨b, i2, none⟩ = some u2 ∧ W.cell? ⟨b, i3, none⟩ = some u3) {i : Nat} {u : Value} (hi : W.cell? ⟨b, i, none⟩ = some u) :
    (W.setCell ⟨b, i, none⟩ u).cell? ⟨b, i1, none⟩ = some u1 ∧ (W.setCell ⟨b, i, none⟩ u).cell? ⟨b, i2, none⟩ = some u2 ∧ (W.setCell ⟨b, i, none⟩ u).cell? ⟨b, i3, none⟩ = some u3 := ⟨keep_set hi h.1, keep_set hi h.2.1, keep_set hi h.2.2⟩

/-- A block whose cells stand, but for stores of what stands there. -/
theorem Below.via {n : Nat} {w0 w w' : World} (h : Below n w0 w) (hs : w'.os = w.os ∧ w'.tape = w.tape ∧ w'.output = w.output ∧ w.heap.size ≤ w'.heap.size) (hb : ∀ k, k < n → w'.heap[k]? = w.heap[k]?) : Below n w0 w' :=
  ⟨hs.1.trans h.os, hs.2.1.trans h.tape, hs.2.2.1.trans h.output, Nat.le_trans h.size hs.2.2.2, fun k hk => (hb k hk).trans (h.block k hk)⟩

set_option maxRecDepth 100000 in
set_option maxHeartbeats 4000000 in
theorem cloneCall_any (x : ACall) (w : World) (hx : SmallC x) : Calls Try.prog 40 #[.agg #[.int .i64 x.kind, .string x.name, .string x.dst, .string x.text]] w fun e w' => e = .returned (.agg #[.int .i64 x.kind, .string x.name, .string x.dst, .string x.text]) ∧ Below w.heap.size w w' := by
  obtain ⟨h1, h2, h3⟩ := hx
  obtain ⟨k, a, b, t⟩ := x
  dsimp only at *
  obtain ⟨V, hV⟩ : ∃ V, V = (w.alloc (.cells #[.int .i64 k, .string a, .string b, .string t] 29)).alloc (.cells #[.int .i64 0, .string ⟨#[]⟩, .string ⟨#[]⟩, .string ⟨#[]⟩] 29) := ⟨_, rfl⟩
  have hB0 : Below w.heap.size w V := by rw [hV]; exact ((Below.refl _ _).alloc (Nat.le_refl _) _).alloc (by simp) _
  have hX0 : V.heap[w.heap.size]? = some (.cells #[.int .i64 k, .string a, .string b, .string t] 29 (0, 0)) := by rw [hV, Below.heap_alloc _ _ _ (by simp)]; exact heap_alloc_new _ _
  have hY0 : V.heap[w.heap.size + 1]? = some (.cells #[.int .i64 0, .string ⟨#[]⟩, .string ⟨#[]⟩, .string ⟨#[]⟩] 29 (0, 0)) := by rw [hV]; have := heap_alloc_new (w.alloc (.cells #[.int .i64 k, .string a, .string b, .string t] 29)) (.cells #[.int .i64 0, .string ⟨#[]⟩, .string ⟨#[]⟩, .string ⟨#[]⟩] 29); simpa using this
  have hzV : w.heap.size + 1 < V.heap.size := (Array.getElem?_eq_some_iff.1 hY0).1
  have HC1 := hide (fun W => SClone_any a W h1)
  have HC2 := hide (fun W => SClone_any b W h2)
  have HC3 := hide (fun W => SClone_any t W h3)
  obtain ⟨x0, x1, x2, x3, xf⟩ := four hX0
  have HV := hide hV
  have HB0 := hide hB0
  have HX0 := hide hX0
  have HY0 := hide hY0
  clear hB0 hX0 hY0 hV h1 h2 h3
  go_enter Try.func40, Try.ntmps40
  go_wp2_with fail
  rw [← unhide HV]
  have HF : Hid (∀ W, Below V.heap.size V W → W.cell? ⟨w.heap.size, 1, none⟩ = some (.string a) ∧ W.cell? ⟨w.heap.size, 2, none⟩ = some (.string b) ∧ W.cell? ⟨w.heap.size, 3, none⟩ = some (.string t) ∧ W.frozen? ⟨w.heap.size, 1, none⟩ = false ∧ W.frozen? ⟨w.heap.size, 2, none⟩ = false ∧ W.frozen? ⟨w.heap.size, 3, none⟩ = false) := fun W hW => by
    obtain ⟨_, y1, y2, y3, yf⟩ := four ((hW.block _ (by omega)).trans (unhide HX0))
    exact ⟨y1, y2, y3, yf _, yf _, yf _⟩
  have xf1 := xf 1
  have xf2 := xf 2
  have xf3 := xf 3
  clear xf
  go_region_held3 (fun W => W.cell? ⟨w.heap.size, 1, none⟩ = some (.string a) ∧ W.cell? ⟨w.heap.size, 2, none⟩ = some (.string b) ∧ W.cell? ⟨w.heap.size, 3, none⟩ = some (.string t)) (first | (go_keep; done) | (exact keep3 (by assumption) (And.left (by assumption))) | (exact keep3 (by assumption) (And.left (And.right (by assumption)))) | (exact keep3 (by assumption) (And.right (And.right (by assumption))))) (first
    | (go_at_call 44; refine ((unhide HC1) _).mono ?_; rintro e w1 ⟨rfl, b1⟩; have bV1 := (below_drew V).trans b1; obtain ⟨p1, p2, p3, p4, p5, p6⟩ := (unhide HF) w1 bV1)
    | (go_at_call 44; refine ((unhide HC2) _).mono ?_; rintro e w2 ⟨rfl, b2⟩; have bV2 := bV1.trans (b2.mono bV1.size); obtain ⟨q1, q2, q3, q4, q5, q6⟩ := (unhide HF) w2 bV2)
    | (go_at_call 44; refine ((unhide HC3) _).mono ?_; rintro e w3 ⟨rfl, b3⟩; have bV3 := bV2.trans (b3.mono bV2.size); obtain ⟨r1, r2, r3, r4, r5, r6⟩ := (unhide HF) w3 bV3))
  all_goals
    have hX3 := (bV3.block _ (by omega)).trans (unhide HX0)
    have hY3 := (bV3.block _ hzV).trans (unhide HY0)
    have hX4 := set_same (j := 3) (x := .string t) (set_same (j := 2) (x := .string b) (set_same (j := 1) (x := .string a) hX3 rfl) rfl) rfl
    obtain ⟨W4, hW4⟩ : ∃ W, W = ((w3.setCell ⟨w.heap.size, 1, none⟩ (.string a)).setCell ⟨w.heap.size, 2, none⟩ (.string b)).setCell ⟨w.heap.size, 3, none⟩ (.string t) := ⟨_, rfl⟩
    have hY4 : W4.heap[w.heap.size + 1]? = some (.cells #[.int .i64 0, .string ⟨#[]⟩, .string ⟨#[]⟩, .string ⟨#[]⟩] 29 (0, 0)) := by
      rw [hW4, Below.heap_setCell _ _ _ _ (by simp), Below.heap_setCell _ _ _ _ (by simp), Below.heap_setCell _ _ _ _ (by simp)]
      exact hY3
    have hB4 : Below w.heap.size w W4 := by
      rw [hW4]
      exact below_set (below_set (below_set ((unhide HB0).trans (bV3.mono (unhide HB0).size)) (Nat.le_refl _)) (Nat.le_refl _)) (Nat.le_refl _)
    rw [← hW4] at hX4
    obtain ⟨m0, m1, m2, m3, mf⟩ := four hX4
    obtain ⟨V5, hV5⟩ : ∃ V, V = W4.setRow (w.heap.size + 1) #[.int .i64 k, .string a, .string b, .string t] := ⟨_, rfl⟩
    have hZ : V5.heap[w.heap.size + 1]? = some (.cells #[.int .i64 k, .string a, .string b, .string t] 29 (0, 0)) := by rw [hV5]; exact setRow_heap W4 (w.heap.size + 1) _ _ 29 (0, 0) hY4
    have hB5 : Below w.heap.size w V5 := by
      rw [hV5]
      exact ⟨hB4.os, hB4.tape, hB4.output, by simp [World.setRow]; exact hB4.size, fun k hk => (setRow_other W4 (w.heap.size + 1) k _ (by omega)).trans (hB4.block k hk)⟩
    obtain ⟨z0, z1, z2, z3, _⟩ := four hZ
    have HB5 := hide hB5
    rw [← hW4]
    clear hB5 hZ hX3 hY3 hX4 hB4 hW4 p1 p2 p3 p4 p5 p6 q1 q2 q3 q4 q5 q6 r1 r2 r3 r4 r5 r6 b1 b2 b3 bV1 bV2 bV3 x0 x1 x2 x3 xf1 xf2 xf3 mf
    go_wp2_with (refine wpList_store_row rfl 29 _ _ rfl (w.heap.size + 1) #[.int .i64 k, .string a, .string b, .string t] rfl rfl 29 _ hY4 info29s rfl (by simp [Value.oneCell']) ?_)
    rw [← hV5]
    refine bodyPost_ret (v := .agg #[.int .i64 k, .string a, .string b, .string t]) (by simp [results, Try.results40, go_sem, z0, z1, z2, z3]) rfl ⟨rfl, unhide HB5⟩

end Go.Proofs.Ytfpommjolbipmab
