/- Texts joined, what is needed of them: Pc Pd Pe Pf Pg Pi V0 Ka Va Vb Kb Kc Kd Ke Kf. -/
import Derived.Test.YtmbhbnoifimeaabGreatQC3
namespace Go.Proofs.YtmbhbnoifimeaabGreat
open Go.RowKit
set_option linter.unusedSimpArgs false
set_option linter.unusedVariables false

set_option maxHeartbeats 1000000 in
theorem round_P {N : Nat} {w : World} {P : Nat} {v : Value} {ms : List APkt} (h : PRep 115 N w P v ms) (n : Int) {k : Nat} (hk : ms.length = k) (h0 : 0 < k) : Calls Tryz.prog 96 #[.pointer (some ⟨P, 0, none⟩), .int .i64 n] w fun e w' => e = .returned (.int .i64 (rnd n k : Int)) ∧ w' = w := by
  obtain ⟨a, c, rfl⟩ := h.form
  have hc := h.can.1
  have hv := rnd_val n h0 (by rw [← hk]; exact h.few)
  have hne : ¬ (IntKind.u64.wrap (k : Int) = 0) := by rw [wrap_u]; have := h.few; omega
  rw [hk] at hc
  clear h
  go_enter Tryz.func96, Tryz.ntmps96
  go_wp2
  go_ret
  exact ⟨congrArg (fun b => Ending.returned (.int .i64 b)) hv, rfl⟩
theorem nine {w : World} {b : Nat} {x0 x1 x2 x3 x4 x5 x6 x7 x8 : Value} {e : TypeId} (h : w.heap[b]? = some (.cells #[x0, x1, x2, x3, x4, x5, x6, x7, x8] e (0, 0))) :
    (w.cell? ⟨b, 0, none⟩ = some x0 ∧ w.cell? ⟨b, 1, none⟩ = some x1 ∧ w.cell? ⟨b, 2, none⟩ = some x2 ∧ w.cell? ⟨b, 3, none⟩ = some x3) ∧ (w.cell? ⟨b, 4, none⟩ = some x4 ∧ w.cell? ⟨b, 5, none⟩ = some x5 ∧ w.cell? ⟨b, 6, none⟩ = some x6 ∧ w.cell? ⟨b, 7, none⟩ = some x7 ∧ w.cell? ⟨b, 8, none⟩ = some x8) ∧ ∀ j, w.frozen? ⟨b, j, none⟩ = false := by
  refine ⟨⟨?_, ?_, ?_, ?_⟩, ⟨?_, ?_, ?_, ?_, ?_⟩, fun j => frozen_of_row w b j _ _ h⟩ <;> rw [cell_of_row w b _ _ _ _ h] <;> rfl
theorem infoP : (Tryz.prog.info? 92).map (·.size) = some 9 := by kernel_rfl
/-- A text of a packet's block set to what it is. -/
theorem set_same {w : World} {b : Nat} {C : Array Value} {e : TypeId} {j : Nat} {x : Value} (h : w.heap[b]? = some (.cells C e (0, 0))) (hx : C[j]? = some x) : (w.setCell ⟨b, j, none⟩ x).heap[b]? = some (.cells C e (0, 0)) := by
  rw [heap_setCell_same h x]
  congr 2
  obtain ⟨hj, hx⟩ := Array.getElem?_eq_some_iff.1 hx
  apply Array.ext
  · simp
  · intro i h1 h2
    rw [Array.getElem_setIfInBounds]
    split
    · rename_i hi; subst hi; exact hx.symm
    · rfl
theorem below_set {n : Nat} {w0 w : World} {b j : Nat} {x : Value} (h : Below n w0 w) (hb : n ≤ b) : Below n w0 (w.setCell ⟨b, j, none⟩ x) :=
  ⟨h.os, h.tape, h.output, by rw [setCell_size]; exact h.size, fun k hk => (Below.heap_setCell w _ x k (fun e => by simp at e; omega)).trans (h.block k hk)⟩

set_option maxRecDepth 100000 in
set_option maxHeartbeats 4000000 in
theorem clone_P (m : APkt) (w : World) (hm : SmallP m) : Calls Tryz.prog 63 #[m.val] w fun e w' => e = .returned m.val ∧ Below w.heap.size w w' := by
  obtain ⟨h1, h2, h3, h4⟩ := hm
  obtain ⟨y, c, n, ⟨k, a, b, t⟩, d, u⟩ := m
  dsimp only [APkt.val] at *
  obtain ⟨V, hV⟩ : ∃ V, V = (w.alloc (.cells #[.bool y, .int .i64 c, .int .i64 n, .int .i64 k, .string a, .string b, .string t, .int .i64 d, .string u] 92)).alloc (.cells #[.bool false, .int .i64 0, .int .i64 0, .int .i64 0, .string ⟨#[]⟩, .string ⟨#[]⟩, .string ⟨#[]⟩, .int .i64 0, .string ⟨#[]⟩] 92) := ⟨_, rfl⟩
  have hB0 : Below w.heap.size w V := by rw [hV]; exact ((Below.refl _ _).alloc (Nat.le_refl _) _).alloc (by simp) _
  have hX0 : V.heap[w.heap.size]? = some (.cells #[.bool y, .int .i64 c, .int .i64 n, .int .i64 k, .string a, .string b, .string t, .int .i64 d, .string u] 92 (0, 0)) := by rw [hV, Below.heap_alloc _ _ _ (by simp)]; exact heap_alloc_new _ _
  have hY0 : V.heap[w.heap.size + 1]? = some (.cells #[.bool false, .int .i64 0, .int .i64 0, .int .i64 0, .string ⟨#[]⟩, .string ⟨#[]⟩, .string ⟨#[]⟩, .int .i64 0, .string ⟨#[]⟩] 92 (0, 0)) := by rw [hV]; have := heap_alloc_new (w.alloc (.cells #[.bool y, .int .i64 c, .int .i64 n, .int .i64 k, .string a, .string b, .string t, .int .i64 d, .string u] 92)) (.cells #[.bool false, .int .i64 0, .int .i64 0, .int .i64 0, .string ⟨#[]⟩, .string ⟨#[]⟩, .string ⟨#[]⟩, .int .i64 0, .string ⟨#[]⟩] 92); simpa using this
  have HV := hide hV
  have HC1 := hide (fun W => SClone_any a W h1)
  have HC2 := hide (fun W => SClone_any b W h2)
  have HC3 := hide (fun W => SClone_any t W h3)
  have HC4 := hide (fun W => SClone_any u W h4)
  have HB0 := hide hB0
  have HX0 := hide hX0
  have HY0 := hide hY0
  obtain ⟨⟨x0, x1, x2, x3⟩, ⟨x4, x5, x6, x7, x8⟩, xf⟩ := nine hX0
  clear hB0 hX0 hY0 hV h1 h2 h3 h4
  go_enter Tryz.func63, Tryz.ntmps63
  go_wp2_with fail
  rw [← unhide HV]
  refine ((unhide HC1) _).mono ?_
  rintro e w1 ⟨rfl, b1⟩
  clear x0 x1 x2 x3 x4 x5 x6 x7 x8 xf
  have hX1 := (b1.block _ (Array.getElem?_eq_some_iff.1 (unhide HX0)).1).trans (unhide HX0)
  have hY1 := (b1.block _ (Array.getElem?_eq_some_iff.1 (unhide HY0)).1).trans (unhide HY0)
  have hS1 := set_same (j := 4) (x := .string a) hX1 rfl
  have hT1 : (w1.setCell ⟨w.heap.size, 4, none⟩ (.string a)).heap[w.heap.size + 1]? = _ := (Below.heap_setCell w1 _ _ _ (by simp)).trans hY1
  have hbx := below_set (j := 4) (x := .string a) ((unhide HB0).trans (b1.mono (unhide HB0).size)) (Nat.le_refl w.heap.size)
  obtain ⟨⟨x0, x1, x2, x3⟩, ⟨x4, x5, x6, x7, x8⟩, xf⟩ := nine hX1
  obtain ⟨V1, hV1⟩ : ∃ V, V = w1.setCell ⟨w.heap.size, 4, none⟩ (.string a) := ⟨_, rfl⟩
  rw [← hV1] at hS1 hT1 hbx
  have HX1 := hide hS1
  have HY1 := hide hT1
  have HB1 := hide hbx
  have HV1 := hide hV1
  clear b1 hX1 hY1 hS1 hT1 hbx hV1
  go_wp2_with fail
  rw [← unhide HV1]
  refine ((unhide HC2) _).mono ?_
  rintro e w2 ⟨rfl, b2⟩
  clear x0 x1 x2 x3 x4 x5 x6 x7 x8 xf
  have hX2 := (b2.block _ (Array.getElem?_eq_some_iff.1 (unhide HX1)).1).trans (unhide HX1)
  have hY2 := (b2.block _ (Array.getElem?_eq_some_iff.1 (unhide HY1)).1).trans (unhide HY1)
  have hS2 := set_same (j := 5) (x := .string b) hX2 rfl
  have hT2 : (w2.setCell ⟨w.heap.size, 5, none⟩ (.string b)).heap[w.heap.size + 1]? = _ := (Below.heap_setCell w2 _ _ _ (by simp)).trans hY2
  have hbx := below_set (j := 5) (x := .string b) ((unhide HB1).trans (b2.mono (unhide HB1).size)) (Nat.le_refl w.heap.size)
  obtain ⟨⟨x0, x1, x2, x3⟩, ⟨x4, x5, x6, x7, x8⟩, xf⟩ := nine hX2
  obtain ⟨V2, hV2⟩ : ∃ V, V = w2.setCell ⟨w.heap.size, 5, none⟩ (.string b) := ⟨_, rfl⟩
  rw [← hV2] at hS2 hT2 hbx
  have HX2 := hide hS2
  have HY2 := hide hT2
  have HB2 := hide hbx
  have HV2 := hide hV2
  clear b2 hX2 hY2 hS2 hT2 hbx hV2
  go_wp2_with fail
  rw [← unhide HV2]
  refine ((unhide HC3) _).mono ?_
  rintro e w3 ⟨rfl, b3⟩
  clear x0 x1 x2 x3 x4 x5 x6 x7 x8 xf
  have hX3 := (b3.block _ (Array.getElem?_eq_some_iff.1 (unhide HX2)).1).trans (unhide HX2)
  have hY3 := (b3.block _ (Array.getElem?_eq_some_iff.1 (unhide HY2)).1).trans (unhide HY2)
  have hS3 := set_same (j := 6) (x := .string t) hX3 rfl
  have hT3 : (w3.setCell ⟨w.heap.size, 6, none⟩ (.string t)).heap[w.heap.size + 1]? = _ := (Below.heap_setCell w3 _ _ _ (by simp)).trans hY3
  have hbx := below_set (j := 6) (x := .string t) ((unhide HB2).trans (b3.mono (unhide HB2).size)) (Nat.le_refl w.heap.size)
  obtain ⟨⟨x0, x1, x2, x3⟩, ⟨x4, x5, x6, x7, x8⟩, xf⟩ := nine hX3
  obtain ⟨V3, hV3⟩ : ∃ V, V = w3.setCell ⟨w.heap.size, 6, none⟩ (.string t) := ⟨_, rfl⟩
  rw [← hV3] at hS3 hT3 hbx
  have HX3 := hide hS3
  have HY3 := hide hT3
  have HB3 := hide hbx
  have HV3 := hide hV3
  clear b3 hX3 hY3 hS3 hT3 hbx hV3
  go_wp2_with fail
  rw [← unhide HV3]
  refine ((unhide HC4) _).mono ?_
  rintro e w4 ⟨rfl, b4⟩
  clear x0 x1 x2 x3 x4 x5 x6 x7 x8 xf
  have hX4 := (b4.block _ (Array.getElem?_eq_some_iff.1 (unhide HX3)).1).trans (unhide HX3)
  have hY4 := (b4.block _ (Array.getElem?_eq_some_iff.1 (unhide HY3)).1).trans (unhide HY3)
  have hS4 := set_same (j := 8) (x := .string u) hX4 rfl
  have hT4 : (w4.setCell ⟨w.heap.size, 8, none⟩ (.string u)).heap[w.heap.size + 1]? = _ := (Below.heap_setCell w4 _ _ _ (by simp)).trans hY4
  have hbx := below_set (j := 8) (x := .string u) ((unhide HB3).trans (b4.mono (unhide HB3).size)) (Nat.le_refl w.heap.size)
  obtain ⟨⟨x0, x1, x2, x3⟩, ⟨x4, x5, x6, x7, x8⟩, xf⟩ := nine hX4
  obtain ⟨V4, hV4⟩ : ∃ V, V = w4.setCell ⟨w.heap.size, 8, none⟩ (.string u) := ⟨_, rfl⟩
  rw [← hV4] at hS4 hT4 hbx
  have HX4 := hide hS4
  have HY4 := hide hT4
  have HB4 := hide hbx
  have HV4 := hide hV4
  clear b4 hX4 hS4 hT4 hbx hV4
  have hYn := (Below.heap_setCell w4 ⟨w.heap.size, 8, none⟩ (.string u) (w.heap.size + 1) (by simp)).trans hY4
  obtain ⟨V5, hV5⟩ : ∃ V, V = V4.setRow (w.heap.size + 1) #[.bool y, .int .i64 c, .int .i64 n, .int .i64 k, .string a, .string b, .string t, .int .i64 d, .string u] := ⟨_, rfl⟩
  have hZ : V5.heap[w.heap.size + 1]? = some (.cells #[.bool y, .int .i64 c, .int .i64 n, .int .i64 k, .string a, .string b, .string t, .int .i64 d, .string u] 92 (0, 0)) := by rw [hV5]; exact setRow_heap V4 (w.heap.size + 1) _ _ 92 (0, 0) (unhide HY4)
  have hB5 : Below w.heap.size w V5 := by
    have h := unhide HB4
    rw [hV5]
    exact ⟨h.os, h.tape, h.output, by simp [World.setRow]; exact h.size, fun k hk => (setRow_other V4 (w.heap.size + 1) k _ (by omega)).trans (h.block k hk)⟩
  obtain ⟨⟨z0, z1, z2, z3⟩, ⟨z4, z5, z6, z7, z8⟩, _⟩ := nine hZ
  have HB5 := hide hB5
  rw [unhide HV4] at hV5
  clear hB5 hZ
  go_wp2_with (refine wpList_store_row rfl 92 _ _ rfl (w.heap.size + 1) #[.bool y, .int .i64 c, .int .i64 n, .int .i64 k, .string a, .string b, .string t, .int .i64 d, .string u] rfl rfl 92 _ hYn infoP rfl (by simp [Value.oneCell']) ?_)
  rw [← hV5]
  clear x0 x1 x2 x3 x4 x5 x6 x7 x8 xf hYn
  refine bodyPost_ret (v := .agg #[.bool y, .int .i64 c, .int .i64 n, .int .i64 k, .string a, .string b, .string t, .int .i64 d, .string u]) (by simp [results, Tryz.results63, go_sem, z0, z1, z2, z3, z4, z5, z6, z7, z8]) rfl ⟨rfl, unhide HB5⟩

end Go.Proofs.YtmbhbnoifimeaabGreat

namespace Go.Proofs.YtmbhbnoifimeaabGreat
open Go.RowKit
set_option linter.unusedSimpArgs false
set_option linter.unusedVariables false

theorem infoPP : (Tryz.prog.info? 92).map (fun i => (i.zero, i.size, i.bytes)) = some (some (.agg #[.bool false, .int .i64 0, .int .i64 0, .int .i64 0, .string ⟨#[]⟩, .string ⟨#[]⟩, .string ⟨#[]⟩, .int .i64 0, .string ⟨#[]⟩]), 9, 104) := by kernel_rfl

/-- One packet more. -/
theorem PRep.push {t : TypeId} {N : Nat} {w w3 : World} {P : Nat} {v : Value} {ms : List APkt} (hr : PRep t N w P v ms) {g cap n : Nat} {m : APkt} (hg : w.grownBy w3 v.ownBlock) (hn : n = ms.length + 1) (hl : ms.length < 40) (hm : SmallP m)
    (hown : w3.ownsRow N 92 9 (.slice (some ⟨g, 0, none⟩) n cap) n (ms.flatMap pcells ++ pcells m)) (hat : v.ownBlock = some g ∨ g = w.heap.size) :
    PTurn t N w P v (w3.setCell ⟨P, 0, none⟩ (.slice (some ⟨g, 0, none⟩) n cap)) (ms ++ [m]) := by
  have hP := hr.lt
  have hgP : g ≠ P := by
    rcases hat with h | h
    · intro e; subst e; exact hr.nd h
    · omega
  have hold : ∀ k, k < w.heap.size → v.ownBlock ≠ some k → w3.heap[k]? = w.heap[k]? := fun k hk hne => hg.block k hk (fun e => hne e.symm)
  refine ⟨.slice (some ⟨g, 0, none⟩) n cap, ⟨hr.new, ?_, ?_, ?_, ?_, ?_⟩, ?_, ?_⟩
  · rw [heap_setCell_same (c := #[v]) (e := t) (fr := (0, 0))]
    · simp
    · rw [hold P hP hr.nd]; exact hr.blk
  · have : w3.ownsRow N 92 9 (.slice (some ⟨g, 0, none⟩) n cap) (ms ++ [m]).length ((ms ++ [m]).flatMap pcells) := by
      have e1 : (ms ++ [m]).length = n := by simp [hn]
      have e2 : (ms ++ [m]).flatMap pcells = ms.flatMap pcells ++ pcells m := by simp
      rw [e1, e2]; exact hown
    exact ownsRow_same this fun k hk => by
      have : k = g := by simpa [Value.ownBlock] using hk.symm
      rw [this]
      exact Below.heap_setCell _ _ _ _ hgP
  · intro e
    simp [Value.ownBlock] at e
    exact hgP e
  · simp; omega
  · intro x hx
    rcases List.mem_append.1 hx with hx | hx
    · exact hr.small x hx
    · simp at hx; subst hx; exact hm
  · have k1 : Kept (powns P v) w w3 := ⟨hg.os, hg.tape, hg.output, hg.size, fun k hk hn => hold k hk (fun e => hn (List.mem_cons_of_mem _ (by simp [e])))⟩
    exact k1.trans (kept_setCell (powns P v) _ _ _ _ List.mem_cons_self) (fun x hx => .inl hx)
  · intro k hk
    rcases List.mem_cons.1 hk with rfl | hk
    · exact .inl List.mem_cons_self
    · have : k = g := by simpa [Value.ownBlock] using hk
      rcases hat with h1 | h1
      · exact .inl (List.mem_cons_of_mem _ (by rw [this]; simp [h1]))
      · right; omega

set_option maxRecDepth 100000 in
set_option maxHeartbeats 4000000 in
theorem Send_P {N : Nat} {w : World} {P : Nat} {v : Value} {ms : List APkt} (h : PRep 115 N w P v ms) (m : APkt) (hm : SmallP m) (hl : ms.length < 40) :
    Calls Tryz.prog 69 #[.pointer (some ⟨P, 0, none⟩), m.val] w fun e w' => e = .returned (.bool true) ∧ PTurn 115 N w P v w' (ms ++ [m]) := by
  obtain ⟨i0, hi0, hz0, hz1, hz2⟩ := info_parts infoPP
  obtain ⟨k, hk⟩ : ∃ k, ms.length = k := ⟨_, rfl⟩
  have HK := hide hk
  obtain ⟨a, cap, rfl⟩ := h.form
  have nB := h.nd
  have HR := hide h
  have HCL := hide (fun W => clone_P m W hm)
  have HSM := hide hm
  rw [hk] at HR nB
  have hk40 : k < 40 := by omega
  obtain ⟨V, hV⟩ : ∃ V, V = w.alloc (.cells (pArr m) 92) := ⟨_, rfl⟩
  have hBV : Below w.heap.size w V := by rw [hV]; exact (Below.refl _ _).alloc (Nat.le_refl _) _
  have hXV : V.heap[w.heap.size]? = some (.cells (pArr m) 92 (0, 0)) := by rw [hV]; exact heap_alloc_new _ _
  have hrV := (unhide HR).below hBV
  have HFU := hide (full_P hrV hk)
  have HRV := hide hrV
  have HBV := hide hBV
  have HV := hide hV
  have HM : Hid (m = m) := rfl
  have hdec : decide (40 ≤ k) = false := by simp; omega
  rw [hdec] at HFU
  have HN : Hid (N ≤ w.heap.size) := Nat.le_trans h.new (Nat.le_of_lt h.lt)
  obtain ⟨M, hMM⟩ : ∃ M, M = m := ⟨_, rfl⟩
  have HMM := hide hMM
  obtain ⟨y, c, n, ⟨kk, s1, s2, s3⟩, d, u⟩ := m
  dsimp only [APkt.val, pArr] at *
  obtain ⟨⟨x0, x1, x2, x3⟩, ⟨x4, x5, x6, x7, x8⟩, xf⟩ := nine hXV
  have hc1 := hrV.can.1
  have hf1 := hrV.can.2
  have hPV : P < V.heap.size := hrV.lt
  clear h hm hk hl hBV hXV hrV hV hMM hdec HM
  go_enter Tryz.func69, Tryz.ntmps69
  go_wp2_with fail
  rw [← unhide HV]
  refine (unhide HFU).mono ?_
  rintro e w0 ⟨rfl, hw0⟩
  obtain rfl := hw0.symm
  clear hw0
  go_wp2_with fail
  have HO : Hid (∀ wx, Below V.drew.heap.size V.drew wx → wx.ownsRow N 92 9 (.slice a k cap) k (ms.flatMap pcells)) := fun wx hb => by have := ((unhide HRV).below (w' := wx) ⟨hb.os, hb.tape, hb.output, hb.size, hb.block⟩).row; rw [unhide HK] at this; exact this
  have HF : Hid (∀ wx, Below V.drew.heap.size V.drew wx → Can wx P 0 (.slice a k cap)) := fun wx hb => Can.below (w := V.drew) ⟨hc1, hf1⟩ hb hPV
  go_region_law (first
      | (go_simp; go_at_call 63; refine ((unhide HCL) _).mono ?_; rintro e w1 ⟨rfl, b1⟩; have hc2 := (HF.out w1 b1); have hc3 := hc2.1; have hf3 := hc2.2; have hzB : P < w1.heap.size := hc2.lt; clear hc2)
      | (refine step_append_lies _ (by rfl) _ _ _ (by rfl) N 92 i0 _ 9 104 Tryz.underlying39 hi0 hz0 hz1 hz2 rfl (by omega) (.slice a k cap) k (ms.flatMap pcells) (by rfl) ((HO.out w1 b1).alloc _)
          ⟨w1.heap.size, 0, none⟩ 1 1 [.bool y, .int .i64 c, .int .i64 n, .int .i64 kk, .string s1, .string s2, .string s3, .int .i64 d, .string u] (by rfl) (by rfl) (World.news_of_block (cs := #[.bool y, .int .i64 c, .int .i64 n, .int .i64 kk, .string s1, .string s2, .string s3, .int .i64 d, .string u]) (t := 92) (fr := (0, 0)) (heap_alloc_new w1 _)) (by simp [Value.oneCell'])
          (by omega) (by unfold maxLen; omega) (by omega) (by have h1 := b1.size; have h2 : V.drew.heap.size = V.heap.size := rfl; have h3 := (unhide HBV).size; have h4 := unhide HN; simp; omega) (w1.heap.size + 1) (by simp) ?_; intro g cap' w2 hown2 hgrow hat hlt; have hc2 := ((HF.out w1 b1).alloc _).grown hgrow nB; have hc3 := hc2.1; have hf3 := hc2.2))
  all_goals
    have hz : w.heap.size ≤ w1.heap.size := Nat.le_trans (unhide HBV).size b1.size
    have hbw : Below w.heap.size w (w1.alloc (Obj.cells #[.bool y, .int .i64 c, .int .i64 n, .int .i64 kk, .string s1, .string s2, .string s3, .int .i64 d, .string u] 92)) := ((unhide HBV).drew.trans (b1.mono (unhide HBV).size)).alloc hz _
    have hT := ((unhide HR).below hbw).push hgrow (by rw [unhide HK]) (by rw [unhide HK]; exact hk40) (unhide HSM) hown2 (by rw [al_size]; exact hat)
    have HT := hide (hT.before hbw)
    clear hT hbw hz hown2 hgrow hat hlt hc2 hc3 hf3
    go_wp2
    go_ret
    exact ⟨rfl, by rw [unhide HK]; exact unhide HT⟩

set_option maxRecDepth 100000 in
set_option maxHeartbeats 4000000 in
theorem Send_Pfull {N : Nat} {w : World} {P : Nat} {v : Value} {ms : List APkt} (h : PRep 115 N w P v ms) (m : APkt) (hl : ¬ ms.length < 40) :
    Calls Tryz.prog 69 #[.pointer (some ⟨P, 0, none⟩), m.val] w fun e w' => e = .returned (.bool false) ∧ PTurn 115 N w P v w' ms := by
  obtain ⟨V, hV⟩ : ∃ V, V = w.alloc (.cells (pArr m) 92) := ⟨_, rfl⟩
  have hBV : Below w.heap.size w V := by rw [hV]; exact (Below.refl _ _).alloc (Nat.le_refl _) _
  have HFU := hide (full_P (h.below hBV) rfl)
  rw [show decide (40 ≤ ms.length) = true by simp; omega] at HFU
  have HT := hide (PTurn.of_below h hBV)
  have HV := hide hV
  obtain ⟨y, c, n, ⟨kk, s1, s2, s3⟩, d, u⟩ := m
  dsimp only [APkt.val, pArr] at *
  clear h hl hBV hV
  go_enter Tryz.func69, Tryz.ntmps69
  go_wp2_with fail
  rw [← unhide HV]
  refine (unhide HFU).mono ?_
  rintro e w0 ⟨rfl, hw0⟩
  obtain rfl := hw0.symm
  clear hw0
  go_wp2
  go_ret
  exact ⟨rfl, unhide HT⟩

end Go.Proofs.YtmbhbnoifimeaabGreat

namespace Go.Proofs.YtmbhbnoifimeaabGreat
open Go.RowKit
set_option linter.unusedSimpArgs false
set_option linter.unusedVariables false

theorem ptake_snoc (ms : List APkt) (k : Nat) (m : APkt) (h : ms[k]? = some m) : (ms.take (k + 1)).flatMap pcells = (ms.take k).flatMap pcells ++ pcells m := by
  rw [List.take_add_one, h]
  simp

set_option maxRecDepth 100000 in
set_option maxHeartbeats 4000000 in
theorem List_P {N : Nat} {w : World} {P : Nat} {v : Value} {ms : List APkt} (h : PRep 115 N w P v ms) {n : Nat} (hn : ms.length = n) :
    Calls Tryz.prog 42 #[.pointer (some ⟨P, 0, none⟩)] w fun e w' => ∃ g cap, e = .returned (.slice (some ⟨g, 0, none⟩) n cap) ∧ w'.ownsRow w.heap.size 92 9 (.slice (some ⟨g, 0, none⟩) n cap) n (ms.flatMap pcells) ∧ Below w.heap.size w w' := by
  obtain ⟨i0, hi0, hz0, hz1, hz2⟩ := info_parts infoPP
  have hlen : n ≤ 40 := by rw [← hn]; exact h.few
  have hB : P < w.heap.size := h.lt
  have hc := h.can.1
  obtain ⟨a, cap, rfl⟩ := h.form
  rw [hn] at hc
  have HP := hide (pkts_row h.row rfl)
  rw [hn] at HP
  have HSM := hide h.small
  have HN := hide hn
  clear h hn
  go_enter Tryz.func42, Tryz.ntmps42
  go_wp2_with (refine wpList_make_own _ rfl _ _ 39 rfl w.heap.size 92 i0 _ 9 Tryz.underlying39 hi0 hz0 hz1 .i64 .i64 (n : Int) n rfl rfl rfl (by rw [hz2]; omega) (by unfold maxLen; omega) (Nat.le_refl _) ?_)
  intro w0 hown0 hgr0
  have b0 : Below w.heap.size w w0 := (Below.refl _ _).grown hgr0 (Nat.le_refl _) (by simp)
  have hc0 := (b0.cell (p := ⟨P, 0, none⟩) hB).trans hc
  have HO0 := hide hown0
  have HB0 := hide b0
  clear hc hown0 b0 hgr0
  go_wp2
  go_loopw [3, 5, 17] (fun nv _ i wr => ∃ k : Nat, k ≤ n ∧ i = .int .i64 k ∧ Hid (Below w.heap.size w wr) ∧ Hid (∃ g c, nv = .slice (some ⟨g, 0, none⟩) k c) ∧ Hid (wr.ownsRow w.heap.size 92 9 nv k ((ms.take k).flatMap pcells))) (fun _ _ i _ => n - (intOf i).toNat)
  case atStart => exact ⟨0, Nat.zero_le _, rfl, unhide HB0, ⟨_, _, rfl⟩, (by simpa using unhide HO0 : w0.ownsRow w.heap.size 92 9 (Value.slice (some ⟨w.heap.size, 0, none⟩) 0 n) 0 ((ms.take 0).flatMap pcells))⟩
  case round =>
    obtain ⟨k, hk, rfl, HB, ⟨g1, c1, rfl⟩, HO⟩ := hrel
    by_cases hlt : (k : Int) < (n : Int)
    · obtain ⟨x, hx⟩ : ∃ x, ms[k]? = some x := ⟨_, List.getElem?_eq_getElem (by rw [unhide HN]; omega)⟩
      obtain ⟨g, rfl, hc⟩ := ((unhide HP).below (unhide HB)).2 (by omega)
      obtain ⟨x0, x1, x2, x3, x4, x5, x6, x7, x8⟩ := hc k x hx
      have hgz : g < wr.heap.size := (hc k x hx).lt
      have HX := hide hx
      have hwz := (unhide HB).size
      have HCL := hide (fun W => clone_P x W ((unhide HSM) x (List.mem_of_getElem? hx)))
      clear hx hc
      have HL : Hid (∀ (wx : World) (o : Obj), Below (wr.heap.size + 1) (wr.alloc o) wx → wx.ownsRow w.heap.size 92 9 (.slice (some ⟨g1, 0, none⟩) k c1) k ((ms.take k).flatMap pcells)) := fun wx o hb =>
        ownsRow_same ((unhide HO).alloc o) (fun j hj => hb.block j (by have := (((unhide HO).alloc o).lt j hj).2; simpa using this))
      obtain ⟨y, c, nn, ⟨kk, s1, s2, s3⟩, d, u⟩ := x
      dsimp only [APkt.val] at *
      go_wp2_with (first
        | (at_builtin; refine wpList_append_lies _ rfl _ _ 39 rfl w.heap.size 92 i0 _ 9 104 Tryz.underlying39 hi0 hz0 hz1 hz2 rfl (by omega) (.slice (some ⟨g1, 0, none⟩) k c1) k ((ms.take k).flatMap pcells) rfl ((HL.out w1 _ b1').alloc _)
            ⟨w1.heap.size, 0, none⟩ 1 1 [.bool y, .int .i64 c, .int .i64 nn, .int .i64 kk, .string s1, .string s2, .string s3, .int .i64 d, .string u] rfl rfl (World.news_of_block (cs := #[.bool y, .int .i64 c, .int .i64 nn, .int .i64 kk, .string s1, .string s2, .string s3, .int .i64 d, .string u]) (t := 92) (fr := (0, 0)) (heap_alloc_new w1 _)) (by simp [Value.oneCell'])
            (by omega) (by unfold maxLen; omega) (by omega) (by have := b1.size; simp at this ⊢; omega) (w1.heap.size + 1) (by simp) ?_; intro g2 c2 w2 hown2 hgrow hat hlt2)
        | (go_at_call 63; refine ((unhide HCL) _).mono ?_; rintro e w1 ⟨rfl, b1⟩; have b1' := b1; rw [al_size] at b1'))
      go_roundw
      case rel =>
        have hb1 : Below w.heap.size w w1 := (((unhide HB).alloc hwz _).trans (b1.mono (by simp; omega)))
        have hz1 : w.heap.size ≤ w1.heap.size := hb1.size
        refine ⟨k + 1, by omega, by go_num, ?_, ⟨_, _, rfl⟩, ?_⟩
        · refine (hb1.alloc hz1 _).grown hgrow (by simp; omega) ?_
          intro j hj
          exact ((unhide HO).lt j hj).1
        · show w2.ownsRow _ _ _ _ _ _
          rw [ptake_snoc ms k _ (unhide HX)]
          exact hown2
      case measure => simp [intOf]; omega
    · obtain rfl : k = n := by omega
      have hown := unhide HO
      rw [List.take_of_length_le (by rw [unhide HN]; omega)] at hown
      have HO' := hide hown
      clear hown
      go_wp2
      go_ret
      exact ⟨g1, c1, rfl, unhide HO', unhide HB⟩

set_option maxRecDepth 100000 in
set_option maxHeartbeats 4000000 in
theorem Double_Pnot {N : Nat} {w : World} {P : Nat} {v : Value} {ms : List APkt} (h : PRep 115 N w P v ms) (n : Int) (hl : ms.length = 0 ∨ 40 ≤ ms.length) :
    Calls Tryz.prog 71 #[.pointer (some ⟨P, 0, none⟩), .int .i64 n] w fun e w' => e = .returned (.bool false) ∧ w' = w := by
  obtain ⟨k, hk⟩ : ∃ k, ms.length = k := ⟨_, rfl⟩
  have HFU := hide (full_P h hk)
  have hc := h.can.1
  obtain ⟨a, cap, rfl⟩ := h.form
  rw [hk] at hc hl
  clear h hk
  by_cases h0 : k = 0
  · subst h0
    go_enter Tryz.func71, Tryz.ntmps71
    go_wp2
    go_ret
    exact ⟨rfl, rfl⟩
  · rw [show decide (40 ≤ k) = true by simp; omega] at HFU
    have h0i : ((k : Int) == 0) = false := by simp; omega
    go_enter Tryz.func71, Tryz.ntmps71
    go_wp2_with fail
    refine (unhide HFU).mono ?_
    rintro e w0 ⟨rfl, hw0⟩
    obtain rfl := hw0.symm
    clear hw0
    go_wp2
    go_ret
    exact ⟨rfl, rfl⟩

set_option maxRecDepth 100000 in
set_option maxHeartbeats 8000000 in
theorem Double_P {N : Nat} {w : World} {P : Nat} {v : Value} {ms : List APkt} (h : PRep 115 N w P v ms) (n : Int) (h0 : 0 < ms.length) (hl : ms.length < 40) {m : APkt} (hm : ms[rnd n ms.length]? = some m) :
    Calls Tryz.prog 71 #[.pointer (some ⟨P, 0, none⟩), .int .i64 n] w fun e w' => e = .returned (.bool true) ∧ PTurn 115 N w P v w' (ms ++ [m]) := by
  obtain ⟨i0, hi0, hz0, hz1, hz2⟩ := info_parts infoPP
  obtain ⟨k, hk⟩ : ∃ k, ms.length = k := ⟨_, rfl⟩
  have HK := hide hk
  have HFU := hide (full_P h hk)
  rw [hk] at h0 hl hm
  rw [show decide (40 ≤ k) = false by simp; omega] at HFU
  obtain ⟨r, hr⟩ : ∃ r, rnd n k = r := ⟨_, rfl⟩
  have hrk := rnd_lt n h0
  have HRD := hide (round_P (h.below (below_drew w)) n hk h0)
  rw [hr] at hm hrk
  rw [hr] at HRD
  have hri : (r : Int) < (k : Int) := by omega
  have hr0 : (0 : Int) ≤ (r : Int) := by omega
  obtain ⟨a, cap, rfl⟩ := h.form
  have nB := h.nd
  have HR := hide h
  have HSM := hide (h.small m (List.mem_of_getElem? hm))
  have HN : Hid (N ≤ w.heap.size) := Nat.le_trans h.new (Nat.le_of_lt h.lt)
  obtain ⟨g0, hg0, hc⟩ := (pkts_row h.row rfl).2 (by omega)
  have hat0 := hc r m hm
  cases hg0
  rw [hk] at HR nB
  have h0i : ((k : Int) == 0) = false := by simp; omega
  obtain ⟨x0, x1, x2, x3, x4, x5, x6, x7, x8⟩ := hat0
  have hc1 := (unhide HR).can.1
  have hf1 := (unhide HR).can.2
  have hPw : P < w.heap.size := (unhide HR).lt
  have HM : Hid (∃ M, M = m) := ⟨m, rfl⟩
  clear h hc hm hk hr
  obtain ⟨y, c, nn, ⟨kk, s1, s2, s3⟩, d, u⟩ := m
  dsimp only [APkt.val] at *
  go_enter Tryz.func71, Tryz.ntmps71
  go_wp2_with fail
  refine (unhide HFU).mono ?_
  rintro e w0 ⟨rfl, hw0⟩
  obtain rfl := hw0.symm
  clear hw0
  go_wp2_with fail
  have HO : Hid (∀ wx, Below w.heap.size w wx → wx.ownsRow N 92 9 (.slice (some ⟨g0, 0, none⟩) k cap) k (ms.flatMap pcells)) := fun wx hb => by have := ((unhide HR).below (w' := wx) hb).row; rw [unhide HK] at this; exact this
  have HF : Hid (∀ wx, Below w.heap.size w wx → Can wx P 0 (.slice (some ⟨g0, 0, none⟩) k cap)) := fun wx hb => Can.below (w := w) ⟨hc1, hf1⟩ hb hPw
  go_region_law (first
      | (go_simp; go_at_call 96; refine (unhide HRD).mono ?_; rintro e w1 ⟨rfl, hw1⟩; obtain rfl := hw1.symm; clear hw1)
      | (refine step_append_lies _ (by rfl) _ _ _ (by rfl) N 92 i0 _ 9 104 Tryz.underlying39 hi0 hz0 hz1 hz2 rfl (by omega) (.slice (some ⟨g0, 0, none⟩) k cap) k (ms.flatMap pcells) (by rfl) (HO.out _ (below_alloc_drew w _))
          ⟨w.heap.size, 0, none⟩ 1 1 [.bool y, .int .i64 c, .int .i64 nn, .int .i64 kk, .string s1, .string s2, .string s3, .int .i64 d, .string u] (by rfl) (by rfl) (World.news_of_block (cs := #[.bool y, .int .i64 c, .int .i64 nn, .int .i64 kk, .string s1, .string s2, .string s3, .int .i64 d, .string u]) (t := 92) (fr := (0, 0)) (alloc_drew_new w _)) (by simp [Value.oneCell'])
          (by omega) (by unfold maxLen; omega) (by omega) (by have h4 := unhide HN; simp; omega) (w.heap.size + 1) (by simp) ?_; intro g cap' w2 hown2 hgrow hat hlt; have hc2 := (HF.out _ (below_alloc_drew w _)).grown hgrow nB; have hc3 := hc2.1; have hf3 := hc2.2))
  all_goals
    have hbw : Below w.heap.size w (w.alloc (Obj.cells #[.bool y, .int .i64 c, .int .i64 nn, .int .i64 kk, .string s1, .string s2, .string s3, .int .i64 d, .string u] 92)).drew := below_alloc_drew w _
    have hT := ((unhide HR).below hbw).push hgrow (by rw [unhide HK]) (by rw [unhide HK]; exact hl) (unhide HSM) hown2 (by simpa using hat)
    have HT := hide (hT.before hbw)
    clear hT hbw hown2 hgrow hat hlt hc2 hc3 hf3
    go_wp2
    go_ret
    exact ⟨rfl, by rw [unhide HK]; exact unhide HT⟩

end Go.Proofs.YtmbhbnoifimeaabGreat

namespace Go.Proofs.YtmbhbnoifimeaabGreat
open Go.RowKit
set_option linter.unusedSimpArgs false
set_option linter.unusedVariables false

def zeroCellsP : List Value := [.bool false, .int .i64 0, .int .i64 0, .int .i64 0, .string ⟨#[]⟩, .string ⟨#[]⟩, .string ⟨#[]⟩, .int .i64 0, .string ⟨#[]⟩]

theorem run_clearP (w : World) (ty : TypeId) (b o c : Nat) (hc : ∀ j, j < 9 → (w.cell? ⟨b, o + j, none⟩).isSome = true) (hf : ∀ j, j < 9 → w.frozen? ⟨b, o + j, none⟩ = false) :
    (Builtin.clear_ #[39] ty #[.slice (some ⟨b, o, none⟩) 1 c]).run Tryz.prog w = .ok (.tuple #[]) (w.setCells b o zeroCellsP) := by
  have hz : (Builtin.zeroCells (Value.cells (.agg #[.bool false, .int .i64 0, .int .i64 0, .int .i64 0, .string ⟨#[]⟩, .string ⟨#[]⟩, .string ⟨#[]⟩, .int .i64 0, .string ⟨#[]⟩])) 1).toList = zeroCellsP := by kernel_rfl
  have hst := run_storeCells_cells (P := Tryz.prog) b o zeroCellsP 0 w (by simpa [zeroCellsP] using hc) (by simpa [zeroCellsP] using hf) (by intro v hv; simp [zeroCellsP] at hv; rcases hv with rfl | rfl | rfl | rfl | rfl | rfl | rfl | rfl | rfl <;> rfl)
  simp only [Nat.add_zero] at hst
  have hv : ∀ w, (zeroValue 92).run Tryz.prog w = .ok (.agg #[.bool false, .int .i64 0, .int .i64 0, .int .i64 0, .string ⟨#[]⟩, .string ⟨#[]⟩, .string ⟨#[]⟩, .int .i64 0, .string ⟨#[]⟩]) w := fun w => by have := Tryz.zeroValue92 w; exact this
  simp [Builtin.clear_, run_underlying Tryz.underlying39, hv, hz, hst]

/-- The world behind: what stood behind is one place nearer; the last place is empty. -/
def delWorldP (w : World) (g n i : Nat) (news : List Value) : World := (w.setCells g (i * 9) news).setCells g ((n - 1) * 9) zeroCellsP

set_option maxRecDepth 1000000 in
set_option maxHeartbeats 2000000 in
theorem DeleteP_any (g n cap i : Nat) (news : List Value) (w : World) (hi : i < n) (hnc : n ≤ cap) (hcm : cap ≤ maxLen) (hn : n ≤ 1000)
    (hl : news.length = (n - (i + 1)) * 9) (hsrc : ∀ t u, news[t]? = some u → w.cell? ⟨g, (i + 1) * 9 + t, none⟩ = some u) (hone : ∀ u, u ∈ news → u.oneCell' = true)
    (hrow : ∀ o, o < n * 9 → (w.cell? ⟨g, o, none⟩).isSome = true ∧ w.frozen? ⟨g, o, none⟩ = false) :
    Calls Tryz.prog 97 #[.slice (some ⟨g, 0, none⟩) n cap, .int .i64 (i : Int), .int .i64 ((i : Int) + 1)] w
      fun e w' => e = .returned (.slice (some ⟨g, 0, none⟩) (n - 1) cap) ∧ w' = delWorldP w.drew g n i news := by
  obtain ⟨i0, hi0, hz0, hz1, hz2⟩ := info_parts infoPP
  unfold maxLen at hcm
  have h1 : ¬ ((i : Int) = (i : Int) + 1) := by omega
  have h2 : ((i : Int) == (i : Int) + 1) = false := by simp; omega
  obtain ⟨A, hA, hsrc2⟩ : ∃ A : Addr, (if cap = i + 1 then some (⟨g, 0, none⟩ : Addr) else some ⟨g, (i + 1) * 9, none⟩) = some A ∧ Hid (∀ t u, news[t]? = some u → w.drew.cell? (A.add t) = some u) := by
    by_cases h : cap = i + 1
    · refine ⟨⟨g, 0, none⟩, by simp [h], fun t u hu => ?_⟩
      have h0 : news.length = 0 := by rw [hl]; omega
      rw [List.length_eq_zero_iff.1 h0] at hu
      simp at hu
    · refine ⟨⟨g, (i + 1) * 9, none⟩, by simp [h], fun t u hu => ?_⟩
      have e : (⟨g, (i + 1) * 9, none⟩ : Addr).add t = ⟨g, (i + 1) * 9 + t, none⟩ := by unfold Addr.add; split <;> simp_all
      rw [e]
      exact hsrc t u hu
  have s1 : Hid (news.length = (n - (i + 1)) * 9) := hl
  have s2 : Hid (∀ u ∈ news, u.oneCell' = true) := fun u hu => hone u hu
  have s3 : Hid (∀ t, t < news.length → (w.drew.cell? ⟨g, 0 + i * 9 + t, none⟩).isSome = true ∧ w.drew.frozen? ⟨g, 0 + i * 9 + t, none⟩ = false) := by
    intro t ht
    rw [hl] at ht
    rw [Nat.zero_add]
    exact hrow _ (by omega)
  obtain ⟨W1, hW1⟩ : ∃ W1, W1 = w.drew.setCells g (0 + i * 9) news := ⟨_, rfl⟩
  have hcl : ∀ ty, (Builtin.clear_ #[39] ty #[.slice (some ⟨g, (i + (n - (i + 1))) * 9, none⟩) (n - (i + (n - (i + 1)))) (cap - (i + (n - (i + 1))))]).run Tryz.prog W1 = .ok (.tuple #[]) (W1.setCells g ((n - 1) * 9) zeroCellsP) := by
    intro ty
    have e1 : i + (n - (i + 1)) = n - 1 := by omega
    have e2 : n - (n - 1) = 1 := by omega
    rw [e1, e2]
    refine run_clearP W1 ty g ((n - 1) * 9) _ (fun j hj => ?_) (fun j hj => ?_)
    · rw [hW1]
      exact World.isSome_setCells g _ _ _ _ (hrow _ (by omega)).1
    · rw [hW1, World.frozen?_setCells]
      exact (hrow _ (by omega)).2
  have HW : Hid (W1 = w.drew.setCells g (0 + i * 9) news) := hW1
  have HD : Hid (W1.setCells g ((n - 1) * 9) zeroCellsP = delWorldP w.drew g n i news) := by rw [hW1]; unfold delWorldP; rw [Nat.zero_add]; exact rfl
  clear hW1 hl hsrc hone hrow
  have hic : i ≤ cap := by omega
  have hjc : i + 1 ≤ cap := by omega
  have hb1 : (0 : Int) ≤ (i : Int) + 1 := by omega
  have hb2 : (i : Int) + 1 ≤ (n : Int) := by omega
  go_enter Tryz.func97, Tryz.ntmps97
  go_wp2_with fail
  go_region_law (refine step_append_room rfl (.tmp 22) (.tmp 25) 39 rfl 92 i0 9 Tryz.underlying39 hi0 hz1 g 0 i cap (by simp [Act.eval, Act.put]) A (n - (i + 1)) (cap - (i + 1)) news (by simp [Act.eval, Act.put]) s1.out hsrc2.out s2.out (by omega) s3.out ?_; rw [← HW.out])
  go_wp2
  go_ret
  refine ⟨?_, HD.out⟩
  rw [show n - 1 = i + (n - (i + 1)) by omega]
  rfl



set_option maxHeartbeats 4000000 in
/-- What Take calls, and what it is worth. -/
theorem DeleteP_rep {t : TypeId} {N : Nat} {w : World} {P g n cap : Nat} {l1 l2 : List APkt} {f : APkt} (hr : PRep t N w P (.slice (some ⟨g, 0, none⟩) n cap) (l1 ++ f :: l2)) (hn : n = (l1 ++ f :: l2).length) :
    Calls Tryz.prog 97 #[.slice (some ⟨g, 0, none⟩) n cap, .int .i64 (l1.length : Int), .int .i64 ((l1.length : Int) + 1)] w
      fun e w' => e = .returned (.slice (some ⟨g, 0, none⟩) (n - 1) cap) ∧ Kept [g] w w' ∧ g ≠ P ∧ Can w' P 0 (.slice (some ⟨g, 0, none⟩) n cap) ∧
        PTurn t N w P (.slice (some ⟨g, 0, none⟩) n cap) (w'.setCell ⟨P, 0, none⟩ (.slice (some ⟨g, 0, none⟩) (n - 1) cap)) (l1 ++ l2) := by
  have hl : n ≤ 1000 := by rw [hn]; have := hr.few; omega
  have hn1 : n = l1.length + l2.length + 1 := by rw [hn]; simp; omega
  obtain ⟨hlen, h2⟩ := hr.row
  rcases h2 with ⟨e, _⟩ | ⟨g', cap', cur, he, hNg, hh, hnc, hcm, hcs, htk⟩
  · cases e
  obtain ⟨rfl, _, rfl⟩ : g = g' ∧ n = (l1 ++ f :: l2).length ∧ cap = cap' := by simpa using he
  rw [← hn] at hnc htk
  have hcell : ∀ o, w.cell? ⟨g, o, none⟩ = cur[o]? := fun o => by simp [World.cell?, hh]
  have hfz : ∀ o, w.frozen? ⟨g, o, none⟩ = false := fun o => by simp [World.frozen?, hh]
  have hflat : (l1 ++ f :: l2).flatMap pcells = l1.flatMap pcells ++ (pcells f ++ l2.flatMap pcells) := by simp
  have hfl : (pcells f).length = 9 := rfl
  have hgP : g ≠ P := fun e => hr.nd (by rw [e]; rfl)
  have hsz : n * 9 ≤ cur.size := by rw [hcs]; omega
  have hget : ∀ o, o < n * 9 → cur[o]? = ((l1 ++ f :: l2).flatMap pcells)[o]? := fun o ho => by
    rw [← htk, List.getElem?_take, if_pos ho]; simp
  have hcon := DeleteP_any g n cap l1.length (l2.flatMap pcells) w (by omega) hnc hcm hl (by rw [pflat_len]; omega)
    (fun t u hu => by
      have ht : t < l2.length * 9 := by have := (List.getElem?_eq_some_iff.1 hu).1; rwa [pflat_len] at this
      rw [hcell, hget _ (by omega), hflat, List.getElem?_append_right (by rw [pflat_len]; omega), pflat_len, List.getElem?_append_right (by rw [hfl]; omega), hfl]
      rw [show (l1.length + 1) * 9 + t - l1.length * 9 - 9 = t by omega]
      exact hu) (pflat_one l2)
    (fun o ho => ⟨by rw [hcell, Array.getElem?_eq_getElem (by omega)]; rfl, hfz o⟩)
  refine hcon.mono ?_
  rintro e w' ⟨rfl, hw'⟩
  have hlz : zeroCellsP.length = 9 := rfl
  unfold delWorldP at hw'
  generalize zeroCellsP = zs at hlz hw'
  obtain ⟨D, hD⟩ : ∃ D, D = l2.flatMap pcells := ⟨_, rfl⟩
  have hDl : D.length = l2.length * 9 := by rw [hD, pflat_len]
  rw [← hD] at hw'
  subst hw'
  have hk : Kept [g] w ((w.drew.setCells g (l1.length * 9) D).setCells g ((n - 1) * 9) zs) := by
    have h0 : Kept [g] w w.drew := ⟨rfl, rfl, rfl, Nat.le_refl _, fun _ _ _ => rfl⟩
    exact (h0.trans (kept_setCells g _ _ _) (fun x hx => .inl hx)).trans (kept_setCells g _ _ _) (fun x hx => .inl hx)
  have hP : P < w.heap.size := hr.lt
  have hcanP : Can ((w.drew.setCells g (l1.length * 9) D).setCells g ((n - 1) * 9) zs) P 0 (.slice (some ⟨g, 0, none⟩) n cap) := ⟨by rw [hk.cell hP (by simpa using Ne.symm hgP)]; exact hr.can.1, by rw [hk.frozen hP (by simpa using Ne.symm hgP)]; exact hr.can.2⟩
  have hrow : ((w.drew.setCells g (l1.length * 9) D).setCells g ((n - 1) * 9) zs).ownsRow N 92 9 (.slice (some ⟨g, 0, none⟩) (n - 1) cap) (l1 ++ l2).length ((l1 ++ l2).flatMap pcells) := by
    have hh1 : ((w.drew.setCells g (l1.length * 9) D).setCells g ((n - 1) * 9) zs).heap[g]? = some (.cells (putList (putList cur (l1.length * 9) D) ((n - 1) * 9) zs) 92 (0, 0)) :=
      heap_setCells g 92 (0, 0) _ _ _ _ (heap_setCells g 92 (0, 0) _ _ _ _ hh)
    have hm : (l1 ++ l2).length = n - 1 := by simp; omega
    rw [hm]
    refine ⟨by rw [pflat_len, hm], .inr ⟨g, cap, _, rfl, hNg, hh1, by omega, hcm, by rw [putList_size, putList_size]; exact hcs, ?_⟩⟩
    have e1 := putList_toList D (l1.length * 9) cur (by rw [hDl]; omega)
    have e2 := putList_toList zs ((n - 1) * 9) (putList cur (l1.length * 9) D) (by rw [putList_size, hlz]; omega)
    have e3 : cur.toList.take (l1.length * 9) = l1.flatMap pcells := by
      have : cur.toList.take (l1.length * 9) = (cur.toList.take (n * 9)).take (l1.length * 9) := by rw [List.take_take]; congr 1; omega
      rw [this, htk, hflat, List.take_left' (pflat_len l1)]
    rw [e2, List.append_assoc, List.take_append_of_le_length (by rw [List.length_take, Array.length_toList, putList_size]; omega), List.take_take, Nat.min_self, e1, e3,
      List.take_append_of_le_length (by rw [List.length_append, pflat_len, hDl]; omega), List.take_of_length_le (by rw [List.length_append, pflat_len, hDl]; omega), hD]
    simp
  refine ⟨rfl, hk, hgP, hcanP, .slice (some ⟨g, 0, none⟩) (n - 1) cap, ⟨hr.new, ?_, ?_, ?_, ?_, ?_⟩, ?_, ?_⟩
  · rw [heap_setCell_same (c := #[.slice (some ⟨g, 0, none⟩) n cap]) (e := t) (fr := (0, 0))]
    · simp
    · rw [hk.block P hP (by simpa using Ne.symm hgP)]; exact hr.blk
  · exact ownsRow_same hrow fun k hk2 => by
      have : k = g := by simpa [Value.ownBlock] using hk2.symm
      rw [this]
      exact Below.heap_setCell _ _ _ _ hgP
  · intro e
    simp [Value.ownBlock] at e
    exact hgP e
  · have := hr.few; simp at this ⊢; omega
  · intro x hx
    exact hr.small x (by simp at hx ⊢; rcases hx with h | h; exact .inl h; exact .inr (.inr h))
  · have k1 : Kept (powns P (.slice (some ⟨g, 0, none⟩) n cap)) w ((w.drew.setCells g (l1.length * 9) D).setCells g ((n - 1) * 9) zs) := ⟨hk.os, hk.tape, hk.output, hk.size, fun k h1 h2 => hk.block k h1 (fun h3 => h2 (List.mem_cons_of_mem _ (by simpa [Value.ownBlock] using h3)))⟩
    exact k1.trans (kept_setCell _ _ _ _ _ List.mem_cons_self) (fun x hx => .inl hx)
  · intro k hk2
    exact .inl hk2

end Go.Proofs.YtmbhbnoifimeaabGreat

namespace Go.Proofs.YtmbhbnoifimeaabGreat
open Go.RowKit
set_option linter.unusedSimpArgs false
set_option linter.unusedVariables false

def zArr : Array Value := #[.bool false, .int .i64 0, .int .i64 0, .int .i64 0, .string ⟨#[]⟩, .string ⟨#[]⟩, .string ⟨#[]⟩, .int .i64 0, .string ⟨#[]⟩]
theorem psplit {ms : List APkt} {j : Nat} {f : APkt} (h : ms[j]? = some f) : ∃ l1 l2, ms = l1 ++ f :: l2 ∧ l1.length = j ∧ ms.eraseIdx j = l1 ++ l2 := by
  obtain ⟨hj, hf⟩ := List.getElem?_eq_some_iff.1 h
  refine ⟨ms.take j, ms.drop (j + 1), ?_, by simp; omega, ?_⟩
  · rw [← hf, List.getElem_cons_drop, List.take_append_drop]
  · rw [List.eraseIdx_eq_take_drop_succ]

set_option maxRecDepth 100000 in
set_option maxHeartbeats 4000000 in
theorem Take_Pnone {N : Nat} {w : World} {P : Nat} {v : Value} (h : PRep 115 N w P v []) (n : Int) :
    Calls Tryz.prog 72 #[.pointer (some ⟨P, 0, none⟩), .int .i64 n] w fun e w' => e = .returned (.tuple #[zeroPkt.val, .bool false]) ∧ PTurn 115 N w P v w' [] := by
  obtain ⟨V, hV⟩ : ∃ V, V = w.alloc (.cells zArr 92) := ⟨_, rfl⟩
  have hBV : Below w.heap.size w V := by rw [hV]; exact (Below.refl _ _).alloc (Nat.le_refl _) _
  have hXV : V.heap[w.heap.size]? = some (.cells zArr 92 (0, 0)) := by rw [hV]; exact heap_alloc_new _ _
  obtain ⟨V5, hV5⟩ : ∃ W, W = V.setRow w.heap.size zArr := ⟨_, rfl⟩
  have hZ : V5.heap[w.heap.size]? = some (.cells zArr 92 (0, 0)) := by rw [hV5]; exact setRow_heap V w.heap.size _ _ 92 (0, 0) hXV
  have hB5 : Below w.heap.size w V5 := by
    rw [hV5]
    exact ⟨hBV.os, hBV.tape, hBV.output, by simp [World.setRow]; exact hBV.size, fun k hk => (setRow_other V w.heap.size k _ (by omega)).trans (hBV.block k hk)⟩
  have HT := hide (PTurn.of_below h hB5)
  obtain ⟨⟨z0, z1, z2, z3⟩, ⟨z4, z5, z6, z7, z8⟩, _⟩ := nine hZ
  have hc := h.can.1
  have hPl := h.lt
  obtain ⟨a, cap, rfl⟩ := h.form
  have hcV := (hBV.cell (p := ⟨P, 0, none⟩) hPl).trans hc
  have HV := hide hV
  dsimp only [zeroPkt, APkt.val, zArr, List.length_nil] at *
  clear h hBV hZ hB5 hV
  rw [unhide HV] at hXV hV5
  go_enter Tryz.func72, Tryz.ntmps72
  go_wp2_with (refine wpList_store_row rfl 92 _ _ rfl w.heap.size #[.bool false, .int .i64 0, .int .i64 0, .int .i64 0, .string ⟨#[]⟩, .string ⟨#[]⟩, .string ⟨#[]⟩, .int .i64 0, .string ⟨#[]⟩] rfl rfl 92 _ hXV infoP rfl (by simp [Value.oneCell']) ?_)
  rw [← hV5]
  refine bodyPost_ret (v := .tuple #[.agg #[.bool false, .int .i64 0, .int .i64 0, .int .i64 0, .string ⟨#[]⟩, .string ⟨#[]⟩, .string ⟨#[]⟩, .int .i64 0, .string ⟨#[]⟩], .bool false]) (by simp [results, Tryz.results72, go_sem, z0, z1, z2, z3, z4, z5, z6, z7, z8]) rfl ⟨rfl, unhide HT⟩

/-- What was put into a block of the call's own leaves the object. -/
theorem PTurn.store {t : TypeId} {N : Nat} {w V W3 W4 : World} {P : Nat} {v : Value} {ms ms' : List APkt} {R : Nat} (h0 : PRep t N w P v ms) (hb : Below w.heap.size w V) (hT : PTurn t N V P v W3 ms') (hR1 : w.heap.size ≤ R) (hR2 : R < V.heap.size) (hk : Kept [R] W3 W4) : PTurn t N w P v W4 ms' := by
  obtain ⟨v', hr, hk1, hn⟩ := hT
  refine ⟨v', hr.kept hk (fun k h1 h2 => ?_), ((Kept.of_below hb).trans hk1 (fun x hx => .inl hx)).trans hk (fun x hx => ?_), fun k hk2 => ?_⟩
  · simp at h2
    subst h2
    rcases hn _ h1 with h3 | h3
    · have := (h0.ge _ h3).2; omega
    · omega
  · simp at hx; subst hx; exact .inr hR1
  · rcases hn k hk2 with h | h
    · exact .inl h
    · right; have := hb.size; omega
theorem kept_setRow (w : World) (b : Nat) (cs : Array Value) : Kept [b] w (w.setRow b cs) := ⟨rfl, rfl, rfl, by simp [World.setRow], fun k hk hn => setRow_other w b k cs (by simpa using hn)⟩

set_option maxRecDepth 100000 in
set_option maxHeartbeats 8000000 in
theorem Take_P {N : Nat} {w : World} {P : Nat} {v : Value} {l1 l2 : List APkt} {m : APkt} (h : PRep 115 N w P v (l1 ++ m :: l2)) (n : Int) (hr : rnd n (l1 ++ m :: l2).length = l1.length) :
    Calls Tryz.prog 72 #[.pointer (some ⟨P, 0, none⟩), .int .i64 n] w fun e w' => e = .returned (.tuple #[m.val, .bool true]) ∧ PTurn 115 N w P v w' (l1 ++ l2) := by
  obtain ⟨k, hk⟩ : ∃ k, (l1 ++ m :: l2).length = k := ⟨_, rfl⟩
  obtain ⟨r, hrr⟩ : ∃ r, l1.length = r := ⟨_, rfl⟩
  have hrk : r < k := by rw [← hk, ← hrr]; simp
  have hk40 : k ≤ 40 := by rw [← hk]; exact h.few
  obtain ⟨V, hV⟩ : ∃ V, V = w.alloc (.cells zArr 92) := ⟨_, rfl⟩
  have hBV : Below w.heap.size w V := by rw [hV]; exact (Below.refl _ _).alloc (Nat.le_refl _) _
  have hRV : V.heap[w.heap.size]? = some (.cells zArr 92 (0, 0)) := by rw [hV]; exact heap_alloc_new _ _
  have hrV := h.below hBV
  have HRD := hide (round_P hrV n hk (by omega))
  rw [hk, hrr] at hr
  rw [hr] at HRD
  have HCL := hide (fun W => clone_P m W (h.small m (by simp)))
  obtain ⟨a, cap, rfl⟩ := h.form
  obtain ⟨g0, hg0, hc⟩ := (pkts_row hrV.row rfl).2 (by rw [hk]; omega)
  have hat := hc r m (by rw [← hrr]; simp)
  cases hg0
  have HH := hide h
  have HRV := hide hrV
  have hcV := hrV.can.1
  have hcw := h.can.1
  have hPl := h.lt
  have hgl : g0 < w.heap.size := (h.row.lt g0 rfl).2
  rw [hk] at hcV hcw
  have hzV : V.heap.size = w.heap.size + 1 := by rw [hV]; simp
  have hri : (r : Int) < (k : Int) := by omega
  have hr0 : (0 : Int) ≤ (r : Int) := by omega
  have h0i : ((k : Int) == 0) = false := by simp; omega
  have hwr : IntKind.i64.wrap ((r : Int) + 1) = (r : Int) + 1 := by rw [IntKind.wrap_i64]; omega
  obtain ⟨x0, x1, x2, x3, x4, x5, x6, x7, x8⟩ := hat
  have HHK := hide hk
  have HRR := hide hrr
  have HBV := hide hBV
  have HRB := hide hRV
  have HV := hide hV
  have HDL := hide (fun W (hW : PRep 115 N W P (.slice (some ⟨g0, 0, none⟩) k cap) (l1 ++ m :: l2)) => DeleteP_rep hW hk.symm)
  rw [hrr] at HDL
  rw [hk] at HH HRV
  have HVV : Hid (∀ x : Value, x = (.slice (some ⟨g0, 0, none⟩) k cap : Value) → x = (.slice (some ⟨g0, 0, none⟩) (l1 ++ m :: l2).length cap)) := fun x hx => by rw [hx, hk]
  clear h hc hBV hRV hrV hV hk hrr hr
  obtain ⟨y, c, nn, ⟨kk, s1, s2, s3⟩, d, u⟩ := m
  dsimp only [APkt.val, zArr] at *
  go_enter Tryz.func72, Tryz.ntmps72
  go_wp2_with fail
  rw [← unhide HV]
  clear hcw
  refine (unhide HRD).mono ?_
  rintro e w0 ⟨rfl, hw0⟩
  obtain rfl := hw0.symm
  clear hw0
  go_wp2_with fail
  refine ((unhide HCL) _).mono ?_
  rintro e w1 ⟨rfl, b1⟩
  clear x0 x1 x2 x3 x4 x5 x6 x7 x8 hcV
  obtain ⟨V1, hV1⟩ : ∃ V1, V1 = w1.alloc (.cells #[.bool y, .int .i64 c, .int .i64 nn, .int .i64 kk, .string s1, .string s2, .string s3, .int .i64 d, .string u] 92) := ⟨_, rfl⟩
  have hb1 : Below w1.heap.size w1 V1 := by rw [hV1]; exact (Below.refl _ _).alloc (Nat.le_refl _) _
  have hbV1 : Below V.heap.size V V1 := b1.trans (hb1.mono b1.size)
  have hMV1 : V1.heap[w1.heap.size]? = some (.cells #[.bool y, .int .i64 c, .int .i64 nn, .int .i64 kk, .string s1, .string s2, .string s3, .int .i64 d, .string u] 92 (0, 0)) := by rw [hV1]; exact heap_alloc_new _ _
  have hRV1 := (hbV1.block w.heap.size (by omega)).trans (unhide HRB)
  have hrV1 := (unhide HRV).below hbV1
  have HDL1 := hide ((unhide HDL) V1 hrV1)
  have hcw1 := ((unhide HRV).below b1).can.1
  have hPw1 : P < w1.heap.size := ((unhide HRV).below b1).lt
  have HbV1 := hide ((unhide HBV).trans (hbV1.mono (unhide HBV).size))
  have HMV1 := hide hMV1
  have HRV1 := hide hRV1
  have HV1 := hide hV1
  have hz1 : V.heap.size ≤ w1.heap.size := b1.size
  have hzV1 : V1.heap.size = w1.heap.size + 1 := by rw [hV1]; simp
  clear b1 hb1 hbV1 hMV1 hRV1 hrV1 hV1
  go_wp2_with fail
  rw [← unhide HV1]
  clear hcw1
  refine (unhide HDL1).mono ?_
  rintro e w2 ⟨rfl, hk2, hgP, hcan2, hT2⟩
  obtain ⟨W3, hW3⟩ : ∃ W3, W3 = w2.setCell ⟨P, 0, none⟩ (.slice (some ⟨g0, 0, none⟩) (k - 1) cap) := ⟨_, rfl⟩
  rw [← hW3] at hT2
  have hM2 := (hk2.block w1.heap.size (by omega) (by simp; omega)).trans (unhide HMV1)
  have hR2 := (hk2.block w.heap.size (by omega) (by simp; omega)).trans (unhide HRV1)
  have hR3 := (Below.heap_setCell w2 ⟨P, 0, none⟩ (.slice (some ⟨g0, 0, none⟩) (k - 1) cap) w.heap.size (by simp; omega)).trans hR2
  rw [← hW3] at hR3
  obtain ⟨⟨m0, m1, m2, m3⟩, ⟨m4, m5, m6, m7, m8⟩, _⟩ := nine hM2
  have hcp := hcan2.1
  have hcf := hcan2.2
  obtain ⟨W4, hW4⟩ : ∃ W4, W4 = W3.setRow w.heap.size #[.bool y, .int .i64 c, .int .i64 nn, .int .i64 kk, .string s1, .string s2, .string s3, .int .i64 d, .string u] := ⟨_, rfl⟩
  have hZ : W4.heap[w.heap.size]? = some (.cells #[.bool y, .int .i64 c, .int .i64 nn, .int .i64 kk, .string s1, .string s2, .string s3, .int .i64 d, .string u] 92 (0, 0)) := by rw [hW4]; exact setRow_heap W3 w.heap.size _ _ 92 (0, 0) hR3
  have hT4 := PTurn.store (W4 := W4) (R := w.heap.size) (unhide HH) (unhide HbV1) hT2 (Nat.le_refl _) (by omega) (by rw [hW4]; exact kept_setRow W3 _ _)
  have HT4 := hide hT4
  obtain ⟨⟨z0, z1, z2, z3⟩, ⟨z4, z5, z6, z7, z8⟩, _⟩ := nine hZ
  rw [hW3] at hR3 hW4
  clear hk2 hcan2 hT2 hM2 hR2 hT4 hZ hW3
  go_wp2_with (refine wpList_store_row rfl 92 _ _ rfl w.heap.size #[.bool y, .int .i64 c, .int .i64 nn, .int .i64 kk, .string s1, .string s2, .string s3, .int .i64 d, .string u] rfl rfl 92 _ hR3 infoP rfl (by simp [Value.oneCell']) ?_)
  rw [← hW4]
  refine bodyPost_ret (v := .tuple #[.agg #[.bool y, .int .i64 c, .int .i64 nn, .int .i64 kk, .string s1, .string s2, .string s3, .int .i64 d, .string u], .bool true]) (by simp [results, Tryz.results72, go_sem, z0, z1, z2, z3, z4, z5, z6, z7, z8]) rfl ⟨rfl, by rw [unhide HHK]; exact unhide HT4⟩

end Go.Proofs.YtmbhbnoifimeaabGreat

namespace Go.Proofs.YtmbhbnoifimeaabGreat
open Go.RowKit
set_option linter.unusedSimpArgs false
set_option linter.unusedVariables false

def aSend (ms : List APkt) (m : APkt) : List APkt := if ms.length < 40 then ms ++ [m] else ms
def aTakeM (ms : List APkt) (n : Int) : APkt := (ms[rnd n ms.length]?).getD zeroPkt
def aTakeL (ms : List APkt) (n : Int) : List APkt := ms.eraseIdx (rnd n ms.length)
def aTakeB (ms : List APkt) : Bool := decide (0 < ms.length)
def aDblB (ms : List APkt) : Bool := decide (0 < ms.length) && decide (ms.length < 40)
def aDblL (ms : List APkt) (n : Int) : List APkt := if 0 < ms.length then aSend ms (aTakeM ms n) else ms
theorem take_some {ms : List APkt} (n : Int) (h : 0 < ms.length) : ms[rnd n ms.length]? = some (aTakeM ms n) := by
  unfold aTakeM
  rw [List.getElem?_eq_getElem (rnd_lt n h)]
  rfl

theorem PSend_any {N : Nat} {w : World} {P : Nat} {v : Value} {ms : List APkt} (h : PRep 115 N w P v ms) (m : APkt) (hm : SmallP m) :
    Calls Tryz.prog 69 #[.pointer (some ⟨P, 0, none⟩), m.val] w fun e w' => e = .returned (.bool (decide (ms.length < 40))) ∧ PTurn 115 N w P v w' (aSend ms m) := by
  unfold aSend
  by_cases hl : ms.length < 40
  · rw [if_pos hl, decide_eq_true hl]; exact Send_P h m hm hl
  · rw [if_neg hl, decide_eq_false hl]; exact Send_Pfull h m hl
theorem PTake_any {N : Nat} {w : World} {P : Nat} {v : Value} {ms : List APkt} (h : PRep 115 N w P v ms) (n : Int) :
    Calls Tryz.prog 72 #[.pointer (some ⟨P, 0, none⟩), .int .i64 n] w fun e w' => e = .returned (.tuple #[(aTakeM ms n).val, .bool (aTakeB ms)]) ∧ PTurn 115 N w P v w' (aTakeL ms n) := by
  by_cases h0 : 0 < ms.length
  · obtain ⟨l1, l2, e1, e2, e3⟩ := psplit (take_some n h0)
    unfold aTakeB aTakeL
    rw [decide_eq_true h0, e3]
    obtain ⟨q, hq⟩ : ∃ q, aTakeM ms n = q := ⟨_, rfl⟩
    rw [hq] at e1 ⊢
    subst e1
    exact Take_P h n e2.symm
  · obtain rfl : ms = [] := List.length_eq_zero_iff.1 (by omega)
    exact Take_Pnone h n
theorem PDbl_any {N : Nat} {w : World} {P : Nat} {v : Value} {ms : List APkt} (h : PRep 115 N w P v ms) (n : Int) :
    Calls Tryz.prog 71 #[.pointer (some ⟨P, 0, none⟩), .int .i64 n] w fun e w' => e = .returned (.bool (aDblB ms)) ∧ PTurn 115 N w P v w' (aDblL ms n) := by
  unfold aDblB aDblL aSend
  by_cases h0 : 0 < ms.length
  · by_cases hl : ms.length < 40
    · rw [if_pos h0, if_pos hl, decide_eq_true h0, decide_eq_true hl]
      exact Double_P h n h0 hl (take_some n h0)
    · rw [if_pos h0, if_neg hl, decide_eq_true h0, decide_eq_false hl]
      refine (Double_Pnot h n (.inr (by omega))).mono ?_
      rintro e w' ⟨rfl, rfl⟩
      exact ⟨rfl, PTurn.of_below h (Below.refl _ _)⟩
  · rw [if_neg h0, decide_eq_false h0]
    refine (Double_Pnot h n (.inl (by omega))).mono ?_
    rintro e w' ⟨rfl, rfl⟩
    exact ⟨rfl, PTurn.of_below h (Below.refl _ _)⟩
end Go.Proofs.YtmbhbnoifimeaabGreat

namespace Go.Proofs.YtmbhbnoifimeaabGreat
open Go.RowKit
set_option linter.unusedSimpArgs false
set_option linter.unusedVariables false

theorem rnd0 {k : Nat} (hk : 0 < k) : rnd 0 k = 0 := by
  unfold rnd
  have h : IntKind.u64.wrap 0 = 0 := by rw [wrap_u]; rfl
  rw [h]
  simp
theorem vtail_small (l : List (List UInt8)) (h : ∀ x, x ∈ l → x.length ≤ 5) : (Lib.joinTail [32] l).length ≤ 6 * l.length := by
  induction l with
  | nil => simp [Lib.joinTail]
  | cons x xs ih =>
    have hx := h x (by simp)
    have := ih fun y hy => h y (List.mem_cons_of_mem _ hy)
    unfold Lib.joinTail at this ⊢
    simp only [List.map_cons, List.flatten_cons, List.length_append, List.length_cons] at this ⊢
    simp only [List.length_nil] at this ⊢
    omega
theorem vjoin_small (l : List (List UInt8)) (h : ∀ x, x ∈ l → x.length ≤ 5) : (Lib.join l [32]).length ≤ 6 * l.length := by
  cases l with
  | nil => simp [Lib.join_nil]
  | cons x xs =>
    have hx := h x (by simp)
    have := vtail_small xs fun y hy => h y (List.mem_cons_of_mem _ hy)
    rw [Lib.join_cons, List.length_append, List.length_cons]
    omega
theorem joinNames_small {st : List AFile} (h : Inv st) : (joinNames st).size ≤ 36 := by
  have h1 : (joinNames st).size = (Lib.join ((sNames st).map (·.data.toList)) [32]).length := by unfold joinNames; show (List.toArray _).size = _; simp
  have h2 := vjoin_small ((sNames st).map (fun x => x.data.toList)) fun x hx => by
    obtain ⟨s, hs, rfl⟩ := List.mem_map.1 hx
    have := nameB_size (sNames_named h hs)
    have e : s.size = s.data.toList.length := by show s.data.size = _; rw [Array.length_toList]
    omega
  have h3 := h.few
  rw [List.length_map, sNames_length] at h2
  omega
theorem aDo_small' {st : List AFile} (h : Inv st) (c : ACall) : (aDo st c).text.size ≤ 100 := by
  have hz : (ByteArray.empty).size = 0 := rfl
  have hj := joinNames_small h
  unfold aDo
  split
  · dsimp only; omega
  split
  · dsimp only; omega
  split
  · dsimp only; omega
  split
  · dsimp only; omega
  split
  · dsimp only; omega
  split
  · dsimp only; omega
  split
  · dsimp only; omega
  · dsimp only
    unfold fileAt
    by_cases hi : fIdx c.name st < st.length
    · have hg : st.getD (fIdx c.name st) ⟨ByteArray.empty, ByteArray.empty⟩ = st[fIdx c.name st] := by simp [List.getD, hi]
      rw [hg]
      have := h.short _ (List.getElem_mem hi)
      omega
    · have hg : st.getD (fIdx c.name st) ⟨ByteArray.empty, ByteArray.empty⟩ = ⟨ByteArray.empty, ByteArray.empty⟩ := by simp [List.getD, hi]
      rw [hg]; dsimp only; omega
theorem aDo_small (L : List ARec) (c : ACall) : (aDo (behind L) c).text.size ≤ 100 := aDo_small' (behind_inv L) c
theorem tb_three (a b t : ByteArray) : (tb [a, b, t]).length = 3 + a.size + b.size + t.size := by
  unfold tb
  simp [ebytes_length]
  omega
theorem enc_new {client no : Int} {c : ACall} (h1 : ¬ (client < 0 ∨ 2 < client ∨ no < 1 ∨ 200 < no)) (h2 : checkI c = 0) (h3 : changesB c.kind = true) (d : Int) (u : ByteArray) : (encL ⟨client, no, c, d, u⟩).length ≤ 21 := by
  obtain ⟨hk0, hk1⟩ := changesB_iff.1 h3
  obtain ⟨_, _, hfm, hnm, htx⟩ := check_zero h2
  have hn := nameB_size (named_name hnm (by omega))
  have hf2 := hfm
  unfold formedB at hf2
  simp only [Bool.and_eq_true, Bool.or_eq_true] at hf2
  obtain ⟨⟨_, f1⟩, f2⟩ := hf2
  rw [encL_length]
  unfold ARec.texts
  dsimp only
  rw [tb_three]
  by_cases k3 : c.kind = 3
  · have := nameB_size (named_dst hnm k3)
    have h0 : c.text.size = 0 := by
      rcases f2 with f | f
      · exact emptyB_size f
      · simp at f; omega
    omega
  · have h0 : c.dst.size = 0 := by
      rcases f1 with f | f
      · exact emptyB_size f
      · simp at f; omega
    rcases f2 with f | f
    · have := emptyB_size f
      omega
    · have h4 : c.kind = 4 := by simpa using f
      have := htx h4
      unfold textB withinB at this
      simp only [Bool.and_eq_true, decide_eq_true_eq] at this
      omega
theorem enc_small {r : ARec} (h : recI r = 0) : (encL r).length ≤ 21 ∧ r.ans.size = 0 := by
  have k := rec_ok h
  have := enc_new (client := r.client) (no := r.no) (c := r.call) (by have := k.c0; have := k.c1; have := k.n0; have := k.n1; omega) k.chk (changesB_iff.2 ⟨k.k0, k.k1⟩) r.code r.ans
  refine ⟨this, ?_⟩
  rw [k.ans]; rfl

end Go.Proofs.YtmbhbnoifimeaabGreat

namespace Go.Proofs.YtmbhbnoifimeaabGreat
open Go.RowKit
set_option linter.unusedSimpArgs false
set_option linter.unusedVariables false

/-- A client: whose, what was answered, its call, is that open? -/
structure ACli where
  me : Int
  done : List ARec
  call : ACall
  op : Bool
def zeroCall : ACall := ⟨0, ⟨#[]⟩, ⟨#[]⟩, ⟨#[]⟩⟩
def SmallC (x : ACall) : Prop := x.name.size ≤ 281474976710656 ∧ x.dst.size ≤ 281474976710656 ∧ x.text.size ≤ 281474976710656
def ACli.no (c : ACli) : Int := (c.done.length : Int) + 1
def ACli.ask (c : ACli) (x : ACall) : Int := if checkI x ≠ 0 then checkI x else if c.op = true then 11 else if 200 ≤ c.done.length then 7 else 0
def ACli.asked (c : ACli) (x : ACall) : ACli := if c.ask x = 0 then ⟨c.me, c.done, x, true⟩ else c
def ACli.pkt (c : ACli) : APkt := if c.op = true then ⟨false, c.me, c.no, c.call, 0, ⟨#[]⟩⟩ else zeroPkt
def ACli.hears (c : ACli) (p : APkt) : Bool := c.op && p.reply && p.client == c.me && p.no == c.no && callB p.call c.call
def ACli.rcd (c : ACli) (p : APkt) : ARec := ⟨c.me, c.no, c.call, p.code, p.ans⟩
def ACli.heard (c : ACli) (p : APkt) : ACli := if c.hears p = true then ⟨c.me, c.done ++ [c.rcd p], zeroCall, false⟩ else c

structure COk (c : ACli) : Prop where
  few : c.done.length ≤ 200
  room : c.op = true → c.done.length < 200
  small : ∀ r, r ∈ c.done → SmallC r.call ∧ r.ans.size ≤ 281474976710656
  smallc : SmallC c.call
  num : ∀ (k : Nat) (r : ARec), c.done[k]? = some r → r.client = c.me ∧ r.no = (k : Int) + 1
theorem zeroCall_small : SmallC zeroCall := by unfold SmallC zeroCall; decide
theorem COk.start (me : Int) : COk ⟨me, [], zeroCall, false⟩ := ⟨by simp, by simp, by simp, zeroCall_small, by simp⟩
theorem COk.asked {c : ACli} (h : COk c) {x : ACall} (hx : SmallC x) : COk (c.asked x) := by
  unfold ACli.asked
  by_cases h0 : c.ask x = 0
  · rw [if_pos h0]
    refine ⟨h.few, fun _ => ?_, h.small, hx, h.num⟩
    unfold ACli.ask at h0
    show c.done.length < 200
    by_cases h1 : checkI x ≠ 0
    · rw [if_pos h1] at h0; exact absurd h0 h1
    · rw [if_neg h1] at h0
      by_cases h2 : c.op = true
      · rw [if_pos h2] at h0; omega
      · rw [if_neg h2] at h0
        by_cases h3 : 200 ≤ c.done.length
        · rw [if_pos h3] at h0; omega
        · omega
  · rw [if_neg h0]; exact h
theorem COk.heard {c : ACli} (h : COk c) {p : APkt} (hp : SmallP p) : COk (c.heard p) := by
  unfold ACli.heard
  by_cases h0 : c.hears p = true
  · rw [if_pos h0]
    have hop : c.op = true := by
      unfold ACli.hears at h0
      simp only [Bool.and_eq_true] at h0
      exact h0.1.1.1.1
    have hr := h.room hop
    refine ⟨by simp; omega, by simp, fun r hr => ?_, zeroCall_small, fun k r hk => ?_⟩
    · rcases List.mem_append.1 hr with h1 | h1
      · exact h.small r h1
      · simp at h1; subst h1; exact ⟨h.smallc, hp.2.2.2⟩
    · have hk : (c.done ++ [c.rcd p])[k]? = some r := hk
      by_cases hl : k < c.done.length
      · rw [List.getElem?_append_left hl] at hk
        exact h.num k r hk
      · have e : k = c.done.length := by
          have := (List.getElem?_eq_some_iff.1 hk).1
          simp at this; omega
        subst e
        simp at hk
        subst hk
        exact ⟨rfl, rfl⟩
  · rw [if_neg h0]; exact h
theorem pkt_small {c : ACli} (h : COk c) : SmallP c.pkt := by
  unfold ACli.pkt
  by_cases h0 : c.op = true
  · rw [if_pos h0]; exact ⟨h.smallc.1, h.smallc.2.1, h.smallc.2.2, by show (0 : Nat) ≤ _; omega⟩
  · rw [if_neg h0]; unfold SmallP zeroPkt; decide

/-- A client's cells; a Guest's (x: the call that it keeps). -/
def kcells (c : ACli) (v : Value) : Array Value := #[.int .i64 c.me, v, .int .i64 c.call.kind, .string c.call.name, .string c.call.dst, .string c.call.text, .bool c.op]
/-- An object at block X with a list of records v. -/
structure ORep (t : TypeId) (N : Nat) (w : World) (X : Nat) (f : Value → Array Value) (v : Value) (rs : List ARec) : Prop where
  new : N ≤ X
  blk : w.heap[X]? = some (.cells (f v) t (0, 0))
  row : w.ownsRow N 61 8 v rs.length (rs.flatMap rcells)
  nd : v.ownBlock ≠ some X
section
variable {t : TypeId} {N : Nat} {w w' : World} {X : Nat} {f f' : Value → Array Value} {v : Value} {rs : List ARec}
theorem ORep.lt (h : ORep t N w X f v rs) : X < w.heap.size := (Array.getElem?_eq_some_iff.1 h.blk).1
theorem ORep.ge (h : ORep t N w X f v rs) : ∀ k, k ∈ powns X v → N ≤ k ∧ k < w.heap.size := fun k hk => by
  rcases List.mem_cons.1 hk with rfl | hk
  · exact ⟨h.new, h.lt⟩
  · exact h.row.lt k (by simpa using hk)
theorem ORep.same (h : ORep t N w X f v rs) (hs : ∀ k, k ∈ powns X v → w'.heap[k]? = w.heap[k]?) : ORep t N w' X f v rs :=
  ⟨h.new, (hs X List.mem_cons_self).trans h.blk, ownsRow_same h.row (fun k hk => hs k (List.mem_cons_of_mem _ (by simpa using hk))), h.nd⟩
theorem ORep.below (h : ORep t N w X f v rs) (hb : Below w.heap.size w w') : ORep t N w' X f v rs := h.same fun k hk => hb.block k (h.ge k hk).2
theorem ORep.kept {o : List Nat} (h : ORep t N w X f v rs) (hk : Kept o w w') (hd : ∀ k, k ∈ powns X v → k ∉ o) : ORep t N w' X f v rs := h.same fun k h1 => hk.block k (h.ge k h1).2 (hd k h1)
theorem ORep.form (h : ORep t N w X f v rs) : ∃ a cap, v = .slice a rs.length cap := row_form h.row
theorem ORep.size (h : ORep t N w X f v rs) : N ≤ w.heap.size := Nat.le_trans h.new (Nat.le_of_lt h.lt)

/-- From w to w' the object has come to f', rs. -/
def OTurn (t : TypeId) (N : Nat) (w : World) (X : Nat) (v : Value) (w' : World) (f' : Value → Array Value) (rs : List ARec) : Prop :=
  ∃ v', ORep t N w' X f' v' rs ∧ Kept (powns X v) w w' ∧ ∀ k, k ∈ powns X v' → k ∈ powns X v ∨ w.heap.size ≤ k
theorem OTurn.of_below (h : ORep t N w X f v rs) (hb : Below w.heap.size w w') : OTurn t N w X v w' f rs := ⟨v, h.below hb, Kept.of_below hb, fun k hk => .inl hk⟩
theorem OTurn.before {w0 : World} (hb : Below w.heap.size w w0) (h : OTurn t N w0 X v w' f' rs) : OTurn t N w X v w' f' rs := by
  obtain ⟨v', h1, h2, h3⟩ := h
  refine ⟨v', h1, (Kept.of_below hb).trans h2 (fun x hx => .inl hx), fun k hk => ?_⟩
  rcases h3 k hk with h | h
  · exact .inl h
  · right; have := hb.size; omega
/-- Its own cells alone are others. -/
theorem ORep.reblk (h : ORep t N w X f v rs) (hb : w'.heap[X]? = some (.cells (f' v) t (0, 0))) (hk : Kept [X] w w') : OTurn t N w X v w' f' rs := by
  refine ⟨v, ⟨h.new, hb, ownsRow_same h.row (fun k e => hk.block k (h.row.lt k e).2 (fun hm => ?_)), h.nd⟩, ⟨hk.os, hk.tape, hk.output, hk.size, fun k h1 h2 => hk.block k h1 (fun hm => h2 ?_)⟩, fun k hk => .inl hk⟩
  · simp at hm; subst hm; exact h.nd e
  · simp at hm; subst hm; exact List.mem_cons_self
/-- One record more; then its own cells are others. -/
theorem ORep.push {w3 : World} (h : ORep t N w X f v rs) {g cap n : Nat} {r : ARec} (hg : w.grownBy w3 v.ownBlock) (hn : n = rs.length + 1)
    (hown : w3.ownsRow N 61 8 (.slice (some ⟨g, 0, none⟩) n cap) n (rs.flatMap rcells ++ rcells r)) (hat : v.ownBlock = some g ∨ g = w.heap.size) (hk : Kept [X] w3 w') (hb : w'.heap[X]? = some (.cells (f' (.slice (some ⟨g, 0, none⟩) n cap)) t (0, 0))) :
    OTurn t N w X v w' f' (rs ++ [r]) := by
  have hX := h.lt
  have hgX : g ≠ X := by
    rcases hat with h1 | h1
    · intro e; subst e; exact h.nd h1
    · omega
  refine ⟨.slice (some ⟨g, 0, none⟩) n cap, ⟨h.new, hb, ?_, ?_⟩, ?_, ?_⟩
  · have e1 : (rs ++ [r]).length = n := by simp [hn]
    have e2 : (rs ++ [r]).flatMap rcells = rs.flatMap rcells ++ rcells r := by simp
    rw [e1, e2]
    exact ownsRow_same hown fun k e => hk.block k (hown.lt k e).2 (fun hm => by
      simp at hm; subst hm
      have : g = k := by simpa [Value.ownBlock] using e
      exact hgX this)
  · intro e
    simp [Value.ownBlock] at e
    exact hgX e
  · have k1 : Kept (powns X v) w w3 := ⟨hg.os, hg.tape, hg.output, hg.size, fun k h1 h2 => hg.block k h1 (fun e => h2 (List.mem_cons_of_mem _ (by simp [e])))⟩
    exact k1.trans hk (fun x hx => .inl (by simp at hx; subst hx; exact List.mem_cons_self))
  · intro k hk
    rcases List.mem_cons.1 hk with rfl | hk
    · exact .inl List.mem_cons_self
    · have : k = g := by simpa [Value.ownBlock] using hk
      rcases hat with h1 | h1
      · exact .inl (List.mem_cons_of_mem _ (by rw [this]; simp [h1]))
      · right; omega
end

/-- A client at X; a Guest at X (x: the call that it keeps). -/
structure KRep (N : Nat) (w : World) (X : Nat) (v : Value) (c : ACli) : Prop where
  o : ORep 85 N w X (kcells c) v c.done
  ok : COk c
abbrev KTurn (N : Nat) (w : World) (X : Nat) (v : Value) (w' : World) (c : ACli) : Prop := OTurn 85 N w X v w' (kcells c) c.done
end Go.Proofs.YtmbhbnoifimeaabGreat

namespace Go.Proofs.YtmbhbnoifimeaabGreat
open Go.RowKit
set_option linter.unusedSimpArgs false
set_option linter.unusedVariables false

/-- A step of a script. -/
structure AX where
  kind : Int
  n : Int
  keep : Int
  call : ACall
/-- A world. -/
structure AW where
  log : List ARec
  cl : Nat → ACli
  ms : List APkt
def upd (f : Nat → ACli) (n : Nat) (c : ACli) : Nat → ACli := fun k => if k = n then c else f k
theorem upd_at (f : Nat → ACli) (n : Nat) (c : ACli) : upd f n c n = c := by simp [upd]
theorem upd_off (f : Nat → ACli) {n k : Nat} (c : ACli) (h : k ≠ n) : upd f n c k = f k := by simp [upd, h]
def AW.start : AW := ⟨[], fun n => ⟨n, [], zeroCall, false⟩, []⟩
def AW.have (A : AW) (n : Int) (x : ACall) : Int × AW := if n < 0 ∨ 2 < n then (9, A) else ((A.cl n.toNat).ask x, ⟨A.log, upd A.cl n.toNat ((A.cl n.toNat).asked x), A.ms⟩)
def AW.send (A : AW) (n : Int) : Int × AW :=
  if n < 0 ∨ 2 < n then (9, A) else if (A.cl n.toNat).op = false then (6, A) else if A.ms.length < 40 then (0, ⟨A.log, A.cl, aSend A.ms (A.cl n.toNat).pkt⟩) else (7, A)
def AW.dbl (A : AW) (n : Int) : Int × AW := if A.ms.length = 0 then (6, A) else if A.ms.length < 40 then (0, ⟨A.log, A.cl, aDblL A.ms n⟩) else (7, A)
def AW.hear (A : AW) (p : APkt) : AW := if p.client < 0 ∨ 2 < p.client then A else ⟨A.log, upd A.cl p.client.toNat ((A.cl p.client.toNat).heard p), A.ms⟩
def APkt.back (p : APkt) (d : Int) (u : ByteArray) : APkt := ⟨true, p.client, p.no, p.call, d, u⟩
def AW.serve (A : AW) (p : APkt) : AW :=
  ⟨(aCall A.log p.client p.no p.call).log, A.cl, if (aCall A.log p.client p.no p.call).err = 0 then aSend A.ms (p.back (aCall A.log p.client p.no p.call).code (aCall A.log p.client p.no p.call).text) else A.ms⟩
def AW.come (A : AW) (p : APkt) : AW := if p.reply = true then A.hear p else A.serve p
def AW.tear (A : AW) (p : APkt) (keep : Int) : Int × AW := if p.reply = true then (0, A) else ((aTear A.log p.client p.no p.call keep).1, ⟨(aTear A.log p.client p.no p.call keep).2, A.cl, A.ms⟩)
def AW.took (A : AW) (n : Int) : AW := ⟨A.log, A.cl, aTakeL A.ms n⟩
def AW.take (A : AW) (x : AX) : Int × AW :=
  if A.ms.length = 0 then (6, A) else if x.kind = 3 then (0, (A.took x.n).come (aTakeM A.ms x.n)) else if x.kind = 7 then (A.took x.n).tear (aTakeM A.ms x.n) x.keep else (0, A.took x.n)
def AW.step (A : AW) (x : AX) : Int × AW :=
  if x.kind = 1 then A.have x.n x.call else if x.kind = 2 then A.send x.n else if x.kind = 5 then A.dbl x.n
  else if x.kind = 4 ∨ x.kind = 3 ∨ x.kind = 7 then A.take x else if x.kind = 6 then (0, A) else (1, A)
/-- The first packet comes, if there is one. -/
def AW.pop (A : AW) : AW := if A.ms.length = 0 then A else (A.took 0).come (aTakeM A.ms 0)
def AW.pops : Nat → AW → AW
  | 0, A => A
  | k + 1, A => AW.pops k A.pop
/-- How many packets can come, at most. -/
def wght (ms : List APkt) : Nat := (ms.map fun p => if p.reply = true then 1 else 2).sum
def AW.drain (A : AW) : AW := AW.pops (wght A.ms) A
def AW.sends (A : AW) : AW := (((A.send 0).2.send 1).2.send 2).2
def AW.busy (A : AW) : Bool := decide ((A.send 0).1 = 0) || decide (((A.send 0).2.send 1).1 = 0) || decide ((((A.send 0).2.send 1).2.send 2).1 = 0)
/-- f: how often they may send still. -/
def AW.calm : Nat → AW → Int × AW
  | 0, A => (3, A.drain)
  | f + 1, A => if A.drain.busy = true then AW.calm f A.drain.sends else (2 - (f : Int), A.drain)

/-- All that a client was asked. -/
def ACli.calls (c : ACli) : List ACall := c.done.map ARec.call ++ (if c.op = true then [c.call] else [])
theorem calls_len (c : ACli) : c.calls.length = c.done.length + (if c.op = true then 1 else 0) := by
  unfold ACli.calls; split <;> simp
theorem calls_open {c : ACli} (h : c.op = true) : c.calls[c.done.length]? = some c.call := by
  unfold ACli.calls; rw [if_pos h, List.getElem?_append_right (by simp)]; simp
theorem calls_done {c : ACli} {k : Nat} {r : ARec} (h : c.done[k]? = some r) : c.calls[k]? = some r.call := by
  unfold ACli.calls
  have hk := (List.getElem?_eq_some_iff.1 h).1
  rw [List.getElem?_append_left (by simpa using hk)]
  simp [h]
theorem ask_zero {c : ACli} {x : ACall} (h : c.ask x = 0) : checkI x = 0 ∧ c.op = false ∧ c.done.length < 200 := by
  unfold ACli.ask at h
  by_cases h1 : checkI x ≠ 0
  · rw [if_pos h1] at h; exact absurd h h1
  · rw [if_neg h1] at h
    by_cases h2 : c.op = true
    · rw [if_pos h2] at h; omega
    · rw [if_neg h2] at h
      by_cases h3 : 200 ≤ c.done.length
      · rw [if_pos h3] at h; omega
      · exact ⟨by simpa using h1, by simpa using h2, by omega⟩
theorem asked_some {c : ACli} {x : ACall} (h : c.ask x = 0) : c.asked x = ⟨c.me, c.done, x, true⟩ ∧ (c.asked x).calls = c.calls ++ [x] := by
  have e : c.asked x = ⟨c.me, c.done, x, true⟩ := by unfold ACli.asked; rw [if_pos h]
  refine ⟨e, ?_⟩
  rw [e]
  obtain ⟨_, h2, _⟩ := ask_zero h
  unfold ACli.calls
  simp [h2]
theorem asked_none {c : ACli} {x : ACall} (h : c.ask x ≠ 0) : c.asked x = c := by unfold ACli.asked; rw [if_neg h]
theorem hears_iff {c : ACli} {p : APkt} (h : c.hears p = true) : c.op = true ∧ p.reply = true ∧ p.client = c.me ∧ p.no = c.no ∧ p.call = c.call := by
  unfold ACli.hears at h
  simp only [Bool.and_eq_true, beq_iff_eq] at h
  exact ⟨h.1.1.1.1, h.1.1.1.2, h.1.1.2, h.1.2, (callB_iff _ _).1 h.2⟩
theorem hears_of {c : ACli} {p : APkt} (h1 : c.op = true) (h2 : p.reply = true) (h3 : p.client = c.me) (h4 : p.no = c.no) (h5 : p.call = c.call) : c.hears p = true := by
  unfold ACli.hears
  simp [h1, h2, h3, h4, h5, callB_self]
theorem heard_some {c : ACli} {p : APkt} (h : c.hears p = true) : c.heard p = ⟨c.me, c.done ++ [c.rcd p], zeroCall, false⟩ := by unfold ACli.heard; rw [if_pos h]
theorem heard_none {c : ACli} {p : APkt} (h : c.hears p ≠ true) : c.heard p = c := by unfold ACli.heard; rw [if_neg h]
theorem heard_calls (c : ACli) (p : APkt) : (c.heard p).calls = c.calls := by
  by_cases h : c.hears p = true
  · rw [heard_some h]
    unfold ACli.calls
    rw [if_pos (hears_iff h).1]
    simp [ACli.rcd]
  · rw [heard_none h]
theorem heard_me (c : ACli) (p : APkt) : (c.heard p).me = c.me := by
  by_cases h : c.hears p = true
  · rw [heard_some h]
  · rw [heard_none h]
theorem asked_me (c : ACli) (x : ACall) : (c.asked x).me = c.me := by
  by_cases h : c.ask x = 0
  · rw [(asked_some h).1]
  · rw [asked_none h]
theorem asked_done (c : ACli) (x : ACall) : (c.asked x).done = c.done := by
  by_cases h : c.ask x = 0
  · rw [(asked_some h).1]
  · rw [asked_none h]

theorem aSend_mem {ms : List APkt} {m p : APkt} (h : p ∈ aSend ms m) : p ∈ ms ∨ p = m := by
  unfold aSend at h
  split at h
  · simpa using h
  · exact .inl h
theorem aSend_few {ms : List APkt} (m : APkt) (h : ms.length ≤ 40) : (aSend ms m).length ≤ 40 := by
  unfold aSend
  split
  · simp; omega
  · exact h
theorem takeM_mem {ms : List APkt} (n : Int) (h : ms.length ≠ 0) : aTakeM ms n ∈ ms := List.mem_of_getElem? (take_some n (by omega))
theorem takeL_mem {ms : List APkt} {n : Int} {p : APkt} (h : p ∈ aTakeL ms n) : p ∈ ms := by unfold aTakeL at h; exact List.mem_of_mem_eraseIdx h
theorem dblL_mem {ms : List APkt} {n : Int} {p : APkt} (h : p ∈ aDblL ms n) : p ∈ ms := by
  unfold aDblL at h
  split at h
  · rename_i h0
    rcases aSend_mem h with h1 | h1
    · exact h1
    · rw [h1]; exact takeM_mem n (by omega)
  · exact h
theorem dblL_few {ms : List APkt} (n : Int) (h : ms.length ≤ 40) : (aDblL ms n).length ≤ 40 := by
  unfold aDblL; split
  · exact aSend_few _ h
  · exact h

/-- A packet may be on its way. -/
structure PkOk (A : AW) (p : APkt) : Prop where
  lo : 0 ≤ p.client
  hi : p.client ≤ 2
  no : 1 ≤ p.no
  is : (A.cl p.client.toNat).calls[(p.no - 1).toNat]? = some p.call
  rp : p.reply = true → changesB p.call.kind = true → (⟨p.client, p.no, p.call, p.code, p.ans⟩ : ARec) ∈ A.log
structure LgOk (A : AW) (r : ARec) : Prop where
  lo : 0 ≤ r.client
  hi : r.client ≤ 2
  no : 1 ≤ r.no
  is : (A.cl r.client.toNat).calls[(r.no - 1).toNat]? = some r.call
  ch : changesB r.call.kind = true
/-- Numbers of a client rise. -/
def Rise (L : List ARec) : Prop := ∀ (i j : Nat) (r q : ARec), i < j → L[i]? = some r → L[j]? = some q → r.client = q.client → r.no < q.no
/-- Each answer is what files tell behind those ahead of it. -/
def Ser (L : List ARec) : Prop := ∀ (i : Nat) (r : ARec), L[i]? = some r → (aDo (behind (L.take i)) r.call).code = r.code ∧ (aDo (behind (L.take i)) r.call).text = r.ans
structure WInv (A : AW) : Prop where
  me : ∀ n, n < 3 → (A.cl n).me = (n : Int)
  cok : ∀ n, n < 3 → COk (A.cl n)
  chk : ∀ n, n < 3 → ∀ c, c ∈ (A.cl n).calls → checkI c = 0
  pk : ∀ p, p ∈ A.ms → PkOk A p
  lg : ∀ r, r ∈ A.log → LgOk A r
  up : Rise A.log
  se : Ser A.log
  dn : ∀ n, n < 3 → ∀ r, r ∈ (A.cl n).done → changesB r.call.kind = true → r ∈ A.log
  few : A.ms.length ≤ 40
  small : ∀ m, m ∈ A.ms → SmallP m
  good : Good A.log
  ss : (logB A.log).length ≤ 2000

theorem WInv.start : WInv AW.start := by
  refine ⟨fun n _ => rfl, fun n _ => COk.start _, fun n _ c hc => ?_, fun p hp => ?_, fun r hr => ?_, fun i j r q _ h => ?_, fun i r h => ?_, fun n _ r hr => ?_, Nat.zero_le _, fun m hm => ?_, fun r hr => ?_, Nat.zero_le _⟩
  · simp [AW.start, ACli.calls] at hc
  · simp [AW.start] at hp
  · simp [AW.start] at hr
  · simp [AW.start] at h
  · simp [AW.start] at h
  · simp [AW.start] at hr
  · simp [AW.start] at hm
  · simp [AW.start] at hr
/-- Only packets have changed. -/
theorem WInv.mail {A : AW} (h : WInv A) {ms : List APkt} (hp : ∀ p, p ∈ ms → PkOk A p ∧ SmallP p) (hf : ms.length ≤ 40) : WInv ⟨A.log, A.cl, ms⟩ :=
  ⟨h.me, h.cok, h.chk, fun p hm => ⟨(hp p hm).1.lo, (hp p hm).1.hi, (hp p hm).1.no, (hp p hm).1.is, (hp p hm).1.rp⟩, fun r hr => ⟨(h.lg r hr).lo, (h.lg r hr).hi, (h.lg r hr).no, (h.lg r hr).is, (h.lg r hr).ch⟩, h.up, h.se, h.dn, hf, fun m hm => (hp m hm).2, h.good, h.ss⟩
theorem WInv.both {A : AW} (h : WInv A) {p : APkt} (hp : p ∈ A.ms) : PkOk A p ∧ SmallP p := ⟨h.pk p hp, h.small p hp⟩
/-- One client has changed, and all that he was asked he was. -/
theorem WInv.client {A : AW} (h : WInv A) {n : Nat} (hn : n < 3) {c : ACli} (hme : c.me = (n : Int)) (hok : COk c) (hchk : ∀ x, x ∈ c.calls → checkI x = 0) (hcs : ∀ (k : Nat) (x : ACall), (A.cl n).calls[k]? = some x → c.calls[k]? = some x) (hdn : ∀ r, r ∈ c.done → changesB r.call.kind = true → r ∈ A.log) :
    WInv ⟨A.log, upd A.cl n c, A.ms⟩ := by
  have hcs' : ∀ (m k : Nat) (x : ACall), (A.cl m).calls[k]? = some x → (upd A.cl n c m).calls[k]? = some x := fun m k x hx => by
    by_cases e : m = n
    · subst e; rw [upd_at]; exact hcs k x hx
    · rw [upd_off _ _ e]; exact hx
  refine ⟨fun m hm => ?_, fun m hm => ?_, fun m hm => ?_, fun p hp => ?_, fun r hr => ?_, h.up, h.se, fun m hm => ?_, h.few, h.small, h.good, h.ss⟩
  · by_cases e : m = n
    · subst e; dsimp only; rw [upd_at]; exact hme
    · dsimp only; rw [upd_off _ _ e]; exact h.me m hm
  · by_cases e : m = n
    · subst e; dsimp only; rw [upd_at]; exact hok
    · dsimp only; rw [upd_off _ _ e]; exact h.cok m hm
  · by_cases e : m = n
    · subst e; dsimp only; rw [upd_at]; exact hchk
    · dsimp only; rw [upd_off _ _ e]; exact h.chk m hm
  · exact ⟨(h.pk p hp).lo, (h.pk p hp).hi, (h.pk p hp).no, hcs' _ _ _ (h.pk p hp).is, (h.pk p hp).rp⟩
  · exact ⟨(h.lg r hr).lo, (h.lg r hr).hi, (h.lg r hr).no, hcs' _ _ _ (h.lg r hr).is, (h.lg r hr).ch⟩
  · by_cases e : m = n
    · subst e; dsimp only; rw [upd_at]; exact hdn
    · dsimp only; rw [upd_off _ _ e]; exact h.dn m hm
theorem WInv.have {A : AW} (h : WInv A) (n : Int) {x : ACall} (hx : SmallC x) : WInv (A.have n x).2 := by
  unfold AW.have
  split
  · exact h
  rename_i hn
  have h3 : n.toNat < 3 := by omega
  dsimp only
  by_cases h0 : (A.cl n.toNat).ask x = 0
  · obtain ⟨e1, e2⟩ := asked_some h0
    refine h.client h3 (by rw [asked_me]; exact h.me _ h3) ((h.cok _ h3).asked hx) (fun y hy => ?_) (fun k y hy => ?_) (fun r hr => ?_)
    · rw [e2] at hy
      rcases List.mem_append.1 hy with hy | hy
      · exact h.chk _ h3 y hy
      · simp at hy; subst hy; exact (ask_zero h0).1
    · rw [e2, List.getElem?_append_left (List.getElem?_eq_some_iff.1 hy).1]; exact hy
    · rw [asked_done] at hr; exact h.dn _ h3 r hr
  · rw [asked_none h0]
    exact h.client h3 (h.me _ h3) (h.cok _ h3) (h.chk _ h3) (fun _ _ hy => hy) (h.dn _ h3)
theorem pkt_ok {A : AW} (h : WInv A) {n : Nat} (hn : n < 3) (hop : (A.cl n).op = true) : PkOk A (A.cl n).pkt ∧ SmallP (A.cl n).pkt := by
  have hm := h.me n hn
  refine ⟨?_, pkt_small (h.cok n hn)⟩
  have e : (A.cl n).pkt = ⟨false, (A.cl n).me, (A.cl n).no, (A.cl n).call, 0, ⟨#[]⟩⟩ := by unfold ACli.pkt; rw [if_pos hop]
  rw [e]
  refine ⟨by dsimp only; omega, by dsimp only; omega, by dsimp only; unfold ACli.no; omega, ?_, fun h => by cases h⟩
  dsimp only
  rw [hm]
  have e2 : ((A.cl n).no - 1).toNat = (A.cl n).done.length := by unfold ACli.no; omega
  rw [Int.toNat_natCast, e2]
  exact calls_open hop
theorem WInv.send {A : AW} (h : WInv A) (n : Int) : WInv (A.send n).2 := by
  unfold AW.send
  split
  · exact h
  split
  · exact h
  rename_i hn hop
  split
  · refine h.mail (fun p hp => ?_) (aSend_few _ h.few)
    rcases aSend_mem hp with h1 | h1
    · exact h.both h1
    · rw [h1]; exact pkt_ok h (by omega) (by simpa using hop)
  · exact h
theorem WInv.dbl {A : AW} (h : WInv A) (n : Int) : WInv (A.dbl n).2 := by
  unfold AW.dbl
  split
  · exact h
  split
  · exact h.mail (fun p hp => h.both (dblL_mem hp)) (dblL_few _ h.few)
  · exact h
theorem WInv.took {A : AW} (h : WInv A) (n : Int) : WInv (A.took n) := by
  refine h.mail (fun p hp => h.both (takeL_mem hp)) ?_
  unfold aTakeL
  have := List.length_eraseIdx_le A.ms (rnd n A.ms.length)
  exact Nat.le_trans this h.few
/-- The packet that he hears is in the log, if it may change something. -/
theorem WInv.hear {A : AW} (h : WInv A) {p : APkt} (hp : PkOk A p) (hs : SmallP p) : WInv (A.hear p) := by
  unfold AW.hear
  split
  · exact h
  rename_i hn
  have h3 : p.client.toNat < 3 := by omega
  refine h.client h3 (by rw [heard_me]; exact h.me _ h3) ((h.cok _ h3).heard hs) (fun y hy => ?_) (fun k y hy => ?_) (fun r hr hc => ?_)
  · rw [heard_calls] at hy; exact h.chk _ h3 y hy
  · rw [heard_calls]; exact hy
  · by_cases hh : (A.cl p.client.toNat).hears p = true
    · rw [heard_some hh] at hr
      rcases List.mem_append.1 hr with hr | hr
      · exact h.dn _ h3 r hr hc
      · simp at hr
        subst hr
        obtain ⟨_, h5, h6, h7, h8⟩ := hears_iff hh
        unfold ACli.rcd at hc ⊢
        rw [← h6, ← h7, ← h8]
        exact hp.rp h5 (by rw [h8]; exact hc)
    · rw [heard_none hh] at hr
      exact h.dn _ h3 r hr hc

/-- The last one has the greatest number. -/
theorem last_most {L : List ARec} (h : Rise L) {r : ARec} (hr : r ∈ L) : r.no ≤ (lastR L r.client).no := by
  induction L using snoc_ind with
  | h0 => simp at hr
  | h1 K q ih =>
    have hK : Rise K := fun i j a b hij ha hb hc => h i j a b hij (by rw [List.getElem?_append_left (List.getElem?_eq_some_iff.1 ha).1]; exact ha) (by rw [List.getElem?_append_left (List.getElem?_eq_some_iff.1 hb).1]; exact hb) hc
    rw [lastR_snoc]
    by_cases hq : q.client = r.client
    · rw [if_pos hq]
      rcases List.mem_append.1 hr with h1 | h1
      · obtain ⟨i, hi⟩ := List.mem_iff_getElem?.1 h1
        have hil := (List.getElem?_eq_some_iff.1 hi).1
        have := h i K.length r q hil (by rw [List.getElem?_append_left hil]; exact hi) (by simp) hq.symm
        omega
      · simp at h1; subst h1; exact Int.le_refl _
    · rw [if_neg hq]
      rcases List.mem_append.1 hr with h1 | h1
      · exact ih hK h1
      · simp at h1; subst h1; exact absurd rfl hq
theorem Rise.snoc {L : List ARec} (h : Rise L) {r : ARec} (hr : (lastR L r.client).no < r.no) : Rise (L ++ [r]) := fun i j a b hij ha hb hc => by
  by_cases hj : j < L.length
  · rw [List.getElem?_append_left (by omega)] at ha
    rw [List.getElem?_append_left hj] at hb
    exact h i j a b hij ha hb hc
  · have hj2 := (List.getElem?_eq_some_iff.1 hb).1
    simp at hj2
    have e : j = L.length := by omega
    subst e
    simp at hb
    subst hb
    rw [List.getElem?_append_left hij] at ha
    have h1 := last_most h (List.mem_of_getElem? ha)
    rw [hc] at h1
    omega
theorem Ser.snoc {L : List ARec} (h : Ser L) {r : ARec} (h1 : (aDo (behind L) r.call).code = r.code) (h2 : (aDo (behind L) r.call).text = r.ans) : Ser (L ++ [r]) := fun i a ha => by
  by_cases hi : i < L.length
  · rw [List.getElem?_append_left hi] at ha
    rw [List.take_append_of_le_length (by omega)]
    exact h i a ha
  · have hi2 := (List.getElem?_eq_some_iff.1 ha).1
    simp at hi2
    have e : i = L.length := by omega
    subst e
    simp at ha
    subst ha
    rw [List.take_left]
    exact ⟨h1, h2⟩

/-- What a call of a packet makes of the log: nothing, or one record more. -/
def Grew (A : AW) (p : APkt) (R : CRes) : Prop :=
  (∃ e : Int, e ≠ 0 ∧ R = ⟨0, ⟨#[]⟩, e, A.log⟩) ∨
  (changesB p.call.kind = false ∧ R = ⟨(aDo (behind A.log) p.call).code, (aDo (behind A.log) p.call).text, 0, A.log⟩) ∨
  (changesB p.call.kind = true ∧ ¬ (p.client < 0 ∨ 2 < p.client ∨ p.no < 1 ∨ 200 < p.no) ∧ checkI p.call = 0 ∧ (lastR A.log p.client).no < p.no ∧ (logB A.log).length + (encL ⟨p.client, p.no, p.call, 0, ⟨#[]⟩⟩).length ≤ 2000 ∧
    R = ⟨(aDo (behind A.log) p.call).code, (aDo (behind A.log) p.call).text, 0, A.log ++ [⟨p.client, p.no, p.call, (aDo (behind A.log) p.call).code, (aDo (behind A.log) p.call).text⟩]⟩) ∨
  (∃ (d : Int) (u : ByteArray), changesB p.call.kind = true ∧ (⟨p.client, p.no, p.call, d, u⟩ : ARec) ∈ A.log ∧ R = ⟨d, u, 0, A.log⟩)
theorem grew_any (A : AW) (p : APkt) (hz : 1 ≤ p.no) : Grew A p (aCall A.log p.client p.no p.call) := by
  unfold aCall
  split
  · exact .inl ⟨9, by decide, rfl⟩
  rename_i h1
  split
  · rename_i h2; exact .inl ⟨_, h2, rfl⟩
  rename_i h2
  split
  · rename_i h3; exact .inr (.inl ⟨h3, rfl⟩)
  rename_i h3
  split
  · rename_i h4
    split
    · exact .inl ⟨7, by decide, rfl⟩
    · rename_i h5
      exact .inr (.inr (.inl ⟨by simpa using h3, h1, by simpa using h2, h4, by omega, rfl⟩))
  · split
    · rename_i h4 h5
      refine .inr (.inr (.inr ⟨_, _, by simpa using h3, ?_, rfl⟩))
      rcases lastR_or A.log p.client with ⟨h6, _⟩ | ⟨h6, h7⟩
      · rw [h6] at h5
        have : (zeroRec).no = 0 := rfl
        omega
      · have e := (callB_iff _ _).1 h5.2
        have e2 : (⟨p.client, p.no, p.call, (lastR A.log p.client).code, (lastR A.log p.client).ans⟩ : ARec) = lastR A.log p.client := by rw [h5.1, e]; generalize lastR A.log p.client = x at h7; cases x; dsimp only at h7; rw [h7]
        rw [e2]
        exact h6
    · exact .inl ⟨10, by decide, rfl⟩
/-- The log has one record more. -/
theorem WInv.snoc {A : AW} (h : WInv A) {p : APkt} (hp : PkOk A p) {d : Int} {u : ByteArray} (hc : changesB p.call.kind = true) (hl : (lastR A.log p.client).no < p.no) (hd : (aDo (behind A.log) p.call).code = d) (hu : (aDo (behind A.log) p.call).text = u)
    (hg : Good (A.log ++ [⟨p.client, p.no, p.call, d, u⟩])) (hs : (logB (A.log ++ [⟨p.client, p.no, p.call, d, u⟩])).length ≤ 2000) : WInv ⟨A.log ++ [⟨p.client, p.no, p.call, d, u⟩], A.cl, A.ms⟩ := by
  refine ⟨h.me, h.cok, h.chk, fun q hq => ?_, fun r hr => ?_, h.up.snoc hl, h.se.snoc hd hu, fun n hn r hr hc' => List.mem_append_left _ (h.dn n hn r hr hc'), h.few, h.small, hg, hs⟩
  · have k := h.pk q hq
    exact ⟨k.lo, k.hi, k.no, k.is, fun h1 h2 => List.mem_append_left _ (k.rp h1 h2)⟩
  · rcases List.mem_append.1 hr with hr | hr
    · have k := h.lg r hr
      exact ⟨k.lo, k.hi, k.no, k.is, k.ch⟩
    · simp at hr
      subst hr
      exact ⟨hp.lo, hp.hi, hp.no, hp.is, hc⟩
theorem WInv.logged {A : AW} (h : WInv A) {p : APkt} (hp : PkOk A p) : WInv ⟨(aCall A.log p.client p.no p.call).log, A.cl, A.ms⟩ := by
  have hg := aCall_good h.good p.client p.no p.call
  have hs := aCall_short h.good h.ss p.client p.no p.call
  have hG := grew_any A p hp.no
  generalize aCall A.log p.client p.no p.call = R at hg hs hG
  rcases hG with ⟨e, he, rfl⟩ | ⟨hc, rfl⟩ | ⟨hc, hr, hk, hl, h5, rfl⟩ | ⟨d, u, hc, hm, rfl⟩
  · exact h
  · exact h
  · exact h.snoc hp hc hl rfl rfl hg hs
  · exact h
theorem back_ok {A : AW} (h : WInv A) {p : APkt} (hp : PkOk A p) (hs : SmallP p) (h0 : (aCall A.log p.client p.no p.call).err = 0) :
    PkOk ⟨(aCall A.log p.client p.no p.call).log, A.cl, A.ms⟩ (p.back (aCall A.log p.client p.no p.call).code (aCall A.log p.client p.no p.call).text) ∧ SmallP (p.back (aCall A.log p.client p.no p.call).code (aCall A.log p.client p.no p.call).text) := by
  have hG := grew_any A p hp.no
  have hsm := aDo_small A.log p.call
  generalize aCall A.log p.client p.no p.call = R at h0 hG
  rcases hG with ⟨e, he, rfl⟩ | ⟨hc, rfl⟩ | ⟨hc, hr, hk, hl, h5, rfl⟩ | ⟨d, u, hc, hm, rfl⟩
  · exact absurd h0 he
  · exact ⟨⟨hp.lo, hp.hi, hp.no, hp.is, fun _ h2 => by dsimp only [APkt.back] at h2; rw [hc] at h2; cases h2⟩, hs.1, hs.2.1, hs.2.2.1, by dsimp only [APkt.back]; omega⟩
  · exact ⟨⟨hp.lo, hp.hi, hp.no, hp.is, fun _ _ => List.mem_append_right _ (by simp [APkt.back])⟩, hs.1, hs.2.1, hs.2.2.1, by dsimp only [APkt.back]; omega⟩
  · have := (enc_small (h.good _ hm)).2
    exact ⟨⟨hp.lo, hp.hi, hp.no, hp.is, fun _ _ => hm⟩, hs.1, hs.2.1, hs.2.2.1, by dsimp only [APkt.back] at this ⊢; omega⟩
theorem WInv.serve {A : AW} (h : WInv A) {p : APkt} (hp : PkOk A p) (hs : SmallP p) : WInv (A.serve p) := by
  have h1 := h.logged hp
  have h2 := fun h0 => back_ok h hp hs h0
  unfold AW.serve
  split
  · rename_i h0
    refine h1.mail (ms := aSend A.ms _) (fun q hq => ?_) (aSend_few _ h.few)
    rcases aSend_mem hq with h3 | h3
    · exact h1.both h3
    · rw [h3]; exact h2 h0
  · exact h1
theorem PkOk.same {A : AW} {p : APkt} (h : PkOk A p) (ms : List APkt) : PkOk ⟨A.log, A.cl, ms⟩ p := ⟨h.lo, h.hi, h.no, h.is, h.rp⟩
theorem WInv.come {A : AW} (h : WInv A) {p : APkt} (hp : PkOk A p) (hs : SmallP p) : WInv (A.come p) := by
  unfold AW.come
  split
  · exact h.hear hp hs
  · exact h.serve hp hs
theorem WInv.tear {A : AW} (h : WInv A) {p : APkt} (hp : PkOk A p) (hs : SmallP p) (keep : Int) : WInv (A.tear p keep).2 := by
  unfold AW.tear
  split
  · exact h
  · dsimp only
    rcases aTear_log A.log p.client p.no p.call keep with h1 | h1
    · rw [h1]; exact h
    · rw [h1]; exact h.logged hp
theorem WInv.take {A : AW} (h : WInv A) (x : AX) : WInv (A.take x).2 := by
  unfold AW.take
  split
  · exact h
  rename_i h0
  obtain ⟨h1, h2⟩ := h.both (takeM_mem x.n h0)
  split
  · exact (h.took x.n).come (h1.same _) h2
  split
  · exact (h.took x.n).tear (h1.same _) h2 x.keep
  · exact h.took x.n
theorem WInv.step {A : AW} (h : WInv A) {x : AX} (hx : SmallC x.call) : WInv (A.step x).2 := by
  unfold AW.step
  split
  · exact h.have _ hx
  split
  · exact h.send _
  split
  · exact h.dbl _
  split
  · exact h.take x
  split
  · exact h
  · exact h
theorem WInv.pop {A : AW} (h : WInv A) : WInv A.pop := by
  unfold AW.pop
  split
  · exact h
  rename_i h0
  obtain ⟨h1, h2⟩ := h.both (takeM_mem 0 h0)
  exact (h.took 0).come (h1.same _) h2
theorem WInv.pops {A : AW} (h : WInv A) (k : Nat) : WInv (AW.pops k A) := by
  induction k generalizing A with
  | zero => exact h
  | succ k ih => exact ih h.pop
theorem WInv.drain {A : AW} (h : WInv A) : WInv A.drain := h.pops _
theorem WInv.sends {A : AW} (h : WInv A) : WInv A.sends := ((h.send 0).send 1).send 2
end Go.Proofs.YtmbhbnoifimeaabGreat

namespace Go.Proofs.YtmbhbnoifimeaabGreat
open Go.RowKit
set_option linter.unusedSimpArgs false
set_option linter.unusedVariables false

theorem take_cons (p : APkt) (ms : List APkt) : aTakeM (p :: ms) 0 = p ∧ aTakeL (p :: ms) 0 = ms := by
  have h : rnd 0 (p :: ms).length = 0 := rnd0 (by simp)
  unfold aTakeM aTakeL
  rw [h]
  simp
theorem pop_nil {A : AW} (h : A.ms = []) : A.pop = A := by unfold AW.pop; rw [if_pos (by rw [h]; rfl)]
theorem pop_cons {A : AW} {p : APkt} {ms : List APkt} (h : A.ms = p :: ms) : A.pop = (⟨A.log, A.cl, ms⟩ : AW).come p := by
  unfold AW.pop AW.took
  rw [if_neg (by rw [h]; simp), h, (take_cons p ms).1, (take_cons p ms).2]
theorem wght_cons (p : APkt) (ms : List APkt) : wght (p :: ms) = (if p.reply = true then 1 else 2) + wght ms := by simp [wght]
theorem wght_snoc (p : APkt) (ms : List APkt) : wght (ms ++ [p]) = wght ms + (if p.reply = true then 1 else 2) := by simp [wght]
theorem wght_send (p : APkt) (ms : List APkt) (h : p.reply = true) : wght (aSend ms p) ≤ wght ms + 1 := by
  unfold aSend
  split
  · rw [wght_snoc, if_pos h]; omega
  · omega
theorem come_wght (A : AW) (p : APkt) : wght (A.come p).ms + 1 ≤ wght A.ms + (if p.reply = true then 1 else 2) := by
  unfold AW.come
  split
  · unfold AW.hear; split <;> exact Nat.le_refl _
  · unfold AW.serve
    dsimp only
    split
    · have := wght_send (p.back (aCall A.log p.client p.no p.call).code (aCall A.log p.client p.no p.call).text) A.ms rfl
      omega
    · omega
theorem pop_wght {A : AW} (h : A.ms.length ≠ 0) : wght A.pop.ms < wght A.ms := by
  cases hm : A.ms with
  | nil => rw [hm] at h; exact absurd rfl h
  | cons p ms =>
    rw [pop_cons hm, wght_cons]
    have := come_wght ⟨A.log, A.cl, ms⟩ p
    dsimp only at this
    omega
theorem pops_nil {A : AW} (h : A.ms = []) (k : Nat) : AW.pops k A = A := by
  induction k with
  | zero => rfl
  | succ k ih => show AW.pops k A.pop = A; rw [pop_nil h]; exact ih
theorem pops_add (j k : Nat) (A : AW) : AW.pops (j + k) A = AW.pops k (AW.pops j A) := by
  induction j generalizing A with
  | zero => rw [Nat.zero_add]; rfl
  | succ j ih => rw [Nat.succ_add]; exact ih A.pop
theorem pops_succ (k : Nat) (A : AW) : AW.pops (k + 1) A = (AW.pops k A).pop := pops_add k 1 A
theorem pops_empty (k : Nat) (A : AW) (h : wght A.ms ≤ k) : (AW.pops k A).ms = [] := by
  induction k generalizing A with
  | zero =>
    show A.ms = []
    cases hm : A.ms with
    | nil => rfl
    | cons p ms => rw [hm, wght_cons] at h; split at h <;> omega
  | succ k ih =>
    by_cases h0 : A.ms.length = 0
    · have e : A.ms = [] := List.length_eq_zero_iff.1 h0
      rw [pops_nil e]; exact e
    · have := pop_wght h0
      exact ih A.pop (by omega)
theorem drain_empty (A : AW) : A.drain.ms = [] := pops_empty _ _ (Nat.le_refl _)
theorem drain_of {A : AW} {j : Nat} (h : (AW.pops j A).ms = []) : AW.pops j A = A.drain := by
  have h1 : AW.pops (j + wght A.ms) A = AW.pops j A := by rw [pops_add, pops_nil h]
  have h2 : AW.pops (wght A.ms + j) A = A.drain := by rw [pops_add]; exact pops_nil (drain_empty A) j
  rw [Nat.add_comm] at h1
  rw [← h1, h2]
theorem drain_nil {A : AW} (h : A.ms = []) : A.drain = A := pops_nil h _

/-- Sending changes only the packets. -/
theorem send_two (A : AW) (n : Int) : (A.send n).2.cl = A.cl ∧ (A.send n).2.log = A.log ∧ (∀ p, p ∈ A.ms → p ∈ (A.send n).2.ms) ∧ (A.send n).2.ms.length ≤ A.ms.length + 1 := by
  unfold AW.send
  split
  · exact ⟨rfl, rfl, fun p h => h, by dsimp only; omega⟩
  split
  · exact ⟨rfl, rfl, fun p h => h, by dsimp only; omega⟩
  split
  · rename_i h
    refine ⟨rfl, rfl, fun p hp => ?_, ?_⟩
    · unfold aSend; rw [if_pos h]; exact List.mem_append_left _ hp
    · dsimp only; unfold aSend; rw [if_pos h]; simp
  · exact ⟨rfl, rfl, fun p h => h, by dsimp only; omega⟩
theorem send_has {A : AW} {n : Nat} (hn : n < 3) (hop : (A.cl n).op = true) (hf : A.ms.length < 40) : (A.send n).1 = 0 ∧ (A.cl n).pkt ∈ (A.send n).2.ms := by
  unfold AW.send
  rw [if_neg (by omega), Int.toNat_natCast, if_neg (by simp [hop]), if_pos hf]
  refine ⟨rfl, ?_⟩
  unfold aSend
  rw [if_pos hf]
  simp
theorem send_shut {A : AW} {n : Nat} (hn : n < 3) (hop : (A.cl n).op = false) : A.send n = (6, A) := by
  unfold AW.send
  rw [if_neg (by omega), Int.toNat_natCast, if_pos hop]

/-- Each open call is on its way, or its answer. -/
def Under (A : AW) : Prop := ∀ n, n < 3 → (A.cl n).op = true → ∃ p, p ∈ A.ms ∧ p.client = (n : Int) ∧ p.no = (A.cl n).no ∧ p.call = (A.cl n).call
theorem pkt_is {A : AW} (h : WInv A) {n : Nat} (hn : n < 3) (hop : (A.cl n).op = true) : (A.cl n).pkt.client = (n : Int) ∧ (A.cl n).pkt.no = (A.cl n).no ∧ (A.cl n).pkt.call = (A.cl n).call := by
  unfold ACli.pkt
  rw [if_pos hop]
  exact ⟨h.me n hn, rfl, rfl⟩
theorem sends_two (A : AW) : A.sends.cl = A.cl ∧ A.sends.log = A.log := by
  unfold AW.sends
  obtain ⟨a1, a2, _⟩ := send_two A 0
  obtain ⟨b1, b2, _⟩ := send_two (A.send 0).2 1
  obtain ⟨c1, c2, _⟩ := send_two ((A.send 0).2.send 1).2 2
  exact ⟨c1.trans (b1.trans a1), c2.trans (b2.trans a2)⟩
theorem sends_under {A : AW} (h : WInv A) (h0 : A.ms.length ≤ 30) : Under A.sends := fun n hn hop => by
  obtain ⟨e1, e2⟩ := sends_two A
  rw [e1] at hop ⊢
  refine ⟨(A.cl n).pkt, ?_, pkt_is h hn hop⟩
  unfold AW.sends
  obtain ⟨a1, a2, a3, a4⟩ := send_two A 0
  obtain ⟨b1, b2, b3, b4⟩ := send_two (A.send 0).2 1
  obtain ⟨c1, c2, c3, c4⟩ := send_two ((A.send 0).2.send 1).2 2
  match n, hn with
  | 0, _ => exact c3 _ (b3 _ (send_has (A := A) (n := 0) (by omega) hop (by omega)).2)
  | 1, _ =>
    have := (send_has (A := (A.send 0).2) (n := 1) (by omega) (by rw [a1]; exact hop) (by omega)).2
    rw [a1] at this
    exact c3 _ this
  | 2, _ =>
    have := (send_has (A := ((A.send 0).2.send 1).2) (n := 2) (by omega) (by rw [b1, a1]; exact hop) (by omega)).2
    rw [b1, a1] at this
    exact this
theorem busy_iff {A : AW} (h0 : A.ms.length ≤ 30) : A.busy = true ↔ ∃ n, n < 3 ∧ (A.cl n).op = true := by
  obtain ⟨a1, a2, a3, a4⟩ := send_two A 0
  obtain ⟨b1, b2, b3, b4⟩ := send_two (A.send 0).2 1
  unfold AW.busy
  simp only [Bool.or_eq_true, decide_eq_true_eq]
  constructor
  · rintro ((h | h) | h)
    · refine ⟨0, by omega, ?_⟩
      cases ho : (A.cl 0).op
      · rw [show (0 : Int) = ((0 : Nat) : Int) from rfl, send_shut (by omega) ho] at h; cases h
      · rfl
    · refine ⟨1, by omega, ?_⟩
      cases ho : (A.cl 1).op
      · rw [← a1] at ho; rw [show (1 : Int) = ((1 : Nat) : Int) from rfl, send_shut (by omega) ho] at h; cases h
      · rfl
    · refine ⟨2, by omega, ?_⟩
      cases ho : (A.cl 2).op
      · rw [← a1, ← b1] at ho; rw [show (2 : Int) = ((2 : Nat) : Int) from rfl, send_shut (by omega) ho] at h; cases h
      · rfl
  · rintro ⟨n, hn, ho⟩
    match n, hn with
    | 0, _ => exact .inl (.inl (send_has (A := A) (n := 0) (by omega) ho (by omega)).1)
    | 1, _ => exact .inl (.inr (send_has (A := (A.send 0).2) (n := 1) (by omega) (by rw [a1]; exact ho) (by omega)).1)
    | 2, _ => exact .inr (send_has (A := ((A.send 0).2.send 1).2) (n := 2) (by omega) (by rw [b1, a1]; exact ho) (by omega)).1

/-- A call that may change something, is open, and is not in the log yet. -/
def pendC (l : Int) (c : ACli) : Nat := if c.op = true ∧ changesB c.call.kind = true ∧ l < c.no then 1 else 0
def pend (A : AW) (n : Nat) : Nat := pendC (lastR A.log n).no (A.cl n)
theorem pend_le (A : AW) (n : Nat) : pend A n ≤ 1 := by unfold pend pendC; split <;> omega
/-- The log has room for all that are open. -/
def Room (A : AW) : Prop := (logB A.log).length + 28 * (pend A 0 + pend A 1 + pend A 2) ≤ 2000
theorem Room.of {A : AW} (h : (logB A.log).length + 84 ≤ 2000) : Room A := by
  have h0 := pend_le A 0
  have h1 := pend_le A 1
  have h2 := pend_le A 2
  unfold Room; omega
theorem Room.sub {A B : AW} (h : Room A) (hl : B.log = A.log) (hp : ∀ n, n < 3 → pend B n ≤ pend A n) : Room B := by
  have h0 := hp 0 (by omega)
  have h1 := hp 1 (by omega)
  have h2 := hp 2 (by omega)
  unfold Room at h ⊢; rw [hl]; omega
theorem Room.same {A B : AW} (h : Room A) (hl : B.log = A.log) (hc : B.cl = A.cl) : Room B := h.sub hl fun n _ => by unfold pend; rw [hl, hc]; exact Nat.le_refl _
/-- What is new to the log is what its client waits for. -/
theorem new_open {A : AW} (h : WInv A) {p : APkt} (hp : PkOk A p) (hc : changesB p.call.kind = true) (hl : (lastR A.log p.client).no < p.no) : (A.cl p.client.toNat).op = true ∧ p.no = (A.cl p.client.toNat).no ∧ p.call = (A.cl p.client.toNat).call := by
  have h3 : p.client.toNat < 3 := by have := hp.lo; have := hp.hi; omega
  have hi := hp.is
  have hn := hp.no
  have hlen := (List.getElem?_eq_some_iff.1 hi).1
  rw [calls_len] at hlen
  by_cases hd : (p.no - 1).toNat < (A.cl p.client.toNat).done.length
  · exfalso
    obtain ⟨r, hr⟩ : ∃ r, (A.cl p.client.toNat).done[(p.no - 1).toNat]? = some r := ⟨_, List.getElem?_eq_getElem hd⟩
    rw [calls_done hr] at hi
    obtain ⟨k1, k2⟩ := (h.cok _ h3).num _ _ hr
    have hm := h.dn _ h3 r (List.mem_of_getElem? hr) (by rw [Option.some.inj hi]; exact hc)
    have hq := last_most h.up hm
    rw [k1, h.me _ h3] at hq
    have e : ((p.client.toNat : Nat) : Int) = p.client := by have := hp.lo; omega
    rw [e] at hq
    omega
  · by_cases ho : (A.cl p.client.toNat).op = true
    · rw [if_pos ho] at hlen
      have e : (p.no - 1).toNat = (A.cl p.client.toNat).done.length := by omega
      rw [e, calls_open ho] at hi
      refine ⟨ho, ?_, (Option.some.inj hi).symm⟩
      unfold ACli.no
      omega
    · rw [if_neg ho] at hlen
      omega
theorem Room.serve {A : AW} (h : WInv A) (hR : Room A) {p : APkt} (hp : PkOk A p) : Room (A.serve p) := by
  have hG := grew_any A p hp.no
  unfold AW.serve
  generalize aCall A.log p.client p.no p.call = R at hG
  rcases hG with ⟨e, he, rfl⟩ | ⟨hc, rfl⟩ | ⟨hc, hr, hk, hl, h5, rfl⟩ | ⟨d, u, hc, hm, rfl⟩
  · exact hR.same rfl rfl
  · exact hR.same rfl rfl
  · obtain ⟨o1, o2, o3⟩ := new_open h hp hc hl
    have h3 : p.client.toNat < 3 := by omega
    have hcl : ((p.client.toNat : Nat) : Int) = p.client := by omega
    have hlen := enc_new hr hk hc (aDo (behind A.log) p.call).code (aDo (behind A.log) p.call).text
    have e1 : pend A p.client.toNat = 1 := by unfold pend pendC; rw [if_pos ⟨o1, by rw [← o3]; exact hc, by rw [hcl, ← o2]; exact hl⟩]
    unfold Room at hR ⊢
    dsimp only
    rw [logB_snoc, List.length_append]
    generalize hB : (⟨A.log ++ [⟨p.client, p.no, p.call, (aDo (behind A.log) p.call).code, (aDo (behind A.log) p.call).text⟩], A.cl, if (0 : Int) = 0 then aSend A.ms (p.back (aDo (behind A.log) p.call).code (aDo (behind A.log) p.call).text) else A.ms⟩ : AW) = B
    have f1 : B.cl = A.cl := by rw [← hB]
    have f2 : B.log = A.log ++ [⟨p.client, p.no, p.call, (aDo (behind A.log) p.call).code, (aDo (behind A.log) p.call).text⟩] := by rw [← hB]
    have e2 : pend B p.client.toNat = 0 := by
      unfold pend pendC
      rw [if_neg]
      rintro ⟨_, _, h9⟩
      rw [f1, f2, lastR_snoc, hcl, if_pos rfl] at h9
      dsimp only at h9
      omega
    have e3 : ∀ n, n ≠ p.client.toNat → pend B n = pend A n := fun n hn => by
      unfold pend
      have e9 : lastR (A.log ++ [⟨p.client, p.no, p.call, (aDo (behind A.log) p.call).code, (aDo (behind A.log) p.call).text⟩]) n = lastR A.log n := by rw [lastR_snoc, if_neg (by dsimp only; omega)]
      rw [f1, f2, e9]
    generalize p.client.toNat = m at h3 e1 e2 e3
    have hle0 := pend_le A 0
    match m, h3 with
    | 0, _ => rw [e2, e3 1 (by omega), e3 2 (by omega)]; rw [e1] at hR; omega
    | 1, _ => rw [e2, e3 0 (by omega), e3 2 (by omega)]; rw [e1] at hR; omega
    | 2, _ => rw [e2, e3 0 (by omega), e3 1 (by omega)]; rw [e1] at hR; omega
  · exact hR.same rfl rfl
theorem Room.hear {A : AW} (hR : Room A) (p : APkt) : Room (A.hear p) := by
  unfold AW.hear
  split
  · exact hR
  refine hR.sub rfl fun n _ => ?_
  unfold pend
  dsimp only
  by_cases e : n = p.client.toNat
  · subst e
    rw [upd_at]
    by_cases hh : (A.cl p.client.toNat).hears p = true
    · rw [heard_some hh]; unfold pendC; rw [if_neg (by simp)]; exact Nat.zero_le _
    · rw [heard_none hh]; exact Nat.le_refl _
  · rw [upd_off _ _ e]; exact Nat.le_refl _
theorem Room.come {A : AW} (h : WInv A) (hR : Room A) {p : APkt} (hp : PkOk A p) : Room (A.come p) := by
  unfold AW.come
  split
  · exact hR.hear p
  · exact hR.serve h hp
/-- The server answers what a client waits for. -/
theorem answers {A : AW} (h : WInv A) (hR : Room A) {n : Nat} (hn : n < 3) (hop : (A.cl n).op = true) : (aCall A.log n (A.cl n).no (A.cl n).call).err = 0 := by
  have hro := (h.cok n hn).room hop
  have hchk := h.chk n hn (A.cl n).call (by unfold ACli.calls; rw [if_pos hop]; simp)
  unfold aCall
  rw [if_neg (by unfold ACli.no; omega), if_neg (by simp [hchk])]
  split
  · rfl
  rename_i h3
  have hch : changesB (A.cl n).call.kind = true := by simpa using h3
  split
  · rename_i h4
    have e1 : pend A n = 1 := by unfold pend pendC; rw [if_pos ⟨hop, hch, h4⟩]
    have hlen := enc_new (client := (n : Int)) (no := (A.cl n).no) (by unfold ACli.no; omega) hchk hch 0 ⟨#[]⟩
    have hs : 1 ≤ pend A 0 + pend A 1 + pend A 2 := by
      match n, hn with
      | 0, _ => omega
      | 1, _ => omega
      | 2, _ => omega
    unfold Room at hR
    rw [if_neg (by omega)]
  · rename_i h4
    rcases lastR_or A.log n with ⟨h5, _⟩ | ⟨h5, h6⟩
    · rw [h5] at h4
      have : (zeroRec).no = 0 := rfl
      unfold ACli.no at h4
      omega
    · have k := h.lg _ h5
      have hi := k.is
      rw [h6, Int.toNat_natCast] at hi
      have hlen := (List.getElem?_eq_some_iff.1 hi).1
      rw [calls_len, if_pos hop] at hlen
      have hno : (A.cl n).no = (lastR A.log n).no := by unfold ACli.no at h4 ⊢; have := k.no; omega
      have e : ((lastR A.log n).no - 1).toNat = (A.cl n).done.length := by unfold ACli.no at hno; omega
      rw [e, calls_open hop] at hi
      rw [if_pos ⟨hno, by rw [Option.some.inj hi]; exact callB_self _⟩]
theorem Under.come {A : AW} (h : WInv A) (hR : Room A) {p : APkt} {ms : List APkt} (hm : A.ms = p :: ms) (hU : Under A) : Under ((⟨A.log, A.cl, ms⟩ : AW).come p) := by
  have hf := h.few
  rw [hm, List.length_cons] at hf
  unfold AW.come
  split
  · rename_i hrp
    unfold AW.hear
    split
    · rename_i hx
      have := (h.pk p (by rw [hm]; exact List.mem_cons_self)).lo
      have := (h.pk p (by rw [hm]; exact List.mem_cons_self)).hi
      omega
    · rename_i hx
      intro n hn hop
      dsimp only at hop ⊢
      by_cases e : n = p.client.toNat
      · subst e
        rw [upd_at] at hop ⊢
        by_cases hh : (A.cl p.client.toNat).hears p = true
        · rw [heard_some hh] at hop; cases hop
        · rw [heard_none hh] at hop ⊢
          obtain ⟨q, q1, q2, q3, q4⟩ := hU _ hn hop
          rw [hm] at q1
          rcases List.mem_cons.1 q1 with q1 | q1
          · exfalso
            subst q1
            exact hh (hears_of hop hrp (by rw [h.me _ hn]; exact q2) q3 q4)
          · exact ⟨q, q1, q2, q3, q4⟩
      · rw [upd_off _ _ e] at hop ⊢
        obtain ⟨q, q1, q2, q3, q4⟩ := hU _ hn hop
        rw [hm] at q1
        rcases List.mem_cons.1 q1 with q1 | q1
        · exfalso; subst q1; omega
        · exact ⟨q, q1, q2, q3, q4⟩
  · rename_i hrp
    intro n hn hop
    unfold AW.serve at hop ⊢
    dsimp only at hop ⊢
    obtain ⟨q, q1, q2, q3, q4⟩ := hU _ hn hop
    rw [hm] at q1
    rcases List.mem_cons.1 q1 with q1 | q1
    · subst q1
      have ha := answers h hR hn hop
      rw [← q2, ← q3, ← q4] at ha
      rw [if_pos ha]
      refine ⟨q.back (aCall A.log q.client q.no q.call).code (aCall A.log q.client q.no q.call).text, ?_, q2, q3, q4⟩
      unfold aSend
      rw [if_pos (by omega)]
      simp
    · refine ⟨q, ?_, q2, q3, q4⟩
      split
      · unfold aSend
        rw [if_pos (by omega)]
        exact List.mem_append_left _ q1
      · exact q1
theorem Room.pop {A : AW} (h : WInv A) (hR : Room A) : Room A.pop := by
  cases hm : A.ms with
  | nil => rw [pop_nil hm]; exact hR
  | cons p ms =>
    rw [pop_cons hm]
    have hk := h.pk p (by rw [hm]; exact List.mem_cons_self)
    have hf := h.few
    rw [hm, List.length_cons] at hf
    exact Room.come (h.mail (ms := ms) (fun q hq => h.both (by rw [hm]; exact List.mem_cons_of_mem _ hq)) (by omega)) (hR.same rfl rfl) (hk.same ms)
theorem Under.pop {A : AW} (h : WInv A) (hR : Room A) (hU : Under A) : Under A.pop := by
  cases hm : A.ms with
  | nil => rw [pop_nil hm]; exact hU
  | cons p ms => rw [pop_cons hm]; exact hU.come h hR hm
theorem Room.pops {A : AW} (h : WInv A) (hR : Room A) (k : Nat) : Room (AW.pops k A) := by
  induction k generalizing A with
  | zero => exact hR
  | succ k ih => exact ih h.pop (hR.pop h)
theorem Under.pops {A : AW} (h : WInv A) (hR : Room A) (hU : Under A) (k : Nat) : Under (AW.pops k A) := by
  induction k generalizing A with
  | zero => exact hU
  | succ k ih => exact ih h.pop (hR.pop h) (hU.pop h hR)
theorem Under.none {A : AW} (hU : Under A) (h0 : A.ms = []) (n : Nat) (hn : n < 3) : (A.cl n).op = false := by
  cases ho : (A.cl n).op
  · rfl
  · obtain ⟨p, hp, _⟩ := hU n hn ho
    rw [h0] at hp
    simp at hp
/-- No call is open, and nothing is on its way. -/
def Quiet (A : AW) : Prop := A.ms = [] ∧ ∀ n, n < 3 → (A.cl n).op = false
theorem quiet_busy {A : AW} (h : Quiet A) : A.busy = false := by
  cases hb : A.busy
  · rfl
  · obtain ⟨n, hn, ho⟩ := (busy_iff (by rw [h.1]; simp)).1 hb
    rw [h.2 n hn] at ho; cases ho
theorem quiet_calm {A : AW} (h : Quiet A) (f : Nat) : AW.calm (f + 1) A = (2 - (f : Int), A) := by
  unfold AW.calm
  rw [drain_nil h.1, quiet_busy h]
  simp
theorem busy_not {A : AW} (h0 : A.ms = []) (h : A.busy = false) : Quiet A := ⟨h0, fun n hn => by
  cases ho : (A.cl n).op
  · rfl
  · have := (busy_iff (A := A) (by rw [h0]; simp)).2 ⟨n, hn, ho⟩
    rw [h] at this; cases this⟩
/-- Where the log has room, they send once at most, and all is answered. -/
theorem calm_room {A : AW} (h : WInv A) (hR : Room A) : ((AW.calm 3 A).1 = 0 ∨ (AW.calm 3 A).1 = 1) ∧ Quiet (AW.calm 3 A).2 := by
  have hd := h.drain
  have hRd : Room A.drain := hR.pops h _
  unfold AW.calm
  split
  · rename_i hb
    have hs := hd.sends
    have hRs : Room A.drain.sends := hRd.same (sends_two _).2 (sends_two _).1
    have hU := sends_under hd (by rw [drain_empty]; simp)
    have hq : Quiet A.drain.sends.drain := ⟨drain_empty _, (hU.pops hs hRs _).none (drain_empty _)⟩
    unfold AW.calm
    rw [quiet_busy hq]
    exact ⟨.inr rfl, hq⟩
  · rename_i hb
    exact ⟨.inl rfl, busy_not (drain_empty _) (by simpa using hb)⟩
theorem calm_range (f : Nat) (hf : f ≤ 3) (A : AW) : 0 ≤ (AW.calm f A).1 ∧ (AW.calm f A).1 ≤ 3 := by
  induction f generalizing A with
  | zero => unfold AW.calm; exact ⟨by dsimp only; omega, by dsimp only; omega⟩
  | succ f ih =>
    unfold AW.calm
    split
    · exact ih (by omega) _
    · exact ⟨by dsimp only; omega, by dsimp only; omega⟩

end Go.Proofs.YtmbhbnoifimeaabGreat

namespace Go.Proofs.YtmbhbnoifimeaabGreat
open Go.RowKit
set_option linter.unusedSimpArgs false
set_option linter.unusedVariables false

theorem New_some (me : Int) (w : World) (h : ¬ (me < 0 ∨ 3 ≤ me)) : Calls Tryz.prog 37 #[.int .i64 me] w fun e w' => e = .returned (.pointer (some ⟨w.heap.size, 0, none⟩)) ∧ w' = w.alloc (.cells #[.int .i64 me, .slice none 0 0, .int .i64 0, .string ⟨#[]⟩, .string ⟨#[]⟩, .string ⟨#[]⟩, .bool false] 85) := by
  have h0 : ¬ me < 0 := by omega
  have h3 : ¬ (3 : Int) ≤ me := by omega
  clear h
  go_enter Tryz.func37, Tryz.ntmps37
  go_wp2
  go_ret
  exact ⟨rfl, rfl⟩
theorem seven {w : World} {b : Nat} {x0 x1 x2 x3 x4 x5 x6 : Value} {e : TypeId} (h : w.heap[b]? = some (.cells #[x0, x1, x2, x3, x4, x5, x6] e (0, 0))) :
    (w.cell? ⟨b, 0, none⟩ = some x0 ∧ w.cell? ⟨b, 1, none⟩ = some x1 ∧ w.cell? ⟨b, 2, none⟩ = some x2 ∧ w.cell? ⟨b, 3, none⟩ = some x3) ∧ (w.cell? ⟨b, 4, none⟩ = some x4 ∧ w.cell? ⟨b, 5, none⟩ = some x5 ∧ w.cell? ⟨b, 6, none⟩ = some x6) ∧ ∀ j, w.frozen? ⟨b, j, none⟩ = false := by
  refine ⟨⟨?_, ?_, ?_, ?_⟩, ⟨?_, ?_, ?_⟩, fun j => frozen_of_row w b j _ _ h⟩ <;> rw [cell_of_row w b _ _ _ _ h] <;> rfl
theorem eightK {w : World} {b : Nat} {x0 x1 x2 x3 x4 x5 x6 x7 : Value} {e : TypeId} (h : w.heap[b]? = some (.cells #[x0, x1, x2, x3, x4, x5, x6, x7] e (0, 0))) :
    (w.cell? ⟨b, 0, none⟩ = some x0 ∧ w.cell? ⟨b, 1, none⟩ = some x1 ∧ w.cell? ⟨b, 2, none⟩ = some x2 ∧ w.cell? ⟨b, 3, none⟩ = some x3) ∧ (w.cell? ⟨b, 4, none⟩ = some x4 ∧ w.cell? ⟨b, 5, none⟩ = some x5 ∧ w.cell? ⟨b, 6, none⟩ = some x6 ∧ w.cell? ⟨b, 7, none⟩ = some x7) ∧ ∀ j, w.frozen? ⟨b, j, none⟩ = false := by
  refine ⟨⟨?_, ?_, ?_, ?_⟩, ⟨?_, ?_, ?_, ?_⟩, fun j => frozen_of_row w b j _ _ h⟩ <;> rw [cell_of_row w b _ _ _ _ h] <;> rfl
theorem fourK {w : World} {b : Nat} {x0 x1 x2 x3 : Value} {e : TypeId} (h : w.heap[b]? = some (.cells #[x0, x1, x2, x3] e (0, 0))) :
    w.cell? ⟨b, 0, none⟩ = some x0 ∧ w.cell? ⟨b, 1, none⟩ = some x1 ∧ w.cell? ⟨b, 2, none⟩ = some x2 ∧ w.cell? ⟨b, 3, none⟩ = some x3 ∧ ∀ j, w.frozen? ⟨b, j, none⟩ = false := by
  refine ⟨?_, ?_, ?_, ?_, fun j => frozen_of_row w b j _ _ h⟩ <;> rw [cell_of_row w b _ _ _ _ h] <;> rfl
theorem twoK {w : World} {b : Nat} {x0 x1 : Value} {e : TypeId} (h : w.heap[b]? = some (.cells #[x0, x1] e (0, 0))) :
    w.cell? ⟨b, 0, none⟩ = some x0 ∧ w.cell? ⟨b, 1, none⟩ = some x1 ∧ ∀ j, w.frozen? ⟨b, j, none⟩ = false := by
  refine ⟨?_, ?_, fun j => frozen_of_row w b j _ _ h⟩ <;> rw [cell_of_row w b _ _ _ _ h] <;> rfl

theorem number_any {N : Nat} {w : World} {X : Nat} {v : Value} {c : ACli} (h : KRep N w X v c) : Calls Tryz.prog 94 #[.pointer (some ⟨X, 0, none⟩)] w fun e w' => e = .returned (.int .i64 c.no) ∧ w' = w := by
  obtain ⟨a, cap, rfl⟩ := h.o.form
  obtain ⟨⟨x0, x1, x2, x3⟩, ⟨x4, x5, x6⟩, xf⟩ := seven h.o.blk
  have hf := h.ok.few
  obtain ⟨n, hn⟩ : ∃ n, c.done.length = n := ⟨_, rfl⟩
  have hno : c.no = (n : Int) + 1 := by unfold ACli.no; rw [hn]
  have hw : wrap64 ((n : Int) + 1) = (n : Int) + 1 := by unfold wrap64; omega
  rw [hno]
  rw [hn] at x1
  clear h x0 x2 x3 x4 x5 x6
  go_enter Tryz.func94, Tryz.ntmps94
  go_wp2
  go_ret
  exact ⟨rfl, rfl⟩
theorem KOpen_any {N : Nat} {w : World} {X : Nat} {v : Value} {c : ACli} (h : KRep N w X v c) : Calls Tryz.prog 15 #[.pointer (some ⟨X, 0, none⟩)] w fun e w' => e = .returned (.bool c.op) ∧ w' = w := by
  obtain ⟨⟨x0, x1, x2, x3⟩, ⟨x4, x5, x6⟩, xf⟩ := seven h.o.blk
  clear h x0 x1 x2 x3 x4 x5
  go_enter Tryz.func15, Tryz.ntmps15
  go_wp2
  go_ret
  exact ⟨rfl, rfl⟩

end Go.Proofs.YtmbhbnoifimeaabGreat

namespace Go.Proofs.YtmbhbnoifimeaabGreat
open Go.RowKit
set_option linter.unusedSimpArgs false
set_option linter.unusedVariables false

theorem info59s : (Tryz.prog.info? 59).map (·.size) = some 2 := by kernel_rfl
theorem info32s : (Tryz.prog.info? 32).map (·.size) = some 4 := by kernel_rfl

set_option maxRecDepth 100000 in
set_option maxHeartbeats 4000000 in
theorem cloneAnswer_any (d : Int) (u : ByteArray) (w : World) (hu : u.size ≤ 281474976710656) : Calls Tryz.prog 39 #[.agg #[.int .i64 d, .string u]] w fun e w' => e = .returned (.agg #[.int .i64 d, .string u]) ∧ Below w.heap.size w w' := by
  obtain ⟨V, hV⟩ : ∃ V, V = (w.alloc (.cells #[.int .i64 d, .string u] 59)).alloc (.cells #[.int .i64 0, .string ⟨#[]⟩] 59) := ⟨_, rfl⟩
  have hB0 : Below w.heap.size w V := by rw [hV]; exact ((Below.refl _ _).alloc (Nat.le_refl _) _).alloc (by simp) _
  have hX0 : V.heap[w.heap.size]? = some (.cells #[.int .i64 d, .string u] 59 (0, 0)) := by rw [hV, Below.heap_alloc _ _ _ (by simp)]; exact heap_alloc_new _ _
  have hY0 : V.heap[w.heap.size + 1]? = some (.cells #[.int .i64 0, .string ⟨#[]⟩] 59 (0, 0)) := by rw [hV]; have := heap_alloc_new (w.alloc (.cells #[.int .i64 d, .string u] 59)) (.cells #[.int .i64 0, .string ⟨#[]⟩] 59); simpa using this
  have HC1 := hide (fun W => SClone_any u W hu)
  obtain ⟨x0, x1, xf⟩ := twoK hX0
  have HV := hide hV
  have HB0 := hide hB0
  have HX0 := hide hX0
  have HY0 := hide hY0
  clear hB0 hX0 hY0 hV
  go_enter Tryz.func39, Tryz.ntmps39
  go_wp2_with fail
  rw [← unhide HV]
  refine ((unhide HC1) _).mono ?_
  rintro e w1 ⟨rfl, b1⟩
  clear x0 x1 xf
  have hX1 := (b1.block _ (Array.getElem?_eq_some_iff.1 (unhide HX0)).1).trans (unhide HX0)
  have hY1 := (b1.block _ (Array.getElem?_eq_some_iff.1 (unhide HY0)).1).trans (unhide HY0)
  have hS1 := set_same (j := 1) (x := .string u) hX1 rfl
  have hT1 : (w1.setCell ⟨w.heap.size, 1, none⟩ (.string u)).heap[w.heap.size + 1]? = _ := (Below.heap_setCell w1 _ _ _ (by simp)).trans hY1
  have hbx := below_set (j := 1) (x := .string u) ((unhide HB0).trans (b1.mono (unhide HB0).size)) (Nat.le_refl w.heap.size)
  obtain ⟨V1, hV1⟩ : ∃ V, V = w1.setCell ⟨w.heap.size, 1, none⟩ (.string u) := ⟨_, rfl⟩
  rw [← hV1] at hS1 hT1 hbx
  obtain ⟨V5, hV5⟩ : ∃ V, V = V1.setRow (w.heap.size + 1) #[.int .i64 d, .string u] := ⟨_, rfl⟩
  have hZ : V5.heap[w.heap.size + 1]? = some (.cells #[.int .i64 d, .string u] 59 (0, 0)) := by rw [hV5]; exact setRow_heap V1 (w.heap.size + 1) _ _ 59 (0, 0) hT1
  have hB5 : Below w.heap.size w V5 := by
    have h := hbx
    rw [hV5]
    exact ⟨h.os, h.tape, h.output, by simp [World.setRow]; exact h.size, fun k hk => (setRow_other V1 (w.heap.size + 1) k _ (by omega)).trans (h.block k hk)⟩
  obtain ⟨z0, z1, _⟩ := twoK hZ
  obtain ⟨x0, x1, xf⟩ := twoK hX1
  have HB5 := hide hB5
  rw [hV1] at hV5
  have hYn := (Below.heap_setCell w1 ⟨w.heap.size, 1, none⟩ (.string u) (w.heap.size + 1) (by simp)).trans hY1
  clear hB5 hZ hX1 hY1 hS1 hT1 hbx hV1 b1
  go_wp2_with (refine wpList_store_row rfl 59 _ _ rfl (w.heap.size + 1) #[.int .i64 d, .string u] rfl rfl 59 _ hYn info59s rfl (by simp [Value.oneCell']) ?_)
  rw [← hV5]
  refine bodyPost_ret (v := .agg #[.int .i64 d, .string u]) (by simp [results, Tryz.results39, go_sem, z0, z1]) rfl ⟨rfl, unhide HB5⟩

theorem keep_set {W : World} {b i j : Nat} {u v : Value} (hi : W.cell? ⟨b, i, none⟩ = some u) (hj : W.cell? ⟨b, j, none⟩ = some v) : (W.setCell ⟨b, i, none⟩ u).cell? ⟨b, j, none⟩ = some v := by
  by_cases h : i = j
  · subst h
    rw [hi] at hj
    rw [World.cell?_setCell_same _ _ _ hi]
    exact hj
  · rw [World.cell?_setCell_other _ _ _ _ (by simp [h])]
    exact hj
theorem keep3 {W : World} {b i1 i2 i3 : Nat} {u1 u2 u3 : Value} (h : W.cell? ⟨b, i1, none⟩ = some u1 ∧ W.cell? ⟨b, i2, none⟩ = some u2 ∧ W.cell? ⟨b, i3, none⟩ = some u3) {i : Nat} {u : Value} (hi : W.cell? ⟨b, i, none⟩ = some u) :
    (W.setCell ⟨b, i, none⟩ u).cell? ⟨b, i1, none⟩ = some u1 ∧ (W.setCell ⟨b, i, none⟩ u).cell? ⟨b, i2, none⟩ = some u2 ∧ (W.setCell ⟨b, i, none⟩ u).cell? ⟨b, i3, none⟩ = some u3 := ⟨keep_set hi h.1, keep_set hi h.2.1, keep_set hi h.2.2⟩

set_option maxRecDepth 100000 in
set_option maxHeartbeats 4000000 in
theorem cloneCall_any (x : ACall) (w : World) (hx : SmallC x) : Calls Tryz.prog 38 #[.agg #[.int .i64 x.kind, .string x.name, .string x.dst, .string x.text]] w fun e w' => e = .returned (.agg #[.int .i64 x.kind, .string x.name, .string x.dst, .string x.text]) ∧ Below w.heap.size w w' := by
  obtain ⟨h1, h2, h3⟩ := hx
  obtain ⟨k, a, b, t⟩ := x
  dsimp only at *
  obtain ⟨V, hV⟩ : ∃ V, V = (w.alloc (.cells #[.int .i64 k, .string a, .string b, .string t] 32)).alloc (.cells #[.int .i64 0, .string ⟨#[]⟩, .string ⟨#[]⟩, .string ⟨#[]⟩] 32) := ⟨_, rfl⟩
  have hB0 : Below w.heap.size w V := by rw [hV]; exact ((Below.refl _ _).alloc (Nat.le_refl _) _).alloc (by simp) _
  have hX0 : V.heap[w.heap.size]? = some (.cells #[.int .i64 k, .string a, .string b, .string t] 32 (0, 0)) := by rw [hV, Below.heap_alloc _ _ _ (by simp)]; exact heap_alloc_new _ _
  have hY0 : V.heap[w.heap.size + 1]? = some (.cells #[.int .i64 0, .string ⟨#[]⟩, .string ⟨#[]⟩, .string ⟨#[]⟩] 32 (0, 0)) := by rw [hV]; have := heap_alloc_new (w.alloc (.cells #[.int .i64 k, .string a, .string b, .string t] 32)) (.cells #[.int .i64 0, .string ⟨#[]⟩, .string ⟨#[]⟩, .string ⟨#[]⟩] 32); simpa using this
  have hzV : w.heap.size + 1 < V.heap.size := (Array.getElem?_eq_some_iff.1 hY0).1
  have HC1 := hide (fun W => SClone_any a W h1)
  have HC2 := hide (fun W => SClone_any b W h2)
  have HC3 := hide (fun W => SClone_any t W h3)
  obtain ⟨x0, x1, x2, x3, xf⟩ := fourK hX0
  have HV := hide hV
  have HB0 := hide hB0
  have HX0 := hide hX0
  have HY0 := hide hY0
  clear hB0 hX0 hY0 hV h1 h2 h3
  go_enter Tryz.func38, Tryz.ntmps38
  go_wp2_with fail
  rw [← unhide HV]
  have HF : Hid (∀ W, Below V.heap.size V W → W.cell? ⟨w.heap.size, 1, none⟩ = some (.string a) ∧ W.cell? ⟨w.heap.size, 2, none⟩ = some (.string b) ∧ W.cell? ⟨w.heap.size, 3, none⟩ = some (.string t) ∧ W.frozen? ⟨w.heap.size, 1, none⟩ = false ∧ W.frozen? ⟨w.heap.size, 2, none⟩ = false ∧ W.frozen? ⟨w.heap.size, 3, none⟩ = false) := fun W hW => by
    obtain ⟨_, y1, y2, y3, yf⟩ := fourK ((hW.block _ (by omega)).trans (unhide HX0))
    exact ⟨y1, y2, y3, yf _, yf _, yf _⟩
  have xf1 := xf 1
  have xf2 := xf 2
  have xf3 := xf 3
  clear xf
  go_region_held3 (fun W => W.cell? ⟨w.heap.size, 1, none⟩ = some (.string a) ∧ W.cell? ⟨w.heap.size, 2, none⟩ = some (.string b) ∧ W.cell? ⟨w.heap.size, 3, none⟩ = some (.string t)) (first | (go_keep; done) | (exact keep3 (by assumption) (And.left (by assumption))) | (exact keep3 (by assumption) (And.left (And.right (by assumption)))) | (exact keep3 (by assumption) (And.right (And.right (by assumption))))) (first
    | (go_at_call 43; refine ((unhide HC1) _).mono ?_; rintro e w1 ⟨rfl, b1⟩; have bV1 := (below_drew V).trans b1; obtain ⟨p1, p2, p3, p4, p5, p6⟩ := (unhide HF) w1 bV1)
    | (go_at_call 43; refine ((unhide HC2) _).mono ?_; rintro e w2 ⟨rfl, b2⟩; have bV2 := bV1.trans (b2.mono bV1.size); obtain ⟨q1, q2, q3, q4, q5, q6⟩ := (unhide HF) w2 bV2)
    | (go_at_call 43; refine ((unhide HC3) _).mono ?_; rintro e w3 ⟨rfl, b3⟩; have bV3 := bV2.trans (b3.mono bV2.size); obtain ⟨r1, r2, r3, r4, r5, r6⟩ := (unhide HF) w3 bV3))
  all_goals
    have hX3 := (bV3.block _ (by omega)).trans (unhide HX0)
    have hY3 := (bV3.block _ hzV).trans (unhide HY0)
    have hX4 := set_same (j := 3) (x := .string t) (set_same (j := 2) (x := .string b) (set_same (j := 1) (x := .string a) hX3 rfl) rfl) rfl
    obtain ⟨W4, hW4⟩ : ∃ W, W = ((w3.setCell ⟨w.heap.size, 1, none⟩ (.string a)).setCell ⟨w.heap.size, 2, none⟩ (.string b)).setCell ⟨w.heap.size, 3, none⟩ (.string t) := ⟨_, rfl⟩
    have hY4 : W4.heap[w.heap.size + 1]? = some (.cells #[.int .i64 0, .string ⟨#[]⟩, .string ⟨#[]⟩, .string ⟨#[]⟩] 32 (0, 0)) := by
      rw [hW4, Below.heap_setCell _ _ _ _ (by simp), Below.heap_setCell _ _ _ _ (by simp), Below.heap_setCell _ _ _ _ (by simp)]
      exact hY3
    have hB4 : Below w.heap.size w W4 := by
      rw [hW4]
      exact below_set (below_set (below_set ((unhide HB0).trans (bV3.mono (unhide HB0).size)) (Nat.le_refl _)) (Nat.le_refl _)) (Nat.le_refl _)
    rw [← hW4] at hX4
    obtain ⟨m0, m1, m2, m3, mf⟩ := fourK hX4
    obtain ⟨V5, hV5⟩ : ∃ V, V = W4.setRow (w.heap.size + 1) #[.int .i64 k, .string a, .string b, .string t] := ⟨_, rfl⟩
    have hZ : V5.heap[w.heap.size + 1]? = some (.cells #[.int .i64 k, .string a, .string b, .string t] 32 (0, 0)) := by rw [hV5]; exact setRow_heap W4 (w.heap.size + 1) _ _ 32 (0, 0) hY4
    have hB5 : Below w.heap.size w V5 := by
      rw [hV5]
      exact ⟨hB4.os, hB4.tape, hB4.output, by simp [World.setRow]; exact hB4.size, fun k hk => (setRow_other W4 (w.heap.size + 1) k _ (by omega)).trans (hB4.block k hk)⟩
    obtain ⟨z0, z1, z2, z3, _⟩ := fourK hZ
    have HB5 := hide hB5
    rw [← hW4]
    clear hB5 hZ hX3 hY3 hX4 hB4 hW4 p1 p2 p3 p4 p5 p6 q1 q2 q3 q4 q5 q6 r1 r2 r3 r4 r5 r6 b1 b2 b3 bV1 bV2 bV3 x0 x1 x2 x3 xf1 xf2 xf3 mf
    go_wp2_with (refine wpList_store_row rfl 32 _ _ rfl (w.heap.size + 1) #[.int .i64 k, .string a, .string b, .string t] rfl rfl 32 _ hY4 info32s rfl (by simp [Value.oneCell']) ?_)
    rw [← hV5]
    refine bodyPost_ret (v := .agg #[.int .i64 k, .string a, .string b, .string t]) (by simp [results, Tryz.results38, go_sem, z0, z1, z2, z3]) rfl ⟨rfl, unhide HB5⟩

end Go.Proofs.YtmbhbnoifimeaabGreat

namespace Go.Proofs.YtmbhbnoifimeaabGreat
open Go.RowKit
set_option linter.unusedSimpArgs false
set_option linter.unusedVariables false

theorem KRep.below {N : Nat} {w w' : World} {X : Nat} {v : Value} {c : ACli} (h : KRep N w X v c) (hb : Below w.heap.size w w') : KRep N w' X v c := ⟨h.o.below hb, h.ok⟩

set_option maxRecDepth 100000 in
set_option maxHeartbeats 4000000 in
theorem awaits_any {N : Nat} {w : World} {X : Nat} {v : Value} {c : ACli} (h : KRep N w X v c) (p : APkt) : Calls Tryz.prog 126 #[.pointer (some ⟨X, 0, none⟩), p.val] w fun e w' => e = .returned (.bool (c.hears p)) ∧ Below w.heap.size w w' := by
  obtain ⟨V, hV⟩ : ∃ V, V = w.alloc (.cells (pArr p) 92) := ⟨_, rfl⟩
  have hBV : Below w.heap.size w V := by rw [hV]; exact (Below.refl _ _).alloc (Nat.le_refl _) _
  have hXV : V.heap[w.heap.size]? = some (.cells (pArr p) 92 (0, 0)) := by rw [hV]; exact heap_alloc_new _ _
  have hrV := h.below hBV
  have HNO : Hid (∀ n, Calls Tryz.prog 94 #[.pointer (some ⟨X, 0, none⟩)] (V.drewN n) fun e w' => e = .returned (.int .i64 c.no) ∧ w' = V.drewN n) := fun n => number_any (hrV.below (w' := V.drewN n) ⟨rfl, rfl, rfl, Nat.le_refl _, fun _ _ => rfl⟩)
  have hres : c.hears p = (c.op && p.reply && p.client == c.me && p.no == c.no && callB p.call c.call) := rfl
  have hE := fun W => eql32 p.call c.call W
  obtain ⟨⟨k0, k1, k2, k3⟩, ⟨k4, k5, k6⟩, kf⟩ := seven hrV.o.blk
  rw [hres]
  generalize c.no = cno at HNO ⊢
  generalize callB p.call c.call = cb at hE ⊢
  obtain ⟨me, done, ⟨ck, ca, cb', ct⟩, op⟩ := c
  obtain ⟨y, pc, pn, ⟨pk, s1, s2, s3⟩, d, u⟩ := p
  dsimp only [APkt.val, pArr, callCells] at *
  obtain ⟨⟨x0, x1, x2, x3⟩, ⟨x4, x5, x6, x7, x8⟩, xf⟩ := nine hXV
  have HV := hide hV
  have HB := hide hBV
  have HBD : Hid (∀ n, Below w.heap.size w (V.drewN n)) := fun n => hBV.trans ⟨rfl, rfl, rfl, Nat.le_refl _, fun _ _ => rfl⟩
  clear h hBV hXV hrV hV hres xf kf k1
  cases op
  · go_enter Tryz.func126, Tryz.ntmps126
    go_wp2_with fail
    rw [← unhide HV]
    go_quiet (first | (go_at_call 94; exact Calls.quiet_of_same ((unhide HNO) _)))
    go_wp2
    go_ret
    exact ⟨rfl, (unhide HBD) _⟩
  cases y
  · go_enter Tryz.func126, Tryz.ntmps126
    go_wp2_with fail
    rw [← unhide HV]
    go_quiet (first | (go_at_call 94; exact Calls.quiet_of_same ((unhide HNO) _)))
    go_wp2
    go_ret
    exact ⟨rfl, (unhide HBD) _⟩
  cases hc : (pc == me)
  · go_enter Tryz.func126, Tryz.ntmps126
    go_wp2_with fail
    rw [← unhide HV]
    go_quiet (first | (go_at_call 94; exact Calls.quiet_of_same ((unhide HNO) _)))
    go_wp2
    go_ret
    exact ⟨rfl, (unhide HBD) _⟩
  cases hn : (pn == cno)
  · go_enter Tryz.func126, Tryz.ntmps126
    go_wp2_with fail
    rw [← unhide HV]
    go_quiet (first | (go_at_call 94; exact Calls.quiet_of_same ((unhide HNO) _)))
    go_wp2
    go_ret
    exact ⟨rfl, (unhide HBD) _⟩
  · go_enter Tryz.func126, Tryz.ntmps126
    go_wp2_with fail
    rw [← unhide HV]
    go_quiet (first | (go_at_call 94; exact Calls.quiet_of_same ((unhide HNO) _)))
    go_wp2
    go_ret
    exact ⟨rfl, (unhide HBD) _⟩

end Go.Proofs.YtmbhbnoifimeaabGreat

namespace Go.Proofs.YtmbhbnoifimeaabGreat
open Go.RowKit
set_option linter.unusedSimpArgs false
set_option linter.unusedVariables false

theorem set5 {w : World} {X : Nat} {t : TypeId} {y0 y1 y2 y3 y4 y5 y6 a2 a3 a4 a5 a6 : Value} (h : w.heap[X]? = some (.cells #[y0, y1, y2, y3, y4, y5, y6] t (0, 0))) :
    (((((w.setCell ⟨X, 2, none⟩ a2).setCell ⟨X, 3, none⟩ a3).setCell ⟨X, 4, none⟩ a4).setCell ⟨X, 5, none⟩ a5).setCell ⟨X, 6, none⟩ a6).heap[X]? = some (.cells #[y0, y1, a2, a3, a4, a5, a6] t (0, 0)) ∧
    Kept [X] w (((((w.setCell ⟨X, 2, none⟩ a2).setCell ⟨X, 3, none⟩ a3).setCell ⟨X, 4, none⟩ a4).setCell ⟨X, 5, none⟩ a5).setCell ⟨X, 6, none⟩ a6) := by
  refine ⟨?_, ?_⟩
  · have h1 := heap_setCell_same (o := 6) (heap_setCell_same (o := 5) (heap_setCell_same (o := 4) (heap_setCell_same (o := 3) (heap_setCell_same (o := 2) h a2) a3) a4) a5) a6
    exact h1
  · have k : ∀ (W : World) (o : Nat) (u : Value), Kept [X] W (W.setCell ⟨X, o, none⟩ u) := fun W o u => kept_setCell [X] W X o u (by simp)
    exact ((((k _ _ _).trans (k _ _ _) (fun x hx => .inl hx)).trans (k _ _ _) (fun x hx => .inl hx)).trans (k _ _ _) (fun x hx => .inl hx)).trans (k _ _ _) (fun x hx => .inl hx)
theorem small_max {n : Nat} (h : n ≤ 281474976710656) : n ≤ maxLen := by unfold maxLen; omega

set_option maxRecDepth 100000 in
set_option maxHeartbeats 4000000 in
theorem Call_any {N : Nat} {w : World} {X : Nat} {v : Value} {c : ACli} (h : KRep N w X v c) (x : ACall) (hx : SmallC x) :
    Calls Tryz.prog 67 #[.pointer (some ⟨X, 0, none⟩), .agg #[.int .i64 x.kind, .string x.name, .string x.dst, .string x.text]] w fun e w' => e = .returned (.int .i64 (c.ask x)) ∧ KTurn N w X v w' (c.asked x) := by
  obtain ⟨V, hV⟩ : ∃ V, V = w.alloc (.cells #[.int .i64 x.kind, .string x.name, .string x.dst, .string x.text] 32) := ⟨_, rfl⟩
  have hBV : Below w.heap.size w V := by rw [hV]; exact (Below.refl _ _).alloc (Nat.le_refl _) _
  have hXV : V.heap[w.heap.size]? = some (.cells #[.int .i64 x.kind, .string x.name, .string x.dst, .string x.text] 32 (0, 0)) := by rw [hV]; exact heap_alloc_new _ _
  have hrV := h.below hBV
  have HCK := hide (Check_any x.kind x.name x.dst x.text V (small_max hx.1) (small_max hx.2.1) (small_max hx.2.2))
  have HCL := hide (fun W => cloneCall_any x W hx)
  have hce : checkI ⟨x.kind, x.name, x.dst, x.text⟩ = checkI x := rfl
  rw [hce] at HCK
  have hlV : w.heap.size < V.heap.size := (Array.getElem?_eq_some_iff.1 hXV).1
  have hXn : w.heap.size ≠ X := by have := h.o.lt; omega
  have HRV := hide hrV
  have HXV := hide hXV
  have HBV := hide hBV
  have HV := hide hV
  by_cases hck : checkI x = 0
  · cases hop : c.op
    · by_cases hfull : 200 ≤ c.done.length
      · have e1 : c.ask x = 7 := by unfold ACli.ask; rw [if_neg (by simp [hck]), if_neg (by simp [hop]), if_pos hfull]
        have e2 : c.asked x = c := by unfold ACli.asked; rw [e1, if_neg (by omega)]
        rw [e1, e2]
        rw [hck] at HCK
        have HT : Hid (∀ w', Below V.heap.size V w' → KTurn N w X v w' c) := fun w' hb => OTurn.of_below h.o (hBV.trans (hb.mono hBV.size))
        obtain ⟨x0, x1, x2, x3, xf⟩ := fourK hXV
        have HK : Hid (∀ w', Below V.heap.size V w' → ∃ a cap, w'.cell? ⟨X, 6, none⟩ = some (.bool false) ∧ w'.cell? ⟨X, 1, none⟩ = some (.slice a c.done.length cap)) := fun w' hb => by
          obtain ⟨a, cap, hv⟩ := h.o.form
          obtain ⟨⟨k0, k1, k2, k3⟩, ⟨k4, k5, k6⟩, kf⟩ := seven ((hrV.below hb).o.blk)
          exact ⟨a, cap, by rw [← hop]; exact k6, by rw [← hv]; exact k1⟩
        have hfi : (200 : Int) ≤ (c.done.length : Int) := by omega
        generalize c.done.length = n at HK hfi
        clear h hBV hXV hrV hV hck hop hfull e1 e2 hce
        go_enter Tryz.func67, Tryz.ntmps67
        go_wp2_with fail
        rw [← unhide HV]
        refine (unhide HCK).mono ?_
        rintro e w1 ⟨rfl, b1⟩
        obtain ⟨a, cap, k6, k1⟩ := (unhide HK) w1 b1
        go_wp2
        go_ret
        exact ⟨rfl, (unhide HT) _ b1⟩
      · have e1 : c.ask x = 0 := by unfold ACli.ask; rw [if_neg (by simp [hck]), if_neg (by simp [hop]), if_neg hfull]
        have e2 : c.asked x = ⟨c.me, c.done, x, true⟩ := by unfold ACli.asked; rw [e1, if_pos rfl]
        rw [e1, e2]
        rw [hck] at HCK
        have HK : Hid (∀ w', Below V.heap.size V w' → ∃ a cap, w'.heap[X]? = some (.cells #[.int .i64 c.me, .slice a c.done.length cap, .int .i64 c.call.kind, .string c.call.name, .string c.call.dst, .string c.call.text, .bool false] 85 (0, 0)) ∧ v = .slice a c.done.length cap) := fun w' hb => by
          obtain ⟨a, cap, hv⟩ := h.o.form
          have := (hrV.below hb).o.blk
          unfold kcells at this
          rw [hop, hv] at this
          exact ⟨a, cap, this, hv⟩
        have HXK : Hid (∀ w', Below V.heap.size V w' → w'.heap[w.heap.size]? = some (.cells #[.int .i64 x.kind, .string x.name, .string x.dst, .string x.text] 32 (0, 0))) := fun w' hb => (hb.block _ hlV).trans hXV
        obtain ⟨x0, x1, x2, x3, xf⟩ := fourK hXV
        have hXl : X < V.heap.size := hrV.o.lt
        have hfi : ¬ (200 : Int) ≤ (c.done.length : Int) := by omega
        clear hBV hXV hrV hV hck hop hfull e1 e2 hce
        have HH := hide h
        clear h
        obtain ⟨me, done, ⟨ck, ca, cb, ct⟩, op⟩ := c
        obtain ⟨xk, xa, xb, xt⟩ := x
        dsimp only at *
        obtain ⟨n, hn⟩ : ∃ n, done.length = n := ⟨_, rfl⟩
        rw [hn] at HK hfi
        go_enter Tryz.func67, Tryz.ntmps67
        go_wp2_with fail
        rw [← unhide HV]
        refine (unhide HCK).mono ?_
        rintro e w1 ⟨rfl, b1⟩
        clear x0 x1 x2 x3 xf
        have HX1 := hide ((unhide HXK) w1 b1)
        obtain ⟨a, cap, hk1, hv⟩ := (unhide HK) w1 b1
        subst hv
        obtain ⟨⟨k0, k1, k2, k3⟩, ⟨k4, k5, k6⟩, kf⟩ := seven hk1
        obtain ⟨x0, x1, x2, x3, xf⟩ := fourK (unhide HX1)
        go_wp2_with fail
        refine ((unhide HCL) _).mono ?_
        rintro e w2 ⟨rfl, b2⟩
        have b2' := b1.trans (b2.mono b1.size)
        clear k0 k1 k2 k3 k4 k5 k6 kf x0 x1 x2 x3 xf
        obtain ⟨a', cap', hk2, hv'⟩ := (unhide HK) w2 b2'
        cases hv'
        obtain ⟨⟨k0, k1, k2, k3⟩, ⟨k4, k5, k6⟩, kf⟩ := seven hk2
        obtain ⟨hs1, hs2⟩ := set5 (a2 := .int .i64 xk) (a3 := .string xa) (a4 := .string xb) (a5 := .string xt) (a6 := .bool true) hk2
        have hT : KTurn N w X (.slice a n cap) _ ⟨me, done, ⟨xk, xa, xb, xt⟩, true⟩ := ((((unhide HH).below ((unhide HBV).trans (b2'.mono (unhide HBV).size))).o).reblk hs1 hs2).before ((unhide HBV).trans (b2'.mono (unhide HBV).size))
        have HT := hide hT
        clear hs1 hs2 hT
        go_wp2
        go_ret
        exact ⟨rfl, unhide HT⟩
    · have e1 : c.ask x = 11 := by unfold ACli.ask; rw [if_neg (by simp [hck]), if_pos hop]
      have e2 : c.asked x = c := by unfold ACli.asked; rw [e1, if_neg (by omega)]
      rw [e1, e2]
      rw [hck] at HCK
      have HT : Hid (∀ w', Below V.heap.size V w' → KTurn N w X v w' c) := fun w' hb => OTurn.of_below h.o (hBV.trans (hb.mono hBV.size))
      obtain ⟨x0, x1, x2, x3, xf⟩ := fourK hXV
      have HK : Hid (∀ w', Below V.heap.size V w' → w'.cell? ⟨X, 6, none⟩ = some (.bool true)) := fun w' hb => by
        obtain ⟨⟨k0, k1, k2, k3⟩, ⟨k4, k5, k6⟩, kf⟩ := seven ((hrV.below hb).o.blk)
        rw [← hop]; exact k6
      clear h hBV hXV hrV hV hck hop e1 e2 hce
      go_enter Tryz.func67, Tryz.ntmps67
      go_wp2_with fail
      rw [← unhide HV]
      refine (unhide HCK).mono ?_
      rintro e w1 ⟨rfl, b1⟩
      have k6 := (unhide HK) w1 b1
      go_wp2
      go_ret
      exact ⟨rfl, (unhide HT) _ b1⟩
  · have e1 : c.ask x = checkI x := by unfold ACli.ask; rw [if_pos hck]
    have e2 : c.asked x = c := by unfold ACli.asked; rw [e1, if_neg hck]
    rw [e1, e2]
    have HT : Hid (∀ w', Below V.heap.size V w' → KTurn N w X v w' c) := fun w' hb => OTurn.of_below h.o (hBV.trans (hb.mono hBV.size))
    obtain ⟨x0, x1, x2, x3, xf⟩ := fourK hXV
    generalize checkI x = ci at *
    have hcb : (ci != 0) = true := by simpa using hck
    clear h hBV hXV hrV hV hce hck e1 e2
    go_enter Tryz.func67, Tryz.ntmps67
    go_wp2_with fail
    rw [← unhide HV]
    refine (unhide HCK).mono ?_
    rintro e w1 ⟨rfl, b1⟩
    go_wp2
    go_ret
    exact ⟨rfl, (unhide HT) _ b1⟩

end Go.Proofs.YtmbhbnoifimeaabGreat

namespace Go.Proofs.YtmbhbnoifimeaabGreat
open Go.RowKit
set_option linter.unusedSimpArgs false
set_option linter.unusedVariables false

def zeroP : Array Value := #[.bool false, .int .i64 0, .int .i64 0, .int .i64 0, .string ⟨#[]⟩, .string ⟨#[]⟩, .string ⟨#[]⟩, .int .i64 0, .string ⟨#[]⟩]

theorem set9 {w : World} {X : Nat} {t : TypeId} {y0 y1 y2 y3 y4 y5 y6 y7 y8 a0 a1 a2 a3 a4 a5 a6 a7 a8 : Value} (h : w.heap[X]? = some (.cells #[y0, y1, y2, y3, y4, y5, y6, y7, y8] t (0, 0))) :
    (((((((((w.setCell ⟨X, 0, none⟩ a0).setCell ⟨X, 1, none⟩ a1).setCell ⟨X, 2, none⟩ a2).setCell ⟨X, 3, none⟩ a3).setCell ⟨X, 4, none⟩ a4).setCell ⟨X, 5, none⟩ a5).setCell ⟨X, 6, none⟩ a6).setCell ⟨X, 7, none⟩ a7).setCell ⟨X, 8, none⟩ a8).heap[X]? = some (.cells #[a0, a1, a2, a3, a4, a5, a6, a7, a8] t (0, 0)) ∧
    Kept [X] w (((((((((w.setCell ⟨X, 0, none⟩ a0).setCell ⟨X, 1, none⟩ a1).setCell ⟨X, 2, none⟩ a2).setCell ⟨X, 3, none⟩ a3).setCell ⟨X, 4, none⟩ a4).setCell ⟨X, 5, none⟩ a5).setCell ⟨X, 6, none⟩ a6).setCell ⟨X, 7, none⟩ a7).setCell ⟨X, 8, none⟩ a8) := by
  have k : ∀ (W : World) (o : Nat) (u : Value), Kept [X] W (W.setCell ⟨X, o, none⟩ u) := fun W o u => kept_setCell [X] W X o u (by simp)
  have k0 := Kept.refl [X] w
  have h1 : (w.setCell ⟨X, 0, none⟩ a0).heap[X]? = some (.cells #[a0, y1, y2, y3, y4, y5, y6, y7, y8] t (0, 0)) := heap_setCell_same h a0
  have k1 := k0.trans (k w 0 a0) (fun x hx => .inl hx)
  generalize w.setCell ⟨X, 0, none⟩ a0 = w1 at *
  have h2 : (w1.setCell ⟨X, 1, none⟩ a1).heap[X]? = some (.cells #[a0, a1, y2, y3, y4, y5, y6, y7, y8] t (0, 0)) := heap_setCell_same h1 a1
  have k2 := k1.trans (k w1 1 a1) (fun x hx => .inl hx)
  generalize w1.setCell ⟨X, 1, none⟩ a1 = w2 at *
  have h3 : (w2.setCell ⟨X, 2, none⟩ a2).heap[X]? = some (.cells #[a0, a1, a2, y3, y4, y5, y6, y7, y8] t (0, 0)) := heap_setCell_same h2 a2
  have k3 := k2.trans (k w2 2 a2) (fun x hx => .inl hx)
  generalize w2.setCell ⟨X, 2, none⟩ a2 = w3 at *
  have h4 : (w3.setCell ⟨X, 3, none⟩ a3).heap[X]? = some (.cells #[a0, a1, a2, a3, y4, y5, y6, y7, y8] t (0, 0)) := heap_setCell_same h3 a3
  have k4 := k3.trans (k w3 3 a3) (fun x hx => .inl hx)
  generalize w3.setCell ⟨X, 3, none⟩ a3 = w4 at *
  have h5 : (w4.setCell ⟨X, 4, none⟩ a4).heap[X]? = some (.cells #[a0, a1, a2, a3, a4, y5, y6, y7, y8] t (0, 0)) := heap_setCell_same h4 a4
  have k5 := k4.trans (k w4 4 a4) (fun x hx => .inl hx)
  generalize w4.setCell ⟨X, 4, none⟩ a4 = w5 at *
  have h6 : (w5.setCell ⟨X, 5, none⟩ a5).heap[X]? = some (.cells #[a0, a1, a2, a3, a4, a5, y6, y7, y8] t (0, 0)) := heap_setCell_same h5 a5
  have k6 := k5.trans (k w5 5 a5) (fun x hx => .inl hx)
  generalize w5.setCell ⟨X, 5, none⟩ a5 = w6 at *
  have h7 : (w6.setCell ⟨X, 6, none⟩ a6).heap[X]? = some (.cells #[a0, a1, a2, a3, a4, a5, a6, y7, y8] t (0, 0)) := heap_setCell_same h6 a6
  have k7 := k6.trans (k w6 6 a6) (fun x hx => .inl hx)
  generalize w6.setCell ⟨X, 6, none⟩ a6 = w7 at *
  have h8 : (w7.setCell ⟨X, 7, none⟩ a7).heap[X]? = some (.cells #[a0, a1, a2, a3, a4, a5, a6, a7, y8] t (0, 0)) := heap_setCell_same h7 a7
  have k8 := k7.trans (k w7 7 a7) (fun x hx => .inl hx)
  generalize w7.setCell ⟨X, 7, none⟩ a7 = w8 at *
  have h9 : (w8.setCell ⟨X, 8, none⟩ a8).heap[X]? = some (.cells #[a0, a1, a2, a3, a4, a5, a6, a7, a8] t (0, 0)) := heap_setCell_same h8 a8
  have k9 := k8.trans (k w8 8 a8) (fun x hx => .inl hx)
  generalize w8.setCell ⟨X, 8, none⟩ a8 = w9 at *
  exact ⟨h9, k9⟩

set_option maxRecDepth 100000 in
set_option maxHeartbeats 4000000 in
theorem Send_none {N : Nat} {w : World} {X : Nat} {v : Value} {c : ACli} (h : KRep N w X v c) (hop : c.op = false) :
    Calls Tryz.prog 68 #[.pointer (some ⟨X, 0, none⟩)] w fun e w' => e = .returned (.tuple #[zeroPkt.val, .bool false]) ∧ Below w.heap.size w w' := by
  obtain ⟨V, hV⟩ : ∃ V, V = w.alloc (.cells zeroP 92) := ⟨_, rfl⟩
  have hBV : Below w.heap.size w V := by rw [hV]; exact (Below.refl _ _).alloc (Nat.le_refl _) _
  have hYV : V.heap[w.heap.size]? = some (.cells zeroP 92 (0, 0)) := by rw [hV]; exact heap_alloc_new _ _
  obtain ⟨⟨k0, k1, k2, k3⟩, ⟨k4, k5, k6⟩, kf⟩ := seven h.o.blk
  have hXl := h.o.lt
  rw [hop] at k6
  obtain ⟨V5, hV5⟩ : ∃ W, W = V.setRow w.heap.size zeroP := ⟨_, rfl⟩
  have hZ : V5.heap[w.heap.size]? = some (.cells zeroP 92 (0, 0)) := by rw [hV5]; exact setRow_heap V w.heap.size _ _ 92 (0, 0) hYV
  have HB5 : Hid (Below w.heap.size w V5) := by
    rw [hV5]
    exact ⟨hBV.os, hBV.tape, hBV.output, by simp [World.setRow]; exact hBV.size, fun k hk => (setRow_other V w.heap.size k _ (by omega)).trans (hBV.block k hk)⟩
  rw [hV] at hV5 hYV
  dsimp only [zeroP, zeroPkt, APkt.val] at *
  obtain ⟨⟨z0, z1, z2, z3⟩, ⟨z4, z5, z6, z7, z8⟩, _⟩ := nine hZ
  clear h hop hBV hZ hV k0 k1 k2 k3 k4 k5 kf
  go_enter Tryz.func68, Tryz.ntmps68
  go_wp2_with (refine wpList_store_row rfl 92 _ _ rfl w.heap.size #[.bool false, .int .i64 0, .int .i64 0, .int .i64 0, .string ⟨#[]⟩, .string ⟨#[]⟩, .string ⟨#[]⟩, .int .i64 0, .string ⟨#[]⟩] rfl rfl 92 _ hYV infoP rfl (by simp [Value.oneCell']) ?_)
  rw [← hV5]
  refine bodyPost_ret (v := .tuple #[.agg #[.bool false, .int .i64 0, .int .i64 0, .int .i64 0, .string ⟨#[]⟩, .string ⟨#[]⟩, .string ⟨#[]⟩, .int .i64 0, .string ⟨#[]⟩], .bool false]) (by simp [results, Tryz.results68, go_sem, z0, z1, z2, z3, z4, z5, z6, z7, z8]) rfl ⟨rfl, unhide HB5⟩

set_option maxRecDepth 100000 in
set_option maxHeartbeats 4000000 in
theorem Send_some {N : Nat} {w : World} {X : Nat} {v : Value} {c : ACli} (h : KRep N w X v c) (hop : c.op = true) :
    Calls Tryz.prog 68 #[.pointer (some ⟨X, 0, none⟩)] w fun e w' => e = .returned (.tuple #[(⟨false, c.me, c.no, c.call, 0, ⟨#[]⟩⟩ : APkt).val, .bool true]) ∧ Below w.heap.size w w' := by
  obtain ⟨V, hV⟩ : ∃ V, V = w.alloc (.cells zeroP 92) := ⟨_, rfl⟩
  have hBV : Below w.heap.size w V := by rw [hV]; exact (Below.refl _ _).alloc (Nat.le_refl _) _
  have hYV : V.heap[w.heap.size]? = some (.cells zeroP 92 (0, 0)) := by rw [hV]; exact heap_alloc_new _ _
  have hrV := h.below hBV
  have HNO := hide (number_any (hrV.below (below_drew V)))
  have HCL := hide (fun W => cloneCall_any c.call W h.ok.smallc)
  obtain ⟨⟨k0, k1, k2, k3⟩, ⟨k4, k5, k6⟩, kf⟩ := seven h.o.blk
  obtain ⟨⟨j0, j1, j2, j3⟩, ⟨j4, j5, j6⟩, jf⟩ := seven hrV.o.blk
  have hXl := h.o.lt
  have hXV : X < V.heap.size := hrV.o.lt
  have hzV : V.heap.size = w.heap.size + 1 := by rw [hV]; simp
  rw [hop] at k6
  have HYV := hide hYV
  have HBV := hide hBV
  have HV := hide hV
  have hXne : w.heap.size ≠ X := by omega
  have HF : Hid (∀ W, Below V.heap.size V W → W.cell? ⟨X, 0, none⟩ = some (.int .i64 c.me) ∧ W.cell? ⟨X, 2, none⟩ = some (.int .i64 c.call.kind) ∧ W.cell? ⟨X, 3, none⟩ = some (.string c.call.name) ∧ W.cell? ⟨X, 4, none⟩ = some (.string c.call.dst) ∧ W.cell? ⟨X, 5, none⟩ = some (.string c.call.text)) := fun W hW => by
    obtain ⟨⟨y0, y1, y2, y3⟩, ⟨y4, y5, y6⟩, yf⟩ := seven (hrV.below hW).o.blk
    exact ⟨y0, y2, y3, y4, y5⟩
  have HYF : Hid (∀ W, Below V.heap.size V W → W.heap[w.heap.size]? = some (.cells zeroP 92 (0, 0))) := fun W hW => (hW.block _ (by omega)).trans hYV
  generalize c.no = cno at HNO ⊢
  obtain ⟨me, done, ⟨ck, ca, cb, ct⟩, op⟩ := c
  dsimp only [zeroP, zeroPkt, APkt.val] at *
  clear h hBV hYV hrV hV hop k0 k1 k2 k3 k4 k5 kf j1 j6
  go_enter Tryz.func68, Tryz.ntmps68
  go_wp2_with fail
  rw [← unhide HV]
  clear k6
  go_region_held3 (fun W => W.cell? ⟨X, 0, none⟩ = some (.int .i64 me) ∧ W.cell? ⟨X, 2, none⟩ = some (.int .i64 ck) ∧ W.cell? ⟨X, 3, none⟩ = some (.string ca) ∧ W.cell? ⟨X, 4, none⟩ = some (.string cb) ∧ W.cell? ⟨X, 5, none⟩ = some (.string ct)) (first | (go_keep; done) | (simp [World.cell?_setCell_far, hXne, q0, q2, q3, q4, q5]; done)) (first
    | (go_at_call 94; refine (unhide HNO).mono ?_; rintro e w1 ⟨rfl, hw1⟩; obtain rfl := hw1.symm; clear hw1)
    | (go_at_call 38; refine ((unhide HCL) _).mono ?_; rintro e w2 ⟨rfl, b2⟩; have bV2 := (below_drew V).trans b2; obtain ⟨q0, q2, q3, q4, q5⟩ := (unhide HF) w2 bV2; have hY2 := (unhide HYF) w2 bV2; obtain ⟨⟨r0, r1, r2, r3⟩, ⟨r4, r5, r6, r7, r8⟩, rf⟩ := nine hY2))
  all_goals
    obtain ⟨hs1, hs2⟩ := set9 (a0 := .bool false) (a1 := .int .i64 me) (a2 := .int .i64 cno) (a3 := .int .i64 ck) (a4 := .string ca) (a5 := .string cb) (a6 := .string ct) (a7 := .int .i64 0) (a8 := .string ⟨#[]⟩) hY2
    have hB5 := ((unhide HBV).trans (bV2.mono (unhide HBV).size)).trans (hs2.below (by have := bV2.size; omega) (by simp))
    have HB5 := hide hB5
    obtain ⟨⟨z0, z1, z2, z3⟩, ⟨z4, z5, z6, z7, z8⟩, _⟩ := nine hs1
    clear hs1 hs2 hB5 hY2 r0 r1 r2 r3 r4 r5 r6 r7 r8 rf q0 q2 q3 q4 q5 j0 j2 j3 j4 j5 jf b2 bV2
    go_wp2
    refine bodyPost_ret (v := .tuple #[.agg #[.bool false, .int .i64 me, .int .i64 cno, .int .i64 ck, .string ca, .string cb, .string ct, .int .i64 0, .string ⟨#[]⟩], .bool true]) (by simp [results, Tryz.results68, go_sem, z0, z1, z2, z3, z4, z5, z6, z7, z8]) rfl ⟨rfl, unhide HB5⟩

theorem Send_any {N : Nat} {w : World} {X : Nat} {v : Value} {c : ACli} (h : KRep N w X v c) :
    Calls Tryz.prog 68 #[.pointer (some ⟨X, 0, none⟩)] w fun e w' => e = .returned (.tuple #[c.pkt.val, .bool c.op]) ∧ Below w.heap.size w w' := by
  unfold ACli.pkt
  cases hop : c.op
  · exact Send_none h hop
  · exact Send_some h hop

end Go.Proofs.YtmbhbnoifimeaabGreat
