/- Texts joined, what is needed of them: Yc Yk Yd Kd Ke Kf Ki Vd Ve Vg Vf. -/
import Derived.Test.YtmbhbnoifimeaacGreatYd5
import Derived.Shelf.Strings.BuilderK
namespace Go.Proofs.YtmbhbnoifimeaacGreat
open Go.RowKit
set_option linter.unusedSimpArgs false
set_option linter.unusedVariables false

theorem infoR8 : (Tryz.prog.info? 36).map (·.size) = some 8 := by kernel_rfl

set_option maxRecDepth 100000 in
set_option maxHeartbeats 4000000 in
theorem clone_y (r : ARec) (w : World) (hr : recI r = 0) : Calls Tryz.prog 26 #[r.val] w fun e w' => e = .returned r.val ∧ Below w.heap.size w w' := by
  have hok := rec_ok hr
  have h1 : r.call.name.size ≤ 281474976710656 := by have := hok.name; omega
  have h2 : r.call.dst.size ≤ 281474976710656 := by have := hok.dst; omega
  have h3 : r.call.text.size ≤ 281474976710656 := by have := hok.text; omega
  clear hr hok
  obtain ⟨c, n, ⟨k, a, b, t⟩, d, u⟩ := r
  dsimp only [ARec.val, ARec.cells] at *
  obtain ⟨V, hV⟩ : ∃ V, V = (w.alloc (.cells #[.int .i64 c, .int .i64 n, .int .i64 k, .string a, .string b, .string t, .int .i64 d, .string u] 36)).alloc (.cells #[.int .i64 0, .int .i64 0, .int .i64 0, .string ⟨#[]⟩, .string ⟨#[]⟩, .string ⟨#[]⟩, .int .i64 0, .string ⟨#[]⟩] 36) := ⟨_, rfl⟩
  have hB0 : Below w.heap.size w V := by rw [hV]; exact ((Below.refl _ _).alloc (Nat.le_refl _) _).alloc (by simp) _
  have hX0 : V.heap[w.heap.size]? = some (.cells #[.int .i64 c, .int .i64 n, .int .i64 k, .string a, .string b, .string t, .int .i64 d, .string u] 36 (0, 0)) := by rw [hV, Below.heap_alloc _ _ _ (by simp)]; exact heap_alloc_new _ _
  have hY0 : V.heap[w.heap.size + 1]? = some (.cells #[.int .i64 0, .int .i64 0, .int .i64 0, .string ⟨#[]⟩, .string ⟨#[]⟩, .string ⟨#[]⟩, .int .i64 0, .string ⟨#[]⟩] 36 (0, 0)) := by rw [hV]; have := heap_alloc_new (w.alloc (.cells #[.int .i64 c, .int .i64 n, .int .i64 k, .string a, .string b, .string t, .int .i64 d, .string u] 36)) (.cells #[.int .i64 0, .int .i64 0, .int .i64 0, .string ⟨#[]⟩, .string ⟨#[]⟩, .string ⟨#[]⟩, .int .i64 0, .string ⟨#[]⟩] 36); simpa using this
  have HV := hide hV
  have HC1 := hide (fun W => SClone_any a W h1)
  have HC2 := hide (fun W => SClone_any b W h2)
  have HC3 := hide (fun W => SClone_any t W h3)
  have HB0 := hide hB0
  have HX0 := hide hX0
  have HY0 := hide hY0
  obtain ⟨⟨x0, x1, x2, x3⟩, ⟨x4, x5, x6, x7⟩, xf⟩ := eightK hX0
  clear hB0 hX0 hY0 hV h1 h2 h3
  go_enter Tryz.func26, Tryz.ntmps26
  go_wp2_with fail
  rw [← unhide HV]
  refine ((unhide HC1) _).mono ?_
  rintro e w1 ⟨rfl, b1⟩
  clear x0 x1 x2 x3 x4 x5 x6 x7 xf
  have hX1 := (b1.block _ (Array.getElem?_eq_some_iff.1 (unhide HX0)).1).trans (unhide HX0)
  have hY1 := (b1.block _ (Array.getElem?_eq_some_iff.1 (unhide HY0)).1).trans (unhide HY0)
  have hS1 := set_same (j := 3) (x := .string a) hX1 rfl
  have hT1 : (w1.setCell ⟨w.heap.size, 3, none⟩ (.string a)).heap[w.heap.size + 1]? = _ := (Below.heap_setCell w1 _ _ _ (by simp)).trans hY1
  have hbx := below_set (j := 3) (x := .string a) ((unhide HB0).trans (b1.mono (unhide HB0).size)) (Nat.le_refl w.heap.size)
  obtain ⟨⟨x0, x1, x2, x3⟩, ⟨x4, x5, x6, x7⟩, xf⟩ := eightK hX1
  obtain ⟨V1, hV1⟩ : ∃ V, V = w1.setCell ⟨w.heap.size, 3, none⟩ (.string a) := ⟨_, rfl⟩
  rw [← hV1] at hS1 hT1 hbx
  have HX1 := hide hS1
  have HY1 := hide hT1
  have HB1 := hide hbx
  have HV1 := hide hV1
  clear b1 hX1 hY1 hS1 hT1 hbx hV1
  go_wp2_with fail
  rw [← unhide HV1]
  refine ((unhide HC2) _).mono ?_
  rintro e w2 ⟨rfl, b2⟩
  clear x0 x1 x2 x3 x4 x5 x6 x7 xf
  have hX2 := (b2.block _ (Array.getElem?_eq_some_iff.1 (unhide HX1)).1).trans (unhide HX1)
  have hY2 := (b2.block _ (Array.getElem?_eq_some_iff.1 (unhide HY1)).1).trans (unhide HY1)
  have hS2 := set_same (j := 4) (x := .string b) hX2 rfl
  have hT2 : (w2.setCell ⟨w.heap.size, 4, none⟩ (.string b)).heap[w.heap.size + 1]? = _ := (Below.heap_setCell w2 _ _ _ (by simp)).trans hY2
  have hbx := below_set (j := 4) (x := .string b) ((unhide HB1).trans (b2.mono (unhide HB1).size)) (Nat.le_refl w.heap.size)
  obtain ⟨⟨x0, x1, x2, x3⟩, ⟨x4, x5, x6, x7⟩, xf⟩ := eightK hX2
  obtain ⟨V2, hV2⟩ : ∃ V, V = w2.setCell ⟨w.heap.size, 4, none⟩ (.string b) := ⟨_, rfl⟩
  rw [← hV2] at hS2 hT2 hbx
  have HX2 := hide hS2
  have HY2 := hide hT2
  have HB2 := hide hbx
  have HV2 := hide hV2
  clear b2 hX2 hY2 hS2 hT2 hbx hV2
  go_wp2_with fail
  rw [← unhide HV2]
  refine ((unhide HC3) _).mono ?_
  rintro e w3 ⟨rfl, b3⟩
  clear x0 x1 x2 x3 x4 x5 x6 x7 xf
  have hX3 := (b3.block _ (Array.getElem?_eq_some_iff.1 (unhide HX2)).1).trans (unhide HX2)
  have hY3 := (b3.block _ (Array.getElem?_eq_some_iff.1 (unhide HY2)).1).trans (unhide HY2)
  have hS3 := set_same (j := 5) (x := .string t) hX3 rfl
  have hT3 : (w3.setCell ⟨w.heap.size, 5, none⟩ (.string t)).heap[w.heap.size + 1]? = _ := (Below.heap_setCell w3 _ _ _ (by simp)).trans hY3
  have hbx := below_set (j := 5) (x := .string t) ((unhide HB2).trans (b3.mono (unhide HB2).size)) (Nat.le_refl w.heap.size)
  obtain ⟨⟨x0, x1, x2, x3⟩, ⟨x4, x5, x6, x7⟩, xf⟩ := eightK hX3
  obtain ⟨V3, hV3⟩ : ∃ V, V = w3.setCell ⟨w.heap.size, 5, none⟩ (.string t) := ⟨_, rfl⟩
  rw [← hV3] at hS3 hT3 hbx
  have HX3 := hide hS3
  have HY3 := hide hT3
  have HB3 := hide hbx
  have HV3 := hide hV3
  clear b3 hX3  hS3 hT3 hbx hV3
  have hYn := (Below.heap_setCell w3 ⟨w.heap.size, 5, none⟩ (.string t) (w.heap.size + 1) (by simp)).trans hY3
  obtain ⟨V5, hV5⟩ : ∃ V, V = V3.setRow (w.heap.size + 1) #[.int .i64 c, .int .i64 n, .int .i64 k, .string a, .string b, .string t, .int .i64 d, .string u] := ⟨_, rfl⟩
  have hZ : V5.heap[w.heap.size + 1]? = some (.cells #[.int .i64 c, .int .i64 n, .int .i64 k, .string a, .string b, .string t, .int .i64 d, .string u] 36 (0, 0)) := by rw [hV5]; exact setRow_heap V3 (w.heap.size + 1) _ _ 36 (0, 0) (unhide HY3)
  have hB5 : Below w.heap.size w V5 := by
    have h := unhide HB3
    rw [hV5]
    exact ⟨h.os, h.tape, h.output, by simp [World.setRow]; exact h.size, fun k hk => (setRow_other V3 (w.heap.size + 1) k _ (by omega)).trans (h.block k hk)⟩
  obtain ⟨⟨z0, z1, z2, z3⟩, ⟨z4, z5, z6, z7⟩, _⟩ := eightK hZ
  have HB5 := hide hB5
  rw [unhide HV3] at hV5
  clear hB5 hZ
  go_wp2_with (refine wpList_store_row rfl 36 _ _ rfl (w.heap.size + 1) #[.int .i64 c, .int .i64 n, .int .i64 k, .string a, .string b, .string t, .int .i64 d, .string u] rfl rfl 36 _ hYn infoR8 rfl (by simp [Value.oneCell']) ?_)
  rw [← hV5]
  clear x0 x1 x2 x3 x4 x5 x6 x7 xf hYn
  refine bodyPost_ret (v := .agg #[.int .i64 c, .int .i64 n, .int .i64 k, .string a, .string b, .string t, .int .i64 d, .string u]) (by simp [results, Tryz.results26, go_sem, z0, z1, z2, z3, z4, z5, z6, z7]) rfl ⟨rfl, unhide HB5⟩

set_option maxRecDepth 100000 in
set_option maxHeartbeats 4000000 in
theorem Record_out {w : World} {S : Nat} {a : Option Addr} {n c : Nat} {L : List ARec} (h : YRep w S a n c L) (k : Int) (hk : k < 0 ∨ (n : Int) ≤ k) :
    Calls Tryz.prog 11 #[.pointer (some ⟨S, 0, none⟩), .int .i64 k] w fun e w' => e = .returned (.tuple #[.agg #[.int .i64 0, .int .i64 0, .int .i64 0, .string ⟨#[]⟩, .string ⟨#[]⟩, .string ⟨#[]⟩, .int .i64 0, .string ⟨#[]⟩], .bool false]) ∧ Below w.heap.size w w' := by
  obtain ⟨V, hV⟩ : ∃ V, V = w.alloc (.cells #[.int .i64 0, .int .i64 0, .int .i64 0, .string ⟨#[]⟩, .string ⟨#[]⟩, .string ⟨#[]⟩, .int .i64 0, .string ⟨#[]⟩] 36) := ⟨_, rfl⟩
  have hB0 : Below w.heap.size w V := by rw [hV]; exact (Below.refl _ _).alloc (Nat.le_refl _) _
  have hY0 : V.heap[w.heap.size]? = some (.cells #[.int .i64 0, .int .i64 0, .int .i64 0, .string ⟨#[]⟩, .string ⟨#[]⟩, .string ⟨#[]⟩, .int .i64 0, .string ⟨#[]⟩] 36 (0, 0)) := by rw [hV]; exact heap_alloc_new _ _
  have hc := h.cell
  have hlt := h.lt
  have hd : k < 0 ∨ (¬ k < 0 ∧ (n : Int) ≤ k) := by omega
  clear hk h
  rcases hd with h0 | ⟨h0, h1⟩
  · go_enter Tryz.func11, Tryz.ntmps11
    rw [hV] at hY0
    obtain ⟨V5, hV5⟩ : ∃ V9, V9 = V.setRow w.heap.size #[.int .i64 0, .int .i64 0, .int .i64 0, .string ⟨#[]⟩, .string ⟨#[]⟩, .string ⟨#[]⟩, .int .i64 0, .string ⟨#[]⟩] := ⟨_, rfl⟩
    have hZ : V5.heap[w.heap.size]? = some (.cells #[.int .i64 0, .int .i64 0, .int .i64 0, .string ⟨#[]⟩, .string ⟨#[]⟩, .string ⟨#[]⟩, .int .i64 0, .string ⟨#[]⟩] 36 (0, 0)) := by rw [hV5]; rw [hV]; exact setRow_heap _ w.heap.size _ _ 36 (0, 0) hY0
    have hB5 : Below w.heap.size w V5 := by
      have h := hB0
      rw [hV5]
      exact ⟨h.os, h.tape, h.output, by simp [World.setRow]; exact h.size, fun k hk => (setRow_other V w.heap.size k _ (by omega)).trans (h.block k hk)⟩
    obtain ⟨⟨z0, z1, z2, z3⟩, ⟨z4, z5, z6, z7⟩, _⟩ := eightK hZ
    have HB5 := hide hB5
    rw [hV] at hV5
    clear hB5 hZ
    go_wp2_with (refine wpList_store_row rfl 36 _ _ rfl w.heap.size #[.int .i64 0, .int .i64 0, .int .i64 0, .string ⟨#[]⟩, .string ⟨#[]⟩, .string ⟨#[]⟩, .int .i64 0, .string ⟨#[]⟩] rfl rfl 36 _ hY0 infoR8 rfl (by simp [Value.oneCell']) ?_)
    rw [← hV5]
    refine bodyPost_ret (v := .tuple #[.agg #[.int .i64 0, .int .i64 0, .int .i64 0, .string ⟨#[]⟩, .string ⟨#[]⟩, .string ⟨#[]⟩, .int .i64 0, .string ⟨#[]⟩], .bool false]) (by simp [results, Tryz.results11, go_sem, z0, z1, z2, z3, z4, z5, z6, z7]) rfl ⟨rfl, unhide HB5⟩
  · go_enter Tryz.func11, Tryz.ntmps11
    rw [hV] at hY0
    obtain ⟨V5, hV5⟩ : ∃ V9, V9 = V.setRow w.heap.size #[.int .i64 0, .int .i64 0, .int .i64 0, .string ⟨#[]⟩, .string ⟨#[]⟩, .string ⟨#[]⟩, .int .i64 0, .string ⟨#[]⟩] := ⟨_, rfl⟩
    have hZ : V5.heap[w.heap.size]? = some (.cells #[.int .i64 0, .int .i64 0, .int .i64 0, .string ⟨#[]⟩, .string ⟨#[]⟩, .string ⟨#[]⟩, .int .i64 0, .string ⟨#[]⟩] 36 (0, 0)) := by rw [hV5]; rw [hV]; exact setRow_heap _ w.heap.size _ _ 36 (0, 0) hY0
    have hB5 : Below w.heap.size w V5 := by
      have h := hB0
      rw [hV5]
      exact ⟨h.os, h.tape, h.output, by simp [World.setRow]; exact h.size, fun k hk => (setRow_other V w.heap.size k _ (by omega)).trans (h.block k hk)⟩
    obtain ⟨⟨z0, z1, z2, z3⟩, ⟨z4, z5, z6, z7⟩, _⟩ := eightK hZ
    have HB5 := hide hB5
    rw [hV] at hV5
    clear hB5 hZ
    go_wp2_with (refine wpList_store_row rfl 36 _ _ rfl w.heap.size #[.int .i64 0, .int .i64 0, .int .i64 0, .string ⟨#[]⟩, .string ⟨#[]⟩, .string ⟨#[]⟩, .int .i64 0, .string ⟨#[]⟩] rfl rfl 36 _ hY0 infoR8 rfl (by simp [Value.oneCell']) ?_)
    rw [← hV5]
    refine bodyPost_ret (v := .tuple #[.agg #[.int .i64 0, .int .i64 0, .int .i64 0, .string ⟨#[]⟩, .string ⟨#[]⟩, .string ⟨#[]⟩, .int .i64 0, .string ⟨#[]⟩], .bool false]) (by simp [results, Tryz.results11, go_sem, z0, z1, z2, z3, z4, z5, z6, z7]) rfl ⟨rfl, unhide HB5⟩

set_option maxRecDepth 100000 in
set_option maxHeartbeats 4000000 in
theorem Record_in {w : World} {S : Nat} {a : Option Addr} {n c : Nat} {L : List ARec} (h : YRep w S a n c L) (q : Nat) (r : ARec) (hr : L[q]? = some r) :
    Calls Tryz.prog 11 #[.pointer (some ⟨S, 0, none⟩), .int .i64 (q : Int)] w fun e w' => e = .returned (.tuple #[r.val, .bool true]) ∧ Below w.heap.size w w' := by
  have hq : q < n := by have := (List.getElem?_eq_some_iff.1 hr).1; rw [h.len] at this; exact this
  obtain ⟨V, hV⟩ : ∃ V, V = w.alloc (.cells #[.int .i64 0, .int .i64 0, .int .i64 0, .string ⟨#[]⟩, .string ⟨#[]⟩, .string ⟨#[]⟩, .int .i64 0, .string ⟨#[]⟩] 36) := ⟨_, rfl⟩
  have hB0 : Below w.heap.size w V := by rw [hV]; exact (Below.refl _ _).alloc (Nat.le_refl _) _
  have hY0 : V.heap[w.heap.size]? = some (.cells #[.int .i64 0, .int .i64 0, .int .i64 0, .string ⟨#[]⟩, .string ⟨#[]⟩, .string ⟨#[]⟩, .int .i64 0, .string ⟨#[]⟩] 36 (0, 0)) := by rw [hV]; exact heap_alloc_new _ _
  have hcl := h.cell
  have hlt := h.lt
  have h0 : ¬ ((q : Int) < 0) := by omega
  have h1 : ¬ ((n : Int) ≤ (q : Int)) := by omega
  have h2 : (q : Int) < (n : Int) := by omega
  obtain ⟨b0, off, rfl, hx⟩ := h.recs.2 (by omega)
  have hx1 := hx q r hr
  have hbl := hx1.lt
  obtain ⟨x0, x1, x2, x3, x4, x5, x6, x7⟩ := hx1
  have HCL := hide (fun W => clone_y r W (h.good r (List.mem_of_getElem? hr)))
  have HY0 := hide hY0
  have HB0 := hide hB0
  have HV := hide hV
  clear hx hr h hY0 hB0 hV
  obtain ⟨rc, rn, ⟨rk, ra, rb, rt⟩, rd, ru⟩ := r
  dsimp only [ARec.val, ARec.cells] at *
  go_enter Tryz.func11, Tryz.ntmps11
  go_wp2_with fail
  refine ((unhide HCL) _).mono ?_
  rintro e w1 ⟨rfl, b1⟩
  rw [← unhide HV] at b1
  have hY1 := (b1.block _ (Array.getElem?_eq_some_iff.1 (unhide HY0)).1).trans (unhide HY0)
  have hB1 := (unhide HB0).trans (b1.mono (unhide HB0).size)
  clear b1 x0 x1 x2 x3 x4 x5 x6 x7
  obtain ⟨V5, hV5⟩ : ∃ V9, V9 = w1.setRow w.heap.size #[.int .i64 rc, .int .i64 rn, .int .i64 rk, .string ra, .string rb, .string rt, .int .i64 rd, .string ru] := ⟨_, rfl⟩
  have hZ : V5.heap[w.heap.size]? = some (.cells #[.int .i64 rc, .int .i64 rn, .int .i64 rk, .string ra, .string rb, .string rt, .int .i64 rd, .string ru] 36 (0, 0)) := by rw [hV5]; exact setRow_heap w1 w.heap.size _ _ 36 (0, 0) hY1
  have hB5 : Below w.heap.size w V5 := by
    have h := hB1
    rw [hV5]
    exact ⟨h.os, h.tape, h.output, by simp [World.setRow]; exact h.size, fun k hk => (setRow_other w1 w.heap.size k _ (by omega)).trans (h.block k hk)⟩
  obtain ⟨⟨z0, z1, z2, z3⟩, ⟨z4, z5, z6, z7⟩, _⟩ := eightK hZ
  have HB5 := hide hB5
  clear hB5 hZ
  go_wp2_with (refine wpList_store_row rfl 36 _ _ rfl w.heap.size #[.int .i64 rc, .int .i64 rn, .int .i64 rk, .string ra, .string rb, .string rt, .int .i64 rd, .string ru] rfl rfl 36 _ hY1 infoR8 rfl (by simp [Value.oneCell']) ?_)
  rw [← hV5]
  refine bodyPost_ret (v := .tuple #[.agg #[.int .i64 rc, .int .i64 rn, .int .i64 rk, .string ra, .string rb, .string rt, .int .i64 rd, .string ru], .bool true]) (by simp [results, Tryz.results11, go_sem, z0, z1, z2, z3, z4, z5, z6, z7]) rfl ⟨rfl, unhide HB5⟩

set_option maxRecDepth 100000 in
set_option maxHeartbeats 4000000 in
theorem Would_out {w : World} {S : Nat} {a : Option Addr} {n c : Nat} {L : List ARec} (h : YRep w S a n c L) (k : Int) (hk : k < 0 ∨ (n : Int) < k) (x : ACall) :
    Calls Tryz.prog 13 #[.pointer (some ⟨S, 0, none⟩), .int .i64 k, .agg #[.int .i64 x.kind, .string x.name, .string x.dst, .string x.text]] w fun e w' => e = .returned (.tuple #[.agg #[.int .i64 0, .string ⟨#[]⟩], .bool false]) ∧ Below w.heap.size w w' := by
  obtain ⟨ck, ca, cb, ct⟩ := x
  dsimp only at *
  obtain ⟨V, hV⟩ : ∃ V, V = (w.alloc (.cells #[.int .i64 ck, .string ca, .string cb, .string ct] 24)).alloc (.cells #[.int .i64 0, .string ⟨#[]⟩] 34) := ⟨_, rfl⟩
  have hB0 : Below w.heap.size w V := by rw [hV]; exact ((Below.refl _ _).alloc (Nat.le_refl _) _).alloc (by simp) _
  have hX0 : V.heap[w.heap.size]? = some (.cells #[.int .i64 ck, .string ca, .string cb, .string ct] 24 (0, 0)) := by rw [hV, Below.heap_alloc _ _ _ (by simp)]; exact heap_alloc_new _ _
  have hY0 : V.heap[w.heap.size + 1]? = some (.cells #[.int .i64 0, .string ⟨#[]⟩] 34 (0, 0)) := by rw [hV]; have := heap_alloc_new (w.alloc (.cells #[.int .i64 ck, .string ca, .string cb, .string ct] 24)) (.cells #[.int .i64 0, .string ⟨#[]⟩] 34); simpa using this
  have hzV : w.heap.size + 1 < V.heap.size := (Array.getElem?_eq_some_iff.1 hY0).1
  have HBH := hide (behind_out (h.below hB0) k hk)
  have HV := hide hV
  clear h hk hX0 hV
  go_enter Tryz.func13, Tryz.ntmps13
  go_wp2_with fail
  rw [← unhide HV]
  refine (unhide HBH).mono ?_
  rintro e w1 ⟨rfl, rfl⟩
  obtain ⟨V5, hV5⟩ : ∃ V9, V9 = w1.setRow (w.heap.size + 1) #[.int .i64 0, .string ⟨#[]⟩] := ⟨_, rfl⟩
  have hZ : V5.heap[(w.heap.size + 1)]? = some (.cells #[.int .i64 0, .string ⟨#[]⟩] 34 (0, 0)) := by rw [hV5]; exact setRow_heap w1 (w.heap.size + 1) _ _ 34 (0, 0) hY0
  have hB5 : Below w.heap.size w V5 := by
    have h := hB0
    rw [hV5]
    exact ⟨h.os, h.tape, h.output, by simp [World.setRow]; exact h.size, fun k hk => (setRow_other w1 (w.heap.size + 1) k _ (by omega)).trans (h.block k hk)⟩
  obtain ⟨z0, z1, _⟩ := twoK hZ
  have HB5 := hide hB5
  clear hB5 hZ
  go_wp2_with (refine wpList_store_row rfl 34 _ _ rfl (w.heap.size + 1) #[.int .i64 0, .string ⟨#[]⟩] rfl rfl 34 _ hY0 info34s rfl (by simp [Value.oneCell']) ?_)
  rw [← hV5]
  refine bodyPost_ret (v := .tuple #[.agg #[.int .i64 0, .string ⟨#[]⟩], .bool false]) (by simp [results, Tryz.results13, go_sem, z0, z1]) rfl ⟨rfl, unhide HB5⟩

set_option maxRecDepth 100000 in
set_option maxHeartbeats 4000000 in
theorem Would_in {w : World} {S : Nat} {a : Option Addr} {n c : Nat} {L : List ARec} (h : YRep w S a n c L) (k : Nat) (hk : k ≤ n) (x : ACall) (h1 : x.name.size ≤ maxLen) (h2 : x.dst.size ≤ maxLen) (h3 : x.text.size ≤ maxLen) :
    Calls Tryz.prog 13 #[.pointer (some ⟨S, 0, none⟩), .int .i64 (k : Int), .agg #[.int .i64 x.kind, .string x.name, .string x.dst, .string x.text]] w fun e w' => e = .returned (.tuple #[.agg #[.int .i64 (aDo (behind (L.take k)) x).code, .string (aDo (behind (L.take k)) x).text], .bool true]) ∧ Below w.heap.size w w' := by
  have HDO := hide (fun (W : World) (N B : Nat) (own : List Nat) (ho : OObj N W B own (behind (L.take k))) => Do_obj x ho h1 h2 h3)
  generalize aDo (behind (L.take k)) x = ad at HDO ⊢
  obtain ⟨dc, dt, ds⟩ := ad
  clear h1 h2 h3
  obtain ⟨ck, ca, cb, ct⟩ := x
  dsimp only at *
  obtain ⟨V, hV⟩ : ∃ V, V = (w.alloc (.cells #[.int .i64 ck, .string ca, .string cb, .string ct] 24)).alloc (.cells #[.int .i64 0, .string ⟨#[]⟩] 34) := ⟨_, rfl⟩
  have hB0 : Below w.heap.size w V := by rw [hV]; exact ((Below.refl _ _).alloc (Nat.le_refl _) _).alloc (by simp) _
  have hX0 : V.heap[w.heap.size]? = some (.cells #[.int .i64 ck, .string ca, .string cb, .string ct] 24 (0, 0)) := by rw [hV, Below.heap_alloc _ _ _ (by simp)]; exact heap_alloc_new _ _
  have hY0 : V.heap[w.heap.size + 1]? = some (.cells #[.int .i64 0, .string ⟨#[]⟩] 34 (0, 0)) := by rw [hV]; have := heap_alloc_new (w.alloc (.cells #[.int .i64 ck, .string ca, .string cb, .string ct] 24)) (.cells #[.int .i64 0, .string ⟨#[]⟩] 34); simpa using this
  have hzV : w.heap.size + 1 < V.heap.size := (Array.getElem?_eq_some_iff.1 hY0).1
  have HBH := hide (behind_in (h.below hB0) k hk)
  have HV := hide hV
  have HX0 := hide hX0
  have HY0 := hide hY0
  have HB0 := hide hB0
  clear h hk hX0 hV hY0 hB0
  go_enter Tryz.func13, Tryz.ntmps13
  go_wp2_with fail
  rw [← unhide HV]
  refine (unhide HBH).mono ?_
  rintro e w1 ⟨B, own, rfl, ho1, b1⟩
  have hX1 := (b1.block _ (by omega)).trans (unhide HX0)
  have hY1 := (b1.block _ hzV).trans (unhide HY0)
  have hB1 := (unhide HB0).trans (b1.mono (unhide HB0).size)
  obtain ⟨x0, x1, x2, x3, xf⟩ := fourK hX1
  have HD1 := hide ((unhide HDO) w1 _ B own ho1)
  have hz1 : w.heap.size + 1 < w1.heap.size := Nat.lt_of_lt_of_le hzV b1.size
  have hnw : w.heap.size + 1 ∉ own := fun hm => by have := ho1.own _ hm; omega
  have HY1 := hide hY1
  have HB1 := hide hB1
  have hzz := (unhide HB0).size
  clear hX1 hY1 hB1 ho1 b1
  go_wp2_with fail
  refine (unhide HD1).mono ?_
  rintro e w2 ⟨rfl, own2, ho2, hn2⟩
  have hY2 := (hn2.keep _ hz1 hnw).2.trans (unhide HY1)
  have hB2 := (unhide HB1).trans (hn2.below.mono hzz)
  clear hn2 ho2 x0 x1 x2 x3 xf
  obtain ⟨V5, hV5⟩ : ∃ V9, V9 = w2.setRow (w.heap.size + 1) #[.int .i64 dc, .string dt] := ⟨_, rfl⟩
  have hZ : V5.heap[(w.heap.size + 1)]? = some (.cells #[.int .i64 dc, .string dt] 34 (0, 0)) := by rw [hV5]; exact setRow_heap w2 (w.heap.size + 1) _ _ 34 (0, 0) hY2
  have hB5 : Below w.heap.size w V5 := by
    have h := hB2
    rw [hV5]
    exact ⟨h.os, h.tape, h.output, by simp [World.setRow]; exact h.size, fun k hk => (setRow_other w2 (w.heap.size + 1) k _ (by omega)).trans (h.block k hk)⟩
  obtain ⟨z0, z1, _⟩ := twoK hZ
  have HB5 := hide hB5
  clear hB5 hZ
  go_wp2_with (refine wpList_store_row rfl 34 _ _ rfl (w.heap.size + 1) #[.int .i64 dc, .string dt] rfl rfl 34 _ hY2 info34s rfl (by simp [Value.oneCell']) ?_)
  rw [← hV5]
  refine bodyPost_ret (v := .tuple #[.agg #[.int .i64 dc, .string dt], .bool true]) (by simp [results, Tryz.results13, go_sem, z0, z1]) rfl ⟨rfl, unhide HB5⟩

end Go.Proofs.YtmbhbnoifimeaacGreat

namespace Go.Proofs.YtmbhbnoifimeaacGreat
open Go.RowKit Go.Shelf
set_option linter.unusedSimpArgs false
set_option linter.unusedVariables false

def ywb_ren : Go.Shelf.Ren := ⟨fun | 167 => 30 | 240 => 52 | 276 => 77 | n => n, fun | 0 => 0 | 4 => 4 | 5 => 5 | 9 => 9 | 20 => 20 | 37 => 22 | 70 => 74 | 72 => 76 | 75 => 80 | 80 => 84 | 164 => 134 | n => n, fun | n => n⟩
theorem ywb : Go.Proofs.Lays.n167 Tryz.prog ywb_ren := {
  mixed := by kernel_rfl
  f167 := Tryz.func30.trans (congrArg some (by kernel_rfl))
  f240 := Tryz.func52.trans (congrArg some (by kernel_rfl))
  f276 := Tryz.func77.trans (congrArg some (by kernel_rfl))
  t0 := Tryz.underlying0
  a0 := Tryz.isAgg0
  z0 := Tryz.sizeOf0
  v0 := Tryz.zeroValue0
  t4 := Tryz.underlying4
  a4 := Tryz.isAgg4
  z4 := Tryz.sizeOf4
  v4 := Tryz.zeroValue4
  t5 := Tryz.underlying5
  a5 := Tryz.isAgg5
  z5 := Tryz.sizeOf5
  v5 := Tryz.zeroValue5
  t9 := Tryz.underlying9
  a9 := Tryz.isAgg9
  z9 := Tryz.sizeOf9
  v9 := Tryz.zeroValue9
  t20 := Tryz.underlying20
  a20 := Tryz.isAgg20
  z20 := Tryz.sizeOf20
  v20 := Tryz.zeroValue20
  t37 := Tryz.underlying22
  a37 := Tryz.isAgg22
  z37 := Tryz.sizeOf22
  v37 := Tryz.zeroValue22
  t70 := Tryz.underlying74
  a70 := Tryz.isAgg74
  z70 := Tryz.sizeOf74
  v70 := Tryz.zeroValue74
  t72 := Tryz.underlying76
  a72 := Tryz.isAgg76
  z72 := Tryz.sizeOf76
  v72 := Tryz.zeroValue76
  t75 := Tryz.underlying80
  a75 := Tryz.isAgg80
  z75 := Tryz.sizeOf80
  v75 := Tryz.zeroValue80
  t164 := Tryz.underlying134
  a164 := Tryz.isAgg134
  z164 := Tryz.sizeOf134
  v164 := Tryz.zeroValue134 }
theorem ywb_x : Builder.Extra Tryz.prog ywb_ren := {
  sizeBuilder := by kernel_rfl
  liesBuilder := by kernel_rfl
  t5 := Tryz.underlying5
  a5 := Tryz.isAgg5
  z5 := Tryz.sizeOf5
  v5 := Tryz.zeroValue5
  infoByte := by kernel_rfl
  cellsByte := by kernel_rfl
  sizeByte := by kernel_rfl
  neB5 := by decide }
/-- A builder at block b, all of whose own lies from B on. -/
abbrev YB (B b : Nat) (bs : List UInt8) (w : World) : Prop := Lib.IsBuilderF 76 5 B b (Lib.byteCells bs) w
theorem strCells_bytes (s : ByteArray) : Lib.strCells s = Lib.byteCells s.data.toList := by simp [Lib.strCells, Lib.byteCells]
theorem WriteByte_y (B b : Nat) (bs : List UInt8) (c : UInt8) (w : World) (h : YB B b bs w) (hlen : bs.length ≤ 1000000) (hBw : B ≤ w.heap.size) :
    Calls Tryz.prog 30 #[.pointer (some ⟨b, 0, none⟩), .int .u8 (c.toNat : Int)] w fun e w' => e = .returned .nilIface ∧ YB B b (bs ++ [c]) w' ∧ Below B w w' ∧ Lib.OthersKept 5 (some b) w w' := by
  refine (Any.Builder_WriteByte_k ywb ywb_x B b _ (c.toNat : Int) w h (by rw [Lib.byteCells_length]; omega) hBw).mono ?_
  rintro e w' ⟨rfl, h1, h2, h3⟩
  refine ⟨rfl, ?_, h2, h3⟩
  unfold YB
  rw [Lib.byteCells_append]
  exact .inr h1
theorem WriteString_y (B b : Nat) (bs : List UInt8) (s : ByteArray) (w : World) (h : YB B b bs w) (hlen : bs.length + s.size ≤ 1000000) (hBw : B ≤ w.heap.size) :
    Calls Tryz.prog 29 #[.pointer (some ⟨b, 0, none⟩), .string s] w fun e w' => e = .returned (.tuple #[.int .i64 s.size, .nilIface]) ∧ YB B b (bs ++ s.data.toList) w' ∧ Below B w w' ∧ Lib.OthersKept 5 (some b) w w' := by
  refine (Any.Builder_WriteString_k (ρ := Tryz.lays156_ren) { Tryz.lays156 with } Tryz.Builder_Extra_156 B b _ s w h (by rw [Lib.byteCells_length]; omega) hBw).mono ?_
  rintro e w' ⟨rfl, h1, h2, h3⟩
  refine ⟨rfl, ?_, h2, h3⟩
  unfold YB
  rw [Lib.byteCells_append, ← strCells_bytes]
  exact .inr h1
theorem String_y (B b : Nat) (bs : List UInt8) (w : World) (h : YB B b bs w) (hBw : B ≤ w.heap.size) :
    Calls Tryz.prog 32 #[.pointer (some ⟨b, 0, none⟩)] w fun e w' => e = .returned (.string ⟨bs.toArray⟩) ∧ Below B w w' := by
  refine (Tryz.Builder_String_any_k B b bs w h hBw).mono ?_
  rintro e w' ⟨rfl, _, h2, _⟩
  exact ⟨rfl, h2⟩

end Go.Proofs.YtmbhbnoifimeaacGreat

namespace Go.Proofs.YtmbhbnoifimeaacGreat
open Go.RowKit
set_option linter.unusedSimpArgs false
set_option linter.unusedVariables false

set_option maxRecDepth 100000 in
set_option maxHeartbeats 1000000 in
theorem Do_readB (a b t : ByteArray) (B : Nat) (own : List Nat) (st : List AFile) (w : World) (hr : St w B own st) (hi : Inv st) (ha : a.size ≤ maxLen) (hb : b.size ≤ maxLen) (ht : t.size ≤ maxLen) (hc : checkI ⟨5, a, b, t⟩ = 0) (hf : 0 ≤ fInt a st) :
    Calls Tryz.prog 31 #[.pointer (some ⟨B, 0, none⟩), .agg #[.int .i64 5, .string a, .string b, .string t]] w
      fun e w' => e = .returned (.agg #[.int .i64 0, .string (fileAt st (fIdx a st)).text]) ∧ Below w.heap.size w w' := by
  have hcon := Check_any 5 a b t (doW w 5 a b t) ha hb ht
  have hin := DoIn.start w 5 a b t
  rw [hc] at hcon
  have HI := hide hin
  have HS := hide hr
  have HV := hide hi
  have hl := hi.few
  have hcr : ∀ W : World, St W B own st → Calls Tryz.prog 56 #[.pointer (some ⟨B, 0, none⟩), .string a] W fun e w' => e = .returned (.int .i64 (fInt a st)) ∧ Below W.heap.size W w' := fun W h => find_any a B own st W h (by omega)
  have HC := hide hcr
  obtain ⟨g, n, cap, l1, l2, f, hrep, hown, rfl, hn, hix, hit⟩ := hr.at_file a hf
  rw [hix]
  rw [hit] at HC
  have hnl : n ≤ 1000 := by rw [hn]; simp at hl ⊢; omega
  have hln : (l1.length : Int) < (n : Int) := by rw [hn]; simp; omega
  have HRq := hide hrep
  have HN := hide hn
  have HW := hide hown
  have hfa : (fileAt ((l1 ++ f :: l2).map FV.abs) l1.length).text = f.text := by rw [fileAt_mid]
  rw [hfa]
  clear hfa
  unfold doW at hcon
  clear hin hr hc hi hcr hf hix hit hrep hown hn hl
  go_enter Tryz.func31, Tryz.ntmps31
  go_wp2_with fail
  refine hcon.mono ?_
  rintro e w1 ⟨rfl, b1⟩
  have h1 := (unhide HI).later b1
  have HH := hide h1
  have k0 := h1.k0
  have k1 := h1.k1
  have HS1 := hide ((unhide HS).below h1.below)
  clear h1 b1
  go_wp2_with fail
  refine ((unhide HC) _ (unhide HS1)).mono ?_
  rintro e w2 ⟨rfl, b2⟩
  have h3 := (unhide HH).later b2
  have HH3 := hide h3
  have HR2 := hide ((unhide HRq).below h3.below)
  have k03 := h3.k0
  have k13 := h3.k1
  have k23 := h3.k2
  have k33 := h3.k3
  have cB := (unhide HR2).cellB
  have hl0 : (0 : Int) ≤ (l1.length : Int) := by omega
  clear h3 b2 k0 k1
  have cF := ((unhide HR2).file l1.length f mid_get).2
  obtain ⟨ta, tc, htv⟩ := row_form ((unhide HR2).texts f (by simp))
  have hcv := conv_back w2 f.tv f.text ((unhide HR2).texts f (by simp))
  rw [htv] at cF hcv
  have h3 := unhide HH3
  have e1 := h3.a0.1
  have e2 := h3.a0.2
  have e3 := h3.a1.1
  have e4 := h3.a1.2
  have q0 := ans0 (.int .i64 0) (.string f.text) e1
  have q1 := ans1 (.int .i64 0) (.string f.text) e3
  clear h3 htv
  generalize hts : f.text.size = ts at cF hcv
  clear hts
  go_wp2
  refine bodyPost_ret (v := .agg #[.int .i64 0, .string f.text]) (by simp [results, Tryz.results31, go_sem, q0, q1]) rfl ⟨rfl, ?_⟩
  exact below_set (below_set (unhide HH3).below (Nat.le_succ _)) (Nat.le_succ _)

/-- A file's text is read. -/
theorem Read_y {N : Nat} {w : World} {B : Nat} {own : List Nat} {st : List AFile} (h : OObj N w B own st) {x : ByteArray} (hx : x ∈ sNames st) :
    Calls Tryz.prog 31 #[.pointer (some ⟨B, 0, none⟩), .agg #[.int .i64 5, .string x, .string ⟨#[]⟩, .string ⟨#[]⟩]] w fun e w' => e = .returned (.agg #[.int .i64 0, .string (fileAt st (fIdx x st)).text]) ∧ Below w.heap.size w w' :=
  Do_readB x ⟨#[]⟩ ⟨#[]⟩ B own st w h.rep h.inv (by have := nameB_size (ySN_named h.inv hx); unfold maxLen; omega) (by unfold maxLen; decide) (by unfold maxLen; decide) (read_check (ySN_named h.inv hx)) (sNames_found hx)
theorem WriteByte_c (c : UInt8) (i : Int) (hi : (c.toNat : Int) = i) (B b : Nat) (bs : List UInt8) (w : World) (h : YB B b bs w) (hlen : bs.length ≤ 1000000) (hBw : B ≤ w.heap.size) :
    Calls Tryz.prog 30 #[.pointer (some ⟨b, 0, none⟩), .int .u8 i] w fun e w' => e = .returned .nilIface ∧ YB B b (bs ++ [c]) w' ∧ Below B w w' ∧ Lib.OthersKept 5 (some b) w w' := by
  subst hi
  exact WriteByte_y B b bs c w h hlen hBw
/-- A row of texts outlasts a builder's writing. -/
theorem texts_kept {b g : Nat} {w w' : World} {cur : Array Value} (hk : Lib.OthersKept 5 (some b) w w') (hg : w.heap[g]? = some (.cells cur 9 (0, 0))) (hb : b < g) : w'.heap[g]? = some (.cells cur 9 (0, 0)) :=
  hk g _ hg (fun e => by have := Option.some.inj e; omega) (fun c fz e => by injection e with _ h _; exact absurd h (by decide))
theorem IsBuilderF_below {T e : TypeId} {B b : Nat} {bs : List Value} {w w' : World} (h : Lib.IsBuilderF T e B b bs w) (hb : Below w.heap.size w w') : Lib.IsBuilderF T e B b bs w' := by
  have go : ∀ p, Lib.BuilderAtF T e B b p bs w → Lib.BuilderAtF T e B b p bs w' := by
    rintro p ⟨h1, v, h2, h3, h4⟩
    refine ⟨h1, v, (hb.block b (Array.getElem?_eq_some_iff.1 h2).1).trans h2, ?_, h4⟩
    obtain ⟨k1, k2⟩ := h3
    refine ⟨k1, ?_⟩
    rcases k2 with k2 | ⟨g, cap, cur, fz, e1, e2, e3, e4⟩
    · exact .inl k2
    · exact .inr ⟨g, cap, cur, fz, e1, e2, (hb.block g (Array.getElem?_eq_some_iff.1 e3).1).trans e3, e4⟩
  rcases h with h | h
  · exact .inl (go _ h)
  · exact .inr (go _ h)

set_option maxRecDepth 100000 in
theorem Text_out {w : World} {S : Nat} {a : Option Addr} {n c : Nat} {L : List ARec} (h : YRep w S a n c L) (k : Int) (hk : k < 0 ∨ (n : Int) < k) :
    Calls Tryz.prog 12 #[.pointer (some ⟨S, 0, none⟩), .int .i64 k] w fun e w' => e = .returned (.tuple #[.string ⟨#[]⟩, .bool false]) ∧ Below w.heap.size w w' := by
  have HBH := hide (behind_out h k hk)
  clear h hk
  go_enter Tryz.func12, Tryz.ntmps12
  go_wp2_with fail
  refine (unhide HBH).mono ?_
  rintro e w1 ⟨rfl, rfl⟩
  go_wp2
  go_ret2
  exact ⟨rfl, Below.refl _ _⟩

set_option maxRecDepth 100000 in
set_option maxHeartbeats 4000000 in
theorem Text_in {w : World} {S : Nat} {a : Option Addr} {n c : Nat} {L : List ARec} (h : YRep w S a n c L) (k : Nat) (hk : k ≤ n) :
    Calls Tryz.prog 12 #[.pointer (some ⟨S, 0, none⟩), .int .i64 (k : Int)] w fun e w' => e = .returned (.tuple #[.string ⟨(textL (behind (L.take k))).toArray⟩, .bool true]) ∧ Below w.heap.size w w' := by
  have HI := hide (behind_inv (L.take k))
  have HBH := hide (behind_in h k hk)
  generalize behind (L.take k) = st at HI HBH ⊢
  obtain ⟨res, HRES⟩ : ∃ res : ByteArray, Hid (res = ⟨(textL st).toArray⟩) := ⟨_, rfl⟩
  rw [← unhide HRES]
  clear h hk
  go_enter Tryz.func12, Tryz.ntmps12
  go_wp2_with fail
  refine (unhide HBH).mono ?_
  rintro e w1 ⟨F, own, rfl, ho1, b1⟩
  have HO := hide ho1
  have HB1 := hide b1
  obtain ⟨V, hV⟩ : ∃ V, V = w1.alloc (.cells #[.pointer none, .slice none 0 0] 76) := ⟨_, rfl⟩
  have hbV : Below w1.heap.size w1 V := by rw [hV]; exact (Below.refl _ _).alloc (Nat.le_refl _) _
  have hzV : V.heap.size = w1.heap.size + 1 := by rw [hV]; exact al_size _ _
  have HY0 : Hid (YB w1.heap.size w1.heap.size [] V) := by rw [hV]; exact Lib.IsBuilderF.of (Lib.fresh_isBuilder 76 5 w1)
  have HNM := hide (Names_obj (ho1.below hbV))
  have HBV := hide hbV
  have HV := hide hV
  clear ho1 b1 hbV hV HBH
  go_wp2_with fail
  rw [← unhide HV]
  refine (unhide HNM).mono ?_
  rintro e w2 ⟨g, cp, rfl, hn2, b2⟩
  have hns := sNames_len st
  obtain ⟨m, hm⟩ : ∃ m, st.length = m := ⟨_, rfl⟩
  rw [hm] at hn2 hns ⊢
  obtain ⟨cur, hg2, hgb, hcur⟩ : ∃ cur : Array Value, w2.heap[g]? = some (.cells cur 9 (0, 0)) ∧ w1.heap.size < g ∧ ∀ (j : Nat) (x : ByteArray), (sNames st)[j]? = some x → cur[j]? = some (.string x) := by
    rcases hn2.2 with ⟨hv, h0⟩ | ⟨g', cap', cur, hv, h1, h2, h3, h4, h5, h6⟩
    · cases hv
    · cases hv
      refine ⟨cur, h2, by omega, fun j x hx => ?_⟩
      have := texts_cell hn2 j x hx
      rw [cell_of_row w2 g _ _ _ _ h2] at this
      exact this
  have HY2 := hide (IsBuilderF_below (unhide HY0) b2)
  have HG2 := hide hg2
  have HCUR := hide hcur
  have HB2 := hide ((unhide HBV).trans (b2.mono (unhide HBV).size))
  have hm6 : m ≤ 6 := by have := (unhide HI).few; omega
  have HNS := hide hns
  clear hn2 b2 hg2 hcur HY0 HNM hns hm
  go_wp2_with fail
  go_loopw [22, 10] (fun i _ wr => ∃ q : Nat, q ≤ m ∧ i = .int .i64 (q : Int) ∧ Hid (YB w1.heap.size w1.heap.size (linesB st ((sNames st).take q)) wr) ∧ Hid (wr.heap[g]? = some (.cells cur 9 (0, 0))) ∧ Hid (Below w1.heap.size w1 wr)) (fun i _ _ => m - (intOf i).toNat)
  case atStart => exact ⟨0, Nat.zero_le _, rfl, unhide HY2, unhide HG2, unhide HB2⟩
  case round =>
    clear HY2 HG2 HB2
    obtain ⟨q, hq, rfl, HY, HG, HB⟩ := hrel
    by_cases hlt : (q : Int) < (m : Int)
    · obtain ⟨x, hx⟩ : ∃ x, (sNames st)[q]? = some x := ⟨_, List.getElem?_eq_getElem (by rw [unhide HNS]; omega)⟩
      have hxm : x ∈ sNames st := List.mem_of_getElem? hx
      have hcx : wr.cell? ⟨g, q, none⟩ = some (.string x) := by rw [cell_of_row wr g _ _ _ _ (unhide HG)]; exact (unhide HCUR) q x hx
      have hqi : (0 : Int) ≤ (q : Int) := by omega
      have hacc := linesB_take (unhide HI) q
      have hln := linesB_snoc st ((sNames st).take q) x
      have htk : (sNames st).take (q + 1) = (sNames st).take q ++ [x] := by rw [List.take_add_one, hx]; rfl
      rw [← htk] at hln
      obtain ⟨acc, HA⟩ : ∃ acc, Hid (acc = linesB st ((sNames st).take q)) := ⟨_, rfl⟩
      rw [← unhide HA] at HY hacc hln
      have HLN := hide hln
      have HRD := hide (fun (W : World) (hW : Below w1.heap.size w1 W) => Read_y ((unhide HO).below hW) hxm)
      have hxs : x.size ≤ 5 := (nameB_size (ySN_named (unhide HI) hxm)).2
      have hts : (fileAt st (fIdx x st)).text.size ≤ 16 := (unhide HI).short _ (fileAt_mem (fIdx_spec x st (sNames_found hxm)).1)
      have HL2 : Hid (linesB st ((sNames st).take (q + 1)) = acc ++ x.data.toList ++ [61] ++ (fileAt st (fIdx x st)).text.data.toList ++ [10]) := hide (by rw [unhide HLN]; unfold lineB; simp)
      generalize (fileAt st (fIdx x st)).text = tx at HRD hts HL2
      have fd1 := field1 0 tx
      have hbs : w1.heap.size ≤ wr.heap.size := (unhide HB).size
      clear hx hxm hln htk HLN HA
      have l0 : x.data.toList.length = x.size := bsize x
      have l1 : tx.data.toList.length = tx.size := bsize tx
      go_wp2_with fail
      refine (WriteString_y w1.heap.size w1.heap.size acc x wr (unhide HY) (by omega) hbs).mono ?_
      rintro e w3 ⟨rfl, y3, bl3, k3⟩
      have HY3 := hide y3
      have HG3 := hide (texts_kept k3 (unhide HG) hgb)
      have HB3 := hide ((unhide HB).trans bl3)
      clear y3 bl3 k3 hcx
      go_wp2_with fail
      refine (WriteByte_c 61 61 rfl w1.heap.size w1.heap.size (acc ++ x.data.toList) w3 (unhide HY3) (by rw [List.length_append]; omega) (unhide HB3).size).mono ?_
      rintro e w4 ⟨rfl, y4, bl4, k4⟩
      have HY4 := hide y4
      have HG4 := hide (texts_kept k4 (unhide HG3) hgb)
      have HB4 := hide ((unhide HB3).trans bl4)
      clear y4 bl4 k4
      go_wp2_with fail
      refine ((unhide HRD) w4 (unhide HB4)).mono ?_
      rintro e w5 ⟨rfl, b5⟩
      have HY5 := hide (IsBuilderF_below (unhide HY4) b5)
      have HG5 := hide ((b5.block g (Array.getElem?_eq_some_iff.1 (unhide HG4)).1).trans (unhide HG4))
      have HB5 := hide ((unhide HB4).trans (b5.mono (unhide HB4).size))
      clear b5
      go_wp2_with fail
      refine (WriteString_y w1.heap.size w1.heap.size (acc ++ x.data.toList ++ [61]) tx w5 (unhide HY5) (by simp only [List.length_append, List.length_cons, List.length_nil]; omega) (unhide HB5).size).mono ?_
      rintro e w6 ⟨rfl, y6, bl6, k6⟩
      have HY6 := hide y6
      have HG6 := hide (texts_kept k6 (unhide HG5) hgb)
      have HB6 := hide ((unhide HB5).trans bl6)
      clear y6 bl6 k6
      go_wp2_with fail
      refine (WriteByte_c 10 10 rfl w1.heap.size w1.heap.size (acc ++ x.data.toList ++ [61] ++ tx.data.toList) w6 (unhide HY6) (by simp only [List.length_append, List.length_cons, List.length_nil]; omega) (unhide HB6).size).mono ?_
      rintro e w7 ⟨rfl, y7, bl7, k7⟩
      have HG7 := hide (texts_kept k7 (unhide HG6) hgb)
      have HB7 := hide ((unhide HB6).trans bl7)
      rw [← unhide HL2] at y7
      have HY7 := hide y7
      clear y7 bl7 k7
      go_wp2
      go_roundw
      case rel => exact ⟨q + 1, by omega, by go_num, unhide HY7, unhide HG7, unhide HB7⟩
      case measure => simp [intOf]; omega
    · obtain rfl : q = m := by omega
      have hfull : (sNames st).take q = sNames st := List.take_of_length_le (by rw [unhide HNS]; omega)
      rw [hfull] at HY
      have HST := hide (String_y w1.heap.size w1.heap.size (linesB st (sNames st)) wr (unhide HY) (unhide HB).size)
      rw [show linesB st (sNames st) = textL st from rfl, ← show res = _ from unhide HRES] at HST
      clear hfull
      go_wp2_with fail
      refine (unhide HST).mono ?_
      rintro e w3 ⟨rfl, b3⟩
      have HBE := hide ((unhide HB1).trans (((unhide HB).trans b3).mono (unhide HB1).size))
      clear b3
      go_wp2
      go_ret2
      exact ⟨rfl, unhide HBE⟩

end Go.Proofs.YtmbhbnoifimeaacGreat

namespace Go.Proofs.YtmbhbnoifimeaacGreat
open Go.RowKit
set_option linter.unusedSimpArgs false
set_option linter.unusedVariables false

theorem KRep.below {N : Nat} {w w' : World} {X : Nat} {v : Value} {c : ACli} (h : KRep N w X v c) (hb : Below w.heap.size w w') : KRep N w' X v c := ⟨h.o.below hb, h.ok⟩

set_option maxRecDepth 100000 in
set_option maxHeartbeats 4000000 in
theorem awaits_any {N : Nat} {w : World} {X : Nat} {v : Value} {c : ACli} (h : KRep N w X v c) (p : APkt) : Calls Tryz.prog 121 #[.pointer (some ⟨X, 0, none⟩), p.val] w fun e w' => e = .returned (.bool (c.hears p)) ∧ Below w.heap.size w w' := by
  obtain ⟨V, hV⟩ : ∃ V, V = w.alloc (.cells (pArr p) 122) := ⟨_, rfl⟩
  have hBV : Below w.heap.size w V := by rw [hV]; exact (Below.refl _ _).alloc (Nat.le_refl _) _
  have hXV : V.heap[w.heap.size]? = some (.cells (pArr p) 122 (0, 0)) := by rw [hV]; exact heap_alloc_new _ _
  have hrV := h.below hBV
  have HNO : Hid (∀ n, Calls Tryz.prog 85 #[.pointer (some ⟨X, 0, none⟩)] (V.drewN n) fun e w' => e = .returned (.int .i64 c.no) ∧ w' = V.drewN n) := fun n => number_any (hrV.below (w' := V.drewN n) ⟨rfl, rfl, rfl, Nat.le_refl _, fun _ _ => rfl⟩)
  have hres : c.hears p = (c.op && p.reply && p.client == c.me && p.no == c.no && callB p.call c.call) := rfl
  have hE := fun W => eql32 p.call c.call W
  obtain ⟨⟨k0, k1, k2, k3⟩, ⟨k4, k5, k6⟩, kf⟩ := seven hrV.o.blk
  rw [hres]
  generalize c.no = cno at HNO ⊢
  generalize callB p.call c.call = cb at hE ⊢
  obtain ⟨me, done, ⟨ck, ca, cb', ct⟩, op⟩ := c
  obtain ⟨y, pc, pn, ⟨pk, s1, s2, s3⟩, d, u⟩ := p
  dsimp only [APkt.val, pArr, callCells] at *
  obtain ⟨⟨x0, x1, x2, x3⟩, ⟨x4, x5, x6, x7, x8⟩, xf⟩ := nine hXV
  have HV := hide hV
  have HB := hide hBV
  have HBD : Hid (∀ n, Below w.heap.size w (V.drewN n)) := fun n => hBV.trans ⟨rfl, rfl, rfl, Nat.le_refl _, fun _ _ => rfl⟩
  clear h hBV hXV hrV hV hres xf kf k1
  cases op
  · go_enter Tryz.func121, Tryz.ntmps121
    go_wp2_with fail
    rw [← unhide HV]
    go_quiet (first | (go_at_call 85; exact Calls.quiet_of_same ((unhide HNO) _)))
    go_wp2
    go_ret
    exact ⟨rfl, (unhide HBD) _⟩
  cases y
  · go_enter Tryz.func121, Tryz.ntmps121
    go_wp2_with fail
    rw [← unhide HV]
    go_quiet (first | (go_at_call 85; exact Calls.quiet_of_same ((unhide HNO) _)))
    go_wp2
    go_ret
    exact ⟨rfl, (unhide HBD) _⟩
  cases hc : (pc == me)
  · go_enter Tryz.func121, Tryz.ntmps121
    go_wp2_with fail
    rw [← unhide HV]
    go_quiet (first | (go_at_call 85; exact Calls.quiet_of_same ((unhide HNO) _)))
    go_wp2
    go_ret
    exact ⟨rfl, (unhide HBD) _⟩
  cases hn : (pn == cno)
  · go_enter Tryz.func121, Tryz.ntmps121
    go_wp2_with fail
    rw [← unhide HV]
    go_quiet (first | (go_at_call 85; exact Calls.quiet_of_same ((unhide HNO) _)))
    go_wp2
    go_ret
    exact ⟨rfl, (unhide HBD) _⟩
  · go_enter Tryz.func121, Tryz.ntmps121
    go_wp2_with fail
    rw [← unhide HV]
    go_quiet (first | (go_at_call 85; exact Calls.quiet_of_same ((unhide HNO) _)))
    go_wp2
    go_ret
    exact ⟨rfl, (unhide HBD) _⟩

end Go.Proofs.YtmbhbnoifimeaacGreat

namespace Go.Proofs.YtmbhbnoifimeaacGreat
open Go.RowKit
set_option linter.unusedSimpArgs false
set_option linter.unusedVariables false

theorem set5 {w : World} {X : Nat} {t : TypeId} {y0 y1 y2 y3 y4 y5 y6 a2 a3 a4 a5 a6 : Value} (h : w.heap[X]? = some (.cells #[y0, y1, y2, y3, y4, y5, y6] t (0, 0))) :
    (((((w.setCell ⟨X, 2, none⟩ a2).setCell ⟨X, 3, none⟩ a3).setCell ⟨X, 4, none⟩ a4).setCell ⟨X, 5, none⟩ a5).setCell ⟨X, 6, none⟩ a6).heap[X]? = some (.cells #[y0, y1, a2, a3, a4, a5, a6] t (0, 0)) ∧
    Kept [X] w (((((w.setCell ⟨X, 2, none⟩ a2).setCell ⟨X, 3, none⟩ a3).setCell ⟨X, 4, none⟩ a4).setCell ⟨X, 5, none⟩ a5).setCell ⟨X, 6, none⟩ a6) := by
  refine ⟨?_, ?_⟩
  · have h1 := heap_setCell_same (o := 6) (heap_setCell_same (o := 5) (heap_setCell_same (o := 4) (heap_setCell_same (o := 3) (heap_setCell_same (o := 2) h a2) a3) a4) a5) a6
    exact h1
  · have k : ∀ (W : World) (o : Nat) (u : Value), Kept [X] W (W.setCell ⟨X, o, none⟩ u) := fun W o u => kept_setCell [X] W X o u (by simp)
    exact ((((k _ _ _).trans (k _ _ _) (fun x hx => .inl hx)).trans (k _ _ _) (fun x hx => .inl hx)).trans (k _ _ _) (fun x hx => .inl hx)).trans (k _ _ _) (fun x hx => .inl hx)
theorem small_max {n : Nat} (h : n ≤ 281474976710656) : n ≤ maxLen := by unfold maxLen; omega

set_option maxRecDepth 100000 in
set_option maxHeartbeats 4000000 in
theorem Call_any {N : Nat} {w : World} {X : Nat} {v : Value} {c : ACli} (h : KRep N w X v c) (x : ACall) (hx : SmallC x) :
    Calls Tryz.prog 63 #[.pointer (some ⟨X, 0, none⟩), .agg #[.int .i64 x.kind, .string x.name, .string x.dst, .string x.text]] w fun e w' => e = .returned (.int .i64 (c.ask x)) ∧ KTurn N w X v w' (c.asked x) := by
  obtain ⟨V, hV⟩ : ∃ V, V = w.alloc (.cells #[.int .i64 x.kind, .string x.name, .string x.dst, .string x.text] 24) := ⟨_, rfl⟩
  have hBV : Below w.heap.size w V := by rw [hV]; exact (Below.refl _ _).alloc (Nat.le_refl _) _
  have hXV : V.heap[w.heap.size]? = some (.cells #[.int .i64 x.kind, .string x.name, .string x.dst, .string x.text] 24 (0, 0)) := by rw [hV]; exact heap_alloc_new _ _
  have hrV := h.below hBV
  have HCK := hide (Check_any x.kind x.name x.dst x.text V (small_max hx.1) (small_max hx.2.1) (small_max hx.2.2))
  have HCL := hide (fun W => cloneCall_any x W hx)
  have hce : checkI ⟨x.kind, x.name, x.dst, x.text⟩ = checkI x := rfl
  rw [hce] at HCK
  have hlV : w.heap.size < V.heap.size := (Array.getElem?_eq_some_iff.1 hXV).1
  have hXn : w.heap.size ≠ X := by have := h.o.lt; omega
  have HRV := hide hrV
  have HXV := hide hXV
  have HBV := hide hBV
  have HV := hide hV
  by_cases hck : checkI x = 0
  · cases hop : c.op
    · by_cases hfull : 200 ≤ c.done.length
      · have e1 : c.ask x = 7 := by unfold ACli.ask; rw [if_neg (by simp [hck]), if_neg (by simp [hop]), if_pos hfull]
        have e2 : c.asked x = c := by unfold ACli.asked; rw [e1, if_neg (by omega)]
        rw [e1, e2]
        rw [hck] at HCK
        have HT : Hid (∀ w', Below V.heap.size V w' → KTurn N w X v w' c) := fun w' hb => OTurn.of_below h.o (hBV.trans (hb.mono hBV.size))
        obtain ⟨x0, x1, x2, x3, xf⟩ := fourK hXV
        have HK : Hid (∀ w', Below V.heap.size V w' → ∃ a cap, w'.cell? ⟨X, 6, none⟩ = some (.bool false) ∧ w'.cell? ⟨X, 1, none⟩ = some (.slice a c.done.length cap)) := fun w' hb => by
          obtain ⟨a, cap, hv⟩ := h.o.form
          obtain ⟨⟨k0, k1, k2, k3⟩, ⟨k4, k5, k6⟩, kf⟩ := seven ((hrV.below hb).o.blk)
          exact ⟨a, cap, by rw [← hop]; exact k6, by rw [← hv]; exact k1⟩
        have hfi : (200 : Int) ≤ (c.done.length : Int) := by omega
        generalize c.done.length = n at HK hfi
        clear h hBV hXV hrV hV hck hop hfull e1 e2 hce
        go_enter Tryz.func63, Tryz.ntmps63
        go_wp2_with fail
        rw [← unhide HV]
        refine (unhide HCK).mono ?_
        rintro e w1 ⟨rfl, b1⟩
        obtain ⟨a, cap, k6, k1⟩ := (unhide HK) w1 b1
        go_wp2
        go_ret
        exact ⟨rfl, (unhide HT) _ b1⟩
      · have e1 : c.ask x = 0 := by unfold ACli.ask; rw [if_neg (by simp [hck]), if_neg (by simp [hop]), if_neg hfull]
        have e2 : c.asked x = ⟨c.me, c.done, x, true⟩ := by unfold ACli.asked; rw [e1, if_pos rfl]
        rw [e1, e2]
        rw [hck] at HCK
        have HK : Hid (∀ w', Below V.heap.size V w' → ∃ a cap, w'.heap[X]? = some (.cells #[.int .i64 c.me, .slice a c.done.length cap, .int .i64 c.call.kind, .string c.call.name, .string c.call.dst, .string c.call.text, .bool false] 120 (0, 0)) ∧ v = .slice a c.done.length cap) := fun w' hb => by
          obtain ⟨a, cap, hv⟩ := h.o.form
          have := (hrV.below hb).o.blk
          unfold kcells at this
          rw [hop, hv] at this
          exact ⟨a, cap, this, hv⟩
        have HXK : Hid (∀ w', Below V.heap.size V w' → w'.heap[w.heap.size]? = some (.cells #[.int .i64 x.kind, .string x.name, .string x.dst, .string x.text] 24 (0, 0))) := fun w' hb => (hb.block _ hlV).trans hXV
        obtain ⟨x0, x1, x2, x3, xf⟩ := fourK hXV
        have hXl : X < V.heap.size := hrV.o.lt
        have hfi : ¬ (200 : Int) ≤ (c.done.length : Int) := by omega
        clear hBV hXV hrV hV hck hop hfull e1 e2 hce
        have HH := hide h
        clear h
        obtain ⟨me, done, ⟨ck, ca, cb, ct⟩, op⟩ := c
        obtain ⟨xk, xa, xb, xt⟩ := x
        dsimp only at *
        obtain ⟨n, hn⟩ : ∃ n, done.length = n := ⟨_, rfl⟩
        rw [hn] at HK hfi
        go_enter Tryz.func63, Tryz.ntmps63
        go_wp2_with fail
        rw [← unhide HV]
        refine (unhide HCK).mono ?_
        rintro e w1 ⟨rfl, b1⟩
        clear x0 x1 x2 x3 xf
        have HX1 := hide ((unhide HXK) w1 b1)
        obtain ⟨a, cap, hk1, hv⟩ := (unhide HK) w1 b1
        subst hv
        obtain ⟨⟨k0, k1, k2, k3⟩, ⟨k4, k5, k6⟩, kf⟩ := seven hk1
        obtain ⟨x0, x1, x2, x3, xf⟩ := fourK (unhide HX1)
        go_wp2_with fail
        refine ((unhide HCL) _).mono ?_
        rintro e w2 ⟨rfl, b2⟩
        have b2' := b1.trans (b2.mono b1.size)
        clear k0 k1 k2 k3 k4 k5 k6 kf x0 x1 x2 x3 xf
        obtain ⟨a', cap', hk2, hv'⟩ := (unhide HK) w2 b2'
        cases hv'
        obtain ⟨⟨k0, k1, k2, k3⟩, ⟨k4, k5, k6⟩, kf⟩ := seven hk2
        obtain ⟨hs1, hs2⟩ := set5 (a2 := .int .i64 xk) (a3 := .string xa) (a4 := .string xb) (a5 := .string xt) (a6 := .bool true) hk2
        have hT : KTurn N w X (.slice a n cap) _ ⟨me, done, ⟨xk, xa, xb, xt⟩, true⟩ := ((((unhide HH).below ((unhide HBV).trans (b2'.mono (unhide HBV).size))).o).reblk hs1 hs2).before ((unhide HBV).trans (b2'.mono (unhide HBV).size))
        have HT := hide hT
        clear hs1 hs2 hT
        go_wp2
        go_ret
        exact ⟨rfl, unhide HT⟩
    · have e1 : c.ask x = 11 := by unfold ACli.ask; rw [if_neg (by simp [hck]), if_pos hop]
      have e2 : c.asked x = c := by unfold ACli.asked; rw [e1, if_neg (by omega)]
      rw [e1, e2]
      rw [hck] at HCK
      have HT : Hid (∀ w', Below V.heap.size V w' → KTurn N w X v w' c) := fun w' hb => OTurn.of_below h.o (hBV.trans (hb.mono hBV.size))
      obtain ⟨x0, x1, x2, x3, xf⟩ := fourK hXV
      have HK : Hid (∀ w', Below V.heap.size V w' → w'.cell? ⟨X, 6, none⟩ = some (.bool true)) := fun w' hb => by
        obtain ⟨⟨k0, k1, k2, k3⟩, ⟨k4, k5, k6⟩, kf⟩ := seven ((hrV.below hb).o.blk)
        rw [← hop]; exact k6
      clear h hBV hXV hrV hV hck hop e1 e2 hce
      go_enter Tryz.func63, Tryz.ntmps63
      go_wp2_with fail
      rw [← unhide HV]
      refine (unhide HCK).mono ?_
      rintro e w1 ⟨rfl, b1⟩
      have k6 := (unhide HK) w1 b1
      go_wp2
      go_ret
      exact ⟨rfl, (unhide HT) _ b1⟩
  · have e1 : c.ask x = checkI x := by unfold ACli.ask; rw [if_pos hck]
    have e2 : c.asked x = c := by unfold ACli.asked; rw [e1, if_neg hck]
    rw [e1, e2]
    have HT : Hid (∀ w', Below V.heap.size V w' → KTurn N w X v w' c) := fun w' hb => OTurn.of_below h.o (hBV.trans (hb.mono hBV.size))
    obtain ⟨x0, x1, x2, x3, xf⟩ := fourK hXV
    generalize checkI x = ci at *
    have hcb : (ci != 0) = true := by simpa using hck
    clear h hBV hXV hrV hV hce hck e1 e2
    go_enter Tryz.func63, Tryz.ntmps63
    go_wp2_with fail
    rw [← unhide HV]
    refine (unhide HCK).mono ?_
    rintro e w1 ⟨rfl, b1⟩
    go_wp2
    go_ret
    exact ⟨rfl, (unhide HT) _ b1⟩

end Go.Proofs.YtmbhbnoifimeaacGreat

namespace Go.Proofs.YtmbhbnoifimeaacGreat
open Go.RowKit
set_option linter.unusedSimpArgs false
set_option linter.unusedVariables false

def zeroP : Array Value := #[.bool false, .int .i64 0, .int .i64 0, .int .i64 0, .string ⟨#[]⟩, .string ⟨#[]⟩, .string ⟨#[]⟩, .int .i64 0, .string ⟨#[]⟩]

theorem set9 {w : World} {X : Nat} {t : TypeId} {y0 y1 y2 y3 y4 y5 y6 y7 y8 a0 a1 a2 a3 a4 a5 a6 a7 a8 : Value} (h : w.heap[X]? = some (.cells #[y0, y1, y2, y3, y4, y5, y6, y7, y8] t (0, 0))) :
    (((((((((w.setCell ⟨X, 0, none⟩ a0).setCell ⟨X, 1, none⟩ a1).setCell ⟨X, 2, none⟩ a2).setCell ⟨X, 3, none⟩ a3).setCell ⟨X, 4, none⟩ a4).setCell ⟨X, 5, none⟩ a5).setCell ⟨X, 6, none⟩ a6).setCell ⟨X, 7, none⟩ a7).setCell ⟨X, 8, none⟩ a8).heap[X]? = some (.cells #[a0, a1, a2, a3, a4, a5, a6, a7, a8] t (0, 0)) ∧
    Kept [X] w (((((((((w.setCell ⟨X, 0, none⟩ a0).setCell ⟨X, 1, none⟩ a1).setCell ⟨X, 2, none⟩ a2).setCell ⟨X, 3, none⟩ a3).setCell ⟨X, 4, none⟩ a4).setCell ⟨X, 5, none⟩ a5).setCell ⟨X, 6, none⟩ a6).setCell ⟨X, 7, none⟩ a7).setCell ⟨X, 8, none⟩ a8) := by
  have k : ∀ (W : World) (o : Nat) (u : Value), Kept [X] W (W.setCell ⟨X, o, none⟩ u) := fun W o u => kept_setCell [X] W X o u (by simp)
  have k0 := Kept.refl [X] w
  have h1 : (w.setCell ⟨X, 0, none⟩ a0).heap[X]? = some (.cells #[a0, y1, y2, y3, y4, y5, y6, y7, y8] t (0, 0)) := heap_setCell_same h a0
  have k1 := k0.trans (k w 0 a0) (fun x hx => .inl hx)
  generalize w.setCell ⟨X, 0, none⟩ a0 = w1 at *
  have h2 : (w1.setCell ⟨X, 1, none⟩ a1).heap[X]? = some (.cells #[a0, a1, y2, y3, y4, y5, y6, y7, y8] t (0, 0)) := heap_setCell_same h1 a1
  have k2 := k1.trans (k w1 1 a1) (fun x hx => .inl hx)
  generalize w1.setCell ⟨X, 1, none⟩ a1 = w2 at *
  have h3 : (w2.setCell ⟨X, 2, none⟩ a2).heap[X]? = some (.cells #[a0, a1, a2, y3, y4, y5, y6, y7, y8] t (0, 0)) := heap_setCell_same h2 a2
  have k3 := k2.trans (k w2 2 a2) (fun x hx => .inl hx)
  generalize w2.setCell ⟨X, 2, none⟩ a2 = w3 at *
  have h4 : (w3.setCell ⟨X, 3, none⟩ a3).heap[X]? = some (.cells #[a0, a1, a2, a3, y4, y5, y6, y7, y8] t (0, 0)) := heap_setCell_same h3 a3
  have k4 := k3.trans (k w3 3 a3) (fun x hx => .inl hx)
  generalize w3.setCell ⟨X, 3, none⟩ a3 = w4 at *
  have h5 : (w4.setCell ⟨X, 4, none⟩ a4).heap[X]? = some (.cells #[a0, a1, a2, a3, a4, y5, y6, y7, y8] t (0, 0)) := heap_setCell_same h4 a4
  have k5 := k4.trans (k w4 4 a4) (fun x hx => .inl hx)
  generalize w4.setCell ⟨X, 4, none⟩ a4 = w5 at *
  have h6 : (w5.setCell ⟨X, 5, none⟩ a5).heap[X]? = some (.cells #[a0, a1, a2, a3, a4, a5, y6, y7, y8] t (0, 0)) := heap_setCell_same h5 a5
  have k6 := k5.trans (k w5 5 a5) (fun x hx => .inl hx)
  generalize w5.setCell ⟨X, 5, none⟩ a5 = w6 at *
  have h7 : (w6.setCell ⟨X, 6, none⟩ a6).heap[X]? = some (.cells #[a0, a1, a2, a3, a4, a5, a6, y7, y8] t (0, 0)) := heap_setCell_same h6 a6
  have k7 := k6.trans (k w6 6 a6) (fun x hx => .inl hx)
  generalize w6.setCell ⟨X, 6, none⟩ a6 = w7 at *
  have h8 : (w7.setCell ⟨X, 7, none⟩ a7).heap[X]? = some (.cells #[a0, a1, a2, a3, a4, a5, a6, a7, y8] t (0, 0)) := heap_setCell_same h7 a7
  have k8 := k7.trans (k w7 7 a7) (fun x hx => .inl hx)
  generalize w7.setCell ⟨X, 7, none⟩ a7 = w8 at *
  have h9 : (w8.setCell ⟨X, 8, none⟩ a8).heap[X]? = some (.cells #[a0, a1, a2, a3, a4, a5, a6, a7, a8] t (0, 0)) := heap_setCell_same h8 a8
  have k9 := k8.trans (k w8 8 a8) (fun x hx => .inl hx)
  generalize w8.setCell ⟨X, 8, none⟩ a8 = w9 at *
  exact ⟨h9, k9⟩

set_option maxRecDepth 100000 in
set_option maxHeartbeats 4000000 in
theorem Send_none {N : Nat} {w : World} {X : Nat} {v : Value} {c : ACli} (h : KRep N w X v c) (hop : c.op = false) :
    Calls Tryz.prog 64 #[.pointer (some ⟨X, 0, none⟩)] w fun e w' => e = .returned (.tuple #[zeroPkt.val, .bool false]) ∧ Below w.heap.size w w' := by
  obtain ⟨V, hV⟩ : ∃ V, V = w.alloc (.cells zeroP 122) := ⟨_, rfl⟩
  have hBV : Below w.heap.size w V := by rw [hV]; exact (Below.refl _ _).alloc (Nat.le_refl _) _
  have hYV : V.heap[w.heap.size]? = some (.cells zeroP 122 (0, 0)) := by rw [hV]; exact heap_alloc_new _ _
  obtain ⟨⟨k0, k1, k2, k3⟩, ⟨k4, k5, k6⟩, kf⟩ := seven h.o.blk
  have hXl := h.o.lt
  rw [hop] at k6
  obtain ⟨V5, hV5⟩ : ∃ W, W = V.setRow w.heap.size zeroP := ⟨_, rfl⟩
  have hZ : V5.heap[w.heap.size]? = some (.cells zeroP 122 (0, 0)) := by rw [hV5]; exact setRow_heap V w.heap.size _ _ 122 (0, 0) hYV
  have HB5 : Hid (Below w.heap.size w V5) := by
    rw [hV5]
    exact ⟨hBV.os, hBV.tape, hBV.output, by simp [World.setRow]; exact hBV.size, fun k hk => (setRow_other V w.heap.size k _ (by omega)).trans (hBV.block k hk)⟩
  rw [hV] at hV5 hYV
  dsimp only [zeroP, zeroPkt, APkt.val] at *
  obtain ⟨⟨z0, z1, z2, z3⟩, ⟨z4, z5, z6, z7, z8⟩, _⟩ := nine hZ
  clear h hop hBV hZ hV k0 k1 k2 k3 k4 k5 kf
  go_enter Tryz.func64, Tryz.ntmps64
  go_wp2_with (refine wpList_store_row rfl 122 _ _ rfl w.heap.size #[.bool false, .int .i64 0, .int .i64 0, .int .i64 0, .string ⟨#[]⟩, .string ⟨#[]⟩, .string ⟨#[]⟩, .int .i64 0, .string ⟨#[]⟩] rfl rfl 122 _ hYV infoP rfl (by simp [Value.oneCell']) ?_)
  rw [← hV5]
  refine bodyPost_ret (v := .tuple #[.agg #[.bool false, .int .i64 0, .int .i64 0, .int .i64 0, .string ⟨#[]⟩, .string ⟨#[]⟩, .string ⟨#[]⟩, .int .i64 0, .string ⟨#[]⟩], .bool false]) (by simp [results, Tryz.results64, go_sem, z0, z1, z2, z3, z4, z5, z6, z7, z8]) rfl ⟨rfl, unhide HB5⟩

set_option maxRecDepth 100000 in
set_option maxHeartbeats 4000000 in
theorem Send_some {N : Nat} {w : World} {X : Nat} {v : Value} {c : ACli} (h : KRep N w X v c) (hop : c.op = true) :
    Calls Tryz.prog 64 #[.pointer (some ⟨X, 0, none⟩)] w fun e w' => e = .returned (.tuple #[(⟨false, c.me, c.no, c.call, 0, ⟨#[]⟩⟩ : APkt).val, .bool true]) ∧ Below w.heap.size w w' := by
  obtain ⟨V, hV⟩ : ∃ V, V = w.alloc (.cells zeroP 122) := ⟨_, rfl⟩
  have hBV : Below w.heap.size w V := by rw [hV]; exact (Below.refl _ _).alloc (Nat.le_refl _) _
  have hYV : V.heap[w.heap.size]? = some (.cells zeroP 122 (0, 0)) := by rw [hV]; exact heap_alloc_new _ _
  have hrV := h.below hBV
  have HNO := hide (number_any (hrV.below (below_drew V)))
  have HCL := hide (fun W => cloneCall_any c.call W h.ok.smallc)
  obtain ⟨⟨k0, k1, k2, k3⟩, ⟨k4, k5, k6⟩, kf⟩ := seven h.o.blk
  obtain ⟨⟨j0, j1, j2, j3⟩, ⟨j4, j5, j6⟩, jf⟩ := seven hrV.o.blk
  have hXl := h.o.lt
  have hXV : X < V.heap.size := hrV.o.lt
  have hzV : V.heap.size = w.heap.size + 1 := by rw [hV]; simp
  rw [hop] at k6
  have HYV := hide hYV
  have HBV := hide hBV
  have HV := hide hV
  have hXne : w.heap.size ≠ X := by omega
  have HF : Hid (∀ W, Below V.heap.size V W → W.cell? ⟨X, 0, none⟩ = some (.int .i64 c.me) ∧ W.cell? ⟨X, 2, none⟩ = some (.int .i64 c.call.kind) ∧ W.cell? ⟨X, 3, none⟩ = some (.string c.call.name) ∧ W.cell? ⟨X, 4, none⟩ = some (.string c.call.dst) ∧ W.cell? ⟨X, 5, none⟩ = some (.string c.call.text)) := fun W hW => by
    obtain ⟨⟨y0, y1, y2, y3⟩, ⟨y4, y5, y6⟩, yf⟩ := seven (hrV.below hW).o.blk
    exact ⟨y0, y2, y3, y4, y5⟩
  have HYF : Hid (∀ W, Below V.heap.size V W → W.heap[w.heap.size]? = some (.cells zeroP 122 (0, 0))) := fun W hW => (hW.block _ (by omega)).trans hYV
  generalize c.no = cno at HNO ⊢
  obtain ⟨me, done, ⟨ck, ca, cb, ct⟩, op⟩ := c
  dsimp only [zeroP, zeroPkt, APkt.val] at *
  clear h hBV hYV hrV hV hop k0 k1 k2 k3 k4 k5 kf j1 j6
  go_enter Tryz.func64, Tryz.ntmps64
  go_wp2_with fail
  rw [← unhide HV]
  clear k6
  go_region_held3 (fun W => W.cell? ⟨X, 0, none⟩ = some (.int .i64 me) ∧ W.cell? ⟨X, 2, none⟩ = some (.int .i64 ck) ∧ W.cell? ⟨X, 3, none⟩ = some (.string ca) ∧ W.cell? ⟨X, 4, none⟩ = some (.string cb) ∧ W.cell? ⟨X, 5, none⟩ = some (.string ct)) (first | (go_keep; done) | (simp [World.cell?_setCell_far, hXne, q0, q2, q3, q4, q5]; done)) (first
    | (go_at_call 85; refine (unhide HNO).mono ?_; rintro e w1 ⟨rfl, hw1⟩; obtain rfl := hw1.symm; clear hw1)
    | (go_at_call 84; refine ((unhide HCL) _).mono ?_; rintro e w2 ⟨rfl, b2⟩; have bV2 := (below_drew V).trans b2; obtain ⟨q0, q2, q3, q4, q5⟩ := (unhide HF) w2 bV2; have hY2 := (unhide HYF) w2 bV2; obtain ⟨⟨r0, r1, r2, r3⟩, ⟨r4, r5, r6, r7, r8⟩, rf⟩ := nine hY2))
  all_goals
    obtain ⟨hs1, hs2⟩ := set9 (a0 := .bool false) (a1 := .int .i64 me) (a2 := .int .i64 cno) (a3 := .int .i64 ck) (a4 := .string ca) (a5 := .string cb) (a6 := .string ct) (a7 := .int .i64 0) (a8 := .string ⟨#[]⟩) hY2
    have hB5 := ((unhide HBV).trans (bV2.mono (unhide HBV).size)).trans (hs2.below (by have := bV2.size; omega) (by simp))
    have HB5 := hide hB5
    obtain ⟨⟨z0, z1, z2, z3⟩, ⟨z4, z5, z6, z7, z8⟩, _⟩ := nine hs1
    clear hs1 hs2 hB5 hY2 r0 r1 r2 r3 r4 r5 r6 r7 r8 rf q0 q2 q3 q4 q5 j0 j2 j3 j4 j5 jf b2 bV2
    go_wp2
    refine bodyPost_ret (v := .tuple #[.agg #[.bool false, .int .i64 me, .int .i64 cno, .int .i64 ck, .string ca, .string cb, .string ct, .int .i64 0, .string ⟨#[]⟩], .bool true]) (by simp [results, Tryz.results64, go_sem, z0, z1, z2, z3, z4, z5, z6, z7, z8]) rfl ⟨rfl, unhide HB5⟩

theorem Send_any {N : Nat} {w : World} {X : Nat} {v : Value} {c : ACli} (h : KRep N w X v c) :
    Calls Tryz.prog 64 #[.pointer (some ⟨X, 0, none⟩)] w fun e w' => e = .returned (.tuple #[c.pkt.val, .bool c.op]) ∧ Below w.heap.size w w' := by
  unfold ACli.pkt
  cases hop : c.op
  · exact Send_none h hop
  · exact Send_some h hop

end Go.Proofs.YtmbhbnoifimeaacGreat

namespace Go.Proofs.YtmbhbnoifimeaacGreat
open Go.RowKit
set_option linter.unusedSimpArgs false
set_option linter.unusedVariables false

theorem set8K {w : World} {X : Nat} {t : TypeId} {y0 y1 y2 y3 y4 y5 y6 y7 a0 a1 a2 a3 a4 a5 a6 a7 : Value} (h : w.heap[X]? = some (.cells #[y0, y1, y2, y3, y4, y5, y6, y7] t (0, 0))) :
    ((((((((w.setCell ⟨X, 0, none⟩ a0).setCell ⟨X, 1, none⟩ a1).setCell ⟨X, 2, none⟩ a2).setCell ⟨X, 3, none⟩ a3).setCell ⟨X, 4, none⟩ a4).setCell ⟨X, 5, none⟩ a5).setCell ⟨X, 6, none⟩ a6).setCell ⟨X, 7, none⟩ a7).heap[X]? = some (.cells #[a0, a1, a2, a3, a4, a5, a6, a7] t (0, 0)) ∧
    Kept [X] w ((((((((w.setCell ⟨X, 0, none⟩ a0).setCell ⟨X, 1, none⟩ a1).setCell ⟨X, 2, none⟩ a2).setCell ⟨X, 3, none⟩ a3).setCell ⟨X, 4, none⟩ a4).setCell ⟨X, 5, none⟩ a5).setCell ⟨X, 6, none⟩ a6).setCell ⟨X, 7, none⟩ a7) := by
  have k : ∀ (W : World) (o : Nat) (u : Value), Kept [X] W (W.setCell ⟨X, o, none⟩ u) := fun W o u => kept_setCell [X] W X o u (by simp)
  have k0 := Kept.refl [X] w
  have h1 : (w.setCell ⟨X, 0, none⟩ a0).heap[X]? = some (.cells #[a0, y1, y2, y3, y4, y5, y6, y7] t (0, 0)) := heap_setCell_same h a0
  have k1 := k0.trans (k w 0 a0) (fun x hx => .inl hx)
  generalize w.setCell ⟨X, 0, none⟩ a0 = w1 at *
  have h2 : (w1.setCell ⟨X, 1, none⟩ a1).heap[X]? = some (.cells #[a0, a1, y2, y3, y4, y5, y6, y7] t (0, 0)) := heap_setCell_same h1 a1
  have k2 := k1.trans (k w1 1 a1) (fun x hx => .inl hx)
  generalize w1.setCell ⟨X, 1, none⟩ a1 = w2 at *
  have h3 : (w2.setCell ⟨X, 2, none⟩ a2).heap[X]? = some (.cells #[a0, a1, a2, y3, y4, y5, y6, y7] t (0, 0)) := heap_setCell_same h2 a2
  have k3 := k2.trans (k w2 2 a2) (fun x hx => .inl hx)
  generalize w2.setCell ⟨X, 2, none⟩ a2 = w3 at *
  have h4 : (w3.setCell ⟨X, 3, none⟩ a3).heap[X]? = some (.cells #[a0, a1, a2, a3, y4, y5, y6, y7] t (0, 0)) := heap_setCell_same h3 a3
  have k4 := k3.trans (k w3 3 a3) (fun x hx => .inl hx)
  generalize w3.setCell ⟨X, 3, none⟩ a3 = w4 at *
  have h5 : (w4.setCell ⟨X, 4, none⟩ a4).heap[X]? = some (.cells #[a0, a1, a2, a3, a4, y5, y6, y7] t (0, 0)) := heap_setCell_same h4 a4
  have k5 := k4.trans (k w4 4 a4) (fun x hx => .inl hx)
  generalize w4.setCell ⟨X, 4, none⟩ a4 = w5 at *
  have h6 : (w5.setCell ⟨X, 5, none⟩ a5).heap[X]? = some (.cells #[a0, a1, a2, a3, a4, a5, y6, y7] t (0, 0)) := heap_setCell_same h5 a5
  have k6 := k5.trans (k w5 5 a5) (fun x hx => .inl hx)
  generalize w5.setCell ⟨X, 5, none⟩ a5 = w6 at *
  have h7 : (w6.setCell ⟨X, 6, none⟩ a6).heap[X]? = some (.cells #[a0, a1, a2, a3, a4, a5, a6, y7] t (0, 0)) := heap_setCell_same h6 a6
  have k7 := k6.trans (k w6 6 a6) (fun x hx => .inl hx)
  generalize w6.setCell ⟨X, 6, none⟩ a6 = w7 at *
  have h8 : (w7.setCell ⟨X, 7, none⟩ a7).heap[X]? = some (.cells #[a0, a1, a2, a3, a4, a5, a6, a7] t (0, 0)) := heap_setCell_same h7 a7
  have k8 := k7.trans (k w7 7 a7) (fun x hx => .inl hx)
  generalize w7.setCell ⟨X, 7, none⟩ a7 = w8 at *
  exact ⟨h8, k8⟩

set_option maxRecDepth 100000 in
set_option maxHeartbeats 4000000 in
theorem Hear_none {N : Nat} {w : World} {X : Nat} {v : Value} {c : ACli} (h : KRep N w X v c) (p : APkt) (hp : c.hears p = false) :
    Calls Tryz.prog 111 #[.pointer (some ⟨X, 0, none⟩), p.val] w fun e w' => e = .returned (.bool false) ∧ KTurn N w X v w' c := by
  obtain ⟨V, hV⟩ : ∃ V, V = w.alloc (.cells (pArr p) 122) := ⟨_, rfl⟩
  have hBV : Below w.heap.size w V := by rw [hV]; exact (Below.refl _ _).alloc (Nat.le_refl _) _
  have HAW := hide (awaits_any (h.below hBV) p)
  rw [hp] at HAW
  have HT : Hid (∀ w', Below V.heap.size V w' → KTurn N w X v w' c) := fun w' hb => OTurn.of_below h.o (hBV.trans (hb.mono hBV.size))
  have HV := hide hV
  obtain ⟨y, pc, pn, ⟨pk, s1, s2, s3⟩, d, u⟩ := p
  dsimp only [APkt.val, pArr] at *
  clear h hBV hV hp
  go_enter Tryz.func111, Tryz.ntmps111
  go_wp2_with fail
  rw [← unhide HV]
  refine (unhide HAW).mono ?_
  rintro e w1 ⟨rfl, b1⟩
  go_wp2
  go_ret
  exact ⟨rfl, (unhide HT) _ b1⟩

set_option maxRecDepth 100000 in
set_option maxHeartbeats 4000000 in
theorem Hear_some {N : Nat} {w : World} {X : Nat} {v : Value} {c : ACli} (h : KRep N w X v c) (p : APkt) (hsm : SmallP p) (hp : c.hears p = true) :
    Calls Tryz.prog 111 #[.pointer (some ⟨X, 0, none⟩), p.val] w fun e w' => e = .returned (.bool true) ∧ KTurn N w X v w' (c.heard p) := by
  have e2 : c.heard p = ⟨c.me, c.done ++ [c.rcd p], zeroCall, false⟩ := by unfold ACli.heard; rw [if_pos hp]
  rw [e2]
  clear e2
  obtain ⟨V, hV⟩ : ∃ V, V = w.alloc (.cells (pArr p) 122) := ⟨_, rfl⟩
  have hBV : Below w.heap.size w V := by rw [hV]; exact (Below.refl _ _).alloc (Nat.le_refl _) _
  have hPV : V.heap[w.heap.size]? = some (.cells (pArr p) 122 (0, 0)) := by rw [hV]; exact heap_alloc_new _ _
  have hrV := h.below hBV
  have hXV : X < V.heap.size := hrV.o.lt
  have hzV : V.heap.size = w.heap.size + 1 := by rw [hV]; simp
  have HAW := hide (awaits_any hrV p)
  rw [hp] at HAW
  have HNO : Hid (∀ W, Below V.heap.size V W → Calls Tryz.prog 85 #[.pointer (some ⟨X, 0, none⟩)] W fun e w' => e = .returned (.int .i64 c.no) ∧ w' = W) := fun W hW => number_any (hrV.below hW)
  have HCA := hide (fun W => cloneAnswer_any p.code p.ans W hsm.2.2.2)
  have HF : Hid (∀ W, Below V.heap.size V W → W.cell? ⟨X, 0, none⟩ = some (.int .i64 c.me) ∧ W.cell? ⟨X, 2, none⟩ = some (.int .i64 c.call.kind) ∧ W.cell? ⟨X, 3, none⟩ = some (.string c.call.name) ∧ W.cell? ⟨X, 4, none⟩ = some (.string c.call.dst) ∧ W.cell? ⟨X, 5, none⟩ = some (.string c.call.text) ∧ W.cell? ⟨w.heap.size, 7, none⟩ = some (.int .i64 p.code) ∧ W.cell? ⟨w.heap.size, 8, none⟩ = some (.string p.ans)) := fun W hW => by
    obtain ⟨⟨y0, y1, y2, y3⟩, ⟨y4, y5, y6⟩, yf⟩ := seven (hrV.below hW).o.blk
    obtain ⟨⟨z0, z1, z2, z3⟩, ⟨z4, z5, z6, z7, z8⟩, _⟩ := nine ((hW.block _ (by omega)).trans hPV)
    exact ⟨y0, y2, y3, y4, y5, z7, z8⟩
  have HH := hide h
  have HOP : Hid (c.op = true) := by
    unfold ACli.hears at hp
    simp only [Bool.and_eq_true] at hp
    exact hp.1.1.1.1
  obtain ⟨i0, hi0, hz0, hz1', hz2⟩ := info_parts info36
  have HBV := hide hBV
  have HV := hide hV
  have hXl := h.o.lt
  unfold ACli.rcd
  generalize c.no = cno at HNO ⊢
  obtain ⟨me, done, ⟨ck, ca, cb, ct⟩, op⟩ := c
  obtain ⟨y, pc, pn, ⟨pk, s1, s2, s3⟩, d, u⟩ := p
  dsimp only [APkt.val, pArr] at *
  clear h hBV hV hp hrV hPV hsm
  go_enter Tryz.func111, Tryz.ntmps111
  go_wp2_with fail
  rw [← unhide HV]
  refine (unhide HAW).mono ?_
  rintro e w1 ⟨rfl, b1⟩
  go_wp2_with fail
  obtain ⟨x0, x2, x3, x4, x5, x7, x8⟩ := (unhide HF) w1 b1
  have hz1 := b1.size
  have hX1 : X < w1.heap.size := by omega
  have hP1 : w.heap.size < w1.heap.size := by omega
  have hne1 : w1.heap.size ≠ X := by omega
  have hne2 : w1.heap.size ≠ w.heap.size := by omega
  go_region_held3 (fun W => W.cell? ⟨X, 0, none⟩ = some (.int .i64 me) ∧ W.cell? ⟨X, 2, none⟩ = some (.int .i64 ck) ∧ W.cell? ⟨X, 3, none⟩ = some (.string ca) ∧ W.cell? ⟨X, 4, none⟩ = some (.string cb) ∧ W.cell? ⟨X, 5, none⟩ = some (.string ct) ∧ W.cell? ⟨w.heap.size, 7, none⟩ = some (.int .i64 d) ∧ W.cell? ⟨w.heap.size, 8, none⟩ = some (.string u)) (first | (go_keep; done) | (refine ⟨?_, ?_, ?_, ?_, ?_, ?_, ?_⟩ <;> (rw [al_old _ _ _ _ (by assumption)]; assumption)) | (simp [World.cell?_setCell_far, hne1, hne2, q0, q2, q3, q4, q5, q7, q8]; done)) (first
    | (go_at_call 85; refine ((unhide HNO) _ (by first | exact b1.trans ((below_drew w1).mono hz1) | exact b1.trans ((below_drew_alloc w1 _).mono hz1) | exact b1.trans ((below_alloc_drew w1 _).mono hz1))).mono ?_; rintro e w2 ⟨rfl, hw2⟩; obtain rfl := hw2.symm; clear hw2)
    | (go_at_call 122; refine ((unhide HCA) _).mono ?_; rintro e w3 ⟨rfl, b3⟩; have bV3 : Below V.heap.size V w3 := (by first | exact b1.trans (((below_drew w1).trans b3).mono hz1) | exact b1.trans (((below_drew_alloc w1 _).trans (b3.mono (by simp))).mono hz1) | exact b1.trans (((below_alloc_drew w1 _).trans (b3.mono (by simp))).mono hz1)); obtain ⟨q0, q2, q3, q4, q5, q7, q8⟩ := (unhide HF) w3 bV3; try (have hR3 : w3.heap[w1.heap.size]? = some (.cells #[.int .i64 0, .int .i64 0, .int .i64 0, .string ⟨#[]⟩, .string ⟨#[]⟩, .string ⟨#[]⟩, .int .i64 0, .string ⟨#[]⟩] 36 (0, 0)) := (b3.block w1.heap.size (by simp)).trans (heap_alloc_new w1 _); obtain ⟨⟨m0, m1, m2, m3⟩, ⟨m4, m5, m6, m7⟩, mf⟩ := eightK hR3)))
  all_goals have hz3 := bV3.size
  all_goals first
    | (obtain ⟨W, hW⟩ : ∃ W, W = w3.alloc (.cells #[.int .i64 me, .int .i64 cno, .int .i64 ck, .string ca, .string cb, .string ct, .int .i64 d, .string u] 36) := ⟨_, rfl⟩
       obtain ⟨Bk, hBk⟩ : ∃ B, B = w3.heap.size := ⟨_, rfl⟩
       have hWB : W.heap[Bk]? = some (.cells #[.int .i64 me, .int .i64 cno, .int .i64 ck, .string ca, .string cb, .string ct, .int .i64 d, .string u] 36 (0, 0)) := by rw [hW, hBk]; exact heap_alloc_new _ _
       have hBW : Below V.heap.size V W := by rw [hW]; exact bV3.alloc bV3.size _
       have hBkV : V.heap.size ≤ Bk := by omega
       rw [← hW, ← hBk]
       clear hW hBk)
    | (obtain ⟨hs1, hs2⟩ := set8K (a0 := .int .i64 me) (a1 := .int .i64 cno) (a2 := .int .i64 ck) (a3 := .string ca) (a4 := .string cb) (a5 := .string ct) (a6 := .int .i64 d) (a7 := .string u) hR3
       obtain ⟨W, hW⟩ : ∃ W, W = ((((((((w3.setCell ⟨w1.heap.size, 0, none⟩ (.int .i64 me)).setCell ⟨w1.heap.size, 1, none⟩ (.int .i64 cno)).setCell ⟨w1.heap.size, 2, none⟩ (.int .i64 ck)).setCell ⟨w1.heap.size, 3, none⟩ (.string ca)).setCell ⟨w1.heap.size, 4, none⟩ (.string cb)).setCell ⟨w1.heap.size, 5, none⟩ (.string ct)).setCell ⟨w1.heap.size, 6, none⟩ (.int .i64 d)).setCell ⟨w1.heap.size, 7, none⟩ (.string u)) := ⟨_, rfl⟩
       obtain ⟨Bk, hBk⟩ : ∃ B, B = w1.heap.size := ⟨_, rfl⟩
       rw [← hW] at hs1 hs2
       have hWB : W.heap[Bk]? = some (.cells #[.int .i64 me, .int .i64 cno, .int .i64 ck, .string ca, .string cb, .string ct, .int .i64 d, .string u] 36 (0, 0)) := by rw [hBk]; exact hs1
       have hBW : Below V.heap.size V W := bV3.trans (hs2.below (by omega) (by simp; omega))
       have hBkV : V.heap.size ≤ Bk := by omega
       rw [← hW, ← hBk]
       clear hW hBk hs1 hs2)
  all_goals
    have hbwW : Below w.heap.size w W := (unhide HBV).trans (hBW.mono (unhide HBV).size)
    have hrW := (unhide HH).below hbwW
    obtain ⟨a, cap, hv⟩ := hrW.o.form
    subst hv
    obtain ⟨k, hk⟩ : ∃ k, done.length = k := ⟨_, rfl⟩
    rw [hk] at hrW
    have nB := hrW.o.nd
    have HRW := hide hrW
    have HbwW := hide hbwW
    have hk200 : k < 200 := by rw [← hk]; exact hrW.ok.room (unhide HOP)
    have HOR : Hid (∀ wx, Below W.heap.size W wx → wx.ownsRow N 36 8 (.slice a k cap) k (done.flatMap rcells)) := fun wx hb => by have := ((unhide HRW).below (w' := wx) hb).o.row; rw [hk] at this; exact this
    have HFX : Hid (∀ wx, Below W.heap.size W wx → Can wx X 1 (.slice a k cap)) := fun wx hb => by
      obtain ⟨⟨y0, y1, y2, y3⟩, ⟨y4, y5, y6⟩, yf⟩ := seven ((unhide HRW).below (w' := wx) hb).o.blk
      exact ⟨y1, yf 1⟩
    have hBWl : Bk < W.heap.size := (Array.getElem?_eq_some_iff.1 hWB).1
    have hXW : X < W.heap.size := hrW.o.lt
    have HNN : Hid (N ≤ W.heap.size) := hrW.o.size
    obtain ⟨⟨m0, m1, m2, m3⟩, ⟨m4, m5, m6, m7⟩, mf⟩ := eightK hWB
    have hc1 := ((unhide HFX) W (Below.refl _ _)).1
    have hf1 := ((unhide HFX) W (Below.refl _ _)).2
    have HK := hide hk
    clear hrW hbwW hk x0 x2 x3 x4 x5 x7 x8 q0 q2 q3 q4 q5 q7 q8 b1 hne1 hne2 hX1 hP1 hz1
    go_wp2_with fail
    go_region_law (first
      | (refine step_append_lies _ (by rfl) _ _ _ (by rfl) N 36 i0 _ 8 96 Tryz.underlying29 hi0 hz0 hz1' hz2 rfl (by omega) (.slice a k cap) k (done.flatMap rcells) (by rfl) (HOR.out _ (below_alloc_drew W _))
          ⟨W.heap.size, 0, none⟩ 1 1 [.int .i64 me, .int .i64 cno, .int .i64 ck, .string ca, .string cb, .string ct, .int .i64 d, .string u] (by rfl) (by rfl) (World.news_of_block (cs := #[.int .i64 me, .int .i64 cno, .int .i64 ck, .string ca, .string cb, .string ct, .int .i64 d, .string u]) (t := 36) (fr := (0, 0)) (alloc_drew_new W _)) (by simp [Value.oneCell'])
          (by omega) (by unfold maxLen; omega) (by omega) (by have h4 := unhide HNN; simp; omega) (W.heap.size + 1) (by simp) ?_; intro g cap' w5 hown2 hgrow hat hlt; have hc2 := (HFX.out _ (below_alloc_drew W _)).grown hgrow nB; have hc3 := hc2.1; have hf3 := hc2.2))
    all_goals
      have hbA : Below W.heap.size W (W.alloc (.cells #[.int .i64 me, .int .i64 cno, .int .i64 ck, .string ca, .string cb, .string ct, .int .i64 d, .string u] 36)).drew := below_alloc_drew W _
      have hrA := (unhide HRW).below hbA
      have hXA : w5.heap[X]? = some (.cells #[.int .i64 me, .slice a k cap, .int .i64 ck, .string ca, .string cb, .string ct, .bool op] 120 (0, 0)) := by
        rw [hgrow.block X hrA.o.lt (fun e => nB e.symm)]
        have := hrA.o.blk
        unfold kcells at this
        exact this
      have hX6 : (w5.setCell ⟨X, 1, none⟩ (.slice (some ⟨g, 0, none⟩) (k + 1) cap')).heap[X]? = some (.cells #[.int .i64 me, .slice (some ⟨g, 0, none⟩) (k + 1) cap', .int .i64 ck, .string ca, .string cb, .string ct, .bool op] 120 (0, 0)) := heap_setCell_same hXA _
      have hk6 := kept_setCell [X] w5 X 1 (.slice (some ⟨g, 0, none⟩) (k + 1) cap') (by simp)
      obtain ⟨W6, hW6⟩ : ∃ W6, W6 = w5.setCell ⟨X, 1, none⟩ (.slice (some ⟨g, 0, none⟩) (k + 1) cap') := ⟨_, rfl⟩
      rw [← hW6] at hX6 hk6
      obtain ⟨hs1, hs2⟩ := set5 (a2 := .int .i64 0) (a3 := .string ⟨#[]⟩) (a4 := .string ⟨#[]⟩) (a5 := .string ⟨#[]⟩) (a6 := .bool false) hX6
      have hT : KTurn N _ X (.slice a k cap) _ ⟨me, done ++ [⟨me, cno, ⟨ck, ca, cb, ct⟩, d, u⟩], zeroCall, false⟩ := hrA.o.push (f' := kcells ⟨me, done ++ [⟨me, cno, ⟨ck, ca, cb, ct⟩, d, u⟩], zeroCall, false⟩) (n := k + 1) (r := ⟨me, cno, ⟨ck, ca, cb, ct⟩, d, u⟩) hgrow (by rw [unhide HK]) hown2 (by simpa using hat) (hk6.trans hs2 (fun x hx => .inl hx)) hs1
      have hT2 := OTurn.before ((unhide HbwW).trans (hbA.mono (unhide HbwW).size)) hT
      have HT := hide hT2
      obtain ⟨⟨y0, y1, y2, y3⟩, ⟨y4, y5, y6⟩, yf⟩ := seven hX6
      rw [← hW6]
      clear hT hT2 hs1 hs2 hX6 hk6 hW6 hXA hrA hbA hown2 hgrow hat hlt hc2 hc3 hf3 hc1 hf1 m0 m1 m2 m3 m4 m5 m6 m7 mf
      go_wp2
      go_ret
      exact ⟨rfl, by rw [unhide HK]; exact unhide HT⟩

theorem Hear_any {N : Nat} {w : World} {X : Nat} {v : Value} {c : ACli} (h : KRep N w X v c) (p : APkt) (hsm : SmallP p) :
    Calls Tryz.prog 111 #[.pointer (some ⟨X, 0, none⟩), p.val] w fun e w' => e = .returned (.bool (c.hears p)) ∧ KTurn N w X v w' (c.heard p) := by
  cases hp : c.hears p
  · have e : c.heard p = c := by unfold ACli.heard; rw [hp]; rfl
    rw [e]
    exact Hear_none h p hp
  · exact Hear_some h p hsm hp

end Go.Proofs.YtmbhbnoifimeaacGreat

namespace Go.Proofs.YtmbhbnoifimeaacGreat
open Go.RowKit
set_option linter.unusedSimpArgs false
set_option linter.unusedVariables false

/-- Where a world lies: its store, its clients, its post. -/
structure WOwn where
  S : Nat
  B : Nat
  own : List Nat
  lv : Value
  X : Nat → Nat
  v : Nat → Value
  P : Nat
  pv : Value
/-- What is a part's own: 3 the store's, 4 the post's, others a client's. -/
def WOwn.part (o : WOwn) (i : Nat) : List Nat := if i = 3 then sown o.S o.own o.lv else if i = 4 then powns o.P o.pv else powns (o.X i) (o.v i)
def WOwn.all (o : WOwn) (W : Nat) : List Nat := W :: (o.part 0 ++ o.part 1 ++ o.part 2 ++ o.part 3 ++ o.part 4)
theorem WOwn.mem_all {o : WOwn} {W b : Nat} : b ∈ o.all W ↔ b = W ∨ ∃ i, i < 5 ∧ b ∈ o.part i := by
  unfold WOwn.all
  simp only [List.mem_cons, List.mem_append]
  constructor
  · rintro (h | ((((h | h) | h) | h) | h))
    · exact .inl h
    · exact .inr ⟨0, by omega, h⟩
    · exact .inr ⟨1, by omega, h⟩
    · exact .inr ⟨2, by omega, h⟩
    · exact .inr ⟨3, by omega, h⟩
    · exact .inr ⟨4, by omega, h⟩
  · rintro (h | ⟨i, hi, h⟩)
    · exact .inl h
    · match i, hi with
      | 0, _ => exact .inr (.inl (.inl (.inl (.inl h))))
      | 1, _ => exact .inr (.inl (.inl (.inl (.inr h))))
      | 2, _ => exact .inr (.inl (.inl (.inr h)))
      | 3, _ => exact .inr (.inl (.inr h))
      | 4, _ => exact .inr (.inr h)
def wcells (o : WOwn) : Array Value := #[.pointer (some ⟨o.S, 0, none⟩), .pointer (some ⟨o.X 0, 0, none⟩), .pointer (some ⟨o.X 1, 0, none⟩), .pointer (some ⟨o.X 2, 0, none⟩), .pointer (some ⟨o.P, 0, none⟩)]
/-- A world at block W. -/
structure WRep (N : Nat) (w : World) (W : Nat) (o : WOwn) (A : AW) : Prop where
  new : N ≤ W
  blk : w.heap[W]? = some (.cells (wcells o) 62 (0, 0))
  s : SRep N w o.S o.B o.own o.lv A.log
  c : ∀ n, n < 3 → KRep N w (o.X n) (o.v n) (A.cl n)
  p : PRep 118 N w o.P o.pv A.ms
  dj : ∀ i j, i < 5 → j < 5 → i ≠ j → ∀ b, b ∈ o.part i → b ∉ o.part j
  nW : ∀ i, i < 5 → W ∉ o.part i
  ss : (logB A.log).length ≤ 2000
theorem next_of {N : Nat} {w w' : World} {o o' : List Nat} (hk : Kept o w w') (hN : N ≤ w.heap.size) (hg : ∀ k, k ∈ o → N ≤ k) (hn : ∀ k, k ∈ o' → k ∈ o ∨ w.heap.size ≤ k) : Next N w w' o o' :=
  ⟨hk.below hN hg, fun b hb h1 => ⟨fun hm => by rcases hn b hm with h2 | h2; exact h1 h2; omega, hk.block b hb h1⟩⟩
section
variable {N : Nat} {w w' w1 w2 : World} {W : Nat} {o o' : WOwn} {A A' B : AW}
theorem WRep.lt (h : WRep N w W o A) : W < w.heap.size := (Array.getElem?_eq_some_iff.1 h.blk).1
theorem WRep.size (h : WRep N w W o A) : N ≤ w.heap.size := by have := h.lt; have := h.new; omega
theorem WRep.ge (h : WRep N w W o A) {i : Nat} (hi : i < 5) : ∀ k, k ∈ o.part i → N ≤ k ∧ k < w.heap.size := fun k hk => by
  match i, hi with
  | 0, _ => exact (h.c 0 (by omega)).o.ge k hk
  | 1, _ => exact (h.c 1 (by omega)).o.ge k hk
  | 2, _ => exact (h.c 2 (by omega)).o.ge k hk
  | 3, _ => exact sown_ge h.s k hk
  | 4, _ => exact h.p.ge k hk
theorem WRep.all_ge (h : WRep N w W o A) : ∀ k, k ∈ o.all W → N ≤ k ∧ k < w.heap.size := fun k hk => by
  rcases WOwn.mem_all.1 hk with rfl | ⟨i, hi, hk⟩
  · exact ⟨h.new, h.lt⟩
  · exact h.ge hi k hk
theorem WRep.below (h : WRep N w W o A) (hb : Below w.heap.size w w') : WRep N w' W o A :=
  ⟨h.new, (hb.block W h.lt).trans h.blk, h.s.below hb, fun n hn => (h.c n hn).below hb, h.p.below hb, h.dj, h.nW, h.ss⟩
theorem part_client (o : WOwn) {n : Nat} (hn : n < 3) : o.part n = powns (o.X n) (o.v n) := by unfold WOwn.part; rw [if_neg (by omega), if_neg (by omega)]
theorem KRep.kept {X : Nat} {v : Value} {c : ACli} {ow : List Nat} (h : KRep N w X v c) (hk : Kept ow w w') (hd : ∀ k, k ∈ powns X v → k ∉ ow) : KRep N w' X v c := ⟨h.o.kept hk hd, h.ok⟩
theorem WRep.kept {ow : List Nat} (h : WRep N w W o A) (hk : Kept ow w w') (hd : ∀ k, k ∈ o.all W → k ∉ ow) : WRep N w' W o A := by
  have hp : ∀ i, i < 5 → ∀ k, k ∈ o.part i → k ∉ ow := fun i hi k hm => hd k (WOwn.mem_all.2 (.inr ⟨i, hi, hm⟩))
  exact ⟨h.new, (hk.block W h.lt (hd W (WOwn.mem_all.2 (.inl rfl)))).trans h.blk, h.s.kept hk (hp 3 (by omega)), fun n hn => (h.c n hn).kept hk (fun k hm => hp n (by omega) k (by rw [part_client o hn]; exact hm)), h.p.kept hk (hp 4 (by omega)), h.dj, h.nW, h.ss⟩

/-- From w to w' the world has come to A'. -/
def WTurn (N : Nat) (w : World) (W : Nat) (o : WOwn) (w' : World) (A' : AW) : Prop := ∃ o', WRep N w' W o' A' ∧ Next N w w' (o.all W) (o'.all W)
theorem WTurn.of_below (h : WRep N w W o A) (hb : Below w.heap.size w w') : WTurn N w W o w' A := ⟨o, h.below hb, Next.of_below _ hb h.size⟩
theorem WTurn.before (hb : Below w.heap.size w w1) (hN : N ≤ w.heap.size) (h : WTurn N w1 W o w' A') : WTurn N w W o w' A' := by
  obtain ⟨o', h1, h2⟩ := h
  exact ⟨o', h1, (Next.of_below _ hb hN).trans h2⟩
/-- One part has turned. -/
theorem WRep.turn (h : WRep N w W o A) {i : Nat} (hi : i < 5) (hN : Next N w w' (o.part i) (o'.part i)) (hoff : ∀ j, j < 5 → j ≠ i → o'.part j = o.part j) (hcl : wcells o' = wcells o)
    (hs : SRep N w' o'.S o'.B o'.own o'.lv A'.log) (hc : ∀ n, n < 3 → KRep N w' (o'.X n) (o'.v n) (A'.cl n)) (hp : PRep 118 N w' o'.P o'.pv A'.ms) (hss : (logB A'.log).length ≤ 2000) : WTurn N w W o w' A' := by
  have hst : ∀ b, b < w.heap.size → b ∉ o.part i → b ∉ o'.part i := fun b h1 h2 => (hN.keep b h1 h2).1
  refine ⟨o', ⟨h.new, (hN.keep W h.lt (h.nW i hi)).2.trans (by rw [hcl]; exact h.blk), hs, hc, hp, fun a b ha hb hab x hx hy => ?_, fun j hj hm => ?_, hss⟩, hN.below, fun b hb hn => ⟨fun hm => ?_, ?_⟩⟩
  · by_cases ea : a = i
    · have eb : b ≠ i := fun e => hab (ea.trans e.symm)
      rw [hoff b hb eb] at hy
      have hlt := (h.ge hb x hy).2
      rw [ea] at hx
      exact hst x hlt (fun hm => h.dj i b hi hb (fun e => eb e.symm) x hm hy) hx
    · rw [hoff a ha ea] at hx
      by_cases eb : b = i
      · rw [eb] at hy
        exact hst x (h.ge ha x hx).2 (fun hm => h.dj a i ha hi ea x hx hm) hy
      · rw [hoff b hb eb] at hy
        exact h.dj a b ha hb hab x hx hy
  · by_cases e : j = i
    · rw [e] at hm; exact hst W h.lt (h.nW i hi) hm
    · rw [hoff j hj e] at hm; exact h.nW j hj hm
  · rcases WOwn.mem_all.1 hm with rfl | ⟨j, hj, hm⟩
    · exact hn (WOwn.mem_all.2 (.inl rfl))
    · by_cases e : j = i
      · rw [e] at hm
        exact hst b hb (fun hm' => hn (WOwn.mem_all.2 (.inr ⟨i, hi, hm'⟩))) hm
      · rw [hoff j hj e] at hm
        exact hn (WOwn.mem_all.2 (.inr ⟨j, hj, hm⟩))
  · exact (hN.keep b hb (fun hm' => hn (WOwn.mem_all.2 (.inr ⟨i, hi, hm'⟩)))).2
theorem WRep.rest (h : WRep N w W o A) {i : Nat} (hi : i < 5) {p' : List Nat} (hN : Next N w w' (o.part i) p') : (i ≠ 3 → SRep N w' o.S o.B o.own o.lv A.log) ∧ (∀ n, n < 3 → n ≠ i → KRep N w' (o.X n) (o.v n) (A.cl n)) ∧ (i ≠ 4 → PRep 118 N w' o.P o.pv A.ms) := by
  refine ⟨fun e => h.s.kept hN.kept (h.dj 3 i (by omega) hi (fun h => e h.symm)), fun n hn e => (h.c n hn).kept hN.kept (fun k hm => h.dj n i (by omega) hi e k (by rw [part_client o hn]; exact hm)), fun e => h.p.kept hN.kept (h.dj 4 i (by omega) hi (fun h => e h.symm))⟩
theorem WRep.turnS (h : WRep N w W o A) {L' : List ARec} (hT : STurned N w o.S o.own o.lv w' L') (hs : (logB L').length ≤ 2000) : WTurn N w W o w' ⟨L', A.cl, A.ms⟩ := by
  obtain ⟨B', own', lv', hr, hn⟩ := hT
  obtain ⟨_, r2, r3⟩ := h.rest (i := 3) (by omega) hn
  exact h.turn (o' := ⟨o.S, B', own', lv', o.X, o.v, o.P, o.pv⟩) (i := 3) (by omega) hn (fun j hj e => by unfold WOwn.part; rw [if_neg e, if_neg e]) rfl hr (fun n hn => r2 n hn (by omega)) (r3 (by omega)) hs
theorem WRep.turnP (h : WRep N w W o A) {ms' : List APkt} (hT : PTurn 118 N w o.P o.pv w' ms') : WTurn N w W o w' ⟨A.log, A.cl, ms'⟩ := by
  obtain ⟨pv', hr, hk, hn⟩ := hT
  have hn' : Next N w w' (o.part 4) (powns o.P pv') := next_of hk h.size (fun k hk => (h.ge (i := 4) (by omega) k hk).1) hn
  obtain ⟨r1, r2, _⟩ := h.rest (i := 4) (by omega) hn'
  exact h.turn (o' := ⟨o.S, o.B, o.own, o.lv, o.X, o.v, o.P, pv'⟩) (i := 4) (by omega) hn' (fun j hj e => by unfold WOwn.part; rw [if_neg e, if_neg e]) rfl (r1 (by omega)) (fun n hn => r2 n hn (by omega)) hr h.ss
def updV (f : Nat → Value) (n : Nat) (c : Value) : Nat → Value := fun k => if k = n then c else f k
theorem WRep.turnC (h : WRep N w W o A) {n : Nat} (hn : n < 3) {c' : ACli} (hT : KTurn N w (o.X n) (o.v n) w' c') (hc : COk c') : WTurn N w W o w' ⟨A.log, upd A.cl n c', A.ms⟩ := by
  obtain ⟨v', hr, hk, hg⟩ := hT
  have hp := part_client o hn
  have e1 : updV o.v n v' n = v' := by simp [updV]
  have e2 : ∀ m, m ≠ n → updV o.v n v' m = o.v m := fun m hm => by simp [updV, hm]
  have hn' : Next N w w' (o.part n) (powns (o.X n) v') := by rw [hp]; exact next_of hk h.size (fun k hk => (h.ge (i := n) (by omega) k (by rw [hp]; exact hk)).1) hg
  obtain ⟨r1, r2, r3⟩ := h.rest (i := n) (by omega) hn'
  refine h.turn (o' := ⟨o.S, o.B, o.own, o.lv, o.X, updV o.v n v', o.P, o.pv⟩) (i := n) (by omega) ?_ (fun j hj e => ?_) rfl (r1 (by omega)) (fun m hm => ?_) (r3 (by omega)) h.ss
  · rw [part_client (⟨o.S, o.B, o.own, o.lv, o.X, updV o.v n v', o.P, o.pv⟩ : WOwn) hn]
    show Next N w w' (o.part n) (powns (o.X n) (updV o.v n v' n))
    rw [e1]; exact hn'
  · unfold WOwn.part; dsimp only; rw [e2 j e]
  · dsimp only
    by_cases e : m = n
    · subst e; rw [e1, upd_at]; exact ⟨hr, hc⟩
    · rw [e2 m e, upd_off _ _ e]; exact r2 m hm e
/-- The world's cells. -/
theorem WRep.cells (h : WRep N w W o A) : (w.cell? ⟨W, 0, none⟩ = some (.pointer (some ⟨o.S, 0, none⟩)) ∧ w.cell? ⟨W, 1, none⟩ = some (.pointer (some ⟨o.X 0, 0, none⟩)) ∧ w.cell? ⟨W, 2, none⟩ = some (.pointer (some ⟨o.X 1, 0, none⟩)) ∧ w.cell? ⟨W, 3, none⟩ = some (.pointer (some ⟨o.X 2, 0, none⟩)) ∧ w.cell? ⟨W, 4, none⟩ = some (.pointer (some ⟨o.P, 0, none⟩))) ∧ ∀ n, n < 3 → w.cell? ⟨W, 1 + n, none⟩ = some (.pointer (some ⟨o.X n, 0, none⟩)) := by
  have hb := h.blk
  unfold wcells at hb
  have k : ∀ j, w.cell? ⟨W, j, none⟩ = _ := fun j => cell_of_row w W j _ _ _ hb
  refine ⟨⟨k 0, k 1, k 2, k 3, k 4⟩, fun n hn => ?_⟩
  match n, hn with
  | 0, _ => exact k 1
  | 1, _ => exact k 2
  | 2, _ => exact k 3
end

end Go.Proofs.YtmbhbnoifimeaacGreat

namespace Go.Proofs.YtmbhbnoifimeaacGreat
open Go.RowKit
set_option linter.unusedSimpArgs false
set_option linter.unusedVariables false

set_option maxRecDepth 100000 in
set_option maxHeartbeats 2000000 in
theorem Client_some {N : Nat} {w : World} {W : Nat} {o : WOwn} {A : AW} (h : WRep N w W o A) (n : Nat) (hn : n < 3) :
    Calls Tryz.prog 62 #[.pointer (some ⟨W, 0, none⟩), .int .i64 (n : Int)] w fun e w' => e = .returned (.pointer (some ⟨o.X n, 0, none⟩)) ∧ w' = w := by
  have hc := h.cells.2 n hn
  have h0 : ¬ (n : Int) < 0 := by omega
  have h3 : ¬ (3 : Int) ≤ n := by omega
  have h4 : (n : Int) < 3 := by omega
  generalize o.X n = X at hc ⊢
  clear h hn
  go_enter Tryz.func62, Tryz.ntmps62
  go_wp2
  go_ret
  exact ⟨rfl, rfl⟩
set_option maxHeartbeats 2000000 in
theorem Client_none (W : Nat) (w : World) (n : Int) (hn : n < 0 ∨ 2 < n) :
    Calls Tryz.prog 62 #[.pointer (some ⟨W, 0, none⟩), .int .i64 n] w fun e w' => e = .returned (.pointer none) ∧ w' = w := by
  by_cases h0 : n < 0
  · clear hn
    go_enter Tryz.func62, Tryz.ntmps62
    go_wp2
    go_ret
    exact ⟨rfl, rfl⟩
  · have h3 : (3 : Int) ≤ n := by omega
    clear hn
    go_enter Tryz.func62, Tryz.ntmps62
    go_wp2
    go_ret
    exact ⟨rfl, rfl⟩
set_option maxRecDepth 100000 in
set_option maxHeartbeats 4000000 in
theorem have_any {N : Nat} {w : World} {W : Nat} {o : WOwn} {A : AW} (h : WRep N w W o A) (n : Int) (x : ACall) (hx : SmallC x) :
    Calls Tryz.prog 39 #[.pointer (some ⟨W, 0, none⟩), .int .i64 n, .agg #[.int .i64 x.kind, .string x.name, .string x.dst, .string x.text]] w fun e w' => e = .returned (.int .i64 (A.have n x).1) ∧ WTurn N w W o w' (A.have n x).2 := by
  obtain ⟨V, hV⟩ : ∃ V, V = w.alloc (.cells #[.int .i64 x.kind, .string x.name, .string x.dst, .string x.text] 24) := ⟨_, rfl⟩
  have hBV : Below w.heap.size w V := by rw [hV]; exact (Below.refl _ _).alloc (Nat.le_refl _) _
  have hXV : V.heap[w.heap.size]? = some (.cells #[.int .i64 x.kind, .string x.name, .string x.dst, .string x.text] 24 (0, 0)) := by rw [hV]; exact heap_alloc_new _ _
  have hrV := h.below hBV
  have HV := hide hV
  obtain ⟨x0, x1, x2, x3, xf⟩ := fourK hXV
  by_cases hn : n < 0 ∨ 2 < n
  · have e1 : A.have n x = (9, A) := by unfold AW.have; rw [if_pos hn]
    rw [e1]
    have HC := hide (fun w => Client_none W w n hn)
    have HT := hide ((WTurn.of_below hrV (Below.refl _ _)).before hBV h.size)
    clear h e1 hn hV hBV hXV hrV
    go_enter Tryz.func39, Tryz.ntmps39
    go_wp2_with fail
    rw [← unhide HV]
    refine ((unhide HC) _).mono ?_
    rintro e w1 ⟨rfl, hw⟩
    subst hw
    go_wp2
    go_ret
    exact ⟨rfl, unhide HT⟩
  · obtain ⟨m, rfl⟩ : ∃ m : Nat, n = (m : Int) := ⟨n.toNat, by omega⟩
    have hm : m < 3 := by omega
    have e1 : A.have (m : Int) x = ((A.cl m).ask x, ⟨A.log, upd A.cl m ((A.cl m).asked x), A.ms⟩) := by unfold AW.have; rw [if_neg hn, Int.toNat_natCast]
    rw [e1]
    have HC := hide (Client_some hrV m hm)
    have HK := hide (Call_any (hrV.c m hm) x hx)
    have HT := hide (fun w' (hT : KTurn N V (o.X m) (o.v m) w' ((A.cl m).asked x)) => (hrV.turnC hm hT ((h.c m hm).ok.asked hx)).before hBV h.size)
    generalize o.X m = X at HC HK HT
    generalize o.v m = v at HK HT
    generalize (A.cl m).ask x = r at HK ⊢
    clear h e1 hn hm hV hBV hXV hrV
    go_enter Tryz.func39, Tryz.ntmps39
    go_wp2_with fail
    rw [← unhide HV]
    refine (unhide HC).mono ?_
    rintro e w1 ⟨rfl, hw⟩
    subst hw
    go_wp2_with fail
    refine (unhide HK).mono ?_
    rintro e w2 ⟨rfl, hT⟩
    have HT2 := hide ((unhide HT) _ hT)
    clear hT
    go_wp2
    go_ret
    exact ⟨rfl, unhide HT2⟩

set_option maxRecDepth 100000 in
set_option maxHeartbeats 4000000 in
theorem double_any {N : Nat} {w : World} {W : Nat} {o : WOwn} {A : AW} (h : WRep N w W o A) (n : Int) :
    Calls Tryz.prog 41 #[.pointer (some ⟨W, 0, none⟩), .int .i64 n] w fun e w' => e = .returned (.int .i64 (A.dbl n).1) ∧ WTurn N w W o w' (A.dbl n).2 := by
  have hc := h.cells.1.2.2.2.2
  obtain ⟨k, hk⟩ : ∃ k, A.ms.length = k := ⟨_, rfl⟩
  have HL := hide (Len_P h.p hk)
  by_cases h0 : A.ms.length = 0
  · have e1 : A.dbl n = (6, A) := by unfold AW.dbl; rw [if_pos h0]
    rw [e1]
    have HT := hide (fun w' (hb : Below w.heap.size w w') => WTurn.of_below h hb)
    have hk0 : k = 0 := by omega
    subst hk0
    generalize o.P = P at hc HL
    clear h e1 h0 hk
    go_enter Tryz.func41, Tryz.ntmps41
    go_wp2_with fail
    refine (unhide HL).mono ?_
    rintro e w1 ⟨rfl, hw⟩
    subst hw
    go_wp2
    go_ret
    exact ⟨rfl, (unhide HT) _ (Below.refl _ _)⟩
  · have HD := hide (PDbl_any h.p n)
    have HT := hide (fun w' (hT : PTurn 118 N w o.P o.pv w' (aDblL A.ms n)) => h.turnP hT)
    have hb : aDblB A.ms = decide (A.ms.length < 40) := by unfold aDblB; rw [decide_eq_true (by omega), Bool.true_and]
    rw [hb] at HD
    have hk0 : ((k : Int) == 0) = false := by simp; omega
    by_cases hf : A.ms.length < 40
    · have e1 : A.dbl n = (0, ⟨A.log, A.cl, aDblL A.ms n⟩) := by unfold AW.dbl; rw [if_neg h0, if_pos hf]
      rw [e1]
      rw [decide_eq_true hf] at HD
      generalize o.P = P at hc HL HD HT
      generalize o.pv = pv at HD HT
      clear h e1 h0 hk hb hf
      go_enter Tryz.func41, Tryz.ntmps41
      go_wp2_with fail
      refine (unhide HL).mono ?_
      rintro e w1 ⟨rfl, hw⟩
      subst hw
      go_wp2_with fail
      refine (unhide HD).mono ?_
      rintro e w3 ⟨rfl, hT⟩
      have HT3 := hide ((unhide HT) _ hT)
      clear hT
      go_wp2
      go_ret
      exact ⟨rfl, unhide HT3⟩
    · have e1 : A.dbl n = (7, A) := by unfold AW.dbl; rw [if_neg h0, if_neg hf]
      have e2 : aDblL A.ms n = A.ms := by unfold aDblL aSend; rw [if_neg hf]; simp
      rw [e2] at HD HT
      rw [e1]
      rw [decide_eq_false hf] at HD
      generalize o.P = P at hc HL HD HT
      generalize o.pv = pv at HD HT
      clear h e1 h0 hk hb hf e2
      go_enter Tryz.func41, Tryz.ntmps41
      go_wp2_with fail
      refine (unhide HL).mono ?_
      rintro e w1 ⟨rfl, hw⟩
      subst hw
      go_wp2_with fail
      refine (unhide HD).mono ?_
      rintro e w3 ⟨rfl, hT⟩
      have HT3 := hide ((unhide HT) _ hT)
      clear hT
      go_wp2
      go_ret
      exact ⟨rfl, unhide HT3⟩

end Go.Proofs.YtmbhbnoifimeaacGreat

namespace Go.Proofs.YtmbhbnoifimeaacGreat
open Go.RowKit
set_option linter.unusedSimpArgs false
set_option linter.unusedVariables false

def AX.val (x : AX) : Value := .agg #[.int .i64 x.kind, .int .i64 x.n, .int .i64 x.keep, .int .i64 x.call.kind, .string x.call.name, .string x.call.dst, .string x.call.text]
end Go.Proofs.YtmbhbnoifimeaacGreat

namespace Go.Proofs.YtmbhbnoifimeaacGreat
open Go.RowKit
set_option linter.unusedSimpArgs false
set_option linter.unusedVariables false


theorem PTurn.same {t : TypeId} {N : Nat} {w w' : World} {P : Nat} {v : Value} {ms : List APkt} (h : PTurn t N w P v w' ms) {b : Nat} (hb : b < w.heap.size) (hn : b ∉ powns P v) : w'.heap[b]? = w.heap[b]? := by
  obtain ⟨v', _, hk, _⟩ := h
  exact hk.block b hb hn
theorem STurned.same {N : Nat} {w w' : World} {S : Nat} {own : List Nat} {lv : Value} {L : List ARec} (h : STurned N w S own lv w' L) {b : Nat} (hb : b < w.heap.size) (hn : b ∉ sown S own lv) : w'.heap[b]? = w.heap[b]? := by
  obtain ⟨_, _, _, _, hk⟩ := h
  exact (hk.keep b hb hn).2
theorem SmallP.max {p : APkt} (h : SmallP p) : p.call.name.size ≤ maxLen ∧ p.call.dst.size ≤ maxLen ∧ p.call.text.size ≤ maxLen := ⟨small_max h.1, small_max h.2.1, small_max h.2.2.1⟩
/-- What a call is answered is not long. -/
theorem call_small {L : List ARec} (hg : Good L) (client no : Int) (c : ACall) : (aCall L client no c).text.size ≤ 100 := by
  have hz : (⟨#[]⟩ : ByteArray).size = 0 := rfl
  unfold aCall
  split
  · dsimp only; omega
  split
  · dsimp only; omega
  split
  · exact aDo_small L c
  split
  · split
    · dsimp only; omega
    · exact aDo_small L c
  split
  · dsimp only
    rcases lastR_or L client with ⟨h5, _⟩ | ⟨h5, _⟩
    · rw [h5]; show (⟨#[]⟩ : ByteArray).size ≤ 100; omega
    · have := (enc_small (hg _ h5)).2; omega
  · dsimp only; omega
theorem WRep.not_new {N : Nat} {w : World} {W : Nat} {o : WOwn} {A : AW} (h : WRep N w W o A) {b : Nat} (hb : w.heap.size ≤ b) : b ∉ o.all W := fun hm => by have := (h.all_ge b hm).2; omega
theorem WRep.not_part {N : Nat} {w : World} {W : Nat} {o : WOwn} {A : AW} (h : WRep N w W o A) {b : Nat} (hb : w.heap.size ≤ b) {i : Nat} (hi : i < 5) : b ∉ o.part i := fun hm => by have := (h.ge hi b hm).2; omega

set_option maxRecDepth 100000 in
set_option maxHeartbeats 4000000 in
theorem wsend_any {N : Nat} {w : World} {W : Nat} {o : WOwn} {A : AW} (h : WRep N w W o A) (n : Int) :
    Calls Tryz.prog 40 #[.pointer (some ⟨W, 0, none⟩), .int .i64 n] w fun e w' => e = .returned (.int .i64 (A.send n).1) ∧ WTurn N w W o w' (A.send n).2 := by
  by_cases hn : n < 0 ∨ 2 < n
  · have e1 : A.send n = (9, A) := by unfold AW.send; rw [if_pos hn]
    rw [e1]
    have HC := hide (fun w => Client_none W w n hn)
    have HT := hide (fun w' (hb : Below w.heap.size w w') => WTurn.of_below h hb)
    clear h e1 hn
    go_enter Tryz.func40, Tryz.ntmps40
    go_wp2_with fail
    refine ((unhide HC) _).mono ?_
    rintro e w1 ⟨rfl, hw⟩
    subst hw
    go_wp2
    go_ret
    exact ⟨rfl, (unhide HT) _ (Below.refl _ _)⟩
  · obtain ⟨m, rfl⟩ : ∃ m : Nat, n = (m : Int) := ⟨n.toNat, by omega⟩
    have hm : m < 3 := by omega
    have HC := hide (Client_some h m hm)
    have HS := hide (Send_any (h.c m hm))
    have HPC := hide (fun w' (hb : Below w.heap.size w w') => (h.below hb).cells.1.2.2.2.2)
    cases hop : (A.cl m).op
    · have e1 : A.send (m : Int) = (6, A) := by unfold AW.send; rw [if_neg hn, Int.toNat_natCast, if_pos hop]
      rw [e1]
      have HT := hide (fun w' (hb : Below w.heap.size w w') => WTurn.of_below h hb)
      rw [hop] at HS
      have e2 : (A.cl m).pkt = zeroPkt := by unfold ACli.pkt; rw [hop]; rfl
      rw [e2] at HS
      dsimp only [APkt.val, zeroPkt] at HS
      generalize o.X m = X at HC HS
      clear h e1 e2 hn hm hop HPC
      go_enter Tryz.func40, Tryz.ntmps40
      go_wp2_with fail
      refine (unhide HC).mono ?_
      rintro e w1 ⟨rfl, hw⟩
      subst hw
      go_wp2_with fail
      refine (unhide HS).mono ?_
      rintro e w2 ⟨rfl, hb⟩
      have HB := hide (hb.trans (((Below.refl w2.heap.size w2).alloc (Nat.le_refl _) (.cells #[.bool false, .int .i64 0, .int .i64 0, .int .i64 0, .string ⟨#[]⟩, .string ⟨#[]⟩, .string ⟨#[]⟩, .int .i64 0, .string ⟨#[]⟩] 122)).mono hb.size))
      clear hb
      go_wp2
      go_ret
      exact ⟨rfl, (unhide HT) _ (unhide HB)⟩
    · have e1 : A.send (m : Int) = if A.ms.length < 40 then (0, ⟨A.log, A.cl, aSend A.ms (A.cl m).pkt⟩) else (7, A) := by unfold AW.send; rw [if_neg hn, Int.toNat_natCast, if_neg (by simp [hop])]
      rw [hop] at HS
      have hsm := pkt_small (h.c m hm).ok
      have HP := hide (fun w' (hb : Below w.heap.size w w') => PSend_any (h.p.below hb) (A.cl m).pkt hsm)
      have HT := hide (fun w1 w' (hb : Below w.heap.size w w1) (hT : PTurn 118 N w1 o.P o.pv w' (aSend A.ms (A.cl m).pkt)) => ((h.below hb).turnP hT).before hb h.size)
      have HNW : Hid (∀ V : World, w.heap.size ≤ V.heap.size → W < V.heap.size ∧ W ∉ powns o.P o.pv) := fun V hV => ⟨Nat.lt_of_lt_of_le h.lt hV, h.nW 4 (by omega)⟩
      have HNX : Hid (∀ b, w.heap.size ≤ b → b ∉ powns o.P o.pv) := fun b hb => h.not_part hb (i := 4) (by omega)
      have hse : ¬ A.ms.length < 40 → aSend A.ms (A.cl m).pkt = A.ms := fun h => by unfold aSend; rw [if_neg h]
      generalize (A.cl m).pkt = p at HS HP HT e1 hse hsm
      obtain ⟨pr, pc, pn, ⟨pk, pa, pb, pt⟩, pd, pu⟩ := p
      dsimp only [APkt.val] at HS HP
      generalize o.X m = X at HC HS
      generalize o.P = P at HPC HP HT HNW HNX
      generalize o.pv = pv at HP HT HNW HNX
      by_cases hf : A.ms.length < 40
      · rw [if_pos hf] at e1
        rw [decide_eq_true hf] at HP
        rw [e1]
        clear h e1 hn hm hop hse hsm hf
        go_enter Tryz.func40, Tryz.ntmps40
        go_wp2_with fail
        refine (unhide HC).mono ?_
        rintro e w1 ⟨rfl, hw⟩
        subst hw
        go_wp2_with fail
        refine (unhide HS).mono ?_
        rintro e w2 ⟨rfl, hb⟩
        obtain ⟨V, hV⟩ : ∃ V, V = w2.alloc (.cells #[.bool pr, .int .i64 pc, .int .i64 pn, .int .i64 pk, .string pa, .string pb, .string pt, .int .i64 pd, .string pu] 122) := ⟨_, rfl⟩
        have hBV : Below w2.heap.size w2 V := by rw [hV]; exact (Below.refl _ _).alloc (Nat.le_refl _) _
        have hbV := hb.trans (hBV.mono hb.size)
        have hXV : V.heap[w2.heap.size]? = some (.cells #[.bool pr, .int .i64 pc, .int .i64 pn, .int .i64 pk, .string pa, .string pb, .string pt, .int .i64 pd, .string pu] 122 (0, 0)) := by rw [hV]; exact heap_alloc_new _ _
        have HPV := hide ((unhide HPC) _ hbV)
        have HXV := hide hXV
        have HP2 := hide ((unhide HP) _ (hbV.trans ((below_drew V).mono hbV.size)))
        have HT2 := hide (fun w' hT => (unhide HT) V.drew w' (hbV.trans ((below_drew V).mono hbV.size)) hT)
        have HKW := hide ((unhide HNW) V (hbV.size))
        have HKX := hide ((unhide HNX) w2.heap.size hb.size)
        have HLX : Hid (w2.heap.size < V.heap.size) := (Array.getElem?_eq_some_iff.1 hXV).1
        have HV := hide hV
        clear hV hb hBV hbV hXV
        go_wp2_with fail
        rw [← unhide HV]
        refine wp_region_held_drew (S := (fun wx => wx.heap[W]? = V.heap[W]? ∧ wx.heap[w2.heap.size]? = V.heap[w2.heap.size]?)) (by kernel_rfl) (⟨rfl, rfl⟩) (fun hHeld => ?_)
        refine wpAnyH_take (i := 0) (v := ?_) opn0 (by kernel_rfl) (by kernel_rfl) (by kernel_rfl) (fun _ _ _ h => h) (Or.inl ⟨by kernel_rfl, ?_⟩) (by assumption) ?_
        rotate_left 1
        · intro wz hSw
          try dsimp only at hSw
          go_simp
          all_goals with_reducible rfl
        try simp only [Act.put, List.setIfInBounds_toArray, List.set_cons_zero, List.set_cons_succ]
        refine wpAnyH_take (i := 1) (v := ?_) opn1 (by kernel_rfl) (by kernel_rfl) (by kernel_rfl) (fun _ _ _ h => h) (Or.inl ⟨by kernel_rfl, ?_⟩) (by assumption) ?_
        rotate_left 1
        · intro wz hSw
          try dsimp only at hSw
          go_simp
          all_goals with_reducible rfl
        try simp only [Act.put, List.setIfInBounds_toArray, List.set_cons_zero, List.set_cons_succ]
        refine wpAnyH_take (i := 2) (v := ?_) opn2 (by kernel_rfl) (by kernel_rfl) (by kernel_rfl) (fun _ _ _ h => h) (Or.inl ⟨by kernel_rfl, ?_⟩) (by assumption) ?_
        rotate_left 1
        · intro wz hSw
          try dsimp only at hSw
          go_simp
          all_goals with_reducible rfl
        try simp only [Act.put, List.setIfInBounds_toArray, List.set_cons_zero, List.set_cons_succ]
        refine wpAnyH_take (i := 3) (v := ?_) opn3 (by kernel_rfl) (by kernel_rfl) (by kernel_rfl) (fun _ _ _ h => h) (Or.inl ⟨by kernel_rfl, ?_⟩) (by assumption) ?_
        rotate_left 1
        · intro wz hSw
          try dsimp only at hSw
          have hq : wz.cell? ⟨W, 4, none⟩ = some (.pointer (some ⟨P, 0, none⟩)) := (World.cell?_of_block (w := V) (a := ⟨W, 4, none⟩) hSw.1).trans (unhide HPV)
          go_simp
          all_goals with_reducible rfl
        try simp only [Act.put, List.setIfInBounds_toArray, List.set_cons_zero, List.set_cons_succ]
        refine wpAnyH_take (i := 4) (v := ?_) opn4 (by kernel_rfl) (by kernel_rfl) (by kernel_rfl) (fun _ _ _ h => h) (Or.inl ⟨by kernel_rfl, ?_⟩) (by assumption) ?_
        rotate_left 1
        · intro wz hSw
          try dsimp only at hSw
          obtain ⟨⟨x0, x1, x2, x3⟩, ⟨x4, x5, x6, x7, x8⟩, xf⟩ := nine (hSw.2.trans (unhide HXV))
          go_simp
          all_goals with_reducible rfl
        try simp only [Act.put, List.setIfInBounds_toArray, List.set_cons_zero, List.set_cons_succ]
        refine wpAnyH_ready (rs := [5]) (by kernel_rfl) (by simp) ?_
        refine AllReadyH.cons opn5 (fun K hK => ?_) AllReadyH.nil
        rw [if_pos (by kernel_rfl)]
        go_simp
        refine (unhide HP2).mono ?_
        rintro e w3 ⟨rfl, hT⟩
        have HT3 := hide ((unhide HT2) _ hT)
        have hk1 : w3.heap[W]? = V.heap[W]? := hT.same (unhide HKW).1 (unhide HKW).2
        have hk2 : w3.heap[w2.heap.size]? = V.heap[w2.heap.size]? := hT.same (unhide HLX) (unhide HKX)
        clear hT
        refine hK.out _ _ (⟨hk1, hk2⟩) (fun hHeldN => ?_)
        clear hHeld hK K
        have hHeld := hHeldN
        clear hHeldN
        try simp only [Act.put, List.setIfInBounds_toArray, List.set_cons_zero, List.set_cons_succ]
        clear hk1 hk2
        refine wpAnyH_take (i := 6) (v := ?_) opn6 (by kernel_rfl) (by kernel_rfl) (by kernel_rfl) (fun _ _ _ h => h) (Or.inl ⟨by kernel_rfl, ?_⟩) (by assumption) ?_
        rotate_left 1
        · intro wz hSw
          try dsimp only at hSw
          go_simp
          all_goals with_reducible rfl
        try simp only [Act.put, List.setIfInBounds_toArray, List.set_cons_zero, List.set_cons_succ]
        refine wpAnyH_done (by kernel_rfl) ?_ _
        go_wp2
        go_ret
        exact ⟨rfl, unhide HT3⟩
      · rw [if_neg hf] at e1
        rw [decide_eq_false hf] at HP
        rw [hse hf] at HT HP
        rw [e1]
        clear h e1 hn hm hop hse hsm hf
        go_enter Tryz.func40, Tryz.ntmps40
        go_wp2_with fail
        refine (unhide HC).mono ?_
        rintro e w1 ⟨rfl, hw⟩
        subst hw
        go_wp2_with fail
        refine (unhide HS).mono ?_
        rintro e w2 ⟨rfl, hb⟩
        obtain ⟨V, hV⟩ : ∃ V, V = w2.alloc (.cells #[.bool pr, .int .i64 pc, .int .i64 pn, .int .i64 pk, .string pa, .string pb, .string pt, .int .i64 pd, .string pu] 122) := ⟨_, rfl⟩
        have hBV : Below w2.heap.size w2 V := by rw [hV]; exact (Below.refl _ _).alloc (Nat.le_refl _) _
        have hbV := hb.trans (hBV.mono hb.size)
        have hXV : V.heap[w2.heap.size]? = some (.cells #[.bool pr, .int .i64 pc, .int .i64 pn, .int .i64 pk, .string pa, .string pb, .string pt, .int .i64 pd, .string pu] 122 (0, 0)) := by rw [hV]; exact heap_alloc_new _ _
        have HPV := hide ((unhide HPC) _ hbV)
        have HXV := hide hXV
        have HP2 := hide ((unhide HP) _ (hbV.trans ((below_drew V).mono hbV.size)))
        have HT2 := hide (fun w' hT => (unhide HT) V.drew w' (hbV.trans ((below_drew V).mono hbV.size)) hT)
        have HKW := hide ((unhide HNW) V (hbV.size))
        have HKX := hide ((unhide HNX) w2.heap.size hb.size)
        have HLX : Hid (w2.heap.size < V.heap.size) := (Array.getElem?_eq_some_iff.1 hXV).1
        have HV := hide hV
        clear hV hb hBV hbV hXV
        go_wp2_with fail
        rw [← unhide HV]
        refine wp_region_held_drew (S := (fun wx => wx.heap[W]? = V.heap[W]? ∧ wx.heap[w2.heap.size]? = V.heap[w2.heap.size]?)) (by kernel_rfl) (⟨rfl, rfl⟩) (fun hHeld => ?_)
        refine wpAnyH_take (i := 0) (v := ?_) opn0 (by kernel_rfl) (by kernel_rfl) (by kernel_rfl) (fun _ _ _ h => h) (Or.inl ⟨by kernel_rfl, ?_⟩) (by assumption) ?_
        rotate_left 1
        · intro wz hSw
          try dsimp only at hSw
          go_simp
          all_goals with_reducible rfl
        try simp only [Act.put, List.setIfInBounds_toArray, List.set_cons_zero, List.set_cons_succ]
        refine wpAnyH_take (i := 1) (v := ?_) opn1 (by kernel_rfl) (by kernel_rfl) (by kernel_rfl) (fun _ _ _ h => h) (Or.inl ⟨by kernel_rfl, ?_⟩) (by assumption) ?_
        rotate_left 1
        · intro wz hSw
          try dsimp only at hSw
          go_simp
          all_goals with_reducible rfl
        try simp only [Act.put, List.setIfInBounds_toArray, List.set_cons_zero, List.set_cons_succ]
        refine wpAnyH_take (i := 2) (v := ?_) opn2 (by kernel_rfl) (by kernel_rfl) (by kernel_rfl) (fun _ _ _ h => h) (Or.inl ⟨by kernel_rfl, ?_⟩) (by assumption) ?_
        rotate_left 1
        · intro wz hSw
          try dsimp only at hSw
          go_simp
          all_goals with_reducible rfl
        try simp only [Act.put, List.setIfInBounds_toArray, List.set_cons_zero, List.set_cons_succ]
        refine wpAnyH_take (i := 3) (v := ?_) opn3 (by kernel_rfl) (by kernel_rfl) (by kernel_rfl) (fun _ _ _ h => h) (Or.inl ⟨by kernel_rfl, ?_⟩) (by assumption) ?_
        rotate_left 1
        · intro wz hSw
          try dsimp only at hSw
          have hq : wz.cell? ⟨W, 4, none⟩ = some (.pointer (some ⟨P, 0, none⟩)) := (World.cell?_of_block (w := V) (a := ⟨W, 4, none⟩) hSw.1).trans (unhide HPV)
          go_simp
          all_goals with_reducible rfl
        try simp only [Act.put, List.setIfInBounds_toArray, List.set_cons_zero, List.set_cons_succ]
        refine wpAnyH_take (i := 4) (v := ?_) opn4 (by kernel_rfl) (by kernel_rfl) (by kernel_rfl) (fun _ _ _ h => h) (Or.inl ⟨by kernel_rfl, ?_⟩) (by assumption) ?_
        rotate_left 1
        · intro wz hSw
          try dsimp only at hSw
          obtain ⟨⟨x0, x1, x2, x3⟩, ⟨x4, x5, x6, x7, x8⟩, xf⟩ := nine (hSw.2.trans (unhide HXV))
          go_simp
          all_goals with_reducible rfl
        try simp only [Act.put, List.setIfInBounds_toArray, List.set_cons_zero, List.set_cons_succ]
        refine wpAnyH_ready (rs := [5]) (by kernel_rfl) (by simp) ?_
        refine AllReadyH.cons opn5 (fun K hK => ?_) AllReadyH.nil
        rw [if_pos (by kernel_rfl)]
        go_simp
        refine (unhide HP2).mono ?_
        rintro e w3 ⟨rfl, hT⟩
        have HT3 := hide ((unhide HT2) _ hT)
        have hk1 : w3.heap[W]? = V.heap[W]? := hT.same (unhide HKW).1 (unhide HKW).2
        have hk2 : w3.heap[w2.heap.size]? = V.heap[w2.heap.size]? := hT.same (unhide HLX) (unhide HKX)
        clear hT
        refine hK.out _ _ (⟨hk1, hk2⟩) (fun hHeldN => ?_)
        clear hHeld hK K
        have hHeld := hHeldN
        clear hHeldN
        try simp only [Act.put, List.setIfInBounds_toArray, List.set_cons_zero, List.set_cons_succ]
        clear hk1 hk2
        refine wpAnyH_take (i := 6) (v := ?_) opn6 (by kernel_rfl) (by kernel_rfl) (by kernel_rfl) (fun _ _ _ h => h) (Or.inl ⟨by kernel_rfl, ?_⟩) (by assumption) ?_
        rotate_left 1
        · intro wz hSw
          try dsimp only at hSw
          go_simp
          all_goals with_reducible rfl
        try simp only [Act.put, List.setIfInBounds_toArray, List.set_cons_zero, List.set_cons_succ]
        refine wpAnyH_done (by kernel_rfl) ?_ _
        go_wp2
        go_ret
        exact ⟨rfl, unhide HT3⟩

set_option maxRecDepth 100000 in
set_option maxHeartbeats 4000000 in
theorem whear_any {N : Nat} {w : World} {W : Nat} {o : WOwn} {A : AW} (h : WRep N w W o A) (p : APkt) (hs : SmallP p) :
    Calls Tryz.prog 90 #[.pointer (some ⟨W, 0, none⟩), p.val] w fun e w' => e = .returned (.tuple #[]) ∧ WTurn N w W o w' (A.hear p) := by
  obtain ⟨V, hV⟩ : ∃ V, V = w.alloc (.cells #[.bool p.reply, .int .i64 p.client, .int .i64 p.no, .int .i64 p.call.kind, .string p.call.name, .string p.call.dst, .string p.call.text, .int .i64 p.code, .string p.ans] 122) := ⟨_, rfl⟩
  have hBV : Below w.heap.size w V := by rw [hV]; exact (Below.refl _ _).alloc (Nat.le_refl _) _
  have hXV : V.heap[w.heap.size]? = some (.cells #[.bool p.reply, .int .i64 p.client, .int .i64 p.no, .int .i64 p.call.kind, .string p.call.name, .string p.call.dst, .string p.call.text, .int .i64 p.code, .string p.ans] 122 (0, 0)) := by rw [hV]; exact heap_alloc_new _ _
  have hlV : w.heap.size < V.heap.size := (Array.getElem?_eq_some_iff.1 hXV).1
  have hrV := h.below hBV
  have HBV := hide hBV
  have HXV := hide hXV
  have HV := hide hV
  by_cases hn : p.client < 0 ∨ 2 < p.client
  · have e1 : A.hear p = A := by unfold AW.hear; rw [if_pos hn]
    rw [e1]
    have HC := hide (fun w => Client_none W w p.client hn)
    have HT := hide (fun w' (hb : Below V.heap.size V w') => (WTurn.of_below hrV hb).before hBV h.size)
    obtain ⟨⟨x0, x1, x2, x3⟩, ⟨x4, x5, x6, x7, x8⟩, xf⟩ := nine hXV
    clear h e1 hn hV hBV hXV hrV hs
    obtain ⟨pr, pc, pn, ⟨pk, pa, pb, pt⟩, pd, pu⟩ := p
    dsimp only [APkt.val] at *
    go_enter Tryz.func90, Tryz.ntmps90
    go_wp2_with fail
    rw [← unhide HV]
    refine ((unhide HC) _).mono ?_
    rintro e w1 ⟨rfl, hw⟩
    subst hw
    go_wp2
    refine bodyPost_end (v := .tuple #[]) (by simp [results, Tryz.results90, go_sem]) rfl ?_
    exact ⟨rfl, (unhide HT) _ (Below.refl _ _)⟩
  · obtain ⟨m, hm⟩ : ∃ m : Nat, p.client = (m : Int) := ⟨p.client.toNat, by omega⟩
    have hm3 : m < 3 := by omega
    have e1 : A.hear p = ⟨A.log, upd A.cl m ((A.cl m).heard p), A.ms⟩ := by unfold AW.hear; rw [if_neg hn, hm, Int.toNat_natCast]
    rw [e1]
    have HC := hide (Client_some hrV m hm3)
    have HK := hide (Hear_any (hrV.c m hm3) p hs)
    have HT := hide (fun w' (hT : KTurn N V (o.X m) (o.v m) w' ((A.cl m).heard p)) => (hrV.turnC hm3 hT ((h.c m hm3).ok.heard hs)).before hBV h.size)
    generalize o.X m = X at HC HK HT
    generalize o.v m = v at HK HT
    generalize (A.cl m).hears p = r at HK
    generalize (A.cl m).heard p = c' at HK HT ⊢
    obtain ⟨⟨x0, x1, x2, x3⟩, ⟨x4, x5, x6, x7, x8⟩, xf⟩ := nine hXV
    clear h e1 hn hm3 hs hV hBV hXV hrV
    obtain ⟨pr, pc, pn, ⟨pk, pa, pb, pt⟩, pd, pu⟩ := p
    dsimp only at hm
    subst hm
    dsimp only [APkt.val] at *
    go_enter Tryz.func90, Tryz.ntmps90
    go_wp2_with fail
    rw [← unhide HV]
    refine (unhide HC).mono ?_
    rintro e w1 ⟨rfl, hw⟩
    subst hw
    go_wp2_with fail
    refine (unhide HK).mono ?_
    rintro e w2 ⟨rfl, hT⟩
    have HT2 := hide ((unhide HT) _ hT)
    clear hT
    go_wp2
    refine bodyPost_end (v := .tuple #[]) (by simp [results, Tryz.results90, go_sem]) rfl ?_
    exact ⟨rfl, unhide HT2⟩

set_option maxRecDepth 100000 in
set_option maxHeartbeats 4000000 in
theorem wtear_any {N : Nat} {w : World} {W : Nat} {o : WOwn} {A : AW} (h : WRep N w W o A) (p : APkt) (hs : SmallP p) (keep : Int) :
    Calls Tryz.prog 70 #[.pointer (some ⟨W, 0, none⟩), p.val, .int .i64 keep] w fun e w' => e = .returned (.int .i64 (A.tear p keep).1) ∧ WTurn N w W o w' (A.tear p keep).2 := by
  obtain ⟨V, hV⟩ : ∃ V, V = w.alloc (.cells #[.bool p.reply, .int .i64 p.client, .int .i64 p.no, .int .i64 p.call.kind, .string p.call.name, .string p.call.dst, .string p.call.text, .int .i64 p.code, .string p.ans] 122) := ⟨_, rfl⟩
  have hBV : Below w.heap.size w V := by rw [hV]; exact (Below.refl _ _).alloc (Nat.le_refl _) _
  have hXV : V.heap[w.heap.size]? = some (.cells #[.bool p.reply, .int .i64 p.client, .int .i64 p.no, .int .i64 p.call.kind, .string p.call.name, .string p.call.dst, .string p.call.text, .int .i64 p.code, .string p.ans] 122 (0, 0)) := by rw [hV]; exact heap_alloc_new _ _
  have hlV : w.heap.size < V.heap.size := (Array.getElem?_eq_some_iff.1 hXV).1
  have hrV := h.below hBV
  have HBV := hide hBV
  have HXV := hide hXV
  have HV := hide hV
  have HSC := hide hrV.cells.1.1
  cases hr : p.reply
  · have e1 : A.tear p keep = ((aTear A.log p.client p.no p.call keep).1, ⟨(aTear A.log p.client p.no p.call keep).2, A.cl, A.ms⟩) := by unfold AW.tear; rw [hr]; rfl
    rw [e1]
    have hrD := hrV.below (below_drew V)
    have HTR := hide (STear_any hrD.s p.client p.no keep p.call h.ss hrD.size hs.max.1 hs.max.2.1 hs.max.2.2)
    have HT := hide (fun w' (hT : STurned N V.drew o.S o.own o.lv w' (aTear A.log p.client p.no p.call keep).2) => (hrD.turnS hT (aTear_short h.s.good h.ss _ _ _ _)).before (hBV.trans ((below_drew V).mono hBV.size)) h.size)
    have HKW : Hid (W < V.heap.size ∧ W ∉ sown o.S o.own o.lv) := ⟨hrV.lt, h.nW 3 (by omega)⟩
    have HKX : Hid (w.heap.size < V.heap.size ∧ w.heap.size ∉ sown o.S o.own o.lv) := ⟨hlV, h.not_part (Nat.le_refl _) (i := 3) (by omega)⟩
    generalize aTear A.log p.client p.no p.call keep = R at HTR HT
    obtain ⟨r1, r2⟩ := R
    dsimp only at HTR HT ⊢
    generalize o.S = S at HTR HT HSC HKW HKX
    generalize o.own = own at HTR HT HKW HKX
    generalize o.lv = lv at HTR HT HKW HKX
    have hx := nine hXV
    clear h e1 hV hBV hXV hrV hrD hs
    obtain ⟨pr, pc, pn, ⟨pk, pa, pb, pt⟩, pd, pu⟩ := p
    dsimp only [APkt.val] at *
    subst hr
    obtain ⟨⟨x0, x1, x2, x3⟩, ⟨x4, x5, x6, x7, x8⟩, xf⟩ := hx
    go_enter Tryz.func70, Tryz.ntmps70
    go_wp2_with fail
    rw [← unhide HV]
    clear x0 x1 x2 x3 x4 x5 x6 x7 x8 xf
    refine wp_region_held_drew (S := (fun wx => wx.heap[W]? = V.heap[W]? ∧ wx.heap[w.heap.size]? = V.heap[w.heap.size]?)) (by kernel_rfl) (⟨rfl, rfl⟩) (fun hHeld => ?_)
    refine wpAnyH_take (i := 0) (v := ?_) opn0 (by kernel_rfl) (by kernel_rfl) (by kernel_rfl) (fun _ _ _ h => h) (Or.inl ⟨by kernel_rfl, ?_⟩) (by assumption) ?_
    rotate_left 1
    · intro wz hSw
      try dsimp only at hSw
      go_simp
      all_goals with_reducible rfl
    try simp only [Act.put, List.setIfInBounds_toArray, List.set_cons_zero, List.set_cons_succ]
    refine wpAnyH_take (i := 1) (v := ?_) opn1 (by kernel_rfl) (by kernel_rfl) (by kernel_rfl) (fun _ _ _ h => h) (Or.inl ⟨by kernel_rfl, ?_⟩) (by assumption) ?_
    rotate_left 1
    · intro wz hSw
      try dsimp only at hSw
      go_simp
      all_goals with_reducible rfl
    try simp only [Act.put, List.setIfInBounds_toArray, List.set_cons_zero, List.set_cons_succ]
    refine wpAnyH_take (i := 2) (v := ?_) opn2 (by kernel_rfl) (by kernel_rfl) (by kernel_rfl) (fun _ _ _ h => h) (Or.inl ⟨by kernel_rfl, ?_⟩) (by assumption) ?_
    rotate_left 1
    · intro wz hSw
      try dsimp only at hSw
      go_simp
      all_goals with_reducible rfl
    try simp only [Act.put, List.setIfInBounds_toArray, List.set_cons_zero, List.set_cons_succ]
    refine wpAnyH_take (i := 3) (v := ?_) opn3 (by kernel_rfl) (by kernel_rfl) (by kernel_rfl) (fun _ _ _ h => h) (Or.inl ⟨by kernel_rfl, ?_⟩) (by assumption) ?_
    rotate_left 1
    · intro wz hSw
      try dsimp only at hSw
      have hq : wz.cell? ⟨W, 0, none⟩ = some (.pointer (some ⟨S, 0, none⟩)) := (World.cell?_of_block (w := V) (a := ⟨W, 0, none⟩) hSw.1).trans (unhide HSC)
      go_simp
      all_goals with_reducible rfl
    try simp only [Act.put, List.setIfInBounds_toArray, List.set_cons_zero, List.set_cons_succ]
    refine wpAnyH_take (i := 4) (v := ?_) opn4 (by kernel_rfl) (by kernel_rfl) (by kernel_rfl) (fun _ _ _ h => h) (Or.inl ⟨by kernel_rfl, ?_⟩) (by assumption) ?_
    rotate_left 1
    · intro wz hSw
      try dsimp only at hSw
      go_simp
      all_goals with_reducible rfl
    try simp only [Act.put, List.setIfInBounds_toArray, List.set_cons_zero, List.set_cons_succ]
    refine wpAnyH_take (i := 5) (v := ?_) opn5 (by kernel_rfl) (by kernel_rfl) (by kernel_rfl) (fun _ _ _ h => h) (Or.inl ⟨by kernel_rfl, ?_⟩) (by assumption) ?_
    rotate_left 1
    · intro wz hSw
      try dsimp only at hSw
      obtain ⟨⟨x0, x1, x2, x3⟩, ⟨x4, x5, x6, x7, x8⟩, xf⟩ := nine (hSw.2.trans (unhide HXV))
      go_simp
      all_goals with_reducible rfl
    try simp only [Act.put, List.setIfInBounds_toArray, List.set_cons_zero, List.set_cons_succ]
    refine wpAnyH_take (i := 6) (v := ?_) opn6 (by kernel_rfl) (by kernel_rfl) (by kernel_rfl) (fun _ _ _ h => h) (Or.inl ⟨by kernel_rfl, ?_⟩) (by assumption) ?_
    rotate_left 1
    · intro wz hSw
      try dsimp only at hSw
      go_simp
      all_goals with_reducible rfl
    try simp only [Act.put, List.setIfInBounds_toArray, List.set_cons_zero, List.set_cons_succ]
    refine wpAnyH_take (i := 7) (v := ?_) opn7 (by kernel_rfl) (by kernel_rfl) (by kernel_rfl) (fun _ _ _ h => h) (Or.inl ⟨by kernel_rfl, ?_⟩) (by assumption) ?_
    rotate_left 1
    · intro wz hSw
      try dsimp only at hSw
      obtain ⟨⟨x0, x1, x2, x3⟩, ⟨x4, x5, x6, x7, x8⟩, xf⟩ := nine (hSw.2.trans (unhide HXV))
      go_simp
      all_goals with_reducible rfl
    try simp only [Act.put, List.setIfInBounds_toArray, List.set_cons_zero, List.set_cons_succ]
    refine wpAnyH_take (i := 8) (v := ?_) opn8 (by kernel_rfl) (by kernel_rfl) (by kernel_rfl) (fun _ _ _ h => h) (Or.inl ⟨by kernel_rfl, ?_⟩) (by assumption) ?_
    rotate_left 1
    · intro wz hSw
      try dsimp only at hSw
      go_simp
      all_goals with_reducible rfl
    try simp only [Act.put, List.setIfInBounds_toArray, List.set_cons_zero, List.set_cons_succ]
    refine wpAnyH_take (i := 9) (v := ?_) opn9 (by kernel_rfl) (by kernel_rfl) (by kernel_rfl) (fun _ _ _ h => h) (Or.inl ⟨by kernel_rfl, ?_⟩) (by assumption) ?_
    rotate_left 1
    · intro wz hSw
      try dsimp only at hSw
      obtain ⟨⟨x0, x1, x2, x3⟩, ⟨x4, x5, x6, x7, x8⟩, xf⟩ := nine (hSw.2.trans (unhide HXV))
      go_simp
      all_goals with_reducible rfl
    try simp only [Act.put, List.setIfInBounds_toArray, List.set_cons_zero, List.set_cons_succ]
    refine wpAnyH_take (i := 10) (v := ?_) opn10 (by kernel_rfl) (by kernel_rfl) (by kernel_rfl) (fun _ _ _ h => h) (Or.inl ⟨by kernel_rfl, ?_⟩) (by assumption) ?_
    rotate_left 1
    · intro wz hSw
      try dsimp only at hSw
      go_simp
      all_goals with_reducible rfl
    try simp only [Act.put, List.setIfInBounds_toArray, List.set_cons_zero, List.set_cons_succ]
    refine wpAnyH_ready (rs := [11]) (by kernel_rfl) (by simp) ?_
    refine AllReadyH.cons opn11 (fun K hK => ?_) AllReadyH.nil
    rw [if_pos (by kernel_rfl)]
    go_simp
    refine (unhide HTR).mono ?_
    rintro e w1 ⟨rfl, hT⟩
    have HT3 := hide ((unhide HT) _ hT)
    have hk1 : w1.heap[W]? = V.heap[W]? := hT.same (unhide HKW).1 (unhide HKW).2
    have hk2 : w1.heap[w.heap.size]? = V.heap[w.heap.size]? := hT.same (unhide HKX).1 (unhide HKX).2
    clear hT
    refine hK.out _ _ (⟨hk1, hk2⟩) (fun hHeldN => ?_)
    clear hHeld hK K
    have hHeld := hHeldN
    clear hHeldN
    try simp only [Act.put, List.setIfInBounds_toArray, List.set_cons_zero, List.set_cons_succ]
    clear hk1 hk2
    refine wpAnyH_take (i := 12) (v := ?_) opn12 (by kernel_rfl) (by kernel_rfl) (by kernel_rfl) (fun _ _ _ h => h) (Or.inl ⟨by kernel_rfl, ?_⟩) (by assumption) ?_
    rotate_left 1
    · intro wz hSw
      try dsimp only at hSw
      go_simp
      all_goals with_reducible rfl
    try simp only [Act.put, List.setIfInBounds_toArray, List.set_cons_zero, List.set_cons_succ]
    refine wpAnyH_done (by kernel_rfl) ?_ _
    go_wp2
    go_ret
    exact ⟨rfl, unhide HT3⟩
  · have e1 : A.tear p keep = (0, A) := by unfold AW.tear; rw [hr]; rfl
    rw [e1]
    have HCR := hide (Crash_any hrV.s (by have := h.ss; omega) hrV.size)
    have HT := hide (fun w' (hT : STurned N V o.S o.own o.lv w' A.log) => (hrV.turnS hT h.ss).before hBV h.size)
    have hWl := h.lt
    have hWn : W ≠ w.heap.size := by omega
    have hsc := h.cells.1.1
    generalize o.S = S at HCR HT hsc
    generalize o.own = own at HCR HT
    generalize o.lv = lv at HCR HT
    have hx := nine hXV
    clear HSC
    clear h e1 hV hBV hXV hrV hs
    obtain ⟨pr, pc, pn, ⟨pk, pa, pb, pt⟩, pd, pu⟩ := p
    dsimp only [APkt.val] at *
    subst hr
    obtain ⟨⟨x0, x1, x2, x3⟩, ⟨x4, x5, x6, x7, x8⟩, xf⟩ := hx
    go_enter Tryz.func70, Tryz.ntmps70
    go_wp2_with fail
    rw [← unhide HV]
    refine (unhide HCR).mono ?_
    rintro e w1 ⟨rfl, hT⟩
    have HT3 := hide ((unhide HT) _ hT)
    clear hT
    go_wp2
    go_ret
    exact ⟨rfl, unhide HT3⟩

end Go.Proofs.YtmbhbnoifimeaacGreat
