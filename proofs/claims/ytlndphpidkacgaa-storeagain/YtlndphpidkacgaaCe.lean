/- Package codec: read. -/
import Derived.Test.YtlndphpidkacgaaCd
namespace Go.Proofs.Ytlndphpidkacgaa
open Go.RowKit
set_option linter.unusedSimpArgs false
set_option linter.unusedVariables false

def at_ (bs : List UInt8) (i : Nat) : Int := ((bs.getD i 0).toNat : Int)

/-- Just one record, whatever its parts are. -/
def readR (bs : List UInt8) : Option ARec :=
  if bs.length < 5 then none
  else match takeT 3 (bs.drop 5) with
    | some ([a, b, t], []) => some ⟨at_ bs 1, at_ bs 2, ⟨at_ bs 3, a, b, t⟩, at_ bs 4, ⟨#[]⟩⟩
    | _ => none

def ReadRes (w : World) (bs : List UInt8) (e : Ending) (w' : World) : Prop :=
  Below w.heap.size w w' ∧ ∃ c n k a b t d u ok, e = .returned (.tuple #[.agg #[.int .i64 c, .int .i64 n, .int .i64 k, .string a, .string b, .string t, .int .i64 d, .string u], .bool ok]) ∧
    ((ok = false ∧ readR bs = none) ∨ (ok = true ∧ readR bs = some ⟨c, n, ⟨k, a, b, t⟩, d, u⟩))

/-- Eight cells written, one behind the other. -/
def set8 (w : World) (b : Nat) (y0 y1 y2 y3 y4 y5 y6 y7 : Value) : World :=
  (((((((w.setCell ⟨b, 0, none⟩ y0).setCell ⟨b, 1, none⟩ y1).setCell ⟨b, 2, none⟩ y2).setCell ⟨b, 3, none⟩ y3).setCell ⟨b, 4, none⟩ y4).setCell ⟨b, 5, none⟩ y5).setCell ⟨b, 6, none⟩ y6).setCell ⟨b, 7, none⟩ y7
theorem set8_blk {w : World} {b : Nat} {x0 x1 x2 x3 x4 x5 x6 x7 : Value} {e : TypeId} (h : w.heap[b]? = some (.cells #[x0, x1, x2, x3, x4, x5, x6, x7] e (0, 0))) (y0 y1 y2 y3 y4 y5 y6 y7 : Value) :
    (set8 w b y0 y1 y2 y3 y4 y5 y6 y7).heap[b]? = some (.cells #[y0, y1, y2, y3, y4, y5, y6, y7] e (0, 0)) := by
  have h0 := heap_setCell_same h (o := 0) y0
  simp only [List.setIfInBounds_toArray, List.set_cons_zero, List.set_cons_succ] at h0
  have h1 := heap_setCell_same h0 (o := 1) y1
  simp only [List.setIfInBounds_toArray, List.set_cons_zero, List.set_cons_succ] at h1
  have h2 := heap_setCell_same h1 (o := 2) y2
  simp only [List.setIfInBounds_toArray, List.set_cons_zero, List.set_cons_succ] at h2
  have h3 := heap_setCell_same h2 (o := 3) y3
  simp only [List.setIfInBounds_toArray, List.set_cons_zero, List.set_cons_succ] at h3
  have h4 := heap_setCell_same h3 (o := 4) y4
  simp only [List.setIfInBounds_toArray, List.set_cons_zero, List.set_cons_succ] at h4
  have h5 := heap_setCell_same h4 (o := 5) y5
  simp only [List.setIfInBounds_toArray, List.set_cons_zero, List.set_cons_succ] at h5
  have h6 := heap_setCell_same h5 (o := 6) y6
  simp only [List.setIfInBounds_toArray, List.set_cons_zero, List.set_cons_succ] at h6
  have h7 := heap_setCell_same h6 (o := 7) y7
  simp only [List.setIfInBounds_toArray, List.set_cons_zero, List.set_cons_succ] at h7
  exact h7
theorem set8_kept (w : World) (b : Nat) (y0 y1 y2 y3 y4 y5 y6 y7 : Value) : Kept [b] w (set8 w b y0 y1 y2 y3 y4 y5 y6 y7) := by
  have k : ∀ (w : World) (o : Nat) (y : Value), Kept [b] w (w.setCell ⟨b, o, none⟩ y) := fun w o y => kept_setCell [b] w b o y (by simp)
  have s : ∀ x, x ∈ [b] → x ∈ [b] ∨ w.heap.size ≤ x := fun x hx => .inl hx
  unfold set8
  exact (((((((k _ _ _).trans (k _ _ _) s).trans (k _ _ _) s).trans (k _ _ _) s).trans (k _ _ _) s).trans (k _ _ _) s).trans (k _ _ _) s).trans (k _ _ _) s
/-- Eight cells of a block. -/
theorem eight {w : World} {b : Nat} {x0 x1 x2 x3 x4 x5 x6 x7 : Value} {e : TypeId} (h : w.heap[b]? = some (.cells #[x0, x1, x2, x3, x4, x5, x6, x7] e (0, 0))) :
    (w.cell? ⟨b, 0, none⟩ = some x0 ∧ w.cell? ⟨b, 1, none⟩ = some x1 ∧ w.cell? ⟨b, 2, none⟩ = some x2 ∧ w.cell? ⟨b, 3, none⟩ = some x3) ∧ (w.cell? ⟨b, 4, none⟩ = some x4 ∧ w.cell? ⟨b, 5, none⟩ = some x5 ∧ w.cell? ⟨b, 6, none⟩ = some x6 ∧ w.cell? ⟨b, 7, none⟩ = some x7) ∧ ∀ j, w.frozen? ⟨b, j, none⟩ = false := by
  refine ⟨⟨?_, ?_, ?_, ?_⟩, ⟨?_, ?_, ?_, ?_⟩, fun j => frozen_of_row w b j _ _ h⟩ <;> rw [cell_of_row w b _ _ _ _ h] <;> rfl

theorem at_range (bs : List UInt8) (i : Nat) : 0 ≤ at_ bs i ∧ at_ bs i ≤ 255 := by
  have := (bs.getD i 0).toNat_lt
  unfold at_
  omega
theorem three_at0 (w : World) (o1 o2 o3 : Obj) : (((w.alloc o1).alloc o2).alloc o3).drew.heap[w.heap.size]? = some o1 := by
  show (((w.alloc o1).alloc o2).alloc o3).heap[w.heap.size]? = some o1
  rw [Below.heap_alloc _ _ _ (by simp; omega), Below.heap_alloc _ _ _ (by simp), heap_alloc_new]
theorem three_at1 (w : World) (o1 o2 o3 : Obj) : (((w.alloc o1).alloc o2).alloc o3).drew.heap[w.heap.size + 1]? = some o2 := by
  show (((w.alloc o1).alloc o2).alloc o3).heap[w.heap.size + 1]? = some o2
  rw [Below.heap_alloc _ _ _ (by simp), show w.heap.size + 1 = (w.alloc o1).heap.size by simp, heap_alloc_new]
theorem three_at2 (w : World) (o1 o2 o3 : Obj) : (((w.alloc o1).alloc o2).alloc o3).drew.heap[w.heap.size + 1 + 1]? = some o3 := by
  show (((w.alloc o1).alloc o2).alloc o3).heap[w.heap.size + 1 + 1]? = some o3
  rw [show w.heap.size + 1 + 1 = ((w.alloc o1).alloc o2).heap.size by simp, heap_alloc_new]

theorem ByAt.later {w w' : World} {a : Option Addr} {bs : List UInt8} (h : ByAt w a bs) (hb : Below w.heap.size w w') : ByAt w' a bs := fun h0 => by
  obtain ⟨b, off, rfl, hc⟩ := h h0
  exact ⟨b, off, rfl, fun j x hx => (hb.cell (p := ⟨b, off + j, none⟩) (World.block_lt_of_cell? w _ (hc j x hx))).trans (hc j x hx)⟩
theorem ByAt.get {w : World} {b off : Nat} {bs : List UInt8} (hc : ∀ (j : Nat) (x : UInt8), bs[j]? = some x → w.cell? ⟨b, off + j, none⟩ = some (.int .u8 (x.toNat : Int))) (i : Nat) (hi : i < bs.length) : w.cell? ⟨b, off + i, none⟩ = some (.int .u8 (at_ bs i)) := by
  have := hc i bs[i] (List.getElem?_eq_getElem hi)
  rw [this]
  simp [at_, List.getD, List.getElem?_eq_getElem hi]

set_option maxRecDepth 100000 in
set_option maxHeartbeats 4000000 in
theorem read_any (a0 : Option Addr) (L cap : Nat) (bs : List UInt8) (w : World) (hb : ByAt w a0 bs) (hL : bs.length = L) (hcap : L ≤ cap) (hm : L ≤ maxLen) :
    Calls Try.prog 68 #[.slice a0 L cap] w (ReadRes w bs) := by
  unfold maxLen at hm
  by_cases h5 : (L : Int) < 5
  · have HN : Hid (readR bs = none) := by unfold readR; rw [if_pos (by omega)]; exact rfl
    go_enter Try.func68, Try.ntmps68
    go_wp2
    refine bodyPost_ret (v := .tuple #[.agg #[.int .i64 0, .int .i64 0, .int .i64 0, .string ⟨#[]⟩, .string ⟨#[]⟩, .string ⟨#[]⟩, .int .i64 0, .string ⟨#[]⟩], .bool false]) (by simp [results, Try.results68, go_sem]) rfl ?_
    exact ⟨(Below.refl _ _).alloc (Nat.le_refl _) _, 0, 0, 0, _, _, _, 0, _, false, rfl, .inl ⟨rfl, unhide HN⟩⟩
  · obtain ⟨b, off, rfl, hc⟩ := hb (by intro h; simp [h] at hL; omega)
    have c1 := ByAt.get hc 1 (by omega)
    have c2 := ByAt.get hc 2 (by omega)
    have c3 := ByAt.get hc 3 (by omega)
    have c4 := ByAt.get hc 4 (by omega)
    have hbl : b < w.heap.size := World.block_lt_of_cell? w _ c1
    obtain ⟨r1, r1'⟩ := at_range bs 1
    obtain ⟨r2, r2'⟩ := at_range bs 2
    obtain ⟨r3, r3'⟩ := at_range bs 3
    obtain ⟨r4, r4'⟩ := at_range bs 4
    obtain ⟨x1, hx1⟩ : ∃ x, x = at_ bs 1 := ⟨_, rfl⟩
    obtain ⟨x2, hx2⟩ : ∃ x, x = at_ bs 2 := ⟨_, rfl⟩
    obtain ⟨x3, hx3⟩ : ∃ x, x = at_ bs 3 := ⟨_, rfl⟩
    obtain ⟨x4, hx4⟩ : ∃ x, x = at_ bs 4 := ⟨_, rfl⟩
    rw [← hx1] at c1 r1 r1'
    rw [← hx2] at c2 r2 r2'
    rw [← hx3] at c3 r3 r3'
    rw [← hx4] at c4 r4 r4'
    have HX := hide (And.intro hx1 (And.intro hx2 (And.intro hx3 hx4)))
    clear hx1 hx2 hx3 hx4
    have HC := hide hc
    clear hc hb
    obtain ⟨W, HW⟩ : ∃ W : World, Hid (W = (((w.alloc (.cells #[.int .i64 0, .int .i64 0, .int .i64 0, .string ⟨#[]⟩, .string ⟨#[]⟩, .string ⟨#[]⟩, .int .i64 0, .string ⟨#[]⟩] 47)).alloc (.cells #[.int .i64 x1, .int .i64 x2, .int .i64 x3, .string ⟨#[]⟩, .string ⟨#[]⟩, .string ⟨#[]⟩, .int .i64 x4, .string ⟨#[]⟩] 47)).alloc (.cells #[.pointer (some ⟨w.heap.size + 1, 3, none⟩), .pointer (some ⟨w.heap.size + 1, 4, none⟩), .pointer (some ⟨w.heap.size + 1, 5, none⟩)] 133)).drew) := ⟨_, rfl⟩
    have HBW : Hid (Below w.heap.size w W) := by rw [HW.out]; exact ((((Below.refl _ _).alloc (Nat.le_refl _) _).alloc (by simp) _).alloc (by simp; omega) _).drew
    have HWR : Hid (W.heap[w.heap.size + 1]? = some (.cells #[.int .i64 x1, .int .i64 x2, .int .i64 x3, .string ⟨#[]⟩, .string ⟨#[]⟩, .string ⟨#[]⟩, .int .i64 x4, .string ⟨#[]⟩] 47 (0, 0))) := by rw [HW.out]; exact three_at1 w _ _ _
    have HWV : Hid (W.heap[w.heap.size]? = some (.cells #[.int .i64 0, .int .i64 0, .int .i64 0, .string ⟨#[]⟩, .string ⟨#[]⟩, .string ⟨#[]⟩, .int .i64 0, .string ⟨#[]⟩] 47 (0, 0))) := by rw [HW.out]; exact three_at0 w _ _ _
    have HWP : Hid (W.heap[w.heap.size + 1 + 1]? = some (.cells #[.pointer (some ⟨w.heap.size + 1, 3, none⟩), .pointer (some ⟨w.heap.size + 1, 4, none⟩), .pointer (some ⟨w.heap.size + 1, 5, none⟩)] 133 (0, 0))) := by rw [HW.out]; exact three_at2 w _ _ _
    have htk : ∀ A m c', m = L - 5 → m ≤ c' → (5 < L → A = ⟨b, off + 5, none⟩) → Calls Try.prog 84 #[.slice (some A) m c', .slice (some ⟨w.heap.size + 1 + 1, 0, none⟩) 3 3] W (TakeRes W (bs.drop 5) (w.heap.size + 1) (.int .i64 x1) (.int .i64 x2) (.int .i64 x3) (.int .i64 x4) (.string ⟨#[]⟩)) := fun A m c' hm' hc' hA => by
      have hlen : (bs.drop 5).length = m := by rw [List.length_drop, hL, hm']
      have h5l : bs.drop 5 ≠ [] → 5 < L := fun h => by
        rcases Nat.lt_or_ge 5 L with h' | h'
        · exact h'
        · exact absurd (List.drop_of_length_le (by omega)) h
      rw [← hlen]
      refine take_any (some A) c' (w.heap.size + 1) (w.heap.size + 1 + 1) (bs.drop 5) W ?_ (by omega) (by unfold maxLen; omega) (fun h a e => ?_) (by omega) (by rw [cell_of_row W _ 0 _ _ _ (unhide HWP)]; rfl) (by rw [cell_of_row W _ 1 _ _ _ (unhide HWP)]; rfl) (by rw [cell_of_row W _ 2 _ _ _ (unhide HWP)]; rfl) _ _ _ _ _ _ _ _ (unhide HWR)
      · refine ByAt.later (w := w) (fun h => ⟨b, off + 5, by rw [hA (h5l h)], fun j x hx => ?_⟩) (unhide HBW)
        rw [List.getElem?_drop] at hx
        rw [show off + 5 + j = off + (5 + j) by omega]
        exact (unhide HC) _ _ hx
      · cases e
        rw [hA (h5l h)]
        show b ≠ _
        omega
    have HTK := hide htk
    clear htk
    by_cases q5 : cap = 5
    · subst q5
      go_enter Try.func68, Try.ntmps68
      go_wp2_with fail
      go_region
      go_wp2_with fail
      rw [← HW.out]
      refine ((unhide HTK) ⟨b, off, none⟩ (0) (0) (by omega) (by omega) (by omega)).mono ?_
      rintro e w1 ⟨t0, t1, t2, ok, a1, n, c1', rfl, blk, kept, hres⟩
      have HV := hide ((kept.block (w.heap.size) (Array.getElem?_eq_some_iff.1 (unhide HWV)).1 (by simp)).trans (unhide HWV))
      obtain ⟨⟨y0, y1, y2, y3⟩, ⟨y4, y5, y6, y7⟩, _⟩ := eight blk
      obtain ⟨⟨z0, z1, z2, z3⟩, ⟨z4, z5, z6, z7⟩, fz⟩ := eight (unhide HV)
      have HK := hide kept
      clear kept c1 c2 c3 c4 blk
      rcases hres with ⟨rfl, hN⟩ | ⟨rfl, rest, hS, hn⟩
      · have HN : Hid (readR bs = none) := by unfold readR; rw [if_neg (by omega), hN]; exact rfl
        clear hN
        go_wp2
        generalize hw2 : (((((((w1.setCell ⟨w.heap.size, 0, none⟩ (.int .i64 x1)).setCell ⟨w.heap.size, 1, none⟩ (.int .i64 x2)).setCell ⟨w.heap.size, 2, none⟩ (.int .i64 x3)).setCell ⟨w.heap.size, 3, none⟩ (.string t0)).setCell ⟨w.heap.size, 4, none⟩ (.string t1)).setCell ⟨w.heap.size, 5, none⟩ (.string t2)).setCell ⟨w.heap.size, 6, none⟩ (.int .i64 x4)).setCell ⟨w.heap.size, 7, none⟩ (.string ⟨#[]⟩) = w2
        have hb2 := set8_blk (unhide HV) (.int .i64 x1) (.int .i64 x2) (.int .i64 x3) (.string t0) (.string t1) (.string t2) (.int .i64 x4) (.string ⟨#[]⟩)
        have hk2 := set8_kept w1 w.heap.size (.int .i64 x1) (.int .i64 x2) (.int .i64 x3) (.string t0) (.string t1) (.string t2) (.int .i64 x4) (.string ⟨#[]⟩)
        unfold set8 at hb2 hk2
        rw [hw2] at hb2 hk2
        obtain ⟨⟨q0, q1, q2, q3⟩, ⟨q4, q5, q6, q7⟩, _⟩ := eight hb2
        have bel : Below w.heap.size w w2 := ((unhide HBW).trans ((unhide HK).below (unhide HBW).size (by simp))).trans (hk2.below (by have := (unhide HBW).size; have := (unhide HK).size; omega) (by simp))
        refine bodyPost_ret (v := .tuple #[.agg #[.int .i64 x1, .int .i64 x2, .int .i64 x3, .string t0, .string t1, .string t2, .int .i64 x4, .string ⟨#[]⟩], .bool false]) (by simp [results, Try.results68, go_sem, q0, q1, q2, q3, q4, q5, q6, q7]) rfl ?_
        exact ⟨bel, _, _, _, _, _, _, _, _, false, rfl, .inl ⟨rfl, unhide HN⟩⟩
      · cases rest with
        | nil =>
          obtain rfl : n = 0 := hn
          have HS : Hid (readR bs = some ⟨x1, x2, ⟨x3, t0, t1, t2⟩, x4, ⟨#[]⟩⟩) := by unfold readR; rw [if_neg (by omega), hS, (unhide HX).1, (unhide HX).2.1, (unhide HX).2.2.1, (unhide HX).2.2.2]; exact rfl
          clear hS
          go_wp2
          generalize hw2 : (((((((w1.setCell ⟨w.heap.size, 0, none⟩ (.int .i64 x1)).setCell ⟨w.heap.size, 1, none⟩ (.int .i64 x2)).setCell ⟨w.heap.size, 2, none⟩ (.int .i64 x3)).setCell ⟨w.heap.size, 3, none⟩ (.string t0)).setCell ⟨w.heap.size, 4, none⟩ (.string t1)).setCell ⟨w.heap.size, 5, none⟩ (.string t2)).setCell ⟨w.heap.size, 6, none⟩ (.int .i64 x4)).setCell ⟨w.heap.size, 7, none⟩ (.string ⟨#[]⟩) = w2
          have hb2 := set8_blk (unhide HV) (.int .i64 x1) (.int .i64 x2) (.int .i64 x3) (.string t0) (.string t1) (.string t2) (.int .i64 x4) (.string ⟨#[]⟩)
          have hk2 := set8_kept w1 w.heap.size (.int .i64 x1) (.int .i64 x2) (.int .i64 x3) (.string t0) (.string t1) (.string t2) (.int .i64 x4) (.string ⟨#[]⟩)
          unfold set8 at hb2 hk2
          rw [hw2] at hb2 hk2
          obtain ⟨⟨q0, q1, q2, q3⟩, ⟨q4, q5, q6, q7⟩, _⟩ := eight hb2
          have bel : Below w.heap.size w w2 := ((unhide HBW).trans ((unhide HK).below (unhide HBW).size (by simp))).trans (hk2.below (by have := (unhide HBW).size; have := (unhide HK).size; omega) (by simp))
          refine bodyPost_ret (v := .tuple #[.agg #[.int .i64 x1, .int .i64 x2, .int .i64 x3, .string t0, .string t1, .string t2, .int .i64 x4, .string ⟨#[]⟩], .bool true]) (by simp [results, Try.results68, go_sem, q0, q1, q2, q3, q4, q5, q6, q7]) rfl ?_
          exact ⟨bel, _, _, _, _, _, _, _, _, true, rfl, .inr ⟨rfl, unhide HS⟩⟩
        | cons r rs =>
          obtain rfl : n = rs.length + 1 := hn
          have HN : Hid (readR bs = none) := by unfold readR; rw [if_neg (by omega), hS]; exact rfl
          have hn0 : ((rs.length : Int) + 1 == 0) = false := by simp; omega
          clear hS
          go_wp2
          generalize hw2 : (((((((w1.setCell ⟨w.heap.size, 0, none⟩ (.int .i64 x1)).setCell ⟨w.heap.size, 1, none⟩ (.int .i64 x2)).setCell ⟨w.heap.size, 2, none⟩ (.int .i64 x3)).setCell ⟨w.heap.size, 3, none⟩ (.string t0)).setCell ⟨w.heap.size, 4, none⟩ (.string t1)).setCell ⟨w.heap.size, 5, none⟩ (.string t2)).setCell ⟨w.heap.size, 6, none⟩ (.int .i64 x4)).setCell ⟨w.heap.size, 7, none⟩ (.string ⟨#[]⟩) = w2
          have hb2 := set8_blk (unhide HV) (.int .i64 x1) (.int .i64 x2) (.int .i64 x3) (.string t0) (.string t1) (.string t2) (.int .i64 x4) (.string ⟨#[]⟩)
          have hk2 := set8_kept w1 w.heap.size (.int .i64 x1) (.int .i64 x2) (.int .i64 x3) (.string t0) (.string t1) (.string t2) (.int .i64 x4) (.string ⟨#[]⟩)
          unfold set8 at hb2 hk2
          rw [hw2] at hb2 hk2
          obtain ⟨⟨q0, q1, q2, q3⟩, ⟨q4, q5, q6, q7⟩, _⟩ := eight hb2
          have bel : Below w.heap.size w w2 := ((unhide HBW).trans ((unhide HK).below (unhide HBW).size (by simp))).trans (hk2.below (by have := (unhide HBW).size; have := (unhide HK).size; omega) (by simp))
          refine bodyPost_ret (v := .tuple #[.agg #[.int .i64 x1, .int .i64 x2, .int .i64 x3, .string t0, .string t1, .string t2, .int .i64 x4, .string ⟨#[]⟩], .bool false]) (by simp [results, Try.results68, go_sem, q0, q1, q2, q3, q4, q5, q6, q7]) rfl ?_
          exact ⟨bel, _, _, _, _, _, _, _, _, false, rfl, .inl ⟨rfl, unhide HN⟩⟩
    · have q5' := q5
      go_enter Try.func68, Try.ntmps68
      go_wp2_with fail
      go_region
      go_wp2_with fail
      rw [← HW.out]
      refine ((unhide HTK) ⟨b, off + 5, none⟩ (L - 5) (cap - 5) (by omega) (by omega) (fun _ => rfl)).mono ?_
      rintro e w1 ⟨t0, t1, t2, ok, a1, n, c1', rfl, blk, kept, hres⟩
      have HV := hide ((kept.block (w.heap.size) (Array.getElem?_eq_some_iff.1 (unhide HWV)).1 (by simp)).trans (unhide HWV))
      obtain ⟨⟨y0, y1, y2, y3⟩, ⟨y4, y5, y6, y7⟩, _⟩ := eight blk
      obtain ⟨⟨z0, z1, z2, z3⟩, ⟨z4, z5, z6, z7⟩, fz⟩ := eight (unhide HV)
      have HK := hide kept
      clear kept c1 c2 c3 c4 blk
      rcases hres with ⟨rfl, hN⟩ | ⟨rfl, rest, hS, hn⟩
      · have HN : Hid (readR bs = none) := by unfold readR; rw [if_neg (by omega), hN]; exact rfl
        clear hN
        go_wp2
        generalize hw2 : (((((((w1.setCell ⟨w.heap.size, 0, none⟩ (.int .i64 x1)).setCell ⟨w.heap.size, 1, none⟩ (.int .i64 x2)).setCell ⟨w.heap.size, 2, none⟩ (.int .i64 x3)).setCell ⟨w.heap.size, 3, none⟩ (.string t0)).setCell ⟨w.heap.size, 4, none⟩ (.string t1)).setCell ⟨w.heap.size, 5, none⟩ (.string t2)).setCell ⟨w.heap.size, 6, none⟩ (.int .i64 x4)).setCell ⟨w.heap.size, 7, none⟩ (.string ⟨#[]⟩) = w2
        have hb2 := set8_blk (unhide HV) (.int .i64 x1) (.int .i64 x2) (.int .i64 x3) (.string t0) (.string t1) (.string t2) (.int .i64 x4) (.string ⟨#[]⟩)
        have hk2 := set8_kept w1 w.heap.size (.int .i64 x1) (.int .i64 x2) (.int .i64 x3) (.string t0) (.string t1) (.string t2) (.int .i64 x4) (.string ⟨#[]⟩)
        unfold set8 at hb2 hk2
        rw [hw2] at hb2 hk2
        obtain ⟨⟨q0, q1, q2, q3⟩, ⟨q4, q5, q6, q7⟩, _⟩ := eight hb2
        have bel : Below w.heap.size w w2 := ((unhide HBW).trans ((unhide HK).below (unhide HBW).size (by simp))).trans (hk2.below (by have := (unhide HBW).size; have := (unhide HK).size; omega) (by simp))
        refine bodyPost_ret (v := .tuple #[.agg #[.int .i64 x1, .int .i64 x2, .int .i64 x3, .string t0, .string t1, .string t2, .int .i64 x4, .string ⟨#[]⟩], .bool false]) (by simp [results, Try.results68, go_sem, q0, q1, q2, q3, q4, q5, q6, q7]) rfl ?_
        exact ⟨bel, _, _, _, _, _, _, _, _, false, rfl, .inl ⟨rfl, unhide HN⟩⟩
      · cases rest with
        | nil =>
          obtain rfl : n = 0 := hn
          have HS : Hid (readR bs = some ⟨x1, x2, ⟨x3, t0, t1, t2⟩, x4, ⟨#[]⟩⟩) := by unfold readR; rw [if_neg (by omega), hS, (unhide HX).1, (unhide HX).2.1, (unhide HX).2.2.1, (unhide HX).2.2.2]; exact rfl
          clear hS
          go_wp2
          generalize hw2 : (((((((w1.setCell ⟨w.heap.size, 0, none⟩ (.int .i64 x1)).setCell ⟨w.heap.size, 1, none⟩ (.int .i64 x2)).setCell ⟨w.heap.size, 2, none⟩ (.int .i64 x3)).setCell ⟨w.heap.size, 3, none⟩ (.string t0)).setCell ⟨w.heap.size, 4, none⟩ (.string t1)).setCell ⟨w.heap.size, 5, none⟩ (.string t2)).setCell ⟨w.heap.size, 6, none⟩ (.int .i64 x4)).setCell ⟨w.heap.size, 7, none⟩ (.string ⟨#[]⟩) = w2
          have hb2 := set8_blk (unhide HV) (.int .i64 x1) (.int .i64 x2) (.int .i64 x3) (.string t0) (.string t1) (.string t2) (.int .i64 x4) (.string ⟨#[]⟩)
          have hk2 := set8_kept w1 w.heap.size (.int .i64 x1) (.int .i64 x2) (.int .i64 x3) (.string t0) (.string t1) (.string t2) (.int .i64 x4) (.string ⟨#[]⟩)
          unfold set8 at hb2 hk2
          rw [hw2] at hb2 hk2
          obtain ⟨⟨q0, q1, q2, q3⟩, ⟨q4, q5, q6, q7⟩, _⟩ := eight hb2
          have bel : Below w.heap.size w w2 := ((unhide HBW).trans ((unhide HK).below (unhide HBW).size (by simp))).trans (hk2.below (by have := (unhide HBW).size; have := (unhide HK).size; omega) (by simp))
          refine bodyPost_ret (v := .tuple #[.agg #[.int .i64 x1, .int .i64 x2, .int .i64 x3, .string t0, .string t1, .string t2, .int .i64 x4, .string ⟨#[]⟩], .bool true]) (by simp [results, Try.results68, go_sem, q0, q1, q2, q3, q4, q5, q6, q7]) rfl ?_
          exact ⟨bel, _, _, _, _, _, _, _, _, true, rfl, .inr ⟨rfl, unhide HS⟩⟩
        | cons r rs =>
          obtain rfl : n = rs.length + 1 := hn
          have HN : Hid (readR bs = none) := by unfold readR; rw [if_neg (by omega), hS]; exact rfl
          have hn0 : ((rs.length : Int) + 1 == 0) = false := by simp; omega
          clear hS
          go_wp2
          generalize hw2 : (((((((w1.setCell ⟨w.heap.size, 0, none⟩ (.int .i64 x1)).setCell ⟨w.heap.size, 1, none⟩ (.int .i64 x2)).setCell ⟨w.heap.size, 2, none⟩ (.int .i64 x3)).setCell ⟨w.heap.size, 3, none⟩ (.string t0)).setCell ⟨w.heap.size, 4, none⟩ (.string t1)).setCell ⟨w.heap.size, 5, none⟩ (.string t2)).setCell ⟨w.heap.size, 6, none⟩ (.int .i64 x4)).setCell ⟨w.heap.size, 7, none⟩ (.string ⟨#[]⟩) = w2
          have hb2 := set8_blk (unhide HV) (.int .i64 x1) (.int .i64 x2) (.int .i64 x3) (.string t0) (.string t1) (.string t2) (.int .i64 x4) (.string ⟨#[]⟩)
          have hk2 := set8_kept w1 w.heap.size (.int .i64 x1) (.int .i64 x2) (.int .i64 x3) (.string t0) (.string t1) (.string t2) (.int .i64 x4) (.string ⟨#[]⟩)
          unfold set8 at hb2 hk2
          rw [hw2] at hb2 hk2
          obtain ⟨⟨q0, q1, q2, q3⟩, ⟨q4, q5, q6, q7⟩, _⟩ := eight hb2
          have bel : Below w.heap.size w w2 := ((unhide HBW).trans ((unhide HK).below (unhide HBW).size (by simp))).trans (hk2.below (by have := (unhide HBW).size; have := (unhide HK).size; omega) (by simp))
          refine bodyPost_ret (v := .tuple #[.agg #[.int .i64 x1, .int .i64 x2, .int .i64 x3, .string t0, .string t1, .string t2, .int .i64 x4, .string ⟨#[]⟩], .bool false]) (by simp [results, Try.results68, go_sem, q0, q1, q2, q3, q4, q5, q6, q7]) rfl ?_
          exact ⟨bel, _, _, _, _, _, _, _, _, false, rfl, .inl ⟨rfl, unhide HN⟩⟩

end Go.Proofs.Ytlndphpidkacgaa
