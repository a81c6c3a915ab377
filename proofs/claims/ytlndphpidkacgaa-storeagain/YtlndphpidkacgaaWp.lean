/- SameTexts. -/
import Derived.Test.YtlndphpidkacgaaWo
namespace Go.Proofs.Ytlndphpidkacgaa
open Go.RowKit
set_option linter.unusedSimpArgs false
set_option linter.unusedVariables false

theorem text_cell {w : World} {a : Option Addr} {n cap : Nat} {xs : List ByteArray} (h : w.ownsRow 0 9 1 (.slice a n cap) n (xs.map .string)) (j : Nat) (x : ByteArray) (hx : xs[j]? = some x) : ∃ g, a = some ⟨g, 0, none⟩ ∧ w.cell? ⟨g, j, none⟩ = some (.string x) := by
  have hl : n = xs.length := by have := h.1; simp at this; omega
  have hj : j < xs.length := (List.getElem?_eq_some_iff.1 hx).1
  rcases h.2 with ⟨_, h0⟩ | ⟨g, cap', cur, he, _⟩
  · omega
  · obtain ⟨rfl, rfl⟩ : a = some ⟨g, 0, none⟩ ∧ cap = cap' := by simpa using he
    exact ⟨g, rfl, texts_cell h j x hx⟩

theorem take_eq_succ {xs ys : List ByteArray} {k : Nat} {x y : ByteArray} (hx : xs[k]? = some x) (hy : ys[k]? = some y) (h : xs.take k = ys.take k) (he : x = y) : xs.take (k + 1) = ys.take (k + 1) := by
  rw [List.take_add_one, List.take_add_one, hx, hy, h, he]

set_option maxRecDepth 100000 in
set_option maxHeartbeats 1000000 in
theorem SameTexts_any (a b : Option Addr) (n m ca cb : Nat) (xs ys : List ByteArray) (w : World) (ha : w.ownsRow 0 9 1 (.slice a n ca) n (xs.map .string)) (hb : w.ownsRow 0 9 1 (.slice b m cb) m (ys.map .string)) (hn : n ≤ 1000) (hm : m ≤ 1000) :
    Calls Try.prog 22 #[.slice a n ca, .slice b m cb] w fun e w' => e = .returned (.bool (decide (xs = ys))) ∧ Below w.heap.size w w' := by
  have hl1 : n = xs.length := by have := ha.1; simp at this; omega
  have hl2 : m = ys.length := by have := hb.1; simp at this; omega
  by_cases hnm : n = m
  · have h0 : ((n : Int) != (m : Int)) = false := by simp [hnm]
    obtain ⟨res, HR⟩ : ∃ res, Hid (decide (xs = ys) = res) := ⟨_, rfl⟩
    rw [HR.out]
    have HA := hide ha
    have HB := hide hb
    have H1 := hide hl1
    have H2 := hide hl2
    clear ha hb hl1 hl2
    go_enter Try.func22, Try.ntmps22
    go_wp2
    go_loopw [5] (fun i wr => ∃ k : Nat, k ≤ n ∧ i = .int .i64 k ∧ Hid (Below w.heap.size w wr) ∧ Hid (xs.take k = ys.take k)) (fun i _ => n - (intOf i).toNat)
    case atStart => exact ⟨0, Nat.zero_le _, rfl, Below.refl _ _, by simp [Hid]⟩
    case round =>
      obtain ⟨k, hk, rfl, HW, HE⟩ := hrel
      by_cases hlt : (k : Int) < (n : Int)
      · obtain ⟨x, hx⟩ : ∃ x, xs[k]? = some x := ⟨_, List.getElem?_eq_getElem (by rw [← unhide H1]; omega)⟩
        obtain ⟨y, hy⟩ : ∃ y, ys[k]? = some y := ⟨_, List.getElem?_eq_getElem (by rw [← unhide H2]; omega)⟩
        obtain ⟨g1, rfl, c1⟩ := text_cell (unhide HA) k x hx
        obtain ⟨g2, rfl, c2⟩ := text_cell (unhide HB) k y hy
        have c1' := ((unhide HW).cell (p := ⟨g1, k, none⟩) (World.block_lt_of_cell? w _ c1)).trans c1
        have c2' := ((unhide HW).cell (p := ⟨g2, k, none⟩) (World.block_lt_of_cell? w _ c2)).trans c2
        have hltm : (k : Int) < (m : Int) := by omega
        have HX := hide hx
        have HY := hide hy
        clear c1 c2 hx hy
        cases hq : (x.toList == y.toList)
        · go_wp2_with fail
          go_quiet (fail)
          go_wp2
          go_ret
          have hne : x ≠ y := by rw [eqB] at hq; simpa using hq
          refine ⟨?_, ⟨(unhide HW).os, (unhide HW).tape, (unhide HW).output, (unhide HW).size, (unhide HW).block⟩⟩
          have : decide (xs = ys) = false := by
            simp only [decide_eq_false_iff_not]
            intro e
            rw [e, unhide HY] at HX
            exact hne (Option.some.inj (unhide HX)).symm
          rw [← HR.out, this]
          rfl
        · have HQ := hide hq
          go_wp2_with fail
          go_quiet (fail)
          go_wp2
          go_roundw
          case rel =>
            have he : x = y := by have := unhide HQ; rw [eqB] at this; simpa using this
            exact ⟨k + 1, by omega, by go_num, ⟨(unhide HW).os, (unhide HW).tape, (unhide HW).output, (unhide HW).size, (unhide HW).block⟩, take_eq_succ (unhide HX) (unhide HY) (unhide HE) he⟩
          case measure => simp [intOf]; omega
      · have hkn : k = n := by omega
        subst hkn
        go_wp2
        go_ret
        refine ⟨?_, unhide HW⟩
        have e := unhide HE
        rw [List.take_of_length_le (by rw [← unhide H1]; omega), List.take_of_length_le (by rw [← unhide H2]; omega)] at e
        rw [← HR.out, e]
        simp
  · have h0 : ((n : Int) != (m : Int)) = true := by simp; omega
    have hf : decide (xs = ys) = false := by
      simp only [decide_eq_false_iff_not]
      intro e
      rw [e] at hl1
      omega
    rw [hf]
    clear hf ha hb hl1 hl2
    go_enter Try.func22, Try.ntmps22
    go_wp2
    go_ret
    exact ⟨rfl, Below.refl _ _⟩

end Go.Proofs.Ytlndphpidkacgaa
