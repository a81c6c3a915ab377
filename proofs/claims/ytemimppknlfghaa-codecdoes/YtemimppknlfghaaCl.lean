/- The reference's RecordFault: the same code of a record. -/
import Derived.Test.YtemimppknlfghaaCj
import Derived.Test.YtemimppknlfghaaRb
namespace Go.Proofs.Ytemimppknlfghaa
open Go.RowKit
set_option linter.unusedSimpArgs false
set_option linter.unusedVariables false

set_option maxRecDepth 100000 in
set_option maxHeartbeats 4000000 in
theorem RecordFault_any (c n k : Int) (a b t : ByteArray) (d : Int) (u : ByteArray) (w : World) (ha : a.size ≤ maxLen) (hb : b.size ≤ maxLen) (ht : t.size ≤ maxLen) :
    Calls Try.prog 34 #[.agg #[.int .i64 c, .int .i64 n, .int .i64 k, .string a, .string b, .string t, .int .i64 d, .string u]] w
      fun e w' => e = .returned (.int .i64 (recI ⟨c, n, ⟨k, a, b, t⟩, d, u⟩)) ∧ Below w.heap.size w w' := by
  have hf : recI ⟨c, n, ⟨k, a, b, t⟩, d, u⟩ = if c < 0 ∨ 2 < c ∨ n < 1 ∨ 200 < n then 9 else if changesB k = false then 1 else if checkI ⟨k, a, b, t⟩ ≠ 0 then checkI ⟨k, a, b, t⟩ else if d < 0 ∨ 99 < d then 9 else if u ≠ ⟨#[]⟩ then 3 else 0 := rfl
  rw [hf]
  clear hf
  have hC : ∀ W : World, Calls Try.prog 26 #[.int .i64 k] W fun e w' => e = .returned (.bool (changesB k)) ∧ w' = W := fun W => IsChange_any k W
  have hD : ∀ W : World, Calls Try.prog 19 #[.agg #[.int .i64 k, .string a, .string b, .string t]] W fun e w' => e = .returned (.int .i64 (checkI ⟨k, a, b, t⟩)) ∧ Below W.heap.size W w' := fun W => CallFault_any k a b t W ha hb ht
  generalize changesB k = ch at hC ⊢
  generalize checkI ⟨k, a, b, t⟩ = ck at hD ⊢
  have HC := hide hC
  have HD := hide hD
  clear hC hD
  by_cases q1 : c < 0
  · rw [if_pos (by omega)]
    go_enter Try.func34, Try.ntmps34
    go_wp2
    go_ret
    exact ⟨rfl, (Below.refl _ _).alloc (Nat.le_refl _) _⟩
  by_cases q2 : 3 ≤ c
  · rw [if_pos (by omega)]
    go_enter Try.func34, Try.ntmps34
    go_wp2
    go_ret
    exact ⟨rfl, (Below.refl _ _).alloc (Nat.le_refl _) _⟩
  by_cases q3 : n < 1
  · rw [if_pos (by omega)]
    go_enter Try.func34, Try.ntmps34
    go_wp2
    go_ret
    exact ⟨rfl, (Below.refl _ _).alloc (Nat.le_refl _) _⟩
  by_cases q4 : 200 < n
  · rw [if_pos (by omega)]
    go_enter Try.func34, Try.ntmps34
    go_wp2
    go_ret
    exact ⟨rfl, (Below.refl _ _).alloc (Nat.le_refl _) _⟩
  rw [if_neg (by omega)]
  cases ch
  · rw [if_pos rfl]
    go_enter Try.func34, Try.ntmps34
    go_wp2_with fail
    refine ((unhide HC) _).mono ?_
    rintro e w1 ⟨rfl, rfl⟩
    go_wp2
    go_ret
    exact ⟨rfl, (Below.refl _ _).alloc (Nat.le_refl _) _⟩
  rw [if_neg (by simp)]
  by_cases q5 : ck = 0
  · subst q5
    rw [if_neg (by simp)]
    by_cases q6 : d < 0
    · rw [if_pos (by omega)]
      go_enter Try.func34, Try.ntmps34
      go_wp2_with fail
      refine ((unhide HC) _).mono ?_
      rintro e w1 ⟨rfl, rfl⟩
      go_wp2_with fail
      refine ((unhide HD) _).mono ?_
      rintro e w1 ⟨rfl, b1⟩
      obtain ⟨hc1, hf1⟩ := bcell b1
      have hz : w.heap.size < w1.heap.size := by have := b1.size; simp at this; omega
      go_wp2
      go_ret
      exact ⟨rfl, ((Below.refl _ _).alloc (Nat.le_refl _) _).trans (b1.mono (by simp))⟩
    by_cases q7 : 99 < d
    · rw [if_pos (by omega)]
      go_enter Try.func34, Try.ntmps34
      go_wp2_with fail
      refine ((unhide HC) _).mono ?_
      rintro e w1 ⟨rfl, rfl⟩
      go_wp2_with fail
      refine ((unhide HD) _).mono ?_
      rintro e w1 ⟨rfl, b1⟩
      obtain ⟨hc1, hf1⟩ := bcell b1
      have hz : w.heap.size < w1.heap.size := by have := b1.size; simp at this; omega
      go_wp2
      go_ret
      exact ⟨rfl, ((Below.refl _ _).alloc (Nat.le_refl _) _).trans (b1.mono (by simp))⟩
    rw [if_neg (by omega)]
    cases q8 : u.toList.isEmpty
    · rw [empty_toList] at q8
      rw [if_pos (of_decide_eq_false q8)]
      rw [← empty_toList] at q8
      go_enter Try.func34, Try.ntmps34
      go_wp2_with fail
      refine ((unhide HC) _).mono ?_
      rintro e w1 ⟨rfl, rfl⟩
      go_wp2_with fail
      refine ((unhide HD) _).mono ?_
      rintro e w1 ⟨rfl, b1⟩
      obtain ⟨hc1, hf1⟩ := bcell b1
      have hz : w.heap.size < w1.heap.size := by have := b1.size; simp at this; omega
      go_wp2
      go_ret
      exact ⟨rfl, ((Below.refl _ _).alloc (Nat.le_refl _) _).trans (b1.mono (by simp))⟩
    · rw [empty_toList] at q8
      obtain rfl : u = ⟨#[]⟩ := of_decide_eq_true q8
      rw [if_neg (by simp)]
      clear q8
      go_enter Try.func34, Try.ntmps34
      go_wp2_with fail
      refine ((unhide HC) _).mono ?_
      rintro e w1 ⟨rfl, rfl⟩
      go_wp2_with fail
      refine ((unhide HD) _).mono ?_
      rintro e w1 ⟨rfl, b1⟩
      obtain ⟨hc1, hf1⟩ := bcell b1
      have hz : w.heap.size < w1.heap.size := by have := b1.size; simp at this; omega
      go_wp2
      go_ret
      exact ⟨rfl, ((Below.refl _ _).alloc (Nat.le_refl _) _).trans (b1.mono (by simp))⟩
  · rw [if_pos q5]
    go_enter Try.func34, Try.ntmps34
    go_wp2_with fail
    refine ((unhide HC) _).mono ?_
    rintro e w1 ⟨rfl, rfl⟩
    go_wp2_with fail
    refine ((unhide HD) _).mono ?_
    rintro e w1 ⟨rfl, b1⟩
    obtain ⟨hc1, hf1⟩ := bcell b1
    have hz : w.heap.size < w1.heap.size := by have := b1.size; simp at this; omega
    go_wp2
    go_ret
    exact ⟨rfl, ((Below.refl _ _).alloc (Nat.le_refl _) _).trans (b1.mono (by simp))⟩

end Go.Proofs.Ytemimppknlfghaa
