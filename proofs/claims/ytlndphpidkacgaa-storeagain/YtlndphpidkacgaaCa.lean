/- Package codec: within, Check: the code of a record. -/
import Derived.Test.YtlndphpidkacgaaRep2
import Derived.Test.YtlndphpidkacgaaWc
namespace Go.Proofs.Ytlndphpidkacgaa
open Go.RowKit
set_option linter.unusedSimpArgs false
set_option linter.unusedVariables false

/-- A record of package api. -/
structure ARec where
  client : Int
  no : Int
  call : ACall
  code : Int
  ans : ByteArray

/-- A record as a value. -/
def ARec.cells (r : ARec) : Array Value := #[.int .i64 r.client, .int .i64 r.no, .int .i64 r.call.kind, .string r.call.name, .string r.call.dst, .string r.call.text, .int .i64 r.code, .string r.ans]

def recI (r : ARec) : Int :=
  if r.client < 0 ∨ 2 < r.client ∨ r.no < 1 ∨ 200 < r.no then 9
  else if changesB r.call.kind = false then 1
  else if checkI r.call ≠ 0 then checkI r.call
  else if r.code < 0 ∨ 99 < r.code then 9
  else if r.ans ≠ ⟨#[]⟩ then 3
  else 0

set_option maxHeartbeats 400000 in
theorem cwithin_any (n l h : Int) (w : World) :
    Calls Try.prog 69 #[.int .i64 n, .int .i64 l, .int .i64 h] w fun e w' => e = .returned (.bool (decide (l ≤ n) && decide (n ≤ h))) ∧ w' = w := by
  by_cases h1 : l ≤ n
  · by_cases h2 : n ≤ h
    · go_enter Try.func69, Try.ntmps69
      go_wp2
      go_ret
      exact ⟨by simp [h1, h2], rfl⟩
    · go_enter Try.func69, Try.ntmps69
      go_wp2
      go_ret
      exact ⟨by simp [h1, h2], rfl⟩
  · go_enter Try.func69, Try.ntmps69
    go_wp2
    go_ret
    exact ⟨by simp; omega, rfl⟩

theorem empty_toList {s : ByteArray} : s.toList.isEmpty = decide (s = ⟨#[]⟩) := by
  rw [ByteArray.toList_eq s]
  cases s with | mk d =>
  cases d with | mk l =>
  cases l <;> simp

set_option maxRecDepth 100000 in
set_option maxHeartbeats 2000000 in
theorem cCheck_any (c n k : Int) (a b t : ByteArray) (d : Int) (u : ByteArray) (w : World) (ha : a.size ≤ maxLen) (hb : b.size ≤ maxLen) (ht : t.size ≤ maxLen) :
    Calls Try.prog 40 #[.agg #[.int .i64 c, .int .i64 n, .int .i64 k, .string a, .string b, .string t, .int .i64 d, .string u]] w
      fun e w' => e = .returned (.int .i64 (recI ⟨c, n, ⟨k, a, b, t⟩, d, u⟩)) ∧ Below w.heap.size w w' := by
  have hf : recI ⟨c, n, ⟨k, a, b, t⟩, d, u⟩ = if c < 0 ∨ 2 < c ∨ n < 1 ∨ 200 < n then 9 else if changesB k = false then 1 else if checkI ⟨k, a, b, t⟩ ≠ 0 then checkI ⟨k, a, b, t⟩ else if d < 0 ∨ 99 < d then 9 else if u ≠ ⟨#[]⟩ then 3 else 0 := rfl
  rw [hf]
  clear hf
  have hA : ∀ W : World, Calls Try.prog 69 #[.int .i64 c, .int .i64 0, .int .i64 2] W fun e w' => e = .returned (.bool (decide (0 ≤ c) && decide (c ≤ 2))) ∧ w' = W := fun W => cwithin_any c 0 2 W
  have hB : ∀ W : World, Calls Try.prog 69 #[.int .i64 n, .int .i64 1, .int .i64 200] W fun e w' => e = .returned (.bool (decide (1 ≤ n) && decide (n ≤ 200))) ∧ w' = W := fun W => cwithin_any n 1 200 W
  have hC : ∀ W : World, Calls Try.prog 25 #[.int .i64 k] W fun e w' => e = .returned (.bool (changesB k)) ∧ w' = W := fun W => Changes_any k W
  have hD : ∀ W : World, Calls Try.prog 18 #[.agg #[.int .i64 k, .string a, .string b, .string t]] W fun e w' => e = .returned (.int .i64 (checkI ⟨k, a, b, t⟩)) ∧ Below W.heap.size W w' := fun W => Check_any k a b t W ha hb ht
  have hE : ∀ W : World, Calls Try.prog 69 #[.int .i64 d, .int .i64 0, .int .i64 99] W fun e w' => e = .returned (.bool (decide (0 ≤ d) && decide (d ≤ 99))) ∧ w' = W := fun W => cwithin_any d 0 99 W
  have eA : (decide (0 ≤ c) && decide (c ≤ 2)) = decide (¬ (c < 0 ∨ 2 < c)) := by rw [Bool.eq_iff_iff]; simp
  have eB : (decide (1 ≤ n) && decide (n ≤ 200)) = decide (¬ (n < 1 ∨ 200 < n)) := by rw [Bool.eq_iff_iff]; simp
  have eE : (decide (0 ≤ d) && decide (d ≤ 99)) = decide (¬ (d < 0 ∨ 99 < d)) := by rw [Bool.eq_iff_iff]; simp
  rw [eA] at hA
  rw [eB] at hB
  rw [eE] at hE
  clear eA eB eE
  generalize changesB k = ch at hC ⊢
  generalize checkI ⟨k, a, b, t⟩ = ck at hD ⊢
  by_cases q1 : c < 0 ∨ 2 < c
  · rw [if_pos (by omega)]
    rw [decide_eq_false (by omega)] at hA
    have HA := hide hA
    clear hA hB hC hD hE
    go_enter Try.func40, Try.ntmps40
    go_wp2_with fail
    refine ((unhide HA) _).mono ?_
    rintro e w1 ⟨rfl, rfl⟩
    go_wp2
    go_ret
    exact ⟨rfl, (Below.refl _ _).alloc (Nat.le_refl _) _⟩
  rw [decide_eq_true (by omega)] at hA
  by_cases q2 : n < 1 ∨ 200 < n
  · rw [if_pos (by omega)]
    rw [decide_eq_false (by omega)] at hB
    have HA := hide hA
    have HB := hide hB
    clear hA hB hC hD hE
    go_enter Try.func40, Try.ntmps40
    go_wp2_with fail
    refine ((unhide HA) _).mono ?_
    rintro e w1 ⟨rfl, rfl⟩
    go_wp2_with fail
    refine ((unhide HB) _).mono ?_
    rintro e w1 ⟨rfl, rfl⟩
    go_wp2
    go_ret
    exact ⟨rfl, (Below.refl _ _).alloc (Nat.le_refl _) _⟩
  rw [decide_eq_true (by omega)] at hB
  rw [if_neg (by omega)]
  have HA := hide hA
  have HB := hide hB
  have HC := hide hC
  have HD := hide hD
  clear hA hB hC hD q1 q2
  cases ch
  · rw [if_pos rfl]
    clear hE
    go_enter Try.func40, Try.ntmps40
    go_wp2_with fail
    refine ((unhide HA) _).mono ?_
    rintro e w1 ⟨rfl, rfl⟩
    go_wp2_with fail
    refine ((unhide HB) _).mono ?_
    rintro e w1 ⟨rfl, rfl⟩
    go_wp2_with fail
    refine ((unhide HC) _).mono ?_
    rintro e w1 ⟨rfl, rfl⟩
    go_wp2
    go_ret
    exact ⟨rfl, (Below.refl _ _).alloc (Nat.le_refl _) _⟩
  rw [if_neg (by simp)]
  by_cases q3 : ck = 0
  · subst q3
    rw [if_neg (by simp)]
    by_cases q4 : d < 0 ∨ 99 < d
    · rw [if_pos q4]
      rw [decide_eq_false (by omega)] at hE
      have HE := hide hE
      clear hE q4
      go_enter Try.func40, Try.ntmps40
      go_wp2_with fail
      refine ((unhide HA) _).mono ?_
      rintro e w1 ⟨rfl, rfl⟩
      go_wp2_with fail
      refine ((unhide HB) _).mono ?_
      rintro e w1 ⟨rfl, rfl⟩
      go_wp2_with fail
      refine ((unhide HC) _).mono ?_
      rintro e w1 ⟨rfl, rfl⟩
      go_wp2_with fail
      refine ((unhide HD) _).mono ?_
      rintro e w1 ⟨rfl, b1⟩
      obtain ⟨hc1, hf1⟩ := bcell b1
      have hz : w.heap.size < w1.heap.size := by have := b1.size; simp at this; omega
      go_wp2_with fail
      refine ((unhide HE) _).mono ?_
      rintro e w2 ⟨rfl, rfl⟩
      go_wp2
      go_ret
      exact ⟨rfl, ((Below.refl _ _).alloc (Nat.le_refl _) _).trans (b1.mono (by simp))⟩
    rw [if_neg q4]
    rw [decide_eq_true (by omega)] at hE
    have HE := hide hE
    clear hE q4
    cases q5 : u.toList.isEmpty
    · rw [empty_toList] at q5
      have q6 : u ≠ ⟨#[]⟩ := of_decide_eq_false q5
      rw [if_pos q6]
      rw [← empty_toList] at q5
      clear q6
      go_enter Try.func40, Try.ntmps40
      go_wp2_with fail
      refine ((unhide HA) _).mono ?_
      rintro e w1 ⟨rfl, rfl⟩
      go_wp2_with fail
      refine ((unhide HB) _).mono ?_
      rintro e w1 ⟨rfl, rfl⟩
      go_wp2_with fail
      refine ((unhide HC) _).mono ?_
      rintro e w1 ⟨rfl, rfl⟩
      go_wp2_with fail
      refine ((unhide HD) _).mono ?_
      rintro e w1 ⟨rfl, b1⟩
      obtain ⟨hc1, hf1⟩ := bcell b1
      have hz : w.heap.size < w1.heap.size := by have := b1.size; simp at this; omega
      go_wp2_with fail
      refine ((unhide HE) _).mono ?_
      rintro e w2 ⟨rfl, rfl⟩
      go_wp2
      go_ret
      exact ⟨rfl, ((Below.refl _ _).alloc (Nat.le_refl _) _).trans (b1.mono (by simp))⟩
    · rw [empty_toList] at q5
      have q6 : u = ⟨#[]⟩ := of_decide_eq_true q5
      subst q6
      rw [if_neg (by simp)]
      clear q5
      go_enter Try.func40, Try.ntmps40
      go_wp2_with fail
      refine ((unhide HA) _).mono ?_
      rintro e w1 ⟨rfl, rfl⟩
      go_wp2_with fail
      refine ((unhide HB) _).mono ?_
      rintro e w1 ⟨rfl, rfl⟩
      go_wp2_with fail
      refine ((unhide HC) _).mono ?_
      rintro e w1 ⟨rfl, rfl⟩
      go_wp2_with fail
      refine ((unhide HD) _).mono ?_
      rintro e w1 ⟨rfl, b1⟩
      obtain ⟨hc1, hf1⟩ := bcell b1
      have hz : w.heap.size < w1.heap.size := by have := b1.size; simp at this; omega
      go_wp2_with fail
      refine ((unhide HE) _).mono ?_
      rintro e w2 ⟨rfl, rfl⟩
      go_wp2
      go_ret
      exact ⟨rfl, ((Below.refl _ _).alloc (Nat.le_refl _) _).trans (b1.mono (by simp))⟩
  · rw [if_pos q3]
    clear hE
    go_enter Try.func40, Try.ntmps40
    go_wp2_with fail
    refine ((unhide HA) _).mono ?_
    rintro e w1 ⟨rfl, rfl⟩
    go_wp2_with fail
    refine ((unhide HB) _).mono ?_
    rintro e w1 ⟨rfl, rfl⟩
    go_wp2_with fail
    refine ((unhide HC) _).mono ?_
    rintro e w1 ⟨rfl, rfl⟩
    go_wp2_with fail
    refine ((unhide HD) _).mono ?_
    rintro e w1 ⟨rfl, b1⟩
    go_wp2
    go_ret
    exact ⟨rfl, ((Below.refl _ _).alloc (Nat.le_refl _) _).trans (b1.mono (by simp))⟩

end Go.Proofs.Ytlndphpidkacgaa
