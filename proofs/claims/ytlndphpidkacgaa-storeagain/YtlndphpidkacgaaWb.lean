/- The walks of formed, named, Check, New, greatCall. -/
import Derived.Test.YtlndphpidkacgaaWa
namespace Go.Proofs.Ytlndphpidkacgaa
open Go.RowKit
set_option linter.unusedSimpArgs false
set_option linter.unusedVariables false

set_option maxHeartbeats 1000000 in
theorem formed_any (k : Int) (a b t : ByteArray) (w : World) :
    Calls Try.prog 55 #[.agg #[.int .i64 k, .string a, .string b, .string t]] w
      fun e w' => e = .returned (.bool (formedB ⟨k, a, b, t⟩)) ∧ Below w.heap.size w w' := by
  have hB : ∀ o : Obj, Below w.heap.size w (w.alloc o) := fun o => (Below.refl _ _).alloc (Nat.le_refl _) o
  have hf : formedB ⟨k, a, b, t⟩ = ((a.toList.isEmpty || k != 6) && (b.toList.isEmpty || k == 3) && (t.toList.isEmpty || k == 4)) := rfl
  rw [hf]
  clear hf
  cases h1 : a.toList.isEmpty <;> cases h2 : (k != 6) <;> cases h3 : b.toList.isEmpty <;> cases h4 : (k == 3) <;> cases h5 : t.toList.isEmpty <;> cases h6 : (k == 4)
  all_goals try (exfalso; simp at h2 h4 h6; omega)
  all_goals
    go_enter Try.func55, Try.ntmps55
    go_wp2
    go_ret
    exact ⟨by simp, hB _⟩


set_option maxHeartbeats 1000000 in
theorem named_any (k : Int) (a b t : ByteArray) (w : World) (ha : a.size ≤ maxLen) (hb : b.size ≤ maxLen) :
    Calls Try.prog 56 #[.agg #[.int .i64 k, .string a, .string b, .string t]] w
      fun e w' => e = .returned (.bool (namedB ⟨k, a, b, t⟩)) ∧ Below w.heap.size w w' := by
  have hf : namedB ⟨k, a, b, t⟩ = ((k == 6 || nameB a) && (k != 3 || nameB b)) := rfl
  rw [hf]
  clear hf
  have hA : ∀ W : World, Calls Try.prog 27 #[.string a] W fun e w' => e = .returned (.bool (nameB a)) ∧ Below W.heap.size W w' := fun W => Name_any a W ha
  have hD : ∀ W : World, Calls Try.prog 27 #[.string b] W fun e w' => e = .returned (.bool (nameB b)) ∧ Below W.heap.size W w' := fun W => Name_any b W hb
  generalize nameB a = na at hA ⊢
  generalize nameB b = nb at hD ⊢
  have HA := hide hA
  have HD := hide hD
  clear hA hD
  cases h2 : (k == 6) <;> cases h4 : (k != 3)
  · -- k = 3
    have h3 : k = 3 := by simpa using h4
    subst h3
    cases na
    · go_enter Try.func56, Try.ntmps56
      go_wp2_with fail
      refine ((unhide HA) _).mono ?_
      rintro e w1 ⟨rfl, b1⟩
      go_wp2
      go_ret
      exact ⟨by simp, ((Below.refl _ _).alloc (Nat.le_refl _) _).trans (b1.mono (by simp))⟩
    · go_enter Try.func56, Try.ntmps56
      go_wp2_with fail
      refine ((unhide HA) _).mono ?_
      rintro e w1 ⟨rfl, b1⟩
      have hc1 := b1.cell (p := ⟨w.heap.size, 0, none⟩) (by simp)
      have hc2 := b1.cell (p := ⟨w.heap.size, 2, none⟩) (by simp)
      have hz : w.heap.size < w1.heap.size := by have := b1.size; simp at this; omega
      simp at hc1 hc2
      go_wp2_with fail
      refine ((unhide HD) _).mono ?_
      rintro e w2 ⟨rfl, b2⟩
      go_wp2
      go_ret
      exact ⟨by simp, (((Below.refl _ _).alloc (Nat.le_refl _) _).trans (b1.mono (by simp))).trans (b2.mono (by omega))⟩
  · cases na
    · go_enter Try.func56, Try.ntmps56
      go_wp2_with fail
      refine ((unhide HA) _).mono ?_
      rintro e w1 ⟨rfl, b1⟩
      go_wp2
      go_ret
      exact ⟨by simp, ((Below.refl _ _).alloc (Nat.le_refl _) _).trans (b1.mono (by simp))⟩
    · go_enter Try.func56, Try.ntmps56
      go_wp2_with fail
      refine ((unhide HA) _).mono ?_
      rintro e w1 ⟨rfl, b1⟩
      have hc1 := b1.cell (p := ⟨w.heap.size, 0, none⟩) (by simp)
      have hz : w.heap.size < w1.heap.size := by have := b1.size; simp at this; omega
      simp at hc1
      go_wp2
      go_ret
      exact ⟨by simp, ((Below.refl _ _).alloc (Nat.le_refl _) _).trans (b1.mono (by simp))⟩
  · exfalso; simp at h2 h4; omega
  · go_enter Try.func56, Try.ntmps56
    go_wp2
    go_ret
    exact ⟨by simp, (Below.refl _ _).alloc (Nat.le_refl _) _⟩

set_option maxHeartbeats 1000000 in
theorem Check_any (k : Int) (a b t : ByteArray) (w : World) (ha : a.size ≤ maxLen) (hb : b.size ≤ maxLen) (ht : t.size ≤ maxLen) :
    Calls Try.prog 18 #[.agg #[.int .i64 k, .string a, .string b, .string t]] w
      fun e w' => e = .returned (.int .i64 (checkI ⟨k, a, b, t⟩)) ∧ Below w.heap.size w w' := by
  have hf : checkI ⟨k, a, b, t⟩ = if k < 1 ∨ 6 < k then 1 else if formedB ⟨k, a, b, t⟩ = false then 3 else if namedB ⟨k, a, b, t⟩ = false then 2 else if k = 4 ∧ textB t = false then 4 else 0 := rfl
  rw [hf]
  clear hf
  have hA : ∀ W : World, Calls Try.prog 55 #[.agg #[.int .i64 k, .string a, .string b, .string t]] W fun e w' => e = .returned (.bool (formedB ⟨k, a, b, t⟩)) ∧ Below W.heap.size W w' := fun W => formed_any k a b t W
  have hD : ∀ W : World, Calls Try.prog 56 #[.agg #[.int .i64 k, .string a, .string b, .string t]] W fun e w' => e = .returned (.bool (namedB ⟨k, a, b, t⟩)) ∧ Below W.heap.size W w' := fun W => named_any k a b t W ha hb
  have hE : ∀ W : World, Calls Try.prog 57 #[.string t, .int .i64 8, .int .u8 32, .int .u8 126] W fun e w' => e = .returned (.bool (textB t)) ∧ Below W.heap.size W w' := fun W => within_any t 8 32 126 W (by omega) ht
  generalize formedB ⟨k, a, b, t⟩ = na at hA ⊢
  generalize namedB ⟨k, a, b, t⟩ = nb at hD ⊢
  generalize textB t = nt at hE ⊢
  have HA := hide hA
  have HD := hide hD
  have HE := hide hE
  clear hA hD hE
  by_cases h1 : k < 1
  · rw [if_pos (Or.inl h1)]
    go_enter Try.func18, Try.ntmps18
    go_wp2
    go_ret
    exact ⟨rfl, (Below.refl _ _).alloc (Nat.le_refl _) _⟩
  by_cases h2 : 6 < k
  · rw [if_pos (Or.inr h2)]
    go_enter Try.func18, Try.ntmps18
    go_wp2
    go_ret
    exact ⟨rfl, (Below.refl _ _).alloc (Nat.le_refl _) _⟩
  rw [if_neg (by omega)]
  cases na
  · rw [if_pos rfl]
    go_enter Try.func18, Try.ntmps18
    go_wp2_with fail
    refine ((unhide HA) _).mono ?_
    rintro e w1 ⟨rfl, b1⟩
    go_wp2
    go_ret
    exact ⟨rfl, ((Below.refl _ _).alloc (Nat.le_refl _) _).trans (b1.mono (by simp))⟩
  rw [if_neg (by simp)]
  cases nb
  · rw [if_pos rfl]
    go_enter Try.func18, Try.ntmps18
    go_wp2_with fail
    refine ((unhide HA) _).mono ?_
    rintro e w1 ⟨rfl, b1⟩
    obtain ⟨hc1, hf1⟩ := bcell b1
    have hz : w.heap.size < w1.heap.size := by have := b1.size; simp at this; omega
    go_wp2_with fail
    refine ((unhide HD) _).mono ?_
    rintro e w2 ⟨rfl, b2⟩
    go_wp2
    go_ret
    exact ⟨rfl, (((Below.refl _ _).alloc (Nat.le_refl _) _).trans (b1.mono (by simp))).trans (b2.mono (by omega))⟩
  rw [if_neg (by simp)]
  cases h4 : (k == 4)
  · have h4' : ¬ k = 4 := by simpa using h4
    rw [if_neg (by simp [h4'])]
    clear h4'
    go_enter Try.func18, Try.ntmps18
    go_wp2_with fail
    refine ((unhide HA) _).mono ?_
    rintro e w1 ⟨rfl, b1⟩
    obtain ⟨hc1, hf1⟩ := bcell b1
    have hz : w.heap.size < w1.heap.size := by have := b1.size; simp at this; omega
    go_wp2_with fail
    refine ((unhide HD) _).mono ?_
    rintro e w2 ⟨rfl, b2⟩
    obtain ⟨hc2, hf2⟩ := bcell b2
    go_wp2
    go_ret
    exact ⟨rfl, (((Below.refl _ _).alloc (Nat.le_refl _) _).trans (b1.mono (by simp))).trans (b2.mono (by omega))⟩
  · have h4' : k = 4 := by simpa using h4
    subst h4'
    cases nt
    · rw [if_pos (by simp)]
      go_enter Try.func18, Try.ntmps18
      go_wp2_with fail
      refine ((unhide HA) _).mono ?_
      rintro e w1 ⟨rfl, b1⟩
      obtain ⟨hc1, hf1⟩ := bcell b1
      have hz : w.heap.size < w1.heap.size := by have := b1.size; simp at this; omega
      go_wp2_with fail
      refine ((unhide HD) _).mono ?_
      rintro e w2 ⟨rfl, b2⟩
      obtain ⟨hc2, hf2⟩ := bcell b2
      have hz2 : w.heap.size < w2.heap.size := by have := b2.size; omega
      go_wp2_with fail
      refine ((unhide HE) _).mono ?_
      rintro e w3 ⟨rfl, b3⟩
      go_wp2
      go_ret
      exact ⟨rfl, ((((Below.refl _ _).alloc (Nat.le_refl _) _).trans (b1.mono (by simp))).trans (b2.mono (by omega))).trans (b3.mono (by omega))⟩
    · rw [if_neg (by simp)]
      go_enter Try.func18, Try.ntmps18
      go_wp2_with fail
      refine ((unhide HA) _).mono ?_
      rintro e w1 ⟨rfl, b1⟩
      obtain ⟨hc1, hf1⟩ := bcell b1
      have hz : w.heap.size < w1.heap.size := by have := b1.size; simp at this; omega
      go_wp2_with fail
      refine ((unhide HD) _).mono ?_
      rintro e w2 ⟨rfl, b2⟩
      obtain ⟨hc2, hf2⟩ := bcell b2
      have hz2 : w.heap.size < w2.heap.size := by have := b2.size; omega
      go_wp2_with fail
      refine ((unhide HE) _).mono ?_
      rintro e w3 ⟨rfl, b3⟩
      go_wp2
      go_ret
      exact ⟨rfl, ((((Below.refl _ _).alloc (Nat.le_refl _) _).trans (b1.mono (by simp))).trans (b2.mono (by omega))).trans (b3.mono (by omega))⟩

set_option maxHeartbeats 400000 in
theorem New_any (w : World) :
    Calls Try.prog 17 #[] w fun e w' => e = .returned (.pointer (some ⟨w.heap.size, 0, none⟩)) ∧ w' = w.alloc (.cells #[.slice none 0 0] 95) := by
  go_enter Try.func17, Try.ntmps17
  go_wp2
  go_ret
  exact ⟨rfl, rfl⟩

end Go.Proofs.Ytlndphpidkacgaa
