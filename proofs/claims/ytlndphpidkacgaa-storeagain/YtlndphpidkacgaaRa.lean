/- The reference: IsChange, IsName. -/
import Derived.Test.YtlndphpidkacgaaWq
namespace Go.Proofs.Ytlndphpidkacgaa
open Go.RowKit
set_option linter.unusedSimpArgs false
set_option linter.unusedVariables false

set_option maxHeartbeats 400000 in
theorem IsChange_any (k : Int) (w : World) :
    Calls Try.prog 26 #[.int .i64 k] w fun e w' => e = .returned (.bool (changesB k)) ∧ w' = w := by
  by_cases h1 : k = 1
  · subst h1; go_enter Try.func26, Try.ntmps26; go_wp2; go_ret; exact ⟨rfl, rfl⟩
  by_cases h2 : k = 2
  · subst h2; go_enter Try.func26, Try.ntmps26; go_wp2; go_ret; exact ⟨rfl, rfl⟩
  by_cases h3 : k = 3
  · subst h3; go_enter Try.func26, Try.ntmps26; go_wp2; go_ret; exact ⟨rfl, rfl⟩
  by_cases h4 : k = 4
  · subst h4; go_enter Try.func26, Try.ntmps26; go_wp2; go_ret; exact ⟨rfl, rfl⟩
  have e1 : (k == 1) = false := by simpa using h1
  have e2 : (k == 2) = false := by simpa using h2
  have e3 : (k == 3) = false := by simpa using h3
  have e4 : (k == 4) = false := by simpa using h4
  have hf : changesB k = false := by simp [changesB, h1, h2, h3, h4]
  rw [hf]
  clear hf h1 h2 h3 h4
  go_enter Try.func26, Try.ntmps26; go_wp2; go_ret
  exact ⟨rfl, rfl⟩

set_option maxRecDepth 100000 in
set_option maxHeartbeats 1000000 in
theorem IsName_any (s : ByteArray) (w : World) (hs : s.size ≤ maxLen) :
    Calls Try.prog 28 #[.string s] w fun e w' => e = .returned (.bool (nameB s)) ∧ w' = w := by
  unfold maxLen at hs
  by_cases h1 : (1 : Int) ≤ (s.size : Int)
  · by_cases h2 : (s.size : Int) ≤ 5
    · have hlen : s.data.toList.length = s.size := by rw [Array.length_toList]; rfl
      obtain ⟨rr, HR⟩ : ∃ rr, Hid (s.data.toList.any (outB 97 122) = rr) := ⟨_, rfl⟩
      have hf : nameB s = !rr := by rw [nameB, withinB, HR.out]; simp [h1, h2]
      rw [hf]
      clear hf
      go_enter Try.func28, Try.ntmps28
      go_wp2
      go_loop [3] (fun i => ∃ k : Nat, k ≤ s.size ∧ i = .int .i64 k ∧ Hid ((s.data.toList.take k).any (outB 97 122) = false)) (fun i => s.size - (intOf i).toNat)
      case atStart => exact ⟨0, Nat.zero_le _, rfl, by simp [Hid]⟩
      case round =>
        obtain ⟨k, hk, rfl, HA⟩ := hrel
        by_cases hlt : k < s.size
        · have hx : s.data.toList[k]? = some s[k] := by rw [List.getElem?_eq_getElem (by omega)]; rfl
          have HX := hide hx
          clear hx
          by_cases hb1 : (s[k].toNat : Int) < 97
          · have HQ : Hid (outB 97 122 s[k] = true) := by simp [Hid, outB, hb1]
            go_wp2
            go_ret
            refine ⟨?_, rfl⟩
            have h3 : s.data.toList.any (outB 97 122) = true := by
              rw [List.any_eq_true]
              exact ⟨_, List.mem_of_getElem? HX.out, HQ.out⟩
            rw [← HR.out, h3]
            rfl
          · by_cases hb2 : (122 : Int) < (s[k].toNat : Int)
            · have HQ : Hid (outB 97 122 s[k] = true) := by simp [Hid, outB, hb2]
              go_wp2
              go_ret
              refine ⟨?_, rfl⟩
              have h3 : s.data.toList.any (outB 97 122) = true := by
                rw [List.any_eq_true]
                exact ⟨_, List.mem_of_getElem? HX.out, HQ.out⟩
              rw [← HR.out, h3]
              rfl
            · have HQ : Hid (outB 97 122 s[k] = false) := by simp only [Hid, outB, hb1, hb2, decide_false, Bool.or_false]
              go_wp2
              go_round
              case rel => exact ⟨k + 1, by omega, by go_num, by rw [Hid, any_take_succ _ _ _ _ HX.out, HA.out, HQ.out]; rfl⟩
              case measure => simp [intOf]; omega
        · have : k = s.size := by omega
          subst this
          go_wp2
          go_ret
          refine ⟨?_, rfl⟩
          have h3 := HA.out
          rw [List.take_of_length_le (by omega)] at h3
          rw [← HR.out, h3]
          rfl
    · have hf : nameB s = false := by simp [nameB, withinB, h2]
      rw [hf]
      clear hf
      go_enter Try.func28, Try.ntmps28
      go_wp2
      go_ret
      exact ⟨rfl, rfl⟩
  · have hf : nameB s = false := by simp [nameB, withinB, h1]
    rw [hf]
    clear hf
    go_enter Try.func28, Try.ntmps28
    go_wp2
    go_ret
    exact ⟨rfl, rfl⟩

end Go.Proofs.Ytlndphpidkacgaa
