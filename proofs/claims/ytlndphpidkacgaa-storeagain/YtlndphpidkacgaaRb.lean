/- The reference: CallFault is Check. -/
import Derived.Test.YtlndphpidkacgaaRa
namespace Go.Proofs.Ytlndphpidkacgaa
open Go.RowKit
set_option linter.unusedSimpArgs false
set_option linter.unusedVariables false

set_option maxRecDepth 100000 in
set_option maxHeartbeats 1000000 in
theorem fault_other (k : Int) (a b t : ByteArray) (w : World) (hk : k < 1 ∨ 6 < k) :
    Calls Try.prog 19 #[.agg #[.int .i64 k, .string a, .string b, .string t]] w
      fun e w' => e = .returned (.int .i64 (checkI ⟨k, a, b, t⟩)) ∧ Below w.heap.size w w' := by
  have hf : checkI ⟨k, a, b, t⟩ = 1 := by unfold checkI; rw [if_pos hk]
  have hc : changesB k = false := by simp [changesB]; omega
  have H : Hid (∀ W : World, Calls Try.prog 26 #[.int .i64 k] W fun e w' => e = .returned (.bool false) ∧ w' = W) := by
    intro W; have := IsChange_any k W; rwa [hc] at this
  rw [hf]
  have e5 : (k == 5) = false := by simp; omega
  have e6 : (k == 6) = false := by simp; omega
  have n5 : (k != 5) = true := by simp; omega
  have n6 : (k != 6) = true := by simp; omega
  clear hf hc hk
  go_enter Try.func19, Try.ntmps19
  go_wp2_with fail
  refine ((unhide H) _).mono ?_
  rintro e w1 ⟨rfl, rfl⟩
  go_wp2
  go_ret
  exact ⟨rfl, (Below.refl _ _).alloc (Nat.le_refl _) _⟩

set_option maxRecDepth 100000 in
set_option maxHeartbeats 1000000 in
theorem fault_list (a b t : ByteArray) (w : World) :
    Calls Try.prog 19 #[.agg #[.int .i64 6, .string a, .string b, .string t]] w
      fun e w' => e = .returned (.int .i64 (checkI ⟨6, a, b, t⟩)) ∧ Below w.heap.size w w' := by
  have H : Hid (∀ W : World, Calls Try.prog 26 #[.int .i64 6] W fun e w' => e = .returned (.bool false) ∧ w' = W) := fun W => IsChange_any 6 W
  cases ha : a.toList.isEmpty <;> cases hb : b.toList.isEmpty <;> cases ht : t.toList.isEmpty
  all_goals
    have hf : checkI ⟨6, a, b, t⟩ = if a.toList.isEmpty = false ∨ b.toList.isEmpty = false ∨ t.toList.isEmpty = false then 3 else 0 := by simp [checkI, formedB, namedB, emptyB, ha, hb, ht]
    rw [hf]
    simp only [ha, hb, ht, reduceIte, reduceCtorEq, true_or, or_true, false_or, or_false]
    clear hf
    go_enter Try.func19, Try.ntmps19
    go_wp2_with fail
    refine ((unhide H) _).mono ?_
    rintro e w1 ⟨rfl, rfl⟩
    go_wp2
    go_ret
    exact ⟨rfl, (Below.refl _ _).alloc (Nat.le_refl _) _⟩

set_option maxRecDepth 100000 in
set_option maxHeartbeats 1000000 in
theorem fault_plain (k : Int) (a b t : ByteArray) (w : World) (hk : k = 1 ∨ k = 2 ∨ k = 5) (hs : a.size ≤ maxLen) :
    Calls Try.prog 19 #[.agg #[.int .i64 k, .string a, .string b, .string t]] w
      fun e w' => e = .returned (.int .i64 (checkI ⟨k, a, b, t⟩)) ∧ Below w.heap.size w w' := by
  obtain ⟨na, hna⟩ : ∃ na, nameB a = na := ⟨_, rfl⟩
  have H : Hid (∀ W : World, Calls Try.prog 26 #[.int .i64 k] W fun e w' => e = .returned (.bool (changesB k)) ∧ w' = W) := fun W => IsChange_any k W
  have HN : Hid (∀ W : World, Calls Try.prog 28 #[.string a] W fun e w' => e = .returned (.bool na) ∧ w' = W) := fun W => by have := IsName_any a W hs; rwa [hna] at this
  have e6 : (k == 6) = false := by rcases hk with rfl | rfl | rfl <;> rfl
  have e3 : (k == 3) = false := by rcases hk with rfl | rfl | rfl <;> rfl
  have e4 : (k == 4) = false := by rcases hk with rfl | rfl | rfl <;> rfl
  have hfb : formedB ⟨k, a, b, t⟩ = (b.toList.isEmpty && t.toList.isEmpty) := by rcases hk with rfl | rfl | rfl <;> simp [formedB, emptyB]
  have hnb : namedB ⟨k, a, b, t⟩ = na := by rcases hk with rfl | rfl | rfl <;> simp [namedB, hna]
  have hf : checkI ⟨k, a, b, t⟩ = if (b.toList.isEmpty && t.toList.isEmpty) = false then 3 else if na = false then 2 else 0 := by
    unfold checkI
    rw [hfb, hnb, if_neg (by show ¬ (k < 1 ∨ 6 < k); omega)]
    split
    · rfl
    split
    · rfl
    rw [if_neg (by show ¬ (k = 4 ∧ _); omega)]
  rw [hf]
  clear hf hfb hnb hna hs
  rcases hk with rfl | rfl | rfl
  all_goals
    cases hb : b.toList.isEmpty <;> cases ht : t.toList.isEmpty
    · go_enter Try.func19, Try.ntmps19
      go_wp2_with fail
      refine ((unhide H) _).mono ?_
      rintro e w1 ⟨rfl, rfl⟩
      go_wp2
      go_ret
      exact ⟨rfl, (Below.refl _ _).alloc (Nat.le_refl _) _⟩
    · go_enter Try.func19, Try.ntmps19
      go_wp2_with fail
      refine ((unhide H) _).mono ?_
      rintro e w1 ⟨rfl, rfl⟩
      go_wp2
      go_ret
      exact ⟨rfl, (Below.refl _ _).alloc (Nat.le_refl _) _⟩
    · go_enter Try.func19, Try.ntmps19
      go_wp2_with fail
      refine ((unhide H) _).mono ?_
      rintro e w1 ⟨rfl, rfl⟩
      go_wp2
      go_ret
      exact ⟨rfl, (Below.refl _ _).alloc (Nat.le_refl _) _⟩
    · cases na
      all_goals
        go_enter Try.func19, Try.ntmps19
        go_wp2_with fail
        refine ((unhide H) _).mono ?_
        rintro e w1 ⟨rfl, rfl⟩
        go_wp2_with fail
        refine ((unhide HN) _).mono ?_
        rintro e w1 ⟨rfl, rfl⟩
        go_wp2
        go_ret
        exact ⟨rfl, (Below.refl _ _).alloc (Nat.le_refl _) _⟩

set_option maxRecDepth 100000 in
set_option maxHeartbeats 1000000 in
theorem fault_rename (a b t : ByteArray) (w : World) (hs : a.size ≤ maxLen) (hs2 : b.size ≤ maxLen) :
    Calls Try.prog 19 #[.agg #[.int .i64 3, .string a, .string b, .string t]] w
      fun e w' => e = .returned (.int .i64 (checkI ⟨3, a, b, t⟩)) ∧ Below w.heap.size w w' := by
  obtain ⟨na, hna⟩ : ∃ na, nameB a = na := ⟨_, rfl⟩
  obtain ⟨nb, hnb⟩ : ∃ nb, nameB b = nb := ⟨_, rfl⟩
  have H : Hid (∀ W : World, Calls Try.prog 26 #[.int .i64 3] W fun e w' => e = .returned (.bool true) ∧ w' = W) := fun W => IsChange_any 3 W
  have HN : Hid (∀ W : World, Calls Try.prog 28 #[.string a] W fun e w' => e = .returned (.bool na) ∧ w' = W) := fun W => by have := IsName_any a W hs; rwa [hna] at this
  have HB : Hid (∀ W : World, Calls Try.prog 28 #[.string b] W fun e w' => e = .returned (.bool nb) ∧ w' = W) := fun W => by have := IsName_any b W hs2; rwa [hnb] at this
  have hf : checkI ⟨3, a, b, t⟩ = if t.toList.isEmpty = false then 3 else if na = false then 2 else if nb = false then 2 else 0 := by
    simp [checkI, formedB, namedB, emptyB, hna, hnb]
    cases t.toList.isEmpty <;> cases na <;> cases nb <;> simp
  rw [hf]
  clear hf hna hnb hs hs2
  cases ht : t.toList.isEmpty
  · go_enter Try.func19, Try.ntmps19
    go_wp2_with fail
    refine ((unhide H) _).mono ?_
    rintro e w1 ⟨rfl, rfl⟩
    go_wp2
    go_ret
    exact ⟨rfl, (Below.refl _ _).alloc (Nat.le_refl _) _⟩
  cases na
  · go_enter Try.func19, Try.ntmps19
    go_wp2_with fail
    refine ((unhide H) _).mono ?_
    rintro e w1 ⟨rfl, rfl⟩
    go_wp2_with fail
    refine ((unhide HN) _).mono ?_
    rintro e w1 ⟨rfl, rfl⟩
    go_wp2
    go_ret
    exact ⟨rfl, (Below.refl _ _).alloc (Nat.le_refl _) _⟩
  cases nb
  all_goals
    go_enter Try.func19, Try.ntmps19
    go_wp2_with fail
    refine ((unhide H) _).mono ?_
    rintro e w1 ⟨rfl, rfl⟩
    go_wp2_with fail
    refine ((unhide HN) _).mono ?_
    rintro e w1 ⟨rfl, rfl⟩
    go_wp2_with fail
    refine ((unhide HB) _).mono ?_
    rintro e w1 ⟨rfl, rfl⟩
    go_wp2
    go_ret
    exact ⟨rfl, (Below.refl _ _).alloc (Nat.le_refl _) _⟩

set_option maxRecDepth 100000 in
set_option maxHeartbeats 1000000 in
theorem fault_append (a b t : ByteArray) (w : World) (hs : a.size ≤ maxLen) (hst : t.size ≤ maxLen) :
    Calls Try.prog 19 #[.agg #[.int .i64 4, .string a, .string b, .string t]] w
      fun e w' => e = .returned (.int .i64 (checkI ⟨4, a, b, t⟩)) ∧ Below w.heap.size w w' := by
  unfold maxLen at hst
  obtain ⟨na, hna⟩ : ∃ na, nameB a = na := ⟨_, rfl⟩
  obtain ⟨nt, hnt⟩ : ∃ nt, textB t = nt := ⟨_, rfl⟩
  have H : Hid (∀ W : World, Calls Try.prog 26 #[.int .i64 4] W fun e w' => e = .returned (.bool true) ∧ w' = W) := fun W => IsChange_any 4 W
  have HN : Hid (∀ W : World, Calls Try.prog 28 #[.string a] W fun e w' => e = .returned (.bool na) ∧ w' = W) := fun W => by have := IsName_any a W hs; rwa [hna] at this
  have hf : checkI ⟨4, a, b, t⟩ = if b.toList.isEmpty = false then 3 else if na = false then 2 else if nt = false then 4 else 0 := by
    simp [checkI, formedB, namedB, emptyB, hna, hnt]
  rw [hf]
  clear hf hna hs
  cases hb : b.toList.isEmpty
  · clear hnt hst
    go_enter Try.func19, Try.ntmps19
    go_wp2_with fail
    refine ((unhide H) _).mono ?_
    rintro e w1 ⟨rfl, rfl⟩
    go_wp2
    go_ret
    exact ⟨rfl, (Below.refl _ _).alloc (Nat.le_refl _) _⟩
  cases na
  · clear hnt hst
    go_enter Try.func19, Try.ntmps19
    go_wp2_with fail
    refine ((unhide H) _).mono ?_
    rintro e w1 ⟨rfl, rfl⟩
    go_wp2_with fail
    refine ((unhide HN) _).mono ?_
    rintro e w1 ⟨rfl, rfl⟩
    go_wp2
    go_ret
    exact ⟨rfl, (Below.refl _ _).alloc (Nat.le_refl _) _⟩
  by_cases h1 : (1 : Int) ≤ (t.size : Int)
  · by_cases h2 : (t.size : Int) ≤ 8
    · have hlen : t.data.toList.length = t.size := by rw [Array.length_toList]; rfl
      obtain ⟨rr, HR⟩ : ∃ rr, Hid (t.data.toList.any (outB 32 126) = rr) := ⟨_, rfl⟩
      have hf : nt = !rr := by rw [← hnt, textB, withinB, HR.out]; simp [h1, h2]
      subst hf
      obtain ⟨vv, HV⟩ : ∃ vv : Int, Hid ((if rr = true then (4 : Int) else 0) = vv) := ⟨_, rfl⟩
      have hg : (if true = false then (3 : Int) else if true = false then 2 else if (!rr) = false then 4 else 0) = vv := by rw [← HV.out]; cases rr <;> rfl
      rw [hg]
      clear hnt hg
      go_enter Try.func19, Try.ntmps19
      go_wp2_with fail
      refine ((unhide H) _).mono ?_
      rintro e w1 ⟨rfl, rfl⟩
      go_wp2_with fail
      refine ((unhide HN) _).mono ?_
      rintro e w1 ⟨rfl, rfl⟩
      go_wp2
      go_loop [3] (fun i => ∃ k : Nat, k ≤ t.size ∧ i = .int .i64 k ∧ Hid ((t.data.toList.take k).any (outB 32 126) = false)) (fun i => t.size - (intOf i).toNat)
      case atStart => exact ⟨0, Nat.zero_le _, rfl, by simp [Hid]⟩
      case round =>
        obtain ⟨k, hk, rfl, HA⟩ := hrel
        by_cases hlt : k < t.size
        · have hx : t.data.toList[k]? = some t[k] := by rw [List.getElem?_eq_getElem (by omega)]; rfl
          have HX := hide hx
          clear hx
          by_cases hb1 : (t[k].toNat : Int) < 32
          · have HQ : Hid (outB 32 126 t[k] = true) := by simp [Hid, outB, hb1]
            go_wp2
            go_ret
            refine ⟨?_, (Below.refl _ _).alloc (Nat.le_refl _) _⟩
            have h3 : t.data.toList.any (outB 32 126) = true := by
              rw [List.any_eq_true]
              exact ⟨_, List.mem_of_getElem? HX.out, HQ.out⟩
            rw [← HV.out, ← HR.out, h3]
            rfl
          · by_cases hb2 : (126 : Int) < (t[k].toNat : Int)
            · have HQ : Hid (outB 32 126 t[k] = true) := by simp [Hid, outB, hb2]
              go_wp2
              go_ret
              refine ⟨?_, (Below.refl _ _).alloc (Nat.le_refl _) _⟩
              have h3 : t.data.toList.any (outB 32 126) = true := by
                rw [List.any_eq_true]
                exact ⟨_, List.mem_of_getElem? HX.out, HQ.out⟩
              rw [← HV.out, ← HR.out, h3]
              rfl
            · have HQ : Hid (outB 32 126 t[k] = false) := by simp only [Hid, outB, hb1, hb2, decide_false, Bool.or_false]
              go_wp2
              go_round
              case rel => exact ⟨k + 1, by omega, by go_num, by rw [Hid, any_take_succ _ _ _ _ HX.out, HA.out, HQ.out]; rfl⟩
              case measure => simp [intOf]; omega
        · have : k = t.size := by omega
          subst this
          go_wp2
          go_ret
          refine ⟨?_, (Below.refl _ _).alloc (Nat.le_refl _) _⟩
          have h3 := HA.out
          rw [List.take_of_length_le (by omega)] at h3
          rw [← HV.out, ← HR.out, h3]
          rfl
    · have hf : nt = false := by rw [← hnt]; simp [textB, withinB, h2]
      subst hf
      clear hnt
      go_enter Try.func19, Try.ntmps19
      go_wp2_with fail
      refine ((unhide H) _).mono ?_
      rintro e w1 ⟨rfl, rfl⟩
      go_wp2_with fail
      refine ((unhide HN) _).mono ?_
      rintro e w1 ⟨rfl, rfl⟩
      go_wp2
      go_ret
      exact ⟨rfl, (Below.refl _ _).alloc (Nat.le_refl _) _⟩
  · have hf : nt = false := by rw [← hnt]; simp [textB, withinB, h1]
    subst hf
    clear hnt
    go_enter Try.func19, Try.ntmps19
    go_wp2_with fail
    refine ((unhide H) _).mono ?_
    rintro e w1 ⟨rfl, rfl⟩
    go_wp2_with fail
    refine ((unhide HN) _).mono ?_
    rintro e w1 ⟨rfl, rfl⟩
    go_wp2
    go_ret
    exact ⟨rfl, (Below.refl _ _).alloc (Nat.le_refl _) _⟩

theorem CallFault_any (k : Int) (a b t : ByteArray) (w : World) (ha : a.size ≤ maxLen) (hb : b.size ≤ maxLen) (ht : t.size ≤ maxLen) :
    Calls Try.prog 19 #[.agg #[.int .i64 k, .string a, .string b, .string t]] w
      fun e w' => e = .returned (.int .i64 (checkI ⟨k, a, b, t⟩)) ∧ Below w.heap.size w w' := by
  by_cases hk : k < 1 ∨ 6 < k
  · exact fault_other k a b t w hk
  by_cases h1 : k = 1 ∨ k = 2 ∨ k = 5
  · exact fault_plain k a b t w h1 ha
  have h2 : k = 3 ∨ k = 4 ∨ k = 6 := by omega
  rcases h2 with rfl | rfl | rfl
  · exact fault_rename a b t w ha hb
  · exact fault_append a b t w ha ht
  · exact fault_list a b t w

/-- Where a name stands, by the reference. -/
theorem at_any (name : ByteArray) (g : Option Addr) (cap : Nat) (st : List AFile) (w : World) (hn : st.length ≤ 1000)
    (hc : ∀ (j : Nat) (f : AFile), st[j]? = some f → ∃ B, g = some ⟨B, 0, none⟩ ∧ w.cell? ⟨B, j * 2, none⟩ = some (.string f.name)) :
    Calls Try.prog 64 #[.slice g st.length cap, .string name] w fun e w' => e = .returned (.int .i64 (fInt name st)) ∧ w' = w := by
  obtain ⟨rr, HR⟩ : ∃ rr, Hid (fInt name st = rr) := ⟨_, rfl⟩
  rw [HR.out]
  go_enter Try.func64, Try.ntmps64
  go_wp2
  go_loop [5] (fun i => ∃ k : Nat, k ≤ st.length ∧ i = .int .i64 k ∧ Hid (∀ (j : Nat) (f : AFile), j < k → st[j]? = some f → (f.name.toList == name.toList) = false)) (fun i => st.length - (intOf i).toNat)
  case atStart => exact ⟨0, Nat.zero_le _, rfl, fun j f hj => absurd hj (by omega)⟩
  case round =>
    obtain ⟨k, hk, rfl, HA⟩ := hrel
    by_cases hlt : k < st.length
    · obtain ⟨f, hf⟩ : ∃ f, st[k]? = some f := ⟨_, List.getElem?_eq_getElem hlt⟩
      obtain ⟨B, rfl, hcell⟩ := hc k f hf
      have HF := hide hf
      clear hc hf
      cases hq : (f.name.toList == name.toList)
      · have HQ := hide hq
        go_wp2
        go_round
        case rel =>
          refine ⟨k + 1, by omega, by go_num, fun j f' hj hf' => ?_⟩
          by_cases hjk : j = k
          · subst hjk
            rw [HF.out] at hf'
            cases hf'
            exact HQ.out
          · exact HA.out j f' (by omega) hf'
        case measure => simp [intOf]; omega
      · have HQ := hide hq
        go_wp2
        go_ret
        refine ⟨?_, rfl⟩
        rw [← HR.out, fInt_hit name st k hlt HA.out (fun f' hf' => by rw [HF.out] at hf'; cases hf'; exact HQ.out)]
        rfl
    · have : k = st.length := by omega
      subst this
      clear hc
      go_wp2
      go_ret
      refine ⟨?_, rfl⟩
      rw [← HR.out, fInt_miss name st (fun j f hf => HA.out j f (List.getElem?_eq_some_iff.1 hf).1 hf)]
      rfl

end Go.Proofs.Ytlndphpidkacgaa
