/- Texts joined, what is needed of them: Rb Rc Ck Cn Cq Cp Si Sj Ct Sk Sl Rd Re Rf Rg Rh. -/
import Derived.Test.YtmbhbnoifimeaabGreatQD2
import Derived.BigRegion
import Derived.Deep.AppendSrc
import Derived.Laws.Rows
import Derived.Laws.Tables
import Derived.Lib.ConvBytes
namespace Go.Proofs.YtmbhbnoifimeaabGreat
open Go.RowKit
set_option linter.unusedSimpArgs false
set_option linter.unusedVariables false
set_option maxRecDepth 100000 in
set_option maxHeartbeats 1000000 in
theorem fault_other (k : Int) (a b t : ByteArray) (w : World) (hk : k < 1 ∨ 6 < k) :
    Calls Tryz.prog 60 #[.agg #[.int .i64 k, .string a, .string b, .string t]] w
      fun e w' => e = .returned (.int .i64 (checkI ⟨k, a, b, t⟩)) ∧ Below w.heap.size w w' := by
  have hf : checkI ⟨k, a, b, t⟩ = 1 := by unfold checkI; rw [if_pos hk]
  have hc : changesB k = false := by simp [changesB]; omega
  have H : Hid (∀ W : World, Calls Tryz.prog 80 #[.int .i64 k] W fun e w' => e = .returned (.bool false) ∧ w' = W) := by
    intro W; have := IsChange_any k W; rwa [hc] at this
  rw [hf]
  have e5 : (k == 5) = false := by simp; omega
  have e6 : (k == 6) = false := by simp; omega
  have n5 : (k != 5) = true := by simp; omega
  have n6 : (k != 6) = true := by simp; omega
  clear hf hc hk
  go_enter Tryz.func60, Tryz.ntmps60
  go_wp2_with fail
  refine ((unhide H) _).mono ?_
  rintro e w1 ⟨rfl, rfl⟩
  go_wp2
  go_ret
  exact ⟨rfl, (Below.refl _ _).alloc (Nat.le_refl _) _⟩
set_option maxRecDepth 100000 in
set_option maxHeartbeats 1000000 in
theorem fault_list (a b t : ByteArray) (w : World) :
    Calls Tryz.prog 60 #[.agg #[.int .i64 6, .string a, .string b, .string t]] w
      fun e w' => e = .returned (.int .i64 (checkI ⟨6, a, b, t⟩)) ∧ Below w.heap.size w w' := by
  have H : Hid (∀ W : World, Calls Tryz.prog 80 #[.int .i64 6] W fun e w' => e = .returned (.bool false) ∧ w' = W) := fun W => IsChange_any 6 W
  cases ha : a.toList.isEmpty <;> cases hb : b.toList.isEmpty <;> cases ht : t.toList.isEmpty
  all_goals
    have hf : checkI ⟨6, a, b, t⟩ = if a.toList.isEmpty = false ∨ b.toList.isEmpty = false ∨ t.toList.isEmpty = false then 3 else 0 := by simp [checkI, formedB, namedB, emptyB, ha, hb, ht]
    rw [hf]
    simp only [ha, hb, ht, reduceIte, reduceCtorEq, true_or, or_true, false_or, or_false]
    clear hf
    go_enter Tryz.func60, Tryz.ntmps60
    go_wp2_with fail
    refine ((unhide H) _).mono ?_
    rintro e w1 ⟨rfl, rfl⟩
    go_wp2
    go_ret
    exact ⟨rfl, (Below.refl _ _).alloc (Nat.le_refl _) _⟩
set_option maxRecDepth 100000 in
set_option maxHeartbeats 1000000 in
theorem fault_plain (k : Int) (a b t : ByteArray) (w : World) (hk : k = 1 ∨ k = 2 ∨ k = 5) (hs : a.size ≤ maxLen) :
    Calls Tryz.prog 60 #[.agg #[.int .i64 k, .string a, .string b, .string t]] w
      fun e w' => e = .returned (.int .i64 (checkI ⟨k, a, b, t⟩)) ∧ Below w.heap.size w w' := by
  obtain ⟨na, hna⟩ : ∃ na, nameB a = na := ⟨_, rfl⟩
  have H : Hid (∀ W : World, Calls Tryz.prog 80 #[.int .i64 k] W fun e w' => e = .returned (.bool (changesB k)) ∧ w' = W) := fun W => IsChange_any k W
  have HN : Hid (∀ W : World, Calls Tryz.prog 81 #[.string a] W fun e w' => e = .returned (.bool na) ∧ w' = W) := fun W => by have := IsName_any a W hs; rwa [hna] at this
  have e6 : (k == 6) = false := by rcases hk with rfl | rfl | rfl <;> rfl
  have e3 : (k == 3) = false := by rcases hk with rfl | rfl | rfl <;> rfl
  have e4 : (k == 4) = false := by rcases hk with rfl | rfl | rfl <;> rfl
  have hfb : formedB ⟨k, a, b, t⟩ = (b.toList.isEmpty && t.toList.isEmpty) := by rcases hk with rfl | rfl | rfl <;> simp [formedB, emptyB]
  have hnb : namedB ⟨k, a, b, t⟩ = na := by rcases hk with rfl | rfl | rfl <;> simp [namedB, hna]
  have hf : checkI ⟨k, a, b, t⟩ = if (b.toList.isEmpty && t.toList.isEmpty) = false then 3 else if na = false then 2 else 0 := by
    unfold checkI
    rw [hfb, hnb, if_neg (by show ¬ (k < 1 ∨ 6 < k); omega)]
    split
    · rfl
    split
    · rfl
    rw [if_neg (by show ¬ (k = 4 ∧ _); omega)]
  rw [hf]
  clear hf hfb hnb hna hs
  rcases hk with rfl | rfl | rfl
  all_goals
    cases hb : b.toList.isEmpty <;> cases ht : t.toList.isEmpty
    · go_enter Tryz.func60, Tryz.ntmps60
      go_wp2_with fail
      refine ((unhide H) _).mono ?_
      rintro e w1 ⟨rfl, rfl⟩
      go_wp2
      go_ret
      exact ⟨rfl, (Below.refl _ _).alloc (Nat.le_refl _) _⟩
    · go_enter Tryz.func60, Tryz.ntmps60
      go_wp2_with fail
      refine ((unhide H) _).mono ?_
      rintro e w1 ⟨rfl, rfl⟩
      go_wp2
      go_ret
      exact ⟨rfl, (Below.refl _ _).alloc (Nat.le_refl _) _⟩
    · go_enter Tryz.func60, Tryz.ntmps60
      go_wp2_with fail
      refine ((unhide H) _).mono ?_
      rintro e w1 ⟨rfl, rfl⟩
      go_wp2
      go_ret
      exact ⟨rfl, (Below.refl _ _).alloc (Nat.le_refl _) _⟩
    · cases na
      all_goals
        go_enter Tryz.func60, Tryz.ntmps60
        go_wp2_with fail
        refine ((unhide H) _).mono ?_
        rintro e w1 ⟨rfl, rfl⟩
        go_wp2_with fail
        refine ((unhide HN) _).mono ?_
        rintro e w1 ⟨rfl, rfl⟩
        go_wp2
        go_ret
        exact ⟨rfl, (Below.refl _ _).alloc (Nat.le_refl _) _⟩
set_option maxRecDepth 100000 in
set_option maxHeartbeats 1000000 in
theorem fault_rename (a b t : ByteArray) (w : World) (hs : a.size ≤ maxLen) (hs2 : b.size ≤ maxLen) :
    Calls Tryz.prog 60 #[.agg #[.int .i64 3, .string a, .string b, .string t]] w
      fun e w' => e = .returned (.int .i64 (checkI ⟨3, a, b, t⟩)) ∧ Below w.heap.size w w' := by
  obtain ⟨na, hna⟩ : ∃ na, nameB a = na := ⟨_, rfl⟩
  obtain ⟨nb, hnb⟩ : ∃ nb, nameB b = nb := ⟨_, rfl⟩
  have H : Hid (∀ W : World, Calls Tryz.prog 80 #[.int .i64 3] W fun e w' => e = .returned (.bool true) ∧ w' = W) := fun W => IsChange_any 3 W
  have HN : Hid (∀ W : World, Calls Tryz.prog 81 #[.string a] W fun e w' => e = .returned (.bool na) ∧ w' = W) := fun W => by have := IsName_any a W hs; rwa [hna] at this
  have HB : Hid (∀ W : World, Calls Tryz.prog 81 #[.string b] W fun e w' => e = .returned (.bool nb) ∧ w' = W) := fun W => by have := IsName_any b W hs2; rwa [hnb] at this
  have hf : checkI ⟨3, a, b, t⟩ = if t.toList.isEmpty = false then 3 else if na = false then 2 else if nb = false then 2 else 0 := by
    simp [checkI, formedB, namedB, emptyB, hna, hnb]
    cases t.toList.isEmpty <;> cases na <;> cases nb <;> simp
  rw [hf]
  clear hf hna hnb hs hs2
  cases ht : t.toList.isEmpty
  · go_enter Tryz.func60, Tryz.ntmps60
    go_wp2_with fail
    refine ((unhide H) _).mono ?_
    rintro e w1 ⟨rfl, rfl⟩
    go_wp2
    go_ret
    exact ⟨rfl, (Below.refl _ _).alloc (Nat.le_refl _) _⟩
  cases na
  · go_enter Tryz.func60, Tryz.ntmps60
    go_wp2_with fail
    refine ((unhide H) _).mono ?_
    rintro e w1 ⟨rfl, rfl⟩
    go_wp2_with fail
    refine ((unhide HN) _).mono ?_
    rintro e w1 ⟨rfl, rfl⟩
    go_wp2
    go_ret
    exact ⟨rfl, (Below.refl _ _).alloc (Nat.le_refl _) _⟩
  cases nb
  all_goals
    go_enter Tryz.func60, Tryz.ntmps60
    go_wp2_with fail
    refine ((unhide H) _).mono ?_
    rintro e w1 ⟨rfl, rfl⟩
    go_wp2_with fail
    refine ((unhide HN) _).mono ?_
    rintro e w1 ⟨rfl, rfl⟩
    go_wp2_with fail
    refine ((unhide HB) _).mono ?_
    rintro e w1 ⟨rfl, rfl⟩
    go_wp2
    go_ret
    exact ⟨rfl, (Below.refl _ _).alloc (Nat.le_refl _) _⟩
set_option maxRecDepth 100000 in
set_option maxHeartbeats 1000000 in
theorem fault_append (a b t : ByteArray) (w : World) (hs : a.size ≤ maxLen) (hst : t.size ≤ maxLen) :
    Calls Tryz.prog 60 #[.agg #[.int .i64 4, .string a, .string b, .string t]] w
      fun e w' => e = .returned (.int .i64 (checkI ⟨4, a, b, t⟩)) ∧ Below w.heap.size w w' := by
  unfold maxLen at hst
  obtain ⟨na, hna⟩ : ∃ na, nameB a = na := ⟨_, rfl⟩
  obtain ⟨nt, hnt⟩ : ∃ nt, textB t = nt := ⟨_, rfl⟩
  have H : Hid (∀ W : World, Calls Tryz.prog 80 #[.int .i64 4] W fun e w' => e = .returned (.bool true) ∧ w' = W) := fun W => IsChange_any 4 W
  have HN : Hid (∀ W : World, Calls Tryz.prog 81 #[.string a] W fun e w' => e = .returned (.bool na) ∧ w' = W) := fun W => by have := IsName_any a W hs; rwa [hna] at this
  have hf : checkI ⟨4, a, b, t⟩ = if b.toList.isEmpty = false then 3 else if na = false then 2 else if nt = false then 4 else 0 := by
    simp [checkI, formedB, namedB, emptyB, hna, hnt]
  rw [hf]
  clear hf hna hs
  cases hb : b.toList.isEmpty
  · clear hnt hst
    go_enter Tryz.func60, Tryz.ntmps60
    go_wp2_with fail
    refine ((unhide H) _).mono ?_
    rintro e w1 ⟨rfl, rfl⟩
    go_wp2
    go_ret
    exact ⟨rfl, (Below.refl _ _).alloc (Nat.le_refl _) _⟩
  cases na
  · clear hnt hst
    go_enter Tryz.func60, Tryz.ntmps60
    go_wp2_with fail
    refine ((unhide H) _).mono ?_
    rintro e w1 ⟨rfl, rfl⟩
    go_wp2_with fail
    refine ((unhide HN) _).mono ?_
    rintro e w1 ⟨rfl, rfl⟩
    go_wp2
    go_ret
    exact ⟨rfl, (Below.refl _ _).alloc (Nat.le_refl _) _⟩
  by_cases h1 : (1 : Int) ≤ (t.size : Int)
  · by_cases h2 : (t.size : Int) ≤ 8
    · have hlen : t.data.toList.length = t.size := by rw [Array.length_toList]; rfl
      obtain ⟨rr, HR⟩ : ∃ rr, Hid (t.data.toList.any (outB 32 126) = rr) := ⟨_, rfl⟩
      have hf : nt = !rr := by rw [← hnt, textB, withinB, HR.out]; simp [h1, h2]
      subst hf
      obtain ⟨vv, HV⟩ : ∃ vv : Int, Hid ((if rr = true then (4 : Int) else 0) = vv) := ⟨_, rfl⟩
      have hg : (if true = false then (3 : Int) else if true = false then 2 else if (!rr) = false then 4 else 0) = vv := by rw [← HV.out]; cases rr <;> rfl
      rw [hg]
      clear hnt hg
      go_enter Tryz.func60, Tryz.ntmps60
      go_wp2_with fail
      refine ((unhide H) _).mono ?_
      rintro e w1 ⟨rfl, rfl⟩
      go_wp2_with fail
      refine ((unhide HN) _).mono ?_
      rintro e w1 ⟨rfl, rfl⟩
      go_wp2
      go_loop [3] (fun i => ∃ k : Nat, k ≤ t.size ∧ i = .int .i64 k ∧ Hid ((t.data.toList.take k).any (outB 32 126) = false)) (fun i => t.size - (intOf i).toNat)
      case atStart => exact ⟨0, Nat.zero_le _, rfl, by simp [Hid]⟩
      case round =>
        obtain ⟨k, hk, rfl, HA⟩ := hrel
        by_cases hlt : k < t.size
        · have hx : t.data.toList[k]? = some t[k] := by rw [List.getElem?_eq_getElem (by omega)]; rfl
          have HX := hide hx
          clear hx
          by_cases hb1 : (t[k].toNat : Int) < 32
          · have HQ : Hid (outB 32 126 t[k] = true) := by simp [Hid, outB, hb1]
            go_wp2
            go_ret
            refine ⟨?_, (Below.refl _ _).alloc (Nat.le_refl _) _⟩
            have h3 : t.data.toList.any (outB 32 126) = true := by
              rw [List.any_eq_true]
              exact ⟨_, List.mem_of_getElem? HX.out, HQ.out⟩
            rw [← HV.out, ← HR.out, h3]
            rfl
          · by_cases hb2 : (126 : Int) < (t[k].toNat : Int)
            · have HQ : Hid (outB 32 126 t[k] = true) := by simp [Hid, outB, hb2]
              go_wp2
              go_ret
              refine ⟨?_, (Below.refl _ _).alloc (Nat.le_refl _) _⟩
              have h3 : t.data.toList.any (outB 32 126) = true := by
                rw [List.any_eq_true]
                exact ⟨_, List.mem_of_getElem? HX.out, HQ.out⟩
              rw [← HV.out, ← HR.out, h3]
              rfl
            · have HQ : Hid (outB 32 126 t[k] = false) := by simp only [Hid, outB, hb1, hb2, decide_false, Bool.or_false]
              go_wp2
              go_round
              case rel => exact ⟨k + 1, by omega, by go_num, by rw [Hid, any_take_succ _ _ _ _ HX.out, HA.out, HQ.out]; rfl⟩
              case measure => simp [intOf]; omega
        · have : k = t.size := by omega
          subst this
          go_wp2
          go_ret
          refine ⟨?_, (Below.refl _ _).alloc (Nat.le_refl _) _⟩
          have h3 := HA.out
          rw [List.take_of_length_le (by omega)] at h3
          rw [← HV.out, ← HR.out, h3]
          rfl
    · have hf : nt = false := by rw [← hnt]; simp [textB, withinB, h2]
      subst hf
      clear hnt
      go_enter Tryz.func60, Tryz.ntmps60
      go_wp2_with fail
      refine ((unhide H) _).mono ?_
      rintro e w1 ⟨rfl, rfl⟩
      go_wp2_with fail
      refine ((unhide HN) _).mono ?_
      rintro e w1 ⟨rfl, rfl⟩
      go_wp2
      go_ret
      exact ⟨rfl, (Below.refl _ _).alloc (Nat.le_refl _) _⟩
  · have hf : nt = false := by rw [← hnt]; simp [textB, withinB, h1]
    subst hf
    clear hnt
    go_enter Tryz.func60, Tryz.ntmps60
    go_wp2_with fail
    refine ((unhide H) _).mono ?_
    rintro e w1 ⟨rfl, rfl⟩
    go_wp2_with fail
    refine ((unhide HN) _).mono ?_
    rintro e w1 ⟨rfl, rfl⟩
    go_wp2
    go_ret
    exact ⟨rfl, (Below.refl _ _).alloc (Nat.le_refl _) _⟩
theorem CallFault_any (k : Int) (a b t : ByteArray) (w : World) (ha : a.size ≤ maxLen) (hb : b.size ≤ maxLen) (ht : t.size ≤ maxLen) :
    Calls Tryz.prog 60 #[.agg #[.int .i64 k, .string a, .string b, .string t]] w
      fun e w' => e = .returned (.int .i64 (checkI ⟨k, a, b, t⟩)) ∧ Below w.heap.size w w' := by
  by_cases hk : k < 1 ∨ 6 < k
  · exact fault_other k a b t w hk
  by_cases h1 : k = 1 ∨ k = 2 ∨ k = 5
  · exact fault_plain k a b t w h1 ha
  have h2 : k = 3 ∨ k = 4 ∨ k = 6 := by omega
  rcases h2 with rfl | rfl | rfl
  · exact fault_rename a b t w ha hb
  · exact fault_append a b t w ha ht
  · exact fault_list a b t w
theorem at_any (name : ByteArray) (g : Option Addr) (cap : Nat) (st : List AFile) (w : World) (hn : st.length ≤ 1000)
    (hc : ∀ (j : Nat) (f : AFile), st[j]? = some f → ∃ B, g = some ⟨B, 0, none⟩ ∧ w.cell? ⟨B, j * 2, none⟩ = some (.string f.name)) :
    Calls Tryz.prog 61 #[.slice g st.length cap, .string name] w fun e w' => e = .returned (.int .i64 (fInt name st)) ∧ w' = w := by
  obtain ⟨rr, HR⟩ : ∃ rr, Hid (fInt name st = rr) := ⟨_, rfl⟩
  rw [HR.out]
  go_enter Tryz.func61, Tryz.ntmps61
  go_wp2
  go_loop [5] (fun i => ∃ k : Nat, k ≤ st.length ∧ i = .int .i64 k ∧ Hid (∀ (j : Nat) (f : AFile), j < k → st[j]? = some f → (f.name.toList == name.toList) = false)) (fun i => st.length - (intOf i).toNat)
  case atStart => exact ⟨0, Nat.zero_le _, rfl, fun j f hj => absurd hj (by omega)⟩
  case round =>
    obtain ⟨k, hk, rfl, HA⟩ := hrel
    by_cases hlt : k < st.length
    · obtain ⟨f, hf⟩ : ∃ f, st[k]? = some f := ⟨_, List.getElem?_eq_getElem hlt⟩
      obtain ⟨B, rfl, hcell⟩ := hc k f hf
      have HF := hide hf
      clear hc hf
      cases hq : (f.name.toList == name.toList)
      · have HQ := hide hq
        go_wp2
        go_round
        case rel =>
          refine ⟨k + 1, by omega, by go_num, fun j f' hj hf' => ?_⟩
          by_cases hjk : j = k
          · subst hjk
            rw [HF.out] at hf'
            cases hf'
            exact HQ.out
          · exact HA.out j f' (by omega) hf'
        case measure => simp [intOf]; omega
      · have HQ := hide hq
        go_wp2
        go_ret
        refine ⟨?_, rfl⟩
        rw [← HR.out, fInt_hit name st k hlt HA.out (fun f' hf' => by rw [HF.out] at hf'; cases hf'; exact HQ.out)]
        rfl
    · have : k = st.length := by omega
      subst this
      clear hc
      go_wp2
      go_ret
      refine ⟨?_, rfl⟩
      rw [← HR.out, fInt_miss name st (fun j f hf => HA.out j f (List.getElem?_eq_some_iff.1 hf).1 hf)]
      rfl
def SortedB (L : List ByteArray) : Prop := L.Pairwise fun a b => a.data.toList ≤ b.data.toList
theorem sorted_ins {L : List ByteArray} {x : ByteArray} {k : Nat} (hs : SortedB L) (h1 : ∀ j y, j < k → L[j]? = some y → Op.bytesLess y.toList x.toList = true) (h2 : ∀ y, L[k]? = some y → Op.bytesLess y.toList x.toList = false) :
    SortedB (L.take k ++ [x] ++ L.drop k) := by
  have e : L.take k ++ L.drop k = L := List.take_append_drop k L
  have hs' : SortedB (L.take k ++ L.drop k) := by rw [e]; exact hs
  unfold SortedB at hs' ⊢
  rw [List.pairwise_append] at hs'
  obtain ⟨p1, p2, p3⟩ := hs'
  have q1 : ∀ a, a ∈ L.take k → a.data.toList ≤ x.data.toList := fun a ha => by
    obtain ⟨j, hj⟩ := List.mem_iff_getElem?.1 ha
    rw [List.getElem?_take] at hj
    split at hj
    · have := h1 j a (by assumption) hj
      rw [less_eq] at this
      exact List.le_of_lt (by simpa using this)
    · cases hj
  have q2 : ∀ b, b ∈ L.drop k → x.data.toList ≤ b.data.toList := fun b hb => by
    cases hd : L.drop k with
    | nil => rw [hd] at hb; cases hb
    | cons y r =>
      have hy : L[k]? = some y := by
        have : (L.drop k)[0]? = some y := by rw [hd]; rfl
        simpa using this
      have h3 := h2 y hy
      rw [less_eq] at h3
      have h4 : x.data.toList ≤ y.data.toList := by
        have h5 : ¬ (y.data.toList < x.data.toList) := by simpa using h3
        exact List.not_lt.1 h5
      rw [hd] at hb p2
      rcases List.mem_cons.1 hb with rfl | hb
      · exact h4
      · exact List.le_trans h4 ((List.pairwise_cons.1 p2).1 b hb)
  rw [List.append_assoc, List.pairwise_append]
  refine ⟨p1, ?_, ?_⟩
  · rw [List.singleton_append, List.pairwise_cons]
    exact ⟨q2, p2⟩
  · intro a ha b hb
    rcases List.mem_append.1 hb with hb | hb
    · rw [List.mem_singleton.1 hb]; exact q1 a ha
    · exact p3 a ha b hb
theorem perm_ins {L M : List ByteArray} {x : ByteArray} {k : Nat} (h : L.Perm M) : (L.take k ++ [x] ++ L.drop k).Perm (M ++ [x]) := by
  have h1 : (L.take k ++ [x] ++ L.drop k).Perm (x :: (L.take k ++ L.drop k)) := by
    rw [List.append_assoc, List.singleton_append]
    exact List.perm_middle
  rw [List.take_append_drop] at h1
  exact h1.trans ((h.cons x).trans (List.perm_append_singleton x M).symm)
theorem sorted_unique {L xs : List ByteArray} (hp : L.Perm xs) (hs : SortedB L) : L = sortB xs := by
  have h1 : L.map (fun x => x.data.toList) = (xs.map fun x => x.data.toList).mergeSort fun x y => decide (x ≤ y) := by
    refine List.Perm.eq_of_pairwise (le := fun a b : List UInt8 => a ≤ b) ?_ ?_ ?_ ?_
    · intro a b _ _ h1 h2; exact List.le_antisymm h1 h2
    · rw [List.pairwise_map]; exact hs
    · have := List.pairwise_mergeSort (le := fun x y : List UInt8 => decide (x ≤ y)) le_trans' le_total (xs.map fun x => x.data.toList)
      exact this.imp (fun h => by simpa using h)
    · exact (hp.map _).trans (List.mergeSort_perm _ _).symm
  unfold sortB
  rw [← h1, List.map_map]
  have : ((fun l : List UInt8 => (⟨l.toArray⟩ : ByteArray)) ∘ fun x : ByteArray => x.data.toList) = id := by
    funext x
    exact mk_data x
  rw [this, List.map_id]
structure SameW (w w' : World) : Prop where
  os : w'.os = w.os
  tape : w'.tape = w.tape
  output : w'.output = w.output
  heap : w'.heap = w.heap
theorem SameW.refl (w : World) : SameW w w := ⟨rfl, rfl, rfl, rfl⟩
theorem SameW.below {w w' : World} (h : SameW w w') (N : Nat) : Below N w w' := ⟨h.os, h.tape, h.output, by rw [h.heap]; exact Nat.le_refl _, fun k _ => by rw [h.heap]⟩
theorem SameW.cell {w w' : World} (h : SameW w w') (a : Addr) : w'.cell? a = w.cell? a := World.cell?_of_block (by rw [h.heap])
theorem SameW.owns {w w' : World} (h : SameW w w') {base : Nat} {e : TypeId} {size : Nat} {v : Value} {n : Nat} {xs : List Value} (ho : w.ownsRow base e size v n xs) : w'.ownsRow base e size v n xs := ownsRow_same ho fun k _ => by rw [h.heap]
def Lies (w : World) (x : Value) (m : Nat) (news : List Value) : Prop :=
  (x = .slice none 0 0 ∧ m = 0 ∧ news = []) ∨ ∃ ad c, x = .slice (some ad) m c ∧ ∀ j u, news[j]? = some u → w.cell? (ad.add j) = some u
theorem run_app {w : World} (t ty : TypeId) (base : Nat) (e : TypeId) (i : TypeInfo) (z : Value) (size bytes : Nat) (ht : Tryz.prog.underlying t = some (.slice e)) (hi : Tryz.prog.info? e = some i) (hz : i.zero = some z)
    (hsize : i.size = size) (hby : i.bytes = bytes) (hzs : z.cells.size = size) (hsz : 0 < size)
    (v : Value) (n : Nat) (xs : List Value) (hown : w.ownsRow base e size v n xs) (x : Value) (m : Nat) (news : List Value) (hx : Lies w x m news) (hl : news.length = m * size) (h1 : ∀ u ∈ news, u.oneCell' = true)
    (h63 : n + m ≤ maxLen) (hbytes : (n + m) * bytes ≤ 140737488355328) (hbase : base ≤ w.heap.size) :
    ∃ a c w', (Builtin.append_ #[t, t] ty #[v, x]).run Tryz.prog w = .ok (.slice a (n + m) c) w' ∧ w'.ownsRow base e size (.slice a (n + m) c) (n + m) (xs ++ news) ∧ w.grownBy w' v.ownBlock ∧
      ((Value.slice a (n + m) c).ownBlock = v.ownBlock ∨ (Value.slice a (n + m) c).ownBlock = some w.heap.size) := by
  rcases hx with ⟨rfl, rfl, rfl⟩ | ⟨ad, c, rfl, hc⟩
  · have hsame : w.grownBy w v.ownBlock := ⟨rfl, rfl, rfl, Nat.le_refl _, fun _ _ _ => rfl⟩
    rcases hown.2 with ⟨rfl, rfl⟩ | ⟨g, cap, cur, rfl, hbg, hg, hnc, hcm, hcs, htake⟩
    · refine ⟨none, 0, w, ?_, by simpa using hown, hsame, .inl rfl⟩
      simp [Builtin.append_, run_underlying ht, sizeOf, typeInfo, hi, Builtin.lenOf, Builtin.firstCells, loadCells, loadCellsFrom]
    · refine ⟨some ⟨g, 0, none⟩, cap, w, ?_, by simpa using hown, hsame, .inl rfl⟩
      have := run_append_room_src (P := Tryz.prog) w t t ty e i ht hi g 0 n cap (.slice none 0 0) 0 [] (Src.ofNil w ht 0) (by omega) (by simp) (by simp)
      rw [this]
      rfl
  · obtain ⟨v', w', hr, h2, h3, _, h5⟩ := run_append_own_at (P := Tryz.prog) w base t ty e i z size bytes ht hi hz hsize hby hzs hsz v n xs hown ad m c news hl hc h1 h63 hbytes hbase
    obtain ⟨a, cap, rfl⟩ := row_form h2
    exact ⟨a, cap, w', hr, h2, h3, h5⟩
theorem step_app {w : World} {ops : Array Oper} {o : Oper} {a : Act} {K : Act → World → Prop} {Q : Exit → Act → World → Prop} {E : Prop} (hgd : o.guard = none) (s y : Operand) (t : TypeId)
    (ho : o.op = .call { callee := .builtin .append, args := #[s, y], argTypes := #[t, t] })
    (base : Nat) (e : TypeId) (i : TypeInfo) (z : Value) (size bytes : Nat) (ht : Tryz.prog.underlying t = some (.slice e)) (hi : Tryz.prog.info? e = some i) (hz : i.zero = some z)
    (hsize : i.size = size) (hby : i.bytes = bytes) (hzs : z.cells.size = size) (hsz : 0 < size)
    (v : Value) (n : Nat) (xs : List Value) (hs : a.eval s = v) (hown : w.ownsRow base e size v n xs) (x : Value) (m : Nat) (news : List Value) (hy : a.eval y = x) (hx : Lies w x m news) (hl : news.length = m * size) (h1 : ∀ u ∈ news, u.oneCell' = true)
    (h63 : n + m ≤ maxLen) (hbytes : (n + m) * bytes ≤ 140737488355328) (hbase : base ≤ w.heap.size)
    (h : ∀ ad c w', w'.ownsRow base e size (.slice ad (n + m) c) (n + m) (xs ++ news) → w.grownBy w' v.ownBlock → ((Value.slice ad (n + m) c).ownBlock = v.ownBlock ∨ (Value.slice ad (n + m) c).ownBlock = some w.heap.size) → K (a.put o.dst (.slice ad (n + m) c)) w') :
    if Region.wanted o (yielded ops a.tmps) = true then Oper.wp Tryz.prog o a w K Q else E := by
  have hw : Region.wanted o (yielded ops a.tmps) = true := by simp [Region.wanted, hgd]
  rw [if_pos hw]
  obtain ⟨ad, c, w', hr, h2, h3, h4⟩ := run_app (w := w) t o.type base e i z size bytes ht hi hz hsize hby hzs hsz v n xs hown x m news hx hl h1 h63 hbytes hbase
  unfold Oper.wp execOp
  simp only [ho, resolve, invoke, builtin, Sem.run_bind, Sem.run_pure, Result.andThen_ok, List.map_toArray, List.map_cons, List.map_nil, hs, hy, hr]
  exact h ad c w' h2 h3 h4
theorem below_drew (w : World) : Below w.heap.size w w.drew := ⟨rfl, rfl, rfl, Nat.le_refl _, fun _ _ => rfl⟩
theorem below_drew_alloc (w : World) (o : Obj) : Below w.heap.size w (w.drew.alloc o) := (below_drew w).alloc (Nat.le_refl _) o
theorem below_alloc_drew (w : World) (o : Obj) : Below w.heap.size w (w.alloc o).drew := ((Below.refl _ _).alloc (Nat.le_refl _) o).drew
theorem alloc_drew_new (w : World) (o : Obj) : (w.alloc o).drew.heap[w.heap.size]? = some o := heap_alloc_new w o
theorem src_after {wx wA : World} {o : Obj} (h : (wx.alloc o).drew.grownBy wA (Value.slice none 0 0).ownBlock) : wA.heap[wx.heap.size]? = some o := (h.block wx.heap.size (by simp) (by simp [Value.ownBlock])).trans (alloc_drew_new wx o)
theorem lies_block {w : World} {b : Nat} {cs : Array Value} {e : TypeId} {fr : Nat × Nat} (h : w.heap[b]? = some (.cells cs e fr)) (m c : Nat) : Lies w (.slice (some ⟨b, 0, none⟩) m c) m cs.toList := .inr ⟨_, _, rfl, World.news_of_block h⟩
theorem step_new {wx w : World} {ops : Array Oper} {o : Oper} {a : Act} {K : Act → World → Prop} {Q : Exit → Act → World → Prop} {E : Prop} (hgd : o.guard = none) (s y : Operand) (t : TypeId)
    (ho : o.op = .call { callee := .builtin .append, args := #[s, y], argTypes := #[t, t] }) (hbw : Below wx.heap.size wx w)
    (e : TypeId) (i : TypeInfo) (z : Value) (size bytes : Nat) (ht : Tryz.prog.underlying t = some (.slice e)) (hi : Tryz.prog.info? e = some i) (hz : i.zero = some z)
    (hsize : i.size = size) (hby : i.bytes = bytes) (hzs : z.cells.size = size) (hsz : 0 < size)
    (v : Value) (n : Nat) (xs : List Value) (hs : a.eval s = v) (hown : w.ownsRow wx.heap.size e size v n xs) (x : Value) (m : Nat) (news : List Value) (hy : a.eval y = x) (hx : Lies w x m news) (hl : news.length = m * size) (h1 : ∀ u ∈ news, u.oneCell' = true)
    (h63 : n + m ≤ maxLen) (hbytes : (n + m) * bytes ≤ 140737488355328)
    (h : ∀ ad c w', w'.ownsRow wx.heap.size e size (.slice ad (n + m) c) (n + m) (xs ++ news) → Below wx.heap.size wx w' → w.grownBy w' v.ownBlock → K (a.put o.dst (.slice ad (n + m) c)) w') :
    if Region.wanted o (yielded ops a.tmps) = true then Oper.wp Tryz.prog o a w K Q else E :=
  step_app hgd s y t ho wx.heap.size e i z size bytes ht hi hz hsize hby hzs hsz v n xs hs hown x m news hy hx hl h1 h63 hbytes hbw.size
    fun ad c w' h2 h3 _ => h ad c w' h2 (hbw.grown h3 hbw.size (fun j hj => (hown.lt j hj).1)) h3
def BRow (w : World) (N : Nat) (v : Value) (bs : List UInt8) : Prop := w.ownsRow N 5 1 v bs.length (bv bs)
theorem bv_one (bs : List UInt8) : ∀ u, u ∈ bv bs → u.oneCell' = true := fun u hu => by
  simp [bv] at hu
  obtain ⟨b, _, rfl⟩ := hu
  rfl
theorem BRow.cells {w : World} {N g n c : Nat} {bs : List UInt8} (h : BRow w N (.slice (some ⟨g, 0, none⟩) n c) bs) : ∀ (j : Nat) (x : UInt8), bs[j]? = some x → w.cell? ⟨g, 0 + j, none⟩ = some (.int .u8 (x.toNat : Int)) := fun j x hx => by
  have hn : n = bs.length := by
    obtain ⟨_, _, e⟩ := row_form h
    cases e; rfl
  subst hn
  have := h.cellAt j (by have := (List.getElem?_eq_some_iff.1 hx).1; omega)
  rw [Nat.zero_add, this]
  simp [bv, hx]
theorem BRow.below {w w' : World} {N : Nat} {v : Value} {bs : List UInt8} (h : BRow w N v bs) (hb : Below w.heap.size w w') : BRow w' N v bs := ownsRow_same h (fun k hk => hb.block k (h.lt k hk).2)
theorem wpList_bytes (w : World) {ops : Array Oper} {rest : List Oper} {o : Oper} {a : Act} {Q : Exit → Act → World → Prop} (hgd : o.guard = none) (s x : Operand)
    (ho : o.op = .call { callee := .builtin .append, args := #[s, x], argTypes := #[45, 45] })
    (N : Nat) (v : Value) (xs : List UInt8) (hs : a.eval s = v) (hown : BRow w N v xs) (y : Value) (m : Nat) (ys : List UInt8) (hx : a.eval x = y) (hl : ys.length = m) (hy : Lies w y m (bv ys)) (hsz : xs.length + m ≤ 1000000) (hN : N ≤ w.heap.size)
    (h : ∀ ad c w', BRow w' N (.slice ad (xs.length + m) c) (xs ++ ys) → w.grownBy w' v.ownBlock → wpList Tryz.prog ops Q rest (a.put o.dst (.slice ad (xs.length + m) c)) w') : wpList Tryz.prog ops Q (o :: rest) a w := by
  obtain ⟨i0, hi0, hz0, hz1, hz2⟩ := info_parts cinfo5
  refine wpList_plain hgd fun K hK => ?_
  obtain ⟨ad, c, w', hr, h2, h3, h4⟩ := run_app (w := w) 45 o.type N 5 i0 _ 1 1 Tryz.underlying45 hi0 hz0 hz1 hz2 rfl (by omega) v xs.length (bv xs) hown y m (bv ys) hy (by rw [bv_length]; omega) (bv_one ys) (by unfold maxLen; omega) (by omega) hN
  unfold Oper.wp execOp
  simp only [ho, resolve, invoke, builtin, Sem.run_bind, Sem.run_pure, Result.andThen_ok, List.map_toArray, List.map_cons, List.map_nil, hs, hx, hr]
  refine hK _ _ (h ad c w' ?_ h3)
  unfold BRow
  rw [List.length_append, hl, bv_append]
  exact h2
theorem BRow.nil (w : World) (N : Nat) : BRow w N (.slice none 0 0) [] := World.ownsRow_nil _ _ _ _
theorem BRow.lies {w : World} {N g n c : Nat} {bs : List UInt8} (h : BRow w N (.slice (some ⟨g, 0, none⟩) n c) bs) : Lies w (.slice (some ⟨g, 0, none⟩) n c) n (bv bs) := .inr ⟨_, _, rfl, fun j u hu => World.ownsRow.cells (v := .slice (some ⟨g, 0, none⟩) n c) h (g := g) rfl j u hu⟩
theorem BRow.form {w : World} {N : Nat} {a : Option Addr} {n c : Nat} {bs : List UInt8} (h : BRow w N (.slice a n c) bs) (h0 : bs ≠ []) : ∃ g, a = some ⟨g, 0, none⟩ ∧ n = bs.length := by
  have : 0 < bs.length := List.length_pos_iff.2 h0
  obtain ⟨g, cap, e, _⟩ := World.ownsRow.form h this
  cases e
  exact ⟨g, rfl, rfl⟩
def r0 : ARec := ⟨1, 7, ⟨3, ⟨#[97]⟩, ⟨#[98, 99]⟩, ⟨#[]⟩⟩, 6, ⟨#[]⟩⟩
theorem len0 : (tb [⟨#[97]⟩, ⟨#[98, 99]⟩, ⟨#[]⟩]).length = 6 := by rfl
theorem Encode_brow (r : ARec) (W : World) (n : Nat) (E : List UInt8) (hE : encL r = E) (hn : E.length = n) (hr : recI r = 0) :
    Calls Tryz.prog 137 #[r.val] W fun e w' => ∃ g cap, e = .returned (.tuple #[.slice (some ⟨g, 0, none⟩) n cap, .int .i64 0]) ∧ BRow w' W.heap.size (.slice (some ⟨g, 0, none⟩) n cap) E ∧ Below W.heap.size W w' := by
  subst hn hE
  have h := Encode_ok r.client r.no r.call.kind r.call.name r.call.dst r.call.text r.code r.ans W hr
  have hl : 5 + (tb [r.call.name, r.call.dst, r.call.text]).length = (encL r).length := (encL_length r).symm
  rw [hl] at h
  exact h
theorem ByAt.below {w W : World} {a : Option Addr} {bs : List UInt8} (h : ByAt w a bs) (hb : Below w.heap.size w W) : ByAt W a bs := fun h0 => by
  obtain ⟨b, off, rfl, hc⟩ := h h0
  refine ⟨b, off, rfl, fun j x hx => ?_⟩
  have := hc j x hx
  exact (hb.cell (p := ⟨b, off + j, none⟩) (World.block_lt_of_cell? w _ this)).trans this
theorem ByAt.lies {w : World} {a : Option Addr} {bs : List UInt8} {L cap : Nat} (h : ByAt w a bs) (hL : bs.length = L) (hn : a = none → L = 0 ∧ cap = 0) : Lies w (.slice a L cap) L (bv bs) := by
  cases a with
  | none =>
    obtain ⟨rfl, rfl⟩ := hn rfl
    exact .inl ⟨rfl, rfl, by simp [List.length_eq_zero_iff.1 hL, bv]⟩
  | some A =>
    refine .inr ⟨A, cap, rfl, fun j u hu => ?_⟩
    have h0 : bs ≠ [] := fun h0 => by subst h0; simp [bv] at hu
    obtain ⟨b, off, e, hc⟩ := h h0
    cases e
    simp [bv] at hu
    obtain ⟨x, hx, rfl⟩ := hu
    rw [addr_add]
    exact hc j x hx
def recCells (r : ARec) : Array Value := #[.int .i64 r.client, .int .i64 r.no, .int .i64 r.call.kind, .string r.call.name, .string r.call.dst, .string r.call.text, .int .i64 r.code, .string r.ans]
structure Two (b : Nat) (r q : ARec) (W : World) : Prop where
  r : W.heap[b]? = some (.cells (recCells r) 61 (0, 0))
  q : W.heap[b + 1]? = some (.cells (recCells q) 61 (0, 0))
theorem wpList_bytes' (w : World) {ops : Array Oper} {rest : List Oper} {o : Oper} {a : Act} {Q : Exit → Act → World → Prop} (hgd : o.guard = none) (s x : Operand)
    (ho : o.op = .call { callee := .builtin .append, args := #[s, x], argTypes := #[45, 45] })
    (N : Nat) (v : Value) (xs : List UInt8) (hs : a.eval s = v) (hown : BRow w N v xs) (y : Value) (m : Nat) (ys : List UInt8) (hx : a.eval x = y) (hl : ys.length = m) (hy : Lies w y m (bv ys)) (hsz : xs.length + m ≤ 1000000) (hN : N ≤ w.heap.size)
    (h : ∀ ad c w', BRow w' N (.slice ad (xs.length + m) c) (xs ++ ys) → w.grownBy w' v.ownBlock → ((Value.slice ad (xs.length + m) c).ownBlock = v.ownBlock ∨ (Value.slice ad (xs.length + m) c).ownBlock = some w.heap.size) → wpList Tryz.prog ops Q rest (a.put o.dst (.slice ad (xs.length + m) c)) w') : wpList Tryz.prog ops Q (o :: rest) a w := by
  obtain ⟨i0, hi0, hz0, hz1, hz2⟩ := info_parts cinfo5
  refine wpList_plain hgd fun K hK => ?_
  obtain ⟨ad, c, w', hr, h2, h3, h4⟩ := run_app (w := w) 45 o.type N 5 i0 _ 1 1 Tryz.underlying45 hi0 hz0 hz1 hz2 rfl (by omega) v xs.length (bv xs) hown y m (bv ys) hy (by rw [bv_length]; omega) (bv_one ys) (by unfold maxLen; omega) (by omega) hN
  unfold Oper.wp execOp
  simp only [ho, resolve, invoke, builtin, Sem.run_bind, Sem.run_pure, Result.andThen_ok, List.map_toArray, List.map_cons, List.map_nil, hs, hx, hr]
  refine hK _ _ (h ad c w' ?_ h3 h4)
  unfold BRow
  rw [List.length_append, hl, bv_append]
  exact h2
theorem row_cap {w : World} {N s n c : Nat} {e : TypeId} {a : Option Addr} {xs : List Value} (h : w.ownsRow N e s (.slice a n c) n xs) : n ≤ c := by
  rcases h.2 with ⟨e, _⟩ | ⟨g', c', cur, e, _, _, h1, _⟩
  · cases e; exact Nat.le_refl _
  · cases e; exact h1
theorem row_none {w : World} {N s n c : Nat} {e : TypeId} {xs : List Value} (h : w.ownsRow N e s (.slice none n c) n xs) : n = 0 ∧ c = 0 := by
  rcases h.2 with ⟨e, _⟩ | ⟨g', c', cur, e, _, _, h1, _⟩
  · cases e; exact ⟨rfl, rfl⟩
  · cases e
theorem row_some {w : World} {N s n c : Nat} {e : TypeId} {A : Addr} {xs : List Value} (h : w.ownsRow N e s (.slice (some A) n c) n xs) : ∃ g, A = ⟨g, 0, none⟩ ∧ g < w.heap.size := by
  rcases h.2 with ⟨e, _⟩ | ⟨g', c', cur, e, _, _, h1, _⟩
  · cases e
  · cases e; exact ⟨g', rfl, (h.lt g' rfl).2⟩
theorem bytes_below (w : World) (s : ByteArray) : Below w.heap.size w (Lib.bytesWorld w 5 s) := ⟨rfl, rfl, rfl, by rw [Lib.bytesWorld_size]; omega, fun k hk => Lib.bytesWorld_at_old w 5 s k hk⟩
theorem bytes_lies (w : World) (s : ByteArray) (c : Nat) : Lies (Lib.bytesWorld w 5 s) (.slice (some ⟨w.heap.size, 0, none⟩) s.size c) s.size (bv s.data.toList) := .inr ⟨_, _, rfl, fun j u hu => by
  simp [bv] at hu
  obtain ⟨b, hb, rfl⟩ := hu
  have hj : j < s.size := (Array.getElem?_eq_some_iff.1 hb).1
  rw [addr_add, Nat.zero_add, Lib.bytesWorld_cell w 5 s j hj]
  simp [List.getD, hb]⟩
theorem row_lies {w : World} {N n c : Nat} {a : Option Addr} {bs : List UInt8} (h : BRow w N (.slice a n c) bs) (hn : bs.length = n) : Lies w (.slice a n c) n (bv bs) := by
  have h' := h
  unfold BRow at h'
  rw [hn] at h'
  cases a with
  | none =>
    obtain ⟨rfl, rfl⟩ := row_none h'
    exact .inl ⟨rfl, rfl, by rw [List.length_eq_zero_iff.1 hn]; rfl⟩
  | some A =>
    obtain ⟨g, rfl, _⟩ := row_some h'
    exact h.lies
set_option maxRecDepth 100000 in
set_option maxHeartbeats 4000000 in
theorem BytesOf_any (r : ARec) (w : World) (n : Nat) (E : List UInt8) (hE : encL r = E) (hn : E.length = n) (hr : recI r = 0) :
    Calls Tryz.prog 41 #[r.val] w fun e w' => ∃ g cap, e = .returned (.slice (some ⟨g, 0, none⟩) n cap) ∧ BRow w' w.heap.size (.slice (some ⟨g, 0, none⟩) n cap) E ∧ Below w.heap.size w w' := by
  obtain ⟨c, no, ⟨k, a, b, t⟩, d, u⟩ := r
  obtain ⟨c0, c1, n0, n1, k0, k1, chk, d0, d1, hu, s1, s2, s3⟩ := rec_ok hr
  dsimp only at c0 c1 n0 n1 k0 k1 chk d0 d1 hu s1 s2 s3
  have hts : ∀ x, x ∈ [a, b, t] → x.size ≤ 255 := by intro x hx; simp at hx; rcases hx with rfl | rfl | rfl <;> omega
  obtain ⟨ts, hts0⟩ : ∃ ts, ts = [a, b, t] := ⟨_, rfl⟩
  obtain ⟨hdr, hhdr⟩ : ∃ l : List UInt8, l = [UInt8.ofNat c.toNat, UInt8.ofNat no.toNat, UInt8.ofNat k.toNat, UInt8.ofNat d.toNat] := ⟨_, rfl⟩
  have hbv : bv hdr = [.int .u8 c, .int .u8 no, .int .u8 k, .int .u8 d] := by
    rw [hhdr]
    simp only [bv, List.map_cons, List.map_nil, ofInt_u8 c0 (by omega), ofInt_u8 (x := no) (by omega) (by omega), ofInt_u8 (x := k) (by omega) (by omega), ofInt_u8 d0 (by omega)]
  have hhl : hdr.length = 4 := by rw [hhdr]; rfl
  have hL : (tb ts).length ≤ 250 := by rw [hts0]; simp [tb, ebytes_length]; omega
  obtain ⟨L, hLn⟩ : ∃ L, (tb ts).length = L := ⟨_, rfl⟩
  have hEE : E = [UInt8.ofNat (5 + L)] ++ (hdr ++ tb ts) := by
    rw [← hE, hhdr, ← hLn, hts0]
    rfl
  have hnn : n = 5 + L := by rw [← hn, hEE, List.length_append, List.length_append, hhl, hLn, List.length_singleton]; omega
  have e1 : bv [UInt8.ofNat (5 + L)] = [.int .u8 ((5 + L : Nat) : Int)] := by
    have : (UInt8.ofNat (5 + L)).toNat = 5 + L := by simp; omega
    simp only [bv, List.map_cons, List.map_nil, this]
  obtain ⟨fl, hfl⟩ : ∃ fl : Nat → Nat, ∀ k, fl k = (tb (ts.take k)).length := ⟨_, fun _ => rfl⟩
  have hfle : ∀ k, fl k ≤ 1000 := fun k => by
    rw [hfl]
    have h1 := flen_le (ts.take k) (fun t h => hts t (by rw [← hts0]; exact List.mem_of_mem_take h))
    have h2 : (ts.take k).length ≤ 3 := by rw [List.length_take, hts0]; simp; omega
    omega
  have wc : IntKind.u8.wrap c = c := by rw [IntKind.wrap_u8]; omega
  have wn : IntKind.u8.wrap no = no := by rw [IntKind.wrap_u8]; omega
  have wk : IntKind.u8.wrap k = k := by rw [IntKind.wrap_u8]; omega
  have wd : IntKind.u8.wrap d = d := by rw [IntKind.wrap_u8]; omega
  have wL : IntKind.u8.wrap ((4 : Int) + (L : Int) + 1) = (5 : Int) + (L : Int) := by rw [IntKind.wrap_u8]; omega
  have hct3 : ∀ j, j < 3 → ∃ x, (#[Value.string a, .string b, .string t] : Array Value)[j]? = some (.string x) ∧ ts[j]? = some x ∧ x.size ≤ 255 := fun j hj => by
    have h : ∀ x, ts[j]? = some x → x.size ≤ 255 := fun x hx => hts x (by rw [← hts0]; exact List.mem_of_getElem? hx)
    rw [hts0] at h ⊢
    match j, hj, h with
    | 0, _, h => exact ⟨a, rfl, rfl, h a rfl⟩
    | 1, _, h => exact ⟨b, rfl, rfl, h b rfl⟩
    | 2, _, h => exact ⟨t, rfl, rfl, h t rfl⟩
  have hfull : ts.take 3 = ts := by rw [hts0]; rfl
  have HH := hide (And.intro hbv (And.intro hhl (And.intro hEE (And.intro hnn (And.intro e1 (And.intro hLn hfull))))))
  have HFL := hide hfl
  have HC3 := hide hct3
  have hcv : ∀ (W : World) (s : ByteArray), (convert 9 45 (.string s)).run Tryz.prog W = .ok (.slice (some ⟨W.heap.size, 0, none⟩) s.size (grownCap W s.size 0 5)) (Lib.bytesWorld W 5 s) := fun W s => Lib.run_convert_string_bytes W 9 45 5 s Tryz.underlying9 Tryz.underlying45 Tryz.underlying5
  clear hts hbv hhl hEE hnn e1 hfl hct3 hE hn hr chk hu s1 s2 s3 c0 c1 n0 n1 k0 k1 d0 d1 hhdr hts0 hLn hfull
  simp only [ARec.val]
  go_enter Tryz.func41, Tryz.ntmps41
  go_wp2
  obtain ⟨W0, hW0⟩ : ∃ W0, W0 = (((w.alloc (.cells #[.int .i64 c, .int .i64 no, .int .i64 k, .string a, .string b, .string t, .int .i64 d, .string u] 61)).alloc (.cells #[.int .u8 c, .int .u8 no, .int .u8 k, .int .u8 d] 5)).alloc (.cells #[.string a, .string b, .string t] 9)) := ⟨_, rfl⟩
  rw [← hW0]
  have HB0 : Hid (Below w.heap.size w W0) := by rw [hW0]; exact (((Below.refl w.heap.size w).alloc (Nat.le_refl _) _).alloc (by simp) _).alloc (by simp; omega) _
  have HT0 : Hid (W0.heap[w.heap.size + 2]? = some (.cells #[.string a, .string b, .string t] 9 (0, 0))) := by
    rw [hW0]
    have h := heap_alloc_new ((w.alloc (.cells #[.int .i64 c, .int .i64 no, .int .i64 k, .string a, .string b, .string t, .int .i64 d, .string u] 61)).alloc (.cells #[.int .u8 c, .int .u8 no, .int .u8 k, .int .u8 d] 5)) (.cells #[.string a, .string b, .string t] 9)
    rw [show ((w.alloc (.cells #[.int .i64 c, .int .i64 no, .int .i64 k, .string a, .string b, .string t, .int .i64 d, .string u] 61)).alloc (.cells #[.int .u8 c, .int .u8 no, .int .u8 k, .int .u8 d] 5)).heap.size = w.heap.size + 2 by simp] at h
    exact h
  have HR0 : Hid (BRow W0 w.heap.size (.slice (some ⟨w.heap.size + 1, 0, none⟩) 4 4) hdr) := by
    have h := World.ownsRow_lit (w.alloc (.cells #[.int .i64 c, .int .i64 no, .int .i64 k, .string a, .string b, .string t, .int .i64 d, .string u] 61)) #[.int .u8 c, .int .u8 no, .int .u8 k, .int .u8 d] (base := w.heap.size) (e := 5) (size := 1) 4 (by simp) (by unfold maxLen; omega) rfl
    rw [hW0]
    unfold BRow
    rw [(unhide HH).1, (unhide HH).2.1]
    have h2 := h.alloc (.cells #[.string a, .string b, .string t] 9)
    rw [show (w.alloc (.cells #[.int .i64 c, .int .i64 no, .int .i64 k, .string a, .string b, .string t, .int .i64 d, .string u] 61)).heap.size = w.heap.size + 1 by simp] at h2
    exact h2
  clear hW0
  go_loopw [3, 5] (fun v i wr => ∃ (q : Nat) (a1 : Option Addr) (c1 : Nat), q ≤ 3 ∧ i = .int .i64 (q : Int) ∧ v = .slice a1 (4 + fl q) c1 ∧ Hid (BRow wr w.heap.size (.slice a1 (4 + fl q) c1) (hdr ++ tb (ts.take q))) ∧ Hid (Below w.heap.size w wr) ∧ Hid ((Value.slice a1 (4 + fl q) c1).ownBlock ≠ some (w.heap.size + 2)) ∧ Hid (wr.heap[w.heap.size + 2]? = some (.cells #[.string a, .string b, .string t] 9 (0, 0)))) (fun _ i _ => 3 - (intOf i).toNat)
  case atStart =>
    have e0 : fl 0 = 0 := by rw [unhide HFL]; simp [tb]
    refine ⟨0, some ⟨w.heap.size + 1, 0, none⟩, 4, Nat.zero_le _, rfl, by rw [e0], ?_, unhide HB0, by simp [Hid, Value.ownBlock], unhide HT0⟩
    rw [e0]
    simp only [List.take_zero, tb, List.flatMap_nil, List.append_nil]
    exact unhide HR0
  case round =>
    obtain ⟨q, a1, c1, hq, rfl, rfl, HO, HB, HN, HT⟩ := hrel
    by_cases h3 : (q : Int) < 3
    · obtain ⟨x, hx, hxt, hxs⟩ := (unhide HC3) q (by omega)
      have hcx : wr.cell? ⟨w.heap.size + 2, q, none⟩ = some (.string x) := by rw [cell_of_row wr _ _ _ _ _ (unhide HT)]; exact hx
      have hw8 : IntKind.u8.wrap (x.size : Int) = (x.size : Int) := by rw [IntKind.wrap_u8]; omega
      have hf1 := hfle q
      have hsucc : fl (q + 1) = fl q + (1 + x.size) := by rw [unhide HFL, unhide HFL, ftake_succ ts q x hxt, List.length_append, ebytes_length]
      have hlen : (hdr ++ tb (ts.take q)).length = 4 + fl q := by rw [List.length_append, (unhide HH).2.1, unhide HFL]
      have hTl : w.heap.size + 2 < wr.heap.size := (Array.getElem?_eq_some_iff.1 (unhide HT)).1
      have HX := hide hxt
      have HSU := hide hsucc
      clear hxt hsucc
      go_wp2_with (first
        | (at_builtin; refine wpList_bytes' _ rfl _ _ rfl w.heap.size (.slice a1 (4 + fl q) c1) (hdr ++ tb (ts.take q)) rfl ((unhide HO).alloc _) (.slice (some ⟨wr.heap.size, 0, none⟩) 1 1) 1 [UInt8.ofNat x.size] rfl rfl (by have e2 : bv [UInt8.ofNat x.size] = [.int .u8 (x.size : Int)] := (by have : (UInt8.ofNat x.size).toNat = x.size := (by simp; omega); simp only [bv, List.map_cons, List.map_nil, this]); rw [e2]; exact lies_block (heap_alloc_new wr (.cells #[.int .u8 (x.size : Int)] 5)) 1 1) (by rw [hlen]; omega) (by simp; omega) ?_; intro ad2 c2 w2 ho2 hg2 hat2; rw [hlen] at ho2 hat2; have hz2 : wr.heap.size + 1 ≤ w2.heap.size := (by have := hg2.size; simp at this; omega); have HT2 := hide ((hg2.block (w.heap.size + 2) (by simp; omega) (fun e => (unhide HN) e.symm)).trans ((Below.heap_alloc wr (.cells #[.int .u8 (x.size : Int)] 5) (w.heap.size + 2) hTl).trans (unhide HT))); have hcx2 : w2.cell? ⟨w.heap.size + 2, q, none⟩ = some (.string x) := (by rw [cell_of_row w2 _ _ _ _ _ (unhide HT2)]; exact hx))
        | (at_builtin; refine wpList_bytes' _ rfl _ _ rfl w.heap.size (.slice ad2 (4 + fl q + 1) c2) (hdr ++ tb (ts.take q) ++ [UInt8.ofNat x.size]) rfl (ho2.below (bytes_below w2 x)) (.slice (some ⟨w2.heap.size, 0, none⟩) x.size (grownCap w2 x.size 0 5)) x.size x.data.toList rfl (bsize x) (bytes_lies w2 x _) (by rw [List.length_append, hlen]; simp; omega) (by rw [Lib.bytesWorld_size]; omega) ?_; intro ad3 c3 w3 ho3 hg3 hat3))
      have hne2 : (Value.slice ad2 (4 + fl q + 1) c2).ownBlock ≠ some (w.heap.size + 2) := fun e => by
        rcases hat2 with h | h
        · exact (unhide HN) (h.symm.trans e)
        · rw [h] at e
          simp at e
          omega
      have hlen2 : (hdr ++ tb (ts.take q) ++ [UInt8.ofNat x.size]).length + x.size = 4 + fl (q + 1) := by rw [List.length_append, hlen, unhide HSU]; simp; omega
      rw [hlen2] at ho3 hat3
      have hne3 : (Value.slice ad3 (4 + fl (q + 1)) c3).ownBlock ≠ some (w.heap.size + 2) := fun e => by
        rcases hat3 with h | h
        · exact hne2 (h.symm.trans e)
        · rw [h, Lib.bytesWorld_size] at e
          simp at e
          omega
      have HO3 : Hid (BRow w3 w.heap.size (.slice ad3 (4 + fl (q + 1)) c3) (hdr ++ tb (ts.take (q + 1)))) := by
        have e1 : hdr ++ tb (ts.take (q + 1)) = hdr ++ tb (ts.take q) ++ [UInt8.ofNat x.size] ++ x.data.toList := by
          rw [ftake_succ ts q x (unhide HX)]
          simp [ebytes]
        rw [e1]
        exact ho3
      have HT3 := hide ((hg3.block (w.heap.size + 2) (by rw [Lib.bytesWorld_size]; omega) (fun e => hne2 e.symm)).trans ((Lib.bytesWorld_at_old w2 5 x (w.heap.size + 2) (by omega)).trans (unhide HT2)))
      have HB2 := hide (((unhide HB).alloc (unhide HB).size (.cells #[.int .u8 (x.size : Int)] 5)).grown hg2 (by have := (unhide HB).size; simp; omega) (fun j hj => ((unhide HO).lt j hj).1))
      have HB2' := hide ((unhide HB2).trans ((bytes_below w2 x).mono (unhide HB2).size))
      have HB3 := hide ((unhide HB2').grown hg3 (unhide HB2').size (fun j hj => (ho2.lt j hj).1))
      have hl3 : hdr.length + ((tb (ts.take q)).length + 1) + x.size = 4 + fl (q + 1) := by
        rw [← hlen2]; simp
      clear ho3 hg3 hat3 ho2 hg2 hat2
      go_roundw
      case rel => exact ⟨q + 1, ad3, c3, by omega, by go_num, by rw [hl3], unhide HO3, unhide HB3, hne3, unhide HT3⟩
      case measure => simp [intOf]; omega
    · obtain rfl : q = 3 := by omega
      obtain ⟨hbv, hhl, hEE, hnn, e1, hLn, hfull⟩ := unhide HH
      have hf3 : fl 3 = L := by rw [unhide HFL, hfull, hLn]
      rw [hf3] at HO HN ⊢
      rw [hfull] at HO
      have HE1 := hide e1
      have HEE := hide hEE
      have HNN := hide hnn
      have HLH : Hid ((hdr ++ tb ts).length = 4 + L) := by show (hdr ++ tb ts).length = 4 + L; rw [List.length_append, hhl, hLn]
      have hzb := (unhide HB).size
      have hL' : L ≤ 250 := by rw [← hLn]; exact hL
      have HR1 : Hid (BRow (wr.alloc (.cells #[.int .u8 (4 + (L : Int) + 1)] 5)) w.heap.size (.slice (some ⟨wr.heap.size, 0, none⟩) 1 1) [UInt8.ofNat (5 + L)]) := by
        have h := World.ownsRow_lit wr #[.int .u8 (4 + (L : Int) + 1)] (base := w.heap.size) (e := 5) (size := 1) 1 hzb (by unfold maxLen; omega) rfl
        show World.ownsRow _ _ _ _ _ _ _
        rw [e1, show ((5 + L : Nat) : Int) = 4 + (L : Int) + 1 by omega]
        exact h
      have HS1 := hide ((unhide HO).alloc (.cells #[.int .u8 (4 + (L : Int) + 1)] 5))
      clear hbv hhl hEE hnn e1 hLn hfull hf3 wL
      go_wp2_with (at_builtin; refine wpList_bytes' _ rfl _ _ rfl w.heap.size (.slice (some ⟨wr.heap.size, 0, none⟩) 1 1) [UInt8.ofNat (5 + L)] rfl (unhide HR1) (.slice a1 (4 + L) c1) (4 + L) (hdr ++ tb ts) rfl (unhide HLH) (row_lies (unhide HS1) (unhide HLH)) (by simp; omega) (by simp; omega) ?_; intro ad2 c2 w2 ho2 hg2 hat2)
      have hl2 : [UInt8.ofNat (5 + L)].length + (4 + L) = n := by rw [unhide HNN]; simp; omega
      rw [hl2, ← unhide HEE] at ho2
      obtain ⟨g2, rfl, _⟩ := ho2.form (by rw [unhide HEE]; simp)
      have HB2 := hide (((unhide HB).alloc hzb (.cells #[.int .u8 (4 + (L : Int) + 1)] 5)).grown hg2 (by simp; omega) (fun j hj => ((unhide HR1).lt j hj).1))
      have HO2 := hide ho2
      have hl3 : 1 + (4 + L) = n := by rw [unhide HNN]; omega
      obtain rfl : n = 1 + (4 + L) := hl3.symm
      clear ho2 hg2 hat2 hl2 hl3
      go_wp2
      go_ret
      exact ⟨g2, c2, rfl, unhide HO2, unhide HB2⟩
def sCells (B : Nat) (lv : Value) (f0 f1 f2 : ARec) : List Value := [.pointer (some ⟨B, 0, none⟩), lv] ++ rcells f0 ++ rcells f1 ++ rcells f2
structure SRep (N : Nat) (w : World) (S B : Nat) (own : List Nat) (lv : Value) (L : List ARec) : Prop where
  new : N ≤ S
  blk : ∃ C : Array Value, w.heap[S]? = some (.cells C 64 (0, 0)) ∧ C.toList = sCells B lv (lastR L 0) (lastR L 1) (lastR L 2)
  files : OObj N w B own (behind L)
  log : BRow w N lv (logB L)
  good : Good L
  sB : S ∉ own
  sL : lv.ownBlock ≠ some S
  lB : ∀ k, lv.ownBlock = some k → k ∉ own
def sown (S : Nat) (own : List Nat) (lv : Value) : List Nat := S :: (lv.ownBlock.toList ++ own)
theorem SRep.lt {N : Nat} {w : World} {S B : Nat} {own : List Nat} {lv : Value} {L : List ARec} (h : SRep N w S B own lv L) : S < w.heap.size := by
  obtain ⟨C, hC, _⟩ := h.blk
  exact (Array.getElem?_eq_some_iff.1 hC).1
theorem SRep.at {N : Nat} {w : World} {S B : Nat} {own : List Nat} {lv : Value} {L : List ARec} (h : SRep N w S B own lv L) (j : Nat) : w.cell? ⟨S, j, none⟩ = (sCells B lv (lastR L 0) (lastR L 1) (lastR L 2))[j]? ∧ w.frozen? ⟨S, j, none⟩ = false := by
  obtain ⟨C, hC, hl⟩ := h.blk
  refine ⟨?_, frozen_of_row w S j _ _ hC⟩
  rw [cell_of_row w S _ _ _ _ hC, ← hl, Array.getElem?_toList]
theorem SRep.ptr {N : Nat} {w : World} {S B : Nat} {own : List Nat} {lv : Value} {L : List ARec} (h : SRep N w S B own lv L) : w.cell? ⟨S, 0, none⟩ = some (.pointer (some ⟨B, 0, none⟩)) := (h.at 0).1
theorem SRep.lg {N : Nat} {w : World} {S B : Nat} {own : List Nat} {lv : Value} {L : List ARec} (h : SRep N w S B own lv L) : w.cell? ⟨S, 1, none⟩ = some lv := (h.at 1).1
theorem SRep.last {N : Nat} {w : World} {S B : Nat} {own : List Nat} {lv : Value} {L : List ARec} (h : SRep N w S B own lv L) (c : Nat) (hc : c < 3) : RecAt w S (2 + c * 8) (lastR L c) := by
  match c, hc with
  | 0, _ => exact ⟨(h.at 2).1, (h.at 3).1, (h.at 4).1, (h.at 5).1, (h.at 6).1, (h.at 7).1, (h.at 8).1, (h.at 9).1⟩
  | 1, _ => exact ⟨(h.at 10).1, (h.at 11).1, (h.at 12).1, (h.at 13).1, (h.at 14).1, (h.at 15).1, (h.at 16).1, (h.at 17).1⟩
  | 2, _ => exact ⟨(h.at 18).1, (h.at 19).1, (h.at 20).1, (h.at 21).1, (h.at 22).1, (h.at 23).1, (h.at 24).1, (h.at 25).1⟩
theorem SRep.below {N : Nat} {w w' : World} {S B : Nat} {own : List Nat} {lv : Value} {L : List ARec} (h : SRep N w S B own lv L) (hb : Below w.heap.size w w') : SRep N w' S B own lv L := by
  obtain ⟨C, hC, hl⟩ := h.blk
  exact ⟨h.new, ⟨C, (hb.block S h.lt).trans hC, hl⟩, ⟨h.files.rep.below hb, h.files.inv, h.files.own⟩, h.log.below hb, h.good, h.sB, h.sL, h.lB⟩
set_option maxRecDepth 100000 in
theorem Clone_none (c : Nat) (w : World) : Calls Tryz.prog 40 #[.slice none 0 0] w fun e w' => e = .returned (.slice none 0 0) ∧ w' = w := by
  have heq : ∀ W, (binOp .eql 45 (.slice none 0 0) (.slice none 0 0)).run Tryz.prog W = .ok (.bool true) W := fun W => by kernel_rfl
  go_enter Tryz.func40, Tryz.ntmps40
  go_wp2
  go_ret
  exact ⟨rfl, rfl⟩
set_option maxRecDepth 100000 in
set_option maxHeartbeats 2000000 in
theorem Clone_some (A : Addr) (n c : Nat) (bs : List UInt8) (w : World) (hb : ByAt w (some A) bs) (hn : bs.length = n) (hm : n ≤ 1000000) :
    Calls Tryz.prog 40 #[.slice (some A) n c] w fun e w' => ∃ a c', e = .returned (.slice a n c') ∧ BRow w' w.heap.size (.slice a n c') bs ∧ Below w.heap.size w w' := by
  have HR0 : Hid (BRow (w.alloc (.cells #[] 5)) w.heap.size (.slice (some ⟨w.heap.size, 0, none⟩) 0 0) []) := World.ownsRow_lit w #[] (base := w.heap.size) (e := 5) (size := 1) 0 (Nat.le_refl _) (by unfold maxLen; omega) rfl
  have hB : Below w.heap.size w (w.alloc (.cells #[] 5)) := (Below.refl _ _).alloc (Nat.le_refl _) _
  have HL := hide ((hb.below hB).lies (cap := c) hn (fun h => by cases h))
  have HB := hide hB
  clear hb hB
  have heq : ∀ W, (binOp .eql 45 (.slice (some A) n c) (.slice none 0 0)).run Tryz.prog W = .ok (.bool false) W := fun W => by kernel_rfl
  go_enter Tryz.func40, Tryz.ntmps40
  go_wp2_with (at_builtin; refine wpList_bytes _ rfl _ _ rfl w.heap.size (.slice (some ⟨w.heap.size, 0, none⟩) 0 0) [] rfl (unhide HR0) (.slice (some A) n c) n bs rfl hn (unhide HL) (by simp; omega) (by simp) ?_; intro ad c2 w2 ho2 hg2; simp only [List.length_nil, Nat.zero_add, List.nil_append] at ho2)
  have HO := hide ho2
  have HB2 := hide ((unhide HB).grown hg2 (unhide HB).size (fun j hj => ((unhide HR0).lt j hj).1))
  clear ho2 hg2
  go_wp2
  go_ret
  exact ⟨ad, c2, by simp, unhide HO, unhide HB2⟩
theorem Clone_by (a : Option Addr) (n c : Nat) (bs : List UInt8) (w : World) (hb : ByAt w a bs) (hn : bs.length = n) (hm : n ≤ 1000000) (hnil : a = none → n = 0 ∧ c = 0) :
    Calls Tryz.prog 40 #[.slice a n c] w fun e w' => ∃ a c', e = .returned (.slice a n c') ∧ BRow w' w.heap.size (.slice a n c') bs ∧ Below w.heap.size w w' := by
  cases a with
  | none =>
    obtain ⟨rfl, rfl⟩ := hnil rfl
    refine (Clone_none 0 w).mono ?_
    rintro e w' ⟨rfl, rfl⟩
    rw [List.length_eq_zero_iff.1 hn]
    exact ⟨none, 0, rfl, BRow.nil _ _, Below.refl _ _⟩
  | some A => exact Clone_some A n c bs w hb hn hm
theorem BRow.by {w : World} {N n c : Nat} {a : Option Addr} {bs : List UInt8} (h : BRow w N (.slice a n c) bs) (hn : bs.length = n) : ByAt w a bs ∧ (a = none → n = 0 ∧ c = 0) ∧ n ≤ c := by
  have h' := h
  unfold BRow at h'
  rw [hn] at h'
  refine ⟨fun h0 => ?_, fun e => ?_, row_cap h'⟩
  · obtain ⟨g, rfl, _⟩ := h.form h0
    exact ⟨g, 0, rfl, fun j x hx => h.cells j x hx⟩
  · subst e
    exact row_none h'
set_option maxRecDepth 100000 in
set_option maxHeartbeats 2000000 in
theorem Log_any {N : Nat} {w : World} {S B : Nat} {own : List Nat} {lv : Value} {L : List ARec} (h : SRep N w S B own lv L) (hs : (logB L).length ≤ 1000000) :
    Calls Tryz.prog 18 #[.pointer (some ⟨S, 0, none⟩)] w fun e w' => ∃ a c', e = .returned (.slice a (logB L).length c') ∧ BRow w' w.heap.size (.slice a (logB L).length c') (logB L) ∧ Below w.heap.size w w' := by
  obtain ⟨n, hn⟩ : ∃ n, (logB L).length = n := ⟨_, rfl⟩
  have hl := h.log
  obtain ⟨a, c, rfl⟩ := row_form hl
  have hc := h.lg
  rw [hn] at hl hc hs ⊢
  obtain ⟨h1, h2, _⟩ := hl.by hn
  have HC := hide (Clone_by a n c (logB L) w h1 hn hs h2)
  clear h hl h1 h2
  go_enter Tryz.func18, Tryz.ntmps18
  go_wp2_with fail
  refine (unhide HC).mono ?_
  rintro e w2 ⟨a2, c2, rfl, ho, hb⟩
  have HO := hide ho
  have HB := hide hb
  clear ho hb
  go_wp2
  go_ret
  exact ⟨a2, c2, rfl, unhide HO, unhide HB⟩
set_option maxRecDepth 100000 in
set_option maxHeartbeats 2000000 in
theorem SLast_any {N : Nat} {w : World} {S B : Nat} {own : List Nat} {lv : Value} {L : List ARec} (h : SRep N w S B own lv L) (client : Int) :
    Calls Tryz.prog 33 #[.pointer (some ⟨S, 0, none⟩), .int .i64 client] w fun e w' => e = .returned (.int .i64 (if client < 0 ∨ 2 < client then 0 else (lastR L client).no)) ∧ w' = w := by
  by_cases h1 : client < 0
  · rw [if_pos (by omega)]
    go_enter Tryz.func33, Tryz.ntmps33
    go_wp2
    go_ret
    exact ⟨rfl, rfl⟩
  by_cases h2 : 3 ≤ client
  · rw [if_pos (by omega)]
    go_enter Tryz.func33, Tryz.ntmps33
    go_wp2
    go_ret
    exact ⟨rfl, rfl⟩
  rw [if_neg (by omega)]
  obtain ⟨c, rfl⟩ : ∃ c : Nat, client = (c : Int) := ⟨client.toNat, by omega⟩
  have hx := (h.last c (by omega)).x1
  generalize (lastR L (c : Int)).no = m at hx ⊢
  have hc3 : (c : Int) < 3 := by omega
  clear h h2
  go_enter Tryz.func33, Tryz.ntmps33
  go_wp2
  go_ret
  exact ⟨rfl, rfl⟩
set_option maxRecDepth 100000 in
set_option maxHeartbeats 2000000 in
theorem SNew_any (w : World) : Calls Tryz.prog 35 #[] w fun e w' => ∃ S B own lv, e = .returned (.pointer (some ⟨S, 0, none⟩)) ∧ SRep w.heap.size w' S B own lv [] ∧ Below w.heap.size w w' := by
  have HN := hide (fun W => New_any W)
  have HO := hide (New_obj w)
  go_enter Tryz.func35, Tryz.ntmps35
  go_wp2_with fail
  refine ((unhide HN) _).mono ?_
  rintro e w1 ⟨rfl, rfl⟩
  have HR : Hid (SRep w.heap.size ((w.alloc (.cells #[.slice none 0 0] 95)).alloc (.cells #[.pointer (some ⟨w.heap.size, 0, none⟩), .slice none 0 0, .int .i64 0, .int .i64 0, .int .i64 0, .string ⟨#[]⟩, .string ⟨#[]⟩, .string ⟨#[]⟩, .int .i64 0, .string ⟨#[]⟩, .int .i64 0, .int .i64 0, .int .i64 0, .string ⟨#[]⟩, .string ⟨#[]⟩, .string ⟨#[]⟩, .int .i64 0, .string ⟨#[]⟩, .int .i64 0, .int .i64 0, .int .i64 0, .string ⟨#[]⟩, .string ⟨#[]⟩, .string ⟨#[]⟩, .int .i64 0, .string ⟨#[]⟩] 64)) (w.heap.size + 1) w.heap.size [w.heap.size] (.slice none 0 0) []) := by
    have h := heap_alloc_new (w.alloc (.cells #[.slice none 0 0] 95)) (.cells #[.pointer (some ⟨w.heap.size, 0, none⟩), .slice none 0 0, .int .i64 0, .int .i64 0, .int .i64 0, .string ⟨#[]⟩, .string ⟨#[]⟩, .string ⟨#[]⟩, .int .i64 0, .string ⟨#[]⟩, .int .i64 0, .int .i64 0, .int .i64 0, .string ⟨#[]⟩, .string ⟨#[]⟩, .string ⟨#[]⟩, .int .i64 0, .string ⟨#[]⟩, .int .i64 0, .int .i64 0, .int .i64 0, .string ⟨#[]⟩, .string ⟨#[]⟩, .string ⟨#[]⟩, .int .i64 0, .string ⟨#[]⟩] 64)
    rw [show (w.alloc (.cells #[.slice none 0 0] 95)).heap.size = w.heap.size + 1 by simp] at h
    have hb : Below (w.alloc (.cells #[.slice none 0 0] 95)).heap.size (w.alloc (.cells #[.slice none 0 0] 95)) ((w.alloc (.cells #[.slice none 0 0] 95)).alloc (.cells #[.pointer (some ⟨w.heap.size, 0, none⟩), .slice none 0 0, .int .i64 0, .int .i64 0, .int .i64 0, .string ⟨#[]⟩, .string ⟨#[]⟩, .string ⟨#[]⟩, .int .i64 0, .string ⟨#[]⟩, .int .i64 0, .int .i64 0, .int .i64 0, .string ⟨#[]⟩, .string ⟨#[]⟩, .string ⟨#[]⟩, .int .i64 0, .string ⟨#[]⟩, .int .i64 0, .int .i64 0, .int .i64 0, .string ⟨#[]⟩, .string ⟨#[]⟩, .string ⟨#[]⟩, .int .i64 0, .string ⟨#[]⟩] 64)) := (Below.refl _ _).alloc (Nat.le_refl _) _
    exact ⟨by omega, ⟨_, h, rfl⟩, ⟨(unhide HO).rep.below hb, (unhide HO).inv, (unhide HO).own⟩, BRow.nil _ _, Good.nil, by simp, by simp [Value.ownBlock], by simp [Value.ownBlock]⟩
  have HB := hide (((Below.refl w.heap.size w).alloc (Nat.le_refl _) (.cells #[.slice none 0 0] 95)).alloc (by simp) (.cells #[.pointer (some ⟨w.heap.size, 0, none⟩), .slice none 0 0, .int .i64 0, .int .i64 0, .int .i64 0, .string ⟨#[]⟩, .string ⟨#[]⟩, .string ⟨#[]⟩, .int .i64 0, .string ⟨#[]⟩, .int .i64 0, .int .i64 0, .int .i64 0, .string ⟨#[]⟩, .string ⟨#[]⟩, .string ⟨#[]⟩, .int .i64 0, .string ⟨#[]⟩, .int .i64 0, .int .i64 0, .int .i64 0, .string ⟨#[]⟩, .string ⟨#[]⟩, .string ⟨#[]⟩, .int .i64 0, .string ⟨#[]⟩] 64))
  go_wp2
  go_ret
  exact ⟨_, _, _, _, rfl, unhide HR, unhide HB⟩
structure SCore (N : Nat) (w : World) (S B : Nat) (own : List Nat) (lv : Value) (L : List ARec) : Prop where
  new : N ≤ S
  blk : ∃ C : Array Value, w.heap[S]? = some (.cells C 64 (0, 0)) ∧ C.toList = sCells B lv (lastR L 0) (lastR L 1) (lastR L 2)
  files : OObj N w B own (behind L)
  sB : S ∉ own
theorem SRep.core {N : Nat} {w : World} {S B : Nat} {own : List Nat} {lv : Value} {L : List ARec} (h : SRep N w S B own lv L) : SCore N w S B own lv L := ⟨h.new, h.blk, h.files, h.sB⟩
theorem SCore.lt {N : Nat} {w : World} {S B : Nat} {own : List Nat} {lv : Value} {L : List ARec} (h : SCore N w S B own lv L) : S < w.heap.size := by
  obtain ⟨C, hC, _⟩ := h.blk
  exact (Array.getElem?_eq_some_iff.1 hC).1
theorem SCore.at {N : Nat} {w : World} {S B : Nat} {own : List Nat} {lv : Value} {L : List ARec} (h : SCore N w S B own lv L) (j : Nat) : w.cell? ⟨S, j, none⟩ = (sCells B lv (lastR L 0) (lastR L 1) (lastR L 2))[j]? ∧ w.frozen? ⟨S, j, none⟩ = false := by
  obtain ⟨C, hC, hl⟩ := h.blk
  refine ⟨?_, frozen_of_row w S j _ _ hC⟩
  rw [cell_of_row w S _ _ _ _ hC, ← hl, Array.getElem?_toList]
theorem SCore.ptr {N : Nat} {w : World} {S B : Nat} {own : List Nat} {lv : Value} {L : List ARec} (h : SCore N w S B own lv L) : w.cell? ⟨S, 0, none⟩ = some (.pointer (some ⟨B, 0, none⟩)) := (h.at 0).1
theorem SCore.below {N : Nat} {w w' : World} {S B : Nat} {own : List Nat} {lv : Value} {L : List ARec} (h : SCore N w S B own lv L) (hb : Below w.heap.size w w') : SCore N w' S B own lv L := by
  obtain ⟨C, hC, hl⟩ := h.blk
  exact ⟨h.new, ⟨C, (hb.block S h.lt).trans hC, hl⟩, ⟨h.files.rep.below hb, h.files.inv, h.files.own⟩, h.sB⟩
def set8o (w : World) (b o : Nat) (y0 y1 y2 y3 y4 y5 y6 y7 : Value) : World :=
  (((((((w.setCell ⟨b, o, none⟩ y0).setCell ⟨b, o + 1, none⟩ y1).setCell ⟨b, o + 2, none⟩ y2).setCell ⟨b, o + 3, none⟩ y3).setCell ⟨b, o + 4, none⟩ y4).setCell ⟨b, o + 5, none⟩ y5).setCell ⟨b, o + 6, none⟩ y6).setCell ⟨b, o + 7, none⟩ y7
theorem set_mid (A Z : List Value) (x0 x1 x2 x3 x4 x5 x6 x7 y0 y1 y2 y3 y4 y5 y6 y7 : Value) :
    ((((((((A ++ x0 :: x1 :: x2 :: x3 :: x4 :: x5 :: x6 :: x7 :: Z).set A.length y0).set (A.length + 1) y1).set (A.length + 2) y2).set (A.length + 3) y3).set (A.length + 4) y4).set (A.length + 5) y5).set (A.length + 6) y6).set (A.length + 7) y7 = A ++ y0 :: y1 :: y2 :: y3 :: y4 :: y5 :: y6 :: y7 :: Z := by
  induction A with
  | nil => rfl
  | cons a A ih =>
    simp only [List.cons_append, List.length_cons, show A.length + 1 + 1 = A.length + 1 + 1 from rfl, Nat.add_right_comm A.length 1, List.set_cons_succ]
    rw [ih]
theorem set8o_blk {w : World} {b o : Nat} {C : Array Value} {e : TypeId} (h : w.heap[b]? = some (.cells C e (0, 0))) (A Z : List Value) (x0 x1 x2 x3 x4 x5 x6 x7 : Value) (hC : C.toList = A ++ x0 :: x1 :: x2 :: x3 :: x4 :: x5 :: x6 :: x7 :: Z) (hA : A.length = o) (y0 y1 y2 y3 y4 y5 y6 y7 : Value) :
    ∃ C', (set8o w b o y0 y1 y2 y3 y4 y5 y6 y7).heap[b]? = some (.cells C' e (0, 0)) ∧ C'.toList = A ++ y0 :: y1 :: y2 :: y3 :: y4 :: y5 :: y6 :: y7 :: Z := by
  have h0 := heap_setCell_same h (o := o) y0
  have h1 := heap_setCell_same h0 (o := o + 1) y1
  have h2 := heap_setCell_same h1 (o := o + 2) y2
  have h3 := heap_setCell_same h2 (o := o + 3) y3
  have h4 := heap_setCell_same h3 (o := o + 4) y4
  have h5 := heap_setCell_same h4 (o := o + 5) y5
  have h6 := heap_setCell_same h5 (o := o + 6) y6
  have h7 := heap_setCell_same h6 (o := o + 7) y7
  refine ⟨_, h7, ?_⟩
  simp only [Array.toList_setIfInBounds, hC, ← hA]
  exact set_mid A Z x0 x1 x2 x3 x4 x5 x6 x7 y0 y1 y2 y3 y4 y5 y6 y7
theorem set8o_kept (w : World) (b o : Nat) (y0 y1 y2 y3 y4 y5 y6 y7 : Value) : Kept [b] w (set8o w b o y0 y1 y2 y3 y4 y5 y6 y7) := by
  have k : ∀ (w : World) (o : Nat) (y : Value), Kept [b] w (w.setCell ⟨b, o, none⟩ y) := fun w o y => kept_setCell [b] w b o y (by simp)
  have s : ∀ x, x ∈ [b] → x ∈ [b] ∨ w.heap.size ≤ x := fun x hx => .inl hx
  unfold set8o
  exact (((((((k _ _ _).trans (k _ _ _) s).trans (k _ _ _) s).trans (k _ _ _) s).trans (k _ _ _) s).trans (k _ _ _) s).trans (k _ _ _) s).trans (k _ _ _) s
theorem sCells_set (B : Nat) (lv : Value) (L : List ARec) (r : ARec) (c : Nat) (hc : c < 3) (hr : r.client = (c : Int)) :
    ∃ A Z, A.length = 2 + c * 8 ∧ sCells B lv (lastR L 0) (lastR L 1) (lastR L 2) = A ++ (rcells (lastR L c) ++ Z) ∧ sCells B lv (lastR (L ++ [r]) 0) (lastR (L ++ [r]) 1) (lastR (L ++ [r]) 2) = A ++ (rcells r ++ Z) := by
  simp only [lastR_snoc, hr]
  match c, hc with
  | 0, _ => exact ⟨[.pointer (some ⟨B, 0, none⟩), lv], rcells (lastR L 1) ++ rcells (lastR L 2), rfl, by simp [sCells], by simp [sCells]⟩
  | 1, _ => exact ⟨[.pointer (some ⟨B, 0, none⟩), lv] ++ rcells (lastR L 0), rcells (lastR L 2), rfl, by simp [sCells], by simp [sCells]⟩
  | 2, _ => exact ⟨[.pointer (some ⟨B, 0, none⟩), lv] ++ rcells (lastR L 0) ++ rcells (lastR L 1), [], rfl, by simp [sCells], by simp [sCells]⟩
theorem St.keptS {w w' : World} {B : Nat} {own own2 : List Nat} {st : List AFile} (h : St w B own st) (hk : Kept own2 w w') (hd : ∀ k, k ∈ own → k ∉ own2) : St w' B own st := by
  obtain ⟨v, fs, hr, rfl, rfl⟩ := h
  exact ⟨v, fs, hr.kept hk hd, rfl, rfl⟩
theorem SCore.done {N : Nat} {w w1 : World} {S B : Nat} {own own1 : List Nat} {lv : Value} {L : List ARec} {r : ARec} {c : Nat} (h : SCore N w S B own lv L) (ho : OObj N w1 B own1 (aDo (behind L) r.call).st) (hn : Next N w w1 own own1) (hc : c < 3) (hr : r.client = (c : Int)) :
    SCore N (set8o w1 S (2 + c * 8) (.int .i64 r.client) (.int .i64 r.no) (.int .i64 r.call.kind) (.string r.call.name) (.string r.call.dst) (.string r.call.text) (.int .i64 r.code) (.string r.ans)) S B own1 lv (L ++ [r]) := by
  obtain ⟨C, hC, hl⟩ := h.blk
  obtain ⟨hs1, hs2⟩ := hn.keep S h.lt h.sB
  obtain ⟨A, Z, hA, e1, e2⟩ := sCells_set B lv L r c hc hr
  rw [e1] at hl
  obtain ⟨C', h1, h2⟩ := set8o_blk (hs2.trans hC) A Z _ _ _ _ _ _ _ _ hl hA (.int .i64 r.client) (.int .i64 r.no) (.int .i64 r.call.kind) (.string r.call.name) (.string r.call.dst) (.string r.call.text) (.int .i64 r.code) (.string r.ans)
  have hk := set8o_kept w1 S (2 + c * 8) (.int .i64 r.client) (.int .i64 r.no) (.int .i64 r.call.kind) (.string r.call.name) (.string r.call.dst) (.string r.call.text) (.int .i64 r.code) (.string r.ans)
  refine ⟨h.new, ⟨C', h1, by rw [h2, e2]; rfl⟩, ?_, hs1⟩
  rw [behind_snoc]
  exact ⟨ho.rep.keptS hk (by intro k hk1 hm; rw [List.mem_singleton.1 hm] at hk1; exact hs1 hk1), ho.inv, ho.own⟩
theorem allF_few : ∀ (f : Nat) (bs : List UInt8), (allF f bs).1.length ≤ bs.length
  | 0, _ => by simp [allF]
  | f + 1, bs => by
    rw [allF]
    by_cases h : (decR bs).code ≠ 0
    · rw [if_pos h]; simp
    · rw [if_neg h]
      have hn := decR_n (by simpa using h)
      have := allF_few f (bs.drop (decR bs).n.toNat)
      rw [List.length_drop] at this
      simp only [List.length_cons]
      omega
theorem allR_few (bs : List UInt8) : (allR bs).1.length ≤ bs.length := allF_few _ _
theorem All_by (a0 : Option Addr) (L cap : Nat) (bs : List UInt8) (w : World) (hb : ByAt w a0 bs) (hL : bs.length = L) (hcap : L ≤ cap) (hm : L ≤ 1000000) (hnil : a0 = none → L = 0 ∧ cap = 0) : Calls Tryz.prog 101 #[.slice a0 L cap] w (AllRes w (allR bs)) := by
  cases a0 with
  | none =>
    obtain ⟨rfl, rfl⟩ := hnil rfl
    rw [List.length_eq_zero_iff.1 hL]
    exact All_none w
  | some A =>
    rcases Nat.eq_zero_or_pos L with h | h
    · subst h
      rw [List.length_eq_zero_iff.1 hL]
      exact All_empty A cap w
    · obtain ⟨b, off, e, hc⟩ := hb (fun h0 => by rw [h0] at hL; simp at hL; omega)
      cases e
      obtain ⟨x, hx⟩ : ∃ x, bs[0]? = some x := ⟨_, List.getElem?_eq_getElem (by omega)⟩
      exact All_some b off L cap bs w hc (World.block_lt_of_cell? w _ (hc 0 x hx)) hL hcap hm
theorem allF_good : ∀ (f : Nat) (bs : List UInt8), bs.length < f → Good (allF f bs).1 ∧ bs.take (allF f bs).2 = logB (allF f bs).1 ∧ (allF f bs).2 = (logB (allF f bs).1).length ∧ (allF f bs).2 ≤ bs.length
  | 0, _, h => by omega
  | f + 1, bs, hf => by
    rw [allF]
    by_cases h : (decR bs).code ≠ 0
    · rw [if_pos h]; exact ⟨Good.nil, by simp [logB], by simp [logB], by simp⟩
    · have h0 : (decR bs).code = 0 := by simpa using h
      obtain ⟨e1, e2, e3, e4⟩ := decR_inv h0
      have h5 := (encL_le e1).1
      rw [if_neg h]
      have hn : (decR bs).n.toNat = (encL (decR bs).rcd).length := by rw [e2]; simp
      rw [hn]
      obtain ⟨i1, i2, i3, i4⟩ := allF_good f (bs.drop (encL (decR bs).rcd).length) (by rw [List.length_drop]; omega)
      dsimp only
      have hl : logB ((decR bs).rcd :: (allF f (bs.drop (encL (decR bs).rcd).length)).1) = encL (decR bs).rcd ++ logB (allF f (bs.drop (encL (decR bs).rcd).length)).1 := by simp [logB]
      refine ⟨fun r hr => ?_, ?_, ?_, ?_⟩
      · rcases List.mem_cons.1 hr with rfl | hr
        · exact e1
        · exact i1 r hr
      · rw [hl, ← i2, List.take_add, e3]
      · rw [hl, List.length_append, ← i3]
      · rw [List.length_drop] at i4; omega
theorem allR_good (bs : List UInt8) : Good (allR bs).1 ∧ bs.take (allR bs).2 = logB (allR bs).1 ∧ (allR bs).2 = (logB (allR bs).1).length ∧ (allR bs).2 ≤ bs.length := allF_good _ _ (by omega)
theorem SRep.base {N M : Nat} {w : World} {S B : Nat} {own : List Nat} {lv : Value} {L : List ARec} (h : SRep M w S B own lv L) (hN : N ≤ M) : SRep N w S B own lv L :=
  ⟨Nat.le_trans hN h.new, h.blk, ⟨h.files.rep, h.files.inv, fun k hk => Nat.le_trans hN (h.files.own k hk)⟩, ownsRow_base h.log hN, h.good, h.sB, h.sL, h.lB⟩
theorem SCore.setLog {N : Nat} {w : World} {S B : Nat} {own : List Nat} {lv lv' : Value} {L : List ARec} (h : SCore N w S B own lv L) (hl : BRow w N lv' (logB L)) (h1 : lv'.ownBlock ≠ some S) (h2 : ∀ k, lv'.ownBlock = some k → k ∉ own) (hg : Good L) :
    SRep N (w.setCell ⟨S, 1, none⟩ lv') S B own lv' L := by
  obtain ⟨C, hC, hl2⟩ := h.blk
  have hs := heap_setCell_same hC (o := 1) lv'
  have hk := kept_setCell [S] w S 1 lv' (by simp)
  refine ⟨h.new, ⟨_, hs, ?_⟩, ⟨h.files.rep.keptS hk (fun k hk1 hm => ?_), h.files.inv, h.files.own⟩, ?_, hg, h.sB, h1, h2⟩
  · rw [Array.toList_setIfInBounds, hl2]; rfl
  · rw [List.mem_singleton.1 hm] at hk1; exact h.sB hk1
  · exact ownsRow_same hl (fun j hj => hk.block j (hl.lt j hj).2 (fun hm => h1 (by rw [List.mem_singleton.1 hm] at hj; exact hj)))
set_option maxRecDepth 100000 in
set_option maxHeartbeats 8000000 in
theorem Open_any (a0 : Option Addr) (n cap : Nat) (bs : List UInt8) (w : World) (hb : ByAt w a0 bs) (hn : bs.length = n) (hcap : n ≤ cap) (hm : n ≤ 1000000) (hnil : a0 = none → n = 0 ∧ cap = 0) :
    Calls Tryz.prog 75 #[.slice a0 n cap] w fun e w' => ∃ S B own lv, e = .returned (.tuple #[.pointer (some ⟨S, 0, none⟩), .int .i64 ((n : Int) - ((allR bs).2 : Int))]) ∧ SRep w.heap.size w' S B own lv (allR bs).1 ∧ Below w.heap.size w w' := by
  obtain ⟨hg, ht, hk2, hkn⟩ := allR_good bs
  have hfew := allR_few bs
  have HAL := hide (All_by a0 n cap bs w hb hn hcap hm hnil)
  have HCL : Hid (∀ W, Below w.heap.size w W → Calls Tryz.prog 40 #[.slice a0 (allR bs).2 cap] W fun e w' => ∃ a c', e = .returned (.slice a (allR bs).2 c') ∧ BRow w' W.heap.size (.slice a (allR bs).2 c') (logB (allR bs).1) ∧ Below W.heap.size W w') := fun W hW => by
    rw [← ht]
    refine Clone_by a0 (allR bs).2 cap (bs.take (allR bs).2) W (fun h0 => ?_) (by rw [List.length_take]; omega) (by omega) (fun h => ?_)
    · obtain ⟨b, off, rfl, hc⟩ := (hb.below hW) (fun h1 => h0 (by rw [h1]; simp))
      refine ⟨b, off, rfl, fun j x hx => hc j x ?_⟩
      rw [List.getElem?_take] at hx
      split at hx
      · exact hx
      · cases hx
    · have := hnil h; omega
  generalize allR bs = al at *
  obtain ⟨rs, k⟩ := al
  dsimp only at *
  have HG := hide hg
  have HNW := hide (fun W => SNew_any W)
  have HK2 := hide hk2
  obtain ⟨m, hmm⟩ : ∃ m, rs.length = m := ⟨_, rfl⟩
  have hkc : (k : Int) ≤ (cap : Int) := by omega
  have hm5 : m ≤ 1000000 := by omega
  have hkn' : k ≤ n := by omega
  clear hb hn hnil hg ht hk2 hkn hfew
  go_enter Tryz.func75, Tryz.ntmps75
  go_wp2_with fail
  refine (unhide HAL).mono ?_
  rintro e w1 ⟨ga, ca, rfl, oa, b1⟩
  dsimp only
  rw [hmm] at oa ⊢
  have HRS := hide (recs_row oa hmm)
  have HB1 := hide b1
  have HRL : Hid (∀ b, (Value.slice ga m ca).ownBlock = some b → b < w1.heap.size) := fun b h => (oa.lt b h).2
  clear oa b1
  go_wp2_with fail
  refine ((unhide HNW) _).mono ?_
  rintro e w2 ⟨S, B, own0, lv0, rfl, hs2, b2⟩
  have HS2 := hide hs2.core
  have HB2 := hide b2
  clear hs2 b2
  go_wp2_with fail
  go_loopw [17, 8] (fun i _ wr => ∃ (q : Nat) (own : List Nat), q ≤ m ∧ i = .int .i64 (q : Int) ∧ Hid (SCore w1.heap.size wr S B own lv0 (rs.take q)) ∧ Hid (Below w1.heap.size w1 wr)) (fun i _ _ => m - (intOf i).toNat)
  case atStart => exact ⟨0, own0, Nat.zero_le _, rfl, hide (by rw [List.take_zero]; exact unhide HS2), unhide HB2⟩
  case round =>
    obtain ⟨q, own, hq, rfl, HS, HB⟩ := hrel
    by_cases hlt : (q : Int) < (m : Int)
    · obtain ⟨r, hr⟩ : ∃ r, rs[q]? = some r := ⟨_, List.getElem?_eq_getElem (by omega)⟩
      obtain ⟨b, off, rfl, hx⟩ := ((unhide HRS).below (unhide HB)).2 (by omega)
      obtain ⟨x0, x1, x2, x3, x4, x5, x6, x7⟩ := hx q r hr
      have hok := rec_ok ((unhide HG) r (List.mem_of_getElem? hr))
      obtain ⟨c, hc⟩ : ∃ c : Nat, r.client = (c : Int) := ⟨r.client.toNat, by have := hok.c0; omega⟩
      have hc3 : c < 3 := by have := hok.c1; omega
      have htk : rs.take (q + 1) = rs.take q ++ [r] := by rw [List.take_add_one, hr]; rfl
      have HDo : Hid (∀ W, Below wr.heap.size wr W → Calls Tryz.prog 102 #[.pointer (some ⟨B, 0, none⟩), .agg #[.int .i64 r.call.kind, .string r.call.name, .string r.call.dst, .string r.call.text]] W fun e w' => ∃ d u, e = .returned (.agg #[.int .i64 d, .string u]) ∧ ∃ own', OObj w1.heap.size w' B own' (aDo (behind (rs.take q)) r.call).st ∧ Next w1.heap.size W w' own own') := fun W hW => by
        have h := ((unhide HS).below hW).files
        refine (Do_obj r.call h (by have := hok.name; unfold maxLen; omega) (by have := hok.dst; unfold maxLen; omega) (by have := hok.text; unfold maxLen; omega)).mono ?_
        rintro e w' ⟨rfl, own', h1, h2⟩
        exact ⟨_, _, rfl, own', h1, h2⟩
      have HDN : Hid (∀ W w' own', Below wr.heap.size wr W → OObj w1.heap.size w' B own' (aDo (behind (rs.take q)) r.call).st → Next w1.heap.size W w' own own' → SCore w1.heap.size (set8o w' S (2 + c * 8) (.int .i64 r.client) (.int .i64 r.no) (.int .i64 r.call.kind) (.string r.call.name) (.string r.call.dst) (.string r.call.text) (.int .i64 r.code) (.string r.ans)) S B own' lv0 (rs.take (q + 1)) ∧ ∀ j, j < 26 → (∃ v, w'.cell? ⟨S, j, none⟩ = some v) ∧ w'.frozen? ⟨S, j, none⟩ = false) := fun W w' own' hW ho hn => by
        have h := (unhide HS).below hW
        refine ⟨by rw [htk]; exact h.done ho hn hc3 hc, fun j hj => ?_⟩
        obtain ⟨_, hs2⟩ := hn.keep S h.lt h.sB
        obtain ⟨C, hC, hl⟩ := h.blk
        have h26 : C.size = 26 := by rw [← Array.length_toList, hl]; rfl
        refine ⟨⟨C[j], ?_⟩, frozen_of_row w' S j _ _ (hs2.trans hC)⟩
        rw [cell_of_row w' S _ _ _ _ (hs2.trans hC)]
        exact Array.getElem?_eq_getElem (by omega)
      have hptr := (unhide HS).ptr
      have hSl := (unhide HS).lt
      have hown : ∀ j, j ∈ own → j < wr.heap.size := fun j hj => (unhide HS).files.rep.lt hj
      have HOW := hide hown
      clear hx hr hok htk hown
      obtain ⟨rc, rn, ⟨rk, ra, rb, rt⟩, rd, ru⟩ := r
      dsimp only at *
      subst hc
      have HBW : Hid (Below wr.heap.size wr (wr.alloc (.cells #[.int .i64 (c : Int), .int .i64 rn, .int .i64 rk, .string ra, .string rb, .string rt, .int .i64 rd, .string ru] 61)).drew) := ((Below.refl _ _).alloc (Nat.le_refl _) _).drew
      have hRn : wr.heap.size ∉ own := fun h => by have := (unhide HOW) _ h; omega
      go_wp2_with fail
      go_region_law (first | (go_simp; go_at_call 102; refine ((unhide HDo) _ (unhide HBW)).mono ?_; rintro e w3 ⟨d, u, rfl, own3, ho3, hn3⟩; have HDN3 := hide ((unhide HDN) _ w3 own3 (unhide HBW) ho3 hn3); have HBN3 := hide hn3.below; have hr3 := (hn3.keep wr.heap.size (by show _ < (wr.alloc _).heap.size; simp) hRn).2.trans (heap_alloc_new wr (.cells #[.int .i64 (c : Int), .int .i64 rn, .int .i64 rk, .string ra, .string rb, .string rt, .int .i64 rd, .string ru] 61)); have HR3 := hide hr3; clear ho3 hn3 hr3) | fail)
      all_goals
        obtain ⟨⟨y0, y1, y2, y3⟩, ⟨y4, y5, y6, y7⟩, _⟩ := eight (unhide HR3)
        obtain ⟨⟨v0, f0⟩, g0⟩ := (unhide HDN3).2 (2 + c * 8) (by omega)
        obtain ⟨⟨v1, f1⟩, g1⟩ := (unhide HDN3).2 (2 + c * 8 + 1) (by omega)
        obtain ⟨⟨v2, f2⟩, g2⟩ := (unhide HDN3).2 (2 + c * 8 + 2) (by omega)
        obtain ⟨⟨v3, f3⟩, g3⟩ := (unhide HDN3).2 (2 + c * 8 + 3) (by omega)
        obtain ⟨⟨v4, f4⟩, g4⟩ := (unhide HDN3).2 (2 + c * 8 + 4) (by omega)
        obtain ⟨⟨v5, f5⟩, g5⟩ := (unhide HDN3).2 (2 + c * 8 + 5) (by omega)
        obtain ⟨⟨v6, f6⟩, g6⟩ := (unhide HDN3).2 (2 + c * 8 + 6) (by omega)
        obtain ⟨⟨v7, f7⟩, g7⟩ := (unhide HDN3).2 (2 + c * 8 + 7) (by omega)
        have hci : (c : Int) < 3 := by omega
        have hRS : wr.heap.size ≠ S := by omega
        have hSR : S ≠ wr.heap.size := by omega
        go_wp2_with fail
        go_region
        go_wp2
        have hk8 := set8o_kept w3 S (2 + c * 8) (.int .i64 (c : Int)) (.int .i64 rn) (.int .i64 rk) (.string ra) (.string rb) (.string rt) (.int .i64 rd) (.string ru)
        have hb3 : Below w1.heap.size w1 w3 := ((unhide HB).alloc (unhide HB).size (.cells #[.int .i64 (c : Int), .int .i64 rn, .int .i64 rk, .string ra, .string rb, .string rt, .int .i64 rd, .string ru] 61)).drew.trans (unhide HBN3)
        have HB4 := hide (hb3.trans (hk8.below hb3.size (fun j hj => by rw [List.mem_singleton.1 hj]; exact (unhide HS).new))).drew
        have HS4 := hide (((unhide HDN3).1).below ((Below.refl _ _).drew))
        clear hk8 hb3 y0 y1 y2 y3 y4 y5 y6 y7 f0 f1 f2 f3 f4 f5 f6 f7 g0 g1 g2 g3 g4 g5 g6 g7
        go_roundw
        case rel => exact ⟨q + 1, own3, by omega, by go_num, unhide HS4, unhide HB4⟩
        case measure => simp [intOf]; omega
    · obtain rfl : q = m := by omega
      have hfull : rs.take q = rs := List.take_of_length_le (by omega)
      rw [hfull] at HS
      have hBw := (unhide HB1).trans ((unhide HB).mono (unhide HB1).size)
      have HCL2 := hide ((unhide HCL) wr hBw)
      have HBW := hide hBw
      clear hfull hBw
      go_wp2_with fail
      refine (unhide HCL2).mono ?_
      rintro e w4 ⟨al, cl, rfl, ol, b4⟩
      have hs4 := (unhide HS).below b4
      have hc1 := (hs4.at 1).1
      have hc2 := (hs4.at 1).2
      have hR := hs4.setLog (ownsRow_base ol (unhide HB).size) (fun e => by have := (ol.lt S e).1; have := (unhide HS).lt; omega) (fun j hj hm => by have := (ol.lt j hj).1; have := (unhide HS).files.rep.lt hm; omega) (unhide HG)
      have HR := hide (hR.base (unhide HB1).size)
      have hb4' := (unhide HBW).trans (b4.mono (unhide HBW).size)
      have hkS := kept_setCell [S] w4 S 1 (.slice al k cl) (by simp)
      have HB5 := hide (hb4'.trans (hkS.below hb4'.size (fun j hj => by rw [List.mem_singleton.1 hj]; exact Nat.le_trans (unhide HB1).size (unhide HS).new)))
      have hsub : IntKind.i64.wrap ((n : Int) - (k : Int)) = (n : Int) - (k : Int) := by rw [IntKind.wrap_i64]; omega
      clear ol b4 hs4 hR hb4' hkS
      go_wp2
      go_ret2
      exact ⟨S, B, own, _, rfl, unhide HR, unhide HB5⟩
def STurned (N : Nat) (w : World) (S : Nat) (own : List Nat) (lv : Value) (w' : World) (L' : List ARec) : Prop :=
  ∃ B' own' lv', SRep N w' S B' own' lv' L' ∧ Next N w w' (sown S own lv) (sown S own' lv')
theorem sown_ge {N : Nat} {w : World} {S B : Nat} {own : List Nat} {lv : Value} {L : List ARec} (h : SRep N w S B own lv L) : ∀ k, k ∈ sown S own lv → N ≤ k ∧ k < w.heap.size := fun k hk => by
  rcases List.mem_cons.1 hk with rfl | hk
  · exact ⟨h.new, h.lt⟩
  rcases List.mem_append.1 hk with hk | hk
  · exact h.log.lt k (by simpa using hk)
  · exact ⟨h.files.own k hk, h.files.rep.lt hk⟩
theorem SRep.over {N : Nat} {w w2 w3 : World} {S B S2 B2 : Nat} {own own2 : List Nat} {lv lv2 : Value} {L L2 : List ARec} {C : Array Value} (h : SRep N w S B own lv L) (hb : Below w.heap.size w w2) (h2 : SRep w.heap.size w2 S2 B2 own2 lv2 L2)
    (hC : C.toList = sCells B2 lv2 (lastR L2 0) (lastR L2 1) (lastR L2 2)) (h3 : w3.heap[S]? = some (.cells C 64 (0, 0))) (hk : Kept [S] w2 w3) (hN : N ≤ w.heap.size) : STurned N w S own lv w3 L2 := by
  have hS := h.lt
  have n1 : S ∉ own2 := fun hm => by have := h2.files.own S hm; omega
  have n2 : lv2.ownBlock ≠ some S := fun e => by have := (h2.log.lt S e).1; omega
  refine ⟨B2, own2, lv2, ⟨h.new, ⟨C, h3, hC⟩, ⟨h2.files.rep.keptS hk (fun k hk1 hm => by rw [List.mem_singleton.1 hm] at hk1; exact n1 hk1), h2.files.inv, fun k hk => Nat.le_trans hN (h2.files.own k hk)⟩, ?_, h2.good, n1, n2, h2.lB⟩, ?_, fun b hb1 hb2 => ⟨fun hm => ?_, ?_⟩⟩
  · exact ownsRow_base (ownsRow_same h2.log (fun j hj => hk.block j (h2.log.lt j hj).2 (fun hm => n2 (by rw [List.mem_singleton.1 hm] at hj; exact hj)))) hN
  · exact (hb.mono hN).trans (hk.below (Nat.le_trans hN hb.size) (fun j hj => by rw [List.mem_singleton.1 hj]; exact h.new))
  · have hbS : b ≠ S := fun e => hb2 (by rw [e]; exact List.mem_cons_self)
    rcases List.mem_cons.1 hm with h4 | h4
    · exact hbS h4
    rcases List.mem_append.1 h4 with h4 | h4
    · have := (h2.log.lt b (by simpa using h4)).1; omega
    · have := h2.files.own b h4; omega
  · have hbS : b ≠ S := fun e => hb2 (by rw [e]; exact List.mem_cons_self)
    exact (hk.block b (Nat.lt_of_lt_of_le hb1 hb.size) (by simpa using hbS)).trans (hb.block b hb1)
theorem info2073 : (Tryz.prog.info? 64).map (·.size) = some 26 := by kernel_rfl
set_option maxRecDepth 100000 in
set_option maxHeartbeats 4000000 in
theorem Crash_any {N : Nat} {w : World} {S B : Nat} {own : List Nat} {lv : Value} {L : List ARec} (h : SRep N w S B own lv L) (hs : (logB L).length ≤ 1000000) (hN : N ≤ w.heap.size) :
    Calls Tryz.prog 49 #[.pointer (some ⟨S, 0, none⟩)] w fun e w' => e = .returned (.tuple #[]) ∧ STurned N w S own lv w' L := by
  obtain ⟨n, hn⟩ : ∃ n, (logB L).length = n := ⟨_, rfl⟩
  have hl := h.log
  obtain ⟨a, c, rfl⟩ := row_form hl
  have hc := h.lg
  rw [hn] at hl hc hs
  obtain ⟨h1, h2, h3⟩ := hl.by hn
  have HOP := hide (Open_any a n c (logB L) w h1 hn h3 hs h2)
  rw [allR_log h.good] at HOP
  have HH := hide h
  rw [hn] at HH
  have hSl := h.lt
  clear h hl h1 h2
  go_enter Tryz.func49, Tryz.ntmps49
  go_wp2_with fail
  refine (unhide HOP).mono ?_
  rintro e w2 ⟨S2, B2, own2, lv2, rfl, hs2, b2⟩
  dsimp only at hs2 ⊢
  obtain ⟨C2, hC2, hl2⟩ := hs2.blk
  obtain ⟨C, hC, hl⟩ := (unhide HH).blk
  have hSb := (b2.block S hSl).trans hC
  have h26 : C2.size = 26 := by rw [← Array.length_toList, hl2]; rfl
  have h26' : C.size = 26 := by rw [← Array.length_toList, hl]; rfl
  have hone : C2.all (·.oneCell') = true := by
    rw [Array.all_eq_true_iff_forall_mem]
    intro v hv
    have hv' : v ∈ C2.toList := by simpa using hv
    rw [hl2] at hv'
    obtain ⟨al, cl, rfl⟩ := row_form hs2.log
    simp [sCells, rcells] at hv'
    rcases hv' with rfl | rfl | rfl | rfl | rfl | rfl | rfl | rfl | rfl | rfl | rfl | rfl | rfl | rfl | rfl | rfl | rfl | rfl | rfl | rfl | rfl | rfl | rfl | rfl | rfl | rfl <;> rfl
  have HS2 := hide hs2
  have HB2 := hide b2
  have HL2 := hide hl2
  clear hs2 b2 hl hl2
  go_wp2_with (first
    | (refine wpList_load_row rfl 64 _ rfl S2 rfl 64 C2 (0, 0) _ hC2 Tryz.underlying64 rfl (by rw [h26]; exact info2073) ?_)
    | (refine wpList_store_row rfl 64 _ _ rfl S C2 rfl rfl 64 C hSb (by rw [h26]; exact info2073) (by rw [h26, h26']) hone ?_))
  have hT : STurned N w S own (.slice a n c) (w2.setRow S C2) L := by
    refine (unhide HH).over (unhide HB2) (unhide HS2) (unhide HL2) (setRow_heap w2 S C C2 64 (0, 0) hSb) ⟨rfl, rfl, rfl, by simp [World.setRow], fun k hk hm => setRow_other w2 S k C2 (fun e => hm (by simp [e]))⟩ hN
  refine bodyPost_end (v := .tuple #[]) (by simp [results, Tryz.results49, go_sem]) rfl ?_
  exact ⟨rfl, hT⟩
theorem names_take_succ (st : List AFile) (k : Nat) (f : AFile) (h : st[k]? = some f) : (st.map AFile.name).take (k + 1) = (st.map AFile.name).take k ++ [f.name] := by
  rw [List.take_add_one, List.getElem?_map, h]
  rfl
theorem lies_row {w : World} {base g n cap : Nat} {L : List ByteArray} (ho : w.ownsRow base 9 1 (.slice (some ⟨g, 0, none⟩) n cap) n (L.map .string)) (q : Nat) (hq : q ≤ n) (W : World) (hW : W.heap[g]? = w.heap[g]?) :
    Lies W (.slice (some ⟨g, 0, none⟩) q cap) q ((L.take q).map .string) ∧ Lies W (.slice (if cap = q then some ⟨g, 0, none⟩ else some ⟨g, q, none⟩) (n - q) (cap - q)) (n - q) ((L.drop q).map .string) := by
  have hl : L.length = n := by simpa using ho.1
  have hc := ho.cells (g := g) rfl
  have e : ∀ i, (⟨g, 0, none⟩ : Addr).add i = ⟨g, i, none⟩ := fun i => by unfold Addr.add; split <;> simp_all
  have e2 : ∀ i, (⟨g, q, none⟩ : Addr).add i = ⟨g, q + i, none⟩ := fun i => by unfold Addr.add; split <;> simp_all
  have hW' : ∀ i, W.cell? ⟨g, i, none⟩ = w.cell? ⟨g, i, none⟩ := fun i => World.cell?_of_block (a := ⟨g, i, none⟩) hW
  refine ⟨.inr ⟨_, _, rfl, fun j u hu => ?_⟩, ?_⟩
  · rw [e, hW']
    have hj : (L.map Value.string)[j]? = some u := by
      rw [List.map_take, List.getElem?_take] at hu
      split at hu
      · exact hu
      · cases hu
    have := hc j u hj
    rwa [e] at this
  · by_cases h : cap = q
    · rw [if_pos h]
      refine .inr ⟨_, _, rfl, fun j u hu => ?_⟩
      exfalso
      have hnc : n ≤ cap := by
        rcases ho.2 with ⟨he, _⟩ | ⟨g', cap', cur, he, _, _, hnc, _⟩
        · cases he
        · obtain ⟨_, rfl⟩ : g = g' ∧ cap = cap' := by simpa using he
          exact hnc
      rw [List.drop_eq_nil_of_le (by omega)] at hu
      cases hu
    · rw [if_neg h]
      refine .inr ⟨_, _, rfl, fun j u hu => ?_⟩
      rw [e2, hW']
      have hj : (L.map Value.string)[q + j]? = some u := by
        rw [List.map_drop, List.getElem?_drop] at hu
        exact hu
      have := hc (q + j) u hj
      rwa [e] at this
theorem ones (L : List ByteArray) : ∀ u ∈ L.map Value.string, u.oneCell' = true := fun u hu => by
  obtain ⟨_, _, rfl⟩ := List.mem_map.1 hu
  rfl
set_option maxRecDepth 100000 in
set_option maxHeartbeats 4000000 in
theorem dNames_any (g : Option Addr) (cap : Nat) (st : List AFile) (w : World) (hn : st.length ≤ 6)
    (hc : ∀ (j : Nat) (f : AFile), st[j]? = some f → ∃ B, g = some ⟨B, 0, none⟩ ∧ w.cell? ⟨B, j * 2, none⟩ = some (.string f.name)) :
    Calls Tryz.prog 25 #[.slice g st.length cap] w
      fun e w' => ∃ a c, e = .returned (.slice a st.length c) ∧ w'.ownsRow w.heap.size 9 1 (.slice a st.length c) st.length ((sNames st).map .string) ∧ Below w.heap.size w w' := by
  obtain ⟨i0, hi0, hz0, hz1, hz2⟩ := info_parts info9
  have HC := hide hc
  clear hc
  go_enter Tryz.func25, Tryz.ntmps25
  go_wp2
  go_loopw [3, 4] (fun v i wr => ∃ (k : Nat) (L : List ByteArray), k ≤ st.length ∧ i = .int .i64 k ∧ Hid (∃ a c, v = .slice a k c) ∧ Hid (Below w.heap.size w wr) ∧ Hid (wr.ownsRow w.heap.size 9 1 v k (L.map .string)) ∧ Hid (L.Perm ((st.map AFile.name).take k)) ∧ Hid (SortedB L)) (fun _ i _ => st.length - (intOf i).toNat)
  case atStart => exact ⟨0, [], Nat.zero_le _, rfl, ⟨none, 0, rfl⟩, Below.refl _ _, World.ownsRow_nil _ _ _ _, by simp [Hid], List.Pairwise.nil⟩
  case round =>
    obtain ⟨k, L, hk, rfl, ⟨va, vc, rfl⟩, HB, HO, HP, HS⟩ := hrel
    by_cases hlt : (k : Int) < (st.length : Int)
    · obtain ⟨f, hf⟩ : ∃ f, st[k]? = some f := ⟨_, List.getElem?_eq_getElem (by omega)⟩
      obtain ⟨B, rfl, hcell0⟩ := unhide HC k f hf
      have hBlt : B < w.heap.size := World.block_lt_of_cell? w _ hcell0
      have hcell := ((unhide HB).cell (p := ⟨B, k * 2, none⟩) hBlt).trans hcell0
      have HF := hide hf
      have hll : L.length = k := by have := (unhide HO).1; simpa using this
      have HL := hide hll
      clear hll
      have hwz := (unhide HB).size
      have hk0 : (0 : Int) ≤ (k : Int) := by omega
      clear hf hcell0
      obtain ⟨wo, rfl⟩ : ∃ wo : World, wo = wr := ⟨_, rfl⟩
      go_wp2
      go_loopw [5] (fun j wi => ∃ q : Nat, q ≤ k ∧ j = .int .i64 q ∧ Hid (SameW wo wi) ∧ Hid (∀ (j : Nat) (y : ByteArray), j < q → L[j]? = some y → Op.bytesLess y.toList f.name.toList = true)) (fun j _ => k - (intOf j).toNat)
      case atStart => exact ⟨0, Nat.zero_le _, rfl, SameW.refl _, fun j y hj => absurd hj (by omega)⟩
      case round =>
        obtain ⟨q, hq, rfl, HW, HJ⟩ := hrel
        have ci := ((unhide HW).cell ⟨B, k * 2, none⟩).trans hcell
        by_cases hqk : (q : Int) < (k : Int)
        · obtain ⟨y, hy⟩ : ∃ y, L[q]? = some y := ⟨_, List.getElem?_eq_getElem (by rw [unhide HL]; omega)⟩
          have hcy : ∃ g1, va = some ⟨g1, 0, none⟩ ∧ wo.cell? ⟨g1, q, none⟩ = some (.string y) := text_cell (ownsRow_base (unhide HO) (Nat.zero_le _)) q y hy
          obtain ⟨g1, rfl, cy0⟩ := hcy
          have cy := ((unhide HW).cell ⟨g1, q, none⟩).trans cy0
          have hq0 : (0 : Int) ≤ (q : Int) := by omega
          have HY := hide hy
          clear hy cy0
          cases hb : Op.bytesLess y.toList f.name.toList
          · have HBB := hide hb
            go_wp2_with fail
            go_quiet (fail)
            go_wp2_with fail
            obtain ⟨wx, hwx⟩ : ∃ wx, wx = wr.drewN nq := ⟨_, rfl⟩
            have HX : Hid (SameW wo wx) := by rw [hwx]; exact ⟨(unhide HW).os, (unhide HW).tape, (unhide HW).output, (unhide HW).heap⟩
            rw [← hwx]
            have cx := ((unhide HX).cell ⟨B, k * 2, none⟩).trans hcell
            have HN2 : Hid (∀ y, L[q]? = some y → Op.bytesLess y.toList f.name.toList = false) := fun y2 hy2 => by rw [unhide HY] at hy2; cases hy2; exact unhide HBB
            have HOx := hide ((unhide HX).owns (unhide HO))
            have hBx : B < wx.heap.size := World.block_lt_of_cell? wx _ cx
            have hwxz : w.heap.size ≤ wx.heap.size := by rw [(unhide HX).heap]; exact hwz
            have hvc : k ≤ vc := by
              rcases (unhide HO).2 with ⟨he, _⟩ | ⟨g', cap', cur, he, _, _, hnc, _⟩
              · cases he
              · obtain ⟨_, rfl⟩ : g1 = g' ∧ vc = cap' := by simpa using he
                exact hnc
            have hgx : g1 < wx.heap.size := ((unhide HOx).lt g1 rfl).2
            obtain ⟨A, hA, HL2⟩ : ∃ A : Addr, (if vc = q then some (⟨g1, 0, none⟩ : Addr) else some ⟨g1, q, none⟩) = some A ∧ Hid (∀ W, Below wx.heap.size wx W → Lies W (.slice (some A) (k - q) (vc - q)) (k - q) ((L.drop q).map .string)) := by
              by_cases h : vc = q
              · exact ⟨⟨g1, 0, none⟩, by simp [h], fun W hW => by have := (lies_row (unhide HOx) q hq W (hW.block g1 hgx)).2; rwa [if_pos h] at this⟩
              · exact ⟨⟨g1, q, none⟩, by simp [h], fun W hW => by have := (lies_row (unhide HOx) q hq W (hW.block g1 hgx)).2; rwa [if_neg h] at this⟩
            have HL1 : Hid (∀ W, Below wx.heap.size wx W → Lies W (.slice (some ⟨g1, 0, none⟩) q vc) q ((L.take q).map .string)) := fun W hW => (lies_row (unhide HOx) q hq W (hW.block g1 hgx)).1
            have HE1 : Hid (((L.take q).map Value.string).length = q * 1) := by have := unhide HL; show _ = _; simp; omega
            have HE2 : Hid (∀ u ∈ (L.take q).map Value.string, u.oneCell' = true) := ones _
            have HE3 : Hid (((L.drop q).map Value.string).length = (k - q) * 1) := by have := unhide HL; show _ = _; simp; omega
            have HE4 : Hid (∀ u ∈ (L.drop q).map Value.string, u.oneCell' = true) := ones _
            have hqv : q ≤ vc := by omega
            have hqv2 : (q : Int) ≤ (vc : Int) := by omega
            have hqk3 : (q : Int) ≤ (k : Int) := by omega
            have hq00 : (0 : Int) ≤ (q : Int) := by omega
            clear hwx
            go_region_law (first | (refine step_new (wx := wx) (by rfl) (.tmp 31) (.tmp 34) 55 (by rfl) (by first | with_reducible exact below_drew wx | with_reducible exact below_drew_alloc wx _ | with_reducible exact below_alloc_drew wx _ | with_reducible exact bA | with_reducible exact bA.alloc bA.size _ | with_reducible exact bB) 9 i0 _ 1 16 Tryz.underlying55 hi0 hz0 hz1 hz2 rfl (by omega) (.slice none 0 0) 0 [] (by simp [Act.eval, Act.put]) (World.ownsRow_nil _ _ _ _) (.slice (some ⟨g1, 0, none⟩) q vc) q ((L.take q).map .string) (by simp [Act.eval, Act.put]) ((unhide HL1) _ (by first | with_reducible exact below_drew wx | with_reducible exact below_drew_alloc wx _ | with_reducible exact below_alloc_drew wx _ | with_reducible exact bA | with_reducible exact bA.alloc bA.size _ | with_reducible exact bB)) (unhide HE1) (unhide HE2) (by unfold maxLen; omega) (by omega) ?_; intro aA cA wA hownA bA hgrowA; rw [Nat.zero_add, List.nil_append] at hownA; rw [Nat.zero_add]; have hcA := (bA.cell (p := ⟨B, k * 2, none⟩) hBx).trans cx; try (have hsA : wA.heap[wx.heap.size]? = some (.cells #[.string f.name] 9) := (by with_reducible exact src_after hgrowA)); clear hgrowA) | (refine step_new (wx := wx) (by rfl) (.tmp 35) (.tmp 41) 55 (by rfl) (by first | with_reducible exact below_drew wx | with_reducible exact below_drew_alloc wx _ | with_reducible exact below_alloc_drew wx _ | with_reducible exact bA | with_reducible exact bA.alloc bA.size _ | with_reducible exact bB) 9 i0 _ 1 16 Tryz.underlying55 hi0 hz0 hz1 hz2 rfl (by omega) (.slice aA q cA) q ((L.take q).map .string) (by simp [Act.eval, Act.put]) hownA (.slice (some ⟨wx.heap.size, 0, none⟩) 1 1) 1 [.string f.name] (by simp [Act.eval, Act.put]) (lies_block hsA 1 1) (by rfl) (by simp [Value.oneCell']) (by unfold maxLen; omega) (by omega) ?_; intro aB cB wB hownB bB hgrowB; clear hgrowB) | (refine step_new (wx := wx) (by rfl) (.tmp 35) (.tmp 41) 55 (by rfl) (by first | with_reducible exact below_drew wx | with_reducible exact below_drew_alloc wx _ | with_reducible exact below_alloc_drew wx _ | with_reducible exact bA | with_reducible exact bA.alloc bA.size _ | with_reducible exact bB) 9 i0 _ 1 16 Tryz.underlying55 hi0 hz0 hz1 hz2 rfl (by omega) (.slice aA q cA) q ((L.take q).map .string) (by simp [Act.eval, Act.put]) (hownA.alloc _) (.slice (some ⟨wA.heap.size, 0, none⟩) 1 1) 1 [.string f.name] (by simp [Act.eval, Act.put]) (lies_block (heap_alloc_new wA _) 1 1) (by rfl) (by simp [Value.oneCell']) (by unfold maxLen; omega) (by omega) ?_; intro aB cB wB hownB bB hgrowB; clear hgrowB) | (refine step_new (wx := wx) (by rfl) (.tmp 42) (.tmp 45) 55 (by rfl) (by first | with_reducible exact below_drew wx | with_reducible exact below_drew_alloc wx _ | with_reducible exact below_alloc_drew wx _ | with_reducible exact bA | with_reducible exact bA.alloc bA.size _ | with_reducible exact bB) 9 i0 _ 1 16 Tryz.underlying55 hi0 hz0 hz1 hz2 rfl (by omega) (.slice aB (q + 1) cB) (q + 1) ((L.take q).map .string ++ [.string f.name]) (by simp [Act.eval, Act.put]) hownB (.slice (some A) (k - q) (vc - q)) (k - q) ((L.drop q).map .string) (by simp [Act.eval, Act.put]) ((unhide HL2) _ bB) (unhide HE3) (unhide HE4) (by unfold maxLen; omega) (by omega) ?_; intro aC cC wC hownC bC hgrowC; clear hgrowC) | fail)
            all_goals
              have HBC := hide ((unhide HB).trans (((unhide HX).below w.heap.size).trans (bC.mono hwxz)))
              have HOC : Hid (wC.ownsRow w.heap.size 9 1 (.slice aC (q + 1 + (k - q)) cC) (q + 1 + (k - q)) ((L.take q ++ [f.name] ++ L.drop q).map .string)) := by
                have e : (L.take q ++ [f.name] ++ L.drop q).map Value.string = (L.take q).map Value.string ++ [.string f.name] ++ (L.drop q).map Value.string := by simp
                show wC.ownsRow _ _ _ _ _ _
                rw [e]
                exact ownsRow_base hownC hwxz
              clear bC bB bA hownA hownB hownC
              go_wp2
              go_roundw
              case rel =>
                have e : q + 1 + (k - q) = k + 1 := by omega
                rw [e] at HOC
                refine ⟨k + 1, L.take q ++ [f.name] ++ L.drop q, by omega, by go_num, ⟨aC, cC, by first | rfl | rw [e]⟩, unhide HBC, ?_, ?_, sorted_ins (unhide HS) (unhide HJ) (unhide HN2)⟩
                · first | exact unhide HOC | (rw [e]; exact unhide HOC)
                · rw [Hid, names_take_succ st k f (unhide HF)]; exact perm_ins (unhide HP)
              case measure => simp [intOf]; omega
          · have HBB := hide hb
            go_wp2_with fail
            go_quiet (fail)
            go_wp2
            go_roundw
            case rel => exact ⟨q + 1, by omega, by go_num, ⟨(unhide HW).os, (unhide HW).tape, (unhide HW).output, (unhide HW).heap⟩, fun j y' hj hy' => by
              by_cases hjq : j = q
              · subst hjq
                rw [unhide HY] at hy'
                cases hy'
                exact unhide HBB
              · exact unhide HJ j y' (by omega) hy'⟩
            case measure => simp [intOf]; omega
        · have hqk2 : q = k := by omega
          rcases (unhide HO).2 with ⟨hnil, hnk⟩ | ⟨g1, cap1, cur1, he, _⟩
          · obtain ⟨rfl, rfl⟩ : va = none ∧ vc = 0 := by
              simp at hnil
              exact ⟨hnil.1, hnil.2.2⟩
            clear hnil
            obtain ⟨rfl, rfl⟩ : k = 0 ∧ q = 0 := ⟨hnk, by omega⟩
            have hst1 : 0 < st.length := by have := hlt; simp at this; exact this
            have hst2 : ¬ st.length = 0 := by omega
            clear hqk hqk2
            go_wp2_with fail
            go_quiet (fail)
            go_wp2_with fail
            obtain ⟨wx, hwx⟩ : ∃ wx, wx = wr.drewN nq := ⟨_, rfl⟩
            have HX : Hid (SameW wo wx) := by rw [hwx]; exact ⟨(unhide HW).os, (unhide HW).tape, (unhide HW).output, (unhide HW).heap⟩
            rw [← hwx]
            have cx : wx.cell? ⟨B, 0, none⟩ = some (.string f.name) := ((unhide HX).cell ⟨B, 0, none⟩).trans (by simpa using hcell)
            have hBx : B < wx.heap.size := World.block_lt_of_cell? wx _ cx
            have hwxz : w.heap.size ≤ wx.heap.size := by rw [(unhide HX).heap]; exact hwz
            have hst0 : (0 : Int) < (st.length : Int) := by simpa using hlt
            have HL1 : Hid (∀ W, Below wx.heap.size wx W → Lies W (.slice none 0 0) 0 ([] : List Value)) := fun W _ => .inl ⟨rfl, rfl, rfl⟩
            have HL2 := HL1
            have HE1 : Hid (([] : List Value).length = 0 * 1) := rfl
            have HE2 : Hid (∀ u ∈ ([] : List Value), u.oneCell' = true) := fun u hu => by cases hu
            have HE3 := HE1
            have HE4 := HE2
            clear hwx
            go_region_law (first | (refine step_new (wx := wx) (by rfl) (.tmp 31) (.tmp 34) 55 (by rfl) (by first | with_reducible exact below_drew wx | with_reducible exact below_drew_alloc wx _ | with_reducible exact below_alloc_drew wx _ | with_reducible exact bA | with_reducible exact bA.alloc bA.size _ | with_reducible exact bB) 9 i0 _ 1 16 Tryz.underlying55 hi0 hz0 hz1 hz2 rfl (by omega) (.slice none 0 0) 0 [] (by simp [Act.eval, Act.put]) (World.ownsRow_nil _ _ _ _) (.slice none 0 0) 0 ([]) (by simp [Act.eval, Act.put]) ((unhide HL1) _ (by first | with_reducible exact below_drew wx | with_reducible exact below_drew_alloc wx _ | with_reducible exact below_alloc_drew wx _ | with_reducible exact bA | with_reducible exact bA.alloc bA.size _ | with_reducible exact bB)) (unhide HE1) (unhide HE2) (by unfold maxLen; omega) (by omega) ?_; intro aA cA wA hownA bA hgrowA; rw [Nat.zero_add, List.nil_append] at hownA; rw [Nat.zero_add]; have hcA := (bA.cell (p := ⟨B, 0, none⟩) hBx).trans cx; try (have hsA : wA.heap[wx.heap.size]? = some (.cells #[.string f.name] 9) := (by with_reducible exact src_after hgrowA)); clear hgrowA) | (refine step_new (wx := wx) (by rfl) (.tmp 35) (.tmp 41) 55 (by rfl) (by first | with_reducible exact below_drew wx | with_reducible exact below_drew_alloc wx _ | with_reducible exact below_alloc_drew wx _ | with_reducible exact bA | with_reducible exact bA.alloc bA.size _ | with_reducible exact bB) 9 i0 _ 1 16 Tryz.underlying55 hi0 hz0 hz1 hz2 rfl (by omega) (.slice aA 0 cA) 0 ([]) (by simp [Act.eval, Act.put]) hownA (.slice (some ⟨wx.heap.size, 0, none⟩) 1 1) 1 [.string f.name] (by simp [Act.eval, Act.put]) (lies_block hsA 1 1) (by rfl) (by simp [Value.oneCell']) (by unfold maxLen; omega) (by omega) ?_; intro aB cB wB hownB bB hgrowB; clear hgrowB) | (refine step_new (wx := wx) (by rfl) (.tmp 35) (.tmp 41) 55 (by rfl) (by first | with_reducible exact below_drew wx | with_reducible exact below_drew_alloc wx _ | with_reducible exact below_alloc_drew wx _ | with_reducible exact bA | with_reducible exact bA.alloc bA.size _ | with_reducible exact bB) 9 i0 _ 1 16 Tryz.underlying55 hi0 hz0 hz1 hz2 rfl (by omega) (.slice aA 0 cA) 0 ([]) (by simp [Act.eval, Act.put]) (hownA.alloc _) (.slice (some ⟨wA.heap.size, 0, none⟩) 1 1) 1 [.string f.name] (by simp [Act.eval, Act.put]) (lies_block (heap_alloc_new wA _) 1 1) (by rfl) (by simp [Value.oneCell']) (by unfold maxLen; omega) (by omega) ?_; intro aB cB wB hownB bB hgrowB; clear hgrowB) | (refine step_new (wx := wx) (by rfl) (.tmp 42) (.tmp 45) 55 (by rfl) (by first | with_reducible exact below_drew wx | with_reducible exact below_drew_alloc wx _ | with_reducible exact below_alloc_drew wx _ | with_reducible exact bA | with_reducible exact bA.alloc bA.size _ | with_reducible exact bB) 9 i0 _ 1 16 Tryz.underlying55 hi0 hz0 hz1 hz2 rfl (by omega) (.slice aB (0 + 1) cB) (0 + 1) ([] ++ [.string f.name]) (by simp [Act.eval, Act.put]) hownB (.slice none 0 0) 0 ([]) (by simp [Act.eval, Act.put]) ((unhide HL2) _ bB) (unhide HE3) (unhide HE4) (by unfold maxLen; omega) (by omega) ?_; intro aC cC wC hownC bC hgrowC; clear hgrowC) | fail)
            all_goals
              have HBC := hide ((unhide HB).trans (((unhide HX).below w.heap.size).trans (bC.mono hwxz)))
              have HOC : Hid (wC.ownsRow w.heap.size 9 1 (.slice aC 1 cC) 1 ([f.name].map .string)) := ownsRow_base hownC hwxz
              clear bC bB bA hownA hownB hownC
              go_wp2
              go_roundw
              case rel => exact ⟨1, [f.name], by omega, by go_num, ⟨aC, cC, rfl⟩, unhide HBC, unhide HOC, by rw [Hid, show (1 : Nat) = 0 + 1 from rfl, names_take_succ st 0 f (unhide HF)]; simp, List.pairwise_singleton _ _⟩
              case measure => simp [intOf]; omega
          · obtain ⟨rfl, rfl⟩ : va = some ⟨g1, 0, none⟩ ∧ vc = cap1 := by simpa using he
            clear he
            subst hqk2
            go_wp2_with fail
            go_quiet (fail)
            go_wp2_with fail
            obtain ⟨wx, hwx⟩ : ∃ wx, wx = wr.drewN nq := ⟨_, rfl⟩
            have HX : Hid (SameW wo wx) := by rw [hwx]; exact ⟨(unhide HW).os, (unhide HW).tape, (unhide HW).output, (unhide HW).heap⟩
            rw [← hwx]
            have cx := ((unhide HX).cell ⟨B, q * 2, none⟩).trans hcell
            have HN2 : Hid (∀ y, L[q]? = some y → Op.bytesLess y.toList f.name.toList = false) := fun y2 hy2 => by rw [List.getElem?_eq_none (by rw [unhide HL]; omega)] at hy2; cases hy2
            have HOx := hide ((unhide HX).owns (unhide HO))
            have hBx : B < wx.heap.size := World.block_lt_of_cell? wx _ cx
            have hwxz : w.heap.size ≤ wx.heap.size := by rw [(unhide HX).heap]; exact hwz
            have hvc : q ≤ vc := by
              rcases (unhide HO).2 with ⟨he, _⟩ | ⟨g', cap', cur, he, _, _, hnc, _⟩
              · cases he
              · obtain ⟨_, rfl⟩ : g1 = g' ∧ vc = cap' := by simpa using he
                exact hnc
            have hgx : g1 < wx.heap.size := ((unhide HOx).lt g1 rfl).2
            obtain ⟨A, hA, HL2⟩ : ∃ A : Addr, (if vc = q then some (⟨g1, 0, none⟩ : Addr) else some ⟨g1, q, none⟩) = some A ∧ Hid (∀ W, Below wx.heap.size wx W → Lies W (.slice (some A) (q - q) (vc - q)) (q - q) ((L.drop q).map .string)) := by
              by_cases h : vc = q
              · exact ⟨⟨g1, 0, none⟩, by simp [h], fun W hW => by have := (lies_row (unhide HOx) q hq W (hW.block g1 hgx)).2; rwa [if_pos h] at this⟩
              · exact ⟨⟨g1, q, none⟩, by simp [h], fun W hW => by have := (lies_row (unhide HOx) q hq W (hW.block g1 hgx)).2; rwa [if_neg h] at this⟩
            have HL1 : Hid (∀ W, Below wx.heap.size wx W → Lies W (.slice (some ⟨g1, 0, none⟩) q vc) q ((L.take q).map .string)) := fun W hW => (lies_row (unhide HOx) q hq W (hW.block g1 hgx)).1
            have HE1 : Hid (((L.take q).map Value.string).length = q * 1) := by have := unhide HL; show _ = _; simp; omega
            have HE2 : Hid (∀ u ∈ (L.take q).map Value.string, u.oneCell' = true) := ones _
            have HE3 : Hid (((L.drop q).map Value.string).length = (q - q) * 1) := by have := unhide HL; show _ = _; simp; omega
            have HE4 : Hid (∀ u ∈ (L.drop q).map Value.string, u.oneCell' = true) := ones _
            have hqv : q ≤ vc := by omega
            have hqv2 : (q : Int) ≤ (vc : Int) := by omega
            have hqk3 : (q : Int) ≤ (q : Int) := by omega
            have hq00 : (0 : Int) ≤ (q : Int) := by omega
            clear hwx
            go_region_law (first | (refine step_new (wx := wx) (by rfl) (.tmp 31) (.tmp 34) 55 (by rfl) (by first | with_reducible exact below_drew wx | with_reducible exact below_drew_alloc wx _ | with_reducible exact below_alloc_drew wx _ | with_reducible exact bA | with_reducible exact bA.alloc bA.size _ | with_reducible exact bB) 9 i0 _ 1 16 Tryz.underlying55 hi0 hz0 hz1 hz2 rfl (by omega) (.slice none 0 0) 0 [] (by simp [Act.eval, Act.put]) (World.ownsRow_nil _ _ _ _) (.slice (some ⟨g1, 0, none⟩) q vc) q ((L.take q).map .string) (by simp [Act.eval, Act.put]) ((unhide HL1) _ (by first | with_reducible exact below_drew wx | with_reducible exact below_drew_alloc wx _ | with_reducible exact below_alloc_drew wx _ | with_reducible exact bA | with_reducible exact bA.alloc bA.size _ | with_reducible exact bB)) (unhide HE1) (unhide HE2) (by unfold maxLen; omega) (by omega) ?_; intro aA cA wA hownA bA hgrowA; rw [Nat.zero_add, List.nil_append] at hownA; rw [Nat.zero_add]; have hcA := (bA.cell (p := ⟨B, q * 2, none⟩) hBx).trans cx; try (have hsA : wA.heap[wx.heap.size]? = some (.cells #[.string f.name] 9) := (by with_reducible exact src_after hgrowA)); clear hgrowA) | (refine step_new (wx := wx) (by rfl) (.tmp 35) (.tmp 41) 55 (by rfl) (by first | with_reducible exact below_drew wx | with_reducible exact below_drew_alloc wx _ | with_reducible exact below_alloc_drew wx _ | with_reducible exact bA | with_reducible exact bA.alloc bA.size _ | with_reducible exact bB) 9 i0 _ 1 16 Tryz.underlying55 hi0 hz0 hz1 hz2 rfl (by omega) (.slice aA q cA) q ((L.take q).map .string) (by simp [Act.eval, Act.put]) hownA (.slice (some ⟨wx.heap.size, 0, none⟩) 1 1) 1 [.string f.name] (by simp [Act.eval, Act.put]) (lies_block hsA 1 1) (by rfl) (by simp [Value.oneCell']) (by unfold maxLen; omega) (by omega) ?_; intro aB cB wB hownB bB hgrowB; clear hgrowB) | (refine step_new (wx := wx) (by rfl) (.tmp 35) (.tmp 41) 55 (by rfl) (by first | with_reducible exact below_drew wx | with_reducible exact below_drew_alloc wx _ | with_reducible exact below_alloc_drew wx _ | with_reducible exact bA | with_reducible exact bA.alloc bA.size _ | with_reducible exact bB) 9 i0 _ 1 16 Tryz.underlying55 hi0 hz0 hz1 hz2 rfl (by omega) (.slice aA q cA) q ((L.take q).map .string) (by simp [Act.eval, Act.put]) (hownA.alloc _) (.slice (some ⟨wA.heap.size, 0, none⟩) 1 1) 1 [.string f.name] (by simp [Act.eval, Act.put]) (lies_block (heap_alloc_new wA _) 1 1) (by rfl) (by simp [Value.oneCell']) (by unfold maxLen; omega) (by omega) ?_; intro aB cB wB hownB bB hgrowB; clear hgrowB) | (refine step_new (wx := wx) (by rfl) (.tmp 42) (.tmp 45) 55 (by rfl) (by first | with_reducible exact below_drew wx | with_reducible exact below_drew_alloc wx _ | with_reducible exact below_alloc_drew wx _ | with_reducible exact bA | with_reducible exact bA.alloc bA.size _ | with_reducible exact bB) 9 i0 _ 1 16 Tryz.underlying55 hi0 hz0 hz1 hz2 rfl (by omega) (.slice aB (q + 1) cB) (q + 1) ((L.take q).map .string ++ [.string f.name]) (by simp [Act.eval, Act.put]) hownB (.slice (some A) (q - q) (vc - q)) (q - q) ((L.drop q).map .string) (by simp [Act.eval, Act.put]) ((unhide HL2) _ bB) (unhide HE3) (unhide HE4) (by unfold maxLen; omega) (by omega) ?_; intro aC cC wC hownC bC hgrowC; clear hgrowC) | fail)
            all_goals
              have HBC := hide ((unhide HB).trans (((unhide HX).below w.heap.size).trans (bC.mono hwxz)))
              have HOC : Hid (wC.ownsRow w.heap.size 9 1 (.slice aC (q + 1 + (q - q)) cC) (q + 1 + (q - q)) ((L.take q ++ [f.name] ++ L.drop q).map .string)) := by
                have e : (L.take q ++ [f.name] ++ L.drop q).map Value.string = (L.take q).map Value.string ++ [.string f.name] ++ (L.drop q).map Value.string := by simp
                show wC.ownsRow _ _ _ _ _ _
                rw [e]
                exact ownsRow_base hownC hwxz
              clear bC bB bA hownA hownB hownC
              go_wp2
              go_roundw
              case rel =>
                have e : q + 1 + (q - q) = q + 1 := by omega
                rw [e] at HOC
                refine ⟨q + 1, L.take q ++ [f.name] ++ L.drop q, by omega, by go_num, ⟨aC, cC, by first | rfl | rw [e]⟩, unhide HBC, ?_, ?_, sorted_ins (unhide HS) (unhide HJ) (unhide HN2)⟩
                · first | exact unhide HOC | (rw [e]; exact unhide HOC)
                · rw [Hid, names_take_succ st q f (unhide HF)]; exact perm_ins (unhide HP)
              case measure => simp [intOf]; omega
    · have hkk : k = st.length := by omega
      subst hkk
      go_wp2
      go_ret
      refine ⟨_, _, rfl, ?_, unhide HB⟩
      have e : L = sNames st := by
        have hp := unhide HP
        rw [List.take_of_length_le (by simp)] at hp
        exact sorted_unique hp (unhide HS)
      rw [← e]
      exact unhide HO
def dCells (f : AFile) : List Value := [.string f.name, .string f.text]
theorem dflat_get (st : List AFile) (j : Nat) (f : AFile) (hf : st[j]? = some f) : (st.flatMap dCells)[j * 2]? = some (.string f.name) ∧ (st.flatMap dCells)[j * 2 + 1]? = some (.string f.text) := by
  induction st generalizing j with
  | nil => simp at hf
  | cons x xs ih =>
    cases j with
    | zero => simp at hf; subst hf; simp [dCells]
    | succ j =>
      have := ih j (by simpa using hf)
      have e1 : (j + 1) * 2 = j * 2 + 2 := by omega
      simp only [List.flatMap_cons, dCells]
      rw [e1]
      exact ⟨by simpa using this.1, by rw [show j * 2 + 2 + 1 = j * 2 + 1 + 2 by omega]; simpa using this.2⟩
theorem dflat_len (l : List AFile) : (l.flatMap dCells).length = l.length * 2 := by
  induction l with
  | nil => rfl
  | cons x xs ih => simp [dCells, ih]; omega
theorem dflat_one (l : List AFile) : ∀ u, u ∈ l.flatMap dCells → u.oneCell' = true := fun u hu => by
  obtain ⟨f, _, hf⟩ := List.mem_flatMap.1 hu
  rcases List.mem_cons.1 hf with rfl | hf
  · rfl
  · rw [List.mem_singleton.1 hf]; rfl
structure DRep (w : World) (N D : Nat) (v : Value) (st : List AFile) : Prop where
  new : N ≤ D
  blk : w.heap[D]? = some (.cells #[v] 79 (0, 0))
  row : w.ownsRow N 101 2 v st.length (st.flatMap dCells)
  nd : v.ownBlock ≠ some D
theorem DRep.ltD {w : World} {N D : Nat} {v : Value} {st : List AFile} (h : DRep w N D v st) : D < w.heap.size := (Array.getElem?_eq_some_iff.1 h.blk).1
theorem DRep.can {w : World} {N D : Nat} {v : Value} {st : List AFile} (h : DRep w N D v st) : Can w D 0 v := ⟨by simp [World.cell?, h.blk], by simp [World.frozen?, h.blk]⟩
theorem DRep.kept {w w' : World} {N D : Nat} {v : Value} {st : List AFile} {own : List Nat} (h : DRep w N D v st) (hk : Kept own w w') (hD : D ∉ own) (hv : ∀ k, v.ownBlock = some k → k ∉ own) : DRep w' N D v st :=
  ⟨h.new, by rw [hk.block D h.ltD hD]; exact h.blk, ownsRow_same h.row fun k e => hk.block k (h.row.lt k e).2 (hv k e), h.nd⟩
theorem DRep.below {w w' : World} {N D : Nat} {v : Value} {st : List AFile} (h : DRep w N D v st) (hb : Below w.heap.size w w') : DRep w' N D v st :=
  h.kept (own := []) (Kept.of_below hb) (by simp) (by simp)
theorem DRep.form {w : World} {N D : Nat} {v : Value} {st : List AFile} (h : DRep w N D v st) : ∃ a cap, v = .slice a st.length cap := row_form h.row
theorem DRep.file {w : World} {N D : Nat} {a : Option Addr} {n cap : Nat} {st : List AFile} (h : DRep w N D (.slice a n cap) st) (j : Nat) (f : AFile) (hf : st[j]? = some f) :
    ∃ g, a = some ⟨g, 0, none⟩ ∧ Can w g (j * 2) (.string f.name) ∧ Can w g (j * 2 + 1) (.string f.text) := by
  have hn : 0 < st.length := by have := (List.getElem?_eq_some_iff.1 hf).1; omega
  rcases h.row.2 with ⟨_, h0⟩ | ⟨g, cap', cur, he, _, hg, _⟩
  · omega
  obtain ⟨rfl, _, rfl⟩ : a = some ⟨g, 0, none⟩ ∧ n = st.length ∧ cap = cap' := by simpa using he
  have hc := h.row.cells (g := g) rfl
  have hq := dflat_get st j f hf
  have e : ∀ i, (⟨g, 0, none⟩ : Addr).add i = ⟨g, i, none⟩ := fun i => by unfold Addr.add; split <;> simp_all
  have hfz : ∀ i, w.frozen? ⟨g, i, none⟩ = false := fun i => by simp [World.frozen?, hg]
  exact ⟨g, rfl, ⟨by have := hc _ _ hq.1; rwa [e] at this, hfz _⟩, ⟨by have := hc _ _ hq.2; rwa [e] at this, hfz _⟩⟩
theorem DRep.names {w : World} {N D : Nat} {a : Option Addr} {n cap : Nat} {st : List AFile} (h : DRep w N D (.slice a n cap) st) :
    ∀ (j : Nat) (f : AFile), st[j]? = some f → ∃ B, a = some ⟨B, 0, none⟩ ∧ w.cell? ⟨B, j * 2, none⟩ = some (.string f.name) := fun j f hf => by
  obtain ⟨g, ha, h1, _⟩ := h.file j f hf
  exact ⟨g, ha, h1.1⟩
def DTurned (w : World) (N D : Nat) (v : Value) (w' : World) (st' : List AFile) : Prop :=
  ∃ v', DRep w' N D v' st' ∧ Kept (D :: v.ownBlock.toList) w w' ∧ ∀ k, v'.ownBlock = some k → v.ownBlock = some k ∨ w.heap.size ≤ k
theorem DTurned.of_below {w w' : World} {N D : Nat} {v : Value} {st : List AFile} (h : DRep w N D v st) (hb : Below w.heap.size w w') : DTurned w N D v w' st :=
  ⟨v, h.below hb, Kept.of_below hb, fun k hk => .inl hk⟩
theorem DTurned.can {w w' : World} {N D : Nat} {v : Value} {st : List AFile} (h : DTurned w N D v w' st) {b o : Nat} {u : Value} (hc : Can w b o u) (h1 : b ≠ D) (h2 : v.ownBlock ≠ some b) : Can w' b o u := by
  obtain ⟨v', _, hk, _⟩ := h
  have hn : b ∉ D :: v.ownBlock.toList := by simp [h1, h2]
  exact ⟨(hk.cell hc.lt hn).trans hc.1, (hk.frozen hc.lt hn).trans hc.2⟩
theorem DTurned.store {w W w1 w2 : World} {N D : Nat} {v : Value} {st st' : List AFile} (h0 : DRep w N D v st) (hb0 : Below w.heap.size w W) (hT : DTurned W N D v w1 st') {b : Nat} (hb : w.heap.size ≤ b) (hb2 : b < W.heap.size) (hk : Kept [b] w1 w2) :
    DTurned w N D v w2 st' := by
  obtain ⟨v', hr, hk1, hn⟩ := hT
  have hlt : ∀ k, v.ownBlock = some k → k < w.heap.size := fun k e => (h0.row.lt k e).2
  have hD := h0.ltD
  refine ⟨v', hr.kept hk (by simp; omega) (fun k e hm => ?_), ?_, fun k e => ?_⟩
  · have hkb : k = b := by simpa using hm
    rcases hn k e with h | h
    · have := hlt k h; omega
    · omega
  · exact ((Kept.of_below hb0).trans hk1 (fun x hx => .inl hx)).trans hk (fun x hx => .inr (by rw [List.mem_singleton.1 hx]; exact hb))
  · rcases hn k e with h | h
    · exact .inl h
    · right; have := hb0.size; omega
set_option maxRecDepth 100000 in
set_option maxHeartbeats 1000000 in
theorem dDo_code (k : Int) (a b t : ByteArray) (N D : Nat) (v : Value) (st : List AFile) (w : World) (hr : DRep w N D v st) (ha : a.size ≤ maxLen) (hb : b.size ≤ maxLen) (ht : t.size ≤ maxLen) (hc : checkI ⟨k, a, b, t⟩ ≠ 0) :
    Calls Tryz.prog 32 #[.pointer (some ⟨D, 0, none⟩), .agg #[.int .i64 k, .string a, .string b, .string t]] w
      fun e w' => e = .returned (.agg #[.int .i64 (checkI ⟨k, a, b, t⟩), .string ⟨#[]⟩]) ∧ DTurned w N D v w' st := by
  have hcon := CallFault_any k a b t (doW w k a b t) ha hb ht
  have hin := DoIn.start w k a b t
  generalize checkI ⟨k, a, b, t⟩ = code at hcon hc ⊢
  have hc1 : (code != 0) = true := by simpa using hc
  have HI := hide hin
  have HS := hide hr
  unfold doW at hcon
  clear hin hr hc
  go_enter Tryz.func32, Tryz.ntmps32
  go_wp2_with fail
  refine hcon.mono ?_
  rintro e w1 ⟨rfl, b1⟩
  have h1 := (unhide HI).later b1
  have HH := hide h1
  have e1 := h1.a0.1
  have e2 := h1.a0.2
  have e3 := h1.a1.1
  have e4 := h1.a1.2
  clear h1 b1
  have q0 := ans0 (.int .i64 code) (.string ⟨#[]⟩) e1
  have q1 := ans1 (.int .i64 code) (.string ⟨#[]⟩) e3
  go_wp2
  refine bodyPost_ret (v := .agg #[.int .i64 code, .string ⟨#[]⟩]) (by simp [results, Tryz.results32, go_sem, q0, q1]) rfl ⟨rfl, ?_⟩
  have hT := DTurned.of_below ((unhide HS).below (unhide HH).below) (Below.refl _ w1)
  exact DTurned.store (unhide HS) (unhide HH).below hT (Nat.le_succ _) (unhide HH).size (kept_two _ _ _ _)
set_option maxRecDepth 100000 in
set_option maxHeartbeats 2000000 in
theorem dDo_none (k : Int) (a b t : ByteArray) (N D : Nat) (v : Value) (st : List AFile) (w : World) (hr : DRep w N D v st) (hi : Inv st) (ha : a.size ≤ maxLen) (hb : b.size ≤ maxLen) (ht : t.size ≤ maxLen) (hc : checkI ⟨k, a, b, t⟩ = 0)
    (h1 : k ≠ 1) (h6 : k ≠ 6) (hf : fInt a st < 0) :
    Calls Tryz.prog 32 #[.pointer (some ⟨D, 0, none⟩), .agg #[.int .i64 k, .string a, .string b, .string t]] w
      fun e w' => e = .returned (.agg #[.int .i64 6, .string ⟨#[]⟩]) ∧ DTurned w N D v w' st := by
  have hcon := CallFault_any k a b t (doW w k a b t) ha hb ht
  have hin := DoIn.start w k a b t
  rw [hc] at hcon
  have HI := hide hin
  have HS := hide hr
  have hl := hi.few
  obtain ⟨ga, cap, rfl⟩ := hr.form
  have hcr : ∀ W : World, DRep W N D (.slice ga st.length cap) st → Calls Tryz.prog 61 #[.slice ga st.length cap, .string a] W fun e w' => e = .returned (.int .i64 (fInt a st)) ∧ w' = W := fun W h => at_any a ga cap st W (by omega) h.names
  have HC := hide hcr
  generalize fInt a st = res at HC hf
  have n1 : (k == 1) = false := by simpa using h1
  have n6 : (k == 6) = false := by simpa using h6
  clear h1 h6
  unfold doW at hcon
  clear hin hr hc hi hcr
  go_enter Tryz.func32, Tryz.ntmps32
  go_wp2_with fail
  refine hcon.mono ?_
  rintro e w1 ⟨rfl, b1⟩
  have h1 := (unhide HI).later b1
  have HH := hide h1
  have k0 := h1.k0
  have k1 := h1.k1
  have hs1 := (unhide HS).below h1.below
  have cD := hs1.can.1
  have HS1 := hide hs1
  clear h1 b1 hs1
  go_wp2_with fail
  go_quiet (first | (go_at_call 61; exact Calls.quiet_of_same ((unhide HC) _ ((unhide HS1).below ⟨rfl, rfl, rfl, Nat.le_refl _, fun _ _ => rfl⟩))))
  obtain ⟨w2, hw2⟩ : ∃ w2, w2 = w1.drewN nq := ⟨_, rfl⟩
  have b2 : Below w1.heap.size w1 w2 := by rw [hw2]; exact ⟨rfl, rfl, rfl, Nat.le_refl _, fun _ _ => rfl⟩
  rw [← hw2]
  have h2 := (unhide HH).later b2
  have HH2 := hide h2
  have HS2 := hide ((unhide HS).below h2.below)
  have j0 := h2.k0
  have cD2 := (unhide HS2).can.1
  have e1 := h2.a0.1
  have e2 := h2.a0.2
  have e3 := h2.a1.1
  have e4 := h2.a1.2
  have q0 := ans0 (.int .i64 6) (.string ⟨#[]⟩) e1
  have q1 := ans1 (.int .i64 6) (.string ⟨#[]⟩) e3
  clear hw2 b2 h2 k0 k1 cD
  go_wp2
  refine bodyPost_ret (v := .agg #[.int .i64 6, .string ⟨#[]⟩]) (by simp [results, Tryz.results32, go_sem, q0, q1]) rfl ⟨rfl, ?_⟩
  have hT := DTurned.of_below (unhide HS2) (Below.refl _ w2)
  exact DTurned.store (unhide HS) (unhide HH2).below hT (Nat.le_succ _) (unhide HH2).size (kept_two _ _ _ _)
set_option maxRecDepth 100000 in
set_option maxHeartbeats 2000000 in
theorem dDo_there (a b t : ByteArray) (N D : Nat) (v : Value) (st : List AFile) (w : World) (hr : DRep w N D v st) (hi : Inv st) (ha : a.size ≤ maxLen) (hb : b.size ≤ maxLen) (ht : t.size ≤ maxLen) (hc : checkI ⟨1, a, b, t⟩ = 0)
    (hf : 0 ≤ fInt a st) :
    Calls Tryz.prog 32 #[.pointer (some ⟨D, 0, none⟩), .agg #[.int .i64 1, .string a, .string b, .string t]] w
      fun e w' => e = .returned (.agg #[.int .i64 5, .string ⟨#[]⟩]) ∧ DTurned w N D v w' st := by
  have hcon := CallFault_any 1 a b t (doW w 1 a b t) ha hb ht
  have hin := DoIn.start w 1 a b t
  rw [hc] at hcon
  have HI := hide hin
  have HS := hide hr
  have hl := hi.few
  obtain ⟨ga, cap, rfl⟩ := hr.form
  have hcr : ∀ W : World, DRep W N D (.slice ga st.length cap) st → Calls Tryz.prog 61 #[.slice ga st.length cap, .string a] W fun e w' => e = .returned (.int .i64 (fInt a st)) ∧ w' = W := fun W h => at_any a ga cap st W (by omega) h.names
  have HC := hide hcr
  generalize fInt a st = res at HC hf
  unfold doW at hcon
  clear hin hr hc hi hcr
  go_enter Tryz.func32, Tryz.ntmps32
  go_wp2_with fail
  refine hcon.mono ?_
  rintro e w1 ⟨rfl, b1⟩
  have h1 := (unhide HI).later b1
  have HH := hide h1
  have k0 := h1.k0
  have k1 := h1.k1
  have hs1 := (unhide HS).below h1.below
  have cD := hs1.can.1
  have HS1 := hide hs1
  clear h1 b1 hs1
  go_wp2_with fail
  go_quiet (first | (go_at_call 61; exact Calls.quiet_of_same ((unhide HC) _ ((unhide HS1).below ⟨rfl, rfl, rfl, Nat.le_refl _, fun _ _ => rfl⟩))))
  obtain ⟨w2, hw2⟩ : ∃ w2, w2 = w1.drewN nq := ⟨_, rfl⟩
  have b2 : Below w1.heap.size w1 w2 := by rw [hw2]; exact ⟨rfl, rfl, rfl, Nat.le_refl _, fun _ _ => rfl⟩
  rw [← hw2]
  have h2 := (unhide HH).later b2
  have HH2 := hide h2
  have HS2 := hide ((unhide HS).below h2.below)
  have j0 := h2.k0
  have cD2 := (unhide HS2).can.1
  have e1 := h2.a0.1
  have e2 := h2.a0.2
  have e3 := h2.a1.1
  have e4 := h2.a1.2
  have q0 := ans0 (.int .i64 5) (.string ⟨#[]⟩) e1
  have q1 := ans1 (.int .i64 5) (.string ⟨#[]⟩) e3
  clear hw2 b2 h2 k0 k1 cD
  go_wp2
  refine bodyPost_ret (v := .agg #[.int .i64 5, .string ⟨#[]⟩]) (by simp [results, Tryz.results32, go_sem, q0, q1]) rfl ⟨rfl, ?_⟩
  have hT := DTurned.of_below (unhide HS2) (Below.refl _ w2)
  exact DTurned.store (unhide HS) (unhide HH2).below hT (Nat.le_succ _) (unhide HH2).size (kept_two _ _ _ _)
set_option maxRecDepth 100000 in
set_option maxHeartbeats 2000000 in
theorem dDo_full (a b t : ByteArray) (N D : Nat) (v : Value) (st : List AFile) (w : World) (hr : DRep w N D v st) (hi : Inv st) (ha : a.size ≤ maxLen) (hb : b.size ≤ maxLen) (ht : t.size ≤ maxLen) (hc : checkI ⟨1, a, b, t⟩ = 0)
    (hf : fInt a st < 0) (h6 : 6 ≤ st.length) :
    Calls Tryz.prog 32 #[.pointer (some ⟨D, 0, none⟩), .agg #[.int .i64 1, .string a, .string b, .string t]] w
      fun e w' => e = .returned (.agg #[.int .i64 7, .string ⟨#[]⟩]) ∧ DTurned w N D v w' st := by
  have hcon := CallFault_any 1 a b t (doW w 1 a b t) ha hb ht
  have hin := DoIn.start w 1 a b t
  rw [hc] at hcon
  have HI := hide hin
  have HS := hide hr
  have hl := hi.few
  obtain ⟨ga, cap, rfl⟩ := hr.form
  have hcr : ∀ W : World, DRep W N D (.slice ga st.length cap) st → Calls Tryz.prog 61 #[.slice ga st.length cap, .string a] W fun e w' => e = .returned (.int .i64 (fInt a st)) ∧ w' = W := fun W h => at_any a ga cap st W (by omega) h.names
  have HC := hide hcr
  generalize fInt a st = res at HC hf
  have h66 : (6 : Int) ≤ (st.length : Int) := by omega
  have hfn : ¬ (0 ≤ res) := by omega
  unfold doW at hcon
  clear hin hr hc hi hcr
  go_enter Tryz.func32, Tryz.ntmps32
  go_wp2_with fail
  refine hcon.mono ?_
  rintro e w1 ⟨rfl, b1⟩
  have h1 := (unhide HI).later b1
  have HH := hide h1
  have k0 := h1.k0
  have k1 := h1.k1
  have hs1 := (unhide HS).below h1.below
  have cD := hs1.can.1
  have HS1 := hide hs1
  clear h1 b1 hs1
  go_wp2_with fail
  go_quiet (first | (go_at_call 61; exact Calls.quiet_of_same ((unhide HC) _ ((unhide HS1).below ⟨rfl, rfl, rfl, Nat.le_refl _, fun _ _ => rfl⟩))))
  obtain ⟨w2, hw2⟩ : ∃ w2, w2 = w1.drewN nq := ⟨_, rfl⟩
  have b2 : Below w1.heap.size w1 w2 := by rw [hw2]; exact ⟨rfl, rfl, rfl, Nat.le_refl _, fun _ _ => rfl⟩
  rw [← hw2]
  have h2 := (unhide HH).later b2
  have HH2 := hide h2
  have HS2 := hide ((unhide HS).below h2.below)
  have j0 := h2.k0
  have cD2 := (unhide HS2).can.1
  have e1 := h2.a0.1
  have e2 := h2.a0.2
  have e3 := h2.a1.1
  have e4 := h2.a1.2
  have q0 := ans0 (.int .i64 7) (.string ⟨#[]⟩) e1
  have q1 := ans1 (.int .i64 7) (.string ⟨#[]⟩) e3
  clear hw2 b2 h2 k0 k1 cD
  go_wp2
  refine bodyPost_ret (v := .agg #[.int .i64 7, .string ⟨#[]⟩]) (by simp [results, Tryz.results32, go_sem, q0, q1]) rfl ⟨rfl, ?_⟩
  have hT := DTurned.of_below (unhide HS2) (Below.refl _ w2)
  exact DTurned.store (unhide HS) (unhide HH2).below hT (Nat.le_succ _) (unhide HH2).size (kept_two _ _ _ _)
set_option maxRecDepth 100000 in
set_option maxHeartbeats 2000000 in
theorem dDo_read (a b t : ByteArray) (N D : Nat) (v : Value) (st : List AFile) (w : World) (hr : DRep w N D v st) (hi : Inv st) (ha : a.size ≤ maxLen) (hb : b.size ≤ maxLen) (ht : t.size ≤ maxLen) (hc : checkI ⟨5, a, b, t⟩ = 0)
    (hf : 0 ≤ fInt a st) :
    Calls Tryz.prog 32 #[.pointer (some ⟨D, 0, none⟩), .agg #[.int .i64 5, .string a, .string b, .string t]] w
      fun e w' => e = .returned (.agg #[.int .i64 0, .string (fileAt st (fIdx a st)).text]) ∧ DTurned w N D v w' st := by
  have hcon := CallFault_any 5 a b t (doW w 5 a b t) ha hb ht
  have hin := DoIn.start w 5 a b t
  rw [hc] at hcon
  have HI := hide hin
  have HS := hide hr
  have hl := hi.few
  obtain ⟨ga, cap, rfl⟩ := hr.form
  have hcr : ∀ W : World, DRep W N D (.slice ga st.length cap) st → Calls Tryz.prog 61 #[.slice ga st.length cap, .string a] W fun e w' => e = .returned (.int .i64 (fInt a st)) ∧ w' = W := fun W h => at_any a ga cap st W (by omega) h.names
  have HC := hide hcr
  obtain ⟨hx1, hx2⟩ := fIdx_spec a st hf
  rw [hx2] at HC
  obtain ⟨g, hga, hg0, hg1⟩ := hr.file (fIdx a st) (fileAt st (fIdx a st)) (fileAt_get hx1)
  obtain rfl := hga
  have HG := hide hg1
  generalize (fileAt st (fIdx a st)).text = tx at HG ⊢
  generalize fIdx a st = ix at HC HG hx1
  have ix0 : (0 : Int) ≤ (ix : Int) := by omega
  have ix1 : (ix : Int) < (st.length : Int) := by omega
  have ixn : ¬ ((ix : Int) < 0) := by omega
  clear hx2 hg0 hg1 hf
  unfold doW at hcon
  clear hin hr hc hi hcr
  go_enter Tryz.func32, Tryz.ntmps32
  go_wp2_with fail
  refine hcon.mono ?_
  rintro e w1 ⟨rfl, b1⟩
  have h1 := (unhide HI).later b1
  have HH := hide h1
  have k0 := h1.k0
  have k1 := h1.k1
  have hs1 := (unhide HS).below h1.below
  have cD := hs1.can.1
  have HS1 := hide hs1
  clear h1 b1 hs1
  go_wp2_with fail
  go_quiet (first | (go_at_call 61; exact Calls.quiet_of_same ((unhide HC) _ ((unhide HS1).below ⟨rfl, rfl, rfl, Nat.le_refl _, fun _ _ => rfl⟩))))
  obtain ⟨w2, hw2⟩ : ∃ w2, w2 = w1.drewN nq := ⟨_, rfl⟩
  have b2 : Below w1.heap.size w1 w2 := by rw [hw2]; exact ⟨rfl, rfl, rfl, Nat.le_refl _, fun _ _ => rfl⟩
  rw [← hw2]
  have h2 := (unhide HH).later b2
  have HH2 := hide h2
  have HS2 := hide ((unhide HS).below h2.below)
  have j0 := h2.k0
  have cD2 := (unhide HS2).can.1
  have e1 := h2.a0.1
  have e2 := h2.a0.2
  have e3 := h2.a1.1
  have e4 := h2.a1.2
  have cg := ((unhide HG).below h2.below (unhide HG).lt).1
  have q0 := ans0 (.int .i64 0) (.string tx) e1
  have q1 := ans1 (.int .i64 0) (.string tx) e3
  clear hw2 b2 h2 k0 k1 cD
  go_wp2
  refine bodyPost_ret (v := .agg #[.int .i64 0, .string tx]) (by simp [results, Tryz.results32, go_sem, q0, q1]) rfl ⟨rfl, ?_⟩
  have hT := DTurned.of_below (unhide HS2) (Below.refl _ w2)
  exact DTurned.store (unhide HS) (unhide HH2).below hT (Nat.le_succ _) (unhide HH2).size (kept_two _ _ _ _)
set_option maxRecDepth 100000 in
set_option maxHeartbeats 2000000 in
theorem dDo_list (a b t : ByteArray) (N D : Nat) (v : Value) (st : List AFile) (w : World) (hr : DRep w N D v st) (hi : Inv st) (ha : a.size ≤ maxLen) (hb : b.size ≤ maxLen) (ht : t.size ≤ maxLen) (hc : checkI ⟨6, a, b, t⟩ = 0) :
    Calls Tryz.prog 32 #[.pointer (some ⟨D, 0, none⟩), .agg #[.int .i64 6, .string a, .string b, .string t]] w
      fun e w' => e = .returned (.agg #[.int .i64 0, .string (joinNames st)]) ∧ DTurned w N D v w' st := by
  have hcon := CallFault_any 6 a b t (doW w 6 a b t) ha hb ht
  have hin := DoIn.start w 6 a b t
  rw [hc] at hcon
  have HI := hide hin
  have HS := hide hr
  have hl := hi.few
  have HJ : Hid (joinNames st = jn (sNames st)) := rfl
  have HZ : Hid (∀ x, x ∈ sNames st → x.size ≤ 5) := fun x hx => (nameB_size (sNames_named hi hx)).2
  obtain ⟨ga, cap, rfl⟩ := hr.form
  have hcr : ∀ W : World, DRep W N D (.slice ga st.length cap) st → Calls Tryz.prog 25 #[.slice ga st.length cap] W fun e w' => ∃ a c, e = .returned (.slice a st.length c) ∧ w'.ownsRow W.heap.size 9 1 (.slice a st.length c) st.length ((sNames st).map .string) ∧ Below W.heap.size W w' := fun W h => dNames_any ga cap st W hl h.names
  have HC := hide hcr
  have HLn : Hid ((sNames st).length = st.length) := sNames_length st
  generalize joinNames st = jt at HJ ⊢
  generalize sNames st = ns at HC HJ HZ HLn
  unfold doW at hcon
  clear hin hr hc hi hcr
  go_enter Tryz.func32, Tryz.ntmps32
  go_wp2_with fail
  refine hcon.mono ?_
  rintro e w1 ⟨rfl, b1⟩
  have h1 := (unhide HI).later b1
  have HH := hide h1
  have k0 := h1.k0
  have hs1 := (unhide HS).below h1.below
  have cD := hs1.can.1
  have HS1 := hide hs1
  clear h1 b1 hs1
  go_wp2_with fail
  refine ((unhide HC) _ (unhide HS1)).mono ?_
  rintro e w2 ⟨na, nc, rfl, hown, b2⟩
  have h2 := (unhide HH).later b2
  have HH2 := hide h2
  have HS2 := hide ((unhide HS).below h2.below)
  have HO := hide (ownsRow_base hown (Nat.zero_le _))
  have e1 := h2.a0.1
  have e2 := h2.a0.2
  have e3 := h2.a1.1
  have e4 := h2.a1.2
  have q0 := ans0 (.int .i64 0) (.string jt) e1
  have q1 := ans1 (.int .i64 0) (.string jt) e3
  clear h2 b2 k0 cD hown
  obtain ⟨J, HJJ⟩ : ∃ J : Nat → ByteArray, Hid (∀ m, J m = jn (ns.take m)) := ⟨_, fun _ => rfl⟩
  have HJ0 : Hid (J 0 = ⟨#[]⟩) := unhide HJJ 0
  go_wp2
  go_loop [6, 8] (fun s i => ∃ k : Nat, k ≤ st.length ∧ i = .int .i64 k ∧ s = .string (J k)) (fun _ i => st.length - (intOf i).toNat)
  case atStart => exact ⟨0, Nat.zero_le _, rfl, by rw [HJ0.out]⟩
  case round =>
    obtain ⟨k, hk, rfl, rfl⟩ := hrel
    by_cases hlt : (k : Int) < (st.length : Int)
    · obtain ⟨x, hx⟩ : ∃ x, ns[k]? = some x := ⟨_, List.getElem?_eq_getElem (by rw [unhide HLn]; omega)⟩
      obtain ⟨g, rfl, cx⟩ := text_cell (unhide HO) k x hx
      have hk0 : (0 : Int) ≤ (k : Int) := by omega
      have hsx : x.size ≤ 5 := unhide HZ x (List.mem_of_getElem? hx)
      have hJs : (J k).size ≤ 1000000 := by
        rw [unhide HJJ k]
        exact jn_size _ _ (by rw [unhide HLn]; omega) (unhide HZ)
      by_cases hkz : k = 0
      · subst hkz
        have HJ1 : Hid (J 0 ++ x = J 1) := by rw [unhide HJJ 1, HJ0.out, jn_first _ _ hx]; exact rfl
        clear hx
        go_wp2
        go_round
        case rel => exact ⟨1, by omega, by go_num, by rw [HJ1.out]⟩
        case measure => simp [intOf]; omega
      · have hkp : (0 : Int) < (k : Int) := by omega
        have HJ1 : Hid (J k ++ ⟨#[32]⟩ ++ x = J (k + 1)) := by rw [unhide HJJ (k + 1), unhide HJJ k, jn_succ _ _ _ (by omega) hx]; exact rfl
        have hsz : (J k ++ (⟨#[32]⟩ : ByteArray)).size ≤ 1000001 := by
          have e : (⟨#[32]⟩ : ByteArray).size = 1 := rfl
          rw [ByteArray.size_append, e]; omega
        clear hx hkz
        go_wp2
        go_round
        case rel => exact ⟨k + 1, by omega, by go_num, by rw [HJ1.out]⟩
        case measure => simp [intOf]; omega
    · have hkk : k = st.length := by omega
      subst hkk
      have hj : J st.length = jt := by rw [unhide HJJ, List.take_of_length_le (by rw [unhide HLn]; exact Nat.le_refl _), HJ.out]
      rw [hj]
      clear hj
      go_wp2
      refine bodyPost_ret (v := .agg #[.int .i64 0, .string jt]) (by simp [results, Tryz.results32, go_sem, q0, q1]) rfl ⟨rfl, ?_⟩
      have hT := DTurned.of_below (unhide HS2) (Below.refl _ w2)
      exact DTurned.store (unhide HS) (unhide HH2).below hT (Nat.le_succ _) (unhide HH2).size (kept_two _ _ _ _)
theorem dflat_set (st : List AFile) (j d : Nat) (f f' : AFile) (x : Value) (hj : st[j]? = some f) (hd : d < 2) (hx : dCells f' = (dCells f).set d x) :
    (st.flatMap dCells).set (j * 2 + d) x = (st.set j f').flatMap dCells := by
  obtain ⟨hlt, hf⟩ := List.getElem?_eq_some_iff.1 hj
  have e : st = st.take j ++ f :: st.drop (j + 1) := by rw [← hf, List.getElem_cons_drop, List.take_append_drop]
  have e2 : st.set j f' = st.take j ++ f' :: st.drop (j + 1) := by
    rw [List.set_eq_take_append_cons_drop, if_pos hlt]
  rw [e2]
  have e3 : st.flatMap dCells = (st.take j).flatMap dCells ++ (dCells f ++ (st.drop (j + 1)).flatMap dCells) := by
    have := congrArg (fun l => l.flatMap dCells) e
    simpa only [List.flatMap_append, List.flatMap_cons] using this
  rw [e3]
  simp only [List.flatMap_append, List.flatMap_cons]
  have hl : ((st.take j).flatMap dCells).length = j * 2 := by rw [dflat_len, List.length_take, Nat.min_eq_left (by omega)]
  rw [List.set_append_right _ _ (by omega), hl, show j * 2 + d - j * 2 = d by omega, List.set_append_left _ _ (by simp [dCells]; exact hd), hx]
theorem DRep.setFile {w : World} {N D g n cap : Nat} {st : List AFile} (h : DRep w N D (.slice (some ⟨g, 0, none⟩) n cap) st) (j d : Nat) (f f' : AFile) (x : Value) (hj : st[j]? = some f) (hd : d < 2) (hx : dCells f' = (dCells f).set d x) :
    DTurned w N D (.slice (some ⟨g, 0, none⟩) n cap) (w.setCell ⟨g, j * 2 + d, none⟩ x) (st.set j f') := by
  have hgD : g ≠ D := fun e => h.nd (by simp [Value.ownBlock, e])
  refine ⟨.slice (some ⟨g, 0, none⟩) n cap, ⟨h.new, ?_, ?_, h.nd⟩, kept_setCell _ _ _ _ _ (by simp [Value.ownBlock]), fun k hk => .inl hk⟩
  · rw [Below.heap_setCell w ⟨g, j * 2 + d, none⟩ x D (fun e => hgD e.symm)]
    exact h.blk
  · have hjl : j < st.length := (List.getElem?_eq_some_iff.1 hj).1
    obtain ⟨hlen, h2⟩ := h.row
    rcases h2 with ⟨e, _⟩ | ⟨g', cap', cur, he, hN, hg, hnc, hcm, hcs, htk⟩
    · cases e
    obtain ⟨rfl, rfl, rfl⟩ : g = g' ∧ n = st.length ∧ cap = cap' := by simpa using he
    rw [List.length_set]
    refine ⟨by rw [dflat_len, List.length_set], .inr ⟨g, cap, cur.setIfInBounds (j * 2 + d) x, rfl, hN, heap_setCell_same hg x, hnc, hcm, by simpa using hcs, ?_⟩⟩
    rw [← dflat_set st j d f f' x hj hd hx, ← htk]
    rw [Array.toList_setIfInBounds, List.take_set]
end Go.Proofs.YtmbhbnoifimeaabGreat
