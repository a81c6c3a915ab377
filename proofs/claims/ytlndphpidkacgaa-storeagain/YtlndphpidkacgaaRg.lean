/- The walk of the reference's Do: list; a rename onto a name that is there; a text that would be too long. -/
import Derived.Test.YtlndphpidkacgaaRf
namespace Go.Proofs.Ytlndphpidkacgaa
open Go.RowKit
set_option linter.unusedSimpArgs false
set_option linter.unusedVariables false

set_option maxRecDepth 100000 in
set_option maxHeartbeats 2000000 in
theorem dDo_list (a b t : ByteArray) (N D : Nat) (v : Value) (st : List AFile) (w : World) (hr : DRep w N D v st) (hi : Inv st) (ha : a.size ≤ maxLen) (hb : b.size ≤ maxLen) (ht : t.size ≤ maxLen) (hc : checkI ⟨6, a, b, t⟩ = 0) :
    Calls Try.prog 21 #[.pointer (some ⟨D, 0, none⟩), .agg #[.int .i64 6, .string a, .string b, .string t]] w
      fun e w' => e = .returned (.agg #[.int .i64 0, .string (joinNames st)]) ∧ DTurned w N D v w' st := by
  have hcon := CallFault_any 6 a b t (doW w 6 a b t) ha hb ht
  have hin := DoIn.start w 6 a b t
  rw [hc] at hcon
  have HI := hide hin
  have HS := hide hr
  have hl := hi.few
  have HJ : Hid (joinNames st = jn (sNames st)) := rfl
  have HZ : Hid (∀ x, x ∈ sNames st → x.size ≤ 5) := fun x hx => (nameB_size (sNames_named hi hx)).2
  obtain ⟨ga, cap, rfl⟩ := hr.form
  have hcr : ∀ W : World, DRep W N D (.slice ga st.length cap) st → Calls Try.prog 24 #[.slice ga st.length cap] W fun e w' => ∃ a c, e = .returned (.slice a st.length c) ∧ w'.ownsRow W.heap.size 9 1 (.slice a st.length c) st.length ((sNames st).map .string) ∧ Below W.heap.size W w' := fun W h => dNames_any ga cap st W hl h.names
  have HC := hide hcr
  have HLn : Hid ((sNames st).length = st.length) := sNames_length st
  generalize joinNames st = jt at HJ ⊢
  generalize sNames st = ns at HC HJ HZ HLn
  unfold doW at hcon
  clear hin hr hc hi hcr
  go_enter Try.func21, Try.ntmps21
  go_wp2_with fail
  refine hcon.mono ?_
  rintro e w1 ⟨rfl, b1⟩
  have h1 := (unhide HI).later b1
  have HH := hide h1
  have k0 := h1.k0
  have hs1 := (unhide HS).below h1.below
  have cD := hs1.can.1
  have HS1 := hide hs1
  clear h1 b1 hs1
  go_wp2_with fail
  refine ((unhide HC) _ (unhide HS1)).mono ?_
  rintro e w2 ⟨na, nc, rfl, hown, b2⟩
  have h2 := (unhide HH).later b2
  have HH2 := hide h2
  have HS2 := hide ((unhide HS).below h2.below)
  have HO := hide (ownsRow_base hown (Nat.zero_le _))
  have e1 := h2.a0.1
  have e2 := h2.a0.2
  have e3 := h2.a1.1
  have e4 := h2.a1.2
  have q0 := ans0 (.int .i64 0) (.string jt) e1
  have q1 := ans1 (.int .i64 0) (.string jt) e3
  clear h2 b2 k0 cD hown
  obtain ⟨J, HJJ⟩ : ∃ J : Nat → ByteArray, Hid (∀ m, J m = jn (ns.take m)) := ⟨_, fun _ => rfl⟩
  have HJ0 : Hid (J 0 = ⟨#[]⟩) := unhide HJJ 0
  go_wp2
  go_loop [6, 8] (fun s i => ∃ k : Nat, k ≤ st.length ∧ i = .int .i64 k ∧ s = .string (J k)) (fun _ i => st.length - (intOf i).toNat)
  case atStart => exact ⟨0, Nat.zero_le _, rfl, by rw [HJ0.out]⟩
  case round =>
    obtain ⟨k, hk, rfl, rfl⟩ := hrel
    by_cases hlt : (k : Int) < (st.length : Int)
    · obtain ⟨x, hx⟩ : ∃ x, ns[k]? = some x := ⟨_, List.getElem?_eq_getElem (by rw [unhide HLn]; omega)⟩
      obtain ⟨g, rfl, cx⟩ := text_cell (unhide HO) k x hx
      have hk0 : (0 : Int) ≤ (k : Int) := by omega
      have hsx : x.size ≤ 5 := unhide HZ x (List.mem_of_getElem? hx)
      have hJs : (J k).size ≤ 1000000 := by
        rw [unhide HJJ k]
        exact jn_size _ _ (by rw [unhide HLn]; omega) (unhide HZ)
      by_cases hkz : k = 0
      · subst hkz
        have HJ1 : Hid (J 0 ++ x = J 1) := by rw [unhide HJJ 1, HJ0.out, jn_first _ _ hx]; exact rfl
        clear hx
        go_wp2
        go_round
        case rel => exact ⟨1, by omega, by go_num, by rw [HJ1.out]⟩
        case measure => simp [intOf]; omega
      · have hkp : (0 : Int) < (k : Int) := by omega
        have HJ1 : Hid (J k ++ ⟨#[32]⟩ ++ x = J (k + 1)) := by rw [unhide HJJ (k + 1), unhide HJJ k, jn_succ _ _ _ (by omega) hx]; exact rfl
        have hsz : (J k ++ (⟨#[32]⟩ : ByteArray)).size ≤ 1000001 := by
          have e : (⟨#[32]⟩ : ByteArray).size = 1 := rfl
          rw [ByteArray.size_append, e]; omega
        clear hx hkz
        go_wp2
        go_round
        case rel => exact ⟨k + 1, by omega, by go_num, by rw [HJ1.out]⟩
        case measure => simp [intOf]; omega
    · have hkk : k = st.length := by omega
      subst hkk
      have hj : J st.length = jt := by rw [unhide HJJ, List.take_of_length_le (by rw [unhide HLn]; exact Nat.le_refl _), HJ.out]
      rw [hj]
      clear hj
      go_wp2
      refine bodyPost_ret (v := .agg #[.int .i64 0, .string jt]) (by simp [results, Try.results21, go_sem, q0, q1]) rfl ⟨rfl, ?_⟩
      have hT := DTurned.of_below (unhide HS2) (Below.refl _ w2)
      exact DTurned.store (unhide HS) (unhide HH2).below hT (Nat.le_succ _) (unhide HH2).size (kept_two _ _ _ _)

end Go.Proofs.Ytlndphpidkacgaa
