/- Texts joined, what is needed of them: Rf Rg Rh Ri Rj Rk Rl Sb Sd Sm Sf Sn So. -/
import Derived.Test.YtmbhbnoifimeaabGreatQR3
namespace Go.Proofs.YtmbhbnoifimeaabGreat
open Go.RowKit
set_option linter.unusedSimpArgs false
set_option linter.unusedVariables false

set_option maxRecDepth 100000 in
set_option maxHeartbeats 1000000 in
theorem dDo_code (k : Int) (a b t : ByteArray) (N D : Nat) (v : Value) (st : List AFile) (w : World) (hr : DRep w N D v st) (ha : a.size ≤ maxLen) (hb : b.size ≤ maxLen) (ht : t.size ≤ maxLen) (hc : checkI ⟨k, a, b, t⟩ ≠ 0) :
    Calls Tryz.prog 32 #[.pointer (some ⟨D, 0, none⟩), .agg #[.int .i64 k, .string a, .string b, .string t]] w
      fun e w' => e = .returned (.agg #[.int .i64 (checkI ⟨k, a, b, t⟩), .string ⟨#[]⟩]) ∧ DTurned w N D v w' st := by
  have hcon := CallFault_any k a b t (doW w k a b t) ha hb ht
  have hin := DoIn.start w k a b t
  generalize checkI ⟨k, a, b, t⟩ = code at hcon hc ⊢
  have hc1 : (code != 0) = true := by simpa using hc
  have HI := hide hin
  have HS := hide hr
  unfold doW at hcon
  clear hin hr hc
  go_enter Tryz.func32, Tryz.ntmps32
  go_wp2_with fail
  refine hcon.mono ?_
  rintro e w1 ⟨rfl, b1⟩
  have h1 := (unhide HI).later b1
  have HH := hide h1
  have e1 := h1.a0.1
  have e2 := h1.a0.2
  have e3 := h1.a1.1
  have e4 := h1.a1.2
  clear h1 b1
  have q0 := ans0 (.int .i64 code) (.string ⟨#[]⟩) e1
  have q1 := ans1 (.int .i64 code) (.string ⟨#[]⟩) e3
  go_wp2
  refine bodyPost_ret (v := .agg #[.int .i64 code, .string ⟨#[]⟩]) (by simp [results, Tryz.results32, go_sem, q0, q1]) rfl ⟨rfl, ?_⟩
  have hT := DTurned.of_below ((unhide HS).below (unhide HH).below) (Below.refl _ w1)
  exact DTurned.store (unhide HS) (unhide HH).below hT (Nat.le_succ _) (unhide HH).size (kept_two _ _ _ _)

set_option maxRecDepth 100000 in
set_option maxHeartbeats 2000000 in
theorem dDo_none (k : Int) (a b t : ByteArray) (N D : Nat) (v : Value) (st : List AFile) (w : World) (hr : DRep w N D v st) (hi : Inv st) (ha : a.size ≤ maxLen) (hb : b.size ≤ maxLen) (ht : t.size ≤ maxLen) (hc : checkI ⟨k, a, b, t⟩ = 0)
    (h1 : k ≠ 1) (h6 : k ≠ 6) (hf : fInt a st < 0) :
    Calls Tryz.prog 32 #[.pointer (some ⟨D, 0, none⟩), .agg #[.int .i64 k, .string a, .string b, .string t]] w
      fun e w' => e = .returned (.agg #[.int .i64 6, .string ⟨#[]⟩]) ∧ DTurned w N D v w' st := by
  have hcon := CallFault_any k a b t (doW w k a b t) ha hb ht
  have hin := DoIn.start w k a b t
  rw [hc] at hcon
  have HI := hide hin
  have HS := hide hr
  have hl := hi.few
  obtain ⟨ga, cap, rfl⟩ := hr.form
  have hcr : ∀ W : World, DRep W N D (.slice ga st.length cap) st → Calls Tryz.prog 61 #[.slice ga st.length cap, .string a] W fun e w' => e = .returned (.int .i64 (fInt a st)) ∧ w' = W := fun W h => at_any a ga cap st W (by omega) h.names
  have HC := hide hcr
  generalize fInt a st = res at HC hf
  have n1 : (k == 1) = false := by simpa using h1
  have n6 : (k == 6) = false := by simpa using h6
  clear h1 h6
  unfold doW at hcon
  clear hin hr hc hi hcr
  go_enter Tryz.func32, Tryz.ntmps32
  go_wp2_with fail
  refine hcon.mono ?_
  rintro e w1 ⟨rfl, b1⟩
  have h1 := (unhide HI).later b1
  have HH := hide h1
  have k0 := h1.k0
  have k1 := h1.k1
  have hs1 := (unhide HS).below h1.below
  have cD := hs1.can.1
  have HS1 := hide hs1
  clear h1 b1 hs1
  go_wp2_with fail
  go_quiet (first | (go_at_call 61; exact Calls.quiet_of_same ((unhide HC) _ ((unhide HS1).below ⟨rfl, rfl, rfl, Nat.le_refl _, fun _ _ => rfl⟩))))
  obtain ⟨w2, hw2⟩ : ∃ w2, w2 = w1.drewN nq := ⟨_, rfl⟩
  have b2 : Below w1.heap.size w1 w2 := by rw [hw2]; exact ⟨rfl, rfl, rfl, Nat.le_refl _, fun _ _ => rfl⟩
  rw [← hw2]
  have h2 := (unhide HH).later b2
  have HH2 := hide h2
  have HS2 := hide ((unhide HS).below h2.below)
  have j0 := h2.k0
  have cD2 := (unhide HS2).can.1
  have e1 := h2.a0.1
  have e2 := h2.a0.2
  have e3 := h2.a1.1
  have e4 := h2.a1.2

  have q0 := ans0 (.int .i64 6) (.string ⟨#[]⟩) e1
  have q1 := ans1 (.int .i64 6) (.string ⟨#[]⟩) e3
  clear hw2 b2 h2 k0 k1 cD
  go_wp2
  refine bodyPost_ret (v := .agg #[.int .i64 6, .string ⟨#[]⟩]) (by simp [results, Tryz.results32, go_sem, q0, q1]) rfl ⟨rfl, ?_⟩
  have hT := DTurned.of_below (unhide HS2) (Below.refl _ w2)
  exact DTurned.store (unhide HS) (unhide HH2).below hT (Nat.le_succ _) (unhide HH2).size (kept_two _ _ _ _)

set_option maxRecDepth 100000 in
set_option maxHeartbeats 2000000 in
theorem dDo_there (a b t : ByteArray) (N D : Nat) (v : Value) (st : List AFile) (w : World) (hr : DRep w N D v st) (hi : Inv st) (ha : a.size ≤ maxLen) (hb : b.size ≤ maxLen) (ht : t.size ≤ maxLen) (hc : checkI ⟨1, a, b, t⟩ = 0)
    (hf : 0 ≤ fInt a st) :
    Calls Tryz.prog 32 #[.pointer (some ⟨D, 0, none⟩), .agg #[.int .i64 1, .string a, .string b, .string t]] w
      fun e w' => e = .returned (.agg #[.int .i64 5, .string ⟨#[]⟩]) ∧ DTurned w N D v w' st := by
  have hcon := CallFault_any 1 a b t (doW w 1 a b t) ha hb ht
  have hin := DoIn.start w 1 a b t
  rw [hc] at hcon
  have HI := hide hin
  have HS := hide hr
  have hl := hi.few
  obtain ⟨ga, cap, rfl⟩ := hr.form
  have hcr : ∀ W : World, DRep W N D (.slice ga st.length cap) st → Calls Tryz.prog 61 #[.slice ga st.length cap, .string a] W fun e w' => e = .returned (.int .i64 (fInt a st)) ∧ w' = W := fun W h => at_any a ga cap st W (by omega) h.names
  have HC := hide hcr
  generalize fInt a st = res at HC hf
  unfold doW at hcon
  clear hin hr hc hi hcr
  go_enter Tryz.func32, Tryz.ntmps32
  go_wp2_with fail
  refine hcon.mono ?_
  rintro e w1 ⟨rfl, b1⟩
  have h1 := (unhide HI).later b1
  have HH := hide h1
  have k0 := h1.k0
  have k1 := h1.k1
  have hs1 := (unhide HS).below h1.below
  have cD := hs1.can.1
  have HS1 := hide hs1
  clear h1 b1 hs1
  go_wp2_with fail
  go_quiet (first | (go_at_call 61; exact Calls.quiet_of_same ((unhide HC) _ ((unhide HS1).below ⟨rfl, rfl, rfl, Nat.le_refl _, fun _ _ => rfl⟩))))
  obtain ⟨w2, hw2⟩ : ∃ w2, w2 = w1.drewN nq := ⟨_, rfl⟩
  have b2 : Below w1.heap.size w1 w2 := by rw [hw2]; exact ⟨rfl, rfl, rfl, Nat.le_refl _, fun _ _ => rfl⟩
  rw [← hw2]
  have h2 := (unhide HH).later b2
  have HH2 := hide h2
  have HS2 := hide ((unhide HS).below h2.below)
  have j0 := h2.k0
  have cD2 := (unhide HS2).can.1
  have e1 := h2.a0.1
  have e2 := h2.a0.2
  have e3 := h2.a1.1
  have e4 := h2.a1.2

  have q0 := ans0 (.int .i64 5) (.string ⟨#[]⟩) e1
  have q1 := ans1 (.int .i64 5) (.string ⟨#[]⟩) e3
  clear hw2 b2 h2 k0 k1 cD
  go_wp2
  refine bodyPost_ret (v := .agg #[.int .i64 5, .string ⟨#[]⟩]) (by simp [results, Tryz.results32, go_sem, q0, q1]) rfl ⟨rfl, ?_⟩
  have hT := DTurned.of_below (unhide HS2) (Below.refl _ w2)
  exact DTurned.store (unhide HS) (unhide HH2).below hT (Nat.le_succ _) (unhide HH2).size (kept_two _ _ _ _)

set_option maxRecDepth 100000 in
set_option maxHeartbeats 2000000 in
theorem dDo_full (a b t : ByteArray) (N D : Nat) (v : Value) (st : List AFile) (w : World) (hr : DRep w N D v st) (hi : Inv st) (ha : a.size ≤ maxLen) (hb : b.size ≤ maxLen) (ht : t.size ≤ maxLen) (hc : checkI ⟨1, a, b, t⟩ = 0)
    (hf : fInt a st < 0) (h6 : 6 ≤ st.length) :
    Calls Tryz.prog 32 #[.pointer (some ⟨D, 0, none⟩), .agg #[.int .i64 1, .string a, .string b, .string t]] w
      fun e w' => e = .returned (.agg #[.int .i64 7, .string ⟨#[]⟩]) ∧ DTurned w N D v w' st := by
  have hcon := CallFault_any 1 a b t (doW w 1 a b t) ha hb ht
  have hin := DoIn.start w 1 a b t
  rw [hc] at hcon
  have HI := hide hin
  have HS := hide hr
  have hl := hi.few
  obtain ⟨ga, cap, rfl⟩ := hr.form
  have hcr : ∀ W : World, DRep W N D (.slice ga st.length cap) st → Calls Tryz.prog 61 #[.slice ga st.length cap, .string a] W fun e w' => e = .returned (.int .i64 (fInt a st)) ∧ w' = W := fun W h => at_any a ga cap st W (by omega) h.names
  have HC := hide hcr
  generalize fInt a st = res at HC hf
  have h66 : (6 : Int) ≤ (st.length : Int) := by omega
  have hfn : ¬ (0 ≤ res) := by omega
  unfold doW at hcon
  clear hin hr hc hi hcr
  go_enter Tryz.func32, Tryz.ntmps32
  go_wp2_with fail
  refine hcon.mono ?_
  rintro e w1 ⟨rfl, b1⟩
  have h1 := (unhide HI).later b1
  have HH := hide h1
  have k0 := h1.k0
  have k1 := h1.k1
  have hs1 := (unhide HS).below h1.below
  have cD := hs1.can.1
  have HS1 := hide hs1
  clear h1 b1 hs1
  go_wp2_with fail
  go_quiet (first | (go_at_call 61; exact Calls.quiet_of_same ((unhide HC) _ ((unhide HS1).below ⟨rfl, rfl, rfl, Nat.le_refl _, fun _ _ => rfl⟩))))
  obtain ⟨w2, hw2⟩ : ∃ w2, w2 = w1.drewN nq := ⟨_, rfl⟩
  have b2 : Below w1.heap.size w1 w2 := by rw [hw2]; exact ⟨rfl, rfl, rfl, Nat.le_refl _, fun _ _ => rfl⟩
  rw [← hw2]
  have h2 := (unhide HH).later b2
  have HH2 := hide h2
  have HS2 := hide ((unhide HS).below h2.below)
  have j0 := h2.k0
  have cD2 := (unhide HS2).can.1
  have e1 := h2.a0.1
  have e2 := h2.a0.2
  have e3 := h2.a1.1
  have e4 := h2.a1.2

  have q0 := ans0 (.int .i64 7) (.string ⟨#[]⟩) e1
  have q1 := ans1 (.int .i64 7) (.string ⟨#[]⟩) e3
  clear hw2 b2 h2 k0 k1 cD
  go_wp2
  refine bodyPost_ret (v := .agg #[.int .i64 7, .string ⟨#[]⟩]) (by simp [results, Tryz.results32, go_sem, q0, q1]) rfl ⟨rfl, ?_⟩
  have hT := DTurned.of_below (unhide HS2) (Below.refl _ w2)
  exact DTurned.store (unhide HS) (unhide HH2).below hT (Nat.le_succ _) (unhide HH2).size (kept_two _ _ _ _)

set_option maxRecDepth 100000 in
set_option maxHeartbeats 2000000 in
theorem dDo_read (a b t : ByteArray) (N D : Nat) (v : Value) (st : List AFile) (w : World) (hr : DRep w N D v st) (hi : Inv st) (ha : a.size ≤ maxLen) (hb : b.size ≤ maxLen) (ht : t.size ≤ maxLen) (hc : checkI ⟨5, a, b, t⟩ = 0)
    (hf : 0 ≤ fInt a st) :
    Calls Tryz.prog 32 #[.pointer (some ⟨D, 0, none⟩), .agg #[.int .i64 5, .string a, .string b, .string t]] w
      fun e w' => e = .returned (.agg #[.int .i64 0, .string (fileAt st (fIdx a st)).text]) ∧ DTurned w N D v w' st := by
  have hcon := CallFault_any 5 a b t (doW w 5 a b t) ha hb ht
  have hin := DoIn.start w 5 a b t
  rw [hc] at hcon
  have HI := hide hin
  have HS := hide hr
  have hl := hi.few
  obtain ⟨ga, cap, rfl⟩ := hr.form
  have hcr : ∀ W : World, DRep W N D (.slice ga st.length cap) st → Calls Tryz.prog 61 #[.slice ga st.length cap, .string a] W fun e w' => e = .returned (.int .i64 (fInt a st)) ∧ w' = W := fun W h => at_any a ga cap st W (by omega) h.names
  have HC := hide hcr
  obtain ⟨hx1, hx2⟩ := fIdx_spec a st hf
  rw [hx2] at HC
  obtain ⟨g, hga, hg0, hg1⟩ := hr.file (fIdx a st) (fileAt st (fIdx a st)) (fileAt_get hx1)
  obtain rfl := hga
  have HG := hide hg1
  generalize (fileAt st (fIdx a st)).text = tx at HG ⊢
  generalize fIdx a st = ix at HC HG hx1
  have ix0 : (0 : Int) ≤ (ix : Int) := by omega
  have ix1 : (ix : Int) < (st.length : Int) := by omega
  have ixn : ¬ ((ix : Int) < 0) := by omega
  clear hx2 hg0 hg1 hf
  unfold doW at hcon
  clear hin hr hc hi hcr
  go_enter Tryz.func32, Tryz.ntmps32
  go_wp2_with fail
  refine hcon.mono ?_
  rintro e w1 ⟨rfl, b1⟩
  have h1 := (unhide HI).later b1
  have HH := hide h1
  have k0 := h1.k0
  have k1 := h1.k1
  have hs1 := (unhide HS).below h1.below
  have cD := hs1.can.1
  have HS1 := hide hs1
  clear h1 b1 hs1
  go_wp2_with fail
  go_quiet (first | (go_at_call 61; exact Calls.quiet_of_same ((unhide HC) _ ((unhide HS1).below ⟨rfl, rfl, rfl, Nat.le_refl _, fun _ _ => rfl⟩))))
  obtain ⟨w2, hw2⟩ : ∃ w2, w2 = w1.drewN nq := ⟨_, rfl⟩
  have b2 : Below w1.heap.size w1 w2 := by rw [hw2]; exact ⟨rfl, rfl, rfl, Nat.le_refl _, fun _ _ => rfl⟩
  rw [← hw2]
  have h2 := (unhide HH).later b2
  have HH2 := hide h2
  have HS2 := hide ((unhide HS).below h2.below)
  have j0 := h2.k0
  have cD2 := (unhide HS2).can.1
  have e1 := h2.a0.1
  have e2 := h2.a0.2
  have e3 := h2.a1.1
  have e4 := h2.a1.2
  have cg := ((unhide HG).below h2.below (unhide HG).lt).1
  have q0 := ans0 (.int .i64 0) (.string tx) e1
  have q1 := ans1 (.int .i64 0) (.string tx) e3
  clear hw2 b2 h2 k0 k1 cD
  go_wp2
  refine bodyPost_ret (v := .agg #[.int .i64 0, .string tx]) (by simp [results, Tryz.results32, go_sem, q0, q1]) rfl ⟨rfl, ?_⟩
  have hT := DTurned.of_below (unhide HS2) (Below.refl _ w2)
  exact DTurned.store (unhide HS) (unhide HH2).below hT (Nat.le_succ _) (unhide HH2).size (kept_two _ _ _ _)

end Go.Proofs.YtmbhbnoifimeaabGreat

namespace Go.Proofs.YtmbhbnoifimeaabGreat
open Go.RowKit
set_option linter.unusedSimpArgs false
set_option linter.unusedVariables false

set_option maxRecDepth 100000 in
set_option maxHeartbeats 2000000 in
theorem dDo_list (a b t : ByteArray) (N D : Nat) (v : Value) (st : List AFile) (w : World) (hr : DRep w N D v st) (hi : Inv st) (ha : a.size ≤ maxLen) (hb : b.size ≤ maxLen) (ht : t.size ≤ maxLen) (hc : checkI ⟨6, a, b, t⟩ = 0) :
    Calls Tryz.prog 32 #[.pointer (some ⟨D, 0, none⟩), .agg #[.int .i64 6, .string a, .string b, .string t]] w
      fun e w' => e = .returned (.agg #[.int .i64 0, .string (joinNames st)]) ∧ DTurned w N D v w' st := by
  have hcon := CallFault_any 6 a b t (doW w 6 a b t) ha hb ht
  have hin := DoIn.start w 6 a b t
  rw [hc] at hcon
  have HI := hide hin
  have HS := hide hr
  have hl := hi.few
  have HJ : Hid (joinNames st = jn (sNames st)) := rfl
  have HZ : Hid (∀ x, x ∈ sNames st → x.size ≤ 5) := fun x hx => (nameB_size (sNames_named hi hx)).2
  obtain ⟨ga, cap, rfl⟩ := hr.form
  have hcr : ∀ W : World, DRep W N D (.slice ga st.length cap) st → Calls Tryz.prog 25 #[.slice ga st.length cap] W fun e w' => ∃ a c, e = .returned (.slice a st.length c) ∧ w'.ownsRow W.heap.size 9 1 (.slice a st.length c) st.length ((sNames st).map .string) ∧ Below W.heap.size W w' := fun W h => dNames_any ga cap st W hl h.names
  have HC := hide hcr
  have HLn : Hid ((sNames st).length = st.length) := sNames_length st
  generalize joinNames st = jt at HJ ⊢
  generalize sNames st = ns at HC HJ HZ HLn
  unfold doW at hcon
  clear hin hr hc hi hcr
  go_enter Tryz.func32, Tryz.ntmps32
  go_wp2_with fail
  refine hcon.mono ?_
  rintro e w1 ⟨rfl, b1⟩
  have h1 := (unhide HI).later b1
  have HH := hide h1
  have k0 := h1.k0
  have hs1 := (unhide HS).below h1.below
  have cD := hs1.can.1
  have HS1 := hide hs1
  clear h1 b1 hs1
  go_wp2_with fail
  refine ((unhide HC) _ (unhide HS1)).mono ?_
  rintro e w2 ⟨na, nc, rfl, hown, b2⟩
  have h2 := (unhide HH).later b2
  have HH2 := hide h2
  have HS2 := hide ((unhide HS).below h2.below)
  have HO := hide (ownsRow_base hown (Nat.zero_le _))
  have e1 := h2.a0.1
  have e2 := h2.a0.2
  have e3 := h2.a1.1
  have e4 := h2.a1.2
  have q0 := ans0 (.int .i64 0) (.string jt) e1
  have q1 := ans1 (.int .i64 0) (.string jt) e3
  clear h2 b2 k0 cD hown
  obtain ⟨J, HJJ⟩ : ∃ J : Nat → ByteArray, Hid (∀ m, J m = jn (ns.take m)) := ⟨_, fun _ => rfl⟩
  have HJ0 : Hid (J 0 = ⟨#[]⟩) := unhide HJJ 0
  go_wp2
  go_loop [6, 8] (fun s i => ∃ k : Nat, k ≤ st.length ∧ i = .int .i64 k ∧ s = .string (J k)) (fun _ i => st.length - (intOf i).toNat)
  case atStart => exact ⟨0, Nat.zero_le _, rfl, by rw [HJ0.out]⟩
  case round =>
    obtain ⟨k, hk, rfl, rfl⟩ := hrel
    by_cases hlt : (k : Int) < (st.length : Int)
    · obtain ⟨x, hx⟩ : ∃ x, ns[k]? = some x := ⟨_, List.getElem?_eq_getElem (by rw [unhide HLn]; omega)⟩
      obtain ⟨g, rfl, cx⟩ := text_cell (unhide HO) k x hx
      have hk0 : (0 : Int) ≤ (k : Int) := by omega
      have hsx : x.size ≤ 5 := unhide HZ x (List.mem_of_getElem? hx)
      have hJs : (J k).size ≤ 1000000 := by
        rw [unhide HJJ k]
        exact jn_size _ _ (by rw [unhide HLn]; omega) (unhide HZ)
      by_cases hkz : k = 0
      · subst hkz
        have HJ1 : Hid (J 0 ++ x = J 1) := by rw [unhide HJJ 1, HJ0.out, jn_first _ _ hx]; exact rfl
        clear hx
        go_wp2
        go_round
        case rel => exact ⟨1, by omega, by go_num, by rw [HJ1.out]⟩
        case measure => simp [intOf]; omega
      · have hkp : (0 : Int) < (k : Int) := by omega
        have HJ1 : Hid (J k ++ ⟨#[32]⟩ ++ x = J (k + 1)) := by rw [unhide HJJ (k + 1), unhide HJJ k, jn_succ _ _ _ (by omega) hx]; exact rfl
        have hsz : (J k ++ (⟨#[32]⟩ : ByteArray)).size ≤ 1000001 := by
          have e : (⟨#[32]⟩ : ByteArray).size = 1 := rfl
          rw [ByteArray.size_append, e]; omega
        clear hx hkz
        go_wp2
        go_round
        case rel => exact ⟨k + 1, by omega, by go_num, by rw [HJ1.out]⟩
        case measure => simp [intOf]; omega
    · have hkk : k = st.length := by omega
      subst hkk
      have hj : J st.length = jt := by rw [unhide HJJ, List.take_of_length_le (by rw [unhide HLn]; exact Nat.le_refl _), HJ.out]
      rw [hj]
      clear hj
      go_wp2
      refine bodyPost_ret (v := .agg #[.int .i64 0, .string jt]) (by simp [results, Tryz.results32, go_sem, q0, q1]) rfl ⟨rfl, ?_⟩
      have hT := DTurned.of_below (unhide HS2) (Below.refl _ w2)
      exact DTurned.store (unhide HS) (unhide HH2).below hT (Nat.le_succ _) (unhide HH2).size (kept_two _ _ _ _)

end Go.Proofs.YtmbhbnoifimeaabGreat

namespace Go.Proofs.YtmbhbnoifimeaabGreat
open Go.RowKit
set_option linter.unusedSimpArgs false
set_option linter.unusedVariables false

theorem dflat_set (st : List AFile) (j d : Nat) (f f' : AFile) (x : Value) (hj : st[j]? = some f) (hd : d < 2) (hx : dCells f' = (dCells f).set d x) :
    (st.flatMap dCells).set (j * 2 + d) x = (st.set j f').flatMap dCells := by
  obtain ⟨hlt, hf⟩ := List.getElem?_eq_some_iff.1 hj
  have e : st = st.take j ++ f :: st.drop (j + 1) := by rw [← hf, List.getElem_cons_drop, List.take_append_drop]
  have e2 : st.set j f' = st.take j ++ f' :: st.drop (j + 1) := by
    rw [List.set_eq_take_append_cons_drop, if_pos hlt]
  rw [e2]
  have e3 : st.flatMap dCells = (st.take j).flatMap dCells ++ (dCells f ++ (st.drop (j + 1)).flatMap dCells) := by
    have := congrArg (fun l => l.flatMap dCells) e
    simpa only [List.flatMap_append, List.flatMap_cons] using this
  rw [e3]
  simp only [List.flatMap_append, List.flatMap_cons]
  have hl : ((st.take j).flatMap dCells).length = j * 2 := by rw [dflat_len, List.length_take, Nat.min_eq_left (by omega)]
  rw [List.set_append_right _ _ (by omega), hl, show j * 2 + d - j * 2 = d by omega, List.set_append_left _ _ (by simp [dCells]; exact hd), hx]

theorem DRep.setFile {w : World} {N D g n cap : Nat} {st : List AFile} (h : DRep w N D (.slice (some ⟨g, 0, none⟩) n cap) st) (j d : Nat) (f f' : AFile) (x : Value) (hj : st[j]? = some f) (hd : d < 2) (hx : dCells f' = (dCells f).set d x) :
    DTurned w N D (.slice (some ⟨g, 0, none⟩) n cap) (w.setCell ⟨g, j * 2 + d, none⟩ x) (st.set j f') := by
  have hgD : g ≠ D := fun e => h.nd (by simp [Value.ownBlock, e])
  refine ⟨.slice (some ⟨g, 0, none⟩) n cap, ⟨h.new, ?_, ?_, h.nd⟩, kept_setCell _ _ _ _ _ (by simp [Value.ownBlock]), fun k hk => .inl hk⟩
  · rw [Below.heap_setCell w ⟨g, j * 2 + d, none⟩ x D (fun e => hgD e.symm)]
    exact h.blk
  · have hjl : j < st.length := (List.getElem?_eq_some_iff.1 hj).1
    obtain ⟨hlen, h2⟩ := h.row
    rcases h2 with ⟨e, _⟩ | ⟨g', cap', cur, he, hN, hg, hnc, hcm, hcs, htk⟩
    · cases e
    obtain ⟨rfl, rfl, rfl⟩ : g = g' ∧ n = st.length ∧ cap = cap' := by simpa using he
    rw [List.length_set]
    refine ⟨by rw [dflat_len, List.length_set], .inr ⟨g, cap, cur.setIfInBounds (j * 2 + d) x, rfl, hN, heap_setCell_same hg x, hnc, hcm, by simpa using hcs, ?_⟩⟩
    rw [← dflat_set st j d f f' x hj hd hx, ← htk]
    rw [Array.toList_setIfInBounds, List.take_set]

end Go.Proofs.YtmbhbnoifimeaabGreat

namespace Go.Proofs.YtmbhbnoifimeaabGreat
open Go.RowKit
set_option linter.unusedSimpArgs false
set_option linter.unusedVariables false

set_option maxRecDepth 100000 in
set_option maxHeartbeats 2000000 in
theorem dDo_rename_there (a b t : ByteArray) (N D : Nat) (v : Value) (st : List AFile) (w : World) (hr : DRep w N D v st) (hi : Inv st) (ha : a.size ≤ maxLen) (hb : b.size ≤ maxLen) (ht : t.size ≤ maxLen) (hc : checkI ⟨3, a, b, t⟩ = 0) (hf : 0 ≤ fInt a st)
    (hf2 : 0 ≤ fInt b st) :
    Calls Tryz.prog 32 #[.pointer (some ⟨D, 0, none⟩), .agg #[.int .i64 3, .string a, .string b, .string t]] w
      fun e w' => e = .returned (.agg #[.int .i64 5, .string ⟨#[]⟩]) ∧ DTurned w N D v w' (st) := by
  have hcon := CallFault_any 3 a b t (doW w 3 a b t) ha hb ht
  have hin := DoIn.start w 3 a b t
  rw [hc] at hcon
  have HI := hide hin
  have HS := hide hr
  have hl := hi.few
  obtain ⟨ga, cap, rfl⟩ := hr.form
  have hcr : ∀ (s : ByteArray) (W : World), DRep W N D (.slice ga st.length cap) st → Calls Tryz.prog 61 #[.slice ga st.length cap, .string s] W fun e w' => e = .returned (.int .i64 (fInt s st)) ∧ w' = W := fun s W h => at_any s ga cap st W (by omega) h.names
  have HC := hide (hcr a)
  have HC2 := hide (hcr b)
  generalize fInt b st = res at HC2 hf2
  obtain ⟨hx1, hx2⟩ := fIdx_spec a st hf
  rw [hx2] at HC
  obtain ⟨g, hga, hg0, hg1⟩ := hr.file (fIdx a st) (fileAt st (fIdx a st)) (fileAt_get hx1)
  obtain rfl := hga
  have HG0 := hide hg0
  have HG1 := hide hg1
  have HF := hide (fileAt_get hx1)
  have hshort : (fileAt st (fIdx a st)).text.size ≤ 16 := hi.short _ (fileAt_mem hx1)
  generalize fileAt st (fIdx a st) = fl at HG0 HG1 HF hshort  ⊢
  generalize fIdx a st = ix at HC HG0 HG1 HF hx1 ⊢
  have ix0 : (0 : Int) ≤ (ix : Int) := by omega
  have ix1 : (ix : Int) < (st.length : Int) := by omega
  have ixn : ¬ ((ix : Int) < 0) := by omega
  have hDw : D < w.heap.size := hr.ltD
  have hgw : g < w.heap.size := hg0.lt

  unfold doW at hcon
  clear hin hr hc hi hcr hx2 hg0 hg1 hf
  go_enter Tryz.func32, Tryz.ntmps32
  go_wp2_with fail
  refine hcon.mono ?_
  rintro e w1 ⟨rfl, b1⟩
  have h1 := (unhide HI).later b1
  have HH := hide h1
  have k0 := h1.k0
  have k1 := h1.k1
  have hs1 := (unhide HS).below h1.below
  have cD := hs1.can.1
  have HS1 := hide hs1
  clear h1 b1 hs1
  go_wp2_with fail
  go_quiet (first | (go_at_call 61; exact Calls.quiet_of_same ((unhide HC) _ ((unhide HS1).below ⟨rfl, rfl, rfl, Nat.le_refl _, fun _ _ => rfl⟩))))
  obtain ⟨w2, hw2⟩ : ∃ w2, w2 = w1.drewN nq := ⟨_, rfl⟩
  have b2 : Below w1.heap.size w1 w2 := by rw [hw2]; exact ⟨rfl, rfl, rfl, Nat.le_refl _, fun _ _ => rfl⟩
  rw [← hw2]
  have h2 := (unhide HH).later b2
  have HH2 := hide h2
  have HS2 := hide ((unhide HS).below h2.below)
  have j0 := h2.k0
  have j2 := h2.k2
  have j3 := h2.k3
  have cD2 := (unhide HS2).can.1
  have cg0 := ((unhide HG0).below h2.below (unhide HG0).lt).1
  have cg1 := ((unhide HG1).below h2.below (unhide HG1).lt).1
  clear hw2 b2 h2 k0 k1 cD
  go_wp2_with fail
  go_quiet (first | (go_at_call 61; exact Calls.quiet_of_same ((unhide HC2) _ ((unhide HS2).below ⟨rfl, rfl, rfl, Nat.le_refl _, fun _ _ => rfl⟩))))
  obtain ⟨w3, hw3⟩ : ∃ w3, w3 = w2.drewN nq := ⟨_, rfl⟩
  have b3 : Below w2.heap.size w2 w3 := by rw [hw3]; exact ⟨rfl, rfl, rfl, Nat.le_refl _, fun _ _ => rfl⟩
  rw [← hw3]
  have h3 := (unhide HH2).later b3
  have HH3 := hide h3
  have HS3 := hide ((unhide HS).below h3.below)
  have l2 := h3.k2
  have l3 := h3.k3
  have cD3 := (unhide HS3).can.1
  have m0 := ((unhide HG0).below h3.below (unhide HG0).lt)
  have m1 := ((unhide HG1).below h3.below (unhide HG1).lt)
  have cm0 := m0.1
  have cm0f := m0.2
  have cm1 := m1.1
  have cm1f := m1.2
  have e1 := h3.a0.1
  have e2 := h3.a0.2
  have e3 := h3.a1.1
  have e4 := h3.a1.2
  have q0 := ans0 (.int .i64 5) (.string ⟨#[]⟩) e1
  have q1 := ans1 (.int .i64 5) (.string ⟨#[]⟩) e3
  clear hw3 b3 h3 m0 m1 j0 j2 j3 cD2 cg0 cg1
  go_wp2
  refine bodyPost_ret (v := .agg #[.int .i64 5, .string ⟨#[]⟩]) (by simp [results, Tryz.results32, go_sem, q0, q1]) rfl ⟨rfl, ?_⟩
  have hT := DTurned.of_below (unhide HS3) (Below.refl _ w3)
  exact DTurned.store (unhide HS) (unhide HH3).below hT (Nat.le_succ _) (unhide HH3).size (kept_two _ _ _ _)

set_option maxRecDepth 100000 in
set_option maxHeartbeats 2000000 in
theorem dDo_rename_new (a b t : ByteArray) (N D : Nat) (v : Value) (st : List AFile) (w : World) (hr : DRep w N D v st) (hi : Inv st) (ha : a.size ≤ maxLen) (hb : b.size ≤ maxLen) (ht : t.size ≤ maxLen) (hc : checkI ⟨3, a, b, t⟩ = 0) (hf : 0 ≤ fInt a st)
    (hf2 : fInt b st < 0) :
    Calls Tryz.prog 32 #[.pointer (some ⟨D, 0, none⟩), .agg #[.int .i64 3, .string a, .string b, .string t]] w
      fun e w' => e = .returned (.agg #[.int .i64 0, .string ⟨#[]⟩]) ∧ DTurned w N D v w' (st.set (fIdx a st) ⟨b, (fileAt st (fIdx a st)).text⟩) := by
  have hcon := CallFault_any 3 a b t (doW w 3 a b t) ha hb ht
  have hin := DoIn.start w 3 a b t
  rw [hc] at hcon
  have HI := hide hin
  have HS := hide hr
  have hl := hi.few
  obtain ⟨ga, cap, rfl⟩ := hr.form
  have hcr : ∀ (s : ByteArray) (W : World), DRep W N D (.slice ga st.length cap) st → Calls Tryz.prog 61 #[.slice ga st.length cap, .string s] W fun e w' => e = .returned (.int .i64 (fInt s st)) ∧ w' = W := fun s W h => at_any s ga cap st W (by omega) h.names
  have HC := hide (hcr a)
  have HC2 := hide (hcr b)
  generalize fInt b st = res at HC2 hf2
  obtain ⟨hx1, hx2⟩ := fIdx_spec a st hf
  rw [hx2] at HC
  obtain ⟨g, hga, hg0, hg1⟩ := hr.file (fIdx a st) (fileAt st (fIdx a st)) (fileAt_get hx1)
  obtain rfl := hga
  have HG0 := hide hg0
  have HG1 := hide hg1
  have HF := hide (fileAt_get hx1)
  have hshort : (fileAt st (fIdx a st)).text.size ≤ 16 := hi.short _ (fileAt_mem hx1)
  generalize fileAt st (fIdx a st) = fl at HG0 HG1 HF hshort  ⊢
  generalize fIdx a st = ix at HC HG0 HG1 HF hx1 ⊢
  have ix0 : (0 : Int) ≤ (ix : Int) := by omega
  have ix1 : (ix : Int) < (st.length : Int) := by omega
  have ixn : ¬ ((ix : Int) < 0) := by omega
  have hDw : D < w.heap.size := hr.ltD
  have hgw : g < w.heap.size := hg0.lt
  have hrn : ¬ (0 ≤ res) := by omega
  unfold doW at hcon
  clear hin hr hc hi hcr hx2 hg0 hg1 hf
  go_enter Tryz.func32, Tryz.ntmps32
  go_wp2_with fail
  refine hcon.mono ?_
  rintro e w1 ⟨rfl, b1⟩
  have h1 := (unhide HI).later b1
  have HH := hide h1
  have k0 := h1.k0
  have k1 := h1.k1
  have hs1 := (unhide HS).below h1.below
  have cD := hs1.can.1
  have HS1 := hide hs1
  clear h1 b1 hs1
  go_wp2_with fail
  go_quiet (first | (go_at_call 61; exact Calls.quiet_of_same ((unhide HC) _ ((unhide HS1).below ⟨rfl, rfl, rfl, Nat.le_refl _, fun _ _ => rfl⟩))))
  obtain ⟨w2, hw2⟩ : ∃ w2, w2 = w1.drewN nq := ⟨_, rfl⟩
  have b2 : Below w1.heap.size w1 w2 := by rw [hw2]; exact ⟨rfl, rfl, rfl, Nat.le_refl _, fun _ _ => rfl⟩
  rw [← hw2]
  have h2 := (unhide HH).later b2
  have HH2 := hide h2
  have HS2 := hide ((unhide HS).below h2.below)
  have j0 := h2.k0
  have j2 := h2.k2
  have j3 := h2.k3
  have cD2 := (unhide HS2).can.1
  have cg0 := ((unhide HG0).below h2.below (unhide HG0).lt).1
  have cg1 := ((unhide HG1).below h2.below (unhide HG1).lt).1
  clear hw2 b2 h2 k0 k1 cD
  go_wp2_with fail
  go_quiet (first | (go_at_call 61; exact Calls.quiet_of_same ((unhide HC2) _ ((unhide HS2).below ⟨rfl, rfl, rfl, Nat.le_refl _, fun _ _ => rfl⟩))))
  obtain ⟨w3, hw3⟩ : ∃ w3, w3 = w2.drewN nq := ⟨_, rfl⟩
  have b3 : Below w2.heap.size w2 w3 := by rw [hw3]; exact ⟨rfl, rfl, rfl, Nat.le_refl _, fun _ _ => rfl⟩
  rw [← hw3]
  have h3 := (unhide HH2).later b3
  have HH3 := hide h3
  have HS3 := hide ((unhide HS).below h3.below)
  have l2 := h3.k2
  have l3 := h3.k3
  have cD3 := (unhide HS3).can.1
  have m0 := ((unhide HG0).below h3.below (unhide HG0).lt)
  have m1 := ((unhide HG1).below h3.below (unhide HG1).lt)
  have cm0 := m0.1
  have cm0f := m0.2
  have cm1 := m1.1
  have cm1f := m1.2
  clear hw3 b3 h3 m0 m1 j0 j2 j3 cD2 cg0 cg1
  go_wp2_with fail
  go_region
  all_goals
    obtain ⟨w4, hw4⟩ : ∃ w4, w4 = (w3.setCell ⟨g, ix * 2, none⟩ (.string b)).drew := ⟨_, rfl⟩
    rw [← hw4]
    have b4 : Below w3.heap.size w3 w3.drew := below_drew w3
    have HS4 := hide ((unhide HS3).below b4)
    have h4 := (unhide HH3).later b4
    have HH4 := hide h4
    have hT : DTurned w3.drew N D (.slice (some ⟨g, 0, none⟩) st.length cap) w4 (st.set ix ⟨b, fl.text⟩) := by rw [hw4]; exact (unhide HS4).setFile ix 0 fl ⟨b, fl.text⟩ (.string b) (unhide HF) (by omega) (by simp [dCells])
    have c0 := hT.can h4.a0 (by omega) (by simp [Value.ownBlock]; omega)
    have c1 := hT.can h4.a1 (by omega) (by simp [Value.ownBlock]; omega)
    have e1 := c0.1
    have e2 := c0.2
    have e3 := c1.1
    have e4 := c1.2
    have q0 := ans0 (.int .i64 0) (.string ⟨#[]⟩) e1
    have q1 := ans1 (.int .i64 0) (.string ⟨#[]⟩) e3
    have HT := hide hT
    clear hw4 b4 h4 hT c0 c1
    go_wp2
    refine bodyPost_ret (v := .agg #[.int .i64 0, .string ⟨#[]⟩]) (by simp [results, Tryz.results32, go_sem, q0, q1]) rfl ⟨rfl, ?_⟩
    exact DTurned.store (unhide HS) (unhide HH4).below (unhide HT) (Nat.le_succ _) (unhide HH4).size (kept_two _ _ _ _)

set_option maxRecDepth 100000 in
set_option maxHeartbeats 2000000 in
theorem dDo_put_full (a b t : ByteArray) (N D : Nat) (v : Value) (st : List AFile) (w : World) (hr : DRep w N D v st) (hi : Inv st) (ha : a.size ≤ maxLen) (hb : b.size ≤ maxLen) (ht : t.size ≤ maxLen) (hc : checkI ⟨4, a, b, t⟩ = 0) (hf : 0 ≤ fInt a st)
    (hts : t.size ≤ 1000) (h16 : 16 < (fileAt st (fIdx a st)).text.size + t.size) :
    Calls Tryz.prog 32 #[.pointer (some ⟨D, 0, none⟩), .agg #[.int .i64 4, .string a, .string b, .string t]] w
      fun e w' => e = .returned (.agg #[.int .i64 7, .string ⟨#[]⟩]) ∧ DTurned w N D v w' (st) := by
  have hcon := CallFault_any 4 a b t (doW w 4 a b t) ha hb ht
  have hin := DoIn.start w 4 a b t
  rw [hc] at hcon
  have HI := hide hin
  have HS := hide hr
  have hl := hi.few
  obtain ⟨ga, cap, rfl⟩ := hr.form
  have hcr : ∀ (s : ByteArray) (W : World), DRep W N D (.slice ga st.length cap) st → Calls Tryz.prog 61 #[.slice ga st.length cap, .string s] W fun e w' => e = .returned (.int .i64 (fInt s st)) ∧ w' = W := fun s W h => at_any s ga cap st W (by omega) h.names
  have HC := hide (hcr a)

  obtain ⟨hx1, hx2⟩ := fIdx_spec a st hf
  rw [hx2] at HC
  obtain ⟨g, hga, hg0, hg1⟩ := hr.file (fIdx a st) (fileAt st (fIdx a st)) (fileAt_get hx1)
  obtain rfl := hga
  have HG0 := hide hg0
  have HG1 := hide hg1
  have HF := hide (fileAt_get hx1)
  have hshort : (fileAt st (fIdx a st)).text.size ≤ 16 := hi.short _ (fileAt_mem hx1)
  generalize fileAt st (fIdx a st) = fl at HG0 HG1 HF hshort h16 ⊢
  generalize fIdx a st = ix at HC HG0 HG1 HF hx1 ⊢
  have ix0 : (0 : Int) ≤ (ix : Int) := by omega
  have ix1 : (ix : Int) < (st.length : Int) := by omega
  have ixn : ¬ ((ix : Int) < 0) := by omega
  have hDw : D < w.heap.size := hr.ltD
  have hgw : g < w.heap.size := hg0.lt
  have g16 : (16 : Int) < (fl.text.size : Int) + (t.size : Int) := by omega
  have hwr : IntKind.i64.wrap ((fl.text.size : Int) + (t.size : Int)) = (fl.text.size : Int) + (t.size : Int) := by rw [IntKind.wrap_i64]; omega
  unfold doW at hcon
  clear hin hr hc hi hcr hx2 hg0 hg1 hf
  go_enter Tryz.func32, Tryz.ntmps32
  go_wp2_with fail
  refine hcon.mono ?_
  rintro e w1 ⟨rfl, b1⟩
  have h1 := (unhide HI).later b1
  have HH := hide h1
  have k0 := h1.k0
  have k1 := h1.k1
  have hs1 := (unhide HS).below h1.below
  have cD := hs1.can.1
  have HS1 := hide hs1
  clear h1 b1 hs1
  go_wp2_with fail
  go_quiet (first | (go_at_call 61; exact Calls.quiet_of_same ((unhide HC) _ ((unhide HS1).below ⟨rfl, rfl, rfl, Nat.le_refl _, fun _ _ => rfl⟩))))
  obtain ⟨w2, hw2⟩ : ∃ w2, w2 = w1.drewN nq := ⟨_, rfl⟩
  have b2 : Below w1.heap.size w1 w2 := by rw [hw2]; exact ⟨rfl, rfl, rfl, Nat.le_refl _, fun _ _ => rfl⟩
  rw [← hw2]
  have h2 := (unhide HH).later b2
  have HH2 := hide h2
  have HS2 := hide ((unhide HS).below h2.below)
  have j0 := h2.k0
  have j2 := h2.k2
  have j3 := h2.k3
  have cD2 := (unhide HS2).can.1
  have cg0 := ((unhide HG0).below h2.below (unhide HG0).lt).1
  have cg1 := ((unhide HG1).below h2.below (unhide HG1).lt).1
  clear hw2 b2 h2 k0 k1 cD
  go_wp2_with fail
  go_quiet (fail)
  obtain ⟨w3, hw3⟩ : ∃ w3, w3 = w2.drewN nq := ⟨_, rfl⟩
  have b3 : Below w2.heap.size w2 w3 := by rw [hw3]; exact ⟨rfl, rfl, rfl, Nat.le_refl _, fun _ _ => rfl⟩
  rw [← hw3]
  have h3 := (unhide HH2).later b3
  have HH3 := hide h3
  have HS3 := hide ((unhide HS).below h3.below)
  have l2 := h3.k2
  have l3 := h3.k3
  have cD3 := (unhide HS3).can.1
  have m0 := ((unhide HG0).below h3.below (unhide HG0).lt)
  have m1 := ((unhide HG1).below h3.below (unhide HG1).lt)
  have cm0 := m0.1
  have cm0f := m0.2
  have cm1 := m1.1
  have cm1f := m1.2
  have e1 := h3.a0.1
  have e2 := h3.a0.2
  have e3 := h3.a1.1
  have e4 := h3.a1.2
  have q0 := ans0 (.int .i64 7) (.string ⟨#[]⟩) e1
  have q1 := ans1 (.int .i64 7) (.string ⟨#[]⟩) e3
  clear hw3 b3 h3 m0 m1 j0 j2 j3 cD2 cg0 cg1
  go_wp2
  refine bodyPost_ret (v := .agg #[.int .i64 7, .string ⟨#[]⟩]) (by simp [results, Tryz.results32, go_sem, q0, q1]) rfl ⟨rfl, ?_⟩
  have hT := DTurned.of_below (unhide HS3) (Below.refl _ w3)
  exact DTurned.store (unhide HS) (unhide HH3).below hT (Nat.le_succ _) (unhide HH3).size (kept_two _ _ _ _)

set_option maxRecDepth 100000 in
set_option maxHeartbeats 2000000 in
theorem dDo_put_some (a b t : ByteArray) (N D : Nat) (v : Value) (st : List AFile) (w : World) (hr : DRep w N D v st) (hi : Inv st) (ha : a.size ≤ maxLen) (hb : b.size ≤ maxLen) (ht : t.size ≤ maxLen) (hc : checkI ⟨4, a, b, t⟩ = 0) (hf : 0 ≤ fInt a st)
    (hts : t.size ≤ 1000) (h16 : (fileAt st (fIdx a st)).text.size + t.size ≤ 16) :
    Calls Tryz.prog 32 #[.pointer (some ⟨D, 0, none⟩), .agg #[.int .i64 4, .string a, .string b, .string t]] w
      fun e w' => e = .returned (.agg #[.int .i64 0, .string ⟨#[]⟩]) ∧ DTurned w N D v w' (st.set (fIdx a st) ⟨(fileAt st (fIdx a st)).name, (fileAt st (fIdx a st)).text ++ t⟩) := by
  have hcon := CallFault_any 4 a b t (doW w 4 a b t) ha hb ht
  have hin := DoIn.start w 4 a b t
  rw [hc] at hcon
  have HI := hide hin
  have HS := hide hr
  have hl := hi.few
  obtain ⟨ga, cap, rfl⟩ := hr.form
  have hcr : ∀ (s : ByteArray) (W : World), DRep W N D (.slice ga st.length cap) st → Calls Tryz.prog 61 #[.slice ga st.length cap, .string s] W fun e w' => e = .returned (.int .i64 (fInt s st)) ∧ w' = W := fun s W h => at_any s ga cap st W (by omega) h.names
  have HC := hide (hcr a)

  obtain ⟨hx1, hx2⟩ := fIdx_spec a st hf
  rw [hx2] at HC
  obtain ⟨g, hga, hg0, hg1⟩ := hr.file (fIdx a st) (fileAt st (fIdx a st)) (fileAt_get hx1)
  obtain rfl := hga
  have HG0 := hide hg0
  have HG1 := hide hg1
  have HF := hide (fileAt_get hx1)
  have hshort : (fileAt st (fIdx a st)).text.size ≤ 16 := hi.short _ (fileAt_mem hx1)
  generalize fileAt st (fIdx a st) = fl at HG0 HG1 HF hshort h16 ⊢
  generalize fIdx a st = ix at HC HG0 HG1 HF hx1 ⊢
  have ix0 : (0 : Int) ≤ (ix : Int) := by omega
  have ix1 : (ix : Int) < (st.length : Int) := by omega
  have ixn : ¬ ((ix : Int) < 0) := by omega
  have hDw : D < w.heap.size := hr.ltD
  have hgw : g < w.heap.size := hg0.lt
  have g16 : ¬ ((16 : Int) < (fl.text.size : Int) + (t.size : Int)) := by omega
  have hwr : IntKind.i64.wrap ((fl.text.size : Int) + (t.size : Int)) = (fl.text.size : Int) + (t.size : Int) := by rw [IntKind.wrap_i64]; omega
  unfold doW at hcon
  clear hin hr hc hi hcr hx2 hg0 hg1 hf
  go_enter Tryz.func32, Tryz.ntmps32
  go_wp2_with fail
  refine hcon.mono ?_
  rintro e w1 ⟨rfl, b1⟩
  have h1 := (unhide HI).later b1
  have HH := hide h1
  have k0 := h1.k0
  have k1 := h1.k1
  have hs1 := (unhide HS).below h1.below
  have cD := hs1.can.1
  have HS1 := hide hs1
  clear h1 b1 hs1
  go_wp2_with fail
  go_quiet (first | (go_at_call 61; exact Calls.quiet_of_same ((unhide HC) _ ((unhide HS1).below ⟨rfl, rfl, rfl, Nat.le_refl _, fun _ _ => rfl⟩))))
  obtain ⟨w2, hw2⟩ : ∃ w2, w2 = w1.drewN nq := ⟨_, rfl⟩
  have b2 : Below w1.heap.size w1 w2 := by rw [hw2]; exact ⟨rfl, rfl, rfl, Nat.le_refl _, fun _ _ => rfl⟩
  rw [← hw2]
  have h2 := (unhide HH).later b2
  have HH2 := hide h2
  have HS2 := hide ((unhide HS).below h2.below)
  have j0 := h2.k0
  have j2 := h2.k2
  have j3 := h2.k3
  have cD2 := (unhide HS2).can.1
  have cg0 := ((unhide HG0).below h2.below (unhide HG0).lt).1
  have cg1 := ((unhide HG1).below h2.below (unhide HG1).lt).1
  clear hw2 b2 h2 k0 k1 cD
  go_wp2_with fail
  go_quiet (fail)
  obtain ⟨w3, hw3⟩ : ∃ w3, w3 = w2.drewN nq := ⟨_, rfl⟩
  have b3 : Below w2.heap.size w2 w3 := by rw [hw3]; exact ⟨rfl, rfl, rfl, Nat.le_refl _, fun _ _ => rfl⟩
  rw [← hw3]
  have h3 := (unhide HH2).later b3
  have HH3 := hide h3
  have HS3 := hide ((unhide HS).below h3.below)
  have l2 := h3.k2
  have l3 := h3.k3
  have cD3 := (unhide HS3).can.1
  have m0 := ((unhide HG0).below h3.below (unhide HG0).lt)
  have m1 := ((unhide HG1).below h3.below (unhide HG1).lt)
  have cm0 := m0.1
  have cm0f := m0.2
  have cm1 := m1.1
  have cm1f := m1.2
  clear hw3 b3 h3 m0 m1 j0 j2 j3 cD2 cg0 cg1
  go_wp2_with fail
  go_region
  all_goals
    obtain ⟨w4, hw4⟩ : ∃ w4, w4 = (w3.setCell ⟨g, ix * 2 + 1, none⟩ (.string (fl.text ++ t))).drew := ⟨_, rfl⟩
    rw [← hw4]
    have b4 : Below w3.heap.size w3 w3.drew := below_drew w3
    have HS4 := hide ((unhide HS3).below b4)
    have h4 := (unhide HH3).later b4
    have HH4 := hide h4
    have hT : DTurned w3.drew N D (.slice (some ⟨g, 0, none⟩) st.length cap) w4 (st.set ix ⟨fl.name, fl.text ++ t⟩) := by rw [hw4]; exact (unhide HS4).setFile ix 1 fl ⟨fl.name, fl.text ++ t⟩ (.string (fl.text ++ t)) (unhide HF) (by omega) (by simp [dCells])
    have c0 := hT.can h4.a0 (by omega) (by simp [Value.ownBlock]; omega)
    have c1 := hT.can h4.a1 (by omega) (by simp [Value.ownBlock]; omega)
    have e1 := c0.1
    have e2 := c0.2
    have e3 := c1.1
    have e4 := c1.2
    have q0 := ans0 (.int .i64 0) (.string ⟨#[]⟩) e1
    have q1 := ans1 (.int .i64 0) (.string ⟨#[]⟩) e3
    have HT := hide hT
    clear hw4 b4 h4 hT c0 c1
    go_wp2
    refine bodyPost_ret (v := .agg #[.int .i64 0, .string ⟨#[]⟩]) (by simp [results, Tryz.results32, go_sem, q0, q1]) rfl ⟨rfl, ?_⟩
    exact DTurned.store (unhide HS) (unhide HH4).below (unhide HT) (Nat.le_succ _) (unhide HH4).size (kept_two _ _ _ _)

end Go.Proofs.YtmbhbnoifimeaabGreat

namespace Go.Proofs.YtmbhbnoifimeaabGreat
open Go.RowKit
set_option linter.unusedSimpArgs false
set_option linter.unusedVariables false

theorem info101 : (Tryz.prog.info? 101).map (fun i => (i.zero, i.size, i.bytes)) = some (some (.agg #[.string ⟨#[]⟩, .string ⟨#[]⟩]), 2, 32) := by kernel_rfl

theorem DRep.lay {w w4 : World} {N D : Nat} {v v' : Value} {st st' : List AFile} (h : DRep w N D v st) (hk : Kept v.ownBlock.toList w w4) (hrow : w4.ownsRow N 101 2 v' st'.length (st'.flatMap dCells))
    (hat : ∀ k, v'.ownBlock = some k → v.ownBlock = some k ∨ w.heap.size ≤ k) : DTurned w N D v (w4.setCell ⟨D, 0, none⟩ v') st' := by
  have hnD : v'.ownBlock ≠ some D := fun e => by
    rcases hat D e with h1 | h1
    · exact h.nd h1
    · have := h.ltD; omega
  have hD4 : w4.heap[D]? = some (.cells #[v] 79 (0, 0)) := by rw [hk.block D h.ltD (by simpa using h.nd)]; exact h.blk
  refine ⟨v', ⟨h.new, ?_, ?_, hnD⟩, ?_, hat⟩
  · rw [heap_setCell_same hD4 v']; rfl
  · exact ownsRow_setCell_other hrow (a := ⟨D, 0, none⟩) hnD v'
  · have k1 : Kept (D :: v.ownBlock.toList) w w4 := ⟨hk.os, hk.tape, hk.output, hk.size, fun k hlt hn => hk.block k hlt (fun hm => hn (List.mem_cons_of_mem _ hm))⟩
    exact k1.trans (kept_setCell [D] w4 D 0 v' (by simp)) (fun x hx => .inl (by rw [List.mem_singleton.1 hx]; simp))

set_option maxRecDepth 100000 in
set_option maxHeartbeats 2000000 in
theorem dDo_make (a b t : ByteArray) (N D : Nat) (v : Value) (st : List AFile) (w : World) (hr : DRep w N D v st) (hi : Inv st) (ha : a.size ≤ maxLen) (hb : b.size ≤ maxLen) (ht : t.size ≤ maxLen) (hc : checkI ⟨1, a, b, t⟩ = 0)
    (hf : fInt a st < 0) (h6 : st.length < 6) :
    Calls Tryz.prog 32 #[.pointer (some ⟨D, 0, none⟩), .agg #[.int .i64 1, .string a, .string b, .string t]] w
      fun e w' => e = .returned (.agg #[.int .i64 0, .string ⟨#[]⟩]) ∧ DTurned w N D v w' (st ++ [⟨a, ByteArray.empty⟩]) := by
  obtain ⟨i0, hi0, hz0, hz1, hz2⟩ := info_parts info101
  have hcon := CallFault_any 1 a b t (doW w 1 a b t) ha hb ht
  have hin := DoIn.start w 1 a b t
  rw [hc] at hcon
  have HI := hide hin
  have HS := hide hr
  have hl := hi.few
  obtain ⟨ga, cap, rfl⟩ := hr.form
  have hcr : ∀ W : World, DRep W N D (.slice ga st.length cap) st → Calls Tryz.prog 61 #[.slice ga st.length cap, .string a] W fun e w' => e = .returned (.int .i64 (fInt a st)) ∧ w' = W := fun W h => at_any a ga cap st W (by omega) h.names
  have HC := hide hcr
  generalize fInt a st = res at HC hf
  have h66 : ¬ ((6 : Int) ≤ (st.length : Int)) := by omega
  have hfn : ¬ (0 ≤ res) := by omega
  have hDw : D < w.heap.size := hr.ltD
  have hvw : ∀ k, (Value.slice ga st.length cap).ownBlock = some k → k < w.heap.size := fun k e => (hr.row.lt k e).2
  have HVW := hide hvw
  have hND : N ≤ D := hr.new
  unfold doW at hcon
  clear hin hr hc hi hcr hvw
  go_enter Tryz.func32, Tryz.ntmps32
  go_wp2_with fail
  refine hcon.mono ?_
  rintro e w1 ⟨rfl, b1⟩
  have h1 := (unhide HI).later b1
  have HH := hide h1
  have k0 := h1.k0
  have k1 := h1.k1
  have hs1 := (unhide HS).below h1.below
  have cD := hs1.can.1
  have HS1 := hide hs1
  clear h1 b1 hs1
  go_wp2_with fail
  go_quiet (first | (go_at_call 61; exact Calls.quiet_of_same ((unhide HC) _ ((unhide HS1).below ⟨rfl, rfl, rfl, Nat.le_refl _, fun _ _ => rfl⟩))))
  obtain ⟨w2, hw2⟩ : ∃ w2, w2 = w1.drewN nq := ⟨_, rfl⟩
  have b2 : Below w1.heap.size w1 w2 := by rw [hw2]; exact ⟨rfl, rfl, rfl, Nat.le_refl _, fun _ _ => rfl⟩
  rw [← hw2]
  have h2 := (unhide HH).later b2
  have HH2 := hide h2
  have hs2 := (unhide HS).below h2.below
  have HS2 := hide hs2
  have j0 := h2.k0
  have j1 := h2.k1
  have cD2 := hs2.can.1
  have cDa := (hs2.can.alloc (Obj.cells #[.string a, .string ⟨#[]⟩] 101)).1
  have HRow : Hid ((w2.alloc (Obj.cells #[.string a, .string ⟨#[]⟩] 101)).drew.ownsRow N 101 2 (.slice ga st.length cap) st.length (st.flatMap dCells)) := (hs2.row.alloc _).drew
  have HLs : Hid (Lies (w2.alloc (Obj.cells #[.string a, .string ⟨#[]⟩] 101)).drew (.slice (some ⟨w2.heap.size, 0, none⟩) 1 1) 1 [.string a, .string ⟨#[]⟩]) := lies_block (alloc_drew_new w2 _) 1 1
  have HNs : Hid (N ≤ (w2.alloc (Obj.cells #[.string a, .string ⟨#[]⟩] 101)).drew.heap.size) := by have := h2.below.size; show N ≤ (w2.alloc _).heap.size; rw [al_size]; omega
  have HCa : Hid (Can (w2.alloc (Obj.cells #[.string a, .string ⟨#[]⟩] 101)).drew D 0 (.slice ga st.length cap)) := (hs2.can.alloc _).drew
  have hnd := hs2.nd
  clear hw2 b2 h2 k0 k1 cD hs2
  go_wp2_with fail
  go_region_law (first | (refine step_app (by rfl) (.tmp 63) (.tmp 67) 79 (by rfl) N 101 i0 _ 2 32 Tryz.underlying79 hi0 hz0 hz1 hz2 rfl (by omega) (.slice ga st.length cap) st.length (st.flatMap dCells) (by simp [Act.eval, Act.put]) (unhide HRow) (.slice (some ⟨w2.heap.size, 0, none⟩) 1 1) 1 [.string a, .string ⟨#[]⟩] (by simp [Act.eval, Act.put]) (unhide HLs) (by rfl) (by simp [Value.oneCell']) (by unfold maxLen; omega) (by omega) (unhide HNs) ?_; intro ad c w4 hown4 hgrow4 hat4; have hD4 := (unhide HCa).grown hgrow4 hnd; have hD40 := hD4.1; have hD41 := hD4.2; have HO4 := hide hown4; have HG4 := hide hgrow4; have HA4 := hide hat4; clear hown4 hgrow4 hat4 hD4) | fail)
  all_goals
    have bA : Below w2.heap.size w2 (w2.alloc (Obj.cells #[.string a, .string ⟨#[]⟩] 101)).drew := below_alloc_drew w2 _
    have hk4 : Kept (Value.slice ga st.length cap).ownBlock.toList w2 w4 := by
      have hg := unhide HG4
      refine ⟨hg.os.trans bA.os, hg.tape.trans bA.tape, hg.output.trans bA.output, Nat.le_trans bA.size hg.size, fun k hlt hn => ?_⟩
      rw [hg.block k (Nat.lt_of_lt_of_le hlt bA.size) (fun e => hn (by rw [← e]; simp)), bA.block k hlt]
    obtain ⟨w5, hw5⟩ : ∃ w5, w5 = w4.setCell ⟨D, 0, none⟩ (.slice ad (st.length + 1) c) := ⟨_, rfl⟩
    rw [← hw5]
    have hT : DTurned w2 N D (.slice ga st.length cap) w5 (st ++ [⟨a, ByteArray.empty⟩]) := by
      rw [hw5]
      refine (unhide HS2).lay hk4 ?_ (fun k e => ?_)
      · have e1 : (st ++ [(⟨a, ByteArray.empty⟩ : AFile)]).length = st.length + 1 := by simp
        have e2 : (st ++ [(⟨a, ByteArray.empty⟩ : AFile)]).flatMap dCells = st.flatMap dCells ++ [.string a, .string ⟨#[]⟩] := by simp [dCells]; rfl
        rw [e1, e2]
        exact unhide HO4
      · rcases unhide HA4 with h | h
        · exact .inl (by rw [← h]; exact e)
        · right
          rw [h] at e
          have : (w2.alloc (Obj.cells #[.string a, .string ⟨#[]⟩] 101)).drew.heap.size = k := by simpa using e
          rw [← this]
          exact bA.size
    have hsz2 := (unhide HH2).size
    have hne : w.heap.size + 1 ≠ D := by omega
    have hne2 : (Value.slice ga st.length cap).ownBlock ≠ some (w.heap.size + 1) := fun e => by have := unhide HVW _ e; omega
    have c0 := hT.can (unhide HH2).a0 hne hne2
    have c1 := hT.can (unhide HH2).a1 hne hne2
    have e1 := c0.1
    have e2 := c0.2
    have e3 := c1.1
    have e4 := c1.2
    have q0 := ans0 (.int .i64 0) (.string ⟨#[]⟩) e1
    have q1 := ans1 (.int .i64 0) (.string ⟨#[]⟩) e3
    have HT := hide hT
    clear hw5 hT c0 c1 hk4 bA hne hne2 hnd hD40 hD41 cDa cD2
    go_wp2
    refine bodyPost_ret (v := .agg #[.int .i64 0, .string ⟨#[]⟩]) (by simp [results, Tryz.results32, go_sem, q0, q1]) rfl ⟨rfl, ?_⟩
    exact DTurned.store (unhide HS) (unhide HH2).below (unhide HT) (Nat.le_succ _) (unhide HH2).size (kept_two _ _ _ _)

end Go.Proofs.YtmbhbnoifimeaabGreat

namespace Go.Proofs.YtmbhbnoifimeaabGreat
open Go.RowKit
set_option linter.unusedSimpArgs false
set_option linter.unusedVariables false

theorem dflat_take (st : List AFile) (q : Nat) : (st.take q).flatMap dCells = (st.flatMap dCells).take (q * 2) := by
  induction st generalizing q with
  | nil => simp
  | cons x xs ih =>
    cases q with
    | zero => simp
    | succ q => rw [List.take_succ_cons, List.flatMap_cons, List.flatMap_cons, ih, show (q + 1) * 2 = q * 2 + 1 + 1 by omega]; simp [dCells]
theorem dflat_drop (st : List AFile) (q : Nat) : (st.drop q).flatMap dCells = (st.flatMap dCells).drop (q * 2) := by
  induction st generalizing q with
  | nil => simp
  | cons x xs ih =>
    cases q with
    | zero => simp
    | succ q => rw [List.drop_succ_cons, List.flatMap_cons, ih, show (q + 1) * 2 = q * 2 + 1 + 1 by omega]; simp [dCells]

theorem lies_drow {w : World} {base g n cap : Nat} {st : List AFile} (ho : w.ownsRow base 101 2 (.slice (some ⟨g, 0, none⟩) n cap) n (st.flatMap dCells)) (hn : st.length = n) (q p : Nat) (hq : q ≤ n) (W : World) (hW : W.heap[g]? = w.heap[g]?) :
    Lies W (.slice (some ⟨g, 0, none⟩) q cap) q ((st.take q).flatMap dCells) ∧ Lies W (.slice (if cap = p then some ⟨g, 0, none⟩ else some ⟨g, p * 2, none⟩) (n - p) (cap - p)) (n - p) ((st.drop p).flatMap dCells) := by
  have hc := ho.cells (g := g) rfl
  have e : ∀ i, (⟨g, 0, none⟩ : Addr).add i = ⟨g, i, none⟩ := fun i => by unfold Addr.add; split <;> simp_all
  have e2 : ∀ i, (⟨g, p * 2, none⟩ : Addr).add i = ⟨g, p * 2 + i, none⟩ := fun i => by unfold Addr.add; split <;> simp_all
  have hW' : ∀ i, W.cell? ⟨g, i, none⟩ = w.cell? ⟨g, i, none⟩ := fun i => World.cell?_of_block (a := ⟨g, i, none⟩) hW
  refine ⟨.inr ⟨_, _, rfl, fun j u hu => ?_⟩, ?_⟩
  · rw [e, hW']
    rw [dflat_take, List.getElem?_take] at hu
    split at hu
    · have := hc j u hu
      rwa [e] at this
    · cases hu
  · by_cases h : cap = p
    · rw [if_pos h]
      refine .inr ⟨_, _, rfl, fun j u hu => ?_⟩
      exfalso
      have hnc : n ≤ cap := by
        rcases ho.2 with ⟨he, _⟩ | ⟨g', cap', cur, he, _, _, hnc, _⟩
        · cases he
        · obtain ⟨_, rfl⟩ : g = g' ∧ cap = cap' := by simpa using he
          exact hnc
      rw [List.drop_eq_nil_of_le (by omega)] at hu
      cases hu
    · rw [if_neg h]
      refine .inr ⟨_, _, rfl, fun j u hu => ?_⟩
      rw [e2, hW']
      rw [dflat_drop, List.getElem?_drop] at hu
      have := hc (p * 2 + j) u hu
      rwa [e] at this

set_option maxRecDepth 100000 in
set_option maxHeartbeats 2000000 in
theorem dDo_remove (a b t : ByteArray) (N D : Nat) (v : Value) (st : List AFile) (w : World) (hr : DRep w N D v st) (hi : Inv st) (ha : a.size ≤ maxLen) (hb : b.size ≤ maxLen) (ht : t.size ≤ maxLen) (hc : checkI ⟨2, a, b, t⟩ = 0) (hf : 0 ≤ fInt a st) :
    Calls Tryz.prog 32 #[.pointer (some ⟨D, 0, none⟩), .agg #[.int .i64 2, .string a, .string b, .string t]] w
      fun e w' => e = .returned (.agg #[.int .i64 0, .string ⟨#[]⟩]) ∧ DTurned w N D v w' (st.eraseIdx (fIdx a st)) := by
  obtain ⟨i0, hi0, hz0, hz1, hz2⟩ := info_parts info101
  have hcon := CallFault_any 2 a b t (doW w 2 a b t) ha hb ht
  have hin := DoIn.start w 2 a b t
  rw [hc] at hcon
  have HI := hide hin
  have HS := hide hr
  have hl := hi.few
  obtain ⟨ga, cap, rfl⟩ := hr.form
  have hcr : ∀ W : World, DRep W N D (.slice ga st.length cap) st → Calls Tryz.prog 61 #[.slice ga st.length cap, .string a] W fun e w' => e = .returned (.int .i64 (fInt a st)) ∧ w' = W := fun W h => at_any a ga cap st W (by omega) h.names
  have HC := hide hcr
  obtain ⟨hx1, hx2⟩ := fIdx_spec a st hf
  rw [hx2] at HC
  obtain ⟨g, hga, hg0, hg1⟩ := hr.file (fIdx a st) (fileAt st (fIdx a st)) (fileAt_get hx1)
  obtain rfl := hga
  generalize fIdx a st = ix at HC hx1 ⊢
  rw [List.eraseIdx_eq_take_drop_succ]
  have ix0 : (0 : Int) ≤ (ix : Int) := by omega
  have ix1 : (ix : Int) < (st.length : Int) := by omega
  have ixn : ¬ ((ix : Int) < 0) := by omega
  have ix2 : (ix : Int) + 1 ≤ (st.length : Int) := by omega
  have ix3 : (0 : Int) ≤ (ix : Int) + 1 := by omega
  have hDw : D < w.heap.size := hr.ltD
  have hgw : g < w.heap.size := hg0.lt
  have hND : N ≤ D := hr.new
  have hcap : st.length ≤ cap ∧ cap ≤ maxLen := by
    rcases hr.row.2 with ⟨he, _⟩ | ⟨g', cap', cur, he, _, _, hnc, hcm, _⟩
    · cases he
    · obtain ⟨_, rfl⟩ : g = g' ∧ cap = cap' := by simpa using he
      exact ⟨hnc, hcm⟩
  obtain ⟨hcap1, hcap2⟩ := hcap
  unfold maxLen at hcap2
  have ic1 : ix ≤ cap := by omega
  have ic2 : ix + 1 ≤ cap := by omega
  have hwr : IntKind.i64.wrap ((ix : Int) + 1) = (ix : Int) + 1 := by rw [IntKind.wrap_i64]; omega
  have htn : ((ix : Int) + 1).toNat = ix + 1 := by omega
  unfold doW at hcon
  clear hin hr hc hi hcr hx2 hg0 hg1 hf
  go_enter Tryz.func32, Tryz.ntmps32
  go_wp2_with fail
  refine hcon.mono ?_
  rintro e w1 ⟨rfl, b1⟩
  have h1 := (unhide HI).later b1
  have HH := hide h1
  have k0 := h1.k0
  have k1 := h1.k1
  have hs1 := (unhide HS).below h1.below
  have cD := hs1.can.1
  have HS1 := hide hs1
  clear h1 b1 hs1
  go_wp2_with fail
  go_quiet (first | (go_at_call 61; exact Calls.quiet_of_same ((unhide HC) _ ((unhide HS1).below ⟨rfl, rfl, rfl, Nat.le_refl _, fun _ _ => rfl⟩))))
  obtain ⟨w2, hw2⟩ : ∃ w2, w2 = w1.drewN nq := ⟨_, rfl⟩
  have b2 : Below w1.heap.size w1 w2 := by rw [hw2]; exact ⟨rfl, rfl, rfl, Nat.le_refl _, fun _ _ => rfl⟩
  rw [← hw2]
  have h2 := (unhide HH).later b2
  have HH2 := hide h2
  have hs2 := (unhide HS).below h2.below
  have HS2 := hide hs2
  have j0 := h2.k0
  have cD2 := hs2.can.1
  have cD2f := hs2.can.2
  have hD2 : D < w2.heap.size := hs2.ltD
  have hg2 : g < w2.heap.size := (hs2.row.lt g rfl).2
  have hw2z := h2.below.size
  obtain ⟨A, hA, HL2⟩ : ∃ A : Addr, (if cap = ix + 1 then some (⟨g, 0, none⟩ : Addr) else some ⟨g, (ix + 1) * 2, none⟩) = some A ∧ Hid (∀ W, Below w2.heap.size w2 W → Lies W (.slice (some A) (st.length - (ix + 1)) (cap - (ix + 1))) (st.length - (ix + 1)) ((st.drop (ix + 1)).flatMap dCells)) := by
    by_cases h : cap = ix + 1
    · exact ⟨⟨g, 0, none⟩, by simp [h], fun W hW => by have := (lies_drow hs2.row rfl ix (ix + 1) (by omega) W (hW.block g hg2)).2; rwa [if_pos h] at this⟩
    · exact ⟨⟨g, (ix + 1) * 2, none⟩, by simp [h], fun W hW => by have := (lies_drow hs2.row rfl ix (ix + 1) (by omega) W (hW.block g hg2)).2; rwa [if_neg h] at this⟩
  have HL1 : Hid (∀ W, Below w2.heap.size w2 W → Lies W (.slice (some ⟨g, 0, none⟩) ix cap) ix ((st.take ix).flatMap dCells)) := fun W hW => (lies_drow hs2.row rfl ix (ix + 1) (by omega) W (hW.block g hg2)).1
  have HE1 : Hid (((st.take ix).flatMap dCells).length = ix * 2) := by rw [Hid, dflat_len, List.length_take, Nat.min_eq_left (by omega)]
  have HE2 : Hid (∀ u ∈ (st.take ix).flatMap dCells, u.oneCell' = true) := dflat_one _
  have HE3 : Hid (((st.drop (ix + 1)).flatMap dCells).length = (st.length - (ix + 1)) * 2) := by rw [Hid, dflat_len, List.length_drop]
  have HE4 : Hid (∀ u ∈ (st.drop (ix + 1)).flatMap dCells, u.oneCell' = true) := dflat_one _
  clear hw2 b2 h2 k0 k1 cD hs2
  go_wp2_with fail
  go_region_law (first | (refine step_new (wx := w2) (by rfl) (.tmp 135) (.tmp 140) 79 (by rfl) (below_drew w2) 101 i0 _ 2 32 Tryz.underlying79 hi0 hz0 hz1 hz2 rfl (by omega) (.slice none 0 0) 0 [] (by simp [Act.eval, Act.put]) (World.ownsRow_nil _ _ _ _) (.slice (some ⟨g, 0, none⟩) ix cap) ix ((st.take ix).flatMap dCells) (by simp [Act.eval, Act.put]) ((unhide HL1) _ (below_drew w2)) (unhide HE1) (unhide HE2) (by unfold maxLen; omega) (by omega) ?_; intro aA cA wA hownA bA hgrowA; rw [Nat.zero_add, List.nil_append] at hownA; rw [Nat.zero_add]; have hcA := (bA.cell (p := ⟨D, 0, none⟩) hD2).trans cD2; clear hgrowA) | (refine step_new (wx := w2) (by rfl) (.tmp 141) (.tmp 147) 79 (by rfl) bA 101 i0 _ 2 32 Tryz.underlying79 hi0 hz0 hz1 hz2 rfl (by omega) (.slice aA ix cA) ix ((st.take ix).flatMap dCells) (by simp [Act.eval, Act.put]) hownA (.slice (some A) (st.length - (ix + 1)) (cap - (ix + 1))) (st.length - (ix + 1)) ((st.drop (ix + 1)).flatMap dCells) (by simp [Act.eval, Act.put]) ((unhide HL2) _ bA) (unhide HE3) (unhide HE4) (by unfold maxLen; omega) (by omega) ?_; intro aB cB wB hownB bB hgrowB; have hcB := (bB.cell (p := ⟨D, 0, none⟩) hD2).trans cD2; have hcBf := (bB.frozen (p := ⟨D, 0, none⟩) hD2).trans cD2f; clear hgrowB) | fail)
  all_goals
    obtain ⟨w5, hw5⟩ : ∃ w5, w5 = wB.setCell ⟨D, 0, none⟩ (.slice aB (ix + (st.length - (ix + 1))) cB) := ⟨_, rfl⟩
    rw [← hw5]
    have hT : DTurned w2 N D (.slice (some ⟨g, 0, none⟩) st.length cap) w5 (st.take ix ++ st.drop (ix + 1)) := by
      rw [hw5]
      refine (unhide HS2).lay (Kept.of_below bB) ?_ (fun k e => .inr (hownB.lt k e).1)
      have e1 : (st.take ix ++ st.drop (ix + 1)).length = ix + (st.length - (ix + 1)) := by rw [List.length_append, List.length_take, List.length_drop, Nat.min_eq_left (by omega)]
      rw [e1, List.flatMap_append]
      exact ownsRow_base hownB (by omega)
    have hsz2 := (unhide HH2).size
    have hne : w.heap.size + 1 ≠ D := by omega
    have hne2 : (Value.slice (some ⟨g, 0, none⟩) st.length cap).ownBlock ≠ some (w.heap.size + 1) := by simp [Value.ownBlock]; omega
    have c0 := hT.can (unhide HH2).a0 hne hne2
    have c1 := hT.can (unhide HH2).a1 hne hne2
    have e1 := c0.1
    have e2 := c0.2
    have e3 := c1.1
    have e4 := c1.2
    have q0 := ans0 (.int .i64 0) (.string ⟨#[]⟩) e1
    have q1 := ans1 (.int .i64 0) (.string ⟨#[]⟩) e3
    have HT := hide hT
    clear hw5 hT c0 c1 hne hne2 cD2 cD2f hownA hownB bA bB hcA hcB hcBf
    go_wp2
    refine bodyPost_ret (v := .agg #[.int .i64 0, .string ⟨#[]⟩]) (by simp [results, Tryz.results32, go_sem, q0, q1]) rfl ⟨rfl, ?_⟩
    exact DTurned.store (unhide HS) (unhide HH2).below (unhide HT) (Nat.le_succ _) (unhide HH2).size (kept_two _ _ _ _)

end Go.Proofs.YtmbhbnoifimeaabGreat

namespace Go.Proofs.YtmbhbnoifimeaabGreat
open Go.RowKit
set_option linter.unusedSimpArgs false
set_option linter.unusedVariables false

theorem dDo_any (c : ACall) (N D : Nat) (v : Value) (st : List AFile) (w : World) (hr : DRep w N D v st) (hi : Inv st) (ha : c.name.size ≤ maxLen) (hb : c.dst.size ≤ maxLen) (ht : c.text.size ≤ maxLen) :
    Calls Tryz.prog 32 #[.pointer (some ⟨D, 0, none⟩), .agg #[.int .i64 c.kind, .string c.name, .string c.dst, .string c.text]] w
      fun e w' => e = .returned (.agg #[.int .i64 (aDo st c).code, .string (aDo st c).text]) ∧ DTurned w N D v w' (aDo st c).st := by
  obtain ⟨k, a, b, t⟩ := c
  by_cases hc : checkI ⟨k, a, b, t⟩ ≠ 0
  · have e : aDo st ⟨k, a, b, t⟩ = ⟨checkI ⟨k, a, b, t⟩, ByteArray.empty, st⟩ := by rw [aDo, if_pos hc]
    rw [e]
    exact dDo_code k a b t N D v st w hr ha hb ht hc
  have hc0 : checkI ⟨k, a, b, t⟩ = 0 := by simpa using hc
  obtain ⟨z1, z2, z3, z4, z5⟩ := check_zero hc0
  dsimp only at z1 z2 z5 ha hb ht
  by_cases h1 : k = 1
  · subst h1
    have e : aDo st ⟨1, a, b, t⟩ = ⟨(aCreate st a).1, ByteArray.empty, (aCreate st a).2⟩ := by rw [aDo, if_neg hc, if_pos rfl]
    rw [e]
    by_cases hf : 0 ≤ fInt a st
    · have e2 : aCreate st a = (5, st) := by simp [aCreate, hf]
      rw [e2]
      exact dDo_there a b t N D v st w hr hi ha hb ht hc0 hf
    · by_cases h6 : 6 ≤ st.length
      · have e2 : aCreate st a = (7, st) := by simp [aCreate, hf, h6]
        rw [e2]
        exact dDo_full a b t N D v st w hr hi ha hb ht hc0 (by omega) h6
      · have e2 : aCreate st a = (0, st ++ [⟨a, ByteArray.empty⟩]) := by simp [aCreate, hf, h6]
        rw [e2]
        exact dDo_make a b t N D v st w hr hi ha hb ht hc0 (by omega) (by omega)
  by_cases h6 : k = 6
  · subst h6
    have e : aDo st ⟨6, a, b, t⟩ = ⟨0, joinNames st, st⟩ := by rw [aDo, if_neg hc, if_neg (by simp), if_pos rfl]
    rw [e]
    exact dDo_list a b t N D v st w hr hi ha hb ht hc0
  by_cases hf : fInt a st < 0
  · have e : aDo st ⟨k, a, b, t⟩ = ⟨6, ByteArray.empty, st⟩ := by rw [aDo, if_neg hc, if_neg h1, if_neg h6, if_pos hf]
    rw [e]
    exact dDo_none k a b t N D v st w hr hi ha hb ht hc0 h1 h6 hf
  have hf0 : 0 ≤ fInt a st := by omega
  by_cases h2 : k = 2
  · subst h2
    have e : aDo st ⟨2, a, b, t⟩ = ⟨0, ByteArray.empty, st.eraseIdx (fIdx a st)⟩ := by rw [aDo, if_neg hc, if_neg h1, if_neg h6, if_neg hf, if_pos rfl]
    rw [e]
    exact dDo_remove a b t N D v st w hr hi ha hb ht hc0 hf0
  by_cases h3 : k = 3
  · subst h3
    have e : aDo st ⟨3, a, b, t⟩ = ⟨(aRename st (fIdx a st) b).1, ByteArray.empty, (aRename st (fIdx a st) b).2⟩ := by rw [aDo, if_neg hc, if_neg h1, if_neg h6, if_neg hf, if_neg h2, if_pos rfl]
    rw [e]
    by_cases hg : 0 ≤ fInt b st
    · have e2 : aRename st (fIdx a st) b = (5, st) := by rw [aRename, if_pos hg]
      rw [e2]
      exact dDo_rename_there a b t N D v st w hr hi ha hb ht hc0 hf0 hg
    · have e2 : aRename st (fIdx a st) b = (0, st.set (fIdx a st) ⟨b, (fileAt st (fIdx a st)).text⟩) := by rw [aRename, if_neg hg]
      rw [e2]
      exact dDo_rename_new a b t N D v st w hr hi ha hb ht hc0 hf0 (by omega)
  by_cases h4 : k = 4
  · subst h4
    have e : aDo st ⟨4, a, b, t⟩ = ⟨(aPut st (fIdx a st) t).1, ByteArray.empty, (aPut st (fIdx a st) t).2⟩ := by rw [aDo, if_neg hc, if_neg h1, if_neg h6, if_neg hf, if_neg h2, if_neg h3, if_pos rfl]
    rw [e]
    have hts : t.size ≤ 1000 := by
      have := z5 rfl
      simp only [textB, withinB, Bool.and_eq_true, decide_eq_true_eq] at this
      omega
    by_cases hg : 16 < (fileAt st (fIdx a st)).text.size + t.size
    · have e2 : aPut st (fIdx a st) t = (7, st) := by rw [aPut, if_pos hg]
      rw [e2]
      exact dDo_put_full a b t N D v st w hr hi ha hb ht hc0 hf0 hts hg
    · have e2 : aPut st (fIdx a st) t = (0, st.set (fIdx a st) ⟨(fileAt st (fIdx a st)).name, (fileAt st (fIdx a st)).text ++ t⟩) := by rw [aPut, if_neg hg]
      rw [e2]
      exact dDo_put_some a b t N D v st w hr hi ha hb ht hc0 hf0 hts (by omega)
  have h5 : k = 5 := by omega
  subst h5
  have e : aDo st ⟨5, a, b, t⟩ = ⟨0, (fileAt st (fIdx a st)).text, st⟩ := by rw [aDo, if_neg hc, if_neg h1, if_neg h6, if_neg hf, if_neg h2, if_neg h3, if_neg h4]
  rw [e]
  exact dDo_read a b t N D v st w hr hi ha hb ht hc0 hf0

end Go.Proofs.YtmbhbnoifimeaabGreat

namespace Go.Proofs.YtmbhbnoifimeaabGreat
open Go.RowKit
set_option linter.unusedSimpArgs false
set_option linter.unusedVariables false

/-- The texts of records are no longer than may be. -/
def Small (L : List ARec) : Prop := ∀ r, r ∈ L → r.call.name.size ≤ maxLen ∧ r.call.dst.size ≤ maxLen ∧ r.call.text.size ≤ maxLen
theorem Good.small {L : List ARec} (h : Good L) : Small L := fun r hr => by
  have := rec_ok (h r hr)
  have h1 := this.name; have h2 := this.dst; have h3 := this.text
  unfold maxLen
  exact ⟨by omega, by omega, by omega⟩

set_option maxRecDepth 100000 in
set_option maxHeartbeats 4000000 in
theorem Behind_any (a : Option Addr) (n cap : Nat) (L : List ARec) (w : World) (hL : RecsAt w a n L) (hs : Small L) (hn : n ≤ 1000000) :
    Calls Tryz.prog 24 #[.slice a n cap] w fun e w' => ∃ D v, e = .returned (.pointer (some ⟨D, 0, none⟩)) ∧ DRep w' w.heap.size D v (behind L) ∧ Below w.heap.size w w' := by
  have HL := hide hL
  have HS := hide hs
  clear hL hs
  have HD0 : Hid (DRep ((w.alloc (.cells #[] 101)).alloc (.cells #[.slice (some ⟨w.heap.size, 0, none⟩) 0 0] 79)) w.heap.size (w.heap.size + 1) (.slice (some ⟨w.heap.size, 0, none⟩) 0 0) []) := by
    refine ⟨by omega, ?_, ?_, by simp [Value.ownBlock]⟩
    · have h := heap_alloc_new (w.alloc (.cells #[] 101)) (.cells #[.slice (some ⟨w.heap.size, 0, none⟩) 0 0] 79)
      rw [show (w.alloc (.cells #[] 101)).heap.size = w.heap.size + 1 by simp] at h
      exact h
    · exact (World.ownsRow_lit w #[] (base := w.heap.size) (e := 101) (size := 2) 0 (Nat.le_refl _) (by unfold maxLen; omega) rfl).alloc _
  have HB0 := hide (((Below.refl w.heap.size w).alloc (Nat.le_refl _) (.cells #[] 101)).alloc (by simp) (.cells #[.slice (some ⟨w.heap.size, 0, none⟩) 0 0] 79))
  go_enter Tryz.func24, Tryz.ntmps24
  go_wp2
  go_loopw [4] (fun i wr => ∃ (k : Nat) (v : Value), k ≤ n ∧ i = .int .i64 (k : Int) ∧ Hid (DRep wr w.heap.size (w.heap.size + 1) v (behind (L.take k))) ∧ Hid (Below w.heap.size w wr)) (fun i _ => n - (intOf i).toNat)
  case atStart => exact ⟨0, _, Nat.zero_le _, rfl, unhide HD0, unhide HB0⟩
  case round =>
    obtain ⟨k, v, hk, rfl, HD, HB⟩ := hrel
    by_cases hlt : (k : Int) < (n : Int)
    · obtain ⟨r, hr⟩ : ∃ r, L[k]? = some r := ⟨_, List.getElem?_eq_getElem (by rw [(unhide HL).1]; omega)⟩
      obtain ⟨b, off, rfl, hx⟩ := ((unhide HL).below (unhide HB)).2 (by omega)
      obtain ⟨x0, x1, x2, x3, x4, x5, x6, x7⟩ := hx k r hr
      have hsz := (unhide HS) r (List.mem_of_getElem? hr)
      have HDo := hide (dDo_any r.call w.heap.size (w.heap.size + 1) v (behind (L.take k)) wr (unhide HD) (behind_inv _) hsz.1 hsz.2.1 hsz.2.2)
      have hst : (aDo (behind (L.take k)) r.call).st = behind (L.take (k + 1)) := by rw [List.take_add_one, hr]; exact (behind_snoc _ _).symm
      rw [hst] at HDo
      generalize aDo (behind (L.take k)) r.call = ad at HDo
      clear hx hr hst hsz
      obtain ⟨rc, rn, ⟨rk, ra, rb, rt⟩, rd, ru⟩ := r
      dsimp only at *
      go_wp2_with fail
      refine (unhide HDo).mono ?_
      rintro e w2 ⟨rfl, v2, hr2, hk2, _⟩
      have HD2 := hide hr2
      have HB2 := hide ((unhide HB).trans (hk2.below (unhide HB).size (fun j hj => by
        rcases List.mem_cons.1 hj with rfl | hj
        · omega
        · exact ((unhide HD).row.lt j (by simpa using hj)).1)))
      clear hr2 hk2
      go_wp2
      go_roundw
      case rel => exact ⟨k + 1, v2, by omega, by go_num, unhide HD2, unhide HB2⟩
      case measure => simp [intOf]; omega
    · obtain rfl : k = n := by omega
      have hfull : L.take k = L := List.take_of_length_le (by rw [(unhide HL).1]; omega)
      rw [hfull] at HD
      clear hfull
      go_wp2
      go_ret
      exact ⟨_, rfl, ⟨v, unhide HD⟩, unhide HB⟩

end Go.Proofs.YtmbhbnoifimeaabGreat

namespace Go.Proofs.YtmbhbnoifimeaabGreat
open Go.RowKit
set_option linter.unusedSimpArgs false
set_option linter.unusedVariables false

/-- Two cells written, one behind the other. -/
def set2 (w : World) (b : Nat) (y0 y1 : Value) : World := (w.setCell ⟨b, 0, none⟩ y0).setCell ⟨b, 1, none⟩ y1
theorem set2_blk {w : World} {b : Nat} {x0 x1 : Value} {e : TypeId} (h : w.heap[b]? = some (.cells #[x0, x1] e (0, 0))) (y0 y1 : Value) : (set2 w b y0 y1).heap[b]? = some (.cells #[y0, y1] e (0, 0)) := by
  have h0 := heap_setCell_same h (o := 0) y0
  simp only [List.setIfInBounds_toArray, List.set_cons_zero, List.set_cons_succ] at h0
  have h1 := heap_setCell_same h0 (o := 1) y1
  simp only [List.setIfInBounds_toArray, List.set_cons_zero, List.set_cons_succ] at h1
  exact h1
theorem set2_kept (w : World) (b : Nat) (y0 y1 : Value) : Kept [b] w (set2 w b y0 y1) := by
  have k : ∀ (w : World) (o : Nat) (y : Value), Kept [b] w (w.setCell ⟨b, o, none⟩ y) := fun w o y => kept_setCell [b] w b o y (by simp)
  exact (k _ _ _).trans (k _ _ _) (fun x hx => .inl hx)
theorem two {w : World} {b : Nat} {x0 x1 : Value} {e : TypeId} (h : w.heap[b]? = some (.cells #[x0, x1] e (0, 0))) :
    (w.cell? ⟨b, 0, none⟩ = some x0 ∧ w.cell? ⟨b, 1, none⟩ = some x1) ∧ ∀ j, w.frozen? ⟨b, j, none⟩ = false := by
  refine ⟨⟨?_, ?_⟩, fun j => frozen_of_row w b j _ _ h⟩ <;> rw [cell_of_row w b _ _ _ _ h] <;> rfl
theorem four {w : World} {b : Nat} {x0 x1 x2 x3 : Value} {e : TypeId} (h : w.heap[b]? = some (.cells #[x0, x1, x2, x3] e (0, 0))) :
    (w.cell? ⟨b, 0, none⟩ = some x0 ∧ w.cell? ⟨b, 1, none⟩ = some x1 ∧ w.cell? ⟨b, 2, none⟩ = some x2 ∧ w.cell? ⟨b, 3, none⟩ = some x3) ∧ ∀ j, w.frozen? ⟨b, j, none⟩ = false := by
  refine ⟨⟨?_, ?_, ?_, ?_⟩, fun j => frozen_of_row w b j _ _ h⟩ <;> rw [cell_of_row w b _ _ _ _ h] <;> rfl

theorem Good.few {L : List ARec} (h : Good L) : L.length * 5 ≤ (logB L).length := by
  induction L with
  | nil => simp
  | cons r L ih =>
    have h1 := (encL_le (h r (by simp))).1
    have h2 := ih (fun q hq => h q (by simp [hq]))
    unfold logB at h2 ⊢
    rw [List.flatMap_cons, List.length_append, List.length_cons]
    omega

end Go.Proofs.YtmbhbnoifimeaabGreat

namespace Go.Proofs.YtmbhbnoifimeaabGreat
open Go.RowKit
set_option linter.unusedSimpArgs false
set_option linter.unusedVariables false

/-- A store in the midst of a call: its last records are those of L, its files are behind L'. -/
structure SMid (N : Nat) (w : World) (S B : Nat) (own : List Nat) (lv : Value) (L L' : List ARec) : Prop where
  blk : ∃ C : Array Value, w.heap[S]? = some (.cells C 64 (0, 0)) ∧ C.toList = sCells B lv (lastR L 0) (lastR L 1) (lastR L 2)
  files : OObj N w B own (behind L')
  sB : S ∉ own
theorem SMid.lt {N : Nat} {w : World} {S B : Nat} {own : List Nat} {lv : Value} {L L' : List ARec} (h : SMid N w S B own lv L L') : S < w.heap.size := by
  obtain ⟨C, hC, _⟩ := h.blk
  exact (Array.getElem?_eq_some_iff.1 hC).1
theorem SMid.at {N : Nat} {w : World} {S B : Nat} {own : List Nat} {lv : Value} {L L' : List ARec} (h : SMid N w S B own lv L L') (j : Nat) : w.cell? ⟨S, j, none⟩ = (sCells B lv (lastR L 0) (lastR L 1) (lastR L 2))[j]? ∧ w.frozen? ⟨S, j, none⟩ = false := by
  obtain ⟨C, hC, hl⟩ := h.blk
  refine ⟨?_, frozen_of_row w S j _ _ hC⟩
  rw [cell_of_row w S _ _ _ _ hC, ← hl, Array.getElem?_toList]
theorem SMid.kept {N : Nat} {w w' : World} {S B : Nat} {own o : List Nat} {lv : Value} {L L' : List ARec} (h : SMid N w S B own lv L L') (hk : Kept o w w') (h1 : S ∉ o) (h2 : ∀ k, k ∈ own → k ∉ o) : SMid N w' S B own lv L L' := by
  obtain ⟨C, hC, hl⟩ := h.blk
  exact ⟨⟨C, (hk.block S h.lt h1).trans hC, hl⟩, ⟨h.files.rep.keptS hk h2, h.files.inv, h.files.own⟩, h.sB⟩
theorem SMid.below {N : Nat} {w w' : World} {S B : Nat} {own : List Nat} {lv : Value} {L L' : List ARec} (h : SMid N w S B own lv L L') (hb : Below w.heap.size w w') : SMid N w' S B own lv L L' := h.kept (o := []) (Kept.of_below hb) (by simp) (by simp)
/-- The files have done it. -/
theorem SRep.mid {N : Nat} {w w1 : World} {S B : Nat} {own own1 : List Nat} {lv : Value} {L : List ARec} {r : ARec} (h : SRep N w S B own lv L) (ho : OObj N w1 B own1 (aDo (behind L) r.call).st) (hn : Next N w w1 own own1) : SMid N w1 S B own1 lv L (L ++ [r]) := by
  obtain ⟨C, hC, hl⟩ := h.blk
  obtain ⟨hs1, hs2⟩ := hn.keep S h.lt h.sB
  exact ⟨⟨C, hs2.trans hC, hl⟩, by rw [behind_snoc]; exact ho, hs1⟩
theorem SMid.log {N : Nat} {w : World} {S B : Nat} {own : List Nat} {lv : Value} {L L' : List ARec} (h : SMid N w S B own lv L L') (lv' : Value) : SMid N (w.setCell ⟨S, 1, none⟩ lv') S B own lv' L L' := by
  obtain ⟨C, hC, hl⟩ := h.blk
  have hs := heap_setCell_same hC (o := 1) lv'
  have hk := kept_setCell [S] w S 1 lv' (by simp)
  refine ⟨⟨_, hs, by rw [Array.toList_setIfInBounds, hl]; rfl⟩, ⟨h.files.rep.keptS hk (fun k hk1 hm => ?_), h.files.inv, h.files.own⟩, h.sB⟩
  rw [List.mem_singleton.1 hm] at hk1; exact h.sB hk1
theorem SMid.last {N : Nat} {w : World} {S B : Nat} {own : List Nat} {lv : Value} {L : List ARec} {r : ARec} {c : Nat} (h : SMid N w S B own lv L (L ++ [r])) (hN : N ≤ S) (hc : c < 3) (hr : r.client = (c : Int)) :
    SCore N (set8o w S (2 + c * 8) (.int .i64 r.client) (.int .i64 r.no) (.int .i64 r.call.kind) (.string r.call.name) (.string r.call.dst) (.string r.call.text) (.int .i64 r.code) (.string r.ans)) S B own lv (L ++ [r]) := by
  obtain ⟨C, hC, hl⟩ := h.blk
  obtain ⟨A, Z, hA, e1, e2⟩ := sCells_set B lv L r c hc hr
  rw [e1] at hl
  obtain ⟨C', h1, h2⟩ := set8o_blk hC A Z _ _ _ _ _ _ _ _ hl hA (.int .i64 r.client) (.int .i64 r.no) (.int .i64 r.call.kind) (.string r.call.name) (.string r.call.dst) (.string r.call.text) (.int .i64 r.code) (.string r.ans)
  have hk := set8o_kept w S (2 + c * 8) (.int .i64 r.client) (.int .i64 r.no) (.int .i64 r.call.kind) (.string r.call.name) (.string r.call.dst) (.string r.call.text) (.int .i64 r.code) (.string r.ans)
  refine ⟨hN, ⟨C', h1, by rw [h2, e2]; rfl⟩, ⟨h.files.rep.keptS hk (fun j hj hm => ?_), h.files.inv, h.files.own⟩, h.sB⟩
  rw [List.mem_singleton.1 hm] at hj; exact h.sB hj

/-- What add answers. -/
def AddRes (N : Nat) (w : World) (S : Nat) (own : List Nat) (lv : Value) (R : CRes) (e : Ending) (w' : World) : Prop :=
  e = .returned (.tuple #[.agg #[.int .i64 R.code, .string R.text], .int .i64 R.err]) ∧ STurned N w S own lv w' R.log
theorem STurned.of_below {N : Nat} {w w' : World} {S B : Nat} {own : List Nat} {lv : Value} {L : List ARec} (h : SRep N w S B own lv L) (hb : Below w.heap.size w w') (hN : N ≤ w.heap.size) : STurned N w S own lv w' L :=
  ⟨B, own, lv, h.below hb, hb.mono hN, fun b h1 h2 => ⟨h2, hb.block b h1⟩⟩

theorem Next.kept {N : Nat} {w w' : World} {own own' : List Nat} (h : Next N w w' own own') : Kept own w w' := ⟨h.below.os, h.below.tape, h.below.output, h.below.size, fun k hk hn => (h.keep k hk hn).2⟩
theorem SRep.kept {N : Nat} {w w' : World} {S B : Nat} {own o : List Nat} {lv : Value} {L : List ARec} (h : SRep N w S B own lv L) (hk : Kept o w w') (hd : ∀ k, k ∈ sown S own lv → k ∉ o) : SRep N w' S B own lv L := by
  obtain ⟨C, hC, hl⟩ := h.blk
  refine ⟨h.new, ⟨C, (hk.block S h.lt (hd S List.mem_cons_self)).trans hC, hl⟩, ⟨h.files.rep.keptS hk (fun k hk1 => hd k (List.mem_cons_of_mem _ (List.mem_append_right _ hk1))), h.files.inv, h.files.own⟩, ?_, h.good, h.sB, h.sL, h.lB⟩
  exact ownsRow_same h.log (fun j hj => hk.block j (h.log.lt j hj).2 (hd j (List.mem_cons_of_mem _ (List.mem_append_left _ (by simpa using hj)))))
theorem STurned.mk' {N : Nat} {w w' : World} {S B B' : Nat} {own own' : List Nat} {lv lv' : Value} {L L' : List ARec} (h0 : SRep N w S B own lv L) (hr : SRep N w' S B' own' lv' L') (hk : Kept (sown S own lv) w w') (hN : N ≤ w.heap.size) (hn : ∀ k, k ∈ sown S own' lv' → k ∈ sown S own lv ∨ w.heap.size ≤ k) : STurned N w S own lv w' L' :=
  ⟨B', own', lv', hr, hk.below hN (fun k h => (sown_ge h0 k h).1), fun b h1 h2 => ⟨fun hm => by
    rcases hn b hm with h3 | h3
    · exact h2 h3
    · omega, hk.block b h1 h2⟩⟩
theorem grown_kept {w w' : World} {o : Option Nat} (h : w.grownBy w' o) : Kept o.toList w w' := ⟨h.os, h.tape, h.output, h.size, fun k hk hn => h.block k hk (fun e => hn (by rw [← e]; simp))⟩

set_option maxRecDepth 100000 in
set_option maxHeartbeats 8000000 in
theorem add_any {N : Nat} {w : World} {S B : Nat} {own : List Nat} {lv : Value} {L : List ARec} (h : SRep N w S B own lv L) (cc : Nat) (no k : Int) (a b t : ByteArray) (hs : (logB L).length ≤ 100000) (hcc : cc < 3) (hN : N ≤ w.heap.size)
    (ok0 : recI ⟨(cc : Int), no, ⟨k, a, b, t⟩, 0, ⟨#[]⟩⟩ = 0) (ok1 : recI ⟨(cc : Int), no, ⟨k, a, b, t⟩, (aDo (behind L) ⟨k, a, b, t⟩).code, (aDo (behind L) ⟨k, a, b, t⟩).text⟩ = 0) (ok2 : (encL ⟨(cc : Int), no, ⟨k, a, b, t⟩, (aDo (behind L) ⟨k, a, b, t⟩).code, (aDo (behind L) ⟨k, a, b, t⟩).text⟩).length = (encL ⟨(cc : Int), no, ⟨k, a, b, t⟩, 0, ⟨#[]⟩⟩).length) :
    Calls Tryz.prog 128 #[.pointer (some ⟨S, 0, none⟩), .agg #[.int .i64 (cc : Int), .int .i64 no, .int .i64 k, .string a, .string b, .string t, .int .i64 0, .string ⟨#[]⟩]] w (AddRes N w S own lv (if 2000 < (logB L).length + (encL ⟨(cc : Int), no, ⟨k, a, b, t⟩, 0, ⟨#[]⟩⟩).length then ⟨0, ⟨#[]⟩, 7, L⟩
     else ⟨(aDo (behind L) ⟨k, a, b, t⟩).code, (aDo (behind L) ⟨k, a, b, t⟩).text, 0, L ++ [⟨(cc : Int), no, ⟨k, a, b, t⟩, (aDo (behind L) ⟨k, a, b, t⟩).code, (aDo (behind L) ⟨k, a, b, t⟩).text⟩]⟩)) := by
  have hsz := rec_ok ok0
  obtain ⟨nE, hnE⟩ : ∃ n, (encL ⟨(cc : Int), no, ⟨k, a, b, t⟩, 0, ⟨#[]⟩⟩).length = n := ⟨_, rfl⟩
  obtain ⟨T, hT⟩ : ∃ n, (logB L).length = n := ⟨_, rfl⟩
  have hnE255 : nE ≤ 255 := by rw [← hnE]; exact (encL_le ok0).2
  have HE0 : Hid (∀ W, Calls Tryz.prog 137 #[.agg #[.int .i64 (cc : Int), .int .i64 no, .int .i64 k, .string a, .string b, .string t, .int .i64 0, .string ⟨#[]⟩]] W fun e w' => ∃ g cap, e = .returned (.tuple #[.slice (some ⟨g, 0, none⟩) nE cap, .int .i64 0]) ∧ Below W.heap.size W w') := fun W => by
    refine (Encode_brow ⟨(cc : Int), no, ⟨k, a, b, t⟩, 0, ⟨#[]⟩⟩ W nE _ rfl hnE ok0).mono ?_
    rintro e w' ⟨g, cap, rfl, _, hb⟩
    exact ⟨g, cap, rfl, hb⟩
  have HDo : Hid (∀ W, Below w.heap.size w W → Calls Tryz.prog 102 #[.pointer (some ⟨B, 0, none⟩), .agg #[.int .i64 k, .string a, .string b, .string t]] W fun e w' => e = .returned (.agg #[.int .i64 (aDo (behind L) ⟨k, a, b, t⟩).code, .string (aDo (behind L) ⟨k, a, b, t⟩).text]) ∧ ∃ own', OObj N w' B own' (aDo (behind L) ⟨k, a, b, t⟩).st ∧ Next N W w' own own') := fun W hW => Do_obj ⟨k, a, b, t⟩ (h.below hW).files (by have := hsz.name; unfold maxLen; dsimp only at this ⊢; omega) (by have := hsz.dst; unfold maxLen; dsimp only at this ⊢; omega) (by have := hsz.text; unfold maxLen; dsimp only at this ⊢; omega)
  have HMID : Hid (∀ W w' own' d u, Below w.heap.size w W → OObj N w' B own' (aDo (behind L) ⟨k, a, b, t⟩).st → Next N W w' own own' → SMid N w' S B own' lv L (L ++ [⟨(cc : Int), no, ⟨k, a, b, t⟩, d, u⟩])) := fun W w' own' d u hW ho hn => (h.below hW).mid (r := ⟨(cc : Int), no, ⟨k, a, b, t⟩, d, u⟩) ho hn
  rw [hnE, hT]
  generalize aDo (behind L) ⟨k, a, b, t⟩ = ad at *
  obtain ⟨dcode, dtext, dst⟩ := ad
  dsimp only at *
  obtain ⟨E, hE⟩ : ∃ E, encL ⟨(cc : Int), no, ⟨k, a, b, t⟩, dcode, dtext⟩ = E := ⟨_, rfl⟩
  have hEn : E.length = nE := by rw [← hE, ok2, hnE]
  have HE1 : Hid (∀ W, Calls Tryz.prog 137 #[.agg #[.int .i64 (cc : Int), .int .i64 no, .int .i64 k, .string a, .string b, .string t, .int .i64 dcode, .string dtext]] W fun e w' => ∃ g cap, e = .returned (.tuple #[.slice (some ⟨g, 0, none⟩) nE cap, .int .i64 0]) ∧ BRow w' W.heap.size (.slice (some ⟨g, 0, none⟩) nE cap) E ∧ Below W.heap.size W w') := fun W => Encode_brow ⟨(cc : Int), no, ⟨k, a, b, t⟩, dcode, dtext⟩ W nE E hE hEn ok1
  have HDE : Hid (∀ W g cap, ByAt W (some ⟨g, 0, none⟩) E → nE ≤ cap → Calls Tryz.prog 115 #[.slice (some ⟨g, 0, none⟩) nE cap] W fun e w' => e = .returned (.tuple #[.agg #[.int .i64 (cc : Int), .int .i64 no, .int .i64 k, .string a, .string b, .string t, .int .i64 dcode, .string dtext], .int .i64 (nE : Int), .int .i64 0]) ∧ Below W.heap.size W w') := fun W g cap hby hcap => by
    have hd := decR_enc ok1 []
    rw [hE, List.append_nil, hEn] at hd
    refine (Decode_any (some ⟨g, 0, none⟩) nE cap E W hby hEn hcap (by unfold maxLen; omega)).mono ?_
    rw [hd]
    rintro e w' ⟨hb, rfl⟩
    exact ⟨rfl, hb⟩
  have HLG : Hid (logB (L ++ [⟨(cc : Int), no, ⟨k, a, b, t⟩, dcode, dtext⟩]) = logB L ++ E) := by show _ = _; rw [logB_snoc, hE]
  have HGD := hide (h.good.snoc ok1)
  obtain ⟨RR, hRR⟩ : ∃ R : CRes, R = (if 2000 < T + nE then ⟨0, ⟨#[]⟩, 7, L⟩ else ⟨dcode, dtext, 0, L ++ [⟨(cc : Int), no, ⟨k, a, b, t⟩, dcode, dtext⟩]⟩) := ⟨_, rfl⟩
  rw [← hRR]
  have HRR := hide hRR
  obtain ⟨la, lc, rfl⟩ := row_form h.log
  rw [hT] at h HMID ⊢
  have HH := hide h
  have hSl := h.lt
  have HBL : Hid (Below w.heap.size w ((w.alloc (.cells #[.int .i64 (cc : Int), .int .i64 no, .int .i64 k, .string a, .string b, .string t, .int .i64 0, .string ⟨#[]⟩] 61)).alloc (.cells #[.int .i64 0, .string ⟨#[]⟩] 59))) := ((Below.refl w.heap.size w).alloc (Nat.le_refl _) _).alloc (by simp) _
  have hVK : ∀ W, Below (w.heap.size + 2) ((w.alloc (.cells #[.int .i64 (cc : Int), .int .i64 no, .int .i64 k, .string a, .string b, .string t, .int .i64 0, .string ⟨#[]⟩] 61)).alloc (.cells #[.int .i64 0, .string ⟨#[]⟩] 59)) W → W.heap[w.heap.size]? = some (.cells #[.int .i64 (cc : Int), .int .i64 no, .int .i64 k, .string a, .string b, .string t, .int .i64 0, .string ⟨#[]⟩] 61 (0, 0)) ∧ W.heap[w.heap.size + 1]? = some (.cells #[.int .i64 0, .string ⟨#[]⟩] 59 (0, 0)) ∧ Below w.heap.size w W ∧ w.heap.size + 2 ≤ W.heap.size := fun W hW => by
    have c3 : ((w.alloc (.cells #[.int .i64 (cc : Int), .int .i64 no, .int .i64 k, .string a, .string b, .string t, .int .i64 0, .string ⟨#[]⟩] 61)).alloc (.cells #[.int .i64 0, .string ⟨#[]⟩] 59)).heap[w.heap.size + 1]? = some (.cells #[.int .i64 0, .string ⟨#[]⟩] 59 (0, 0)) := by
      have h := heap_alloc_new (w.alloc (.cells #[.int .i64 (cc : Int), .int .i64 no, .int .i64 k, .string a, .string b, .string t, .int .i64 0, .string ⟨#[]⟩] 61)) (.cells #[.int .i64 0, .string ⟨#[]⟩] 59)
      rw [show (w.alloc (.cells #[.int .i64 (cc : Int), .int .i64 no, .int .i64 k, .string a, .string b, .string t, .int .i64 0, .string ⟨#[]⟩] 61)).heap.size = w.heap.size + 1 by simp] at h
      exact h
    refine ⟨(hW.block _ (by omega)).trans ((Below.heap_alloc _ _ _ (by simp)).trans (heap_alloc_new w _)), (hW.block _ (by omega)).trans c3, (unhide HBL).trans (hW.mono (by omega)), ?_⟩
    have := hW.size; simp at this; omega
  have HVK := hide hVK
  have hTn : T ≤ 100000 := by omega
  clear h hVK ok0 ok1 ok2 hsz hRR hE hnE hs
  go_enter Tryz.func128, Tryz.ntmps128
  go_wp2_with fail
  refine ((unhide HE0) _).mono ?_
  rintro e w1 ⟨gx, cx, rfl, b1⟩
  have HB1 : Hid (Below (w.heap.size + 2) ((w.alloc (.cells #[.int .i64 (cc : Int), .int .i64 no, .int .i64 k, .string a, .string b, .string t, .int .i64 0, .string ⟨#[]⟩] 61)).alloc (.cells #[.int .i64 0, .string ⟨#[]⟩] 59)) w1) := b1.mono (by simp)
  clear b1
  obtain ⟨gg1, gg2, gg3, gg4⟩ := (unhide HVK) w1 (unhide HB1)
  have hs1 := (unhide HH).below gg3
  have hlg := hs1.lg
  have hpt := hs1.ptr
  obtain ⟨⟨r0, r1, r2, r3⟩, ⟨r4, r5, r6, r7⟩, fr⟩ := eight gg1
  obtain ⟨⟨z0, z1⟩, fz⟩ := two gg2
  have HA1 := hide gg2
  have HB1w := hide gg3
  have HR1 := hide gg1
  clear gg1 gg2 gg3 hs1
  by_cases hfull : (2000 : Int) < (T : Int) + (nE : Int)
  · have HRF := hide ((unhide HRR).trans (if_pos (by omega)))
    go_wp2
    have hb2 := set2_blk (unhide HA1) (.int .i64 0) (.string ⟨#[]⟩)
    have hk2 := set2_kept w1 (w.heap.size + 1) (.int .i64 0) (.string ⟨#[]⟩)
    unfold set2 at hb2 hk2
    generalize hw8 : ((w1.setCell ⟨w.heap.size + 1, 0, none⟩ (.int .i64 0)).setCell ⟨w.heap.size + 1, 1, none⟩ (.string ⟨#[]⟩)) = w99 at hb2 hk2 ⊢
    obtain ⟨⟨p0, p1⟩, _⟩ := two hb2
    have bel : Below w.heap.size w w99 := (unhide HB1w).trans (hk2.below (unhide HB1w).size (by simp))
    refine bodyPost_ret (v := .tuple #[.agg #[.int .i64 0, .string ⟨#[]⟩], .int .i64 7]) (by simp [results, Tryz.results128, go_sem, p0, p1]) rfl ?_
    rw [HRF.out]
    exact ⟨rfl, STurned.of_below (unhide HH) bel hN⟩
  · have HRF := hide ((unhide HRR).trans (if_neg (by omega)))
    go_wp2_with fail
    go_region_law (first | (go_simp; go_at_call 102; refine ((unhide HDo) _ (unhide HB1w).drew).mono ?_; rintro e w2 ⟨rfl, own2, ho2, hn2⟩; have HM2 := hide ((unhide HMID) _ w2 own2 dcode dtext (unhide HB1w).drew ho2 hn2); have HN2 := hide hn2; have hq1 := (hn2.keep w.heap.size (by show _ < w1.heap.size; omega) (fun hm => by have := (unhide HH).files.rep.lt hm; omega)); have hq2 := (hn2.keep (w.heap.size + 1) (by show _ < w1.heap.size; omega) (fun hm => by have := (unhide HH).files.rep.lt hm; omega)); have HR2 := hide (hq1.2.trans (unhide HR1)); have HA2 := hide (hq2.2.trans (unhide HA1)); have HRN := hide hq1.1; have HAN := hide hq2.1; obtain ⟨⟨s0, s1, s2, s3⟩, ⟨s4, s5, s6, s7⟩, fs⟩ := eight (unhide HR2); clear ho2 hn2 hq1 hq2) | fail)
    all_goals
      have s6' := heap_setCell_same (unhide HR2) (o := 6) (.int .i64 dcode)
      simp only [List.setIfInBounds_toArray, List.set_cons_zero, List.set_cons_succ] at s6'
      have s7' := heap_setCell_same s6' (o := 7) (.string dtext)
      simp only [List.setIfInBounds_toArray, List.set_cons_zero, List.set_cons_succ] at s7'
      have k6 := kept_setCell [w.heap.size] w2 w.heap.size 6 (.int .i64 dcode) (by simp)
      have k7 := kept_setCell [w.heap.size] (w2.setCell ⟨w.heap.size, 6, none⟩ (.int .i64 dcode)) w.heap.size 7 (.string dtext) (by simp)
      have hk3 := k6.trans k7 (fun x hx => .inl hx)
      clear s6' k6 k7 s0 s1 s2 s3 s4 s5 s6 s7 r0 r1 r2 r3 r4 r5 r6 r7
      generalize hw3 : ((w2.setCell ⟨w.heap.size, 6, none⟩ (.int .i64 dcode)).setCell ⟨w.heap.size, 7, none⟩ (.string dtext)) = w3 at s7' hk3 ⊢
      have hm3 := (unhide HM2).kept hk3 (by simp; omega) (fun j hj hm => (unhide HRN) (by rw [List.mem_singleton.1 hm] at hj; exact hj))
      have HR3 := hide s7'
      have HA3 := hide ((hk3.block (w.heap.size + 1) (Array.getElem?_eq_some_iff.1 (unhide HA2)).1 (by simp)).trans (unhide HA2))
      have hlr : ∀ j, (Value.slice la T lc).ownBlock = some j → j < w.heap.size ∧ j ∉ own ∧ j ≠ S := fun j hj => ⟨((unhide HH).log.lt j hj).2, (unhide HH).lB j hj, fun e => (unhide HH).sL (by rw [← e]; exact hj)⟩
      have hl2 : BRow w2 N (.slice la T lc) (logB L) := ownsRow_same ((unhide HH).log.below (unhide HB1w)) (fun j hj => ((unhide HN2).keep j (by show j < w1.heap.size; have := (hlr j hj).1; omega) (hlr j hj).2.1).2)
      have hl3 : BRow w3 N (.slice la T lc) (logB L) := ownsRow_same hl2 (fun j hj => hk3.block j (hl2.lt j hj).2 (by have := (hlr j hj).1; simp; omega))
      have hz3 : w.heap.size + 2 ≤ w3.heap.size := by have := hk3.size; have h2 : w1.heap.size ≤ w2.heap.size := (unhide HN2).size; omega
      have HM3 := hide hm3
      have HL3 := hide hl3
      have HK3 := hide hk3
      obtain ⟨⟨r0, r1, r2, r3⟩, ⟨r4, r5, r6, r7⟩, _⟩ := eight s7'
      clear hm3 hl2 hl3 hk3 s7' hw3
      go_wp2_with fail
      refine ((unhide HE1) _).mono ?_
      rintro e w4 ⟨gy, cy, rfl, oy, b4⟩
      clear r0 r1 r2 r3 r4 r5 r6 r7
      have HM4 := hide ((unhide HM3).below b4)
      have HL4 := hide ((unhide HL3).below b4)
      have HR4 := hide ((b4.block w.heap.size (by omega)).trans (unhide HR3))
      have HA4 := hide ((b4.block (w.heap.size + 1) (by omega)).trans (unhide HA3))
      have HY4 := hide oy
      have HB4 := hide b4
      have hz4 : w.heap.size + 2 ≤ w4.heap.size := by have := b4.size; omega
      have hgy : w3.heap.size ≤ gy := (oy.lt gy rfl).1
      have hcS := ((unhide HM4).at 1)
      have hcS1 : w4.cell? ⟨S, 1, none⟩ = some (.slice la T lc) := hcS.1
      have HCS : Hid (Can w4 S 1 (.slice la T lc)) := ⟨hcS1, hcS.2⟩
      have hnS : (Value.slice la T lc).ownBlock ≠ some S := fun e => (hlr S e).2.2 rfl
      have hN4 : N ≤ w4.heap.size := by omega
      clear oy b4 hcS
      go_wp2_with (at_builtin; refine wpList_bytes' _ rfl _ _ rfl N (.slice la T lc) (logB L) rfl (unhide HL4) (.slice (some ⟨gy, 0, none⟩) nE cy) nE E rfl hEn (unhide HY4).lies (by rw [hT]; omega) hN4 ?_; intro ad5 c5 w5 ho5 hg5 hat5; rw [hT] at ho5 hat5; have hD := (unhide HCS).grown hg5 hnS; have hD0 := hD.1; have hD1 := hD.2; have HO5 := hide ho5; have HG5 := hide hg5; have HAT5 := hide hat5; clear ho5 hg5 hat5 hD)
      obtain ⟨w6, hw6⟩ : ∃ w6, w6 = w5.setCell ⟨S, 1, none⟩ (.slice ad5 (T + nE) c5) := ⟨_, rfl⟩
      rw [← hw6]
      have hkS := kept_setCell [S] w5 S 1 (.slice ad5 (T + nE) c5) (by simp)
      rw [← hw6] at hkS
      have hk5 := grown_kept (unhide HG5)
      have hlo2 : ∀ j, j ∈ own2 → j ∉ (Value.slice la T lc).ownBlock.toList := fun j hj hm => by
        have hj' : (Value.slice la T lc).ownBlock = some j := by simpa using hm
        exact ((unhide HN2).keep j (by show j < w1.heap.size; have := (hlr j hj').1; omega) (hlr j hj').2.1).1 hj
      have hm5 := (unhide HM4).kept hk5 (by simpa using hnS) hlo2
      have hm6 : SMid N w6 S B own2 (.slice ad5 (T + nE) c5) L (L ++ [⟨(cc : Int), no, ⟨k, a, b, t⟩, dcode, dtext⟩]) := by rw [hw6]; exact hm5.log _
      have nlR : ∀ j, w.heap.size ≤ j → j ∉ (Value.slice la T lc).ownBlock.toList := fun j hj hm => by have := (hlr j (by simpa using hm)).1; omega
      have blk6 : ∀ j o, w.heap.size ≤ j → w4.heap[j]? = some o → w6.heap[j]? = some o := fun j o hj hc => by
        have hlt : j < w4.heap.size := (Array.getElem?_eq_some_iff.1 hc).1
        rw [hkS.block j (Nat.lt_of_lt_of_le hlt hk5.size) (by simp; omega), hk5.block j hlt (nlR j hj)]
        exact hc
      have HR6 := hide (blk6 _ _ (Nat.le_refl _) (unhide HR4))
      have HA6 := hide (blk6 _ _ (by omega) (unhide HA4))
      have hgy4 := ((unhide HY4).lt gy rfl).2
      have hy6 : BRow w6 w3.heap.size (.slice (some ⟨gy, 0, none⟩) nE cy) E := ownsRow_same (unhide HY4) (fun j hj => by
        have : j = gy := by simpa [Value.ownBlock] using hj.symm
        subst this
        rw [hkS.block j (Nat.lt_of_lt_of_le hgy4 hk5.size) (by simp; omega), hk5.block j hgy4 (nlR j (by omega))])
      have hnS' : (Value.slice ad5 (T + nE) c5).ownBlock ≠ some S := fun e => by
        rcases unhide HAT5 with h1 | h1
        · exact hnS (h1.symm.trans e)
        · rw [h1] at e; simp at e; omega
      have hl6 : BRow w6 N (.slice ad5 (T + nE) c5) (logB L ++ E) := ownsRow_same (unhide HO5) (fun j hj => hkS.block j ((unhide HO5).lt j hj).2 (fun hm => hnS' (by rw [List.mem_singleton.1 hm] at hj; exact hj)))
      have hin : ∀ x, x = S ∨ (Value.slice la T lc).ownBlock = some x ∨ x ∈ own → x ∈ sown S own (.slice la T lc) := fun x hx => by
        unfold sown
        rcases hx with rfl | hx | hx
        · exact List.mem_cons_self
        · exact List.mem_cons_of_mem _ (List.mem_append_left _ (by simp [hx]))
        · exact List.mem_cons_of_mem _ (List.mem_append_right _ hx)
      have K2 : Kept (sown S own (.slice la T lc)) w w2 := (Kept.of_below (own := sown S own (.slice la T lc)) (unhide HB1w).drew).trans (unhide HN2).kept (fun x hx => .inl (hin x (.inr (.inr hx))))
      have K6 := (((K2.trans (unhide HK3) (fun x hx => .inr (by rw [List.mem_singleton.1 hx]; exact Nat.le_refl _))).trans (Kept.of_below (own := []) (unhide HB4)) (by simp)).trans hk5 (fun x hx => .inl (hin x (.inr (.inl (by simpa using hx)))))).trans hkS (fun x hx => .inl (hin x (.inl (List.mem_singleton.1 hx))))
      have hatN : ∀ j, (Value.slice ad5 (T + nE) c5).ownBlock = some j → (Value.slice la T lc).ownBlock = some j ∨ w4.heap.size = j := fun j hj => by
        rcases unhide HAT5 with h1 | h1
        · exact .inl (h1.symm.trans hj)
        · rw [h1] at hj; exact .inr (by simpa using hj)
      have HM6 := hide hm6
      have HY6 := hide hy6
      have HL6 := hide hl6
      have HK6 := hide K6
      have HATN := hide hatN
      have hcy : nE ≤ cy := by have h1 := row_cap (n := nE) (c := cy) (by have h2 := unhide HY4; unfold BRow at h2; rw [hEn] at h2; exact h2); exact h1
      have hz6 : w.heap.size + 2 ≤ w6.heap.size := by have h1 := hkS.size; have h2 := hk5.size; omega
      have HO2 : Hid (∀ j, j ∈ own2 → j ∈ own ∨ w.heap.size ≤ j) := fun j hj => by
        by_cases h1 : j < w.heap.size
        · left
          by_cases h2 : j ∈ own
          · exact h2
          · exact absurd hj ((unhide HN2).keep j (by show j < w1.heap.size; omega) h2).1
        · right; omega
      have HO2l : Hid (∀ j, j ∈ own2 → j < w2.heap.size) := fun j hj => (unhide HM2).files.rep.lt hj
      have hz24 : w2.heap.size ≤ w4.heap.size := Nat.le_trans (unhide HK3).size (unhide HB4).size
      obtain ⟨⟨r0, r1, r2, r3⟩, ⟨r4, r5, r6, r7⟩, _⟩ := eight (unhide HR6)
      clear hkS hk5 hm5 hm6 blk6 hy6 hl6 hin K2 K6 hatN hD0 hD1 hw6 hcS1 nlR hlo2
      have HDE6 : Hid (Calls Tryz.prog 115 #[.slice (some ⟨gy, 0, none⟩) nE cy] w6.drew fun e w7 => e = .returned (.tuple #[.agg #[.int .i64 (cc : Int), .int .i64 no, .int .i64 k, .string a, .string b, .string t, .int .i64 dcode, .string dtext], .int .i64 (nE : Int), .int .i64 0]) ∧ SMid N w7 S B own2 (.slice ad5 (T + nE) c5) L (L ++ [⟨(cc : Int), no, ⟨k, a, b, t⟩, dcode, dtext⟩]) ∧ w7.heap[w.heap.size]? = some (.cells #[.int .i64 (cc : Int), .int .i64 no, .int .i64 k, .string a, .string b, .string t, .int .i64 dcode, .string dtext] 61 (0, 0)) ∧ Below w6.heap.size w6 w7) := by
        refine ((unhide HDE) w6.drew gy cy (fun _ => ⟨gy, 0, rfl, fun j x hx => (unhide HY6).cells j x hx⟩) hcy).mono ?_
        rintro e w7 ⟨rfl, b7⟩
        have hb : Below w6.heap.size w6 w7 := (Below.refl w6.heap.size w6).drew.trans b7
        exact ⟨rfl, (unhide HM6).below hb, (hb.block w.heap.size (by omega)).trans (unhide HR6), hb⟩
      have HEX : Hid (∀ W, SMid N W S B own2 (.slice ad5 (T + nE) c5) L (L ++ [⟨(cc : Int), no, ⟨k, a, b, t⟩, dcode, dtext⟩]) → ∀ i, i < 26 → (∃ v, W.cell? ⟨S, i, none⟩ = some v) ∧ W.frozen? ⟨S, i, none⟩ = false) := fun W hW i hi => ⟨⟨_, (hW.at i).1.trans (List.getElem?_eq_getElem (by show i < 26; exact hi))⟩, (hW.at i).2⟩
      have hci : (cc : Int) < 3 := by omega
      go_wp2_with fail
      go_region_law (first | (go_simp; go_at_call 115; refine (unhide HDE6).mono ?_; rintro e w7 ⟨rfl, hm7, hr7, hb7⟩; have hex := (unhide HEX) w7 hm7; obtain ⟨⟨v0, f0⟩, g0⟩ := hex (2 + cc * 8) (by omega); obtain ⟨⟨v1, f1⟩, g1⟩ := hex (2 + cc * 8 + 1) (by omega); obtain ⟨⟨v2, f2⟩, g2⟩ := hex (2 + cc * 8 + 2) (by omega); obtain ⟨⟨v3, f3⟩, g3⟩ := hex (2 + cc * 8 + 3) (by omega); obtain ⟨⟨v4, f4⟩, g4⟩ := hex (2 + cc * 8 + 4) (by omega); obtain ⟨⟨v5, f5⟩, g5⟩ := hex (2 + cc * 8 + 5) (by omega); obtain ⟨⟨v6, f6⟩, g6⟩ := hex (2 + cc * 8 + 6) (by omega); obtain ⟨⟨v7, f7⟩, g7⟩ := hex (2 + cc * 8 + 7) (by omega);  have HM7 := hide hm7; have HR7 := hide hr7; have HB7 := hide hb7; obtain ⟨⟨u0, u1, u2, u3⟩, ⟨u4, u5, u6, u7⟩, _⟩ := eight hr7; clear hm7 hr7 hb7 hex) | fail)
      all_goals
        have hk8 := set8o_kept w7 S (2 + cc * 8) (.int .i64 (cc : Int)) (.int .i64 no) (.int .i64 k) (.string a) (.string b) (.string t) (.int .i64 dcode) (.string dtext)
        have hc8 := (unhide HM7).last (r := ⟨(cc : Int), no, ⟨k, a, b, t⟩, dcode, dtext⟩) (unhide HH).new hcc rfl
        unfold set8o at hk8 hc8
        dsimp only at hc8
        generalize hw8 : ((((((((w7.setCell ⟨S, 2 + cc * 8, none⟩ (.int .i64 (cc : Int))).setCell ⟨S, 2 + cc * 8 + 1, none⟩ (.int .i64 no)).setCell ⟨S, 2 + cc * 8 + 2, none⟩ (.int .i64 k)).setCell ⟨S, 2 + cc * 8 + 3, none⟩ (.string a)).setCell ⟨S, 2 + cc * 8 + 4, none⟩ (.string b)).setCell ⟨S, 2 + cc * 8 + 5, none⟩ (.string t)).setCell ⟨S, 2 + cc * 8 + 6, none⟩ (.int .i64 dcode)).setCell ⟨S, 2 + cc * 8 + 7, none⟩ (.string dtext)) = w8 at hk8 hc8 ⊢
        have hz7 := (unhide HB7).size
        have HR8 := hide ((hk8.block w.heap.size (by omega) (by simp; omega)).trans (unhide HR7))
        have HA8 := hide ((hk8.block (w.heap.size + 1) (by omega) (by simp; omega)).trans (((unhide HB7).block (w.heap.size + 1) (by omega)).trans (unhide HA6)))
        have hl7 := (unhide HL6).below (unhide HB7)
        have hl8 : BRow w8 N (.slice ad5 (T + nE) c5) (logB (L ++ [⟨(cc : Int), no, ⟨k, a, b, t⟩, dcode, dtext⟩])) := by
          rw [unhide HLG]
          exact ownsRow_same hl7 (fun j hj => hk8.block j (hl7.lt j hj).2 (fun hm => hnS' (by rw [List.mem_singleton.1 hm] at hj; exact hj)))
        have hlB : ∀ j, (Value.slice ad5 (T + nE) c5).ownBlock = some j → j ∉ own2 := fun j hj hm => by
          rcases (unhide HATN) j hj with h1 | h1
          · exact ((unhide HN2).keep j (by show j < w1.heap.size; have := (hlr j h1).1; omega) (hlr j h1).2.1).1 hm
          · have := (unhide HO2l) j hm; omega
        have hr8 : SRep N w8 S B own2 (.slice ad5 (T + nE) c5) (L ++ [⟨(cc : Int), no, ⟨k, a, b, t⟩, dcode, dtext⟩]) := ⟨hc8.new, hc8.blk, hc8.files, hl8, unhide HGD, hc8.sB, hnS', hlB⟩
        have K8 := ((unhide HK6).trans (Kept.of_below (own := []) (unhide HB7)) (by simp)).trans hk8 (fun x hx => .inl (by rw [List.mem_singleton.1 hx]; exact List.mem_cons_self))
        have HS8 := hide hr8
        have HK8 := hide K8
        have hz8 := hk8.size
        clear hk8 hc8 hl7 hl8 hlB hr8 K8 hw8 u0 u1 u2 u3 u4 u5 u6 u7 f0 f1 f2 f3 f4 f5 f6 f7 g0 g1 g2 g3 g4 g5 g6 g7
        obtain ⟨⟨u0, u1, u2, u3⟩, ⟨u4, u5, u6, u7⟩, _⟩ := eight (unhide HR8)
        obtain ⟨⟨y0, y1⟩, fy⟩ := two (unhide HA8)
        have hzR : w.heap.size < w8.heap.size := by omega
        go_wp2
        have hb2 := set2_blk (unhide HA8) (.int .i64 dcode) (.string dtext)
        have hk2 := set2_kept w8 (w.heap.size + 1) (.int .i64 dcode) (.string dtext)
        unfold set2 at hb2 hk2
        generalize hw8 : ((w8.setCell ⟨w.heap.size + 1, 0, none⟩ (.int .i64 dcode)).setCell ⟨w.heap.size + 1, 1, none⟩ (.string dtext)) = w99 at hb2 hk2 ⊢
        obtain ⟨⟨p0, p1⟩, _⟩ := two hb2
        refine bodyPost_ret (v := .tuple #[.agg #[.int .i64 dcode, .string dtext], .int .i64 0]) (by simp [results, Tryz.results128, go_sem, p0, p1]) rfl ?_
        rw [HRF.out]
        have hsn : ∀ x, x ∈ sown S own2 (.slice ad5 (T + nE) c5) → x ∈ sown S own (.slice la T lc) ∨ w.heap.size ≤ x := fun x hx => by
          rcases List.mem_cons.1 hx with rfl | hx
          · exact .inl List.mem_cons_self
          rcases List.mem_append.1 hx with hx | hx
          · rcases (unhide HATN) x (by simpa using hx) with h1 | h1
            · exact .inl (List.mem_cons_of_mem _ (List.mem_append_left _ (by simp [h1])))
            · exact .inr (by omega)
          · rcases (unhide HO2) x hx with h1 | h1
            · exact .inl (List.mem_cons_of_mem _ (List.mem_append_right _ h1))
            · exact .inr h1
        have hA2 : ∀ x, x ∈ sown S own2 (.slice ad5 (T + nE) c5) → x ∉ [w.heap.size + 1] := fun x hx hm => by
          have hx1 := List.mem_singleton.1 hm
          rcases List.mem_cons.1 hx with h1 | hx
          · omega
          rcases List.mem_append.1 hx with hx | hx
          · rcases (unhide HATN) x (by simpa using hx) with h1 | h1
            · have := (hlr x h1).1; omega
            · omega
          · exact (unhide HAN) (by rw [← hx1]; exact hx)
        exact ⟨rfl, STurned.mk' (unhide HH) ((unhide HS8).kept hk2 hA2) ((unhide HK8).trans hk2 (fun x hx => .inr (by rw [List.mem_singleton.1 hx]; omega))) hN hsn⟩

end Go.Proofs.YtmbhbnoifimeaabGreat

namespace Go.Proofs.YtmbhbnoifimeaabGreat
open Go.RowKit
set_option linter.unusedSimpArgs false
set_option linter.unusedVariables false

theorem eql32 (c c' : ACall) (w : World) : (binOp .eql 32 (.agg (callCells c)) (.agg (callCells c'))).run Tryz.prog w = .ok (.bool (callB c c')) w := by
  have h := equal32 9998 c c' w
  rw [run_eql_struct, h]
  rfl

end Go.Proofs.YtmbhbnoifimeaabGreat

namespace Go.Proofs.YtmbhbnoifimeaabGreat
open Go.RowKit
set_option linter.unusedSimpArgs false
set_option linter.unusedVariables false

theorem recI_range {client no k : Int} {a b t : ByteArray} : recI ⟨client, no, ⟨k, a, b, t⟩, 0, ⟨#[]⟩⟩ = 9 ↔ (client < 0 ∨ 2 < client ∨ no < 1 ∨ 200 < no) := by
  have h4 := checkI_range ⟨k, a, b, t⟩
  unfold recI
  dsimp only
  constructor
  · intro h
    by_cases h1 : client < 0 ∨ 2 < client ∨ no < 1 ∨ 200 < no
    · exact h1
    · rw [if_neg h1] at h
      split at h
      · omega
      split at h
      · omega
      split at h
      · omega
      split at h
      · omega
      · omega
  · intro h
    rw [if_pos h]

set_option maxRecDepth 100000 in
set_option maxHeartbeats 8000000 in
theorem SCall_range {N : Nat} {w : World} {S B : Nat} {own : List Nat} {lv : Value} {L : List ARec} (h : SRep N w S B own lv L) (client no k : Int) (a b t : ByteArray) (hs : (logB L).length ≤ 100000) (hN : N ≤ w.heap.size) (ha : a.size ≤ maxLen) (hb : b.size ≤ maxLen) (ht : t.size ≤ maxLen) (hr : client < 0 ∨ 2 < client ∨ no < 1 ∨ 200 < no) :
    Calls Tryz.prog 114 #[.pointer (some ⟨S, 0, none⟩), .int .i64 client, .int .i64 no, .agg #[.int .i64 k, .string a, .string b, .string t]] w (AddRes N w S own lv (aCall L client no ⟨k, a, b, t⟩)) := by
  rw [aCall, if_pos hr]

  have HCC := hide (fun W => cCheck_any client no k a b t 0 ⟨#[]⟩ W ha hb ht)
  have HFC := hide (fun W => Check_any k a b t W ha hb ht)
  have HCH := hide (fun W => Changes_any k W)
  have HH := hide h
  have hSl := h.lt
  have hVK : ∀ W, Below (w.heap.size + 3) (((w.alloc (.cells #[.int .i64 k, .string a, .string b, .string t] 32)).alloc (.cells #[.int .i64 0, .string ⟨#[]⟩] 59)).alloc (.cells #[.int .i64 client, .int .i64 no, .int .i64 k, .string a, .string b, .string t, .int .i64 0, .string ⟨#[]⟩] 61)) W → W.heap[w.heap.size]? = some (.cells #[.int .i64 k, .string a, .string b, .string t] 32 (0, 0)) ∧ W.heap[w.heap.size + 1]? = some (.cells #[.int .i64 0, .string ⟨#[]⟩] 59 (0, 0)) ∧ W.heap[w.heap.size + 2]? = some (.cells #[.int .i64 client, .int .i64 no, .int .i64 k, .string a, .string b, .string t, .int .i64 0, .string ⟨#[]⟩] 61 (0, 0)) ∧ Below w.heap.size w W ∧ w.heap.size + 3 ≤ W.heap.size := fun W hW => by
    have c0 : (((w.alloc (.cells #[.int .i64 k, .string a, .string b, .string t] 32)).alloc (.cells #[.int .i64 0, .string ⟨#[]⟩] 59)).alloc (.cells #[.int .i64 client, .int .i64 no, .int .i64 k, .string a, .string b, .string t, .int .i64 0, .string ⟨#[]⟩] 61)).heap[w.heap.size]? = some (.cells #[.int .i64 k, .string a, .string b, .string t] 32 (0, 0)) := (Below.heap_alloc _ _ _ (by simp; omega)).trans ((Below.heap_alloc _ _ _ (by simp)).trans (heap_alloc_new w _))
    have c1 : (((w.alloc (.cells #[.int .i64 k, .string a, .string b, .string t] 32)).alloc (.cells #[.int .i64 0, .string ⟨#[]⟩] 59)).alloc (.cells #[.int .i64 client, .int .i64 no, .int .i64 k, .string a, .string b, .string t, .int .i64 0, .string ⟨#[]⟩] 61)).heap[w.heap.size + 1]? = some (.cells #[.int .i64 0, .string ⟨#[]⟩] 59 (0, 0)) := by
      have h := heap_alloc_new (w.alloc (.cells #[.int .i64 k, .string a, .string b, .string t] 32)) (.cells #[.int .i64 0, .string ⟨#[]⟩] 59)
      rw [show (w.alloc (.cells #[.int .i64 k, .string a, .string b, .string t] 32)).heap.size = w.heap.size + 1 by simp] at h
      exact (Below.heap_alloc _ _ _ (by simp)).trans h
    have c2 : (((w.alloc (.cells #[.int .i64 k, .string a, .string b, .string t] 32)).alloc (.cells #[.int .i64 0, .string ⟨#[]⟩] 59)).alloc (.cells #[.int .i64 client, .int .i64 no, .int .i64 k, .string a, .string b, .string t, .int .i64 0, .string ⟨#[]⟩] 61)).heap[w.heap.size + 2]? = some (.cells #[.int .i64 client, .int .i64 no, .int .i64 k, .string a, .string b, .string t, .int .i64 0, .string ⟨#[]⟩] 61 (0, 0)) := by
      have h := heap_alloc_new ((w.alloc (.cells #[.int .i64 k, .string a, .string b, .string t] 32)).alloc (.cells #[.int .i64 0, .string ⟨#[]⟩] 59)) (.cells #[.int .i64 client, .int .i64 no, .int .i64 k, .string a, .string b, .string t, .int .i64 0, .string ⟨#[]⟩] 61)
      rw [show ((w.alloc (.cells #[.int .i64 k, .string a, .string b, .string t] 32)).alloc (.cells #[.int .i64 0, .string ⟨#[]⟩] 59)).heap.size = w.heap.size + 2 by simp] at h
      exact h
    have c4 : Below w.heap.size w (((w.alloc (.cells #[.int .i64 k, .string a, .string b, .string t] 32)).alloc (.cells #[.int .i64 0, .string ⟨#[]⟩] 59)).alloc (.cells #[.int .i64 client, .int .i64 no, .int .i64 k, .string a, .string b, .string t, .int .i64 0, .string ⟨#[]⟩] 61)) := (((Below.refl w.heap.size w).alloc (Nat.le_refl _) _).alloc (by simp) _).alloc (by simp; omega) _
    refine ⟨(hW.block _ (by omega)).trans c0, (hW.block _ (by omega)).trans c1, (hW.block _ (by omega)).trans c2, c4.trans (hW.mono (by omega)), ?_⟩
    have := hW.size; simp at this; omega
  have HVK := hide hVK
  clear hVK
  rw [recI_range.2 hr] at HCC
  clear h hr

  go_enter Tryz.func114, Tryz.ntmps114
  go_wp2_with fail
  refine ((unhide HCC) _).mono ?_
  rintro e w1 ⟨rfl, b1⟩
  have HB1 : Hid (Below (w.heap.size + 3) (((w.alloc (.cells #[.int .i64 k, .string a, .string b, .string t] 32)).alloc (.cells #[.int .i64 0, .string ⟨#[]⟩] 59)).alloc (.cells #[.int .i64 client, .int .i64 no, .int .i64 k, .string a, .string b, .string t, .int .i64 0, .string ⟨#[]⟩] 61)) w1) := b1.mono (by simp)
  obtain ⟨k0, k1, k2, k3, k4⟩ := (unhide HVK) w1 (unhide HB1)
  obtain ⟨⟨x0, x1, x2, x3⟩, _⟩ := four k0
  obtain ⟨⟨z0, z1⟩, fz⟩ := two k1
  obtain ⟨⟨r0, r1, r2, r3⟩, ⟨r4, r5, r6, r7⟩, _⟩ := eight k2
  have HA1 := hide k1
  have HW1 := hide k3
  clear k0 k1 k2 k3
  clear b1

  go_wp2
  have hb2 := set2_blk (unhide HA1) (.int .i64 0) (.string ⟨#[]⟩)
  have hk2 := set2_kept w1 (w.heap.size + 1) (.int .i64 0) (.string ⟨#[]⟩)
  unfold set2 at hb2 hk2

  generalize hw8 : ((w1.setCell ⟨w.heap.size + 1, 0, none⟩ (.int .i64 0)).setCell ⟨w.heap.size + 1, 1, none⟩ (.string ⟨#[]⟩)) = w99 at hb2 hk2 ⊢
  obtain ⟨⟨p0, p1⟩, _⟩ := two hb2
  refine bodyPost_ret (v := .tuple #[.agg #[.int .i64 0, .string ⟨#[]⟩], .int .i64 9]) (by simp [results, Tryz.results114, go_sem, p0, p1]) rfl ?_
  exact ⟨rfl, STurned.of_below (unhide HH) ((unhide HW1).trans (hk2.below (unhide HW1).size (by simp))) hN⟩

set_option maxRecDepth 100000 in
set_option maxHeartbeats 8000000 in
theorem SCall_code {N : Nat} {w : World} {S B : Nat} {own : List Nat} {lv : Value} {L : List ARec} (h : SRep N w S B own lv L) (client no k : Int) (a b t : ByteArray) (hs : (logB L).length ≤ 100000) (hN : N ≤ w.heap.size) (ha : a.size ≤ maxLen) (hb : b.size ≤ maxLen) (ht : t.size ≤ maxLen) (hr : ¬ (client < 0 ∨ 2 < client ∨ no < 1 ∨ 200 < no)) (hc : checkI ⟨k, a, b, t⟩ ≠ 0) :
    Calls Tryz.prog 114 #[.pointer (some ⟨S, 0, none⟩), .int .i64 client, .int .i64 no, .agg #[.int .i64 k, .string a, .string b, .string t]] w (AddRes N w S own lv (aCall L client no ⟨k, a, b, t⟩)) := by
  rw [aCall, if_neg hr, if_pos hc]

  have HCC := hide (fun W => cCheck_any client no k a b t 0 ⟨#[]⟩ W ha hb ht)
  have HFC := hide (fun W => Check_any k a b t W ha hb ht)
  have HCH := hide (fun W => Changes_any k W)
  have HH := hide h
  have hSl := h.lt
  have hVK : ∀ W, Below (w.heap.size + 3) (((w.alloc (.cells #[.int .i64 k, .string a, .string b, .string t] 32)).alloc (.cells #[.int .i64 0, .string ⟨#[]⟩] 59)).alloc (.cells #[.int .i64 client, .int .i64 no, .int .i64 k, .string a, .string b, .string t, .int .i64 0, .string ⟨#[]⟩] 61)) W → W.heap[w.heap.size]? = some (.cells #[.int .i64 k, .string a, .string b, .string t] 32 (0, 0)) ∧ W.heap[w.heap.size + 1]? = some (.cells #[.int .i64 0, .string ⟨#[]⟩] 59 (0, 0)) ∧ W.heap[w.heap.size + 2]? = some (.cells #[.int .i64 client, .int .i64 no, .int .i64 k, .string a, .string b, .string t, .int .i64 0, .string ⟨#[]⟩] 61 (0, 0)) ∧ Below w.heap.size w W ∧ w.heap.size + 3 ≤ W.heap.size := fun W hW => by
    have c0 : (((w.alloc (.cells #[.int .i64 k, .string a, .string b, .string t] 32)).alloc (.cells #[.int .i64 0, .string ⟨#[]⟩] 59)).alloc (.cells #[.int .i64 client, .int .i64 no, .int .i64 k, .string a, .string b, .string t, .int .i64 0, .string ⟨#[]⟩] 61)).heap[w.heap.size]? = some (.cells #[.int .i64 k, .string a, .string b, .string t] 32 (0, 0)) := (Below.heap_alloc _ _ _ (by simp; omega)).trans ((Below.heap_alloc _ _ _ (by simp)).trans (heap_alloc_new w _))
    have c1 : (((w.alloc (.cells #[.int .i64 k, .string a, .string b, .string t] 32)).alloc (.cells #[.int .i64 0, .string ⟨#[]⟩] 59)).alloc (.cells #[.int .i64 client, .int .i64 no, .int .i64 k, .string a, .string b, .string t, .int .i64 0, .string ⟨#[]⟩] 61)).heap[w.heap.size + 1]? = some (.cells #[.int .i64 0, .string ⟨#[]⟩] 59 (0, 0)) := by
      have h := heap_alloc_new (w.alloc (.cells #[.int .i64 k, .string a, .string b, .string t] 32)) (.cells #[.int .i64 0, .string ⟨#[]⟩] 59)
      rw [show (w.alloc (.cells #[.int .i64 k, .string a, .string b, .string t] 32)).heap.size = w.heap.size + 1 by simp] at h
      exact (Below.heap_alloc _ _ _ (by simp)).trans h
    have c2 : (((w.alloc (.cells #[.int .i64 k, .string a, .string b, .string t] 32)).alloc (.cells #[.int .i64 0, .string ⟨#[]⟩] 59)).alloc (.cells #[.int .i64 client, .int .i64 no, .int .i64 k, .string a, .string b, .string t, .int .i64 0, .string ⟨#[]⟩] 61)).heap[w.heap.size + 2]? = some (.cells #[.int .i64 client, .int .i64 no, .int .i64 k, .string a, .string b, .string t, .int .i64 0, .string ⟨#[]⟩] 61 (0, 0)) := by
      have h := heap_alloc_new ((w.alloc (.cells #[.int .i64 k, .string a, .string b, .string t] 32)).alloc (.cells #[.int .i64 0, .string ⟨#[]⟩] 59)) (.cells #[.int .i64 client, .int .i64 no, .int .i64 k, .string a, .string b, .string t, .int .i64 0, .string ⟨#[]⟩] 61)
      rw [show ((w.alloc (.cells #[.int .i64 k, .string a, .string b, .string t] 32)).alloc (.cells #[.int .i64 0, .string ⟨#[]⟩] 59)).heap.size = w.heap.size + 2 by simp] at h
      exact h
    have c4 : Below w.heap.size w (((w.alloc (.cells #[.int .i64 k, .string a, .string b, .string t] 32)).alloc (.cells #[.int .i64 0, .string ⟨#[]⟩] 59)).alloc (.cells #[.int .i64 client, .int .i64 no, .int .i64 k, .string a, .string b, .string t, .int .i64 0, .string ⟨#[]⟩] 61)) := (((Below.refl w.heap.size w).alloc (Nat.le_refl _) _).alloc (by simp) _).alloc (by simp; omega) _
    refine ⟨(hW.block _ (by omega)).trans c0, (hW.block _ (by omega)).trans c1, (hW.block _ (by omega)).trans c2, c4.trans (hW.mono (by omega)), ?_⟩
    have := hW.size; simp at this; omega
  have HVK := hide hVK
  clear hVK
  have h9 : recI ⟨client, no, ⟨k, a, b, t⟩, 0, ⟨#[]⟩⟩ ≠ 9 := fun h => hr (recI_range.1 h)
  generalize recI ⟨client, no, ⟨k, a, b, t⟩, 0, ⟨#[]⟩⟩ = rr at HCC h9
  have h9b : (rr == 9) = false := by simpa using h9
  generalize checkI ⟨k, a, b, t⟩ = code at hc HFC ⊢
  clear h hr h9

  go_enter Tryz.func114, Tryz.ntmps114
  go_wp2_with fail
  refine ((unhide HCC) _).mono ?_
  rintro e w1 ⟨rfl, b1⟩
  have HB1 : Hid (Below (w.heap.size + 3) (((w.alloc (.cells #[.int .i64 k, .string a, .string b, .string t] 32)).alloc (.cells #[.int .i64 0, .string ⟨#[]⟩] 59)).alloc (.cells #[.int .i64 client, .int .i64 no, .int .i64 k, .string a, .string b, .string t, .int .i64 0, .string ⟨#[]⟩] 61)) w1) := b1.mono (by simp)
  obtain ⟨k0, k1, k2, k3, k4⟩ := (unhide HVK) w1 (unhide HB1)
  obtain ⟨⟨x0, x1, x2, x3⟩, _⟩ := four k0
  obtain ⟨⟨z0, z1⟩, fz⟩ := two k1
  obtain ⟨⟨r0, r1, r2, r3⟩, ⟨r4, r5, r6, r7⟩, _⟩ := eight k2
  have HA1 := hide k1
  have HW1 := hide k3
  clear k0 k1 k2 k3
  clear b1

  go_wp2_with fail
  refine ((unhide HFC) _).mono ?_
  rintro e w2 ⟨rfl, b2⟩
  clear x0 x1 x2 x3 z0 z1 fz r0 r1 r2 r3 r4 r5 r6 r7 k4

  have HB2 : Hid (Below (w.heap.size + 3) (((w.alloc (.cells #[.int .i64 k, .string a, .string b, .string t] 32)).alloc (.cells #[.int .i64 0, .string ⟨#[]⟩] 59)).alloc (.cells #[.int .i64 client, .int .i64 no, .int .i64 k, .string a, .string b, .string t, .int .i64 0, .string ⟨#[]⟩] 61)) w2) := (unhide HB1).trans (b2.mono (by have := ((unhide HVK) w1 (unhide HB1)).2.2.2.2; omega))
  obtain ⟨k0, k1, k2, k3, k4⟩ := (unhide HVK) w2 (unhide HB2)
  obtain ⟨⟨x0, x1, x2, x3⟩, _⟩ := four k0
  obtain ⟨⟨z0, z1⟩, fz⟩ := two k1
  obtain ⟨⟨r0, r1, r2, r3⟩, ⟨r4, r5, r6, r7⟩, _⟩ := eight k2
  have HA2 := hide k1
  have HW2 := hide k3
  clear k0 k1 k2 k3
  clear b2

  go_wp2
  have hb2 := set2_blk (unhide HA2) (.int .i64 0) (.string ⟨#[]⟩)
  have hk2 := set2_kept w2 (w.heap.size + 1) (.int .i64 0) (.string ⟨#[]⟩)
  unfold set2 at hb2 hk2

  generalize hw8 : ((w2.setCell ⟨w.heap.size + 1, 0, none⟩ (.int .i64 0)).setCell ⟨w.heap.size + 1, 1, none⟩ (.string ⟨#[]⟩)) = w99 at hb2 hk2 ⊢
  obtain ⟨⟨p0, p1⟩, _⟩ := two hb2
  refine bodyPost_ret (v := .tuple #[.agg #[.int .i64 0, .string ⟨#[]⟩], .int .i64 code]) (by simp [results, Tryz.results114, go_sem, p0, p1]) rfl ?_
  exact ⟨rfl, STurned.of_below (unhide HH) ((unhide HW2).trans (hk2.below (unhide HW2).size (by simp))) hN⟩

set_option maxRecDepth 100000 in
set_option maxHeartbeats 8000000 in
theorem SCall_ask {N : Nat} {w : World} {S B : Nat} {own : List Nat} {lv : Value} {L : List ARec} (h : SRep N w S B own lv L) (client no k : Int) (a b t : ByteArray) (hs : (logB L).length ≤ 100000) (hN : N ≤ w.heap.size) (ha : a.size ≤ maxLen) (hb : b.size ≤ maxLen) (ht : t.size ≤ maxLen) (hr : ¬ (client < 0 ∨ 2 < client ∨ no < 1 ∨ 200 < no)) (hc : checkI ⟨k, a, b, t⟩ = 0) (hch : changesB k = false) :
    Calls Tryz.prog 114 #[.pointer (some ⟨S, 0, none⟩), .int .i64 client, .int .i64 no, .agg #[.int .i64 k, .string a, .string b, .string t]] w (AddRes N w S own lv (aCall L client no ⟨k, a, b, t⟩)) := by
  rw [aCall, if_neg hr, if_neg (by simp [hc]), if_pos hch]
  have HDo : Hid (∀ W, Below w.heap.size w W → Calls Tryz.prog 102 #[.pointer (some ⟨B, 0, none⟩), .agg #[.int .i64 k, .string a, .string b, .string t]] W fun e w' => e = .returned (.agg #[.int .i64 (aDo (behind L) ⟨k, a, b, t⟩).code, .string (aDo (behind L) ⟨k, a, b, t⟩).text]) ∧ ∃ own', OObj N w' B own' (aDo (behind L) ⟨k, a, b, t⟩).st ∧ Next N W w' own own') := fun W hW => Do_obj ⟨k, a, b, t⟩ (h.below hW).files ha hb ht
  rw [aDo_ask (c := ⟨k, a, b, t⟩) (behind L) hch] at HDo

  have HCC := hide (fun W => cCheck_any client no k a b t 0 ⟨#[]⟩ W ha hb ht)
  have HFC := hide (fun W => Check_any k a b t W ha hb ht)
  have HCH := hide (fun W => Changes_any k W)
  have HH := hide h
  have hSl := h.lt
  have hVK : ∀ W, Below (w.heap.size + 3) (((w.alloc (.cells #[.int .i64 k, .string a, .string b, .string t] 32)).alloc (.cells #[.int .i64 0, .string ⟨#[]⟩] 59)).alloc (.cells #[.int .i64 client, .int .i64 no, .int .i64 k, .string a, .string b, .string t, .int .i64 0, .string ⟨#[]⟩] 61)) W → W.heap[w.heap.size]? = some (.cells #[.int .i64 k, .string a, .string b, .string t] 32 (0, 0)) ∧ W.heap[w.heap.size + 1]? = some (.cells #[.int .i64 0, .string ⟨#[]⟩] 59 (0, 0)) ∧ W.heap[w.heap.size + 2]? = some (.cells #[.int .i64 client, .int .i64 no, .int .i64 k, .string a, .string b, .string t, .int .i64 0, .string ⟨#[]⟩] 61 (0, 0)) ∧ Below w.heap.size w W ∧ w.heap.size + 3 ≤ W.heap.size := fun W hW => by
    have c0 : (((w.alloc (.cells #[.int .i64 k, .string a, .string b, .string t] 32)).alloc (.cells #[.int .i64 0, .string ⟨#[]⟩] 59)).alloc (.cells #[.int .i64 client, .int .i64 no, .int .i64 k, .string a, .string b, .string t, .int .i64 0, .string ⟨#[]⟩] 61)).heap[w.heap.size]? = some (.cells #[.int .i64 k, .string a, .string b, .string t] 32 (0, 0)) := (Below.heap_alloc _ _ _ (by simp; omega)).trans ((Below.heap_alloc _ _ _ (by simp)).trans (heap_alloc_new w _))
    have c1 : (((w.alloc (.cells #[.int .i64 k, .string a, .string b, .string t] 32)).alloc (.cells #[.int .i64 0, .string ⟨#[]⟩] 59)).alloc (.cells #[.int .i64 client, .int .i64 no, .int .i64 k, .string a, .string b, .string t, .int .i64 0, .string ⟨#[]⟩] 61)).heap[w.heap.size + 1]? = some (.cells #[.int .i64 0, .string ⟨#[]⟩] 59 (0, 0)) := by
      have h := heap_alloc_new (w.alloc (.cells #[.int .i64 k, .string a, .string b, .string t] 32)) (.cells #[.int .i64 0, .string ⟨#[]⟩] 59)
      rw [show (w.alloc (.cells #[.int .i64 k, .string a, .string b, .string t] 32)).heap.size = w.heap.size + 1 by simp] at h
      exact (Below.heap_alloc _ _ _ (by simp)).trans h
    have c2 : (((w.alloc (.cells #[.int .i64 k, .string a, .string b, .string t] 32)).alloc (.cells #[.int .i64 0, .string ⟨#[]⟩] 59)).alloc (.cells #[.int .i64 client, .int .i64 no, .int .i64 k, .string a, .string b, .string t, .int .i64 0, .string ⟨#[]⟩] 61)).heap[w.heap.size + 2]? = some (.cells #[.int .i64 client, .int .i64 no, .int .i64 k, .string a, .string b, .string t, .int .i64 0, .string ⟨#[]⟩] 61 (0, 0)) := by
      have h := heap_alloc_new ((w.alloc (.cells #[.int .i64 k, .string a, .string b, .string t] 32)).alloc (.cells #[.int .i64 0, .string ⟨#[]⟩] 59)) (.cells #[.int .i64 client, .int .i64 no, .int .i64 k, .string a, .string b, .string t, .int .i64 0, .string ⟨#[]⟩] 61)
      rw [show ((w.alloc (.cells #[.int .i64 k, .string a, .string b, .string t] 32)).alloc (.cells #[.int .i64 0, .string ⟨#[]⟩] 59)).heap.size = w.heap.size + 2 by simp] at h
      exact h
    have c4 : Below w.heap.size w (((w.alloc (.cells #[.int .i64 k, .string a, .string b, .string t] 32)).alloc (.cells #[.int .i64 0, .string ⟨#[]⟩] 59)).alloc (.cells #[.int .i64 client, .int .i64 no, .int .i64 k, .string a, .string b, .string t, .int .i64 0, .string ⟨#[]⟩] 61)) := (((Below.refl w.heap.size w).alloc (Nat.le_refl _) _).alloc (by simp) _).alloc (by simp; omega) _
    refine ⟨(hW.block _ (by omega)).trans c0, (hW.block _ (by omega)).trans c1, (hW.block _ (by omega)).trans c2, c4.trans (hW.mono (by omega)), ?_⟩
    have := hW.size; simp at this; omega
  have HVK := hide hVK
  clear hVK
  have h9 : recI ⟨client, no, ⟨k, a, b, t⟩, 0, ⟨#[]⟩⟩ ≠ 9 := fun h => hr (recI_range.1 h)
  generalize recI ⟨client, no, ⟨k, a, b, t⟩, 0, ⟨#[]⟩⟩ = rr at HCC h9
  have h9b : (rr == 9) = false := by simpa using h9
  rw [hc] at HFC
  rw [hch] at HCH
  generalize aDo (behind L) ⟨k, a, b, t⟩ = ad at HDo ⊢
  obtain ⟨dcode, dtext, dst⟩ := ad
  dsimp only at HDo ⊢
  clear h hr h9 hc hch

  go_enter Tryz.func114, Tryz.ntmps114
  go_wp2_with fail
  refine ((unhide HCC) _).mono ?_
  rintro e w1 ⟨rfl, b1⟩
  have HB1 : Hid (Below (w.heap.size + 3) (((w.alloc (.cells #[.int .i64 k, .string a, .string b, .string t] 32)).alloc (.cells #[.int .i64 0, .string ⟨#[]⟩] 59)).alloc (.cells #[.int .i64 client, .int .i64 no, .int .i64 k, .string a, .string b, .string t, .int .i64 0, .string ⟨#[]⟩] 61)) w1) := b1.mono (by simp)
  obtain ⟨k0, k1, k2, k3, k4⟩ := (unhide HVK) w1 (unhide HB1)
  obtain ⟨⟨x0, x1, x2, x3⟩, _⟩ := four k0
  obtain ⟨⟨z0, z1⟩, fz⟩ := two k1
  obtain ⟨⟨r0, r1, r2, r3⟩, ⟨r4, r5, r6, r7⟩, _⟩ := eight k2
  have HA1 := hide k1
  have HW1 := hide k3
  clear k0 k1 k2 k3
  clear b1

  go_wp2_with fail
  refine ((unhide HFC) _).mono ?_
  rintro e w2 ⟨rfl, b2⟩
  clear x0 x1 x2 x3 z0 z1 fz r0 r1 r2 r3 r4 r5 r6 r7 k4

  have HB2 : Hid (Below (w.heap.size + 3) (((w.alloc (.cells #[.int .i64 k, .string a, .string b, .string t] 32)).alloc (.cells #[.int .i64 0, .string ⟨#[]⟩] 59)).alloc (.cells #[.int .i64 client, .int .i64 no, .int .i64 k, .string a, .string b, .string t, .int .i64 0, .string ⟨#[]⟩] 61)) w2) := (unhide HB1).trans (b2.mono (by have := ((unhide HVK) w1 (unhide HB1)).2.2.2.2; omega))
  obtain ⟨k0, k1, k2, k3, k4⟩ := (unhide HVK) w2 (unhide HB2)
  obtain ⟨⟨x0, x1, x2, x3⟩, _⟩ := four k0
  obtain ⟨⟨z0, z1⟩, fz⟩ := two k1
  obtain ⟨⟨r0, r1, r2, r3⟩, ⟨r4, r5, r6, r7⟩, _⟩ := eight k2
  have HA2 := hide k1
  have HW2 := hide k3
  clear k0 k1 k2 k3
  clear b2

  go_wp2_with fail
  refine ((unhide HCH) _).mono ?_
  rintro e w3 ⟨rfl, rfl⟩

  have hpt := ((unhide HH).below (unhide HW2)).ptr
  have HDo2 : Hid (Calls Tryz.prog 102 #[.pointer (some ⟨B, 0, none⟩), .agg #[.int .i64 k, .string a, .string b, .string t]] w3.drew fun e w' => e = .returned (.agg #[.int .i64 dcode, .string dtext]) ∧ STurned N w S own lv w' L ∧ Kept own w3 w' ∧ w'.heap[w.heap.size + 1]? = some (.cells #[.int .i64 0, .string ⟨#[]⟩] 59 (0, 0)) ∧ w.heap.size + 1 ∉ own ∧ (∃ own', SRep N w' S B own' lv L ∧ (∀ j, j ∈ own' → j ∈ own ∨ w3.heap.size ≤ j)) ∧ w3.heap.size ≤ w'.heap.size) := by
    refine ((unhide HDo) _ (unhide HW2).drew).mono ?_
    rintro e w4 ⟨rfl, own', ho, hn⟩
    have hsb := (unhide HH).below (unhide HW2)
    have hno : ∀ j, j < w3.heap.size → j ∉ own → j ∉ own' ∧ w4.heap[j]? = w3.heap[j]? := fun j hj hnj => hn.keep j hj hnj
    have hown : ∀ j, j ∈ own' → j ∈ own ∨ w3.heap.size ≤ j := fun j hj => by
      by_cases h1 : j < w3.heap.size
      · left
        by_cases h2 : j ∈ own
        · exact h2
        · exact absurd hj (hno j h1 h2).1
      · right; omega
    obtain ⟨C, hC, hl⟩ := hsb.blk
    have hSo := hno S hsb.lt hsb.sB
    have hr : SRep N w4 S B own' lv L := ⟨hsb.new, ⟨C, hSo.2.trans hC, hl⟩, ho, ownsRow_same hsb.log (fun j hj => (hno j (hsb.log.lt j hj).2 (hsb.lB j hj)).2), hsb.good, hSo.1, hsb.sL, fun j hj => (hno j (hsb.log.lt j hj).2 (hsb.lB j hj)).1⟩
    have hA1 : w.heap.size + 1 ∉ own := fun hm => by have := (unhide HH).files.rep.lt hm; omega
    have hkp : Kept own w3 w4 := ⟨hn.below.os, hn.below.tape, hn.below.output, hn.below.size, fun j hj h1 => (hno j hj h1).2⟩
    refine ⟨rfl, STurned.mk' (unhide HH) hr ((Kept.of_below (own := sown S own lv) (unhide HW2)).trans hkp (fun x hx => .inl (List.mem_cons_of_mem _ (List.mem_append_right _ hx)))) hN (fun x hx => ?_), hkp, (hno (w.heap.size + 1) (by omega) hA1).2.trans (unhide HA2), hA1, ⟨own', hr, hown⟩, hkp.size⟩
    rcases List.mem_cons.1 hx with rfl | hx
    · exact .inl List.mem_cons_self
    rcases List.mem_append.1 hx with hx | hx
    · exact .inl (List.mem_cons_of_mem _ (List.mem_append_left _ hx))
    · rcases hown x hx with h1 | h1
      · exact .inl (List.mem_cons_of_mem _ (List.mem_append_right _ h1))
      · exact .inr (by omega)
  go_wp2_with fail
  go_region_law (first | (go_simp; go_at_call 102; refine (unhide HDo2).mono ?_; rintro e w4 ⟨rfl, h41, h42, h43, h44, h45, h46⟩; have HT4 := hide h41; have HA4 := hide h43; have HS4 := hide h45; have HZ4 := hide h46; obtain ⟨⟨y0, y1⟩, fy⟩ := two h43; clear h41 h42 h43 h44 h45 h46) | fail)
  all_goals
    go_wp2
    have hb2 := set2_blk (unhide HA4) (.int .i64 dcode) (.string dtext)
    have hk2 := set2_kept w4 (w.heap.size + 1) (.int .i64 dcode) (.string dtext)
    unfold set2 at hb2 hk2

    generalize hw8 : ((w4.setCell ⟨w.heap.size + 1, 0, none⟩ (.int .i64 dcode)).setCell ⟨w.heap.size + 1, 1, none⟩ (.string dtext)) = w99 at hb2 hk2 ⊢
    obtain ⟨⟨p0, p1⟩, _⟩ := two hb2
    refine bodyPost_ret (v := .tuple #[.agg #[.int .i64 dcode, .string dtext], .int .i64 0]) (by simp [results, Tryz.results114, go_sem, p0, p1]) rfl ?_
    obtain ⟨own', hr, hown⟩ := unhide HS4
    have hn1 : ∀ j, j ∈ sown S own' lv → j ∈ sown S own lv ∨ w3.heap.size ≤ j := fun x hx => by
      rcases List.mem_cons.1 hx with rfl | hx
      · exact .inl List.mem_cons_self
      rcases List.mem_append.1 hx with hx | hx
      · exact .inl (List.mem_cons_of_mem _ (List.mem_append_left _ hx))
      · rcases hown x hx with h1 | h1
        · exact .inl (List.mem_cons_of_mem _ (List.mem_append_right _ h1))
        · exact .inr h1
    obtain ⟨B', own'', lv', hr', hnx⟩ := unhide HT4
    refine ⟨rfl, STurned.mk' (unhide HH) (hr.kept hk2 (fun x hx hm => ?_)) (hnx.kept.trans hk2 (fun x hx => .inr (by rw [List.mem_singleton.1 hx]; omega))) hN (fun x hx => ?_)⟩
    · have hx1 := List.mem_singleton.1 hm
      rcases hn1 x hx with h1 | h1
      · have := (sown_ge (unhide HH) x h1).2; omega
      · omega
    · rcases hn1 x hx with h1 | h1
      · exact .inl h1
      · exact .inr (by omega)

end Go.Proofs.YtmbhbnoifimeaabGreat

namespace Go.Proofs.YtmbhbnoifimeaabGreat
open Go.RowKit
set_option linter.unusedSimpArgs false
set_option linter.unusedVariables false

set_option maxRecDepth 100000 in
set_option maxHeartbeats 8000000 in
theorem SCall_again {N : Nat} {w : World} {S B : Nat} {own : List Nat} {lv : Value} {L : List ARec} (h : SRep N w S B own lv L) (cc : Nat) (no k : Int) (a b t : ByteArray) (hs : (logB L).length ≤ 100000) (hN : N ≤ w.heap.size) (ha : a.size ≤ maxLen) (hb : b.size ≤ maxLen) (ht : t.size ≤ maxLen) (hc3 : (cc : Int) < 3) (hr : ¬ ((cc : Int) < 0 ∨ 2 < (cc : Int) ∨ no < 1 ∨ 200 < no)) (hc : checkI ⟨k, a, b, t⟩ = 0) (hch : changesB k = true) (hno : no = (lastR L (cc : Int)).no) (hcb : callB ⟨k, a, b, t⟩ (lastR L (cc : Int)).call = true) :
    Calls Tryz.prog 114 #[.pointer (some ⟨S, 0, none⟩), .int .i64 (cc : Int), .int .i64 no, .agg #[.int .i64 k, .string a, .string b, .string t]] w (AddRes N w S own lv (aCall L (cc : Int) no ⟨k, a, b, t⟩)) := by
  have hnlt : ¬ (lastR L (cc : Int)).no < no := by omega
  rw [aCall, if_neg hr, if_neg (by simp [hc]), if_neg (by simp [hch]), if_neg hnlt, if_pos ⟨hno, hcb⟩]

  have HCC := hide (fun W => cCheck_any (cc : Int) no k a b t 0 ⟨#[]⟩ W ha hb ht)
  have HFC := hide (fun W => Check_any k a b t W ha hb ht)
  have HCH := hide (fun W => Changes_any k W)
  have HH := hide h
  have hSl := h.lt
  have hVK : ∀ W, Below (w.heap.size + 3) (((w.alloc (.cells #[.int .i64 k, .string a, .string b, .string t] 32)).alloc (.cells #[.int .i64 0, .string ⟨#[]⟩] 59)).alloc (.cells #[.int .i64 (cc : Int), .int .i64 no, .int .i64 k, .string a, .string b, .string t, .int .i64 0, .string ⟨#[]⟩] 61)) W → W.heap[w.heap.size]? = some (.cells #[.int .i64 k, .string a, .string b, .string t] 32 (0, 0)) ∧ W.heap[w.heap.size + 1]? = some (.cells #[.int .i64 0, .string ⟨#[]⟩] 59 (0, 0)) ∧ W.heap[w.heap.size + 2]? = some (.cells #[.int .i64 (cc : Int), .int .i64 no, .int .i64 k, .string a, .string b, .string t, .int .i64 0, .string ⟨#[]⟩] 61 (0, 0)) ∧ Below w.heap.size w W ∧ w.heap.size + 3 ≤ W.heap.size := fun W hW => by
    have c0 : (((w.alloc (.cells #[.int .i64 k, .string a, .string b, .string t] 32)).alloc (.cells #[.int .i64 0, .string ⟨#[]⟩] 59)).alloc (.cells #[.int .i64 (cc : Int), .int .i64 no, .int .i64 k, .string a, .string b, .string t, .int .i64 0, .string ⟨#[]⟩] 61)).heap[w.heap.size]? = some (.cells #[.int .i64 k, .string a, .string b, .string t] 32 (0, 0)) := (Below.heap_alloc _ _ _ (by simp; omega)).trans ((Below.heap_alloc _ _ _ (by simp)).trans (heap_alloc_new w _))
    have c1 : (((w.alloc (.cells #[.int .i64 k, .string a, .string b, .string t] 32)).alloc (.cells #[.int .i64 0, .string ⟨#[]⟩] 59)).alloc (.cells #[.int .i64 (cc : Int), .int .i64 no, .int .i64 k, .string a, .string b, .string t, .int .i64 0, .string ⟨#[]⟩] 61)).heap[w.heap.size + 1]? = some (.cells #[.int .i64 0, .string ⟨#[]⟩] 59 (0, 0)) := by
      have h := heap_alloc_new (w.alloc (.cells #[.int .i64 k, .string a, .string b, .string t] 32)) (.cells #[.int .i64 0, .string ⟨#[]⟩] 59)
      rw [show (w.alloc (.cells #[.int .i64 k, .string a, .string b, .string t] 32)).heap.size = w.heap.size + 1 by simp] at h
      exact (Below.heap_alloc _ _ _ (by simp)).trans h
    have c2 : (((w.alloc (.cells #[.int .i64 k, .string a, .string b, .string t] 32)).alloc (.cells #[.int .i64 0, .string ⟨#[]⟩] 59)).alloc (.cells #[.int .i64 (cc : Int), .int .i64 no, .int .i64 k, .string a, .string b, .string t, .int .i64 0, .string ⟨#[]⟩] 61)).heap[w.heap.size + 2]? = some (.cells #[.int .i64 (cc : Int), .int .i64 no, .int .i64 k, .string a, .string b, .string t, .int .i64 0, .string ⟨#[]⟩] 61 (0, 0)) := by
      have h := heap_alloc_new ((w.alloc (.cells #[.int .i64 k, .string a, .string b, .string t] 32)).alloc (.cells #[.int .i64 0, .string ⟨#[]⟩] 59)) (.cells #[.int .i64 (cc : Int), .int .i64 no, .int .i64 k, .string a, .string b, .string t, .int .i64 0, .string ⟨#[]⟩] 61)
      rw [show ((w.alloc (.cells #[.int .i64 k, .string a, .string b, .string t] 32)).alloc (.cells #[.int .i64 0, .string ⟨#[]⟩] 59)).heap.size = w.heap.size + 2 by simp] at h
      exact h
    have c4 : Below w.heap.size w (((w.alloc (.cells #[.int .i64 k, .string a, .string b, .string t] 32)).alloc (.cells #[.int .i64 0, .string ⟨#[]⟩] 59)).alloc (.cells #[.int .i64 (cc : Int), .int .i64 no, .int .i64 k, .string a, .string b, .string t, .int .i64 0, .string ⟨#[]⟩] 61)) := (((Below.refl w.heap.size w).alloc (Nat.le_refl _) _).alloc (by simp) _).alloc (by simp; omega) _
    refine ⟨(hW.block _ (by omega)).trans c0, (hW.block _ (by omega)).trans c1, (hW.block _ (by omega)).trans c2, c4.trans (hW.mono (by omega)), ?_⟩
    have := hW.size; simp at this; omega
  have HVK := hide hVK
  clear hVK
  have h9 : recI ⟨(cc : Int), no, ⟨k, a, b, t⟩, 0, ⟨#[]⟩⟩ ≠ 9 := fun h => hr (recI_range.1 h)
  generalize recI ⟨(cc : Int), no, ⟨k, a, b, t⟩, 0, ⟨#[]⟩⟩ = rr at HCC h9
  have h9b : (rr == 9) = false := by simpa using h9
  rw [hc] at HFC
  rw [hch] at HCH
  have hc3' : cc < 3 := by omega
  have HE := hide (fun W => eql32 ⟨k, a, b, t⟩ (lastR L (cc : Int)).call W)
  rw [hcb] at HE
  obtain ⟨lr, hlr⟩ : ∃ r, r = lastR L (cc : Int) := ⟨_, rfl⟩
  rw [← hlr] at HE hno ⊢
  clear hnlt hcb

  have HLS : Hid (∀ W, Below w.heap.size w W → RecAt W S (2 + cc * 8) lr) := fun W hW => by rw [hlr]; exact ((h.below hW).last cc hc3')
  clear h h9 hch hlr hr
  obtain ⟨lc, ln, ⟨lk, la, lb, lt⟩, ld, lu⟩ := lr
  dsimp only [callCells] at *
  have heqb : (no == ln) = true := by simpa using hno
  have hgt : ¬ (ln < no) := by omega
  clear hno

  go_enter Tryz.func114, Tryz.ntmps114
  go_wp2_with fail
  refine ((unhide HCC) _).mono ?_
  rintro e w1 ⟨rfl, b1⟩
  have HB1 : Hid (Below (w.heap.size + 3) (((w.alloc (.cells #[.int .i64 k, .string a, .string b, .string t] 32)).alloc (.cells #[.int .i64 0, .string ⟨#[]⟩] 59)).alloc (.cells #[.int .i64 (cc : Int), .int .i64 no, .int .i64 k, .string a, .string b, .string t, .int .i64 0, .string ⟨#[]⟩] 61)) w1) := b1.mono (by simp)
  obtain ⟨k0, k1, k2, k3, k4⟩ := (unhide HVK) w1 (unhide HB1)
  obtain ⟨⟨x0, x1, x2, x3⟩, _⟩ := four k0
  obtain ⟨⟨z0, z1⟩, fz⟩ := two k1
  obtain ⟨⟨r0, r1, r2, r3⟩, ⟨r4, r5, r6, r7⟩, _⟩ := eight k2
  have HA1 := hide k1
  have HW1 := hide k3
  clear k0 k1 k2 k3
  clear b1

  go_wp2_with fail
  refine ((unhide HFC) _).mono ?_
  rintro e w2 ⟨rfl, b2⟩
  clear x0 x1 x2 x3 z0 z1 fz r0 r1 r2 r3 r4 r5 r6 r7 k4

  have HB2 : Hid (Below (w.heap.size + 3) (((w.alloc (.cells #[.int .i64 k, .string a, .string b, .string t] 32)).alloc (.cells #[.int .i64 0, .string ⟨#[]⟩] 59)).alloc (.cells #[.int .i64 (cc : Int), .int .i64 no, .int .i64 k, .string a, .string b, .string t, .int .i64 0, .string ⟨#[]⟩] 61)) w2) := (unhide HB1).trans (b2.mono (by have := ((unhide HVK) w1 (unhide HB1)).2.2.2.2; omega))
  obtain ⟨k0, k1, k2, k3, k4⟩ := (unhide HVK) w2 (unhide HB2)
  obtain ⟨⟨x0, x1, x2, x3⟩, _⟩ := four k0
  obtain ⟨⟨z0, z1⟩, fz⟩ := two k1
  obtain ⟨⟨r0, r1, r2, r3⟩, ⟨r4, r5, r6, r7⟩, _⟩ := eight k2
  have HA2 := hide k1
  have HW2 := hide k3
  clear k0 k1 k2 k3
  clear b2

  go_wp2_with fail
  refine ((unhide HCH) _).mono ?_
  rintro e w3 ⟨rfl, rfl⟩

  obtain ⟨l0, l1, l2, l3, l4, l5, l6, l7⟩ := (unhide HLS) w3 (unhide HW2)
  have hzw : w.heap.size < w3.heap.size := by omega
  have hzw1 : w.heap.size + 1 < w3.heap.size := by omega
  have hzw2 : w.heap.size + 2 < w3.heap.size := by omega
  dsimp only at l0 l1 l2 l3 l4 l5 l6 l7
  have e32 := unhide HE
  go_wp2
  have hb2 := set2_blk (unhide HA2) (.int .i64 ld) (.string lu)
  have hk2 := set2_kept w3 (w.heap.size + 1) (.int .i64 ld) (.string lu)
  unfold set2 at hb2 hk2

  replace hb2 := (Below.heap_alloc _ (.cells #[.int .i64 lc, .int .i64 ln, .int .i64 lk, .string la, .string lb, .string lt, .int .i64 ld, .string lu] 61) (w.heap.size + 1) (Array.getElem?_eq_some_iff.1 hb2).1).trans hb2
  replace hk2 := hk2.trans (Kept.of_below (own := []) ((Below.refl _ _).alloc (Nat.le_refl _) (.cells #[.int .i64 lc, .int .i64 ln, .int .i64 lk, .string la, .string lb, .string lt, .int .i64 ld, .string lu] 61))) (by simp)

  generalize hw8 : (((w3.setCell ⟨w.heap.size + 1, 0, none⟩ (.int .i64 ld)).setCell ⟨w.heap.size + 1, 1, none⟩ (.string lu)).alloc (.cells #[.int .i64 lc, .int .i64 ln, .int .i64 lk, .string la, .string lb, .string lt, .int .i64 ld, .string lu] 61)) = w99 at hb2 hk2 ⊢
  obtain ⟨⟨p0, p1⟩, _⟩ := two hb2
  refine bodyPost_ret (v := .tuple #[.agg #[.int .i64 ld, .string lu], .int .i64 0]) (by simp [results, Tryz.results114, go_sem, p0, p1]) rfl ?_
  exact ⟨rfl, STurned.of_below (unhide HH) ((unhide HW2).trans (hk2.below (unhide HW2).size (by simp))) hN⟩

set_option maxRecDepth 100000 in
set_option maxHeartbeats 8000000 in
theorem SCall_old {N : Nat} {w : World} {S B : Nat} {own : List Nat} {lv : Value} {L : List ARec} (h : SRep N w S B own lv L) (cc : Nat) (no k : Int) (a b t : ByteArray) (hs : (logB L).length ≤ 100000) (hN : N ≤ w.heap.size) (ha : a.size ≤ maxLen) (hb : b.size ≤ maxLen) (ht : t.size ≤ maxLen) (hc3 : (cc : Int) < 3) (hr : ¬ ((cc : Int) < 0 ∨ 2 < (cc : Int) ∨ no < 1 ∨ 200 < no)) (hc : checkI ⟨k, a, b, t⟩ = 0) (hch : changesB k = true) (hno : no ≤ (lastR L (cc : Int)).no) (hcb : ¬ (no = (lastR L (cc : Int)).no ∧ callB ⟨k, a, b, t⟩ (lastR L (cc : Int)).call = true)) :
    Calls Tryz.prog 114 #[.pointer (some ⟨S, 0, none⟩), .int .i64 (cc : Int), .int .i64 no, .agg #[.int .i64 k, .string a, .string b, .string t]] w (AddRes N w S own lv (aCall L (cc : Int) no ⟨k, a, b, t⟩)) := by
  have hnlt : ¬ (lastR L (cc : Int)).no < no := by omega
  rw [aCall, if_neg hr, if_neg (by simp [hc]), if_neg (by simp [hch]), if_neg hnlt, if_neg hcb]

  have HCC := hide (fun W => cCheck_any (cc : Int) no k a b t 0 ⟨#[]⟩ W ha hb ht)
  have HFC := hide (fun W => Check_any k a b t W ha hb ht)
  have HCH := hide (fun W => Changes_any k W)
  have HH := hide h
  have hSl := h.lt
  have hVK : ∀ W, Below (w.heap.size + 3) (((w.alloc (.cells #[.int .i64 k, .string a, .string b, .string t] 32)).alloc (.cells #[.int .i64 0, .string ⟨#[]⟩] 59)).alloc (.cells #[.int .i64 (cc : Int), .int .i64 no, .int .i64 k, .string a, .string b, .string t, .int .i64 0, .string ⟨#[]⟩] 61)) W → W.heap[w.heap.size]? = some (.cells #[.int .i64 k, .string a, .string b, .string t] 32 (0, 0)) ∧ W.heap[w.heap.size + 1]? = some (.cells #[.int .i64 0, .string ⟨#[]⟩] 59 (0, 0)) ∧ W.heap[w.heap.size + 2]? = some (.cells #[.int .i64 (cc : Int), .int .i64 no, .int .i64 k, .string a, .string b, .string t, .int .i64 0, .string ⟨#[]⟩] 61 (0, 0)) ∧ Below w.heap.size w W ∧ w.heap.size + 3 ≤ W.heap.size := fun W hW => by
    have c0 : (((w.alloc (.cells #[.int .i64 k, .string a, .string b, .string t] 32)).alloc (.cells #[.int .i64 0, .string ⟨#[]⟩] 59)).alloc (.cells #[.int .i64 (cc : Int), .int .i64 no, .int .i64 k, .string a, .string b, .string t, .int .i64 0, .string ⟨#[]⟩] 61)).heap[w.heap.size]? = some (.cells #[.int .i64 k, .string a, .string b, .string t] 32 (0, 0)) := (Below.heap_alloc _ _ _ (by simp; omega)).trans ((Below.heap_alloc _ _ _ (by simp)).trans (heap_alloc_new w _))
    have c1 : (((w.alloc (.cells #[.int .i64 k, .string a, .string b, .string t] 32)).alloc (.cells #[.int .i64 0, .string ⟨#[]⟩] 59)).alloc (.cells #[.int .i64 (cc : Int), .int .i64 no, .int .i64 k, .string a, .string b, .string t, .int .i64 0, .string ⟨#[]⟩] 61)).heap[w.heap.size + 1]? = some (.cells #[.int .i64 0, .string ⟨#[]⟩] 59 (0, 0)) := by
      have h := heap_alloc_new (w.alloc (.cells #[.int .i64 k, .string a, .string b, .string t] 32)) (.cells #[.int .i64 0, .string ⟨#[]⟩] 59)
      rw [show (w.alloc (.cells #[.int .i64 k, .string a, .string b, .string t] 32)).heap.size = w.heap.size + 1 by simp] at h
      exact (Below.heap_alloc _ _ _ (by simp)).trans h
    have c2 : (((w.alloc (.cells #[.int .i64 k, .string a, .string b, .string t] 32)).alloc (.cells #[.int .i64 0, .string ⟨#[]⟩] 59)).alloc (.cells #[.int .i64 (cc : Int), .int .i64 no, .int .i64 k, .string a, .string b, .string t, .int .i64 0, .string ⟨#[]⟩] 61)).heap[w.heap.size + 2]? = some (.cells #[.int .i64 (cc : Int), .int .i64 no, .int .i64 k, .string a, .string b, .string t, .int .i64 0, .string ⟨#[]⟩] 61 (0, 0)) := by
      have h := heap_alloc_new ((w.alloc (.cells #[.int .i64 k, .string a, .string b, .string t] 32)).alloc (.cells #[.int .i64 0, .string ⟨#[]⟩] 59)) (.cells #[.int .i64 (cc : Int), .int .i64 no, .int .i64 k, .string a, .string b, .string t, .int .i64 0, .string ⟨#[]⟩] 61)
      rw [show ((w.alloc (.cells #[.int .i64 k, .string a, .string b, .string t] 32)).alloc (.cells #[.int .i64 0, .string ⟨#[]⟩] 59)).heap.size = w.heap.size + 2 by simp] at h
      exact h
    have c4 : Below w.heap.size w (((w.alloc (.cells #[.int .i64 k, .string a, .string b, .string t] 32)).alloc (.cells #[.int .i64 0, .string ⟨#[]⟩] 59)).alloc (.cells #[.int .i64 (cc : Int), .int .i64 no, .int .i64 k, .string a, .string b, .string t, .int .i64 0, .string ⟨#[]⟩] 61)) := (((Below.refl w.heap.size w).alloc (Nat.le_refl _) _).alloc (by simp) _).alloc (by simp; omega) _
    refine ⟨(hW.block _ (by omega)).trans c0, (hW.block _ (by omega)).trans c1, (hW.block _ (by omega)).trans c2, c4.trans (hW.mono (by omega)), ?_⟩
    have := hW.size; simp at this; omega
  have HVK := hide hVK
  clear hVK
  have h9 : recI ⟨(cc : Int), no, ⟨k, a, b, t⟩, 0, ⟨#[]⟩⟩ ≠ 9 := fun h => hr (recI_range.1 h)
  generalize recI ⟨(cc : Int), no, ⟨k, a, b, t⟩, 0, ⟨#[]⟩⟩ = rr at HCC h9
  have h9b : (rr == 9) = false := by simpa using h9
  rw [hc] at HFC
  rw [hch] at HCH
  have hc3' : cc < 3 := by omega
  have HE := hide (fun W => eql32 ⟨k, a, b, t⟩ (lastR L (cc : Int)).call W)
  generalize hcbe : callB ⟨k, a, b, t⟩ (lastR L (cc : Int)).call = cb at hcb HE
  obtain ⟨lr, hlr⟩ : ∃ r, r = lastR L (cc : Int) := ⟨_, rfl⟩
  rw [← hlr] at HE hno hcb
  clear hnlt hcbe

  have HLS : Hid (∀ W, Below w.heap.size w W → RecAt W S (2 + cc * 8) lr) := fun W hW => by rw [hlr]; exact ((h.below hW).last cc hc3')
  clear h h9 hch hlr hr
  obtain ⟨lc, ln, ⟨lk, la, lb, lt⟩, ld, lu⟩ := lr
  dsimp only [callCells] at *
  have hgt : ¬ (ln < no) := by omega
  have HCB := hide hcb
  clear hcb hno

  go_enter Tryz.func114, Tryz.ntmps114
  go_wp2_with fail
  refine ((unhide HCC) _).mono ?_
  rintro e w1 ⟨rfl, b1⟩
  have HB1 : Hid (Below (w.heap.size + 3) (((w.alloc (.cells #[.int .i64 k, .string a, .string b, .string t] 32)).alloc (.cells #[.int .i64 0, .string ⟨#[]⟩] 59)).alloc (.cells #[.int .i64 (cc : Int), .int .i64 no, .int .i64 k, .string a, .string b, .string t, .int .i64 0, .string ⟨#[]⟩] 61)) w1) := b1.mono (by simp)
  obtain ⟨k0, k1, k2, k3, k4⟩ := (unhide HVK) w1 (unhide HB1)
  obtain ⟨⟨x0, x1, x2, x3⟩, _⟩ := four k0
  obtain ⟨⟨z0, z1⟩, fz⟩ := two k1
  obtain ⟨⟨r0, r1, r2, r3⟩, ⟨r4, r5, r6, r7⟩, _⟩ := eight k2
  have HA1 := hide k1
  have HW1 := hide k3
  clear k0 k1 k2 k3
  clear b1

  go_wp2_with fail
  refine ((unhide HFC) _).mono ?_
  rintro e w2 ⟨rfl, b2⟩
  clear x0 x1 x2 x3 z0 z1 fz r0 r1 r2 r3 r4 r5 r6 r7 k4

  have HB2 : Hid (Below (w.heap.size + 3) (((w.alloc (.cells #[.int .i64 k, .string a, .string b, .string t] 32)).alloc (.cells #[.int .i64 0, .string ⟨#[]⟩] 59)).alloc (.cells #[.int .i64 (cc : Int), .int .i64 no, .int .i64 k, .string a, .string b, .string t, .int .i64 0, .string ⟨#[]⟩] 61)) w2) := (unhide HB1).trans (b2.mono (by have := ((unhide HVK) w1 (unhide HB1)).2.2.2.2; omega))
  obtain ⟨k0, k1, k2, k3, k4⟩ := (unhide HVK) w2 (unhide HB2)
  obtain ⟨⟨x0, x1, x2, x3⟩, _⟩ := four k0
  obtain ⟨⟨z0, z1⟩, fz⟩ := two k1
  obtain ⟨⟨r0, r1, r2, r3⟩, ⟨r4, r5, r6, r7⟩, _⟩ := eight k2
  have HA2 := hide k1
  have HW2 := hide k3
  clear k0 k1 k2 k3
  clear b2

  go_wp2_with fail
  refine ((unhide HCH) _).mono ?_
  rintro e w3 ⟨rfl, rfl⟩

  obtain ⟨l0, l1, l2, l3, l4, l5, l6, l7⟩ := (unhide HLS) w3 (unhide HW2)
  have hzw : w.heap.size < w3.heap.size := by omega
  have hzw1 : w.heap.size + 1 < w3.heap.size := by omega
  have hzw2 : w.heap.size + 2 < w3.heap.size := by omega
  dsimp only at l0 l1 l2 l3 l4 l5 l6 l7
  by_cases heq : no = ln
  · have hcf : cb = false := by
      have hcb := unhide HCB
      cases cb
      · rfl
      · exact absurd ⟨heq, rfl⟩ hcb
    subst hcf
    have heqb : (no == ln) = true := by simpa using heq
    have e32 := unhide HE
    clear heq
    go_wp2
    have hb2 := set2_blk (unhide HA2) (.int .i64 0) (.string ⟨#[]⟩)
    have hk2 := set2_kept w3 (w.heap.size + 1) (.int .i64 0) (.string ⟨#[]⟩)
    unfold set2 at hb2 hk2

    replace hb2 := (Below.heap_alloc _ (.cells #[.int .i64 lc, .int .i64 ln, .int .i64 lk, .string la, .string lb, .string lt, .int .i64 ld, .string lu] 61) (w.heap.size + 1) (Array.getElem?_eq_some_iff.1 hb2).1).trans hb2
    replace hk2 := hk2.trans (Kept.of_below (own := []) ((Below.refl _ _).alloc (Nat.le_refl _) (.cells #[.int .i64 lc, .int .i64 ln, .int .i64 lk, .string la, .string lb, .string lt, .int .i64 ld, .string lu] 61))) (by simp)

    generalize hw8 : (((w3.setCell ⟨w.heap.size + 1, 0, none⟩ (.int .i64 0)).setCell ⟨w.heap.size + 1, 1, none⟩ (.string ⟨#[]⟩)).alloc (.cells #[.int .i64 lc, .int .i64 ln, .int .i64 lk, .string la, .string lb, .string lt, .int .i64 ld, .string lu] 61)) = w99 at hb2 hk2 ⊢
    obtain ⟨⟨p0, p1⟩, _⟩ := two hb2
    refine bodyPost_ret (v := .tuple #[.agg #[.int .i64 0, .string ⟨#[]⟩], .int .i64 10]) (by simp [results, Tryz.results114, go_sem, p0, p1]) rfl ?_
    exact ⟨rfl, STurned.of_below (unhide HH) ((unhide HW2).trans (hk2.below (unhide HW2).size (by simp))) hN⟩

  · have hneq : (no == ln) = false := by simpa using heq
    clear heq
    go_wp2
    have hb2 := set2_blk (unhide HA2) (.int .i64 0) (.string ⟨#[]⟩)
    have hk2 := set2_kept w3 (w.heap.size + 1) (.int .i64 0) (.string ⟨#[]⟩)
    unfold set2 at hb2 hk2

    replace hb2 := (Below.heap_alloc _ (.cells #[.int .i64 lc, .int .i64 ln, .int .i64 lk, .string la, .string lb, .string lt, .int .i64 ld, .string lu] 61) (w.heap.size + 1) (Array.getElem?_eq_some_iff.1 hb2).1).trans hb2
    replace hk2 := hk2.trans (Kept.of_below (own := []) ((Below.refl _ _).alloc (Nat.le_refl _) (.cells #[.int .i64 lc, .int .i64 ln, .int .i64 lk, .string la, .string lb, .string lt, .int .i64 ld, .string lu] 61))) (by simp)

    generalize hw8 : (((w3.setCell ⟨w.heap.size + 1, 0, none⟩ (.int .i64 0)).setCell ⟨w.heap.size + 1, 1, none⟩ (.string ⟨#[]⟩)).alloc (.cells #[.int .i64 lc, .int .i64 ln, .int .i64 lk, .string la, .string lb, .string lt, .int .i64 ld, .string lu] 61)) = w99 at hb2 hk2 ⊢
    obtain ⟨⟨p0, p1⟩, _⟩ := two hb2
    refine bodyPost_ret (v := .tuple #[.agg #[.int .i64 0, .string ⟨#[]⟩], .int .i64 10]) (by simp [results, Tryz.results114, go_sem, p0, p1]) rfl ?_
    exact ⟨rfl, STurned.of_below (unhide HH) ((unhide HW2).trans (hk2.below (unhide HW2).size (by simp))) hN⟩

end Go.Proofs.YtmbhbnoifimeaabGreat
