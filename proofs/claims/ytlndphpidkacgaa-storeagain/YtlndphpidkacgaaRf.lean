/- The walk of the reference's Do: a code; no such file; a file that is there; too many; read. -/
import Derived.Test.YtlndphpidkacgaaRe
namespace Go.Proofs.Ytlndphpidkacgaa
open Go.RowKit
set_option linter.unusedSimpArgs false
set_option linter.unusedVariables false

set_option maxRecDepth 100000 in
set_option maxHeartbeats 1000000 in
theorem dDo_code (k : Int) (a b t : ByteArray) (N D : Nat) (v : Value) (st : List AFile) (w : World) (hr : DRep w N D v st) (ha : a.size ≤ maxLen) (hb : b.size ≤ maxLen) (ht : t.size ≤ maxLen) (hc : checkI ⟨k, a, b, t⟩ ≠ 0) :
    Calls Try.prog 21 #[.pointer (some ⟨D, 0, none⟩), .agg #[.int .i64 k, .string a, .string b, .string t]] w
      fun e w' => e = .returned (.agg #[.int .i64 (checkI ⟨k, a, b, t⟩), .string ⟨#[]⟩]) ∧ DTurned w N D v w' st := by
  have hcon := CallFault_any k a b t (doW w k a b t) ha hb ht
  have hin := DoIn.start w k a b t
  generalize checkI ⟨k, a, b, t⟩ = code at hcon hc ⊢
  have hc1 : (code != 0) = true := by simpa using hc
  have HI := hide hin
  have HS := hide hr
  unfold doW at hcon
  clear hin hr hc
  go_enter Try.func21, Try.ntmps21
  go_wp2_with fail
  refine hcon.mono ?_
  rintro e w1 ⟨rfl, b1⟩
  have h1 := (unhide HI).later b1
  have HH := hide h1
  have e1 := h1.a0.1
  have e2 := h1.a0.2
  have e3 := h1.a1.1
  have e4 := h1.a1.2
  clear h1 b1
  have q0 := ans0 (.int .i64 code) (.string ⟨#[]⟩) e1
  have q1 := ans1 (.int .i64 code) (.string ⟨#[]⟩) e3
  go_wp2
  refine bodyPost_ret (v := .agg #[.int .i64 code, .string ⟨#[]⟩]) (by simp [results, Try.results21, go_sem, q0, q1]) rfl ⟨rfl, ?_⟩
  have hT := DTurned.of_below ((unhide HS).below (unhide HH).below) (Below.refl _ w1)
  exact DTurned.store (unhide HS) (unhide HH).below hT (Nat.le_succ _) (unhide HH).size (kept_two _ _ _ _)

set_option maxRecDepth 100000 in
set_option maxHeartbeats 2000000 in
theorem dDo_none (k : Int) (a b t : ByteArray) (N D : Nat) (v : Value) (st : List AFile) (w : World) (hr : DRep w N D v st) (hi : Inv st) (ha : a.size ≤ maxLen) (hb : b.size ≤ maxLen) (ht : t.size ≤ maxLen) (hc : checkI ⟨k, a, b, t⟩ = 0)
    (h1 : k ≠ 1) (h6 : k ≠ 6) (hf : fInt a st < 0) :
    Calls Try.prog 21 #[.pointer (some ⟨D, 0, none⟩), .agg #[.int .i64 k, .string a, .string b, .string t]] w
      fun e w' => e = .returned (.agg #[.int .i64 6, .string ⟨#[]⟩]) ∧ DTurned w N D v w' st := by
  have hcon := CallFault_any k a b t (doW w k a b t) ha hb ht
  have hin := DoIn.start w k a b t
  rw [hc] at hcon
  have HI := hide hin
  have HS := hide hr
  have hl := hi.few
  obtain ⟨ga, cap, rfl⟩ := hr.form
  have hcr : ∀ W : World, DRep W N D (.slice ga st.length cap) st → Calls Try.prog 64 #[.slice ga st.length cap, .string a] W fun e w' => e = .returned (.int .i64 (fInt a st)) ∧ w' = W := fun W h => at_any a ga cap st W (by omega) h.names
  have HC := hide hcr
  generalize fInt a st = res at HC hf
  have n1 : (k == 1) = false := by simpa using h1
  have n6 : (k == 6) = false := by simpa using h6
  clear h1 h6
  unfold doW at hcon
  clear hin hr hc hi hcr
  go_enter Try.func21, Try.ntmps21
  go_wp2_with fail
  refine hcon.mono ?_
  rintro e w1 ⟨rfl, b1⟩
  have h1 := (unhide HI).later b1
  have HH := hide h1
  have k0 := h1.k0
  have k1 := h1.k1
  have hs1 := (unhide HS).below h1.below
  have cD := hs1.can.1
  have HS1 := hide hs1
  clear h1 b1 hs1
  go_wp2_with fail
  go_quiet (first | (go_at_call 64; exact Calls.quiet_of_same ((unhide HC) _ ((unhide HS1).below ⟨rfl, rfl, rfl, Nat.le_refl _, fun _ _ => rfl⟩))))
  obtain ⟨w2, hw2⟩ : ∃ w2, w2 = w1.drewN nq := ⟨_, rfl⟩
  have b2 : Below w1.heap.size w1 w2 := by rw [hw2]; exact ⟨rfl, rfl, rfl, Nat.le_refl _, fun _ _ => rfl⟩
  rw [← hw2]
  have h2 := (unhide HH).later b2
  have HH2 := hide h2
  have HS2 := hide ((unhide HS).below h2.below)
  have j0 := h2.k0
  have cD2 := (unhide HS2).can.1
  have e1 := h2.a0.1
  have e2 := h2.a0.2
  have e3 := h2.a1.1
  have e4 := h2.a1.2

  have q0 := ans0 (.int .i64 6) (.string ⟨#[]⟩) e1
  have q1 := ans1 (.int .i64 6) (.string ⟨#[]⟩) e3
  clear hw2 b2 h2 k0 k1 cD
  go_wp2
  refine bodyPost_ret (v := .agg #[.int .i64 6, .string ⟨#[]⟩]) (by simp [results, Try.results21, go_sem, q0, q1]) rfl ⟨rfl, ?_⟩
  have hT := DTurned.of_below (unhide HS2) (Below.refl _ w2)
  exact DTurned.store (unhide HS) (unhide HH2).below hT (Nat.le_succ _) (unhide HH2).size (kept_two _ _ _ _)

set_option maxRecDepth 100000 in
set_option maxHeartbeats 2000000 in
theorem dDo_there (a b t : ByteArray) (N D : Nat) (v : Value) (st : List AFile) (w : World) (hr : DRep w N D v st) (hi : Inv st) (ha : a.size ≤ maxLen) (hb : b.size ≤ maxLen) (ht : t.size ≤ maxLen) (hc : checkI ⟨1, a, b, t⟩ = 0)
    (hf : 0 ≤ fInt a st) :
    Calls Try.prog 21 #[.pointer (some ⟨D, 0, none⟩), .agg #[.int .i64 1, .string a, .string b, .string t]] w
      fun e w' => e = .returned (.agg #[.int .i64 5, .string ⟨#[]⟩]) ∧ DTurned w N D v w' st := by
  have hcon := CallFault_any 1 a b t (doW w 1 a b t) ha hb ht
  have hin := DoIn.start w 1 a b t
  rw [hc] at hcon
  have HI := hide hin
  have HS := hide hr
  have hl := hi.few
  obtain ⟨ga, cap, rfl⟩ := hr.form
  have hcr : ∀ W : World, DRep W N D (.slice ga st.length cap) st → Calls Try.prog 64 #[.slice ga st.length cap, .string a] W fun e w' => e = .returned (.int .i64 (fInt a st)) ∧ w' = W := fun W h => at_any a ga cap st W (by omega) h.names
  have HC := hide hcr
  generalize fInt a st = res at HC hf
  unfold doW at hcon
  clear hin hr hc hi hcr
  go_enter Try.func21, Try.ntmps21
  go_wp2_with fail
  refine hcon.mono ?_
  rintro e w1 ⟨rfl, b1⟩
  have h1 := (unhide HI).later b1
  have HH := hide h1
  have k0 := h1.k0
  have k1 := h1.k1
  have hs1 := (unhide HS).below h1.below
  have cD := hs1.can.1
  have HS1 := hide hs1
  clear h1 b1 hs1
  go_wp2_with fail
  go_quiet (first | (go_at_call 64; exact Calls.quiet_of_same ((unhide HC) _ ((unhide HS1).below ⟨rfl, rfl, rfl, Nat.le_refl _, fun _ _ => rfl⟩))))
  obtain ⟨w2, hw2⟩ : ∃ w2, w2 = w1.drewN nq := ⟨_, rfl⟩
  have b2 : Below w1.heap.size w1 w2 := by rw [hw2]; exact ⟨rfl, rfl, rfl, Nat.le_refl _, fun _ _ => rfl⟩
  rw [← hw2]
  have h2 := (unhide HH).later b2
  have HH2 := hide h2
  have HS2 := hide ((unhide HS).below h2.below)
  have j0 := h2.k0
  have cD2 := (unhide HS2).can.1
  have e1 := h2.a0.1
  have e2 := h2.a0.2
  have e3 := h2.a1.1
  have e4 := h2.a1.2

  have q0 := ans0 (.int .i64 5) (.string ⟨#[]⟩) e1
  have q1 := ans1 (.int .i64 5) (.string ⟨#[]⟩) e3
  clear hw2 b2 h2 k0 k1 cD
  go_wp2
  refine bodyPost_ret (v := .agg #[.int .i64 5, .string ⟨#[]⟩]) (by simp [results, Try.results21, go_sem, q0, q1]) rfl ⟨rfl, ?_⟩
  have hT := DTurned.of_below (unhide HS2) (Below.refl _ w2)
  exact DTurned.store (unhide HS) (unhide HH2).below hT (Nat.le_succ _) (unhide HH2).size (kept_two _ _ _ _)

set_option maxRecDepth 100000 in
set_option maxHeartbeats 2000000 in
theorem dDo_full (a b t : ByteArray) (N D : Nat) (v : Value) (st : List AFile) (w : World) (hr : DRep w N D v st) (hi : Inv st) (ha : a.size ≤ maxLen) (hb : b.size ≤ maxLen) (ht : t.size ≤ maxLen) (hc : checkI ⟨1, a, b, t⟩ = 0)
    (hf : fInt a st < 0) (h6 : 6 ≤ st.length) :
    Calls Try.prog 21 #[.pointer (some ⟨D, 0, none⟩), .agg #[.int .i64 1, .string a, .string b, .string t]] w
      fun e w' => e = .returned (.agg #[.int .i64 7, .string ⟨#[]⟩]) ∧ DTurned w N D v w' st := by
  have hcon := CallFault_any 1 a b t (doW w 1 a b t) ha hb ht
  have hin := DoIn.start w 1 a b t
  rw [hc] at hcon
  have HI := hide hin
  have HS := hide hr
  have hl := hi.few
  obtain ⟨ga, cap, rfl⟩ := hr.form
  have hcr : ∀ W : World, DRep W N D (.slice ga st.length cap) st → Calls Try.prog 64 #[.slice ga st.length cap, .string a] W fun e w' => e = .returned (.int .i64 (fInt a st)) ∧ w' = W := fun W h => at_any a ga cap st W (by omega) h.names
  have HC := hide hcr
  generalize fInt a st = res at HC hf
  have h66 : (6 : Int) ≤ (st.length : Int) := by omega
  have hfn : ¬ (0 ≤ res) := by omega
  unfold doW at hcon
  clear hin hr hc hi hcr
  go_enter Try.func21, Try.ntmps21
  go_wp2_with fail
  refine hcon.mono ?_
  rintro e w1 ⟨rfl, b1⟩
  have h1 := (unhide HI).later b1
  have HH := hide h1
  have k0 := h1.k0
  have k1 := h1.k1
  have hs1 := (unhide HS).below h1.below
  have cD := hs1.can.1
  have HS1 := hide hs1
  clear h1 b1 hs1
  go_wp2_with fail
  go_quiet (first | (go_at_call 64; exact Calls.quiet_of_same ((unhide HC) _ ((unhide HS1).below ⟨rfl, rfl, rfl, Nat.le_refl _, fun _ _ => rfl⟩))))
  obtain ⟨w2, hw2⟩ : ∃ w2, w2 = w1.drewN nq := ⟨_, rfl⟩
  have b2 : Below w1.heap.size w1 w2 := by rw [hw2]; exact ⟨rfl, rfl, rfl, Nat.le_refl _, fun _ _ => rfl⟩
  rw [← hw2]
  have h2 := (unhide HH).later b2
  have HH2 := hide h2
  have HS2 := hide ((unhide HS).below h2.below)
  have j0 := h2.k0
  have cD2 := (unhide HS2).can.1
  have e1 := h2.a0.1
  have e2 := h2.a0.2
  have e3 := h2.a1.1
  have e4 := h2.a1.2

  have q0 := ans0 (.int .i64 7) (.string ⟨#[]⟩) e1
  have q1 := ans1 (.int .i64 7) (.string ⟨#[]⟩) e3
  clear hw2 b2 h2 k0 k1 cD
  go_wp2
  refine bodyPost_ret (v := .agg #[.int .i64 7, .string ⟨#[]⟩]) (by simp [results, Try.results21, go_sem, q0, q1]) rfl ⟨rfl, ?_⟩
  have hT := DTurned.of_below (unhide HS2) (Below.refl _ w2)
  exact DTurned.store (unhide HS) (unhide HH2).below hT (Nat.le_succ _) (unhide HH2).size (kept_two _ _ _ _)

set_option maxRecDepth 100000 in
set_option maxHeartbeats 2000000 in
theorem dDo_read (a b t : ByteArray) (N D : Nat) (v : Value) (st : List AFile) (w : World) (hr : DRep w N D v st) (hi : Inv st) (ha : a.size ≤ maxLen) (hb : b.size ≤ maxLen) (ht : t.size ≤ maxLen) (hc : checkI ⟨5, a, b, t⟩ = 0)
    (hf : 0 ≤ fInt a st) :
    Calls Try.prog 21 #[.pointer (some ⟨D, 0, none⟩), .agg #[.int .i64 5, .string a, .string b, .string t]] w
      fun e w' => e = .returned (.agg #[.int .i64 0, .string (fileAt st (fIdx a st)).text]) ∧ DTurned w N D v w' st := by
  have hcon := CallFault_any 5 a b t (doW w 5 a b t) ha hb ht
  have hin := DoIn.start w 5 a b t
  rw [hc] at hcon
  have HI := hide hin
  have HS := hide hr
  have hl := hi.few
  obtain ⟨ga, cap, rfl⟩ := hr.form
  have hcr : ∀ W : World, DRep W N D (.slice ga st.length cap) st → Calls Try.prog 64 #[.slice ga st.length cap, .string a] W fun e w' => e = .returned (.int .i64 (fInt a st)) ∧ w' = W := fun W h => at_any a ga cap st W (by omega) h.names
  have HC := hide hcr
  obtain ⟨hx1, hx2⟩ := fIdx_spec a st hf
  rw [hx2] at HC
  obtain ⟨g, hga, hg0, hg1⟩ := hr.file (fIdx a st) (fileAt st (fIdx a st)) (fileAt_get hx1)
  obtain rfl := hga
  have HG := hide hg1
  generalize (fileAt st (fIdx a st)).text = tx at HG ⊢
  generalize fIdx a st = ix at HC HG hx1
  have ix0 : (0 : Int) ≤ (ix : Int) := by omega
  have ix1 : (ix : Int) < (st.length : Int) := by omega
  have ixn : ¬ ((ix : Int) < 0) := by omega
  clear hx2 hg0 hg1 hf
  unfold doW at hcon
  clear hin hr hc hi hcr
  go_enter Try.func21, Try.ntmps21
  go_wp2_with fail
  refine hcon.mono ?_
  rintro e w1 ⟨rfl, b1⟩
  have h1 := (unhide HI).later b1
  have HH := hide h1
  have k0 := h1.k0
  have k1 := h1.k1
  have hs1 := (unhide HS).below h1.below
  have cD := hs1.can.1
  have HS1 := hide hs1
  clear h1 b1 hs1
  go_wp2_with fail
  go_quiet (first | (go_at_call 64; exact Calls.quiet_of_same ((unhide HC) _ ((unhide HS1).below ⟨rfl, rfl, rfl, Nat.le_refl _, fun _ _ => rfl⟩))))
  obtain ⟨w2, hw2⟩ : ∃ w2, w2 = w1.drewN nq := ⟨_, rfl⟩
  have b2 : Below w1.heap.size w1 w2 := by rw [hw2]; exact ⟨rfl, rfl, rfl, Nat.le_refl _, fun _ _ => rfl⟩
  rw [← hw2]
  have h2 := (unhide HH).later b2
  have HH2 := hide h2
  have HS2 := hide ((unhide HS).below h2.below)
  have j0 := h2.k0
  have cD2 := (unhide HS2).can.1
  have e1 := h2.a0.1
  have e2 := h2.a0.2
  have e3 := h2.a1.1
  have e4 := h2.a1.2
  have cg := ((unhide HG).below h2.below (unhide HG).lt).1
  have q0 := ans0 (.int .i64 0) (.string tx) e1
  have q1 := ans1 (.int .i64 0) (.string tx) e3
  clear hw2 b2 h2 k0 k1 cD
  go_wp2
  refine bodyPost_ret (v := .agg #[.int .i64 0, .string tx]) (by simp [results, Try.results21, go_sem, q0, q1]) rfl ⟨rfl, ?_⟩
  have hT := DTurned.of_below (unhide HS2) (Below.refl _ w2)
  exact DTurned.store (unhide HS) (unhide HH2).below hT (Nat.le_succ _) (unhide HH2).size (kept_two _ _ _ _)

end Go.Proofs.Ytlndphpidkacgaa
