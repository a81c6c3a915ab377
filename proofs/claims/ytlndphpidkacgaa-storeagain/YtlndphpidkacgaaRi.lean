/- The walk of the reference's Do: rename, append. -/
import Derived.Test.YtlndphpidkacgaaRh
namespace Go.Proofs.Ytlndphpidkacgaa
open Go.RowKit
set_option linter.unusedSimpArgs false
set_option linter.unusedVariables false

set_option maxRecDepth 100000 in
set_option maxHeartbeats 2000000 in
theorem dDo_rename_there (a b t : ByteArray) (N D : Nat) (v : Value) (st : List AFile) (w : World) (hr : DRep w N D v st) (hi : Inv st) (ha : a.size ≤ maxLen) (hb : b.size ≤ maxLen) (ht : t.size ≤ maxLen) (hc : checkI ⟨3, a, b, t⟩ = 0) (hf : 0 ≤ fInt a st)
    (hf2 : 0 ≤ fInt b st) :
    Calls Try.prog 21 #[.pointer (some ⟨D, 0, none⟩), .agg #[.int .i64 3, .string a, .string b, .string t]] w
      fun e w' => e = .returned (.agg #[.int .i64 5, .string ⟨#[]⟩]) ∧ DTurned w N D v w' (st) := by
  have hcon := CallFault_any 3 a b t (doW w 3 a b t) ha hb ht
  have hin := DoIn.start w 3 a b t
  rw [hc] at hcon
  have HI := hide hin
  have HS := hide hr
  have hl := hi.few
  obtain ⟨ga, cap, rfl⟩ := hr.form
  have hcr : ∀ (s : ByteArray) (W : World), DRep W N D (.slice ga st.length cap) st → Calls Try.prog 64 #[.slice ga st.length cap, .string s] W fun e w' => e = .returned (.int .i64 (fInt s st)) ∧ w' = W := fun s W h => at_any s ga cap st W (by omega) h.names
  have HC := hide (hcr a)
  have HC2 := hide (hcr b)
  generalize fInt b st = res at HC2 hf2
  obtain ⟨hx1, hx2⟩ := fIdx_spec a st hf
  rw [hx2] at HC
  obtain ⟨g, hga, hg0, hg1⟩ := hr.file (fIdx a st) (fileAt st (fIdx a st)) (fileAt_get hx1)
  obtain rfl := hga
  have HG0 := hide hg0
  have HG1 := hide hg1
  have HF := hide (fileAt_get hx1)
  have hshort : (fileAt st (fIdx a st)).text.size ≤ 16 := hi.short _ (fileAt_mem hx1)
  generalize fileAt st (fIdx a st) = fl at HG0 HG1 HF hshort  ⊢
  generalize fIdx a st = ix at HC HG0 HG1 HF hx1 ⊢
  have ix0 : (0 : Int) ≤ (ix : Int) := by omega
  have ix1 : (ix : Int) < (st.length : Int) := by omega
  have ixn : ¬ ((ix : Int) < 0) := by omega
  have hDw : D < w.heap.size := hr.ltD
  have hgw : g < w.heap.size := hg0.lt

  unfold doW at hcon
  clear hin hr hc hi hcr hx2 hg0 hg1 hf
  go_enter Try.func21, Try.ntmps21
  go_wp2_with fail
  refine hcon.mono ?_
  rintro e w1 ⟨rfl, b1⟩
  have h1 := (unhide HI).later b1
  have HH := hide h1
  have k0 := h1.k0
  have k1 := h1.k1
  have hs1 := (unhide HS).below h1.below
  have cD := hs1.can.1
  have HS1 := hide hs1
  clear h1 b1 hs1
  go_wp2_with fail
  go_quiet (first | (go_at_call 64; exact Calls.quiet_of_same ((unhide HC) _ ((unhide HS1).below ⟨rfl, rfl, rfl, Nat.le_refl _, fun _ _ => rfl⟩))))
  obtain ⟨w2, hw2⟩ : ∃ w2, w2 = w1.drewN nq := ⟨_, rfl⟩
  have b2 : Below w1.heap.size w1 w2 := by rw [hw2]; exact ⟨rfl, rfl, rfl, Nat.le_refl _, fun _ _ => rfl⟩
  rw [← hw2]
  have h2 := (unhide HH).later b2
  have HH2 := hide h2
  have HS2 := hide ((unhide HS).below h2.below)
  have j0 := h2.k0
  have j2 := h2.k2
  have j3 := h2.k3
  have cD2 := (unhide HS2).can.1
  have cg0 := ((unhide HG0).below h2.below (unhide HG0).lt).1
  have cg1 := ((unhide HG1).below h2.below (unhide HG1).lt).1
  clear hw2 b2 h2 k0 k1 cD
  go_wp2_with fail
  go_quiet (first | (go_at_call 64; exact Calls.quiet_of_same ((unhide HC2) _ ((unhide HS2).below ⟨rfl, rfl, rfl, Nat.le_refl _, fun _ _ => rfl⟩))))
  obtain ⟨w3, hw3⟩ : ∃ w3, w3 = w2.drewN nq := ⟨_, rfl⟩
  have b3 : Below w2.heap.size w2 w3 := by rw [hw3]; exact ⟨rfl, rfl, rfl, Nat.le_refl _, fun _ _ => rfl⟩
  rw [← hw3]
  have h3 := (unhide HH2).later b3
  have HH3 := hide h3
  have HS3 := hide ((unhide HS).below h3.below)
  have l2 := h3.k2
  have l3 := h3.k3
  have cD3 := (unhide HS3).can.1
  have m0 := ((unhide HG0).below h3.below (unhide HG0).lt)
  have m1 := ((unhide HG1).below h3.below (unhide HG1).lt)
  have cm0 := m0.1
  have cm0f := m0.2
  have cm1 := m1.1
  have cm1f := m1.2
  have e1 := h3.a0.1
  have e2 := h3.a0.2
  have e3 := h3.a1.1
  have e4 := h3.a1.2
  have q0 := ans0 (.int .i64 5) (.string ⟨#[]⟩) e1
  have q1 := ans1 (.int .i64 5) (.string ⟨#[]⟩) e3
  clear hw3 b3 h3 m0 m1 j0 j2 j3 cD2 cg0 cg1
  go_wp2
  refine bodyPost_ret (v := .agg #[.int .i64 5, .string ⟨#[]⟩]) (by simp [results, Try.results21, go_sem, q0, q1]) rfl ⟨rfl, ?_⟩
  have hT := DTurned.of_below (unhide HS3) (Below.refl _ w3)
  exact DTurned.store (unhide HS) (unhide HH3).below hT (Nat.le_succ _) (unhide HH3).size (kept_two _ _ _ _)

set_option maxRecDepth 100000 in
set_option maxHeartbeats 2000000 in
theorem dDo_rename_new (a b t : ByteArray) (N D : Nat) (v : Value) (st : List AFile) (w : World) (hr : DRep w N D v st) (hi : Inv st) (ha : a.size ≤ maxLen) (hb : b.size ≤ maxLen) (ht : t.size ≤ maxLen) (hc : checkI ⟨3, a, b, t⟩ = 0) (hf : 0 ≤ fInt a st)
    (hf2 : fInt b st < 0) :
    Calls Try.prog 21 #[.pointer (some ⟨D, 0, none⟩), .agg #[.int .i64 3, .string a, .string b, .string t]] w
      fun e w' => e = .returned (.agg #[.int .i64 0, .string ⟨#[]⟩]) ∧ DTurned w N D v w' (st.set (fIdx a st) ⟨b, (fileAt st (fIdx a st)).text⟩) := by
  have hcon := CallFault_any 3 a b t (doW w 3 a b t) ha hb ht
  have hin := DoIn.start w 3 a b t
  rw [hc] at hcon
  have HI := hide hin
  have HS := hide hr
  have hl := hi.few
  obtain ⟨ga, cap, rfl⟩ := hr.form
  have hcr : ∀ (s : ByteArray) (W : World), DRep W N D (.slice ga st.length cap) st → Calls Try.prog 64 #[.slice ga st.length cap, .string s] W fun e w' => e = .returned (.int .i64 (fInt s st)) ∧ w' = W := fun s W h => at_any s ga cap st W (by omega) h.names
  have HC := hide (hcr a)
  have HC2 := hide (hcr b)
  generalize fInt b st = res at HC2 hf2
  obtain ⟨hx1, hx2⟩ := fIdx_spec a st hf
  rw [hx2] at HC
  obtain ⟨g, hga, hg0, hg1⟩ := hr.file (fIdx a st) (fileAt st (fIdx a st)) (fileAt_get hx1)
  obtain rfl := hga
  have HG0 := hide hg0
  have HG1 := hide hg1
  have HF := hide (fileAt_get hx1)
  have hshort : (fileAt st (fIdx a st)).text.size ≤ 16 := hi.short _ (fileAt_mem hx1)
  generalize fileAt st (fIdx a st) = fl at HG0 HG1 HF hshort  ⊢
  generalize fIdx a st = ix at HC HG0 HG1 HF hx1 ⊢
  have ix0 : (0 : Int) ≤ (ix : Int) := by omega
  have ix1 : (ix : Int) < (st.length : Int) := by omega
  have ixn : ¬ ((ix : Int) < 0) := by omega
  have hDw : D < w.heap.size := hr.ltD
  have hgw : g < w.heap.size := hg0.lt
  have hrn : ¬ (0 ≤ res) := by omega
  unfold doW at hcon
  clear hin hr hc hi hcr hx2 hg0 hg1 hf
  go_enter Try.func21, Try.ntmps21
  go_wp2_with fail
  refine hcon.mono ?_
  rintro e w1 ⟨rfl, b1⟩
  have h1 := (unhide HI).later b1
  have HH := hide h1
  have k0 := h1.k0
  have k1 := h1.k1
  have hs1 := (unhide HS).below h1.below
  have cD := hs1.can.1
  have HS1 := hide hs1
  clear h1 b1 hs1
  go_wp2_with fail
  go_quiet (first | (go_at_call 64; exact Calls.quiet_of_same ((unhide HC) _ ((unhide HS1).below ⟨rfl, rfl, rfl, Nat.le_refl _, fun _ _ => rfl⟩))))
  obtain ⟨w2, hw2⟩ : ∃ w2, w2 = w1.drewN nq := ⟨_, rfl⟩
  have b2 : Below w1.heap.size w1 w2 := by rw [hw2]; exact ⟨rfl, rfl, rfl, Nat.le_refl _, fun _ _ => rfl⟩
  rw [← hw2]
  have h2 := (unhide HH).later b2
  have HH2 := hide h2
  have HS2 := hide ((unhide HS).below h2.below)
  have j0 := h2.k0
  have j2 := h2.k2
  have j3 := h2.k3
  have cD2 := (unhide HS2).can.1
  have cg0 := ((unhide HG0).below h2.below (unhide HG0).lt).1
  have cg1 := ((unhide HG1).below h2.below (unhide HG1).lt).1
  clear hw2 b2 h2 k0 k1 cD
  go_wp2_with fail
  go_quiet (first | (go_at_call 64; exact Calls.quiet_of_same ((unhide HC2) _ ((unhide HS2).below ⟨rfl, rfl, rfl, Nat.le_refl _, fun _ _ => rfl⟩))))
  obtain ⟨w3, hw3⟩ : ∃ w3, w3 = w2.drewN nq := ⟨_, rfl⟩
  have b3 : Below w2.heap.size w2 w3 := by rw [hw3]; exact ⟨rfl, rfl, rfl, Nat.le_refl _, fun _ _ => rfl⟩
  rw [← hw3]
  have h3 := (unhide HH2).later b3
  have HH3 := hide h3
  have HS3 := hide ((unhide HS).below h3.below)
  have l2 := h3.k2
  have l3 := h3.k3
  have cD3 := (unhide HS3).can.1
  have m0 := ((unhide HG0).below h3.below (unhide HG0).lt)
  have m1 := ((unhide HG1).below h3.below (unhide HG1).lt)
  have cm0 := m0.1
  have cm0f := m0.2
  have cm1 := m1.1
  have cm1f := m1.2
  clear hw3 b3 h3 m0 m1 j0 j2 j3 cD2 cg0 cg1
  go_wp2_with fail
  go_region
  all_goals
    obtain ⟨w4, hw4⟩ : ∃ w4, w4 = (w3.setCell ⟨g, ix * 2, none⟩ (.string b)).drew := ⟨_, rfl⟩
    rw [← hw4]
    have b4 : Below w3.heap.size w3 w3.drew := below_drew w3
    have HS4 := hide ((unhide HS3).below b4)
    have h4 := (unhide HH3).later b4
    have HH4 := hide h4
    have hT : DTurned w3.drew N D (.slice (some ⟨g, 0, none⟩) st.length cap) w4 (st.set ix ⟨b, fl.text⟩) := by rw [hw4]; exact (unhide HS4).setFile ix 0 fl ⟨b, fl.text⟩ (.string b) (unhide HF) (by omega) (by simp [dCells])
    have c0 := hT.can h4.a0 (by omega) (by simp [Value.ownBlock]; omega)
    have c1 := hT.can h4.a1 (by omega) (by simp [Value.ownBlock]; omega)
    have e1 := c0.1
    have e2 := c0.2
    have e3 := c1.1
    have e4 := c1.2
    have q0 := ans0 (.int .i64 0) (.string ⟨#[]⟩) e1
    have q1 := ans1 (.int .i64 0) (.string ⟨#[]⟩) e3
    have HT := hide hT
    clear hw4 b4 h4 hT c0 c1
    go_wp2
    refine bodyPost_ret (v := .agg #[.int .i64 0, .string ⟨#[]⟩]) (by simp [results, Try.results21, go_sem, q0, q1]) rfl ⟨rfl, ?_⟩
    exact DTurned.store (unhide HS) (unhide HH4).below (unhide HT) (Nat.le_succ _) (unhide HH4).size (kept_two _ _ _ _)

set_option maxRecDepth 100000 in
set_option maxHeartbeats 2000000 in
theorem dDo_put_full (a b t : ByteArray) (N D : Nat) (v : Value) (st : List AFile) (w : World) (hr : DRep w N D v st) (hi : Inv st) (ha : a.size ≤ maxLen) (hb : b.size ≤ maxLen) (ht : t.size ≤ maxLen) (hc : checkI ⟨4, a, b, t⟩ = 0) (hf : 0 ≤ fInt a st)
    (hts : t.size ≤ 1000) (h16 : 16 < (fileAt st (fIdx a st)).text.size + t.size) :
    Calls Try.prog 21 #[.pointer (some ⟨D, 0, none⟩), .agg #[.int .i64 4, .string a, .string b, .string t]] w
      fun e w' => e = .returned (.agg #[.int .i64 7, .string ⟨#[]⟩]) ∧ DTurned w N D v w' (st) := by
  have hcon := CallFault_any 4 a b t (doW w 4 a b t) ha hb ht
  have hin := DoIn.start w 4 a b t
  rw [hc] at hcon
  have HI := hide hin
  have HS := hide hr
  have hl := hi.few
  obtain ⟨ga, cap, rfl⟩ := hr.form
  have hcr : ∀ (s : ByteArray) (W : World), DRep W N D (.slice ga st.length cap) st → Calls Try.prog 64 #[.slice ga st.length cap, .string s] W fun e w' => e = .returned (.int .i64 (fInt s st)) ∧ w' = W := fun s W h => at_any s ga cap st W (by omega) h.names
  have HC := hide (hcr a)

  obtain ⟨hx1, hx2⟩ := fIdx_spec a st hf
  rw [hx2] at HC
  obtain ⟨g, hga, hg0, hg1⟩ := hr.file (fIdx a st) (fileAt st (fIdx a st)) (fileAt_get hx1)
  obtain rfl := hga
  have HG0 := hide hg0
  have HG1 := hide hg1
  have HF := hide (fileAt_get hx1)
  have hshort : (fileAt st (fIdx a st)).text.size ≤ 16 := hi.short _ (fileAt_mem hx1)
  generalize fileAt st (fIdx a st) = fl at HG0 HG1 HF hshort h16 ⊢
  generalize fIdx a st = ix at HC HG0 HG1 HF hx1 ⊢
  have ix0 : (0 : Int) ≤ (ix : Int) := by omega
  have ix1 : (ix : Int) < (st.length : Int) := by omega
  have ixn : ¬ ((ix : Int) < 0) := by omega
  have hDw : D < w.heap.size := hr.ltD
  have hgw : g < w.heap.size := hg0.lt
  have g16 : (16 : Int) < (fl.text.size : Int) + (t.size : Int) := by omega
  have hwr : IntKind.i64.wrap ((fl.text.size : Int) + (t.size : Int)) = (fl.text.size : Int) + (t.size : Int) := by rw [IntKind.wrap_i64]; omega
  unfold doW at hcon
  clear hin hr hc hi hcr hx2 hg0 hg1 hf
  go_enter Try.func21, Try.ntmps21
  go_wp2_with fail
  refine hcon.mono ?_
  rintro e w1 ⟨rfl, b1⟩
  have h1 := (unhide HI).later b1
  have HH := hide h1
  have k0 := h1.k0
  have k1 := h1.k1
  have hs1 := (unhide HS).below h1.below
  have cD := hs1.can.1
  have HS1 := hide hs1
  clear h1 b1 hs1
  go_wp2_with fail
  go_quiet (first | (go_at_call 64; exact Calls.quiet_of_same ((unhide HC) _ ((unhide HS1).below ⟨rfl, rfl, rfl, Nat.le_refl _, fun _ _ => rfl⟩))))
  obtain ⟨w2, hw2⟩ : ∃ w2, w2 = w1.drewN nq := ⟨_, rfl⟩
  have b2 : Below w1.heap.size w1 w2 := by rw [hw2]; exact ⟨rfl, rfl, rfl, Nat.le_refl _, fun _ _ => rfl⟩
  rw [← hw2]
  have h2 := (unhide HH).later b2
  have HH2 := hide h2
  have HS2 := hide ((unhide HS).below h2.below)
  have j0 := h2.k0
  have j2 := h2.k2
  have j3 := h2.k3
  have cD2 := (unhide HS2).can.1
  have cg0 := ((unhide HG0).below h2.below (unhide HG0).lt).1
  have cg1 := ((unhide HG1).below h2.below (unhide HG1).lt).1
  clear hw2 b2 h2 k0 k1 cD
  go_wp2_with fail
  go_quiet (fail)
  obtain ⟨w3, hw3⟩ : ∃ w3, w3 = w2.drewN nq := ⟨_, rfl⟩
  have b3 : Below w2.heap.size w2 w3 := by rw [hw3]; exact ⟨rfl, rfl, rfl, Nat.le_refl _, fun _ _ => rfl⟩
  rw [← hw3]
  have h3 := (unhide HH2).later b3
  have HH3 := hide h3
  have HS3 := hide ((unhide HS).below h3.below)
  have l2 := h3.k2
  have l3 := h3.k3
  have cD3 := (unhide HS3).can.1
  have m0 := ((unhide HG0).below h3.below (unhide HG0).lt)
  have m1 := ((unhide HG1).below h3.below (unhide HG1).lt)
  have cm0 := m0.1
  have cm0f := m0.2
  have cm1 := m1.1
  have cm1f := m1.2
  have e1 := h3.a0.1
  have e2 := h3.a0.2
  have e3 := h3.a1.1
  have e4 := h3.a1.2
  have q0 := ans0 (.int .i64 7) (.string ⟨#[]⟩) e1
  have q1 := ans1 (.int .i64 7) (.string ⟨#[]⟩) e3
  clear hw3 b3 h3 m0 m1 j0 j2 j3 cD2 cg0 cg1
  go_wp2
  refine bodyPost_ret (v := .agg #[.int .i64 7, .string ⟨#[]⟩]) (by simp [results, Try.results21, go_sem, q0, q1]) rfl ⟨rfl, ?_⟩
  have hT := DTurned.of_below (unhide HS3) (Below.refl _ w3)
  exact DTurned.store (unhide HS) (unhide HH3).below hT (Nat.le_succ _) (unhide HH3).size (kept_two _ _ _ _)

set_option maxRecDepth 100000 in
set_option maxHeartbeats 2000000 in
theorem dDo_put_some (a b t : ByteArray) (N D : Nat) (v : Value) (st : List AFile) (w : World) (hr : DRep w N D v st) (hi : Inv st) (ha : a.size ≤ maxLen) (hb : b.size ≤ maxLen) (ht : t.size ≤ maxLen) (hc : checkI ⟨4, a, b, t⟩ = 0) (hf : 0 ≤ fInt a st)
    (hts : t.size ≤ 1000) (h16 : (fileAt st (fIdx a st)).text.size + t.size ≤ 16) :
    Calls Try.prog 21 #[.pointer (some ⟨D, 0, none⟩), .agg #[.int .i64 4, .string a, .string b, .string t]] w
      fun e w' => e = .returned (.agg #[.int .i64 0, .string ⟨#[]⟩]) ∧ DTurned w N D v w' (st.set (fIdx a st) ⟨(fileAt st (fIdx a st)).name, (fileAt st (fIdx a st)).text ++ t⟩) := by
  have hcon := CallFault_any 4 a b t (doW w 4 a b t) ha hb ht
  have hin := DoIn.start w 4 a b t
  rw [hc] at hcon
  have HI := hide hin
  have HS := hide hr
  have hl := hi.few
  obtain ⟨ga, cap, rfl⟩ := hr.form
  have hcr : ∀ (s : ByteArray) (W : World), DRep W N D (.slice ga st.length cap) st → Calls Try.prog 64 #[.slice ga st.length cap, .string s] W fun e w' => e = .returned (.int .i64 (fInt s st)) ∧ w' = W := fun s W h => at_any s ga cap st W (by omega) h.names
  have HC := hide (hcr a)

  obtain ⟨hx1, hx2⟩ := fIdx_spec a st hf
  rw [hx2] at HC
  obtain ⟨g, hga, hg0, hg1⟩ := hr.file (fIdx a st) (fileAt st (fIdx a st)) (fileAt_get hx1)
  obtain rfl := hga
  have HG0 := hide hg0
  have HG1 := hide hg1
  have HF := hide (fileAt_get hx1)
  have hshort : (fileAt st (fIdx a st)).text.size ≤ 16 := hi.short _ (fileAt_mem hx1)
  generalize fileAt st (fIdx a st) = fl at HG0 HG1 HF hshort h16 ⊢
  generalize fIdx a st = ix at HC HG0 HG1 HF hx1 ⊢
  have ix0 : (0 : Int) ≤ (ix : Int) := by omega
  have ix1 : (ix : Int) < (st.length : Int) := by omega
  have ixn : ¬ ((ix : Int) < 0) := by omega
  have hDw : D < w.heap.size := hr.ltD
  have hgw : g < w.heap.size := hg0.lt
  have g16 : ¬ ((16 : Int) < (fl.text.size : Int) + (t.size : Int)) := by omega
  have hwr : IntKind.i64.wrap ((fl.text.size : Int) + (t.size : Int)) = (fl.text.size : Int) + (t.size : Int) := by rw [IntKind.wrap_i64]; omega
  unfold doW at hcon
  clear hin hr hc hi hcr hx2 hg0 hg1 hf
  go_enter Try.func21, Try.ntmps21
  go_wp2_with fail
  refine hcon.mono ?_
  rintro e w1 ⟨rfl, b1⟩
  have h1 := (unhide HI).later b1
  have HH := hide h1
  have k0 := h1.k0
  have k1 := h1.k1
  have hs1 := (unhide HS).below h1.below
  have cD := hs1.can.1
  have HS1 := hide hs1
  clear h1 b1 hs1
  go_wp2_with fail
  go_quiet (first | (go_at_call 64; exact Calls.quiet_of_same ((unhide HC) _ ((unhide HS1).below ⟨rfl, rfl, rfl, Nat.le_refl _, fun _ _ => rfl⟩))))
  obtain ⟨w2, hw2⟩ : ∃ w2, w2 = w1.drewN nq := ⟨_, rfl⟩
  have b2 : Below w1.heap.size w1 w2 := by rw [hw2]; exact ⟨rfl, rfl, rfl, Nat.le_refl _, fun _ _ => rfl⟩
  rw [← hw2]
  have h2 := (unhide HH).later b2
  have HH2 := hide h2
  have HS2 := hide ((unhide HS).below h2.below)
  have j0 := h2.k0
  have j2 := h2.k2
  have j3 := h2.k3
  have cD2 := (unhide HS2).can.1
  have cg0 := ((unhide HG0).below h2.below (unhide HG0).lt).1
  have cg1 := ((unhide HG1).below h2.below (unhide HG1).lt).1
  clear hw2 b2 h2 k0 k1 cD
  go_wp2_with fail
  go_quiet (fail)
  obtain ⟨w3, hw3⟩ : ∃ w3, w3 = w2.drewN nq := ⟨_, rfl⟩
  have b3 : Below w2.heap.size w2 w3 := by rw [hw3]; exact ⟨rfl, rfl, rfl, Nat.le_refl _, fun _ _ => rfl⟩
  rw [← hw3]
  have h3 := (unhide HH2).later b3
  have HH3 := hide h3
  have HS3 := hide ((unhide HS).below h3.below)
  have l2 := h3.k2
  have l3 := h3.k3
  have cD3 := (unhide HS3).can.1
  have m0 := ((unhide HG0).below h3.below (unhide HG0).lt)
  have m1 := ((unhide HG1).below h3.below (unhide HG1).lt)
  have cm0 := m0.1
  have cm0f := m0.2
  have cm1 := m1.1
  have cm1f := m1.2
  clear hw3 b3 h3 m0 m1 j0 j2 j3 cD2 cg0 cg1
  go_wp2_with fail
  go_region
  all_goals
    obtain ⟨w4, hw4⟩ : ∃ w4, w4 = (w3.setCell ⟨g, ix * 2 + 1, none⟩ (.string (fl.text ++ t))).drew := ⟨_, rfl⟩
    rw [← hw4]
    have b4 : Below w3.heap.size w3 w3.drew := below_drew w3
    have HS4 := hide ((unhide HS3).below b4)
    have h4 := (unhide HH3).later b4
    have HH4 := hide h4
    have hT : DTurned w3.drew N D (.slice (some ⟨g, 0, none⟩) st.length cap) w4 (st.set ix ⟨fl.name, fl.text ++ t⟩) := by rw [hw4]; exact (unhide HS4).setFile ix 1 fl ⟨fl.name, fl.text ++ t⟩ (.string (fl.text ++ t)) (unhide HF) (by omega) (by simp [dCells])
    have c0 := hT.can h4.a0 (by omega) (by simp [Value.ownBlock]; omega)
    have c1 := hT.can h4.a1 (by omega) (by simp [Value.ownBlock]; omega)
    have e1 := c0.1
    have e2 := c0.2
    have e3 := c1.1
    have e4 := c1.2
    have q0 := ans0 (.int .i64 0) (.string ⟨#[]⟩) e1
    have q1 := ans1 (.int .i64 0) (.string ⟨#[]⟩) e3
    have HT := hide hT
    clear hw4 b4 h4 hT c0 c1
    go_wp2
    refine bodyPost_ret (v := .agg #[.int .i64 0, .string ⟨#[]⟩]) (by simp [results, Try.results21, go_sem, q0, q1]) rfl ⟨rfl, ?_⟩
    exact DTurned.store (unhide HS) (unhide HH4).below (unhide HT) (Nat.le_succ _) (unhide HH4).size (kept_two _ _ _ _)

end Go.Proofs.Ytlndphpidkacgaa
