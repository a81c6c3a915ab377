/- The walk of the reference's Do: remove. -/
import Derived.Test.YtlndphpidkacgaaRj
namespace Go.Proofs.Ytlndphpidkacgaa
open Go.RowKit
set_option linter.unusedSimpArgs false
set_option linter.unusedVariables false

theorem dflat_take (st : List AFile) (q : Nat) : (st.take q).flatMap dCells = (st.flatMap dCells).take (q * 2) := by
  induction st generalizing q with
  | nil => simp
  | cons x xs ih =>
    cases q with
    | zero => simp
    | succ q => rw [List.take_succ_cons, List.flatMap_cons, List.flatMap_cons, ih, show (q + 1) * 2 = q * 2 + 1 + 1 by omega]; simp [dCells]
theorem dflat_drop (st : List AFile) (q : Nat) : (st.drop q).flatMap dCells = (st.flatMap dCells).drop (q * 2) := by
  induction st generalizing q with
  | nil => simp
  | cons x xs ih =>
    cases q with
    | zero => simp
    | succ q => rw [List.drop_succ_cons, List.flatMap_cons, ih, show (q + 1) * 2 = q * 2 + 1 + 1 by omega]; simp [dCells]

theorem lies_drow {w : World} {base g n cap : Nat} {st : List AFile} (ho : w.ownsRow base 104 2 (.slice (some ⟨g, 0, none⟩) n cap) n (st.flatMap dCells)) (hn : st.length = n) (q p : Nat) (hq : q ≤ n) (W : World) (hW : W.heap[g]? = w.heap[g]?) :
    Lies W (.slice (some ⟨g, 0, none⟩) q cap) q ((st.take q).flatMap dCells) ∧ Lies W (.slice (if cap = p then some ⟨g, 0, none⟩ else some ⟨g, p * 2, none⟩) (n - p) (cap - p)) (n - p) ((st.drop p).flatMap dCells) := by
  have hc := ho.cells (g := g) rfl
  have e : ∀ i, (⟨g, 0, none⟩ : Addr).add i = ⟨g, i, none⟩ := fun i => by unfold Addr.add; split <;> simp_all
  have e2 : ∀ i, (⟨g, p * 2, none⟩ : Addr).add i = ⟨g, p * 2 + i, none⟩ := fun i => by unfold Addr.add; split <;> simp_all
  have hW' : ∀ i, W.cell? ⟨g, i, none⟩ = w.cell? ⟨g, i, none⟩ := fun i => World.cell?_of_block (a := ⟨g, i, none⟩) hW
  refine ⟨.inr ⟨_, _, rfl, fun j u hu => ?_⟩, ?_⟩
  · rw [e, hW']
    rw [dflat_take, List.getElem?_take] at hu
    split at hu
    · have := hc j u hu
      rwa [e] at this
    · cases hu
  · by_cases h : cap = p
    · rw [if_pos h]
      refine .inr ⟨_, _, rfl, fun j u hu => ?_⟩
      exfalso
      have hnc : n ≤ cap := by
        rcases ho.2 with ⟨he, _⟩ | ⟨g', cap', cur, he, _, _, hnc, _⟩
        · cases he
        · obtain ⟨_, rfl⟩ : g = g' ∧ cap = cap' := by simpa using he
          exact hnc
      rw [List.drop_eq_nil_of_le (by omega)] at hu
      cases hu
    · rw [if_neg h]
      refine .inr ⟨_, _, rfl, fun j u hu => ?_⟩
      rw [e2, hW']
      rw [dflat_drop, List.getElem?_drop] at hu
      have := hc (p * 2 + j) u hu
      rwa [e] at this

set_option maxRecDepth 100000 in
set_option maxHeartbeats 2000000 in
theorem dDo_remove (a b t : ByteArray) (N D : Nat) (v : Value) (st : List AFile) (w : World) (hr : DRep w N D v st) (hi : Inv st) (ha : a.size ≤ maxLen) (hb : b.size ≤ maxLen) (ht : t.size ≤ maxLen) (hc : checkI ⟨2, a, b, t⟩ = 0) (hf : 0 ≤ fInt a st) :
    Calls Try.prog 21 #[.pointer (some ⟨D, 0, none⟩), .agg #[.int .i64 2, .string a, .string b, .string t]] w
      fun e w' => e = .returned (.agg #[.int .i64 0, .string ⟨#[]⟩]) ∧ DTurned w N D v w' (st.eraseIdx (fIdx a st)) := by
  obtain ⟨i0, hi0, hz0, hz1, hz2⟩ := info_parts info104
  have hcon := CallFault_any 2 a b t (doW w 2 a b t) ha hb ht
  have hin := DoIn.start w 2 a b t
  rw [hc] at hcon
  have HI := hide hin
  have HS := hide hr
  have hl := hi.few
  obtain ⟨ga, cap, rfl⟩ := hr.form
  have hcr : ∀ W : World, DRep W N D (.slice ga st.length cap) st → Calls Try.prog 64 #[.slice ga st.length cap, .string a] W fun e w' => e = .returned (.int .i64 (fInt a st)) ∧ w' = W := fun W h => at_any a ga cap st W (by omega) h.names
  have HC := hide hcr
  obtain ⟨hx1, hx2⟩ := fIdx_spec a st hf
  rw [hx2] at HC
  obtain ⟨g, hga, hg0, hg1⟩ := hr.file (fIdx a st) (fileAt st (fIdx a st)) (fileAt_get hx1)
  obtain rfl := hga
  generalize fIdx a st = ix at HC hx1 ⊢
  rw [List.eraseIdx_eq_take_drop_succ]
  have ix0 : (0 : Int) ≤ (ix : Int) := by omega
  have ix1 : (ix : Int) < (st.length : Int) := by omega
  have ixn : ¬ ((ix : Int) < 0) := by omega
  have ix2 : (ix : Int) + 1 ≤ (st.length : Int) := by omega
  have ix3 : (0 : Int) ≤ (ix : Int) + 1 := by omega
  have hDw : D < w.heap.size := hr.ltD
  have hgw : g < w.heap.size := hg0.lt
  have hND : N ≤ D := hr.new
  have hcap : st.length ≤ cap ∧ cap ≤ maxLen := by
    rcases hr.row.2 with ⟨he, _⟩ | ⟨g', cap', cur, he, _, _, hnc, hcm, _⟩
    · cases he
    · obtain ⟨_, rfl⟩ : g = g' ∧ cap = cap' := by simpa using he
      exact ⟨hnc, hcm⟩
  obtain ⟨hcap1, hcap2⟩ := hcap
  unfold maxLen at hcap2
  have ic1 : ix ≤ cap := by omega
  have ic2 : ix + 1 ≤ cap := by omega
  have hwr : IntKind.i64.wrap ((ix : Int) + 1) = (ix : Int) + 1 := by rw [IntKind.wrap_i64]; omega
  have htn : ((ix : Int) + 1).toNat = ix + 1 := by omega
  unfold doW at hcon
  clear hin hr hc hi hcr hx2 hg0 hg1 hf
  go_enter Try.func21, Try.ntmps21
  go_wp2_with fail
  refine hcon.mono ?_
  rintro e w1 ⟨rfl, b1⟩
  have h1 := (unhide HI).later b1
  have HH := hide h1
  have k0 := h1.k0
  have k1 := h1.k1
  have hs1 := (unhide HS).below h1.below
  have cD := hs1.can.1
  have HS1 := hide hs1
  clear h1 b1 hs1
  go_wp2_with fail
  go_quiet (first | (go_at_call 64; exact Calls.quiet_of_same ((unhide HC) _ ((unhide HS1).below ⟨rfl, rfl, rfl, Nat.le_refl _, fun _ _ => rfl⟩))))
  obtain ⟨w2, hw2⟩ : ∃ w2, w2 = w1.drewN nq := ⟨_, rfl⟩
  have b2 : Below w1.heap.size w1 w2 := by rw [hw2]; exact ⟨rfl, rfl, rfl, Nat.le_refl _, fun _ _ => rfl⟩
  rw [← hw2]
  have h2 := (unhide HH).later b2
  have HH2 := hide h2
  have hs2 := (unhide HS).below h2.below
  have HS2 := hide hs2
  have j0 := h2.k0
  have cD2 := hs2.can.1
  have cD2f := hs2.can.2
  have hD2 : D < w2.heap.size := hs2.ltD
  have hg2 : g < w2.heap.size := (hs2.row.lt g rfl).2
  have hw2z := h2.below.size
  obtain ⟨A, hA, HL2⟩ : ∃ A : Addr, (if cap = ix + 1 then some (⟨g, 0, none⟩ : Addr) else some ⟨g, (ix + 1) * 2, none⟩) = some A ∧ Hid (∀ W, Below w2.heap.size w2 W → Lies W (.slice (some A) (st.length - (ix + 1)) (cap - (ix + 1))) (st.length - (ix + 1)) ((st.drop (ix + 1)).flatMap dCells)) := by
    by_cases h : cap = ix + 1
    · exact ⟨⟨g, 0, none⟩, by simp [h], fun W hW => by have := (lies_drow hs2.row rfl ix (ix + 1) (by omega) W (hW.block g hg2)).2; rwa [if_pos h] at this⟩
    · exact ⟨⟨g, (ix + 1) * 2, none⟩, by simp [h], fun W hW => by have := (lies_drow hs2.row rfl ix (ix + 1) (by omega) W (hW.block g hg2)).2; rwa [if_neg h] at this⟩
  have HL1 : Hid (∀ W, Below w2.heap.size w2 W → Lies W (.slice (some ⟨g, 0, none⟩) ix cap) ix ((st.take ix).flatMap dCells)) := fun W hW => (lies_drow hs2.row rfl ix (ix + 1) (by omega) W (hW.block g hg2)).1
  have HE1 : Hid (((st.take ix).flatMap dCells).length = ix * 2) := by rw [Hid, dflat_len, List.length_take, Nat.min_eq_left (by omega)]
  have HE2 : Hid (∀ u ∈ (st.take ix).flatMap dCells, u.oneCell' = true) := dflat_one _
  have HE3 : Hid (((st.drop (ix + 1)).flatMap dCells).length = (st.length - (ix + 1)) * 2) := by rw [Hid, dflat_len, List.length_drop]
  have HE4 : Hid (∀ u ∈ (st.drop (ix + 1)).flatMap dCells, u.oneCell' = true) := dflat_one _
  clear hw2 b2 h2 k0 k1 cD hs2
  go_wp2_with fail
  go_region_law (first | (refine step_new (wx := w2) (by rfl) (.tmp 135) (.tmp 140) 29 (by rfl) (below_drew w2) 104 i0 _ 2 32 Try.underlying29 hi0 hz0 hz1 hz2 rfl (by omega) (.slice none 0 0) 0 [] (by simp [Act.eval, Act.put]) (World.ownsRow_nil _ _ _ _) (.slice (some ⟨g, 0, none⟩) ix cap) ix ((st.take ix).flatMap dCells) (by simp [Act.eval, Act.put]) ((unhide HL1) _ (below_drew w2)) (unhide HE1) (unhide HE2) (by unfold maxLen; omega) (by omega) ?_; intro aA cA wA hownA bA hgrowA; rw [Nat.zero_add, List.nil_append] at hownA; rw [Nat.zero_add]; have hcA := (bA.cell (p := ⟨D, 0, none⟩) hD2).trans cD2; clear hgrowA) | (refine step_new (wx := w2) (by rfl) (.tmp 141) (.tmp 147) 29 (by rfl) bA 104 i0 _ 2 32 Try.underlying29 hi0 hz0 hz1 hz2 rfl (by omega) (.slice aA ix cA) ix ((st.take ix).flatMap dCells) (by simp [Act.eval, Act.put]) hownA (.slice (some A) (st.length - (ix + 1)) (cap - (ix + 1))) (st.length - (ix + 1)) ((st.drop (ix + 1)).flatMap dCells) (by simp [Act.eval, Act.put]) ((unhide HL2) _ bA) (unhide HE3) (unhide HE4) (by unfold maxLen; omega) (by omega) ?_; intro aB cB wB hownB bB hgrowB; have hcB := (bB.cell (p := ⟨D, 0, none⟩) hD2).trans cD2; have hcBf := (bB.frozen (p := ⟨D, 0, none⟩) hD2).trans cD2f; clear hgrowB) | fail)
  all_goals
    obtain ⟨w5, hw5⟩ : ∃ w5, w5 = wB.setCell ⟨D, 0, none⟩ (.slice aB (ix + (st.length - (ix + 1))) cB) := ⟨_, rfl⟩
    rw [← hw5]
    have hT : DTurned w2 N D (.slice (some ⟨g, 0, none⟩) st.length cap) w5 (st.take ix ++ st.drop (ix + 1)) := by
      rw [hw5]
      refine (unhide HS2).lay (Kept.of_below bB) ?_ (fun k e => .inr (hownB.lt k e).1)
      have e1 : (st.take ix ++ st.drop (ix + 1)).length = ix + (st.length - (ix + 1)) := by rw [List.length_append, List.length_take, List.length_drop, Nat.min_eq_left (by omega)]
      rw [e1, List.flatMap_append]
      exact ownsRow_base hownB (by omega)
    have hsz2 := (unhide HH2).size
    have hne : w.heap.size + 1 ≠ D := by omega
    have hne2 : (Value.slice (some ⟨g, 0, none⟩) st.length cap).ownBlock ≠ some (w.heap.size + 1) := by simp [Value.ownBlock]; omega
    have c0 := hT.can (unhide HH2).a0 hne hne2
    have c1 := hT.can (unhide HH2).a1 hne hne2
    have e1 := c0.1
    have e2 := c0.2
    have e3 := c1.1
    have e4 := c1.2
    have q0 := ans0 (.int .i64 0) (.string ⟨#[]⟩) e1
    have q1 := ans1 (.int .i64 0) (.string ⟨#[]⟩) e3
    have HT := hide hT
    clear hw5 hT c0 c1 hne hne2 cD2 cD2f hownA hownB bA bB hcA hcB hcBf
    go_wp2
    refine bodyPost_ret (v := .agg #[.int .i64 0, .string ⟨#[]⟩]) (by simp [results, Try.results21, go_sem, q0, q1]) rfl ⟨rfl, ?_⟩
    exact DTurned.store (unhide HS) (unhide HH2).below (unhide HT) (Nat.le_succ _) (unhide HH2).size (kept_two _ _ _ _)

end Go.Proofs.Ytlndphpidkacgaa
