/- The Drawer's list laid anew; the walk of the reference's Do: make. -/
import Derived.Test.YtlndphpidkacgaaRi
namespace Go.Proofs.Ytlndphpidkacgaa
open Go.RowKit
set_option linter.unusedSimpArgs false
set_option linter.unusedVariables false

theorem info104 : (Try.prog.info? 104).map (fun i => (i.zero, i.size, i.bytes)) = some (some (.agg #[.string ⟨#[]⟩, .string ⟨#[]⟩]), 2, 32) := by kernel_rfl

theorem DRep.lay {w w4 : World} {N D : Nat} {v v' : Value} {st st' : List AFile} (h : DRep w N D v st) (hk : Kept v.ownBlock.toList w w4) (hrow : w4.ownsRow N 104 2 v' st'.length (st'.flatMap dCells))
    (hat : ∀ k, v'.ownBlock = some k → v.ownBlock = some k ∨ w.heap.size ≤ k) : DTurned w N D v (w4.setCell ⟨D, 0, none⟩ v') st' := by
  have hnD : v'.ownBlock ≠ some D := fun e => by
    rcases hat D e with h1 | h1
    · exact h.nd h1
    · have := h.ltD; omega
  have hD4 : w4.heap[D]? = some (.cells #[v] 29 (0, 0)) := by rw [hk.block D h.ltD (by simpa using h.nd)]; exact h.blk
  refine ⟨v', ⟨h.new, ?_, ?_, hnD⟩, ?_, hat⟩
  · rw [heap_setCell_same hD4 v']; rfl
  · exact ownsRow_setCell_other hrow (a := ⟨D, 0, none⟩) hnD v'
  · have k1 : Kept (D :: v.ownBlock.toList) w w4 := ⟨hk.os, hk.tape, hk.output, hk.size, fun k hlt hn => hk.block k hlt (fun hm => hn (List.mem_cons_of_mem _ hm))⟩
    exact k1.trans (kept_setCell [D] w4 D 0 v' (by simp)) (fun x hx => .inl (by rw [List.mem_singleton.1 hx]; simp))

set_option maxRecDepth 100000 in
set_option maxHeartbeats 2000000 in
theorem dDo_make (a b t : ByteArray) (N D : Nat) (v : Value) (st : List AFile) (w : World) (hr : DRep w N D v st) (hi : Inv st) (ha : a.size ≤ maxLen) (hb : b.size ≤ maxLen) (ht : t.size ≤ maxLen) (hc : checkI ⟨1, a, b, t⟩ = 0)
    (hf : fInt a st < 0) (h6 : st.length < 6) :
    Calls Try.prog 21 #[.pointer (some ⟨D, 0, none⟩), .agg #[.int .i64 1, .string a, .string b, .string t]] w
      fun e w' => e = .returned (.agg #[.int .i64 0, .string ⟨#[]⟩]) ∧ DTurned w N D v w' (st ++ [⟨a, ByteArray.empty⟩]) := by
  obtain ⟨i0, hi0, hz0, hz1, hz2⟩ := info_parts info104
  have hcon := CallFault_any 1 a b t (doW w 1 a b t) ha hb ht
  have hin := DoIn.start w 1 a b t
  rw [hc] at hcon
  have HI := hide hin
  have HS := hide hr
  have hl := hi.few
  obtain ⟨ga, cap, rfl⟩ := hr.form
  have hcr : ∀ W : World, DRep W N D (.slice ga st.length cap) st → Calls Try.prog 64 #[.slice ga st.length cap, .string a] W fun e w' => e = .returned (.int .i64 (fInt a st)) ∧ w' = W := fun W h => at_any a ga cap st W (by omega) h.names
  have HC := hide hcr
  generalize fInt a st = res at HC hf
  have h66 : ¬ ((6 : Int) ≤ (st.length : Int)) := by omega
  have hfn : ¬ (0 ≤ res) := by omega
  have hDw : D < w.heap.size := hr.ltD
  have hvw : ∀ k, (Value.slice ga st.length cap).ownBlock = some k → k < w.heap.size := fun k e => (hr.row.lt k e).2
  have HVW := hide hvw
  have hND : N ≤ D := hr.new
  unfold doW at hcon
  clear hin hr hc hi hcr hvw
  go_enter Try.func21, Try.ntmps21
  go_wp2_with fail
  refine hcon.mono ?_
  rintro e w1 ⟨rfl, b1⟩
  have h1 := (unhide HI).later b1
  have HH := hide h1
  have k0 := h1.k0
  have k1 := h1.k1
  have hs1 := (unhide HS).below h1.below
  have cD := hs1.can.1
  have HS1 := hide hs1
  clear h1 b1 hs1
  go_wp2_with fail
  go_quiet (first | (go_at_call 64; exact Calls.quiet_of_same ((unhide HC) _ ((unhide HS1).below ⟨rfl, rfl, rfl, Nat.le_refl _, fun _ _ => rfl⟩))))
  obtain ⟨w2, hw2⟩ : ∃ w2, w2 = w1.drewN nq := ⟨_, rfl⟩
  have b2 : Below w1.heap.size w1 w2 := by rw [hw2]; exact ⟨rfl, rfl, rfl, Nat.le_refl _, fun _ _ => rfl⟩
  rw [← hw2]
  have h2 := (unhide HH).later b2
  have HH2 := hide h2
  have hs2 := (unhide HS).below h2.below
  have HS2 := hide hs2
  have j0 := h2.k0
  have j1 := h2.k1
  have cD2 := hs2.can.1
  have cDa := (hs2.can.alloc (Obj.cells #[.string a, .string ⟨#[]⟩] 104)).1
  have HRow : Hid ((w2.alloc (Obj.cells #[.string a, .string ⟨#[]⟩] 104)).drew.ownsRow N 104 2 (.slice ga st.length cap) st.length (st.flatMap dCells)) := (hs2.row.alloc _).drew
  have HLs : Hid (Lies (w2.alloc (Obj.cells #[.string a, .string ⟨#[]⟩] 104)).drew (.slice (some ⟨w2.heap.size, 0, none⟩) 1 1) 1 [.string a, .string ⟨#[]⟩]) := lies_block (alloc_drew_new w2 _) 1 1
  have HNs : Hid (N ≤ (w2.alloc (Obj.cells #[.string a, .string ⟨#[]⟩] 104)).drew.heap.size) := by have := h2.below.size; show N ≤ (w2.alloc _).heap.size; rw [al_size]; omega
  have HCa : Hid (Can (w2.alloc (Obj.cells #[.string a, .string ⟨#[]⟩] 104)).drew D 0 (.slice ga st.length cap)) := (hs2.can.alloc _).drew
  have hnd := hs2.nd
  clear hw2 b2 h2 k0 k1 cD hs2
  go_wp2_with fail
  go_region_law (first | (refine step_app (by rfl) (.tmp 63) (.tmp 67) 29 (by rfl) N 104 i0 _ 2 32 Try.underlying29 hi0 hz0 hz1 hz2 rfl (by omega) (.slice ga st.length cap) st.length (st.flatMap dCells) (by simp [Act.eval, Act.put]) (unhide HRow) (.slice (some ⟨w2.heap.size, 0, none⟩) 1 1) 1 [.string a, .string ⟨#[]⟩] (by simp [Act.eval, Act.put]) (unhide HLs) (by rfl) (by simp [Value.oneCell']) (by unfold maxLen; omega) (by omega) (unhide HNs) ?_; intro ad c w4 hown4 hgrow4 hat4; have hD4 := (unhide HCa).grown hgrow4 hnd; have hD40 := hD4.1; have hD41 := hD4.2; have HO4 := hide hown4; have HG4 := hide hgrow4; have HA4 := hide hat4; clear hown4 hgrow4 hat4 hD4) | fail)
  all_goals
    have bA : Below w2.heap.size w2 (w2.alloc (Obj.cells #[.string a, .string ⟨#[]⟩] 104)).drew := below_alloc_drew w2 _
    have hk4 : Kept (Value.slice ga st.length cap).ownBlock.toList w2 w4 := by
      have hg := unhide HG4
      refine ⟨hg.os.trans bA.os, hg.tape.trans bA.tape, hg.output.trans bA.output, Nat.le_trans bA.size hg.size, fun k hlt hn => ?_⟩
      rw [hg.block k (Nat.lt_of_lt_of_le hlt bA.size) (fun e => hn (by rw [← e]; simp)), bA.block k hlt]
    obtain ⟨w5, hw5⟩ : ∃ w5, w5 = w4.setCell ⟨D, 0, none⟩ (.slice ad (st.length + 1) c) := ⟨_, rfl⟩
    rw [← hw5]
    have hT : DTurned w2 N D (.slice ga st.length cap) w5 (st ++ [⟨a, ByteArray.empty⟩]) := by
      rw [hw5]
      refine (unhide HS2).lay hk4 ?_ (fun k e => ?_)
      · have e1 : (st ++ [(⟨a, ByteArray.empty⟩ : AFile)]).length = st.length + 1 := by simp
        have e2 : (st ++ [(⟨a, ByteArray.empty⟩ : AFile)]).flatMap dCells = st.flatMap dCells ++ [.string a, .string ⟨#[]⟩] := by simp [dCells]; rfl
        rw [e1, e2]
        exact unhide HO4
      · rcases unhide HA4 with h | h
        · exact .inl (by rw [← h]; exact e)
        · right
          rw [h] at e
          have : (w2.alloc (Obj.cells #[.string a, .string ⟨#[]⟩] 104)).drew.heap.size = k := by simpa using e
          rw [← this]
          exact bA.size
    have hsz2 := (unhide HH2).size
    have hne : w.heap.size + 1 ≠ D := by omega
    have hne2 : (Value.slice ga st.length cap).ownBlock ≠ some (w.heap.size + 1) := fun e => by have := unhide HVW _ e; omega
    have c0 := hT.can (unhide HH2).a0 hne hne2
    have c1 := hT.can (unhide HH2).a1 hne hne2
    have e1 := c0.1
    have e2 := c0.2
    have e3 := c1.1
    have e4 := c1.2
    have q0 := ans0 (.int .i64 0) (.string ⟨#[]⟩) e1
    have q1 := ans1 (.int .i64 0) (.string ⟨#[]⟩) e3
    have HT := hide hT
    clear hw5 hT c0 c1 hk4 bA hne hne2 hnd hD40 hD41 cDa cD2
    go_wp2
    refine bodyPost_ret (v := .agg #[.int .i64 0, .string ⟨#[]⟩]) (by simp [results, Try.results21, go_sem, q0, q1]) rfl ⟨rfl, ?_⟩
    exact DTurned.store (unhide HS) (unhide HH2).below (unhide HT) (Nat.le_succ _) (unhide HH2).size (kept_two _ _ _ _)

end Go.Proofs.Ytlndphpidkacgaa
