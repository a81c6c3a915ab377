/- The Drawer turned: a field of a file set. -/
import Derived.Test.YtlndphpidkacgaaRg
namespace Go.Proofs.Ytlndphpidkacgaa
open Go.RowKit
set_option linter.unusedSimpArgs false
set_option linter.unusedVariables false

theorem dflat_set (st : List AFile) (j d : Nat) (f f' : AFile) (x : Value) (hj : st[j]? = some f) (hd : d < 2) (hx : dCells f' = (dCells f).set d x) :
    (st.flatMap dCells).set (j * 2 + d) x = (st.set j f').flatMap dCells := by
  obtain ⟨hlt, hf⟩ := List.getElem?_eq_some_iff.1 hj
  have e : st = st.take j ++ f :: st.drop (j + 1) := by rw [← hf, List.getElem_cons_drop, List.take_append_drop]
  have e2 : st.set j f' = st.take j ++ f' :: st.drop (j + 1) := by
    rw [List.set_eq_take_append_cons_drop, if_pos hlt]
  rw [e2]
  have e3 : st.flatMap dCells = (st.take j).flatMap dCells ++ (dCells f ++ (st.drop (j + 1)).flatMap dCells) := by
    have := congrArg (fun l => l.flatMap dCells) e
    simpa only [List.flatMap_append, List.flatMap_cons] using this
  rw [e3]
  simp only [List.flatMap_append, List.flatMap_cons]
  have hl : ((st.take j).flatMap dCells).length = j * 2 := by rw [dflat_len, List.length_take, Nat.min_eq_left (by omega)]
  rw [List.set_append_right _ _ (by omega), hl, show j * 2 + d - j * 2 = d by omega, List.set_append_left _ _ (by simp [dCells]; exact hd), hx]

theorem DRep.setFile {w : World} {N D g n cap : Nat} {st : List AFile} (h : DRep w N D (.slice (some ⟨g, 0, none⟩) n cap) st) (j d : Nat) (f f' : AFile) (x : Value) (hj : st[j]? = some f) (hd : d < 2) (hx : dCells f' = (dCells f).set d x) :
    DTurned w N D (.slice (some ⟨g, 0, none⟩) n cap) (w.setCell ⟨g, j * 2 + d, none⟩ x) (st.set j f') := by
  have hgD : g ≠ D := fun e => h.nd (by simp [Value.ownBlock, e])
  refine ⟨.slice (some ⟨g, 0, none⟩) n cap, ⟨h.new, ?_, ?_, h.nd⟩, kept_setCell _ _ _ _ _ (by simp [Value.ownBlock]), fun k hk => .inl hk⟩
  · rw [Below.heap_setCell w ⟨g, j * 2 + d, none⟩ x D (fun e => hgD e.symm)]
    exact h.blk
  · have hjl : j < st.length := (List.getElem?_eq_some_iff.1 hj).1
    obtain ⟨hlen, h2⟩ := h.row
    rcases h2 with ⟨e, _⟩ | ⟨g', cap', cur, he, hN, hg, hnc, hcm, hcs, htk⟩
    · cases e
    obtain ⟨rfl, rfl, rfl⟩ : g = g' ∧ n = st.length ∧ cap = cap' := by simpa using he
    rw [List.length_set]
    refine ⟨by rw [dflat_len, List.length_set], .inr ⟨g, cap, cur.setIfInBounds (j * 2 + d) x, rfl, hN, heap_setCell_same hg x, hnc, hcm, by simpa using hcs, ?_⟩⟩
    rw [← dflat_set st j d f f' x hj hd hx, ← htk]
    rw [Array.toList_setIfInBounds, List.take_set]

end Go.Proofs.Ytlndphpidkacgaa
