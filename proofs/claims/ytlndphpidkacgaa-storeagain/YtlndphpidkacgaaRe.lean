/- The reference's Drawer in memory; the first cases of its Do. -/
import Derived.Test.YtlndphpidkacgaaRd
namespace Go.Proofs.Ytlndphpidkacgaa
open Go.RowKit
set_option linter.unusedSimpArgs false
set_option linter.unusedVariables false

def dCells (f : AFile) : List Value := [.string f.name, .string f.text]

theorem dflat_get (st : List AFile) (j : Nat) (f : AFile) (hf : st[j]? = some f) : (st.flatMap dCells)[j * 2]? = some (.string f.name) ∧ (st.flatMap dCells)[j * 2 + 1]? = some (.string f.text) := by
  induction st generalizing j with
  | nil => simp at hf
  | cons x xs ih =>
    cases j with
    | zero => simp at hf; subst hf; simp [dCells]
    | succ j =>
      have := ih j (by simpa using hf)
      have e1 : (j + 1) * 2 = j * 2 + 2 := by omega
      simp only [List.flatMap_cons, dCells]
      rw [e1]
      exact ⟨by simpa using this.1, by rw [show j * 2 + 2 + 1 = j * 2 + 1 + 2 by omega]; simpa using this.2⟩

theorem dflat_len (l : List AFile) : (l.flatMap dCells).length = l.length * 2 := by
  induction l with
  | nil => rfl
  | cons x xs ih => simp [dCells, ih]; omega

theorem dflat_one (l : List AFile) : ∀ u, u ∈ l.flatMap dCells → u.oneCell' = true := fun u hu => by
  obtain ⟨f, _, hf⟩ := List.mem_flatMap.1 hu
  rcases List.mem_cons.1 hf with rfl | hf
  · rfl
  · rw [List.mem_singleton.1 hf]; rfl

/-- A Drawer at block D, with a row of its own. -/
structure DRep (w : World) (N D : Nat) (v : Value) (st : List AFile) : Prop where
  new : N ≤ D
  blk : w.heap[D]? = some (.cells #[v] 29 (0, 0))
  row : w.ownsRow N 104 2 v st.length (st.flatMap dCells)
  nd : v.ownBlock ≠ some D

theorem DRep.ltD {w : World} {N D : Nat} {v : Value} {st : List AFile} (h : DRep w N D v st) : D < w.heap.size := (Array.getElem?_eq_some_iff.1 h.blk).1
theorem DRep.can {w : World} {N D : Nat} {v : Value} {st : List AFile} (h : DRep w N D v st) : Can w D 0 v := ⟨by simp [World.cell?, h.blk], by simp [World.frozen?, h.blk]⟩
theorem DRep.kept {w w' : World} {N D : Nat} {v : Value} {st : List AFile} {own : List Nat} (h : DRep w N D v st) (hk : Kept own w w') (hD : D ∉ own) (hv : ∀ k, v.ownBlock = some k → k ∉ own) : DRep w' N D v st :=
  ⟨h.new, by rw [hk.block D h.ltD hD]; exact h.blk, ownsRow_same h.row fun k e => hk.block k (h.row.lt k e).2 (hv k e), h.nd⟩
theorem DRep.below {w w' : World} {N D : Nat} {v : Value} {st : List AFile} (h : DRep w N D v st) (hb : Below w.heap.size w w') : DRep w' N D v st :=
  h.kept (own := []) (Kept.of_below hb) (by simp) (by simp)

theorem DRep.form {w : World} {N D : Nat} {v : Value} {st : List AFile} (h : DRep w N D v st) : ∃ a cap, v = .slice a st.length cap := row_form h.row

theorem DRep.file {w : World} {N D : Nat} {a : Option Addr} {n cap : Nat} {st : List AFile} (h : DRep w N D (.slice a n cap) st) (j : Nat) (f : AFile) (hf : st[j]? = some f) :
    ∃ g, a = some ⟨g, 0, none⟩ ∧ Can w g (j * 2) (.string f.name) ∧ Can w g (j * 2 + 1) (.string f.text) := by
  have hn : 0 < st.length := by have := (List.getElem?_eq_some_iff.1 hf).1; omega
  rcases h.row.2 with ⟨_, h0⟩ | ⟨g, cap', cur, he, _, hg, _⟩
  · omega
  obtain ⟨rfl, _, rfl⟩ : a = some ⟨g, 0, none⟩ ∧ n = st.length ∧ cap = cap' := by simpa using he
  have hc := h.row.cells (g := g) rfl
  have hq := dflat_get st j f hf
  have e : ∀ i, (⟨g, 0, none⟩ : Addr).add i = ⟨g, i, none⟩ := fun i => by unfold Addr.add; split <;> simp_all
  have hfz : ∀ i, w.frozen? ⟨g, i, none⟩ = false := fun i => by simp [World.frozen?, hg]
  exact ⟨g, rfl, ⟨by have := hc _ _ hq.1; rwa [e] at this, hfz _⟩, ⟨by have := hc _ _ hq.2; rwa [e] at this, hfz _⟩⟩

theorem DRep.names {w : World} {N D : Nat} {a : Option Addr} {n cap : Nat} {st : List AFile} (h : DRep w N D (.slice a n cap) st) :
    ∀ (j : Nat) (f : AFile), st[j]? = some f → ∃ B, a = some ⟨B, 0, none⟩ ∧ w.cell? ⟨B, j * 2, none⟩ = some (.string f.name) := fun j f hf => by
  obtain ⟨g, ha, h1, _⟩ := h.file j f hf
  exact ⟨g, ha, h1.1⟩

/-- From w to w' the Drawer at D has come to st'. -/
def DTurned (w : World) (N D : Nat) (v : Value) (w' : World) (st' : List AFile) : Prop :=
  ∃ v', DRep w' N D v' st' ∧ Kept (D :: v.ownBlock.toList) w w' ∧ ∀ k, v'.ownBlock = some k → v.ownBlock = some k ∨ w.heap.size ≤ k

theorem DTurned.of_below {w w' : World} {N D : Nat} {v : Value} {st : List AFile} (h : DRep w N D v st) (hb : Below w.heap.size w w') : DTurned w N D v w' st :=
  ⟨v, h.below hb, Kept.of_below hb, fun k hk => .inl hk⟩
theorem DTurned.can {w w' : World} {N D : Nat} {v : Value} {st : List AFile} (h : DTurned w N D v w' st) {b o : Nat} {u : Value} (hc : Can w b o u) (h1 : b ≠ D) (h2 : v.ownBlock ≠ some b) : Can w' b o u := by
  obtain ⟨v', _, hk, _⟩ := h
  have hn : b ∉ D :: v.ownBlock.toList := by simp [h1, h2]
  exact ⟨(hk.cell hc.lt hn).trans hc.1, (hk.frozen hc.lt hn).trans hc.2⟩
/-- .. and writing a block of ours turns nothing of it. -/
theorem DTurned.store {w W w1 w2 : World} {N D : Nat} {v : Value} {st st' : List AFile} (h0 : DRep w N D v st) (hb0 : Below w.heap.size w W) (hT : DTurned W N D v w1 st') {b : Nat} (hb : w.heap.size ≤ b) (hb2 : b < W.heap.size) (hk : Kept [b] w1 w2) :
    DTurned w N D v w2 st' := by
  obtain ⟨v', hr, hk1, hn⟩ := hT
  have hlt : ∀ k, v.ownBlock = some k → k < w.heap.size := fun k e => (h0.row.lt k e).2
  have hD := h0.ltD
  refine ⟨v', hr.kept hk (by simp; omega) (fun k e hm => ?_), ?_, fun k e => ?_⟩
  · have hkb : k = b := by simpa using hm
    rcases hn k e with h | h
    · have := hlt k h; omega
    · omega
  · exact ((Kept.of_below hb0).trans hk1 (fun x hx => .inl hx)).trans hk (fun x hx => .inr (by rw [List.mem_singleton.1 hx]; exact hb))
  · rcases hn k e with h | h
    · exact .inl h
    · right; have := hb0.size; omega

end Go.Proofs.Ytlndphpidkacgaa
