/- What lies in memory of a Files object, and what a call on it may turn. -/
import Derived.Test.YtlndphpidkacgaaPlain
namespace Go.Proofs.Ytlndphpidkacgaa
open Go.RowKit
set_option linter.unusedSimpArgs false
set_option linter.unusedVariables false

/-- A file with the value of its field 'text'. -/
structure FV where
  name : ByteArray
  tv : Value
  text : ByteArray
def FV.cells (f : FV) : List Value := [.string f.name, f.tv]
def FV.abs (f : FV) : AFile := ⟨f.name, f.text⟩
def byteVals (s : ByteArray) : List Value := s.data.toList.map fun b => .int .u8 (b.toNat : Int)
def owns (B : Nat) (v : Value) (fs : List FV) : List Nat := B :: (v.ownBlock.toList ++ fs.flatMap fun f => f.tv.ownBlock.toList)

structure Rep (w : World) (B : Nat) (v : Value) (fs : List FV) : Prop where
  blk : w.heap[B]? = some (.cells #[v] 95 (0, 0))
  row : w.ownsRow 0 101 2 v fs.length (fs.flatMap FV.cells)
  texts : ∀ f, f ∈ fs → w.ownsRow 0 5 1 f.tv f.text.size (byteVals f.text)
  nd : (owns B v fs).Nodup

/-- A Files object at block B, whose files are st; 'own': the blocks that are its own. -/
def St (w : World) (B : Nat) (own : List Nat) (st : List AFile) : Prop := ∃ v fs, Rep w B v fs ∧ own = owns B v fs ∧ fs.map FV.abs = st

/-- But for the blocks own all that lay in w lies as it did. -/
structure Kept (own : List Nat) (w w' : World) : Prop where
  os : w'.os = w.os
  tape : w'.tape = w.tape
  output : w'.output = w.output
  size : w.heap.size ≤ w'.heap.size
  block : ∀ k, k < w.heap.size → k ∉ own → w'.heap[k]? = w.heap[k]?

theorem Kept.refl (own : List Nat) (w : World) : Kept own w w := ⟨rfl, rfl, rfl, Nat.le_refl _, fun _ _ _ => rfl⟩
theorem Kept.of_below {own : List Nat} {w w' : World} (h : Below w.heap.size w w') : Kept own w w' := ⟨h.os, h.tape, h.output, h.size, fun k hk _ => h.block k hk⟩
theorem Kept.trans {own own1 : List Nat} {a b c : World} (h : Kept own a b) (k : Kept own1 b c) (ho : ∀ x, x ∈ own1 → x ∈ own ∨ a.heap.size ≤ x) : Kept own a c :=
  ⟨k.os.trans h.os, k.tape.trans h.tape, k.output.trans h.output, Nat.le_trans h.size k.size, fun i hi hn =>
    (k.block i (Nat.lt_of_lt_of_le hi h.size) (fun hm => by rcases ho i hm with h1 | h1; exact hn h1; omega)).trans (h.block i hi hn)⟩
theorem Kept.below {own : List Nat} {w w' : World} {B : Nat} (h : Kept own w w') (hB : B ≤ w.heap.size) (ho : ∀ k, k ∈ own → B ≤ k) : Below B w w' :=
  ⟨h.os, h.tape, h.output, h.size, fun k hk => h.block k (by omega) (fun hm => by have := ho k hm; omega)⟩
theorem Kept.cell {own : List Nat} {w w' : World} (h : Kept own w w') {b j : Nat} (hb : b < w.heap.size) (hn : b ∉ own) : w'.cell? ⟨b, j, none⟩ = w.cell? ⟨b, j, none⟩ :=
  World.cell?_of_block (w := w) (a := ⟨b, j, none⟩) (h.block b hb hn)
theorem Kept.frozen {own : List Nat} {w w' : World} (h : Kept own w w') {b j : Nat} (hb : b < w.heap.size) (hn : b ∉ own) : w'.frozen? ⟨b, j, none⟩ = w.frozen? ⟨b, j, none⟩ :=
  World.frozen?_of_block (w := w) (a := ⟨b, j, none⟩) (h.block b hb hn)

theorem ownsRow_same {w w' : World} {base : Nat} {e : TypeId} {size : Nat} {v : Value} {n : Nat} {xs : List Value} (h : w.ownsRow base e size v n xs)
    (hs : ∀ k, v.ownBlock = some k → w'.heap[k]? = w.heap[k]?) : w'.ownsRow base e size v n xs := by
  refine ⟨h.1, ?_⟩
  rcases h.2 with hn | ⟨g, cap, cur, rfl, hb, hg, rest⟩
  · exact .inl hn
  · exact .inr ⟨g, cap, cur, rfl, hb, by rw [hs g rfl]; exact hg, rest⟩

theorem mem_owns {B : Nat} {v : Value} {fs : List FV} {k : Nat} : k ∈ owns B v fs ↔ k = B ∨ v.ownBlock = some k ∨ ∃ f, f ∈ fs ∧ f.tv.ownBlock = some k := by
  simp [owns]

theorem Rep.lt {w : World} {B : Nat} {v : Value} {fs : List FV} (h : Rep w B v fs) {k : Nat} (hk : k ∈ owns B v fs) : k < w.heap.size := by
  rcases mem_owns.1 hk with rfl | hv | ⟨f, hf, hv⟩
  · exact (Array.getElem?_eq_some_iff.1 h.blk).1
  · exact (h.row.lt k hv).2
  · exact ((h.texts f hf).lt k hv).2

theorem Rep.same {w w' : World} {B : Nat} {v : Value} {fs : List FV} (h : Rep w B v fs) (hs : ∀ k, k ∈ owns B v fs → w'.heap[k]? = w.heap[k]?) : Rep w' B v fs :=
  ⟨by rw [hs B (mem_owns.2 (.inl rfl))]; exact h.blk,
   ownsRow_same h.row fun k hk => hs k (mem_owns.2 (.inr (.inl hk))),
   fun f hf => ownsRow_same (h.texts f hf) fun k hk => hs k (mem_owns.2 (.inr (.inr ⟨f, hf, hk⟩))),
   h.nd⟩

theorem Rep.below {w w' : World} {B : Nat} {v : Value} {fs : List FV} (h : Rep w B v fs) (hb : Below w.heap.size w w') : Rep w' B v fs :=
  h.same fun k hk => hb.block k (h.lt hk)

theorem Rep.kept {w w' : World} {B : Nat} {v : Value} {fs : List FV} {own : List Nat} (h : Rep w B v fs) (hb : Kept own w w') (hd : ∀ k, k ∈ owns B v fs → k ∉ own) : Rep w' B v fs :=
  h.same fun k hk => hb.block k (h.lt hk) (hd k hk)

theorem Rep.cellB {w : World} {B : Nat} {v : Value} {fs : List FV} (h : Rep w B v fs) : w.cell? ⟨B, 0, none⟩ = some v := by
  simp [World.cell?, h.blk]
theorem Rep.frozenB {w : World} {B : Nat} {v : Value} {fs : List FV} (h : Rep w B v fs) : w.frozen? ⟨B, 0, none⟩ = false := by
  simp [World.frozen?, h.blk]

theorem St.lt {w : World} {B : Nat} {own : List Nat} {st : List AFile} (h : St w B own st) {k : Nat} (hk : k ∈ own) : k < w.heap.size := by
  obtain ⟨v, fs, hr, rfl, _⟩ := h
  exact hr.lt hk
theorem St.below {w w' : World} {B : Nat} {own : List Nat} {st : List AFile} (h : St w B own st) (hb : Below w.heap.size w w') : St w' B own st := by
  obtain ⟨v, fs, hr, rfl, hs⟩ := h
  exact ⟨v, fs, hr.below hb, rfl, hs⟩
theorem St.alloc {w : World} {B : Nat} {own : List Nat} {st : List AFile} (h : St w B own st) (o : Obj) : St (w.alloc o) B own st :=
  h.below ((Below.refl _ _).alloc (Nat.le_refl _) o)
theorem St.memB {w : World} {B : Nat} {own : List Nat} {st : List AFile} (h : St w B own st) : B ∈ own := by
  obtain ⟨v, fs, hr, rfl, _⟩ := h
  exact mem_owns.2 (.inl rfl)

/-- A cell's value, and that it may be written: over a callee that leaves what was there; over a new block; over an append to another row; over a draw. -/
abbrev Can (w : World) (b o : Nat) (v : Value) : Prop := w.cell? ⟨b, o, none⟩ = some v ∧ w.frozen? ⟨b, o, none⟩ = false
theorem Can.below {w w' : World} {b o : Nat} {v : Value} {N : Nat} (h : Can w b o v) (hb : Below N w w') (hN : b < N) : Can w' b o v :=
  ⟨(hb.cell (p := ⟨b, o, none⟩) hN).trans h.1, (hb.frozen (p := ⟨b, o, none⟩) hN).trans h.2⟩
theorem Can.lt {w : World} {b o : Nat} {v : Value} (h : Can w b o v) : b < w.heap.size := World.block_lt_of_cell? w _ h.1
theorem Can.alloc {w : World} {b o : Nat} {v : Value} (h : Can w b o v) (x : Obj) : Can (w.alloc x) b o v := ⟨(al_old w x b o h.lt).trans h.1, (al_frozen w x b o h.lt).trans h.2⟩
theorem Can.drew {w : World} {b o : Nat} {v : Value} (h : Can w b o v) : Can w.drew b o v := h
theorem Can.grown {w w' : World} {b o : Nat} {v : Value} {row : Option Nat} (h : Can w b o v) (hg : w.grownBy w' row) (hne : row ≠ some b) : Can w' b o v :=
  ⟨(World.cell?_of_block (w := w) (a := ⟨b, o, none⟩) (hg.block b h.lt (Ne.symm hne))).trans h.1, (World.frozen?_of_block (w := w) (a := ⟨b, o, none⟩) (hg.block b h.lt (Ne.symm hne))).trans h.2⟩

/-- The list's value written out. -/
theorem row_form {w : World} {base : Nat} {e : TypeId} {size : Nat} {v : Value} {n : Nat} {xs : List Value} (h : w.ownsRow base e size v n xs) : ∃ a cap, v = .slice a n cap := by
  rcases h.2 with ⟨rfl, rfl⟩ | ⟨g, cap, cur, rfl, _⟩
  · exact ⟨none, 0, rfl⟩
  · exact ⟨_, cap, rfl⟩

/-- The cells of file j. -/
theorem flat_get (fs : List FV) (j : Nat) (f : FV) (hf : fs[j]? = some f) : (fs.flatMap FV.cells)[j * 2]? = some (.string f.name) ∧ (fs.flatMap FV.cells)[j * 2 + 1]? = some f.tv := by
  induction fs generalizing j with
  | nil => simp at hf
  | cons x xs ih =>
    cases j with
    | zero => simp at hf; subst hf; simp [FV.cells]
    | succ j =>
      have := ih j (by simpa using hf)
      have e1 : (j + 1) * 2 = j * 2 + 2 := by omega
      have e2 : (j + 1) * 2 + 1 = j * 2 + 1 + 2 := by omega
      simp only [List.flatMap_cons, FV.cells]
      rw [e1]
      exact ⟨by simpa using this.1, by rw [show j * 2 + 2 + 1 = j * 2 + 1 + 2 by omega]; simpa using this.2⟩

theorem Rep.file {w : World} {B g cap : Nat} {fs : List FV} {n : Nat} (h : Rep w B (.slice (some ⟨g, 0, none⟩) n cap) fs) (j : Nat) (f : FV) (hf : fs[j]? = some f) :
    w.cell? ⟨g, j * 2, none⟩ = some (.string f.name) ∧ w.cell? ⟨g, j * 2 + 1, none⟩ = some f.tv := by
  have hc := h.row.cells (g := g) rfl
  have := flat_get fs j f hf
  have e : ∀ i, (⟨g, 0, none⟩ : Addr).add i = ⟨g, i, none⟩ := fun i => by unfold Addr.add; split <;> simp_all
  exact ⟨by have := hc _ _ this.1; rwa [e] at this, by have := hc _ _ this.2; rwa [e] at this⟩

/-- Where a file is called so. -/
def fIdx (name : ByteArray) (st : List AFile) : Nat := st.findIdx fun f => f.name.toList == name.toList
def fInt (name : ByteArray) (st : List AFile) : Int := if fIdx name st < st.length then (fIdx name st : Int) else -1

theorem fInt_hit (name : ByteArray) (st : List AFile) (k : Nat) (hk : k < st.length) (h0 : ∀ (j : Nat) (f : AFile), j < k → st[j]? = some f → (f.name.toList == name.toList) = false)
    (h1 : ∀ f, st[k]? = some f → (f.name.toList == name.toList) = true) : fInt name st = k := by
  have e : fIdx name st = k := by
    unfold fIdx
    rw [List.findIdx_eq hk]
    refine ⟨h1 _ (List.getElem?_eq_getElem hk), fun j hj => ?_⟩
    rw [h0 j _ hj (List.getElem?_eq_getElem (by omega))]
  unfold fInt
  rw [e, if_pos hk]
theorem fInt_miss (name : ByteArray) (st : List AFile) (h0 : ∀ (j : Nat) (f : AFile), st[j]? = some f → (f.name.toList == name.toList) = false) : fInt name st = -1 := by
  have e : fIdx name st = st.length := by
    unfold fIdx
    rw [List.findIdx_eq_length]
    intro x hx
    obtain ⟨j, hj⟩ := List.mem_iff_getElem?.1 hx
    rw [h0 j x hj]
  unfold fInt
  rw [e, if_neg (by omega)]

end Go.Proofs.Ytlndphpidkacgaa
