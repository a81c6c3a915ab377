/- How a Files object is turned: a file more, a file less, another name, a longer text. -/
import Derived.Test.YtlndphpidkacgaaRep
import Derived.Lib.AppendStr
namespace Go.Proofs.Ytlndphpidkacgaa
open Go.RowKit
set_option linter.unusedSimpArgs false
set_option linter.unusedVariables false

/-- From w to w' the object at B, whose own blocks were own, has come to st'. -/
def Turned (w : World) (B : Nat) (own : List Nat) (w' : World) (st' : List AFile) : Prop :=
  ∃ own', St w' B own' st' ∧ Kept own w w' ∧ ∀ k, k ∈ own' → k ∈ own ∨ w.heap.size ≤ k

theorem Turned.of_below {w w' : World} {B : Nat} {own : List Nat} {st : List AFile} (h : St w B own st) (hb : Below w.heap.size w w') : Turned w B own w' st :=
  ⟨own, h.below hb, Kept.of_below hb, fun k hk => .inl hk⟩
theorem Turned.before {w w0 w' : World} {B : Nat} {own : List Nat} {st : List AFile} (hb : Below w.heap.size w w0) (h : Turned w0 B own w' st) : Turned w B own w' st := by
  obtain ⟨own', h1, h2, h3⟩ := h
  refine ⟨own', h1, (Kept.of_below hb).trans h2 (fun x hx => .inl hx), fun k hk => ?_⟩
  rcases h3 k hk with h | h
  · exact .inl h
  · right; have := hb.size; omega
theorem Turned.after {w w1 w' : World} {B : Nat} {own : List Nat} {st : List AFile} (h : Turned w B own w1 st) (hb : Below w1.heap.size w1 w') : Turned w B own w' st := by
  obtain ⟨own', h1, h2, h3⟩ := h
  exact ⟨own', h1.below hb, h2.trans (Kept.of_below (own := []) hb) (by simp), h3⟩
theorem Turned.trans {w w1 w2 : World} {B : Nat} {own : List Nat} {st1 st2 : List AFile} (h : Turned w B own w1 st1) (h' : ∀ own', St w1 B own' st1 → Turned w1 B own' w2 st2) : Turned w B own w2 st2 := by
  obtain ⟨own1, h1, h2, h3⟩ := h
  obtain ⟨own2, k1, k2, k3⟩ := h' own1 h1
  refine ⟨own2, k1, h2.trans k2 h3, fun k hk => ?_⟩
  rcases k3 k hk with h | h
  · exact h3 k h
  · right; have := h2.size; omega

theorem heap_setCell_same {w : World} {b o : Nat} {c : Array Value} {e : TypeId} {fr : Nat × Nat} (h : w.heap[b]? = some (.cells c e fr)) (v : Value) : (w.setCell ⟨b, o, none⟩ v).heap[b]? = some (.cells (c.setIfInBounds o v) e fr) := by
  simp only [World.setCell, Array.getElem?_modify, h]
  simp

theorem setCell_size (w : World) (a : Addr) (v : Value) : (w.setCell a v).heap.size = w.heap.size := by simp [World.setCell]

theorem kept_setCell (own : List Nat) (w : World) (b o : Nat) (v : Value) (hb : b ∈ own) : Kept own w (w.setCell ⟨b, o, none⟩ v) :=
  ⟨rfl, rfl, rfl, by rw [setCell_size]; exact Nat.le_refl _, fun k hk hn => Below.heap_setCell w _ v k (fun e => hn (by rw [e]; exact hb))⟩

theorem nd_parts {B : Nat} {v : Value} {fs : List FV} (h : (owns B v fs).Nodup) :
    v.ownBlock ≠ some B ∧ (∀ f, f ∈ fs → f.tv.ownBlock ≠ some B) ∧ (∀ f, f ∈ fs → ∀ k, f.tv.ownBlock = some k → v.ownBlock ≠ some k) := by
  simp only [owns, List.nodup_cons, List.mem_append, not_or] at h
  obtain ⟨⟨h1, h2⟩, h3⟩ := h
  rw [List.nodup_append] at h3
  refine ⟨fun e => h1 (by simp [e]), fun f hf e => h2 (by simp only [List.mem_flatMap]; exact ⟨f, hf, by simp [e]⟩), fun f hf k hk e => ?_⟩
  exact h3.2.2 k (by simp [e]) k (by simp only [List.mem_flatMap]; exact ⟨f, hf, by simp [hk]⟩) rfl

/-- A file more. -/
theorem Rep.push {w w3 : World} {B : Nat} {v : Value} {fs : List FV} (hr : Rep w B v fs) {g cap n : Nat} {name : ByteArray} (hg : w.grownBy w3 v.ownBlock) (hn : n = fs.length + 1)
    (hown : w3.ownsRow 0 101 2 (.slice (some ⟨g, 0, none⟩) n cap) n (fs.flatMap FV.cells ++ [.string name, .slice none 0 0])) (hat : v.ownBlock = some g ∨ g = w.heap.size) :
    Turned w B (owns B v fs) (w3.setCell ⟨B, 0, none⟩ (.slice (some ⟨g, 0, none⟩) n cap)) (fs.map FV.abs ++ [⟨name, ByteArray.empty⟩]) := by
  obtain ⟨n1, n2, n3⟩ := nd_parts hr.nd
  have hB : B < w.heap.size := hr.lt (mem_owns.2 (.inl rfl))
  have hgB : g ≠ B := by
    rcases hat with h | h
    · intro e; subst e; exact n1 h
    · omega
  have hold : ∀ k, k < w.heap.size → v.ownBlock ≠ some k → w3.heap[k]? = w.heap[k]? := fun k hk hne => hg.block k hk (fun e => hne e.symm)
  have htx : ∀ f, f ∈ fs → ∀ k, f.tv.ownBlock = some k → k < w.heap.size ∧ k ≠ B ∧ k ≠ g ∧ v.ownBlock ≠ some k := fun f hf k hk => by
    have h1 : k < w.heap.size := ((hr.texts f hf).lt k hk).2
    refine ⟨h1, fun e => n2 f hf (by rw [hk, e]), fun e => ?_, n3 f hf k hk⟩
    rcases hat with h | h
    · exact n3 f hf k hk (by rw [h, e])
    · omega
  refine ⟨owns B (.slice (some ⟨g, 0, none⟩) n cap) (fs ++ [⟨name, .slice none 0 0, ByteArray.empty⟩]), ⟨_, _, ⟨?_, ?_, ?_, ?_⟩, rfl, by simp [FV.abs]⟩, ?_, ?_⟩
  · rw [heap_setCell_same (c := #[v]) (e := 95) (fr := (0, 0))]
    · simp
    · rw [hold B hB n1]; exact hr.blk
  · have : w3.ownsRow 0 101 2 (.slice (some ⟨g, 0, none⟩) n cap) (fs ++ [(⟨name, .slice none 0 0, ByteArray.empty⟩ : FV)]).length ((fs ++ [(⟨name, .slice none 0 0, ByteArray.empty⟩ : FV)]).flatMap FV.cells) := by
      have e1 : (fs ++ [(⟨name, .slice none 0 0, ByteArray.empty⟩ : FV)]).length = n := by simp [hn]
      have e2 : (fs ++ [(⟨name, .slice none 0 0, ByteArray.empty⟩ : FV)]).flatMap FV.cells = fs.flatMap FV.cells ++ [.string name, .slice none 0 0] := by simp [FV.cells]
      rw [e1, e2]; exact hown
    exact ownsRow_same this fun k hk => by
      have : k = g := by simpa [Value.ownBlock] using hk.symm
      rw [this]
      exact Below.heap_setCell _ _ _ _ hgB
  · intro f hf
    rcases List.mem_append.1 hf with hf | hf
    · refine ownsRow_same (hr.texts f hf) fun k hk => ?_
      obtain ⟨h1, h2, h3, h4⟩ := htx f hf k hk
      rw [Below.heap_setCell _ _ _ _ (show k ≠ B from h2), hold k h1 h4]
    · have : f = ⟨name, .slice none 0 0, ByteArray.empty⟩ := by simpa using hf
      subst this
      exact World.ownsRow_nil _ _ _ _
  · have h0 := hr.nd
    simp only [owns, List.flatMap_append, List.flatMap_cons, List.flatMap_nil, Value.ownBlock, Option.toList, List.append_nil, List.nil_append, List.cons_append, List.nodup_cons, List.mem_cons, not_or] at h0 ⊢
    have hm : ∀ k, k ∈ fs.flatMap (fun f => f.tv.ownBlock.toList) → k ≠ B ∧ k ≠ g := fun k hk => by
      simp only [List.mem_flatMap] at hk
      obtain ⟨f, hf, hk⟩ := hk
      obtain ⟨_, h2, h3, _⟩ := htx f hf k (by simpa using hk)
      exact ⟨h2, h3⟩
    refine ⟨⟨fun e => hgB e.symm, fun hk => (hm _ hk).1 rfl⟩, fun hk => (hm _ hk).2 rfl, ?_⟩
    exact (List.nodup_append.1 h0.2).2.1
  · have k1 : Kept (owns B v fs) w w3 := ⟨hg.os, hg.tape, hg.output, hg.size, fun k hk hn => hold k hk (fun e => hn (mem_owns.2 (.inr (.inl e))))⟩
    exact k1.trans (kept_setCell (owns B v fs) _ _ _ _ (mem_owns.2 (.inl rfl))) (fun x hx => .inl hx)
  · intro k hk
    rcases mem_owns.1 hk with h | h | ⟨f, hf, h⟩
    · exact .inl (mem_owns.2 (.inl h))
    · have : k = g := by simpa [Value.ownBlock] using h.symm
      rcases hat with h1 | h1
      · exact .inl (mem_owns.2 (.inr (.inl (by rw [this]; exact h1))))
      · right; omega
    · rcases List.mem_append.1 hf with hf | hf
      · exact .inl (mem_owns.2 (.inr (.inr ⟨f, hf, h⟩)))
      · have : f = ⟨name, .slice none 0 0, ByteArray.empty⟩ := by simpa using hf
        subst this
        simp [Value.ownBlock] at h


theorem owns_mid (B : Nat) (v : Value) (l1 l2 : List FV) (f : FV) : (owns B v (l1 ++ f :: l2)).Perm (f.tv.ownBlock.toList ++ owns B v (l1 ++ l2)) := by
  simp only [owns, List.flatMap_append, List.flatMap_cons]
  generalize l1.flatMap (fun f => f.tv.ownBlock.toList) = a
  generalize l2.flatMap (fun f => f.tv.ownBlock.toList) = b
  generalize f.tv.ownBlock.toList = c
  generalize v.ownBlock.toList = d
  have h1 : (B :: (d ++ (a ++ (c ++ b)))).Perm (B :: (c ++ (d ++ (a ++ b)))) := by
    refine List.Perm.cons _ ?_
    have e1 : d ++ (a ++ (c ++ b)) = (d ++ a) ++ (c ++ b) := by simp
    have e2 : c ++ (d ++ (a ++ b)) = c ++ (d ++ a) ++ b := by simp
    rw [e1, e2, ← List.append_assoc]
    exact (List.perm_append_comm).append_right b
  refine h1.trans ?_
  exact List.perm_middle.symm

theorem mid_get {l1 l2 : List FV} {f : FV} : (l1 ++ f :: l2)[l1.length]? = some f := by simp

theorem split_at {fs : List FV} {j : Nat} {f : FV} (h : fs[j]? = some f) : ∃ l1 l2, fs = l1 ++ f :: l2 ∧ l1.length = j := by
  obtain ⟨hj, hf⟩ := List.getElem?_eq_some_iff.1 h
  refine ⟨fs.take j, fs.drop (j + 1), ?_, by simp; omega⟩
  rw [← hf, List.getElem_cons_drop, List.take_append_drop]

theorem take_set_ge {α : Type} (l : List α) (k i : Nat) (x : α) (h : i < k) : (l.set i x).take k = (l.take k).set i x := by
  rw [List.take_set]

theorem flat_len (l : List FV) : (l.flatMap FV.cells).length = l.length * 2 := by
  induction l with
  | nil => rfl
  | cons x xs ih => simp [FV.cells, ih]; omega

theorem flat_set (l1 l2 : List FV) (f f' : FV) (d : Nat) (x : Value) (hd : d < 2) (hx : f'.cells = f.cells.set d x) :
    ((l1 ++ f :: l2).flatMap FV.cells).set (l1.length * 2 + d) x = (l1 ++ f' :: l2).flatMap FV.cells := by
  simp only [List.flatMap_append, List.flatMap_cons]
  rw [List.set_append_right _ _ (by rw [flat_len]; omega), flat_len, show l1.length * 2 + d - l1.length * 2 = d by omega, List.set_append_left _ _ (by simp [FV.cells]; exact hd), hx]

/-- A file of which one field is set: a name, or a text that was put behind. -/
theorem Rep.setFile {w w1 : World} {B g n cap : Nat} {l1 l2 : List FV} {f f' : FV} (hr : Rep w B (.slice (some ⟨g, 0, none⟩) n cap) (l1 ++ f :: l2)) (d : Nat) (hd : d < 2) (x : Value) (hx : f'.cells = f.cells.set d x)
    (hg : w.grownBy w1 f.tv.ownBlock) (hown : w1.ownsRow 0 5 1 f'.tv f'.text.size (byteVals f'.text)) (hat : f'.tv.ownBlock = f.tv.ownBlock ∨ f'.tv.ownBlock = some w.heap.size) :
    Turned w B (owns B (.slice (some ⟨g, 0, none⟩) n cap) (l1 ++ f :: l2)) (w1.setCell ⟨g, l1.length * 2 + d, none⟩ x) ((l1 ++ f' :: l2).map FV.abs) := by
  obtain ⟨n1, n2, n3⟩ := nd_parts hr.nd
  have hB : B < w.heap.size := hr.lt (mem_owns.2 (.inl rfl))
  have hG : g < w.heap.size := hr.lt (mem_owns.2 (.inr (.inl rfl)))
  have hgB : g ≠ B := fun e => n1 (by rw [e]; rfl)
  have hfm : f ∈ l1 ++ f :: l2 := by simp
  have hp := (owns_mid B (.slice (some ⟨g, 0, none⟩) n cap) l1 l2 f).nodup_iff.1 hr.nd
  rw [List.nodup_append] at hp
  obtain ⟨_, hp2, hp3⟩ := hp
  have hfg : f.tv.ownBlock ≠ some g := fun e => n3 f hfm g e rfl
  have hfB : f.tv.ownBlock ≠ some B := n2 f hfm
  have hf'g : f'.tv.ownBlock ≠ some g := by
    rcases hat with h | h
    · rw [h]; exact hfg
    · rw [h]; intro e; have := Option.some.inj e; omega
  have hold : ∀ k, k < w.heap.size → f.tv.ownBlock ≠ some k → k ≠ g → (w1.setCell ⟨g, l1.length * 2 + d, none⟩ x).heap[k]? = w.heap[k]? := fun k hk h1 h2 => by
    rw [Below.heap_setCell _ _ _ _ (show k ≠ g from h2)]
    exact hg.block k hk (Ne.symm h1)
  have hother : ∀ y, y ∈ l1 ++ l2 → ∀ k, y.tv.ownBlock = some k → f.tv.ownBlock ≠ some k ∧ k ≠ g ∧ k < w.heap.size := fun y hy k hk => by
    have hym : y ∈ l1 ++ f :: l2 := by
      rcases List.mem_append.1 hy with h | h
      · exact List.mem_append.2 (.inl h)
      · exact List.mem_append.2 (.inr (List.mem_cons_of_mem _ h))
    refine ⟨fun e => ?_, fun e => n3 y hym k hk (by rw [e]; rfl), ((hr.texts y hym).lt k hk).2⟩
    exact hp3 k (by simp [e]) k (mem_owns.2 (.inr (.inr ⟨y, hy, hk⟩))) rfl
  have hrow1 : w1.heap[g]? = w.heap[g]? := hg.block g hG (Ne.symm hfg)
  refine ⟨owns B (.slice (some ⟨g, 0, none⟩) n cap) (l1 ++ f' :: l2), ⟨_, _, ⟨?_, ?_, ?_, ?_⟩, rfl, rfl⟩, ?_, ?_⟩
  · rw [hold B hB hfB (Ne.symm hgB)]; exact hr.blk
  · obtain ⟨hl, h2⟩ := hr.row
    have e0 : (l1 ++ f' :: l2).length = (l1 ++ f :: l2).length := by simp
    rcases h2 with ⟨e, _⟩ | ⟨g', cap', cur, he, _, hh, hnc, hcm, hcs, htk⟩
    · cases e
    · obtain ⟨rfl, hn, rfl⟩ : g = g' ∧ n = (l1 ++ f :: l2).length ∧ cap = cap' := by simpa using he
      rw [e0]
      refine ⟨by rw [flat_len, e0], .inr ⟨g, cap, cur.setIfInBounds (l1.length * 2 + d) x, by rw [hn], Nat.zero_le _, ?_, hnc, hcm, by simpa using hcs, ?_⟩⟩
      · rw [heap_setCell_same (c := cur) (e := 101) (fr := (0, 0)) (by rw [hrow1]; exact hh)]
      · rw [Array.toList_setIfInBounds, List.take_set, htk]
        exact flat_set l1 l2 f f' d x hd hx
  · intro y hy
    by_cases e : y = f'
    · subst e
      refine ownsRow_same hown fun k hk => ?_
      exact Below.heap_setCell _ _ _ _ (fun e => hf'g (by rw [hk]; exact congrArg some e))
    · have hy2 : y ∈ l1 ++ l2 := by
        rcases List.mem_append.1 hy with h | h
        · exact List.mem_append.2 (.inl h)
        · rcases List.mem_cons.1 h with h | h
          · exact absurd h e
          · exact List.mem_append.2 (.inr h)
      have hym : y ∈ l1 ++ f :: l2 := by
        rcases List.mem_append.1 hy2 with h | h
        · exact List.mem_append.2 (.inl h)
        · exact List.mem_append.2 (.inr (List.mem_cons_of_mem _ h))
      refine ownsRow_same (hr.texts y hym) fun k hk => ?_
      obtain ⟨h1, h2, h3⟩ := hother y hy2 k hk
      exact hold k h3 h1 h2
  · rw [(owns_mid B (.slice (some ⟨g, 0, none⟩) n cap) l1 l2 f').nodup_iff, List.nodup_append]
    refine ⟨by cases f'.tv.ownBlock <;> simp, hp2, ?_⟩
    intro a ha b hb
    have ha' : f'.tv.ownBlock = some a := by simpa using ha
    rcases hat with h | h
    · exact hp3 a (by rw [← h]; exact ha) b hb
    · have hlt : b < w.heap.size := by
        refine hr.lt (B := B) ?_
        rw [(owns_mid B (.slice (some ⟨g, 0, none⟩) n cap) l1 l2 f).mem_iff]
        exact List.mem_append.2 (.inr hb)
      rw [h] at ha'
      have := Option.some.inj ha'
      omega
  · have k1 : Kept (owns B (.slice (some ⟨g, 0, none⟩) n cap) (l1 ++ f :: l2)) w w1 := ⟨hg.os, hg.tape, hg.output, hg.size, fun k hk hn => hg.block k hk (fun e => hn (mem_owns.2 (.inr (.inr ⟨f, hfm, e.symm⟩))))⟩
    exact k1.trans (kept_setCell (owns B (.slice (some ⟨g, 0, none⟩) n cap) (l1 ++ f :: l2)) _ _ _ _ (mem_owns.2 (.inr (.inl rfl)))) (fun x hx => .inl hx)
  · intro k hk
    rw [(owns_mid B (.slice (some ⟨g, 0, none⟩) n cap) l1 l2 f').mem_iff] at hk
    rcases List.mem_append.1 hk with h | h
    · have ha' : f'.tv.ownBlock = some k := by simpa using h
      rcases hat with h1 | h1
      · left
        exact mem_owns.2 (.inr (.inr ⟨f, hfm, by rw [← h1]; exact ha'⟩))
      · right
        rw [h1] at ha'
        have := Option.some.inj ha'
        omega
    · left
      rw [(owns_mid B (.slice (some ⟨g, 0, none⟩) n cap) l1 l2 f).mem_iff]
      exact List.mem_append.2 (.inr h)

/-- A file less. -/
theorem Rep.erase {w w1 : World} {B g n cap m : Nat} {l1 l2 : List FV} {f : FV} (hr : Rep w B (.slice (some ⟨g, 0, none⟩) n cap) (l1 ++ f :: l2)) (hk : Kept [g] w w1) (hm : m = (l1 ++ l2).length)
    (hrow : w1.ownsRow 0 101 2 (.slice (some ⟨g, 0, none⟩) m cap) m ((l1 ++ l2).flatMap FV.cells)) :
    Turned w B (owns B (.slice (some ⟨g, 0, none⟩) n cap) (l1 ++ f :: l2)) (w1.setCell ⟨B, 0, none⟩ (.slice (some ⟨g, 0, none⟩) m cap)) ((l1 ++ l2).map FV.abs) := by
  subst hm
  obtain ⟨n1, n2, n3⟩ := nd_parts hr.nd
  have hB : B < w.heap.size := hr.lt (mem_owns.2 (.inl rfl))
  have hgB : g ≠ B := fun e => n1 (by rw [e]; rfl)
  have hp := (owns_mid B (.slice (some ⟨g, 0, none⟩) n cap) l1 l2 f).nodup_iff.1 hr.nd
  rw [List.nodup_append] at hp
  obtain ⟨_, hp2, hp3⟩ := hp
  have hsub : ∀ y, y ∈ l1 ++ l2 → y ∈ l1 ++ f :: l2 := fun y hy => by
    rcases List.mem_append.1 hy with h | h
    · exact List.mem_append.2 (.inl h)
    · exact List.mem_append.2 (.inr (List.mem_cons_of_mem _ h))
  refine ⟨owns B (.slice (some ⟨g, 0, none⟩) (l1 ++ l2).length cap) (l1 ++ l2), ⟨_, _, ⟨?_, ?_, ?_, ?_⟩, rfl, rfl⟩, ?_, ?_⟩
  · rw [heap_setCell_same (c := #[.slice (some ⟨g, 0, none⟩) n cap]) (e := 95) (fr := (0, 0))]
    · simp
    · rw [hk.block B hB (by simpa using Ne.symm hgB)]; exact hr.blk
  · exact ownsRow_same hrow fun k hk => by
      have : k = g := by simpa [Value.ownBlock] using hk.symm
      rw [this]
      exact Below.heap_setCell _ _ _ _ hgB
  · intro y hy
    refine ownsRow_same (hr.texts y (hsub y hy)) fun k hkk => ?_
    have h1 : k < w.heap.size := ((hr.texts y (hsub y hy)).lt k hkk).2
    have h2 : k ≠ B := fun e => n2 y (hsub y hy) (by rw [hkk, e])
    have h3 : k ≠ g := fun e => n3 y (hsub y hy) k hkk (by rw [e]; rfl)
    rw [Below.heap_setCell _ _ _ _ (show k ≠ B from h2)]
    exact hk.block k h1 (by simpa using h3)
  · exact hp2
  · have k1 : Kept (owns B (.slice (some ⟨g, 0, none⟩) n cap) (l1 ++ f :: l2)) w w1 := ⟨hk.os, hk.tape, hk.output, hk.size, fun k hkk hn => hk.block k hkk (fun e => hn (mem_owns.2 (.inr (.inl (by rw [List.mem_singleton.1 e]; rfl)))))⟩
    exact k1.trans (kept_setCell (owns B (.slice (some ⟨g, 0, none⟩) n cap) (l1 ++ f :: l2)) _ _ _ _ (mem_owns.2 (.inl rfl))) (fun x hx => .inl hx)
  · intro k hkk
    left
    rw [(owns_mid B (.slice (some ⟨g, 0, none⟩) n cap) l1 l2 f).mem_iff]
    exact List.mem_append.2 (.inr hkk)

end Go.Proofs.Ytlndphpidkacgaa
