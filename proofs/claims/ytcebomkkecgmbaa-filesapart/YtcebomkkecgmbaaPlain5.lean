/- What is not named stays, on lists. -/
import Derived.Test.YtcebomkkecgmbaaPlain4
namespace Go.Proofs.Ytcebomkkecgmbaa
open Go.RowKit
set_option linter.unusedSimpArgs false
set_option linter.unusedVariables false

/-- Not one of the two names. -/
def far (a b : ByteArray) (x : ByteArray) : Bool := !(x.toList == a.toList) && !(x.toList == b.toList)
theorem far_left (a b : ByteArray) : far a b a = false := by simp [far]
theorem far_right (a b : ByteArray) : far a b b = false := by simp [far]

theorem filter_erase {α : Type} (p : α → Bool) (l : List α) (j : Nat) (x : α) (hx : l[j]? = some x) (hp : p x = false) : (l.eraseIdx j).filter p = l.filter p := by
  obtain ⟨hj, rfl⟩ := List.getElem?_eq_some_iff.1 hx
  have e : l = l.take j ++ l[j] :: l.drop (j + 1) := by
    rw [List.getElem_cons_drop, List.take_append_drop]
  have e2 : l.filter p = (l.take j ++ l[j] :: l.drop (j + 1)).filter p := congrArg (List.filter p) e
  rw [List.eraseIdx_eq_take_drop_succ, e2, List.filter_append, List.filter_append, List.filter_cons_of_neg (by simp [hp])]
theorem filter_set {α : Type} (p : α → Bool) (l : List α) (j : Nat) (x y : α) (hx : l[j]? = some x) (hp : p x = false) (hq : p y = false) : (l.set j y).filter p = l.filter p := by
  obtain ⟨hj, rfl⟩ := List.getElem?_eq_some_iff.1 hx
  have e : l = l.take j ++ l[j] :: l.drop (j + 1) := by
    rw [List.getElem_cons_drop, List.take_append_drop]
  have e2 : l.filter p = (l.take j ++ l[j] :: l.drop (j + 1)).filter p := congrArg (List.filter p) e
  rw [List.set_eq_take_append_cons_drop, if_pos hj, e2, List.filter_append, List.filter_append, List.filter_cons_of_neg (by simp [hp, hq]), List.filter_cons_of_neg (by simp [hp, hq])]

/-- A call leaves all files that it does not name. -/
theorem apart_files (st : List AFile) (c : ACall) (h : (aDo st c).code = 0) (hk : changesB c.kind = true) :
    (aDo st c).st.filter (fun f => far c.name c.dst f.name) = st.filter (fun f => far c.name c.dst f.name) := by
  have hc := check_of_zero h
  obtain ⟨z1, z2, z3, z4, z5⟩ := check_zero hc
  unfold aDo at h ⊢
  rw [if_neg (by simp [hc])] at h ⊢
  by_cases h1 : c.kind = 1
  · rw [if_pos h1] at h ⊢
    dsimp only at h ⊢
    unfold aCreate at h ⊢
    by_cases h0 : 0 ≤ fInt c.name st
    · rw [if_pos h0]
    · rw [if_neg h0]
      by_cases h6 : 6 ≤ st.length
      · rw [if_pos h6]
      · rw [if_neg h6]
        simp [far_left]
  rw [if_neg h1] at h ⊢
  by_cases h6 : c.kind = 6
  · rw [h6] at hk; cases hk
  rw [if_neg h6] at h ⊢
  by_cases hf : fInt c.name st < 0
  · rw [if_pos hf]
  rw [if_neg hf] at h ⊢
  obtain ⟨hj, _⟩ := fIdx_spec c.name st (by omega)
  have hnm := fIdx_name hj
  have hg := fileAt_get hj
  have hq : far c.name c.dst (fileAt st (fIdx c.name st)).name = false := by rw [hnm]; exact far_left _ _
  by_cases h2 : c.kind = 2
  · rw [if_pos h2]
    exact filter_erase _ _ _ _ hg hq
  rw [if_neg h2] at h ⊢
  by_cases h3 : c.kind = 3
  · rw [if_pos h3]
    dsimp only
    unfold aRename
    by_cases h0 : 0 ≤ fInt c.dst st
    · rw [if_pos h0]
    · rw [if_neg h0]
      exact filter_set _ _ _ _ _ hg hq (far_right _ _)
  rw [if_neg h3] at h ⊢
  by_cases h4 : c.kind = 4
  · rw [if_pos h4]
    dsimp only
    unfold aPut
    by_cases h0 : 16 < (fileAt st (fIdx c.name st)).text.size + c.text.size
    · rw [if_pos h0]
    · rw [if_neg h0]
      exact filter_set _ _ _ _ _ hg hq hq
  rw [if_neg h4]

/-- A call that only asks changes nothing. -/
theorem ask_keep (st : List AFile) (c : ACall) (hk : changesB c.kind = false) : (aDo st c).st = st := by
  have k1 : c.kind ≠ 1 := fun e => by rw [e] at hk; cases hk
  have k2 : c.kind ≠ 2 := fun e => by rw [e] at hk; cases hk
  have k3 : c.kind ≠ 3 := fun e => by rw [e] at hk; cases hk
  have k4 : c.kind ≠ 4 := fun e => by rw [e] at hk; cases hk
  unfold aDo
  by_cases hc : checkI c ≠ 0
  · rw [if_pos hc]
  rw [if_neg hc, if_neg k1]
  by_cases h6 : c.kind = 6
  · rw [if_pos h6]
  rw [if_neg h6]
  by_cases hf : fInt c.name st < 0
  · rw [if_pos hf]
  rw [if_neg hf, if_neg k2, if_neg k3, if_neg k4]

theorem textOf_find (st : List AFile) (nm : ByteArray) :
    textOf st nm = if checkI ⟨5, nm, ⟨#[]⟩, ⟨#[]⟩⟩ ≠ 0 then ⟨#[]⟩ else ((st.find? fun f => f.name.toList == nm.toList).map AFile.text).getD ⟨#[]⟩ := by
  unfold textOf aDo
  by_cases hc : checkI ⟨5, nm, ⟨#[]⟩, ⟨#[]⟩⟩ ≠ 0
  · rw [if_pos hc, if_pos hc]; rfl
  rw [if_neg hc, if_neg hc]
  rw [List.find?_eq_getElem?_findIdx]
  simp only [show ¬ ((5 : Int) = 1) by decide, show ¬ ((5 : Int) = 6) by decide, show ¬ ((5 : Int) = 2) by decide, show ¬ ((5 : Int) = 3) by decide, show ¬ ((5 : Int) = 4) by decide, if_false]
  by_cases hf : fInt nm st < 0
  · rw [if_pos hf]
    have : st[fIdx nm st]? = none := by
      rw [List.getElem?_eq_none_iff]
      unfold fInt at hf
      by_cases h : fIdx nm st < st.length
      · rw [if_pos h] at hf; omega
      · omega
    unfold fIdx at this
    rw [this]
    rfl
  · rw [if_neg hf]
    obtain ⟨hj, _⟩ := fIdx_spec nm st (by omega)
    have hg := fileAt_get hj
    have e : st[st.findIdx fun f => f.name.toList == nm.toList]? = some (fileAt st (fIdx nm st)) := hg
    rw [e]
    rfl

theorem textOf_far (st st' : List AFile) (a b nm : ByteArray) (h : st'.filter (fun f => far a b f.name) = st.filter (fun f => far a b f.name)) (hn : far a b nm = true) : textOf st' nm = textOf st nm := by
  have key : ∀ s : List AFile, (s.filter fun f => far a b f.name).find? (fun f => f.name.toList == nm.toList) = s.find? fun f => f.name.toList == nm.toList := fun s => by
    rw [List.find?_filter]
    congr 1
    funext f
    by_cases e : f.name = nm
    · subst e; simp [hn]
    · simp [eqB, e]
  rw [textOf_find, textOf_find, ← key st', ← key st, h]

theorem sortB_filter (xs : List ByteArray) (p : ByteArray → Bool) : (sortB xs).filter p = sortB (xs.filter p) := by
  unfold sortB
  rw [List.filter_map]
  congr 1
  have hs := fun l => List.pairwise_mergeSort (le := fun x y => decide (x ≤ y)) (fun a b c => le_trans' a b c) le_total l
  refine List.Perm.eq_of_pairwise (le := fun x y => decide (x ≤ y) = true) (fun a b _ _ h1 h2 => ?_) ((hs _).filter _) (hs _) ?_
  · have h1 : a ≤ b := by simpa using h1
    have h2 : b ≤ a := by simpa using h2
    exact List.le_antisymm h1 h2
  · refine ((List.mergeSort_perm _ _).filter _).trans ?_
    refine List.Perm.trans ?_ (List.mergeSort_perm _ _).symm
    rw [List.filter_map]
    have e : ((p ∘ fun l : List UInt8 => (⟨l.toArray⟩ : ByteArray)) ∘ fun x : ByteArray => x.data.toList) = p := by
      funext x
      simp [mk_data]
    rw [e]

theorem pairs_far (st st' : List AFile) (a b : ByteArray) (h : st'.filter (fun f => far a b f.name) = st.filter (fun f => far a b f.name)) :
    pairs st' ((sNames st').filter (far a b)) = pairs st ((sNames st).filter (far a b)) := by
  have e : (sNames st').filter (far a b) = (sNames st).filter (far a b) := by
    unfold sNames
    rw [sortB_filter, sortB_filter, List.filter_map, List.filter_map]
    have : (far a b ∘ AFile.name) = fun f => far a b f.name := rfl
    rw [this, h]
  rw [e]
  unfold pairs
  rw [List.flatMap_def, List.flatMap_def, List.map_congr_left (fun nm hnm => by rw [textOf_far st st' a b nm h (List.mem_filter.1 hnm).2])]

theorem pairs_get (st : List AFile) (ns : List ByteArray) (k : Nat) (x : ByteArray) (h : ns[k]? = some x) : (pairs st ns)[k * 2]? = some x ∧ (pairs st ns)[k * 2 + 1]? = some (textOf st x) := by
  induction ns generalizing k with
  | nil => simp at h
  | cons y r ih =>
    cases k with
    | zero => simp at h; subst h; simp [pairs]
    | succ k =>
      have := ih k (by simpa using h)
      have e1 : (k + 1) * 2 = k * 2 + 2 := by omega
      simp only [pairs, List.flatMap_cons] at this ⊢
      rw [e1]
      exact ⟨by simpa using this.1, by rw [show k * 2 + 2 + 1 = k * 2 + 1 + 2 by omega]; simpa using this.2⟩

theorem filter_take_succ (ns : List ByteArray) (p : ByteArray → Bool) (k : Nat) (x : ByteArray) (h : ns[k]? = some x) : (ns.take (k + 1)).filter p = (ns.take k).filter p ++ if p x then [x] else [] := by
  rw [List.take_add_one, h]
  by_cases hp : p x = true <;> simp [hp]
theorem pairs_append (st : List AFile) (a b : List ByteArray) : pairs st (a ++ b) = pairs st a ++ pairs st b := by simp [pairs]

end Go.Proofs.Ytcebomkkecgmbaa
