/- What the statements of layer 1 ask, on lists. -/
import Derived.Test.YtlndphpidkacgaaWn
import Derived.Sort.Walk0
namespace Go.Proofs.Ytlndphpidkacgaa
open Go.RowKit
set_option linter.unusedSimpArgs false
set_option linter.unusedVariables false

/-- Texts in one text, a blank between. -/
def jn (xs : List ByteArray) : ByteArray := ⟨(Lib.join (xs.map fun x => x.data.toList) [32]).toArray⟩
theorem joinNames_eq (st : List AFile) : joinNames st = jn (sNames st) := rfl

theorem jn_nil : jn [] = ⟨#[]⟩ := rfl
theorem mk_data (x : ByteArray) : (⟨x.data.toList.toArray⟩ : ByteArray) = x := by cases x; simp
theorem jn_one (x : ByteArray) : jn [x] = x := by
  simp only [jn, List.map_cons, List.map_nil, Lib.join_one]
theorem jn_first (xs : List ByteArray) (x : ByteArray) (h : xs[0]? = some x) : jn (xs.take 1) = ⟨#[]⟩ ++ x := by
  cases xs with
  | nil => simp at h
  | cons y r =>
    have : y = x := by simpa using h
    subst this
    rw [List.take_succ_cons, List.take_zero, jn_one]
    cases y; rfl
theorem jn_succ (xs : List ByteArray) (k : Nat) (x : ByteArray) (hk : 0 < k) (h : xs[k]? = some x) : jn (xs.take (k + 1)) = jn (xs.take k) ++ ⟨#[32]⟩ ++ x := by
  obtain ⟨j, rfl⟩ : ∃ j, k = j + 1 := ⟨k - 1, by omega⟩
  cases xs with
  | nil => simp at h
  | cons y r =>
    have h' : r[j]? = some x := by simpa using h
    have h2 : (r.map fun x => x.data.toList)[j]? = some x.data.toList := by rw [List.getElem?_map, h']; rfl
    have e := Lib.joinTail_take_succ [32] (r.map fun x => x.data.toList) j x.data.toList h2
    simp only [jn, List.take_succ_cons, List.map_cons, Lib.join_cons]
    rw [← List.map_take, ← List.map_take] at e
    rw [e]
    have e2 : (⟨#[32]⟩ : ByteArray) = ⟨([32] : List UInt8).toArray⟩ := rfl
    have e3 := mk_data x
    rw [e2, ByteArray.mk_append_mk]
    conv => rhs; rw [← e3]
    rw [ByteArray.mk_append_mk]
    simp [List.append_assoc]
theorem jn_size (xs : List ByteArray) (k : Nat) (hn : xs.length ≤ 1000) (h : ∀ x, x ∈ xs → x.size ≤ 5) : (jn (xs.take k)).size ≤ 1000000 := by
  have h1 := join_len ((xs.take k).map fun x => x.data.toList) [32] 5 (fun l hl => by
    obtain ⟨x, hx, rfl⟩ := List.mem_map.1 hl
    have := h x (List.mem_of_mem_take hx)
    rw [Array.length_toList]
    exact this)
  have h2 : (jn (xs.take k)).size = (Lib.join ((xs.take k).map fun x => x.data.toList) [32]).length := by simp [jn, ByteArray.size]
  rw [h2]
  simp at h1 ⊢
  omega

theorem read_same (st : List AFile) (name : ByteArray) (hi : Inv st) : (aDo st ⟨5, name, ⟨#[]⟩, ⟨#[]⟩⟩).st = st ∧ (aDo st ⟨5, name, ⟨#[]⟩, ⟨#[]⟩⟩).text.size ≤ 16 := by
  unfold aDo
  by_cases hc : checkI ⟨5, name, ⟨#[]⟩, ⟨#[]⟩⟩ ≠ 0
  · rw [if_pos hc]; exact ⟨rfl, by simp⟩
  rw [if_neg hc, if_neg (by simp), if_neg (by simp)]
  by_cases hf : fInt name st < 0
  · simp only [hf, if_true]; exact ⟨trivial, by simp⟩
  · simp only [hf, if_false]
    rw [if_neg (by simp), if_neg (by simp), if_neg (by simp)]
    obtain ⟨hj, _⟩ := fIdx_spec name st (by omega)
    exact ⟨rfl, hi.short _ (fileAt_mem hj)⟩
theorem read_eq (st : List AFile) (name : ByteArray) (hi : Inv st) : ∃ code text, aDo st ⟨5, name, ⟨#[]⟩, ⟨#[]⟩⟩ = ⟨code, text, st⟩ ∧ text.size ≤ 16 := by
  obtain ⟨r1, r2⟩ := read_same st name hi
  generalize aDo st ⟨5, name, ⟨#[]⟩, ⟨#[]⟩⟩ = r at r1 r2
  obtain ⟨c, t, s⟩ := r
  dsimp only at r1 r2
  subst r1
  exact ⟨c, t, rfl, r2⟩
theorem list_same (st : List AFile) : aDo st ⟨6, ⟨#[]⟩, ⟨#[]⟩, ⟨#[]⟩⟩ = ⟨0, jn (sNames st), st⟩ := by
  rw [aDo, begun5c]
  simp [joinNames_eq]

theorem sNames_length (st : List AFile) : (sNames st).length = st.length := by simp [sNames, sortB_length]
theorem sNames_named {st : List AFile} (hi : Inv st) {x : ByteArray} (h : x ∈ sNames st) : nameB x = true := by
  obtain ⟨f, hf, rfl⟩ := List.mem_map.1 (sortB_mem.1 h)
  exact hi.named f hf

theorem le_total (a b : List UInt8) : (decide (a ≤ b) || decide (b ≤ a)) = true := by
  have := List.le_total a b
  simpa using this
theorem le_trans' (a b c : List UInt8) : decide (a ≤ b) = true → decide (b ≤ c) = true → decide (a ≤ c) = true := by
  intro h1 h2
  have h1 : a ≤ b := by simpa using h1
  have h2 : b ≤ c := by simpa using h2
  simpa using List.le_trans h1 h2

theorem sortB_nodup {xs : List ByteArray} (h : xs.Nodup) : ((xs.map fun x => x.data.toList).mergeSort fun x y => decide (x ≤ y)).Nodup := by
  rw [(List.mergeSort_perm _ _).nodup_iff]
  refine List.pairwise_map.2 (h.imp fun hne e => hne (WideShapes.bytes_inj e))

theorem less_eq (a b : ByteArray) : Op.bytesLess a.toList b.toList = decide (a.data.toList < b.data.toList) := by
  rw [bytesLess_eq, toList_data, toList_data]

/-- THE NAMES RISE. -/
theorem sNames_rise {st : List AFile} (hi : Inv st) (k : Nat) (x y : ByteArray) (hx : (sNames st)[k]? = some x) (hy : (sNames st)[k + 1]? = some y) : Op.bytesLess x.toList y.toList = true := by
  rw [less_eq]
  have hs := List.pairwise_mergeSort (le := fun x y => decide (x ≤ y)) (fun a b c => le_trans' a b c) le_total ((st.map AFile.name).map fun x => x.data.toList)
  have hn := sortB_nodup hi.once
  unfold sNames sortB at hx hy
  rw [List.getElem?_map] at hx hy
  generalize ((st.map AFile.name).map fun x => x.data.toList).mergeSort (fun x y => decide (x ≤ y)) = L at hs hn hx hy
  cases h1 : L[k]? with
  | none => simp [h1] at hx
  | some p =>
    cases h2 : L[k + 1]? with
    | none => simp [h2] at hy
    | some q =>
      simp [h1] at hx
      simp [h2] at hy
      subst hx
      subst hy
      obtain ⟨l1, e1⟩ := List.getElem?_eq_some_iff.1 h1
      obtain ⟨l2, e2⟩ := List.getElem?_eq_some_iff.1 h2
      have r1 := List.pairwise_iff_getElem.1 hs k (k + 1) l1 l2 (by omega)
      have r2 := List.pairwise_iff_getElem.1 hn k (k + 1) l1 l2 (by omega)
      rw [e1, e2] at r1 r2
      have r1' : p ≤ q := by simpa using r1
      have r3 : p < q := Std.lt_of_le_of_ne r1' r2
      simpa using r3

end Go.Proofs.Ytlndphpidkacgaa
