/- Do, whole; what holds of all files stays so. -/
import Derived.Test.YtlndphpidkacgaaWk
namespace Go.Proofs.Ytlndphpidkacgaa
open Go.RowKit
set_option linter.unusedSimpArgs false
set_option linter.unusedVariables false

theorem check_zero {c : ACall} (h : checkI c = 0) : 1 ≤ c.kind ∧ c.kind ≤ 6 ∧ formedB c = true ∧ namedB c = true ∧ (c.kind = 4 → textB c.text = true) := by
  unfold checkI at h
  by_cases h1 : c.kind < 1 ∨ 6 < c.kind
  · rw [if_pos h1] at h; omega
  rw [if_neg h1] at h
  cases h2 : formedB c
  · rw [h2, if_pos rfl] at h; omega
  rw [h2, if_neg (by simp)] at h
  cases h3 : namedB c
  · rw [h3, if_pos rfl] at h; omega
  rw [h3, if_neg (by simp)] at h
  refine ⟨by omega, by omega, rfl, rfl, fun h4 => ?_⟩
  cases h5 : textB c.text
  · rw [if_pos ⟨h4, h5⟩] at h; omega
  · rfl

theorem named_name {c : ACall} (h : namedB c = true) (h6 : c.kind ≠ 6) : nameB c.name = true := by
  unfold namedB at h
  have : (c.kind == 6) = false := by simpa using h6
  simp only [this, Bool.false_or, Bool.and_eq_true] at h
  exact h.1
theorem named_dst {c : ACall} (h : namedB c = true) (h3 : c.kind = 3) : nameB c.dst = true := by
  unfold namedB at h
  have : (c.kind != 3) = false := by simpa using h3
  simp only [this, Bool.false_or, Bool.and_eq_true] at h
  exact h.2

theorem tail_len (sep : List UInt8) (r : List (List UInt8)) (m : Nat) (h : ∀ x, x ∈ r → x.length ≤ m) : (Lib.joinTail sep r).length ≤ r.length * (sep.length + m) := by
  unfold Lib.joinTail
  induction r with
  | nil => simp
  | cons x xs ih =>
    have h1 := ih (fun y hy => h y (List.mem_cons_of_mem _ hy))
    have h2 := h x (by simp)
    simp only [List.map_cons, List.flatten_cons, List.length_append, List.length_cons, Nat.add_mul, Nat.one_mul] at h1 ⊢
    omega
theorem join_len (xs : List (List UInt8)) (sep : List UInt8) (m : Nat) (h : ∀ x, x ∈ xs → x.length ≤ m) : (Lib.join xs sep).length ≤ xs.length * (sep.length + m) := by
  cases xs with
  | nil => simp [Lib.join_nil]
  | cons x r =>
    rw [Lib.join_cons, List.length_append]
    have h1 := tail_len sep r m (fun y hy => h y (List.mem_cons_of_mem _ hy))
    have h2 := h x (by simp)
    simp only [List.length_cons, Nat.add_mul, Nat.one_mul]
    omega

theorem sortB_mem {xs : List ByteArray} {x : ByteArray} : x ∈ sortB xs ↔ x ∈ xs := by
  unfold sortB
  simp only [List.mem_map, (List.mergeSort_perm _ _).mem_iff]
  constructor
  · rintro ⟨l, ⟨y, hy, rfl⟩, rfl⟩
    exact hy
  · intro h
    exact ⟨x.data.toList, ⟨x, h, rfl⟩, rfl⟩

theorem join_small {st : List AFile} (hi : Inv st) : (Lib.join ((sNames st).map (·.data.toList)) [32]).length ≤ 1000000 := by
  have h := join_len ((sNames st).map (·.data.toList)) [32] 5 (fun l hl => by
    obtain ⟨x, hx, rfl⟩ := List.mem_map.1 hl
    have : x ∈ st.map AFile.name := sortB_mem.1 hx
    obtain ⟨f, hf, rfl⟩ := List.mem_map.1 this
    have := nameB_size (hi.named f hf)
    rw [Array.length_toList]
    exact this.2)
  have h2 : ((sNames st).map (·.data.toList)).length = st.length := by simp [sNames, sortB_length]
  rw [h2] at h
  have := hi.few
  simp at h
  omega

/-- DO, WHOLE. -/
theorem Do_any (c : ACall) (B : Nat) (own : List Nat) (st : List AFile) (w : World) (hr : St w B own st) (hi : Inv st) (ha : c.name.size ≤ maxLen) (hb : c.dst.size ≤ maxLen) (ht : c.text.size ≤ maxLen) :
    Calls Try.prog 20 #[.pointer (some ⟨B, 0, none⟩), .agg #[.int .i64 c.kind, .string c.name, .string c.dst, .string c.text]] w
      fun e w' => e = .returned (.agg #[.int .i64 (aDo st c).code, .string (aDo st c).text]) ∧ Turned w B own w' (aDo st c).st := by
  obtain ⟨k, a, b, t⟩ := c
  by_cases hc : checkI ⟨k, a, b, t⟩ ≠ 0
  · have e : aDo st ⟨k, a, b, t⟩ = ⟨checkI ⟨k, a, b, t⟩, ByteArray.empty, st⟩ := by rw [aDo, if_pos hc]
    rw [e]
    exact Do_code k a b t B own st w hr ha hb ht hc
  have hc0 : checkI ⟨k, a, b, t⟩ = 0 := by simpa using hc
  obtain ⟨z1, z2, z3, z4, z5⟩ := check_zero hc0
  dsimp only at z1 z2 z5 ha hb ht
  by_cases h1 : k = 1
  · subst h1
    have e : aDo st ⟨1, a, b, t⟩ = ⟨(aCreate st a).1, ByteArray.empty, (aCreate st a).2⟩ := by rw [aDo, if_neg hc, if_pos rfl]
    rw [e]
    exact Do_make a b t B own st w hr hi ha hb ht hc0 (by have := nameB_size (named_name z4 (by simp)); dsimp only at this; omega)
  by_cases h6 : k = 6
  · subst h6
    have e : aDo st ⟨6, a, b, t⟩ = ⟨0, joinNames st, st⟩ := by rw [aDo, if_neg hc, if_neg (by simp), if_pos rfl]
    rw [e]
    exact Do_list a b t B own st w hr hi ha hb ht hc0 (join_small hi)
  by_cases hf : fInt a st < 0
  · have e : aDo st ⟨k, a, b, t⟩ = ⟨6, ByteArray.empty, st⟩ := by rw [aDo, if_neg hc, if_neg h1, if_neg h6, if_pos hf]
    rw [e]
    exact Do_none k a b t B own st w hr hi ha hb ht hc0 h1 h6 hf
  by_cases h2 : k = 2
  · subst h2
    have e : aDo st ⟨2, a, b, t⟩ = ⟨0, ByteArray.empty, st.eraseIdx (fIdx a st)⟩ := by rw [aDo, if_neg hc, if_neg h1, if_neg h6, if_neg hf, if_pos rfl]
    rw [e]
    exact Do_remove a b t B own st w hr hi ha hb ht hc0 (by omega)
  by_cases h3 : k = 3
  · subst h3
    have e : aDo st ⟨3, a, b, t⟩ = ⟨(aRename st (fIdx a st) b).1, ByteArray.empty, (aRename st (fIdx a st) b).2⟩ := by rw [aDo, if_neg hc, if_neg h1, if_neg h6, if_neg hf, if_neg h2, if_pos rfl]
    rw [e]
    exact Do_rename a b t B own st w hr hi ha hb ht hc0 (by omega) (by have := nameB_size (named_dst z4 rfl); dsimp only at this; omega)
  by_cases h4 : k = 4
  · subst h4
    have e : aDo st ⟨4, a, b, t⟩ = ⟨(aPut st (fIdx a st) t).1, ByteArray.empty, (aPut st (fIdx a st) t).2⟩ := by rw [aDo, if_neg hc, if_neg h1, if_neg h6, if_neg hf, if_neg h2, if_neg h3, if_pos rfl]
    rw [e]
    exact Do_append a b t B own st w hr hi ha hb ht hc0 (by omega) (z5 rfl)
  have h5 : k = 5 := by omega
  subst h5
  have e : aDo st ⟨5, a, b, t⟩ = ⟨0, (fileAt st (fIdx a st)).text, st⟩ := by rw [aDo, if_neg hc, if_neg h1, if_neg h6, if_neg hf, if_neg h2, if_neg h3, if_neg h4]
  rw [e]
  exact Do_read a b t B own st w hr hi ha hb ht hc0 (by omega)

/-! ### What holds of all files stays so -/
theorem eqB {a b : ByteArray} : (a.toList == b.toList) = decide (a = b) := by
  by_cases h : a = b
  · subst h; simp
  · have : a.toList ≠ b.toList := fun e => h (WideShapes.bytes_inj (by rw [← toList_data, ← toList_data]; exact e))
    simp [h, this]

theorem fInt_neg {name : ByteArray} {st : List AFile} (h : fInt name st < 0) : name ∉ st.map AFile.name := by
  intro hm
  obtain ⟨f, hf, rfl⟩ := List.mem_map.1 hm
  have : fIdx f.name st < st.length := by
    unfold fIdx
    rw [List.findIdx_lt_length]
    exact ⟨f, hf, by simp⟩
  unfold fInt at h
  rw [if_pos this] at h
  omega

theorem fileAt_mem {st : List AFile} {j : Nat} (h : j < st.length) : fileAt st j ∈ st := by
  unfold fileAt
  rw [List.getD_eq_getElem?_getD, List.getElem?_eq_getElem h]
  exact List.getElem_mem h

theorem fileAt_get {st : List AFile} {j : Nat} (h : j < st.length) : st[j]? = some (fileAt st j) := by
  unfold fileAt
  rw [List.getD_eq_getElem?_getD, List.getElem?_eq_getElem h]
  rfl

theorem Inv.nil : Inv [] := ⟨by simp, by simp, by simp, by simp⟩

theorem Inv.set {st : List AFile} (hi : Inv st) {j : Nat} (hj : j < st.length) (f : AFile) (h1 : nameB f.name = true) (h2 : f.text.size ≤ 16) (h3 : f.name = (fileAt st j).name ∨ f.name ∉ st.map AFile.name) : Inv (st.set j f) := by
  refine ⟨by simpa using hi.few, fun x hx => ?_, fun x hx => ?_, ?_⟩
  · rcases List.mem_or_eq_of_mem_set hx with h | h
    · exact hi.named x h
    · rw [h]; exact h1
  · rcases List.mem_or_eq_of_mem_set hx with h | h
    · exact hi.short x h
    · rw [h]; exact h2
  · rw [List.map_set]
    rcases h3 with h3 | h3
    · have : (st.map AFile.name).set j f.name = st.map AFile.name := by
        rw [h3]
        apply List.ext_getElem?
        intro i
        rw [List.getElem?_set]
        by_cases e : j = i
        · subst e
          rw [if_pos rfl, if_pos (by simpa using hj), List.getElem?_map, fileAt_get hj]
          rfl
        · rw [if_neg e]
      rw [this]; exact hi.once
    · have hs := hi.once
      refine List.pairwise_iff_getElem.2 fun p q hp hq hlt hpq => ?_
      simp only [List.length_set] at hp hq
      simp only [List.getElem_set] at hpq
      by_cases ep : j = p
      · rw [if_pos ep, if_neg (by omega)] at hpq
        exact h3 (hpq ▸ List.getElem_mem hq)
      · rw [if_neg ep] at hpq
        by_cases eq : j = q
        · rw [if_pos eq] at hpq
          exact h3 (hpq ▸ List.getElem_mem hp)
        · rw [if_neg eq] at hpq
          exact List.pairwise_iff_getElem.1 hs p q hp hq hlt hpq

theorem Inv.step {st : List AFile} (hi : Inv st) (c : ACall) : Inv (aDo st c).st := by
  unfold aDo
  by_cases hc : checkI c ≠ 0
  · rw [if_pos hc]; exact hi
  rw [if_neg hc]
  have hc0 : checkI c = 0 := by simpa using hc
  obtain ⟨z1, z2, z3, z4, z5⟩ := check_zero hc0
  by_cases h1 : c.kind = 1
  · rw [if_pos h1]
    show Inv (aCreate st c.name).2
    unfold aCreate
    by_cases h0 : 0 ≤ fInt c.name st
    · rw [if_pos h0]; exact hi
    · rw [if_neg h0]
      by_cases h6 : 6 ≤ st.length
      · rw [if_pos h6]; exact hi
      · rw [if_neg h6]
        have hn := fInt_neg (show fInt c.name st < 0 by omega)
        refine ⟨by simp; omega, fun x hx => ?_, fun x hx => ?_, ?_⟩
        · rcases List.mem_append.1 hx with h | h
          · exact hi.named x h
          · rw [List.mem_singleton.1 h]; exact named_name z4 (by omega)
        · rcases List.mem_append.1 hx with h | h
          · exact hi.short x h
          · rw [List.mem_singleton.1 h]; simp
        · rw [List.map_append, List.nodup_append]
          refine ⟨hi.once, by simp, fun x hx y hy e => ?_⟩
          have : y = c.name := by simpa using hy
          exact hn (by rw [← this, ← e]; exact hx)
  rw [if_neg h1]
  by_cases h6 : c.kind = 6
  · rw [if_pos h6]; exact hi
  rw [if_neg h6]
  by_cases hf : fInt c.name st < 0
  · rw [if_pos hf]; exact hi
  rw [if_neg hf]
  obtain ⟨hj, _⟩ := fIdx_spec c.name st (by omega)
  by_cases h2 : c.kind = 2
  · rw [if_pos h2]
    refine ⟨by rw [List.length_eraseIdx]; split <;> have := hi.few <;> omega, fun x hx => hi.named x (List.mem_of_mem_eraseIdx hx), fun x hx => hi.short x (List.mem_of_mem_eraseIdx hx), ?_⟩
    exact hi.once.sublist ((List.eraseIdx_sublist _ _).map _)
  rw [if_neg h2]
  by_cases h3 : c.kind = 3
  · rw [if_pos h3]
    show Inv (aRename st (fIdx c.name st) c.dst).2
    unfold aRename
    by_cases h0 : 0 ≤ fInt c.dst st
    · rw [if_pos h0]; exact hi
    · rw [if_neg h0]
      exact hi.set hj _ (named_dst z4 h3) (hi.short (fileAt st (fIdx c.name st)) (fileAt_mem hj)) (.inr (fInt_neg (show fInt c.dst st < 0 by omega)))
  rw [if_neg h3]
  by_cases h4 : c.kind = 4
  · rw [if_pos h4]
    show Inv (aPut st (fIdx c.name st) c.text).2
    unfold aPut
    by_cases h0 : 16 < (fileAt st (fIdx c.name st)).text.size + c.text.size
    · rw [if_pos h0]; exact hi
    · rw [if_neg h0]
      exact hi.set hj _ (hi.named (fileAt st (fIdx c.name st)) (fileAt_mem hj)) (by simp only [ByteArray.size_append]; omega) (.inl rfl)
  rw [if_neg h4]
  exact hi

end Go.Proofs.Ytlndphpidkacgaa
