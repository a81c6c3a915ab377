/- There and back, on lists. -/
import Derived.Test.YtcebomkkecgmbaaWq
namespace Go.Proofs.Ytcebomkkecgmbaa
open Go.RowKit
set_option linter.unusedSimpArgs false
set_option linter.unusedVariables false

theorem fIdx_name {name : ByteArray} {st : List AFile} (h : fIdx name st < st.length) : (fileAt st (fIdx name st)).name = name := by
  have h1 : (fun f : AFile => f.name.toList == name.toList) (st[fIdx name st]'h) = true := List.findIdx_getElem (w := h)
  have h2 := fileAt_get h
  rw [List.getElem?_eq_getElem h] at h2
  rw [← Option.some.inj h2]
  simp only [eqB, decide_eq_true_eq] at h1
  exact h1
theorem fIdx_first {name : ByteArray} {st : List AFile} {j : Nat} (h : j < fIdx name st) {f : AFile} (hf : st[j]? = some f) : f.name ≠ name := by
  obtain ⟨hj, rfl⟩ := List.getElem?_eq_some_iff.1 hf
  have := List.not_of_lt_findIdx h
  simp only [eqB] at this
  simpa using this
theorem fIdx_eq {name : ByteArray} {st : List AFile} {k : Nat} {f : AFile} (hk : st[k]? = some f) (h1 : f.name = name) (h0 : ∀ j g, j < k → st[j]? = some g → g.name ≠ name) : fIdx name st = k ∧ fInt name st = k := by
  have hlt := (List.getElem?_eq_some_iff.1 hk).1
  have e : fInt name st = k := fInt_hit name st k hlt (fun j g hj hg => by rw [eqB]; simpa using h0 j g hj hg) (fun g hg => by rw [hk] at hg; rw [eqB]; simpa [← Option.some.inj hg] using h1)
  refine ⟨?_, e⟩
  have := fIdx_spec name st (by omega)
  omega
theorem fInt_of_not {name : ByteArray} {st : List AFile} (h : name ∉ st.map AFile.name) : fInt name st = -1 :=
  fInt_miss name st (fun j f hf => by
    rw [eqB]
    simp only [decide_eq_false_iff_not]
    intro e
    exact h (List.mem_map.2 ⟨f, List.mem_of_getElem? hf, e⟩))

theorem code_keep (st : List AFile) (c : ACall) (h : (aDo st c).code ≠ 0) : (aDo st c).st = st ∧ (aDo st c).text = ⟨#[]⟩ := by
  unfold aDo at h ⊢
  by_cases hc : checkI c ≠ 0
  · rw [if_pos hc]; exact ⟨rfl, rfl⟩
  rw [if_neg hc] at h ⊢
  by_cases h1 : c.kind = 1
  · rw [if_pos h1] at h ⊢
    refine ⟨?_, rfl⟩
    dsimp only at h ⊢
    unfold aCreate at h ⊢
    by_cases h0 : 0 ≤ fInt c.name st
    · rw [if_pos h0]
    · rw [if_neg h0] at h ⊢
      by_cases h6 : 6 ≤ st.length
      · rw [if_pos h6]
      · rw [if_neg h6] at h; exact absurd rfl h
  rw [if_neg h1] at h ⊢
  by_cases h6 : c.kind = 6
  · rw [if_pos h6] at h; exact absurd rfl h
  rw [if_neg h6] at h ⊢
  by_cases hf : fInt c.name st < 0
  · rw [if_pos hf]; exact ⟨rfl, rfl⟩
  rw [if_neg hf] at h ⊢
  by_cases h2 : c.kind = 2
  · rw [if_pos h2] at h; exact absurd rfl h
  rw [if_neg h2] at h ⊢
  by_cases h3 : c.kind = 3
  · rw [if_pos h3] at h ⊢
    refine ⟨?_, rfl⟩
    dsimp only at h ⊢
    unfold aRename at h ⊢
    by_cases h0 : 0 ≤ fInt c.dst st
    · rw [if_pos h0]
    · rw [if_neg h0] at h; exact absurd rfl h
  rw [if_neg h3] at h ⊢
  by_cases h4 : c.kind = 4
  · rw [if_pos h4] at h ⊢
    refine ⟨?_, rfl⟩
    dsimp only at h ⊢
    unfold aPut at h ⊢
    by_cases h0 : 16 < (fileAt st (fIdx c.name st)).text.size + c.text.size
    · rw [if_pos h0]
    · rw [if_neg h0] at h; exact absurd rfl h
  rw [if_neg h4] at h
  exact absurd rfl h

theorem check_of_zero {st : List AFile} {c : ACall} (h : (aDo st c).code = 0) : checkI c = 0 := by
  by_cases hc : checkI c ≠ 0
  · rw [aDo, if_pos hc] at h; exact h
  · simpa using hc

theorem check_mk {c : ACall} (h1 : 1 ≤ c.kind) (h2 : c.kind ≤ 6) (h3 : formedB c = true) (h4 : namedB c = true) (h5 : c.kind = 4 → textB c.text = true) : checkI c = 0 := by
  unfold checkI
  rw [if_neg (by omega), if_neg (by simp [h3]), if_neg (by simp [h4]), if_neg (by rintro ⟨a, b⟩; rw [h5 a] at b; cases b)]

theorem empty_none : emptyB ⟨#[]⟩ = true := by simp [emptyB, toList_data]

theorem back_rename (st : List AFile) (name to : ByteArray) (hi : Inv st) (h : (aDo st ⟨3, name, to, ⟨#[]⟩⟩).code = 0) :
    aDo (aDo st ⟨3, name, to, ⟨#[]⟩⟩).st ⟨3, to, name, ⟨#[]⟩⟩ = ⟨0, ⟨#[]⟩, st⟩ := by
  have hc := check_of_zero h
  obtain ⟨_, _, z3, z4, _⟩ := check_zero hc
  have e1 : aDo st ⟨3, name, to, ⟨#[]⟩⟩ = if fInt name st < 0 then ⟨6, ByteArray.empty, st⟩ else ⟨(aRename st (fIdx name st) to).1, ByteArray.empty, (aRename st (fIdx name st) to).2⟩ := by
    rw [aDo, if_neg (by simp [hc])]
    simp
  rw [e1] at h ⊢
  by_cases hf : fInt name st < 0
  · rw [if_pos hf] at h; cases h
  rw [if_neg hf] at h ⊢
  dsimp only at h ⊢
  by_cases ht : 0 ≤ fInt to st
  · rw [aRename, if_pos ht] at h; cases h
  rw [aRename, if_neg ht]
  dsimp only
  obtain ⟨hj, _⟩ := fIdx_spec name st (by omega)
  have hnm := fIdx_name hj
  have hto : to ∉ st.map AFile.name := fInt_neg (by omega)
  have hin : name ∈ st.map AFile.name := List.mem_map.2 ⟨_, fileAt_mem hj, hnm⟩
  have hne : name ≠ to := fun e => hto (e ▸ hin)
  generalize hjj : fIdx name st = j at hj hnm
  have hg := fileAt_get hj
  have hset : (st.set j ⟨to, (fileAt st j).text⟩)[j]? = some ⟨to, (fileAt st j).text⟩ := by
    rw [List.getElem?_set]; simp [hj]
  have hix := fIdx_eq (name := to) hset rfl (fun i g hi' hgi => by
    rw [List.getElem?_set, if_neg (by omega)] at hgi
    intro e
    exact hto (e ▸ List.mem_map.2 ⟨g, List.mem_of_getElem? hgi, rfl⟩))
  have hno : name ∉ (st.set j ⟨to, (fileAt st j).text⟩).map AFile.name := by
    intro hm
    obtain ⟨g, hg1, hg2⟩ := List.mem_map.1 hm
    obtain ⟨i, hgi⟩ := List.mem_iff_getElem?.1 hg1
    rw [List.getElem?_set] at hgi
    by_cases e : j = i
    · rw [if_pos e, if_pos hj] at hgi
      have := Option.some.inj hgi
      rw [← this] at hg2
      exact hne hg2.symm
    · rw [if_neg e] at hgi
      have h1 : (st.map AFile.name)[i]? = some name := by rw [List.getElem?_map, hgi]; simp [hg2]
      have h2 : (st.map AFile.name)[j]? = some name := by rw [List.getElem?_map, hg]; simp [hnm]
      exact e (((List.getElem?_inj (by simpa using hj) hi.once).1 (h2.trans h1.symm)))
  have hc2 : checkI ⟨3, to, name, ⟨#[]⟩⟩ = 0 := by
    refine check_mk (by simp) (by simp) ?_ ?_ (by simp)
    · simp [formedB, empty_none]
    · have a1 := named_name z4 (by simp)
      have a2 := named_dst z4 rfl
      simp only at a1 a2
      simp [namedB, a1, a2]
  rw [aDo, if_neg (by simp [hc2])]
  simp only [hix.2]
  rw [if_neg (by simp), if_neg (by simp), if_neg (by omega), if_neg (by simp), if_pos trivial, hix.1]
  rw [aRename, if_neg (by rw [fInt_of_not hno]; omega)]
  have hfa : fileAt (st.set j ⟨to, (fileAt st j).text⟩) j = ⟨to, (fileAt st j).text⟩ := by
    have := fileAt_get (st := st.set j ⟨to, (fileAt st j).text⟩) (j := j) (by simpa using hj)
    rw [hset] at this
    exact (Option.some.inj this).symm
  simp only [hfa, List.set_set]
  have : st.set j ⟨name, (fileAt st j).text⟩ = st := by
    apply List.ext_getElem?
    intro i
    rw [List.getElem?_set]
    by_cases e : j = i
    · subst e
      rw [if_pos rfl, if_pos hj, hg, ← hnm]
    · rw [if_neg e]
  rw [this]
  rfl

theorem back_make (st : List AFile) (name : ByteArray) (hi : Inv st) (h : (aDo st ⟨1, name, ⟨#[]⟩, ⟨#[]⟩⟩).code = 0) :
    aDo (aDo st ⟨1, name, ⟨#[]⟩, ⟨#[]⟩⟩).st ⟨2, name, ⟨#[]⟩, ⟨#[]⟩⟩ = ⟨0, ⟨#[]⟩, st⟩ := by
  have hc := check_of_zero h
  obtain ⟨_, _, z3, z4, _⟩ := check_zero hc
  have e1 : aDo st ⟨1, name, ⟨#[]⟩, ⟨#[]⟩⟩ = ⟨(aCreate st name).1, ByteArray.empty, (aCreate st name).2⟩ := by
    rw [aDo, if_neg (by simp [hc])]
    simp
  rw [e1] at h ⊢
  dsimp only at h ⊢
  by_cases h0 : 0 ≤ fInt name st
  · rw [aCreate, if_pos h0] at h; cases h
  by_cases h6 : 6 ≤ st.length
  · rw [aCreate, if_neg h0, if_pos h6] at h; cases h
  rw [aCreate, if_neg h0, if_neg h6]
  dsimp only
  have hno : name ∉ st.map AFile.name := fInt_neg (by omega)
  have hix := fIdx_eq (name := name) (st := st ++ [⟨name, ByteArray.empty⟩]) (k := st.length) (f := ⟨name, ByteArray.empty⟩) (by simp) rfl (fun i g hi' hgi => by
    rw [List.getElem?_append_left hi'] at hgi
    intro e
    exact hno (e ▸ List.mem_map.2 ⟨g, List.mem_of_getElem? hgi, rfl⟩))
  have hc2 : checkI ⟨2, name, ⟨#[]⟩, ⟨#[]⟩⟩ = 0 := by
    refine check_mk (by simp) (by simp) ?_ ?_ (by simp)
    · simp [formedB, empty_none]
    · have a1 := named_name z4 (by simp)
      simp only at a1
      simp [namedB, a1]
  rw [aDo, if_neg (by simp [hc2])]
  simp only [hix.2]
  rw [if_neg (by simp), if_neg (by simp), if_neg (by omega), if_pos trivial, hix.1]
  rw [List.eraseIdx_append_of_length_le (Nat.le_refl _)]
  simp
  rfl

theorem back_put (st : List AFile) (name text : ByteArray) (hi : Inv st) (h : (aDo st ⟨4, name, ⟨#[]⟩, text⟩).code = 0) :
    ∃ t, aDo st ⟨5, name, ⟨#[]⟩, ⟨#[]⟩⟩ = ⟨0, t, st⟩ ∧ aDo (aDo st ⟨4, name, ⟨#[]⟩, text⟩).st ⟨5, name, ⟨#[]⟩, ⟨#[]⟩⟩ = ⟨0, t ++ text, (aDo st ⟨4, name, ⟨#[]⟩, text⟩).st⟩ ∧ t.size ≤ 16 ∧ text.size ≤ 8 := by
  have hc := check_of_zero h
  obtain ⟨_, _, z3, z4, z5⟩ := check_zero hc
  have a1 := named_name z4 (by simp)
  simp only at a1
  have hts := textB_size (z5 rfl)
  dsimp only at hts
  have e1 : aDo st ⟨4, name, ⟨#[]⟩, text⟩ = if fInt name st < 0 then ⟨6, ByteArray.empty, st⟩ else ⟨(aPut st (fIdx name st) text).1, ByteArray.empty, (aPut st (fIdx name st) text).2⟩ := by
    rw [aDo, if_neg (by simp [hc])]
    simp
  have hc2 : checkI ⟨5, name, ⟨#[]⟩, ⟨#[]⟩⟩ = 0 := by
    refine check_mk (by simp) (by simp) ?_ ?_ (by simp)
    · simp [formedB, empty_none]
    · simp [namedB, a1]
  have e2 : ∀ s : List AFile, aDo s ⟨5, name, ⟨#[]⟩, ⟨#[]⟩⟩ = if fInt name s < 0 then ⟨6, ByteArray.empty, s⟩ else ⟨0, (fileAt s (fIdx name s)).text, s⟩ := fun s => by
    rw [aDo, if_neg (by simp [hc2])]
    simp
  rw [e1] at h ⊢
  rw [e2, e2]
  by_cases hf : fInt name st < 0
  · rw [if_pos hf] at h; cases h
  rw [if_neg hf, if_neg hf]
  rw [if_neg hf] at h
  dsimp only at h ⊢
  by_cases h16 : 16 < (fileAt st (fIdx name st)).text.size + text.size
  · rw [aPut, if_pos h16] at h; cases h
  rw [aPut, if_neg h16]
  dsimp only
  obtain ⟨hj, _⟩ := fIdx_spec name st (by omega)
  have hnm := fIdx_name hj
  have hfirst : ∀ i g, i < fIdx name st → st[i]? = some g → g.name ≠ name := fun i g h1 h2 => fIdx_first h1 h2
  generalize fIdx name st = j at hj hnm hfirst h16
  have hset : (st.set j ⟨(fileAt st j).name, (fileAt st j).text ++ text⟩)[j]? = some ⟨(fileAt st j).name, (fileAt st j).text ++ text⟩ := by
    rw [List.getElem?_set]; simp [hj]
  have hix := fIdx_eq (name := name) hset hnm (fun i g hi' hgi => by
    rw [List.getElem?_set, if_neg (by omega)] at hgi
    exact hfirst i g hi' hgi)
  rw [hix.1, hix.2, if_neg (by omega)]
  have hfa : fileAt (st.set j ⟨(fileAt st j).name, (fileAt st j).text ++ text⟩) j = ⟨(fileAt st j).name, (fileAt st j).text ++ text⟩ := by
    have := fileAt_get (st := st.set j ⟨(fileAt st j).name, (fileAt st j).text ++ text⟩) (j := j) (by simpa using hj)
    rw [hset] at this
    exact (Option.some.inj this).symm
  rw [hfa]
  exact ⟨_, rfl, rfl, hi.short _ (fileAt_mem hj), hts.2⟩


/-- A call at an object, what it comes to given as an equation. -/
theorem Do_eq (k : Int) (a b t : ByteArray) {code : Int} {text : ByteArray} {st st' : List AFile} (he : aDo st ⟨k, a, b, t⟩ = ⟨code, text, st'⟩) {N B : Nat} {own : List Nat} {w : World} (h : OObj N w B own st) (ha : a.size ≤ maxLen) (hb : b.size ≤ maxLen) (ht : t.size ≤ maxLen) :
    Calls Try.prog 12 #[.pointer (some ⟨B, 0, none⟩), .agg #[.int .i64 k, .string a, .string b, .string t]] w
      fun e w' => e = .returned (.agg #[.int .i64 code, .string text]) ∧ ∃ own', OObj N w' B own' st' ∧ Next N w w' own own' := by
  have := Do_obj ⟨k, a, b, t⟩ h ha hb ht
  rw [he] at this
  exact this

theorem res_eq (r : Res) : r = ⟨r.code, r.text, r.st⟩ := rfl
theorem res_zero {st : List AFile} {c : ACall} (h : (aDo st c).code = 0) : aDo st c = ⟨0, (aDo st c).text, (aDo st c).st⟩ := by
  conv => lhs; rw [res_eq (aDo st c), h]
theorem res_keep {st : List AFile} {c : ACall} (h : (aDo st c).code ≠ 0) : aDo st c = ⟨(aDo st c).code, ⟨#[]⟩, st⟩ := by
  obtain ⟨h1, h2⟩ := code_keep st c h
  conv => lhs; rw [res_eq (aDo st c), h1, h2]

end Go.Proofs.Ytcebomkkecgmbaa
