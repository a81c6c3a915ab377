/- Texts joined, what is needed of them: Wl Wm Ca Cb Cc Cd Ce Cf Cg Ch Ci Cj Co Sa Plain3 Wo Rc Ck. -/
import Derived.Test.YtffgolanmaenfacGreatDoorDj1
import Derived.Deep.AppendSrc
import Derived.Deep.Slices
import Derived.Laws.OwnMore
import Derived.Laws.StructEq
import Derived.Sort.Walk0
namespace Go.Proofs.YtffgolanmaenfacGreatDoor
open Go.RowKit
set_option linter.unusedSimpArgs false
set_option linter.unusedVariables false

theorem check_zero {c : ACall} (h : checkI c = 0) : 1 ≤ c.kind ∧ c.kind ≤ 6 ∧ formedB c = true ∧ namedB c = true ∧ (c.kind = 4 → textB c.text = true) := by
  unfold checkI at h
  by_cases h1 : c.kind < 1 ∨ 6 < c.kind
  · rw [if_pos h1] at h; omega
  rw [if_neg h1] at h
  cases h2 : formedB c
  · rw [h2, if_pos rfl] at h; omega
  rw [h2, if_neg (by simp)] at h
  cases h3 : namedB c
  · rw [h3, if_pos rfl] at h; omega
  rw [h3, if_neg (by simp)] at h
  refine ⟨by omega, by omega, rfl, rfl, fun h4 => ?_⟩
  cases h5 : textB c.text
  · rw [if_pos ⟨h4, h5⟩] at h; omega
  · rfl

theorem named_name {c : ACall} (h : namedB c = true) (h6 : c.kind ≠ 6) : nameB c.name = true := by
  unfold namedB at h
  have : (c.kind == 6) = false := by simpa using h6
  simp only [this, Bool.false_or, Bool.and_eq_true] at h
  exact h.1
theorem named_dst {c : ACall} (h : namedB c = true) (h3 : c.kind = 3) : nameB c.dst = true := by
  unfold namedB at h
  have : (c.kind != 3) = false := by simpa using h3
  simp only [this, Bool.false_or, Bool.and_eq_true] at h
  exact h.2

theorem tail_len (sep : List UInt8) (r : List (List UInt8)) (m : Nat) (h : ∀ x, x ∈ r → x.length ≤ m) : (Lib.joinTail sep r).length ≤ r.length * (sep.length + m) := by
  unfold Lib.joinTail
  induction r with
  | nil => simp
  | cons x xs ih =>
    have h1 := ih (fun y hy => h y (List.mem_cons_of_mem _ hy))
    have h2 := h x (by simp)
    simp only [List.map_cons, List.flatten_cons, List.length_append, List.length_cons, Nat.add_mul, Nat.one_mul] at h1 ⊢
    omega
theorem join_len (xs : List (List UInt8)) (sep : List UInt8) (m : Nat) (h : ∀ x, x ∈ xs → x.length ≤ m) : (Lib.join xs sep).length ≤ xs.length * (sep.length + m) := by
  cases xs with
  | nil => simp [Lib.join_nil]
  | cons x r =>
    rw [Lib.join_cons, List.length_append]
    have h1 := tail_len sep r m (fun y hy => h y (List.mem_cons_of_mem _ hy))
    have h2 := h x (by simp)
    simp only [List.length_cons, Nat.add_mul, Nat.one_mul]
    omega

theorem sortB_mem {xs : List ByteArray} {x : ByteArray} : x ∈ sortB xs ↔ x ∈ xs := by
  unfold sortB
  simp only [List.mem_map, (List.mergeSort_perm _ _).mem_iff]
  constructor
  · rintro ⟨l, ⟨y, hy, rfl⟩, rfl⟩
    exact hy
  · intro h
    exact ⟨x.data.toList, ⟨x, h, rfl⟩, rfl⟩

theorem join_small {st : List AFile} (hi : Inv st) : (Lib.join ((sNames st).map (·.data.toList)) [32]).length ≤ 1000000 := by
  have h := join_len ((sNames st).map (·.data.toList)) [32] 5 (fun l hl => by
    obtain ⟨x, hx, rfl⟩ := List.mem_map.1 hl
    have : x ∈ st.map AFile.name := sortB_mem.1 hx
    obtain ⟨f, hf, rfl⟩ := List.mem_map.1 this
    have := nameB_size (hi.named f hf)
    rw [Array.length_toList]
    exact this.2)
  have h2 : ((sNames st).map (·.data.toList)).length = st.length := by simp [sNames, sortB_length]
  rw [h2] at h
  have := hi.few
  simp at h
  omega

/-- DO, WHOLE. -/
theorem Do_any (c : ACall) (B : Nat) (own : List Nat) (st : List AFile) (w : World) (hr : St w B own st) (hi : Inv st) (ha : c.name.size ≤ maxLen) (hb : c.dst.size ≤ maxLen) (ht : c.text.size ≤ maxLen) :
    Calls Tryz.prog 180 #[.pointer (some ⟨B, 0, none⟩), .agg #[.int .i64 c.kind, .string c.name, .string c.dst, .string c.text]] w
      fun e w' => e = .returned (.agg #[.int .i64 (aDo st c).code, .string (aDo st c).text]) ∧ Turned w B own w' (aDo st c).st := by
  obtain ⟨k, a, b, t⟩ := c
  by_cases hc : checkI ⟨k, a, b, t⟩ ≠ 0
  · have e : aDo st ⟨k, a, b, t⟩ = ⟨checkI ⟨k, a, b, t⟩, ByteArray.empty, st⟩ := by rw [aDo, if_pos hc]
    rw [e]
    exact Do_code k a b t B own st w hr ha hb ht hc
  have hc0 : checkI ⟨k, a, b, t⟩ = 0 := by simpa using hc
  obtain ⟨z1, z2, z3, z4, z5⟩ := check_zero hc0
  dsimp only at z1 z2 z5 ha hb ht
  by_cases h1 : k = 1
  · subst h1
    have e : aDo st ⟨1, a, b, t⟩ = ⟨(aCreate st a).1, ByteArray.empty, (aCreate st a).2⟩ := by rw [aDo, if_neg hc, if_pos rfl]
    rw [e]
    exact Do_make a b t B own st w hr hi ha hb ht hc0 (by have := nameB_size (named_name z4 (by simp)); dsimp only at this; omega)
  by_cases h6 : k = 6
  · subst h6
    have e : aDo st ⟨6, a, b, t⟩ = ⟨0, joinNames st, st⟩ := by rw [aDo, if_neg hc, if_neg (by simp), if_pos rfl]
    rw [e]
    exact Do_list a b t B own st w hr hi ha hb ht hc0 (join_small hi)
  by_cases hf : fInt a st < 0
  · have e : aDo st ⟨k, a, b, t⟩ = ⟨6, ByteArray.empty, st⟩ := by rw [aDo, if_neg hc, if_neg h1, if_neg h6, if_pos hf]
    rw [e]
    exact Do_none k a b t B own st w hr hi ha hb ht hc0 h1 h6 hf
  by_cases h2 : k = 2
  · subst h2
    have e : aDo st ⟨2, a, b, t⟩ = ⟨0, ByteArray.empty, st.eraseIdx (fIdx a st)⟩ := by rw [aDo, if_neg hc, if_neg h1, if_neg h6, if_neg hf, if_pos rfl]
    rw [e]
    exact Do_remove a b t B own st w hr hi ha hb ht hc0 (by omega)
  by_cases h3 : k = 3
  · subst h3
    have e : aDo st ⟨3, a, b, t⟩ = ⟨(aRename st (fIdx a st) b).1, ByteArray.empty, (aRename st (fIdx a st) b).2⟩ := by rw [aDo, if_neg hc, if_neg h1, if_neg h6, if_neg hf, if_neg h2, if_pos rfl]
    rw [e]
    exact Do_rename a b t B own st w hr hi ha hb ht hc0 (by omega) (by have := nameB_size (named_dst z4 rfl); dsimp only at this; omega)
  by_cases h4 : k = 4
  · subst h4
    have e : aDo st ⟨4, a, b, t⟩ = ⟨(aPut st (fIdx a st) t).1, ByteArray.empty, (aPut st (fIdx a st) t).2⟩ := by rw [aDo, if_neg hc, if_neg h1, if_neg h6, if_neg hf, if_neg h2, if_neg h3, if_pos rfl]
    rw [e]
    exact Do_append a b t B own st w hr hi ha hb ht hc0 (by omega) (z5 rfl)
  have h5 : k = 5 := by omega
  subst h5
  have e : aDo st ⟨5, a, b, t⟩ = ⟨0, (fileAt st (fIdx a st)).text, st⟩ := by rw [aDo, if_neg hc, if_neg h1, if_neg h6, if_neg hf, if_neg h2, if_neg h3, if_neg h4]
  rw [e]
  exact Do_read a b t B own st w hr hi ha hb ht hc0 (by omega)

/-! ### What holds of all files stays so -/
theorem eqB {a b : ByteArray} : (a.toList == b.toList) = decide (a = b) := by
  by_cases h : a = b
  · subst h; simp
  · have : a.toList ≠ b.toList := fun e => h (WideShapes.bytes_inj (by rw [← toList_data, ← toList_data]; exact e))
    simp [h, this]

theorem fInt_neg {name : ByteArray} {st : List AFile} (h : fInt name st < 0) : name ∉ st.map AFile.name := by
  intro hm
  obtain ⟨f, hf, rfl⟩ := List.mem_map.1 hm
  have : fIdx f.name st < st.length := by
    unfold fIdx
    rw [List.findIdx_lt_length]
    exact ⟨f, hf, by simp⟩
  unfold fInt at h
  rw [if_pos this] at h
  omega

theorem fileAt_mem {st : List AFile} {j : Nat} (h : j < st.length) : fileAt st j ∈ st := by
  unfold fileAt
  rw [List.getD_eq_getElem?_getD, List.getElem?_eq_getElem h]
  exact List.getElem_mem h

theorem fileAt_get {st : List AFile} {j : Nat} (h : j < st.length) : st[j]? = some (fileAt st j) := by
  unfold fileAt
  rw [List.getD_eq_getElem?_getD, List.getElem?_eq_getElem h]
  rfl

theorem Inv.nil : Inv [] := ⟨by simp, by simp, by simp, by simp⟩

theorem Inv.set {st : List AFile} (hi : Inv st) {j : Nat} (hj : j < st.length) (f : AFile) (h1 : nameB f.name = true) (h2 : f.text.size ≤ 16) (h3 : f.name = (fileAt st j).name ∨ f.name ∉ st.map AFile.name) : Inv (st.set j f) := by
  refine ⟨by simpa using hi.few, fun x hx => ?_, fun x hx => ?_, ?_⟩
  · rcases List.mem_or_eq_of_mem_set hx with h | h
    · exact hi.named x h
    · rw [h]; exact h1
  · rcases List.mem_or_eq_of_mem_set hx with h | h
    · exact hi.short x h
    · rw [h]; exact h2
  · rw [List.map_set]
    rcases h3 with h3 | h3
    · have : (st.map AFile.name).set j f.name = st.map AFile.name := by
        rw [h3]
        apply List.ext_getElem?
        intro i
        rw [List.getElem?_set]
        by_cases e : j = i
        · subst e
          rw [if_pos rfl, if_pos (by simpa using hj), List.getElem?_map, fileAt_get hj]
          rfl
        · rw [if_neg e]
      rw [this]; exact hi.once
    · have hs := hi.once
      refine List.pairwise_iff_getElem.2 fun p q hp hq hlt hpq => ?_
      simp only [List.length_set] at hp hq
      simp only [List.getElem_set] at hpq
      by_cases ep : j = p
      · rw [if_pos ep, if_neg (by omega)] at hpq
        exact h3 (hpq ▸ List.getElem_mem hq)
      · rw [if_neg ep] at hpq
        by_cases eq : j = q
        · rw [if_pos eq] at hpq
          exact h3 (hpq ▸ List.getElem_mem hp)
        · rw [if_neg eq] at hpq
          exact List.pairwise_iff_getElem.1 hs p q hp hq hlt hpq

theorem Inv.step {st : List AFile} (hi : Inv st) (c : ACall) : Inv (aDo st c).st := by
  unfold aDo
  by_cases hc : checkI c ≠ 0
  · rw [if_pos hc]; exact hi
  rw [if_neg hc]
  have hc0 : checkI c = 0 := by simpa using hc
  obtain ⟨z1, z2, z3, z4, z5⟩ := check_zero hc0
  by_cases h1 : c.kind = 1
  · rw [if_pos h1]
    show Inv (aCreate st c.name).2
    unfold aCreate
    by_cases h0 : 0 ≤ fInt c.name st
    · rw [if_pos h0]; exact hi
    · rw [if_neg h0]
      by_cases h6 : 6 ≤ st.length
      · rw [if_pos h6]; exact hi
      · rw [if_neg h6]
        have hn := fInt_neg (show fInt c.name st < 0 by omega)
        refine ⟨by simp; omega, fun x hx => ?_, fun x hx => ?_, ?_⟩
        · rcases List.mem_append.1 hx with h | h
          · exact hi.named x h
          · rw [List.mem_singleton.1 h]; exact named_name z4 (by omega)
        · rcases List.mem_append.1 hx with h | h
          · exact hi.short x h
          · rw [List.mem_singleton.1 h]; simp
        · rw [List.map_append, List.nodup_append]
          refine ⟨hi.once, by simp, fun x hx y hy e => ?_⟩
          have : y = c.name := by simpa using hy
          exact hn (by rw [← this, ← e]; exact hx)
  rw [if_neg h1]
  by_cases h6 : c.kind = 6
  · rw [if_pos h6]; exact hi
  rw [if_neg h6]
  by_cases hf : fInt c.name st < 0
  · rw [if_pos hf]; exact hi
  rw [if_neg hf]
  obtain ⟨hj, _⟩ := fIdx_spec c.name st (by omega)
  by_cases h2 : c.kind = 2
  · rw [if_pos h2]
    refine ⟨by rw [List.length_eraseIdx]; split <;> have := hi.few <;> omega, fun x hx => hi.named x (List.mem_of_mem_eraseIdx hx), fun x hx => hi.short x (List.mem_of_mem_eraseIdx hx), ?_⟩
    exact hi.once.sublist ((List.eraseIdx_sublist _ _).map _)
  rw [if_neg h2]
  by_cases h3 : c.kind = 3
  · rw [if_pos h3]
    show Inv (aRename st (fIdx c.name st) c.dst).2
    unfold aRename
    by_cases h0 : 0 ≤ fInt c.dst st
    · rw [if_pos h0]; exact hi
    · rw [if_neg h0]
      exact hi.set hj _ (named_dst z4 h3) (hi.short (fileAt st (fIdx c.name st)) (fileAt_mem hj)) (.inr (fInt_neg (show fInt c.dst st < 0 by omega)))
  rw [if_neg h3]
  by_cases h4 : c.kind = 4
  · rw [if_pos h4]
    show Inv (aPut st (fIdx c.name st) c.text).2
    unfold aPut
    by_cases h0 : 16 < (fileAt st (fIdx c.name st)).text.size + c.text.size
    · rw [if_pos h0]; exact hi
    · rw [if_neg h0]
      exact hi.set hj _ (hi.named (fileAt st (fIdx c.name st)) (fileAt_mem hj)) (by simp only [ByteArray.size_append]; omega) (.inl rfl)
  rw [if_neg h4]
  exact hi

end Go.Proofs.YtffgolanmaenfacGreatDoor

namespace Go.Proofs.YtffgolanmaenfacGreatDoor
open Go.RowKit
set_option linter.unusedSimpArgs false
set_option linter.unusedVariables false

/-- A Files object of the call's own (all its blocks from N on). -/
structure OObj (N : Nat) (w : World) (B : Nat) (own : List Nat) (st : List AFile) : Prop where
  rep : St w B own st
  inv : Inv st
  own : ∀ k, k ∈ own → N ≤ k

/-- From w to w' nothing below N has turned, and nothing but the object's own. -/
structure Next (N : Nat) (w w' : World) (own own' : List Nat) : Prop where
  below : Below N w w'
  keep : ∀ b, b < w.heap.size → b ∉ own → b ∉ own' ∧ w'.heap[b]? = w.heap[b]?

theorem Next.size {N : Nat} {w w' : World} {own own' : List Nat} (h : Next N w w' own own') : w.heap.size ≤ w'.heap.size := h.below.size
theorem Next.trans {N : Nat} {a b c : World} {o1 o2 o3 : List Nat} (h : Next N a b o1 o2) (k : Next N b c o2 o3) : Next N a c o1 o3 :=
  ⟨h.below.trans k.below, fun x hx hn => by
    obtain ⟨h1, h2⟩ := h.keep x hx hn
    obtain ⟨k1, k2⟩ := k.keep x (Nat.lt_of_lt_of_le hx h.size) h1
    exact ⟨k1, k2.trans h2⟩⟩
theorem Next.of_below {N : Nat} {w w' : World} (own : List Nat) (h : Below w.heap.size w w') (hN : N ≤ w.heap.size) : Next N w w' own own :=
  ⟨h.mono hN, fun b hb hn => ⟨hn, h.block b hb⟩⟩
theorem OObj.lt {N : Nat} {w : World} {B : Nat} {own : List Nat} {st : List AFile} (h : OObj N w B own st) {k : Nat} (hk : k ∈ own) : k < w.heap.size := h.rep.lt hk
theorem OObj.size {N : Nat} {w : World} {B : Nat} {own : List Nat} {st : List AFile} (h : OObj N w B own st) : N ≤ w.heap.size := by
  have h1 := h.own B h.rep.memB
  have h2 := h.lt h.rep.memB
  omega
theorem OObj.below {N : Nat} {w w' : World} {B : Nat} {own : List Nat} {st : List AFile} (h : OObj N w B own st) (hb : Below w.heap.size w w') : OObj N w' B own st := ⟨h.rep.below hb, h.inv, h.own⟩
theorem Do_obj (c : ACall) {N B : Nat} {own : List Nat} {st : List AFile} {w : World} (h : OObj N w B own st) (ha : c.name.size ≤ maxLen) (hb : c.dst.size ≤ maxLen) (ht : c.text.size ≤ maxLen) :
    Calls Tryz.prog 180 #[.pointer (some ⟨B, 0, none⟩), .agg #[.int .i64 c.kind, .string c.name, .string c.dst, .string c.text]] w
      fun e w' => e = .returned (.agg #[.int .i64 (aDo st c).code, .string (aDo st c).text]) ∧ ∃ own', OObj N w' B own' (aDo st c).st ∧ Next N w w' own own' := by
  refine (Do_any c B own st w h.rep h.inv ha hb ht).mono ?_
  rintro e w' ⟨rfl, own', hs, hk, hn⟩
  have hsz := h.size
  refine ⟨rfl, own', ⟨hs, h.inv.step c, fun k hk1 => ?_⟩, hk.below hsz h.own, fun b hb1 hnb => ⟨fun hm => ?_, hk.block b hb1 hnb⟩⟩
  · rcases hn k hk1 with h1 | h1
    · exact h.own k h1
    · omega
  · rcases hn b hm with h1 | h1
    · exact hnb h1
    · omega

theorem New_obj (w : World) : OObj w.heap.size (w.alloc (.cells #[.slice none 0 0] 155)) w.heap.size [w.heap.size] [] := by
  refine ⟨⟨.slice none 0 0, [], ⟨heap_alloc_new w _, World.ownsRow_nil _ _ _ _, by simp, by simp [owns, Value.ownBlock]⟩, by simp [owns, Value.ownBlock], rfl⟩, Inv.nil, by simp⟩

end Go.Proofs.YtffgolanmaenfacGreatDoor

namespace Go.Proofs.YtffgolanmaenfacGreatDoor
open Go.RowKit
set_option linter.unusedSimpArgs false
set_option linter.unusedVariables false

/-- A record of package api. -/
structure ARec where
  client : Int
  no : Int
  call : ACall
  code : Int
  ans : ByteArray

/-- A record as a value. -/
def ARec.cells (r : ARec) : Array Value := #[.int .i64 r.client, .int .i64 r.no, .int .i64 r.call.kind, .string r.call.name, .string r.call.dst, .string r.call.text, .int .i64 r.code, .string r.ans]

def recI (r : ARec) : Int :=
  if r.client < 0 ∨ 2 < r.client ∨ r.no < 1 ∨ 200 < r.no then 9
  else if changesB r.call.kind = false then 1
  else if checkI r.call ≠ 0 then checkI r.call
  else if r.code < 0 ∨ 99 < r.code then 9
  else if r.ans ≠ ⟨#[]⟩ then 3
  else 0

set_option maxHeartbeats 400000 in
theorem cwithin_any (n l h : Int) (w : World) :
    Calls Tryz.prog 228 #[.int .i64 n, .int .i64 l, .int .i64 h] w fun e w' => e = .returned (.bool (decide (l ≤ n) && decide (n ≤ h))) ∧ w' = w := by
  by_cases h1 : l ≤ n
  · by_cases h2 : n ≤ h
    · go_enter Tryz.func228, Tryz.ntmps228
      go_wp2
      go_ret
      exact ⟨by simp [h1, h2], rfl⟩
    · go_enter Tryz.func228, Tryz.ntmps228
      go_wp2
      go_ret
      exact ⟨by simp [h1, h2], rfl⟩
  · go_enter Tryz.func228, Tryz.ntmps228
    go_wp2
    go_ret
    exact ⟨by simp; omega, rfl⟩

theorem empty_toList {s : ByteArray} : s.toList.isEmpty = decide (s = ⟨#[]⟩) := by
  rw [ByteArray.toList_eq s]
  cases s with | mk d =>
  cases d with | mk l =>
  cases l <;> simp

set_option maxRecDepth 100000 in
set_option maxHeartbeats 2000000 in
theorem cCheck_any (c n k : Int) (a b t : ByteArray) (d : Int) (u : ByteArray) (w : World) (ha : a.size ≤ maxLen) (hb : b.size ≤ maxLen) (ht : t.size ≤ maxLen) :
    Calls Tryz.prog 217 #[.agg #[.int .i64 c, .int .i64 n, .int .i64 k, .string a, .string b, .string t, .int .i64 d, .string u]] w
      fun e w' => e = .returned (.int .i64 (recI ⟨c, n, ⟨k, a, b, t⟩, d, u⟩)) ∧ Below w.heap.size w w' := by
  have hf : recI ⟨c, n, ⟨k, a, b, t⟩, d, u⟩ = if c < 0 ∨ 2 < c ∨ n < 1 ∨ 200 < n then 9 else if changesB k = false then 1 else if checkI ⟨k, a, b, t⟩ ≠ 0 then checkI ⟨k, a, b, t⟩ else if d < 0 ∨ 99 < d then 9 else if u ≠ ⟨#[]⟩ then 3 else 0 := rfl
  rw [hf]
  clear hf
  have hA : ∀ W : World, Calls Tryz.prog 228 #[.int .i64 c, .int .i64 0, .int .i64 2] W fun e w' => e = .returned (.bool (decide (0 ≤ c) && decide (c ≤ 2))) ∧ w' = W := fun W => cwithin_any c 0 2 W
  have hB : ∀ W : World, Calls Tryz.prog 228 #[.int .i64 n, .int .i64 1, .int .i64 200] W fun e w' => e = .returned (.bool (decide (1 ≤ n) && decide (n ≤ 200))) ∧ w' = W := fun W => cwithin_any n 1 200 W
  have hC : ∀ W : World, Calls Tryz.prog 225 #[.int .i64 k] W fun e w' => e = .returned (.bool (changesB k)) ∧ w' = W := fun W => Changes_any k W
  have hD : ∀ W : World, Calls Tryz.prog 81 #[.agg #[.int .i64 k, .string a, .string b, .string t]] W fun e w' => e = .returned (.int .i64 (checkI ⟨k, a, b, t⟩)) ∧ Below W.heap.size W w' := fun W => Check_any k a b t W ha hb ht
  have hE : ∀ W : World, Calls Tryz.prog 228 #[.int .i64 d, .int .i64 0, .int .i64 99] W fun e w' => e = .returned (.bool (decide (0 ≤ d) && decide (d ≤ 99))) ∧ w' = W := fun W => cwithin_any d 0 99 W
  have eA : (decide (0 ≤ c) && decide (c ≤ 2)) = decide (¬ (c < 0 ∨ 2 < c)) := by rw [Bool.eq_iff_iff]; simp
  have eB : (decide (1 ≤ n) && decide (n ≤ 200)) = decide (¬ (n < 1 ∨ 200 < n)) := by rw [Bool.eq_iff_iff]; simp
  have eE : (decide (0 ≤ d) && decide (d ≤ 99)) = decide (¬ (d < 0 ∨ 99 < d)) := by rw [Bool.eq_iff_iff]; simp
  rw [eA] at hA
  rw [eB] at hB
  rw [eE] at hE
  clear eA eB eE
  generalize changesB k = ch at hC ⊢
  generalize checkI ⟨k, a, b, t⟩ = ck at hD ⊢
  by_cases q1 : c < 0 ∨ 2 < c
  · rw [if_pos (by omega)]
    rw [decide_eq_false (by omega)] at hA
    have HA := hide hA
    clear hA hB hC hD hE
    go_enter Tryz.func217, Tryz.ntmps217
    go_wp2_with fail
    refine ((unhide HA) _).mono ?_
    rintro e w1 ⟨rfl, rfl⟩
    go_wp2
    go_ret
    exact ⟨rfl, (Below.refl _ _).alloc (Nat.le_refl _) _⟩
  rw [decide_eq_true (by omega)] at hA
  by_cases q2 : n < 1 ∨ 200 < n
  · rw [if_pos (by omega)]
    rw [decide_eq_false (by omega)] at hB
    have HA := hide hA
    have HB := hide hB
    clear hA hB hC hD hE
    go_enter Tryz.func217, Tryz.ntmps217
    go_wp2_with fail
    refine ((unhide HA) _).mono ?_
    rintro e w1 ⟨rfl, rfl⟩
    go_wp2_with fail
    refine ((unhide HB) _).mono ?_
    rintro e w1 ⟨rfl, rfl⟩
    go_wp2
    go_ret
    exact ⟨rfl, (Below.refl _ _).alloc (Nat.le_refl _) _⟩
  rw [decide_eq_true (by omega)] at hB
  rw [if_neg (by omega)]
  have HA := hide hA
  have HB := hide hB
  have HC := hide hC
  have HD := hide hD
  clear hA hB hC hD q1 q2
  cases ch
  · rw [if_pos rfl]
    clear hE
    go_enter Tryz.func217, Tryz.ntmps217
    go_wp2_with fail
    refine ((unhide HA) _).mono ?_
    rintro e w1 ⟨rfl, rfl⟩
    go_wp2_with fail
    refine ((unhide HB) _).mono ?_
    rintro e w1 ⟨rfl, rfl⟩
    go_wp2_with fail
    refine ((unhide HC) _).mono ?_
    rintro e w1 ⟨rfl, rfl⟩
    go_wp2
    go_ret
    exact ⟨rfl, (Below.refl _ _).alloc (Nat.le_refl _) _⟩
  rw [if_neg (by simp)]
  by_cases q3 : ck = 0
  · subst q3
    rw [if_neg (by simp)]
    by_cases q4 : d < 0 ∨ 99 < d
    · rw [if_pos q4]
      rw [decide_eq_false (by omega)] at hE
      have HE := hide hE
      clear hE q4
      go_enter Tryz.func217, Tryz.ntmps217
      go_wp2_with fail
      refine ((unhide HA) _).mono ?_
      rintro e w1 ⟨rfl, rfl⟩
      go_wp2_with fail
      refine ((unhide HB) _).mono ?_
      rintro e w1 ⟨rfl, rfl⟩
      go_wp2_with fail
      refine ((unhide HC) _).mono ?_
      rintro e w1 ⟨rfl, rfl⟩
      go_wp2_with fail
      refine ((unhide HD) _).mono ?_
      rintro e w1 ⟨rfl, b1⟩
      obtain ⟨hc1, hf1⟩ := bcell b1
      have hz : w.heap.size < w1.heap.size := by have := b1.size; simp at this; omega
      go_wp2_with fail
      refine ((unhide HE) _).mono ?_
      rintro e w2 ⟨rfl, rfl⟩
      go_wp2
      go_ret
      exact ⟨rfl, ((Below.refl _ _).alloc (Nat.le_refl _) _).trans (b1.mono (by simp))⟩
    rw [if_neg q4]
    rw [decide_eq_true (by omega)] at hE
    have HE := hide hE
    clear hE q4
    cases q5 : u.toList.isEmpty
    · rw [empty_toList] at q5
      have q6 : u ≠ ⟨#[]⟩ := of_decide_eq_false q5
      rw [if_pos q6]
      rw [← empty_toList] at q5
      clear q6
      go_enter Tryz.func217, Tryz.ntmps217
      go_wp2_with fail
      refine ((unhide HA) _).mono ?_
      rintro e w1 ⟨rfl, rfl⟩
      go_wp2_with fail
      refine ((unhide HB) _).mono ?_
      rintro e w1 ⟨rfl, rfl⟩
      go_wp2_with fail
      refine ((unhide HC) _).mono ?_
      rintro e w1 ⟨rfl, rfl⟩
      go_wp2_with fail
      refine ((unhide HD) _).mono ?_
      rintro e w1 ⟨rfl, b1⟩
      obtain ⟨hc1, hf1⟩ := bcell b1
      have hz : w.heap.size < w1.heap.size := by have := b1.size; simp at this; omega
      go_wp2_with fail
      refine ((unhide HE) _).mono ?_
      rintro e w2 ⟨rfl, rfl⟩
      go_wp2
      go_ret
      exact ⟨rfl, ((Below.refl _ _).alloc (Nat.le_refl _) _).trans (b1.mono (by simp))⟩
    · rw [empty_toList] at q5
      have q6 : u = ⟨#[]⟩ := of_decide_eq_true q5
      subst q6
      rw [if_neg (by simp)]
      clear q5
      go_enter Tryz.func217, Tryz.ntmps217
      go_wp2_with fail
      refine ((unhide HA) _).mono ?_
      rintro e w1 ⟨rfl, rfl⟩
      go_wp2_with fail
      refine ((unhide HB) _).mono ?_
      rintro e w1 ⟨rfl, rfl⟩
      go_wp2_with fail
      refine ((unhide HC) _).mono ?_
      rintro e w1 ⟨rfl, rfl⟩
      go_wp2_with fail
      refine ((unhide HD) _).mono ?_
      rintro e w1 ⟨rfl, b1⟩
      obtain ⟨hc1, hf1⟩ := bcell b1
      have hz : w.heap.size < w1.heap.size := by have := b1.size; simp at this; omega
      go_wp2_with fail
      refine ((unhide HE) _).mono ?_
      rintro e w2 ⟨rfl, rfl⟩
      go_wp2
      go_ret
      exact ⟨rfl, ((Below.refl _ _).alloc (Nat.le_refl _) _).trans (b1.mono (by simp))⟩
  · rw [if_pos q3]
    clear hE
    go_enter Tryz.func217, Tryz.ntmps217
    go_wp2_with fail
    refine ((unhide HA) _).mono ?_
    rintro e w1 ⟨rfl, rfl⟩
    go_wp2_with fail
    refine ((unhide HB) _).mono ?_
    rintro e w1 ⟨rfl, rfl⟩
    go_wp2_with fail
    refine ((unhide HC) _).mono ?_
    rintro e w1 ⟨rfl, rfl⟩
    go_wp2_with fail
    refine ((unhide HD) _).mono ?_
    rintro e w1 ⟨rfl, b1⟩
    go_wp2
    go_ret
    exact ⟨rfl, ((Below.refl _ _).alloc (Nat.le_refl _) _).trans (b1.mono (by simp))⟩

end Go.Proofs.YtffgolanmaenfacGreatDoor

namespace Go.Proofs.YtffgolanmaenfacGreatDoor
open Go.RowKit
set_option linter.unusedSimpArgs false
set_option linter.unusedVariables false

/-- Bytes as values. -/
def bv (l : List UInt8) : List Value := l.map fun b => .int .u8 (b.toNat : Int)
theorem bv_append (a b : List UInt8) : bv (a ++ b) = bv a ++ bv b := by simp [bv]
theorem bv_length (a : List UInt8) : (bv a).length = a.length := by simp [bv]

/-- A text, with its length ahead. -/
def ebytes (t : ByteArray) : List UInt8 := UInt8.ofNat t.size :: t.data.toList
theorem ebytes_length (t : ByteArray) : (ebytes t).length = 1 + t.size := by
  have : t.data.toList.length = t.size := by rw [Array.length_toList]; rfl
  simp [ebytes, this]; omega
theorem bv_ebytes (t : ByteArray) (h : t.size ≤ 255) : bv (ebytes t) = [.int .u8 (t.size : Int)] ++ byteVals t := by
  have : (UInt8.ofNat t.size).toNat = t.size := by simp; omega
  simp [bv, ebytes, byteVals, this]

theorem cinfo5 : (Tryz.prog.info? 5).map (fun i => (i.zero, i.size, i.bytes)) = some (some (.int .u8 0), 1, 1) := by kernel_rfl

theorem app_any_run (w : World) (base g n cap : Nat) (xs : List Value) (hown : w.ownsRow base 5 1 (.slice (some ⟨g, 0, none⟩) n cap) n xs) (s : ByteArray) (hn : 0 < n) (hb : n + s.size ≤ 1000000) (hbase : base ≤ w.heap.size) (ty : TypeId) :
    ∃ g' cap' w', (Builtin.append_ #[42, 9] ty #[.slice (some ⟨g, 0, none⟩) n cap, .string s]).run Tryz.prog w = .ok (.slice (some ⟨g', 0, none⟩) (n + s.size) cap') w' ∧
      w'.ownsRow base 5 1 (.slice (some ⟨g', 0, none⟩) (n + s.size) cap') (n + s.size) (xs ++ byteVals s) ∧ w.grownBy w' (some g) ∧ (g' = g ∨ g' = w.heap.size) := by
  obtain ⟨i0, hi0, hz0, hz1, hz2⟩ := info_parts cinfo5
  obtain ⟨v', w', hr, h2, h3, h4⟩ := Lib.run_append_own_string (P := Tryz.prog) w base 42 9 ty 5 i0 Tryz.underlying42 Tryz.underlying9 hi0 hz0 hz1 hz2 (.slice (some ⟨g, 0, none⟩) n cap) n xs hown s (by unfold maxLen; omega) (by omega) hbase
  obtain ⟨g', cap', rfl, _, hlt⟩ := h2.form (by omega)
  refine ⟨g', cap', w', hr, h2, h3, ?_⟩
  have hxl : xs.length = n := by simpa using hown.1
  rcases hown.2 with ⟨e, h0⟩ | ⟨g1, cap1, cur, e1, hbg, hg, hnc, hcm, hcs, htake⟩
  · omega
  · obtain ⟨rfl, rfl⟩ : g = g1 ∧ cap = cap1 := by simpa using e1
    by_cases hroom : n + s.size ≤ cap
    · left
      have hcs2 : cur.size = cap := by simpa using hcs
      have hr2 := Lib.run_append_room_string (P := Tryz.prog) w 42 9 ty 5 i0 Tryz.underlying42 Tryz.underlying9 hi0 hz1 g n cap cur hg s hroom (by omega)
      rw [hr2] at hr
      simp at hr
      exact hr.1.1.symm
    · right
      have holds : ∀ j u, xs[j]? = some u → w.cell? ((⟨g, 0, none⟩ : Addr).add j) = some u := World.ownsRow.cells (v := .slice (some ⟨g, 0, none⟩) n cap) hown (g := g) rfl
      have hr2 := Lib.run_append_grow_string (P := Tryz.prog) w 42 9 ty 5 i0 (.int .u8 0) Tryz.underlying42 Tryz.underlying9 hi0 hz0 ⟨g, 0, none⟩ n cap xs (by rw [hz1]; simpa using hxl) holds s (by omega) (by omega) (by rw [hz2]; exact growslice_fits (by omega) (by omega))
      rw [hr2] at hr
      simp at hr
      exact hr.1.1.symm

theorem wpList_app_any (w : World) {ops : Array Oper} {rest : List Oper} {o : Oper} {a : Act} {Q : Exit → Act → World → Prop} (hgd : o.guard = none) (sl x : Operand)
    (ho : o.op = .call { callee := .builtin .append, args := #[sl, x], argTypes := #[42, 9] })
    (base g n cap : Nat) (xs : List Value) (hs : a.eval sl = .slice (some ⟨g, 0, none⟩) n cap) (hown : w.ownsRow base 5 1 (.slice (some ⟨g, 0, none⟩) n cap) n xs) (s : ByteArray) (hx : a.eval x = .string s) (hn : 0 < n) (hb : n + s.size ≤ 1000000) (hbase : base ≤ w.heap.size)
    (h : ∀ g' cap' w', w'.ownsRow base 5 1 (.slice (some ⟨g', 0, none⟩) (n + s.size) cap') (n + s.size) (xs ++ byteVals s) → w.grownBy w' (some g) → (g' = g ∨ g' = w.heap.size) → wpList Tryz.prog ops Q rest (a.put o.dst (.slice (some ⟨g', 0, none⟩) (n + s.size) cap')) w') : wpList Tryz.prog ops Q (o :: rest) a w := by
  refine wpList_plain hgd fun K hK => ?_
  obtain ⟨g', cap', w', hr, h2, h3, h4⟩ := app_any_run w base g n cap xs hown s hn hb hbase o.type
  unfold Oper.wp execOp
  simp only [ho, resolve, invoke, builtin, Sem.run_bind, Sem.run_pure, Result.andThen_ok, List.map_toArray, List.map_cons, List.map_nil, hs, hx, hr]
  exact hK _ _ (h g' cap' w' h2 h3 h4)

/-- Texts, each with its length ahead. -/
def tb (ts : List ByteArray) : List UInt8 := ts.flatMap ebytes
theorem ftake_succ (ts : List ByteArray) (k : Nat) (x : ByteArray) (hx : ts[k]? = some x) : tb (ts.take (k + 1)) = tb (ts.take k) ++ ebytes x := by
  unfold tb
  rw [List.take_add_one, hx]; simp
theorem flen_le (ts : List ByteArray) (hts : ∀ t, t ∈ ts → t.size ≤ 255) : (tb ts).length ≤ ts.length * 256 := by
  induction ts with
  | nil => simp [tb]
  | cons x xs ih =>
    have := ih (fun t h => hts t (by simp [h]))
    have h2 := hts x (by simp)
    have h3 := ebytes_length x
    have e : tb (x :: xs) = ebytes x ++ tb xs := by simp [tb]
    rw [e, List.length_append, List.length_cons]
    omega

set_option maxRecDepth 100000 in
set_option maxHeartbeats 2000000 in
theorem cput_any (base g n cap T ca : Nat) (xs : List Value) (ts : List ByteArray) (w : World) (hown : w.ownsRow base 5 1 (.slice (some ⟨g, 0, none⟩) n cap) n xs) (hn : 0 < n) (hn2 : n ≤ 1000) (hl : ts.length ≤ 1000) (hT : T ≠ g)
    (hc : ∀ (j : Nat) t, ts[j]? = some t → w.cell? ⟨T, j, none⟩ = some (.string t)) (hts : ∀ t, t ∈ ts → t.size ≤ 255) :
    Calls Tryz.prog 246 #[.slice (some ⟨g, 0, none⟩) n cap, .slice (some ⟨T, 0, none⟩) ts.length ca] w
      fun e w' => ∃ g' cap', e = .returned (.slice (some ⟨g', 0, none⟩) (n + (tb ts).length) cap') ∧ w'.ownsRow base 5 1 (.slice (some ⟨g', 0, none⟩) (n + (tb ts).length) cap') (n + (tb ts).length) (xs ++ bv (tb ts)) ∧ Below base w w' := by
  obtain ⟨i0, hi0, hz0, hz1, hz2⟩ := info_parts cinfo5
  have hbase : base ≤ w.heap.size := by have := hown.lt g rfl; omega
  obtain ⟨fl, hfl⟩ : ∃ fl : Nat → Nat, ∀ k, fl k = (tb (ts.take k)).length := ⟨_, fun _ => rfl⟩
  have hfle : ∀ k, fl k ≤ 256000 := fun k => by
    rw [hfl]
    have h1 := flen_le (ts.take k) (fun t h => hts t (List.mem_of_mem_take h))
    have h2 : (ts.take k).length ≤ 1000 := by rw [List.length_take]; omega
    omega
  have HFL := hide hfl
  have HTS := hide hts
  have HC := hide hc
  have H0 := hide hown
  clear hown hc hts hfl
  go_enter Tryz.func246, Tryz.ntmps246
  go_wp2
  go_loopw [0, 6, 9] (fun v _ i wr => ∃ (k g1 c1 : Nat), k ≤ ts.length ∧ i = .int .i64 k ∧ v = .slice (some ⟨g1, 0, none⟩) (n + fl k) c1 ∧ Hid (wr.ownsRow base 5 1 (.slice (some ⟨g1, 0, none⟩) (n + fl k) c1) (n + fl k) (xs ++ bv (tb (ts.take k)))) ∧ Hid (Below base w wr) ∧ Hid (T ≠ g1 ∧ ∀ (j : Nat) t, ts[j]? = some t → wr.cell? ⟨T, j, none⟩ = some (.string t))) (fun _ _ i _ => ts.length - (intOf i).toNat)
  case atStart => 
    have e0 : fl 0 = 0 := by rw [unhide HFL]; simp [tb]
    refine ⟨0, g, cap, Nat.zero_le _, rfl, by rw [e0]; rfl, ?_, Below.refl _ _, hT, unhide HC⟩
    rw [e0]
    have h0 := unhide H0
    simp only [Nat.add_zero, List.take_zero, tb, List.flatMap_nil, bv, List.map_nil, List.append_nil]
    exact h0
  case round =>
    obtain ⟨k, g1, c1, hk, rfl, rfl, HO, HB, HT⟩ := hrel
    by_cases h1 : (k : Int) < (ts.length : Int)
    · obtain ⟨x, hx⟩ : ∃ x, ts[k]? = some x := ⟨_, List.getElem?_eq_getElem (by omega)⟩
      have hcx := (unhide HT).2 k x hx
      have hsx := (unhide HTS) x (List.mem_of_getElem? hx)
      have hw8 : IntKind.u8.wrap (x.size : Int) = (x.size : Int) := by rw [IntKind.wrap_u8]; omega
      have hf1 := hfle k
      have hsucc : fl (k + 1) = fl k + (1 + x.size) := by rw [unhide HFL, unhide HFL, ftake_succ ts k x hx, List.length_append, ebytes_length]
      have HX := hide hx
      have HSU := hide hsucc
      have hbz : base ≤ wr.heap.size := Nat.le_trans hbase (unhide HB).size
      clear hx hsucc
      go_wp2_with (first
        | (at_builtin; refine wpList_append_lies _ rfl _ _ 42 rfl base 5 i0 _ 1 1 Tryz.underlying42 hi0 hz0 hz1 hz2 rfl (by omega) (.slice (some ⟨g1, 0, none⟩) (n + fl k) c1) (n + fl k) (xs ++ bv (tb (ts.take k))) rfl ((unhide HO).alloc _)
            ⟨wr.heap.size, 0, none⟩ 1 1 [.int .u8 (x.size : Int)] rfl rfl (World.news_of_block (cs := #[.int .u8 (x.size : Int)]) (t := 5) (fr := (0, 0)) (heap_alloc_new wr _)) (by simp [Value.oneCell'])
            (by omega) (by unfold maxLen; omega) (by omega) (by simp; omega) (wr.heap.size + 1) (by simp) ?_; intro g2 c2 w2 hown2 hgrow hat hlt2; have hz2' : base ≤ w2.heap.size := by (have := hown2.lt g2 rfl; omega))
        | (at_builtin; refine wpList_app_any _ rfl _ _ rfl base g2 (n + fl k + 1) c2 (xs ++ bv (tb (ts.take k)) ++ [.int .u8 (x.size : Int)]) rfl hown2 x rfl (by omega) (by omega) hz2' ?_; intro g3 c3 w3 hown3 hgrow3 hat3))
      go_roundw
      case rel =>
        have bA : Below base w (wr.alloc (.cells #[.int .u8 (x.size : Int)] 5)) := (unhide HB).alloc hbz _
        have hlo : base ≤ g1 ∧ g1 < wr.heap.size := (unhide HO).lt g1 rfl
        have hb2 : Below base w w2 := bA.grown hgrow (by simp; omega) (fun j hj => by have : j = g1 := by simpa [Value.ownBlock] using hj.symm
                                                                                      omega)
        have hlo2 := hown2.lt g2 rfl
        have hb3 : Below base w w3 := hb2.grown hgrow3 hz2' (fun j hj => by have : j = g2 := by simpa using hj.symm
                                                                            omega)
        have hTl : T < wr.heap.size := World.block_lt_of_cell? wr _ hcx
        have hT1 := (unhide HT).1
        have hg2 : T ≠ g2 := by
          rcases hat with h | h
          · have : g1 = g2 := by simpa [Value.ownBlock] using h
            omega
          · omega
        have hz3 : wr.heap.size < w2.heap.size := by have := hgrow.size; simp at this; omega
        refine ⟨k + 1, g3, c3, by omega, by go_num, by rw [HSU.out]; congr 1; omega, ?_, hb3, by omega, fun j t hj => ?_⟩
        · have e1 : n + fl (k + 1) = n + fl k + 1 + x.size := by rw [HSU.out]; omega
          rw [e1, ftake_succ ts k x (unhide HX), bv_append, bv_ebytes x hsx, ← List.append_assoc, ← List.append_assoc]
          exact hown3
        · have q0 := (unhide HT).2 j t hj
          have q1 := (al_old wr (.cells #[.int .u8 (x.size : Int)] 5) T j hTl).trans q0
          have q2 := (World.cell?_of_block (a := ⟨T, j, none⟩) (hgrow.block T (by simp; omega) (by simp [Value.ownBlock]; omega))).trans q1
          exact (World.cell?_of_block (a := ⟨T, j, none⟩) (hgrow3.block T (by omega) (by simp; omega))).trans q2
      case measure => simp [intOf]; omega
    · have hkk : k = ts.length := by omega
      subst hkk
      have hrow := unhide HO
      rw [List.take_of_length_le (Nat.le_refl _)] at hrow
      have hfn : fl ts.length = (tb ts).length := by rw [unhide HFL, List.take_of_length_le (Nat.le_refl _)]
      have HR := hide hrow
      have HN := hide hfn
      clear hrow hfn
      go_wp2
      go_ret
      refine ⟨g1, c1, ?_, ?_, unhide HB⟩
      · rw [← HN.out]; exact rfl
      · rw [← HN.out]; exact unhide HR

end Go.Proofs.YtffgolanmaenfacGreatDoor

namespace Go.Proofs.YtffgolanmaenfacGreatDoor
open Go.RowKit
set_option linter.unusedSimpArgs false
set_option linter.unusedVariables false

/-- What holds of a record that may be. -/
structure RecOk (r : ARec) : Prop where
  c0 : 0 ≤ r.client
  c1 : r.client ≤ 2
  n0 : 1 ≤ r.no
  n1 : r.no ≤ 200
  k0 : 1 ≤ r.call.kind
  k1 : r.call.kind ≤ 4
  chk : checkI r.call = 0
  d0 : 0 ≤ r.code
  d1 : r.code ≤ 99
  ans : r.ans = ⟨#[]⟩
  name : r.call.name.size ≤ 5
  dst : r.call.dst.size ≤ 5
  text : r.call.text.size ≤ 8

theorem emptyB_size {s : ByteArray} (h : emptyB s = true) : s.size = 0 := by
  unfold emptyB at h
  rw [empty_toList] at h
  rw [of_decide_eq_true h]; rfl

theorem changesB_iff {k : Int} : changesB k = true ↔ 1 ≤ k ∧ k ≤ 4 := by
  unfold changesB
  simp
  omega

theorem rec_ok {r : ARec} (h : recI r = 0) : RecOk r := by
  unfold recI at h
  by_cases q1 : r.client < 0 ∨ 2 < r.client ∨ r.no < 1 ∨ 200 < r.no
  · rw [if_pos q1] at h; cases h
  rw [if_neg q1] at h
  by_cases q2 : changesB r.call.kind = false
  · rw [if_pos q2] at h; cases h
  rw [if_neg q2] at h
  by_cases q3 : checkI r.call ≠ 0
  · rw [if_pos q3] at h; exact absurd h q3
  rw [if_neg q3] at h
  by_cases q4 : r.code < 0 ∨ 99 < r.code
  · rw [if_pos q4] at h; cases h
  rw [if_neg q4] at h
  by_cases q5 : r.ans ≠ ⟨#[]⟩
  · rw [if_pos q5] at h; cases h
  have q2' : changesB r.call.kind = true := by simpa using q2
  have q3' : checkI r.call = 0 := by simpa using q3
  obtain ⟨hk0, hk1⟩ := changesB_iff.1 q2'
  obtain ⟨_, _, hfm, hnm, htx⟩ := check_zero q3'
  have hn := nameB_size (named_name hnm (by omega))
  have hf2 := hfm
  unfold formedB at hf2
  simp only [Bool.and_eq_true, Bool.or_eq_true] at hf2
  obtain ⟨⟨_, f1⟩, f2⟩ := hf2
  refine ⟨by omega, by omega, by omega, by omega, hk0, hk1, q3', by omega, by omega, by simpa using q5, by omega, ?_, ?_⟩
  · rcases f1 with f | f
    · rw [emptyB_size f]; omega
    · have h3 : r.call.kind = 3 := by simpa using f
      have := nameB_size (named_dst hnm h3)
      omega
  · rcases f2 with f | f
    · rw [emptyB_size f]; omega
    · have h4 : r.call.kind = 4 := by simpa using f
      have := htx h4
      unfold textB withinB at this
      simp only [Bool.and_eq_true, decide_eq_true_eq] at this
      omega

def ARec.texts (r : ARec) : List ByteArray := [r.call.name, r.call.dst, r.call.text]

/-- The bytes of a record. -/
def encL (r : ARec) : List UInt8 :=
  UInt8.ofNat (5 + (tb r.texts).length) :: [UInt8.ofNat r.client.toNat, UInt8.ofNat r.no.toNat, UInt8.ofNat r.call.kind.toNat, UInt8.ofNat r.code.toNat] ++ tb r.texts

theorem ofInt_u8 {x : Int} (h0 : 0 ≤ x) (h1 : x ≤ 255) : (((UInt8.ofNat x.toNat).toNat : Nat) : Int) = x := by
  have : (UInt8.ofNat x.toNat).toNat = x.toNat := by simp; omega
  rw [this]; omega

theorem enc_bv (r : ARec) (c0 : 0 ≤ r.client) (n0 : 1 ≤ r.no) (k0 : 1 ≤ r.call.kind) (d0 : 0 ≤ r.code) (c1 : r.client ≤ 2) (n1 : r.no ≤ 200) (k1 : r.call.kind ≤ 4) (d1 : r.code ≤ 99) (hL : (tb r.texts).length ≤ 250) :
    bv (encL r) = [.int .u8 (5 + ((tb r.texts).length : Int)), .int .u8 r.client, .int .u8 r.no, .int .u8 r.call.kind, .int .u8 r.code] ++ bv (tb r.texts) := by
  have e : (((UInt8.ofNat (5 + (tb r.texts).length)).toNat : Nat) : Int) = 5 + ((tb r.texts).length : Int) := by
    have : (UInt8.ofNat (5 + (tb r.texts).length)).toNat = 5 + (tb r.texts).length := by simp; omega
    rw [this]; omega
  unfold encL
  simp only [bv, List.map_append, List.map_cons, List.map_nil, e, ofInt_u8 c0 (by omega), ofInt_u8 (x := r.no) (by omega) (by omega), ofInt_u8 (x := r.call.kind) (by omega) (by omega), ofInt_u8 d0 (by omega), List.cons_append, List.nil_append]

set_option maxRecDepth 100000 in
set_option maxHeartbeats 2000000 in
theorem Encode_ok (c n k : Int) (a b t : ByteArray) (d : Int) (u : ByteArray) (w : World) (hr : recI ⟨c, n, ⟨k, a, b, t⟩, d, u⟩ = 0) :
    Calls Tryz.prog 239 #[.agg #[.int .i64 c, .int .i64 n, .int .i64 k, .string a, .string b, .string t, .int .i64 d, .string u]] w
      fun e w' => ∃ g cap, e = .returned (.tuple #[.slice (some ⟨g, 0, none⟩) (5 + (tb [a, b, t]).length) cap, .int .i64 0]) ∧ w'.ownsRow w.heap.size 5 1 (.slice (some ⟨g, 0, none⟩) (5 + (tb [a, b, t]).length) cap) (5 + (tb [a, b, t]).length) (bv (encL ⟨c, n, ⟨k, a, b, t⟩, d, u⟩)) ∧ Below w.heap.size w w' := by
  obtain ⟨c0, c1, n0, n1, k0, k1, chk, d0, d1, hu, s1, s2, s3⟩ := rec_ok hr
  dsimp only at c0 c1 n0 n1 k0 k1 chk d0 d1 hu s1 s2 s3
  have HC := hide (fun W => cCheck_any c n k a b t d u W (by unfold maxLen; omega) (by unfold maxLen; omega) (by unfold maxLen; omega))
  rw [hr] at HC
  have hts : ∀ x, x ∈ [a, b, t] → x.size ≤ 255 := by intro x hx; simp at hx; rcases hx with rfl | rfl | rfl <;> omega
  have hL : (tb [a, b, t]).length ≤ 250 := by simp [tb, ebytes_length]; omega
  obtain ⟨L, HLn⟩ : ∃ L, Hid ((tb [a, b, t]).length = L) := ⟨_, rfl⟩
  rw [HLn.out] at hL ⊢
  have wc : IntKind.u8.wrap c = c := by rw [IntKind.wrap_u8]; omega
  have wn : IntKind.u8.wrap n = n := by rw [IntKind.wrap_u8]; omega
  have wk : IntKind.u8.wrap k = k := by rw [IntKind.wrap_u8]; omega
  have wd : IntKind.u8.wrap d = d := by rw [IntKind.wrap_u8]; omega
  have wL : IntKind.u8.wrap ((5 + L : Nat) : Int) = ((5 + L : Nat) : Int) := by rw [IntKind.wrap_u8]; omega
  obtain ⟨E, HE⟩ : ∃ E, Hid (bv (encL ⟨c, n, ⟨k, a, b, t⟩, d, u⟩) = E) := ⟨_, rfl⟩
  rw [HE.out]
  have HT := hide hts
  have HB0 := hide (And.intro c0 (And.intro n0 (And.intro k0 d0)))
  have HB1 := hide (And.intro c1 (And.intro n1 (And.intro k1 d1)))
  clear hts c0 c1 n0 n1 k0 k1 d0 d1 chk hu s1 s2 s3 hr
  go_enter Tryz.func239, Tryz.ntmps239
  go_wp2_with fail
  refine ((unhide HC) _).mono ?_
  rintro e w1 ⟨rfl, b1⟩
  have q0 := b1.cell (p := ⟨w.heap.size, 0, none⟩) (by simp)
  have q1 := b1.cell (p := ⟨w.heap.size, 1, none⟩) (by simp)
  have q2 := b1.cell (p := ⟨w.heap.size, 2, none⟩) (by simp)
  have q3 := b1.cell (p := ⟨w.heap.size, 3, none⟩) (by simp)
  have q4 := b1.cell (p := ⟨w.heap.size, 4, none⟩) (by simp)
  have q5 := b1.cell (p := ⟨w.heap.size, 5, none⟩) (by simp)
  have q6 := b1.cell (p := ⟨w.heap.size, 6, none⟩) (by simp)
  have hz : w.heap.size < w1.heap.size := by have := b1.size; simp at this; omega
  simp at q0 q1 q2 q3 q4 q5 q6
  have HB := hide (((Below.refl w.heap.size w).alloc (Nat.le_refl _) _).trans (b1.mono (by simp)))
  clear b1
  go_wp2_with fail
  have HW : Hid (Below w.heap.size w ((w1.alloc (.cells #[.int .u8 0, .int .u8 c, .int .u8 n, .int .u8 k, .int .u8 d] 5)).alloc (.cells #[.string a, .string b, .string t] 9))) :=
    ((unhide HB).alloc (by omega) _).alloc (by simp; omega) _
  have hrow0 : w1.alloc (.cells #[.int .u8 0, .int .u8 c, .int .u8 n, .int .u8 k, .int .u8 d] 5) |>.ownsRow w.heap.size 5 1 (.slice (some ⟨w1.heap.size, 0, none⟩) 5 5) 5 [.int .u8 0, .int .u8 c, .int .u8 n, .int .u8 k, .int .u8 d] :=
    World.ownsRow_lit w1 #[.int .u8 0, .int .u8 c, .int .u8 n, .int .u8 k, .int .u8 d] 5 (by omega) (by unfold maxLen; omega) rfl
  have hput := cput_any w.heap.size w1.heap.size 5 5 (w1.heap.size + 1) 3 [.int .u8 0, .int .u8 c, .int .u8 n, .int .u8 k, .int .u8 d] [a, b, t] _ (hrow0.alloc (.cells #[.string a, .string b, .string t] 9)) (by omega) (by omega) (by simp) (by omega)
    (fun j x hx => by
      rw [al_new _ _ _ _ _ _ (by simp)]
      match j, hx with
      | 0, hx => simpa using hx
      | 1, hx => simpa using hx
      | 2, hx => simpa using hx
      | (j + 3), hx => simp at hx) (unhide HT)
  rw [HLn.out] at hput
  refine hput.mono ?_
  rintro e w2 ⟨g, cap, rfl, hown2, b2⟩
  have HB2 := hide ((unhide HW).trans b2)
  have x0 := hown2.cellAt 0 (by omega)
  have x1 := hown2.frozenAt 0
  have x2 := (hown2.lt g rfl).2
  have HO2 := hide hown2
  simp at x0
  clear hput hrow0 hown2 b2 q0 q1 q2 q3 q4 q5 q6
  go_wp2
  go_ret2
  obtain ⟨hs1, hs2⟩ := (unhide HO2).stored 0 (.int .u8 (5 + (L : Int)))
  refine ⟨g, cap, rfl, ?_, (unhide HB2).grown hs2 (unhide HB2).size (fun j hj => ((unhide HO2).lt j (by simpa [Value.ownBlock] using hj)).1)⟩
  rw [← HE.out, enc_bv _ (unhide HB0).1 (unhide HB0).2.1 (unhide HB0).2.2.1 (unhide HB0).2.2.2 (unhide HB1).1 (unhide HB1).2.1 (unhide HB1).2.2.1 (unhide HB1).2.2.2 (by show (tb [a, b, t]).length ≤ 250; rw [HLn.out]; exact hL)]
  show _ = _ ∧ _
  have e : (tb (ARec.texts ⟨c, n, ⟨k, a, b, t⟩, d, u⟩)).length = L := HLn.out
  rw [e]
  exact hs1

end Go.Proofs.YtffgolanmaenfacGreatDoor

namespace Go.Proofs.YtffgolanmaenfacGreatDoor
open Go.RowKit
set_option linter.unusedSimpArgs false
set_option linter.unusedVariables false

/-- Bytes that lie somewhere, as a slice. -/
def ByAt (w : World) (a : Option Addr) (bs : List UInt8) : Prop :=
  bs ≠ [] → ∃ b off, a = some ⟨b, off, none⟩ ∧ ∀ (j : Nat) (x : UInt8), bs[j]? = some x → w.cell? ⟨b, off + j, none⟩ = some (.int .u8 (x.toNat : Int))

/-- So many texts, each with its length ahead; and what stands behind. -/
def takeT : Nat → List UInt8 → Option (List ByteArray × List UInt8)
  | 0, bs => some ([], bs)
  | k + 1, [] => none
  | k + 1, x :: xs => if x.toNat ≤ xs.length then (takeT k (xs.drop x.toNat)).map fun p => (⟨(xs.take x.toNat).toArray⟩ :: p.1, p.2) else none

/-! TAIL -/
theorem conv_at (w : World) (a : Addr) (l : List UInt8) (c : Nat) (n : Nat) (hn : n = l.length) (hc : ∀ (j : Nat) (x : UInt8), l[j]? = some x → w.cell? (a.add j) = some (.int .u8 (x.toNat : Int))) : (convert 42 9 (.slice (some a) n c)).run Tryz.prog w = .ok (.string ⟨l.toArray⟩) w := by
  subst hn
  exact run_convert_bytes_back (P := Tryz.prog) w 42 9 5 a c l Tryz.underlying42 Tryz.underlying5 Tryz.underlying9 (fun j hj => hc j _ (List.getElem?_eq_getElem hj))

theorem addr_add (b o j : Nat) : (⟨b, o, none⟩ : Addr).add j = ⟨b, o + j, none⟩ := by unfold Addr.add; split <;> simp_all

/-- What take's loop has done. -/
structure TakeAt (w : World) (bs : List UInt8) (R : Nat) (v0 v1 v2 v6 v7 : Value) (k : Nat) (a1 : Option Addr) (rest : List UInt8) (t0 t1 t2 : ByteArray) (wr : World) : Prop where
  by_ : ByAt wr a1 rest
  ne : rest ≠ [] → ∀ a, a1 = some a → a.block ≠ R
  kept : Kept [R] w wr
  blk : wr.heap[R]? = some (.cells #[v0, v1, v2, .string t0, .string t1, .string t2, v6, v7] 111 (0, 0))
  took : takeT 3 bs = (takeT (3 - k) rest).map fun p => ([t0, t1, t2].take k ++ p.1, p.2)

/-- What take answers. -/
def TakeRes (w : World) (bs : List UInt8) (R : Nat) (v0 v1 v2 v6 v7 : Value) (e : Ending) (w' : World) : Prop :=
  ∃ t0 t1 t2 ok a1 n c1, e = .returned (.tuple #[.slice a1 n c1, .bool ok]) ∧ w'.heap[R]? = some (.cells #[v0, v1, v2, .string t0, .string t1, .string t2, v6, v7] 111 (0, 0)) ∧ Kept [R] w w' ∧
    ((ok = false ∧ takeT 3 bs = none) ∨ (ok = true ∧ ∃ rest, takeT 3 bs = some ([t0, t1, t2], rest) ∧ n = rest.length))

theorem ByAt.kept {w w' : World} {R : Nat} {a : Option Addr} {bs : List UInt8} (h : ByAt w a bs) (hk : Kept [R] w w') (hne : bs ≠ [] → ∀ x, a = some x → x.block ≠ R) : ByAt w' a bs := fun h0 => by
  obtain ⟨b, off, rfl, hc⟩ := h h0
  refine ⟨b, off, rfl, fun j x hx => ?_⟩
  have := hc j x hx
  exact (hk.cell (World.block_lt_of_cell? w _ this) (by simpa using hne h0 _ rfl)).trans this

theorem takeT_cons (k : Nat) (x : UInt8) (xs : List UInt8) (h : x.toNat ≤ xs.length) : takeT (k + 1) (x :: xs) = (takeT k (xs.drop x.toNat)).map fun p => (⟨(xs.take x.toNat).toArray⟩ :: p.1, p.2) := by
  rw [takeT, if_pos h]
theorem takeT_short (k : Nat) (x : UInt8) (xs : List UInt8) (h : ¬ x.toNat ≤ xs.length) : takeT (k + 1) (x :: xs) = none := by
  rw [takeT, if_neg h]

theorem ByAt.tail {w : World} {b off : Nat} {x : UInt8} {xs : List UInt8} (hc : ∀ (j : Nat) (y : UInt8), (x :: xs)[j]? = some y → w.cell? ⟨b, off + j, none⟩ = some (.int .u8 (y.toNat : Int))) (A : Option Addr) (n : Nat) (hA : n < xs.length → A = some ⟨b, off + (1 + n), none⟩) : ByAt w A (xs.drop n) := fun h0 => by
  have hlt : n < xs.length := by
    rcases Nat.lt_or_ge n xs.length with h | h
    · exact h
    · exact absurd (List.drop_of_length_le h) h0
  refine ⟨b, off + (1 + n), hA hlt, fun j y hy => ?_⟩
  have := hc (1 + n + j) y (by rw [List.getElem?_drop] at hy; rw [show 1 + n + j = (n + j) + 1 by omega]; simpa using hy)
  rw [show off + (1 + n) + j = off + (1 + n + j) by omega]
  exact this

set_option maxRecDepth 100000 in
set_option maxHeartbeats 8000000 in
theorem take_any (a0 : Option Addr) (cap R P : Nat) (bs : List UInt8) (w : World) (hb : ByAt w a0 bs) (hcap : bs.length ≤ cap) (hm : bs.length ≤ maxLen) (hne : bs ≠ [] → ∀ a, a0 = some a → a.block ≠ R) (hPR : P ≠ R)
    (p0 : w.cell? ⟨P, 0, none⟩ = some (.pointer (some ⟨R, 3, none⟩))) (p1 : w.cell? ⟨P, 1, none⟩ = some (.pointer (some ⟨R, 4, none⟩))) (p2 : w.cell? ⟨P, 2, none⟩ = some (.pointer (some ⟨R, 5, none⟩)))
    (v0 v1 v2 v6 v7 : Value) (s0 s1 s2 : ByteArray) (hR : w.heap[R]? = some (.cells #[v0, v1, v2, .string s0, .string s1, .string s2, v6, v7] 111 (0, 0))) :
    Calls Tryz.prog 227 #[.slice a0 bs.length cap, .slice (some ⟨P, 0, none⟩) 3 3] w
      (TakeRes w bs R v0 v1 v2 v6 v7) := by
  unfold maxLen at hm
  have HT0 : Hid (TakeAt w bs R v0 v1 v2 v6 v7 0 a0 bs s0 s1 s2 w) := ⟨hb, hne, Kept.refl _ _, hR, by simp⟩
  have HP : Hid (∀ wr, Kept [R] w wr → wr.cell? ⟨P, 0, none⟩ = some (.pointer (some ⟨R, 3, none⟩)) ∧ wr.cell? ⟨P, 1, none⟩ = some (.pointer (some ⟨R, 4, none⟩)) ∧ wr.cell? ⟨P, 2, none⟩ = some (.pointer (some ⟨R, 5, none⟩))) := fun wr hk =>
    ⟨(hk.cell (World.block_lt_of_cell? w _ p0) (by simpa using hPR)).trans p0, (hk.cell (World.block_lt_of_cell? w _ p1) (by simpa using hPR)).trans p1, (hk.cell (World.block_lt_of_cell? w _ p2) (by simpa using hPR)).trans p2⟩
  clear hb hne hR p0 p1 p2 hPR
  go_enter Tryz.func227, Tryz.ntmps227
  go_wp2
  go_loopw [0, 7, 8, 11] (fun v _ _ i wr => ∃ (k : Nat) (kI : Int) (a1 : Option Addr) (c1 L : Nat) (rest : List UInt8) (t0 t1 t2 : ByteArray), ((k = 0 ∧ kI = 0) ∨ (k = 1 ∧ kI = 1) ∨ (k = 2 ∧ kI = 2) ∨ (k = 3 ∧ kI = 3)) ∧ i = .int .i64 kI ∧ v = .slice a1 L c1 ∧ L ≤ c1 ∧ L ≤ 2 ^ 63 - 1 ∧ Hid (rest.length = L) ∧ Hid (TakeAt w bs R v0 v1 v2 v6 v7 k a1 rest t0 t1 t2 wr)) (fun _ _ _ i _ => 3 - (intOf i).toNat)
  case atStart => exact ⟨0, 0, _, _, _, bs, _, _, _, .inl ⟨rfl, rfl⟩, rfl, rfl, hcap, hm, rfl, unhide HT0⟩
  case round =>
    obtain ⟨k, kI, a1, c1, L, rest, t0, t1, t2, hk, rfl, rfl, hLc, hLm, HL, HT⟩ := hrel
    obtain ⟨p0, p1, p2⟩ := unhide HP wr (unhide HT).kept
    have hRl : R < wr.heap.size := (Array.getElem?_eq_some_iff.1 (unhide HT).blk).1
    rcases hk with ⟨rfl, rfl⟩ | ⟨rfl, rfl⟩ | ⟨rfl, rfl⟩ | ⟨rfl, rfl⟩
    · clear p1 p2
      cases rest with
      | nil =>
        obtain rfl : L = 0 := (unhide HL).symm
        have HN : Hid (takeT 3 bs = none) := by rw [(unhide HT).took]; exact rfl
        go_wp2
        go_ret2
        exact ⟨t0, t1, t2, false, none, 0, 0, rfl, (unhide HT).blk, (unhide HT).kept, .inl ⟨rfl, unhide HN⟩⟩
      | cons x xs =>
        obtain ⟨b, off, rfl, hc⟩ := (unhide HT).by_ (by simp)
        have hx : wr.cell? ⟨b, off, none⟩ = some (.int .u8 (x.toNat : Int)) := hc 0 x rfl
        have hbR : b ≠ R := (unhide HT).ne (by simp) _ rfl
        obtain ⟨X, HX⟩ : ∃ X, Hid (x.toNat = X) := ⟨_, rfl⟩
        obtain ⟨M, rfl⟩ : ∃ M, L = M + 1 := ⟨xs.length, (unhide HL).symm⟩
        have HM : Hid (xs.length = M) := by have := unhide HL; simp at this; exact this
        have hX2 : X ≤ 255 := by have := x.toNat_lt; rw [← HX.out]; omega
        rw [HX.out] at hx
        have HC := hide hc
        clear hc
        have hM0 : ((M : Int) + 1 == 0) = false := by simp; omega
        by_cases h1 : (X : Int) ≤ (M : Int)
        · have h1n : ¬ M < X := by omega
          obtain ⟨s, hs⟩ : ∃ s : ByteArray, s = ⟨(xs.take X).toArray⟩ := ⟨_, rfl⟩
          have HS := hide hs
          have hcell : wr.cell? ⟨R, 3, none⟩ = some (.string t0) := by rw [cell_of_row wr R 3 _ _ _ (unhide HT).blk]; rfl
          have hfroz : wr.frozen? ⟨R, 3, none⟩ = false := frozen_of_row wr R 3 _ _ (unhide HT).blk
          have HK' : Hid (Kept [R] w (wr.setCell ⟨R, 3, none⟩ (.string s))) := (unhide HT).kept.trans (kept_setCell [R] wr R 3 (.string s) (by simp)) (fun x hx => .inl hx)
          have HB' : Hid ((wr.setCell ⟨R, 3, none⟩ (.string s)).heap[R]? = some (.cells #[v0, v1, v2, .string s, .string t1, .string t2, v6, v7] 111 (0, 0))) := heap_setCell_same (unhide HT).blk (.string s)
          have HTK : Hid (takeT 3 bs = (takeT (3 - 1) (xs.drop X)).map fun p => ([s, t1, t2].take 1 ++ p.1, p.2)) := by
            rw [(unhide HT).took, show 3 - 0 = 3 - 1 + 1 from rfl, takeT_cons _ _ _ (by rw [HX.out, HM.out]; omega), HX.out, ← HS.out, Option.map_map]
            congr 1
          have HR' : ∀ A : Option Addr, (X < M → A = some ⟨b, off + (1 + X), none⟩) → (∀ a, A = some a → a.block = b) → Hid (TakeAt w bs R v0 v1 v2 v6 v7 1 A (xs.drop X) s t1 t2 (wr.setCell ⟨R, 3, none⟩ (.string s))) := fun A hA hA2 => by
            refine ⟨?_, fun _ a e => by rw [hA2 a e]; exact hbR, unhide HK', unhide HB', unhide HTK⟩
            have h0 : ByAt wr A (xs.drop X) := ByAt.tail (unhide HC) A X (fun h => hA (by rw [← HM.out]; exact h))
            exact h0.kept (kept_setCell [R] wr R 3 (.string s) (by simp)) (fun _ a e => by rw [hA2 a e]; exact hbR)
          have HLd : Hid ((xs.drop X).length = M - X) := by rw [List.length_drop, HM.out]; exact rfl
          have HRH := hide HR'
          have hcv : ∀ c, (convert 42 9 (.slice (some ⟨b, off + 1, none⟩) X c)).run Tryz.prog wr = .ok (.string s) wr := fun c => by
            rw [hs]
            refine conv_at wr ⟨b, off + 1, none⟩ (xs.take X) c X (by rw [List.length_take, HM.out]; omega) (fun j y hy => ?_)
            rw [addr_add]
            have hj : j < X := by have := (List.getElem?_eq_some_iff.1 hy).1; rw [List.length_take] at this; omega
            have := (unhide HC) (j + 1) y (by rw [List.getElem?_take, if_pos hj] at hy; simpa using hy)
            rw [show off + 1 + j = off + (j + 1) by omega]
            exact this
          clear hs HR'
          by_cases q1 : c1 = 1
          · subst q1
            obtain rfl : M = 0 := by omega
            obtain rfl : X = 0 := by omega
            have hcv0 : ∀ c, (convert 42 9 (.slice (some ⟨b, off, none⟩) 0 c)).run Tryz.prog wr = .ok (.string s) wr := fun c => by
              rw [HS.out]
              exact conv_at wr ⟨b, off, none⟩ (xs.take 0) c 0 (by simp) (fun j y hy => by simp at hy)
            go_wp2
            go_roundw
            case rel => exact ⟨1, 1, _, _, _, _, _, _, _, .inr (.inl ⟨rfl, rfl⟩), rfl, rfl, by omega, by omega, hide (by have h := unhide HLd; have h2 := unhide HM; simp only [List.length_drop] at h ⊢; omega), unhide HRH _ (by omega) (by simp)⟩
            case measure => simp [intOf]
          · by_cases q2 : c1 = 1 + X
            · subst q2
              go_wp2
              go_roundw
              case rel => exact ⟨1, 1, _, _, _, _, _, _, _, .inr (.inl ⟨rfl, rfl⟩), rfl, rfl, by omega, by omega, hide (by have h := unhide HLd; have h2 := unhide HM; simp only [List.length_drop] at h ⊢; omega), unhide HRH _ (by omega) (by simp)⟩
              case measure => simp [intOf]
            · go_wp2
              go_roundw
              case rel => exact ⟨1, 1, _, _, _, _, _, _, _, .inr (.inl ⟨rfl, rfl⟩), rfl, rfl, by omega, by omega, hide (by have h := unhide HLd; have h2 := unhide HM; simp only [List.length_drop] at h ⊢; omega), unhide HRH _ (fun _ => rfl) (by simp)⟩
              case measure => simp [intOf]
        · have h1n : M < X := by omega
          have HN : Hid (takeT 3 bs = none) := by rw [(unhide HT).took, show 3 - 0 = 3 - 1 + 1 from rfl, takeT_short _ _ _ (by rw [HX.out, HM.out]; omega)]; exact rfl
          go_wp2
          go_ret2
          exact ⟨t0, t1, t2, false, none, 0, 0, rfl, (unhide HT).blk, (unhide HT).kept, .inl ⟨rfl, unhide HN⟩⟩
    · clear p0 p2
      cases rest with
      | nil =>
        obtain rfl : L = 0 := (unhide HL).symm
        have HN : Hid (takeT 3 bs = none) := by rw [(unhide HT).took]; exact rfl
        go_wp2
        go_ret2
        exact ⟨t0, t1, t2, false, none, 0, 0, rfl, (unhide HT).blk, (unhide HT).kept, .inl ⟨rfl, unhide HN⟩⟩
      | cons x xs =>
        obtain ⟨b, off, rfl, hc⟩ := (unhide HT).by_ (by simp)
        have hx : wr.cell? ⟨b, off, none⟩ = some (.int .u8 (x.toNat : Int)) := hc 0 x rfl
        have hbR : b ≠ R := (unhide HT).ne (by simp) _ rfl
        obtain ⟨X, HX⟩ : ∃ X, Hid (x.toNat = X) := ⟨_, rfl⟩
        obtain ⟨M, rfl⟩ : ∃ M, L = M + 1 := ⟨xs.length, (unhide HL).symm⟩
        have HM : Hid (xs.length = M) := by have := unhide HL; simp at this; exact this
        have hX2 : X ≤ 255 := by have := x.toNat_lt; rw [← HX.out]; omega
        rw [HX.out] at hx
        have HC := hide hc
        clear hc
        have hM0 : ((M : Int) + 1 == 0) = false := by simp; omega
        by_cases h1 : (X : Int) ≤ (M : Int)
        · have h1n : ¬ M < X := by omega
          obtain ⟨s, hs⟩ : ∃ s : ByteArray, s = ⟨(xs.take X).toArray⟩ := ⟨_, rfl⟩
          have HS := hide hs
          have hcell : wr.cell? ⟨R, 4, none⟩ = some (.string t1) := by rw [cell_of_row wr R 4 _ _ _ (unhide HT).blk]; rfl
          have hfroz : wr.frozen? ⟨R, 4, none⟩ = false := frozen_of_row wr R 4 _ _ (unhide HT).blk
          have HK' : Hid (Kept [R] w (wr.setCell ⟨R, 4, none⟩ (.string s))) := (unhide HT).kept.trans (kept_setCell [R] wr R 4 (.string s) (by simp)) (fun x hx => .inl hx)
          have HB' : Hid ((wr.setCell ⟨R, 4, none⟩ (.string s)).heap[R]? = some (.cells #[v0, v1, v2, .string t0, .string s, .string t2, v6, v7] 111 (0, 0))) := heap_setCell_same (unhide HT).blk (.string s)
          have HTK : Hid (takeT 3 bs = (takeT (3 - 2) (xs.drop X)).map fun p => ([t0, s, t2].take 2 ++ p.1, p.2)) := by
            rw [(unhide HT).took, show 3 - 1 = 3 - 2 + 1 from rfl, takeT_cons _ _ _ (by rw [HX.out, HM.out]; omega), HX.out, ← HS.out, Option.map_map]
            congr 1
          have HR' : ∀ A : Option Addr, (X < M → A = some ⟨b, off + (1 + X), none⟩) → (∀ a, A = some a → a.block = b) → Hid (TakeAt w bs R v0 v1 v2 v6 v7 2 A (xs.drop X) t0 s t2 (wr.setCell ⟨R, 4, none⟩ (.string s))) := fun A hA hA2 => by
            refine ⟨?_, fun _ a e => by rw [hA2 a e]; exact hbR, unhide HK', unhide HB', unhide HTK⟩
            have h0 : ByAt wr A (xs.drop X) := ByAt.tail (unhide HC) A X (fun h => hA (by rw [← HM.out]; exact h))
            exact h0.kept (kept_setCell [R] wr R 4 (.string s) (by simp)) (fun _ a e => by rw [hA2 a e]; exact hbR)
          have HLd : Hid ((xs.drop X).length = M - X) := by rw [List.length_drop, HM.out]; exact rfl
          have HRH := hide HR'
          have hcv : ∀ c, (convert 42 9 (.slice (some ⟨b, off + 1, none⟩) X c)).run Tryz.prog wr = .ok (.string s) wr := fun c => by
            rw [hs]
            refine conv_at wr ⟨b, off + 1, none⟩ (xs.take X) c X (by rw [List.length_take, HM.out]; omega) (fun j y hy => ?_)
            rw [addr_add]
            have hj : j < X := by have := (List.getElem?_eq_some_iff.1 hy).1; rw [List.length_take] at this; omega
            have := (unhide HC) (j + 1) y (by rw [List.getElem?_take, if_pos hj] at hy; simpa using hy)
            rw [show off + 1 + j = off + (j + 1) by omega]
            exact this
          clear hs HR'
          by_cases q1 : c1 = 1
          · subst q1
            obtain rfl : M = 0 := by omega
            obtain rfl : X = 0 := by omega
            have hcv0 : ∀ c, (convert 42 9 (.slice (some ⟨b, off, none⟩) 0 c)).run Tryz.prog wr = .ok (.string s) wr := fun c => by
              rw [HS.out]
              exact conv_at wr ⟨b, off, none⟩ (xs.take 0) c 0 (by simp) (fun j y hy => by simp at hy)
            go_wp2
            go_roundw
            case rel => exact ⟨2, 2, _, _, _, _, _, _, _, .inr (.inr (.inl ⟨rfl, rfl⟩)), rfl, rfl, by omega, by omega, hide (by have h := unhide HLd; have h2 := unhide HM; simp only [List.length_drop] at h ⊢; omega), unhide HRH _ (by omega) (by simp)⟩
            case measure => simp [intOf]
          · by_cases q2 : c1 = 1 + X
            · subst q2
              go_wp2
              go_roundw
              case rel => exact ⟨2, 2, _, _, _, _, _, _, _, .inr (.inr (.inl ⟨rfl, rfl⟩)), rfl, rfl, by omega, by omega, hide (by have h := unhide HLd; have h2 := unhide HM; simp only [List.length_drop] at h ⊢; omega), unhide HRH _ (by omega) (by simp)⟩
              case measure => simp [intOf]
            · go_wp2
              go_roundw
              case rel => exact ⟨2, 2, _, _, _, _, _, _, _, .inr (.inr (.inl ⟨rfl, rfl⟩)), rfl, rfl, by omega, by omega, hide (by have h := unhide HLd; have h2 := unhide HM; simp only [List.length_drop] at h ⊢; omega), unhide HRH _ (fun _ => rfl) (by simp)⟩
              case measure => simp [intOf]
        · have h1n : M < X := by omega
          have HN : Hid (takeT 3 bs = none) := by rw [(unhide HT).took, show 3 - 1 = 3 - 2 + 1 from rfl, takeT_short _ _ _ (by rw [HX.out, HM.out]; omega)]; exact rfl
          go_wp2
          go_ret2
          exact ⟨t0, t1, t2, false, none, 0, 0, rfl, (unhide HT).blk, (unhide HT).kept, .inl ⟨rfl, unhide HN⟩⟩
    · clear p0 p1
      cases rest with
      | nil =>
        obtain rfl : L = 0 := (unhide HL).symm
        have HN : Hid (takeT 3 bs = none) := by rw [(unhide HT).took]; exact rfl
        go_wp2
        go_ret2
        exact ⟨t0, t1, t2, false, none, 0, 0, rfl, (unhide HT).blk, (unhide HT).kept, .inl ⟨rfl, unhide HN⟩⟩
      | cons x xs =>
        obtain ⟨b, off, rfl, hc⟩ := (unhide HT).by_ (by simp)
        have hx : wr.cell? ⟨b, off, none⟩ = some (.int .u8 (x.toNat : Int)) := hc 0 x rfl
        have hbR : b ≠ R := (unhide HT).ne (by simp) _ rfl
        obtain ⟨X, HX⟩ : ∃ X, Hid (x.toNat = X) := ⟨_, rfl⟩
        obtain ⟨M, rfl⟩ : ∃ M, L = M + 1 := ⟨xs.length, (unhide HL).symm⟩
        have HM : Hid (xs.length = M) := by have := unhide HL; simp at this; exact this
        have hX2 : X ≤ 255 := by have := x.toNat_lt; rw [← HX.out]; omega
        rw [HX.out] at hx
        have HC := hide hc
        clear hc
        have hM0 : ((M : Int) + 1 == 0) = false := by simp; omega
        by_cases h1 : (X : Int) ≤ (M : Int)
        · have h1n : ¬ M < X := by omega
          obtain ⟨s, hs⟩ : ∃ s : ByteArray, s = ⟨(xs.take X).toArray⟩ := ⟨_, rfl⟩
          have HS := hide hs
          have hcell : wr.cell? ⟨R, 5, none⟩ = some (.string t2) := by rw [cell_of_row wr R 5 _ _ _ (unhide HT).blk]; rfl
          have hfroz : wr.frozen? ⟨R, 5, none⟩ = false := frozen_of_row wr R 5 _ _ (unhide HT).blk
          have HK' : Hid (Kept [R] w (wr.setCell ⟨R, 5, none⟩ (.string s))) := (unhide HT).kept.trans (kept_setCell [R] wr R 5 (.string s) (by simp)) (fun x hx => .inl hx)
          have HB' : Hid ((wr.setCell ⟨R, 5, none⟩ (.string s)).heap[R]? = some (.cells #[v0, v1, v2, .string t0, .string t1, .string s, v6, v7] 111 (0, 0))) := heap_setCell_same (unhide HT).blk (.string s)
          have HTK : Hid (takeT 3 bs = (takeT (3 - 3) (xs.drop X)).map fun p => ([t0, t1, s].take 3 ++ p.1, p.2)) := by
            rw [(unhide HT).took, show 3 - 2 = 3 - 3 + 1 from rfl, takeT_cons _ _ _ (by rw [HX.out, HM.out]; omega), HX.out, ← HS.out, Option.map_map]
            congr 1
          have HR' : ∀ A : Option Addr, (X < M → A = some ⟨b, off + (1 + X), none⟩) → (∀ a, A = some a → a.block = b) → Hid (TakeAt w bs R v0 v1 v2 v6 v7 3 A (xs.drop X) t0 t1 s (wr.setCell ⟨R, 5, none⟩ (.string s))) := fun A hA hA2 => by
            refine ⟨?_, fun _ a e => by rw [hA2 a e]; exact hbR, unhide HK', unhide HB', unhide HTK⟩
            have h0 : ByAt wr A (xs.drop X) := ByAt.tail (unhide HC) A X (fun h => hA (by rw [← HM.out]; exact h))
            exact h0.kept (kept_setCell [R] wr R 5 (.string s) (by simp)) (fun _ a e => by rw [hA2 a e]; exact hbR)
          have HLd : Hid ((xs.drop X).length = M - X) := by rw [List.length_drop, HM.out]; exact rfl
          have HRH := hide HR'
          have hcv : ∀ c, (convert 42 9 (.slice (some ⟨b, off + 1, none⟩) X c)).run Tryz.prog wr = .ok (.string s) wr := fun c => by
            rw [hs]
            refine conv_at wr ⟨b, off + 1, none⟩ (xs.take X) c X (by rw [List.length_take, HM.out]; omega) (fun j y hy => ?_)
            rw [addr_add]
            have hj : j < X := by have := (List.getElem?_eq_some_iff.1 hy).1; rw [List.length_take] at this; omega
            have := (unhide HC) (j + 1) y (by rw [List.getElem?_take, if_pos hj] at hy; simpa using hy)
            rw [show off + 1 + j = off + (j + 1) by omega]
            exact this
          clear hs HR'
          by_cases q1 : c1 = 1
          · subst q1
            obtain rfl : M = 0 := by omega
            obtain rfl : X = 0 := by omega
            have hcv0 : ∀ c, (convert 42 9 (.slice (some ⟨b, off, none⟩) 0 c)).run Tryz.prog wr = .ok (.string s) wr := fun c => by
              rw [HS.out]
              exact conv_at wr ⟨b, off, none⟩ (xs.take 0) c 0 (by simp) (fun j y hy => by simp at hy)
            go_wp2
            go_roundw
            case rel => exact ⟨3, 3, _, _, _, _, _, _, _, .inr (.inr (.inr ⟨rfl, rfl⟩)), rfl, rfl, by omega, by omega, hide (by have h := unhide HLd; have h2 := unhide HM; simp only [List.length_drop] at h ⊢; omega), unhide HRH _ (by omega) (by simp)⟩
            case measure => simp [intOf]
          · by_cases q2 : c1 = 1 + X
            · subst q2
              go_wp2
              go_roundw
              case rel => exact ⟨3, 3, _, _, _, _, _, _, _, .inr (.inr (.inr ⟨rfl, rfl⟩)), rfl, rfl, by omega, by omega, hide (by have h := unhide HLd; have h2 := unhide HM; simp only [List.length_drop] at h ⊢; omega), unhide HRH _ (by omega) (by simp)⟩
              case measure => simp [intOf]
            · go_wp2
              go_roundw
              case rel => exact ⟨3, 3, _, _, _, _, _, _, _, .inr (.inr (.inr ⟨rfl, rfl⟩)), rfl, rfl, by omega, by omega, hide (by have h := unhide HLd; have h2 := unhide HM; simp only [List.length_drop] at h ⊢; omega), unhide HRH _ (fun _ => rfl) (by simp)⟩
              case measure => simp [intOf]
        · have h1n : M < X := by omega
          have HN : Hid (takeT 3 bs = none) := by rw [(unhide HT).took, show 3 - 2 = 3 - 3 + 1 from rfl, takeT_short _ _ _ (by rw [HX.out, HM.out]; omega)]; exact rfl
          go_wp2
          go_ret2
          exact ⟨t0, t1, t2, false, none, 0, 0, rfl, (unhide HT).blk, (unhide HT).kept, .inl ⟨rfl, unhide HN⟩⟩
    · clear p0 p1 p2
      have HN : Hid (takeT 3 bs = some ([t0, t1, t2], rest)) := by rw [(unhide HT).took]; exact rfl
      go_wp2
      go_ret2
      exact ⟨t0, t1, t2, true, _, _, _, rfl, (unhide HT).blk, (unhide HT).kept, .inr ⟨rfl, rest, unhide HN, (unhide HL).symm⟩⟩

end Go.Proofs.YtffgolanmaenfacGreatDoor

namespace Go.Proofs.YtffgolanmaenfacGreatDoor
open Go.RowKit
set_option linter.unusedSimpArgs false
set_option linter.unusedVariables false

def at_ (bs : List UInt8) (i : Nat) : Int := ((bs.getD i 0).toNat : Int)

/-- Just one record, whatever its parts are. -/
def readR (bs : List UInt8) : Option ARec :=
  if bs.length < 5 then none
  else match takeT 3 (bs.drop 5) with
    | some ([a, b, t], []) => some ⟨at_ bs 1, at_ bs 2, ⟨at_ bs 3, a, b, t⟩, at_ bs 4, ⟨#[]⟩⟩
    | _ => none

def ReadRes (w : World) (bs : List UInt8) (e : Ending) (w' : World) : Prop :=
  Below w.heap.size w w' ∧ ∃ c n k a b t d u ok, e = .returned (.tuple #[.agg #[.int .i64 c, .int .i64 n, .int .i64 k, .string a, .string b, .string t, .int .i64 d, .string u], .bool ok]) ∧
    ((ok = false ∧ readR bs = none) ∨ (ok = true ∧ readR bs = some ⟨c, n, ⟨k, a, b, t⟩, d, u⟩))

/-- Eight cells written, one behind the other. -/
def set8 (w : World) (b : Nat) (y0 y1 y2 y3 y4 y5 y6 y7 : Value) : World :=
  (((((((w.setCell ⟨b, 0, none⟩ y0).setCell ⟨b, 1, none⟩ y1).setCell ⟨b, 2, none⟩ y2).setCell ⟨b, 3, none⟩ y3).setCell ⟨b, 4, none⟩ y4).setCell ⟨b, 5, none⟩ y5).setCell ⟨b, 6, none⟩ y6).setCell ⟨b, 7, none⟩ y7
theorem set8_blk {w : World} {b : Nat} {x0 x1 x2 x3 x4 x5 x6 x7 : Value} {e : TypeId} (h : w.heap[b]? = some (.cells #[x0, x1, x2, x3, x4, x5, x6, x7] e (0, 0))) (y0 y1 y2 y3 y4 y5 y6 y7 : Value) :
    (set8 w b y0 y1 y2 y3 y4 y5 y6 y7).heap[b]? = some (.cells #[y0, y1, y2, y3, y4, y5, y6, y7] e (0, 0)) := by
  have h0 := heap_setCell_same h (o := 0) y0
  simp only [List.setIfInBounds_toArray, List.set_cons_zero, List.set_cons_succ] at h0
  have h1 := heap_setCell_same h0 (o := 1) y1
  simp only [List.setIfInBounds_toArray, List.set_cons_zero, List.set_cons_succ] at h1
  have h2 := heap_setCell_same h1 (o := 2) y2
  simp only [List.setIfInBounds_toArray, List.set_cons_zero, List.set_cons_succ] at h2
  have h3 := heap_setCell_same h2 (o := 3) y3
  simp only [List.setIfInBounds_toArray, List.set_cons_zero, List.set_cons_succ] at h3
  have h4 := heap_setCell_same h3 (o := 4) y4
  simp only [List.setIfInBounds_toArray, List.set_cons_zero, List.set_cons_succ] at h4
  have h5 := heap_setCell_same h4 (o := 5) y5
  simp only [List.setIfInBounds_toArray, List.set_cons_zero, List.set_cons_succ] at h5
  have h6 := heap_setCell_same h5 (o := 6) y6
  simp only [List.setIfInBounds_toArray, List.set_cons_zero, List.set_cons_succ] at h6
  have h7 := heap_setCell_same h6 (o := 7) y7
  simp only [List.setIfInBounds_toArray, List.set_cons_zero, List.set_cons_succ] at h7
  exact h7
theorem set8_kept (w : World) (b : Nat) (y0 y1 y2 y3 y4 y5 y6 y7 : Value) : Kept [b] w (set8 w b y0 y1 y2 y3 y4 y5 y6 y7) := by
  have k : ∀ (w : World) (o : Nat) (y : Value), Kept [b] w (w.setCell ⟨b, o, none⟩ y) := fun w o y => kept_setCell [b] w b o y (by simp)
  have s : ∀ x, x ∈ [b] → x ∈ [b] ∨ w.heap.size ≤ x := fun x hx => .inl hx
  unfold set8
  exact (((((((k _ _ _).trans (k _ _ _) s).trans (k _ _ _) s).trans (k _ _ _) s).trans (k _ _ _) s).trans (k _ _ _) s).trans (k _ _ _) s).trans (k _ _ _) s
/-- Eight cells of a block. -/
theorem eight {w : World} {b : Nat} {x0 x1 x2 x3 x4 x5 x6 x7 : Value} {e : TypeId} (h : w.heap[b]? = some (.cells #[x0, x1, x2, x3, x4, x5, x6, x7] e (0, 0))) :
    (w.cell? ⟨b, 0, none⟩ = some x0 ∧ w.cell? ⟨b, 1, none⟩ = some x1 ∧ w.cell? ⟨b, 2, none⟩ = some x2 ∧ w.cell? ⟨b, 3, none⟩ = some x3) ∧ (w.cell? ⟨b, 4, none⟩ = some x4 ∧ w.cell? ⟨b, 5, none⟩ = some x5 ∧ w.cell? ⟨b, 6, none⟩ = some x6 ∧ w.cell? ⟨b, 7, none⟩ = some x7) ∧ ∀ j, w.frozen? ⟨b, j, none⟩ = false := by
  refine ⟨⟨?_, ?_, ?_, ?_⟩, ⟨?_, ?_, ?_, ?_⟩, fun j => frozen_of_row w b j _ _ h⟩ <;> rw [cell_of_row w b _ _ _ _ h] <;> rfl

theorem at_range (bs : List UInt8) (i : Nat) : 0 ≤ at_ bs i ∧ at_ bs i ≤ 255 := by
  have := (bs.getD i 0).toNat_lt
  unfold at_
  omega
theorem three_at0 (w : World) (o1 o2 o3 : Obj) : (((w.alloc o1).alloc o2).alloc o3).drew.heap[w.heap.size]? = some o1 := by
  show (((w.alloc o1).alloc o2).alloc o3).heap[w.heap.size]? = some o1
  rw [Below.heap_alloc _ _ _ (by simp; omega), Below.heap_alloc _ _ _ (by simp), heap_alloc_new]
theorem three_at1 (w : World) (o1 o2 o3 : Obj) : (((w.alloc o1).alloc o2).alloc o3).drew.heap[w.heap.size + 1]? = some o2 := by
  show (((w.alloc o1).alloc o2).alloc o3).heap[w.heap.size + 1]? = some o2
  rw [Below.heap_alloc _ _ _ (by simp), show w.heap.size + 1 = (w.alloc o1).heap.size by simp, heap_alloc_new]
theorem three_at2 (w : World) (o1 o2 o3 : Obj) : (((w.alloc o1).alloc o2).alloc o3).drew.heap[w.heap.size + 1 + 1]? = some o3 := by
  show (((w.alloc o1).alloc o2).alloc o3).heap[w.heap.size + 1 + 1]? = some o3
  rw [show w.heap.size + 1 + 1 = ((w.alloc o1).alloc o2).heap.size by simp, heap_alloc_new]

theorem ByAt.later {w w' : World} {a : Option Addr} {bs : List UInt8} (h : ByAt w a bs) (hb : Below w.heap.size w w') : ByAt w' a bs := fun h0 => by
  obtain ⟨b, off, rfl, hc⟩ := h h0
  exact ⟨b, off, rfl, fun j x hx => (hb.cell (p := ⟨b, off + j, none⟩) (World.block_lt_of_cell? w _ (hc j x hx))).trans (hc j x hx)⟩
theorem ByAt.get {w : World} {b off : Nat} {bs : List UInt8} (hc : ∀ (j : Nat) (x : UInt8), bs[j]? = some x → w.cell? ⟨b, off + j, none⟩ = some (.int .u8 (x.toNat : Int))) (i : Nat) (hi : i < bs.length) : w.cell? ⟨b, off + i, none⟩ = some (.int .u8 (at_ bs i)) := by
  have := hc i bs[i] (List.getElem?_eq_getElem hi)
  rw [this]
  simp [at_, List.getD, List.getElem?_eq_getElem hi]

set_option maxRecDepth 100000 in
set_option maxHeartbeats 4000000 in
theorem read_any (a0 : Option Addr) (L cap : Nat) (bs : List UInt8) (w : World) (hb : ByAt w a0 bs) (hL : bs.length = L) (hcap : L ≤ cap) (hm : L ≤ maxLen) :
    Calls Tryz.prog 216 #[.slice a0 L cap] w (ReadRes w bs) := by
  unfold maxLen at hm
  by_cases h5 : (L : Int) < 5
  · have HN : Hid (readR bs = none) := by unfold readR; rw [if_pos (by omega)]; exact rfl
    go_enter Tryz.func216, Tryz.ntmps216
    go_wp2
    refine bodyPost_ret (v := .tuple #[.agg #[.int .i64 0, .int .i64 0, .int .i64 0, .string ⟨#[]⟩, .string ⟨#[]⟩, .string ⟨#[]⟩, .int .i64 0, .string ⟨#[]⟩], .bool false]) (by simp [results, Tryz.results216, go_sem]) rfl ?_
    exact ⟨(Below.refl _ _).alloc (Nat.le_refl _) _, 0, 0, 0, _, _, _, 0, _, false, rfl, .inl ⟨rfl, unhide HN⟩⟩
  · obtain ⟨b, off, rfl, hc⟩ := hb (by intro h; simp [h] at hL; omega)
    have c1 := ByAt.get hc 1 (by omega)
    have c2 := ByAt.get hc 2 (by omega)
    have c3 := ByAt.get hc 3 (by omega)
    have c4 := ByAt.get hc 4 (by omega)
    have hbl : b < w.heap.size := World.block_lt_of_cell? w _ c1
    obtain ⟨r1, r1'⟩ := at_range bs 1
    obtain ⟨r2, r2'⟩ := at_range bs 2
    obtain ⟨r3, r3'⟩ := at_range bs 3
    obtain ⟨r4, r4'⟩ := at_range bs 4
    obtain ⟨x1, hx1⟩ : ∃ x, x = at_ bs 1 := ⟨_, rfl⟩
    obtain ⟨x2, hx2⟩ : ∃ x, x = at_ bs 2 := ⟨_, rfl⟩
    obtain ⟨x3, hx3⟩ : ∃ x, x = at_ bs 3 := ⟨_, rfl⟩
    obtain ⟨x4, hx4⟩ : ∃ x, x = at_ bs 4 := ⟨_, rfl⟩
    rw [← hx1] at c1 r1 r1'
    rw [← hx2] at c2 r2 r2'
    rw [← hx3] at c3 r3 r3'
    rw [← hx4] at c4 r4 r4'
    have HX := hide (And.intro hx1 (And.intro hx2 (And.intro hx3 hx4)))
    clear hx1 hx2 hx3 hx4
    have HC := hide hc
    clear hc hb
    obtain ⟨W, HW⟩ : ∃ W : World, Hid (W = (((w.alloc (.cells #[.int .i64 0, .int .i64 0, .int .i64 0, .string ⟨#[]⟩, .string ⟨#[]⟩, .string ⟨#[]⟩, .int .i64 0, .string ⟨#[]⟩] 111)).alloc (.cells #[.int .i64 x1, .int .i64 x2, .int .i64 x3, .string ⟨#[]⟩, .string ⟨#[]⟩, .string ⟨#[]⟩, .int .i64 x4, .string ⟨#[]⟩] 111)).alloc (.cells #[.pointer (some ⟨w.heap.size + 1, 3, none⟩), .pointer (some ⟨w.heap.size + 1, 4, none⟩), .pointer (some ⟨w.heap.size + 1, 5, none⟩)] 166)).drew) := ⟨_, rfl⟩
    have HBW : Hid (Below w.heap.size w W) := by rw [HW.out]; exact ((((Below.refl _ _).alloc (Nat.le_refl _) _).alloc (by simp) _).alloc (by simp; omega) _).drew
    have HWR : Hid (W.heap[w.heap.size + 1]? = some (.cells #[.int .i64 x1, .int .i64 x2, .int .i64 x3, .string ⟨#[]⟩, .string ⟨#[]⟩, .string ⟨#[]⟩, .int .i64 x4, .string ⟨#[]⟩] 111 (0, 0))) := by rw [HW.out]; exact three_at1 w _ _ _
    have HWV : Hid (W.heap[w.heap.size]? = some (.cells #[.int .i64 0, .int .i64 0, .int .i64 0, .string ⟨#[]⟩, .string ⟨#[]⟩, .string ⟨#[]⟩, .int .i64 0, .string ⟨#[]⟩] 111 (0, 0))) := by rw [HW.out]; exact three_at0 w _ _ _
    have HWP : Hid (W.heap[w.heap.size + 1 + 1]? = some (.cells #[.pointer (some ⟨w.heap.size + 1, 3, none⟩), .pointer (some ⟨w.heap.size + 1, 4, none⟩), .pointer (some ⟨w.heap.size + 1, 5, none⟩)] 166 (0, 0))) := by rw [HW.out]; exact three_at2 w _ _ _
    have htk : ∀ A m c', m = L - 5 → m ≤ c' → (5 < L → A = ⟨b, off + 5, none⟩) → Calls Tryz.prog 227 #[.slice (some A) m c', .slice (some ⟨w.heap.size + 1 + 1, 0, none⟩) 3 3] W (TakeRes W (bs.drop 5) (w.heap.size + 1) (.int .i64 x1) (.int .i64 x2) (.int .i64 x3) (.int .i64 x4) (.string ⟨#[]⟩)) := fun A m c' hm' hc' hA => by
      have hlen : (bs.drop 5).length = m := by rw [List.length_drop, hL, hm']
      have h5l : bs.drop 5 ≠ [] → 5 < L := fun h => by
        rcases Nat.lt_or_ge 5 L with h' | h'
        · exact h'
        · exact absurd (List.drop_of_length_le (by omega)) h
      rw [← hlen]
      refine take_any (some A) c' (w.heap.size + 1) (w.heap.size + 1 + 1) (bs.drop 5) W ?_ (by omega) (by unfold maxLen; omega) (fun h a e => ?_) (by omega) (by rw [cell_of_row W _ 0 _ _ _ (unhide HWP)]; rfl) (by rw [cell_of_row W _ 1 _ _ _ (unhide HWP)]; rfl) (by rw [cell_of_row W _ 2 _ _ _ (unhide HWP)]; rfl) _ _ _ _ _ _ _ _ (unhide HWR)
      · refine ByAt.later (w := w) (fun h => ⟨b, off + 5, by rw [hA (h5l h)], fun j x hx => ?_⟩) (unhide HBW)
        rw [List.getElem?_drop] at hx
        rw [show off + 5 + j = off + (5 + j) by omega]
        exact (unhide HC) _ _ hx
      · cases e
        rw [hA (h5l h)]
        show b ≠ _
        omega
    have HTK := hide htk
    clear htk
    by_cases q5 : cap = 5
    · subst q5
      go_enter Tryz.func216, Tryz.ntmps216
      go_wp2_with fail
      go_region
      go_wp2_with fail
      rw [← HW.out]
      refine ((unhide HTK) ⟨b, off, none⟩ (0) (0) (by omega) (by omega) (by omega)).mono ?_
      rintro e w1 ⟨t0, t1, t2, ok, a1, n, c1', rfl, blk, kept, hres⟩
      have HV := hide ((kept.block (w.heap.size) (Array.getElem?_eq_some_iff.1 (unhide HWV)).1 (by simp)).trans (unhide HWV))
      obtain ⟨⟨y0, y1, y2, y3⟩, ⟨y4, y5, y6, y7⟩, _⟩ := eight blk
      obtain ⟨⟨z0, z1, z2, z3⟩, ⟨z4, z5, z6, z7⟩, fz⟩ := eight (unhide HV)
      have HK := hide kept
      clear kept c1 c2 c3 c4 blk
      rcases hres with ⟨rfl, hN⟩ | ⟨rfl, rest, hS, hn⟩
      · have HN : Hid (readR bs = none) := by unfold readR; rw [if_neg (by omega), hN]; exact rfl
        clear hN
        go_wp2
        generalize hw2 : (((((((w1.setCell ⟨w.heap.size, 0, none⟩ (.int .i64 x1)).setCell ⟨w.heap.size, 1, none⟩ (.int .i64 x2)).setCell ⟨w.heap.size, 2, none⟩ (.int .i64 x3)).setCell ⟨w.heap.size, 3, none⟩ (.string t0)).setCell ⟨w.heap.size, 4, none⟩ (.string t1)).setCell ⟨w.heap.size, 5, none⟩ (.string t2)).setCell ⟨w.heap.size, 6, none⟩ (.int .i64 x4)).setCell ⟨w.heap.size, 7, none⟩ (.string ⟨#[]⟩) = w2
        have hb2 := set8_blk (unhide HV) (.int .i64 x1) (.int .i64 x2) (.int .i64 x3) (.string t0) (.string t1) (.string t2) (.int .i64 x4) (.string ⟨#[]⟩)
        have hk2 := set8_kept w1 w.heap.size (.int .i64 x1) (.int .i64 x2) (.int .i64 x3) (.string t0) (.string t1) (.string t2) (.int .i64 x4) (.string ⟨#[]⟩)
        unfold set8 at hb2 hk2
        rw [hw2] at hb2 hk2
        obtain ⟨⟨q0, q1, q2, q3⟩, ⟨q4, q5, q6, q7⟩, _⟩ := eight hb2
        have bel : Below w.heap.size w w2 := ((unhide HBW).trans ((unhide HK).below (unhide HBW).size (by simp))).trans (hk2.below (by have := (unhide HBW).size; have := (unhide HK).size; omega) (by simp))
        refine bodyPost_ret (v := .tuple #[.agg #[.int .i64 x1, .int .i64 x2, .int .i64 x3, .string t0, .string t1, .string t2, .int .i64 x4, .string ⟨#[]⟩], .bool false]) (by simp [results, Tryz.results216, go_sem, q0, q1, q2, q3, q4, q5, q6, q7]) rfl ?_
        exact ⟨bel, _, _, _, _, _, _, _, _, false, rfl, .inl ⟨rfl, unhide HN⟩⟩
      · cases rest with
        | nil =>
          obtain rfl : n = 0 := hn
          have HS : Hid (readR bs = some ⟨x1, x2, ⟨x3, t0, t1, t2⟩, x4, ⟨#[]⟩⟩) := by unfold readR; rw [if_neg (by omega), hS, (unhide HX).1, (unhide HX).2.1, (unhide HX).2.2.1, (unhide HX).2.2.2]; exact rfl
          clear hS
          go_wp2
          generalize hw2 : (((((((w1.setCell ⟨w.heap.size, 0, none⟩ (.int .i64 x1)).setCell ⟨w.heap.size, 1, none⟩ (.int .i64 x2)).setCell ⟨w.heap.size, 2, none⟩ (.int .i64 x3)).setCell ⟨w.heap.size, 3, none⟩ (.string t0)).setCell ⟨w.heap.size, 4, none⟩ (.string t1)).setCell ⟨w.heap.size, 5, none⟩ (.string t2)).setCell ⟨w.heap.size, 6, none⟩ (.int .i64 x4)).setCell ⟨w.heap.size, 7, none⟩ (.string ⟨#[]⟩) = w2
          have hb2 := set8_blk (unhide HV) (.int .i64 x1) (.int .i64 x2) (.int .i64 x3) (.string t0) (.string t1) (.string t2) (.int .i64 x4) (.string ⟨#[]⟩)
          have hk2 := set8_kept w1 w.heap.size (.int .i64 x1) (.int .i64 x2) (.int .i64 x3) (.string t0) (.string t1) (.string t2) (.int .i64 x4) (.string ⟨#[]⟩)
          unfold set8 at hb2 hk2
          rw [hw2] at hb2 hk2
          obtain ⟨⟨q0, q1, q2, q3⟩, ⟨q4, q5, q6, q7⟩, _⟩ := eight hb2
          have bel : Below w.heap.size w w2 := ((unhide HBW).trans ((unhide HK).below (unhide HBW).size (by simp))).trans (hk2.below (by have := (unhide HBW).size; have := (unhide HK).size; omega) (by simp))
          refine bodyPost_ret (v := .tuple #[.agg #[.int .i64 x1, .int .i64 x2, .int .i64 x3, .string t0, .string t1, .string t2, .int .i64 x4, .string ⟨#[]⟩], .bool true]) (by simp [results, Tryz.results216, go_sem, q0, q1, q2, q3, q4, q5, q6, q7]) rfl ?_
          exact ⟨bel, _, _, _, _, _, _, _, _, true, rfl, .inr ⟨rfl, unhide HS⟩⟩
        | cons r rs =>
          obtain rfl : n = rs.length + 1 := hn
          have HN : Hid (readR bs = none) := by unfold readR; rw [if_neg (by omega), hS]; exact rfl
          have hn0 : ((rs.length : Int) + 1 == 0) = false := by simp; omega
          clear hS
          go_wp2
          generalize hw2 : (((((((w1.setCell ⟨w.heap.size, 0, none⟩ (.int .i64 x1)).setCell ⟨w.heap.size, 1, none⟩ (.int .i64 x2)).setCell ⟨w.heap.size, 2, none⟩ (.int .i64 x3)).setCell ⟨w.heap.size, 3, none⟩ (.string t0)).setCell ⟨w.heap.size, 4, none⟩ (.string t1)).setCell ⟨w.heap.size, 5, none⟩ (.string t2)).setCell ⟨w.heap.size, 6, none⟩ (.int .i64 x4)).setCell ⟨w.heap.size, 7, none⟩ (.string ⟨#[]⟩) = w2
          have hb2 := set8_blk (unhide HV) (.int .i64 x1) (.int .i64 x2) (.int .i64 x3) (.string t0) (.string t1) (.string t2) (.int .i64 x4) (.string ⟨#[]⟩)
          have hk2 := set8_kept w1 w.heap.size (.int .i64 x1) (.int .i64 x2) (.int .i64 x3) (.string t0) (.string t1) (.string t2) (.int .i64 x4) (.string ⟨#[]⟩)
          unfold set8 at hb2 hk2
          rw [hw2] at hb2 hk2
          obtain ⟨⟨q0, q1, q2, q3⟩, ⟨q4, q5, q6, q7⟩, _⟩ := eight hb2
          have bel : Below w.heap.size w w2 := ((unhide HBW).trans ((unhide HK).below (unhide HBW).size (by simp))).trans (hk2.below (by have := (unhide HBW).size; have := (unhide HK).size; omega) (by simp))
          refine bodyPost_ret (v := .tuple #[.agg #[.int .i64 x1, .int .i64 x2, .int .i64 x3, .string t0, .string t1, .string t2, .int .i64 x4, .string ⟨#[]⟩], .bool false]) (by simp [results, Tryz.results216, go_sem, q0, q1, q2, q3, q4, q5, q6, q7]) rfl ?_
          exact ⟨bel, _, _, _, _, _, _, _, _, false, rfl, .inl ⟨rfl, unhide HN⟩⟩
    · have q5' := q5
      go_enter Tryz.func216, Tryz.ntmps216
      go_wp2_with fail
      go_region
      go_wp2_with fail
      rw [← HW.out]
      refine ((unhide HTK) ⟨b, off + 5, none⟩ (L - 5) (cap - 5) (by omega) (by omega) (fun _ => rfl)).mono ?_
      rintro e w1 ⟨t0, t1, t2, ok, a1, n, c1', rfl, blk, kept, hres⟩
      have HV := hide ((kept.block (w.heap.size) (Array.getElem?_eq_some_iff.1 (unhide HWV)).1 (by simp)).trans (unhide HWV))
      obtain ⟨⟨y0, y1, y2, y3⟩, ⟨y4, y5, y6, y7⟩, _⟩ := eight blk
      obtain ⟨⟨z0, z1, z2, z3⟩, ⟨z4, z5, z6, z7⟩, fz⟩ := eight (unhide HV)
      have HK := hide kept
      clear kept c1 c2 c3 c4 blk
      rcases hres with ⟨rfl, hN⟩ | ⟨rfl, rest, hS, hn⟩
      · have HN : Hid (readR bs = none) := by unfold readR; rw [if_neg (by omega), hN]; exact rfl
        clear hN
        go_wp2
        generalize hw2 : (((((((w1.setCell ⟨w.heap.size, 0, none⟩ (.int .i64 x1)).setCell ⟨w.heap.size, 1, none⟩ (.int .i64 x2)).setCell ⟨w.heap.size, 2, none⟩ (.int .i64 x3)).setCell ⟨w.heap.size, 3, none⟩ (.string t0)).setCell ⟨w.heap.size, 4, none⟩ (.string t1)).setCell ⟨w.heap.size, 5, none⟩ (.string t2)).setCell ⟨w.heap.size, 6, none⟩ (.int .i64 x4)).setCell ⟨w.heap.size, 7, none⟩ (.string ⟨#[]⟩) = w2
        have hb2 := set8_blk (unhide HV) (.int .i64 x1) (.int .i64 x2) (.int .i64 x3) (.string t0) (.string t1) (.string t2) (.int .i64 x4) (.string ⟨#[]⟩)
        have hk2 := set8_kept w1 w.heap.size (.int .i64 x1) (.int .i64 x2) (.int .i64 x3) (.string t0) (.string t1) (.string t2) (.int .i64 x4) (.string ⟨#[]⟩)
        unfold set8 at hb2 hk2
        rw [hw2] at hb2 hk2
        obtain ⟨⟨q0, q1, q2, q3⟩, ⟨q4, q5, q6, q7⟩, _⟩ := eight hb2
        have bel : Below w.heap.size w w2 := ((unhide HBW).trans ((unhide HK).below (unhide HBW).size (by simp))).trans (hk2.below (by have := (unhide HBW).size; have := (unhide HK).size; omega) (by simp))
        refine bodyPost_ret (v := .tuple #[.agg #[.int .i64 x1, .int .i64 x2, .int .i64 x3, .string t0, .string t1, .string t2, .int .i64 x4, .string ⟨#[]⟩], .bool false]) (by simp [results, Tryz.results216, go_sem, q0, q1, q2, q3, q4, q5, q6, q7]) rfl ?_
        exact ⟨bel, _, _, _, _, _, _, _, _, false, rfl, .inl ⟨rfl, unhide HN⟩⟩
      · cases rest with
        | nil =>
          obtain rfl : n = 0 := hn
          have HS : Hid (readR bs = some ⟨x1, x2, ⟨x3, t0, t1, t2⟩, x4, ⟨#[]⟩⟩) := by unfold readR; rw [if_neg (by omega), hS, (unhide HX).1, (unhide HX).2.1, (unhide HX).2.2.1, (unhide HX).2.2.2]; exact rfl
          clear hS
          go_wp2
          generalize hw2 : (((((((w1.setCell ⟨w.heap.size, 0, none⟩ (.int .i64 x1)).setCell ⟨w.heap.size, 1, none⟩ (.int .i64 x2)).setCell ⟨w.heap.size, 2, none⟩ (.int .i64 x3)).setCell ⟨w.heap.size, 3, none⟩ (.string t0)).setCell ⟨w.heap.size, 4, none⟩ (.string t1)).setCell ⟨w.heap.size, 5, none⟩ (.string t2)).setCell ⟨w.heap.size, 6, none⟩ (.int .i64 x4)).setCell ⟨w.heap.size, 7, none⟩ (.string ⟨#[]⟩) = w2
          have hb2 := set8_blk (unhide HV) (.int .i64 x1) (.int .i64 x2) (.int .i64 x3) (.string t0) (.string t1) (.string t2) (.int .i64 x4) (.string ⟨#[]⟩)
          have hk2 := set8_kept w1 w.heap.size (.int .i64 x1) (.int .i64 x2) (.int .i64 x3) (.string t0) (.string t1) (.string t2) (.int .i64 x4) (.string ⟨#[]⟩)
          unfold set8 at hb2 hk2
          rw [hw2] at hb2 hk2
          obtain ⟨⟨q0, q1, q2, q3⟩, ⟨q4, q5, q6, q7⟩, _⟩ := eight hb2
          have bel : Below w.heap.size w w2 := ((unhide HBW).trans ((unhide HK).below (unhide HBW).size (by simp))).trans (hk2.below (by have := (unhide HBW).size; have := (unhide HK).size; omega) (by simp))
          refine bodyPost_ret (v := .tuple #[.agg #[.int .i64 x1, .int .i64 x2, .int .i64 x3, .string t0, .string t1, .string t2, .int .i64 x4, .string ⟨#[]⟩], .bool true]) (by simp [results, Tryz.results216, go_sem, q0, q1, q2, q3, q4, q5, q6, q7]) rfl ?_
          exact ⟨bel, _, _, _, _, _, _, _, _, true, rfl, .inr ⟨rfl, unhide HS⟩⟩
        | cons r rs =>
          obtain rfl : n = rs.length + 1 := hn
          have HN : Hid (readR bs = none) := by unfold readR; rw [if_neg (by omega), hS]; exact rfl
          have hn0 : ((rs.length : Int) + 1 == 0) = false := by simp; omega
          clear hS
          go_wp2
          generalize hw2 : (((((((w1.setCell ⟨w.heap.size, 0, none⟩ (.int .i64 x1)).setCell ⟨w.heap.size, 1, none⟩ (.int .i64 x2)).setCell ⟨w.heap.size, 2, none⟩ (.int .i64 x3)).setCell ⟨w.heap.size, 3, none⟩ (.string t0)).setCell ⟨w.heap.size, 4, none⟩ (.string t1)).setCell ⟨w.heap.size, 5, none⟩ (.string t2)).setCell ⟨w.heap.size, 6, none⟩ (.int .i64 x4)).setCell ⟨w.heap.size, 7, none⟩ (.string ⟨#[]⟩) = w2
          have hb2 := set8_blk (unhide HV) (.int .i64 x1) (.int .i64 x2) (.int .i64 x3) (.string t0) (.string t1) (.string t2) (.int .i64 x4) (.string ⟨#[]⟩)
          have hk2 := set8_kept w1 w.heap.size (.int .i64 x1) (.int .i64 x2) (.int .i64 x3) (.string t0) (.string t1) (.string t2) (.int .i64 x4) (.string ⟨#[]⟩)
          unfold set8 at hb2 hk2
          rw [hw2] at hb2 hk2
          obtain ⟨⟨q0, q1, q2, q3⟩, ⟨q4, q5, q6, q7⟩, _⟩ := eight hb2
          have bel : Below w.heap.size w w2 := ((unhide HBW).trans ((unhide HK).below (unhide HBW).size (by simp))).trans (hk2.below (by have := (unhide HBW).size; have := (unhide HK).size; omega) (by simp))
          refine bodyPost_ret (v := .tuple #[.agg #[.int .i64 x1, .int .i64 x2, .int .i64 x3, .string t0, .string t1, .string t2, .int .i64 x4, .string ⟨#[]⟩], .bool false]) (by simp [results, Tryz.results216, go_sem, q0, q1, q2, q3, q4, q5, q6, q7]) rfl ?_
          exact ⟨bel, _, _, _, _, _, _, _, _, false, rfl, .inl ⟨rfl, unhide HN⟩⟩

end Go.Proofs.YtffgolanmaenfacGreatDoor

namespace Go.Proofs.YtffgolanmaenfacGreatDoor
open Go.RowKit
set_option linter.unusedSimpArgs false
set_option linter.unusedVariables false

def zeroRec : ARec := ⟨0, 0, ⟨0, ⟨#[]⟩, ⟨#[]⟩, ⟨#[]⟩⟩, 0, ⟨#[]⟩⟩

/-- What is answered of bytes: a record, how many bytes it has, a code. -/
structure Dec where
  rcd : ARec
  n : Int
  code : Int

/-- The record with which bytes begin. -/
def decR (bs : List UInt8) : Dec :=
  match bs with
  | [] => ⟨zeroRec, 0, 8⟩
  | x :: xs =>
    if xs.length + 1 < x.toNat then ⟨zeroRec, 0, 8⟩
    else match readR ((x :: xs).take x.toNat) with
      | none => ⟨zeroRec, 0, 3⟩
      | some r => if recI r ≠ 0 then ⟨zeroRec, 0, recI r⟩ else ⟨r, (x.toNat : Int), 0⟩

def ARec.val (r : ARec) : Value := .agg #[.int .i64 r.client, .int .i64 r.no, .int .i64 r.call.kind, .string r.call.name, .string r.call.dst, .string r.call.text, .int .i64 r.code, .string r.ans]

def DecRes (w : World) (d : Dec) (e : Ending) (w' : World) : Prop :=
  Below w.heap.size w w' ∧ e = .returned (.tuple #[d.rcd.val, .int .i64 d.n, .int .i64 d.code])

theorem takeT_sizes (k : Nat) (bs : List UInt8) (ts : List ByteArray) (r : List UInt8) (h : takeT k bs = some (ts, r)) : ∀ t, t ∈ ts → t.size ≤ 255 := by
  induction k generalizing bs ts r with
  | zero => simp [takeT] at h; obtain ⟨rfl, _⟩ := h; simp
  | succ k ih =>
    cases bs with
    | nil => simp [takeT] at h
    | cons x xs =>
      rw [takeT] at h
      split at h
      · cases h2 : takeT k (xs.drop x.toNat) with
        | none => rw [h2] at h; cases h
        | some p =>
          rw [h2] at h
          simp at h
          obtain ⟨rfl, _⟩ := h
          intro t ht
          rcases List.mem_cons.1 ht with rfl | ht
          · have := x.toNat_lt
            show (xs.take x.toNat).toArray.size ≤ 255
            simp
            omega
          · exact ih _ _ _ h2 t ht
      · cases h

theorem readR_sizes {bs : List UInt8} {r : ARec} (h : readR bs = some r) : r.call.name.size ≤ 255 ∧ r.call.dst.size ≤ 255 ∧ r.call.text.size ≤ 255 ∧ r.ans = ⟨#[]⟩ := by
  unfold readR at h
  split at h
  · cases h
  · split at h
    · rename_i a b t h3
      have hs := takeT_sizes _ _ _ _ h3
      simp at h
      subst h
      exact ⟨hs a (by simp), hs b (by simp), hs t (by simp), rfl⟩
    · cases h

set_option maxRecDepth 100000 in
set_option maxHeartbeats 4000000 in
theorem Decode_any (a0 : Option Addr) (L cap : Nat) (bs : List UInt8) (w : World) (hb : ByAt w a0 bs) (hL : bs.length = L) (hcap : L ≤ cap) (hm : L ≤ maxLen) :
    Calls Tryz.prog 201 #[.slice a0 L cap] w (DecRes w (decR bs)) := by
  unfold maxLen at hm
  cases bs with
  | nil =>
    obtain rfl : L = 0 := hL.symm
    go_enter Tryz.func201, Tryz.ntmps201
    go_wp2
    refine bodyPost_ret (v := .tuple #[zeroRec.val, .int .i64 0, .int .i64 8]) (by simp [results, Tryz.results201, go_sem, zeroRec, ARec.val]) rfl ?_
    exact ⟨(Below.refl _ _).alloc (Nat.le_refl _) _, rfl⟩
  | cons x xs =>
    obtain ⟨b, off, rfl, hc⟩ := hb (by simp)
    have c0 : w.cell? ⟨b, off, none⟩ = some (.int .u8 (x.toNat : Int)) := hc 0 x rfl
    have hbl : b < w.heap.size := World.block_lt_of_cell? w _ c0
    have hX2 : x.toNat ≤ 255 := by have := x.toNat_lt; omega
    obtain ⟨M, rfl⟩ : ∃ M, L = M + 1 := ⟨xs.length, hL.symm⟩
    have hM : xs.length = M := by simpa using hL
    obtain ⟨X, hX⟩ : ∃ X, x.toNat = X := ⟨_, rfl⟩
    obtain ⟨dr, hdr⟩ : ∃ d, d = decR (x :: xs) := ⟨_, rfl⟩
    rw [← hdr]
    have hM0 : ((M : Int) + 1 == 0) = false := by simp; omega
    rw [hX] at c0 hX2
    by_cases h1 : M + 1 < X
    · have hd8 : dr = ⟨zeroRec, 0, 8⟩ := by rw [hdr, decR, if_pos (by omega)]
      have HD := hide hd8
      have h1i : (M : Int) + 1 < (X : Int) := by omega
      clear hb hc hdr hd8
      go_enter Tryz.func201, Tryz.ntmps201
      go_wp2
      refine bodyPost_ret (v := .tuple #[zeroRec.val, .int .i64 0, .int .i64 8]) (by simp [results, Tryz.results201, go_sem, zeroRec, ARec.val]) rfl ?_
      rw [HD.out]
      exact ⟨(Below.refl _ _).alloc (Nat.le_refl _) _, rfl⟩
    · have h1i : ¬ ((M : Int) + 1 < (X : Int)) := by omega
      have hrd := fun (W : World) (hW : Below w.heap.size w W) => read_any (some ⟨b, off, none⟩) X cap ((x :: xs).take X) W (fun _ => ⟨b, off, rfl, fun j y hy => by
          have hy' : (x :: xs)[j]? = some y := by
            rw [List.getElem?_take] at hy
            split at hy
            · exact hy
            · cases hy
          have := hc j y hy'
          exact (hW.cell (p := ⟨b, off + j, none⟩) hbl).trans this⟩) (by rw [List.length_take, List.length_cons]; omega) (by omega) (by unfold maxLen; omega)
      have HD : Hid (dr = (match readR ((x :: xs).take X) with
        | none => ⟨zeroRec, 0, 3⟩
        | some r => if recI r ≠ 0 then ⟨zeroRec, 0, recI r⟩ else ⟨r, (X : Int), 0⟩)) := by
        rw [hdr, decR, if_neg (by omega), hX]; exact rfl
      have HRD := hide hrd
      clear hb hc hdr hrd
      go_enter Tryz.func201, Tryz.ntmps201
      go_wp2_with fail
      have HBW : Hid (Below w.heap.size w (w.alloc (.cells #[.int .i64 0, .int .i64 0, .int .i64 0, .string ⟨#[]⟩, .string ⟨#[]⟩, .string ⟨#[]⟩, .int .i64 0, .string ⟨#[]⟩] 111))) := (Below.refl _ _).alloc (Nat.le_refl _) _
      have HV : Hid ((w.alloc (.cells #[.int .i64 0, .int .i64 0, .int .i64 0, .string ⟨#[]⟩, .string ⟨#[]⟩, .string ⟨#[]⟩, .int .i64 0, .string ⟨#[]⟩] 111)).heap[w.heap.size]? = some (.cells #[.int .i64 0, .int .i64 0, .int .i64 0, .string ⟨#[]⟩, .string ⟨#[]⟩, .string ⟨#[]⟩, .int .i64 0, .string ⟨#[]⟩] 111 (0, 0))) := heap_alloc_new w _
      have hzW : (w.alloc (.cells #[.int .i64 0, .int .i64 0, .int .i64 0, .string ⟨#[]⟩, .string ⟨#[]⟩, .string ⟨#[]⟩, .int .i64 0, .string ⟨#[]⟩] 111)).heap.size = w.heap.size + 1 := by simp
      refine ((unhide HRD) _ (unhide HBW)).mono ?_
      rintro e w1 ⟨bel1, rc, rn, rk, ra, rb, rt, rdd, ru, ok, rfl, hres⟩
      generalize w.alloc (.cells #[.int .i64 0, .int .i64 0, .int .i64 0, .string ⟨#[]⟩, .string ⟨#[]⟩, .string ⟨#[]⟩, .int .i64 0, .string ⟨#[]⟩] 111) = W at bel1 HBW HV hzW
      have HV1 := hide ((bel1.block w.heap.size (by omega)).trans (unhide HV))
      have HB1 := hide ((unhide HBW).trans (bel1.mono (by omega)))
      have hz1 : w.heap.size < w1.heap.size := by have := bel1.size; omega
      obtain ⟨⟨z0, z1, z2, z3⟩, ⟨z4, z5, z6, z7⟩, fz⟩ := eight (unhide HV1)
      clear bel1 c0
      rcases hres with ⟨rfl, hN⟩ | ⟨rfl, hS⟩
      · have HDN : Hid (dr = ⟨zeroRec, 0, 3⟩) := by rw [HD.out, hN]; exact rfl
        clear hN
        go_wp2
        have hb8 := set8_blk (unhide HV1) (.int .i64 0) (.int .i64 0) (.int .i64 0) (.string ⟨#[]⟩) (.string ⟨#[]⟩) (.string ⟨#[]⟩) (.int .i64 0) (.string ⟨#[]⟩)
        have hk8 := set8_kept w1 w.heap.size (.int .i64 0) (.int .i64 0) (.int .i64 0) (.string ⟨#[]⟩) (.string ⟨#[]⟩) (.string ⟨#[]⟩) (.int .i64 0) (.string ⟨#[]⟩)
        unfold set8 at hb8 hk8
        replace hb8 := (Below.heap_alloc _ (.cells #[.int .i64 rc, .int .i64 rn, .int .i64 rk, .string ra, .string rb, .string rt, .int .i64 rdd, .string ru] 111) w.heap.size (Array.getElem?_eq_some_iff.1 hb8).1).trans hb8
        replace hk8 := hk8.trans (Kept.of_below (own := []) ((Below.refl _ _).alloc (Nat.le_refl _) (.cells #[.int .i64 rc, .int .i64 rn, .int .i64 rk, .string ra, .string rb, .string rt, .int .i64 rdd, .string ru] 111))) (by simp)
        generalize hw8 : (((((((((w1.setCell ⟨w.heap.size, 0, none⟩ (.int .i64 0)).setCell ⟨w.heap.size, 1, none⟩ (.int .i64 0)).setCell ⟨w.heap.size, 2, none⟩ (.int .i64 0)).setCell ⟨w.heap.size, 3, none⟩ (.string ⟨#[]⟩)).setCell ⟨w.heap.size, 4, none⟩ (.string ⟨#[]⟩)).setCell ⟨w.heap.size, 5, none⟩ (.string ⟨#[]⟩)).setCell ⟨w.heap.size, 6, none⟩ (.int .i64 0)).setCell ⟨w.heap.size, 7, none⟩ (.string ⟨#[]⟩)).alloc (.cells #[.int .i64 rc, .int .i64 rn, .int .i64 rk, .string ra, .string rb, .string rt, .int .i64 rdd, .string ru] 111)) = w8 at hb8 hk8 ⊢
        obtain ⟨⟨q0, q1, q2, q3⟩, ⟨q4, q5, q6, q7⟩, _⟩ := eight hb8
        have bel : Below w.heap.size w w8 := (unhide HB1).trans (hk8.below (by have := (unhide HB1).size; omega) (by simp))
        refine bodyPost_ret (v := .tuple #[.agg #[.int .i64 0, .int .i64 0, .int .i64 0, .string ⟨#[]⟩, .string ⟨#[]⟩, .string ⟨#[]⟩, .int .i64 0, .string ⟨#[]⟩], .int .i64 0, .int .i64 3]) (by simp [results, Tryz.results201, go_sem, q0, q1, q2, q3, q4, q5, q6, q7]) rfl ?_
        rw [HDN.out]
        exact ⟨bel, rfl⟩
      · obtain ⟨s1, s2, s3, hu⟩ := readR_sizes hS
        dsimp only at s1 s2 s3 hu
        have hck := fun W => cCheck_any rc rn rk ra rb rt rdd ru W (by unfold maxLen; omega) (by unfold maxLen; omega) (by unfold maxLen; omega)
        rw [hS] at HD
        have HD2 : Hid (dr = if recI ⟨rc, rn, ⟨rk, ra, rb, rt⟩, rdd, ru⟩ ≠ 0 then ⟨zeroRec, 0, recI ⟨rc, rn, ⟨rk, ra, rb, rt⟩, rdd, ru⟩⟩ else ⟨⟨rc, rn, ⟨rk, ra, rb, rt⟩, rdd, ru⟩, (X : Int), 0⟩) := unhide HD
        generalize recI ⟨rc, rn, ⟨rk, ra, rb, rt⟩, rdd, ru⟩ = code at HD2 hck
        have HCK := hide hck
        clear hS HD hck s1 s2 s3 hu
        go_wp2_with fail
        refine ((unhide HCK) _).mono ?_
        rintro e w2 ⟨rfl, bel2⟩
        have hz2 : w1.heap.size + 1 ≤ w2.heap.size := by have := bel2.size; simp at this; omega
        have HR2 := hide ((bel2.block w1.heap.size (by simp)).trans (heap_alloc_new w1 (.cells #[.int .i64 rc, .int .i64 rn, .int .i64 rk, .string ra, .string rb, .string rt, .int .i64 rdd, .string ru] 111)))
        have HV2 := hide ((bel2.block w.heap.size (by simp; omega)).trans ((Below.heap_alloc w1 _ w.heap.size hz1).trans (unhide HV1)))
        have HB2 := hide (((unhide HB1).alloc (by omega) (.cells #[.int .i64 rc, .int .i64 rn, .int .i64 rk, .string ra, .string rb, .string rt, .int .i64 rdd, .string ru] 111)).trans (bel2.mono (by simp; omega)))
        clear bel2 z0 z1 z2 z3 z4 z5 z6 z7 fz
        obtain ⟨⟨z0, z1, z2, z3⟩, ⟨z4, z5, z6, z7⟩, fz⟩ := eight (unhide HV2)
        obtain ⟨⟨y0, y1, y2, y3⟩, ⟨y4, y5, y6, y7⟩, _⟩ := eight (unhide HR2)
        by_cases hcode : code = 0
        · subst hcode
          have HDN : Hid (dr = ⟨⟨rc, rn, ⟨rk, ra, rb, rt⟩, rdd, ru⟩, (X : Int), 0⟩) := by rw [HD2.out, if_neg (by simp)]; exact rfl
          go_wp2
          have hb8 := set8_blk (unhide HV2) (.int .i64 rc) (.int .i64 rn) (.int .i64 rk) (.string ra) (.string rb) (.string rt) (.int .i64 rdd) (.string ru)
          have hk8 := set8_kept w2 w.heap.size (.int .i64 rc) (.int .i64 rn) (.int .i64 rk) (.string ra) (.string rb) (.string rt) (.int .i64 rdd) (.string ru)
          unfold set8 at hb8 hk8
          generalize hw8 : ((((((((w2.setCell ⟨w.heap.size, 0, none⟩ (.int .i64 rc)).setCell ⟨w.heap.size, 1, none⟩ (.int .i64 rn)).setCell ⟨w.heap.size, 2, none⟩ (.int .i64 rk)).setCell ⟨w.heap.size, 3, none⟩ (.string ra)).setCell ⟨w.heap.size, 4, none⟩ (.string rb)).setCell ⟨w.heap.size, 5, none⟩ (.string rt)).setCell ⟨w.heap.size, 6, none⟩ (.int .i64 rdd)).setCell ⟨w.heap.size, 7, none⟩ (.string ru)) = w8 at hb8 hk8 ⊢
          obtain ⟨⟨q0, q1, q2, q3⟩, ⟨q4, q5, q6, q7⟩, _⟩ := eight hb8
          have bel : Below w.heap.size w w8 := (unhide HB2).trans (hk8.below (by have := (unhide HB2).size; omega) (by simp))
          refine bodyPost_ret (v := .tuple #[.agg #[.int .i64 rc, .int .i64 rn, .int .i64 rk, .string ra, .string rb, .string rt, .int .i64 rdd, .string ru], .int .i64 (X : Int), .int .i64 0]) (by simp [results, Tryz.results201, go_sem, q0, q1, q2, q3, q4, q5, q6, q7]) rfl ?_
          rw [HDN.out]
          exact ⟨bel, rfl⟩
        · have HDN : Hid (dr = ⟨zeroRec, 0, code⟩) := by rw [HD2.out, if_pos hcode]; exact rfl
          go_wp2
          have hb8 := set8_blk (unhide HV2) (.int .i64 0) (.int .i64 0) (.int .i64 0) (.string ⟨#[]⟩) (.string ⟨#[]⟩) (.string ⟨#[]⟩) (.int .i64 0) (.string ⟨#[]⟩)
          have hk8 := set8_kept w2 w.heap.size (.int .i64 0) (.int .i64 0) (.int .i64 0) (.string ⟨#[]⟩) (.string ⟨#[]⟩) (.string ⟨#[]⟩) (.int .i64 0) (.string ⟨#[]⟩)
          unfold set8 at hb8 hk8
          generalize hw8 : ((((((((w2.setCell ⟨w.heap.size, 0, none⟩ (.int .i64 0)).setCell ⟨w.heap.size, 1, none⟩ (.int .i64 0)).setCell ⟨w.heap.size, 2, none⟩ (.int .i64 0)).setCell ⟨w.heap.size, 3, none⟩ (.string ⟨#[]⟩)).setCell ⟨w.heap.size, 4, none⟩ (.string ⟨#[]⟩)).setCell ⟨w.heap.size, 5, none⟩ (.string ⟨#[]⟩)).setCell ⟨w.heap.size, 6, none⟩ (.int .i64 0)).setCell ⟨w.heap.size, 7, none⟩ (.string ⟨#[]⟩)) = w8 at hb8 hk8 ⊢
          obtain ⟨⟨q0, q1, q2, q3⟩, ⟨q4, q5, q6, q7⟩, _⟩ := eight hb8
          have bel : Below w.heap.size w w8 := (unhide HB2).trans (hk8.below (by have := (unhide HB2).size; omega) (by simp))
          refine bodyPost_ret (v := .tuple #[.agg #[.int .i64 0, .int .i64 0, .int .i64 0, .string ⟨#[]⟩, .string ⟨#[]⟩, .string ⟨#[]⟩, .int .i64 0, .string ⟨#[]⟩], .int .i64 0, .int .i64 code]) (by simp [results, Tryz.results201, go_sem, q0, q1, q2, q3, q4, q5, q6, q7]) rfl ?_
          rw [HDN.out]
          exact ⟨bel, rfl⟩

end Go.Proofs.YtffgolanmaenfacGreatDoor

namespace Go.Proofs.YtffgolanmaenfacGreatDoor
open Go.RowKit
set_option linter.unusedSimpArgs false
set_option linter.unusedVariables false

def rcells (r : ARec) : List Value := [.int .i64 r.client, .int .i64 r.no, .int .i64 r.call.kind, .string r.call.name, .string r.call.dst, .string r.call.text, .int .i64 r.code, .string r.ans]

/-- The records with which bytes begin, and how many bytes these are. -/
def allF : Nat → List UInt8 → List ARec × Nat
  | 0, _ => ([], 0)
  | f + 1, bs => if (decR bs).code ≠ 0 then ([], 0) else ((decR bs).rcd :: (allF f (bs.drop (decR bs).n.toNat)).1, (decR bs).n.toNat + (allF f (bs.drop (decR bs).n.toNat)).2)
def allR (bs : List UInt8) : List ARec × Nat := allF (bs.length + 1) bs

theorem readR_long {bs : List UInt8} {r : ARec} (h : readR bs = some r) : 5 ≤ bs.length := by
  unfold readR at h
  split at h
  · cases h
  · omega

theorem decR_n {bs : List UInt8} (h : (decR bs).code = 0) : 5 ≤ (decR bs).n.toNat ∧ (decR bs).n.toNat ≤ bs.length ∧ 0 ≤ (decR bs).n := by
  cases bs with
  | nil => simp [decR] at h
  | cons x xs =>
    rw [decR] at h ⊢
    split at h
    · simp at h
    · rename_i h1
      rw [if_neg h1]
      cases hr : readR ((x :: xs).take x.toNat) with
      | none => rw [hr] at h; simp at h
      | some r =>
        rw [hr] at h
        simp only at h ⊢
        split at h
        · rename_i h2; exact absurd h h2
        · rename_i h2
          rw [if_neg h2]
          have h3 := readR_long hr
          rw [List.length_take, List.length_cons] at h3
          simp only [List.length_cons]
          omega

theorem allF_fuel : ∀ (f g : Nat) (bs : List UInt8), bs.length < f → bs.length < g → allF f bs = allF g bs
  | 0, _, _, h, _ => by omega
  | _ + 1, 0, _, _, h => by omega
  | f + 1, g + 1, bs, hf, hg => by
    rw [allF, allF]
    by_cases h : (decR bs).code ≠ 0
    · rw [if_pos h, if_pos h]
    · rw [if_neg h, if_neg h]
      have hn := decR_n (by simpa using h)
      have := allF_fuel f g (bs.drop (decR bs).n.toNat) (by rw [List.length_drop]; omega) (by rw [List.length_drop]; omega)
      rw [this]

theorem allR_stop {bs : List UInt8} (h : (decR bs).code ≠ 0) : allR bs = ([], 0) := by
  rw [allR, allF, if_pos h]
theorem allR_step {bs : List UInt8} (h : (decR bs).code = 0) : allR bs = ((decR bs).rcd :: (allR (bs.drop (decR bs).n.toNat)).1, (decR bs).n.toNat + (allR (bs.drop (decR bs).n.toNat)).2) := by
  have hn := decR_n h
  rw [allR, allF, if_neg (by simpa using h)]
  unfold allR
  rw [allF_fuel bs.length ((bs.drop (decR bs).n.toNat).length + 1) (bs.drop (decR bs).n.toNat) (by rw [List.length_drop]; omega) (by omega)]

/-- What All's loop has done. -/
structure AllAt (bs : List UInt8) (at' : Nat) (rs : List ARec) : Prop where
  le : at' ≤ bs.length
  few : rs.length ≤ at'
  all : allR bs = (rs ++ (allR (bs.drop at')).1, at' + (allR (bs.drop at')).2)
theorem AllAt.start (bs : List UInt8) : AllAt bs 0 [] := ⟨by omega, by simp, by simp⟩
theorem AllAt.step {bs : List UInt8} {k : Nat} {rs : List ARec} (h : AllAt bs k rs) (hd : (decR (bs.drop k)).code = 0) : AllAt bs (k + (decR (bs.drop k)).n.toNat) (rs ++ [(decR (bs.drop k)).rcd]) := by
  have hn := decR_n hd
  rw [List.length_drop] at hn
  have h1 := h.le
  have h2 := h.few
  refine ⟨by omega, by simp; omega, ?_⟩
  rw [h.all, allR_step hd, List.drop_drop]
  simp
  omega
theorem AllAt.done {bs : List UInt8} {k : Nat} {rs : List ARec} (h : AllAt bs k rs) (hd : (decR (bs.drop k)).code ≠ 0) : allR bs = (rs, k) := by
  rw [h.all, allR_stop hd]; simp

theorem info111 : (Tryz.prog.info? 111).map (fun i => (i.zero, i.size, i.bytes)) = some (some (.agg #[.int .i64 0, .int .i64 0, .int .i64 0, .string ⟨#[]⟩, .string ⟨#[]⟩, .string ⟨#[]⟩, .int .i64 0, .string ⟨#[]⟩]), 8, 96) := by kernel_rfl

def AllRes (w : World) (p : List ARec × Nat) (e : Ending) (w' : World) : Prop :=
  ∃ a c, e = .returned (.tuple #[.slice a p.1.length c, .int .i64 (p.2 : Int)]) ∧ w'.ownsRow w.heap.size 111 8 (.slice a p.1.length c) p.1.length (p.1.flatMap rcells) ∧ Below w.heap.size w w'

theorem flat_snoc (rs : List ARec) (r : ARec) : (rs ++ [r]).flatMap rcells = rs.flatMap rcells ++ rcells r := by simp
theorem allR_nil : allR [] = ([], 0) := allR_stop (by simp [decR])

set_option maxRecDepth 100000 in
set_option maxHeartbeats 4000000 in
theorem All_none (w : World) : Calls Tryz.prog 175 #[.slice none 0 0] w (AllRes w (allR [])) := by
  rw [allR_nil]
  have HD := hide (fun W => Decode_any none 0 0 [] W (fun h => absurd rfl h) rfl (by omega) (by unfold maxLen; omega))
  go_enter Tryz.func175, Tryz.ntmps175
  go_wp2
  go_loopw [4, 5, 6, 7, 8] (fun v i _ _ _ wr => v = .slice none 0 0 ∧ i = .int .i64 0 ∧ wr = w) (fun _ _ _ _ _ _ => 0)
  case atStart => exact ⟨rfl, rfl, rfl⟩
  case round =>
    obtain ⟨rfl, rfl, rfl⟩ := hrel
    go_wp2_with fail
    refine ((unhide HD) _).mono ?_
    rintro e w1 ⟨b1, rfl⟩
    have HB := hide b1
    clear b1
    simp only [decR, ARec.val, zeroRec]
    go_wp2
    go_ret2
    exact ⟨none, 0, rfl, World.ownsRow_nil _ _ _ _, (unhide HB).alloc (unhide HB).size _⟩

set_option maxRecDepth 100000 in
set_option maxHeartbeats 4000000 in
theorem All_empty (A : Addr) (cap : Nat) (w : World) : Calls Tryz.prog 175 #[.slice (some A) 0 cap] w (AllRes w (allR [])) := by
  rw [allR_nil]
  have HD := hide (fun W B c => Decode_any (some B) 0 c [] W (fun h => absurd rfl h) rfl (by omega) (by unfold maxLen; omega))
  by_cases hc : cap = 0
  · subst hc
    go_enter Tryz.func175, Tryz.ntmps175
    go_wp2
    go_loopw [4, 5, 6, 7, 8] (fun v i _ _ _ wr => v = .slice none 0 0 ∧ i = .int .i64 0 ∧ wr = w) (fun _ _ _ _ _ _ => 0)
    case atStart => exact ⟨rfl, rfl, rfl⟩
    case round =>
      obtain ⟨rfl, rfl, rfl⟩ := hrel
      go_wp2_with fail
      refine ((unhide HD) _ _ _).mono ?_
      rintro e w1 ⟨b1, rfl⟩
      have HB := hide b1
      clear b1
      simp only [decR, ARec.val, zeroRec]
      go_wp2
      go_ret2
      exact ⟨none, 0, rfl, World.ownsRow_nil _ _ _ _, (unhide HB).alloc (unhide HB).size _⟩
  · go_enter Tryz.func175, Tryz.ntmps175
    go_wp2
    go_loopw [4, 5, 6, 7, 8] (fun v i _ _ _ wr => v = .slice none 0 0 ∧ i = .int .i64 0 ∧ wr = w) (fun _ _ _ _ _ _ => 0)
    case atStart => exact ⟨rfl, rfl, rfl⟩
    case round =>
      obtain ⟨rfl, rfl, rfl⟩ := hrel
      go_wp2_with fail
      refine ((unhide HD) _ _ _).mono ?_
      rintro e w1 ⟨b1, rfl⟩
      have HB := hide b1
      clear b1
      simp only [decR, ARec.val, zeroRec]
      go_wp2
      go_ret2
      exact ⟨none, 0, rfl, World.ownsRow_nil _ _ _ _, (unhide HB).alloc (unhide HB).size _⟩

end Go.Proofs.YtffgolanmaenfacGreatDoor

namespace Go.Proofs.YtffgolanmaenfacGreatDoor
open Go.RowKit
set_option linter.unusedSimpArgs false
set_option linter.unusedVariables false

set_option maxRecDepth 100000 in
set_option maxHeartbeats 4000000 in
theorem All_some (b off L cap : Nat) (bs : List UInt8) (w : World) (hc : ∀ (j : Nat) (x : UInt8), bs[j]? = some x → w.cell? ⟨b, off + j, none⟩ = some (.int .u8 (x.toNat : Int))) (hbl : b < w.heap.size) (hL : bs.length = L) (hcap : L ≤ cap) (hm : L ≤ 1000000) :
    Calls Tryz.prog 175 #[.slice (some ⟨b, off, none⟩) L cap] w (AllRes w (allR bs)) := by
  obtain ⟨i0, hi0, hz0, hz1, hz2⟩ := info_parts info111
  have HD : Hid (∀ W k A c', Below w.heap.size w W → k ≤ L → L - k ≤ c' → (k < L → A = ⟨b, off + k, none⟩) → Calls Tryz.prog 201 #[.slice (some A) (L - k) c'] W (DecRes W (decR (bs.drop k)))) := fun W k A c' hW hk hcc hA => by
    refine Decode_any (some A) (L - k) c' (bs.drop k) W (fun h => ?_) (by rw [List.length_drop, hL]) hcc (by unfold maxLen; omega)
    have hlt : k < L := by
      rcases Nat.lt_or_ge k L with h' | h'
      · exact h'
      · exact absurd (List.drop_of_length_le (by omega)) h
    refine ⟨b, off + k, by rw [hA hlt], fun j x hx => ?_⟩
    rw [List.getElem?_drop] at hx
    have := hc (k + j) x hx
    rw [show off + k + j = off + (k + j) by omega]
    exact (hW.cell (p := ⟨b, off + (k + j), none⟩) hbl).trans this
  have HL := hide hL
  clear hc hL
  go_enter Tryz.func175, Tryz.ntmps175
  go_wp2
  go_loopw [4, 5, 6, 7, 8] (fun v i _ _ _ wr => ∃ (k m : Nat) (rs : List ARec), k ≤ L ∧ m ≤ k ∧ i = .int .i64 (k : Int) ∧ Hid (∃ a c, v = .slice a m c) ∧ Hid (rs.length = m) ∧ Hid (AllAt bs k rs) ∧ Hid (Below w.heap.size w wr) ∧ Hid (wr.ownsRow w.heap.size 111 8 v m (rs.flatMap rcells))) (fun _ i _ _ _ _ => L - (intOf i).toNat)
  case atStart => exact ⟨0, 0, [], Nat.zero_le _, Nat.zero_le _, rfl, ⟨none, 0, rfl⟩, rfl, AllAt.start bs, Below.refl _ _, World.ownsRow_nil _ _ _ _⟩
  case round =>
    obtain ⟨k, m, rs, hk, hmk, rfl, ⟨va, vc, rfl⟩, HM, HA, HB, HO⟩ := hrel
    obtain ⟨dd, hdd⟩ : ∃ d, d = decR (bs.drop k) := ⟨_, rfl⟩
    have HDD := hide hdd
    have HN : Hid (dd.code = 0 → 5 ≤ dd.n.toNat ∧ dd.n.toNat ≤ L - k ∧ 0 ≤ dd.n) := fun h => by
      have hx := unhide HL
      rw [hdd] at h ⊢
      have h2 := decR_n h
      rw [List.length_drop, hx] at h2
      exact h2
    have HAS : Hid (dd.code = 0 → AllAt bs (k + dd.n.toNat) (rs ++ [dd.rcd])) := fun h => by rw [hdd] at h ⊢; exact (unhide HA).step h
    have HAD : Hid (dd.code ≠ 0 → allR bs = (rs, k)) := fun h => by rw [hdd] at h; exact (unhide HA).done h
    have HC : Hid (∀ A c', L - k ≤ c' → (k < L → A = ⟨b, off + k, none⟩) → Calls Tryz.prog 201 #[.slice (some A) (L - k) c'] wr (DecRes wr dd)) := fun A c' h1 h2 => by rw [hdd]; exact (unhide HD) wr k A c' (unhide HB) hk h1 h2
    clear hdd
    obtain ⟨⟨rc, rn, ⟨rk, ra, rb, rt⟩, rdd, ru⟩, dn, dcode⟩ := dd
    dsimp only at HN HAS HAD
    by_cases q1 : cap = k
    · subst q1
      obtain rfl : L = cap := by omega
      have hd0 : dcode ≠ 0 := fun h => by have := (unhide HN) h; omega
      go_wp2_with fail
      have HCC := hide ((unhide HC) ⟨b, off, none⟩ 0 (by omega) (by omega))
      rw [Nat.sub_self] at HCC
      refine (unhide HCC).mono ?_
      rintro e w1 ⟨b1, rfl⟩
      have HB1 := hide ((unhide HB).trans (b1.mono (unhide HB).size))
      have HO1 := hide (ownsRow_same (unhide HO) (fun j hj => b1.block j ((unhide HO).lt j hj).2))
      clear b1
      simp only [ARec.val]
      go_wp2
      go_ret2
      rw [(unhide HAD) hd0]
      exact ⟨va, vc, by rw [HM.out]; exact rfl, by rw [HM.out]; exact (unhide HO1).alloc _, (unhide HB1).alloc (unhide HB1).size _⟩
    · go_wp2_with fail
      refine ((unhide HC) ⟨b, off + k, none⟩ (cap - k) (by omega) (fun _ => rfl)).mono ?_
      rintro e w1 ⟨b1, rfl⟩
      have HB1 := hide ((unhide HB).trans (b1.mono (unhide HB).size))
      have HO1 := hide (ownsRow_same (unhide HO) (fun j hj => b1.block j ((unhide HO).lt j hj).2))
      have hz1' : w.heap.size ≤ w1.heap.size := (unhide HB1).size
      clear b1
      simp only [ARec.val]
      by_cases hcode : dcode = 0
      · subst hcode
        obtain ⟨n5, nl, n0⟩ := (unhide HN) rfl
        have HSTEP := hide ((unhide HAS) rfl)
        have hwr : IntKind.i64.wrap ((k : Int) + dn) = (k : Int) + dn := by rw [IntKind.wrap_i64]; omega
        go_wp2_with (at_builtin; refine wpList_append_lies _ rfl _ _ 66 rfl w.heap.size 111 i0 _ 8 96 Tryz.underlying66 hi0 hz0 hz1 hz2 rfl (by omega) (.slice va m vc) m (rs.flatMap rcells) rfl (((unhide HO1).alloc _).alloc _) ⟨w1.heap.size + 1, 0, none⟩ 1 1 (rcells ⟨rc, rn, ⟨rk, ra, rb, rt⟩, rdd, ru⟩) rfl rfl (World.news_of_block (cs := #[.int .i64 rc, .int .i64 rn, .int .i64 rk, .string ra, .string rb, .string rt, .int .i64 rdd, .string ru]) (t := 111) (fr := (0, 0)) (by rw [show w1.heap.size + 1 = (w1.alloc (.cells #[.int .i64 rc, .int .i64 rn, .int .i64 rk, .string ra, .string rb, .string rt, .int .i64 rdd, .string ru] 111)).heap.size by simp]; exact heap_alloc_new _ _)) (by simp [rcells, Value.oneCell']) (by omega) (by unfold maxLen; omega) (by omega) (by simp; omega) (w1.heap.size + 1 + 1) (by simp) ?_; intro g2 c2 w2 hown2 hgrow hat hlt2)
        have HB2 := hide ((((unhide HB1).alloc hz1' (.cells #[.int .i64 rc, .int .i64 rn, .int .i64 rk, .string ra, .string rb, .string rt, .int .i64 rdd, .string ru] 111)).alloc (by simp; omega) (.cells #[.int .i64 rc, .int .i64 rn, .int .i64 rk, .string ra, .string rb, .string rt, .int .i64 rdd, .string ru] 111)).grown hgrow (by simp; omega) (fun j hj => ((unhide HO1).lt j hj).1))
        have HO2 := hide hown2
        clear hown2 hgrow hat hlt2
        go_roundw
        case rel => exact ⟨k + dn.toNat, m + 1, rs ++ [⟨rc, rn, ⟨rk, ra, rb, rt⟩, rdd, ru⟩], by omega, by omega, by congr 1; omega, ⟨_, _, rfl⟩, hide (by rw [List.length_append, HM.out]; rfl), HSTEP, unhide HB2, by rw [flat_snoc]; exact unhide HO2⟩
        case measure => simp [intOf]; omega
      · go_wp2
        go_ret2
        rw [(unhide HAD) hcode]
        exact ⟨va, vc, by rw [HM.out]; exact rfl, by rw [HM.out]; exact (unhide HO1).alloc _, (unhide HB1).alloc (unhide HB1).size _⟩

end Go.Proofs.YtffgolanmaenfacGreatDoor

namespace Go.Proofs.YtffgolanmaenfacGreatDoor
open Go.RowKit
set_option linter.unusedSimpArgs false
set_option linter.unusedVariables false

theorem bsize (t : ByteArray) : t.data.toList.length = t.size := by rw [Array.length_toList]; rfl
theorem takeT_tb : ∀ (ts : List ByteArray) (rest : List UInt8), (∀ t, t ∈ ts → t.size ≤ 255) → takeT ts.length (tb ts ++ rest) = some (ts, rest)
  | [], rest, _ => by simp [takeT, tb]
  | t :: ts, rest, h => by
    have ht := h t (by simp)
    have ih := takeT_tb ts rest (fun x hx => h x (by simp [hx]))
    have e : tb (t :: ts) ++ rest = UInt8.ofNat t.size :: (t.data.toList ++ (tb ts ++ rest)) := by simp [tb, ebytes]
    have hn : (UInt8.ofNat t.size).toNat = t.size := by simp; omega
    rw [e, List.length_cons, takeT_cons _ _ _ (by rw [hn, List.length_append, bsize]; omega), hn]
    have h1 : (t.data.toList ++ (tb ts ++ rest)).take t.size = t.data.toList := by rw [List.take_append_of_le_length (by rw [bsize]; omega), List.take_of_length_le (by rw [bsize]; omega)]
    have h2 : (t.data.toList ++ (tb ts ++ rest)).drop t.size = tb ts ++ rest := by rw [← bsize t, List.drop_left]
    rw [h1, h2, ih]
    simp

theorem takeT_inv : ∀ (k : Nat) (bs : List UInt8) (ts : List ByteArray) (r : List UInt8), takeT k bs = some (ts, r) → bs = tb ts ++ r ∧ ts.length = k
  | 0, bs, ts, r, h => by simp [takeT] at h; obtain ⟨rfl, rfl⟩ := h; simp [tb]
  | k + 1, [], ts, r, h => by simp [takeT] at h
  | k + 1, x :: xs, ts, r, h => by
    by_cases hx : x.toNat ≤ xs.length
    · rw [takeT_cons _ _ _ hx] at h
      cases h2 : takeT k (xs.drop x.toNat) with
      | none => rw [h2] at h; cases h
      | some p =>
        rw [h2] at h
        simp at h
        obtain ⟨rfl, rfl⟩ := h
        obtain ⟨e1, e2⟩ := takeT_inv k _ p.1 p.2 h2
        refine ⟨?_, by simp [e2]⟩
        have hs : (⟨(xs.take x.toNat).toArray⟩ : ByteArray).size = x.toNat := by show (xs.take x.toNat).toArray.size = _; simp; omega
        have : tb (⟨(xs.take x.toNat).toArray⟩ :: p.1) = x :: (xs.take x.toNat ++ tb p.1) := by
          simp only [tb, List.flatMap_cons, ebytes, hs]
          simp
        rw [this, List.cons_append, List.append_assoc, ← e1, List.take_append_drop]
    · rw [takeT_short _ _ _ hx] at h; cases h

theorem texts_small {r : ARec} (h : RecOk r) : (∀ t, t ∈ r.texts → t.size ≤ 255) ∧ (tb r.texts).length ≤ 250 := by
  have := h.name; have := h.dst; have := h.text
  constructor
  · intro t ht
    simp [ARec.texts] at ht
    rcases ht with rfl | rfl | rfl <;> omega
  · simp [ARec.texts, tb, ebytes_length]; omega

theorem encL_length (r : ARec) : (encL r).length = 5 + (tb r.texts).length := by simp [encL]; omega

theorem of_u8 {x : Int} (h0 : 0 ≤ x) (h1 : x ≤ 255) : (((UInt8.ofNat x.toNat).toNat : Nat) : Int) = x := ofInt_u8 h0 h1

theorem readR_enc {r : ARec} (h : RecOk r) : readR (encL r) = some r := by
  obtain ⟨hs, hl⟩ := texts_small h
  unfold readR
  rw [if_neg (by rw [encL_length]; omega)]
  have hd : (encL r).drop 5 = tb r.texts ++ [] := by simp [encL]
  have ht := takeT_tb r.texts [] hs
  have e3 : r.texts.length = 3 := rfl
  rw [e3] at ht
  rw [hd, ht]
  have a1 : at_ (encL r) 1 = r.client := of_u8 h.c0 (by have := h.c1; omega)
  have a2 : at_ (encL r) 2 = r.no := of_u8 (by have := h.n0; omega) (by have := h.n1; omega)
  have a3 : at_ (encL r) 3 = r.call.kind := of_u8 (by have := h.k0; omega) (by have := h.k1; omega)
  have a4 : at_ (encL r) 4 = r.code := of_u8 h.d0 (by have := h.d1; omega)
  have ha := h.ans
  show some _ = some _
  rw [a1, a2, a3, a4, ← ha]

theorem decR_enc {r : ARec} (h : recI r = 0) (b : List UInt8) : decR (encL r ++ b) = ⟨r, ((encL r).length : Int), 0⟩ := by
  have ho := rec_ok h
  obtain ⟨hs, hl⟩ := texts_small ho
  have hn : (UInt8.ofNat (5 + (tb r.texts).length)).toNat = (encL r).length := by rw [encL_length]; simp; omega
  obtain ⟨ys, hys⟩ : ∃ ys, encL r = UInt8.ofNat (5 + (tb r.texts).length) :: ys := ⟨_, rfl⟩
  have hlen : (encL r).length = ys.length + 1 := by rw [hys]; rfl
  have htake : (UInt8.ofNat (5 + (tb r.texts).length) :: (ys ++ b)).take (encL r).length = encL r := by
    rw [← List.cons_append, ← hys, List.take_left]
  rw [hys, List.cons_append, decR, if_neg (by rw [hn, hlen, List.length_append]; omega), hn, htake, readR_enc ho]
  simp only [h]
  rw [← hys]
  simp

theorem readR_inv {l : List UInt8} {r : ARec} (h : readR l = some r) (h0 : ∀ x, l.head? = some x → x.toNat = l.length) : l = encL r := by
  unfold readR at h
  by_cases h5 : l.length < 5
  · rw [if_pos h5] at h; cases h
  rw [if_neg h5] at h
  match l, h0, h5, h with
  | [], _, h5, _ => simp at h5
  | [_], _, h5, _ => simp at h5
  | [_, _], _, h5, _ => simp at h5
  | [_, _, _], _, h5, _ => simp at h5
  | [_, _, _, _], _, h5, _ => simp at h5
  | x0 :: x1 :: x2 :: x3 :: x4 :: rest, h0, _, h =>
    have hx := h0 x0 rfl
    split at h
    · rename_i a b t h3
      have hr : takeT 3 rest = some ([a, b, t], []) := h3
      obtain ⟨e1, _⟩ := takeT_inv 3 rest _ _ hr
      rw [List.append_nil] at e1
      simp at h
      subst h
      have u : ∀ x : UInt8, UInt8.ofNat ((x.toNat : Int)).toNat = x := fun x => by simp
      have hl : x0 = UInt8.ofNat (5 + (tb [a, b, t]).length) := by
        rw [← e1, show 5 + rest.length = x0.toNat by rw [hx]; simp; omega]
        simp
      simp only [encL, ARec.texts, at_, List.getD_cons_succ, List.getD_cons_zero, u]
      rw [← hl, ← e1]
      rfl
    · cases h

theorem decR_inv {bs : List UInt8} (h : (decR bs).code = 0) : recI (decR bs).rcd = 0 ∧ (decR bs).n = ((encL (decR bs).rcd).length : Int) ∧ bs.take (encL (decR bs).rcd).length = encL (decR bs).rcd ∧ (encL (decR bs).rcd).length ≤ bs.length := by
  cases bs with
  | nil => simp [decR] at h
  | cons x xs =>
    by_cases h1 : xs.length + 1 < x.toNat
    · rw [decR, if_pos h1] at h; cases h
    cases hr : readR ((x :: xs).take x.toNat) with
    | none => rw [decR, if_neg h1, hr] at h; cases h
    | some r =>
      by_cases h2 : recI r = 0
      · have e : decR (x :: xs) = ⟨r, (x.toNat : Int), 0⟩ := by rw [decR, if_neg h1, hr]; simp [h2]
        have h5 := readR_long hr
        have hlt : ((x :: xs).take x.toNat).length = x.toNat := by rw [List.length_take, List.length_cons]; omega
        have hi := readR_inv hr (fun y hy => by
          rw [hlt]
          have : 0 < x.toNat := by omega
          rw [List.head?_take] at hy
          rw [if_neg (by omega)] at hy
          simp at hy
          rw [← hy])
        rw [e]
        simp only
        have hle : (encL r).length = x.toNat := by rw [← hi, hlt]
        exact ⟨h2, by rw [hle], by rw [hle]; exact hi, by rw [hle, List.length_cons]; omega⟩
      · rw [decR, if_neg h1, hr] at h
        simp [h2] at h

end Go.Proofs.YtffgolanmaenfacGreatDoor

namespace Go.Proofs.YtffgolanmaenfacGreatDoor
open Go.RowKit
set_option linter.unusedSimpArgs false
set_option linter.unusedVariables false

theorem fields4 {l : List Field} {x0 x1 x2 x3 : String × Nat × Nat} (h : l.map (fun f => (f.name, f.type, f.offset)) = [x0, x1, x2, x3]) :
    ∃ f0 f1 f2 f3, l = [f0, f1, f2, f3] ∧ (f0.name, f0.type, f0.offset) = x0 ∧ (f1.name, f1.type, f1.offset) = x1 ∧ (f2.name, f2.type, f2.offset) = x2 ∧ (f3.name, f3.type, f3.offset) = x3 := by
  match l, h with
  | [f0, f1, f2, f3], h => simp at h; exact ⟨f0, f1, f2, f3, rfl, by simp [h.1], by simp [h.2.1], by simp [h.2.2.1], by simp [h.2.2.2]⟩
  | [], h => simp at h
  | [_], h => simp at h
  | [_, _], h => simp at h
  | [_, _, _], h => simp at h
  | _ :: _ :: _ :: _ :: _ :: _, h => simp at h
def callCells (c : ACall) : Array Value := #[.int .i64 c.kind, .string c.name, .string c.dst, .string c.text]
theorem equal32 (n : Nat) (c c' : ACall) (w : World) : (Op.equalIn (n + 2) 70 (.agg (callCells c)) (.agg (callCells c'))).run Tryz.prog w = .ok (c.kind == c'.kind && c.name.toList == c'.name.toList && c.dst.toList == c'.dst.toList && c.text.toList == c'.text.toList) w := by
  rw [run_equalIn_agg w (n + 1) 70 _ _ (by kernel_rfl) (by kernel_rfl)]
  obtain ⟨f0, f1, f2, f3, hf, e0, e1, e2, e3⟩ := fields4 (l := (Tryz.prog.fieldsOf 70).toList) (x0 := ("Kind", 3, 0)) (x1 := ("Name", 9, 1)) (x2 := ("To", 9, 2)) (x3 := ("Text", 9, 3)) (by kernel_rfl)
  simp only [Prod.mk.injEq] at e0 e1 e2 e3
  obtain ⟨⟨a0, a1, a2⟩, ⟨b0, b1, b2⟩, ⟨c0, c1, c2⟩, ⟨d0, d1, d2⟩⟩ := And.intro e0 (And.intro e1 (And.intro e2 e3))
  have p0 : ∀ c : ACall, (part 3 (callCells c) 0).run Tryz.prog w = .ok (.int .i64 c.kind) w := fun c => by kernel_rfl
  have p1 : ∀ c : ACall, (part 9 (callCells c) 1).run Tryz.prog w = .ok (.string c.name) w := fun c => by kernel_rfl
  have p2 : ∀ c : ACall, (part 9 (callCells c) 2).run Tryz.prog w = .ok (.string c.dst) w := fun c => by kernel_rfl
  have p3 : ∀ c : ACall, (part 9 (callCells c) 3).run Tryz.prog w = .ok (.string c.text) w := fun c => by kernel_rfl
  have q0 := run_equalIn_int w n 3 .i64 .i64 c.kind c'.kind Tryz.underlying3
  have q1 := run_equalIn_string w n 9 c.name c'.name Tryz.underlying9
  have q2 := run_equalIn_string w n 9 c.dst c'.dst Tryz.underlying9
  have q3 := run_equalIn_string w n 9 c.text c'.text Tryz.underlying9
  rw [hf]
  simp only [Op.eqFields, a0, a1, a2, b0, b1, b2, c0, c1, c2, d0, d1, d2, p0, p1, p2, p3, q0, q1, q2, q3, Sem.run_bind, Result.andThen_ok, Sem.run_ite, Sem.run_pure]
  cases (c.kind == c'.kind) <;> cases (c.name.toList == c'.name.toList) <;> cases (c.dst.toList == c'.dst.toList) <;> cases (c.text.toList == c'.text.toList) <;> simp [q1, q2, q3, p1, p2, p3]

end Go.Proofs.YtffgolanmaenfacGreatDoor

namespace Go.Proofs.YtffgolanmaenfacGreatDoor
open Go.RowKit
set_option linter.unusedSimpArgs false
set_option linter.unusedVariables false

/-- A record lies there. -/
structure RecAt (w : World) (b o : Nat) (r : ARec) : Prop where
  x0 : w.cell? ⟨b, o, none⟩ = some (.int .i64 r.client)
  x1 : w.cell? ⟨b, o + 1, none⟩ = some (.int .i64 r.no)
  x2 : w.cell? ⟨b, o + 2, none⟩ = some (.int .i64 r.call.kind)
  x3 : w.cell? ⟨b, o + 3, none⟩ = some (.string r.call.name)
  x4 : w.cell? ⟨b, o + 4, none⟩ = some (.string r.call.dst)
  x5 : w.cell? ⟨b, o + 5, none⟩ = some (.string r.call.text)
  x6 : w.cell? ⟨b, o + 6, none⟩ = some (.int .i64 r.code)
  x7 : w.cell? ⟨b, o + 7, none⟩ = some (.string r.ans)
theorem RecAt.lt {w : World} {b o : Nat} {r : ARec} (h : RecAt w b o r) : b < w.heap.size := World.block_lt_of_cell? w _ h.x0
theorem RecAt.same {w W : World} {b o : Nat} {r : ARec} (h : RecAt w b o r) (hb : W.heap[b]? = w.heap[b]?) : RecAt W b o r := by
  have hc : ∀ j, W.cell? ⟨b, j, none⟩ = w.cell? ⟨b, j, none⟩ := fun j => by simp only [World.cell?, hb]
  exact ⟨(hc _).trans h.x0, (hc _).trans h.x1, (hc _).trans h.x2, (hc _).trans h.x3, (hc _).trans h.x4, (hc _).trans h.x5, (hc _).trans h.x6, (hc _).trans h.x7⟩
theorem RecAt.below {w W : World} {m b o : Nat} {r : ARec} (h : RecAt w b o r) (hb : Below m w W) (hm : b < m) : RecAt W b o r := h.same (hb.block b hm)

/-- Records one behind the other lie there. -/
def RecsAt (w : World) (a : Option Addr) (n : Nat) (rs : List ARec) : Prop :=
  rs.length = n ∧ (0 < n → ∃ b off, a = some ⟨b, off, none⟩ ∧ ∀ (j : Nat) (r : ARec), rs[j]? = some r → RecAt w b (off + j * 8) r)
theorem RecsAt.same {w W : World} {a : Option Addr} {n : Nat} {rs : List ARec} (h : RecsAt w a n rs) (hs : ∀ A, a = some A → W.heap[A.block]? = w.heap[A.block]?) : RecsAt W a n rs := by
  refine ⟨h.1, fun h0 => ?_⟩
  obtain ⟨b, off, rfl, hc⟩ := h.2 h0
  exact ⟨b, off, rfl, fun j r hr => (hc j r hr).same (hs _ rfl)⟩
theorem RecsAt.below {w W : World} {a : Option Addr} {n : Nat} {rs : List ARec} (h : RecsAt w a n rs) (hb : Below w.heap.size w W) : RecsAt W a n rs := by
  refine ⟨h.1, fun h0 => ?_⟩
  obtain ⟨b, off, rfl, hc⟩ := h.2 h0
  exact ⟨b, off, rfl, fun j r hr => (hc j r hr).below hb (hc j r hr).lt⟩
theorem flat8 : ∀ (rs : List ARec) (j i : Nat) (r : ARec), rs[j]? = some r → i < 8 → (rs.flatMap rcells)[j * 8 + i]? = (rcells r)[i]?
  | [], j, i, r, h, _ => by simp at h
  | q :: rs, 0, i, r, h, hi => by
    simp at h
    subst h
    rw [List.flatMap_cons, Nat.zero_mul, Nat.zero_add, List.getElem?_append_left (by simp [rcells]; omega)]
  | q :: rs, j + 1, i, r, h, hi => by
    have h8 : (rcells q).length = 8 := rfl
    rw [List.flatMap_cons, List.getElem?_append_right (by rw [h8]; omega), h8, show (j + 1) * 8 + i - 8 = j * 8 + i by omega]
    exact flat8 rs j i r (by simpa using h) hi

theorem recs_row {w : World} {base : Nat} {a : Option Addr} {n c : Nat} {rs : List ARec} (h : w.ownsRow base 111 8 (.slice a n c) n (rs.flatMap rcells)) (hn : rs.length = n) : RecsAt w a n rs := by
  refine ⟨hn, fun h0 => ?_⟩
  obtain ⟨g, cap, e, _⟩ := World.ownsRow.form h h0
  cases e
  refine ⟨g, 0, rfl, fun j r hr => ?_⟩
  have hc : ∀ i, i < 8 → w.cell? ⟨g, j * 8 + i, none⟩ = (rcells r)[i]? := fun i hi => by
    have h1 := flat8 rs j i r hr hi
    obtain ⟨v, hv⟩ : ∃ v, (rcells r)[i]? = some v := ⟨_, List.getElem?_eq_getElem (by simp [rcells]; omega)⟩
    rw [hv] at h1 ⊢
    have := World.ownsRow.cells (v := .slice (some ⟨g, 0, none⟩) n c) h (g := g) rfl (j * 8 + i) v h1
    rw [addr_add, Nat.zero_add] at this
    exact this
  rw [Nat.zero_add]
  exact ⟨hc 0 (by omega), hc 1 (by omega), hc 2 (by omega), hc 3 (by omega), hc 4 (by omega), hc 5 (by omega), hc 6 (by omega), hc 7 (by omega)⟩

/-- Where the first m records end. -/
def endAt (rs : List ARec) (m : Nat) : Nat := ((rs.take m).flatMap encL).length

theorem decR_cut {r : ARec} (h : recI r = 0) (k : Nat) (hk : k < (encL r).length) : (decR ((encL r).take k)).code ≠ 0 := by
  have ho := rec_ok h
  obtain ⟨hs, hl⟩ := texts_small ho
  have hn : (UInt8.ofNat (5 + (tb r.texts).length)).toNat = (encL r).length := by rw [encL_length]; simp; omega
  obtain ⟨ys, hys⟩ : ∃ ys, encL r = UInt8.ofNat (5 + (tb r.texts).length) :: ys := ⟨_, rfl⟩
  rw [hys] at hn hk ⊢
  cases k with
  | zero => simp [decR]
  | succ k =>
    rw [List.take_succ_cons, decR, if_pos (by rw [hn, List.length_take]; simp at hk; simp; omega)]
    simp

theorem allR_cut : ∀ (rs : List ARec) (k m : Nat), (∀ r, r ∈ rs → recI r = 0) → m ≤ rs.length → endAt rs m ≤ k → (m < rs.length → k < endAt rs (m + 1)) → allR ((rs.flatMap encL).take k) = (rs.take m, endAt rs m)
  | [], k, m, _, hm, _, _ => by
    obtain rfl : m = 0 := by simpa using hm
    simp [endAt, allR_nil]
  | r :: rs, k, 0, hr, _, _, h2 => by
    have h3 := h2 (by simp)
    have h4 : endAt (r :: rs) 1 = (encL r).length := by simp [endAt]
    rw [h4] at h3
    have := decR_cut (hr r (by simp)) k h3
    rw [List.flatMap_cons, List.take_append_of_le_length (by omega), allR_stop this]
    simp [endAt]
  | r :: rs, k, m + 1, hr, hm, h1, h2 => by
    have e1 : endAt (r :: rs) (m + 1) = (encL r).length + endAt rs m := by simp [endAt]
    have e2 : endAt (r :: rs) (m + 1 + 1) = (encL r).length + endAt rs (m + 1) := by simp [endAt]
    rw [e1] at h1
    rw [e2] at h2
    have ih := allR_cut rs (k - (encL r).length) m (fun q hq => hr q (by simp [hq])) (by simpa using hm) (by omega) (fun h => by have := h2 (by simpa using h); omega)
    have hd := decR_enc (hr r (by simp)) ((rs.flatMap encL).take (k - (encL r).length))
    have e3 : ((r :: rs).flatMap encL).take k = encL r ++ (rs.flatMap encL).take (k - (encL r).length) := by
      rw [List.flatMap_cons, List.take_append, List.take_of_length_le (l := encL r) (by omega)]
    rw [e3, allR_step (by rw [hd]), hd]
    simp only [Int.toNat_natCast, List.drop_left]
    rw [ih, e1]
    simp

theorem encL_le {r : ARec} (h : recI r = 0) : 5 ≤ (encL r).length ∧ (encL r).length ≤ 255 := by
  have := (texts_small (rec_ok h)).2
  rw [encL_length]
  omega
end Go.Proofs.YtffgolanmaenfacGreatDoor

namespace Go.Proofs.YtffgolanmaenfacGreatDoor
open Go.RowKit
set_option linter.unusedSimpArgs false
set_option linter.unusedVariables false

/-- The files behind records. -/
def behind (L : List ARec) : List AFile := L.foldl (fun st r => (aDo st r.call).st) []
theorem behind_snoc (L : List ARec) (r : ARec) : behind (L ++ [r]) = (aDo (behind L) r.call).st := by simp [behind]

theorem behind_from (L : List ARec) : ∀ st, Inv st → Inv (L.foldl (fun st r => (aDo st r.call).st) st) := by
  induction L with
  | nil => exact fun st h => h
  | cons r L ih => exact fun st h => ih _ (h.step r.call)
theorem behind_inv (L : List ARec) : Inv (behind L) := behind_from L [] Inv.nil

/-- A client's last record; zero: none. -/
def lastR (L : List ARec) (c : Int) : ARec := L.foldl (fun x r => if r.client = c then r else x) zeroRec
theorem lastR_snoc (L : List ARec) (r : ARec) (c : Int) : lastR (L ++ [r]) c = if r.client = c then r else lastR L c := by simp [lastR]
/-- All records may be. -/
def Good (L : List ARec) : Prop := ∀ r, r ∈ L → recI r = 0
theorem Good.nil : Good [] := by simp [Good]
theorem Good.snoc {L : List ARec} {r : ARec} (h : Good L) (hr : recI r = 0) : Good (L ++ [r]) := fun q hq => by
  rcases List.mem_append.1 hq with h1 | h1
  · exact h q h1
  · simp at h1; subst h1; exact hr

theorem list_snoc {α : Type} (L : List α) : L = [] ∨ ∃ K r, L = K ++ [r] := by
  rcases List.eq_nil_or_concat L with h | ⟨K, r, h⟩
  · exact .inl h
  · exact .inr ⟨K, r, by simpa using h⟩

theorem snoc_ind {α : Type} {P : List α → Prop} (h0 : P []) (h1 : ∀ K r, P K → P (K ++ [r])) : ∀ L, P L := fun L => by
  have : ∀ n (L : List α), L.length = n → P L := fun n => by
    induction n with
    | zero => intro L h; rw [List.length_eq_zero_iff.1 h]; exact h0
    | succ n ih =>
      intro L h
      rcases list_snoc L with rfl | ⟨K, r, rfl⟩
      · exact h0
      · exact h1 K r (ih K (by simpa using h))
  exact this L.length L rfl

/-- It is zero, or it is one of the log's, of that client. -/
theorem lastR_or (L : List ARec) (c : Int) : lastR L c = zeroRec ∧ (∀ r, r ∈ L → r.client ≠ c) ∨ lastR L c ∈ L ∧ (lastR L c).client = c := by
  refine snoc_ind (P := fun L => lastR L c = zeroRec ∧ (∀ r, r ∈ L → r.client ≠ c) ∨ lastR L c ∈ L ∧ (lastR L c).client = c) (.inl ⟨rfl, by simp⟩) ?_ L
  intro K r ih
  rw [lastR_snoc]
  by_cases h : r.client = c
  · rw [if_pos h]; exact .inr ⟨by simp, h⟩
  · rw [if_neg h]
    rcases ih with ⟨h1, h2⟩ | ⟨h1, h2⟩
    · refine .inl ⟨h1, fun q hq => ?_⟩
      rcases List.mem_append.1 hq with h3 | h3
      · exact h2 q h3
      · simp at h3; subst h3; exact h
    · exact .inr ⟨by simp [h1], h2⟩

/-- What a call is answered, by an answer (code, text) and a code; and the log behind it. -/
structure CRes where
  code : Int
  text : ByteArray
  err : Int
  log : List ARec

def logB (L : List ARec) : List UInt8 := L.flatMap encL
theorem logB_snoc (L : List ARec) (r : ARec) : logB (L ++ [r]) = logB L ++ encL r := by simp [logB]

/-- Are two calls the same? -/
def callB (c c' : ACall) : Bool := c.kind == c'.kind && c.name.toList == c'.name.toList && c.dst.toList == c'.dst.toList && c.text.toList == c'.text.toList
theorem callB_iff (c c' : ACall) : callB c c' = true ↔ c = c' := by
  obtain ⟨k, a, b, t⟩ := c
  obtain ⟨k', a', b', t'⟩ := c'
  unfold callB
  simp only [eqB]
  simp
  constructor
  · rintro ⟨⟨⟨h3, h4⟩, h5⟩, h6⟩
    exact ⟨h3, h4, h5, h6⟩
  · rintro ⟨h3, h4, h5, h6⟩
    exact ⟨⟨⟨h3, h4⟩, h5⟩, h6⟩
theorem callB_self (c : ACall) : callB c c = true := (callB_iff c c).2 rfl

def aCall (L : List ARec) (client no : Int) (c : ACall) : CRes :=
  if client < 0 ∨ 2 < client ∨ no < 1 ∨ 200 < no then ⟨0, ⟨#[]⟩, 9, L⟩
  else if checkI c ≠ 0 then ⟨0, ⟨#[]⟩, checkI c, L⟩
  else if changesB c.kind = false then ⟨(aDo (behind L) c).code, (aDo (behind L) c).text, 0, L⟩
  else if (lastR L client).no < no then
    (if 2000 < (logB L).length + (encL ⟨client, no, c, 0, ⟨#[]⟩⟩).length then ⟨0, ⟨#[]⟩, 7, L⟩
     else ⟨(aDo (behind L) c).code, (aDo (behind L) c).text, 0, L ++ [⟨client, no, c, (aDo (behind L) c).code, (aDo (behind L) c).text⟩]⟩)
  else if no = (lastR L client).no ∧ callB c (lastR L client).call = true then ⟨(lastR L client).code, (lastR L client).ans, 0, L⟩
  else ⟨0, ⟨#[]⟩, 10, L⟩

theorem change_kinds {k : Int} (h : changesB k = true) : k = 1 ∨ k = 2 ∨ k = 3 ∨ k = 4 := by
  simp [changesB] at h; omega
theorem ask_kinds {c : ACall} (h0 : checkI c = 0) (h : changesB c.kind = false) : c.kind = 5 ∨ c.kind = 6 := by
  have h1 : ¬ (c.kind < 1 ∨ 6 < c.kind) := fun h1 => by unfold checkI at h0; rw [if_pos h1] at h0; cases h0
  have h2 : ¬ (c.kind = 1 ∨ c.kind = 2 ∨ c.kind = 3 ∨ c.kind = 4) := fun h2 => by
    have : changesB c.kind = true := by simp [changesB]; omega
    rw [this] at h; cases h
  omega

theorem checkI_range (c : ACall) : 0 ≤ checkI c ∧ checkI c ≤ 4 := by
  unfold checkI
  repeat' split
  all_goals omega

theorem aDo_code (st : List AFile) (c : ACall) : 0 ≤ (aDo st c).code ∧ (aDo st c).code ≤ 99 := by
  have h := checkI_range c
  unfold aDo aCreate aRename aPut
  repeat' split
  all_goals (dsimp only; first | omega | (repeat' split) <;> (dsimp only; omega))

theorem aDo_change {c : ACall} (st : List AFile) (h : changesB c.kind = true) : (aDo st c).text = ⟨#[]⟩ := by
  have hk := change_kinds h
  unfold aDo
  split
  · rfl
  split
  · rfl
  split
  · omega
  split
  · rfl
  split
  · rfl
  split
  · rfl
  split
  · rfl
  · omega

theorem aDo_ask {c : ACall} (st : List AFile) (h : changesB c.kind = false) : (aDo st c).st = st := by
  by_cases h0 : checkI c = 0
  · have hk := ask_kinds h0 h
    unfold aDo
    rw [if_neg (by simpa using h0), if_neg (by omega)]
    split
    · rfl
    split
    · rfl
    rw [if_neg (by omega), if_neg (by omega), if_neg (by omega)]
  · unfold aDo
    rw [if_pos h0]

/-- The record that a new call makes may be; so may the one without its answer; both are as long. -/
theorem new_ok {client no : Int} {c : ACall} (h1 : ¬ (client < 0 ∨ 2 < client ∨ no < 1 ∨ 200 < no)) (h2 : checkI c = 0) (h3 : changesB c.kind = true) (st : List AFile) :
    recI ⟨client, no, c, 0, ⟨#[]⟩⟩ = 0 ∧ recI ⟨client, no, c, (aDo st c).code, (aDo st c).text⟩ = 0 ∧ (encL ⟨client, no, c, (aDo st c).code, (aDo st c).text⟩).length = (encL ⟨client, no, c, 0, ⟨#[]⟩⟩).length := by
  have ht := aDo_change st h3
  have hc := aDo_code st c
  refine ⟨?_, ?_, ?_⟩
  · unfold recI
    dsimp only
    rw [if_neg h1, if_neg (by simp [h3]), if_neg (by simp [h2]), if_neg (by omega), if_neg (by simp)]
  · unfold recI
    dsimp only
    rw [if_neg h1, if_neg (by simp [h3]), if_neg (by simp [h2]), if_neg (by omega), if_neg (by simp [ht])]
  · rw [encL_length, encL_length]; rfl

theorem aCall_good {L : List ARec} (hL : Good L) (client no : Int) (c : ACall) : Good (aCall L client no c).log := by
  unfold aCall
  split
  · exact hL
  rename_i h1
  split
  · exact hL
  rename_i h2
  split
  · exact hL
  rename_i h3
  split
  · split
    · exact hL
    · exact hL.snoc (new_ok h1 (by simpa using h2) (by simpa using h3) _).2.1
  split
  · exact hL
  · exact hL

/-- Of what is torn all stands in the log, or nothing. -/
def aTear (L : List ARec) (client no : Int) (c : ACall) (keep : Int) : Int × List ARec :=
  let r := aCall L client no c
  if r.err = 0 ∧ L.length < r.log.length ∧ keep < ((logB r.log).length : Int) - ((logB L).length : Int) then (r.err, L) else (r.err, r.log)

theorem aCall_log (L : List ARec) (client no : Int) (c : ACall) : (aCall L client no c).log = L ∨ (aCall L client no c).err = 0 ∧ changesB c.kind = true ∧ ∃ r : ARec, (aCall L client no c).log = L ++ [r] ∧ r.client = client := by
  unfold aCall
  split
  · exact .inl rfl
  split
  · exact .inl rfl
  split
  · exact .inl rfl
  rename_i h3
  split
  · split
    · exact .inl rfl
    · exact .inr ⟨rfl, by simpa using h3, _, rfl, rfl⟩
  split
  · exact .inl rfl
  · exact .inl rfl

theorem aTear_log (L : List ARec) (client no : Int) (c : ACall) (keep : Int) : (aTear L client no c keep).2 = L ∨ (aTear L client no c keep).2 = (aCall L client no c).log := by
  unfold aTear
  dsimp only
  split
  · exact .inl rfl
  · exact .inr rfl

/-- A log's bytes are read as it. -/
theorem allR_log {L : List ARec} (hL : Good L) : allR (logB L) = (L, (logB L).length) := by
  have h := allR_cut L (logB L).length L.length hL (Nat.le_refl _) (by unfold endAt logB; rw [List.take_of_length_le (Nat.le_refl _)]; omega) (fun h => absurd h (by omega))
  unfold endAt at h
  rw [List.take_of_length_le (Nat.le_refl _)] at h
  unfold logB
  rw [List.take_of_length_le (by unfold logB; omega)] at h
  exact h
/-- .. and cut within its last record, as those ahead. -/
theorem allR_torn {L : List ARec} {r : ARec} (hL : Good (L ++ [r])) (k : Nat) (hk : k ≤ (encL r).length) : allR ((logB (L ++ [r])).take ((logB L).length + k)) = if k < (encL r).length then (L, (logB L).length) else (L ++ [r], (logB (L ++ [r])).length) := by
  by_cases h : k < (encL r).length
  · rw [if_pos h]
    have e1 : endAt (L ++ [r]) L.length = (logB L).length := by unfold endAt logB; rw [List.take_left]
    have e2 : endAt (L ++ [r]) (L.length + 1) = (logB L).length + (encL r).length := by
      unfold endAt
      rw [List.take_of_length_le (by simp)]
      simp [logB]
    have h1 := allR_cut (L ++ [r]) ((logB L).length + k) L.length hL (by simp) (by rw [e1]; omega) (fun _ => by rw [e2]; omega)
    rw [List.take_left, e1] at h1
    exact h1
  · rw [if_neg h, List.take_of_length_le (by rw [logB_snoc, List.length_append]; omega)]
    exact allR_log hL

end Go.Proofs.YtffgolanmaenfacGreatDoor

namespace Go.Proofs.YtffgolanmaenfacGreatDoor
open Go.RowKit
set_option linter.unusedSimpArgs false
set_option linter.unusedVariables false

theorem sNames_length (st : List AFile) : (sNames st).length = st.length := by simp [sNames, sortB_length]
theorem sNames_named {st : List AFile} (hi : Inv st) {x : ByteArray} (h : x ∈ sNames st) : nameB x = true := by
  obtain ⟨f, hf, rfl⟩ := List.mem_map.1 (sortB_mem.1 h)
  exact hi.named f hf

end Go.Proofs.YtffgolanmaenfacGreatDoor

namespace Go.Proofs.YtffgolanmaenfacGreatDoor
open Go.RowKit
set_option linter.unusedSimpArgs false
set_option linter.unusedVariables false

theorem field1 (c : Int) (t : ByteArray) (w : World) : (Instr.field 100 (.agg #[.int .i64 c, .string t]) 1).run Tryz.prog w = .ok (.string t) w := by kernel_rfl

/-- Names, at an object. -/
theorem Names_obj {N B : Nat} {own : List Nat} {st : List AFile} {w : World} (h : OObj N w B own st) :
    Calls Tryz.prog 179 #[.pointer (some ⟨B, 0, none⟩)] w
      fun e w' => ∃ g cap, e = .returned (.slice (some ⟨g, 0, none⟩) st.length cap) ∧ w'.ownsRow w.heap.size 9 1 (.slice (some ⟨g, 0, none⟩) st.length cap) st.length ((sNames st).map .string) ∧ Below w.heap.size w w' :=
  Names_any B own st w h.rep (by have := h.inv.few; omega) (fun f hf => by have := nameB_size (h.inv.named f hf); omega)

/-- The cells of a row of texts. -/
theorem texts_cell {w : World} {base g n cap : Nat} {xs : List ByteArray} (h : w.ownsRow base 9 1 (.slice (some ⟨g, 0, none⟩) n cap) n (xs.map .string)) (j : Nat) (x : ByteArray) (hx : xs[j]? = some x) : w.cell? ⟨g, j, none⟩ = some (.string x) := by
  have := h.cells (g := g) rfl j (.string x) (by rw [List.getElem?_map, hx]; rfl)
  have e : (⟨g, 0, none⟩ : Addr).add j = ⟨g, j, none⟩ := by unfold Addr.add; split <;> simp_all
  rwa [e] at this

theorem ownsRow_base {w : World} {base base' : Nat} {e : TypeId} {size : Nat} {v : Value} {n : Nat} {xs : List Value} (h : w.ownsRow base e size v n xs) (hb : base' ≤ base) : w.ownsRow base' e size v n xs := by
  refine ⟨h.1, ?_⟩
  rcases h.2 with hn | ⟨g, cap, cur, rfl, hb1, rest⟩
  · exact .inl hn
  · exact .inr ⟨g, cap, cur, rfl, by omega, rest⟩
end Go.Proofs.YtffgolanmaenfacGreatDoor

namespace Go.Proofs.YtffgolanmaenfacGreatDoor
open Go.RowKit
set_option linter.unusedSimpArgs false
set_option linter.unusedVariables false

/-- What a slice that lies somewhere yields. -/
def Lies (w : World) (x : Value) (m : Nat) (news : List Value) : Prop :=
  (x = .slice none 0 0 ∧ m = 0 ∧ news = []) ∨ ∃ ad c, x = .slice (some ad) m c ∧ ∀ j u, news[j]? = some u → w.cell? (ad.add j) = some u

theorem run_app {w : World} (t ty : TypeId) (base : Nat) (e : TypeId) (i : TypeInfo) (z : Value) (size bytes : Nat) (ht : Tryz.prog.underlying t = some (.slice e)) (hi : Tryz.prog.info? e = some i) (hz : i.zero = some z)
    (hsize : i.size = size) (hby : i.bytes = bytes) (hzs : z.cells.size = size) (hsz : 0 < size)
    (v : Value) (n : Nat) (xs : List Value) (hown : w.ownsRow base e size v n xs) (x : Value) (m : Nat) (news : List Value) (hx : Lies w x m news) (hl : news.length = m * size) (h1 : ∀ u ∈ news, u.oneCell' = true)
    (h63 : n + m ≤ maxLen) (hbytes : (n + m) * bytes ≤ 140737488355328) (hbase : base ≤ w.heap.size) :
    ∃ a c w', (Builtin.append_ #[t, t] ty #[v, x]).run Tryz.prog w = .ok (.slice a (n + m) c) w' ∧ w'.ownsRow base e size (.slice a (n + m) c) (n + m) (xs ++ news) ∧ w.grownBy w' v.ownBlock ∧
      ((Value.slice a (n + m) c).ownBlock = v.ownBlock ∨ (Value.slice a (n + m) c).ownBlock = some w.heap.size) := by
  rcases hx with ⟨rfl, rfl, rfl⟩ | ⟨ad, c, rfl, hc⟩
  · have hsame : w.grownBy w v.ownBlock := ⟨rfl, rfl, rfl, Nat.le_refl _, fun _ _ _ => rfl⟩
    rcases hown.2 with ⟨rfl, rfl⟩ | ⟨g, cap, cur, rfl, hbg, hg, hnc, hcm, hcs, htake⟩
    · refine ⟨none, 0, w, ?_, by simpa using hown, hsame, .inl rfl⟩
      simp [Builtin.append_, run_underlying ht, sizeOf, typeInfo, hi, Builtin.lenOf, Builtin.firstCells, loadCells, loadCellsFrom]
    · refine ⟨some ⟨g, 0, none⟩, cap, w, ?_, by simpa using hown, hsame, .inl rfl⟩
      have := run_append_room_src (P := Tryz.prog) w t t ty e i ht hi g 0 n cap (.slice none 0 0) 0 [] (Src.ofNil w ht 0) (by omega) (by simp) (by simp)
      rw [this]
      rfl
  · obtain ⟨v', w', hr, h2, h3, _, h5⟩ := run_append_own_at (P := Tryz.prog) w base t ty e i z size bytes ht hi hz hsize hby hzs hsz v n xs hown ad m c news hl hc h1 h63 hbytes hbase
    obtain ⟨a, cap, rfl⟩ := row_form h2
    exact ⟨a, cap, w', hr, h2, h3, h5⟩

theorem below_drew (w : World) : Below w.heap.size w w.drew := ⟨rfl, rfl, rfl, Nat.le_refl _, fun _ _ => rfl⟩
theorem below_drew_alloc (w : World) (o : Obj) : Below w.heap.size w (w.drew.alloc o) := (below_drew w).alloc (Nat.le_refl _) o
theorem below_alloc_drew (w : World) (o : Obj) : Below w.heap.size w (w.alloc o).drew := ((Below.refl _ _).alloc (Nat.le_refl _) o).drew
theorem alloc_drew_new (w : World) (o : Obj) : (w.alloc o).drew.heap[w.heap.size]? = some o := heap_alloc_new w o
end Go.Proofs.YtffgolanmaenfacGreatDoor

namespace Go.Proofs.YtffgolanmaenfacGreatDoor
open Go.RowKit
set_option linter.unusedSimpArgs false
set_option linter.unusedVariables false

/-- Bytes in a row of one's own. -/
def BRow (w : World) (N : Nat) (v : Value) (bs : List UInt8) : Prop := w.ownsRow N 5 1 v bs.length (bv bs)

theorem bv_one (bs : List UInt8) : ∀ u, u ∈ bv bs → u.oneCell' = true := fun u hu => by
  simp [bv] at hu
  obtain ⟨b, _, rfl⟩ := hu
  rfl

theorem BRow.cells {w : World} {N g n c : Nat} {bs : List UInt8} (h : BRow w N (.slice (some ⟨g, 0, none⟩) n c) bs) : ∀ (j : Nat) (x : UInt8), bs[j]? = some x → w.cell? ⟨g, 0 + j, none⟩ = some (.int .u8 (x.toNat : Int)) := fun j x hx => by
  have hn : n = bs.length := by
    obtain ⟨_, _, e⟩ := row_form h
    cases e; rfl
  subst hn
  have := h.cellAt j (by have := (List.getElem?_eq_some_iff.1 hx).1; omega)
  rw [Nat.zero_add, this]
  simp [bv, hx]
theorem BRow.below {w w' : World} {N : Nat} {v : Value} {bs : List UInt8} (h : BRow w N v bs) (hb : Below w.heap.size w w') : BRow w' N v bs := ownsRow_same h (fun k hk => hb.block k (h.lt k hk).2)

/-- Append of bytes that lie somewhere onto bytes of one's own. -/
theorem wpList_bytes (w : World) {ops : Array Oper} {rest : List Oper} {o : Oper} {a : Act} {Q : Exit → Act → World → Prop} (hgd : o.guard = none) (s x : Operand)
    (ho : o.op = .call { callee := .builtin .append, args := #[s, x], argTypes := #[42, 42] })
    (N : Nat) (v : Value) (xs : List UInt8) (hs : a.eval s = v) (hown : BRow w N v xs) (y : Value) (m : Nat) (ys : List UInt8) (hx : a.eval x = y) (hl : ys.length = m) (hy : Lies w y m (bv ys)) (hsz : xs.length + m ≤ 1000000) (hN : N ≤ w.heap.size)
    (h : ∀ ad c w', BRow w' N (.slice ad (xs.length + m) c) (xs ++ ys) → w.grownBy w' v.ownBlock → wpList Tryz.prog ops Q rest (a.put o.dst (.slice ad (xs.length + m) c)) w') : wpList Tryz.prog ops Q (o :: rest) a w := by
  obtain ⟨i0, hi0, hz0, hz1, hz2⟩ := info_parts cinfo5
  refine wpList_plain hgd fun K hK => ?_
  obtain ⟨ad, c, w', hr, h2, h3, h4⟩ := run_app (w := w) 42 o.type N 5 i0 _ 1 1 Tryz.underlying42 hi0 hz0 hz1 hz2 rfl (by omega) v xs.length (bv xs) hown y m (bv ys) hy (by rw [bv_length]; omega) (bv_one ys) (by unfold maxLen; omega) (by omega) hN
  unfold Oper.wp execOp
  simp only [ho, resolve, invoke, builtin, Sem.run_bind, Sem.run_pure, Result.andThen_ok, List.map_toArray, List.map_cons, List.map_nil, hs, hx, hr]
  refine hK _ _ (h ad c w' ?_ h3)
  unfold BRow
  rw [List.length_append, hl, bv_append]
  exact h2

theorem BRow.nil (w : World) (N : Nat) : BRow w N (.slice none 0 0) [] := World.ownsRow_nil _ _ _ _
theorem BRow.lies {w : World} {N g n c : Nat} {bs : List UInt8} (h : BRow w N (.slice (some ⟨g, 0, none⟩) n c) bs) : Lies w (.slice (some ⟨g, 0, none⟩) n c) n (bv bs) := .inr ⟨_, _, rfl, fun j u hu => World.ownsRow.cells (v := .slice (some ⟨g, 0, none⟩) n c) h (g := g) rfl j u hu⟩
theorem BRow.form {w : World} {N : Nat} {a : Option Addr} {n c : Nat} {bs : List UInt8} (h : BRow w N (.slice a n c) bs) (h0 : bs ≠ []) : ∃ g, a = some ⟨g, 0, none⟩ ∧ n = bs.length := by
  have : 0 < bs.length := List.length_pos_iff.2 h0
  obtain ⟨g, cap, e, _⟩ := World.ownsRow.form h this
  cases e
  exact ⟨g, rfl, rfl⟩

def r0 : ARec := ⟨1, 7, ⟨3, ⟨#[97]⟩, ⟨#[98, 99]⟩, ⟨#[]⟩⟩, 6, ⟨#[]⟩⟩
theorem len0 : (tb [⟨#[97]⟩, ⟨#[98, 99]⟩, ⟨#[]⟩]).length = 6 := by rfl
end Go.Proofs.YtffgolanmaenfacGreatDoor
