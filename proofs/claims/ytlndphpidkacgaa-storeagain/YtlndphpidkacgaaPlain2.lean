/- What a call does to files: on lists. -/
import Derived.Test.YtlndphpidkacgaaWh
namespace Go.Proofs.Ytlndphpidkacgaa
open Go.RowKit
set_option linter.unusedSimpArgs false
set_option linter.unusedVariables false

/-- The names in one text, a blank between. -/
def joinNames (st : List AFile) : ByteArray := ⟨(Lib.join ((sNames st).map (·.data.toList)) [32]).toArray⟩
def fileAt (st : List AFile) (j : Nat) : AFile := st.getD j ⟨ByteArray.empty, ByteArray.empty⟩

/-- A code, a text, the files behind. -/
structure Res where
  code : Int
  text : ByteArray
  st : List AFile

def aCreate (st : List AFile) (name : ByteArray) : Int × List AFile :=
  if 0 ≤ fInt name st then (5, st) else if 6 ≤ st.length then (7, st) else (0, st ++ [⟨name, ByteArray.empty⟩])
def aRename (st : List AFile) (j : Nat) (to : ByteArray) : Int × List AFile :=
  if 0 ≤ fInt to st then (5, st) else (0, st.set j ⟨to, (fileAt st j).text⟩)
def aPut (st : List AFile) (j : Nat) (text : ByteArray) : Int × List AFile :=
  if 16 < (fileAt st j).text.size + text.size then (7, st) else (0, st.set j ⟨(fileAt st j).name, (fileAt st j).text ++ text⟩)

def aDo (st : List AFile) (c : ACall) : Res :=
  if checkI c ≠ 0 then ⟨checkI c, ByteArray.empty, st⟩
  else if c.kind = 1 then ⟨(aCreate st c.name).1, ByteArray.empty, (aCreate st c.name).2⟩
  else if c.kind = 6 then ⟨0, joinNames st, st⟩
  else if fInt c.name st < 0 then ⟨6, ByteArray.empty, st⟩
  else if c.kind = 2 then ⟨0, ByteArray.empty, st.eraseIdx (fIdx c.name st)⟩
  else if c.kind = 3 then ⟨(aRename st (fIdx c.name st) c.dst).1, ByteArray.empty, (aRename st (fIdx c.name st) c.dst).2⟩
  else if c.kind = 4 then ⟨(aPut st (fIdx c.name st) c.text).1, ByteArray.empty, (aPut st (fIdx c.name st) c.text).2⟩
  else ⟨0, (fileAt st (fIdx c.name st)).text, st⟩

/-- What holds of all files that calls can make. -/
structure Inv (st : List AFile) : Prop where
  few : st.length ≤ 6
  named : ∀ f, f ∈ st → nameB f.name = true
  short : ∀ f, f ∈ st → f.text.size ≤ 16
  once : (st.map AFile.name).Nodup

theorem toList_data (s : ByteArray) : s.toList = s.data.toList := by
  exact ByteArray.toList_eq s

theorem nameB_size {s : ByteArray} (h : nameB s = true) : 1 ≤ s.size ∧ s.size ≤ 5 := by
  simp only [nameB, withinB, Bool.and_eq_true, decide_eq_true_eq] at h
  omega

theorem fIdx_spec (name : ByteArray) (st : List AFile) (h : 0 ≤ fInt name st) : fIdx name st < st.length ∧ fInt name st = (fIdx name st : Int) := by
  unfold fInt at h ⊢
  by_cases h1 : fIdx name st < st.length
  · rw [if_pos h1] at h ⊢; exact ⟨h1, rfl⟩
  · rw [if_neg h1] at h; omega


/-- Behind a callee that has turned the object, a block of ours that was there reads as it did, and may be written. -/
theorem Turned.can {W w1 : World} {B : Nat} {own : List Nat} {st' : List AFile} (h : Turned W B own w1 st') {b o : Nat} {v : Value} (hc : Can W b o v) (hn : b ∉ own) : Can w1 b o v := by
  obtain ⟨own', _, hk, _⟩ := h
  exact ⟨(hk.cell hc.lt hn).trans hc.1, (hk.frozen hc.lt hn).trans hc.2⟩
theorem Turned.size {W w1 : World} {B : Nat} {own : List Nat} {st' : List AFile} (h : Turned W B own w1 st') : W.heap.size ≤ w1.heap.size := by
  obtain ⟨own', _, hk, _⟩ := h
  exact hk.size
/-- .. and writing it turns nothing of the object. -/
theorem Turned.store {w W w1 w2 : World} {B : Nat} {own : List Nat} {st' : List AFile} (hb0 : Below w.heap.size w W) (hT : Turned W B own w1 st') (hown : ∀ k, k ∈ own → k < w.heap.size) {b : Nat} (hb : w.heap.size ≤ b) (hb2 : b < W.heap.size) (hk : Kept [b] w1 w2) :
    Turned w B own w2 st' := by
  obtain ⟨own', ⟨v, fs, hr, rfl, hs⟩, hk1, hn⟩ := hT
  have hnb : ∀ k, k ∈ owns B v fs → k ≠ b := fun k hk e => by
    rcases hn k hk with h | h
    · have := hown k h; omega
    · omega
  refine ⟨owns B v fs, ⟨v, fs, hr.kept hk (fun k hk1 hm => hnb k hk1 (by simpa using hm)), rfl, hs⟩, ?_, fun k hk => ?_⟩
  · exact ((Kept.of_below hb0).trans hk1 (fun x hx => .inl hx)).trans hk (fun x hx => .inr (by rw [List.mem_singleton.1 hx]; exact hb))
  · rcases hn k hk with h | h
    · exact .inl h
    · right; have := hb0.size; omega

theorem create_any (name : ByteArray) (B : Nat) (own : List Nat) (st : List AFile) (w : World) (hr : St w B own st) (hi : Inv st) (hs : name.size ≤ 1000) :
    Calls Try.prog 58 #[.pointer (some ⟨B, 0, none⟩), .string name] w fun e w' => e = .returned (.int .i64 (aCreate st name).1) ∧ Turned w B own w' (aCreate st name).2 := by
  have h6 := hi.few
  by_cases h0 : 0 ≤ fInt name st
  · have e : aCreate st name = (5, st) := by simp [aCreate, h0]
    rw [e]
    exact (create_there name B own st w hr (by omega) h0).mono fun e w' ⟨h1, h2⟩ => ⟨h1, Turned.of_below hr h2⟩
  · by_cases h1 : 6 ≤ st.length
    · have e : aCreate st name = (7, st) := by simp [aCreate, h0, h1]
      rw [e]
      exact (create_full name B own st w hr (by omega) (by omega) h1).mono fun e w' ⟨h1, h2⟩ => ⟨h1, Turned.of_below hr h2⟩
    · have e : aCreate st name = (0, st ++ [⟨name, ByteArray.empty⟩]) := by simp [aCreate, h0, h1]
      rw [e]
      exact create_new name B own st w hr (by omega) (by omega) hs

theorem fileAt_mid (l1 l2 : List FV) (f : FV) : fileAt ((l1 ++ f :: l2).map FV.abs) l1.length = ⟨f.name, f.text⟩ := by
  simp [fileAt, FV.abs]

theorem rename_any (to : ByteArray) (B g n cap : Nat) (l1 l2 : List FV) (f : FV) (w : World) (hr : Rep w B (.slice (some ⟨g, 0, none⟩) n cap) (l1 ++ f :: l2)) (hn : n = (l1 ++ f :: l2).length) (hl : n ≤ 1000) (hs : to.size ≤ 1000) :
    Calls Try.prog 62 #[.pointer (some ⟨B, 0, none⟩), .int .i64 (l1.length : Int), .string to] w
      fun e w' => e = .returned (.int .i64 (aRename ((l1 ++ f :: l2).map FV.abs) l1.length to).1) ∧
        Turned w B (owns B (.slice (some ⟨g, 0, none⟩) n cap) (l1 ++ f :: l2)) w' (aRename ((l1 ++ f :: l2).map FV.abs) l1.length to).2 := by
  have hst : St w B (owns B (.slice (some ⟨g, 0, none⟩) n cap) (l1 ++ f :: l2)) ((l1 ++ f :: l2).map FV.abs) := ⟨_, _, hr, rfl, rfl⟩
  by_cases h0 : 0 ≤ fInt to ((l1 ++ f :: l2).map FV.abs)
  · have e : aRename ((l1 ++ f :: l2).map FV.abs) l1.length to = (5, (l1 ++ f :: l2).map FV.abs) := by rw [aRename, if_pos h0]
    rw [e]
    exact (rename_there _ to B _ _ w hst (by rw [List.length_map, ← hn]; exact hl) h0).mono fun e w' ⟨h1, h2⟩ => ⟨h1, Turned.of_below hst h2⟩
  · have e : aRename ((l1 ++ f :: l2).map FV.abs) l1.length to = (0, ((l1 ++ f :: l2).map FV.abs).set l1.length ⟨to, f.text⟩) := by rw [aRename, if_neg h0, fileAt_mid]
    rw [e]
    exact rename_new to B g n cap l1 l2 f w hr hn hl (by omega) hs

theorem put_any (B g n cap : Nat) (l1 l2 : List FV) (f : FV) (text : ByteArray) (w : World) (hr : Rep w B (.slice (some ⟨g, 0, none⟩) n cap) (l1 ++ f :: l2)) (hf : f.text.size ≤ 1000) (h0 : 0 < text.size) (ht : text.size ≤ 1000) :
    Calls Try.prog 63 #[.pointer (some ⟨g, l1.length * 2, none⟩), .string text] w
      fun e w' => e = .returned (.int .i64 (aPut ((l1 ++ f :: l2).map FV.abs) l1.length text).1) ∧
        Turned w B (owns B (.slice (some ⟨g, 0, none⟩) n cap) (l1 ++ f :: l2)) w' (aPut ((l1 ++ f :: l2).map FV.abs) l1.length text).2 := by
  have hst : St w B (owns B (.slice (some ⟨g, 0, none⟩) n cap) (l1 ++ f :: l2)) ((l1 ++ f :: l2).map FV.abs) := ⟨_, _, hr, rfl, rfl⟩
  by_cases h16 : 16 < f.text.size + text.size
  · have e : aPut ((l1 ++ f :: l2).map FV.abs) l1.length text = (7, (l1 ++ f :: l2).map FV.abs) := by rw [aPut, fileAt_mid, if_pos h16]
    rw [e]
    exact (put_full B g n cap l1 l2 f text w hr hf ht h16).mono fun e w' ⟨h1, h2⟩ => ⟨h1, by rw [h2]; exact Turned.of_below hst (Below.refl _ _)⟩
  · have e : aPut ((l1 ++ f :: l2).map FV.abs) l1.length text = (0, ((l1 ++ f :: l2).map FV.abs).set l1.length ⟨f.name, f.text ++ text⟩) := by rw [aPut, fileAt_mid, if_neg h16]
    rw [e]
    exact put_some B g n cap l1 l2 f text w hr h0 (by omega)

end Go.Proofs.Ytlndphpidkacgaa
