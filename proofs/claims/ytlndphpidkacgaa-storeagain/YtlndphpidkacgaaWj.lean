/- The walk of Do: calls of a file that is there, or is not. -/
import Derived.Test.YtlndphpidkacgaaWi
namespace Go.Proofs.Ytlndphpidkacgaa
open Go.RowKit
set_option linter.unusedSimpArgs false
set_option linter.unusedVariables false

set_option maxHeartbeats 1000000 in
theorem Do_none (k : Int) (a b t : ByteArray) (B : Nat) (own : List Nat) (st : List AFile) (w : World) (hr : St w B own st) (hi : Inv st) (ha : a.size ≤ maxLen) (hb : b.size ≤ maxLen) (ht : t.size ≤ maxLen) (hc : checkI ⟨k, a, b, t⟩ = 0)
    (h1 : k ≠ 1) (h6 : k ≠ 6) (hf : fInt a st < 0) :
    Calls Try.prog 20 #[.pointer (some ⟨B, 0, none⟩), .agg #[.int .i64 k, .string a, .string b, .string t]] w
      fun e w' => e = .returned (.agg #[.int .i64 6, .string ⟨#[]⟩]) ∧ Turned w B own w' st := by
  have hcon := Check_any k a b t (doW w k a b t) ha hb ht
  have hin := DoIn.start w k a b t
  rw [hc] at hcon
  have HI := hide hin
  have HS := hide hr
  have hl := hi.few
  have hcr : ∀ W : World, St W B own st → Calls Try.prog 60 #[.pointer (some ⟨B, 0, none⟩), .string a] W fun e w' => e = .returned (.int .i64 (fInt a st)) ∧ Below W.heap.size W w' := fun W h => find_any a B own st W h (by omega)
  have HC := hide hcr
  generalize fInt a st = res at HC hf
  have n1 : (k == 1) = false := by simpa using h1
  have n6 : (k == 6) = false := by simpa using h6
  unfold doW at hcon
  clear hin hr hc hi hcr h1 h6
  go_enter Try.func20, Try.ntmps20
  go_wp2_with fail
  refine hcon.mono ?_
  rintro e w1 ⟨rfl, b1⟩
  have h1 := (unhide HI).later b1
  have HH := hide h1
  have k0 := h1.k0
  have k1 := h1.k1
  have HS1 := hide ((unhide HS).below h1.below)
  clear h1 b1
  go_wp2_with fail
  refine ((unhide HC) _ (unhide HS1)).mono ?_
  rintro e w2 ⟨rfl, b2⟩
  have h3 := (unhide HH).later b2
  have HH3 := hide h3
  have e1 := h3.a0.1
  have e2 := h3.a0.2
  have e3 := h3.a1.1
  have e4 := h3.a1.2
  have q0 := ans0 (.int .i64 6) (.string ⟨#[]⟩) e1
  have q1 := ans1 (.int .i64 6) (.string ⟨#[]⟩) e3
  clear h3 b2 k0 k1
  go_wp2
  refine bodyPost_ret (v := .agg #[.int .i64 6, .string ⟨#[]⟩]) (by simp [results, Try.results20, go_sem, q0, q1]) rfl ⟨rfl, ?_⟩
  have hT := Turned.of_below ((unhide HS).below (unhide HH3).below) (Below.refl _ w2)
  exact Turned.store (unhide HH3).below hT (fun k hk => (unhide HS).lt hk) (Nat.le_succ _) (unhide HH3).size (kept_two _ _ _ _)

/-- A file that is there: the object taken apart at it. -/
theorem St.at_file {w : World} {B : Nat} {own : List Nat} {st : List AFile} (h : St w B own st) (name : ByteArray) (hf : 0 ≤ fInt name st) :
    ∃ (g n cap : Nat) (l1 l2 : List FV) (f : FV), Rep w B (.slice (some ⟨g, 0, none⟩) n cap) (l1 ++ f :: l2) ∧ own = owns B (.slice (some ⟨g, 0, none⟩) n cap) (l1 ++ f :: l2) ∧ st = (l1 ++ f :: l2).map FV.abs ∧
      n = (l1 ++ f :: l2).length ∧ fIdx name st = l1.length ∧ fInt name st = (l1.length : Int) := by
  obtain ⟨v, fs, hr, rfl, rfl⟩ := h
  obtain ⟨h1, h2⟩ := fIdx_spec name _ hf
  have h3 : fIdx name (fs.map FV.abs) < fs.length := by simpa using h1
  obtain ⟨l1, l2, hfs, hl⟩ := split_at (List.getElem?_eq_getElem h3)
  generalize fs[fIdx name (fs.map FV.abs)] = f at hfs
  have hn : 0 < fs.length := by omega
  rcases hr.row.2 with ⟨e, h0⟩ | ⟨g, cap, cur, rfl, _⟩
  · omega
  refine ⟨g, fs.length, cap, l1, l2, f, ?_, ?_, by rw [← hfs], by rw [← hfs], hl.symm, by rw [h2, hl]⟩
  · rw [← hfs]; exact hr
  · rw [← hfs]

set_option maxHeartbeats 1000000 in
theorem Do_remove (a b t : ByteArray) (B : Nat) (own : List Nat) (st : List AFile) (w : World) (hr : St w B own st) (hi : Inv st) (ha : a.size ≤ maxLen) (hb : b.size ≤ maxLen) (ht : t.size ≤ maxLen) (hc : checkI ⟨2, a, b, t⟩ = 0) (hf : 0 ≤ fInt a st) :
    Calls Try.prog 20 #[.pointer (some ⟨B, 0, none⟩), .agg #[.int .i64 2, .string a, .string b, .string t]] w
      fun e w' => e = .returned (.agg #[.int .i64 0, .string ⟨#[]⟩]) ∧ Turned w B own w' (st.eraseIdx (fIdx a st)) := by
  have hcon := Check_any 2 a b t (doW w 2 a b t) ha hb ht
  have hin := DoIn.start w 2 a b t
  rw [hc] at hcon
  have HI := hide hin
  have HS := hide hr
  have hl := hi.few
  have hcr : ∀ W : World, St W B own st → Calls Try.prog 60 #[.pointer (some ⟨B, 0, none⟩), .string a] W fun e w' => e = .returned (.int .i64 (fInt a st)) ∧ Below W.heap.size W w' := fun W h => find_any a B own st W h (by omega)
  have HC := hide hcr
  obtain ⟨g, n, cap, l1, l2, f, hrep, hown, rfl, hn, hix, hit⟩ := hr.at_file a hf
  have hst : ((l1 ++ f :: l2).map FV.abs).eraseIdx l1.length = (l1 ++ l2).map FV.abs := by
    rw [List.map_append, List.map_cons, List.eraseIdx_append_of_length_le (by simp)]
    simp
  rw [hix, hst]
  rw [hit] at HC
  have hnl : n ≤ 1000 := by rw [hn]; simp at hl ⊢; omega
  have HRep := hide hrep
  have HN := hide hn
  have HW := hide hown
  generalize hq : (l1 ++ l2).map FV.abs = st' 
  have HQ := hide hq
  unfold doW at hcon
  clear hin hr hc hi hcr hf hix hit hst hrep hown hn hl hq
  go_enter Try.func20, Try.ntmps20
  go_wp2_with fail
  refine hcon.mono ?_
  rintro e w1 ⟨rfl, b1⟩
  have h1 := (unhide HI).later b1
  have HH := hide h1
  have k0 := h1.k0
  have k1 := h1.k1
  have HS1 := hide ((unhide HS).below h1.below)
  clear h1 b1
  go_wp2_with fail
  refine ((unhide HC) _ (unhide HS1)).mono ?_
  rintro e w2 ⟨rfl, b2⟩
  have h3 := (unhide HH).later b2
  have HH3 := hide h3
  have HR2 := hide ((unhide HRep).below h3.below)
  have k03 := h3.k0
  have cB := (unhide HR2).cellB
  have hl0 : (0 : Int) ≤ (l1.length : Int) := by omega
  have hl9 : (l1.length : Int) ≤ 1000 := by have := unhide HN; rw [List.length_append, List.length_cons] at this; omega
  clear h3 b2 k0 k1
  go_wp2_with fail
  refine (Delete_rep B g n cap l1 l2 f _ (unhide HR2) (unhide HN) hnl).mono ?_
  rintro e w3 ⟨rfl, hcan, hsz, hT⟩
  rw [← unhide HW, unhide HQ] at hT
  have hnb : w.heap.size + 1 ∉ own := fun hm => by have := (unhide HS).lt hm; omega
  have c0 := hT.can (unhide HH3).a0 hnb
  have c1 := hT.can (unhide HH3).a1 hnb
  have x1 := hcan.1
  have x2 := hcan.2
  have e1 := c0.1
  have e2 := c0.2
  have e3 := c1.1
  have e4 := c1.2
  have q0 := ans0 (.int .i64 0) (.string ⟨#[]⟩) e1
  have q1 := ans1 (.int .i64 0) (.string ⟨#[]⟩) e3
  have HT := hide hT
  clear hT c0 c1 hnb hcan hsz cB
  go_wp2
  refine bodyPost_ret (v := .agg #[.int .i64 0, .string ⟨#[]⟩]) (by simp [results, Try.results20, go_sem, q0, q1]) rfl ⟨rfl, ?_⟩
  exact Turned.store (unhide HH3).below (unhide HT) (fun k hk => (unhide HS).lt hk) (Nat.le_succ _) (unhide HH3).size (kept_two _ _ _ _)

end Go.Proofs.Ytlndphpidkacgaa
