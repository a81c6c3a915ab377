/- The walk of Do: rename, append, read. -/
import Derived.Test.YtlndphpidkacgaaWj
import Derived.Lib.BufferRead
namespace Go.Proofs.Ytlndphpidkacgaa
open Go.RowKit
set_option linter.unusedSimpArgs false
set_option linter.unusedVariables false

set_option maxHeartbeats 1000000 in
theorem Do_rename (a b t : ByteArray) (B : Nat) (own : List Nat) (st : List AFile) (w : World) (hr : St w B own st) (hi : Inv st) (ha : a.size ≤ maxLen) (hb : b.size ≤ maxLen) (ht : t.size ≤ maxLen) (hc : checkI ⟨3, a, b, t⟩ = 0) (hf : 0 ≤ fInt a st) (hs : b.size ≤ 1000) :
    Calls Try.prog 20 #[.pointer (some ⟨B, 0, none⟩), .agg #[.int .i64 3, .string a, .string b, .string t]] w
      fun e w' => e = .returned (.agg #[.int .i64 (aRename st (fIdx a st) b).1, .string ⟨#[]⟩]) ∧ Turned w B own w' (aRename st (fIdx a st) b).2 := by
  have hcon := Check_any 3 a b t (doW w 3 a b t) ha hb ht
  have hin := DoIn.start w 3 a b t
  rw [hc] at hcon
  have HI := hide hin
  have HS := hide hr
  have HV := hide hi
  have hl := hi.few
  have hcr : ∀ W : World, St W B own st → Calls Try.prog 60 #[.pointer (some ⟨B, 0, none⟩), .string a] W fun e w' => e = .returned (.int .i64 (fInt a st)) ∧ Below W.heap.size W w' := fun W h => find_any a B own st W h (by omega)
  have HC := hide hcr
  obtain ⟨g, n, cap, l1, l2, f, hrep, hown, rfl, hn, hix, hit⟩ := hr.at_file a hf
  rw [hix]
  rw [hit] at HC
  have hnl : n ≤ 1000 := by rw [hn]; simp at hl ⊢; omega
  have hln : (l1.length : Int) < (n : Int) := by rw [hn]; simp; omega
  have HRep := hide hrep
  have HN := hide hn
  have HW := hide hown
  have hre : ∀ W : World, Rep W B (.slice (some ⟨g, 0, none⟩) n cap) (l1 ++ f :: l2) → Calls Try.prog 62 #[.pointer (some ⟨B, 0, none⟩), .int .i64 (l1.length : Int), .string b] W fun e w' => e = .returned (.int .i64 (aRename ((l1 ++ f :: l2).map FV.abs) l1.length b).1) ∧ Turned W B (owns B (.slice (some ⟨g, 0, none⟩) n cap) (l1 ++ f :: l2)) w' (aRename ((l1 ++ f :: l2).map FV.abs) l1.length b).2 :=
    fun W h => rename_any b B g n cap l1 l2 f W h hn hnl hs
  have HE := hide hre
  clear hre
  generalize (aRename ((l1 ++ f :: l2).map FV.abs) l1.length b).1 = code at HE ⊢
  generalize (aRename ((l1 ++ f :: l2).map FV.abs) l1.length b).2 = st' at HE ⊢
  unfold doW at hcon
  clear hin hr hc hi hcr hf hix hit hrep hown hn hl
  go_enter Try.func20, Try.ntmps20
  go_wp2_with fail
  refine hcon.mono ?_
  rintro e w1 ⟨rfl, b1⟩
  have h1 := (unhide HI).later b1
  have HH := hide h1
  have k0 := h1.k0
  have k1 := h1.k1
  have HS1 := hide ((unhide HS).below h1.below)
  clear h1 b1
  go_wp2_with fail
  refine ((unhide HC) _ (unhide HS1)).mono ?_
  rintro e w2 ⟨rfl, b2⟩
  have h3 := (unhide HH).later b2
  have HH3 := hide h3
  have HR2 := hide ((unhide HRep).below h3.below)
  have k03 := h3.k0
  have k13 := h3.k1
  have k23 := h3.k2
  have k33 := h3.k3
  have cB := (unhide HR2).cellB
  have hl0 : (0 : Int) ≤ (l1.length : Int) := by omega
  clear h3 b2 k0 k1
  go_wp2_with fail
  refine ((unhide HE) _ (unhide HR2)).mono ?_
  rintro e w3 ⟨rfl, hT⟩
  rw [← unhide HW] at hT
  have hnb : w.heap.size + 1 ∉ own := fun hm => by have := (unhide HS).lt hm; omega
  have c0 := hT.can (unhide HH3).a0 hnb
  have c1 := hT.can (unhide HH3).a1 hnb
  have e1 := c0.1
  have e2 := c0.2
  have e3 := c1.1
  have e4 := c1.2
  have q0 := ans0 (.int .i64 code) (.string ⟨#[]⟩) e1
  have q1 := ans1 (.int .i64 code) (.string ⟨#[]⟩) e3
  have HT := hide hT
  clear hT c0 c1 hnb cB
  go_wp2
  refine bodyPost_ret (v := .agg #[.int .i64 code, .string ⟨#[]⟩]) (by simp [results, Try.results20, go_sem, q0, q1]) rfl ⟨rfl, ?_⟩
  exact Turned.store (unhide HH3).below (unhide HT) (fun k hk => (unhide HS).lt hk) (Nat.le_succ _) (unhide HH3).size (kept_two _ _ _ _)

theorem textB_size {s : ByteArray} (h : textB s = true) : 1 ≤ s.size ∧ s.size ≤ 8 := by
  simp only [textB, withinB, Bool.and_eq_true, decide_eq_true_eq] at h
  omega

set_option maxRecDepth 100000 in
set_option maxHeartbeats 2000000 in
theorem Do_append (a b t : ByteArray) (B : Nat) (own : List Nat) (st : List AFile) (w : World) (hr : St w B own st) (hi : Inv st) (ha : a.size ≤ maxLen) (hb : b.size ≤ maxLen) (ht : t.size ≤ maxLen) (hc : checkI ⟨4, a, b, t⟩ = 0) (hf : 0 ≤ fInt a st) (hs : textB t = true) :
    Calls Try.prog 20 #[.pointer (some ⟨B, 0, none⟩), .agg #[.int .i64 4, .string a, .string b, .string t]] w
      fun e w' => e = .returned (.agg #[.int .i64 (aPut st (fIdx a st) t).1, .string ⟨#[]⟩]) ∧ Turned w B own w' (aPut st (fIdx a st) t).2 := by
  have hcon := Check_any 4 a b t (doW w 4 a b t) ha hb ht
  have hin := DoIn.start w 4 a b t
  rw [hc] at hcon
  have HI := hide hin
  have HS := hide hr
  have HV := hide hi
  have hl := hi.few
  have hcr : ∀ W : World, St W B own st → Calls Try.prog 60 #[.pointer (some ⟨B, 0, none⟩), .string a] W fun e w' => e = .returned (.int .i64 (fInt a st)) ∧ Below W.heap.size W w' := fun W h => find_any a B own st W h (by omega)
  have HC := hide hcr
  obtain ⟨g, n, cap, l1, l2, f, hrep, hown, rfl, hn, hix, hit⟩ := hr.at_file a hf
  rw [hix]
  rw [hit] at HC
  have hnl : n ≤ 1000 := by rw [hn]; simp at hl ⊢; omega
  have hln : (l1.length : Int) < (n : Int) := by rw [hn]; simp; omega
  have HRep := hide hrep
  have HN := hide hn
  have HW := hide hown
  have hsz := textB_size hs
  have hfs : f.text.size ≤ 1000 := by have := hi.short f.abs (List.mem_map.2 ⟨f, by simp, rfl⟩); simp [FV.abs] at this; omega
  have hre : ∀ W : World, Rep W B (.slice (some ⟨g, 0, none⟩) n cap) (l1 ++ f :: l2) → Calls Try.prog 63 #[.pointer (some ⟨g, l1.length * 2, none⟩), .string t] W fun e w' => e = .returned (.int .i64 (aPut ((l1 ++ f :: l2).map FV.abs) l1.length t).1) ∧ Turned W B (owns B (.slice (some ⟨g, 0, none⟩) n cap) (l1 ++ f :: l2)) w' (aPut ((l1 ++ f :: l2).map FV.abs) l1.length t).2 :=
    fun W h => put_any B g n cap l1 l2 f t W h hfs (by omega) (by omega)
  have HE := hide hre
  clear hre hs
  generalize (aPut ((l1 ++ f :: l2).map FV.abs) l1.length t).1 = code at HE ⊢
  generalize (aPut ((l1 ++ f :: l2).map FV.abs) l1.length t).2 = st' at HE ⊢
  unfold doW at hcon
  clear hin hr hc hi hcr hf hix hit hrep hown hn hl
  go_enter Try.func20, Try.ntmps20
  go_wp2_with fail
  refine hcon.mono ?_
  rintro e w1 ⟨rfl, b1⟩
  have h1 := (unhide HI).later b1
  have HH := hide h1
  have k0 := h1.k0
  have k1 := h1.k1
  have HS1 := hide ((unhide HS).below h1.below)
  clear h1 b1
  go_wp2_with fail
  refine ((unhide HC) _ (unhide HS1)).mono ?_
  rintro e w2 ⟨rfl, b2⟩
  have h3 := (unhide HH).later b2
  have HH3 := hide h3
  have HR2 := hide ((unhide HRep).below h3.below)
  have k03 := h3.k0
  have k13 := h3.k1
  have k23 := h3.k2
  have k33 := h3.k3
  have cB := (unhide HR2).cellB
  have hl0 : (0 : Int) ≤ (l1.length : Int) := by omega
  clear h3 b2 k0 k1
  have HR3 : Hid (Rep w2.drew B (.slice (some ⟨g, 0, none⟩) n cap) (l1 ++ f :: l2)) := (unhide HR2).below ⟨rfl, rfl, rfl, Nat.le_refl _, fun _ _ => rfl⟩
  have HH4 : Hid (DoIn w 4 a b t w2.drew) := (unhide HH3).later ⟨rfl, rfl, rfl, Nat.le_refl _, fun _ _ => rfl⟩
  have hnb : w.heap.size + 1 ∉ own := fun hm => by have := (unhide HS).lt hm; omega
  have HNB := hide hnb
  clear hnb
  go_wp2_with fail
  go_region_law (go_simp; go_at_call 63; refine ((unhide HE) _ (unhide HR3)).mono ?_; rintro e w3 ⟨rfl, hT⟩; rw [← unhide HW] at hT; have c0 := hT.can (unhide HH4).a0 (unhide HNB); have c1 := hT.can (unhide HH4).a1 (unhide HNB); have e1 := c0.1; have e2 := c0.2; have e3 := c1.1; have e4 := c1.2; have HT := hide hT; clear hT c0 c1)
  all_goals
    have q0 := ans0 (.int .i64 code) (.string ⟨#[]⟩) e1
    have q1 := ans1 (.int .i64 code) (.string ⟨#[]⟩) e3
    go_wp2
    refine bodyPost_ret (v := .agg #[.int .i64 code, .string ⟨#[]⟩]) (by simp [results, Try.results20, go_sem, q0, q1]) rfl ⟨rfl, ?_⟩
    exact Turned.store (unhide HH4).below (unhide HT) (fun k hk => (unhide HS).lt hk) (Nat.le_succ _) (unhide HH4).size (kept_two _ _ _ _)

/-- A text read out of its row. -/
theorem conv_back (w : World) (v : Value) (s : ByteArray) (hown : w.ownsRow 0 5 1 v s.size (byteVals s)) : (convert 48 9 v).run Try.prog w = .ok (.string s) w := by
  rcases hown.2 with ⟨rfl, h0⟩ | ⟨g, cap, cur, rfl, _, hh, _, _, hcs, htk⟩
  · rw [Lib.run_convert_nil_bytes w 48 9 5 0 Try.underlying48 Try.underlying5 Try.underlying9]
    have : s = ⟨#[]⟩ := by
      cases s with
      | mk d => simp [ByteArray.size] at h0; simp [h0]
    rw [this]
  · have hl : s.data.toList.length = s.size := by rw [Array.length_toList]; rfl
    have hc := run_convert_bytes_back (P := Try.prog) w 48 9 5 ⟨g, 0, none⟩ cap s.data.toList Try.underlying48 Try.underlying5 Try.underlying9 (fun j hj => by
      have := World.ownsRow.cells (v := .slice (some ⟨g, 0, none⟩) s.size cap) hown (g := g) rfl j (.int .u8 (s.data.toList[j].toNat : Int)) (by simp [byteVals]; rw [Array.getElem?_eq_getElem (by simpa using hj)]; simp)
      exact this)
    rw [hl] at hc
    simpa using hc

set_option maxRecDepth 100000 in
set_option maxHeartbeats 1000000 in
theorem Do_read (a b t : ByteArray) (B : Nat) (own : List Nat) (st : List AFile) (w : World) (hr : St w B own st) (hi : Inv st) (ha : a.size ≤ maxLen) (hb : b.size ≤ maxLen) (ht : t.size ≤ maxLen) (hc : checkI ⟨5, a, b, t⟩ = 0) (hf : 0 ≤ fInt a st) :
    Calls Try.prog 20 #[.pointer (some ⟨B, 0, none⟩), .agg #[.int .i64 5, .string a, .string b, .string t]] w
      fun e w' => e = .returned (.agg #[.int .i64 0, .string (fileAt st (fIdx a st)).text]) ∧ Turned w B own w' st := by
  have hcon := Check_any 5 a b t (doW w 5 a b t) ha hb ht
  have hin := DoIn.start w 5 a b t
  rw [hc] at hcon
  have HI := hide hin
  have HS := hide hr
  have HV := hide hi
  have hl := hi.few
  have hcr : ∀ W : World, St W B own st → Calls Try.prog 60 #[.pointer (some ⟨B, 0, none⟩), .string a] W fun e w' => e = .returned (.int .i64 (fInt a st)) ∧ Below W.heap.size W w' := fun W h => find_any a B own st W h (by omega)
  have HC := hide hcr
  obtain ⟨g, n, cap, l1, l2, f, hrep, hown, rfl, hn, hix, hit⟩ := hr.at_file a hf
  rw [hix]
  rw [hit] at HC
  have hnl : n ≤ 1000 := by rw [hn]; simp at hl ⊢; omega
  have hln : (l1.length : Int) < (n : Int) := by rw [hn]; simp; omega
  have HRep := hide hrep
  have HN := hide hn
  have HW := hide hown
  have hfa : (fileAt ((l1 ++ f :: l2).map FV.abs) l1.length).text = f.text := by rw [fileAt_mid]
  rw [hfa]
  clear hfa
  unfold doW at hcon
  clear hin hr hc hi hcr hf hix hit hrep hown hn hl
  go_enter Try.func20, Try.ntmps20
  go_wp2_with fail
  refine hcon.mono ?_
  rintro e w1 ⟨rfl, b1⟩
  have h1 := (unhide HI).later b1
  have HH := hide h1
  have k0 := h1.k0
  have k1 := h1.k1
  have HS1 := hide ((unhide HS).below h1.below)
  clear h1 b1
  go_wp2_with fail
  refine ((unhide HC) _ (unhide HS1)).mono ?_
  rintro e w2 ⟨rfl, b2⟩
  have h3 := (unhide HH).later b2
  have HH3 := hide h3
  have HR2 := hide ((unhide HRep).below h3.below)
  have k03 := h3.k0
  have k13 := h3.k1
  have k23 := h3.k2
  have k33 := h3.k3
  have cB := (unhide HR2).cellB
  have hl0 : (0 : Int) ≤ (l1.length : Int) := by omega
  clear h3 b2 k0 k1
  have cF := ((unhide HR2).file l1.length f mid_get).2
  obtain ⟨ta, tc, htv⟩ := row_form ((unhide HR2).texts f (by simp))
  have hcv := conv_back w2 f.tv f.text ((unhide HR2).texts f (by simp))
  rw [htv] at cF hcv
  have h3 := unhide HH3
  have e1 := h3.a0.1
  have e2 := h3.a0.2
  have e3 := h3.a1.1
  have e4 := h3.a1.2
  have q0 := ans0 (.int .i64 0) (.string f.text) e1
  have q1 := ans1 (.int .i64 0) (.string f.text) e3
  clear h3 htv
  generalize hts : f.text.size = ts at cF hcv
  clear hts
  go_wp2
  refine bodyPost_ret (v := .agg #[.int .i64 0, .string f.text]) (by simp [results, Try.results20, go_sem, q0, q1]) rfl ⟨rfl, ?_⟩
  have hT := Turned.of_below ((unhide HS).below (unhide HH3).below) (Below.refl _ w2)
  exact Turned.store (unhide HH3).below hT (fun k hk => (unhide HS).lt hk) (Nat.le_succ _) (unhide HH3).size (kept_two _ _ _ _)

end Go.Proofs.Ytlndphpidkacgaa
