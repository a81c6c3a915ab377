/- The walk of Do, case by case. -/
import Derived.Test.YtlndphpidkacgaaPlain2
namespace Go.Proofs.Ytlndphpidkacgaa
open Go.RowKit
set_option linter.unusedSimpArgs false
set_option linter.unusedVariables false

/-- The world in which Do has laid its call and its answer. -/
def doW (w : World) (k : Int) (a b t : ByteArray) : World := (w.alloc (.cells #[.int .i64 k, .string a, .string b, .string t] 32)).alloc (.cells #[.int .i64 0, .string ⟨#[]⟩] 34)

theorem doW_size (w : World) (k : Int) (a b t : ByteArray) : (doW w k a b t).heap.size = w.heap.size + 1 + 1 := by simp [doW]
theorem doW_below (w : World) (k : Int) (a b t : ByteArray) : Below w.heap.size w (doW w k a b t) := ((Below.refl _ _).alloc (Nat.le_refl _) _).alloc (by simp) _

/-- What of it stands in a later world. -/
structure DoIn (w : World) (k : Int) (a b t : ByteArray) (w1 : World) : Prop where
  below : Below w.heap.size w w1
  size : w.heap.size + 1 < w1.heap.size
  k0 : w1.cell? ⟨w.heap.size, 0, none⟩ = some (.int .i64 k)
  k1 : w1.cell? ⟨w.heap.size, 1, none⟩ = some (.string a)
  k2 : w1.cell? ⟨w.heap.size, 2, none⟩ = some (.string b)
  k3 : w1.cell? ⟨w.heap.size, 3, none⟩ = some (.string t)
  a0 : Can w1 (w.heap.size + 1) 0 (.int .i64 0)
  a1 : Can w1 (w.heap.size + 1) 1 (.string ⟨#[]⟩)

theorem DoIn.start (w : World) (k : Int) (a b t : ByteArray) : DoIn w k a b t (doW w k a b t) := by
  refine ⟨doW_below w k a b t, by rw [doW_size]; omega, ?_, ?_, ?_, ?_, ⟨?_, ?_⟩, ⟨?_, ?_⟩⟩ <;> simp [doW]
theorem DoIn.later {w w1 w2 : World} {k : Int} {a b t : ByteArray} (h : DoIn w k a b t w1) (hb : Below w1.heap.size w1 w2) : DoIn w k a b t w2 := by
  have hs := h.size
  have hz := hb.size
  have e : ∀ o, w2.cell? ⟨w.heap.size, o, none⟩ = w1.cell? ⟨w.heap.size, o, none⟩ := fun o => hb.cell (p := ⟨w.heap.size, o, none⟩) (show w.heap.size < w1.heap.size by omega)
  exact ⟨h.below.trans (hb.mono (by omega)), by omega, (e 0).trans h.k0, (e 1).trans h.k1, (e 2).trans h.k2, (e 3).trans h.k3, h.a0.below hb (by omega), h.a1.below hb (by omega)⟩

theorem kept_two (b : Nat) (w : World) (x y : Value) : Kept [b] w ((w.setCell ⟨b, 0, none⟩ x).setCell ⟨b, 1, none⟩ y) :=
  (kept_setCell [b] w b 0 x (by simp)).trans (kept_setCell [b] _ b 1 y (by simp)) (fun _ hx => .inl hx)

theorem ans0 {w : World} {b : Nat} {u : Value} (x y : Value) (h : w.cell? ⟨b, 0, none⟩ = some u) : ((w.setCell ⟨b, 0, none⟩ x).setCell ⟨b, 1, none⟩ y).cell? ⟨b, 0, none⟩ = some x := by
  rw [World.cell?_setCell_other _ _ _ _ (by simp)]
  exact World.cell?_setCell_same _ _ _ h
theorem ans1 {w : World} {b : Nat} {u : Value} (x y : Value) (h : w.cell? ⟨b, 1, none⟩ = some u) : ((w.setCell ⟨b, 0, none⟩ x).setCell ⟨b, 1, none⟩ y).cell? ⟨b, 1, none⟩ = some y := by
  have h2 : (w.setCell ⟨b, 0, none⟩ x).cell? ⟨b, 1, none⟩ = some u := by
    rw [World.cell?_setCell_other _ _ _ _ (by simp)]
    exact h
  exact World.cell?_setCell_same _ _ _ h2

set_option maxHeartbeats 1000000 in
theorem Do_code (k : Int) (a b t : ByteArray) (B : Nat) (own : List Nat) (st : List AFile) (w : World) (hr : St w B own st) (ha : a.size ≤ maxLen) (hb : b.size ≤ maxLen) (ht : t.size ≤ maxLen) (hc : checkI ⟨k, a, b, t⟩ ≠ 0) :
    Calls Try.prog 20 #[.pointer (some ⟨B, 0, none⟩), .agg #[.int .i64 k, .string a, .string b, .string t]] w
      fun e w' => e = .returned (.agg #[.int .i64 (checkI ⟨k, a, b, t⟩), .string ⟨#[]⟩]) ∧ Turned w B own w' st := by
  have hcon := Check_any k a b t (doW w k a b t) ha hb ht
  have hin := DoIn.start w k a b t
  generalize checkI ⟨k, a, b, t⟩ = code at hcon hc ⊢
  have hc1 : (code != 0) = true := by simpa using hc
  have HI := hide hin
  have HS := hide hr
  unfold doW at hcon
  clear hin hr hc
  go_enter Try.func20, Try.ntmps20
  go_wp2_with fail
  refine hcon.mono ?_
  rintro e w1 ⟨rfl, b1⟩
  have h1 := (unhide HI).later b1
  have HH := hide h1
  have e1 := h1.a0.1
  have e2 := h1.a0.2
  have e3 := h1.a1.1
  have e4 := h1.a1.2
  clear h1 b1
  have q0 := ans0 (.int .i64 code) (.string ⟨#[]⟩) e1
  have q1 := ans1 (.int .i64 code) (.string ⟨#[]⟩) e3
  go_wp2
  refine bodyPost_ret (v := .agg #[.int .i64 code, .string ⟨#[]⟩]) (by simp [results, Try.results20, go_sem, q0, q1]) rfl ⟨rfl, ?_⟩
  have hT := Turned.of_below ((unhide HS).below (unhide HH).below) (Below.refl _ w1)
  exact Turned.store (unhide HH).below hT (fun k hk => (unhide HS).lt hk) (Nat.le_succ _) (unhide HH).size (kept_two _ _ _ _)


set_option maxHeartbeats 1000000 in
theorem Do_make (a b t : ByteArray) (B : Nat) (own : List Nat) (st : List AFile) (w : World) (hr : St w B own st) (hi : Inv st) (ha : a.size ≤ maxLen) (hb : b.size ≤ maxLen) (ht : t.size ≤ maxLen) (hc : checkI ⟨1, a, b, t⟩ = 0) (hs : a.size ≤ 1000) :
    Calls Try.prog 20 #[.pointer (some ⟨B, 0, none⟩), .agg #[.int .i64 1, .string a, .string b, .string t]] w
      fun e w' => e = .returned (.agg #[.int .i64 (aCreate st a).1, .string ⟨#[]⟩]) ∧ Turned w B own w' (aCreate st a).2 := by
  have hcon := Check_any 1 a b t (doW w 1 a b t) ha hb ht
  have hin := DoIn.start w 1 a b t
  rw [hc] at hcon
  have HI := hide hin
  have HS := hide hr
  have HV := hide hi
  have hcr : ∀ W : World, St W B own st → Calls Try.prog 58 #[.pointer (some ⟨B, 0, none⟩), .string a] W fun e w' => e = .returned (.int .i64 (aCreate st a).1) ∧ Turned W B own w' (aCreate st a).2 := fun W h => create_any a B own st W h hi hs
  have HC := hide hcr
  generalize (aCreate st a).1 = code at HC ⊢
  generalize (aCreate st a).2 = st' at HC ⊢
  unfold doW at hcon
  clear hin hr hc hi hcr
  go_enter Try.func20, Try.ntmps20
  go_wp2_with fail
  refine hcon.mono ?_
  rintro e w1 ⟨rfl, b1⟩
  have h1 := (unhide HI).later b1
  have HH := hide h1
  have k0 := h1.k0
  have k1 := h1.k1
  have HS1 := hide ((unhide HS).below h1.below)
  clear h1 b1
  go_wp2_with fail
  refine ((unhide HC) _ (unhide HS1)).mono ?_
  rintro e w2 ⟨rfl, hT⟩
  have hnb : w.heap.size + 1 ∉ own := fun hm => by have := (unhide HS).lt hm; omega
  have c0 := hT.can (unhide HH).a0 hnb
  have c1 := hT.can (unhide HH).a1 hnb
  have e1 := c0.1
  have e2 := c0.2
  have e3 := c1.1
  have e4 := c1.2
  have q0 := ans0 (.int .i64 code) (.string ⟨#[]⟩) e1
  have q1 := ans1 (.int .i64 code) (.string ⟨#[]⟩) e3
  have HT := hide hT
  clear hT c0 c1 hnb k0 k1
  go_wp2
  refine bodyPost_ret (v := .agg #[.int .i64 code, .string ⟨#[]⟩]) (by simp [results, Try.results20, go_sem, q0, q1]) rfl ⟨rfl, ?_⟩
  exact Turned.store (unhide HH).below (unhide HT) (fun k hk => (unhide HS).lt hk) (Nat.le_succ _) (unhide HH).size (kept_two _ _ _ _)

set_option maxHeartbeats 1000000 in
theorem Do_list (a b t : ByteArray) (B : Nat) (own : List Nat) (st : List AFile) (w : World) (hr : St w B own st) (hi : Inv st) (ha : a.size ≤ maxLen) (hb : b.size ≤ maxLen) (ht : t.size ≤ maxLen) (hc : checkI ⟨6, a, b, t⟩ = 0)
    (hj : (Lib.join ((sNames st).map (·.data.toList)) [32]).length ≤ 1000000) :
    Calls Try.prog 20 #[.pointer (some ⟨B, 0, none⟩), .agg #[.int .i64 6, .string a, .string b, .string t]] w
      fun e w' => e = .returned (.agg #[.int .i64 0, .string (joinNames st)]) ∧ Turned w B own w' st := by
  have hcon := Check_any 6 a b t (doW w 6 a b t) ha hb ht
  have hin := DoIn.start w 6 a b t
  rw [hc] at hcon
  have HI := hide hin
  have HS := hide hr
  have h6 := hi.few
  have hnm : ∀ f, f ∈ st → f.name.size ≤ 1000 := fun f hf => by have := nameB_size (hi.named f hf); omega
  have hlen : (sNames st).length = st.length := by simp [sNames, sortB_length]
  have hcr : ∀ W : World, St W B own st → Calls Try.prog 23 #[.pointer (some ⟨B, 0, none⟩)] W fun e w' => ∃ g cap, e = .returned (.slice (some ⟨g, 0, none⟩) st.length cap) ∧ w'.ownsRow W.heap.size 9 1 (.slice (some ⟨g, 0, none⟩) st.length cap) st.length ((sNames st).map .string) ∧ Below W.heap.size W w' :=
    fun W h => Names_any B own st W h (by omega) hnm
  have hjo : ∀ (W : World) (N g cap : Nat), W.ownsRow N 9 1 (.slice (some ⟨g, 0, none⟩) st.length cap) st.length ((sNames st).map .string) → Calls Try.prog 59 #[.slice (some ⟨g, 0, none⟩) st.length cap, .string ⟨#[32]⟩] W fun e w' => e = .returned (.string (joinNames st)) ∧ Below W.heap.size W w' := by
    intro W N g cap hown
    rw [← hlen]
    refine Try.strings_Join g 0 cap (sNames st) ⟨#[32]⟩ W ?_ (hown.lt g rfl).2 (by omega) ?_ (by show (Lib.join ((sNames st).map (·.data.toList)) [32]).length ≤ _; omega)
    · intro j x hx
      have := hown.cells (g := g) rfl j (.string x) (by rw [List.getElem?_map, hx]; rfl)
      have e : (⟨g, 0, none⟩ : Addr).add j = ⟨g, 0 + j, none⟩ := by unfold Addr.add; split <;> simp_all
      rw [e] at this
      exact this
    · rcases hown.2 with ⟨e, _⟩ | ⟨g', cap', cur, he, _, _, hnc, _⟩
      · cases e
      · obtain ⟨_, rfl⟩ : g = g' ∧ cap = cap' := by simpa using he
        omega
  have HC := hide hcr
  have HJ := hide hjo
  generalize joinNames st = jt at HJ ⊢
  unfold doW at hcon
  clear hin hr hc hi hcr hjo hj
  go_enter Try.func20, Try.ntmps20
  go_wp2_with fail
  refine hcon.mono ?_
  rintro e w1 ⟨rfl, b1⟩
  have h1 := (unhide HI).later b1
  have HH := hide h1
  have k0 := h1.k0
  have k1 := h1.k1
  have HS1 := hide ((unhide HS).below h1.below)
  clear h1 b1
  go_wp2_with fail
  refine ((unhide HC) _ (unhide HS1)).mono ?_
  rintro e w2 ⟨g, cap, rfl, hown, b2⟩
  have HO := hide hown
  have HB2 := hide b2
  clear hown b2
  go_wp2_with fail
  refine ((unhide HJ) _ _ _ _ (unhide HO)).mono ?_
  rintro e w3 ⟨rfl, b3⟩
  have h3 := (unhide HH).later ((unhide HB2).trans (b3.mono (unhide HB2).size))
  have HH3 := hide h3
  have e1 := h3.a0.1
  have e2 := h3.a0.2
  have e3 := h3.a1.1
  have e4 := h3.a1.2
  have q0 := ans0 (.int .i64 0) (.string jt) e1
  have q1 := ans1 (.int .i64 0) (.string jt) e3
  clear h3 b3 k0 k1
  go_wp2
  refine bodyPost_ret (v := .agg #[.int .i64 0, .string jt]) (by simp [results, Try.results20, go_sem, q0, q1]) rfl ⟨rfl, ?_⟩
  have hT := Turned.of_below ((unhide HS).below (unhide HH3).below) (Below.refl _ w3)
  exact Turned.store (unhide HH3).below hT (fun k hk => (unhide HS).lt hk) (Nat.le_succ _) (unhide HH3).size (kept_two _ _ _ _)

end Go.Proofs.Ytlndphpidkacgaa
