/- A client and a Guest side by side. -/
import Derived.Test.YtfpommjolbipmabKl
import Derived.Test.YtfpommjolbipmabKm
namespace Go.Proofs.Ytfpommjolbipmab
open Go.RowKit
set_option linter.unusedSimpArgs false
set_option linter.unusedVariables false

def kown (X : Nat) (v : Value) (Y : Nat) (u : Value) : List Nat := powns X v ++ powns Y u
structure KG (N : Nat) (w : World) (X : Nat) (v : Value) (c : ACli) (Y : Nat) (u : Value) (d : ACli) (y : ACall) : Prop where
  k : KRep N w X v c
  g : GRep N w Y u d y
  dj : ∀ b, b ∈ powns X v → b ∉ powns Y u
/-- From w to w' both have come to c, d. -/
def KGT (N : Nat) (w : World) (own : List Nat) (X Y : Nat) (w' : World) (c d : ACli) (y : ACall) : Prop :=
  ∃ v' u', KG N w' X v' c Y u' d y ∧ Kept own w w' ∧ ∀ b, b ∈ kown X v' Y u' → b ∈ own ∨ w.heap.size ≤ b
section
variable {N : Nat} {w w1 w2 : World} {X Y : Nat} {v u : Value} {c d c' d' : ACli} {y y' : ACall} {own : List Nat}
theorem KG.below (h : KG N w X v c Y u d y) (hb : Below w.heap.size w w1) : KG N w1 X v c Y u d y := ⟨h.k.below hb, h.g.below hb, h.dj⟩
theorem KG.ge (h : KG N w X v c Y u d y) : ∀ b, b ∈ kown X v Y u → N ≤ b ∧ b < w.heap.size := fun b hb => by
  rcases List.mem_append.1 hb with hb | hb
  · exact h.k.o.ge b hb
  · exact h.g.o.ge b hb
theorem KG.self (h : KG N w X v c Y u d y) : KGT N w (kown X v Y u) X Y w c d y := ⟨v, u, h, Kept.refl _ _, fun b hb => .inl hb⟩
theorem KGT.before {w0 : World} (hb : Below w.heap.size w w0) (h : KGT N w0 own X Y w1 c d y) : KGT N w own X Y w1 c d y := by
  obtain ⟨v', u', h1, h2, h3⟩ := h
  refine ⟨v', u', h1, (Kept.of_below hb).trans h2 (fun x hx => .inl hx), fun b hb' => ?_⟩
  rcases h3 b hb' with h | h
  · exact .inl h
  · right; have := hb.size; omega
theorem KGT.after (h : KGT N w own X Y w1 c d y) (hb : Below w1.heap.size w1 w2) : KGT N w own X Y w2 c d y := by
  obtain ⟨v', u', h1, h2, h3⟩ := h
  exact ⟨v', u', h1.below hb, h2.trans (Kept.of_below (own := []) hb) (by simp), h3⟩
theorem KGT.blk (h : KGT N w own X Y w1 c d y) {B : Nat} (hB : B < w.heap.size) (hn : B ∉ own) : w1.heap[B]? = w.heap[B]? := by
  obtain ⟨v', u', h1, h2, h3⟩ := h
  exact h2.block B hB hn
theorem KG.turnK (h : KG N w X v c Y u d y) (hT : KTurn N w X v w1 c') (hc : COk c') : KGT N w (kown X v Y u) X Y w1 c' d y := by
  obtain ⟨v', h1, h2, h3⟩ := hT
  have hd : ∀ b, b ∈ powns Y u → b ∉ powns X v := fun b hb hm => h.dj b hm hb
  refine ⟨v', u, ⟨⟨h1, hc⟩, ⟨h.g.o.kept h2 hd, h.g.ok, h.g.keeps⟩, fun b hb hm => ?_⟩, ⟨h2.os, h2.tape, h2.output, h2.size, fun b hb hn => h2.block b hb (fun hm => hn (List.mem_append.2 (.inl hm)))⟩, fun b hb => ?_⟩
  · rcases h3 b hb with h4 | h4
    · exact h.dj b h4 hm
    · have := (h.g.o.ge b hm).2; omega
  · rcases List.mem_append.1 hb with hb | hb
    · rcases h3 b hb with h4 | h4
      · exact .inl (List.mem_append.2 (.inl h4))
      · exact .inr h4
    · exact .inl (List.mem_append.2 (.inr hb))
theorem KG.turnG (h : KG N w X v c Y u d y) (hT : GTurn N w Y u w1 d' y') (hc : COk d') (hy : d'.op = true → y' = d'.call) : KGT N w (kown X v Y u) X Y w1 c d' y' := by
  obtain ⟨u', h1, h2, h3⟩ := hT
  refine ⟨v, u', ⟨⟨h.k.o.kept h2 h.dj, h.k.ok⟩, ⟨h1, hc, hy⟩, fun b hb hm => ?_⟩, ⟨h2.os, h2.tape, h2.output, h2.size, fun b hb hn => h2.block b hb (fun hm => hn (List.mem_append.2 (.inr hm)))⟩, fun b hb => ?_⟩
  · rcases h3 b hm with h4 | h4
    · exact h.dj b hb h4
    · have := (h.k.o.ge b hb).2; omega
  · rcases List.mem_append.1 hb with hb | hb
    · exact .inl (List.mem_append.2 (.inl hb))
    · rcases h3 b hb with h4 | h4
      · exact .inl (List.mem_append.2 (.inr h4))
      · exact .inr h4
theorem KGT.trans {v1 u1 : Value} (hk : Kept own w w1) (hn : ∀ b, b ∈ kown X v1 Y u1 → b ∈ own ∨ w.heap.size ≤ b) (h : KGT N w1 (kown X v1 Y u1) X Y w2 c d y) : KGT N w own X Y w2 c d y := by
  obtain ⟨v', u', h1, h2, h3⟩ := h
  refine ⟨v', u', h1, hk.trans h2 hn, fun b hb => ?_⟩
  rcases h3 b hb with h4 | h4
  · exact hn b h4
  · right; have := hk.size; omega
theorem KGT.below (h : KG N w X v c Y u d y) (hT : KGT N w (kown X v Y u) X Y w1 c' d' y') : Below N w w1 := by
  obtain ⟨v', u', h1, h2, h3⟩ := hT
  exact h2.below h.k.o.size (fun b hb => (h.ge b hb).1)
end

/-- What a step makes of a client. -/
def ACli.reply (c : ACli) (s : AKStep) : APkt := ⟨true, c.pkt.client, c.pkt.no, c.pkt.call, s.d, s.u⟩
def ACli.step (c : ACli) (s : AKStep) : ACli := if s.act = 0 then c.asked s.c else if s.act = 1 then c.heard s.m else if s.act = 2 then c.heard (c.reply s) else c
theorem reply_small {c : ACli} (h : COk c) {s : AKStep} (hs : SmallK s) : SmallP (c.reply s) := ⟨(pkt_small h).1, (pkt_small h).2.1, (pkt_small h).2.2.1, hs.2.2⟩
theorem COk.step {c : ACli} (h : COk c) {s : AKStep} (hs : SmallK s) : COk (c.step s) := by
  unfold ACli.step
  split
  · exact h.asked hs.1
  · split
    · exact h.heard hs.2.1
    · split
      · exact h.heard (reply_small h hs)
      · exact h
/-- clientStep's end. -/
def StepOk (N : Nat) (w : World) (own : List Nat) (X Y : Nat) (c : ACli) (e : Ending) (w' : World) : Prop := e = .returned (.bool true) ∧ ∃ y, KGT N w own X Y w' c c y
theorem heard_keeps {c : ACli} {p : APkt} {y : ACall} (h : c.op = true → y = c.call) : (c.heard p).op = true → y = (c.heard p).call := by
  unfold ACli.heard
  by_cases h0 : c.hears p = true
  · rw [if_pos h0]; intro e; cases e
  · rw [if_neg h0]; exact h

end Go.Proofs.Ytfpommjolbipmab
