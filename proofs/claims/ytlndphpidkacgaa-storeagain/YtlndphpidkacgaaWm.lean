/- The law's side: an object through calls; lists of calls; greatCall, greatCalls, filesBegun. -/
import Derived.Test.YtlndphpidkacgaaWl
namespace Go.Proofs.Ytlndphpidkacgaa
open Go.RowKit
set_option linter.unusedSimpArgs false
set_option linter.unusedVariables false

/-- A Files object of the call's own (all its blocks from N on). -/
structure OObj (N : Nat) (w : World) (B : Nat) (own : List Nat) (st : List AFile) : Prop where
  rep : St w B own st
  inv : Inv st
  own : ∀ k, k ∈ own → N ≤ k

/-- From w to w' nothing below N has turned, and nothing but the object's own. -/
structure Next (N : Nat) (w w' : World) (own own' : List Nat) : Prop where
  below : Below N w w'
  keep : ∀ b, b < w.heap.size → b ∉ own → b ∉ own' ∧ w'.heap[b]? = w.heap[b]?

theorem Next.size {N : Nat} {w w' : World} {own own' : List Nat} (h : Next N w w' own own') : w.heap.size ≤ w'.heap.size := h.below.size
theorem Next.can {N : Nat} {w w' : World} {own own' : List Nat} (h : Next N w w' own own') {b o : Nat} {v : Value} (hc : Can w b o v) (hn : b ∉ own) : Can w' b o v :=
  ⟨(World.cell?_of_block (w := w) (a := ⟨b, o, none⟩) (h.keep b hc.lt hn).2).trans hc.1, (World.frozen?_of_block (w := w) (a := ⟨b, o, none⟩) (h.keep b hc.lt hn).2).trans hc.2⟩
theorem Next.trans {N : Nat} {a b c : World} {o1 o2 o3 : List Nat} (h : Next N a b o1 o2) (k : Next N b c o2 o3) : Next N a c o1 o3 :=
  ⟨h.below.trans k.below, fun x hx hn => by
    obtain ⟨h1, h2⟩ := h.keep x hx hn
    obtain ⟨k1, k2⟩ := k.keep x (Nat.lt_of_lt_of_le hx h.size) h1
    exact ⟨k1, k2.trans h2⟩⟩
theorem Next.of_below {N : Nat} {w w' : World} (own : List Nat) (h : Below w.heap.size w w') (hN : N ≤ w.heap.size) : Next N w w' own own :=
  ⟨h.mono hN, fun b hb hn => ⟨hn, h.block b hb⟩⟩
theorem OObj.lt {N : Nat} {w : World} {B : Nat} {own : List Nat} {st : List AFile} (h : OObj N w B own st) {k : Nat} (hk : k ∈ own) : k < w.heap.size := h.rep.lt hk
theorem OObj.size {N : Nat} {w : World} {B : Nat} {own : List Nat} {st : List AFile} (h : OObj N w B own st) : N ≤ w.heap.size := by
  have h1 := h.own B h.rep.memB
  have h2 := h.lt h.rep.memB
  omega
theorem OObj.below {N : Nat} {w w' : World} {B : Nat} {own : List Nat} {st : List AFile} (h : OObj N w B own st) (hb : Below w.heap.size w w') : OObj N w' B own st := ⟨h.rep.below hb, h.inv, h.own⟩
theorem OObj.alloc {N : Nat} {w : World} {B : Nat} {own : List Nat} {st : List AFile} (h : OObj N w B own st) (o : Obj) : OObj N (w.alloc o) B own st := h.below ((Below.refl _ _).alloc (Nat.le_refl _) o)
theorem OObj.not_new {N : Nat} {w : World} {B : Nat} {own : List Nat} {st : List AFile} (h : OObj N w B own st) {b : Nat} (hb : w.heap.size ≤ b) : b ∉ own := fun hm => by have := h.lt hm; omega

theorem Do_obj (c : ACall) {N B : Nat} {own : List Nat} {st : List AFile} {w : World} (h : OObj N w B own st) (ha : c.name.size ≤ maxLen) (hb : c.dst.size ≤ maxLen) (ht : c.text.size ≤ maxLen) :
    Calls Try.prog 20 #[.pointer (some ⟨B, 0, none⟩), .agg #[.int .i64 c.kind, .string c.name, .string c.dst, .string c.text]] w
      fun e w' => e = .returned (.agg #[.int .i64 (aDo st c).code, .string (aDo st c).text]) ∧ ∃ own', OObj N w' B own' (aDo st c).st ∧ Next N w w' own own' := by
  refine (Do_any c B own st w h.rep h.inv ha hb ht).mono ?_
  rintro e w' ⟨rfl, own', hs, hk, hn⟩
  have hsz := h.size
  refine ⟨rfl, own', ⟨hs, h.inv.step c, fun k hk1 => ?_⟩, hk.below hsz h.own, fun b hb1 hnb => ⟨fun hm => ?_, hk.block b hb1 hnb⟩⟩
  · rcases hn k hk1 with h1 | h1
    · exact h.own k h1
    · omega
  · rcases hn b hm with h1 | h1
    · exact hnb h1
    · omega

theorem New_obj (w : World) : OObj w.heap.size (w.alloc (.cells #[.slice none 0 0] 95)) w.heap.size [w.heap.size] [] := by
  refine ⟨⟨.slice none 0 0, [], ⟨heap_alloc_new w _, World.ownsRow_nil _ _ _ _, by simp, by simp [owns, Value.ownBlock]⟩, by simp [owns, Value.ownBlock], rfl⟩, Inv.nil, by simp⟩

/-- Some bool is handed back. -/
def RetB (e : Ending) : Prop := ∃ r, e = .returned (.bool r)
theorem RetB.mk (r : Bool) : RetB (.returned (.bool r)) := ⟨r, rfl⟩

set_option maxHeartbeats 400000 in
theorem greatCall_any (k : Int) (a b t : ByteArray) (w : World) :
    Calls Try.prog 29 #[.agg #[.int .i64 k, .string a, .string b, .string t]] w fun e w' => RetB e ∧ Below w.heap.size w w' := by
  go_enter Try.func29, Try.ntmps29
  go_wp2
  go_ret
  exact ⟨RetB.mk _, (Below.refl _ _).alloc (Nat.le_refl _) _⟩

/-- A slice of calls that came in: as far as the law reads it. -/
def IsCalls (w : World) (a0 : Option Addr) (len : Nat) (cs : List ACall) : Prop :=
  cs.length = len ∧ len ≤ maxLen ∧ (0 < len → ∃ b off, a0 = some ⟨b, off, none⟩ ∧ b < w.heap.size ∧ ∀ (j : Nat) (c : ACall), cs[j]? = some c →
    (w.cell? ⟨b, off + j * 4, none⟩ = some (.int .i64 c.kind) ∧ w.cell? ⟨b, off + j * 4 + 1, none⟩ = some (.string c.name) ∧ w.cell? ⟨b, off + j * 4 + 2, none⟩ = some (.string c.dst) ∧ w.cell? ⟨b, off + j * 4 + 3, none⟩ = some (.string c.text)) ∧
    c.name.size ≤ maxLen ∧ c.dst.size ≤ maxLen ∧ c.text.size ≤ maxLen)

theorem IsCalls.later {w w' : World} {a0 : Option Addr} {len : Nat} {cs : List ACall} (h : IsCalls w a0 len cs) (hb : Below w.heap.size w w') : IsCalls w' a0 len cs := by
  refine ⟨h.1, h.2.1, fun h0 => ?_⟩
  obtain ⟨b, off, e, hlt, hc⟩ := h.2.2 h0
  refine ⟨b, off, e, Nat.lt_of_lt_of_le hlt hb.size, fun j c hj => ?_⟩
  obtain ⟨⟨h1, h2, h3, h4⟩, h5⟩ := hc j c hj
  have e : ∀ o, w'.cell? ⟨b, o, none⟩ = w.cell? ⟨b, o, none⟩ := fun o => hb.cell (p := ⟨b, o, none⟩) hlt
  exact ⟨⟨(e _).trans h1, (e _).trans h2, (e _).trans h3, (e _).trans h4⟩, h5⟩

set_option maxRecDepth 100000 in
set_option maxHeartbeats 1000000 in
theorem greatCalls_any (a0 : Option Addr) (len cap : Nat) (cs : List ACall) (w : World) (hl : IsCalls w a0 len cs) :
    Calls Try.prog 16 #[.slice a0 len cap] w fun e w' => RetB e ∧ Below w.heap.size w w' := by
  have hm := hl.2.1
  unfold maxLen at hm
  have HL := hide hl
  clear hl
  go_enter Try.func16, Try.ntmps16
  go_wp2
  go_loopw [3] (fun i wr => ∃ k : Nat, k ≤ 200 ∧ i = .int .i64 k ∧ Hid (Below w.heap.size w wr)) (fun i _ => 200 - (intOf i).toNat)
  case atStart => exact ⟨0, Nat.zero_le _, rfl, Below.refl _ _⟩
  case round =>
    obtain ⟨k, hk, rfl, HB⟩ := hrel
    by_cases h1 : (k : Int) < (len : Int)
    · by_cases h2 : (k : Int) < 200
      · obtain ⟨b, off, rfl, hlt, hc⟩ := ((unhide HL).later (unhide HB)).2.2 (by omega)
        obtain ⟨c, hcj⟩ : ∃ c, cs[k]? = some c := ⟨_, List.getElem?_eq_getElem (by rw [(unhide HL).1]; omega)⟩
        obtain ⟨⟨g0, g1, g2, g3⟩, _⟩ := hc k c hcj
        obtain ⟨ck, ca, cb, ct⟩ := c
        dsimp only at g0 g1 g2 g3
        clear hc hcj
        have hcon := greatCall_any ck ca cb ct wr
        go_wp2_with (go_at_call 29; refine hcon.mono ?_; rintro e w1 ⟨⟨r, rfl⟩, b1⟩)
        · go_ret
          exact ⟨RetB.mk _, (unhide HB).trans (b1.mono (unhide HB).size)⟩
        · go_roundw
          case rel => exact ⟨k + 1, by omega, by go_num, (unhide HB).trans (b1.mono (unhide HB).size)⟩
          case measure => simp [intOf]; omega
      · go_wp2
        go_ret
        exact ⟨RetB.mk _, unhide HB⟩
    · go_wp2
      go_ret
      exact ⟨RetB.mk _, unhide HB⟩

end Go.Proofs.Ytlndphpidkacgaa
