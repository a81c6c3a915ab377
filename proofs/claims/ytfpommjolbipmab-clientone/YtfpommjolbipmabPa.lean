/- Packets: on lists, and in memory. -/
import Derived.Test.YtfpommjolbipmabGa
import Derived.Test.YtfpommjolbipmabRg0
import Derived.Test.YtfpommjolbipmabShelf
namespace Go.Proofs.Ytfpommjolbipmab
open Go.RowKit
set_option linter.unusedSimpArgs false
set_option linter.unusedVariables false

structure APkt where
  reply : Bool
  client : Int
  no : Int
  call : ACall
  code : Int
  ans : ByteArray
def pcells (m : APkt) : List Value := [.bool m.reply, .int .i64 m.client, .int .i64 m.no, .int .i64 m.call.kind, .string m.call.name, .string m.call.dst, .string m.call.text, .int .i64 m.code, .string m.ans]
def APkt.val (m : APkt) : Value := .agg #[.bool m.reply, .int .i64 m.client, .int .i64 m.no, .int .i64 m.call.kind, .string m.call.name, .string m.call.dst, .string m.call.text, .int .i64 m.code, .string m.ans]
def zeroPkt : APkt := ⟨false, 0, 0, ⟨0, ⟨#[]⟩, ⟨#[]⟩, ⟨#[]⟩⟩, 0, ⟨#[]⟩⟩
/-- No text is longer than a string that is handed in may be. -/
def SmallP (m : APkt) : Prop := m.call.name.size ≤ 281474976710656 ∧ m.call.dst.size ≤ 281474976710656 ∧ m.call.text.size ≤ 281474976710656 ∧ m.ans.size ≤ 281474976710656
theorem pcells_one (m : APkt) : ∀ u, u ∈ pcells m → u.oneCell' = true := by intro u hu; simp [pcells] at hu; rcases hu with rfl | rfl | rfl | rfl | rfl | rfl | rfl | rfl | rfl <;> rfl
theorem pcells_len (m : APkt) : (pcells m).length = 9 := rfl
theorem pflat_len (l : List APkt) : (l.flatMap pcells).length = l.length * 9 := by
  induction l with
  | nil => rfl
  | cons x xs ih => simp [pcells_len, ih]; omega
theorem pflat_one (l : List APkt) : ∀ u, u ∈ l.flatMap pcells → u.oneCell' = true := by
  intro u hu
  obtain ⟨f, _, hu⟩ := List.mem_flatMap.1 hu
  exact pcells_one f u hu

/-- The number of the packet that is meant. -/
def rnd (n : Int) (k : Nat) : Nat := (IntKind.u64.wrap n % (k : Int)).toNat
theorem rnd_lt (n : Int) {k : Nat} (hk : 0 < k) : rnd n k < k := by
  unfold rnd
  have h1 : (0 : Int) ≤ IntKind.u64.wrap n % (k : Int) := Int.emod_nonneg _ (by omega)
  have h2 : IntKind.u64.wrap n % (k : Int) < (k : Int) := Int.emod_lt_of_pos _ (by omega)
  omega

/-- A packet lies there. -/
structure PktAt (w : World) (b o : Nat) (m : APkt) : Prop where
  x0 : w.cell? ⟨b, o, none⟩ = some (.bool m.reply)
  x1 : w.cell? ⟨b, o + 1, none⟩ = some (.int .i64 m.client)
  x2 : w.cell? ⟨b, o + 2, none⟩ = some (.int .i64 m.no)
  x3 : w.cell? ⟨b, o + 3, none⟩ = some (.int .i64 m.call.kind)
  x4 : w.cell? ⟨b, o + 4, none⟩ = some (.string m.call.name)
  x5 : w.cell? ⟨b, o + 5, none⟩ = some (.string m.call.dst)
  x6 : w.cell? ⟨b, o + 6, none⟩ = some (.string m.call.text)
  x7 : w.cell? ⟨b, o + 7, none⟩ = some (.int .i64 m.code)
  x8 : w.cell? ⟨b, o + 8, none⟩ = some (.string m.ans)
theorem PktAt.lt {w : World} {b o : Nat} {r : APkt} (h : PktAt w b o r) : b < w.heap.size := World.block_lt_of_cell? w _ h.x0
theorem PktAt.same {w W : World} {b o : Nat} {r : APkt} (h : PktAt w b o r) (hb : W.heap[b]? = w.heap[b]?) : PktAt W b o r := by
  have hc : ∀ j, W.cell? ⟨b, j, none⟩ = w.cell? ⟨b, j, none⟩ := fun j => by simp only [World.cell?, hb]
  exact ⟨(hc _).trans h.x0, (hc _).trans h.x1, (hc _).trans h.x2, (hc _).trans h.x3, (hc _).trans h.x4, (hc _).trans h.x5, (hc _).trans h.x6, (hc _).trans h.x7, (hc _).trans h.x8⟩
theorem flat9 : ∀ (rs : List APkt) (j i : Nat) (r : APkt), rs[j]? = some r → i < 9 → (rs.flatMap pcells)[j * 9 + i]? = (pcells r)[i]?
  | [], j, i, r, h, _ => by simp at h
  | q :: rs, 0, i, r, h, hi => by
    simp at h
    subst h
    rw [List.flatMap_cons, Nat.zero_mul, Nat.zero_add, List.getElem?_append_left (by rw [pcells_len]; omega)]
  | q :: rs, j + 1, i, r, h, hi => by
    rw [List.flatMap_cons, List.getElem?_append_right (by rw [pcells_len]; omega), pcells_len, show (j + 1) * 9 + i - 9 = j * 9 + i by omega]
    exact flat9 rs j i r (by simpa using h) hi
/-- Packets one behind the other lie there. -/
def PktsAt (w : World) (a : Option Addr) (n : Nat) (rs : List APkt) : Prop :=
  rs.length = n ∧ (0 < n → ∃ b, a = some ⟨b, 0, none⟩ ∧ ∀ (j : Nat) (r : APkt), rs[j]? = some r → PktAt w b (j * 9) r)
theorem PktsAt.below {w W : World} {a : Option Addr} {n : Nat} {rs : List APkt} (h : PktsAt w a n rs) (hb : Below w.heap.size w W) : PktsAt W a n rs := by
  refine ⟨h.1, fun h0 => ?_⟩
  obtain ⟨b, rfl, hc⟩ := h.2 h0
  exact ⟨b, rfl, fun j r hr => (hc j r hr).same (hb.block b (hc j r hr).lt)⟩
theorem pkts_row {w : World} {base : Nat} {a : Option Addr} {n c : Nat} {rs : List APkt} (h : w.ownsRow base 33 9 (.slice a n c) n (rs.flatMap pcells)) (hn : rs.length = n) : PktsAt w a n rs := by
  refine ⟨hn, fun h0 => ?_⟩
  obtain ⟨g, cap, e, _⟩ := World.ownsRow.form h h0
  cases e
  refine ⟨g, rfl, fun j r hr => ?_⟩
  have hc : ∀ i, i < 9 → w.cell? ⟨g, j * 9 + i, none⟩ = (pcells r)[i]? := fun i hi => by
    have h1 := flat9 rs j i r hr hi
    obtain ⟨v, hv⟩ : ∃ v, (pcells r)[i]? = some v := ⟨_, List.getElem?_eq_getElem (by rw [pcells_len]; omega)⟩
    rw [hv] at h1 ⊢
    have := World.ownsRow.cells (v := .slice (some ⟨g, 0, none⟩) n c) h (g := g) rfl (j * 9 + i) v h1
    rw [addr_add, Nat.zero_add] at this
    exact this
  exact ⟨hc 0 (by omega), hc 1 (by omega), hc 2 (by omega), hc 3 (by omega), hc 4 (by omega), hc 5 (by omega), hc 6 (by omega), hc 7 (by omega), hc 8 (by omega)⟩

/-- An object of one list of packets (a Post: t; a Bag: its own type) at block P. -/
structure PRep (t : TypeId) (N : Nat) (w : World) (P : Nat) (v : Value) (ms : List APkt) : Prop where
  new : N ≤ P
  blk : w.heap[P]? = some (.cells #[v] t (0, 0))
  row : w.ownsRow N 33 9 v ms.length (ms.flatMap pcells)
  nd : v.ownBlock ≠ some P
  few : ms.length ≤ 40
  small : ∀ m, m ∈ ms → SmallP m
def powns (P : Nat) (v : Value) : List Nat := P :: v.ownBlock.toList
theorem PRep.lt {t : TypeId} {N : Nat} {w : World} {P : Nat} {v : Value} {ms : List APkt} (h : PRep t N w P v ms) : P < w.heap.size := (Array.getElem?_eq_some_iff.1 h.blk).1
theorem PRep.can {t : TypeId} {N : Nat} {w : World} {P : Nat} {v : Value} {ms : List APkt} (h : PRep t N w P v ms) : w.cell? ⟨P, 0, none⟩ = some v ∧ w.frozen? ⟨P, 0, none⟩ = false := ⟨by simp [World.cell?, h.blk], by simp [World.frozen?, h.blk]⟩
theorem PRep.ge {t : TypeId} {N : Nat} {w : World} {P : Nat} {v : Value} {ms : List APkt} (h : PRep t N w P v ms) : ∀ k, k ∈ powns P v → N ≤ k ∧ k < w.heap.size := fun k hk => by
  rcases List.mem_cons.1 hk with rfl | hk
  · exact ⟨h.new, h.lt⟩
  · exact h.row.lt k (by simpa using hk)
theorem PRep.same {t : TypeId} {N : Nat} {w w' : World} {P : Nat} {v : Value} {ms : List APkt} (h : PRep t N w P v ms) (hs : ∀ k, k ∈ powns P v → w'.heap[k]? = w.heap[k]?) : PRep t N w' P v ms :=
  ⟨h.new, (hs P List.mem_cons_self).trans h.blk, ownsRow_same h.row (fun k hk => hs k (List.mem_cons_of_mem _ (by simpa using hk))), h.nd, h.few, h.small⟩
theorem PRep.below {t : TypeId} {N : Nat} {w w' : World} {P : Nat} {v : Value} {ms : List APkt} (h : PRep t N w P v ms) (hb : Below w.heap.size w w') : PRep t N w' P v ms := h.same fun k hk => hb.block k (h.ge k hk).2
theorem PRep.kept {t : TypeId} {N : Nat} {w w' : World} {P : Nat} {v : Value} {ms : List APkt} {o : List Nat} (h : PRep t N w P v ms) (hk : Kept o w w') (hd : ∀ k, k ∈ powns P v → k ∉ o) : PRep t N w' P v ms := h.same fun k h1 => hk.block k (h.ge k h1).2 (hd k h1)
theorem PRep.form {t : TypeId} {N : Nat} {w : World} {P : Nat} {v : Value} {ms : List APkt} (h : PRep t N w P v ms) : ∃ a cap, v = .slice a ms.length cap := row_form h.row
/-- From w to w' the object has come to ms'. -/
def PTurn (t : TypeId) (N : Nat) (w : World) (P : Nat) (v : Value) (w' : World) (ms' : List APkt) : Prop :=
  ∃ v', PRep t N w' P v' ms' ∧ Kept (powns P v) w w' ∧ ∀ k, k ∈ powns P v' → k ∈ powns P v ∨ w.heap.size ≤ k
theorem PTurn.of_below {t : TypeId} {N : Nat} {w w' : World} {P : Nat} {v : Value} {ms : List APkt} (h : PRep t N w P v ms) (hb : Below w.heap.size w w') : PTurn t N w P v w' ms := ⟨v, h.below hb, Kept.of_below hb, fun k hk => .inl hk⟩
theorem PTurn.before {t : TypeId} {N : Nat} {w w0 w' : World} {P : Nat} {v : Value} {ms : List APkt} (hb : Below w.heap.size w w0) (h : PTurn t N w0 P v w' ms) : PTurn t N w P v w' ms := by
  obtain ⟨v', h1, h2, h3⟩ := h
  refine ⟨v', h1, (Kept.of_below hb).trans h2 (fun x hx => .inl hx), fun k hk => ?_⟩
  rcases h3 k hk with h | h
  · exact .inl h
  · right; have := hb.size; omega
theorem PTurn.after {t : TypeId} {N : Nat} {w w1 w' : World} {P : Nat} {v : Value} {ms : List APkt} (h : PTurn t N w P v w1 ms) (hb : Below w1.heap.size w1 w') : PTurn t N w P v w' ms := by
  obtain ⟨v', h1, h2, h3⟩ := h
  exact ⟨v', h1.below hb, h2.trans (Kept.of_below (own := []) hb) (by simp), h3⟩

end Go.Proofs.Ytfpommjolbipmab
