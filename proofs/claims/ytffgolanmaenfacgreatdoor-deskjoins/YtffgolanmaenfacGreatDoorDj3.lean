/- Texts joined, what is needed of them: Cn Cq Sd Sf Sg Ea Eb Si Sj Ct Sk Sl Sm Sn So. -/
import Derived.Test.YtffgolanmaenfacGreatDoorDj2
import Derived.BigRegion
import Derived.Laws.Rows
import Derived.Laws.Tables
import Derived.Lib.ConvBytes
namespace Go.Proofs.YtffgolanmaenfacGreatDoor
open Go.RowKit
set_option linter.unusedSimpArgs false
set_option linter.unusedVariables false

theorem Encode_brow (r : ARec) (W : World) (n : Nat) (E : List UInt8) (hE : encL r = E) (hn : E.length = n) (hr : recI r = 0) :
    Calls Tryz.prog 239 #[r.val] W fun e w' => ∃ g cap, e = .returned (.tuple #[.slice (some ⟨g, 0, none⟩) n cap, .int .i64 0]) ∧ BRow w' W.heap.size (.slice (some ⟨g, 0, none⟩) n cap) E ∧ Below W.heap.size W w' := by
  subst hn hE
  have h := Encode_ok r.client r.no r.call.kind r.call.name r.call.dst r.call.text r.code r.ans W hr
  have hl : 5 + (tb [r.call.name, r.call.dst, r.call.text]).length = (encL r).length := (encL_length r).symm
  rw [hl] at h
  exact h

/-- The bytes that came in lie there still. -/
theorem ByAt.below {w W : World} {a : Option Addr} {bs : List UInt8} (h : ByAt w a bs) (hb : Below w.heap.size w W) : ByAt W a bs := fun h0 => by
  obtain ⟨b, off, rfl, hc⟩ := h h0
  refine ⟨b, off, rfl, fun j x hx => ?_⟩
  have := hc j x hx
  exact (hb.cell (p := ⟨b, off + j, none⟩) (World.block_lt_of_cell? w _ this)).trans this
theorem ByAt.lies {w : World} {a : Option Addr} {bs : List UInt8} {L cap : Nat} (h : ByAt w a bs) (hL : bs.length = L) (hn : a = none → L = 0 ∧ cap = 0) : Lies w (.slice a L cap) L (bv bs) := by
  cases a with
  | none =>
    obtain ⟨rfl, rfl⟩ := hn rfl
    exact .inl ⟨rfl, rfl, by simp [List.length_eq_zero_iff.1 hL, bv]⟩
  | some A =>
    refine .inr ⟨A, cap, rfl, fun j u hu => ?_⟩
    have h0 : bs ≠ [] := fun h0 => by subst h0; simp [bv] at hu
    obtain ⟨b, off, e, hc⟩ := h h0
    cases e
    simp [bv] at hu
    obtain ⟨x, hx, rfl⟩ := hu
    rw [addr_add]
    exact hc j x hx

def recCells (r : ARec) : Array Value := #[.int .i64 r.client, .int .i64 r.no, .int .i64 r.call.kind, .string r.call.name, .string r.call.dst, .string r.call.text, .int .i64 r.code, .string r.ans]
/-- Two records that came in by value, in a later world. -/
structure Two (b : Nat) (r q : ARec) (W : World) : Prop where
  r : W.heap[b]? = some (.cells (recCells r) 111 (0, 0))
  q : W.heap[b + 1]? = some (.cells (recCells q) 111 (0, 0))
end Go.Proofs.YtffgolanmaenfacGreatDoor

namespace Go.Proofs.YtffgolanmaenfacGreatDoor
open Go.RowKit
set_option linter.unusedSimpArgs false
set_option linter.unusedVariables false

/-- Append of bytes that lie somewhere onto bytes of one's own; and where they lie then. -/
theorem wpList_bytes' (w : World) {ops : Array Oper} {rest : List Oper} {o : Oper} {a : Act} {Q : Exit → Act → World → Prop} (hgd : o.guard = none) (s x : Operand)
    (ho : o.op = .call { callee := .builtin .append, args := #[s, x], argTypes := #[42, 42] })
    (N : Nat) (v : Value) (xs : List UInt8) (hs : a.eval s = v) (hown : BRow w N v xs) (y : Value) (m : Nat) (ys : List UInt8) (hx : a.eval x = y) (hl : ys.length = m) (hy : Lies w y m (bv ys)) (hsz : xs.length + m ≤ 1000000) (hN : N ≤ w.heap.size)
    (h : ∀ ad c w', BRow w' N (.slice ad (xs.length + m) c) (xs ++ ys) → w.grownBy w' v.ownBlock → ((Value.slice ad (xs.length + m) c).ownBlock = v.ownBlock ∨ (Value.slice ad (xs.length + m) c).ownBlock = some w.heap.size) → wpList Tryz.prog ops Q rest (a.put o.dst (.slice ad (xs.length + m) c)) w') : wpList Tryz.prog ops Q (o :: rest) a w := by
  obtain ⟨i0, hi0, hz0, hz1, hz2⟩ := info_parts cinfo5
  refine wpList_plain hgd fun K hK => ?_
  obtain ⟨ad, c, w', hr, h2, h3, h4⟩ := run_app (w := w) 42 o.type N 5 i0 _ 1 1 Tryz.underlying42 hi0 hz0 hz1 hz2 rfl (by omega) v xs.length (bv xs) hown y m (bv ys) hy (by rw [bv_length]; omega) (bv_one ys) (by unfold maxLen; omega) (by omega) hN
  unfold Oper.wp execOp
  simp only [ho, resolve, invoke, builtin, Sem.run_bind, Sem.run_pure, Result.andThen_ok, List.map_toArray, List.map_cons, List.map_nil, hs, hx, hr]
  refine hK _ _ (h ad c w' ?_ h3 h4)
  unfold BRow
  rw [List.length_append, hl, bv_append]
  exact h2

theorem row_cap {w : World} {N s n c : Nat} {e : TypeId} {a : Option Addr} {xs : List Value} (h : w.ownsRow N e s (.slice a n c) n xs) : n ≤ c := by
  rcases h.2 with ⟨e, _⟩ | ⟨g', c', cur, e, _, _, h1, _⟩
  · cases e; exact Nat.le_refl _
  · cases e; exact h1
theorem row_none {w : World} {N s n c : Nat} {e : TypeId} {xs : List Value} (h : w.ownsRow N e s (.slice none n c) n xs) : n = 0 ∧ c = 0 := by
  rcases h.2 with ⟨e, _⟩ | ⟨g', c', cur, e, _, _, h1, _⟩
  · cases e; exact ⟨rfl, rfl⟩
  · cases e
theorem row_some {w : World} {N s n c : Nat} {e : TypeId} {A : Addr} {xs : List Value} (h : w.ownsRow N e s (.slice (some A) n c) n xs) : ∃ g, A = ⟨g, 0, none⟩ ∧ g < w.heap.size := by
  rcases h.2 with ⟨e, _⟩ | ⟨g', c', cur, e, _, _, h1, _⟩
  · cases e
  · cases e; exact ⟨g', rfl, (h.lt g' rfl).2⟩

end Go.Proofs.YtffgolanmaenfacGreatDoor

namespace Go.Proofs.YtffgolanmaenfacGreatDoor
open Go.RowKit
set_option linter.unusedSimpArgs false
set_option linter.unusedVariables false

/-- Two cells written, one behind the other. -/
def set2 (w : World) (b : Nat) (y0 y1 : Value) : World := (w.setCell ⟨b, 0, none⟩ y0).setCell ⟨b, 1, none⟩ y1
theorem set2_blk {w : World} {b : Nat} {x0 x1 : Value} {e : TypeId} (h : w.heap[b]? = some (.cells #[x0, x1] e (0, 0))) (y0 y1 : Value) : (set2 w b y0 y1).heap[b]? = some (.cells #[y0, y1] e (0, 0)) := by
  have h0 := heap_setCell_same h (o := 0) y0
  simp only [List.setIfInBounds_toArray, List.set_cons_zero, List.set_cons_succ] at h0
  have h1 := heap_setCell_same h0 (o := 1) y1
  simp only [List.setIfInBounds_toArray, List.set_cons_zero, List.set_cons_succ] at h1
  exact h1
theorem set2_kept (w : World) (b : Nat) (y0 y1 : Value) : Kept [b] w (set2 w b y0 y1) := by
  have k : ∀ (w : World) (o : Nat) (y : Value), Kept [b] w (w.setCell ⟨b, o, none⟩ y) := fun w o y => kept_setCell [b] w b o y (by simp)
  exact (k _ _ _).trans (k _ _ _) (fun x hx => .inl hx)
theorem two {w : World} {b : Nat} {x0 x1 : Value} {e : TypeId} (h : w.heap[b]? = some (.cells #[x0, x1] e (0, 0))) :
    (w.cell? ⟨b, 0, none⟩ = some x0 ∧ w.cell? ⟨b, 1, none⟩ = some x1) ∧ ∀ j, w.frozen? ⟨b, j, none⟩ = false := by
  refine ⟨⟨?_, ?_⟩, fun j => frozen_of_row w b j _ _ h⟩ <;> rw [cell_of_row w b _ _ _ _ h] <;> rfl
theorem four {w : World} {b : Nat} {x0 x1 x2 x3 : Value} {e : TypeId} (h : w.heap[b]? = some (.cells #[x0, x1, x2, x3] e (0, 0))) :
    (w.cell? ⟨b, 0, none⟩ = some x0 ∧ w.cell? ⟨b, 1, none⟩ = some x1 ∧ w.cell? ⟨b, 2, none⟩ = some x2 ∧ w.cell? ⟨b, 3, none⟩ = some x3) ∧ ∀ j, w.frozen? ⟨b, j, none⟩ = false := by
  refine ⟨⟨?_, ?_, ?_, ?_⟩, fun j => frozen_of_row w b j _ _ h⟩ <;> rw [cell_of_row w b _ _ _ _ h] <;> rfl

theorem Good.few {L : List ARec} (h : Good L) : L.length * 5 ≤ (logB L).length := by
  induction L with
  | nil => simp
  | cons r L ih =>
    have h1 := (encL_le (h r (by simp))).1
    have h2 := ih (fun q hq => h q (by simp [hq]))
    unfold logB at h2 ⊢
    rw [List.flatMap_cons, List.length_append, List.length_cons]
    omega

end Go.Proofs.YtffgolanmaenfacGreatDoor

namespace Go.Proofs.YtffgolanmaenfacGreatDoor
open Go.RowKit
set_option linter.unusedSimpArgs false
set_option linter.unusedVariables false

theorem eql32 (c c' : ACall) (w : World) : (binOp .eql 70 (.agg (callCells c)) (.agg (callCells c'))).run Tryz.prog w = .ok (.bool (callB c c')) w := by
  have h := equal32 9998 c c' w
  rw [run_eql_struct, h]
  rfl

end Go.Proofs.YtffgolanmaenfacGreatDoor

namespace Go.Proofs.YtffgolanmaenfacGreatDoor
open Go.RowKit
set_option linter.unusedSimpArgs false
set_option linter.unusedVariables false

theorem Kept.mono_own {own own' : List Nat} {w w' : World} (h : Kept own w w') (hs : ∀ x, x ∈ own → x ∈ own') : Kept own' w w' := ⟨h.os, h.tape, h.output, h.size, fun k hk hn => h.block k hk (fun hm => hn (hs k hm))⟩
end Go.Proofs.YtffgolanmaenfacGreatDoor

namespace Go.Proofs.YtffgolanmaenfacGreatDoor
open Go.RowKit
set_option linter.unusedSimpArgs false
set_option linter.unusedVariables false

/-- The greater block's cells, by the builder's two. -/
def EHold (F : Value → Value → Array Value) : Prop := ∀ p v, (F p v)[0]? = some p ∧ (F p v)[1]? = some v ∧ ∀ u, (F p v).setIfInBounds 0 u = F u v ∧ (F p v).setIfInBounds 1 u = F p u
/-- What is asked of the greater block: its holder, its size, that a builder lies at its beginning. -/
structure EOk (F : Value → Value → Array Value) (T : TypeId) : Prop where
  hold : EHold F
  size : ∃ sz, (∀ p v, (F p v).size = sz) ∧ 0 < sz ∧ liesAt Tryz.prog Tryz.prog.depth T (sz / Tryz.prog.cellsOf T) 0 44 1 = true
  byte : T ≠ 5
/-- A builder at the beginning of block D, its buffer v. -/
structure EX (F : Value → Value → Array Value) (T : TypeId) (N D : Nat) (p v : Value) (bs : List UInt8) (w : World) : Prop where
  new : N ≤ D
  me : p = .pointer none ∨ p = .pointer (some ⟨D, 0, none⟩)
  blk : w.heap[D]? = some (.cells (F p v) T (0, 0))
  row : w.ownsRowF N 5 1 v bs.length (Lib.byteCells bs)
  ne : v.ownBlock ≠ some D
def eown (D : Nat) (v : Value) : List Nat := D :: v.ownBlock.toList
def ETurn (F : Value → Value → Array Value) (T : TypeId) (N D : Nat) (v : Value) (w w' : World) (bs : List UInt8) : Prop := ∃ p' v', EX F T N D p' v' bs w' ∧ Next N w w' (eown D v) (eown D v')
theorem ewbsize : (Tryz.prog.info? 44).map (·.size) = some 2 := by kernel_rfl
theorem ebyte : (Tryz.prog.info? 5).map (fun i => (i.zero, i.size, i.bytes)) = some (some (.int .u8 0), 1, 1) := by kernel_rfl
theorem eheap_same {w : World} {b o : Nat} {c : Array Value} {e : TypeId} {fr : Nat × Nat} (h : w.heap[b]? = some (.cells c e fr)) {v : Value} : (w.setCell ⟨b, o, none⟩ v).heap[b]? = some (.cells (c.setIfInBounds o v) e fr) := by
  simp [World.setCell, Array.getElem?_modify, h]
theorem eown_set {w : World} {N : Nat} {v u : Value} {n D o : Nat} {xs : List Value} (h : w.ownsRowF N 5 1 v n xs) (hne : v.ownBlock ≠ some D) : (w.setCell ⟨D, o, none⟩ u).ownsRowF N 5 1 v n xs :=
  h.kept (row := some D) ⟨rfl, rfl, rfl, by simp [World.setCell], fun k _ hk => Below.heap_setCell _ _ _ _ (fun e => hk (by simp [e]))⟩ (Or.inr hne)
theorem elt {w : World} {b : Nat} {o : Obj} (h : w.heap[b]? = some o) : b < w.heap.size := (Array.getElem?_eq_some_iff.1 h).1
theorem ekept_set (w : World) (D o : Nat) (u : Value) : Kept [D] w (w.setCell ⟨D, o, none⟩ u) := ⟨rfl, rfl, rfl, by simp [World.setCell], fun k _ hn => Below.heap_setCell _ _ _ _ (fun e => hn (by simp [e]))⟩
theorem ekept_grown {w w' : World} {v : Value} (h : w.grownBy w' v.ownBlock) : Kept v.ownBlock.toList w w' := ⟨h.os, h.tape, h.output, h.size, fun k hk hn => h.block k hk (fun e => hn (by simp [← e]))⟩
theorem EX.ge {F : Value → Value → Array Value} {T : TypeId} {N D : Nat} {p v : Value} {bs : List UInt8} {w : World} (h : EX F T N D p v bs w) : ∀ k, k ∈ eown D v → N ≤ k := fun k hk => by
  rcases List.mem_cons.1 hk with rfl | hk
  · exact h.new
  · exact (h.row.lt k (by simpa using hk)).1
theorem EX.size {F : Value → Value → Array Value} {T : TypeId} {N D : Nat} {p v : Value} {bs : List UInt8} {w : World} (h : EX F T N D p v bs w) : N ≤ w.heap.size := Nat.le_trans h.new (Nat.le_of_lt (elt h.blk))
/-- It outlasts whatever leaves its own blocks. -/
theorem EX.kept {F : Value → Value → Array Value} {T : TypeId} {N D : Nat} {p v : Value} {bs : List UInt8} {w w' : World} {ow : List Nat} (h : EX F T N D p v bs w) (hk : Kept ow w w') (hd : ∀ k, k ∈ eown D v → k ∉ ow) : EX F T N D p v bs w' := by
  refine ⟨h.new, h.me, (hk.block D (elt h.blk) (hd D (by simp [eown]))).trans h.blk, ?_, h.ne⟩
  refine ⟨h.row.1, ?_⟩
  rcases h.row.2 with hn | ⟨g, cap, cur, fz, hv, hb, hg, r⟩
  · exact Or.inl hn
  · exact Or.inr ⟨g, cap, cur, fz, hv, hb, (hk.block g (elt hg) (hd g (by simp [eown, hv, Value.ownBlock]))).trans hg, r⟩
theorem EX.below {F : Value → Value → Array Value} {T : TypeId} {N D : Nat} {p v : Value} {bs : List UInt8} {w w' : World} (h : EX F T N D p v bs w) (hb : Below w.heap.size w w') : EX F T N D p v bs w' := h.kept (ow := []) (Kept.of_below hb) (by simp)
theorem enext_of {N : Nat} {w w' : World} {o o' : List Nat} (hk : Kept o w w') (hN : N ≤ w.heap.size) (hg : ∀ k, k ∈ o → N ≤ k) (hn : ∀ k, k ∈ o' → k ∈ o ∨ w.heap.size ≤ k) : Next N w w' o o' :=
  ⟨hk.below hN hg, fun b hb hbn => ⟨fun hm => by rcases hn b hm with h | h; exact hbn h; omega, hk.block b hb hbn⟩⟩
theorem enext {F : Value → Value → Array Value} {T : TypeId} {N D : Nat} {p v v' : Value} {bs : List UInt8} {w w' : World} (h : EX F T N D p v bs w) (hk : Kept (eown D v) w w') (hw : v'.ownBlock = v.ownBlock ∨ ∀ k, v'.ownBlock = some k → w.heap.size ≤ k) : Next N w w' (eown D v) (eown D v') :=
  enext_of hk h.size h.ge (fun k hk' => by
    rcases List.mem_cons.1 hk' with rfl | hk'
    · exact Or.inl (by simp [eown])
    · rcases hw with hw | hw
      · rw [hw] at hk'; exact Or.inl (List.mem_cons_of_mem _ hk')
      · exact Or.inr (hw k (by simpa using hk')))

set_option maxHeartbeats 2000000 in
set_option maxRecDepth 100000 in
theorem ecopy {F : Value → Value → Array Value} {T : TypeId} {N D : Nat} {p v : Value} {bs : List UInt8} {w : World} (k : EOk F T) (h : EX F T N D p v bs w) :
    Calls Tryz.prog 118 #[.pointer (some ⟨D, 0, none⟩)] w fun e w' => e = .returned (.tuple #[]) ∧ EX F T N D (.pointer (some ⟨D, 0, none⟩)) v bs w' ∧ Kept [D] w w' ∧ w'.heap.size = w.heap.size := by
  obtain ⟨sz, hz, hs0, hl⟩ := k.size
  obtain ⟨hN, hme, hb, hown, hne⟩ := h
  rcases hme with rfl | rfl
  · have c0 : w.cell? ⟨D, 0, none⟩ = some (.pointer none) := by rw [Lib.cell_of_heap hb]; exact (k.hold _ _).1
    have f0 : w.frozen? ⟨D, 0, none⟩ = false := Lib.frozen_of_heap hb 0
    have hsh : w.shape? D = some (T, sz) := by simp [World.shape?, hb, hz]
    obtain ⟨j, hj, hjs⟩ := Option.map_eq_some_iff.1 ewbsize
    go_enter Tryz.func118, Tryz.ntmps118
    go_wp2
    rw [Lib.run_to_unsafe w ⟨D, 0, none⟩ Tryz.underlying41 Tryz.underlying219 hj (by rw [hjs]; decide) hsh hs0]
    simp only [Result.andThen]
    rw [Oper.upon_value]
    go_wp2
    rw [run_callFunc_extern Tryz.func152 (by kernel_rfl) (by kernel_rfl) (by kernel_rfl) (e := Extern.AbiNoEscape.same) (by kernel_rfl)]
    rw [Lib.run_noEscape]
    simp only [Result.andThen]
    rw [Oper.upon_value]
    go_wp2
    rw [Lib.run_from_unsafe w ⟨D, 0, none⟩ Tryz.underlying219 Tryz.underlying41 hj hsh hl]
    simp only [Result.andThen]
    rw [Oper.upon_value]
    go_wp2
    go_end0
    refine ⟨rfl, ⟨hN, Or.inr rfl, ?_, eown_set hown hne, hne⟩, ekept_set _ _ _ _, by simp [World.setCell]⟩
    rw [eheap_same hb, ((k.hold _ _).2.2 _).1]
  · have c0 : w.cell? ⟨D, 0, none⟩ = some (.pointer (some ⟨D, 0, none⟩)) := by rw [Lib.cell_of_heap hb]; exact (k.hold _ _).1
    have HE : Hid (EX F T N D (.pointer (some ⟨D, 0, none⟩)) v bs w) := hide ⟨hN, Or.inr rfl, hb, hown, hne⟩
    clear hN hb hown hne
    obtain ⟨j, hj, hjs⟩ := Option.map_eq_some_iff.1 ewbsize
    go_enter Tryz.func118, Tryz.ntmps118
    go_wp2
    rw [Lib.run_neq_ptr_same w _ Tryz.underlying41 hj]
    go_wp2
    go_end0
    exact ⟨rfl, unhide HE, Kept.refl _ _, rfl⟩

set_option maxHeartbeats 2000000 in
set_option maxRecDepth 100000 in
theorem EWriteString {F : Value → Value → Array Value} {T : TypeId} (k : EOk F T) {N D : Nat} {p v : Value} {bs : List UInt8} (s : ByteArray) {w : World} (h : EX F T N D p v bs w) (hlen : bs.length + s.size ≤ 140737488355328) :
    Calls Tryz.prog 76 #[.pointer (some ⟨D, 0, none⟩), .string s] w fun e w' => e = .returned (.tuple #[.int .i64 s.size, .nilIface]) ∧ ETurn F T N D v w w' (bs ++ s.data.toList) := by
  obtain ⟨i0, hi, hz0, hz1, hz2⟩ := info_parts ebyte
  have HC := hide (ecopy k h)
  have HH := hide h
  have hN := h.size
  clear h
  go_enter Tryz.func76, Tryz.ntmps76
  go_wp2_with fail
  refine (unhide HC).mono ?_
  rintro e w1 ⟨rfl, h1, hk1, hs1⟩
  have HS1 := hide hs1
  clear hs1
  obtain ⟨hD, _, hbk, hown, hne⟩ := h1
  have c0 : w1.cell? ⟨D, 0, none⟩ = some (.pointer (some ⟨D, 0, none⟩)) := by rw [Lib.cell_of_heap hbk]; exact (k.hold _ _).1
  have c1 : w1.cell? ⟨D, 1, none⟩ = some v := by rw [Lib.cell_of_heap hbk]; exact (k.hold _ _).2.1
  go_wp2_with (at_builtin; refine ewp_string rfl _ _ 42 9 rfl N i0 Tryz.underlying42 Tryz.underlying9 hi hz0 hz1 hz2 _ _ _ rfl hown s rfl ?c3 ?c4 ?c5 ?_)
  case c3 => unfold maxLen; omega
  case c4 => omega
  case c5 => have := unhide HS1; omega
  intro v' w2 hown' hgrow hwh
  have hlt : D < w1.heap.size := elt hbk
  have hb2 : w2.heap[D]? = some (.cells (F (.pointer (some ⟨D, 0, none⟩)) v) T (0, 0)) := by
    rw [hgrow.block D hlt (fun e => hne e.symm)]
    exact hbk
  have d0 : w2.cell? ⟨D, 0, none⟩ = some (.pointer (some ⟨D, 0, none⟩)) := by rw [Lib.cell_of_heap hb2]; exact (k.hold _ _).1
  have d1 : w2.cell? ⟨D, 1, none⟩ = some v := by rw [Lib.cell_of_heap hb2]; exact (k.hold _ _).2.1
  have f1 : w2.frozen? ⟨D, 1, none⟩ = false := Lib.frozen_of_heap hb2 1
  obtain ⟨ao, n', cap, rfl⟩ : ∃ ao n' cap, v' = .slice ao n' cap := by
    rcases hown'.2 with ⟨hv, _⟩ | ⟨g, cap, cur, fz, hv, _⟩
    · exact ⟨_, _, _, hv⟩
    · exact ⟨_, _, _, hv⟩
  have HK : Hid (Kept (eown D v) w (w2.setCell ⟨D, 1, none⟩ (.slice ao n' cap))) := hide (((hk1.mono_own (own' := eown D v) (by simp [eown])).trans ((ekept_grown hgrow).mono_own (own' := eown D v) (fun x hx => List.mem_cons_of_mem _ hx)) (fun x hx => Or.inl hx)).trans ((ekept_set w2 D 1 _).mono_own (own' := eown D v) (by simp [eown])) (fun x hx => Or.inl hx))
  go_wp2
  go_ret2
  have hne' := Lib.ownBlock_neF hown' hb2 k.byte
  refine ⟨rfl, _, _, ⟨hD, Or.inr rfl, ?_, ?_, hne'⟩, enext (unhide HH) (unhide HK) ?_⟩
  · rw [eheap_same hb2, ((k.hold _ _).2.2 _).2]
  · have := eown_set (o := 1) (u := .slice ao n' cap) hown' hne'
    rw [Lib.byteCells_append, ← strCells_bytes]
    simpa [Lib.strCells_length, Lib.byteCells_length] using this
  · rcases hwh with hwh | hwh
    · exact Or.inl hwh
    · exact Or.inr fun q hq => by have := hwh q hq; have := unhide HS1; omega

set_option maxHeartbeats 2000000 in
set_option maxRecDepth 100000 in
theorem EWriteByte {F : Value → Value → Array Value} {T : TypeId} (k : EOk F T) {N D : Nat} {p v : Value} {bs : List UInt8} (c : UInt8) (ci : Int) (hci : (c.toNat : Int) = ci) {w : World} (h : EX F T N D p v bs w) (hlen : bs.length + 1 ≤ 140737488355328) :
    Calls Tryz.prog 78 #[.pointer (some ⟨D, 0, none⟩), .int .u8 ci] w fun e w' => e = .returned .nilIface ∧ ETurn F T N D v w w' (bs ++ [c]) := by
  obtain ⟨i0, hi, hz0, hz1, hz2⟩ := info_parts ebyte
  have HC := hide (ecopy k h)
  have HH := hide h
  have hN := h.size
  have HCI := hide hci
  clear hci h
  go_enter Tryz.func78, Tryz.ntmps78
  go_wp2_with fail
  refine (unhide HC).mono ?_
  rintro e w1 ⟨rfl, h1, hk1, hs1⟩
  have HS1 := hide hs1
  clear hs1
  obtain ⟨hD, _, hbk, hown, hne⟩ := h1
  have c0 : w1.cell? ⟨D, 0, none⟩ = some (.pointer (some ⟨D, 0, none⟩)) := by rw [Lib.cell_of_heap hbk]; exact (k.hold _ _).1
  have c1 : w1.cell? ⟨D, 1, none⟩ = some v := by rw [Lib.cell_of_heap hbk]; exact (k.hold _ _).2.1
  go_wp2_with (at_builtin; refine ewp_byte rfl _ _ 42 rfl N i0 Tryz.underlying42 hi hz0 hz1 hz2 _ _ _ rfl (hown.alloc _) ⟨w1.heap.size, 0, none⟩ 1 (.int .u8 ci) rfl ?c1 rfl ?c3 ?c4 ?c5 ?_)
  case c1 => simp
  case c3 => unfold maxLen; omega
  case c4 => omega
  case c5 => have := unhide HS1; simp; omega
  intro v' w2 hown' hgrow hwh
  have hlt : D < w1.heap.size := elt hbk
  have hb2 : w2.heap[D]? = some (.cells (F (.pointer (some ⟨D, 0, none⟩)) v) T (0, 0)) := by
    rw [hgrow.block D (by simp; omega) (fun e => hne e.symm), Below.heap_alloc _ _ _ hlt]
    exact hbk
  have d0 : w2.cell? ⟨D, 0, none⟩ = some (.pointer (some ⟨D, 0, none⟩)) := by rw [Lib.cell_of_heap hb2]; exact (k.hold _ _).1
  have d1 : w2.cell? ⟨D, 1, none⟩ = some v := by rw [Lib.cell_of_heap hb2]; exact (k.hold _ _).2.1
  have f1 : w2.frozen? ⟨D, 1, none⟩ = false := Lib.frozen_of_heap hb2 1
  obtain ⟨ao, n', cap, rfl⟩ : ∃ ao n' cap, v' = .slice ao n' cap := by
    rcases hown'.2 with ⟨hv, _⟩ | ⟨g, cap, cur, fz, hv, _⟩
    · exact ⟨_, _, _, hv⟩
    · exact ⟨_, _, _, hv⟩
  have HK : Hid (Kept (eown D v) w (w2.setCell ⟨D, 1, none⟩ (.slice ao n' cap))) := hide ((((hk1.mono_own (own' := eown D v) (by simp [eown])).trans (Kept.of_below (own := eown D v) ((Below.refl w1.heap.size w1).alloc (Nat.le_refl _) _)) (fun x hx => Or.inl hx)).trans ((ekept_grown hgrow).mono_own (own' := eown D v) (fun x hx => List.mem_cons_of_mem _ hx)) (fun x hx => Or.inl hx)).trans ((ekept_set w2 D 1 _).mono_own (own' := eown D v) (by simp [eown])) (fun x hx => Or.inl hx))
  have HSA : Hid (w.heap.size ≤ (w1.alloc (.cells #[.int .u8 ci] 5)).heap.size) := hide (by have := unhide HS1; simp; omega)
  go_wp2
  go_ret
  have hne' := Lib.ownBlock_neF hown' hb2 k.byte
  refine ⟨rfl, _, _, ⟨hD, Or.inr rfl, ?_, ?_, hne'⟩, enext (unhide HH) (unhide HK) ?_⟩
  · rw [eheap_same hb2, ((k.hold _ _).2.2 _).2]
  · have := eown_set (o := 1) (u := .slice ao n' cap) hown' hne'
    rw [Lib.byteCells_append]
    have e : Lib.byteCells [c] = [.int .u8 ci] := by simp [Lib.byteCells, unhide HCI]
    rw [e]
    simpa [Lib.byteCells_length] using this
  · rcases hwh with hwh | hwh
    · exact Or.inl hwh
    · exact Or.inr fun q hq => by have := hwh q hq; have := unhide HSA; omega

set_option maxHeartbeats 2000000 in
set_option maxRecDepth 100000 in
theorem EReset {F : Value → Value → Array Value} {T : TypeId} (k : EOk F T) {N D : Nat} {p v : Value} {bs : List UInt8} {w : World} (h : EX F T N D p v bs w) :
    Calls Tryz.prog 19 #[.pointer (some ⟨D, 0, none⟩)] w fun e w' => e = .returned (.tuple #[]) ∧ ETurn F T N D v w w' [] := by
  have HH := hide h
  obtain ⟨hD, hme, hbk, hown, hne⟩ := h
  have c0 : w.cell? ⟨D, 0, none⟩ = some p := by rw [Lib.cell_of_heap hbk]; exact (k.hold _ _).1
  have f0 : w.frozen? ⟨D, 0, none⟩ = false := Lib.frozen_of_heap hbk 0
  have hbk2 : (w.setCell ⟨D, 0, none⟩ (.pointer none)).heap[D]? = some (.cells (F (.pointer none) v) T (0, 0)) := by rw [eheap_same hbk, ((k.hold _ _).2.2 _).1]
  have d1 : (w.setCell ⟨D, 0, none⟩ (.pointer none)).cell? ⟨D, 1, none⟩ = some v := by rw [Lib.cell_of_heap hbk2]; exact (k.hold _ _).2.1
  have f1 : (w.setCell ⟨D, 0, none⟩ (.pointer none)).frozen? ⟨D, 1, none⟩ = false := Lib.frozen_of_heap hbk2 1
  have HK : Hid (Kept (eown D v) w ((w.setCell ⟨D, 0, none⟩ (.pointer none)).setCell ⟨D, 1, none⟩ (.slice none 0 0))) := hide (((ekept_set w D 0 _).mono_own (own' := eown D v) (by simp [eown])).trans ((ekept_set _ D 1 _).mono_own (own' := eown D v) (by simp [eown])) (fun x hx => Or.inl hx))
  clear hme
  go_enter Tryz.func19, Tryz.ntmps19
  go_wp2
  go_end0
  refine ⟨rfl, _, .slice none 0 0, ⟨hD, Or.inl rfl, ?_, World.ownsRowF_nil _ _ _ _, by simp [Value.ownBlock]⟩, enext (unhide HH) (unhide HK) (Or.inr fun q hq => by simp [Value.ownBlock] at hq)⟩
  rw [eheap_same hbk2, ((k.hold _ _).2.2 _).2]

end Go.Proofs.YtffgolanmaenfacGreatDoor

namespace Go.Proofs.YtffgolanmaenfacGreatDoor
open Go.RowKit
set_option linter.unusedSimpArgs false
set_option linter.unusedVariables false

theorem ecellsByte : Tryz.prog.cellsOf 5 = 1 := by kernel_rfl
theorem eus_none (W : World) (q : Option Addr) : (Builtin.unsafeString_ #[83, 3] 9 #[.pointer q, .int .i64 0]).run Tryz.prog W = .ok (.string .empty) W := Lib.run_unsafeString_none W _ _ _ q
/-- What String leaves: it is a builder still. -/
theorem EX.froze {F : Value → Value → Array Value} {T : TypeId} {N D g cap n : Nat} {p : Value} {bs : List UInt8} {w : World} (h : EX F T N D p (.slice (some ⟨g, 0, none⟩) n cap) bs w) (hn : bs.length = n) : EX F T N D p (.slice (some ⟨g, 0, none⟩) n cap) bs (w.freeze ⟨g, 0, none⟩ n) := by
  have hgb : g ≠ D := fun e => h.ne (by simp [Value.ownBlock, e])
  unfold World.freeze
  split
  · exact h
  · rename_i hn0
    refine ⟨h.new, h.me, ?_, ⟨h.row.1, ?_⟩, h.ne⟩
    · simp only [Array.getElem?_modify]
      rw [if_neg hgb]
      exact h.blk
    · rcases h.row.2 with ⟨hv, _⟩ | ⟨g', cap', cur, fz, hv, hbg, hg, hfz, rest⟩
      · cases hv
      · injection hv with ha _ hcap
        injection ha with ha
        injection ha with hgg _ _
        subst hgg
        subst hcap
        obtain ⟨lo, hi⟩ := fz
        refine .inr ⟨g, _, cur, (if lo == hi then (0, 0 + n) else (min lo 0, max hi (0 + n))), by rw [hn], hbg, ?_, ?_, rest⟩
        · simp [Array.getElem?_modify, hg]
        · simp only at hfz
          split <;> simp <;> omega
theorem ekept_freeze (w : World) (g n : Nat) : Kept [g] w (w.freeze ⟨g, 0, none⟩ n) := by
  unfold World.freeze
  split
  · exact Kept.refl _ _
  · exact ⟨rfl, rfl, rfl, by simp, fun k _ hk => by simp only [Array.getElem?_modify]; rw [if_neg (fun e => hk (by simp [e]))]⟩
theorem EX.drew {F : Value → Value → Array Value} {T : TypeId} {N D : Nat} {p v : Value} {bs : List UInt8} {w : World} (h : EX F T N D p v bs w) : EX F T N D p v bs w.drew := h.below ((Below.refl _ _).drew)
theorem EX.self {F : Value → Value → Array Value} {T : TypeId} {N D : Nat} {p v : Value} {bs : List UInt8} {w w' : World} (h : EX F T N D p v bs w) (hb : Below w.heap.size w w') : EX F T N D p v bs w' ∧ Next N w w' (eown D v) (eown D v) := ⟨h.below hb, Next.of_below _ hb h.size⟩

set_option maxHeartbeats 2000000 in
set_option maxRecDepth 100000 in
theorem EString_some {F : Value → Value → Array Value} {T : TypeId} (k : EOk F T) {N D : Nat} {p v : Value} {l : List UInt8} {w : World} (h : EX F T N D p v l w) (h0 : l ≠ []) :
    Calls Tryz.prog 18 #[.pointer (some ⟨D, 0, none⟩)] w fun e w' => e = .returned (.string ⟨l.toArray⟩) ∧ EX F T N D p v l w' ∧ Next N w w' (eown D v) (eown D v) := by
  have HH := hide h
  obtain ⟨hB, hme, hbk, hown, hne⟩ := h
  have hl0 : l.length ≠ 0 := by simpa using h0
  obtain ⟨g, cap, cur, fz, rfl, hbg, hg, hfz, hnc, hcm, hcs, htake⟩ : ∃ g cap cur fz, v = .slice (some ⟨g, 0, none⟩) l.length cap ∧ N ≤ g ∧ w.heap[g]? = some (.cells cur 5 fz) ∧ fz.2 ≤ l.length * 1 ∧ l.length ≤ cap ∧ cap ≤ maxLen ∧ cur.size = cap * 1 ∧ cur.toList.take (l.length * 1) = Lib.byteCells l := by
    rcases hown.2 with ⟨_, hz⟩ | ⟨g, cap, cur, fz, hv, r⟩
    · exact absurd hz hl0
    · exact ⟨g, cap, cur, fz, hv, r⟩
  have c1 : w.drew.cell? ⟨D, 1, none⟩ = some (.slice (some ⟨g, 0, none⟩) l.length cap) := by
    have : w.drew.heap[D]? = some (.cells (F p (.slice (some ⟨g, 0, none⟩) l.length cap)) T (0, 0)) := hbk
    rw [Lib.cell_of_heap this]; exact (k.hold _ _).2.1
  have hSD : (Builtin.unsafeSliceData_ #[42] 83 #[.slice (some ⟨g, 0, none⟩) l.length cap]).run Tryz.prog w.drew = .ok (.pointer (some ⟨g, 0, none⟩)) w.drew :=
    Lib.run_unsafeSliceData_row _ _ _ _ _ _ (by omega)
  have hUS : (Builtin.unsafeString_ #[83, 3] 9 #[.pointer (some ⟨g, 0, none⟩), .int .i64 l.length]).run Tryz.prog w.drew = .ok (.string ⟨l.toArray⟩) (w.drew.freeze ⟨g, 0, none⟩ l.length) := by
    refine Lib.run_unsafeString_row w.drew 83 3 9 5 Tryz.underlying83 ecellsByte g cur.size (by have hg' : w.drew.heap[g]? = some (.cells cur 5 fz) := hg; simp [World.shape?, hg']) l h0 (by omega) (by unfold maxLen at hcm; omega) ?_
    intro j x hx
    have := hown.cells (g := g) rfl j (.int .u8 x.toNat) (by simp [Lib.byteCells, hx])
    exact this
  have HK := hide ((unhide HH).drew.froze rfl)
  have HKP : Hid (Kept (eown D (.slice (some ⟨g, 0, none⟩) l.length cap)) w (w.drew.freeze ⟨g, 0, none⟩ l.length)) := hide ((Kept.of_below (own := eown D (.slice (some ⟨g, 0, none⟩) l.length cap)) ((Below.refl w.heap.size w).drew)).trans ((ekept_freeze w.drew g l.length).mono_own (own' := eown D (.slice (some ⟨g, 0, none⟩) l.length cap)) (by simp [eown, Value.ownBlock])) (fun x hx => Or.inl hx))
  clear hown htake hbk hne hg hbg hfz hcs hcm hme
  go_enter Tryz.func18, Tryz.ntmps18
  go_wp2
  go_region
  all_goals (go_wp2; go_ret; exact ⟨rfl, unhide HK, enext (unhide HH) (unhide HKP) (Or.inl rfl)⟩)

set_option maxHeartbeats 2000000 in
set_option maxRecDepth 100000 in
theorem EString_none {F : Value → Value → Array Value} {T : TypeId} (k : EOk F T) {N D : Nat} {p v : Value} {w : World} (h : EX F T N D p v [] w) :
    Calls Tryz.prog 18 #[.pointer (some ⟨D, 0, none⟩)] w fun e w' => e = .returned (.string ⟨#[]⟩) ∧ EX F T N D p v [] w' ∧ Next N w w' (eown D v) (eown D v) := by
  have HA := hide h
  obtain ⟨hB, hme, hbk, hown, hne⟩ := h
  have hlt := elt hbk
  have hUS := eus_none
  rcases hown.2 with ⟨rfl, _⟩ | ⟨g, cap, cur, fz, rfl, hbg, hg, _, _, _, _, _⟩
  · have c1 : w.drew.cell? ⟨D, 1, none⟩ = some (.slice none 0 0) := by
      have : w.drew.heap[D]? = some (.cells (F p (.slice none 0 0)) T (0, 0)) := hbk
      rw [Lib.cell_of_heap this]; exact (k.hold _ _).2.1
    have hSD : (Builtin.unsafeSliceData_ #[42] 83 #[.slice none 0 0]).run Tryz.prog w.drew = .ok (.pointer none) w.drew := rfl
    clear hbk hown hne hme
    go_enter Tryz.func18, Tryz.ntmps18
    go_wp2
    go_region
    all_goals (go_wp2; go_ret; exact ⟨rfl, (unhide HA).self (Below.refl _ _).drew⟩)
  · by_cases hc0 : cap = 0
    · subst hc0
      have c1 : w.drew.cell? ⟨D, 1, none⟩ = some (.slice (some ⟨g, 0, none⟩) 0 0) := by
        have : w.drew.heap[D]? = some (.cells (F p (.slice (some ⟨g, 0, none⟩) 0 0)) T (0, 0)) := hbk
        rw [Lib.cell_of_heap this]; exact (k.hold _ _).2.1
      have hSD : (Builtin.unsafeSliceData_ #[42] 83 #[.slice (some ⟨g, 0, none⟩) 0 0]).run Tryz.prog w.drew = .ok (.pointer (some ⟨w.drew.heap.size, 0, none⟩)) (w.drew.alloc (.view ⟨g, 0, none⟩ 5)) :=
        Lib.run_unsafeSliceData_zero w.drew _ _ 5 Tryz.underlying83 ⟨g, 0, none⟩ 0 (5, cur.size) (by have hg' : w.drew.heap[g]? = some (.cells cur 5 fz) := hg; simp [World.shape?, hg'])
      have c2 : (w.drew.alloc (.view ⟨g, 0, none⟩ 5)).cell? ⟨D, 1, none⟩ = some (.slice (some ⟨g, 0, none⟩) 0 0) := by
        have : (w.drew.alloc (.view ⟨g, 0, none⟩ 5)).heap[D]? = _ := (Lib.alloc_old w.drew _ D hlt).trans hbk
        rw [Lib.cell_of_heap this]; exact (k.hold _ _).2.1
      have c3 : (w.alloc (.view ⟨g, 0, none⟩ 5)).drew.cell? ⟨D, 1, none⟩ = some (.slice (some ⟨g, 0, none⟩) 0 0) := c2
      have c0 : w.cell? ⟨D, 1, none⟩ = some (.slice (some ⟨g, 0, none⟩) 0 0) := c1
      clear hbk hown hne hme
      go_enter Tryz.func18, Tryz.ntmps18
      go_wp2
      go_region
      all_goals (go_wp2; go_ret; exact ⟨rfl, (unhide HA).self ((Below.refl _ _).drew.alloc (Nat.le_refl _) _)⟩)
    · have c1 : w.drew.cell? ⟨D, 1, none⟩ = some (.slice (some ⟨g, 0, none⟩) 0 cap) := by
        have : w.drew.heap[D]? = some (.cells (F p (.slice (some ⟨g, 0, none⟩) 0 cap)) T (0, 0)) := hbk
        rw [Lib.cell_of_heap this]; exact (k.hold _ _).2.1
      have hSD : (Builtin.unsafeSliceData_ #[42] 83 #[.slice (some ⟨g, 0, none⟩) 0 cap]).run Tryz.prog w.drew = .ok (.pointer (some ⟨g, 0, none⟩)) w.drew :=
        Lib.run_unsafeSliceData_row _ _ _ _ _ _ hc0
      clear hc0 hbk hown hne hme
      go_enter Tryz.func18, Tryz.ntmps18
      go_wp2
      go_region
      all_goals (go_wp2; go_ret; exact ⟨rfl, (unhide HA).self (Below.refl _ _).drew⟩)
theorem EString {F : Value → Value → Array Value} {T : TypeId} (k : EOk F T) {N D : Nat} {p v : Value} {l : List UInt8} {w : World} (h : EX F T N D p v l w) :
    Calls Tryz.prog 18 #[.pointer (some ⟨D, 0, none⟩)] w fun e w' => e = .returned (.string ⟨l.toArray⟩) ∧ EX F T N D p v l w' ∧ Next N w w' (eown D v) (eown D v) := by
  cases l with
  | nil => exact EString_none k h
  | cons x r => exact EString_some k h (by simp)

end Go.Proofs.YtffgolanmaenfacGreatDoor

namespace Go.Proofs.YtffgolanmaenfacGreatDoor
open Go.RowKit
set_option linter.unusedSimpArgs false
set_option linter.unusedVariables false

def sCells (B : Nat) (lv : Value) (f0 f1 f2 : ARec) : List Value := [.pointer (some ⟨B, 0, none⟩), lv] ++ rcells f0 ++ rcells f1 ++ rcells f2

/-- A store at block S: its files at B, its log lv. -/
structure SRep (N : Nat) (w : World) (S B : Nat) (own : List Nat) (lv : Value) (L : List ARec) : Prop where
  new : N ≤ S
  blk : ∃ C : Array Value, w.heap[S]? = some (.cells C 114 (0, 0)) ∧ C.toList = sCells B lv (lastR L 0) (lastR L 1) (lastR L 2)
  files : OObj N w B own (behind L)
  log : BRow w N lv (logB L)
  good : Good L
  sB : S ∉ own
  sL : lv.ownBlock ≠ some S
  lB : ∀ k, lv.ownBlock = some k → k ∉ own
def sown (S : Nat) (own : List Nat) (lv : Value) : List Nat := S :: (lv.ownBlock.toList ++ own)

theorem SRep.lt {N : Nat} {w : World} {S B : Nat} {own : List Nat} {lv : Value} {L : List ARec} (h : SRep N w S B own lv L) : S < w.heap.size := by
  obtain ⟨C, hC, _⟩ := h.blk
  exact (Array.getElem?_eq_some_iff.1 hC).1
theorem SRep.at {N : Nat} {w : World} {S B : Nat} {own : List Nat} {lv : Value} {L : List ARec} (h : SRep N w S B own lv L) (j : Nat) : w.cell? ⟨S, j, none⟩ = (sCells B lv (lastR L 0) (lastR L 1) (lastR L 2))[j]? ∧ w.frozen? ⟨S, j, none⟩ = false := by
  obtain ⟨C, hC, hl⟩ := h.blk
  refine ⟨?_, frozen_of_row w S j _ _ hC⟩
  rw [cell_of_row w S _ _ _ _ hC, ← hl, Array.getElem?_toList]
theorem SRep.ptr {N : Nat} {w : World} {S B : Nat} {own : List Nat} {lv : Value} {L : List ARec} (h : SRep N w S B own lv L) : w.cell? ⟨S, 0, none⟩ = some (.pointer (some ⟨B, 0, none⟩)) := (h.at 0).1
theorem SRep.lg {N : Nat} {w : World} {S B : Nat} {own : List Nat} {lv : Value} {L : List ARec} (h : SRep N w S B own lv L) : w.cell? ⟨S, 1, none⟩ = some lv := (h.at 1).1
theorem SRep.last {N : Nat} {w : World} {S B : Nat} {own : List Nat} {lv : Value} {L : List ARec} (h : SRep N w S B own lv L) (c : Nat) (hc : c < 3) : RecAt w S (2 + c * 8) (lastR L c) := by
  match c, hc with
  | 0, _ => exact ⟨(h.at 2).1, (h.at 3).1, (h.at 4).1, (h.at 5).1, (h.at 6).1, (h.at 7).1, (h.at 8).1, (h.at 9).1⟩
  | 1, _ => exact ⟨(h.at 10).1, (h.at 11).1, (h.at 12).1, (h.at 13).1, (h.at 14).1, (h.at 15).1, (h.at 16).1, (h.at 17).1⟩
  | 2, _ => exact ⟨(h.at 18).1, (h.at 19).1, (h.at 20).1, (h.at 21).1, (h.at 22).1, (h.at 23).1, (h.at 24).1, (h.at 25).1⟩
theorem SRep.below {N : Nat} {w w' : World} {S B : Nat} {own : List Nat} {lv : Value} {L : List ARec} (h : SRep N w S B own lv L) (hb : Below w.heap.size w w') : SRep N w' S B own lv L := by
  obtain ⟨C, hC, hl⟩ := h.blk
  exact ⟨h.new, ⟨C, (hb.block S h.lt).trans hC, hl⟩, ⟨h.files.rep.below hb, h.files.inv, h.files.own⟩, h.log.below hb, h.good, h.sB, h.sL, h.lB⟩

set_option maxRecDepth 100000 in
/-- Bytes copied. -/
theorem Clone_none (c : Nat) (w : World) : Calls Tryz.prog 176 #[.slice none 0 0] w fun e w' => e = .returned (.slice none 0 0) ∧ w' = w := by
  have heq : ∀ W, (binOp .eql 42 (.slice none 0 0) (.slice none 0 0)).run Tryz.prog W = .ok (.bool true) W := fun W => by kernel_rfl
  go_enter Tryz.func176, Tryz.ntmps176
  go_wp2
  go_ret
  exact ⟨rfl, rfl⟩
set_option maxRecDepth 100000 in
set_option maxHeartbeats 2000000 in
theorem Clone_some (A : Addr) (n c : Nat) (bs : List UInt8) (w : World) (hb : ByAt w (some A) bs) (hn : bs.length = n) (hm : n ≤ 1000000) :
    Calls Tryz.prog 176 #[.slice (some A) n c] w fun e w' => ∃ a c', e = .returned (.slice a n c') ∧ BRow w' w.heap.size (.slice a n c') bs ∧ Below w.heap.size w w' := by
  have HR0 : Hid (BRow (w.alloc (.cells #[] 5)) w.heap.size (.slice (some ⟨w.heap.size, 0, none⟩) 0 0) []) := World.ownsRow_lit w #[] (base := w.heap.size) (e := 5) (size := 1) 0 (Nat.le_refl _) (by unfold maxLen; omega) rfl
  have hB : Below w.heap.size w (w.alloc (.cells #[] 5)) := (Below.refl _ _).alloc (Nat.le_refl _) _
  have HL := hide ((hb.below hB).lies (cap := c) hn (fun h => by cases h))
  have HB := hide hB
  clear hb hB
  have heq : ∀ W, (binOp .eql 42 (.slice (some A) n c) (.slice none 0 0)).run Tryz.prog W = .ok (.bool false) W := fun W => by kernel_rfl
  go_enter Tryz.func176, Tryz.ntmps176
  go_wp2_with (at_builtin; refine wpList_bytes _ rfl _ _ rfl w.heap.size (.slice (some ⟨w.heap.size, 0, none⟩) 0 0) [] rfl (unhide HR0) (.slice (some A) n c) n bs rfl hn (unhide HL) (by simp; omega) (by simp) ?_; intro ad c2 w2 ho2 hg2; simp only [List.length_nil, Nat.zero_add, List.nil_append] at ho2)
  have HO := hide ho2
  have HB2 := hide ((unhide HB).grown hg2 (unhide HB).size (fun j hj => ((unhide HR0).lt j hj).1))
  clear ho2 hg2
  go_wp2
  go_ret
  exact ⟨ad, c2, by simp, unhide HO, unhide HB2⟩
theorem Clone_by (a : Option Addr) (n c : Nat) (bs : List UInt8) (w : World) (hb : ByAt w a bs) (hn : bs.length = n) (hm : n ≤ 1000000) (hnil : a = none → n = 0 ∧ c = 0) :
    Calls Tryz.prog 176 #[.slice a n c] w fun e w' => ∃ a c', e = .returned (.slice a n c') ∧ BRow w' w.heap.size (.slice a n c') bs ∧ Below w.heap.size w w' := by
  cases a with
  | none =>
    obtain ⟨rfl, rfl⟩ := hnil rfl
    refine (Clone_none 0 w).mono ?_
    rintro e w' ⟨rfl, rfl⟩
    rw [List.length_eq_zero_iff.1 hn]
    exact ⟨none, 0, rfl, BRow.nil _ _, Below.refl _ _⟩
  | some A => exact Clone_some A n c bs w hb hn hm
/-- Bytes of a row lie there. -/
theorem BRow.by {w : World} {N n c : Nat} {a : Option Addr} {bs : List UInt8} (h : BRow w N (.slice a n c) bs) (hn : bs.length = n) : ByAt w a bs ∧ (a = none → n = 0 ∧ c = 0) ∧ n ≤ c := by
  have h' := h
  unfold BRow at h'
  rw [hn] at h'
  refine ⟨fun h0 => ?_, fun e => ?_, row_cap h'⟩
  · obtain ⟨g, rfl, _⟩ := h.form h0
    exact ⟨g, 0, rfl, fun j x hx => h.cells j x hx⟩
  · subst e
    exact row_none h'

set_option maxRecDepth 100000 in
set_option maxHeartbeats 2000000 in
theorem Log_any {N : Nat} {w : World} {S B : Nat} {own : List Nat} {lv : Value} {L : List ARec} (h : SRep N w S B own lv L) (hs : (logB L).length ≤ 1000000) :
    Calls Tryz.prog 142 #[.pointer (some ⟨S, 0, none⟩)] w fun e w' => ∃ a c', e = .returned (.slice a (logB L).length c') ∧ BRow w' w.heap.size (.slice a (logB L).length c') (logB L) ∧ Below w.heap.size w w' := by
  obtain ⟨n, hn⟩ : ∃ n, (logB L).length = n := ⟨_, rfl⟩
  have hl := h.log
  obtain ⟨a, c, rfl⟩ := row_form hl
  have hc := h.lg
  rw [hn] at hl hc hs ⊢
  obtain ⟨h1, h2, _⟩ := hl.by hn
  have HC := hide (Clone_by a n c (logB L) w h1 hn hs h2)
  clear h hl h1 h2
  go_enter Tryz.func142, Tryz.ntmps142
  go_wp2_with fail
  refine (unhide HC).mono ?_
  rintro e w2 ⟨a2, c2, rfl, ho, hb⟩
  have HO := hide ho
  have HB := hide hb
  clear ho hb
  go_wp2
  go_ret
  exact ⟨a2, c2, rfl, unhide HO, unhide HB⟩

set_option maxRecDepth 100000 in
set_option maxHeartbeats 2000000 in
theorem SNew_any (w : World) : Calls Tryz.prog 22 #[] w fun e w' => ∃ S B own lv, e = .returned (.pointer (some ⟨S, 0, none⟩)) ∧ SRep w.heap.size w' S B own lv [] ∧ Below w.heap.size w w' := by
  have HN := hide (fun W => New_any W)
  have HO := hide (New_obj w)
  go_enter Tryz.func22, Tryz.ntmps22
  go_wp2_with fail
  refine ((unhide HN) _).mono ?_
  rintro e w1 ⟨rfl, rfl⟩
  have HR : Hid (SRep w.heap.size ((w.alloc (.cells #[.slice none 0 0] 155)).alloc (.cells #[.pointer (some ⟨w.heap.size, 0, none⟩), .slice none 0 0, .int .i64 0, .int .i64 0, .int .i64 0, .string ⟨#[]⟩, .string ⟨#[]⟩, .string ⟨#[]⟩, .int .i64 0, .string ⟨#[]⟩, .int .i64 0, .int .i64 0, .int .i64 0, .string ⟨#[]⟩, .string ⟨#[]⟩, .string ⟨#[]⟩, .int .i64 0, .string ⟨#[]⟩, .int .i64 0, .int .i64 0, .int .i64 0, .string ⟨#[]⟩, .string ⟨#[]⟩, .string ⟨#[]⟩, .int .i64 0, .string ⟨#[]⟩] 114)) (w.heap.size + 1) w.heap.size [w.heap.size] (.slice none 0 0) []) := by
    have h := heap_alloc_new (w.alloc (.cells #[.slice none 0 0] 155)) (.cells #[.pointer (some ⟨w.heap.size, 0, none⟩), .slice none 0 0, .int .i64 0, .int .i64 0, .int .i64 0, .string ⟨#[]⟩, .string ⟨#[]⟩, .string ⟨#[]⟩, .int .i64 0, .string ⟨#[]⟩, .int .i64 0, .int .i64 0, .int .i64 0, .string ⟨#[]⟩, .string ⟨#[]⟩, .string ⟨#[]⟩, .int .i64 0, .string ⟨#[]⟩, .int .i64 0, .int .i64 0, .int .i64 0, .string ⟨#[]⟩, .string ⟨#[]⟩, .string ⟨#[]⟩, .int .i64 0, .string ⟨#[]⟩] 114)
    rw [show (w.alloc (.cells #[.slice none 0 0] 155)).heap.size = w.heap.size + 1 by simp] at h
    have hb : Below (w.alloc (.cells #[.slice none 0 0] 155)).heap.size (w.alloc (.cells #[.slice none 0 0] 155)) ((w.alloc (.cells #[.slice none 0 0] 155)).alloc (.cells #[.pointer (some ⟨w.heap.size, 0, none⟩), .slice none 0 0, .int .i64 0, .int .i64 0, .int .i64 0, .string ⟨#[]⟩, .string ⟨#[]⟩, .string ⟨#[]⟩, .int .i64 0, .string ⟨#[]⟩, .int .i64 0, .int .i64 0, .int .i64 0, .string ⟨#[]⟩, .string ⟨#[]⟩, .string ⟨#[]⟩, .int .i64 0, .string ⟨#[]⟩, .int .i64 0, .int .i64 0, .int .i64 0, .string ⟨#[]⟩, .string ⟨#[]⟩, .string ⟨#[]⟩, .int .i64 0, .string ⟨#[]⟩] 114)) := (Below.refl _ _).alloc (Nat.le_refl _) _
    exact ⟨by omega, ⟨_, h, rfl⟩, ⟨(unhide HO).rep.below hb, (unhide HO).inv, (unhide HO).own⟩, BRow.nil _ _, Good.nil, by simp, by simp [Value.ownBlock], by simp [Value.ownBlock]⟩
  have HB := hide (((Below.refl w.heap.size w).alloc (Nat.le_refl _) (.cells #[.slice none 0 0] 155)).alloc (by simp) (.cells #[.pointer (some ⟨w.heap.size, 0, none⟩), .slice none 0 0, .int .i64 0, .int .i64 0, .int .i64 0, .string ⟨#[]⟩, .string ⟨#[]⟩, .string ⟨#[]⟩, .int .i64 0, .string ⟨#[]⟩, .int .i64 0, .int .i64 0, .int .i64 0, .string ⟨#[]⟩, .string ⟨#[]⟩, .string ⟨#[]⟩, .int .i64 0, .string ⟨#[]⟩, .int .i64 0, .int .i64 0, .int .i64 0, .string ⟨#[]⟩, .string ⟨#[]⟩, .string ⟨#[]⟩, .int .i64 0, .string ⟨#[]⟩] 114))
  go_wp2
  go_ret
  exact ⟨_, _, _, _, rfl, unhide HR, unhide HB⟩

end Go.Proofs.YtffgolanmaenfacGreatDoor

namespace Go.Proofs.YtffgolanmaenfacGreatDoor
open Go.RowKit
set_option linter.unusedSimpArgs false
set_option linter.unusedVariables false

/-- A store at block S: its files at B and its last records; whatever its log is. -/
structure SCore (N : Nat) (w : World) (S B : Nat) (own : List Nat) (lv : Value) (L : List ARec) : Prop where
  new : N ≤ S
  blk : ∃ C : Array Value, w.heap[S]? = some (.cells C 114 (0, 0)) ∧ C.toList = sCells B lv (lastR L 0) (lastR L 1) (lastR L 2)
  files : OObj N w B own (behind L)
  sB : S ∉ own
theorem SRep.core {N : Nat} {w : World} {S B : Nat} {own : List Nat} {lv : Value} {L : List ARec} (h : SRep N w S B own lv L) : SCore N w S B own lv L := ⟨h.new, h.blk, h.files, h.sB⟩
theorem SCore.lt {N : Nat} {w : World} {S B : Nat} {own : List Nat} {lv : Value} {L : List ARec} (h : SCore N w S B own lv L) : S < w.heap.size := by
  obtain ⟨C, hC, _⟩ := h.blk
  exact (Array.getElem?_eq_some_iff.1 hC).1
theorem SCore.at {N : Nat} {w : World} {S B : Nat} {own : List Nat} {lv : Value} {L : List ARec} (h : SCore N w S B own lv L) (j : Nat) : w.cell? ⟨S, j, none⟩ = (sCells B lv (lastR L 0) (lastR L 1) (lastR L 2))[j]? ∧ w.frozen? ⟨S, j, none⟩ = false := by
  obtain ⟨C, hC, hl⟩ := h.blk
  refine ⟨?_, frozen_of_row w S j _ _ hC⟩
  rw [cell_of_row w S _ _ _ _ hC, ← hl, Array.getElem?_toList]
theorem SCore.ptr {N : Nat} {w : World} {S B : Nat} {own : List Nat} {lv : Value} {L : List ARec} (h : SCore N w S B own lv L) : w.cell? ⟨S, 0, none⟩ = some (.pointer (some ⟨B, 0, none⟩)) := (h.at 0).1
theorem SCore.below {N : Nat} {w w' : World} {S B : Nat} {own : List Nat} {lv : Value} {L : List ARec} (h : SCore N w S B own lv L) (hb : Below w.heap.size w w') : SCore N w' S B own lv L := by
  obtain ⟨C, hC, hl⟩ := h.blk
  exact ⟨h.new, ⟨C, (hb.block S h.lt).trans hC, hl⟩, ⟨h.files.rep.below hb, h.files.inv, h.files.own⟩, h.sB⟩
/-- Eight cells written, from o on. -/
def set8o (w : World) (b o : Nat) (y0 y1 y2 y3 y4 y5 y6 y7 : Value) : World :=
  (((((((w.setCell ⟨b, o, none⟩ y0).setCell ⟨b, o + 1, none⟩ y1).setCell ⟨b, o + 2, none⟩ y2).setCell ⟨b, o + 3, none⟩ y3).setCell ⟨b, o + 4, none⟩ y4).setCell ⟨b, o + 5, none⟩ y5).setCell ⟨b, o + 6, none⟩ y6).setCell ⟨b, o + 7, none⟩ y7
theorem set_mid (A Z : List Value) (x0 x1 x2 x3 x4 x5 x6 x7 y0 y1 y2 y3 y4 y5 y6 y7 : Value) :
    ((((((((A ++ x0 :: x1 :: x2 :: x3 :: x4 :: x5 :: x6 :: x7 :: Z).set A.length y0).set (A.length + 1) y1).set (A.length + 2) y2).set (A.length + 3) y3).set (A.length + 4) y4).set (A.length + 5) y5).set (A.length + 6) y6).set (A.length + 7) y7 = A ++ y0 :: y1 :: y2 :: y3 :: y4 :: y5 :: y6 :: y7 :: Z := by
  induction A with
  | nil => rfl
  | cons a A ih =>
    simp only [List.cons_append, List.length_cons, show A.length + 1 + 1 = A.length + 1 + 1 from rfl, Nat.add_right_comm A.length 1, List.set_cons_succ]
    rw [ih]
theorem set8o_blk {w : World} {b o : Nat} {C : Array Value} {e : TypeId} (h : w.heap[b]? = some (.cells C e (0, 0))) (A Z : List Value) (x0 x1 x2 x3 x4 x5 x6 x7 : Value) (hC : C.toList = A ++ x0 :: x1 :: x2 :: x3 :: x4 :: x5 :: x6 :: x7 :: Z) (hA : A.length = o) (y0 y1 y2 y3 y4 y5 y6 y7 : Value) :
    ∃ C', (set8o w b o y0 y1 y2 y3 y4 y5 y6 y7).heap[b]? = some (.cells C' e (0, 0)) ∧ C'.toList = A ++ y0 :: y1 :: y2 :: y3 :: y4 :: y5 :: y6 :: y7 :: Z := by
  have h0 := heap_setCell_same h (o := o) y0
  have h1 := heap_setCell_same h0 (o := o + 1) y1
  have h2 := heap_setCell_same h1 (o := o + 2) y2
  have h3 := heap_setCell_same h2 (o := o + 3) y3
  have h4 := heap_setCell_same h3 (o := o + 4) y4
  have h5 := heap_setCell_same h4 (o := o + 5) y5
  have h6 := heap_setCell_same h5 (o := o + 6) y6
  have h7 := heap_setCell_same h6 (o := o + 7) y7
  refine ⟨_, h7, ?_⟩
  simp only [Array.toList_setIfInBounds, hC, ← hA]
  exact set_mid A Z x0 x1 x2 x3 x4 x5 x6 x7 y0 y1 y2 y3 y4 y5 y6 y7
theorem set8o_kept (w : World) (b o : Nat) (y0 y1 y2 y3 y4 y5 y6 y7 : Value) : Kept [b] w (set8o w b o y0 y1 y2 y3 y4 y5 y6 y7) := by
  have k : ∀ (w : World) (o : Nat) (y : Value), Kept [b] w (w.setCell ⟨b, o, none⟩ y) := fun w o y => kept_setCell [b] w b o y (by simp)
  have s : ∀ x, x ∈ [b] → x ∈ [b] ∨ w.heap.size ≤ x := fun x hx => .inl hx
  unfold set8o
  exact (((((((k _ _ _).trans (k _ _ _) s).trans (k _ _ _) s).trans (k _ _ _) s).trans (k _ _ _) s).trans (k _ _ _) s).trans (k _ _ _) s).trans (k _ _ _) s

/-- The last record of a client set: the records are those with it behind them. -/
theorem sCells_set (B : Nat) (lv : Value) (L : List ARec) (r : ARec) (c : Nat) (hc : c < 3) (hr : r.client = (c : Int)) :
    ∃ A Z, A.length = 2 + c * 8 ∧ sCells B lv (lastR L 0) (lastR L 1) (lastR L 2) = A ++ (rcells (lastR L c) ++ Z) ∧ sCells B lv (lastR (L ++ [r]) 0) (lastR (L ++ [r]) 1) (lastR (L ++ [r]) 2) = A ++ (rcells r ++ Z) := by
  simp only [lastR_snoc, hr]
  match c, hc with
  | 0, _ => exact ⟨[.pointer (some ⟨B, 0, none⟩), lv], rcells (lastR L 1) ++ rcells (lastR L 2), rfl, by simp [sCells], by simp [sCells]⟩
  | 1, _ => exact ⟨[.pointer (some ⟨B, 0, none⟩), lv] ++ rcells (lastR L 0), rcells (lastR L 2), rfl, by simp [sCells], by simp [sCells]⟩
  | 2, _ => exact ⟨[.pointer (some ⟨B, 0, none⟩), lv] ++ rcells (lastR L 0) ++ rcells (lastR L 1), [], rfl, by simp [sCells], by simp [sCells]⟩

theorem St.keptS {w w' : World} {B : Nat} {own own2 : List Nat} {st : List AFile} (h : St w B own st) (hk : Kept own2 w w') (hd : ∀ k, k ∈ own → k ∉ own2) : St w' B own st := by
  obtain ⟨v, fs, hr, rfl, rfl⟩ := h
  exact ⟨v, fs, hr.kept hk hd, rfl, rfl⟩
/-- A record done: by the files (from w to w1), then it is its client's last one. -/
theorem SCore.done {N : Nat} {w w1 : World} {S B : Nat} {own own1 : List Nat} {lv : Value} {L : List ARec} {r : ARec} {c : Nat} (h : SCore N w S B own lv L) (ho : OObj N w1 B own1 (aDo (behind L) r.call).st) (hn : Next N w w1 own own1) (hc : c < 3) (hr : r.client = (c : Int)) :
    SCore N (set8o w1 S (2 + c * 8) (.int .i64 r.client) (.int .i64 r.no) (.int .i64 r.call.kind) (.string r.call.name) (.string r.call.dst) (.string r.call.text) (.int .i64 r.code) (.string r.ans)) S B own1 lv (L ++ [r]) := by
  obtain ⟨C, hC, hl⟩ := h.blk
  obtain ⟨hs1, hs2⟩ := hn.keep S h.lt h.sB
  obtain ⟨A, Z, hA, e1, e2⟩ := sCells_set B lv L r c hc hr
  rw [e1] at hl
  obtain ⟨C', h1, h2⟩ := set8o_blk (hs2.trans hC) A Z _ _ _ _ _ _ _ _ hl hA (.int .i64 r.client) (.int .i64 r.no) (.int .i64 r.call.kind) (.string r.call.name) (.string r.call.dst) (.string r.call.text) (.int .i64 r.code) (.string r.ans)
  have hk := set8o_kept w1 S (2 + c * 8) (.int .i64 r.client) (.int .i64 r.no) (.int .i64 r.call.kind) (.string r.call.name) (.string r.call.dst) (.string r.call.text) (.int .i64 r.code) (.string r.ans)
  refine ⟨h.new, ⟨C', h1, by rw [h2, e2]; rfl⟩, ?_, hs1⟩
  rw [behind_snoc]
  exact ⟨ho.rep.keptS hk (by intro k hk1 hm; rw [List.mem_singleton.1 hm] at hk1; exact hs1 hk1), ho.inv, ho.own⟩

end Go.Proofs.YtffgolanmaenfacGreatDoor

namespace Go.Proofs.YtffgolanmaenfacGreatDoor
open Go.RowKit
set_option linter.unusedSimpArgs false
set_option linter.unusedVariables false

theorem allF_few : ∀ (f : Nat) (bs : List UInt8), (allF f bs).1.length ≤ bs.length
  | 0, _ => by simp [allF]
  | f + 1, bs => by
    rw [allF]
    by_cases h : (decR bs).code ≠ 0
    · rw [if_pos h]; simp
    · rw [if_neg h]
      have hn := decR_n (by simpa using h)
      have := allF_few f (bs.drop (decR bs).n.toNat)
      rw [List.length_drop] at this
      simp only [List.length_cons]
      omega
theorem allR_few (bs : List UInt8) : (allR bs).1.length ≤ bs.length := allF_few _ _

theorem All_by (a0 : Option Addr) (L cap : Nat) (bs : List UInt8) (w : World) (hb : ByAt w a0 bs) (hL : bs.length = L) (hcap : L ≤ cap) (hm : L ≤ 1000000) (hnil : a0 = none → L = 0 ∧ cap = 0) : Calls Tryz.prog 175 #[.slice a0 L cap] w (AllRes w (allR bs)) := by
  cases a0 with
  | none =>
    obtain ⟨rfl, rfl⟩ := hnil rfl
    rw [List.length_eq_zero_iff.1 hL]
    exact All_none w
  | some A =>
    rcases Nat.eq_zero_or_pos L with h | h
    · subst h
      rw [List.length_eq_zero_iff.1 hL]
      exact All_empty A cap w
    · obtain ⟨b, off, e, hc⟩ := hb (fun h0 => by rw [h0] at hL; simp at hL; omega)
      cases e
      obtain ⟨x, hx⟩ : ∃ x, bs[0]? = some x := ⟨_, List.getElem?_eq_getElem (by omega)⟩
      exact All_some b off L cap bs w hc (World.block_lt_of_cell? w _ (hc 0 x hx)) hL hcap hm
end Go.Proofs.YtffgolanmaenfacGreatDoor

namespace Go.Proofs.YtffgolanmaenfacGreatDoor
open Go.RowKit
set_option linter.unusedSimpArgs false
set_option linter.unusedVariables false

/-- The bytes that were read are those of the records. -/
theorem allF_good : ∀ (f : Nat) (bs : List UInt8), bs.length < f → Good (allF f bs).1 ∧ bs.take (allF f bs).2 = logB (allF f bs).1 ∧ (allF f bs).2 = (logB (allF f bs).1).length ∧ (allF f bs).2 ≤ bs.length
  | 0, _, h => by omega
  | f + 1, bs, hf => by
    rw [allF]
    by_cases h : (decR bs).code ≠ 0
    · rw [if_pos h]; exact ⟨Good.nil, by simp [logB], by simp [logB], by simp⟩
    · have h0 : (decR bs).code = 0 := by simpa using h
      obtain ⟨e1, e2, e3, e4⟩ := decR_inv h0
      have h5 := (encL_le e1).1
      rw [if_neg h]
      have hn : (decR bs).n.toNat = (encL (decR bs).rcd).length := by rw [e2]; simp
      rw [hn]
      obtain ⟨i1, i2, i3, i4⟩ := allF_good f (bs.drop (encL (decR bs).rcd).length) (by rw [List.length_drop]; omega)
      dsimp only
      have hl : logB ((decR bs).rcd :: (allF f (bs.drop (encL (decR bs).rcd).length)).1) = encL (decR bs).rcd ++ logB (allF f (bs.drop (encL (decR bs).rcd).length)).1 := by simp [logB]
      refine ⟨fun r hr => ?_, ?_, ?_, ?_⟩
      · rcases List.mem_cons.1 hr with rfl | hr
        · exact e1
        · exact i1 r hr
      · rw [hl, ← i2, List.take_add, e3]
      · rw [hl, List.length_append, ← i3]
      · rw [List.length_drop] at i4; omega
theorem allR_good (bs : List UInt8) : Good (allR bs).1 ∧ bs.take (allR bs).2 = logB (allR bs).1 ∧ (allR bs).2 = (logB (allR bs).1).length ∧ (allR bs).2 ≤ bs.length := allF_good _ _ (by omega)

theorem SRep.base {N M : Nat} {w : World} {S B : Nat} {own : List Nat} {lv : Value} {L : List ARec} (h : SRep M w S B own lv L) (hN : N ≤ M) : SRep N w S B own lv L :=
  ⟨Nat.le_trans hN h.new, h.blk, ⟨h.files.rep, h.files.inv, fun k hk => Nat.le_trans hN (h.files.own k hk)⟩, ownsRow_base h.log hN, h.good, h.sB, h.sL, h.lB⟩
/-- Its log laid. -/
theorem SCore.setLog {N : Nat} {w : World} {S B : Nat} {own : List Nat} {lv lv' : Value} {L : List ARec} (h : SCore N w S B own lv L) (hl : BRow w N lv' (logB L)) (h1 : lv'.ownBlock ≠ some S) (h2 : ∀ k, lv'.ownBlock = some k → k ∉ own) (hg : Good L) :
    SRep N (w.setCell ⟨S, 1, none⟩ lv') S B own lv' L := by
  obtain ⟨C, hC, hl2⟩ := h.blk
  have hs := heap_setCell_same hC (o := 1) lv'
  have hk := kept_setCell [S] w S 1 lv' (by simp)
  refine ⟨h.new, ⟨_, hs, ?_⟩, ⟨h.files.rep.keptS hk (fun k hk1 hm => ?_), h.files.inv, h.files.own⟩, ?_, hg, h.sB, h1, h2⟩
  · rw [Array.toList_setIfInBounds, hl2]; rfl
  · rw [List.mem_singleton.1 hm] at hk1; exact h.sB hk1
  · exact ownsRow_same hl (fun j hj => hk.block j (hl.lt j hj).2 (fun hm => h1 (by rw [List.mem_singleton.1 hm] at hj; exact hj)))

set_option maxRecDepth 100000 in
set_option maxHeartbeats 8000000 in
theorem Open_any (a0 : Option Addr) (n cap : Nat) (bs : List UInt8) (w : World) (hb : ByAt w a0 bs) (hn : bs.length = n) (hcap : n ≤ cap) (hm : n ≤ 1000000) (hnil : a0 = none → n = 0 ∧ cap = 0) :
    Calls Tryz.prog 167 #[.slice a0 n cap] w fun e w' => ∃ S B own lv, e = .returned (.tuple #[.pointer (some ⟨S, 0, none⟩), .int .i64 ((n : Int) - ((allR bs).2 : Int))]) ∧ SRep w.heap.size w' S B own lv (allR bs).1 ∧ Below w.heap.size w w' := by
  obtain ⟨hg, ht, hk2, hkn⟩ := allR_good bs
  have hfew := allR_few bs
  have HAL := hide (All_by a0 n cap bs w hb hn hcap hm hnil)
  have HCL : Hid (∀ W, Below w.heap.size w W → Calls Tryz.prog 176 #[.slice a0 (allR bs).2 cap] W fun e w' => ∃ a c', e = .returned (.slice a (allR bs).2 c') ∧ BRow w' W.heap.size (.slice a (allR bs).2 c') (logB (allR bs).1) ∧ Below W.heap.size W w') := fun W hW => by
    rw [← ht]
    refine Clone_by a0 (allR bs).2 cap (bs.take (allR bs).2) W (fun h0 => ?_) (by rw [List.length_take]; omega) (by omega) (fun h => ?_)
    · obtain ⟨b, off, rfl, hc⟩ := (hb.below hW) (fun h1 => h0 (by rw [h1]; simp))
      refine ⟨b, off, rfl, fun j x hx => hc j x ?_⟩
      rw [List.getElem?_take] at hx
      split at hx
      · exact hx
      · cases hx
    · have := hnil h; omega
  generalize allR bs = al at *
  obtain ⟨rs, k⟩ := al
  dsimp only at *
  have HG := hide hg
  have HNW := hide (fun W => SNew_any W)
  have HK2 := hide hk2
  obtain ⟨m, hmm⟩ : ∃ m, rs.length = m := ⟨_, rfl⟩
  have hkc : (k : Int) ≤ (cap : Int) := by omega
  have hm5 : m ≤ 1000000 := by omega
  have hkn' : k ≤ n := by omega
  clear hb hn hnil hg ht hk2 hkn hfew
  go_enter Tryz.func167, Tryz.ntmps167
  go_wp2_with fail
  refine (unhide HAL).mono ?_
  rintro e w1 ⟨ga, ca, rfl, oa, b1⟩
  dsimp only
  rw [hmm] at oa ⊢
  have HRS := hide (recs_row oa hmm)
  have HB1 := hide b1
  have HRL : Hid (∀ b, (Value.slice ga m ca).ownBlock = some b → b < w1.heap.size) := fun b h => (oa.lt b h).2
  clear oa b1
  go_wp2_with fail
  refine ((unhide HNW) _).mono ?_
  rintro e w2 ⟨S, B, own0, lv0, rfl, hs2, b2⟩
  have HS2 := hide hs2.core
  have HB2 := hide b2
  clear hs2 b2
  go_wp2_with fail
  go_loopw [17, 8] (fun i _ wr => ∃ (q : Nat) (own : List Nat), q ≤ m ∧ i = .int .i64 (q : Int) ∧ Hid (SCore w1.heap.size wr S B own lv0 (rs.take q)) ∧ Hid (Below w1.heap.size w1 wr)) (fun i _ _ => m - (intOf i).toNat)
  case atStart => exact ⟨0, own0, Nat.zero_le _, rfl, hide (by rw [List.take_zero]; exact unhide HS2), unhide HB2⟩
  case round =>
    obtain ⟨q, own, hq, rfl, HS, HB⟩ := hrel
    by_cases hlt : (q : Int) < (m : Int)
    · obtain ⟨r, hr⟩ : ∃ r, rs[q]? = some r := ⟨_, List.getElem?_eq_getElem (by omega)⟩
      obtain ⟨b, off, rfl, hx⟩ := ((unhide HRS).below (unhide HB)).2 (by omega)
      obtain ⟨x0, x1, x2, x3, x4, x5, x6, x7⟩ := hx q r hr
      have hok := rec_ok ((unhide HG) r (List.mem_of_getElem? hr))
      obtain ⟨c, hc⟩ : ∃ c : Nat, r.client = (c : Int) := ⟨r.client.toNat, by have := hok.c0; omega⟩
      have hc3 : c < 3 := by have := hok.c1; omega
      have htk : rs.take (q + 1) = rs.take q ++ [r] := by rw [List.take_add_one, hr]; rfl
      have HDo : Hid (∀ W, Below wr.heap.size wr W → Calls Tryz.prog 180 #[.pointer (some ⟨B, 0, none⟩), .agg #[.int .i64 r.call.kind, .string r.call.name, .string r.call.dst, .string r.call.text]] W fun e w' => ∃ d u, e = .returned (.agg #[.int .i64 d, .string u]) ∧ ∃ own', OObj w1.heap.size w' B own' (aDo (behind (rs.take q)) r.call).st ∧ Next w1.heap.size W w' own own') := fun W hW => by
        have h := ((unhide HS).below hW).files
        refine (Do_obj r.call h (by have := hok.name; unfold maxLen; omega) (by have := hok.dst; unfold maxLen; omega) (by have := hok.text; unfold maxLen; omega)).mono ?_
        rintro e w' ⟨rfl, own', h1, h2⟩
        exact ⟨_, _, rfl, own', h1, h2⟩
      have HDN : Hid (∀ W w' own', Below wr.heap.size wr W → OObj w1.heap.size w' B own' (aDo (behind (rs.take q)) r.call).st → Next w1.heap.size W w' own own' → SCore w1.heap.size (set8o w' S (2 + c * 8) (.int .i64 r.client) (.int .i64 r.no) (.int .i64 r.call.kind) (.string r.call.name) (.string r.call.dst) (.string r.call.text) (.int .i64 r.code) (.string r.ans)) S B own' lv0 (rs.take (q + 1)) ∧ ∀ j, j < 26 → (∃ v, w'.cell? ⟨S, j, none⟩ = some v) ∧ w'.frozen? ⟨S, j, none⟩ = false) := fun W w' own' hW ho hn => by
        have h := (unhide HS).below hW
        refine ⟨by rw [htk]; exact h.done ho hn hc3 hc, fun j hj => ?_⟩
        obtain ⟨_, hs2⟩ := hn.keep S h.lt h.sB
        obtain ⟨C, hC, hl⟩ := h.blk
        have h26 : C.size = 26 := by rw [← Array.length_toList, hl]; rfl
        refine ⟨⟨C[j], ?_⟩, frozen_of_row w' S j _ _ (hs2.trans hC)⟩
        rw [cell_of_row w' S _ _ _ _ (hs2.trans hC)]
        exact Array.getElem?_eq_getElem (by omega)
      have hptr := (unhide HS).ptr
      have hSl := (unhide HS).lt
      have hown : ∀ j, j ∈ own → j < wr.heap.size := fun j hj => (unhide HS).files.rep.lt hj
      have HOW := hide hown
      clear hx hr hok htk hown
      obtain ⟨rc, rn, ⟨rk, ra, rb, rt⟩, rd, ru⟩ := r
      dsimp only at *
      subst hc
      have HBW : Hid (Below wr.heap.size wr (wr.alloc (.cells #[.int .i64 (c : Int), .int .i64 rn, .int .i64 rk, .string ra, .string rb, .string rt, .int .i64 rd, .string ru] 111)).drew) := ((Below.refl _ _).alloc (Nat.le_refl _) _).drew
      have hRn : wr.heap.size ∉ own := fun h => by have := (unhide HOW) _ h; omega
      go_wp2_with fail
      go_region_law (first | (go_simp; go_at_call 180; refine ((unhide HDo) _ (unhide HBW)).mono ?_; rintro e w3 ⟨d, u, rfl, own3, ho3, hn3⟩; have HDN3 := hide ((unhide HDN) _ w3 own3 (unhide HBW) ho3 hn3); have HBN3 := hide hn3.below; have hr3 := (hn3.keep wr.heap.size (by show _ < (wr.alloc _).heap.size; simp) hRn).2.trans (heap_alloc_new wr (.cells #[.int .i64 (c : Int), .int .i64 rn, .int .i64 rk, .string ra, .string rb, .string rt, .int .i64 rd, .string ru] 111)); have HR3 := hide hr3; clear ho3 hn3 hr3) | fail)
      all_goals
        obtain ⟨⟨y0, y1, y2, y3⟩, ⟨y4, y5, y6, y7⟩, _⟩ := eight (unhide HR3)
        obtain ⟨⟨v0, f0⟩, g0⟩ := (unhide HDN3).2 (2 + c * 8) (by omega)
        obtain ⟨⟨v1, f1⟩, g1⟩ := (unhide HDN3).2 (2 + c * 8 + 1) (by omega)
        obtain ⟨⟨v2, f2⟩, g2⟩ := (unhide HDN3).2 (2 + c * 8 + 2) (by omega)
        obtain ⟨⟨v3, f3⟩, g3⟩ := (unhide HDN3).2 (2 + c * 8 + 3) (by omega)
        obtain ⟨⟨v4, f4⟩, g4⟩ := (unhide HDN3).2 (2 + c * 8 + 4) (by omega)
        obtain ⟨⟨v5, f5⟩, g5⟩ := (unhide HDN3).2 (2 + c * 8 + 5) (by omega)
        obtain ⟨⟨v6, f6⟩, g6⟩ := (unhide HDN3).2 (2 + c * 8 + 6) (by omega)
        obtain ⟨⟨v7, f7⟩, g7⟩ := (unhide HDN3).2 (2 + c * 8 + 7) (by omega)
        have hci : (c : Int) < 3 := by omega
        have hRS : wr.heap.size ≠ S := by omega
        have hSR : S ≠ wr.heap.size := by omega
        go_wp2_with fail
        go_region
        go_wp2
        have hk8 := set8o_kept w3 S (2 + c * 8) (.int .i64 (c : Int)) (.int .i64 rn) (.int .i64 rk) (.string ra) (.string rb) (.string rt) (.int .i64 rd) (.string ru)
        have hb3 : Below w1.heap.size w1 w3 := ((unhide HB).alloc (unhide HB).size (.cells #[.int .i64 (c : Int), .int .i64 rn, .int .i64 rk, .string ra, .string rb, .string rt, .int .i64 rd, .string ru] 111)).drew.trans (unhide HBN3)
        have HB4 := hide (hb3.trans (hk8.below hb3.size (fun j hj => by rw [List.mem_singleton.1 hj]; exact (unhide HS).new))).drew
        have HS4 := hide (((unhide HDN3).1).below ((Below.refl _ _).drew))
        clear hk8 hb3 y0 y1 y2 y3 y4 y5 y6 y7 f0 f1 f2 f3 f4 f5 f6 f7 g0 g1 g2 g3 g4 g5 g6 g7
        go_roundw
        case rel => exact ⟨q + 1, own3, by omega, by go_num, unhide HS4, unhide HB4⟩
        case measure => simp [intOf]; omega
    · obtain rfl : q = m := by omega
      have hfull : rs.take q = rs := List.take_of_length_le (by omega)
      rw [hfull] at HS
      have hBw := (unhide HB1).trans ((unhide HB).mono (unhide HB1).size)
      have HCL2 := hide ((unhide HCL) wr hBw)
      have HBW := hide hBw
      clear hfull hBw
      go_wp2_with fail
      refine (unhide HCL2).mono ?_
      rintro e w4 ⟨al, cl, rfl, ol, b4⟩
      have hs4 := (unhide HS).below b4
      have hc1 := (hs4.at 1).1
      have hc2 := (hs4.at 1).2
      have hR := hs4.setLog (ownsRow_base ol (unhide HB).size) (fun e => by have := (ol.lt S e).1; have := (unhide HS).lt; omega) (fun j hj hm => by have := (ol.lt j hj).1; have := (unhide HS).files.rep.lt hm; omega) (unhide HG)
      have HR := hide (hR.base (unhide HB1).size)
      have hb4' := (unhide HBW).trans (b4.mono (unhide HBW).size)
      have hkS := kept_setCell [S] w4 S 1 (.slice al k cl) (by simp)
      have HB5 := hide (hb4'.trans (hkS.below hb4'.size (fun j hj => by rw [List.mem_singleton.1 hj]; exact Nat.le_trans (unhide HB1).size (unhide HS).new)))
      have hsub : IntKind.i64.wrap ((n : Int) - (k : Int)) = (n : Int) - (k : Int) := by rw [IntKind.wrap_i64]; omega
      clear ol b4 hs4 hR hb4' hkS
      go_wp2
      go_ret2
      exact ⟨S, B, own, _, rfl, unhide HR, unhide HB5⟩

end Go.Proofs.YtffgolanmaenfacGreatDoor

namespace Go.Proofs.YtffgolanmaenfacGreatDoor
open Go.RowKit
set_option linter.unusedSimpArgs false
set_option linter.unusedVariables false

/-- From w to w' the store at S has come to L'. -/
def STurned (N : Nat) (w : World) (S : Nat) (own : List Nat) (lv : Value) (w' : World) (L' : List ARec) : Prop :=
  ∃ B' own' lv', SRep N w' S B' own' lv' L' ∧ Next N w w' (sown S own lv) (sown S own' lv')

theorem sown_ge {N : Nat} {w : World} {S B : Nat} {own : List Nat} {lv : Value} {L : List ARec} (h : SRep N w S B own lv L) : ∀ k, k ∈ sown S own lv → N ≤ k ∧ k < w.heap.size := fun k hk => by
  rcases List.mem_cons.1 hk with rfl | hk
  · exact ⟨h.new, h.lt⟩
  rcases List.mem_append.1 hk with hk | hk
  · exact h.log.lt k (by simpa using hk)
  · exact ⟨h.files.own k hk, h.files.rep.lt hk⟩

/-- A store's block laid over by another one's: all that is its own is the other's. -/
theorem SRep.over {N : Nat} {w w2 w3 : World} {S B S2 B2 : Nat} {own own2 : List Nat} {lv lv2 : Value} {L L2 : List ARec} {C : Array Value} (h : SRep N w S B own lv L) (hb : Below w.heap.size w w2) (h2 : SRep w.heap.size w2 S2 B2 own2 lv2 L2)
    (hC : C.toList = sCells B2 lv2 (lastR L2 0) (lastR L2 1) (lastR L2 2)) (h3 : w3.heap[S]? = some (.cells C 114 (0, 0))) (hk : Kept [S] w2 w3) (hN : N ≤ w.heap.size) : STurned N w S own lv w3 L2 := by
  have hS := h.lt
  have n1 : S ∉ own2 := fun hm => by have := h2.files.own S hm; omega
  have n2 : lv2.ownBlock ≠ some S := fun e => by have := (h2.log.lt S e).1; omega
  refine ⟨B2, own2, lv2, ⟨h.new, ⟨C, h3, hC⟩, ⟨h2.files.rep.keptS hk (fun k hk1 hm => by rw [List.mem_singleton.1 hm] at hk1; exact n1 hk1), h2.files.inv, fun k hk => Nat.le_trans hN (h2.files.own k hk)⟩, ?_, h2.good, n1, n2, h2.lB⟩, ?_, fun b hb1 hb2 => ⟨fun hm => ?_, ?_⟩⟩
  · exact ownsRow_base (ownsRow_same h2.log (fun j hj => hk.block j (h2.log.lt j hj).2 (fun hm => n2 (by rw [List.mem_singleton.1 hm] at hj; exact hj)))) hN
  · exact (hb.mono hN).trans (hk.below (Nat.le_trans hN hb.size) (fun j hj => by rw [List.mem_singleton.1 hj]; exact h.new))
  · have hbS : b ≠ S := fun e => hb2 (by rw [e]; exact List.mem_cons_self)
    rcases List.mem_cons.1 hm with h4 | h4
    · exact hbS h4
    rcases List.mem_append.1 h4 with h4 | h4
    · have := (h2.log.lt b (by simpa using h4)).1; omega
    · have := h2.files.own b h4; omega
  · have hbS : b ≠ S := fun e => hb2 (by rw [e]; exact List.mem_cons_self)
    exact (hk.block b (Nat.lt_of_lt_of_le hb1 hb.size) (by simpa using hbS)).trans (hb.block b hb1)

theorem info2073 : (Tryz.prog.info? 114).map (·.size) = some 26 := by kernel_rfl

set_option maxRecDepth 100000 in
set_option maxHeartbeats 4000000 in
theorem Crash_any {N : Nat} {w : World} {S B : Nat} {own : List Nat} {lv : Value} {L : List ARec} (h : SRep N w S B own lv L) (hs : (logB L).length ≤ 1000000) (hN : N ≤ w.heap.size) :
    Calls Tryz.prog 130 #[.pointer (some ⟨S, 0, none⟩)] w fun e w' => e = .returned (.tuple #[]) ∧ STurned N w S own lv w' L := by
  obtain ⟨n, hn⟩ : ∃ n, (logB L).length = n := ⟨_, rfl⟩
  have hl := h.log
  obtain ⟨a, c, rfl⟩ := row_form hl
  have hc := h.lg
  rw [hn] at hl hc hs
  obtain ⟨h1, h2, h3⟩ := hl.by hn
  have HOP := hide (Open_any a n c (logB L) w h1 hn h3 hs h2)
  rw [allR_log h.good] at HOP
  have HH := hide h
  rw [hn] at HH
  have hSl := h.lt
  clear h hl h1 h2
  go_enter Tryz.func130, Tryz.ntmps130
  go_wp2_with fail
  refine (unhide HOP).mono ?_
  rintro e w2 ⟨S2, B2, own2, lv2, rfl, hs2, b2⟩
  dsimp only at hs2 ⊢
  obtain ⟨C2, hC2, hl2⟩ := hs2.blk
  obtain ⟨C, hC, hl⟩ := (unhide HH).blk
  have hSb := (b2.block S hSl).trans hC
  have h26 : C2.size = 26 := by rw [← Array.length_toList, hl2]; rfl
  have h26' : C.size = 26 := by rw [← Array.length_toList, hl]; rfl
  have hone : C2.all (·.oneCell') = true := by
    rw [Array.all_eq_true_iff_forall_mem]
    intro v hv
    have hv' : v ∈ C2.toList := by simpa using hv
    rw [hl2] at hv'
    obtain ⟨al, cl, rfl⟩ := row_form hs2.log
    simp [sCells, rcells] at hv'
    rcases hv' with rfl | rfl | rfl | rfl | rfl | rfl | rfl | rfl | rfl | rfl | rfl | rfl | rfl | rfl | rfl | rfl | rfl | rfl | rfl | rfl | rfl | rfl | rfl | rfl | rfl | rfl <;> rfl
  have HS2 := hide hs2
  have HB2 := hide b2
  have HL2 := hide hl2
  clear hs2 b2 hl hl2
  go_wp2_with (first
    | (refine wpList_load_row rfl 114 _ rfl S2 rfl 114 C2 (0, 0) _ hC2 Tryz.underlying114 rfl (by rw [h26]; exact info2073) ?_)
    | (refine wpList_store_row rfl 114 _ _ rfl S C2 rfl rfl 114 C hSb (by rw [h26]; exact info2073) (by rw [h26, h26']) hone ?_))
  have hT : STurned N w S own (.slice a n c) (w2.setRow S C2) L := by
    refine (unhide HH).over (unhide HB2) (unhide HS2) (unhide HL2) (setRow_heap w2 S C C2 114 (0, 0) hSb) ⟨rfl, rfl, rfl, by simp [World.setRow], fun k hk hm => setRow_other w2 S k C2 (fun e => hm (by simp [e]))⟩ hN
  refine bodyPost_end (v := .tuple #[]) (by simp [results, Tryz.results130, go_sem]) rfl ?_
  exact ⟨rfl, hT⟩

end Go.Proofs.YtffgolanmaenfacGreatDoor

namespace Go.Proofs.YtffgolanmaenfacGreatDoor
open Go.RowKit
set_option linter.unusedSimpArgs false
set_option linter.unusedVariables false

/-- A store in the midst of a call: its last records are those of L, its files are behind L'. -/
structure SMid (N : Nat) (w : World) (S B : Nat) (own : List Nat) (lv : Value) (L L' : List ARec) : Prop where
  blk : ∃ C : Array Value, w.heap[S]? = some (.cells C 114 (0, 0)) ∧ C.toList = sCells B lv (lastR L 0) (lastR L 1) (lastR L 2)
  files : OObj N w B own (behind L')
  sB : S ∉ own
theorem SMid.lt {N : Nat} {w : World} {S B : Nat} {own : List Nat} {lv : Value} {L L' : List ARec} (h : SMid N w S B own lv L L') : S < w.heap.size := by
  obtain ⟨C, hC, _⟩ := h.blk
  exact (Array.getElem?_eq_some_iff.1 hC).1
theorem SMid.at {N : Nat} {w : World} {S B : Nat} {own : List Nat} {lv : Value} {L L' : List ARec} (h : SMid N w S B own lv L L') (j : Nat) : w.cell? ⟨S, j, none⟩ = (sCells B lv (lastR L 0) (lastR L 1) (lastR L 2))[j]? ∧ w.frozen? ⟨S, j, none⟩ = false := by
  obtain ⟨C, hC, hl⟩ := h.blk
  refine ⟨?_, frozen_of_row w S j _ _ hC⟩
  rw [cell_of_row w S _ _ _ _ hC, ← hl, Array.getElem?_toList]
theorem SMid.kept {N : Nat} {w w' : World} {S B : Nat} {own o : List Nat} {lv : Value} {L L' : List ARec} (h : SMid N w S B own lv L L') (hk : Kept o w w') (h1 : S ∉ o) (h2 : ∀ k, k ∈ own → k ∉ o) : SMid N w' S B own lv L L' := by
  obtain ⟨C, hC, hl⟩ := h.blk
  exact ⟨⟨C, (hk.block S h.lt h1).trans hC, hl⟩, ⟨h.files.rep.keptS hk h2, h.files.inv, h.files.own⟩, h.sB⟩
theorem SMid.below {N : Nat} {w w' : World} {S B : Nat} {own : List Nat} {lv : Value} {L L' : List ARec} (h : SMid N w S B own lv L L') (hb : Below w.heap.size w w') : SMid N w' S B own lv L L' := h.kept (o := []) (Kept.of_below hb) (by simp) (by simp)
/-- The files have done it. -/
theorem SRep.mid {N : Nat} {w w1 : World} {S B : Nat} {own own1 : List Nat} {lv : Value} {L : List ARec} {r : ARec} (h : SRep N w S B own lv L) (ho : OObj N w1 B own1 (aDo (behind L) r.call).st) (hn : Next N w w1 own own1) : SMid N w1 S B own1 lv L (L ++ [r]) := by
  obtain ⟨C, hC, hl⟩ := h.blk
  obtain ⟨hs1, hs2⟩ := hn.keep S h.lt h.sB
  exact ⟨⟨C, hs2.trans hC, hl⟩, by rw [behind_snoc]; exact ho, hs1⟩
theorem SMid.log {N : Nat} {w : World} {S B : Nat} {own : List Nat} {lv : Value} {L L' : List ARec} (h : SMid N w S B own lv L L') (lv' : Value) : SMid N (w.setCell ⟨S, 1, none⟩ lv') S B own lv' L L' := by
  obtain ⟨C, hC, hl⟩ := h.blk
  have hs := heap_setCell_same hC (o := 1) lv'
  have hk := kept_setCell [S] w S 1 lv' (by simp)
  refine ⟨⟨_, hs, by rw [Array.toList_setIfInBounds, hl]; rfl⟩, ⟨h.files.rep.keptS hk (fun k hk1 hm => ?_), h.files.inv, h.files.own⟩, h.sB⟩
  rw [List.mem_singleton.1 hm] at hk1; exact h.sB hk1
theorem SMid.last {N : Nat} {w : World} {S B : Nat} {own : List Nat} {lv : Value} {L : List ARec} {r : ARec} {c : Nat} (h : SMid N w S B own lv L (L ++ [r])) (hN : N ≤ S) (hc : c < 3) (hr : r.client = (c : Int)) :
    SCore N (set8o w S (2 + c * 8) (.int .i64 r.client) (.int .i64 r.no) (.int .i64 r.call.kind) (.string r.call.name) (.string r.call.dst) (.string r.call.text) (.int .i64 r.code) (.string r.ans)) S B own lv (L ++ [r]) := by
  obtain ⟨C, hC, hl⟩ := h.blk
  obtain ⟨A, Z, hA, e1, e2⟩ := sCells_set B lv L r c hc hr
  rw [e1] at hl
  obtain ⟨C', h1, h2⟩ := set8o_blk hC A Z _ _ _ _ _ _ _ _ hl hA (.int .i64 r.client) (.int .i64 r.no) (.int .i64 r.call.kind) (.string r.call.name) (.string r.call.dst) (.string r.call.text) (.int .i64 r.code) (.string r.ans)
  have hk := set8o_kept w S (2 + c * 8) (.int .i64 r.client) (.int .i64 r.no) (.int .i64 r.call.kind) (.string r.call.name) (.string r.call.dst) (.string r.call.text) (.int .i64 r.code) (.string r.ans)
  refine ⟨hN, ⟨C', h1, by rw [h2, e2]; rfl⟩, ⟨h.files.rep.keptS hk (fun j hj hm => ?_), h.files.inv, h.files.own⟩, h.sB⟩
  rw [List.mem_singleton.1 hm] at hj; exact h.sB hj

/-- What add answers. -/
def AddRes (N : Nat) (w : World) (S : Nat) (own : List Nat) (lv : Value) (R : CRes) (e : Ending) (w' : World) : Prop :=
  e = .returned (.tuple #[.agg #[.int .i64 R.code, .string R.text], .int .i64 R.err]) ∧ STurned N w S own lv w' R.log
theorem STurned.of_below {N : Nat} {w w' : World} {S B : Nat} {own : List Nat} {lv : Value} {L : List ARec} (h : SRep N w S B own lv L) (hb : Below w.heap.size w w') (hN : N ≤ w.heap.size) : STurned N w S own lv w' L :=
  ⟨B, own, lv, h.below hb, hb.mono hN, fun b h1 h2 => ⟨h2, hb.block b h1⟩⟩

theorem Next.kept {N : Nat} {w w' : World} {own own' : List Nat} (h : Next N w w' own own') : Kept own w w' := ⟨h.below.os, h.below.tape, h.below.output, h.below.size, fun k hk hn => (h.keep k hk hn).2⟩
theorem SRep.kept {N : Nat} {w w' : World} {S B : Nat} {own o : List Nat} {lv : Value} {L : List ARec} (h : SRep N w S B own lv L) (hk : Kept o w w') (hd : ∀ k, k ∈ sown S own lv → k ∉ o) : SRep N w' S B own lv L := by
  obtain ⟨C, hC, hl⟩ := h.blk
  refine ⟨h.new, ⟨C, (hk.block S h.lt (hd S List.mem_cons_self)).trans hC, hl⟩, ⟨h.files.rep.keptS hk (fun k hk1 => hd k (List.mem_cons_of_mem _ (List.mem_append_right _ hk1))), h.files.inv, h.files.own⟩, ?_, h.good, h.sB, h.sL, h.lB⟩
  exact ownsRow_same h.log (fun j hj => hk.block j (h.log.lt j hj).2 (hd j (List.mem_cons_of_mem _ (List.mem_append_left _ (by simpa using hj)))))
theorem STurned.mk' {N : Nat} {w w' : World} {S B B' : Nat} {own own' : List Nat} {lv lv' : Value} {L L' : List ARec} (h0 : SRep N w S B own lv L) (hr : SRep N w' S B' own' lv' L') (hk : Kept (sown S own lv) w w') (hN : N ≤ w.heap.size) (hn : ∀ k, k ∈ sown S own' lv' → k ∈ sown S own lv ∨ w.heap.size ≤ k) : STurned N w S own lv w' L' :=
  ⟨B', own', lv', hr, hk.below hN (fun k h => (sown_ge h0 k h).1), fun b h1 h2 => ⟨fun hm => by
    rcases hn b hm with h3 | h3
    · exact h2 h3
    · omega, hk.block b h1 h2⟩⟩
theorem grown_kept {w w' : World} {o : Option Nat} (h : w.grownBy w' o) : Kept o.toList w w' := ⟨h.os, h.tape, h.output, h.size, fun k hk hn => h.block k hk (fun e => hn (by rw [← e]; simp))⟩

set_option maxRecDepth 100000 in
set_option maxHeartbeats 8000000 in
theorem add_any {N : Nat} {w : World} {S B : Nat} {own : List Nat} {lv : Value} {L : List ARec} (h : SRep N w S B own lv L) (cc : Nat) (no k : Int) (a b t : ByteArray) (hs : (logB L).length ≤ 100000) (hcc : cc < 3) (hN : N ≤ w.heap.size)
    (ok0 : recI ⟨(cc : Int), no, ⟨k, a, b, t⟩, 0, ⟨#[]⟩⟩ = 0) (ok1 : recI ⟨(cc : Int), no, ⟨k, a, b, t⟩, (aDo (behind L) ⟨k, a, b, t⟩).code, (aDo (behind L) ⟨k, a, b, t⟩).text⟩ = 0) (ok2 : (encL ⟨(cc : Int), no, ⟨k, a, b, t⟩, (aDo (behind L) ⟨k, a, b, t⟩).code, (aDo (behind L) ⟨k, a, b, t⟩).text⟩).length = (encL ⟨(cc : Int), no, ⟨k, a, b, t⟩, 0, ⟨#[]⟩⟩).length) :
    Calls Tryz.prog 226 #[.pointer (some ⟨S, 0, none⟩), .agg #[.int .i64 (cc : Int), .int .i64 no, .int .i64 k, .string a, .string b, .string t, .int .i64 0, .string ⟨#[]⟩]] w (AddRes N w S own lv (if 2000 < (logB L).length + (encL ⟨(cc : Int), no, ⟨k, a, b, t⟩, 0, ⟨#[]⟩⟩).length then ⟨0, ⟨#[]⟩, 7, L⟩
     else ⟨(aDo (behind L) ⟨k, a, b, t⟩).code, (aDo (behind L) ⟨k, a, b, t⟩).text, 0, L ++ [⟨(cc : Int), no, ⟨k, a, b, t⟩, (aDo (behind L) ⟨k, a, b, t⟩).code, (aDo (behind L) ⟨k, a, b, t⟩).text⟩]⟩)) := by
  have hsz := rec_ok ok0
  obtain ⟨nE, hnE⟩ : ∃ n, (encL ⟨(cc : Int), no, ⟨k, a, b, t⟩, 0, ⟨#[]⟩⟩).length = n := ⟨_, rfl⟩
  obtain ⟨T, hT⟩ : ∃ n, (logB L).length = n := ⟨_, rfl⟩
  have hnE255 : nE ≤ 255 := by rw [← hnE]; exact (encL_le ok0).2
  have HE0 : Hid (∀ W, Calls Tryz.prog 239 #[.agg #[.int .i64 (cc : Int), .int .i64 no, .int .i64 k, .string a, .string b, .string t, .int .i64 0, .string ⟨#[]⟩]] W fun e w' => ∃ g cap, e = .returned (.tuple #[.slice (some ⟨g, 0, none⟩) nE cap, .int .i64 0]) ∧ Below W.heap.size W w') := fun W => by
    refine (Encode_brow ⟨(cc : Int), no, ⟨k, a, b, t⟩, 0, ⟨#[]⟩⟩ W nE _ rfl hnE ok0).mono ?_
    rintro e w' ⟨g, cap, rfl, _, hb⟩
    exact ⟨g, cap, rfl, hb⟩
  have HDo : Hid (∀ W, Below w.heap.size w W → Calls Tryz.prog 180 #[.pointer (some ⟨B, 0, none⟩), .agg #[.int .i64 k, .string a, .string b, .string t]] W fun e w' => e = .returned (.agg #[.int .i64 (aDo (behind L) ⟨k, a, b, t⟩).code, .string (aDo (behind L) ⟨k, a, b, t⟩).text]) ∧ ∃ own', OObj N w' B own' (aDo (behind L) ⟨k, a, b, t⟩).st ∧ Next N W w' own own') := fun W hW => Do_obj ⟨k, a, b, t⟩ (h.below hW).files (by have := hsz.name; unfold maxLen; dsimp only at this ⊢; omega) (by have := hsz.dst; unfold maxLen; dsimp only at this ⊢; omega) (by have := hsz.text; unfold maxLen; dsimp only at this ⊢; omega)
  have HMID : Hid (∀ W w' own' d u, Below w.heap.size w W → OObj N w' B own' (aDo (behind L) ⟨k, a, b, t⟩).st → Next N W w' own own' → SMid N w' S B own' lv L (L ++ [⟨(cc : Int), no, ⟨k, a, b, t⟩, d, u⟩])) := fun W w' own' d u hW ho hn => (h.below hW).mid (r := ⟨(cc : Int), no, ⟨k, a, b, t⟩, d, u⟩) ho hn
  rw [hnE, hT]
  generalize aDo (behind L) ⟨k, a, b, t⟩ = ad at *
  obtain ⟨dcode, dtext, dst⟩ := ad
  dsimp only at *
  obtain ⟨E, hE⟩ : ∃ E, encL ⟨(cc : Int), no, ⟨k, a, b, t⟩, dcode, dtext⟩ = E := ⟨_, rfl⟩
  have hEn : E.length = nE := by rw [← hE, ok2, hnE]
  have HE1 : Hid (∀ W, Calls Tryz.prog 239 #[.agg #[.int .i64 (cc : Int), .int .i64 no, .int .i64 k, .string a, .string b, .string t, .int .i64 dcode, .string dtext]] W fun e w' => ∃ g cap, e = .returned (.tuple #[.slice (some ⟨g, 0, none⟩) nE cap, .int .i64 0]) ∧ BRow w' W.heap.size (.slice (some ⟨g, 0, none⟩) nE cap) E ∧ Below W.heap.size W w') := fun W => Encode_brow ⟨(cc : Int), no, ⟨k, a, b, t⟩, dcode, dtext⟩ W nE E hE hEn ok1
  have HDE : Hid (∀ W g cap, ByAt W (some ⟨g, 0, none⟩) E → nE ≤ cap → Calls Tryz.prog 201 #[.slice (some ⟨g, 0, none⟩) nE cap] W fun e w' => e = .returned (.tuple #[.agg #[.int .i64 (cc : Int), .int .i64 no, .int .i64 k, .string a, .string b, .string t, .int .i64 dcode, .string dtext], .int .i64 (nE : Int), .int .i64 0]) ∧ Below W.heap.size W w') := fun W g cap hby hcap => by
    have hd := decR_enc ok1 []
    rw [hE, List.append_nil, hEn] at hd
    refine (Decode_any (some ⟨g, 0, none⟩) nE cap E W hby hEn hcap (by unfold maxLen; omega)).mono ?_
    rw [hd]
    rintro e w' ⟨hb, rfl⟩
    exact ⟨rfl, hb⟩
  have HLG : Hid (logB (L ++ [⟨(cc : Int), no, ⟨k, a, b, t⟩, dcode, dtext⟩]) = logB L ++ E) := by show _ = _; rw [logB_snoc, hE]
  have HGD := hide (h.good.snoc ok1)
  obtain ⟨RR, hRR⟩ : ∃ R : CRes, R = (if 2000 < T + nE then ⟨0, ⟨#[]⟩, 7, L⟩ else ⟨dcode, dtext, 0, L ++ [⟨(cc : Int), no, ⟨k, a, b, t⟩, dcode, dtext⟩]⟩) := ⟨_, rfl⟩
  rw [← hRR]
  have HRR := hide hRR
  obtain ⟨la, lc, rfl⟩ := row_form h.log
  rw [hT] at h HMID ⊢
  have HH := hide h
  have hSl := h.lt
  have HBL : Hid (Below w.heap.size w ((w.alloc (.cells #[.int .i64 (cc : Int), .int .i64 no, .int .i64 k, .string a, .string b, .string t, .int .i64 0, .string ⟨#[]⟩] 111)).alloc (.cells #[.int .i64 0, .string ⟨#[]⟩] 100))) := ((Below.refl w.heap.size w).alloc (Nat.le_refl _) _).alloc (by simp) _
  have hVK : ∀ W, Below (w.heap.size + 2) ((w.alloc (.cells #[.int .i64 (cc : Int), .int .i64 no, .int .i64 k, .string a, .string b, .string t, .int .i64 0, .string ⟨#[]⟩] 111)).alloc (.cells #[.int .i64 0, .string ⟨#[]⟩] 100)) W → W.heap[w.heap.size]? = some (.cells #[.int .i64 (cc : Int), .int .i64 no, .int .i64 k, .string a, .string b, .string t, .int .i64 0, .string ⟨#[]⟩] 111 (0, 0)) ∧ W.heap[w.heap.size + 1]? = some (.cells #[.int .i64 0, .string ⟨#[]⟩] 100 (0, 0)) ∧ Below w.heap.size w W ∧ w.heap.size + 2 ≤ W.heap.size := fun W hW => by
    have c3 : ((w.alloc (.cells #[.int .i64 (cc : Int), .int .i64 no, .int .i64 k, .string a, .string b, .string t, .int .i64 0, .string ⟨#[]⟩] 111)).alloc (.cells #[.int .i64 0, .string ⟨#[]⟩] 100)).heap[w.heap.size + 1]? = some (.cells #[.int .i64 0, .string ⟨#[]⟩] 100 (0, 0)) := by
      have h := heap_alloc_new (w.alloc (.cells #[.int .i64 (cc : Int), .int .i64 no, .int .i64 k, .string a, .string b, .string t, .int .i64 0, .string ⟨#[]⟩] 111)) (.cells #[.int .i64 0, .string ⟨#[]⟩] 100)
      rw [show (w.alloc (.cells #[.int .i64 (cc : Int), .int .i64 no, .int .i64 k, .string a, .string b, .string t, .int .i64 0, .string ⟨#[]⟩] 111)).heap.size = w.heap.size + 1 by simp] at h
      exact h
    refine ⟨(hW.block _ (by omega)).trans ((Below.heap_alloc _ _ _ (by simp)).trans (heap_alloc_new w _)), (hW.block _ (by omega)).trans c3, (unhide HBL).trans (hW.mono (by omega)), ?_⟩
    have := hW.size; simp at this; omega
  have HVK := hide hVK
  have hTn : T ≤ 100000 := by omega
  clear h hVK ok0 ok1 ok2 hsz hRR hE hnE hs
  go_enter Tryz.func226, Tryz.ntmps226
  go_wp2_with fail
  refine ((unhide HE0) _).mono ?_
  rintro e w1 ⟨gx, cx, rfl, b1⟩
  have HB1 : Hid (Below (w.heap.size + 2) ((w.alloc (.cells #[.int .i64 (cc : Int), .int .i64 no, .int .i64 k, .string a, .string b, .string t, .int .i64 0, .string ⟨#[]⟩] 111)).alloc (.cells #[.int .i64 0, .string ⟨#[]⟩] 100)) w1) := b1.mono (by simp)
  clear b1
  obtain ⟨gg1, gg2, gg3, gg4⟩ := (unhide HVK) w1 (unhide HB1)
  have hs1 := (unhide HH).below gg3
  have hlg := hs1.lg
  have hpt := hs1.ptr
  obtain ⟨⟨r0, r1, r2, r3⟩, ⟨r4, r5, r6, r7⟩, fr⟩ := eight gg1
  obtain ⟨⟨z0, z1⟩, fz⟩ := two gg2
  have HA1 := hide gg2
  have HB1w := hide gg3
  have HR1 := hide gg1
  clear gg1 gg2 gg3 hs1
  by_cases hfull : (2000 : Int) < (T : Int) + (nE : Int)
  · have HRF := hide ((unhide HRR).trans (if_pos (by omega)))
    go_wp2
    have hb2 := set2_blk (unhide HA1) (.int .i64 0) (.string ⟨#[]⟩)
    have hk2 := set2_kept w1 (w.heap.size + 1) (.int .i64 0) (.string ⟨#[]⟩)
    unfold set2 at hb2 hk2
    generalize hw8 : ((w1.setCell ⟨w.heap.size + 1, 0, none⟩ (.int .i64 0)).setCell ⟨w.heap.size + 1, 1, none⟩ (.string ⟨#[]⟩)) = w99 at hb2 hk2 ⊢
    obtain ⟨⟨p0, p1⟩, _⟩ := two hb2
    have bel : Below w.heap.size w w99 := (unhide HB1w).trans (hk2.below (unhide HB1w).size (by simp))
    refine bodyPost_ret (v := .tuple #[.agg #[.int .i64 0, .string ⟨#[]⟩], .int .i64 7]) (by simp [results, Tryz.results226, go_sem, p0, p1]) rfl ?_
    rw [HRF.out]
    exact ⟨rfl, STurned.of_below (unhide HH) bel hN⟩
  · have HRF := hide ((unhide HRR).trans (if_neg (by omega)))
    go_wp2_with fail
    go_region_law (first | (go_simp; go_at_call 180; refine ((unhide HDo) _ (unhide HB1w).drew).mono ?_; rintro e w2 ⟨rfl, own2, ho2, hn2⟩; have HM2 := hide ((unhide HMID) _ w2 own2 dcode dtext (unhide HB1w).drew ho2 hn2); have HN2 := hide hn2; have hq1 := (hn2.keep w.heap.size (by show _ < w1.heap.size; omega) (fun hm => by have := (unhide HH).files.rep.lt hm; omega)); have hq2 := (hn2.keep (w.heap.size + 1) (by show _ < w1.heap.size; omega) (fun hm => by have := (unhide HH).files.rep.lt hm; omega)); have HR2 := hide (hq1.2.trans (unhide HR1)); have HA2 := hide (hq2.2.trans (unhide HA1)); have HRN := hide hq1.1; have HAN := hide hq2.1; obtain ⟨⟨s0, s1, s2, s3⟩, ⟨s4, s5, s6, s7⟩, fs⟩ := eight (unhide HR2); clear ho2 hn2 hq1 hq2) | fail)
    all_goals
      have s6' := heap_setCell_same (unhide HR2) (o := 6) (.int .i64 dcode)
      simp only [List.setIfInBounds_toArray, List.set_cons_zero, List.set_cons_succ] at s6'
      have s7' := heap_setCell_same s6' (o := 7) (.string dtext)
      simp only [List.setIfInBounds_toArray, List.set_cons_zero, List.set_cons_succ] at s7'
      have k6 := kept_setCell [w.heap.size] w2 w.heap.size 6 (.int .i64 dcode) (by simp)
      have k7 := kept_setCell [w.heap.size] (w2.setCell ⟨w.heap.size, 6, none⟩ (.int .i64 dcode)) w.heap.size 7 (.string dtext) (by simp)
      have hk3 := k6.trans k7 (fun x hx => .inl hx)
      clear s6' k6 k7 s0 s1 s2 s3 s4 s5 s6 s7 r0 r1 r2 r3 r4 r5 r6 r7
      generalize hw3 : ((w2.setCell ⟨w.heap.size, 6, none⟩ (.int .i64 dcode)).setCell ⟨w.heap.size, 7, none⟩ (.string dtext)) = w3 at s7' hk3 ⊢
      have hm3 := (unhide HM2).kept hk3 (by simp; omega) (fun j hj hm => (unhide HRN) (by rw [List.mem_singleton.1 hm] at hj; exact hj))
      have HR3 := hide s7'
      have HA3 := hide ((hk3.block (w.heap.size + 1) (Array.getElem?_eq_some_iff.1 (unhide HA2)).1 (by simp)).trans (unhide HA2))
      have hlr : ∀ j, (Value.slice la T lc).ownBlock = some j → j < w.heap.size ∧ j ∉ own ∧ j ≠ S := fun j hj => ⟨((unhide HH).log.lt j hj).2, (unhide HH).lB j hj, fun e => (unhide HH).sL (by rw [← e]; exact hj)⟩
      have hl2 : BRow w2 N (.slice la T lc) (logB L) := ownsRow_same ((unhide HH).log.below (unhide HB1w)) (fun j hj => ((unhide HN2).keep j (by show j < w1.heap.size; have := (hlr j hj).1; omega) (hlr j hj).2.1).2)
      have hl3 : BRow w3 N (.slice la T lc) (logB L) := ownsRow_same hl2 (fun j hj => hk3.block j (hl2.lt j hj).2 (by have := (hlr j hj).1; simp; omega))
      have hz3 : w.heap.size + 2 ≤ w3.heap.size := by have := hk3.size; have h2 : w1.heap.size ≤ w2.heap.size := (unhide HN2).size; omega
      have HM3 := hide hm3
      have HL3 := hide hl3
      have HK3 := hide hk3
      obtain ⟨⟨r0, r1, r2, r3⟩, ⟨r4, r5, r6, r7⟩, _⟩ := eight s7'
      clear hm3 hl2 hl3 hk3 s7' hw3
      go_wp2_with fail
      refine ((unhide HE1) _).mono ?_
      rintro e w4 ⟨gy, cy, rfl, oy, b4⟩
      clear r0 r1 r2 r3 r4 r5 r6 r7
      have HM4 := hide ((unhide HM3).below b4)
      have HL4 := hide ((unhide HL3).below b4)
      have HR4 := hide ((b4.block w.heap.size (by omega)).trans (unhide HR3))
      have HA4 := hide ((b4.block (w.heap.size + 1) (by omega)).trans (unhide HA3))
      have HY4 := hide oy
      have HB4 := hide b4
      have hz4 : w.heap.size + 2 ≤ w4.heap.size := by have := b4.size; omega
      have hgy : w3.heap.size ≤ gy := (oy.lt gy rfl).1
      have hcS := ((unhide HM4).at 1)
      have hcS1 : w4.cell? ⟨S, 1, none⟩ = some (.slice la T lc) := hcS.1
      have HCS : Hid (Can w4 S 1 (.slice la T lc)) := ⟨hcS1, hcS.2⟩
      have hnS : (Value.slice la T lc).ownBlock ≠ some S := fun e => (hlr S e).2.2 rfl
      have hN4 : N ≤ w4.heap.size := by omega
      clear oy b4 hcS
      go_wp2_with (at_builtin; refine wpList_bytes' _ rfl _ _ rfl N (.slice la T lc) (logB L) rfl (unhide HL4) (.slice (some ⟨gy, 0, none⟩) nE cy) nE E rfl hEn (unhide HY4).lies (by rw [hT]; omega) hN4 ?_; intro ad5 c5 w5 ho5 hg5 hat5; rw [hT] at ho5 hat5; have hD := (unhide HCS).grown hg5 hnS; have hD0 := hD.1; have hD1 := hD.2; have HO5 := hide ho5; have HG5 := hide hg5; have HAT5 := hide hat5; clear ho5 hg5 hat5 hD)
      obtain ⟨w6, hw6⟩ : ∃ w6, w6 = w5.setCell ⟨S, 1, none⟩ (.slice ad5 (T + nE) c5) := ⟨_, rfl⟩
      rw [← hw6]
      have hkS := kept_setCell [S] w5 S 1 (.slice ad5 (T + nE) c5) (by simp)
      rw [← hw6] at hkS
      have hk5 := grown_kept (unhide HG5)
      have hlo2 : ∀ j, j ∈ own2 → j ∉ (Value.slice la T lc).ownBlock.toList := fun j hj hm => by
        have hj' : (Value.slice la T lc).ownBlock = some j := by simpa using hm
        exact ((unhide HN2).keep j (by show j < w1.heap.size; have := (hlr j hj').1; omega) (hlr j hj').2.1).1 hj
      have hm5 := (unhide HM4).kept hk5 (by simpa using hnS) hlo2
      have hm6 : SMid N w6 S B own2 (.slice ad5 (T + nE) c5) L (L ++ [⟨(cc : Int), no, ⟨k, a, b, t⟩, dcode, dtext⟩]) := by rw [hw6]; exact hm5.log _
      have nlR : ∀ j, w.heap.size ≤ j → j ∉ (Value.slice la T lc).ownBlock.toList := fun j hj hm => by have := (hlr j (by simpa using hm)).1; omega
      have blk6 : ∀ j o, w.heap.size ≤ j → w4.heap[j]? = some o → w6.heap[j]? = some o := fun j o hj hc => by
        have hlt : j < w4.heap.size := (Array.getElem?_eq_some_iff.1 hc).1
        rw [hkS.block j (Nat.lt_of_lt_of_le hlt hk5.size) (by simp; omega), hk5.block j hlt (nlR j hj)]
        exact hc
      have HR6 := hide (blk6 _ _ (Nat.le_refl _) (unhide HR4))
      have HA6 := hide (blk6 _ _ (by omega) (unhide HA4))
      have hgy4 := ((unhide HY4).lt gy rfl).2
      have hy6 : BRow w6 w3.heap.size (.slice (some ⟨gy, 0, none⟩) nE cy) E := ownsRow_same (unhide HY4) (fun j hj => by
        have : j = gy := by simpa [Value.ownBlock] using hj.symm
        subst this
        rw [hkS.block j (Nat.lt_of_lt_of_le hgy4 hk5.size) (by simp; omega), hk5.block j hgy4 (nlR j (by omega))])
      have hnS' : (Value.slice ad5 (T + nE) c5).ownBlock ≠ some S := fun e => by
        rcases unhide HAT5 with h1 | h1
        · exact hnS (h1.symm.trans e)
        · rw [h1] at e; simp at e; omega
      have hl6 : BRow w6 N (.slice ad5 (T + nE) c5) (logB L ++ E) := ownsRow_same (unhide HO5) (fun j hj => hkS.block j ((unhide HO5).lt j hj).2 (fun hm => hnS' (by rw [List.mem_singleton.1 hm] at hj; exact hj)))
      have hin : ∀ x, x = S ∨ (Value.slice la T lc).ownBlock = some x ∨ x ∈ own → x ∈ sown S own (.slice la T lc) := fun x hx => by
        unfold sown
        rcases hx with rfl | hx | hx
        · exact List.mem_cons_self
        · exact List.mem_cons_of_mem _ (List.mem_append_left _ (by simp [hx]))
        · exact List.mem_cons_of_mem _ (List.mem_append_right _ hx)
      have K2 : Kept (sown S own (.slice la T lc)) w w2 := (Kept.of_below (own := sown S own (.slice la T lc)) (unhide HB1w).drew).trans (unhide HN2).kept (fun x hx => .inl (hin x (.inr (.inr hx))))
      have K6 := (((K2.trans (unhide HK3) (fun x hx => .inr (by rw [List.mem_singleton.1 hx]; exact Nat.le_refl _))).trans (Kept.of_below (own := []) (unhide HB4)) (by simp)).trans hk5 (fun x hx => .inl (hin x (.inr (.inl (by simpa using hx)))))).trans hkS (fun x hx => .inl (hin x (.inl (List.mem_singleton.1 hx))))
      have hatN : ∀ j, (Value.slice ad5 (T + nE) c5).ownBlock = some j → (Value.slice la T lc).ownBlock = some j ∨ w4.heap.size = j := fun j hj => by
        rcases unhide HAT5 with h1 | h1
        · exact .inl (h1.symm.trans hj)
        · rw [h1] at hj; exact .inr (by simpa using hj)
      have HM6 := hide hm6
      have HY6 := hide hy6
      have HL6 := hide hl6
      have HK6 := hide K6
      have HATN := hide hatN
      have hcy : nE ≤ cy := by have h1 := row_cap (n := nE) (c := cy) (by have h2 := unhide HY4; unfold BRow at h2; rw [hEn] at h2; exact h2); exact h1
      have hz6 : w.heap.size + 2 ≤ w6.heap.size := by have h1 := hkS.size; have h2 := hk5.size; omega
      have HO2 : Hid (∀ j, j ∈ own2 → j ∈ own ∨ w.heap.size ≤ j) := fun j hj => by
        by_cases h1 : j < w.heap.size
        · left
          by_cases h2 : j ∈ own
          · exact h2
          · exact absurd hj ((unhide HN2).keep j (by show j < w1.heap.size; omega) h2).1
        · right; omega
      have HO2l : Hid (∀ j, j ∈ own2 → j < w2.heap.size) := fun j hj => (unhide HM2).files.rep.lt hj
      have hz24 : w2.heap.size ≤ w4.heap.size := Nat.le_trans (unhide HK3).size (unhide HB4).size
      obtain ⟨⟨r0, r1, r2, r3⟩, ⟨r4, r5, r6, r7⟩, _⟩ := eight (unhide HR6)
      clear hkS hk5 hm5 hm6 blk6 hy6 hl6 hin K2 K6 hatN hD0 hD1 hw6 hcS1 nlR hlo2
      have HDE6 : Hid (Calls Tryz.prog 201 #[.slice (some ⟨gy, 0, none⟩) nE cy] w6.drew fun e w7 => e = .returned (.tuple #[.agg #[.int .i64 (cc : Int), .int .i64 no, .int .i64 k, .string a, .string b, .string t, .int .i64 dcode, .string dtext], .int .i64 (nE : Int), .int .i64 0]) ∧ SMid N w7 S B own2 (.slice ad5 (T + nE) c5) L (L ++ [⟨(cc : Int), no, ⟨k, a, b, t⟩, dcode, dtext⟩]) ∧ w7.heap[w.heap.size]? = some (.cells #[.int .i64 (cc : Int), .int .i64 no, .int .i64 k, .string a, .string b, .string t, .int .i64 dcode, .string dtext] 111 (0, 0)) ∧ Below w6.heap.size w6 w7) := by
        refine ((unhide HDE) w6.drew gy cy (fun _ => ⟨gy, 0, rfl, fun j x hx => (unhide HY6).cells j x hx⟩) hcy).mono ?_
        rintro e w7 ⟨rfl, b7⟩
        have hb : Below w6.heap.size w6 w7 := (Below.refl w6.heap.size w6).drew.trans b7
        exact ⟨rfl, (unhide HM6).below hb, (hb.block w.heap.size (by omega)).trans (unhide HR6), hb⟩
      have HEX : Hid (∀ W, SMid N W S B own2 (.slice ad5 (T + nE) c5) L (L ++ [⟨(cc : Int), no, ⟨k, a, b, t⟩, dcode, dtext⟩]) → ∀ i, i < 26 → (∃ v, W.cell? ⟨S, i, none⟩ = some v) ∧ W.frozen? ⟨S, i, none⟩ = false) := fun W hW i hi => ⟨⟨_, (hW.at i).1.trans (List.getElem?_eq_getElem (by show i < 26; exact hi))⟩, (hW.at i).2⟩
      have hci : (cc : Int) < 3 := by omega
      go_wp2_with fail
      go_region_law (first | (go_simp; go_at_call 201; refine (unhide HDE6).mono ?_; rintro e w7 ⟨rfl, hm7, hr7, hb7⟩; have hex := (unhide HEX) w7 hm7; obtain ⟨⟨v0, f0⟩, g0⟩ := hex (2 + cc * 8) (by omega); obtain ⟨⟨v1, f1⟩, g1⟩ := hex (2 + cc * 8 + 1) (by omega); obtain ⟨⟨v2, f2⟩, g2⟩ := hex (2 + cc * 8 + 2) (by omega); obtain ⟨⟨v3, f3⟩, g3⟩ := hex (2 + cc * 8 + 3) (by omega); obtain ⟨⟨v4, f4⟩, g4⟩ := hex (2 + cc * 8 + 4) (by omega); obtain ⟨⟨v5, f5⟩, g5⟩ := hex (2 + cc * 8 + 5) (by omega); obtain ⟨⟨v6, f6⟩, g6⟩ := hex (2 + cc * 8 + 6) (by omega); obtain ⟨⟨v7, f7⟩, g7⟩ := hex (2 + cc * 8 + 7) (by omega);  have HM7 := hide hm7; have HR7 := hide hr7; have HB7 := hide hb7; obtain ⟨⟨u0, u1, u2, u3⟩, ⟨u4, u5, u6, u7⟩, _⟩ := eight hr7; clear hm7 hr7 hb7 hex) | fail)
      all_goals
        have hk8 := set8o_kept w7 S (2 + cc * 8) (.int .i64 (cc : Int)) (.int .i64 no) (.int .i64 k) (.string a) (.string b) (.string t) (.int .i64 dcode) (.string dtext)
        have hc8 := (unhide HM7).last (r := ⟨(cc : Int), no, ⟨k, a, b, t⟩, dcode, dtext⟩) (unhide HH).new hcc rfl
        unfold set8o at hk8 hc8
        dsimp only at hc8
        generalize hw8 : ((((((((w7.setCell ⟨S, 2 + cc * 8, none⟩ (.int .i64 (cc : Int))).setCell ⟨S, 2 + cc * 8 + 1, none⟩ (.int .i64 no)).setCell ⟨S, 2 + cc * 8 + 2, none⟩ (.int .i64 k)).setCell ⟨S, 2 + cc * 8 + 3, none⟩ (.string a)).setCell ⟨S, 2 + cc * 8 + 4, none⟩ (.string b)).setCell ⟨S, 2 + cc * 8 + 5, none⟩ (.string t)).setCell ⟨S, 2 + cc * 8 + 6, none⟩ (.int .i64 dcode)).setCell ⟨S, 2 + cc * 8 + 7, none⟩ (.string dtext)) = w8 at hk8 hc8 ⊢
        have hz7 := (unhide HB7).size
        have HR8 := hide ((hk8.block w.heap.size (by omega) (by simp; omega)).trans (unhide HR7))
        have HA8 := hide ((hk8.block (w.heap.size + 1) (by omega) (by simp; omega)).trans (((unhide HB7).block (w.heap.size + 1) (by omega)).trans (unhide HA6)))
        have hl7 := (unhide HL6).below (unhide HB7)
        have hl8 : BRow w8 N (.slice ad5 (T + nE) c5) (logB (L ++ [⟨(cc : Int), no, ⟨k, a, b, t⟩, dcode, dtext⟩])) := by
          rw [unhide HLG]
          exact ownsRow_same hl7 (fun j hj => hk8.block j (hl7.lt j hj).2 (fun hm => hnS' (by rw [List.mem_singleton.1 hm] at hj; exact hj)))
        have hlB : ∀ j, (Value.slice ad5 (T + nE) c5).ownBlock = some j → j ∉ own2 := fun j hj hm => by
          rcases (unhide HATN) j hj with h1 | h1
          · exact ((unhide HN2).keep j (by show j < w1.heap.size; have := (hlr j h1).1; omega) (hlr j h1).2.1).1 hm
          · have := (unhide HO2l) j hm; omega
        have hr8 : SRep N w8 S B own2 (.slice ad5 (T + nE) c5) (L ++ [⟨(cc : Int), no, ⟨k, a, b, t⟩, dcode, dtext⟩]) := ⟨hc8.new, hc8.blk, hc8.files, hl8, unhide HGD, hc8.sB, hnS', hlB⟩
        have K8 := ((unhide HK6).trans (Kept.of_below (own := []) (unhide HB7)) (by simp)).trans hk8 (fun x hx => .inl (by rw [List.mem_singleton.1 hx]; exact List.mem_cons_self))
        have HS8 := hide hr8
        have HK8 := hide K8
        have hz8 := hk8.size
        clear hk8 hc8 hl7 hl8 hlB hr8 K8 hw8 u0 u1 u2 u3 u4 u5 u6 u7 f0 f1 f2 f3 f4 f5 f6 f7 g0 g1 g2 g3 g4 g5 g6 g7
        obtain ⟨⟨u0, u1, u2, u3⟩, ⟨u4, u5, u6, u7⟩, _⟩ := eight (unhide HR8)
        obtain ⟨⟨y0, y1⟩, fy⟩ := two (unhide HA8)
        have hzR : w.heap.size < w8.heap.size := by omega
        go_wp2
        have hb2 := set2_blk (unhide HA8) (.int .i64 dcode) (.string dtext)
        have hk2 := set2_kept w8 (w.heap.size + 1) (.int .i64 dcode) (.string dtext)
        unfold set2 at hb2 hk2
        generalize hw8 : ((w8.setCell ⟨w.heap.size + 1, 0, none⟩ (.int .i64 dcode)).setCell ⟨w.heap.size + 1, 1, none⟩ (.string dtext)) = w99 at hb2 hk2 ⊢
        obtain ⟨⟨p0, p1⟩, _⟩ := two hb2
        refine bodyPost_ret (v := .tuple #[.agg #[.int .i64 dcode, .string dtext], .int .i64 0]) (by simp [results, Tryz.results226, go_sem, p0, p1]) rfl ?_
        rw [HRF.out]
        have hsn : ∀ x, x ∈ sown S own2 (.slice ad5 (T + nE) c5) → x ∈ sown S own (.slice la T lc) ∨ w.heap.size ≤ x := fun x hx => by
          rcases List.mem_cons.1 hx with rfl | hx
          · exact .inl List.mem_cons_self
          rcases List.mem_append.1 hx with hx | hx
          · rcases (unhide HATN) x (by simpa using hx) with h1 | h1
            · exact .inl (List.mem_cons_of_mem _ (List.mem_append_left _ (by simp [h1])))
            · exact .inr (by omega)
          · rcases (unhide HO2) x hx with h1 | h1
            · exact .inl (List.mem_cons_of_mem _ (List.mem_append_right _ h1))
            · exact .inr h1
        have hA2 : ∀ x, x ∈ sown S own2 (.slice ad5 (T + nE) c5) → x ∉ [w.heap.size + 1] := fun x hx hm => by
          have hx1 := List.mem_singleton.1 hm
          rcases List.mem_cons.1 hx with h1 | hx
          · omega
          rcases List.mem_append.1 hx with hx | hx
          · rcases (unhide HATN) x (by simpa using hx) with h1 | h1
            · have := (hlr x h1).1; omega
            · omega
          · exact (unhide HAN) (by rw [← hx1]; exact hx)
        exact ⟨rfl, STurned.mk' (unhide HH) ((unhide HS8).kept hk2 hA2) ((unhide HK8).trans hk2 (fun x hx => .inr (by rw [List.mem_singleton.1 hx]; omega))) hN hsn⟩

end Go.Proofs.YtffgolanmaenfacGreatDoor

namespace Go.Proofs.YtffgolanmaenfacGreatDoor
open Go.RowKit
set_option linter.unusedSimpArgs false
set_option linter.unusedVariables false

theorem recI_range {client no k : Int} {a b t : ByteArray} : recI ⟨client, no, ⟨k, a, b, t⟩, 0, ⟨#[]⟩⟩ = 9 ↔ (client < 0 ∨ 2 < client ∨ no < 1 ∨ 200 < no) := by
  have h4 := checkI_range ⟨k, a, b, t⟩
  unfold recI
  dsimp only
  constructor
  · intro h
    by_cases h1 : client < 0 ∨ 2 < client ∨ no < 1 ∨ 200 < no
    · exact h1
    · rw [if_neg h1] at h
      split at h
      · omega
      split at h
      · omega
      split at h
      · omega
      split at h
      · omega
      · omega
  · intro h
    rw [if_pos h]

set_option maxRecDepth 100000 in
set_option maxHeartbeats 8000000 in
theorem SCall_range {N : Nat} {w : World} {S B : Nat} {own : List Nat} {lv : Value} {L : List ARec} (h : SRep N w S B own lv L) (client no k : Int) (a b t : ByteArray) (hs : (logB L).length ≤ 100000) (hN : N ≤ w.heap.size) (ha : a.size ≤ maxLen) (hb : b.size ≤ maxLen) (ht : t.size ≤ maxLen) (hr : client < 0 ∨ 2 < client ∨ no < 1 ∨ 200 < no) :
    Calls Tryz.prog 215 #[.pointer (some ⟨S, 0, none⟩), .int .i64 client, .int .i64 no, .agg #[.int .i64 k, .string a, .string b, .string t]] w (AddRes N w S own lv (aCall L client no ⟨k, a, b, t⟩)) := by
  rw [aCall, if_pos hr]

  have HCC := hide (fun W => cCheck_any client no k a b t 0 ⟨#[]⟩ W ha hb ht)
  have HFC := hide (fun W => Check_any k a b t W ha hb ht)
  have HCH := hide (fun W => Changes_any k W)
  have HH := hide h
  have hSl := h.lt
  have hVK : ∀ W, Below (w.heap.size + 3) (((w.alloc (.cells #[.int .i64 k, .string a, .string b, .string t] 70)).alloc (.cells #[.int .i64 0, .string ⟨#[]⟩] 100)).alloc (.cells #[.int .i64 client, .int .i64 no, .int .i64 k, .string a, .string b, .string t, .int .i64 0, .string ⟨#[]⟩] 111)) W → W.heap[w.heap.size]? = some (.cells #[.int .i64 k, .string a, .string b, .string t] 70 (0, 0)) ∧ W.heap[w.heap.size + 1]? = some (.cells #[.int .i64 0, .string ⟨#[]⟩] 100 (0, 0)) ∧ W.heap[w.heap.size + 2]? = some (.cells #[.int .i64 client, .int .i64 no, .int .i64 k, .string a, .string b, .string t, .int .i64 0, .string ⟨#[]⟩] 111 (0, 0)) ∧ Below w.heap.size w W ∧ w.heap.size + 3 ≤ W.heap.size := fun W hW => by
    have c0 : (((w.alloc (.cells #[.int .i64 k, .string a, .string b, .string t] 70)).alloc (.cells #[.int .i64 0, .string ⟨#[]⟩] 100)).alloc (.cells #[.int .i64 client, .int .i64 no, .int .i64 k, .string a, .string b, .string t, .int .i64 0, .string ⟨#[]⟩] 111)).heap[w.heap.size]? = some (.cells #[.int .i64 k, .string a, .string b, .string t] 70 (0, 0)) := (Below.heap_alloc _ _ _ (by simp; omega)).trans ((Below.heap_alloc _ _ _ (by simp)).trans (heap_alloc_new w _))
    have c1 : (((w.alloc (.cells #[.int .i64 k, .string a, .string b, .string t] 70)).alloc (.cells #[.int .i64 0, .string ⟨#[]⟩] 100)).alloc (.cells #[.int .i64 client, .int .i64 no, .int .i64 k, .string a, .string b, .string t, .int .i64 0, .string ⟨#[]⟩] 111)).heap[w.heap.size + 1]? = some (.cells #[.int .i64 0, .string ⟨#[]⟩] 100 (0, 0)) := by
      have h := heap_alloc_new (w.alloc (.cells #[.int .i64 k, .string a, .string b, .string t] 70)) (.cells #[.int .i64 0, .string ⟨#[]⟩] 100)
      rw [show (w.alloc (.cells #[.int .i64 k, .string a, .string b, .string t] 70)).heap.size = w.heap.size + 1 by simp] at h
      exact (Below.heap_alloc _ _ _ (by simp)).trans h
    have c2 : (((w.alloc (.cells #[.int .i64 k, .string a, .string b, .string t] 70)).alloc (.cells #[.int .i64 0, .string ⟨#[]⟩] 100)).alloc (.cells #[.int .i64 client, .int .i64 no, .int .i64 k, .string a, .string b, .string t, .int .i64 0, .string ⟨#[]⟩] 111)).heap[w.heap.size + 2]? = some (.cells #[.int .i64 client, .int .i64 no, .int .i64 k, .string a, .string b, .string t, .int .i64 0, .string ⟨#[]⟩] 111 (0, 0)) := by
      have h := heap_alloc_new ((w.alloc (.cells #[.int .i64 k, .string a, .string b, .string t] 70)).alloc (.cells #[.int .i64 0, .string ⟨#[]⟩] 100)) (.cells #[.int .i64 client, .int .i64 no, .int .i64 k, .string a, .string b, .string t, .int .i64 0, .string ⟨#[]⟩] 111)
      rw [show ((w.alloc (.cells #[.int .i64 k, .string a, .string b, .string t] 70)).alloc (.cells #[.int .i64 0, .string ⟨#[]⟩] 100)).heap.size = w.heap.size + 2 by simp] at h
      exact h
    have c4 : Below w.heap.size w (((w.alloc (.cells #[.int .i64 k, .string a, .string b, .string t] 70)).alloc (.cells #[.int .i64 0, .string ⟨#[]⟩] 100)).alloc (.cells #[.int .i64 client, .int .i64 no, .int .i64 k, .string a, .string b, .string t, .int .i64 0, .string ⟨#[]⟩] 111)) := (((Below.refl w.heap.size w).alloc (Nat.le_refl _) _).alloc (by simp) _).alloc (by simp; omega) _
    refine ⟨(hW.block _ (by omega)).trans c0, (hW.block _ (by omega)).trans c1, (hW.block _ (by omega)).trans c2, c4.trans (hW.mono (by omega)), ?_⟩
    have := hW.size; simp at this; omega
  have HVK := hide hVK
  clear hVK
  rw [recI_range.2 hr] at HCC
  clear h hr

  go_enter Tryz.func215, Tryz.ntmps215
  go_wp2_with fail
  refine ((unhide HCC) _).mono ?_
  rintro e w1 ⟨rfl, b1⟩
  have HB1 : Hid (Below (w.heap.size + 3) (((w.alloc (.cells #[.int .i64 k, .string a, .string b, .string t] 70)).alloc (.cells #[.int .i64 0, .string ⟨#[]⟩] 100)).alloc (.cells #[.int .i64 client, .int .i64 no, .int .i64 k, .string a, .string b, .string t, .int .i64 0, .string ⟨#[]⟩] 111)) w1) := b1.mono (by simp)
  obtain ⟨k0, k1, k2, k3, k4⟩ := (unhide HVK) w1 (unhide HB1)
  obtain ⟨⟨x0, x1, x2, x3⟩, _⟩ := four k0
  obtain ⟨⟨z0, z1⟩, fz⟩ := two k1
  obtain ⟨⟨r0, r1, r2, r3⟩, ⟨r4, r5, r6, r7⟩, _⟩ := eight k2
  have HA1 := hide k1
  have HW1 := hide k3
  clear k0 k1 k2 k3
  clear b1

  go_wp2
  have hb2 := set2_blk (unhide HA1) (.int .i64 0) (.string ⟨#[]⟩)
  have hk2 := set2_kept w1 (w.heap.size + 1) (.int .i64 0) (.string ⟨#[]⟩)
  unfold set2 at hb2 hk2

  generalize hw8 : ((w1.setCell ⟨w.heap.size + 1, 0, none⟩ (.int .i64 0)).setCell ⟨w.heap.size + 1, 1, none⟩ (.string ⟨#[]⟩)) = w99 at hb2 hk2 ⊢
  obtain ⟨⟨p0, p1⟩, _⟩ := two hb2
  refine bodyPost_ret (v := .tuple #[.agg #[.int .i64 0, .string ⟨#[]⟩], .int .i64 9]) (by simp [results, Tryz.results215, go_sem, p0, p1]) rfl ?_
  exact ⟨rfl, STurned.of_below (unhide HH) ((unhide HW1).trans (hk2.below (unhide HW1).size (by simp))) hN⟩

set_option maxRecDepth 100000 in
set_option maxHeartbeats 8000000 in
theorem SCall_code {N : Nat} {w : World} {S B : Nat} {own : List Nat} {lv : Value} {L : List ARec} (h : SRep N w S B own lv L) (client no k : Int) (a b t : ByteArray) (hs : (logB L).length ≤ 100000) (hN : N ≤ w.heap.size) (ha : a.size ≤ maxLen) (hb : b.size ≤ maxLen) (ht : t.size ≤ maxLen) (hr : ¬ (client < 0 ∨ 2 < client ∨ no < 1 ∨ 200 < no)) (hc : checkI ⟨k, a, b, t⟩ ≠ 0) :
    Calls Tryz.prog 215 #[.pointer (some ⟨S, 0, none⟩), .int .i64 client, .int .i64 no, .agg #[.int .i64 k, .string a, .string b, .string t]] w (AddRes N w S own lv (aCall L client no ⟨k, a, b, t⟩)) := by
  rw [aCall, if_neg hr, if_pos hc]

  have HCC := hide (fun W => cCheck_any client no k a b t 0 ⟨#[]⟩ W ha hb ht)
  have HFC := hide (fun W => Check_any k a b t W ha hb ht)
  have HCH := hide (fun W => Changes_any k W)
  have HH := hide h
  have hSl := h.lt
  have hVK : ∀ W, Below (w.heap.size + 3) (((w.alloc (.cells #[.int .i64 k, .string a, .string b, .string t] 70)).alloc (.cells #[.int .i64 0, .string ⟨#[]⟩] 100)).alloc (.cells #[.int .i64 client, .int .i64 no, .int .i64 k, .string a, .string b, .string t, .int .i64 0, .string ⟨#[]⟩] 111)) W → W.heap[w.heap.size]? = some (.cells #[.int .i64 k, .string a, .string b, .string t] 70 (0, 0)) ∧ W.heap[w.heap.size + 1]? = some (.cells #[.int .i64 0, .string ⟨#[]⟩] 100 (0, 0)) ∧ W.heap[w.heap.size + 2]? = some (.cells #[.int .i64 client, .int .i64 no, .int .i64 k, .string a, .string b, .string t, .int .i64 0, .string ⟨#[]⟩] 111 (0, 0)) ∧ Below w.heap.size w W ∧ w.heap.size + 3 ≤ W.heap.size := fun W hW => by
    have c0 : (((w.alloc (.cells #[.int .i64 k, .string a, .string b, .string t] 70)).alloc (.cells #[.int .i64 0, .string ⟨#[]⟩] 100)).alloc (.cells #[.int .i64 client, .int .i64 no, .int .i64 k, .string a, .string b, .string t, .int .i64 0, .string ⟨#[]⟩] 111)).heap[w.heap.size]? = some (.cells #[.int .i64 k, .string a, .string b, .string t] 70 (0, 0)) := (Below.heap_alloc _ _ _ (by simp; omega)).trans ((Below.heap_alloc _ _ _ (by simp)).trans (heap_alloc_new w _))
    have c1 : (((w.alloc (.cells #[.int .i64 k, .string a, .string b, .string t] 70)).alloc (.cells #[.int .i64 0, .string ⟨#[]⟩] 100)).alloc (.cells #[.int .i64 client, .int .i64 no, .int .i64 k, .string a, .string b, .string t, .int .i64 0, .string ⟨#[]⟩] 111)).heap[w.heap.size + 1]? = some (.cells #[.int .i64 0, .string ⟨#[]⟩] 100 (0, 0)) := by
      have h := heap_alloc_new (w.alloc (.cells #[.int .i64 k, .string a, .string b, .string t] 70)) (.cells #[.int .i64 0, .string ⟨#[]⟩] 100)
      rw [show (w.alloc (.cells #[.int .i64 k, .string a, .string b, .string t] 70)).heap.size = w.heap.size + 1 by simp] at h
      exact (Below.heap_alloc _ _ _ (by simp)).trans h
    have c2 : (((w.alloc (.cells #[.int .i64 k, .string a, .string b, .string t] 70)).alloc (.cells #[.int .i64 0, .string ⟨#[]⟩] 100)).alloc (.cells #[.int .i64 client, .int .i64 no, .int .i64 k, .string a, .string b, .string t, .int .i64 0, .string ⟨#[]⟩] 111)).heap[w.heap.size + 2]? = some (.cells #[.int .i64 client, .int .i64 no, .int .i64 k, .string a, .string b, .string t, .int .i64 0, .string ⟨#[]⟩] 111 (0, 0)) := by
      have h := heap_alloc_new ((w.alloc (.cells #[.int .i64 k, .string a, .string b, .string t] 70)).alloc (.cells #[.int .i64 0, .string ⟨#[]⟩] 100)) (.cells #[.int .i64 client, .int .i64 no, .int .i64 k, .string a, .string b, .string t, .int .i64 0, .string ⟨#[]⟩] 111)
      rw [show ((w.alloc (.cells #[.int .i64 k, .string a, .string b, .string t] 70)).alloc (.cells #[.int .i64 0, .string ⟨#[]⟩] 100)).heap.size = w.heap.size + 2 by simp] at h
      exact h
    have c4 : Below w.heap.size w (((w.alloc (.cells #[.int .i64 k, .string a, .string b, .string t] 70)).alloc (.cells #[.int .i64 0, .string ⟨#[]⟩] 100)).alloc (.cells #[.int .i64 client, .int .i64 no, .int .i64 k, .string a, .string b, .string t, .int .i64 0, .string ⟨#[]⟩] 111)) := (((Below.refl w.heap.size w).alloc (Nat.le_refl _) _).alloc (by simp) _).alloc (by simp; omega) _
    refine ⟨(hW.block _ (by omega)).trans c0, (hW.block _ (by omega)).trans c1, (hW.block _ (by omega)).trans c2, c4.trans (hW.mono (by omega)), ?_⟩
    have := hW.size; simp at this; omega
  have HVK := hide hVK
  clear hVK
  have h9 : recI ⟨client, no, ⟨k, a, b, t⟩, 0, ⟨#[]⟩⟩ ≠ 9 := fun h => hr (recI_range.1 h)
  generalize recI ⟨client, no, ⟨k, a, b, t⟩, 0, ⟨#[]⟩⟩ = rr at HCC h9
  have h9b : (rr == 9) = false := by simpa using h9
  generalize checkI ⟨k, a, b, t⟩ = code at hc HFC ⊢
  clear h hr h9

  go_enter Tryz.func215, Tryz.ntmps215
  go_wp2_with fail
  refine ((unhide HCC) _).mono ?_
  rintro e w1 ⟨rfl, b1⟩
  have HB1 : Hid (Below (w.heap.size + 3) (((w.alloc (.cells #[.int .i64 k, .string a, .string b, .string t] 70)).alloc (.cells #[.int .i64 0, .string ⟨#[]⟩] 100)).alloc (.cells #[.int .i64 client, .int .i64 no, .int .i64 k, .string a, .string b, .string t, .int .i64 0, .string ⟨#[]⟩] 111)) w1) := b1.mono (by simp)
  obtain ⟨k0, k1, k2, k3, k4⟩ := (unhide HVK) w1 (unhide HB1)
  obtain ⟨⟨x0, x1, x2, x3⟩, _⟩ := four k0
  obtain ⟨⟨z0, z1⟩, fz⟩ := two k1
  obtain ⟨⟨r0, r1, r2, r3⟩, ⟨r4, r5, r6, r7⟩, _⟩ := eight k2
  have HA1 := hide k1
  have HW1 := hide k3
  clear k0 k1 k2 k3
  clear b1

  go_wp2_with fail
  refine ((unhide HFC) _).mono ?_
  rintro e w2 ⟨rfl, b2⟩
  clear x0 x1 x2 x3 z0 z1 fz r0 r1 r2 r3 r4 r5 r6 r7 k4

  have HB2 : Hid (Below (w.heap.size + 3) (((w.alloc (.cells #[.int .i64 k, .string a, .string b, .string t] 70)).alloc (.cells #[.int .i64 0, .string ⟨#[]⟩] 100)).alloc (.cells #[.int .i64 client, .int .i64 no, .int .i64 k, .string a, .string b, .string t, .int .i64 0, .string ⟨#[]⟩] 111)) w2) := (unhide HB1).trans (b2.mono (by have := ((unhide HVK) w1 (unhide HB1)).2.2.2.2; omega))
  obtain ⟨k0, k1, k2, k3, k4⟩ := (unhide HVK) w2 (unhide HB2)
  obtain ⟨⟨x0, x1, x2, x3⟩, _⟩ := four k0
  obtain ⟨⟨z0, z1⟩, fz⟩ := two k1
  obtain ⟨⟨r0, r1, r2, r3⟩, ⟨r4, r5, r6, r7⟩, _⟩ := eight k2
  have HA2 := hide k1
  have HW2 := hide k3
  clear k0 k1 k2 k3
  clear b2

  go_wp2
  have hb2 := set2_blk (unhide HA2) (.int .i64 0) (.string ⟨#[]⟩)
  have hk2 := set2_kept w2 (w.heap.size + 1) (.int .i64 0) (.string ⟨#[]⟩)
  unfold set2 at hb2 hk2

  generalize hw8 : ((w2.setCell ⟨w.heap.size + 1, 0, none⟩ (.int .i64 0)).setCell ⟨w.heap.size + 1, 1, none⟩ (.string ⟨#[]⟩)) = w99 at hb2 hk2 ⊢
  obtain ⟨⟨p0, p1⟩, _⟩ := two hb2
  refine bodyPost_ret (v := .tuple #[.agg #[.int .i64 0, .string ⟨#[]⟩], .int .i64 code]) (by simp [results, Tryz.results215, go_sem, p0, p1]) rfl ?_
  exact ⟨rfl, STurned.of_below (unhide HH) ((unhide HW2).trans (hk2.below (unhide HW2).size (by simp))) hN⟩

set_option maxRecDepth 100000 in
set_option maxHeartbeats 8000000 in
theorem SCall_ask {N : Nat} {w : World} {S B : Nat} {own : List Nat} {lv : Value} {L : List ARec} (h : SRep N w S B own lv L) (client no k : Int) (a b t : ByteArray) (hs : (logB L).length ≤ 100000) (hN : N ≤ w.heap.size) (ha : a.size ≤ maxLen) (hb : b.size ≤ maxLen) (ht : t.size ≤ maxLen) (hr : ¬ (client < 0 ∨ 2 < client ∨ no < 1 ∨ 200 < no)) (hc : checkI ⟨k, a, b, t⟩ = 0) (hch : changesB k = false) :
    Calls Tryz.prog 215 #[.pointer (some ⟨S, 0, none⟩), .int .i64 client, .int .i64 no, .agg #[.int .i64 k, .string a, .string b, .string t]] w (AddRes N w S own lv (aCall L client no ⟨k, a, b, t⟩)) := by
  rw [aCall, if_neg hr, if_neg (by simp [hc]), if_pos hch]
  have HDo : Hid (∀ W, Below w.heap.size w W → Calls Tryz.prog 180 #[.pointer (some ⟨B, 0, none⟩), .agg #[.int .i64 k, .string a, .string b, .string t]] W fun e w' => e = .returned (.agg #[.int .i64 (aDo (behind L) ⟨k, a, b, t⟩).code, .string (aDo (behind L) ⟨k, a, b, t⟩).text]) ∧ ∃ own', OObj N w' B own' (aDo (behind L) ⟨k, a, b, t⟩).st ∧ Next N W w' own own') := fun W hW => Do_obj ⟨k, a, b, t⟩ (h.below hW).files ha hb ht
  rw [aDo_ask (c := ⟨k, a, b, t⟩) (behind L) hch] at HDo

  have HCC := hide (fun W => cCheck_any client no k a b t 0 ⟨#[]⟩ W ha hb ht)
  have HFC := hide (fun W => Check_any k a b t W ha hb ht)
  have HCH := hide (fun W => Changes_any k W)
  have HH := hide h
  have hSl := h.lt
  have hVK : ∀ W, Below (w.heap.size + 3) (((w.alloc (.cells #[.int .i64 k, .string a, .string b, .string t] 70)).alloc (.cells #[.int .i64 0, .string ⟨#[]⟩] 100)).alloc (.cells #[.int .i64 client, .int .i64 no, .int .i64 k, .string a, .string b, .string t, .int .i64 0, .string ⟨#[]⟩] 111)) W → W.heap[w.heap.size]? = some (.cells #[.int .i64 k, .string a, .string b, .string t] 70 (0, 0)) ∧ W.heap[w.heap.size + 1]? = some (.cells #[.int .i64 0, .string ⟨#[]⟩] 100 (0, 0)) ∧ W.heap[w.heap.size + 2]? = some (.cells #[.int .i64 client, .int .i64 no, .int .i64 k, .string a, .string b, .string t, .int .i64 0, .string ⟨#[]⟩] 111 (0, 0)) ∧ Below w.heap.size w W ∧ w.heap.size + 3 ≤ W.heap.size := fun W hW => by
    have c0 : (((w.alloc (.cells #[.int .i64 k, .string a, .string b, .string t] 70)).alloc (.cells #[.int .i64 0, .string ⟨#[]⟩] 100)).alloc (.cells #[.int .i64 client, .int .i64 no, .int .i64 k, .string a, .string b, .string t, .int .i64 0, .string ⟨#[]⟩] 111)).heap[w.heap.size]? = some (.cells #[.int .i64 k, .string a, .string b, .string t] 70 (0, 0)) := (Below.heap_alloc _ _ _ (by simp; omega)).trans ((Below.heap_alloc _ _ _ (by simp)).trans (heap_alloc_new w _))
    have c1 : (((w.alloc (.cells #[.int .i64 k, .string a, .string b, .string t] 70)).alloc (.cells #[.int .i64 0, .string ⟨#[]⟩] 100)).alloc (.cells #[.int .i64 client, .int .i64 no, .int .i64 k, .string a, .string b, .string t, .int .i64 0, .string ⟨#[]⟩] 111)).heap[w.heap.size + 1]? = some (.cells #[.int .i64 0, .string ⟨#[]⟩] 100 (0, 0)) := by
      have h := heap_alloc_new (w.alloc (.cells #[.int .i64 k, .string a, .string b, .string t] 70)) (.cells #[.int .i64 0, .string ⟨#[]⟩] 100)
      rw [show (w.alloc (.cells #[.int .i64 k, .string a, .string b, .string t] 70)).heap.size = w.heap.size + 1 by simp] at h
      exact (Below.heap_alloc _ _ _ (by simp)).trans h
    have c2 : (((w.alloc (.cells #[.int .i64 k, .string a, .string b, .string t] 70)).alloc (.cells #[.int .i64 0, .string ⟨#[]⟩] 100)).alloc (.cells #[.int .i64 client, .int .i64 no, .int .i64 k, .string a, .string b, .string t, .int .i64 0, .string ⟨#[]⟩] 111)).heap[w.heap.size + 2]? = some (.cells #[.int .i64 client, .int .i64 no, .int .i64 k, .string a, .string b, .string t, .int .i64 0, .string ⟨#[]⟩] 111 (0, 0)) := by
      have h := heap_alloc_new ((w.alloc (.cells #[.int .i64 k, .string a, .string b, .string t] 70)).alloc (.cells #[.int .i64 0, .string ⟨#[]⟩] 100)) (.cells #[.int .i64 client, .int .i64 no, .int .i64 k, .string a, .string b, .string t, .int .i64 0, .string ⟨#[]⟩] 111)
      rw [show ((w.alloc (.cells #[.int .i64 k, .string a, .string b, .string t] 70)).alloc (.cells #[.int .i64 0, .string ⟨#[]⟩] 100)).heap.size = w.heap.size + 2 by simp] at h
      exact h
    have c4 : Below w.heap.size w (((w.alloc (.cells #[.int .i64 k, .string a, .string b, .string t] 70)).alloc (.cells #[.int .i64 0, .string ⟨#[]⟩] 100)).alloc (.cells #[.int .i64 client, .int .i64 no, .int .i64 k, .string a, .string b, .string t, .int .i64 0, .string ⟨#[]⟩] 111)) := (((Below.refl w.heap.size w).alloc (Nat.le_refl _) _).alloc (by simp) _).alloc (by simp; omega) _
    refine ⟨(hW.block _ (by omega)).trans c0, (hW.block _ (by omega)).trans c1, (hW.block _ (by omega)).trans c2, c4.trans (hW.mono (by omega)), ?_⟩
    have := hW.size; simp at this; omega
  have HVK := hide hVK
  clear hVK
  have h9 : recI ⟨client, no, ⟨k, a, b, t⟩, 0, ⟨#[]⟩⟩ ≠ 9 := fun h => hr (recI_range.1 h)
  generalize recI ⟨client, no, ⟨k, a, b, t⟩, 0, ⟨#[]⟩⟩ = rr at HCC h9
  have h9b : (rr == 9) = false := by simpa using h9
  rw [hc] at HFC
  rw [hch] at HCH
  generalize aDo (behind L) ⟨k, a, b, t⟩ = ad at HDo ⊢
  obtain ⟨dcode, dtext, dst⟩ := ad
  dsimp only at HDo ⊢
  clear h hr h9 hc hch

  go_enter Tryz.func215, Tryz.ntmps215
  go_wp2_with fail
  refine ((unhide HCC) _).mono ?_
  rintro e w1 ⟨rfl, b1⟩
  have HB1 : Hid (Below (w.heap.size + 3) (((w.alloc (.cells #[.int .i64 k, .string a, .string b, .string t] 70)).alloc (.cells #[.int .i64 0, .string ⟨#[]⟩] 100)).alloc (.cells #[.int .i64 client, .int .i64 no, .int .i64 k, .string a, .string b, .string t, .int .i64 0, .string ⟨#[]⟩] 111)) w1) := b1.mono (by simp)
  obtain ⟨k0, k1, k2, k3, k4⟩ := (unhide HVK) w1 (unhide HB1)
  obtain ⟨⟨x0, x1, x2, x3⟩, _⟩ := four k0
  obtain ⟨⟨z0, z1⟩, fz⟩ := two k1
  obtain ⟨⟨r0, r1, r2, r3⟩, ⟨r4, r5, r6, r7⟩, _⟩ := eight k2
  have HA1 := hide k1
  have HW1 := hide k3
  clear k0 k1 k2 k3
  clear b1

  go_wp2_with fail
  refine ((unhide HFC) _).mono ?_
  rintro e w2 ⟨rfl, b2⟩
  clear x0 x1 x2 x3 z0 z1 fz r0 r1 r2 r3 r4 r5 r6 r7 k4

  have HB2 : Hid (Below (w.heap.size + 3) (((w.alloc (.cells #[.int .i64 k, .string a, .string b, .string t] 70)).alloc (.cells #[.int .i64 0, .string ⟨#[]⟩] 100)).alloc (.cells #[.int .i64 client, .int .i64 no, .int .i64 k, .string a, .string b, .string t, .int .i64 0, .string ⟨#[]⟩] 111)) w2) := (unhide HB1).trans (b2.mono (by have := ((unhide HVK) w1 (unhide HB1)).2.2.2.2; omega))
  obtain ⟨k0, k1, k2, k3, k4⟩ := (unhide HVK) w2 (unhide HB2)
  obtain ⟨⟨x0, x1, x2, x3⟩, _⟩ := four k0
  obtain ⟨⟨z0, z1⟩, fz⟩ := two k1
  obtain ⟨⟨r0, r1, r2, r3⟩, ⟨r4, r5, r6, r7⟩, _⟩ := eight k2
  have HA2 := hide k1
  have HW2 := hide k3
  clear k0 k1 k2 k3
  clear b2

  go_wp2_with fail
  refine ((unhide HCH) _).mono ?_
  rintro e w3 ⟨rfl, rfl⟩

  have hpt := ((unhide HH).below (unhide HW2)).ptr
  have HDo2 : Hid (Calls Tryz.prog 180 #[.pointer (some ⟨B, 0, none⟩), .agg #[.int .i64 k, .string a, .string b, .string t]] w3.drew fun e w' => e = .returned (.agg #[.int .i64 dcode, .string dtext]) ∧ STurned N w S own lv w' L ∧ Kept own w3 w' ∧ w'.heap[w.heap.size + 1]? = some (.cells #[.int .i64 0, .string ⟨#[]⟩] 100 (0, 0)) ∧ w.heap.size + 1 ∉ own ∧ (∃ own', SRep N w' S B own' lv L ∧ (∀ j, j ∈ own' → j ∈ own ∨ w3.heap.size ≤ j)) ∧ w3.heap.size ≤ w'.heap.size) := by
    refine ((unhide HDo) _ (unhide HW2).drew).mono ?_
    rintro e w4 ⟨rfl, own', ho, hn⟩
    have hsb := (unhide HH).below (unhide HW2)
    have hno : ∀ j, j < w3.heap.size → j ∉ own → j ∉ own' ∧ w4.heap[j]? = w3.heap[j]? := fun j hj hnj => hn.keep j hj hnj
    have hown : ∀ j, j ∈ own' → j ∈ own ∨ w3.heap.size ≤ j := fun j hj => by
      by_cases h1 : j < w3.heap.size
      · left
        by_cases h2 : j ∈ own
        · exact h2
        · exact absurd hj (hno j h1 h2).1
      · right; omega
    obtain ⟨C, hC, hl⟩ := hsb.blk
    have hSo := hno S hsb.lt hsb.sB
    have hr : SRep N w4 S B own' lv L := ⟨hsb.new, ⟨C, hSo.2.trans hC, hl⟩, ho, ownsRow_same hsb.log (fun j hj => (hno j (hsb.log.lt j hj).2 (hsb.lB j hj)).2), hsb.good, hSo.1, hsb.sL, fun j hj => (hno j (hsb.log.lt j hj).2 (hsb.lB j hj)).1⟩
    have hA1 : w.heap.size + 1 ∉ own := fun hm => by have := (unhide HH).files.rep.lt hm; omega
    have hkp : Kept own w3 w4 := ⟨hn.below.os, hn.below.tape, hn.below.output, hn.below.size, fun j hj h1 => (hno j hj h1).2⟩
    refine ⟨rfl, STurned.mk' (unhide HH) hr ((Kept.of_below (own := sown S own lv) (unhide HW2)).trans hkp (fun x hx => .inl (List.mem_cons_of_mem _ (List.mem_append_right _ hx)))) hN (fun x hx => ?_), hkp, (hno (w.heap.size + 1) (by omega) hA1).2.trans (unhide HA2), hA1, ⟨own', hr, hown⟩, hkp.size⟩
    rcases List.mem_cons.1 hx with rfl | hx
    · exact .inl List.mem_cons_self
    rcases List.mem_append.1 hx with hx | hx
    · exact .inl (List.mem_cons_of_mem _ (List.mem_append_left _ hx))
    · rcases hown x hx with h1 | h1
      · exact .inl (List.mem_cons_of_mem _ (List.mem_append_right _ h1))
      · exact .inr (by omega)
  go_wp2_with fail
  go_region_law (first | (go_simp; go_at_call 180; refine (unhide HDo2).mono ?_; rintro e w4 ⟨rfl, h41, h42, h43, h44, h45, h46⟩; have HT4 := hide h41; have HA4 := hide h43; have HS4 := hide h45; have HZ4 := hide h46; obtain ⟨⟨y0, y1⟩, fy⟩ := two h43; clear h41 h42 h43 h44 h45 h46) | fail)
  all_goals
    go_wp2
    have hb2 := set2_blk (unhide HA4) (.int .i64 dcode) (.string dtext)
    have hk2 := set2_kept w4 (w.heap.size + 1) (.int .i64 dcode) (.string dtext)
    unfold set2 at hb2 hk2

    generalize hw8 : ((w4.setCell ⟨w.heap.size + 1, 0, none⟩ (.int .i64 dcode)).setCell ⟨w.heap.size + 1, 1, none⟩ (.string dtext)) = w99 at hb2 hk2 ⊢
    obtain ⟨⟨p0, p1⟩, _⟩ := two hb2
    refine bodyPost_ret (v := .tuple #[.agg #[.int .i64 dcode, .string dtext], .int .i64 0]) (by simp [results, Tryz.results215, go_sem, p0, p1]) rfl ?_
    obtain ⟨own', hr, hown⟩ := unhide HS4
    have hn1 : ∀ j, j ∈ sown S own' lv → j ∈ sown S own lv ∨ w3.heap.size ≤ j := fun x hx => by
      rcases List.mem_cons.1 hx with rfl | hx
      · exact .inl List.mem_cons_self
      rcases List.mem_append.1 hx with hx | hx
      · exact .inl (List.mem_cons_of_mem _ (List.mem_append_left _ hx))
      · rcases hown x hx with h1 | h1
        · exact .inl (List.mem_cons_of_mem _ (List.mem_append_right _ h1))
        · exact .inr h1
    obtain ⟨B', own'', lv', hr', hnx⟩ := unhide HT4
    refine ⟨rfl, STurned.mk' (unhide HH) (hr.kept hk2 (fun x hx hm => ?_)) (hnx.kept.trans hk2 (fun x hx => .inr (by rw [List.mem_singleton.1 hx]; omega))) hN (fun x hx => ?_)⟩
    · have hx1 := List.mem_singleton.1 hm
      rcases hn1 x hx with h1 | h1
      · have := (sown_ge (unhide HH) x h1).2; omega
      · omega
    · rcases hn1 x hx with h1 | h1
      · exact .inl h1
      · exact .inr (by omega)

end Go.Proofs.YtffgolanmaenfacGreatDoor

namespace Go.Proofs.YtffgolanmaenfacGreatDoor
open Go.RowKit
set_option linter.unusedSimpArgs false
set_option linter.unusedVariables false

set_option maxRecDepth 100000 in
set_option maxHeartbeats 8000000 in
theorem SCall_again {N : Nat} {w : World} {S B : Nat} {own : List Nat} {lv : Value} {L : List ARec} (h : SRep N w S B own lv L) (cc : Nat) (no k : Int) (a b t : ByteArray) (hs : (logB L).length ≤ 100000) (hN : N ≤ w.heap.size) (ha : a.size ≤ maxLen) (hb : b.size ≤ maxLen) (ht : t.size ≤ maxLen) (hc3 : (cc : Int) < 3) (hr : ¬ ((cc : Int) < 0 ∨ 2 < (cc : Int) ∨ no < 1 ∨ 200 < no)) (hc : checkI ⟨k, a, b, t⟩ = 0) (hch : changesB k = true) (hno : no = (lastR L (cc : Int)).no) (hcb : callB ⟨k, a, b, t⟩ (lastR L (cc : Int)).call = true) :
    Calls Tryz.prog 215 #[.pointer (some ⟨S, 0, none⟩), .int .i64 (cc : Int), .int .i64 no, .agg #[.int .i64 k, .string a, .string b, .string t]] w (AddRes N w S own lv (aCall L (cc : Int) no ⟨k, a, b, t⟩)) := by
  have hnlt : ¬ (lastR L (cc : Int)).no < no := by omega
  rw [aCall, if_neg hr, if_neg (by simp [hc]), if_neg (by simp [hch]), if_neg hnlt, if_pos ⟨hno, hcb⟩]

  have HCC := hide (fun W => cCheck_any (cc : Int) no k a b t 0 ⟨#[]⟩ W ha hb ht)
  have HFC := hide (fun W => Check_any k a b t W ha hb ht)
  have HCH := hide (fun W => Changes_any k W)
  have HH := hide h
  have hSl := h.lt
  have hVK : ∀ W, Below (w.heap.size + 3) (((w.alloc (.cells #[.int .i64 k, .string a, .string b, .string t] 70)).alloc (.cells #[.int .i64 0, .string ⟨#[]⟩] 100)).alloc (.cells #[.int .i64 (cc : Int), .int .i64 no, .int .i64 k, .string a, .string b, .string t, .int .i64 0, .string ⟨#[]⟩] 111)) W → W.heap[w.heap.size]? = some (.cells #[.int .i64 k, .string a, .string b, .string t] 70 (0, 0)) ∧ W.heap[w.heap.size + 1]? = some (.cells #[.int .i64 0, .string ⟨#[]⟩] 100 (0, 0)) ∧ W.heap[w.heap.size + 2]? = some (.cells #[.int .i64 (cc : Int), .int .i64 no, .int .i64 k, .string a, .string b, .string t, .int .i64 0, .string ⟨#[]⟩] 111 (0, 0)) ∧ Below w.heap.size w W ∧ w.heap.size + 3 ≤ W.heap.size := fun W hW => by
    have c0 : (((w.alloc (.cells #[.int .i64 k, .string a, .string b, .string t] 70)).alloc (.cells #[.int .i64 0, .string ⟨#[]⟩] 100)).alloc (.cells #[.int .i64 (cc : Int), .int .i64 no, .int .i64 k, .string a, .string b, .string t, .int .i64 0, .string ⟨#[]⟩] 111)).heap[w.heap.size]? = some (.cells #[.int .i64 k, .string a, .string b, .string t] 70 (0, 0)) := (Below.heap_alloc _ _ _ (by simp; omega)).trans ((Below.heap_alloc _ _ _ (by simp)).trans (heap_alloc_new w _))
    have c1 : (((w.alloc (.cells #[.int .i64 k, .string a, .string b, .string t] 70)).alloc (.cells #[.int .i64 0, .string ⟨#[]⟩] 100)).alloc (.cells #[.int .i64 (cc : Int), .int .i64 no, .int .i64 k, .string a, .string b, .string t, .int .i64 0, .string ⟨#[]⟩] 111)).heap[w.heap.size + 1]? = some (.cells #[.int .i64 0, .string ⟨#[]⟩] 100 (0, 0)) := by
      have h := heap_alloc_new (w.alloc (.cells #[.int .i64 k, .string a, .string b, .string t] 70)) (.cells #[.int .i64 0, .string ⟨#[]⟩] 100)
      rw [show (w.alloc (.cells #[.int .i64 k, .string a, .string b, .string t] 70)).heap.size = w.heap.size + 1 by simp] at h
      exact (Below.heap_alloc _ _ _ (by simp)).trans h
    have c2 : (((w.alloc (.cells #[.int .i64 k, .string a, .string b, .string t] 70)).alloc (.cells #[.int .i64 0, .string ⟨#[]⟩] 100)).alloc (.cells #[.int .i64 (cc : Int), .int .i64 no, .int .i64 k, .string a, .string b, .string t, .int .i64 0, .string ⟨#[]⟩] 111)).heap[w.heap.size + 2]? = some (.cells #[.int .i64 (cc : Int), .int .i64 no, .int .i64 k, .string a, .string b, .string t, .int .i64 0, .string ⟨#[]⟩] 111 (0, 0)) := by
      have h := heap_alloc_new ((w.alloc (.cells #[.int .i64 k, .string a, .string b, .string t] 70)).alloc (.cells #[.int .i64 0, .string ⟨#[]⟩] 100)) (.cells #[.int .i64 (cc : Int), .int .i64 no, .int .i64 k, .string a, .string b, .string t, .int .i64 0, .string ⟨#[]⟩] 111)
      rw [show ((w.alloc (.cells #[.int .i64 k, .string a, .string b, .string t] 70)).alloc (.cells #[.int .i64 0, .string ⟨#[]⟩] 100)).heap.size = w.heap.size + 2 by simp] at h
      exact h
    have c4 : Below w.heap.size w (((w.alloc (.cells #[.int .i64 k, .string a, .string b, .string t] 70)).alloc (.cells #[.int .i64 0, .string ⟨#[]⟩] 100)).alloc (.cells #[.int .i64 (cc : Int), .int .i64 no, .int .i64 k, .string a, .string b, .string t, .int .i64 0, .string ⟨#[]⟩] 111)) := (((Below.refl w.heap.size w).alloc (Nat.le_refl _) _).alloc (by simp) _).alloc (by simp; omega) _
    refine ⟨(hW.block _ (by omega)).trans c0, (hW.block _ (by omega)).trans c1, (hW.block _ (by omega)).trans c2, c4.trans (hW.mono (by omega)), ?_⟩
    have := hW.size; simp at this; omega
  have HVK := hide hVK
  clear hVK
  have h9 : recI ⟨(cc : Int), no, ⟨k, a, b, t⟩, 0, ⟨#[]⟩⟩ ≠ 9 := fun h => hr (recI_range.1 h)
  generalize recI ⟨(cc : Int), no, ⟨k, a, b, t⟩, 0, ⟨#[]⟩⟩ = rr at HCC h9
  have h9b : (rr == 9) = false := by simpa using h9
  rw [hc] at HFC
  rw [hch] at HCH
  have hc3' : cc < 3 := by omega
  have HE := hide (fun W => eql32 ⟨k, a, b, t⟩ (lastR L (cc : Int)).call W)
  rw [hcb] at HE
  obtain ⟨lr, hlr⟩ : ∃ r, r = lastR L (cc : Int) := ⟨_, rfl⟩
  rw [← hlr] at HE hno ⊢
  clear hnlt hcb

  have HLS : Hid (∀ W, Below w.heap.size w W → RecAt W S (2 + cc * 8) lr) := fun W hW => by rw [hlr]; exact ((h.below hW).last cc hc3')
  clear h h9 hch hlr hr
  obtain ⟨lc, ln, ⟨lk, la, lb, lt⟩, ld, lu⟩ := lr
  dsimp only [callCells] at *
  have heqb : (no == ln) = true := by simpa using hno
  have hgt : ¬ (ln < no) := by omega
  clear hno

  go_enter Tryz.func215, Tryz.ntmps215
  go_wp2_with fail
  refine ((unhide HCC) _).mono ?_
  rintro e w1 ⟨rfl, b1⟩
  have HB1 : Hid (Below (w.heap.size + 3) (((w.alloc (.cells #[.int .i64 k, .string a, .string b, .string t] 70)).alloc (.cells #[.int .i64 0, .string ⟨#[]⟩] 100)).alloc (.cells #[.int .i64 (cc : Int), .int .i64 no, .int .i64 k, .string a, .string b, .string t, .int .i64 0, .string ⟨#[]⟩] 111)) w1) := b1.mono (by simp)
  obtain ⟨k0, k1, k2, k3, k4⟩ := (unhide HVK) w1 (unhide HB1)
  obtain ⟨⟨x0, x1, x2, x3⟩, _⟩ := four k0
  obtain ⟨⟨z0, z1⟩, fz⟩ := two k1
  obtain ⟨⟨r0, r1, r2, r3⟩, ⟨r4, r5, r6, r7⟩, _⟩ := eight k2
  have HA1 := hide k1
  have HW1 := hide k3
  clear k0 k1 k2 k3
  clear b1

  go_wp2_with fail
  refine ((unhide HFC) _).mono ?_
  rintro e w2 ⟨rfl, b2⟩
  clear x0 x1 x2 x3 z0 z1 fz r0 r1 r2 r3 r4 r5 r6 r7 k4

  have HB2 : Hid (Below (w.heap.size + 3) (((w.alloc (.cells #[.int .i64 k, .string a, .string b, .string t] 70)).alloc (.cells #[.int .i64 0, .string ⟨#[]⟩] 100)).alloc (.cells #[.int .i64 (cc : Int), .int .i64 no, .int .i64 k, .string a, .string b, .string t, .int .i64 0, .string ⟨#[]⟩] 111)) w2) := (unhide HB1).trans (b2.mono (by have := ((unhide HVK) w1 (unhide HB1)).2.2.2.2; omega))
  obtain ⟨k0, k1, k2, k3, k4⟩ := (unhide HVK) w2 (unhide HB2)
  obtain ⟨⟨x0, x1, x2, x3⟩, _⟩ := four k0
  obtain ⟨⟨z0, z1⟩, fz⟩ := two k1
  obtain ⟨⟨r0, r1, r2, r3⟩, ⟨r4, r5, r6, r7⟩, _⟩ := eight k2
  have HA2 := hide k1
  have HW2 := hide k3
  clear k0 k1 k2 k3
  clear b2

  go_wp2_with fail
  refine ((unhide HCH) _).mono ?_
  rintro e w3 ⟨rfl, rfl⟩

  obtain ⟨l0, l1, l2, l3, l4, l5, l6, l7⟩ := (unhide HLS) w3 (unhide HW2)
  have hzw : w.heap.size < w3.heap.size := by omega
  have hzw1 : w.heap.size + 1 < w3.heap.size := by omega
  have hzw2 : w.heap.size + 2 < w3.heap.size := by omega
  dsimp only at l0 l1 l2 l3 l4 l5 l6 l7
  have e32 := unhide HE
  go_wp2
  have hb2 := set2_blk (unhide HA2) (.int .i64 ld) (.string lu)
  have hk2 := set2_kept w3 (w.heap.size + 1) (.int .i64 ld) (.string lu)
  unfold set2 at hb2 hk2

  replace hb2 := (Below.heap_alloc _ (.cells #[.int .i64 lc, .int .i64 ln, .int .i64 lk, .string la, .string lb, .string lt, .int .i64 ld, .string lu] 111) (w.heap.size + 1) (Array.getElem?_eq_some_iff.1 hb2).1).trans hb2
  replace hk2 := hk2.trans (Kept.of_below (own := []) ((Below.refl _ _).alloc (Nat.le_refl _) (.cells #[.int .i64 lc, .int .i64 ln, .int .i64 lk, .string la, .string lb, .string lt, .int .i64 ld, .string lu] 111))) (by simp)

  generalize hw8 : (((w3.setCell ⟨w.heap.size + 1, 0, none⟩ (.int .i64 ld)).setCell ⟨w.heap.size + 1, 1, none⟩ (.string lu)).alloc (.cells #[.int .i64 lc, .int .i64 ln, .int .i64 lk, .string la, .string lb, .string lt, .int .i64 ld, .string lu] 111)) = w99 at hb2 hk2 ⊢
  obtain ⟨⟨p0, p1⟩, _⟩ := two hb2
  refine bodyPost_ret (v := .tuple #[.agg #[.int .i64 ld, .string lu], .int .i64 0]) (by simp [results, Tryz.results215, go_sem, p0, p1]) rfl ?_
  exact ⟨rfl, STurned.of_below (unhide HH) ((unhide HW2).trans (hk2.below (unhide HW2).size (by simp))) hN⟩

set_option maxRecDepth 100000 in
set_option maxHeartbeats 8000000 in
theorem SCall_old {N : Nat} {w : World} {S B : Nat} {own : List Nat} {lv : Value} {L : List ARec} (h : SRep N w S B own lv L) (cc : Nat) (no k : Int) (a b t : ByteArray) (hs : (logB L).length ≤ 100000) (hN : N ≤ w.heap.size) (ha : a.size ≤ maxLen) (hb : b.size ≤ maxLen) (ht : t.size ≤ maxLen) (hc3 : (cc : Int) < 3) (hr : ¬ ((cc : Int) < 0 ∨ 2 < (cc : Int) ∨ no < 1 ∨ 200 < no)) (hc : checkI ⟨k, a, b, t⟩ = 0) (hch : changesB k = true) (hno : no ≤ (lastR L (cc : Int)).no) (hcb : ¬ (no = (lastR L (cc : Int)).no ∧ callB ⟨k, a, b, t⟩ (lastR L (cc : Int)).call = true)) :
    Calls Tryz.prog 215 #[.pointer (some ⟨S, 0, none⟩), .int .i64 (cc : Int), .int .i64 no, .agg #[.int .i64 k, .string a, .string b, .string t]] w (AddRes N w S own lv (aCall L (cc : Int) no ⟨k, a, b, t⟩)) := by
  have hnlt : ¬ (lastR L (cc : Int)).no < no := by omega
  rw [aCall, if_neg hr, if_neg (by simp [hc]), if_neg (by simp [hch]), if_neg hnlt, if_neg hcb]

  have HCC := hide (fun W => cCheck_any (cc : Int) no k a b t 0 ⟨#[]⟩ W ha hb ht)
  have HFC := hide (fun W => Check_any k a b t W ha hb ht)
  have HCH := hide (fun W => Changes_any k W)
  have HH := hide h
  have hSl := h.lt
  have hVK : ∀ W, Below (w.heap.size + 3) (((w.alloc (.cells #[.int .i64 k, .string a, .string b, .string t] 70)).alloc (.cells #[.int .i64 0, .string ⟨#[]⟩] 100)).alloc (.cells #[.int .i64 (cc : Int), .int .i64 no, .int .i64 k, .string a, .string b, .string t, .int .i64 0, .string ⟨#[]⟩] 111)) W → W.heap[w.heap.size]? = some (.cells #[.int .i64 k, .string a, .string b, .string t] 70 (0, 0)) ∧ W.heap[w.heap.size + 1]? = some (.cells #[.int .i64 0, .string ⟨#[]⟩] 100 (0, 0)) ∧ W.heap[w.heap.size + 2]? = some (.cells #[.int .i64 (cc : Int), .int .i64 no, .int .i64 k, .string a, .string b, .string t, .int .i64 0, .string ⟨#[]⟩] 111 (0, 0)) ∧ Below w.heap.size w W ∧ w.heap.size + 3 ≤ W.heap.size := fun W hW => by
    have c0 : (((w.alloc (.cells #[.int .i64 k, .string a, .string b, .string t] 70)).alloc (.cells #[.int .i64 0, .string ⟨#[]⟩] 100)).alloc (.cells #[.int .i64 (cc : Int), .int .i64 no, .int .i64 k, .string a, .string b, .string t, .int .i64 0, .string ⟨#[]⟩] 111)).heap[w.heap.size]? = some (.cells #[.int .i64 k, .string a, .string b, .string t] 70 (0, 0)) := (Below.heap_alloc _ _ _ (by simp; omega)).trans ((Below.heap_alloc _ _ _ (by simp)).trans (heap_alloc_new w _))
    have c1 : (((w.alloc (.cells #[.int .i64 k, .string a, .string b, .string t] 70)).alloc (.cells #[.int .i64 0, .string ⟨#[]⟩] 100)).alloc (.cells #[.int .i64 (cc : Int), .int .i64 no, .int .i64 k, .string a, .string b, .string t, .int .i64 0, .string ⟨#[]⟩] 111)).heap[w.heap.size + 1]? = some (.cells #[.int .i64 0, .string ⟨#[]⟩] 100 (0, 0)) := by
      have h := heap_alloc_new (w.alloc (.cells #[.int .i64 k, .string a, .string b, .string t] 70)) (.cells #[.int .i64 0, .string ⟨#[]⟩] 100)
      rw [show (w.alloc (.cells #[.int .i64 k, .string a, .string b, .string t] 70)).heap.size = w.heap.size + 1 by simp] at h
      exact (Below.heap_alloc _ _ _ (by simp)).trans h
    have c2 : (((w.alloc (.cells #[.int .i64 k, .string a, .string b, .string t] 70)).alloc (.cells #[.int .i64 0, .string ⟨#[]⟩] 100)).alloc (.cells #[.int .i64 (cc : Int), .int .i64 no, .int .i64 k, .string a, .string b, .string t, .int .i64 0, .string ⟨#[]⟩] 111)).heap[w.heap.size + 2]? = some (.cells #[.int .i64 (cc : Int), .int .i64 no, .int .i64 k, .string a, .string b, .string t, .int .i64 0, .string ⟨#[]⟩] 111 (0, 0)) := by
      have h := heap_alloc_new ((w.alloc (.cells #[.int .i64 k, .string a, .string b, .string t] 70)).alloc (.cells #[.int .i64 0, .string ⟨#[]⟩] 100)) (.cells #[.int .i64 (cc : Int), .int .i64 no, .int .i64 k, .string a, .string b, .string t, .int .i64 0, .string ⟨#[]⟩] 111)
      rw [show ((w.alloc (.cells #[.int .i64 k, .string a, .string b, .string t] 70)).alloc (.cells #[.int .i64 0, .string ⟨#[]⟩] 100)).heap.size = w.heap.size + 2 by simp] at h
      exact h
    have c4 : Below w.heap.size w (((w.alloc (.cells #[.int .i64 k, .string a, .string b, .string t] 70)).alloc (.cells #[.int .i64 0, .string ⟨#[]⟩] 100)).alloc (.cells #[.int .i64 (cc : Int), .int .i64 no, .int .i64 k, .string a, .string b, .string t, .int .i64 0, .string ⟨#[]⟩] 111)) := (((Below.refl w.heap.size w).alloc (Nat.le_refl _) _).alloc (by simp) _).alloc (by simp; omega) _
    refine ⟨(hW.block _ (by omega)).trans c0, (hW.block _ (by omega)).trans c1, (hW.block _ (by omega)).trans c2, c4.trans (hW.mono (by omega)), ?_⟩
    have := hW.size; simp at this; omega
  have HVK := hide hVK
  clear hVK
  have h9 : recI ⟨(cc : Int), no, ⟨k, a, b, t⟩, 0, ⟨#[]⟩⟩ ≠ 9 := fun h => hr (recI_range.1 h)
  generalize recI ⟨(cc : Int), no, ⟨k, a, b, t⟩, 0, ⟨#[]⟩⟩ = rr at HCC h9
  have h9b : (rr == 9) = false := by simpa using h9
  rw [hc] at HFC
  rw [hch] at HCH
  have hc3' : cc < 3 := by omega
  have HE := hide (fun W => eql32 ⟨k, a, b, t⟩ (lastR L (cc : Int)).call W)
  generalize hcbe : callB ⟨k, a, b, t⟩ (lastR L (cc : Int)).call = cb at hcb HE
  obtain ⟨lr, hlr⟩ : ∃ r, r = lastR L (cc : Int) := ⟨_, rfl⟩
  rw [← hlr] at HE hno hcb
  clear hnlt hcbe

  have HLS : Hid (∀ W, Below w.heap.size w W → RecAt W S (2 + cc * 8) lr) := fun W hW => by rw [hlr]; exact ((h.below hW).last cc hc3')
  clear h h9 hch hlr hr
  obtain ⟨lc, ln, ⟨lk, la, lb, lt⟩, ld, lu⟩ := lr
  dsimp only [callCells] at *
  have hgt : ¬ (ln < no) := by omega
  have HCB := hide hcb
  clear hcb hno

  go_enter Tryz.func215, Tryz.ntmps215
  go_wp2_with fail
  refine ((unhide HCC) _).mono ?_
  rintro e w1 ⟨rfl, b1⟩
  have HB1 : Hid (Below (w.heap.size + 3) (((w.alloc (.cells #[.int .i64 k, .string a, .string b, .string t] 70)).alloc (.cells #[.int .i64 0, .string ⟨#[]⟩] 100)).alloc (.cells #[.int .i64 (cc : Int), .int .i64 no, .int .i64 k, .string a, .string b, .string t, .int .i64 0, .string ⟨#[]⟩] 111)) w1) := b1.mono (by simp)
  obtain ⟨k0, k1, k2, k3, k4⟩ := (unhide HVK) w1 (unhide HB1)
  obtain ⟨⟨x0, x1, x2, x3⟩, _⟩ := four k0
  obtain ⟨⟨z0, z1⟩, fz⟩ := two k1
  obtain ⟨⟨r0, r1, r2, r3⟩, ⟨r4, r5, r6, r7⟩, _⟩ := eight k2
  have HA1 := hide k1
  have HW1 := hide k3
  clear k0 k1 k2 k3
  clear b1

  go_wp2_with fail
  refine ((unhide HFC) _).mono ?_
  rintro e w2 ⟨rfl, b2⟩
  clear x0 x1 x2 x3 z0 z1 fz r0 r1 r2 r3 r4 r5 r6 r7 k4

  have HB2 : Hid (Below (w.heap.size + 3) (((w.alloc (.cells #[.int .i64 k, .string a, .string b, .string t] 70)).alloc (.cells #[.int .i64 0, .string ⟨#[]⟩] 100)).alloc (.cells #[.int .i64 (cc : Int), .int .i64 no, .int .i64 k, .string a, .string b, .string t, .int .i64 0, .string ⟨#[]⟩] 111)) w2) := (unhide HB1).trans (b2.mono (by have := ((unhide HVK) w1 (unhide HB1)).2.2.2.2; omega))
  obtain ⟨k0, k1, k2, k3, k4⟩ := (unhide HVK) w2 (unhide HB2)
  obtain ⟨⟨x0, x1, x2, x3⟩, _⟩ := four k0
  obtain ⟨⟨z0, z1⟩, fz⟩ := two k1
  obtain ⟨⟨r0, r1, r2, r3⟩, ⟨r4, r5, r6, r7⟩, _⟩ := eight k2
  have HA2 := hide k1
  have HW2 := hide k3
  clear k0 k1 k2 k3
  clear b2

  go_wp2_with fail
  refine ((unhide HCH) _).mono ?_
  rintro e w3 ⟨rfl, rfl⟩

  obtain ⟨l0, l1, l2, l3, l4, l5, l6, l7⟩ := (unhide HLS) w3 (unhide HW2)
  have hzw : w.heap.size < w3.heap.size := by omega
  have hzw1 : w.heap.size + 1 < w3.heap.size := by omega
  have hzw2 : w.heap.size + 2 < w3.heap.size := by omega
  dsimp only at l0 l1 l2 l3 l4 l5 l6 l7
  by_cases heq : no = ln
  · have hcf : cb = false := by
      have hcb := unhide HCB
      cases cb
      · rfl
      · exact absurd ⟨heq, rfl⟩ hcb
    subst hcf
    have heqb : (no == ln) = true := by simpa using heq
    have e32 := unhide HE
    clear heq
    go_wp2
    have hb2 := set2_blk (unhide HA2) (.int .i64 0) (.string ⟨#[]⟩)
    have hk2 := set2_kept w3 (w.heap.size + 1) (.int .i64 0) (.string ⟨#[]⟩)
    unfold set2 at hb2 hk2

    replace hb2 := (Below.heap_alloc _ (.cells #[.int .i64 lc, .int .i64 ln, .int .i64 lk, .string la, .string lb, .string lt, .int .i64 ld, .string lu] 111) (w.heap.size + 1) (Array.getElem?_eq_some_iff.1 hb2).1).trans hb2
    replace hk2 := hk2.trans (Kept.of_below (own := []) ((Below.refl _ _).alloc (Nat.le_refl _) (.cells #[.int .i64 lc, .int .i64 ln, .int .i64 lk, .string la, .string lb, .string lt, .int .i64 ld, .string lu] 111))) (by simp)

    generalize hw8 : (((w3.setCell ⟨w.heap.size + 1, 0, none⟩ (.int .i64 0)).setCell ⟨w.heap.size + 1, 1, none⟩ (.string ⟨#[]⟩)).alloc (.cells #[.int .i64 lc, .int .i64 ln, .int .i64 lk, .string la, .string lb, .string lt, .int .i64 ld, .string lu] 111)) = w99 at hb2 hk2 ⊢
    obtain ⟨⟨p0, p1⟩, _⟩ := two hb2
    refine bodyPost_ret (v := .tuple #[.agg #[.int .i64 0, .string ⟨#[]⟩], .int .i64 10]) (by simp [results, Tryz.results215, go_sem, p0, p1]) rfl ?_
    exact ⟨rfl, STurned.of_below (unhide HH) ((unhide HW2).trans (hk2.below (unhide HW2).size (by simp))) hN⟩

  · have hneq : (no == ln) = false := by simpa using heq
    clear heq
    go_wp2
    have hb2 := set2_blk (unhide HA2) (.int .i64 0) (.string ⟨#[]⟩)
    have hk2 := set2_kept w3 (w.heap.size + 1) (.int .i64 0) (.string ⟨#[]⟩)
    unfold set2 at hb2 hk2

    replace hb2 := (Below.heap_alloc _ (.cells #[.int .i64 lc, .int .i64 ln, .int .i64 lk, .string la, .string lb, .string lt, .int .i64 ld, .string lu] 111) (w.heap.size + 1) (Array.getElem?_eq_some_iff.1 hb2).1).trans hb2
    replace hk2 := hk2.trans (Kept.of_below (own := []) ((Below.refl _ _).alloc (Nat.le_refl _) (.cells #[.int .i64 lc, .int .i64 ln, .int .i64 lk, .string la, .string lb, .string lt, .int .i64 ld, .string lu] 111))) (by simp)

    generalize hw8 : (((w3.setCell ⟨w.heap.size + 1, 0, none⟩ (.int .i64 0)).setCell ⟨w.heap.size + 1, 1, none⟩ (.string ⟨#[]⟩)).alloc (.cells #[.int .i64 lc, .int .i64 ln, .int .i64 lk, .string la, .string lb, .string lt, .int .i64 ld, .string lu] 111)) = w99 at hb2 hk2 ⊢
    obtain ⟨⟨p0, p1⟩, _⟩ := two hb2
    refine bodyPost_ret (v := .tuple #[.agg #[.int .i64 0, .string ⟨#[]⟩], .int .i64 10]) (by simp [results, Tryz.results215, go_sem, p0, p1]) rfl ?_
    exact ⟨rfl, STurned.of_below (unhide HH) ((unhide HW2).trans (hk2.below (unhide HW2).size (by simp))) hN⟩

end Go.Proofs.YtffgolanmaenfacGreatDoor
