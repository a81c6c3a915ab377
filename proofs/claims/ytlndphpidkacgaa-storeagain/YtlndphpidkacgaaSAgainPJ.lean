/- StoreAgain holds: for all lists of steps the statement postilionlaw.StoreAgain returns true, and its arguments read behind it as they read before. No condition. -/
import Derived.Test.YtlndphpidkacgaaJ6
namespace Go.Proofs.Ytlndphpidkacgaa
open Go.RowKit
set_option linter.unusedSimpArgs false
set_option linter.unusedVariables false

/-- A store's Do of a call that only asks. -/
theorem SDo_ask {N : Nat} {w : World} {S B : Nat} {own : List Nat} {lv : Value} {L : List ARec} (h : SRep N w S B own lv L) (a : ByteArray) (ha : a.size ≤ maxLen) {tx : ByteArray} (htx : (aDo (behind L) ⟨5, a, ⟨#[]⟩, ⟨#[]⟩⟩).text = tx) :
    Calls Try.prog 20 #[.pointer (some ⟨B, 0, none⟩), .agg #[.int .i64 5, .string a, .string ⟨#[]⟩, .string ⟨#[]⟩]] w fun e w' => (∃ d : Int, e = .returned (.agg #[.int .i64 d, .string tx])) ∧ w'.cell? ⟨S, 0, none⟩ = some (.pointer (some ⟨B, 0, none⟩)) ∧ STurned N w S own lv w' L := by
  refine (Do_obj ⟨5, a, ⟨#[]⟩, ⟨#[]⟩⟩ h.files ha (by unfold maxLen; show (⟨#[]⟩ : ByteArray).size ≤ _; decide) (by unfold maxLen; show (⟨#[]⟩ : ByteArray).size ≤ _; decide)).mono ?_
  rintro e w' ⟨rfl, own', ho, hn⟩
  rw [aDo_ask (behind L) rfl] at ho
  have hr : SRep N w' S B own' lv L := by
    obtain ⟨C, hC, hl⟩ := h.blk
    have hS := hn.keep S h.lt h.sB
    exact ⟨h.new, ⟨C, hS.2.trans hC, hl⟩, ho, ownsRow_same h.log (fun k hk => (hn.keep k (h.log.lt k hk).2 (h.lB k hk)).2), h.good, hS.1, h.sL, fun k hk => (hn.keep k (h.log.lt k hk).2 (h.lB k hk)).1⟩
  refine ⟨⟨_, by rw [htx]⟩, hr.ptr, B, own', lv, hr, hn.below, fun b h1 h2 => ?_⟩
  · have h3 : b ∉ own := fun hm => h2 (List.mem_cons_of_mem _ (List.mem_append_right _ hm))
    refine ⟨fun hm => ?_, (hn.keep b h1 h3).2⟩
    rcases List.mem_cons.1 hm with e1 | hm
    · exact h2 (by rw [e1]; exact List.mem_cons_self)
    rcases List.mem_append.1 hm with hm | hm
    · exact h2 (List.mem_cons_of_mem _ (List.mem_append_left _ hm))
    · exact (hn.keep b h1 h3).1 hm

/-- Two stores with one log, a Chest with it, names, texts, and blocks of the statement's own beside them. -/
structure Ag (N N2 : Nat) (w : World) (S S2 : Nat) (L : List ARec) (K : Nat) (rv : Value) (gN cN M : Nat) (nms : List ByteArray) (tv : Value) (tn : Nat) (txs : List ByteArray) (F : List Nat) : Prop where
  st : ∃ B own lv B2 own2 lv2, TwoS N N2 w S B own lv L S2 B2 own2 lv2 L ∧ ∀ f, (f = gN ∨ f = K ∨ rv.ownBlock = some f ∨ tv.ownBlock = some f ∨ f ∈ F) → f ∉ sown S own lv ∧ f ∉ sown S2 own2 lv2
  nN : N ≤ N2
  nW : N2 ≤ w.heap.size
  ch : CRep w N K rv L
  nm : w.ownsRow N 9 1 (.slice (some ⟨gN, 0, none⟩) M cN) M (nms.map .string)
  tx : w.ownsRow N 9 1 tv tn (txs.map .string)
  nt : ∀ f, (f = gN ∨ f = K ∨ rv.ownBlock = some f ∨ f ∈ F) → tv.ownBlock ≠ some f
  fl : ∀ f, f ∈ F → f < w.heap.size
theorem Ag.below {N N2 : Nat} {w w' : World} {S S2 : Nat} {L : List ARec} {K : Nat} {rv : Value} {gN cN M : Nat} {nms : List ByteArray} {tv : Value} {tn : Nat} {txs : List ByteArray} {F : List Nat} (h : Ag N N2 w S S2 L K rv gN cN M nms tv tn txs F) (hb : Below w.heap.size w w') : Ag N N2 w' S S2 L K rv gN cN M nms tv tn txs F := by
  obtain ⟨B, own, lv, B2, own2, lv2, ht, hf⟩ := h.st
  exact ⟨⟨B, own, lv, B2, own2, lv2, ht.below hb, hf⟩, h.nN, Nat.le_trans h.nW hb.size, h.ch.below hb, ownsRow_same h.nm (fun k hk => hb.block k (h.nm.lt k hk).2), ownsRow_same h.tx (fun k hk => hb.block k (h.tx.lt k hk).2), h.nt, fun f hf => Nat.lt_of_lt_of_le (h.fl f hf) hb.size⟩
theorem Ag.rest {N N2 : Nat} {w w' : World} {S S2 : Nat} {L : List ARec} {K : Nat} {rv : Value} {gN cN M : Nat} {nms : List ByteArray} {tv : Value} {tn : Nat} {txs : List ByteArray} {F : List Nat} (h : Ag N N2 w S S2 L K rv gN cN M nms tv tn txs F) (hz : w.heap.size ≤ w'.heap.size)
    (hst : ∃ B own lv B2 own2 lv2, TwoS N N2 w' S B own lv L S2 B2 own2 lv2 L ∧ ∀ f, (f = gN ∨ f = K ∨ rv.ownBlock = some f ∨ tv.ownBlock = some f ∨ f ∈ F) → f ∉ sown S own lv ∧ f ∉ sown S2 own2 lv2)
    (hs : ∀ f, (f = gN ∨ f = K ∨ rv.ownBlock = some f ∨ tv.ownBlock = some f ∨ f ∈ F) → w'.heap[f]? = w.heap[f]?) : Ag N N2 w' S S2 L K rv gN cN M nms tv tn txs F :=
  ⟨hst, h.nN, Nat.le_trans h.nW hz, ⟨h.ch.new, (hs K (.inr (.inl rfl))).trans h.ch.blk, ownsRow_same h.ch.row (fun k hk => hs k (.inr (.inr (.inl hk)))), h.ch.nd⟩, ownsRow_same h.nm (fun k hk => hs k (.inl (by simpa [Value.ownBlock] using hk.symm))), ownsRow_same h.tx (fun k hk => hs k (.inr (.inr (.inr (.inl hk))))), h.nt, fun f hf => Nat.lt_of_lt_of_le (h.fl f hf) hz⟩
theorem Ag.lt {N N2 : Nat} {w : World} {S S2 : Nat} {L : List ARec} {K : Nat} {rv : Value} {gN cN M : Nat} {nms : List ByteArray} {tv : Value} {tn : Nat} {txs : List ByteArray} {F : List Nat} (h : Ag N N2 w S S2 L K rv gN cN M nms tv tn txs F) : ∀ f, (f = gN ∨ f = K ∨ rv.ownBlock = some f ∨ tv.ownBlock = some f ∨ f ∈ F) → f < w.heap.size := fun f hf => by
  rcases hf with rfl | rfl | hf | hf | hf
  · exact (h.nm.lt _ rfl).2
  · exact h.ch.ltK
  · exact (h.ch.row.lt f hf).2
  · exact (h.tx.lt f hf).2
  · exact h.fl f hf
/-- The one or the other store; what it turns leaves all else. -/
theorem Ag.one {N N2 : Nat} {w : World} {S S2 : Nat} {L : List ARec} {K : Nat} {rv : Value} {gN cN M : Nat} {nms : List ByteArray} {tv : Value} {tn : Nat} {txs : List ByteArray} {F : List Nat} (h : Ag N N2 w S S2 L K rv gN cN M nms tv tn txs F) {SX : Nat} (hX : SX = S ∨ SX = S2) :
    ∃ NX B own lv, NX ≤ w.heap.size ∧ SRep NX w SX B own lv L ∧ ∀ w', STurned NX w SX own lv w' L → Ag N N2 w' S S2 L K rv gN cN M nms tv tn txs F ∧ Below N w w' ∧ ∀ f, f ∈ F → w'.heap[f]? = w.heap[f]? := by
  obtain ⟨B, own, lv, B2, own2, lv2, ht, hf⟩ := h.st
  have hN := h.nN
  have hW := h.nW
  rcases hX with rfl | rfl
  · refine ⟨N, B, own, lv, by omega, ht.s1, fun w' hT => ?_⟩
    obtain ⟨B', own', lv', ht', hn⟩ := ht.turn1 hT
    refine ⟨h.rest hn.below.size ⟨B', own', lv', B2, own2, lv2, ht', fun f h1 => ⟨(hn.keep f (h.lt f h1) (hf f h1).1).1, (hf f h1).2⟩⟩ (fun f h1 => (hn.keep f (h.lt f h1) (hf f h1).1).2), hn.below, fun f h1 => (hn.keep f (h.fl f h1) (hf f (.inr (.inr (.inr (.inr h1))))).1).2⟩
  · refine ⟨N2, B2, own2, lv2, hW, ht.s2, fun w' hT => ?_⟩
    obtain ⟨B', own', lv', ht', hn⟩ := ht.turn2 hT
    refine ⟨h.rest hn.below.size ⟨B, own, lv, B', own', lv', ht', fun f h1 => ⟨(hf f h1).1, (hn.keep f (h.lt f h1) (hf f h1).2).1⟩⟩ (fun f h1 => (hn.keep f (h.lt f h1) (hf f h1).2).2), hn.below.mono hN, fun f h1 => (hn.keep f (h.fl f h1) (hf f (.inr (.inr (.inr (.inr h1))))).2).2⟩
/-- A new block beside them. -/
theorem Ag.add {N N2 : Nat} {w w' : World} {S S2 : Nat} {L : List ARec} {K : Nat} {rv : Value} {gN cN M : Nat} {nms : List ByteArray} {tv : Value} {tn : Nat} {txs : List ByteArray} {F : List Nat} (h : Ag N N2 w S S2 L K rv gN cN M nms tv tn txs F) (hb : Below w.heap.size w w') (hz : w.heap.size < w'.heap.size) : Ag N N2 w' S S2 L K rv gN cN M nms tv tn txs (w.heap.size :: F) := by
  have h' := h.below hb
  obtain ⟨B, own, lv, B2, own2, lv2, ht, hf⟩ := h.st
  have hl := h.lt
  refine ⟨⟨B, own, lv, B2, own2, lv2, ht.below hb, fun f h1 => ?_⟩, h'.nN, h'.nW, h'.ch, h'.nm, h'.tx, fun f h1 e => ?_, fun f h1 => ?_⟩
  · rcases h1 with h1 | h1 | h1 | h1 | h1
    · exact hf f (.inl h1)
    · exact hf f (.inr (.inl h1))
    · exact hf f (.inr (.inr (.inl h1)))
    · exact hf f (.inr (.inr (.inr (.inl h1))))
    · rcases List.mem_cons.1 h1 with rfl | h1
      · exact ⟨fun hm => by have := (sown_ge ht.s1 _ hm).2; omega, fun hm => by have := (sown_ge ht.s2 _ hm).2; omega⟩
      · exact hf f (.inr (.inr (.inr (.inr h1))))
  · rcases h1 with h1 | h1 | h1 | h1
    · exact h.nt f (.inl h1) e
    · exact h.nt f (.inr (.inl h1)) e
    · exact h.nt f (.inr (.inr (.inl h1))) e
    · rcases List.mem_cons.1 h1 with rfl | h1
      · have := (h.tx.lt _ e).2; omega
      · exact h.nt f (.inr (.inr (.inr h1))) e
  · rcases List.mem_cons.1 h1 with rfl | h1
    · exact hz
    · exact h'.fl f h1
/-- A text more. -/
theorem Ag.push {N N2 : Nat} {w w' : World} {S S2 : Nat} {L : List ARec} {K : Nat} {rv : Value} {gN cN M : Nat} {nms : List ByteArray} {tv tv' : Value} {tn : Nat} {txs : List ByteArray} {x : ByteArray} {F : List Nat} (h : Ag N N2 w S S2 L K rv gN cN M nms tv tn txs F) (hg : w.grownBy w' tv.ownBlock) (hown : w'.ownsRow N 9 1 tv' (tn + 1) (txs.map .string ++ [.string x])) (hat : tv'.ownBlock = tv.ownBlock ∨ tv'.ownBlock = some w.heap.size) :
    Ag N N2 w' S S2 L K rv gN cN M nms tv' (tn + 1) (txs ++ [x]) F ∧ Below N w w' := by
  obtain ⟨B, own, lv, B2, own2, lv2, ht, hf⟩ := h.st
  have hl := h.lt
  have hold : ∀ k, k < w.heap.size → tv.ownBlock ≠ some k → w'.heap[k]? = w.heap[k]? := fun k hk hne => hg.block k hk (fun e => hne e.symm)
  have hk1 : Kept tv.ownBlock.toList w w' := ⟨hg.os, hg.tape, hg.output, hg.size, fun k hk hn => hold k hk (fun e => hn (by simp [e]))⟩
  have hd1 : ∀ k, k ∈ sown S own lv → k ∉ tv.ownBlock.toList := fun k h1 h2 => (hf k (.inr (.inr (.inr (.inl (by simpa using h2)))))).1 h1
  have hd2 : ∀ k, k ∈ sown S2 own2 lv2 → k ∉ tv.ownBlock.toList := fun k h1 h2 => (hf k (.inr (.inr (.inr (.inl (by simpa using h2)))))).2 h1
  have hnew : ∀ f, tv'.ownBlock = some f → tv.ownBlock = some f ∨ f = w.heap.size := fun f e => by
    rcases hat with h1 | h1
    · exact .inl (h1 ▸ e)
    · right; rw [h1] at e; exact (by simpa using e.symm)
  have hgN := h.nt gN (.inl rfl)
  have hK := h.nt K (.inr (.inl rfl))
  have hNw : N ≤ w.heap.size := Nat.le_trans h.nN h.nW
  refine ⟨⟨⟨B, own, lv, B2, own2, lv2, ⟨ht.s1.kept hk1 hd1, ht.s2.kept hk1 hd2, ht.dj⟩, fun f h1 => ?_⟩, h.nN, Nat.le_trans h.nW hg.size, ⟨h.ch.new, (hold K h.ch.ltK hK).trans h.ch.blk, ownsRow_same h.ch.row (fun k hk => hold k (h.ch.row.lt k hk).2 (h.nt k (.inr (.inr (.inl hk))))), h.ch.nd⟩, ownsRow_same h.nm (fun k hk => ?_), by simpa using hown, fun f h1 e => ?_, fun f h1 => Nat.lt_of_lt_of_le (h.fl f h1) hg.size⟩, ⟨hg.os, hg.tape, hg.output, hg.size, fun k hk => hold k (by omega) (fun e => by have := (h.tx.lt k e).1; omega)⟩⟩
  · rcases h1 with h1 | h1 | h1 | h1 | h1
    · exact hf f (.inl h1)
    · exact hf f (.inr (.inl h1))
    · exact hf f (.inr (.inr (.inl h1)))
    · rcases hnew f h1 with h2 | rfl
      · exact hf f (.inr (.inr (.inr (.inl h2))))
      · exact ⟨fun hm => by have := (sown_ge ht.s1 _ hm).2; omega, fun hm => by have := (sown_ge ht.s2 _ hm).2; omega⟩
    · exact hf f (.inr (.inr (.inr (.inr h1))))
  · have : k = gN := by simpa [Value.ownBlock] using hk.symm
    subst this
    exact hold _ (h.nm.lt _ rfl).2 hgN
  · rcases hnew f e with h2 | rfl
    · exact h.nt f h1 h2
    · have h3 := hl w.heap.size (by rcases h1 with h1 | h1 | h1 | h1; exact .inl h1; exact .inr (.inl h1); exact .inr (.inr (.inl h1)); exact .inr (.inr (.inr (.inr h1))))
      omega
theorem Ag.pushS {N N2 : Nat} {w w' : World} {S S2 : Nat} {L : List ARec} {K : Nat} {rv : Value} {gN cN M : Nat} {nms : List ByteArray} {tv : Value} {tn : Nat} {txs : List ByteArray} {F : List Nat} (h : Ag N N2 w S S2 L K rv gN cN M nms tv tn txs F) (hg : w.grownBy w' tv.ownBlock) {p : Value} (hc : w.cell? ⟨S, 0, none⟩ = some p) : w'.cell? ⟨S, 0, none⟩ = some p := by
  obtain ⟨B, own, lv, B2, own2, lv2, ht, hf⟩ := h.st
  have h1 := hg.block S ht.s1.lt (fun e => (hf S (.inr (.inr (.inr (.inl e.symm))))).1 List.mem_cons_self)
  rw [← hc]
  simp [World.cell?, h1]
theorem Ag.drop {N N2 : Nat} {w : World} {S S2 : Nat} {L : List ARec} {K : Nat} {rv : Value} {gN cN M : Nat} {nms : List ByteArray} {tv : Value} {tn : Nat} {txs : List ByteArray} {F : List Nat} {b : Nat} (h : Ag N N2 w S S2 L K rv gN cN M nms tv tn txs (b :: F)) : Ag N N2 w S S2 L K rv gN cN M nms tv tn txs F := by
  obtain ⟨B, own, lv, B2, own2, lv2, ht, hf⟩ := h.st
  refine ⟨⟨B, own, lv, B2, own2, lv2, ht, fun f h1 => hf f ?_⟩, h.nN, h.nW, h.ch, h.nm, h.tx, fun f h1 => h.nt f ?_, fun f h1 => h.fl f (List.mem_cons_of_mem _ h1)⟩
  · rcases h1 with h1 | h1 | h1 | h1 | h1
    · exact .inl h1
    · exact .inr (.inl h1)
    · exact .inr (.inr (.inl h1))
    · exact .inr (.inr (.inr (.inl h1)))
    · exact .inr (.inr (.inr (.inr (List.mem_cons_of_mem _ h1))))
  · rcases h1 with h1 | h1 | h1 | h1
    · exact .inl h1
    · exact .inr (.inl h1)
    · exact .inr (.inr (.inl h1))
    · exact .inr (.inr (.inr (List.mem_cons_of_mem _ h1)))
/-- A block of the statement's own is written. -/
theorem Ag.set {N N2 : Nat} {w : World} {S S2 : Nat} {L : List ARec} {K : Nat} {rv : Value} {gN cN M : Nat} {nms : List ByteArray} {tv : Value} {tn : Nat} {txs : List ByteArray} {F : List Nat} {b : Nat} (h : Ag N N2 w S S2 L K rv gN cN M nms tv tn txs (b :: F)) {w' : World} (hk : Kept [b] w w') (hne : ∀ f, (f = gN ∨ f = K ∨ rv.ownBlock = some f ∨ tv.ownBlock = some f ∨ f ∈ F) → f < b) : Ag N N2 w' S S2 L K rv gN cN M nms tv tn txs F := by
  have h0 := h.drop
  obtain ⟨B, own, lv, B2, own2, lv2, ht, hf⟩ := h.st
  have hb := hf b (.inr (.inr (.inr (.inr List.mem_cons_self))))
  refine h0.rest hk.size ⟨B, own, lv, B2, own2, lv2, ⟨ht.s1.kept hk (fun k h1 h2 => ?_), ht.s2.kept hk (fun k h1 h2 => ?_), ht.dj⟩, fun f h1 => hf f ?_⟩ (fun f h1 => hk.block f (h0.lt f h1) (fun h2 => ?_))
  · simp at h2; subst h2; exact hb.1 h1
  · simp at h2; subst h2; exact hb.2 h1
  · rcases h1 with h1 | h1 | h1 | h1 | h1
    · exact .inl h1
    · exact .inr (.inl h1)
    · exact .inr (.inr (.inl h1))
    · exact .inr (.inr (.inr (.inl h1)))
    · exact .inr (.inr (.inr (.inr (List.mem_cons_of_mem _ h1))))
  · simp at h2; subst h2; exact Nat.lt_irrefl _ (hne _ h1)
theorem set_two {w : World} {b : Nat} {x0 x1 : Value} {e : TypeId} (h : w.heap[b]? = some (.cells #[x0, x1] e (0, 0))) (y0 y1 : Value) : ((w.setCell ⟨b, 0, none⟩ y0).setCell ⟨b, 1, none⟩ y1).heap[b]? = some (.cells #[y0, y1] e (0, 0)) ∧ Kept [b] w ((w.setCell ⟨b, 0, none⟩ y0).setCell ⟨b, 1, none⟩ y1) := by
  refine ⟨by have h1 := heap_setCell_same (heap_setCell_same (o := 0) h y0) (o := 1) y1; simpa using h1, ?_⟩
  have k1 := kept_setCell [b] w b 0 y0 (by simp)
  have k2 := kept_setCell [b] (w.setCell ⟨b, 0, none⟩ y0) b 1 y1 (by simp)
  exact ⟨k2.os.trans k1.os, k2.tape.trans k1.tape, k2.output.trans k1.output, Nat.le_trans k1.size k2.size, fun k h1 h2 => (k2.block k (Nat.lt_of_lt_of_le h1 k1.size) h2).trans (k1.block k h1 h2)⟩

end Go.Proofs.Ytlndphpidkacgaa

namespace Go.Proofs.Ytlndphpidkacgaa
open Go.RowKit
set_option linter.unusedSimpArgs false
set_option linter.unusedVariables false

theorem yields_neq34 {a : Act} {o : Oper} {t2 : TypeId} {x y : Operand} {u u' v : Value} {wz : World} (ho : o.op = .binOp .neq 34 x y t2) (hx : a.eval x = u) (hy : a.eval y = u') (hq : (binOp .neq 34 u u').run Try.prog wz = .ok v wz) (hg : (eqGuard .neq 34 x y u u').run Try.prog wz = .ok () wz) : (execOp a.eval o).run Try.prog wz = .ok (.value v) wz := by
  unfold execOp
  simp [ho, hx, hy, hq, hg]
theorem neq34s (d : Int) (u : ByteArray) (w : World) : (binOp .neq 34 (.agg #[.int .i64 d, .string u]) (.agg #[.int .i64 d, .string u])).run Try.prog w = .ok (.bool false) w := by
  have h := equal34 9998 d d u u w
  unfold ansCells at h
  rw [run_neq_struct, h]
  simp
theorem guard34 (x y : Operand) (c c' : Array Value) (wz : World) : (eqGuard .neq 34 x y (.agg c) (.agg c')).run Try.prog wz = .ok () wz := by
  unfold eqGuard
  simp [Try.eqGuardType34]

set_option maxRecDepth 100000 in
set_option maxHeartbeats 8000000 in
theorem sagain_walk (a0 : Option Addr) (n0 c0 : Nat) (ls : List AStep) (w : World) (hl : StepsAt w a0 n0 ls) :
    Calls Try.prog 12 #[.slice a0 n0 c0] w fun e w' => e = .returned (.bool true) ∧ Below w.heap.size w w' := by
  have HBG := hide storeBegun_any
  have HG0 := hide (fun W (h : Below w.heap.size w W) => greatStore_any a0 n0 c0 ls W (hl.below h))
  have HNW := hide (fun W => SNew_any W)
  have HL := hide hl
  have hn0 := hl.2.1
  unfold maxLen at hn0
  clear hl
  go_enter Try.func12, Try.ntmps12
  go_wp2_with fail
  refine ((unhide HBG) _).mono ?_
  rintro e w1 ⟨rfl, b1⟩
  have HB1 := hide b1
  clear b1
  go_wp2_with fail
  refine ((unhide HG0) _ (unhide HB1)).mono ?_
  rintro e w5 ⟨⟨r2, rfl⟩, b2⟩
  have HB4 := hide ((unhide HB1).trans (b2.mono (unhide HB1).size))
  clear b2
  cases r2
  case true =>
    go_wp2
    go_ret
    exact ⟨rfl, unhide HB4⟩
  go_wp2_with fail
  refine ((unhide HNW) _).mono ?_
  rintro e w6 ⟨S, B6, own6, lv6, rfl, hs6, b6⟩
  have HP6 := hide (Pair.start hs6 b6.size)
  have HB6 : Hid (Below w5.heap.size w5 (w6.alloc (.cells #[.slice none 0 0] 78))) := b6.alloc b6.size _
  clear hs6 b6
  go_wp2_with fail
  obtain ⟨i0, hi0, hz0, hz1, hz2⟩ := info_parts info9
  go_loopw [5] (fun i wr => ∃ (q B : Nat) (own : List Nat) (lv rv : Value) (L : List ARec), q ≤ n0 ∧ i = .int .i64 (q : Int) ∧ Hid (Pair w5.heap.size wr S B own lv L w6.heap.size rv L) ∧ Hid (Below w5.heap.size w5 wr)) (fun i _ => n0 - (intOf i).toNat)
  case atStart => exact ⟨0, B6, own6, lv6, _, [], Nat.zero_le _, rfl, unhide HP6, unhide HB6⟩
  case round =>
    obtain ⟨q, B, own, lv, rv, L, hq, rfl, HP, HB⟩ := hrel
    have HBw := hide ((unhide HB4).trans ((unhide HB).mono (unhide HB4).size))
    by_cases hlt : (q : Int) < (n0 : Int)
    · obtain ⟨y, hy⟩ : ∃ y, ls[q]? = some y := ⟨_, List.getElem?_eq_getElem (by rw [(unhide HL).1]; omega)⟩
      obtain ⟨b, off, rfl, hc⟩ := ((unhide HL).below (unhide HBw)).2.2.2 (by omega)
      obtain ⟨g0, g1, g2, g3, g4, g5, g6, g7⟩ := hc q y hy
      have hsz := (unhide HL).2.2.1 y (List.mem_of_getElem? hy)
      have HST := hide (storeStep_any (unhide HP) y (unhide HB).size hsz.1 hsz.2.1 hsz.2.2)
      generalize aStep L y = L2 at HST
      clear hc hy hsz
      obtain ⟨ya, yc, yn, yp, ⟨yk, ys1, ys2, ys3⟩⟩ := y
      dsimp only [AStep.val] at *
      go_wp2_with fail
      refine (unhide HST).mono ?_
      rintro e w7 ⟨⟨v, rfl, _⟩, B7, own7, lv7, rv7, hp7, hn7⟩
      have HP7 := hide hp7
      have HB7 := hide ((unhide HB).trans hn7.below)
      clear hp7 hn7
      go_wp2
      go_roundw
      case rel => exact ⟨q + 1, B7, own7, lv7, rv7, L2, by omega, by go_num, unhide HP7, unhide HB7⟩
      case measure => simp [intOf]; omega
    · have hss := (unhide HP).ss
      obtain ⟨T, hT⟩ : ∃ T, (logB L).length = T := ⟨_, rfl⟩
      have HTT := hide hT
      obtain ⟨M, hM⟩ : ∃ M, (behind L).length = M := ⟨_, rfl⟩
      have HMM := hide hM
      have hM1000 := behind_few L hM
      obtain ⟨sL, hsL⟩ : ∃ s : ByteArray, s = ⟨(logB L).toArray⟩ := ⟨_, rfl⟩
      have HSL := hide hsL
      have HGD := hide (unhide HP).good
      have hneq : (sL.toList != sL.toList) = false := by simp
      clear hT hM hsL
      go_wp2_with fail
      refine (Log_T (unhide HP).s hss (unhide HTT)).mono ?_
      rintro e w8 ⟨la, lc, rfl, ol, b8⟩
      have HP8 := hide ((unhide HP).below b8)
      have HB8 := hide ((unhide HB).trans (b8.mono (unhide HB).size))
      obtain ⟨hby, hnil, hcap⟩ := BRow.by ol (unhide HTT)
      have hT2000 : T ≤ 2000 := by have := unhide HTT; omega
      have hop := Open_any la T lc (logB L) w8 hby (unhide HTT) hcap (by omega) hnil
      rw [allR_log (unhide HGD)] at hop
      dsimp only at hop
      rw [unhide HTT, Int.sub_self] at hop
      have HOP := hide hop
      clear hby hnil hop ol b8
      go_wp2_with fail
      refine (unhide HOP).mono ?_
      rintro e w9 ⟨S2, B2, own2, lv2, rfl, hs9, b9⟩
      have HT9 : Hid (TwoS w5.heap.size w8.heap.size w9 S B own lv L S2 B2 own2 lv2 L) := ⟨(unhide HP8).s.below b9, hs9, fun k h1 h2 => by have := (sown_ge hs9 k h1).1; have := (sown_ge (unhide HP8).s k h2).2; omega⟩
      have HC9 := hide ((unhide HP8).r.below b9)
      have HB9 := hide ((unhide HB8).trans (b9.mono (unhide HB8).size))
      clear hs9 b9 hcap
      go_wp2_with fail
      refine wp_region_held_drew (S := (fun wx => (TwoS w5.heap.size w8.heap.size wx S B own lv L S2 B2 own2 lv2 L ∧ CRep wx w5.heap.size w6.heap.size rv L ∧ Below w5.heap.size w5 wx))) (by kernel_rfl) ⟨(unhide HT9).below (below_dr w9), (unhide HC9).below (below_dr w9), (unhide HB9).trans ((below_dr w9).mono (unhide HB9).size)⟩ (fun hHeld => ?_)
      refine wpAnyH_take (i := 0) (v := ?_) opn0 (by kernel_rfl) (by kernel_rfl) (by kernel_rfl) (fun _ _ _ h => h) (Or.inl ⟨by kernel_rfl, ?_⟩) (by assumption) ?_
      rotate_left 1
      · intro wz hSw
        try dsimp only at hSw
        go_simp
        all_goals with_reducible rfl
      try simp only [Act.put, List.setIfInBounds_toArray, List.set_cons_zero, List.set_cons_succ]
      refine wpAnyH_take (i := 1) (v := ?_) opn1 (by kernel_rfl) (by kernel_rfl) (by kernel_rfl) (fun _ _ _ h => h) (Or.inl ⟨by kernel_rfl, ?_⟩) (by assumption) ?_
      rotate_left 1
      · intro wz hSw
        try dsimp only at hSw
        go_simp
        all_goals with_reducible rfl
      try simp only [Act.put, List.setIfInBounds_toArray, List.set_cons_zero, List.set_cons_succ]
      refine wpAnyH_take (i := 2) (v := ?_) opn2 (by kernel_rfl) (by kernel_rfl) (by kernel_rfl) (fun _ _ _ h => h) (Or.inl ⟨by kernel_rfl, ?_⟩) (by assumption) ?_
      rotate_left 1
      · intro wz hSw
        try dsimp only at hSw
        go_simp
        all_goals with_reducible rfl
      try simp only [Act.put, List.setIfInBounds_toArray, List.set_cons_zero, List.set_cons_succ]
      refine wpAnyH_take (i := 3) (v := ?_) opn3 (by kernel_rfl) (by kernel_rfl) (by kernel_rfl) (fun _ _ _ h => h) (Or.inl ⟨by kernel_rfl, ?_⟩) (by assumption) ?_
      rotate_left 1
      · intro wz hSw
        try dsimp only at hSw
        go_simp
        all_goals with_reducible rfl
      try simp only [Act.put, List.setIfInBounds_toArray, List.set_cons_zero, List.set_cons_succ]
      refine wpAnyH_take (i := 4) (v := ?_) opn4 (by kernel_rfl) (by kernel_rfl) (by kernel_rfl) (fun _ _ _ h => h) (Or.inl ⟨by kernel_rfl, ?_⟩) (by assumption) ?_
      rotate_left 1
      · intro wz hSw
        try dsimp only at hSw
        go_simp
        all_goals with_reducible rfl
      try simp only [Act.put, List.setIfInBounds_toArray, List.set_cons_zero, List.set_cons_succ]
      refine wpAnyH_take (i := 5) (v := ?_) opn5 (by kernel_rfl) (by kernel_rfl) (by kernel_rfl) (fun _ _ _ h => h) (Or.inl ⟨by kernel_rfl, ?_⟩) (by assumption) ?_
      rotate_left 1
      · intro wz hSw
        try dsimp only at hSw
        go_simp
        all_goals with_reducible rfl
      try simp only [Act.put, List.setIfInBounds_toArray, List.set_cons_zero, List.set_cons_succ]
      refine wpAnyH_take (i := 6) (v := ?_) opn6 (by kernel_rfl) (by kernel_rfl) (by kernel_rfl) (fun _ _ _ h => h) (Or.inl ⟨by kernel_rfl, ?_⟩) (by assumption) ?_
      rotate_left 1
      · intro wz hSw
        try dsimp only at hSw
        go_simp
        all_goals with_reducible rfl
      try simp only [Act.put, List.setIfInBounds_toArray, List.set_cons_zero, List.set_cons_succ]
      refine wpAnyH_take (i := 7) (v := ?_) opn7 (by kernel_rfl) (by kernel_rfl) (by kernel_rfl) (fun _ _ _ h => h) (Or.inl ⟨by kernel_rfl, ?_⟩) (by assumption) ?_
      rotate_left 1
      · intro wz hSw
        try dsimp only at hSw
        go_simp
        all_goals with_reducible rfl
      try simp only [Act.put, List.setIfInBounds_toArray, List.set_cons_zero, List.set_cons_succ]
      refine wpAnyH_take (i := 10) (v := ?_) opn10 (by kernel_rfl) (by kernel_rfl) (by kernel_rfl) (fun _ _ _ h => h) (Or.inl ⟨by kernel_rfl, ?_⟩) (by assumption) ?_
      rotate_left 1
      · intro wz hSw
        try dsimp only at hSw
        go_simp
        all_goals with_reducible rfl
      try simp only [Act.put, List.setIfInBounds_toArray, List.set_cons_zero, List.set_cons_succ]
      refine wpAnyH_ready (rs := [8]) (by kernel_rfl) (by simp) ?_
      refine AllReadyH.cons opn8 (fun K hK => ?_) AllReadyH.nil
      rw [if_pos (by kernel_rfl)]
      go_simp
      refine (Log_T hHeld.1.s2 hss (unhide HTT)).mono ?_
      rintro e w10 ⟨l1, k1, rfl, o1, b10⟩
      have ho1 : BRow w10 0 (.slice l1 T k1) (logB L) := ownsRow_base o1 (Nat.zero_le _)
      refine hK.out _ _ ⟨hHeld.1.below b10, hHeld.2.1.below b10, hHeld.2.2.trans (b10.mono hHeld.2.2.size)⟩ (fun hHeldN => ?_)
      clear hHeld hK K
      have hHeld := hHeldN
      clear hHeldN
      try simp only [Act.put, List.setIfInBounds_toArray, List.set_cons_zero, List.set_cons_succ]
      refine wpAnyH_weak (S' := fun wx => (TwoS w5.heap.size w8.heap.size wx S B own lv L S2 B2 own2 lv2 L ∧ CRep wx w5.heap.size w6.heap.size rv L ∧ Below w5.heap.size w5 wx) ∧ BRow wx 0 (.slice l1 T k1) (logB L)) (fun _ h => h.1) _ _ _ _ ?_
      replace hHeld := (show (fun wx => (TwoS w5.heap.size w8.heap.size wx S B own lv L S2 B2 own2 lv2 L ∧ CRep wx w5.heap.size w6.heap.size rv L ∧ Below w5.heap.size w5 wx) ∧ BRow wx 0 (.slice l1 T k1) (logB L)) _ from ⟨hHeld, ho1⟩)
      refine wpAnyH_take (i := 9) (v := ?_) opn9 (by kernel_rfl) (by kernel_rfl) (by kernel_rfl) (fun _ _ _ h => h) (Or.inl ⟨by kernel_rfl, ?_⟩) (by assumption) ?_
      rotate_left 1
      · intro wz hSw
        try dsimp only at hSw
        have hq : (convert 48 9 (.slice l1 T k1)).run Try.prog wz = .ok (.string sL) wz := by rw [unhide HSL]; exact conv_row hSw.2 (unhide HTT)
        go_simp
        all_goals with_reducible rfl
      try simp only [Act.put, List.setIfInBounds_toArray, List.set_cons_zero, List.set_cons_succ]
      refine wpAnyH_ready (rs := [11]) (by kernel_rfl) (by simp) ?_
      refine AllReadyH.cons opn11 (fun K hK => ?_) AllReadyH.nil
      rw [if_pos (by kernel_rfl)]
      go_simp
      refine (Log_T hHeld.1.1.s1 hss (unhide HTT)).mono ?_
      rintro e w11 ⟨l2, k2, rfl, o2, b11⟩
      have ho2 : BRow w11 0 (.slice l2 T k2) (logB L) := ownsRow_base o2 (Nat.zero_le _)
      refine hK.out _ _ ⟨⟨hHeld.1.1.below b11, hHeld.1.2.1.below b11, hHeld.1.2.2.trans (b11.mono hHeld.1.2.2.size)⟩, hHeld.2.below b11⟩ (fun hHeldN => ?_)
      clear hHeld hK K
      have hHeld := hHeldN
      clear hHeldN
      try simp only [Act.put, List.setIfInBounds_toArray, List.set_cons_zero, List.set_cons_succ]
      refine wpAnyH_weak (S' := fun wx => ((TwoS w5.heap.size w8.heap.size wx S B own lv L S2 B2 own2 lv2 L ∧ CRep wx w5.heap.size w6.heap.size rv L ∧ Below w5.heap.size w5 wx) ∧ BRow wx 0 (.slice l1 T k1) (logB L)) ∧ BRow wx 0 (.slice l2 T k2) (logB L)) (fun _ h => h.1) _ _ _ _ ?_
      replace hHeld := (show (fun wx => ((TwoS w5.heap.size w8.heap.size wx S B own lv L S2 B2 own2 lv2 L ∧ CRep wx w5.heap.size w6.heap.size rv L ∧ Below w5.heap.size w5 wx) ∧ BRow wx 0 (.slice l1 T k1) (logB L)) ∧ BRow wx 0 (.slice l2 T k2) (logB L)) _ from ⟨hHeld, ho2⟩)
      refine wpAnyH_take (i := 12) (v := ?_) opn12 (by kernel_rfl) (by kernel_rfl) (by kernel_rfl) (fun _ _ _ h => h) (Or.inl ⟨by kernel_rfl, ?_⟩) (by assumption) ?_
      rotate_left 1
      · intro wz hSw
        try dsimp only at hSw
        have hq : (convert 48 9 (.slice l2 T k2)).run Try.prog wz = .ok (.string sL) wz := by rw [unhide HSL]; exact conv_row hSw.2 (unhide HTT)
        go_simp
        all_goals with_reducible rfl
      try simp only [Act.put, List.setIfInBounds_toArray, List.set_cons_zero, List.set_cons_succ]
      refine wpAnyH_take (i := 13) (v := ?_) opn13 (by kernel_rfl) (by kernel_rfl) (by kernel_rfl) (fun _ _ _ h => h) (Or.inl ⟨by kernel_rfl, ?_⟩) (by assumption) ?_
      rotate_left 1
      · intro wz hSw
        try dsimp only at hSw
        go_simp
        all_goals with_reducible rfl
      try simp only [Act.put, List.setIfInBounds_toArray, List.set_cons_zero, List.set_cons_succ]
      refine wpAnyH_take (i := 14) (v := ?_) opn14 (by kernel_rfl) (by kernel_rfl) (by kernel_rfl) (fun _ _ _ h => h) (Or.inl ⟨by kernel_rfl, ?_⟩) (by assumption) ?_
      rotate_left 1
      · intro wz hSw
        try dsimp only at hSw
        go_simp
        all_goals with_reducible rfl
      try simp only [Act.put, List.setIfInBounds_toArray, List.set_cons_zero, List.set_cons_succ]
      refine wpAnyH_done (by kernel_rfl) ?_ _
      have HH11 := hide hHeld.1.1
      clear hHeld ho1 ho2 o1 o2 b10 b11
      go_wp2_with fail
      have hz12 := (unhide HH11).2.2.size
      refine wp_region_held_drew (S := (fun wx => (TwoS w5.heap.size w8.heap.size wx S B own lv L S2 B2 own2 lv2 L ∧ CRep wx w5.heap.size w6.heap.size rv L ∧ Below w5.heap.size w5 wx))) (by kernel_rfl) ⟨(unhide HH11).1.below (below_dr w11), (unhide HH11).2.1.below (below_dr w11), (unhide HH11).2.2.trans ((below_dr w11).mono hz12)⟩ (fun hHeld => ?_)
      refine wpAnyH_take (i := 0) (v := ?_) opn0 (by kernel_rfl) (by kernel_rfl) (by kernel_rfl) (fun _ _ _ h => h) (Or.inl ⟨by kernel_rfl, ?_⟩) (by assumption) ?_
      rotate_left 1
      · intro wz hSw
        try dsimp only at hSw
        go_simp
        all_goals with_reducible rfl
      try simp only [Act.put, List.setIfInBounds_toArray, List.set_cons_zero, List.set_cons_succ]
      refine wpAnyH_take (i := 1) (v := ?_) opn1 (by kernel_rfl) (by kernel_rfl) (by kernel_rfl) (fun _ _ _ h => h) (Or.inl ⟨by kernel_rfl, ?_⟩) (by assumption) ?_
      rotate_left 1
      · intro wz hSw
        try dsimp only at hSw
        go_simp
        all_goals with_reducible rfl
      try simp only [Act.put, List.setIfInBounds_toArray, List.set_cons_zero, List.set_cons_succ]
      refine wpAnyH_take (i := 2) (v := ?_) opn2 (by kernel_rfl) (by kernel_rfl) (by kernel_rfl) (fun _ _ _ h => h) (Or.inl ⟨by kernel_rfl, ?_⟩) (by assumption) ?_
      rotate_left 1
      · intro wz hSw
        try dsimp only at hSw
        go_simp
        all_goals with_reducible rfl
      try simp only [Act.put, List.setIfInBounds_toArray, List.set_cons_zero, List.set_cons_succ]
      refine wpAnyH_take (i := 3) (v := ?_) opn3 (by kernel_rfl) (by kernel_rfl) (by kernel_rfl) (fun _ _ _ h => h) (Or.inl ⟨by kernel_rfl, ?_⟩) (by assumption) ?_
      rotate_left 1
      · intro wz hSw
        try dsimp only at hSw
        have hq := hSw.1.s1.ptr
        go_simp
        all_goals with_reducible rfl
      try simp only [Act.put, List.setIfInBounds_toArray, List.set_cons_zero, List.set_cons_succ]
      refine wpAnyH_take (i := 5) (v := ?_) opn5 (by kernel_rfl) (by kernel_rfl) (by kernel_rfl) (fun _ _ _ h => h) (Or.inl ⟨by kernel_rfl, ?_⟩) (by assumption) ?_
      rotate_left 1
      · intro wz hSw
        try dsimp only at hSw
        go_simp
        all_goals with_reducible rfl
      try simp only [Act.put, List.setIfInBounds_toArray, List.set_cons_zero, List.set_cons_succ]
      refine wpAnyH_ready (rs := [4]) (by kernel_rfl) (by simp) ?_
      refine AllReadyH.cons opn4 (fun K hK => ?_) AllReadyH.nil
      rw [if_pos (by kernel_rfl)]
      go_simp
      refine (Names_M hHeld.1.s1.files (unhide HMM)).mono ?_
      rintro e w12 ⟨g, cn, rfl, on, b12⟩
      have hzg : w11.heap.size ≤ g := (on.lt g rfl).1
      have hon : w12.ownsRow w5.heap.size 9 1 (.slice (some ⟨g, 0, none⟩) M cn) M ((sNames (behind L)).map .string) := ownsRow_base on hHeld.2.2.size
      refine hK.out _ _ ⟨hHeld.1.below b12, hHeld.2.1.below b12, hHeld.2.2.trans (b12.mono hHeld.2.2.size)⟩ (fun hHeldN => ?_)
      clear hHeld hK K
      have hHeld := hHeldN
      clear hHeldN
      try simp only [Act.put, List.setIfInBounds_toArray, List.set_cons_zero, List.set_cons_succ]
      refine wpAnyH_ready (rs := [6]) (by kernel_rfl) (by simp) ?_
      refine AllReadyH.cons opn6 (fun K hK => ?_) AllReadyH.nil
      rw [if_pos (by kernel_rfl)]
      go_simp
      refine (Log_T hHeld.1.s1 hss (unhide HTT)).mono ?_
      rintro e w13 ⟨l3, k3, rfl, o3, b13⟩
      have ho3 : BRow w13 0 (.slice l3 T k3) (logB L) := ownsRow_base o3 (Nat.zero_le _)
      have hon3 : w13.ownsRow w5.heap.size 9 1 (.slice (some ⟨g, 0, none⟩) M cn) M ((sNames (behind L)).map .string) := ownsRow_same hon (fun k h1 => b13.block k (hon.lt k h1).2)
      refine hK.out _ _ ⟨hHeld.1.below b13, hHeld.2.1.below b13, hHeld.2.2.trans (b13.mono hHeld.2.2.size)⟩ (fun hHeldN => ?_)
      clear hHeld hK K
      have hHeld := hHeldN
      clear hHeldN
      try simp only [Act.put, List.setIfInBounds_toArray, List.set_cons_zero, List.set_cons_succ]
      refine wpAnyH_weak (S' := fun wx => (TwoS w5.heap.size w8.heap.size wx S B own lv L S2 B2 own2 lv2 L ∧ CRep wx w5.heap.size w6.heap.size rv L ∧ Below w5.heap.size w5 wx) ∧ BRow wx 0 (.slice l3 T k3) (logB L)) (fun _ h => h.1) _ _ _ _ ?_
      replace hHeld := (show (fun wx => (TwoS w5.heap.size w8.heap.size wx S B own lv L S2 B2 own2 lv2 L ∧ CRep wx w5.heap.size w6.heap.size rv L ∧ Below w5.heap.size w5 wx) ∧ BRow wx 0 (.slice l3 T k3) (logB L)) _ from ⟨hHeld, ho3⟩)
      refine wpAnyH_take (i := 7) (v := ?_) opn7 (by kernel_rfl) (by kernel_rfl) (by kernel_rfl) (fun _ _ _ h => h) (Or.inl ⟨by kernel_rfl, ?_⟩) (by assumption) ?_
      rotate_left 1
      · intro wz hSw
        try dsimp only at hSw
        have hq : (convert 48 9 (.slice l3 T k3)).run Try.prog wz = .ok (.string sL) wz := by rw [unhide HSL]; exact conv_row hSw.2 (unhide HTT)
        go_simp
        all_goals with_reducible rfl
      try simp only [Act.put, List.setIfInBounds_toArray, List.set_cons_zero, List.set_cons_succ]
      refine wpAnyH_take (i := 8) (v := ?_) opn8 (by kernel_rfl) (by kernel_rfl) (by kernel_rfl) (fun _ _ _ h => h) (Or.inl ⟨by kernel_rfl, ?_⟩) (by assumption) ?_
      rotate_left 1
      · intro wz hSw
        try dsimp only at hSw
        go_simp
        all_goals with_reducible rfl
      try simp only [Act.put, List.setIfInBounds_toArray, List.set_cons_zero, List.set_cons_succ]
      refine wpAnyH_take (i := 9) (v := ?_) opn9 (by kernel_rfl) (by kernel_rfl) (by kernel_rfl) (fun _ _ _ h => h) (Or.inl ⟨by kernel_rfl, ?_⟩) (by assumption) ?_
      rotate_left 1
      · intro wz hSw
        try dsimp only at hSw
        go_simp
        all_goals with_reducible rfl
      try simp only [Act.put, List.setIfInBounds_toArray, List.set_cons_zero, List.set_cons_succ]
      refine wpAnyH_done (by kernel_rfl) ?_ _
      have hz89 : w8.heap.size ≤ w13.heap.size := by have := (unhide HH11).1.s2.new; have h2 := hHeld.1.1.s2.lt; omega
      have hAG : Ag w5.heap.size w8.heap.size w13 S S2 L w6.heap.size rv g cn M (sNames (behind L)) (.slice none 0 0) 0 [] [] := by
        refine ⟨⟨B, own, lv, B2, own2, lv2, hHeld.1.1, fun f h1 => ?_⟩, (unhide HB8).size, hz89, hHeld.1.2.1, hon3, World.ownsRow_nil _ _ _ _, fun f h1 e => by simp [Value.ownBlock] at e, fun f h1 => by simp at h1⟩
        have hnew : ∀ k, k ∈ sown S2 own2 lv2 → w8.heap.size ≤ k := fun k hk => (sown_ge hHeld.1.1.s2 k hk).1
        rcases h1 with rfl | rfl | h1 | h1 | h1
        · exact ⟨fun hm => by have := (sown_ge (unhide HH11).1.s1 _ hm).2; omega, fun hm => by have := (sown_ge (unhide HH11).1.s2 _ hm).2; omega⟩
        · exact ⟨(unhide HP).kS, fun hm => by have := hnew _ hm; have := (unhide HP8).r.ltK; omega⟩
        · exact ⟨(unhide HP).rS f h1, fun hm => by have := hnew _ hm; have := ((unhide HP8).r.row.lt f h1).2; omega⟩
        · simp [Value.ownBlock] at h1
        · simp at h1
      have HAG := hide hAG
      have HB13 := hide hHeld.1.2.2
      clear hAG hHeld on hon hon3 ho3 o3 b12 b13 hzg hz89 hz12
      go_wp2_with fail
      obtain ⟨nms, hnms⟩ : ∃ l, sNames (behind L) = l := ⟨_, rfl⟩
      have HNM := hide hnms
      have hNL : nms.length = M := by rw [← hnms, sNames_length]; exact unhide HMM
      have hNS : ∀ x, x ∈ nms → x.size ≤ maxLen := fun x hx => by
        rw [← hnms] at hx
        have := nameB_size (sNames_named (behind_inv L) hx)
        unfold maxLen
        omega
      have HNL := hide hNL
      have HNS := hide hNS
      rw [hnms] at HAG
      obtain ⟨rd, hrd⟩ : ∃ rd : ByteArray → ByteArray, ∀ a, (aDo (behind L) ⟨5, a, ⟨#[]⟩, ⟨#[]⟩⟩).text = rd a := ⟨_, fun _ => rfl⟩
      have HRD := hide hrd
      have hzN : w5.heap.size ≤ w8.heap.size := (unhide HB8).size
      clear hnms hNL hNS hrd
      go_loopw [10, 11] (fun tv i wr => ∃ (q2 : Nat) (ta : Option Addr) (tc : Nat), q2 ≤ M ∧ i = .int .i64 (q2 : Int) ∧ tv = .slice ta q2 tc ∧ Hid (Ag w5.heap.size w8.heap.size wr S S2 L w6.heap.size rv g cn M nms (.slice ta q2 tc) q2 ((nms.take q2).map rd) []) ∧ Hid (Below w5.heap.size w5 wr)) (fun _ i _ => M - (intOf i).toNat)
      case atStart => exact ⟨0, none, 0, Nat.zero_le _, rfl, rfl, unhide HAG, unhide HB13⟩
      case round =>
        obtain ⟨q2, ta, tc, hq2, rfl, rfl, HA, HBr⟩ := hrel
        by_cases hlt2 : (q2 : Int) < (M : Int)
        · obtain ⟨x, hx⟩ : ∃ x, nms[q2]? = some x := ⟨_, List.getElem?_eq_getElem (by rw [unhide HNL]; omega)⟩
          have hxs := (unhide HNS) x (List.mem_of_getElem? hx)
          have HX := hide hx
          have HAd := hide ((unhide HA).below (below_dr wr))
          have hzr : w5.heap.size ≤ wr.heap.size := (unhide HBr).size
          obtain ⟨NX, BX, ownX, lvX, hNX, hsX, hkX⟩ := (unhide HAd).one (.inl rfl)
          have hcS := hsX.ptr
          have hcg := texts_cell (unhide HAd).nm q2 x hx
          have HSX := hide hsX
          have HKX := hide hkX
          clear hsX hkX hx
          go_wp2_with fail
          refine wp_region_held_drew (S := (fun wx => wx.cell? ⟨S, 0, none⟩ = some (.pointer (some ⟨BX, 0, none⟩)) ∧ wx.cell? ⟨g, q2, none⟩ = some (.string x) ∧ Below w5.heap.size w5 wx)) (by kernel_rfl) ⟨hcS, hcg, (unhide HBr).trans ((below_dr wr).mono hzr)⟩ (fun hHeld => ?_)
          clear hcS hcg
          refine wpAnyH_take (i := 0) (v := ?_) opn0 (by kernel_rfl) (by kernel_rfl) (by kernel_rfl) (fun _ _ _ h => h) (Or.inl ⟨by kernel_rfl, ?_⟩) (by assumption) ?_
          rotate_left 1
          · intro wz hSw
            try dsimp only at hSw
            go_simp
            all_goals with_reducible rfl
          try simp only [Act.put, List.setIfInBounds_toArray, List.set_cons_zero, List.set_cons_succ]
          refine wpAnyH_take (i := 1) (v := ?_) opn1 (by kernel_rfl) (by kernel_rfl) (by kernel_rfl) (fun _ _ _ h => h) (Or.inl ⟨by kernel_rfl, ?_⟩) (by assumption) ?_
          rotate_left 1
          · intro wz hSw
            try dsimp only at hSw
            go_simp
            all_goals with_reducible rfl
          try simp only [Act.put, List.setIfInBounds_toArray, List.set_cons_zero, List.set_cons_succ]
          refine wpAnyH_take (i := 2) (v := ?_) opn2 (by kernel_rfl) (by kernel_rfl) (by kernel_rfl) (fun _ _ _ h => h) (Or.inl ⟨by kernel_rfl, ?_⟩) (by assumption) ?_
          rotate_left 1
          · intro wz hSw
            try dsimp only at hSw
            go_simp
            all_goals with_reducible rfl
          try simp only [Act.put, List.setIfInBounds_toArray, List.set_cons_zero, List.set_cons_succ]
          refine wpAnyH_take (i := 3) (v := ?_) opn3 (by kernel_rfl) (by kernel_rfl) (by kernel_rfl) (fun _ _ _ h => h) (Or.inl ⟨by kernel_rfl, ?_⟩) (by assumption) ?_
          rotate_left 1
          · intro wz hSw
            try dsimp only at hSw
            go_simp
            all_goals with_reducible rfl
          try simp only [Act.put, List.setIfInBounds_toArray, List.set_cons_zero, List.set_cons_succ]
          refine wpAnyH_take (i := 4) (v := ?_) opn4 (by kernel_rfl) (by kernel_rfl) (by kernel_rfl) (fun _ _ _ h => h) (Or.inl ⟨by kernel_rfl, ?_⟩) (by assumption) ?_
          rotate_left 1
          · intro wz hSw
            try dsimp only at hSw
            have hq := hSw.1
            go_simp
            all_goals with_reducible rfl
          try simp only [Act.put, List.setIfInBounds_toArray, List.set_cons_zero, List.set_cons_succ]
          refine wpAnyH_take (i := 5) (v := ?_) opn5 (by kernel_rfl) (by kernel_rfl) (by kernel_rfl) (fun _ _ _ h => h) (Or.inl ⟨by kernel_rfl, ?_⟩) (by assumption) ?_
          rotate_left 1
          · intro wz hSw
            try dsimp only at hSw
            go_simp
            all_goals with_reducible rfl
          try simp only [Act.put, List.setIfInBounds_toArray, List.set_cons_zero, List.set_cons_succ]
          refine wpAnyH_take (i := 6) (v := ?_) opn6 (by kernel_rfl) (by kernel_rfl) (by kernel_rfl) (fun _ _ _ h => h) (Or.inl ⟨by kernel_rfl, ?_⟩) (by assumption) ?_
          rotate_left 1
          · intro wz hSw
            try dsimp only at hSw
            go_simp
            all_goals with_reducible rfl
          try simp only [Act.put, List.setIfInBounds_toArray, List.set_cons_zero, List.set_cons_succ]
          refine wpAnyH_take (i := 7) (v := ?_) opn7 (by kernel_rfl) (by kernel_rfl) (by kernel_rfl) (fun _ _ _ h => h) (Or.inl ⟨by kernel_rfl, ?_⟩) (by assumption) ?_
          rotate_left 1
          · intro wz hSw
            try dsimp only at hSw
            go_simp
            all_goals with_reducible rfl
          try simp only [Act.put, List.setIfInBounds_toArray, List.set_cons_zero, List.set_cons_succ]
          refine wpAnyH_take (i := 8) (v := ?_) opn8 (by kernel_rfl) (by kernel_rfl) (by kernel_rfl) (fun _ _ _ h => h) (Or.inl ⟨by kernel_rfl, ?_⟩) (by assumption) ?_
          rotate_left 1
          · intro wz hSw
            try dsimp only at hSw
            have hq := hSw.2.1
            go_simp
            all_goals with_reducible rfl
          try simp only [Act.put, List.setIfInBounds_toArray, List.set_cons_zero, List.set_cons_succ]
          refine wpAnyH_take (i := 9) (v := ?_) opn9 (by kernel_rfl) (by kernel_rfl) (by kernel_rfl) (fun _ _ _ h => h) (Or.inl ⟨by kernel_rfl, ?_⟩) (by assumption) ?_
          rotate_left 1
          · intro wz hSw
            try dsimp only at hSw
            go_simp
            all_goals with_reducible rfl
          try simp only [Act.put, List.setIfInBounds_toArray, List.set_cons_zero, List.set_cons_succ]
          refine wpAnyH_ready (rs := [10]) (by kernel_rfl) (by simp) ?_
          refine AllReadyH.cons opn10 (fun K hK => ?_) AllReadyH.nil
          rw [if_pos (by kernel_rfl)]
          go_simp
          refine (SDo_ask (unhide HSX) x hxs ((unhide HRD) x)).mono ?_
          rintro e w14 ⟨⟨d, rfl⟩, hcS, hTX⟩
          obtain ⟨hA14, hB14, _⟩ := (unhide HKX) w14 hTX
          have hcg := texts_cell hA14.nm q2 x (unhide HX)
          have HA14 := hide hA14
          clear hA14 hTX
          refine hK.out _ _ ⟨hcS, hcg, hHeld.2.2.trans hB14⟩ (fun hHeldN => ?_)
          clear hHeld hK K
          have hHeld := hHeldN
          clear hHeldN
          try simp only [Act.put, List.setIfInBounds_toArray, List.set_cons_zero, List.set_cons_succ]
          refine wpAnyH_take (i := 11) (v := ?_) opn11 (by kernel_rfl) (by kernel_rfl) (by kernel_rfl) (fun _ _ _ h => h) (Or.inl ⟨by kernel_rfl, ?_⟩) (by assumption) ?_
          rotate_left 1
          · intro wz hSw
            try dsimp only at hSw
            have hq := field1 d (rd x) wz
            go_simp
            all_goals with_reducible rfl
          try simp only [Act.put, List.setIfInBounds_toArray, List.set_cons_zero, List.set_cons_succ]
          refine wpAnyH_ready (rs := [12]) (by kernel_rfl) (by simp) ?_
          refine AllReadyH.cons opn12 (fun K hK => ?_) AllReadyH.nil
          rw [if_pos (by kernel_rfl)]
          go_simp
          have hba : Below w14.heap.size w14 (w14.alloc (.cells #[.string (rd x)] 9)) := (Below.refl _ _).alloc (Nat.le_refl _) _
          refine hK.out _ _ ⟨(hba.cell (p := ⟨S, 0, none⟩) (World.block_lt_of_cell? _ _ hHeld.1)).trans hHeld.1, (hba.cell (p := ⟨g, q2, none⟩) (World.block_lt_of_cell? _ _ hHeld.2.1)).trans hHeld.2.1, hHeld.2.2.trans (hba.mono hHeld.2.2.size)⟩ (fun hHeldN => ?_)
          clear hHeld hK K
          have hHeld := hHeldN
          clear hHeldN
          try simp only [Act.put, List.setIfInBounds_toArray, List.set_cons_zero, List.set_cons_succ]
          have HA15 := hide ((unhide HA14).below hba)
          have HLs := hide (lies_block (heap_alloc_new w14 (.cells #[.string (rd x)] 9)) 1 1)
          clear hba
          generalize w14.alloc (.cells #[.string (rd x)] 9) = W at hHeld HA15 HLs ⊢
          refine wpAnyH_ready (rs := [13]) (by kernel_rfl) (by simp) ?_
          refine AllReadyH.cons opn13 (fun K hK => ?_) AllReadyH.nil
          refine step_app (by rfl) (.tmp 75) (.tmp 87) 37 (by rfl) w5.heap.size 9 i0 _ 1 16 Try.underlying37 hi0 hz0 hz1 hz2 rfl (by omega) (.slice ta q2 tc) q2 (((nms.take q2).map rd).map .string) (by kernel_rfl) (unhide HA15).tx (.slice (some ⟨w14.heap.size, 0, none⟩) 1 1) 1 [.string (rd x)] (by kernel_rfl) (unhide HLs) (by rfl) (by simp [Value.oneCell']) (by unfold maxLen; omega) (by omega) hHeld.2.2.size ?_
          intro ad cc w15 hown hgrow hat
          obtain ⟨hA16, hB16⟩ := (unhide HA15).push hgrow hown hat
          have hcS16 := (unhide HA15).pushS hgrow hHeld.1
          have hcg16 := texts_cell hA16.nm q2 x (unhide HX)
          have hnx : (nms.take q2).map rd ++ [rd x] = (nms.take (q2 + 1)).map rd := by rw [List.take_add_one, unhide HX]; simp
          rw [hnx] at hA16
          have HA16 := hide hA16
          clear hA16 hnx hown hgrow hat
          refine hK.out _ _ ⟨hcS16, hcg16, hHeld.2.2.trans hB16⟩ (fun hHeldN => ?_)
          clear hHeld hK K
          have hHeld := hHeldN
          clear hHeldN
          try simp only [Act.put, List.setIfInBounds_toArray, List.set_cons_zero, List.set_cons_succ]
          refine wpAnyH_take (i := 14) (v := ?_) opn14 (by kernel_rfl) (by kernel_rfl) (by kernel_rfl) (fun _ _ _ h => h) (Or.inl ⟨by kernel_rfl, ?_⟩) (by assumption) ?_
          rotate_left 1
          · intro wz hSw
            try dsimp only at hSw
            go_simp
            all_goals with_reducible rfl
          try simp only [Act.put, List.setIfInBounds_toArray, List.set_cons_zero, List.set_cons_succ]
          refine wpAnyH_done (by kernel_rfl) ?_ _
          have HB16 := hide hHeld.2.2
          clear hHeld hB16 hcS16 hcg16
          go_wp2
          go_roundw
          case rel => exact ⟨q2 + 1, ad, cc, by omega, by go_num, rfl, unhide HA16, unhide HB16⟩
          case measure => simp [intOf]; omega
        · have hqM : M = q2 := by omega
          subst hqM
          rw [List.take_of_length_le (by rw [unhide HNL]; omega)] at HA
          obtain ⟨NX, BX, ownX, lvX, hNX, hsX, hkX⟩ := (unhide HA).one (.inl rfl)
          have HCR := hide (Crash_any hsX (by omega) hNX)
          have HKX := hide hkX
          clear hsX hkX
          go_wp2_with fail
          refine (unhide HCR).mono ?_
          rintro e w16 ⟨rfl, hTX⟩
          obtain ⟨hA16, hB16, _⟩ := (unhide HKX) w16 hTX
          have HA17 : Hid (Ag w5.heap.size w8.heap.size (w16.alloc (.cells #[.pointer (some ⟨S, 0, none⟩), .pointer (some ⟨S2, 0, none⟩)] 67)) S S2 L w6.heap.size rv g cn M nms (.slice ta M tc) M (nms.map rd) [w16.heap.size]) := hA16.add ((Below.refl _ _).alloc (Nat.le_refl _) _) (by simp)
          have HB17 : Hid (Below w5.heap.size w5 (w16.alloc (.cells #[.pointer (some ⟨S, 0, none⟩), .pointer (some ⟨S2, 0, none⟩)] 67))) := ((unhide HBr).trans hB16).alloc ((unhide HBr).trans hB16).size _
          have HU17 : Hid ((w16.alloc (.cells #[.pointer (some ⟨S, 0, none⟩), .pointer (some ⟨S2, 0, none⟩)] 67)).heap[w16.heap.size]? = some (.cells #[.pointer (some ⟨S, 0, none⟩), .pointer (some ⟨S2, 0, none⟩)] 67 (0, 0))) := heap_alloc_new _ _
          clear hA16 hB16 hTX
          go_wp2_with fail
          go_loopw [13] (fun i wr => ∃ (k : Nat), k ≤ 2 ∧ i = .int .i64 (k : Int) ∧ Hid (Ag w5.heap.size w8.heap.size wr S S2 L w6.heap.size rv g cn M nms (.slice ta M tc) M (nms.map rd) [w16.heap.size]) ∧ Hid (wr.heap[w16.heap.size]? = some (.cells #[.pointer (some ⟨S, 0, none⟩), .pointer (some ⟨S2, 0, none⟩)] 67 (0, 0))) ∧ Hid (Below w5.heap.size w5 wr)) (fun i _ => 2 - (intOf i).toNat)
          case atStart => exact ⟨0, Nat.zero_le _, rfl, unhide HA17, unhide HU17, unhide HB17⟩
          case round =>
            obtain ⟨k, hk2, rfl, HAk, HUk, HBk⟩ := hrel
            by_cases hltk : (k : Int) < 2
            · obtain ⟨SX, hSX, hcuA⟩ : ∃ SX, (SX = S ∨ SX = S2) ∧ ∀ W : World, W.heap[w16.heap.size]? = some (.cells #[.pointer (some ⟨S, 0, none⟩), .pointer (some ⟨S2, 0, none⟩)] 67 (0, 0)) → W.cell? ⟨w16.heap.size, k, none⟩ = some (.pointer (some ⟨SX, 0, none⟩)) := by
                rcases (show k = 0 ∨ k = 1 by omega) with rfl | rfl
                · exact ⟨S, .inl rfl, fun W h => (two h).1.1⟩
                · exact ⟨S2, .inr rfl, fun W h => (two h).1.2⟩
              have HCU := hide hcuA
              have HSX := hide hSX
              obtain ⟨NX, BX, ownX, lvX, hNX, hsX, hkX⟩ := (unhide HAk).one hSX
              have hcu := hcuA wr (unhide HUk)
              have hptr := hsX.ptr
              have HRX := hide hsX
              clear hcuA hSX hsX hkX
              have hzk : w5.heap.size ≤ wr.heap.size := (unhide HBk).size
              go_wp2_with fail
              refine (Names_M (unhide HRX).files (unhide HMM)).mono ?_
              rintro e w17 ⟨g2, cn2, rfl, on2, b17⟩
              have HA18 := hide ((unhide HAk).below b17)
              have HST := hide (SameTexts_any (some ⟨g2, 0, none⟩) (some ⟨g, 0, none⟩) M M cn2 cn _ _ w17 (ownsRow_base on2 (Nat.zero_le _)) (ownsRow_base (unhide HA18).nm (Nat.zero_le _)) hM1000 hM1000)
              have HR17 := hide ((unhide HRX).below b17)
              have HU17b := hide ((b17.block _ (Array.getElem?_eq_some_iff.1 (unhide HUk)).1).trans (unhide HUk))
              have HB17b := hide ((unhide HBk).trans (b17.mono hzk))
              clear hcu hptr on2 b17
              go_wp2_with fail
              refine (unhide HST).mono ?_
              rintro e w18 ⟨rfl, b18⟩
              rw [decide_eq_true (unhide HNM)]
              have HA19 := hide ((unhide HA18).below b18)
              have HR18 := hide ((unhide HR17).below b18)
              have HU18 := hide ((b18.block _ (Array.getElem?_eq_some_iff.1 (unhide HU17b)).1).trans (unhide HU17b))
              have HB18 := hide ((unhide HB17b).trans (b18.mono (unhide HB17b).size))
              have hcu := (unhide HCU) w18 (unhide HU18)
              clear b18
              go_wp2_with fail
              refine (Log_T (unhide HR18) hss (unhide HTT)).mono ?_
              rintro e w19 ⟨la4, lc4, rfl, ol4, b19⟩
              have hcv4 : (convert 48 9 (.slice la4 T lc4)).run Try.prog w19 = .ok (.string sL) w19 := by rw [unhide HSL]; exact conv_row ol4 (unhide HTT)
              have HA20 := hide ((unhide HA19).below b19)
              have HU19 := hide ((b19.block _ (Array.getElem?_eq_some_iff.1 (unhide HU18)).1).trans (unhide HU18))
              have HB19 := hide ((unhide HB18).trans (b19.mono (unhide HB18).size))
              clear b19 ol4 hcu
              go_wp2_with fail
              go_loopw [14] (fun i wr => ∃ (q4 : Nat), q4 ≤ M ∧ i = .int .i64 (q4 : Int) ∧ Hid (Ag w5.heap.size w8.heap.size wr S S2 L w6.heap.size rv g cn M nms (.slice ta M tc) M (nms.map rd) [w16.heap.size]) ∧ Hid (wr.heap[w16.heap.size]? = some (.cells #[.pointer (some ⟨S, 0, none⟩), .pointer (some ⟨S2, 0, none⟩)] 67 (0, 0))) ∧ Hid (Below w5.heap.size w5 wr)) (fun i _ => M - (intOf i).toNat)
              case atStart => exact ⟨0, Nat.zero_le _, rfl, unhide HA20, unhide HU19, unhide HB19⟩
              case round =>
                obtain ⟨q4, hq4, rfl, HAi, HUi, HBi⟩ := hrel
                by_cases hlt4 : (q4 : Int) < (M : Int)
                · obtain ⟨x, hx⟩ : ∃ x, nms[q4]? = some x := ⟨_, List.getElem?_eq_getElem (by rw [unhide HNL]; omega)⟩
                  have hxs := (unhide HNS) x (List.mem_of_getElem? hx)
                  have HX := hide hx
                  have HAd := hide ((unhide HAi).below (below_dr wr))
                  have hzi : w5.heap.size ≤ wr.heap.size := (unhide HBi).size
                  obtain ⟨NY, BY, ownY, lvY, hNY, hsY, hkY⟩ := (unhide HAd).one (unhide HSX)
                  have hcS := hsY.ptr
                  have hcg := texts_cell (unhide HAd).nm q4 x hx
                  have hxm : (nms.map rd)[q4]? = some (rd x) := by rw [List.getElem?_map, hx]; rfl
                  obtain ⟨gt, rfl, hct⟩ := text_cell (ownsRow_base (unhide HAd).tx (Nat.zero_le _)) q4 (rd x) hxm
                  have hcu := (unhide HCU) wr.drew (unhide HUi)
                  have HSY := hide hsY
                  have HKY := hide hkY
                  have HXM := hide hxm
                  have hnqx : ((rd x).toList != (rd x).toList) = false := by simp
                  clear hsY hkY hx hxm
                  go_wp2_with fail
                  refine wp_region_held_drew (S := (fun wx => wx.cell? ⟨w16.heap.size, k, none⟩ = some (.pointer (some ⟨SX, 0, none⟩)) ∧ wx.cell? ⟨SX, 0, none⟩ = some (.pointer (some ⟨BY, 0, none⟩)) ∧ wx.cell? ⟨g, q4, none⟩ = some (.string x) ∧ wx.cell? ⟨gt, q4, none⟩ = some (.string (rd x)) ∧ Below w5.heap.size w5 wx)) (by kernel_rfl) ⟨hcu, hcS, hcg, hct, (unhide HBi).trans ((below_dr wr).mono hzi)⟩ (fun hHeld => ?_)
                  clear hcu hcS hcg hct
                  refine wpAnyH_take (i := 0) (v := ?_) opn0 (by kernel_rfl) (by kernel_rfl) (by kernel_rfl) (fun _ _ _ h => h) (Or.inl ⟨by kernel_rfl, ?_⟩) (by assumption) ?_
                  rotate_left 1
                  · intro wz hSw
                    try dsimp only at hSw
                    go_simp
                    all_goals with_reducible rfl
                  try simp only [Act.put, List.setIfInBounds_toArray, List.set_cons_zero, List.set_cons_succ]
                  refine wpAnyH_take (i := 1) (v := ?_) opn1 (by kernel_rfl) (by kernel_rfl) (by kernel_rfl) (fun _ _ _ h => h) (Or.inl ⟨by kernel_rfl, ?_⟩) (by assumption) ?_
                  rotate_left 1
                  · intro wz hSw
                    try dsimp only at hSw
                    go_simp
                    all_goals with_reducible rfl
                  try simp only [Act.put, List.setIfInBounds_toArray, List.set_cons_zero, List.set_cons_succ]
                  refine wpAnyH_take (i := 2) (v := ?_) opn2 (by kernel_rfl) (by kernel_rfl) (by kernel_rfl) (fun _ _ _ h => h) (Or.inl ⟨by kernel_rfl, ?_⟩) (by assumption) ?_
                  rotate_left 1
                  · intro wz hSw
                    try dsimp only at hSw
                    go_simp
                    all_goals with_reducible rfl
                  try simp only [Act.put, List.setIfInBounds_toArray, List.set_cons_zero, List.set_cons_succ]
                  refine wpAnyH_take (i := 3) (v := ?_) opn3 (by kernel_rfl) (by kernel_rfl) (by kernel_rfl) (fun _ _ _ h => h) (Or.inl ⟨by kernel_rfl, ?_⟩) (by assumption) ?_
                  rotate_left 1
                  · intro wz hSw
                    try dsimp only at hSw
                    have hq := hSw.1
                    go_simp
                    all_goals with_reducible rfl
                  try simp only [Act.put, List.setIfInBounds_toArray, List.set_cons_zero, List.set_cons_succ]
                  refine wpAnyH_take (i := 4) (v := ?_) opn4 (by kernel_rfl) (by kernel_rfl) (by kernel_rfl) (fun _ _ _ h => h) (Or.inl ⟨by kernel_rfl, ?_⟩) (by assumption) ?_
                  rotate_left 1
                  · intro wz hSw
                    try dsimp only at hSw
                    go_simp
                    all_goals with_reducible rfl
                  try simp only [Act.put, List.setIfInBounds_toArray, List.set_cons_zero, List.set_cons_succ]
                  refine wpAnyH_take (i := 5) (v := ?_) opn5 (by kernel_rfl) (by kernel_rfl) (by kernel_rfl) (fun _ _ _ h => h) (Or.inl ⟨by kernel_rfl, ?_⟩) (by assumption) ?_
                  rotate_left 1
                  · intro wz hSw
                    try dsimp only at hSw
                    go_simp
                    all_goals with_reducible rfl
                  try simp only [Act.put, List.setIfInBounds_toArray, List.set_cons_zero, List.set_cons_succ]
                  refine wpAnyH_take (i := 6) (v := ?_) opn6 (by kernel_rfl) (by kernel_rfl) (by kernel_rfl) (fun _ _ _ h => h) (Or.inl ⟨by kernel_rfl, ?_⟩) (by assumption) ?_
                  rotate_left 1
                  · intro wz hSw
                    try dsimp only at hSw
                    have hq := hSw.2.1
                    go_simp
                    all_goals with_reducible rfl
                  try simp only [Act.put, List.setIfInBounds_toArray, List.set_cons_zero, List.set_cons_succ]
                  refine wpAnyH_take (i := 7) (v := ?_) opn7 (by kernel_rfl) (by kernel_rfl) (by kernel_rfl) (fun _ _ _ h => h) (Or.inl ⟨by kernel_rfl, ?_⟩) (by assumption) ?_
                  rotate_left 1
                  · intro wz hSw
                    try dsimp only at hSw
                    go_simp
                    all_goals with_reducible rfl
                  try simp only [Act.put, List.setIfInBounds_toArray, List.set_cons_zero, List.set_cons_succ]
                  refine wpAnyH_take (i := 8) (v := ?_) opn8 (by kernel_rfl) (by kernel_rfl) (by kernel_rfl) (fun _ _ _ h => h) (Or.inl ⟨by kernel_rfl, ?_⟩) (by assumption) ?_
                  rotate_left 1
                  · intro wz hSw
                    try dsimp only at hSw
                    go_simp
                    all_goals with_reducible rfl
                  try simp only [Act.put, List.setIfInBounds_toArray, List.set_cons_zero, List.set_cons_succ]
                  refine wpAnyH_take (i := 9) (v := ?_) opn9 (by kernel_rfl) (by kernel_rfl) (by kernel_rfl) (fun _ _ _ h => h) (Or.inl ⟨by kernel_rfl, ?_⟩) (by assumption) ?_
                  rotate_left 1
                  · intro wz hSw
                    try dsimp only at hSw
                    go_simp
                    all_goals with_reducible rfl
                  try simp only [Act.put, List.setIfInBounds_toArray, List.set_cons_zero, List.set_cons_succ]
                  refine wpAnyH_take (i := 10) (v := ?_) opn10 (by kernel_rfl) (by kernel_rfl) (by kernel_rfl) (fun _ _ _ h => h) (Or.inl ⟨by kernel_rfl, ?_⟩) (by assumption) ?_
                  rotate_left 1
                  · intro wz hSw
                    try dsimp only at hSw
                    have hq := hSw.2.2.1
                    go_simp
                    all_goals with_reducible rfl
                  try simp only [Act.put, List.setIfInBounds_toArray, List.set_cons_zero, List.set_cons_succ]
                  refine wpAnyH_take (i := 11) (v := ?_) opn11 (by kernel_rfl) (by kernel_rfl) (by kernel_rfl) (fun _ _ _ h => h) (Or.inl ⟨by kernel_rfl, ?_⟩) (by assumption) ?_
                  rotate_left 1
                  · intro wz hSw
                    try dsimp only at hSw
                    go_simp
                    all_goals with_reducible rfl
                  try simp only [Act.put, List.setIfInBounds_toArray, List.set_cons_zero, List.set_cons_succ]
                  refine wpAnyH_take (i := 14) (v := ?_) opn14 (by kernel_rfl) (by kernel_rfl) (by kernel_rfl) (fun _ _ _ h => h) (Or.inl ⟨by kernel_rfl, ?_⟩) (by assumption) ?_
                  rotate_left 1
                  · intro wz hSw
                    try dsimp only at hSw
                    go_simp
                    all_goals with_reducible rfl
                  try simp only [Act.put, List.setIfInBounds_toArray, List.set_cons_zero, List.set_cons_succ]
                  refine wpAnyH_take (i := 15) (v := ?_) opn15 (by kernel_rfl) (by kernel_rfl) (by kernel_rfl) (fun _ _ _ h => h) (Or.inl ⟨by kernel_rfl, ?_⟩) (by assumption) ?_
                  rotate_left 1
                  · intro wz hSw
                    try dsimp only at hSw
                    go_simp
                    all_goals with_reducible rfl
                  try simp only [Act.put, List.setIfInBounds_toArray, List.set_cons_zero, List.set_cons_succ]
                  refine wpAnyH_take (i := 16) (v := ?_) opn16 (by kernel_rfl) (by kernel_rfl) (by kernel_rfl) (fun _ _ _ h => h) (Or.inl ⟨by kernel_rfl, ?_⟩) (by assumption) ?_
                  rotate_left 1
                  · intro wz hSw
                    try dsimp only at hSw
                    go_simp
                    all_goals with_reducible rfl
                  try simp only [Act.put, List.setIfInBounds_toArray, List.set_cons_zero, List.set_cons_succ]
                  refine wpAnyH_take (i := 17) (v := ?_) opn17 (by kernel_rfl) (by kernel_rfl) (by kernel_rfl) (fun _ _ _ h => h) (Or.inl ⟨by kernel_rfl, ?_⟩) (by assumption) ?_
                  rotate_left 1
                  · intro wz hSw
                    try dsimp only at hSw
                    have hq := hSw.2.2.2.1
                    go_simp
                    all_goals with_reducible rfl
                  try simp only [Act.put, List.setIfInBounds_toArray, List.set_cons_zero, List.set_cons_succ]
                  refine wpAnyH_ready (rs := [12]) (by kernel_rfl) (by simp) ?_
                  refine AllReadyH.cons opn12 (fun K hK => ?_) AllReadyH.nil
                  rw [if_pos (by kernel_rfl)]
                  go_simp
                  refine (SDo_ask (unhide HSY) x hxs ((unhide HRD) x)).mono ?_
                  rintro e w20 ⟨⟨d, rfl⟩, hcS, hTX⟩
                  obtain ⟨hA21, hB21, hF21⟩ := (unhide HKY) w20 hTX
                  have HU21 := hide ((hF21 _ List.mem_cons_self).trans (unhide HUi))
                  have hcu := (unhide HCU) w20 (unhide HU21)
                  have hcg := texts_cell hA21.nm q4 x (unhide HX)
                  have hct := texts_cell hA21.tx q4 (rd x) (unhide HXM)
                  have HA21 := hide hA21
                  clear hA21 hTX hF21
                  refine hK.out _ _ ⟨hcu, hcS, hcg, hct, hHeld.2.2.2.2.trans hB21⟩ (fun hHeldN => ?_)
                  clear hHeld hK K
                  have hHeld := hHeldN
                  clear hHeldN
                  try simp only [Act.put, List.setIfInBounds_toArray, List.set_cons_zero, List.set_cons_succ]
                  refine wpAnyH_take (i := 13) (v := ?_) opn13 (by kernel_rfl) (by kernel_rfl) (by kernel_rfl) (fun _ _ _ h => h) (Or.inl ⟨by kernel_rfl, ?_⟩) (by assumption) ?_
                  rotate_left 1
                  · intro wz hSw
                    try dsimp only at hSw
                    have hq := field1 d (rd x) wz
                    go_simp
                    all_goals with_reducible rfl
                  try simp only [Act.put, List.setIfInBounds_toArray, List.set_cons_zero, List.set_cons_succ]
                  refine wpAnyH_take (i := 18) (v := ?_) opn18 (by kernel_rfl) (by kernel_rfl) (by kernel_rfl) (fun _ _ _ h => h) (Or.inl ⟨by kernel_rfl, ?_⟩) (by assumption) ?_
                  rotate_left 1
                  · intro wz hSw
                    try dsimp only at hSw
                    go_simp
                    all_goals with_reducible rfl
                  try simp only [Act.put, List.setIfInBounds_toArray, List.set_cons_zero, List.set_cons_succ]
                  refine wpAnyH_done (by kernel_rfl) ?_ _
                  have HB21 := hide hHeld.2.2.2.2
                  clear hHeld
                  go_wp2
                  go_roundw
                  case rel => exact ⟨q4 + 1, by omega, by go_num, unhide HA21, unhide HU21, unhide HB21⟩
                  case measure => simp [intOf]; omega
                · go_wp2_with fail
                  go_loopw [15] (fun i wr => ∃ (c : Nat), c ≤ 3 ∧ i = .int .i64 (c : Int) ∧ Hid (Ag w5.heap.size w8.heap.size wr S S2 L w6.heap.size rv g cn M nms (.slice ta M tc) M (nms.map rd) [w16.heap.size]) ∧ Hid (wr.heap[w16.heap.size]? = some (.cells #[.pointer (some ⟨S, 0, none⟩), .pointer (some ⟨S2, 0, none⟩)] 67 (0, 0))) ∧ Hid (Below w5.heap.size w5 wr)) (fun i _ => 3 - (intOf i).toNat)
                  case atStart => exact ⟨0, Nat.zero_le _, rfl, unhide HAi, unhide HUi, unhide HBi⟩
                  case round =>
                    obtain ⟨c, hc3, rfl, HAc, HUc, HBc⟩ := hrel
                    by_cases hltc : (c : Int) < 3
                    · have hfew : L.length ≤ 100000 := by have := (unhide HGD).few; omega
                      have hcl := CLast_any w5.heap.size w6.heap.size rv L (c : Int) wr (unhide HAc).ch hfew
                      have hlno := last_no (unhide HGD) (c : Int)
                      have hag := fun h => last_again (unhide HGD) (client := (c : Int)) h
                      have hlo := lastR_or L (c : Int)
                      have hsm : hasR L (c : Int) = true → (∃ r, r ∈ L ∧ r.client = (c : Int)) := fun h => by
                        obtain ⟨r, hr, h2⟩ := List.any_eq_true.1 h
                        exact ⟨r, hr, by simpa using h2⟩
                      obtain ⟨lr, hlr⟩ : ∃ r, lastR L (c : Int) = r := ⟨_, rfl⟩
                      obtain ⟨hr, hhr⟩ : ∃ r, hasR L (c : Int) = r := ⟨_, rfl⟩
                      have hsl := fun (NY BY : Nat) (ownY : List Nat) (lvY : Value) (W : World) (h : SRep NY W SX BY ownY lvY L) => SLast_any h (c : Int)
                      rw [hlno] at hsl
                      rw [hlr, hhr] at hcl hsl
                      rw [hlr] at hag hlo
                      rw [hhr] at hsm
                      obtain ⟨rc', rn', ⟨rk', rs1, rs2, rs3⟩, rd', ru'⟩ := lr
                      dsimp only [ARec.val] at hcl hsl hag hlo
                      have HCL := hide hcl
                      have HSLL := hide hsl
                      have HAGN := hide hag
                      have HLO := hide hlo
                      have HSM := hide hsm
                      have hzc : w5.heap.size ≤ wr.heap.size := (unhide HBc).size
                      clear hcl hlno hag hlo hsm hlr hhr hsl
                      go_wp2_with fail
                      refine (unhide HCL).mono ?_
                      rintro e w22 ⟨rfl, b22⟩
                      obtain ⟨V, hV⟩ : ∃ V, V = w22.alloc (.cells #[.int .i64 rc', .int .i64 rn', .int .i64 rk', .string rs1, .string rs2, .string rs3, .int .i64 rd', .string ru'] 47) := ⟨_, rfl⟩
                      have hbV : Below w22.heap.size w22 V := by rw [hV]; exact (Below.refl _ _).alloc (Nat.le_refl _) _
                      have hYV : V.heap[w22.heap.size]? = some (.cells #[.int .i64 rc', .int .i64 rn', .int .i64 rk', .string rs1, .string rs2, .string rs3, .int .i64 rd', .string ru'] 47 (0, 0)) := by rw [hV]; exact heap_alloc_new _ _
                      have hA22 := (unhide HAc).below b22
                      have hzV : w22.heap.size < V.heap.size := (Array.getElem?_eq_some_iff.1 hYV).1
                      have HAV := hide (hA22.add hbV hzV)
                      have hbW : Below wr.heap.size wr V := b22.trans (hbV.mono b22.size)
                      have HU22 := hide ((b22.block _ (Array.getElem?_eq_some_iff.1 (unhide HUc)).1).trans (unhide HUc))
                      have HUV := hide ((hbW.block _ (Array.getElem?_eq_some_iff.1 (unhide HUc)).1).trans (unhide HUc))
                      have HBV := hide ((unhide HBc).trans (hbW.mono hzc))
                      have HYV := hide hYV
                      have HV := hide hV
                      have HAW := hide ((unhide HAc).below hbW)
                      clear hV hbV hYV hA22 b22 hbW
                      cases hr
                      case false =>
                        have hcu := (unhide HCU) V (unhide HUV)
                        rw [unhide HV] at hcu
                        obtain ⟨NY, BY, ownY, lvY, hNY, hsY, hkY⟩ := (unhide HAV).one (unhide HSX)
                        have hsl2 := (unhide HSLL) _ _ _ _ V hsY
                        rw [if_neg (by simp)] at hsl2
                        have HSL2 := hide hsl2
                        clear hsY hkY hsl2
                        go_wp2_with fail
                        rw [← unhide HV]
                        refine (unhide HSL2).mono ?_
                        rintro e w23 ⟨rfl, rfl⟩
                        go_wp2
                        go_roundw
                        case rel => exact ⟨c + 1, by omega, by go_num, unhide HAW, unhide HUV, unhide HBV⟩
                        case measure => simp [intOf]; omega
                      case true =>
                        have hmem := (unhide HSM) rfl
                        have hag := (unhide HAGN) hmem
                        have hrec : (⟨rc', rn', ⟨rk', rs1, rs2, rs3⟩, rd', ru'⟩ : ARec) ∈ L := by
                          rcases unhide HLO with ⟨_, h1⟩ | ⟨h1, _⟩
                          · obtain ⟨r, hr, h2⟩ := hmem
                            exact absurd h2 (h1 r hr)
                          · exact h1
                        have hsz := (unhide HGD).small _ hrec
                        have HCALL := hide (fun (NY BY : Nat) (ownY : List Nat) (lvY : Value) (W : World) (h : SRep NY W SX BY ownY lvY L) (hN : NY ≤ W.heap.size) => (show Calls Try.prog 52 #[.pointer (some ⟨SX, 0, none⟩), .int .i64 (c : Int), .int .i64 rn', .agg #[.int .i64 rk', .string rs1, .string rs2, .string rs3]] W fun e w' => e = .returned (.tuple #[.agg #[.int .i64 rd', .string ru'], .int .i64 0]) ∧ STurned NY W SX ownY lvY w' L by
                          have h1 := SCall_any h (c : Int) rn' ⟨rk', rs1, rs2, rs3⟩ (by omega) hN hsz.1 hsz.2.1 hsz.2.2
                          rw [hag] at h1
                          exact h1))
                        have hzV5 : w5.heap.size ≤ V.heap.size := (unhide HBV).size
                        have HAd := hide ((unhide HAV).below (below_dr V))
                        obtain ⟨NY, BY, ownY, lvY, hNY, hsY, hkY⟩ := (unhide HAd).one (unhide HSX)
                        have HCD := hide ((unhide HCALL) _ _ _ _ _ hsY hNY)
                        have HKY := hide hkY
                        clear hsY hkY hmem hag hrec hsz
                        go_wp2_with fail
                        rw [← unhide HV]
                        refine wp_region_held_drew (S := (fun wx => wx.heap[w16.heap.size]? = some (.cells #[.pointer (some ⟨S, 0, none⟩), .pointer (some ⟨S2, 0, none⟩)] 67 (0, 0)) ∧ wx.heap[w22.heap.size]? = some (.cells #[.int .i64 rc', .int .i64 rn', .int .i64 rk', .string rs1, .string rs2, .string rs3, .int .i64 rd', .string ru'] 47 (0, 0)) ∧ Below w5.heap.size w5 wx)) (by kernel_rfl) ⟨unhide HUV, unhide HYV, (unhide HBV).trans ((below_dr V).mono hzV5)⟩ (fun hHeld => ?_)
                        refine wpAnyH_take (i := 0) (v := ?_) opn0 (by kernel_rfl) (by kernel_rfl) (by kernel_rfl) (fun _ _ _ h => h) (Or.inl ⟨by kernel_rfl, ?_⟩) (by assumption) ?_
                        rotate_left 1
                        · intro wz hSw
                          try dsimp only at hSw
                          go_simp
                          all_goals with_reducible rfl
                        try simp only [Act.put, List.setIfInBounds_toArray, List.set_cons_zero, List.set_cons_succ]
                        refine wpAnyH_take (i := 1) (v := ?_) opn1 (by kernel_rfl) (by kernel_rfl) (by kernel_rfl) (fun _ _ _ h => h) (Or.inl ⟨by kernel_rfl, ?_⟩) (by assumption) ?_
                        rotate_left 1
                        · intro wz hSw
                          try dsimp only at hSw
                          go_simp
                          all_goals with_reducible rfl
                        try simp only [Act.put, List.setIfInBounds_toArray, List.set_cons_zero, List.set_cons_succ]
                        refine wpAnyH_take (i := 2) (v := ?_) opn2 (by kernel_rfl) (by kernel_rfl) (by kernel_rfl) (fun _ _ _ h => h) (Or.inl ⟨by kernel_rfl, ?_⟩) (by assumption) ?_
                        rotate_left 1
                        · intro wz hSw
                          try dsimp only at hSw
                          go_simp
                          all_goals with_reducible rfl
                        try simp only [Act.put, List.setIfInBounds_toArray, List.set_cons_zero, List.set_cons_succ]
                        refine wpAnyH_take (i := 3) (v := ?_) opn3 (by kernel_rfl) (by kernel_rfl) (by kernel_rfl) (fun _ _ _ h => h) (Or.inl ⟨by kernel_rfl, ?_⟩) (by assumption) ?_
                        rotate_left 1
                        · intro wz hSw
                          try dsimp only at hSw
                          have hq := (unhide HCU) wz hSw.1
                          go_simp
                          all_goals with_reducible rfl
                        try simp only [Act.put, List.setIfInBounds_toArray, List.set_cons_zero, List.set_cons_succ]
                        refine wpAnyH_take (i := 4) (v := ?_) opn4 (by kernel_rfl) (by kernel_rfl) (by kernel_rfl) (fun _ _ _ h => h) (Or.inl ⟨by kernel_rfl, ?_⟩) (by assumption) ?_
                        rotate_left 1
                        · intro wz hSw
                          try dsimp only at hSw
                          go_simp
                          all_goals with_reducible rfl
                        try simp only [Act.put, List.setIfInBounds_toArray, List.set_cons_zero, List.set_cons_succ]
                        refine wpAnyH_take (i := 5) (v := ?_) opn5 (by kernel_rfl) (by kernel_rfl) (by kernel_rfl) (fun _ _ _ h => h) (Or.inl ⟨by kernel_rfl, ?_⟩) (by assumption) ?_
                        rotate_left 1
                        · intro wz hSw
                          try dsimp only at hSw
                          go_simp
                          all_goals with_reducible rfl
                        try simp only [Act.put, List.setIfInBounds_toArray, List.set_cons_zero, List.set_cons_succ]
                        refine wpAnyH_take (i := 6) (v := ?_) opn6 (by kernel_rfl) (by kernel_rfl) (by kernel_rfl) (fun _ _ _ h => h) (Or.inl ⟨by kernel_rfl, ?_⟩) (by assumption) ?_
                        rotate_left 1
                        · intro wz hSw
                          try dsimp only at hSw
                          obtain ⟨⟨x0, x1, x2, x3⟩, ⟨x4, x5, x6, x7⟩, _⟩ := eight hSw.2.1
                          go_simp
                          all_goals with_reducible rfl
                        try simp only [Act.put, List.setIfInBounds_toArray, List.set_cons_zero, List.set_cons_succ]
                        refine wpAnyH_take (i := 7) (v := ?_) opn7 (by kernel_rfl) (by kernel_rfl) (by kernel_rfl) (fun _ _ _ h => h) (Or.inl ⟨by kernel_rfl, ?_⟩) (by assumption) ?_
                        rotate_left 1
                        · intro wz hSw
                          try dsimp only at hSw
                          go_simp
                          all_goals with_reducible rfl
                        try simp only [Act.put, List.setIfInBounds_toArray, List.set_cons_zero, List.set_cons_succ]
                        refine wpAnyH_take (i := 8) (v := ?_) opn8 (by kernel_rfl) (by kernel_rfl) (by kernel_rfl) (fun _ _ _ h => h) (Or.inl ⟨by kernel_rfl, ?_⟩) (by assumption) ?_
                        rotate_left 1
                        · intro wz hSw
                          try dsimp only at hSw
                          obtain ⟨⟨x0, x1, x2, x3⟩, ⟨x4, x5, x6, x7⟩, _⟩ := eight hSw.2.1
                          go_simp
                          all_goals with_reducible rfl
                        try simp only [Act.put, List.setIfInBounds_toArray, List.set_cons_zero, List.set_cons_succ]
                        refine wpAnyH_ready (rs := [9, 13]) (by kernel_rfl) (by simp) ?_
                        refine AllReadyH.cons opn9 (fun K hK => ?_) (AllReadyH.cons opn13 (fun K hK => ?_) AllReadyH.nil)
                        · rw [if_pos (by kernel_rfl)]
                          go_simp
                          refine (unhide HCD).mono ?_
                          rintro e w24 ⟨rfl, hTX⟩
                          obtain ⟨hA24, hB24, hF24⟩ := (unhide HKY) w24 hTX
                          have HA24 := hide hA24
                          refine hK.out _ _ ⟨(hF24 _ (by simp)).trans hHeld.1, (hF24 _ (by simp)).trans hHeld.2.1, hHeld.2.2.trans hB24⟩ (fun hHeldN => ?_)
                          clear hHeld hK K
                          have hHeld := hHeldN
                          clear hHeldN
                          try simp only [Act.put, List.setIfInBounds_toArray, List.set_cons_zero, List.set_cons_succ]
                          clear hA24 hB24 hF24 hTX
                          refine wpAnyH_take (i := 10) (v := ?_) opn10 (by kernel_rfl) (by kernel_rfl) (by kernel_rfl) (fun _ _ _ h => h) (Or.inl ⟨by kernel_rfl, ?_⟩) (by assumption) ?_
                          rotate_left 1
                          · intro wz hSw
                            try dsimp only at hSw
                            go_simp
                            all_goals with_reducible rfl
                          try simp only [Act.put, List.setIfInBounds_toArray, List.set_cons_zero, List.set_cons_succ]
                          refine wpAnyH_take (i := 11) (v := ?_) opn11 (by kernel_rfl) (by kernel_rfl) (by kernel_rfl) (fun _ _ _ h => h) (Or.inl ⟨by kernel_rfl, ?_⟩) (by assumption) ?_
                          rotate_left 1
                          · intro wz hSw
                            try dsimp only at hSw
                            go_simp
                            all_goals with_reducible rfl
                          try simp only [Act.put, List.setIfInBounds_toArray, List.set_cons_zero, List.set_cons_succ]
                          refine wpAnyH_take (i := 12) (v := ?_) opn12 (by kernel_rfl) (by kernel_rfl) (by kernel_rfl) (fun _ _ _ h => h) (Or.inl ⟨by kernel_rfl, ?_⟩) (by assumption) ?_
                          rotate_left 1
                          · intro wz hSw
                            try dsimp only at hSw
                            go_simp
                            all_goals with_reducible rfl
                          try simp only [Act.put, List.setIfInBounds_toArray, List.set_cons_zero, List.set_cons_succ]
                          refine wpAnyH_ready (rs := [13]) (by kernel_rfl) (by simp) ?_
                          refine AllReadyH.cons opn13 (fun K hK => ?_) AllReadyH.nil
                          rw [if_pos (by kernel_rfl)]
                          go_simp
                          have hba : Below w24.heap.size w24 (w24.alloc (.cells #[.int .i64 0, .string ⟨#[]⟩] 34)) := (Below.refl _ _).alloc (Nat.le_refl _) _
                          refine hK.out _ _ ⟨(hba.block _ (Array.getElem?_eq_some_iff.1 hHeld.1).1).trans hHeld.1, (hba.block _ (Array.getElem?_eq_some_iff.1 hHeld.2.1).1).trans hHeld.2.1, hHeld.2.2.trans (hba.mono hHeld.2.2.size)⟩ (fun hHeldN => ?_)
                          clear hHeld hK K
                          have hHeld := hHeldN
                          clear hHeldN
                          try simp only [Act.put, List.setIfInBounds_toArray, List.set_cons_zero, List.set_cons_succ]
                          have HA25 := hide ((unhide HA24).add hba (by simp))
                          have hz24 : w5.heap.size ≤ w24.heap.size := Nat.le_trans (unhide HA24).nN (unhide HA24).nW
                          have HZ : Hid ((w24.alloc (.cells #[.int .i64 0, .string ⟨#[]⟩] 34)).heap[w24.heap.size]? = some (.cells #[.int .i64 0, .string ⟨#[]⟩] 34 (0, 0))) := heap_alloc_new _ _
                          generalize w24.alloc (.cells #[.int .i64 0, .string ⟨#[]⟩] 34) = W at hHeld HA25 HZ ⊢
                          clear hba
                          obtain ⟨⟨z0, z1⟩, zf⟩ := two (unhide HZ)
                          have zf0 := zf 0
                          have zf1 := zf 1
                          refine wpAnyH_ready (rs := [14]) (by kernel_rfl) (by simp) ?_
                          refine AllReadyH.cons opn14 (fun K hK => ?_) AllReadyH.nil
                          rw [if_pos (by kernel_rfl)]
                          go_simp
                          clear z0 z1 zf zf0 zf1
                          obtain ⟨hZ2, hK2⟩ := set_two (unhide HZ) (.int .i64 rd') (.string ru')
                          have hA26 := (unhide HA25).set hK2 (unhide HA24).lt
                          have hbe := hK2.below hHeld.2.2.size (fun k h1 => (show w5.heap.size ≤ k by simp at h1; subst h1; have h2 := hHeld.2.2.size; exact hz24))
                          have hlu : w16.heap.size < w24.heap.size := (unhide HA24).lt _ (by simp)
                          have hly : w22.heap.size < w24.heap.size := (unhide HA24).lt _ (by simp)
                          have hU26 := (hK2.block w16.heap.size (Array.getElem?_eq_some_iff.1 hHeld.1).1 (by simp; omega)).trans hHeld.1
                          have hY26 := (hK2.block w22.heap.size (Array.getElem?_eq_some_iff.1 hHeld.2.1).1 (by simp; omega)).trans hHeld.2.1
                          have HA26 := hide hA26
                          have HZ26 := hide hZ2
                          refine hK.out _ _ ⟨hU26, hY26, hHeld.2.2.trans hbe⟩ (fun hHeldN => ?_)
                          clear hHeld hK K
                          have hHeld := hHeldN
                          clear hHeldN
                          try simp only [Act.put, List.setIfInBounds_toArray, List.set_cons_zero, List.set_cons_succ]
                          clear hA26 hZ2 hK2 hbe hU26 hY26
                          generalize (W.setCell ⟨w24.heap.size, 0, none⟩ (.int .i64 rd')).setCell ⟨w24.heap.size, 1, none⟩ (.string ru') = W2 at hHeld HA26 HZ26 ⊢
                          refine wpAnyH_take (i := 15) (v := ?_) opn15 (by kernel_rfl) (by kernel_rfl) (by kernel_rfl) (fun _ _ _ h => h) (Or.inl ⟨by kernel_rfl, ?_⟩) (by assumption) ?_
                          rotate_left 1
                          · intro wz hSw
                            try dsimp only at hSw
                            go_simp
                            all_goals with_reducible rfl
                          try simp only [Act.put, List.setIfInBounds_toArray, List.set_cons_zero, List.set_cons_succ]
                          refine wpAnyH_done (by kernel_rfl) ?_ _
                          have HH26 := hide hHeld
                          clear hHeld
                          have HA27 := hide ((unhide HA26).below (below_dr W2))
                          obtain ⟨NQ, BQ, ownQ, lvQ, hNQ, hsQ, hkQ⟩ := (unhide HA27).one (unhide HSX)
                          have hsl2 := (unhide HSLL) _ _ _ _ _ hsQ
                          rw [if_pos (by simp)] at hsl2
                          have HSL2 := hide hsl2
                          have hnrn : (rn' != rn') = false := by simp
                          clear hsQ hkQ hsl2
                          go_wp2_with fail
                          refine wp_region_held_drew (S := (fun wx => wx.heap[w16.heap.size]? = some (.cells #[.pointer (some ⟨S, 0, none⟩), .pointer (some ⟨S2, 0, none⟩)] 67 (0, 0)) ∧ wx.heap[w22.heap.size]? = some (.cells #[.int .i64 rc', .int .i64 rn', .int .i64 rk', .string rs1, .string rs2, .string rs3, .int .i64 rd', .string ru'] 47 (0, 0)) ∧ wx.heap[w24.heap.size]? = some (.cells #[.int .i64 rd', .string ru'] 34 (0, 0)) ∧ Below w5.heap.size w5 wx)) (by kernel_rfl) ⟨(unhide HH26).1, (unhide HH26).2.1, unhide HZ26, (unhide HH26).2.2.trans ((below_dr W2).mono (unhide HH26).2.2.size)⟩ (fun hHeld => ?_)
                          refine wpAnyH_take (i := 0) (v := ?_) opn0 (by kernel_rfl) (by kernel_rfl) (by kernel_rfl) (fun _ _ _ h => h) (Or.inl ⟨by kernel_rfl, ?_⟩) (by assumption) ?_
                          rotate_left 1
                          · intro wz hSw
                            try dsimp only at hSw
                            go_simp
                            all_goals with_reducible rfl
                          try simp only [Act.put, List.setIfInBounds_toArray, List.set_cons_zero, List.set_cons_succ]
                          refine wpAnyH_take (i := 1) (v := ?_) opn1 (by kernel_rfl) (by kernel_rfl) (by kernel_rfl) (fun _ _ _ h => h) (Or.inl ⟨by kernel_rfl, ?_⟩) (by assumption) ?_
                          rotate_left 1
                          · intro wz hSw
                            try dsimp only at hSw
                            go_simp
                            all_goals with_reducible rfl
                          try simp only [Act.put, List.setIfInBounds_toArray, List.set_cons_zero, List.set_cons_succ]
                          refine wpAnyH_take (i := 2) (v := ?_) opn2 (by kernel_rfl) (by kernel_rfl) (by kernel_rfl) (fun _ _ _ h => h) (Or.inl ⟨by kernel_rfl, ?_⟩) (by assumption) ?_
                          rotate_left 1
                          · intro wz hSw
                            try dsimp only at hSw
                            go_simp
                            all_goals with_reducible rfl
                          try simp only [Act.put, List.setIfInBounds_toArray, List.set_cons_zero, List.set_cons_succ]
                          refine wpAnyH_take (i := 3) (v := ?_) opn3 (by kernel_rfl) (by kernel_rfl) (by kernel_rfl) (fun _ _ _ h => h) (Or.inl ⟨by kernel_rfl, ?_⟩) (by assumption) ?_
                          rotate_left 1
                          · intro wz hSw
                            try dsimp only at hSw
                            obtain ⟨⟨z0, z1⟩, _⟩ := two hSw.2.2.1
                            go_simp
                            all_goals with_reducible rfl
                          try simp only [Act.put, List.setIfInBounds_toArray, List.set_cons_zero, List.set_cons_succ]
                          refine wpAnyH_take (i := 4) (v := ?_) opn4 (by kernel_rfl) (by kernel_rfl) (by kernel_rfl) (fun _ _ _ h => h) (Or.inl ⟨by kernel_rfl, ?_⟩) (by assumption) ?_
                          rotate_left 1
                          · intro wz hSw
                            try dsimp only at hSw
                            go_simp
                            all_goals with_reducible rfl
                          try simp only [Act.put, List.setIfInBounds_toArray, List.set_cons_zero, List.set_cons_succ]
                          refine wpAnyH_take (i := 5) (v := ?_) opn5 (by kernel_rfl) (by kernel_rfl) (by kernel_rfl) (fun _ _ _ h => h) (Or.inl ⟨by kernel_rfl, ?_⟩) (by assumption) ?_
                          rotate_left 1
                          · intro wz hSw
                            try dsimp only at hSw
                            obtain ⟨⟨x0, x1, x2, x3⟩, ⟨x4, x5, x6, x7⟩, _⟩ := eight hSw.2.1
                            go_simp
                            all_goals with_reducible rfl
                          try simp only [Act.put, List.setIfInBounds_toArray, List.set_cons_zero, List.set_cons_succ]
                          refine wpAnyH_take (i := 6) (v := .bool false) opn6 (by kernel_rfl) (by kernel_rfl) (by kernel_rfl) (fun _ _ _ h => h) (Or.inl ⟨by kernel_rfl, ?_⟩) (by assumption) ?_
                          · intro wz hSw
                            exact yields_neq34 rfl (by simp [Act.eval]) (by simp [Act.eval]) (neq34s rd' ru' wz) (guard34 _ _ _ _ wz)
                          try simp only [Act.put, List.setIfInBounds_toArray, List.set_cons_zero, List.set_cons_succ]
                          refine wpAnyH_take (i := 7) (v := ?_) opn7 (by kernel_rfl) (by kernel_rfl) (by kernel_rfl) (fun _ _ _ h => h) (Or.inl ⟨by kernel_rfl, ?_⟩) (by assumption) ?_
                          rotate_left 1
                          · intro wz hSw
                            try dsimp only at hSw
                            go_simp
                            all_goals with_reducible rfl
                          try simp only [Act.put, List.setIfInBounds_toArray, List.set_cons_zero, List.set_cons_succ]
                          refine wpAnyH_take (i := 8) (v := ?_) opn8 (by kernel_rfl) (by kernel_rfl) (by kernel_rfl) (fun _ _ _ h => h) (Or.inl ⟨by kernel_rfl, ?_⟩) (by assumption) ?_
                          rotate_left 1
                          · intro wz hSw
                            try dsimp only at hSw
                            go_simp
                            all_goals with_reducible rfl
                          try simp only [Act.put, List.setIfInBounds_toArray, List.set_cons_zero, List.set_cons_succ]
                          refine wpAnyH_take (i := 9) (v := ?_) opn9 (by kernel_rfl) (by kernel_rfl) (by kernel_rfl) (fun _ _ _ h => h) (Or.inl ⟨by kernel_rfl, ?_⟩) (by assumption) ?_
                          rotate_left 1
                          · intro wz hSw
                            try dsimp only at hSw
                            go_simp
                            all_goals with_reducible rfl
                          try simp only [Act.put, List.setIfInBounds_toArray, List.set_cons_zero, List.set_cons_succ]
                          refine wpAnyH_take (i := 10) (v := ?_) opn10 (by kernel_rfl) (by kernel_rfl) (by kernel_rfl) (fun _ _ _ h => h) (Or.inl ⟨by kernel_rfl, ?_⟩) (by assumption) ?_
                          rotate_left 1
                          · intro wz hSw
                            try dsimp only at hSw
                            go_simp
                            all_goals with_reducible rfl
                          try simp only [Act.put, List.setIfInBounds_toArray, List.set_cons_zero, List.set_cons_succ]
                          refine wpAnyH_take (i := 11) (v := ?_) opn11 (by kernel_rfl) (by kernel_rfl) (by kernel_rfl) (fun _ _ _ h => h) (Or.inl ⟨by kernel_rfl, ?_⟩) (by assumption) ?_
                          rotate_left 1
                          · intro wz hSw
                            try dsimp only at hSw
                            go_simp
                            all_goals with_reducible rfl
                          try simp only [Act.put, List.setIfInBounds_toArray, List.set_cons_zero, List.set_cons_succ]
                          refine wpAnyH_take (i := 12) (v := ?_) opn12 (by kernel_rfl) (by kernel_rfl) (by kernel_rfl) (fun _ _ _ h => h) (Or.inl ⟨by kernel_rfl, ?_⟩) (by assumption) ?_
                          rotate_left 1
                          · intro wz hSw
                            try dsimp only at hSw
                            have hq := (unhide HCU) wz hSw.1
                            go_simp
                            all_goals with_reducible rfl
                          try simp only [Act.put, List.setIfInBounds_toArray, List.set_cons_zero, List.set_cons_succ]
                          refine wpAnyH_take (i := 13) (v := ?_) opn13 (by kernel_rfl) (by kernel_rfl) (by kernel_rfl) (fun _ _ _ h => h) (Or.inl ⟨by kernel_rfl, ?_⟩) (by assumption) ?_
                          rotate_left 1
                          · intro wz hSw
                            try dsimp only at hSw
                            go_simp
                            all_goals with_reducible rfl
                          try simp only [Act.put, List.setIfInBounds_toArray, List.set_cons_zero, List.set_cons_succ]
                          refine wpAnyH_take (i := 15) (v := ?_) opn15 (by kernel_rfl) (by kernel_rfl) (by kernel_rfl) (fun _ _ _ h => h) (Or.inl ⟨by kernel_rfl, ?_⟩) (by assumption) ?_
                          rotate_left 1
                          · intro wz hSw
                            try dsimp only at hSw
                            go_simp
                            all_goals with_reducible rfl
                          try simp only [Act.put, List.setIfInBounds_toArray, List.set_cons_zero, List.set_cons_succ]
                          refine wpAnyH_take (i := 16) (v := ?_) opn16 (by kernel_rfl) (by kernel_rfl) (by kernel_rfl) (fun _ _ _ h => h) (Or.inl ⟨by kernel_rfl, ?_⟩) (by assumption) ?_
                          rotate_left 1
                          · intro wz hSw
                            try dsimp only at hSw
                            obtain ⟨⟨x0, x1, x2, x3⟩, ⟨x4, x5, x6, x7⟩, _⟩ := eight hSw.2.1
                            go_simp
                            all_goals with_reducible rfl
                          try simp only [Act.put, List.setIfInBounds_toArray, List.set_cons_zero, List.set_cons_succ]
                          refine wpAnyH_ready (rs := [14]) (by kernel_rfl) (by simp) ?_
                          refine AllReadyH.cons opn14 (fun K hK => ?_) AllReadyH.nil
                          rw [if_pos (by kernel_rfl)]
                          go_simp
                          refine (unhide HSL2).mono ?_
                          rintro e w25 ⟨rfl, rfl⟩
                          refine hK.out _ _ hHeld (fun hHeldN => ?_)
                          clear hHeld hK K
                          have hHeld := hHeldN
                          clear hHeldN
                          try simp only [Act.put, List.setIfInBounds_toArray, List.set_cons_zero, List.set_cons_succ]
                          refine wpAnyH_take (i := 17) (v := ?_) opn17 (by kernel_rfl) (by kernel_rfl) (by kernel_rfl) (fun _ _ _ h => h) (Or.inl ⟨by kernel_rfl, ?_⟩) (by assumption) ?_
                          rotate_left 1
                          · intro wz hSw
                            try dsimp only at hSw
                            go_simp
                            all_goals with_reducible rfl
                          try simp only [Act.put, List.setIfInBounds_toArray, List.set_cons_zero, List.set_cons_succ]
                          refine wpAnyH_take (i := 18) (v := ?_) opn18 (by kernel_rfl) (by kernel_rfl) (by kernel_rfl) (fun _ _ _ h => h) (Or.inl ⟨by kernel_rfl, ?_⟩) (by assumption) ?_
                          rotate_left 1
                          · intro wz hSw
                            try dsimp only at hSw
                            go_simp
                            all_goals with_reducible rfl
                          try simp only [Act.put, List.setIfInBounds_toArray, List.set_cons_zero, List.set_cons_succ]
                          refine wpAnyH_done (by kernel_rfl) ?_ _
                          have HA28 := hide (unhide HA27).drop
                          have HU28 := hide hHeld.1
                          have HB28 := hide hHeld.2.2.2
                          clear hHeld
                          go_wp2
                          go_roundw
                          case rel => exact ⟨c + 1, by omega, by go_num, unhide HA28, unhide HU28, unhide HB28⟩
                          case measure => simp [intOf]; omega
                        · rw [if_pos (by kernel_rfl)]
                          go_simp
                          have hba : Below V.heap.size V (V.alloc (.cells #[.int .i64 0, .string ⟨#[]⟩] 34)).drew := ((Below.refl _ _).alloc (Nat.le_refl _) _).drew
                          have HAd := hide ((unhide HAV).add hba (by simp))
                          have HZ : Hid ((V.alloc (.cells #[.int .i64 0, .string ⟨#[]⟩] 34)).drew.heap[V.heap.size]? = some (.cells #[.int .i64 0, .string ⟨#[]⟩] 34 (0, 0))) := heap_alloc_new V _
                          refine hK.out _ _ ⟨(hba.block _ (Array.getElem?_eq_some_iff.1 (unhide HUV)).1).trans (unhide HUV), (hba.block _ (Array.getElem?_eq_some_iff.1 (unhide HYV)).1).trans (unhide HYV), (unhide HBV).trans (hba.mono hzV5)⟩ (fun hHeldN => ?_)
                          clear hHeld hK K
                          have hHeld := hHeldN
                          clear hHeldN
                          try simp only [Act.put, List.setIfInBounds_toArray, List.set_cons_zero, List.set_cons_succ]
                          generalize (V.alloc (.cells #[.int .i64 0, .string ⟨#[]⟩] 34)).drew = W at hHeld HAd HZ ⊢
                          clear hba HCD HKY
                          obtain ⟨NZ, BZ, ownZ, lvZ, hNZ, hsZ, hkZ⟩ := (unhide HAd).one (unhide HSX)
                          have HCD := hide ((unhide HCALL) _ _ _ _ _ hsZ hNZ)
                          have HKY := hide hkZ
                          clear hsZ hkZ
                          refine wpAnyH_ready (rs := [9]) (by kernel_rfl) (by simp) ?_
                          refine AllReadyH.cons opn9 (fun K hK => ?_) AllReadyH.nil
                          rw [if_pos (by kernel_rfl)]
                          go_simp
                          refine (unhide HCD).mono ?_
                          rintro e w24 ⟨rfl, hTX⟩
                          obtain ⟨hA24, hB24, hF24⟩ := (unhide HKY) w24 hTX
                          have HA24 := hide hA24
                          have HZ24 := hide ((hF24 _ List.mem_cons_self).trans (unhide HZ))
                          refine hK.out _ _ ⟨(hF24 _ (by simp)).trans hHeld.1, (hF24 _ (by simp)).trans hHeld.2.1, hHeld.2.2.trans hB24⟩ (fun hHeldN => ?_)
                          clear hHeld hK K
                          have hHeld := hHeldN
                          clear hHeldN
                          try simp only [Act.put, List.setIfInBounds_toArray, List.set_cons_zero, List.set_cons_succ]
                          clear hA24 hB24 hF24 hTX HZ
                          have HZ := HZ24
                          clear HZ24
                          have HA25 := HA24
                          clear HA24
                          refine wpAnyH_take (i := 10) (v := ?_) opn10 (by kernel_rfl) (by kernel_rfl) (by kernel_rfl) (fun _ _ _ h => h) (Or.inl ⟨by kernel_rfl, ?_⟩) (by assumption) ?_
                          rotate_left 1
                          · intro wz hSw
                            try dsimp only at hSw
                            go_simp
                            all_goals with_reducible rfl
                          try simp only [Act.put, List.setIfInBounds_toArray, List.set_cons_zero, List.set_cons_succ]
                          refine wpAnyH_take (i := 11) (v := ?_) opn11 (by kernel_rfl) (by kernel_rfl) (by kernel_rfl) (fun _ _ _ h => h) (Or.inl ⟨by kernel_rfl, ?_⟩) (by assumption) ?_
                          rotate_left 1
                          · intro wz hSw
                            try dsimp only at hSw
                            go_simp
                            all_goals with_reducible rfl
                          try simp only [Act.put, List.setIfInBounds_toArray, List.set_cons_zero, List.set_cons_succ]
                          refine wpAnyH_take (i := 12) (v := ?_) opn12 (by kernel_rfl) (by kernel_rfl) (by kernel_rfl) (fun _ _ _ h => h) (Or.inl ⟨by kernel_rfl, ?_⟩) (by assumption) ?_
                          rotate_left 1
                          · intro wz hSw
                            try dsimp only at hSw
                            go_simp
                            all_goals with_reducible rfl
                          try simp only [Act.put, List.setIfInBounds_toArray, List.set_cons_zero, List.set_cons_succ]
                          obtain ⟨⟨z0, z1⟩, zf⟩ := two (unhide HZ)
                          have zf0 := zf 0
                          have zf1 := zf 1
                          refine wpAnyH_ready (rs := [14]) (by kernel_rfl) (by simp) ?_
                          refine AllReadyH.cons opn14 (fun K hK => ?_) AllReadyH.nil
                          rw [if_pos (by kernel_rfl)]
                          go_simp
                          clear z0 z1 zf zf0 zf1
                          obtain ⟨hZ2, hK2⟩ := set_two (unhide HZ) (.int .i64 rd') (.string ru')
                          have hA26 := (unhide HA25).set hK2 (unhide HAV).lt
                          have hbe := hK2.below hHeld.2.2.size (fun k h1 => (show w5.heap.size ≤ k by simp at h1; subst h1; have h2 := hHeld.2.2.size; exact hzV5))
                          have hlu : w16.heap.size < V.heap.size := (unhide HAV).lt _ (by simp)
                          have hly : w22.heap.size < V.heap.size := (unhide HAV).lt _ (by simp)
                          have hU26 := (hK2.block w16.heap.size (Array.getElem?_eq_some_iff.1 hHeld.1).1 (by simp; omega)).trans hHeld.1
                          have hY26 := (hK2.block w22.heap.size (Array.getElem?_eq_some_iff.1 hHeld.2.1).1 (by simp; omega)).trans hHeld.2.1
                          have HA26 := hide hA26
                          have HZ26 := hide hZ2
                          refine hK.out _ _ ⟨hU26, hY26, hHeld.2.2.trans hbe⟩ (fun hHeldN => ?_)
                          clear hHeld hK K
                          have hHeld := hHeldN
                          clear hHeldN
                          try simp only [Act.put, List.setIfInBounds_toArray, List.set_cons_zero, List.set_cons_succ]
                          clear hA26 hZ2 hK2 hbe hU26 hY26
                          generalize (w24.setCell ⟨V.heap.size, 0, none⟩ (.int .i64 rd')).setCell ⟨V.heap.size, 1, none⟩ (.string ru') = W2 at hHeld HA26 HZ26 ⊢
                          refine wpAnyH_take (i := 15) (v := ?_) opn15 (by kernel_rfl) (by kernel_rfl) (by kernel_rfl) (fun _ _ _ h => h) (Or.inl ⟨by kernel_rfl, ?_⟩) (by assumption) ?_
                          rotate_left 1
                          · intro wz hSw
                            try dsimp only at hSw
                            go_simp
                            all_goals with_reducible rfl
                          try simp only [Act.put, List.setIfInBounds_toArray, List.set_cons_zero, List.set_cons_succ]
                          refine wpAnyH_done (by kernel_rfl) ?_ _
                          have HH26 := hide hHeld
                          clear hHeld
                          have HA27 := hide ((unhide HA26).below (below_dr W2))
                          obtain ⟨NQ, BQ, ownQ, lvQ, hNQ, hsQ, hkQ⟩ := (unhide HA27).one (unhide HSX)
                          have hsl2 := (unhide HSLL) _ _ _ _ _ hsQ
                          rw [if_pos (by simp)] at hsl2
                          have HSL2 := hide hsl2
                          have hnrn : (rn' != rn') = false := by simp
                          clear hsQ hkQ hsl2
                          go_wp2_with fail
                          refine wp_region_held_drew (S := (fun wx => wx.heap[w16.heap.size]? = some (.cells #[.pointer (some ⟨S, 0, none⟩), .pointer (some ⟨S2, 0, none⟩)] 67 (0, 0)) ∧ wx.heap[w22.heap.size]? = some (.cells #[.int .i64 rc', .int .i64 rn', .int .i64 rk', .string rs1, .string rs2, .string rs3, .int .i64 rd', .string ru'] 47 (0, 0)) ∧ wx.heap[V.heap.size]? = some (.cells #[.int .i64 rd', .string ru'] 34 (0, 0)) ∧ Below w5.heap.size w5 wx)) (by kernel_rfl) ⟨(unhide HH26).1, (unhide HH26).2.1, unhide HZ26, (unhide HH26).2.2.trans ((below_dr W2).mono (unhide HH26).2.2.size)⟩ (fun hHeld => ?_)
                          refine wpAnyH_take (i := 0) (v := ?_) opn0 (by kernel_rfl) (by kernel_rfl) (by kernel_rfl) (fun _ _ _ h => h) (Or.inl ⟨by kernel_rfl, ?_⟩) (by assumption) ?_
                          rotate_left 1
                          · intro wz hSw
                            try dsimp only at hSw
                            go_simp
                            all_goals with_reducible rfl
                          try simp only [Act.put, List.setIfInBounds_toArray, List.set_cons_zero, List.set_cons_succ]
                          refine wpAnyH_take (i := 1) (v := ?_) opn1 (by kernel_rfl) (by kernel_rfl) (by kernel_rfl) (fun _ _ _ h => h) (Or.inl ⟨by kernel_rfl, ?_⟩) (by assumption) ?_
                          rotate_left 1
                          · intro wz hSw
                            try dsimp only at hSw
                            go_simp
                            all_goals with_reducible rfl
                          try simp only [Act.put, List.setIfInBounds_toArray, List.set_cons_zero, List.set_cons_succ]
                          refine wpAnyH_take (i := 2) (v := ?_) opn2 (by kernel_rfl) (by kernel_rfl) (by kernel_rfl) (fun _ _ _ h => h) (Or.inl ⟨by kernel_rfl, ?_⟩) (by assumption) ?_
                          rotate_left 1
                          · intro wz hSw
                            try dsimp only at hSw
                            go_simp
                            all_goals with_reducible rfl
                          try simp only [Act.put, List.setIfInBounds_toArray, List.set_cons_zero, List.set_cons_succ]
                          refine wpAnyH_take (i := 3) (v := ?_) opn3 (by kernel_rfl) (by kernel_rfl) (by kernel_rfl) (fun _ _ _ h => h) (Or.inl ⟨by kernel_rfl, ?_⟩) (by assumption) ?_
                          rotate_left 1
                          · intro wz hSw
                            try dsimp only at hSw
                            obtain ⟨⟨z0, z1⟩, _⟩ := two hSw.2.2.1
                            go_simp
                            all_goals with_reducible rfl
                          try simp only [Act.put, List.setIfInBounds_toArray, List.set_cons_zero, List.set_cons_succ]
                          refine wpAnyH_take (i := 4) (v := ?_) opn4 (by kernel_rfl) (by kernel_rfl) (by kernel_rfl) (fun _ _ _ h => h) (Or.inl ⟨by kernel_rfl, ?_⟩) (by assumption) ?_
                          rotate_left 1
                          · intro wz hSw
                            try dsimp only at hSw
                            go_simp
                            all_goals with_reducible rfl
                          try simp only [Act.put, List.setIfInBounds_toArray, List.set_cons_zero, List.set_cons_succ]
                          refine wpAnyH_take (i := 5) (v := ?_) opn5 (by kernel_rfl) (by kernel_rfl) (by kernel_rfl) (fun _ _ _ h => h) (Or.inl ⟨by kernel_rfl, ?_⟩) (by assumption) ?_
                          rotate_left 1
                          · intro wz hSw
                            try dsimp only at hSw
                            obtain ⟨⟨x0, x1, x2, x3⟩, ⟨x4, x5, x6, x7⟩, _⟩ := eight hSw.2.1
                            go_simp
                            all_goals with_reducible rfl
                          try simp only [Act.put, List.setIfInBounds_toArray, List.set_cons_zero, List.set_cons_succ]
                          refine wpAnyH_take (i := 6) (v := .bool false) opn6 (by kernel_rfl) (by kernel_rfl) (by kernel_rfl) (fun _ _ _ h => h) (Or.inl ⟨by kernel_rfl, ?_⟩) (by assumption) ?_
                          · intro wz hSw
                            exact yields_neq34 rfl (by simp [Act.eval]) (by simp [Act.eval]) (neq34s rd' ru' wz) (guard34 _ _ _ _ wz)
                          try simp only [Act.put, List.setIfInBounds_toArray, List.set_cons_zero, List.set_cons_succ]
                          refine wpAnyH_take (i := 7) (v := ?_) opn7 (by kernel_rfl) (by kernel_rfl) (by kernel_rfl) (fun _ _ _ h => h) (Or.inl ⟨by kernel_rfl, ?_⟩) (by assumption) ?_
                          rotate_left 1
                          · intro wz hSw
                            try dsimp only at hSw
                            go_simp
                            all_goals with_reducible rfl
                          try simp only [Act.put, List.setIfInBounds_toArray, List.set_cons_zero, List.set_cons_succ]
                          refine wpAnyH_take (i := 8) (v := ?_) opn8 (by kernel_rfl) (by kernel_rfl) (by kernel_rfl) (fun _ _ _ h => h) (Or.inl ⟨by kernel_rfl, ?_⟩) (by assumption) ?_
                          rotate_left 1
                          · intro wz hSw
                            try dsimp only at hSw
                            go_simp
                            all_goals with_reducible rfl
                          try simp only [Act.put, List.setIfInBounds_toArray, List.set_cons_zero, List.set_cons_succ]
                          refine wpAnyH_take (i := 9) (v := ?_) opn9 (by kernel_rfl) (by kernel_rfl) (by kernel_rfl) (fun _ _ _ h => h) (Or.inl ⟨by kernel_rfl, ?_⟩) (by assumption) ?_
                          rotate_left 1
                          · intro wz hSw
                            try dsimp only at hSw
                            go_simp
                            all_goals with_reducible rfl
                          try simp only [Act.put, List.setIfInBounds_toArray, List.set_cons_zero, List.set_cons_succ]
                          refine wpAnyH_take (i := 10) (v := ?_) opn10 (by kernel_rfl) (by kernel_rfl) (by kernel_rfl) (fun _ _ _ h => h) (Or.inl ⟨by kernel_rfl, ?_⟩) (by assumption) ?_
                          rotate_left 1
                          · intro wz hSw
                            try dsimp only at hSw
                            go_simp
                            all_goals with_reducible rfl
                          try simp only [Act.put, List.setIfInBounds_toArray, List.set_cons_zero, List.set_cons_succ]
                          refine wpAnyH_take (i := 11) (v := ?_) opn11 (by kernel_rfl) (by kernel_rfl) (by kernel_rfl) (fun _ _ _ h => h) (Or.inl ⟨by kernel_rfl, ?_⟩) (by assumption) ?_
                          rotate_left 1
                          · intro wz hSw
                            try dsimp only at hSw
                            go_simp
                            all_goals with_reducible rfl
                          try simp only [Act.put, List.setIfInBounds_toArray, List.set_cons_zero, List.set_cons_succ]
                          refine wpAnyH_take (i := 12) (v := ?_) opn12 (by kernel_rfl) (by kernel_rfl) (by kernel_rfl) (fun _ _ _ h => h) (Or.inl ⟨by kernel_rfl, ?_⟩) (by assumption) ?_
                          rotate_left 1
                          · intro wz hSw
                            try dsimp only at hSw
                            have hq := (unhide HCU) wz hSw.1
                            go_simp
                            all_goals with_reducible rfl
                          try simp only [Act.put, List.setIfInBounds_toArray, List.set_cons_zero, List.set_cons_succ]
                          refine wpAnyH_take (i := 13) (v := ?_) opn13 (by kernel_rfl) (by kernel_rfl) (by kernel_rfl) (fun _ _ _ h => h) (Or.inl ⟨by kernel_rfl, ?_⟩) (by assumption) ?_
                          rotate_left 1
                          · intro wz hSw
                            try dsimp only at hSw
                            go_simp
                            all_goals with_reducible rfl
                          try simp only [Act.put, List.setIfInBounds_toArray, List.set_cons_zero, List.set_cons_succ]
                          refine wpAnyH_take (i := 15) (v := ?_) opn15 (by kernel_rfl) (by kernel_rfl) (by kernel_rfl) (fun _ _ _ h => h) (Or.inl ⟨by kernel_rfl, ?_⟩) (by assumption) ?_
                          rotate_left 1
                          · intro wz hSw
                            try dsimp only at hSw
                            go_simp
                            all_goals with_reducible rfl
                          try simp only [Act.put, List.setIfInBounds_toArray, List.set_cons_zero, List.set_cons_succ]
                          refine wpAnyH_take (i := 16) (v := ?_) opn16 (by kernel_rfl) (by kernel_rfl) (by kernel_rfl) (fun _ _ _ h => h) (Or.inl ⟨by kernel_rfl, ?_⟩) (by assumption) ?_
                          rotate_left 1
                          · intro wz hSw
                            try dsimp only at hSw
                            obtain ⟨⟨x0, x1, x2, x3⟩, ⟨x4, x5, x6, x7⟩, _⟩ := eight hSw.2.1
                            go_simp
                            all_goals with_reducible rfl
                          try simp only [Act.put, List.setIfInBounds_toArray, List.set_cons_zero, List.set_cons_succ]
                          refine wpAnyH_ready (rs := [14]) (by kernel_rfl) (by simp) ?_
                          refine AllReadyH.cons opn14 (fun K hK => ?_) AllReadyH.nil
                          rw [if_pos (by kernel_rfl)]
                          go_simp
                          refine (unhide HSL2).mono ?_
                          rintro e w25 ⟨rfl, rfl⟩
                          refine hK.out _ _ hHeld (fun hHeldN => ?_)
                          clear hHeld hK K
                          have hHeld := hHeldN
                          clear hHeldN
                          try simp only [Act.put, List.setIfInBounds_toArray, List.set_cons_zero, List.set_cons_succ]
                          refine wpAnyH_take (i := 17) (v := ?_) opn17 (by kernel_rfl) (by kernel_rfl) (by kernel_rfl) (fun _ _ _ h => h) (Or.inl ⟨by kernel_rfl, ?_⟩) (by assumption) ?_
                          rotate_left 1
                          · intro wz hSw
                            try dsimp only at hSw
                            go_simp
                            all_goals with_reducible rfl
                          try simp only [Act.put, List.setIfInBounds_toArray, List.set_cons_zero, List.set_cons_succ]
                          refine wpAnyH_take (i := 18) (v := ?_) opn18 (by kernel_rfl) (by kernel_rfl) (by kernel_rfl) (fun _ _ _ h => h) (Or.inl ⟨by kernel_rfl, ?_⟩) (by assumption) ?_
                          rotate_left 1
                          · intro wz hSw
                            try dsimp only at hSw
                            go_simp
                            all_goals with_reducible rfl
                          try simp only [Act.put, List.setIfInBounds_toArray, List.set_cons_zero, List.set_cons_succ]
                          refine wpAnyH_done (by kernel_rfl) ?_ _
                          have HA28 := hide (unhide HA27).drop
                          have HU28 := hide hHeld.1
                          have HB28 := hide hHeld.2.2.2
                          clear hHeld
                          go_wp2
                          go_roundw
                          case rel => exact ⟨c + 1, by omega, by go_num, unhide HA28, unhide HU28, unhide HB28⟩
                          case measure => simp [intOf]; omega
                    · go_wp2
                      go_roundw
                      case rel => exact ⟨k + 1, by omega, by go_num, unhide HAc, unhide HUc, unhide HBc⟩
                      case measure => simp [intOf]; omega
            · have HBF := hide ((unhide HB4).trans ((unhide HBk).mono (unhide HB4).size))
              go_wp2
              go_ret
              exact ⟨rfl, unhide HBF⟩

end Go.Proofs.Ytlndphpidkacgaa

namespace Go.Proofs.Ytlndphpidkacgaa
open Go.ChangeShapes Go.WideShapes Go.ChangeAt Go.RowKit Go.Deep Go.Joins
set_option linter.unusedSimpArgs false
set_option linter.unusedVariables false

set_option maxRecDepth 100000 in
theorem storeAgain_lifted (os : Os) (started : os.Started) (H : Type) (enc : TypeId × Value → H) :
    ReturnsInHanded {} Try.checked os 12 .any (Rows.storeAgainSpec.pre6 enc Try.prog Try.f12 Rows.storeAgainRow.domain false) (Rows.storeAgainSpec.post enc Try.prog Try.f12 false true false false) := by
  refine returnsInHanded_of_change (C := Try.checked) own0 started (by kernel_rfl) Try.func12
    (ChangeSpec.witness6 (enc := enc) (C := Try.checked) false ⟨#[], #[.slice none 0 0], []⟩ 8 (by kernel_rfl) (by kernel_rfl) (by kernel_rfl) (by kernel_rfl)) ?_
  intro W base args ds gs before hval0 hW hcnd _
  have hval : ∀ (j : Nat) t v, Try.f12.params[j]? = some t → args[j]? = some v → Value.okWide Try.prog W .any base t v := hval0
  have hW' := hW
  obtain ⟨p, q, hA0, hV, rfl, hfz, hnd⟩ := hW
  have hA : DataW.TrodAll enc Try.prog W 0 (fun _ => true) true Try.f12.params.toList args.toList ds p := hA0
  rw [Try.params12] at hA hval
  obtain ⟨v0, vs0, d0, ds0, p0, q0, hargs, rfl, rfl, h0, r0⟩ := trodAll_cons hA
  obtain ⟨rfl, rfl, rfl⟩ := trodAll_nil r0
  obtain rfl : args = #[v0] := by cases args; simp_all
  obtain ⟨rfl, rfl⟩ := trodVars_none hV
  have k0 := h0
  have lt0 : ∀ x ∈ p0, x.block < W.heap.size := by obtain ⟨m, hm⟩ := k0; exact DataW.trod_lt m _ _ _ hm
  obtain ⟨a0, len0, cap0, rfl⟩ := okWide_slice Try.underlying65 (hval 0 65 v0 rfl rfl)
  obtain ⟨ss0, c01⟩ : ∃ ss : List AStep, StepsAt W a0 len0 ss := by
    obtain ⟨fuel, hf⟩ := h0
    exact open_steps hf
  clear hA0 hval0
  refine (sagain_walk a0 len0 cap0 ss0 W c01).mono fun e W' ⟨he, bel⟩ => ?_
  subst he
  exact ⟨_, rfl, _, _, _, [], _, [], hW', trodAll_mk1 (shut_bool Try.underlying4 _), (trodAll_cons_mk (Below.trod laidOut0 (by kernel_rfl) (of_decide_eq_true (by kernel_rfl)) k0 bel lt0) trodAll_mk0), rfl, bel.frame _, fun h => by cases h⟩

theorem storeAgain_over : Rows.storeAgainRow.holds Try.pinned (OpenSpec.ofChange Rows.storeAgainSpec) :=
  OpenClaim.holds_of_wide 12 Try.f12 rfl rfl rfl rfl rfl rfl rfl ⟨rfl, rfl, rfl, rfl, rfl⟩ rfl rfl rfl rfl rfl (by kernel_rfl) Try.func12 (by kernel_rfl)
    (of_decide_eq_true (by kernel_rfl)) (by unfold Func.isWrapper; first | (rw [if_pos (by decide +kernel)]; kernel_rfl) | (rw [if_neg (by decide +kernel)]; exact ⟨rfl, rfl⟩))
    (fun os started H enc _ => storeAgain_lifted os started H enc)

theorem storeAgain_holds : Rows.StoreAgainSaid := storeAgain_over
#print axioms storeAgain_holds

end Go.Proofs.Ytlndphpidkacgaa

