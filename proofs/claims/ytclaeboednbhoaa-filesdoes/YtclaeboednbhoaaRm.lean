/- FilesDoes: the object and the reference's Drawer, side by side. -/
import Derived.Test.YtclaeboednbhoaaRl
import Derived.Laws.StructEq
namespace Go.Proofs.Ytclaeboednbhoaa
open Go.RowKit
set_option linter.unusedSimpArgs false
set_option linter.unusedVariables false

/-- An object of the program's and a Drawer, apart. -/
structure Duo (N : Nat) (w : World) (B D : Nat) (own : List Nat) (v : Value) (st st' : List AFile) : Prop where
  obj : OObj N w B own st
  rep : DRep w N D v st'
  dOut : D ∉ own
  vOut : ∀ k, v.ownBlock = some k → k ∉ own

theorem Duo.below {N : Nat} {w w' : World} {B D : Nat} {own : List Nat} {v : Value} {st st' : List AFile} (h : Duo N w B D own v st st') (hb : Below w.heap.size w w') : Duo N w' B D own v st st' :=
  ⟨h.obj.below hb, h.rep.below hb, h.dOut, h.vOut⟩
theorem Duo.vlt {N : Nat} {w : World} {B D : Nat} {own : List Nat} {v : Value} {st st' : List AFile} (h : Duo N w B D own v st st') {k : Nat} (hk : v.ownBlock = some k) : N ≤ k ∧ k < w.heap.size := h.rep.row.lt k hk
theorem Duo.next {N : Nat} {w w' : World} {B D : Nat} {own own1 : List Nat} {v : Value} {st st1 st' : List AFile} (h : Duo N w B D own v st st') (n : Next N w w' own own1) (o : OObj N w' B own1 st1) : Duo N w' B D own1 v st1 st' := by
  refine ⟨o, ⟨h.rep.new, ?_, ?_, h.rep.nd⟩, (n.keep D h.rep.ltD h.dOut).1, fun k hk => (n.keep k (h.vlt hk).2 (h.vOut k hk)).1⟩
  · rw [(n.keep D h.rep.ltD h.dOut).2]; exact h.rep.blk
  · exact ownsRow_same h.rep.row fun k hk => (n.keep k (h.vlt hk).2 (h.vOut k hk)).2
theorem St.kept {w w' : World} {B : Nat} {own own2 : List Nat} {st : List AFile} (h : St w B own st) (hk : Kept own2 w w') (hd : ∀ k, k ∈ own → k ∉ own2) : St w' B own st := by
  obtain ⟨v, fs, hr, rfl, rfl⟩ := h
  exact ⟨v, fs, hr.kept hk hd, rfl, rfl⟩
theorem Duo.turn {N : Nat} {w w' : World} {B D : Nat} {own : List Nat} {v : Value} {st st' st2 : List AFile} (h : Duo N w B D own v st st') (t : DTurned w N D v w' st2) : ∃ v', Duo N w' B D own v' st st2 ∧ Below N w w' := by
  obtain ⟨v', hr, hk, hn⟩ := t
  refine ⟨v', ⟨⟨h.obj.rep.kept hk (fun k hm hx => ?_), h.obj.inv, h.obj.own⟩, hr, h.dOut, fun k e hm => ?_⟩, hk.below h.obj.size (fun k hx => ?_)⟩
  · rcases List.mem_cons.1 hx with rfl | hx
    · exact h.dOut hm
    · exact h.vOut k (by simpa using hx) hm
  · rcases hn k e with e' | e'
    · exact h.vOut k e' hm
    · have := h.obj.lt hm; omega
  · rcases List.mem_cons.1 hx with rfl | hx
    · exact h.rep.new
    · exact (h.vlt (by simpa using hx)).1

/-- The Drawer as it begins. -/
theorem Duo.begin {N : Nat} {w : World} {B : Nat} {own : List Nat} (h : OObj N w B own []) (v : Value) (hv : w.ownsRow N 76 2 v 0 []) (hn : ∀ k, v.ownBlock = some k → k ∉ own) :
    Duo N (w.alloc (.cells #[v] 29)) B w.heap.size own v [] [] :=
  ⟨h.alloc _, ⟨h.size, heap_alloc_new w _, hv.alloc _, fun e => by have := (hv.lt _ e).2; omega⟩, h.not_new (Nat.le_refl _), hn⟩

theorem neq34 (c : Int) (t : ByteArray) (w : World) : (binOp .neq 34 (.agg #[.int .i64 c, .string t]) (.agg #[.int .i64 c, .string t])).run Try.prog w = .ok (.bool false) w := by
  rw [run_neq_struct, run_equalIn_agg w 9999 34 _ _ (by kernel_rfl) (by kernel_rfl)]
  have e : (Try.prog.fieldsOf 34).toList.map (fun f => (f.name, f.type, f.offset)) = [("Code", 3, 0), ("Text", 9, 1)] := by kernel_rfl
  cases hf : (Try.prog.fieldsOf 34).toList with
  | nil => rw [hf] at e; simp at e
  | cons f fs =>
    rw [hf] at e
    cases fs with
    | nil => simp at e
    | cons g gs =>
      cases gs with
      | cons _ _ => simp at e
      | nil =>
        simp at e
        obtain ⟨⟨f1, f2, f3⟩, ⟨g1, g2, g3⟩⟩ := e
        have i1 : (part 3 #[.int .i64 c, .string t] 0).run Try.prog w = .ok (.int .i64 c) w := by kernel_rfl
        have i2 : (part 9 #[.int .i64 c, .string t] 1).run Try.prog w = .ok (.string t) w := by kernel_rfl
        simp [Op.eqFields, f1, f2, f3, g1, g2, g3, i1, i2, run_equalIn_int w _ 3 .i64 .i64 c c Try.underlying3, run_equalIn_string w _ 9 t t Try.underlying9]

theorem duo_do (c : ACall) {N B D : Nat} {own : List Nat} {v : Value} {st st' : List AFile} {w : World} (h : Duo N w B D own v st st') (ha : c.name.size ≤ maxLen) (hb : c.dst.size ≤ maxLen) (ht : c.text.size ≤ maxLen) :
    Calls Try.prog 15 #[.pointer (some ⟨B, 0, none⟩), .agg #[.int .i64 c.kind, .string c.name, .string c.dst, .string c.text]] w
      fun e w' => e = .returned (.agg #[.int .i64 (aDo st c).code, .string (aDo st c).text]) ∧ ∃ own1, Duo N w' B D own1 v (aDo st c).st st' ∧ Below N w w' := by
  refine (Do_obj c h.obj ha hb ht).mono ?_
  rintro e w1 ⟨he, own1, o1, n1⟩
  exact ⟨he, own1, h.next n1 o1, n1.below⟩
theorem duo_ddo (c : ACall) {N B D : Nat} {own : List Nat} {v : Value} {st st' : List AFile} {w : World} (h : Duo N w B D own v st' st) (ha : c.name.size ≤ maxLen) (hb : c.dst.size ≤ maxLen) (ht : c.text.size ≤ maxLen) (hi : Inv st) :
    Calls Try.prog 16 #[.pointer (some ⟨D, 0, none⟩), .agg #[.int .i64 c.kind, .string c.name, .string c.dst, .string c.text]] w
      fun e w' => e = .returned (.agg #[.int .i64 (aDo st c).code, .string (aDo st c).text]) ∧ ∃ v', Duo N w' B D own v' st' (aDo st c).st ∧ Below N w w' := by
  refine (dDo_any c N D v st w h.rep hi ha hb ht).mono ?_
  rintro e w1 ⟨he, t1⟩
  exact ⟨he, h.turn t1⟩
theorem duo_names {N B D : Nat} {own : List Nat} {v : Value} {st st' : List AFile} {w : World} (h : Duo N w B D own v st st') :
    Calls Try.prog 18 #[.pointer (some ⟨B, 0, none⟩)] w
      fun e w' => ∃ g cap, e = .returned (.slice (some ⟨g, 0, none⟩) st.length cap) ∧ w'.ownsRow 0 9 1 (.slice (some ⟨g, 0, none⟩) st.length cap) st.length ((sNames st).map .string) ∧ Duo N w' B D own v st st' ∧ Below w.heap.size w w' := by
  refine (Names_obj h.obj).mono ?_
  rintro e w1 ⟨g, cap, he, ho, hb⟩
  exact ⟨g, cap, he, ownsRow_base ho (Nat.zero_le _), h.below hb, hb⟩
theorem duo_dnames {N B D : Nat} {own : List Nat} {a : Option Addr} {cap g5 c5 : Nat} {st : List AFile} {w : World} (h : Duo N w B D own (.slice a st.length cap) st st) (h5 : w.ownsRow 0 9 1 (.slice (some ⟨g5, 0, none⟩) st.length c5) st.length ((sNames st).map .string)) :
    Calls Try.prog 19 #[.slice a st.length cap] w
      fun e w' => ∃ a' c', e = .returned (.slice a' st.length c') ∧ (Calls Try.prog 17 #[.slice (some ⟨g5, 0, none⟩) st.length c5, .slice a' st.length c'] w' fun e w2 => e = .returned (.bool true) ∧ Below w'.heap.size w' w2) ∧ Duo N w' B D own (.slice a st.length cap) st st ∧ Below w.heap.size w w' := by
  have hfew := h.obj.inv.few
  refine (dNames_any a cap st w (by omega) h.rep.names).mono ?_
  rintro e w1 ⟨a', c', he, ho, hb⟩
  refine ⟨a', c', he, ?_, h.below hb, hb⟩
  have hs := SameTexts_any (some ⟨g5, 0, none⟩) a' st.length st.length c5 c' (sNames st) (sNames st) w1 (ownsRow_same h5 fun k hk => hb.block k (h5.lt k hk).2) (ownsRow_base ho (Nat.zero_le _)) (by omega) (by omega)
  rw [decide_eq_true rfl] at hs
  exact hs


end Go.Proofs.Ytclaeboednbhoaa
