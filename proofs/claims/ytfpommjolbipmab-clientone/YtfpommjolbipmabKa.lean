/- A client: on lists, and in memory. -/
import Derived.Test.YtfpommjolbipmabGd
namespace Go.Proofs.Ytfpommjolbipmab
open Go.RowKit
set_option linter.unusedSimpArgs false
set_option linter.unusedVariables false

/-- A client: whose, what was answered, its call, is that open? -/
structure ACli where
  me : Int
  done : List ARec
  call : ACall
  op : Bool
def zeroCall : ACall := ⟨0, ⟨#[]⟩, ⟨#[]⟩, ⟨#[]⟩⟩
def SmallC (x : ACall) : Prop := x.name.size ≤ 281474976710656 ∧ x.dst.size ≤ 281474976710656 ∧ x.text.size ≤ 281474976710656
def ACli.no (c : ACli) : Int := (c.done.length : Int) + 1
def ACli.ask (c : ACli) (x : ACall) : Int := if checkI x ≠ 0 then checkI x else if c.op = true then 11 else if 200 ≤ c.done.length then 7 else 0
def ACli.asked (c : ACli) (x : ACall) : ACli := if c.ask x = 0 then ⟨c.me, c.done, x, true⟩ else c
def ACli.pkt (c : ACli) : APkt := if c.op = true then ⟨false, c.me, c.no, c.call, 0, ⟨#[]⟩⟩ else zeroPkt
def ACli.hears (c : ACli) (p : APkt) : Bool := c.op && p.reply && p.client == c.me && p.no == c.no && callB p.call c.call
def ACli.rcd (c : ACli) (p : APkt) : ARec := ⟨c.me, c.no, c.call, p.code, p.ans⟩
def ACli.heard (c : ACli) (p : APkt) : ACli := if c.hears p = true then ⟨c.me, c.done ++ [c.rcd p], zeroCall, false⟩ else c

structure COk (c : ACli) : Prop where
  few : c.done.length ≤ 200
  room : c.op = true → c.done.length < 200
  small : ∀ r, r ∈ c.done → SmallC r.call ∧ r.ans.size ≤ 281474976710656
  smallc : SmallC c.call
  num : ∀ (k : Nat) (r : ARec), c.done[k]? = some r → r.client = c.me ∧ r.no = (k : Int) + 1
theorem zeroCall_small : SmallC zeroCall := by unfold SmallC zeroCall; decide
theorem COk.start (me : Int) : COk ⟨me, [], zeroCall, false⟩ := ⟨by simp, by simp, by simp, zeroCall_small, by simp⟩
theorem COk.asked {c : ACli} (h : COk c) {x : ACall} (hx : SmallC x) : COk (c.asked x) := by
  unfold ACli.asked
  by_cases h0 : c.ask x = 0
  · rw [if_pos h0]
    refine ⟨h.few, fun _ => ?_, h.small, hx, h.num⟩
    unfold ACli.ask at h0
    show c.done.length < 200
    by_cases h1 : checkI x ≠ 0
    · rw [if_pos h1] at h0; exact absurd h0 h1
    · rw [if_neg h1] at h0
      by_cases h2 : c.op = true
      · rw [if_pos h2] at h0; omega
      · rw [if_neg h2] at h0
        by_cases h3 : 200 ≤ c.done.length
        · rw [if_pos h3] at h0; omega
        · omega
  · rw [if_neg h0]; exact h
theorem COk.heard {c : ACli} (h : COk c) {p : APkt} (hp : SmallP p) : COk (c.heard p) := by
  unfold ACli.heard
  by_cases h0 : c.hears p = true
  · rw [if_pos h0]
    have hop : c.op = true := by
      unfold ACli.hears at h0
      simp only [Bool.and_eq_true] at h0
      exact h0.1.1.1.1
    have hr := h.room hop
    refine ⟨by simp; omega, by simp, fun r hr => ?_, zeroCall_small, fun k r hk => ?_⟩
    · rcases List.mem_append.1 hr with h1 | h1
      · exact h.small r h1
      · simp at h1; subst h1; exact ⟨h.smallc, hp.2.2.2⟩
    · have hk : (c.done ++ [c.rcd p])[k]? = some r := hk
      by_cases hl : k < c.done.length
      · rw [List.getElem?_append_left hl] at hk
        exact h.num k r hk
      · have e : k = c.done.length := by
          have := (List.getElem?_eq_some_iff.1 hk).1
          simp at this; omega
        subst e
        simp at hk
        subst hk
        exact ⟨rfl, rfl⟩
  · rw [if_neg h0]; exact h
theorem pkt_small {c : ACli} (h : COk c) : SmallP c.pkt := by
  unfold ACli.pkt
  by_cases h0 : c.op = true
  · rw [if_pos h0]; exact ⟨h.smallc.1, h.smallc.2.1, h.smallc.2.2, by show (0 : Nat) ≤ _; omega⟩
  · rw [if_neg h0]; unfold SmallP zeroPkt; decide

theorem rcells_len (r : ARec) : (rcells r).length = 8 := rfl
theorem rcells_one (r : ARec) : ∀ u, u ∈ rcells r → u.oneCell' = true := by intro u hu; simp [rcells] at hu; rcases hu with rfl | rfl | rfl | rfl | rfl | rfl | rfl | rfl <;> rfl
theorem rflat_len (l : List ARec) : (l.flatMap rcells).length = l.length * 8 := by
  induction l with
  | nil => rfl
  | cons x xs ih => simp [rcells_len, ih]; omega

/-- A client's cells; a Guest's (x: the call that it keeps). -/
def kcells (c : ACli) (v : Value) : Array Value := #[.int .i64 c.me, v, .int .i64 c.call.kind, .string c.call.name, .string c.call.dst, .string c.call.text, .bool c.op]
def gno (c : ACli) : Int := if c.op = true then c.no else (c.done.length : Int)
def gcells (c : ACli) (x : ACall) (v : Value) : Array Value := #[.int .i64 c.me, .int .i64 (gno c), .int .i64 x.kind, .string x.name, .string x.dst, .string x.text, .bool c.op, v]

/-- An object at block X with a list of records v. -/
structure ORep (t : TypeId) (N : Nat) (w : World) (X : Nat) (f : Value → Array Value) (v : Value) (rs : List ARec) : Prop where
  new : N ≤ X
  blk : w.heap[X]? = some (.cells (f v) t (0, 0))
  row : w.ownsRow N 63 8 v rs.length (rs.flatMap rcells)
  nd : v.ownBlock ≠ some X
section
variable {t : TypeId} {N : Nat} {w w' : World} {X : Nat} {f f' : Value → Array Value} {v : Value} {rs : List ARec}
theorem ORep.lt (h : ORep t N w X f v rs) : X < w.heap.size := (Array.getElem?_eq_some_iff.1 h.blk).1
theorem ORep.ge (h : ORep t N w X f v rs) : ∀ k, k ∈ powns X v → N ≤ k ∧ k < w.heap.size := fun k hk => by
  rcases List.mem_cons.1 hk with rfl | hk
  · exact ⟨h.new, h.lt⟩
  · exact h.row.lt k (by simpa using hk)
theorem ORep.same (h : ORep t N w X f v rs) (hs : ∀ k, k ∈ powns X v → w'.heap[k]? = w.heap[k]?) : ORep t N w' X f v rs :=
  ⟨h.new, (hs X List.mem_cons_self).trans h.blk, ownsRow_same h.row (fun k hk => hs k (List.mem_cons_of_mem _ (by simpa using hk))), h.nd⟩
theorem ORep.below (h : ORep t N w X f v rs) (hb : Below w.heap.size w w') : ORep t N w' X f v rs := h.same fun k hk => hb.block k (h.ge k hk).2
theorem ORep.kept {o : List Nat} (h : ORep t N w X f v rs) (hk : Kept o w w') (hd : ∀ k, k ∈ powns X v → k ∉ o) : ORep t N w' X f v rs := h.same fun k h1 => hk.block k (h.ge k h1).2 (hd k h1)
theorem ORep.form (h : ORep t N w X f v rs) : ∃ a cap, v = .slice a rs.length cap := row_form h.row
theorem ORep.size (h : ORep t N w X f v rs) : N ≤ w.heap.size := Nat.le_trans h.new (Nat.le_of_lt h.lt)

/-- From w to w' the object has come to f', rs. -/
def OTurn (t : TypeId) (N : Nat) (w : World) (X : Nat) (v : Value) (w' : World) (f' : Value → Array Value) (rs : List ARec) : Prop :=
  ∃ v', ORep t N w' X f' v' rs ∧ Kept (powns X v) w w' ∧ ∀ k, k ∈ powns X v' → k ∈ powns X v ∨ w.heap.size ≤ k
theorem OTurn.of_below (h : ORep t N w X f v rs) (hb : Below w.heap.size w w') : OTurn t N w X v w' f rs := ⟨v, h.below hb, Kept.of_below hb, fun k hk => .inl hk⟩
theorem OTurn.before {w0 : World} (hb : Below w.heap.size w w0) (h : OTurn t N w0 X v w' f' rs) : OTurn t N w X v w' f' rs := by
  obtain ⟨v', h1, h2, h3⟩ := h
  refine ⟨v', h1, (Kept.of_below hb).trans h2 (fun x hx => .inl hx), fun k hk => ?_⟩
  rcases h3 k hk with h | h
  · exact .inl h
  · right; have := hb.size; omega
theorem OTurn.after {w1 : World} (h : OTurn t N w X v w1 f' rs) (hb : Below w1.heap.size w1 w') : OTurn t N w X v w' f' rs := by
  obtain ⟨v', h1, h2, h3⟩ := h
  exact ⟨v', h1.below hb, h2.trans (Kept.of_below (own := []) hb) (by simp), h3⟩
theorem OTurn.below {rs' : List ARec} (h : ORep t N w X f v rs) (hT : OTurn t N w X v w' f' rs') : Below N w w' := by
  obtain ⟨v', hr, hk, hn⟩ := hT
  exact hk.below h.size (fun k hk => (h.ge k hk).1)
theorem OTurn.blk {rs' : List ARec} (hT : OTurn t N w X v w' f' rs') {B : Nat} (hB : B < w.heap.size) (hn : B ∉ powns X v) : w'.heap[B]? = w.heap[B]? := by
  obtain ⟨v', hr, hk, _⟩ := hT
  exact hk.block B hB hn
/-- Its own cells alone are others. -/
theorem ORep.reblk (h : ORep t N w X f v rs) (hb : w'.heap[X]? = some (.cells (f' v) t (0, 0))) (hk : Kept [X] w w') : OTurn t N w X v w' f' rs := by
  refine ⟨v, ⟨h.new, hb, ownsRow_same h.row (fun k e => hk.block k (h.row.lt k e).2 (fun hm => ?_)), h.nd⟩, ⟨hk.os, hk.tape, hk.output, hk.size, fun k h1 h2 => hk.block k h1 (fun hm => h2 ?_)⟩, fun k hk => .inl hk⟩
  · simp at hm; subst hm; exact h.nd e
  · simp at hm; subst hm; exact List.mem_cons_self
/-- One record more; then its own cells are others. -/
theorem ORep.push {w3 : World} (h : ORep t N w X f v rs) {g cap n : Nat} {r : ARec} (hg : w.grownBy w3 v.ownBlock) (hn : n = rs.length + 1)
    (hown : w3.ownsRow N 63 8 (.slice (some ⟨g, 0, none⟩) n cap) n (rs.flatMap rcells ++ rcells r)) (hat : v.ownBlock = some g ∨ g = w.heap.size) (hk : Kept [X] w3 w') (hb : w'.heap[X]? = some (.cells (f' (.slice (some ⟨g, 0, none⟩) n cap)) t (0, 0))) :
    OTurn t N w X v w' f' (rs ++ [r]) := by
  have hX := h.lt
  have hgX : g ≠ X := by
    rcases hat with h1 | h1
    · intro e; subst e; exact h.nd h1
    · omega
  refine ⟨.slice (some ⟨g, 0, none⟩) n cap, ⟨h.new, hb, ?_, ?_⟩, ?_, ?_⟩
  · have e1 : (rs ++ [r]).length = n := by simp [hn]
    have e2 : (rs ++ [r]).flatMap rcells = rs.flatMap rcells ++ rcells r := by simp
    rw [e1, e2]
    exact ownsRow_same hown fun k e => hk.block k (hown.lt k e).2 (fun hm => by
      simp at hm; subst hm
      have : g = k := by simpa [Value.ownBlock] using e
      exact hgX this)
  · intro e
    simp [Value.ownBlock] at e
    exact hgX e
  · have k1 : Kept (powns X v) w w3 := ⟨hg.os, hg.tape, hg.output, hg.size, fun k h1 h2 => hg.block k h1 (fun e => h2 (List.mem_cons_of_mem _ (by simp [e])))⟩
    exact k1.trans hk (fun x hx => .inl (by simp at hx; subst hx; exact List.mem_cons_self))
  · intro k hk
    rcases List.mem_cons.1 hk with rfl | hk
    · exact .inl List.mem_cons_self
    · have : k = g := by simpa [Value.ownBlock] using hk
      rcases hat with h1 | h1
      · exact .inl (List.mem_cons_of_mem _ (by rw [this]; simp [h1]))
      · right; omega
end

/-- A client at X; a Guest at X (x: the call that it keeps). -/
structure KRep (N : Nat) (w : World) (X : Nat) (v : Value) (c : ACli) : Prop where
  o : ORep 73 N w X (kcells c) v c.done
  ok : COk c
structure GRep (N : Nat) (w : World) (X : Nat) (v : Value) (c : ACli) (x : ACall) : Prop where
  o : ORep 53 N w X (gcells c x) v c.done
  ok : COk c
  keeps : c.op = true → x = c.call
abbrev KTurn (N : Nat) (w : World) (X : Nat) (v : Value) (w' : World) (c : ACli) : Prop := OTurn 73 N w X v w' (kcells c) c.done
abbrev GTurn (N : Nat) (w : World) (X : Nat) (v : Value) (w' : World) (c : ACli) (x : ACall) : Prop := OTurn 53 N w X v w' (gcells c x) c.done

end Go.Proofs.Ytfpommjolbipmab
