/- Texts joined, what is needed of them: Vq Vr0 Vr OpenP. -/
import Derived.Test.YtmbhbnoifimeaabGreatQO6
import Derived.SizedLaws
namespace Go.Proofs.YtmbhbnoifimeaabGreat
open Go.RowKit
set_option linter.unusedSimpArgs false
set_option linter.unusedVariables false

theorem calls_upd {A : AW} {n : Nat} {c : ACli} (h : c.calls = (A.cl n).calls) (i : Nat) : (upd A.cl n c i).calls = (A.cl i).calls := by
  by_cases e : i = n
  · subst e; rw [upd_at, h]
  · rw [upd_off _ _ e]
/-- What a step makes of that. -/
theorem step_calls (A : AW) (x : AX) : (x.kind = 1 ∧ (A.step x).1 = 0 → 0 ≤ x.n ∧ x.n ≤ 2 ∧ ∀ i, ((A.step x).2.cl i).calls = if i = x.n.toNat then (A.cl i).calls ++ [x.call] else (A.cl i).calls) ∧ (¬ (x.kind = 1 ∧ (A.step x).1 = 0) → ∀ i, ((A.step x).2.cl i).calls = (A.cl i).calls) := by
  by_cases h1 : x.kind = 1
  · have e : A.step x = A.have x.n x.call := by unfold AW.step; rw [if_pos h1]
    rw [e]
    unfold AW.have
    by_cases hn : x.n < 0 ∨ 2 < x.n
    · rw [if_pos hn]
      exact ⟨fun h => by have := h.2; dsimp only at this; omega, fun _ i => rfl⟩
    · rw [if_neg hn]
      dsimp only
      by_cases h0 : (A.cl x.n.toNat).ask x.call = 0
      · refine ⟨fun _ => ⟨by omega, by omega, fun i => ?_⟩, fun h => absurd ⟨h1, h0⟩ h⟩
        by_cases e2 : i = x.n.toNat
        · subst e2; rw [upd_at, (asked_some h0).2, if_pos rfl]
        · rw [upd_off _ _ e2, if_neg e2]
      · refine ⟨fun h => absurd h.2 h0, fun _ i => calls_upd (by rw [asked_none h0]) i⟩
  · refine ⟨fun h => absurd h.1 h1, fun _ i => ?_⟩
    unfold AW.step
    rw [if_neg h1]
    split
    · rw [(send_two A _).1]
    split
    · unfold AW.dbl; repeat' split
      all_goals rfl
    split
    · unfold AW.take
      split
      · rfl
      split
      · unfold AW.come
        split
        · unfold AW.hear
          split
          · rfl
          · exact calls_upd (A := A.took x.n) (heard_calls _ _) i
        · rfl
      split
      · unfold AW.tear
        split <;> rfl
      · rfl
    split <;> rfl

def ccells (c : ACall) : List Value := [.int .i64 c.kind, .string c.name, .string c.dst, .string c.text]
theorem ccells_len (c : ACall) : (ccells c).length = 4 := rfl
theorem flat4 (cs : List ACall) (j i : Nat) (c : ACall) (h : cs[j]? = some c) (hi : i < 4) : (cs.flatMap ccells)[j * 4 + i]? = (ccells c)[i]? := by
  induction cs generalizing j with
  | nil => simp at h
  | cons x xs ih =>
    rw [List.flatMap_cons]
    cases j with
    | zero =>
      simp at h
      subst h
      rw [List.getElem?_append_left (by rw [ccells_len]; omega)]
      simp
    | succ j =>
      rw [List.getElem?_append_right (by rw [ccells_len]; omega), ccells_len]
      have e : (j + 1) * 4 + i - 4 = j * 4 + i := by omega
      rw [e]
      exact ih j (by simpa using h)
/-- A call lies there. -/
theorem call_at {w : World} {base g n c j : Nat} {cs : List ACall} {x : ACall} (h : w.ownsRow base 32 4 (.slice (some ⟨g, 0, none⟩) n c) n (cs.flatMap ccells)) (hj : cs[j]? = some x) :
    w.cell? ⟨g, j * 4, none⟩ = some (.int .i64 x.kind) ∧ w.cell? ⟨g, j * 4 + 1, none⟩ = some (.string x.name) ∧ w.cell? ⟨g, j * 4 + 2, none⟩ = some (.string x.dst) ∧ w.cell? ⟨g, j * 4 + 3, none⟩ = some (.string x.text) := by
  have hc : ∀ i, i < 4 → w.cell? ⟨g, j * 4 + i, none⟩ = (ccells x)[i]? := fun i hi => by
    have h1 := flat4 cs j i x hj hi
    obtain ⟨v, hv⟩ : ∃ v, (ccells x)[i]? = some v := ⟨_, List.getElem?_eq_getElem (by rw [ccells_len]; omega)⟩
    rw [hv] at h1 ⊢
    have := World.ownsRow.cells (v := .slice (some ⟨g, 0, none⟩) n c) h (g := g) rfl (j * 4 + i) v h1
    rw [addr_add, Nat.zero_add] at this
    exact this
  exact ⟨hc 0 (by omega), hc 1 (by omega), hc 2 (by omega), hc 3 (by omega)⟩

/-- Three rows of calls, in an array at AB. -/
structure AskRep (N : Nat) (w : World) (AB : Nat) (v : Nat → Value) (cs : Nat → List ACall) : Prop where
  new : N ≤ AB
  blk : w.heap[AB]? = some (.cells #[v 0, v 1, v 2] 72 (0, 0))
  row : ∀ i, i < 3 → w.ownsRow N 32 4 (v i) (cs i).length ((cs i).flatMap ccells)
  nAB : ∀ i, i < 3 → (v i).ownBlock ≠ some AB
  dj : ∀ i j, i < 3 → j < 3 → i ≠ j → ∀ b, (v i).ownBlock = some b → (v j).ownBlock ≠ some b
def aown (AB : Nat) (v : Nat → Value) : List Nat := AB :: ((v 0).ownBlock.toList ++ (v 1).ownBlock.toList ++ (v 2).ownBlock.toList)
theorem mem_aown {AB b : Nat} {v : Nat → Value} : b ∈ aown AB v ↔ b = AB ∨ ∃ i, i < 3 ∧ (v i).ownBlock = some b := by
  unfold aown
  simp only [List.mem_cons, List.mem_append, Option.mem_toList]
  constructor
  · rintro (h | ((h | h) | h))
    · exact .inl h
    · exact .inr ⟨0, by omega, h⟩
    · exact .inr ⟨1, by omega, h⟩
    · exact .inr ⟨2, by omega, h⟩
  · rintro (h | ⟨i, hi, h⟩)
    · exact .inl h
    · match i, hi with
      | 0, _ => exact .inr (.inl (.inl h))
      | 1, _ => exact .inr (.inl (.inr h))
      | 2, _ => exact .inr (.inr h)
section
variable {N : Nat} {w w' V w6 : World} {AB : Nat} {v : Nat → Value} {cs cs' : Nat → List ACall}
theorem AskRep.lt (h : AskRep N w AB v cs) : ∀ b, b ∈ aown AB v → b < w.heap.size := fun b hb => by
  rcases mem_aown.1 hb with rfl | ⟨i, hi, hb⟩
  · exact (Array.getElem?_eq_some_iff.1 h.blk).1
  · exact ((h.row i hi).lt b hb).2
theorem AskRep.same (h : AskRep N w AB v cs) (hs : ∀ b, b ∈ aown AB v → w'.heap[b]? = w.heap[b]?) : AskRep N w' AB v cs :=
  ⟨h.new, (hs AB (mem_aown.2 (.inl rfl))).trans h.blk, fun i hi => ownsRow_same (h.row i hi) (fun k hk => hs k (mem_aown.2 (.inr ⟨i, hi, hk⟩))), h.nAB, h.dj⟩
theorem AskRep.below (h : AskRep N w AB v cs) (hb : Below w.heap.size w w') : AskRep N w' AB v cs := h.same fun b hm => hb.block b (h.lt b hm)
theorem AskRep.kept {o : List Nat} (h : AskRep N w AB v cs) (hk : Kept o w w') (hd : ∀ b, b ∈ aown AB v → b ∉ o) : AskRep N w' AB v cs := h.same fun b hm => hk.block b (h.lt b hm) (hd b hm)
theorem AskRep.eq (h : AskRep N w AB v cs) (he : ∀ i, i < 3 → cs' i = cs i) : AskRep N w AB v cs' := ⟨h.new, h.blk, fun i hi => by rw [he i hi]; exact h.row i hi, h.nAB, h.dj⟩
theorem AskRep.cell (h : AskRep N w AB v cs) : (w.cell? ⟨AB, 0, none⟩ = some (v 0) ∧ w.cell? ⟨AB, 1, none⟩ = some (v 1) ∧ w.cell? ⟨AB, 2, none⟩ = some (v 2)) ∧ (∀ n, n < 3 → w.cell? ⟨AB, n, none⟩ = some (v n)) ∧ ∀ j, w.frozen? ⟨AB, j, none⟩ = false := by
  have k : ∀ j, w.cell? ⟨AB, j, none⟩ = _ := fun j => cell_of_row w AB j _ _ _ h.blk
  refine ⟨⟨k 0, k 1, k 2⟩, fun n hn => ?_, fun j => frozen_of_row w AB j _ _ h.blk⟩
  match n, hn with
  | 0, _ => exact k 0
  | 1, _ => exact k 1
  | 2, _ => exact k 2
/-- One call more, of client n. -/
theorem AskRep.push (h : AskRep N w AB v cs) {n : Nat} (hn : n < 3) (hb : Below w.heap.size w V) {u : Value} {c : ACall} (hg : V.grownBy w6 (v n).ownBlock) (hown : w6.ownsRow N 32 4 u ((cs n).length + 1) ((cs n).flatMap ccells ++ ccells c)) (hat : u.ownBlock = (v n).ownBlock ∨ u.ownBlock = some V.heap.size) :
    AskRep N (w6.setCell ⟨AB, n, none⟩ u) AB (updV v n u) (fun i => if i = n then cs i ++ [c] else cs i) ∧ Kept (aown AB v) w (w6.setCell ⟨AB, n, none⟩ u) ∧ ∀ b, b ∈ aown AB (updV v n u) → b ∈ aown AB v ∨ w.heap.size ≤ b := by
  have hAB : AB < w.heap.size := h.lt AB (mem_aown.2 (.inl rfl))
  have hAV : AB < V.heap.size := Nat.lt_of_lt_of_le hAB hb.size
  have e1 : updV v n u n = u := by simp [updV]
  have e2 : ∀ m, m ≠ n → updV v n u m = v m := fun m hm => by simp [updV, hm]
  have hk : Kept [AB] w6 (w6.setCell ⟨AB, n, none⟩ u) := kept_setCell [AB] w6 AB n u (by simp)
  have hA6 : w6.heap[AB]? = some (.cells #[v 0, v 1, v 2] 72 (0, 0)) := (hg.block AB hAV (fun e => h.nAB n hn e.symm)).trans ((hb.block AB hAB).trans h.blk)
  have huAB : u.ownBlock ≠ some AB := by
    rcases hat with e | e
    · rw [e]; exact h.nAB n hn
    · rw [e]; intro e'; have := Option.some.inj e'; omega
  have hold : ∀ b, b < w.heap.size → (v n).ownBlock ≠ some b → b ≠ AB → (w6.setCell ⟨AB, n, none⟩ u).heap[b]? = w.heap[b]? := fun b h1 h2 h3 => by
    have hbV : b < V.heap.size := Nat.lt_of_lt_of_le h1 hb.size
    rw [hk.block b (Nat.lt_of_lt_of_le hbV hg.size) (by simpa using h3), hg.block b hbV (fun e => h2 e.symm), hb.block b h1]
  refine ⟨⟨h.new, ?_, fun i hi => ?_, fun i hi => ?_, fun i j hi hj hij b h1 => ?_⟩, ⟨?_, ?_, ?_, ?_, fun b h1 h2 => hold b h1 (fun e => h2 (mem_aown.2 (.inr ⟨n, hn, e⟩))) (fun e => h2 (mem_aown.2 (.inl e)))⟩, fun b hm => ?_⟩
  · rw [heap_setCell_same hA6]
    match n, hn with
    | 0, _ => rfl
    | 1, _ => rfl
    | 2, _ => rfl
  · by_cases e : i = n
    · subst e
      rw [e1, if_pos rfl, List.length_append, List.flatMap_append]
      have hh : [c].flatMap ccells = ccells c := by simp
      rw [hh]
      exact ownsRow_same hown fun k hk' => hk.block k (hown.lt k hk').2 (fun hm => by simp at hm; subst hm; exact huAB hk')
    · rw [e2 i e, if_neg e]
      refine ownsRow_same (h.row i hi) fun k hk' => hold k ((h.row i hi).lt k hk').2 (h.dj i n hi hn e k hk') (fun e' => h.nAB i hi (by rw [← e']; exact hk'))
  · by_cases e : i = n
    · subst e; rw [e1]; exact huAB
    · rw [e2 i e]; exact h.nAB i hi
  · by_cases ei : i = n
    · have ej : j ≠ n := fun e => hij (ei.trans e.symm)
      subst ei
      rw [e1] at h1
      rw [e2 j ej]
      rcases hat with e | e
      · rw [e] at h1; exact h.dj i j hi hj hij b h1
      · rw [e] at h1
        intro h2
        have := ((h.row j hj).lt b h2).2
        have := Option.some.inj h1
        have := hb.size
        omega
    · rw [e2 i ei] at h1
      by_cases ej : j = n
      · subst ej
        rw [e1]
        rcases hat with e | e
        · rw [e]; exact h.dj i j hi hj hij b h1
        · rw [e]
          intro h2
          have := ((h.row i hi).lt b h1).2
          have := Option.some.inj h2
          have := hb.size
          omega
      · rw [e2 j ej]; exact h.dj i j hi hj hij b h1
  · exact hk.os.trans (hg.os.trans hb.os)
  · exact hk.tape.trans (hg.tape.trans hb.tape)
  · exact hk.output.trans (hg.output.trans hb.output)
  · exact Nat.le_trans hb.size (Nat.le_trans hg.size hk.size)
  · rcases mem_aown.1 hm with e | ⟨i, hi, hm⟩
    · exact .inl (mem_aown.2 (.inl e))
    · by_cases ei : i = n
      · subst ei
        rw [e1] at hm
        rcases hat with e | e
        · rw [e] at hm; exact .inl (mem_aown.2 (.inr ⟨i, hi, hm⟩))
        · rw [e] at hm
          right
          have := Option.some.inj hm
          have := hb.size
          omega
      · rw [e2 i ei] at hm
        exact .inl (mem_aown.2 (.inr ⟨i, hi, hm⟩))
end
/-- An operator on two structs, at a step of a region that draws. -/
theorem yieldsB {a : Act} {o : Oper} {bo : BinOp} {t t2 : TypeId} {x y : Operand} {u u' v : Value} {wz : World} (ho : o.op = .binOp bo t x y t2) (hx : a.eval x = u) (hy : a.eval y = u') (hq : (binOp bo t u u').run Tryz.prog wz = .ok v wz) (hg : (eqGuard bo t x y u u').run Tryz.prog wz = .ok () wz) : (execOp a.eval o).run Tryz.prog wz = .ok (.value v) wz := by
  unfold execOp
  simp [ho, hx, hy, hq, hg]
theorem gd32 (x y : Operand) (c c' : Array Value) (wz : World) : (eqGuard .neq 32 x y (.agg c) (.agg c')).run Tryz.prog wz = .ok () wz := by
  unfold eqGuard
  simp [Tryz.eqGuardType32]
theorem gd47 (x y : Operand) (c c' : Array Value) (wz : World) : (eqGuard .neq 61 x y (.agg c) (.agg c')).run Tryz.prog wz = .ok () wz := by
  unfold eqGuard
  simp [Tryz.eqGuardType61]
theorem nq32 (k : Int) (a b t : ByteArray) (w : World) : (binOp .neq 32 (.agg #[.int .i64 k, .string a, .string b, .string t]) (.agg #[.int .i64 k, .string a, .string b, .string t])).run Tryz.prog w = .ok (.bool false) w := by
  have h := equal32 9998 ⟨k, a, b, t⟩ ⟨k, a, b, t⟩ w
  have e : (k == k && a.toList == a.toList && b.toList == b.toList && t.toList == t.toList) = true := callB_self ⟨k, a, b, t⟩
  dsimp only at h
  rw [e] at h
  rw [run_neq_struct]
  unfold callCells at h
  dsimp only at h
  rw [h]
  rfl
theorem nq47 (c n k : Int) (a b t : ByteArray) (d : Int) (u : ByteArray) (w : World) : (binOp .neq 61 (.agg #[.int .i64 c, .int .i64 n, .int .i64 k, .string a, .string b, .string t, .int .i64 d, .string u]) (.agg #[.int .i64 c, .int .i64 n, .int .i64 k, .string a, .string b, .string t, .int .i64 d, .string u])).run Tryz.prog w = .ok (.bool false) w := by
  have h := neq47 ⟨c, n, ⟨k, a, b, t⟩, d, u⟩ ⟨c, n, ⟨k, a, b, t⟩, d, u⟩ w
  have e : recB ⟨c, n, ⟨k, a, b, t⟩, d, u⟩ ⟨c, n, ⟨k, a, b, t⟩, d, u⟩ = true := by unfold recB; simp
  rw [e] at h
  exact h

end Go.Proofs.YtmbhbnoifimeaabGreat

namespace Go.Proofs.YtmbhbnoifimeaabGreat
open Go.RowKit
set_option linter.unusedSimpArgs false
set_option linter.unusedVariables false

theorem infoC : (Tryz.prog.info? 32).map (fun i => (i.zero, i.size, i.bytes)) = some (some (.agg #[.int .i64 0, .string ⟨#[]⟩, .string ⟨#[]⟩, .string ⟨#[]⟩]), 4, 56) := by kernel_rfl
/-- The state of the first loop. -/
structure OnceSt (N : Nat) (w : World) (W : Nat) (o : WOwn) (A : AW) (AB : Nat) (v : Nat → Value) : Prop where
  rep : WRep N w W o A
  inv : WInv A
  ask : AskRep N w AB v (fun i => (A.cl i).calls)
  dj : ∀ b, b ∈ aown AB v → b ∉ o.all W
theorem OnceSt.below {N : Nat} {w w' : World} {W : Nat} {o : WOwn} {A : AW} {AB : Nat} {v : Nat → Value} (h : OnceSt N w W o A AB v) (hb : Below w.heap.size w w') : OnceSt N w' W o A AB v := ⟨h.rep.below hb, h.inv, h.ask.below hb, h.dj⟩
theorem OnceSt.start {N : Nat} {w : World} {W : Nat} {o : WOwn} (h : WRep N w W o AW.start) : OnceSt N (w.alloc (.cells #[.slice none 0 0, .slice none 0 0, .slice none 0 0] 72)) W o AW.start w.heap.size (fun _ => .slice none 0 0) := by
  refine ⟨h.below ((Below.refl _ _).alloc (Nat.le_refl _) _), WInv.start, ⟨h.size, heap_alloc_new w _, fun i _ => World.ownsRow_nil _ _ _ _, fun i _ => by simp [Value.ownBlock], fun i j _ _ _ b hb => by simp [Value.ownBlock] at hb⟩, fun b hb hm => ?_⟩
  rcases mem_aown.1 hb with rfl | ⟨i, _, hb⟩
  · have := (h.all_ge _ hm).2; omega
  · simp [Value.ownBlock] at hb
/-- The world turns. -/
theorem OnceSt.turn {N : Nat} {w w' : World} {W : Nat} {o : WOwn} {A A2 : AW} {AB : Nat} {v : Nat → Value} (h : OnceSt N w W o A AB v) (hT : WTurn N w W o w' A2) (hi : WInv A2) : ∃ o2, WRep N w' W o2 A2 ∧ WInv A2 ∧ AskRep N w' AB v (fun i => (A.cl i).calls) ∧ (∀ b, b ∈ aown AB v → b ∉ o2.all W) ∧ (∀ b, b < w.heap.size → b ∉ o.all W → b ∉ o2.all W ∧ w'.heap[b]? = w.heap[b]?) := by
  obtain ⟨o2, r2, n2⟩ := hT
  exact ⟨o2, r2, hi, h.ask.kept n2.kept h.dj, fun b hb => (n2.keep b (h.ask.lt b hb) (h.dj b hb)).1, n2.keep⟩

theorem three {w : World} {b : Nat} {x0 x1 x2 : Value} {e : TypeId} (h : w.heap[b]? = some (.cells #[x0, x1, x2] e (0, 0))) :
    (w.cell? ⟨b, 0, none⟩ = some x0 ∧ w.cell? ⟨b, 1, none⟩ = some x1 ∧ w.cell? ⟨b, 2, none⟩ = some x2) ∧ ∀ j, w.frozen? ⟨b, j, none⟩ = false := by
  refine ⟨⟨?_, ?_, ?_⟩, fun j => frozen_of_row w b j _ _ h⟩ <;> rw [cell_of_row w b _ _ _ _ h] <;> rfl

end Go.Proofs.YtmbhbnoifimeaabGreat

namespace Go.Proofs.YtmbhbnoifimeaabGreat
open Go.RowKit
set_option linter.unusedSimpArgs false
set_option linter.unusedVariables false

set_option maxRecDepth 100000 in
set_option maxHeartbeats 16000000 in
theorem once_walk (a0 : Option Addr) (n0 c0 : Nat) (ls : List AX) (w : World) (hl : XsAt w a0 n0 ls) :
    Calls Tryz.prog 4 #[.slice a0 n0 c0] w fun e w' => e = .returned (.bool true) ∧ Below w.heap.size w w' := by
  have HBG := hide worldBegun_any
  have HL := hide hl
  have HGR := hide (fun W (hb : Below w.heap.size w W) => greatSteps_any a0 n0 c0 ls W (hl.below hb))
  have HNEW := hide WNew_any
  clear hl
  go_enter Tryz.func4, Tryz.ntmps4
  go_wp2_with fail
  refine ((unhide HBG) _).mono ?_
  rintro e w1 ⟨rfl, b1⟩
  have HB1 := hide b1
  go_wp2_with fail
  refine ((unhide HGR) _ b1).mono ?_
  rintro e w2 ⟨⟨r, rfl, hr⟩, b2⟩
  have HB2 := hide (b1.trans (b2.mono b1.size))
  have HRF := hide hr
  clear b1 b2 HB1 hr
  cases r
  rotate_left 1
  · go_wp2
    go_ret
    exact ⟨rfl, unhide HB2⟩
  have hn0 := (unhide HRF) rfl
  clear HRF HBG HGR
  go_wp2_with fail
  refine ((unhide HNEW) _).mono ?_
  rintro e w3 ⟨W, o0, rfl, hr0, hb0⟩
  have HR0 := hide hr0
  have HB0 := hide hb0
  have hz2 : w.heap.size ≤ w2.heap.size := (unhide HB2).size
  clear hr0 hb0
  obtain ⟨i0, hi0, hz0, hz1, hz2'⟩ := info_parts infoC
  obtain ⟨VA, hVA⟩ : ∃ V, V = w3.alloc (.cells #[.slice none 0 0, .slice none 0 0, .slice none 0 0] 72) := ⟨_, rfl⟩
  have hBA : Below w3.heap.size w3 VA := by rw [hVA]; exact (Below.refl _ _).alloc (Nat.le_refl _) _
  have HO0 := hide (OnceSt.start (unhide HR0))
  have HBA := hide ((unhide HB0).trans (hBA.mono (unhide HB0).size))
  rw [← hVA] at HO0
  have HVA := hide hVA
  obtain ⟨AB, hAB⟩ : ∃ AB, AB = w3.heap.size := ⟨_, rfl⟩
  rw [← hAB] at HO0
  have HAB := hide hAB
  clear hVA hBA HR0 hAB
  go_wp2_with fail
  rw [← unhide HVA, ← unhide HAB]
  go_loopw [5, 6] (fun i _ wr => ∃ (q : Nat) (o : WOwn) (A : AW) (v : Nat → Value), q ≤ n0 ∧ i = .int .i64 (q : Int) ∧ Hid (OnceSt w2.heap.size wr W o A AB v) ∧ Hid (Below w2.heap.size w2 wr)) (fun i _ _ => n0 - (intOf i).toNat)
  case atStart => exact ⟨0, o0, AW.start, _, Nat.zero_le _, rfl, unhide HO0, unhide HBA⟩
  case round =>
    obtain ⟨q, o, A, v, hq, rfl, HO, HB⟩ := hrel
    have HBw := hide ((unhide HB2).trans ((unhide HB).mono hz2))
    by_cases hlt : (q : Int) < (n0 : Int)
    · obtain ⟨x, hx⟩ : ∃ x, ls[q]? = some x := ⟨_, List.getElem?_eq_getElem (by rw [(unhide HL).1]; omega)⟩
      obtain ⟨b, off, rfl, hc⟩ := ((unhide HL).below (unhide HBw)).2.2.2 (by omega)
      have hxa := hc q x hx
      have hsz := (unhide HL).2.2.1 x (List.mem_of_getElem? hx)
      obtain ⟨V, hV⟩ : ∃ V, V = wr.alloc (.cells #[.int .i64 x.kind, .int .i64 x.n, .int .i64 x.keep, .int .i64 x.call.kind, .string x.call.name, .string x.call.dst, .string x.call.text] 69) := ⟨_, rfl⟩
      have hBV : Below wr.heap.size wr V := by rw [hV]; exact (Below.refl _ _).alloc (Nat.le_refl _) _
      have hXV : V.heap[wr.heap.size]? = some (.cells #[.int .i64 x.kind, .int .i64 x.n, .int .i64 x.keep, .int .i64 x.call.kind, .string x.call.name, .string x.call.dst, .string x.call.text] 69 (0, 0)) := by rw [hV]; exact heap_alloc_new _ _
      have hlV : wr.heap.size < V.heap.size := (Array.getElem?_eq_some_iff.1 hXV).1
      have hoV := (unhide HO).below hBV
      have HST := hide (Step_any hoV.rep x hsz)
      have HTURN := hide (fun w' (hT : WTurn w2.heap.size V W o w' (A.step x).2) => hoV.turn hT (hoV.inv.step hsz))
      have HNOT := hide ((unhide HO).rep.not_new (Nat.le_refl _))
      have HASKr := hide (unhide HO).ask
      have HINV := hide (unhide HO).inv
      have HCALLS := hide (step_calls A x)
      have hqi : (0 : Int) ≤ (q : Int) := by omega
      have HBV2 := hide ((unhide HB).trans (hBV.mono (unhide HB).size))
      generalize A.step x = R at HST HTURN HCALLS
      obtain ⟨r1, A2⟩ := R
      dsimp only at HST HTURN HCALLS
      have HV := hide hV
      have HXV := hide hXV
      have HLV := hide hlV
      clear hc hx hsz hoV hBV hV hXV hlV
      obtain ⟨xk, xn, xp, ⟨ck, ca, cb, ct⟩⟩ := x
      obtain ⟨g0, g1, g2, g3, g4, g5, g6⟩ := hxa
      dsimp only [AX.val] at HST HXV HV HCALLS g0 g1 g2 g3 g4 g5 g6
      go_wp2_with fail
      rw [← unhide HV]
      refine (unhide HST).mono ?_
      rintro e w4 ⟨rfl, hT⟩
      have hb4 := hT.below
      obtain ⟨o4, hr4, hi4, hask4, hdj4, hkp⟩ := (unhide HTURN) _ hT
      have hX4 := (hkp _ (unhide HLV) (unhide HNOT)).2.trans (unhide HXV)
      have HR4 := hide hr4
      have HI2 := hide hi4
      have HASK := hide hask4
      have HDJ4 := hide hdj4
      have HX4 := hide hX4
      have HB4 := hide ((unhide HBV2).trans hb4)
      clear hT hb4 hr4 hi4 hask4 hdj4 hkp g0 g1 g2 g3 g4 g5 g6
      obtain ⟨⟨x0, x1, x2, x3⟩, ⟨x4, x5, x6⟩, xf⟩ := seven hX4
      clear hX4
      by_cases hask : xk = 1 ∧ r1 = 0
      · obtain ⟨rfl, rfl⟩ := hask
        have hcs := (unhide HCALLS).1 ⟨rfl, rfl⟩
        have HCS := hide hcs
        obtain ⟨hn0', hn2, _⟩ := hcs
        have hxc : xn = 0 ∨ xn = 1 ∨ xn = 2 := by omega
        have HCN := hide hn0'
        clear hn0' hn2 HCALLS HTURN HST
        rcases hxc with rfl | rfl | rfl
        · have hcs := (unhide HCS).2.2
          obtain ⟨k, hk⟩ : ∃ k, (A.cl 0).calls.length = k := ⟨_, rfl⟩
          have hrow := (unhide HASK).row 0 (by omega)
          obtain ⟨a, cap, hv⟩ := row_form hrow
          rw [hk] at hv hrow
          have hk2 : k ≤ 201 := by have h1 := calls_len (A.cl 0); have h2 := ((unhide HINV).cok 0 (by omega)).few; rw [hk] at h1; split at h1 <;> omega
          obtain ⟨cs, hcse⟩ : ∃ cs, (A.cl 0).calls = cs := ⟨_, rfl⟩
          rw [hcse] at hrow
          rw [hv] at hrow
          have HRow := hide (fun V1 (hb : Below w4.heap.size w4 V1) => ownsRow_same (w' := V1) hrow (fun k hk => hb.block k (hrow.lt k hk).2))
          have HABb := hide ((unhide HASK).blk)
          rw [hv] at HABb
          have HABl : Hid (AB < w4.heap.size) := (unhide HASK).lt AB (mem_aown.2 (.inl rfl))
          have HXl : Hid (wr.heap.size < w4.heap.size) := (Array.getElem?_eq_some_iff.1 (unhide HX4)).1
          have HNs : Hid (w2.heap.size ≤ w4.heap.size) := (unhide HB4).size
          have HNAB := hide ((unhide HASK).nAB 0 (by omega))
          rw [hv] at HNAB
          have HNXA : Hid (wr.heap.size ∉ aown AB v) := fun hm => by have := (unhide HASKr).lt _ hm; omega
          have HNX : Hid ((v 0).ownBlock ≠ some wr.heap.size) := fun e => (unhide HNXA) (mem_aown.2 (.inr ⟨0, by omega, e⟩))
          rw [hv] at HNX
          have HPUSH := hide (fun V1 w6 u (hb : Below w4.heap.size w4 V1) => (unhide HASK).push (V := V1) (w6 := w6) (u := u) (c := ⟨ck, ca, cb, ct⟩) (n := 0) (by omega) hb)
          rw [hv, hcse] at HPUSH
          rw [show cs.length = k by rw [← hcse]; exact hk] at HPUSH
          have HGEA : Hid (∀ b, b ∈ aown AB v → w2.heap.size ≤ b) := fun b hb => by
            rcases mem_aown.1 hb with rfl | ⟨i, hi, h⟩
            · exact (unhide HASK).new
            · exact (((unhide HASK).row i hi).lt b h).1
          have HFIN := hide (fun (W7 : World) u (h1 : AskRep w2.heap.size W7 AB (updV v 0 u) (fun i => if i = 0 then (A.cl i).calls ++ [⟨ck, ca, cb, ct⟩] else (A.cl i).calls)) (h2 : Kept (aown AB v) w4 W7) (h3 : ∀ b, b ∈ aown AB (updV v 0 u) → b ∈ aown AB v ∨ w4.heap.size ≤ b) => (⟨(unhide HR4).kept h2 (fun b hb hm => (unhide HDJ4) b hm hb), unhide HI2, h1.eq (fun i hi => (hcs i).trans (by rfl)), fun b hb hm => by
            rcases h3 b hb with h | h
            · exact (unhide HDJ4) b h hm
            · have := ((unhide HR4).all_ge b hm).2; omega⟩ : OnceSt w2.heap.size W7 W o4 A2 AB (updV v 0 u)))
          clear hcs hv hrow hk hcse HCS HCN
          go_wp2_with fail
          refine wp_region_held_drew (S := (fun wx => wx.heap[wr.heap.size]? = some (.cells #[.int .i64 1, .int .i64 0, .int .i64 xp, .int .i64 ck, .string ca, .string cb, .string ct] 69 (0, 0)))) (by kernel_rfl) (unhide HX4) (fun hHeld => ?_)
          refine wpAnyH_take (i := 0) (v := ?_) opn0 (by kernel_rfl) (by kernel_rfl) (by kernel_rfl) (fun _ _ _ h => h) (Or.inl ⟨by kernel_rfl, ?_⟩) (by assumption) ?_
          rotate_left 1
          · intro wz hSw
            try dsimp only at hSw
            go_simp
            all_goals with_reducible rfl
          try simp only [Act.put, List.setIfInBounds_toArray, List.set_cons_zero, List.set_cons_succ]
          refine wpAnyH_take (i := 1) (v := ?_) opn1 (by kernel_rfl) (by kernel_rfl) (by kernel_rfl) (fun _ _ _ h => h) (Or.inl ⟨by kernel_rfl, ?_⟩) (by assumption) ?_
          rotate_left 1
          · intro wz hSw
            try dsimp only at hSw
            obtain ⟨⟨x0, x1, x2, x3⟩, ⟨x4, x5, x6⟩, xf⟩ := seven hSw
            go_simp
            all_goals with_reducible rfl
          try simp only [Act.put, List.setIfInBounds_toArray, List.set_cons_zero, List.set_cons_succ]
          refine wpAnyH_take (i := 2) (v := ?_) opn2 (by kernel_rfl) (by kernel_rfl) (by kernel_rfl) (fun _ _ _ h => h) (Or.inl ⟨by kernel_rfl, ?_⟩) (by assumption) ?_
          rotate_left 1
          · intro wz hSw
            try dsimp only at hSw
            go_simp
            all_goals with_reducible rfl
          try simp only [Act.put, List.setIfInBounds_toArray, List.set_cons_zero, List.set_cons_succ]
          refine wpAnyH_take (i := 3) (v := ?_) opn3 (by kernel_rfl) (by kernel_rfl) (by kernel_rfl) (fun _ _ _ h => h) (Or.inl ⟨by kernel_rfl, ?_⟩) (by assumption) ?_
          rotate_left 1
          · intro wz hSw
            try dsimp only at hSw
            obtain ⟨⟨x0, x1, x2, x3⟩, ⟨x4, x5, x6⟩, xf⟩ := seven hSw
            go_simp
            all_goals with_reducible rfl
          try simp only [Act.put, List.setIfInBounds_toArray, List.set_cons_zero, List.set_cons_succ]
          refine wpAnyH_take (i := 4) (v := ?_) opn4 (by kernel_rfl) (by kernel_rfl) (by kernel_rfl) (fun _ _ _ h => h) (Or.inl ⟨by kernel_rfl, ?_⟩) (by assumption) ?_
          rotate_left 1
          · intro wz hSw
            try dsimp only at hSw
            go_simp
            all_goals with_reducible rfl
          try simp only [Act.put, List.setIfInBounds_toArray, List.set_cons_zero, List.set_cons_succ]
          refine wpAnyH_take (i := 6) (v := ?_) opn6 (by kernel_rfl) (by kernel_rfl) (by kernel_rfl) (fun _ _ _ h => h) (Or.inl ⟨by kernel_rfl, ?_⟩) (by assumption) ?_
          rotate_left 1
          · intro wz hSw
            try dsimp only at hSw
            go_simp
            all_goals with_reducible rfl
          try simp only [Act.put, List.setIfInBounds_toArray, List.set_cons_zero, List.set_cons_succ]
          refine wpAnyH_take (i := 7) (v := ?_) opn7 (by kernel_rfl) (by kernel_rfl) (by kernel_rfl) (fun _ _ _ h => h) (Or.inl ⟨by kernel_rfl, ?_⟩) (by assumption) ?_
          rotate_left 1
          · intro wz hSw
            try dsimp only at hSw
            obtain ⟨⟨x0, x1, x2, x3⟩, ⟨x4, x5, x6⟩, xf⟩ := seven hSw
            go_simp
            all_goals with_reducible rfl
          try simp only [Act.put, List.setIfInBounds_toArray, List.set_cons_zero, List.set_cons_succ]
          refine wpAnyH_ready (rs := [5, 8]) (by kernel_rfl) (by simp) ?_
          refine AllReadyH.cons opn5 (fun K hK => ?_) (AllReadyH.cons opn8 (fun K hK => ?_) (AllReadyH.nil))
          · rw [if_pos (by kernel_rfl)]
            obtain ⟨⟨d0, d1, d2⟩, df⟩ := three (unhide HABb)
            go_simp
            clear d0 d1 d2 df
            refine hK.out _ _ (hHeld) (fun hHeldN => ?_)
            clear hHeld hK K
            have hHeld := hHeldN
            clear hHeldN
            try simp only [Act.put, List.setIfInBounds_toArray, List.set_cons_zero, List.set_cons_succ]
            refine wpAnyH_ready (rs := [8]) (by kernel_rfl) (by simp) ?_
            refine AllReadyH.cons opn8 (fun K hK => ?_) AllReadyH.nil
            rw [if_pos (by kernel_rfl)]
            go_simp
            have hba := below_alloc_drew w4 (.cells #[.int .i64 ck, .string ca, .string cb, .string ct] 32)
            have HZ := hide (alloc_drew_new w4 (.cells #[.int .i64 ck, .string ca, .string cb, .string ct] 32))
            refine hK.out _ _ ((hba.block wr.heap.size (unhide HXl)).trans hHeld) (fun hHeldN => ?_)
            clear hHeld hK K
            have hHeld := hHeldN
            clear hHeldN
            try simp only [Act.put, List.setIfInBounds_toArray, List.set_cons_zero, List.set_cons_succ]
            generalize (w4.alloc (.cells #[.int .i64 ck, .string ca, .string cb, .string ct] 32)).drew = V1 at hba HZ hHeld ⊢
            refine wpAnyH_ready (rs := [9]) (by kernel_rfl) (by simp) ?_
            refine AllReadyH.cons opn9 (fun K hK => ?_) AllReadyH.nil
            refine step_app (by rfl) (.tmp 56) (.tmp 59) 71 (by rfl) w2.heap.size 32 i0 _ 4 56 Tryz.underlying71 hi0 hz0 hz1 hz2' rfl (by omega) (.slice a k cap) k (cs.flatMap ccells) (by simp [Act.eval]) ((unhide HRow) _ hba) (.slice (some ⟨w4.heap.size, 0, none⟩) 1 1) 1 [.int .i64 ck, .string ca, .string cb, .string ct] (by simp [Act.eval]) (lies_block (unhide HZ) 1 1) (by rfl) (by simp [Value.oneCell']) (by unfold maxLen; omega) (by omega) (Nat.le_trans (unhide HNs) hba.size) ?_
            intro ad c6 w6 hown6 hgrow6 hat6
            have hab6 : w6.heap[AB]? = V1.heap[AB]? := hgrow6.block AB (Nat.lt_of_lt_of_le (unhide HABl) hba.size) (fun e => (unhide HNAB) e.symm)
            have hx6 : w6.heap[wr.heap.size]? = V1.heap[wr.heap.size]? := hgrow6.block wr.heap.size (Nat.lt_of_lt_of_le (unhide HXl) hba.size) (fun e => (unhide HNX) e.symm)
            obtain ⟨⟨d0, d1, d2⟩, df⟩ := three (hab6.trans ((hba.block AB (unhide HABl)).trans (unhide HABb)))
            have df0 := df 0
            refine hK.out _ _ (hx6.trans hHeld) (fun hHeldN => ?_)
            clear hHeld hK K
            have hHeld := hHeldN
            clear hHeldN
            try simp only [Act.put, List.setIfInBounds_toArray, List.set_cons_zero, List.set_cons_succ]
            refine wpAnyH_take (i := 10) (v := ?_) opn10 (by kernel_rfl) (by kernel_rfl) (by kernel_rfl) (fun _ _ _ h => h) (Or.inl ⟨by kernel_rfl, ?_⟩) (by assumption) ?_
            rotate_left 1
            · intro wz hSw
              try dsimp only at hSw
              go_simp
              all_goals with_reducible rfl
            try simp only [Act.put, List.setIfInBounds_toArray, List.set_cons_zero, List.set_cons_succ]
            refine wpAnyH_ready (rs := [11]) (by kernel_rfl) (by simp) ?_
            refine AllReadyH.cons opn11 (fun K hK => ?_) AllReadyH.nil
            rw [if_pos (by kernel_rfl)]
            go_simp
            clear d0 d1 d2 df df0
            obtain ⟨hp1, hp2, hp3⟩ := (unhide HPUSH) V1 w6 _ hba hgrow6 hown6 hat6
            have hx7 := hp2.block wr.heap.size (unhide HXl) (unhide HNXA)
            refine hK.out _ _ (hx7.trans (unhide HX4)) (fun hHeldN => ?_)
            clear hHeld hK K
            have hHeld := hHeldN
            clear hHeldN
            try simp only [Act.put, List.setIfInBounds_toArray, List.set_cons_zero, List.set_cons_succ]
            generalize w6.setCell ⟨AB, 0, none⟩ (.slice ad (k + 1) c6) = W7 at hp1 hp2 hp3 hHeld hx7 ⊢
            refine wpAnyH_done (by kernel_rfl) ?_ _
            have HF := hide ((unhide HFIN) _ _ hp1 hp2 hp3)
            have HB7 := hide ((unhide HB4).trans (hp2.below (unhide HB4).size (unhide HGEA)))
            clear hp1 hp2 hp3 hx7 hx6 hab6 hown6 hgrow6 hat6 hHeld hba
            go_wp2
            go_roundw
            case rel => exact ⟨q + 1, o4, A2, _, by omega, by go_num, unhide HF, unhide HB7⟩
            case measure => simp [intOf]; omega
          · rw [if_pos (by kernel_rfl)]
            go_simp
            have hba := below_alloc_drew w4 (.cells #[.int .i64 ck, .string ca, .string cb, .string ct] 32)
            have HZ := hide (alloc_drew_new w4 (.cells #[.int .i64 ck, .string ca, .string cb, .string ct] 32))
            refine hK.out _ _ ((hba.block wr.heap.size (unhide HXl)).trans hHeld) (fun hHeldN => ?_)
            clear hHeld hK K
            have hHeld := hHeldN
            clear hHeldN
            try simp only [Act.put, List.setIfInBounds_toArray, List.set_cons_zero, List.set_cons_succ]
            generalize (w4.alloc (.cells #[.int .i64 ck, .string ca, .string cb, .string ct] 32)).drew = V1 at hba HZ hHeld ⊢
            obtain ⟨⟨d0, d1, d2⟩, df⟩ := three ((hba.block AB (unhide HABl)).trans (unhide HABb))
            refine wpAnyH_ready (rs := [5]) (by kernel_rfl) (by simp) ?_
            refine AllReadyH.cons opn5 (fun K hK => ?_) AllReadyH.nil
            rw [if_pos (by kernel_rfl)]
            go_simp
            clear d0 d1 d2 df
            refine hK.out _ _ (hHeld) (fun hHeldN => ?_)
            clear hHeld hK K
            have hHeld := hHeldN
            clear hHeldN
            try simp only [Act.put, List.setIfInBounds_toArray, List.set_cons_zero, List.set_cons_succ]
            refine wpAnyH_ready (rs := [9]) (by kernel_rfl) (by simp) ?_
            refine AllReadyH.cons opn9 (fun K hK => ?_) AllReadyH.nil
            refine step_app (by rfl) (.tmp 56) (.tmp 59) 71 (by rfl) w2.heap.size 32 i0 _ 4 56 Tryz.underlying71 hi0 hz0 hz1 hz2' rfl (by omega) (.slice a k cap) k (cs.flatMap ccells) (by simp [Act.eval]) ((unhide HRow) _ hba) (.slice (some ⟨w4.heap.size, 0, none⟩) 1 1) 1 [.int .i64 ck, .string ca, .string cb, .string ct] (by simp [Act.eval]) (lies_block (unhide HZ) 1 1) (by rfl) (by simp [Value.oneCell']) (by unfold maxLen; omega) (by omega) (Nat.le_trans (unhide HNs) hba.size) ?_
            intro ad c6 w6 hown6 hgrow6 hat6
            have hab6 : w6.heap[AB]? = V1.heap[AB]? := hgrow6.block AB (Nat.lt_of_lt_of_le (unhide HABl) hba.size) (fun e => (unhide HNAB) e.symm)
            have hx6 : w6.heap[wr.heap.size]? = V1.heap[wr.heap.size]? := hgrow6.block wr.heap.size (Nat.lt_of_lt_of_le (unhide HXl) hba.size) (fun e => (unhide HNX) e.symm)
            obtain ⟨⟨d0, d1, d2⟩, df⟩ := three (hab6.trans ((hba.block AB (unhide HABl)).trans (unhide HABb)))
            have df0 := df 0
            refine hK.out _ _ (hx6.trans hHeld) (fun hHeldN => ?_)
            clear hHeld hK K
            have hHeld := hHeldN
            clear hHeldN
            try simp only [Act.put, List.setIfInBounds_toArray, List.set_cons_zero, List.set_cons_succ]
            refine wpAnyH_take (i := 10) (v := ?_) opn10 (by kernel_rfl) (by kernel_rfl) (by kernel_rfl) (fun _ _ _ h => h) (Or.inl ⟨by kernel_rfl, ?_⟩) (by assumption) ?_
            rotate_left 1
            · intro wz hSw
              try dsimp only at hSw
              go_simp
              all_goals with_reducible rfl
            try simp only [Act.put, List.setIfInBounds_toArray, List.set_cons_zero, List.set_cons_succ]
            refine wpAnyH_ready (rs := [11]) (by kernel_rfl) (by simp) ?_
            refine AllReadyH.cons opn11 (fun K hK => ?_) AllReadyH.nil
            rw [if_pos (by kernel_rfl)]
            go_simp
            clear d0 d1 d2 df df0
            obtain ⟨hp1, hp2, hp3⟩ := (unhide HPUSH) V1 w6 _ hba hgrow6 hown6 hat6
            have hx7 := hp2.block wr.heap.size (unhide HXl) (unhide HNXA)
            refine hK.out _ _ (hx7.trans (unhide HX4)) (fun hHeldN => ?_)
            clear hHeld hK K
            have hHeld := hHeldN
            clear hHeldN
            try simp only [Act.put, List.setIfInBounds_toArray, List.set_cons_zero, List.set_cons_succ]
            generalize w6.setCell ⟨AB, 0, none⟩ (.slice ad (k + 1) c6) = W7 at hp1 hp2 hp3 hHeld hx7 ⊢
            refine wpAnyH_done (by kernel_rfl) ?_ _
            have HF := hide ((unhide HFIN) _ _ hp1 hp2 hp3)
            have HB7 := hide ((unhide HB4).trans (hp2.below (unhide HB4).size (unhide HGEA)))
            clear hp1 hp2 hp3 hx7 hx6 hab6 hown6 hgrow6 hat6 hHeld hba
            go_wp2
            go_roundw
            case rel => exact ⟨q + 1, o4, A2, _, by omega, by go_num, unhide HF, unhide HB7⟩
            case measure => simp [intOf]; omega
        · have hcs := (unhide HCS).2.2
          obtain ⟨k, hk⟩ : ∃ k, (A.cl 1).calls.length = k := ⟨_, rfl⟩
          have hrow := (unhide HASK).row 1 (by omega)
          obtain ⟨a, cap, hv⟩ := row_form hrow
          rw [hk] at hv hrow
          have hk2 : k ≤ 201 := by have h1 := calls_len (A.cl 1); have h2 := ((unhide HINV).cok 1 (by omega)).few; rw [hk] at h1; split at h1 <;> omega
          obtain ⟨cs, hcse⟩ : ∃ cs, (A.cl 1).calls = cs := ⟨_, rfl⟩
          rw [hcse] at hrow
          rw [hv] at hrow
          have HRow := hide (fun V1 (hb : Below w4.heap.size w4 V1) => ownsRow_same (w' := V1) hrow (fun k hk => hb.block k (hrow.lt k hk).2))
          have HABb := hide ((unhide HASK).blk)
          rw [hv] at HABb
          have HABl : Hid (AB < w4.heap.size) := (unhide HASK).lt AB (mem_aown.2 (.inl rfl))
          have HXl : Hid (wr.heap.size < w4.heap.size) := (Array.getElem?_eq_some_iff.1 (unhide HX4)).1
          have HNs : Hid (w2.heap.size ≤ w4.heap.size) := (unhide HB4).size
          have HNAB := hide ((unhide HASK).nAB 1 (by omega))
          rw [hv] at HNAB
          have HNXA : Hid (wr.heap.size ∉ aown AB v) := fun hm => by have := (unhide HASKr).lt _ hm; omega
          have HNX : Hid ((v 1).ownBlock ≠ some wr.heap.size) := fun e => (unhide HNXA) (mem_aown.2 (.inr ⟨1, by omega, e⟩))
          rw [hv] at HNX
          have HPUSH := hide (fun V1 w6 u (hb : Below w4.heap.size w4 V1) => (unhide HASK).push (V := V1) (w6 := w6) (u := u) (c := ⟨ck, ca, cb, ct⟩) (n := 1) (by omega) hb)
          rw [hv, hcse] at HPUSH
          rw [show cs.length = k by rw [← hcse]; exact hk] at HPUSH
          have HGEA : Hid (∀ b, b ∈ aown AB v → w2.heap.size ≤ b) := fun b hb => by
            rcases mem_aown.1 hb with rfl | ⟨i, hi, h⟩
            · exact (unhide HASK).new
            · exact (((unhide HASK).row i hi).lt b h).1
          have HFIN := hide (fun (W7 : World) u (h1 : AskRep w2.heap.size W7 AB (updV v 1 u) (fun i => if i = 1 then (A.cl i).calls ++ [⟨ck, ca, cb, ct⟩] else (A.cl i).calls)) (h2 : Kept (aown AB v) w4 W7) (h3 : ∀ b, b ∈ aown AB (updV v 1 u) → b ∈ aown AB v ∨ w4.heap.size ≤ b) => (⟨(unhide HR4).kept h2 (fun b hb hm => (unhide HDJ4) b hm hb), unhide HI2, h1.eq (fun i hi => (hcs i).trans (by rfl)), fun b hb hm => by
            rcases h3 b hb with h | h
            · exact (unhide HDJ4) b h hm
            · have := ((unhide HR4).all_ge b hm).2; omega⟩ : OnceSt w2.heap.size W7 W o4 A2 AB (updV v 1 u)))
          clear hcs hv hrow hk hcse HCS HCN
          go_wp2_with fail
          refine wp_region_held_drew (S := (fun wx => wx.heap[wr.heap.size]? = some (.cells #[.int .i64 1, .int .i64 1, .int .i64 xp, .int .i64 ck, .string ca, .string cb, .string ct] 69 (0, 0)))) (by kernel_rfl) (unhide HX4) (fun hHeld => ?_)
          refine wpAnyH_take (i := 0) (v := ?_) opn0 (by kernel_rfl) (by kernel_rfl) (by kernel_rfl) (fun _ _ _ h => h) (Or.inl ⟨by kernel_rfl, ?_⟩) (by assumption) ?_
          rotate_left 1
          · intro wz hSw
            try dsimp only at hSw
            go_simp
            all_goals with_reducible rfl
          try simp only [Act.put, List.setIfInBounds_toArray, List.set_cons_zero, List.set_cons_succ]
          refine wpAnyH_take (i := 1) (v := ?_) opn1 (by kernel_rfl) (by kernel_rfl) (by kernel_rfl) (fun _ _ _ h => h) (Or.inl ⟨by kernel_rfl, ?_⟩) (by assumption) ?_
          rotate_left 1
          · intro wz hSw
            try dsimp only at hSw
            obtain ⟨⟨x0, x1, x2, x3⟩, ⟨x4, x5, x6⟩, xf⟩ := seven hSw
            go_simp
            all_goals with_reducible rfl
          try simp only [Act.put, List.setIfInBounds_toArray, List.set_cons_zero, List.set_cons_succ]
          refine wpAnyH_take (i := 2) (v := ?_) opn2 (by kernel_rfl) (by kernel_rfl) (by kernel_rfl) (fun _ _ _ h => h) (Or.inl ⟨by kernel_rfl, ?_⟩) (by assumption) ?_
          rotate_left 1
          · intro wz hSw
            try dsimp only at hSw
            go_simp
            all_goals with_reducible rfl
          try simp only [Act.put, List.setIfInBounds_toArray, List.set_cons_zero, List.set_cons_succ]
          refine wpAnyH_take (i := 3) (v := ?_) opn3 (by kernel_rfl) (by kernel_rfl) (by kernel_rfl) (fun _ _ _ h => h) (Or.inl ⟨by kernel_rfl, ?_⟩) (by assumption) ?_
          rotate_left 1
          · intro wz hSw
            try dsimp only at hSw
            obtain ⟨⟨x0, x1, x2, x3⟩, ⟨x4, x5, x6⟩, xf⟩ := seven hSw
            go_simp
            all_goals with_reducible rfl
          try simp only [Act.put, List.setIfInBounds_toArray, List.set_cons_zero, List.set_cons_succ]
          refine wpAnyH_take (i := 4) (v := ?_) opn4 (by kernel_rfl) (by kernel_rfl) (by kernel_rfl) (fun _ _ _ h => h) (Or.inl ⟨by kernel_rfl, ?_⟩) (by assumption) ?_
          rotate_left 1
          · intro wz hSw
            try dsimp only at hSw
            go_simp
            all_goals with_reducible rfl
          try simp only [Act.put, List.setIfInBounds_toArray, List.set_cons_zero, List.set_cons_succ]
          refine wpAnyH_take (i := 6) (v := ?_) opn6 (by kernel_rfl) (by kernel_rfl) (by kernel_rfl) (fun _ _ _ h => h) (Or.inl ⟨by kernel_rfl, ?_⟩) (by assumption) ?_
          rotate_left 1
          · intro wz hSw
            try dsimp only at hSw
            go_simp
            all_goals with_reducible rfl
          try simp only [Act.put, List.setIfInBounds_toArray, List.set_cons_zero, List.set_cons_succ]
          refine wpAnyH_take (i := 7) (v := ?_) opn7 (by kernel_rfl) (by kernel_rfl) (by kernel_rfl) (fun _ _ _ h => h) (Or.inl ⟨by kernel_rfl, ?_⟩) (by assumption) ?_
          rotate_left 1
          · intro wz hSw
            try dsimp only at hSw
            obtain ⟨⟨x0, x1, x2, x3⟩, ⟨x4, x5, x6⟩, xf⟩ := seven hSw
            go_simp
            all_goals with_reducible rfl
          try simp only [Act.put, List.setIfInBounds_toArray, List.set_cons_zero, List.set_cons_succ]
          refine wpAnyH_ready (rs := [5, 8]) (by kernel_rfl) (by simp) ?_
          refine AllReadyH.cons opn5 (fun K hK => ?_) (AllReadyH.cons opn8 (fun K hK => ?_) (AllReadyH.nil))
          · rw [if_pos (by kernel_rfl)]
            obtain ⟨⟨d0, d1, d2⟩, df⟩ := three (unhide HABb)
            go_simp
            clear d0 d1 d2 df
            refine hK.out _ _ (hHeld) (fun hHeldN => ?_)
            clear hHeld hK K
            have hHeld := hHeldN
            clear hHeldN
            try simp only [Act.put, List.setIfInBounds_toArray, List.set_cons_zero, List.set_cons_succ]
            refine wpAnyH_ready (rs := [8]) (by kernel_rfl) (by simp) ?_
            refine AllReadyH.cons opn8 (fun K hK => ?_) AllReadyH.nil
            rw [if_pos (by kernel_rfl)]
            go_simp
            have hba := below_alloc_drew w4 (.cells #[.int .i64 ck, .string ca, .string cb, .string ct] 32)
            have HZ := hide (alloc_drew_new w4 (.cells #[.int .i64 ck, .string ca, .string cb, .string ct] 32))
            refine hK.out _ _ ((hba.block wr.heap.size (unhide HXl)).trans hHeld) (fun hHeldN => ?_)
            clear hHeld hK K
            have hHeld := hHeldN
            clear hHeldN
            try simp only [Act.put, List.setIfInBounds_toArray, List.set_cons_zero, List.set_cons_succ]
            generalize (w4.alloc (.cells #[.int .i64 ck, .string ca, .string cb, .string ct] 32)).drew = V1 at hba HZ hHeld ⊢
            refine wpAnyH_ready (rs := [9]) (by kernel_rfl) (by simp) ?_
            refine AllReadyH.cons opn9 (fun K hK => ?_) AllReadyH.nil
            refine step_app (by rfl) (.tmp 56) (.tmp 59) 71 (by rfl) w2.heap.size 32 i0 _ 4 56 Tryz.underlying71 hi0 hz0 hz1 hz2' rfl (by omega) (.slice a k cap) k (cs.flatMap ccells) (by simp [Act.eval]) ((unhide HRow) _ hba) (.slice (some ⟨w4.heap.size, 0, none⟩) 1 1) 1 [.int .i64 ck, .string ca, .string cb, .string ct] (by simp [Act.eval]) (lies_block (unhide HZ) 1 1) (by rfl) (by simp [Value.oneCell']) (by unfold maxLen; omega) (by omega) (Nat.le_trans (unhide HNs) hba.size) ?_
            intro ad c6 w6 hown6 hgrow6 hat6
            have hab6 : w6.heap[AB]? = V1.heap[AB]? := hgrow6.block AB (Nat.lt_of_lt_of_le (unhide HABl) hba.size) (fun e => (unhide HNAB) e.symm)
            have hx6 : w6.heap[wr.heap.size]? = V1.heap[wr.heap.size]? := hgrow6.block wr.heap.size (Nat.lt_of_lt_of_le (unhide HXl) hba.size) (fun e => (unhide HNX) e.symm)
            obtain ⟨⟨d0, d1, d2⟩, df⟩ := three (hab6.trans ((hba.block AB (unhide HABl)).trans (unhide HABb)))
            have df0 := df 1
            refine hK.out _ _ (hx6.trans hHeld) (fun hHeldN => ?_)
            clear hHeld hK K
            have hHeld := hHeldN
            clear hHeldN
            try simp only [Act.put, List.setIfInBounds_toArray, List.set_cons_zero, List.set_cons_succ]
            refine wpAnyH_take (i := 10) (v := ?_) opn10 (by kernel_rfl) (by kernel_rfl) (by kernel_rfl) (fun _ _ _ h => h) (Or.inl ⟨by kernel_rfl, ?_⟩) (by assumption) ?_
            rotate_left 1
            · intro wz hSw
              try dsimp only at hSw
              go_simp
              all_goals with_reducible rfl
            try simp only [Act.put, List.setIfInBounds_toArray, List.set_cons_zero, List.set_cons_succ]
            refine wpAnyH_ready (rs := [11]) (by kernel_rfl) (by simp) ?_
            refine AllReadyH.cons opn11 (fun K hK => ?_) AllReadyH.nil
            rw [if_pos (by kernel_rfl)]
            go_simp
            clear d0 d1 d2 df df0
            obtain ⟨hp1, hp2, hp3⟩ := (unhide HPUSH) V1 w6 _ hba hgrow6 hown6 hat6
            have hx7 := hp2.block wr.heap.size (unhide HXl) (unhide HNXA)
            refine hK.out _ _ (hx7.trans (unhide HX4)) (fun hHeldN => ?_)
            clear hHeld hK K
            have hHeld := hHeldN
            clear hHeldN
            try simp only [Act.put, List.setIfInBounds_toArray, List.set_cons_zero, List.set_cons_succ]
            generalize w6.setCell ⟨AB, 1, none⟩ (.slice ad (k + 1) c6) = W7 at hp1 hp2 hp3 hHeld hx7 ⊢
            refine wpAnyH_done (by kernel_rfl) ?_ _
            have HF := hide ((unhide HFIN) _ _ hp1 hp2 hp3)
            have HB7 := hide ((unhide HB4).trans (hp2.below (unhide HB4).size (unhide HGEA)))
            clear hp1 hp2 hp3 hx7 hx6 hab6 hown6 hgrow6 hat6 hHeld hba
            go_wp2
            go_roundw
            case rel => exact ⟨q + 1, o4, A2, _, by omega, by go_num, unhide HF, unhide HB7⟩
            case measure => simp [intOf]; omega
          · rw [if_pos (by kernel_rfl)]
            go_simp
            have hba := below_alloc_drew w4 (.cells #[.int .i64 ck, .string ca, .string cb, .string ct] 32)
            have HZ := hide (alloc_drew_new w4 (.cells #[.int .i64 ck, .string ca, .string cb, .string ct] 32))
            refine hK.out _ _ ((hba.block wr.heap.size (unhide HXl)).trans hHeld) (fun hHeldN => ?_)
            clear hHeld hK K
            have hHeld := hHeldN
            clear hHeldN
            try simp only [Act.put, List.setIfInBounds_toArray, List.set_cons_zero, List.set_cons_succ]
            generalize (w4.alloc (.cells #[.int .i64 ck, .string ca, .string cb, .string ct] 32)).drew = V1 at hba HZ hHeld ⊢
            obtain ⟨⟨d0, d1, d2⟩, df⟩ := three ((hba.block AB (unhide HABl)).trans (unhide HABb))
            refine wpAnyH_ready (rs := [5]) (by kernel_rfl) (by simp) ?_
            refine AllReadyH.cons opn5 (fun K hK => ?_) AllReadyH.nil
            rw [if_pos (by kernel_rfl)]
            go_simp
            clear d0 d1 d2 df
            refine hK.out _ _ (hHeld) (fun hHeldN => ?_)
            clear hHeld hK K
            have hHeld := hHeldN
            clear hHeldN
            try simp only [Act.put, List.setIfInBounds_toArray, List.set_cons_zero, List.set_cons_succ]
            refine wpAnyH_ready (rs := [9]) (by kernel_rfl) (by simp) ?_
            refine AllReadyH.cons opn9 (fun K hK => ?_) AllReadyH.nil
            refine step_app (by rfl) (.tmp 56) (.tmp 59) 71 (by rfl) w2.heap.size 32 i0 _ 4 56 Tryz.underlying71 hi0 hz0 hz1 hz2' rfl (by omega) (.slice a k cap) k (cs.flatMap ccells) (by simp [Act.eval]) ((unhide HRow) _ hba) (.slice (some ⟨w4.heap.size, 0, none⟩) 1 1) 1 [.int .i64 ck, .string ca, .string cb, .string ct] (by simp [Act.eval]) (lies_block (unhide HZ) 1 1) (by rfl) (by simp [Value.oneCell']) (by unfold maxLen; omega) (by omega) (Nat.le_trans (unhide HNs) hba.size) ?_
            intro ad c6 w6 hown6 hgrow6 hat6
            have hab6 : w6.heap[AB]? = V1.heap[AB]? := hgrow6.block AB (Nat.lt_of_lt_of_le (unhide HABl) hba.size) (fun e => (unhide HNAB) e.symm)
            have hx6 : w6.heap[wr.heap.size]? = V1.heap[wr.heap.size]? := hgrow6.block wr.heap.size (Nat.lt_of_lt_of_le (unhide HXl) hba.size) (fun e => (unhide HNX) e.symm)
            obtain ⟨⟨d0, d1, d2⟩, df⟩ := three (hab6.trans ((hba.block AB (unhide HABl)).trans (unhide HABb)))
            have df0 := df 1
            refine hK.out _ _ (hx6.trans hHeld) (fun hHeldN => ?_)
            clear hHeld hK K
            have hHeld := hHeldN
            clear hHeldN
            try simp only [Act.put, List.setIfInBounds_toArray, List.set_cons_zero, List.set_cons_succ]
            refine wpAnyH_take (i := 10) (v := ?_) opn10 (by kernel_rfl) (by kernel_rfl) (by kernel_rfl) (fun _ _ _ h => h) (Or.inl ⟨by kernel_rfl, ?_⟩) (by assumption) ?_
            rotate_left 1
            · intro wz hSw
              try dsimp only at hSw
              go_simp
              all_goals with_reducible rfl
            try simp only [Act.put, List.setIfInBounds_toArray, List.set_cons_zero, List.set_cons_succ]
            refine wpAnyH_ready (rs := [11]) (by kernel_rfl) (by simp) ?_
            refine AllReadyH.cons opn11 (fun K hK => ?_) AllReadyH.nil
            rw [if_pos (by kernel_rfl)]
            go_simp
            clear d0 d1 d2 df df0
            obtain ⟨hp1, hp2, hp3⟩ := (unhide HPUSH) V1 w6 _ hba hgrow6 hown6 hat6
            have hx7 := hp2.block wr.heap.size (unhide HXl) (unhide HNXA)
            refine hK.out _ _ (hx7.trans (unhide HX4)) (fun hHeldN => ?_)
            clear hHeld hK K
            have hHeld := hHeldN
            clear hHeldN
            try simp only [Act.put, List.setIfInBounds_toArray, List.set_cons_zero, List.set_cons_succ]
            generalize w6.setCell ⟨AB, 1, none⟩ (.slice ad (k + 1) c6) = W7 at hp1 hp2 hp3 hHeld hx7 ⊢
            refine wpAnyH_done (by kernel_rfl) ?_ _
            have HF := hide ((unhide HFIN) _ _ hp1 hp2 hp3)
            have HB7 := hide ((unhide HB4).trans (hp2.below (unhide HB4).size (unhide HGEA)))
            clear hp1 hp2 hp3 hx7 hx6 hab6 hown6 hgrow6 hat6 hHeld hba
            go_wp2
            go_roundw
            case rel => exact ⟨q + 1, o4, A2, _, by omega, by go_num, unhide HF, unhide HB7⟩
            case measure => simp [intOf]; omega
        · have hcs := (unhide HCS).2.2
          obtain ⟨k, hk⟩ : ∃ k, (A.cl 2).calls.length = k := ⟨_, rfl⟩
          have hrow := (unhide HASK).row 2 (by omega)
          obtain ⟨a, cap, hv⟩ := row_form hrow
          rw [hk] at hv hrow
          have hk2 : k ≤ 201 := by have h1 := calls_len (A.cl 2); have h2 := ((unhide HINV).cok 2 (by omega)).few; rw [hk] at h1; split at h1 <;> omega
          obtain ⟨cs, hcse⟩ : ∃ cs, (A.cl 2).calls = cs := ⟨_, rfl⟩
          rw [hcse] at hrow
          rw [hv] at hrow
          have HRow := hide (fun V1 (hb : Below w4.heap.size w4 V1) => ownsRow_same (w' := V1) hrow (fun k hk => hb.block k (hrow.lt k hk).2))
          have HABb := hide ((unhide HASK).blk)
          rw [hv] at HABb
          have HABl : Hid (AB < w4.heap.size) := (unhide HASK).lt AB (mem_aown.2 (.inl rfl))
          have HXl : Hid (wr.heap.size < w4.heap.size) := (Array.getElem?_eq_some_iff.1 (unhide HX4)).1
          have HNs : Hid (w2.heap.size ≤ w4.heap.size) := (unhide HB4).size
          have HNAB := hide ((unhide HASK).nAB 2 (by omega))
          rw [hv] at HNAB
          have HNXA : Hid (wr.heap.size ∉ aown AB v) := fun hm => by have := (unhide HASKr).lt _ hm; omega
          have HNX : Hid ((v 2).ownBlock ≠ some wr.heap.size) := fun e => (unhide HNXA) (mem_aown.2 (.inr ⟨2, by omega, e⟩))
          rw [hv] at HNX
          have HPUSH := hide (fun V1 w6 u (hb : Below w4.heap.size w4 V1) => (unhide HASK).push (V := V1) (w6 := w6) (u := u) (c := ⟨ck, ca, cb, ct⟩) (n := 2) (by omega) hb)
          rw [hv, hcse] at HPUSH
          rw [show cs.length = k by rw [← hcse]; exact hk] at HPUSH
          have HGEA : Hid (∀ b, b ∈ aown AB v → w2.heap.size ≤ b) := fun b hb => by
            rcases mem_aown.1 hb with rfl | ⟨i, hi, h⟩
            · exact (unhide HASK).new
            · exact (((unhide HASK).row i hi).lt b h).1
          have HFIN := hide (fun (W7 : World) u (h1 : AskRep w2.heap.size W7 AB (updV v 2 u) (fun i => if i = 2 then (A.cl i).calls ++ [⟨ck, ca, cb, ct⟩] else (A.cl i).calls)) (h2 : Kept (aown AB v) w4 W7) (h3 : ∀ b, b ∈ aown AB (updV v 2 u) → b ∈ aown AB v ∨ w4.heap.size ≤ b) => (⟨(unhide HR4).kept h2 (fun b hb hm => (unhide HDJ4) b hm hb), unhide HI2, h1.eq (fun i hi => (hcs i).trans (by rfl)), fun b hb hm => by
            rcases h3 b hb with h | h
            · exact (unhide HDJ4) b h hm
            · have := ((unhide HR4).all_ge b hm).2; omega⟩ : OnceSt w2.heap.size W7 W o4 A2 AB (updV v 2 u)))
          clear hcs hv hrow hk hcse HCS HCN
          go_wp2_with fail
          refine wp_region_held_drew (S := (fun wx => wx.heap[wr.heap.size]? = some (.cells #[.int .i64 1, .int .i64 2, .int .i64 xp, .int .i64 ck, .string ca, .string cb, .string ct] 69 (0, 0)))) (by kernel_rfl) (unhide HX4) (fun hHeld => ?_)
          refine wpAnyH_take (i := 0) (v := ?_) opn0 (by kernel_rfl) (by kernel_rfl) (by kernel_rfl) (fun _ _ _ h => h) (Or.inl ⟨by kernel_rfl, ?_⟩) (by assumption) ?_
          rotate_left 1
          · intro wz hSw
            try dsimp only at hSw
            go_simp
            all_goals with_reducible rfl
          try simp only [Act.put, List.setIfInBounds_toArray, List.set_cons_zero, List.set_cons_succ]
          refine wpAnyH_take (i := 1) (v := ?_) opn1 (by kernel_rfl) (by kernel_rfl) (by kernel_rfl) (fun _ _ _ h => h) (Or.inl ⟨by kernel_rfl, ?_⟩) (by assumption) ?_
          rotate_left 1
          · intro wz hSw
            try dsimp only at hSw
            obtain ⟨⟨x0, x1, x2, x3⟩, ⟨x4, x5, x6⟩, xf⟩ := seven hSw
            go_simp
            all_goals with_reducible rfl
          try simp only [Act.put, List.setIfInBounds_toArray, List.set_cons_zero, List.set_cons_succ]
          refine wpAnyH_take (i := 2) (v := ?_) opn2 (by kernel_rfl) (by kernel_rfl) (by kernel_rfl) (fun _ _ _ h => h) (Or.inl ⟨by kernel_rfl, ?_⟩) (by assumption) ?_
          rotate_left 1
          · intro wz hSw
            try dsimp only at hSw
            go_simp
            all_goals with_reducible rfl
          try simp only [Act.put, List.setIfInBounds_toArray, List.set_cons_zero, List.set_cons_succ]
          refine wpAnyH_take (i := 3) (v := ?_) opn3 (by kernel_rfl) (by kernel_rfl) (by kernel_rfl) (fun _ _ _ h => h) (Or.inl ⟨by kernel_rfl, ?_⟩) (by assumption) ?_
          rotate_left 1
          · intro wz hSw
            try dsimp only at hSw
            obtain ⟨⟨x0, x1, x2, x3⟩, ⟨x4, x5, x6⟩, xf⟩ := seven hSw
            go_simp
            all_goals with_reducible rfl
          try simp only [Act.put, List.setIfInBounds_toArray, List.set_cons_zero, List.set_cons_succ]
          refine wpAnyH_take (i := 4) (v := ?_) opn4 (by kernel_rfl) (by kernel_rfl) (by kernel_rfl) (fun _ _ _ h => h) (Or.inl ⟨by kernel_rfl, ?_⟩) (by assumption) ?_
          rotate_left 1
          · intro wz hSw
            try dsimp only at hSw
            go_simp
            all_goals with_reducible rfl
          try simp only [Act.put, List.setIfInBounds_toArray, List.set_cons_zero, List.set_cons_succ]
          refine wpAnyH_take (i := 6) (v := ?_) opn6 (by kernel_rfl) (by kernel_rfl) (by kernel_rfl) (fun _ _ _ h => h) (Or.inl ⟨by kernel_rfl, ?_⟩) (by assumption) ?_
          rotate_left 1
          · intro wz hSw
            try dsimp only at hSw
            go_simp
            all_goals with_reducible rfl
          try simp only [Act.put, List.setIfInBounds_toArray, List.set_cons_zero, List.set_cons_succ]
          refine wpAnyH_take (i := 7) (v := ?_) opn7 (by kernel_rfl) (by kernel_rfl) (by kernel_rfl) (fun _ _ _ h => h) (Or.inl ⟨by kernel_rfl, ?_⟩) (by assumption) ?_
          rotate_left 1
          · intro wz hSw
            try dsimp only at hSw
            obtain ⟨⟨x0, x1, x2, x3⟩, ⟨x4, x5, x6⟩, xf⟩ := seven hSw
            go_simp
            all_goals with_reducible rfl
          try simp only [Act.put, List.setIfInBounds_toArray, List.set_cons_zero, List.set_cons_succ]
          refine wpAnyH_ready (rs := [5, 8]) (by kernel_rfl) (by simp) ?_
          refine AllReadyH.cons opn5 (fun K hK => ?_) (AllReadyH.cons opn8 (fun K hK => ?_) (AllReadyH.nil))
          · rw [if_pos (by kernel_rfl)]
            obtain ⟨⟨d0, d1, d2⟩, df⟩ := three (unhide HABb)
            go_simp
            clear d0 d1 d2 df
            refine hK.out _ _ (hHeld) (fun hHeldN => ?_)
            clear hHeld hK K
            have hHeld := hHeldN
            clear hHeldN
            try simp only [Act.put, List.setIfInBounds_toArray, List.set_cons_zero, List.set_cons_succ]
            refine wpAnyH_ready (rs := [8]) (by kernel_rfl) (by simp) ?_
            refine AllReadyH.cons opn8 (fun K hK => ?_) AllReadyH.nil
            rw [if_pos (by kernel_rfl)]
            go_simp
            have hba := below_alloc_drew w4 (.cells #[.int .i64 ck, .string ca, .string cb, .string ct] 32)
            have HZ := hide (alloc_drew_new w4 (.cells #[.int .i64 ck, .string ca, .string cb, .string ct] 32))
            refine hK.out _ _ ((hba.block wr.heap.size (unhide HXl)).trans hHeld) (fun hHeldN => ?_)
            clear hHeld hK K
            have hHeld := hHeldN
            clear hHeldN
            try simp only [Act.put, List.setIfInBounds_toArray, List.set_cons_zero, List.set_cons_succ]
            generalize (w4.alloc (.cells #[.int .i64 ck, .string ca, .string cb, .string ct] 32)).drew = V1 at hba HZ hHeld ⊢
            refine wpAnyH_ready (rs := [9]) (by kernel_rfl) (by simp) ?_
            refine AllReadyH.cons opn9 (fun K hK => ?_) AllReadyH.nil
            refine step_app (by rfl) (.tmp 56) (.tmp 59) 71 (by rfl) w2.heap.size 32 i0 _ 4 56 Tryz.underlying71 hi0 hz0 hz1 hz2' rfl (by omega) (.slice a k cap) k (cs.flatMap ccells) (by simp [Act.eval]) ((unhide HRow) _ hba) (.slice (some ⟨w4.heap.size, 0, none⟩) 1 1) 1 [.int .i64 ck, .string ca, .string cb, .string ct] (by simp [Act.eval]) (lies_block (unhide HZ) 1 1) (by rfl) (by simp [Value.oneCell']) (by unfold maxLen; omega) (by omega) (Nat.le_trans (unhide HNs) hba.size) ?_
            intro ad c6 w6 hown6 hgrow6 hat6
            have hab6 : w6.heap[AB]? = V1.heap[AB]? := hgrow6.block AB (Nat.lt_of_lt_of_le (unhide HABl) hba.size) (fun e => (unhide HNAB) e.symm)
            have hx6 : w6.heap[wr.heap.size]? = V1.heap[wr.heap.size]? := hgrow6.block wr.heap.size (Nat.lt_of_lt_of_le (unhide HXl) hba.size) (fun e => (unhide HNX) e.symm)
            obtain ⟨⟨d0, d1, d2⟩, df⟩ := three (hab6.trans ((hba.block AB (unhide HABl)).trans (unhide HABb)))
            have df0 := df 2
            refine hK.out _ _ (hx6.trans hHeld) (fun hHeldN => ?_)
            clear hHeld hK K
            have hHeld := hHeldN
            clear hHeldN
            try simp only [Act.put, List.setIfInBounds_toArray, List.set_cons_zero, List.set_cons_succ]
            refine wpAnyH_take (i := 10) (v := ?_) opn10 (by kernel_rfl) (by kernel_rfl) (by kernel_rfl) (fun _ _ _ h => h) (Or.inl ⟨by kernel_rfl, ?_⟩) (by assumption) ?_
            rotate_left 1
            · intro wz hSw
              try dsimp only at hSw
              go_simp
              all_goals with_reducible rfl
            try simp only [Act.put, List.setIfInBounds_toArray, List.set_cons_zero, List.set_cons_succ]
            refine wpAnyH_ready (rs := [11]) (by kernel_rfl) (by simp) ?_
            refine AllReadyH.cons opn11 (fun K hK => ?_) AllReadyH.nil
            rw [if_pos (by kernel_rfl)]
            go_simp
            clear d0 d1 d2 df df0
            obtain ⟨hp1, hp2, hp3⟩ := (unhide HPUSH) V1 w6 _ hba hgrow6 hown6 hat6
            have hx7 := hp2.block wr.heap.size (unhide HXl) (unhide HNXA)
            refine hK.out _ _ (hx7.trans (unhide HX4)) (fun hHeldN => ?_)
            clear hHeld hK K
            have hHeld := hHeldN
            clear hHeldN
            try simp only [Act.put, List.setIfInBounds_toArray, List.set_cons_zero, List.set_cons_succ]
            generalize w6.setCell ⟨AB, 2, none⟩ (.slice ad (k + 1) c6) = W7 at hp1 hp2 hp3 hHeld hx7 ⊢
            refine wpAnyH_done (by kernel_rfl) ?_ _
            have HF := hide ((unhide HFIN) _ _ hp1 hp2 hp3)
            have HB7 := hide ((unhide HB4).trans (hp2.below (unhide HB4).size (unhide HGEA)))
            clear hp1 hp2 hp3 hx7 hx6 hab6 hown6 hgrow6 hat6 hHeld hba
            go_wp2
            go_roundw
            case rel => exact ⟨q + 1, o4, A2, _, by omega, by go_num, unhide HF, unhide HB7⟩
            case measure => simp [intOf]; omega
          · rw [if_pos (by kernel_rfl)]
            go_simp
            have hba := below_alloc_drew w4 (.cells #[.int .i64 ck, .string ca, .string cb, .string ct] 32)
            have HZ := hide (alloc_drew_new w4 (.cells #[.int .i64 ck, .string ca, .string cb, .string ct] 32))
            refine hK.out _ _ ((hba.block wr.heap.size (unhide HXl)).trans hHeld) (fun hHeldN => ?_)
            clear hHeld hK K
            have hHeld := hHeldN
            clear hHeldN
            try simp only [Act.put, List.setIfInBounds_toArray, List.set_cons_zero, List.set_cons_succ]
            generalize (w4.alloc (.cells #[.int .i64 ck, .string ca, .string cb, .string ct] 32)).drew = V1 at hba HZ hHeld ⊢
            obtain ⟨⟨d0, d1, d2⟩, df⟩ := three ((hba.block AB (unhide HABl)).trans (unhide HABb))
            refine wpAnyH_ready (rs := [5]) (by kernel_rfl) (by simp) ?_
            refine AllReadyH.cons opn5 (fun K hK => ?_) AllReadyH.nil
            rw [if_pos (by kernel_rfl)]
            go_simp
            clear d0 d1 d2 df
            refine hK.out _ _ (hHeld) (fun hHeldN => ?_)
            clear hHeld hK K
            have hHeld := hHeldN
            clear hHeldN
            try simp only [Act.put, List.setIfInBounds_toArray, List.set_cons_zero, List.set_cons_succ]
            refine wpAnyH_ready (rs := [9]) (by kernel_rfl) (by simp) ?_
            refine AllReadyH.cons opn9 (fun K hK => ?_) AllReadyH.nil
            refine step_app (by rfl) (.tmp 56) (.tmp 59) 71 (by rfl) w2.heap.size 32 i0 _ 4 56 Tryz.underlying71 hi0 hz0 hz1 hz2' rfl (by omega) (.slice a k cap) k (cs.flatMap ccells) (by simp [Act.eval]) ((unhide HRow) _ hba) (.slice (some ⟨w4.heap.size, 0, none⟩) 1 1) 1 [.int .i64 ck, .string ca, .string cb, .string ct] (by simp [Act.eval]) (lies_block (unhide HZ) 1 1) (by rfl) (by simp [Value.oneCell']) (by unfold maxLen; omega) (by omega) (Nat.le_trans (unhide HNs) hba.size) ?_
            intro ad c6 w6 hown6 hgrow6 hat6
            have hab6 : w6.heap[AB]? = V1.heap[AB]? := hgrow6.block AB (Nat.lt_of_lt_of_le (unhide HABl) hba.size) (fun e => (unhide HNAB) e.symm)
            have hx6 : w6.heap[wr.heap.size]? = V1.heap[wr.heap.size]? := hgrow6.block wr.heap.size (Nat.lt_of_lt_of_le (unhide HXl) hba.size) (fun e => (unhide HNX) e.symm)
            obtain ⟨⟨d0, d1, d2⟩, df⟩ := three (hab6.trans ((hba.block AB (unhide HABl)).trans (unhide HABb)))
            have df0 := df 2
            refine hK.out _ _ (hx6.trans hHeld) (fun hHeldN => ?_)
            clear hHeld hK K
            have hHeld := hHeldN
            clear hHeldN
            try simp only [Act.put, List.setIfInBounds_toArray, List.set_cons_zero, List.set_cons_succ]
            refine wpAnyH_take (i := 10) (v := ?_) opn10 (by kernel_rfl) (by kernel_rfl) (by kernel_rfl) (fun _ _ _ h => h) (Or.inl ⟨by kernel_rfl, ?_⟩) (by assumption) ?_
            rotate_left 1
            · intro wz hSw
              try dsimp only at hSw
              go_simp
              all_goals with_reducible rfl
            try simp only [Act.put, List.setIfInBounds_toArray, List.set_cons_zero, List.set_cons_succ]
            refine wpAnyH_ready (rs := [11]) (by kernel_rfl) (by simp) ?_
            refine AllReadyH.cons opn11 (fun K hK => ?_) AllReadyH.nil
            rw [if_pos (by kernel_rfl)]
            go_simp
            clear d0 d1 d2 df df0
            obtain ⟨hp1, hp2, hp3⟩ := (unhide HPUSH) V1 w6 _ hba hgrow6 hown6 hat6
            have hx7 := hp2.block wr.heap.size (unhide HXl) (unhide HNXA)
            refine hK.out _ _ (hx7.trans (unhide HX4)) (fun hHeldN => ?_)
            clear hHeld hK K
            have hHeld := hHeldN
            clear hHeldN
            try simp only [Act.put, List.setIfInBounds_toArray, List.set_cons_zero, List.set_cons_succ]
            generalize w6.setCell ⟨AB, 2, none⟩ (.slice ad (k + 1) c6) = W7 at hp1 hp2 hp3 hHeld hx7 ⊢
            refine wpAnyH_done (by kernel_rfl) ?_ _
            have HF := hide ((unhide HFIN) _ _ hp1 hp2 hp3)
            have HB7 := hide ((unhide HB4).trans (hp2.below (unhide HB4).size (unhide HGEA)))
            clear hp1 hp2 hp3 hx7 hx6 hab6 hown6 hgrow6 hat6 hHeld hba
            go_wp2
            go_roundw
            case rel => exact ⟨q + 1, o4, A2, _, by omega, by go_num, unhide HF, unhide HB7⟩
            case measure => simp [intOf]; omega
      · have hce := (unhide HCALLS).2 hask
        have HF : Hid (OnceSt w2.heap.size w4 W o4 A2 AB v) := ⟨unhide HR4, unhide HI2, (unhide HASK).eq (fun i hi => hce i), unhide HDJ4⟩
        by_cases h0 : r1 = 0
        · subst h0
          have hxb : (xk == 1) = false := by simp; intro e; exact hask ⟨e, rfl⟩
          clear hask hce
          go_wp2
          go_roundw
          case rel => exact ⟨q + 1, o4, A2, v, by omega, by go_num, unhide HF, unhide HB4⟩
          case measure => simp [intOf]; omega
        · have hrb : (r1 == 0) = false := by simpa using h0
          clear hask hce h0
          go_wp2
          go_roundw
          case rel => exact ⟨q + 1, o4, A2, v, by omega, by go_num, unhide HF, unhide HB4⟩
          case measure => simp [intOf]; omega
    · obtain ⟨T, hT⟩ : ∃ T, (logB A.log).length = T := ⟨_, rfl⟩
      have hT2000 : T ≤ 2000 := by rw [← hT]; exact (unhide HO).rep.ss
      have HLG := hide (fun wx (hb : Below wr.heap.size wr wx) => Log_T ((unhide HO).rep.below hb).s (unhide HO).rep.ss hT)
      have HSC := hide (fun wx (hb : Below wr.heap.size wr wx) => ((unhide HO).rep.below hb).cells.1.1)
      have hsc := (unhide HO).rep.cells.1.1
      generalize o.S = S at HLG HSC hsc
      obtain ⟨nL, hnL⟩ : ∃ nL, A.log.length = nL := ⟨_, rfl⟩
      have HNL := hide hnL
      have HTT := hide hT
      have HALL := hide (allR_log (unhide HO).inv.good)
      have hnL2 : nL ≤ 2000 := by have h1 := (unhide HO).rep.s.good.few; omega
      clear hnL hT HL HBw
      go_wp2_with fail
      refine ((unhide HLG) _ (Below.refl _ _)).mono ?_
      rintro e w4 ⟨a4, c4, rfl, ho4, hb4⟩
      obtain ⟨hby4, hnil4, hcap4⟩ := ho4.by (unhide HTT)
      have hro := RecordsOf_by a4 T c4 (logB A.log) w4 hby4 (unhide HTT) hcap4 (by omega) hnil4
      rw [unhide HALL] at hro
      unfold AllRes at hro
      dsimp only at hro
      rw [unhide HNL, unhide HTT] at hro
      have HRO := hide hro
      have HB4 := hide hb4
      clear ho4 hby4 hnil4 hcap4 hro hb4 hsc
      go_wp2_with fail
      refine (unhide HRO).mono ?_
      rintro e w5 ⟨a5, c5, rfl, ho5, hb5⟩
      have HB5 := hide ((unhide HB4).trans (hb5.mono (unhide HB4).size))
      have HO5 := hide (recs_row ho5 (unhide HNL))
      have hsc := (unhide HSC) _ (unhide HB5)
      clear ho5 hb5 HRO
      go_wp2_with fail
      refine ((unhide HLG) _ (unhide HB5)).mono ?_
      rintro e w6 ⟨a6, c6, rfl, ho6, hb6⟩
      have HREC := hide ((unhide HO5).below hb6)
      have HB06 := hide ((unhide HB5).trans (hb6.mono (unhide HB5).size))
      have HO6 := hide ((unhide HO).below (unhide HB06))
      have HINV6 := hide (unhide HO).inv
      have HB6 := hide ((unhide HB).trans ((unhide HB06).mono (unhide HB).size))
      have htt : ((T : Int) != (T : Int)) = false := by simp
      clear ho6 hb6 hsc HO5 HB4 HB5 HLG HSC HO HB
      go_wp2_with fail
      go_loopw [9, 10, 11] (fun i _ _ wr => ∃ q2 : Nat, q2 ≤ nL ∧ i = .int .i64 (q2 : Int) ∧ Hid (Below w6.heap.size w6 wr)) (fun i _ _ _ => nL - (intOf i).toNat)
      case atStart => exact ⟨0, Nat.zero_le _, rfl, Below.refl _ _⟩
      case round =>
        obtain ⟨q2, hq2, rfl, HBr⟩ := hrel
        by_cases hl2 : (q2 : Int) < (nL : Int)
        · obtain ⟨r, hr⟩ : ∃ r, A.log[q2]? = some r := ⟨_, List.getElem?_eq_getElem (by have := unhide HNL; omega)⟩
          have hlg := (unhide HINV6).lg r (List.mem_of_getElem? hr)
          have hcok := hlg.is
          obtain ⟨cn, hcn⟩ : ∃ cn : Nat, r.client = (cn : Int) := ⟨r.client.toNat, by have := hlg.lo; omega⟩
          obtain ⟨j, hj⟩ : ∃ j : Nat, r.no = (j : Int) + 1 := ⟨(r.no - 1).toNat, by have := hlg.no; omega⟩
          have hcn3 : cn < 3 := by have := hlg.hi; omega
          rw [hcn, hj, Int.toNat_natCast, show ((j : Int) + 1 - 1).toNat = j by omega] at hcok
          have hrow := (unhide HO6).ask.row cn hcn3
          obtain ⟨k, hk⟩ : ∃ k, (A.cl cn).calls.length = k := ⟨_, rfl⟩
          have hjk : j < k := by rw [← hk]; exact (List.getElem?_eq_some_iff.1 hcok).1
          obtain ⟨g, cap, hvc, _⟩ := World.ownsRow.form hrow (by show 0 < (A.cl cn).calls.length; omega)
          rw [hk] at hvc
          rw [hvc, hk] at hrow
          have HVC := hide hvc
          have HCAT := hide (fun wz (hb : Below w6.heap.size w6 wz) => call_at (ownsRow_same (w' := wz) hrow (fun k hk => hb.block k (hrow.lt k hk).2)) hcok)
          obtain ⟨bL, offL, hbL, hcL⟩ := (unhide HREC).2 (by omega)
          have HRAT : Hid (bL < w6.heap.size ∧ ∀ (j : Nat) (r : ARec), A.log[j]? = some r → RecAt w6 bL (offL + j * 8) r) := ⟨(hcL q2 r hr).lt, hcL⟩
          have hrat := (hcL q2 r hr).below (unhide HBr) (hcL q2 r hr).lt
          have HRQ := hide hr
          have hqi : (0 : Int) ≤ (q2 : Int) := by omega
          have hci0 : (0 : Int) ≤ (cn : Int) := by omega
          have hci3 : (cn : Int) < 3 := by omega
          have hji0 : (0 : Int) ≤ (j : Int) := by omega
          have hjk1 : (j : Int) < (k : Int) := by omega
          have hjk2 : ¬ ((k : Int) < (j : Int) + 1) := by omega
          have hjk3 : ¬ (k ≤ j) := by omega
          have hjk4 : ¬ ((k : Int) ≤ (j : Int)) := by omega
          have hk9 : (k : Int) ≤ 201 := by have h1 := calls_len (A.cl cn); have h2 := ((unhide HINV6).cok cn hcn3).few; rw [hk] at h1; split at h1 <;> omega
          obtain ⟨rc, rn, ⟨rk, ra, rb, rt⟩, rd, ru⟩ := r
          dsimp only at hcn hj HCAT hrat
          subst hcn hj
          subst hbL
          obtain ⟨V, hV⟩ : ∃ V, V = wr.alloc (.cells #[.int .i64 (cn : Int), .int .i64 ((j : Int) + 1), .int .i64 rk, .string ra, .string rb, .string rt, .int .i64 rd, .string ru] 61) := ⟨_, rfl⟩
          have hBV : Below wr.heap.size wr V := by rw [hV]; exact (Below.refl _ _).alloc (Nat.le_refl _) _
          have hRV : V.heap[wr.heap.size]? = some (.cells #[.int .i64 (cn : Int), .int .i64 ((j : Int) + 1), .int .i64 rk, .string ra, .string rb, .string rt, .int .i64 rd, .string ru] 61 (0, 0)) := by rw [hV]; exact heap_alloc_new _ _
          obtain ⟨RB, hRB⟩ : ∃ RB, RB = wr.heap.size := ⟨_, rfl⟩
          have HRBV : Hid (V.heap[RB]? = some (.cells #[.int .i64 (cn : Int), .int .i64 ((j : Int) + 1), .int .i64 rk, .string ra, .string rb, .string rt, .int .i64 rd, .string ru] 61 (0, 0))) := by rw [hRB]; exact hRV
          have HRBl : Hid (RB < V.heap.size) := (Array.getElem?_eq_some_iff.1 (unhide HRBV)).1
          have HBV6 := hide ((unhide HBr).trans (hBV.mono (unhide HBr).size))
          have HBD0 : Hid (Below V.heap.size V V.drew) := below_drew V
          have HV := hide hV
          have HRB := hide hRB
          obtain ⟨g0, g1, g2, g3, g4, g5, g6, g7⟩ := hrat
          dsimp only at g0 g1 g2 g3 g4 g5 g6 g7
          clear hr hlg hcok hrow hk hjk hvc hcL hBV hRV hV hRB
          go_wp2_with fail
          rw [← unhide HV, ← unhide HRB]
          clear g0 g1 g2 g3 g4 g5 g6 g7
          refine wp_region_held_drew (S := (fun wx => Below w6.heap.size w6 wx ∧ wx.heap[RB]? = some (.cells #[.int .i64 (cn : Int), .int .i64 ((j : Int) + 1), .int .i64 rk, .string ra, .string rb, .string rt, .int .i64 rd, .string ru] 61 (0, 0)))) (by kernel_rfl) (⟨(unhide HBV6).trans ((below_drew _).mono (unhide HBV6).size), unhide HRBV⟩) (fun hHeld => ?_)
          refine wpAnyH_take (i := 0) (v := ?_) opn0 (by kernel_rfl) (by kernel_rfl) (by kernel_rfl) (fun _ _ _ h => h) (Or.inl ⟨by kernel_rfl, ?_⟩) (by assumption) ?_
          rotate_left 1
          · intro wz hSw
            try dsimp only at hSw
            go_simp
            all_goals with_reducible rfl
          try simp only [Act.put, List.setIfInBounds_toArray, List.set_cons_zero, List.set_cons_succ]
          refine wpAnyH_take (i := 1) (v := ?_) opn1 (by kernel_rfl) (by kernel_rfl) (by kernel_rfl) (fun _ _ _ h => h) (Or.inl ⟨by kernel_rfl, ?_⟩) (by assumption) ?_
          rotate_left 1
          · intro wz hSw
            try dsimp only at hSw
            obtain ⟨⟨y0, y1, y2, y3⟩, ⟨y4, y5, y6, y7⟩, yf⟩ := eightK hSw.2
            go_simp
            all_goals with_reducible rfl
          try simp only [Act.put, List.setIfInBounds_toArray, List.set_cons_zero, List.set_cons_succ]
          refine wpAnyH_take (i := 2) (v := ?_) opn2 (by kernel_rfl) (by kernel_rfl) (by kernel_rfl) (fun _ _ _ h => h) (Or.inl ⟨by kernel_rfl, ?_⟩) (by assumption) ?_
          rotate_left 1
          · intro wz hSw
            try dsimp only at hSw
            go_simp
            all_goals with_reducible rfl
          try simp only [Act.put, List.setIfInBounds_toArray, List.set_cons_zero, List.set_cons_succ]
          refine wpAnyH_take (i := 3) (v := ?_) opn3 (by kernel_rfl) (by kernel_rfl) (by kernel_rfl) (fun _ _ _ h => h) (Or.inl ⟨by kernel_rfl, ?_⟩) (by assumption) ?_
          rotate_left 1
          · intro wz hSw
            try dsimp only at hSw
            obtain ⟨⟨y0, y1, y2, y3⟩, ⟨y4, y5, y6, y7⟩, yf⟩ := eightK hSw.2
            go_simp
            all_goals with_reducible rfl
          try simp only [Act.put, List.setIfInBounds_toArray, List.set_cons_zero, List.set_cons_succ]
          refine wpAnyH_take (i := 4) (v := ?_) opn4 (by kernel_rfl) (by kernel_rfl) (by kernel_rfl) (fun _ _ _ h => h) (Or.inl ⟨by kernel_rfl, ?_⟩) (by assumption) ?_
          rotate_left 1
          · intro wz hSw
            try dsimp only at hSw
            go_simp
            all_goals with_reducible rfl
          try simp only [Act.put, List.setIfInBounds_toArray, List.set_cons_zero, List.set_cons_succ]
          refine wpAnyH_take (i := 5) (v := ?_) opn5 (by kernel_rfl) (by kernel_rfl) (by kernel_rfl) (fun _ _ _ h => h) (Or.inl ⟨by kernel_rfl, ?_⟩) (by assumption) ?_
          rotate_left 1
          · intro wz hSw
            try dsimp only at hSw
            have hq : wz.cell? ⟨AB, cn, none⟩ = some (.slice (some ⟨g, 0, none⟩) k cap) := by have h9 := ((unhide HO6).ask.below hSw.1).cell.2.1 cn hcn3; rw [unhide HVC] at h9; exact h9
            go_simp
            all_goals with_reducible rfl
          try simp only [Act.put, List.setIfInBounds_toArray, List.set_cons_zero, List.set_cons_succ]
          refine wpAnyH_take (i := 6) (v := ?_) opn6 (by kernel_rfl) (by kernel_rfl) (by kernel_rfl) (fun _ _ _ h => h) (Or.inl ⟨by kernel_rfl, ?_⟩) (by assumption) ?_
          rotate_left 1
          · intro wz hSw
            try dsimp only at hSw
            go_simp
            all_goals with_reducible rfl
          try simp only [Act.put, List.setIfInBounds_toArray, List.set_cons_zero, List.set_cons_succ]
          refine wpAnyH_take (i := 7) (v := .bool false) opn7 (by kernel_rfl) (by kernel_rfl) (by kernel_rfl) (fun _ _ _ h => h) (Or.inl ⟨by kernel_rfl, ?_⟩) (by assumption) ?_
          · intro wz hSw
            try dsimp only at hSw
            go_simp
            all_goals with_reducible rfl
          try simp only [Act.put, List.setIfInBounds_toArray, List.set_cons_zero, List.set_cons_succ]
          refine wpAnyH_take (i := 8) (v := .bool false) opn8 (by kernel_rfl) (by kernel_rfl) (by kernel_rfl) (fun _ _ _ h => h) (Or.inl ⟨by kernel_rfl, ?_⟩) (by assumption) ?_
          · intro wz hSw
            try dsimp only at hSw
            go_simp
            all_goals with_reducible rfl
          try simp only [Act.put, List.setIfInBounds_toArray, List.set_cons_zero, List.set_cons_succ]
          refine wpAnyH_take (i := 9) (v := ?_) opn9 (by kernel_rfl) (by kernel_rfl) (by kernel_rfl) (fun _ _ _ h => h) (Or.inl ⟨by kernel_rfl, ?_⟩) (by assumption) ?_
          rotate_left 1
          · intro wz hSw
            try dsimp only at hSw
            go_simp
            all_goals with_reducible rfl
          try simp only [Act.put, List.setIfInBounds_toArray, List.set_cons_zero, List.set_cons_succ]
          refine wpAnyH_take (i := 10) (v := ?_) opn10 (by kernel_rfl) (by kernel_rfl) (by kernel_rfl) (fun _ _ _ h => h) (Or.inl ⟨by kernel_rfl, ?_⟩) (by assumption) ?_
          rotate_left 1
          · intro wz hSw
            try dsimp only at hSw
            obtain ⟨⟨y0, y1, y2, y3⟩, ⟨y4, y5, y6, y7⟩, yf⟩ := eightK hSw.2
            go_simp
            all_goals with_reducible rfl
          try simp only [Act.put, List.setIfInBounds_toArray, List.set_cons_zero, List.set_cons_succ]
          refine wpAnyH_take (i := 11) (v := ?_) opn11 (by kernel_rfl) (by kernel_rfl) (by kernel_rfl) (fun _ _ _ h => h) (Or.inl ⟨by kernel_rfl, ?_⟩) (by assumption) ?_
          rotate_left 1
          · intro wz hSw
            try dsimp only at hSw
            go_simp
            all_goals with_reducible rfl
          try simp only [Act.put, List.setIfInBounds_toArray, List.set_cons_zero, List.set_cons_succ]
          refine wpAnyH_take (i := 12) (v := ?_) opn12 (by kernel_rfl) (by kernel_rfl) (by kernel_rfl) (fun _ _ _ h => h) (Or.inl ⟨by kernel_rfl, ?_⟩) (by assumption) ?_
          rotate_left 1
          · intro wz hSw
            try dsimp only at hSw
            have hq : wz.cell? ⟨AB, cn, none⟩ = some (.slice (some ⟨g, 0, none⟩) k cap) := by have h9 := ((unhide HO6).ask.below hSw.1).cell.2.1 cn hcn3; rw [unhide HVC] at h9; exact h9
            go_simp
            all_goals with_reducible rfl
          try simp only [Act.put, List.setIfInBounds_toArray, List.set_cons_zero, List.set_cons_succ]
          refine wpAnyH_take (i := 13) (v := ?_) opn13 (by kernel_rfl) (by kernel_rfl) (by kernel_rfl) (fun _ _ _ h => h) (Or.inl ⟨by kernel_rfl, ?_⟩) (by assumption) ?_
          rotate_left 1
          · intro wz hSw
            try dsimp only at hSw
            go_simp
            all_goals with_reducible rfl
          try simp only [Act.put, List.setIfInBounds_toArray, List.set_cons_zero, List.set_cons_succ]
          refine wpAnyH_take (i := 14) (v := ?_) opn14 (by kernel_rfl) (by kernel_rfl) (by kernel_rfl) (fun _ _ _ h => h) (Or.inl ⟨by kernel_rfl, ?_⟩) (by assumption) ?_
          rotate_left 1
          · intro wz hSw
            try dsimp only at hSw
            obtain ⟨⟨y0, y1, y2, y3⟩, ⟨y4, y5, y6, y7⟩, yf⟩ := eightK hSw.2
            go_simp
            all_goals with_reducible rfl
          try simp only [Act.put, List.setIfInBounds_toArray, List.set_cons_zero, List.set_cons_succ]
          refine wpAnyH_take (i := 15) (v := ?_) opn15 (by kernel_rfl) (by kernel_rfl) (by kernel_rfl) (fun _ _ _ h => h) (Or.inl ⟨by kernel_rfl, ?_⟩) (by assumption) ?_
          rotate_left 1
          · intro wz hSw
            try dsimp only at hSw
            have hw9 : IntKind.i64.wrap (j : Int) = (j : Int) := by rw [IntKind.wrap_i64]; omega
            go_simp
            all_goals with_reducible rfl
          try simp only [Act.put, List.setIfInBounds_toArray, List.set_cons_zero, List.set_cons_succ]
          refine wpAnyH_take (i := 16) (v := ?_) opn16 (by kernel_rfl) (by kernel_rfl) (by kernel_rfl) (fun _ _ _ h => h) (Or.inl ⟨by kernel_rfl, ?_⟩) (by assumption) ?_
          rotate_left 1
          · intro wz hSw
            try dsimp only at hSw
            go_simp
            all_goals with_reducible rfl
          try simp only [Act.put, List.setIfInBounds_toArray, List.set_cons_zero, List.set_cons_succ]
          refine wpAnyH_take (i := 17) (v := ?_) opn17 (by kernel_rfl) (by kernel_rfl) (by kernel_rfl) (fun _ _ _ h => h) (Or.inl ⟨by kernel_rfl, ?_⟩) (by assumption) ?_
          rotate_left 1
          · intro wz hSw
            try dsimp only at hSw
            obtain ⟨z0, z1, z2, z3⟩ := (unhide HCAT) wz hSw.1
            go_simp
            all_goals with_reducible rfl
          try simp only [Act.put, List.setIfInBounds_toArray, List.set_cons_zero, List.set_cons_succ]
          refine wpAnyH_take (i := 18) (v := ?_) opn18 (by kernel_rfl) (by kernel_rfl) (by kernel_rfl) (fun _ _ _ h => h) (Or.inl ⟨by kernel_rfl, ?_⟩) (by assumption) ?_
          rotate_left 1
          · intro wz hSw
            try dsimp only at hSw
            go_simp
            all_goals with_reducible rfl
          try simp only [Act.put, List.setIfInBounds_toArray, List.set_cons_zero, List.set_cons_succ]
          refine wpAnyH_take (i := 19) (v := ?_) opn19 (by kernel_rfl) (by kernel_rfl) (by kernel_rfl) (fun _ _ _ h => h) (Or.inl ⟨by kernel_rfl, ?_⟩) (by assumption) ?_
          rotate_left 1
          · intro wz hSw
            try dsimp only at hSw
            obtain ⟨⟨y0, y1, y2, y3⟩, ⟨y4, y5, y6, y7⟩, yf⟩ := eightK hSw.2
            go_simp
            all_goals with_reducible rfl
          try simp only [Act.put, List.setIfInBounds_toArray, List.set_cons_zero, List.set_cons_succ]
          refine wpAnyH_take (i := 20) (v := .bool false) opn20 (by kernel_rfl) (by kernel_rfl) (by kernel_rfl) (fun _ _ _ h => h) (Or.inl ⟨by kernel_rfl, ?_⟩) (by assumption) ?_
          · intro wz hSw
            exact yieldsB rfl (by simp [Act.eval]) (by simp [Act.eval]) (nq32 rk ra rb rt wz) (gd32 _ _ _ _ wz)
          try simp only [Act.put, List.setIfInBounds_toArray, List.set_cons_zero, List.set_cons_succ]
          refine wpAnyH_take (i := 21) (v := ?_) opn21 (by kernel_rfl) (by kernel_rfl) (by kernel_rfl) (fun _ _ _ h => h) (Or.inl ⟨by kernel_rfl, ?_⟩) (by assumption) ?_
          rotate_left 1
          · intro wz hSw
            try dsimp only at hSw
            go_simp
            all_goals with_reducible rfl
          try simp only [Act.put, List.setIfInBounds_toArray, List.set_cons_zero, List.set_cons_succ]
          refine wpAnyH_done (by kernel_rfl) ?_ _
          go_wp2_with fail
          go_loopw [11] (fun kk wr => ∃ p : Nat, p ≤ q2 ∧ kk = .int .i64 (p : Int) ∧ Hid (Below V.heap.size V wr)) (fun kk _ => q2 - (intOf kk).toNat)
          case atStart => exact ⟨0, Nat.zero_le _, rfl, unhide HBD0⟩
          case round =>
            obtain ⟨p, hp, rfl, HB3⟩ := hrel
            have HBx := hide ((unhide HBV6).trans ((unhide HB3).mono (unhide HBV6).size))
            have HRBx := hide (((unhide HB3).block RB (unhide HRBl)).trans (unhide HRBV))
            by_cases hl3 : (p : Int) < (q2 : Int)
            · obtain ⟨rp, hrp⟩ : ∃ rp, A.log[p]? = some rp := ⟨_, List.getElem?_eq_getElem (by have := unhide HNL; omega)⟩
              have HRP := hide (fun wz (hb : Below w6.heap.size w6 wz) => ((unhide HRAT).2 p rp hrp).below hb ((unhide HRAT).1))
              have hpi : (0 : Int) ≤ (p : Int) := by omega
              have hpn : (p : Int) < (nL : Int) := by omega
              have HUP := hide ((unhide HINV6).up p q2 rp _ (by omega) hrp (unhide HRQ))
              obtain ⟨pc, pn, ⟨pk, pa, pb, pt⟩, pd, pu⟩ := rp
              dsimp only at HUP HRP
              clear hrp
              have HB3d : Hid (Below V.heap.size V wr.drew) := (unhide HB3).drew
              go_wp2_with fail
              by_cases hpc : pc = (cn : Int)
              · subst hpc
                have hup := (unhide HUP) rfl
                have hge : ¬ ((j : Int) + 1 ≤ pn) := by omega
                refine wp_region_held_drew (S := (fun wx => Below w6.heap.size w6 wx ∧ wx.heap[RB]? = some (.cells #[.int .i64 (cn : Int), .int .i64 ((j : Int) + 1), .int .i64 rk, .string ra, .string rb, .string rt, .int .i64 rd, .string ru] 61 (0, 0)))) (by kernel_rfl) (⟨(unhide HBx).trans ((below_drew _).mono (unhide HBx).size), unhide HRBx⟩) (fun hHeld => ?_)
                refine wpAnyH_take (i := 0) (v := ?_) opn0 (by kernel_rfl) (by kernel_rfl) (by kernel_rfl) (fun _ _ _ h => h) (Or.inl ⟨by kernel_rfl, ?_⟩) (by assumption) ?_
                rotate_left 1
                · intro wz hSw
                  try dsimp only at hSw
                  go_simp
                  all_goals with_reducible rfl
                try simp only [Act.put, List.setIfInBounds_toArray, List.set_cons_zero, List.set_cons_succ]
                refine wpAnyH_take (i := 1) (v := ?_) opn1 (by kernel_rfl) (by kernel_rfl) (by kernel_rfl) (fun _ _ _ h => h) (Or.inl ⟨by kernel_rfl, ?_⟩) (by assumption) ?_
                rotate_left 1
                · intro wz hSw
                  try dsimp only at hSw
                  go_simp
                  all_goals with_reducible rfl
                try simp only [Act.put, List.setIfInBounds_toArray, List.set_cons_zero, List.set_cons_succ]
                refine wpAnyH_take (i := 2) (v := ?_) opn2 (by kernel_rfl) (by kernel_rfl) (by kernel_rfl) (fun _ _ _ h => h) (Or.inl ⟨by kernel_rfl, ?_⟩) (by assumption) ?_
                rotate_left 1
                · intro wz hSw
                  try dsimp only at hSw
                  go_simp
                  all_goals with_reducible rfl
                try simp only [Act.put, List.setIfInBounds_toArray, List.set_cons_zero, List.set_cons_succ]
                refine wpAnyH_take (i := 3) (v := ?_) opn3 (by kernel_rfl) (by kernel_rfl) (by kernel_rfl) (fun _ _ _ h => h) (Or.inl ⟨by kernel_rfl, ?_⟩) (by assumption) ?_
                rotate_left 1
                · intro wz hSw
                  try dsimp only at hSw
                  go_simp
                  all_goals with_reducible rfl
                try simp only [Act.put, List.setIfInBounds_toArray, List.set_cons_zero, List.set_cons_succ]
                refine wpAnyH_take (i := 4) (v := ?_) opn4 (by kernel_rfl) (by kernel_rfl) (by kernel_rfl) (fun _ _ _ h => h) (Or.inl ⟨by kernel_rfl, ?_⟩) (by assumption) ?_
                rotate_left 1
                · intro wz hSw
                  try dsimp only at hSw
                  obtain ⟨y0, y1, y2, y3, y4, y5, y6, y7⟩ := (unhide HRP) wz hSw.1
                  go_simp
                  all_goals with_reducible rfl
                try simp only [Act.put, List.setIfInBounds_toArray, List.set_cons_zero, List.set_cons_succ]
                refine wpAnyH_take (i := 5) (v := ?_) opn5 (by kernel_rfl) (by kernel_rfl) (by kernel_rfl) (fun _ _ _ h => h) (Or.inl ⟨by kernel_rfl, ?_⟩) (by assumption) ?_
                rotate_left 1
                · intro wz hSw
                  try dsimp only at hSw
                  go_simp
                  all_goals with_reducible rfl
                try simp only [Act.put, List.setIfInBounds_toArray, List.set_cons_zero, List.set_cons_succ]
                refine wpAnyH_take (i := 6) (v := ?_) opn6 (by kernel_rfl) (by kernel_rfl) (by kernel_rfl) (fun _ _ _ h => h) (Or.inl ⟨by kernel_rfl, ?_⟩) (by assumption) ?_
                rotate_left 1
                · intro wz hSw
                  try dsimp only at hSw
                  obtain ⟨⟨y0, y1, y2, y3⟩, ⟨y4, y5, y6, y7⟩, yf⟩ := eightK hSw.2
                  go_simp
                  all_goals with_reducible rfl
                try simp only [Act.put, List.setIfInBounds_toArray, List.set_cons_zero, List.set_cons_succ]
                refine wpAnyH_take (i := 7) (v := .bool true) opn7 (by kernel_rfl) (by kernel_rfl) (by kernel_rfl) (fun _ _ _ h => h) (Or.inl ⟨by kernel_rfl, ?_⟩) (by assumption) ?_
                · intro wz hSw
                  try dsimp only at hSw
                  go_simp
                  all_goals with_reducible rfl
                try simp only [Act.put, List.setIfInBounds_toArray, List.set_cons_zero, List.set_cons_succ]
                refine wpAnyH_take (i := 8) (v := .bool true) opn8 (by kernel_rfl) (by kernel_rfl) (by kernel_rfl) (fun _ _ _ h => h) (Or.inl ⟨by kernel_rfl, ?_⟩) (by assumption) ?_
                · intro wz hSw
                  try dsimp only at hSw
                  go_simp
                  all_goals with_reducible rfl
                try simp only [Act.put, List.setIfInBounds_toArray, List.set_cons_zero, List.set_cons_succ]
                refine wpAnyH_take (i := 9) (v := ?_) opn9 (by kernel_rfl) (by kernel_rfl) (by kernel_rfl) (fun _ _ _ h => h) (Or.inl ⟨by kernel_rfl, ?_⟩) (by assumption) ?_
                rotate_left 1
                · intro wz hSw
                  try dsimp only at hSw
                  go_simp
                  all_goals with_reducible rfl
                try simp only [Act.put, List.setIfInBounds_toArray, List.set_cons_zero, List.set_cons_succ]
                refine wpAnyH_take (i := 10) (v := ?_) opn10 (by kernel_rfl) (by kernel_rfl) (by kernel_rfl) (fun _ _ _ h => h) (Or.inl ⟨by kernel_rfl, ?_⟩) (by assumption) ?_
                rotate_left 1
                · intro wz hSw
                  try dsimp only at hSw
                  go_simp
                  all_goals with_reducible rfl
                try simp only [Act.put, List.setIfInBounds_toArray, List.set_cons_zero, List.set_cons_succ]
                refine wpAnyH_take (i := 11) (v := ?_) opn11 (by kernel_rfl) (by kernel_rfl) (by kernel_rfl) (fun _ _ _ h => h) (Or.inl ⟨by kernel_rfl, ?_⟩) (by assumption) ?_
                rotate_left 1
                · intro wz hSw
                  try dsimp only at hSw
                  go_simp
                  all_goals with_reducible rfl
                try simp only [Act.put, List.setIfInBounds_toArray, List.set_cons_zero, List.set_cons_succ]
                refine wpAnyH_take (i := 12) (v := ?_) opn12 (by kernel_rfl) (by kernel_rfl) (by kernel_rfl) (fun _ _ _ h => h) (Or.inl ⟨by kernel_rfl, ?_⟩) (by assumption) ?_
                rotate_left 1
                · intro wz hSw
                  try dsimp only at hSw
                  go_simp
                  all_goals with_reducible rfl
                try simp only [Act.put, List.setIfInBounds_toArray, List.set_cons_zero, List.set_cons_succ]
                refine wpAnyH_take (i := 13) (v := ?_) opn13 (by kernel_rfl) (by kernel_rfl) (by kernel_rfl) (fun _ _ _ h => h) (Or.inl ⟨by kernel_rfl, ?_⟩) (by assumption) ?_
                rotate_left 1
                · intro wz hSw
                  try dsimp only at hSw
                  obtain ⟨y0, y1, y2, y3, y4, y5, y6, y7⟩ := (unhide HRP) wz hSw.1
                  go_simp
                  all_goals with_reducible rfl
                try simp only [Act.put, List.setIfInBounds_toArray, List.set_cons_zero, List.set_cons_succ]
                refine wpAnyH_take (i := 14) (v := ?_) opn14 (by kernel_rfl) (by kernel_rfl) (by kernel_rfl) (fun _ _ _ h => h) (Or.inl ⟨by kernel_rfl, ?_⟩) (by assumption) ?_
                rotate_left 1
                · intro wz hSw
                  try dsimp only at hSw
                  go_simp
                  all_goals with_reducible rfl
                try simp only [Act.put, List.setIfInBounds_toArray, List.set_cons_zero, List.set_cons_succ]
                refine wpAnyH_take (i := 15) (v := ?_) opn15 (by kernel_rfl) (by kernel_rfl) (by kernel_rfl) (fun _ _ _ h => h) (Or.inl ⟨by kernel_rfl, ?_⟩) (by assumption) ?_
                rotate_left 1
                · intro wz hSw
                  try dsimp only at hSw
                  obtain ⟨⟨y0, y1, y2, y3⟩, ⟨y4, y5, y6, y7⟩, yf⟩ := eightK hSw.2
                  go_simp
                  all_goals with_reducible rfl
                try simp only [Act.put, List.setIfInBounds_toArray, List.set_cons_zero, List.set_cons_succ]
                refine wpAnyH_take (i := 16) (v := .bool false) opn16 (by kernel_rfl) (by kernel_rfl) (by kernel_rfl) (fun _ _ _ h => h) (Or.inl ⟨by kernel_rfl, ?_⟩) (by assumption) ?_
                · intro wz hSw
                  try dsimp only at hSw
                  go_simp
                  all_goals with_reducible rfl
                try simp only [Act.put, List.setIfInBounds_toArray, List.set_cons_zero, List.set_cons_succ]
                refine wpAnyH_take (i := 17) (v := .bool false) opn17 (by kernel_rfl) (by kernel_rfl) (by kernel_rfl) (fun _ _ _ h => h) (Or.inl ⟨by kernel_rfl, ?_⟩) (by assumption) ?_
                · intro wz hSw
                  try dsimp only at hSw
                  go_simp
                  all_goals with_reducible rfl
                try simp only [Act.put, List.setIfInBounds_toArray, List.set_cons_zero, List.set_cons_succ]
                refine wpAnyH_done (by kernel_rfl) ?_ _
                go_wp2
                go_roundw
                case rel => exact ⟨p + 1, by omega, by go_num, unhide HB3d⟩
                case measure => simp [intOf]; omega
              · have hpb : (pc == (cn : Int)) = false := by simpa using hpc
                clear hpc
                refine wp_region_held_drew (S := (fun wx => Below w6.heap.size w6 wx ∧ wx.heap[RB]? = some (.cells #[.int .i64 (cn : Int), .int .i64 ((j : Int) + 1), .int .i64 rk, .string ra, .string rb, .string rt, .int .i64 rd, .string ru] 61 (0, 0)))) (by kernel_rfl) (⟨(unhide HBx).trans ((below_drew _).mono (unhide HBx).size), unhide HRBx⟩) (fun hHeld => ?_)
                refine wpAnyH_take (i := 0) (v := ?_) opn0 (by kernel_rfl) (by kernel_rfl) (by kernel_rfl) (fun _ _ _ h => h) (Or.inl ⟨by kernel_rfl, ?_⟩) (by assumption) ?_
                rotate_left 1
                · intro wz hSw
                  try dsimp only at hSw
                  go_simp
                  all_goals with_reducible rfl
                try simp only [Act.put, List.setIfInBounds_toArray, List.set_cons_zero, List.set_cons_succ]
                refine wpAnyH_take (i := 1) (v := ?_) opn1 (by kernel_rfl) (by kernel_rfl) (by kernel_rfl) (fun _ _ _ h => h) (Or.inl ⟨by kernel_rfl, ?_⟩) (by assumption) ?_
                rotate_left 1
                · intro wz hSw
                  try dsimp only at hSw
                  go_simp
                  all_goals with_reducible rfl
                try simp only [Act.put, List.setIfInBounds_toArray, List.set_cons_zero, List.set_cons_succ]
                refine wpAnyH_take (i := 2) (v := ?_) opn2 (by kernel_rfl) (by kernel_rfl) (by kernel_rfl) (fun _ _ _ h => h) (Or.inl ⟨by kernel_rfl, ?_⟩) (by assumption) ?_
                rotate_left 1
                · intro wz hSw
                  try dsimp only at hSw
                  go_simp
                  all_goals with_reducible rfl
                try simp only [Act.put, List.setIfInBounds_toArray, List.set_cons_zero, List.set_cons_succ]
                refine wpAnyH_take (i := 3) (v := ?_) opn3 (by kernel_rfl) (by kernel_rfl) (by kernel_rfl) (fun _ _ _ h => h) (Or.inl ⟨by kernel_rfl, ?_⟩) (by assumption) ?_
                rotate_left 1
                · intro wz hSw
                  try dsimp only at hSw
                  go_simp
                  all_goals with_reducible rfl
                try simp only [Act.put, List.setIfInBounds_toArray, List.set_cons_zero, List.set_cons_succ]
                refine wpAnyH_take (i := 4) (v := ?_) opn4 (by kernel_rfl) (by kernel_rfl) (by kernel_rfl) (fun _ _ _ h => h) (Or.inl ⟨by kernel_rfl, ?_⟩) (by assumption) ?_
                rotate_left 1
                · intro wz hSw
                  try dsimp only at hSw
                  obtain ⟨y0, y1, y2, y3, y4, y5, y6, y7⟩ := (unhide HRP) wz hSw.1
                  go_simp
                  all_goals with_reducible rfl
                try simp only [Act.put, List.setIfInBounds_toArray, List.set_cons_zero, List.set_cons_succ]
                refine wpAnyH_take (i := 5) (v := ?_) opn5 (by kernel_rfl) (by kernel_rfl) (by kernel_rfl) (fun _ _ _ h => h) (Or.inl ⟨by kernel_rfl, ?_⟩) (by assumption) ?_
                rotate_left 1
                · intro wz hSw
                  try dsimp only at hSw
                  go_simp
                  all_goals with_reducible rfl
                try simp only [Act.put, List.setIfInBounds_toArray, List.set_cons_zero, List.set_cons_succ]
                refine wpAnyH_take (i := 6) (v := ?_) opn6 (by kernel_rfl) (by kernel_rfl) (by kernel_rfl) (fun _ _ _ h => h) (Or.inl ⟨by kernel_rfl, ?_⟩) (by assumption) ?_
                rotate_left 1
                · intro wz hSw
                  try dsimp only at hSw
                  obtain ⟨⟨y0, y1, y2, y3⟩, ⟨y4, y5, y6, y7⟩, yf⟩ := eightK hSw.2
                  go_simp
                  all_goals with_reducible rfl
                try simp only [Act.put, List.setIfInBounds_toArray, List.set_cons_zero, List.set_cons_succ]
                refine wpAnyH_take (i := 7) (v := .bool false) opn7 (by kernel_rfl) (by kernel_rfl) (by kernel_rfl) (fun _ _ _ h => h) (Or.inl ⟨by kernel_rfl, ?_⟩) (by assumption) ?_
                · intro wz hSw
                  try dsimp only at hSw
                  go_simp
                  all_goals with_reducible rfl
                try simp only [Act.put, List.setIfInBounds_toArray, List.set_cons_zero, List.set_cons_succ]
                refine wpAnyH_take (i := 8) (v := .bool false) opn8 (by kernel_rfl) (by kernel_rfl) (by kernel_rfl) (fun _ _ _ h => h) (Or.inl ⟨by kernel_rfl, ?_⟩) (by assumption) ?_
                · intro wz hSw
                  try dsimp only at hSw
                  go_simp
                  all_goals with_reducible rfl
                try simp only [Act.put, List.setIfInBounds_toArray, List.set_cons_zero, List.set_cons_succ]
                refine wpAnyH_take (i := 9) (v := undef) opn9 (by kernel_rfl) (by kernel_rfl) (by kernel_rfl) (fun _ _ _ h => h) (Or.inr ⟨by kernel_rfl, rfl⟩) (by assumption) ?_
                try simp only [Act.put, List.setIfInBounds_toArray, List.set_cons_zero, List.set_cons_succ]
                refine wpAnyH_take (i := 10) (v := undef) opn10 (by kernel_rfl) (by kernel_rfl) (by kernel_rfl) (fun _ _ _ h => h) (Or.inr ⟨by kernel_rfl, rfl⟩) (by assumption) ?_
                try simp only [Act.put, List.setIfInBounds_toArray, List.set_cons_zero, List.set_cons_succ]
                refine wpAnyH_take (i := 11) (v := undef) opn11 (by kernel_rfl) (by kernel_rfl) (by kernel_rfl) (fun _ _ _ h => h) (Or.inr ⟨by kernel_rfl, rfl⟩) (by assumption) ?_
                try simp only [Act.put, List.setIfInBounds_toArray, List.set_cons_zero, List.set_cons_succ]
                refine wpAnyH_take (i := 12) (v := undef) opn12 (by kernel_rfl) (by kernel_rfl) (by kernel_rfl) (fun _ _ _ h => h) (Or.inr ⟨by kernel_rfl, rfl⟩) (by assumption) ?_
                try simp only [Act.put, List.setIfInBounds_toArray, List.set_cons_zero, List.set_cons_succ]
                refine wpAnyH_take (i := 13) (v := undef) opn13 (by kernel_rfl) (by kernel_rfl) (by kernel_rfl) (fun _ _ _ h => h) (Or.inr ⟨by kernel_rfl, rfl⟩) (by assumption) ?_
                try simp only [Act.put, List.setIfInBounds_toArray, List.set_cons_zero, List.set_cons_succ]
                refine wpAnyH_take (i := 14) (v := undef) opn14 (by kernel_rfl) (by kernel_rfl) (by kernel_rfl) (fun _ _ _ h => h) (Or.inr ⟨by kernel_rfl, rfl⟩) (by assumption) ?_
                try simp only [Act.put, List.setIfInBounds_toArray, List.set_cons_zero, List.set_cons_succ]
                refine wpAnyH_take (i := 15) (v := undef) opn15 (by kernel_rfl) (by kernel_rfl) (by kernel_rfl) (fun _ _ _ h => h) (Or.inr ⟨by kernel_rfl, rfl⟩) (by assumption) ?_
                try simp only [Act.put, List.setIfInBounds_toArray, List.set_cons_zero, List.set_cons_succ]
                refine wpAnyH_take (i := 16) (v := undef) opn16 (by kernel_rfl) (by kernel_rfl) (by kernel_rfl) (fun _ _ _ h => h) (Or.inr ⟨by kernel_rfl, rfl⟩) (by assumption) ?_
                try simp only [Act.put, List.setIfInBounds_toArray, List.set_cons_zero, List.set_cons_succ]
                refine wpAnyH_take (i := 17) (v := .bool false) opn17 (by kernel_rfl) (by kernel_rfl) (by kernel_rfl) (fun _ _ _ h => h) (Or.inl ⟨by kernel_rfl, ?_⟩) (by assumption) ?_
                · intro wz hSw
                  try dsimp only at hSw
                  go_simp
                  all_goals with_reducible rfl
                try simp only [Act.put, List.setIfInBounds_toArray, List.set_cons_zero, List.set_cons_succ]
                refine wpAnyH_done (by kernel_rfl) ?_ _
                go_wp2
                go_roundw
                case rel => exact ⟨p + 1, by omega, by go_num, unhide HB3d⟩
                case measure => simp [intOf]; omega
            · go_wp2
              go_roundw
              case rel => exact ⟨q2 + 1, by omega, by go_num, unhide HBx⟩
              case measure => simp [intOf]; omega
        · go_wp2_with fail
          go_loopw [12, 13, 14, 15, 16, 17, 18] (fun c _ _ _ _ _ _ wr => ∃ q3 : Nat, q3 ≤ 3 ∧ c = .int .i64 (q3 : Int) ∧ Hid (Below w6.heap.size w6 wr)) (fun c _ _ _ _ _ _ _ => 3 - (intOf c).toNat)
          case atStart => exact ⟨0, Nat.zero_le _, rfl, unhide HBr⟩
          case round =>
            clear HBr
            obtain ⟨q3, hq3, rfl, HBr⟩ := hrel
            by_cases hl4 : (q3 : Int) < 3
            · have hq33 : q3 < 3 := by omega
              have HCL := hide (Client_some ((unhide HO6).rep.below (unhide HBr)) q3 hq33)
              obtain ⟨D, hD⟩ : ∃ D, (A.cl q3).done.length = D := ⟨_, rfl⟩
              have hD2 : D ≤ 200 := by rw [← hD]; exact ((unhide HINV6).cok q3 hq33).few
              have HDD := hide hD
              have HDN := hide (Done_any (((unhide HO6).rep.below (unhide HBr)).c q3 hq33) hD)
              generalize o.X q3 = X at HCL HDN
              clear hD
              go_wp2_with fail
              refine (unhide HCL).mono ?_
              rintro e w65 ⟨rfl, hw⟩
              subst hw
              go_wp2_with fail
              refine (unhide HDN).mono ?_
              rintro e w7 ⟨g7, c7, rfl, ho7, hb7⟩
              have HDR := hide (recs_row ho7 (unhide HDD))
              have HB67 := hide ((unhide HBr).trans (hb7.mono (unhide HBr).size))
              have HREC7 := hide ((unhide HREC).below (unhide HB67))
              clear ho7 hb7 HCL HDN HBr
              go_wp2_with fail
              go_loopw [15, 16, 17, 18] (fun i _ _ _ wr => ∃ p : Nat, p ≤ D ∧ i = .int .i64 (p : Int) ∧ Hid (Below w7.heap.size w7 wr)) (fun i _ _ _ _ => D - (intOf i).toNat)
              case atStart => exact ⟨0, Nat.zero_le _, rfl, Below.refl _ _⟩
              case round =>
                obtain ⟨p, hp, rfl, HB5r⟩ := hrel
                by_cases hl5 : (p : Int) < (D : Int)
                · obtain ⟨d, hd⟩ : ∃ d, (A.cl q3).done[p]? = some d := ⟨_, List.getElem?_eq_getElem (by have := unhide HDD; omega)⟩
                  have HDM := hide (List.mem_of_getElem? hd)
                  obtain ⟨bD, offD, hbD, hcD⟩ := (unhide HDR).2 (by omega)
                  have HCNT := hide (once_cnt (unhide HINV6) hq33 (List.mem_of_getElem? hd))
                  cases hbD
                  have HDP : Hid (∀ wz, Below w7.heap.size w7 wz → RecAt wz g7 (p * 8) d) := fun wz hb => by have h9 := (hcD p d hd).below hb (hcD p d hd).lt; rw [Nat.zero_add] at h9; exact h9
                  obtain ⟨dc, dn, ⟨dk, da, db, dt⟩, dd, du⟩ := d
                  dsimp only at HDP HCNT
                  clear hd hcD
                  go_wp2_with fail
                  go_loopw [16, 17] (fun tt jj wr => ∃ m : Nat, m ≤ nL ∧ jj = .int .i64 (m : Int) ∧ tt = .int .i64 (cnt (A.log.take m) (q3 : Int) dn : Int) ∧ Hid (Below w7.heap.size w7 wr)) (fun _ jj _ => nL - (intOf jj).toNat)
                  case atStart => exact ⟨0, Nat.zero_le _, rfl, rfl, unhide HB5r⟩
                  case round =>
                    obtain ⟨m, hm, rfl, rfl, HB7r⟩ := hrel
                    by_cases hl6 : (m : Int) < (nL : Int)
                    · obtain ⟨r, hr⟩ : ∃ r, A.log[m]? = some r := ⟨_, List.getElem?_eq_getElem (by have := unhide HNL; omega)⟩
                      obtain ⟨bL, offL, hbL, hcL⟩ := (unhide HREC7).2 (by omega)
                      have HRM := hide (fun wz (hb : Below w7.heap.size w7 wz) => (hcL m r hr).below hb (hcL m r hr).lt)
                      have hsn : A.log.take (m + 1) = A.log.take m ++ [r] := by rw [List.take_add_one, hr]; rfl
                      have hcs := cnt_snoc (A.log.take m) r (q3 : Int) dn
                      rw [← hsn] at hcs
                      have HONE := hide (fun (h1 : r.client = (q3 : Int)) (h2 : r.no = dn) => (once_eq (unhide HINV6) hq33 (unhide HDM) (List.mem_of_getElem? hr) h1 h2).1)
                      have hle : cnt (A.log.take m) (q3 : Int) dn ≤ 2000 := by
                        unfold cnt
                        exact Nat.le_trans (List.length_filter_le _ _) (by rw [List.length_take]; omega)
                      obtain ⟨cm, hcm⟩ : ∃ cm, cnt (A.log.take m) (q3 : Int) dn = cm := ⟨_, rfl⟩
                      rw [hcm] at hcs hle
                      rw [hcm]
                      have HCS := hide hcs
                      have HB7d : Hid (Below w7.heap.size w7 wr.drew) := (unhide HB7r).drew
                      have hmi : (0 : Int) ≤ (m : Int) := by omega
                      have hpi : (0 : Int) ≤ (p : Int) := by omega
                      subst hbL
                      obtain ⟨rc, rn, ⟨rk, ra, rb, rt⟩, rd, ru⟩ := r
                      dsimp only at HRM HONE
                      clear hcL hsn hcs hcm hr
                      go_wp2_with fail
                      by_cases hrc : rc = (q3 : Int)
                      · by_cases hrn : rn = dn
                        · have HEQ := hide ((unhide HONE) hrc hrn)
                          have hc2 := unhide HCS
                          rw [if_pos (by unfold hitB; simp [hrc, hrn])] at hc2
                          have HC2 := hide hc2
                          have heq := unhide HEQ
                          injection heq with e1 e2 e3 e4 e5
                          injection e3 with f1 f2 f3 f4
                          subst hrc hrn f1 f2 f3 f4 e4 e5 e1
                          clear hc2 HCS HONE HEQ e2
                          have hrn : True := trivial
                          refine wp_region_held_drew (S := (fun wx => Below w7.heap.size w7 wx)) (by kernel_rfl) ((unhide HB7r).trans ((below_drew _).mono (unhide HB7r).size)) (fun hHeld => ?_)
                          refine wpAnyH_take (i := 0) (v := ?_) opn0 (by kernel_rfl) (by kernel_rfl) (by kernel_rfl) (fun _ _ _ h => h) (Or.inl ⟨by kernel_rfl, ?_⟩) (by assumption) ?_
                          rotate_left 1
                          · intro wz hSw
                            try dsimp only at hSw
                            go_simp
                            all_goals with_reducible rfl
                          try simp only [Act.put, List.setIfInBounds_toArray, List.set_cons_zero, List.set_cons_succ]
                          refine wpAnyH_take (i := 1) (v := ?_) opn1 (by kernel_rfl) (by kernel_rfl) (by kernel_rfl) (fun _ _ _ h => h) (Or.inl ⟨by kernel_rfl, ?_⟩) (by assumption) ?_
                          rotate_left 1
                          · intro wz hSw
                            try dsimp only at hSw
                            go_simp
                            all_goals with_reducible rfl
                          try simp only [Act.put, List.setIfInBounds_toArray, List.set_cons_zero, List.set_cons_succ]
                          refine wpAnyH_take (i := 2) (v := ?_) opn2 (by kernel_rfl) (by kernel_rfl) (by kernel_rfl) (fun _ _ _ h => h) (Or.inl ⟨by kernel_rfl, ?_⟩) (by assumption) ?_
                          rotate_left 1
                          · intro wz hSw
                            try dsimp only at hSw
                            go_simp
                            all_goals with_reducible rfl
                          try simp only [Act.put, List.setIfInBounds_toArray, List.set_cons_zero, List.set_cons_succ]
                          refine wpAnyH_take (i := 3) (v := ?_) opn3 (by kernel_rfl) (by kernel_rfl) (by kernel_rfl) (fun _ _ _ h => h) (Or.inl ⟨by kernel_rfl, ?_⟩) (by assumption) ?_
                          rotate_left 1
                          · intro wz hSw
                            try dsimp only at hSw
                            go_simp
                            all_goals with_reducible rfl
                          try simp only [Act.put, List.setIfInBounds_toArray, List.set_cons_zero, List.set_cons_succ]
                          refine wpAnyH_take (i := 4) (v := ?_) opn4 (by kernel_rfl) (by kernel_rfl) (by kernel_rfl) (fun _ _ _ h => h) (Or.inl ⟨by kernel_rfl, ?_⟩) (by assumption) ?_
                          rotate_left 1
                          · intro wz hSw
                            try dsimp only at hSw
                            obtain ⟨y0, y1, y2, y3, y4, y5, y6, y7⟩ := (unhide HRM) wz hSw
                            go_simp
                            all_goals with_reducible rfl
                          try simp only [Act.put, List.setIfInBounds_toArray, List.set_cons_zero, List.set_cons_succ]
                          refine wpAnyH_take (i := 5) (v := ?_) opn5 (by kernel_rfl) (by kernel_rfl) (by kernel_rfl) (fun _ _ _ h => h) (Or.inl ⟨by kernel_rfl, ?_⟩) (by assumption) ?_
                          rotate_left 1
                          · intro wz hSw
                            try dsimp only at hSw
                            go_simp
                            all_goals with_reducible rfl
                          try simp only [Act.put, List.setIfInBounds_toArray, List.set_cons_zero, List.set_cons_succ]
                          refine wpAnyH_take (i := 6) (v := .bool true) opn6 (by kernel_rfl) (by kernel_rfl) (by kernel_rfl) (fun _ _ _ h => h) (Or.inl ⟨by kernel_rfl, ?_⟩) (by assumption) ?_
                          · intro wz hSw
                            try dsimp only at hSw
                            go_simp
                            all_goals with_reducible rfl
                          try simp only [Act.put, List.setIfInBounds_toArray, List.set_cons_zero, List.set_cons_succ]
                          refine wpAnyH_take (i := 7) (v := .bool true) opn7 (by kernel_rfl) (by kernel_rfl) (by kernel_rfl) (fun _ _ _ h => h) (Or.inl ⟨by kernel_rfl, ?_⟩) (by assumption) ?_
                          · intro wz hSw
                            try dsimp only at hSw
                            go_simp
                            all_goals with_reducible rfl
                          try simp only [Act.put, List.setIfInBounds_toArray, List.set_cons_zero, List.set_cons_succ]
                          refine wpAnyH_take (i := 8) (v := ?_) opn8 (by kernel_rfl) (by kernel_rfl) (by kernel_rfl) (fun _ _ _ h => h) (Or.inl ⟨by kernel_rfl, ?_⟩) (by assumption) ?_
                          rotate_left 1
                          · intro wz hSw
                            try dsimp only at hSw
                            go_simp
                            all_goals with_reducible rfl
                          try simp only [Act.put, List.setIfInBounds_toArray, List.set_cons_zero, List.set_cons_succ]
                          refine wpAnyH_take (i := 9) (v := ?_) opn9 (by kernel_rfl) (by kernel_rfl) (by kernel_rfl) (fun _ _ _ h => h) (Or.inl ⟨by kernel_rfl, ?_⟩) (by assumption) ?_
                          rotate_left 1
                          · intro wz hSw
                            try dsimp only at hSw
                            go_simp
                            all_goals with_reducible rfl
                          try simp only [Act.put, List.setIfInBounds_toArray, List.set_cons_zero, List.set_cons_succ]
                          refine wpAnyH_take (i := 10) (v := ?_) opn10 (by kernel_rfl) (by kernel_rfl) (by kernel_rfl) (fun _ _ _ h => h) (Or.inl ⟨by kernel_rfl, ?_⟩) (by assumption) ?_
                          rotate_left 1
                          · intro wz hSw
                            try dsimp only at hSw
                            go_simp
                            all_goals with_reducible rfl
                          try simp only [Act.put, List.setIfInBounds_toArray, List.set_cons_zero, List.set_cons_succ]
                          refine wpAnyH_take (i := 11) (v := ?_) opn11 (by kernel_rfl) (by kernel_rfl) (by kernel_rfl) (fun _ _ _ h => h) (Or.inl ⟨by kernel_rfl, ?_⟩) (by assumption) ?_
                          rotate_left 1
                          · intro wz hSw
                            try dsimp only at hSw
                            go_simp
                            all_goals with_reducible rfl
                          try simp only [Act.put, List.setIfInBounds_toArray, List.set_cons_zero, List.set_cons_succ]
                          refine wpAnyH_take (i := 12) (v := ?_) opn12 (by kernel_rfl) (by kernel_rfl) (by kernel_rfl) (fun _ _ _ h => h) (Or.inl ⟨by kernel_rfl, ?_⟩) (by assumption) ?_
                          rotate_left 1
                          · intro wz hSw
                            try dsimp only at hSw
                            obtain ⟨y0, y1, y2, y3, y4, y5, y6, y7⟩ := (unhide HRM) wz hSw
                            go_simp
                            all_goals with_reducible rfl
                          try simp only [Act.put, List.setIfInBounds_toArray, List.set_cons_zero, List.set_cons_succ]
                          refine wpAnyH_take (i := 13) (v := ?_) opn13 (by kernel_rfl) (by kernel_rfl) (by kernel_rfl) (fun _ _ _ h => h) (Or.inl ⟨by kernel_rfl, ?_⟩) (by assumption) ?_
                          rotate_left 1
                          · intro wz hSw
                            try dsimp only at hSw
                            go_simp
                            all_goals with_reducible rfl
                          try simp only [Act.put, List.setIfInBounds_toArray, List.set_cons_zero, List.set_cons_succ]
                          refine wpAnyH_take (i := 14) (v := ?_) opn14 (by kernel_rfl) (by kernel_rfl) (by kernel_rfl) (fun _ _ _ h => h) (Or.inl ⟨by kernel_rfl, ?_⟩) (by assumption) ?_
                          rotate_left 1
                          · intro wz hSw
                            try dsimp only at hSw
                            go_simp
                            all_goals with_reducible rfl
                          try simp only [Act.put, List.setIfInBounds_toArray, List.set_cons_zero, List.set_cons_succ]
                          refine wpAnyH_take (i := 15) (v := ?_) opn15 (by kernel_rfl) (by kernel_rfl) (by kernel_rfl) (fun _ _ _ h => h) (Or.inl ⟨by kernel_rfl, ?_⟩) (by assumption) ?_
                          rotate_left 1
                          · intro wz hSw
                            try dsimp only at hSw
                            go_simp
                            all_goals with_reducible rfl
                          try simp only [Act.put, List.setIfInBounds_toArray, List.set_cons_zero, List.set_cons_succ]
                          refine wpAnyH_take (i := 16) (v := ?_) opn16 (by kernel_rfl) (by kernel_rfl) (by kernel_rfl) (fun _ _ _ h => h) (Or.inl ⟨by kernel_rfl, ?_⟩) (by assumption) ?_
                          rotate_left 1
                          · intro wz hSw
                            try dsimp only at hSw
                            go_simp
                            all_goals with_reducible rfl
                          try simp only [Act.put, List.setIfInBounds_toArray, List.set_cons_zero, List.set_cons_succ]
                          refine wpAnyH_take (i := 17) (v := ?_) opn17 (by kernel_rfl) (by kernel_rfl) (by kernel_rfl) (fun _ _ _ h => h) (Or.inl ⟨by kernel_rfl, ?_⟩) (by assumption) ?_
                          rotate_left 1
                          · intro wz hSw
                            try dsimp only at hSw
                            obtain ⟨d0, d1, d2, d3, d4, d5, d6, d7⟩ := (unhide HDP) wz hSw
                            go_simp
                            all_goals with_reducible rfl
                          try simp only [Act.put, List.setIfInBounds_toArray, List.set_cons_zero, List.set_cons_succ]
                          refine wpAnyH_take (i := 18) (v := .bool true) opn18 (by kernel_rfl) (by kernel_rfl) (by kernel_rfl) (fun _ _ _ h => h) (Or.inl ⟨by kernel_rfl, ?_⟩) (by assumption) ?_
                          · intro wz hSw
                            try dsimp only at hSw
                            go_simp
                            all_goals with_reducible rfl
                          try simp only [Act.put, List.setIfInBounds_toArray, List.set_cons_zero, List.set_cons_succ]
                          refine wpAnyH_take (i := 19) (v := .bool true) opn19 (by kernel_rfl) (by kernel_rfl) (by kernel_rfl) (fun _ _ _ h => h) (Or.inl ⟨by kernel_rfl, ?_⟩) (by assumption) ?_
                          · intro wz hSw
                            try dsimp only at hSw
                            go_simp
                            all_goals with_reducible rfl
                          try simp only [Act.put, List.setIfInBounds_toArray, List.set_cons_zero, List.set_cons_succ]
                          refine wpAnyH_done (by kernel_rfl) ?_ _
                          go_wp2_with fail
                          refine wp_region_held_drew (S := (fun wx => Below w7.heap.size w7 wx)) (by kernel_rfl) ((unhide HB7d).trans ((below_drew _).mono (unhide HB7d).size)) (fun hHeld => ?_)
                          refine wpAnyH_take (i := 0) (v := ?_) opn0 (by kernel_rfl) (by kernel_rfl) (by kernel_rfl) (fun _ _ _ h => h) (Or.inl ⟨by kernel_rfl, ?_⟩) (by assumption) ?_
                          rotate_left 1
                          · intro wz hSw
                            try dsimp only at hSw
                            go_simp
                            all_goals with_reducible rfl
                          try simp only [Act.put, List.setIfInBounds_toArray, List.set_cons_zero, List.set_cons_succ]
                          refine wpAnyH_take (i := 1) (v := ?_) opn1 (by kernel_rfl) (by kernel_rfl) (by kernel_rfl) (fun _ _ _ h => h) (Or.inl ⟨by kernel_rfl, ?_⟩) (by assumption) ?_
                          rotate_left 1
                          · intro wz hSw
                            try dsimp only at hSw
                            go_simp
                            all_goals with_reducible rfl
                          try simp only [Act.put, List.setIfInBounds_toArray, List.set_cons_zero, List.set_cons_succ]
                          refine wpAnyH_take (i := 2) (v := ?_) opn2 (by kernel_rfl) (by kernel_rfl) (by kernel_rfl) (fun _ _ _ h => h) (Or.inl ⟨by kernel_rfl, ?_⟩) (by assumption) ?_
                          rotate_left 1
                          · intro wz hSw
                            try dsimp only at hSw
                            go_simp
                            all_goals with_reducible rfl
                          try simp only [Act.put, List.setIfInBounds_toArray, List.set_cons_zero, List.set_cons_succ]
                          refine wpAnyH_take (i := 3) (v := ?_) opn3 (by kernel_rfl) (by kernel_rfl) (by kernel_rfl) (fun _ _ _ h => h) (Or.inl ⟨by kernel_rfl, ?_⟩) (by assumption) ?_
                          rotate_left 1
                          · intro wz hSw
                            try dsimp only at hSw
                            obtain ⟨y0, y1, y2, y3, y4, y5, y6, y7⟩ := (unhide HRM) wz hSw
                            go_simp
                            all_goals with_reducible rfl
                          try simp only [Act.put, List.setIfInBounds_toArray, List.set_cons_zero, List.set_cons_succ]
                          refine wpAnyH_take (i := 4) (v := ?_) opn4 (by kernel_rfl) (by kernel_rfl) (by kernel_rfl) (fun _ _ _ h => h) (Or.inl ⟨by kernel_rfl, ?_⟩) (by assumption) ?_
                          rotate_left 1
                          · intro wz hSw
                            try dsimp only at hSw
                            go_simp
                            all_goals with_reducible rfl
                          try simp only [Act.put, List.setIfInBounds_toArray, List.set_cons_zero, List.set_cons_succ]
                          refine wpAnyH_take (i := 5) (v := ?_) opn5 (by kernel_rfl) (by kernel_rfl) (by kernel_rfl) (fun _ _ _ h => h) (Or.inl ⟨by kernel_rfl, ?_⟩) (by assumption) ?_
                          rotate_left 1
                          · intro wz hSw
                            try dsimp only at hSw
                            go_simp
                            all_goals with_reducible rfl
                          try simp only [Act.put, List.setIfInBounds_toArray, List.set_cons_zero, List.set_cons_succ]
                          refine wpAnyH_take (i := 6) (v := ?_) opn6 (by kernel_rfl) (by kernel_rfl) (by kernel_rfl) (fun _ _ _ h => h) (Or.inl ⟨by kernel_rfl, ?_⟩) (by assumption) ?_
                          rotate_left 1
                          · intro wz hSw
                            try dsimp only at hSw
                            go_simp
                            all_goals with_reducible rfl
                          try simp only [Act.put, List.setIfInBounds_toArray, List.set_cons_zero, List.set_cons_succ]
                          refine wpAnyH_take (i := 7) (v := ?_) opn7 (by kernel_rfl) (by kernel_rfl) (by kernel_rfl) (fun _ _ _ h => h) (Or.inl ⟨by kernel_rfl, ?_⟩) (by assumption) ?_
                          rotate_left 1
                          · intro wz hSw
                            try dsimp only at hSw
                            obtain ⟨d0, d1, d2, d3, d4, d5, d6, d7⟩ := (unhide HDP) wz hSw
                            go_simp
                            all_goals with_reducible rfl
                          try simp only [Act.put, List.setIfInBounds_toArray, List.set_cons_zero, List.set_cons_succ]
                          refine wpAnyH_take (i := 8) (v := .bool false) opn8 (by kernel_rfl) (by kernel_rfl) (by kernel_rfl) (fun _ _ _ h => h) (Or.inl ⟨by kernel_rfl, ?_⟩) (by assumption) ?_
                          · intro wz hSw
                            exact yieldsB rfl (by simp [Act.eval]) (by simp [Act.eval]) (nq47 (q3 : Int) rn rk ra rb rt rd ru wz) (gd47 _ _ _ _ wz)
                          try simp only [Act.put, List.setIfInBounds_toArray, List.set_cons_zero, List.set_cons_succ]
                          refine wpAnyH_done (by kernel_rfl) ?_ _
                          have hcm2 : (cm : Int) + 1 ≤ 2001 := by omega
                          go_wp2
                          go_roundw
                          case rel => exact ⟨m + 1, by omega, by go_num, by rw [unhide HC2]; go_num, (unhide HB7d).drew⟩
                          case measure => simp [intOf]; omega
                        · have hrb : (rn == dn) = false := by simpa using hrn
                          have hc2 := unhide HCS
                          rw [if_neg (by unfold hitB; simp [hrn])] at hc2
                          have HC2 := hide hc2
                          subst hrc
                          clear hc2 HCS HONE hrn
                          refine wp_region_held_drew (S := (fun wx => Below w7.heap.size w7 wx)) (by kernel_rfl) ((unhide HB7r).trans ((below_drew _).mono (unhide HB7r).size)) (fun hHeld => ?_)
                          refine wpAnyH_take (i := 0) (v := ?_) opn0 (by kernel_rfl) (by kernel_rfl) (by kernel_rfl) (fun _ _ _ h => h) (Or.inl ⟨by kernel_rfl, ?_⟩) (by assumption) ?_
                          rotate_left 1
                          · intro wz hSw
                            try dsimp only at hSw
                            go_simp
                            all_goals with_reducible rfl
                          try simp only [Act.put, List.setIfInBounds_toArray, List.set_cons_zero, List.set_cons_succ]
                          refine wpAnyH_take (i := 1) (v := ?_) opn1 (by kernel_rfl) (by kernel_rfl) (by kernel_rfl) (fun _ _ _ h => h) (Or.inl ⟨by kernel_rfl, ?_⟩) (by assumption) ?_
                          rotate_left 1
                          · intro wz hSw
                            try dsimp only at hSw
                            go_simp
                            all_goals with_reducible rfl
                          try simp only [Act.put, List.setIfInBounds_toArray, List.set_cons_zero, List.set_cons_succ]
                          refine wpAnyH_take (i := 2) (v := ?_) opn2 (by kernel_rfl) (by kernel_rfl) (by kernel_rfl) (fun _ _ _ h => h) (Or.inl ⟨by kernel_rfl, ?_⟩) (by assumption) ?_
                          rotate_left 1
                          · intro wz hSw
                            try dsimp only at hSw
                            go_simp
                            all_goals with_reducible rfl
                          try simp only [Act.put, List.setIfInBounds_toArray, List.set_cons_zero, List.set_cons_succ]
                          refine wpAnyH_take (i := 3) (v := ?_) opn3 (by kernel_rfl) (by kernel_rfl) (by kernel_rfl) (fun _ _ _ h => h) (Or.inl ⟨by kernel_rfl, ?_⟩) (by assumption) ?_
                          rotate_left 1
                          · intro wz hSw
                            try dsimp only at hSw
                            go_simp
                            all_goals with_reducible rfl
                          try simp only [Act.put, List.setIfInBounds_toArray, List.set_cons_zero, List.set_cons_succ]
                          refine wpAnyH_take (i := 4) (v := ?_) opn4 (by kernel_rfl) (by kernel_rfl) (by kernel_rfl) (fun _ _ _ h => h) (Or.inl ⟨by kernel_rfl, ?_⟩) (by assumption) ?_
                          rotate_left 1
                          · intro wz hSw
                            try dsimp only at hSw
                            obtain ⟨y0, y1, y2, y3, y4, y5, y6, y7⟩ := (unhide HRM) wz hSw
                            go_simp
                            all_goals with_reducible rfl
                          try simp only [Act.put, List.setIfInBounds_toArray, List.set_cons_zero, List.set_cons_succ]
                          refine wpAnyH_take (i := 5) (v := ?_) opn5 (by kernel_rfl) (by kernel_rfl) (by kernel_rfl) (fun _ _ _ h => h) (Or.inl ⟨by kernel_rfl, ?_⟩) (by assumption) ?_
                          rotate_left 1
                          · intro wz hSw
                            try dsimp only at hSw
                            go_simp
                            all_goals with_reducible rfl
                          try simp only [Act.put, List.setIfInBounds_toArray, List.set_cons_zero, List.set_cons_succ]
                          refine wpAnyH_take (i := 6) (v := .bool true) opn6 (by kernel_rfl) (by kernel_rfl) (by kernel_rfl) (fun _ _ _ h => h) (Or.inl ⟨by kernel_rfl, ?_⟩) (by assumption) ?_
                          · intro wz hSw
                            try dsimp only at hSw
                            go_simp
                            all_goals with_reducible rfl
                          try simp only [Act.put, List.setIfInBounds_toArray, List.set_cons_zero, List.set_cons_succ]
                          refine wpAnyH_take (i := 7) (v := .bool true) opn7 (by kernel_rfl) (by kernel_rfl) (by kernel_rfl) (fun _ _ _ h => h) (Or.inl ⟨by kernel_rfl, ?_⟩) (by assumption) ?_
                          · intro wz hSw
                            try dsimp only at hSw
                            go_simp
                            all_goals with_reducible rfl
                          try simp only [Act.put, List.setIfInBounds_toArray, List.set_cons_zero, List.set_cons_succ]
                          refine wpAnyH_take (i := 8) (v := ?_) opn8 (by kernel_rfl) (by kernel_rfl) (by kernel_rfl) (fun _ _ _ h => h) (Or.inl ⟨by kernel_rfl, ?_⟩) (by assumption) ?_
                          rotate_left 1
                          · intro wz hSw
                            try dsimp only at hSw
                            go_simp
                            all_goals with_reducible rfl
                          try simp only [Act.put, List.setIfInBounds_toArray, List.set_cons_zero, List.set_cons_succ]
                          refine wpAnyH_take (i := 9) (v := ?_) opn9 (by kernel_rfl) (by kernel_rfl) (by kernel_rfl) (fun _ _ _ h => h) (Or.inl ⟨by kernel_rfl, ?_⟩) (by assumption) ?_
                          rotate_left 1
                          · intro wz hSw
                            try dsimp only at hSw
                            go_simp
                            all_goals with_reducible rfl
                          try simp only [Act.put, List.setIfInBounds_toArray, List.set_cons_zero, List.set_cons_succ]
                          refine wpAnyH_take (i := 10) (v := ?_) opn10 (by kernel_rfl) (by kernel_rfl) (by kernel_rfl) (fun _ _ _ h => h) (Or.inl ⟨by kernel_rfl, ?_⟩) (by assumption) ?_
                          rotate_left 1
                          · intro wz hSw
                            try dsimp only at hSw
                            go_simp
                            all_goals with_reducible rfl
                          try simp only [Act.put, List.setIfInBounds_toArray, List.set_cons_zero, List.set_cons_succ]
                          refine wpAnyH_take (i := 11) (v := ?_) opn11 (by kernel_rfl) (by kernel_rfl) (by kernel_rfl) (fun _ _ _ h => h) (Or.inl ⟨by kernel_rfl, ?_⟩) (by assumption) ?_
                          rotate_left 1
                          · intro wz hSw
                            try dsimp only at hSw
                            go_simp
                            all_goals with_reducible rfl
                          try simp only [Act.put, List.setIfInBounds_toArray, List.set_cons_zero, List.set_cons_succ]
                          refine wpAnyH_take (i := 12) (v := ?_) opn12 (by kernel_rfl) (by kernel_rfl) (by kernel_rfl) (fun _ _ _ h => h) (Or.inl ⟨by kernel_rfl, ?_⟩) (by assumption) ?_
                          rotate_left 1
                          · intro wz hSw
                            try dsimp only at hSw
                            obtain ⟨y0, y1, y2, y3, y4, y5, y6, y7⟩ := (unhide HRM) wz hSw
                            go_simp
                            all_goals with_reducible rfl
                          try simp only [Act.put, List.setIfInBounds_toArray, List.set_cons_zero, List.set_cons_succ]
                          refine wpAnyH_take (i := 13) (v := ?_) opn13 (by kernel_rfl) (by kernel_rfl) (by kernel_rfl) (fun _ _ _ h => h) (Or.inl ⟨by kernel_rfl, ?_⟩) (by assumption) ?_
                          rotate_left 1
                          · intro wz hSw
                            try dsimp only at hSw
                            go_simp
                            all_goals with_reducible rfl
                          try simp only [Act.put, List.setIfInBounds_toArray, List.set_cons_zero, List.set_cons_succ]
                          refine wpAnyH_take (i := 14) (v := ?_) opn14 (by kernel_rfl) (by kernel_rfl) (by kernel_rfl) (fun _ _ _ h => h) (Or.inl ⟨by kernel_rfl, ?_⟩) (by assumption) ?_
                          rotate_left 1
                          · intro wz hSw
                            try dsimp only at hSw
                            go_simp
                            all_goals with_reducible rfl
                          try simp only [Act.put, List.setIfInBounds_toArray, List.set_cons_zero, List.set_cons_succ]
                          refine wpAnyH_take (i := 15) (v := ?_) opn15 (by kernel_rfl) (by kernel_rfl) (by kernel_rfl) (fun _ _ _ h => h) (Or.inl ⟨by kernel_rfl, ?_⟩) (by assumption) ?_
                          rotate_left 1
                          · intro wz hSw
                            try dsimp only at hSw
                            go_simp
                            all_goals with_reducible rfl
                          try simp only [Act.put, List.setIfInBounds_toArray, List.set_cons_zero, List.set_cons_succ]
                          refine wpAnyH_take (i := 16) (v := ?_) opn16 (by kernel_rfl) (by kernel_rfl) (by kernel_rfl) (fun _ _ _ h => h) (Or.inl ⟨by kernel_rfl, ?_⟩) (by assumption) ?_
                          rotate_left 1
                          · intro wz hSw
                            try dsimp only at hSw
                            go_simp
                            all_goals with_reducible rfl
                          try simp only [Act.put, List.setIfInBounds_toArray, List.set_cons_zero, List.set_cons_succ]
                          refine wpAnyH_take (i := 17) (v := ?_) opn17 (by kernel_rfl) (by kernel_rfl) (by kernel_rfl) (fun _ _ _ h => h) (Or.inl ⟨by kernel_rfl, ?_⟩) (by assumption) ?_
                          rotate_left 1
                          · intro wz hSw
                            try dsimp only at hSw
                            obtain ⟨d0, d1, d2, d3, d4, d5, d6, d7⟩ := (unhide HDP) wz hSw
                            go_simp
                            all_goals with_reducible rfl
                          try simp only [Act.put, List.setIfInBounds_toArray, List.set_cons_zero, List.set_cons_succ]
                          refine wpAnyH_take (i := 18) (v := .bool false) opn18 (by kernel_rfl) (by kernel_rfl) (by kernel_rfl) (fun _ _ _ h => h) (Or.inl ⟨by kernel_rfl, ?_⟩) (by assumption) ?_
                          · intro wz hSw
                            try dsimp only at hSw
                            go_simp
                            all_goals with_reducible rfl
                          try simp only [Act.put, List.setIfInBounds_toArray, List.set_cons_zero, List.set_cons_succ]
                          refine wpAnyH_take (i := 19) (v := .bool false) opn19 (by kernel_rfl) (by kernel_rfl) (by kernel_rfl) (fun _ _ _ h => h) (Or.inl ⟨by kernel_rfl, ?_⟩) (by assumption) ?_
                          · intro wz hSw
                            try dsimp only at hSw
                            go_simp
                            all_goals with_reducible rfl
                          try simp only [Act.put, List.setIfInBounds_toArray, List.set_cons_zero, List.set_cons_succ]
                          refine wpAnyH_done (by kernel_rfl) ?_ _
                          go_wp2
                          go_roundw
                          case rel => exact ⟨m + 1, by omega, by go_num, by rw [unhide HC2]; rfl, unhide HB7d⟩
                          case measure => simp [intOf]; omega
                      · have hrb : (rc == (q3 : Int)) = false := by simpa using hrc
                        have hc2 := unhide HCS
                        rw [if_neg (by unfold hitB; simp [hrc])] at hc2
                        have HC2 := hide hc2
                        clear hc2 HCS HONE hrc
                        refine wp_region_held_drew (S := (fun wx => Below w7.heap.size w7 wx)) (by kernel_rfl) ((unhide HB7r).trans ((below_drew _).mono (unhide HB7r).size)) (fun hHeld => ?_)
                        refine wpAnyH_take (i := 0) (v := ?_) opn0 (by kernel_rfl) (by kernel_rfl) (by kernel_rfl) (fun _ _ _ h => h) (Or.inl ⟨by kernel_rfl, ?_⟩) (by assumption) ?_
                        rotate_left 1
                        · intro wz hSw
                          try dsimp only at hSw
                          go_simp
                          all_goals with_reducible rfl
                        try simp only [Act.put, List.setIfInBounds_toArray, List.set_cons_zero, List.set_cons_succ]
                        refine wpAnyH_take (i := 1) (v := ?_) opn1 (by kernel_rfl) (by kernel_rfl) (by kernel_rfl) (fun _ _ _ h => h) (Or.inl ⟨by kernel_rfl, ?_⟩) (by assumption) ?_
                        rotate_left 1
                        · intro wz hSw
                          try dsimp only at hSw
                          go_simp
                          all_goals with_reducible rfl
                        try simp only [Act.put, List.setIfInBounds_toArray, List.set_cons_zero, List.set_cons_succ]
                        refine wpAnyH_take (i := 2) (v := ?_) opn2 (by kernel_rfl) (by kernel_rfl) (by kernel_rfl) (fun _ _ _ h => h) (Or.inl ⟨by kernel_rfl, ?_⟩) (by assumption) ?_
                        rotate_left 1
                        · intro wz hSw
                          try dsimp only at hSw
                          go_simp
                          all_goals with_reducible rfl
                        try simp only [Act.put, List.setIfInBounds_toArray, List.set_cons_zero, List.set_cons_succ]
                        refine wpAnyH_take (i := 3) (v := ?_) opn3 (by kernel_rfl) (by kernel_rfl) (by kernel_rfl) (fun _ _ _ h => h) (Or.inl ⟨by kernel_rfl, ?_⟩) (by assumption) ?_
                        rotate_left 1
                        · intro wz hSw
                          try dsimp only at hSw
                          go_simp
                          all_goals with_reducible rfl
                        try simp only [Act.put, List.setIfInBounds_toArray, List.set_cons_zero, List.set_cons_succ]
                        refine wpAnyH_take (i := 4) (v := ?_) opn4 (by kernel_rfl) (by kernel_rfl) (by kernel_rfl) (fun _ _ _ h => h) (Or.inl ⟨by kernel_rfl, ?_⟩) (by assumption) ?_
                        rotate_left 1
                        · intro wz hSw
                          try dsimp only at hSw
                          obtain ⟨y0, y1, y2, y3, y4, y5, y6, y7⟩ := (unhide HRM) wz hSw
                          go_simp
                          all_goals with_reducible rfl
                        try simp only [Act.put, List.setIfInBounds_toArray, List.set_cons_zero, List.set_cons_succ]
                        refine wpAnyH_take (i := 5) (v := ?_) opn5 (by kernel_rfl) (by kernel_rfl) (by kernel_rfl) (fun _ _ _ h => h) (Or.inl ⟨by kernel_rfl, ?_⟩) (by assumption) ?_
                        rotate_left 1
                        · intro wz hSw
                          try dsimp only at hSw
                          go_simp
                          all_goals with_reducible rfl
                        try simp only [Act.put, List.setIfInBounds_toArray, List.set_cons_zero, List.set_cons_succ]
                        refine wpAnyH_take (i := 6) (v := .bool false) opn6 (by kernel_rfl) (by kernel_rfl) (by kernel_rfl) (fun _ _ _ h => h) (Or.inl ⟨by kernel_rfl, ?_⟩) (by assumption) ?_
                        · intro wz hSw
                          try dsimp only at hSw
                          go_simp
                          all_goals with_reducible rfl
                        try simp only [Act.put, List.setIfInBounds_toArray, List.set_cons_zero, List.set_cons_succ]
                        refine wpAnyH_take (i := 7) (v := .bool false) opn7 (by kernel_rfl) (by kernel_rfl) (by kernel_rfl) (fun _ _ _ h => h) (Or.inl ⟨by kernel_rfl, ?_⟩) (by assumption) ?_
                        · intro wz hSw
                          try dsimp only at hSw
                          go_simp
                          all_goals with_reducible rfl
                        try simp only [Act.put, List.setIfInBounds_toArray, List.set_cons_zero, List.set_cons_succ]
                        refine wpAnyH_take (i := 8) (v := undef) opn8 (by kernel_rfl) (by kernel_rfl) (by kernel_rfl) (fun _ _ _ h => h) (Or.inr ⟨by kernel_rfl, rfl⟩) (by assumption) ?_
                        try simp only [Act.put, List.setIfInBounds_toArray, List.set_cons_zero, List.set_cons_succ]
                        refine wpAnyH_take (i := 9) (v := undef) opn9 (by kernel_rfl) (by kernel_rfl) (by kernel_rfl) (fun _ _ _ h => h) (Or.inr ⟨by kernel_rfl, rfl⟩) (by assumption) ?_
                        try simp only [Act.put, List.setIfInBounds_toArray, List.set_cons_zero, List.set_cons_succ]
                        refine wpAnyH_take (i := 10) (v := undef) opn10 (by kernel_rfl) (by kernel_rfl) (by kernel_rfl) (fun _ _ _ h => h) (Or.inr ⟨by kernel_rfl, rfl⟩) (by assumption) ?_
                        try simp only [Act.put, List.setIfInBounds_toArray, List.set_cons_zero, List.set_cons_succ]
                        refine wpAnyH_take (i := 11) (v := undef) opn11 (by kernel_rfl) (by kernel_rfl) (by kernel_rfl) (fun _ _ _ h => h) (Or.inr ⟨by kernel_rfl, rfl⟩) (by assumption) ?_
                        try simp only [Act.put, List.setIfInBounds_toArray, List.set_cons_zero, List.set_cons_succ]
                        refine wpAnyH_take (i := 12) (v := undef) opn12 (by kernel_rfl) (by kernel_rfl) (by kernel_rfl) (fun _ _ _ h => h) (Or.inr ⟨by kernel_rfl, rfl⟩) (by assumption) ?_
                        try simp only [Act.put, List.setIfInBounds_toArray, List.set_cons_zero, List.set_cons_succ]
                        refine wpAnyH_take (i := 13) (v := undef) opn13 (by kernel_rfl) (by kernel_rfl) (by kernel_rfl) (fun _ _ _ h => h) (Or.inr ⟨by kernel_rfl, rfl⟩) (by assumption) ?_
                        try simp only [Act.put, List.setIfInBounds_toArray, List.set_cons_zero, List.set_cons_succ]
                        refine wpAnyH_take (i := 14) (v := undef) opn14 (by kernel_rfl) (by kernel_rfl) (by kernel_rfl) (fun _ _ _ h => h) (Or.inr ⟨by kernel_rfl, rfl⟩) (by assumption) ?_
                        try simp only [Act.put, List.setIfInBounds_toArray, List.set_cons_zero, List.set_cons_succ]
                        refine wpAnyH_take (i := 15) (v := undef) opn15 (by kernel_rfl) (by kernel_rfl) (by kernel_rfl) (fun _ _ _ h => h) (Or.inr ⟨by kernel_rfl, rfl⟩) (by assumption) ?_
                        try simp only [Act.put, List.setIfInBounds_toArray, List.set_cons_zero, List.set_cons_succ]
                        refine wpAnyH_take (i := 16) (v := undef) opn16 (by kernel_rfl) (by kernel_rfl) (by kernel_rfl) (fun _ _ _ h => h) (Or.inr ⟨by kernel_rfl, rfl⟩) (by assumption) ?_
                        try simp only [Act.put, List.setIfInBounds_toArray, List.set_cons_zero, List.set_cons_succ]
                        refine wpAnyH_take (i := 17) (v := undef) opn17 (by kernel_rfl) (by kernel_rfl) (by kernel_rfl) (fun _ _ _ h => h) (Or.inr ⟨by kernel_rfl, rfl⟩) (by assumption) ?_
                        try simp only [Act.put, List.setIfInBounds_toArray, List.set_cons_zero, List.set_cons_succ]
                        refine wpAnyH_take (i := 18) (v := undef) opn18 (by kernel_rfl) (by kernel_rfl) (by kernel_rfl) (fun _ _ _ h => h) (Or.inr ⟨by kernel_rfl, rfl⟩) (by assumption) ?_
                        try simp only [Act.put, List.setIfInBounds_toArray, List.set_cons_zero, List.set_cons_succ]
                        refine wpAnyH_take (i := 19) (v := .bool false) opn19 (by kernel_rfl) (by kernel_rfl) (by kernel_rfl) (fun _ _ _ h => h) (Or.inl ⟨by kernel_rfl, ?_⟩) (by assumption) ?_
                        · intro wz hSw
                          try dsimp only at hSw
                          go_simp
                          all_goals with_reducible rfl
                        try simp only [Act.put, List.setIfInBounds_toArray, List.set_cons_zero, List.set_cons_succ]
                        refine wpAnyH_done (by kernel_rfl) ?_ _
                        go_wp2
                        go_roundw
                        case rel => exact ⟨m + 1, by omega, by go_num, by rw [unhide HC2]; rfl, unhide HB7d⟩
                        case measure => simp [intOf]; omega
                    · obtain rfl : m = nL := by omega
                      have hcnt : cnt (A.log.take m) (q3 : Int) dn = if changesB dk = true then 1 else 0 := by rw [List.take_of_length_le (by have := unhide HNL; omega)]; exact unhide HCNT
                      have HCHG := hide (Changes_any dk)
                      have hpi : (0 : Int) ≤ (p : Int) := by omega
                      obtain ⟨d0, d1, d2, d3, d4, d5, d6, d7⟩ := (unhide HDP) _ (unhide HB7r)
                      rw [hcnt]
                      clear d0 d1 d3 d4 d5 d6 d7 hcnt
                      dsimp only at d2
                      cases hch : changesB dk
                      · rw [hch] at HCHG
                        rw [if_neg (by simp)]
                        clear hch
                        go_wp2_with fail
                        refine ((unhide HCHG) _).mono ?_
                        rintro e w8 ⟨rfl, hw⟩
                        subst hw
                        go_wp2
                        go_roundw
                        case rel => exact ⟨p + 1, by omega, by go_num, unhide HB7r⟩
                        case measure => simp [intOf]; omega
                      · rw [hch] at HCHG
                        rw [if_pos rfl]
                        clear hch
                        go_wp2_with fail
                        refine ((unhide HCHG) _).mono ?_
                        rintro e w8 ⟨rfl, hw⟩
                        subst hw
                        go_wp2
                        go_roundw
                        case rel => exact ⟨p + 1, by omega, by go_num, unhide HB7r⟩
                        case measure => simp [intOf]; omega
                · go_wp2
                  go_roundw
                  case rel => exact ⟨q3 + 1, by omega, by go_num, (unhide HB67).trans ((unhide HB5r).mono (unhide HB67).size)⟩
                  case measure => simp [intOf]; omega
            · go_wp2
              go_ret
              exact ⟨rfl, (unhide HB2).trans (((unhide HB6).trans ((unhide HBr).mono (unhide HB6).size)).mono hz2)⟩

end Go.Proofs.YtmbhbnoifimeaabGreat

namespace Go.Proofs.YtmbhbnoifimeaabGreat
open Go.ChangeShapes Go.WideShapes Go.ChangeAt Go.RowKit Go.Deep Go.Joins
set_option linter.unusedSimpArgs false
set_option linter.unusedVariables false

theorem reach48 {s : ByteArray} (h : s.data.toList.length ≤ reachBytes) : s.size ≤ 281474976710656 := by
  have h1 : s.size = s.data.toList.length := by show s.data.size = _; rw [Array.length_toList]
  unfold reachBytes at h
  omega

section
variable {H : Type} {enc : TypeId × Value → H} {w : World} {base : Nat} {spare : Nat → Bool} {held : Bool}

theorem trodS4 {P : Program} {t : TypeId} {f0 f1 f2 f3 : Field} {fuel : Nat} {cs : List Value} {x : DataW H × List MemPlace} (ht : P.underlying t = some (.struct #[f0, f1, f2, f3])) (h : DataW.trod enc P w base spare held fuel t cs = some x) :
    ∃ y0 y1 y2 y3 n, x.1 = .agg [y0.1, y1.1, y2.1, y3.1] ∧ cs.length = P.cellsOf t ∧ DataW.trod enc P w base spare held n f0.type ((cs.drop f0.offset).take (P.cellsOf f0.type)) = some y0 ∧ DataW.trod enc P w base spare held n f1.type ((cs.drop f1.offset).take (P.cellsOf f1.type)) = some y1 ∧ DataW.trod enc P w base spare held n f2.type ((cs.drop f2.offset).take (P.cellsOf f2.type)) = some y2 ∧ DataW.trod enc P w base spare held n f3.type ((cs.drop f3.offset).take (P.cellsOf f3.type)) = some y3 := by
  obtain ⟨xs, n, _, rfl, hl, hlen, hf⟩ := DataW.trod_struct ht h
  match xs, hlen with
  | [y0, y1, y2, y3], _ => exact ⟨y0, y1, y2, y3, n, rfl, hl, by simpa using hf 0 f0 rfl, by simpa using hf 1 f1 rfl, by simpa using hf 2 f2 rfl, by simpa using hf 3 f3 rfl⟩
set_option maxRecDepth 100000 in
/-- A call's four cells. -/
theorem open_callW {fuel : Nat} {cs : List Value} {x : DataW H × List MemPlace} (h : DataW.trod enc Tryz.prog w base spare held fuel 32 cs = some x) (hw : ∀ n ∈ x.1.weights Tryz.prog 32, n ≤ reachBytes) :
    ∃ c : ACall, cs = [.int .i64 c.kind, .string c.name, .string c.dst, .string c.text] ∧ c.name.size ≤ 281474976710656 ∧ c.dst.size ≤ 281474976710656 ∧ c.text.size ≤ 281474976710656 := by
  obtain ⟨y0, y1, y2, y3, n, hx, hl, h0, h1, h2, h3⟩ := trodS4 Tryz.underlying32 h
  rw [cells32] at hl
  obtain ⟨c0, c1, c2, c3, hcs⟩ := array4 (cs := cs.toArray) (by simpa using hl)
  have hcs : cs = [c0, c1, c2, c3] := by simpa using congrArg Array.toList hcs
  subst hcs
  simp only [cells3, cells9, List.drop, List.take] at h0 h1 h2 h3
  obtain ⟨k, e0, f0, wk⟩ := DataW.trod_int Tryz.underlying3 h0
  obtain ⟨a, e1, f1, wa⟩ := DataW.trod_string Tryz.underlying9 h1
  obtain ⟨b, e2, f2, wb⟩ := DataW.trod_string Tryz.underlying9 h2
  obtain ⟨t, e3, f3, wt⟩ := DataW.trod_string Tryz.underlying9 h3
  simp at e0 e1 e2 e3
  rw [hx] at hw
  subst e0 e1 e2 e3 f0 f1 f2 f3
  simp only [DataW.weights, Tryz.underlying32, List.map, DataW.weightsEach, List.nil_append, List.append_nil, List.mem_append, List.mem_singleton] at hw
  exact ⟨⟨k, a, b, t⟩, rfl, reach48 (hw _ (by simp)), reach48 (hw _ (by simp)), reach48 (hw _ (by simp))⟩

theorem mem_weightsAll {e : TypeId} : ∀ {l : List (DataW H)} {d : DataW H}, d ∈ l → ∀ n ∈ d.weights Tryz.prog e, n ∈ DataW.weightsAll Tryz.prog e l
  | x :: l, d, hd, n, hn => by
    simp only [DataW.weightsAll, List.mem_append]
    rcases List.mem_cons.1 hd with rfl | h
    · exact .inl hn
    · exact .inr (mem_weightsAll h n hn)
end

end Go.Proofs.YtmbhbnoifimeaabGreat
