/- Texts joined: Open Cm OpenB Sx Rg0 Sy OpenS. -/
import Derived.Test.YtemimppknlfghaaWm
import Derived.ProofKit
import Derived.OpenShut
import Derived.ShutString
import Derived.ChangeOld
import Derived.Deep.Slices
import Derived.Lib.SmallJoins
import Derived.Test.YtemimppknlfghaaCk
import Derived.Test.YtemimppknlfghaaCo
import Derived.Test.YtemimppknlfghaaJ5
import Derived.WalkKit
import Derived.Deep.RegionHeld
import Derived.Lib.BufferRead
/- What comes in: a slice of calls, a call by value: opened. -/
namespace Go.Proofs.Ytemimppknlfghaa
open Go.ChangeShapes Go.WideShapes Go.ChangeAt Go.RowKit Go.Deep Go.Joins
set_option linter.unusedSimpArgs false
set_option linter.unusedVariables false

theorem own0 : ownKnob Try.prog.godebug = none := by kernel_rfl
theorem laidOut0 : laidOutB Try.prog = true := by kernel_rfl
theorem cells32 : Try.prog.cellsOf 32 = 4 := by kernel_rfl
theorem cells3 : Try.prog.cellsOf 3 = 1 := by kernel_rfl
theorem cells9 : Try.prog.cellsOf 9 = 1 := by kernel_rfl

section
variable {H : Type} {enc : TypeId × Value → H} {w : World} {base : Nat} {spare : Nat → Bool} {held : Bool}

/-- A call's four cells. -/
theorem open_call {fuel : Nat} {cs : List Value} {x : DataW H × List MemPlace} (h : DataW.trod enc Try.prog w base spare held fuel 32 cs = some x) :
    ∃ c : ACall, cs = [.int .i64 c.kind, .string c.name, .string c.dst, .string c.text] ∧ (Lit.int .i64 c.kind).wf = true ∧ c.name.size ≤ maxLen ∧ c.dst.size ≤ maxLen ∧ c.text.size ≤ maxLen := by
  obtain ⟨y0, y1, y2, y3, n, hx, hl, h0, h1, h2, h3⟩ := trod_struct4 Try.underlying32 h
  rw [cells32] at hl
  obtain ⟨c0, c1, c2, c3, hcs⟩ := array4 (cs := cs.toArray) (by simpa using hl)
  have hcs : cs = [c0, c1, c2, c3] := by simpa using congrArg Array.toList hcs
  subst hcs
  simp only [cells3, cells9, List.drop, List.take] at h0 h1 h2 h3
  obtain ⟨k, e0, _, wk⟩ := DataW.trod_int Try.underlying3 h0
  obtain ⟨a, e1, _, wa⟩ := DataW.trod_string Try.underlying9 h1
  obtain ⟨b, e2, _, wb⟩ := DataW.trod_string Try.underlying9 h2
  obtain ⟨t, e3, _, wt⟩ := DataW.trod_string Try.underlying9 h3
  simp at e0 e1 e2 e3
  subst e0 e1 e2 e3
  exact ⟨⟨k, a, b, t⟩, rfl, wk, wa, wb, wt⟩
end

/-- A slice of calls. -/
theorem open_calls {H : Type} {enc : TypeId × Value → H} {w : World} {base : Nat} {held : Bool} {fuel : Nat} {a0 : Option Addr} {len cap : Nat} {x : DataW H × List MemPlace}
    (h : DataW.trod enc Try.prog w base (fun _ => true) held fuel 22 [.slice a0 len cap] = some x) : ∃ cs : List ACall, IsCalls w a0 len cs := by
  rcases open_slice Try.underlying22 h with ⟨hcs, _⟩ | ⟨a, len', cap', m, n, D, Pl, hcs, _, hl, hm, hmm, _, hx⟩
  · simp at hcs
    obtain ⟨rfl, rfl, rfl⟩ := hcs
    exact ⟨[], rfl, Nat.zero_le _, fun h => absurd h (Nat.lt_irrefl _)⟩
  · simp at hcs
    obtain ⟨rfl, rfl, rfl⟩ := hcs
    simp only [if_true] at hmm
    subst hmm
    rw [cells32] at hx
    have hc : ∀ i, i < len → ∃ c : ACall, (w.cells? base (a.add (i * 4)) 4 = some [.int .i64 c.kind, .string c.name, .string c.dst, .string c.text]) ∧ c.name.size ≤ maxLen ∧ c.dst.size ≤ maxLen ∧ c.text.size ≤ maxLen := fun i hi => by
      obtain ⟨cs', h1, h2⟩ := hx i (by omega)
      obtain ⟨c, rfl, _, w1, w2, w3⟩ := open_call h2
      exact ⟨c, h1, w1, w2, w3⟩
    obtain ⟨f, hf⟩ : ∃ f : Nat → ACall, ∀ i, i < len → (w.cells? base (a.add (i * 4)) 4 = some [.int .i64 (f i).kind, .string (f i).name, .string (f i).dst, .string (f i).text]) ∧ (f i).name.size ≤ maxLen ∧ (f i).dst.size ≤ maxLen ∧ (f i).text.size ≤ maxLen := by
      classical
      refine ⟨fun i => if hi : i < len then Classical.choose (hc i hi) else ⟨0, ⟨#[]⟩, ⟨#[]⟩, ⟨#[]⟩⟩, fun i hi => ?_⟩
      simp only [dif_pos hi]
      exact Classical.choose_spec (hc i hi)
    refine ⟨(List.range len).map f, by simp, by omega, fun h0 => ?_⟩
    have hs : ∀ i, i < len → ∀ j, j < 4 → w.cell? ((a.add (i * 4)).add j) = [Value.int .i64 (f i).kind, .string (f i).name, .string (f i).dst, .string (f i).text][j]? := fun i hi j hj => by
      obtain ⟨_, hlen, hcell⟩ := World.cells?_some (hf i hi).1
      exact hcell j hj
    obtain ⟨b, off, spot⟩ := a
    have e0 := hs 0 h0 0 (by omega)
    have hsp : spot = none := by
      cases spot with
      | none => rfl
      | some s =>
        exfalso
        have e1 : ((⟨b, off, some s⟩ : Addr).add (0 * 4)).add 0 = ⟨b, off, some s⟩ := by simp [Addr.add]
        rw [e1] at e0
        simp only [World.cell?] at e0
        split at e0 <;> simp at e0
    subst hsp
    have hadd : ∀ i j, ((⟨b, off, none⟩ : Addr).add (i * 4)).add j = ⟨b, off + i * 4 + j, none⟩ := fun i j => by
      unfold Addr.add
      by_cases h1 : i * 4 = 0 <;> by_cases h2 : j = 0 <;> simp [h1, h2]
    refine ⟨b, off, rfl, ?_, fun j c hj => ?_⟩
    · rw [hadd] at e0
      exact World.block_lt_of_cell? w _ e0
    · have hj' : j < len := by have := (List.getElem?_eq_some_iff.1 hj).1; simpa using this
      have hcj : c = f j := by
        rw [List.getElem?_map, List.getElem?_range hj'] at hj
        simpa using hj.symm
      subst hcj
      have q0 := hs j hj' 0 (by omega)
      have q1 := hs j hj' 1 (by omega)
      have q2 := hs j hj' 2 (by omega)
      have q3 := hs j hj' 3 (by omega)
      rw [hadd] at q0 q1 q2 q3
      exact ⟨⟨q0, q1, q2, q3⟩, (hf j hj').2⟩

end Go.Proofs.Ytemimppknlfghaa

/- What comes in: a record by value, bytes: opened. -/
namespace Go.Proofs.Ytemimppknlfghaa
open Go.ChangeShapes Go.WideShapes Go.ChangeAt Go.RowKit Go.Deep Go.Joins
set_option linter.unusedSimpArgs false
set_option linter.unusedVariables false

theorem cells47 : Try.prog.cellsOf 47 = 8 := by kernel_rfl
theorem cells34 : Try.prog.cellsOf 34 = 2 := by kernel_rfl
theorem cells5 : Try.prog.cellsOf 5 = 1 := by kernel_rfl

theorem list8 {α : Type} {l : List α} (h : l.length = 8) : ∃ c0 c1 c2 c3 c4 c5 c6 c7, l = [c0, c1, c2, c3, c4, c5, c6, c7] := by
  obtain ⟨c0, l, rfl⟩ := List.exists_cons_of_length_pos (l := l) (by omega)
  obtain ⟨c1, l, rfl⟩ := List.exists_cons_of_length_pos (l := l) (by simp at h; omega)
  obtain ⟨c2, l, rfl⟩ := List.exists_cons_of_length_pos (l := l) (by simp at h; omega)
  obtain ⟨c3, l, rfl⟩ := List.exists_cons_of_length_pos (l := l) (by simp at h; omega)
  obtain ⟨c4, l, rfl⟩ := List.exists_cons_of_length_pos (l := l) (by simp at h; omega)
  obtain ⟨c5, l, rfl⟩ := List.exists_cons_of_length_pos (l := l) (by simp at h; omega)
  obtain ⟨c6, l, rfl⟩ := List.exists_cons_of_length_pos (l := l) (by simp at h; omega)
  obtain ⟨c7, l, rfl⟩ := List.exists_cons_of_length_pos (l := l) (by simp at h; omega)
  have : l = [] := by simpa using h
  subst this
  exact ⟨_, _, _, _, _, _, _, _, rfl⟩

section
variable {H : Type} {enc : TypeId × Value → H} {w : World} {base : Nat} {spare : Nat → Bool} {held : Bool}

set_option maxRecDepth 100000 in
/-- A record's eight cells. -/
theorem open_rec {fuel : Nat} {cs : List Value} {x : DataW H × List MemPlace} (h : DataW.trod enc Try.prog w base spare held fuel 47 cs = some x) :
    ∃ r : ARec, cs = rcells r ∧ r.call.name.size ≤ maxLen ∧ r.call.dst.size ≤ maxLen ∧ r.call.text.size ≤ maxLen ∧ r.ans.size ≤ maxLen := by
  obtain ⟨y0, y1, y2, y3, n, hx, hl, h0, h1, h2, h3⟩ := trod_struct4 Try.underlying47 h
  rw [cells47] at hl
  obtain ⟨c0, c1, c2, c3, c4, c5, c6, c7, rfl⟩ := list8 hl
  simp only [cells3, cells9, cells32, cells34, List.drop, List.take] at h0 h1 h2 h3
  obtain ⟨k, e0, _, _⟩ := DataW.trod_int Try.underlying3 h0
  obtain ⟨k1, e1, _, _⟩ := DataW.trod_int Try.underlying3 h1
  obtain ⟨c, e2, _, s1, s2, s3⟩ := open_call h2
  obtain ⟨z0, z1, n', hx', hl', g0, g1⟩ := trod_struct2 Try.underlying34 h3
  simp only [cells3, cells9, List.drop, List.take] at g0 g1
  obtain ⟨d, e3, _, _⟩ := DataW.trod_int Try.underlying3 g0
  obtain ⟨u, e4, _, wu⟩ := DataW.trod_string Try.underlying9 g1
  simp at e0 e1 e2 e3 e4
  obtain ⟨rfl, rfl, rfl, rfl⟩ := e2
  subst e0 e1 e3 e4
  exact ⟨⟨k, k1, c, d, u⟩, rfl, s1, s2, s3, wu⟩
end

end Go.Proofs.Ytemimppknlfghaa

/- What comes in: bytes, a row of records: opened. -/
namespace Go.Proofs.Ytemimppknlfghaa
open Go.ChangeShapes Go.WideShapes Go.ChangeAt Go.RowKit Go.Deep Go.Joins
set_option linter.unusedSimpArgs false
set_option linter.unusedVariables false

theorem u8_wf {k : Int} (h : (Lit.int .u8 k).wf = true) : ((UInt8.ofNat k.toNat).toNat : Int) = k := by
  simp [Lit.wf, IntKind.min, IntKind.max, IntKind.signed, IntKind.bits] at h
  exact ofInt_u8 (by omega) (by omega)

theorem spot_none {w : World} {a : Addr} {v : Value} (h : w.cell? a = some v) : a = ⟨a.block, a.off, none⟩ := by
  obtain ⟨b, off, spot⟩ := a
  cases spot with
  | none => rfl
  | some s =>
    exfalso
    simp only [World.cell?] at h
    split at h <;> simp at h

/-- Bytes. -/
theorem open_bytes {H : Type} {enc : TypeId × Value → H} {w : World} {base : Nat} {held : Bool} {fuel : Nat} {a0 : Option Addr} {len cap : Nat} {x : DataW H × List MemPlace}
    (h : DataW.trod enc Try.prog w base (fun _ => true) held fuel 48 [.slice a0 len cap] = some x) : ∃ bs : List UInt8, ByAt w a0 bs ∧ bs.length = len ∧ len ≤ cap ∧ len ≤ maxLen ∧ (a0 = none → len = 0 ∧ cap = 0) := by
  rcases open_slice1 Try.underlying48 cells5 h with ⟨hcs, _⟩ | ⟨a, len', cap', m, n, V, D, Pl, hcs, _, hl, hm, hmm, _, hx⟩
  · simp at hcs
    obtain ⟨rfl, rfl, rfl⟩ := hcs
    exact ⟨[], fun h => absurd rfl h, rfl, Nat.le_refl _, Nat.zero_le _, fun _ => ⟨rfl, rfl⟩⟩
  · simp at hcs
    obtain ⟨rfl, rfl, rfl⟩ := hcs
    simp only [if_true] at hmm
    subst hmm
    obtain ⟨f, hf⟩ : ∃ f : Nat → UInt8, ∀ i, i < len → w.cell? (a.add i) = some (.int .u8 ((f i).toNat : Int)) := by
      classical
      have hc : ∀ i, i < len → ∃ b : UInt8, w.cell? (a.add i) = some (.int .u8 (b.toNat : Int)) := fun i hi => by
        obtain ⟨h1, h2⟩ := hx i (by omega)
        obtain ⟨k, e, _, hw⟩ := DataW.trod_int Try.underlying5 h2
        simp at e
        rw [e] at h1
        exact ⟨UInt8.ofNat k.toNat, by rw [u8_wf hw]; exact h1⟩
      refine ⟨fun i => if hi : i < len then Classical.choose (hc i hi) else 0, fun i hi => ?_⟩
      simp only [dif_pos hi]
      exact Classical.choose_spec (hc i hi)
    refine ⟨(List.range len).map f, fun h0 => ?_, by simp, hl, by omega, fun h => by cases h⟩
    have h0 : 0 < len := by
      rcases Nat.eq_zero_or_pos len with h1 | h1
      · rw [h1] at h0; simp at h0
      · exact h1
    have e0 := hf 0 h0
    have ea : a = ⟨a.block, a.off, none⟩ := by
      have : a.add 0 = a := by simp [Addr.add]
      rw [this] at e0
      exact spot_none e0
    refine ⟨a.block, a.off, by rw [← ea], fun j y hj => ?_⟩
    have hj' : j < len := by have := (List.getElem?_eq_some_iff.1 hj).1; simpa using this
    have hy : y = f j := by
      rw [List.getElem?_map, List.getElem?_range hj'] at hj
      simpa using hj.symm
    subst hy
    have := hf j hj'
    rw [ea, addr_add] at this
    exact this

/-- A row of records. -/
theorem open_recs {H : Type} {enc : TypeId × Value → H} {w : World} {base : Nat} {held : Bool} {fuel : Nat} {a0 : Option Addr} {len cap : Nat} {x : DataW H × List MemPlace}
    (h : DataW.trod enc Try.prog w base (fun _ => true) held fuel 56 [.slice a0 len cap] = some x) : ∃ rs : List ARec, RecsAt w a0 len rs ∧ len ≤ cap ∧ len ≤ maxLen ∧ (a0 = none → len = 0 ∧ cap = 0) ∧ ∀ r, r ∈ rs → r.call.name.size ≤ maxLen ∧ r.call.dst.size ≤ maxLen ∧ r.call.text.size ≤ maxLen ∧ r.ans.size ≤ maxLen := by
  rcases open_slice Try.underlying56 h with ⟨hcs, _⟩ | ⟨a, len', cap', m, n, D, Pl, hcs, _, hl, hm, hmm, _, hx⟩
  · simp at hcs
    obtain ⟨rfl, rfl, rfl⟩ := hcs
    exact ⟨[], ⟨rfl, fun h => absurd h (Nat.lt_irrefl _)⟩, Nat.le_refl _, Nat.zero_le _, fun _ => ⟨rfl, rfl⟩, by simp⟩
  · simp at hcs
    obtain ⟨rfl, rfl, rfl⟩ := hcs
    simp only [if_true] at hmm
    subst hmm
    rw [cells47] at hx
    obtain ⟨f, hf⟩ : ∃ f : Nat → ARec, ∀ i, i < len → w.cells? base (a.add (i * 8)) 8 = some (rcells (f i)) ∧ (f i).call.name.size ≤ maxLen ∧ (f i).call.dst.size ≤ maxLen ∧ (f i).call.text.size ≤ maxLen ∧ (f i).ans.size ≤ maxLen := by
      classical
      have hc : ∀ i, i < len → ∃ r : ARec, w.cells? base (a.add (i * 8)) 8 = some (rcells r) ∧ r.call.name.size ≤ maxLen ∧ r.call.dst.size ≤ maxLen ∧ r.call.text.size ≤ maxLen ∧ r.ans.size ≤ maxLen := fun i hi => by
        obtain ⟨cs', h1, h2⟩ := hx i (by omega)
        obtain ⟨r, rfl, w1⟩ := open_rec h2
        exact ⟨r, h1, w1⟩
      refine ⟨fun i => if hi : i < len then Classical.choose (hc i hi) else zeroRec, fun i hi => ?_⟩
      simp only [dif_pos hi]
      exact Classical.choose_spec (hc i hi)
    refine ⟨(List.range len).map f, ⟨by simp, fun h0 => ?_⟩, hl, by omega, fun h => (by cases h), fun r hr => ?_⟩
    · have hs : ∀ i, i < len → ∀ j, j < 8 → w.cell? ((a.add (i * 8)).add j) = (rcells (f i))[j]? := fun i hi j hj => by
        obtain ⟨_, hlen, hcell⟩ := World.cells?_some (hf i hi).1
        exact hcell j hj
      have e0 := hs 0 h0 0 (by omega)
      have ea : a = ⟨a.block, a.off, none⟩ := by
        have : (a.add (0 * 8)).add 0 = a := by simp [Addr.add]
        rw [this] at e0
        exact spot_none e0
      refine ⟨a.block, a.off, by rw [← ea], fun j r hj => ?_⟩
      have hj' : j < len := by have := (List.getElem?_eq_some_iff.1 hj).1; simpa using this
      have hr : r = f j := by
        rw [List.getElem?_map, List.getElem?_range hj'] at hj
        simpa using hj.symm
      subst hr
      have hq : ∀ i, i < 8 → w.cell? ⟨a.block, a.off + j * 8 + i, none⟩ = (rcells (f j))[i]? := fun i hi => by
        have := hs j hj' i hi
        rw [ea, addr_add, addr_add] at this
        exact this
      exact ⟨hq 0 (by omega), hq 1 (by omega), hq 2 (by omega), hq 3 (by omega), hq 4 (by omega), hq 5 (by omega), hq 6 (by omega), hq 7 (by omega)⟩
    · simp at hr
      obtain ⟨i, hi, rfl⟩ := hr
      exact (hf i hi).2

set_option maxRecDepth 100000 in
/-- A record by value. -/
theorem open_recv {H : Type} {enc : TypeId × Value → H} {w : World} {base base' : Nat} {held : Bool} {spare : Nat → Bool} {v : Value} {d : DataW H} {p : List MemPlace} (hv : Value.okWide Try.prog w .any base' 47 v) (h : ∃ fuel, DataW.trod enc Try.prog w base spare held fuel 47 v.cells.toList = some (d, p)) :
    ∃ r : ARec, v = r.val ∧ r.call.name.size ≤ maxLen ∧ r.call.dst.size ≤ maxLen ∧ r.call.text.size ≤ maxLen ∧ r.ans.size ≤ maxLen := by
  obtain ⟨cells, rfl, hsz⟩ := okWide_struct Try.underlying47 hv
  obtain ⟨fuel, hf⟩ := h
  obtain ⟨r, hcs, hs⟩ := open_rec hf
  refine ⟨r, ?_, hs⟩
  have : cells.toList = rcells r := hcs
  unfold ARec.val
  congr 1
  apply Array.ext'
  simpa [rcells] using this

end Go.Proofs.Ytemimppknlfghaa

/- Steps that come in; greatStore. -/
namespace Go.Proofs.Ytemimppknlfghaa
open Go.ChangeShapes Go.WideShapes Go.ChangeAt Go.RowKit Go.Deep Go.Joins
set_option linter.unusedSimpArgs false
set_option linter.unusedVariables false

def xcells (x : AStep) : List Value := [.int .i64 x.act, .int .i64 x.client, .int .i64 x.no, .int .i64 x.keep, .int .i64 x.call.kind, .string x.call.name, .string x.call.dst, .string x.call.text]
/-- A step lies there. -/
structure StepAt (w : World) (b o : Nat) (x : AStep) : Prop where
  x0 : w.cell? ⟨b, o, none⟩ = some (.int .i64 x.act)
  x1 : w.cell? ⟨b, o + 1, none⟩ = some (.int .i64 x.client)
  x2 : w.cell? ⟨b, o + 2, none⟩ = some (.int .i64 x.no)
  x3 : w.cell? ⟨b, o + 3, none⟩ = some (.int .i64 x.keep)
  x4 : w.cell? ⟨b, o + 4, none⟩ = some (.int .i64 x.call.kind)
  x5 : w.cell? ⟨b, o + 5, none⟩ = some (.string x.call.name)
  x6 : w.cell? ⟨b, o + 6, none⟩ = some (.string x.call.dst)
  x7 : w.cell? ⟨b, o + 7, none⟩ = some (.string x.call.text)
theorem StepAt.lt {w : World} {b o : Nat} {x : AStep} (h : StepAt w b o x) : b < w.heap.size := World.block_lt_of_cell? w _ h.x0
theorem StepAt.same {w W : World} {b o : Nat} {x : AStep} (h : StepAt w b o x) (hb : W.heap[b]? = w.heap[b]?) : StepAt W b o x := by
  have hc : ∀ j, W.cell? ⟨b, j, none⟩ = w.cell? ⟨b, j, none⟩ := fun j => by simp only [World.cell?, hb]
  exact ⟨(hc _).trans h.x0, (hc _).trans h.x1, (hc _).trans h.x2, (hc _).trans h.x3, (hc _).trans h.x4, (hc _).trans h.x5, (hc _).trans h.x6, (hc _).trans h.x7⟩
def Sized (x : AStep) : Prop := x.call.name.size ≤ maxLen ∧ x.call.dst.size ≤ maxLen ∧ x.call.text.size ≤ maxLen
/-- Steps one behind the other lie there. -/
def StepsAt (w : World) (a : Option Addr) (n : Nat) (xs : List AStep) : Prop :=
  xs.length = n ∧ n ≤ maxLen ∧ (∀ x, x ∈ xs → Sized x) ∧ (0 < n → ∃ b off, a = some ⟨b, off, none⟩ ∧ ∀ (j : Nat) (x : AStep), xs[j]? = some x → StepAt w b (off + j * 8) x)
theorem StepsAt.below {w W : World} {a : Option Addr} {n : Nat} {xs : List AStep} (h : StepsAt w a n xs) (hb : Below w.heap.size w W) : StepsAt W a n xs := by
  refine ⟨h.1, h.2.1, h.2.2.1, fun h0 => ?_⟩
  obtain ⟨b, off, rfl, hc⟩ := h.2.2.2 h0
  exact ⟨b, off, rfl, fun j r hr => (hc j r hr).same (hb.block b (hc j r hr).lt)⟩

set_option maxRecDepth 100000 in
set_option maxHeartbeats 2000000 in
theorem greatStore_any (a0 : Option Addr) (len cap : Nat) (xs : List AStep) (w : World) (hl : StepsAt w a0 len xs) :
    Calls Try.prog 43 #[.slice a0 len cap] w fun e w' => RetB e ∧ Below w.heap.size w w' := by
  have hm := hl.2.1
  unfold maxLen at hm
  have HL := hide hl
  clear hl
  go_enter Try.func43, Try.ntmps43
  go_wp2
  go_loopw [3] (fun i wr => ∃ k : Nat, k ≤ 200 ∧ i = .int .i64 k ∧ Hid (Below w.heap.size w wr)) (fun i _ => 200 - (intOf i).toNat)
  case atStart => exact ⟨0, Nat.zero_le _, rfl, Below.refl _ _⟩
  case round =>
    obtain ⟨k, hk, rfl, HB⟩ := hrel
    by_cases h1 : (k : Int) < (len : Int)
    · by_cases h2 : (k : Int) < 200
      · obtain ⟨b, off, rfl, hc⟩ := ((unhide HL).below (unhide HB)).2.2.2 (by omega)
        obtain ⟨x, hx⟩ : ∃ x, xs[k]? = some x := ⟨_, List.getElem?_eq_getElem (by rw [(unhide HL).1]; omega)⟩
        obtain ⟨g0, g1, g2, g3, g4, g5, g6, g7⟩ := hc k x hx
        have hcon := greatCall_any x.call.kind x.call.name x.call.dst x.call.text wr
        obtain ⟨xa, xc, xn, xk, ⟨ck, ca, cb, ct⟩⟩ := x
        dsimp only at g0 g1 g2 g3 g4 g5 g6 g7 hcon
        clear hc hx
        go_wp2_with (go_at_call 29; refine hcon.mono ?_; rintro e w1 ⟨⟨r, rfl⟩, b1⟩)
        · go_ret
          exact ⟨RetB.mk _, (unhide HB).trans (b1.mono (unhide HB).size)⟩
        · go_roundw
          case rel => exact ⟨k + 1, by omega, by go_num, (unhide HB).trans (b1.mono (unhide HB).size)⟩
          case measure => simp [intOf]; omega
      · go_wp2
        go_ret
        exact ⟨RetB.mk _, unhide HB⟩
    · go_wp2
      go_ret
      exact ⟨RetB.mk _, unhide HB⟩

end Go.Proofs.Ytemimppknlfghaa

/- The operation number i of a region that is written out. -/
namespace Go.Proofs.Ytemimppknlfghaa
set_option linter.unusedVariables false

theorem opn0 { oi : Oper} {r : List Oper} : (List.toArray (oi :: r))[0]? = some oi := rfl
theorem opn1 {x0 oi : Oper} {r : List Oper} : (List.toArray (x0 :: oi :: r))[1]? = some oi := rfl
theorem opn2 {x0 x1 oi : Oper} {r : List Oper} : (List.toArray (x0 :: x1 :: oi :: r))[2]? = some oi := rfl
theorem opn3 {x0 x1 x2 oi : Oper} {r : List Oper} : (List.toArray (x0 :: x1 :: x2 :: oi :: r))[3]? = some oi := rfl
theorem opn4 {x0 x1 x2 x3 oi : Oper} {r : List Oper} : (List.toArray (x0 :: x1 :: x2 :: x3 :: oi :: r))[4]? = some oi := rfl
theorem opn5 {x0 x1 x2 x3 x4 oi : Oper} {r : List Oper} : (List.toArray (x0 :: x1 :: x2 :: x3 :: x4 :: oi :: r))[5]? = some oi := rfl
theorem opn6 {x0 x1 x2 x3 x4 x5 oi : Oper} {r : List Oper} : (List.toArray (x0 :: x1 :: x2 :: x3 :: x4 :: x5 :: oi :: r))[6]? = some oi := rfl
theorem opn7 {x0 x1 x2 x3 x4 x5 x6 oi : Oper} {r : List Oper} : (List.toArray (x0 :: x1 :: x2 :: x3 :: x4 :: x5 :: x6 :: oi :: r))[7]? = some oi := rfl
theorem opn8 {x0 x1 x2 x3 x4 x5 x6 x7 oi : Oper} {r : List Oper} : (List.toArray (x0 :: x1 :: x2 :: x3 :: x4 :: x5 :: x6 :: x7 :: oi :: r))[8]? = some oi := rfl
theorem opn9 {x0 x1 x2 x3 x4 x5 x6 x7 x8 oi : Oper} {r : List Oper} : (List.toArray (x0 :: x1 :: x2 :: x3 :: x4 :: x5 :: x6 :: x7 :: x8 :: oi :: r))[9]? = some oi := rfl
theorem opn10 {x0 x1 x2 x3 x4 x5 x6 x7 x8 x9 oi : Oper} {r : List Oper} : (List.toArray (x0 :: x1 :: x2 :: x3 :: x4 :: x5 :: x6 :: x7 :: x8 :: x9 :: oi :: r))[10]? = some oi := rfl
theorem opn11 {x0 x1 x2 x3 x4 x5 x6 x7 x8 x9 x10 oi : Oper} {r : List Oper} : (List.toArray (x0 :: x1 :: x2 :: x3 :: x4 :: x5 :: x6 :: x7 :: x8 :: x9 :: x10 :: oi :: r))[11]? = some oi := rfl
theorem opn12 {x0 x1 x2 x3 x4 x5 x6 x7 x8 x9 x10 x11 oi : Oper} {r : List Oper} : (List.toArray (x0 :: x1 :: x2 :: x3 :: x4 :: x5 :: x6 :: x7 :: x8 :: x9 :: x10 :: x11 :: oi :: r))[12]? = some oi := rfl
theorem opn13 {x0 x1 x2 x3 x4 x5 x6 x7 x8 x9 x10 x11 x12 oi : Oper} {r : List Oper} : (List.toArray (x0 :: x1 :: x2 :: x3 :: x4 :: x5 :: x6 :: x7 :: x8 :: x9 :: x10 :: x11 :: x12 :: oi :: r))[13]? = some oi := rfl
theorem opn14 {x0 x1 x2 x3 x4 x5 x6 x7 x8 x9 x10 x11 x12 x13 oi : Oper} {r : List Oper} : (List.toArray (x0 :: x1 :: x2 :: x3 :: x4 :: x5 :: x6 :: x7 :: x8 :: x9 :: x10 :: x11 :: x12 :: x13 :: oi :: r))[14]? = some oi := rfl
theorem opn15 {x0 x1 x2 x3 x4 x5 x6 x7 x8 x9 x10 x11 x12 x13 x14 oi : Oper} {r : List Oper} : (List.toArray (x0 :: x1 :: x2 :: x3 :: x4 :: x5 :: x6 :: x7 :: x8 :: x9 :: x10 :: x11 :: x12 :: x13 :: x14 :: oi :: r))[15]? = some oi := rfl
theorem opn16 {x0 x1 x2 x3 x4 x5 x6 x7 x8 x9 x10 x11 x12 x13 x14 x15 oi : Oper} {r : List Oper} : (List.toArray (x0 :: x1 :: x2 :: x3 :: x4 :: x5 :: x6 :: x7 :: x8 :: x9 :: x10 :: x11 :: x12 :: x13 :: x14 :: x15 :: oi :: r))[16]? = some oi := rfl
theorem opn17 {x0 x1 x2 x3 x4 x5 x6 x7 x8 x9 x10 x11 x12 x13 x14 x15 x16 oi : Oper} {r : List Oper} : (List.toArray (x0 :: x1 :: x2 :: x3 :: x4 :: x5 :: x6 :: x7 :: x8 :: x9 :: x10 :: x11 :: x12 :: x13 :: x14 :: x15 :: x16 :: oi :: r))[17]? = some oi := rfl
theorem opn18 {x0 x1 x2 x3 x4 x5 x6 x7 x8 x9 x10 x11 x12 x13 x14 x15 x16 x17 oi : Oper} {r : List Oper} : (List.toArray (x0 :: x1 :: x2 :: x3 :: x4 :: x5 :: x6 :: x7 :: x8 :: x9 :: x10 :: x11 :: x12 :: x13 :: x14 :: x15 :: x16 :: x17 :: oi :: r))[18]? = some oi := rfl
theorem opn19 {x0 x1 x2 x3 x4 x5 x6 x7 x8 x9 x10 x11 x12 x13 x14 x15 x16 x17 x18 oi : Oper} {r : List Oper} : (List.toArray (x0 :: x1 :: x2 :: x3 :: x4 :: x5 :: x6 :: x7 :: x8 :: x9 :: x10 :: x11 :: x12 :: x13 :: x14 :: x15 :: x16 :: x17 :: x18 :: oi :: r))[19]? = some oi := rfl
theorem opn20 {x0 x1 x2 x3 x4 x5 x6 x7 x8 x9 x10 x11 x12 x13 x14 x15 x16 x17 x18 x19 oi : Oper} {r : List Oper} : (List.toArray (x0 :: x1 :: x2 :: x3 :: x4 :: x5 :: x6 :: x7 :: x8 :: x9 :: x10 :: x11 :: x12 :: x13 :: x14 :: x15 :: x16 :: x17 :: x18 :: x19 :: oi :: r))[20]? = some oi := rfl
theorem opn21 {x0 x1 x2 x3 x4 x5 x6 x7 x8 x9 x10 x11 x12 x13 x14 x15 x16 x17 x18 x19 x20 oi : Oper} {r : List Oper} : (List.toArray (x0 :: x1 :: x2 :: x3 :: x4 :: x5 :: x6 :: x7 :: x8 :: x9 :: x10 :: x11 :: x12 :: x13 :: x14 :: x15 :: x16 :: x17 :: x18 :: x19 :: x20 :: oi :: r))[21]? = some oi := rfl
theorem opn22 {x0 x1 x2 x3 x4 x5 x6 x7 x8 x9 x10 x11 x12 x13 x14 x15 x16 x17 x18 x19 x20 x21 oi : Oper} {r : List Oper} : (List.toArray (x0 :: x1 :: x2 :: x3 :: x4 :: x5 :: x6 :: x7 :: x8 :: x9 :: x10 :: x11 :: x12 :: x13 :: x14 :: x15 :: x16 :: x17 :: x18 :: x19 :: x20 :: x21 :: oi :: r))[22]? = some oi := rfl
theorem opn23 {x0 x1 x2 x3 x4 x5 x6 x7 x8 x9 x10 x11 x12 x13 x14 x15 x16 x17 x18 x19 x20 x21 x22 oi : Oper} {r : List Oper} : (List.toArray (x0 :: x1 :: x2 :: x3 :: x4 :: x5 :: x6 :: x7 :: x8 :: x9 :: x10 :: x11 :: x12 :: x13 :: x14 :: x15 :: x16 :: x17 :: x18 :: x19 :: x20 :: x21 :: x22 :: oi :: r))[23]? = some oi := rfl
theorem opn24 {x0 x1 x2 x3 x4 x5 x6 x7 x8 x9 x10 x11 x12 x13 x14 x15 x16 x17 x18 x19 x20 x21 x22 x23 oi : Oper} {r : List Oper} : (List.toArray (x0 :: x1 :: x2 :: x3 :: x4 :: x5 :: x6 :: x7 :: x8 :: x9 :: x10 :: x11 :: x12 :: x13 :: x14 :: x15 :: x16 :: x17 :: x18 :: x19 :: x20 :: x21 :: x22 :: x23 :: oi :: r))[24]? = some oi := rfl
theorem opn25 {x0 x1 x2 x3 x4 x5 x6 x7 x8 x9 x10 x11 x12 x13 x14 x15 x16 x17 x18 x19 x20 x21 x22 x23 x24 oi : Oper} {r : List Oper} : (List.toArray (x0 :: x1 :: x2 :: x3 :: x4 :: x5 :: x6 :: x7 :: x8 :: x9 :: x10 :: x11 :: x12 :: x13 :: x14 :: x15 :: x16 :: x17 :: x18 :: x19 :: x20 :: x21 :: x22 :: x23 :: x24 :: oi :: r))[25]? = some oi := rfl
theorem opn26 {x0 x1 x2 x3 x4 x5 x6 x7 x8 x9 x10 x11 x12 x13 x14 x15 x16 x17 x18 x19 x20 x21 x22 x23 x24 x25 oi : Oper} {r : List Oper} : (List.toArray (x0 :: x1 :: x2 :: x3 :: x4 :: x5 :: x6 :: x7 :: x8 :: x9 :: x10 :: x11 :: x12 :: x13 :: x14 :: x15 :: x16 :: x17 :: x18 :: x19 :: x20 :: x21 :: x22 :: x23 :: x24 :: x25 :: oi :: r))[26]? = some oi := rfl
theorem opn27 {x0 x1 x2 x3 x4 x5 x6 x7 x8 x9 x10 x11 x12 x13 x14 x15 x16 x17 x18 x19 x20 x21 x22 x23 x24 x25 x26 oi : Oper} {r : List Oper} : (List.toArray (x0 :: x1 :: x2 :: x3 :: x4 :: x5 :: x6 :: x7 :: x8 :: x9 :: x10 :: x11 :: x12 :: x13 :: x14 :: x15 :: x16 :: x17 :: x18 :: x19 :: x20 :: x21 :: x22 :: x23 :: x24 :: x25 :: x26 :: oi :: r))[27]? = some oi := rfl
theorem opn28 {x0 x1 x2 x3 x4 x5 x6 x7 x8 x9 x10 x11 x12 x13 x14 x15 x16 x17 x18 x19 x20 x21 x22 x23 x24 x25 x26 x27 oi : Oper} {r : List Oper} : (List.toArray (x0 :: x1 :: x2 :: x3 :: x4 :: x5 :: x6 :: x7 :: x8 :: x9 :: x10 :: x11 :: x12 :: x13 :: x14 :: x15 :: x16 :: x17 :: x18 :: x19 :: x20 :: x21 :: x22 :: x23 :: x24 :: x25 :: x26 :: x27 :: oi :: r))[28]? = some oi := rfl
theorem opn29 {x0 x1 x2 x3 x4 x5 x6 x7 x8 x9 x10 x11 x12 x13 x14 x15 x16 x17 x18 x19 x20 x21 x22 x23 x24 x25 x26 x27 x28 oi : Oper} {r : List Oper} : (List.toArray (x0 :: x1 :: x2 :: x3 :: x4 :: x5 :: x6 :: x7 :: x8 :: x9 :: x10 :: x11 :: x12 :: x13 :: x14 :: x15 :: x16 :: x17 :: x18 :: x19 :: x20 :: x21 :: x22 :: x23 :: x24 :: x25 :: x26 :: x27 :: x28 :: oi :: r))[29]? = some oi := rfl
theorem opn30 {x0 x1 x2 x3 x4 x5 x6 x7 x8 x9 x10 x11 x12 x13 x14 x15 x16 x17 x18 x19 x20 x21 x22 x23 x24 x25 x26 x27 x28 x29 oi : Oper} {r : List Oper} : (List.toArray (x0 :: x1 :: x2 :: x3 :: x4 :: x5 :: x6 :: x7 :: x8 :: x9 :: x10 :: x11 :: x12 :: x13 :: x14 :: x15 :: x16 :: x17 :: x18 :: x19 :: x20 :: x21 :: x22 :: x23 :: x24 :: x25 :: x26 :: x27 :: x28 :: x29 :: oi :: r))[30]? = some oi := rfl
theorem opn31 {x0 x1 x2 x3 x4 x5 x6 x7 x8 x9 x10 x11 x12 x13 x14 x15 x16 x17 x18 x19 x20 x21 x22 x23 x24 x25 x26 x27 x28 x29 x30 oi : Oper} {r : List Oper} : (List.toArray (x0 :: x1 :: x2 :: x3 :: x4 :: x5 :: x6 :: x7 :: x8 :: x9 :: x10 :: x11 :: x12 :: x13 :: x14 :: x15 :: x16 :: x17 :: x18 :: x19 :: x20 :: x21 :: x22 :: x23 :: x24 :: x25 :: x26 :: x27 :: x28 :: x29 :: x30 :: oi :: r))[31]? = some oi := rfl
theorem opn32 {x0 x1 x2 x3 x4 x5 x6 x7 x8 x9 x10 x11 x12 x13 x14 x15 x16 x17 x18 x19 x20 x21 x22 x23 x24 x25 x26 x27 x28 x29 x30 x31 oi : Oper} {r : List Oper} : (List.toArray (x0 :: x1 :: x2 :: x3 :: x4 :: x5 :: x6 :: x7 :: x8 :: x9 :: x10 :: x11 :: x12 :: x13 :: x14 :: x15 :: x16 :: x17 :: x18 :: x19 :: x20 :: x21 :: x22 :: x23 :: x24 :: x25 :: x26 :: x27 :: x28 :: x29 :: x30 :: x31 :: oi :: r))[32]? = some oi := rfl
theorem opn33 {x0 x1 x2 x3 x4 x5 x6 x7 x8 x9 x10 x11 x12 x13 x14 x15 x16 x17 x18 x19 x20 x21 x22 x23 x24 x25 x26 x27 x28 x29 x30 x31 x32 oi : Oper} {r : List Oper} : (List.toArray (x0 :: x1 :: x2 :: x3 :: x4 :: x5 :: x6 :: x7 :: x8 :: x9 :: x10 :: x11 :: x12 :: x13 :: x14 :: x15 :: x16 :: x17 :: x18 :: x19 :: x20 :: x21 :: x22 :: x23 :: x24 :: x25 :: x26 :: x27 :: x28 :: x29 :: x30 :: x31 :: x32 :: oi :: r))[33]? = some oi := rfl
theorem opn34 {x0 x1 x2 x3 x4 x5 x6 x7 x8 x9 x10 x11 x12 x13 x14 x15 x16 x17 x18 x19 x20 x21 x22 x23 x24 x25 x26 x27 x28 x29 x30 x31 x32 x33 oi : Oper} {r : List Oper} : (List.toArray (x0 :: x1 :: x2 :: x3 :: x4 :: x5 :: x6 :: x7 :: x8 :: x9 :: x10 :: x11 :: x12 :: x13 :: x14 :: x15 :: x16 :: x17 :: x18 :: x19 :: x20 :: x21 :: x22 :: x23 :: x24 :: x25 :: x26 :: x27 :: x28 :: x29 :: x30 :: x31 :: x32 :: x33 :: oi :: r))[34]? = some oi := rfl
theorem opn35 {x0 x1 x2 x3 x4 x5 x6 x7 x8 x9 x10 x11 x12 x13 x14 x15 x16 x17 x18 x19 x20 x21 x22 x23 x24 x25 x26 x27 x28 x29 x30 x31 x32 x33 x34 oi : Oper} {r : List Oper} : (List.toArray (x0 :: x1 :: x2 :: x3 :: x4 :: x5 :: x6 :: x7 :: x8 :: x9 :: x10 :: x11 :: x12 :: x13 :: x14 :: x15 :: x16 :: x17 :: x18 :: x19 :: x20 :: x21 :: x22 :: x23 :: x24 :: x25 :: x26 :: x27 :: x28 :: x29 :: x30 :: x31 :: x32 :: x33 :: x34 :: oi :: r))[35]? = some oi := rfl

/-- What is held may be weakened. -/
theorem wpAnyH_weak {P : Program} {ops : Array Oper} {Q : Exit → Act → World → Prop} {md : Region.Mode} {S S' : World → Prop} (hS : ∀ w, S' w → S w) :
    ∀ (fuel : Nat) (listed : Array Bool) (a : Act) (w : World), wpAnyH P md ops Q S' fuel listed a w → wpAnyH P md ops Q S fuel listed a w
  | 0, _, _, _, h => h
  | fuel + 1, _, _, _, h => ⟨h.1, fun i hi => wpOp_mono (fun a' w' h' => ⟨hS _ h'.1, wpAnyH_weak hS fuel _ a' w' h'.2⟩) (h.2 i hi)⟩

end Go.Proofs.Ytemimppknlfghaa

/- StoreOnce: the walk. -/
namespace Go.Proofs.Ytemimppknlfghaa
open Go.RowKit
set_option linter.unusedSimpArgs false
set_option linter.unusedVariables false

theorem Pair.start {N : Nat} {w : World} {S B : Nat} {own : List Nat} {lv : Value} (h : SRep N w S B own lv []) (hN : N ≤ w.heap.size) : Pair N (w.alloc (.cells #[.slice none 0 0] 78)) S B own lv [] w.heap.size (.slice none 0 0) [] :=
  ⟨h.below ((Below.refl _ _).alloc (Nat.le_refl _) _), ⟨hN, heap_alloc_new w _, World.ownsRow_nil _ _ _ _, by simp [Value.ownBlock]⟩, Good.nil, fun hm => by have := (sown_ge h _ hm).2; omega, by simp [Value.ownBlock], by simp [logB], by simp [logB]⟩
theorem Pair.callS {N : Nat} {W : World} {S B : Nat} {own : List Nat} {lv : Value} {Ls : List ARec} {K : Nat} {rv : Value} {Lr : List ARec} (hp : Pair N W S B own lv Ls K rv Lr) (client no : Int) (c : ACall) (hN : N ≤ W.heap.size) (ha : c.name.size ≤ maxLen) (hb : c.dst.size ≤ maxLen) (ht : c.text.size ≤ maxLen) :
    Calls Try.prog 52 #[.pointer (some ⟨S, 0, none⟩), .int .i64 client, .int .i64 no, .agg #[.int .i64 c.kind, .string c.name, .string c.dst, .string c.text]] W fun e w' => e = .returned (.tuple #[.agg #[.int .i64 (aCall Ls client no c).code, .string (aCall Ls client no c).text], .int .i64 (aCall Ls client no c).err]) ∧ PTurned N W (pown S own lv K rv) S K w' (aCall Ls client no c).log Lr := by
  refine (SCall_any hp.s client no c (by have := hp.ss; omega) hN ha hb ht).mono ?_
  rintro e w' ⟨rfl, hT⟩
  exact ⟨rfl, hp.turnS hT (aCall_short hp.s.good hp.ss _ _ _)⟩

theorem conv_row {w : World} {N n c : Nat} {a : Option Addr} {bs : List UInt8} (h : BRow w N (.slice a n c) bs) (hn : bs.length = n) : (convert 48 9 (.slice a n c)).run Try.prog w = .ok (.string ⟨bs.toArray⟩) w := by
  obtain ⟨hby, hnil, _⟩ := h.by hn
  cases a with
  | none =>
    obtain ⟨rfl, rfl⟩ := hnil rfl
    rw [List.length_eq_zero_iff.1 hn]
    exact Lib.run_convert_nil_bytes w 48 9 5 0 Try.underlying48 Try.underlying5 Try.underlying9
  | some A =>
    have h' := h
    unfold BRow at h'
    rw [hn] at h'
    obtain ⟨g, rfl, _⟩ := row_some h'
    exact conv_at w ⟨g, 0, none⟩ bs c n hn.symm (fun j x hx => by rw [addr_add]; exact h.cells j x hx)

set_option maxRecDepth 100000 in
set_option maxHeartbeats 8000000 in
theorem once_walk (a0 : Option Addr) (n0 c0 : Nat) (ls : List AStep) (x : AStep) (a2 : Option Addr) (n2 c2 : Nat) (ms : List AStep) (w : World) (hl : StepsAt w a0 n0 ls) (hx1 : x.call.name.size ≤ maxLen) (hx2 : x.call.dst.size ≤ maxLen) (hx3 : x.call.text.size ≤ maxLen) (hm : StepsAt w a2 n2 ms) :
    Calls Try.prog 11 #[.slice a0 n0 c0, x.val, .slice a2 n2 c2] w fun e w' => e = .returned (.bool true) ∧ Below w.heap.size w w' := by
  have hB0 : Below w.heap.size w (w.alloc (.cells (xcells x).toArray 81)) := (Below.refl _ _).alloc (Nat.le_refl _) _
  have hX0 : (w.alloc (.cells (xcells x).toArray 81)).heap[w.heap.size]? = some (.cells (xcells x).toArray 81 (0, 0)) := heap_alloc_new w _
  have HBG := hide storeBegun_any
  have HG0 := hide (fun W (h : Below w.heap.size w W) => greatStore_any a0 n0 c0 ls W (hl.below h))
  have HG2 := hide (fun W (h : Below w.heap.size w W) => greatStore_any a2 n2 c2 ms W (hm.below h))
  have HGC := hide (fun W => greatCall_any x.call.kind x.call.name x.call.dst x.call.text W)
  have HIC := hide (fun W => IsChange_any x.call.kind W)
  have HNW := hide (fun W => SNew_any W)
  have HL := hide hl
  have HM := hide hm
  have HB0 := hide hB0
  have HX0 := hide hX0
  have hn0 := hl.2.1
  have hn2 := hm.2.1
  unfold maxLen at hn0 hn2
  have HSZ := hide (And.intro hx1 (And.intro hx2 hx3))
  clear hB0 hX0 hl hm hx1 hx2 hx3
  obtain ⟨xa, xc, xn, xp, ⟨xk, xs1, xs2, xs3⟩⟩ := x
  dsimp only [AStep.val, xcells] at *
  go_enter Try.func11, Try.ntmps11
  go_wp2_with fail
  refine ((unhide HBG) _).mono ?_
  rintro e w1 ⟨rfl, b1⟩
  have HX1 := hide ((b1.block w.heap.size (by simp)).trans (unhide HX0))
  have HB1 := hide ((unhide HB0).trans (b1.mono (unhide HB0).size))
  have hz1 : w.heap.size < w1.heap.size := (Array.getElem?_eq_some_iff.1 (unhide HX1)).1
  clear b1
  go_wp2_with fail
  refine ((unhide HG0) _ (unhide HB1)).mono ?_
  rintro e w2 ⟨⟨r2, rfl⟩, b2⟩
  have HX2 := hide ((b2.block w.heap.size hz1).trans (unhide HX1))
  have HB2 := hide ((unhide HB1).trans (b2.mono (unhide HB1).size))
  have hz2 : w.heap.size < w2.heap.size := (Array.getElem?_eq_some_iff.1 (unhide HX2)).1
  clear b2
  cases r2
  case true =>
    go_wp2
    go_ret
    exact ⟨rfl, unhide HB2⟩
  go_wp2_with fail
  refine ((unhide HG2) _ (unhide HB2)).mono ?_
  rintro e w3 ⟨⟨r3, rfl⟩, b3⟩
  have HX3 := hide ((b3.block w.heap.size hz2).trans (unhide HX2))
  have HB3 := hide ((unhide HB2).trans (b3.mono (unhide HB2).size))
  have hz3 : w.heap.size < w3.heap.size := (Array.getElem?_eq_some_iff.1 (unhide HX3)).1
  clear b3
  cases r3
  case true =>
    go_wp2
    go_ret
    exact ⟨rfl, unhide HB3⟩
  obtain ⟨⟨x0, x1, x2, x3⟩, ⟨x4, x5, x6, x7⟩, _⟩ := eight (unhide HX3)
  go_wp2_with fail
  refine ((unhide HGC) _).mono ?_
  rintro e w4 ⟨⟨r4, rfl⟩, b4⟩
  clear x0 x1 x2 x3 x4 x5 x6 x7
  have HX4 := hide ((b4.block w.heap.size hz3).trans (unhide HX3))
  have HB4 := hide ((unhide HB3).trans (b4.mono (unhide HB3).size))
  have hz4 : w.heap.size < w4.heap.size := (Array.getElem?_eq_some_iff.1 (unhide HX4)).1
  clear b4
  cases r4
  case true =>
    go_wp2
    go_ret
    exact ⟨rfl, unhide HB4⟩
  obtain ⟨⟨x0, x1, x2, x3⟩, ⟨x4, x5, x6, x7⟩, _⟩ := eight (unhide HX4)
  go_wp2_with fail
  refine ((unhide HIC) _).mono ?_
  rintro e w5 ⟨rfl, rfl⟩
  cases hch : changesB xk
  · go_wp2
    go_ret
    exact ⟨rfl, unhide HB4⟩
  clear x0 x1 x2 x3 x4 x5 x6 x7
  go_wp2_with fail
  refine ((unhide HNW) _).mono ?_
  rintro e w6 ⟨S, B6, own6, lv6, rfl, hs6, b6⟩
  have hp := Pair.start hs6 b6.size
  have HP6 := hide hp
  have HB6 : Hid (Below w5.heap.size w5 (w6.alloc (.cells #[.slice none 0 0] 78))) := b6.alloc b6.size _
  clear hs6 b6 hp
  go_wp2_with fail
  go_loopw [9] (fun i wr => ∃ (q B : Nat) (own : List Nat) (lv rv : Value) (L : List ARec), q ≤ n0 ∧ i = .int .i64 (q : Int) ∧ Hid (Pair w5.heap.size wr S B own lv L w6.heap.size rv L) ∧ Hid (Below w5.heap.size w5 wr)) (fun i _ => n0 - (intOf i).toNat)
  case atStart => exact ⟨0, B6, own6, lv6, _, [], Nat.zero_le _, rfl, unhide HP6, unhide HB6⟩
  case round =>
    obtain ⟨q, B, own, lv, rv, L, hq, rfl, HP, HB⟩ := hrel
    have HBw := hide ((unhide HB4).trans ((unhide HB).mono (unhide HB4).size))
    by_cases hlt : (q : Int) < (n0 : Int)
    · obtain ⟨y, hy⟩ : ∃ y, ls[q]? = some y := ⟨_, List.getElem?_eq_getElem (by rw [(unhide HL).1]; omega)⟩
      obtain ⟨b, off, rfl, hc⟩ := ((unhide HL).below (unhide HBw)).2.2.2 (by omega)
      obtain ⟨g0, g1, g2, g3, g4, g5, g6, g7⟩ := hc q y hy
      have hsz := (unhide HL).2.2.1 y (List.mem_of_getElem? hy)
      have HST := hide (storeStep_any (unhide HP) y (unhide HB).size hsz.1 hsz.2.1 hsz.2.2)
      generalize aStep L y = L2 at HST
      clear hc hy hsz
      obtain ⟨ya, yc, yn, yp, ⟨yk, ys1, ys2, ys3⟩⟩ := y
      dsimp only [AStep.val] at *
      go_wp2_with fail
      refine (unhide HST).mono ?_
      rintro e w7 ⟨⟨v, rfl, _⟩, B7, own7, lv7, rv7, hp7, hn7⟩
      have HP7 := hide hp7
      have HB7 := hide ((unhide HB).trans hn7.below)
      clear hp7 hn7
      go_wp2
      go_roundw
      case rel => exact ⟨q + 1, B7, own7, lv7, rv7, L2, by omega, by go_num, unhide HP7, unhide HB7⟩
      case measure => simp [intOf]; omega
    · have hX := ((unhide HB).block w.heap.size hz4).trans (unhide HX4)
      obtain ⟨⟨x0, x1, x2, x3⟩, ⟨x4, x5, x6, x7⟩, _⟩ := eight hX
      have HXr := hide hX
      have hcs := (unhide HP).callS xc xn ⟨xk, xs1, xs2, xs3⟩ (unhide HB).size (unhide HSZ).1 (unhide HSZ).2.1 (unhide HSZ).2.2
      have HLA := hide (fun (h0 : (aCall L xc xn ⟨xk, xs1, xs2, xs3⟩).err = 0) => aCall_last (unhide HP).s.good h0 (by exact hch))
      have HER := hide (fun (h0 : (aCall L xc xn ⟨xk, xs1, xs2, xs3⟩).err ≠ 0) => (aCall_err h0).2)
      generalize aCall L xc xn ⟨xk, xs1, xs2, xs3⟩ = R at hcs HLA HER
      obtain ⟨rcode, rtext, rerr, rlog⟩ := R
      dsimp only at hcs HLA HER
      have HCS := hide hcs
      clear hcs hX
      go_wp2_with fail
      refine (unhide HCS).mono ?_
      rintro e w7 ⟨rfl, B7, own7, lv7, rv7, hp7, hn7⟩
      clear x0 x1 x2 x3 x4 x5 x6 x7
      have HB7 := hide ((unhide HB).trans hn7.below)
      have HP7 := hide hp7
      have hzA : w5.heap.size ≤ w7.heap.size := (unhide HB7).size
      clear hp7 hn7
      by_cases herr : rerr = 0
      · subst herr
        obtain ⟨hlast, hrange, hchk⟩ := (unhide HLA) rfl
        have HLS := hide hlast
        have HRG := hide hrange
        have HCK := hide hchk
        have HA7 : Hid ((w7.alloc (.cells #[.int .i64 rcode, .string rtext] 34)).heap[w7.heap.size]? = some (.cells #[.int .i64 rcode, .string rtext] 34 (0, 0)) ∧ w7.heap.size ∉ pown S own7 lv7 w6.heap.size rv7) := ⟨heap_alloc_new _ _, fun hm => by have := (pown_ge (unhide HP7) _ hm).2; omega⟩
        have hbA : Below w7.heap.size w7 (w7.alloc (.cells #[.int .i64 rcode, .string rtext] 34)) := (Below.refl _ _).alloc (Nat.le_refl _) _
        have HP7a := hide ((unhide HP7).below hbA)
        have HB7a := hide ((unhide HB7).trans (hbA.mono hzA))
        clear hlast hrange hchk hbA HLA HER
        go_wp2_with fail
        go_loopw [12] (fun i wr => ∃ (q2 B : Nat) (own : List Nat) (lv rv : Value) (Ls Lr : List ARec), q2 ≤ n2 ∧ i = .int .i64 (q2 : Int) ∧ Hid (Pair w5.heap.size wr S B own lv Ls w6.heap.size rv Lr) ∧ Hid (lastR Ls xc = ⟨xc, xn, ⟨xk, xs1, xs2, xs3⟩, rcode, rtext⟩) ∧ Hid (Below w5.heap.size w5 wr) ∧ Hid (wr.heap[w7.heap.size]? = some (.cells #[.int .i64 rcode, .string rtext] 34 (0, 0)) ∧ w7.heap.size ∉ pown S own lv w6.heap.size rv)) (fun i _ => n2 - (intOf i).toNat)
        case atStart => exact ⟨0, B7, own7, lv7, rv7, rlog, L, Nat.zero_le _, rfl, unhide HP7a, unhide HLS, unhide HB7a, unhide HA7⟩
        case round =>
          clear HP HB HBw
          obtain ⟨q2, B, own, lv, rv, Ls, Lr, hq2, rfl, HP, HLR, HB, HA⟩ := hrel
          have HBw := hide ((unhide HB4).trans ((unhide HB).mono (unhide HB4).size))
          have hX := ((unhide HB).block w.heap.size hz4).trans (unhide HX4)
          obtain ⟨⟨x0, x1, x2, x3⟩, ⟨x4, x5, x6, x7⟩, _⟩ := eight hX
          by_cases hlt2 : (q2 : Int) < (n2 : Int)
          · obtain ⟨y, hy⟩ : ∃ y, ms[q2]? = some y := ⟨_, List.getElem?_eq_getElem (by rw [(unhide HM).1]; omega)⟩
            obtain ⟨b, off, rfl, hc⟩ := ((unhide HM).below (unhide HBw)).2.2.2 (by omega)
            have hgs := hc q2 y hy
            obtain ⟨g0, g1, g2, g3, g4, g5, g6, g7⟩ := hgs
            have hgs := hc q2 y hy
            have hsz := (unhide HM).2.2.1 y (List.mem_of_getElem? hy)
            have HIY := hide (fun W => IsChange_any y.call.kind W)
            clear hc hy
            obtain ⟨ya, yc, yn, yp, ⟨yk, ys1, ys2, ys3⟩⟩ := y
            dsimp only at *
            by_cases k1 : yc = xc
            · have k1a : (yc == xc) = true := by simpa using k1
              have k1b : (yc != xc) = false := by simp [k1]
              have HK1 := hide k1
              clear k1
              cases k2 : changesB yk
              · rw [k2] at HIY
                go_wp2_with fail
                go_quiet (first | (go_at_call 26; exact Calls.quiet_of_same ((unhide HIY) _)))

                obtain ⟨wd, hwd⟩ : ∃ W, W = wr.drewN nq := ⟨_, rfl⟩
                have hbd : Below wr.heap.size wr wd := by rw [hwd]; exact ⟨rfl, rfl, rfl, Nat.le_refl _, fun _ _ => rfl⟩
                have hgd := hgs.same (hbd.block b hgs.lt)
                have HPd := hide ((unhide HP).below hbd)
                have HBd := hide ((unhide HB).trans (hbd.mono (unhide HB).size))
                have HAd := hide ((hbd.block _ (Array.getElem?_eq_some_iff.1 (unhide HA).1).1).trans (unhide HA).1)
                rw [← hwd]
                obtain ⟨g0, g1, g2, g3, g4, g5, g6, g7⟩ := hgd
                have HST := hide (storeStep_any (unhide HPd) ⟨ya, yc, yn, yp, ⟨yk, ys1, ys2, ys3⟩⟩ (unhide HBd).size hsz.1 hsz.2.1 hsz.2.2)
                have HLO : Hid (lastR (aStep Ls ⟨ya, yc, yn, yp, ⟨yk, ys1, ys2, ys3⟩⟩) xc = ⟨xc, xn, ⟨xk, xs1, xs2, xs3⟩, rcode, rtext⟩) := (aStep_other (by exact .inr (.inl k2))).trans (unhide HLR)
                generalize aStep Ls ⟨ya, yc, yn, yp, ⟨yk, ys1, ys2, ys3⟩⟩ = L2 at HST HLO
                generalize aStep Lr ⟨ya, yc, yn, yp, ⟨yk, ys1, ys2, ys3⟩⟩ = L3 at HST
                dsimp only [AStep.val] at *
                clear hwd hbd hgs
                go_wp2_with fail
                refine (unhide HST).mono ?_
                rintro e w8 ⟨⟨v, rfl, _⟩, B8, own8, lv8, rv8, hp8, hn8⟩
                have HP8 := hide hp8
                have HB8 := hide ((unhide HBd).trans hn8.below)
                have hA8 := hn8.keep _ (Array.getElem?_eq_some_iff.1 (unhide HAd)).1 (unhide HA).2
                have HA8 : Hid (w8.heap[w7.heap.size]? = some (.cells #[.int .i64 rcode, .string rtext] 34 (0, 0)) ∧ w7.heap.size ∉ pown S own8 lv8 w6.heap.size rv8) := ⟨hA8.2.trans (unhide HAd), hA8.1⟩
                clear hp8 hn8 hA8 g0 g1 g2 g3 g4 g5 g6 g7
                go_wp2
                go_roundw
                case rel => exact ⟨q2 + 1, B8, own8, lv8, rv8, L2, L3, by omega, by go_num, unhide HP8, unhide HLO, unhide HB8, unhide HA8⟩
                case measure => simp [intOf]; omega
              · rw [k2] at HIY
                by_cases k3 : ya = 2
                · have k3a : (ya == 2) = true := by simpa using k3
                  have HK3 := hide k3
                  clear k3
                  go_wp2_with fail
                  go_quiet (first | (go_at_call 26; exact Calls.quiet_of_same ((unhide HIY) _)))

                  obtain ⟨wd, hwd⟩ : ∃ W, W = wr.drewN nq := ⟨_, rfl⟩
                  have hbd : Below wr.heap.size wr wd := by rw [hwd]; exact ⟨rfl, rfl, rfl, Nat.le_refl _, fun _ _ => rfl⟩
                  have hgd := hgs.same (hbd.block b hgs.lt)
                  have HPd := hide ((unhide HP).below hbd)
                  have HBd := hide ((unhide HB).trans (hbd.mono (unhide HB).size))
                  have HAd := hide ((hbd.block _ (Array.getElem?_eq_some_iff.1 (unhide HA).1).1).trans (unhide HA).1)
                  rw [← hwd]
                  obtain ⟨g0, g1, g2, g3, g4, g5, g6, g7⟩ := hgd
                  have HST := hide (storeStep_any (unhide HPd) ⟨ya, yc, yn, yp, ⟨yk, ys1, ys2, ys3⟩⟩ (unhide HBd).size hsz.1 hsz.2.1 hsz.2.2)
                  have HLO : Hid (lastR (aStep Ls ⟨ya, yc, yn, yp, ⟨yk, ys1, ys2, ys3⟩⟩) xc = ⟨xc, xn, ⟨xk, xs1, xs2, xs3⟩, rcode, rtext⟩) := (aStep_other (by exact .inr (.inr (unhide HK3)))).trans (unhide HLR)
                  generalize aStep Ls ⟨ya, yc, yn, yp, ⟨yk, ys1, ys2, ys3⟩⟩ = L2 at HST HLO
                  generalize aStep Lr ⟨ya, yc, yn, yp, ⟨yk, ys1, ys2, ys3⟩⟩ = L3 at HST
                  dsimp only [AStep.val] at *
                  clear hwd hbd hgs
                  go_wp2_with fail
                  refine (unhide HST).mono ?_
                  rintro e w8 ⟨⟨v, rfl, _⟩, B8, own8, lv8, rv8, hp8, hn8⟩
                  have HP8 := hide hp8
                  have HB8 := hide ((unhide HBd).trans hn8.below)
                  have hA8 := hn8.keep _ (Array.getElem?_eq_some_iff.1 (unhide HAd)).1 (unhide HA).2
                  have HA8 : Hid (w8.heap[w7.heap.size]? = some (.cells #[.int .i64 rcode, .string rtext] 34 (0, 0)) ∧ w7.heap.size ∉ pown S own8 lv8 w6.heap.size rv8) := ⟨hA8.2.trans (unhide HAd), hA8.1⟩
                  clear hp8 hn8 hA8 g0 g1 g2 g3 g4 g5 g6 g7
                  go_wp2
                  go_roundw
                  case rel => exact ⟨q2 + 1, B8, own8, lv8, rv8, L2, L3, by omega, by go_num, unhide HP8, unhide HLO, unhide HB8, unhide HA8⟩
                  case measure => simp [intOf]; omega
                · have k3a : (ya == 2) = false := by simpa using k3
                  go_wp2_with fail
                  go_quiet (first | (go_at_call 26; exact Calls.quiet_of_same ((unhide HIY) _)))
                  have hbd : Below wr.heap.size wr (wr.drewN nq) := ⟨rfl, rfl, rfl, Nat.le_refl _, fun _ _ => rfl⟩
                  have HPd := hide ((unhide HP).below hbd)
                  have HBd := hide ((unhide HB).trans (hbd.mono (unhide HB).size))
                  clear hbd
                  go_wp2
                  go_roundw
                  case rel => exact ⟨q2 + 1, B, own, lv, rv, Ls, Lr, by omega, by go_num, unhide HPd, unhide HLR, unhide HBd, unhide HA⟩
                  case measure => simp [intOf]; omega
            · have k1a : (yc == xc) = false := by simpa using k1
              have k1b : (yc != xc) = true := by simp [k1]
              have HK1 := hide k1
              clear k1
              go_wp2_with fail
              go_quiet (first | (go_at_call 26; exact Calls.quiet_of_same ((unhide HIY) _)))

              obtain ⟨wd, hwd⟩ : ∃ W, W = wr.drewN nq := ⟨_, rfl⟩
              have hbd : Below wr.heap.size wr wd := by rw [hwd]; exact ⟨rfl, rfl, rfl, Nat.le_refl _, fun _ _ => rfl⟩
              have hgd := hgs.same (hbd.block b hgs.lt)
              have HPd := hide ((unhide HP).below hbd)
              have HBd := hide ((unhide HB).trans (hbd.mono (unhide HB).size))
              have HAd := hide ((hbd.block _ (Array.getElem?_eq_some_iff.1 (unhide HA).1).1).trans (unhide HA).1)
              rw [← hwd]
              obtain ⟨g0, g1, g2, g3, g4, g5, g6, g7⟩ := hgd
              have HST := hide (storeStep_any (unhide HPd) ⟨ya, yc, yn, yp, ⟨yk, ys1, ys2, ys3⟩⟩ (unhide HBd).size hsz.1 hsz.2.1 hsz.2.2)
              have HLO : Hid (lastR (aStep Ls ⟨ya, yc, yn, yp, ⟨yk, ys1, ys2, ys3⟩⟩) xc = ⟨xc, xn, ⟨xk, xs1, xs2, xs3⟩, rcode, rtext⟩) := (aStep_other (by exact .inl (unhide HK1))).trans (unhide HLR)
              generalize aStep Ls ⟨ya, yc, yn, yp, ⟨yk, ys1, ys2, ys3⟩⟩ = L2 at HST HLO
              generalize aStep Lr ⟨ya, yc, yn, yp, ⟨yk, ys1, ys2, ys3⟩⟩ = L3 at HST
              dsimp only [AStep.val] at *
              clear hwd hbd hgs
              go_wp2_with fail
              refine (unhide HST).mono ?_
              rintro e w8 ⟨⟨v, rfl, _⟩, B8, own8, lv8, rv8, hp8, hn8⟩
              have HP8 := hide hp8
              have HB8 := hide ((unhide HBd).trans hn8.below)
              have hA8 := hn8.keep _ (Array.getElem?_eq_some_iff.1 (unhide HAd)).1 (unhide HA).2
              have HA8 : Hid (w8.heap[w7.heap.size]? = some (.cells #[.int .i64 rcode, .string rtext] 34 (0, 0)) ∧ w7.heap.size ∉ pown S own8 lv8 w6.heap.size rv8) := ⟨hA8.2.trans (unhide HAd), hA8.1⟩
              clear hp8 hn8 hA8 g0 g1 g2 g3 g4 g5 g6 g7
              go_wp2
              go_roundw
              case rel => exact ⟨q2 + 1, B8, own8, lv8, rv8, L2, L3, by omega, by go_num, unhide HP8, unhide HLO, unhide HB8, unhide HA8⟩
              case measure => simp [intOf]; omega
          · have hPs := (unhide HP).s
            have hrg := unhide HRG
            obtain ⟨T, hT⟩ : ∃ T, (logB Ls).length = T := ⟨_, rfl⟩
            have hLG := fun W (h : Below wr.heap.size wr W) => Log_any (hPs.below h) (by have := (unhide HP).ss; omega)
            rw [hT] at hLG
            have HLG := hide hLG
            have hz5 := (unhide HB).size
            have hag := aCall_again (unhide HLR) hrg (unhide HCK) hch
            have hlw := aCall_lower (unhide HLR) hrg (unhide HCK) hch
            have hcA := fun W (h : Below wr.heap.size wr W) => ((unhide HP).below h).callS xc xn ⟨xk, xs1, xs2, xs3⟩ (Nat.le_trans hz5 h.size) (unhide HSZ).1 (unhide HSZ).2.1 (unhide HSZ).2.2
            have hcB := fun W B own lv rv (h : Pair w5.heap.size W S B own lv Ls w6.heap.size rv Lr) (hN : w5.heap.size ≤ W.heap.size) => h.callS xc (xn - 1) ⟨xk, xs1, xs2, xs3⟩ hN (unhide HSZ).1 (unhide HSZ).2.1 (unhide HSZ).2.2
            rw [hag] at hcA
            generalize aCall Ls xc (xn - 1) ⟨xk, xs1, xs2, xs3⟩ = R2 at hcB hlw
            obtain ⟨r2code, r2text, r2err, r2log⟩ := R2
            dsimp only at hlw hcA hcB
            obtain ⟨hlw1, rfl⟩ := hlw
            have herb : (r2err == 0) = false := by simpa using hlw1
            have herb2 : (r2err != 0) = true := by simpa using hlw1
            have hwrap : IntKind.i64.wrap (xn - 1) = xn - 1 := by rw [IntKind.wrap_i64]; omega
            have HCA := hide hcA
            have HCB := hide hcB
            obtain ⟨sL, hsL⟩ : ∃ s : ByteArray, s = ⟨(logB r2log).toArray⟩ := ⟨_, rfl⟩
            have HSL := hide hsL
            have HTT := hide hT
            have hlast : (if xc < 0 ∨ 2 < xc then (0 : Int) else (lastR r2log xc).no) = xn := by rw [if_neg (by omega), unhide HLR]
            have HLN := hide hlast
            have HXr2 := hide hX
            clear hPs hLG hag hcA hcB hlw1 hsL hT hlast hrg hX
            go_wp2_with fail
            refine ((unhide HLG) _ (Below.refl _ _)).mono ?_
            rintro e w8 ⟨la, lc, rfl, ol, b8⟩
            have hcv : (convert 48 9 (.slice la T lc)).run Try.prog w8 = .ok (.string sL) w8 := by rw [unhide HSL]; exact conv_row ol (unhide HTT)
            clear x0 x1 x2 x3 x4 x5 x6 x7
            have HX8 := hide ((b8.block w.heap.size (by omega)).trans (unhide HXr2))
            have HA8 := hide ((b8.block _ (Array.getElem?_eq_some_iff.1 (unhide HA).1).1).trans (unhide HA).1)
            have HB8 := hide ((unhide HB).trans (b8.mono hz5))
            have HC8 := hide ((unhide HCA) w8 b8)
            obtain ⟨⟨x0, x1, x2, x3⟩, ⟨x4, x5, x6, x7⟩, _⟩ := eight (unhide HX8)
            clear ol b8
            go_wp2_with fail
            refine (unhide HC8).mono ?_
            rintro e w9 ⟨rfl, B9, own9, lv9, rv9, hp9, hn9⟩
            clear x0 x1 x2 x3 x4 x5 x6 x7 hcv
            have hX9 := (hn9.below.block w.heap.size hz4).trans (unhide HX8)
            have hA9 := (hn9.keep _ (Array.getElem?_eq_some_iff.1 (unhide HA8)).1 (unhide HA).2)
            have hA9' := hA9.2.trans (unhide HA8)
            obtain ⟨⟨x0, x1, x2, x3⟩, ⟨x4, x5, x6, x7⟩, _⟩ := eight hX9
            have hzX9 : w.heap.size < w9.heap.size := (Array.getElem?_eq_some_iff.1 hX9).1
            have HB9 := hide ((unhide HB8).trans hn9.below)
            obtain ⟨V9, hV9⟩ : ∃ V, V = w9.alloc (.cells #[.int .i64 rcode, .string rtext] 34) := ⟨_, rfl⟩
            have hbV : Below w9.heap.size w9 V9 := by rw [hV9]; exact (Below.refl _ _).alloc (Nat.le_refl _) _
            have HPV := hide (hp9.below hbV)
            have hnA : w9.heap.size ∉ pown S own9 lv9 w6.heap.size rv9 := fun hm => by have := (pown_ge hp9 _ hm).2; omega
            have HQ9 : Hid (V9.heap[w9.heap.size]? = some (.cells #[.int .i64 rcode, .string rtext] 34 (0, 0))) := by rw [hV9]; exact heap_alloc_new _ _
            have HQN := hide hnA
            have HAV := hide ((hbV.block _ (Array.getElem?_eq_some_iff.1 hA9').1).trans hA9')
            have HAN := hide hA9.1
            have HXV := hide ((hbV.block _ hzX9).trans hX9)
            have hz9 := (unhide HB9).size
            have HBV := hide ((unhide HB9).trans (hbV.mono hz9))
            have HC9 := hide ((unhide HCB) V9 B9 own9 lv9 rv9 (unhide HPV) (unhide HBV).size)
            have HV9 := hide hV9
            clear hp9 hn9 hX9 hA9 hA9' hbV hnA hV9
            go_wp2_with fail
            rw [← unhide HV9]
            refine (unhide HC9).mono ?_
            rintro e w10 ⟨rfl, B10, own10, lv10, rv10, hp10, hn10⟩
            clear x0 x1 x2 x3 x4 x5 x6 x7
            have hX10 := (hn10.below.block w.heap.size hz4).trans (unhide HXV)
            have hA10 := (hn10.keep _ (Array.getElem?_eq_some_iff.1 (unhide HAV)).1 (unhide HAN)).2.trans (unhide HAV)
            have hQ10 := (hn10.keep _ (Array.getElem?_eq_some_iff.1 (unhide HQ9)).1 (unhide HQN)).2.trans (unhide HQ9)
            have HB10 := hide ((unhide HBV).trans hn10.below)
            obtain ⟨V10, hV10⟩ : ∃ V, V = w10.alloc (.cells #[.int .i64 r2code, .string r2text] 34) := ⟨_, rfl⟩
            have hbV : Below w10.heap.size w10 V10 := by rw [hV10]; exact (Below.refl _ _).alloc (Nat.le_refl _) _
            have hz10 := (unhide HB10).size
            have HB11 := hide ((unhide HB10).trans (hbV.mono hz10))
            have hpV := hp10.below hbV
            have HXV10 := hide ((hbV.block _ (Array.getElem?_eq_some_iff.1 hX10).1).trans hX10)
            obtain ⟨⟨x0, x1, x2, x3⟩, ⟨x4, x5, x6, x7⟩, _⟩ := eight (unhide HXV10)
            have hAV10 := (hbV.block _ (Array.getElem?_eq_some_iff.1 hA10).1).trans hA10
            have hQV10 := (hbV.block _ (Array.getElem?_eq_some_iff.1 hQ10).1).trans hQ10
            obtain ⟨⟨u0, u1⟩, _⟩ := two hAV10
            obtain ⟨⟨v0, v1⟩, _⟩ := two hQV10
            have e34 := fun W => eql34 rcode rcode rtext rtext W
            simp only [beq_self_eq_true, Bool.and_self] at e34
            have HLG2 : Hid (Calls Try.prog 45 #[.pointer (some ⟨S, 0, none⟩)] V10.drew fun e w11 => ∃ la lc, e = .returned (.slice la T lc) ∧ (convert 48 9 (.slice la T lc)).run Try.prog w11 = .ok (.string sL) w11 ∧ SRep w5.heap.size w11 S B10 own10 lv10 r2log ∧ Below w5.heap.size w5 w11 ∧ (w11.cell? ⟨w7.heap.size, 0, none⟩ = some (.int .i64 rcode) ∧ w11.cell? ⟨w7.heap.size, 1, none⟩ = some (.string rtext) ∧ w11.cell? ⟨w9.heap.size, 0, none⟩ = some (.int .i64 rcode) ∧ w11.cell? ⟨w9.heap.size, 1, none⟩ = some (.string rtext) ∧ w11.cell? ⟨w.heap.size, 1, none⟩ = some (.int .i64 xc) ∧ w11.cell? ⟨w.heap.size, 2, none⟩ = some (.int .i64 xn))) := by
              have hbd : Below V10.heap.size V10 V10.drew := (Below.refl _ _).drew
              have h1 := Log_any (hpV.s.below hbd) (by have := (unhide HP).ss; omega)
              rw [unhide HTT] at h1
              refine h1.mono ?_
              rintro e w11 ⟨la, lc, rfl, ol, b11⟩
              have hb11 : Below V10.heap.size V10 w11 := hbd.trans b11
              exact ⟨la, lc, rfl, by rw [unhide HSL]; exact conv_row ol (unhide HTT), hpV.s.below hb11, (unhide HB11).trans (hb11.mono (unhide HB11).size), (hb11.cell (p := ⟨w7.heap.size, 0, none⟩) (World.block_lt_of_cell? _ _ u0)).trans u0, (hb11.cell (p := ⟨w7.heap.size, 1, none⟩) (World.block_lt_of_cell? _ _ u1)).trans u1, (hb11.cell (p := ⟨w9.heap.size, 0, none⟩) (World.block_lt_of_cell? _ _ v0)).trans v0, (hb11.cell (p := ⟨w9.heap.size, 1, none⟩) (World.block_lt_of_cell? _ _ v1)).trans v1, (hb11.cell (p := ⟨w.heap.size, 1, none⟩) (World.block_lt_of_cell? _ _ x1)).trans x1, (hb11.cell (p := ⟨w.heap.size, 2, none⟩) (World.block_lt_of_cell? _ _ x2)).trans x2⟩
            have HV10 := hide hV10
            have HBW4 := hide ((unhide HB4).size)
            have HB4k := hide (unhide HB4)
            clear hp10 hn10 hX10 hA10 hQ10 hbV hpV hV10 hAV10 hQV10
            clear HBG HG0 HG2 HGC HIC HNW HX0 HX1 HB1 HX2 HB2 HX3 HB3 HP6 HB6 HXr HCS HB7 HP7 HLS HRG HCK HA7 HP7a HB7a HLG HCA HCB HX8 HA8 HB8 HC8 HB9 HPV HQ9 HQN HAV HAN HXV HBV HC9 HV9 HB10 HXr2 hwrap hq hq2 hlt hlt2 hz1 hz2 hz3 hzX9 hz9 hz10
            go_wp2_with fail
            rw [← unhide HV10]
            refine wp_region_held_drew (S := (fun wx => wx.cell? ⟨w7.heap.size, 0, none⟩ = some (.int .i64 rcode) ∧ wx.cell? ⟨w7.heap.size, 1, none⟩ = some (.string rtext) ∧ wx.cell? ⟨w9.heap.size, 0, none⟩ = some (.int .i64 rcode) ∧ wx.cell? ⟨w9.heap.size, 1, none⟩ = some (.string rtext) ∧ wx.cell? ⟨w.heap.size, 1, none⟩ = some (.int .i64 xc) ∧ wx.cell? ⟨w.heap.size, 2, none⟩ = some (.int .i64 xn))) (by kernel_rfl) ⟨u0, u1, v0, v1, x1, x2⟩ (fun hHeld => ?_)
            clear u0 u1 v0 v1 x0 x1 x2 x3 x4 x5 x6 x7
            refine wpAnyH_take (i := 0) (v := ?_) opn0 (by kernel_rfl) (by kernel_rfl) (by kernel_rfl) (fun _ _ _ h => h) (Or.inl ⟨by rfl, ?_⟩) (by assumption) ?_
            rotate_left 1
            · intro w hSw
              try dsimp only at hSw
              go_simp
              all_goals with_reducible rfl
            try simp only [Act.put, List.setIfInBounds_toArray, List.set_cons_zero, List.set_cons_succ]
            refine wpAnyH_take (i := 1) (v := ?_) opn1 (by kernel_rfl) (by kernel_rfl) (by kernel_rfl) (fun _ _ _ h => h) (Or.inl ⟨by rfl, ?_⟩) (by assumption) ?_
            rotate_left 1
            · intro w hSw
              try dsimp only at hSw
              go_simp
              all_goals with_reducible rfl
            try simp only [Act.put, List.setIfInBounds_toArray, List.set_cons_zero, List.set_cons_succ]
            refine wpAnyH_take (i := 2) (v := ?_) opn2 (by kernel_rfl) (by kernel_rfl) (by kernel_rfl) (fun _ _ _ h => h) (Or.inl ⟨by rfl, ?_⟩) (by assumption) ?_
            rotate_left 1
            · intro w hSw
              try dsimp only at hSw
              go_simp
              all_goals with_reducible rfl
            try simp only [Act.put, List.setIfInBounds_toArray, List.set_cons_zero, List.set_cons_succ]
            refine wpAnyH_take (i := 3) (v := ?_) opn3 (by kernel_rfl) (by kernel_rfl) (by kernel_rfl) (fun _ _ _ h => h) (Or.inl ⟨by rfl, ?_⟩) (by assumption) ?_
            rotate_left 1
            · intro w hSw
              try dsimp only at hSw
              go_simp
              all_goals with_reducible rfl
            try simp only [Act.put, List.setIfInBounds_toArray, List.set_cons_zero, List.set_cons_succ]
            refine wpAnyH_take (i := 4) (v := ?_) opn4 (by kernel_rfl) (by kernel_rfl) (by kernel_rfl) (fun _ _ _ h => h) (Or.inl ⟨by rfl, ?_⟩) (by assumption) ?_
            rotate_left 1
            · intro w hSw
              try dsimp only at hSw
              go_simp
              all_goals with_reducible rfl
            try simp only [Act.put, List.setIfInBounds_toArray, List.set_cons_zero, List.set_cons_succ]
            refine wpAnyH_take (i := 5) (v := ?_) opn5 (by kernel_rfl) (by kernel_rfl) (by kernel_rfl) (fun _ _ _ h => h) (Or.inl ⟨by rfl, ?_⟩) (by assumption) ?_
            rotate_left 1
            · intro w hSw
              try dsimp only at hSw
              go_simp
              all_goals with_reducible rfl
            try simp only [Act.put, List.setIfInBounds_toArray, List.set_cons_zero, List.set_cons_succ]
            refine wpAnyH_take (i := 6) (v := ?_) opn6 (by kernel_rfl) (by kernel_rfl) (by kernel_rfl) (fun _ _ _ h => h) (Or.inl ⟨by rfl, ?_⟩) (by assumption) ?_
            rotate_left 1
            · intro w hSw
              try dsimp only at hSw
              go_simp
              all_goals with_reducible rfl
            try simp only [Act.put, List.setIfInBounds_toArray, List.set_cons_zero, List.set_cons_succ]
            refine wpAnyH_take (i := 7) (v := ?_) opn7 (by kernel_rfl) (by kernel_rfl) (by kernel_rfl) (fun _ _ _ h => h) (Or.inl ⟨by rfl, ?_⟩) (by assumption) ?_
            rotate_left 1
            · intro w hSw
              try dsimp only at hSw
              go_simp
              all_goals with_reducible rfl
            try simp only [Act.put, List.setIfInBounds_toArray, List.set_cons_zero, List.set_cons_succ]
            refine wpAnyH_take (i := 8) (v := ?_) opn8 (by kernel_rfl) (by kernel_rfl) (by kernel_rfl) (fun _ _ _ h => h) (Or.inl ⟨by rfl, ?_⟩) (by assumption) ?_
            rotate_left 1
            · intro w hSw
              try dsimp only at hSw
              go_simp
              all_goals with_reducible rfl
            try simp only [Act.put, List.setIfInBounds_toArray, List.set_cons_zero, List.set_cons_succ]
            refine wpAnyH_take (i := 9) (v := ?_) opn9 (by kernel_rfl) (by kernel_rfl) (by kernel_rfl) (fun _ _ _ h => h) (Or.inl ⟨by rfl, ?_⟩) (by assumption) ?_
            rotate_left 1
            · intro w hSw
              try dsimp only at hSw
              go_simp
              all_goals with_reducible rfl
            try simp only [Act.put, List.setIfInBounds_toArray, List.set_cons_zero, List.set_cons_succ]
            refine wpAnyH_take (i := 10) (v := ?_) opn10 (by kernel_rfl) (by kernel_rfl) (by kernel_rfl) (fun _ _ _ h => h) (Or.inl ⟨by rfl, ?_⟩) (by assumption) ?_
            rotate_left 1
            · intro w hSw
              try dsimp only at hSw
              go_simp
              all_goals with_reducible rfl
            try simp only [Act.put, List.setIfInBounds_toArray, List.set_cons_zero, List.set_cons_succ]
            refine wpAnyH_take (i := 11) (v := ?_) opn11 (by kernel_rfl) (by kernel_rfl) (by kernel_rfl) (fun _ _ _ h => h) (Or.inl ⟨by rfl, ?_⟩) (by assumption) ?_
            rotate_left 1
            · intro w hSw
              try dsimp only at hSw
              go_simp
              all_goals with_reducible rfl
            try simp only [Act.put, List.setIfInBounds_toArray, List.set_cons_zero, List.set_cons_succ]
            refine wpAnyH_take (i := 12) (v := ?_) opn12 (by kernel_rfl) (by kernel_rfl) (by kernel_rfl) (fun _ _ _ h => h) (Or.inl ⟨by rfl, ?_⟩) (by assumption) ?_
            rotate_left 1
            · intro w hSw
              try dsimp only at hSw
              go_simp
              all_goals with_reducible rfl
            try simp only [Act.put, List.setIfInBounds_toArray, List.set_cons_zero, List.set_cons_succ]
            refine wpAnyH_take (i := 15) (v := ?_) opn15 (by kernel_rfl) (by kernel_rfl) (by kernel_rfl) (fun _ _ _ h => h) (Or.inl ⟨by rfl, ?_⟩) (by assumption) ?_
            rotate_left 1
            · intro w hSw
              try dsimp only at hSw
              go_simp
              all_goals with_reducible rfl
            try simp only [Act.put, List.setIfInBounds_toArray, List.set_cons_zero, List.set_cons_succ]
            refine wpAnyH_ready (rs := [13]) (by kernel_rfl) (by simp) ?_
            refine AllReadyH.cons opn13 (fun K hK => ?_) AllReadyH.nil
            go_simp
            refine (unhide HLG2).mono ?_
            rintro e w11 ⟨la2, lc2, rfl, hcv2, hs11, hb11, hS11⟩
            have HS11 := hide hs11
            have HBF := hide hb11
            clear hs11 hb11 hHeld
            refine hK.out _ _ hS11 (fun hHeld => ?_)
            clear hK K
            try simp only [Act.put, List.setIfInBounds_toArray, List.set_cons_zero, List.set_cons_succ]
            refine wpAnyH_weak (S' := fun wx => (wx.cell? ⟨w7.heap.size, 0, none⟩ = some (.int .i64 rcode) ∧ wx.cell? ⟨w7.heap.size, 1, none⟩ = some (.string rtext) ∧ wx.cell? ⟨w9.heap.size, 0, none⟩ = some (.int .i64 rcode) ∧ wx.cell? ⟨w9.heap.size, 1, none⟩ = some (.string rtext) ∧ wx.cell? ⟨w.heap.size, 1, none⟩ = some (.int .i64 xc) ∧ wx.cell? ⟨w.heap.size, 2, none⟩ = some (.int .i64 xn)) ∧ (convert 48 9 (.slice la2 T lc2)).run Try.prog wx = .ok (.string sL) wx) (fun _ h => h.1) _ _ _ _ ?_
            replace hHeld : (fun wx : World => (wx.cell? ⟨w7.heap.size, 0, none⟩ = some (.int .i64 rcode) ∧ wx.cell? ⟨w7.heap.size, 1, none⟩ = some (.string rtext) ∧ wx.cell? ⟨w9.heap.size, 0, none⟩ = some (.int .i64 rcode) ∧ wx.cell? ⟨w9.heap.size, 1, none⟩ = some (.string rtext) ∧ wx.cell? ⟨w.heap.size, 1, none⟩ = some (.int .i64 xc) ∧ wx.cell? ⟨w.heap.size, 2, none⟩ = some (.int .i64 xn)) ∧ (convert 48 9 (.slice la2 T lc2)).run Try.prog wx = .ok (.string sL) wx) w11 := ⟨hHeld, hcv2⟩
            refine wpAnyH_take (i := 14) (v := ?_) opn14 (by kernel_rfl) (by kernel_rfl) (by kernel_rfl) (fun _ _ _ h => h) (Or.inl ⟨by rfl, ?_⟩) (by assumption) ?_
            rotate_left 1
            · intro w hSw
              try dsimp only at hSw
              go_simp
              all_goals with_reducible rfl
            try simp only [Act.put, List.setIfInBounds_toArray, List.set_cons_zero, List.set_cons_succ]
            refine wpAnyH_take (i := 16) (v := ?_) opn16 (by kernel_rfl) (by kernel_rfl) (by kernel_rfl) (fun _ _ _ h => h) (Or.inl ⟨by rfl, ?_⟩) (by assumption) ?_
            rotate_left 1
            · intro w hSw
              try dsimp only at hSw
              go_simp
              all_goals with_reducible rfl
            try simp only [Act.put, List.setIfInBounds_toArray, List.set_cons_zero, List.set_cons_succ]
            refine wpAnyH_take (i := 17) (v := ?_) opn17 (by kernel_rfl) (by kernel_rfl) (by kernel_rfl) (fun _ _ _ h => h) (Or.inl ⟨by rfl, ?_⟩) (by assumption) ?_
            rotate_left 1
            · intro w hSw
              try dsimp only at hSw
              go_simp
              all_goals with_reducible rfl
            try simp only [Act.put, List.setIfInBounds_toArray, List.set_cons_zero, List.set_cons_succ]
            refine wpAnyH_take (i := 18) (v := ?_) opn18 (by kernel_rfl) (by kernel_rfl) (by kernel_rfl) (fun _ _ _ h => h) (Or.inl ⟨by rfl, ?_⟩) (by assumption) ?_
            rotate_left 1
            · intro w hSw
              try dsimp only at hSw
              go_simp
              all_goals with_reducible rfl
            try simp only [Act.put, List.setIfInBounds_toArray, List.set_cons_zero, List.set_cons_succ]
            refine wpAnyH_take (i := 19) (v := ?_) opn19 (by kernel_rfl) (by kernel_rfl) (by kernel_rfl) (fun _ _ _ h => h) (Or.inl ⟨by rfl, ?_⟩) (by assumption) ?_
            rotate_left 1
            · intro w hSw
              try dsimp only at hSw
              go_simp
              all_goals with_reducible rfl
            try simp only [Act.put, List.setIfInBounds_toArray, List.set_cons_zero, List.set_cons_succ]
            refine wpAnyH_take (i := 20) (v := ?_) opn20 (by kernel_rfl) (by kernel_rfl) (by kernel_rfl) (fun _ _ _ h => h) (Or.inl ⟨by rfl, ?_⟩) (by assumption) ?_
            rotate_left 1
            · intro w hSw
              try dsimp only at hSw
              go_simp
              all_goals with_reducible rfl
            try simp only [Act.put, List.setIfInBounds_toArray, List.set_cons_zero, List.set_cons_succ]
            refine wpAnyH_take (i := 21) (v := ?_) opn21 (by kernel_rfl) (by kernel_rfl) (by kernel_rfl) (fun _ _ _ h => h) (Or.inl ⟨by rfl, ?_⟩) (by assumption) ?_
            rotate_left 1
            · intro w hSw
              try dsimp only at hSw
              go_simp
              all_goals with_reducible rfl
            try simp only [Act.put, List.setIfInBounds_toArray, List.set_cons_zero, List.set_cons_succ]
            refine wpAnyH_take (i := 23) (v := ?_) opn23 (by kernel_rfl) (by kernel_rfl) (by kernel_rfl) (fun _ _ _ h => h) (Or.inl ⟨by rfl, ?_⟩) (by assumption) ?_
            rotate_left 1
            · intro w hSw
              try dsimp only at hSw
              go_simp
              all_goals with_reducible rfl
            try simp only [Act.put, List.setIfInBounds_toArray, List.set_cons_zero, List.set_cons_succ]
            refine wpAnyH_take (i := 24) (v := ?_) opn24 (by kernel_rfl) (by kernel_rfl) (by kernel_rfl) (fun _ _ _ h => h) (Or.inl ⟨by rfl, ?_⟩) (by assumption) ?_
            rotate_left 1
            · intro w hSw
              try dsimp only at hSw
              go_simp
              all_goals with_reducible rfl
            try simp only [Act.put, List.setIfInBounds_toArray, List.set_cons_zero, List.set_cons_succ]
            refine wpAnyH_ready (rs := [22]) (by kernel_rfl) (by simp) ?_
            refine AllReadyH.cons opn22 (fun K hK => ?_) AllReadyH.nil
            go_simp
            refine (SLast_any (unhide HS11) xc).mono ?_
            rintro e w12 ⟨rfl, rfl⟩
            refine hK.out _ _ hHeld (fun hHeld => ?_)
            clear hK K
            try simp only [Act.put, List.setIfInBounds_toArray, List.set_cons_zero, List.set_cons_succ]
            rw [unhide HLN]
            refine wpAnyH_take (i := 25) (v := ?_) opn25 (by kernel_rfl) (by kernel_rfl) (by kernel_rfl) (fun _ _ _ h => h) (Or.inl ⟨by rfl, ?_⟩) (by assumption) ?_
            rotate_left 1
            · intro w hSw
              try dsimp only at hSw
              go_simp
              all_goals with_reducible rfl
            try simp only [Act.put, List.setIfInBounds_toArray, List.set_cons_zero, List.set_cons_succ]
            refine wpAnyH_take (i := 26) (v := ?_) opn26 (by kernel_rfl) (by kernel_rfl) (by kernel_rfl) (fun _ _ _ h => h) (Or.inl ⟨by rfl, ?_⟩) (by assumption) ?_
            rotate_left 1
            · intro w hSw
              try dsimp only at hSw
              go_simp
              all_goals with_reducible rfl
            try simp only [Act.put, List.setIfInBounds_toArray, List.set_cons_zero, List.set_cons_succ]
            refine wpAnyH_take (i := 27) (v := ?_) opn27 (by kernel_rfl) (by kernel_rfl) (by kernel_rfl) (fun _ _ _ h => h) (Or.inl ⟨by rfl, ?_⟩) (by assumption) ?_
            rotate_left 1
            · intro w hSw
              try dsimp only at hSw
              go_simp
              all_goals with_reducible rfl
            try simp only [Act.put, List.setIfInBounds_toArray, List.set_cons_zero, List.set_cons_succ]
            refine wpAnyH_done (by kernel_rfl) ?_ _
            clear hHeld
            go_wp2
            go_ret
            exact ⟨rfl, (unhide HB4).trans ((unhide HBF).mono (unhide HB4).size)⟩
      · obtain ⟨hc1, hc2⟩ := (unhide HER) herr
        subst hc1 hc2
        have herb : (rerr == 0) = false := by simpa using herr
        have e34 := fun W => eql34 0 0 ⟨#[]⟩ ⟨#[]⟩ W
        simp only [beq_self_eq_true, Bool.and_self] at e34
        go_wp2
        go_ret
        exact ⟨rfl, ((unhide HB4).trans ((unhide HB7).mono (unhide HB4).size)).alloc (by have := (unhide HB4).size; omega) _⟩

end Go.Proofs.Ytemimppknlfghaa

/- What comes in: a step by value, a row of steps: opened. -/
namespace Go.Proofs.Ytemimppknlfghaa
open Go.ChangeShapes Go.WideShapes Go.ChangeAt Go.RowKit Go.Deep Go.Joins
set_option linter.unusedSimpArgs false
set_option linter.unusedVariables false

section
variable {H : Type} {enc : TypeId × Value → H} {w : World} {base : Nat} {spare : Nat → Bool} {held : Bool}
theorem trod_struct5 {P : Program} {t : TypeId} {f0 f1 f2 f3 f4 : Field} {fuel : Nat} {cs : List Value} {x : DataW H × List MemPlace} (ht : P.underlying t = some (.struct #[f0, f1, f2, f3, f4])) (h : DataW.trod enc P w base spare held fuel t cs = some x) :
    ∃ y0 y1 y2 y3 y4 n, cs.length = P.cellsOf t ∧ DataW.trod enc P w base spare held n f0.type ((cs.drop f0.offset).take (P.cellsOf f0.type)) = some y0 ∧
      DataW.trod enc P w base spare held n f1.type ((cs.drop f1.offset).take (P.cellsOf f1.type)) = some y1 ∧ DataW.trod enc P w base spare held n f2.type ((cs.drop f2.offset).take (P.cellsOf f2.type)) = some y2 ∧
      DataW.trod enc P w base spare held n f3.type ((cs.drop f3.offset).take (P.cellsOf f3.type)) = some y3 ∧ DataW.trod enc P w base spare held n f4.type ((cs.drop f4.offset).take (P.cellsOf f4.type)) = some y4 := by
  obtain ⟨xs, n, _, rfl, hl, hlen, hf⟩ := DataW.trod_struct ht h
  match xs, hlen with
  | [y0, y1, y2, y3, y4], _ => exact ⟨y0, y1, y2, y3, y4, n, hl, by simpa using hf 0 f0 rfl, by simpa using hf 1 f1 rfl, by simpa using hf 2 f2 rfl, by simpa using hf 3 f3 rfl, by simpa using hf 4 f4 rfl⟩

theorem cells81 : Try.prog.cellsOf 81 = 8 := by kernel_rfl

set_option maxRecDepth 100000 in
/-- A step's eight cells. -/
theorem open_step {fuel : Nat} {cs : List Value} {x : DataW H × List MemPlace} (h : DataW.trod enc Try.prog w base spare held fuel 81 cs = some x) : ∃ s : AStep, cs = xcells s ∧ Sized s := by
  obtain ⟨y0, y1, y2, y3, y4, n, hl, h0, h1, h2, h3, h4⟩ := trod_struct5 Try.underlying81 h
  rw [cells81] at hl
  obtain ⟨c0, c1, c2, c3, c4, c5, c6, c7, rfl⟩ := list8 hl
  simp only [cells3, cells9, cells32, List.drop, List.take] at h0 h1 h2 h3 h4
  obtain ⟨k0, e0, _, _⟩ := DataW.trod_int Try.underlying3 h0
  obtain ⟨k1, e1, _, _⟩ := DataW.trod_int Try.underlying3 h1
  obtain ⟨k2, e2, _, _⟩ := DataW.trod_int Try.underlying3 h2
  obtain ⟨k3, e3, _, _⟩ := DataW.trod_int Try.underlying3 h3
  obtain ⟨c, e4, _, s1, s2, s3⟩ := open_call h4
  simp at e0 e1 e2 e3 e4
  obtain ⟨rfl, rfl, rfl, rfl⟩ := e4
  subst e0 e1 e2 e3
  exact ⟨⟨k0, k1, k2, k3, c⟩, rfl, s1, s2, s3⟩
end

/-- A row of steps. -/
theorem open_steps {H : Type} {enc : TypeId × Value → H} {w : World} {base : Nat} {held : Bool} {fuel : Nat} {a0 : Option Addr} {len cap : Nat} {x : DataW H × List MemPlace}
    (h : DataW.trod enc Try.prog w base (fun _ => true) held fuel 65 [.slice a0 len cap] = some x) : ∃ xs : List AStep, StepsAt w a0 len xs := by
  rcases open_slice Try.underlying65 h with ⟨hcs, _⟩ | ⟨a, len', cap', m, n, D, Pl, hcs, _, hl, hm, hmm, _, hx⟩
  · simp at hcs
    obtain ⟨rfl, rfl, rfl⟩ := hcs
    exact ⟨[], rfl, Nat.zero_le _, by simp, fun h => absurd h (Nat.lt_irrefl _)⟩
  · simp at hcs
    obtain ⟨rfl, rfl, rfl⟩ := hcs
    simp only [if_true] at hmm
    subst hmm
    rw [cells81] at hx
    obtain ⟨f, hf⟩ : ∃ f : Nat → AStep, ∀ i, i < len → w.cells? base (a.add (i * 8)) 8 = some (xcells (f i)) ∧ Sized (f i) := by
      classical
      have hc : ∀ i, i < len → ∃ r : AStep, w.cells? base (a.add (i * 8)) 8 = some (xcells r) ∧ Sized r := fun i hi => by
        obtain ⟨cs', h1, h2⟩ := hx i (by omega)
        obtain ⟨r, rfl, w1⟩ := open_step h2
        exact ⟨r, h1, w1⟩
      refine ⟨fun i => if hi : i < len then Classical.choose (hc i hi) else ⟨0, 0, 0, 0, ⟨0, ⟨#[]⟩, ⟨#[]⟩, ⟨#[]⟩⟩⟩, fun i hi => ?_⟩
      simp only [dif_pos hi]
      exact Classical.choose_spec (hc i hi)
    refine ⟨(List.range len).map f, by simp, by omega, fun r hr => ?_, fun h0 => ?_⟩
    · simp at hr
      obtain ⟨i, hi, rfl⟩ := hr
      exact (hf i hi).2
    · have hs : ∀ i, i < len → ∀ j, j < 8 → w.cell? ((a.add (i * 8)).add j) = (xcells (f i))[j]? := fun i hi j hj => by
        obtain ⟨_, hlen, hcell⟩ := World.cells?_some (hf i hi).1
        exact hcell j hj
      have e0 := hs 0 h0 0 (by omega)
      have ea : a = ⟨a.block, a.off, none⟩ := by
        have : (a.add (0 * 8)).add 0 = a := by simp [Addr.add]
        rw [this] at e0
        exact spot_none e0
      refine ⟨a.block, a.off, by rw [← ea], fun j r hj => ?_⟩
      have hj' : j < len := by have := (List.getElem?_eq_some_iff.1 hj).1; simpa using this
      have hr : r = f j := by
        rw [List.getElem?_map, List.getElem?_range hj'] at hj
        simpa using hj.symm
      subst hr
      have hq : ∀ i, i < 8 → w.cell? ⟨a.block, a.off + j * 8 + i, none⟩ = (xcells (f j))[i]? := fun i hi => by
        have := hs j hj' i hi
        rw [ea, addr_add, addr_add] at this
        exact this
      exact ⟨hq 0 (by omega), hq 1 (by omega), hq 2 (by omega), hq 3 (by omega), hq 4 (by omega), hq 5 (by omega), hq 6 (by omega), hq 7 (by omega)⟩

set_option maxRecDepth 100000 in
/-- A step by value. -/
theorem open_stepv {H : Type} {enc : TypeId × Value → H} {w : World} {base base' : Nat} {held : Bool} {spare : Nat → Bool} {v : Value} {d : DataW H} {p : List MemPlace} (hv : Value.okWide Try.prog w .any base' 81 v) (h : ∃ fuel, DataW.trod enc Try.prog w base spare held fuel 81 v.cells.toList = some (d, p)) :
    ∃ x : AStep, v = x.val ∧ x.call.name.size ≤ maxLen ∧ x.call.dst.size ≤ maxLen ∧ x.call.text.size ≤ maxLen := by
  obtain ⟨cells, rfl, hsz⟩ := okWide_struct Try.underlying81 hv
  obtain ⟨fuel, hf⟩ := h
  obtain ⟨r, hcs, hs⟩ := open_step hf
  refine ⟨r, ?_, hs⟩
  have : cells.toList = xcells r := hcs
  unfold AStep.val
  congr 1
  apply Array.ext'
  simpa [xcells] using this

end Go.Proofs.Ytemimppknlfghaa

