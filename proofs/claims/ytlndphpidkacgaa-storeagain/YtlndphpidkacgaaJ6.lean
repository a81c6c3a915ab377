/- Texts joined: Open Cm OpenB Sx Rg0 Sz Sy0 Sy1 Sy2 OpenS. -/
import Derived.Test.YtlndphpidkacgaaWm
import Derived.ProofKit
import Derived.OpenShut
import Derived.ShutString
import Derived.ChangeOld
import Derived.Deep.Slices
import Derived.Lib.SmallJoins
import Derived.Test.YtlndphpidkacgaaCk
import Derived.Test.YtlndphpidkacgaaCo
import Derived.Test.YtlndphpidkacgaaJ5
import Derived.WalkKit
import Derived.Deep.RegionHeld
import Derived.Test.YtlndphpidkacgaaJ1
import Derived.Lib.BufferRead
/- What comes in: a slice of calls, a call by value: opened. -/
namespace Go.Proofs.Ytlndphpidkacgaa
open Go.ChangeShapes Go.WideShapes Go.ChangeAt Go.RowKit Go.Deep Go.Joins
set_option linter.unusedSimpArgs false
set_option linter.unusedVariables false

theorem own0 : ownKnob Try.prog.godebug = none := by kernel_rfl
theorem laidOut0 : laidOutB Try.prog = true := by kernel_rfl
theorem cells32 : Try.prog.cellsOf 32 = 4 := by kernel_rfl
theorem cells3 : Try.prog.cellsOf 3 = 1 := by kernel_rfl
theorem cells9 : Try.prog.cellsOf 9 = 1 := by kernel_rfl

section
variable {H : Type} {enc : TypeId × Value → H} {w : World} {base : Nat} {spare : Nat → Bool} {held : Bool}

/-- A call's four cells. -/
theorem open_call {fuel : Nat} {cs : List Value} {x : DataW H × List MemPlace} (h : DataW.trod enc Try.prog w base spare held fuel 32 cs = some x) :
    ∃ c : ACall, cs = [.int .i64 c.kind, .string c.name, .string c.dst, .string c.text] ∧ (Lit.int .i64 c.kind).wf = true ∧ c.name.size ≤ maxLen ∧ c.dst.size ≤ maxLen ∧ c.text.size ≤ maxLen := by
  obtain ⟨y0, y1, y2, y3, n, hx, hl, h0, h1, h2, h3⟩ := trod_struct4 Try.underlying32 h
  rw [cells32] at hl
  obtain ⟨c0, c1, c2, c3, hcs⟩ := array4 (cs := cs.toArray) (by simpa using hl)
  have hcs : cs = [c0, c1, c2, c3] := by simpa using congrArg Array.toList hcs
  subst hcs
  simp only [cells3, cells9, List.drop, List.take] at h0 h1 h2 h3
  obtain ⟨k, e0, _, wk⟩ := DataW.trod_int Try.underlying3 h0
  obtain ⟨a, e1, _, wa⟩ := DataW.trod_string Try.underlying9 h1
  obtain ⟨b, e2, _, wb⟩ := DataW.trod_string Try.underlying9 h2
  obtain ⟨t, e3, _, wt⟩ := DataW.trod_string Try.underlying9 h3
  simp at e0 e1 e2 e3
  subst e0 e1 e2 e3
  exact ⟨⟨k, a, b, t⟩, rfl, wk, wa, wb, wt⟩
end

/-- A slice of calls. -/
theorem open_calls {H : Type} {enc : TypeId × Value → H} {w : World} {base : Nat} {held : Bool} {fuel : Nat} {a0 : Option Addr} {len cap : Nat} {x : DataW H × List MemPlace}
    (h : DataW.trod enc Try.prog w base (fun _ => true) held fuel 22 [.slice a0 len cap] = some x) : ∃ cs : List ACall, IsCalls w a0 len cs := by
  rcases open_slice Try.underlying22 h with ⟨hcs, _⟩ | ⟨a, len', cap', m, n, D, Pl, hcs, _, hl, hm, hmm, _, hx⟩
  · simp at hcs
    obtain ⟨rfl, rfl, rfl⟩ := hcs
    exact ⟨[], rfl, Nat.zero_le _, fun h => absurd h (Nat.lt_irrefl _)⟩
  · simp at hcs
    obtain ⟨rfl, rfl, rfl⟩ := hcs
    simp only [if_true] at hmm
    subst hmm
    rw [cells32] at hx
    have hc : ∀ i, i < len → ∃ c : ACall, (w.cells? base (a.add (i * 4)) 4 = some [.int .i64 c.kind, .string c.name, .string c.dst, .string c.text]) ∧ c.name.size ≤ maxLen ∧ c.dst.size ≤ maxLen ∧ c.text.size ≤ maxLen := fun i hi => by
      obtain ⟨cs', h1, h2⟩ := hx i (by omega)
      obtain ⟨c, rfl, _, w1, w2, w3⟩ := open_call h2
      exact ⟨c, h1, w1, w2, w3⟩
    obtain ⟨f, hf⟩ : ∃ f : Nat → ACall, ∀ i, i < len → (w.cells? base (a.add (i * 4)) 4 = some [.int .i64 (f i).kind, .string (f i).name, .string (f i).dst, .string (f i).text]) ∧ (f i).name.size ≤ maxLen ∧ (f i).dst.size ≤ maxLen ∧ (f i).text.size ≤ maxLen := by
      classical
      refine ⟨fun i => if hi : i < len then Classical.choose (hc i hi) else ⟨0, ⟨#[]⟩, ⟨#[]⟩, ⟨#[]⟩⟩, fun i hi => ?_⟩
      simp only [dif_pos hi]
      exact Classical.choose_spec (hc i hi)
    refine ⟨(List.range len).map f, by simp, by omega, fun h0 => ?_⟩
    have hs : ∀ i, i < len → ∀ j, j < 4 → w.cell? ((a.add (i * 4)).add j) = [Value.int .i64 (f i).kind, .string (f i).name, .string (f i).dst, .string (f i).text][j]? := fun i hi j hj => by
      obtain ⟨_, hlen, hcell⟩ := World.cells?_some (hf i hi).1
      exact hcell j hj
    obtain ⟨b, off, spot⟩ := a
    have e0 := hs 0 h0 0 (by omega)
    have hsp : spot = none := by
      cases spot with
      | none => rfl
      | some s =>
        exfalso
        have e1 : ((⟨b, off, some s⟩ : Addr).add (0 * 4)).add 0 = ⟨b, off, some s⟩ := by simp [Addr.add]
        rw [e1] at e0
        simp only [World.cell?] at e0
        split at e0 <;> simp at e0
    subst hsp
    have hadd : ∀ i j, ((⟨b, off, none⟩ : Addr).add (i * 4)).add j = ⟨b, off + i * 4 + j, none⟩ := fun i j => by
      unfold Addr.add
      by_cases h1 : i * 4 = 0 <;> by_cases h2 : j = 0 <;> simp [h1, h2]
    refine ⟨b, off, rfl, ?_, fun j c hj => ?_⟩
    · rw [hadd] at e0
      exact World.block_lt_of_cell? w _ e0
    · have hj' : j < len := by have := (List.getElem?_eq_some_iff.1 hj).1; simpa using this
      have hcj : c = f j := by
        rw [List.getElem?_map, List.getElem?_range hj'] at hj
        simpa using hj.symm
      subst hcj
      have q0 := hs j hj' 0 (by omega)
      have q1 := hs j hj' 1 (by omega)
      have q2 := hs j hj' 2 (by omega)
      have q3 := hs j hj' 3 (by omega)
      rw [hadd] at q0 q1 q2 q3
      exact ⟨⟨q0, q1, q2, q3⟩, (hf j hj').2⟩

end Go.Proofs.Ytlndphpidkacgaa

/- What comes in: a record by value, bytes: opened. -/
namespace Go.Proofs.Ytlndphpidkacgaa
open Go.ChangeShapes Go.WideShapes Go.ChangeAt Go.RowKit Go.Deep Go.Joins
set_option linter.unusedSimpArgs false
set_option linter.unusedVariables false

theorem cells47 : Try.prog.cellsOf 47 = 8 := by kernel_rfl
theorem cells34 : Try.prog.cellsOf 34 = 2 := by kernel_rfl
theorem cells5 : Try.prog.cellsOf 5 = 1 := by kernel_rfl

theorem list8 {α : Type} {l : List α} (h : l.length = 8) : ∃ c0 c1 c2 c3 c4 c5 c6 c7, l = [c0, c1, c2, c3, c4, c5, c6, c7] := by
  obtain ⟨c0, l, rfl⟩ := List.exists_cons_of_length_pos (l := l) (by omega)
  obtain ⟨c1, l, rfl⟩ := List.exists_cons_of_length_pos (l := l) (by simp at h; omega)
  obtain ⟨c2, l, rfl⟩ := List.exists_cons_of_length_pos (l := l) (by simp at h; omega)
  obtain ⟨c3, l, rfl⟩ := List.exists_cons_of_length_pos (l := l) (by simp at h; omega)
  obtain ⟨c4, l, rfl⟩ := List.exists_cons_of_length_pos (l := l) (by simp at h; omega)
  obtain ⟨c5, l, rfl⟩ := List.exists_cons_of_length_pos (l := l) (by simp at h; omega)
  obtain ⟨c6, l, rfl⟩ := List.exists_cons_of_length_pos (l := l) (by simp at h; omega)
  obtain ⟨c7, l, rfl⟩ := List.exists_cons_of_length_pos (l := l) (by simp at h; omega)
  have : l = [] := by simpa using h
  subst this
  exact ⟨_, _, _, _, _, _, _, _, rfl⟩

section
variable {H : Type} {enc : TypeId × Value → H} {w : World} {base : Nat} {spare : Nat → Bool} {held : Bool}

set_option maxRecDepth 100000 in
/-- A record's eight cells. -/
theorem open_rec {fuel : Nat} {cs : List Value} {x : DataW H × List MemPlace} (h : DataW.trod enc Try.prog w base spare held fuel 47 cs = some x) :
    ∃ r : ARec, cs = rcells r ∧ r.call.name.size ≤ maxLen ∧ r.call.dst.size ≤ maxLen ∧ r.call.text.size ≤ maxLen ∧ r.ans.size ≤ maxLen := by
  obtain ⟨y0, y1, y2, y3, n, hx, hl, h0, h1, h2, h3⟩ := trod_struct4 Try.underlying47 h
  rw [cells47] at hl
  obtain ⟨c0, c1, c2, c3, c4, c5, c6, c7, rfl⟩ := list8 hl
  simp only [cells3, cells9, cells32, cells34, List.drop, List.take] at h0 h1 h2 h3
  obtain ⟨k, e0, _, _⟩ := DataW.trod_int Try.underlying3 h0
  obtain ⟨k1, e1, _, _⟩ := DataW.trod_int Try.underlying3 h1
  obtain ⟨c, e2, _, s1, s2, s3⟩ := open_call h2
  obtain ⟨z0, z1, n', hx', hl', g0, g1⟩ := trod_struct2 Try.underlying34 h3
  simp only [cells3, cells9, List.drop, List.take] at g0 g1
  obtain ⟨d, e3, _, _⟩ := DataW.trod_int Try.underlying3 g0
  obtain ⟨u, e4, _, wu⟩ := DataW.trod_string Try.underlying9 g1
  simp at e0 e1 e2 e3 e4
  obtain ⟨rfl, rfl, rfl, rfl⟩ := e2
  subst e0 e1 e3 e4
  exact ⟨⟨k, k1, c, d, u⟩, rfl, s1, s2, s3, wu⟩
end

end Go.Proofs.Ytlndphpidkacgaa

/- What comes in: bytes, a row of records: opened. -/
namespace Go.Proofs.Ytlndphpidkacgaa
open Go.ChangeShapes Go.WideShapes Go.ChangeAt Go.RowKit Go.Deep Go.Joins
set_option linter.unusedSimpArgs false
set_option linter.unusedVariables false

theorem u8_wf {k : Int} (h : (Lit.int .u8 k).wf = true) : ((UInt8.ofNat k.toNat).toNat : Int) = k := by
  simp [Lit.wf, IntKind.min, IntKind.max, IntKind.signed, IntKind.bits] at h
  exact ofInt_u8 (by omega) (by omega)

theorem spot_none {w : World} {a : Addr} {v : Value} (h : w.cell? a = some v) : a = ⟨a.block, a.off, none⟩ := by
  obtain ⟨b, off, spot⟩ := a
  cases spot with
  | none => rfl
  | some s =>
    exfalso
    simp only [World.cell?] at h
    split at h <;> simp at h

/-- Bytes. -/
theorem open_bytes {H : Type} {enc : TypeId × Value → H} {w : World} {base : Nat} {held : Bool} {fuel : Nat} {a0 : Option Addr} {len cap : Nat} {x : DataW H × List MemPlace}
    (h : DataW.trod enc Try.prog w base (fun _ => true) held fuel 48 [.slice a0 len cap] = some x) : ∃ bs : List UInt8, ByAt w a0 bs ∧ bs.length = len ∧ len ≤ cap ∧ len ≤ maxLen ∧ (a0 = none → len = 0 ∧ cap = 0) := by
  rcases open_slice1 Try.underlying48 cells5 h with ⟨hcs, _⟩ | ⟨a, len', cap', m, n, V, D, Pl, hcs, _, hl, hm, hmm, _, hx⟩
  · simp at hcs
    obtain ⟨rfl, rfl, rfl⟩ := hcs
    exact ⟨[], fun h => absurd rfl h, rfl, Nat.le_refl _, Nat.zero_le _, fun _ => ⟨rfl, rfl⟩⟩
  · simp at hcs
    obtain ⟨rfl, rfl, rfl⟩ := hcs
    simp only [if_true] at hmm
    subst hmm
    obtain ⟨f, hf⟩ : ∃ f : Nat → UInt8, ∀ i, i < len → w.cell? (a.add i) = some (.int .u8 ((f i).toNat : Int)) := by
      classical
      have hc : ∀ i, i < len → ∃ b : UInt8, w.cell? (a.add i) = some (.int .u8 (b.toNat : Int)) := fun i hi => by
        obtain ⟨h1, h2⟩ := hx i (by omega)
        obtain ⟨k, e, _, hw⟩ := DataW.trod_int Try.underlying5 h2
        simp at e
        rw [e] at h1
        exact ⟨UInt8.ofNat k.toNat, by rw [u8_wf hw]; exact h1⟩
      refine ⟨fun i => if hi : i < len then Classical.choose (hc i hi) else 0, fun i hi => ?_⟩
      simp only [dif_pos hi]
      exact Classical.choose_spec (hc i hi)
    refine ⟨(List.range len).map f, fun h0 => ?_, by simp, hl, by omega, fun h => by cases h⟩
    have h0 : 0 < len := by
      rcases Nat.eq_zero_or_pos len with h1 | h1
      · rw [h1] at h0; simp at h0
      · exact h1
    have e0 := hf 0 h0
    have ea : a = ⟨a.block, a.off, none⟩ := by
      have : a.add 0 = a := by simp [Addr.add]
      rw [this] at e0
      exact spot_none e0
    refine ⟨a.block, a.off, by rw [← ea], fun j y hj => ?_⟩
    have hj' : j < len := by have := (List.getElem?_eq_some_iff.1 hj).1; simpa using this
    have hy : y = f j := by
      rw [List.getElem?_map, List.getElem?_range hj'] at hj
      simpa using hj.symm
    subst hy
    have := hf j hj'
    rw [ea, addr_add] at this
    exact this

/-- A row of records. -/
theorem open_recs {H : Type} {enc : TypeId × Value → H} {w : World} {base : Nat} {held : Bool} {fuel : Nat} {a0 : Option Addr} {len cap : Nat} {x : DataW H × List MemPlace}
    (h : DataW.trod enc Try.prog w base (fun _ => true) held fuel 56 [.slice a0 len cap] = some x) : ∃ rs : List ARec, RecsAt w a0 len rs ∧ len ≤ cap ∧ len ≤ maxLen ∧ (a0 = none → len = 0 ∧ cap = 0) ∧ ∀ r, r ∈ rs → r.call.name.size ≤ maxLen ∧ r.call.dst.size ≤ maxLen ∧ r.call.text.size ≤ maxLen ∧ r.ans.size ≤ maxLen := by
  rcases open_slice Try.underlying56 h with ⟨hcs, _⟩ | ⟨a, len', cap', m, n, D, Pl, hcs, _, hl, hm, hmm, _, hx⟩
  · simp at hcs
    obtain ⟨rfl, rfl, rfl⟩ := hcs
    exact ⟨[], ⟨rfl, fun h => absurd h (Nat.lt_irrefl _)⟩, Nat.le_refl _, Nat.zero_le _, fun _ => ⟨rfl, rfl⟩, by simp⟩
  · simp at hcs
    obtain ⟨rfl, rfl, rfl⟩ := hcs
    simp only [if_true] at hmm
    subst hmm
    rw [cells47] at hx
    obtain ⟨f, hf⟩ : ∃ f : Nat → ARec, ∀ i, i < len → w.cells? base (a.add (i * 8)) 8 = some (rcells (f i)) ∧ (f i).call.name.size ≤ maxLen ∧ (f i).call.dst.size ≤ maxLen ∧ (f i).call.text.size ≤ maxLen ∧ (f i).ans.size ≤ maxLen := by
      classical
      have hc : ∀ i, i < len → ∃ r : ARec, w.cells? base (a.add (i * 8)) 8 = some (rcells r) ∧ r.call.name.size ≤ maxLen ∧ r.call.dst.size ≤ maxLen ∧ r.call.text.size ≤ maxLen ∧ r.ans.size ≤ maxLen := fun i hi => by
        obtain ⟨cs', h1, h2⟩ := hx i (by omega)
        obtain ⟨r, rfl, w1⟩ := open_rec h2
        exact ⟨r, h1, w1⟩
      refine ⟨fun i => if hi : i < len then Classical.choose (hc i hi) else zeroRec, fun i hi => ?_⟩
      simp only [dif_pos hi]
      exact Classical.choose_spec (hc i hi)
    refine ⟨(List.range len).map f, ⟨by simp, fun h0 => ?_⟩, hl, by omega, fun h => (by cases h), fun r hr => ?_⟩
    · have hs : ∀ i, i < len → ∀ j, j < 8 → w.cell? ((a.add (i * 8)).add j) = (rcells (f i))[j]? := fun i hi j hj => by
        obtain ⟨_, hlen, hcell⟩ := World.cells?_some (hf i hi).1
        exact hcell j hj
      have e0 := hs 0 h0 0 (by omega)
      have ea : a = ⟨a.block, a.off, none⟩ := by
        have : (a.add (0 * 8)).add 0 = a := by simp [Addr.add]
        rw [this] at e0
        exact spot_none e0
      refine ⟨a.block, a.off, by rw [← ea], fun j r hj => ?_⟩
      have hj' : j < len := by have := (List.getElem?_eq_some_iff.1 hj).1; simpa using this
      have hr : r = f j := by
        rw [List.getElem?_map, List.getElem?_range hj'] at hj
        simpa using hj.symm
      subst hr
      have hq : ∀ i, i < 8 → w.cell? ⟨a.block, a.off + j * 8 + i, none⟩ = (rcells (f j))[i]? := fun i hi => by
        have := hs j hj' i hi
        rw [ea, addr_add, addr_add] at this
        exact this
      exact ⟨hq 0 (by omega), hq 1 (by omega), hq 2 (by omega), hq 3 (by omega), hq 4 (by omega), hq 5 (by omega), hq 6 (by omega), hq 7 (by omega)⟩
    · simp at hr
      obtain ⟨i, hi, rfl⟩ := hr
      exact (hf i hi).2

set_option maxRecDepth 100000 in
/-- A record by value. -/
theorem open_recv {H : Type} {enc : TypeId × Value → H} {w : World} {base base' : Nat} {held : Bool} {spare : Nat → Bool} {v : Value} {d : DataW H} {p : List MemPlace} (hv : Value.okWide Try.prog w .any base' 47 v) (h : ∃ fuel, DataW.trod enc Try.prog w base spare held fuel 47 v.cells.toList = some (d, p)) :
    ∃ r : ARec, v = r.val ∧ r.call.name.size ≤ maxLen ∧ r.call.dst.size ≤ maxLen ∧ r.call.text.size ≤ maxLen ∧ r.ans.size ≤ maxLen := by
  obtain ⟨cells, rfl, hsz⟩ := okWide_struct Try.underlying47 hv
  obtain ⟨fuel, hf⟩ := h
  obtain ⟨r, hcs, hs⟩ := open_rec hf
  refine ⟨r, ?_, hs⟩
  have : cells.toList = rcells r := hcs
  unfold ARec.val
  congr 1
  apply Array.ext'
  simpa [rcells] using this

end Go.Proofs.Ytlndphpidkacgaa

/- Steps that come in; greatStore. -/
namespace Go.Proofs.Ytlndphpidkacgaa
open Go.ChangeShapes Go.WideShapes Go.ChangeAt Go.RowKit Go.Deep Go.Joins
set_option linter.unusedSimpArgs false
set_option linter.unusedVariables false

def xcells (x : AStep) : List Value := [.int .i64 x.act, .int .i64 x.client, .int .i64 x.no, .int .i64 x.keep, .int .i64 x.call.kind, .string x.call.name, .string x.call.dst, .string x.call.text]
/-- A step lies there. -/
structure StepAt (w : World) (b o : Nat) (x : AStep) : Prop where
  x0 : w.cell? ⟨b, o, none⟩ = some (.int .i64 x.act)
  x1 : w.cell? ⟨b, o + 1, none⟩ = some (.int .i64 x.client)
  x2 : w.cell? ⟨b, o + 2, none⟩ = some (.int .i64 x.no)
  x3 : w.cell? ⟨b, o + 3, none⟩ = some (.int .i64 x.keep)
  x4 : w.cell? ⟨b, o + 4, none⟩ = some (.int .i64 x.call.kind)
  x5 : w.cell? ⟨b, o + 5, none⟩ = some (.string x.call.name)
  x6 : w.cell? ⟨b, o + 6, none⟩ = some (.string x.call.dst)
  x7 : w.cell? ⟨b, o + 7, none⟩ = some (.string x.call.text)
theorem StepAt.lt {w : World} {b o : Nat} {x : AStep} (h : StepAt w b o x) : b < w.heap.size := World.block_lt_of_cell? w _ h.x0
theorem StepAt.same {w W : World} {b o : Nat} {x : AStep} (h : StepAt w b o x) (hb : W.heap[b]? = w.heap[b]?) : StepAt W b o x := by
  have hc : ∀ j, W.cell? ⟨b, j, none⟩ = w.cell? ⟨b, j, none⟩ := fun j => by simp only [World.cell?, hb]
  exact ⟨(hc _).trans h.x0, (hc _).trans h.x1, (hc _).trans h.x2, (hc _).trans h.x3, (hc _).trans h.x4, (hc _).trans h.x5, (hc _).trans h.x6, (hc _).trans h.x7⟩
def Sized (x : AStep) : Prop := x.call.name.size ≤ maxLen ∧ x.call.dst.size ≤ maxLen ∧ x.call.text.size ≤ maxLen
/-- Steps one behind the other lie there. -/
def StepsAt (w : World) (a : Option Addr) (n : Nat) (xs : List AStep) : Prop :=
  xs.length = n ∧ n ≤ maxLen ∧ (∀ x, x ∈ xs → Sized x) ∧ (0 < n → ∃ b off, a = some ⟨b, off, none⟩ ∧ ∀ (j : Nat) (x : AStep), xs[j]? = some x → StepAt w b (off + j * 8) x)
theorem StepsAt.below {w W : World} {a : Option Addr} {n : Nat} {xs : List AStep} (h : StepsAt w a n xs) (hb : Below w.heap.size w W) : StepsAt W a n xs := by
  refine ⟨h.1, h.2.1, h.2.2.1, fun h0 => ?_⟩
  obtain ⟨b, off, rfl, hc⟩ := h.2.2.2 h0
  exact ⟨b, off, rfl, fun j r hr => (hc j r hr).same (hb.block b (hc j r hr).lt)⟩

set_option maxRecDepth 100000 in
set_option maxHeartbeats 2000000 in
theorem greatStore_any (a0 : Option Addr) (len cap : Nat) (xs : List AStep) (w : World) (hl : StepsAt w a0 len xs) :
    Calls Try.prog 43 #[.slice a0 len cap] w fun e w' => RetB e ∧ Below w.heap.size w w' := by
  have hm := hl.2.1
  unfold maxLen at hm
  have HL := hide hl
  clear hl
  go_enter Try.func43, Try.ntmps43
  go_wp2
  go_loopw [3] (fun i wr => ∃ k : Nat, k ≤ 200 ∧ i = .int .i64 k ∧ Hid (Below w.heap.size w wr)) (fun i _ => 200 - (intOf i).toNat)
  case atStart => exact ⟨0, Nat.zero_le _, rfl, Below.refl _ _⟩
  case round =>
    obtain ⟨k, hk, rfl, HB⟩ := hrel
    by_cases h1 : (k : Int) < (len : Int)
    · by_cases h2 : (k : Int) < 200
      · obtain ⟨b, off, rfl, hc⟩ := ((unhide HL).below (unhide HB)).2.2.2 (by omega)
        obtain ⟨x, hx⟩ : ∃ x, xs[k]? = some x := ⟨_, List.getElem?_eq_getElem (by rw [(unhide HL).1]; omega)⟩
        obtain ⟨g0, g1, g2, g3, g4, g5, g6, g7⟩ := hc k x hx
        have hcon := greatCall_any x.call.kind x.call.name x.call.dst x.call.text wr
        obtain ⟨xa, xc, xn, xk, ⟨ck, ca, cb, ct⟩⟩ := x
        dsimp only at g0 g1 g2 g3 g4 g5 g6 g7 hcon
        clear hc hx
        go_wp2_with (go_at_call 29; refine hcon.mono ?_; rintro e w1 ⟨⟨r, rfl⟩, b1⟩)
        · go_ret
          exact ⟨RetB.mk _, (unhide HB).trans (b1.mono (unhide HB).size)⟩
        · go_roundw
          case rel => exact ⟨k + 1, by omega, by go_num, (unhide HB).trans (b1.mono (unhide HB).size)⟩
          case measure => simp [intOf]; omega
      · go_wp2
        go_ret
        exact ⟨RetB.mk _, unhide HB⟩
    · go_wp2
      go_ret
      exact ⟨RetB.mk _, unhide HB⟩

end Go.Proofs.Ytlndphpidkacgaa

/- The operation number i of a region that is written out. -/
namespace Go.Proofs.Ytlndphpidkacgaa
set_option linter.unusedVariables false

theorem opn0 { oi : Oper} {r : List Oper} : (List.toArray (oi :: r))[0]? = some oi := rfl
theorem opn1 {x0 oi : Oper} {r : List Oper} : (List.toArray (x0 :: oi :: r))[1]? = some oi := rfl
theorem opn2 {x0 x1 oi : Oper} {r : List Oper} : (List.toArray (x0 :: x1 :: oi :: r))[2]? = some oi := rfl
theorem opn3 {x0 x1 x2 oi : Oper} {r : List Oper} : (List.toArray (x0 :: x1 :: x2 :: oi :: r))[3]? = some oi := rfl
theorem opn4 {x0 x1 x2 x3 oi : Oper} {r : List Oper} : (List.toArray (x0 :: x1 :: x2 :: x3 :: oi :: r))[4]? = some oi := rfl
theorem opn5 {x0 x1 x2 x3 x4 oi : Oper} {r : List Oper} : (List.toArray (x0 :: x1 :: x2 :: x3 :: x4 :: oi :: r))[5]? = some oi := rfl
theorem opn6 {x0 x1 x2 x3 x4 x5 oi : Oper} {r : List Oper} : (List.toArray (x0 :: x1 :: x2 :: x3 :: x4 :: x5 :: oi :: r))[6]? = some oi := rfl
theorem opn7 {x0 x1 x2 x3 x4 x5 x6 oi : Oper} {r : List Oper} : (List.toArray (x0 :: x1 :: x2 :: x3 :: x4 :: x5 :: x6 :: oi :: r))[7]? = some oi := rfl
theorem opn8 {x0 x1 x2 x3 x4 x5 x6 x7 oi : Oper} {r : List Oper} : (List.toArray (x0 :: x1 :: x2 :: x3 :: x4 :: x5 :: x6 :: x7 :: oi :: r))[8]? = some oi := rfl
theorem opn9 {x0 x1 x2 x3 x4 x5 x6 x7 x8 oi : Oper} {r : List Oper} : (List.toArray (x0 :: x1 :: x2 :: x3 :: x4 :: x5 :: x6 :: x7 :: x8 :: oi :: r))[9]? = some oi := rfl
theorem opn10 {x0 x1 x2 x3 x4 x5 x6 x7 x8 x9 oi : Oper} {r : List Oper} : (List.toArray (x0 :: x1 :: x2 :: x3 :: x4 :: x5 :: x6 :: x7 :: x8 :: x9 :: oi :: r))[10]? = some oi := rfl
theorem opn11 {x0 x1 x2 x3 x4 x5 x6 x7 x8 x9 x10 oi : Oper} {r : List Oper} : (List.toArray (x0 :: x1 :: x2 :: x3 :: x4 :: x5 :: x6 :: x7 :: x8 :: x9 :: x10 :: oi :: r))[11]? = some oi := rfl
theorem opn12 {x0 x1 x2 x3 x4 x5 x6 x7 x8 x9 x10 x11 oi : Oper} {r : List Oper} : (List.toArray (x0 :: x1 :: x2 :: x3 :: x4 :: x5 :: x6 :: x7 :: x8 :: x9 :: x10 :: x11 :: oi :: r))[12]? = some oi := rfl
theorem opn13 {x0 x1 x2 x3 x4 x5 x6 x7 x8 x9 x10 x11 x12 oi : Oper} {r : List Oper} : (List.toArray (x0 :: x1 :: x2 :: x3 :: x4 :: x5 :: x6 :: x7 :: x8 :: x9 :: x10 :: x11 :: x12 :: oi :: r))[13]? = some oi := rfl
theorem opn14 {x0 x1 x2 x3 x4 x5 x6 x7 x8 x9 x10 x11 x12 x13 oi : Oper} {r : List Oper} : (List.toArray (x0 :: x1 :: x2 :: x3 :: x4 :: x5 :: x6 :: x7 :: x8 :: x9 :: x10 :: x11 :: x12 :: x13 :: oi :: r))[14]? = some oi := rfl
theorem opn15 {x0 x1 x2 x3 x4 x5 x6 x7 x8 x9 x10 x11 x12 x13 x14 oi : Oper} {r : List Oper} : (List.toArray (x0 :: x1 :: x2 :: x3 :: x4 :: x5 :: x6 :: x7 :: x8 :: x9 :: x10 :: x11 :: x12 :: x13 :: x14 :: oi :: r))[15]? = some oi := rfl
theorem opn16 {x0 x1 x2 x3 x4 x5 x6 x7 x8 x9 x10 x11 x12 x13 x14 x15 oi : Oper} {r : List Oper} : (List.toArray (x0 :: x1 :: x2 :: x3 :: x4 :: x5 :: x6 :: x7 :: x8 :: x9 :: x10 :: x11 :: x12 :: x13 :: x14 :: x15 :: oi :: r))[16]? = some oi := rfl
theorem opn17 {x0 x1 x2 x3 x4 x5 x6 x7 x8 x9 x10 x11 x12 x13 x14 x15 x16 oi : Oper} {r : List Oper} : (List.toArray (x0 :: x1 :: x2 :: x3 :: x4 :: x5 :: x6 :: x7 :: x8 :: x9 :: x10 :: x11 :: x12 :: x13 :: x14 :: x15 :: x16 :: oi :: r))[17]? = some oi := rfl
theorem opn18 {x0 x1 x2 x3 x4 x5 x6 x7 x8 x9 x10 x11 x12 x13 x14 x15 x16 x17 oi : Oper} {r : List Oper} : (List.toArray (x0 :: x1 :: x2 :: x3 :: x4 :: x5 :: x6 :: x7 :: x8 :: x9 :: x10 :: x11 :: x12 :: x13 :: x14 :: x15 :: x16 :: x17 :: oi :: r))[18]? = some oi := rfl
theorem opn19 {x0 x1 x2 x3 x4 x5 x6 x7 x8 x9 x10 x11 x12 x13 x14 x15 x16 x17 x18 oi : Oper} {r : List Oper} : (List.toArray (x0 :: x1 :: x2 :: x3 :: x4 :: x5 :: x6 :: x7 :: x8 :: x9 :: x10 :: x11 :: x12 :: x13 :: x14 :: x15 :: x16 :: x17 :: x18 :: oi :: r))[19]? = some oi := rfl
theorem opn20 {x0 x1 x2 x3 x4 x5 x6 x7 x8 x9 x10 x11 x12 x13 x14 x15 x16 x17 x18 x19 oi : Oper} {r : List Oper} : (List.toArray (x0 :: x1 :: x2 :: x3 :: x4 :: x5 :: x6 :: x7 :: x8 :: x9 :: x10 :: x11 :: x12 :: x13 :: x14 :: x15 :: x16 :: x17 :: x18 :: x19 :: oi :: r))[20]? = some oi := rfl
theorem opn21 {x0 x1 x2 x3 x4 x5 x6 x7 x8 x9 x10 x11 x12 x13 x14 x15 x16 x17 x18 x19 x20 oi : Oper} {r : List Oper} : (List.toArray (x0 :: x1 :: x2 :: x3 :: x4 :: x5 :: x6 :: x7 :: x8 :: x9 :: x10 :: x11 :: x12 :: x13 :: x14 :: x15 :: x16 :: x17 :: x18 :: x19 :: x20 :: oi :: r))[21]? = some oi := rfl
theorem opn22 {x0 x1 x2 x3 x4 x5 x6 x7 x8 x9 x10 x11 x12 x13 x14 x15 x16 x17 x18 x19 x20 x21 oi : Oper} {r : List Oper} : (List.toArray (x0 :: x1 :: x2 :: x3 :: x4 :: x5 :: x6 :: x7 :: x8 :: x9 :: x10 :: x11 :: x12 :: x13 :: x14 :: x15 :: x16 :: x17 :: x18 :: x19 :: x20 :: x21 :: oi :: r))[22]? = some oi := rfl
theorem opn23 {x0 x1 x2 x3 x4 x5 x6 x7 x8 x9 x10 x11 x12 x13 x14 x15 x16 x17 x18 x19 x20 x21 x22 oi : Oper} {r : List Oper} : (List.toArray (x0 :: x1 :: x2 :: x3 :: x4 :: x5 :: x6 :: x7 :: x8 :: x9 :: x10 :: x11 :: x12 :: x13 :: x14 :: x15 :: x16 :: x17 :: x18 :: x19 :: x20 :: x21 :: x22 :: oi :: r))[23]? = some oi := rfl
theorem opn24 {x0 x1 x2 x3 x4 x5 x6 x7 x8 x9 x10 x11 x12 x13 x14 x15 x16 x17 x18 x19 x20 x21 x22 x23 oi : Oper} {r : List Oper} : (List.toArray (x0 :: x1 :: x2 :: x3 :: x4 :: x5 :: x6 :: x7 :: x8 :: x9 :: x10 :: x11 :: x12 :: x13 :: x14 :: x15 :: x16 :: x17 :: x18 :: x19 :: x20 :: x21 :: x22 :: x23 :: oi :: r))[24]? = some oi := rfl
theorem opn25 {x0 x1 x2 x3 x4 x5 x6 x7 x8 x9 x10 x11 x12 x13 x14 x15 x16 x17 x18 x19 x20 x21 x22 x23 x24 oi : Oper} {r : List Oper} : (List.toArray (x0 :: x1 :: x2 :: x3 :: x4 :: x5 :: x6 :: x7 :: x8 :: x9 :: x10 :: x11 :: x12 :: x13 :: x14 :: x15 :: x16 :: x17 :: x18 :: x19 :: x20 :: x21 :: x22 :: x23 :: x24 :: oi :: r))[25]? = some oi := rfl
theorem opn26 {x0 x1 x2 x3 x4 x5 x6 x7 x8 x9 x10 x11 x12 x13 x14 x15 x16 x17 x18 x19 x20 x21 x22 x23 x24 x25 oi : Oper} {r : List Oper} : (List.toArray (x0 :: x1 :: x2 :: x3 :: x4 :: x5 :: x6 :: x7 :: x8 :: x9 :: x10 :: x11 :: x12 :: x13 :: x14 :: x15 :: x16 :: x17 :: x18 :: x19 :: x20 :: x21 :: x22 :: x23 :: x24 :: x25 :: oi :: r))[26]? = some oi := rfl
theorem opn27 {x0 x1 x2 x3 x4 x5 x6 x7 x8 x9 x10 x11 x12 x13 x14 x15 x16 x17 x18 x19 x20 x21 x22 x23 x24 x25 x26 oi : Oper} {r : List Oper} : (List.toArray (x0 :: x1 :: x2 :: x3 :: x4 :: x5 :: x6 :: x7 :: x8 :: x9 :: x10 :: x11 :: x12 :: x13 :: x14 :: x15 :: x16 :: x17 :: x18 :: x19 :: x20 :: x21 :: x22 :: x23 :: x24 :: x25 :: x26 :: oi :: r))[27]? = some oi := rfl
theorem opn28 {x0 x1 x2 x3 x4 x5 x6 x7 x8 x9 x10 x11 x12 x13 x14 x15 x16 x17 x18 x19 x20 x21 x22 x23 x24 x25 x26 x27 oi : Oper} {r : List Oper} : (List.toArray (x0 :: x1 :: x2 :: x3 :: x4 :: x5 :: x6 :: x7 :: x8 :: x9 :: x10 :: x11 :: x12 :: x13 :: x14 :: x15 :: x16 :: x17 :: x18 :: x19 :: x20 :: x21 :: x22 :: x23 :: x24 :: x25 :: x26 :: x27 :: oi :: r))[28]? = some oi := rfl
theorem opn29 {x0 x1 x2 x3 x4 x5 x6 x7 x8 x9 x10 x11 x12 x13 x14 x15 x16 x17 x18 x19 x20 x21 x22 x23 x24 x25 x26 x27 x28 oi : Oper} {r : List Oper} : (List.toArray (x0 :: x1 :: x2 :: x3 :: x4 :: x5 :: x6 :: x7 :: x8 :: x9 :: x10 :: x11 :: x12 :: x13 :: x14 :: x15 :: x16 :: x17 :: x18 :: x19 :: x20 :: x21 :: x22 :: x23 :: x24 :: x25 :: x26 :: x27 :: x28 :: oi :: r))[29]? = some oi := rfl
theorem opn30 {x0 x1 x2 x3 x4 x5 x6 x7 x8 x9 x10 x11 x12 x13 x14 x15 x16 x17 x18 x19 x20 x21 x22 x23 x24 x25 x26 x27 x28 x29 oi : Oper} {r : List Oper} : (List.toArray (x0 :: x1 :: x2 :: x3 :: x4 :: x5 :: x6 :: x7 :: x8 :: x9 :: x10 :: x11 :: x12 :: x13 :: x14 :: x15 :: x16 :: x17 :: x18 :: x19 :: x20 :: x21 :: x22 :: x23 :: x24 :: x25 :: x26 :: x27 :: x28 :: x29 :: oi :: r))[30]? = some oi := rfl
theorem opn31 {x0 x1 x2 x3 x4 x5 x6 x7 x8 x9 x10 x11 x12 x13 x14 x15 x16 x17 x18 x19 x20 x21 x22 x23 x24 x25 x26 x27 x28 x29 x30 oi : Oper} {r : List Oper} : (List.toArray (x0 :: x1 :: x2 :: x3 :: x4 :: x5 :: x6 :: x7 :: x8 :: x9 :: x10 :: x11 :: x12 :: x13 :: x14 :: x15 :: x16 :: x17 :: x18 :: x19 :: x20 :: x21 :: x22 :: x23 :: x24 :: x25 :: x26 :: x27 :: x28 :: x29 :: x30 :: oi :: r))[31]? = some oi := rfl
theorem opn32 {x0 x1 x2 x3 x4 x5 x6 x7 x8 x9 x10 x11 x12 x13 x14 x15 x16 x17 x18 x19 x20 x21 x22 x23 x24 x25 x26 x27 x28 x29 x30 x31 oi : Oper} {r : List Oper} : (List.toArray (x0 :: x1 :: x2 :: x3 :: x4 :: x5 :: x6 :: x7 :: x8 :: x9 :: x10 :: x11 :: x12 :: x13 :: x14 :: x15 :: x16 :: x17 :: x18 :: x19 :: x20 :: x21 :: x22 :: x23 :: x24 :: x25 :: x26 :: x27 :: x28 :: x29 :: x30 :: x31 :: oi :: r))[32]? = some oi := rfl
theorem opn33 {x0 x1 x2 x3 x4 x5 x6 x7 x8 x9 x10 x11 x12 x13 x14 x15 x16 x17 x18 x19 x20 x21 x22 x23 x24 x25 x26 x27 x28 x29 x30 x31 x32 oi : Oper} {r : List Oper} : (List.toArray (x0 :: x1 :: x2 :: x3 :: x4 :: x5 :: x6 :: x7 :: x8 :: x9 :: x10 :: x11 :: x12 :: x13 :: x14 :: x15 :: x16 :: x17 :: x18 :: x19 :: x20 :: x21 :: x22 :: x23 :: x24 :: x25 :: x26 :: x27 :: x28 :: x29 :: x30 :: x31 :: x32 :: oi :: r))[33]? = some oi := rfl
theorem opn34 {x0 x1 x2 x3 x4 x5 x6 x7 x8 x9 x10 x11 x12 x13 x14 x15 x16 x17 x18 x19 x20 x21 x22 x23 x24 x25 x26 x27 x28 x29 x30 x31 x32 x33 oi : Oper} {r : List Oper} : (List.toArray (x0 :: x1 :: x2 :: x3 :: x4 :: x5 :: x6 :: x7 :: x8 :: x9 :: x10 :: x11 :: x12 :: x13 :: x14 :: x15 :: x16 :: x17 :: x18 :: x19 :: x20 :: x21 :: x22 :: x23 :: x24 :: x25 :: x26 :: x27 :: x28 :: x29 :: x30 :: x31 :: x32 :: x33 :: oi :: r))[34]? = some oi := rfl
theorem opn35 {x0 x1 x2 x3 x4 x5 x6 x7 x8 x9 x10 x11 x12 x13 x14 x15 x16 x17 x18 x19 x20 x21 x22 x23 x24 x25 x26 x27 x28 x29 x30 x31 x32 x33 x34 oi : Oper} {r : List Oper} : (List.toArray (x0 :: x1 :: x2 :: x3 :: x4 :: x5 :: x6 :: x7 :: x8 :: x9 :: x10 :: x11 :: x12 :: x13 :: x14 :: x15 :: x16 :: x17 :: x18 :: x19 :: x20 :: x21 :: x22 :: x23 :: x24 :: x25 :: x26 :: x27 :: x28 :: x29 :: x30 :: x31 :: x32 :: x33 :: x34 :: oi :: r))[35]? = some oi := rfl

/-- What is held may be weakened. -/
theorem wpAnyH_weak {P : Program} {ops : Array Oper} {Q : Exit → Act → World → Prop} {md : Region.Mode} {S S' : World → Prop} (hS : ∀ w, S' w → S w) :
    ∀ (fuel : Nat) (listed : Array Bool) (a : Act) (w : World), wpAnyH P md ops Q S' fuel listed a w → wpAnyH P md ops Q S fuel listed a w
  | 0, _, _, _, h => h
  | fuel + 1, _, _, _, h => ⟨h.1, fun i hi => wpOp_mono (fun a' w' h' => ⟨hS _ h'.1, wpAnyH_weak hS fuel _ a' w' h'.2⟩) (h.2 i hi)⟩

end Go.Proofs.Ytlndphpidkacgaa

/- What StoreTears, StoreRefuses and StoreAgain say, on lists. -/
namespace Go.Proofs.Ytlndphpidkacgaa
open Go.RowKit
set_option linter.unusedSimpArgs false
set_option linter.unusedVariables false

theorem aTear_err (L : List ARec) (client no : Int) (c : ACall) (keep : Int) : (aTear L client no c keep).1 = (aCall L client no c).err := by
  unfold aTear
  dsimp only
  split <;> rfl
/-- A call that was answered is answered alike when it comes again, whether it stands in the log or not. -/
theorem aCall_twice {L : List ARec} (hL : Good L) {client no : Int} {c : ACall} (h0 : (aCall L client no c).err = 0) : aCall (aCall L client no c).log client no c = aCall L client no c := by
  by_cases hc : changesB c.kind = true
  · obtain ⟨h1, h2, h3⟩ := aCall_last hL h0 hc
    rw [aCall_again h1 h2 h3 hc, ← h0]
  · rcases aCall_log L client no c with h | ⟨_, h, _⟩
    · rw [h]
    · exact absurd h hc
theorem tears_again {L : List ARec} (hL : Good L) {client no keep : Int} {c : ACall} (h0 : (aCall L client no c).err = 0) : aCall (aTear L client no c keep).2 client no c = aCall L client no c := by
  rcases aTear_log L client no c keep with h | h
  · rw [h]
  · rw [h]; exact aCall_twice hL h0
theorem tears_err {L : List ARec} {client no keep : Int} {c : ACall} (h0 : (aCall L client no c).err ≠ 0) : (aTear L client no c keep).2 = L := by
  rcases aTear_log L client no c keep with h | h
  · exact h
  · rw [h]; exact (aCall_err h0).1
theorem tears_ask {L : List ARec} {client no keep : Int} {c : ACall} (h0 : changesB c.kind = false) : (aCall L client no c).log = L ∧ (aTear L client no c keep).2 = L := by
  have h1 : (aCall L client no c).log = L := by
    rcases aCall_log L client no c with h | ⟨_, h, _⟩
    · exact h
    · rw [h0] at h; cases h
  refine ⟨h1, ?_⟩
  rcases aTear_log L client no c keep with h | h
  · exact h
  · rw [h]; exact h1
/-- A log only grows; so do a client's last numbers. -/
theorem aCall_grows (L : List ARec) (client no : Int) (c : ACall) : (logB L).length ≤ (logB (aCall L client no c).log).length ∧ ∀ x, (lastR L x).no ≤ (lastR (aCall L client no c).log x).no := by
  unfold aCall
  split
  · exact ⟨Nat.le_refl _, fun _ => Int.le_refl _⟩
  split
  · exact ⟨Nat.le_refl _, fun _ => Int.le_refl _⟩
  split
  · exact ⟨Nat.le_refl _, fun _ => Int.le_refl _⟩
  split
  · rename_i h4
    split
    · exact ⟨Nat.le_refl _, fun _ => Int.le_refl _⟩
    · dsimp only
      refine ⟨by rw [logB_snoc, List.length_append]; omega, fun x => ?_⟩
      rw [lastR_snoc]
      split
      · rename_i h5
        dsimp only at h5
        subst h5
        dsimp only
        omega
      · exact Int.le_refl _
  split
  · exact ⟨Nat.le_refl _, fun _ => Int.le_refl _⟩
  · exact ⟨Nat.le_refl _, fun _ => Int.le_refl _⟩
theorem aTear_grows (L : List ARec) (client no keep : Int) (c : ACall) : (logB L).length ≤ (logB (aTear L client no c keep).2).length ∧ ∀ x, (lastR L x).no ≤ (lastR (aTear L client no c keep).2 x).no := by
  rcases aTear_log L client no c keep with h | h
  · rw [h]; exact ⟨Nat.le_refl _, fun _ => Int.le_refl _⟩
  · rw [h]; exact aCall_grows L client no c
/-- A client's last call is answered as it stands there. -/
theorem last_again {L : List ARec} (hL : Good L) {client : Int} (h : ∃ r, r ∈ L ∧ r.client = client) : aCall L client (lastR L client).no (lastR L client).call = ⟨(lastR L client).code, (lastR L client).ans, 0, L⟩ := by
  obtain ⟨r, hr, hc⟩ := h
  rcases lastR_or L client with ⟨_, h1⟩ | ⟨h1, h2⟩
  · exact absurd hc (h1 r hr)
  · have ho := rec_ok (hL _ h1)
    have h3 : recI (lastR L client) = 0 := hL _ h1
    have hch : changesB (lastR L client).call.kind = true := by
      cases hx : changesB (lastR L client).call.kind
      · unfold recI at h3
        have h4 : ¬ ((lastR L client).client < 0 ∨ 2 < (lastR L client).client ∨ (lastR L client).no < 1 ∨ 200 < (lastR L client).no) := by
          have := ho.c0; have := ho.c1; have := ho.n0; have := ho.n1; omega
        rw [if_neg h4, if_pos hx] at h3
        cases h3
      · rfl
    refine aCall_again (d := (lastR L client).code) (u := (lastR L client).ans) ?_ ?_ ho.chk hch
    · generalize lastR L client = x at h2
      obtain ⟨a, b, c, d, e⟩ := x
      dsimp only at h2
      subst h2
      rfl
    · have := ho.c0; have := ho.c1; have := ho.n0; have := ho.n1; omega

end Go.Proofs.Ytlndphpidkacgaa

/- What the walks of the store's statements share. -/
namespace Go.Proofs.Ytlndphpidkacgaa
open Go.RowKit
set_option linter.unusedSimpArgs false
set_option linter.unusedVariables false

theorem Pair.start {N : Nat} {w : World} {S B : Nat} {own : List Nat} {lv : Value} (h : SRep N w S B own lv []) (hN : N ≤ w.heap.size) : Pair N (w.alloc (.cells #[.slice none 0 0] 78)) S B own lv [] w.heap.size (.slice none 0 0) [] :=
  ⟨h.below ((Below.refl _ _).alloc (Nat.le_refl _) _), ⟨hN, heap_alloc_new w _, World.ownsRow_nil _ _ _ _, by simp [Value.ownBlock]⟩, Good.nil, fun hm => by have := (sown_ge h _ hm).2; omega, by simp [Value.ownBlock], by simp [logB], by simp [logB]⟩

theorem conv_row {w : World} {N n c : Nat} {a : Option Addr} {bs : List UInt8} (h : BRow w N (.slice a n c) bs) (hn : bs.length = n) : (convert 48 9 (.slice a n c)).run Try.prog w = .ok (.string ⟨bs.toArray⟩) w := by
  obtain ⟨hby, hnil, _⟩ := h.by hn
  cases a with
  | none =>
    obtain ⟨rfl, rfl⟩ := hnil rfl
    rw [List.length_eq_zero_iff.1 hn]
    exact Lib.run_convert_nil_bytes w 48 9 5 0 Try.underlying48 Try.underlying5 Try.underlying9
  | some A =>
    have h' := h
    unfold BRow at h'
    rw [hn] at h'
    obtain ⟨g, rfl, _⟩ := row_some h'
    exact conv_at w ⟨g, 0, none⟩ bs c n hn.symm (fun j x hx => by rw [addr_add]; exact h.cells j x hx)

/-- Log, its length a letter. -/
theorem Log_T {N : Nat} {w : World} {S B : Nat} {own : List Nat} {lv : Value} {L : List ARec} (h : SRep N w S B own lv L) (hs : (logB L).length ≤ 2000) {T : Nat} (hT : (logB L).length = T) :
    Calls Try.prog 45 #[.pointer (some ⟨S, 0, none⟩)] w fun e w' => ∃ a c', e = .returned (.slice a T c') ∧ BRow w' w.heap.size (.slice a T c') (logB L) ∧ Below w.heap.size w w' := by
  have := Log_any h (by omega)
  rw [hT] at this
  exact this
/-- Names, their number a letter. -/
theorem Names_M {N : Nat} {w : World} {B : Nat} {own : List Nat} {L : List ARec} (h : OObj N w B own (behind L)) {M : Nat} (hM : (behind L).length = M) :
    Calls Try.prog 23 #[.pointer (some ⟨B, 0, none⟩)] w fun e w' => ∃ g cap, e = .returned (.slice (some ⟨g, 0, none⟩) M cap) ∧ w'.ownsRow w.heap.size 9 1 (.slice (some ⟨g, 0, none⟩) M cap) M ((sNames (behind L)).map .string) ∧ Below w.heap.size w w' := by
  have := Names_obj h
  rw [hM] at this
  exact this
theorem behind_few (L : List ARec) {M : Nat} (hM : (behind L).length = M) : M ≤ 1000 := by have := (behind_inv L).few; omega
/-- What stands behind a call of the store, torn or not. -/
structure Came (L L' : List ARec) (xc : Int) (ee : Int) (ch : Bool) : Prop where
  good : Good L'
  ss : (logB L').length ≤ 2000
  same : ee ≠ 0 ∨ ch = false → L' = L
  len : (logB L).length ≤ (logB L').length
  last : ∀ x, (lastR L x).no ≤ (lastR L' x).no
  range : ee = 0 → ch = true → 0 ≤ xc ∧ xc ≤ 2
theorem came_call {L : List ARec} (hL : Good L) (hs : (logB L).length ≤ 2000) (client no : Int) (c : ACall) : Came L (aCall L client no c).log client (aCall L client no c).err (changesB c.kind) := by
  refine ⟨aCall_good hL _ _ _, aCall_short hL hs _ _ _, fun h => ?_, (aCall_grows L client no c).1, (aCall_grows L client no c).2, fun h1 h2 => ?_⟩
  · rcases h with h | h
    · exact (aCall_err h).1
    · exact (tears_ask (keep := 0) h).1
  · obtain ⟨_, h3, _⟩ := aCall_last hL h1 h2
    omega
theorem came_tear {L : List ARec} (hL : Good L) (hs : (logB L).length ≤ 2000) (client no keep : Int) (c : ACall) : Came L (aTear L client no c keep).2 client (aTear L client no c keep).1 (changesB c.kind) := by
  refine ⟨aTear_good hL _ _ _ _, aTear_short hL hs _ _ _ _, fun h => ?_, (aTear_grows L client no keep c).1, (aTear_grows L client no keep c).2, fun h1 h2 => ?_⟩
  · rcases h with h | h
    · rw [aTear_err] at h
      exact tears_err h
    · exact (tears_ask h).2
  · rw [aTear_err] at h1
    obtain ⟨_, h3, _⟩ := aCall_last hL h1 h2
    omega
theorem below_dr (w : World) : Below w.heap.size w w.drew := ⟨rfl, rfl, rfl, Nat.le_refl _, fun _ _ => rfl⟩
theorem same_bytes {L L' : List ARec} (h : L' = L) : logB L' = logB L := by rw [h]

end Go.Proofs.Ytlndphpidkacgaa

/- TwoS stores side by side. -/
namespace Go.Proofs.Ytlndphpidkacgaa
open Go.RowKit
set_option linter.unusedSimpArgs false
set_option linter.unusedVariables false

theorem Pair.kept {N : Nat} {w w' : World} {S B : Nat} {own o : List Nat} {lv : Value} {Ls : List ARec} {K : Nat} {rv : Value} {Lr : List ARec} (h : Pair N w S B own lv Ls K rv Lr) (hk : Kept o w w') (hd : ∀ k, k ∈ pown S own lv K rv → k ∉ o) : Pair N w' S B own lv Ls K rv Lr := by
  refine ⟨h.s.kept hk (fun k h1 => hd k (List.mem_cons_of_mem _ (List.mem_append_right _ h1))), ⟨h.r.new, (hk.block K h.r.ltK (hd K List.mem_cons_self)).trans h.r.blk, ownsRow_same h.r.row (fun k h1 => hk.block k (h.r.row.lt k h1).2 (hd k (List.mem_cons_of_mem _ (List.mem_append_left _ (by simpa using h1))))), h.r.nd⟩, h.good, h.kS, h.rS, h.ss, h.sr⟩
/-- TwoS stores, each with a Chest; they share nothing. -/
structure Two2 (N1 N2 : Nat) (w : World) (S1 B1 : Nat) (own1 : List Nat) (lv1 : Value) (K1 : Nat) (rv1 : Value) (S2 B2 : Nat) (own2 : List Nat) (lv2 : Value) (K2 : Nat) (rv2 : Value) (L : List ARec) : Prop where
  p1 : Pair N1 w S1 B1 own1 lv1 L K1 rv1 L
  p2 : Pair N2 w S2 B2 own2 lv2 L K2 rv2 L
  dj : ∀ k, k ∈ pown S2 own2 lv2 K2 rv2 → k ∉ pown S1 own1 lv1 K1 rv1
/-- TwoS stores alone. -/
structure TwoS (N1 N2 : Nat) (w : World) (S1 B1 : Nat) (own1 : List Nat) (lv1 : Value) (L1 : List ARec) (S2 B2 : Nat) (own2 : List Nat) (lv2 : Value) (L2 : List ARec) : Prop where
  s1 : SRep N1 w S1 B1 own1 lv1 L1
  s2 : SRep N2 w S2 B2 own2 lv2 L2
  dj : ∀ k, k ∈ sown S2 own2 lv2 → k ∉ sown S1 own1 lv1
theorem Two2.two {N1 N2 : Nat} {w : World} {S1 B1 : Nat} {own1 : List Nat} {lv1 : Value} {K1 : Nat} {rv1 : Value} {S2 B2 : Nat} {own2 : List Nat} {lv2 : Value} {K2 : Nat} {rv2 : Value} {L : List ARec} (h : Two2 N1 N2 w S1 B1 own1 lv1 K1 rv1 S2 B2 own2 lv2 K2 rv2 L) : TwoS N1 N2 w S1 B1 own1 lv1 L S2 B2 own2 lv2 L :=
  ⟨h.p1.s, h.p2.s, fun k h1 h2 => h.dj k (List.mem_cons_of_mem _ (List.mem_append_right _ h1)) (List.mem_cons_of_mem _ (List.mem_append_right _ h2))⟩
theorem TwoS.below {N1 N2 : Nat} {w w' : World} {S1 B1 : Nat} {own1 : List Nat} {lv1 : Value} {L1 : List ARec} {S2 B2 : Nat} {own2 : List Nat} {lv2 : Value} {L2 : List ARec} (h : TwoS N1 N2 w S1 B1 own1 lv1 L1 S2 B2 own2 lv2 L2) (hb : Below w.heap.size w w') : TwoS N1 N2 w' S1 B1 own1 lv1 L1 S2 B2 own2 lv2 L2 := ⟨h.s1.below hb, h.s2.below hb, h.dj⟩
theorem TwoS.turn1 {N1 N2 : Nat} {w w' : World} {S1 B1 : Nat} {own1 : List Nat} {lv1 : Value} {L1 L1' : List ARec} {S2 B2 : Nat} {own2 : List Nat} {lv2 : Value} {L2 : List ARec} (h : TwoS N1 N2 w S1 B1 own1 lv1 L1 S2 B2 own2 lv2 L2) (hT : STurned N1 w S1 own1 lv1 w' L1') :
    ∃ B1' own1' lv1', TwoS N1 N2 w' S1 B1' own1' lv1' L1' S2 B2 own2 lv2 L2 ∧ Next N1 w w' (sown S1 own1 lv1) (sown S1 own1' lv1') := by
  obtain ⟨B', own', lv', hr, hn⟩ := hT
  exact ⟨B', own', lv', ⟨hr, h.s2.kept hn.kept h.dj, fun k h1 => (hn.keep k (sown_ge h.s2 k h1).2 (h.dj k h1)).1⟩, hn⟩
theorem TwoS.turn2 {N1 N2 : Nat} {w w' : World} {S1 B1 : Nat} {own1 : List Nat} {lv1 : Value} {L1 : List ARec} {S2 B2 : Nat} {own2 : List Nat} {lv2 : Value} {L2 L2' : List ARec} (h : TwoS N1 N2 w S1 B1 own1 lv1 L1 S2 B2 own2 lv2 L2) (hT : STurned N2 w S2 own2 lv2 w' L2') :
    ∃ B2' own2' lv2', TwoS N1 N2 w' S1 B1 own1 lv1 L1 S2 B2' own2' lv2' L2' ∧ Next N2 w w' (sown S2 own2 lv2) (sown S2 own2' lv2') := by
  obtain ⟨B', own', lv', hr, hn⟩ := hT
  have hd : ∀ k, k ∈ sown S1 own1 lv1 → k ∉ sown S2 own2 lv2 := fun k h1 h2 => h.dj k h2 h1
  exact ⟨B', own', lv', ⟨h.s1.kept hn.kept hd, hr, fun k h1 h2 => (hn.keep k (sown_ge h.s1 k h2).2 (hd k h2)).1 h1⟩, hn⟩

end Go.Proofs.Ytlndphpidkacgaa

/- What StoreDoes needs: bytes cut off, the names behind records, the last number. -/
namespace Go.Proofs.Ytlndphpidkacgaa
open Go.RowKit
set_option linter.unusedSimpArgs false
set_option linter.unusedVariables false

theorem conv_by {w : World} {a : Option Addr} {n c k : Nat} {bs : List UInt8} (hb : ByAt w a bs) (hn : bs.length = n) (hk : k ≤ n) (hnil : a = none → n = 0 ∧ c = 0) (hc0 : k = 0 → a = none → c = 0) : (convert 48 9 (.slice a k c)).run Try.prog w = .ok (.string ⟨(bs.take k).toArray⟩) w := by
  cases a with
  | none =>
    obtain ⟨h1, rfl⟩ := hnil rfl
    obtain rfl : k = 0 := by omega
    rw [List.take_zero]
    exact Lib.run_convert_nil_bytes w 48 9 5 0 Try.underlying48 Try.underlying5 Try.underlying9
  | some A =>
    refine conv_at w A (bs.take k) c k (by rw [List.length_take]; omega) (fun j x hx => ?_)
    rw [List.getElem?_take] at hx
    split at hx
    · have hne : bs ≠ [] := fun h => by rw [h] at hx; simp at hx
      obtain ⟨b, off, he, hc⟩ := hb hne
      cases he
      rw [addr_add]
      exact hc j x hx
    · cases hx

theorem conv_by2 {w : World} {a : Option Addr} {n c k : Nat} {bs : List UInt8} (hb : ByAt w a bs) (hn : bs.length = n) (hk : k ≤ n) (hnil : a = none → c = 0) : (convert 48 9 (.slice a k c)).run Try.prog w = .ok (.string ⟨(bs.take k).toArray⟩) w := by
  by_cases h0 : a = none
  · have hz : n = 0 := by
      by_cases h1 : bs = []
      · rw [← hn, h1]; rfl
      · obtain ⟨b, off, he, _⟩ := hb h1
        rw [h0] at he
        cases he
    exact conv_by hb hn hk (fun _ => ⟨hz, hnil h0⟩) (fun _ _ => hnil h0)
  · exact conv_by hb hn hk (fun h => absurd h h0) (fun _ h => absurd h h0)
theorem Log_T3 {N : Nat} {w : World} {S B : Nat} {own : List Nat} {lv : Value} {L : List ARec} (h : SRep N w S B own lv L) (hs : (logB L).length ≤ 3000) {T : Nat} (hT : (logB L).length = T) :
    Calls Try.prog 45 #[.pointer (some ⟨S, 0, none⟩)] w fun e w' => ∃ a c', e = .returned (.slice a T c') ∧ BRow w' w.heap.size (.slice a T c') (logB L) ∧ Below w.heap.size w w' := by
  have := Log_any h (by omega)
  rw [hT] at this
  exact this

/-- Behind's Names, their number a letter. -/
theorem dNames_M {w : World} {N D : Nat} {L : List ARec} {M : Nat} {a : Option Addr} {n cap : Nat} (h : DRep w N D (.slice a n cap) (behind L)) (hM : (behind L).length = M) :
    n = M ∧ Calls Try.prog 24 #[.slice a M cap] w fun e w' => ∃ a c, e = .returned (.slice a M c) ∧ w'.ownsRow w.heap.size 9 1 (.slice a M c) M ((sNames (behind L)).map .string) ∧ Below w.heap.size w w' := by
  have hn : n = M := by
    obtain ⟨a', c', he⟩ := row_form h.row
    cases he
    exact hM
  subst hn
  have := dNames_any a cap (behind L) w (behind_inv L).few (fun j f hf => h.names j f hf)
  rw [hM] at this
  exact ⟨rfl, this⟩
theorem DRep.form2 {w : World} {N D : Nat} {v : Value} {st : List AFile} (h : DRep w N D v st) : ∃ a cap, v = .slice a st.length cap := row_form h.row
theorem DRep.cell0 {w : World} {N D : Nat} {v : Value} {st : List AFile} (h : DRep w N D v st) : w.cell? ⟨D, 0, none⟩ = some v := by simp [World.cell?, h.blk]
theorem RecsAt.ofC {w : World} {N K : Nat} {a : Option Addr} {n c : Nat} {L : List ARec} (h : CRep w N K (.slice a n c) L) : RecsAt w a L.length L ∧ n = L.length := by
  obtain ⟨a', c', he⟩ := row_form h.row
  cases he
  exact ⟨recs_row h.row rfl, rfl⟩
/-- Bytes, their number a letter. -/
theorem Bytes_T {N K : Nat} {rv : Value} {L : List ARec} {w : World} (h : CRep w N K rv L) (hg : Good L) (hs : (logB L).length ≤ 2000) {T : Nat} (hT : (logB L).length = T) :
    Calls Try.prog 49 #[.pointer (some ⟨K, 0, none⟩)] w fun e w' => ∃ a c, e = .returned (.slice a T c) ∧ BRow w' w.heap.size (.slice a T c) (logB L) ∧ Below w.heap.size w w' := by
  have := Bytes_any N K rv L w h hg (by omega) (by have := hg.few; omega)
  rw [hT] at this
  exact this
/-- The number that both tell. -/
theorem last_no {L : List ARec} (hg : Good L) (c : Int) : (if c < 0 ∨ 2 < c then (0 : Int) else (lastR L c).no) = if hasR L c = true then (lastR L c).no else 0 := by
  rcases lastR_or L c with ⟨h1, h2⟩ | ⟨h1, h2⟩
  · have h3 : (lastR L c).no = 0 := by rw [h1]; rfl
    rw [h3]
    split <;> split <;> rfl
  · have h3 : hasR L c = true := List.any_eq_true.2 ⟨_, h1, by simp [h2]⟩
    have h4 := rec_ok (hg _ h1)
    have := h4.c0
    have := h4.c1
    rw [if_neg (by omega), if_pos h3]

end Go.Proofs.Ytlndphpidkacgaa

/- What comes in: a step by value, a row of steps: opened. -/
namespace Go.Proofs.Ytlndphpidkacgaa
open Go.ChangeShapes Go.WideShapes Go.ChangeAt Go.RowKit Go.Deep Go.Joins
set_option linter.unusedSimpArgs false
set_option linter.unusedVariables false

section
variable {H : Type} {enc : TypeId × Value → H} {w : World} {base : Nat} {spare : Nat → Bool} {held : Bool}
theorem trod_struct5 {P : Program} {t : TypeId} {f0 f1 f2 f3 f4 : Field} {fuel : Nat} {cs : List Value} {x : DataW H × List MemPlace} (ht : P.underlying t = some (.struct #[f0, f1, f2, f3, f4])) (h : DataW.trod enc P w base spare held fuel t cs = some x) :
    ∃ y0 y1 y2 y3 y4 n, cs.length = P.cellsOf t ∧ DataW.trod enc P w base spare held n f0.type ((cs.drop f0.offset).take (P.cellsOf f0.type)) = some y0 ∧
      DataW.trod enc P w base spare held n f1.type ((cs.drop f1.offset).take (P.cellsOf f1.type)) = some y1 ∧ DataW.trod enc P w base spare held n f2.type ((cs.drop f2.offset).take (P.cellsOf f2.type)) = some y2 ∧
      DataW.trod enc P w base spare held n f3.type ((cs.drop f3.offset).take (P.cellsOf f3.type)) = some y3 ∧ DataW.trod enc P w base spare held n f4.type ((cs.drop f4.offset).take (P.cellsOf f4.type)) = some y4 := by
  obtain ⟨xs, n, _, rfl, hl, hlen, hf⟩ := DataW.trod_struct ht h
  match xs, hlen with
  | [y0, y1, y2, y3, y4], _ => exact ⟨y0, y1, y2, y3, y4, n, hl, by simpa using hf 0 f0 rfl, by simpa using hf 1 f1 rfl, by simpa using hf 2 f2 rfl, by simpa using hf 3 f3 rfl, by simpa using hf 4 f4 rfl⟩

theorem cells81 : Try.prog.cellsOf 81 = 8 := by kernel_rfl

set_option maxRecDepth 100000 in
/-- A step's eight cells. -/
theorem open_step {fuel : Nat} {cs : List Value} {x : DataW H × List MemPlace} (h : DataW.trod enc Try.prog w base spare held fuel 81 cs = some x) : ∃ s : AStep, cs = xcells s ∧ Sized s := by
  obtain ⟨y0, y1, y2, y3, y4, n, hl, h0, h1, h2, h3, h4⟩ := trod_struct5 Try.underlying81 h
  rw [cells81] at hl
  obtain ⟨c0, c1, c2, c3, c4, c5, c6, c7, rfl⟩ := list8 hl
  simp only [cells3, cells9, cells32, List.drop, List.take] at h0 h1 h2 h3 h4
  obtain ⟨k0, e0, _, _⟩ := DataW.trod_int Try.underlying3 h0
  obtain ⟨k1, e1, _, _⟩ := DataW.trod_int Try.underlying3 h1
  obtain ⟨k2, e2, _, _⟩ := DataW.trod_int Try.underlying3 h2
  obtain ⟨k3, e3, _, _⟩ := DataW.trod_int Try.underlying3 h3
  obtain ⟨c, e4, _, s1, s2, s3⟩ := open_call h4
  simp at e0 e1 e2 e3 e4
  obtain ⟨rfl, rfl, rfl, rfl⟩ := e4
  subst e0 e1 e2 e3
  exact ⟨⟨k0, k1, k2, k3, c⟩, rfl, s1, s2, s3⟩
end

/-- A row of steps. -/
theorem open_steps {H : Type} {enc : TypeId × Value → H} {w : World} {base : Nat} {held : Bool} {fuel : Nat} {a0 : Option Addr} {len cap : Nat} {x : DataW H × List MemPlace}
    (h : DataW.trod enc Try.prog w base (fun _ => true) held fuel 65 [.slice a0 len cap] = some x) : ∃ xs : List AStep, StepsAt w a0 len xs := by
  rcases open_slice Try.underlying65 h with ⟨hcs, _⟩ | ⟨a, len', cap', m, n, D, Pl, hcs, _, hl, hm, hmm, _, hx⟩
  · simp at hcs
    obtain ⟨rfl, rfl, rfl⟩ := hcs
    exact ⟨[], rfl, Nat.zero_le _, by simp, fun h => absurd h (Nat.lt_irrefl _)⟩
  · simp at hcs
    obtain ⟨rfl, rfl, rfl⟩ := hcs
    simp only [if_true] at hmm
    subst hmm
    rw [cells81] at hx
    obtain ⟨f, hf⟩ : ∃ f : Nat → AStep, ∀ i, i < len → w.cells? base (a.add (i * 8)) 8 = some (xcells (f i)) ∧ Sized (f i) := by
      classical
      have hc : ∀ i, i < len → ∃ r : AStep, w.cells? base (a.add (i * 8)) 8 = some (xcells r) ∧ Sized r := fun i hi => by
        obtain ⟨cs', h1, h2⟩ := hx i (by omega)
        obtain ⟨r, rfl, w1⟩ := open_step h2
        exact ⟨r, h1, w1⟩
      refine ⟨fun i => if hi : i < len then Classical.choose (hc i hi) else ⟨0, 0, 0, 0, ⟨0, ⟨#[]⟩, ⟨#[]⟩, ⟨#[]⟩⟩⟩, fun i hi => ?_⟩
      simp only [dif_pos hi]
      exact Classical.choose_spec (hc i hi)
    refine ⟨(List.range len).map f, by simp, by omega, fun r hr => ?_, fun h0 => ?_⟩
    · simp at hr
      obtain ⟨i, hi, rfl⟩ := hr
      exact (hf i hi).2
    · have hs : ∀ i, i < len → ∀ j, j < 8 → w.cell? ((a.add (i * 8)).add j) = (xcells (f i))[j]? := fun i hi j hj => by
        obtain ⟨_, hlen, hcell⟩ := World.cells?_some (hf i hi).1
        exact hcell j hj
      have e0 := hs 0 h0 0 (by omega)
      have ea : a = ⟨a.block, a.off, none⟩ := by
        have : (a.add (0 * 8)).add 0 = a := by simp [Addr.add]
        rw [this] at e0
        exact spot_none e0
      refine ⟨a.block, a.off, by rw [← ea], fun j r hj => ?_⟩
      have hj' : j < len := by have := (List.getElem?_eq_some_iff.1 hj).1; simpa using this
      have hr : r = f j := by
        rw [List.getElem?_map, List.getElem?_range hj'] at hj
        simpa using hj.symm
      subst hr
      have hq : ∀ i, i < 8 → w.cell? ⟨a.block, a.off + j * 8 + i, none⟩ = (xcells (f j))[i]? := fun i hi => by
        have := hs j hj' i hi
        rw [ea, addr_add, addr_add] at this
        exact this
      exact ⟨hq 0 (by omega), hq 1 (by omega), hq 2 (by omega), hq 3 (by omega), hq 4 (by omega), hq 5 (by omega), hq 6 (by omega), hq 7 (by omega)⟩

set_option maxRecDepth 100000 in
/-- A step by value. -/
theorem open_stepv {H : Type} {enc : TypeId × Value → H} {w : World} {base base' : Nat} {held : Bool} {spare : Nat → Bool} {v : Value} {d : DataW H} {p : List MemPlace} (hv : Value.okWide Try.prog w .any base' 81 v) (h : ∃ fuel, DataW.trod enc Try.prog w base spare held fuel 81 v.cells.toList = some (d, p)) :
    ∃ x : AStep, v = x.val ∧ x.call.name.size ≤ maxLen ∧ x.call.dst.size ≤ maxLen ∧ x.call.text.size ≤ maxLen := by
  obtain ⟨cells, rfl, hsz⟩ := okWide_struct Try.underlying81 hv
  obtain ⟨fuel, hf⟩ := h
  obtain ⟨r, hcs, hs⟩ := open_step hf
  refine ⟨r, ?_, hs⟩
  have : cells.toList = xcells r := hcs
  unfold AStep.val
  congr 1
  apply Array.ext'
  simpa [xcells] using this

end Go.Proofs.Ytlndphpidkacgaa

