/- What comes in: a slice of calls, a call by value: opened. -/
import Derived.Test.YtemimppknlfghaaWm
import Derived.ProofKit
import Derived.OpenShut
import Derived.ShutString
import Derived.ChangeOld
import Derived.Deep.Slices
import Derived.Lib.SmallJoins
namespace Go.Proofs.Ytemimppknlfghaa
open Go.ChangeShapes Go.WideShapes Go.ChangeAt Go.RowKit Go.Deep Go.Joins
set_option linter.unusedSimpArgs false
set_option linter.unusedVariables false

theorem own0 : ownKnob Try.prog.godebug = none := by kernel_rfl
theorem laidOut0 : laidOutB Try.prog = true := by kernel_rfl
theorem cells32 : Try.prog.cellsOf 32 = 4 := by kernel_rfl
theorem cells3 : Try.prog.cellsOf 3 = 1 := by kernel_rfl
theorem cells9 : Try.prog.cellsOf 9 = 1 := by kernel_rfl

section
variable {H : Type} {enc : TypeId × Value → H} {w : World} {base : Nat} {spare : Nat → Bool} {held : Bool}

/-- A call's four cells. -/
theorem open_call {fuel : Nat} {cs : List Value} {x : DataW H × List MemPlace} (h : DataW.trod enc Try.prog w base spare held fuel 32 cs = some x) :
    ∃ c : ACall, cs = [.int .i64 c.kind, .string c.name, .string c.dst, .string c.text] ∧ (Lit.int .i64 c.kind).wf = true ∧ c.name.size ≤ maxLen ∧ c.dst.size ≤ maxLen ∧ c.text.size ≤ maxLen := by
  obtain ⟨y0, y1, y2, y3, n, hx, hl, h0, h1, h2, h3⟩ := trod_struct4 Try.underlying32 h
  rw [cells32] at hl
  obtain ⟨c0, c1, c2, c3, hcs⟩ := array4 (cs := cs.toArray) (by simpa using hl)
  have hcs : cs = [c0, c1, c2, c3] := by simpa using congrArg Array.toList hcs
  subst hcs
  simp only [cells3, cells9, List.drop, List.take] at h0 h1 h2 h3
  obtain ⟨k, e0, _, wk⟩ := DataW.trod_int Try.underlying3 h0
  obtain ⟨a, e1, _, wa⟩ := DataW.trod_string Try.underlying9 h1
  obtain ⟨b, e2, _, wb⟩ := DataW.trod_string Try.underlying9 h2
  obtain ⟨t, e3, _, wt⟩ := DataW.trod_string Try.underlying9 h3
  simp at e0 e1 e2 e3
  subst e0 e1 e2 e3
  exact ⟨⟨k, a, b, t⟩, rfl, wk, wa, wb, wt⟩
end

/-- A slice of calls. -/
theorem open_calls {H : Type} {enc : TypeId × Value → H} {w : World} {base : Nat} {held : Bool} {fuel : Nat} {a0 : Option Addr} {len cap : Nat} {x : DataW H × List MemPlace}
    (h : DataW.trod enc Try.prog w base (fun _ => true) held fuel 22 [.slice a0 len cap] = some x) : ∃ cs : List ACall, IsCalls w a0 len cs := by
  rcases open_slice Try.underlying22 h with ⟨hcs, _⟩ | ⟨a, len', cap', m, n, D, Pl, hcs, _, hl, hm, hmm, _, hx⟩
  · simp at hcs
    obtain ⟨rfl, rfl, rfl⟩ := hcs
    exact ⟨[], rfl, Nat.zero_le _, fun h => absurd h (Nat.lt_irrefl _)⟩
  · simp at hcs
    obtain ⟨rfl, rfl, rfl⟩ := hcs
    simp only [if_true] at hmm
    subst hmm
    rw [cells32] at hx
    have hc : ∀ i, i < len → ∃ c : ACall, (w.cells? base (a.add (i * 4)) 4 = some [.int .i64 c.kind, .string c.name, .string c.dst, .string c.text]) ∧ c.name.size ≤ maxLen ∧ c.dst.size ≤ maxLen ∧ c.text.size ≤ maxLen := fun i hi => by
      obtain ⟨cs', h1, h2⟩ := hx i (by omega)
      obtain ⟨c, rfl, _, w1, w2, w3⟩ := open_call h2
      exact ⟨c, h1, w1, w2, w3⟩
    obtain ⟨f, hf⟩ : ∃ f : Nat → ACall, ∀ i, i < len → (w.cells? base (a.add (i * 4)) 4 = some [.int .i64 (f i).kind, .string (f i).name, .string (f i).dst, .string (f i).text]) ∧ (f i).name.size ≤ maxLen ∧ (f i).dst.size ≤ maxLen ∧ (f i).text.size ≤ maxLen := by
      classical
      refine ⟨fun i => if hi : i < len then Classical.choose (hc i hi) else ⟨0, ⟨#[]⟩, ⟨#[]⟩, ⟨#[]⟩⟩, fun i hi => ?_⟩
      simp only [dif_pos hi]
      exact Classical.choose_spec (hc i hi)
    refine ⟨(List.range len).map f, by simp, by omega, fun h0 => ?_⟩
    have hs : ∀ i, i < len → ∀ j, j < 4 → w.cell? ((a.add (i * 4)).add j) = [Value.int .i64 (f i).kind, .string (f i).name, .string (f i).dst, .string (f i).text][j]? := fun i hi j hj => by
      obtain ⟨_, hlen, hcell⟩ := World.cells?_some (hf i hi).1
      exact hcell j hj
    obtain ⟨b, off, spot⟩ := a
    have e0 := hs 0 h0 0 (by omega)
    have hsp : spot = none := by
      cases spot with
      | none => rfl
      | some s =>
        exfalso
        have e1 : ((⟨b, off, some s⟩ : Addr).add (0 * 4)).add 0 = ⟨b, off, some s⟩ := by simp [Addr.add]
        rw [e1] at e0
        simp only [World.cell?] at e0
        split at e0 <;> simp at e0
    subst hsp
    have hadd : ∀ i j, ((⟨b, off, none⟩ : Addr).add (i * 4)).add j = ⟨b, off + i * 4 + j, none⟩ := fun i j => by
      unfold Addr.add
      by_cases h1 : i * 4 = 0 <;> by_cases h2 : j = 0 <;> simp [h1, h2]
    refine ⟨b, off, rfl, ?_, fun j c hj => ?_⟩
    · rw [hadd] at e0
      exact World.block_lt_of_cell? w _ e0
    · have hj' : j < len := by have := (List.getElem?_eq_some_iff.1 hj).1; simpa using this
      have hcj : c = f j := by
        rw [List.getElem?_map, List.getElem?_range hj'] at hj
        simpa using hj.symm
      subst hcj
      have q0 := hs j hj' 0 (by omega)
      have q1 := hs j hj' 1 (by omega)
      have q2 := hs j hj' 2 (by omega)
      have q3 := hs j hj' 3 (by omega)
      rw [hadd] at q0 q1 q2 q3
      exact ⟨⟨q0, q1, q2, q3⟩, (hf j hj').2⟩

end Go.Proofs.Ytemimppknlfghaa
