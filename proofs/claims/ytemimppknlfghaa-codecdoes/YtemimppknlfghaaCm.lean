/- What comes in: a record by value, bytes: opened. -/
import Derived.Test.YtemimppknlfghaaCk
import Derived.Test.YtemimppknlfghaaOpen
namespace Go.Proofs.Ytemimppknlfghaa
open Go.ChangeShapes Go.WideShapes Go.ChangeAt Go.RowKit Go.Deep Go.Joins
set_option linter.unusedSimpArgs false
set_option linter.unusedVariables false

theorem cells47 : Try.prog.cellsOf 47 = 8 := by kernel_rfl
theorem cells34 : Try.prog.cellsOf 34 = 2 := by kernel_rfl
theorem cells5 : Try.prog.cellsOf 5 = 1 := by kernel_rfl

theorem list8 {α : Type} {l : List α} (h : l.length = 8) : ∃ c0 c1 c2 c3 c4 c5 c6 c7, l = [c0, c1, c2, c3, c4, c5, c6, c7] := by
  obtain ⟨c0, l, rfl⟩ := List.exists_cons_of_length_pos (l := l) (by omega)
  obtain ⟨c1, l, rfl⟩ := List.exists_cons_of_length_pos (l := l) (by simp at h; omega)
  obtain ⟨c2, l, rfl⟩ := List.exists_cons_of_length_pos (l := l) (by simp at h; omega)
  obtain ⟨c3, l, rfl⟩ := List.exists_cons_of_length_pos (l := l) (by simp at h; omega)
  obtain ⟨c4, l, rfl⟩ := List.exists_cons_of_length_pos (l := l) (by simp at h; omega)
  obtain ⟨c5, l, rfl⟩ := List.exists_cons_of_length_pos (l := l) (by simp at h; omega)
  obtain ⟨c6, l, rfl⟩ := List.exists_cons_of_length_pos (l := l) (by simp at h; omega)
  obtain ⟨c7, l, rfl⟩ := List.exists_cons_of_length_pos (l := l) (by simp at h; omega)
  have : l = [] := by simpa using h
  subst this
  exact ⟨_, _, _, _, _, _, _, _, rfl⟩

section
variable {H : Type} {enc : TypeId × Value → H} {w : World} {base : Nat} {spare : Nat → Bool} {held : Bool}

set_option maxRecDepth 100000 in
/-- A record's eight cells. -/
theorem open_rec {fuel : Nat} {cs : List Value} {x : DataW H × List MemPlace} (h : DataW.trod enc Try.prog w base spare held fuel 47 cs = some x) :
    ∃ r : ARec, cs = rcells r ∧ r.call.name.size ≤ maxLen ∧ r.call.dst.size ≤ maxLen ∧ r.call.text.size ≤ maxLen ∧ r.ans.size ≤ maxLen := by
  obtain ⟨y0, y1, y2, y3, n, hx, hl, h0, h1, h2, h3⟩ := trod_struct4 Try.underlying47 h
  rw [cells47] at hl
  obtain ⟨c0, c1, c2, c3, c4, c5, c6, c7, rfl⟩ := list8 hl
  simp only [cells3, cells9, cells32, cells34, List.drop, List.take] at h0 h1 h2 h3
  obtain ⟨k, e0, _, _⟩ := DataW.trod_int Try.underlying3 h0
  obtain ⟨k1, e1, _, _⟩ := DataW.trod_int Try.underlying3 h1
  obtain ⟨c, e2, _, s1, s2, s3⟩ := open_call h2
  obtain ⟨z0, z1, n', hx', hl', g0, g1⟩ := trod_struct2 Try.underlying34 h3
  simp only [cells3, cells9, List.drop, List.take] at g0 g1
  obtain ⟨d, e3, _, _⟩ := DataW.trod_int Try.underlying3 g0
  obtain ⟨u, e4, _, wu⟩ := DataW.trod_string Try.underlying9 g1
  simp at e0 e1 e2 e3 e4
  obtain ⟨rfl, rfl, rfl, rfl⟩ := e2
  subst e0 e1 e3 e4
  exact ⟨⟨k, k1, c, d, u⟩, rfl, s1, s2, s3, wu⟩
end

end Go.Proofs.Ytemimppknlfghaa
