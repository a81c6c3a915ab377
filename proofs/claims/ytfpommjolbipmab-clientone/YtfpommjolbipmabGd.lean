/- Calls compared; records appended. -/
import Derived.Test.YtfpommjolbipmabGc
namespace Go.Proofs.Ytfpommjolbipmab
open Go.RowKit
set_option linter.unusedSimpArgs false
set_option linter.unusedVariables false

/-- Are two calls the same? -/
def callB (c c' : ACall) : Bool := c.kind == c'.kind && c.name.toList == c'.name.toList && c.dst.toList == c'.dst.toList && c.text.toList == c'.text.toList

theorem callB_iff (c c' : ACall) : callB c c' = true ↔ c = c' := by
  obtain ⟨k, a, b, t⟩ := c
  obtain ⟨k', a', b', t'⟩ := c'
  unfold callB
  simp only [eqB]
  simp
  constructor
  · rintro ⟨⟨⟨h3, h4⟩, h5⟩, h6⟩
    exact ⟨h3, h4, h5, h6⟩
  · rintro ⟨h3, h4, h5, h6⟩
    exact ⟨⟨⟨h3, h4⟩, h5⟩, h6⟩

theorem callB_self (c : ACall) : callB c c = true := (callB_iff c c).2 rfl

theorem eql32 (c c' : ACall) (w : World) : (binOp .eql 29 (.agg (callCells c)) (.agg (callCells c'))).run Try.prog w = .ok (.bool (callB c c')) w := by
  have h := equal32 9998 c c' w
  rw [run_eql_struct, h]
  rfl

theorem info63 : (Try.prog.info? 63).map (fun i => (i.zero, i.size, i.bytes)) = some (some (.agg #[.int .i64 0, .int .i64 0, .int .i64 0, .string ⟨#[]⟩, .string ⟨#[]⟩, .string ⟨#[]⟩, .int .i64 0, .string ⟨#[]⟩]), 8, 96) := by kernel_rfl

theorem flat_snoc (rs : List ARec) (r : ARec) : (rs ++ [r]).flatMap rcells = rs.flatMap rcells ++ rcells r := by simp

end Go.Proofs.Ytfpommjolbipmab
