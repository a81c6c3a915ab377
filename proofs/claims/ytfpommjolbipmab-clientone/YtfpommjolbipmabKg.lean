/- Steps of a client that come in; greatClient. -/
import Derived.Test.YtfpommjolbipmabKa
namespace Go.Proofs.Ytfpommjolbipmab
open Go.RowKit
set_option linter.unusedSimpArgs false
set_option linter.unusedVariables false

structure AKStep where
  act : Int
  c : ACall
  m : APkt
  d : Int
  u : ByteArray
def kxcells (x : AKStep) : List Value := [.int .i64 x.act, .int .i64 x.c.kind, .string x.c.name, .string x.c.dst, .string x.c.text, .bool x.m.reply, .int .i64 x.m.client, .int .i64 x.m.no, .int .i64 x.m.call.kind, .string x.m.call.name, .string x.m.call.dst, .string x.m.call.text, .int .i64 x.m.code, .string x.m.ans, .int .i64 x.d, .string x.u]
def AKStep.val (x : AKStep) : Value := .agg #[.int .i64 x.act, .int .i64 x.c.kind, .string x.c.name, .string x.c.dst, .string x.c.text, .bool x.m.reply, .int .i64 x.m.client, .int .i64 x.m.no, .int .i64 x.m.call.kind, .string x.m.call.name, .string x.m.call.dst, .string x.m.call.text, .int .i64 x.m.code, .string x.m.ans, .int .i64 x.d, .string x.u]
def SmallK (x : AKStep) : Prop := SmallC x.c ∧ SmallP x.m ∧ x.u.size ≤ 281474976710656
structure KStepAt (w : World) (b o : Nat) (x : AKStep) : Prop where
  y0 : w.cell? ⟨b, o, none⟩ = some (.int .i64 x.act)
  c0 : w.cell? ⟨b, o + 1, none⟩ = some (.int .i64 x.c.kind)
  c1 : w.cell? ⟨b, o + 2, none⟩ = some (.string x.c.name)
  c2 : w.cell? ⟨b, o + 3, none⟩ = some (.string x.c.dst)
  c3 : w.cell? ⟨b, o + 4, none⟩ = some (.string x.c.text)
  x0 : w.cell? ⟨b, o + 5, none⟩ = some (.bool x.m.reply)
  x1 : w.cell? ⟨b, o + 6, none⟩ = some (.int .i64 x.m.client)
  x2 : w.cell? ⟨b, o + 7, none⟩ = some (.int .i64 x.m.no)
  x3 : w.cell? ⟨b, o + 8, none⟩ = some (.int .i64 x.m.call.kind)
  x4 : w.cell? ⟨b, o + 9, none⟩ = some (.string x.m.call.name)
  x5 : w.cell? ⟨b, o + 10, none⟩ = some (.string x.m.call.dst)
  x6 : w.cell? ⟨b, o + 11, none⟩ = some (.string x.m.call.text)
  x7 : w.cell? ⟨b, o + 12, none⟩ = some (.int .i64 x.m.code)
  x8 : w.cell? ⟨b, o + 13, none⟩ = some (.string x.m.ans)
  z0 : w.cell? ⟨b, o + 14, none⟩ = some (.int .i64 x.d)
  z1 : w.cell? ⟨b, o + 15, none⟩ = some (.string x.u)
theorem KStepAt.lt {w : World} {b o : Nat} {x : AKStep} (h : KStepAt w b o x) : b < w.heap.size := World.block_lt_of_cell? w _ h.y0
theorem KStepAt.same {w W : World} {b o : Nat} {x : AKStep} (h : KStepAt w b o x) (hb : W.heap[b]? = w.heap[b]?) : KStepAt W b o x := by
  have hc : ∀ j, W.cell? ⟨b, j, none⟩ = w.cell? ⟨b, j, none⟩ := fun j => by simp only [World.cell?, hb]
  exact ⟨(hc _).trans h.y0, (hc _).trans h.c0, (hc _).trans h.c1, (hc _).trans h.c2, (hc _).trans h.c3, (hc _).trans h.x0, (hc _).trans h.x1, (hc _).trans h.x2, (hc _).trans h.x3, (hc _).trans h.x4, (hc _).trans h.x5, (hc _).trans h.x6, (hc _).trans h.x7, (hc _).trans h.x8, (hc _).trans h.z0, (hc _).trans h.z1⟩
theorem KStepAt.blk {w : World} {b : Nat} {x : AKStep} {e : TypeId} (h : w.heap[b]? = some (.cells (kxcells x).toArray e (0, 0))) : KStepAt w b 0 x := by
  refine ⟨?_, ?_, ?_, ?_, ?_, ?_, ?_, ?_, ?_, ?_, ?_, ?_, ?_, ?_, ?_, ?_⟩ <;> rw [cell_of_row w b _ _ _ _ h] <;> rfl
/-- Steps one behind the other lie there. -/
def KStepsAt (w : World) (a : Option Addr) (n : Nat) (xs : List AKStep) : Prop :=
  xs.length = n ∧ n ≤ maxLen ∧ (∀ x, x ∈ xs → SmallK x) ∧ (0 < n → ∃ b off, a = some ⟨b, off, none⟩ ∧ ∀ (j : Nat) (x : AKStep), xs[j]? = some x → KStepAt w b (off + j * 16) x)
theorem KStepsAt.below {w W : World} {a : Option Addr} {n : Nat} {xs : List AKStep} (h : KStepsAt w a n xs) (hb : Below w.heap.size w W) : KStepsAt W a n xs := by
  refine ⟨h.1, h.2.1, h.2.2.1, fun h0 => ?_⟩
  obtain ⟨b, off, rfl, hc⟩ := h.2.2.2 h0
  exact ⟨b, off, rfl, fun j r hr => (hc j r hr).same (hb.block b (hc j r hr).lt)⟩

end Go.Proofs.Ytfpommjolbipmab
