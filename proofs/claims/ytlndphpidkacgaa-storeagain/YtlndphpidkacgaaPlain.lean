/- The plain functions of layer 1 (files): what each Go function computes, on bytes and lists. Nothing of the dump is imported here. -/
import Derived.WalkKit
import Derived.WalkSpells
import Derived.WalkLawsBesides
namespace Go.Proofs.Ytlndphpidkacgaa
open Go.RowKit
set_option linter.unusedSimpArgs false
set_option linter.unusedVariables false

theorem hide {p : Prop} (h : p) : Hid p := h
theorem unhide {p : Prop} (h : Hid p) : p := h

theorem bcell {W w1 : World} (hb : Below W.heap.size W w1) : (∀ b o, b < W.heap.size → w1.cell? ⟨b, o, none⟩ = W.cell? ⟨b, o, none⟩) ∧ (∀ b o, b < W.heap.size → w1.frozen? ⟨b, o, none⟩ = W.frozen? ⟨b, o, none⟩) :=
  ⟨fun b o h => hb.cell (p := ⟨b, o, none⟩) h, fun b o h => hb.frozen (p := ⟨b, o, none⟩) h⟩

theorem al_frozen (w : World) (o : Obj) (b j : Nat) (h : b < w.heap.size) : (w.alloc o).frozen? ⟨b, j, none⟩ = w.frozen? ⟨b, j, none⟩ := World.frozen?_of_block (w := w) (a := ⟨b, j, none⟩) (Below.heap_alloc w o b h)
theorem al_old (w : World) (o : Obj) (b j : Nat) (h : b < w.heap.size) : (w.alloc o).cell? ⟨b, j, none⟩ = w.cell? ⟨b, j, none⟩ := World.cell?_of_block (w := w) (a := ⟨b, j, none⟩) (Below.heap_alloc w o b h)
theorem al_new (w : World) (C : Array Value) (t : TypeId) (fr : Nat × Nat) (b j : Nat) (h : b = w.heap.size) : (w.alloc (.cells C t fr)).cell? ⟨b, j, none⟩ = C[j]? := by subst h; exact World.cell?_alloc_mark w C t fr j
theorem al_size (w : World) (o : Obj) : (w.alloc o).heap.size = w.heap.size + 1 := by simp

/-- A call of package api. -/
structure ACall where
  kind : Int
  name : ByteArray
  dst : ByteArray
  text : ByteArray

/-- A file. -/
structure AFile where
  name : ByteArray
  text : ByteArray

def emptyB (s : ByteArray) : Bool := s.toList.isEmpty

/-- Outside the bounds. -/
def outB (lo hi : Int) (b : UInt8) : Bool := decide ((b.toNat : Int) < lo) || decide (hi < (b.toNat : Int))

def withinB (s : ByteArray) (most lo hi : Int) : Bool :=
  decide (1 ≤ (s.size : Int)) && decide ((s.size : Int) ≤ most) && !(s.data.toList.any (outB lo hi))

def nameB (s : ByteArray) : Bool := withinB s 5 97 122
def textB (s : ByteArray) : Bool := withinB s 8 32 126
def changesB (k : Int) : Bool := k == 1 || k == 2 || k == 3 || k == 4
def formedB (c : ACall) : Bool := (emptyB c.name || c.kind != 6) && (emptyB c.dst || c.kind == 3) && (emptyB c.text || c.kind == 4)
def namedB (c : ACall) : Bool := (c.kind == 6 || nameB c.name) && (c.kind != 3 || nameB c.dst)
def checkI (c : ACall) : Int :=
  if c.kind < 1 ∨ 6 < c.kind then 1 else if formedB c = false then 3 else if namedB c = false then 2 else if c.kind = 4 ∧ textB c.text = false then 4 else 0

/-- A call as a value. -/
def ACall.cells (c : ACall) : Array Value := #[.int .i64 c.kind, .string c.name, .string c.dst, .string c.text]

end Go.Proofs.Ytlndphpidkacgaa
