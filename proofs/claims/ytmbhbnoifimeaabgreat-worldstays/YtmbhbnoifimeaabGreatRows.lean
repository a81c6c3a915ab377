/-
  No cell of these rows narrows 'for every input' (looked for: loops, veiled, ifaces, maps, wideKeys, modest, calm, conditions, laid).
  DERIVED. THE GIVEN ROWS OF THIS SEAT. 6 by the template 'for every input the law returns true; each argument reads behind the call as it read before'; 0 by the template 'total and deterministic' (their statements: YtmbhbnoifimeaabGreatTotals.lean).
  GIVEN WITH THE SEED: the statements are not yours to turn. If you find one false, say at which input.
  Laid BY PROGRAM, IN A SANDBOX (cutbox-rows.mjs): the forced cells as the released guide's own fill.sh prints them over the translation fd09321e51143eb5… (all of the seat's roots in one cut). By AI agents, Wed Nov 11 2026. No macro, syntax, notation, axiom, sorry.
-/
import Derived.Test.YtmbhbnoifimeaabGreatChecked
import GoSem.Claim
import GoSem.ClaimJoined
import GoSem.ClaimMapViews
import Derived.JoinedTies
import Derived.KernelRfl
namespace Go.Proofs.YtmbhbnoifimeaabGreat
/- THE CELL 'sum', in the pinned program and in every row, IS THE sha256 OF THE DUMP (.gsa) THAT YtmbhbnoifimeaabGreatProg.lean LOADS. Nothing in Lean hashes anything: it is a label: what it is worth is what the hold of that sum in a sandbox is worth. -/
noncomputable def Tryz.pinned : Pinned := { name := "ytmbhbnoifimeaabgreat", sum := "fd09321e51143eb5822f0e8d83d331c40ed1f7a73ef99cf295ad3728e905c15a", checked := Tryz.checked }
namespace Rows
def none {H : Type} : Left H := { results := [], args := [] }

/-- 'postilionlaw.WorldDoes': WHATEVER THE INPUT: true; the input reads as it did. -/
def worldDoesSpec : ChangeSpec := { name := "worldDoes", fn := fun _ => fun
  | [d] => { results := [.lit (.bool true)], args := [d] }
  | _ => none }
def worldDoesRow : OpenClaim := { program := "ytmbhbnoifimeaabgreat", sum := "fd09321e51143eb5822f0e8d83d331c40ed1f7a73ef99cf295ad3728e905c15a", func := "postilion/postilionlaw.WorldDoes", spec := "worldDoes", inPlace := ["internal/abi.NoEscape", "internal/bytealg.MakeNoZero"], unfollowed := true, recurses := true, apart := false }
def WorldDoesSaid : Prop := worldDoesRow.holds Tryz.pinned (OpenSpec.ofChange worldDoesSpec)

/-- ITS FALSE NEIGHBOUR: 'it returns false'. Refute it at one input. -/
def worldDoesWrong : ChangeSpec := { name := "worldDoes", fn := fun _ => fun
  | [d] => { results := [.lit (.bool false)], args := [d] }
  | _ => none }
def WorldDoesWrongFalsely : Prop := worldDoesRow.holds Tryz.pinned (OpenSpec.ofChange worldDoesWrong)

/-- 'postilionlaw.WorldOnce': WHATEVER THE INPUT: true; the input reads as it did. -/
def worldOnceSpec : ChangeSpec := { name := "worldOnce", fn := fun _ => fun
  | [d] => { results := [.lit (.bool true)], args := [d] }
  | _ => none }
def worldOnceRow : OpenClaim := { program := "ytmbhbnoifimeaabgreat", sum := "fd09321e51143eb5822f0e8d83d331c40ed1f7a73ef99cf295ad3728e905c15a", func := "postilion/postilionlaw.WorldOnce", spec := "worldOnce", inPlace := ["internal/abi.NoEscape", "internal/bytealg.MakeNoZero"], unfollowed := true, recurses := true, apart := false }
def WorldOnceSaid : Prop := worldOnceRow.holds Tryz.pinned (OpenSpec.ofChange worldOnceSpec)

/-- ITS FALSE NEIGHBOUR: 'it returns false'. Refute it at one input. -/
def worldOnceWrong : ChangeSpec := { name := "worldOnce", fn := fun _ => fun
  | [d] => { results := [.lit (.bool false)], args := [d] }
  | _ => none }
def WorldOnceWrongFalsely : Prop := worldOnceRow.holds Tryz.pinned (OpenSpec.ofChange worldOnceWrong)

/-- 'postilionlaw.WorldSerial': WHATEVER THE INPUT: true; the input reads as it did. -/
def worldSerialSpec : ChangeSpec := { name := "worldSerial", fn := fun _ => fun
  | [d] => { results := [.lit (.bool true)], args := [d] }
  | _ => none }
def worldSerialRow : OpenClaim := { program := "ytmbhbnoifimeaabgreat", sum := "fd09321e51143eb5822f0e8d83d331c40ed1f7a73ef99cf295ad3728e905c15a", func := "postilion/postilionlaw.WorldSerial", spec := "worldSerial", inPlace := ["internal/abi.NoEscape", "internal/bytealg.MakeNoZero"], unfollowed := true, recurses := true, apart := false }
def WorldSerialSaid : Prop := worldSerialRow.holds Tryz.pinned (OpenSpec.ofChange worldSerialSpec)

/-- ITS FALSE NEIGHBOUR: 'it returns false'. Refute it at one input. -/
def worldSerialWrong : ChangeSpec := { name := "worldSerial", fn := fun _ => fun
  | [d] => { results := [.lit (.bool false)], args := [d] }
  | _ => none }
def WorldSerialWrongFalsely : Prop := worldSerialRow.holds Tryz.pinned (OpenSpec.ofChange worldSerialWrong)

/-- 'postilionlaw.WorldStays': WHATEVER THE INPUT: true; the input reads as it did. -/
def worldStaysSpec : ChangeSpec := { name := "worldStays", fn := fun _ => fun
  | [d] => { results := [.lit (.bool true)], args := [d] }
  | _ => none }
def worldStaysRow : OpenClaim := { program := "ytmbhbnoifimeaabgreat", sum := "fd09321e51143eb5822f0e8d83d331c40ed1f7a73ef99cf295ad3728e905c15a", func := "postilion/postilionlaw.WorldStays", spec := "worldStays", inPlace := ["internal/abi.NoEscape", "internal/bytealg.MakeNoZero"], unfollowed := true, recurses := true, apart := false }
def WorldStaysSaid : Prop := worldStaysRow.holds Tryz.pinned (OpenSpec.ofChange worldStaysSpec)

/-- ITS FALSE NEIGHBOUR: 'it returns false'. Refute it at one input. -/
def worldStaysWrong : ChangeSpec := { name := "worldStays", fn := fun _ => fun
  | [d] => { results := [.lit (.bool false)], args := [d] }
  | _ => none }
def WorldStaysWrongFalsely : Prop := worldStaysRow.holds Tryz.pinned (OpenSpec.ofChange worldStaysWrong)

/-- 'postilionlaw.WorldCalm': WHATEVER THE INPUT: true; the input reads as it did. -/
def worldCalmSpec : ChangeSpec := { name := "worldCalm", fn := fun _ => fun
  | [d] => { results := [.lit (.bool true)], args := [d] }
  | _ => none }
def worldCalmRow : OpenClaim := { program := "ytmbhbnoifimeaabgreat", sum := "fd09321e51143eb5822f0e8d83d331c40ed1f7a73ef99cf295ad3728e905c15a", func := "postilion/postilionlaw.WorldCalm", spec := "worldCalm", inPlace := ["internal/abi.NoEscape", "internal/bytealg.MakeNoZero"], unfollowed := true, recurses := true, apart := false }
def WorldCalmSaid : Prop := worldCalmRow.holds Tryz.pinned (OpenSpec.ofChange worldCalmSpec)

/-- ITS FALSE NEIGHBOUR: 'it returns false'. Refute it at one input. -/
def worldCalmWrong : ChangeSpec := { name := "worldCalm", fn := fun _ => fun
  | [d] => { results := [.lit (.bool false)], args := [d] }
  | _ => none }
def WorldCalmWrongFalsely : Prop := worldCalmRow.holds Tryz.pinned (OpenSpec.ofChange worldCalmWrong)

/-- 'postilionlaw.WorldForgets': WHATEVER THE INPUT: true; the input reads as it did. -/
def worldForgetsSpec : ChangeSpec := { name := "worldForgets", fn := fun _ => fun
  | [d] => { results := [.lit (.bool true)], args := [d] }
  | _ => none }
def worldForgetsRow : OpenClaim := { program := "ytmbhbnoifimeaabgreat", sum := "fd09321e51143eb5822f0e8d83d331c40ed1f7a73ef99cf295ad3728e905c15a", func := "postilion/postilionlaw.WorldForgets", spec := "worldForgets", inPlace := ["internal/abi.NoEscape", "internal/bytealg.MakeNoZero"], unfollowed := true, recurses := true, apart := false }
def WorldForgetsSaid : Prop := worldForgetsRow.holds Tryz.pinned (OpenSpec.ofChange worldForgetsSpec)

/-- ITS FALSE NEIGHBOUR: 'it returns false'. Refute it at one input. -/
def worldForgetsWrong : ChangeSpec := { name := "worldForgets", fn := fun _ => fun
  | [d] => { results := [.lit (.bool false)], args := [d] }
  | _ => none }
def WorldForgetsWrongFalsely : Prop := worldForgetsRow.holds Tryz.pinned (OpenSpec.ofChange worldForgetsWrong)

/- THE SECOND FORM. 'bulk': how many values and letters a reading holds, each counted each time it is reached (what is shared counts as often as it is met; a slice's spare places count too). A statement '..UptoSaid' is the law's where the arguments, and the package variables that the reading takes, are together of bulk at most 1048576: NARROWER than '..Said'. Prove '..Said' where nothing that the law and all that it calls make is longer than what came in: it says more and counts as full. Else prove '..UptoSaid'. A law counts once. -/
mutual
def uptoBulk {H : Type} : DataW H → Nat
  | .lit (.string bytes) => bytes.length + 1
  | .lit _ => 1
  | .nil => 1
  | .ptr d => uptoBulk d + 1
  | .slice elems spare => uptoBulkAll elems + uptoBulkAll spare + 1
  | .agg parts => uptoBulkAll parts + 1
  | .iface _ d => uptoBulk d + 1
  | .map entries => uptoBulkEntries entries + 1
  | .held _ => 1
def uptoBulkAll {H : Type} : List (DataW H) → Nat
  | [] => 0
  | d :: r => uptoBulk d + uptoBulkAll r
def uptoBulkEntries {H : Type} : List (Lit × DataW H) → Nat
  | [] => 0
  | x :: r => uptoBulkEntry x + uptoBulkEntries r
def uptoBulkEntry {H : Type} : Lit × DataW H → Nat
  | (.string bytes, d) => bytes.length + uptoBulk d + 1
  | (_, d) => uptoBulk d + 1
 end
def uptoSmall : (H : Type) → List (DataW H) → Bool := fun _ ds => decide (uptoBulkAll ds ≤ 1048576)
def OpenSpec.upto (s : _root_.Go.ChangeSpec) : _root_.Go.OpenSpec := { _root_.Go.OpenSpec.ofChange s with cond := some uptoSmall }

/-- 'postilionlaw.WorldDoes', WHERE WHAT IT READS IS OF BULK AT MOST 1048576: true; the input reads as it did. -/
def worldDoesUptoRow : OpenClaim := { program := "ytmbhbnoifimeaabgreat", sum := "fd09321e51143eb5822f0e8d83d331c40ed1f7a73ef99cf295ad3728e905c15a", func := "postilion/postilionlaw.WorldDoes", spec := "worldDoes", inPlace := ["internal/abi.NoEscape", "internal/bytealg.MakeNoZero"], unfollowed := true, recurses := true, apart := false, narrowed := true }
def WorldDoesUptoSaid : Prop := worldDoesUptoRow.holds Tryz.pinned (OpenSpec.upto worldDoesSpec)

/-- 'postilionlaw.WorldOnce', WHERE WHAT IT READS IS OF BULK AT MOST 1048576: true; the input reads as it did. -/
def worldOnceUptoRow : OpenClaim := { program := "ytmbhbnoifimeaabgreat", sum := "fd09321e51143eb5822f0e8d83d331c40ed1f7a73ef99cf295ad3728e905c15a", func := "postilion/postilionlaw.WorldOnce", spec := "worldOnce", inPlace := ["internal/abi.NoEscape", "internal/bytealg.MakeNoZero"], unfollowed := true, recurses := true, apart := false, narrowed := true }
def WorldOnceUptoSaid : Prop := worldOnceUptoRow.holds Tryz.pinned (OpenSpec.upto worldOnceSpec)

/-- 'postilionlaw.WorldSerial', WHERE WHAT IT READS IS OF BULK AT MOST 1048576: true; the input reads as it did. -/
def worldSerialUptoRow : OpenClaim := { program := "ytmbhbnoifimeaabgreat", sum := "fd09321e51143eb5822f0e8d83d331c40ed1f7a73ef99cf295ad3728e905c15a", func := "postilion/postilionlaw.WorldSerial", spec := "worldSerial", inPlace := ["internal/abi.NoEscape", "internal/bytealg.MakeNoZero"], unfollowed := true, recurses := true, apart := false, narrowed := true }
def WorldSerialUptoSaid : Prop := worldSerialUptoRow.holds Tryz.pinned (OpenSpec.upto worldSerialSpec)

/-- 'postilionlaw.WorldStays', WHERE WHAT IT READS IS OF BULK AT MOST 1048576: true; the input reads as it did. -/
def worldStaysUptoRow : OpenClaim := { program := "ytmbhbnoifimeaabgreat", sum := "fd09321e51143eb5822f0e8d83d331c40ed1f7a73ef99cf295ad3728e905c15a", func := "postilion/postilionlaw.WorldStays", spec := "worldStays", inPlace := ["internal/abi.NoEscape", "internal/bytealg.MakeNoZero"], unfollowed := true, recurses := true, apart := false, narrowed := true }
def WorldStaysUptoSaid : Prop := worldStaysUptoRow.holds Tryz.pinned (OpenSpec.upto worldStaysSpec)

/-- 'postilionlaw.WorldCalm', WHERE WHAT IT READS IS OF BULK AT MOST 1048576: true; the input reads as it did. -/
def worldCalmUptoRow : OpenClaim := { program := "ytmbhbnoifimeaabgreat", sum := "fd09321e51143eb5822f0e8d83d331c40ed1f7a73ef99cf295ad3728e905c15a", func := "postilion/postilionlaw.WorldCalm", spec := "worldCalm", inPlace := ["internal/abi.NoEscape", "internal/bytealg.MakeNoZero"], unfollowed := true, recurses := true, apart := false, narrowed := true }
def WorldCalmUptoSaid : Prop := worldCalmUptoRow.holds Tryz.pinned (OpenSpec.upto worldCalmSpec)

/-- 'postilionlaw.WorldForgets', WHERE WHAT IT READS IS OF BULK AT MOST 1048576: true; the input reads as it did. -/
def worldForgetsUptoRow : OpenClaim := { program := "ytmbhbnoifimeaabgreat", sum := "fd09321e51143eb5822f0e8d83d331c40ed1f7a73ef99cf295ad3728e905c15a", func := "postilion/postilionlaw.WorldForgets", spec := "worldForgets", inPlace := ["internal/abi.NoEscape", "internal/bytealg.MakeNoZero"], unfollowed := true, recurses := true, apart := false, narrowed := true }
def WorldForgetsUptoSaid : Prop := worldForgetsUptoRow.holds Tryz.pinned (OpenSpec.upto worldForgetsSpec)

end Rows
end Go.Proofs.YtmbhbnoifimeaabGreat
