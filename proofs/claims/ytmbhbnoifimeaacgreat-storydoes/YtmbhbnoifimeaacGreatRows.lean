/-
  No cell of these rows narrows 'for every input' (looked for: loops, veiled, ifaces, maps, wideKeys, modest, calm, conditions, laid).
  DERIVED. THE GIVEN ROWS OF THIS SEAT. 3 by the template 'for every input the law returns true; each argument reads behind the call as it read before'; 0 by the template 'total and deterministic' (their statements: YtmbhbnoifimeaacGreatTotals.lean).
  GIVEN WITH THE SEED: the statements are not yours to turn. If you find one false, say at which input.
  Laid BY PROGRAM, IN A SANDBOX (cutbox-rows.mjs): the forced cells as the released guide's own fill.sh prints them over the translation 3368bc6712fae910… (all of the seat's roots in one cut). By AI agents, Wed Nov 11 2026. No macro, syntax, notation, axiom, sorry.
-/
import Derived.Test.YtmbhbnoifimeaacGreatChecked
import GoSem.Claim
import GoSem.ClaimJoined
import GoSem.ClaimMapViews
import Derived.JoinedTies
import Derived.KernelRfl
namespace Go.Proofs.YtmbhbnoifimeaacGreat
/- THE CELL 'sum', in the pinned program and in every row, IS THE sha256 OF THE DUMP (.gsa) THAT YtmbhbnoifimeaacGreatProg.lean LOADS. Nothing in Lean hashes anything: it is a label: what it is worth is what the hold of that sum in a sandbox is worth. -/
noncomputable def Tryz.pinned : Pinned := { name := "ytmbhbnoifimeaacgreat", sum := "3368bc6712fae91032a807537d436a59a78b894c46c7db600fb136595e414961", checked := Tryz.checked }
namespace Rows
def none {H : Type} : Left H := { results := [], args := [] }

/-- 'postilionlaw.StoryDoes': WHATEVER THE INPUT: true; the input reads as it did. -/
def storyDoesSpec : ChangeSpec := { name := "storyDoes", fn := fun _ => fun
  | [d1, d2, d3, d4, d5] => { results := [.lit (.bool true)], args := [d1, d2, d3, d4, d5] }
  | _ => none }
def storyDoesRow : OpenClaim := { program := "ytmbhbnoifimeaacgreat", sum := "3368bc6712fae91032a807537d436a59a78b894c46c7db600fb136595e414961", func := "postilion/postilionlaw.StoryDoes", spec := "storyDoes", inPlace := ["internal/abi.NoEscape", "internal/bytealg.MakeNoZero"], unfollowed := true, recurses := true, apart := false }
def StoryDoesSaid : Prop := storyDoesRow.holds Tryz.pinned (OpenSpec.ofChange storyDoesSpec)

/-- ITS FALSE NEIGHBOUR: 'it returns false'. Refute it at one input. -/
def storyDoesWrong : ChangeSpec := { name := "storyDoes", fn := fun _ => fun
  | [d1, d2, d3, d4, d5] => { results := [.lit (.bool false)], args := [d1, d2, d3, d4, d5] }
  | _ => none }
def StoryDoesWrongFalsely : Prop := storyDoesRow.holds Tryz.pinned (OpenSpec.ofChange storyDoesWrong)

/-- 'postilionlaw.StoryTells': WHATEVER THE INPUT: true; the input reads as it did. -/
def storyTellsSpec : ChangeSpec := { name := "storyTells", fn := fun _ => fun
  | [d] => { results := [.lit (.bool true)], args := [d] }
  | _ => none }
def storyTellsRow : OpenClaim := { program := "ytmbhbnoifimeaacgreat", sum := "3368bc6712fae91032a807537d436a59a78b894c46c7db600fb136595e414961", func := "postilion/postilionlaw.StoryTells", spec := "storyTells", inPlace := ["internal/abi.NoEscape", "internal/bytealg.MakeNoZero"], unfollowed := true, recurses := true, apart := false }
def StoryTellsSaid : Prop := storyTellsRow.holds Tryz.pinned (OpenSpec.ofChange storyTellsSpec)

/-- ITS FALSE NEIGHBOUR: 'it returns false'. Refute it at one input. -/
def storyTellsWrong : ChangeSpec := { name := "storyTells", fn := fun _ => fun
  | [d] => { results := [.lit (.bool false)], args := [d] }
  | _ => none }
def StoryTellsWrongFalsely : Prop := storyTellsRow.holds Tryz.pinned (OpenSpec.ofChange storyTellsWrong)

/-- 'postilionlaw.StoryParts': WHATEVER THE INPUT: true; the input reads as it did. -/
def storyPartsSpec : ChangeSpec := { name := "storyParts", fn := fun _ => fun
  | [d1, d2] => { results := [.lit (.bool true)], args := [d1, d2] }
  | _ => none }
def storyPartsRow : OpenClaim := { program := "ytmbhbnoifimeaacgreat", sum := "3368bc6712fae91032a807537d436a59a78b894c46c7db600fb136595e414961", func := "postilion/postilionlaw.StoryParts", spec := "storyParts", inPlace := ["internal/abi.NoEscape", "internal/bytealg.MakeNoZero"], unfollowed := true, recurses := true, apart := false }
def StoryPartsSaid : Prop := storyPartsRow.holds Tryz.pinned (OpenSpec.ofChange storyPartsSpec)

/-- ITS FALSE NEIGHBOUR: 'it returns false'. Refute it at one input. -/
def storyPartsWrong : ChangeSpec := { name := "storyParts", fn := fun _ => fun
  | [d1, d2] => { results := [.lit (.bool false)], args := [d1, d2] }
  | _ => none }
def StoryPartsWrongFalsely : Prop := storyPartsRow.holds Tryz.pinned (OpenSpec.ofChange storyPartsWrong)

/- THE SECOND FORM. 'bulk': how many values and letters a reading holds, each counted each time it is reached (what is shared counts as often as it is met; a slice's spare places count too). A statement '..UptoSaid' is the law's where the arguments, and the package variables that the reading takes, are together of bulk at most 1048576: NARROWER than '..Said'. Prove '..Said' where nothing that the law and all that it calls make is longer than what came in: it says more and counts as full. Else prove '..UptoSaid'. A law counts once. -/
mutual
def uptoBulk {H : Type} : DataW H → Nat
  | .lit (.string bytes) => bytes.length + 1
  | .lit _ => 1
  | .nil => 1
  | .ptr d => uptoBulk d + 1
  | .slice elems spare => uptoBulkAll elems + uptoBulkAll spare + 1
  | .agg parts => uptoBulkAll parts + 1
  | .iface _ d => uptoBulk d + 1
  | .map entries => uptoBulkEntries entries + 1
  | .held _ => 1
def uptoBulkAll {H : Type} : List (DataW H) → Nat
  | [] => 0
  | d :: r => uptoBulk d + uptoBulkAll r
def uptoBulkEntries {H : Type} : List (Lit × DataW H) → Nat
  | [] => 0
  | x :: r => uptoBulkEntry x + uptoBulkEntries r
def uptoBulkEntry {H : Type} : Lit × DataW H → Nat
  | (.string bytes, d) => bytes.length + uptoBulk d + 1
  | (_, d) => uptoBulk d + 1
 end
def uptoSmall : (H : Type) → List (DataW H) → Bool := fun _ ds => decide (uptoBulkAll ds ≤ 1048576)
def OpenSpec.upto (s : _root_.Go.ChangeSpec) : _root_.Go.OpenSpec := { _root_.Go.OpenSpec.ofChange s with cond := some uptoSmall }

/-- 'postilionlaw.StoryDoes', WHERE WHAT IT READS IS OF BULK AT MOST 1048576: true; the input reads as it did. -/
def storyDoesUptoRow : OpenClaim := { program := "ytmbhbnoifimeaacgreat", sum := "3368bc6712fae91032a807537d436a59a78b894c46c7db600fb136595e414961", func := "postilion/postilionlaw.StoryDoes", spec := "storyDoes", inPlace := ["internal/abi.NoEscape", "internal/bytealg.MakeNoZero"], unfollowed := true, recurses := true, apart := false, narrowed := true }
def StoryDoesUptoSaid : Prop := storyDoesUptoRow.holds Tryz.pinned (OpenSpec.upto storyDoesSpec)

/-- 'postilionlaw.StoryTells', WHERE WHAT IT READS IS OF BULK AT MOST 1048576: true; the input reads as it did. -/
def storyTellsUptoRow : OpenClaim := { program := "ytmbhbnoifimeaacgreat", sum := "3368bc6712fae91032a807537d436a59a78b894c46c7db600fb136595e414961", func := "postilion/postilionlaw.StoryTells", spec := "storyTells", inPlace := ["internal/abi.NoEscape", "internal/bytealg.MakeNoZero"], unfollowed := true, recurses := true, apart := false, narrowed := true }
def StoryTellsUptoSaid : Prop := storyTellsUptoRow.holds Tryz.pinned (OpenSpec.upto storyTellsSpec)

/-- 'postilionlaw.StoryParts', WHERE WHAT IT READS IS OF BULK AT MOST 1048576: true; the input reads as it did. -/
def storyPartsUptoRow : OpenClaim := { program := "ytmbhbnoifimeaacgreat", sum := "3368bc6712fae91032a807537d436a59a78b894c46c7db600fb136595e414961", func := "postilion/postilionlaw.StoryParts", spec := "storyParts", inPlace := ["internal/abi.NoEscape", "internal/bytealg.MakeNoZero"], unfollowed := true, recurses := true, apart := false, narrowed := true }
def StoryPartsUptoSaid : Prop := storyPartsUptoRow.holds Tryz.pinned (OpenSpec.upto storyPartsSpec)

end Rows
end Go.Proofs.YtmbhbnoifimeaacGreat
