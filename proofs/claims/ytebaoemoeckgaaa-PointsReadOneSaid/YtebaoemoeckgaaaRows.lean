/-
  No cell of these rows narrows 'for every input' (looked for: loops, veiled, ifaces, maps, wideKeys, modest, calm, conditions, laid).
  DERIVED. THE GIVEN ROWS OF THIS SEAT. 3 by the template 'for every input the law returns true; each argument reads behind the call as it read before'; 0 by the template 'total and deterministic' (their statements: YtebaoemoeckgaaaTotals.lean).
  GIVEN WITH THE SEED: the statements are not yours to turn. If you find one false, say at which input.
  Laid BY PROGRAM, IN A SANDBOX (cutbox-rows.mjs): the forced cells as the released guide's own fill.sh prints them over the translation bfe3ddb818dcf9e7… (all of the seat's roots in one cut). By AI agents, Wed Nov 11 2026. No macro, syntax, notation, axiom, sorry.
-/
import Derived.Test.YtebaoemoeckgaaaChecked
import GoSem.Claim
import GoSem.ClaimJoined
import GoSem.ClaimMapViews
import Derived.JoinedTies
import Derived.KernelRfl
namespace Go.Proofs.Ytebaoemoeckgaaa
/- THE CELL 'sum', in the pinned program and in every row, IS THE sha256 OF THE DUMP (.gsa) THAT YtebaoemoeckgaaaProg.lean LOADS. Nothing in Lean hashes anything: it is a label: what it is worth is what the hold of that sum in a sandbox is worth. -/
noncomputable def Try.pinned : Pinned := { name := "ytebaoemoeckgaaa", sum := "bfe3ddb818dcf9e76ce9d7a8f4fba082cda893153e4c2945d1755019e401de25", checked := Try.checked }
namespace Rows
def none {H : Type} : Left H := { results := [], args := [] }

/-- 'causewaylaw05.PointsOne': WHATEVER THE INPUT: true; the input reads as it did. -/
def pointsOneSpec : ChangeSpec := { name := "pointsOne", fn := fun _ => fun
  | [d] => { results := [.lit (.bool true)], args := [d] }
  | _ => none }
def pointsOneRow : OpenClaim := { program := "ytebaoemoeckgaaa", sum := "bfe3ddb818dcf9e76ce9d7a8f4fba082cda893153e4c2945d1755019e401de25", func := "causeway/causewaylaw05.PointsOne", spec := "pointsOne", inPlace := ["math/bits.Sub64", "math/bits.Add64"], unfollowed := true, recurses := true, apart := false }
def PointsOneSaid : Prop := pointsOneRow.holds Try.pinned (OpenSpec.ofChange pointsOneSpec)

/-- ITS FALSE NEIGHBOUR: 'it returns false'. Refute it at one input. -/
def pointsOneWrong : ChangeSpec := { name := "pointsOne", fn := fun _ => fun
  | [d] => { results := [.lit (.bool false)], args := [d] }
  | _ => none }
def PointsOneWrongFalsely : Prop := pointsOneRow.holds Try.pinned (OpenSpec.ofChange pointsOneWrong)

/-- 'causewaylaw05.PointsReadOne': WHATEVER THE INPUT: true; the input reads as it did. -/
def pointsReadOneSpec : ChangeSpec := { name := "pointsReadOne", fn := fun _ => fun
  | [d] => { results := [.lit (.bool true)], args := [d] }
  | _ => none }
def pointsReadOneRow : OpenClaim := { program := "ytebaoemoeckgaaa", sum := "bfe3ddb818dcf9e76ce9d7a8f4fba082cda893153e4c2945d1755019e401de25", func := "causeway/causewaylaw05.PointsReadOne", spec := "pointsReadOne", inPlace := ["math/bits.Sub64", "math/bits.Add64"], unfollowed := true, recurses := true, apart := false }
def PointsReadOneSaid : Prop := pointsReadOneRow.holds Try.pinned (OpenSpec.ofChange pointsReadOneSpec)

/-- ITS FALSE NEIGHBOUR: 'it returns false'. Refute it at one input. -/
def pointsReadOneWrong : ChangeSpec := { name := "pointsReadOne", fn := fun _ => fun
  | [d] => { results := [.lit (.bool false)], args := [d] }
  | _ => none }
def PointsReadOneWrongFalsely : Prop := pointsReadOneRow.holds Try.pinned (OpenSpec.ofChange pointsReadOneWrong)

/-- 'causewaylaw05.PointsTwins': WHATEVER THE INPUT: true; the input reads as it did. -/
def pointsTwinsSpec : ChangeSpec := { name := "pointsTwins", fn := fun _ => fun
  | [d] => { results := [.lit (.bool true)], args := [d] }
  | _ => none }
def pointsTwinsRow : OpenClaim := { program := "ytebaoemoeckgaaa", sum := "bfe3ddb818dcf9e76ce9d7a8f4fba082cda893153e4c2945d1755019e401de25", func := "causeway/causewaylaw05.PointsTwins", spec := "pointsTwins", inPlace := ["math/bits.Sub64", "math/bits.Add64"], unfollowed := true, recurses := true, apart := false }
def PointsTwinsSaid : Prop := pointsTwinsRow.holds Try.pinned (OpenSpec.ofChange pointsTwinsSpec)

/-- ITS FALSE NEIGHBOUR: 'it returns false'. Refute it at one input. -/
def pointsTwinsWrong : ChangeSpec := { name := "pointsTwins", fn := fun _ => fun
  | [d] => { results := [.lit (.bool false)], args := [d] }
  | _ => none }
def PointsTwinsWrongFalsely : Prop := pointsTwinsRow.holds Try.pinned (OpenSpec.ofChange pointsTwinsWrong)

/- THE SECOND FORM. 'bulk': how many values and letters a reading holds, each counted each time it is reached (what is shared counts as often as it is met; a slice's spare places count too). A statement '..UptoSaid' is the law's where the arguments, and the package variables that the reading takes, are together of bulk at most 1048576: NARROWER than '..Said'. Prove '..Said' where nothing that the law and all that it calls make is longer than what came in: it says more and counts as full. Else prove '..UptoSaid'. A law counts once. -/
mutual
def uptoBulk {H : Type} : DataW H → Nat
  | .lit (.string bytes) => bytes.length + 1
  | .lit _ => 1
  | .nil => 1
  | .ptr d => uptoBulk d + 1
  | .slice elems spare => uptoBulkAll elems + uptoBulkAll spare + 1
  | .agg parts => uptoBulkAll parts + 1
  | .iface _ d => uptoBulk d + 1
  | .map entries => uptoBulkEntries entries + 1
  | .held _ => 1
def uptoBulkAll {H : Type} : List (DataW H) → Nat
  | [] => 0
  | d :: r => uptoBulk d + uptoBulkAll r
def uptoBulkEntries {H : Type} : List (Lit × DataW H) → Nat
  | [] => 0
  | x :: r => uptoBulkEntry x + uptoBulkEntries r
def uptoBulkEntry {H : Type} : Lit × DataW H → Nat
  | (.string bytes, d) => bytes.length + uptoBulk d + 1
  | (_, d) => uptoBulk d + 1
 end
def uptoSmall : (H : Type) → List (DataW H) → Bool := fun _ ds => decide (uptoBulkAll ds ≤ 1048576)
def OpenSpec.upto (s : _root_.Go.ChangeSpec) : _root_.Go.OpenSpec := { _root_.Go.OpenSpec.ofChange s with cond := some uptoSmall }

/-- 'causewaylaw05.PointsOne', WHERE WHAT IT READS IS OF BULK AT MOST 1048576: true; the input reads as it did. -/
def pointsOneUptoRow : OpenClaim := { program := "ytebaoemoeckgaaa", sum := "bfe3ddb818dcf9e76ce9d7a8f4fba082cda893153e4c2945d1755019e401de25", func := "causeway/causewaylaw05.PointsOne", spec := "pointsOne", inPlace := ["math/bits.Sub64", "math/bits.Add64"], unfollowed := true, recurses := true, apart := false, narrowed := true }
def PointsOneUptoSaid : Prop := pointsOneUptoRow.holds Try.pinned (OpenSpec.upto pointsOneSpec)

/-- 'causewaylaw05.PointsReadOne', WHERE WHAT IT READS IS OF BULK AT MOST 1048576: true; the input reads as it did. -/
def pointsReadOneUptoRow : OpenClaim := { program := "ytebaoemoeckgaaa", sum := "bfe3ddb818dcf9e76ce9d7a8f4fba082cda893153e4c2945d1755019e401de25", func := "causeway/causewaylaw05.PointsReadOne", spec := "pointsReadOne", inPlace := ["math/bits.Sub64", "math/bits.Add64"], unfollowed := true, recurses := true, apart := false, narrowed := true }
def PointsReadOneUptoSaid : Prop := pointsReadOneUptoRow.holds Try.pinned (OpenSpec.upto pointsReadOneSpec)

/-- 'causewaylaw05.PointsTwins', WHERE WHAT IT READS IS OF BULK AT MOST 1048576: true; the input reads as it did. -/
def pointsTwinsUptoRow : OpenClaim := { program := "ytebaoemoeckgaaa", sum := "bfe3ddb818dcf9e76ce9d7a8f4fba082cda893153e4c2945d1755019e401de25", func := "causeway/causewaylaw05.PointsTwins", spec := "pointsTwins", inPlace := ["math/bits.Sub64", "math/bits.Add64"], unfollowed := true, recurses := true, apart := false, narrowed := true }
def PointsTwinsUptoSaid : Prop := pointsTwinsUptoRow.holds Try.pinned (OpenSpec.upto pointsTwinsSpec)

end Rows
end Go.Proofs.Ytebaoemoeckgaaa
