/-
  No cell of these rows narrows 'for every input' (looked for: loops, veiled, ifaces, maps, wideKeys, modest, calm, conditions, laid).
  DERIVED. THE GIVEN ROWS OF THIS SEAT. 3 by the template 'for every input the law returns true; each argument reads behind the call as it read before'; 0 by the template 'total and deterministic' (their statements: YtfnkbmlmgnadmaaGreatTotals.lean).
  GIVEN WITH THE SEED: the statements are not yours to turn. If you find one false, say at which input.
  Laid BY PROGRAM, IN A SANDBOX (cutbox-rows.mjs): the forced cells as the released guide's own fill.sh prints them over the translation 5daf2a34865e6447… (all of the seat's roots in one cut). By AI agents, Wed Nov 11 2026. No macro, syntax, notation, axiom, sorry.
-/
import Derived.Test.YtfnkbmlmgnadmaaGreatChecked
import GoSem.Claim
import GoSem.ClaimJoined
import GoSem.ClaimMapViews
import Derived.JoinedTies
import Derived.KernelRfl
namespace Go.Proofs.YtfnkbmlmgnadmaaGreat
/- THE CELL 'sum', in the pinned program and in every row, IS THE sha256 OF THE DUMP (.gsa) THAT YtfnkbmlmgnadmaaGreatProg.lean LOADS. Nothing in Lean hashes anything: it is a label: what it is worth is what the hold of that sum in a sandbox is worth. -/
noncomputable def Tryz.pinned : Pinned := { name := "ytfnkbmlmgnadmaagreat", sum := "5daf2a34865e64470131ea48279357668574b3ab12e8c109f89e4192a98699fe", checked := Tryz.checked }
namespace Rows
def none {H : Type} : Left H := { results := [], args := [] }

/-- 'causewaylaw05.PointsTwo': WHATEVER THE INPUT: true; the input reads as it did. -/
def pointsTwoSpec : ChangeSpec := { name := "pointsTwo", fn := fun _ => fun
  | [d] => { results := [.lit (.bool true)], args := [d] }
  | _ => none }
def pointsTwoRow : OpenClaim := { program := "ytfnkbmlmgnadmaagreat", sum := "5daf2a34865e64470131ea48279357668574b3ab12e8c109f89e4192a98699fe", func := "causeway/causewaylaw05.PointsTwo", spec := "pointsTwo", inPlace := ["math/bits.Sub64", "math/bits.Add64"], unfollowed := true, recurses := true, named := ["math/bits.divideError", "math/bits.overflowError"], apart := false }
def PointsTwoSaid : Prop := pointsTwoRow.holds Tryz.pinned (OpenSpec.ofChange pointsTwoSpec)

/-- ITS FALSE NEIGHBOUR: 'it returns false'. Refute it at one input. -/
def pointsTwoWrong : ChangeSpec := { name := "pointsTwo", fn := fun _ => fun
  | [d] => { results := [.lit (.bool false)], args := [d] }
  | _ => none }
def PointsTwoWrongFalsely : Prop := pointsTwoRow.holds Tryz.pinned (OpenSpec.ofChange pointsTwoWrong)

/-- 'causewaylaw05.PointsReadTwo': WHATEVER THE INPUT: true; the input reads as it did. -/
def pointsReadTwoSpec : ChangeSpec := { name := "pointsReadTwo", fn := fun _ => fun
  | [d] => { results := [.lit (.bool true)], args := [d] }
  | _ => none }
def pointsReadTwoRow : OpenClaim := { program := "ytfnkbmlmgnadmaagreat", sum := "5daf2a34865e64470131ea48279357668574b3ab12e8c109f89e4192a98699fe", func := "causeway/causewaylaw05.PointsReadTwo", spec := "pointsReadTwo", inPlace := ["math/bits.Sub64", "math/bits.Add64"], unfollowed := true, recurses := true, named := ["math/bits.divideError", "math/bits.overflowError"], apart := false }
def PointsReadTwoSaid : Prop := pointsReadTwoRow.holds Tryz.pinned (OpenSpec.ofChange pointsReadTwoSpec)

/-- ITS FALSE NEIGHBOUR: 'it returns false'. Refute it at one input. -/
def pointsReadTwoWrong : ChangeSpec := { name := "pointsReadTwo", fn := fun _ => fun
  | [d] => { results := [.lit (.bool false)], args := [d] }
  | _ => none }
def PointsReadTwoWrongFalsely : Prop := pointsReadTwoRow.holds Tryz.pinned (OpenSpec.ofChange pointsReadTwoWrong)

/-- 'causewaylaw05.PointsBack': WHATEVER THE INPUT: true; the input reads as it did. -/
def pointsBackSpec : ChangeSpec := { name := "pointsBack", fn := fun _ => fun
  | [d1, d2, d3] => { results := [.lit (.bool true)], args := [d1, d2, d3] }
  | _ => none }
def pointsBackRow : OpenClaim := { program := "ytfnkbmlmgnadmaagreat", sum := "5daf2a34865e64470131ea48279357668574b3ab12e8c109f89e4192a98699fe", func := "causeway/causewaylaw05.PointsBack", spec := "pointsBack", inPlace := ["math/bits.Sub64", "math/bits.Add64"], unfollowed := true, recurses := true, named := ["math/bits.divideError", "math/bits.overflowError"], apart := false }
def PointsBackSaid : Prop := pointsBackRow.holds Tryz.pinned (OpenSpec.ofChange pointsBackSpec)

/-- ITS FALSE NEIGHBOUR: 'it returns false'. Refute it at one input. -/
def pointsBackWrong : ChangeSpec := { name := "pointsBack", fn := fun _ => fun
  | [d1, d2, d3] => { results := [.lit (.bool false)], args := [d1, d2, d3] }
  | _ => none }
def PointsBackWrongFalsely : Prop := pointsBackRow.holds Tryz.pinned (OpenSpec.ofChange pointsBackWrong)

/- THE SECOND FORM. 'bulk': how many values and letters a reading holds, each counted each time it is reached (what is shared counts as often as it is met; a slice's spare places count too). A statement '..UptoSaid' is the law's where the arguments, and the package variables that the reading takes, are together of bulk at most 1048576: NARROWER than '..Said'. Prove '..Said' where nothing that the law and all that it calls make is longer than what came in: it says more and counts as full. Else prove '..UptoSaid'. A law counts once. -/
mutual
def uptoBulk {H : Type} : DataW H → Nat
  | .lit (.string bytes) => bytes.length + 1
  | .lit _ => 1
  | .nil => 1
  | .ptr d => uptoBulk d + 1
  | .slice elems spare => uptoBulkAll elems + uptoBulkAll spare + 1
  | .agg parts => uptoBulkAll parts + 1
  | .iface _ d => uptoBulk d + 1
  | .map entries => uptoBulkEntries entries + 1
  | .held _ => 1
def uptoBulkAll {H : Type} : List (DataW H) → Nat
  | [] => 0
  | d :: r => uptoBulk d + uptoBulkAll r
def uptoBulkEntries {H : Type} : List (Lit × DataW H) → Nat
  | [] => 0
  | x :: r => uptoBulkEntry x + uptoBulkEntries r
def uptoBulkEntry {H : Type} : Lit × DataW H → Nat
  | (.string bytes, d) => bytes.length + uptoBulk d + 1
  | (_, d) => uptoBulk d + 1
 end
def uptoSmall : (H : Type) → List (DataW H) → Bool := fun _ ds => decide (uptoBulkAll ds ≤ 1048576)
def OpenSpec.upto (s : _root_.Go.ChangeSpec) : _root_.Go.OpenSpec := { _root_.Go.OpenSpec.ofChange s with cond := some uptoSmall }

/-- 'causewaylaw05.PointsTwo', WHERE WHAT IT READS IS OF BULK AT MOST 1048576: true; the input reads as it did. -/
def pointsTwoUptoRow : OpenClaim := { program := "ytfnkbmlmgnadmaagreat", sum := "5daf2a34865e64470131ea48279357668574b3ab12e8c109f89e4192a98699fe", func := "causeway/causewaylaw05.PointsTwo", spec := "pointsTwo", inPlace := ["math/bits.Sub64", "math/bits.Add64"], unfollowed := true, recurses := true, named := ["math/bits.divideError", "math/bits.overflowError"], apart := false, narrowed := true }
def PointsTwoUptoSaid : Prop := pointsTwoUptoRow.holds Tryz.pinned (OpenSpec.upto pointsTwoSpec)

/-- 'causewaylaw05.PointsReadTwo', WHERE WHAT IT READS IS OF BULK AT MOST 1048576: true; the input reads as it did. -/
def pointsReadTwoUptoRow : OpenClaim := { program := "ytfnkbmlmgnadmaagreat", sum := "5daf2a34865e64470131ea48279357668574b3ab12e8c109f89e4192a98699fe", func := "causeway/causewaylaw05.PointsReadTwo", spec := "pointsReadTwo", inPlace := ["math/bits.Sub64", "math/bits.Add64"], unfollowed := true, recurses := true, named := ["math/bits.divideError", "math/bits.overflowError"], apart := false, narrowed := true }
def PointsReadTwoUptoSaid : Prop := pointsReadTwoUptoRow.holds Tryz.pinned (OpenSpec.upto pointsReadTwoSpec)

/-- 'causewaylaw05.PointsBack', WHERE WHAT IT READS IS OF BULK AT MOST 1048576: true; the input reads as it did. -/
def pointsBackUptoRow : OpenClaim := { program := "ytfnkbmlmgnadmaagreat", sum := "5daf2a34865e64470131ea48279357668574b3ab12e8c109f89e4192a98699fe", func := "causeway/causewaylaw05.PointsBack", spec := "pointsBack", inPlace := ["math/bits.Sub64", "math/bits.Add64"], unfollowed := true, recurses := true, named := ["math/bits.divideError", "math/bits.overflowError"], apart := false, narrowed := true }
def PointsBackUptoSaid : Prop := pointsBackUptoRow.holds Tryz.pinned (OpenSpec.upto pointsBackSpec)

end Rows
end Go.Proofs.YtfnkbmlmgnadmaaGreat
