/-
  No cell of these rows narrows 'for every input' (looked for: loops, veiled, ifaces, maps, wideKeys, modest, calm, conditions, laid).
  DERIVED. THE GIVEN ROWS OF THIS SEAT. 7 by the template 'for every input the law returns true; each argument reads behind the call as it read before'; 0 by the template 'total and deterministic' (their statements: YthlcjdcjnioeoaaGreatTotals.lean).
  GIVEN WITH THE SEED: the statements are not yours to turn. If you find one false, say at which input.
  Laid BY PROGRAM, IN A SANDBOX (cutbox-rows.mjs): the forced cells as the released guide's own fill.sh prints them over the translation a530bfd4711f01df… (all of the seat's roots in one cut). By AI agents, Wed Nov 11 2026. No macro, syntax, notation, axiom, sorry.
-/
import Derived.Test.YthlcjdcjnioeoaaGreatChecked
import GoSem.Claim
import GoSem.ClaimJoined
import GoSem.ClaimMapViews
import Derived.JoinedTies
import Derived.KernelRfl
namespace Go.Proofs.YthlcjdcjnioeoaaGreat
/- THE CELL 'sum', in the pinned program and in every row, IS THE sha256 OF THE DUMP (.gsa) THAT YthlcjdcjnioeoaaGreatProg.lean LOADS. Nothing in Lean hashes anything: it is a label: what it is worth is what the hold of that sum in a sandbox is worth. -/
noncomputable def Tryz.pinned : Pinned := { name := "ythlcjdcjnioeoaagreat", sum := "a530bfd4711f01df974452de0ba83d6b769c9a1fc1c7bde3598c15ffb7c581af", checked := Tryz.checked }
namespace Rows
def none {H : Type} : Left H := { results := [], args := [] }

/-- 'causewaylaw04.CurveFirst': WHATEVER THE INPUT: true; the input reads as it did. -/
def curveFirstSpec : ChangeSpec := { name := "curveFirst", fn := fun _ => fun
  | [d1, d2, d3] => { results := [.lit (.bool true)], args := [d1, d2, d3] }
  | _ => none }
def curveFirstRow : OpenClaim := { program := "ythlcjdcjnioeoaagreat", sum := "a530bfd4711f01df974452de0ba83d6b769c9a1fc1c7bde3598c15ffb7c581af", func := "causeway/causewaylaw04.CurveFirst", spec := "curveFirst", inPlace := ["math/bits.Sub64", "math/bits.Add64"], unfollowed := true, recurses := true, named := ["math/bits.divideError", "math/bits.overflowError"], apart := false }
def CurveFirstSaid : Prop := curveFirstRow.holds Tryz.pinned (OpenSpec.ofChange curveFirstSpec)

/-- ITS FALSE NEIGHBOUR: 'it returns false'. Refute it at one input. -/
def curveFirstWrong : ChangeSpec := { name := "curveFirst", fn := fun _ => fun
  | [d1, d2, d3] => { results := [.lit (.bool false)], args := [d1, d2, d3] }
  | _ => none }
def CurveFirstWrongFalsely : Prop := curveFirstRow.holds Tryz.pinned (OpenSpec.ofChange curveFirstWrong)

/-- 'causewaylaw04.CurveTwist': WHATEVER THE INPUT: true; the input reads as it did. -/
def curveTwistSpec : ChangeSpec := { name := "curveTwist", fn := fun _ => fun
  | [d1, d2, d3] => { results := [.lit (.bool true)], args := [d1, d2, d3] }
  | _ => none }
def curveTwistRow : OpenClaim := { program := "ythlcjdcjnioeoaagreat", sum := "a530bfd4711f01df974452de0ba83d6b769c9a1fc1c7bde3598c15ffb7c581af", func := "causeway/causewaylaw04.CurveTwist", spec := "curveTwist", inPlace := ["math/bits.Sub64", "math/bits.Add64"], unfollowed := true, recurses := true, named := ["math/bits.divideError", "math/bits.overflowError"], apart := false }
def CurveTwistSaid : Prop := curveTwistRow.holds Tryz.pinned (OpenSpec.ofChange curveTwistSpec)

/-- ITS FALSE NEIGHBOUR: 'it returns false'. Refute it at one input. -/
def curveTwistWrong : ChangeSpec := { name := "curveTwist", fn := fun _ => fun
  | [d1, d2, d3] => { results := [.lit (.bool false)], args := [d1, d2, d3] }
  | _ => none }
def CurveTwistWrongFalsely : Prop := curveTwistRow.holds Tryz.pinned (OpenSpec.ofChange curveTwistWrong)

/-- 'causewaylaw04.CurveMany': WHATEVER THE INPUT: true; the input reads as it did. -/
def curveManySpec : ChangeSpec := { name := "curveMany", fn := fun _ => fun
  | [d1, d2, d3] => { results := [.lit (.bool true)], args := [d1, d2, d3] }
  | _ => none }
def curveManyRow : OpenClaim := { program := "ythlcjdcjnioeoaagreat", sum := "a530bfd4711f01df974452de0ba83d6b769c9a1fc1c7bde3598c15ffb7c581af", func := "causeway/causewaylaw04.CurveMany", spec := "curveMany", inPlace := ["math/bits.Sub64", "math/bits.Add64"], unfollowed := true, recurses := true, named := ["math/bits.divideError", "math/bits.overflowError"], apart := false }
def CurveManySaid : Prop := curveManyRow.holds Tryz.pinned (OpenSpec.ofChange curveManySpec)

/-- ITS FALSE NEIGHBOUR: 'it returns false'. Refute it at one input. -/
def curveManyWrong : ChangeSpec := { name := "curveMany", fn := fun _ => fun
  | [d1, d2, d3] => { results := [.lit (.bool false)], args := [d1, d2, d3] }
  | _ => none }
def CurveManyWrongFalsely : Prop := curveManyRow.holds Tryz.pinned (OpenSpec.ofChange curveManyWrong)

/-- 'causewaylaw04.CurveGroup': WHATEVER THE INPUT: true; the input reads as it did. -/
def curveGroupSpec : ChangeSpec := { name := "curveGroup", fn := fun _ => fun
  | [d1, d2, d3] => { results := [.lit (.bool true)], args := [d1, d2, d3] }
  | _ => none }
def curveGroupRow : OpenClaim := { program := "ythlcjdcjnioeoaagreat", sum := "a530bfd4711f01df974452de0ba83d6b769c9a1fc1c7bde3598c15ffb7c581af", func := "causeway/causewaylaw04.CurveGroup", spec := "curveGroup", inPlace := ["math/bits.Sub64", "math/bits.Add64"], unfollowed := true, recurses := true, named := ["math/bits.divideError", "math/bits.overflowError"], apart := false }
def CurveGroupSaid : Prop := curveGroupRow.holds Tryz.pinned (OpenSpec.ofChange curveGroupSpec)

/-- ITS FALSE NEIGHBOUR: 'it returns false'. Refute it at one input. -/
def curveGroupWrong : ChangeSpec := { name := "curveGroup", fn := fun _ => fun
  | [d1, d2, d3] => { results := [.lit (.bool false)], args := [d1, d2, d3] }
  | _ => none }
def CurveGroupWrongFalsely : Prop := curveGroupRow.holds Tryz.pinned (OpenSpec.ofChange curveGroupWrong)

/-- 'causewaylaw04.CurvePsi': WHATEVER THE INPUT: true; the input reads as it did. -/
def curvePsiSpec : ChangeSpec := { name := "curvePsi", fn := fun _ => fun
  | [d1, d2] => { results := [.lit (.bool true)], args := [d1, d2] }
  | _ => none }
def curvePsiRow : OpenClaim := { program := "ythlcjdcjnioeoaagreat", sum := "a530bfd4711f01df974452de0ba83d6b769c9a1fc1c7bde3598c15ffb7c581af", func := "causeway/causewaylaw04.CurvePsi", spec := "curvePsi", inPlace := ["math/bits.Sub64", "math/bits.Add64"], unfollowed := true, recurses := true, named := ["math/bits.divideError", "math/bits.overflowError"], apart := false }
def CurvePsiSaid : Prop := curvePsiRow.holds Tryz.pinned (OpenSpec.ofChange curvePsiSpec)

/-- ITS FALSE NEIGHBOUR: 'it returns false'. Refute it at one input. -/
def curvePsiWrong : ChangeSpec := { name := "curvePsi", fn := fun _ => fun
  | [d1, d2] => { results := [.lit (.bool false)], args := [d1, d2] }
  | _ => none }
def CurvePsiWrongFalsely : Prop := curvePsiRow.holds Tryz.pinned (OpenSpec.ofChange curvePsiWrong)

/-- 'causewaylaw04.CurveProducts': WHATEVER THE INPUT: true; the input reads as it did. -/
def curveProductsSpec : ChangeSpec := { name := "curveProducts", fn := fun _ => fun
  | [d1, d2] => { results := [.lit (.bool true)], args := [d1, d2] }
  | _ => none }
def curveProductsRow : OpenClaim := { program := "ythlcjdcjnioeoaagreat", sum := "a530bfd4711f01df974452de0ba83d6b769c9a1fc1c7bde3598c15ffb7c581af", func := "causeway/causewaylaw04.CurveProducts", spec := "curveProducts", inPlace := ["math/bits.Sub64", "math/bits.Add64"], unfollowed := true, recurses := true, named := ["math/bits.divideError", "math/bits.overflowError"], apart := false }
def CurveProductsSaid : Prop := curveProductsRow.holds Tryz.pinned (OpenSpec.ofChange curveProductsSpec)

/-- ITS FALSE NEIGHBOUR: 'it returns false'. Refute it at one input. -/
def curveProductsWrong : ChangeSpec := { name := "curveProducts", fn := fun _ => fun
  | [d1, d2] => { results := [.lit (.bool false)], args := [d1, d2] }
  | _ => none }
def CurveProductsWrongFalsely : Prop := curveProductsRow.holds Tryz.pinned (OpenSpec.ofChange curveProductsWrong)

/-- 'causewaylaw05.PointsBack': WHATEVER THE INPUT: true; the input reads as it did. -/
def pointsBackSpec : ChangeSpec := { name := "pointsBack", fn := fun _ => fun
  | [d1, d2, d3] => { results := [.lit (.bool true)], args := [d1, d2, d3] }
  | _ => none }
def pointsBackRow : OpenClaim := { program := "ythlcjdcjnioeoaagreat", sum := "a530bfd4711f01df974452de0ba83d6b769c9a1fc1c7bde3598c15ffb7c581af", func := "causeway/causewaylaw05.PointsBack", spec := "pointsBack", inPlace := ["math/bits.Sub64", "math/bits.Add64"], unfollowed := true, recurses := true, named := ["math/bits.divideError", "math/bits.overflowError"], apart := false }
def PointsBackSaid : Prop := pointsBackRow.holds Tryz.pinned (OpenSpec.ofChange pointsBackSpec)

/-- ITS FALSE NEIGHBOUR: 'it returns false'. Refute it at one input. -/
def pointsBackWrong : ChangeSpec := { name := "pointsBack", fn := fun _ => fun
  | [d1, d2, d3] => { results := [.lit (.bool false)], args := [d1, d2, d3] }
  | _ => none }
def PointsBackWrongFalsely : Prop := pointsBackRow.holds Tryz.pinned (OpenSpec.ofChange pointsBackWrong)

/- THE SECOND FORM. 'bulk': how many values and letters a reading holds, each counted each time it is reached (what is shared counts as often as it is met; a slice's spare places count too). A statement '..UptoSaid' is the law's where the arguments, and the package variables that the reading takes, are together of bulk at most 1048576: NARROWER than '..Said'. Prove '..Said' where nothing that the law and all that it calls make is longer than what came in: it says more and counts as full. Else prove '..UptoSaid'. A law counts once. -/
mutual
def uptoBulk {H : Type} : DataW H → Nat
  | .lit (.string bytes) => bytes.length + 1
  | .lit _ => 1
  | .nil => 1
  | .ptr d => uptoBulk d + 1
  | .slice elems spare => uptoBulkAll elems + uptoBulkAll spare + 1
  | .agg parts => uptoBulkAll parts + 1
  | .iface _ d => uptoBulk d + 1
  | .map entries => uptoBulkEntries entries + 1
  | .held _ => 1
def uptoBulkAll {H : Type} : List (DataW H) → Nat
  | [] => 0
  | d :: r => uptoBulk d + uptoBulkAll r
def uptoBulkEntries {H : Type} : List (Lit × DataW H) → Nat
  | [] => 0
  | x :: r => uptoBulkEntry x + uptoBulkEntries r
def uptoBulkEntry {H : Type} : Lit × DataW H → Nat
  | (.string bytes, d) => bytes.length + uptoBulk d + 1
  | (_, d) => uptoBulk d + 1
 end
def uptoSmall : (H : Type) → List (DataW H) → Bool := fun _ ds => decide (uptoBulkAll ds ≤ 1048576)
def OpenSpec.upto (s : _root_.Go.ChangeSpec) : _root_.Go.OpenSpec := { _root_.Go.OpenSpec.ofChange s with cond := some uptoSmall }

/-- 'causewaylaw04.CurveFirst', WHERE WHAT IT READS IS OF BULK AT MOST 1048576: true; the input reads as it did. -/
def curveFirstUptoRow : OpenClaim := { program := "ythlcjdcjnioeoaagreat", sum := "a530bfd4711f01df974452de0ba83d6b769c9a1fc1c7bde3598c15ffb7c581af", func := "causeway/causewaylaw04.CurveFirst", spec := "curveFirst", inPlace := ["math/bits.Sub64", "math/bits.Add64"], unfollowed := true, recurses := true, named := ["math/bits.divideError", "math/bits.overflowError"], apart := false, narrowed := true }
def CurveFirstUptoSaid : Prop := curveFirstUptoRow.holds Tryz.pinned (OpenSpec.upto curveFirstSpec)

/-- 'causewaylaw04.CurveTwist', WHERE WHAT IT READS IS OF BULK AT MOST 1048576: true; the input reads as it did. -/
def curveTwistUptoRow : OpenClaim := { program := "ythlcjdcjnioeoaagreat", sum := "a530bfd4711f01df974452de0ba83d6b769c9a1fc1c7bde3598c15ffb7c581af", func := "causeway/causewaylaw04.CurveTwist", spec := "curveTwist", inPlace := ["math/bits.Sub64", "math/bits.Add64"], unfollowed := true, recurses := true, named := ["math/bits.divideError", "math/bits.overflowError"], apart := false, narrowed := true }
def CurveTwistUptoSaid : Prop := curveTwistUptoRow.holds Tryz.pinned (OpenSpec.upto curveTwistSpec)

/-- 'causewaylaw04.CurveMany', WHERE WHAT IT READS IS OF BULK AT MOST 1048576: true; the input reads as it did. -/
def curveManyUptoRow : OpenClaim := { program := "ythlcjdcjnioeoaagreat", sum := "a530bfd4711f01df974452de0ba83d6b769c9a1fc1c7bde3598c15ffb7c581af", func := "causeway/causewaylaw04.CurveMany", spec := "curveMany", inPlace := ["math/bits.Sub64", "math/bits.Add64"], unfollowed := true, recurses := true, named := ["math/bits.divideError", "math/bits.overflowError"], apart := false, narrowed := true }
def CurveManyUptoSaid : Prop := curveManyUptoRow.holds Tryz.pinned (OpenSpec.upto curveManySpec)

/-- 'causewaylaw04.CurveGroup', WHERE WHAT IT READS IS OF BULK AT MOST 1048576: true; the input reads as it did. -/
def curveGroupUptoRow : OpenClaim := { program := "ythlcjdcjnioeoaagreat", sum := "a530bfd4711f01df974452de0ba83d6b769c9a1fc1c7bde3598c15ffb7c581af", func := "causeway/causewaylaw04.CurveGroup", spec := "curveGroup", inPlace := ["math/bits.Sub64", "math/bits.Add64"], unfollowed := true, recurses := true, named := ["math/bits.divideError", "math/bits.overflowError"], apart := false, narrowed := true }
def CurveGroupUptoSaid : Prop := curveGroupUptoRow.holds Tryz.pinned (OpenSpec.upto curveGroupSpec)

/-- 'causewaylaw04.CurvePsi', WHERE WHAT IT READS IS OF BULK AT MOST 1048576: true; the input reads as it did. -/
def curvePsiUptoRow : OpenClaim := { program := "ythlcjdcjnioeoaagreat", sum := "a530bfd4711f01df974452de0ba83d6b769c9a1fc1c7bde3598c15ffb7c581af", func := "causeway/causewaylaw04.CurvePsi", spec := "curvePsi", inPlace := ["math/bits.Sub64", "math/bits.Add64"], unfollowed := true, recurses := true, named := ["math/bits.divideError", "math/bits.overflowError"], apart := false, narrowed := true }
def CurvePsiUptoSaid : Prop := curvePsiUptoRow.holds Tryz.pinned (OpenSpec.upto curvePsiSpec)

/-- 'causewaylaw04.CurveProducts', WHERE WHAT IT READS IS OF BULK AT MOST 1048576: true; the input reads as it did. -/
def curveProductsUptoRow : OpenClaim := { program := "ythlcjdcjnioeoaagreat", sum := "a530bfd4711f01df974452de0ba83d6b769c9a1fc1c7bde3598c15ffb7c581af", func := "causeway/causewaylaw04.CurveProducts", spec := "curveProducts", inPlace := ["math/bits.Sub64", "math/bits.Add64"], unfollowed := true, recurses := true, named := ["math/bits.divideError", "math/bits.overflowError"], apart := false, narrowed := true }
def CurveProductsUptoSaid : Prop := curveProductsUptoRow.holds Tryz.pinned (OpenSpec.upto curveProductsSpec)

/-- 'causewaylaw05.PointsBack', WHERE WHAT IT READS IS OF BULK AT MOST 1048576: true; the input reads as it did. -/
def pointsBackUptoRow : OpenClaim := { program := "ythlcjdcjnioeoaagreat", sum := "a530bfd4711f01df974452de0ba83d6b769c9a1fc1c7bde3598c15ffb7c581af", func := "causeway/causewaylaw05.PointsBack", spec := "pointsBack", inPlace := ["math/bits.Sub64", "math/bits.Add64"], unfollowed := true, recurses := true, named := ["math/bits.divideError", "math/bits.overflowError"], apart := false, narrowed := true }
def PointsBackUptoSaid : Prop := pointsBackUptoRow.holds Tryz.pinned (OpenSpec.upto pointsBackSpec)

end Rows
end Go.Proofs.YthlcjdcjnioeoaaGreat
