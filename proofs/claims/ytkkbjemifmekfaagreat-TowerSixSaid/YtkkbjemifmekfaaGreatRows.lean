/-
  No cell of these rows narrows 'for every input' (looked for: loops, veiled, ifaces, maps, wideKeys, modest, calm, conditions, laid).
  DERIVED. THE GIVEN ROWS OF THIS SEAT. 10 by the template 'for every input the law returns true; each argument reads behind the call as it read before'; 0 by the template 'total and deterministic' (their statements: YtkkbjemifmekfaaGreatTotals.lean).
  GIVEN WITH THE SEED: the statements are not yours to turn. If you find one false, say at which input.
  Laid BY PROGRAM, IN A SANDBOX (cutbox-rows.mjs): the forced cells as the released guide's own fill.sh prints them over the translation 87536a7603cc16d9… (all of the seat's roots in one cut). By AI agents, Wed Nov 11 2026. No macro, syntax, notation, axiom, sorry.
-/
import Derived.Test.YtkkbjemifmekfaaGreatChecked
import GoSem.Claim
import GoSem.ClaimJoined
import GoSem.ClaimMapViews
import Derived.JoinedTies
import Derived.KernelRfl
namespace Go.Proofs.YtkkbjemifmekfaaGreat
/- THE CELL 'sum', in the pinned program and in every row, IS THE sha256 OF THE DUMP (.gsa) THAT YtkkbjemifmekfaaGreatProg.lean LOADS. Nothing in Lean hashes anything: it is a label: what it is worth is what the hold of that sum in a sandbox is worth. -/
noncomputable def Tryz.pinned : Pinned := { name := "ytkkbjemifmekfaagreat", sum := "87536a7603cc16d9349a3db89f4f3793af6f8bae7f9269a64c3236bf325150a5", checked := Tryz.checked }
namespace Rows
def none {H : Type} : Left H := { results := [], args := [] }

/-- 'causewaylaw03.TowerTwo': WHATEVER THE INPUT: true; the input reads as it did. -/
def towerTwoSpec : ChangeSpec := { name := "towerTwo", fn := fun _ => fun
  | [d1, d2] => { results := [.lit (.bool true)], args := [d1, d2] }
  | _ => none }
def towerTwoRow : OpenClaim := { program := "ytkkbjemifmekfaagreat", sum := "87536a7603cc16d9349a3db89f4f3793af6f8bae7f9269a64c3236bf325150a5", func := "causeway/causewaylaw03.TowerTwo", spec := "towerTwo", inPlace := ["math/bits.Sub64", "math/bits.Add64"], unfollowed := true, recurses := true, named := ["math/bits.divideError", "math/bits.overflowError"], apart := false }
def TowerTwoSaid : Prop := towerTwoRow.holds Tryz.pinned (OpenSpec.ofChange towerTwoSpec)

/-- ITS FALSE NEIGHBOUR: 'it returns false'. Refute it at one input. -/
def towerTwoWrong : ChangeSpec := { name := "towerTwo", fn := fun _ => fun
  | [d1, d2] => { results := [.lit (.bool false)], args := [d1, d2] }
  | _ => none }
def TowerTwoWrongFalsely : Prop := towerTwoRow.holds Tryz.pinned (OpenSpec.ofChange towerTwoWrong)

/-- 'causewaylaw03.TowerSix': WHATEVER THE INPUT: true; the input reads as it did. -/
def towerSixSpec : ChangeSpec := { name := "towerSix", fn := fun _ => fun
  | [d1, d2] => { results := [.lit (.bool true)], args := [d1, d2] }
  | _ => none }
def towerSixRow : OpenClaim := { program := "ytkkbjemifmekfaagreat", sum := "87536a7603cc16d9349a3db89f4f3793af6f8bae7f9269a64c3236bf325150a5", func := "causeway/causewaylaw03.TowerSix", spec := "towerSix", inPlace := ["math/bits.Sub64", "math/bits.Add64"], unfollowed := true, recurses := true, named := ["math/bits.divideError", "math/bits.overflowError"], apart := false }
def TowerSixSaid : Prop := towerSixRow.holds Tryz.pinned (OpenSpec.ofChange towerSixSpec)

/-- ITS FALSE NEIGHBOUR: 'it returns false'. Refute it at one input. -/
def towerSixWrong : ChangeSpec := { name := "towerSix", fn := fun _ => fun
  | [d1, d2] => { results := [.lit (.bool false)], args := [d1, d2] }
  | _ => none }
def TowerSixWrongFalsely : Prop := towerSixRow.holds Tryz.pinned (OpenSpec.ofChange towerSixWrong)

/-- 'causewaylaw03.TowerTwelve': WHATEVER THE INPUT: true; the input reads as it did. -/
def towerTwelveSpec : ChangeSpec := { name := "towerTwelve", fn := fun _ => fun
  | [d1, d2, d3] => { results := [.lit (.bool true)], args := [d1, d2, d3] }
  | _ => none }
def towerTwelveRow : OpenClaim := { program := "ytkkbjemifmekfaagreat", sum := "87536a7603cc16d9349a3db89f4f3793af6f8bae7f9269a64c3236bf325150a5", func := "causeway/causewaylaw03.TowerTwelve", spec := "towerTwelve", inPlace := ["math/bits.Sub64", "math/bits.Add64"], unfollowed := true, recurses := true, named := ["math/bits.divideError", "math/bits.overflowError"], apart := false }
def TowerTwelveSaid : Prop := towerTwelveRow.holds Tryz.pinned (OpenSpec.ofChange towerTwelveSpec)

/-- ITS FALSE NEIGHBOUR: 'it returns false'. Refute it at one input. -/
def towerTwelveWrong : ChangeSpec := { name := "towerTwelve", fn := fun _ => fun
  | [d1, d2, d3] => { results := [.lit (.bool false)], args := [d1, d2, d3] }
  | _ => none }
def TowerTwelveWrongFalsely : Prop := towerTwelveRow.holds Tryz.pinned (OpenSpec.ofChange towerTwelveWrong)

/-- 'causewaylaw03.TowerPowers': WHATEVER THE INPUT: true; the input reads as it did. -/
def towerPowersSpec : ChangeSpec := { name := "towerPowers", fn := fun _ => fun
  | [d1, d2] => { results := [.lit (.bool true)], args := [d1, d2] }
  | _ => none }
def towerPowersRow : OpenClaim := { program := "ytkkbjemifmekfaagreat", sum := "87536a7603cc16d9349a3db89f4f3793af6f8bae7f9269a64c3236bf325150a5", func := "causeway/causewaylaw03.TowerPowers", spec := "towerPowers", inPlace := ["math/bits.Sub64", "math/bits.Add64"], unfollowed := true, recurses := true, named := ["math/bits.divideError", "math/bits.overflowError"], apart := false }
def TowerPowersSaid : Prop := towerPowersRow.holds Tryz.pinned (OpenSpec.ofChange towerPowersSpec)

/-- ITS FALSE NEIGHBOUR: 'it returns false'. Refute it at one input. -/
def towerPowersWrong : ChangeSpec := { name := "towerPowers", fn := fun _ => fun
  | [d1, d2] => { results := [.lit (.bool false)], args := [d1, d2] }
  | _ => none }
def TowerPowersWrongFalsely : Prop := towerPowersRow.holds Tryz.pinned (OpenSpec.ofChange towerPowersWrong)

/-- 'causewaylaw03.TowerCyclotomic': WHATEVER THE INPUT: true; the input reads as it did. -/
def towerCyclotomicSpec : ChangeSpec := { name := "towerCyclotomic", fn := fun _ => fun
  | [d] => { results := [.lit (.bool true)], args := [d] }
  | _ => none }
def towerCyclotomicRow : OpenClaim := { program := "ytkkbjemifmekfaagreat", sum := "87536a7603cc16d9349a3db89f4f3793af6f8bae7f9269a64c3236bf325150a5", func := "causeway/causewaylaw03.TowerCyclotomic", spec := "towerCyclotomic", inPlace := ["math/bits.Sub64", "math/bits.Add64"], unfollowed := true, recurses := true, named := ["math/bits.divideError", "math/bits.overflowError"], apart := false }
def TowerCyclotomicSaid : Prop := towerCyclotomicRow.holds Tryz.pinned (OpenSpec.ofChange towerCyclotomicSpec)

/-- ITS FALSE NEIGHBOUR: 'it returns false'. Refute it at one input. -/
def towerCyclotomicWrong : ChangeSpec := { name := "towerCyclotomic", fn := fun _ => fun
  | [d] => { results := [.lit (.bool false)], args := [d] }
  | _ => none }
def TowerCyclotomicWrongFalsely : Prop := towerCyclotomicRow.holds Tryz.pinned (OpenSpec.ofChange towerCyclotomicWrong)

/-- 'causewaylaw04.CurveFirst': WHATEVER THE INPUT: true; the input reads as it did. -/
def curveFirstSpec : ChangeSpec := { name := "curveFirst", fn := fun _ => fun
  | [d1, d2, d3] => { results := [.lit (.bool true)], args := [d1, d2, d3] }
  | _ => none }
def curveFirstRow : OpenClaim := { program := "ytkkbjemifmekfaagreat", sum := "87536a7603cc16d9349a3db89f4f3793af6f8bae7f9269a64c3236bf325150a5", func := "causeway/causewaylaw04.CurveFirst", spec := "curveFirst", inPlace := ["math/bits.Sub64", "math/bits.Add64"], unfollowed := true, recurses := true, named := ["math/bits.divideError", "math/bits.overflowError"], apart := false }
def CurveFirstSaid : Prop := curveFirstRow.holds Tryz.pinned (OpenSpec.ofChange curveFirstSpec)

/-- ITS FALSE NEIGHBOUR: 'it returns false'. Refute it at one input. -/
def curveFirstWrong : ChangeSpec := { name := "curveFirst", fn := fun _ => fun
  | [d1, d2, d3] => { results := [.lit (.bool false)], args := [d1, d2, d3] }
  | _ => none }
def CurveFirstWrongFalsely : Prop := curveFirstRow.holds Tryz.pinned (OpenSpec.ofChange curveFirstWrong)

/-- 'causewaylaw04.CurveTwist': WHATEVER THE INPUT: true; the input reads as it did. -/
def curveTwistSpec : ChangeSpec := { name := "curveTwist", fn := fun _ => fun
  | [d1, d2, d3] => { results := [.lit (.bool true)], args := [d1, d2, d3] }
  | _ => none }
def curveTwistRow : OpenClaim := { program := "ytkkbjemifmekfaagreat", sum := "87536a7603cc16d9349a3db89f4f3793af6f8bae7f9269a64c3236bf325150a5", func := "causeway/causewaylaw04.CurveTwist", spec := "curveTwist", inPlace := ["math/bits.Sub64", "math/bits.Add64"], unfollowed := true, recurses := true, named := ["math/bits.divideError", "math/bits.overflowError"], apart := false }
def CurveTwistSaid : Prop := curveTwistRow.holds Tryz.pinned (OpenSpec.ofChange curveTwistSpec)

/-- ITS FALSE NEIGHBOUR: 'it returns false'. Refute it at one input. -/
def curveTwistWrong : ChangeSpec := { name := "curveTwist", fn := fun _ => fun
  | [d1, d2, d3] => { results := [.lit (.bool false)], args := [d1, d2, d3] }
  | _ => none }
def CurveTwistWrongFalsely : Prop := curveTwistRow.holds Tryz.pinned (OpenSpec.ofChange curveTwistWrong)

/-- 'causewaylaw04.CurveMany': WHATEVER THE INPUT: true; the input reads as it did. -/
def curveManySpec : ChangeSpec := { name := "curveMany", fn := fun _ => fun
  | [d1, d2, d3] => { results := [.lit (.bool true)], args := [d1, d2, d3] }
  | _ => none }
def curveManyRow : OpenClaim := { program := "ytkkbjemifmekfaagreat", sum := "87536a7603cc16d9349a3db89f4f3793af6f8bae7f9269a64c3236bf325150a5", func := "causeway/causewaylaw04.CurveMany", spec := "curveMany", inPlace := ["math/bits.Sub64", "math/bits.Add64"], unfollowed := true, recurses := true, named := ["math/bits.divideError", "math/bits.overflowError"], apart := false }
def CurveManySaid : Prop := curveManyRow.holds Tryz.pinned (OpenSpec.ofChange curveManySpec)

/-- ITS FALSE NEIGHBOUR: 'it returns false'. Refute it at one input. -/
def curveManyWrong : ChangeSpec := { name := "curveMany", fn := fun _ => fun
  | [d1, d2, d3] => { results := [.lit (.bool false)], args := [d1, d2, d3] }
  | _ => none }
def CurveManyWrongFalsely : Prop := curveManyRow.holds Tryz.pinned (OpenSpec.ofChange curveManyWrong)

/-- 'causewaylaw04.CurveGroup': WHATEVER THE INPUT: true; the input reads as it did. -/
def curveGroupSpec : ChangeSpec := { name := "curveGroup", fn := fun _ => fun
  | [d1, d2, d3] => { results := [.lit (.bool true)], args := [d1, d2, d3] }
  | _ => none }
def curveGroupRow : OpenClaim := { program := "ytkkbjemifmekfaagreat", sum := "87536a7603cc16d9349a3db89f4f3793af6f8bae7f9269a64c3236bf325150a5", func := "causeway/causewaylaw04.CurveGroup", spec := "curveGroup", inPlace := ["math/bits.Sub64", "math/bits.Add64"], unfollowed := true, recurses := true, named := ["math/bits.divideError", "math/bits.overflowError"], apart := false }
def CurveGroupSaid : Prop := curveGroupRow.holds Tryz.pinned (OpenSpec.ofChange curveGroupSpec)

/-- ITS FALSE NEIGHBOUR: 'it returns false'. Refute it at one input. -/
def curveGroupWrong : ChangeSpec := { name := "curveGroup", fn := fun _ => fun
  | [d1, d2, d3] => { results := [.lit (.bool false)], args := [d1, d2, d3] }
  | _ => none }
def CurveGroupWrongFalsely : Prop := curveGroupRow.holds Tryz.pinned (OpenSpec.ofChange curveGroupWrong)

/-- 'causewaylaw04.CurvePsi': WHATEVER THE INPUT: true; the input reads as it did. -/
def curvePsiSpec : ChangeSpec := { name := "curvePsi", fn := fun _ => fun
  | [d1, d2] => { results := [.lit (.bool true)], args := [d1, d2] }
  | _ => none }
def curvePsiRow : OpenClaim := { program := "ytkkbjemifmekfaagreat", sum := "87536a7603cc16d9349a3db89f4f3793af6f8bae7f9269a64c3236bf325150a5", func := "causeway/causewaylaw04.CurvePsi", spec := "curvePsi", inPlace := ["math/bits.Sub64", "math/bits.Add64"], unfollowed := true, recurses := true, named := ["math/bits.divideError", "math/bits.overflowError"], apart := false }
def CurvePsiSaid : Prop := curvePsiRow.holds Tryz.pinned (OpenSpec.ofChange curvePsiSpec)

/-- ITS FALSE NEIGHBOUR: 'it returns false'. Refute it at one input. -/
def curvePsiWrong : ChangeSpec := { name := "curvePsi", fn := fun _ => fun
  | [d1, d2] => { results := [.lit (.bool false)], args := [d1, d2] }
  | _ => none }
def CurvePsiWrongFalsely : Prop := curvePsiRow.holds Tryz.pinned (OpenSpec.ofChange curvePsiWrong)

/- THE SECOND FORM. 'bulk': how many values and letters a reading holds, each counted each time it is reached (what is shared counts as often as it is met; a slice's spare places count too). A statement '..UptoSaid' is the law's where the arguments, and the package variables that the reading takes, are together of bulk at most 1048576: NARROWER than '..Said'. Prove '..Said' where nothing that the law and all that it calls make is longer than what came in: it says more and counts as full. Else prove '..UptoSaid'. A law counts once. -/
mutual
def uptoBulk {H : Type} : DataW H → Nat
  | .lit (.string bytes) => bytes.length + 1
  | .lit _ => 1
  | .nil => 1
  | .ptr d => uptoBulk d + 1
  | .slice elems spare => uptoBulkAll elems + uptoBulkAll spare + 1
  | .agg parts => uptoBulkAll parts + 1
  | .iface _ d => uptoBulk d + 1
  | .map entries => uptoBulkEntries entries + 1
  | .held _ => 1
def uptoBulkAll {H : Type} : List (DataW H) → Nat
  | [] => 0
  | d :: r => uptoBulk d + uptoBulkAll r
def uptoBulkEntries {H : Type} : List (Lit × DataW H) → Nat
  | [] => 0
  | x :: r => uptoBulkEntry x + uptoBulkEntries r
def uptoBulkEntry {H : Type} : Lit × DataW H → Nat
  | (.string bytes, d) => bytes.length + uptoBulk d + 1
  | (_, d) => uptoBulk d + 1
 end
def uptoSmall : (H : Type) → List (DataW H) → Bool := fun _ ds => decide (uptoBulkAll ds ≤ 1048576)
def OpenSpec.upto (s : _root_.Go.ChangeSpec) : _root_.Go.OpenSpec := { _root_.Go.OpenSpec.ofChange s with cond := some uptoSmall }

/-- 'causewaylaw03.TowerTwo', WHERE WHAT IT READS IS OF BULK AT MOST 1048576: true; the input reads as it did. -/
def towerTwoUptoRow : OpenClaim := { program := "ytkkbjemifmekfaagreat", sum := "87536a7603cc16d9349a3db89f4f3793af6f8bae7f9269a64c3236bf325150a5", func := "causeway/causewaylaw03.TowerTwo", spec := "towerTwo", inPlace := ["math/bits.Sub64", "math/bits.Add64"], unfollowed := true, recurses := true, named := ["math/bits.divideError", "math/bits.overflowError"], apart := false, narrowed := true }
def TowerTwoUptoSaid : Prop := towerTwoUptoRow.holds Tryz.pinned (OpenSpec.upto towerTwoSpec)

/-- 'causewaylaw03.TowerSix', WHERE WHAT IT READS IS OF BULK AT MOST 1048576: true; the input reads as it did. -/
def towerSixUptoRow : OpenClaim := { program := "ytkkbjemifmekfaagreat", sum := "87536a7603cc16d9349a3db89f4f3793af6f8bae7f9269a64c3236bf325150a5", func := "causeway/causewaylaw03.TowerSix", spec := "towerSix", inPlace := ["math/bits.Sub64", "math/bits.Add64"], unfollowed := true, recurses := true, named := ["math/bits.divideError", "math/bits.overflowError"], apart := false, narrowed := true }
def TowerSixUptoSaid : Prop := towerSixUptoRow.holds Tryz.pinned (OpenSpec.upto towerSixSpec)

/-- 'causewaylaw03.TowerTwelve', WHERE WHAT IT READS IS OF BULK AT MOST 1048576: true; the input reads as it did. -/
def towerTwelveUptoRow : OpenClaim := { program := "ytkkbjemifmekfaagreat", sum := "87536a7603cc16d9349a3db89f4f3793af6f8bae7f9269a64c3236bf325150a5", func := "causeway/causewaylaw03.TowerTwelve", spec := "towerTwelve", inPlace := ["math/bits.Sub64", "math/bits.Add64"], unfollowed := true, recurses := true, named := ["math/bits.divideError", "math/bits.overflowError"], apart := false, narrowed := true }
def TowerTwelveUptoSaid : Prop := towerTwelveUptoRow.holds Tryz.pinned (OpenSpec.upto towerTwelveSpec)

/-- 'causewaylaw03.TowerPowers', WHERE WHAT IT READS IS OF BULK AT MOST 1048576: true; the input reads as it did. -/
def towerPowersUptoRow : OpenClaim := { program := "ytkkbjemifmekfaagreat", sum := "87536a7603cc16d9349a3db89f4f3793af6f8bae7f9269a64c3236bf325150a5", func := "causeway/causewaylaw03.TowerPowers", spec := "towerPowers", inPlace := ["math/bits.Sub64", "math/bits.Add64"], unfollowed := true, recurses := true, named := ["math/bits.divideError", "math/bits.overflowError"], apart := false, narrowed := true }
def TowerPowersUptoSaid : Prop := towerPowersUptoRow.holds Tryz.pinned (OpenSpec.upto towerPowersSpec)

/-- 'causewaylaw03.TowerCyclotomic', WHERE WHAT IT READS IS OF BULK AT MOST 1048576: true; the input reads as it did. -/
def towerCyclotomicUptoRow : OpenClaim := { program := "ytkkbjemifmekfaagreat", sum := "87536a7603cc16d9349a3db89f4f3793af6f8bae7f9269a64c3236bf325150a5", func := "causeway/causewaylaw03.TowerCyclotomic", spec := "towerCyclotomic", inPlace := ["math/bits.Sub64", "math/bits.Add64"], unfollowed := true, recurses := true, named := ["math/bits.divideError", "math/bits.overflowError"], apart := false, narrowed := true }
def TowerCyclotomicUptoSaid : Prop := towerCyclotomicUptoRow.holds Tryz.pinned (OpenSpec.upto towerCyclotomicSpec)

/-- 'causewaylaw04.CurveFirst', WHERE WHAT IT READS IS OF BULK AT MOST 1048576: true; the input reads as it did. -/
def curveFirstUptoRow : OpenClaim := { program := "ytkkbjemifmekfaagreat", sum := "87536a7603cc16d9349a3db89f4f3793af6f8bae7f9269a64c3236bf325150a5", func := "causeway/causewaylaw04.CurveFirst", spec := "curveFirst", inPlace := ["math/bits.Sub64", "math/bits.Add64"], unfollowed := true, recurses := true, named := ["math/bits.divideError", "math/bits.overflowError"], apart := false, narrowed := true }
def CurveFirstUptoSaid : Prop := curveFirstUptoRow.holds Tryz.pinned (OpenSpec.upto curveFirstSpec)

/-- 'causewaylaw04.CurveTwist', WHERE WHAT IT READS IS OF BULK AT MOST 1048576: true; the input reads as it did. -/
def curveTwistUptoRow : OpenClaim := { program := "ytkkbjemifmekfaagreat", sum := "87536a7603cc16d9349a3db89f4f3793af6f8bae7f9269a64c3236bf325150a5", func := "causeway/causewaylaw04.CurveTwist", spec := "curveTwist", inPlace := ["math/bits.Sub64", "math/bits.Add64"], unfollowed := true, recurses := true, named := ["math/bits.divideError", "math/bits.overflowError"], apart := false, narrowed := true }
def CurveTwistUptoSaid : Prop := curveTwistUptoRow.holds Tryz.pinned (OpenSpec.upto curveTwistSpec)

/-- 'causewaylaw04.CurveMany', WHERE WHAT IT READS IS OF BULK AT MOST 1048576: true; the input reads as it did. -/
def curveManyUptoRow : OpenClaim := { program := "ytkkbjemifmekfaagreat", sum := "87536a7603cc16d9349a3db89f4f3793af6f8bae7f9269a64c3236bf325150a5", func := "causeway/causewaylaw04.CurveMany", spec := "curveMany", inPlace := ["math/bits.Sub64", "math/bits.Add64"], unfollowed := true, recurses := true, named := ["math/bits.divideError", "math/bits.overflowError"], apart := false, narrowed := true }
def CurveManyUptoSaid : Prop := curveManyUptoRow.holds Tryz.pinned (OpenSpec.upto curveManySpec)

/-- 'causewaylaw04.CurveGroup', WHERE WHAT IT READS IS OF BULK AT MOST 1048576: true; the input reads as it did. -/
def curveGroupUptoRow : OpenClaim := { program := "ytkkbjemifmekfaagreat", sum := "87536a7603cc16d9349a3db89f4f3793af6f8bae7f9269a64c3236bf325150a5", func := "causeway/causewaylaw04.CurveGroup", spec := "curveGroup", inPlace := ["math/bits.Sub64", "math/bits.Add64"], unfollowed := true, recurses := true, named := ["math/bits.divideError", "math/bits.overflowError"], apart := false, narrowed := true }
def CurveGroupUptoSaid : Prop := curveGroupUptoRow.holds Tryz.pinned (OpenSpec.upto curveGroupSpec)

/-- 'causewaylaw04.CurvePsi', WHERE WHAT IT READS IS OF BULK AT MOST 1048576: true; the input reads as it did. -/
def curvePsiUptoRow : OpenClaim := { program := "ytkkbjemifmekfaagreat", sum := "87536a7603cc16d9349a3db89f4f3793af6f8bae7f9269a64c3236bf325150a5", func := "causeway/causewaylaw04.CurvePsi", spec := "curvePsi", inPlace := ["math/bits.Sub64", "math/bits.Add64"], unfollowed := true, recurses := true, named := ["math/bits.divideError", "math/bits.overflowError"], apart := false, narrowed := true }
def CurvePsiUptoSaid : Prop := curvePsiUptoRow.holds Tryz.pinned (OpenSpec.upto curvePsiSpec)

end Rows
end Go.Proofs.YtkkbjemifmekfaaGreat
