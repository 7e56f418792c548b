/-
  No cell of these rows narrows 'for every input' (looked for: loops, veiled, ifaces, maps, wideKeys, modest, calm, conditions, laid).
  DERIVED. THE GIVEN ROWS OF THIS SEAT. 5 by the template 'for every input the law returns true; each argument reads behind the call as it read before'; 0 by the template 'total and deterministic' (their statements: YtjjnbgoepbiojaaTotals.lean).
  GIVEN WITH THE SEED: the statements are not yours to turn. If you find one false, say at which input.
  Laid BY PROGRAM, IN A SANDBOX (cutbox-rows.mjs): the forced cells as the released guide's own fill.sh prints them over the translation a6e420d8b6e7174e… (all of the seat's roots in one cut). By AI agents, Wed Nov 11 2026. No macro, syntax, notation, axiom, sorry.
-/
import Derived.Test.YtjjnbgoepbiojaaChecked
import GoSem.Claim
import GoSem.ClaimJoined
import GoSem.ClaimMapViews
import Derived.JoinedTies
import Derived.KernelRfl
namespace Go.Proofs.Ytjjnbgoepbiojaa
/- THE CELL 'sum', in the pinned program and in every row, IS THE sha256 OF THE DUMP (.gsa) THAT YtjjnbgoepbiojaaProg.lean LOADS. Nothing in Lean hashes anything: it is a label: what it is worth is what the hold of that sum in a sandbox is worth. -/
noncomputable def Try.pinned : Pinned := { name := "ytjjnbgoepbiojaa", sum := "a6e420d8b6e7174e2d66e374c41856f76ad0cb339f4ce3e0cdab359fca2c65e8", checked := Try.checked }
namespace Rows
def none {H : Type} : Left H := { results := [], args := [] }

/-- 'causewaylaw07.PolyTransforms': WHATEVER THE INPUT: true; the input reads as it did. -/
def polyTransformsSpec : ChangeSpec := { name := "polyTransforms", fn := fun _ => fun
  | [d1, d2, d3] => { results := [.lit (.bool true)], args := [d1, d2, d3] }
  | _ => none }
def polyTransformsRow : OpenClaim := { program := "ytjjnbgoepbiojaa", sum := "a6e420d8b6e7174e2d66e374c41856f76ad0cb339f4ce3e0cdab359fca2c65e8", func := "causeway/causewaylaw07.PolyTransforms", spec := "polyTransforms", inPlace := ["math/bits.Sub64", "math/bits.Add64"], unfollowed := true, recurses := true, apart := false }
def PolyTransformsSaid : Prop := polyTransformsRow.holds Try.pinned (OpenSpec.ofChange polyTransformsSpec)

/-- ITS FALSE NEIGHBOUR: 'it returns false'. Refute it at one input. -/
def polyTransformsWrong : ChangeSpec := { name := "polyTransforms", fn := fun _ => fun
  | [d1, d2, d3] => { results := [.lit (.bool false)], args := [d1, d2, d3] }
  | _ => none }
def PolyTransformsWrongFalsely : Prop := polyTransformsRow.holds Try.pinned (OpenSpec.ofChange polyTransformsWrong)

/-- 'causewaylaw07.PolyDivides': WHATEVER THE INPUT: true; the input reads as it did. -/
def polyDividesSpec : ChangeSpec := { name := "polyDivides", fn := fun _ => fun
  | [d1, d2, d3] => { results := [.lit (.bool true)], args := [d1, d2, d3] }
  | _ => none }
def polyDividesRow : OpenClaim := { program := "ytjjnbgoepbiojaa", sum := "a6e420d8b6e7174e2d66e374c41856f76ad0cb339f4ce3e0cdab359fca2c65e8", func := "causeway/causewaylaw07.PolyDivides", spec := "polyDivides", inPlace := ["math/bits.Sub64", "math/bits.Add64"], unfollowed := true, recurses := true, apart := false }
def PolyDividesSaid : Prop := polyDividesRow.holds Try.pinned (OpenSpec.ofChange polyDividesSpec)

/-- ITS FALSE NEIGHBOUR: 'it returns false'. Refute it at one input. -/
def polyDividesWrong : ChangeSpec := { name := "polyDivides", fn := fun _ => fun
  | [d1, d2, d3] => { results := [.lit (.bool false)], args := [d1, d2, d3] }
  | _ => none }
def PolyDividesWrongFalsely : Prop := polyDividesRow.holds Try.pinned (OpenSpec.ofChange polyDividesWrong)

/-- 'causewaylaw07.PolyBasis': WHATEVER THE INPUT: true; the input reads as it did. -/
def polyBasisSpec : ChangeSpec := { name := "polyBasis", fn := fun _ => fun
  | [d1, d2, d3, d4] => { results := [.lit (.bool true)], args := [d1, d2, d3, d4] }
  | _ => none }
def polyBasisRow : OpenClaim := { program := "ytjjnbgoepbiojaa", sum := "a6e420d8b6e7174e2d66e374c41856f76ad0cb339f4ce3e0cdab359fca2c65e8", func := "causeway/causewaylaw07.PolyBasis", spec := "polyBasis", inPlace := ["math/bits.Sub64", "math/bits.Add64"], unfollowed := true, recurses := true, apart := false }
def PolyBasisSaid : Prop := polyBasisRow.holds Try.pinned (OpenSpec.ofChange polyBasisSpec)

/-- ITS FALSE NEIGHBOUR: 'it returns false'. Refute it at one input. -/
def polyBasisWrong : ChangeSpec := { name := "polyBasis", fn := fun _ => fun
  | [d1, d2, d3, d4] => { results := [.lit (.bool false)], args := [d1, d2, d3, d4] }
  | _ => none }
def PolyBasisWrongFalsely : Prop := polyBasisRow.holds Try.pinned (OpenSpec.ofChange polyBasisWrong)

/-- 'causewaylaw07.PolyBack': WHATEVER THE INPUT: true; the input reads as it did. -/
def polyBackSpec : ChangeSpec := { name := "polyBack", fn := fun _ => fun
  | [d1, d2, d3, d4, d5] => { results := [.lit (.bool true)], args := [d1, d2, d3, d4, d5] }
  | _ => none }
def polyBackRow : OpenClaim := { program := "ytjjnbgoepbiojaa", sum := "a6e420d8b6e7174e2d66e374c41856f76ad0cb339f4ce3e0cdab359fca2c65e8", func := "causeway/causewaylaw07.PolyBack", spec := "polyBack", inPlace := ["math/bits.Sub64", "math/bits.Add64"], unfollowed := true, recurses := true, apart := false }
def PolyBackSaid : Prop := polyBackRow.holds Try.pinned (OpenSpec.ofChange polyBackSpec)

/-- ITS FALSE NEIGHBOUR: 'it returns false'. Refute it at one input. -/
def polyBackWrong : ChangeSpec := { name := "polyBack", fn := fun _ => fun
  | [d1, d2, d3, d4, d5] => { results := [.lit (.bool false)], args := [d1, d2, d3, d4, d5] }
  | _ => none }
def PolyBackWrongFalsely : Prop := polyBackRow.holds Try.pinned (OpenSpec.ofChange polyBackWrong)

/-- 'causewaylaw07.PolyLagrange': WHATEVER THE INPUT: true; the input reads as it did. -/
def polyLagrangeSpec : ChangeSpec := { name := "polyLagrange", fn := fun _ => fun
  | [d1, d2, d3] => { results := [.lit (.bool true)], args := [d1, d2, d3] }
  | _ => none }
def polyLagrangeRow : OpenClaim := { program := "ytjjnbgoepbiojaa", sum := "a6e420d8b6e7174e2d66e374c41856f76ad0cb339f4ce3e0cdab359fca2c65e8", func := "causeway/causewaylaw07.PolyLagrange", spec := "polyLagrange", inPlace := ["math/bits.Sub64", "math/bits.Add64"], unfollowed := true, recurses := true, apart := false }
def PolyLagrangeSaid : Prop := polyLagrangeRow.holds Try.pinned (OpenSpec.ofChange polyLagrangeSpec)

/-- ITS FALSE NEIGHBOUR: 'it returns false'. Refute it at one input. -/
def polyLagrangeWrong : ChangeSpec := { name := "polyLagrange", fn := fun _ => fun
  | [d1, d2, d3] => { results := [.lit (.bool false)], args := [d1, d2, d3] }
  | _ => none }
def PolyLagrangeWrongFalsely : Prop := polyLagrangeRow.holds Try.pinned (OpenSpec.ofChange polyLagrangeWrong)

/- THE SECOND FORM. 'bulk': how many values and letters a reading holds, each counted each time it is reached (what is shared counts as often as it is met; a slice's spare places count too). A statement '..UptoSaid' is the law's where the arguments, and the package variables that the reading takes, are together of bulk at most 1048576: NARROWER than '..Said'. Prove '..Said' where nothing that the law and all that it calls make is longer than what came in: it says more and counts as full. Else prove '..UptoSaid'. A law counts once. -/
mutual
def uptoBulk {H : Type} : DataW H → Nat
  | .lit (.string bytes) => bytes.length + 1
  | .lit _ => 1
  | .nil => 1
  | .ptr d => uptoBulk d + 1
  | .slice elems spare => uptoBulkAll elems + uptoBulkAll spare + 1
  | .agg parts => uptoBulkAll parts + 1
  | .iface _ d => uptoBulk d + 1
  | .map entries => uptoBulkEntries entries + 1
  | .held _ => 1
def uptoBulkAll {H : Type} : List (DataW H) → Nat
  | [] => 0
  | d :: r => uptoBulk d + uptoBulkAll r
def uptoBulkEntries {H : Type} : List (Lit × DataW H) → Nat
  | [] => 0
  | x :: r => uptoBulkEntry x + uptoBulkEntries r
def uptoBulkEntry {H : Type} : Lit × DataW H → Nat
  | (.string bytes, d) => bytes.length + uptoBulk d + 1
  | (_, d) => uptoBulk d + 1
 end
def uptoSmall : (H : Type) → List (DataW H) → Bool := fun _ ds => decide (uptoBulkAll ds ≤ 1048576)
def OpenSpec.upto (s : _root_.Go.ChangeSpec) : _root_.Go.OpenSpec := { _root_.Go.OpenSpec.ofChange s with cond := some uptoSmall }

/-- 'causewaylaw07.PolyTransforms', WHERE WHAT IT READS IS OF BULK AT MOST 1048576: true; the input reads as it did. -/
def polyTransformsUptoRow : OpenClaim := { program := "ytjjnbgoepbiojaa", sum := "a6e420d8b6e7174e2d66e374c41856f76ad0cb339f4ce3e0cdab359fca2c65e8", func := "causeway/causewaylaw07.PolyTransforms", spec := "polyTransforms", inPlace := ["math/bits.Sub64", "math/bits.Add64"], unfollowed := true, recurses := true, apart := false, narrowed := true }
def PolyTransformsUptoSaid : Prop := polyTransformsUptoRow.holds Try.pinned (OpenSpec.upto polyTransformsSpec)

/-- 'causewaylaw07.PolyDivides', WHERE WHAT IT READS IS OF BULK AT MOST 1048576: true; the input reads as it did. -/
def polyDividesUptoRow : OpenClaim := { program := "ytjjnbgoepbiojaa", sum := "a6e420d8b6e7174e2d66e374c41856f76ad0cb339f4ce3e0cdab359fca2c65e8", func := "causeway/causewaylaw07.PolyDivides", spec := "polyDivides", inPlace := ["math/bits.Sub64", "math/bits.Add64"], unfollowed := true, recurses := true, apart := false, narrowed := true }
def PolyDividesUptoSaid : Prop := polyDividesUptoRow.holds Try.pinned (OpenSpec.upto polyDividesSpec)

/-- 'causewaylaw07.PolyBasis', WHERE WHAT IT READS IS OF BULK AT MOST 1048576: true; the input reads as it did. -/
def polyBasisUptoRow : OpenClaim := { program := "ytjjnbgoepbiojaa", sum := "a6e420d8b6e7174e2d66e374c41856f76ad0cb339f4ce3e0cdab359fca2c65e8", func := "causeway/causewaylaw07.PolyBasis", spec := "polyBasis", inPlace := ["math/bits.Sub64", "math/bits.Add64"], unfollowed := true, recurses := true, apart := false, narrowed := true }
def PolyBasisUptoSaid : Prop := polyBasisUptoRow.holds Try.pinned (OpenSpec.upto polyBasisSpec)

/-- 'causewaylaw07.PolyBack', WHERE WHAT IT READS IS OF BULK AT MOST 1048576: true; the input reads as it did. -/
def polyBackUptoRow : OpenClaim := { program := "ytjjnbgoepbiojaa", sum := "a6e420d8b6e7174e2d66e374c41856f76ad0cb339f4ce3e0cdab359fca2c65e8", func := "causeway/causewaylaw07.PolyBack", spec := "polyBack", inPlace := ["math/bits.Sub64", "math/bits.Add64"], unfollowed := true, recurses := true, apart := false, narrowed := true }
def PolyBackUptoSaid : Prop := polyBackUptoRow.holds Try.pinned (OpenSpec.upto polyBackSpec)

/-- 'causewaylaw07.PolyLagrange', WHERE WHAT IT READS IS OF BULK AT MOST 1048576: true; the input reads as it did. -/
def polyLagrangeUptoRow : OpenClaim := { program := "ytjjnbgoepbiojaa", sum := "a6e420d8b6e7174e2d66e374c41856f76ad0cb339f4ce3e0cdab359fca2c65e8", func := "causeway/causewaylaw07.PolyLagrange", spec := "polyLagrange", inPlace := ["math/bits.Sub64", "math/bits.Add64"], unfollowed := true, recurses := true, apart := false, narrowed := true }
def PolyLagrangeUptoSaid : Prop := polyLagrangeUptoRow.holds Try.pinned (OpenSpec.upto polyLagrangeSpec)

end Rows
end Go.Proofs.Ytjjnbgoepbiojaa
