/-
  No cell of these rows narrows 'for every input' (looked for: loops, veiled, ifaces, maps, wideKeys, modest, calm, conditions, laid).
  DERIVED. THE GIVEN ROWS OF THIS SEAT. 4 by the template 'for every input the law returns true; each argument reads behind the call as it read before'; 0 by the template 'total and deterministic' (their statements: YtjeplinbleofnaaTotals.lean).
  GIVEN WITH THE SEED: the statements are not yours to turn. If you find one false, say at which input.
  Laid BY PROGRAM, IN A SANDBOX (cutbox-rows.mjs): the forced cells as the released guide's own fill.sh prints them over the translation 18a052f176c99df8… (all of the seat's roots in one cut). By AI agents, Wed Nov 11 2026. No macro, syntax, notation, axiom, sorry.
-/
import Derived.Test.YtjeplinbleofnaaChecked
import GoSem.Claim
import GoSem.ClaimJoined
import GoSem.ClaimMapViews
import Derived.JoinedTies
import Derived.KernelRfl
namespace Go.Proofs.Ytjeplinbleofnaa
/- THE CELL 'sum', in the pinned program and in every row, IS THE sha256 OF THE DUMP (.gsa) THAT YtjeplinbleofnaaProg.lean LOADS. Nothing in Lean hashes anything: it is a label: what it is worth is what the hold of that sum in a sandbox is worth. -/
noncomputable def Try.pinned : Pinned := { name := "ytjeplinbleofnaa", sum := "18a052f176c99df87b13e5406482416a87b931f0cd69d5221e40f56deaacb54d", checked := Try.checked }
namespace Rows
def none {H : Type} : Left H := { results := [], args := [] }

/-- 'causewaylaw11.JubjubPoints': WHATEVER THE INPUT: true; the input reads as it did. -/
def jubjubPointsSpec : ChangeSpec := { name := "jubjubPoints", fn := fun _ => fun
  | [d1, d2, d3] => { results := [.lit (.bool true)], args := [d1, d2, d3] }
  | _ => none }
def jubjubPointsRow : OpenClaim := { program := "ytjeplinbleofnaa", sum := "18a052f176c99df87b13e5406482416a87b931f0cd69d5221e40f56deaacb54d", func := "causeway/causewaylaw11.JubjubPoints", spec := "jubjubPoints", inPlace := ["math/bits.Sub64", "math/bits.Add64"], apart := false }
def JubjubPointsSaid : Prop := jubjubPointsRow.holds Try.pinned (OpenSpec.ofChange jubjubPointsSpec)

/-- ITS FALSE NEIGHBOUR: 'it returns false'. Refute it at one input. -/
def jubjubPointsWrong : ChangeSpec := { name := "jubjubPoints", fn := fun _ => fun
  | [d1, d2, d3] => { results := [.lit (.bool false)], args := [d1, d2, d3] }
  | _ => none }
def JubjubPointsWrongFalsely : Prop := jubjubPointsRow.holds Try.pinned (OpenSpec.ofChange jubjubPointsWrong)

/-- 'causewaylaw11.JubjubGroup': WHATEVER THE INPUT: true; the input reads as it did. -/
def jubjubGroupSpec : ChangeSpec := { name := "jubjubGroup", fn := fun _ => fun
  | [d1, d2, d3] => { results := [.lit (.bool true)], args := [d1, d2, d3] }
  | _ => none }
def jubjubGroupRow : OpenClaim := { program := "ytjeplinbleofnaa", sum := "18a052f176c99df87b13e5406482416a87b931f0cd69d5221e40f56deaacb54d", func := "causeway/causewaylaw11.JubjubGroup", spec := "jubjubGroup", inPlace := ["math/bits.Sub64", "math/bits.Add64"], apart := false }
def JubjubGroupSaid : Prop := jubjubGroupRow.holds Try.pinned (OpenSpec.ofChange jubjubGroupSpec)

/-- ITS FALSE NEIGHBOUR: 'it returns false'. Refute it at one input. -/
def jubjubGroupWrong : ChangeSpec := { name := "jubjubGroup", fn := fun _ => fun
  | [d1, d2, d3] => { results := [.lit (.bool false)], args := [d1, d2, d3] }
  | _ => none }
def JubjubGroupWrongFalsely : Prop := jubjubGroupRow.holds Try.pinned (OpenSpec.ofChange jubjubGroupWrong)

/-- 'causewaylaw11.JubjubMultiples': WHATEVER THE INPUT: true; the input reads as it did. -/
def jubjubMultiplesSpec : ChangeSpec := { name := "jubjubMultiples", fn := fun _ => fun
  | [d1, d2, d3] => { results := [.lit (.bool true)], args := [d1, d2, d3] }
  | _ => none }
def jubjubMultiplesRow : OpenClaim := { program := "ytjeplinbleofnaa", sum := "18a052f176c99df87b13e5406482416a87b931f0cd69d5221e40f56deaacb54d", func := "causeway/causewaylaw11.JubjubMultiples", spec := "jubjubMultiples", inPlace := ["math/bits.Sub64", "math/bits.Add64"], apart := false }
def JubjubMultiplesSaid : Prop := jubjubMultiplesRow.holds Try.pinned (OpenSpec.ofChange jubjubMultiplesSpec)

/-- ITS FALSE NEIGHBOUR: 'it returns false'. Refute it at one input. -/
def jubjubMultiplesWrong : ChangeSpec := { name := "jubjubMultiples", fn := fun _ => fun
  | [d1, d2, d3] => { results := [.lit (.bool false)], args := [d1, d2, d3] }
  | _ => none }
def JubjubMultiplesWrongFalsely : Prop := jubjubMultiplesRow.holds Try.pinned (OpenSpec.ofChange jubjubMultiplesWrong)

/-- 'causewaylaw11.JubjubBack': WHATEVER THE INPUT: true; the input reads as it did. -/
def jubjubBackSpec : ChangeSpec := { name := "jubjubBack", fn := fun _ => fun
  | [d1, d2] => { results := [.lit (.bool true)], args := [d1, d2] }
  | _ => none }
def jubjubBackRow : OpenClaim := { program := "ytjeplinbleofnaa", sum := "18a052f176c99df87b13e5406482416a87b931f0cd69d5221e40f56deaacb54d", func := "causeway/causewaylaw11.JubjubBack", spec := "jubjubBack", inPlace := ["math/bits.Sub64", "math/bits.Add64"], apart := false }
def JubjubBackSaid : Prop := jubjubBackRow.holds Try.pinned (OpenSpec.ofChange jubjubBackSpec)

/-- ITS FALSE NEIGHBOUR: 'it returns false'. Refute it at one input. -/
def jubjubBackWrong : ChangeSpec := { name := "jubjubBack", fn := fun _ => fun
  | [d1, d2] => { results := [.lit (.bool false)], args := [d1, d2] }
  | _ => none }
def JubjubBackWrongFalsely : Prop := jubjubBackRow.holds Try.pinned (OpenSpec.ofChange jubjubBackWrong)

/- THE SECOND FORM. 'bulk': how many values and letters a reading holds, each counted each time it is reached (what is shared counts as often as it is met; a slice's spare places count too). A statement '..UptoSaid' is the law's where the arguments, and the package variables that the reading takes, are together of bulk at most 1048576: NARROWER than '..Said'. Prove '..Said' where nothing that the law and all that it calls make is longer than what came in: it says more and counts as full. Else prove '..UptoSaid'. A law counts once. -/
mutual
def uptoBulk {H : Type} : DataW H → Nat
  | .lit (.string bytes) => bytes.length + 1
  | .lit _ => 1
  | .nil => 1
  | .ptr d => uptoBulk d + 1
  | .slice elems spare => uptoBulkAll elems + uptoBulkAll spare + 1
  | .agg parts => uptoBulkAll parts + 1
  | .iface _ d => uptoBulk d + 1
  | .map entries => uptoBulkEntries entries + 1
  | .held _ => 1
def uptoBulkAll {H : Type} : List (DataW H) → Nat
  | [] => 0
  | d :: r => uptoBulk d + uptoBulkAll r
def uptoBulkEntries {H : Type} : List (Lit × DataW H) → Nat
  | [] => 0
  | x :: r => uptoBulkEntry x + uptoBulkEntries r
def uptoBulkEntry {H : Type} : Lit × DataW H → Nat
  | (.string bytes, d) => bytes.length + uptoBulk d + 1
  | (_, d) => uptoBulk d + 1
 end
def uptoSmall : (H : Type) → List (DataW H) → Bool := fun _ ds => decide (uptoBulkAll ds ≤ 1048576)
def OpenSpec.upto (s : _root_.Go.ChangeSpec) : _root_.Go.OpenSpec := { _root_.Go.OpenSpec.ofChange s with cond := some uptoSmall }

/-- 'causewaylaw11.JubjubPoints', WHERE WHAT IT READS IS OF BULK AT MOST 1048576: true; the input reads as it did. -/
def jubjubPointsUptoRow : OpenClaim := { program := "ytjeplinbleofnaa", sum := "18a052f176c99df87b13e5406482416a87b931f0cd69d5221e40f56deaacb54d", func := "causeway/causewaylaw11.JubjubPoints", spec := "jubjubPoints", inPlace := ["math/bits.Sub64", "math/bits.Add64"], apart := false, narrowed := true }
def JubjubPointsUptoSaid : Prop := jubjubPointsUptoRow.holds Try.pinned (OpenSpec.upto jubjubPointsSpec)

/-- 'causewaylaw11.JubjubGroup', WHERE WHAT IT READS IS OF BULK AT MOST 1048576: true; the input reads as it did. -/
def jubjubGroupUptoRow : OpenClaim := { program := "ytjeplinbleofnaa", sum := "18a052f176c99df87b13e5406482416a87b931f0cd69d5221e40f56deaacb54d", func := "causeway/causewaylaw11.JubjubGroup", spec := "jubjubGroup", inPlace := ["math/bits.Sub64", "math/bits.Add64"], apart := false, narrowed := true }
def JubjubGroupUptoSaid : Prop := jubjubGroupUptoRow.holds Try.pinned (OpenSpec.upto jubjubGroupSpec)

/-- 'causewaylaw11.JubjubMultiples', WHERE WHAT IT READS IS OF BULK AT MOST 1048576: true; the input reads as it did. -/
def jubjubMultiplesUptoRow : OpenClaim := { program := "ytjeplinbleofnaa", sum := "18a052f176c99df87b13e5406482416a87b931f0cd69d5221e40f56deaacb54d", func := "causeway/causewaylaw11.JubjubMultiples", spec := "jubjubMultiples", inPlace := ["math/bits.Sub64", "math/bits.Add64"], apart := false, narrowed := true }
def JubjubMultiplesUptoSaid : Prop := jubjubMultiplesUptoRow.holds Try.pinned (OpenSpec.upto jubjubMultiplesSpec)

/-- 'causewaylaw11.JubjubBack', WHERE WHAT IT READS IS OF BULK AT MOST 1048576: true; the input reads as it did. -/
def jubjubBackUptoRow : OpenClaim := { program := "ytjeplinbleofnaa", sum := "18a052f176c99df87b13e5406482416a87b931f0cd69d5221e40f56deaacb54d", func := "causeway/causewaylaw11.JubjubBack", spec := "jubjubBack", inPlace := ["math/bits.Sub64", "math/bits.Add64"], apart := false, narrowed := true }
def JubjubBackUptoSaid : Prop := jubjubBackUptoRow.holds Try.pinned (OpenSpec.upto jubjubBackSpec)

end Rows
end Go.Proofs.Ytjeplinbleofnaa
