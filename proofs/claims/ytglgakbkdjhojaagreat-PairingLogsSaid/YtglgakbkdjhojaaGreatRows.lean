/-
  No cell of these rows narrows 'for every input' (looked for: loops, veiled, ifaces, maps, wideKeys, modest, calm, conditions, laid).
  DERIVED. THE GIVEN ROWS OF THIS SEAT. 4 by the template 'for every input the law returns true; each argument reads behind the call as it read before'; 0 by the template 'total and deterministic' (their statements: YtglgakbkdjhojaaGreatTotals.lean).
  GIVEN WITH THE SEED: the statements are not yours to turn. If you find one false, say at which input.
  Laid BY PROGRAM, IN A SANDBOX (cutbox-rows.mjs): the forced cells as the released guide's own fill.sh prints them over the translation 8d9416dafa1af023… (all of the seat's roots in one cut). By AI agents, Wed Nov 11 2026. No macro, syntax, notation, axiom, sorry.
-/
import Derived.Test.YtglgakbkdjhojaaGreatChecked
import GoSem.Claim
import GoSem.ClaimJoined
import GoSem.ClaimMapViews
import Derived.JoinedTies
import Derived.KernelRfl
namespace Go.Proofs.YtglgakbkdjhojaaGreat
/- THE CELL 'sum', in the pinned program and in every row, IS THE sha256 OF THE DUMP (.gsa) THAT YtglgakbkdjhojaaGreatProg.lean LOADS. Nothing in Lean hashes anything: it is a label: what it is worth is what the hold of that sum in a sandbox is worth. -/
noncomputable def Tryz.pinned : Pinned := { name := "ytglgakbkdjhojaagreat", sum := "8d9416dafa1af023f66835af311d1bc0c8bb3d9080ec389b5e3397d791e78608", checked := Tryz.checked }
namespace Rows
def none {H : Type} : Left H := { results := [], args := [] }

/-- 'causewaylaw06.PairingLogs': WHATEVER THE INPUT: true; the input reads as it did. -/
def pairingLogsSpec : ChangeSpec := { name := "pairingLogs", fn := fun _ => fun
  | [d1, d2] => { results := [.lit (.bool true)], args := [d1, d2] }
  | _ => none }
def pairingLogsRow : OpenClaim := { program := "ytglgakbkdjhojaagreat", sum := "8d9416dafa1af023f66835af311d1bc0c8bb3d9080ec389b5e3397d791e78608", func := "causeway/causewaylaw06.PairingLogs", spec := "pairingLogs", inPlace := ["math/bits.Sub64", "math/bits.Add64"], unfollowed := true, recurses := true, named := ["math/bits.divideError", "math/bits.overflowError"], apart := false }
def PairingLogsSaid : Prop := pairingLogsRow.holds Tryz.pinned (OpenSpec.ofChange pairingLogsSpec)

/-- ITS FALSE NEIGHBOUR: 'it returns false'. Refute it at one input. -/
def pairingLogsWrong : ChangeSpec := { name := "pairingLogs", fn := fun _ => fun
  | [d1, d2] => { results := [.lit (.bool false)], args := [d1, d2] }
  | _ => none }
def PairingLogsWrongFalsely : Prop := pairingLogsRow.holds Tryz.pinned (OpenSpec.ofChange pairingLogsWrong)

/-- 'causewaylaw06.PairingSums': WHATEVER THE INPUT: true; the input reads as it did. -/
def pairingSumsSpec : ChangeSpec := { name := "pairingSums", fn := fun _ => fun
  | [d1, d2, d3] => { results := [.lit (.bool true)], args := [d1, d2, d3] }
  | _ => none }
def pairingSumsRow : OpenClaim := { program := "ytglgakbkdjhojaagreat", sum := "8d9416dafa1af023f66835af311d1bc0c8bb3d9080ec389b5e3397d791e78608", func := "causeway/causewaylaw06.PairingSums", spec := "pairingSums", inPlace := ["math/bits.Sub64", "math/bits.Add64"], unfollowed := true, recurses := true, named := ["math/bits.divideError", "math/bits.overflowError"], apart := false }
def PairingSumsSaid : Prop := pairingSumsRow.holds Tryz.pinned (OpenSpec.ofChange pairingSumsSpec)

/-- ITS FALSE NEIGHBOUR: 'it returns false'. Refute it at one input. -/
def pairingSumsWrong : ChangeSpec := { name := "pairingSums", fn := fun _ => fun
  | [d1, d2, d3] => { results := [.lit (.bool false)], args := [d1, d2, d3] }
  | _ => none }
def PairingSumsWrongFalsely : Prop := pairingSumsRow.holds Tryz.pinned (OpenSpec.ofChange pairingSumsWrong)

/-- 'causewaylaw06.PairingChecks': WHATEVER THE INPUT: true; the input reads as it did. -/
def pairingChecksSpec : ChangeSpec := { name := "pairingChecks", fn := fun _ => fun
  | [d1, d2] => { results := [.lit (.bool true)], args := [d1, d2] }
  | _ => none }
def pairingChecksRow : OpenClaim := { program := "ytglgakbkdjhojaagreat", sum := "8d9416dafa1af023f66835af311d1bc0c8bb3d9080ec389b5e3397d791e78608", func := "causeway/causewaylaw06.PairingChecks", spec := "pairingChecks", inPlace := ["math/bits.Sub64", "math/bits.Add64"], unfollowed := true, recurses := true, named := ["math/bits.divideError", "math/bits.overflowError"], apart := false }
def PairingChecksSaid : Prop := pairingChecksRow.holds Tryz.pinned (OpenSpec.ofChange pairingChecksSpec)

/-- ITS FALSE NEIGHBOUR: 'it returns false'. Refute it at one input. -/
def pairingChecksWrong : ChangeSpec := { name := "pairingChecks", fn := fun _ => fun
  | [d1, d2] => { results := [.lit (.bool false)], args := [d1, d2] }
  | _ => none }
def PairingChecksWrongFalsely : Prop := pairingChecksRow.holds Tryz.pinned (OpenSpec.ofChange pairingChecksWrong)

/-- 'causewaylaw06.PairingPowers': WHATEVER THE INPUT: true; the input reads as it did. -/
def pairingPowersSpec : ChangeSpec := { name := "pairingPowers", fn := fun _ => fun
  | [d1, d2, d3] => { results := [.lit (.bool true)], args := [d1, d2, d3] }
  | _ => none }
def pairingPowersRow : OpenClaim := { program := "ytglgakbkdjhojaagreat", sum := "8d9416dafa1af023f66835af311d1bc0c8bb3d9080ec389b5e3397d791e78608", func := "causeway/causewaylaw06.PairingPowers", spec := "pairingPowers", inPlace := ["math/bits.Sub64", "math/bits.Add64"], unfollowed := true, recurses := true, named := ["math/bits.divideError", "math/bits.overflowError"], apart := false }
def PairingPowersSaid : Prop := pairingPowersRow.holds Tryz.pinned (OpenSpec.ofChange pairingPowersSpec)

/-- ITS FALSE NEIGHBOUR: 'it returns false'. Refute it at one input. -/
def pairingPowersWrong : ChangeSpec := { name := "pairingPowers", fn := fun _ => fun
  | [d1, d2, d3] => { results := [.lit (.bool false)], args := [d1, d2, d3] }
  | _ => none }
def PairingPowersWrongFalsely : Prop := pairingPowersRow.holds Tryz.pinned (OpenSpec.ofChange pairingPowersWrong)

/- THE SECOND FORM. 'bulk': how many values and letters a reading holds, each counted each time it is reached (what is shared counts as often as it is met; a slice's spare places count too). A statement '..UptoSaid' is the law's where the arguments, and the package variables that the reading takes, are together of bulk at most 1048576: NARROWER than '..Said'. Prove '..Said' where nothing that the law and all that it calls make is longer than what came in: it says more and counts as full. Else prove '..UptoSaid'. A law counts once. -/
mutual
def uptoBulk {H : Type} : DataW H → Nat
  | .lit (.string bytes) => bytes.length + 1
  | .lit _ => 1
  | .nil => 1
  | .ptr d => uptoBulk d + 1
  | .slice elems spare => uptoBulkAll elems + uptoBulkAll spare + 1
  | .agg parts => uptoBulkAll parts + 1
  | .iface _ d => uptoBulk d + 1
  | .map entries => uptoBulkEntries entries + 1
  | .held _ => 1
def uptoBulkAll {H : Type} : List (DataW H) → Nat
  | [] => 0
  | d :: r => uptoBulk d + uptoBulkAll r
def uptoBulkEntries {H : Type} : List (Lit × DataW H) → Nat
  | [] => 0
  | x :: r => uptoBulkEntry x + uptoBulkEntries r
def uptoBulkEntry {H : Type} : Lit × DataW H → Nat
  | (.string bytes, d) => bytes.length + uptoBulk d + 1
  | (_, d) => uptoBulk d + 1
 end
def uptoSmall : (H : Type) → List (DataW H) → Bool := fun _ ds => decide (uptoBulkAll ds ≤ 1048576)
def OpenSpec.upto (s : _root_.Go.ChangeSpec) : _root_.Go.OpenSpec := { _root_.Go.OpenSpec.ofChange s with cond := some uptoSmall }

/-- 'causewaylaw06.PairingLogs', WHERE WHAT IT READS IS OF BULK AT MOST 1048576: true; the input reads as it did. -/
def pairingLogsUptoRow : OpenClaim := { program := "ytglgakbkdjhojaagreat", sum := "8d9416dafa1af023f66835af311d1bc0c8bb3d9080ec389b5e3397d791e78608", func := "causeway/causewaylaw06.PairingLogs", spec := "pairingLogs", inPlace := ["math/bits.Sub64", "math/bits.Add64"], unfollowed := true, recurses := true, named := ["math/bits.divideError", "math/bits.overflowError"], apart := false, narrowed := true }
def PairingLogsUptoSaid : Prop := pairingLogsUptoRow.holds Tryz.pinned (OpenSpec.upto pairingLogsSpec)

/-- 'causewaylaw06.PairingSums', WHERE WHAT IT READS IS OF BULK AT MOST 1048576: true; the input reads as it did. -/
def pairingSumsUptoRow : OpenClaim := { program := "ytglgakbkdjhojaagreat", sum := "8d9416dafa1af023f66835af311d1bc0c8bb3d9080ec389b5e3397d791e78608", func := "causeway/causewaylaw06.PairingSums", spec := "pairingSums", inPlace := ["math/bits.Sub64", "math/bits.Add64"], unfollowed := true, recurses := true, named := ["math/bits.divideError", "math/bits.overflowError"], apart := false, narrowed := true }
def PairingSumsUptoSaid : Prop := pairingSumsUptoRow.holds Tryz.pinned (OpenSpec.upto pairingSumsSpec)

/-- 'causewaylaw06.PairingChecks', WHERE WHAT IT READS IS OF BULK AT MOST 1048576: true; the input reads as it did. -/
def pairingChecksUptoRow : OpenClaim := { program := "ytglgakbkdjhojaagreat", sum := "8d9416dafa1af023f66835af311d1bc0c8bb3d9080ec389b5e3397d791e78608", func := "causeway/causewaylaw06.PairingChecks", spec := "pairingChecks", inPlace := ["math/bits.Sub64", "math/bits.Add64"], unfollowed := true, recurses := true, named := ["math/bits.divideError", "math/bits.overflowError"], apart := false, narrowed := true }
def PairingChecksUptoSaid : Prop := pairingChecksUptoRow.holds Tryz.pinned (OpenSpec.upto pairingChecksSpec)

/-- 'causewaylaw06.PairingPowers', WHERE WHAT IT READS IS OF BULK AT MOST 1048576: true; the input reads as it did. -/
def pairingPowersUptoRow : OpenClaim := { program := "ytglgakbkdjhojaagreat", sum := "8d9416dafa1af023f66835af311d1bc0c8bb3d9080ec389b5e3397d791e78608", func := "causeway/causewaylaw06.PairingPowers", spec := "pairingPowers", inPlace := ["math/bits.Sub64", "math/bits.Add64"], unfollowed := true, recurses := true, named := ["math/bits.divideError", "math/bits.overflowError"], apart := false, narrowed := true }
def PairingPowersUptoSaid : Prop := pairingPowersUptoRow.holds Tryz.pinned (OpenSpec.upto pairingPowersSpec)

end Rows
end Go.Proofs.YtglgakbkdjhojaaGreat
