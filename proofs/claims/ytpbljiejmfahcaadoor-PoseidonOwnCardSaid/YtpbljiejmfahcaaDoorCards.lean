/-
  DERIVED. GIVEN WITH THE SEED: THE CARDS: each row of YtpbljiejmfahcaaDoorRows.lean that lists a variable, with what it lists TIED to the program's text (the seventh form; the later family's looks); each row that meets fmt, with fmt's text TOLD by the authors' own Lean function (tested against real Go, not proved from fmt's source: count such statements apart). THE CARD IS WHAT COUNTS. Prove the row's statement (the work); the ties are given (YtpbljiejmfahcaaDoorTie.lean); close each card by the builder's one call (the guide's Derived/Test/ToyasCard.lean, 'card_holds'). Laid BY PROGRAM, IN A SANDBOX (cutbox-door.mjs). By AI agents, Wed Nov 11 2026. No macro, syntax, notation, axiom, sorry.
-/
import Derived.Test.YtpbljiejmfahcaaDoorRows
import GoSem.ClaimSeven
namespace Go.Proofs.YtpbljiejmfahcaaDoor
namespace Rows

/-- THE TIED CARD OF 'causewaylaw09.PoseidonOne'. -/
def poseidonOneCard : Claim7 := { stood := { row := poseidonOneRow, standIns := [], harness := (true, "ae54801bbb2e5c0e9dcbb56d7ace101c7a339774e0229d82bb74dd1d1e13be64"), looks := false }, kinds := [], alts := [], laidByText := true, laidKinds := [.data], laidTests := true, laidLooks := .later }
def PoseidonOneCardSaid : Prop := Claim7.holds Tryd.pinned (.plain (OpenSpec.ofChange poseidonOneSpec)) poseidonOneCard

/-- THE TIED CARD OF 'causewaylaw09.PoseidonSponge'. -/
def poseidonSpongeCard : Claim7 := { stood := { row := poseidonSpongeRow, standIns := [], harness := (true, "ae54801bbb2e5c0e9dcbb56d7ace101c7a339774e0229d82bb74dd1d1e13be64"), looks := false }, kinds := [], alts := [], laidByText := true, laidKinds := [.data], laidTests := true, laidLooks := .later }
def PoseidonSpongeCardSaid : Prop := Claim7.holds Tryd.pinned (.plain (OpenSpec.ofChange poseidonSpongeSpec)) poseidonSpongeCard

/-- THE TIED CARD OF 'causewaylaw09.PoseidonOwn'. -/
def poseidonOwnCard : Claim7 := { stood := { row := poseidonOwnRow, standIns := [], harness := (true, "ae54801bbb2e5c0e9dcbb56d7ace101c7a339774e0229d82bb74dd1d1e13be64"), looks := false }, kinds := [], alts := [], laidByText := true, laidKinds := [.data], laidTests := true, laidLooks := .later }
def PoseidonOwnCardSaid : Prop := Claim7.holds Tryd.pinned (.plain (OpenSpec.ofChange poseidonOwnSpec)) poseidonOwnCard

/-- THE SECOND FORM's CARD OF 'causewaylaw09.PoseidonOne'. -/
def poseidonOneUptoCard : Claim7 := { stood := { row := poseidonOneUptoRow, standIns := [], harness := (true, "ae54801bbb2e5c0e9dcbb56d7ace101c7a339774e0229d82bb74dd1d1e13be64"), looks := false }, kinds := [], alts := [], laidByText := true, laidKinds := [.data], laidTests := true, laidLooks := .later }
def PoseidonOneUptoCardSaid : Prop := Claim7.holds Tryd.pinned (.plain (OpenSpec.upto poseidonOneSpec)) poseidonOneUptoCard

/-- THE SECOND FORM's CARD OF 'causewaylaw09.PoseidonSponge'. -/
def poseidonSpongeUptoCard : Claim7 := { stood := { row := poseidonSpongeUptoRow, standIns := [], harness := (true, "ae54801bbb2e5c0e9dcbb56d7ace101c7a339774e0229d82bb74dd1d1e13be64"), looks := false }, kinds := [], alts := [], laidByText := true, laidKinds := [.data], laidTests := true, laidLooks := .later }
def PoseidonSpongeUptoCardSaid : Prop := Claim7.holds Tryd.pinned (.plain (OpenSpec.upto poseidonSpongeSpec)) poseidonSpongeUptoCard

/-- THE SECOND FORM's CARD OF 'causewaylaw09.PoseidonOwn'. -/
def poseidonOwnUptoCard : Claim7 := { stood := { row := poseidonOwnUptoRow, standIns := [], harness := (true, "ae54801bbb2e5c0e9dcbb56d7ace101c7a339774e0229d82bb74dd1d1e13be64"), looks := false }, kinds := [], alts := [], laidByText := true, laidKinds := [.data], laidTests := true, laidLooks := .later }
def PoseidonOwnUptoCardSaid : Prop := Claim7.holds Tryd.pinned (.plain (OpenSpec.upto poseidonOwnSpec)) poseidonOwnUptoCard
end Rows
end Go.Proofs.YtpbljiejmfahcaaDoor
