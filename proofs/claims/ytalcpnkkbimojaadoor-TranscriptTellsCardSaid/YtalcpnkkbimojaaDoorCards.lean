/-
  DERIVED. GIVEN WITH THE SEED: THE CARDS: each row of YtalcpnkkbimojaaDoorRows.lean that lists a variable, with what it lists TIED to the program's text (the seventh form; the later family's looks); each row that meets fmt, with fmt's text TOLD by the authors' own Lean function (tested against real Go, not proved from fmt's source: count such statements apart). THE CARD IS WHAT COUNTS. Prove the row's statement (the work); the ties are given (YtalcpnkkbimojaaDoorTie.lean); close each card by the builder's one call (the guide's Derived/Test/ToyasCard.lean, 'card_holds'). Laid BY PROGRAM, IN A SANDBOX (cutbox-door.mjs). By AI agents, Wed Nov 11 2026. No macro, syntax, notation, axiom, sorry.
-/
import Derived.Test.YtalcpnkkbimojaaDoorRows
import GoSem.ClaimSeven
namespace Go.Proofs.YtalcpnkkbimojaaDoor
namespace Rows

/-- THE TIED CARD OF 'causewaylaw10.TranscriptTells'. -/
def transcriptTellsCard : Claim7 := { stood := { row := transcriptTellsRow, standIns := [], harness := (true, "6ee2cbc87ac128fa1f02f17c5a24b4a10b85863cb5ad9415f06da084b3a89c78"), looks := false }, kinds := [], alts := [], laidByText := true, laidKinds := [.data], laidTests := true, laidLooks := .later }
def TranscriptTellsCardSaid : Prop := Claim7.holds Tryd.pinned (.plain (OpenSpec.ofChange transcriptTellsSpec)) transcriptTellsCard

/-- THE SECOND FORM's CARD OF 'causewaylaw10.TranscriptTells'. -/
def transcriptTellsUptoCard : Claim7 := { stood := { row := transcriptTellsUptoRow, standIns := [], harness := (true, "6ee2cbc87ac128fa1f02f17c5a24b4a10b85863cb5ad9415f06da084b3a89c78"), looks := false }, kinds := [], alts := [], laidByText := true, laidKinds := [.data], laidTests := true, laidLooks := .later }
def TranscriptTellsUptoCardSaid : Prop := Claim7.holds Tryd.pinned (.plain (OpenSpec.upto transcriptTellsSpec)) transcriptTellsUptoCard
end Rows
end Go.Proofs.YtalcpnkkbimojaaDoor
