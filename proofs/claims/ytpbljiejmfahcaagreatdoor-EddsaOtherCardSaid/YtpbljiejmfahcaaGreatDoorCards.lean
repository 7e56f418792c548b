/-
  DERIVED. GIVEN WITH THE SEED: THE CARDS: each row of YtpbljiejmfahcaaGreatDoorRows.lean that lists a variable, with what it lists TIED to the program's text (the seventh form; the later family's looks); each row that meets fmt, with fmt's text TOLD by the authors' own Lean function (tested against real Go, not proved from fmt's source: count such statements apart). THE CARD IS WHAT COUNTS. Prove the row's statement (the work); the ties are given (YtpbljiejmfahcaaGreatDoorTie.lean); close each card by the builder's one call (the guide's Derived/Test/ToyasCard.lean, 'card_holds'). Laid BY PROGRAM, IN A SANDBOX (cutbox-door.mjs). By AI agents, Wed Nov 11 2026. No macro, syntax, notation, axiom, sorry.
-/
import Derived.Test.YtpbljiejmfahcaaGreatDoorRows
import GoSem.ClaimSeven
namespace Go.Proofs.YtpbljiejmfahcaaGreatDoor
namespace Rows

/-- THE TIED CARD OF 'causewaylaw12.EddsaTakes'. -/
def eddsaTakesCard : Claim7 := { stood := { row := eddsaTakesRow, standIns := [], harness := (true, "3b257a7eb6c4a0fc968241d720989ea68bd2053c5f934d2070dcc662a1a7c2b3"), looks := false }, kinds := [], alts := [], laidByText := true, laidKinds := [.data], laidTests := true, laidLooks := .later }
def EddsaTakesCardSaid : Prop := Claim7.holds Tryz.pinned (.plain (OpenSpec.ofChange eddsaTakesSpec)) eddsaTakesCard

/-- THE TIED CARD OF 'causewaylaw12.EddsaOne'. -/
def eddsaOneCard : Claim7 := { stood := { row := eddsaOneRow, standIns := [], harness := (true, "3b257a7eb6c4a0fc968241d720989ea68bd2053c5f934d2070dcc662a1a7c2b3"), looks := false }, kinds := [], alts := [], laidByText := true, laidKinds := [.data], laidTests := true, laidLooks := .later }
def EddsaOneCardSaid : Prop := Claim7.holds Tryz.pinned (.plain (OpenSpec.ofChange eddsaOneSpec)) eddsaOneCard

/-- THE TIED CARD OF 'causewaylaw12.EddsaOther'. -/
def eddsaOtherCard : Claim7 := { stood := { row := eddsaOtherRow, standIns := [], harness := (true, "3b257a7eb6c4a0fc968241d720989ea68bd2053c5f934d2070dcc662a1a7c2b3"), looks := false }, kinds := [], alts := [], laidByText := true, laidKinds := [.data], laidTests := true, laidLooks := .later }
def EddsaOtherCardSaid : Prop := Claim7.holds Tryz.pinned (.plain (OpenSpec.ofChange eddsaOtherSpec)) eddsaOtherCard

/-- THE TIED CARD OF 'causewaylaw12.EddsaOwn'. -/
def eddsaOwnCard : Claim7 := { stood := { row := eddsaOwnRow, standIns := [], harness := (true, "3b257a7eb6c4a0fc968241d720989ea68bd2053c5f934d2070dcc662a1a7c2b3"), looks := false }, kinds := [], alts := [], laidByText := true, laidKinds := [.data], laidTests := true, laidLooks := .later }
def EddsaOwnCardSaid : Prop := Claim7.holds Tryz.pinned (.plain (OpenSpec.ofChange eddsaOwnSpec)) eddsaOwnCard

/-- THE SECOND FORM's CARD OF 'causewaylaw12.EddsaTakes'. -/
def eddsaTakesUptoCard : Claim7 := { stood := { row := eddsaTakesUptoRow, standIns := [], harness := (true, "3b257a7eb6c4a0fc968241d720989ea68bd2053c5f934d2070dcc662a1a7c2b3"), looks := false }, kinds := [], alts := [], laidByText := true, laidKinds := [.data], laidTests := true, laidLooks := .later }
def EddsaTakesUptoCardSaid : Prop := Claim7.holds Tryz.pinned (.plain (OpenSpec.upto eddsaTakesSpec)) eddsaTakesUptoCard

/-- THE SECOND FORM's CARD OF 'causewaylaw12.EddsaOne'. -/
def eddsaOneUptoCard : Claim7 := { stood := { row := eddsaOneUptoRow, standIns := [], harness := (true, "3b257a7eb6c4a0fc968241d720989ea68bd2053c5f934d2070dcc662a1a7c2b3"), looks := false }, kinds := [], alts := [], laidByText := true, laidKinds := [.data], laidTests := true, laidLooks := .later }
def EddsaOneUptoCardSaid : Prop := Claim7.holds Tryz.pinned (.plain (OpenSpec.upto eddsaOneSpec)) eddsaOneUptoCard

/-- THE SECOND FORM's CARD OF 'causewaylaw12.EddsaOther'. -/
def eddsaOtherUptoCard : Claim7 := { stood := { row := eddsaOtherUptoRow, standIns := [], harness := (true, "3b257a7eb6c4a0fc968241d720989ea68bd2053c5f934d2070dcc662a1a7c2b3"), looks := false }, kinds := [], alts := [], laidByText := true, laidKinds := [.data], laidTests := true, laidLooks := .later }
def EddsaOtherUptoCardSaid : Prop := Claim7.holds Tryz.pinned (.plain (OpenSpec.upto eddsaOtherSpec)) eddsaOtherUptoCard

/-- THE SECOND FORM's CARD OF 'causewaylaw12.EddsaOwn'. -/
def eddsaOwnUptoCard : Claim7 := { stood := { row := eddsaOwnUptoRow, standIns := [], harness := (true, "3b257a7eb6c4a0fc968241d720989ea68bd2053c5f934d2070dcc662a1a7c2b3"), looks := false }, kinds := [], alts := [], laidByText := true, laidKinds := [.data], laidTests := true, laidLooks := .later }
def EddsaOwnUptoCardSaid : Prop := Claim7.holds Tryz.pinned (.plain (OpenSpec.upto eddsaOwnSpec)) eddsaOwnUptoCard
end Rows
end Go.Proofs.YtpbljiejmfahcaaGreatDoor
