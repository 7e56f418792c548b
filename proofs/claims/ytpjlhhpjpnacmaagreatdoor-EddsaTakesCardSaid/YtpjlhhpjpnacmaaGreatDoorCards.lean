/-
  DERIVED. GIVEN WITH THE SEED: THE CARDS: each row of YtpjlhhpjpnacmaaGreatDoorRows.lean that lists a variable, with what it lists TIED to the program's text (the seventh form; the later family's looks); each row that meets fmt, with fmt's text TOLD by the authors' own Lean function (tested against real Go, not proved from fmt's source: count such statements apart). THE CARD IS WHAT COUNTS. Prove the row's statement (the work); the ties are given (YtpjlhhpjpnacmaaGreatDoorTie.lean); close each card by the builder's one call (the guide's Derived/Test/ToyasCard.lean, 'card_holds'). Laid BY PROGRAM, IN A SANDBOX (cutbox-door.mjs). By AI agents, Wed Nov 11 2026. No macro, syntax, notation, axiom, sorry.
-/
import Derived.Test.YtpjlhhpjpnacmaaGreatDoorRows
import GoSem.ClaimSeven
namespace Go.Proofs.YtpjlhhpjpnacmaaGreatDoor
namespace Rows

/-- THE TIED CARD OF 'causewaylaw12.EddsaTakes'. -/
def eddsaTakesCard : Claim7 := { stood := { row := eddsaTakesRow, standIns := [], harness := (true, "fc0cc960197c85359792370ecbc3909cbeed52a12c04ca90e685360fc854d85c"), looks := false }, kinds := [], alts := [], laidByText := true, laidKinds := [.data], laidTests := true, laidLooks := .later }
def EddsaTakesCardSaid : Prop := Claim7.holds Tryz.pinned (.plain (OpenSpec.ofChange eddsaTakesSpec)) eddsaTakesCard

/-- THE TIED CARD OF 'causewaylaw12.EddsaOwn'. -/
def eddsaOwnCard : Claim7 := { stood := { row := eddsaOwnRow, standIns := [], harness := (true, "fc0cc960197c85359792370ecbc3909cbeed52a12c04ca90e685360fc854d85c"), looks := false }, kinds := [], alts := [], laidByText := true, laidKinds := [.data], laidTests := true, laidLooks := .later }
def EddsaOwnCardSaid : Prop := Claim7.holds Tryz.pinned (.plain (OpenSpec.ofChange eddsaOwnSpec)) eddsaOwnCard

/-- THE TIED CARD OF 'causewaylaw13.SmtSound'. -/
def smtSoundCard : Claim7 := { stood := { row := smtSoundRow, standIns := [], harness := (true, "fc0cc960197c85359792370ecbc3909cbeed52a12c04ca90e685360fc854d85c"), looks := false }, kinds := [], alts := [], laidByText := true, laidKinds := [.data], laidTests := true, laidLooks := .later }
def SmtSoundCardSaid : Prop := Claim7.holds Tryz.pinned (.plain (OpenSpec.ofChange smtSoundSpec)) smtSoundCard

/-- THE TIED CARD OF 'causewaylaw13.SmtOrder'. -/
def smtOrderCard : Claim7 := { stood := { row := smtOrderRow, standIns := [], harness := (true, "fc0cc960197c85359792370ecbc3909cbeed52a12c04ca90e685360fc854d85c"), looks := false }, kinds := [], alts := [], laidByText := true, laidKinds := [.data], laidTests := true, laidLooks := .later }
def SmtOrderCardSaid : Prop := Claim7.holds Tryz.pinned (.plain (OpenSpec.ofChange smtOrderSpec)) smtOrderCard

/-- THE TIED CARD OF 'causewaylaw13.SmtForged'. -/
def smtForgedCard : Claim7 := { stood := { row := smtForgedRow, standIns := [], harness := (true, "fc0cc960197c85359792370ecbc3909cbeed52a12c04ca90e685360fc854d85c"), looks := false }, kinds := [], alts := [], laidByText := true, laidKinds := [.data], laidTests := true, laidLooks := .later }
def SmtForgedCardSaid : Prop := Claim7.holds Tryz.pinned (.plain (OpenSpec.ofChange smtForgedSpec)) smtForgedCard

/-- THE SECOND FORM's CARD OF 'causewaylaw12.EddsaTakes'. -/
def eddsaTakesUptoCard : Claim7 := { stood := { row := eddsaTakesUptoRow, standIns := [], harness := (true, "fc0cc960197c85359792370ecbc3909cbeed52a12c04ca90e685360fc854d85c"), looks := false }, kinds := [], alts := [], laidByText := true, laidKinds := [.data], laidTests := true, laidLooks := .later }
def EddsaTakesUptoCardSaid : Prop := Claim7.holds Tryz.pinned (.plain (OpenSpec.upto eddsaTakesSpec)) eddsaTakesUptoCard

/-- THE SECOND FORM's CARD OF 'causewaylaw12.EddsaOwn'. -/
def eddsaOwnUptoCard : Claim7 := { stood := { row := eddsaOwnUptoRow, standIns := [], harness := (true, "fc0cc960197c85359792370ecbc3909cbeed52a12c04ca90e685360fc854d85c"), looks := false }, kinds := [], alts := [], laidByText := true, laidKinds := [.data], laidTests := true, laidLooks := .later }
def EddsaOwnUptoCardSaid : Prop := Claim7.holds Tryz.pinned (.plain (OpenSpec.upto eddsaOwnSpec)) eddsaOwnUptoCard

/-- THE SECOND FORM's CARD OF 'causewaylaw13.SmtSound'. -/
def smtSoundUptoCard : Claim7 := { stood := { row := smtSoundUptoRow, standIns := [], harness := (true, "fc0cc960197c85359792370ecbc3909cbeed52a12c04ca90e685360fc854d85c"), looks := false }, kinds := [], alts := [], laidByText := true, laidKinds := [.data], laidTests := true, laidLooks := .later }
def SmtSoundUptoCardSaid : Prop := Claim7.holds Tryz.pinned (.plain (OpenSpec.upto smtSoundSpec)) smtSoundUptoCard

/-- THE SECOND FORM's CARD OF 'causewaylaw13.SmtOrder'. -/
def smtOrderUptoCard : Claim7 := { stood := { row := smtOrderUptoRow, standIns := [], harness := (true, "fc0cc960197c85359792370ecbc3909cbeed52a12c04ca90e685360fc854d85c"), looks := false }, kinds := [], alts := [], laidByText := true, laidKinds := [.data], laidTests := true, laidLooks := .later }
def SmtOrderUptoCardSaid : Prop := Claim7.holds Tryz.pinned (.plain (OpenSpec.upto smtOrderSpec)) smtOrderUptoCard

/-- THE SECOND FORM's CARD OF 'causewaylaw13.SmtForged'. -/
def smtForgedUptoCard : Claim7 := { stood := { row := smtForgedUptoRow, standIns := [], harness := (true, "fc0cc960197c85359792370ecbc3909cbeed52a12c04ca90e685360fc854d85c"), looks := false }, kinds := [], alts := [], laidByText := true, laidKinds := [.data], laidTests := true, laidLooks := .later }
def SmtForgedUptoCardSaid : Prop := Claim7.holds Tryz.pinned (.plain (OpenSpec.upto smtForgedSpec)) smtForgedUptoCard
end Rows
end Go.Proofs.YtpjlhhpjpnacmaaGreatDoor
