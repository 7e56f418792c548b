/-
  DERIVED. GIVEN WITH THE SEED: THE CARDS: each row of YtopahcobdfdnlaaDoorRows.lean that lists a variable, with what it lists TIED to the program's text (the seventh form; the later family's looks); each row that meets fmt, with fmt's text TOLD by the authors' own Lean function (tested against real Go, not proved from fmt's source: count such statements apart). THE CARD IS WHAT COUNTS. Prove the row's statement (the work); the ties are given (YtopahcobdfdnlaaDoorTie.lean); close each card by the builder's one call (the guide's Derived/Test/ToyasCard.lean, 'card_holds'). Laid BY PROGRAM, IN A SANDBOX (cutbox-door.mjs). By AI agents, Wed Nov 11 2026. No macro, syntax, notation, axiom, sorry.
-/
import Derived.Test.YtopahcobdfdnlaaDoorRows
import GoSem.ClaimSeven
namespace Go.Proofs.YtopahcobdfdnlaaDoor
namespace Rows

/-- THE TIED CARD OF 'causewaylaw01.LimbsSums'. -/
def limbsSumsCard : Claim7 := { stood := { row := limbsSumsRow, standIns := [], harness := (true, "b1098695e63c8d4866aa9b0ba82b6fb000f07a9c119d2a50f1068aa9a7439a2a"), looks := false }, kinds := [], alts := [], laidByText := true, laidKinds := [.data, .data, .data], laidTests := true, laidLooks := .later }
def LimbsSumsCardSaid : Prop := Claim7.holds Tryd.pinned (.plain (OpenSpec.ofChange limbsSumsSpec)) limbsSumsCard

/-- THE TIED CARD OF 'causewaylaw01.LimbsShifts'. -/
def limbsShiftsCard : Claim7 := { stood := { row := limbsShiftsRow, standIns := [], harness := (true, "b1098695e63c8d4866aa9b0ba82b6fb000f07a9c119d2a50f1068aa9a7439a2a"), looks := false }, kinds := [], alts := [], laidByText := true, laidKinds := [.data, .data, .data], laidTests := true, laidLooks := .later }
def LimbsShiftsCardSaid : Prop := Claim7.holds Tryd.pinned (.plain (OpenSpec.ofChange limbsShiftsSpec)) limbsShiftsCard

/-- THE TIED CARD OF 'causewaylaw01.LimbsRests'. -/
def limbsRestsCard : Claim7 := { stood := { row := limbsRestsRow, standIns := [], harness := (true, "b1098695e63c8d4866aa9b0ba82b6fb000f07a9c119d2a50f1068aa9a7439a2a"), looks := false }, kinds := [], alts := [], laidByText := true, laidKinds := [.data, .data, .data], laidTests := true, laidLooks := .later }
def LimbsRestsCardSaid : Prop := Claim7.holds Tryd.pinned (.plain (OpenSpec.ofChange limbsRestsSpec)) limbsRestsCard

/-- THE TIED CARD OF 'causewaylaw01.LimbsTexts'. -/
def limbsTextsCard : Claim7 := { stood := { row := limbsTextsRow, standIns := [], harness := (true, "b1098695e63c8d4866aa9b0ba82b6fb000f07a9c119d2a50f1068aa9a7439a2a"), looks := false }, kinds := [], alts := [], laidByText := true, laidKinds := [.data, .data, .data], laidTests := true, laidLooks := .later }
def LimbsTextsCardSaid : Prop := Claim7.holds Tryd.pinned (.plain (OpenSpec.ofChange limbsTextsSpec)) limbsTextsCard

/-- THE TIED CARD OF 'causewaylaw01.LimbsRing'. -/
def limbsRingCard : Claim7 := { stood := { row := limbsRingRow, standIns := [], harness := (true, "b1098695e63c8d4866aa9b0ba82b6fb000f07a9c119d2a50f1068aa9a7439a2a"), looks := false }, kinds := [], alts := [], laidByText := true, laidKinds := [.data, .data, .data], laidTests := true, laidLooks := .later }
def LimbsRingCardSaid : Prop := Claim7.holds Tryd.pinned (.plain (OpenSpec.ofChange limbsRingSpec)) limbsRingCard

/-- THE TIED CARD OF 'causewaylaw01.LimbsBack'. -/
def limbsBackCard : Claim7 := { stood := { row := limbsBackRow, standIns := [], harness := (true, "b1098695e63c8d4866aa9b0ba82b6fb000f07a9c119d2a50f1068aa9a7439a2a"), looks := false }, kinds := [], alts := [], laidByText := true, laidKinds := [.data, .data, .data], laidTests := true, laidLooks := .later }
def LimbsBackCardSaid : Prop := Claim7.holds Tryd.pinned (.plain (OpenSpec.ofChange limbsBackSpec)) limbsBackCard

/-- THE SECOND FORM's CARD OF 'causewaylaw01.LimbsSums'. -/
def limbsSumsUptoCard : Claim7 := { stood := { row := limbsSumsUptoRow, standIns := [], harness := (true, "b1098695e63c8d4866aa9b0ba82b6fb000f07a9c119d2a50f1068aa9a7439a2a"), looks := false }, kinds := [], alts := [], laidByText := true, laidKinds := [.data, .data, .data], laidTests := true, laidLooks := .later }
def LimbsSumsUptoCardSaid : Prop := Claim7.holds Tryd.pinned (.plain (OpenSpec.upto limbsSumsSpec)) limbsSumsUptoCard

/-- THE SECOND FORM's CARD OF 'causewaylaw01.LimbsShifts'. -/
def limbsShiftsUptoCard : Claim7 := { stood := { row := limbsShiftsUptoRow, standIns := [], harness := (true, "b1098695e63c8d4866aa9b0ba82b6fb000f07a9c119d2a50f1068aa9a7439a2a"), looks := false }, kinds := [], alts := [], laidByText := true, laidKinds := [.data, .data, .data], laidTests := true, laidLooks := .later }
def LimbsShiftsUptoCardSaid : Prop := Claim7.holds Tryd.pinned (.plain (OpenSpec.upto limbsShiftsSpec)) limbsShiftsUptoCard

/-- THE SECOND FORM's CARD OF 'causewaylaw01.LimbsRests'. -/
def limbsRestsUptoCard : Claim7 := { stood := { row := limbsRestsUptoRow, standIns := [], harness := (true, "b1098695e63c8d4866aa9b0ba82b6fb000f07a9c119d2a50f1068aa9a7439a2a"), looks := false }, kinds := [], alts := [], laidByText := true, laidKinds := [.data, .data, .data], laidTests := true, laidLooks := .later }
def LimbsRestsUptoCardSaid : Prop := Claim7.holds Tryd.pinned (.plain (OpenSpec.upto limbsRestsSpec)) limbsRestsUptoCard

/-- THE SECOND FORM's CARD OF 'causewaylaw01.LimbsTexts'. -/
def limbsTextsUptoCard : Claim7 := { stood := { row := limbsTextsUptoRow, standIns := [], harness := (true, "b1098695e63c8d4866aa9b0ba82b6fb000f07a9c119d2a50f1068aa9a7439a2a"), looks := false }, kinds := [], alts := [], laidByText := true, laidKinds := [.data, .data, .data], laidTests := true, laidLooks := .later }
def LimbsTextsUptoCardSaid : Prop := Claim7.holds Tryd.pinned (.plain (OpenSpec.upto limbsTextsSpec)) limbsTextsUptoCard

/-- THE SECOND FORM's CARD OF 'causewaylaw01.LimbsRing'. -/
def limbsRingUptoCard : Claim7 := { stood := { row := limbsRingUptoRow, standIns := [], harness := (true, "b1098695e63c8d4866aa9b0ba82b6fb000f07a9c119d2a50f1068aa9a7439a2a"), looks := false }, kinds := [], alts := [], laidByText := true, laidKinds := [.data, .data, .data], laidTests := true, laidLooks := .later }
def LimbsRingUptoCardSaid : Prop := Claim7.holds Tryd.pinned (.plain (OpenSpec.upto limbsRingSpec)) limbsRingUptoCard

/-- THE SECOND FORM's CARD OF 'causewaylaw01.LimbsBack'. -/
def limbsBackUptoCard : Claim7 := { stood := { row := limbsBackUptoRow, standIns := [], harness := (true, "b1098695e63c8d4866aa9b0ba82b6fb000f07a9c119d2a50f1068aa9a7439a2a"), looks := false }, kinds := [], alts := [], laidByText := true, laidKinds := [.data, .data, .data], laidTests := true, laidLooks := .later }
def LimbsBackUptoCardSaid : Prop := Claim7.holds Tryd.pinned (.plain (OpenSpec.upto limbsBackSpec)) limbsBackUptoCard
end Rows
end Go.Proofs.YtopahcobdfdnlaaDoor
