/-
  THE STATEMENT LimbsTextsCardSaid: for any arguments the law answers true and its arguments read as they did; the listed tables are tied to the program's text by the given tie. Conditions: the row's own.
-/
import Derived.Test.YtopahcobdfdnlaaDoorTextsProof
import Derived.Test.YtopahcobdfdnlaaDoorTie
import Derived.Test.YtopahcobdfdnlaaDoorCards
import Derived.SevenTiedAt
namespace Go.Proofs.YtopahcobdfdnlaaDoor
open Go

theorem textsCard_holds : Rows.LimbsTextsCardSaid :=
  Claim7.holds_tied_plain_at .later [] [.data, .data, .data] true (true, "b1098695e63c8d4866aa9b0ba82b6fb000f07a9c119d2a50f1068aa9a7439a2a") false
    texts_holds (fun _ h => by cases h) (by kernel_rfl) (fun _ h => by cases h) limbsTexts_row_tie rfl ⟨rfl, rfl⟩ (by kernel_rfl) rfl
    (fun f fn hf hfn => by
      obtain rfl : f = 6 := Option.some.inj ((show Tryd.prog.funcNamed "causeway/causewaylaw01.LimbsTexts" = some 6 by kernel_rfl).symm.trans hf) |>.symm
      obtain rfl : fn = Tryd.f6 := (Option.some.inj (Tryd.func6.symm.trans hfn)).symm
      exact ⟨by kernel_rfl, fun j t ht => by
        rw [Tryd.params6] at ht
        have hm : t ∈ [24, 47, 9] := by simpa using Array.mem_of_getElem? ht
        have hall : ([24, 47, 9].all fun u => !Tryd.prog.wantsStandIn u) = true := by kernel_rfl
        exact (show Tryd.prog.wantsStandIn t = false by simpa using List.all_eq_true.1 hall t hm)⟩)
    (by kernel_rfl)
#print axioms textsCard_holds
end Go.Proofs.YtopahcobdfdnlaaDoor
