/-
  THE STATEMENT EddsaOtherCardSaid: for any arguments the law answers true and its arguments read as they did; the listed table is tied to the program's text by the given tie. Conditions: the row's own.
-/
import Derived.SevenTiedAt
import Derived.Test.YtpbljiejmfahcaaGreatDoorEa17
import Derived.Test.YtpbljiejmfahcaaGreatDoorTie
import Derived.Test.YtpbljiejmfahcaaGreatDoorCards
import Derived.Test.YtpbljiejmfahcaaGreatDoorProg
set_option maxRecDepth 100000
set_option linter.unusedVariables false
set_option linter.unusedSimpArgs false
set_option linter.unnecessarySimpa false
namespace Go.Proofs.YtpbljiejmfahcaaGreatDoor
open Go.Proofs.Tryz
open Go
theorem eaotherCard_holds:Rows.EddsaOtherCardSaid :=
 Claim7.holds_tied_plain_at .later [] [.data] true (true, "3b257a7eb6c4a0fc968241d720989ea68bd2053c5f934d2070dcc662a1a7c2b3") false
  pA (fun _ h=>by cases h) (by kernel_rfl) (fun _ h=>by cases h) eddsaOther_row_tie rfl ⟨rfl,rfl⟩ (by kernel_rfl) rfl
  (fun f fn hf hfn=>by
   obtain rfl:f=5:=Option.some.inj ((show prog.funcNamed "causeway/causewaylaw12.EddsaOther" = some 5 by kernel_rfl).symm.trans hf) |>.symm
   obtain rfl:fn=f5:=(Option.some.inj (func5.symm.trans hfn)).symm;exact⟨by kernel_rfl,fun j t ht=>by
    rw[params5]at ht;have hm:t∈[24,25,25]:=by simpa using Array.mem_of_getElem? ht
    have hall:([24,25,25].all fun u => !Tryz.prog.wantsStandIn u)=true:=by kernel_rfl
    exact (show prog.wantsStandIn t=false by simpa using List.all_eq_true.1 hall t hm)⟩)
  (by kernel_rfl)
end Go.Proofs.YtpbljiejmfahcaaGreatDoor
