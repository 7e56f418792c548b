/-
  THE STATEMENT EddsaTakesCardSaid: for any arguments the law answers true and its arguments read as they did; the listed table is tied to the program's text by the given tie. Conditions: the row's own.
-/
import Derived.SevenTiedAt
import Derived.Test.YtpjlhhpjpnacmaaGreatDoorEt17
import Derived.Test.YtpjlhhpjpnacmaaGreatDoorTie
import Derived.Test.YtpjlhhpjpnacmaaGreatDoorCards
import Derived.Test.YtpjlhhpjpnacmaaGreatDoorProg
set_option maxRecDepth 100000
set_option linter.unusedVariables false
set_option linter.unusedSimpArgs false
set_option linter.unnecessarySimpa false
namespace Go.Proofs.YtpjlhhpjpnacmaaGreatDoor
open Go.Proofs.Tryz
open Go
theorem eatakesCard_holds:Rows.EddsaTakesCardSaid :=
 Claim7.holds_tied_plain_at .later [] [.data] true (true, "fc0cc960197c85359792370ecbc3909cbeed52a12c04ca90e685360fc854d85c") false
  pU (fun _ h=>by cases h) (by kernel_rfl) (fun _ h=>by cases h) eddsaTakes_row_tie rfl ⟨rfl,rfl⟩ (by kernel_rfl) rfl
  (fun f fn hf hfn=>by
   obtain rfl:f=3:=Option.some.inj ((show prog.funcNamed "causeway/causewaylaw12.EddsaTakes" = some 3 by kernel_rfl).symm.trans hf) |>.symm
   obtain rfl:fn=f3:=(Option.some.inj (func3.symm.trans hfn)).symm;exact⟨by kernel_rfl,fun j t ht=>by
    rw[params3]at ht;have hm:t∈[24,25,25]:=by simpa using Array.mem_of_getElem? ht
    have hall:([24,25,25].all fun u => !Tryz.prog.wantsStandIn u)=true:=by kernel_rfl
    exact (show prog.wantsStandIn t=false by simpa using List.all_eq_true.1 hall t hm)⟩)
  (by kernel_rfl)
end Go.Proofs.YtpjlhhpjpnacmaaGreatDoor
