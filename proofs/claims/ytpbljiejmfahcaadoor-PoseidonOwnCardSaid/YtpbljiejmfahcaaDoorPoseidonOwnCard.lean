/-
  THE STATEMENT PoseidonOwnCardSaid: for any arguments the law answers true and its arguments read as they did; the listed table is tied to the program's text by the given tie. Conditions: the row's own.
-/
import Derived.SevenTiedAt
import Derived.Test.YtpbljiejmfahcaaDoorPo15
import Derived.Test.YtpbljiejmfahcaaDoorTie
import Derived.Test.YtpbljiejmfahcaaDoorCards
import Derived.Test.YtpbljiejmfahcaaDoorProg
set_option maxRecDepth 100000
set_option linter.unusedVariables false
set_option linter.unusedSimpArgs false
set_option linter.unnecessarySimpa false
namespace Go.Proofs.YtpbljiejmfahcaaDoor
open Go.Proofs.Tryd
open Go
theorem poownCard_holds:Rows.PoseidonOwnCardSaid :=
 Claim7.holds_tied_plain_at .later [] [.data] true (true, "ae54801bbb2e5c0e9dcbb56d7ace101c7a339774e0229d82bb74dd1d1e13be64") false
  pG (fun _ h=>by cases h) (by kernel_rfl) (fun _ h=>by cases h) poseidonOwn_row_tie rfl ⟨rfl,rfl⟩ (by kernel_rfl) rfl
  (fun f fn hf hfn=>by
   obtain rfl:f=5:=Option.some.inj ((show prog.funcNamed "causeway/causewaylaw09.PoseidonOwn" = some 5 by kernel_rfl).symm.trans hf) |>.symm
   obtain rfl:fn=f5:=(Option.some.inj (func5.symm.trans hfn)).symm;exact⟨by kernel_rfl,fun j t ht=>by
    rw[params5]at ht;have hm:t∈[23,24]:=by simpa using Array.mem_of_getElem? ht
    have hall:([23,24].all fun u => !Tryd.prog.wantsStandIn u)=true:=by kernel_rfl
    exact (show prog.wantsStandIn t=false by simpa using List.all_eq_true.1 hall t hm)⟩)
  (by kernel_rfl)
end Go.Proofs.YtpbljiejmfahcaaDoor
