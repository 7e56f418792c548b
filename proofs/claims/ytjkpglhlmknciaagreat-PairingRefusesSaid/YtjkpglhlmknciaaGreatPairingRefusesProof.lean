/-
  THE STATEMENT PairingRefuses, lifted: for any arguments the law answers true and its arguments read as they did. Conditions: the row's own.
-/
import Derived.Test.YtjkpglhlmknciaaGreatRf15
import Derived.Test.YtjkpglhlmknciaaGreatProg
set_option maxRecDepth 100000
set_option linter.unusedVariables false
set_option linter.unusedSimpArgs false
set_option linter.unnecessarySimpa false
namespace Go.Proofs.YtjkpglhlmknciaaGreat
open Go.Proofs.Tryz
open Go.ChangeShapes Go.WideShapes Go.ChangeAt Go.RowKit
theorem sB (os:Os) (started:os.Started) (H:Type) (enc:TypeId×Value→H) :
  ReturnsInHanded {} checked os 3 .any (Rows.pairingRefusesSpec.pre6 enc prog f3 Rows.pairingRefusesRow.domain false) (Rows.pairingRefusesSpec.post enc prog f3 false true false false):=by
 refine returnsInHanded_of_change (C:=checked) ED started (by kernel_rfl) func3
  (ChangeSpec.witness6 (enc:=enc) (C:=checked) false ⟨#[],#[.slice none 0 0,.slice none 0 0],[]⟩ 8 (by kernel_rfl) (by kernel_rfl) (by kernel_rfl) (by kernel_rfl)) ?_
 intro W base args ds gs before hval0 hW hcnd _;have hval:∀(j:Nat) t v,f3.params[j]?=some t→args[j]?=some v→Value.okWide prog W .any base t v:=hval0
 have hW':=hW;obtain⟨p,q,hA0,hV,rfl,hfz,hnd⟩:=hW;have hA:DataW.TrodAll enc prog W 0 (fun _=>true) true f3.params.toList args.toList ds p:=hA0;rw[params3]at hA hval;obtain⟨v0,v1,d0,d1,p0,p1,rfl,rfl,rfl,h0,h1⟩:=trodAll_two hA;obtain⟨rfl,rfl⟩:=trodVars_none hV;obtain⟨bo0,bn0,bc0,rfl⟩:=okWide_slice underlying22 (hval 0 _ _ rfl rfl);obtain⟨bo1,bn1,bc1,rfl⟩:=okWide_slice underlying23 (hval 1 _ _ rfl rfl);clear hA0 hval0;simp only[List.append_nil]at hW';have l0:∀x∈p0,x.block<W.heap.size:=fun x hx=>hW'.lt x (by simp[hx])
 have l1:∀x∈p1,x.block<W.heap.size:=fun x hx=>hW'.lt x (by simp[hx])
 obtain⟨f0,k0⟩:=Ex.aCi h0 l0;obtain⟨f1,k1⟩:=Ex.aCh h1 l1;refine (Ex.LJ k0 k1).mono fun e W' ⟨he,hbl⟩ => ?_
 subst he;have kJ:∀{v d ps},DataW.Trod enc prog W 0 (fun _=>true) true 22 v d ps→(∀x∈ps,x.block<W.heap.size)→DataW.Trod enc prog W' 0 (fun b=>decide (b<W.heap.size)) true 22 v d ps :=
  fun h l=>Below.trod Pl (by kernel_rfl) (of_decide_eq_true (by kernel_rfl)) h hbl l
 have kK:∀{v d ps},DataW.Trod enc prog W 0 (fun _=>true) true 23 v d ps→(∀x∈ps,x.block<W.heap.size)→DataW.Trod enc prog W' 0 (fun b=>decide (b<W.heap.size)) true 23 v d ps :=
  fun h l=>Below.trod Pl (by kernel_rfl) (of_decide_eq_true (by kernel_rfl)) h hbl l
 exact⟨_,rfl,⟨_,_,_,[],_,[],hW',trodAll_mk1 (shut_bool underlying4 _),trodAll_mk2 (kJ h0 l0) (kK h1 l1),rfl,hbl.frame _,fun h=>by cases h⟩⟩
theorem pairingrefuses_holds:Rows.PairingRefusesSaid :=
 OpenClaim.holds_of_wide 3 f3 rfl rfl rfl rfl rfl rfl rfl ⟨rfl,rfl,rfl,rfl,rfl⟩ rfl rfl rfl rfl rfl (by kernel_rfl) func3 (by kernel_rfl)
  (of_decide_eq_true (by kernel_rfl)) (by unfold Func.isWrapper; first|(rw[if_pos (by decide +kernel)]; kernel_rfl)|(rw[if_neg (by decide +kernel)]; exact⟨rfl,rfl⟩))
  (fun os started H enc _=>sB os started H enc)
end Go.Proofs.YtjkpglhlmknciaaGreat
