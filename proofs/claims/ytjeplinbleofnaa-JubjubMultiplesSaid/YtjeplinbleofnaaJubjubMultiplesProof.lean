/-
  THE STATEMENT JubjubMultiples, lifted: for any arguments the law answers true and its arguments read as they did. Conditions: the row's own.
-/
import Derived.Test.YtjeplinbleofnaaJj15
import Derived.Test.YtjeplinbleofnaaJj11
import Derived.Test.YtjeplinbleofnaaProg
set_option maxRecDepth 100000
set_option linter.unusedVariables false
set_option linter.unusedSimpArgs false
set_option linter.unnecessarySimpa false
namespace Go.Proofs.Ytjeplinbleofnaa
open Go.Proofs.Try
open Go.ChangeShapes Go.WideShapes Go.ChangeAt Go.RowKit
theorem iN (os:Os) (started:os.Started) (H:Type) (enc:TypeId×Value→H) :
  ReturnsInHanded {} checked os 5 .any (Rows.jubjubMultiplesSpec.pre6 enc prog f5 Rows.jubjubMultiplesRow.domain false) (Rows.jubjubMultiplesSpec.post enc prog f5 false true false false):=by
 refine returnsInHanded_of_change (C:=checked) nM started (by kernel_rfl) func5
  (ChangeSpec.witness6 (enc:=enc) (C:=checked) false ⟨#[],#[.agg #[.int .u64 0,.int .u64 0,.int .u64 0,.int .u64 0,.int .u64 0,.int .u64 0,.int .u64 0,.int .u64 0],.int .u64 0,.int .u64 0],[]⟩ 8 (by kernel_rfl) (by kernel_rfl) (by kernel_rfl) (by kernel_rfl)) ?_
 intro W base args ds gs before hval0 hW hcnd _;have hval:∀(j:Nat) t v,f5.params[j]?=some t→args[j]?=some v→Value.okWide prog W .any base t v:=hval0
 have hW':=hW;obtain⟨p,q,hA0,hV,rfl,hfz,hnd⟩:=hW;have hA:DataW.TrodAll enc prog W 0 (fun _=>true) true f5.params.toList args.toList ds p:=hA0;rw[params5]at hA hval;obtain⟨v0,v1,v2,d0,d1,d2,p0,p1,p2,rfl,rfl,rfl,h0,h1,h2⟩:=trodAll_three hA;obtain⟨rfl,rfl⟩:=trodVars_none hV;obtain⟨x,gx,rfl⟩:=Ex.kC hval 0 rfl rfl h0;obtain⟨y,rfl,rfl,rfl,gy⟩:=open_int underlying22 (hval 1 _ _ rfl rfl) h1;obtain⟨y,rfl,ny⟩:=dI gy;obtain⟨z,rfl,rfl,rfl,gz⟩:=open_int underlying22 (hval 2 _ _ rfl rfl) h2;obtain⟨z,rfl,nz⟩:=dI gz;clear hA0 hval0;simp only[List.append_nil]at hW';have l0:∀x∈p0,x.block<W.heap.size:=fun x hx=>hW'.lt x (by simp[hx])
 have l1:∀x∈([]:List MemPlace),x.block<W.heap.size:=fun x hx=>by cases hx
 have l2:∀x∈([]:List MemPlace),x.block<W.heap.size:=fun x hx=>by cases hx
 refine (Ex.OV x gx y ny z nz W).mono fun e W' ⟨he,hbl⟩ => ?_
 subst he;have kE:∀{v d ps},DataW.Trod enc prog W 0 (fun _=>true) true 26 v d ps→(∀x∈ps,x.block<W.heap.size)→DataW.Trod enc prog W' 0 (fun b=>decide (b<W.heap.size)) true 26 v d ps :=
  fun h l=>Below.trod mA (by kernel_rfl) (of_decide_eq_true (by kernel_rfl)) h hbl l
 have ku:∀{v d ps},DataW.Trod enc prog W 0 (fun _=>true) true 22 v d ps→(∀x∈ps,x.block<W.heap.size)→DataW.Trod enc prog W' 0 (fun b=>decide (b<W.heap.size)) true 22 v d ps :=
  fun h l=>Below.trod mA (by kernel_rfl) (of_decide_eq_true (by kernel_rfl)) h hbl l
 exact⟨_,rfl,⟨_,_,_,[],_,[],hW',trodAll_mk1 (shut_bool underlying4 _),trodAll_mk3 (kE h0 l0) (ku h1 l1) (ku h2 l2),rfl,hbl.frame _,fun h=>by cases h⟩⟩
theorem jubjubmultiples_holds:Rows.JubjubMultiplesSaid :=
 OpenClaim.holds_of_wide 5 f5 rfl rfl rfl rfl rfl rfl rfl ⟨rfl,rfl,rfl,rfl,rfl⟩ rfl rfl rfl rfl rfl (by kernel_rfl) func5 (by kernel_rfl)
  (of_decide_eq_true (by kernel_rfl)) (by unfold Func.isWrapper; first|(rw[if_pos (by decide +kernel)]; kernel_rfl)|(rw[if_neg (by decide +kernel)]; exact⟨rfl,rfl⟩))
  (fun os started H enc _=>iN os started H enc)
end Go.Proofs.Ytjeplinbleofnaa
