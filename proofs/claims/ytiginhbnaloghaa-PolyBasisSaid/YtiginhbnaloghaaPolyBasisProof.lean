/-
  THE STATEMENT PolyBasis, lifted: for any arguments the law answers true and its arguments read as they did. Conditions: the row's own.
-/
import Derived.Test.YtiginhbnaloghaaPb09
import Derived.Test.YtiginhbnaloghaaProg
set_option maxRecDepth 100000
set_option linter.unusedVariables false
set_option linter.unusedSimpArgs false
set_option linter.unnecessarySimpa false
namespace Go.Proofs.Ytiginhbnaloghaa
open Go.Proofs.Try
open Go.ChangeShapes Go.WideShapes Go.ChangeAt Go.RowKit
theorem lM (os:Os) (started:os.Started) (H:Type) (enc:TypeId×Value→H) :
  ReturnsInHanded {} checked os 5 .any (Rows.polyBasisSpec.pre6 enc prog f5 Rows.polyBasisRow.domain false) (Rows.polyBasisSpec.post enc prog f5 false true false false):=by
 refine returnsInHanded_of_change (C:=checked) mV started (by kernel_rfl) func5
  (ChangeSpec.witness6 (enc:=enc) (C:=checked) false ⟨#[],#[.int .i64 0,.int .i64 0,.agg #[.int .u64 0,.int .u64 0,.int .u64 0,.int .u64 0],.agg #[.int .i64 0,.int .i64 0,.int .i64 0,.int .i64 0]],[]⟩ 8 (by kernel_rfl) (by kernel_rfl) (by kernel_rfl) (by kernel_rfl)) ?_
 intro W base args ds gs before hval0 hW hcnd _;have hval:∀(j:Nat) t v,f5.params[j]?=some t→args[j]?=some v→Value.okWide prog W .any base t v:=hval0
 have hW':=hW;obtain⟨p,q,hA0,hV,rfl,hfz,hnd⟩:=hW;have hA:DataW.TrodAll enc prog W 0 (fun _=>true) true f5.params.toList args.toList ds p:=hA0;rw[params5]at hA hval;obtain⟨v0,v1,v2,v3,d0,d1,d2,d3,p0,p1,p2,p3,rfl,rfl,rfl,h0,h1,h2,h3⟩:=trodAll_four hA;obtain⟨rfl,rfl⟩:=trodVars_none hV;obtain⟨x,rfl,rfl,rfl,gx⟩:=open_int underlying3 (hval 0 _ _ rfl rfl) h0;obtain⟨y,rfl,rfl,rfl,gy⟩:=open_int underlying3 (hval 1 _ _ rfl rfl) h1;obtain⟨z,gz,rfl⟩:=Ex.SO hval 2 rfl rfl h2;obtain⟨u,rfl⟩:=Ex.MF hval 3 rfl rfl h3;clear hA0 hval0;simp only[List.append_nil]at hW';have l0:∀x∈([]:List MemPlace),x.block<W.heap.size:=fun x hx=>by cases hx
 have l1:∀x∈([]:List MemPlace),x.block<W.heap.size:=fun x hx=>by cases hx
 have l2:∀x∈p2,x.block<W.heap.size:=fun x hx=>hW'.lt x (by simp[hx])
 have l3:∀x∈p3,x.block<W.heap.size:=fun x hx=>hW'.lt x (by simp[hx])
 refine (Ex.uQ x y (Ex.ZM gy) z gz u W).mono fun e W' ⟨he,hbl⟩ => ?_
 subst he;have kA:∀{v d ps},DataW.Trod enc prog W 0 (fun _=>true) true 45 v d ps→(∀x∈ps,x.block<W.heap.size)→DataW.Trod enc prog W' 0 (fun b=>decide (b<W.heap.size)) true 45 v d ps :=
  fun h l=>Below.trod rL (by kernel_rfl) (of_decide_eq_true (by kernel_rfl)) h hbl l
 have kP:∀{v d ps},DataW.Trod enc prog W 0 (fun _=>true) true 25 v d ps→(∀x∈ps,x.block<W.heap.size)→DataW.Trod enc prog W' 0 (fun b=>decide (b<W.heap.size)) true 25 v d ps :=
  fun h l=>Below.trod rL (by kernel_rfl) (of_decide_eq_true (by kernel_rfl)) h hbl l
 have ki:∀{v d ps},DataW.Trod enc prog W 0 (fun _=>true) true 3 v d ps→(∀x∈ps,x.block<W.heap.size)→DataW.Trod enc prog W' 0 (fun b=>decide (b<W.heap.size)) true 3 v d ps :=
  fun h l=>Below.trod rL (by kernel_rfl) (of_decide_eq_true (by kernel_rfl)) h hbl l
 exact⟨_,rfl,⟨_,_,_,[],_,[],hW',trodAll_mk1 (shut_bool underlying4 _),trodAll_mk4 (ki h0 l0) (ki h1 l1) (kP h2 l2) (kA h3 l3),rfl,hbl.frame _,fun h=>by cases h⟩⟩
theorem polybasis_holds:Rows.PolyBasisSaid :=
 OpenClaim.holds_of_wide 5 f5 rfl rfl rfl rfl rfl rfl rfl ⟨rfl,rfl,rfl,rfl,rfl⟩ rfl rfl rfl rfl rfl (by kernel_rfl) func5 (by kernel_rfl)
  (of_decide_eq_true (by kernel_rfl)) (by unfold Func.isWrapper; first|(rw[if_pos (by decide +kernel)]; kernel_rfl)|(rw[if_neg (by decide +kernel)]; exact⟨rfl,rfl⟩))
  (fun os started H enc _=>lM os started H enc)
end Go.Proofs.Ytiginhbnaloghaa
