/- PolyLagrangeProof -/
import Derived.Test.YtjjnbgoepbiojaaPt13
import Derived.Test.YtjjnbgoepbiojaaPt11
import Derived.Test.YtjjnbgoepbiojaaProg
set_option maxRecDepth 100000
set_option linter.unusedVariables false
set_option linter.unusedSimpArgs false
set_option linter.unnecessarySimpa false
namespace Go.Proofs.Ytjjnbgoepbiojaa
open Go.Proofs.Try
open Go.ChangeShapes Go.WideShapes Go.ChangeAt Go.RowKit
theorem mU (os:Os) (started:os.Started) (H:Type) (enc:TypeId×Value→H) :
  ReturnsInHanded {} checked os 7 .any (Rows.polyLagrangeSpec.pre6 enc prog f7 Rows.polyLagrangeRow.domain false) (Rows.polyLagrangeSpec.post enc prog f7 false true false false):=by
 refine returnsInHanded_of_change_sized (C:=checked) dH started (by kernel_rfl) func7
  (ChangeSpec.witness6 (enc:=enc) (C:=checked) false ⟨#[],#[.slice none 0 0,.int .i64 0,.agg #[.int .u64 0,.int .u64 0,.int .u64 0,.int .u64 0]],[]⟩ 8 (by kernel_rfl) (by kernel_rfl) (by kernel_rfl) (by kernel_rfl)) ?_
 intro W base args ds gs before hval0 hW hcnd hsz0 _;have hval:∀(j:Nat) t v,f7.params[j]?=some t→args[j]?=some v→Value.okWide prog W .any base t v:=hval0
 have hW':=hW;obtain⟨p,q,hA0,hV,rfl,hfz,hnd⟩:=hW;have hA:DataW.TrodAll enc prog W 0 (fun _=>true) true f7.params.toList args.toList ds p:=hA0;have hsz:(DataW.weightsEach prog (f7.params.toList++Rows.polyLagrangeSpec.plain.varTypes prog) (ds++gs)).all (· ≤ reachBytes)=true:=hsz0;rw[params7]at hA hval hsz;obtain⟨v0,v1,v2,d0,d1,d2,p0,p1,p2,rfl,rfl,rfl,h0,h1,h2⟩:=trodAll_three hA;obtain⟨rfl,rfl⟩:=trodVars_none hV;obtain⟨bo,bn,bc,rfl⟩:=okWide_slice underlying22 (hval 0 _ _ rfl rfl);obtain⟨z,rfl,rfl,rfl,gz⟩:=open_int underlying3 (hval 1 _ _ rfl rfl) h1;obtain⟨y,gy,rfl⟩:=Ex.tA hval 2 rfl rfl h2;clear hA0 hval0;simp only[List.append_nil]at hW';have l0:∀x∈p0,x.block<W.heap.size:=fun x hx=>hW'.lt x (by simp[hx])
 have l1:∀x∈([]:List MemPlace),x.block<W.heap.size:=fun x hx=>by cases hx
 have l2:∀x∈p2,x.block<W.heap.size:=fun x hx=>hW'.lt x (by simp[hx])
 obtain⟨f,hA1,hA2,hA3⟩:=Ex.tB h0 l0 (fun elems spare e=>sized_slice hsz (j:=0) (t:=22) (e:=25) rfl (by rw[e]; rfl) underlying22);refine (Ex.tM z hA1 (by omega) gy).mono fun e W' ⟨he,hbl⟩ => ?_
 subst he;have kl:∀{v d ps},DataW.Trod enc prog W 0 (fun _=>true) true 22 v d ps→(∀x∈ps,x.block<W.heap.size)→DataW.Trod enc prog W' 0 (fun b=>decide (b<W.heap.size)) true 22 v d ps :=
  fun h l=>Below.trod iA (by kernel_rfl) (of_decide_eq_true (by kernel_rfl)) h hbl l
 have kP:∀{v d ps},DataW.Trod enc prog W 0 (fun _=>true) true 25 v d ps→(∀x∈ps,x.block<W.heap.size)→DataW.Trod enc prog W' 0 (fun b=>decide (b<W.heap.size)) true 25 v d ps :=
  fun h l=>Below.trod iA (by kernel_rfl) (of_decide_eq_true (by kernel_rfl)) h hbl l
 have ki:∀{v d ps},DataW.Trod enc prog W 0 (fun _=>true) true 3 v d ps→(∀x∈ps,x.block<W.heap.size)→DataW.Trod enc prog W' 0 (fun b=>decide (b<W.heap.size)) true 3 v d ps :=
  fun h l=>Below.trod iA (by kernel_rfl) (of_decide_eq_true (by kernel_rfl)) h hbl l
 exact⟨_,rfl,⟨_,_,_,[],_,[],hW',trodAll_mk1 (shut_bool underlying4 _),trodAll_mk3 (kl h0 l0) (ki h1 l1) (kP h2 l2),rfl,hbl.frame _,fun h=>by cases h⟩⟩
theorem polylagrange_holds:Rows.PolyLagrangeSaid :=
 OpenClaim.holds_of_wide 7 f7 rfl rfl rfl rfl rfl rfl rfl ⟨rfl,rfl,rfl,rfl,rfl⟩ rfl rfl rfl rfl rfl (by kernel_rfl) func7 (by kernel_rfl)
  (of_decide_eq_true (by kernel_rfl)) (by unfold Func.isWrapper; first|(rw[if_pos (by decide +kernel)]; kernel_rfl)|(rw[if_neg (by decide +kernel)]; exact⟨rfl,rfl⟩))
  (fun os started H enc _=>mU os started H enc)
end Go.Proofs.Ytjjnbgoepbiojaa
