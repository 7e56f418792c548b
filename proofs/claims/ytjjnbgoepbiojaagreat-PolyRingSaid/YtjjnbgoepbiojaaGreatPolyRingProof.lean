/-
  THE STATEMENT PolyRing, lifted: for any arguments the law answers true and its arguments read as they did. Conditions: the row's own.
-/
import Derived.Test.YtjjnbgoepbiojaaGreatPr13
import Derived.Test.YtjjnbgoepbiojaaGreatProg
set_option maxRecDepth 100000
set_option linter.unusedVariables false
set_option linter.unusedSimpArgs false
set_option linter.unnecessarySimpa false
namespace Go.Proofs.YtjjnbgoepbiojaaGreat
open Go.Proofs.Tryz
open Go.ChangeShapes Go.WideShapes Go.ChangeAt Go.RowKit
theorem qK (os:Os) (started:os.Started) (H:Type) (enc:TypeId×Value→H) :
  ReturnsInHanded {} checked os 3 .any (Rows.polyRingSpec.pre6 enc prog f3 Rows.polyRingRow.domain false) (Rows.polyRingSpec.post enc prog f3 false true false false):=by
 refine returnsInHanded_of_change_sized (C:=checked) bJ started (by kernel_rfl) func3
  (ChangeSpec.witness6 (enc:=enc) (C:=checked) false ⟨#[],#[.slice none 0 0,.slice none 0 0,.agg #[.int .u64 0,.int .u64 0,.int .u64 0,.int .u64 0]],[]⟩ 8 (by kernel_rfl) (by kernel_rfl) (by kernel_rfl) (by kernel_rfl)) ?_
 intro W base args ds gs before hval0 hW hcnd hsz0 _;have hval:∀(j:Nat) t v,f3.params[j]?=some t→args[j]?=some v→Value.okWide prog W .any base t v:=hval0
 have hW':=hW;obtain⟨p,q,hA0,hV,rfl,hfz,hnd⟩:=hW;have hA:DataW.TrodAll enc prog W 0 (fun _=>true) true f3.params.toList args.toList ds p:=hA0;have hsz:(DataW.weightsEach prog (f3.params.toList++Rows.polyRingSpec.plain.varTypes prog) (ds++gs)).all (· ≤ reachBytes)=true:=hsz0;rw[params3]at hA hval hsz;obtain⟨v0,v1,v2,d0,d1,d2,p0,p1,p2,rfl,rfl,rfl,h0,h1,h2⟩:=trodAll_three hA;obtain⟨rfl,rfl⟩:=trodVars_none hV;obtain⟨bo0,bn0,bc0,rfl⟩:=okWide_slice underlying22 (hval 0 _ _ rfl rfl);obtain⟨bo1,bn1,bc1,rfl⟩:=okWide_slice underlying22 (hval 1 _ _ rfl rfl);obtain⟨y2,g2,rfl⟩:=Ex.Hn hval 2 rfl rfl h2;clear hA0 hval0;simp only[List.append_nil]at hW';have l0:∀x∈p0,x.block<W.heap.size:=fun x hx=>hW'.lt x (by simp[hx])
 have l1:∀x∈p1,x.block<W.heap.size:=fun x hx=>hW'.lt x (by simp[hx])
 have l2:∀x∈p2,x.block<W.heap.size:=fun x hx=>hW'.lt x (by simp[hx])
 obtain⟨f0,lv0,nz0,sz0⟩:=Ex.AI h0 l0 (fun elems spare e=>sized_slice hsz (j:=0) (t:=22) (e:=25) rfl (by rw[e]; rfl) underlying22);obtain⟨f1,lv1,nz1,sz1⟩:=Ex.AI h1 l1 (fun elems spare e=>sized_slice hsz (j:=1) (t:=22) (e:=25) rfl (by rw[e]; rfl) underlying22);refine (Ex.DO lv0 lv1 (fun n m e=>by cases e; exact nz0 rfl) (fun n m e=>by cases e; exact nz1 rfl) (by omega) (by omega) g2).mono fun e W' ⟨he,hbl⟩ => ?_
 subst he;have kP:∀{v d ps},DataW.Trod enc prog W 0 (fun _=>true) true 25 v d ps→(∀x∈ps,x.block<W.heap.size)→DataW.Trod enc prog W' 0 (fun b=>decide (b<W.heap.size)) true 25 v d ps :=
  fun h l=>Below.trod IF (by kernel_rfl) (of_decide_eq_true (by kernel_rfl)) h hbl l
 have kV:∀{v d ps},DataW.Trod enc prog W 0 (fun _=>true) true 22 v d ps→(∀x∈ps,x.block<W.heap.size)→DataW.Trod enc prog W' 0 (fun b=>decide (b<W.heap.size)) true 22 v d ps :=
  fun h l=>Below.trod IF (by kernel_rfl) (of_decide_eq_true (by kernel_rfl)) h hbl l
 exact⟨_,rfl,⟨_,_,_,[],_,[],hW',trodAll_mk1 (shut_bool underlying4 _),trodAll_mk3 (kV h0 l0) (kV h1 l1) (kP h2 l2),rfl,hbl.frame _,fun h=>by cases h⟩⟩
theorem polyring_holds:Rows.PolyRingSaid :=
 OpenClaim.holds_of_wide 3 f3 rfl rfl rfl rfl rfl rfl rfl ⟨rfl,rfl,rfl,rfl,rfl⟩ rfl rfl rfl rfl rfl (by kernel_rfl) func3 (by kernel_rfl)
  (of_decide_eq_true (by kernel_rfl)) (by unfold Func.isWrapper; first|(rw[if_pos (by decide +kernel)]; kernel_rfl)|(rw[if_neg (by decide +kernel)]; exact⟨rfl,rfl⟩))
  (fun os started H enc _=>qK os started H enc)
end Go.Proofs.YtjjnbgoepbiojaaGreat
