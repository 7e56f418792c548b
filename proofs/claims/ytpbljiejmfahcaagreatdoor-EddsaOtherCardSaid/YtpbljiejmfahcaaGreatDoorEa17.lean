/- Ea17 -/
import Derived.Test.YtpbljiejmfahcaaGreatDoorEa15
import Derived.Test.YtpbljiejmfahcaaGreatDoorProg
set_option maxRecDepth 100000
set_option linter.unusedVariables false
set_option linter.unusedSimpArgs false
set_option linter.unnecessarySimpa false
namespace Go.Proofs.YtpbljiejmfahcaaGreatDoor
open Go.Proofs.Tryz
open Go.ChangeShapes Go.WideShapes Go.ChangeAt Go.RowKit
theorem wM (os:Os) (started:os.Started) (H:Type) (enc:TypeId×Value→H) :
  ReturnsInHanded {} checked os 5 .any (fun w args=>(Rows.eddsaOtherSpec.pre enc prog f5 [] false w args∧laidMetH prog iW w)∧sizedMet enc prog f5 (OpenSpec.ofChange Rows.eddsaOtherSpec) false w args)
   (Rows.eddsaOtherSpec.post enc prog f5 false true false false):=by
 refine returnsInHanded_of_change_and (C:=checked) (X:=fun w _=>laidMetH prog iW w) (fun _ _ _ hh h=>h.of_heap hh) own started (by kernel_rfl) func5
  (ChangeSpec.witness_shaped (enc:=enc) (C:=checked) (os:=os) (X:=fun w _=>laidMetH prog iW w) false (World.doorLaid prog 400 os) #[.agg #[.int .u64 0,.int .u64 0,.int .u64 0,.int .u64 0],.slice none 0 0,.slice none 0 0] 8 rfl (World.shaped_of_RefB (by kernel_rfl) (by kernel_rfl)) (by kernel_rfl) (by kernel_rfl) (by kernel_rfl) (GU os _)) ?_
 intro W base args ds gs before hval0 hW _ hsz0 hL _;have hDj:Ex.Dbj W:=tO hL;have hval:∀(j:Nat) t v,f5.params[j]?=some t→args[j]?=some v→Value.okWide prog W .any base t v:=hval0
 have hW':=hW;obtain⟨p,q,hA0,hV,rfl,_,_⟩:=hW;have hA:DataW.TrodAll enc prog W 0 (fun _=>true) true f5.params.toList args.toList ds p:=hA0;have hsz:(DataW.weightsEach prog (f5.params.toList++Rows.eddsaOtherSpec.plain.varTypes prog) (ds++gs)).all (· ≤ reachBytes)=true:=hsz0;rw[params5]at hA hval hsz;obtain⟨v0,v1,v2,d0,d1,d2,p0,p1,p2,rfl,rfl,rfl,h0,h1,h2⟩:=trodAll_three hA;obtain⟨rfl,rfl⟩:=trodVars_none hV;obtain⟨y0,g0,rfl⟩:=Ex.AR hval 0 rfl rfl h0;obtain⟨bo1,bn1,bc1,rfl⟩:=okWide_slice underlying25 (hval 1 _ _ rfl rfl);obtain⟨bo2,bn2,bc2,rfl⟩:=okWide_slice underlying25 (hval 2 _ _ rfl rfl);clear hA0 hval0;simp only[List.append_nil]at hW';have l0:∀x∈p0,x.block<W.heap.size:=fun x hx=>hW'.lt x (by simp[hx])
 have l1:∀x∈p1,x.block<W.heap.size:=fun x hx=>hW'.lt x (by simp[hx])
 have l2:∀x∈p2,x.block<W.heap.size:=fun x hx=>hW'.lt x (by simp[hx])
 obtain⟨f1,bv1,nz1⟩:=mU h1 l1 (fun elems spare e=>sized_slice hsz (j:=1) (t:=25) (e:=5) rfl (by rw[e]; rfl) underlying25);obtain⟨f2,bv2,nz2⟩:=mU h2 l2 (fun elems spare e=>sized_slice hsz (j:=2) (t:=25) (e:=5) rfl (by rw[e]; rfl) underlying25);refine Calls.mono (Ex.EW bv1 bv2 g0 hDj) fun e W' ⟨he,hbl⟩ => ?_
 subst he;have kB:∀{v d ps},DataW.Trod enc prog W 0 (fun _=>true) true 25 v d ps→(∀x∈ps,x.block<W.heap.size)→DataW.Trod enc prog W' 0 (fun b=>decide (b<W.heap.size)) true 25 v d ps :=
  fun h l=>Below.trod uG (by kernel_rfl) (of_decide_eq_true (by kernel_rfl)) h hbl l
 have kW:∀{v d ps},DataW.Trod enc prog W 0 (fun _=>true) true 24 v d ps→(∀x∈ps,x.block<W.heap.size)→DataW.Trod enc prog W' 0 (fun b=>decide (b<W.heap.size)) true 24 v d ps :=
  fun h l=>Below.trod uG (by kernel_rfl) (of_decide_eq_true (by kernel_rfl)) h hbl l
 exact⟨_,rfl,⟨_,_,_,[],_,[],hW',trodAll_mk1 (shut_bool underlying4 _),trodAll_mk3 (kW h0 l0) (kB h1 l1) (kB h2 l2),rfl,hbl.frame _,fun h=>by cases h⟩⟩
theorem pA:Rows.EddsaOtherSaid :=
 OpenClaim.holds_of_wide 5 f5 rfl rfl rfl rfl rfl rfl rfl ⟨rfl,rfl,rfl,rfl,rfl⟩ rfl rfl rfl rfl rfl (by kernel_rfl) func5 (by kernel_rfl)
  (of_decide_eq_true (by kernel_rfl)) (by unfold Func.isWrapper; first|(rw[if_pos (by decide +kernel)]; kernel_rfl)|(rw[if_neg (by decide +kernel)]; exact⟨rfl,rfl⟩))
  (fun os started H enc _=>wM os started H enc)
end Go.Proofs.YtpbljiejmfahcaaGreatDoor
