/-
  THE STATEMENT EddsaBytes, lifted: for any arguments the law answers true and its arguments read as they did. Conditions: the row's own.
-/
import Derived.Test.YtpjlhhpjpnacmaaGreatEb15
import Derived.Test.YtpjlhhpjpnacmaaGreatProg
set_option maxRecDepth 100000
set_option linter.unusedVariables false
set_option linter.unusedSimpArgs false
set_option linter.unnecessarySimpa false
namespace Go.Proofs.YtpjlhhpjpnacmaaGreat
open Go.Proofs.Tryz
open Go.ChangeShapes Go.WideShapes Go.ChangeAt Go.RowKit
theorem pH (os:Os) (started:os.Started) (H:Type) (enc:TypeId×Value→H) :
  ReturnsInHanded {} checked os 3 .any (Rows.eddsaBytesSpec.pre6 enc prog f3 Rows.eddsaBytesRow.domain false) (Rows.eddsaBytesSpec.post enc prog f3 false true false false):=by
 refine returnsInHanded_of_change_sized (C:=checked) own started (by kernel_rfl) func3
  (ChangeSpec.witness6 (enc:=enc) (C:=checked) false ⟨#[],#[.agg #[.int .u64 0,.int .u64 0,.int .u64 0,.int .u64 0,.int .u64 0,.int .u64 0,.int .u64 0,.int .u64 0,.int .u64 0,.int .u64 0,.int .u64 0,.int .u64 0],.slice none 0 0],[]⟩ 8 (by kernel_rfl) (by kernel_rfl) (by kernel_rfl) (by kernel_rfl)) ?_
 intro W base args ds gs before hval0 hW hcnd hsz0 _;have hval:∀(j:Nat) t v,f3.params[j]?=some t→args[j]?=some v→Value.okWide prog W .any base t v:=hval0
 have hW':=hW;obtain⟨p,q,hA0,hV,rfl,hfz,hnd⟩:=hW;have hA:DataW.TrodAll enc prog W 0 (fun _=>true) true f3.params.toList args.toList ds p:=hA0;have hsz:(DataW.weightsEach prog (f3.params.toList++Rows.eddsaBytesSpec.plain.varTypes prog) (ds++gs)).all (· ≤ reachBytes)=true:=hsz0;rw[params3]at hA hval hsz;obtain⟨v0,v1,d0,d1,p0,p1,rfl,rfl,rfl,h0,h1⟩:=trodAll_two hA;obtain⟨rfl,rfl⟩:=trodVars_none hV;obtain⟨x,gx,rfl⟩:=Ex.YR hval 0 rfl rfl h0;obtain⟨bo,bn,bc,rfl⟩:=okWide_slice underlying30 (hval 1 _ _ rfl rfl);clear hA0 hval0;simp only[List.append_nil]at hW';have l0:∀x∈p0,x.block<W.heap.size:=fun x hx=>hW'.lt x (by simp[hx])
 have l1:∀x∈p1,x.block<W.heap.size:=fun x hx=>hW'.lt x (by simp[hx])
 obtain⟨f,hbv,_⟩:=AL h1 l1 (fun elems spare e=>sized_slice hsz (j:=1) (t:=30) (e:=5) rfl (by rw[e]; rfl) underlying30);have hcall:Calls prog 3 #[.agg (Ex.aB (Ex.fB x)).toArray,.slice bo bn bc] W (fun e w'=>e=.returned (.bool true)∧Below W.heap.size W w'):=Ex.tG gx.1 gx.2.1 gx.2.2 hbv;refine hcall.mono fun e W' ⟨he,hbl⟩ => ?_
 subst he;have kE:∀{v d ps},DataW.Trod enc prog W 0 (fun _=>true) true 29 v d ps→(∀x∈ps,x.block<W.heap.size)→DataW.Trod enc prog W' 0 (fun b=>decide (b<W.heap.size)) true 29 v d ps :=
  fun h l=>Below.trod JG (by kernel_rfl) (of_decide_eq_true (by kernel_rfl)) h hbl l
 have kb:∀{v d ps},DataW.Trod enc prog W 0 (fun _=>true) true 30 v d ps→(∀x∈ps,x.block<W.heap.size)→DataW.Trod enc prog W' 0 (fun b=>decide (b<W.heap.size)) true 30 v d ps :=
  fun h l=>Below.trod JG (by kernel_rfl) (of_decide_eq_true (by kernel_rfl)) h hbl l
 exact⟨_,rfl,⟨_,_,_,[],_,[],hW',trodAll_mk1 (shut_bool underlying4 _),trodAll_mk2 (kE h0 l0) (kb h1 l1),rfl,hbl.frame _,fun h=>by cases h⟩⟩
theorem eddsabytes_holds:Rows.EddsaBytesSaid :=
 OpenClaim.holds_of_wide 3 f3 rfl rfl rfl rfl rfl rfl rfl ⟨rfl,rfl,rfl,rfl,rfl⟩ rfl rfl rfl rfl rfl (by kernel_rfl) func3 (by kernel_rfl)
  (of_decide_eq_true (by kernel_rfl)) (by unfold Func.isWrapper; first|(rw[if_pos (by decide +kernel)]; kernel_rfl)|(rw[if_neg (by decide +kernel)]; exact⟨rfl,rfl⟩))
  (fun os started H enc _=>pH os started H enc)
end Go.Proofs.YtpjlhhpjpnacmaaGreat
