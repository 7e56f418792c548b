/-
  THE STATEMENT PairingPowers, lifted: for any arguments the law answers true and its arguments read as they did. Conditions: the row's own.
-/
import Derived.Test.YtglgakbkdjhojaaGreatPp14
import Derived.Test.YtglgakbkdjhojaaGreatProg
set_option maxRecDepth 100000
set_option linter.unusedVariables false
set_option linter.unusedSimpArgs false
namespace Go.Proofs.YtglgakbkdjhojaaGreat
open Go.Proofs.Tryz
open Go.ChangeShapes Go.WideShapes Go.ChangeAt Go.RowKit
theorem sC (os : Os) (started : os.Started) (H : Type) (enc : TypeId × Value → H) :
  ReturnsInHanded {} checked os 6 .any (Rows.pairingPowersSpec.pre6 enc prog f6 Rows.pairingPowersRow.domain false) (Rows.pairingPowersSpec.post enc prog f6 false true false false):=by
 refine returnsInHanded_of_change (C:=checked) CP started (by kernel_rfl) func6
  (ChangeSpec.witness6 (enc:=enc) (C:=checked) false ⟨#[],#[.agg #[.int .u64 0,.int .u64 0,.int .u64 0,.int .u64 0,.int .u64 0,.int .u64 0,.int .u64 0,.int .u64 0,.int .u64 0,.int .u64 0,.int .u64 0,.int .u64 0,.int .u64 0,.int .u64 0,.int .u64 0,.int .u64 0,.int .u64 0,.int .u64 0,.int .u64 0,.int .u64 0,.int .u64 0,.int .u64 0,.int .u64 0,.int .u64 0,.int .u64 0,.int .u64 0,.int .u64 0,.int .u64 0,.int .u64 0,.int .u64 0,.int .u64 0,.int .u64 0,.int .u64 0,.int .u64 0,.int .u64 0,.int .u64 0,.int .u64 0,.int .u64 0,.int .u64 0,.int .u64 0,.int .u64 0,.int .u64 0,.int .u64 0,.int .u64 0,.int .u64 0,.int .u64 0,.int .u64 0,.int .u64 0],.agg #[.int .u64 0,.int .u64 0,.int .u64 0,.int .u64 0,.int .u64 0,.int .u64 0,.int .u64 0,.int .u64 0,.int .u64 0,.int .u64 0,.int .u64 0,.int .u64 0,.int .u64 0,.int .u64 0,.int .u64 0,.int .u64 0,.int .u64 0,.int .u64 0,.int .u64 0,.int .u64 0,.int .u64 0,.int .u64 0,.int .u64 0,.int .u64 0,.int .u64 0,.int .u64 0,.int .u64 0,.int .u64 0,.int .u64 0,.int .u64 0,.int .u64 0,.int .u64 0,.int .u64 0,.int .u64 0,.int .u64 0,.int .u64 0,.int .u64 0,.int .u64 0,.int .u64 0,.int .u64 0,.int .u64 0,.int .u64 0,.int .u64 0,.int .u64 0,.int .u64 0,.int .u64 0,.int .u64 0,.int .u64 0],.agg #[.int .u64 0,.int .u64 0,.int .u64 0,.int .u64 0]],[]⟩ 8 (by kernel_rfl) (by kernel_rfl) (by kernel_rfl) (by kernel_rfl)) ?_
 intro W base args ds gs before hval0 hW hcnd _;have hval : ∀ (j : Nat) t v,f6.params[j]? = some t → args[j]? = some v → Value.okWide prog W .any base t v:=hval0
 have hW':=hW;obtain ⟨p,q,hA0,hV,rfl,hfz,hnd⟩:=hW;have hA : DataW.TrodAll enc prog W 0 (fun _ => true) true f6.params.toList args.toList ds p:=hA0;rw [params6] at hA hval;obtain ⟨v0,v1,v2,d0,d1,d2,p0,p1,p2,rfl,rfl,rfl,h0,h1,h2⟩:=trodAll_three hA;obtain ⟨rfl,rfl⟩:=trodVars_none hV;obtain ⟨x,rfl⟩:=Ex.XM hval 0 rfl rfl h0;obtain ⟨y,rfl⟩:=Ex.XM hval 1 rfl rfl h1;obtain ⟨z,rfl⟩:=Ex.aNx hval 2 rfl rfl h2;clear hA0 hval0;simp only [List.append_nil] at hW';have l0 : ∀ x ∈ p0,x.block < W.heap.size:=fun x hx => hW'.lt x (by simp [hx])
 have l1 : ∀ x ∈ p1,x.block < W.heap.size:=fun x hx => hW'.lt x (by simp [hx])
 have l2 : ∀ x ∈ p2,x.block < W.heap.size:=fun x hx => hW'.lt x (by simp [hx])
 refine (Ex.Zh x y z W).mono fun e W' ⟨he,hbl⟩ => ?_
 subst he;have kT : ∀ {v d ps},DataW.Trod enc prog W 0 (fun _ => true) true 42 v d ps → (∀ x ∈ ps,x.block < W.heap.size) → DataW.Trod enc prog W' 0 (fun b => decide (b < W.heap.size)) true 42 v d ps :=
  fun h l => Below.trod Le (by kernel_rfl) (of_decide_eq_true (by kernel_rfl)) h hbl l
 have kW : ∀ {v d ps},DataW.Trod enc prog W 0 (fun _ => true) true 24 v d ps → (∀ x ∈ ps,x.block < W.heap.size) → DataW.Trod enc prog W' 0 (fun b => decide (b < W.heap.size)) true 24 v d ps :=
  fun h l => Below.trod Le (by kernel_rfl) (of_decide_eq_true (by kernel_rfl)) h hbl l
 exact ⟨_,rfl,⟨_,_,_,[],_,[],hW',trodAll_mk1 (shut_bool underlying4 _),trodAll_mk3 (kT h0 l0) (kT h1 l1) (kW h2 l2),rfl,hbl.frame _,fun h => by cases h⟩⟩
theorem pairingpowers_holds : Rows.PairingPowersSaid :=
 OpenClaim.holds_of_wide 6 f6 rfl rfl rfl rfl rfl rfl rfl ⟨rfl,rfl,rfl,rfl,rfl⟩ rfl rfl rfl rfl rfl (by kernel_rfl) func6 (by kernel_rfl)
  (of_decide_eq_true (by kernel_rfl)) (by unfold Func.isWrapper; first | (rw [if_pos (by decide +kernel)]; kernel_rfl) | (rw [if_neg (by decide +kernel)]; exact ⟨rfl,rfl⟩))
  (fun os started H enc _ => sC os started H enc)
end Go.Proofs.YtglgakbkdjhojaaGreat
