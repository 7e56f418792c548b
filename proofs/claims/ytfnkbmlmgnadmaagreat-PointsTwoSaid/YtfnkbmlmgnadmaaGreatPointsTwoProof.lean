/-
  THE STATEMENT PointsTwo, lifted: for any arguments the law answers true and its arguments read as they did. Conditions: the row's own.
-/
import Derived.Test.YtfnkbmlmgnadmaaGreatPt13
set_option maxRecDepth 100000
set_option linter.unusedVariables false
set_option linter.unusedSimpArgs false
namespace Go.Proofs.YtfnkbmlmgnadmaaGreat
open Go.Proofs.Tryz
open Go.ChangeShapes Go.WideShapes Go.ChangeAt Go.RowKit
theorem qL (os : Os) (started : os.Started) (H : Type) (enc : TypeId × Value → H) :
  ReturnsInHanded {} checked os 3 .any (Rows.pointsTwoSpec.pre6 enc prog f3 Rows.pointsTwoRow.domain false) (Rows.pointsTwoSpec.post enc prog f3 false true false false):=by
 refine returnsInHanded_of_change (C:=checked) JA started (by kernel_rfl) func3
  (ChangeSpec.witness6 (enc:=enc) (C:=checked) false ⟨#[],#[.agg #[.int .u64 0,.int .u64 0,.int .u64 0,.int .u64 0,.int .u64 0,.int .u64 0,.int .u64 0,.int .u64 0,.int .u64 0,.int .u64 0,.int .u64 0,.int .u64 0,.int .u64 0,.int .u64 0,.int .u64 0,.int .u64 0,.bool false]],[]⟩ 8 (by kernel_rfl) (by kernel_rfl) (by kernel_rfl) (by kernel_rfl)) ?_
 intro W base args ds gs before hval0 hW hcnd _;have hval : ∀ (j : Nat) t v,f3.params[j]? = some t → args[j]? = some v → Value.okWide prog W .any base t v:=hval0
 have hW':=hW;obtain ⟨p,q,hA0,hV,rfl,hfz,hnd⟩:=hW;have hA : DataW.TrodAll enc prog W 0 (fun _ => true) true f3.params.toList args.toList ds p:=hA0;rw [params3] at hA hval;obtain ⟨v0,d0,rfl,rfl,h0⟩:=trodAll_one hA;obtain ⟨rfl,rfl⟩:=trodVars_none hV;obtain ⟨x,rfl⟩:=Ex.Rc hval 0 rfl rfl h0;clear hA0 hval0;simp only [List.append_nil] at hW';have l0 : ∀ x ∈ p,x.block < W.heap.size:=fun x hx => hW'.lt x (by simp [hx])
 refine (Ex.OY x W).mono fun e W' ⟨he,hbl⟩ => ?_
 subst he;have kJ : ∀ {v d ps},DataW.Trod enc prog W 0 (fun _ => true) true 28 v d ps → (∀ x ∈ ps,x.block < W.heap.size) → DataW.Trod enc prog W' 0 (fun b => decide (b < W.heap.size)) true 28 v d ps :=
  fun h l => Below.trod Si (by kernel_rfl) (of_decide_eq_true (by kernel_rfl)) h hbl l
 exact ⟨_,rfl,⟨_,_,_,[],_,[],hW',trodAll_mk1 (shut_bool underlying4 _),trodAll_mk1 (kJ h0 l0),rfl,hbl.frame _,fun h => by cases h⟩⟩
theorem pointstwo_holds : Rows.PointsTwoSaid :=
 OpenClaim.holds_of_wide 3 f3 rfl rfl rfl rfl rfl rfl rfl ⟨rfl,rfl,rfl,rfl,rfl⟩ rfl rfl rfl rfl rfl (by kernel_rfl) func3 (by kernel_rfl)
  (of_decide_eq_true (by kernel_rfl)) (by unfold Func.isWrapper; first | (rw [if_pos (by decide +kernel)]; kernel_rfl) | (rw [if_neg (by decide +kernel)]; exact ⟨rfl,rfl⟩))
  (fun os started H enc _ => qL os started H enc)
end Go.Proofs.YtfnkbmlmgnadmaaGreat
