/-
  THE STATEMENT FieldBack, lifted: for any arguments the law answers true and its arguments read as they did. Conditions: the row's own.
-/
import Derived.Test.YtkklbhgneidbbaaFBack
import Derived.Test.YtkklbhgneidbbaaProofF
import Derived.Test.YtkklbhgneidbbaaProofB
namespace Go.Proofs.Ytkklbhgneidbbaa
set_option linter.unusedVariables false
open Go.ChangeShapes Go.WideShapes Go.ChangeAt Go.RowKit

set_option maxRecDepth 100000 in
theorem back_lifted (os : Os) (started : os.Started) (H : Type) (enc : TypeId × Value → H) :
    ReturnsInHanded {} Try.checked os 10 .any (Rows.fieldBackSpec.pre6 enc Try.prog Try.f10 Rows.fieldBackRow.domain false) (Rows.fieldBackSpec.post enc Try.prog Try.f10 false true false false) := by
  refine returnsInHanded_of_change (C := Try.checked) own started (by kernel_rfl) Try.func10
    (ChangeSpec.witness6 (enc := enc) (C := Try.checked) false ⟨#[], #[.int .i64 0, .agg #[.int .u64 0, .int .u64 0, .int .u64 0, .int .u64 0], .slice none 0 0], []⟩ 8 (by kernel_rfl) (by kernel_rfl) (by kernel_rfl) (by kernel_rfl)) ?_
  intro W base args ds gs before hval0 hW hcnd _
  have hval : ∀ (j : Nat) t v, Try.f10.params[j]? = some t → args[j]? = some v → Value.okWide Try.prog W .any base t v := hval0
  have hW' := hW
  obtain ⟨p, q, hA0, hV, rfl, hfz, hnd⟩ := hW
  have hA : DataW.TrodAll enc Try.prog W 0 (fun _ => true) true Try.f10.params.toList args.toList ds p := hA0
  rw [Try.params10] at hA hval
  obtain ⟨v0, v1, v2, d0, d1, d2, p0, p1, p2, rfl, rfl, rfl, h0, h1, h2⟩ := trodAll_three hA
  obtain ⟨rfl, rfl⟩ := trodVars_none hV
  obtain ⟨a, rfl, rfl, rfl, ga⟩ := open_int Try.underlying22 (hval 0 _ _ rfl rfl) h0
  obtain ⟨b0, b1, b2, b3, rfl, gb⟩ := open_word' (P := Try.prog) (t := 25) (e := 23) Try.underlying25 Try.underlying23 fe_cells u64_cells hval 1 rfl rfl h1
  obtain ⟨co, cn, cc, rfl⟩ := okWide_slice Try.underlying52 (hval 2 _ _ rfl rfl)
  clear hA0 hval0
  simp only [List.append_nil] at hW'
  have l0 : ∀ x ∈ ([] : List MemPlace), x.block < W.heap.size := fun x hx => by cases hx
  have l1 : ∀ x ∈ p1, x.block < W.heap.size := fun x hx => hW'.lt x (by simp [hx])
  have l2 : ∀ x ∈ p2, x.block < W.heap.size := fun x hx => hW'.lt x (by simp [hx])
  refine (back_calls a b0 b1 b2 b3 gb _ W (open_bytes h2 l2)).mono fun e W' ⟨he, hbl⟩ => ?_
  subst he
  have kF : ∀ {v d ps}, DataW.Trod enc Try.prog W 0 (fun _ => true) true 25 v d ps → (∀ x ∈ ps, x.block < W.heap.size) → DataW.Trod enc Try.prog W' 0 (fun b => decide (b < W.heap.size)) true 25 v d ps :=
    fun h l => Below.trod laidOut (by kernel_rfl) (of_decide_eq_true (by kernel_rfl)) h hbl l
  have kb : ∀ {v d ps}, DataW.Trod enc Try.prog W 0 (fun _ => true) true 52 v d ps → (∀ x ∈ ps, x.block < W.heap.size) → DataW.Trod enc Try.prog W' 0 (fun b => decide (b < W.heap.size)) true 52 v d ps :=
    fun h l => Below.trod laidOut (by kernel_rfl) (of_decide_eq_true (by kernel_rfl)) h hbl l
  have kf : ∀ {v d ps}, DataW.Trod enc Try.prog W 0 (fun _ => true) true 22 v d ps → (∀ x ∈ ps, x.block < W.heap.size) → DataW.Trod enc Try.prog W' 0 (fun b => decide (b < W.heap.size)) true 22 v d ps :=
    fun h l => Below.trod laidOut (by kernel_rfl) (of_decide_eq_true (by kernel_rfl)) h hbl l
  exact ⟨_, rfl, ⟨_, _, _, [], _, [], hW', trodAll_mk1 (shut_bool Try.underlying4 _), trodAll_mk3 (kf h0 l0) (kF h1 l1) (kb h2 l2), rfl, hbl.frame _, fun h => by cases h⟩⟩

theorem back_holds : Rows.FieldBackSaid :=
  OpenClaim.holds_of_wide 10 Try.f10 rfl rfl rfl rfl rfl rfl rfl ⟨rfl, rfl, rfl, rfl, rfl⟩ rfl rfl rfl rfl rfl (by kernel_rfl) Try.func10 (by kernel_rfl)
    (of_decide_eq_true (by kernel_rfl)) (by unfold Func.isWrapper; first | (rw [if_pos (by decide +kernel)]; kernel_rfl) | (rw [if_neg (by decide +kernel)]; exact ⟨rfl, rfl⟩))
    (fun os started H enc _ => back_lifted os started H enc)
#print axioms back_holds
end Go.Proofs.Ytkklbhgneidbbaa
