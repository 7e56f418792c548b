/-
  The call Sqrt. Conditions: words below 2^64.
-/
import Derived.Test.YtgacpjmggdmgdaaApi3
namespace Go.Proofs.Ytgacpjmggdmgdaa
set_option linter.unusedVariables false
set_option linter.unusedSimpArgs false
open Go.RowKit

/-- what cycleOf answers: how often 2 divides the modulus less 1, and an element of that order -/
def CycPost (F : FC) (w : World) (e : Ending) (w' : World) : Prop :=
  ∃ T H c0 c1 c2 c3 : Nat, e = .returned (.tuple #[.int .i64 T, .agg #[.int .u64 c0, .int .u64 c1, .int .u64 c2, .int .u64 c3]]) ∧ ok4 c0 c1 c2 c3 ∧ 1 ≤ T ∧ T ≤ 200 ∧ F.M = 2 ^ T * (2 * H + 1) + 1 ∧ val4 c0 c1 c2 c3 ^ 2 ^ (T - 1) % F.M = F.M - 1 ∧ Below w.heap.size w w'
theorem pm_val {n b e v : Nat} (he : e < 2 ^ 256) (h : Nat.beq (pm n 256 b e) v = true) : b ^ e % n = v := by
  rw [← pm_eq n 256 b e he]; exact Nat.eq_of_beq_eq_true h
theorem cyc_R' (e : Nat) (he : e = 134217728) : val4 11229192882073836016 4624371214017703636 63235024940837564 3043318377369730693 ^ e % FR.M = FR.M - 1 :=
  pm_val (n := FR.M) (b := val4 11229192882073836016 4624371214017703636 63235024940837564 3043318377369730693) (e := e) (v := FR.M - 1) (by rw [he]; decide) (by rw [he]; kernel_rfl)
theorem cyc_R (T : Nat) (hT : T = 28) : val4 11229192882073836016 4624371214017703636 63235024940837564 3043318377369730693 ^ 2 ^ (T - 1) % FR.M = FR.M - 1 := cyc_R' (2 ^ (T - 1)) (by rw [hT])
theorem cyc_P : val4 4332616871279656262 10917124144477883021 13281191951274694749 3486998266802970665 ^ 2 ^ (1 - 1) % FP.M = FP.M - 1 := by kernel_rfl
theorem low_neg {F : FC} (hF : F.Ok) {v : Nat} (hv : v < F.M) (h : lowB F.M v = false) : (0 + F.M - v) % F.M * ((0 + F.M - v) % F.M) % F.M = v * v % F.M ∧ (0 + F.M - v) % F.M < F.M ∧ lowB F.M ((0 + F.M - v) % F.M) = true := by
  unfold lowB at *
  have h' : ¬ v ≤ (0 + F.M - v) % F.M := of_decide_eq_false h
  have hp := hF.pos
  have v0 : 0 < v := by
    rcases Nat.eq_zero_or_pos v with q | q
    · subst q; exact absurd (Nat.zero_le _) h'
    · exact q
  rw [Nat.mod_eq_of_lt (show 0 + F.M - v < F.M by omega)] at *
  refine ⟨?_, by omega, ?_⟩
  · obtain ⟨d, hd⟩ : ∃ d, F.M = v + d := ⟨F.M - v, by omega⟩
    have hdv : d < v := by omega
    obtain ⟨e, rfl⟩ : ∃ e, v = d + e := ⟨v - d, by omega⟩
    rw [show 0 + F.M - (d + e) = d by omega]
    have : (d + e) * (d + e) = d * d + F.M * e := by
      rw [hd]; simp only [Nat.add_mul, Nat.mul_add, Nat.mul_comm e d]; omega
    rw [this, Nat.add_mul_mod_self_left]
  · rw [decide_eq_true_iff, show 0 + F.M - (0 + F.M - v) = v by omega, Nat.mod_eq_of_lt hv]; omega
end Go.Proofs.Ytgacpjmggdmgdaa
