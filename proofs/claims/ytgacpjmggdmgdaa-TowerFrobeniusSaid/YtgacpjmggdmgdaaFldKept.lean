/-
  Plain numbers: elements that are kept times 2^256, their products and what they stand for. No program in sight. Conditions: none.
-/
import Derived.Test.YtgacpjmggdmgdaaFldNum
import Derived.Test.YtgacpjmggdmgdaaFldLaw
namespace Go.Proofs.Ytgacpjmggdmgdaa
set_option linter.unusedVariables false

/-- an element as it is kept -/
def kp (F : FC) (a : Nat) : Nat := a * F.R % F.M
section
variable {F : FC}
theorem kp_lt (hF : F.Ok) (a : Nat) : kp F a < F.M := Nat.mod_lt _ (by have := hF.gt; omega)
theorem ri_cancel (hF : F.Ok) (x : Nat) : x * F.R * F.Ri % F.M = x % F.M := by
  rw [Nat.mul_assoc, Nat.mul_mod, hF.ri, Nat.mul_one, Nat.mod_mod]
theorem cg_mul {M a b c d : Nat} (h : a % M = b % M) (h' : c % M = d % M) : a * c % M = b * d % M := by rw [Nat.mul_mod, h, h', ← Nat.mul_mod]
theorem cg_mod (M a : Nat) : a % M % M = a % M := Nat.mod_mod _ _
theorem kp_times (hF : F.Ok) (a b : Nat) : kp F a * kp F b * F.Ri % F.M = kp F (a * b % F.M) := by
  have h : kp F a * kp F b * F.Ri % F.M = a * F.R * (b * F.R) * F.Ri % F.M := cg_mul (cg_mul (cg_mod _ _) (cg_mod _ _)) rfl
  have e : a * F.R * (b * F.R) = a * b * F.R * F.R := by rw [Nat.mul_mul_mul_comm, Nat.mul_assoc (a * b)]
  rw [h, e, ri_cancel hF]
  unfold kp
  rw [mul_mod_l]
theorem kp_into (hF : F.Ok) (a : Nat) : a * val4 F.s0 F.s1 F.s2 F.s3 * F.Ri % F.M = kp F a := by
  have h : a * val4 F.s0 F.s1 F.s2 F.s3 * F.Ri % F.M = a * (F.R * F.R) * F.Ri % F.M := by rw [hF.sq]; exact cg_mul (cg_mul rfl (cg_mod _ _)) rfl
  rw [h, ← Nat.mul_assoc, ri_cancel hF]
  rfl
theorem kp_out (hF : F.Ok) (a : Nat) (h : a < F.M) : kp F a * 1 * F.Ri % F.M = a := by
  have h1 : kp F a * 1 * F.Ri % F.M = a * F.R * F.Ri % F.M := by rw [Nat.mul_one]; exact cg_mul (cg_mod _ _) rfl
  rw [h1, ri_cancel hF, Nat.mod_eq_of_lt h]
theorem kp_product (hF : F.Ok) (a b : Nat) : kp F a * b * F.Ri % F.M = a * b % F.M := by
  have h : kp F a * b * F.Ri % F.M = a * F.R * b * F.Ri % F.M := cg_mul (cg_mul (cg_mod _ _) rfl) rfl
  rw [h, Nat.mul_right_comm a, ri_cancel hF]
theorem kp_inj (hF : F.Ok) {a b : Nat} (ha : a < F.M) (hb : b < F.M) (e : kp F a = kp F b) : a = b := by
  rw [← kp_out hF a ha, e, kp_out hF b hb]
theorem kp_zero (F : FC) : kp F 0 = 0 := by unfold kp; rw [Nat.zero_mul, Nat.zero_mod]
theorem kp_mod (F : FC) (a : Nat) : kp F (a % F.M) = kp F a := by unfold kp; rw [mul_mod_l]
/-- a power, by the bits ahead: one more bit -/
theorem kp_pow_step (F : FC) (a n b : Nat) (h : b = 0 ∨ b = 1) : (b = 0 → kp F (a ^ (2 * n + b)) = kp F (a ^ n * a ^ n % F.M)) ∧ (b = 1 → kp F (a ^ (2 * n + b)) = kp F (a ^ n * a ^ n % F.M * a % F.M)) := by
  have e : a ^ (2 * n) = a ^ n * a ^ n := by rw [Nat.two_mul, Nat.pow_add]
  refine ⟨fun h => ?_, fun h => ?_⟩
  · subst h; rw [Nat.add_zero, kp_mod, e]
  · subst h; rw [kp_mod, Nat.pow_succ, e, ← kp_mod F (_ % _ * a), mul_mod_l, kp_mod]
end
end Go.Proofs.Ytgacpjmggdmgdaa
