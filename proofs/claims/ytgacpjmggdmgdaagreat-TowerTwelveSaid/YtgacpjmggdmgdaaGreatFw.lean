/-
  Words of a number. Conditions: as each law says.
-/
import Derived.Test.YtgacpjmggdmgdaaGreatFldAll
import GoSem.Claim
namespace Go.Proofs.YtgacpjmggdmgdaaGreat
set_option linter.unusedVariables false
/-- word i of a number -/
def fw (x i : Nat) : Nat := x / 18446744073709551616 ^ i % 18446744073709551616
theorem fw_ok (x : Nat) : ok4 (fw x 0) (fw x 1) (fw x 2) (fw x 3) := ⟨Nat.mod_lt _ (by omega), Nat.mod_lt _ (by omega), Nat.mod_lt _ (by omega), Nat.mod_lt _ (by omega)⟩
theorem fw_val {x : Nat} (h : x < 115792089237316195423570985008687907853269984665640564039457584007913129639936) : val4 (fw x 0) (fw x 1) (fw x 2) (fw x 3) = x := by
  unfold fw val4
  have e1 : (18446744073709551616 : Nat) ^ 1 = 18446744073709551616 := by simp
  have e2 : (18446744073709551616 : Nat) ^ 2 = 18446744073709551616 * 18446744073709551616 := by simp
  have e3 : (18446744073709551616 : Nat) ^ 3 = 18446744073709551616 * 18446744073709551616 * 18446744073709551616 := by simp
  rw [Nat.pow_zero, Nat.div_one, e1, e2, e3, ← Nat.div_div_eq_div_mul, ← Nat.div_div_eq_div_mul, ← Nat.div_div_eq_div_mul]
  omega
theorem fw_of {s0 s1 s2 s3 x : Nat} (hs : ok4 s0 s1 s2 s3) (hx : x < 115792089237316195423570985008687907853269984665640564039457584007913129639936) (h : val4 s0 s1 s2 s3 = x) : s0 = fw x 0 ∧ s1 = fw x 1 ∧ s2 = fw x 2 ∧ s3 = fw x 3 :=
  val4_inj hs (fw_ok x) (h.trans (fw_val hx).symm)
theorem fp_lt {x : Nat} (h : x < FP.M) : x < 115792089237316195423570985008687907853269984665640564039457584007913129639936 := Nat.lt_trans h (by decide)
theorem fp_pos : 0 < FP.M := by decide
theorem fw_valp {x : Nat} (h : x < FP.M) : val4 (fw x 0) (fw x 1) (fw x 2) (fw x 3) = x := fw_val (fp_lt h)
end Go.Proofs.YtgacpjmggdmgdaaGreat
