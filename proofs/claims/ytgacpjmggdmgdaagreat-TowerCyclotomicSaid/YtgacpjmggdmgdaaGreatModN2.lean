/-
  Plain numbers behind the rest of a number of eight words: number and modulus are lifted alike. No program in sight. Conditions: as each lemma says.
-/
import Derived.Test.YtgacpjmggdmgdaaGreatNums
namespace Go.Proofs.YtgacpjmggdmgdaaGreat
set_option linter.unusedVariables false
set_option linter.unusedSimpArgs false
open Go.RowKit

theorem lift_by {m L : Nat} (hL : L ≤ 256) (h : LenIs m L) (hm : 0 < m) : 0 < L ∧ m * 2 ^ (256 - L) < 115792089237316195423570985008687907853269984665640564039457584007913129639936 ∧ 57896044618658097711785492504343953926634992332820282019728792003956564819968 ≤ m * 2 ^ (256 - L) := by
  have hpos : 0 < L := by
    rcases Nat.eq_zero_or_pos L with e | e
    · subst e; have := h.1; simp at this; omega
    · exact e
  have e : 2 ^ L * 2 ^ (256 - L) = 115792089237316195423570985008687907853269984665640564039457584007913129639936 := by rw [← Nat.pow_add, show L + (256 - L) = 256 by omega]
  have e' : 2 ^ (L - 1) * 2 ^ (256 - L) = 57896044618658097711785492504343953926634992332820282019728792003956564819968 := by rw [← Nat.pow_add, show L - 1 + (256 - L) = 255 by omega]
  refine ⟨hpos, ?_, ?_⟩
  · have := Nat.mul_lt_mul_of_pos_right h.1 (Nat.two_pow_pos (256 - L))
    rw [e] at this; exact this
  · have := Nat.mul_le_mul_right (2 ^ (256 - L)) (h.2 hpos)
    rw [e'] at this; exact this
theorem top_bit {b0 b1 b2 b3 : Nat} (h : ok4 b0 b1 b2 b3) (hb : 57896044618658097711785492504343953926634992332820282019728792003956564819968 ≤ val4 b0 b1 b2 b3) : 9223372036854775808 ≤ b3 := by
  obtain ⟨h0, h1, h2, h3⟩ := h
  unfold val4 at hb; omega
theorem rest_lt {x m L : Nat} (hL : L ≤ 256) (hm : 0 < m) (hx : x < 115792089237316195423570985008687907853269984665640564039457584007913129639936) : x / 2 ^ L < m * 2 ^ (256 - L) := by
  have e : 2 ^ (256 - L) * 2 ^ L = 115792089237316195423570985008687907853269984665640564039457584007913129639936 := by rw [← Nat.pow_add, show 256 - L + L = 256 by omega]
  have h1 : x / 2 ^ L < 2 ^ (256 - L) := by rw [Nat.div_lt_iff_lt_mul (Nat.two_pow_pos _), e]; exact hx
  have h2 := Nat.mul_le_mul_right (2 ^ (256 - L)) (show 1 ≤ m from hm)
  omega
/-- what is shifted up, and what left it -/
theorem up_parts {x L : Nat} (hL : L ≤ 256) : x / 2 ^ L * 115792089237316195423570985008687907853269984665640564039457584007913129639936 + x * 2 ^ (256 - L) % 115792089237316195423570985008687907853269984665640564039457584007913129639936 = x * 2 ^ (256 - L) := by
  have e : 2 ^ L * 2 ^ (256 - L) = 115792089237316195423570985008687907853269984665640564039457584007913129639936 := by rw [← Nat.pow_add, show L + (256 - L) = 256 by omega]
  have hd : x * 2 ^ (256 - L) / 115792089237316195423570985008687907853269984665640564039457584007913129639936 = x / 2 ^ L := by rw [← e]; exact Nat.mul_div_mul_right _ _ (Nat.two_pow_pos _)
  rw [← hd]; omega
theorem join_sum {x y L : Nat} (hL : L ≤ 256) (hy : y < 115792089237316195423570985008687907853269984665640564039457584007913129639936) : (x * 2 ^ (256 - L) % 115792089237316195423570985008687907853269984665640564039457584007913129639936) ||| (y / 2 ^ L) = x * 2 ^ (256 - L) % 115792089237316195423570985008687907853269984665640564039457584007913129639936 + y / 2 ^ L := by
  have e : 2 ^ L * 2 ^ (256 - L) = 115792089237316195423570985008687907853269984665640564039457584007913129639936 := by rw [← Nat.pow_add, show L + (256 - L) = 256 by omega]
  have hlt : y / 2 ^ L < 2 ^ (256 - L) := by rw [Nat.div_lt_iff_lt_mul (Nat.two_pow_pos _), Nat.mul_comm, e]; exact hy
  have hm : x * 2 ^ (256 - L) % 115792089237316195423570985008687907853269984665640564039457584007913129639936 = 2 ^ (256 - L) * (x % 2 ^ L) := by
    rw [← e, Nat.mul_mod_mul_right, Nat.mul_comm]
  rw [hm, ← Nat.two_pow_add_eq_or_of_lt hlt]
theorem mod_step' (n m x b : Nat) : ((n % b) * m + x) % b = (n * m + x) % b := by
  rw [Nat.add_mod, Nat.mul_mod, Nat.mod_mod, ← Nat.mul_mod, ← Nat.add_mod]
theorem mod_fin {h l m L r1 r2 : Nat} (hL : L ≤ 256)
    (e1 : r1 = (h / 2 ^ L * 115792089237316195423570985008687907853269984665640564039457584007913129639936 + (h * 2 ^ (256 - L) % 115792089237316195423570985008687907853269984665640564039457584007913129639936 + l / 2 ^ L)) % (m * 2 ^ (256 - L)))
    (e2 : r2 = (r1 * 115792089237316195423570985008687907853269984665640564039457584007913129639936 + l * 2 ^ (256 - L) % 115792089237316195423570985008687907853269984665640564039457584007913129639936) % (m * 2 ^ (256 - L))) : r2 / 2 ^ (256 - L) = (h * 115792089237316195423570985008687907853269984665640564039457584007913129639936 + l) % m := by
  have k1 := up_parts (x := h) hL
  have k2 := up_parts (x := l) hL
  rw [e1, mod_step'] at e2
  have e3 : (h / 2 ^ L * 115792089237316195423570985008687907853269984665640564039457584007913129639936 + (h * 2 ^ (256 - L) % 115792089237316195423570985008687907853269984665640564039457584007913129639936 + l / 2 ^ L)) * 115792089237316195423570985008687907853269984665640564039457584007913129639936 + l * 2 ^ (256 - L) % 115792089237316195423570985008687907853269984665640564039457584007913129639936 = (h * 115792089237316195423570985008687907853269984665640564039457584007913129639936 + l) * 2 ^ (256 - L) := by
    have : (h * 115792089237316195423570985008687907853269984665640564039457584007913129639936 + l) * 2 ^ (256 - L) = h * 2 ^ (256 - L) * 115792089237316195423570985008687907853269984665640564039457584007913129639936 + l * 2 ^ (256 - L) := by rw [Nat.add_mul, Nat.mul_right_comm]
    rw [this]
    generalize h * 2 ^ (256 - L) % 115792089237316195423570985008687907853269984665640564039457584007913129639936 = Q at *
    generalize l * 2 ^ (256 - L) % 115792089237316195423570985008687907853269984665640564039457584007913129639936 = U at *
    rw [← k1, ← k2]
    simp only [Nat.add_mul, Nat.add_assoc]
  rw [e3, Nat.mul_mod_mul_right] at e2
  rw [e2, Nat.mul_div_cancel _ (Nat.two_pow_pos _)]
end Go.Proofs.YtgacpjmggdmgdaaGreat
