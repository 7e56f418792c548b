/-
  Plain numbers behind the reference's Div and Mod: one bit more into a rest. No program in sight. Conditions: none.
-/
import Derived.Test.YtopahcobdfdnlaaDoorBitNum
namespace Go.Proofs.YtopahcobdfdnlaaDoor
set_option linter.unusedVariables false
open Go.RowKit

/-- one step of a long division by bits -/
theorem bit_div {N q r y b : Nat} (hy : 0 < y) (hq : q = N / y) (hr : r = N % y) (h : y ≤ 2 * r + b) (hb : b ≤ 1) : 2 * q + 1 = (2 * N + b) / y ∧ 2 * r + b - y = (2 * N + b) % y := by
  have h1 := Nat.div_add_mod N y
  have h2 := Nat.mod_lt N hy
  rw [← hq, ← hr] at h1
  rw [← hr] at h2
  have e : 2 * N + b = (2 * r + b - y) + y * (2 * q + 1) := by
    rw [Nat.mul_add, Nat.mul_one, Nat.mul_left_comm]; omega
  rw [e, Nat.add_mul_div_left _ _ hy, Nat.add_mul_mod_self_left, Nat.div_eq_of_lt (by omega), Nat.mod_eq_of_lt (by omega)]
  exact ⟨by omega, rfl⟩
theorem bit_div' {N q r y b : Nat} (hy : 0 < y) (hq : q = N / y) (hr : r = N % y) (h : 2 * r + b < y) : 2 * q = (2 * N + b) / y ∧ 2 * r + b = (2 * N + b) % y := by
  have h1 := Nat.div_add_mod N y
  rw [← hq, ← hr] at h1
  have e : 2 * N + b = (2 * r + b) + y * (2 * q) := by rw [Nat.mul_left_comm]; omega
  rw [e, Nat.add_mul_div_left _ _ hy, Nat.add_mul_mod_self_left, Nat.div_eq_of_lt h, Nat.mod_eq_of_lt h]
  exact ⟨by omega, rfl⟩

/-- what stands in Div's loop: out and rest, when the bits above i are taken -/
def DI (A y i o r : Nat) : Prop := o = A / 2 ^ i / y * 2 ^ i ∧ r = A / 2 ^ i % y
theorem di_start {A y : Nat} (h : A < 2 ^ 256) : DI A y 256 0 0 := by
  unfold DI; rw [Nat.div_eq_of_lt h]; simp
theorem di_bit {A y i o r : Nat} (h : DI A y (i + 1) o r) : bitOf o i = 0 := by
  rw [h.1]; unfold bitOf
  rw [Nat.pow_succ, Nat.mul_comm (2 ^ i) 2, ← Nat.mul_assoc, Nat.mul_div_cancel _ (Nat.pow_pos (by omega))]
  omega
theorem di_yes {A y i o r b : Nat} (hy : 0 < y) (h : DI A y (i + 1) o r) (hb : bitOf A i = b) (hge : y ≤ 2 * r + b) : DI A y i (o + 2 ^ i) (2 * r + b - y) := by
  have hs := bit_step A i
  have hb1 : b ≤ 1 := by rcases bitOf_01 A i with e | e <;> omega
  rw [hb] at hs
  obtain ⟨e1, e2⟩ := bit_div hy rfl h.2 hge hb1
  refine ⟨?_, by rw [hs]; exact e2⟩
  rw [hs, ← e1, h.1]
  generalize A / 2 ^ (i + 1) / y = q
  rw [Nat.pow_succ, Nat.add_mul, Nat.one_mul, Nat.mul_comm 2 q, Nat.mul_assoc, Nat.mul_comm 2]
theorem di_no {A y i o r b : Nat} (hy : 0 < y) (h : DI A y (i + 1) o r) (hb : bitOf A i = b) (hlt : 2 * r + b < y) : DI A y i o (2 * r + b) := by
  have hs := bit_step A i
  rw [hb] at hs
  obtain ⟨e1, e2⟩ := bit_div' hy rfl h.2 hlt
  refine ⟨?_, by rw [hs]; exact e2⟩
  rw [hs, ← e1, h.1]
  generalize A / 2 ^ (i + 1) / y = q
  rw [Nat.pow_succ, Nat.mul_comm 2 q, Nat.mul_assoc, Nat.mul_comm 2]
theorem di_end {A y o r : Nat} (h : DI A y 0 o r) : o = A / y ∧ r = A % y := by
  unfold DI at h
  simpa using h
theorem di_lt {A y i o r : Nat} (hy : 0 < y) (h : DI A y i o r) : r < y := by rw [h.2]; exact Nat.mod_lt _ hy

/-- the numbers of a round of Div as the program lays them -/
theorem ex_take {r b : Nat} (hr : r < 18446744073709551616) (hb : b ≤ 1) : ∃ x z : Nat, IntKind.u64.wrap ((r : Int) * 2) = (x : Int) ∧ bits .or .u64 (x : Int) (b : Int) = (z : Int) ∧ x < 18446744073709551616 ∧ z < 18446744073709551616 ∧ Hid (z = (2 * r + b) % 18446744073709551616) := by
  have hx : 2 * r % 18446744073709551616 < 18446744073709551616 := by omega
  obtain ⟨z, h1, h2, h3⟩ := ex_or (p := 1) hx (show b < 18446744073709551616 by omega) (Lib.hid (by omega)) (Lib.hid ⟨r % 9223372036854775808, by omega⟩)
  refine ⟨2 * r % 18446744073709551616, z, ?_, h1, hx, h2, Lib.hid (by rw [h3.out]; omega)⟩
  rw [show (r : Int) * 2 = ((2 * r : Nat) : Int) by omega, wrap_mod64]
theorem ex_top1 {r : Nat} (hr : r < 18446744073709551616) (h : 9223372036854775808 ≤ r) : (r : Int) / 9223372036854775808 = 1 := by omega
theorem ex_top0 {r : Nat} (h : r < 9223372036854775808) : (r : Int) / 9223372036854775808 = 0 := by omega
theorem ex_less {z y r b : Nat} (hz : z = (2 * r + b) % 18446744073709551616) (hr : r < y) (hb : b ≤ 1) (hy : y < 18446744073709551616) (h : y ≤ 2 * r + b) : IntKind.u64.wrap ((z : Int) - (y : Int)) = ((2 * r + b - y : Nat) : Int) := by
  rw [IntKind.wrap_u64]; omega

/-- what stands in Mod's loop -/
def MB (X m i r : Nat) : Prop := r = X / 2 ^ i % m
theorem mb_yes {X m i r b : Nat} (hm : 0 < m) (h : MB X m (i + 1) r) (hb : bitOf X i = b) (hge : m ≤ 2 * r + b) : MB X m i (2 * r + b - m) := by
  have hs := bit_step X i
  have hb1 : b ≤ 1 := by rcases bitOf_01 X i with e | e <;> omega
  rw [hb] at hs
  unfold MB; rw [hs]
  exact (bit_div hm rfl h hge hb1).2
theorem mb_no {X m i r b : Nat} (hm : 0 < m) (h : MB X m (i + 1) r) (hb : bitOf X i = b) (hlt : 2 * r + b < m) : MB X m i (2 * r + b) := by
  have hs := bit_step X i
  rw [hb] at hs
  unfold MB; rw [hs]
  exact (bit_div' hm rfl h hlt).2
theorem mb_lt {X m i r : Nat} (hm : 0 < m) (h : MB X m i r) : r < m := by rw [show r = _ from h]; exact Nat.mod_lt _ hm
theorem bit_hi {H L i : Nat} (hL : L < 115792089237316195423570985008687907853269984665640564039457584007913129639936) (h : 256 ≤ i) : bitOf (H * 115792089237316195423570985008687907853269984665640564039457584007913129639936 + L) i = bitOf H (i - 256) := by
  obtain ⟨k, rfl⟩ : ∃ k, i = 256 + k := ⟨i - 256, by omega⟩
  unfold bitOf
  rw [Nat.pow_add, ← Nat.div_div_eq_div_mul, show (2 : Nat) ^ 256 = 115792089237316195423570985008687907853269984665640564039457584007913129639936 by simp, Nat.mul_comm H, Nat.mul_add_div (by omega), Nat.div_eq_of_lt hL, Nat.add_zero, show 256 + k - 256 = k by omega]
theorem bit_lo {H L i : Nat} (h : i < 256) : bitOf (H * 115792089237316195423570985008687907853269984665640564039457584007913129639936 + L) i = bitOf L i := by
  unfold bitOf
  have e : 115792089237316195423570985008687907853269984665640564039457584007913129639936 = 2 ^ i * (2 * 2 ^ (255 - i)) := by
    rw [← Nat.pow_succ', ← Nat.pow_add, show i + (255 - i).succ = 256 by omega]
  rw [e, Nat.mul_left_comm H, Nat.mul_add_div (Nat.pow_pos (by omega)), Nat.mul_left_comm H 2, Nat.mul_add_mod]
theorem even_low {s0 s1 s2 s3 c R : Nat} (h : val4 s0 s1 s2 s3 + 115792089237316195423570985008687907853269984665640564039457584007913129639936 * c = R + R) : ∃ t, s0 = 2 ^ 1 * t := by
  unfold val4 at h
  exact ⟨s0 / 2, by omega⟩
theorem ex_low {s0 b : Nat} (hs : s0 < 18446744073709551616) (hb : b ≤ 1) (he : ∃ t, s0 = 2 ^ 1 * t) : ∃ z : Nat, bits .or .u64 (s0 : Int) (b : Int) = (z : Int) ∧ z < 18446744073709551616 ∧ Hid (z = s0 + b) :=
  ex_or (p := 1) hs (show b < 18446744073709551616 by omega) (Lib.hid (by omega)) (Lib.hid he)
end Go.Proofs.YtopahcobdfdnlaaDoor
