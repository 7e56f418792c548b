/-
  Plain numbers behind the reference's bit by bit: the bit of a number of four words is a bit of one of its words; a bit more; shifts, quotients and rests bit by bit. No program in sight. Conditions: none.
-/
import Derived.Test.YtkkbjemifmekfaaShiftNum
import Derived.Test.YtkkbjemifmekfaaRow
namespace Go.Proofs.Ytkkbjemifmekfaa
set_option linter.unusedVariables false
open Go.RowKit

def bitOf (A i : Nat) : Nat := A / 2 ^ i % 2
theorem bitOf_01 (A i : Nat) : bitOf A i = 0 ∨ bitOf A i = 1 := by unfold bitOf; omega
theorem tot_shift (R : Nat) (P : Nat → Nat) (n : Nat) : tot R P (n + 1) = P 0 + R * tot R (fun k => P (1 + k)) n := by
  have := tot_split R P 1 n
  rw [Nat.add_comm n 1, this]
  simp [tot]
theorem word_bit (P : Nat → Nat) (hP : ∀ k, P k < 18446744073709551616) (n j k : Nat) (hj : j < n) (hk : k < 64) : bitOf (tot 18446744073709551616 P n) (64 * j + k) = P j / 2 ^ k % 2 := by
  obtain ⟨m, rfl⟩ : ∃ m, n = j + (m + 1) := ⟨n - j - 1, by omega⟩
  have h1 := tot_split 18446744073709551616 P j (m + 1)
  have h2 := tot_shift 18446744073709551616 (fun k => P (j + k)) m
  have h3 := tot_lt 18446744073709551616 P (by omega) j (fun k _ => hP k)
  unfold bitOf
  rw [h1, h2, pow_n, ← Nat.div_div_eq_div_mul, Nat.add_mul_div_left _ _ (by exact Nat.pow_pos (by omega)), Nat.div_eq_of_lt h3, Nat.zero_add]
  have e : 18446744073709551616 = 2 ^ k * (2 * 2 ^ (63 - k)) := by
    rw [← Nat.pow_succ', ← Nat.pow_add, show k + (63 - k).succ = 64 by omega]
  show (P j + 18446744073709551616 * _) / 2 ^ k % 2 = _
  generalize tot 18446744073709551616 (fun k => P (j + (1 + k))) m = H
  rw [show 18446744073709551616 * H = 2 ^ k * (2 * 2 ^ (63 - k)) * H by rw [← e], Nat.mul_assoc, Nat.add_mul_div_left _ _ (by exact Nat.pow_pos (by omega)), Nat.mul_assoc, Nat.add_mul_mod_self_left]

theorem bit_split {x k : Nat} (h : x / 2 ^ k % 2 = 0) : ∃ t l, x = 2 ^ (k + 1) * t + l ∧ l < 2 ^ k := by
  refine ⟨x / 2 ^ k / 2, x % 2 ^ k, ?_, Nat.mod_lt _ (Nat.pow_pos (by omega))⟩
  have h1 := Nat.div_add_mod x (2 ^ k)
  have h2 : x / 2 ^ k = 2 * (x / 2 ^ k / 2) := by omega
  rw [Nat.pow_succ, Nat.mul_assoc, ← h2, h1]
theorem or_bit {x k : Nat} (h : x / 2 ^ k % 2 = 0) : x ||| 2 ^ k = x + 2 ^ k := by
  obtain ⟨t, l, rfl, hl⟩ := bit_split h
  have h1 : l < 2 ^ (k + 1) := by rw [Nat.pow_succ]; omega
  have h2 : 2 ^ k + l < 2 ^ (k + 1) := by rw [Nat.pow_succ]; omega
  have e1 := Nat.two_pow_add_eq_or_of_lt hl 1
  have e2 := Nat.two_pow_add_eq_or_of_lt h1 t
  have e3 := Nat.two_pow_add_eq_or_of_lt h2 t
  rw [Nat.mul_one] at e1
  rw [e2, Nat.or_assoc, Nat.or_comm l, ← e1, ← e3]
  omega
theorem bit_lt {x k : Nat} (hx : x < 18446744073709551616) (hk : k < 64) (h : x / 2 ^ k % 2 = 0) : x + 2 ^ k < 18446744073709551616 := by
  have hk' : 2 ^ k < 2 ^ 64 := Nat.pow_lt_pow_right (by omega) hk
  rw [← or_bit h]
  have := Nat.or_lt_two_pow (n := 64) (x := x) (y := 2 ^ k) (by simpa using hx) hk'
  simpa using this

theorem ex_ix {i : Nat} (h : i < 256) : ∃ j k : Nat, (i : Int) / 64 = (j : Int) ∧ (i : Int) % 64 = (k : Int) ∧ j < 4 ∧ k < 64 ∧ Hid (i = 64 * j + k) :=
  ⟨i / 64, i % 64, by omega, by omega, by omega, by omega, Lib.hid (by omega)⟩
theorem and_one64 (x : Nat) (hx : x < 18446744073709551616) : bits .and .u64 (x : Int) 1 = ((x % 2 : Nat) : Int) := by
  rw [show (1 : Int) = ((1 : Nat) : Int) from rfl, bits_and_u64_nat _ _ hx (by omega), Nat.and_one_is_mod]
theorem ex_bit {x k b : Nat} (hx : x < 18446744073709551616) (hb : x / 2 ^ k % 2 = b) : ∃ s : Nat, (x : Int) / 2 ^ k = (s : Int) ∧ bits .and .u64 (s : Int) 1 = (b : Int) ∧ s < 18446744073709551616 := by
  have hs : x / 2 ^ k < 18446744073709551616 := Nat.lt_of_le_of_lt (Nat.div_le_self _ _) hx
  exact ⟨x / 2 ^ k, by rw [Int.natCast_ediv, Int.natCast_pow]; rfl, by rw [and_one64 _ hs, hb], hs⟩
theorem ex_put {x k : Nat} (hx : x < 18446744073709551616) (hk : k < 64) (h : x / 2 ^ k % 2 = 0) : ∃ t s : Nat, (2 : Int) ^ k = (t : Int) ∧ bits .or .u64 (x : Int) (t : Int) = (s : Int) ∧ t < 18446744073709551616 ∧ s < 18446744073709551616 ∧ Hid (s = x + 2 ^ k) := by
  have hk' : 2 ^ k < 2 ^ 64 := Nat.pow_lt_pow_right (by omega) hk
  have hk2 : 2 ^ k < 18446744073709551616 := by simpa using hk'
  exact ⟨2 ^ k, x + 2 ^ k, by rw [Int.natCast_pow]; rfl, by rw [bits_or_u64_nat _ _ hx hk2, or_bit h], hk2, bit_lt hx hk h, Lib.hid rfl⟩
theorem tot_put_bit {P : Nat → Nat} {j k n : Nat} (hj : j < n) : tot 18446744073709551616 (upd P j (P j + 2 ^ k)) n = tot 18446744073709551616 P n + 2 ^ (64 * j + k) := by
  have h := tot_upd 18446744073709551616 P j (P j + 2 ^ k) n hj
  rw [Nat.add_mul] at h
  rw [pow_n, Nat.mul_comm (18446744073709551616 ^ j)]
  omega

theorem bit_step (A i : Nat) : A / 2 ^ i = 2 * (A / 2 ^ (i + 1)) + bitOf A i := by
  unfold bitOf
  rw [Nat.pow_succ, ← Nat.div_div_eq_div_mul]
  omega
/-- the bits from i on -/
def from' (T i : Nat) : Nat := T / 2 ^ i * 2 ^ i
theorem from_step (T i : Nat) : from' T i = from' T (i + 1) + bitOf T i * 2 ^ i := by
  unfold from'
  rw [bit_step T i, Nat.add_mul, Nat.pow_succ, Nat.mul_comm 2 (T / _), Nat.mul_assoc, Nat.mul_comm 2]
theorem from_bit (T i : Nat) : bitOf (from' T (i + 1)) i = 0 := by
  unfold from' bitOf
  rw [Nat.pow_succ, Nat.mul_comm (2 ^ i) 2, ← Nat.mul_assoc, Nat.mul_div_cancel _ (Nat.pow_pos (by omega))]
  omega
theorem from_top {T i : Nat} (h : T < 2 ^ i) : from' T i = 0 := by unfold from'; rw [Nat.div_eq_of_lt h, Nat.zero_mul]
theorem from_all {T i : Nat} (h : 2 ^ i ∣ T) : from' T i = T := Nat.div_mul_cancel h
/-- the bits below i -/
def below' (T i : Nat) : Nat := T % 2 ^ i
theorem below_step (T i : Nat) : below' T (i + 1) = below' T i + bitOf T i * 2 ^ i := by
  unfold below' bitOf
  rw [Nat.pow_succ, Nat.mod_mul, Nat.mul_comm]
theorem below_bit (T i : Nat) : bitOf (below' T i) i = 0 := by
  unfold below' bitOf
  rw [Nat.div_eq_of_lt (Nat.mod_lt _ (Nat.pow_pos (by omega)))]
theorem bit_shl (A n i : Nat) (h : i < 256) (hn : n ≤ i) : bitOf (A * 2 ^ n % 115792089237316195423570985008687907853269984665640564039457584007913129639936) i = bitOf A (i - n) := by
  unfold bitOf
  have e : 115792089237316195423570985008687907853269984665640564039457584007913129639936 = 2 ^ i * (2 * 2 ^ (255 - i)) := by
    rw [← Nat.pow_succ', ← Nat.pow_add, show i + (255 - i).succ = 256 by omega]
  obtain ⟨d, rfl⟩ : ∃ d, i = n + d := ⟨i - n, by omega⟩
  rw [e, Nat.mod_mul_right_div_self, Nat.pow_add, show n + d - n = d by omega, Nat.mul_comm A, Nat.mul_div_mul_left _ _ (Nat.pow_pos (by omega)), Nat.mod_mul_right_mod]
theorem bit_shr (A n i : Nat) : bitOf (A / 2 ^ n) i = bitOf A (i + n) := by
  unfold bitOf
  rw [Nat.div_div_eq_div_mul, ← Nat.pow_add, Nat.add_comm n]
end Go.Proofs.Ytkkbjemifmekfaa
