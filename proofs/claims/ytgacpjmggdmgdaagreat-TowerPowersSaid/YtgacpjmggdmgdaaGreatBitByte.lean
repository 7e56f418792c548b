/-
  Plain numbers behind the reference's bit by bit: the bit of a number of four words is a bit of one of its words; a bit more; shifts, quotients and rests bit by bit. No program in sight. Conditions: none.
  Plain numbers behind bytes: the bytes of a number of four words, the highest first, and the number of 32 bytes. No program in sight. Conditions: none.
-/
import Derived.Test.YtgacpjmggdmgdaaGreatNums
import Derived.Test.YtgacpjmggdmgdaaGreatRow
namespace Go.Proofs.YtgacpjmggdmgdaaGreat
set_option linter.unusedVariables false
open Go.RowKit

def bitOf (A i : Nat) : Nat := A / 2 ^ i % 2
theorem bitOf_01 (A i : Nat) : bitOf A i = 0 ∨ bitOf A i = 1 := by unfold bitOf; omega
theorem tot_shift (R : Nat) (P : Nat → Nat) (n : Nat) : tot R P (n + 1) = P 0 + R * tot R (fun k => P (1 + k)) n := by
  have := tot_split R P 1 n
  rw [Nat.add_comm n 1, this]
  simp [tot]
theorem word_bit (P : Nat → Nat) (hP : ∀ k, P k < 18446744073709551616) (n j k : Nat) (hj : j < n) (hk : k < 64) : bitOf (tot 18446744073709551616 P n) (64 * j + k) = P j / 2 ^ k % 2 := by
  obtain ⟨m, rfl⟩ : ∃ m, n = j + (m + 1) := ⟨n - j - 1, by omega⟩
  have h1 := tot_split 18446744073709551616 P j (m + 1)
  have h2 := tot_shift 18446744073709551616 (fun k => P (j + k)) m
  have h3 := tot_lt 18446744073709551616 P (by omega) j (fun k _ => hP k)
  unfold bitOf
  rw [h1, h2, pow_n, ← Nat.div_div_eq_div_mul, Nat.add_mul_div_left _ _ (by exact Nat.pow_pos (by omega)), Nat.div_eq_of_lt h3, Nat.zero_add]
  have e : 18446744073709551616 = 2 ^ k * (2 * 2 ^ (63 - k)) := by
    rw [← Nat.pow_succ', ← Nat.pow_add, show k + (63 - k).succ = 64 by omega]
  show (P j + 18446744073709551616 * _) / 2 ^ k % 2 = _
  generalize tot 18446744073709551616 (fun k => P (j + (1 + k))) m = H
  rw [show 18446744073709551616 * H = 2 ^ k * (2 * 2 ^ (63 - k)) * H by rw [← e], Nat.mul_assoc, Nat.add_mul_div_left _ _ (by exact Nat.pow_pos (by omega)), Nat.mul_assoc, Nat.add_mul_mod_self_left]

theorem bit_split {x k : Nat} (h : x / 2 ^ k % 2 = 0) : ∃ t l, x = 2 ^ (k + 1) * t + l ∧ l < 2 ^ k := by
  refine ⟨x / 2 ^ k / 2, x % 2 ^ k, ?_, Nat.mod_lt _ (Nat.pow_pos (by omega))⟩
  have h1 := Nat.div_add_mod x (2 ^ k)
  have h2 : x / 2 ^ k = 2 * (x / 2 ^ k / 2) := by omega
  rw [Nat.pow_succ, Nat.mul_assoc, ← h2, h1]
theorem or_bit {x k : Nat} (h : x / 2 ^ k % 2 = 0) : x ||| 2 ^ k = x + 2 ^ k := by
  obtain ⟨t, l, rfl, hl⟩ := bit_split h
  have h1 : l < 2 ^ (k + 1) := by rw [Nat.pow_succ]; omega
  have h2 : 2 ^ k + l < 2 ^ (k + 1) := by rw [Nat.pow_succ]; omega
  have e1 := Nat.two_pow_add_eq_or_of_lt hl 1
  have e2 := Nat.two_pow_add_eq_or_of_lt h1 t
  have e3 := Nat.two_pow_add_eq_or_of_lt h2 t
  rw [Nat.mul_one] at e1
  rw [e2, Nat.or_assoc, Nat.or_comm l, ← e1, ← e3]
  omega
theorem bit_lt {x k : Nat} (hx : x < 18446744073709551616) (hk : k < 64) (h : x / 2 ^ k % 2 = 0) : x + 2 ^ k < 18446744073709551616 := by
  have hk' : 2 ^ k < 2 ^ 64 := Nat.pow_lt_pow_right (by omega) hk
  rw [← or_bit h]
  have := Nat.or_lt_two_pow (n := 64) (x := x) (y := 2 ^ k) (by simpa using hx) hk'
  simpa using this

theorem ex_ix {i : Nat} (h : i < 256) : ∃ j k : Nat, (i : Int) / 64 = (j : Int) ∧ (i : Int) % 64 = (k : Int) ∧ j < 4 ∧ k < 64 ∧ Hid (i = 64 * j + k) :=
  ⟨i / 64, i % 64, by omega, by omega, by omega, by omega, Lib.hid (by omega)⟩
theorem and_one64 (x : Nat) (hx : x < 18446744073709551616) : bits .and .u64 (x : Int) 1 = ((x % 2 : Nat) : Int) := by
  rw [show (1 : Int) = ((1 : Nat) : Int) from rfl, bits_and_u64_nat _ _ hx (by omega), Nat.and_one_is_mod]
theorem ex_bit {x k b : Nat} (hx : x < 18446744073709551616) (hb : x / 2 ^ k % 2 = b) : ∃ s : Nat, (x : Int) / 2 ^ k = (s : Int) ∧ bits .and .u64 (s : Int) 1 = (b : Int) ∧ s < 18446744073709551616 := by
  have hs : x / 2 ^ k < 18446744073709551616 := Nat.lt_of_le_of_lt (Nat.div_le_self _ _) hx
  exact ⟨x / 2 ^ k, by rw [Int.natCast_ediv, Int.natCast_pow]; rfl, by rw [and_one64 _ hs, hb], hs⟩
theorem ex_put {x k : Nat} (hx : x < 18446744073709551616) (hk : k < 64) (h : x / 2 ^ k % 2 = 0) : ∃ t s : Nat, (2 : Int) ^ k = (t : Int) ∧ bits .or .u64 (x : Int) (t : Int) = (s : Int) ∧ t < 18446744073709551616 ∧ s < 18446744073709551616 ∧ Hid (s = x + 2 ^ k) := by
  have hk' : 2 ^ k < 2 ^ 64 := Nat.pow_lt_pow_right (by omega) hk
  have hk2 : 2 ^ k < 18446744073709551616 := by simpa using hk'
  exact ⟨2 ^ k, x + 2 ^ k, by rw [Int.natCast_pow]; rfl, by rw [bits_or_u64_nat _ _ hx hk2, or_bit h], hk2, bit_lt hx hk h, Lib.hid rfl⟩
theorem tot_put_bit {P : Nat → Nat} {j k n : Nat} (hj : j < n) : tot 18446744073709551616 (upd P j (P j + 2 ^ k)) n = tot 18446744073709551616 P n + 2 ^ (64 * j + k) := by
  have h := tot_upd 18446744073709551616 P j (P j + 2 ^ k) n hj
  rw [Nat.add_mul] at h
  rw [pow_n, Nat.mul_comm (18446744073709551616 ^ j)]
  omega

theorem bit_step (A i : Nat) : A / 2 ^ i = 2 * (A / 2 ^ (i + 1)) + bitOf A i := by
  unfold bitOf
  rw [Nat.pow_succ, ← Nat.div_div_eq_div_mul]
  omega
/-- the bits from i on -/
def from' (T i : Nat) : Nat := T / 2 ^ i * 2 ^ i
theorem from_step (T i : Nat) : from' T i = from' T (i + 1) + bitOf T i * 2 ^ i := by
  unfold from'
  rw [bit_step T i, Nat.add_mul, Nat.pow_succ, Nat.mul_comm 2 (T / _), Nat.mul_assoc, Nat.mul_comm 2]
theorem from_bit (T i : Nat) : bitOf (from' T (i + 1)) i = 0 := by
  unfold from' bitOf
  rw [Nat.pow_succ, Nat.mul_comm (2 ^ i) 2, ← Nat.mul_assoc, Nat.mul_div_cancel _ (Nat.pow_pos (by omega))]
  omega
theorem from_top {T i : Nat} (h : T < 2 ^ i) : from' T i = 0 := by unfold from'; rw [Nat.div_eq_of_lt h, Nat.zero_mul]
theorem from_all {T i : Nat} (h : 2 ^ i ∣ T) : from' T i = T := Nat.div_mul_cancel h
/-- the bits below i -/
def below' (T i : Nat) : Nat := T % 2 ^ i
theorem below_step (T i : Nat) : below' T (i + 1) = below' T i + bitOf T i * 2 ^ i := by
  unfold below' bitOf
  rw [Nat.pow_succ, Nat.mod_mul, Nat.mul_comm]
theorem below_bit (T i : Nat) : bitOf (below' T i) i = 0 := by
  unfold below' bitOf
  rw [Nat.div_eq_of_lt (Nat.mod_lt _ (Nat.pow_pos (by omega)))]
theorem bit_shl (A n i : Nat) (h : i < 256) (hn : n ≤ i) : bitOf (A * 2 ^ n % 115792089237316195423570985008687907853269984665640564039457584007913129639936) i = bitOf A (i - n) := by
  unfold bitOf
  have e : 115792089237316195423570985008687907853269984665640564039457584007913129639936 = 2 ^ i * (2 * 2 ^ (255 - i)) := by
    rw [← Nat.pow_succ', ← Nat.pow_add, show i + (255 - i).succ = 256 by omega]
  obtain ⟨d, rfl⟩ : ∃ d, i = n + d := ⟨i - n, by omega⟩
  rw [e, Nat.mod_mul_right_div_self, Nat.pow_add, show n + d - n = d by omega, Nat.mul_comm A, Nat.mul_div_mul_left _ _ (Nat.pow_pos (by omega)), Nat.mod_mul_right_mod]
theorem bit_shr (A n i : Nat) : bitOf (A / 2 ^ n) i = bitOf A (i + n) := by
  unfold bitOf
  rw [Nat.div_div_eq_div_mul, ← Nat.pow_add, Nat.add_comm n]
end Go.Proofs.YtgacpjmggdmgdaaGreat
namespace Go.Proofs.YtgacpjmggdmgdaaGreat
set_option linter.unusedVariables false
open Go.RowKit

/-- the number of n bytes from s on, the highest first -/
def hor (B : Nat → Nat) (s : Nat) : Nat → Nat
  | 0 => 0
  | n + 1 => hor B s n * 256 + B (s + n)
theorem hor_lt {B : Nat → Nat} (hB : ∀ k, B k < 256) (s : Nat) : ∀ n, hor B s n < 256 ^ n
  | 0 => by simp [hor]
  | n + 1 => by
    have h1 := hor_lt hB s n
    have h2 := hB (s + n)
    show hor B s n * 256 + B (s + n) < 256 ^ n * 256
    omega
theorem hor_split (B : Nat → Nat) (s n : Nat) : ∀ m, hor B s (n + m) = hor B s n * 256 ^ m + hor B (s + n) m
  | 0 => by simp [hor]
  | m + 1 => by
    show hor B s (n + m) * 256 + B (s + (n + m)) = hor B s n * (256 ^ m * 256) + (hor B (s + n) m * 256 + B (s + n + m))
    rw [hor_split B s n m, Nat.add_mul, Nat.mul_assoc, Nat.add_assoc s n m, Nat.add_assoc]
theorem hor_ext {B C : Nat → Nat} (s : Nat) : ∀ n, (∀ k, k < n → B (s + k) = C (s + k)) → hor B s n = hor C s n
  | 0, _ => rfl
  | n + 1, h => by
    show hor B s n * 256 + B (s + n) = hor C s n * 256 + C (s + n)
    rw [hor_ext s n (fun k hk => h k (by omega)), h n (by omega)]
/-- the bytes taken from the lowest on -/
theorem tot_hor (B : Nat → Nat) (s : Nat) : ∀ n, tot 256 (fun k => B (s + n - 1 - k)) n = hor B s n
  | 0 => rfl
  | n + 1 => by
    rw [tot_shift]
    show B (s + (n + 1) - 1 - 0) + 256 * tot 256 (fun k => B (s + (n + 1) - 1 - (1 + k))) n = hor B s n * 256 + B (s + n)
    have e : (fun k => B (s + (n + 1) - 1 - (1 + k))) = fun k => B (s + n - 1 - k) := by
      funext k; congr 1; omega
    rw [e, tot_hor B s n, Nat.mul_comm, show s + (n + 1) - 1 - 0 = s + n by omega]
    omega
/-- byte number p of a number, the highest first -/
def byteAt (A p : Nat) : Nat := A / 256 ^ (31 - p) % 256
theorem byteAt_lt (A p : Nat) : byteAt A p < 256 := Nat.mod_lt _ (by omega)
theorem hor_bytes (A : Nat) (h : A < 256 ^ 32) : ∀ n, n ≤ 32 → hor (byteAt A) 0 n = A / 256 ^ (32 - n)
  | 0, _ => by
    show 0 = _
    rw [Nat.div_eq_of_lt (by simpa using h)]
  | n + 1, hn => by
    show hor (byteAt A) 0 n * 256 + byteAt A (0 + n) = _
    rw [hor_bytes A h n (by omega), Nat.zero_add]
    unfold byteAt
    rw [show 32 - n = (32 - (n + 1)) + 1 by omega, show 31 - n = 32 - (n + 1) by omega, Nat.pow_succ, ← Nat.div_div_eq_div_mul]
    generalize A / 256 ^ (32 - (n + 1)) = X
    omega
theorem hor_back {A : Nat} (h : A < 115792089237316195423570985008687907853269984665640564039457584007913129639936) : hor (byteAt A) 0 32 = A := by
  have := hor_bytes A (by simpa using h) 32 (by omega)
  simpa using this
/-- numbers stand in the order of their bytes -/
theorem byte_order {A C p : Nat} (hp : p < 32) (hA : A < 115792089237316195423570985008687907853269984665640564039457584007913129639936) (hC : C < 115792089237316195423570985008687907853269984665640564039457584007913129639936) (h : ∀ k, k < p → byteAt A k = byteAt C k) (hlt : byteAt A p < byteAt C p) : A < C := by
  have e := hor_ext (B := byteAt A) (C := byteAt C) 0 p (fun k hk => by simpa using h k hk)
  have a1 := hor_split (byteAt A) 0 p (32 - p)
  have c1 := hor_split (byteAt C) 0 p (32 - p)
  rw [show p + (32 - p) = 32 by omega, hor_back hA] at a1
  rw [show p + (32 - p) = 32 by omega, hor_back hC] at c1
  have a2 := hor_split (byteAt A) (0 + p) 1 (31 - p)
  have c2 := hor_split (byteAt C) (0 + p) 1 (31 - p)
  rw [show 1 + (31 - p) = 32 - p by omega] at a2 c2
  have a3 := hor_lt (byteAt_lt A) (0 + p + 1) (31 - p)
  have c3 := hor_lt (byteAt_lt C) (0 + p + 1) (31 - p)
  have a4 : hor (byteAt A) (0 + p) 1 = byteAt A p := by simp [hor]
  have c4 : hor (byteAt C) (0 + p) 1 = byteAt C p := by simp [hor]
  rw [a4] at a2
  rw [c4] at c2
  have hm : (byteAt A p + 1) * 256 ^ (31 - p) ≤ byteAt C p * 256 ^ (31 - p) := Nat.mul_le_mul_right _ hlt
  rw [Nat.add_mul, Nat.one_mul] at hm
  rw [a1, c1, a2, c2, e]
  omega
theorem bytes_same {A C : Nat} (hA : A < 115792089237316195423570985008687907853269984665640564039457584007913129639936) (hC : C < 115792089237316195423570985008687907853269984665640564039457584007913129639936) (h : ∀ k, k < 32 → byteAt A k = byteAt C k) : A = C := by
  rw [← hor_back hA, ← hor_back hC]
  exact hor_ext 0 32 (fun k hk => by simpa using h k hk)

/-- a byte of a word is a byte of the number -/
theorem word_byte (P : Nat → Nat) (hP : ∀ k, P k < 18446744073709551616) (n j m : Nat) (hj : j < n) (hm : m < 8) : P j / 2 ^ (8 * m) % 256 = tot 18446744073709551616 P n / 256 ^ (8 * j + m) % 256 := by
  obtain ⟨q, rfl⟩ : ∃ q, n = j + (q + 1) := ⟨n - j - 1, by omega⟩
  have h1 := tot_split 18446744073709551616 P j (q + 1)
  have h2 := tot_shift 18446744073709551616 (fun k => P (j + k)) q
  have h3 := tot_lt 18446744073709551616 P (by omega) j (fun k _ => hP k)
  have e1 : 256 ^ (8 * j + m) = 18446744073709551616 ^ j * 2 ^ (8 * m) := by
    rw [Nat.pow_add, Nat.pow_mul, Nat.pow_mul]
  rw [h1, h2, e1, ← Nat.div_div_eq_div_mul, Nat.add_mul_div_left _ _ (by exact Nat.pow_pos (by omega)), Nat.div_eq_of_lt h3, Nat.zero_add]
  have e : 18446744073709551616 = 2 ^ (8 * m) * (256 * 2 ^ (56 - 8 * m)) := by
    rw [show (256 : Nat) = 2 ^ 8 from rfl, ← Nat.pow_add, ← Nat.pow_add, show 8 * m + (8 + (56 - 8 * m)) = 64 by omega]
  show _ = (P j + 18446744073709551616 * _) / 2 ^ (8 * m) % 256
  generalize tot 18446744073709551616 (fun k => P (j + (1 + k))) q = H
  rw [show 18446744073709551616 * H = 2 ^ (8 * m) * (256 * 2 ^ (56 - 8 * m)) * H by rw [← e], Nat.mul_assoc, Nat.add_mul_div_left _ _ (by exact Nat.pow_pos (by omega)), Nat.mul_assoc, Nat.add_mul_mod_self_left]
theorem ex_ib {i : Nat} (h : i < 32) : ∃ j m s p : Nat, (i : Int) / 8 = (j : Int) ∧ (i : Int) % 8 = (m : Int) ∧ (m : Int) * 8 = (s : Int) ∧ (31 : Int) - (i : Int) = (p : Int) ∧ j < 4 ∧ m < 8 ∧ s ≤ 56 ∧ p < 32 ∧ Hid (i = 8 * j + m ∧ s = 8 * m ∧ p = 31 - i) :=
  ⟨i / 8, i % 8, i % 8 * 8, 31 - i, by omega, by omega, by omega, by omega, by omega, by omega, by omega, by omega, Lib.hid (by omega)⟩
theorem ex_byte {x s b : Nat} (hx : x < 18446744073709551616) (hb : x / 2 ^ s % 256 = b) : ∃ t : Nat, (x : Int) / 2 ^ s = (t : Int) ∧ IntKind.u8.wrap (t : Int) = (b : Int) ∧ t < 18446744073709551616 := by
  have hs : x / 2 ^ s < 18446744073709551616 := Nat.lt_of_le_of_lt (Nat.div_le_self _ _) hx
  refine ⟨x / 2 ^ s, by rw [Int.natCast_ediv, Int.natCast_pow]; rfl, ?_, hs⟩
  generalize x / 2 ^ s = q at *
  simp only [IntKind.wrap, IntKind.bits, IntKind.signed]
  simp
  omega
theorem tot_ge (R : Nat) (P : Nat → Nat) (j : Nat) : ∀ n, j < n → P j * R ^ j ≤ tot R P n
  | 0, h => absurd h (by omega)
  | n + 1, h => by
    rw [tot_succ]
    rcases Nat.lt_or_ge j n with hj | hj
    · have := tot_ge R P j n hj; omega
    · obtain rfl : j = n := by omega
      omega
/-- one byte more into a word, the lowest first -/
theorem read_step {P : Nat → Nat} {V i j m s d : Nat} (hj : j < 4) (hm : m < 8) (e : i = 8 * j + m) (es : s = 8 * m) (hV : tot 18446744073709551616 P 4 = V) (hlt : V < 256 ^ i) : P j < 2 ^ s ∧ tot 18446744073709551616 (upd P j (P j + d * 2 ^ s)) 4 = V + d * 256 ^ i := by
  have e1 : 256 ^ i = 18446744073709551616 ^ j * 2 ^ s := by
    rw [e, es, Nat.pow_add, Nat.pow_mul, Nat.pow_mul]
  refine ⟨?_, ?_⟩
  · have h1 := tot_ge 18446744073709551616 P j 4 hj
    rw [hV] at h1
    have h2 := Nat.lt_of_le_of_lt h1 hlt
    rw [e1, Nat.mul_comm] at h2
    exact Nat.lt_of_mul_lt_mul_left h2
  · have h := tot_upd 18446744073709551616 P j (P j + d * 2 ^ s) 4 hj
    rw [Nat.add_mul] at h
    rw [e1, Nat.mul_comm (18446744073709551616 ^ j), ← Nat.mul_assoc, ← hV]
    omega
theorem ex_up8 {x d s : Nat} (hd : d < 256) (hs : s ≤ 56) (hx : x < 2 ^ s) : ∃ u z : Nat, IntKind.u64.wrap ((d : Int) * 2 ^ s) = (u : Int) ∧ bits .or .u64 (x : Int) (u : Int) = (z : Int) ∧ u < 18446744073709551616 ∧ z < 18446744073709551616 ∧ Hid (z = x + d * 2 ^ s) := by
  have h1 : d * 2 ^ s < 18446744073709551616 := by
    have a := Nat.mul_lt_mul_of_pos_right hd (Nat.two_pow_pos s)
    have b : 256 * 2 ^ s ≤ 18446744073709551616 := by
      rw [show (256 : Nat) = 2 ^ 8 from rfl, ← Nat.pow_add, show 18446744073709551616 = 2 ^ 64 by simp]
      exact Nat.pow_le_pow_right (by omega) (by omega)
    omega
  have h2 : x < 18446744073709551616 := Nat.lt_of_lt_of_le hx (by
    rw [show 18446744073709551616 = 2 ^ 64 by simp]; exact Nat.pow_le_pow_right (by omega) (by omega))
  obtain ⟨z, e1, e2, e3⟩ := ex_or' (k := s) h2 h1 (Lib.hid hx) (Lib.hid ⟨d, Nat.mul_comm _ _⟩)
  exact ⟨d * 2 ^ s, z, by rw [cast_mul_pow, wrap_in64 _ h1], e1, h1, e2, e3⟩
end Go.Proofs.YtgacpjmggdmgdaaGreat
