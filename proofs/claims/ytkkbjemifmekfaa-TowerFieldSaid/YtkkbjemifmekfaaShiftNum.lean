/-
  Plain numbers behind shifts of four words, their joining and their length. No program in sight. Conditions: as each lemma says.
-/
import Derived.Test.YtkkbjemifmekfaaDivNum
import Derived.Lib.Hide
import Derived.Below
namespace Go.Proofs.Ytkkbjemifmekfaa
set_option linter.unusedVariables false
open Go.RowKit

/-- a word shifted up by p, as the words are laid: the lower part, and what leaves it -/
theorem ex_up {a p : Nat} (ha : a < 18446744073709551616) (hp : p ≤ 63) : ∃ lo hi : Nat, IntKind.u64.wrap ((a : Int) * 2 ^ p) = (lo : Int) ∧ (a : Int) / 2 ^ (64 - p) = (hi : Int) ∧
    lo < 18446744073709551616 ∧ hi < 18446744073709551616 ∧ Hid (lo + 18446744073709551616 * hi = a * 2 ^ p) ∧ Hid (hi < 2 ^ p) ∧ Hid (∃ t, lo = 2 ^ p * t) := by
  have hps := pow_split p hp
  have hpos : 0 < 2 ^ p := Nat.two_pow_pos p
  have hd : a * 2 ^ p / 18446744073709551616 = a / 2 ^ (64 - p) := by rw [← hps]; exact Nat.mul_div_mul_right _ _ hpos
  have hh : a / 2 ^ (64 - p) < 2 ^ p := by rw [Nat.div_lt_iff_lt_mul (Nat.two_pow_pos _), Nat.mul_comm, hps]; exact ha
  refine ⟨a * 2 ^ p % 18446744073709551616, a / 2 ^ (64 - p), ?_, ?_, by omega, ?_, Lib.hid ?_, Lib.hid hh, Lib.hid ?_⟩
  · rw [cast_mul_pow, wrap_mod64]
  · rw [Int.natCast_ediv, Int.natCast_pow]; rfl
  · exact Nat.lt_of_le_of_lt (Nat.div_le_self _ _) ha
  · rw [← hd]; omega
  · refine ⟨a % 2 ^ (64 - p), ?_⟩
    rw [← hps, Nat.mul_mod_mul_right, Nat.mul_comm]
theorem ex_or {lo hi p : Nat} (hl : lo < 18446744073709551616) (hh : hi < 18446744073709551616) (h1 : Hid (hi < 2 ^ p)) (h2 : Hid (∃ t, lo = 2 ^ p * t)) : ∃ s : Nat, bits .or .u64 (lo : Int) (hi : Int) = (s : Int) ∧ s < 18446744073709551616 ∧ Hid (s = lo + hi) := by
  obtain ⟨t, ht⟩ := h2.out
  have e : lo ||| hi = lo + hi := by rw [ht, ← Nat.two_pow_add_eq_or_of_lt h1.out]
  refine ⟨lo + hi, by rw [bits_or_u64_nat _ _ hl hh, e], ?_, Lib.hid rfl⟩
  rw [← e]; exact Nat.or_lt_two_pow (n := 64) hl hh
/-- a word shifted down by p: the upper part, and what leaves it, laid above -/
theorem ex_down {a p : Nat} (ha : a < 18446744073709551616) (hp : p ≤ 63) : ∃ lo up : Nat, (a : Int) / 2 ^ p = (lo : Int) ∧ IntKind.u64.wrap ((a : Int) * 2 ^ (64 - p)) = (up : Int) ∧
    lo < 18446744073709551616 ∧ up < 18446744073709551616 ∧ Hid (∃ m, a = lo * 2 ^ p + m ∧ m < 2 ^ p ∧ up * 2 ^ p = m * 18446744073709551616) ∧ Hid (lo < 2 ^ (64 - p)) ∧ Hid (∃ t, up = 2 ^ (64 - p) * t) := by
  have hps := pow_split p hp
  have hpos : 0 < 2 ^ p := Nat.two_pow_pos p
  refine ⟨a / 2 ^ p, a % 2 ^ p * 2 ^ (64 - p), ?_, ?_, Nat.lt_of_le_of_lt (Nat.div_le_self _ _) ha, ?_, Lib.hid ⟨a % 2 ^ p, ?_, Nat.mod_lt _ hpos, ?_⟩, Lib.hid ?_, Lib.hid ⟨a % 2 ^ p, Nat.mul_comm _ _⟩⟩
  · rw [Int.natCast_ediv, Int.natCast_pow]; rfl
  · rw [cast_mul_pow, wrap_mod64]
    congr 1
    rw [show 18446744073709551616 = 2 ^ p * 2 ^ (64 - p) by rw [Nat.mul_comm, hps], Nat.mul_mod_mul_right]
  · have := Nat.mul_lt_mul_of_pos_right (Nat.mod_lt a hpos) (Nat.two_pow_pos (64 - p))
    rw [Nat.mul_comm (2 ^ p), hps] at this
    exact this
  · rw [Nat.mul_comm]; exact (Nat.div_add_mod a (2 ^ p)).symm
  · rw [Nat.mul_assoc, hps]
  · rw [Nat.div_lt_iff_lt_mul hpos, hps]; exact ha
theorem ex_or' {lo up k : Nat} (hl : lo < 18446744073709551616) (hu : up < 18446744073709551616) (h1 : Hid (lo < 2 ^ k)) (h2 : Hid (∃ t, up = 2 ^ k * t)) : ∃ s : Nat, bits .or .u64 (lo : Int) (up : Int) = (s : Int) ∧ s < 18446744073709551616 ∧ Hid (s = lo + up) := by
  obtain ⟨t, ht⟩ := h2.out
  have e : lo ||| up = lo + up := by rw [Nat.or_comm, ht, ← Nat.two_pow_add_eq_or_of_lt h1.out, Nat.add_comm]
  refine ⟨lo + up, by rw [bits_or_u64_nat _ _ hl hu, e], ?_, Lib.hid rfl⟩
  rw [← e]; exact Nat.or_lt_two_pow (n := 64) hl hu

theorem ex_n {n : Int} (h0 : 0 ≤ n) (q : Int) (h : n / 64 = q) (h1 : 0 ≤ q) : ∃ p : Nat, n % 64 = (p : Int) ∧ p ≤ 63 ∧ n.toNat = 64 * q.toNat + p :=
  ⟨(n % 64).toNat, by omega, by omega, by omega⟩
theorem pow_n (q p : Nat) : 2 ^ (64 * q + p) = 18446744073709551616 ^ q * 2 ^ p := by rw [Nat.pow_add, Nat.pow_mul]
theorem shl_fin {r x y : Nat} (hr : r < 115792089237316195423570985008687907853269984665640564039457584007913129639936) (h : r + 115792089237316195423570985008687907853269984665640564039457584007913129639936 * y = x) : r = x % 115792089237316195423570985008687907853269984665640564039457584007913129639936 := by omega
theorem div_fin {r x T m : Nat} (h : r * T + m = x) (hm : m < T) : r = x / T := by
  subst h
  rw [Nat.mul_comm, Nat.mul_add_div (by omega), Nat.div_eq_of_lt hm, Nat.add_zero]

theorem or2 {a b A B : Nat} (ha : a < 18446744073709551616) (hb : b < 18446744073709551616) : (a ||| b) + 18446744073709551616 * (A ||| B) = (a + 18446744073709551616 * A) ||| (b + 18446744073709551616 * B) := by
  have h1 : a + 18446744073709551616 * A = 2 ^ 64 * A ||| a := by rw [← Nat.two_pow_add_eq_or_of_lt (show a < 2 ^ 64 from ha)]; omega
  have h2 : b + 18446744073709551616 * B = 2 ^ 64 * B ||| b := by rw [← Nat.two_pow_add_eq_or_of_lt (show b < 2 ^ 64 from hb)]; omega
  have h3 : (a ||| b) + 18446744073709551616 * (A ||| B) = 2 ^ 64 * (A ||| B) ||| (a ||| b) := by rw [← Nat.two_pow_add_eq_or_of_lt (Nat.or_lt_two_pow (n := 64) ha hb)]; omega
  have h4 : 2 ^ 64 * (A ||| B) = 2 ^ 64 * A ||| 2 ^ 64 * B := by
    rw [Nat.mul_comm _ (A ||| B), Nat.mul_comm _ A, Nat.mul_comm _ B, ← Nat.shiftLeft_eq, ← Nat.shiftLeft_eq, ← Nat.shiftLeft_eq, Nat.shiftLeft_or_distrib]
  rw [h1, h2, h3, h4]
  simp only [Nat.or_assoc]
  congr 1
  rw [← Nat.or_assoc, ← Nat.or_assoc, Nat.or_comm a]
theorem or4 {a0 a1 a2 a3 b0 b1 b2 b3 : Nat} (ha : ok4 a0 a1 a2 a3) (hb : ok4 b0 b1 b2 b3) : val4 (a0 ||| b0) (a1 ||| b1) (a2 ||| b2) (a3 ||| b3) = val4 a0 a1 a2 a3 ||| val4 b0 b1 b2 b3 := by
  unfold val4
  rw [or2 ha.2.2.1 hb.2.2.1, or2 ha.2.1 hb.2.1, or2 ha.1 hb.1]

/-- the length of a number: L bits and no fewer -/
def LenIs (n L : Nat) : Prop := n < 2 ^ L ∧ (0 < L → 2 ^ (L - 1) ≤ n)
theorem LenIs.uniq {n L M : Nat} (h : LenIs n L) (k : LenIs n M) : L = M := by
  rcases Nat.lt_trichotomy L M with c | c | c
  · have h1 := k.2 (by omega)
    have h2 := Nat.pow_le_pow_right (show 0 < 2 by omega) (show L ≤ M - 1 by omega)
    have := h.1; omega
  · exact c
  · have h1 := h.2 (by omega)
    have h2 := Nat.pow_le_pow_right (show 0 < 2 by omega) (show M ≤ L - 1 by omega)
    have := k.1; omega
theorem LenIs.zero : LenIs 0 0 := ⟨by simp, fun h => absurd h (by omega)⟩
theorem LenIs.up {n x L k : Nat} (hn : n < 2 ^ k) (hx : 0 < x) (h : LenIs x L) : LenIs (n + x * 2 ^ k) (k + L) := by
  have hL : 0 < L := by
    rcases Nat.eq_zero_or_pos L with e | e
    · subst e; have := h.1; simp at this; omega
    · exact e
  constructor
  · have := Nat.mul_le_mul_right (2 ^ k) (show x + 1 ≤ 2 ^ L from h.1)
    rw [Nat.add_mul, Nat.one_mul] at this
    rw [Nat.pow_add, Nat.mul_comm (2 ^ k)]; omega
  · intro _
    have := Nat.mul_le_mul_right (2 ^ k) (h.2 hL)
    rw [show k + L - 1 = k + (L - 1) by omega, Nat.pow_add, Nat.mul_comm (2 ^ k)]; omega
end Go.Proofs.Ytkkbjemifmekfaa
