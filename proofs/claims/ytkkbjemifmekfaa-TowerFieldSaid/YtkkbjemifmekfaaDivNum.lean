/-
  Plain numbers behind the division of two words by one: the normalised divisor, a digit guessed from the upper halves, the correction. No program in sight. Conditions: as each lemma says.
-/
import Derived.Test.YtkkbjemifmekfaaNum
import Derived.Laws.Bits64b
import Derived.Laws.Bits64
namespace Go.Proofs.Ytkkbjemifmekfaa
set_option linter.unusedVariables false

theorem wrap_in64 (x : Nat) (h : x < 18446744073709551616) : IntKind.u64.wrap (x : Int) = (x : Int) := by rw [IntKind.wrap_u64]; omega
theorem wrap_mod64 (x : Nat) : IntKind.u64.wrap (x : Int) = ((x % 18446744073709551616 : Nat) : Int) := by rw [IntKind.wrap_u64]; omega
theorem cast_mul_pow (x S : Nat) : (x : Int) * 2 ^ S = ((x * 2 ^ S : Nat) : Int) := by rw [Int.natCast_mul, Int.natCast_pow]; rfl

theorem pow_split (S : Nat) (h : S ≤ 63) : 2 ^ (64 - S) * 2 ^ S = 18446744073709551616 := by
  rw [← Nat.pow_add, show 64 - S + S = 64 by omega]
theorem dv_setup {hi lo y S : Nat} (h2 : hi < y) (hl : lo < 18446744073709551616) (hS : S ≤ 63) (hY : y * 2 ^ S < 18446744073709551616) :
    ∃ u L : Nat, bits .or .u64 (IntKind.u64.wrap ((hi : Int) * 2 ^ S)) ((lo : Int) / 2 ^ (64 - S)) = (u : Int) ∧ IntKind.u64.wrap ((lo : Int) * 2 ^ S) = (L : Int) ∧ u < y * 2 ^ S ∧ L < 18446744073709551616 ∧ u * 18446744073709551616 + L = (hi * 18446744073709551616 + lo) * 2 ^ S := by
  have hp : 0 < 2 ^ S := Nat.two_pow_pos S
  have hps := pow_split S hS
  have hb : lo / 2 ^ (64 - S) < 2 ^ S := by
    rw [Nat.div_lt_iff_lt_mul (Nat.two_pow_pos _), Nat.mul_comm, hps]; exact hl
  have hhi : hi * 2 ^ S + 2 ^ S ≤ y * 2 ^ S := by
    have := Nat.mul_le_mul_right (2 ^ S) (show hi + 1 ≤ y by omega)
    rw [Nat.add_mul] at this; omega
  have hd : lo * 2 ^ S / 18446744073709551616 = lo / 2 ^ (64 - S) := by
    rw [← hps]; exact Nat.mul_div_mul_right _ _ hp
  refine ⟨hi * 2 ^ S + lo / 2 ^ (64 - S), lo * 2 ^ S % 18446744073709551616, ?_, ?_, ?_, by omega, ?_⟩
  · rw [cast_mul_pow, wrap_in64 _ (by omega), show ((lo : Int) / 2 ^ (64 - S)) = ((lo / 2 ^ (64 - S) : Nat) : Int) by rw [Int.natCast_ediv, Int.natCast_pow]; rfl,
      bits_or_u64_nat _ _ (by omega) (by omega), Nat.mul_comm hi, Nat.two_pow_add_eq_or_of_lt hb]
  · rw [cast_mul_pow, wrap_mod64]
  · omega
  · rw [Nat.add_mul, ← hd]
    have e : (hi * 18446744073709551616 + lo) * 2 ^ S = hi * 2 ^ S * 18446744073709551616 + lo * 2 ^ S := by
      rw [Nat.add_mul, Nat.mul_right_comm]
    rw [e]; omega

theorem dv_half {Y : Nat} (h : Y < 18446744073709551616) : ∃ a b : Nat, (Y : Int) / 4294967296 = (a : Int) ∧ bits .and .u64 (Y : Int) 4294967295 = (b : Int) ∧ a < 4294967296 ∧ b < 4294967296 ∧ Y = a * 4294967296 + b := by
  refine ⟨Y / 4294967296, Y % 4294967296, by omega, ?_, by omega, by omega, by omega⟩
  have h' := bits_and_u64_nat Y 4294967295 h (by omega)
  rw [show Y &&& 4294967295 = Y % 4294967296 from Nat.and_two_pow_sub_one_eq_mod Y 32] at h'
  exact h'

theorem dv_q (u y1 : Nat) (h : 0 < y1) : ∃ q r : Nat, (u : Int) / (y1 : Int) = (q : Int) ∧ (u : Int) - (q : Int) * (y1 : Int) = (r : Int) ∧ q * y1 + r = u ∧ r < y1 := by
  have e := Nat.div_add_mod u y1
  rw [Nat.mul_comm] at e
  refine ⟨u / y1, u % y1, (Int.natCast_ediv u y1).symm, ?_, e, Nat.mod_lt _ h⟩
  rw [← Int.natCast_mul]; omega

/-- What holds of a guessed digit q and its rest r. -/
def KI (y1 y0 u u1 q r : Nat) : Prop := q * y1 + r = u ∧ (u * 4294967296 + u1) / (y1 * 4294967296 + y0) ≤ q ∧ q ≤ 4294967297 ∧ r < 4294967296
/-- What the guess is held against. -/
structure KS (y1 y0 u u1 : Nat) : Prop where
  a1 : y1 < 4294967296
  a2 : 2147483648 ≤ y1
  a3 : y0 < 4294967296
  a4 : u < y1 * 4294967296 + y0
  a5 : u1 < 4294967296

section
variable {y1 y0 u u1 q r : Nat}
theorem ki_mulY (q y1 y0 : Nat) : q * (y1 * 4294967296 + y0) = q * y1 * 4294967296 + q * y0 := by rw [Nat.mul_add, Nat.mul_assoc]
theorem ks_pos (s : KS y1 y0 u u1) : 0 < y1 * 4294967296 + y0 := by have := s.a2; omega
theorem ki_start (s : KS y1 y0 u u1) (e : q * y1 + r = u) (h : r < y1) : KI y1 y0 u u1 q r := by
  obtain ⟨b1, b2, b3, b4, b5⟩ := s
  refine ⟨e, ?_, ?_, by omega⟩
  · rw [← Nat.lt_succ_iff, Nat.div_lt_iff_lt_mul (by omega), ki_mulY]
    have : (q + 1) * y1 = q * y1 + y1 := by rw [Nat.add_mul, Nat.one_mul]
    rw [Nat.succ_eq_add_one, this]; omega
  · rcases Nat.lt_or_ge q 4294967298 with h' | h'
    · omega
    · have := Nat.mul_le_mul_right y1 h'
      omega
theorem ks_Q (s : KS y1 y0 u u1) : (u * 4294967296 + u1) / (y1 * 4294967296 + y0) < 4294967296 := by
  obtain ⟨b1, b2, b3, b4, b5⟩ := s
  rw [Nat.div_lt_iff_lt_mul (by omega)]; omega
theorem ki_le (s : KS y1 y0 u u1) (e : q * y1 + r = u) (h : q * y0 ≤ 4294967296 * r + u1) : q ≤ (u * 4294967296 + u1) / (y1 * 4294967296 + y0) := by
  rw [Nat.le_div_iff_mul_le (ks_pos s), ki_mulY]; omega
theorem ki_yes (s : KS y1 y0 u u1) (k : KI y1 y0 u u1 q r) (h : q * y0 ≤ 4294967296 * r + u1) : q = (u * 4294967296 + u1) / (y1 * 4294967296 + y0) :=
  Nat.le_antisymm (ki_le s k.1 h) k.2.1
theorem ki_no (s : KS y1 y0 u u1) (k : KI y1 y0 u u1 q r) (h : 4294967296 * r + u1 < q * y0) : (u * 4294967296 + u1) / (y1 * 4294967296 + y0) + 1 ≤ q := by
  rw [Nat.succ_le_iff, Nat.div_lt_iff_lt_mul (ks_pos s), ki_mulY]; have := k.1; omega
theorem ki_big (s : KS y1 y0 u u1) (h : 4294967296 ≤ q) : (u * 4294967296 + u1) / (y1 * 4294967296 + y0) + 1 ≤ q := by have := ks_Q s; omega
theorem ki_pred (h : 1 ≤ q) : (q - 1) * y1 + (r + y1) = q * y1 + r := by
  obtain ⟨p, rfl⟩ : ∃ p, q = p + 1 := ⟨q - 1, by omega⟩
  rw [Nat.add_sub_cancel, Nat.add_mul, Nat.one_mul]; omega
theorem ki_next (k : KI y1 y0 u u1 q r) (h : (u * 4294967296 + u1) / (y1 * 4294967296 + y0) + 1 ≤ q) (h' : r + y1 < 4294967296) : KI y1 y0 u u1 (q - 1) (r + y1) :=
  ⟨by rw [ki_pred (Nat.le_trans (Nat.le_add_left 1 _) h)]; exact k.1, Nat.le_sub_one_of_lt h, by have := k.2.2.1; omega, h'⟩
theorem ki_break (s : KS y1 y0 u u1) (k : KI y1 y0 u u1 q r) (h : (u * 4294967296 + u1) / (y1 * 4294967296 + y0) + 1 ≤ q) (h' : 4294967296 ≤ r + y1) : q - 1 = (u * 4294967296 + u1) / (y1 * 4294967296 + y0) := by
  have e := ki_pred (y1 := y1) (r := r) (Nat.le_trans (Nat.le_add_left 1 _) h)
  refine Nat.le_antisymm (ki_le s (e.trans k.1) ?_) (Nat.le_sub_one_of_lt h)
  have := mul_le (show q - 1 ≤ 4294967296 by have := k.2.2.1; omega) (show y0 ≤ 4294967295 by have := s.a3; omega)
  omega
end

/-- the rest of one digit, as the words wrap -/
theorem dv_rest {Y u u1 : Nat} (hY : Y < 18446744073709551616) (hp : 0 < Y) :
    ∃ m : Nat, IntKind.u64.wrap (IntKind.u64.wrap (IntKind.u64.wrap ((u : Int) * 4294967296) + (u1 : Int)) - IntKind.u64.wrap (((u * 4294967296 + u1) / Y : Nat) * (Y : Int))) = (m : Int) ∧ m < Y ∧ (u * 4294967296 + u1) / Y * Y + m = u * 4294967296 + u1 := by
  have e := Nat.div_add_mod (u * 4294967296 + u1) Y
  have hm := Nat.mod_lt (u * 4294967296 + u1) hp
  rw [Nat.mul_comm] at e
  refine ⟨(u * 4294967296 + u1) % Y, ?_, hm, e⟩
  rw [← Int.natCast_mul]
  generalize (u * 4294967296 + u1) / Y * Y = P at *
  generalize (u * 4294967296 + u1) % Y = m at *
  simp only [IntKind.wrap_u64]
  omega
theorem dv_join {U Y y S V Q1 Q0 u L m R u1 u0 : Nat} (hy : Y = y * 2 ^ S) (hU : U = V * 2 ^ S) (e : u * 18446744073709551616 + L = U) (eL : L = u1 * 4294967296 + u0)
    (e1 : Q1 * Y + m = u * 4294967296 + u1) (e0 : Q0 * Y + R = m * 4294967296 + u0) (hR : R < Y) : Q1 * 4294967296 + Q0 = V / y ∧ R / 2 ^ S = V % y := by
  have hp : 0 < 2 ^ S := Nat.two_pow_pos S
  have hYp : 0 < Y := by omega
  have hYU : U = (Q1 * 4294967296 + Q0) * Y + R := by
    have : (Q1 * 4294967296 + Q0) * Y = Q1 * Y * 4294967296 + Q0 * Y := by rw [Nat.add_mul, Nat.mul_right_comm]
    rw [this]; omega
  have hq : U / Y = Q1 * 4294967296 + Q0 := by
    rw [hYU, Nat.mul_comm, Nat.mul_add_div hYp, Nat.div_eq_of_lt hR, Nat.add_zero]
  have hr : U % Y = R := by
    rw [hYU, Nat.mul_comm, Nat.mul_add_mod, Nat.mod_eq_of_lt hR]
  constructor
  · rw [← hq, hU, hy, Nat.mul_div_mul_right _ _ hp]
  · rw [← hr, hU, hy, Nat.mul_mod_mul_right, Nat.mul_div_cancel _ hp]
end Go.Proofs.Ytkkbjemifmekfaa
