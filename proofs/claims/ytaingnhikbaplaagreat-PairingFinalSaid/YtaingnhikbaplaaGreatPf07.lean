/-
  Plain numbers behind the division of two words by one: the normalised divisor, a digit guessed from the upper halves, the correction. No program in sight. Conditions: as each lemma says.
  The call of bits.Div64: for a divisor above the upper word, in any world, the answers are the quotient and the rest of the two words' number; nothing that was there is changed. Conditions: hi below y, all below 2^64.
  Rows of words in memory, said cell by cell by a function on places; sums of digits; a store of one digit. Of whatever program. Conditions: none.
  The call of limbs.Mul: for any two numbers of four words, in any world, the answers are the product's upper and lower four words. Conditions: each word below 2^64.
  Plain numbers behind the rest of a long number by a normalised one, word by word: the guessed digit is right or too great by one or two; the difference is brought back. No program in sight. Conditions: as each lemma says.
-/
import Derived.Laws.Bits64b
import Derived.Laws.Bits64
import Derived.WalkKit
import Derived.Below
import Derived.Deep.Draws
import Derived.LoopTactic
import Derived.Test.YtaingnhikbaplaaGreatPf00
import Derived.Test.YtaingnhikbaplaaGreatPf06
namespace Go.Proofs.YtaingnhikbaplaaGreat
set_option linter.unusedVariables false

theorem wrap_in64 (x : Nat) (h : x < 18446744073709551616) : IntKind.u64.wrap (x : Int) = (x : Int) := by rw [IntKind.wrap_u64]; omega
theorem wrap_mod64 (x : Nat) : IntKind.u64.wrap (x : Int) = ((x % 18446744073709551616 : Nat) : Int) := by rw [IntKind.wrap_u64]; omega
theorem cast_mul_pow (x S : Nat) : (x : Int) * 2 ^ S = ((x * 2 ^ S : Nat) : Int) := by rw [Int.natCast_mul, Int.natCast_pow]; rfl

theorem pow_split (S : Nat) (h : S ≤ 63) : 2 ^ (64 - S) * 2 ^ S = 18446744073709551616 := by
  rw [← Nat.pow_add, show 64 - S + S = 64 by omega]
theorem dv_setup {hi lo y S : Nat} (h2 : hi < y) (hl : lo < 18446744073709551616) (hS : S ≤ 63) (hY : y * 2 ^ S < 18446744073709551616) :
    ∃ u L : Nat, bits .or .u64 (IntKind.u64.wrap ((hi : Int) * 2 ^ S)) ((lo : Int) / 2 ^ (64 - S)) = (u : Int) ∧ IntKind.u64.wrap ((lo : Int) * 2 ^ S) = (L : Int) ∧ u < y * 2 ^ S ∧ L < 18446744073709551616 ∧ u * 18446744073709551616 + L = (hi * 18446744073709551616 + lo) * 2 ^ S := by
  have hp : 0 < 2 ^ S := Nat.two_pow_pos S
  have hps := pow_split S hS
  have hb : lo / 2 ^ (64 - S) < 2 ^ S := by
    rw [Nat.div_lt_iff_lt_mul (Nat.two_pow_pos _), Nat.mul_comm, hps]; exact hl
  have hhi : hi * 2 ^ S + 2 ^ S ≤ y * 2 ^ S := by
    have := Nat.mul_le_mul_right (2 ^ S) (show hi + 1 ≤ y by omega)
    rw [Nat.add_mul] at this; omega
  have hd : lo * 2 ^ S / 18446744073709551616 = lo / 2 ^ (64 - S) := by
    rw [← hps]; exact Nat.mul_div_mul_right _ _ hp
  refine ⟨hi * 2 ^ S + lo / 2 ^ (64 - S), lo * 2 ^ S % 18446744073709551616, ?_, ?_, ?_, by omega, ?_⟩
  · rw [cast_mul_pow, wrap_in64 _ (by omega), show ((lo : Int) / 2 ^ (64 - S)) = ((lo / 2 ^ (64 - S) : Nat) : Int) by rw [Int.natCast_ediv, Int.natCast_pow]; rfl,
      bits_or_u64_nat _ _ (by omega) (by omega), Nat.mul_comm hi, Nat.two_pow_add_eq_or_of_lt hb]
  · rw [cast_mul_pow, wrap_mod64]
  · omega
  · rw [Nat.add_mul, ← hd]
    have e : (hi * 18446744073709551616 + lo) * 2 ^ S = hi * 2 ^ S * 18446744073709551616 + lo * 2 ^ S := by
      rw [Nat.add_mul, Nat.mul_right_comm]
    rw [e]; omega

theorem dv_half {Y : Nat} (h : Y < 18446744073709551616) : ∃ a b : Nat, (Y : Int) / 4294967296 = (a : Int) ∧ bits .and .u64 (Y : Int) 4294967295 = (b : Int) ∧ a < 4294967296 ∧ b < 4294967296 ∧ Y = a * 4294967296 + b := by
  refine ⟨Y / 4294967296, Y % 4294967296, by omega, ?_, by omega, by omega, by omega⟩
  have h' := bits_and_u64_nat Y 4294967295 h (by omega)
  rw [show Y &&& 4294967295 = Y % 4294967296 from Nat.and_two_pow_sub_one_eq_mod Y 32] at h'
  exact h'

theorem dv_q (u y1 : Nat) (h : 0 < y1) : ∃ q r : Nat, (u : Int) / (y1 : Int) = (q : Int) ∧ (u : Int) - (q : Int) * (y1 : Int) = (r : Int) ∧ q * y1 + r = u ∧ r < y1 := by
  have e := Nat.div_add_mod u y1
  rw [Nat.mul_comm] at e
  refine ⟨u / y1, u % y1, (Int.natCast_ediv u y1).symm, ?_, e, Nat.mod_lt _ h⟩
  rw [← Int.natCast_mul]; omega

/-- What holds of a guessed digit q and its rest r. -/
def KI (y1 y0 u u1 q r : Nat) : Prop := q * y1 + r = u ∧ (u * 4294967296 + u1) / (y1 * 4294967296 + y0) ≤ q ∧ q ≤ 4294967297 ∧ r < 4294967296
/-- What the guess is held against. -/
structure KS (y1 y0 u u1 : Nat) : Prop where
  a1 : y1 < 4294967296
  a2 : 2147483648 ≤ y1
  a3 : y0 < 4294967296
  a4 : u < y1 * 4294967296 + y0
  a5 : u1 < 4294967296

section
variable {y1 y0 u u1 q r : Nat}
theorem ki_mulY (q y1 y0 : Nat) : q * (y1 * 4294967296 + y0) = q * y1 * 4294967296 + q * y0 := by rw [Nat.mul_add, Nat.mul_assoc]
theorem ks_pos (s : KS y1 y0 u u1) : 0 < y1 * 4294967296 + y0 := by have := s.a2; omega
theorem ki_start (s : KS y1 y0 u u1) (e : q * y1 + r = u) (h : r < y1) : KI y1 y0 u u1 q r := by
  obtain ⟨b1, b2, b3, b4, b5⟩ := s
  refine ⟨e, ?_, ?_, by omega⟩
  · rw [← Nat.lt_succ_iff, Nat.div_lt_iff_lt_mul (by omega), ki_mulY]
    have : (q + 1) * y1 = q * y1 + y1 := by rw [Nat.add_mul, Nat.one_mul]
    rw [Nat.succ_eq_add_one, this]; omega
  · rcases Nat.lt_or_ge q 4294967298 with h' | h'
    · omega
    · have := Nat.mul_le_mul_right y1 h'
      omega
theorem ks_Q (s : KS y1 y0 u u1) : (u * 4294967296 + u1) / (y1 * 4294967296 + y0) < 4294967296 := by
  obtain ⟨b1, b2, b3, b4, b5⟩ := s
  rw [Nat.div_lt_iff_lt_mul (by omega)]; omega
theorem ki_le (s : KS y1 y0 u u1) (e : q * y1 + r = u) (h : q * y0 ≤ 4294967296 * r + u1) : q ≤ (u * 4294967296 + u1) / (y1 * 4294967296 + y0) := by
  rw [Nat.le_div_iff_mul_le (ks_pos s), ki_mulY]; omega
theorem ki_yes (s : KS y1 y0 u u1) (k : KI y1 y0 u u1 q r) (h : q * y0 ≤ 4294967296 * r + u1) : q = (u * 4294967296 + u1) / (y1 * 4294967296 + y0) :=
  Nat.le_antisymm (ki_le s k.1 h) k.2.1
theorem ki_no (s : KS y1 y0 u u1) (k : KI y1 y0 u u1 q r) (h : 4294967296 * r + u1 < q * y0) : (u * 4294967296 + u1) / (y1 * 4294967296 + y0) + 1 ≤ q := by
  rw [Nat.succ_le_iff, Nat.div_lt_iff_lt_mul (ks_pos s), ki_mulY]; have := k.1; omega
theorem ki_big (s : KS y1 y0 u u1) (h : 4294967296 ≤ q) : (u * 4294967296 + u1) / (y1 * 4294967296 + y0) + 1 ≤ q := by have := ks_Q s; omega
theorem ki_pred (h : 1 ≤ q) : (q - 1) * y1 + (r + y1) = q * y1 + r := by
  obtain ⟨p, rfl⟩ : ∃ p, q = p + 1 := ⟨q - 1, by omega⟩
  rw [Nat.add_sub_cancel, Nat.add_mul, Nat.one_mul]; omega
theorem ki_next (k : KI y1 y0 u u1 q r) (h : (u * 4294967296 + u1) / (y1 * 4294967296 + y0) + 1 ≤ q) (h' : r + y1 < 4294967296) : KI y1 y0 u u1 (q - 1) (r + y1) :=
  ⟨by rw [ki_pred (Nat.le_trans (Nat.le_add_left 1 _) h)]; exact k.1, Nat.le_sub_one_of_lt h, by have := k.2.2.1; omega, h'⟩
theorem ki_break (s : KS y1 y0 u u1) (k : KI y1 y0 u u1 q r) (h : (u * 4294967296 + u1) / (y1 * 4294967296 + y0) + 1 ≤ q) (h' : 4294967296 ≤ r + y1) : q - 1 = (u * 4294967296 + u1) / (y1 * 4294967296 + y0) := by
  have e := ki_pred (y1 := y1) (r := r) (Nat.le_trans (Nat.le_add_left 1 _) h)
  refine Nat.le_antisymm (ki_le s (e.trans k.1) ?_) (Nat.le_sub_one_of_lt h)
  have := mul_le (show q - 1 ≤ 4294967296 by have := k.2.2.1; omega) (show y0 ≤ 4294967295 by have := s.a3; omega)
  omega
end

/-- the rest of one digit, as the words wrap -/
theorem dv_rest {Y u u1 : Nat} (hY : Y < 18446744073709551616) (hp : 0 < Y) :
    ∃ m : Nat, IntKind.u64.wrap (IntKind.u64.wrap (IntKind.u64.wrap ((u : Int) * 4294967296) + (u1 : Int)) - IntKind.u64.wrap (((u * 4294967296 + u1) / Y : Nat) * (Y : Int))) = (m : Int) ∧ m < Y ∧ (u * 4294967296 + u1) / Y * Y + m = u * 4294967296 + u1 := by
  have e := Nat.div_add_mod (u * 4294967296 + u1) Y
  have hm := Nat.mod_lt (u * 4294967296 + u1) hp
  rw [Nat.mul_comm] at e
  refine ⟨(u * 4294967296 + u1) % Y, ?_, hm, e⟩
  rw [← Int.natCast_mul]
  generalize (u * 4294967296 + u1) / Y * Y = P at *
  generalize (u * 4294967296 + u1) % Y = m at *
  simp only [IntKind.wrap_u64]
  omega
theorem dv_join {U Y y S V Q1 Q0 u L m R u1 u0 : Nat} (hy : Y = y * 2 ^ S) (hU : U = V * 2 ^ S) (e : u * 18446744073709551616 + L = U) (eL : L = u1 * 4294967296 + u0)
    (e1 : Q1 * Y + m = u * 4294967296 + u1) (e0 : Q0 * Y + R = m * 4294967296 + u0) (hR : R < Y) : Q1 * 4294967296 + Q0 = V / y ∧ R / 2 ^ S = V % y := by
  have hp : 0 < 2 ^ S := Nat.two_pow_pos S
  have hYp : 0 < Y := by omega
  have hYU : U = (Q1 * 4294967296 + Q0) * Y + R := by
    have : (Q1 * 4294967296 + Q0) * Y = Q1 * Y * 4294967296 + Q0 * Y := by rw [Nat.add_mul, Nat.mul_right_comm]
    rw [this]; omega
  have hq : U / Y = Q1 * 4294967296 + Q0 := by
    rw [hYU, Nat.mul_comm, Nat.mul_add_div hYp, Nat.div_eq_of_lt hR, Nat.add_zero]
  have hr : U % Y = R := by
    rw [hYU, Nat.mul_comm, Nat.mul_add_mod, Nat.mod_eq_of_lt hR]
  constructor
  · rw [← hq, hU, hy, Nat.mul_div_mul_right _ _ hp]
  · rw [← hr, hU, hy, Nat.mul_mod_mul_right, Nat.mul_div_cancel _ hp]
end Go.Proofs.YtaingnhikbaplaaGreat
namespace Go.Proofs.YtaingnhikbaplaaGreat
set_option linter.unusedVariables false
open Go.RowKit

theorem lenLog {y : Nat} (h0 : 1 ≤ y) (hy : y < 18446744073709551616) : Lib.bitLen y = y.log2 + 1 ∧ 2 ^ y.log2 ≤ y ∧ y < 2 ^ (y.log2 + 1) ∧ y.log2 ≤ 63 := by
  have a := Nat.log2_self_le (show y ≠ 0 by omega)
  have b : y < 2 ^ (y.log2 + 1) := Nat.lt_log2_self
  refine ⟨?_, a, b, ?_⟩
  · rw [Lib.bitLen_shift y.log2 y a hy]
    have : y / 2 ^ y.log2 = 1 := by
      rw [Nat.pow_succ] at b
      exact (Nat.div_eq_iff (Nat.two_pow_pos _)).2 ⟨by omega, by omega⟩
    rw [this]; rfl
  · have := (Nat.log2_lt (show y ≠ 0 by omega)).2 (show y < 2 ^ 64 from hy)
    omega
theorem ex_lz {y : Nat} (h0 : 1 ≤ y) (hy : y < 18446744073709551616) : ∃ S : Nat, (∀ w, Calls Tryz.prog 321 #[.int .u64 y] w fun e w' => e = .returned (.int .i64 S) ∧ w' = w) ∧ S ≤ 63 ∧ 9223372036854775808 ≤ y * 2 ^ S ∧ y * 2 ^ S < 18446744073709551616 := by
  obtain ⟨hl, ha, hb, hk⟩ := lenLog h0 hy
  refine ⟨63 - y.log2, fun w => ?_, by omega, ?_, ?_⟩
  · have := Tryz.bits_LeadingZeros64 (y : Int) w (by omega) (by omega)
    rw [Int.toNat_natCast, hl, show (64 - ((y.log2 + 1 : Nat) : Int)) = ((63 - y.log2 : Nat) : Int) by omega] at this
    exact this
  · have := Nat.mul_le_mul_right (2 ^ (63 - y.log2)) ha
    rw [← Nat.pow_add, show y.log2 + (63 - y.log2) = 63 by omega] at this
    exact this
  · have := Nat.mul_lt_mul_of_pos_right hb (Nat.two_pow_pos (63 - y.log2))
    rw [← Nat.pow_add, show y.log2 + 1 + (63 - y.log2) = 64 by omega] at this
    exact this

def DivPost (V y : Nat) (w : World) (e : Ending) (w' : World) : Prop :=
  ∃ n : Nat, e = .returned (.tuple #[.int .u64 (V / y : Nat), .int .u64 (V % y : Nat)]) ∧ w' = w.drewN n

/-- one digit's numbers, under names -/
theorem ex_digit {y1 y0 u u1 Y : Nat} (ks : KS y1 y0 u u1) (hY : Y < 18446744073709551616) (eY : Y = y1 * 4294967296 + y0) : ∃ q r p Q m : Nat,
    (u : Int) / (y1 : Int) = (q : Int) ∧ (q : Int) * (y1 : Int) = (p : Int) ∧ (u : Int) - (p : Int) = (r : Int) ∧ q ≤ 4294967297 ∧ r < 4294967296 ∧ p ≤ u ∧ Hid (KI y1 y0 u u1 q r) ∧
    IntKind.u64.wrap (IntKind.u64.wrap (IntKind.u64.wrap ((u : Int) * 4294967296) + (u1 : Int)) - IntKind.u64.wrap ((Q : Int) * (Y : Int))) = (m : Int) ∧
    Q < 4294967296 ∧ m < Y ∧ Hid (Q = (u * 4294967296 + u1) / (y1 * 4294967296 + y0)) ∧ Hid (Q * Y + m = u * 4294967296 + u1) := by
  have b2 : 0 < y1 := by have := ks.a2; omega
  obtain ⟨q, r, E8, E9, eq, hr⟩ := dv_q u y1 b2
  have ki := ki_start ks eq hr
  obtain ⟨m, Em, hm, em⟩ := dv_rest (u := u) (u1 := u1) hY (by have := ks.a2; omega)
  have hQ := ks_Q ks
  rw [← eY] at hQ
  refine ⟨q, r, q * y1, (u * 4294967296 + u1) / Y, m, E8, (Int.natCast_mul q y1).symm, by rw [Int.natCast_mul]; exact E9, ki.2.2.1, ki.2.2.2, by omega, Lib.hid ki, Em, hQ, hm, Lib.hid (by rw [← eY]), Lib.hid em⟩

/-- the loop's test, decided: t is the product that is held against the rest -/
def Guard (u1 q r t : Nat) : Prop := decide ((4294967296 : Int) ≤ (q : Int)) = true ∨ decide ((4294967296 : Int) ≤ (q : Int)) = false ∧ decide ((4294967296 : Int) * (r : Int) + (u1 : Int) < (t : Int)) = true ∧ t < 18446744073709551616
theorem tests {y1 y0 u u1 q r : Nat} (s : KS y1 y0 u u1) (k : KI y1 y0 u u1 q r) {Q : Nat} (hQ : Q = (u * 4294967296 + u1) / (y1 * 4294967296 + y0)) :
    ∃ t v : Nat, (q : Int) * (y0 : Int) = (t : Int) ∧ (r : Int) + (y1 : Int) = (v : Int) ∧ v < 18446744073709551616 ∧
    ((∃ p : Nat, (q : Int) - 1 = (p : Int) ∧ p < q ∧ decide ((4294967296 : Int) ≤ (v : Int)) = false ∧ Guard u1 q r t ∧ Hid (KI y1 y0 u u1 p v)) ∨
    ((q : Int) - 1 = (Q : Int) ∧ 1 ≤ q ∧ decide ((4294967296 : Int) ≤ (v : Int)) = true ∧ Guard u1 q r t) ∨ (q = Q ∧ decide ((4294967296 : Int) ≤ (q : Int)) = false ∧ decide ((4294967296 : Int) * (r : Int) + (u1 : Int) < (t : Int)) = false ∧ t < 18446744073709551616)) := by
  have b1 := s.a1
  have b3 := s.a3
  have b5 := s.a5
  have br : r < 4294967296 := k.2.2.2
  refine ⟨q * y0, r + y1, (Int.natCast_mul q y0).symm, by omega, by omega, ?_⟩
  rcases Nat.lt_or_ge q 4294967296 with h | h
  · have hp := mul_le (show q ≤ 4294967295 by omega) (show y0 ≤ 4294967295 by omega)
    rcases Nat.lt_or_ge (4294967296 * r + u1) (q * y0) with h' | h'
    · have hn := ki_no s k h'
      have h1 := Nat.le_trans (Nat.le_add_left 1 _) hn
      rcases Nat.lt_or_ge (r + y1) 4294967296 with g | g
      · exact Or.inl ⟨q - 1, by omega, by omega, decide_eq_false (by omega), Or.inr ⟨decide_eq_false (by omega), decide_eq_true (by omega), by omega⟩, Lib.hid (ki_next k hn g)⟩
      · have := (ki_break s k hn g).trans hQ.symm
        exact Or.inr (Or.inl ⟨by omega, h1, decide_eq_true (by omega), Or.inr ⟨decide_eq_false (by omega), decide_eq_true (by omega), by omega⟩⟩)
    · exact Or.inr (Or.inr ⟨(ki_yes s k h').trans hQ.symm, decide_eq_false (by omega), decide_eq_false (by omega), by omega⟩)
  · have hn := ki_big s h
    rcases Nat.lt_or_ge (r + y1) 4294967296 with g | g
    · exact Or.inl ⟨q - 1, by omega, by omega, decide_eq_false (by omega), Or.inl (decide_eq_true (by omega)), Lib.hid (ki_next k hn g)⟩
    · have := (ki_break s k hn g).trans hQ.symm
      exact Or.inr (Or.inl ⟨by omega, by omega, decide_eq_true (by omega), Or.inl (decide_eq_true (by omega))⟩)

set_option maxRecDepth 100000 in
set_option maxHeartbeats 4000000 in
theorem div64_big (hi lo y : Nat) (h1 : 1 ≤ hi) (h2 : hi < y) (hl : lo < 18446744073709551616) (hy : y < 18446744073709551616) (w : World) :
    Calls Tryz.prog 319 #[.int .u64 hi, .int .u64 lo, .int .u64 y] w (DivPost (hi * 18446744073709551616 + lo) y w) := by
  obtain ⟨S, m, hS, hY1, hY2⟩ := ex_lz (show 1 ≤ y by omega) hy
  obtain ⟨u, L, E4, E5, hu, hL, eU⟩ := dv_setup h2 hl hS hY2
  obtain ⟨Y, eY⟩ : ∃ Y, Y = y * 2 ^ S := ⟨_, rfl⟩
  rw [← eY] at hY1 hY2 hu
  have E1 : IntKind.u64.wrap ((y : Int) * 2 ^ S) = (Y : Int) := by rw [cast_mul_pow, ← eY, wrap_in64 _ hY2]
  obtain ⟨y1, y0, E2, E3, b1, b0, eYh⟩ := dv_half hY2
  obtain ⟨u1, u0, E6, E7, c1, c0, eLh⟩ := dv_half hL
  have ks : KS y1 y0 u u1 := ⟨b1, by omega, b0, by omega, c1⟩
  obtain ⟨q, r, p, Q1, m1, F1, F2, F3, F4, F5, F6, K1, F7, F8, F9, F10, F11⟩ := ex_digit ks hY2 eYh
  have ks' : KS y1 y0 m1 u0 := ⟨b1, by omega, b0, by omega, c0⟩
  obtain ⟨q', r', p', Q0, R, G1, G2, G3, G4, G5, G6, K2, G7, G8, G9, G10, G11⟩ := ex_digit ks' hY2 eYh
  obtain ⟨j1, j2⟩ := dv_join eY rfl eU eLh F11.out G11.out G9
  have b2 : 0 < y1 := by have := ks.a2; omega
  have b3 : 0 < (y1 : Int) := by omega
  have bu : u < 18446744073709551616 := by omega
  have bm : m1 < 18446744073709551616 := by omega
  have J2 : (R : Int) / 2 ^ S = (((hi * 18446744073709551616 + lo) % y : Nat) : Int) := by rw [← j2, Int.natCast_ediv, Int.natCast_pow]; rfl
  have J1 : (Q1 : Int) * 4294967296 + (Q0 : Int) = (((hi * 18446744073709551616 + lo) / y : Nat) : Int) := by rw [← j1]; omega
  have HJ2 := Lib.hid J2; have HJ1 := Lib.hid J1
  have Hks := Lib.hid ks; have Hks' := Lib.hid ks'
  clear eU eYh eLh eY j1 j2 ks ks' J1 J2 hY1 F11 G11 hu
  have t1 : ((y : Int) == 0) = false := by simp; omega
  have t2 : ((hi : Int) == 0) = false := by simp; omega
  go_enter Tryz.func319, Tryz.ntmps319
  go_wp2_with fail
  refine (m _).mono ?_
  rintro e w' ⟨rfl, rfl⟩
  go_wp2_with fail
  clear t1 t2 E1 E2 E3 E4 E5 E6 E7 F1 F2 F3 h1 h2 m
  go_loop [15, 16] (fun a b => ∃ q r : Nat, a = .int .u64 q ∧ b = .int .u64 r ∧ Hid (KI y1 y0 u u1 q r)) (fun a _ => (intOf a).toNat)
  case atStart => exact ⟨q, r, rfl, rfl, K1⟩
  case round =>
    obtain ⟨q2, r2, rfl, rfl, k⟩ := hrel
    have d1 : q2 ≤ 4294967297 := k.out.2.2.1
    have d2 : r2 < 4294967296 := k.out.2.2.2
    obtain ⟨t, v, ht, hv, bv, hc⟩ := tests Hks.out k.out F10.out
    rcases hc with ⟨p2, hp, lp, lv, g2 | ⟨g2, g3, g5⟩, g4⟩ | ⟨hp, lp, lv, g2 | ⟨g2, g3, g5⟩⟩ | ⟨rfl, g1, g2, g5⟩
    · go_wp2_with fail
      go_round
      case rel => exact ⟨p2, v, rfl, rfl, g4⟩
      case measure => simp [intOf]; omega
    · go_wp2_with fail
      go_round
      case rel => exact ⟨p2, v, rfl, rfl, g4⟩
      case measure => simp [intOf]; omega
    all_goals (
      go_wp2_with fail
      clear ht hv bv d1 d2 k F7 G1 G2 G3
      go_loop [18, 16] (fun a b => ∃ q r : Nat, a = .int .u64 q ∧ b = .int .u64 r ∧ Hid (KI y1 y0 m1 u0 q r)) (fun a _ => (intOf a).toNat)
      case atStart => exact ⟨q', r', rfl, rfl, K2⟩
      case round =>
        obtain ⟨q3, r3, rfl, rfl, k⟩ := hrel
        have d1 : q3 ≤ 4294967297 := k.out.2.2.1
        have d2 : r3 < 4294967296 := k.out.2.2.2
        obtain ⟨t, v, ht, hv, bv, hc⟩ := tests Hks'.out k.out G10.out
        rcases hc with ⟨p2, hp, lp, lv, g2 | ⟨g2, g3, g5⟩, g4⟩ | ⟨hp, lp, lv, g2 | ⟨g2, g3, g5⟩⟩ | ⟨rfl, g1, g2, g5⟩
        · go_wp2_with fail
          go_round
          case rel => exact ⟨p2, v, rfl, rfl, g4⟩
          case measure => simp [intOf]; omega
        · go_wp2_with fail
          go_round
          case rel => exact ⟨p2, v, rfl, rfl, g4⟩
          case measure => simp [intOf]; omega
        all_goals (
          go_wp2_with fail
          go_ret2
          exact ⟨0, by rw [HJ1.out, HJ2.out]; rfl, rfl⟩))

theorem div64_zero (lo y : Nat) (h2 : 0 < y) (hl : lo < 18446744073709551616) (hy : y < 18446744073709551616) (w : World) :
    Calls Tryz.prog 319 #[.int .u64 0, .int .u64 lo, .int .u64 y] w (DivPost lo y w) := by
  obtain ⟨q, E1⟩ : ∃ q : Nat, (lo : Int) / (y : Int) = (q : Int) := ⟨lo / y, (Int.natCast_ediv lo y).symm⟩
  obtain ⟨r, E2⟩ : ∃ r : Nat, (lo : Int) % (y : Int) = (r : Int) := ⟨lo % y, (Int.natCast_emod lo y).symm⟩
  have e1 : q = lo / y := by rw [← Int.natCast_ediv] at E1; exact (Int.ofNat.inj E1).symm
  have e2 : r = lo % y := by rw [← Int.natCast_emod] at E2; exact (Int.ofNat.inj E2).symm
  have b1 : q < 18446744073709551616 := by rw [e1]; exact Nat.lt_of_le_of_lt (Nat.div_le_self _ _) hl
  have b2 : r < 18446744073709551616 := by rw [e2]; exact Nat.lt_of_lt_of_le (Nat.mod_lt _ h2) (by omega)
  have H1 := Lib.hid e1; have H2 := Lib.hid e2
  clear e1 e2
  have t1 : ((y : Int) == 0) = false := by simp; omega
  go_enter Tryz.func319, Tryz.ntmps319
  go_wp2_with fail
  go_quiet (fail)
  go_wp2_with fail
  go_ret2
  exact ⟨_, by rw [← H1.out, ← H2.out, ← E2]; rfl, rfl⟩

theorem ex_Div64 {hi lo y : Nat} (h : hi < y) (hl : lo < 18446744073709551616) (hy : y < 18446744073709551616) : ∃ q r : Nat,
    (∀ w, Calls Tryz.prog 319 #[.int .u64 hi, .int .u64 lo, .int .u64 y] w fun e w' => e = .returned (.tuple #[.int .u64 (q : Nat), .int .u64 (r : Nat)]) ∧ ∃ n, w' = w.drewN n) ∧
    q < 18446744073709551616 ∧ r < y ∧ Hid (q * y + r = hi * 18446744073709551616 + lo) := by
  refine ⟨(hi * 18446744073709551616 + lo) / y, (hi * 18446744073709551616 + lo) % y, fun w => ?_, ?_, Nat.mod_lt _ (by omega), Lib.hid (by rw [Nat.mul_comm]; exact Nat.div_add_mod _ _)⟩
  · rcases Nat.eq_zero_or_pos hi with rfl | h1
    · have := div64_zero lo y h hl hy w
      rw [Nat.zero_mul, Nat.zero_add]
      exact this.mono fun e w' ⟨n, he, hw⟩ => ⟨he, n, hw⟩
    · exact (div64_big hi lo y h1 h hl hy w).mono fun e w' ⟨n, he, hw⟩ => ⟨he, n, hw⟩
  · rw [Nat.div_lt_iff_lt_mul (by omega)]
    have := Nat.mul_le_mul_right 18446744073709551616 (show hi + 1 ≤ y by omega)
    rw [Nat.mul_comm 18446744073709551616 y]
    omega
end Go.Proofs.YtaingnhikbaplaaGreat
namespace Go.Proofs.YtaingnhikbaplaaGreat
set_option linter.unusedVariables false
open Go.RowKit

/-- n cells of block b hold the words P 0, P 1, .., and may be written. -/
def RowIs (w : World) (b n : Nat) (P : Nat → Nat) : Prop := ∀ k, k < n → w.cell? ⟨b, k, none⟩ = some (.int .u64 (P k : Nat)) ∧ w.frozen? ⟨b, k, none⟩ = false
def upd (P : Nat → Nat) (i v : Nat) : Nat → Nat := fun k => if k = i then v else P k
/-- a list as a function on places -/
def fnOf (l : List Nat) : Nat → Nat := fun k => l.getD k 0

section
variable {w w' : World} {b n i v : Nat} {P : Nat → Nat}
theorem RowIs.cell (h : RowIs w b n P) (hi : i < n) : w.cell? ⟨b, i, none⟩ = some (.int .u64 (P i : Nat)) := (h i hi).1
theorem RowIs.free (h : RowIs w b n P) (hi : i < n) : w.frozen? ⟨b, i, none⟩ = false := (h i hi).2
theorem RowIs.set (h : RowIs w b n P) (hi : i < n) : RowIs (w.setCell ⟨b, i, none⟩ (.int .u64 (v : Nat))) b n (upd P i v) := by
  intro k hk
  refine ⟨?_, by rw [World.frozen?_setCell]; exact h.free hk⟩
  unfold upd
  by_cases e : k = i
  · subst e; rw [if_pos rfl]; exact World.cell?_setCell_same (h := h.cell hk) ..
  · rw [if_neg e, World.cell?_setCell_other (h := fun he => e (by simpa using (congrArg Addr.off he).symm)) ..]; exact h.cell hk
theorem RowIs.other (h : RowIs w b n P) {c : Nat} (hc : c ≠ b) (x : Value) : RowIs (w.setCell ⟨c, i, none⟩ x) b n P := by
  intro k hk
  exact ⟨by rw [World.cell?_setCell_other (h := fun he => hc (by simpa using congrArg Addr.block he)) ..]; exact h.cell hk, by rw [World.frozen?_setCell]; exact h.free hk⟩
theorem RowIs.drew (h : RowIs w b n P) : RowIs w.drew b n P := h
theorem RowIs.drewN (h : RowIs w b n P) (m : Nat) : RowIs (w.drewN m) b n P := h
theorem RowIs.below (h : RowIs w b n P) {B : Nat} (hb : Below B w w') (hB : b < B) : RowIs w' b n P := by
  intro k hk
  exact ⟨by rw [hb.cell (p := ⟨b, k, none⟩) hB]; exact h.cell hk, by rw [hb.frozen (p := ⟨b, k, none⟩) hB]; exact h.free hk⟩
theorem RowIs.alloc (h : RowIs w b n P) (hb : b < w.heap.size) (o : Obj) : RowIs (w.alloc o) b n P :=
  h.below ((Below.refl w.heap.size w).alloc (Nat.le_refl _) o) hb
/-- a new block of words -/
theorem RowIs.mk (w : World) (t : TypeId) (l : List Nat) (b : Nat) (hb : b = w.heap.size) : RowIs (w.alloc (.cells (l.map fun x => Value.int .u64 (x : Nat)).toArray t)) b l.length (fnOf l) := by
  subst hb
  intro k hk
  refine ⟨?_, World.frozen?_alloc_new _ _ _ _⟩
  rw [World.cell?_alloc_new]
  simp [fnOf, hk]
end

/-- four words in a block, told one by one -/
structure Row4 (w : World) (b : Nat) (c0 c1 c2 c3 : Nat) : Prop where
  c0 : w.cell? ⟨b, 0, none⟩ = some (.int .u64 c0)
  c1 : w.cell? ⟨b, 1, none⟩ = some (.int .u64 c1)
  c2 : w.cell? ⟨b, 2, none⟩ = some (.int .u64 c2)
  c3 : w.cell? ⟨b, 3, none⟩ = some (.int .u64 c3)
  fr : ∀ k, w.frozen? ⟨b, k, none⟩ = false
theorem Row4.below {w w' : World} {b : Nat} {c0 c1 c2 c3 : Nat} (h : Row4 w b c0 c1 c2 c3) {B : Nat} (hb : Below B w w') (hB : b < B) : Row4 w' b c0 c1 c2 c3 :=
  ⟨by rw [hb.cell (p := ⟨b, 0, none⟩) hB]; exact h.c0, by rw [hb.cell (p := ⟨b, 1, none⟩) hB]; exact h.c1, by rw [hb.cell (p := ⟨b, 2, none⟩) hB]; exact h.c2, by rw [hb.cell (p := ⟨b, 3, none⟩) hB]; exact h.c3,
    fun k => by rw [hb.frozen (p := ⟨b, k, none⟩) hB]; exact h.fr k⟩
theorem Row4.alloc {w : World} {b : Nat} {c0 c1 c2 c3 : Nat} (h : Row4 w b c0 c1 c2 c3) (hb : b < w.heap.size) (o : Obj) : Row4 (w.alloc o) b c0 c1 c2 c3 :=
  h.below ((Below.refl w.heap.size w).alloc (Nat.le_refl _) o) hb
theorem Row4.drewN {w : World} {b : Nat} {c0 c1 c2 c3 : Nat} (h : Row4 w b c0 c1 c2 c3) (n : Nat) : Row4 (w.drewN n) b c0 c1 c2 c3 := ⟨h.c0, h.c1, h.c2, h.c3, h.fr⟩
theorem Row4.new (w : World) (c0 c1 c2 c3 : Nat) (t : TypeId) : Row4 (w.alloc (.cells #[.int .u64 c0, .int .u64 c1, .int .u64 c2, .int .u64 c3] t)) w.heap.size c0 c1 c2 c3 :=
  ⟨by rw [World.cell?_alloc_new]; rfl, by rw [World.cell?_alloc_new]; rfl, by rw [World.cell?_alloc_new]; rfl, by rw [World.cell?_alloc_new]; rfl, fun k => World.frozen?_alloc_new _ _ _ _⟩
theorem Row4.other {w : World} {b d i : Nat} {c0 c1 c2 c3 : Nat} (h : Row4 w b c0 c1 c2 c3) (hd : d ≠ b) (v : Value) : Row4 (w.setCell ⟨d, i, none⟩ v) b c0 c1 c2 c3 :=
  ⟨by rw [World.cell?_setCell_other (h := fun he => hd (by simpa using congrArg Addr.block he)) ..]; exact h.c0, by rw [World.cell?_setCell_other (h := fun he => hd (by simpa using congrArg Addr.block he)) ..]; exact h.c1,
    by rw [World.cell?_setCell_other (h := fun he => hd (by simpa using congrArg Addr.block he)) ..]; exact h.c2, by rw [World.cell?_setCell_other (h := fun he => hd (by simpa using congrArg Addr.block he)) ..]; exact h.c3,
    fun k => by rw [World.frozen?_setCell]; exact h.fr k⟩
/-- four stores, in the walk's order -/
def set4 (w : World) (b : Nat) (d0 d1 d2 d3 : Nat) : World := (((w.setCell ⟨b, 0, none⟩ (.int .u64 d0)).setCell ⟨b, 1, none⟩ (.int .u64 d1)).setCell ⟨b, 2, none⟩ (.int .u64 d2)).setCell ⟨b, 3, none⟩ (.int .u64 d3)
theorem Row4.rows {w : World} {b : Nat} {c0 c1 c2 c3 : Nat} (h : Row4 w b c0 c1 c2 c3) : RowIs w b 4 (fnOf [c0, c1, c2, c3]) := by
  intro k hk
  refine ⟨?_, h.fr k⟩
  match k, hk with
  | 0, _ => exact h.c0
  | 1, _ => exact h.c1
  | 2, _ => exact h.c2
  | 3, _ => exact h.c3
theorem Row4.set4 {w : World} {b : Nat} {c0 c1 c2 c3 : Nat} (h : Row4 w b c0 c1 c2 c3) (d0 d1 d2 d3 : Nat) : Row4 (set4 w b d0 d1 d2 d3) b d0 d1 d2 d3 := by
  have r := (((h.rows.set (show 0 < 4 by omega) (v := d0)).set (show 1 < 4 by omega) (v := d1)).set (show 2 < 4 by omega) (v := d2)).set (show 3 < 4 by omega) (v := d3)
  exact ⟨r.cell (by omega), r.cell (show 1 < 4 by omega), r.cell (show 2 < 4 by omega), r.cell (show 3 < 4 by omega), fun k => by
    show World.frozen? (((_ : World).setCell _ _)) _ = _
    rw [World.frozen?_setCell, World.frozen?_setCell, World.frozen?_setCell, World.frozen?_setCell]; exact h.fr k⟩
theorem Row4.set4_other {w : World} {b d : Nat} {c0 c1 c2 c3 : Nat} (h : Row4 w b c0 c1 c2 c3) (hd : d ≠ b) (e0 e1 e2 e3 : Nat) : Row4 (Go.Proofs.YtaingnhikbaplaaGreat.set4 w d e0 e1 e2 e3) b c0 c1 c2 c3 :=
  (((h.other hd _).other hd _).other hd _).other hd _
theorem below_set4 {B : Nat} {w w' : World} {b : Nat} (h : Below B w w') (hb : B ≤ b) (d0 d1 d2 d3 : Nat) : Below B w (set4 w' b d0 d1 d2 d3) :=
  (((h.setCell (p := ⟨b, 0, none⟩) hb _).setCell (p := ⟨b, 1, none⟩) hb _).setCell (p := ⟨b, 2, none⟩) hb _).setCell (p := ⟨b, 3, none⟩) hb _
theorem below_drewN' (B : Nat) (w : World) (n : Nat) : Below B w (w.drewN n) := ⟨rfl, rfl, rfl, Nat.le_refl _, fun _ _ => rfl⟩

def tot (B : Nat) (P : Nat → Nat) : Nat → Nat
  | 0 => 0
  | n + 1 => tot B P n + P n * B ^ n
theorem tot_succ (B : Nat) (P : Nat → Nat) (n : Nat) : tot B P (n + 1) = tot B P n + P n * B ^ n := rfl
theorem tot_upd_ge (B : Nat) (P : Nat → Nat) (k v : Nat) : ∀ n, n ≤ k → tot B (upd P k v) n = tot B P n
  | 0, _ => rfl
  | n + 1, h => by
    rw [tot_succ, tot_succ, tot_upd_ge B P k v n (by omega)]
    unfold upd
    rw [if_neg (by omega)]
theorem tot_upd (B : Nat) (P : Nat → Nat) (k v : Nat) : ∀ n, k < n → tot B (upd P k v) n + P k * B ^ k = tot B P n + v * B ^ k
  | n + 1, h => by
    rw [tot_succ, tot_succ]
    by_cases e : k = n
    · subst e
      rw [tot_upd_ge B P k v k (Nat.le_refl _)]
      unfold upd
      rw [if_pos rfl]; omega
    · have := tot_upd B P k v n (by omega)
      have e' : upd P k v n = P n := by unfold upd; rw [if_neg (by omega)]
      rw [e']; omega
theorem tot_zero (B : Nat) (P : Nat → Nat) (h : ∀ k, P k = 0) : ∀ n, tot B P n = 0
  | 0 => rfl
  | n + 1 => by rw [tot_succ, tot_zero B P h n, h n, Nat.zero_mul]
theorem tot_lt (B : Nat) (P : Nat → Nat) (hB : 0 < B) : ∀ n, (∀ k, k < n → P k < B) → tot B P n < B ^ n
  | 0, _ => by simp [tot]
  | n + 1, h => by
    have h1 := tot_lt B P hB n (fun k hk => h k (by omega))
    have h2 := Nat.mul_le_mul_right (B ^ n) (show P n + 1 ≤ B by have := h n (by omega); omega)
    rw [tot_succ, Nat.pow_succ, Nat.mul_comm (B ^ n) B]
    rw [Nat.add_mul, Nat.one_mul] at h2
    omega

/-- One step of the school's product: the digit at place k takes in a product and what was carried over. -/
theorem step_arith {B : Nat} {P : Nat → Nat} {n k x o d o' T : Nat} (hk : k < n) (he : d + B * o' = x + P k + o) (hT : tot B P n + o * B ^ k = T) :
    tot B (upd P k d) n + o' * B ^ (k + 1) = T + x * B ^ k := by
  have h1 := tot_upd B P k d n hk
  have h2 : d * B ^ k + o' * B ^ (k + 1) = x * B ^ k + P k * B ^ k + o * B ^ k := by
    rw [Nat.pow_succ, ← Nat.add_mul, ← Nat.add_mul, ← he, Nat.add_mul]
    congr 1
    rw [Nat.mul_comm (B ^ k) B, ← Nat.mul_assoc, Nat.mul_comm o' B]
  omega
/-! ### The school's product over a base R: n digits by n digits into 2n -/
section
variable {R n : Nat} {A B P : Nat → Nat} {i j o d o' : Nat}
theorem tot_split (R : Nat) (P : Nat → Nat) (n : Nat) : ∀ m, tot R P (n + m) = tot R P n + R ^ n * tot R (fun k => P (n + k)) m
  | 0 => by rw [Nat.add_zero]; show _ = _ + R ^ n * 0; rw [Nat.mul_zero, Nat.add_zero]
  | m + 1 => by
    rw [show n + (m + 1) = n + m + 1 by omega, tot_succ, tot_split R P n m, tot_succ, Nat.mul_add, Nat.pow_add, ← Nat.mul_assoc (R ^ n), Nat.add_assoc]
    rw [Nat.mul_comm (P (n + m)) (R ^ n * R ^ m), Nat.mul_right_comm]
end
theorem val4_tot (P : Nat → Nat) : val4 (P 0) (P 1) (P 2) (P 3) = tot 18446744073709551616 P 4 := by
  unfold val4
  simp only [tot]
  omega
end Go.Proofs.YtaingnhikbaplaaGreat
namespace Go.Proofs.YtaingnhikbaplaaGreat
set_option linter.unusedVariables false
open Go.RowKit

/-- the world in a product's rounds: a's, b's and the result's blocks, and the product's -/
structure MW (w wr : World) (A B P : Nat → Nat) : Prop where
  below : Below w.heap.size w wr
  size : wr.heap.size = w.heap.size + 1 + 1 + 1 + 1 + 1
  rowA : RowIs wr w.heap.size 4 A
  rowB : RowIs wr (w.heap.size + 1) 4 B
  rowH : ∃ H, RowIs wr (w.heap.size + 1 + 1) 4 H
  rowL : ∃ L, RowIs wr (w.heap.size + 1 + 1 + 1) 4 L
  rowP : RowIs wr (w.heap.size + 1 + 1 + 1 + 1) 8 P
  lt : ∀ k, P k < 18446744073709551616
theorem MW.set {w wr : World} {A B P : Nat → Nat} (h : MW w wr A B P) {k d : Nat} (hk : k < 8) (hd : d < 18446744073709551616) :
    MW w (wr.setCell ⟨w.heap.size + 1 + 1 + 1 + 1, k, none⟩ (.int .u64 (d : Nat))) A B (upd P k d) :=
  ⟨h.below.setCell (p := ⟨w.heap.size + 1 + 1 + 1 + 1, k, none⟩) (by simp; omega) _, by rw [World.size_setCell]; exact h.size, h.rowA.other (by omega) _, h.rowB.other (by omega) _,
    h.rowH.elim fun H x => ⟨H, x.other (by omega) _⟩, h.rowL.elim fun L x => ⟨L, x.other (by omega) _⟩, h.rowP.set hk,
    fun x => by unfold upd; split; exact hd; exact h.lt x⟩
theorem MW.drewN {w wr : World} {A B P : Nat → Nat} (h : MW w wr A B P) (n : Nat) : MW w (wr.drewN n) A B P :=
  ⟨h.below.trans (below_drewN' _ _ _), h.size, h.rowA, h.rowB, h.rowH, h.rowL, h.rowP, h.lt⟩
theorem RowIs.mk4 {w : World} {b : Nat} {c0 c1 c2 c3 : Nat} (h0 : w.cell? ⟨b, 0, none⟩ = some (.int .u64 c0)) (h1 : w.cell? ⟨b, 1, none⟩ = some (.int .u64 c1)) (h2 : w.cell? ⟨b, 2, none⟩ = some (.int .u64 c2)) (h3 : w.cell? ⟨b, 3, none⟩ = some (.int .u64 c3))
    (hf : ∀ k, w.frozen? ⟨b, k, none⟩ = false) : RowIs w b 4 (fnOf [c0, c1, c2, c3]) := by
  intro k hk
  refine ⟨?_, hf k⟩
  match k, hk with
  | 0, _ => exact h0
  | 1, _ => exact h1
  | 2, _ => exact h2
  | 3, _ => exact h3
theorem fnOf4_lt {a0 a1 a2 a3 : Nat} (ha : ok4 a0 a1 a2 a3) (k : Nat) : fnOf [a0, a1, a2, a3] k < 18446744073709551616 := by
  obtain ⟨h0, h1, h2, h3⟩ := ha
  unfold fnOf
  match k with
  | 0 => exact h0
  | 1 => exact h1
  | 2 => exact h2
  | 3 => exact h3
  | k + 4 => simp

end Go.Proofs.YtaingnhikbaplaaGreat
namespace Go.Proofs.YtaingnhikbaplaaGreat
set_option linter.unusedVariables false

theorem top5 (r0 r1 r2 r3 x : Nat) : val4 r0 r1 r2 r3 * 18446744073709551616 + x = r3 * 115792089237316195423570985008687907853269984665640564039457584007913129639936 + val4 x r0 r1 r2 := by unfold val4; omega
theorem val4_hi (b0 b1 b2 b3 : Nat) (h : ok4 b0 b1 b2 b3) : ∃ t, val4 b0 b1 b2 b3 = b3 * 6277101735386680763835789423207666416102355444464034512896 + t ∧ t < 6277101735386680763835789423207666416102355444464034512896 := by
  obtain ⟨h0, h1, h2, _⟩ := h
  exact ⟨b0 + 18446744073709551616 * (b1 + 18446744073709551616 * b2), by unfold val4; omega, by omega⟩
theorem low3 {x r0 r1 r2 : Nat} (hx : x < 18446744073709551616) (h0 : r0 < 18446744073709551616) (h1 : r1 < 18446744073709551616) : ∃ t, val4 x r0 r1 r2 = r2 * 6277101735386680763835789423207666416102355444464034512896 + t ∧ t < 6277101735386680763835789423207666416102355444464034512896 :=
  ⟨x + 18446744073709551616 * (r0 + 18446744073709551616 * r1), by unfold val4; omega, by omega⟩

/-- A digit guessed by the highest word. -/
theorem guess_lt {N b b3 t r g m : Nat} (hb : b = b3 * 6277101735386680763835789423207666416102355444464034512896 + t) (ht : t < 6277101735386680763835789423207666416102355444464034512896) (h3 : 9223372036854775808 ≤ b3) (hN : N = r * 6277101735386680763835789423207666416102355444464034512896 + m) (hm : m < 6277101735386680763835789423207666416102355444464034512896)
    (hg : g < 18446744073709551616) (h1 : g * b3 ≤ r) (h2 : r < g * b3 + b3) : N / b ≤ g ∧ g ≤ N / b + 2 := by
  have hp : 0 < b := by omega
  constructor
  · rw [← Nat.lt_succ_iff, Nat.div_lt_iff_lt_mul hp, Nat.succ_mul, hb, Nat.mul_add, ← Nat.mul_assoc]
    omega
  · have e := Nat.div_add_mod N b
    have hl := Nat.mod_lt N hp
    have h4 := mul_le (show g ≤ 18446744073709551615 by omega) (show t ≤ 6277101735386680763835789423207666416102355444464034512895 by omega)
    have h5 : g * b < N + 2 * b := by
      rw [hb, Nat.mul_add, ← Nat.mul_assoc]; omega
    rcases Nat.lt_or_ge g (N / b + 3) with h | h
    · omega
    · have h6 := Nat.mul_le_mul_right b h
      rw [Nat.add_mul, Nat.mul_comm (N / b) b] at h6
      omega
theorem guess_eq {N b b3 t r2 m x R : Nat} (hb : b = b3 * 6277101735386680763835789423207666416102355444464034512896 + t) (ht : t < 6277101735386680763835789423207666416102355444464034512896) (h3 : 9223372036854775808 ≤ b3) (hN : N = b3 * 115792089237316195423570985008687907853269984665640564039457584007913129639936 + (r2 * 6277101735386680763835789423207666416102355444464034512896 + m)) (hR : N = R * 18446744073709551616 + x) (hx : x < 18446744073709551616) (hl : R < b) :
    N / b ≤ 18446744073709551615 ∧ 18446744073709551615 ≤ N / b + 2 := by
  have hp : 0 < b := by omega
  constructor
  · rw [← Nat.lt_succ_iff, Nat.div_lt_iff_lt_mul hp]; omega
  · have e := Nat.div_add_mod N b
    have hl' := Nat.mod_lt N hp
    rcases Nat.lt_or_ge 18446744073709551615 (N / b + 3) with h | h
    · omega
    · have h6 := Nat.mul_le_mul_right b h
      rw [Nat.add_mul, Nat.mul_comm (N / b) b] at h6
      omega

/-- Where the difference stands: k times the divisor below the rest R, the words wrapped. -/
def TI (b R k top s : Nat) : Prop := k ≤ 2 ∧ (k = 0 → top = 0 ∧ s = R) ∧ (k = 1 → top * 115792089237316195423570985008687907853269984665640564039457584007913129639936 + s + b = 18446744073709551616 * 115792089237316195423570985008687907853269984665640564039457584007913129639936 + R ∧ 0 < top) ∧ (k = 2 → top * 115792089237316195423570985008687907853269984665640564039457584007913129639936 + s + b + b = 18446744073709551616 * 115792089237316195423570985008687907853269984665640564039457584007913129639936 + R ∧ 0 < top)
theorem ti_start {N b g r3 xr p o s c : Nat} (hb : b < 115792089237316195423570985008687907853269984665640564039457584007913129639936) (hp : 0 < b) (hN : N = r3 * 115792089237316195423570985008687907853269984665640564039457584007913129639936 + xr) (hxr : xr < 115792089237316195423570985008687907853269984665640564039457584007913129639936) (h1 : N / b ≤ g) (h2 : g ≤ N / b + 2) (hr : r3 < 18446744073709551616) (ho : o < 18446744073709551616)
    (e1 : p + 115792089237316195423570985008687907853269984665640564039457584007913129639936 * o = b * g) (hpp : p < 115792089237316195423570985008687907853269984665640564039457584007913129639936) (e2 : s + p = xr + 115792089237316195423570985008687907853269984665640564039457584007913129639936 * c) (hs : s < 115792089237316195423570985008687907853269984665640564039457584007913129639936) :
    ∃ top : Nat, IntKind.u64.wrap (IntKind.u64.wrap ((r3 : Int) - (o : Int)) - (c : Int)) = (top : Int) ∧ top < 18446744073709551616 ∧ TI b (N % b) (g - N / b) top s := by
  have e := Nat.div_add_mod N b
  have hl := Nat.mod_lt N hp
  obtain ⟨k, hk⟩ : ∃ k, g = N / b + k := ⟨g - N / b, by omega⟩
  subst hk
  rw [Nat.mul_add] at e1
  generalize b * (N / b) = P at *
  generalize N % b = R at *
  generalize N / b = q at *
  have hk : k = 0 ∨ k = 1 ∨ k = 2 := by omega
  rw [show q + k - q = k by omega]
  simp only [IntKind.wrap_u64]
  unfold TI
  rcases hk with rfl | rfl | rfl
  · refine ⟨0, by omega, by omega, by omega, fun _ => ⟨rfl, by omega⟩, by omega, by omega⟩
  · refine ⟨(r3 + 18446744073709551616 + 18446744073709551616 - o - c) % 18446744073709551616, by omega, by omega, by omega, by omega, fun _ => by omega, by omega⟩
  · refine ⟨(r3 + 18446744073709551616 + 18446744073709551616 - o - c) % 18446744073709551616, by omega, by omega, by omega, by omega, by omega, fun _ => by omega⟩
theorem ti_top {b R k top s : Nat} (h : TI b R k top s) (hk : 0 < k) : 0 < top := by
  obtain ⟨h0, _, h2, h3⟩ := h
  have : k = 1 ∨ k = 2 := by omega
  rcases this with rfl | rfl
  · exact (h2 rfl).2
  · exact (h3 rfl).2
theorem ti_round {b R k top s s' c : Nat} (hb : b < 115792089237316195423570985008687907853269984665640564039457584007913129639936) (hR : R < b) (h : TI b R (k + 1) top s) (ht : top < 18446744073709551616) (hs : s < 115792089237316195423570985008687907853269984665640564039457584007913129639936) (hs' : s' < 115792089237316195423570985008687907853269984665640564039457584007913129639936) (hc : c ≤ 1) (e : s' + 115792089237316195423570985008687907853269984665640564039457584007913129639936 * c = s + b) :
    ∃ top' : Nat, IntKind.u64.wrap ((top : Int) + (c : Int)) = (top' : Int) ∧ top' < 18446744073709551616 ∧ TI b R k top' s' := by
  obtain ⟨h0, _, h2, h3⟩ := h
  have hk : k = 0 ∨ k = 1 := by omega
  simp only [IntKind.wrap_u64]
  unfold TI
  rcases hk with rfl | rfl
  · have h2 := h2 rfl
    exact ⟨0, by omega, by omega, by omega, fun _ => ⟨rfl, by omega⟩, by omega, by omega⟩
  · obtain ⟨h3, h4⟩ := h3 rfl
    have hv : top + c < 18446744073709551616 := by omega
    refine ⟨top + c, by omega, hv, by omega, (fun h => absurd h (by omega)), (fun _ => ⟨?_, by omega⟩), (fun h => absurd h (by omega))⟩
    rw [Nat.add_mul]
    omega
end Go.Proofs.YtaingnhikbaplaaGreat
