/-
  Plain numbers behind the division of two words by one: the normalised divisor, a digit guessed from the upper halves, the correction. No program in sight. Conditions: as each lemma says.
  Plain numbers behind the rest of a long number by a normalised one, word by word: the guessed digit is right or too great by one or two; the difference is brought back. No program in sight. Conditions: as each lemma says.
  Plain numbers behind shifts of four words, their joining and their length. No program in sight. Conditions: as each lemma says.
-/
import Derived.Test.YtgacpjmggdmgdaaGreatNum
import Derived.Laws.Bits64b
import Derived.Laws.Bits64
import Derived.Lib.Hide
import Derived.Below
namespace Go.Proofs.YtgacpjmggdmgdaaGreat
set_option linter.unusedVariables false

theorem wrap_in64 (x : Nat) (h : x < 18446744073709551616) : IntKind.u64.wrap (x : Int) = (x : Int) := by rw [IntKind.wrap_u64]; omega
theorem wrap_mod64 (x : Nat) : IntKind.u64.wrap (x : Int) = ((x % 18446744073709551616 : Nat) : Int) := by rw [IntKind.wrap_u64]; omega
theorem cast_mul_pow (x S : Nat) : (x : Int) * 2 ^ S = ((x * 2 ^ S : Nat) : Int) := by rw [Int.natCast_mul, Int.natCast_pow]; rfl

theorem pow_split (S : Nat) (h : S ≤ 63) : 2 ^ (64 - S) * 2 ^ S = 18446744073709551616 := by
  rw [← Nat.pow_add, show 64 - S + S = 64 by omega]
theorem dv_setup {hi lo y S : Nat} (h2 : hi < y) (hl : lo < 18446744073709551616) (hS : S ≤ 63) (hY : y * 2 ^ S < 18446744073709551616) :
    ∃ u L : Nat, bits .or .u64 (IntKind.u64.wrap ((hi : Int) * 2 ^ S)) ((lo : Int) / 2 ^ (64 - S)) = (u : Int) ∧ IntKind.u64.wrap ((lo : Int) * 2 ^ S) = (L : Int) ∧ u < y * 2 ^ S ∧ L < 18446744073709551616 ∧ u * 18446744073709551616 + L = (hi * 18446744073709551616 + lo) * 2 ^ S := by
  have hp : 0 < 2 ^ S := Nat.two_pow_pos S
  have hps := pow_split S hS
  have hb : lo / 2 ^ (64 - S) < 2 ^ S := by
    rw [Nat.div_lt_iff_lt_mul (Nat.two_pow_pos _), Nat.mul_comm, hps]; exact hl
  have hhi : hi * 2 ^ S + 2 ^ S ≤ y * 2 ^ S := by
    have := Nat.mul_le_mul_right (2 ^ S) (show hi + 1 ≤ y by omega)
    rw [Nat.add_mul] at this; omega
  have hd : lo * 2 ^ S / 18446744073709551616 = lo / 2 ^ (64 - S) := by
    rw [← hps]; exact Nat.mul_div_mul_right _ _ hp
  refine ⟨hi * 2 ^ S + lo / 2 ^ (64 - S), lo * 2 ^ S % 18446744073709551616, ?_, ?_, ?_, by omega, ?_⟩
  · rw [cast_mul_pow, wrap_in64 _ (by omega), show ((lo : Int) / 2 ^ (64 - S)) = ((lo / 2 ^ (64 - S) : Nat) : Int) by rw [Int.natCast_ediv, Int.natCast_pow]; rfl,
      bits_or_u64_nat _ _ (by omega) (by omega), Nat.mul_comm hi, Nat.two_pow_add_eq_or_of_lt hb]
  · rw [cast_mul_pow, wrap_mod64]
  · omega
  · rw [Nat.add_mul, ← hd]
    have e : (hi * 18446744073709551616 + lo) * 2 ^ S = hi * 2 ^ S * 18446744073709551616 + lo * 2 ^ S := by
      rw [Nat.add_mul, Nat.mul_right_comm]
    rw [e]; omega

theorem dv_half {Y : Nat} (h : Y < 18446744073709551616) : ∃ a b : Nat, (Y : Int) / 4294967296 = (a : Int) ∧ bits .and .u64 (Y : Int) 4294967295 = (b : Int) ∧ a < 4294967296 ∧ b < 4294967296 ∧ Y = a * 4294967296 + b := by
  refine ⟨Y / 4294967296, Y % 4294967296, by omega, ?_, by omega, by omega, by omega⟩
  have h' := bits_and_u64_nat Y 4294967295 h (by omega)
  rw [show Y &&& 4294967295 = Y % 4294967296 from Nat.and_two_pow_sub_one_eq_mod Y 32] at h'
  exact h'

theorem dv_q (u y1 : Nat) (h : 0 < y1) : ∃ q r : Nat, (u : Int) / (y1 : Int) = (q : Int) ∧ (u : Int) - (q : Int) * (y1 : Int) = (r : Int) ∧ q * y1 + r = u ∧ r < y1 := by
  have e := Nat.div_add_mod u y1
  rw [Nat.mul_comm] at e
  refine ⟨u / y1, u % y1, (Int.natCast_ediv u y1).symm, ?_, e, Nat.mod_lt _ h⟩
  rw [← Int.natCast_mul]; omega

/-- What holds of a guessed digit q and its rest r. -/
def KI (y1 y0 u u1 q r : Nat) : Prop := q * y1 + r = u ∧ (u * 4294967296 + u1) / (y1 * 4294967296 + y0) ≤ q ∧ q ≤ 4294967297 ∧ r < 4294967296
/-- What the guess is held against. -/
structure KS (y1 y0 u u1 : Nat) : Prop where
  a1 : y1 < 4294967296
  a2 : 2147483648 ≤ y1
  a3 : y0 < 4294967296
  a4 : u < y1 * 4294967296 + y0
  a5 : u1 < 4294967296

section
variable {y1 y0 u u1 q r : Nat}
theorem ki_mulY (q y1 y0 : Nat) : q * (y1 * 4294967296 + y0) = q * y1 * 4294967296 + q * y0 := by rw [Nat.mul_add, Nat.mul_assoc]
theorem ks_pos (s : KS y1 y0 u u1) : 0 < y1 * 4294967296 + y0 := by have := s.a2; omega
theorem ki_start (s : KS y1 y0 u u1) (e : q * y1 + r = u) (h : r < y1) : KI y1 y0 u u1 q r := by
  obtain ⟨b1, b2, b3, b4, b5⟩ := s
  refine ⟨e, ?_, ?_, by omega⟩
  · rw [← Nat.lt_succ_iff, Nat.div_lt_iff_lt_mul (by omega), ki_mulY]
    have : (q + 1) * y1 = q * y1 + y1 := by rw [Nat.add_mul, Nat.one_mul]
    rw [Nat.succ_eq_add_one, this]; omega
  · rcases Nat.lt_or_ge q 4294967298 with h' | h'
    · omega
    · have := Nat.mul_le_mul_right y1 h'
      omega
theorem ks_Q (s : KS y1 y0 u u1) : (u * 4294967296 + u1) / (y1 * 4294967296 + y0) < 4294967296 := by
  obtain ⟨b1, b2, b3, b4, b5⟩ := s
  rw [Nat.div_lt_iff_lt_mul (by omega)]; omega
theorem ki_le (s : KS y1 y0 u u1) (e : q * y1 + r = u) (h : q * y0 ≤ 4294967296 * r + u1) : q ≤ (u * 4294967296 + u1) / (y1 * 4294967296 + y0) := by
  rw [Nat.le_div_iff_mul_le (ks_pos s), ki_mulY]; omega
theorem ki_yes (s : KS y1 y0 u u1) (k : KI y1 y0 u u1 q r) (h : q * y0 ≤ 4294967296 * r + u1) : q = (u * 4294967296 + u1) / (y1 * 4294967296 + y0) :=
  Nat.le_antisymm (ki_le s k.1 h) k.2.1
theorem ki_no (s : KS y1 y0 u u1) (k : KI y1 y0 u u1 q r) (h : 4294967296 * r + u1 < q * y0) : (u * 4294967296 + u1) / (y1 * 4294967296 + y0) + 1 ≤ q := by
  rw [Nat.succ_le_iff, Nat.div_lt_iff_lt_mul (ks_pos s), ki_mulY]; have := k.1; omega
theorem ki_big (s : KS y1 y0 u u1) (h : 4294967296 ≤ q) : (u * 4294967296 + u1) / (y1 * 4294967296 + y0) + 1 ≤ q := by have := ks_Q s; omega
theorem ki_pred (h : 1 ≤ q) : (q - 1) * y1 + (r + y1) = q * y1 + r := by
  obtain ⟨p, rfl⟩ : ∃ p, q = p + 1 := ⟨q - 1, by omega⟩
  rw [Nat.add_sub_cancel, Nat.add_mul, Nat.one_mul]; omega
theorem ki_next (k : KI y1 y0 u u1 q r) (h : (u * 4294967296 + u1) / (y1 * 4294967296 + y0) + 1 ≤ q) (h' : r + y1 < 4294967296) : KI y1 y0 u u1 (q - 1) (r + y1) :=
  ⟨by rw [ki_pred (Nat.le_trans (Nat.le_add_left 1 _) h)]; exact k.1, Nat.le_sub_one_of_lt h, by have := k.2.2.1; omega, h'⟩
theorem ki_break (s : KS y1 y0 u u1) (k : KI y1 y0 u u1 q r) (h : (u * 4294967296 + u1) / (y1 * 4294967296 + y0) + 1 ≤ q) (h' : 4294967296 ≤ r + y1) : q - 1 = (u * 4294967296 + u1) / (y1 * 4294967296 + y0) := by
  have e := ki_pred (y1 := y1) (r := r) (Nat.le_trans (Nat.le_add_left 1 _) h)
  refine Nat.le_antisymm (ki_le s (e.trans k.1) ?_) (Nat.le_sub_one_of_lt h)
  have := mul_le (show q - 1 ≤ 4294967296 by have := k.2.2.1; omega) (show y0 ≤ 4294967295 by have := s.a3; omega)
  omega
end

/-- the rest of one digit, as the words wrap -/
theorem dv_rest {Y u u1 : Nat} (hY : Y < 18446744073709551616) (hp : 0 < Y) :
    ∃ m : Nat, IntKind.u64.wrap (IntKind.u64.wrap (IntKind.u64.wrap ((u : Int) * 4294967296) + (u1 : Int)) - IntKind.u64.wrap (((u * 4294967296 + u1) / Y : Nat) * (Y : Int))) = (m : Int) ∧ m < Y ∧ (u * 4294967296 + u1) / Y * Y + m = u * 4294967296 + u1 := by
  have e := Nat.div_add_mod (u * 4294967296 + u1) Y
  have hm := Nat.mod_lt (u * 4294967296 + u1) hp
  rw [Nat.mul_comm] at e
  refine ⟨(u * 4294967296 + u1) % Y, ?_, hm, e⟩
  rw [← Int.natCast_mul]
  generalize (u * 4294967296 + u1) / Y * Y = P at *
  generalize (u * 4294967296 + u1) % Y = m at *
  simp only [IntKind.wrap_u64]
  omega
theorem dv_join {U Y y S V Q1 Q0 u L m R u1 u0 : Nat} (hy : Y = y * 2 ^ S) (hU : U = V * 2 ^ S) (e : u * 18446744073709551616 + L = U) (eL : L = u1 * 4294967296 + u0)
    (e1 : Q1 * Y + m = u * 4294967296 + u1) (e0 : Q0 * Y + R = m * 4294967296 + u0) (hR : R < Y) : Q1 * 4294967296 + Q0 = V / y ∧ R / 2 ^ S = V % y := by
  have hp : 0 < 2 ^ S := Nat.two_pow_pos S
  have hYp : 0 < Y := by omega
  have hYU : U = (Q1 * 4294967296 + Q0) * Y + R := by
    have : (Q1 * 4294967296 + Q0) * Y = Q1 * Y * 4294967296 + Q0 * Y := by rw [Nat.add_mul, Nat.mul_right_comm]
    rw [this]; omega
  have hq : U / Y = Q1 * 4294967296 + Q0 := by
    rw [hYU, Nat.mul_comm, Nat.mul_add_div hYp, Nat.div_eq_of_lt hR, Nat.add_zero]
  have hr : U % Y = R := by
    rw [hYU, Nat.mul_comm, Nat.mul_add_mod, Nat.mod_eq_of_lt hR]
  constructor
  · rw [← hq, hU, hy, Nat.mul_div_mul_right _ _ hp]
  · rw [← hr, hU, hy, Nat.mul_mod_mul_right, Nat.mul_div_cancel _ hp]
end Go.Proofs.YtgacpjmggdmgdaaGreat
namespace Go.Proofs.YtgacpjmggdmgdaaGreat
set_option linter.unusedVariables false

theorem top5 (r0 r1 r2 r3 x : Nat) : val4 r0 r1 r2 r3 * 18446744073709551616 + x = r3 * 115792089237316195423570985008687907853269984665640564039457584007913129639936 + val4 x r0 r1 r2 := by unfold val4; omega
theorem val4_hi (b0 b1 b2 b3 : Nat) (h : ok4 b0 b1 b2 b3) : ∃ t, val4 b0 b1 b2 b3 = b3 * 6277101735386680763835789423207666416102355444464034512896 + t ∧ t < 6277101735386680763835789423207666416102355444464034512896 := by
  obtain ⟨h0, h1, h2, _⟩ := h
  exact ⟨b0 + 18446744073709551616 * (b1 + 18446744073709551616 * b2), by unfold val4; omega, by omega⟩
theorem low3 {x r0 r1 r2 : Nat} (hx : x < 18446744073709551616) (h0 : r0 < 18446744073709551616) (h1 : r1 < 18446744073709551616) : ∃ t, val4 x r0 r1 r2 = r2 * 6277101735386680763835789423207666416102355444464034512896 + t ∧ t < 6277101735386680763835789423207666416102355444464034512896 :=
  ⟨x + 18446744073709551616 * (r0 + 18446744073709551616 * r1), by unfold val4; omega, by omega⟩

/-- A digit guessed by the highest word. -/
theorem guess_lt {N b b3 t r g m : Nat} (hb : b = b3 * 6277101735386680763835789423207666416102355444464034512896 + t) (ht : t < 6277101735386680763835789423207666416102355444464034512896) (h3 : 9223372036854775808 ≤ b3) (hN : N = r * 6277101735386680763835789423207666416102355444464034512896 + m) (hm : m < 6277101735386680763835789423207666416102355444464034512896)
    (hg : g < 18446744073709551616) (h1 : g * b3 ≤ r) (h2 : r < g * b3 + b3) : N / b ≤ g ∧ g ≤ N / b + 2 := by
  have hp : 0 < b := by omega
  constructor
  · rw [← Nat.lt_succ_iff, Nat.div_lt_iff_lt_mul hp, Nat.succ_mul, hb, Nat.mul_add, ← Nat.mul_assoc]
    omega
  · have e := Nat.div_add_mod N b
    have hl := Nat.mod_lt N hp
    have h4 := mul_le (show g ≤ 18446744073709551615 by omega) (show t ≤ 6277101735386680763835789423207666416102355444464034512895 by omega)
    have h5 : g * b < N + 2 * b := by
      rw [hb, Nat.mul_add, ← Nat.mul_assoc]; omega
    rcases Nat.lt_or_ge g (N / b + 3) with h | h
    · omega
    · have h6 := Nat.mul_le_mul_right b h
      rw [Nat.add_mul, Nat.mul_comm (N / b) b] at h6
      omega
theorem guess_eq {N b b3 t r2 m x R : Nat} (hb : b = b3 * 6277101735386680763835789423207666416102355444464034512896 + t) (ht : t < 6277101735386680763835789423207666416102355444464034512896) (h3 : 9223372036854775808 ≤ b3) (hN : N = b3 * 115792089237316195423570985008687907853269984665640564039457584007913129639936 + (r2 * 6277101735386680763835789423207666416102355444464034512896 + m)) (hR : N = R * 18446744073709551616 + x) (hx : x < 18446744073709551616) (hl : R < b) :
    N / b ≤ 18446744073709551615 ∧ 18446744073709551615 ≤ N / b + 2 := by
  have hp : 0 < b := by omega
  constructor
  · rw [← Nat.lt_succ_iff, Nat.div_lt_iff_lt_mul hp]; omega
  · have e := Nat.div_add_mod N b
    have hl' := Nat.mod_lt N hp
    rcases Nat.lt_or_ge 18446744073709551615 (N / b + 3) with h | h
    · omega
    · have h6 := Nat.mul_le_mul_right b h
      rw [Nat.add_mul, Nat.mul_comm (N / b) b] at h6
      omega

/-- Where the difference stands: k times the divisor below the rest R, the words wrapped. -/
def TI (b R k top s : Nat) : Prop := k ≤ 2 ∧ (k = 0 → top = 0 ∧ s = R) ∧ (k = 1 → top * 115792089237316195423570985008687907853269984665640564039457584007913129639936 + s + b = 18446744073709551616 * 115792089237316195423570985008687907853269984665640564039457584007913129639936 + R ∧ 0 < top) ∧ (k = 2 → top * 115792089237316195423570985008687907853269984665640564039457584007913129639936 + s + b + b = 18446744073709551616 * 115792089237316195423570985008687907853269984665640564039457584007913129639936 + R ∧ 0 < top)
theorem ti_start {N b g r3 xr p o s c : Nat} (hb : b < 115792089237316195423570985008687907853269984665640564039457584007913129639936) (hp : 0 < b) (hN : N = r3 * 115792089237316195423570985008687907853269984665640564039457584007913129639936 + xr) (hxr : xr < 115792089237316195423570985008687907853269984665640564039457584007913129639936) (h1 : N / b ≤ g) (h2 : g ≤ N / b + 2) (hr : r3 < 18446744073709551616) (ho : o < 18446744073709551616)
    (e1 : p + 115792089237316195423570985008687907853269984665640564039457584007913129639936 * o = b * g) (hpp : p < 115792089237316195423570985008687907853269984665640564039457584007913129639936) (e2 : s + p = xr + 115792089237316195423570985008687907853269984665640564039457584007913129639936 * c) (hs : s < 115792089237316195423570985008687907853269984665640564039457584007913129639936) :
    ∃ top : Nat, IntKind.u64.wrap (IntKind.u64.wrap ((r3 : Int) - (o : Int)) - (c : Int)) = (top : Int) ∧ top < 18446744073709551616 ∧ TI b (N % b) (g - N / b) top s := by
  have e := Nat.div_add_mod N b
  have hl := Nat.mod_lt N hp
  obtain ⟨k, hk⟩ : ∃ k, g = N / b + k := ⟨g - N / b, by omega⟩
  subst hk
  rw [Nat.mul_add] at e1
  generalize b * (N / b) = P at *
  generalize N % b = R at *
  generalize N / b = q at *
  have hk : k = 0 ∨ k = 1 ∨ k = 2 := by omega
  rw [show q + k - q = k by omega]
  simp only [IntKind.wrap_u64]
  unfold TI
  rcases hk with rfl | rfl | rfl
  · refine ⟨0, by omega, by omega, by omega, fun _ => ⟨rfl, by omega⟩, by omega, by omega⟩
  · refine ⟨(r3 + 18446744073709551616 + 18446744073709551616 - o - c) % 18446744073709551616, by omega, by omega, by omega, by omega, fun _ => by omega, by omega⟩
  · refine ⟨(r3 + 18446744073709551616 + 18446744073709551616 - o - c) % 18446744073709551616, by omega, by omega, by omega, by omega, by omega, fun _ => by omega⟩
theorem ti_top {b R k top s : Nat} (h : TI b R k top s) (hk : 0 < k) : 0 < top := by
  obtain ⟨h0, _, h2, h3⟩ := h
  have : k = 1 ∨ k = 2 := by omega
  rcases this with rfl | rfl
  · exact (h2 rfl).2
  · exact (h3 rfl).2
theorem ti_round {b R k top s s' c : Nat} (hb : b < 115792089237316195423570985008687907853269984665640564039457584007913129639936) (hR : R < b) (h : TI b R (k + 1) top s) (ht : top < 18446744073709551616) (hs : s < 115792089237316195423570985008687907853269984665640564039457584007913129639936) (hs' : s' < 115792089237316195423570985008687907853269984665640564039457584007913129639936) (hc : c ≤ 1) (e : s' + 115792089237316195423570985008687907853269984665640564039457584007913129639936 * c = s + b) :
    ∃ top' : Nat, IntKind.u64.wrap ((top : Int) + (c : Int)) = (top' : Int) ∧ top' < 18446744073709551616 ∧ TI b R k top' s' := by
  obtain ⟨h0, _, h2, h3⟩ := h
  have hk : k = 0 ∨ k = 1 := by omega
  simp only [IntKind.wrap_u64]
  unfold TI
  rcases hk with rfl | rfl
  · have h2 := h2 rfl
    exact ⟨0, by omega, by omega, by omega, fun _ => ⟨rfl, by omega⟩, by omega, by omega⟩
  · obtain ⟨h3, h4⟩ := h3 rfl
    have hv : top + c < 18446744073709551616 := by omega
    refine ⟨top + c, by omega, hv, by omega, (fun h => absurd h (by omega)), (fun _ => ⟨?_, by omega⟩), (fun h => absurd h (by omega))⟩
    rw [Nat.add_mul]
    omega
end Go.Proofs.YtgacpjmggdmgdaaGreat
namespace Go.Proofs.YtgacpjmggdmgdaaGreat
set_option linter.unusedVariables false
open Go.RowKit

/-- a word shifted up by p, as the words are laid: the lower part, and what leaves it -/
theorem ex_up {a p : Nat} (ha : a < 18446744073709551616) (hp : p ≤ 63) : ∃ lo hi : Nat, IntKind.u64.wrap ((a : Int) * 2 ^ p) = (lo : Int) ∧ (a : Int) / 2 ^ (64 - p) = (hi : Int) ∧
    lo < 18446744073709551616 ∧ hi < 18446744073709551616 ∧ Hid (lo + 18446744073709551616 * hi = a * 2 ^ p) ∧ Hid (hi < 2 ^ p) ∧ Hid (∃ t, lo = 2 ^ p * t) := by
  have hps := pow_split p hp
  have hpos : 0 < 2 ^ p := Nat.two_pow_pos p
  have hd : a * 2 ^ p / 18446744073709551616 = a / 2 ^ (64 - p) := by rw [← hps]; exact Nat.mul_div_mul_right _ _ hpos
  have hh : a / 2 ^ (64 - p) < 2 ^ p := by rw [Nat.div_lt_iff_lt_mul (Nat.two_pow_pos _), Nat.mul_comm, hps]; exact ha
  refine ⟨a * 2 ^ p % 18446744073709551616, a / 2 ^ (64 - p), ?_, ?_, by omega, ?_, Lib.hid ?_, Lib.hid hh, Lib.hid ?_⟩
  · rw [cast_mul_pow, wrap_mod64]
  · rw [Int.natCast_ediv, Int.natCast_pow]; rfl
  · exact Nat.lt_of_le_of_lt (Nat.div_le_self _ _) ha
  · rw [← hd]; omega
  · refine ⟨a % 2 ^ (64 - p), ?_⟩
    rw [← hps, Nat.mul_mod_mul_right, Nat.mul_comm]
theorem ex_or {lo hi p : Nat} (hl : lo < 18446744073709551616) (hh : hi < 18446744073709551616) (h1 : Hid (hi < 2 ^ p)) (h2 : Hid (∃ t, lo = 2 ^ p * t)) : ∃ s : Nat, bits .or .u64 (lo : Int) (hi : Int) = (s : Int) ∧ s < 18446744073709551616 ∧ Hid (s = lo + hi) := by
  obtain ⟨t, ht⟩ := h2.out
  have e : lo ||| hi = lo + hi := by rw [ht, ← Nat.two_pow_add_eq_or_of_lt h1.out]
  refine ⟨lo + hi, by rw [bits_or_u64_nat _ _ hl hh, e], ?_, Lib.hid rfl⟩
  rw [← e]; exact Nat.or_lt_two_pow (n := 64) hl hh
/-- a word shifted down by p: the upper part, and what leaves it, laid above -/
theorem ex_down {a p : Nat} (ha : a < 18446744073709551616) (hp : p ≤ 63) : ∃ lo up : Nat, (a : Int) / 2 ^ p = (lo : Int) ∧ IntKind.u64.wrap ((a : Int) * 2 ^ (64 - p)) = (up : Int) ∧
    lo < 18446744073709551616 ∧ up < 18446744073709551616 ∧ Hid (∃ m, a = lo * 2 ^ p + m ∧ m < 2 ^ p ∧ up * 2 ^ p = m * 18446744073709551616) ∧ Hid (lo < 2 ^ (64 - p)) ∧ Hid (∃ t, up = 2 ^ (64 - p) * t) := by
  have hps := pow_split p hp
  have hpos : 0 < 2 ^ p := Nat.two_pow_pos p
  refine ⟨a / 2 ^ p, a % 2 ^ p * 2 ^ (64 - p), ?_, ?_, Nat.lt_of_le_of_lt (Nat.div_le_self _ _) ha, ?_, Lib.hid ⟨a % 2 ^ p, ?_, Nat.mod_lt _ hpos, ?_⟩, Lib.hid ?_, Lib.hid ⟨a % 2 ^ p, Nat.mul_comm _ _⟩⟩
  · rw [Int.natCast_ediv, Int.natCast_pow]; rfl
  · rw [cast_mul_pow, wrap_mod64]
    congr 1
    rw [show 18446744073709551616 = 2 ^ p * 2 ^ (64 - p) by rw [Nat.mul_comm, hps], Nat.mul_mod_mul_right]
  · have := Nat.mul_lt_mul_of_pos_right (Nat.mod_lt a hpos) (Nat.two_pow_pos (64 - p))
    rw [Nat.mul_comm (2 ^ p), hps] at this
    exact this
  · rw [Nat.mul_comm]; exact (Nat.div_add_mod a (2 ^ p)).symm
  · rw [Nat.mul_assoc, hps]
  · rw [Nat.div_lt_iff_lt_mul hpos, hps]; exact ha
theorem ex_or' {lo up k : Nat} (hl : lo < 18446744073709551616) (hu : up < 18446744073709551616) (h1 : Hid (lo < 2 ^ k)) (h2 : Hid (∃ t, up = 2 ^ k * t)) : ∃ s : Nat, bits .or .u64 (lo : Int) (up : Int) = (s : Int) ∧ s < 18446744073709551616 ∧ Hid (s = lo + up) := by
  obtain ⟨t, ht⟩ := h2.out
  have e : lo ||| up = lo + up := by rw [Nat.or_comm, ht, ← Nat.two_pow_add_eq_or_of_lt h1.out, Nat.add_comm]
  refine ⟨lo + up, by rw [bits_or_u64_nat _ _ hl hu, e], ?_, Lib.hid rfl⟩
  rw [← e]; exact Nat.or_lt_two_pow (n := 64) hl hu

theorem ex_n {n : Int} (h0 : 0 ≤ n) (q : Int) (h : n / 64 = q) (h1 : 0 ≤ q) : ∃ p : Nat, n % 64 = (p : Int) ∧ p ≤ 63 ∧ n.toNat = 64 * q.toNat + p :=
  ⟨(n % 64).toNat, by omega, by omega, by omega⟩
theorem pow_n (q p : Nat) : 2 ^ (64 * q + p) = 18446744073709551616 ^ q * 2 ^ p := by rw [Nat.pow_add, Nat.pow_mul]
theorem shl_fin {r x y : Nat} (hr : r < 115792089237316195423570985008687907853269984665640564039457584007913129639936) (h : r + 115792089237316195423570985008687907853269984665640564039457584007913129639936 * y = x) : r = x % 115792089237316195423570985008687907853269984665640564039457584007913129639936 := by omega
theorem div_fin {r x T m : Nat} (h : r * T + m = x) (hm : m < T) : r = x / T := by
  subst h
  rw [Nat.mul_comm, Nat.mul_add_div (by omega), Nat.div_eq_of_lt hm, Nat.add_zero]

theorem or2 {a b A B : Nat} (ha : a < 18446744073709551616) (hb : b < 18446744073709551616) : (a ||| b) + 18446744073709551616 * (A ||| B) = (a + 18446744073709551616 * A) ||| (b + 18446744073709551616 * B) := by
  have h1 : a + 18446744073709551616 * A = 2 ^ 64 * A ||| a := by rw [← Nat.two_pow_add_eq_or_of_lt (show a < 2 ^ 64 from ha)]; omega
  have h2 : b + 18446744073709551616 * B = 2 ^ 64 * B ||| b := by rw [← Nat.two_pow_add_eq_or_of_lt (show b < 2 ^ 64 from hb)]; omega
  have h3 : (a ||| b) + 18446744073709551616 * (A ||| B) = 2 ^ 64 * (A ||| B) ||| (a ||| b) := by rw [← Nat.two_pow_add_eq_or_of_lt (Nat.or_lt_two_pow (n := 64) ha hb)]; omega
  have h4 : 2 ^ 64 * (A ||| B) = 2 ^ 64 * A ||| 2 ^ 64 * B := by
    rw [Nat.mul_comm _ (A ||| B), Nat.mul_comm _ A, Nat.mul_comm _ B, ← Nat.shiftLeft_eq, ← Nat.shiftLeft_eq, ← Nat.shiftLeft_eq, Nat.shiftLeft_or_distrib]
  rw [h1, h2, h3, h4]
  simp only [Nat.or_assoc]
  congr 1
  rw [← Nat.or_assoc, ← Nat.or_assoc, Nat.or_comm a]
theorem or4 {a0 a1 a2 a3 b0 b1 b2 b3 : Nat} (ha : ok4 a0 a1 a2 a3) (hb : ok4 b0 b1 b2 b3) : val4 (a0 ||| b0) (a1 ||| b1) (a2 ||| b2) (a3 ||| b3) = val4 a0 a1 a2 a3 ||| val4 b0 b1 b2 b3 := by
  unfold val4
  rw [or2 ha.2.2.1 hb.2.2.1, or2 ha.2.1 hb.2.1, or2 ha.1 hb.1]

/-- the length of a number: L bits and no fewer -/
def LenIs (n L : Nat) : Prop := n < 2 ^ L ∧ (0 < L → 2 ^ (L - 1) ≤ n)
theorem LenIs.uniq {n L M : Nat} (h : LenIs n L) (k : LenIs n M) : L = M := by
  rcases Nat.lt_trichotomy L M with c | c | c
  · have h1 := k.2 (by omega)
    have h2 := Nat.pow_le_pow_right (show 0 < 2 by omega) (show L ≤ M - 1 by omega)
    have := h.1; omega
  · exact c
  · have h1 := h.2 (by omega)
    have h2 := Nat.pow_le_pow_right (show 0 < 2 by omega) (show M ≤ L - 1 by omega)
    have := k.1; omega
theorem LenIs.zero : LenIs 0 0 := ⟨by simp, fun h => absurd h (by omega)⟩
theorem LenIs.up {n x L k : Nat} (hn : n < 2 ^ k) (hx : 0 < x) (h : LenIs x L) : LenIs (n + x * 2 ^ k) (k + L) := by
  have hL : 0 < L := by
    rcases Nat.eq_zero_or_pos L with e | e
    · subst e; have := h.1; simp at this; omega
    · exact e
  constructor
  · have := Nat.mul_le_mul_right (2 ^ k) (show x + 1 ≤ 2 ^ L from h.1)
    rw [Nat.add_mul, Nat.one_mul] at this
    rw [Nat.pow_add, Nat.mul_comm (2 ^ k)]; omega
  · intro _
    have := Nat.mul_le_mul_right (2 ^ k) (h.2 hL)
    rw [show k + L - 1 = k + (L - 1) by omega, Nat.pow_add, Nat.mul_comm (2 ^ k)]; omega
end Go.Proofs.YtgacpjmggdmgdaaGreat
