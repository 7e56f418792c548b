/-
  The calls of limbs.Shr and limbs.joined: for any number of four words and any number of bits, in any world. Conditions: each word below 2^64; the number of bits not below 0 (below 0: the number itself, said apart).
-/
import Derived.Test.YtgacpjmggdmgdaaGreatDiv
import Derived.Test.YtgacpjmggdmgdaaGreatNums
import Derived.Test.YtgacpjmggdmgdaaGreatRow
import Derived.Test.YtgacpjmggdmgdaaGreatTake
namespace Go.Proofs.YtgacpjmggdmgdaaGreat
set_option linter.unusedVariables false
set_option linter.unusedSimpArgs false
open Go.RowKit

theorem shr_0 (a0 a1 a2 a3 : Nat) (n : Int) (ha : ok4 a0 a1 a2 a3) (h0 : 0 < n) (hq : n / 64 = 0) (w : World) :
    Calls Tryz.prog 164 #[.agg #[.int .u64 a0, .int .u64 a1, .int .u64 a2, .int .u64 a3], .int .i64 n] w (WordPost (fun v => v = val4 a0 a1 a2 a3 / 2 ^ n.toNat) w) := by
  obtain ⟨p, hr, hp, en⟩ := ex_n (by omega) 0 hq (by omega)
  have b1 : n < 256 := by omega
  have t0 : decide (n ≤ 0) = false := decide_eq_false (by omega)
  obtain ⟨lo0, up0, u0, d0, bl0, bu0, e0, g0, m0⟩ := ex_down (a := a0) (p := p) ha.1 hp
  obtain ⟨lo1, up1, u1, d1, bl1, bu1, e1, g1, m1⟩ := ex_down (a := a1) (p := p) ha.2.1 hp
  obtain ⟨lo2, up2, u2, d2, bl2, bu2, e2, g2, m2⟩ := ex_down (a := a2) (p := p) ha.2.2.1 hp
  obtain ⟨lo3, up3, u3, d3, bl3, bu3, e3, g3, m3⟩ := ex_down (a := a3) (p := p) ha.2.2.2 hp
  obtain ⟨s0, o0, bs0, f0⟩ := ex_or' bl0 bu1 g0 m1
  obtain ⟨s1, o1, bs1, f1⟩ := ex_or' bl1 bu2 g1 m2
  obtain ⟨s2, o2, bs2, f2⟩ := ex_or' bl2 bu3 g2 m3
  have HF : Hid (val4 s0 s1 s2 lo3 = val4 a0 a1 a2 a3 / 2 ^ n.toNat) := Lib.hid (by
    rw [en, pow_n, ← Nat.div_div_eq_div_mul]
    have hq' : val4 a0 a1 a2 a3 / 18446744073709551616 ^ ((0 : Int)).toNat = val4 a0 a1 a2 a3 := by
      rw [show 18446744073709551616 ^ ((0 : Int)).toNat = 1 by simp]
      obtain ⟨k0, k1, k2, k3⟩ := ha
      unfold val4; omega
    rw [hq']
    obtain ⟨v0, x0, y0, z0⟩ := e0.out
    obtain ⟨v1, x1, y1, z1⟩ := e1.out
    obtain ⟨v2, x2, y2, z2⟩ := e2.out
    obtain ⟨v3, x3, y3, z3⟩ := e3.out
    have f0 := f0.out
    have f1 := f1.out
    have f2 := f2.out
    refine div_fin (m := v0) ?_ y0
    have hD : val4 s0 s1 s2 lo3 * 2 ^ p = 1 * (s0 * 2 ^ p) + 18446744073709551616 * (s1 * 2 ^ p) + 340282366920938463463374607431768211456 * (s2 * 2 ^ p) + 6277101735386680763835789423207666416102355444464034512896 * (lo3 * 2 ^ p) := by
      unfold val4; simp only [Nat.add_mul, Nat.mul_add, Nat.mul_assoc, Nat.mul_zero, Nat.zero_mul, Nat.add_zero]; omega
    rw [hD]
    have k0 : s0 * 2 ^ p = lo0 * 2 ^ p + up1 * 2 ^ p := by rw [f0, Nat.add_mul]
    have k1 : s1 * 2 ^ p = lo1 * 2 ^ p + up2 * 2 ^ p := by rw [f1, Nat.add_mul]
    have k2 : s2 * 2 ^ p = lo2 * 2 ^ p + up3 * 2 ^ p := by rw [f2, Nat.add_mul]
    unfold val4
    omega)
  clear e0 g0 m0 e1 g1 m1 e2 g2 m2 e3 g3 m3 f0 f1 f2
  have HEN := Lib.hid en
  clear en
  go_enter Tryz.func164, Tryz.ntmps164
  go_wp2_with fail
  refine wp_loop_rounds 5 ?_
  rw [rounds_succ]
  go_wp2_with fail
  go_region
  go_wp2_with fail
  rw [rounds_succ]
  go_wp2_with fail
  go_region
  go_wp2_with fail
  rw [rounds_succ]
  go_wp2_with fail
  go_region
  go_wp2_with fail
  rw [rounds_succ]
  go_wp2_with fail
  rw [rounds_succ]
  go_wp2_with fail
  refine bodyPost_ret (v := .agg #[.int .u64 s0, .int .u64 s1, .int .u64 s2, .int .u64 lo3]) (by simp [results, Tryz.results164, go_sem]) rfl ?_
  refine ⟨s0, s1, s2, lo3, rfl, ⟨bs0, bs1, bs2, bl3⟩, HF.out, ?_⟩
  repeat (first | exact Below.refl _ _ | refine Below.drew ?_ | refine Below.alloc ?_ (by first | (simp; done) | (simp; omega)) _)

theorem shr_1 (a0 a1 a2 a3 : Nat) (n : Int) (ha : ok4 a0 a1 a2 a3) (h0 : 0 < n) (hq : n / 64 = 1) (w : World) :
    Calls Tryz.prog 164 #[.agg #[.int .u64 a0, .int .u64 a1, .int .u64 a2, .int .u64 a3], .int .i64 n] w (WordPost (fun v => v = val4 a0 a1 a2 a3 / 2 ^ n.toNat) w) := by
  obtain ⟨p, hr, hp, en⟩ := ex_n (by omega) 1 hq (by omega)
  have b1 : n < 256 := by omega
  have t0 : decide (n ≤ 0) = false := decide_eq_false (by omega)
  obtain ⟨lo1, up1, u1, d1, bl1, bu1, e1, g1, m1⟩ := ex_down (a := a1) (p := p) ha.2.1 hp
  obtain ⟨lo2, up2, u2, d2, bl2, bu2, e2, g2, m2⟩ := ex_down (a := a2) (p := p) ha.2.2.1 hp
  obtain ⟨lo3, up3, u3, d3, bl3, bu3, e3, g3, m3⟩ := ex_down (a := a3) (p := p) ha.2.2.2 hp
  obtain ⟨s1, o1, bs1, f1⟩ := ex_or' bl1 bu2 g1 m2
  obtain ⟨s2, o2, bs2, f2⟩ := ex_or' bl2 bu3 g2 m3
  have HF : Hid (val4 s1 s2 lo3 0 = val4 a0 a1 a2 a3 / 2 ^ n.toNat) := Lib.hid (by
    rw [en, pow_n, ← Nat.div_div_eq_div_mul]
    have hq' : val4 a0 a1 a2 a3 / 18446744073709551616 ^ ((1 : Int)).toNat = val4 a1 a2 a3 0 := by
      rw [show 18446744073709551616 ^ ((1 : Int)).toNat = 18446744073709551616 by simp]
      obtain ⟨k0, k1, k2, k3⟩ := ha
      unfold val4; omega
    rw [hq']
    obtain ⟨v1, x1, y1, z1⟩ := e1.out
    obtain ⟨v2, x2, y2, z2⟩ := e2.out
    obtain ⟨v3, x3, y3, z3⟩ := e3.out
    have f1 := f1.out
    have f2 := f2.out
    refine div_fin (m := v1) ?_ y1
    have hD : val4 s1 s2 lo3 0 * 2 ^ p = 1 * (s1 * 2 ^ p) + 18446744073709551616 * (s2 * 2 ^ p) + 340282366920938463463374607431768211456 * (lo3 * 2 ^ p) := by
      unfold val4; simp only [Nat.add_mul, Nat.mul_add, Nat.mul_assoc, Nat.mul_zero, Nat.zero_mul, Nat.add_zero]; omega
    rw [hD]
    have k1 : s1 * 2 ^ p = lo1 * 2 ^ p + up2 * 2 ^ p := by rw [f1, Nat.add_mul]
    have k2 : s2 * 2 ^ p = lo2 * 2 ^ p + up3 * 2 ^ p := by rw [f2, Nat.add_mul]
    unfold val4
    omega)
  clear e1 g1 m1 e2 g2 m2 e3 g3 m3 f1 f2
  have HEN := Lib.hid en
  clear en
  go_enter Tryz.func164, Tryz.ntmps164
  go_wp2_with fail
  refine wp_loop_rounds 4 ?_
  rw [rounds_succ]
  go_wp2_with fail
  go_region
  go_wp2_with fail
  rw [rounds_succ]
  go_wp2_with fail
  go_region
  go_wp2_with fail
  rw [rounds_succ]
  go_wp2_with fail
  rw [rounds_succ]
  go_wp2_with fail
  refine bodyPost_ret (v := .agg #[.int .u64 s1, .int .u64 s2, .int .u64 lo3, .int .u64 0]) (by simp [results, Tryz.results164, go_sem]) rfl ?_
  refine ⟨s1, s2, lo3, 0, rfl, ⟨bs1, bs2, bl3, (by omega)⟩, HF.out, ?_⟩
  repeat (first | exact Below.refl _ _ | refine Below.drew ?_ | refine Below.alloc ?_ (by first | (simp; done) | (simp; omega)) _)

theorem shr_2 (a0 a1 a2 a3 : Nat) (n : Int) (ha : ok4 a0 a1 a2 a3) (h0 : 0 < n) (hq : n / 64 = 2) (w : World) :
    Calls Tryz.prog 164 #[.agg #[.int .u64 a0, .int .u64 a1, .int .u64 a2, .int .u64 a3], .int .i64 n] w (WordPost (fun v => v = val4 a0 a1 a2 a3 / 2 ^ n.toNat) w) := by
  obtain ⟨p, hr, hp, en⟩ := ex_n (by omega) 2 hq (by omega)
  have b1 : n < 256 := by omega
  have t0 : decide (n ≤ 0) = false := decide_eq_false (by omega)
  obtain ⟨lo2, up2, u2, d2, bl2, bu2, e2, g2, m2⟩ := ex_down (a := a2) (p := p) ha.2.2.1 hp
  obtain ⟨lo3, up3, u3, d3, bl3, bu3, e3, g3, m3⟩ := ex_down (a := a3) (p := p) ha.2.2.2 hp
  obtain ⟨s2, o2, bs2, f2⟩ := ex_or' bl2 bu3 g2 m3
  have HF : Hid (val4 s2 lo3 0 0 = val4 a0 a1 a2 a3 / 2 ^ n.toNat) := Lib.hid (by
    rw [en, pow_n, ← Nat.div_div_eq_div_mul]
    have hq' : val4 a0 a1 a2 a3 / 18446744073709551616 ^ ((2 : Int)).toNat = val4 a2 a3 0 0 := by
      rw [show 18446744073709551616 ^ ((2 : Int)).toNat = 340282366920938463463374607431768211456 by simp]
      obtain ⟨k0, k1, k2, k3⟩ := ha
      unfold val4; omega
    rw [hq']
    obtain ⟨v2, x2, y2, z2⟩ := e2.out
    obtain ⟨v3, x3, y3, z3⟩ := e3.out
    have f2 := f2.out
    refine div_fin (m := v2) ?_ y2
    have hD : val4 s2 lo3 0 0 * 2 ^ p = 1 * (s2 * 2 ^ p) + 18446744073709551616 * (lo3 * 2 ^ p) := by
      unfold val4; simp only [Nat.add_mul, Nat.mul_add, Nat.mul_assoc, Nat.mul_zero, Nat.zero_mul, Nat.add_zero]; omega
    rw [hD]
    have k2 : s2 * 2 ^ p = lo2 * 2 ^ p + up3 * 2 ^ p := by rw [f2, Nat.add_mul]
    unfold val4
    omega)
  clear e2 g2 m2 e3 g3 m3 f2
  have HEN := Lib.hid en
  clear en
  go_enter Tryz.func164, Tryz.ntmps164
  go_wp2_with fail
  refine wp_loop_rounds 3 ?_
  rw [rounds_succ]
  go_wp2_with fail
  go_region
  go_wp2_with fail
  rw [rounds_succ]
  go_wp2_with fail
  rw [rounds_succ]
  go_wp2_with fail
  refine bodyPost_ret (v := .agg #[.int .u64 s2, .int .u64 lo3, .int .u64 0, .int .u64 0]) (by simp [results, Tryz.results164, go_sem]) rfl ?_
  refine ⟨s2, lo3, 0, 0, rfl, ⟨bs2, bl3, (by omega), (by omega)⟩, HF.out, ?_⟩
  repeat (first | exact Below.refl _ _ | refine Below.drew ?_ | refine Below.alloc ?_ (by first | (simp; done) | (simp; omega)) _)

theorem shr_3 (a0 a1 a2 a3 : Nat) (n : Int) (ha : ok4 a0 a1 a2 a3) (h0 : 0 < n) (hq : n / 64 = 3) (w : World) :
    Calls Tryz.prog 164 #[.agg #[.int .u64 a0, .int .u64 a1, .int .u64 a2, .int .u64 a3], .int .i64 n] w (WordPost (fun v => v = val4 a0 a1 a2 a3 / 2 ^ n.toNat) w) := by
  obtain ⟨p, hr, hp, en⟩ := ex_n (by omega) 3 hq (by omega)
  have b1 : n < 256 := by omega
  have t0 : decide (n ≤ 0) = false := decide_eq_false (by omega)
  obtain ⟨lo3, up3, u3, d3, bl3, bu3, e3, g3, m3⟩ := ex_down (a := a3) (p := p) ha.2.2.2 hp
  have HF : Hid (val4 lo3 0 0 0 = val4 a0 a1 a2 a3 / 2 ^ n.toNat) := Lib.hid (by
    rw [en, pow_n, ← Nat.div_div_eq_div_mul]
    have hq' : val4 a0 a1 a2 a3 / 18446744073709551616 ^ ((3 : Int)).toNat = val4 a3 0 0 0 := by
      rw [show 18446744073709551616 ^ ((3 : Int)).toNat = 6277101735386680763835789423207666416102355444464034512896 by simp]
      obtain ⟨k0, k1, k2, k3⟩ := ha
      unfold val4; omega
    rw [hq']
    obtain ⟨v3, x3, y3, z3⟩ := e3.out
    refine div_fin (m := v3) ?_ y3
    have hD : val4 lo3 0 0 0 * 2 ^ p = 1 * (lo3 * 2 ^ p) := by
      unfold val4; simp only [Nat.add_mul, Nat.mul_add, Nat.mul_assoc, Nat.mul_zero, Nat.zero_mul, Nat.add_zero]; omega
    rw [hD]
    unfold val4
    omega)
  clear e3 g3 m3 
  have HEN := Lib.hid en
  clear en
  go_enter Tryz.func164, Tryz.ntmps164
  go_wp2_with fail
  refine wp_loop_rounds 2 ?_
  rw [rounds_succ]
  go_wp2_with fail
  rw [rounds_succ]
  go_wp2_with fail
  refine bodyPost_ret (v := .agg #[.int .u64 lo3, .int .u64 0, .int .u64 0, .int .u64 0]) (by simp [results, Tryz.results164, go_sem]) rfl ?_
  refine ⟨lo3, 0, 0, 0, rfl, ⟨bl3, (by omega), (by omega), (by omega)⟩, HF.out, ?_⟩
  repeat (first | exact Below.refl _ _ | refine Below.drew ?_ | refine Below.alloc ?_ (by first | (simp; done) | (simp; omega)) _)

theorem shr_none (a0 a1 a2 a3 : Nat) (n : Int) (ha : ok4 a0 a1 a2 a3) (h0 : n ≤ 0) (w : World) :
    Calls Tryz.prog 164 #[.agg #[.int .u64 a0, .int .u64 a1, .int .u64 a2, .int .u64 a3], .int .i64 n] w (WordPost (fun v => v = val4 a0 a1 a2 a3) w) := by
  have t0 : decide (n ≤ 0) = true := decide_eq_true h0
  go_enter Tryz.func164, Tryz.ntmps164
  go_wp2_with fail
  refine bodyPost_ret (v := .agg #[.int .u64 a0, .int .u64 a1, .int .u64 a2, .int .u64 a3]) (by simp [results, Tryz.results164, go_sem]) rfl ?_
  refine ⟨a0, a1, a2, a3, rfl, ha, rfl, ?_⟩
  repeat (first | exact Below.refl _ _ | refine Below.drew ?_ | refine Below.alloc ?_ (by first | (simp; done) | (simp; omega)) _)

theorem shr_far (a0 a1 a2 a3 : Nat) (n : Int) (ha : ok4 a0 a1 a2 a3) (h0 : 256 ≤ n) (h1 : n ≤ 9223372036854775807) (w : World) :
    Calls Tryz.prog 164 #[.agg #[.int .u64 a0, .int .u64 a1, .int .u64 a2, .int .u64 a3], .int .i64 n] w (WordPost (fun v => v = 0) w) := by
  have t0 : decide (n ≤ 0) = false := decide_eq_false (by omega)
  obtain ⟨q, hq, bq, bq'⟩ : ∃ q : Nat, n / 64 = (q : Int) ∧ 4 ≤ q ∧ q ≤ 9223372036854775807 := ⟨(n / 64).toNat, by omega, by omega, by omega⟩
  have t1 : decide ((0 : Int) < 4 - (q : Int)) = false := decide_eq_false (by omega)
  go_enter Tryz.func164, Tryz.ntmps164
  go_wp2_with fail
  refine wp_loop_rounds 1 ?_
  rw [rounds_succ]
  go_wp2_with fail
  refine bodyPost_ret (v := .agg #[.int .u64 0, .int .u64 0, .int .u64 0, .int .u64 0]) (by simp [results, Tryz.results164, go_sem]) rfl ?_
  refine ⟨0, 0, 0, 0, rfl, ⟨by omega, by omega, by omega, by omega⟩, rfl, ?_⟩
  repeat (first | exact Below.refl _ _ | refine Below.drew ?_ | refine Below.alloc ?_ (by first | (simp; done) | (simp; omega)) _)

/-- limbs.Shr, for any number of bits that is not below 0 -/
theorem shr_calls (a0 a1 a2 a3 : Nat) (n : Int) (ha : ok4 a0 a1 a2 a3) (h0 : 0 ≤ n) (h1 : n ≤ 9223372036854775807) (w : World) :
    Calls Tryz.prog 164 #[.agg #[.int .u64 a0, .int .u64 a1, .int .u64 a2, .int .u64 a3], .int .i64 n] w (WordPost (fun v => v = val4 a0 a1 a2 a3 / 2 ^ n.toNat) w) := by
  by_cases hz : n ≤ 0
  · refine (shr_none a0 a1 a2 a3 n ha hz w).mono ?_
    rintro e w' ⟨s0, s1, s2, s3, he, hs, hv, hb⟩
    refine ⟨s0, s1, s2, s3, he, hs, ?_, hb⟩
    have := val4_lt ha
    rw [hv, show n.toNat = 0 by omega, Nat.pow_zero]; omega
  · by_cases hf : 256 ≤ n
    · refine (shr_far a0 a1 a2 a3 n ha hf h1 w).mono ?_
      rintro e w' ⟨s0, s1, s2, s3, he, hs, hv, hb⟩
      refine ⟨s0, s1, s2, s3, he, hs, ?_, hb⟩
      rw [hv]
      have hp := Nat.pow_le_pow_right (show 0 < 2 by omega) (show 256 ≤ n.toNat by omega)
      have := val4_lt ha
      exact (Nat.div_eq_of_lt (Nat.lt_of_lt_of_le this hp)).symm
    · have hq : n / 64 = 0 ∨ n / 64 = 1 ∨ n / 64 = 2 ∨ n / 64 = 3 := by omega
      rcases hq with h | h | h | h
      · exact shr_0 a0 a1 a2 a3 n ha (by omega) h w
      · exact shr_1 a0 a1 a2 a3 n ha (by omega) h w
      · exact shr_2 a0 a1 a2 a3 n ha (by omega) h w
      · exact shr_3 a0 a1 a2 a3 n ha (by omega) h w

theorem joined_calls (a0 a1 a2 a3 b0 b1 b2 b3 : Nat) (ha : ok4 a0 a1 a2 a3) (hb : ok4 b0 b1 b2 b3) (w : World) :
    Calls Tryz.prog 175 #[.agg #[.int .u64 a0, .int .u64 a1, .int .u64 a2, .int .u64 a3], .agg #[.int .u64 b0, .int .u64 b1, .int .u64 b2, .int .u64 b3]] w (WordPost (fun v => v = val4 a0 a1 a2 a3 ||| val4 b0 b1 b2 b3) w) := by
  obtain ⟨s0, o0, bs0, f0⟩ : ∃ s : Nat, bits .or .u64 (a0 : Int) (b0 : Int) = (s : Int) ∧ s < 18446744073709551616 ∧ Hid (s = a0 ||| b0) := ⟨a0 ||| b0, bits_or_u64_nat _ _ ha.1 hb.1, Nat.or_lt_two_pow (n := 64) ha.1 hb.1, Lib.hid rfl⟩
  obtain ⟨s1, o1, bs1, f1⟩ : ∃ s : Nat, bits .or .u64 (a1 : Int) (b1 : Int) = (s : Int) ∧ s < 18446744073709551616 ∧ Hid (s = a1 ||| b1) := ⟨a1 ||| b1, bits_or_u64_nat _ _ ha.2.1 hb.2.1, Nat.or_lt_two_pow (n := 64) ha.2.1 hb.2.1, Lib.hid rfl⟩
  obtain ⟨s2, o2, bs2, f2⟩ : ∃ s : Nat, bits .or .u64 (a2 : Int) (b2 : Int) = (s : Int) ∧ s < 18446744073709551616 ∧ Hid (s = a2 ||| b2) := ⟨a2 ||| b2, bits_or_u64_nat _ _ ha.2.2.1 hb.2.2.1, Nat.or_lt_two_pow (n := 64) ha.2.2.1 hb.2.2.1, Lib.hid rfl⟩
  obtain ⟨s3, o3, bs3, f3⟩ : ∃ s : Nat, bits .or .u64 (a3 : Int) (b3 : Int) = (s : Int) ∧ s < 18446744073709551616 ∧ Hid (s = a3 ||| b3) := ⟨a3 ||| b3, bits_or_u64_nat _ _ ha.2.2.2 hb.2.2.2, Nat.or_lt_two_pow (n := 64) ha.2.2.2 hb.2.2.2, Lib.hid rfl⟩
  have HF : Hid (val4 s0 s1 s2 s3 = val4 a0 a1 a2 a3 ||| val4 b0 b1 b2 b3) := Lib.hid (by rw [f0.out, f1.out, f2.out, f3.out]; exact or4 ha hb)
  clear f0 f1 f2 f3
  go_enter Tryz.func175, Tryz.ntmps175
  go_wp2_with fail
  refine wp_loop_rounds 5 ?_
  rw [rounds_succ]
  go_wp2_with fail
  go_region
  go_wp2_with fail
  rw [rounds_succ]
  go_wp2_with fail
  go_region
  go_wp2_with fail
  rw [rounds_succ]
  go_wp2_with fail
  go_region
  go_wp2_with fail
  rw [rounds_succ]
  go_wp2_with fail
  go_region
  go_wp2_with fail
  rw [rounds_succ]
  go_wp2_with fail
  refine bodyPost_ret (v := .agg #[.int .u64 s0, .int .u64 s1, .int .u64 s2, .int .u64 s3]) (by simp [results, Tryz.results175, go_sem]) rfl ?_
  refine ⟨s0, s1, s2, s3, rfl, ⟨bs0, bs1, bs2, bs3⟩, HF.out, ?_⟩
  repeat (first | exact Below.refl _ _ | refine Below.drew ?_ | refine Below.alloc ?_ (by first | (simp; done) | (simp; omega)) _)

end Go.Proofs.YtgacpjmggdmgdaaGreat
