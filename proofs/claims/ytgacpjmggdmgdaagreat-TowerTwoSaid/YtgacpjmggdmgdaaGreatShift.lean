/-
  The calls of limbs.Shl, limbs.Shr, limbs.joined and limbs.Len: for any number of four words and any number of bits, in any world. Conditions: each word below 2^64; the number of bits not below 0 (below 0: the number itself, said apart).
-/
import Derived.Test.YtgacpjmggdmgdaaGreatDiv
import Derived.Test.YtgacpjmggdmgdaaGreatNums
import Derived.Test.YtgacpjmggdmgdaaGreatRow
import Derived.Test.YtgacpjmggdmgdaaGreatTake
namespace Go.Proofs.YtgacpjmggdmgdaaGreat
set_option linter.unusedVariables false
set_option linter.unusedSimpArgs false
open Go.RowKit

theorem shl_0 (a0 a1 a2 a3 : Nat) (n : Int) (ha : ok4 a0 a1 a2 a3) (h0 : 0 < n) (hq : n / 64 = 0) (w : World) :
    Calls Tryz.prog 173 #[.agg #[.int .u64 a0, .int .u64 a1, .int .u64 a2, .int .u64 a3], .int .i64 n] w (WordPost (fun v => v = val4 a0 a1 a2 a3 * 2 ^ n.toNat % 115792089237316195423570985008687907853269984665640564039457584007913129639936) w) := by
  obtain ⟨p, hr, hp, en⟩ := ex_n (by omega) 0 hq (by omega)
  have b1 : n < 256 := by omega
  have t0 : decide (n ≤ 0) = false := decide_eq_false (by omega)
  obtain ⟨lo0, hi0, u0, d0, bl0, bh0, e0, g0, m0⟩ := ex_up (a := a0) (p := p) ha.1 hp
  obtain ⟨lo1, hi1, u1, d1, bl1, bh1, e1, g1, m1⟩ := ex_up (a := a1) (p := p) ha.2.1 hp
  obtain ⟨lo2, hi2, u2, d2, bl2, bh2, e2, g2, m2⟩ := ex_up (a := a2) (p := p) ha.2.2.1 hp
  obtain ⟨lo3, hi3, u3, d3, bl3, bh3, e3, g3, m3⟩ := ex_up (a := a3) (p := p) ha.2.2.2 hp
  obtain ⟨s1, o1, bs1, f1⟩ := ex_or bl1 bh0 g0 m1
  obtain ⟨s2, o2, bs2, f2⟩ := ex_or bl2 bh1 g1 m2
  obtain ⟨s3, o3, bs3, f3⟩ := ex_or bl3 bh2 g2 m3
  have HF : Hid (val4 lo0 s1 s2 s3 = val4 a0 a1 a2 a3 * 2 ^ n.toNat % 115792089237316195423570985008687907853269984665640564039457584007913129639936) := Lib.hid (by
    have hk : ok4 lo0 s1 s2 s3 := ⟨bl0, bs1, bs2, bs3⟩
    rw [en, pow_n]
    have := e0.out
    have := e1.out
    have := e2.out
    have := e3.out
    have := f1.out
    have := f2.out
    have := f3.out
    have hv := val4_lt hk
    have hT : val4 a0 a1 a2 a3 * (18446744073709551616 ^ ((0 : Int)).toNat * 2 ^ p) = val4 a0 a1 a2 a3 * 2 ^ p * 1 := by
      rw [show 18446744073709551616 ^ ((0 : Int)).toNat = 1 by simp, Nat.mul_comm 1, Nat.mul_assoc]
    rw [hT]
    have hD : val4 a0 a1 a2 a3 * 2 ^ p = a0 * 2 ^ p + 18446744073709551616 * (a1 * 2 ^ p) + 340282366920938463463374607431768211456 * (a2 * 2 ^ p) + 6277101735386680763835789423207666416102355444464034512896 * (a3 * 2 ^ p) := by
      unfold val4; simp only [Nat.add_mul, Nat.mul_assoc]; omega
    rw [hD]
    unfold val4 at hv ⊢
    generalize 2 ^ p = T at *
    omega)
  clear e0 g0 m0 e1 g1 m1 e2 g2 m2 e3 g3 m3 f1 f2 f3
  have HEN := Lib.hid en
  clear en
  go_enter Tryz.func173, Tryz.ntmps173
  go_wp2_with fail
  refine wp_loop_rounds 5 ?_
  rw [rounds_succ]
  go_wp2_with fail
  rw [rounds_succ]
  go_wp2_with fail
  go_region
  go_wp2_with fail
  rw [rounds_succ]
  go_wp2_with fail
  go_region
  go_wp2_with fail
  rw [rounds_succ]
  go_wp2_with fail
  go_region
  go_wp2_with fail
  rw [rounds_succ]
  go_wp2_with fail
  refine bodyPost_ret (v := .agg #[.int .u64 lo0, .int .u64 s1, .int .u64 s2, .int .u64 s3]) (by simp [results, Tryz.results173, go_sem]) rfl ?_
  refine ⟨lo0, s1, s2, s3, rfl, ⟨bl0, bs1, bs2, bs3⟩, HF.out, ?_⟩
  repeat (first | exact Below.refl _ _ | refine Below.drew ?_ | refine Below.alloc ?_ (by first | (simp; done) | (simp; omega)) _)

theorem shl_1 (a0 a1 a2 a3 : Nat) (n : Int) (ha : ok4 a0 a1 a2 a3) (h0 : 0 < n) (hq : n / 64 = 1) (w : World) :
    Calls Tryz.prog 173 #[.agg #[.int .u64 a0, .int .u64 a1, .int .u64 a2, .int .u64 a3], .int .i64 n] w (WordPost (fun v => v = val4 a0 a1 a2 a3 * 2 ^ n.toNat % 115792089237316195423570985008687907853269984665640564039457584007913129639936) w) := by
  obtain ⟨p, hr, hp, en⟩ := ex_n (by omega) 1 hq (by omega)
  have b1 : n < 256 := by omega
  have t0 : decide (n ≤ 0) = false := decide_eq_false (by omega)
  obtain ⟨lo0, hi0, u0, d0, bl0, bh0, e0, g0, m0⟩ := ex_up (a := a0) (p := p) ha.1 hp
  obtain ⟨lo1, hi1, u1, d1, bl1, bh1, e1, g1, m1⟩ := ex_up (a := a1) (p := p) ha.2.1 hp
  obtain ⟨lo2, hi2, u2, d2, bl2, bh2, e2, g2, m2⟩ := ex_up (a := a2) (p := p) ha.2.2.1 hp
  obtain ⟨s1, o1, bs1, f1⟩ := ex_or bl1 bh0 g0 m1
  obtain ⟨s2, o2, bs2, f2⟩ := ex_or bl2 bh1 g1 m2
  have HF : Hid (val4 0 lo0 s1 s2 = val4 a0 a1 a2 a3 * 2 ^ n.toNat % 115792089237316195423570985008687907853269984665640564039457584007913129639936) := Lib.hid (by
    have hk : ok4 0 lo0 s1 s2 := ⟨(by omega), bl0, bs1, bs2⟩
    rw [en, pow_n]
    have := e0.out
    have := e1.out
    have := e2.out
    have := f1.out
    have := f2.out
    have hv := val4_lt hk
    have hT : val4 a0 a1 a2 a3 * (18446744073709551616 ^ ((1 : Int)).toNat * 2 ^ p) = val4 a0 a1 a2 a3 * 2 ^ p * 18446744073709551616 := by
      rw [show 18446744073709551616 ^ ((1 : Int)).toNat = 18446744073709551616 by simp, Nat.mul_comm 18446744073709551616, Nat.mul_assoc]
    rw [hT]
    have hD : val4 a0 a1 a2 a3 * 2 ^ p = a0 * 2 ^ p + 18446744073709551616 * (a1 * 2 ^ p) + 340282366920938463463374607431768211456 * (a2 * 2 ^ p) + 6277101735386680763835789423207666416102355444464034512896 * (a3 * 2 ^ p) := by
      unfold val4; simp only [Nat.add_mul, Nat.mul_assoc]; omega
    rw [hD]
    unfold val4 at hv ⊢
    generalize 2 ^ p = T at *
    omega)
  clear e0 g0 m0 e1 g1 m1 e2 g2 m2 f1 f2
  have HEN := Lib.hid en
  clear en
  go_enter Tryz.func173, Tryz.ntmps173
  go_wp2_with fail
  refine wp_loop_rounds 4 ?_
  rw [rounds_succ]
  go_wp2_with fail
  rw [rounds_succ]
  go_wp2_with fail
  go_region
  go_wp2_with fail
  rw [rounds_succ]
  go_wp2_with fail
  go_region
  go_wp2_with fail
  rw [rounds_succ]
  go_wp2_with fail
  refine bodyPost_ret (v := .agg #[.int .u64 0, .int .u64 lo0, .int .u64 s1, .int .u64 s2]) (by simp [results, Tryz.results173, go_sem]) rfl ?_
  refine ⟨0, lo0, s1, s2, rfl, ⟨(by omega), bl0, bs1, bs2⟩, HF.out, ?_⟩
  repeat (first | exact Below.refl _ _ | refine Below.drew ?_ | refine Below.alloc ?_ (by first | (simp; done) | (simp; omega)) _)

theorem shl_2 (a0 a1 a2 a3 : Nat) (n : Int) (ha : ok4 a0 a1 a2 a3) (h0 : 0 < n) (hq : n / 64 = 2) (w : World) :
    Calls Tryz.prog 173 #[.agg #[.int .u64 a0, .int .u64 a1, .int .u64 a2, .int .u64 a3], .int .i64 n] w (WordPost (fun v => v = val4 a0 a1 a2 a3 * 2 ^ n.toNat % 115792089237316195423570985008687907853269984665640564039457584007913129639936) w) := by
  obtain ⟨p, hr, hp, en⟩ := ex_n (by omega) 2 hq (by omega)
  have b1 : n < 256 := by omega
  have t0 : decide (n ≤ 0) = false := decide_eq_false (by omega)
  obtain ⟨lo0, hi0, u0, d0, bl0, bh0, e0, g0, m0⟩ := ex_up (a := a0) (p := p) ha.1 hp
  obtain ⟨lo1, hi1, u1, d1, bl1, bh1, e1, g1, m1⟩ := ex_up (a := a1) (p := p) ha.2.1 hp
  obtain ⟨s1, o1, bs1, f1⟩ := ex_or bl1 bh0 g0 m1
  have HF : Hid (val4 0 0 lo0 s1 = val4 a0 a1 a2 a3 * 2 ^ n.toNat % 115792089237316195423570985008687907853269984665640564039457584007913129639936) := Lib.hid (by
    have hk : ok4 0 0 lo0 s1 := ⟨(by omega), (by omega), bl0, bs1⟩
    rw [en, pow_n]
    have := e0.out
    have := e1.out
    have := f1.out
    have hv := val4_lt hk
    have hT : val4 a0 a1 a2 a3 * (18446744073709551616 ^ ((2 : Int)).toNat * 2 ^ p) = val4 a0 a1 a2 a3 * 2 ^ p * 340282366920938463463374607431768211456 := by
      rw [show 18446744073709551616 ^ ((2 : Int)).toNat = 340282366920938463463374607431768211456 by simp, Nat.mul_comm 340282366920938463463374607431768211456, Nat.mul_assoc]
    rw [hT]
    have hD : val4 a0 a1 a2 a3 * 2 ^ p = a0 * 2 ^ p + 18446744073709551616 * (a1 * 2 ^ p) + 340282366920938463463374607431768211456 * (a2 * 2 ^ p) + 6277101735386680763835789423207666416102355444464034512896 * (a3 * 2 ^ p) := by
      unfold val4; simp only [Nat.add_mul, Nat.mul_assoc]; omega
    rw [hD]
    unfold val4 at hv ⊢
    generalize 2 ^ p = T at *
    omega)
  clear e0 g0 m0 e1 g1 m1 f1
  have HEN := Lib.hid en
  clear en
  go_enter Tryz.func173, Tryz.ntmps173
  go_wp2_with fail
  refine wp_loop_rounds 3 ?_
  rw [rounds_succ]
  go_wp2_with fail
  rw [rounds_succ]
  go_wp2_with fail
  go_region
  go_wp2_with fail
  rw [rounds_succ]
  go_wp2_with fail
  refine bodyPost_ret (v := .agg #[.int .u64 0, .int .u64 0, .int .u64 lo0, .int .u64 s1]) (by simp [results, Tryz.results173, go_sem]) rfl ?_
  refine ⟨0, 0, lo0, s1, rfl, ⟨(by omega), (by omega), bl0, bs1⟩, HF.out, ?_⟩
  repeat (first | exact Below.refl _ _ | refine Below.drew ?_ | refine Below.alloc ?_ (by first | (simp; done) | (simp; omega)) _)

theorem shl_3 (a0 a1 a2 a3 : Nat) (n : Int) (ha : ok4 a0 a1 a2 a3) (h0 : 0 < n) (hq : n / 64 = 3) (w : World) :
    Calls Tryz.prog 173 #[.agg #[.int .u64 a0, .int .u64 a1, .int .u64 a2, .int .u64 a3], .int .i64 n] w (WordPost (fun v => v = val4 a0 a1 a2 a3 * 2 ^ n.toNat % 115792089237316195423570985008687907853269984665640564039457584007913129639936) w) := by
  obtain ⟨p, hr, hp, en⟩ := ex_n (by omega) 3 hq (by omega)
  have b1 : n < 256 := by omega
  have t0 : decide (n ≤ 0) = false := decide_eq_false (by omega)
  obtain ⟨lo0, hi0, u0, d0, bl0, bh0, e0, g0, m0⟩ := ex_up (a := a0) (p := p) ha.1 hp
  have HF : Hid (val4 0 0 0 lo0 = val4 a0 a1 a2 a3 * 2 ^ n.toNat % 115792089237316195423570985008687907853269984665640564039457584007913129639936) := Lib.hid (by
    have hk : ok4 0 0 0 lo0 := ⟨(by omega), (by omega), (by omega), bl0⟩
    rw [en, pow_n]
    have := e0.out
    have hv := val4_lt hk
    have hT : val4 a0 a1 a2 a3 * (18446744073709551616 ^ ((3 : Int)).toNat * 2 ^ p) = val4 a0 a1 a2 a3 * 2 ^ p * 6277101735386680763835789423207666416102355444464034512896 := by
      rw [show 18446744073709551616 ^ ((3 : Int)).toNat = 6277101735386680763835789423207666416102355444464034512896 by simp, Nat.mul_comm 6277101735386680763835789423207666416102355444464034512896, Nat.mul_assoc]
    rw [hT]
    have hD : val4 a0 a1 a2 a3 * 2 ^ p = a0 * 2 ^ p + 18446744073709551616 * (a1 * 2 ^ p) + 340282366920938463463374607431768211456 * (a2 * 2 ^ p) + 6277101735386680763835789423207666416102355444464034512896 * (a3 * 2 ^ p) := by
      unfold val4; simp only [Nat.add_mul, Nat.mul_assoc]; omega
    rw [hD]
    unfold val4 at hv ⊢
    generalize 2 ^ p = T at *
    omega)
  clear e0 g0 m0 
  have HEN := Lib.hid en
  clear en
  go_enter Tryz.func173, Tryz.ntmps173
  go_wp2_with fail
  refine wp_loop_rounds 2 ?_
  rw [rounds_succ]
  go_wp2_with fail
  rw [rounds_succ]
  go_wp2_with fail
  refine bodyPost_ret (v := .agg #[.int .u64 0, .int .u64 0, .int .u64 0, .int .u64 lo0]) (by simp [results, Tryz.results173, go_sem]) rfl ?_
  refine ⟨0, 0, 0, lo0, rfl, ⟨(by omega), (by omega), (by omega), bl0⟩, HF.out, ?_⟩
  repeat (first | exact Below.refl _ _ | refine Below.drew ?_ | refine Below.alloc ?_ (by first | (simp; done) | (simp; omega)) _)

theorem shl_none (a0 a1 a2 a3 : Nat) (n : Int) (ha : ok4 a0 a1 a2 a3) (h0 : n ≤ 0) (w : World) :
    Calls Tryz.prog 173 #[.agg #[.int .u64 a0, .int .u64 a1, .int .u64 a2, .int .u64 a3], .int .i64 n] w (WordPost (fun v => v = val4 a0 a1 a2 a3) w) := by
  have t0 : decide (n ≤ 0) = true := decide_eq_true h0
  go_enter Tryz.func173, Tryz.ntmps173
  go_wp2_with fail
  refine bodyPost_ret (v := .agg #[.int .u64 a0, .int .u64 a1, .int .u64 a2, .int .u64 a3]) (by simp [results, Tryz.results173, go_sem]) rfl ?_
  refine ⟨a0, a1, a2, a3, rfl, ha, rfl, ?_⟩
  repeat (first | exact Below.refl _ _ | refine Below.drew ?_ | refine Below.alloc ?_ (by first | (simp; done) | (simp; omega)) _)

theorem shl_far (a0 a1 a2 a3 : Nat) (n : Int) (ha : ok4 a0 a1 a2 a3) (h0 : 256 ≤ n) (h1 : n ≤ 9223372036854775807) (w : World) :
    Calls Tryz.prog 173 #[.agg #[.int .u64 a0, .int .u64 a1, .int .u64 a2, .int .u64 a3], .int .i64 n] w (WordPost (fun v => v = 0) w) := by
  have t0 : decide (n ≤ 0) = false := decide_eq_false (by omega)
  obtain ⟨q, hq, bq, bq'⟩ : ∃ q : Nat, n / 64 = (q : Int) ∧ 4 ≤ q ∧ q ≤ 9223372036854775807 := ⟨(n / 64).toNat, by omega, by omega, by omega⟩
  have t1 : decide ((0 : Int) < 4 - (q : Int)) = false := decide_eq_false (by omega)
  go_enter Tryz.func173, Tryz.ntmps173
  go_wp2_with fail
  refine wp_loop_rounds 1 ?_
  rw [rounds_succ]
  go_wp2_with fail
  refine bodyPost_ret (v := .agg #[.int .u64 0, .int .u64 0, .int .u64 0, .int .u64 0]) (by simp [results, Tryz.results173, go_sem]) rfl ?_
  refine ⟨0, 0, 0, 0, rfl, ⟨by omega, by omega, by omega, by omega⟩, rfl, ?_⟩
  repeat (first | exact Below.refl _ _ | refine Below.drew ?_ | refine Below.alloc ?_ (by first | (simp; done) | (simp; omega)) _)

/-- limbs.Shl, for any number of bits that is not below 0 -/
theorem shl_calls (a0 a1 a2 a3 : Nat) (n : Int) (ha : ok4 a0 a1 a2 a3) (h0 : 0 ≤ n) (h1 : n ≤ 9223372036854775807) (w : World) :
    Calls Tryz.prog 173 #[.agg #[.int .u64 a0, .int .u64 a1, .int .u64 a2, .int .u64 a3], .int .i64 n] w (WordPost (fun v => v = val4 a0 a1 a2 a3 * 2 ^ n.toNat % 115792089237316195423570985008687907853269984665640564039457584007913129639936) w) := by
  by_cases hz : n ≤ 0
  · refine (shl_none a0 a1 a2 a3 n ha hz w).mono ?_
    rintro e w' ⟨s0, s1, s2, s3, he, hs, hv, hb⟩
    refine ⟨s0, s1, s2, s3, he, hs, ?_, hb⟩
    have := val4_lt ha
    rw [hv, show n.toNat = 0 by omega, Nat.pow_zero]; omega
  · by_cases hf : 256 ≤ n
    · refine (shl_far a0 a1 a2 a3 n ha hf h1 w).mono ?_
      rintro e w' ⟨s0, s1, s2, s3, he, hs, hv, hb⟩
      refine ⟨s0, s1, s2, s3, he, hs, ?_, hb⟩
      rw [hv]
      obtain ⟨k, hk⟩ : ∃ k, n.toNat = 256 + k := ⟨n.toNat - 256, by omega⟩
      rw [hk, Nat.pow_add, Nat.mul_left_comm, show (2 : Nat) ^ 256 = 115792089237316195423570985008687907853269984665640564039457584007913129639936 by simp]
      exact (Nat.mul_mod_right _ _).symm
    · have hq : n / 64 = 0 ∨ n / 64 = 1 ∨ n / 64 = 2 ∨ n / 64 = 3 := by omega
      rcases hq with h | h | h | h
      · exact shl_0 a0 a1 a2 a3 n ha (by omega) h w
      · exact shl_1 a0 a1 a2 a3 n ha (by omega) h w
      · exact shl_2 a0 a1 a2 a3 n ha (by omega) h w
      · exact shl_3 a0 a1 a2 a3 n ha (by omega) h w

end Go.Proofs.YtgacpjmggdmgdaaGreat
