/-
  The calls of limbs.Shl, limbs.Shr, limbs.joined and limbs.Len: for any number of four words and any number of bits, in any world. Conditions: each word below 2^64; the number of bits not below 0 (below 0: the number itself, said apart).
  Plain numbers behind the rest of a number of eight words: number and modulus are lifted alike. No program in sight. Conditions: as each lemma says.
  The call of limbs.Mod: the rest of a number of eight words by one of four; an error where that is 0. Conditions: each word below 2^64.
  The calls of limbs.Bytes and limbs.Read, and of the reference's Read: for any number of four words, any bytes, in any world. Conditions: each word below 2^64.
  The calls Reduce, Bytes and Read. Conditions: words below 2^64; bytes as limbs.Read reads them.
-/
import Derived.Deep.RegionHeld3
import Derived.Deep.DeepCutAuto
import Derived.Deep.LoopGhost
import Derived.RegionTactic
import Derived.Test.YtaingnhikbaplaaGreatPf07
import Derived.Test.YtaingnhikbaplaaGreatPf09
import Derived.Test.YtaingnhikbaplaaGreatPf08
import Derived.Test.YtaingnhikbaplaaGreatPf12
import Derived.Test.YtaingnhikbaplaaGreatPf10
import Derived.Test.YtaingnhikbaplaaGreatPf11
namespace Go.Proofs.YtaingnhikbaplaaGreat
set_option linter.unusedVariables false
set_option linter.unusedSimpArgs false
open Go.RowKit

theorem shl_0 (a0 a1 a2 a3 : Nat) (n : Int) (ha : ok4 a0 a1 a2 a3) (h0 : 0 < n) (hq : n / 64 = 0) (w : World) :
    Calls Tryz.prog 314 #[.agg #[.int .u64 a0, .int .u64 a1, .int .u64 a2, .int .u64 a3], .int .i64 n] w (WordPost (fun v => v = val4 a0 a1 a2 a3 * 2 ^ n.toNat % 115792089237316195423570985008687907853269984665640564039457584007913129639936) w) := by
  obtain ⟨p, hr, hp, en⟩ := ex_n (by omega) 0 hq (by omega)
  have b1 : n < 256 := by omega
  have t0 : decide (n ≤ 0) = false := decide_eq_false (by omega)
  obtain ⟨lo0, hi0, u0, d0, bl0, bh0, e0, g0, m0⟩ := ex_up (a := a0) (p := p) ha.1 hp
  obtain ⟨lo1, hi1, u1, d1, bl1, bh1, e1, g1, m1⟩ := ex_up (a := a1) (p := p) ha.2.1 hp
  obtain ⟨lo2, hi2, u2, d2, bl2, bh2, e2, g2, m2⟩ := ex_up (a := a2) (p := p) ha.2.2.1 hp
  obtain ⟨lo3, hi3, u3, d3, bl3, bh3, e3, g3, m3⟩ := ex_up (a := a3) (p := p) ha.2.2.2 hp
  obtain ⟨s1, o1, bs1, f1⟩ := ex_or bl1 bh0 g0 m1
  obtain ⟨s2, o2, bs2, f2⟩ := ex_or bl2 bh1 g1 m2
  obtain ⟨s3, o3, bs3, f3⟩ := ex_or bl3 bh2 g2 m3
  have HF : Hid (val4 lo0 s1 s2 s3 = val4 a0 a1 a2 a3 * 2 ^ n.toNat % 115792089237316195423570985008687907853269984665640564039457584007913129639936) := Lib.hid (by
    have hk : ok4 lo0 s1 s2 s3 := ⟨bl0, bs1, bs2, bs3⟩
    rw [en, pow_n]
    have := e0.out
    have := e1.out
    have := e2.out
    have := e3.out
    have := f1.out
    have := f2.out
    have := f3.out
    have hv := val4_lt hk
    have hT : val4 a0 a1 a2 a3 * (18446744073709551616 ^ ((0 : Int)).toNat * 2 ^ p) = val4 a0 a1 a2 a3 * 2 ^ p * 1 := by
      rw [show 18446744073709551616 ^ ((0 : Int)).toNat = 1 by simp, Nat.mul_comm 1, Nat.mul_assoc]
    rw [hT]
    have hD : val4 a0 a1 a2 a3 * 2 ^ p = a0 * 2 ^ p + 18446744073709551616 * (a1 * 2 ^ p) + 340282366920938463463374607431768211456 * (a2 * 2 ^ p) + 6277101735386680763835789423207666416102355444464034512896 * (a3 * 2 ^ p) := by
      unfold val4; simp only [Nat.add_mul, Nat.mul_assoc]; omega
    rw [hD]
    unfold val4 at hv ⊢
    generalize 2 ^ p = T at *
    omega)
  clear e0 g0 m0 e1 g1 m1 e2 g2 m2 e3 g3 m3 f1 f2 f3
  have HEN := Lib.hid en
  clear en
  go_enter Tryz.func314, Tryz.ntmps314
  go_wp2_with fail
  refine wp_loop_rounds 5 ?_
  rw [rounds_succ]
  go_wp2_with fail
  rw [rounds_succ]
  go_wp2_with fail
  go_region
  go_wp2_with fail
  rw [rounds_succ]
  go_wp2_with fail
  go_region
  go_wp2_with fail
  rw [rounds_succ]
  go_wp2_with fail
  go_region
  go_wp2_with fail
  rw [rounds_succ]
  go_wp2_with fail
  refine bodyPost_ret (v := .agg #[.int .u64 lo0, .int .u64 s1, .int .u64 s2, .int .u64 s3]) (by simp [results, Tryz.results314, go_sem]) rfl ?_
  refine ⟨lo0, s1, s2, s3, rfl, ⟨bl0, bs1, bs2, bs3⟩, HF.out, ?_⟩
  repeat (first | exact Below.refl _ _ | refine Below.drew ?_ | refine Below.alloc ?_ (by first | (simp; done) | (simp; omega)) _)

theorem shl_1 (a0 a1 a2 a3 : Nat) (n : Int) (ha : ok4 a0 a1 a2 a3) (h0 : 0 < n) (hq : n / 64 = 1) (w : World) :
    Calls Tryz.prog 314 #[.agg #[.int .u64 a0, .int .u64 a1, .int .u64 a2, .int .u64 a3], .int .i64 n] w (WordPost (fun v => v = val4 a0 a1 a2 a3 * 2 ^ n.toNat % 115792089237316195423570985008687907853269984665640564039457584007913129639936) w) := by
  obtain ⟨p, hr, hp, en⟩ := ex_n (by omega) 1 hq (by omega)
  have b1 : n < 256 := by omega
  have t0 : decide (n ≤ 0) = false := decide_eq_false (by omega)
  obtain ⟨lo0, hi0, u0, d0, bl0, bh0, e0, g0, m0⟩ := ex_up (a := a0) (p := p) ha.1 hp
  obtain ⟨lo1, hi1, u1, d1, bl1, bh1, e1, g1, m1⟩ := ex_up (a := a1) (p := p) ha.2.1 hp
  obtain ⟨lo2, hi2, u2, d2, bl2, bh2, e2, g2, m2⟩ := ex_up (a := a2) (p := p) ha.2.2.1 hp
  obtain ⟨s1, o1, bs1, f1⟩ := ex_or bl1 bh0 g0 m1
  obtain ⟨s2, o2, bs2, f2⟩ := ex_or bl2 bh1 g1 m2
  have HF : Hid (val4 0 lo0 s1 s2 = val4 a0 a1 a2 a3 * 2 ^ n.toNat % 115792089237316195423570985008687907853269984665640564039457584007913129639936) := Lib.hid (by
    have hk : ok4 0 lo0 s1 s2 := ⟨(by omega), bl0, bs1, bs2⟩
    rw [en, pow_n]
    have := e0.out
    have := e1.out
    have := e2.out
    have := f1.out
    have := f2.out
    have hv := val4_lt hk
    have hT : val4 a0 a1 a2 a3 * (18446744073709551616 ^ ((1 : Int)).toNat * 2 ^ p) = val4 a0 a1 a2 a3 * 2 ^ p * 18446744073709551616 := by
      rw [show 18446744073709551616 ^ ((1 : Int)).toNat = 18446744073709551616 by simp, Nat.mul_comm 18446744073709551616, Nat.mul_assoc]
    rw [hT]
    have hD : val4 a0 a1 a2 a3 * 2 ^ p = a0 * 2 ^ p + 18446744073709551616 * (a1 * 2 ^ p) + 340282366920938463463374607431768211456 * (a2 * 2 ^ p) + 6277101735386680763835789423207666416102355444464034512896 * (a3 * 2 ^ p) := by
      unfold val4; simp only [Nat.add_mul, Nat.mul_assoc]; omega
    rw [hD]
    unfold val4 at hv ⊢
    generalize 2 ^ p = T at *
    omega)
  clear e0 g0 m0 e1 g1 m1 e2 g2 m2 f1 f2
  have HEN := Lib.hid en
  clear en
  go_enter Tryz.func314, Tryz.ntmps314
  go_wp2_with fail
  refine wp_loop_rounds 4 ?_
  rw [rounds_succ]
  go_wp2_with fail
  rw [rounds_succ]
  go_wp2_with fail
  go_region
  go_wp2_with fail
  rw [rounds_succ]
  go_wp2_with fail
  go_region
  go_wp2_with fail
  rw [rounds_succ]
  go_wp2_with fail
  refine bodyPost_ret (v := .agg #[.int .u64 0, .int .u64 lo0, .int .u64 s1, .int .u64 s2]) (by simp [results, Tryz.results314, go_sem]) rfl ?_
  refine ⟨0, lo0, s1, s2, rfl, ⟨(by omega), bl0, bs1, bs2⟩, HF.out, ?_⟩
  repeat (first | exact Below.refl _ _ | refine Below.drew ?_ | refine Below.alloc ?_ (by first | (simp; done) | (simp; omega)) _)

theorem shl_2 (a0 a1 a2 a3 : Nat) (n : Int) (ha : ok4 a0 a1 a2 a3) (h0 : 0 < n) (hq : n / 64 = 2) (w : World) :
    Calls Tryz.prog 314 #[.agg #[.int .u64 a0, .int .u64 a1, .int .u64 a2, .int .u64 a3], .int .i64 n] w (WordPost (fun v => v = val4 a0 a1 a2 a3 * 2 ^ n.toNat % 115792089237316195423570985008687907853269984665640564039457584007913129639936) w) := by
  obtain ⟨p, hr, hp, en⟩ := ex_n (by omega) 2 hq (by omega)
  have b1 : n < 256 := by omega
  have t0 : decide (n ≤ 0) = false := decide_eq_false (by omega)
  obtain ⟨lo0, hi0, u0, d0, bl0, bh0, e0, g0, m0⟩ := ex_up (a := a0) (p := p) ha.1 hp
  obtain ⟨lo1, hi1, u1, d1, bl1, bh1, e1, g1, m1⟩ := ex_up (a := a1) (p := p) ha.2.1 hp
  obtain ⟨s1, o1, bs1, f1⟩ := ex_or bl1 bh0 g0 m1
  have HF : Hid (val4 0 0 lo0 s1 = val4 a0 a1 a2 a3 * 2 ^ n.toNat % 115792089237316195423570985008687907853269984665640564039457584007913129639936) := Lib.hid (by
    have hk : ok4 0 0 lo0 s1 := ⟨(by omega), (by omega), bl0, bs1⟩
    rw [en, pow_n]
    have := e0.out
    have := e1.out
    have := f1.out
    have hv := val4_lt hk
    have hT : val4 a0 a1 a2 a3 * (18446744073709551616 ^ ((2 : Int)).toNat * 2 ^ p) = val4 a0 a1 a2 a3 * 2 ^ p * 340282366920938463463374607431768211456 := by
      rw [show 18446744073709551616 ^ ((2 : Int)).toNat = 340282366920938463463374607431768211456 by simp, Nat.mul_comm 340282366920938463463374607431768211456, Nat.mul_assoc]
    rw [hT]
    have hD : val4 a0 a1 a2 a3 * 2 ^ p = a0 * 2 ^ p + 18446744073709551616 * (a1 * 2 ^ p) + 340282366920938463463374607431768211456 * (a2 * 2 ^ p) + 6277101735386680763835789423207666416102355444464034512896 * (a3 * 2 ^ p) := by
      unfold val4; simp only [Nat.add_mul, Nat.mul_assoc]; omega
    rw [hD]
    unfold val4 at hv ⊢
    generalize 2 ^ p = T at *
    omega)
  clear e0 g0 m0 e1 g1 m1 f1
  have HEN := Lib.hid en
  clear en
  go_enter Tryz.func314, Tryz.ntmps314
  go_wp2_with fail
  refine wp_loop_rounds 3 ?_
  rw [rounds_succ]
  go_wp2_with fail
  rw [rounds_succ]
  go_wp2_with fail
  go_region
  go_wp2_with fail
  rw [rounds_succ]
  go_wp2_with fail
  refine bodyPost_ret (v := .agg #[.int .u64 0, .int .u64 0, .int .u64 lo0, .int .u64 s1]) (by simp [results, Tryz.results314, go_sem]) rfl ?_
  refine ⟨0, 0, lo0, s1, rfl, ⟨(by omega), (by omega), bl0, bs1⟩, HF.out, ?_⟩
  repeat (first | exact Below.refl _ _ | refine Below.drew ?_ | refine Below.alloc ?_ (by first | (simp; done) | (simp; omega)) _)

theorem shl_3 (a0 a1 a2 a3 : Nat) (n : Int) (ha : ok4 a0 a1 a2 a3) (h0 : 0 < n) (hq : n / 64 = 3) (w : World) :
    Calls Tryz.prog 314 #[.agg #[.int .u64 a0, .int .u64 a1, .int .u64 a2, .int .u64 a3], .int .i64 n] w (WordPost (fun v => v = val4 a0 a1 a2 a3 * 2 ^ n.toNat % 115792089237316195423570985008687907853269984665640564039457584007913129639936) w) := by
  obtain ⟨p, hr, hp, en⟩ := ex_n (by omega) 3 hq (by omega)
  have b1 : n < 256 := by omega
  have t0 : decide (n ≤ 0) = false := decide_eq_false (by omega)
  obtain ⟨lo0, hi0, u0, d0, bl0, bh0, e0, g0, m0⟩ := ex_up (a := a0) (p := p) ha.1 hp
  have HF : Hid (val4 0 0 0 lo0 = val4 a0 a1 a2 a3 * 2 ^ n.toNat % 115792089237316195423570985008687907853269984665640564039457584007913129639936) := Lib.hid (by
    have hk : ok4 0 0 0 lo0 := ⟨(by omega), (by omega), (by omega), bl0⟩
    rw [en, pow_n]
    have := e0.out
    have hv := val4_lt hk
    have hT : val4 a0 a1 a2 a3 * (18446744073709551616 ^ ((3 : Int)).toNat * 2 ^ p) = val4 a0 a1 a2 a3 * 2 ^ p * 6277101735386680763835789423207666416102355444464034512896 := by
      rw [show 18446744073709551616 ^ ((3 : Int)).toNat = 6277101735386680763835789423207666416102355444464034512896 by simp, Nat.mul_comm 6277101735386680763835789423207666416102355444464034512896, Nat.mul_assoc]
    rw [hT]
    have hD : val4 a0 a1 a2 a3 * 2 ^ p = a0 * 2 ^ p + 18446744073709551616 * (a1 * 2 ^ p) + 340282366920938463463374607431768211456 * (a2 * 2 ^ p) + 6277101735386680763835789423207666416102355444464034512896 * (a3 * 2 ^ p) := by
      unfold val4; simp only [Nat.add_mul, Nat.mul_assoc]; omega
    rw [hD]
    unfold val4 at hv ⊢
    generalize 2 ^ p = T at *
    omega)
  clear e0 g0 m0 
  have HEN := Lib.hid en
  clear en
  go_enter Tryz.func314, Tryz.ntmps314
  go_wp2_with fail
  refine wp_loop_rounds 2 ?_
  rw [rounds_succ]
  go_wp2_with fail
  rw [rounds_succ]
  go_wp2_with fail
  refine bodyPost_ret (v := .agg #[.int .u64 0, .int .u64 0, .int .u64 0, .int .u64 lo0]) (by simp [results, Tryz.results314, go_sem]) rfl ?_
  refine ⟨0, 0, 0, lo0, rfl, ⟨(by omega), (by omega), (by omega), bl0⟩, HF.out, ?_⟩
  repeat (first | exact Below.refl _ _ | refine Below.drew ?_ | refine Below.alloc ?_ (by first | (simp; done) | (simp; omega)) _)

theorem shl_none (a0 a1 a2 a3 : Nat) (n : Int) (ha : ok4 a0 a1 a2 a3) (h0 : n ≤ 0) (w : World) :
    Calls Tryz.prog 314 #[.agg #[.int .u64 a0, .int .u64 a1, .int .u64 a2, .int .u64 a3], .int .i64 n] w (WordPost (fun v => v = val4 a0 a1 a2 a3) w) := by
  have t0 : decide (n ≤ 0) = true := decide_eq_true h0
  go_enter Tryz.func314, Tryz.ntmps314
  go_wp2_with fail
  refine bodyPost_ret (v := .agg #[.int .u64 a0, .int .u64 a1, .int .u64 a2, .int .u64 a3]) (by simp [results, Tryz.results314, go_sem]) rfl ?_
  refine ⟨a0, a1, a2, a3, rfl, ha, rfl, ?_⟩
  repeat (first | exact Below.refl _ _ | refine Below.drew ?_ | refine Below.alloc ?_ (by first | (simp; done) | (simp; omega)) _)

theorem shl_far (a0 a1 a2 a3 : Nat) (n : Int) (ha : ok4 a0 a1 a2 a3) (h0 : 256 ≤ n) (h1 : n ≤ 9223372036854775807) (w : World) :
    Calls Tryz.prog 314 #[.agg #[.int .u64 a0, .int .u64 a1, .int .u64 a2, .int .u64 a3], .int .i64 n] w (WordPost (fun v => v = 0) w) := by
  have t0 : decide (n ≤ 0) = false := decide_eq_false (by omega)
  obtain ⟨q, hq, bq, bq'⟩ : ∃ q : Nat, n / 64 = (q : Int) ∧ 4 ≤ q ∧ q ≤ 9223372036854775807 := ⟨(n / 64).toNat, by omega, by omega, by omega⟩
  have t1 : decide ((0 : Int) < 4 - (q : Int)) = false := decide_eq_false (by omega)
  go_enter Tryz.func314, Tryz.ntmps314
  go_wp2_with fail
  refine wp_loop_rounds 1 ?_
  rw [rounds_succ]
  go_wp2_with fail
  refine bodyPost_ret (v := .agg #[.int .u64 0, .int .u64 0, .int .u64 0, .int .u64 0]) (by simp [results, Tryz.results314, go_sem]) rfl ?_
  refine ⟨0, 0, 0, 0, rfl, ⟨by omega, by omega, by omega, by omega⟩, rfl, ?_⟩
  repeat (first | exact Below.refl _ _ | refine Below.drew ?_ | refine Below.alloc ?_ (by first | (simp; done) | (simp; omega)) _)

/-- limbs.Shl, for any number of bits that is not below 0 -/
theorem shl_calls (a0 a1 a2 a3 : Nat) (n : Int) (ha : ok4 a0 a1 a2 a3) (h0 : 0 ≤ n) (h1 : n ≤ 9223372036854775807) (w : World) :
    Calls Tryz.prog 314 #[.agg #[.int .u64 a0, .int .u64 a1, .int .u64 a2, .int .u64 a3], .int .i64 n] w (WordPost (fun v => v = val4 a0 a1 a2 a3 * 2 ^ n.toNat % 115792089237316195423570985008687907853269984665640564039457584007913129639936) w) := by
  by_cases hz : n ≤ 0
  · refine (shl_none a0 a1 a2 a3 n ha hz w).mono ?_
    rintro e w' ⟨s0, s1, s2, s3, he, hs, hv, hb⟩
    refine ⟨s0, s1, s2, s3, he, hs, ?_, hb⟩
    have := val4_lt ha
    rw [hv, show n.toNat = 0 by omega, Nat.pow_zero]; omega
  · by_cases hf : 256 ≤ n
    · refine (shl_far a0 a1 a2 a3 n ha hf h1 w).mono ?_
      rintro e w' ⟨s0, s1, s2, s3, he, hs, hv, hb⟩
      refine ⟨s0, s1, s2, s3, he, hs, ?_, hb⟩
      rw [hv]
      obtain ⟨k, hk⟩ : ∃ k, n.toNat = 256 + k := ⟨n.toNat - 256, by omega⟩
      rw [hk, Nat.pow_add, Nat.mul_left_comm, show (2 : Nat) ^ 256 = 115792089237316195423570985008687907853269984665640564039457584007913129639936 by simp]
      exact (Nat.mul_mod_right _ _).symm
    · have hq : n / 64 = 0 ∨ n / 64 = 1 ∨ n / 64 = 2 ∨ n / 64 = 3 := by omega
      rcases hq with h | h | h | h
      · exact shl_0 a0 a1 a2 a3 n ha (by omega) h w
      · exact shl_1 a0 a1 a2 a3 n ha (by omega) h w
      · exact shl_2 a0 a1 a2 a3 n ha (by omega) h w
      · exact shl_3 a0 a1 a2 a3 n ha (by omega) h w

end Go.Proofs.YtaingnhikbaplaaGreat
namespace Go.Proofs.YtaingnhikbaplaaGreat
set_option linter.unusedVariables false
set_option linter.unusedSimpArgs false
open Go.RowKit

theorem lift_by {m L : Nat} (hL : L ≤ 256) (h : LenIs m L) (hm : 0 < m) : 0 < L ∧ m * 2 ^ (256 - L) < 115792089237316195423570985008687907853269984665640564039457584007913129639936 ∧ 57896044618658097711785492504343953926634992332820282019728792003956564819968 ≤ m * 2 ^ (256 - L) := by
  have hpos : 0 < L := by
    rcases Nat.eq_zero_or_pos L with e | e
    · subst e; have := h.1; simp at this; omega
    · exact e
  have e : 2 ^ L * 2 ^ (256 - L) = 115792089237316195423570985008687907853269984665640564039457584007913129639936 := by rw [← Nat.pow_add, show L + (256 - L) = 256 by omega]
  have e' : 2 ^ (L - 1) * 2 ^ (256 - L) = 57896044618658097711785492504343953926634992332820282019728792003956564819968 := by rw [← Nat.pow_add, show L - 1 + (256 - L) = 255 by omega]
  refine ⟨hpos, ?_, ?_⟩
  · have := Nat.mul_lt_mul_of_pos_right h.1 (Nat.two_pow_pos (256 - L))
    rw [e] at this; exact this
  · have := Nat.mul_le_mul_right (2 ^ (256 - L)) (h.2 hpos)
    rw [e'] at this; exact this
theorem top_bit {b0 b1 b2 b3 : Nat} (h : ok4 b0 b1 b2 b3) (hb : 57896044618658097711785492504343953926634992332820282019728792003956564819968 ≤ val4 b0 b1 b2 b3) : 9223372036854775808 ≤ b3 := by
  obtain ⟨h0, h1, h2, h3⟩ := h
  unfold val4 at hb; omega
theorem rest_lt {x m L : Nat} (hL : L ≤ 256) (hm : 0 < m) (hx : x < 115792089237316195423570985008687907853269984665640564039457584007913129639936) : x / 2 ^ L < m * 2 ^ (256 - L) := by
  have e : 2 ^ (256 - L) * 2 ^ L = 115792089237316195423570985008687907853269984665640564039457584007913129639936 := by rw [← Nat.pow_add, show 256 - L + L = 256 by omega]
  have h1 : x / 2 ^ L < 2 ^ (256 - L) := by rw [Nat.div_lt_iff_lt_mul (Nat.two_pow_pos _), e]; exact hx
  have h2 := Nat.mul_le_mul_right (2 ^ (256 - L)) (show 1 ≤ m from hm)
  omega
/-- what is shifted up, and what left it -/
theorem up_parts {x L : Nat} (hL : L ≤ 256) : x / 2 ^ L * 115792089237316195423570985008687907853269984665640564039457584007913129639936 + x * 2 ^ (256 - L) % 115792089237316195423570985008687907853269984665640564039457584007913129639936 = x * 2 ^ (256 - L) := by
  have e : 2 ^ L * 2 ^ (256 - L) = 115792089237316195423570985008687907853269984665640564039457584007913129639936 := by rw [← Nat.pow_add, show L + (256 - L) = 256 by omega]
  have hd : x * 2 ^ (256 - L) / 115792089237316195423570985008687907853269984665640564039457584007913129639936 = x / 2 ^ L := by rw [← e]; exact Nat.mul_div_mul_right _ _ (Nat.two_pow_pos _)
  rw [← hd]; omega
theorem join_sum {x y L : Nat} (hL : L ≤ 256) (hy : y < 115792089237316195423570985008687907853269984665640564039457584007913129639936) : (x * 2 ^ (256 - L) % 115792089237316195423570985008687907853269984665640564039457584007913129639936) ||| (y / 2 ^ L) = x * 2 ^ (256 - L) % 115792089237316195423570985008687907853269984665640564039457584007913129639936 + y / 2 ^ L := by
  have e : 2 ^ L * 2 ^ (256 - L) = 115792089237316195423570985008687907853269984665640564039457584007913129639936 := by rw [← Nat.pow_add, show L + (256 - L) = 256 by omega]
  have hlt : y / 2 ^ L < 2 ^ (256 - L) := by rw [Nat.div_lt_iff_lt_mul (Nat.two_pow_pos _), Nat.mul_comm, e]; exact hy
  have hm : x * 2 ^ (256 - L) % 115792089237316195423570985008687907853269984665640564039457584007913129639936 = 2 ^ (256 - L) * (x % 2 ^ L) := by
    rw [← e, Nat.mul_mod_mul_right, Nat.mul_comm]
  rw [hm, ← Nat.two_pow_add_eq_or_of_lt hlt]
theorem mod_step' (n m x b : Nat) : ((n % b) * m + x) % b = (n * m + x) % b := by
  rw [Nat.add_mod, Nat.mul_mod, Nat.mod_mod, ← Nat.mul_mod, ← Nat.add_mod]
theorem mod_fin {h l m L r1 r2 : Nat} (hL : L ≤ 256)
    (e1 : r1 = (h / 2 ^ L * 115792089237316195423570985008687907853269984665640564039457584007913129639936 + (h * 2 ^ (256 - L) % 115792089237316195423570985008687907853269984665640564039457584007913129639936 + l / 2 ^ L)) % (m * 2 ^ (256 - L)))
    (e2 : r2 = (r1 * 115792089237316195423570985008687907853269984665640564039457584007913129639936 + l * 2 ^ (256 - L) % 115792089237316195423570985008687907853269984665640564039457584007913129639936) % (m * 2 ^ (256 - L))) : r2 / 2 ^ (256 - L) = (h * 115792089237316195423570985008687907853269984665640564039457584007913129639936 + l) % m := by
  have k1 := up_parts (x := h) hL
  have k2 := up_parts (x := l) hL
  rw [e1, mod_step'] at e2
  have e3 : (h / 2 ^ L * 115792089237316195423570985008687907853269984665640564039457584007913129639936 + (h * 2 ^ (256 - L) % 115792089237316195423570985008687907853269984665640564039457584007913129639936 + l / 2 ^ L)) * 115792089237316195423570985008687907853269984665640564039457584007913129639936 + l * 2 ^ (256 - L) % 115792089237316195423570985008687907853269984665640564039457584007913129639936 = (h * 115792089237316195423570985008687907853269984665640564039457584007913129639936 + l) * 2 ^ (256 - L) := by
    have : (h * 115792089237316195423570985008687907853269984665640564039457584007913129639936 + l) * 2 ^ (256 - L) = h * 2 ^ (256 - L) * 115792089237316195423570985008687907853269984665640564039457584007913129639936 + l * 2 ^ (256 - L) := by rw [Nat.add_mul, Nat.mul_right_comm]
    rw [this]
    generalize h * 2 ^ (256 - L) % 115792089237316195423570985008687907853269984665640564039457584007913129639936 = Q at *
    generalize l * 2 ^ (256 - L) % 115792089237316195423570985008687907853269984665640564039457584007913129639936 = U at *
    rw [← k1, ← k2]
    simp only [Nat.add_mul, Nat.add_assoc]
  rw [e3, Nat.mul_mod_mul_right] at e2
  rw [e2, Nat.mul_div_cancel _ (Nat.two_pow_pos _)]
end Go.Proofs.YtaingnhikbaplaaGreat
namespace Go.Proofs.YtaingnhikbaplaaGreat
set_option linter.unusedVariables false
set_option linter.unusedSimpArgs false
open Go.RowKit

def ModPost (P : Nat → Nat → Prop) (w : World) (e : Ending) (w' : World) : Prop :=
  ∃ s0 s1 s2 s3 c : Nat, e = .returned (.tuple #[.agg #[.int .u64 s0, .int .u64 s1, .int .u64 s2, .int .u64 s3], .int .i64 c]) ∧ ok4 s0 s1 s2 s3 ∧ P (val4 s0 s1 s2 s3) c ∧ Below w.heap.size w w'

theorem equalInW0 (a0 a1 a2 a3 : Nat) (w : World) : (Op.equalIn 10000 70 (.agg #[.int .u64 a0, .int .u64 a1, .int .u64 a2, .int .u64 a3]) (.agg #[.int .u64 0, .int .u64 0, .int .u64 0, .int .u64 0])).run Tryz.prog w = .ok (eqW a0 a1 a2 a3 0 0 0 0) w :=
  equalInW 9998 a0 a1 a2 a3 0 0 0 0 w

/-- the world in Mod, once the divisor and the first rest are laid -/
structure MR (w wr : World) (g9 g10 : Nat) (h0 h1 h2 h3 l0 l1 l2 l3 b0 b1 b2 b3 r0 r1 r2 r3 : Nat) : Prop where
  below : Below w.heap.size w wr
  lo : w.heap.size + 1 + 1 + 1 < g9
  mid : g9 < g10
  size : g10 < wr.heap.size
  rowH : Row4 wr w.heap.size h0 h1 h2 h3
  rowL : Row4 wr (w.heap.size + 1) l0 l1 l2 l3
  rowB : Row4 wr g9 b0 b1 b2 b3
  rowR : Row4 wr g10 r0 r1 r2 r3
  rowO : Row4 wr (w.heap.size + 1 + 1 + 1) 0 0 0 0
theorem MR.on {w wr w' : World} {g9 g10 : Nat} {h0 h1 h2 h3 l0 l1 l2 l3 b0 b1 b2 b3 r0 r1 r2 r3 : Nat} (m : MR w wr g9 g10 h0 h1 h2 h3 l0 l1 l2 l3 b0 b1 b2 b3 r0 r1 r2 r3) (hb : Below wr.heap.size wr w') : MR w w' g9 g10 h0 h1 h2 h3 l0 l1 l2 l3 b0 b1 b2 b3 r0 r1 r2 r3 :=
  ⟨m.below.trans (hb.mono m.below.size), m.lo, m.mid, Nat.lt_of_lt_of_le m.size hb.size, m.rowH.below hb (by have := m.lo; have := m.mid; have := m.size; omega), m.rowL.below hb (by have := m.lo; have := m.mid; have := m.size; omega),
    m.rowB.below hb (by have := m.mid; have := m.size; omega), m.rowR.below hb m.size, m.rowO.below hb (by have := m.lo; have := m.mid; have := m.size; omega)⟩
theorem MR.drewN {w wr : World} {g9 g10 : Nat} {h0 h1 h2 h3 l0 l1 l2 l3 b0 b1 b2 b3 r0 r1 r2 r3 : Nat} (m : MR w wr g9 g10 h0 h1 h2 h3 l0 l1 l2 l3 b0 b1 b2 b3 r0 r1 r2 r3) (n : Nat) : MR w (wr.drewN n) g9 g10 h0 h1 h2 h3 l0 l1 l2 l3 b0 b1 b2 b3 r0 r1 r2 r3 := m.on (below_drewN' _ _ n)
theorem MR.onDrew {w wr w' : World} {g9 g10 : Nat} {h0 h1 h2 h3 l0 l1 l2 l3 b0 b1 b2 b3 r0 r1 r2 r3 : Nat} (m : MR w wr g9 g10 h0 h1 h2 h3 l0 l1 l2 l3 b0 b1 b2 b3 r0 r1 r2 r3) (hb : Below wr.drew.heap.size wr.drew w') : MR w w' g9 g10 h0 h1 h2 h3 l0 l1 l2 l3 b0 b1 b2 b3 r0 r1 r2 r3 := (m.drewN 1).on hb
theorem MR.put {w wr : World} {g9 g10 : Nat} {h0 h1 h2 h3 l0 l1 l2 l3 b0 b1 b2 b3 r0 r1 r2 r3 : Nat} (m : MR w wr g9 g10 h0 h1 h2 h3 l0 l1 l2 l3 b0 b1 b2 b3 r0 r1 r2 r3) (s0 s1 s2 s3 : Nat) : MR w (set4 wr g10 s0 s1 s2 s3) g9 g10 h0 h1 h2 h3 l0 l1 l2 l3 b0 b1 b2 b3 s0 s1 s2 s3 :=
  ⟨below_set4 m.below (by have := m.lo; have := m.mid; omega) _ _ _ _, m.lo, m.mid, by unfold set4; simp only [World.size_setCell]; exact m.size, m.rowH.set4_other (by have := m.lo; have := m.mid; omega) _ _ _ _, m.rowL.set4_other (by have := m.lo; have := m.mid; omega) _ _ _ _,
    m.rowB.set4_other (by have := m.mid; omega) _ _ _ _, m.rowR.set4 _ _ _ _, m.rowO.set4_other (by have := m.lo; have := m.mid; omega) _ _ _ _⟩

set_option maxRecDepth 100000 in
set_option maxHeartbeats 4000000 in
theorem mod_some (h0 h1 h2 h3 l0 l1 l2 l3 m0 m1 m2 m3 : Nat) (hh : ok4 h0 h1 h2 h3) (hl : ok4 l0 l1 l2 l3) (hm : ok4 m0 m1 m2 m3) (hpz : 0 < val4 m0 m1 m2 m3) (w : World) :
    Calls Tryz.prog 303 #[.agg #[.int .u64 h0, .int .u64 h1, .int .u64 h2, .int .u64 h3], .agg #[.int .u64 l0, .int .u64 l1, .int .u64 l2, .int .u64 l3], .agg #[.int .u64 m0, .int .u64 m1, .int .u64 m2, .int .u64 m3]] w (ModPost (fun v c => v = (val4 h0 h1 h2 h3 * 115792089237316195423570985008687907853269984665640564039457584007913129639936 + val4 l0 l1 l2 l3) % val4 m0 m1 m2 m3 ∧ c = 0) w) := by
  have hE := fun w => equalInW0 m0 m1 m2 m3 w
  have hG := eqGuardW
  have q : eqW m0 m1 m2 m3 0 0 0 0 = false := by
    have := eqW_iff hm (show ok4 0 0 0 0 from ⟨by omega, by omega, by omega, by omega⟩)
    rcases h : eqW m0 m1 m2 m3 0 0 0 0 with _ | _
    · rfl
    · exact absurd (this.1 h) (by unfold val4 at hpz ⊢; omega)
  rw [q] at hE
  clear q
  go_enter Tryz.func303, Tryz.ntmps303
  go_wp2_with fail
  refine (len_calls m0 m1 m2 m3 hm _).mono ?_
  rintro e w1 ⟨L, rfl, bL, lenL, hbl⟩
  obtain ⟨hpos, hb1, hb2⟩ := lift_by bL lenL hpz
  obtain ⟨S, eS⟩ : ∃ S, S = 256 - L := ⟨_, rfl⟩
  have wS : (256 : Int) - (L : Int) = (S : Int) := by omega
  have wL : (256 : Int) - (S : Int) = (L : Int) := by omega
  have bS : S ≤ 256 := by omega
  have H1 := (((Row4.new w h0 h1 h2 h3 70).alloc (by simp) _).alloc (by simp; omega) _).alloc (by simp; omega) _ |>.below hbl (by simp; omega)
  have L1 := (((Row4.new (w.alloc _) l0 l1 l2 l3 70).alloc (by simp) _).alloc (by simp) _).below hbl (by simp)
  have M1 := ((Row4.new ((w.alloc _).alloc _) m0 m1 m2 m3 70).alloc (by simp) _).below hbl (by simp)
  have O1 := (Row4.new (((w.alloc _).alloc _).alloc _) 0 0 0 0 70).below hbl (by simp)
  simp only [World.size_alloc] at L1 M1 O1
  have hz1 : w.heap.size + 1 + 1 + 1 < w1.heap.size := by have := hbl.size; simp at this; omega
  have B1 := (below4 w _ _ _ _).trans (hbl.mono (by simp; omega))
  have HeS := Lib.hid eS; have Hb1 := Lib.hid hb1; have Hb2 := Lib.hid hb2; have HL := Lib.hid lenL; have HB1 := Lib.hid B1
  have HH1 := Lib.hid H1; have HL1 := Lib.hid L1; have HM1 := Lib.hid M1; have HO1 := Lib.hid O1
  have y0 : w.heap.size < w1.heap.size := by omega
  have y1 : w.heap.size + 1 < w1.heap.size := by omega
  have y2 : w.heap.size + 1 + 1 < w1.heap.size := by omega
  obtain ⟨m0', m1', m2', m3', mf⟩ := M1
  clear hE hG eS hb1 hb2 lenL B1 H1 L1 O1 hbl
  go_wp2_with fail
  refine (shl_calls m0 m1 m2 m3 S hm (by omega) (by omega) _).mono ?_
  rintro e w2 ⟨b0, b1, b2, b3, rfl, hb, vb, hbl⟩
  rw [Int.toNat_natCast] at vb
  have H2 := HH1.out.below hbl y0
  have L2 := HL1.out.below hbl y1
  have O2 := HO1.out.below hbl hz1
  have hz2 : w1.heap.size ≤ w2.heap.size := hbl.size
  have B2 := HB1.out.trans (hbl.mono HB1.out.size)
  have HH2 := Lib.hid H2; have HL2 := Lib.hid L2; have HO2 := Lib.hid O2; have HB2 := Lib.hid B2; have Hvb := Lib.hid vb
  have z0 : w.heap.size < w2.heap.size := by omega
  have z1 : w.heap.size + 1 < w2.heap.size := by omega
  have z3 : w.heap.size + 1 + 1 + 1 < w2.heap.size := by omega
  obtain ⟨h0', h1', h2', h3', hf⟩ := H2
  clear L2 O2 B2 vb hbl m0' m1' m2' m3' mf
  go_wp2_with fail
  refine (shr_calls h0 h1 h2 h3 L hh (by omega) (by omega) _).mono ?_
  rintro e w3 ⟨r0, r1, r2, r3, rfl, hr, vr, hbl⟩
  rw [Int.toNat_natCast] at vr
  clear h0' h1' h2' h3' hf
  have MR1 : MR w (w3.alloc (.cells #[.int .u64 r0, .int .u64 r1, .int .u64 r2, .int .u64 r3] 70)) w2.heap.size w3.heap.size h0 h1 h2 h3 l0 l1 l2 l3 b0 b1 b2 b3 r0 r1 r2 r3 := by
    have hb' := hbl
    have hz3 := hb'.size
    rw [World.size_alloc] at hz3
    have hall : ∀ {x : Nat} {c0 c1 c2 c3 : Nat}, Row4 w2 x c0 c1 c2 c3 → x < w2.heap.size → Row4 (w3.alloc (.cells #[.int .u64 r0, .int .u64 r1, .int .u64 r2, .int .u64 r3] 70)) x c0 c1 c2 c3 := fun q hx =>
      ((q.alloc hx _).below hb' (by rw [World.size_alloc]; omega)).alloc (by omega) _
    refine ⟨((HB2.out.alloc (by omega) _).trans (hb'.mono (by rw [World.size_alloc]; omega))).alloc (by omega) _, z3, by omega, by simp, hall HH2.out z0, hall HL2.out z1, ?_, Row4.new _ _ _ _ _ _, hall HO2.out z3⟩
    exact ((Row4.new w2 b0 b1 b2 b3 70).below hb' (by simp)).alloc (by omega) _
  go_wp2_with fail
  clear hbl
  have Hvr := Lib.hid vr
  clear vr
  generalize w3.alloc (.cells #[.int .u64 r0, .int .u64 r1, .int .u64 r2, .int .u64 r3] 70) = W at *
  generalize w2.heap.size = g9 at *
  generalize w3.heap.size = g10 at *
  have M := MR1
  clear MR1
  have wLL : IntKind.i64.wrap (L : Int) = (L : Int) := by simp [IntKind.wrap, IntKind.bits, IntKind.signed]; omega
  have HM := Lib.hid M
  have evb : val4 b0 b1 b2 b3 = val4 m0 m1 m2 m3 * 2 ^ S := by rw [Hvb.out, HeS.out, Nat.mod_eq_of_lt Hb1.out]
  have hb3 : 9223372036854775808 ≤ b3 := top_bit hb (by rw [evb, HeS.out]; exact Hb2.out)
  have hrb : val4 r0 r1 r2 r3 < val4 b0 b1 b2 b3 := by rw [evb, Hvr.out, HeS.out]; exact rest_lt bL hpz (val4_lt hh)
  have Hevb := Lib.hid evb
  clear evb
  clear M y0 y1 y2 z0 z1 z3 hz1 hz2 HH1 HL1 HM1 HO1 HB1 HH2 HL2 HO2 HB2
  have g0 : ∀ k, W.cell? ⟨w.heap.size, k, none⟩ = W.cell? ⟨w.heap.size, k, none⟩ := fun _ => rfl
  clear g0
  clear wS wL
  have wL' : IntKind.i64.wrap (256 - (S : Int)) = (L : Int) := by have := HeS.out; simp [IntKind.wrap, IntKind.bits, IntKind.signed]; omega
  go_wp2_with fail
  refine region_till (fun wx => MR w wx g9 g10 h0 h1 h2 h3 l0 l1 l2 l3 b0 b1 b2 b3 r0 r1 r2 r3) 11 (by kernel_rfl) ?_
  have HS : (fun wx => MR w wx g9 g10 h0 h1 h2 h3 l0 l1 l2 l3 b0 b1 b2 b3 r0 r1 r2 r3) W.drew := HM.out.drewN 1
  refine till_take (i := 0) (v := .agg #[.int .u64 r0, .int .u64 r1, .int .u64 r2, .int .u64 r3]) rfl (by kernel_rfl) (by kernel_rfl) (by kernel_rfl) (by kernel_rfl) (fun _ _ _ h => h) HS (Or.inl ⟨by rfl, fun wx hx => ?_⟩) ?_
  · obtain ⟨k0, k1, k2, k3, kf⟩ := MR.rowR hx
    clear HS
    go_simp
  simp only [Act.put, List.setIfInBounds_toArray, List.set_cons_zero, List.set_cons_succ]
  refine till_take (i := 1) (v := .agg #[.int .u64 h0, .int .u64 h1, .int .u64 h2, .int .u64 h3]) rfl (by kernel_rfl) (by kernel_rfl) (by kernel_rfl) (by kernel_rfl) (fun _ _ _ h => h) HS (Or.inl ⟨by rfl, fun wx hx => ?_⟩) ?_
  · obtain ⟨k0, k1, k2, k3, kf⟩ := MR.rowH hx
    clear HS
    go_simp
  simp only [Act.put, List.setIfInBounds_toArray, List.set_cons_zero, List.set_cons_succ]
  refine till_take (i := 2) (v := .int .i64 (S : Nat)) rfl (by kernel_rfl) (by kernel_rfl) (by kernel_rfl) (by kernel_rfl) (fun _ _ _ h => h) HS (Or.inl ⟨by rfl, fun wx hx => ?_⟩) ?_
  · clear hx HS
    go_simp
  simp only [Act.put, List.setIfInBounds_toArray, List.set_cons_zero, List.set_cons_succ]
  refine till_take (i := 4) (v := .agg #[.int .u64 l0, .int .u64 l1, .int .u64 l2, .int .u64 l3]) rfl (by kernel_rfl) (by kernel_rfl) (by kernel_rfl) (by kernel_rfl) (fun _ _ _ h => h) HS (Or.inl ⟨by rfl, fun wx hx => ?_⟩) ?_
  · obtain ⟨k0, k1, k2, k3, kf⟩ := MR.rowL hx
    clear HS
    go_simp
  simp only [Act.put, List.setIfInBounds_toArray, List.set_cons_zero, List.set_cons_succ]
  refine till_take (i := 5) (v := .int .i64 (S : Nat)) rfl (by kernel_rfl) (by kernel_rfl) (by kernel_rfl) (by kernel_rfl) (fun _ _ _ h => h) HS (Or.inl ⟨by rfl, fun wx hx => ?_⟩) ?_
  · clear hx HS
    go_simp
  simp only [Act.put, List.setIfInBounds_toArray, List.set_cons_zero, List.set_cons_succ]
  refine till_take (i := 6) (v := .int .i64 (L : Nat)) rfl (by kernel_rfl) (by kernel_rfl) (by kernel_rfl) (by kernel_rfl) (fun _ _ _ h => h) HS (Or.inl ⟨by rfl, fun wx hx => ?_⟩) ?_
  · clear hx HS
    go_simp
  simp only [Act.put, List.setIfInBounds_toArray, List.set_cons_zero, List.set_cons_succ]
  refine till_take (i := 9) (v := .agg #[.int .u64 b0, .int .u64 b1, .int .u64 b2, .int .u64 b3]) rfl (by kernel_rfl) (by kernel_rfl) (by kernel_rfl) (by kernel_rfl) (fun _ _ _ h => h) HS (Or.inl ⟨by rfl, fun wx hx => ?_⟩) ?_
  · obtain ⟨k0, k1, k2, k3, kf⟩ := MR.rowB hx
    clear HS
    go_simp
  simp only [Act.put, List.setIfInBounds_toArray, List.set_cons_zero, List.set_cons_succ]
  clear HS
  refine till_step (i := 3) (by kernel_rfl) rfl (fun K hK => ?_)
  go_simp
  refine (shl_calls h0 h1 h2 h3 S hh (by omega) (by omega) _).mono ?_
  rintro e w4 ⟨x0, x1, x2, x3, rfl, hx, vx, hbl⟩
  rw [Int.toNat_natCast] at vx
  have Hvx := Lib.hid vx
  clear vx
  have M4 := HM.out.onDrew hbl
  clear hbl
  go_wp2_with fail
  refine hK.out _ _ (Or.inr M4) (fun hHeld => ?_)
  clear hK K hHeld
  try simp only [Act.put, List.setIfInBounds_toArray, List.set_cons_zero, List.set_cons_succ]
  refine till_step (i := 7) (by kernel_rfl) rfl (fun K hK => ?_)
  go_simp
  refine (shr_calls l0 l1 l2 l3 L hl (by omega) (by omega) _).mono ?_
  rintro e w5 ⟨y0, y1, y2, y3, rfl, hy, vy, hbl⟩
  rw [Int.toNat_natCast] at vy
  have Hvy := Lib.hid vy
  clear vy
  have M5 := M4.on hbl
  clear hbl
  go_wp2_with fail
  refine hK.out _ _ (Or.inr M5) (fun hHeld => ?_)
  clear hK K hHeld
  try simp only [Act.put, List.setIfInBounds_toArray, List.set_cons_zero, List.set_cons_succ]
  refine till_step (i := 8) (by kernel_rfl) rfl (fun K hK => ?_)
  go_simp
  refine (joined_calls x0 x1 x2 x3 y0 y1 y2 y3 hx hy _).mono ?_
  rintro e w6 ⟨z0, z1, z2, z3, rfl, hz, vz, hbl⟩
  have Hvz := Lib.hid vz
  clear vz
  have M6 := M5.on hbl
  clear hbl
  go_wp2_with fail
  refine hK.out _ _ (Or.inr M6) (fun hHeld => ?_)
  clear hK K hHeld
  try simp only [Act.put, List.setIfInBounds_toArray, List.set_cons_zero, List.set_cons_succ]
  refine till_step (i := 10) (by kernel_rfl) rfl (fun K hK => ?_)
  go_simp
  refine (takeIn_calls r0 r1 r2 r3 z0 z1 z2 z3 b0 b1 b2 b3 hr hz hb hb3 hrb _).mono ?_
  rintro e w7 ⟨n0, n1, n2, n3, rfl, hn, vn, hbl⟩
  have Hvn := Lib.hid vn
  clear vn
  have M7 := M6.on hbl
  clear hbl
  go_wp2_with fail
  refine hK.out _ _ (Or.inr M7) (fun hHeld => ?_)
  clear hK K hHeld
  try simp only [Act.put, List.setIfInBounds_toArray, List.set_cons_zero, List.set_cons_succ]
  obtain ⟨q0, q1, q2, q3, qf⟩ := M7.rowR
  have M8 := M7.put n0 n1 n2 n3
  refine till_step (i := 11) (by kernel_rfl) rfl (fun K hK => ?_)
  have hsz := M7.size
  clear M4 M5 M6 M7
  have HM8 := Lib.hid M8
  clear M8
  go_simp
  refine hK.out _ _ (Or.inl rfl) (fun hHeld => ?_)
  clear hK K hHeld q0 q1 q2 q3 qf
  refine till_done (by kernel_rfl) ?_
  have hnb : val4 n0 n1 n2 n3 < val4 b0 b1 b2 b3 := by rw [Hvn.out]; exact Nat.mod_lt _ (by omega)
  have HG := HM8.out
  unfold set4 at HG
  generalize (((w7.setCell ⟨g10, 0, none⟩ (.int .u64 (n0 : Nat))).setCell ⟨g10, 1, none⟩ (.int .u64 (n1 : Nat))).setCell ⟨g10, 2, none⟩ (.int .u64 (n2 : Nat))).setCell ⟨g10, 3, none⟩ (.int .u64 (n3 : Nat)) = W2 at HG ⊢
  have HM9 := Lib.hid HG
  clear HG HM8 hrb
  go_wp2_with fail
  refine region_till (fun wx => MR w wx g9 g10 h0 h1 h2 h3 l0 l1 l2 l3 b0 b1 b2 b3 n0 n1 n2 n3) 6 (by kernel_rfl) ?_
  have HS : (fun wx => MR w wx g9 g10 h0 h1 h2 h3 l0 l1 l2 l3 b0 b1 b2 b3 n0 n1 n2 n3) W2.drew := HM9.out.drewN 1
  refine till_take (i := 0) (v := .agg #[.int .u64 n0, .int .u64 n1, .int .u64 n2, .int .u64 n3]) rfl (by kernel_rfl) (by kernel_rfl) (by kernel_rfl) (by kernel_rfl) (fun _ _ _ h => h) HS (Or.inl ⟨by rfl, fun wx hx => ?_⟩) ?_
  · obtain ⟨k0, k1, k2, k3, kf⟩ := MR.rowR hx
    clear HS
    go_simp
  simp only [Act.put, List.setIfInBounds_toArray, List.set_cons_zero, List.set_cons_succ]
  refine till_take (i := 1) (v := .agg #[.int .u64 l0, .int .u64 l1, .int .u64 l2, .int .u64 l3]) rfl (by kernel_rfl) (by kernel_rfl) (by kernel_rfl) (by kernel_rfl) (fun _ _ _ h => h) HS (Or.inl ⟨by rfl, fun wx hx => ?_⟩) ?_
  · obtain ⟨k0, k1, k2, k3, kf⟩ := MR.rowL hx
    clear HS
    go_simp
  simp only [Act.put, List.setIfInBounds_toArray, List.set_cons_zero, List.set_cons_succ]
  refine till_take (i := 2) (v := .int .i64 (S : Nat)) rfl (by kernel_rfl) (by kernel_rfl) (by kernel_rfl) (by kernel_rfl) (fun _ _ _ h => h) HS (Or.inl ⟨by rfl, fun wx hx => ?_⟩) ?_
  · clear hx HS
    go_simp
  simp only [Act.put, List.setIfInBounds_toArray, List.set_cons_zero, List.set_cons_succ]
  refine till_take (i := 4) (v := .agg #[.int .u64 b0, .int .u64 b1, .int .u64 b2, .int .u64 b3]) rfl (by kernel_rfl) (by kernel_rfl) (by kernel_rfl) (by kernel_rfl) (fun _ _ _ h => h) HS (Or.inl ⟨by rfl, fun wx hx => ?_⟩) ?_
  · obtain ⟨k0, k1, k2, k3, kf⟩ := MR.rowB hx
    clear HS
    go_simp
  simp only [Act.put, List.setIfInBounds_toArray, List.set_cons_zero, List.set_cons_succ]
  clear HS
  refine till_step (i := 3) (by kernel_rfl) rfl (fun K hK => ?_)
  go_simp
  refine (shl_calls l0 l1 l2 l3 S hl (by omega) (by omega) _).mono ?_
  rintro e w8 ⟨u0, u1, u2, u3, rfl, hu, vu, hbl⟩
  rw [Int.toNat_natCast] at vu
  have Hvu := Lib.hid vu
  clear vu
  have M4 := HM9.out.onDrew hbl
  clear hbl
  go_wp2_with fail
  refine hK.out _ _ (Or.inr M4) (fun hHeld => ?_)
  clear hK K hHeld
  try simp only [Act.put, List.setIfInBounds_toArray, List.set_cons_zero, List.set_cons_succ]
  refine till_step (i := 5) (by kernel_rfl) rfl (fun K hK => ?_)
  go_simp
  refine (takeIn_calls n0 n1 n2 n3 u0 u1 u2 u3 b0 b1 b2 b3 hn hu hb hb3 hnb _).mono ?_
  rintro e w9 ⟨p0, p1, p2, p3, rfl, hp, vp, hbl⟩
  have Hvp := Lib.hid vp
  clear vp
  have M7 := M4.on hbl
  clear hbl
  go_wp2_with fail
  refine hK.out _ _ (Or.inr M7) (fun hHeld => ?_)
  clear hK K hHeld
  try simp only [Act.put, List.setIfInBounds_toArray, List.set_cons_zero, List.set_cons_succ]
  obtain ⟨q0, q1, q2, q3, qf⟩ := M7.rowR
  have M8 := M7.put p0 p1 p2 p3
  refine till_step (i := 6) (by kernel_rfl) rfl (fun K hK => ?_)
  have hsz := M7.size
  clear M4 M7
  have HM8 := Lib.hid M8
  clear M8
  go_simp
  refine hK.out _ _ (Or.inl rfl) (fun hHeld => ?_)
  clear hK K hHeld q0 q1 q2 q3 qf
  refine till_done (by kernel_rfl) ?_
  have HG := HM8.out
  unfold set4 at HG
  generalize (((w9.setCell ⟨g10, 0, none⟩ (.int .u64 (p0 : Nat))).setCell ⟨g10, 1, none⟩ (.int .u64 (p1 : Nat))).setCell ⟨g10, 2, none⟩ (.int .u64 (p2 : Nat))).setCell ⟨g10, 3, none⟩ (.int .u64 (p3 : Nat)) = W3 at HG ⊢
  have HM10 := Lib.hid HG
  obtain ⟨q0, q1, q2, q3, qf⟩ := HG.rowR
  clear HG HM8
  go_wp2_with fail
  refine (shr_calls p0 p1 p2 p3 S hp (by omega) (by omega) _).mono ?_
  rintro e wz ⟨s0, s1, s2, s3, rfl, hs, vs, hbl⟩
  rw [Int.toNat_natCast] at vs
  have HF : Hid (val4 s0 s1 s2 s3 = (val4 h0 h1 h2 h3 * 115792089237316195423570985008687907853269984665640564039457584007913129639936 + val4 l0 l1 l2 l3) % val4 m0 m1 m2 m3) := Lib.hid (by
    rw [vs, HeS.out]
    refine mod_fin (L := L) (r1 := val4 n0 n1 n2 n3) bL ?_ ?_
    · rw [Hvn.out, Hvz.out, Hvx.out, Hvy.out, Hevb.out, Hvr.out, HeS.out, join_sum bL (val4_lt hl)]
    · rw [Hvp.out, Hvu.out, Hevb.out, HeS.out])
  have M11 := HM10.out.on hbl
  obtain ⟨o0, o1, o2, o3, of⟩ := M11.rowO
  have HB := Lib.hid M11.below
  clear vs hbl M11 q0 q1 q2 q3 qf
  go_wp2_with fail
  refine bodyPost_ret (v := .tuple #[.agg #[.int .u64 s0, .int .u64 s1, .int .u64 s2, .int .u64 s3], .int .i64 0]) (by simp [results, Tryz.results303, go_sem, *]) rfl ?_
  exact ⟨s0, s1, s2, s3, 0, rfl, hs, ⟨HF.out, rfl⟩, below_set4 HB.out (by omega) _ _ _ _⟩

end Go.Proofs.YtaingnhikbaplaaGreat
namespace Go.Proofs.YtaingnhikbaplaaGreat
set_option linter.unusedVariables false
set_option linter.unusedSimpArgs false
open Go.RowKit

/-- a block of bytes -/
def RowB (w : World) (b n : Nat) (P : Nat → Nat) : Prop := ∀ k, k < n → w.cell? ⟨b, k, none⟩ = some (.int .u8 (P k : Nat)) ∧ w.frozen? ⟨b, k, none⟩ = false
theorem RowB.below {w w' : World} {b n : Nat} {P : Nat → Nat} (h : RowB w b n P) {B : Nat} (hb : Below B w w') (hB : b < B) : RowB w' b n P := fun k hk =>
  ⟨(hb.cell (p := ⟨b, k, none⟩) hB).trans (h k hk).1, (hb.frozen (p := ⟨b, k, none⟩) hB).trans (h k hk).2⟩
theorem RowB.set {w : World} {b n i v : Nat} {P : Nat → Nat} (h : RowB w b n P) (hi : i < n) : RowB (w.setCell ⟨b, i, none⟩ (.int .u8 (v : Nat))) b n (upd P i v) := by
  intro k hk
  refine ⟨?_, by rw [World.frozen?_setCell]; exact (h k hk).2⟩
  unfold upd
  by_cases e : k = i
  · subst e; rw [if_pos rfl]; exact World.cell?_setCell_same (h := (h k hk).1) ..
  · rw [if_neg e, World.cell?_setCell_other (h := fun he => e (by simpa using (congrArg Addr.off he).symm)) ..]; exact (h k hk).1
theorem RowB.other {w : World} {b n i : Nat} {P : Nat → Nat} (h : RowB w b n P) {c : Nat} (hc : c ≠ b) (x : Value) : RowB (w.setCell ⟨c, i, none⟩ x) b n P := by
  intro k hk
  exact ⟨by rw [World.cell?_setCell_other (h := fun he => hc (by simpa using congrArg Addr.block he)) ..]; exact (h k hk).1, by rw [World.frozen?_setCell]; exact (h k hk).2⟩
theorem RowB.drewN {w : World} {b n : Nat} {P : Nat → Nat} (h : RowB w b n P) (m : Nat) : RowB (w.drewN m) b n P := h
theorem RowB.ext {w : World} {b n : Nat} {P R : Nat → Nat} (h : RowB w b n P) (e : ∀ k, k < n → P k = R k) : RowB w b n R := fun k hk => ⟨by rw [← e k hk]; exact (h k hk).1, (h k hk).2⟩

end Go.Proofs.YtaingnhikbaplaaGreat
namespace Go.Proofs.YtaingnhikbaplaaGreat
set_option linter.unusedVariables false
set_option linter.unusedSimpArgs false
open Go.RowKit

set_option maxRecDepth 100000 in
set_option maxHeartbeats 2000000 in
theorem freduce_ok (f : Int) (F : FC) (hf : FieldIs f F) (g0 g1 g2 g3 l0 l1 l2 l3 : Nat) (hg : ok4 g0 g1 g2 g3) (hl : ok4 l0 l1 l2 l3) (w : World) :
    Calls Tryz.prog 271 #[.int .i64 f, .agg #[.int .u64 g0, .int .u64 g1, .int .u64 g2, .int .u64 g3], .agg #[.int .u64 l0, .int .u64 l1, .int .u64 l2, .int .u64 l3]] w (FeE 0 ((val4 g0 g1 g2 g3 * 115792089237316195423570985008687907853269984665640564039457584007913129639936 + val4 l0 l1 l2 l3) % F.M) w) := by
  go_enter Tryz.func271, Tryz.ntmps271
  go_wp2_with fail
  refine (cons_some f F hf _).mono ?_
  rintro e w1 ⟨rfl, hbl⟩
  have M1 := ((((Mem.nil w).new (w.heap.size) g0 g1 g2 g3 70 (by simp)).new (w.heap.size + 1) l0 l1 l2 l3 70 (by simp)).new (w.heap.size + 1 + 1) 0 0 0 0 24 (by simp)).on hbl
  clear hbl
  have z0 : w.heap.size < w1.heap.size := M1.lt (c0 := g0) (c1 := g1) (c2 := g2) (c3 := g3) (by simp)
  have z1 : w.heap.size + 1 < w1.heap.size := M1.lt (c0 := l0) (c1 := l1) (c2 := l2) (c3 := l3) (by simp)
  have z2 : w.heap.size + 1 + 1 < w1.heap.size := M1.lt (c0 := 0) (c1 := 0) (c2 := 0) (c3 := 0) (by simp)
  have HM := Lib.hid (M1.on ((Below.refl _ _).alloc (Nat.le_refl _) (.cells #[.int .u64 F.m0, .int .u64 F.m1, .int .u64 F.m2, .int .u64 F.m3, .int .u64 F.inv, .int .u64 F.s0, .int .u64 F.s1, .int .u64 F.s2, .int .u64 F.s3] 206)))
  have KK := Lib.hid (KIs.new w1 F 206)
  have kr := M1.row (b := w.heap.size) (c0 := g0) (c1 := g1) (c2 := g2) (c3 := g3) (by simp)
  have x0 := kr.c0; have x1 := kr.c1; have x2 := kr.c2; have x3 := kr.c3
  clear kr
  have xl := M1.lt (b := w.heap.size) (c0 := g0) (c1 := g1) (c2 := g2) (c3 := g3) (by simp)
  have kr := M1.row (b := w.heap.size + 1) (c0 := l0) (c1 := l1) (c2 := l2) (c3 := l3) (by simp)
  have u0 := kr.c0; have u1 := kr.c1; have u2 := kr.c2; have u3 := kr.c3
  clear kr
  have ul := M1.lt (b := w.heap.size + 1) (c0 := l0) (c1 := l1) (c2 := l2) (c3 := l3) (by simp)
  have k0 := KK.out.k0; have k1 := KK.out.k1; have k2 := KK.out.k2; have k3 := KK.out.k3
  go_wp2_with fail
  refine (mod_some g0 g1 g2 g3 l0 l1 l2 l3 F.m0 F.m1 F.m2 F.m3 hg hl hf.ok.okm hf.ok.pos _).mono ?_
  rintro e w2 ⟨s0, s1, s2, s3, er, rfl, hs, ⟨hv, rfl⟩, hbl⟩
  have HV := Lib.hid hv
  clear hv
  have HM' := Lib.hid (HM.out.on hbl)
  have KK' := Lib.hid (KK.out.same hbl)
  have zk := KK'.out.lt
  clear HM KK hbl M1
  have HM := HM'
  have KK := KK'
  clear HM' KK'
  clear zk k0 k1 k2 k3 x0 x1 x2 x3 xl u0 u1 u2 u3 ul
  have wz : w.heap.size + 1 + 1 < w2.heap.size := HM.out.lt (b := w.heap.size + 1 + 1) (c0 := 0) (c1 := 0) (c2 := 0) (c3 := 0) (by simp)
  have kr := HM.out.row (b := w.heap.size + 1 + 1) (c0 := 0) (c1 := 0) (c2 := 0) (c3 := 0) (by simp)
  have y0 := kr.c0; have y1 := kr.c1; have y2 := kr.c2; have y3 := kr.c3; have yf := kr.fr
  clear kr
  have yl := HM.out.lt (b := w.heap.size + 1 + 1) (c0 := 0) (c1 := 0) (c2 := 0) (c3 := 0) (by simp)
  go_wp2_with fail
  refine bodyPost_ret (v := .tuple #[.agg #[.int .u64 s0, .int .u64 s1, .int .u64 s2, .int .u64 s3], .int .i64 0]) (by simp [results, Tryz.results271, go_sem, *]) rfl ?_
  refine ⟨_, _, _, _, rfl, hs, HV.out, ?_⟩
  repeat (first | exact HM.out.1 | refine Below.alloc ?_ (by first | (simp; done) | (simp; omega)) _ | refine Below.setCell ?_ (by first | (simp; done) | (simp; omega)) _)
end Go.Proofs.YtaingnhikbaplaaGreat
