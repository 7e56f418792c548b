/-
  The calls of limbs.Shr and limbs.joined: for any number of four words and any number of bits, in any world. Conditions: each word below 2^64; the number of bits not below 0 (below 0: the number itself, said apart).
  A region that draws its order, held under a condition on the world until one last operation, which waits for all that is taken first: the condition need not stand behind that one. Of whatever program. Conditions: as each law says.
  A region that draws its order: where two operations may come up, both ways. Of whatever program. Conditions: as the law says.
-/
import Derived.OrdersHeld
import Derived.Deep.RegionHeld
import Derived.KernelRfl
import Derived.Test.YtebaoemoeckgaaaPr10
import Derived.Test.YtebaoemoeckgaaaPr00
namespace Go.Proofs.Ytebaoemoeckgaaa
set_option linter.unusedVariables false
set_option linter.unusedSimpArgs false
open Go.RowKit

theorem shr_0 (a0 a1 a2 a3 : Nat) (n : Int) (ha : ok4 a0 a1 a2 a3) (h0 : 0 < n) (hq : n / 64 = 0) (w : World) :
    Calls Try.prog 106 #[.agg #[.int .u64 a0, .int .u64 a1, .int .u64 a2, .int .u64 a3], .int .i64 n] w (WordPost (fun v => v = val4 a0 a1 a2 a3 / 2 ^ n.toNat) w) := by
  obtain ⟨p, hr, hp, en⟩ := ex_n (by omega) 0 hq (by omega)
  have b1 : n < 256 := by omega
  have t0 : decide (n ≤ 0) = false := decide_eq_false (by omega)
  obtain ⟨lo0, up0, u0, d0, bl0, bu0, e0, g0, m0⟩ := ex_down (a := a0) (p := p) ha.1 hp
  obtain ⟨lo1, up1, u1, d1, bl1, bu1, e1, g1, m1⟩ := ex_down (a := a1) (p := p) ha.2.1 hp
  obtain ⟨lo2, up2, u2, d2, bl2, bu2, e2, g2, m2⟩ := ex_down (a := a2) (p := p) ha.2.2.1 hp
  obtain ⟨lo3, up3, u3, d3, bl3, bu3, e3, g3, m3⟩ := ex_down (a := a3) (p := p) ha.2.2.2 hp
  obtain ⟨s0, o0, bs0, f0⟩ := ex_or' bl0 bu1 g0 m1
  obtain ⟨s1, o1, bs1, f1⟩ := ex_or' bl1 bu2 g1 m2
  obtain ⟨s2, o2, bs2, f2⟩ := ex_or' bl2 bu3 g2 m3
  have HF : Hid (val4 s0 s1 s2 lo3 = val4 a0 a1 a2 a3 / 2 ^ n.toNat) := Lib.hid (by
    rw [en, pow_n, ← Nat.div_div_eq_div_mul]
    have hq' : val4 a0 a1 a2 a3 / 18446744073709551616 ^ ((0 : Int)).toNat = val4 a0 a1 a2 a3 := by
      rw [show 18446744073709551616 ^ ((0 : Int)).toNat = 1 by simp]
      obtain ⟨k0, k1, k2, k3⟩ := ha
      unfold val4; omega
    rw [hq']
    obtain ⟨v0, x0, y0, z0⟩ := e0.out
    obtain ⟨v1, x1, y1, z1⟩ := e1.out
    obtain ⟨v2, x2, y2, z2⟩ := e2.out
    obtain ⟨v3, x3, y3, z3⟩ := e3.out
    have f0 := f0.out
    have f1 := f1.out
    have f2 := f2.out
    refine div_fin (m := v0) ?_ y0
    have hD : val4 s0 s1 s2 lo3 * 2 ^ p = 1 * (s0 * 2 ^ p) + 18446744073709551616 * (s1 * 2 ^ p) + 340282366920938463463374607431768211456 * (s2 * 2 ^ p) + 6277101735386680763835789423207666416102355444464034512896 * (lo3 * 2 ^ p) := by
      unfold val4; simp only [Nat.add_mul, Nat.mul_add, Nat.mul_assoc, Nat.mul_zero, Nat.zero_mul, Nat.add_zero]; omega
    rw [hD]
    have k0 : s0 * 2 ^ p = lo0 * 2 ^ p + up1 * 2 ^ p := by rw [f0, Nat.add_mul]
    have k1 : s1 * 2 ^ p = lo1 * 2 ^ p + up2 * 2 ^ p := by rw [f1, Nat.add_mul]
    have k2 : s2 * 2 ^ p = lo2 * 2 ^ p + up3 * 2 ^ p := by rw [f2, Nat.add_mul]
    unfold val4
    omega)
  clear e0 g0 m0 e1 g1 m1 e2 g2 m2 e3 g3 m3 f0 f1 f2
  have HEN := Lib.hid en
  clear en
  go_enter Try.func106, Try.ntmps106
  go_wp2_with fail
  refine wp_loop_rounds 5 ?_
  rw [rounds_succ]
  go_wp2_with fail
  go_region
  go_wp2_with fail
  rw [rounds_succ]
  go_wp2_with fail
  go_region
  go_wp2_with fail
  rw [rounds_succ]
  go_wp2_with fail
  go_region
  go_wp2_with fail
  rw [rounds_succ]
  go_wp2_with fail
  rw [rounds_succ]
  go_wp2_with fail
  refine bodyPost_ret (v := .agg #[.int .u64 s0, .int .u64 s1, .int .u64 s2, .int .u64 lo3]) (by simp [results, Try.results106, go_sem]) rfl ?_
  refine ⟨s0, s1, s2, lo3, rfl, ⟨bs0, bs1, bs2, bl3⟩, HF.out, ?_⟩
  repeat (first | exact Below.refl _ _ | refine Below.drew ?_ | refine Below.alloc ?_ (by first | (simp; done) | (simp; omega)) _)

theorem shr_1 (a0 a1 a2 a3 : Nat) (n : Int) (ha : ok4 a0 a1 a2 a3) (h0 : 0 < n) (hq : n / 64 = 1) (w : World) :
    Calls Try.prog 106 #[.agg #[.int .u64 a0, .int .u64 a1, .int .u64 a2, .int .u64 a3], .int .i64 n] w (WordPost (fun v => v = val4 a0 a1 a2 a3 / 2 ^ n.toNat) w) := by
  obtain ⟨p, hr, hp, en⟩ := ex_n (by omega) 1 hq (by omega)
  have b1 : n < 256 := by omega
  have t0 : decide (n ≤ 0) = false := decide_eq_false (by omega)
  obtain ⟨lo1, up1, u1, d1, bl1, bu1, e1, g1, m1⟩ := ex_down (a := a1) (p := p) ha.2.1 hp
  obtain ⟨lo2, up2, u2, d2, bl2, bu2, e2, g2, m2⟩ := ex_down (a := a2) (p := p) ha.2.2.1 hp
  obtain ⟨lo3, up3, u3, d3, bl3, bu3, e3, g3, m3⟩ := ex_down (a := a3) (p := p) ha.2.2.2 hp
  obtain ⟨s1, o1, bs1, f1⟩ := ex_or' bl1 bu2 g1 m2
  obtain ⟨s2, o2, bs2, f2⟩ := ex_or' bl2 bu3 g2 m3
  have HF : Hid (val4 s1 s2 lo3 0 = val4 a0 a1 a2 a3 / 2 ^ n.toNat) := Lib.hid (by
    rw [en, pow_n, ← Nat.div_div_eq_div_mul]
    have hq' : val4 a0 a1 a2 a3 / 18446744073709551616 ^ ((1 : Int)).toNat = val4 a1 a2 a3 0 := by
      rw [show 18446744073709551616 ^ ((1 : Int)).toNat = 18446744073709551616 by simp]
      obtain ⟨k0, k1, k2, k3⟩ := ha
      unfold val4; omega
    rw [hq']
    obtain ⟨v1, x1, y1, z1⟩ := e1.out
    obtain ⟨v2, x2, y2, z2⟩ := e2.out
    obtain ⟨v3, x3, y3, z3⟩ := e3.out
    have f1 := f1.out
    have f2 := f2.out
    refine div_fin (m := v1) ?_ y1
    have hD : val4 s1 s2 lo3 0 * 2 ^ p = 1 * (s1 * 2 ^ p) + 18446744073709551616 * (s2 * 2 ^ p) + 340282366920938463463374607431768211456 * (lo3 * 2 ^ p) := by
      unfold val4; simp only [Nat.add_mul, Nat.mul_add, Nat.mul_assoc, Nat.mul_zero, Nat.zero_mul, Nat.add_zero]; omega
    rw [hD]
    have k1 : s1 * 2 ^ p = lo1 * 2 ^ p + up2 * 2 ^ p := by rw [f1, Nat.add_mul]
    have k2 : s2 * 2 ^ p = lo2 * 2 ^ p + up3 * 2 ^ p := by rw [f2, Nat.add_mul]
    unfold val4
    omega)
  clear e1 g1 m1 e2 g2 m2 e3 g3 m3 f1 f2
  have HEN := Lib.hid en
  clear en
  go_enter Try.func106, Try.ntmps106
  go_wp2_with fail
  refine wp_loop_rounds 4 ?_
  rw [rounds_succ]
  go_wp2_with fail
  go_region
  go_wp2_with fail
  rw [rounds_succ]
  go_wp2_with fail
  go_region
  go_wp2_with fail
  rw [rounds_succ]
  go_wp2_with fail
  rw [rounds_succ]
  go_wp2_with fail
  refine bodyPost_ret (v := .agg #[.int .u64 s1, .int .u64 s2, .int .u64 lo3, .int .u64 0]) (by simp [results, Try.results106, go_sem]) rfl ?_
  refine ⟨s1, s2, lo3, 0, rfl, ⟨bs1, bs2, bl3, (by omega)⟩, HF.out, ?_⟩
  repeat (first | exact Below.refl _ _ | refine Below.drew ?_ | refine Below.alloc ?_ (by first | (simp; done) | (simp; omega)) _)

theorem shr_2 (a0 a1 a2 a3 : Nat) (n : Int) (ha : ok4 a0 a1 a2 a3) (h0 : 0 < n) (hq : n / 64 = 2) (w : World) :
    Calls Try.prog 106 #[.agg #[.int .u64 a0, .int .u64 a1, .int .u64 a2, .int .u64 a3], .int .i64 n] w (WordPost (fun v => v = val4 a0 a1 a2 a3 / 2 ^ n.toNat) w) := by
  obtain ⟨p, hr, hp, en⟩ := ex_n (by omega) 2 hq (by omega)
  have b1 : n < 256 := by omega
  have t0 : decide (n ≤ 0) = false := decide_eq_false (by omega)
  obtain ⟨lo2, up2, u2, d2, bl2, bu2, e2, g2, m2⟩ := ex_down (a := a2) (p := p) ha.2.2.1 hp
  obtain ⟨lo3, up3, u3, d3, bl3, bu3, e3, g3, m3⟩ := ex_down (a := a3) (p := p) ha.2.2.2 hp
  obtain ⟨s2, o2, bs2, f2⟩ := ex_or' bl2 bu3 g2 m3
  have HF : Hid (val4 s2 lo3 0 0 = val4 a0 a1 a2 a3 / 2 ^ n.toNat) := Lib.hid (by
    rw [en, pow_n, ← Nat.div_div_eq_div_mul]
    have hq' : val4 a0 a1 a2 a3 / 18446744073709551616 ^ ((2 : Int)).toNat = val4 a2 a3 0 0 := by
      rw [show 18446744073709551616 ^ ((2 : Int)).toNat = 340282366920938463463374607431768211456 by simp]
      obtain ⟨k0, k1, k2, k3⟩ := ha
      unfold val4; omega
    rw [hq']
    obtain ⟨v2, x2, y2, z2⟩ := e2.out
    obtain ⟨v3, x3, y3, z3⟩ := e3.out
    have f2 := f2.out
    refine div_fin (m := v2) ?_ y2
    have hD : val4 s2 lo3 0 0 * 2 ^ p = 1 * (s2 * 2 ^ p) + 18446744073709551616 * (lo3 * 2 ^ p) := by
      unfold val4; simp only [Nat.add_mul, Nat.mul_add, Nat.mul_assoc, Nat.mul_zero, Nat.zero_mul, Nat.add_zero]; omega
    rw [hD]
    have k2 : s2 * 2 ^ p = lo2 * 2 ^ p + up3 * 2 ^ p := by rw [f2, Nat.add_mul]
    unfold val4
    omega)
  clear e2 g2 m2 e3 g3 m3 f2
  have HEN := Lib.hid en
  clear en
  go_enter Try.func106, Try.ntmps106
  go_wp2_with fail
  refine wp_loop_rounds 3 ?_
  rw [rounds_succ]
  go_wp2_with fail
  go_region
  go_wp2_with fail
  rw [rounds_succ]
  go_wp2_with fail
  rw [rounds_succ]
  go_wp2_with fail
  refine bodyPost_ret (v := .agg #[.int .u64 s2, .int .u64 lo3, .int .u64 0, .int .u64 0]) (by simp [results, Try.results106, go_sem]) rfl ?_
  refine ⟨s2, lo3, 0, 0, rfl, ⟨bs2, bl3, (by omega), (by omega)⟩, HF.out, ?_⟩
  repeat (first | exact Below.refl _ _ | refine Below.drew ?_ | refine Below.alloc ?_ (by first | (simp; done) | (simp; omega)) _)

theorem shr_3 (a0 a1 a2 a3 : Nat) (n : Int) (ha : ok4 a0 a1 a2 a3) (h0 : 0 < n) (hq : n / 64 = 3) (w : World) :
    Calls Try.prog 106 #[.agg #[.int .u64 a0, .int .u64 a1, .int .u64 a2, .int .u64 a3], .int .i64 n] w (WordPost (fun v => v = val4 a0 a1 a2 a3 / 2 ^ n.toNat) w) := by
  obtain ⟨p, hr, hp, en⟩ := ex_n (by omega) 3 hq (by omega)
  have b1 : n < 256 := by omega
  have t0 : decide (n ≤ 0) = false := decide_eq_false (by omega)
  obtain ⟨lo3, up3, u3, d3, bl3, bu3, e3, g3, m3⟩ := ex_down (a := a3) (p := p) ha.2.2.2 hp
  have HF : Hid (val4 lo3 0 0 0 = val4 a0 a1 a2 a3 / 2 ^ n.toNat) := Lib.hid (by
    rw [en, pow_n, ← Nat.div_div_eq_div_mul]
    have hq' : val4 a0 a1 a2 a3 / 18446744073709551616 ^ ((3 : Int)).toNat = val4 a3 0 0 0 := by
      rw [show 18446744073709551616 ^ ((3 : Int)).toNat = 6277101735386680763835789423207666416102355444464034512896 by simp]
      obtain ⟨k0, k1, k2, k3⟩ := ha
      unfold val4; omega
    rw [hq']
    obtain ⟨v3, x3, y3, z3⟩ := e3.out
    refine div_fin (m := v3) ?_ y3
    have hD : val4 lo3 0 0 0 * 2 ^ p = 1 * (lo3 * 2 ^ p) := by
      unfold val4; simp only [Nat.add_mul, Nat.mul_add, Nat.mul_assoc, Nat.mul_zero, Nat.zero_mul, Nat.add_zero]; omega
    rw [hD]
    unfold val4
    omega)
  clear e3 g3 m3 
  have HEN := Lib.hid en
  clear en
  go_enter Try.func106, Try.ntmps106
  go_wp2_with fail
  refine wp_loop_rounds 2 ?_
  rw [rounds_succ]
  go_wp2_with fail
  rw [rounds_succ]
  go_wp2_with fail
  refine bodyPost_ret (v := .agg #[.int .u64 lo3, .int .u64 0, .int .u64 0, .int .u64 0]) (by simp [results, Try.results106, go_sem]) rfl ?_
  refine ⟨lo3, 0, 0, 0, rfl, ⟨bl3, (by omega), (by omega), (by omega)⟩, HF.out, ?_⟩
  repeat (first | exact Below.refl _ _ | refine Below.drew ?_ | refine Below.alloc ?_ (by first | (simp; done) | (simp; omega)) _)

theorem shr_none (a0 a1 a2 a3 : Nat) (n : Int) (ha : ok4 a0 a1 a2 a3) (h0 : n ≤ 0) (w : World) :
    Calls Try.prog 106 #[.agg #[.int .u64 a0, .int .u64 a1, .int .u64 a2, .int .u64 a3], .int .i64 n] w (WordPost (fun v => v = val4 a0 a1 a2 a3) w) := by
  have t0 : decide (n ≤ 0) = true := decide_eq_true h0
  go_enter Try.func106, Try.ntmps106
  go_wp2_with fail
  refine bodyPost_ret (v := .agg #[.int .u64 a0, .int .u64 a1, .int .u64 a2, .int .u64 a3]) (by simp [results, Try.results106, go_sem]) rfl ?_
  refine ⟨a0, a1, a2, a3, rfl, ha, rfl, ?_⟩
  repeat (first | exact Below.refl _ _ | refine Below.drew ?_ | refine Below.alloc ?_ (by first | (simp; done) | (simp; omega)) _)

theorem shr_far (a0 a1 a2 a3 : Nat) (n : Int) (ha : ok4 a0 a1 a2 a3) (h0 : 256 ≤ n) (h1 : n ≤ 9223372036854775807) (w : World) :
    Calls Try.prog 106 #[.agg #[.int .u64 a0, .int .u64 a1, .int .u64 a2, .int .u64 a3], .int .i64 n] w (WordPost (fun v => v = 0) w) := by
  have t0 : decide (n ≤ 0) = false := decide_eq_false (by omega)
  obtain ⟨q, hq, bq, bq'⟩ : ∃ q : Nat, n / 64 = (q : Int) ∧ 4 ≤ q ∧ q ≤ 9223372036854775807 := ⟨(n / 64).toNat, by omega, by omega, by omega⟩
  have t1 : decide ((0 : Int) < 4 - (q : Int)) = false := decide_eq_false (by omega)
  go_enter Try.func106, Try.ntmps106
  go_wp2_with fail
  refine wp_loop_rounds 1 ?_
  rw [rounds_succ]
  go_wp2_with fail
  refine bodyPost_ret (v := .agg #[.int .u64 0, .int .u64 0, .int .u64 0, .int .u64 0]) (by simp [results, Try.results106, go_sem]) rfl ?_
  refine ⟨0, 0, 0, 0, rfl, ⟨by omega, by omega, by omega, by omega⟩, rfl, ?_⟩
  repeat (first | exact Below.refl _ _ | refine Below.drew ?_ | refine Below.alloc ?_ (by first | (simp; done) | (simp; omega)) _)

/-- limbs.Shr, for any number of bits that is not below 0 -/
theorem shr_calls (a0 a1 a2 a3 : Nat) (n : Int) (ha : ok4 a0 a1 a2 a3) (h0 : 0 ≤ n) (h1 : n ≤ 9223372036854775807) (w : World) :
    Calls Try.prog 106 #[.agg #[.int .u64 a0, .int .u64 a1, .int .u64 a2, .int .u64 a3], .int .i64 n] w (WordPost (fun v => v = val4 a0 a1 a2 a3 / 2 ^ n.toNat) w) := by
  by_cases hz : n ≤ 0
  · refine (shr_none a0 a1 a2 a3 n ha hz w).mono ?_
    rintro e w' ⟨s0, s1, s2, s3, he, hs, hv, hb⟩
    refine ⟨s0, s1, s2, s3, he, hs, ?_, hb⟩
    have := val4_lt ha
    rw [hv, show n.toNat = 0 by omega, Nat.pow_zero]; omega
  · by_cases hf : 256 ≤ n
    · refine (shr_far a0 a1 a2 a3 n ha hf h1 w).mono ?_
      rintro e w' ⟨s0, s1, s2, s3, he, hs, hv, hb⟩
      refine ⟨s0, s1, s2, s3, he, hs, ?_, hb⟩
      rw [hv]
      have hp := Nat.pow_le_pow_right (show 0 < 2 by omega) (show 256 ≤ n.toNat by omega)
      have := val4_lt ha
      exact (Nat.div_eq_of_lt (Nat.lt_of_lt_of_le this hp)).symm
    · have hq : n / 64 = 0 ∨ n / 64 = 1 ∨ n / 64 = 2 ∨ n / 64 = 3 := by omega
      rcases hq with h | h | h | h
      · exact shr_0 a0 a1 a2 a3 n ha (by omega) h w
      · exact shr_1 a0 a1 a2 a3 n ha (by omega) h w
      · exact shr_2 a0 a1 a2 a3 n ha (by omega) h w
      · exact shr_3 a0 a1 a2 a3 n ha (by omega) h w

end Go.Proofs.Ytebaoemoeckgaaa
namespace Go.Proofs.Ytebaoemoeckgaaa
set_option linter.unusedVariables false

section
variable {P : Program} {ops : Array Oper} {Q : Exit → Act → World → Prop} {md : Region.Mode} {S : World → Prop} {L : Nat}

/-- Whatever order is picked: behind each operation but number L the condition stands. -/
def anyTill (P : Program) (md : Region.Mode) (ops : Array Oper) (Q : Exit → Act → World → Prop) (S : World → Prop) (L : Nat) : Nat → Array Bool → Act → World → Prop
  | 0, got, a, w => Region.ready md ops got = [] ∧ Q .normal a w
  | m + 1, got, a, w =>
    (Region.ready md ops got = [] → Q .normal a w) ∧
    ∀ i ∈ Region.ready md ops got, wpOp P ops Q i (fun b u => (i = L ∨ S u) ∧ anyTill P md ops Q S L m (got.setIfInBounds i true) b u) a w

theorem any_of_till : ∀ (m : Nat) (got : Array Bool) (a : Act) (w : World), anyTill P md ops Q S L m got a w → wpAny P md ops Q m got a w
  | 0, _, _, _, h => h
  | m + 1, _, _, _, h => ⟨h.1, fun i hi => wpOp_mono (fun b u k => any_of_till m _ b u k.2) (h.2 i hi)⟩

/-- number L waits for number i -/
def waits (md : Region.Mode) (ops : Array Oper) (L i : Nat) : Bool :=
  match ops[L]? with
  | some o => o.after.any fun e => Region.binds md e && e.on == i
  | none => false

theorem till_first {i : Nat} {oi : Oper} {v : Value} (hi : ops[i]? = some oi) (hsel : ∀ (j : Nat) (o : Oper) cs b, ops[j]? = some o → o.op ≠ .select cs b)
    (hL : waits md ops L i = true) (hQ : ∀ c a w, Q (.panic c) (a.put oi.dst v) w → Q (.panic c) a w) :
    ∀ (m : Nat) (got : Array Bool) (a : Act) (w : World),
      (∀ j oj, ops[j]? = some oj → j ≠ i → got.getD j true = false → (∀ e ∈ oj.after, Region.binds md e = true → e.on ≠ i) → oi.apart ops oj = true) →
      i ∈ Region.ready md ops got → YieldsIf P ops S oi v a → S w →
      anyTill P md ops Q S L m (got.setIfInBounds i true) (a.put oi.dst v) w → anyTill P md ops Q S L (m + 1) got a w := by
  intro m
  induction m with
  | zero =>
    intro got a w _ hr hy hS H
    refine ⟨fun h => (by rw [h] at hr; cases hr), fun j hj => ?_⟩
    by_cases hji : j = i
    · subst hji; exact hy.wpOp hi hS ⟨.inr hS, H⟩
    · have := ready_mono hj hji
      rw [H.1] at this
      cases this
  | succ m ih =>
    intro got a w hfree hr hy hS H
    refine ⟨fun h => (by rw [h] at hr; cases hr), fun j hj => ?_⟩
    by_cases hji : j = i
    · subst hji; exact hy.wpOp hi hS ⟨.inr hS, H⟩
    · obtain ⟨hun, oj, hoj, hall⟩ := mem_ready.1 hj
      have hno : ∀ e ∈ oj.after, Region.binds md e = true → e.on ≠ i := fun e he hb heq => by
        have h1 := hall e he hb
        have h0 := (mem_ready.1 hr).1
        rw [heq] at h1
        rcases Nat.lt_or_ge i got.size with h' | h'
        · simp [h'] at h0 h1; rw [h0] at h1; cases h1
        · simp [Array.getElem?_eq_none h'] at h1
      have hjL : j ≠ L := fun e => by
        subst e
        unfold waits at hL
        rw [hoj] at hL
        obtain ⟨x, hx, hx2⟩ := Array.any_eq_true'.1 hL
        simp only [Bool.and_eq_true, beq_iff_eq] at hx2
        exact hno x hx hx2.1 hx2.2
      have h2 := wpOp_putIf hoj (hfree j oj hoj hji hun hno) (fun cs b => hsel i oi cs b hi) (fun cs b => hsel j oj cs b hoj) hQ hy (H.2 j (ready_mono hj hji))
      have hfree' : ∀ k ok, ops[k]? = some ok → k ≠ i → (got.setIfInBounds j true).getD k true = false →
          (∀ e ∈ ok.after, Region.binds md e = true → e.on ≠ i) → oi.apart ops ok = true := fun k ok hk hki hu hn => by
        refine hfree k ok hk hki ?_ hn
        by_cases hjk : j = k
        · subst hjk; exact hun
        · rw [getD_set_ne true hjk] at hu; exact hu
      refine wpOp_mono (fun b u h3 => ⟨h3.2.1, ih (got.setIfInBounds j true) b u hfree' (ready_mono hr (Ne.symm hji)) h3.1 (h3.2.1.resolve_left hjL) ?_⟩) h2
      rw [Array.setIfInBounds_comm _ _ hji]
      exact h3.2.2

theorem till_take {i : Nat} {oi : Oper} {v : Value} {m : Nat} {got : Array Bool} {a : Act} {w : World} (hi : ops[i]? = some oi)
    (hs : Region.noSelect ops = true) (hf : Region.free md ops got i = true) (hr : (Region.ready md ops got).contains i = true) (hL : waits md ops L i = true)
    (hQ : ∀ c a w, Q (.panic c) (a.put oi.dst v) w → Q (.panic c) a w) (hS : S w) (hy : YieldsIf P ops S oi v a)
    (h : anyTill P md ops Q S L m (got.setIfInBounds i true) (a.put oi.dst v) w) : anyTill P md ops Q S L (m + 1) got a w :=
  till_first hi (Region.noSelect_spec hs) hL hQ m got a w (Region.free_spec hi hf) (by simpa using hr) hy hS h

/-- One operation alone may come up. -/
theorem till_step {i : Nat} {o : Oper} {m : Nat} {got : Array Bool} {a : Act} {w : World} (hr : Region.ready md ops got = [i]) (ho : ops[i]? = some o)
    (h : ∀ K : Act → World → Prop, Shut (∀ b u, (i = L ∨ S u) → ((i = L ∨ S u) → anyTill P md ops Q S L m (got.setIfInBounds i true) b u) → K b u) → if Region.wanted o (yielded ops a.tmps) = true then Oper.wp P o a w K Q else K (a.put o.dst undef) w) :
    anyTill P md ops Q S L (m + 1) got a w :=
  ⟨fun h0 => (by rw [hr] at h0; cases h0), fun j hj => by
    rw [hr] at hj
    obtain rfl : j = i := by simpa using hj
    exact wpOp_step ho (fun K hK => h K (fun b u hS hW => hK b u ⟨hS, hW hS⟩))⟩

theorem till_done {got : Array Bool} {a : Act} {w : World} (hr : Region.ready md ops got = []) (h : Q .normal a w) : anyTill P md ops Q S L 0 got a w := ⟨hr, h⟩

theorem region_till (S : World → Prop) (L : Nat) {id : Nat} {a : Act} {w : World} (hm : P.follows .mixedOrders = true)
    (h : anyTill P .any ops Q S L ops.size (Array.replicate ops.size false) a w.drew) : (Code.region id ops true).wp P Q a w :=
  wp_region_any hm (any_of_till _ _ _ _ h)
end
end Go.Proofs.Ytebaoemoeckgaaa
namespace Go.Proofs.Ytebaoemoeckgaaa
set_option linter.unusedVariables false

theorem till_two {P : Program} {ops : Array Oper} {Q : Exit → Act → World → Prop} {md : Region.Mode} {S : World → Prop} {L : Nat} {i j : Nat} {oi oj : Oper} {m : Nat} {got : Array Bool} {a : Act} {w : World} (hr : Region.ready md ops got = [i, j]) (hoi : ops[i]? = some oi) (hoj : ops[j]? = some oj)
    (h1 : ∀ K : Act → World → Prop, Shut (∀ b u, (i = L ∨ S u) → ((i = L ∨ S u) → anyTill P md ops Q S L m (got.setIfInBounds i true) b u) → K b u) → if Region.wanted oi (yielded ops a.tmps) = true then Oper.wp P oi a w K Q else K (a.put oi.dst undef) w)
    (h2 : ∀ K : Act → World → Prop, Shut (∀ b u, (j = L ∨ S u) → ((j = L ∨ S u) → anyTill P md ops Q S L m (got.setIfInBounds j true) b u) → K b u) → if Region.wanted oj (yielded ops a.tmps) = true then Oper.wp P oj a w K Q else K (a.put oj.dst undef) w) :
    anyTill P md ops Q S L (m + 1) got a w :=
  ⟨fun h0 => (by rw [hr] at h0; cases h0), fun k hk => by
    rw [hr] at hk
    rcases List.mem_cons.1 hk with rfl | hk
    · exact wpOp_step hoi (fun K hK => h1 K (fun b u hS hW => hK b u ⟨hS, hW hS⟩))
    · obtain rfl : k = j := by simpa using hk
      exact wpOp_step hoj (fun K hK => h2 K (fun b u hS hW => hK b u ⟨hS, hW hS⟩))⟩

end Go.Proofs.Ytebaoemoeckgaaa
