/-
  THE STATEMENT FieldPowers: for either field or none, any elements and any number: inverses, quotients, powers, squares and roots are those of the page: the law answers true. Conditions: words below 2^64.
-/
import Derived.Test.YtalddekocfkbhaaFPow0
namespace Go.Proofs.Ytalddekocfkbhaa
set_option linter.unusedVariables false
set_option linter.unusedSimpArgs false
open Go.RowKit


theorem legV_legN (f : Int) (F : FC) (hf : FieldIs f F) (a0 a1 a2 a3 : Nat) (ha : ok4 a0 a1 a2 a3) (la : val4 a0 a1 a2 a3 < F.M) : legV F.M (val4 a0 a1 a2 a3) = legN F.M (val4 a0 a1 a2 a3) := by
  obtain ⟨gr, hroot⟩ := hf.root
  have hg := hf.ok.gt
  unfold legV legN
  by_cases hz : val4 a0 a1 a2 a3 = 0
  · rw [if_pos hz, if_pos (by rw [hz, Nat.zero_pow (by omega), Nat.zero_mod])]
  · rw [if_neg hz]
    rcases half_pow hroot hg hf.ok.odd (show 0 < val4 a0 a1 a2 a3 by omega) la with q | q
    · rw [if_neg (by omega)]
    · rw [if_neg (by omega)]
theorem rlegN_calls (f : Int) (F : FC) (hf : FieldIs f F) (a0 a1 a2 a3 : Nat) (ha : ok4 a0 a1 a2 a3) (la : val4 a0 a1 a2 a3 < F.M) (w : World) : Calls Try.prog 21 #[.int .i64 f, .agg #[.int .u64 a0, .int .u64 a1, .int .u64 a2, .int .u64 a3]] w (fun e w' => e = .returned (.int .i64 (legN F.M (val4 a0 a1 a2 a3))) ∧ Below w.heap.size w w') := by
  rw [← legV_legN f F hf a0 a1 a2 a3 ha la]
  exact rleg_calls f F hf a0 a1 a2 a3 ha w
theorem one_ok4 : ok4 1 0 0 0 := by unfold ok4; decide
theorem inv_both (f : Int) (F : FC) (hf : FieldIs f F) (a0 a1 a2 a3 : Nat) (ha : ok4 a0 a1 a2 a3) (la : val4 a0 a1 a2 a3 < F.M) : ∃ (c : Int) (V : Nat), (∀ w, Calls Try.prog 13 #[.int .i64 f, .agg #[.int .u64 a0, .int .u64 a1, .int .u64 a2, .int .u64 a3]] w (FeE c V w)) ∧ (∀ w, Calls Try.prog 18 #[.int .i64 f, .agg #[.int .u64 a0, .int .u64 a1, .int .u64 a2, .int .u64 a3]] w (FeE c V w)) ∧ (c = 0 ∨ c ≠ 0 ∧ V = 0) := by
  have hg := hf.ok.gt
  by_cases hz : val4 a0 a1 a2 a3 = 0
  · exact ⟨22, 0, fun w => finv_of f 22 0 a0 a1 a2 a3 (fun W => fdiv0_ok f F hf 1 0 0 0 a0 a1 a2 a3 one_ok4 ha (by show 1 < _; omega) la hz W) w, fun w => rinv0_calls f F hf a0 a1 a2 a3 ha (by rw [hz, Nat.zero_mod]) w, Or.inr ⟨by omega, rfl⟩⟩
  · refine ⟨0, _, fun w => finv_of f 0 _ a0 a1 a2 a3 (fun W => fdiv_ok f F hf 1 0 0 0 a0 a1 a2 a3 one_ok4 ha (by show 1 < _; omega) la hz W) w, fun w => ?_, Or.inl rfl⟩
    refine (rinv1_calls f F hf a0 a1 a2 a3 ha (by rw [Nat.mod_eq_of_lt la]; exact hz) w).mono ?_
    rintro e w' ⟨s0, s1, s2, s3, he, hs, hv, hb⟩
    exact ⟨s0, s1, s2, s3, he, hs, by rw [hv, show val4 1 0 0 0 = 1 from rfl, Nat.one_mul], hb⟩
theorem div_both (f : Int) (F : FC) (hf : FieldIs f F) (a0 a1 a2 a3 b0 b1 b2 b3 : Nat) (ha : ok4 a0 a1 a2 a3) (hb : ok4 b0 b1 b2 b3) (la : val4 a0 a1 a2 a3 < F.M) (lb : val4 b0 b1 b2 b3 < F.M) :
    ∃ (c : Int) (V U : Nat), (∀ w, Calls Try.prog 15 #[.int .i64 f, .agg #[.int .u64 a0, .int .u64 a1, .int .u64 a2, .int .u64 a3], .agg #[.int .u64 b0, .int .u64 b1, .int .u64 b2, .int .u64 b3]] w (FeE c V w)) ∧ (∀ w, Calls Try.prog 18 #[.int .i64 f, .agg #[.int .u64 b0, .int .u64 b1, .int .u64 b2, .int .u64 b3]] w (FeE c U w)) ∧ (c = 0 ∨ c ≠ 0 ∧ V = 0) ∧ V = (val4 a0 a1 a2 a3) * U % F.M := by
  by_cases hz : val4 b0 b1 b2 b3 = 0
  · exact ⟨22, 0, 0, fun w => fdiv0_ok f F hf a0 a1 a2 a3 b0 b1 b2 b3 ha hb la lb hz w, fun w => rinv0_calls f F hf b0 b1 b2 b3 hb (by rw [hz, Nat.zero_mod]) w, Or.inr ⟨by omega, rfl⟩, by rw [Nat.mul_zero, Nat.zero_mod]⟩
  · exact ⟨0, _, _, fun w => fdiv_ok f F hf a0 a1 a2 a3 b0 b1 b2 b3 ha hb la lb hz w, fun w => rinv1_calls f F hf b0 b1 b2 b3 hb (by rw [Nat.mod_eq_of_lt lb]; exact hz) w, Or.inl rfl, by rw [Nat.mul_mod_mod]⟩
/-- what a root is: the lower one, or none -/
def SqR (M A : Nat) (c : Int) (V : Nat) : Prop := c = 0 ∧ V * V % M = A ∧ V < M ∧ lowB M V = true ∨ c ≠ 0 ∧ V = 0
theorem SqR.uniq {M g A V U : Nat} {c : Int} (hr : Root M g) (h2 : 2 < M) (h : SqR M A c V) (k : SqR M A c U) : V = U := by
  rcases h with ⟨h0, h1, h3, h4⟩ | ⟨h0, h1⟩ <;> rcases k with ⟨k0, k1, k3, k4⟩ | ⟨k0, k1⟩
  · exact (low_root hr h2 k3 h3 (h1.trans k1.symm) h4).1 k4
  · exact absurd h0 k0
  · exact absurd k0 h0
  · rw [h1, k1]
theorem low_zero (M : Nat) : lowB M 0 = true := by unfold lowB; exact decide_eq_true (Nat.zero_le _)
theorem sqrt_both (f : Int) (F : FC) (hf : FieldIs f F) (a0 a1 a2 a3 : Nat) (ha : ok4 a0 a1 a2 a3) (la : val4 a0 a1 a2 a3 < F.M) : ∃ (c : Int), (∀ w, Calls Try.prog 14 #[.int .i64 f, .agg #[.int .u64 a0, .int .u64 a1, .int .u64 a2, .int .u64 a3]] w (fun e w' => ∃ V, FeE c V w e w' ∧ SqR F.M (val4 a0 a1 a2 a3) c V)) ∧ (∀ w, Calls Try.prog 19 #[.int .i64 f, .agg #[.int .u64 a0, .int .u64 a1, .int .u64 a2, .int .u64 a3]] w (fun e w' => ∃ V, FeE c V w e w' ∧ SqR F.M (val4 a0 a1 a2 a3) c V)) ∧ (c = 0 ∨ c ≠ 0) := by
  have hg := hf.ok.gt
  by_cases hl : legN F.M (val4 a0 a1 a2 a3) = -1
  · refine ⟨23, fun w => (fsqrt_none f F hf a0 a1 a2 a3 ha la hl w).mono fun e w' h => ⟨0, h, Or.inr ⟨by omega, rfl⟩⟩, fun w => (rsqrt_no f F hf a0 a1 a2 a3 ha (by rw [legV_legN f F hf a0 a1 a2 a3 ha la]; exact hl) w).mono fun e w' h => ⟨0, h, Or.inr ⟨by omega, rfl⟩⟩, Or.inr (by omega)⟩
  · have hsq : (val4 a0 a1 a2 a3) ^ (F.M / 2) % F.M = 1 ∨ (val4 a0 a1 a2 a3) = 0 := by
      unfold legN at hl
      by_cases hz : (val4 a0 a1 a2 a3) = 0
      · exact Or.inr hz
      · rw [if_neg hz] at hl
        by_cases q : (val4 a0 a1 a2 a3) ^ (F.M / 2) % F.M = 1
        · exact Or.inl q
        · rw [if_neg q] at hl; exact absurd rfl hl
    refine ⟨0, fun w => ?_, fun w => ?_, Or.inl rfl⟩
    · by_cases hz : (val4 a0 a1 a2 a3) = 0
      · exact (fsqrt0_ok f F hf a0 a1 a2 a3 ha la hz w).mono fun e w' k => ⟨0, k, Or.inl ⟨rfl, by rw [hz, Nat.zero_mul, Nat.zero_mod], hf.ok.pos, low_zero _⟩⟩
      · exact (fsqrt_yes_ok f F hf a0 a1 a2 a3 ha la hz (hsq.resolve_right hz) w).mono fun e w' ⟨V, k, k1, k2, k3⟩ => ⟨V, k, Or.inl ⟨rfl, k1, k2, k3⟩⟩
    · rcases hf with ⟨rfl, rfl⟩ | ⟨rfl, rfl⟩
      · exact (rsqrtP_yes a0 a1 a2 a3 ha la hsq w).mono fun e w' ⟨s0, s1, s2, s3, he, hs, k1, k2, k3, hb⟩ => ⟨_, ⟨s0, s1, s2, s3, he, hs, rfl, hb⟩, Or.inl ⟨rfl, k1, k2, k3⟩⟩
      · exact (rsqrtR_yes a0 a1 a2 a3 ha la hsq w).mono fun e w' ⟨s0, s1, s2, s3, he, hs, k1, k2, k3, hb⟩ => ⟨_, ⟨s0, s1, s2, s3, he, hs, rfl, hb⟩, Or.inl ⟨rfl, k1, k2, k3⟩⟩
set_option maxRecDepth 100000 in
set_option maxHeartbeats 16000000 in
theorem same_zero (c : Int) (hc : c ≠ 0) (w : World) :
    Calls Try.prog 23 #[.agg #[.int .u64 0, .int .u64 0, .int .u64 0, .int .u64 0], .int .i64 c, .agg #[.int .u64 0, .int .u64 0, .int .u64 0, .int .u64 0], .int .i64 c] w fun e w' => e = .returned (.bool true) ∧ Below w.heap.size w w' := by
  have hG := eqGuardF
  have hZ := eqF_zz
  have t0 : (c != 0) = true := by simp [hc]
  go_enter Try.func23, Try.ntmps23
  go_wp2_with fail
  refine (num_calls _ _).mono ?_
  rintro e w' ⟨rfl, rfl⟩
  go_wp2_with fail
  go_ret
  refine ⟨rfl, ?_⟩
  repeat (first | exact Below.refl _ _ | refine Below.setCell ?_ (by simp) _ | refine Below.alloc ?_ (by first | (simp; done) | (simp; omega)) _)
theorem same_gen (x0 x1 x2 x3 : Nat) (hx : ok4 x0 x1 x2 x3) (c : Int) (h : c = 0 ∨ c ≠ 0 ∧ val4 x0 x1 x2 x3 = 0) (w : World) :
    Calls Try.prog 23 #[.agg #[.int .u64 x0, .int .u64 x1, .int .u64 x2, .int .u64 x3], .int .i64 c, .agg #[.int .u64 x0, .int .u64 x1, .int .u64 x2, .int .u64 x3], .int .i64 c] w fun e w' => e = .returned (.bool true) ∧ Below w.heap.size w w' := by
  rcases h with rfl | ⟨hc, h⟩
  · exact same_ok x0 x1 x2 x3 w
  · obtain ⟨rfl, rfl, rfl, rfl⟩ := val4_inj hx zok (h.trans rfl)
    exact same_zero c hc w
set_option maxRecDepth 100000 in
set_option maxHeartbeats 16000000 in
theorem powers_ok (f : Int) (a0 a1 a2 a3 b0 b1 b2 b3 n0 n1 n2 n3 : Nat) (ha : ok4 a0 a1 a2 a3) (hb : ok4 b0 b1 b2 b3) (hn : ok4 n0 n1 n2 n3) (F : FC) (hf : FieldIs f F) (la : (val4 a0 a1 a2 a3) < F.M) (lb : (val4 b0 b1 b2 b3) < F.M) (w : World) :
    Calls Try.prog 3 #[.int .i64 f, .agg #[.int .u64 a0, .int .u64 a1, .int .u64 a2, .int .u64 a3], .agg #[.int .u64 b0, .int .u64 b1, .int .u64 b2, .int .u64 b3], .agg #[.int .u64 n0, .int .u64 n1, .int .u64 n2, .int .u64 n3]] w fun e w' => e = .returned (.bool true) ∧ Below w.heap.size w w' := by
  have hw0 : IntKind.i64.wrap 0 = 0 := by decide
  have hG := eqGuardF
  have hS := equalSelfF
  have hpos := hf.ok.pos
  have h2 := hf.ok.gt
  obtain ⟨gg, hroot⟩ := hf.root
  have HRt := Lib.hid hroot
  clear hroot
  obtain ⟨ci, Vi, i1, i2, i3⟩ := inv_both f F hf a0 a1 a2 a3 ha la
  have I1 := Lib.hid i1
  have I2 := Lib.hid i2
  have I3 := Lib.hid i3
  obtain ⟨cs, s1, s2, s3⟩ := sqrt_both f F hf a0 a1 a2 a3 ha la
  have S1 := Lib.hid s1
  have S2 := Lib.hid s2
  clear i1 i2 i3 s1 s2 s3
  obtain ⟨cd, Vd, Ud, d1, d2, d3, d4⟩ := div_both f F hf a0 a1 a2 a3 b0 b1 b2 b3 ha hb la lb
  have D1 := Lib.hid d1
  have D2 := Lib.hid d2
  have D3 := Lib.hid d3
  have D4 := Lib.hid d4
  clear d1 d2 d3 d4
  go_enter Try.func3, Try.ntmps3
  go_wp2_with fail
  have HM := Lib.hid ((((Mem.nil w).new (w.heap.size) a0 a1 a2 a3 25 (by simp)).new (w.heap.size + 1) b0 b1 b2 b3 25 (by simp)).new (w.heap.size + 1 + 1) n0 n1 n2 n3 26 (by simp))
  refine (rcheck_ok f F hf a0 a1 a2 a3 ha la _).mono ?_
  rintro e w1 ⟨rfl, hbl⟩
  have MP' := Lib.hid (HM.out.on hbl)
  clear hbl HM
  have MP := MP'
  clear MP'
  have HM := MP
  have kr := MP.out.row (b := w.heap.size) (c0 := a0) (c1 := a1) (c2 := a2) (c3 := a3) (by simp)
  have Fa0 := kr.c0; have Fa1 := kr.c1; have Fa2 := kr.c2; have Fa3 := kr.c3
  clear kr
  have Fal := MP.out.lt (b := w.heap.size) (c0 := a0) (c1 := a1) (c2 := a2) (c3 := a3) (by simp)
  have kr := MP.out.row (b := w.heap.size + 1 + 1) (c0 := n0) (c1 := n1) (c2 := n2) (c3 := n3) (by simp)
  have Fn0 := kr.c0; have Fn1 := kr.c1; have Fn2 := kr.c2; have Fn3 := kr.c3
  clear kr
  have Fnl := MP.out.lt (b := w.heap.size + 1 + 1) (c0 := n0) (c1 := n1) (c2 := n2) (c3 := n3) (by simp)
  go_wp2_with fail
  refine (fexp_ok f F hf a0 a1 a2 a3 n0 n1 n2 n3 ha hn la _).mono ?_
  rintro e w2 ⟨p0, p1, p2, p3, rfl, hp, hv, hbl⟩
  have Vp := Lib.hid hv
  clear hv
  have MP' := Lib.hid (HM.out.on hbl)
  clear hbl HM MP Fa0 Fa1 Fa2 Fa3 Fal Fn0 Fn1 Fn2 Fn3 Fnl
  have MP := MP'
  clear MP'
  have HM := Lib.hid (MP.out.new w2.heap.size p0 p1 p2 p3 25 rfl)
  have kr := MP.out.row (b := w.heap.size) (c0 := a0) (c1 := a1) (c2 := a2) (c3 := a3) (by simp)
  have Fa0 := kr.c0; have Fa1 := kr.c1; have Fa2 := kr.c2; have Fa3 := kr.c3
  clear kr
  have Fal := MP.out.lt (b := w.heap.size) (c0 := a0) (c1 := a1) (c2 := a2) (c3 := a3) (by simp)
  go_wp2_with fail
  refine (fleg_any f F hf a0 a1 a2 a3 ha la _).mono ?_
  rintro e w3 ⟨rfl, hbl⟩
  have MP' := Lib.hid (HM.out.on hbl)
  clear hbl HM MP Fa0 Fa1 Fa2 Fa3 Fal
  have MP := MP'
  clear MP'
  have HM := MP
  have kr := MP.out.row (b := w.heap.size) (c0 := a0) (c1 := a1) (c2 := a2) (c3 := a3) (by simp)
  have Fa0 := kr.c0; have Fa1 := kr.c1; have Fa2 := kr.c2; have Fa3 := kr.c3
  clear kr
  have Fal := MP.out.lt (b := w.heap.size) (c0 := a0) (c1 := a1) (c2 := a2) (c3 := a3) (by simp)
  go_wp2_with fail
  refine (flower_ok f F hf a0 a1 a2 a3 ha la _).mono ?_
  rintro e w4 ⟨rfl, hbl⟩
  have MP' := Lib.hid (HM.out.on hbl)
  clear hbl HM MP Fa0 Fa1 Fa2 Fa3 Fal
  have MP := MP'
  clear MP'
  have HM := MP
  have kr := MP.out.row (b := w.heap.size) (c0 := a0) (c1 := a1) (c2 := a2) (c3 := a3) (by simp)
  have Fa0 := kr.c0; have Fa1 := kr.c1; have Fa2 := kr.c2; have Fa3 := kr.c3
  clear kr
  have Fal := MP.out.lt (b := w.heap.size) (c0 := a0) (c1 := a1) (c2 := a2) (c3 := a3) (by simp)
  go_wp2_with fail
  refine (I1.out _).mono ?_
  rintro e w5 ⟨x0, x1, x2, x3, rfl, hx, hv, hbl⟩
  have Vx := Lib.hid hv
  clear hv
  have MP' := Lib.hid (HM.out.on hbl)
  clear hbl HM MP Fa0 Fa1 Fa2 Fa3 Fal
  have MP := MP'
  clear MP'
  have HM := Lib.hid (MP.out.new w5.heap.size x0 x1 x2 x3 25 rfl)
  have kr := MP.out.row (b := w.heap.size) (c0 := a0) (c1 := a1) (c2 := a2) (c3 := a3) (by simp)
  have Fa0 := kr.c0; have Fa1 := kr.c1; have Fa2 := kr.c2; have Fa3 := kr.c3
  clear kr
  have Fal := MP.out.lt (b := w.heap.size) (c0 := a0) (c1 := a1) (c2 := a2) (c3 := a3) (by simp)
  go_wp2_with fail
  refine (S1.out _).mono ?_
  rintro e w6 ⟨Vy, ⟨y0, y1, y2, y3, rfl, hy, hv, hbl⟩, hsr⟩
  have Qy := Lib.hid (show SqR F.M (val4 a0 a1 a2 a3) cs (val4 y0 y1 y2 y3) by rw [hv]; exact hsr)
  clear hv hsr
  have MP' := Lib.hid (HM.out.on hbl)
  clear hbl HM MP Fa0 Fa1 Fa2 Fa3 Fal
  have MP := MP'
  clear MP'
  have HM := Lib.hid (MP.out.new w6.heap.size y0 y1 y2 y3 25 rfl)
  have kr := MP.out.row (b := w.heap.size) (c0 := a0) (c1 := a1) (c2 := a2) (c3 := a3) (by simp)
  have Fa0 := kr.c0; have Fa1 := kr.c1; have Fa2 := kr.c2; have Fa3 := kr.c3
  clear kr
  have Fal := MP.out.lt (b := w.heap.size) (c0 := a0) (c1 := a1) (c2 := a2) (c3 := a3) (by simp)
  go_wp2_with fail
  refine (I2.out _).mono ?_
  rintro e w7 ⟨u0, u1, u2, u3, rfl, hu, hv, hbl⟩
  obtain ⟨rfl, rfl, rfl, rfl⟩ := val4_inj hx hu (Vx.out.trans hv.symm)
  clear hv hu
  have MP' := Lib.hid (HM.out.on hbl)
  clear hbl HM MP Fa0 Fa1 Fa2 Fa3 Fal
  have MP := MP'
  clear MP'
  have HM := Lib.hid (MP.out.new w7.heap.size x0 x1 x2 x3 25 rfl)
  have kr := MP.out.row (b := w.heap.size) (c0 := a0) (c1 := a1) (c2 := a2) (c3 := a3) (by simp)
  have Fa0 := kr.c0; have Fa1 := kr.c1; have Fa2 := kr.c2; have Fa3 := kr.c3
  clear kr
  have Fal := MP.out.lt (b := w.heap.size) (c0 := a0) (c1 := a1) (c2 := a2) (c3 := a3) (by simp)
  go_wp2_with fail
  refine (S2.out _).mono ?_
  rintro e w8 ⟨Vz, ⟨z0, z1, z2, z3, rfl, hz, hv, hbl⟩, hsr⟩
  obtain ⟨rfl, rfl, rfl, rfl⟩ := val4_inj hy hz (SqR.uniq HRt.out h2 Qy.out (by rw [hv]; exact hsr))
  clear hv hsr hz
  have MP' := Lib.hid (HM.out.on hbl)
  clear hbl HM MP Fa0 Fa1 Fa2 Fa3 Fal
  have MP := MP'
  clear MP'
  have HM := Lib.hid (MP.out.new w8.heap.size y0 y1 y2 y3 25 rfl)
  have Cx := Lib.hid (show ci = 0 ∨ ci ≠ 0 ∧ val4 x0 x1 x2 x3 = 0 by rw [Vx.out]; exact I3.out)
  have Cy := Lib.hid (show cs = 0 ∨ cs ≠ 0 ∧ val4 y0 y1 y2 y3 = 0 by rcases Qy.out with h | h; exact Or.inl h.1; exact Or.inr h)
  go_wp2_with fail
  clear MP
  refine region_till (fun wx => Mem w wx [(w8.heap.size, y0, y1, y2, y3), (w7.heap.size, x0, x1, x2, x3), (w6.heap.size, y0, y1, y2, y3), (w5.heap.size, x0, x1, x2, x3), (w2.heap.size, p0, p1, p2, p3), (w.heap.size + 1 + 1, n0, n1, n2, n3), (w.heap.size + 1, b0, b1, b2, b3), (w.heap.size, a0, a1, a2, a3)]) 99 (by kernel_rfl) ?_
  have HM' := Lib.hid (HM.out.drewN 1)
  clear HM
  have HM := HM'
  clear HM'
  have HS := HM.out.sub (rs' := [(w8.heap.size, y0, y1, y2, y3), (w7.heap.size, x0, x1, x2, x3), (w6.heap.size, y0, y1, y2, y3), (w5.heap.size, x0, x1, x2, x3), (w2.heap.size, p0, p1, p2, p3), (w.heap.size + 1 + 1, n0, n1, n2, n3), (w.heap.size + 1, b0, b1, b2, b3), (w.heap.size, a0, a1, a2, a3)]) (by simp)
  refine till_keep (i := 0) (v := .int .i64 0) rfl (by kernel_rfl) (by kernel_rfl) (by kernel_rfl) (Nat.le_of_ble_eq_true (by kernel_rfl)) (fun _ _ _ h => h) HS (Or.inl ⟨by kernel_rfl, fun wx hx => ?_⟩) ?_
  · clear HS hx
    go_simp
  simp only [Act.put, List.setIfInBounds_toArray, List.set_cons_zero, List.set_cons_succ]
  refine till_keep (i := 2) (v := .int .i64 0) rfl (by kernel_rfl) (by kernel_rfl) (by kernel_rfl) (Nat.le_of_ble_eq_true (by kernel_rfl)) (fun _ _ _ h => h) HS (Or.inl ⟨by kernel_rfl, fun wx hx => ?_⟩) ?_
  · clear HS hx
    go_simp
  simp only [Act.put, List.setIfInBounds_toArray, List.set_cons_zero, List.set_cons_succ]
  refine till_keep (i := 5) (v := .int .i64 0) rfl (by kernel_rfl) (by kernel_rfl) (by kernel_rfl) (Nat.le_of_ble_eq_true (by kernel_rfl)) (fun _ _ _ h => h) HS (Or.inl ⟨by kernel_rfl, fun wx hx => ?_⟩) ?_
  · clear HS hx
    go_simp
  simp only [Act.put, List.setIfInBounds_toArray, List.set_cons_zero, List.set_cons_succ]
  clear HS
  refine till_step (i := 1) (by kernel_rfl) rfl (fun K hK => ?_)
  go_simp
  refine (num_calls _ _).mono ?_
  rintro e wq ⟨rfl, rfl⟩
  have HS := HM.out.sub (rs' := [(w8.heap.size, y0, y1, y2, y3), (w7.heap.size, x0, x1, x2, x3), (w6.heap.size, y0, y1, y2, y3), (w5.heap.size, x0, x1, x2, x3), (w2.heap.size, p0, p1, p2, p3), (w.heap.size + 1 + 1, n0, n1, n2, n3), (w.heap.size + 1, b0, b1, b2, b3), (w.heap.size, a0, a1, a2, a3)]) (by simp)
  refine hK.out _ _ (Or.inr HS) (fun _ => ?_)
  clear hK K
  clear HS
  refine till_step (i := 3) (by kernel_rfl) rfl (fun K hK => ?_)
  go_simp
  refine (num_calls _ _).mono ?_
  rintro e wq ⟨rfl, rfl⟩
  have HS := HM.out.sub (rs' := [(w8.heap.size, y0, y1, y2, y3), (w7.heap.size, x0, x1, x2, x3), (w6.heap.size, y0, y1, y2, y3), (w5.heap.size, x0, x1, x2, x3), (w2.heap.size, p0, p1, p2, p3), (w.heap.size + 1 + 1, n0, n1, n2, n3), (w.heap.size + 1, b0, b1, b2, b3), (w.heap.size, a0, a1, a2, a3)]) (by simp)
  refine hK.out _ _ (Or.inr HS) (fun _ => ?_)
  clear hK K
  refine till_keep (i := 4) (v := .int .i64 0) rfl (by kernel_rfl) (by kernel_rfl) (by kernel_rfl) (Nat.le_of_ble_eq_true (by kernel_rfl)) (fun _ _ _ h => h) HS (Or.inl ⟨by kernel_rfl, fun wx hx => ?_⟩) ?_
  · clear HS hx
    go_simp
  simp only [Act.put, List.setIfInBounds_toArray, List.set_cons_zero, List.set_cons_succ]
  clear HS
  refine till_step (i := 6) (by kernel_rfl) rfl (fun K hK => ?_)
  go_simp
  refine (num_calls _ _).mono ?_
  rintro e wq ⟨rfl, rfl⟩
  have HS := HM.out.sub (rs' := [(w8.heap.size, y0, y1, y2, y3), (w7.heap.size, x0, x1, x2, x3), (w6.heap.size, y0, y1, y2, y3), (w5.heap.size, x0, x1, x2, x3), (w2.heap.size, p0, p1, p2, p3), (w.heap.size + 1 + 1, n0, n1, n2, n3), (w.heap.size + 1, b0, b1, b2, b3), (w.heap.size, a0, a1, a2, a3)]) (by simp)
  refine hK.out _ _ (Or.inr HS) (fun _ => ?_)
  clear hK K
  refine till_keep (i := 7) (v := .int .i64 0) rfl (by kernel_rfl) (by kernel_rfl) (by kernel_rfl) (Nat.le_of_ble_eq_true (by kernel_rfl)) (fun _ _ _ h => h) HS (Or.inl ⟨by kernel_rfl, fun wx hx => ?_⟩) ?_
  · clear HS hx
    go_simp
  simp only [Act.put, List.setIfInBounds_toArray, List.set_cons_zero, List.set_cons_succ]
  refine till_keep (i := 8) (v := .bool false) rfl (by kernel_rfl) (by kernel_rfl) (by kernel_rfl) (Nat.le_of_ble_eq_true (by kernel_rfl)) (fun _ _ _ h => h) HS (Or.inl ⟨by kernel_rfl, fun wx hx => ?_⟩) ?_
  · clear HS hx
    go_simp
  simp only [Act.put, List.setIfInBounds_toArray, List.set_cons_zero, List.set_cons_succ]
  refine till_keep (i := 9) (v := .bool false) rfl (by kernel_rfl) (by kernel_rfl) (by kernel_rfl) (Nat.le_of_ble_eq_true (by kernel_rfl)) (fun _ _ _ h => h) HS (Or.inl ⟨by kernel_rfl, fun wx hx => ?_⟩) ?_
  · clear HS hx
    go_simp
  simp only [Act.put, List.setIfInBounds_toArray, List.set_cons_zero, List.set_cons_succ]
  refine till_keep (i := 10) (v := .agg #[.int .u64 p0, .int .u64 p1, .int .u64 p2, .int .u64 p3]) rfl (by kernel_rfl) (by kernel_rfl) (by kernel_rfl) (Nat.le_of_ble_eq_true (by kernel_rfl)) (fun _ _ _ h => h) HS (Or.inl ⟨by kernel_rfl, fun wx hx => ?_⟩) ?_
  · have kr := hx.row (b := w2.heap.size) (c0 := p0) (c1 := p1) (c2 := p2) (c3 := p3) (by simp)
    have x0' := kr.c0; have x1' := kr.c1; have x2' := kr.c2; have x3' := kr.c3
    clear kr HS hx
    go_simp
  simp only [Act.put, List.setIfInBounds_toArray, List.set_cons_zero, List.set_cons_succ]
  refine till_keep (i := 11) (v := .int .i64 f) rfl (by kernel_rfl) (by kernel_rfl) (by kernel_rfl) (Nat.le_of_ble_eq_true (by kernel_rfl)) (fun _ _ _ h => h) HS (Or.inl ⟨by kernel_rfl, fun wx hx => ?_⟩) ?_
  · clear HS hx
    go_simp
  simp only [Act.put, List.setIfInBounds_toArray, List.set_cons_zero, List.set_cons_succ]
  refine till_keep (i := 12) (v := .agg #[.int .u64 a0, .int .u64 a1, .int .u64 a2, .int .u64 a3]) rfl (by kernel_rfl) (by kernel_rfl) (by kernel_rfl) (Nat.le_of_ble_eq_true (by kernel_rfl)) (fun _ _ _ h => h) HS (Or.inl ⟨by kernel_rfl, fun wx hx => ?_⟩) ?_
  · have kr := hx.row (b := w.heap.size) (c0 := a0) (c1 := a1) (c2 := a2) (c3 := a3) (by simp)
    have x0' := kr.c0; have x1' := kr.c1; have x2' := kr.c2; have x3' := kr.c3
    clear kr HS hx
    go_simp
  simp only [Act.put, List.setIfInBounds_toArray, List.set_cons_zero, List.set_cons_succ]
  refine till_keep (i := 13) (v := .agg #[.int .u64 n0, .int .u64 n1, .int .u64 n2, .int .u64 n3]) rfl (by kernel_rfl) (by kernel_rfl) (by kernel_rfl) (Nat.le_of_ble_eq_true (by kernel_rfl)) (fun _ _ _ h => h) HS (Or.inl ⟨by kernel_rfl, fun wx hx => ?_⟩) ?_
  · have kr := hx.row (b := w.heap.size + 1 + 1) (c0 := n0) (c1 := n1) (c2 := n2) (c3 := n3) (by simp)
    have x0' := kr.c0; have x1' := kr.c1; have x2' := kr.c2; have x3' := kr.c3
    clear kr HS hx
    go_simp
  simp only [Act.put, List.setIfInBounds_toArray, List.set_cons_zero, List.set_cons_succ]
  clear HS
  refine till_step (i := 14) (by kernel_rfl) rfl (fun K hK => ?_)
  go_simp
  refine (rexp_calls f F hf a0 a1 a2 a3 n0 n1 n2 n3 ha hn _).mono ?_
  rintro e wq ⟨q0, q1, q2, q3, rfl, hq, hv, hbl⟩
  obtain ⟨rfl, rfl, rfl, rfl⟩ := val4_inj hp hq (Vp.out.trans hv.symm)
  clear hv hq
  have HM' := Lib.hid (HM.out.on hbl)
  clear HM hbl
  have HM := HM'
  clear HM'
  have HS := HM.out.sub (rs' := [(w8.heap.size, y0, y1, y2, y3), (w7.heap.size, x0, x1, x2, x3), (w6.heap.size, y0, y1, y2, y3), (w5.heap.size, x0, x1, x2, x3), (w2.heap.size, p0, p1, p2, p3), (w.heap.size + 1 + 1, n0, n1, n2, n3), (w.heap.size + 1, b0, b1, b2, b3), (w.heap.size, a0, a1, a2, a3)]) (by simp)
  refine hK.out _ _ (Or.inr HS) (fun _ => ?_)
  clear hK K
  refine till_keep (i := 15) (v := .bool false) rfl (by kernel_rfl) (by kernel_rfl) (by kernel_rfl) (Nat.le_of_ble_eq_true (by kernel_rfl)) (fun _ _ _ h => h) HS (Or.inl ⟨by kernel_rfl, fun wx hx => ?_⟩) ?_
  · clear HS hx
    go_simp
  simp only [Act.put, List.setIfInBounds_toArray, List.set_cons_zero, List.set_cons_succ]
  refine till_keep (i := 16) (v := .bool false) rfl (by kernel_rfl) (by kernel_rfl) (by kernel_rfl) (Nat.le_of_ble_eq_true (by kernel_rfl)) (fun _ _ _ h => h) HS (Or.inl ⟨by kernel_rfl, fun wx hx => ?_⟩) ?_
  · clear HS hx
    go_simp
  simp only [Act.put, List.setIfInBounds_toArray, List.set_cons_zero, List.set_cons_succ]
  refine till_keep (i := 17) (v := .bool false) rfl (by kernel_rfl) (by kernel_rfl) (by kernel_rfl) (Nat.le_of_ble_eq_true (by kernel_rfl)) (fun _ _ _ h => h) HS (Or.inl ⟨by kernel_rfl, fun wx hx => ?_⟩) ?_
  · clear HS hx
    go_simp
  simp only [Act.put, List.setIfInBounds_toArray, List.set_cons_zero, List.set_cons_succ]
  refine till_keep (i := 18) (v := .int .i64 (legN F.M (val4 a0 a1 a2 a3))) rfl (by kernel_rfl) (by kernel_rfl) (by kernel_rfl) (Nat.le_of_ble_eq_true (by kernel_rfl)) (fun _ _ _ h => h) HS (Or.inl ⟨by kernel_rfl, fun wx hx => ?_⟩) ?_
  · clear HS hx
    go_simp
  simp only [Act.put, List.setIfInBounds_toArray, List.set_cons_zero, List.set_cons_succ]
  refine till_keep (i := 19) (v := .int .i64 f) rfl (by kernel_rfl) (by kernel_rfl) (by kernel_rfl) (Nat.le_of_ble_eq_true (by kernel_rfl)) (fun _ _ _ h => h) HS (Or.inl ⟨by kernel_rfl, fun wx hx => ?_⟩) ?_
  · clear HS hx
    go_simp
  simp only [Act.put, List.setIfInBounds_toArray, List.set_cons_zero, List.set_cons_succ]
  refine till_keep (i := 20) (v := .agg #[.int .u64 a0, .int .u64 a1, .int .u64 a2, .int .u64 a3]) rfl (by kernel_rfl) (by kernel_rfl) (by kernel_rfl) (Nat.le_of_ble_eq_true (by kernel_rfl)) (fun _ _ _ h => h) HS (Or.inl ⟨by kernel_rfl, fun wx hx => ?_⟩) ?_
  · have kr := hx.row (b := w.heap.size) (c0 := a0) (c1 := a1) (c2 := a2) (c3 := a3) (by simp)
    have x0' := kr.c0; have x1' := kr.c1; have x2' := kr.c2; have x3' := kr.c3
    clear kr HS hx
    go_simp
  simp only [Act.put, List.setIfInBounds_toArray, List.set_cons_zero, List.set_cons_succ]
  clear HS
  refine till_step (i := 21) (by kernel_rfl) rfl (fun K hK => ?_)
  go_simp
  refine (rlegN_calls f F hf a0 a1 a2 a3 ha la _).mono ?_
  rintro e wq ⟨rfl, hbl⟩
  have HM' := Lib.hid (HM.out.on hbl)
  clear HM hbl
  have HM := HM'
  clear HM'
  have HS := HM.out.sub (rs' := [(w8.heap.size, y0, y1, y2, y3), (w7.heap.size, x0, x1, x2, x3), (w6.heap.size, y0, y1, y2, y3), (w5.heap.size, x0, x1, x2, x3), (w2.heap.size, p0, p1, p2, p3), (w.heap.size + 1 + 1, n0, n1, n2, n3), (w.heap.size + 1, b0, b1, b2, b3), (w.heap.size, a0, a1, a2, a3)]) (by simp)
  refine hK.out _ _ (Or.inr HS) (fun _ => ?_)
  clear hK K
  refine till_keep (i := 22) (v := .bool false) rfl (by kernel_rfl) (by kernel_rfl) (by kernel_rfl) (Nat.le_of_ble_eq_true (by kernel_rfl)) (fun _ _ _ h => h) HS (Or.inl ⟨by kernel_rfl, fun wx hx => ?_⟩) ?_
  · clear HS hx
    go_simp
  simp only [Act.put, List.setIfInBounds_toArray, List.set_cons_zero, List.set_cons_succ]
  refine till_keep (i := 23) (v := .bool false) rfl (by kernel_rfl) (by kernel_rfl) (by kernel_rfl) (Nat.le_of_ble_eq_true (by kernel_rfl)) (fun _ _ _ h => h) HS (Or.inl ⟨by kernel_rfl, fun wx hx => ?_⟩) ?_
  · clear HS hx
    go_simp
  simp only [Act.put, List.setIfInBounds_toArray, List.set_cons_zero, List.set_cons_succ]
  refine till_keep (i := 24) (v := .bool false) rfl (by kernel_rfl) (by kernel_rfl) (by kernel_rfl) (Nat.le_of_ble_eq_true (by kernel_rfl)) (fun _ _ _ h => h) HS (Or.inl ⟨by kernel_rfl, fun wx hx => ?_⟩) ?_
  · clear HS hx
    go_simp
  simp only [Act.put, List.setIfInBounds_toArray, List.set_cons_zero, List.set_cons_succ]
  refine till_keep (i := 25) (v := .bool (lowB F.M (val4 a0 a1 a2 a3))) rfl (by kernel_rfl) (by kernel_rfl) (by kernel_rfl) (Nat.le_of_ble_eq_true (by kernel_rfl)) (fun _ _ _ h => h) HS (Or.inl ⟨by kernel_rfl, fun wx hx => ?_⟩) ?_
  · clear HS hx
    go_simp
  simp only [Act.put, List.setIfInBounds_toArray, List.set_cons_zero, List.set_cons_succ]
  refine till_keep (i := 26) (v := .int .i64 f) rfl (by kernel_rfl) (by kernel_rfl) (by kernel_rfl) (Nat.le_of_ble_eq_true (by kernel_rfl)) (fun _ _ _ h => h) HS (Or.inl ⟨by kernel_rfl, fun wx hx => ?_⟩) ?_
  · clear HS hx
    go_simp
  simp only [Act.put, List.setIfInBounds_toArray, List.set_cons_zero, List.set_cons_succ]
  refine till_keep (i := 27) (v := .agg #[.int .u64 a0, .int .u64 a1, .int .u64 a2, .int .u64 a3]) rfl (by kernel_rfl) (by kernel_rfl) (by kernel_rfl) (Nat.le_of_ble_eq_true (by kernel_rfl)) (fun _ _ _ h => h) HS (Or.inl ⟨by kernel_rfl, fun wx hx => ?_⟩) ?_
  · have kr := hx.row (b := w.heap.size) (c0 := a0) (c1 := a1) (c2 := a2) (c3 := a3) (by simp)
    have x0' := kr.c0; have x1' := kr.c1; have x2' := kr.c2; have x3' := kr.c3
    clear kr HS hx
    go_simp
  simp only [Act.put, List.setIfInBounds_toArray, List.set_cons_zero, List.set_cons_succ]
  clear HS
  refine till_step (i := 28) (by kernel_rfl) rfl (fun K hK => ?_)
  go_simp
  refine (rlower_calls f F hf a0 a1 a2 a3 ha la _).mono ?_
  rintro e wq ⟨rfl, hbl⟩
  have HM' := Lib.hid (HM.out.on hbl)
  clear HM hbl
  have HM := HM'
  clear HM'
  have HS := HM.out.sub (rs' := [(w8.heap.size, y0, y1, y2, y3), (w7.heap.size, x0, x1, x2, x3), (w6.heap.size, y0, y1, y2, y3), (w5.heap.size, x0, x1, x2, x3), (w2.heap.size, p0, p1, p2, p3), (w.heap.size + 1 + 1, n0, n1, n2, n3), (w.heap.size + 1, b0, b1, b2, b3), (w.heap.size, a0, a1, a2, a3)]) (by simp)
  refine hK.out _ _ (Or.inr HS) (fun _ => ?_)
  clear hK K
  refine till_keep (i := 29) (v := .bool false) rfl (by kernel_rfl) (by kernel_rfl) (by kernel_rfl) (Nat.le_of_ble_eq_true (by kernel_rfl)) (fun _ _ _ h => h) HS (Or.inl ⟨by kernel_rfl, fun wx hx => ?_⟩) ?_
  · clear HS hx
    go_simp
  simp only [Act.put, List.setIfInBounds_toArray, List.set_cons_zero, List.set_cons_succ]
  refine till_keep (i := 30) (v := .bool false) rfl (by kernel_rfl) (by kernel_rfl) (by kernel_rfl) (Nat.le_of_ble_eq_true (by kernel_rfl)) (fun _ _ _ h => h) HS (Or.inl ⟨by kernel_rfl, fun wx hx => ?_⟩) ?_
  · clear HS hx
    go_simp
  simp only [Act.put, List.setIfInBounds_toArray, List.set_cons_zero, List.set_cons_succ]
  refine till_keep (i := 31) (v := .bool false) rfl (by kernel_rfl) (by kernel_rfl) (by kernel_rfl) (Nat.le_of_ble_eq_true (by kernel_rfl)) (fun _ _ _ h => h) HS (Or.inl ⟨by kernel_rfl, fun wx hx => ?_⟩) ?_
  · clear HS hx
    go_simp
  simp only [Act.put, List.setIfInBounds_toArray, List.set_cons_zero, List.set_cons_succ]
  refine till_keep (i := 32) (v := .agg #[.int .u64 x0, .int .u64 x1, .int .u64 x2, .int .u64 x3]) rfl (by kernel_rfl) (by kernel_rfl) (by kernel_rfl) (Nat.le_of_ble_eq_true (by kernel_rfl)) (fun _ _ _ h => h) HS (Or.inl ⟨by kernel_rfl, fun wx hx => ?_⟩) ?_
  · have kr := hx.row (b := w5.heap.size) (c0 := x0) (c1 := x1) (c2 := x2) (c3 := x3) (by simp)
    have x0' := kr.c0; have x1' := kr.c1; have x2' := kr.c2; have x3' := kr.c3
    clear kr HS hx
    go_simp
  simp only [Act.put, List.setIfInBounds_toArray, List.set_cons_zero, List.set_cons_succ]
  refine till_keep (i := 33) (v := .int .i64 ci) rfl (by kernel_rfl) (by kernel_rfl) (by kernel_rfl) (Nat.le_of_ble_eq_true (by kernel_rfl)) (fun _ _ _ h => h) HS (Or.inl ⟨by kernel_rfl, fun wx hx => ?_⟩) ?_
  · clear HS hx
    go_simp
  simp only [Act.put, List.setIfInBounds_toArray, List.set_cons_zero, List.set_cons_succ]
  refine till_keep (i := 34) (v := .agg #[.int .u64 x0, .int .u64 x1, .int .u64 x2, .int .u64 x3]) rfl (by kernel_rfl) (by kernel_rfl) (by kernel_rfl) (Nat.le_of_ble_eq_true (by kernel_rfl)) (fun _ _ _ h => h) HS (Or.inl ⟨by kernel_rfl, fun wx hx => ?_⟩) ?_
  · have kr := hx.row (b := w7.heap.size) (c0 := x0) (c1 := x1) (c2 := x2) (c3 := x3) (by simp)
    have x0' := kr.c0; have x1' := kr.c1; have x2' := kr.c2; have x3' := kr.c3
    clear kr HS hx
    go_simp
  simp only [Act.put, List.setIfInBounds_toArray, List.set_cons_zero, List.set_cons_succ]
  refine till_keep (i := 35) (v := .int .i64 ci) rfl (by kernel_rfl) (by kernel_rfl) (by kernel_rfl) (Nat.le_of_ble_eq_true (by kernel_rfl)) (fun _ _ _ h => h) HS (Or.inl ⟨by kernel_rfl, fun wx hx => ?_⟩) ?_
  · clear HS hx
    go_simp
  simp only [Act.put, List.setIfInBounds_toArray, List.set_cons_zero, List.set_cons_succ]
  clear HS
  refine till_step (i := 36) (by kernel_rfl) rfl (fun K hK => ?_)
  go_simp
  refine (same_gen x0 x1 x2 x3 hx ci Cx.out _).mono ?_
  rintro e wq ⟨rfl, hbl⟩
  have HM' := Lib.hid (HM.out.on hbl)
  clear HM hbl
  have HM := HM'
  clear HM'
  have HS := HM.out.sub (rs' := [(w8.heap.size, y0, y1, y2, y3), (w7.heap.size, x0, x1, x2, x3), (w6.heap.size, y0, y1, y2, y3), (w5.heap.size, x0, x1, x2, x3), (w2.heap.size, p0, p1, p2, p3), (w.heap.size + 1 + 1, n0, n1, n2, n3), (w.heap.size + 1, b0, b1, b2, b3), (w.heap.size, a0, a1, a2, a3)]) (by simp)
  refine hK.out _ _ (Or.inr HS) (fun _ => ?_)
  clear hK K
  refine till_keep (i := 37) (v := .bool false) rfl (by kernel_rfl) (by kernel_rfl) (by kernel_rfl) (Nat.le_of_ble_eq_true (by kernel_rfl)) (fun _ _ _ h => h) HS (Or.inl ⟨by kernel_rfl, fun wx hx => ?_⟩) ?_
  · clear HS hx
    go_simp
  simp only [Act.put, List.setIfInBounds_toArray, List.set_cons_zero, List.set_cons_succ]
  refine till_keep (i := 38) (v := .bool false) rfl (by kernel_rfl) (by kernel_rfl) (by kernel_rfl) (Nat.le_of_ble_eq_true (by kernel_rfl)) (fun _ _ _ h => h) HS (Or.inl ⟨by kernel_rfl, fun wx hx => ?_⟩) ?_
  · clear HS hx
    go_simp
  simp only [Act.put, List.setIfInBounds_toArray, List.set_cons_zero, List.set_cons_succ]
  refine till_keep (i := 39) (v := .bool false) rfl (by kernel_rfl) (by kernel_rfl) (by kernel_rfl) (Nat.le_of_ble_eq_true (by kernel_rfl)) (fun _ _ _ h => h) HS (Or.inl ⟨by kernel_rfl, fun wx hx => ?_⟩) ?_
  · clear HS hx
    go_simp
  simp only [Act.put, List.setIfInBounds_toArray, List.set_cons_zero, List.set_cons_succ]
  refine till_keep (i := 40) (v := .agg #[.int .u64 y0, .int .u64 y1, .int .u64 y2, .int .u64 y3]) rfl (by kernel_rfl) (by kernel_rfl) (by kernel_rfl) (Nat.le_of_ble_eq_true (by kernel_rfl)) (fun _ _ _ h => h) HS (Or.inl ⟨by kernel_rfl, fun wx hx => ?_⟩) ?_
  · have kr := hx.row (b := w6.heap.size) (c0 := y0) (c1 := y1) (c2 := y2) (c3 := y3) (by simp)
    have x0' := kr.c0; have x1' := kr.c1; have x2' := kr.c2; have x3' := kr.c3
    clear kr HS hx
    go_simp
  simp only [Act.put, List.setIfInBounds_toArray, List.set_cons_zero, List.set_cons_succ]
  refine till_keep (i := 41) (v := .int .i64 cs) rfl (by kernel_rfl) (by kernel_rfl) (by kernel_rfl) (Nat.le_of_ble_eq_true (by kernel_rfl)) (fun _ _ _ h => h) HS (Or.inl ⟨by kernel_rfl, fun wx hx => ?_⟩) ?_
  · clear HS hx
    go_simp
  simp only [Act.put, List.setIfInBounds_toArray, List.set_cons_zero, List.set_cons_succ]
  refine till_keep (i := 42) (v := .agg #[.int .u64 y0, .int .u64 y1, .int .u64 y2, .int .u64 y3]) rfl (by kernel_rfl) (by kernel_rfl) (by kernel_rfl) (Nat.le_of_ble_eq_true (by kernel_rfl)) (fun _ _ _ h => h) HS (Or.inl ⟨by kernel_rfl, fun wx hx => ?_⟩) ?_
  · have kr := hx.row (b := w8.heap.size) (c0 := y0) (c1 := y1) (c2 := y2) (c3 := y3) (by simp)
    have x0' := kr.c0; have x1' := kr.c1; have x2' := kr.c2; have x3' := kr.c3
    clear kr HS hx
    go_simp
  simp only [Act.put, List.setIfInBounds_toArray, List.set_cons_zero, List.set_cons_succ]
  refine till_keep (i := 43) (v := .int .i64 cs) rfl (by kernel_rfl) (by kernel_rfl) (by kernel_rfl) (Nat.le_of_ble_eq_true (by kernel_rfl)) (fun _ _ _ h => h) HS (Or.inl ⟨by kernel_rfl, fun wx hx => ?_⟩) ?_
  · clear HS hx
    go_simp
  simp only [Act.put, List.setIfInBounds_toArray, List.set_cons_zero, List.set_cons_succ]
  clear HS
  refine till_step (i := 44) (by kernel_rfl) rfl (fun K hK => ?_)
  go_simp
  refine (same_gen y0 y1 y2 y3 hy cs Cy.out _).mono ?_
  rintro e wq ⟨rfl, hbl⟩
  have HM' := Lib.hid (HM.out.on hbl)
  clear HM hbl
  have HM := HM'
  clear HM'
  have HS := HM.out.sub (rs' := [(w8.heap.size, y0, y1, y2, y3), (w7.heap.size, x0, x1, x2, x3), (w6.heap.size, y0, y1, y2, y3), (w5.heap.size, x0, x1, x2, x3), (w2.heap.size, p0, p1, p2, p3), (w.heap.size + 1 + 1, n0, n1, n2, n3), (w.heap.size + 1, b0, b1, b2, b3), (w.heap.size, a0, a1, a2, a3)]) (by simp)
  refine hK.out _ _ (Or.inr HS) (fun _ => ?_)
  clear hK K
  refine till_keep (i := 45) (v := .bool false) rfl (by kernel_rfl) (by kernel_rfl) (by kernel_rfl) (Nat.le_of_ble_eq_true (by kernel_rfl)) (fun _ _ _ h => h) HS (Or.inl ⟨by kernel_rfl, fun wx hx => ?_⟩) ?_
  · clear HS hx
    go_simp
  simp only [Act.put, List.setIfInBounds_toArray, List.set_cons_zero, List.set_cons_succ]
  have HS' := HS
  clear HS
  refine till_step (i := 46) (by kernel_rfl) rfl (fun K hK => ?_)
  go_simp
  refine hK.out _ _ (Or.inr HS') (fun _ => ?_)
  clear hK K HS'
  refine till_done (by kernel_rfl) ?_
  have MP := HM
  have kr := MP.out.row (b := w.heap.size) (c0 := a0) (c1 := a1) (c2 := a2) (c3 := a3) (by simp)
  have Fa0 := kr.c0; have Fa1 := kr.c1; have Fa2 := kr.c2; have Fa3 := kr.c3
  clear kr
  have Fal := MP.out.lt (b := w.heap.size) (c0 := a0) (c1 := a1) (c2 := a2) (c3 := a3) (by simp)
  have kr := MP.out.row (b := w.heap.size + 1) (c0 := b0) (c1 := b1) (c2 := b2) (c3 := b3) (by simp)
  have Fb0 := kr.c0; have Fb1 := kr.c1; have Fb2 := kr.c2; have Fb3 := kr.c3
  clear kr
  have Fbl := MP.out.lt (b := w.heap.size + 1) (c0 := b0) (c1 := b1) (c2 := b2) (c3 := b3) (by simp)
  go_wp2_with fail
  refine (D1.out _).mono ?_
  rintro e w9 ⟨d0, d1, d2, d3, rfl, hd, hv, hbl⟩
  have Vd := Lib.hid hv
  clear hv
  have MP' := Lib.hid (HM.out.on hbl)
  clear hbl HM MP Fa0 Fa1 Fa2 Fa3 Fal Fb0 Fb1 Fb2 Fb3 Fbl
  have MP := MP'
  clear MP'
  have HM := Lib.hid (MP.out.new w9.heap.size d0 d1 d2 d3 25 rfl)
  have kr := MP.out.row (b := w.heap.size + 1) (c0 := b0) (c1 := b1) (c2 := b2) (c3 := b3) (by simp)
  have Fb0 := kr.c0; have Fb1 := kr.c1; have Fb2 := kr.c2; have Fb3 := kr.c3
  clear kr
  have Fbl := MP.out.lt (b := w.heap.size + 1) (c0 := b0) (c1 := b1) (c2 := b2) (c3 := b3) (by simp)
  go_wp2_with fail
  refine (rcheck_ok f F hf b0 b1 b2 b3 hb lb _).mono ?_
  rintro e w10 ⟨rfl, hbl⟩
  have MP' := Lib.hid (HM.out.on hbl)
  clear hbl HM MP Fb0 Fb1 Fb2 Fb3 Fbl
  have MP := MP'
  clear MP'
  have HM := MP
  have kr := MP.out.row (b := w.heap.size + 1) (c0 := b0) (c1 := b1) (c2 := b2) (c3 := b3) (by simp)
  have Fb0 := kr.c0; have Fb1 := kr.c1; have Fb2 := kr.c2; have Fb3 := kr.c3
  clear kr
  have Fbl := MP.out.lt (b := w.heap.size + 1) (c0 := b0) (c1 := b1) (c2 := b2) (c3 := b3) (by simp)
  go_wp2_with fail
  refine (D2.out _).mono ?_
  rintro e w11 ⟨k0, k1, k2, k3, rfl, hk, hv, hbl⟩
  have Vk := Lib.hid hv
  clear hv
  have MP' := Lib.hid (HM.out.on hbl)
  clear hbl HM MP Fb0 Fb1 Fb2 Fb3 Fbl
  have MP := MP'
  clear MP'
  have HM := Lib.hid (MP.out.new w11.heap.size k0 k1 k2 k3 25 rfl)
  have Cd := Lib.hid (show cd = 0 ∨ cd ≠ 0 ∧ val4 d0 d1 d2 d3 = 0 by rw [Vd.out]; exact D3.out)
  go_wp2_with fail
  clear MP
  refine region_till (fun wx => Mem w wx [(w11.heap.size, k0, k1, k2, k3), (w9.heap.size, d0, d1, d2, d3), (w8.heap.size, y0, y1, y2, y3), (w7.heap.size, x0, x1, x2, x3), (w6.heap.size, y0, y1, y2, y3), (w5.heap.size, x0, x1, x2, x3), (w2.heap.size, p0, p1, p2, p3), (w.heap.size + 1 + 1, n0, n1, n2, n3), (w.heap.size + 1, b0, b1, b2, b3), (w.heap.size, a0, a1, a2, a3)]) 99 (by kernel_rfl) ?_
  have HM' := Lib.hid (HM.out.drewN 1)
  clear HM
  have HM := HM'
  clear HM'
  have HS := HM.out.sub (rs' := [(w11.heap.size, k0, k1, k2, k3), (w9.heap.size, d0, d1, d2, d3), (w8.heap.size, y0, y1, y2, y3), (w7.heap.size, x0, x1, x2, x3), (w6.heap.size, y0, y1, y2, y3), (w5.heap.size, x0, x1, x2, x3), (w2.heap.size, p0, p1, p2, p3), (w.heap.size + 1 + 1, n0, n1, n2, n3), (w.heap.size + 1, b0, b1, b2, b3), (w.heap.size, a0, a1, a2, a3)]) (by simp)
  refine till_keep (i := 0) (v := .agg #[.int .u64 d0, .int .u64 d1, .int .u64 d2, .int .u64 d3]) rfl (by kernel_rfl) (by kernel_rfl) (by kernel_rfl) (Nat.le_of_ble_eq_true (by kernel_rfl)) (fun _ _ _ h => h) HS (Or.inl ⟨by kernel_rfl, fun wx hx => ?_⟩) ?_
  · have kr := hx.row (b := w9.heap.size) (c0 := d0) (c1 := d1) (c2 := d2) (c3 := d3) (by simp)
    have x0' := kr.c0; have x1' := kr.c1; have x2' := kr.c2; have x3' := kr.c3
    clear kr HS hx
    go_simp
  simp only [Act.put, List.setIfInBounds_toArray, List.set_cons_zero, List.set_cons_succ]
  refine till_keep (i := 1) (v := .int .i64 cd) rfl (by kernel_rfl) (by kernel_rfl) (by kernel_rfl) (Nat.le_of_ble_eq_true (by kernel_rfl)) (fun _ _ _ h => h) HS (Or.inl ⟨by kernel_rfl, fun wx hx => ?_⟩) ?_
  · clear HS hx
    go_simp
  simp only [Act.put, List.setIfInBounds_toArray, List.set_cons_zero, List.set_cons_succ]
  refine till_keep (i := 2) (v := .int .i64 f) rfl (by kernel_rfl) (by kernel_rfl) (by kernel_rfl) (Nat.le_of_ble_eq_true (by kernel_rfl)) (fun _ _ _ h => h) HS (Or.inl ⟨by kernel_rfl, fun wx hx => ?_⟩) ?_
  · clear HS hx
    go_simp
  simp only [Act.put, List.setIfInBounds_toArray, List.set_cons_zero, List.set_cons_succ]
  refine till_keep (i := 3) (v := .agg #[.int .u64 a0, .int .u64 a1, .int .u64 a2, .int .u64 a3]) rfl (by kernel_rfl) (by kernel_rfl) (by kernel_rfl) (Nat.le_of_ble_eq_true (by kernel_rfl)) (fun _ _ _ h => h) HS (Or.inl ⟨by kernel_rfl, fun wx hx => ?_⟩) ?_
  · have kr := hx.row (b := w.heap.size) (c0 := a0) (c1 := a1) (c2 := a2) (c3 := a3) (by simp)
    have x0' := kr.c0; have x1' := kr.c1; have x2' := kr.c2; have x3' := kr.c3
    clear kr HS hx
    go_simp
  simp only [Act.put, List.setIfInBounds_toArray, List.set_cons_zero, List.set_cons_succ]
  refine till_keep (i := 4) (v := .agg #[.int .u64 k0, .int .u64 k1, .int .u64 k2, .int .u64 k3]) rfl (by kernel_rfl) (by kernel_rfl) (by kernel_rfl) (Nat.le_of_ble_eq_true (by kernel_rfl)) (fun _ _ _ h => h) HS (Or.inl ⟨by kernel_rfl, fun wx hx => ?_⟩) ?_
  · have kr := hx.row (b := w11.heap.size) (c0 := k0) (c1 := k1) (c2 := k2) (c3 := k3) (by simp)
    have x0' := kr.c0; have x1' := kr.c1; have x2' := kr.c2; have x3' := kr.c3
    clear kr HS hx
    go_simp
  simp only [Act.put, List.setIfInBounds_toArray, List.set_cons_zero, List.set_cons_succ]
  refine till_keep (i := 6) (v := .int .i64 cd) rfl (by kernel_rfl) (by kernel_rfl) (by kernel_rfl) (Nat.le_of_ble_eq_true (by kernel_rfl)) (fun _ _ _ h => h) HS (Or.inl ⟨by kernel_rfl, fun wx hx => ?_⟩) ?_
  · clear HS hx
    go_simp
  simp only [Act.put, List.setIfInBounds_toArray, List.set_cons_zero, List.set_cons_succ]
  clear HS
  refine till_step (i := 5) (by kernel_rfl) rfl (fun K hK => ?_)
  go_simp
  refine (rmul_calls f F hf a0 a1 a2 a3 k0 k1 k2 k3 ha hk _).mono ?_
  rintro e wq ⟨q0, q1, q2, q3, rfl, hq, hv, hbl⟩
  obtain ⟨rfl, rfl, rfl, rfl⟩ := val4_inj hd hq (by rw [Vd.out, D4.out, hv, Vk.out])
  clear hv hq
  have HM' := Lib.hid (HM.out.on hbl)
  clear HM hbl
  have HM := HM'
  clear HM'
  have HS := HM.out.sub (rs' := [(w11.heap.size, k0, k1, k2, k3), (w9.heap.size, d0, d1, d2, d3), (w8.heap.size, y0, y1, y2, y3), (w7.heap.size, x0, x1, x2, x3), (w6.heap.size, y0, y1, y2, y3), (w5.heap.size, x0, x1, x2, x3), (w2.heap.size, p0, p1, p2, p3), (w.heap.size + 1 + 1, n0, n1, n2, n3), (w.heap.size + 1, b0, b1, b2, b3), (w.heap.size, a0, a1, a2, a3)]) (by simp)
  refine hK.out _ _ (Or.inr HS) (fun _ => ?_)
  clear hK K
  clear HS
  refine till_step (i := 7) (by kernel_rfl) rfl (fun K hK => ?_)
  go_simp
  refine (same_gen d0 d1 d2 d3 hd cd Cd.out _).mono ?_
  rintro e wq ⟨rfl, hbl⟩
  have HM' := Lib.hid (HM.out.on hbl)
  clear HM hbl
  have HM := HM'
  clear HM'
  have HS := HM.out.sub (rs' := [(w11.heap.size, k0, k1, k2, k3), (w9.heap.size, d0, d1, d2, d3), (w8.heap.size, y0, y1, y2, y3), (w7.heap.size, x0, x1, x2, x3), (w6.heap.size, y0, y1, y2, y3), (w5.heap.size, x0, x1, x2, x3), (w2.heap.size, p0, p1, p2, p3), (w.heap.size + 1 + 1, n0, n1, n2, n3), (w.heap.size + 1, b0, b1, b2, b3), (w.heap.size, a0, a1, a2, a3)]) (by simp)
  refine hK.out _ _ (Or.inr HS) (fun _ => ?_)
  clear hK K
  refine till_keep (i := 8) (v := .bool true) rfl (by kernel_rfl) (by kernel_rfl) (by kernel_rfl) (Nat.le_of_ble_eq_true (by kernel_rfl)) (fun _ _ _ h => h) HS (Or.inl ⟨by kernel_rfl, fun wx hx => ?_⟩) ?_
  · clear HS hx
    go_simp
  simp only [Act.put, List.setIfInBounds_toArray, List.set_cons_zero, List.set_cons_succ]
  clear HS
  refine till_step (i := 9) (by kernel_rfl) rfl (fun K hK => ?_)
  go_simp
  refine (works_calls _).mono ?_
  rintro e wq ⟨rfl, hbl⟩
  have HM' := Lib.hid (HM.out.on hbl)
  clear HM hbl
  have HM := HM'
  clear HM'
  have HS := HM.out.sub (rs' := [(w11.heap.size, k0, k1, k2, k3), (w9.heap.size, d0, d1, d2, d3), (w8.heap.size, y0, y1, y2, y3), (w7.heap.size, x0, x1, x2, x3), (w6.heap.size, y0, y1, y2, y3), (w5.heap.size, x0, x1, x2, x3), (w2.heap.size, p0, p1, p2, p3), (w.heap.size + 1 + 1, n0, n1, n2, n3), (w.heap.size + 1, b0, b1, b2, b3), (w.heap.size, a0, a1, a2, a3)]) (by simp)
  refine hK.out _ _ (Or.inr HS) (fun _ => ?_)
  clear hK K
  refine till_keep (i := 10) (v := .bool true) rfl (by kernel_rfl) (by kernel_rfl) (by kernel_rfl) (Nat.le_of_ble_eq_true (by kernel_rfl)) (fun _ _ _ h => h) HS (Or.inl ⟨by kernel_rfl, fun wx hx => ?_⟩) ?_
  · clear HS hx
    go_simp
  simp only [Act.put, List.setIfInBounds_toArray, List.set_cons_zero, List.set_cons_succ]
  have HS' := HS
  clear HS
  refine till_step (i := 11) (by kernel_rfl) rfl (fun K hK => ?_)
  go_simp
  refine hK.out _ _ (Or.inr HS') (fun _ => ?_)
  clear hK K HS'
  refine till_done (by kernel_rfl) ?_
  go_wp2_with fail
  go_ret
  exact ⟨rfl, HM.out.1⟩
set_option maxRecDepth 100000 in
set_option maxHeartbeats 16000000 in
theorem powers_badb (f : Int) (a0 a1 a2 a3 b0 b1 b2 b3 n0 n1 n2 n3 : Nat) (ha : ok4 a0 a1 a2 a3) (hb : ok4 b0 b1 b2 b3) (hn : ok4 n0 n1 n2 n3) (F : FC) (hf : FieldIs f F) (la : (val4 a0 a1 a2 a3) < F.M) (lb : ¬ (val4 b0 b1 b2 b3) < F.M) (w : World) :
    Calls Try.prog 3 #[.int .i64 f, .agg #[.int .u64 a0, .int .u64 a1, .int .u64 a2, .int .u64 a3], .agg #[.int .u64 b0, .int .u64 b1, .int .u64 b2, .int .u64 b3], .agg #[.int .u64 n0, .int .u64 n1, .int .u64 n2, .int .u64 n3]] w fun e w' => e = .returned (.bool true) ∧ Below w.heap.size w w' := by
  have hw0 : IntKind.i64.wrap 0 = 0 := by decide
  have hG := eqGuardF
  have hS := equalSelfF
  have hpos := hf.ok.pos
  have h2 := hf.ok.gt
  obtain ⟨gg, hroot⟩ := hf.root
  have HRt := Lib.hid hroot
  clear hroot
  obtain ⟨ci, Vi, i1, i2, i3⟩ := inv_both f F hf a0 a1 a2 a3 ha la
  have I1 := Lib.hid i1
  have I2 := Lib.hid i2
  have I3 := Lib.hid i3
  obtain ⟨cs, s1, s2, s3⟩ := sqrt_both f F hf a0 a1 a2 a3 ha la
  have S1 := Lib.hid s1
  have S2 := Lib.hid s2
  clear i1 i2 i3 s1 s2 s3
  go_enter Try.func3, Try.ntmps3
  go_wp2_with fail
  have HM := Lib.hid ((((Mem.nil w).new (w.heap.size) a0 a1 a2 a3 25 (by simp)).new (w.heap.size + 1) b0 b1 b2 b3 25 (by simp)).new (w.heap.size + 1 + 1) n0 n1 n2 n3 26 (by simp))
  refine (rcheck_ok f F hf a0 a1 a2 a3 ha la _).mono ?_
  rintro e w1 ⟨rfl, hbl⟩
  have MP' := Lib.hid (HM.out.on hbl)
  clear hbl HM
  have MP := MP'
  clear MP'
  have HM := MP
  have kr := MP.out.row (b := w.heap.size) (c0 := a0) (c1 := a1) (c2 := a2) (c3 := a3) (by simp)
  have Fa0 := kr.c0; have Fa1 := kr.c1; have Fa2 := kr.c2; have Fa3 := kr.c3
  clear kr
  have Fal := MP.out.lt (b := w.heap.size) (c0 := a0) (c1 := a1) (c2 := a2) (c3 := a3) (by simp)
  have kr := MP.out.row (b := w.heap.size + 1 + 1) (c0 := n0) (c1 := n1) (c2 := n2) (c3 := n3) (by simp)
  have Fn0 := kr.c0; have Fn1 := kr.c1; have Fn2 := kr.c2; have Fn3 := kr.c3
  clear kr
  have Fnl := MP.out.lt (b := w.heap.size + 1 + 1) (c0 := n0) (c1 := n1) (c2 := n2) (c3 := n3) (by simp)
  go_wp2_with fail
  refine (fexp_ok f F hf a0 a1 a2 a3 n0 n1 n2 n3 ha hn la _).mono ?_
  rintro e w2 ⟨p0, p1, p2, p3, rfl, hp, hv, hbl⟩
  have Vp := Lib.hid hv
  clear hv
  have MP' := Lib.hid (HM.out.on hbl)
  clear hbl HM MP Fa0 Fa1 Fa2 Fa3 Fal Fn0 Fn1 Fn2 Fn3 Fnl
  have MP := MP'
  clear MP'
  have HM := Lib.hid (MP.out.new w2.heap.size p0 p1 p2 p3 25 rfl)
  have kr := MP.out.row (b := w.heap.size) (c0 := a0) (c1 := a1) (c2 := a2) (c3 := a3) (by simp)
  have Fa0 := kr.c0; have Fa1 := kr.c1; have Fa2 := kr.c2; have Fa3 := kr.c3
  clear kr
  have Fal := MP.out.lt (b := w.heap.size) (c0 := a0) (c1 := a1) (c2 := a2) (c3 := a3) (by simp)
  go_wp2_with fail
  refine (fleg_any f F hf a0 a1 a2 a3 ha la _).mono ?_
  rintro e w3 ⟨rfl, hbl⟩
  have MP' := Lib.hid (HM.out.on hbl)
  clear hbl HM MP Fa0 Fa1 Fa2 Fa3 Fal
  have MP := MP'
  clear MP'
  have HM := MP
  have kr := MP.out.row (b := w.heap.size) (c0 := a0) (c1 := a1) (c2 := a2) (c3 := a3) (by simp)
  have Fa0 := kr.c0; have Fa1 := kr.c1; have Fa2 := kr.c2; have Fa3 := kr.c3
  clear kr
  have Fal := MP.out.lt (b := w.heap.size) (c0 := a0) (c1 := a1) (c2 := a2) (c3 := a3) (by simp)
  go_wp2_with fail
  refine (flower_ok f F hf a0 a1 a2 a3 ha la _).mono ?_
  rintro e w4 ⟨rfl, hbl⟩
  have MP' := Lib.hid (HM.out.on hbl)
  clear hbl HM MP Fa0 Fa1 Fa2 Fa3 Fal
  have MP := MP'
  clear MP'
  have HM := MP
  have kr := MP.out.row (b := w.heap.size) (c0 := a0) (c1 := a1) (c2 := a2) (c3 := a3) (by simp)
  have Fa0 := kr.c0; have Fa1 := kr.c1; have Fa2 := kr.c2; have Fa3 := kr.c3
  clear kr
  have Fal := MP.out.lt (b := w.heap.size) (c0 := a0) (c1 := a1) (c2 := a2) (c3 := a3) (by simp)
  go_wp2_with fail
  refine (I1.out _).mono ?_
  rintro e w5 ⟨x0, x1, x2, x3, rfl, hx, hv, hbl⟩
  have Vx := Lib.hid hv
  clear hv
  have MP' := Lib.hid (HM.out.on hbl)
  clear hbl HM MP Fa0 Fa1 Fa2 Fa3 Fal
  have MP := MP'
  clear MP'
  have HM := Lib.hid (MP.out.new w5.heap.size x0 x1 x2 x3 25 rfl)
  have kr := MP.out.row (b := w.heap.size) (c0 := a0) (c1 := a1) (c2 := a2) (c3 := a3) (by simp)
  have Fa0 := kr.c0; have Fa1 := kr.c1; have Fa2 := kr.c2; have Fa3 := kr.c3
  clear kr
  have Fal := MP.out.lt (b := w.heap.size) (c0 := a0) (c1 := a1) (c2 := a2) (c3 := a3) (by simp)
  go_wp2_with fail
  refine (S1.out _).mono ?_
  rintro e w6 ⟨Vy, ⟨y0, y1, y2, y3, rfl, hy, hv, hbl⟩, hsr⟩
  have Qy := Lib.hid (show SqR F.M (val4 a0 a1 a2 a3) cs (val4 y0 y1 y2 y3) by rw [hv]; exact hsr)
  clear hv hsr
  have MP' := Lib.hid (HM.out.on hbl)
  clear hbl HM MP Fa0 Fa1 Fa2 Fa3 Fal
  have MP := MP'
  clear MP'
  have HM := Lib.hid (MP.out.new w6.heap.size y0 y1 y2 y3 25 rfl)
  have kr := MP.out.row (b := w.heap.size) (c0 := a0) (c1 := a1) (c2 := a2) (c3 := a3) (by simp)
  have Fa0 := kr.c0; have Fa1 := kr.c1; have Fa2 := kr.c2; have Fa3 := kr.c3
  clear kr
  have Fal := MP.out.lt (b := w.heap.size) (c0 := a0) (c1 := a1) (c2 := a2) (c3 := a3) (by simp)
  go_wp2_with fail
  refine (I2.out _).mono ?_
  rintro e w7 ⟨u0, u1, u2, u3, rfl, hu, hv, hbl⟩
  obtain ⟨rfl, rfl, rfl, rfl⟩ := val4_inj hx hu (Vx.out.trans hv.symm)
  clear hv hu
  have MP' := Lib.hid (HM.out.on hbl)
  clear hbl HM MP Fa0 Fa1 Fa2 Fa3 Fal
  have MP := MP'
  clear MP'
  have HM := Lib.hid (MP.out.new w7.heap.size x0 x1 x2 x3 25 rfl)
  have kr := MP.out.row (b := w.heap.size) (c0 := a0) (c1 := a1) (c2 := a2) (c3 := a3) (by simp)
  have Fa0 := kr.c0; have Fa1 := kr.c1; have Fa2 := kr.c2; have Fa3 := kr.c3
  clear kr
  have Fal := MP.out.lt (b := w.heap.size) (c0 := a0) (c1 := a1) (c2 := a2) (c3 := a3) (by simp)
  go_wp2_with fail
  refine (S2.out _).mono ?_
  rintro e w8 ⟨Vz, ⟨z0, z1, z2, z3, rfl, hz, hv, hbl⟩, hsr⟩
  obtain ⟨rfl, rfl, rfl, rfl⟩ := val4_inj hy hz (SqR.uniq HRt.out h2 Qy.out (by rw [hv]; exact hsr))
  clear hv hsr hz
  have MP' := Lib.hid (HM.out.on hbl)
  clear hbl HM MP Fa0 Fa1 Fa2 Fa3 Fal
  have MP := MP'
  clear MP'
  have HM := Lib.hid (MP.out.new w8.heap.size y0 y1 y2 y3 25 rfl)
  have Cx := Lib.hid (show ci = 0 ∨ ci ≠ 0 ∧ val4 x0 x1 x2 x3 = 0 by rw [Vx.out]; exact I3.out)
  have Cy := Lib.hid (show cs = 0 ∨ cs ≠ 0 ∧ val4 y0 y1 y2 y3 = 0 by rcases Qy.out with h | h; exact Or.inl h.1; exact Or.inr h)
  go_wp2_with fail
  clear MP
  refine region_till (fun wx => Mem w wx [(w8.heap.size, y0, y1, y2, y3), (w7.heap.size, x0, x1, x2, x3), (w6.heap.size, y0, y1, y2, y3), (w5.heap.size, x0, x1, x2, x3), (w2.heap.size, p0, p1, p2, p3), (w.heap.size + 1 + 1, n0, n1, n2, n3), (w.heap.size + 1, b0, b1, b2, b3), (w.heap.size, a0, a1, a2, a3)]) 99 (by kernel_rfl) ?_
  have HM' := Lib.hid (HM.out.drewN 1)
  clear HM
  have HM := HM'
  clear HM'
  have HS := HM.out.sub (rs' := [(w8.heap.size, y0, y1, y2, y3), (w7.heap.size, x0, x1, x2, x3), (w6.heap.size, y0, y1, y2, y3), (w5.heap.size, x0, x1, x2, x3), (w2.heap.size, p0, p1, p2, p3), (w.heap.size + 1 + 1, n0, n1, n2, n3), (w.heap.size + 1, b0, b1, b2, b3), (w.heap.size, a0, a1, a2, a3)]) (by simp)
  refine till_keep (i := 0) (v := .int .i64 0) rfl (by kernel_rfl) (by kernel_rfl) (by kernel_rfl) (Nat.le_of_ble_eq_true (by kernel_rfl)) (fun _ _ _ h => h) HS (Or.inl ⟨by kernel_rfl, fun wx hx => ?_⟩) ?_
  · clear HS hx
    go_simp
  simp only [Act.put, List.setIfInBounds_toArray, List.set_cons_zero, List.set_cons_succ]
  refine till_keep (i := 2) (v := .int .i64 0) rfl (by kernel_rfl) (by kernel_rfl) (by kernel_rfl) (Nat.le_of_ble_eq_true (by kernel_rfl)) (fun _ _ _ h => h) HS (Or.inl ⟨by kernel_rfl, fun wx hx => ?_⟩) ?_
  · clear HS hx
    go_simp
  simp only [Act.put, List.setIfInBounds_toArray, List.set_cons_zero, List.set_cons_succ]
  refine till_keep (i := 5) (v := .int .i64 0) rfl (by kernel_rfl) (by kernel_rfl) (by kernel_rfl) (Nat.le_of_ble_eq_true (by kernel_rfl)) (fun _ _ _ h => h) HS (Or.inl ⟨by kernel_rfl, fun wx hx => ?_⟩) ?_
  · clear HS hx
    go_simp
  simp only [Act.put, List.setIfInBounds_toArray, List.set_cons_zero, List.set_cons_succ]
  clear HS
  refine till_step (i := 1) (by kernel_rfl) rfl (fun K hK => ?_)
  go_simp
  refine (num_calls _ _).mono ?_
  rintro e wq ⟨rfl, rfl⟩
  have HS := HM.out.sub (rs' := [(w8.heap.size, y0, y1, y2, y3), (w7.heap.size, x0, x1, x2, x3), (w6.heap.size, y0, y1, y2, y3), (w5.heap.size, x0, x1, x2, x3), (w2.heap.size, p0, p1, p2, p3), (w.heap.size + 1 + 1, n0, n1, n2, n3), (w.heap.size + 1, b0, b1, b2, b3), (w.heap.size, a0, a1, a2, a3)]) (by simp)
  refine hK.out _ _ (Or.inr HS) (fun _ => ?_)
  clear hK K
  clear HS
  refine till_step (i := 3) (by kernel_rfl) rfl (fun K hK => ?_)
  go_simp
  refine (num_calls _ _).mono ?_
  rintro e wq ⟨rfl, rfl⟩
  have HS := HM.out.sub (rs' := [(w8.heap.size, y0, y1, y2, y3), (w7.heap.size, x0, x1, x2, x3), (w6.heap.size, y0, y1, y2, y3), (w5.heap.size, x0, x1, x2, x3), (w2.heap.size, p0, p1, p2, p3), (w.heap.size + 1 + 1, n0, n1, n2, n3), (w.heap.size + 1, b0, b1, b2, b3), (w.heap.size, a0, a1, a2, a3)]) (by simp)
  refine hK.out _ _ (Or.inr HS) (fun _ => ?_)
  clear hK K
  refine till_keep (i := 4) (v := .int .i64 0) rfl (by kernel_rfl) (by kernel_rfl) (by kernel_rfl) (Nat.le_of_ble_eq_true (by kernel_rfl)) (fun _ _ _ h => h) HS (Or.inl ⟨by kernel_rfl, fun wx hx => ?_⟩) ?_
  · clear HS hx
    go_simp
  simp only [Act.put, List.setIfInBounds_toArray, List.set_cons_zero, List.set_cons_succ]
  clear HS
  refine till_step (i := 6) (by kernel_rfl) rfl (fun K hK => ?_)
  go_simp
  refine (num_calls _ _).mono ?_
  rintro e wq ⟨rfl, rfl⟩
  have HS := HM.out.sub (rs' := [(w8.heap.size, y0, y1, y2, y3), (w7.heap.size, x0, x1, x2, x3), (w6.heap.size, y0, y1, y2, y3), (w5.heap.size, x0, x1, x2, x3), (w2.heap.size, p0, p1, p2, p3), (w.heap.size + 1 + 1, n0, n1, n2, n3), (w.heap.size + 1, b0, b1, b2, b3), (w.heap.size, a0, a1, a2, a3)]) (by simp)
  refine hK.out _ _ (Or.inr HS) (fun _ => ?_)
  clear hK K
  refine till_keep (i := 7) (v := .int .i64 0) rfl (by kernel_rfl) (by kernel_rfl) (by kernel_rfl) (Nat.le_of_ble_eq_true (by kernel_rfl)) (fun _ _ _ h => h) HS (Or.inl ⟨by kernel_rfl, fun wx hx => ?_⟩) ?_
  · clear HS hx
    go_simp
  simp only [Act.put, List.setIfInBounds_toArray, List.set_cons_zero, List.set_cons_succ]
  refine till_keep (i := 8) (v := .bool false) rfl (by kernel_rfl) (by kernel_rfl) (by kernel_rfl) (Nat.le_of_ble_eq_true (by kernel_rfl)) (fun _ _ _ h => h) HS (Or.inl ⟨by kernel_rfl, fun wx hx => ?_⟩) ?_
  · clear HS hx
    go_simp
  simp only [Act.put, List.setIfInBounds_toArray, List.set_cons_zero, List.set_cons_succ]
  refine till_keep (i := 9) (v := .bool false) rfl (by kernel_rfl) (by kernel_rfl) (by kernel_rfl) (Nat.le_of_ble_eq_true (by kernel_rfl)) (fun _ _ _ h => h) HS (Or.inl ⟨by kernel_rfl, fun wx hx => ?_⟩) ?_
  · clear HS hx
    go_simp
  simp only [Act.put, List.setIfInBounds_toArray, List.set_cons_zero, List.set_cons_succ]
  refine till_keep (i := 10) (v := .agg #[.int .u64 p0, .int .u64 p1, .int .u64 p2, .int .u64 p3]) rfl (by kernel_rfl) (by kernel_rfl) (by kernel_rfl) (Nat.le_of_ble_eq_true (by kernel_rfl)) (fun _ _ _ h => h) HS (Or.inl ⟨by kernel_rfl, fun wx hx => ?_⟩) ?_
  · have kr := hx.row (b := w2.heap.size) (c0 := p0) (c1 := p1) (c2 := p2) (c3 := p3) (by simp)
    have x0' := kr.c0; have x1' := kr.c1; have x2' := kr.c2; have x3' := kr.c3
    clear kr HS hx
    go_simp
  simp only [Act.put, List.setIfInBounds_toArray, List.set_cons_zero, List.set_cons_succ]
  refine till_keep (i := 11) (v := .int .i64 f) rfl (by kernel_rfl) (by kernel_rfl) (by kernel_rfl) (Nat.le_of_ble_eq_true (by kernel_rfl)) (fun _ _ _ h => h) HS (Or.inl ⟨by kernel_rfl, fun wx hx => ?_⟩) ?_
  · clear HS hx
    go_simp
  simp only [Act.put, List.setIfInBounds_toArray, List.set_cons_zero, List.set_cons_succ]
  refine till_keep (i := 12) (v := .agg #[.int .u64 a0, .int .u64 a1, .int .u64 a2, .int .u64 a3]) rfl (by kernel_rfl) (by kernel_rfl) (by kernel_rfl) (Nat.le_of_ble_eq_true (by kernel_rfl)) (fun _ _ _ h => h) HS (Or.inl ⟨by kernel_rfl, fun wx hx => ?_⟩) ?_
  · have kr := hx.row (b := w.heap.size) (c0 := a0) (c1 := a1) (c2 := a2) (c3 := a3) (by simp)
    have x0' := kr.c0; have x1' := kr.c1; have x2' := kr.c2; have x3' := kr.c3
    clear kr HS hx
    go_simp
  simp only [Act.put, List.setIfInBounds_toArray, List.set_cons_zero, List.set_cons_succ]
  refine till_keep (i := 13) (v := .agg #[.int .u64 n0, .int .u64 n1, .int .u64 n2, .int .u64 n3]) rfl (by kernel_rfl) (by kernel_rfl) (by kernel_rfl) (Nat.le_of_ble_eq_true (by kernel_rfl)) (fun _ _ _ h => h) HS (Or.inl ⟨by kernel_rfl, fun wx hx => ?_⟩) ?_
  · have kr := hx.row (b := w.heap.size + 1 + 1) (c0 := n0) (c1 := n1) (c2 := n2) (c3 := n3) (by simp)
    have x0' := kr.c0; have x1' := kr.c1; have x2' := kr.c2; have x3' := kr.c3
    clear kr HS hx
    go_simp
  simp only [Act.put, List.setIfInBounds_toArray, List.set_cons_zero, List.set_cons_succ]
  clear HS
  refine till_step (i := 14) (by kernel_rfl) rfl (fun K hK => ?_)
  go_simp
  refine (rexp_calls f F hf a0 a1 a2 a3 n0 n1 n2 n3 ha hn _).mono ?_
  rintro e wq ⟨q0, q1, q2, q3, rfl, hq, hv, hbl⟩
  obtain ⟨rfl, rfl, rfl, rfl⟩ := val4_inj hp hq (Vp.out.trans hv.symm)
  clear hv hq
  have HM' := Lib.hid (HM.out.on hbl)
  clear HM hbl
  have HM := HM'
  clear HM'
  have HS := HM.out.sub (rs' := [(w8.heap.size, y0, y1, y2, y3), (w7.heap.size, x0, x1, x2, x3), (w6.heap.size, y0, y1, y2, y3), (w5.heap.size, x0, x1, x2, x3), (w2.heap.size, p0, p1, p2, p3), (w.heap.size + 1 + 1, n0, n1, n2, n3), (w.heap.size + 1, b0, b1, b2, b3), (w.heap.size, a0, a1, a2, a3)]) (by simp)
  refine hK.out _ _ (Or.inr HS) (fun _ => ?_)
  clear hK K
  refine till_keep (i := 15) (v := .bool false) rfl (by kernel_rfl) (by kernel_rfl) (by kernel_rfl) (Nat.le_of_ble_eq_true (by kernel_rfl)) (fun _ _ _ h => h) HS (Or.inl ⟨by kernel_rfl, fun wx hx => ?_⟩) ?_
  · clear HS hx
    go_simp
  simp only [Act.put, List.setIfInBounds_toArray, List.set_cons_zero, List.set_cons_succ]
  refine till_keep (i := 16) (v := .bool false) rfl (by kernel_rfl) (by kernel_rfl) (by kernel_rfl) (Nat.le_of_ble_eq_true (by kernel_rfl)) (fun _ _ _ h => h) HS (Or.inl ⟨by kernel_rfl, fun wx hx => ?_⟩) ?_
  · clear HS hx
    go_simp
  simp only [Act.put, List.setIfInBounds_toArray, List.set_cons_zero, List.set_cons_succ]
  refine till_keep (i := 17) (v := .bool false) rfl (by kernel_rfl) (by kernel_rfl) (by kernel_rfl) (Nat.le_of_ble_eq_true (by kernel_rfl)) (fun _ _ _ h => h) HS (Or.inl ⟨by kernel_rfl, fun wx hx => ?_⟩) ?_
  · clear HS hx
    go_simp
  simp only [Act.put, List.setIfInBounds_toArray, List.set_cons_zero, List.set_cons_succ]
  refine till_keep (i := 18) (v := .int .i64 (legN F.M (val4 a0 a1 a2 a3))) rfl (by kernel_rfl) (by kernel_rfl) (by kernel_rfl) (Nat.le_of_ble_eq_true (by kernel_rfl)) (fun _ _ _ h => h) HS (Or.inl ⟨by kernel_rfl, fun wx hx => ?_⟩) ?_
  · clear HS hx
    go_simp
  simp only [Act.put, List.setIfInBounds_toArray, List.set_cons_zero, List.set_cons_succ]
  refine till_keep (i := 19) (v := .int .i64 f) rfl (by kernel_rfl) (by kernel_rfl) (by kernel_rfl) (Nat.le_of_ble_eq_true (by kernel_rfl)) (fun _ _ _ h => h) HS (Or.inl ⟨by kernel_rfl, fun wx hx => ?_⟩) ?_
  · clear HS hx
    go_simp
  simp only [Act.put, List.setIfInBounds_toArray, List.set_cons_zero, List.set_cons_succ]
  refine till_keep (i := 20) (v := .agg #[.int .u64 a0, .int .u64 a1, .int .u64 a2, .int .u64 a3]) rfl (by kernel_rfl) (by kernel_rfl) (by kernel_rfl) (Nat.le_of_ble_eq_true (by kernel_rfl)) (fun _ _ _ h => h) HS (Or.inl ⟨by kernel_rfl, fun wx hx => ?_⟩) ?_
  · have kr := hx.row (b := w.heap.size) (c0 := a0) (c1 := a1) (c2 := a2) (c3 := a3) (by simp)
    have x0' := kr.c0; have x1' := kr.c1; have x2' := kr.c2; have x3' := kr.c3
    clear kr HS hx
    go_simp
  simp only [Act.put, List.setIfInBounds_toArray, List.set_cons_zero, List.set_cons_succ]
  clear HS
  refine till_step (i := 21) (by kernel_rfl) rfl (fun K hK => ?_)
  go_simp
  refine (rlegN_calls f F hf a0 a1 a2 a3 ha la _).mono ?_
  rintro e wq ⟨rfl, hbl⟩
  have HM' := Lib.hid (HM.out.on hbl)
  clear HM hbl
  have HM := HM'
  clear HM'
  have HS := HM.out.sub (rs' := [(w8.heap.size, y0, y1, y2, y3), (w7.heap.size, x0, x1, x2, x3), (w6.heap.size, y0, y1, y2, y3), (w5.heap.size, x0, x1, x2, x3), (w2.heap.size, p0, p1, p2, p3), (w.heap.size + 1 + 1, n0, n1, n2, n3), (w.heap.size + 1, b0, b1, b2, b3), (w.heap.size, a0, a1, a2, a3)]) (by simp)
  refine hK.out _ _ (Or.inr HS) (fun _ => ?_)
  clear hK K
  refine till_keep (i := 22) (v := .bool false) rfl (by kernel_rfl) (by kernel_rfl) (by kernel_rfl) (Nat.le_of_ble_eq_true (by kernel_rfl)) (fun _ _ _ h => h) HS (Or.inl ⟨by kernel_rfl, fun wx hx => ?_⟩) ?_
  · clear HS hx
    go_simp
  simp only [Act.put, List.setIfInBounds_toArray, List.set_cons_zero, List.set_cons_succ]
  refine till_keep (i := 23) (v := .bool false) rfl (by kernel_rfl) (by kernel_rfl) (by kernel_rfl) (Nat.le_of_ble_eq_true (by kernel_rfl)) (fun _ _ _ h => h) HS (Or.inl ⟨by kernel_rfl, fun wx hx => ?_⟩) ?_
  · clear HS hx
    go_simp
  simp only [Act.put, List.setIfInBounds_toArray, List.set_cons_zero, List.set_cons_succ]
  refine till_keep (i := 24) (v := .bool false) rfl (by kernel_rfl) (by kernel_rfl) (by kernel_rfl) (Nat.le_of_ble_eq_true (by kernel_rfl)) (fun _ _ _ h => h) HS (Or.inl ⟨by kernel_rfl, fun wx hx => ?_⟩) ?_
  · clear HS hx
    go_simp
  simp only [Act.put, List.setIfInBounds_toArray, List.set_cons_zero, List.set_cons_succ]
  refine till_keep (i := 25) (v := .bool (lowB F.M (val4 a0 a1 a2 a3))) rfl (by kernel_rfl) (by kernel_rfl) (by kernel_rfl) (Nat.le_of_ble_eq_true (by kernel_rfl)) (fun _ _ _ h => h) HS (Or.inl ⟨by kernel_rfl, fun wx hx => ?_⟩) ?_
  · clear HS hx
    go_simp
  simp only [Act.put, List.setIfInBounds_toArray, List.set_cons_zero, List.set_cons_succ]
  refine till_keep (i := 26) (v := .int .i64 f) rfl (by kernel_rfl) (by kernel_rfl) (by kernel_rfl) (Nat.le_of_ble_eq_true (by kernel_rfl)) (fun _ _ _ h => h) HS (Or.inl ⟨by kernel_rfl, fun wx hx => ?_⟩) ?_
  · clear HS hx
    go_simp
  simp only [Act.put, List.setIfInBounds_toArray, List.set_cons_zero, List.set_cons_succ]
  refine till_keep (i := 27) (v := .agg #[.int .u64 a0, .int .u64 a1, .int .u64 a2, .int .u64 a3]) rfl (by kernel_rfl) (by kernel_rfl) (by kernel_rfl) (Nat.le_of_ble_eq_true (by kernel_rfl)) (fun _ _ _ h => h) HS (Or.inl ⟨by kernel_rfl, fun wx hx => ?_⟩) ?_
  · have kr := hx.row (b := w.heap.size) (c0 := a0) (c1 := a1) (c2 := a2) (c3 := a3) (by simp)
    have x0' := kr.c0; have x1' := kr.c1; have x2' := kr.c2; have x3' := kr.c3
    clear kr HS hx
    go_simp
  simp only [Act.put, List.setIfInBounds_toArray, List.set_cons_zero, List.set_cons_succ]
  clear HS
  refine till_step (i := 28) (by kernel_rfl) rfl (fun K hK => ?_)
  go_simp
  refine (rlower_calls f F hf a0 a1 a2 a3 ha la _).mono ?_
  rintro e wq ⟨rfl, hbl⟩
  have HM' := Lib.hid (HM.out.on hbl)
  clear HM hbl
  have HM := HM'
  clear HM'
  have HS := HM.out.sub (rs' := [(w8.heap.size, y0, y1, y2, y3), (w7.heap.size, x0, x1, x2, x3), (w6.heap.size, y0, y1, y2, y3), (w5.heap.size, x0, x1, x2, x3), (w2.heap.size, p0, p1, p2, p3), (w.heap.size + 1 + 1, n0, n1, n2, n3), (w.heap.size + 1, b0, b1, b2, b3), (w.heap.size, a0, a1, a2, a3)]) (by simp)
  refine hK.out _ _ (Or.inr HS) (fun _ => ?_)
  clear hK K
  refine till_keep (i := 29) (v := .bool false) rfl (by kernel_rfl) (by kernel_rfl) (by kernel_rfl) (Nat.le_of_ble_eq_true (by kernel_rfl)) (fun _ _ _ h => h) HS (Or.inl ⟨by kernel_rfl, fun wx hx => ?_⟩) ?_
  · clear HS hx
    go_simp
  simp only [Act.put, List.setIfInBounds_toArray, List.set_cons_zero, List.set_cons_succ]
  refine till_keep (i := 30) (v := .bool false) rfl (by kernel_rfl) (by kernel_rfl) (by kernel_rfl) (Nat.le_of_ble_eq_true (by kernel_rfl)) (fun _ _ _ h => h) HS (Or.inl ⟨by kernel_rfl, fun wx hx => ?_⟩) ?_
  · clear HS hx
    go_simp
  simp only [Act.put, List.setIfInBounds_toArray, List.set_cons_zero, List.set_cons_succ]
  refine till_keep (i := 31) (v := .bool false) rfl (by kernel_rfl) (by kernel_rfl) (by kernel_rfl) (Nat.le_of_ble_eq_true (by kernel_rfl)) (fun _ _ _ h => h) HS (Or.inl ⟨by kernel_rfl, fun wx hx => ?_⟩) ?_
  · clear HS hx
    go_simp
  simp only [Act.put, List.setIfInBounds_toArray, List.set_cons_zero, List.set_cons_succ]
  refine till_keep (i := 32) (v := .agg #[.int .u64 x0, .int .u64 x1, .int .u64 x2, .int .u64 x3]) rfl (by kernel_rfl) (by kernel_rfl) (by kernel_rfl) (Nat.le_of_ble_eq_true (by kernel_rfl)) (fun _ _ _ h => h) HS (Or.inl ⟨by kernel_rfl, fun wx hx => ?_⟩) ?_
  · have kr := hx.row (b := w5.heap.size) (c0 := x0) (c1 := x1) (c2 := x2) (c3 := x3) (by simp)
    have x0' := kr.c0; have x1' := kr.c1; have x2' := kr.c2; have x3' := kr.c3
    clear kr HS hx
    go_simp
  simp only [Act.put, List.setIfInBounds_toArray, List.set_cons_zero, List.set_cons_succ]
  refine till_keep (i := 33) (v := .int .i64 ci) rfl (by kernel_rfl) (by kernel_rfl) (by kernel_rfl) (Nat.le_of_ble_eq_true (by kernel_rfl)) (fun _ _ _ h => h) HS (Or.inl ⟨by kernel_rfl, fun wx hx => ?_⟩) ?_
  · clear HS hx
    go_simp
  simp only [Act.put, List.setIfInBounds_toArray, List.set_cons_zero, List.set_cons_succ]
  refine till_keep (i := 34) (v := .agg #[.int .u64 x0, .int .u64 x1, .int .u64 x2, .int .u64 x3]) rfl (by kernel_rfl) (by kernel_rfl) (by kernel_rfl) (Nat.le_of_ble_eq_true (by kernel_rfl)) (fun _ _ _ h => h) HS (Or.inl ⟨by kernel_rfl, fun wx hx => ?_⟩) ?_
  · have kr := hx.row (b := w7.heap.size) (c0 := x0) (c1 := x1) (c2 := x2) (c3 := x3) (by simp)
    have x0' := kr.c0; have x1' := kr.c1; have x2' := kr.c2; have x3' := kr.c3
    clear kr HS hx
    go_simp
  simp only [Act.put, List.setIfInBounds_toArray, List.set_cons_zero, List.set_cons_succ]
  refine till_keep (i := 35) (v := .int .i64 ci) rfl (by kernel_rfl) (by kernel_rfl) (by kernel_rfl) (Nat.le_of_ble_eq_true (by kernel_rfl)) (fun _ _ _ h => h) HS (Or.inl ⟨by kernel_rfl, fun wx hx => ?_⟩) ?_
  · clear HS hx
    go_simp
  simp only [Act.put, List.setIfInBounds_toArray, List.set_cons_zero, List.set_cons_succ]
  clear HS
  refine till_step (i := 36) (by kernel_rfl) rfl (fun K hK => ?_)
  go_simp
  refine (same_gen x0 x1 x2 x3 hx ci Cx.out _).mono ?_
  rintro e wq ⟨rfl, hbl⟩
  have HM' := Lib.hid (HM.out.on hbl)
  clear HM hbl
  have HM := HM'
  clear HM'
  have HS := HM.out.sub (rs' := [(w8.heap.size, y0, y1, y2, y3), (w7.heap.size, x0, x1, x2, x3), (w6.heap.size, y0, y1, y2, y3), (w5.heap.size, x0, x1, x2, x3), (w2.heap.size, p0, p1, p2, p3), (w.heap.size + 1 + 1, n0, n1, n2, n3), (w.heap.size + 1, b0, b1, b2, b3), (w.heap.size, a0, a1, a2, a3)]) (by simp)
  refine hK.out _ _ (Or.inr HS) (fun _ => ?_)
  clear hK K
  refine till_keep (i := 37) (v := .bool false) rfl (by kernel_rfl) (by kernel_rfl) (by kernel_rfl) (Nat.le_of_ble_eq_true (by kernel_rfl)) (fun _ _ _ h => h) HS (Or.inl ⟨by kernel_rfl, fun wx hx => ?_⟩) ?_
  · clear HS hx
    go_simp
  simp only [Act.put, List.setIfInBounds_toArray, List.set_cons_zero, List.set_cons_succ]
  refine till_keep (i := 38) (v := .bool false) rfl (by kernel_rfl) (by kernel_rfl) (by kernel_rfl) (Nat.le_of_ble_eq_true (by kernel_rfl)) (fun _ _ _ h => h) HS (Or.inl ⟨by kernel_rfl, fun wx hx => ?_⟩) ?_
  · clear HS hx
    go_simp
  simp only [Act.put, List.setIfInBounds_toArray, List.set_cons_zero, List.set_cons_succ]
  refine till_keep (i := 39) (v := .bool false) rfl (by kernel_rfl) (by kernel_rfl) (by kernel_rfl) (Nat.le_of_ble_eq_true (by kernel_rfl)) (fun _ _ _ h => h) HS (Or.inl ⟨by kernel_rfl, fun wx hx => ?_⟩) ?_
  · clear HS hx
    go_simp
  simp only [Act.put, List.setIfInBounds_toArray, List.set_cons_zero, List.set_cons_succ]
  refine till_keep (i := 40) (v := .agg #[.int .u64 y0, .int .u64 y1, .int .u64 y2, .int .u64 y3]) rfl (by kernel_rfl) (by kernel_rfl) (by kernel_rfl) (Nat.le_of_ble_eq_true (by kernel_rfl)) (fun _ _ _ h => h) HS (Or.inl ⟨by kernel_rfl, fun wx hx => ?_⟩) ?_
  · have kr := hx.row (b := w6.heap.size) (c0 := y0) (c1 := y1) (c2 := y2) (c3 := y3) (by simp)
    have x0' := kr.c0; have x1' := kr.c1; have x2' := kr.c2; have x3' := kr.c3
    clear kr HS hx
    go_simp
  simp only [Act.put, List.setIfInBounds_toArray, List.set_cons_zero, List.set_cons_succ]
  refine till_keep (i := 41) (v := .int .i64 cs) rfl (by kernel_rfl) (by kernel_rfl) (by kernel_rfl) (Nat.le_of_ble_eq_true (by kernel_rfl)) (fun _ _ _ h => h) HS (Or.inl ⟨by kernel_rfl, fun wx hx => ?_⟩) ?_
  · clear HS hx
    go_simp
  simp only [Act.put, List.setIfInBounds_toArray, List.set_cons_zero, List.set_cons_succ]
  refine till_keep (i := 42) (v := .agg #[.int .u64 y0, .int .u64 y1, .int .u64 y2, .int .u64 y3]) rfl (by kernel_rfl) (by kernel_rfl) (by kernel_rfl) (Nat.le_of_ble_eq_true (by kernel_rfl)) (fun _ _ _ h => h) HS (Or.inl ⟨by kernel_rfl, fun wx hx => ?_⟩) ?_
  · have kr := hx.row (b := w8.heap.size) (c0 := y0) (c1 := y1) (c2 := y2) (c3 := y3) (by simp)
    have x0' := kr.c0; have x1' := kr.c1; have x2' := kr.c2; have x3' := kr.c3
    clear kr HS hx
    go_simp
  simp only [Act.put, List.setIfInBounds_toArray, List.set_cons_zero, List.set_cons_succ]
  refine till_keep (i := 43) (v := .int .i64 cs) rfl (by kernel_rfl) (by kernel_rfl) (by kernel_rfl) (Nat.le_of_ble_eq_true (by kernel_rfl)) (fun _ _ _ h => h) HS (Or.inl ⟨by kernel_rfl, fun wx hx => ?_⟩) ?_
  · clear HS hx
    go_simp
  simp only [Act.put, List.setIfInBounds_toArray, List.set_cons_zero, List.set_cons_succ]
  clear HS
  refine till_step (i := 44) (by kernel_rfl) rfl (fun K hK => ?_)
  go_simp
  refine (same_gen y0 y1 y2 y3 hy cs Cy.out _).mono ?_
  rintro e wq ⟨rfl, hbl⟩
  have HM' := Lib.hid (HM.out.on hbl)
  clear HM hbl
  have HM := HM'
  clear HM'
  have HS := HM.out.sub (rs' := [(w8.heap.size, y0, y1, y2, y3), (w7.heap.size, x0, x1, x2, x3), (w6.heap.size, y0, y1, y2, y3), (w5.heap.size, x0, x1, x2, x3), (w2.heap.size, p0, p1, p2, p3), (w.heap.size + 1 + 1, n0, n1, n2, n3), (w.heap.size + 1, b0, b1, b2, b3), (w.heap.size, a0, a1, a2, a3)]) (by simp)
  refine hK.out _ _ (Or.inr HS) (fun _ => ?_)
  clear hK K
  refine till_keep (i := 45) (v := .bool false) rfl (by kernel_rfl) (by kernel_rfl) (by kernel_rfl) (Nat.le_of_ble_eq_true (by kernel_rfl)) (fun _ _ _ h => h) HS (Or.inl ⟨by kernel_rfl, fun wx hx => ?_⟩) ?_
  · clear HS hx
    go_simp
  simp only [Act.put, List.setIfInBounds_toArray, List.set_cons_zero, List.set_cons_succ]
  have HS' := HS
  clear HS
  refine till_step (i := 46) (by kernel_rfl) rfl (fun K hK => ?_)
  go_simp
  refine hK.out _ _ (Or.inr HS') (fun _ => ?_)
  clear hK K HS'
  refine till_done (by kernel_rfl) ?_
  have MP := HM
  have kr := MP.out.row (b := w.heap.size) (c0 := a0) (c1 := a1) (c2 := a2) (c3 := a3) (by simp)
  have Fa0 := kr.c0; have Fa1 := kr.c1; have Fa2 := kr.c2; have Fa3 := kr.c3
  clear kr
  have Fal := MP.out.lt (b := w.heap.size) (c0 := a0) (c1 := a1) (c2 := a2) (c3 := a3) (by simp)
  have kr := MP.out.row (b := w.heap.size + 1) (c0 := b0) (c1 := b1) (c2 := b2) (c3 := b3) (by simp)
  have Fb0 := kr.c0; have Fb1 := kr.c1; have Fb2 := kr.c2; have Fb3 := kr.c3
  clear kr
  have Fbl := MP.out.lt (b := w.heap.size + 1) (c0 := b0) (c1 := b1) (c2 := b2) (c3 := b3) (by simp)
  go_wp2_with fail
  refine (fdiv_err f 21 a0 a1 a2 a3 b0 b1 b2 b3 ha hb (Or.inr ⟨F, hf, la, lb, rfl⟩) _).mono ?_
  rintro e w9 ⟨rfl, hbl⟩
  have MP' := Lib.hid (HM.out.on hbl)
  clear hbl HM MP Fa0 Fa1 Fa2 Fa3 Fal Fb0 Fb1 Fb2 Fb3 Fbl
  have MP := MP'
  clear MP'
  have HM := Lib.hid (MP.out.new w9.heap.size 0 0 0 0 25 rfl)
  have kr := MP.out.row (b := w.heap.size + 1) (c0 := b0) (c1 := b1) (c2 := b2) (c3 := b3) (by simp)
  have Fb0 := kr.c0; have Fb1 := kr.c1; have Fb2 := kr.c2; have Fb3 := kr.c3
  clear kr
  have Fbl := MP.out.lt (b := w.heap.size + 1) (c0 := b0) (c1 := b1) (c2 := b2) (c3 := b3) (by simp)
  go_wp2_with fail
  refine (rcheck_err f 21 b0 b1 b2 b3 hb (Or.inr ⟨F, hf, lb, rfl⟩) _).mono ?_
  rintro e w10 ⟨rfl, hbl⟩
  have MP' := Lib.hid (HM.out.on hbl)
  clear hbl HM MP Fb0 Fb1 Fb2 Fb3 Fbl
  have MP := MP'
  clear MP'
  have HM := MP
  have hZ := eqF_zz
  have kr := MP.out.row (b := w9.heap.size) (c0 := 0) (c1 := 0) (c2 := 0) (c3 := 0) (by simp)
  have Fd0 := kr.c0; have Fd1 := kr.c1; have Fd2 := kr.c2; have Fd3 := kr.c3
  clear kr
  have Fdl := MP.out.lt (b := w9.heap.size) (c0 := 0) (c1 := 0) (c2 := 0) (c3 := 0) (by simp)
  go_wp2_with fail
  refine (num_calls _ _).mono ?_
  rintro e wn ⟨rfl, rfl⟩
  go_wp2_with fail
  refine (works_calls _).mono ?_
  rintro e wl ⟨rfl, hbl⟩
  have ML := Lib.hid (HM.out.on hbl)
  clear hbl
  go_wp2_with fail
  go_ret
  exact ⟨rfl, ML.out.1⟩
set_option maxRecDepth 100000 in
set_option maxHeartbeats 16000000 in
theorem powers_bada (f : Int) (a0 a1 a2 a3 b0 b1 b2 b3 n0 n1 n2 n3 : Nat) (ha : ok4 a0 a1 a2 a3) (hb : ok4 b0 b1 b2 b3) (hn : ok4 n0 n1 n2 n3) (c : Int) (h : Bad1 f (val4 a0 a1 a2 a3) c) (w : World) :
    Calls Try.prog 3 #[.int .i64 f, .agg #[.int .u64 a0, .int .u64 a1, .int .u64 a2, .int .u64 a3], .agg #[.int .u64 b0, .int .u64 b1, .int .u64 b2, .int .u64 b3], .agg #[.int .u64 n0, .int .u64 n1, .int .u64 n2, .int .u64 n3]] w fun e w' => e = .returned (.bool true) ∧ Below w.heap.size w w' := by
  have hw0 : IntKind.i64.wrap 0 = 0 := by decide
  have hG := eqGuardF
  have hS := equalSelfF
  have t0 : (c != 0) = true := by have := h.ne; simp [this]
  have HB1 := Lib.hid h
  have HBD := Lib.hid (show Bad2 f (val4 a0 a1 a2 a3) (val4 b0 b1 b2 b3) c from Or.inl h)
  have HI := Lib.hid (show ∀ w, Calls Try.prog 13 #[.int .i64 f, .agg #[.int .u64 a0, .int .u64 a1, .int .u64 a2, .int .u64 a3]] w (FeE c 0 w) from fun w => finv_of f c 0 a0 a1 a2 a3 (fun W => (fdiv_err f c 1 0 0 0 a0 a1 a2 a3 one_ok4 ha (by
    rcases h with ⟨h1, h2, rfl⟩ | ⟨F, hf, hl, rfl⟩
    · exact Or.inl (Or.inl ⟨h1, h2, rfl⟩)
    · exact Or.inr ⟨F, hf, (by have := hf.ok.gt; show 1 < _; omega), hl, rfl⟩) W).mono fun e w' ⟨he, hb⟩ => ⟨0, 0, 0, 0, he, zok, rfl, hb⟩) w)
  have hZ := eqF_zz
  clear h
  go_enter Try.func3, Try.ntmps3
  go_wp2_with fail
  have HM := Lib.hid ((((Mem.nil w).new (w.heap.size) a0 a1 a2 a3 25 (by simp)).new (w.heap.size + 1) b0 b1 b2 b3 25 (by simp)).new (w.heap.size + 1 + 1) n0 n1 n2 n3 26 (by simp))
  refine (rcheck_err f c a0 a1 a2 a3 ha HB1.out _).mono ?_
  rintro e w1 ⟨rfl, hbl⟩
  have MP' := Lib.hid (HM.out.on hbl)
  clear hbl HM
  have MP := MP'
  clear MP'
  have HM := MP
  have kr := MP.out.row (b := w.heap.size) (c0 := a0) (c1 := a1) (c2 := a2) (c3 := a3) (by simp)
  have Fa0 := kr.c0; have Fa1 := kr.c1; have Fa2 := kr.c2; have Fa3 := kr.c3
  clear kr
  have Fal := MP.out.lt (b := w.heap.size) (c0 := a0) (c1 := a1) (c2 := a2) (c3 := a3) (by simp)
  have kr := MP.out.row (b := w.heap.size + 1 + 1) (c0 := n0) (c1 := n1) (c2 := n2) (c3 := n3) (by simp)
  have Fn0 := kr.c0; have Fn1 := kr.c1; have Fn2 := kr.c2; have Fn3 := kr.c3
  clear kr
  have Fnl := MP.out.lt (b := w.heap.size + 1 + 1) (c0 := n0) (c1 := n1) (c2 := n2) (c3 := n3) (by simp)
  go_wp2_with fail
  refine (fexp_err f c a0 a1 a2 a3 n0 n1 n2 n3 ha hn HB1.out _).mono ?_
  rintro e w2 ⟨rfl, hbl⟩
  have MP' := Lib.hid (HM.out.on hbl)
  clear hbl HM MP Fa0 Fa1 Fa2 Fa3 Fal Fn0 Fn1 Fn2 Fn3 Fnl
  have MP := MP'
  clear MP'
  have HM := Lib.hid (MP.out.new w2.heap.size 0 0 0 0 25 rfl)
  have kr := MP.out.row (b := w.heap.size) (c0 := a0) (c1 := a1) (c2 := a2) (c3 := a3) (by simp)
  have Fa0 := kr.c0; have Fa1 := kr.c1; have Fa2 := kr.c2; have Fa3 := kr.c3
  clear kr
  have Fal := MP.out.lt (b := w.heap.size) (c0 := a0) (c1 := a1) (c2 := a2) (c3 := a3) (by simp)
  go_wp2_with fail
  refine (fleg_err f c a0 a1 a2 a3 ha HB1.out _).mono ?_
  rintro e w3 ⟨rfl, hbl⟩
  have MP' := Lib.hid (HM.out.on hbl)
  clear hbl HM MP Fa0 Fa1 Fa2 Fa3 Fal
  have MP := MP'
  clear MP'
  have HM := MP
  have kr := MP.out.row (b := w.heap.size) (c0 := a0) (c1 := a1) (c2 := a2) (c3 := a3) (by simp)
  have Fa0 := kr.c0; have Fa1 := kr.c1; have Fa2 := kr.c2; have Fa3 := kr.c3
  clear kr
  have Fal := MP.out.lt (b := w.heap.size) (c0 := a0) (c1 := a1) (c2 := a2) (c3 := a3) (by simp)
  go_wp2_with fail
  refine (flower_err f c a0 a1 a2 a3 ha HB1.out _).mono ?_
  rintro e w4 ⟨rfl, hbl⟩
  have MP' := Lib.hid (HM.out.on hbl)
  clear hbl HM MP Fa0 Fa1 Fa2 Fa3 Fal
  have MP := MP'
  clear MP'
  have HM := MP
  have kr := MP.out.row (b := w.heap.size) (c0 := a0) (c1 := a1) (c2 := a2) (c3 := a3) (by simp)
  have Fa0 := kr.c0; have Fa1 := kr.c1; have Fa2 := kr.c2; have Fa3 := kr.c3
  clear kr
  have Fal := MP.out.lt (b := w.heap.size) (c0 := a0) (c1 := a1) (c2 := a2) (c3 := a3) (by simp)
  go_wp2_with fail
  refine (HI.out _).mono ?_
  rintro e w5 ⟨x0, x1, x2, x3, rfl, hx, hv, hbl⟩
  have hZx := eqF_zero hx hv
  clear hv
  have MP' := Lib.hid (HM.out.on hbl)
  clear hbl HM MP Fa0 Fa1 Fa2 Fa3 Fal
  have MP := MP'
  clear MP'
  have HM := Lib.hid (MP.out.new w5.heap.size x0 x1 x2 x3 25 rfl)
  have kr := MP.out.row (b := w.heap.size) (c0 := a0) (c1 := a1) (c2 := a2) (c3 := a3) (by simp)
  have Fa0 := kr.c0; have Fa1 := kr.c1; have Fa2 := kr.c2; have Fa3 := kr.c3
  clear kr
  have Fal := MP.out.lt (b := w.heap.size) (c0 := a0) (c1 := a1) (c2 := a2) (c3 := a3) (by simp)
  go_wp2_with fail
  refine (fsqrt_err f c a0 a1 a2 a3 ha HB1.out _).mono ?_
  rintro e w6 ⟨rfl, hbl⟩
  have MP' := Lib.hid (HM.out.on hbl)
  clear hbl HM MP Fa0 Fa1 Fa2 Fa3 Fal
  have MP := MP'
  clear MP'
  have HM := Lib.hid (MP.out.new w6.heap.size 0 0 0 0 25 rfl)
  have kr := MP.out.row (b := w.heap.size) (c0 := a0) (c1 := a1) (c2 := a2) (c3 := a3) (by simp)
  have Fa0 := kr.c0; have Fa1 := kr.c1; have Fa2 := kr.c2; have Fa3 := kr.c3
  clear kr
  have Fal := MP.out.lt (b := w.heap.size) (c0 := a0) (c1 := a1) (c2 := a2) (c3 := a3) (by simp)
  have kr := MP.out.row (b := w.heap.size + 1) (c0 := b0) (c1 := b1) (c2 := b2) (c3 := b3) (by simp)
  have Fb0 := kr.c0; have Fb1 := kr.c1; have Fb2 := kr.c2; have Fb3 := kr.c3
  clear kr
  have Fbl := MP.out.lt (b := w.heap.size + 1) (c0 := b0) (c1 := b1) (c2 := b2) (c3 := b3) (by simp)
  go_wp2_with fail
  refine (fdiv_err f c a0 a1 a2 a3 b0 b1 b2 b3 ha hb HBD.out _).mono ?_
  rintro e w7 ⟨rfl, hbl⟩
  have MP' := Lib.hid (HM.out.on hbl)
  clear hbl HM MP Fa0 Fa1 Fa2 Fa3 Fal Fb0 Fb1 Fb2 Fb3 Fbl
  have MP := MP'
  clear MP'
  have HM := Lib.hid (MP.out.new w7.heap.size 0 0 0 0 25 rfl)
  have kr := MP.out.row (b := w2.heap.size) (c0 := 0) (c1 := 0) (c2 := 0) (c3 := 0) (by simp)
  have Fp0 := kr.c0; have Fp1 := kr.c1; have Fp2 := kr.c2; have Fp3 := kr.c3
  clear kr
  have Fpl := MP.out.lt (b := w2.heap.size) (c0 := 0) (c1 := 0) (c2 := 0) (c3 := 0) (by simp)
  have kr := MP.out.row (b := w5.heap.size) (c0 := x0) (c1 := x1) (c2 := x2) (c3 := x3) (by simp)
  have Fx0 := kr.c0; have Fx1 := kr.c1; have Fx2 := kr.c2; have Fx3 := kr.c3
  clear kr
  have Fxl := MP.out.lt (b := w5.heap.size) (c0 := x0) (c1 := x1) (c2 := x2) (c3 := x3) (by simp)
  have kr := MP.out.row (b := w6.heap.size) (c0 := 0) (c1 := 0) (c2 := 0) (c3 := 0) (by simp)
  have Fy0 := kr.c0; have Fy1 := kr.c1; have Fy2 := kr.c2; have Fy3 := kr.c3
  clear kr
  have Fyl := MP.out.lt (b := w6.heap.size) (c0 := 0) (c1 := 0) (c2 := 0) (c3 := 0) (by simp)
  go_wp2_with fail
  refine (num_calls _ _).mono ?_
  rintro e wn ⟨rfl, rfl⟩
  go_wp2_with fail
  refine (num_calls _ _).mono ?_
  rintro e wn ⟨rfl, rfl⟩
  go_wp2_with fail
  refine (num_calls _ _).mono ?_
  rintro e wn ⟨rfl, rfl⟩
  go_wp2_with fail
  refine (num_calls _ _).mono ?_
  rintro e wn ⟨rfl, rfl⟩
  go_wp2_with fail
  refine (num_calls _ _).mono ?_
  rintro e wn ⟨rfl, rfl⟩
  go_wp2_with fail
  refine (num_calls _ _).mono ?_
  rintro e wn ⟨rfl, rfl⟩
  go_wp2_with fail
  refine (works_calls _).mono ?_
  rintro e wl ⟨rfl, hbl⟩
  have ML := Lib.hid (HM.out.on hbl)
  clear hbl
  go_wp2_with fail
  go_ret
  exact ⟨rfl, ML.out.1⟩
theorem powers_calls (f : Int) (a0 a1 a2 a3 b0 b1 b2 b3 n0 n1 n2 n3 : Nat) (ha : ok4 a0 a1 a2 a3) (hb : ok4 b0 b1 b2 b3) (hn : ok4 n0 n1 n2 n3) (w : World) :
    Calls Try.prog 3 #[.int .i64 f, .agg #[.int .u64 a0, .int .u64 a1, .int .u64 a2, .int .u64 a3], .agg #[.int .u64 b0, .int .u64 b1, .int .u64 b2, .int .u64 b3], .agg #[.int .u64 n0, .int .u64 n1, .int .u64 n2, .int .u64 n3]] w fun e w' => e = .returned (.bool true) ∧ Below w.heap.size w w' := by
  rcases all1 f (val4 a0 a1 a2 a3) with ⟨F, hf, la⟩ | ⟨c, h⟩
  · by_cases lb : (val4 b0 b1 b2 b3) < F.M
    · exact powers_ok f a0 a1 a2 a3 b0 b1 b2 b3 n0 n1 n2 n3 ha hb hn F hf la lb w
    · exact powers_badb f a0 a1 a2 a3 b0 b1 b2 b3 n0 n1 n2 n3 ha hb hn F hf la lb w
  · exact powers_bada f a0 a1 a2 a3 b0 b1 b2 b3 n0 n1 n2 n3 ha hb hn c h w
end Go.Proofs.Ytalddekocfkbhaa
