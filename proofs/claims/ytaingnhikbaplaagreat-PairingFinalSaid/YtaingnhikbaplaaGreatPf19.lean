/-
  The reference's bit, Of and Exp, for either field: the power of an element. Conditions: words below 2^64.
  The reference's Lower, half, Legendre and Inv, for either field. Conditions: words below 2^64.
  The reference's Fp2 and Fp6 in a table of calls; the tower's Fp6. Conditions: none.
  Powers in commutative rings; where p times anything is 0, the p-th power of a sum is the sum of the p-th powers. Conditions: none.
-/
import Derived.Test.YtaingnhikbaplaaGreatPf18
import Derived.Test.YtaingnhikbaplaaGreatPf09
import Derived.Test.YtaingnhikbaplaaGreatPf12
import Derived.Test.YtaingnhikbaplaaGreatPf15
import Derived.Test.YtaingnhikbaplaaGreatPf06
import Derived.Test.YtaingnhikbaplaaGreatPf05
namespace Go.Proofs.YtaingnhikbaplaaGreat
set_option linter.unusedVariables false
set_option linter.unusedSimpArgs false
open Go.RowKit

set_option maxRecDepth 20000 in
set_option maxHeartbeats 1000000 in
theorem rof_calls (n : Nat) (w : World) : Calls Tryz.prog 238 #[.int .u64 n] w fun e w' => e = .returned (.agg #[.int .u64 n, .int .u64 0, .int .u64 0, .int .u64 0]) ∧ Below w.heap.size w w' := by
  go_enter Tryz.func238, Tryz.ntmps238
  go_wp2_with fail
  refine bodyPost_ret (v := .agg #[.int .u64 n, .int .u64 0, .int .u64 0, .int .u64 0]) (by simp [results, Tryz.results238, go_sem]) rfl ?_
  refine ⟨rfl, ?_⟩
  repeat (first | exact Below.refl _ _ | refine Below.drew ?_ | refine Below.alloc ?_ (by first | (simp; done) | (simp; omega)) _ | refine Below.setCell ?_ (by simp) _)
set_option maxRecDepth 20000 in
set_option maxHeartbeats 1000000 in
theorem rbit_calls (a0 a1 a2 a3 i : Nat) (ha : ok4 a0 a1 a2 a3) (hi : i < 256) (w : World) :
    Calls Tryz.prog 239 #[.agg #[.int .u64 a0, .int .u64 a1, .int .u64 a2, .int .u64 a3], .int .i64 i] w (fun e w' => e = .returned (.bool (decide (bitOf (val4 a0 a1 a2 a3) i = 1))) ∧ Below w.heap.size w w') := by
  obtain ⟨j, k, q, r, hj, hk, e⟩ := ex_ix hi
  have hc := new_cell w 70 a0 a1 a2 a3 j hj
  have hx := fn4_lt ha j
  obtain ⟨s, e1, e2, hs⟩ := ex_bit hx (bit_fn ha hj hk e.out)
  have hb := bitOf_01 (val4 a0 a1 a2 a3) i
  generalize bitOf (val4 a0 a1 a2 a3) i = b at *
  generalize fnOf [a0, a1, a2, a3] j = x at *
  have hb' : b ≤ 1 := by omega
  clear e
  go_enter Tryz.func239, Tryz.ntmps239
  rcases hb with rfl | rfl
  · go_wp2_with fail
    go_ret
    exact ⟨rfl, (Below.refl _ _).alloc (Nat.le_refl _) _⟩
  · go_wp2_with fail
    go_ret
    exact ⟨rfl, (Below.refl _ _).alloc (Nat.le_refl _) _⟩

theorem rpow0 {M A N i : Nat} (hb : bitOf N i = 0) : A ^ (N / 2 ^ (i + 1)) % M * (A ^ (N / 2 ^ (i + 1)) % M) % M = A ^ (N / 2 ^ i) % M := by
  rw [← Nat.mul_mod, ← Nat.pow_add, bit_step N i, hb]
  congr 2
  omega
theorem rpow1 {M A N i : Nat} (hb : bitOf N i = 1) : A ^ (N / 2 ^ (i + 1)) % M * (A ^ (N / 2 ^ (i + 1)) % M) % M * A % M = A ^ (N / 2 ^ i) % M := by
  rw [← Nat.mul_mod, ← Nat.pow_add, bit_step N i, hb, Nat.mod_mul_mod, ← Nat.pow_succ]
  congr 2
  omega

set_option maxRecDepth 100000 in
set_option maxHeartbeats 4000000 in
theorem rexp_calls (f : Int) (F : FC) (hf : FieldIs f F) (a0 a1 a2 a3 n0 n1 n2 n3 : Nat) (ha : ok4 a0 a1 a2 a3) (hn : ok4 n0 n1 n2 n3) (w : World) :
    Calls Tryz.prog 178 #[.int .i64 f, .agg #[.int .u64 a0, .int .u64 a1, .int .u64 a2, .int .u64 a3], .agg #[.int .u64 n0, .int .u64 n1, .int .u64 n2, .int .u64 n3]] w (FePost (val4 a0 a1 a2 a3 ^ val4 n0 n1 n2 n3 % F.M) w) := by
  have h2 := hf.ok.gt
  go_enter Tryz.func178, Tryz.ntmps178
  go_wp2_with fail
  have M0 := ((((Mem.nil w).new w.heap.size a0 a1 a2 a3 24 rfl).new (w.heap.size + 1) n0 n1 n2 n3 70 (by simp)).new (w.heap.size + 1 + 1) 0 0 0 0 24 (by simp))
  refine (rof_calls 1 _).mono ?_
  rintro e w1 ⟨rfl, hbl⟩
  have M1 := M0.on hbl
  have hz1 : w.heap.size + 1 + 1 < w1.heap.size := M1.lt (c0 := 0) (c1 := 0) (c2 := 0) (c3 := 0) (by simp)
  have M2 := Lib.hid (M1.new w1.heap.size 1 0 0 0 24 rfl)
  clear hbl M0 M1
  go_wp2_with fail
  go_loopw [8] (fun t wr => ∃ (j r0 r1 r2 r3 : Nat) (m : Int), j ≤ 256 ∧ Hid (m = (j : Int) - 1) ∧ t = .int .i64 m ∧ ok4 r0 r1 r2 r3 ∧ Hid (val4 r0 r1 r2 r3 = val4 a0 a1 a2 a3 ^ (val4 n0 n1 n2 n3 / 2 ^ j) % F.M) ∧ Hid (Mem w wr [(w1.heap.size, r0, r1, r2, r3), (w.heap.size + 1 + 1, 0, 0, 0, 0), (w.heap.size + 1, n0, n1, n2, n3), (w.heap.size, a0, a1, a2, a3)])) (fun t _ => (intOf t + 1).toNat)
  case atStart =>
    refine ⟨256, 1, 0, 0, 0, 255, Nat.le_refl _, Lib.hid (by omega), rfl, (show ok4 1 0 0 0 by unfold ok4; decide), Lib.hid ?_, M2⟩
    rw [Nat.div_eq_of_lt (show val4 n0 n1 n2 n3 < 2 ^ 256 from val4_lt hn), Nat.pow_zero, Nat.mod_eq_of_lt (by omega)]
    rfl
  case round =>
    obtain ⟨j, r0, r1, r2, r3, m, hj, hm, rfl, hr, HV, HM⟩ := hrel
    by_cases hlt : 0 < j
    · obtain ⟨i, hi⟩ : ∃ i, j = i + 1 := ⟨j - 1, by omega⟩
      subst hi
      obtain rfl : m = (i : Int) := by have := hm.out; omega
      have Rr := HM.out.row (b := w1.heap.size) (c0 := r0) (c1 := r1) (c2 := r2) (c3 := r3) (by simp)
      have x0 := Rr.c0; have x1 := Rr.c1; have x2 := Rr.c2; have x3 := Rr.c3
      have ltr := HM.out.lt (b := w1.heap.size) (c0 := r0) (c1 := r1) (c2 := r2) (c3 := r3) (by simp)
      clear Rr hm
      go_wp2_with fail
      refine (rmul_calls f F hf r0 r1 r2 r3 r0 r1 r2 r3 hr hr _).mono ?_
      rintro e w3 ⟨p0, p1, p2, p3, rfl, hp, hv, hbl⟩
      have HP := Lib.hid (show val4 p0 p1 p2 p3 = _ by rw [hv, HV.out])
      have M4 := HM.out.on hbl
      have lt4 := M4.lt (b := w1.heap.size) (c0 := r0) (c1 := r1) (c2 := r2) (c3 := r3) (by simp)
      have Rr := M4.row (b := w1.heap.size) (c0 := r0) (c1 := r1) (c2 := r2) (c3 := r3) (by simp)
      have Rn := M4.row (b := w.heap.size + 1) (c0 := n0) (c1 := n1) (c2 := n2) (c3 := n3) (by simp)
      have M5 := Lib.hid (M4.put p0 p1 p2 p3 (by omega) (by intro r hr; simp at hr; rcases hr with rfl | rfl | rfl <;> simp <;> omega))
      clear x0 x1 x2 x3 hv hbl M4
      have x0 := Rr.c0; have x1 := Rr.c1; have x2 := Rr.c2; have x3 := Rr.c3; have xf := Rr.fr
      have y0 := Rn.c0; have y1 := Rn.c1; have y2 := Rn.c2; have y3 := Rn.c3
      have ne1 : ¬ w.heap.size + 1 = w1.heap.size := by omega
      have ne1' : ¬ w1.heap.size = w.heap.size + 1 := by omega
      have hi256 : i < 256 := by omega
      clear Rr Rn
      go_wp2_with fail
      refine (rbit_calls n0 n1 n2 n3 i hn hi256 _).mono ?_
      rintro e w4 ⟨he, hbl⟩
      have M5' := M5.out
      unfold set4 at M5'
      have M6 := M5'.on hbl
      clear hbl M5' x0 x1 x2 x3 xf y0 y1 y2 y3
      have lt6 := M6.lt (b := w1.heap.size) (c0 := p0) (c1 := p1) (c2 := p2) (c3 := p3) (by simp)
      rcases bitOf_01 (val4 n0 n1 n2 n3) i with hb | hb
      · rw [hb, show decide (0 = 1) = false from rfl] at he
        subst he
        have HS := Lib.hid (show val4 p0 p1 p2 p3 = val4 a0 a1 a2 a3 ^ (val4 n0 n1 n2 n3 / 2 ^ i) % F.M by rw [HP.out]; exact rpow0 hb)
        have M7 := Lib.hid M6
        clear hb M6
        go_wp2_with fail
        go_roundw
        case rel => exact ⟨i, p0, p1, p2, p3, (i : Int) - 1, by omega, Lib.hid rfl, by first | rfl | go_num, hp, HS, M7⟩
        case measure => first | (simp [intOf]; done) | (simp [intOf]; omega)
      · rw [hb, show decide (1 = 1) = true from rfl] at he
        subst he
        have Rr := M6.row (b := w1.heap.size) (c0 := p0) (c1 := p1) (c2 := p2) (c3 := p3) (by simp)
        have Ra := M6.row (b := w.heap.size) (c0 := a0) (c1 := a1) (c2 := a2) (c3 := a3) (by simp)
        have x0 := Rr.c0; have x1 := Rr.c1; have x2 := Rr.c2; have x3 := Rr.c3
        have z0 := Ra.c0; have z1 := Ra.c1; have z2 := Ra.c2; have z3 := Ra.c3
        have HB := Lib.hid hb
        have M7 := Lib.hid M6
        clear hb M6 Rr Ra
        go_wp2_with fail
        refine (rmul_calls f F hf p0 p1 p2 p3 a0 a1 a2 a3 hp ha _).mono ?_
        rintro e w5 ⟨q0, q1, q2, q3, rfl, hq, hv, hbl⟩
        have HS := Lib.hid (show val4 q0 q1 q2 q3 = val4 a0 a1 a2 a3 ^ (val4 n0 n1 n2 n3 / 2 ^ i) % F.M by rw [hv, HP.out]; exact rpow1 HB.out)
        have M8 := M7.out.on hbl
        have lt8 := M8.lt (b := w1.heap.size) (c0 := p0) (c1 := p1) (c2 := p2) (c3 := p3) (by simp)
        have Rr := M8.row (b := w1.heap.size) (c0 := p0) (c1 := p1) (c2 := p2) (c3 := p3) (by simp)
        have M9 := Lib.hid (M8.put q0 q1 q2 q3 (by omega) (by intro r hr; simp at hr; rcases hr with rfl | rfl | rfl <;> simp <;> omega))
        clear x0 x1 x2 x3 z0 z1 z2 z3 hv hbl M8
        have x0 := Rr.c0; have x1 := Rr.c1; have x2 := Rr.c2; have x3 := Rr.c3; have xf := Rr.fr
        clear Rr
        go_wp2_with fail
        go_roundw
        case rel => exact ⟨i, q0, q1, q2, q3, (i : Int) - 1, by omega, Lib.hid rfl, by first | rfl | go_num, hq, HS, M9⟩
        case measure => first | (simp [intOf]; done) | (simp [intOf]; omega)
    · obtain rfl : j = 0 := by omega
      obtain rfl : m = -1 := by have := hm.out; omega
      have Rr := HM.out.row (b := w1.heap.size) (c0 := r0) (c1 := r1) (c2 := r2) (c3 := r3) (by simp)
      have x0 := Rr.c0; have x1 := Rr.c1; have x2 := Rr.c2; have x3 := Rr.c3
      have Ro := HM.out.row (b := w.heap.size + 1 + 1) (c0 := 0) (c1 := 0) (c2 := 0) (c3 := 0) (by simp)
      have o0 := Ro.c0; have o1 := Ro.c1; have o2 := Ro.c2; have o3 := Ro.c3; have of := Ro.fr
      have ltr := HM.out.lt (b := w1.heap.size) (c0 := r0) (c1 := r1) (c2 := r2) (c3 := r3) (by simp)
      have lto := HM.out.lt (b := w.heap.size + 1 + 1) (c0 := 0) (c1 := 0) (c2 := 0) (c3 := 0) (by simp)
      clear Rr Ro hm
      go_wp2_with fail
      refine bodyPost_ret (v := .agg #[.int .u64 r0, .int .u64 r1, .int .u64 r2, .int .u64 r3]) (by simp [results, Tryz.results178, go_sem, *]) rfl ?_
      refine ⟨_, _, _, _, rfl, hr, by rw [HV.out, Nat.pow_zero, Nat.div_one], ?_⟩
      exact below_set4 HM.out.1 (by omega) _ _ _ _
end Go.Proofs.YtaingnhikbaplaaGreat
namespace Go.Proofs.YtaingnhikbaplaaGreat
set_option linter.unusedVariables false
set_option linter.unusedSimpArgs false
open Go.RowKit

theorem eqWz_yes {s0 s1 s2 s3 : Nat} (hs : ok4 s0 s1 s2 s3) (h : val4 s0 s1 s2 s3 = 0) (w : World) : (Op.equalIn 10000 70 (.agg #[.int .u64 s0, .int .u64 s1, .int .u64 s2, .int .u64 s3]) (.agg #[.int .u64 0, .int .u64 0, .int .u64 0, .int .u64 0])).run Tryz.prog w = .ok true w := by
  have h' := equalInW 9998 s0 s1 s2 s3 0 0 0 0 w
  rw [(eqW_iff hs zok).2 (h.trans rfl)] at h'
  exact h'
theorem eqWz_no {s0 s1 s2 s3 : Nat} (hs : ok4 s0 s1 s2 s3) (h : val4 s0 s1 s2 s3 ≠ 0) (w : World) : (Op.equalIn 10000 70 (.agg #[.int .u64 s0, .int .u64 s1, .int .u64 s2, .int .u64 s3]) (.agg #[.int .u64 0, .int .u64 0, .int .u64 0, .int .u64 0])).run Tryz.prog w = .ok false w := by
  have h' := equalInW 9998 s0 s1 s2 s3 0 0 0 0 w
  rw [eqW_false (fun q => h ((eqW_iff hs zok).1 q))] at h'
  exact h'
theorem eqGuardWd : Tryz.prog.eqGuardType Tryz.prog.depth 70 = false := by kernel_rfl
set_option maxRecDepth 100000 in
set_option maxHeartbeats 2000000 in
theorem rinv1_calls (f : Int) (F : FC) (hf : FieldIs f F) (a0 a1 a2 a3 : Nat) (ha : ok4 a0 a1 a2 a3) (hz : val4 a0 a1 a2 a3 % F.M ≠ 0) (w : World) :
    Calls Tryz.prog 111 #[.int .i64 f, .agg #[.int .u64 a0, .int .u64 a1, .int .u64 a2, .int .u64 a3]] w (fun e w' => ∃ s0 s1 s2 s3 : Nat, e = .returned (.tuple #[.agg #[.int .u64 s0, .int .u64 s1, .int .u64 s2, .int .u64 s3], .int .i64 0]) ∧ ok4 s0 s1 s2 s3 ∧ val4 s0 s1 s2 s3 = val4 a0 a1 a2 a3 ^ (F.M - 2) % F.M ∧ Below w.heap.size w w') := by
  have hG := eqGuardWd
  have h2 := hf.ok.gt
  go_enter Tryz.func111, Tryz.ntmps111
  go_wp2_with fail
  have HM := Lib.hid (((Mem.nil w).new (w.heap.size) a0 a1 a2 a3 24 (by simp)).new (w.heap.size + 1) 0 0 0 0 24 (by simp))
  refine (down_calls f F hf a0 a1 a2 a3 ha _).mono ?_
  rintro e w1 ⟨d0, d1, d2, d3, rfl, hd, hv, hbl⟩
  have HM' := Lib.hid (HM.out.on hbl)
  clear HM hbl
  have HM := HM'
  clear HM'
  have EQ := eqWz_no hd (by rw [hv]; exact hz)
  clear hv hz
  go_wp2_with fail
  refine (rmod_some f F hf _).mono ?_
  rintro e w2 ⟨rfl, hbl⟩
  have HM' := Lib.hid (HM.out.on hbl)
  clear HM hbl
  have HM := HM'
  clear HM'
  go_wp2_with fail
  refine (refMinus_calls F.m0 F.m1 F.m2 F.m3 2 0 0 0 hf.ok.okm (show ok4 2 0 0 0 by unfold ok4; decide) _).mono ?_
  rintro e w3 ⟨n0, n1, n2, n3, c, rfl, hn, hc, hv, hbl⟩
  have HVn := Lib.hid (show val4 n0 n1 n2 n3 = F.M - 2 by
    have e2 : val4 2 0 0 0 = 2 := rfl
    have := val4_lt hn
    rw [e2] at hv
    have e3 : val4 F.m0 F.m1 F.m2 F.m3 = F.M := rfl
    rw [e3] at hv
    have : c = 0 := by rcases (show c = 0 ∨ c = 1 by omega) with h | h; exact h; subst h; omega
    subst this
    omega)
  clear hv hc
  have HM' := Lib.hid ((HM.out.on hbl).new w3.heap.size n0 n1 n2 n3 70 rfl)
  clear HM hbl
  have HM := HM'
  clear HM'
  have kr := HM.out.row (b := w.heap.size) (c0 := a0) (c1 := a1) (c2 := a2) (c3 := a3) (by simp)
  have x0 := kr.c0; have x1 := kr.c1; have x2 := kr.c2; have x3 := kr.c3
  clear kr
  have xl : w.heap.size < w3.heap.size := by have := HM.out.lt (b := w.heap.size) (c0 := a0) (c1 := a1) (c2 := a2) (c3 := a3) (by simp); have l2 := HM.out.lt (b := w.heap.size + 1) (c0 := 0) (c1 := 0) (c2 := 0) (c3 := 0) (by simp); simp at l2; omega
  go_wp2_with fail
  refine (rexp_calls f F hf a0 a1 a2 a3 n0 n1 n2 n3 ha hn _).mono ?_
  rintro e w4 ⟨s0, s1, s2, s3, rfl, hs, hv, hbl⟩
  have HVs := Lib.hid (show val4 s0 s1 s2 s3 = val4 a0 a1 a2 a3 ^ (F.M - 2) % F.M by rw [hv, HVn.out])
  have HM' := Lib.hid (HM.out.on hbl)
  clear HM hbl hv x0 x1 x2 x3 xl
  have HM := HM'
  clear HM'
  have kr := HM.out.row (b := w.heap.size + 1) (c0 := 0) (c1 := 0) (c2 := 0) (c3 := 0) (by simp)
  have y0 := kr.c0; have y1 := kr.c1; have y2 := kr.c2; have y3 := kr.c3; have yf := kr.fr
  have yl := HM.out.lt (b := w.heap.size + 1) (c0 := 0) (c1 := 0) (c2 := 0) (c3 := 0) (by simp)
  clear kr
  go_wp2_with fail
  refine bodyPost_ret (v := .tuple #[.agg #[.int .u64 s0, .int .u64 s1, .int .u64 s2, .int .u64 s3], .int .i64 0]) (by simp [results, Tryz.results111, go_sem, *]) rfl ?_
  refine ⟨_, _, _, _, rfl, hs, HVs.out, ?_⟩
  exact below_set4 HM.out.1 (by omega) _ _ _ _
set_option maxRecDepth 100000 in
set_option maxHeartbeats 2000000 in
theorem rinv0_calls (f : Int) (F : FC) (hf : FieldIs f F) (a0 a1 a2 a3 : Nat) (ha : ok4 a0 a1 a2 a3) (hz : val4 a0 a1 a2 a3 % F.M = 0) (w : World) :
    Calls Tryz.prog 111 #[.int .i64 f, .agg #[.int .u64 a0, .int .u64 a1, .int .u64 a2, .int .u64 a3]] w (fun e w' => ∃ s0 s1 s2 s3 : Nat, e = .returned (.tuple #[.agg #[.int .u64 s0, .int .u64 s1, .int .u64 s2, .int .u64 s3], .int .i64 22]) ∧ ok4 s0 s1 s2 s3 ∧ val4 s0 s1 s2 s3 = 0 ∧ Below w.heap.size w w') := by
  have hG := eqGuardWd
  have h2 := hf.ok.gt
  go_enter Tryz.func111, Tryz.ntmps111
  go_wp2_with fail
  have HM := Lib.hid (((Mem.nil w).new (w.heap.size) a0 a1 a2 a3 24 (by simp)).new (w.heap.size + 1) 0 0 0 0 24 (by simp))
  refine (down_calls f F hf a0 a1 a2 a3 ha _).mono ?_
  rintro e w1 ⟨d0, d1, d2, d3, rfl, hd, hv, hbl⟩
  have HM' := Lib.hid (HM.out.on hbl)
  clear HM hbl
  have HM := HM'
  clear HM'
  have EQ := eqWz_yes hd (by rw [hv]; exact hz)
  clear hv hz
  have kr := HM.out.row (b := w.heap.size + 1) (c0 := 0) (c1 := 0) (c2 := 0) (c3 := 0) (by simp)
  have y0 := kr.c0; have y1 := kr.c1; have y2 := kr.c2; have y3 := kr.c3; have yf := kr.fr
  have yl := HM.out.lt (b := w.heap.size + 1) (c0 := 0) (c1 := 0) (c2 := 0) (c3 := 0) (by simp)
  clear kr
  go_wp2_with fail
  refine bodyPost_ret (v := .tuple #[.agg #[.int .u64 (0 : Nat), .int .u64 (0 : Nat), .int .u64 (0 : Nat), .int .u64 (0 : Nat)], .int .i64 22]) (by simp [results, Tryz.results111, go_sem, *]) rfl ?_
  refine ⟨_, _, _, _, rfl, zok, rfl, ?_⟩
  exact below_set4 HM.out.1 (by omega) 0 0 0 0
end Go.Proofs.YtaingnhikbaplaaGreat
namespace Go.Proofs.YtaingnhikbaplaaGreat.Ex
set_option linter.unusedVariables false
set_option linter.unusedSimpArgs false
open Go.RowKit
/-- the reference's calls over the first field -/
def gR (op : Fq → Fq → Fq) : Ent
  | [.v (.im (.int .i64 (.ofNat 1))), .v (.fl l), .v (.fl m)] => match rv1 l, rv1 m with
    | some x, some y => some ([], .one (.fl (e1 (op x y))))
    | _, _ => none
  | _ => none
noncomputable def gRI (c : Bool) : Ent
  | [.v (.im (.int .i64 (.ofNat 1))), .v (.fl l)] => match rv1 l with
    | some x => bif c then some ([x ≠ F1.zero], .many [.fl (e1 (finv x)), .im (.int .i64 0)]) else some ([x = F1.zero], .many [.fl (e1 F1.zero), .im (.int .i64 22)])
    | none => none
  | _ => none
theorem gR_ok {f : FuncId} {op : Fq → Fq → Fq} (h : ∀ (a b : Nat) (w : World), Calls Tryz.prog f #[.int .i64 1, .agg (flat (q1 a)).toArray, .agg (flat (q1 b)).toArray] w (FwPost (op (m1 a) (m1 b)).1 w)) :
    ∀ cs pre r, gR op cs = some (pre, r) → allP pre → ∀ (args : List Value) (w : World), CAs w cs args → Good Tryz.prog f r args w := by
  intro cs pre r hg hp args w ha
  unfold gR at hg
  split at hg
  · rename_i l m
    split at hg
    · rename_i x y hx hy
      cases hg
      obtain ⟨a, e1, rfl⟩ := rv1_ok l x hx
      obtain ⟨b, e2, rfl⟩ := rv1_ok m y hy
      match args, ha with
      | [v, u, s], ha =>
        have h1 : v = .int .i64 1 := ha.1
        have h2 : u = .agg (flat l).toArray := ha.2.1
        have h3 : s = .agg (flat m).toArray := ha.2.2.1
        rw [e1] at h2
        rw [e2] at h3
        subst h1; subst h2; subst h3
        exact (h a b w).mono fun e w' h => h
      | [], ha => exact ha.elim
      | [_], ha => exact ha.2.elim
      | [_, _], ha => exact ha.2.2.elim
      | _ :: _ :: _ :: _ :: _, ha => exact ha.2.2.2.elim
    · cases hg
  · cases hg
theorem r_add (a b : Nat) (w : World) : Calls Tryz.prog 182 #[.int .i64 1, .agg (flat (q1 a)).toArray, .agg (flat (q1 b)).toArray] w (FwPost (F1.add (m1 a) (m1 b)).1 w) := by
  refine (radd_calls 1 FP fld1 _ _ _ _ _ _ _ _ (fw_ok a) (fw_ok b) w).mono fun e w' h => ?_
  rw [show (F1.add (m1 a) (m1 b)).1 = (val4 (fw a 0) (fw a 1) (fw a 2) (fw a 3) + val4 (fw b 0) (fw b 1) (fw b 2) (fw b 3)) % FP.M from (Nat.add_mod _ _ _).symm]
  exact FwPost.of (Nat.mod_lt _ fp_pos) h
theorem r_sub (a b : Nat) (w : World) : Calls Tryz.prog 186 #[.int .i64 1, .agg (flat (q1 a)).toArray, .agg (flat (q1 b)).toArray] w (FwPost (F1.sub (m1 a) (m1 b)).1 w) := by
  refine (rsub_calls 1 FP fld1 _ _ _ _ _ _ _ _ (fw_ok a) (fw_ok b) w).mono fun e w' h => ?_
  have e : (F1.sub (m1 a) (m1 b)).1 = (val4 (fw a 0) (fw a 1) (fw a 2) (fw a 3) + (FP.M - val4 (fw b 0) (fw b 1) (fw b 2) (fw b 3) % FP.M)) % FP.M := by
    show (wv a % FP.M + (0 + FP.M - wv b % FP.M) % FP.M) % FP.M = (wv a + (FP.M - wv b % FP.M)) % FP.M
    rw [Nat.zero_add, ← Nat.add_mod]
  rw [e]
  exact FwPost.of (Nat.mod_lt _ fp_pos) h
theorem r_mul (a b : Nat) (w : World) : Calls Tryz.prog 183 #[.int .i64 1, .agg (flat (q1 a)).toArray, .agg (flat (q1 b)).toArray] w (FwPost (F1.mul (m1 a) (m1 b)).1 w) := by
  refine (rmul_calls 1 FP fld1 _ _ _ _ _ _ _ _ (fw_ok a) (fw_ok b) w).mono fun e w' h => ?_
  rw [show (F1.mul (m1 a) (m1 b)).1 = (val4 (fw a 0) (fw a 1) (fw a 2) (fw a 3) * val4 (fw b 0) (fw b 1) (fw b 2) (fw b 3)) % FP.M from (Nat.mul_mod _ _ _).symm]
  exact FwPost.of (Nat.mod_lt _ fp_pos) h
theorem r_inv (c : Bool) : ∀ cs pre r, gRI c cs = some (pre, r) → allP pre → ∀ (args : List Value) (w : World), CAs w cs args → Good Tryz.prog 111 r args w := by
  intro cs pre r hg hp args w ha
  unfold gRI at hg
  split at hg
  · rename_i l
    split at hg
    · rename_i x hx
      obtain ⟨a, e1, rfl⟩ := rv1_ok l x hx
      match args, ha with
      | [v, u], ha =>
        have h1 : v = .int .i64 1 := ha.1
        have h2 : u = .agg (flat l).toArray := ha.2.1
        rw [e1] at h2
        subst h1; subst h2
        cases c
        · cases hg
          have hz : m1 a = F1.zero := hp.1
          have hz' : val4 (fw a 0) (fw a 1) (fw a 2) (fw a 3) % FP.M = 0 := congrArg Fin.val hz
          refine (rinv0_calls 1 FP fld1 _ _ _ _ (fw_ok a) hz' w).mono ?_
          rintro e w' ⟨s0, s1, s2, s3, rfl, hs, hv, hb⟩
          obtain ⟨rfl, rfl, rfl, rfl⟩ := fw_of hs (fp_lt fp_pos) hv
          exact ⟨rfl, hb⟩
        · cases hg
          have hz : m1 a ≠ F1.zero := hp.1
          have hz' : val4 (fw a 0) (fw a 1) (fw a 2) (fw a 3) % FP.M ≠ 0 := fun e => hz (Fin.ext e)
          refine (rinv1_calls 1 FP fld1 _ _ _ _ (fw_ok a) hz' w).mono ?_
          rintro e w' ⟨s0, s1, s2, s3, rfl, hs, hv, hb⟩
          have hf : (finv (m1 a)).1 = val4 (fw a 0) (fw a 1) (fw a 2) (fw a 3) ^ (FP.M - 2) % FP.M := by
            rw [finv_val, Nat.one_mul]
            exact (Nat.pow_mod _ _ _).symm
          rw [← hf] at hv
          obtain ⟨rfl, rfl, rfl, rfl⟩ := fw_of hs (fp_lt (finv (m1 a)).2) hv
          exact ⟨rfl, hb⟩
      | [], ha => exact ha.elim
      | [_], ha => exact ha.2.elim
      | _ :: _ :: _ :: _, ha => exact ha.2.2.elim
    · cases hg
  · cases hg

noncomputable def T_r2Add (c : Bool) : Tab := (T_Neg2 c).add 182 (gR F1.add)
theorem ok_r2Add (c : Bool) : TabOk Tryz.prog (T_r2Add c) := (ok_al c).add Tryz.func182 (by kernel_rfl) (by kernel_rfl) (gR_ok r_add)
noncomputable def T_r2Sub (c : Bool) : Tab := (T_r2Add c).add 186 (gR F1.sub)
theorem ok_r2Sub (c : Bool) : TabOk Tryz.prog (T_r2Sub c) := (ok_r2Add c).add Tryz.func186 (by kernel_rfl) (by kernel_rfl) (gR_ok r_sub)
noncomputable def T_r2Mul (c : Bool) : Tab := (T_r2Sub c).add 183 (gR F1.mul)
theorem ok_r2Mul (c : Bool) : TabOk Tryz.prog (T_r2Mul c) := (ok_r2Sub c).add Tryz.func183 (by kernel_rfl) (by kernel_rfl) (gR_ok r_mul)
noncomputable def T_r2Inv (c : Bool) : Tab := (T_r2Mul c).add 111 (gRI c)
theorem ok_r2Inv (c : Bool) : TabOk Tryz.prog (T_r2Inv c) := (ok_r2Mul c).add Tryz.func111 (by kernel_rfl) (by kernel_rfl) (r_inv c)
set_option maxRecDepth 100000 in
theorem run_radd (c : Bool) (x : Nat) (y : Nat) : funA Tryz.prog (T_r2Inv c) qN (fun _ => true) Tryz.f109 40 [.v (.fl (q1 x)), .v (.fl (q1 y))] = some ([], .one (.fl (e1 (F1.add (m1 x) (m1 y))))) := by kernel_rfl
noncomputable def T_radd (c : Bool) : Tab := (T_r2Inv c).add 109 (g2 rv1 rv1 (fun x y => ([], .one (.fl (e1 (F1.add x y))))))
theorem ok_radd (c : Bool) : TabOk Tryz.prog (T_radd c) := (ok_r2Inv c).add Tryz.func109 (by kernel_rfl) (by kernel_rfl) (g2v_ok rv1_ok rv1_ok fun x y hp args w ha => fun_sound hmix (ok_r2Inv c) qN_ok Tryz.func109 (run_radd c x y) hp ha)
set_option maxRecDepth 100000 in
theorem run_rsub (c : Bool) (x : Nat) (y : Nat) : funA Tryz.prog (T_radd c) qN (fun _ => true) Tryz.f112 40 [.v (.fl (q1 x)), .v (.fl (q1 y))] = some ([], .one (.fl (e1 (F1.sub (m1 x) (m1 y))))) := by kernel_rfl
noncomputable def T_rsub (c : Bool) : Tab := (T_radd c).add 112 (g2 rv1 rv1 (fun x y => ([], .one (.fl (e1 (F1.sub x y))))))
theorem ok_rsub (c : Bool) : TabOk Tryz.prog (T_rsub c) := (ok_radd c).add Tryz.func112 (by kernel_rfl) (by kernel_rfl) (g2v_ok rv1_ok rv1_ok fun x y hp args w ha => fun_sound hmix (ok_radd c) qN_ok Tryz.func112 (run_rsub c x y) hp ha)
set_option maxRecDepth 100000 in
theorem run_rmul (c : Bool) (x : Nat) (y : Nat) : funA Tryz.prog (T_rsub c) qN (fun _ => true) Tryz.f110 40 [.v (.fl (q1 x)), .v (.fl (q1 y))] = some ([], .one (.fl (e1 (F1.mul (m1 x) (m1 y))))) := by kernel_rfl
noncomputable def T_rmul (c : Bool) : Tab := (T_rsub c).add 110 (g2 rv1 rv1 (fun x y => ([], .one (.fl (e1 (F1.mul x y))))))
theorem ok_rmul (c : Bool) : TabOk Tryz.prog (T_rmul c) := (ok_rsub c).add Tryz.func110 (by kernel_rfl) (by kernel_rfl) (g2v_ok rv1_ok rv1_ok fun x y hp args w ha => fun_sound hmix (ok_rsub c) qN_ok Tryz.func110 (run_rmul c x y) hp ha)
set_option maxRecDepth 100000 in
theorem run_rAdd2 (c : Bool) (x : N2) (y : N2) : funA Tryz.prog (T_rmul c) qN (fun _ => true) Tryz.f56 40 [.v (.fl (q2 x)), .v (.fl (q2 y))] = some ([], .one (.fl (e2 (F2.add (m2 x) (m2 y))))) := by kernel_rfl
noncomputable def T_rAdd2 (c : Bool) : Tab := (T_rmul c).add 56 (g2 rv2 rv2 (fun x y => ([], .one (.fl (e2 (F2.add x y))))))
theorem ok_rAdd2 (c : Bool) : TabOk Tryz.prog (T_rAdd2 c) := (ok_rmul c).add Tryz.func56 (by kernel_rfl) (by kernel_rfl) (g2v_ok rv2_ok rv2_ok fun x y hp args w ha => fun_sound hmix (ok_rmul c) qN_ok Tryz.func56 (run_rAdd2 c x y) hp ha)
set_option maxRecDepth 100000 in
theorem run_rSub2 (c : Bool) (x : N2) (y : N2) : funA Tryz.prog (T_rAdd2 c) qN (fun _ => true) Tryz.f107 40 [.v (.fl (q2 x)), .v (.fl (q2 y))] = some ([], .one (.fl (e2 (F2.sub (m2 x) (m2 y))))) := by kernel_rfl
noncomputable def T_rSub2 (c : Bool) : Tab := (T_rAdd2 c).add 107 (g2 rv2 rv2 (fun x y => ([], .one (.fl (e2 (F2.sub x y))))))
theorem ok_rSub2 (c : Bool) : TabOk Tryz.prog (T_rSub2 c) := (ok_rAdd2 c).add Tryz.func107 (by kernel_rfl) (by kernel_rfl) (g2v_ok rv2_ok rv2_ok fun x y hp args w ha => fun_sound hmix (ok_rAdd2 c) qN_ok Tryz.func107 (run_rSub2 c x y) hp ha)
set_option maxRecDepth 100000 in
theorem run_rMul2 (c : Bool) (x : N2) (y : N2) : funA Tryz.prog (T_rSub2 c) qN (fun _ => true) Tryz.f57 40 [.v (.fl (q2 x)), .v (.fl (q2 y))] = some ([], .one (.fl (e2 ((F1.sub (F1.mul (m2 x).1 (m2 y).1) (F1.mul (m2 x).2 (m2 y).2), F1.add (F1.mul (m2 x).1 (m2 y).2) (F1.mul (m2 x).2 (m2 y).1)))))) := by kernel_rfl
theorem raw_rMul2 (x : Q2) (y : Q2) : F2.mul x y = (F1.sub (F1.mul x.1 y.1) (F1.mul x.2 y.2), F1.add (F1.mul x.1 y.2) (F1.mul x.2 y.1)) := by
  refine Prod.ext ?_ rfl
  show F1.add (F1.mul x.1 y.1) (F1.mul (F1.neg F1.one) (F1.mul x.2 y.2)) = F1.add (F1.mul x.1 y.1) (F1.neg (F1.mul x.2 y.2))
  rw [F1.neg_mul, F1.one_mul]
noncomputable def T_rMul2 (c : Bool) : Tab := (T_rSub2 c).add 57 (g2 rv2 rv2 (fun x y => ([], .one (.fl (e2 (F2.mul x y))))))
theorem ok_rMul2 (c : Bool) : TabOk Tryz.prog (T_rMul2 c) := (ok_rSub2 c).add Tryz.func57 (by kernel_rfl) (by kernel_rfl) (g2v_ok rv2_ok rv2_ok fun x y hp args w ha => by show Good _ _ (.one (.fl (e2 (F2.mul (m2 x) (m2 y))))) _ _; rw [raw_rMul2]; exact fun_sound hmix (ok_rSub2 c) qN_ok Tryz.func57 (run_rMul2 c x y) hp ha)
set_option maxRecDepth 100000 in
theorem run_rNeg2 (c : Bool) (x : N2) : funA Tryz.prog (T_rMul2 c) qN (fun _ => true) Tryz.f61 40 [.v (.fl (q2 x))] = some ([], .one (.fl (e2 (F2.sub F2.zero (m2 x))))) := by kernel_rfl
noncomputable def T_rNeg2 (c : Bool) : Tab := (T_rMul2 c).add 61 (g1 rv2 (fun x => ([], .one (.fl (e2 (F2.sub F2.zero x))))))
theorem ok_rNeg2 (c : Bool) : TabOk Tryz.prog (T_rNeg2 c) := (ok_rMul2 c).add Tryz.func61 (by kernel_rfl) (by kernel_rfl) (g1v_ok rv2_ok fun x hp args w ha => fun_sound hmix (ok_rMul2 c) qN_ok Tryz.func61 (run_rNeg2 c x) hp ha)
set_option maxRecDepth 100000 in
theorem run_rXi (c : Bool) : funA Tryz.prog (T_rNeg2 c) qN (fun _ => true) Tryz.f283 40 [] = some ([], .one (.fl (e2 xiE))) := by kernel_rfl
noncomputable def T_rXi (c : Bool) : Tab := (T_rNeg2 c).add 283 (g0 (.one (.fl (e2 xiE))))
theorem ok_rXi (c : Bool) : TabOk Tryz.prog (T_rXi c) := (ok_rNeg2 c).add Tryz.func283 (by kernel_rfl) (by kernel_rfl) (g0_ok fun w => fun_sound hmix (ok_rNeg2 c) qN_ok Tryz.func283 (run_rXi c) trivial (args := []) trivial)
set_option maxRecDepth 100000 in
theorem run_rXi2 (c : Bool) (x : N2) : funA Tryz.prog (T_rXi c) qN (fun _ => true) Tryz.f263 40 [.v (.fl (q2 x))] = some ([], .one (.fl (e2 (F2.mul (m2 x) xiE)))) := by kernel_rfl
noncomputable def T_rXi2 (c : Bool) : Tab := (T_rXi c).add 263 (g1 rv2 (fun x => ([], .one (.fl (e2 (F2.mul x xiE))))))
theorem ok_rXi2 (c : Bool) : TabOk Tryz.prog (T_rXi2 c) := (ok_rXi c).add Tryz.func263 (by kernel_rfl) (by kernel_rfl) (g1v_ok rv2_ok fun x hp args w ha => fun_sound hmix (ok_rXi c) qN_ok Tryz.func263 (run_rXi2 c x) hp ha)
set_option maxRecDepth 100000 in
theorem run_rAdd6 (c : Bool) (x : N6) (y : N6) : funA Tryz.prog (T_rXi2 c) qN (fun _ => true) Tryz.f218 40 [.v (.fl (q6 x)), .v (.fl (q6 y))] = some ([], .one (.fl (e6 (F6.add (m6 x) (m6 y))))) := by kernel_rfl
noncomputable def T_rAdd6 (c : Bool) : Tab := (T_rXi2 c).add 218 (g2 rv6 rv6 (fun x y => ([], .one (.fl (e6 (F6.add x y))))))
theorem ok_rAdd6 (c : Bool) : TabOk Tryz.prog (T_rAdd6 c) := (ok_rXi2 c).add Tryz.func218 (by kernel_rfl) (by kernel_rfl) (g2v_ok rv6_ok rv6_ok fun x y hp args w ha => fun_sound hmix (ok_rXi2 c) qN_ok Tryz.func218 (run_rAdd6 c x y) hp ha)
set_option maxRecDepth 100000 in
theorem run_rMul6 (c : Bool) (x : N6) (y : N6) : funA Tryz.prog (T_rAdd6 c) qN (fun _ => true) Tryz.f219 40 [.v (.fl (q6 x)), .v (.fl (q6 y))] = some ([], .one (.fl (e6 ((F2.add (F2.mul (m6 x).1 (m6 y).1) (F2.mul (F2.add (F2.mul (m6 x).2.1 (m6 y).2.2) (F2.mul (m6 x).2.2 (m6 y).2.1)) xiE), F2.add (F2.add (F2.mul (m6 x).1 (m6 y).2.1) (F2.mul (m6 x).2.1 (m6 y).1)) (F2.mul (F2.mul (m6 x).2.2 (m6 y).2.2) xiE), F2.add (F2.add (F2.mul (m6 x).1 (m6 y).2.2) (F2.mul (m6 x).2.1 (m6 y).2.1)) (F2.mul (m6 x).2.2 (m6 y).1)))))) := by kernel_rfl
theorem raw_rMul6 (x : Q6) (y : Q6) : F6.mul x y = (F2.add (F2.mul x.1 y.1) (F2.mul (F2.add (F2.mul x.2.1 y.2.2) (F2.mul x.2.2 y.2.1)) xiE), F2.add (F2.add (F2.mul x.1 y.2.1) (F2.mul x.2.1 y.1)) (F2.mul (F2.mul x.2.2 y.2.2) xiE), F2.add (F2.add (F2.mul x.1 y.2.2) (F2.mul x.2.1 y.2.1)) (F2.mul x.2.2 y.1)) := by
  rw [F2.mul_comm _ xiE, F2.mul_comm _ xiE]
  rfl
noncomputable def T_rMul6 (c : Bool) : Tab := (T_rAdd6 c).add 219 (g2 rv6 rv6 (fun x y => ([], .one (.fl (e6 (F6.mul x y))))))
theorem ok_rMul6 (c : Bool) : TabOk Tryz.prog (T_rMul6 c) := (ok_rAdd6 c).add Tryz.func219 (by kernel_rfl) (by kernel_rfl) (g2v_ok rv6_ok rv6_ok fun x y hp args w ha => by show Good _ _ (.one (.fl (e6 (F6.mul (m6 x) (m6 y))))) _ _; rw [raw_rMul6]; exact fun_sound hmix (ok_rAdd6 c) qN_ok Tryz.func219 (run_rMul6 c x y) hp ha)
set_option maxRecDepth 100000 in
theorem run_rV6 (c : Bool) (x : N6) : funA Tryz.prog (T_rMul6 c) qN (fun _ => true) Tryz.f220 40 [.v (.fl (q6 x))] = some ([], .one (.fl (e6 ((F2.mul (m6 x).2.2 xiE, F2.sub (m6 x).1 F2.zero, F2.sub (m6 x).2.1 F2.zero))))) := by kernel_rfl
theorem raw_rV6 (x : Q6) : F6.mul vE x = (F2.mul x.2.2 xiE, F2.sub x.1 F2.zero, F2.sub x.2.1 F2.zero) := by
  rw [raw_t6v]
  show (_, x.1, x.2.1) = (_, F2.add x.1 (F2.neg F2.zero), F2.add x.2.1 (F2.neg F2.zero))
  rw [neg_zero, F2.add_zero, F2.add_zero]
noncomputable def T_rV6 (c : Bool) : Tab := (T_rMul6 c).add 220 (g1 rv6 (fun x => ([], .one (.fl (e6 (F6.mul vE x))))))
theorem ok_rV6 (c : Bool) : TabOk Tryz.prog (T_rV6 c) := (ok_rMul6 c).add Tryz.func220 (by kernel_rfl) (by kernel_rfl) (g1v_ok rv6_ok fun x hp args w ha => by show Good _ _ (.one (.fl (e6 (F6.mul vE (m6 x))))) _ _; rw [raw_rV6]; exact fun_sound hmix (ok_rMul6 c) qN_ok Tryz.func220 (run_rV6 c x) hp ha)
end Go.Proofs.YtaingnhikbaplaaGreat.Ex
namespace Go.Proofs.YtaingnhikbaplaaGreat.Ex
set_option linter.unusedVariables false
set_option linter.unusedSimpArgs false

/-- how many choices of k among n -/
def cho : Nat → Nat → Nat
  | _, 0 => 1
  | 0, _ + 1 => 0
  | n + 1, k + 1 => cho n k + cho n (k + 1)
theorem cho_big : ∀ (n k : Nat), n < k → cho n k = 0
  | 0, k + 1, _ => rfl
  | n + 1, k + 1, h => by show cho n k + cho n (k + 1) = 0; rw [cho_big n k (by omega), cho_big n (k + 1) (by omega)]
  | _, 0, h => by omega
theorem cho_self : ∀ n, cho n n = 1
  | 0 => rfl
  | n + 1 => by show cho n n + cho n (n + 1) = 1; rw [cho_self n, cho_big n (n + 1) (by omega)]
theorem cho_mul : ∀ (n k : Nat), (k + 1) * cho (n + 1) (k + 1) = (n + 1) * cho n k
  | 0, 0 => rfl
  | 0, k + 1 => by show (k + 2) * (0 + 0) = 1 * 0; omega
  | n + 1, 0 => by
    have := cho_mul n 0
    show 1 * (cho (n + 1) 0 + cho (n + 1) 1) = (n + 2) * cho (n + 1) 0
    have h0 : cho (n + 1) 0 = 1 := rfl
    have h1 : cho n 0 = 1 := by cases n <;> rfl
    rw [h0]
    rw [h1] at this
    have h2 : cho (n + 1) 1 = n + 1 := by simpa using this
    omega
  | n + 1, k + 1 => by
    have h1 := cho_mul n k
    have h2 := cho_mul n (k + 1)
    show (k + 2) * (cho (n + 1) (k + 1) + cho (n + 1) (k + 2)) = (n + 2) * cho (n + 1) (k + 1)
    have h3 : (k + 2) * cho (n + 1) (k + 2) = (n + 1) * cho n (k + 1) := h2
    have h4 : cho (n + 1) (k + 1) = cho n k + cho n (k + 1) := rfl
    rw [Nat.mul_add, h3]
    have h5 : (n + 2) * cho (n + 1) (k + 1) = (n + 1) * cho (n + 1) (k + 1) + cho (n + 1) (k + 1) := by rw [show n + 2 = (n + 1) + 1 from rfl, Nat.add_mul (n + 1) 1, Nat.one_mul]
    have h6 : (n + 1) * cho (n + 1) (k + 1) = (n + 1) * cho n k + (n + 1) * cho n (k + 1) := by rw [h4, Nat.mul_add]
    have h7 : (k + 2) * cho (n + 1) (k + 1) = (k + 1) * cho (n + 1) (k + 1) + cho (n + 1) (k + 1) := by rw [show k + 2 = (k + 1) + 1 from rfl, Nat.add_mul (k + 1) 1, Nat.one_mul]
    omega
/-- a prime divides its choices -/
theorem cho_prime {q : Nat} (hq : Prm q) {k : Nat} (h0 : 0 < k) (hk : k < q) : ∃ m, cho q k = q * m := by
  obtain ⟨j, rfl⟩ : ∃ j, k = j + 1 := ⟨k - 1, by omega⟩
  obtain ⟨n, rfl⟩ : ∃ n, q = n + 1 := ⟨q - 1, by omega⟩
  have h := cho_mul n j
  have hd : (n + 1) ∣ (j + 1) * cho (n + 1) (j + 1) := ⟨cho n j, h⟩
  have hc : Nat.Coprime (n + 1) (j + 1) := by
    rcases hq.2 (Nat.gcd (n + 1) (j + 1)) (Nat.gcd_dvd_left _ _) with e | e
    · exact e
    · have := Nat.le_of_dvd h0 (Nat.gcd_dvd_right (n + 1) (j + 1))
      omega
  obtain ⟨m, hm⟩ := hc.dvd_of_dvd_mul_left hd
  exact ⟨m, hm⟩
section
variable {R : Type} (K : CR R)
def pwK (x : R) : Nat → R
  | 0 => K.one
  | n + 1 => K.mul (pwK x n) x
theorem pwK_add (x : R) (m : Nat) : ∀ n, pwK K x (m + n) = K.mul (pwK K x m) (pwK K x n)
  | 0 => (K.mul_one _).symm
  | n + 1 => by show K.mul (pwK K x (m + n)) x = K.mul _ (K.mul _ _); rw [pwK_add x m n, K.mul_assoc]
theorem pwK_mul (x y : R) : ∀ n, pwK K (K.mul x y) n = K.mul (pwK K x n) (pwK K y n)
  | 0 => (K.one_mul _).symm
  | n + 1 => by
    show K.mul (pwK K (K.mul x y) n) (K.mul x y) = K.mul (K.mul _ _) (K.mul _ _)
    rw [pwK_mul x y n]
    exact ring_id K (envL K [pwK K x n, pwK K y n, x, y]) (.mul (.mul (.v 0) (.v 1)) (.mul (.v 2) (.v 3))) (.mul (.mul (.v 0) (.v 2)) (.mul (.v 1) (.v 3))) (by decide)
theorem pwK_pw (x : R) (m : Nat) : ∀ n, pwK K x (m * n) = pwK K (pwK K x m) n
  | 0 => rfl
  | n + 1 => by rw [Nat.mul_add, Nat.mul_one, pwK_add, pwK_pw x m n]; rfl
theorem pwK_one : ∀ n, pwK K K.one n = K.one
  | 0 => rfl
  | n + 1 => by show K.mul (pwK K K.one n) K.one = _; rw [pwK_one n, K.mul_one]
/-- a sum of n members -/
def sumK (f : Nat → R) : Nat → R
  | 0 => K.zero
  | n + 1 => K.add (sumK f n) (f n)
theorem sumK_shift (f : Nat → R) : ∀ n, sumK K f (n + 1) = K.add (f 0) (sumK K (fun k => f (k + 1)) n)
  | 0 => by show K.add K.zero (f 0) = K.add (f 0) K.zero; rw [K.add_comm]
  | n + 1 => by
    show K.add (sumK K f (n + 1)) (f (n + 1)) = K.add (f 0) (K.add _ _)
    rw [sumK_shift f n, K.add_assoc]
theorem sumK_add (f g : Nat → R) : ∀ n, sumK K (fun k => K.add (f k) (g k)) n = K.add (sumK K f n) (sumK K g n)
  | 0 => (K.add_zero _).symm
  | n + 1 => by
    show K.add (sumK K (fun k => K.add (f k) (g k)) n) (K.add (f n) (g n)) = K.add (K.add _ _) (K.add _ _)
    rw [sumK_add f g n]
    exact ring_id K (envL K [sumK K f n, sumK K g n, f n, g n]) (.add (.add (.v 0) (.v 1)) (.add (.v 2) (.v 3))) (.add (.add (.v 0) (.v 2)) (.add (.v 1) (.v 3))) (by decide)
theorem sumK_mul (f : Nat → R) (c : R) : ∀ n, K.mul (sumK K f n) c = sumK K (fun k => K.mul (f k) c) n
  | 0 => K.zero_mul _
  | n + 1 => by show K.mul (K.add _ _) c = K.add _ _; rw [K.add_mul, sumK_mul f c n]
theorem sumK_congr {f g : Nat → R} : ∀ n, (∀ k, k < n → f k = g k) → sumK K f n = sumK K g n
  | 0, _ => rfl
  | n + 1, h => by show K.add _ _ = K.add _ _; rw [sumK_congr n (fun k hk => h k (by omega)), h n (by omega)]
theorem sumK_zero {f : Nat → R} : ∀ n, (∀ k, k < n → f k = K.zero) → sumK K f n = K.zero
  | 0, _ => rfl
  | n + 1, h => by show K.add _ _ = _; rw [sumK_zero n (fun k hk => h k (by omega)), h n (by omega), K.add_zero]
theorem nt_mul_r (x c : R) : ∀ n, K.mul (nt K x n) c = nt K (K.mul x c) n
  | 0 => K.zero_mul _
  | n + 1 => by show K.mul (K.add _ _) c = K.add _ _; rw [K.add_mul, nt_mul_r x c n]
theorem nt_nt (x : R) (m : Nat) : ∀ n, nt K x (m * n) = nt K (nt K x m) n
  | 0 => rfl
  | n + 1 => by rw [Nat.mul_add, Nat.mul_one, nt_add, nt_nt x m n]; rfl
theorem binom (x y : R) : ∀ n, pwK K (K.add x y) n = sumK K (fun k => nt K (K.mul (pwK K x k) (pwK K y (n - k))) (cho n k)) (n + 1)
  | 0 => by show K.one = K.add K.zero (K.add K.zero (K.mul K.one K.one)); rw [K.zero_add, K.zero_add, K.one_mul]
  | n + 1 => by
    show K.mul (pwK K (K.add x y) n) (K.add x y) = _
    rw [binom x y n, K.mul_add, sumK_mul, sumK_mul, sumK_shift K _ (n + 1)]
    have e1 : sumK K (fun k => K.mul (nt K (K.mul (pwK K x k) (pwK K y (n - k))) (cho n k)) x) (n + 1) = sumK K (fun k => nt K (K.mul (pwK K x (k + 1)) (pwK K y (n - k))) (cho n k)) (n + 1) :=
      sumK_congr K _ fun k hk => by
        rw [nt_mul_r]
        congr 1
        exact ring_id K (envL K [pwK K x k, pwK K y (n - k), x]) (.mul (.mul (.v 0) (.v 1)) (.v 2)) (.mul (.mul (.v 0) (.v 2)) (.v 1)) (by decide)
    have e2 : sumK K (fun k => K.mul (nt K (K.mul (pwK K x k) (pwK K y (n - k))) (cho n k)) y) (n + 1) = K.add (nt K (K.mul (pwK K x 0) (pwK K y (n + 1 - 0))) (cho (n + 1) 0)) (sumK K (fun k => nt K (K.mul (pwK K x (k + 1)) (pwK K y (n - k))) (cho n (k + 1))) (n + 1)) := by
      have h1 : sumK K (fun k => K.mul (nt K (K.mul (pwK K x k) (pwK K y (n - k))) (cho n k)) y) (n + 1) = sumK K (fun k => nt K (K.mul (pwK K x k) (pwK K y (n + 1 - k))) (cho n k)) (n + 1) :=
        sumK_congr K _ fun k hk => by
          rw [nt_mul_r, K.mul_assoc, show n + 1 - k = (n - k) + 1 by omega]
          rfl
      rw [h1, sumK_shift]
      have h2 : sumK K (fun k => nt K (K.mul (pwK K x (k + 1)) (pwK K y (n - k))) (cho n (k + 1))) (n + 1) = sumK K (fun k => nt K (K.mul (pwK K x (k + 1)) (pwK K y (n + 1 - (k + 1)))) (cho n (k + 1))) n := by
        show K.add _ (nt K _ (cho n (n + 1))) = _
        rw [cho_big n (n + 1) (by omega)]
        show K.add _ K.zero = _
        rw [K.add_zero]
        exact sumK_congr K _ fun k hk => by rw [show n + 1 - (k + 1) = n - k by omega]
      rw [h2]
      congr 1
      cases n <;> rfl
    rw [e1, e2]
    have e3 : sumK K (fun k => nt K (K.mul (pwK K x (k + 1)) (pwK K y (n + 1 - (k + 1)))) (cho (n + 1) (k + 1))) (n + 1) = K.add (sumK K (fun k => nt K (K.mul (pwK K x (k + 1)) (pwK K y (n - k))) (cho n k)) (n + 1)) (sumK K (fun k => nt K (K.mul (pwK K x (k + 1)) (pwK K y (n - k))) (cho n (k + 1))) (n + 1)) := by
      rw [← sumK_add]
      exact sumK_congr K _ fun k hk => by
        rw [show n + 1 - (k + 1) = n - k by omega]
        exact nt_add K _ _ _
    rw [e3, ← K.add_assoc, ← K.add_assoc, K.add_comm (sumK K _ _) (nt K _ _)]
/-- where q times anything is 0, q a prime, the q-th power of a sum is the sum of the q-th powers -/
theorem fresh {q : Nat} (hq : Prm q) (hc : ∀ x, nt K x q = K.zero) (x y : R) : pwK K (K.add x y) q = K.add (pwK K x q) (pwK K y q) := by
  rw [binom]
  obtain ⟨n, rfl⟩ : ∃ n, q = n + 1 := ⟨q - 1, by have := hq.1; omega⟩
  show K.add (sumK K _ (n + 1)) _ = _
  rw [sumK_shift]
  have h0 : sumK K (fun k => nt K (K.mul (pwK K x (k + 1)) (pwK K y (n + 1 - (k + 1)))) (cho (n + 1) (k + 1))) n = K.zero := sumK_zero K _ fun k hk => by
    obtain ⟨m, hm⟩ := cho_prime hq (k := k + 1) (by omega) (by omega)
    rw [hm, nt_nt, hc]
    clear hm
    induction m with
    | zero => rfl
    | succ m ih => show K.add (nt K K.zero m) K.zero = _; rw [ih, K.add_zero]
  rw [h0, K.add_zero]
  show K.add (nt K (K.mul (pwK K x 0) (pwK K y (n + 1 - 0))) (cho (n + 1) 0)) (nt K (K.mul (pwK K x (n + 1)) (pwK K y (n + 1 - (n + 1)))) (cho (n + 1) (n + 1))) = _
  rw [cho_self]
  have h1 : cho (n + 1) 0 = 1 := rfl
  rw [h1, Nat.sub_self, Nat.sub_zero]
  show K.add (K.add K.zero (K.mul K.one (pwK K y (n + 1)))) (K.add K.zero (K.mul (pwK K x (n + 1)) K.one)) = _
  rw [K.zero_add, K.zero_add, K.one_mul, K.mul_one, K.add_comm]
end
end Go.Proofs.YtaingnhikbaplaaGreat.Ex
