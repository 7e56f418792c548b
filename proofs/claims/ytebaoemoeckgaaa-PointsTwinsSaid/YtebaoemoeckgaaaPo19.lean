/-
  The reference's bit, Of and Exp, for either field: the power of an element. Conditions: words below 2^64.
  The reference's Lower, half, Legendre and Inv, for either field. Conditions: words below 2^64.
  The reference's Fp2 and Fp6 in a table of calls; the tower's Fp6. Conditions: none.
  Polynomials over a commutative ring, by their coefficients, and their degrees. Conditions: none.
-/
import Derived.KernelRfl
import Derived.Test.YtebaoemoeckgaaaPo18
import Derived.Test.YtebaoemoeckgaaaPo00
import Derived.Test.YtebaoemoeckgaaaPo14
import Derived.Test.YtebaoemoeckgaaaPo15
namespace Go.Proofs.Ytebaoemoeckgaaa
set_option linter.unusedVariables false
set_option linter.unusedSimpArgs false
open Go.RowKit

set_option maxRecDepth 20000 in
set_option maxHeartbeats 1000000 in
theorem rof_calls (n : Nat) (w : World) : Calls Try.prog 91 #[.int .u64 n] w fun e w' => e = .returned (.agg #[.int .u64 n, .int .u64 0, .int .u64 0, .int .u64 0]) ∧ Below w.heap.size w w' := by
  go_enter Try.func91, Try.ntmps91
  go_wp2_with fail
  refine bodyPost_ret (v := .agg #[.int .u64 n, .int .u64 0, .int .u64 0, .int .u64 0]) (by simp [results, Try.results91, go_sem]) rfl ?_
  refine ⟨rfl, ?_⟩
  repeat (first | exact Below.refl _ _ | refine Below.drew ?_ | refine Below.alloc ?_ (by first | (simp; done) | (simp; omega)) _ | refine Below.setCell ?_ (by simp) _)
set_option maxRecDepth 20000 in
set_option maxHeartbeats 1000000 in
theorem rbit_calls (a0 a1 a2 a3 i : Nat) (ha : ok4 a0 a1 a2 a3) (hi : i < 256) (w : World) :
    Calls Try.prog 92 #[.agg #[.int .u64 a0, .int .u64 a1, .int .u64 a2, .int .u64 a3], .int .i64 i] w (fun e w' => e = .returned (.bool (decide (bitOf (val4 a0 a1 a2 a3) i = 1))) ∧ Below w.heap.size w w') := by
  obtain ⟨j, k, q, r, hj, hk, e⟩ := ex_ix hi
  have hc := new_cell w 45 a0 a1 a2 a3 j hj
  have hx := fn4_lt ha j
  obtain ⟨s, e1, e2, hs⟩ := ex_bit hx (bit_fn ha hj hk e.out)
  have hb := bitOf_01 (val4 a0 a1 a2 a3) i
  generalize bitOf (val4 a0 a1 a2 a3) i = b at *
  generalize fnOf [a0, a1, a2, a3] j = x at *
  have hb' : b ≤ 1 := by omega
  clear e
  go_enter Try.func92, Try.ntmps92
  rcases hb with rfl | rfl
  · go_wp2_with fail
    go_ret
    exact ⟨rfl, (Below.refl _ _).alloc (Nat.le_refl _) _⟩
  · go_wp2_with fail
    go_ret
    exact ⟨rfl, (Below.refl _ _).alloc (Nat.le_refl _) _⟩

theorem rpow0 {M A N i : Nat} (hb : bitOf N i = 0) : A ^ (N / 2 ^ (i + 1)) % M * (A ^ (N / 2 ^ (i + 1)) % M) % M = A ^ (N / 2 ^ i) % M := by
  rw [← Nat.mul_mod, ← Nat.pow_add, bit_step N i, hb]
  congr 2
  omega
theorem rpow1 {M A N i : Nat} (hb : bitOf N i = 1) : A ^ (N / 2 ^ (i + 1)) % M * (A ^ (N / 2 ^ (i + 1)) % M) % M * A % M = A ^ (N / 2 ^ i) % M := by
  rw [← Nat.mul_mod, ← Nat.pow_add, bit_step N i, hb, Nat.mod_mul_mod, ← Nat.pow_succ]
  congr 2
  omega

set_option maxRecDepth 100000 in
set_option maxHeartbeats 4000000 in
theorem rexp_calls (f : Int) (F : FC) (hf : FieldIs f F) (a0 a1 a2 a3 n0 n1 n2 n3 : Nat) (ha : ok4 a0 a1 a2 a3) (hn : ok4 n0 n1 n2 n3) (w : World) :
    Calls Try.prog 65 #[.int .i64 f, .agg #[.int .u64 a0, .int .u64 a1, .int .u64 a2, .int .u64 a3], .agg #[.int .u64 n0, .int .u64 n1, .int .u64 n2, .int .u64 n3]] w (FePost (val4 a0 a1 a2 a3 ^ val4 n0 n1 n2 n3 % F.M) w) := by
  have h2 := hf.ok.gt
  go_enter Try.func65, Try.ntmps65
  go_wp2_with fail
  have M0 := ((((Mem.nil w).new w.heap.size a0 a1 a2 a3 24 rfl).new (w.heap.size + 1) n0 n1 n2 n3 45 (by simp)).new (w.heap.size + 1 + 1) 0 0 0 0 24 (by simp))
  refine (rof_calls 1 _).mono ?_
  rintro e w1 ⟨rfl, hbl⟩
  have M1 := M0.on hbl
  have hz1 : w.heap.size + 1 + 1 < w1.heap.size := M1.lt (c0 := 0) (c1 := 0) (c2 := 0) (c3 := 0) (by simp)
  have M2 := Lib.hid (M1.new w1.heap.size 1 0 0 0 24 rfl)
  clear hbl M0 M1
  go_wp2_with fail
  go_loopw [8] (fun t wr => ∃ (j r0 r1 r2 r3 : Nat) (m : Int), j ≤ 256 ∧ Hid (m = (j : Int) - 1) ∧ t = .int .i64 m ∧ ok4 r0 r1 r2 r3 ∧ Hid (val4 r0 r1 r2 r3 = val4 a0 a1 a2 a3 ^ (val4 n0 n1 n2 n3 / 2 ^ j) % F.M) ∧ Hid (Mem w wr [(w1.heap.size, r0, r1, r2, r3), (w.heap.size + 1 + 1, 0, 0, 0, 0), (w.heap.size + 1, n0, n1, n2, n3), (w.heap.size, a0, a1, a2, a3)])) (fun t _ => (intOf t + 1).toNat)
  case atStart =>
    refine ⟨256, 1, 0, 0, 0, 255, Nat.le_refl _, Lib.hid (by omega), rfl, (show ok4 1 0 0 0 by unfold ok4; decide), Lib.hid ?_, M2⟩
    rw [Nat.div_eq_of_lt (show val4 n0 n1 n2 n3 < 2 ^ 256 from val4_lt hn), Nat.pow_zero, Nat.mod_eq_of_lt (by omega)]
    rfl
  case round =>
    obtain ⟨j, r0, r1, r2, r3, m, hj, hm, rfl, hr, HV, HM⟩ := hrel
    by_cases hlt : 0 < j
    · obtain ⟨i, hi⟩ : ∃ i, j = i + 1 := ⟨j - 1, by omega⟩
      subst hi
      obtain rfl : m = (i : Int) := by have := hm.out; omega
      have Rr := HM.out.row (b := w1.heap.size) (c0 := r0) (c1 := r1) (c2 := r2) (c3 := r3) (by simp)
      have x0 := Rr.c0; have x1 := Rr.c1; have x2 := Rr.c2; have x3 := Rr.c3
      have ltr := HM.out.lt (b := w1.heap.size) (c0 := r0) (c1 := r1) (c2 := r2) (c3 := r3) (by simp)
      clear Rr hm
      go_wp2_with fail
      refine (rmul_calls f F hf r0 r1 r2 r3 r0 r1 r2 r3 hr hr _).mono ?_
      rintro e w3 ⟨p0, p1, p2, p3, rfl, hp, hv, hbl⟩
      have HP := Lib.hid (show val4 p0 p1 p2 p3 = _ by rw [hv, HV.out])
      have M4 := HM.out.on hbl
      have lt4 := M4.lt (b := w1.heap.size) (c0 := r0) (c1 := r1) (c2 := r2) (c3 := r3) (by simp)
      have Rr := M4.row (b := w1.heap.size) (c0 := r0) (c1 := r1) (c2 := r2) (c3 := r3) (by simp)
      have Rn := M4.row (b := w.heap.size + 1) (c0 := n0) (c1 := n1) (c2 := n2) (c3 := n3) (by simp)
      have M5 := Lib.hid (M4.put p0 p1 p2 p3 (by omega) (by intro r hr; simp at hr; rcases hr with rfl | rfl | rfl <;> simp <;> omega))
      clear x0 x1 x2 x3 hv hbl M4
      have x0 := Rr.c0; have x1 := Rr.c1; have x2 := Rr.c2; have x3 := Rr.c3; have xf := Rr.fr
      have y0 := Rn.c0; have y1 := Rn.c1; have y2 := Rn.c2; have y3 := Rn.c3
      have ne1 : ¬ w.heap.size + 1 = w1.heap.size := by omega
      have ne1' : ¬ w1.heap.size = w.heap.size + 1 := by omega
      have hi256 : i < 256 := by omega
      clear Rr Rn
      go_wp2_with fail
      refine (rbit_calls n0 n1 n2 n3 i hn hi256 _).mono ?_
      rintro e w4 ⟨he, hbl⟩
      have M5' := M5.out
      unfold set4 at M5'
      have M6 := M5'.on hbl
      clear hbl M5' x0 x1 x2 x3 xf y0 y1 y2 y3
      have lt6 := M6.lt (b := w1.heap.size) (c0 := p0) (c1 := p1) (c2 := p2) (c3 := p3) (by simp)
      rcases bitOf_01 (val4 n0 n1 n2 n3) i with hb | hb
      · rw [hb, show decide (0 = 1) = false from rfl] at he
        subst he
        have HS := Lib.hid (show val4 p0 p1 p2 p3 = val4 a0 a1 a2 a3 ^ (val4 n0 n1 n2 n3 / 2 ^ i) % F.M by rw [HP.out]; exact rpow0 hb)
        have M7 := Lib.hid M6
        clear hb M6
        go_wp2_with fail
        go_roundw
        case rel => exact ⟨i, p0, p1, p2, p3, (i : Int) - 1, by omega, Lib.hid rfl, by first | rfl | go_num, hp, HS, M7⟩
        case measure => first | (simp [intOf]; done) | (simp [intOf]; omega)
      · rw [hb, show decide (1 = 1) = true from rfl] at he
        subst he
        have Rr := M6.row (b := w1.heap.size) (c0 := p0) (c1 := p1) (c2 := p2) (c3 := p3) (by simp)
        have Ra := M6.row (b := w.heap.size) (c0 := a0) (c1 := a1) (c2 := a2) (c3 := a3) (by simp)
        have x0 := Rr.c0; have x1 := Rr.c1; have x2 := Rr.c2; have x3 := Rr.c3
        have z0 := Ra.c0; have z1 := Ra.c1; have z2 := Ra.c2; have z3 := Ra.c3
        have HB := Lib.hid hb
        have M7 := Lib.hid M6
        clear hb M6 Rr Ra
        go_wp2_with fail
        refine (rmul_calls f F hf p0 p1 p2 p3 a0 a1 a2 a3 hp ha _).mono ?_
        rintro e w5 ⟨q0, q1, q2, q3, rfl, hq, hv, hbl⟩
        have HS := Lib.hid (show val4 q0 q1 q2 q3 = val4 a0 a1 a2 a3 ^ (val4 n0 n1 n2 n3 / 2 ^ i) % F.M by rw [hv, HP.out]; exact rpow1 HB.out)
        have M8 := M7.out.on hbl
        have lt8 := M8.lt (b := w1.heap.size) (c0 := p0) (c1 := p1) (c2 := p2) (c3 := p3) (by simp)
        have Rr := M8.row (b := w1.heap.size) (c0 := p0) (c1 := p1) (c2 := p2) (c3 := p3) (by simp)
        have M9 := Lib.hid (M8.put q0 q1 q2 q3 (by omega) (by intro r hr; simp at hr; rcases hr with rfl | rfl | rfl <;> simp <;> omega))
        clear x0 x1 x2 x3 z0 z1 z2 z3 hv hbl M8
        have x0 := Rr.c0; have x1 := Rr.c1; have x2 := Rr.c2; have x3 := Rr.c3; have xf := Rr.fr
        clear Rr
        go_wp2_with fail
        go_roundw
        case rel => exact ⟨i, q0, q1, q2, q3, (i : Int) - 1, by omega, Lib.hid rfl, by first | rfl | go_num, hq, HS, M9⟩
        case measure => first | (simp [intOf]; done) | (simp [intOf]; omega)
    · obtain rfl : j = 0 := by omega
      obtain rfl : m = -1 := by have := hm.out; omega
      have Rr := HM.out.row (b := w1.heap.size) (c0 := r0) (c1 := r1) (c2 := r2) (c3 := r3) (by simp)
      have x0 := Rr.c0; have x1 := Rr.c1; have x2 := Rr.c2; have x3 := Rr.c3
      have Ro := HM.out.row (b := w.heap.size + 1 + 1) (c0 := 0) (c1 := 0) (c2 := 0) (c3 := 0) (by simp)
      have o0 := Ro.c0; have o1 := Ro.c1; have o2 := Ro.c2; have o3 := Ro.c3; have of := Ro.fr
      have ltr := HM.out.lt (b := w1.heap.size) (c0 := r0) (c1 := r1) (c2 := r2) (c3 := r3) (by simp)
      have lto := HM.out.lt (b := w.heap.size + 1 + 1) (c0 := 0) (c1 := 0) (c2 := 0) (c3 := 0) (by simp)
      clear Rr Ro hm
      go_wp2_with fail
      refine bodyPost_ret (v := .agg #[.int .u64 r0, .int .u64 r1, .int .u64 r2, .int .u64 r3]) (by simp [results, Try.results65, go_sem, *]) rfl ?_
      refine ⟨_, _, _, _, rfl, hr, by rw [HV.out, Nat.pow_zero, Nat.div_one], ?_⟩
      exact below_set4 HM.out.1 (by omega) _ _ _ _
end Go.Proofs.Ytebaoemoeckgaaa
namespace Go.Proofs.Ytebaoemoeckgaaa
set_option linter.unusedVariables false
set_option linter.unusedSimpArgs false
open Go.RowKit

theorem eqWz_yes {s0 s1 s2 s3 : Nat} (hs : ok4 s0 s1 s2 s3) (h : val4 s0 s1 s2 s3 = 0) (w : World) : (Op.equalIn 10000 45 (.agg #[.int .u64 s0, .int .u64 s1, .int .u64 s2, .int .u64 s3]) (.agg #[.int .u64 0, .int .u64 0, .int .u64 0, .int .u64 0])).run Try.prog w = .ok true w := by
  have h' := equalInW 9998 s0 s1 s2 s3 0 0 0 0 w
  rw [(eqW_iff hs zok).2 (h.trans rfl)] at h'
  exact h'
theorem eqWz_no {s0 s1 s2 s3 : Nat} (hs : ok4 s0 s1 s2 s3) (h : val4 s0 s1 s2 s3 ≠ 0) (w : World) : (Op.equalIn 10000 45 (.agg #[.int .u64 s0, .int .u64 s1, .int .u64 s2, .int .u64 s3]) (.agg #[.int .u64 0, .int .u64 0, .int .u64 0, .int .u64 0])).run Try.prog w = .ok false w := by
  have h' := equalInW 9998 s0 s1 s2 s3 0 0 0 0 w
  rw [eqW_false (fun q => h ((eqW_iff hs zok).1 q))] at h'
  exact h'
theorem eqGuardWd : Try.prog.eqGuardType Try.prog.depth 45 = false := by kernel_rfl
set_option maxRecDepth 100000 in
set_option maxHeartbeats 2000000 in
theorem rinv1_calls (f : Int) (F : FC) (hf : FieldIs f F) (a0 a1 a2 a3 : Nat) (ha : ok4 a0 a1 a2 a3) (hz : val4 a0 a1 a2 a3 % F.M ≠ 0) (w : World) :
    Calls Try.prog 97 #[.int .i64 f, .agg #[.int .u64 a0, .int .u64 a1, .int .u64 a2, .int .u64 a3]] w (fun e w' => ∃ s0 s1 s2 s3 : Nat, e = .returned (.tuple #[.agg #[.int .u64 s0, .int .u64 s1, .int .u64 s2, .int .u64 s3], .int .i64 0]) ∧ ok4 s0 s1 s2 s3 ∧ val4 s0 s1 s2 s3 = val4 a0 a1 a2 a3 ^ (F.M - 2) % F.M ∧ Below w.heap.size w w') := by
  have hG := eqGuardWd
  have h2 := hf.ok.gt
  go_enter Try.func97, Try.ntmps97
  go_wp2_with fail
  have HM := Lib.hid (((Mem.nil w).new (w.heap.size) a0 a1 a2 a3 24 (by simp)).new (w.heap.size + 1) 0 0 0 0 24 (by simp))
  refine (down_calls f F hf a0 a1 a2 a3 ha _).mono ?_
  rintro e w1 ⟨d0, d1, d2, d3, rfl, hd, hv, hbl⟩
  have HM' := Lib.hid (HM.out.on hbl)
  clear HM hbl
  have HM := HM'
  clear HM'
  have EQ := eqWz_no hd (by rw [hv]; exact hz)
  clear hv hz
  go_wp2_with fail
  refine (rmod_some f F hf _).mono ?_
  rintro e w2 ⟨rfl, hbl⟩
  have HM' := Lib.hid (HM.out.on hbl)
  clear HM hbl
  have HM := HM'
  clear HM'
  go_wp2_with fail
  refine (refMinus_calls F.m0 F.m1 F.m2 F.m3 2 0 0 0 hf.ok.okm (show ok4 2 0 0 0 by unfold ok4; decide) _).mono ?_
  rintro e w3 ⟨n0, n1, n2, n3, c, rfl, hn, hc, hv, hbl⟩
  have HVn := Lib.hid (show val4 n0 n1 n2 n3 = F.M - 2 by
    have e2 : val4 2 0 0 0 = 2 := rfl
    have := val4_lt hn
    rw [e2] at hv
    have e3 : val4 F.m0 F.m1 F.m2 F.m3 = F.M := rfl
    rw [e3] at hv
    have : c = 0 := by rcases (show c = 0 ∨ c = 1 by omega) with h | h; exact h; subst h; omega
    subst this
    omega)
  clear hv hc
  have HM' := Lib.hid ((HM.out.on hbl).new w3.heap.size n0 n1 n2 n3 45 rfl)
  clear HM hbl
  have HM := HM'
  clear HM'
  have kr := HM.out.row (b := w.heap.size) (c0 := a0) (c1 := a1) (c2 := a2) (c3 := a3) (by simp)
  have x0 := kr.c0; have x1 := kr.c1; have x2 := kr.c2; have x3 := kr.c3
  clear kr
  have xl : w.heap.size < w3.heap.size := by have := HM.out.lt (b := w.heap.size) (c0 := a0) (c1 := a1) (c2 := a2) (c3 := a3) (by simp); have l2 := HM.out.lt (b := w.heap.size + 1) (c0 := 0) (c1 := 0) (c2 := 0) (c3 := 0) (by simp); simp at l2; omega
  go_wp2_with fail
  refine (rexp_calls f F hf a0 a1 a2 a3 n0 n1 n2 n3 ha hn _).mono ?_
  rintro e w4 ⟨s0, s1, s2, s3, rfl, hs, hv, hbl⟩
  have HVs := Lib.hid (show val4 s0 s1 s2 s3 = val4 a0 a1 a2 a3 ^ (F.M - 2) % F.M by rw [hv, HVn.out])
  have HM' := Lib.hid (HM.out.on hbl)
  clear HM hbl hv x0 x1 x2 x3 xl
  have HM := HM'
  clear HM'
  have kr := HM.out.row (b := w.heap.size + 1) (c0 := 0) (c1 := 0) (c2 := 0) (c3 := 0) (by simp)
  have y0 := kr.c0; have y1 := kr.c1; have y2 := kr.c2; have y3 := kr.c3; have yf := kr.fr
  have yl := HM.out.lt (b := w.heap.size + 1) (c0 := 0) (c1 := 0) (c2 := 0) (c3 := 0) (by simp)
  clear kr
  go_wp2_with fail
  refine bodyPost_ret (v := .tuple #[.agg #[.int .u64 s0, .int .u64 s1, .int .u64 s2, .int .u64 s3], .int .i64 0]) (by simp [results, Try.results97, go_sem, *]) rfl ?_
  refine ⟨_, _, _, _, rfl, hs, HVs.out, ?_⟩
  exact below_set4 HM.out.1 (by omega) _ _ _ _
set_option maxRecDepth 100000 in
set_option maxHeartbeats 2000000 in
theorem rinv0_calls (f : Int) (F : FC) (hf : FieldIs f F) (a0 a1 a2 a3 : Nat) (ha : ok4 a0 a1 a2 a3) (hz : val4 a0 a1 a2 a3 % F.M = 0) (w : World) :
    Calls Try.prog 97 #[.int .i64 f, .agg #[.int .u64 a0, .int .u64 a1, .int .u64 a2, .int .u64 a3]] w (fun e w' => ∃ s0 s1 s2 s3 : Nat, e = .returned (.tuple #[.agg #[.int .u64 s0, .int .u64 s1, .int .u64 s2, .int .u64 s3], .int .i64 22]) ∧ ok4 s0 s1 s2 s3 ∧ val4 s0 s1 s2 s3 = 0 ∧ Below w.heap.size w w') := by
  have hG := eqGuardWd
  have h2 := hf.ok.gt
  go_enter Try.func97, Try.ntmps97
  go_wp2_with fail
  have HM := Lib.hid (((Mem.nil w).new (w.heap.size) a0 a1 a2 a3 24 (by simp)).new (w.heap.size + 1) 0 0 0 0 24 (by simp))
  refine (down_calls f F hf a0 a1 a2 a3 ha _).mono ?_
  rintro e w1 ⟨d0, d1, d2, d3, rfl, hd, hv, hbl⟩
  have HM' := Lib.hid (HM.out.on hbl)
  clear HM hbl
  have HM := HM'
  clear HM'
  have EQ := eqWz_yes hd (by rw [hv]; exact hz)
  clear hv hz
  have kr := HM.out.row (b := w.heap.size + 1) (c0 := 0) (c1 := 0) (c2 := 0) (c3 := 0) (by simp)
  have y0 := kr.c0; have y1 := kr.c1; have y2 := kr.c2; have y3 := kr.c3; have yf := kr.fr
  have yl := HM.out.lt (b := w.heap.size + 1) (c0 := 0) (c1 := 0) (c2 := 0) (c3 := 0) (by simp)
  clear kr
  go_wp2_with fail
  refine bodyPost_ret (v := .tuple #[.agg #[.int .u64 (0 : Nat), .int .u64 (0 : Nat), .int .u64 (0 : Nat), .int .u64 (0 : Nat)], .int .i64 22]) (by simp [results, Try.results97, go_sem, *]) rfl ?_
  refine ⟨_, _, _, _, rfl, zok, rfl, ?_⟩
  exact below_set4 HM.out.1 (by omega) 0 0 0 0
end Go.Proofs.Ytebaoemoeckgaaa
namespace Go.Proofs.Ytebaoemoeckgaaa.Ex
set_option linter.unusedVariables false
set_option linter.unusedSimpArgs false
open Go.RowKit
/-- the reference's calls over the first field -/
def gR (op : Fq → Fq → Fq) : Ent
  | [.v (.im (.int .i64 (.ofNat 1))), .v (.fl l), .v (.fl m)] => match rv1 l, rv1 m with
    | some x, some y => some ([], .one (.fl (e1 (op x y))))
    | _, _ => none
  | _ => none
noncomputable def gRI (c : Bool) : Ent
  | [.v (.im (.int .i64 (.ofNat 1))), .v (.fl l)] => match rv1 l with
    | some x => bif c then some ([x ≠ F1.zero], .many [.fl (e1 (finv x)), .im (.int .i64 0)]) else some ([x = F1.zero], .many [.fl (e1 F1.zero), .im (.int .i64 22)])
    | none => none
  | _ => none
theorem gR_ok {f : FuncId} {op : Fq → Fq → Fq} (h : ∀ (a b : Nat) (w : World), Calls Try.prog f #[.int .i64 1, .agg (flat (q1 a)).toArray, .agg (flat (q1 b)).toArray] w (FwPost (op (m1 a) (m1 b)).1 w)) :
    ∀ cs pre r, gR op cs = some (pre, r) → allP pre → ∀ (args : List Value) (w : World), CAs w cs args → Good Try.prog f r args w := by
  intro cs pre r hg hp args w ha
  unfold gR at hg
  split at hg
  · rename_i l m
    split at hg
    · rename_i x y hx hy
      cases hg
      obtain ⟨a, e1, rfl⟩ := rv1_ok l x hx
      obtain ⟨b, e2, rfl⟩ := rv1_ok m y hy
      match args, ha with
      | [v, u, s], ha =>
        have h1 : v = .int .i64 1 := ha.1
        have h2 : u = .agg (flat l).toArray := ha.2.1
        have h3 : s = .agg (flat m).toArray := ha.2.2.1
        rw [e1] at h2
        rw [e2] at h3
        subst h1; subst h2; subst h3
        exact (h a b w).mono fun e w' h => h
      | [], ha => exact ha.elim
      | [_], ha => exact ha.2.elim
      | [_, _], ha => exact ha.2.2.elim
      | _ :: _ :: _ :: _ :: _, ha => exact ha.2.2.2.elim
    · cases hg
  · cases hg
theorem r_add (a b : Nat) (w : World) : Calls Try.prog 39 #[.int .i64 1, .agg (flat (q1 a)).toArray, .agg (flat (q1 b)).toArray] w (FwPost (F1.add (m1 a) (m1 b)).1 w) := by
  refine (radd_calls 1 FP fld1 _ _ _ _ _ _ _ _ (fw_ok a) (fw_ok b) w).mono fun e w' h => ?_
  rw [show (F1.add (m1 a) (m1 b)).1 = (val4 (fw a 0) (fw a 1) (fw a 2) (fw a 3) + val4 (fw b 0) (fw b 1) (fw b 2) (fw b 3)) % FP.M from (Nat.add_mod _ _ _).symm]
  exact FwPost.of (Nat.mod_lt _ fp_pos) h
theorem r_sub (a b : Nat) (w : World) : Calls Try.prog 41 #[.int .i64 1, .agg (flat (q1 a)).toArray, .agg (flat (q1 b)).toArray] w (FwPost (F1.sub (m1 a) (m1 b)).1 w) := by
  refine (rsub_calls 1 FP fld1 _ _ _ _ _ _ _ _ (fw_ok a) (fw_ok b) w).mono fun e w' h => ?_
  have e : (F1.sub (m1 a) (m1 b)).1 = (val4 (fw a 0) (fw a 1) (fw a 2) (fw a 3) + (FP.M - val4 (fw b 0) (fw b 1) (fw b 2) (fw b 3) % FP.M)) % FP.M := by
    show (wv a % FP.M + (0 + FP.M - wv b % FP.M) % FP.M) % FP.M = (wv a + (FP.M - wv b % FP.M)) % FP.M
    rw [Nat.zero_add, ← Nat.add_mod]
  rw [e]
  exact FwPost.of (Nat.mod_lt _ fp_pos) h
theorem r_mul (a b : Nat) (w : World) : Calls Try.prog 40 #[.int .i64 1, .agg (flat (q1 a)).toArray, .agg (flat (q1 b)).toArray] w (FwPost (F1.mul (m1 a) (m1 b)).1 w) := by
  refine (rmul_calls 1 FP fld1 _ _ _ _ _ _ _ _ (fw_ok a) (fw_ok b) w).mono fun e w' h => ?_
  rw [show (F1.mul (m1 a) (m1 b)).1 = (val4 (fw a 0) (fw a 1) (fw a 2) (fw a 3) * val4 (fw b 0) (fw b 1) (fw b 2) (fw b 3)) % FP.M from (Nat.mul_mod _ _ _).symm]
  exact FwPost.of (Nat.mod_lt _ fp_pos) h
theorem r_inv (c : Bool) : ∀ cs pre r, gRI c cs = some (pre, r) → allP pre → ∀ (args : List Value) (w : World), CAs w cs args → Good Try.prog 97 r args w := by
  intro cs pre r hg hp args w ha
  unfold gRI at hg
  split at hg
  · rename_i l
    split at hg
    · rename_i x hx
      obtain ⟨a, e1, rfl⟩ := rv1_ok l x hx
      match args, ha with
      | [v, u], ha =>
        have h1 : v = .int .i64 1 := ha.1
        have h2 : u = .agg (flat l).toArray := ha.2.1
        rw [e1] at h2
        subst h1; subst h2
        cases c
        · cases hg
          have hz : m1 a = F1.zero := hp.1
          have hz' : val4 (fw a 0) (fw a 1) (fw a 2) (fw a 3) % FP.M = 0 := congrArg Fin.val hz
          refine (rinv0_calls 1 FP fld1 _ _ _ _ (fw_ok a) hz' w).mono ?_
          rintro e w' ⟨s0, s1, s2, s3, rfl, hs, hv, hb⟩
          obtain ⟨rfl, rfl, rfl, rfl⟩ := fw_of hs (fp_lt fp_pos) hv
          exact ⟨rfl, hb⟩
        · cases hg
          have hz : m1 a ≠ F1.zero := hp.1
          have hz' : val4 (fw a 0) (fw a 1) (fw a 2) (fw a 3) % FP.M ≠ 0 := fun e => hz (Fin.ext e)
          refine (rinv1_calls 1 FP fld1 _ _ _ _ (fw_ok a) hz' w).mono ?_
          rintro e w' ⟨s0, s1, s2, s3, rfl, hs, hv, hb⟩
          have hf : (finv (m1 a)).1 = val4 (fw a 0) (fw a 1) (fw a 2) (fw a 3) ^ (FP.M - 2) % FP.M := by
            rw [finv_val, Nat.one_mul]
            exact (Nat.pow_mod _ _ _).symm
          rw [← hf] at hv
          obtain ⟨rfl, rfl, rfl, rfl⟩ := fw_of hs (fp_lt (finv (m1 a)).2) hv
          exact ⟨rfl, hb⟩
      | [], ha => exact ha.elim
      | [_], ha => exact ha.2.elim
      | _ :: _ :: _ :: _, ha => exact ha.2.2.elim
    · cases hg
  · cases hg

noncomputable def T_r2Add (c : Bool) : Tab := (T_B c).add 39 (gR F1.add)
theorem ok_r2Add (c : Bool) : TabOk Try.prog (T_r2Add c) := (ok_al c).add Try.func39 (by kernel_rfl) (by kernel_rfl) (gR_ok r_add)
noncomputable def T_r2Sub (c : Bool) : Tab := (T_r2Add c).add 41 (gR F1.sub)
theorem ok_r2Sub (c : Bool) : TabOk Try.prog (T_r2Sub c) := (ok_r2Add c).add Try.func41 (by kernel_rfl) (by kernel_rfl) (gR_ok r_sub)
noncomputable def T_r2Mul (c : Bool) : Tab := (T_r2Sub c).add 40 (gR F1.mul)
theorem ok_r2Mul (c : Bool) : TabOk Try.prog (T_r2Mul c) := (ok_r2Sub c).add Try.func40 (by kernel_rfl) (by kernel_rfl) (gR_ok r_mul)
noncomputable def T_r2Inv (c : Bool) : Tab := (T_r2Mul c).add 97 (gRI c)
theorem ok_r2Inv (c : Bool) : TabOk Try.prog (T_r2Inv c) := (ok_r2Mul c).add Try.func97 (by kernel_rfl) (by kernel_rfl) (r_inv c)
end Go.Proofs.Ytebaoemoeckgaaa.Ex
namespace Go.Proofs.Ytebaoemoeckgaaa.Ex
set_option linter.unusedVariables false
set_option linter.unusedSimpArgs false

/-- a field: what is not 0 has an inverse, by a function -/
structure FD {R : Type} (K : CR R) (inv : R → R) : Prop where
  ne : K.one ≠ K.zero
  inv : ∀ x, x ≠ K.zero → K.mul x (inv x) = K.one
section
variable {R : Type} {K : CR R} {inv : R → R}
theorem FD.zd (h : FD K inv) {a b : R} (e : K.mul a b = K.zero) (ha : a ≠ K.zero) : b = K.zero := by
  have := congrArg (K.mul (inv a)) e
  rwa [← K.mul_assoc, K.mul_comm (inv a), h.inv a ha, K.one_mul, K.mul_zero] at this
theorem FD.mul_ne (h : FD K inv) {a b : R} (ha : a ≠ K.zero) (hb : b ≠ K.zero) : K.mul a b ≠ K.zero := fun e => hb (h.zd e ha)
theorem FD.cancel (h : FD K inv) {a b c : R} (ha : a ≠ K.zero) (e : K.mul a b = K.mul a c) : b = c := by
  have := congrArg (K.mul (inv a)) e
  rwa [← K.mul_assoc, ← K.mul_assoc, K.mul_comm (inv a), h.inv a ha, K.one_mul, K.one_mul] at this
theorem eq_of_neg {a b : R} (h : K.add a (K.neg b) = K.zero) : a = b := by
  have h2 : K.add (K.add a (K.neg b)) b = K.add K.zero b := congrArg (fun x => K.add x b) h
  rwa [K.add_assoc, K.neg_add, K.add_zero, K.zero_add] at h2
theorem neg_of_eq {a b : R} (h : a = b) : K.add a (K.neg b) = K.zero := by rw [h, K.add_neg]
/-- what follows from equations, by multiples of them -/
theorem comb1 {A B L1 R1 c1 : R} (h1 : L1 = R1) (e : K.add A (K.neg B) = K.mul c1 (K.add L1 (K.neg R1))) : A = B := by
  apply eq_of_neg (K := K)
  rw [e, neg_of_eq h1, K.mul_zero]
theorem comb2 {A B L1 R1 c1 L2 R2 c2 : R} (h1 : L1 = R1) (h2 : L2 = R2) (e : K.add A (K.neg B) = K.add (K.mul c1 (K.add L1 (K.neg R1))) (K.mul c2 (K.add L2 (K.neg R2)))) : A = B := by
  apply eq_of_neg (K := K)
  rw [e, neg_of_eq h1, neg_of_eq h2, K.mul_zero, K.mul_zero, K.add_zero]
theorem comb3 {A B L1 R1 c1 L2 R2 c2 L3 R3 c3 : R} (h1 : L1 = R1) (h2 : L2 = R2) (h3 : L3 = R3) (e : K.add A (K.neg B) = K.add (K.add (K.mul c1 (K.add L1 (K.neg R1))) (K.mul c2 (K.add L2 (K.neg R2)))) (K.mul c3 (K.add L3 (K.neg R3)))) : A = B := by
  apply eq_of_neg (K := K)
  rw [e, neg_of_eq h1, neg_of_eq h2, neg_of_eq h3, K.mul_zero, K.mul_zero, K.mul_zero, K.add_zero, K.add_zero]
end

section
variable {R : Type} (K : CR R)
def tl (f : Nat → R) : Nat → R := fun n => f (n + 1)
/-- a coefficient of a product -/
def cof : Nat → (Nat → R) → (Nat → R) → R
  | 0, f, g => K.mul (f 0) (g 0)
  | n + 1, f, g => K.add (K.mul (f 0) (g (n + 1))) (cof n (tl f) g)
def fadd (f g : Nat → R) : Nat → R := fun n => K.add (f n) (g n)
def fsc (c : R) (f : Nat → R) : Nat → R := fun n => K.mul c (f n)
def fmul (f g : Nat → R) : Nat → R := fun n => cof K n f g
def fneg (f : Nat → R) : Nat → R := fun n => K.neg (f n)
def fze : Nat → R := fun _ => K.zero
def fco (c : R) : Nat → R | 0 => c | _ + 1 => K.zero
theorem cof_add_r : ∀ (n : Nat) (f g h : Nat → R), cof K n f (fadd K g h) = K.add (cof K n f g) (cof K n f h)
  | 0, f, g, h => K.mul_add _ _ _
  | n + 1, f, g, h => by
    show K.add (K.mul (f 0) (K.add _ _)) (cof K n (tl f) (fadd K g h)) = K.add (K.add _ _) (K.add _ _)
    rw [cof_add_r n, K.mul_add, K.add_assoc, K.add_assoc, K.add_left_comm (K.mul (f 0) (h (n + 1)))]
theorem cof_add_l : ∀ (n : Nat) (f g h : Nat → R), cof K n (fadd K f g) h = K.add (cof K n f h) (cof K n g h)
  | 0, f, g, h => K.add_mul _ _ _
  | n + 1, f, g, h => by
    show K.add (K.mul (K.add _ _) (h (n + 1))) (cof K n (fadd K (tl f) (tl g)) h) = K.add (K.add _ _) (K.add _ _)
    rw [cof_add_l n, K.add_mul, K.add_assoc, K.add_assoc, K.add_left_comm (K.mul (g 0) (h (n + 1)))]
theorem cof_sc : ∀ (n : Nat) (c : R) (f g : Nat → R), cof K n (fsc K c f) g = K.mul c (cof K n f g)
  | 0, c, f, g => K.mul_assoc _ _ _
  | n + 1, c, f, g => by
    show K.add (K.mul (K.mul c (f 0)) _) (cof K n (fsc K c (tl f)) g) = K.mul c (K.add _ _)
    rw [cof_sc n, K.mul_add, K.mul_assoc]
theorem cof_ze : ∀ (n : Nat) (g : Nat → R), cof K n (fze K) g = K.zero
  | 0, g => K.zero_mul _
  | n + 1, g => by
    show K.add (K.mul K.zero _) (cof K n (fze K) g) = _
    rw [cof_ze n, K.zero_mul, K.add_zero]
theorem cof_co (c : R) (g : Nat → R) : ∀ n, cof K n (fco K c) g = K.mul c (g n)
  | 0 => rfl
  | n + 1 => by
    show K.add (K.mul c _) (cof K n (fze K) g) = _
    rw [cof_ze, K.add_zero]
theorem cof_assoc : ∀ (n : Nat) (f g h : Nat → R), cof K n (fmul K f g) h = cof K n f (fmul K g h)
  | 0, f, g, h => K.mul_assoc _ _ _
  | n + 1, f, g, h => by
    have e : tl (fmul K f g) = fadd K (fsc K (f 0) (tl g)) (fmul K (tl f) g) := rfl
    show K.add (K.mul (K.mul (f 0) (g 0)) (h (n + 1))) (cof K n (tl (fmul K f g)) h) = K.add (K.mul (f 0) (K.add (K.mul (g 0) (h (n + 1))) (cof K n (tl g) h))) (cof K n (tl f) (fmul K g h))
    rw [e, cof_add_l, cof_sc, cof_assoc n, K.mul_add, K.mul_assoc, K.add_assoc]
theorem cof_comm : ∀ (n : Nat) (f g : Nat → R), cof K n f g = cof K n g f
  | 0, f, g => K.mul_comm _ _
  | 1, f, g => by
    show K.add (K.mul (f 0) (g 1)) (K.mul (f 1) (g 0)) = K.add (K.mul (g 0) (f 1)) (K.mul (g 1) (f 0))
    rw [K.add_comm, K.mul_comm (f 1), K.mul_comm (f 0)]
  | n + 2, f, g => by
    show K.add (K.mul (f 0) (g (n + 2))) (cof K (n + 1) (tl f) g) = K.add (K.mul (g 0) (f (n + 2))) (cof K (n + 1) (tl g) f)
    rw [cof_comm (n + 1) (tl f) g, cof_comm (n + 1) (tl g) f]
    show K.add (K.mul (f 0) (g (n + 2))) (K.add (K.mul (g 0) (f (n + 2))) (cof K n (tl g) (tl f))) = K.add (K.mul (g 0) (f (n + 2))) (K.add (K.mul (f 0) (g (n + 2))) (cof K n (tl f) (tl g)))
    rw [K.add_left_comm, cof_comm n (tl g) (tl f)]
theorem cof_hi : ∀ (a b : Nat) (f g : Nat → R), (∀ i, a ≤ i → f i = K.zero) → (∀ i, b ≤ i → g i = K.zero) → ∀ n, a + b ≤ n + 1 → cof K n f g = K.zero
  | 0, b, f, g, hf, hg, n, h => by
    have : f = fze K := funext fun i => hf i (Nat.zero_le _)
    rw [this, cof_ze]
  | a + 1, b, f, g, hf, hg, 0, h => by
    show K.mul (f 0) (g 0) = _
    rw [hg 0 (by omega), K.mul_zero]
  | a + 1, b, f, g, hf, hg, n + 1, h => by
    show K.add (K.mul (f 0) (g (n + 1))) (cof K n (tl f) g) = _
    rw [hg (n + 1) (by omega), K.mul_zero, K.zero_add]
    exact cof_hi a b (tl f) g (fun i hi => hf (i + 1) (by omega)) hg n (by omega)
/-- polynomials -/
def Pol : Type := {f : Nat → R // ∃ n, ∀ i, n ≤ i → f i = K.zero}
variable {K}
theorem Pol.ext {f g : Pol K} (h : ∀ n, f.1 n = g.1 n) : f = g := Subtype.ext (funext h)
def pol : CR (Pol K) where
  add f g := ⟨fadd K f.1 g.1, by
    obtain ⟨a, ha⟩ := f.2; obtain ⟨b, hb⟩ := g.2
    exact ⟨a + b, fun i hi => by show K.add (f.1 i) (g.1 i) = _; rw [ha i (by omega), hb i (by omega), K.add_zero]⟩⟩
  mul f g := ⟨fmul K f.1 g.1, by
    obtain ⟨a, ha⟩ := f.2; obtain ⟨b, hb⟩ := g.2
    exact ⟨a + b, fun i hi => cof_hi K a b f.1 g.1 ha hb i (by omega)⟩⟩
  neg f := ⟨fneg K f.1, by
    obtain ⟨a, ha⟩ := f.2
    exact ⟨a, fun i hi => by show K.neg (f.1 i) = _; rw [ha i hi, neg_zero]⟩⟩
  zero := ⟨fze K, 0, fun _ _ => rfl⟩
  one := ⟨fco K K.one, 1, fun i hi => by cases i with | zero => omega | succ i => rfl⟩
  add_assoc a b c := Pol.ext fun n => K.add_assoc _ _ _
  add_comm a b := Pol.ext fun n => K.add_comm _ _
  zero_add a := Pol.ext fun n => K.zero_add _
  neg_add a := Pol.ext fun n => K.neg_add _
  mul_assoc a b c := Pol.ext fun n => cof_assoc K n _ _ _
  mul_comm a b := Pol.ext fun n => cof_comm K n _ _
  one_mul a := Pol.ext fun n => by show cof K n (fco K K.one) a.1 = _; rw [cof_co, K.one_mul]
  mul_add a b c := Pol.ext fun n => cof_add_r K n _ _ _
/-- constants, and the variable -/
def pco (c : R) : Pol K := ⟨fco K c, 1, fun i hi => by cases i with | zero => omega | succ i => rfl⟩
def pX : Pol K := ⟨fun n => match n with | 1 => K.one | _ => K.zero, 2, fun i hi => by match i, hi with | i + 2, _ => rfl⟩
theorem pco_add (a b : R) : (pco (K.add a b) : Pol K) = pol.add (pco a) (pco b) := Pol.ext fun n => by
  cases n with
  | zero => rfl
  | succ n => exact (K.zero_add _).symm
theorem pco_neg (a : R) : (pco (K.neg a) : Pol K) = pol.neg (pco a) := Pol.ext fun n => by
  cases n with
  | zero => rfl
  | succ n => exact (neg_zero K).symm
theorem pco_mul (a b : R) : (pco (K.mul a b) : Pol K) = pol.mul (pco a) (pco b) := Pol.ext fun n => by
  show _ = cof K n (fco K a) (fco K b)
  rw [cof_co]
  cases n with
  | zero => rfl
  | succ n => exact (K.mul_zero _).symm
/-- f's degree is n -/
def dg (f : Pol K) (n : Nat) : Prop := f.1 n ≠ K.zero ∧ ∀ i, n < i → f.1 i = K.zero
theorem dg_ne {f : Pol K} {n : Nat} (h : dg f n) : f ≠ pol.zero := fun e => h.1 (by rw [e]; rfl)
theorem dg_one {f : Pol K} {n m : Nat} (h : dg f n) (g : dg f m) : n = m := by
  rcases Nat.lt_trichotomy n m with q | q | q
  · exact absurd (h.2 m q) g.1
  · exact q
  · exact absurd (g.2 n q) h.1
theorem dg_ex (f : Pol K) (h : f ≠ pol.zero) : ∃ n, dg f n := by
  obtain ⟨b, hb⟩ := f.2
  have : ∀ b, (∀ i, b ≤ i → f.1 i = K.zero) → ∃ n, dg f n := by
    intro b
    induction b with
    | zero => exact fun hb => absurd (Pol.ext fun n => hb n (Nat.zero_le _)) h
    | succ b ih =>
      intro hb
      by_cases h0 : f.1 b = K.zero
      · exact ih fun i hi => by
          rcases Nat.lt_or_ge b i with q | q
          · exact hb i q
          · rw [show i = b by omega, h0]
      · exact ⟨b, h0, hb⟩
  exact this b hb
variable {inv : R → R}
theorem cof_top : ∀ (a b : Nat) (f g : Nat → R), (∀ i, a < i → f i = K.zero) → (∀ i, b < i → g i = K.zero) → cof K (a + b) f g = K.mul (f a) (g b)
  | 0, b, f, g, hf, hg => by
    have : f = fco K (f 0) := funext fun i => by cases i with | zero => rfl | succ i => exact hf _ (by omega)
    rw [this, cof_co, Nat.zero_add]; rfl
  | a + 1, b, f, g, hf, hg => by
    rw [show a + 1 + b = (a + b) + 1 by omega]
    show K.add (K.mul (f 0) (g (a + b + 1))) (cof K (a + b) (tl f) g) = _
    rw [hg (a + b + 1) (by omega), K.mul_zero, K.zero_add]
    exact cof_top a b (tl f) g (fun i hi => hf (i + 1) (by omega)) hg
theorem dg_mul (F : FD K inv) {f g : Pol K} {n m : Nat} (hf : dg f n) (hg : dg g m) : dg (pol.mul f g) (n + m) := by
  refine ⟨?_, fun i hi => cof_hi K (n + 1) (m + 1) f.1 g.1 (fun j hj => hf.2 j hj) (fun j hj => hg.2 j hj) i (by omega)⟩
  · show cof K (n + m) f.1 g.1 ≠ _
    rw [cof_top n m f.1 g.1 hf.2 hg.2]
    exact F.mul_ne hf.1 hg.1
theorem dg_add_r {f g : Pol K} {n : Nat} (hf : dg f n) (hg : ∀ i, n ≤ i → g.1 i = K.zero) : dg (pol.add f g) n := by
  refine ⟨?_, fun i hi => ?_⟩
  · show K.add (f.1 n) (g.1 n) ≠ _
    rw [hg n (Nat.le_refl _), K.add_zero]; exact hf.1
  · show K.add (f.1 i) (g.1 i) = _
    rw [hf.2 i hi, hg i (by omega), K.add_zero]
theorem neg_ne {a : R} (h : a ≠ K.zero) : K.neg a ≠ K.zero := fun e => h (by rw [← K.neg_neg a, e, neg_zero])
theorem dg_neg {f : Pol K} {n : Nat} (hf : dg f n) : dg (pol.neg f) n :=
  ⟨neg_ne hf.1, fun i hi => by show K.neg (f.1 i) = _; rw [hf.2 i hi, neg_zero]⟩
/-- X - c -/
theorem dg_lin (F : FD K inv) (c : R) : dg (pol.sub (pX : Pol K) (pco c)) 1 := by
  refine ⟨?_, fun i hi => ?_⟩
  · show K.add K.one (K.neg K.zero) ≠ _
    rw [neg_zero, K.add_zero]; exact F.ne
  · match i, hi with
    | i + 2, _ => show K.add K.zero (K.neg K.zero) = _; rw [neg_zero, K.add_zero]
/-- X^3 + c -/
def qP (c : R) : Pol K := pol.add (pol.mul pX (pol.mul pX pX)) (pco c)
theorem dg_X (F : FD K inv) : dg (pX : Pol K) 1 := ⟨F.ne, fun i hi => by match i, hi with | i + 2, _ => rfl⟩
theorem dg_qP (F : FD K inv) (c : R) : dg (qP c : Pol K) 3 :=
  dg_add_r (dg_mul F (dg_X F) (dg_mul F (dg_X F) (dg_X F))) fun i hi => by match i, hi with | i + 1, _ => rfl
/-- a multiple of X - c is no constant but 0 -/
theorem lin_const (F : FD K inv) {c k : R} {h : Pol K} (e : pol.mul (pol.sub (pX : Pol K) (pco c)) h = pco k) : k = K.zero := by
  by_cases h0 : h = pol.zero
  · rw [h0, pol.mul_zero] at e
    exact (congrArg (fun p : Pol K => p.1 0) e).symm
  · obtain ⟨n, hn⟩ := dg_ex h h0
    have := dg_mul F (dg_lin F c) hn
    rw [e] at this
    exact absurd (by rw [Nat.add_comm]; rfl) this.1
end
end Go.Proofs.Ytebaoemoeckgaaa.Ex
