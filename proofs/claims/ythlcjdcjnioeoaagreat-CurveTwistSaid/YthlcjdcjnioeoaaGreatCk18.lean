/-
  The reference's bit, Of and Exp, for either field: the power of an element. Conditions: words below 2^64.
  The reference's Lower, half, Legendre and Inv, for either field. Conditions: words below 2^64.
  The reference's Fp2 and Fp6 in a table of calls; the tower's Fp6. Conditions: none.
  The reckoner: loops of unknown length, a round at a time; code taken apart. Of whatever program. Conditions: the table of calls is right.
-/
import Derived.Test.YthlcjdcjnioeoaaGreatCk17
import Derived.Test.YthlcjdcjnioeoaaGreatCk08
import Derived.Test.YthlcjdcjnioeoaaGreatCk11
import Derived.Test.YthlcjdcjnioeoaaGreatCk13
import Derived.Test.YthlcjdcjnioeoaaGreatCk04
namespace Go.Proofs.YthlcjdcjnioeoaaGreat
set_option linter.unusedVariables false
set_option linter.unusedSimpArgs false
open Go.RowKit

set_option maxRecDepth 20000 in
set_option maxHeartbeats 1000000 in
theorem rof_calls (n : Nat) (w : World) : Calls Tryz.prog 225 #[.int .u64 n] w fun e w' => e = .returned (.agg #[.int .u64 n, .int .u64 0, .int .u64 0, .int .u64 0]) ∧ Below w.heap.size w w' := by
  go_enter Tryz.func225, Tryz.ntmps225
  go_wp2_with fail
  refine bodyPost_ret (v := .agg #[.int .u64 n, .int .u64 0, .int .u64 0, .int .u64 0]) (by simp [results, Tryz.results225, go_sem]) rfl ?_
  refine ⟨rfl, ?_⟩
  repeat (first | exact Below.refl _ _ | refine Below.drew ?_ | refine Below.alloc ?_ (by first | (simp; done) | (simp; omega)) _ | refine Below.setCell ?_ (by simp) _)
set_option maxRecDepth 20000 in
set_option maxHeartbeats 1000000 in
theorem rbit_calls (a0 a1 a2 a3 i : Nat) (ha : ok4 a0 a1 a2 a3) (hi : i < 256) (w : World) :
    Calls Tryz.prog 226 #[.agg #[.int .u64 a0, .int .u64 a1, .int .u64 a2, .int .u64 a3], .int .i64 i] w (fun e w' => e = .returned (.bool (decide (bitOf (val4 a0 a1 a2 a3) i = 1))) ∧ Below w.heap.size w w') := by
  obtain ⟨j, k, q, r, hj, hk, e⟩ := ex_ix hi
  have hc := new_cell w 27 a0 a1 a2 a3 j hj
  have hx := fn4_lt ha j
  obtain ⟨s, e1, e2, hs⟩ := ex_bit hx (bit_fn ha hj hk e.out)
  have hb := bitOf_01 (val4 a0 a1 a2 a3) i
  generalize bitOf (val4 a0 a1 a2 a3) i = b at *
  generalize fnOf [a0, a1, a2, a3] j = x at *
  have hb' : b ≤ 1 := by omega
  clear e
  go_enter Tryz.func226, Tryz.ntmps226
  rcases hb with rfl | rfl
  · go_wp2_with fail
    go_ret
    exact ⟨rfl, (Below.refl _ _).alloc (Nat.le_refl _) _⟩
  · go_wp2_with fail
    go_ret
    exact ⟨rfl, (Below.refl _ _).alloc (Nat.le_refl _) _⟩

theorem rpow0 {M A N i : Nat} (hb : bitOf N i = 0) : A ^ (N / 2 ^ (i + 1)) % M * (A ^ (N / 2 ^ (i + 1)) % M) % M = A ^ (N / 2 ^ i) % M := by
  rw [← Nat.mul_mod, ← Nat.pow_add, bit_step N i, hb]
  congr 2
  omega
theorem rpow1 {M A N i : Nat} (hb : bitOf N i = 1) : A ^ (N / 2 ^ (i + 1)) % M * (A ^ (N / 2 ^ (i + 1)) % M) % M * A % M = A ^ (N / 2 ^ i) % M := by
  rw [← Nat.mul_mod, ← Nat.pow_add, bit_step N i, hb, Nat.mod_mul_mod, ← Nat.pow_succ]
  congr 2
  omega

set_option maxRecDepth 100000 in
set_option maxHeartbeats 4000000 in
theorem rexp_calls (f : Int) (F : FC) (hf : FieldIs f F) (a0 a1 a2 a3 n0 n1 n2 n3 : Nat) (ha : ok4 a0 a1 a2 a3) (hn : ok4 n0 n1 n2 n3) (w : World) :
    Calls Tryz.prog 187 #[.int .i64 f, .agg #[.int .u64 a0, .int .u64 a1, .int .u64 a2, .int .u64 a3], .agg #[.int .u64 n0, .int .u64 n1, .int .u64 n2, .int .u64 n3]] w (FePost (val4 a0 a1 a2 a3 ^ val4 n0 n1 n2 n3 % F.M) w) := by
  have h2 := hf.ok.gt
  go_enter Tryz.func187, Tryz.ntmps187
  go_wp2_with fail
  have M0 := ((((Mem.nil w).new w.heap.size a0 a1 a2 a3 24 rfl).new (w.heap.size + 1) n0 n1 n2 n3 27 (by simp)).new (w.heap.size + 1 + 1) 0 0 0 0 24 (by simp))
  refine (rof_calls 1 _).mono ?_
  rintro e w1 ⟨rfl, hbl⟩
  have M1 := M0.on hbl
  have hz1 : w.heap.size + 1 + 1 < w1.heap.size := M1.lt (c0 := 0) (c1 := 0) (c2 := 0) (c3 := 0) (by simp)
  have M2 := Lib.hid (M1.new w1.heap.size 1 0 0 0 24 rfl)
  clear hbl M0 M1
  go_wp2_with fail
  go_loopw [8] (fun t wr => ∃ (j r0 r1 r2 r3 : Nat) (m : Int), j ≤ 256 ∧ Hid (m = (j : Int) - 1) ∧ t = .int .i64 m ∧ ok4 r0 r1 r2 r3 ∧ Hid (val4 r0 r1 r2 r3 = val4 a0 a1 a2 a3 ^ (val4 n0 n1 n2 n3 / 2 ^ j) % F.M) ∧ Hid (Mem w wr [(w1.heap.size, r0, r1, r2, r3), (w.heap.size + 1 + 1, 0, 0, 0, 0), (w.heap.size + 1, n0, n1, n2, n3), (w.heap.size, a0, a1, a2, a3)])) (fun t _ => (intOf t + 1).toNat)
  case atStart =>
    refine ⟨256, 1, 0, 0, 0, 255, Nat.le_refl _, Lib.hid (by omega), rfl, (show ok4 1 0 0 0 by unfold ok4; decide), Lib.hid ?_, M2⟩
    rw [Nat.div_eq_of_lt (show val4 n0 n1 n2 n3 < 2 ^ 256 from val4_lt hn), Nat.pow_zero, Nat.mod_eq_of_lt (by omega)]
    rfl
  case round =>
    obtain ⟨j, r0, r1, r2, r3, m, hj, hm, rfl, hr, HV, HM⟩ := hrel
    by_cases hlt : 0 < j
    · obtain ⟨i, hi⟩ : ∃ i, j = i + 1 := ⟨j - 1, by omega⟩
      subst hi
      obtain rfl : m = (i : Int) := by have := hm.out; omega
      have Rr := HM.out.row (b := w1.heap.size) (c0 := r0) (c1 := r1) (c2 := r2) (c3 := r3) (by simp)
      have x0 := Rr.c0; have x1 := Rr.c1; have x2 := Rr.c2; have x3 := Rr.c3
      have ltr := HM.out.lt (b := w1.heap.size) (c0 := r0) (c1 := r1) (c2 := r2) (c3 := r3) (by simp)
      clear Rr hm
      go_wp2_with fail
      refine (rmul_calls f F hf r0 r1 r2 r3 r0 r1 r2 r3 hr hr _).mono ?_
      rintro e w3 ⟨p0, p1, p2, p3, rfl, hp, hv, hbl⟩
      have HP := Lib.hid (show val4 p0 p1 p2 p3 = _ by rw [hv, HV.out])
      have M4 := HM.out.on hbl
      have lt4 := M4.lt (b := w1.heap.size) (c0 := r0) (c1 := r1) (c2 := r2) (c3 := r3) (by simp)
      have Rr := M4.row (b := w1.heap.size) (c0 := r0) (c1 := r1) (c2 := r2) (c3 := r3) (by simp)
      have Rn := M4.row (b := w.heap.size + 1) (c0 := n0) (c1 := n1) (c2 := n2) (c3 := n3) (by simp)
      have M5 := Lib.hid (M4.put p0 p1 p2 p3 (by omega) (by intro r hr; simp at hr; rcases hr with rfl | rfl | rfl <;> simp <;> omega))
      clear x0 x1 x2 x3 hv hbl M4
      have x0 := Rr.c0; have x1 := Rr.c1; have x2 := Rr.c2; have x3 := Rr.c3; have xf := Rr.fr
      have y0 := Rn.c0; have y1 := Rn.c1; have y2 := Rn.c2; have y3 := Rn.c3
      have ne1 : ¬ w.heap.size + 1 = w1.heap.size := by omega
      have ne1' : ¬ w1.heap.size = w.heap.size + 1 := by omega
      have hi256 : i < 256 := by omega
      clear Rr Rn
      go_wp2_with fail
      refine (rbit_calls n0 n1 n2 n3 i hn hi256 _).mono ?_
      rintro e w4 ⟨he, hbl⟩
      have M5' := M5.out
      unfold set4 at M5'
      have M6 := M5'.on hbl
      clear hbl M5' x0 x1 x2 x3 xf y0 y1 y2 y3
      have lt6 := M6.lt (b := w1.heap.size) (c0 := p0) (c1 := p1) (c2 := p2) (c3 := p3) (by simp)
      rcases bitOf_01 (val4 n0 n1 n2 n3) i with hb | hb
      · rw [hb, show decide (0 = 1) = false from rfl] at he
        subst he
        have HS := Lib.hid (show val4 p0 p1 p2 p3 = val4 a0 a1 a2 a3 ^ (val4 n0 n1 n2 n3 / 2 ^ i) % F.M by rw [HP.out]; exact rpow0 hb)
        have M7 := Lib.hid M6
        clear hb M6
        go_wp2_with fail
        go_roundw
        case rel => exact ⟨i, p0, p1, p2, p3, (i : Int) - 1, by omega, Lib.hid rfl, by first | rfl | go_num, hp, HS, M7⟩
        case measure => first | (simp [intOf]; done) | (simp [intOf]; omega)
      · rw [hb, show decide (1 = 1) = true from rfl] at he
        subst he
        have Rr := M6.row (b := w1.heap.size) (c0 := p0) (c1 := p1) (c2 := p2) (c3 := p3) (by simp)
        have Ra := M6.row (b := w.heap.size) (c0 := a0) (c1 := a1) (c2 := a2) (c3 := a3) (by simp)
        have x0 := Rr.c0; have x1 := Rr.c1; have x2 := Rr.c2; have x3 := Rr.c3
        have z0 := Ra.c0; have z1 := Ra.c1; have z2 := Ra.c2; have z3 := Ra.c3
        have HB := Lib.hid hb
        have M7 := Lib.hid M6
        clear hb M6 Rr Ra
        go_wp2_with fail
        refine (rmul_calls f F hf p0 p1 p2 p3 a0 a1 a2 a3 hp ha _).mono ?_
        rintro e w5 ⟨q0, q1, q2, q3, rfl, hq, hv, hbl⟩
        have HS := Lib.hid (show val4 q0 q1 q2 q3 = val4 a0 a1 a2 a3 ^ (val4 n0 n1 n2 n3 / 2 ^ i) % F.M by rw [hv, HP.out]; exact rpow1 HB.out)
        have M8 := M7.out.on hbl
        have lt8 := M8.lt (b := w1.heap.size) (c0 := p0) (c1 := p1) (c2 := p2) (c3 := p3) (by simp)
        have Rr := M8.row (b := w1.heap.size) (c0 := p0) (c1 := p1) (c2 := p2) (c3 := p3) (by simp)
        have M9 := Lib.hid (M8.put q0 q1 q2 q3 (by omega) (by intro r hr; simp at hr; rcases hr with rfl | rfl | rfl <;> simp <;> omega))
        clear x0 x1 x2 x3 z0 z1 z2 z3 hv hbl M8
        have x0 := Rr.c0; have x1 := Rr.c1; have x2 := Rr.c2; have x3 := Rr.c3; have xf := Rr.fr
        clear Rr
        go_wp2_with fail
        go_roundw
        case rel => exact ⟨i, q0, q1, q2, q3, (i : Int) - 1, by omega, Lib.hid rfl, by first | rfl | go_num, hq, HS, M9⟩
        case measure => first | (simp [intOf]; done) | (simp [intOf]; omega)
    · obtain rfl : j = 0 := by omega
      obtain rfl : m = -1 := by have := hm.out; omega
      have Rr := HM.out.row (b := w1.heap.size) (c0 := r0) (c1 := r1) (c2 := r2) (c3 := r3) (by simp)
      have x0 := Rr.c0; have x1 := Rr.c1; have x2 := Rr.c2; have x3 := Rr.c3
      have Ro := HM.out.row (b := w.heap.size + 1 + 1) (c0 := 0) (c1 := 0) (c2 := 0) (c3 := 0) (by simp)
      have o0 := Ro.c0; have o1 := Ro.c1; have o2 := Ro.c2; have o3 := Ro.c3; have of := Ro.fr
      have ltr := HM.out.lt (b := w1.heap.size) (c0 := r0) (c1 := r1) (c2 := r2) (c3 := r3) (by simp)
      have lto := HM.out.lt (b := w.heap.size + 1 + 1) (c0 := 0) (c1 := 0) (c2 := 0) (c3 := 0) (by simp)
      clear Rr Ro hm
      go_wp2_with fail
      refine bodyPost_ret (v := .agg #[.int .u64 r0, .int .u64 r1, .int .u64 r2, .int .u64 r3]) (by simp [results, Tryz.results187, go_sem, *]) rfl ?_
      refine ⟨_, _, _, _, rfl, hr, by rw [HV.out, Nat.pow_zero, Nat.div_one], ?_⟩
      exact below_set4 HM.out.1 (by omega) _ _ _ _
end Go.Proofs.YthlcjdcjnioeoaaGreat
namespace Go.Proofs.YthlcjdcjnioeoaaGreat
set_option linter.unusedVariables false
set_option linter.unusedSimpArgs false
open Go.RowKit

theorem eqWz_yes {s0 s1 s2 s3 : Nat} (hs : ok4 s0 s1 s2 s3) (h : val4 s0 s1 s2 s3 = 0) (w : World) : (Op.equalIn 10000 27 (.agg #[.int .u64 s0, .int .u64 s1, .int .u64 s2, .int .u64 s3]) (.agg #[.int .u64 0, .int .u64 0, .int .u64 0, .int .u64 0])).run Tryz.prog w = .ok true w := by
  have h' := equalInW 9998 s0 s1 s2 s3 0 0 0 0 w
  rw [(eqW_iff hs zok).2 (h.trans rfl)] at h'
  exact h'
theorem eqWz_no {s0 s1 s2 s3 : Nat} (hs : ok4 s0 s1 s2 s3) (h : val4 s0 s1 s2 s3 ≠ 0) (w : World) : (Op.equalIn 10000 27 (.agg #[.int .u64 s0, .int .u64 s1, .int .u64 s2, .int .u64 s3]) (.agg #[.int .u64 0, .int .u64 0, .int .u64 0, .int .u64 0])).run Tryz.prog w = .ok false w := by
  have h' := equalInW 9998 s0 s1 s2 s3 0 0 0 0 w
  rw [eqW_false (fun q => h ((eqW_iff hs zok).1 q))] at h'
  exact h'
theorem eqGuardWd : Tryz.prog.eqGuardType Tryz.prog.depth 27 = false := by kernel_rfl
set_option maxRecDepth 100000 in
set_option maxHeartbeats 2000000 in
theorem rinv1_calls (f : Int) (F : FC) (hf : FieldIs f F) (a0 a1 a2 a3 : Nat) (ha : ok4 a0 a1 a2 a3) (hz : val4 a0 a1 a2 a3 % F.M ≠ 0) (w : World) :
    Calls Tryz.prog 154 #[.int .i64 f, .agg #[.int .u64 a0, .int .u64 a1, .int .u64 a2, .int .u64 a3]] w (fun e w' => ∃ s0 s1 s2 s3 : Nat, e = .returned (.tuple #[.agg #[.int .u64 s0, .int .u64 s1, .int .u64 s2, .int .u64 s3], .int .i64 0]) ∧ ok4 s0 s1 s2 s3 ∧ val4 s0 s1 s2 s3 = val4 a0 a1 a2 a3 ^ (F.M - 2) % F.M ∧ Below w.heap.size w w') := by
  have hG := eqGuardWd
  have h2 := hf.ok.gt
  go_enter Tryz.func154, Tryz.ntmps154
  go_wp2_with fail
  have HM := Lib.hid (((Mem.nil w).new (w.heap.size) a0 a1 a2 a3 24 (by simp)).new (w.heap.size + 1) 0 0 0 0 24 (by simp))
  refine (down_calls f F hf a0 a1 a2 a3 ha _).mono ?_
  rintro e w1 ⟨d0, d1, d2, d3, rfl, hd, hv, hbl⟩
  have HM' := Lib.hid (HM.out.on hbl)
  clear HM hbl
  have HM := HM'
  clear HM'
  have EQ := eqWz_no hd (by rw [hv]; exact hz)
  clear hv hz
  go_wp2_with fail
  refine (rmod_some f F hf _).mono ?_
  rintro e w2 ⟨rfl, hbl⟩
  have HM' := Lib.hid (HM.out.on hbl)
  clear HM hbl
  have HM := HM'
  clear HM'
  go_wp2_with fail
  refine (refMinus_calls F.m0 F.m1 F.m2 F.m3 2 0 0 0 hf.ok.okm (show ok4 2 0 0 0 by unfold ok4; decide) _).mono ?_
  rintro e w3 ⟨n0, n1, n2, n3, c, rfl, hn, hc, hv, hbl⟩
  have HVn := Lib.hid (show val4 n0 n1 n2 n3 = F.M - 2 by
    have e2 : val4 2 0 0 0 = 2 := rfl
    have := val4_lt hn
    rw [e2] at hv
    have e3 : val4 F.m0 F.m1 F.m2 F.m3 = F.M := rfl
    rw [e3] at hv
    have : c = 0 := by rcases (show c = 0 ∨ c = 1 by omega) with h | h; exact h; subst h; omega
    subst this
    omega)
  clear hv hc
  have HM' := Lib.hid ((HM.out.on hbl).new w3.heap.size n0 n1 n2 n3 27 rfl)
  clear HM hbl
  have HM := HM'
  clear HM'
  have kr := HM.out.row (b := w.heap.size) (c0 := a0) (c1 := a1) (c2 := a2) (c3 := a3) (by simp)
  have x0 := kr.c0; have x1 := kr.c1; have x2 := kr.c2; have x3 := kr.c3
  clear kr
  have xl : w.heap.size < w3.heap.size := by have := HM.out.lt (b := w.heap.size) (c0 := a0) (c1 := a1) (c2 := a2) (c3 := a3) (by simp); have l2 := HM.out.lt (b := w.heap.size + 1) (c0 := 0) (c1 := 0) (c2 := 0) (c3 := 0) (by simp); simp at l2; omega
  go_wp2_with fail
  refine (rexp_calls f F hf a0 a1 a2 a3 n0 n1 n2 n3 ha hn _).mono ?_
  rintro e w4 ⟨s0, s1, s2, s3, rfl, hs, hv, hbl⟩
  have HVs := Lib.hid (show val4 s0 s1 s2 s3 = val4 a0 a1 a2 a3 ^ (F.M - 2) % F.M by rw [hv, HVn.out])
  have HM' := Lib.hid (HM.out.on hbl)
  clear HM hbl hv x0 x1 x2 x3 xl
  have HM := HM'
  clear HM'
  have kr := HM.out.row (b := w.heap.size + 1) (c0 := 0) (c1 := 0) (c2 := 0) (c3 := 0) (by simp)
  have y0 := kr.c0; have y1 := kr.c1; have y2 := kr.c2; have y3 := kr.c3; have yf := kr.fr
  have yl := HM.out.lt (b := w.heap.size + 1) (c0 := 0) (c1 := 0) (c2 := 0) (c3 := 0) (by simp)
  clear kr
  go_wp2_with fail
  refine bodyPost_ret (v := .tuple #[.agg #[.int .u64 s0, .int .u64 s1, .int .u64 s2, .int .u64 s3], .int .i64 0]) (by simp [results, Tryz.results154, go_sem, *]) rfl ?_
  refine ⟨_, _, _, _, rfl, hs, HVs.out, ?_⟩
  exact below_set4 HM.out.1 (by omega) _ _ _ _
set_option maxRecDepth 100000 in
set_option maxHeartbeats 2000000 in
theorem rinv0_calls (f : Int) (F : FC) (hf : FieldIs f F) (a0 a1 a2 a3 : Nat) (ha : ok4 a0 a1 a2 a3) (hz : val4 a0 a1 a2 a3 % F.M = 0) (w : World) :
    Calls Tryz.prog 154 #[.int .i64 f, .agg #[.int .u64 a0, .int .u64 a1, .int .u64 a2, .int .u64 a3]] w (fun e w' => ∃ s0 s1 s2 s3 : Nat, e = .returned (.tuple #[.agg #[.int .u64 s0, .int .u64 s1, .int .u64 s2, .int .u64 s3], .int .i64 22]) ∧ ok4 s0 s1 s2 s3 ∧ val4 s0 s1 s2 s3 = 0 ∧ Below w.heap.size w w') := by
  have hG := eqGuardWd
  have h2 := hf.ok.gt
  go_enter Tryz.func154, Tryz.ntmps154
  go_wp2_with fail
  have HM := Lib.hid (((Mem.nil w).new (w.heap.size) a0 a1 a2 a3 24 (by simp)).new (w.heap.size + 1) 0 0 0 0 24 (by simp))
  refine (down_calls f F hf a0 a1 a2 a3 ha _).mono ?_
  rintro e w1 ⟨d0, d1, d2, d3, rfl, hd, hv, hbl⟩
  have HM' := Lib.hid (HM.out.on hbl)
  clear HM hbl
  have HM := HM'
  clear HM'
  have EQ := eqWz_yes hd (by rw [hv]; exact hz)
  clear hv hz
  have kr := HM.out.row (b := w.heap.size + 1) (c0 := 0) (c1 := 0) (c2 := 0) (c3 := 0) (by simp)
  have y0 := kr.c0; have y1 := kr.c1; have y2 := kr.c2; have y3 := kr.c3; have yf := kr.fr
  have yl := HM.out.lt (b := w.heap.size + 1) (c0 := 0) (c1 := 0) (c2 := 0) (c3 := 0) (by simp)
  clear kr
  go_wp2_with fail
  refine bodyPost_ret (v := .tuple #[.agg #[.int .u64 (0 : Nat), .int .u64 (0 : Nat), .int .u64 (0 : Nat), .int .u64 (0 : Nat)], .int .i64 22]) (by simp [results, Tryz.results154, go_sem, *]) rfl ?_
  refine ⟨_, _, _, _, rfl, zok, rfl, ?_⟩
  exact below_set4 HM.out.1 (by omega) 0 0 0 0
end Go.Proofs.YthlcjdcjnioeoaaGreat
namespace Go.Proofs.YthlcjdcjnioeoaaGreat.Ex
set_option linter.unusedVariables false
set_option linter.unusedSimpArgs false
open Go.RowKit
/-- the reference's calls over the first field -/
def gR (op : Fq → Fq → Fq) : Ent
  | [.v (.im (.int .i64 (.ofNat 1))), .v (.fl l), .v (.fl m)] => match rv1 l, rv1 m with
    | some x, some y => some ([], .one (.fl (e1 (op x y))))
    | _, _ => none
  | _ => none
noncomputable def gRI (c : Bool) : Ent
  | [.v (.im (.int .i64 (.ofNat 1))), .v (.fl l)] => match rv1 l with
    | some x => bif c then some ([x ≠ F1.zero], .many [.fl (e1 (finv x)), .im (.int .i64 0)]) else some ([x = F1.zero], .many [.fl (e1 F1.zero), .im (.int .i64 22)])
    | none => none
  | _ => none
theorem gR_ok {f : FuncId} {op : Fq → Fq → Fq} (h : ∀ (a b : Nat) (w : World), Calls Tryz.prog f #[.int .i64 1, .agg (flat (q1 a)).toArray, .agg (flat (q1 b)).toArray] w (FwPost (op (m1 a) (m1 b)).1 w)) :
    ∀ cs pre r, gR op cs = some (pre, r) → allP pre → ∀ (args : List Value) (w : World), CAs w cs args → Good Tryz.prog f r args w := by
  intro cs pre r hg hp args w ha
  unfold gR at hg
  split at hg
  · rename_i l m
    split at hg
    · rename_i x y hx hy
      cases hg
      obtain ⟨a, e1, rfl⟩ := rv1_ok l x hx
      obtain ⟨b, e2, rfl⟩ := rv1_ok m y hy
      match args, ha with
      | [v, u, s], ha =>
        have h1 : v = .int .i64 1 := ha.1
        have h2 : u = .agg (flat l).toArray := ha.2.1
        have h3 : s = .agg (flat m).toArray := ha.2.2.1
        rw [e1] at h2
        rw [e2] at h3
        subst h1; subst h2; subst h3
        exact (h a b w).mono fun e w' h => h
      | [], ha => exact ha.elim
      | [_], ha => exact ha.2.elim
      | [_, _], ha => exact ha.2.2.elim
      | _ :: _ :: _ :: _ :: _, ha => exact ha.2.2.2.elim
    · cases hg
  · cases hg
theorem r_add (a b : Nat) (w : World) : Calls Tryz.prog 120 #[.int .i64 1, .agg (flat (q1 a)).toArray, .agg (flat (q1 b)).toArray] w (FwPost (F1.add (m1 a) (m1 b)).1 w) := by
  refine (radd_calls 1 FP fld1 _ _ _ _ _ _ _ _ (fw_ok a) (fw_ok b) w).mono fun e w' h => ?_
  rw [show (F1.add (m1 a) (m1 b)).1 = (val4 (fw a 0) (fw a 1) (fw a 2) (fw a 3) + val4 (fw b 0) (fw b 1) (fw b 2) (fw b 3)) % FP.M from (Nat.add_mod _ _ _).symm]
  exact FwPost.of (Nat.mod_lt _ fp_pos) h
theorem r_sub (a b : Nat) (w : World) : Calls Tryz.prog 153 #[.int .i64 1, .agg (flat (q1 a)).toArray, .agg (flat (q1 b)).toArray] w (FwPost (F1.sub (m1 a) (m1 b)).1 w) := by
  refine (rsub_calls 1 FP fld1 _ _ _ _ _ _ _ _ (fw_ok a) (fw_ok b) w).mono fun e w' h => ?_
  have e : (F1.sub (m1 a) (m1 b)).1 = (val4 (fw a 0) (fw a 1) (fw a 2) (fw a 3) + (FP.M - val4 (fw b 0) (fw b 1) (fw b 2) (fw b 3) % FP.M)) % FP.M := by
    show (wv a % FP.M + (0 + FP.M - wv b % FP.M) % FP.M) % FP.M = (wv a + (FP.M - wv b % FP.M)) % FP.M
    rw [Nat.zero_add, ← Nat.add_mod]
  rw [e]
  exact FwPost.of (Nat.mod_lt _ fp_pos) h
theorem r_mul (a b : Nat) (w : World) : Calls Tryz.prog 119 #[.int .i64 1, .agg (flat (q1 a)).toArray, .agg (flat (q1 b)).toArray] w (FwPost (F1.mul (m1 a) (m1 b)).1 w) := by
  refine (rmul_calls 1 FP fld1 _ _ _ _ _ _ _ _ (fw_ok a) (fw_ok b) w).mono fun e w' h => ?_
  rw [show (F1.mul (m1 a) (m1 b)).1 = (val4 (fw a 0) (fw a 1) (fw a 2) (fw a 3) * val4 (fw b 0) (fw b 1) (fw b 2) (fw b 3)) % FP.M from (Nat.mul_mod _ _ _).symm]
  exact FwPost.of (Nat.mod_lt _ fp_pos) h
theorem r_inv (c : Bool) : ∀ cs pre r, gRI c cs = some (pre, r) → allP pre → ∀ (args : List Value) (w : World), CAs w cs args → Good Tryz.prog 154 r args w := by
  intro cs pre r hg hp args w ha
  unfold gRI at hg
  split at hg
  · rename_i l
    split at hg
    · rename_i x hx
      obtain ⟨a, e1, rfl⟩ := rv1_ok l x hx
      match args, ha with
      | [v, u], ha =>
        have h1 : v = .int .i64 1 := ha.1
        have h2 : u = .agg (flat l).toArray := ha.2.1
        rw [e1] at h2
        subst h1; subst h2
        cases c
        · cases hg
          have hz : m1 a = F1.zero := hp.1
          have hz' : val4 (fw a 0) (fw a 1) (fw a 2) (fw a 3) % FP.M = 0 := congrArg Fin.val hz
          refine (rinv0_calls 1 FP fld1 _ _ _ _ (fw_ok a) hz' w).mono ?_
          rintro e w' ⟨s0, s1, s2, s3, rfl, hs, hv, hb⟩
          obtain ⟨rfl, rfl, rfl, rfl⟩ := fw_of hs (fp_lt fp_pos) hv
          exact ⟨rfl, hb⟩
        · cases hg
          have hz : m1 a ≠ F1.zero := hp.1
          have hz' : val4 (fw a 0) (fw a 1) (fw a 2) (fw a 3) % FP.M ≠ 0 := fun e => hz (Fin.ext e)
          refine (rinv1_calls 1 FP fld1 _ _ _ _ (fw_ok a) hz' w).mono ?_
          rintro e w' ⟨s0, s1, s2, s3, rfl, hs, hv, hb⟩
          have hf : (finv (m1 a)).1 = val4 (fw a 0) (fw a 1) (fw a 2) (fw a 3) ^ (FP.M - 2) % FP.M := by
            rw [finv_val, Nat.one_mul]
            exact (Nat.pow_mod _ _ _).symm
          rw [← hf] at hv
          obtain ⟨rfl, rfl, rfl, rfl⟩ := fw_of hs (fp_lt (finv (m1 a)).2) hv
          exact ⟨rfl, hb⟩
      | [], ha => exact ha.elim
      | [_], ha => exact ha.2.elim
      | _ :: _ :: _ :: _, ha => exact ha.2.2.elim
    · cases hg
  · cases hg

theorem ok_al (c : Bool) : TabOk Tryz.prog (T_Neg2 c) := ok_Neg2 c (ok_base c)
noncomputable def T_r2Add (c : Bool) : Tab := (T_Neg2 c).add 120 (gR F1.add)
theorem ok_r2Add (c : Bool) : TabOk Tryz.prog (T_r2Add c) := (ok_al c).add Tryz.func120 (by kernel_rfl) (by kernel_rfl) (gR_ok r_add)
noncomputable def T_r2Sub (c : Bool) : Tab := (T_r2Add c).add 153 (gR F1.sub)
theorem ok_r2Sub (c : Bool) : TabOk Tryz.prog (T_r2Sub c) := (ok_r2Add c).add Tryz.func153 (by kernel_rfl) (by kernel_rfl) (gR_ok r_sub)
noncomputable def T_r2Mul (c : Bool) : Tab := (T_r2Sub c).add 119 (gR F1.mul)
theorem ok_r2Mul (c : Bool) : TabOk Tryz.prog (T_r2Mul c) := (ok_r2Sub c).add Tryz.func119 (by kernel_rfl) (by kernel_rfl) (gR_ok r_mul)
noncomputable def T_r2Inv (c : Bool) : Tab := (T_r2Mul c).add 154 (gRI c)
theorem ok_r2Inv (c : Bool) : TabOk Tryz.prog (T_r2Inv c) := (ok_r2Mul c).add Tryz.func154 (by kernel_rfl) (by kernel_rfl) (r_inv c)
set_option maxRecDepth 100000 in
theorem run_radd (c : Bool) (x : Nat) (y : Nat) : funA Tryz.prog (T_r2Inv c) qN (fun _ => true) Tryz.f134 40 [.v (.fl (q1 x)), .v (.fl (q1 y))] = some ([], .one (.fl (e1 (F1.add (m1 x) (m1 y))))) := by kernel_rfl
noncomputable def T_radd (c : Bool) : Tab := (T_r2Inv c).add 134 (g2 rv1 rv1 (fun x y => ([], .one (.fl (e1 (F1.add x y))))))
theorem ok_radd (c : Bool) : TabOk Tryz.prog (T_radd c) := (ok_r2Inv c).add Tryz.func134 (by kernel_rfl) (by kernel_rfl) (g2v_ok rv1_ok rv1_ok fun x y hp args w ha => fun_sound hmix (ok_r2Inv c) qN_ok Tryz.func134 (run_radd c x y) hp ha)
set_option maxRecDepth 100000 in
theorem run_rsub (c : Bool) (x : Nat) (y : Nat) : funA Tryz.prog (T_radd c) qN (fun _ => true) Tryz.f132 40 [.v (.fl (q1 x)), .v (.fl (q1 y))] = some ([], .one (.fl (e1 (F1.sub (m1 x) (m1 y))))) := by kernel_rfl
noncomputable def T_rsub (c : Bool) : Tab := (T_radd c).add 132 (g2 rv1 rv1 (fun x y => ([], .one (.fl (e1 (F1.sub x y))))))
theorem ok_rsub (c : Bool) : TabOk Tryz.prog (T_rsub c) := (ok_radd c).add Tryz.func132 (by kernel_rfl) (by kernel_rfl) (g2v_ok rv1_ok rv1_ok fun x y hp args w ha => fun_sound hmix (ok_radd c) qN_ok Tryz.func132 (run_rsub c x y) hp ha)
set_option maxRecDepth 100000 in
theorem run_rmul (c : Bool) (x : Nat) (y : Nat) : funA Tryz.prog (T_rsub c) qN (fun _ => true) Tryz.f133 40 [.v (.fl (q1 x)), .v (.fl (q1 y))] = some ([], .one (.fl (e1 (F1.mul (m1 x) (m1 y))))) := by kernel_rfl
noncomputable def T_rmul (c : Bool) : Tab := (T_rsub c).add 133 (g2 rv1 rv1 (fun x y => ([], .one (.fl (e1 (F1.mul x y))))))
theorem ok_rmul (c : Bool) : TabOk Tryz.prog (T_rmul c) := (ok_rsub c).add Tryz.func133 (by kernel_rfl) (by kernel_rfl) (g2v_ok rv1_ok rv1_ok fun x y hp args w ha => fun_sound hmix (ok_rsub c) qN_ok Tryz.func133 (run_rmul c x y) hp ha)
set_option maxRecDepth 100000 in
theorem run_rAdd2 (c : Bool) (x : N2) (y : N2) : funA Tryz.prog (T_rmul c) qN (fun _ => true) Tryz.f84 40 [.v (.fl (q2 x)), .v (.fl (q2 y))] = some ([], .one (.fl (e2 (F2.add (m2 x) (m2 y))))) := by kernel_rfl
noncomputable def T_rAdd2 (c : Bool) : Tab := (T_rmul c).add 84 (g2 rv2 rv2 (fun x y => ([], .one (.fl (e2 (F2.add x y))))))
theorem ok_rAdd2 (c : Bool) : TabOk Tryz.prog (T_rAdd2 c) := (ok_rmul c).add Tryz.func84 (by kernel_rfl) (by kernel_rfl) (g2v_ok rv2_ok rv2_ok fun x y hp args w ha => fun_sound hmix (ok_rmul c) qN_ok Tryz.func84 (run_rAdd2 c x y) hp ha)
set_option maxRecDepth 100000 in
theorem run_rSub2 (c : Bool) (x : N2) (y : N2) : funA Tryz.prog (T_rAdd2 c) qN (fun _ => true) Tryz.f124 40 [.v (.fl (q2 x)), .v (.fl (q2 y))] = some ([], .one (.fl (e2 (F2.sub (m2 x) (m2 y))))) := by kernel_rfl
noncomputable def T_rSub2 (c : Bool) : Tab := (T_rAdd2 c).add 124 (g2 rv2 rv2 (fun x y => ([], .one (.fl (e2 (F2.sub x y))))))
theorem ok_rSub2 (c : Bool) : TabOk Tryz.prog (T_rSub2 c) := (ok_rAdd2 c).add Tryz.func124 (by kernel_rfl) (by kernel_rfl) (g2v_ok rv2_ok rv2_ok fun x y hp args w ha => fun_sound hmix (ok_rAdd2 c) qN_ok Tryz.func124 (run_rSub2 c x y) hp ha)
set_option maxRecDepth 100000 in
theorem run_rMul2 (c : Bool) (x : N2) (y : N2) : funA Tryz.prog (T_rSub2 c) qN (fun _ => true) Tryz.f80 40 [.v (.fl (q2 x)), .v (.fl (q2 y))] = some ([], .one (.fl (e2 ((F1.sub (F1.mul (m2 x).1 (m2 y).1) (F1.mul (m2 x).2 (m2 y).2), F1.add (F1.mul (m2 x).1 (m2 y).2) (F1.mul (m2 x).2 (m2 y).1)))))) := by kernel_rfl
theorem raw_rMul2 (x : Q2) (y : Q2) : F2.mul x y = (F1.sub (F1.mul x.1 y.1) (F1.mul x.2 y.2), F1.add (F1.mul x.1 y.2) (F1.mul x.2 y.1)) := by
  refine Prod.ext ?_ rfl
  show F1.add (F1.mul x.1 y.1) (F1.mul (F1.neg F1.one) (F1.mul x.2 y.2)) = F1.add (F1.mul x.1 y.1) (F1.neg (F1.mul x.2 y.2))
  rw [F1.neg_mul, F1.one_mul]
noncomputable def T_rMul2 (c : Bool) : Tab := (T_rSub2 c).add 80 (g2 rv2 rv2 (fun x y => ([], .one (.fl (e2 (F2.mul x y))))))
theorem ok_rMul2 (c : Bool) : TabOk Tryz.prog (T_rMul2 c) := (ok_rSub2 c).add Tryz.func80 (by kernel_rfl) (by kernel_rfl) (g2v_ok rv2_ok rv2_ok fun x y hp args w ha => by show Good _ _ (.one (.fl (e2 (F2.mul (m2 x) (m2 y))))) _ _; rw [raw_rMul2]; exact fun_sound hmix (ok_rSub2 c) qN_ok Tryz.func80 (run_rMul2 c x y) hp ha)
set_option maxRecDepth 100000 in
theorem run_rNeg2 (c : Bool) (x : N2) : funA Tryz.prog (T_rMul2 c) qN (fun _ => true) Tryz.f76 40 [.v (.fl (q2 x))] = some ([], .one (.fl (e2 (F2.sub F2.zero (m2 x))))) := by kernel_rfl
noncomputable def T_rNeg2 (c : Bool) : Tab := (T_rMul2 c).add 76 (g1 rv2 (fun x => ([], .one (.fl (e2 (F2.sub F2.zero x))))))
theorem ok_rNeg2 (c : Bool) : TabOk Tryz.prog (T_rNeg2 c) := (ok_rMul2 c).add Tryz.func76 (by kernel_rfl) (by kernel_rfl) (g1v_ok rv2_ok fun x hp args w ha => fun_sound hmix (ok_rMul2 c) qN_ok Tryz.func76 (run_rNeg2 c x) hp ha)
set_option maxRecDepth 100000 in
theorem run_rConj2 (c : Bool) (x : N2) : funA Tryz.prog (T_rNeg2 c) qN (fun _ => true) Tryz.f81 40 [.v (.fl (q2 x))] = some ([], .one (.fl (e2 (F2.sub ((m2 x).1, F1.zero) (F1.zero, (m2 x).2))))) := by kernel_rfl
noncomputable def T_rConj2 (c : Bool) : Tab := (T_rNeg2 c).add 81 (g1 rv2 (fun x => ([], .one (.fl (e2 (F2.sub (x.1, F1.zero) (F1.zero, x.2)))))))
theorem ok_rConj2 (c : Bool) : TabOk Tryz.prog (T_rConj2 c) := (ok_rNeg2 c).add Tryz.func81 (by kernel_rfl) (by kernel_rfl) (g1v_ok rv2_ok fun x hp args w ha => fun_sound hmix (ok_rNeg2 c) qN_ok Tryz.func81 (run_rConj2 c x) hp ha)
noncomputable def riv2 (x : Q2) : Q2 := F2.mul (F2.sub (x.1, F1.zero) (F1.zero, x.2)) (finv (nm2 x), F1.zero)
theorem riv2_eq (x : Q2) : riv2 x = iv2 x := by
  have h : ∀ k : Fq, F2.mul (F2.sub (x.1, F1.zero) (F1.zero, x.2)) (k, F1.zero) = sc2 (conj2' x) k := fun k => by
    refine Prod.ext ?_ ?_
    · exact ring_id F1 (envL F1 [x.1, x.2, k]) (.add (.mul (.add (.v 0) (.neg .zero)) (.v 2)) (.mul (.neg .one) (.mul (.add .zero (.neg (.v 1))) .zero))) (.mul (.v 0) (.v 2)) (by decide)
    · exact ring_id F1 (envL F1 [x.1, x.2, k]) (.add (.mul (.add (.v 0) (.neg .zero)) .zero) (.mul (.add .zero (.neg (.v 1))) (.v 2))) (.mul (.neg (.v 1)) (.v 2)) (by decide)
  exact h _
noncomputable def oR2 (c : Bool) (x : Q2) : List Prop × RV := bif c then ([nm2 x ≠ F1.zero], .many [.fl (e2 (riv2 x)), .im (.int .i64 0)]) else ([nm2 x = F1.zero], .many [.fl (e2 F2.zero), .im (.int .i64 22)])
set_option maxRecDepth 100000 in
theorem run_rInv2_true (x : N2) : funA Tryz.prog (T_rConj2 true) qN (fun _ => true) Tryz.f126 40 [.v (.fl (q2 x))] = some ([nm2 (m2 x) ≠ F1.zero], .many [.fl (e2 (riv2 (m2 x))), .im (.int .i64 0)]) := by kernel_rfl
set_option maxRecDepth 100000 in
theorem run_rInv2_false (x : N2) : funA Tryz.prog (T_rConj2 false) qN (fun _ => true) Tryz.f126 40 [.v (.fl (q2 x))] = some ([nm2 (m2 x) = F1.zero], .many [.fl (e2 F2.zero), .im (.int .i64 22)]) := by kernel_rfl
theorem oR2_ok (c : Bool) (x : N2) (hp : allP (oR2 c (m2 x)).1) (args : List Value) (w : World) (ha : CAs w [.v (.fl (q2 x))] args) : Good Tryz.prog 126 (oR2 c (m2 x)).2 args w := by
  cases c
  · exact fun_sound hmix (ok_rConj2 false) qN_ok Tryz.func126 (run_rInv2_false x) hp ha
  · exact fun_sound hmix (ok_rConj2 true) qN_ok Tryz.func126 (run_rInv2_true x) hp ha
noncomputable def T_rInv2 (c : Bool) : Tab := (T_rConj2 c).add 126 (g1 rv2 (oR2 c))
theorem ok_rInv2 (c : Bool) : TabOk Tryz.prog (T_rInv2 c) := (ok_rConj2 c).add Tryz.func126 (by kernel_rfl) (by kernel_rfl) (g1v_ok rv2_ok (oR2_ok c))
end Go.Proofs.YthlcjdcjnioeoaaGreat.Ex
namespace Go.Proofs.YthlcjdcjnioeoaaGreat.Ex
set_option linter.unusedVariables false
set_option linter.unusedSimpArgs false
open Go.RowKit

/-- fewer facts hold too -/
theorem Holds.sub {nt base : Nat} {w0 : World} {A A' : List Fact} {a : Act} {w : World} (h : Holds nt base w0 A a w) (hs : ∀ φ ∈ A', φ ∈ A) : Holds nt base w0 A' a w := by
  obtain ⟨β, h1, h2⟩ := h.facts
  exact ⟨h.defers, h.size, h.below, h.heap, β, fun φ hφ => h1 φ (hs φ hφ), fun k k' l l' hk hk' => h2 k k' l l' (hs _ hk) (hs _ hk')⟩
/-- the facts of A at the places that K names -/
def pick (A : List Fact) : List Fact → Option (List Fact)
  | [] => some []
  | .slot s _ :: r => match look A s, pick A r with | some v, some l => some (.slot s v :: l) | _, _ => none
  | .row k _ _ :: r => match rowOf A k, pick A r with | some (o, l), some m => some (.row k o l :: m) | _, _ => none
  | .at k _ :: r => match atOf A k, pick A r with | some b, some m => some (.at k b :: m) | _, _ => none
theorem pick_mem {A : List Fact} : ∀ {K L : List Fact}, pick A K = some L → ∀ φ ∈ L, φ ∈ A
  | [], L, h, φ, hφ => by cases h; cases hφ
  | .slot s v :: r, L, h, φ, hφ => by
    unfold pick at h
    split at h
    · rename_i u l h1 h2
      cases h
      rcases List.mem_cons.1 hφ with rfl | hφ
      · exact look_mem h1
      · exact pick_mem h2 φ hφ
    · cases h
  | .row k o m :: r, L, h, φ, hφ => by
    unfold pick at h
    split at h
    · rename_i o' l' m' h1 h2
      cases h
      rcases List.mem_cons.1 hφ with rfl | hφ
      · exact rowOf_mem h1
      · exact pick_mem h2 φ hφ
    · cases h
  | .at k b :: r, L, h, φ, hφ => by
    unfold pick at h
    split at h
    · rename_i b' m' h1 h2
      cases h
      rcases List.mem_cons.1 hφ with rfl | hφ
      · exact atOf_mem h1
      · exact pick_mem h2 φ hφ
    · cases h
/-- code, and the facts at the places that K names -/
def runK (P : Program) (q : EqT) (nt : Nat) (C : Nat → Cfg) (n : Nat) (c : Code) (A K : List Fact) : Option (List Prop × EA × List Fact) :=
  match run P q nt C n c A with
  | some (ps, e, A1) => match pick A1 K with | some L => some (ps, e, L) | none => none
  | none => none
section
variable {P : Program} {q : EqT} {nt base : Nat} {w0 : World} {Q : Exit → Act → World → Prop}
theorem runKW_sound (hm : P.follows .mixedOrders = true) {C : Nat → Cfg} (hT : ∀ n d, TabOkW P ((C n).T d) base w0) (hq : EqOkW P q base w0) {n : Nat} {c : Code} {A K L : List Fact} {ps : List Prop} {e : EA} {a : Act} {w : World}
    (h : runK P q nt C n c A K = some (ps, e, L)) (hps : allP ps) (hA : Holds nt base w0 A a w) (hQ : ∀ a w, Holds nt base w0 L a w → Q e.out a w) : c.wp P Q a w := by
  unfold runK at h
  split at h
  · rename_i ps' e' A1 h1
    split at h
    · rename_i L' h2
      cases h
      exact (run_sound hm hT hq n c A A1 ps e a w Q h1 hps hA fun a w hA1 => hQ a w (hA1.sub (pick_mem h2))).1
    · cases h
  · cases h
/-- a function taken apart: its body's facts at the start; what it answers -/
theorem fn_enter {f : FuncId} {fn : Func} (hf : P.funcs[f]? = some fn) {c : Code} (hb : fn.body = some c) {cs : List CA} {args : List Value} {w : World} (ha : CAs w cs args) (hn : cs.length ≤ fn.ntmps) {R : Ending → World → Prop}
    (h : ∀ a w', Holds fn.ntmps w.heap.size w (argF 0 cs) a w' → c.wp P (bodyPost P fn R) a w') : Calls P f args.toArray w R := by
  have hlen : ∀ (cs : List CA) (vs : List Value), CAs w cs vs → cs.length = vs.length := fun cs => by
    induction cs with
    | nil => intro vs h; cases vs with | nil => rfl | cons _ _ => exact h.elim
    | cons c cs ih => intro vs h; cases vs with | nil => cases c <;> exact h.elim | cons v vs => cases c <;> exact congrArg (· + 1) (ih vs h.2)
  have hle' : args.length ≤ fn.ntmps := by rw [← hlen cs args ha]; exact hn
  refine calls_of_wp hf hb (h _ _ ?_)
  obtain ⟨β, hβ⟩ := argF_ok { tmps := args.toArray ++ Array.replicate (fn.ntmps - args.toArray.size) undef, defers := [] } w cs args 0 ha (fun j v hj => by
    have hlt : j < args.length := (List.getElem?_eq_some_iff.1 hj).1
    simp only [Nat.zero_add]
    rw [Array.getElem?_append_left (by simpa using hlt)]
    simpa using hj)
  exact ⟨rfl, by simp; omega, Below.refl _ _, Nat.le_refl _, β, hβ, fun k k' l l' hk => by
    have : ∀ (cs : List CA) (i : Nat) (k : Nat) (l : List At), Fact.row k true l ∈ argF i cs → False := fun cs => by
      induction cs with
      | nil => intro i k l h; cases h
      | cons c cs ih =>
        intro i k l h
        cases c with
        | v x => rcases List.mem_cons.1 h with h | h; · cases h
                 · exact ih _ _ _ h
        | s l1 n1 m1 =>
          rcases List.mem_cons.1 h with h | h
          · cases h
          · rcases List.mem_cons.1 h with h | h
            · cases h
            · exact ih _ _ _ h
    exact (this cs 0 k l hk).elim⟩
theorem fn_leave {fn : Func} {A : List Fact} {l : List TV} {r : RV} {w : World} (h1 : resTs P A fn.results.toList = some l) (h2 : rv l = some r) {a : Act} {w' : World} (hA : Holds nt w.heap.size w A a w') : bodyPost P fn (fun e w' => e = .returned r.den ∧ Below w.heap.size w w') .ret a w' := by
  obtain ⟨β', hok, _⟩ := hA.facts
  have hres : (results fn a.tmps).run P w' = .ok r.den w' := by
    have := resTs_spec hok h1
    show ((fn.results.mapM (resF a.tmps)) >>= fun vs => pure (if h : vs.size = 1 then vs[0] else .tuple vs) : Sem Value).run P w' = _
    have hm : (List.toArray <$> fn.results.toList.mapM (resF a.tmps)).run P w' = .ok (l.map TV.den).toArray w' := by simp [this]
    rw [Array.mapM_eq_mapM_toList, Sem.run_bind, hm, Result.andThen_ok, Sem.run_pure]
    exact congrArg (fun x => Result.ok x w') (rv_spec h2)
  exact ⟨hA.defers, _, hres, rfl, hA.below⟩
end
/-- a sequence's parts, a block's, a loop's -/
def cA : Code → Code
  | .seq a _ => a
  | c => c
def cB : Code → Code
  | .seq _ b => b
  | c => c
def cIn : Code → Code
  | .block _ c => c
  | .loop c => c
  | c => c
end Go.Proofs.YthlcjdcjnioeoaaGreat.Ex
