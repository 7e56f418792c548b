/-
  The reference's bit, Of and Exp, for either field: the power of an element. Conditions: words below 2^64.
-/
import Derived.Test.YtalddekocfkbhaaRef3
import Derived.Test.YtalddekocfkbhaaBits
namespace Go.Proofs.Ytalddekocfkbhaa
set_option linter.unusedVariables false
set_option linter.unusedSimpArgs false
open Go.RowKit

set_option maxRecDepth 20000 in
set_option maxHeartbeats 1000000 in
theorem rof_calls (n : Nat) (w : World) : Calls Try.prog 30 #[.int .u64 n] w fun e w' => e = .returned (.agg #[.int .u64 n, .int .u64 0, .int .u64 0, .int .u64 0]) ∧ Below w.heap.size w w' := by
  go_enter Try.func30, Try.ntmps30
  go_wp2_with fail
  refine bodyPost_ret (v := .agg #[.int .u64 n, .int .u64 0, .int .u64 0, .int .u64 0]) (by simp [results, Try.results30, go_sem]) rfl ?_
  refine ⟨rfl, ?_⟩
  repeat (first | exact Below.refl _ _ | refine Below.drew ?_ | refine Below.alloc ?_ (by first | (simp; done) | (simp; omega)) _ | refine Below.setCell ?_ (by simp) _)
set_option maxRecDepth 20000 in
set_option maxHeartbeats 1000000 in
theorem rbit_calls (a0 a1 a2 a3 i : Nat) (ha : ok4 a0 a1 a2 a3) (hi : i < 256) (w : World) :
    Calls Try.prog 69 #[.agg #[.int .u64 a0, .int .u64 a1, .int .u64 a2, .int .u64 a3], .int .i64 i] w (fun e w' => e = .returned (.bool (decide (bitOf (val4 a0 a1 a2 a3) i = 1))) ∧ Below w.heap.size w w') := by
  obtain ⟨j, k, q, r, hj, hk, e⟩ := ex_ix hi
  have hc := new_cell w 26 a0 a1 a2 a3 j hj
  have hx := fn4_lt ha j
  obtain ⟨s, e1, e2, hs⟩ := ex_bit hx (bit_fn ha hj hk e.out)
  have hb := bitOf_01 (val4 a0 a1 a2 a3) i
  generalize bitOf (val4 a0 a1 a2 a3) i = b at *
  generalize fnOf [a0, a1, a2, a3] j = x at *
  have hb' : b ≤ 1 := by omega
  clear e
  go_enter Try.func69, Try.ntmps69
  rcases hb with rfl | rfl
  · go_wp2_with fail
    go_ret
    exact ⟨rfl, (Below.refl _ _).alloc (Nat.le_refl _) _⟩
  · go_wp2_with fail
    go_ret
    exact ⟨rfl, (Below.refl _ _).alloc (Nat.le_refl _) _⟩

theorem rpow0 {M A N i : Nat} (hb : bitOf N i = 0) : A ^ (N / 2 ^ (i + 1)) % M * (A ^ (N / 2 ^ (i + 1)) % M) % M = A ^ (N / 2 ^ i) % M := by
  rw [← Nat.mul_mod, ← Nat.pow_add, bit_step N i, hb]
  congr 2
  omega
theorem rpow1 {M A N i : Nat} (hb : bitOf N i = 1) : A ^ (N / 2 ^ (i + 1)) % M * (A ^ (N / 2 ^ (i + 1)) % M) % M * A % M = A ^ (N / 2 ^ i) % M := by
  rw [← Nat.mul_mod, ← Nat.pow_add, bit_step N i, hb, Nat.mod_mul_mod, ← Nat.pow_succ]
  congr 2
  omega

set_option maxRecDepth 100000 in
set_option maxHeartbeats 4000000 in
theorem rexp_calls (f : Int) (F : FC) (hf : FieldIs f F) (a0 a1 a2 a3 n0 n1 n2 n3 : Nat) (ha : ok4 a0 a1 a2 a3) (hn : ok4 n0 n1 n2 n3) (w : World) :
    Calls Try.prog 20 #[.int .i64 f, .agg #[.int .u64 a0, .int .u64 a1, .int .u64 a2, .int .u64 a3], .agg #[.int .u64 n0, .int .u64 n1, .int .u64 n2, .int .u64 n3]] w (FePost (val4 a0 a1 a2 a3 ^ val4 n0 n1 n2 n3 % F.M) w) := by
  have h2 := hf.ok.gt
  go_enter Try.func20, Try.ntmps20
  go_wp2_with fail
  have M0 := ((((Mem.nil w).new w.heap.size a0 a1 a2 a3 25 rfl).new (w.heap.size + 1) n0 n1 n2 n3 26 (by simp)).new (w.heap.size + 1 + 1) 0 0 0 0 25 (by simp))
  refine (rof_calls 1 _).mono ?_
  rintro e w1 ⟨rfl, hbl⟩
  have M1 := M0.on hbl
  have hz1 : w.heap.size + 1 + 1 < w1.heap.size := M1.lt (c0 := 0) (c1 := 0) (c2 := 0) (c3 := 0) (by simp)
  have M2 := Lib.hid (M1.new w1.heap.size 1 0 0 0 25 rfl)
  clear hbl M0 M1
  go_wp2_with fail
  go_loopw [8] (fun t wr => ∃ (j r0 r1 r2 r3 : Nat) (m : Int), j ≤ 256 ∧ Hid (m = (j : Int) - 1) ∧ t = .int .i64 m ∧ ok4 r0 r1 r2 r3 ∧ Hid (val4 r0 r1 r2 r3 = val4 a0 a1 a2 a3 ^ (val4 n0 n1 n2 n3 / 2 ^ j) % F.M) ∧ Hid (Mem w wr [(w1.heap.size, r0, r1, r2, r3), (w.heap.size + 1 + 1, 0, 0, 0, 0), (w.heap.size + 1, n0, n1, n2, n3), (w.heap.size, a0, a1, a2, a3)])) (fun t _ => (intOf t + 1).toNat)
  case atStart =>
    refine ⟨256, 1, 0, 0, 0, 255, Nat.le_refl _, Lib.hid (by omega), rfl, (show ok4 1 0 0 0 by unfold ok4; decide), Lib.hid ?_, M2⟩
    rw [Nat.div_eq_of_lt (show val4 n0 n1 n2 n3 < 2 ^ 256 from val4_lt hn), Nat.pow_zero, Nat.mod_eq_of_lt (by omega)]
    rfl
  case round =>
    obtain ⟨j, r0, r1, r2, r3, m, hj, hm, rfl, hr, HV, HM⟩ := hrel
    by_cases hlt : 0 < j
    · obtain ⟨i, hi⟩ : ∃ i, j = i + 1 := ⟨j - 1, by omega⟩
      subst hi
      obtain rfl : m = (i : Int) := by have := hm.out; omega
      have Rr := HM.out.row (b := w1.heap.size) (c0 := r0) (c1 := r1) (c2 := r2) (c3 := r3) (by simp)
      have x0 := Rr.c0; have x1 := Rr.c1; have x2 := Rr.c2; have x3 := Rr.c3
      have ltr := HM.out.lt (b := w1.heap.size) (c0 := r0) (c1 := r1) (c2 := r2) (c3 := r3) (by simp)
      clear Rr hm
      go_wp2_with fail
      refine (rmul_calls f F hf r0 r1 r2 r3 r0 r1 r2 r3 hr hr _).mono ?_
      rintro e w3 ⟨p0, p1, p2, p3, rfl, hp, hv, hbl⟩
      have HP := Lib.hid (show val4 p0 p1 p2 p3 = _ by rw [hv, HV.out])
      have M4 := HM.out.on hbl
      have lt4 := M4.lt (b := w1.heap.size) (c0 := r0) (c1 := r1) (c2 := r2) (c3 := r3) (by simp)
      have Rr := M4.row (b := w1.heap.size) (c0 := r0) (c1 := r1) (c2 := r2) (c3 := r3) (by simp)
      have Rn := M4.row (b := w.heap.size + 1) (c0 := n0) (c1 := n1) (c2 := n2) (c3 := n3) (by simp)
      have M5 := Lib.hid (M4.put p0 p1 p2 p3 (by omega) (by intro r hr; simp at hr; rcases hr with rfl | rfl | rfl <;> simp <;> omega))
      clear x0 x1 x2 x3 hv hbl M4
      have x0 := Rr.c0; have x1 := Rr.c1; have x2 := Rr.c2; have x3 := Rr.c3; have xf := Rr.fr
      have y0 := Rn.c0; have y1 := Rn.c1; have y2 := Rn.c2; have y3 := Rn.c3
      have ne1 : ¬ w.heap.size + 1 = w1.heap.size := by omega
      have ne1' : ¬ w1.heap.size = w.heap.size + 1 := by omega
      have hi256 : i < 256 := by omega
      clear Rr Rn
      go_wp2_with fail
      refine (rbit_calls n0 n1 n2 n3 i hn hi256 _).mono ?_
      rintro e w4 ⟨he, hbl⟩
      have M5' := M5.out
      unfold set4 at M5'
      have M6 := M5'.on hbl
      clear hbl M5' x0 x1 x2 x3 xf y0 y1 y2 y3
      have lt6 := M6.lt (b := w1.heap.size) (c0 := p0) (c1 := p1) (c2 := p2) (c3 := p3) (by simp)
      rcases bitOf_01 (val4 n0 n1 n2 n3) i with hb | hb
      · rw [hb, show decide (0 = 1) = false from rfl] at he
        subst he
        have HS := Lib.hid (show val4 p0 p1 p2 p3 = val4 a0 a1 a2 a3 ^ (val4 n0 n1 n2 n3 / 2 ^ i) % F.M by rw [HP.out]; exact rpow0 hb)
        have M7 := Lib.hid M6
        clear hb M6
        go_wp2_with fail
        go_roundw
        case rel => exact ⟨i, p0, p1, p2, p3, (i : Int) - 1, by omega, Lib.hid rfl, by first | rfl | go_num, hp, HS, M7⟩
        case measure => first | (simp [intOf]; done) | (simp [intOf]; omega)
      · rw [hb, show decide (1 = 1) = true from rfl] at he
        subst he
        have Rr := M6.row (b := w1.heap.size) (c0 := p0) (c1 := p1) (c2 := p2) (c3 := p3) (by simp)
        have Ra := M6.row (b := w.heap.size) (c0 := a0) (c1 := a1) (c2 := a2) (c3 := a3) (by simp)
        have x0 := Rr.c0; have x1 := Rr.c1; have x2 := Rr.c2; have x3 := Rr.c3
        have z0 := Ra.c0; have z1 := Ra.c1; have z2 := Ra.c2; have z3 := Ra.c3
        have HB := Lib.hid hb
        have M7 := Lib.hid M6
        clear hb M6 Rr Ra
        go_wp2_with fail
        refine (rmul_calls f F hf p0 p1 p2 p3 a0 a1 a2 a3 hp ha _).mono ?_
        rintro e w5 ⟨q0, q1, q2, q3, rfl, hq, hv, hbl⟩
        have HS := Lib.hid (show val4 q0 q1 q2 q3 = val4 a0 a1 a2 a3 ^ (val4 n0 n1 n2 n3 / 2 ^ i) % F.M by rw [hv, HP.out]; exact rpow1 HB.out)
        have M8 := M7.out.on hbl
        have lt8 := M8.lt (b := w1.heap.size) (c0 := p0) (c1 := p1) (c2 := p2) (c3 := p3) (by simp)
        have Rr := M8.row (b := w1.heap.size) (c0 := p0) (c1 := p1) (c2 := p2) (c3 := p3) (by simp)
        have M9 := Lib.hid (M8.put q0 q1 q2 q3 (by omega) (by intro r hr; simp at hr; rcases hr with rfl | rfl | rfl <;> simp <;> omega))
        clear x0 x1 x2 x3 z0 z1 z2 z3 hv hbl M8
        have x0 := Rr.c0; have x1 := Rr.c1; have x2 := Rr.c2; have x3 := Rr.c3; have xf := Rr.fr
        clear Rr
        go_wp2_with fail
        go_roundw
        case rel => exact ⟨i, q0, q1, q2, q3, (i : Int) - 1, by omega, Lib.hid rfl, by first | rfl | go_num, hq, HS, M9⟩
        case measure => first | (simp [intOf]; done) | (simp [intOf]; omega)
    · obtain rfl : j = 0 := by omega
      obtain rfl : m = -1 := by have := hm.out; omega
      have Rr := HM.out.row (b := w1.heap.size) (c0 := r0) (c1 := r1) (c2 := r2) (c3 := r3) (by simp)
      have x0 := Rr.c0; have x1 := Rr.c1; have x2 := Rr.c2; have x3 := Rr.c3
      have Ro := HM.out.row (b := w.heap.size + 1 + 1) (c0 := 0) (c1 := 0) (c2 := 0) (c3 := 0) (by simp)
      have o0 := Ro.c0; have o1 := Ro.c1; have o2 := Ro.c2; have o3 := Ro.c3; have of := Ro.fr
      have ltr := HM.out.lt (b := w1.heap.size) (c0 := r0) (c1 := r1) (c2 := r2) (c3 := r3) (by simp)
      have lto := HM.out.lt (b := w.heap.size + 1 + 1) (c0 := 0) (c1 := 0) (c2 := 0) (c3 := 0) (by simp)
      clear Rr Ro hm
      go_wp2_with fail
      refine bodyPost_ret (v := .agg #[.int .u64 r0, .int .u64 r1, .int .u64 r2, .int .u64 r3]) (by simp [results, Try.results20, go_sem, *]) rfl ?_
      refine ⟨_, _, _, _, rfl, hr, by rw [HV.out, Nat.pow_zero, Nat.div_one], ?_⟩
      exact below_set4 HM.out.1 (by omega) _ _ _ _
end Go.Proofs.Ytalddekocfkbhaa
