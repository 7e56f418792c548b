/-
  FieldRing, where the first element is not 0.
-/
import Derived.Test.YtkklbhgneidbbaaFRingA
namespace Go.Proofs.Ytkklbhgneidbbaa
set_option linter.unusedVariables false
set_option linter.unusedSimpArgs false
open Go.RowKit

set_option maxRecDepth 100000 in
set_option maxHeartbeats 16000000 in
theorem ring_main (f : Int) (a0 a1 a2 a3 b0 b1 b2 b3 c0 c1 c2 c3 : Nat) (ha : ok4 a0 a1 a2 a3) (hb : ok4 b0 b1 b2 b3) (hc : ok4 c0 c1 c2 c3) (F : FC) (hf : FieldIs f F) (la : val4 a0 a1 a2 a3 < F.M) (lb : val4 b0 b1 b2 b3 < F.M) (lc : val4 c0 c1 c2 c3 < F.M) (hz : val4 a0 a1 a2 a3 ≠ 0) (w : World) :
    Calls Try.prog 7 #[.int .i64 f, .agg #[.int .u64 a0, .int .u64 a1, .int .u64 a2, .int .u64 a3], .agg #[.int .u64 b0, .int .u64 b1, .int .u64 b2, .int .u64 b3], .agg #[.int .u64 c0, .int .u64 c1, .int .u64 c2, .int .u64 c3]] w fun e w' => e = .returned (.bool true) ∧ Below w.heap.size w w' := by
  have hG := eqGuardF
  have hS := equalSelfF
  have HZ := Lib.hid hz
  have hpos := hf.ok.pos
  obtain ⟨gr, hroot⟩ := hf.root
  have HRo := Lib.hid hroot
  have hM2 : 2 ≤ F.M := by have := hf.ok.gt; omega
  clear hz hroot
  go_enter Try.func7, Try.ntmps7
  go_wp2_with fail
  have HM := Lib.hid ((((Mem.nil w).new (w.heap.size) a0 a1 a2 a3 25 (by simp)).new (w.heap.size + 1) b0 b1 b2 b3 25 (by simp)).new (w.heap.size + 1 + 1) c0 c1 c2 c3 25 (by simp))
  refine (works_calls _).mono ?_
  rintro e w1 ⟨rfl, hbl⟩
  have MP' := Lib.hid (HM.out.on hbl)
  clear hbl HM
  have MP := MP'
  clear MP'
  have HM := MP
  have kr := MP.out.row (b := w.heap.size) (c0 := a0) (c1 := a1) (c2 := a2) (c3 := a3) (by simp)
  have Fa0 := kr.c0; have Fa1 := kr.c1; have Fa2 := kr.c2; have Fa3 := kr.c3
  clear kr
  have Fal := MP.out.lt (b := w.heap.size) (c0 := a0) (c1 := a1) (c2 := a2) (c3 := a3) (by simp)
  have kr := MP.out.row (b := w.heap.size + 1) (c0 := b0) (c1 := b1) (c2 := b2) (c3 := b3) (by simp)
  have Fb0 := kr.c0; have Fb1 := kr.c1; have Fb2 := kr.c2; have Fb3 := kr.c3
  clear kr
  have Fbl := MP.out.lt (b := w.heap.size + 1) (c0 := b0) (c1 := b1) (c2 := b2) (c3 := b3) (by simp)
  go_wp2_with fail
  refine (fadd_ok f F hf a0 a1 a2 a3 b0 b1 b2 b3 ha hb la lb _).mono ?_
  rintro e w2 ⟨x0, x1, x2, x3, rfl, hx, hv, hbl⟩
  have Vx := Lib.hid hv
  have lx : val4 x0 x1 x2 x3 < F.M := by rw [hv]; exact Nat.mod_lt _ hpos
  clear hv
  have MP' := Lib.hid (HM.out.on hbl)
  clear hbl HM MP Fa0 Fa1 Fa2 Fa3 Fal Fb0 Fb1 Fb2 Fb3 Fbl
  have MP := MP'
  clear MP'
  have HM := Lib.hid (MP.out.new w2.heap.size x0 x1 x2 x3 25 rfl)
  have kr := MP.out.row (b := w.heap.size + 1) (c0 := b0) (c1 := b1) (c2 := b2) (c3 := b3) (by simp)
  have Fb0 := kr.c0; have Fb1 := kr.c1; have Fb2 := kr.c2; have Fb3 := kr.c3
  clear kr
  have Fbl := MP.out.lt (b := w.heap.size + 1) (c0 := b0) (c1 := b1) (c2 := b2) (c3 := b3) (by simp)
  have kr := MP.out.row (b := w.heap.size + 1 + 1) (c0 := c0) (c1 := c1) (c2 := c2) (c3 := c3) (by simp)
  have Fc0 := kr.c0; have Fc1 := kr.c1; have Fc2 := kr.c2; have Fc3 := kr.c3
  clear kr
  have Fcl := MP.out.lt (b := w.heap.size + 1 + 1) (c0 := c0) (c1 := c1) (c2 := c2) (c3 := c3) (by simp)
  go_wp2_with fail
  refine (fadd_ok f F hf b0 b1 b2 b3 c0 c1 c2 c3 hb hc lb lc _).mono ?_
  rintro e w3 ⟨y0, y1, y2, y3, rfl, hy, hv, hbl⟩
  have Vy := Lib.hid hv
  have ly : val4 y0 y1 y2 y3 < F.M := by rw [hv]; exact Nat.mod_lt _ hpos
  clear hv
  have MP' := Lib.hid (HM.out.on hbl)
  clear hbl HM MP Fb0 Fb1 Fb2 Fb3 Fbl Fc0 Fc1 Fc2 Fc3 Fcl
  have MP := MP'
  clear MP'
  have HM := Lib.hid (MP.out.new w3.heap.size y0 y1 y2 y3 25 rfl)
  have kr := MP.out.row (b := w.heap.size + 1) (c0 := b0) (c1 := b1) (c2 := b2) (c3 := b3) (by simp)
  have Fb0 := kr.c0; have Fb1 := kr.c1; have Fb2 := kr.c2; have Fb3 := kr.c3
  clear kr
  have Fbl := MP.out.lt (b := w.heap.size + 1) (c0 := b0) (c1 := b1) (c2 := b2) (c3 := b3) (by simp)
  have kr := MP.out.row (b := w.heap.size) (c0 := a0) (c1 := a1) (c2 := a2) (c3 := a3) (by simp)
  have Fa0 := kr.c0; have Fa1 := kr.c1; have Fa2 := kr.c2; have Fa3 := kr.c3
  clear kr
  have Fal := MP.out.lt (b := w.heap.size) (c0 := a0) (c1 := a1) (c2 := a2) (c3 := a3) (by simp)
  go_wp2_with fail
  refine (fadd_ok f F hf b0 b1 b2 b3 a0 a1 a2 a3 hb ha lb la _).mono ?_
  rintro e w4 ⟨z0, z1, z2, z3, rfl, hz, hv, hbl⟩
  obtain ⟨rfl, rfl, rfl, rfl⟩ := val4_inj hx hz (show val4 x0 x1 x2 x3 = val4 z0 z1 z2 z3 by rw [hv]; rw [Vx.out, Nat.add_comm])
  clear hv hz
  have MP' := Lib.hid (HM.out.on hbl)
  clear hbl HM MP Fb0 Fb1 Fb2 Fb3 Fbl Fa0 Fa1 Fa2 Fa3 Fal
  have MP := MP'
  clear MP'
  have HM := Lib.hid (MP.out.new w4.heap.size x0 x1 x2 x3 25 rfl)
  have kr := MP.out.row (b := w2.heap.size) (c0 := x0) (c1 := x1) (c2 := x2) (c3 := x3) (by simp)
  have Fx0 := kr.c0; have Fx1 := kr.c1; have Fx2 := kr.c2; have Fx3 := kr.c3
  clear kr
  have Fxl := MP.out.lt (b := w2.heap.size) (c0 := x0) (c1 := x1) (c2 := x2) (c3 := x3) (by simp)
  have kr := MP.out.row (b := w.heap.size + 1 + 1) (c0 := c0) (c1 := c1) (c2 := c2) (c3 := c3) (by simp)
  have Fc0 := kr.c0; have Fc1 := kr.c1; have Fc2 := kr.c2; have Fc3 := kr.c3
  clear kr
  have Fcl := MP.out.lt (b := w.heap.size + 1 + 1) (c0 := c0) (c1 := c1) (c2 := c2) (c3 := c3) (by simp)
  go_wp2_with fail
  refine (fadd_ok f F hf x0 x1 x2 x3 c0 c1 c2 c3 hx hc lx lc _).mono ?_
  rintro e w5 ⟨l0, l1, l2, l3, rfl, hl, hv, hbl⟩
  have Vl := Lib.hid hv
  have ll : val4 l0 l1 l2 l3 < F.M := by rw [hv]; exact Nat.mod_lt _ hpos
  clear hv
  have MP' := Lib.hid (HM.out.on hbl)
  clear hbl HM MP Fx0 Fx1 Fx2 Fx3 Fxl Fc0 Fc1 Fc2 Fc3 Fcl
  have MP := MP'
  clear MP'
  have HM := Lib.hid (MP.out.new w5.heap.size l0 l1 l2 l3 25 rfl)
  have kr := MP.out.row (b := w.heap.size) (c0 := a0) (c1 := a1) (c2 := a2) (c3 := a3) (by simp)
  have Fa0 := kr.c0; have Fa1 := kr.c1; have Fa2 := kr.c2; have Fa3 := kr.c3
  clear kr
  have Fal := MP.out.lt (b := w.heap.size) (c0 := a0) (c1 := a1) (c2 := a2) (c3 := a3) (by simp)
  have kr := MP.out.row (b := w3.heap.size) (c0 := y0) (c1 := y1) (c2 := y2) (c3 := y3) (by simp)
  have Fy0 := kr.c0; have Fy1 := kr.c1; have Fy2 := kr.c2; have Fy3 := kr.c3
  clear kr
  have Fyl := MP.out.lt (b := w3.heap.size) (c0 := y0) (c1 := y1) (c2 := y2) (c3 := y3) (by simp)
  go_wp2_with fail
  refine (fadd_ok f F hf a0 a1 a2 a3 y0 y1 y2 y3 ha hy la ly _).mono ?_
  rintro e w6 ⟨r0, r1, r2, r3, rfl, hr, hv, hbl⟩
  obtain ⟨rfl, rfl, rfl, rfl⟩ := val4_inj hl hr (show val4 l0 l1 l2 l3 = val4 r0 r1 r2 r3 by rw [hv]; rw [Vl.out, Vx.out, Vy.out]; exact fr_assoc _ _ _)
  clear hv hr
  have MP' := Lib.hid (HM.out.on hbl)
  clear hbl HM MP Fa0 Fa1 Fa2 Fa3 Fal Fy0 Fy1 Fy2 Fy3 Fyl
  have MP := MP'
  clear MP'
  have HM := Lib.hid (MP.out.new w6.heap.size l0 l1 l2 l3 25 rfl)
  have kr := MP.out.row (b := w.heap.size) (c0 := a0) (c1 := a1) (c2 := a2) (c3 := a3) (by simp)
  have Fa0 := kr.c0; have Fa1 := kr.c1; have Fa2 := kr.c2; have Fa3 := kr.c3
  clear kr
  have Fal := MP.out.lt (b := w.heap.size) (c0 := a0) (c1 := a1) (c2 := a2) (c3 := a3) (by simp)
  have kr := MP.out.row (b := w.heap.size + 1) (c0 := b0) (c1 := b1) (c2 := b2) (c3 := b3) (by simp)
  have Fb0 := kr.c0; have Fb1 := kr.c1; have Fb2 := kr.c2; have Fb3 := kr.c3
  clear kr
  have Fbl := MP.out.lt (b := w.heap.size + 1) (c0 := b0) (c1 := b1) (c2 := b2) (c3 := b3) (by simp)
  go_wp2_with fail
  refine (fmul_ok f F hf a0 a1 a2 a3 b0 b1 b2 b3 ha hb la lb _).mono ?_
  rintro e w7 ⟨p0, p1, p2, p3, rfl, hp, hv, hbl⟩
  have Vp := Lib.hid hv
  have lp : val4 p0 p1 p2 p3 < F.M := by rw [hv]; exact Nat.mod_lt _ hpos
  clear hv
  have MP' := Lib.hid (HM.out.on hbl)
  clear hbl HM MP Fa0 Fa1 Fa2 Fa3 Fal Fb0 Fb1 Fb2 Fb3 Fbl
  have MP := MP'
  clear MP'
  have HM := Lib.hid (MP.out.new w7.heap.size p0 p1 p2 p3 25 rfl)
  have kr := MP.out.row (b := w.heap.size + 1) (c0 := b0) (c1 := b1) (c2 := b2) (c3 := b3) (by simp)
  have Fb0 := kr.c0; have Fb1 := kr.c1; have Fb2 := kr.c2; have Fb3 := kr.c3
  clear kr
  have Fbl := MP.out.lt (b := w.heap.size + 1) (c0 := b0) (c1 := b1) (c2 := b2) (c3 := b3) (by simp)
  have kr := MP.out.row (b := w.heap.size) (c0 := a0) (c1 := a1) (c2 := a2) (c3 := a3) (by simp)
  have Fa0 := kr.c0; have Fa1 := kr.c1; have Fa2 := kr.c2; have Fa3 := kr.c3
  clear kr
  have Fal := MP.out.lt (b := w.heap.size) (c0 := a0) (c1 := a1) (c2 := a2) (c3 := a3) (by simp)
  go_wp2_with fail
  refine (fmul_ok f F hf b0 b1 b2 b3 a0 a1 a2 a3 hb ha lb la _).mono ?_
  rintro e w8 ⟨q0, q1, q2, q3, rfl, hq, hv, hbl⟩
  obtain ⟨rfl, rfl, rfl, rfl⟩ := val4_inj hp hq (show val4 p0 p1 p2 p3 = val4 q0 q1 q2 q3 by rw [hv]; rw [Vp.out, Nat.mul_comm])
  clear hv hq
  have MP' := Lib.hid (HM.out.on hbl)
  clear hbl HM MP Fb0 Fb1 Fb2 Fb3 Fbl Fa0 Fa1 Fa2 Fa3 Fal
  have MP := MP'
  clear MP'
  have HM := Lib.hid (MP.out.new w8.heap.size p0 p1 p2 p3 25 rfl)
  have kr := MP.out.row (b := w.heap.size + 1) (c0 := b0) (c1 := b1) (c2 := b2) (c3 := b3) (by simp)
  have Fb0 := kr.c0; have Fb1 := kr.c1; have Fb2 := kr.c2; have Fb3 := kr.c3
  clear kr
  have Fbl := MP.out.lt (b := w.heap.size + 1) (c0 := b0) (c1 := b1) (c2 := b2) (c3 := b3) (by simp)
  have kr := MP.out.row (b := w.heap.size + 1 + 1) (c0 := c0) (c1 := c1) (c2 := c2) (c3 := c3) (by simp)
  have Fc0 := kr.c0; have Fc1 := kr.c1; have Fc2 := kr.c2; have Fc3 := kr.c3
  clear kr
  have Fcl := MP.out.lt (b := w.heap.size + 1 + 1) (c0 := c0) (c1 := c1) (c2 := c2) (c3 := c3) (by simp)
  go_wp2_with fail
  refine (fmul_ok f F hf b0 b1 b2 b3 c0 c1 c2 c3 hb hc lb lc _).mono ?_
  rintro e w9 ⟨s0, s1, s2, s3, rfl, hs, hv, hbl⟩
  have Vs := Lib.hid hv
  have ls : val4 s0 s1 s2 s3 < F.M := by rw [hv]; exact Nat.mod_lt _ hpos
  clear hv
  have MP' := Lib.hid (HM.out.on hbl)
  clear hbl HM MP Fb0 Fb1 Fb2 Fb3 Fbl Fc0 Fc1 Fc2 Fc3 Fcl
  have MP := MP'
  clear MP'
  have HM := Lib.hid (MP.out.new w9.heap.size s0 s1 s2 s3 25 rfl)
  have kr := MP.out.row (b := w.heap.size) (c0 := a0) (c1 := a1) (c2 := a2) (c3 := a3) (by simp)
  have Fa0 := kr.c0; have Fa1 := kr.c1; have Fa2 := kr.c2; have Fa3 := kr.c3
  clear kr
  have Fal := MP.out.lt (b := w.heap.size) (c0 := a0) (c1 := a1) (c2 := a2) (c3 := a3) (by simp)
  have kr := MP.out.row (b := w.heap.size + 1 + 1) (c0 := c0) (c1 := c1) (c2 := c2) (c3 := c3) (by simp)
  have Fc0 := kr.c0; have Fc1 := kr.c1; have Fc2 := kr.c2; have Fc3 := kr.c3
  clear kr
  have Fcl := MP.out.lt (b := w.heap.size + 1 + 1) (c0 := c0) (c1 := c1) (c2 := c2) (c3 := c3) (by simp)
  go_wp2_with fail
  refine (fmul_ok f F hf a0 a1 a2 a3 c0 c1 c2 c3 ha hc la lc _).mono ?_
  rintro e w10 ⟨t0, t1, t2, t3, rfl, ht, hv, hbl⟩
  have Vt := Lib.hid hv
  have lt : val4 t0 t1 t2 t3 < F.M := by rw [hv]; exact Nat.mod_lt _ hpos
  clear hv
  have MP' := Lib.hid (HM.out.on hbl)
  clear hbl HM MP Fa0 Fa1 Fa2 Fa3 Fal Fc0 Fc1 Fc2 Fc3 Fcl
  have MP := MP'
  clear MP'
  have HM := Lib.hid (MP.out.new w10.heap.size t0 t1 t2 t3 25 rfl)
  have kr := MP.out.row (b := w7.heap.size) (c0 := p0) (c1 := p1) (c2 := p2) (c3 := p3) (by simp)
  have Fp0 := kr.c0; have Fp1 := kr.c1; have Fp2 := kr.c2; have Fp3 := kr.c3
  clear kr
  have Fpl := MP.out.lt (b := w7.heap.size) (c0 := p0) (c1 := p1) (c2 := p2) (c3 := p3) (by simp)
  have kr := MP.out.row (b := w.heap.size + 1 + 1) (c0 := c0) (c1 := c1) (c2 := c2) (c3 := c3) (by simp)
  have Fc0 := kr.c0; have Fc1 := kr.c1; have Fc2 := kr.c2; have Fc3 := kr.c3
  clear kr
  have Fcl := MP.out.lt (b := w.heap.size + 1 + 1) (c0 := c0) (c1 := c1) (c2 := c2) (c3 := c3) (by simp)
  go_wp2_with fail
  refine (fmul_ok f F hf p0 p1 p2 p3 c0 c1 c2 c3 hp hc lp lc _).mono ?_
  rintro e w11 ⟨u0, u1, u2, u3, rfl, hu, hv, hbl⟩
  have Vu := Lib.hid hv
  have lu : val4 u0 u1 u2 u3 < F.M := by rw [hv]; exact Nat.mod_lt _ hpos
  clear hv
  have MP' := Lib.hid (HM.out.on hbl)
  clear hbl HM MP Fp0 Fp1 Fp2 Fp3 Fpl Fc0 Fc1 Fc2 Fc3 Fcl
  have MP := MP'
  clear MP'
  have HM := Lib.hid (MP.out.new w11.heap.size u0 u1 u2 u3 25 rfl)
  have kr := MP.out.row (b := w.heap.size) (c0 := a0) (c1 := a1) (c2 := a2) (c3 := a3) (by simp)
  have Fa0 := kr.c0; have Fa1 := kr.c1; have Fa2 := kr.c2; have Fa3 := kr.c3
  clear kr
  have Fal := MP.out.lt (b := w.heap.size) (c0 := a0) (c1 := a1) (c2 := a2) (c3 := a3) (by simp)
  have kr := MP.out.row (b := w9.heap.size) (c0 := s0) (c1 := s1) (c2 := s2) (c3 := s3) (by simp)
  have Fs0 := kr.c0; have Fs1 := kr.c1; have Fs2 := kr.c2; have Fs3 := kr.c3
  clear kr
  have Fsl := MP.out.lt (b := w9.heap.size) (c0 := s0) (c1 := s1) (c2 := s2) (c3 := s3) (by simp)
  go_wp2_with fail
  refine (fmul_ok f F hf a0 a1 a2 a3 s0 s1 s2 s3 ha hs la ls _).mono ?_
  rintro e w12 ⟨g0, g1, g2, g3, rfl, hg, hv, hbl⟩
  obtain ⟨rfl, rfl, rfl, rfl⟩ := val4_inj hu hg (show val4 u0 u1 u2 u3 = val4 g0 g1 g2 g3 by rw [hv]; rw [Vu.out, Vp.out, Vs.out]; exact fr_massoc _ _ _)
  clear hv hg
  have MP' := Lib.hid (HM.out.on hbl)
  clear hbl HM MP Fa0 Fa1 Fa2 Fa3 Fal Fs0 Fs1 Fs2 Fs3 Fsl
  have MP := MP'
  clear MP'
  have HM := Lib.hid (MP.out.new w12.heap.size u0 u1 u2 u3 25 rfl)
  have kr := MP.out.row (b := w.heap.size) (c0 := a0) (c1 := a1) (c2 := a2) (c3 := a3) (by simp)
  have Fa0 := kr.c0; have Fa1 := kr.c1; have Fa2 := kr.c2; have Fa3 := kr.c3
  clear kr
  have Fal := MP.out.lt (b := w.heap.size) (c0 := a0) (c1 := a1) (c2 := a2) (c3 := a3) (by simp)
  have kr := MP.out.row (b := w3.heap.size) (c0 := y0) (c1 := y1) (c2 := y2) (c3 := y3) (by simp)
  have Fy0 := kr.c0; have Fy1 := kr.c1; have Fy2 := kr.c2; have Fy3 := kr.c3
  clear kr
  have Fyl := MP.out.lt (b := w3.heap.size) (c0 := y0) (c1 := y1) (c2 := y2) (c3 := y3) (by simp)
  go_wp2_with fail
  refine (fmul_ok f F hf a0 a1 a2 a3 y0 y1 y2 y3 ha hy la ly _).mono ?_
  rintro e w13 ⟨d0, d1, d2, d3, rfl, hd, hv, hbl⟩
  have Vd := Lib.hid hv
  have ld : val4 d0 d1 d2 d3 < F.M := by rw [hv]; exact Nat.mod_lt _ hpos
  clear hv
  have MP' := Lib.hid (HM.out.on hbl)
  clear hbl HM MP Fa0 Fa1 Fa2 Fa3 Fal Fy0 Fy1 Fy2 Fy3 Fyl
  have MP := MP'
  clear MP'
  have HM := Lib.hid (MP.out.new w13.heap.size d0 d1 d2 d3 25 rfl)
  have kr := MP.out.row (b := w7.heap.size) (c0 := p0) (c1 := p1) (c2 := p2) (c3 := p3) (by simp)
  have Fp0 := kr.c0; have Fp1 := kr.c1; have Fp2 := kr.c2; have Fp3 := kr.c3
  clear kr
  have Fpl := MP.out.lt (b := w7.heap.size) (c0 := p0) (c1 := p1) (c2 := p2) (c3 := p3) (by simp)
  have kr := MP.out.row (b := w10.heap.size) (c0 := t0) (c1 := t1) (c2 := t2) (c3 := t3) (by simp)
  have Ft0 := kr.c0; have Ft1 := kr.c1; have Ft2 := kr.c2; have Ft3 := kr.c3
  clear kr
  have Ftl := MP.out.lt (b := w10.heap.size) (c0 := t0) (c1 := t1) (c2 := t2) (c3 := t3) (by simp)
  go_wp2_with fail
  refine (fadd_ok f F hf p0 p1 p2 p3 t0 t1 t2 t3 hp ht lp lt _).mono ?_
  rintro e w14 ⟨k0, k1, k2, k3, rfl, hk, hv, hbl⟩
  obtain ⟨rfl, rfl, rfl, rfl⟩ := val4_inj hd hk (show val4 d0 d1 d2 d3 = val4 k0 k1 k2 k3 by rw [hv]; rw [Vd.out, Vp.out, Vt.out, Vy.out]; exact (fr_over _ _ _).symm)
  clear hv hk
  have MP' := Lib.hid (HM.out.on hbl)
  clear hbl HM MP Fp0 Fp1 Fp2 Fp3 Fpl Ft0 Ft1 Ft2 Ft3 Ftl
  have MP := MP'
  clear MP'
  have HM := Lib.hid (MP.out.new w14.heap.size d0 d1 d2 d3 25 rfl)
  have kr := MP.out.row (b := w.heap.size) (c0 := a0) (c1 := a1) (c2 := a2) (c3 := a3) (by simp)
  have Fa0 := kr.c0; have Fa1 := kr.c1; have Fa2 := kr.c2; have Fa3 := kr.c3
  clear kr
  have Fal := MP.out.lt (b := w.heap.size) (c0 := a0) (c1 := a1) (c2 := a2) (c3 := a3) (by simp)
  go_wp2_with fail
  refine (fneg_ok f F hf a0 a1 a2 a3 ha la _).mono ?_
  rintro e w15 ⟨n0, n1, n2, n3, rfl, hn, hv, hbl⟩
  have Vn := Lib.hid hv
  have ln : val4 n0 n1 n2 n3 < F.M := by rw [hv]; exact Nat.mod_lt _ hpos
  clear hv
  have MP' := Lib.hid (HM.out.on hbl)
  clear hbl HM MP Fa0 Fa1 Fa2 Fa3 Fal
  have MP := MP'
  clear MP'
  have HM := Lib.hid (MP.out.new w15.heap.size n0 n1 n2 n3 25 rfl)
  have kr := MP.out.row (b := w.heap.size) (c0 := a0) (c1 := a1) (c2 := a2) (c3 := a3) (by simp)
  have Fa0 := kr.c0; have Fa1 := kr.c1; have Fa2 := kr.c2; have Fa3 := kr.c3
  clear kr
  have Fal := MP.out.lt (b := w.heap.size) (c0 := a0) (c1 := a1) (c2 := a2) (c3 := a3) (by simp)
  go_wp2_with fail
  refine (fadd_ok f F hf a0 a1 a2 a3 n0 n1 n2 n3 ha hn la ln _).mono ?_
  rintro e w16 ⟨o0, o1, o2, o3, rfl, ho, hv, hbl⟩
  have Vo := Lib.hid hv
  have lo : val4 o0 o1 o2 o3 < F.M := by rw [hv]; exact Nat.mod_lt _ hpos
  clear hv
  have MP' := Lib.hid (HM.out.on hbl)
  clear hbl HM MP Fa0 Fa1 Fa2 Fa3 Fal
  have MP := MP'
  clear MP'
  have HM := Lib.hid (MP.out.new w16.heap.size o0 o1 o2 o3 25 rfl)
  have kr := MP.out.row (b := w2.heap.size) (c0 := x0) (c1 := x1) (c2 := x2) (c3 := x3) (by simp)
  have Fx0 := kr.c0; have Fx1 := kr.c1; have Fx2 := kr.c2; have Fx3 := kr.c3
  clear kr
  have Fxl := MP.out.lt (b := w2.heap.size) (c0 := x0) (c1 := x1) (c2 := x2) (c3 := x3) (by simp)
  have kr := MP.out.row (b := w.heap.size + 1) (c0 := b0) (c1 := b1) (c2 := b2) (c3 := b3) (by simp)
  have Fb0 := kr.c0; have Fb1 := kr.c1; have Fb2 := kr.c2; have Fb3 := kr.c3
  clear kr
  have Fbl := MP.out.lt (b := w.heap.size + 1) (c0 := b0) (c1 := b1) (c2 := b2) (c3 := b3) (by simp)
  go_wp2_with fail
  refine (fsub_ok f F hf x0 x1 x2 x3 b0 b1 b2 b3 hx hb lx lb _).mono ?_
  rintro e w17 ⟨m0, m1, m2, m3, rfl, hm, hv, hbl⟩
  obtain ⟨rfl, rfl, rfl, rfl⟩ := val4_inj ha hm (show val4 a0 a1 a2 a3 = val4 m0 m1 m2 m3 by rw [hv]; rw [Vx.out]; exact (fr_back la lb).symm)
  clear hv hm
  have MP' := Lib.hid (HM.out.on hbl)
  clear hbl HM MP Fx0 Fx1 Fx2 Fx3 Fxl Fb0 Fb1 Fb2 Fb3 Fbl
  have MP := MP'
  clear MP'
  have HM := Lib.hid (MP.out.new w17.heap.size a0 a1 a2 a3 25 rfl)
  have hO := eqF_zero ho (show val4 o0 o1 o2 o3 = 0 by rw [Vo.out, Vn.out]; exact fr_neg la)
  have kr := MP.out.row (b := w2.heap.size) (c0 := x0) (c1 := x1) (c2 := x2) (c3 := x3) (by simp)
  have Fx0 := kr.c0; have Fx1 := kr.c1; have Fx2 := kr.c2; have Fx3 := kr.c3
  clear kr
  have Fxl := MP.out.lt (b := w2.heap.size) (c0 := x0) (c1 := x1) (c2 := x2) (c3 := x3) (by simp)
  have kr := MP.out.row (b := w4.heap.size) (c0 := x0) (c1 := x1) (c2 := x2) (c3 := x3) (by simp)
  have Fz0 := kr.c0; have Fz1 := kr.c1; have Fz2 := kr.c2; have Fz3 := kr.c3
  clear kr
  have Fzl := MP.out.lt (b := w4.heap.size) (c0 := x0) (c1 := x1) (c2 := x2) (c3 := x3) (by simp)
  have kr := MP.out.row (b := w5.heap.size) (c0 := l0) (c1 := l1) (c2 := l2) (c3 := l3) (by simp)
  have Fl0 := kr.c0; have Fl1 := kr.c1; have Fl2 := kr.c2; have Fl3 := kr.c3
  clear kr
  have Fll := MP.out.lt (b := w5.heap.size) (c0 := l0) (c1 := l1) (c2 := l2) (c3 := l3) (by simp)
  have kr := MP.out.row (b := w6.heap.size) (c0 := l0) (c1 := l1) (c2 := l2) (c3 := l3) (by simp)
  have Fr0 := kr.c0; have Fr1 := kr.c1; have Fr2 := kr.c2; have Fr3 := kr.c3
  clear kr
  have Frl := MP.out.lt (b := w6.heap.size) (c0 := l0) (c1 := l1) (c2 := l2) (c3 := l3) (by simp)
  have kr := MP.out.row (b := w7.heap.size) (c0 := p0) (c1 := p1) (c2 := p2) (c3 := p3) (by simp)
  have Fp0 := kr.c0; have Fp1 := kr.c1; have Fp2 := kr.c2; have Fp3 := kr.c3
  clear kr
  have Fpl := MP.out.lt (b := w7.heap.size) (c0 := p0) (c1 := p1) (c2 := p2) (c3 := p3) (by simp)
  have kr := MP.out.row (b := w8.heap.size) (c0 := p0) (c1 := p1) (c2 := p2) (c3 := p3) (by simp)
  have Fq0 := kr.c0; have Fq1 := kr.c1; have Fq2 := kr.c2; have Fq3 := kr.c3
  clear kr
  have Fql := MP.out.lt (b := w8.heap.size) (c0 := p0) (c1 := p1) (c2 := p2) (c3 := p3) (by simp)
  have kr := MP.out.row (b := w11.heap.size) (c0 := u0) (c1 := u1) (c2 := u2) (c3 := u3) (by simp)
  have Fu0 := kr.c0; have Fu1 := kr.c1; have Fu2 := kr.c2; have Fu3 := kr.c3
  clear kr
  have Ful := MP.out.lt (b := w11.heap.size) (c0 := u0) (c1 := u1) (c2 := u2) (c3 := u3) (by simp)
  have kr := MP.out.row (b := w12.heap.size) (c0 := u0) (c1 := u1) (c2 := u2) (c3 := u3) (by simp)
  have Fg0 := kr.c0; have Fg1 := kr.c1; have Fg2 := kr.c2; have Fg3 := kr.c3
  clear kr
  have Fgl := MP.out.lt (b := w12.heap.size) (c0 := u0) (c1 := u1) (c2 := u2) (c3 := u3) (by simp)
  have kr := MP.out.row (b := w13.heap.size) (c0 := d0) (c1 := d1) (c2 := d2) (c3 := d3) (by simp)
  have Fd0 := kr.c0; have Fd1 := kr.c1; have Fd2 := kr.c2; have Fd3 := kr.c3
  clear kr
  have Fdl := MP.out.lt (b := w13.heap.size) (c0 := d0) (c1 := d1) (c2 := d2) (c3 := d3) (by simp)
  have kr := MP.out.row (b := w14.heap.size) (c0 := d0) (c1 := d1) (c2 := d2) (c3 := d3) (by simp)
  have Fk0 := kr.c0; have Fk1 := kr.c1; have Fk2 := kr.c2; have Fk3 := kr.c3
  clear kr
  have Fkl := MP.out.lt (b := w14.heap.size) (c0 := d0) (c1 := d1) (c2 := d2) (c3 := d3) (by simp)
  have kr := MP.out.row (b := w16.heap.size) (c0 := o0) (c1 := o1) (c2 := o2) (c3 := o3) (by simp)
  have Fo0 := kr.c0; have Fo1 := kr.c1; have Fo2 := kr.c2; have Fo3 := kr.c3
  clear kr
  have Fol := MP.out.lt (b := w16.heap.size) (c0 := o0) (c1 := o1) (c2 := o2) (c3 := o3) (by simp)
  have kr := MP.out.row (b := w.heap.size) (c0 := a0) (c1 := a1) (c2 := a2) (c3 := a3) (by simp)
  have Fa0 := kr.c0; have Fa1 := kr.c1; have Fa2 := kr.c2; have Fa3 := kr.c3
  clear kr
  have Fal := MP.out.lt (b := w.heap.size) (c0 := a0) (c1 := a1) (c2 := a2) (c3 := a3) (by simp)
  go_wp2_with fail
  refine (fcheck_ok f F hf x0 x1 x2 x3 hx lx _).mono ?_
  rintro e w18 ⟨rfl, hbl⟩
  have MP' := Lib.hid (HM.out.on hbl)
  clear hbl HM MP hO Fx0 Fx1 Fx2 Fx3 Fxl Fz0 Fz1 Fz2 Fz3 Fzl Fl0 Fl1 Fl2 Fl3 Fll Fr0 Fr1 Fr2 Fr3 Frl Fp0 Fp1 Fp2 Fp3 Fpl Fq0 Fq1 Fq2 Fq3 Fql Fu0 Fu1 Fu2 Fu3 Ful Fg0 Fg1 Fg2 Fg3 Fgl Fd0 Fd1 Fd2 Fd3 Fdl Fk0 Fk1 Fk2 Fk3 Fkl Fo0 Fo1 Fo2 Fo3 Fol Fa0 Fa1 Fa2 Fa3 Fal
  have MP := MP'
  have HM := MP
  clear MP'
  have kr := MP.out.row (b := w7.heap.size) (c0 := p0) (c1 := p1) (c2 := p2) (c3 := p3) (by simp)
  have Fp0 := kr.c0; have Fp1 := kr.c1; have Fp2 := kr.c2; have Fp3 := kr.c3
  clear kr
  have Fpl := MP.out.lt (b := w7.heap.size) (c0 := p0) (c1 := p1) (c2 := p2) (c3 := p3) (by simp)
  go_wp2_with fail
  refine (fcheck_ok f F hf p0 p1 p2 p3 hp lp _).mono ?_
  rintro e w19 ⟨rfl, hbl⟩
  have MP' := Lib.hid (HM.out.on hbl)
  clear hbl HM MP Fp0 Fp1 Fp2 Fp3 Fpl
  have MP := MP'
  have HM := MP
  clear MP'
  have kr := MP.out.row (b := w.heap.size) (c0 := a0) (c1 := a1) (c2 := a2) (c3 := a3) (by simp)
  have Fa0 := kr.c0; have Fa1 := kr.c1; have Fa2 := kr.c2; have Fa3 := kr.c3
  clear kr
  have Fal := MP.out.lt (b := w.heap.size) (c0 := a0) (c1 := a1) (c2 := a2) (c3 := a3) (by simp)
  go_wp2_with fail
  refine (finv_of f 0 _ a0 a1 a2 a3 (fun W => fdiv_ok f F hf 1 0 0 0 a0 a1 a2 a3 (by unfold ok4; decide) ha (by show 1 < _; omega) la HZ.out W) _).mono ?_
  rintro e w20 ⟨i0, i1, i2, i3, rfl, hi, hv, hbl⟩
  have Vi := Lib.hid hv
  have li : val4 i0 i1 i2 i3 < F.M := by rw [hv]; exact Nat.mod_lt _ hpos
  clear hv
  have MP' := Lib.hid (HM.out.on hbl)
  clear hbl HM MP Fa0 Fa1 Fa2 Fa3 Fal
  have MP := MP'
  clear MP'
  have HM := Lib.hid (MP.out.new w20.heap.size i0 i1 i2 i3 25 rfl)
  have hA := eqF_nz ha HZ.out
  have kr := MP.out.row (b := w.heap.size) (c0 := a0) (c1 := a1) (c2 := a2) (c3 := a3) (by simp)
  have Fa0 := kr.c0; have Fa1 := kr.c1; have Fa2 := kr.c2; have Fa3 := kr.c3
  clear kr
  have Fal := MP.out.lt (b := w.heap.size) (c0 := a0) (c1 := a1) (c2 := a2) (c3 := a3) (by simp)
  go_wp2_with fail
  refine (fmul_ok f F hf a0 a1 a2 a3 i0 i1 i2 i3 ha hi la li _).mono ?_
  rintro e w21 ⟨e0, e1, e2, e3, rfl, he, hv, hbl⟩
  have Ve := Lib.hid hv
  have le : val4 e0 e1 e2 e3 < F.M := by rw [hv]; exact Nat.mod_lt _ hpos
  clear hv
  have MP' := Lib.hid (HM.out.on hbl)
  clear hbl HM MP Fa0 Fa1 Fa2 Fa3 Fal
  have MP := MP'
  clear MP'
  have HM := Lib.hid (MP.out.new w21.heap.size e0 e1 e2 e3 25 rfl)
  have kr := MP.out.row (b := w7.heap.size) (c0 := p0) (c1 := p1) (c2 := p2) (c3 := p3) (by simp)
  have Fp0 := kr.c0; have Fp1 := kr.c1; have Fp2 := kr.c2; have Fp3 := kr.c3
  clear kr
  have Fpl := MP.out.lt (b := w7.heap.size) (c0 := p0) (c1 := p1) (c2 := p2) (c3 := p3) (by simp)
  have kr := MP.out.row (b := w.heap.size) (c0 := a0) (c1 := a1) (c2 := a2) (c3 := a3) (by simp)
  have Fa0 := kr.c0; have Fa1 := kr.c1; have Fa2 := kr.c2; have Fa3 := kr.c3
  clear kr
  have Fal := MP.out.lt (b := w.heap.size) (c0 := a0) (c1 := a1) (c2 := a2) (c3 := a3) (by simp)
  go_wp2_with fail
  refine (fdiv_ok f F hf p0 p1 p2 p3 a0 a1 a2 a3 hp ha lp la HZ.out _).mono ?_
  rintro e w22 ⟨j0, j1, j2, j3, rfl, hj, hv, hbl⟩
  obtain ⟨rfl, rfl, rfl, rfl⟩ := val4_inj hb hj (show val4 b0 b1 b2 b3 = val4 j0 j1 j2 j3 by rw [hv, Vp.out]; exact (fr_div HRo.out hM2 HZ.out la lb).symm)
  clear hv hj
  have MP' := Lib.hid (HM.out.on hbl)
  clear hbl HM MP Fp0 Fp1 Fp2 Fp3 Fpl Fa0 Fa1 Fa2 Fa3 Fal
  have MP := MP'
  clear MP'
  have HM := Lib.hid (MP.out.new w22.heap.size b0 b1 b2 b3 25 rfl)
  have hE := eqF_one he (show val4 e0 e1 e2 e3 = 1 by rw [Ve.out, Vi.out]; exact fr_inv HRo.out hM2 HZ.out la)
  have kr := MP.out.row (b := w21.heap.size) (c0 := e0) (c1 := e1) (c2 := e2) (c3 := e3) (by simp)
  have Fe0 := kr.c0; have Fe1 := kr.c1; have Fe2 := kr.c2; have Fe3 := kr.c3
  clear kr
  have Fel := MP.out.lt (b := w21.heap.size) (c0 := e0) (c1 := e1) (c2 := e2) (c3 := e3) (by simp)
  have kr := MP.out.row (b := w.heap.size + 1) (c0 := b0) (c1 := b1) (c2 := b2) (c3 := b3) (by simp)
  have Fb0 := kr.c0; have Fb1 := kr.c1; have Fb2 := kr.c2; have Fb3 := kr.c3
  clear kr
  have Fbl := MP.out.lt (b := w.heap.size + 1) (c0 := b0) (c1 := b1) (c2 := b2) (c3 := b3) (by simp)
  go_wp2_with fail
  go_ret
  exact ⟨rfl, HM.out.1⟩
end Go.Proofs.Ytkklbhgneidbbaa
