/-
  The field's powers, by the bits of the exponent. Conditions: the base is an element that is kept, words below 2^64, the constants in a block of memory.
  The field's inverses, the test which of an element and its negative is lower, how often an element is squared till it is one. Conditions: elements below the modulus, words below 2^64, the constants in a block of memory.
  The calls of limbs.Shr and limbs.joined: for any number of four words and any number of bits, in any world. Conditions: each word below 2^64; the number of bits not below 0 (below 0: the number itself, said apart).
  A region that draws its order, held under a condition on the world until one last operation, which waits for all that is taken first: the condition need not stand behind that one. Of whatever program. Conditions: as each law says.
  A region that draws its order: where two operations may come up, both ways. Of whatever program. Conditions: as the law says.
-/
import Derived.OrdersHeld
import Derived.Deep.RegionHeld
import Derived.KernelRfl
import Derived.Test.YtaingnhikbaplaaGreatPf09
import Derived.Test.YtaingnhikbaplaaGreatPf07
import Derived.Test.YtaingnhikbaplaaGreatPf08
namespace Go.Proofs.YtaingnhikbaplaaGreat
set_option linter.unusedVariables false
set_option linter.unusedSimpArgs false
open Go.RowKit

theorem Mem.row {w wr : World} {rs : List (Nat × Nat × Nat × Nat × Nat)} (h : Mem w wr rs) {b c0 c1 c2 c3 : Nat} (hm : (b, c0, c1, c2, c3) ∈ rs) : Row4 wr b c0 c1 c2 c3 := (h.2 _ hm).2
theorem Mem.lt {w wr : World} {rs : List (Nat × Nat × Nat × Nat × Nat)} (h : Mem w wr rs) {b c0 c1 c2 c3 : Nat} (hm : (b, c0, c1, c2, c3) ∈ rs) : b < wr.heap.size := (h.2 _ hm).1
theorem pow_next {N k L : Nat} (hk : k < L) : N / 2 ^ (L - (k + 1)) = 2 * (N / 2 ^ (L - k)) + bitOf N (L - 1 - k) := by
  have := bit_step N (L - 1 - k)
  rw [show L - 1 - k + 1 = L - k by omega] at this
  rw [show L - (k + 1) = L - 1 - k by omega, this]

set_option maxRecDepth 100000 in
set_option maxHeartbeats 4000000 in
theorem power_calls (F : FC) (hF : F.Ok) (A b a0 a1 a2 a3 n0 n1 n2 n3 : Nat) (ha : ok4 a0 a1 a2 a3) (hn : ok4 n0 n1 n2 n3) (hA : val4 a0 a1 a2 a3 = kp F A) (w : World) (hk : KIs w b F) :
    Calls Tryz.prog 192 #[.pointer (some ⟨b, 0, none⟩), .agg #[.int .u64 a0, .int .u64 a1, .int .u64 a2, .int .u64 a3], .agg #[.int .u64 n0, .int .u64 n1, .int .u64 n2, .int .u64 n3]] w (FePost (kp F (A ^ val4 n0 n1 n2 n3)) w) := by
  have HK := Lib.hid hk
  have HF := Lib.hid hF
  have HA := Lib.hid hA
  have la : val4 a0 a1 a2 a3 < F.M := by rw [hA]; exact kp_lt hF _
  have hL := hk.lt
  have HLA := Lib.hid la
  clear hk hF hA la
  go_enter Tryz.func192, Tryz.ntmps192
  go_wp2_with fail
  have M0 := ((((Mem.nil w).new w.heap.size a0 a1 a2 a3 204 rfl).new (w.heap.size + 1) n0 n1 n2 n3 70 (by simp)).new (w.heap.size + 1 + 1) 0 0 0 0 204 (by simp))
  refine (one_calls F HF.out b _ (HK.out.same M0.1)).mono ?_
  rintro e w1 ⟨s0, s1, s2, s3, rfl, hs, hv, hbl⟩
  have M1 := M0.on hbl
  have HV1 := Lib.hid hv
  have hz1 : w.heap.size + 1 + 1 < w1.heap.size := M1.lt (c0 := 0) (c1 := 0) (c2 := 0) (c3 := 0) (by simp)
  have R1 := M1.row (b := w.heap.size + 1) (c0 := n0) (c1 := n1) (c2 := n2) (c3 := n3) (by simp)
  have x0 := R1.c0; have x1 := R1.c1; have x2 := R1.c2; have x3 := R1.c3
  have lt1 : w.heap.size + 1 < w1.heap.size := by omega
  have M2 := Lib.hid (M1.new w1.heap.size s0 s1 s2 s3 204 rfl)
  clear hbl hv R1 M0 M1
  go_wp2_with fail
  refine (len_calls n0 n1 n2 n3 hn _).mono ?_
  rintro e w2 ⟨L, rfl, hL256, hLen, hbl⟩
  have HLen := Lib.hid hLen
  have M3 := Lib.hid (M2.out.on hbl)
  have hz2 : w1.heap.size < w2.heap.size := by have := hbl.size; simp at this; omega
  clear hbl hLen x0 x1 x2 x3
  go_wp2_with fail
  go_loopw [15] (fun i wr => ∃ k r0 r1 r2 r3 : Nat, k ≤ L ∧ i = .int .i64 k ∧ ok4 r0 r1 r2 r3 ∧ Hid (val4 r0 r1 r2 r3 = kp F (A ^ (val4 n0 n1 n2 n3 / 2 ^ (L - k)))) ∧ Hid (Mem w wr [(w1.heap.size, r0, r1, r2, r3), (w.heap.size + 1 + 1, 0, 0, 0, 0), (w.heap.size + 1, n0, n1, n2, n3), (w.heap.size, a0, a1, a2, a3)])) (fun i _ => L - (intOf i).toNat)
  case atStart =>
    refine ⟨0, s0, s1, s2, s3, Nat.zero_le _, rfl, hs, Lib.hid ?_, M3⟩
    rw [HV1.out, Nat.sub_zero, Nat.div_eq_of_lt HLen.out.1, Nat.pow_zero]
  case round =>
    obtain ⟨k, r0, r1, r2, r3, hkL, rfl, hr, HV, HM⟩ := hrel
    have hrl : val4 r0 r1 r2 r3 < F.M := by rw [HV.out]; exact kp_lt HF.out _
    by_cases hlt : k < L
    · have Rr := HM.out.row (b := w1.heap.size) (c0 := r0) (c1 := r1) (c2 := r2) (c3 := r3) (by simp)
      have x0 := Rr.c0; have x1 := Rr.c1; have x2 := Rr.c2; have x3 := Rr.c3
      have ltr := HM.out.lt (b := w1.heap.size) (c0 := r0) (c1 := r1) (c2 := r2) (c3 := r3) (by simp)
      have Hrl := Lib.hid hrl
      clear Rr hrl
      go_wp2_with fail
      refine (times_calls F HF.out b r0 r1 r2 r3 r0 r1 r2 r3 hr hr Hrl.out _ (HK.out.same HM.out.1)).mono ?_
      rintro e w3 ⟨p0, p1, p2, p3, rfl, hp, hv, hbl⟩
      have hv' : val4 p0 p1 p2 p3 = kp F (A ^ (val4 n0 n1 n2 n3 / 2 ^ (L - k)) * A ^ (val4 n0 n1 n2 n3 / 2 ^ (L - k)) % F.M) := by rw [hv, HV.out, kp_times HF.out]
      have HP := Lib.hid hv'
      have M4 := HM.out.on hbl
      have lt4 := M4.lt (b := w1.heap.size) (c0 := r0) (c1 := r1) (c2 := r2) (c3 := r3) (by simp)
      have Rr := M4.row (b := w1.heap.size) (c0 := r0) (c1 := r1) (c2 := r2) (c3 := r3) (by simp)
      have Rn := M4.row (b := w.heap.size + 1) (c0 := n0) (c1 := n1) (c2 := n2) (c3 := n3) (by simp)
      have Ra := M4.row (b := w.heap.size) (c0 := a0) (c1 := a1) (c2 := a2) (c3 := a3) (by simp)
      have M5 := Lib.hid (M4.put p0 p1 p2 p3 (by omega) (by intro r hr; simp at hr; rcases hr with rfl | rfl | rfl <;> simp <;> omega))
      clear x0 x1 x2 x3 hv hv' hbl M4
      have x0 := Rr.c0; have x1 := Rr.c1; have x2 := Rr.c2; have x3 := Rr.c3; have xf := Rr.fr
      have y0 := Rn.c0; have y1 := Rn.c1; have y2 := Rn.c2; have y3 := Rn.c3
      have ne1 : ¬ w.heap.size + 1 = w1.heap.size := by omega
      have ne1' : ¬ w1.heap.size = w.heap.size + 1 := by omega
      clear Rr Rn Ra
      obtain ⟨L1, e1, hL1⟩ : ∃ L1 : Nat, (L : Int) - 1 = (L1 : Int) ∧ L1 + 1 = L := ⟨L - 1, by omega, by omega⟩
      obtain ⟨j, e2, hj⟩ : ∃ j : Nat, (L1 : Int) - (k : Int) = (j : Int) ∧ j + k = L1 := ⟨L1 - k, by omega, by omega⟩
      have hj256 : j < 256 := by omega
      have hjk : j = L - 1 - k := by omega
      have HJ := Lib.hid hjk
      clear hjk
      go_wp2_with fail
      refine (bit_in n0 n1 n2 n3 j hn hj256 _).mono ?_
      rintro e w4 ⟨he, hbl⟩
      have M5' := M5.out
      unfold set4 at M5'
      have M6 := M5'.on hbl
      clear hbl M5' x0 x1 x2 x3 xf y0 y1 y2 y3
      have lt6 := M6.lt (b := w1.heap.size) (c0 := p0) (c1 := p1) (c2 := p2) (c3 := p3) (by simp)
      rcases bitOf_01 (val4 n0 n1 n2 n3) j with hb | hb
      · rw [hb] at he
        subst he
        have HS := Lib.hid (show val4 p0 p1 p2 p3 = kp F (A ^ (val4 n0 n1 n2 n3 / 2 ^ (L - (k + 1)))) by
          rw [HP.out, pow_next hlt, ← HJ.out, hb]; exact ((kp_pow_step F A _ 0 (Or.inl rfl)).1 rfl).symm)
        have M7 := Lib.hid M6
        clear hb M6
        go_wp2_with fail
        go_roundw
        case rel => exact ⟨k + 1, p0, p1, p2, p3, by omega, by go_num, hp, HS, M7⟩
        case measure => simp [intOf]; omega
      · rw [hb] at he
        subst he
        have Rr := M6.row (b := w1.heap.size) (c0 := p0) (c1 := p1) (c2 := p2) (c3 := p3) (by simp)
        have Ra := M6.row (b := w.heap.size) (c0 := a0) (c1 := a1) (c2 := a2) (c3 := a3) (by simp)
        have x0 := Rr.c0; have x1 := Rr.c1; have x2 := Rr.c2; have x3 := Rr.c3
        have z0 := Ra.c0; have z1 := Ra.c1; have z2 := Ra.c2; have z3 := Ra.c3
        have HB := Lib.hid hb
        have M7 := Lib.hid M6
        clear hb M6 Rr Ra
        go_wp2_with fail
        refine (times_calls F HF.out b p0 p1 p2 p3 a0 a1 a2 a3 hp ha HLA.out _ (HK.out.same M7.out.1)).mono ?_
        rintro e w5 ⟨q0, q1, q2, q3, rfl, hq, hv, hbl⟩
        have hv' : val4 q0 q1 q2 q3 = kp F (A ^ (val4 n0 n1 n2 n3 / 2 ^ (L - (k + 1)))) := by
          rw [hv, HP.out, HA.out, kp_times HF.out, pow_next hlt, ← HJ.out, HB.out]; exact ((kp_pow_step F A _ 1 (Or.inr rfl)).2 rfl).symm
        have HS := Lib.hid hv'
        have M8 := M7.out.on hbl
        have lt8 := M8.lt (b := w1.heap.size) (c0 := p0) (c1 := p1) (c2 := p2) (c3 := p3) (by simp)
        have Rr := M8.row (b := w1.heap.size) (c0 := p0) (c1 := p1) (c2 := p2) (c3 := p3) (by simp)
        have M9 := Lib.hid (M8.put q0 q1 q2 q3 (by omega) (by intro r hr; simp at hr; rcases hr with rfl | rfl | rfl <;> simp <;> omega))
        clear x0 x1 x2 x3 z0 z1 z2 z3 hv hv' hbl M8
        have x0 := Rr.c0; have x1 := Rr.c1; have x2 := Rr.c2; have x3 := Rr.c3; have xf := Rr.fr
        clear Rr
        go_wp2_with fail
        go_roundw
        case rel => exact ⟨k + 1, q0, q1, q2, q3, by omega, by go_num, hq, HS, M9⟩
        case measure => simp [intOf]; omega
    · obtain rfl : k = L := by omega
      have Rr := HM.out.row (b := w1.heap.size) (c0 := r0) (c1 := r1) (c2 := r2) (c3 := r3) (by simp)
      have x0 := Rr.c0; have x1 := Rr.c1; have x2 := Rr.c2; have x3 := Rr.c3
      have Ro := HM.out.row (b := w.heap.size + 1 + 1) (c0 := 0) (c1 := 0) (c2 := 0) (c3 := 0) (by simp)
      have o0 := Ro.c0; have o1 := Ro.c1; have o2 := Ro.c2; have o3 := Ro.c3; have of := Ro.fr
      have ltr := HM.out.lt (b := w1.heap.size) (c0 := r0) (c1 := r1) (c2 := r2) (c3 := r3) (by simp)
      have lto := HM.out.lt (b := w.heap.size + 1 + 1) (c0 := 0) (c1 := 0) (c2 := 0) (c3 := 0) (by simp)
      clear Rr Ro hrl
      go_wp2_with fail
      refine bodyPost_ret (v := .agg #[.int .u64 r0, .int .u64 r1, .int .u64 r2, .int .u64 r3]) (by simp [results, Tryz.results192, go_sem, *]) rfl ?_
      refine ⟨_, _, _, _, rfl, hr, by rw [HV.out, Nat.sub_self, Nat.pow_zero, Nat.div_one], ?_⟩
      exact below_set4 HM.out.1 (by omega) _ _ _ _
end Go.Proofs.YtaingnhikbaplaaGreat
namespace Go.Proofs.YtaingnhikbaplaaGreat
set_option linter.unusedVariables false
set_option linter.unusedSimpArgs false
open Go.RowKit

theorem equalInF (d : Nat) (a0 a1 a2 a3 b0 b1 b2 b3 : Nat) (w : World) : (Op.equalIn (d + 1 + 1) 24 (.agg #[.int .u64 a0, .int .u64 a1, .int .u64 a2, .int .u64 a3]) (.agg #[.int .u64 b0, .int .u64 b1, .int .u64 b2, .int .u64 b3])).run Tryz.prog w = .ok (eqW a0 a1 a2 a3 b0 b1 b2 b3) w := by
  have h0 : ∀ (x y : Int) (w : World), (Op.equalIn (d + 1) 22 (.int .u64 x) (.int .u64 y)).run Tryz.prog w = .ok (x == y) w := fun x y w => run_equalIn_int w d 22 .u64 .u64 x y Tryz.underlying22
  rw [Op.equalIn]
  simp only [Sem.run_bind, run_underlying Tryz.underlying24, Result.andThen_ok, Tryz.sizeOf22]
  simp [Std.Legacy.Range.forIn_eq_forIn_range', Std.Legacy.Range.size, List.range', part, h0, Sem.run_bind, Result.andThen_ok]
  unfold eqW
  by_cases q0 : a0 = b0 <;> by_cases q1 : a1 = b1 <;> by_cases q2 : a2 = b2 <;> by_cases q3 : a3 = b3 <;> simp [q0, q1, q2, q3] <;> omega
theorem Mem.drew {w wr : World} {rs : List (Nat × Nat × Nat × Nat × Nat)} (h : Mem w wr rs) : Mem w wr.drew rs :=
  ⟨h.1.drew, fun r hr => ⟨(h.2 r hr).1, ⟨(h.2 r hr).2.c0, (h.2 r hr).2.c1, (h.2 r hr).2.c2, (h.2 r hr).2.c3, (h.2 r hr).2.fr⟩⟩⟩
theorem eqGuardF : Tryz.prog.eqGuardType Tryz.prog.depth 24 = false := by kernel_rfl

set_option maxRecDepth 100000 in
set_option maxHeartbeats 1000000 in
theorem inverted_calls (F : FC) (hF : F.Ok) (A b a0 a1 a2 a3 : Nat) (ha : ok4 a0 a1 a2 a3) (hA : val4 a0 a1 a2 a3 = kp F A) (w : World) (hk : KIs w b F) :
    Calls Tryz.prog 274 #[.pointer (some ⟨b, 0, none⟩), .agg #[.int .u64 a0, .int .u64 a1, .int .u64 a2, .int .u64 a3]] w (FePost (kp F (A ^ (F.M - 2))) w) := by
  have HK := Lib.hid hk
  have HF := Lib.hid hF
  have HA := Lib.hid hA
  have hL := hk.lt
  have hL1 : b < w.heap.size + 1 := by omega
  have k0 := hk.k0; have k1 := hk.k1; have k2 := hk.k2; have k3 := hk.k3
  clear hk hF hA
  go_enter Tryz.func274, Tryz.ntmps274
  go_wp2_with fail
  have M0 := (((Mem.nil w).new w.heap.size a0 a1 a2 a3 204 rfl).new (w.heap.size + 1) 0 0 0 0 204 (by simp))
  refine (sub_calls F.m0 F.m1 F.m2 F.m3 2 0 0 0 HF.out.okm ⟨by omega, by omega, by omega, by omega⟩ _).mono ?_
  rintro e w1 ⟨n0, n1, n2, n3, c, rfl, hn, hc, hv, hbl⟩
  have hv' : val4 n0 n1 n2 n3 = F.M - 2 := by
    have e2 : val4 2 0 0 0 = 2 := rfl
    have := val4_lt hn; have := HF.out.gt; have := HF.out.two
    rw [e2, show val4 F.m0 F.m1 F.m2 F.m3 = F.M from rfl] at hv
    omega
  have HV := Lib.hid hv'
  have M1 := M0.on hbl
  have hz1 : w.heap.size + 1 < w1.heap.size := M1.lt (c0 := 0) (c1 := 0) (c2 := 0) (c3 := 0) (by simp)
  have R1 := M1.row (b := w.heap.size) (c0 := a0) (c1 := a1) (c2 := a2) (c3 := a3) (by simp)
  have x0 := R1.c0; have x1 := R1.c1; have x2 := R1.c2; have x3 := R1.c3
  have lt1 : w.heap.size < w1.heap.size := by omega
  have M2 := Lib.hid (M1.new w1.heap.size n0 n1 n2 n3 70 rfl)
  clear hbl hv hv' R1 M0 M1 k0 k1 k2 k3
  go_wp2_with fail
  refine (power_calls F HF.out A b a0 a1 a2 a3 n0 n1 n2 n3 ha hn HA.out _ (HK.out.same M2.out.1)).mono ?_
  rintro e w2 ⟨s0, s1, s2, s3, rfl, hs, hv, hbl⟩
  have HVs := Lib.hid hv
  have M3 := Lib.hid (M2.out.on hbl)
  have Ro := M3.out.row (b := w.heap.size + 1) (c0 := 0) (c1 := 0) (c2 := 0) (c3 := 0) (by simp)
  have o0 := Ro.c0; have o1 := Ro.c1; have o2 := Ro.c2; have o3 := Ro.c3; have of := Ro.fr
  have lto := M3.out.lt (b := w.heap.size + 1) (c0 := 0) (c1 := 0) (c2 := 0) (c3 := 0) (by simp)
  clear hbl hv Ro x0 x1 x2 x3
  go_wp2_with fail
  refine bodyPost_ret (v := .agg #[.int .u64 s0, .int .u64 s1, .int .u64 s2, .int .u64 s3]) (by simp [results, Tryz.results274, go_sem, *]) rfl ?_
  refine ⟨_, _, _, _, rfl, hs, by rw [HVs.out, HV.out], ?_⟩
  exact below_set4 M3.out.1 (by omega) _ _ _ _

end Go.Proofs.YtaingnhikbaplaaGreat
namespace Go.Proofs.YtaingnhikbaplaaGreat
set_option linter.unusedVariables false
set_option linter.unusedSimpArgs false
open Go.RowKit

theorem shr_0 (a0 a1 a2 a3 : Nat) (n : Int) (ha : ok4 a0 a1 a2 a3) (h0 : 0 < n) (hq : n / 64 = 0) (w : World) :
    Calls Tryz.prog 250 #[.agg #[.int .u64 a0, .int .u64 a1, .int .u64 a2, .int .u64 a3], .int .i64 n] w (WordPost (fun v => v = val4 a0 a1 a2 a3 / 2 ^ n.toNat) w) := by
  obtain ⟨p, hr, hp, en⟩ := ex_n (by omega) 0 hq (by omega)
  have b1 : n < 256 := by omega
  have t0 : decide (n ≤ 0) = false := decide_eq_false (by omega)
  obtain ⟨lo0, up0, u0, d0, bl0, bu0, e0, g0, m0⟩ := ex_down (a := a0) (p := p) ha.1 hp
  obtain ⟨lo1, up1, u1, d1, bl1, bu1, e1, g1, m1⟩ := ex_down (a := a1) (p := p) ha.2.1 hp
  obtain ⟨lo2, up2, u2, d2, bl2, bu2, e2, g2, m2⟩ := ex_down (a := a2) (p := p) ha.2.2.1 hp
  obtain ⟨lo3, up3, u3, d3, bl3, bu3, e3, g3, m3⟩ := ex_down (a := a3) (p := p) ha.2.2.2 hp
  obtain ⟨s0, o0, bs0, f0⟩ := ex_or' bl0 bu1 g0 m1
  obtain ⟨s1, o1, bs1, f1⟩ := ex_or' bl1 bu2 g1 m2
  obtain ⟨s2, o2, bs2, f2⟩ := ex_or' bl2 bu3 g2 m3
  have HF : Hid (val4 s0 s1 s2 lo3 = val4 a0 a1 a2 a3 / 2 ^ n.toNat) := Lib.hid (by
    rw [en, pow_n, ← Nat.div_div_eq_div_mul]
    have hq' : val4 a0 a1 a2 a3 / 18446744073709551616 ^ ((0 : Int)).toNat = val4 a0 a1 a2 a3 := by
      rw [show 18446744073709551616 ^ ((0 : Int)).toNat = 1 by simp]
      obtain ⟨k0, k1, k2, k3⟩ := ha
      unfold val4; omega
    rw [hq']
    obtain ⟨v0, x0, y0, z0⟩ := e0.out
    obtain ⟨v1, x1, y1, z1⟩ := e1.out
    obtain ⟨v2, x2, y2, z2⟩ := e2.out
    obtain ⟨v3, x3, y3, z3⟩ := e3.out
    have f0 := f0.out
    have f1 := f1.out
    have f2 := f2.out
    refine div_fin (m := v0) ?_ y0
    have hD : val4 s0 s1 s2 lo3 * 2 ^ p = 1 * (s0 * 2 ^ p) + 18446744073709551616 * (s1 * 2 ^ p) + 340282366920938463463374607431768211456 * (s2 * 2 ^ p) + 6277101735386680763835789423207666416102355444464034512896 * (lo3 * 2 ^ p) := by
      unfold val4; simp only [Nat.add_mul, Nat.mul_add, Nat.mul_assoc, Nat.mul_zero, Nat.zero_mul, Nat.add_zero]; omega
    rw [hD]
    have k0 : s0 * 2 ^ p = lo0 * 2 ^ p + up1 * 2 ^ p := by rw [f0, Nat.add_mul]
    have k1 : s1 * 2 ^ p = lo1 * 2 ^ p + up2 * 2 ^ p := by rw [f1, Nat.add_mul]
    have k2 : s2 * 2 ^ p = lo2 * 2 ^ p + up3 * 2 ^ p := by rw [f2, Nat.add_mul]
    unfold val4
    omega)
  clear e0 g0 m0 e1 g1 m1 e2 g2 m2 e3 g3 m3 f0 f1 f2
  have HEN := Lib.hid en
  clear en
  go_enter Tryz.func250, Tryz.ntmps250
  go_wp2_with fail
  refine wp_loop_rounds 5 ?_
  rw [rounds_succ]
  go_wp2_with fail
  go_region
  go_wp2_with fail
  rw [rounds_succ]
  go_wp2_with fail
  go_region
  go_wp2_with fail
  rw [rounds_succ]
  go_wp2_with fail
  go_region
  go_wp2_with fail
  rw [rounds_succ]
  go_wp2_with fail
  rw [rounds_succ]
  go_wp2_with fail
  refine bodyPost_ret (v := .agg #[.int .u64 s0, .int .u64 s1, .int .u64 s2, .int .u64 lo3]) (by simp [results, Tryz.results250, go_sem]) rfl ?_
  refine ⟨s0, s1, s2, lo3, rfl, ⟨bs0, bs1, bs2, bl3⟩, HF.out, ?_⟩
  repeat (first | exact Below.refl _ _ | refine Below.drew ?_ | refine Below.alloc ?_ (by first | (simp; done) | (simp; omega)) _)

theorem shr_1 (a0 a1 a2 a3 : Nat) (n : Int) (ha : ok4 a0 a1 a2 a3) (h0 : 0 < n) (hq : n / 64 = 1) (w : World) :
    Calls Tryz.prog 250 #[.agg #[.int .u64 a0, .int .u64 a1, .int .u64 a2, .int .u64 a3], .int .i64 n] w (WordPost (fun v => v = val4 a0 a1 a2 a3 / 2 ^ n.toNat) w) := by
  obtain ⟨p, hr, hp, en⟩ := ex_n (by omega) 1 hq (by omega)
  have b1 : n < 256 := by omega
  have t0 : decide (n ≤ 0) = false := decide_eq_false (by omega)
  obtain ⟨lo1, up1, u1, d1, bl1, bu1, e1, g1, m1⟩ := ex_down (a := a1) (p := p) ha.2.1 hp
  obtain ⟨lo2, up2, u2, d2, bl2, bu2, e2, g2, m2⟩ := ex_down (a := a2) (p := p) ha.2.2.1 hp
  obtain ⟨lo3, up3, u3, d3, bl3, bu3, e3, g3, m3⟩ := ex_down (a := a3) (p := p) ha.2.2.2 hp
  obtain ⟨s1, o1, bs1, f1⟩ := ex_or' bl1 bu2 g1 m2
  obtain ⟨s2, o2, bs2, f2⟩ := ex_or' bl2 bu3 g2 m3
  have HF : Hid (val4 s1 s2 lo3 0 = val4 a0 a1 a2 a3 / 2 ^ n.toNat) := Lib.hid (by
    rw [en, pow_n, ← Nat.div_div_eq_div_mul]
    have hq' : val4 a0 a1 a2 a3 / 18446744073709551616 ^ ((1 : Int)).toNat = val4 a1 a2 a3 0 := by
      rw [show 18446744073709551616 ^ ((1 : Int)).toNat = 18446744073709551616 by simp]
      obtain ⟨k0, k1, k2, k3⟩ := ha
      unfold val4; omega
    rw [hq']
    obtain ⟨v1, x1, y1, z1⟩ := e1.out
    obtain ⟨v2, x2, y2, z2⟩ := e2.out
    obtain ⟨v3, x3, y3, z3⟩ := e3.out
    have f1 := f1.out
    have f2 := f2.out
    refine div_fin (m := v1) ?_ y1
    have hD : val4 s1 s2 lo3 0 * 2 ^ p = 1 * (s1 * 2 ^ p) + 18446744073709551616 * (s2 * 2 ^ p) + 340282366920938463463374607431768211456 * (lo3 * 2 ^ p) := by
      unfold val4; simp only [Nat.add_mul, Nat.mul_add, Nat.mul_assoc, Nat.mul_zero, Nat.zero_mul, Nat.add_zero]; omega
    rw [hD]
    have k1 : s1 * 2 ^ p = lo1 * 2 ^ p + up2 * 2 ^ p := by rw [f1, Nat.add_mul]
    have k2 : s2 * 2 ^ p = lo2 * 2 ^ p + up3 * 2 ^ p := by rw [f2, Nat.add_mul]
    unfold val4
    omega)
  clear e1 g1 m1 e2 g2 m2 e3 g3 m3 f1 f2
  have HEN := Lib.hid en
  clear en
  go_enter Tryz.func250, Tryz.ntmps250
  go_wp2_with fail
  refine wp_loop_rounds 4 ?_
  rw [rounds_succ]
  go_wp2_with fail
  go_region
  go_wp2_with fail
  rw [rounds_succ]
  go_wp2_with fail
  go_region
  go_wp2_with fail
  rw [rounds_succ]
  go_wp2_with fail
  rw [rounds_succ]
  go_wp2_with fail
  refine bodyPost_ret (v := .agg #[.int .u64 s1, .int .u64 s2, .int .u64 lo3, .int .u64 0]) (by simp [results, Tryz.results250, go_sem]) rfl ?_
  refine ⟨s1, s2, lo3, 0, rfl, ⟨bs1, bs2, bl3, (by omega)⟩, HF.out, ?_⟩
  repeat (first | exact Below.refl _ _ | refine Below.drew ?_ | refine Below.alloc ?_ (by first | (simp; done) | (simp; omega)) _)

theorem shr_2 (a0 a1 a2 a3 : Nat) (n : Int) (ha : ok4 a0 a1 a2 a3) (h0 : 0 < n) (hq : n / 64 = 2) (w : World) :
    Calls Tryz.prog 250 #[.agg #[.int .u64 a0, .int .u64 a1, .int .u64 a2, .int .u64 a3], .int .i64 n] w (WordPost (fun v => v = val4 a0 a1 a2 a3 / 2 ^ n.toNat) w) := by
  obtain ⟨p, hr, hp, en⟩ := ex_n (by omega) 2 hq (by omega)
  have b1 : n < 256 := by omega
  have t0 : decide (n ≤ 0) = false := decide_eq_false (by omega)
  obtain ⟨lo2, up2, u2, d2, bl2, bu2, e2, g2, m2⟩ := ex_down (a := a2) (p := p) ha.2.2.1 hp
  obtain ⟨lo3, up3, u3, d3, bl3, bu3, e3, g3, m3⟩ := ex_down (a := a3) (p := p) ha.2.2.2 hp
  obtain ⟨s2, o2, bs2, f2⟩ := ex_or' bl2 bu3 g2 m3
  have HF : Hid (val4 s2 lo3 0 0 = val4 a0 a1 a2 a3 / 2 ^ n.toNat) := Lib.hid (by
    rw [en, pow_n, ← Nat.div_div_eq_div_mul]
    have hq' : val4 a0 a1 a2 a3 / 18446744073709551616 ^ ((2 : Int)).toNat = val4 a2 a3 0 0 := by
      rw [show 18446744073709551616 ^ ((2 : Int)).toNat = 340282366920938463463374607431768211456 by simp]
      obtain ⟨k0, k1, k2, k3⟩ := ha
      unfold val4; omega
    rw [hq']
    obtain ⟨v2, x2, y2, z2⟩ := e2.out
    obtain ⟨v3, x3, y3, z3⟩ := e3.out
    have f2 := f2.out
    refine div_fin (m := v2) ?_ y2
    have hD : val4 s2 lo3 0 0 * 2 ^ p = 1 * (s2 * 2 ^ p) + 18446744073709551616 * (lo3 * 2 ^ p) := by
      unfold val4; simp only [Nat.add_mul, Nat.mul_add, Nat.mul_assoc, Nat.mul_zero, Nat.zero_mul, Nat.add_zero]; omega
    rw [hD]
    have k2 : s2 * 2 ^ p = lo2 * 2 ^ p + up3 * 2 ^ p := by rw [f2, Nat.add_mul]
    unfold val4
    omega)
  clear e2 g2 m2 e3 g3 m3 f2
  have HEN := Lib.hid en
  clear en
  go_enter Tryz.func250, Tryz.ntmps250
  go_wp2_with fail
  refine wp_loop_rounds 3 ?_
  rw [rounds_succ]
  go_wp2_with fail
  go_region
  go_wp2_with fail
  rw [rounds_succ]
  go_wp2_with fail
  rw [rounds_succ]
  go_wp2_with fail
  refine bodyPost_ret (v := .agg #[.int .u64 s2, .int .u64 lo3, .int .u64 0, .int .u64 0]) (by simp [results, Tryz.results250, go_sem]) rfl ?_
  refine ⟨s2, lo3, 0, 0, rfl, ⟨bs2, bl3, (by omega), (by omega)⟩, HF.out, ?_⟩
  repeat (first | exact Below.refl _ _ | refine Below.drew ?_ | refine Below.alloc ?_ (by first | (simp; done) | (simp; omega)) _)

theorem shr_3 (a0 a1 a2 a3 : Nat) (n : Int) (ha : ok4 a0 a1 a2 a3) (h0 : 0 < n) (hq : n / 64 = 3) (w : World) :
    Calls Tryz.prog 250 #[.agg #[.int .u64 a0, .int .u64 a1, .int .u64 a2, .int .u64 a3], .int .i64 n] w (WordPost (fun v => v = val4 a0 a1 a2 a3 / 2 ^ n.toNat) w) := by
  obtain ⟨p, hr, hp, en⟩ := ex_n (by omega) 3 hq (by omega)
  have b1 : n < 256 := by omega
  have t0 : decide (n ≤ 0) = false := decide_eq_false (by omega)
  obtain ⟨lo3, up3, u3, d3, bl3, bu3, e3, g3, m3⟩ := ex_down (a := a3) (p := p) ha.2.2.2 hp
  have HF : Hid (val4 lo3 0 0 0 = val4 a0 a1 a2 a3 / 2 ^ n.toNat) := Lib.hid (by
    rw [en, pow_n, ← Nat.div_div_eq_div_mul]
    have hq' : val4 a0 a1 a2 a3 / 18446744073709551616 ^ ((3 : Int)).toNat = val4 a3 0 0 0 := by
      rw [show 18446744073709551616 ^ ((3 : Int)).toNat = 6277101735386680763835789423207666416102355444464034512896 by simp]
      obtain ⟨k0, k1, k2, k3⟩ := ha
      unfold val4; omega
    rw [hq']
    obtain ⟨v3, x3, y3, z3⟩ := e3.out
    refine div_fin (m := v3) ?_ y3
    have hD : val4 lo3 0 0 0 * 2 ^ p = 1 * (lo3 * 2 ^ p) := by
      unfold val4; simp only [Nat.add_mul, Nat.mul_add, Nat.mul_assoc, Nat.mul_zero, Nat.zero_mul, Nat.add_zero]; omega
    rw [hD]
    unfold val4
    omega)
  clear e3 g3 m3 
  have HEN := Lib.hid en
  clear en
  go_enter Tryz.func250, Tryz.ntmps250
  go_wp2_with fail
  refine wp_loop_rounds 2 ?_
  rw [rounds_succ]
  go_wp2_with fail
  rw [rounds_succ]
  go_wp2_with fail
  refine bodyPost_ret (v := .agg #[.int .u64 lo3, .int .u64 0, .int .u64 0, .int .u64 0]) (by simp [results, Tryz.results250, go_sem]) rfl ?_
  refine ⟨lo3, 0, 0, 0, rfl, ⟨bl3, (by omega), (by omega), (by omega)⟩, HF.out, ?_⟩
  repeat (first | exact Below.refl _ _ | refine Below.drew ?_ | refine Below.alloc ?_ (by first | (simp; done) | (simp; omega)) _)

theorem shr_none (a0 a1 a2 a3 : Nat) (n : Int) (ha : ok4 a0 a1 a2 a3) (h0 : n ≤ 0) (w : World) :
    Calls Tryz.prog 250 #[.agg #[.int .u64 a0, .int .u64 a1, .int .u64 a2, .int .u64 a3], .int .i64 n] w (WordPost (fun v => v = val4 a0 a1 a2 a3) w) := by
  have t0 : decide (n ≤ 0) = true := decide_eq_true h0
  go_enter Tryz.func250, Tryz.ntmps250
  go_wp2_with fail
  refine bodyPost_ret (v := .agg #[.int .u64 a0, .int .u64 a1, .int .u64 a2, .int .u64 a3]) (by simp [results, Tryz.results250, go_sem]) rfl ?_
  refine ⟨a0, a1, a2, a3, rfl, ha, rfl, ?_⟩
  repeat (first | exact Below.refl _ _ | refine Below.drew ?_ | refine Below.alloc ?_ (by first | (simp; done) | (simp; omega)) _)

theorem shr_far (a0 a1 a2 a3 : Nat) (n : Int) (ha : ok4 a0 a1 a2 a3) (h0 : 256 ≤ n) (h1 : n ≤ 9223372036854775807) (w : World) :
    Calls Tryz.prog 250 #[.agg #[.int .u64 a0, .int .u64 a1, .int .u64 a2, .int .u64 a3], .int .i64 n] w (WordPost (fun v => v = 0) w) := by
  have t0 : decide (n ≤ 0) = false := decide_eq_false (by omega)
  obtain ⟨q, hq, bq, bq'⟩ : ∃ q : Nat, n / 64 = (q : Int) ∧ 4 ≤ q ∧ q ≤ 9223372036854775807 := ⟨(n / 64).toNat, by omega, by omega, by omega⟩
  have t1 : decide ((0 : Int) < 4 - (q : Int)) = false := decide_eq_false (by omega)
  go_enter Tryz.func250, Tryz.ntmps250
  go_wp2_with fail
  refine wp_loop_rounds 1 ?_
  rw [rounds_succ]
  go_wp2_with fail
  refine bodyPost_ret (v := .agg #[.int .u64 0, .int .u64 0, .int .u64 0, .int .u64 0]) (by simp [results, Tryz.results250, go_sem]) rfl ?_
  refine ⟨0, 0, 0, 0, rfl, ⟨by omega, by omega, by omega, by omega⟩, rfl, ?_⟩
  repeat (first | exact Below.refl _ _ | refine Below.drew ?_ | refine Below.alloc ?_ (by first | (simp; done) | (simp; omega)) _)

/-- limbs.Shr, for any number of bits that is not below 0 -/
theorem shr_calls (a0 a1 a2 a3 : Nat) (n : Int) (ha : ok4 a0 a1 a2 a3) (h0 : 0 ≤ n) (h1 : n ≤ 9223372036854775807) (w : World) :
    Calls Tryz.prog 250 #[.agg #[.int .u64 a0, .int .u64 a1, .int .u64 a2, .int .u64 a3], .int .i64 n] w (WordPost (fun v => v = val4 a0 a1 a2 a3 / 2 ^ n.toNat) w) := by
  by_cases hz : n ≤ 0
  · refine (shr_none a0 a1 a2 a3 n ha hz w).mono ?_
    rintro e w' ⟨s0, s1, s2, s3, he, hs, hv, hb⟩
    refine ⟨s0, s1, s2, s3, he, hs, ?_, hb⟩
    have := val4_lt ha
    rw [hv, show n.toNat = 0 by omega, Nat.pow_zero]; omega
  · by_cases hf : 256 ≤ n
    · refine (shr_far a0 a1 a2 a3 n ha hf h1 w).mono ?_
      rintro e w' ⟨s0, s1, s2, s3, he, hs, hv, hb⟩
      refine ⟨s0, s1, s2, s3, he, hs, ?_, hb⟩
      rw [hv]
      have hp := Nat.pow_le_pow_right (show 0 < 2 by omega) (show 256 ≤ n.toNat by omega)
      have := val4_lt ha
      exact (Nat.div_eq_of_lt (Nat.lt_of_lt_of_le this hp)).symm
    · have hq : n / 64 = 0 ∨ n / 64 = 1 ∨ n / 64 = 2 ∨ n / 64 = 3 := by omega
      rcases hq with h | h | h | h
      · exact shr_0 a0 a1 a2 a3 n ha (by omega) h w
      · exact shr_1 a0 a1 a2 a3 n ha (by omega) h w
      · exact shr_2 a0 a1 a2 a3 n ha (by omega) h w
      · exact shr_3 a0 a1 a2 a3 n ha (by omega) h w

theorem joined_calls (a0 a1 a2 a3 b0 b1 b2 b3 : Nat) (ha : ok4 a0 a1 a2 a3) (hb : ok4 b0 b1 b2 b3) (w : World) :
    Calls Tryz.prog 316 #[.agg #[.int .u64 a0, .int .u64 a1, .int .u64 a2, .int .u64 a3], .agg #[.int .u64 b0, .int .u64 b1, .int .u64 b2, .int .u64 b3]] w (WordPost (fun v => v = val4 a0 a1 a2 a3 ||| val4 b0 b1 b2 b3) w) := by
  obtain ⟨s0, o0, bs0, f0⟩ : ∃ s : Nat, bits .or .u64 (a0 : Int) (b0 : Int) = (s : Int) ∧ s < 18446744073709551616 ∧ Hid (s = a0 ||| b0) := ⟨a0 ||| b0, bits_or_u64_nat _ _ ha.1 hb.1, Nat.or_lt_two_pow (n := 64) ha.1 hb.1, Lib.hid rfl⟩
  obtain ⟨s1, o1, bs1, f1⟩ : ∃ s : Nat, bits .or .u64 (a1 : Int) (b1 : Int) = (s : Int) ∧ s < 18446744073709551616 ∧ Hid (s = a1 ||| b1) := ⟨a1 ||| b1, bits_or_u64_nat _ _ ha.2.1 hb.2.1, Nat.or_lt_two_pow (n := 64) ha.2.1 hb.2.1, Lib.hid rfl⟩
  obtain ⟨s2, o2, bs2, f2⟩ : ∃ s : Nat, bits .or .u64 (a2 : Int) (b2 : Int) = (s : Int) ∧ s < 18446744073709551616 ∧ Hid (s = a2 ||| b2) := ⟨a2 ||| b2, bits_or_u64_nat _ _ ha.2.2.1 hb.2.2.1, Nat.or_lt_two_pow (n := 64) ha.2.2.1 hb.2.2.1, Lib.hid rfl⟩
  obtain ⟨s3, o3, bs3, f3⟩ : ∃ s : Nat, bits .or .u64 (a3 : Int) (b3 : Int) = (s : Int) ∧ s < 18446744073709551616 ∧ Hid (s = a3 ||| b3) := ⟨a3 ||| b3, bits_or_u64_nat _ _ ha.2.2.2 hb.2.2.2, Nat.or_lt_two_pow (n := 64) ha.2.2.2 hb.2.2.2, Lib.hid rfl⟩
  have HF : Hid (val4 s0 s1 s2 s3 = val4 a0 a1 a2 a3 ||| val4 b0 b1 b2 b3) := Lib.hid (by rw [f0.out, f1.out, f2.out, f3.out]; exact or4 ha hb)
  clear f0 f1 f2 f3
  go_enter Tryz.func316, Tryz.ntmps316
  go_wp2_with fail
  refine wp_loop_rounds 5 ?_
  rw [rounds_succ]
  go_wp2_with fail
  go_region
  go_wp2_with fail
  rw [rounds_succ]
  go_wp2_with fail
  go_region
  go_wp2_with fail
  rw [rounds_succ]
  go_wp2_with fail
  go_region
  go_wp2_with fail
  rw [rounds_succ]
  go_wp2_with fail
  go_region
  go_wp2_with fail
  rw [rounds_succ]
  go_wp2_with fail
  refine bodyPost_ret (v := .agg #[.int .u64 s0, .int .u64 s1, .int .u64 s2, .int .u64 s3]) (by simp [results, Tryz.results316, go_sem]) rfl ?_
  refine ⟨s0, s1, s2, s3, rfl, ⟨bs0, bs1, bs2, bs3⟩, HF.out, ?_⟩
  repeat (first | exact Below.refl _ _ | refine Below.drew ?_ | refine Below.alloc ?_ (by first | (simp; done) | (simp; omega)) _)

end Go.Proofs.YtaingnhikbaplaaGreat
namespace Go.Proofs.YtaingnhikbaplaaGreat
set_option linter.unusedVariables false

section
variable {P : Program} {ops : Array Oper} {Q : Exit → Act → World → Prop} {md : Region.Mode} {S : World → Prop} {L : Nat}

/-- Whatever order is picked: behind each operation but number L the condition stands. -/
def anyTill (P : Program) (md : Region.Mode) (ops : Array Oper) (Q : Exit → Act → World → Prop) (S : World → Prop) (L : Nat) : Nat → Array Bool → Act → World → Prop
  | 0, got, a, w => Region.ready md ops got = [] ∧ Q .normal a w
  | m + 1, got, a, w =>
    (Region.ready md ops got = [] → Q .normal a w) ∧
    ∀ i ∈ Region.ready md ops got, wpOp P ops Q i (fun b u => (i = L ∨ S u) ∧ anyTill P md ops Q S L m (got.setIfInBounds i true) b u) a w

theorem any_of_till : ∀ (m : Nat) (got : Array Bool) (a : Act) (w : World), anyTill P md ops Q S L m got a w → wpAny P md ops Q m got a w
  | 0, _, _, _, h => h
  | m + 1, _, _, _, h => ⟨h.1, fun i hi => wpOp_mono (fun b u k => any_of_till m _ b u k.2) (h.2 i hi)⟩

/-- number L waits for number i -/
def waits (md : Region.Mode) (ops : Array Oper) (L i : Nat) : Bool :=
  match ops[L]? with
  | some o => o.after.any fun e => Region.binds md e && e.on == i
  | none => false

theorem till_first {i : Nat} {oi : Oper} {v : Value} (hi : ops[i]? = some oi) (hsel : ∀ (j : Nat) (o : Oper) cs b, ops[j]? = some o → o.op ≠ .select cs b)
    (hL : waits md ops L i = true) (hQ : ∀ c a w, Q (.panic c) (a.put oi.dst v) w → Q (.panic c) a w) :
    ∀ (m : Nat) (got : Array Bool) (a : Act) (w : World),
      (∀ j oj, ops[j]? = some oj → j ≠ i → got.getD j true = false → (∀ e ∈ oj.after, Region.binds md e = true → e.on ≠ i) → oi.apart ops oj = true) →
      i ∈ Region.ready md ops got → YieldsIf P ops S oi v a → S w →
      anyTill P md ops Q S L m (got.setIfInBounds i true) (a.put oi.dst v) w → anyTill P md ops Q S L (m + 1) got a w := by
  intro m
  induction m with
  | zero =>
    intro got a w _ hr hy hS H
    refine ⟨fun h => (by rw [h] at hr; cases hr), fun j hj => ?_⟩
    by_cases hji : j = i
    · subst hji; exact hy.wpOp hi hS ⟨.inr hS, H⟩
    · have := ready_mono hj hji
      rw [H.1] at this
      cases this
  | succ m ih =>
    intro got a w hfree hr hy hS H
    refine ⟨fun h => (by rw [h] at hr; cases hr), fun j hj => ?_⟩
    by_cases hji : j = i
    · subst hji; exact hy.wpOp hi hS ⟨.inr hS, H⟩
    · obtain ⟨hun, oj, hoj, hall⟩ := mem_ready.1 hj
      have hno : ∀ e ∈ oj.after, Region.binds md e = true → e.on ≠ i := fun e he hb heq => by
        have h1 := hall e he hb
        have h0 := (mem_ready.1 hr).1
        rw [heq] at h1
        rcases Nat.lt_or_ge i got.size with h' | h'
        · simp [h'] at h0 h1; rw [h0] at h1; cases h1
        · simp [Array.getElem?_eq_none h'] at h1
      have hjL : j ≠ L := fun e => by
        subst e
        unfold waits at hL
        rw [hoj] at hL
        obtain ⟨x, hx, hx2⟩ := Array.any_eq_true'.1 hL
        simp only [Bool.and_eq_true, beq_iff_eq] at hx2
        exact hno x hx hx2.1 hx2.2
      have h2 := wpOp_putIf hoj (hfree j oj hoj hji hun hno) (fun cs b => hsel i oi cs b hi) (fun cs b => hsel j oj cs b hoj) hQ hy (H.2 j (ready_mono hj hji))
      have hfree' : ∀ k ok, ops[k]? = some ok → k ≠ i → (got.setIfInBounds j true).getD k true = false →
          (∀ e ∈ ok.after, Region.binds md e = true → e.on ≠ i) → oi.apart ops ok = true := fun k ok hk hki hu hn => by
        refine hfree k ok hk hki ?_ hn
        by_cases hjk : j = k
        · subst hjk; exact hun
        · rw [getD_set_ne true hjk] at hu; exact hu
      refine wpOp_mono (fun b u h3 => ⟨h3.2.1, ih (got.setIfInBounds j true) b u hfree' (ready_mono hr (Ne.symm hji)) h3.1 (h3.2.1.resolve_left hjL) ?_⟩) h2
      rw [Array.setIfInBounds_comm _ _ hji]
      exact h3.2.2

theorem till_take {i : Nat} {oi : Oper} {v : Value} {m : Nat} {got : Array Bool} {a : Act} {w : World} (hi : ops[i]? = some oi)
    (hs : Region.noSelect ops = true) (hf : Region.free md ops got i = true) (hr : (Region.ready md ops got).contains i = true) (hL : waits md ops L i = true)
    (hQ : ∀ c a w, Q (.panic c) (a.put oi.dst v) w → Q (.panic c) a w) (hS : S w) (hy : YieldsIf P ops S oi v a)
    (h : anyTill P md ops Q S L m (got.setIfInBounds i true) (a.put oi.dst v) w) : anyTill P md ops Q S L (m + 1) got a w :=
  till_first hi (Region.noSelect_spec hs) hL hQ m got a w (Region.free_spec hi hf) (by simpa using hr) hy hS h

/-- One operation alone may come up. -/
theorem till_step {i : Nat} {o : Oper} {m : Nat} {got : Array Bool} {a : Act} {w : World} (hr : Region.ready md ops got = [i]) (ho : ops[i]? = some o)
    (h : ∀ K : Act → World → Prop, Shut (∀ b u, (i = L ∨ S u) → ((i = L ∨ S u) → anyTill P md ops Q S L m (got.setIfInBounds i true) b u) → K b u) → if Region.wanted o (yielded ops a.tmps) = true then Oper.wp P o a w K Q else K (a.put o.dst undef) w) :
    anyTill P md ops Q S L (m + 1) got a w :=
  ⟨fun h0 => (by rw [hr] at h0; cases h0), fun j hj => by
    rw [hr] at hj
    obtain rfl : j = i := by simpa using hj
    exact wpOp_step ho (fun K hK => h K (fun b u hS hW => hK b u ⟨hS, hW hS⟩))⟩

theorem till_done {got : Array Bool} {a : Act} {w : World} (hr : Region.ready md ops got = []) (h : Q .normal a w) : anyTill P md ops Q S L 0 got a w := ⟨hr, h⟩

theorem region_till (S : World → Prop) (L : Nat) {id : Nat} {a : Act} {w : World} (hm : P.follows .mixedOrders = true)
    (h : anyTill P .any ops Q S L ops.size (Array.replicate ops.size false) a w.drew) : (Code.region id ops true).wp P Q a w :=
  wp_region_any hm (any_of_till _ _ _ _ h)
end
end Go.Proofs.YtaingnhikbaplaaGreat
namespace Go.Proofs.YtaingnhikbaplaaGreat
set_option linter.unusedVariables false

theorem till_two {P : Program} {ops : Array Oper} {Q : Exit → Act → World → Prop} {md : Region.Mode} {S : World → Prop} {L : Nat} {i j : Nat} {oi oj : Oper} {m : Nat} {got : Array Bool} {a : Act} {w : World} (hr : Region.ready md ops got = [i, j]) (hoi : ops[i]? = some oi) (hoj : ops[j]? = some oj)
    (h1 : ∀ K : Act → World → Prop, Shut (∀ b u, (i = L ∨ S u) → ((i = L ∨ S u) → anyTill P md ops Q S L m (got.setIfInBounds i true) b u) → K b u) → if Region.wanted oi (yielded ops a.tmps) = true then Oper.wp P oi a w K Q else K (a.put oi.dst undef) w)
    (h2 : ∀ K : Act → World → Prop, Shut (∀ b u, (j = L ∨ S u) → ((j = L ∨ S u) → anyTill P md ops Q S L m (got.setIfInBounds j true) b u) → K b u) → if Region.wanted oj (yielded ops a.tmps) = true then Oper.wp P oj a w K Q else K (a.put oj.dst undef) w) :
    anyTill P md ops Q S L (m + 1) got a w :=
  ⟨fun h0 => (by rw [hr] at h0; cases h0), fun k hk => by
    rw [hr] at hk
    rcases List.mem_cons.1 hk with rfl | hk
    · exact wpOp_step hoi (fun K hK => h1 K (fun b u hS hW => hK b u ⟨hS, hW hS⟩))
    · obtain rfl : k = j := by simpa using hk
      exact wpOp_step hoj (fun K hK => h2 K (fun b u hS hW => hK b u ⟨hS, hW hS⟩))⟩

end Go.Proofs.YtaingnhikbaplaaGreat
