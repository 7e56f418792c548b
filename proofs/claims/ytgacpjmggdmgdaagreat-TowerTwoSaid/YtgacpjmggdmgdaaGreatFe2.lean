/-
  The field's test whether a number is below the modulus, its sum and its difference. Conditions: words below 2^64, the constants in a block of memory; sums and differences of numbers below the modulus.
-/
import Derived.Test.YtgacpjmggdmgdaaGreatFe
namespace Go.Proofs.YtgacpjmggdmgdaaGreat
set_option linter.unusedVariables false
set_option linter.unusedSimpArgs false
open Go.RowKit

/-- is the number below the modulus? -/
def isB (V M : Nat) : Bool := decide (V < M)
theorem isB_of {V M c D : Nat} (hD : D < 115792089237316195423570985008687907853269984665640564039457584007913129639936) (hc : c ≤ 1) (e : D + M = V + 115792089237316195423570985008687907853269984665640564039457584007913129639936 * c) (hM : M < 115792089237316195423570985008687907853269984665640564039457584007913129639936) (hV : V < 115792089237316195423570985008687907853269984665640564039457584007913129639936) : ((c : Int) == 1) = isB V M := by
  have : c = 0 ∨ c = 1 := by omega
  unfold isB
  rcases this with rfl | rfl
  · rw [decide_eq_false (by omega)]; rfl
  · rw [decide_eq_true (by omega)]; rfl

theorem ret_bool {a b : Bool} (h : a = b) : Ending.returned (.bool a) = .returned (.bool b) := by rw [h]
set_option maxHeartbeats 1000000 in
theorem has_calls (F : FC) (hF : F.Ok) (b a0 a1 a2 a3 : Nat) (ha : ok4 a0 a1 a2 a3) (w : World) (hk : KIs w b F) :
    Calls Tryz.prog 138 #[.pointer (some ⟨b, 0, none⟩), .agg #[.int .u64 a0, .int .u64 a1, .int .u64 a2, .int .u64 a3]] w fun e w' => e = .returned (.bool (isB (val4 a0 a1 a2 a3) F.M)) ∧ Below w.heap.size w w' := by
  obtain ⟨d0, c0, d1, c1, d2, c2, d3, c3, r0, r1, r2, r3, hd, hc, e⟩ := ex_sub4 ha hF.okm
  have HB := Lib.hid (isB_of (val4_lt hd) hc e.out (val4_lt hF.okm) (val4_lt ha))
  have hL := hk.lt
  have hL' : b ≠ w.heap.size := by omega
  have k0 := hk.k0; have k1 := hk.k1; have k2 := hk.k2; have k3 := hk.k3
  clear hk hF e
  go_enter Tryz.func138, Tryz.ntmps138
  go_wp2_with fail
  go_quiet (fail)
  go_wp2_with fail
  go_quiet (fail)
  go_wp2_with fail
  go_quiet (fail)
  go_wp2_with fail
  go_quiet (fail)
  go_wp2_with fail
  go_ret
  exact ⟨ret_bool HB.out, by repeat (first | exact Below.refl _ _ | refine Below.drew ?_ | exact below_drewN' _ _ _ | refine Below.alloc ?_ (by first | (simp; done) | (simp; omega)) _ | refine Below.trans ?_ (below_drewN' _ _ _))⟩

set_option maxHeartbeats 1000000 in
theorem plus_calls (F : FC) (hF : F.Ok) (b a0 a1 a2 a3 b0 b1 b2 b3 : Nat) (ha : ok4 a0 a1 a2 a3) (hb : ok4 b0 b1 b2 b3) (la : val4 a0 a1 a2 a3 < F.M) (lb : val4 b0 b1 b2 b3 < F.M) (w : World) (hk : KIs w b F) :
    Calls Tryz.prog 169 #[.pointer (some ⟨b, 0, none⟩), .agg #[.int .u64 a0, .int .u64 a1, .int .u64 a2, .int .u64 a3], .agg #[.int .u64 b0, .int .u64 b1, .int .u64 b2, .int .u64 b3]] w (FePost ((val4 a0 a1 a2 a3 + val4 b0 b1 b2 b3) % F.M) w) := by
  obtain ⟨d0, c0, d1, c1, d2, c2, d3, c3, r0, r1, r2, r3, hd, hc, e⟩ := ex_add4 ha hb
  have e' : val4 d0 d1 d2 d3 = val4 a0 a1 a2 a3 + val4 b0 b1 b2 b3 := by have := e.out; have := hF.two; omega
  rw [← e']
  have hlt : val4 d0 d1 d2 d3 < 2 * F.M := by omega
  have HK := Lib.hid hk
  have hL := hk.lt
  clear e e' hk
  go_enter Tryz.func169, Tryz.ntmps169
  go_wp2_with fail
  refine (once_calls F hF b d0 d1 d2 d3 hd hlt _ (HK.out.same ?_)).mono ?_
  · repeat (first | exact Below.refl _ _ | refine Below.drew ?_ | refine Below.alloc ?_ (by first | (simp; done) | (simp; omega)) _)
  rintro e w1 ⟨s0, s1, s2, s3, rfl, hs, hv, hbl⟩
  have HV := Lib.hid hv
  obtain ⟨hc, hf⟩ := bcell hbl
  have hz : w.heap.size + 1 + 1 < w1.heap.size := by have := hbl.size; simp at this; omega
  have HBL := Lib.hid hbl
  clear hv hbl
  go_wp2_with fail
  refine bodyPost_ret (v := .agg #[.int .u64 s0, .int .u64 s1, .int .u64 s2, .int .u64 s3]) (by simp [results, Tryz.results169, go_sem, *]) rfl ?_
  refine ⟨_, _, _, _, rfl, hs, HV.out, ?_⟩
  refine below_set4 (Below.trans ?_ (HBL.out.mono (by simp; omega))) (by omega) _ _ _ _
  repeat (first | exact Below.refl _ _ | refine Below.drew ?_ | refine Below.alloc ?_ (by first | (simp; done) | (simp; omega)) _)

theorem minus_val {A B D M c : Nat} (ha : A < M) (hb : B < M) (e : D + B = A + 115792089237316195423570985008687907853269984665640564039457584007913129639936 * c) (hc : c ≤ 1) (hD : D < 115792089237316195423570985008687907853269984665640564039457584007913129639936) (hM : 2 * M < 115792089237316195423570985008687907853269984665640564039457584007913129639936) :
    (c = 0 → D = (A + M - B) % M) ∧ (c = 1 → ∀ E c', E + 115792089237316195423570985008687907853269984665640564039457584007913129639936 * c' = D + M → c' ≤ 1 → E < 115792089237316195423570985008687907853269984665640564039457584007913129639936 → E = (A + M - B) % M) := by
  refine ⟨fun h => ?_, fun h E c' e' hc' hE => ?_⟩
  · subst h
    rw [show A + M - B = (A - B) + M by omega, Nat.add_mod_right, Nat.mod_eq_of_lt (by omega)]; omega
  · subst h
    have : c' = 0 ∨ c' = 1 := by omega
    rw [Nat.mod_eq_of_lt (by omega)]; omega
set_option maxHeartbeats 1000000 in
theorem minus_calls (F : FC) (hF : F.Ok) (b a0 a1 a2 a3 b0 b1 b2 b3 : Nat) (ha : ok4 a0 a1 a2 a3) (hb : ok4 b0 b1 b2 b3) (la : val4 a0 a1 a2 a3 < F.M) (lb : val4 b0 b1 b2 b3 < F.M) (w : World) (hk : KIs w b F) :
    Calls Tryz.prog 145 #[.pointer (some ⟨b, 0, none⟩), .agg #[.int .u64 a0, .int .u64 a1, .int .u64 a2, .int .u64 a3], .agg #[.int .u64 b0, .int .u64 b1, .int .u64 b2, .int .u64 b3]] w (FePost ((val4 a0 a1 a2 a3 + F.M - val4 b0 b1 b2 b3) % F.M) w) := by
  obtain ⟨d0, c0, d1, c1, d2, c2, d3, c3, r0, r1, r2, r3, hd, hc, e⟩ := ex_sub4 ha hb
  have hv := minus_val la lb e.out hc (val4_lt hd) hF.two
  have hL := hk.lt
  have hL1 : b < w.heap.size + 1 := by omega
  have hL2 : b < w.heap.size + 1 + 1 := by omega
  have k0 := hk.k0; have k1 := hk.k1; have k2 := hk.k2; have k3 := hk.k3
  have HM := Lib.hid (show F.M = val4 F.m0 F.m1 F.m2 F.m3 from rfl)
  clear la lb e hk
  have hc' : c3 = 0 ∨ c3 = 1 := by omega
  rcases hc' with rfl | rfl
  · have HV := Lib.hid (hv.1 rfl)
    clear hv hF
    go_enter Tryz.func145, Tryz.ntmps145
    go_wp2_with fail
    refine bodyPost_ret (v := .agg #[.int .u64 d0, .int .u64 d1, .int .u64 d2, .int .u64 d3]) (by simp [results, Tryz.results145, go_sem]) rfl ?_
    refine ⟨_, _, _, _, rfl, hd, HV.out, ?_⟩
    repeat (first | exact Below.refl _ _ | refine Below.drew ?_ | refine Below.alloc ?_ (by first | (simp; done) | (simp; omega)) _ | refine Below.setCell ?_ (by simp) _)
  · obtain ⟨n0, g0, n1, g1, n2, g2, n3, g3, q0, q1, q2, q3, hn, hg, f⟩ := ex_add4 hd hF.okm
    have HV := Lib.hid (hv.2 rfl _ _ (by rw [HM.out]; exact f.out) hg (val4_lt hn))
    clear hv f hF
    go_enter Tryz.func145, Tryz.ntmps145
    go_wp2_with fail
    refine bodyPost_ret (v := .agg #[.int .u64 n0, .int .u64 n1, .int .u64 n2, .int .u64 n3]) (by simp [results, Tryz.results145, go_sem]) rfl ?_
    refine ⟨_, _, _, _, rfl, hn, HV.out, ?_⟩
    repeat (first | exact Below.refl _ _ | refine Below.drew ?_ | refine Below.alloc ?_ (by first | (simp; done) | (simp; omega)) _ | refine Below.setCell ?_ (by simp) _)
end Go.Proofs.YtgacpjmggdmgdaaGreat
