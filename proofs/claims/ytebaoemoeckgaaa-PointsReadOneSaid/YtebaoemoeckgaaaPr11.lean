/-
  The field's product: of any four words and a number below the modulus, the product divided by 2^256. Conditions: words below 2^64, the second number below the modulus, the constants in a block of memory.
  The field's test whether a number is below the modulus, its sum and its difference. Conditions: words below 2^64, the constants in a block of memory; sums and differences of numbers below the modulus.
  The two moduli are primes, with a root each: certificates, checked by the kernel. Conditions: none.
  Plain numbers: what follows where whatever is not 0 is a power of one root: Fermat, opposites, squares and roots. No program in sight. Conditions: none.
  Plain numbers: elements that are kept times 2^256, their products and what they stand for. No program in sight. Conditions: none.
-/
import Derived.Deep.LoopGhost
import Derived.KernelRfl
import Derived.Test.YtebaoemoeckgaaaPr10
import Derived.Test.YtebaoemoeckgaaaPr01
namespace Go.Proofs.Ytebaoemoeckgaaa
set_option linter.unusedVariables false
set_option linter.unusedSimpArgs false
open Go.RowKit

/-- one round's numbers -/
theorem ex_round (F : FC) (hF : F.Ok) {x y0 y1 y2 y3 t0 t1 t2 t3 : Nat} {X : Nat → Nat} {k : Nat} (hk : k < 4) (hx : x < 18446744073709551616) (hX : X k = x) (hy : ok4 y0 y1 y2 y3) (hY : val4 y0 y1 y2 y3 < F.M) (ht : ok4 t0 t1 t2 t3) (g : Gath F.M X (val4 y0 y1 y2 y3) k (val4 t0 t1 t2 t3)) :
    ∃ o0 l0 cl c0 z o1 l1 c1 n0 o2 l2 c2 n1 o3 l3 c3 n2 n3 : Nat,
    (∀ w, Calls Try.prog 109 #[.int .u64 x, .int .u64 y0, .int .u64 t0, .int .u64 0] w fun e w' => e = .returned (.tuple #[.int .u64 (o0 : Nat), .int .u64 (l0 : Nat)]) ∧ w' = w) ∧
    IntKind.u64.wrap ((l0 : Int) * (F.inv : Int)) = (cl : Int) ∧
    (∀ w, Calls Try.prog 109 #[.int .u64 cl, .int .u64 F.m0, .int .u64 l0, .int .u64 0] w fun e w' => e = .returned (.tuple #[.int .u64 (c0 : Nat), .int .u64 (z : Nat)]) ∧ w' = w) ∧
    (∀ w, Calls Try.prog 109 #[.int .u64 x, .int .u64 y1, .int .u64 t1, .int .u64 o0] w fun e w' => e = .returned (.tuple #[.int .u64 (o1 : Nat), .int .u64 (l1 : Nat)]) ∧ w' = w) ∧
    (∀ w, Calls Try.prog 109 #[.int .u64 cl, .int .u64 F.m1, .int .u64 l1, .int .u64 c0] w fun e w' => e = .returned (.tuple #[.int .u64 (c1 : Nat), .int .u64 (n0 : Nat)]) ∧ w' = w) ∧
    (∀ w, Calls Try.prog 109 #[.int .u64 x, .int .u64 y2, .int .u64 t2, .int .u64 o1] w fun e w' => e = .returned (.tuple #[.int .u64 (o2 : Nat), .int .u64 (l2 : Nat)]) ∧ w' = w) ∧
    (∀ w, Calls Try.prog 109 #[.int .u64 cl, .int .u64 F.m2, .int .u64 l2, .int .u64 c1] w fun e w' => e = .returned (.tuple #[.int .u64 (c2 : Nat), .int .u64 (n1 : Nat)]) ∧ w' = w) ∧
    (∀ w, Calls Try.prog 109 #[.int .u64 x, .int .u64 y3, .int .u64 t3, .int .u64 o2] w fun e w' => e = .returned (.tuple #[.int .u64 (o3 : Nat), .int .u64 (l3 : Nat)]) ∧ w' = w) ∧
    (∀ w, Calls Try.prog 109 #[.int .u64 cl, .int .u64 F.m3, .int .u64 l3, .int .u64 c2] w fun e w' => e = .returned (.tuple #[.int .u64 (c3 : Nat), .int .u64 (n2 : Nat)]) ∧ w' = w) ∧
    (o3 : Int) + (c3 : Int) = (n3 : Int) ∧ o3 + c3 < 18446744073709551616 ∧ ok4 n0 n1 n2 n3 ∧ Hid (Gath F.M X (val4 y0 y1 y2 y3) (k + 1) (val4 n0 n1 n2 n3)) := by
  obtain ⟨o0, l0, r0, bo0, bl0, e0⟩ := ex_tp hx hy.1 ht.1 (show 0 < 18446744073709551616 by omega)
  obtain ⟨cl, hcl⟩ : ∃ cl, cl = l0 * F.inv % 18446744073709551616 := ⟨_, rfl⟩
  have bcl : cl < 18446744073709551616 := by omega
  obtain ⟨c0, z, s0, bc0, bz, f0⟩ := ex_tp bcl hF.okm.1 bl0 (show 0 < 18446744073709551616 by omega)
  obtain ⟨o1, l1, r1, bo1, bl1, e1⟩ := ex_tp hx hy.2.1 ht.2.1 bo0
  obtain ⟨c1, n0, s1, bc1, bn0, f1⟩ := ex_tp bcl hF.okm.2.1 bl1 bc0
  obtain ⟨o2, l2, r2, bo2, bl2, e2⟩ := ex_tp hx hy.2.2.1 ht.2.2.1 bo1
  obtain ⟨c2, n1, s2, bc2, bn1, f2⟩ := ex_tp bcl hF.okm.2.2.1 bl2 bc1
  obtain ⟨o3, l3, r3, bo3, bl3, e3⟩ := ex_tp hx hy.2.2.2 ht.2.2.2 bo2
  obtain ⟨c3, n2, s3, bc3, bn2, f3⟩ := ex_tp bcl hF.okm.2.2.2 bl3 bc2
  have hz : z = 0 := by
    have h := clear_zero (l := l0) hF.turn
    rw [← hcl] at h
    have := f0.out
    omega
  subst hz
  have ha := round_arith (e0.out) (f0.out) e1.out f1.out e2.out f2.out e3.out f3.out
  have hg := gath_step (X := X) hk g (by rw [hX]; exact hx) hY bcl (N := val4 n0 n1 n2 (o3 + c3)) (by rw [hX]; exact ha)
  have hn3 : o3 + c3 < 18446744073709551616 := val4_top (B := 0) (Nat.lt_trans hg.1 hF.two)
  refine ⟨o0, l0, cl, c0, 0, o1, l1, c1, n0, o2, l2, c2, n1, o3, l3, c3, n2, o3 + c3, r0, ?_, s0, r1, s1, r2, s2, r3, s3, ?_, hn3, ⟨bn0, bn1, bn2, hn3⟩, Lib.hid hg⟩
  · rw [hcl, ← Int.natCast_mul]; exact wrap_mod64 _
  · exact (Int.natCast_add _ _).symm


theorem index_kept (x0 x1 x2 x3 k : Nat) (hk : k < 4) (w : World) : (Instr.index 113 (.agg #[.int .u64 x0, .int .u64 x1, .int .u64 x2, .int .u64 x3]) (.int .i64 k)).run Try.prog w = .ok (.int .u64 (fnOf [x0, x1, x2, x3] k : Nat)) w := by
  have h0 : ∀ w, (Instr.index 113 (.agg #[.int .u64 x0, .int .u64 x1, .int .u64 x2, .int .u64 x3]) (.int .i64 0)).run Try.prog w = .ok (.int .u64 x0) w := fun _ => by kernel_rfl
  have h1 : ∀ w, (Instr.index 113 (.agg #[.int .u64 x0, .int .u64 x1, .int .u64 x2, .int .u64 x3]) (.int .i64 1)).run Try.prog w = .ok (.int .u64 x1) w := fun _ => by kernel_rfl
  have h2 : ∀ w, (Instr.index 113 (.agg #[.int .u64 x0, .int .u64 x1, .int .u64 x2, .int .u64 x3]) (.int .i64 2)).run Try.prog w = .ok (.int .u64 x2) w := fun _ => by kernel_rfl
  have h3 : ∀ w, (Instr.index 113 (.agg #[.int .u64 x0, .int .u64 x1, .int .u64 x2, .int .u64 x3]) (.int .i64 3)).run Try.prog w = .ok (.int .u64 x3) w := fun _ => by kernel_rfl
  have : k = 0 ∨ k = 1 ∨ k = 2 ∨ k = 3 := by omega
  rcases this with rfl | rfl | rfl | rfl
  · exact h0 w
  · exact h1 w
  · exact h2 w
  · exact h3 w

set_option maxRecDepth 100000 in
set_option maxHeartbeats 4000000 in
theorem times_calls (F : FC) (hF : F.Ok) (b x0 x1 x2 x3 y0 y1 y2 y3 : Nat) (hx : ok4 x0 x1 x2 x3) (hy : ok4 y0 y1 y2 y3) (hY : val4 y0 y1 y2 y3 < F.M) (w : World) (hk : KIs w b F) :
    Calls Try.prog 100 #[.pointer (some ⟨b, 0, none⟩), .agg #[.int .u64 x0, .int .u64 x1, .int .u64 x2, .int .u64 x3], .agg #[.int .u64 y0, .int .u64 y1, .int .u64 y2, .int .u64 y3]] w (FePost (val4 x0 x1 x2 x3 * val4 y0 y1 y2 y3 * F.Ri % F.M) w) := by
  obtain ⟨X, eX⟩ : ∃ X, X = fnOf [x0, x1, x2, x3] := ⟨_, rfl⟩
  have HX := Lib.hid eX
  have hXlt := fnOf4_lt hx
  have HXlt := Lib.hid hXlt
  have HY := Lib.hid hY
  have HF := Lib.hid hF
  have HK := Lib.hid hk
  have HI := Lib.hid (index_kept x0 x1 x2 x3)
  have hL := hk.lt
  have hL1 : b < w.heap.size + 1 := by omega
  have hL2 : b < w.heap.size + 1 + 1 := by omega
  have k0 := hk.k0; have k1 := hk.k1; have k2 := hk.k2; have k3 := hk.k3; have k4 := hk.k4
  have bi := hF.inv
  have HG := Lib.hid (gath_zero (Y := val4 y0 y1 y2 y3) X (show 0 < F.M by have := hF.gt; omega))
  clear eX hXlt hY hF hk
  go_enter Try.func100, Try.ntmps100
  go_wp2_with fail
  go_loop [8, 9, 10, 11, 23] (fun v0 v1 v2 v3 i => ∃ k t0 t1 t2 t3 : Nat, k ≤ 4 ∧ i = .int .i64 k ∧ v0 = .int .u64 t0 ∧ v1 = .int .u64 t1 ∧ v2 = .int .u64 t2 ∧ v3 = .int .u64 t3 ∧ ok4 t0 t1 t2 t3 ∧ Hid (Gath F.M X (val4 y0 y1 y2 y3) k (val4 t0 t1 t2 t3))) (fun _ _ _ _ i => 4 - (intOf i).toNat)
  case atStart => exact ⟨0, 0, 0, 0, 0, by omega, rfl, rfl, rfl, rfl, rfl, ⟨by omega, by omega, by omega, by omega⟩, HG⟩
  case round =>
    obtain ⟨k, t0, t1, t2, t3, hk, rfl, rfl, rfl, rfl, rfl, ht, g⟩ := hrel
    by_cases hlt : k < 4
    · obtain ⟨x, ex⟩ : ∃ x, x = fnOf [x0, x1, x2, x3] k := ⟨_, rfl⟩
      have hi := HI.out k hlt
      rw [← ex] at hi
      have bx : x < 18446744073709551616 := by rw [ex]; exact HXlt.out k
      obtain ⟨o0, l0, cl, c0, z, o1, l1, c1, n0, o2, l2, c2, n1, o3, l3, c3, n2, n3, r0, q, s0, r1, s1, r2, s2, r3, s3, p, hp, hn, hg⟩ := ex_round F HF.out hlt bx (by rw [ex, HX.out]) hy HY.out ht g.out
      clear ex g
      go_wp2_with (first | (with_reducible refine (r0 _).mono ?_; rintro e w' ⟨rfl, rfl⟩) | (with_reducible refine (s0 _).mono ?_; rintro e w' ⟨rfl, rfl⟩) | (with_reducible refine (r1 _).mono ?_; rintro e w' ⟨rfl, rfl⟩) | (with_reducible refine (s1 _).mono ?_; rintro e w' ⟨rfl, rfl⟩) | (with_reducible refine (r2 _).mono ?_; rintro e w' ⟨rfl, rfl⟩) | (with_reducible refine (s2 _).mono ?_; rintro e w' ⟨rfl, rfl⟩) | (with_reducible refine (r3 _).mono ?_; rintro e w' ⟨rfl, rfl⟩) | (with_reducible refine (s3 _).mono ?_; rintro e w' ⟨rfl, rfl⟩))
      go_round
      case rel => exact ⟨k + 1, n0, n1, n2, n3, by omega, by go_num, rfl, rfl, rfl, rfl, hn, hg⟩
      case measure => simp [intOf]; omega
    · obtain rfl : k = 4 := by omega
      obtain ⟨ge, gv⟩ := gath_end HF.out (x0 := x0) (x1 := x1) (x2 := x2) (x3 := x3) (by rw [HX.out]; rfl) (by rw [HX.out]; rfl) (by rw [HX.out]; rfl) (by rw [HX.out]; rfl) g.out
      have HGV := Lib.hid gv
      clear gv g
      go_wp2_with fail
      refine (once_calls F HF.out b t0 t1 t2 t3 ht ge _ (HK.out.same ?_)).mono ?_
      · repeat (first | exact Below.refl _ _ | refine Below.drew ?_ | refine Below.alloc ?_ (by first | (simp; done) | (simp; omega)) _)
      rintro e w1 ⟨s0, s1, s2, s3, rfl, hs, hv, hbl⟩
      have HV := Lib.hid hv
      obtain ⟨hc, hf⟩ := bcell hbl
      have hz : w.heap.size + 1 + 1 < w1.heap.size := by have := hbl.size; simp at this; omega
      have HBL := Lib.hid hbl
      clear hv hbl
      go_wp2_with fail
      refine bodyPost_ret (v := .agg #[.int .u64 s0, .int .u64 s1, .int .u64 s2, .int .u64 s3]) (by simp [results, Try.results100, go_sem, *]) rfl ?_
      refine ⟨_, _, _, _, rfl, hs, HV.out.trans HGV.out, ?_⟩
      refine below_set4 (Below.trans ?_ (HBL.out.mono (by simp; omega))) (by omega) _ _ _ _
      repeat (first | exact Below.refl _ _ | refine Below.drew ?_ | refine Below.alloc ?_ (by first | (simp; done) | (simp; omega)) _)
end Go.Proofs.Ytebaoemoeckgaaa
namespace Go.Proofs.Ytebaoemoeckgaaa
set_option linter.unusedVariables false
set_option linter.unusedSimpArgs false
open Go.RowKit

/-- is the number below the modulus? -/
def isB (V M : Nat) : Bool := decide (V < M)
theorem isB_of {V M c D : Nat} (hD : D < 115792089237316195423570985008687907853269984665640564039457584007913129639936) (hc : c ≤ 1) (e : D + M = V + 115792089237316195423570985008687907853269984665640564039457584007913129639936 * c) (hM : M < 115792089237316195423570985008687907853269984665640564039457584007913129639936) (hV : V < 115792089237316195423570985008687907853269984665640564039457584007913129639936) : ((c : Int) == 1) = isB V M := by
  have : c = 0 ∨ c = 1 := by omega
  unfold isB
  rcases this with rfl | rfl
  · rw [decide_eq_false (by omega)]; rfl
  · rw [decide_eq_true (by omega)]; rfl

theorem ret_bool {a b : Bool} (h : a = b) : Ending.returned (.bool a) = .returned (.bool b) := by rw [h]
set_option maxHeartbeats 1000000 in
theorem has_calls (F : FC) (hF : F.Ok) (b a0 a1 a2 a3 : Nat) (ha : ok4 a0 a1 a2 a3) (w : World) (hk : KIs w b F) :
    Calls Try.prog 79 #[.pointer (some ⟨b, 0, none⟩), .agg #[.int .u64 a0, .int .u64 a1, .int .u64 a2, .int .u64 a3]] w fun e w' => e = .returned (.bool (isB (val4 a0 a1 a2 a3) F.M)) ∧ Below w.heap.size w w' := by
  obtain ⟨d0, c0, d1, c1, d2, c2, d3, c3, r0, r1, r2, r3, hd, hc, e⟩ := ex_sub4 ha hF.okm
  have HB := Lib.hid (isB_of (val4_lt hd) hc e.out (val4_lt hF.okm) (val4_lt ha))
  have hL := hk.lt
  have hL' : b ≠ w.heap.size := by omega
  have k0 := hk.k0; have k1 := hk.k1; have k2 := hk.k2; have k3 := hk.k3
  clear hk hF e
  go_enter Try.func79, Try.ntmps79
  go_wp2_with fail
  go_quiet (fail)
  go_wp2_with fail
  go_quiet (fail)
  go_wp2_with fail
  go_quiet (fail)
  go_wp2_with fail
  go_quiet (fail)
  go_wp2_with fail
  go_ret
  exact ⟨ret_bool HB.out, by repeat (first | exact Below.refl _ _ | refine Below.drew ?_ | exact below_drewN' _ _ _ | refine Below.alloc ?_ (by first | (simp; done) | (simp; omega)) _ | refine Below.trans ?_ (below_drewN' _ _ _))⟩

set_option maxHeartbeats 1000000 in
theorem plus_calls (F : FC) (hF : F.Ok) (b a0 a1 a2 a3 b0 b1 b2 b3 : Nat) (ha : ok4 a0 a1 a2 a3) (hb : ok4 b0 b1 b2 b3) (la : val4 a0 a1 a2 a3 < F.M) (lb : val4 b0 b1 b2 b3 < F.M) (w : World) (hk : KIs w b F) :
    Calls Try.prog 86 #[.pointer (some ⟨b, 0, none⟩), .agg #[.int .u64 a0, .int .u64 a1, .int .u64 a2, .int .u64 a3], .agg #[.int .u64 b0, .int .u64 b1, .int .u64 b2, .int .u64 b3]] w (FePost ((val4 a0 a1 a2 a3 + val4 b0 b1 b2 b3) % F.M) w) := by
  obtain ⟨d0, c0, d1, c1, d2, c2, d3, c3, r0, r1, r2, r3, hd, hc, e⟩ := ex_add4 ha hb
  have e' : val4 d0 d1 d2 d3 = val4 a0 a1 a2 a3 + val4 b0 b1 b2 b3 := by have := e.out; have := hF.two; omega
  rw [← e']
  have hlt : val4 d0 d1 d2 d3 < 2 * F.M := by omega
  have HK := Lib.hid hk
  have hL := hk.lt
  clear e e' hk
  go_enter Try.func86, Try.ntmps86
  go_wp2_with fail
  refine (once_calls F hF b d0 d1 d2 d3 hd hlt _ (HK.out.same ?_)).mono ?_
  · repeat (first | exact Below.refl _ _ | refine Below.drew ?_ | refine Below.alloc ?_ (by first | (simp; done) | (simp; omega)) _)
  rintro e w1 ⟨s0, s1, s2, s3, rfl, hs, hv, hbl⟩
  have HV := Lib.hid hv
  obtain ⟨hc, hf⟩ := bcell hbl
  have hz : w.heap.size + 1 + 1 < w1.heap.size := by have := hbl.size; simp at this; omega
  have HBL := Lib.hid hbl
  clear hv hbl
  go_wp2_with fail
  refine bodyPost_ret (v := .agg #[.int .u64 s0, .int .u64 s1, .int .u64 s2, .int .u64 s3]) (by simp [results, Try.results86, go_sem, *]) rfl ?_
  refine ⟨_, _, _, _, rfl, hs, HV.out, ?_⟩
  refine below_set4 (Below.trans ?_ (HBL.out.mono (by simp; omega))) (by omega) _ _ _ _
  repeat (first | exact Below.refl _ _ | refine Below.drew ?_ | refine Below.alloc ?_ (by first | (simp; done) | (simp; omega)) _)

theorem minus_val {A B D M c : Nat} (ha : A < M) (hb : B < M) (e : D + B = A + 115792089237316195423570985008687907853269984665640564039457584007913129639936 * c) (hc : c ≤ 1) (hD : D < 115792089237316195423570985008687907853269984665640564039457584007913129639936) (hM : 2 * M < 115792089237316195423570985008687907853269984665640564039457584007913129639936) :
    (c = 0 → D = (A + M - B) % M) ∧ (c = 1 → ∀ E c', E + 115792089237316195423570985008687907853269984665640564039457584007913129639936 * c' = D + M → c' ≤ 1 → E < 115792089237316195423570985008687907853269984665640564039457584007913129639936 → E = (A + M - B) % M) := by
  refine ⟨fun h => ?_, fun h E c' e' hc' hE => ?_⟩
  · subst h
    rw [show A + M - B = (A - B) + M by omega, Nat.add_mod_right, Nat.mod_eq_of_lt (by omega)]; omega
  · subst h
    have : c' = 0 ∨ c' = 1 := by omega
    rw [Nat.mod_eq_of_lt (by omega)]; omega
set_option maxHeartbeats 1000000 in
theorem minus_calls (F : FC) (hF : F.Ok) (b a0 a1 a2 a3 b0 b1 b2 b3 : Nat) (ha : ok4 a0 a1 a2 a3) (hb : ok4 b0 b1 b2 b3) (la : val4 a0 a1 a2 a3 < F.M) (lb : val4 b0 b1 b2 b3 < F.M) (w : World) (hk : KIs w b F) :
    Calls Try.prog 89 #[.pointer (some ⟨b, 0, none⟩), .agg #[.int .u64 a0, .int .u64 a1, .int .u64 a2, .int .u64 a3], .agg #[.int .u64 b0, .int .u64 b1, .int .u64 b2, .int .u64 b3]] w (FePost ((val4 a0 a1 a2 a3 + F.M - val4 b0 b1 b2 b3) % F.M) w) := by
  obtain ⟨d0, c0, d1, c1, d2, c2, d3, c3, r0, r1, r2, r3, hd, hc, e⟩ := ex_sub4 ha hb
  have hv := minus_val la lb e.out hc (val4_lt hd) hF.two
  have hL := hk.lt
  have hL1 : b < w.heap.size + 1 := by omega
  have hL2 : b < w.heap.size + 1 + 1 := by omega
  have k0 := hk.k0; have k1 := hk.k1; have k2 := hk.k2; have k3 := hk.k3
  have HM := Lib.hid (show F.M = val4 F.m0 F.m1 F.m2 F.m3 from rfl)
  clear la lb e hk
  have hc' : c3 = 0 ∨ c3 = 1 := by omega
  rcases hc' with rfl | rfl
  · have HV := Lib.hid (hv.1 rfl)
    clear hv hF
    go_enter Try.func89, Try.ntmps89
    go_wp2_with fail
    refine bodyPost_ret (v := .agg #[.int .u64 d0, .int .u64 d1, .int .u64 d2, .int .u64 d3]) (by simp [results, Try.results89, go_sem]) rfl ?_
    refine ⟨_, _, _, _, rfl, hd, HV.out, ?_⟩
    repeat (first | exact Below.refl _ _ | refine Below.drew ?_ | refine Below.alloc ?_ (by first | (simp; done) | (simp; omega)) _ | refine Below.setCell ?_ (by simp) _)
  · obtain ⟨n0, g0, n1, g1, n2, g2, n3, g3, q0, q1, q2, q3, hn, hg, f⟩ := ex_add4 hd hF.okm
    have HV := Lib.hid (hv.2 rfl _ _ (by rw [HM.out]; exact f.out) hg (val4_lt hn))
    clear hv f hF
    go_enter Try.func89, Try.ntmps89
    go_wp2_with fail
    refine bodyPost_ret (v := .agg #[.int .u64 n0, .int .u64 n1, .int .u64 n2, .int .u64 n3]) (by simp [results, Try.results89, go_sem]) rfl ?_
    refine ⟨_, _, _, _, rfl, hn, HV.out, ?_⟩
    repeat (first | exact Below.refl _ _ | refine Below.drew ?_ | refine Below.alloc ?_ (by first | (simp; done) | (simp; omega)) _ | refine Below.setCell ?_ (by simp) _)
end Go.Proofs.Ytebaoemoeckgaaa
namespace Go.Proofs.Ytebaoemoeckgaaa
set_option linter.unusedVariables false
set_option maxRecDepth 100000

theorem prm_2 : Prm 2 := prm_small 2 1 (by decide) (by decide) (by kernel_rfl)
theorem prm_3 : Prm 3 := prm_small 3 1 (by decide) (by decide) (by kernel_rfl)
theorem prm_13 : Prm 13 := prm_small 13 3 (by decide) (by decide) (by kernel_rfl)
theorem prm_29 : Prm 29 := prm_small 29 5 (by decide) (by decide) (by kernel_rfl)
theorem prm_67 : Prm 67 := prm_small 67 8 (by decide) (by decide) (by kernel_rfl)
theorem prm_229 : Prm 229 := prm_small 229 15 (by decide) (by decide) (by kernel_rfl)
theorem prm_311 : Prm 311 := prm_small 311 17 (by decide) (by decide) (by kernel_rfl)
theorem prm_983 : Prm 983 := prm_small 983 31 (by decide) (by decide) (by kernel_rfl)
theorem prm_11003 : Prm 11003 := prm_small 11003 104 (by decide) (by decide) (by kernel_rfl)
theorem prm_11 : Prm 11 := prm_small 11 3 (by decide) (by decide) (by kernel_rfl)
theorem prm_3691 : Prm 3691 := prm_small 3691 60 (by decide) (by decide) (by kernel_rfl)
theorem prm_4999 : Prm 4999 := prm_small 4999 70 (by decide) (by decide) (by kernel_rfl)
theorem root_405928799 : Root 405928799 22 := by
  refine root_cert (l := [2, 11, 3691, 4999]) (by kernel_rfl) fun q hq => ?_
  simp only [List.mem_cons, List.not_mem_nil, or_false] at hq
  rcases hq with rfl | rfl | rfl | rfl
  · exact prm_2
  · exact prm_11
  · exact prm_3691
  · exact prm_4999
theorem prm_405928799 : Prm 405928799 := root_405928799.prm
theorem prm_5 : Prm 5 := prm_small 5 2 (by decide) (by decide) (by kernel_rfl)
theorem prm_7 : Prm 7 := prm_small 7 2 (by decide) (by decide) (by kernel_rfl)
theorem prm_19 : Prm 19 := prm_small 19 4 (by decide) (by decide) (by kernel_rfl)
theorem prm_37 : Prm 37 := prm_small 37 6 (by decide) (by decide) (by kernel_rfl)
theorem prm_233 : Prm 233 := prm_small 233 15 (by decide) (by decide) (by kernel_rfl)
theorem root_327599 : Root 327599 19 := by
  refine root_cert (l := [2, 19, 37, 233]) (by kernel_rfl) fun q hq => ?_
  simp only [List.mem_cons, List.not_mem_nil, or_false] at hq
  rcases hq with rfl | rfl | rfl | rfl
  · exact prm_2
  · exact prm_19
  · exact prm_37
  · exact prm_233
theorem prm_327599 : Prm 327599 := root_327599.prm
theorem root_11465965001 : Root 11465965001 3 := by
  refine root_cert (l := [2, 2, 2, 5, 5, 5, 5, 7, 327599]) (by kernel_rfl) fun q hq => ?_
  simp only [List.mem_cons, List.not_mem_nil, or_false] at hq
  rcases hq with rfl | rfl | rfl | rfl | rfl | rfl | rfl | rfl | rfl
  · exact prm_2
  · exact prm_2
  · exact prm_2
  · exact prm_5
  · exact prm_5
  · exact prm_5
  · exact prm_5
  · exact prm_7
  · exact prm_327599
theorem prm_11465965001 : Prm 11465965001 := root_11465965001.prm
theorem prm_271 : Prm 271 := prm_small 271 16 (by decide) (by decide) (by kernel_rfl)
theorem root_1853641 : Root 1853641 17 := by
  refine root_cert (l := [2, 2, 2, 3, 3, 5, 19, 271]) (by kernel_rfl) fun q hq => ?_
  simp only [List.mem_cons, List.not_mem_nil, or_false] at hq
  rcases hq with rfl | rfl | rfl | rfl | rfl | rfl | rfl | rfl
  · exact prm_2
  · exact prm_2
  · exact prm_2
  · exact prm_3
  · exact prm_3
  · exact prm_5
  · exact prm_19
  · exact prm_271
theorem prm_1853641 : Prm 1853641 := root_1853641.prm
theorem prm_17 : Prm 17 := prm_small 17 4 (by decide) (by decide) (by kernel_rfl)
theorem prm_109 : Prm 109 := prm_small 109 10 (by decide) (by decide) (by kernel_rfl)
theorem prm_1231 : Prm 1231 := prm_small 1231 35 (by decide) (by decide) (by kernel_rfl)
theorem root_4562087 : Root 4562087 5 := by
  refine root_cert (l := [2, 17, 109, 1231]) (by kernel_rfl) fun q hq => ?_
  simp only [List.mem_cons, List.not_mem_nil, or_false] at hq
  rcases hq with rfl | rfl | rfl | rfl
  · exact prm_2
  · exact prm_17
  · exact prm_109
  · exact prm_1231
theorem prm_4562087 : Prm 4562087 := root_4562087.prm
theorem prm_73 : Prm 73 := prm_small 73 8 (by decide) (by decide) (by kernel_rfl)
theorem prm_89 : Prm 89 := prm_small 89 9 (by decide) (by decide) (by kernel_rfl)
theorem prm_13327 : Prm 13327 := prm_small 13327 115 (by decide) (by decide) (by kernel_rfl)
theorem root_173171039 : Root 173171039 13 := by
  refine root_cert (l := [2, 73, 89, 13327]) (by kernel_rfl) fun q hq => ?_
  simp only [List.mem_cons, List.not_mem_nil, or_false] at hq
  rcases hq with rfl | rfl | rfl | rfl
  · exact prm_2
  · exact prm_73
  · exact prm_89
  · exact prm_13327
theorem prm_173171039 : Prm 173171039 := root_173171039.prm
theorem prm_41 : Prm 41 := prm_small 41 6 (by decide) (by decide) (by kernel_rfl)
theorem prm_911 : Prm 911 := prm_small 911 30 (by decide) (by decide) (by kernel_rfl)
theorem prm_3557 : Prm 3557 := prm_small 3557 59 (by decide) (by decide) (by kernel_rfl)
theorem root_1263766531 : Root 1263766531 10 := by
  refine root_cert (l := [2, 3, 5, 13, 911, 3557]) (by kernel_rfl) fun q hq => ?_
  simp only [List.mem_cons, List.not_mem_nil, or_false] at hq
  rcases hq with rfl | rfl | rfl | rfl | rfl | rfl
  · exact prm_2
  · exact prm_3
  · exact prm_5
  · exact prm_13
  · exact prm_911
  · exact prm_3557
theorem prm_1263766531 : Prm 1263766531 := root_1263766531.prm
theorem root_35385462869 : Root 35385462869 2 := by
  refine root_cert (l := [2, 2, 7, 1263766531]) (by kernel_rfl) fun q hq => ?_
  simp only [List.mem_cons, List.not_mem_nil, or_false] at hq
  rcases hq with rfl | rfl | rfl | rfl
  · exact prm_2
  · exact prm_2
  · exact prm_7
  · exact prm_1263766531
theorem prm_35385462869 : Prm 35385462869 := root_35385462869.prm
theorem root_2480874801745591 : Root 2480874801745591 6 := by
  refine root_cert (l := [2, 3, 3, 5, 19, 41, 35385462869]) (by kernel_rfl) fun q hq => ?_
  simp only [List.mem_cons, List.not_mem_nil, or_false] at hq
  rcases hq with rfl | rfl | rfl | rfl | rfl | rfl | rfl
  · exact prm_2
  · exact prm_3
  · exact prm_3
  · exact prm_5
  · exact prm_19
  · exact prm_41
  · exact prm_35385462869
theorem prm_2480874801745591 : Prm 2480874801745591 := root_2480874801745591.prm
theorem root_13427688667394608761327070753331941386769 : Root 13427688667394608761327070753331941386769 17 := by
  refine root_cert (l := [2, 2, 2, 2, 3, 7, 11, 1853641, 4562087, 173171039, 2480874801745591]) (by kernel_rfl) fun q hq => ?_
  simp only [List.mem_cons, List.not_mem_nil, or_false] at hq
  rcases hq with rfl | rfl | rfl | rfl | rfl | rfl | rfl | rfl | rfl | rfl | rfl
  · exact prm_2
  · exact prm_2
  · exact prm_2
  · exact prm_2
  · exact prm_3
  · exact prm_7
  · exact prm_11
  · exact prm_1853641
  · exact prm_4562087
  · exact prm_173171039
  · exact prm_2480874801745591
theorem prm_13427688667394608761327070753331941386769 : Prm 13427688667394608761327070753331941386769 := root_13427688667394608761327070753331941386769.prm
theorem root_P : Root 21888242871839275222246405745257275088696311157297823662689037894645226208583 3 := by
  refine root_cert (l := [2, 3, 3, 13, 29, 67, 229, 311, 983, 11003, 405928799, 11465965001, 13427688667394608761327070753331941386769]) (by kernel_rfl) fun q hq => ?_
  simp only [List.mem_cons, List.not_mem_nil, or_false] at hq
  rcases hq with rfl | rfl | rfl | rfl | rfl | rfl | rfl | rfl | rfl | rfl | rfl | rfl | rfl
  · exact prm_2
  · exact prm_3
  · exact prm_3
  · exact prm_13
  · exact prm_29
  · exact prm_67
  · exact prm_229
  · exact prm_311
  · exact prm_983
  · exact prm_11003
  · exact prm_405928799
  · exact prm_11465965001
  · exact prm_13427688667394608761327070753331941386769
theorem prm_449 : Prm 449 := prm_small 449 21 (by decide) (by decide) (by kernel_rfl)
theorem root_237073 : Root 237073 15 := by
  refine root_cert (l := [2, 2, 2, 2, 3, 11, 449]) (by kernel_rfl) fun q hq => ?_
  simp only [List.mem_cons, List.not_mem_nil, or_false] at hq
  rcases hq with rfl | rfl | rfl | rfl | rfl | rfl | rfl
  · exact prm_2
  · exact prm_2
  · exact prm_2
  · exact prm_2
  · exact prm_3
  · exact prm_11
  · exact prm_449
theorem prm_237073 : Prm 237073 := root_237073.prm
theorem prm_107 : Prm 107 := prm_small 107 10 (by decide) (by decide) (by kernel_rfl)
theorem prm_661 : Prm 661 := prm_small 661 25 (by decide) (by decide) (by kernel_rfl)
theorem prm_93001 : Prm 93001 := prm_small 93001 304 (by decide) (by decide) (by kernel_rfl)
theorem root_12048837557 : Root 12048837557 2 := by
  refine root_cert (l := [2, 2, 7, 7, 661, 93001]) (by kernel_rfl) fun q hq => ?_
  simp only [List.mem_cons, List.not_mem_nil, or_false] at hq
  rcases hq with rfl | rfl | rfl | rfl | rfl | rfl
  · exact prm_2
  · exact prm_2
  · exact prm_7
  · exact prm_7
  · exact prm_661
  · exact prm_93001
theorem prm_12048837557 : Prm 12048837557 := root_12048837557.prm
theorem root_5156902474397 : Root 5156902474397 2 := by
  refine root_cert (l := [2, 2, 107, 12048837557]) (by kernel_rfl) fun q hq => ?_
  simp only [List.mem_cons, List.not_mem_nil, or_false] at hq
  rcases hq with rfl | rfl | rfl | rfl
  · exact prm_2
  · exact prm_2
  · exact prm_107
  · exact prm_12048837557
theorem prm_5156902474397 : Prm 5156902474397 := root_5156902474397.prm
theorem root_1670836401704629 : Root 1670836401704629 2 := by
  refine root_cert (l := [2, 2, 3, 3, 3, 3, 5156902474397]) (by kernel_rfl) fun q hq => ?_
  simp only [List.mem_cons, List.not_mem_nil, or_false] at hq
  rcases hq with rfl | rfl | rfl | rfl | rfl | rfl | rfl
  · exact prm_2
  · exact prm_2
  · exact prm_3
  · exact prm_3
  · exact prm_3
  · exact prm_3
  · exact prm_5156902474397
theorem prm_1670836401704629 : Prm 1670836401704629 := root_1670836401704629.prm
theorem prm_823 : Prm 823 := prm_small 823 28 (by decide) (by decide) (by kernel_rfl)
theorem prm_41927 : Prm 41927 := prm_small 41927 204 (by decide) (by decide) (by kernel_rfl)
theorem root_1593227 : Root 1593227 2 := by
  refine root_cert (l := [2, 19, 41927]) (by kernel_rfl) fun q hq => ?_
  simp only [List.mem_cons, List.not_mem_nil, or_false] at hq
  rcases hq with rfl | rfl | rfl
  · exact prm_2
  · exact prm_19
  · exact prm_41927
theorem prm_1593227 : Prm 1593227 := root_1593227.prm
theorem prm_83 : Prm 83 := prm_small 83 9 (by decide) (by decide) (by kernel_rfl)
theorem prm_379 : Prm 379 := prm_small 379 19 (by decide) (by decide) (by kernel_rfl)
theorem prm_1637 : Prm 1637 := prm_small 1637 40 (by decide) (by decide) (by kernel_rfl)
theorem prm_853 : Prm 853 := prm_small 853 29 (by decide) (by decide) (by kernel_rfl)
theorem root_639533339 : Root 639533339 2 := by
  refine root_cert (l := [2, 229, 853, 1637]) (by kernel_rfl) fun q hq => ?_
  simp only [List.mem_cons, List.not_mem_nil, or_false] at hq
  rcases hq with rfl | rfl | rfl | rfl
  · exact prm_2
  · exact prm_229
  · exact prm_853
  · exact prm_1637
theorem prm_639533339 : Prm 639533339 := root_639533339.prm
theorem root_65865678001877903 : Root 65865678001877903 5 := by
  refine root_cert (l := [2, 83, 379, 1637, 639533339]) (by kernel_rfl) fun q hq => ?_
  simp only [List.mem_cons, List.not_mem_nil, or_false] at hq
  rcases hq with rfl | rfl | rfl | rfl | rfl
  · exact prm_2
  · exact prm_83
  · exact prm_379
  · exact prm_1637
  · exact prm_639533339
theorem prm_65865678001877903 : Prm 65865678001877903 := root_65865678001877903.prm
theorem root_13818364434197438864469338081 : Root 13818364434197438864469338081 3 := by
  refine root_cert (l := [2, 2, 2, 2, 2, 5, 823, 1593227, 65865678001877903]) (by kernel_rfl) fun q hq => ?_
  simp only [List.mem_cons, List.not_mem_nil, or_false] at hq
  rcases hq with rfl | rfl | rfl | rfl | rfl | rfl | rfl | rfl | rfl
  · exact prm_2
  · exact prm_2
  · exact prm_2
  · exact prm_2
  · exact prm_2
  · exact prm_5
  · exact prm_823
  · exact prm_1593227
  · exact prm_65865678001877903
theorem prm_13818364434197438864469338081 : Prm 13818364434197438864469338081 := root_13818364434197438864469338081.prm
theorem root_R : Root 21888242871839275222246405745257275088548364400416034343698204186575808495617 5 := by
  refine root_cert (l := [2, 2, 2, 2, 2, 2, 2, 2, 2, 2, 2, 2, 2, 2, 2, 2, 2, 2, 2, 2, 2, 2, 2, 2, 2, 2, 2, 2, 3, 3, 13, 29, 983, 11003, 237073, 405928799, 1670836401704629, 13818364434197438864469338081]) (by kernel_rfl) fun q hq => ?_
  simp only [List.mem_cons, List.not_mem_nil, or_false] at hq
  rcases hq with rfl | rfl | rfl | rfl | rfl | rfl | rfl | rfl | rfl | rfl | rfl | rfl | rfl | rfl | rfl | rfl | rfl | rfl | rfl | rfl | rfl | rfl | rfl | rfl | rfl | rfl | rfl | rfl | rfl | rfl | rfl | rfl | rfl | rfl | rfl | rfl | rfl | rfl
  · exact prm_2
  · exact prm_2
  · exact prm_2
  · exact prm_2
  · exact prm_2
  · exact prm_2
  · exact prm_2
  · exact prm_2
  · exact prm_2
  · exact prm_2
  · exact prm_2
  · exact prm_2
  · exact prm_2
  · exact prm_2
  · exact prm_2
  · exact prm_2
  · exact prm_2
  · exact prm_2
  · exact prm_2
  · exact prm_2
  · exact prm_2
  · exact prm_2
  · exact prm_2
  · exact prm_2
  · exact prm_2
  · exact prm_2
  · exact prm_2
  · exact prm_2
  · exact prm_3
  · exact prm_3
  · exact prm_13
  · exact prm_29
  · exact prm_983
  · exact prm_11003
  · exact prm_237073
  · exact prm_405928799
  · exact prm_1670836401704629
  · exact prm_13818364434197438864469338081
end Go.Proofs.Ytebaoemoeckgaaa
namespace Go.Proofs.Ytebaoemoeckgaaa
set_option linter.unusedVariables false

section
variable {M g : Nat}
theorem pmod_mod (a n : Nat) : (a % M) ^ n % M = a ^ n % M := (Nat.pow_mod a n M).symm
theorem mul_mod_l (a b : Nat) : a % M * b % M = a * b % M := by rw [Nat.mul_mod, Nat.mod_mod, ← Nat.mul_mod]
theorem mul_mod_r (a b : Nat) : a * (b % M) % M = a * b % M := by rw [Nat.mul_mod, Nat.mod_mod, ← Nat.mul_mod]
theorem fermat (hr : Root M g) {a : Nat} (h0 : 0 < a) (h : a < M) : a ^ (M - 1) % M = 1 := by
  obtain ⟨h1, hg, _, hs⟩ := hr
  obtain ⟨k, hk, rfl⟩ := hs a h0 h
  rw [pmod_mod, ← Nat.pow_mul, Nat.mul_comm, pow_mul_one h1 hg]
theorem inv_mul (hr : Root M g) {a : Nat} (h2 : 2 ≤ M) (h0 : 0 < a) (h : a < M) : a * (a ^ (M - 2) % M) % M = 1 := by
  rw [mul_mod_r, ← Nat.pow_succ', show (M - 2).succ = M - 1 by omega, fermat hr h0 h]
theorem cancel_l (hr : Root M g) {a b c : Nat} (h2 : 2 ≤ M) (h0 : 0 < a) (h : a < M) (e : a * b % M = a * c % M) : b % M = c % M := by
  have hi := inv_mul hr h2 h0 h
  have key : ∀ x, a ^ (M - 2) % M * (a * x % M) % M = x % M := fun x => by
    rw [mul_mod_r, ← Nat.mul_assoc, Nat.mul_mod, Nat.mul_comm _ a, hi, Nat.one_mul, Nat.mod_mod]
  rw [← key b, e, key c]
theorem zero_div (hr : Root M g) {a b : Nat} (h2 : 2 ≤ M) (h0 : 0 < a) (h : a < M) (e : a * b % M = 0) : b % M = 0 := by
  have := cancel_l hr (c := 0) h2 h0 h (by rw [e, Nat.mul_zero, Nat.zero_mod])
  rw [this, Nat.zero_mod]
theorem dvd_sub_sq {x y : Nat} (hxy : y ≤ x) (e : x * x % M = y * y % M) : (x - y) * (x + y) % M = 0 := by
  have h : (x - y) * (x + y) = x * x - y * y := by
    obtain ⟨d, rfl⟩ : ∃ d, x = y + d := ⟨x - y, by omega⟩
    rw [show y + d - y = d by omega]
    have : (y + d) * (y + d) = y * y + d * (y + d + y) := by
      simp only [Nat.add_mul, Nat.mul_add, Nat.mul_comm d y]; omega
    omega
  rw [h]
  exact Nat.sub_mod_eq_zero_of_mod_eq e
theorem sq_le (hr : Root M g) {x y : Nat} (h2 : 2 ≤ M) (hx : x < M) (hxy : y ≤ x) (e : x * x % M = y * y % M) : x = y ∨ x + y = M := by
  have hd := dvd_sub_sq hxy e
  by_cases h : x = y
  · exact Or.inl h
  · right
    have := zero_div hr h2 (show 0 < x - y by omega) (by omega) hd
    obtain ⟨k, hk⟩ := Nat.dvd_of_mod_eq_zero this
    have hk1 : k < 2 := by
      rcases Nat.lt_or_ge k 2 with q | q
      · exact q
      · have := Nat.mul_le_mul_left M q; omega
    have : k = 0 ∨ k = 1 := by omega
    rcases this with rfl | rfl <;> omega
theorem sq_two (hr : Root M g) {x y : Nat} (h2 : 2 ≤ M) (hx : x < M) (hy : y < M) (e : x * x % M = y * y % M) : x = y ∨ x + y = M := by
  rcases Nat.le_total y x with h | h
  · exact sq_le hr h2 hx h e
  · rcases sq_le hr h2 hy h e.symm with q | q
    · exact Or.inl q.symm
    · exact Or.inr (by omega)
theorem pm_one (hr : Root M g) {x : Nat} (h2 : 2 ≤ M) (hx : x < M) (e : x * x % M = 1) : x = 1 ∨ x = M - 1 := by
  have := sq_two hr (y := 1) h2 hx (by omega) (by rw [e, Nat.mod_eq_of_lt (by omega)])
  omega
/-- the half's power: 1 or its negative -/
theorem half_pow (hr : Root M g) {a : Nat} (h2 : 2 < M) (ho : M % 2 = 1) (h0 : 0 < a) (h : a < M) : a ^ (M / 2) % M = 1 ∨ a ^ (M / 2) % M = M - 1 := by
  refine pm_one hr (by omega) (Nat.mod_lt _ (by omega)) ?_
  rw [← pow_add_mod, show M / 2 + M / 2 = M - 1 by omega, fermat hr h0 h]
/-- Legendre's sign -/
def legN (M a : Nat) : Int := if a = 0 then 0 else if a ^ (M / 2) % M = 1 then 1 else -1
theorem sq_neg {M : Nat} (h : 2 < M) : (M - 1) * (M - 1) % M = 1 := by
  obtain ⟨k, rfl⟩ : ∃ k, M = k + 1 := ⟨M - 1, by omega⟩
  rw [show k + 1 - 1 = k by omega]
  have : k * k = 1 + (k + 1) * (k - 1) := by
    obtain ⟨j, rfl⟩ : ∃ j, k = j + 1 := ⟨k - 1, by omega⟩
    rw [show j + 1 - 1 = j by omega]
    simp only [Nat.add_mul, Nat.mul_add]; omega
  rw [this, Nat.add_mul_mod_self_left, Nat.mod_eq_of_lt (by omega)]
theorem mul_ne (hr : Root M g) {a b : Nat} (h2 : 2 ≤ M) (ha0 : 0 < a) (ha : a < M) (hb0 : 0 < b) (hb : b < M) : 0 < a * b % M := by
  rcases Nat.eq_zero_or_pos (a * b % M) with h | h
  · have := zero_div hr h2 ha0 ha h
    rw [Nat.mod_eq_of_lt hb] at this; omega
  · exact h
theorem leg_sq (hr : Root M g) {a : Nat} (ho : M % 2 = 1) (h0 : 0 < a) (h : a < M) : (a * a % M) ^ (M / 2) % M = 1 := by
  have h1 := hr.1
  rw [pmod_mod, ← Nat.pow_two, ← Nat.pow_mul, show 2 * (M / 2) = M - 1 by omega, fermat hr h0 h]
end
end Go.Proofs.Ytebaoemoeckgaaa
namespace Go.Proofs.Ytebaoemoeckgaaa
set_option linter.unusedVariables false

/-- an element as it is kept -/
def kp (F : FC) (a : Nat) : Nat := a * F.R % F.M
section
variable {F : FC}
theorem kp_lt (hF : F.Ok) (a : Nat) : kp F a < F.M := Nat.mod_lt _ (by have := hF.gt; omega)
theorem ri_cancel (hF : F.Ok) (x : Nat) : x * F.R * F.Ri % F.M = x % F.M := by
  rw [Nat.mul_assoc, Nat.mul_mod, hF.ri, Nat.mul_one, Nat.mod_mod]
theorem cg_mul {M a b c d : Nat} (h : a % M = b % M) (h' : c % M = d % M) : a * c % M = b * d % M := by rw [Nat.mul_mod, h, h', ← Nat.mul_mod]
theorem cg_mod (M a : Nat) : a % M % M = a % M := Nat.mod_mod _ _
theorem kp_times (hF : F.Ok) (a b : Nat) : kp F a * kp F b * F.Ri % F.M = kp F (a * b % F.M) := by
  have h : kp F a * kp F b * F.Ri % F.M = a * F.R * (b * F.R) * F.Ri % F.M := cg_mul (cg_mul (cg_mod _ _) (cg_mod _ _)) rfl
  have e : a * F.R * (b * F.R) = a * b * F.R * F.R := by rw [Nat.mul_mul_mul_comm, Nat.mul_assoc (a * b)]
  rw [h, e, ri_cancel hF]
  unfold kp
  rw [mul_mod_l]
theorem kp_into (hF : F.Ok) (a : Nat) : a * val4 F.s0 F.s1 F.s2 F.s3 * F.Ri % F.M = kp F a := by
  have h : a * val4 F.s0 F.s1 F.s2 F.s3 * F.Ri % F.M = a * (F.R * F.R) * F.Ri % F.M := by rw [hF.sq]; exact cg_mul (cg_mul rfl (cg_mod _ _)) rfl
  rw [h, ← Nat.mul_assoc, ri_cancel hF]
  rfl
theorem kp_out (hF : F.Ok) (a : Nat) (h : a < F.M) : kp F a * 1 * F.Ri % F.M = a := by
  have h1 : kp F a * 1 * F.Ri % F.M = a * F.R * F.Ri % F.M := by rw [Nat.mul_one]; exact cg_mul (cg_mod _ _) rfl
  rw [h1, ri_cancel hF, Nat.mod_eq_of_lt h]
theorem kp_product (hF : F.Ok) (a b : Nat) : kp F a * b * F.Ri % F.M = a * b % F.M := by
  have h : kp F a * b * F.Ri % F.M = a * F.R * b * F.Ri % F.M := cg_mul (cg_mul (cg_mod _ _) rfl) rfl
  rw [h, Nat.mul_right_comm a, ri_cancel hF]
theorem kp_inj (hF : F.Ok) {a b : Nat} (ha : a < F.M) (hb : b < F.M) (e : kp F a = kp F b) : a = b := by
  rw [← kp_out hF a ha, e, kp_out hF b hb]
theorem kp_mod (F : FC) (a : Nat) : kp F (a % F.M) = kp F a := by unfold kp; rw [mul_mod_l]
/-- a power, by the bits ahead: one more bit -/
theorem kp_pow_step (F : FC) (a n b : Nat) (h : b = 0 ∨ b = 1) : (b = 0 → kp F (a ^ (2 * n + b)) = kp F (a ^ n * a ^ n % F.M)) ∧ (b = 1 → kp F (a ^ (2 * n + b)) = kp F (a ^ n * a ^ n % F.M * a % F.M)) := by
  have e : a ^ (2 * n) = a ^ n * a ^ n := by rw [Nat.two_mul, Nat.pow_add]
  refine ⟨fun h => ?_, fun h => ?_⟩
  · subst h; rw [Nat.add_zero, kp_mod, e]
  · subst h; rw [kp_mod, Nat.pow_succ, e, ← kp_mod F (_ % _ * a), mul_mod_l, kp_mod]
end
end Go.Proofs.Ytebaoemoeckgaaa
