/-
  The field's product: of any four words and a number below the modulus, the product divided by 2^256. Conditions: words below 2^64, the second number below the modulus, the constants in a block of memory.
-/
import Derived.Test.YtgacpjmggdmgdaaGreatFe
import Derived.Deep.LoopGhost
namespace Go.Proofs.YtgacpjmggdmgdaaGreat
set_option linter.unusedVariables false
set_option linter.unusedSimpArgs false
open Go.RowKit

/-- one round's numbers -/
theorem ex_round (F : FC) (hF : F.Ok) {x y0 y1 y2 y3 t0 t1 t2 t3 : Nat} {X : Nat → Nat} {k : Nat} (hk : k < 4) (hx : x < 18446744073709551616) (hX : X k = x) (hy : ok4 y0 y1 y2 y3) (hY : val4 y0 y1 y2 y3 < F.M) (ht : ok4 t0 t1 t2 t3) (g : Gath F.M X (val4 y0 y1 y2 y3) k (val4 t0 t1 t2 t3)) :
    ∃ o0 l0 cl c0 z o1 l1 c1 n0 o2 l2 c2 n1 o3 l3 c3 n2 n3 : Nat,
    (∀ w, Calls Tryz.prog 170 #[.int .u64 x, .int .u64 y0, .int .u64 t0, .int .u64 0] w fun e w' => e = .returned (.tuple #[.int .u64 (o0 : Nat), .int .u64 (l0 : Nat)]) ∧ w' = w) ∧
    IntKind.u64.wrap ((l0 : Int) * (F.inv : Int)) = (cl : Int) ∧
    (∀ w, Calls Tryz.prog 170 #[.int .u64 cl, .int .u64 F.m0, .int .u64 l0, .int .u64 0] w fun e w' => e = .returned (.tuple #[.int .u64 (c0 : Nat), .int .u64 (z : Nat)]) ∧ w' = w) ∧
    (∀ w, Calls Tryz.prog 170 #[.int .u64 x, .int .u64 y1, .int .u64 t1, .int .u64 o0] w fun e w' => e = .returned (.tuple #[.int .u64 (o1 : Nat), .int .u64 (l1 : Nat)]) ∧ w' = w) ∧
    (∀ w, Calls Tryz.prog 170 #[.int .u64 cl, .int .u64 F.m1, .int .u64 l1, .int .u64 c0] w fun e w' => e = .returned (.tuple #[.int .u64 (c1 : Nat), .int .u64 (n0 : Nat)]) ∧ w' = w) ∧
    (∀ w, Calls Tryz.prog 170 #[.int .u64 x, .int .u64 y2, .int .u64 t2, .int .u64 o1] w fun e w' => e = .returned (.tuple #[.int .u64 (o2 : Nat), .int .u64 (l2 : Nat)]) ∧ w' = w) ∧
    (∀ w, Calls Tryz.prog 170 #[.int .u64 cl, .int .u64 F.m2, .int .u64 l2, .int .u64 c1] w fun e w' => e = .returned (.tuple #[.int .u64 (c2 : Nat), .int .u64 (n1 : Nat)]) ∧ w' = w) ∧
    (∀ w, Calls Tryz.prog 170 #[.int .u64 x, .int .u64 y3, .int .u64 t3, .int .u64 o2] w fun e w' => e = .returned (.tuple #[.int .u64 (o3 : Nat), .int .u64 (l3 : Nat)]) ∧ w' = w) ∧
    (∀ w, Calls Tryz.prog 170 #[.int .u64 cl, .int .u64 F.m3, .int .u64 l3, .int .u64 c2] w fun e w' => e = .returned (.tuple #[.int .u64 (c3 : Nat), .int .u64 (n2 : Nat)]) ∧ w' = w) ∧
    (o3 : Int) + (c3 : Int) = (n3 : Int) ∧ o3 + c3 < 18446744073709551616 ∧ ok4 n0 n1 n2 n3 ∧ Hid (Gath F.M X (val4 y0 y1 y2 y3) (k + 1) (val4 n0 n1 n2 n3)) := by
  obtain ⟨o0, l0, r0, bo0, bl0, e0⟩ := ex_tp hx hy.1 ht.1 (show 0 < 18446744073709551616 by omega)
  obtain ⟨cl, hcl⟩ : ∃ cl, cl = l0 * F.inv % 18446744073709551616 := ⟨_, rfl⟩
  have bcl : cl < 18446744073709551616 := by omega
  obtain ⟨c0, z, s0, bc0, bz, f0⟩ := ex_tp bcl hF.okm.1 bl0 (show 0 < 18446744073709551616 by omega)
  obtain ⟨o1, l1, r1, bo1, bl1, e1⟩ := ex_tp hx hy.2.1 ht.2.1 bo0
  obtain ⟨c1, n0, s1, bc1, bn0, f1⟩ := ex_tp bcl hF.okm.2.1 bl1 bc0
  obtain ⟨o2, l2, r2, bo2, bl2, e2⟩ := ex_tp hx hy.2.2.1 ht.2.2.1 bo1
  obtain ⟨c2, n1, s2, bc2, bn1, f2⟩ := ex_tp bcl hF.okm.2.2.1 bl2 bc1
  obtain ⟨o3, l3, r3, bo3, bl3, e3⟩ := ex_tp hx hy.2.2.2 ht.2.2.2 bo2
  obtain ⟨c3, n2, s3, bc3, bn2, f3⟩ := ex_tp bcl hF.okm.2.2.2 bl3 bc2
  have hz : z = 0 := by
    have h := clear_zero (l := l0) hF.turn
    rw [← hcl] at h
    have := f0.out
    omega
  subst hz
  have ha := round_arith (e0.out) (f0.out) e1.out f1.out e2.out f2.out e3.out f3.out
  have hg := gath_step (X := X) hk g (by rw [hX]; exact hx) hY bcl (N := val4 n0 n1 n2 (o3 + c3)) (by rw [hX]; exact ha)
  have hn3 : o3 + c3 < 18446744073709551616 := val4_top (B := 0) (Nat.lt_trans hg.1 hF.two)
  refine ⟨o0, l0, cl, c0, 0, o1, l1, c1, n0, o2, l2, c2, n1, o3, l3, c3, n2, o3 + c3, r0, ?_, s0, r1, s1, r2, s2, r3, s3, ?_, hn3, ⟨bn0, bn1, bn2, hn3⟩, Lib.hid hg⟩
  · rw [hcl, ← Int.natCast_mul]; exact wrap_mod64 _
  · exact (Int.natCast_add _ _).symm


theorem index_kept (x0 x1 x2 x3 k : Nat) (hk : k < 4) (w : World) : (Instr.index 135 (.agg #[.int .u64 x0, .int .u64 x1, .int .u64 x2, .int .u64 x3]) (.int .i64 k)).run Tryz.prog w = .ok (.int .u64 (fnOf [x0, x1, x2, x3] k : Nat)) w := by
  have h0 : ∀ w, (Instr.index 135 (.agg #[.int .u64 x0, .int .u64 x1, .int .u64 x2, .int .u64 x3]) (.int .i64 0)).run Tryz.prog w = .ok (.int .u64 x0) w := fun _ => by kernel_rfl
  have h1 : ∀ w, (Instr.index 135 (.agg #[.int .u64 x0, .int .u64 x1, .int .u64 x2, .int .u64 x3]) (.int .i64 1)).run Tryz.prog w = .ok (.int .u64 x1) w := fun _ => by kernel_rfl
  have h2 : ∀ w, (Instr.index 135 (.agg #[.int .u64 x0, .int .u64 x1, .int .u64 x2, .int .u64 x3]) (.int .i64 2)).run Tryz.prog w = .ok (.int .u64 x2) w := fun _ => by kernel_rfl
  have h3 : ∀ w, (Instr.index 135 (.agg #[.int .u64 x0, .int .u64 x1, .int .u64 x2, .int .u64 x3]) (.int .i64 3)).run Tryz.prog w = .ok (.int .u64 x3) w := fun _ => by kernel_rfl
  have : k = 0 ∨ k = 1 ∨ k = 2 ∨ k = 3 := by omega
  rcases this with rfl | rfl | rfl | rfl
  · exact h0 w
  · exact h1 w
  · exact h2 w
  · exact h3 w

set_option maxRecDepth 100000 in
set_option maxHeartbeats 4000000 in
theorem times_calls (F : FC) (hF : F.Ok) (b x0 x1 x2 x3 y0 y1 y2 y3 : Nat) (hx : ok4 x0 x1 x2 x3) (hy : ok4 y0 y1 y2 y3) (hY : val4 y0 y1 y2 y3 < F.M) (w : World) (hk : KIs w b F) :
    Calls Tryz.prog 150 #[.pointer (some ⟨b, 0, none⟩), .agg #[.int .u64 x0, .int .u64 x1, .int .u64 x2, .int .u64 x3], .agg #[.int .u64 y0, .int .u64 y1, .int .u64 y2, .int .u64 y3]] w (FePost (val4 x0 x1 x2 x3 * val4 y0 y1 y2 y3 * F.Ri % F.M) w) := by
  obtain ⟨X, eX⟩ : ∃ X, X = fnOf [x0, x1, x2, x3] := ⟨_, rfl⟩
  have HX := Lib.hid eX
  have hXlt := fnOf4_lt hx
  have HXlt := Lib.hid hXlt
  have HY := Lib.hid hY
  have HF := Lib.hid hF
  have HK := Lib.hid hk
  have HI := Lib.hid (index_kept x0 x1 x2 x3)
  have hL := hk.lt
  have hL1 : b < w.heap.size + 1 := by omega
  have hL2 : b < w.heap.size + 1 + 1 := by omega
  have k0 := hk.k0; have k1 := hk.k1; have k2 := hk.k2; have k3 := hk.k3; have k4 := hk.k4
  have bi := hF.inv
  have HG := Lib.hid (gath_zero (Y := val4 y0 y1 y2 y3) X (show 0 < F.M by have := hF.gt; omega))
  clear eX hXlt hY hF hk
  go_enter Tryz.func150, Tryz.ntmps150
  go_wp2_with fail
  go_loop [8, 9, 10, 11, 23] (fun v0 v1 v2 v3 i => ∃ k t0 t1 t2 t3 : Nat, k ≤ 4 ∧ i = .int .i64 k ∧ v0 = .int .u64 t0 ∧ v1 = .int .u64 t1 ∧ v2 = .int .u64 t2 ∧ v3 = .int .u64 t3 ∧ ok4 t0 t1 t2 t3 ∧ Hid (Gath F.M X (val4 y0 y1 y2 y3) k (val4 t0 t1 t2 t3))) (fun _ _ _ _ i => 4 - (intOf i).toNat)
  case atStart => exact ⟨0, 0, 0, 0, 0, by omega, rfl, rfl, rfl, rfl, rfl, ⟨by omega, by omega, by omega, by omega⟩, HG⟩
  case round =>
    obtain ⟨k, t0, t1, t2, t3, hk, rfl, rfl, rfl, rfl, rfl, ht, g⟩ := hrel
    by_cases hlt : k < 4
    · obtain ⟨x, ex⟩ : ∃ x, x = fnOf [x0, x1, x2, x3] k := ⟨_, rfl⟩
      have hi := HI.out k hlt
      rw [← ex] at hi
      have bx : x < 18446744073709551616 := by rw [ex]; exact HXlt.out k
      obtain ⟨o0, l0, cl, c0, z, o1, l1, c1, n0, o2, l2, c2, n1, o3, l3, c3, n2, n3, r0, q, s0, r1, s1, r2, s2, r3, s3, p, hp, hn, hg⟩ := ex_round F HF.out hlt bx (by rw [ex, HX.out]) hy HY.out ht g.out
      clear ex g
      go_wp2_with (first | (with_reducible refine (r0 _).mono ?_; rintro e w' ⟨rfl, rfl⟩) | (with_reducible refine (s0 _).mono ?_; rintro e w' ⟨rfl, rfl⟩) | (with_reducible refine (r1 _).mono ?_; rintro e w' ⟨rfl, rfl⟩) | (with_reducible refine (s1 _).mono ?_; rintro e w' ⟨rfl, rfl⟩) | (with_reducible refine (r2 _).mono ?_; rintro e w' ⟨rfl, rfl⟩) | (with_reducible refine (s2 _).mono ?_; rintro e w' ⟨rfl, rfl⟩) | (with_reducible refine (r3 _).mono ?_; rintro e w' ⟨rfl, rfl⟩) | (with_reducible refine (s3 _).mono ?_; rintro e w' ⟨rfl, rfl⟩))
      go_round
      case rel => exact ⟨k + 1, n0, n1, n2, n3, by omega, by go_num, rfl, rfl, rfl, rfl, hn, hg⟩
      case measure => simp [intOf]; omega
    · obtain rfl : k = 4 := by omega
      obtain ⟨ge, gv⟩ := gath_end HF.out (x0 := x0) (x1 := x1) (x2 := x2) (x3 := x3) (by rw [HX.out]; rfl) (by rw [HX.out]; rfl) (by rw [HX.out]; rfl) (by rw [HX.out]; rfl) g.out
      have HGV := Lib.hid gv
      clear gv g
      go_wp2_with fail
      refine (once_calls F HF.out b t0 t1 t2 t3 ht ge _ (HK.out.same ?_)).mono ?_
      · repeat (first | exact Below.refl _ _ | refine Below.drew ?_ | refine Below.alloc ?_ (by first | (simp; done) | (simp; omega)) _)
      rintro e w1 ⟨s0, s1, s2, s3, rfl, hs, hv, hbl⟩
      have HV := Lib.hid hv
      obtain ⟨hc, hf⟩ := bcell hbl
      have hz : w.heap.size + 1 + 1 < w1.heap.size := by have := hbl.size; simp at this; omega
      have HBL := Lib.hid hbl
      clear hv hbl
      go_wp2_with fail
      refine bodyPost_ret (v := .agg #[.int .u64 s0, .int .u64 s1, .int .u64 s2, .int .u64 s3]) (by simp [results, Tryz.results150, go_sem, *]) rfl ?_
      refine ⟨_, _, _, _, rfl, hs, HV.out.trans HGV.out, ?_⟩
      refine below_set4 (Below.trans ?_ (HBL.out.mono (by simp; omega))) (by omega) _ _ _ _
      repeat (first | exact Below.refl _ _ | refine Below.drew ?_ | refine Below.alloc ?_ (by first | (simp; done) | (simp; omega)) _)
end Go.Proofs.YtgacpjmggdmgdaaGreat
