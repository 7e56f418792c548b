/-
  The page's examples: the helper of every statement of layer 2 answers true, in any world. Conditions: none.
-/
import Derived.Test.YtalddekocfkbhaaApi4
namespace Go.Proofs.Ytalddekocfkbhaa
set_option linter.unusedVariables false
set_option linter.unusedSimpArgs false
open Go.RowKit

set_option maxRecDepth 100000 in
set_option maxHeartbeats 2000000 in
theorem rmod_some (f : Int) (F : FC) (hf : FieldIs f F) (w : World) : Calls Try.prog 44 #[.int .i64 f] w fun e w' => e = .returned (.agg #[.int .u64 F.m0, .int .u64 F.m1, .int .u64 F.m2, .int .u64 F.m3]) ∧ Below w.heap.size w w' := by
  rcases hf with ⟨rfl, rfl⟩ | ⟨rfl, rfl⟩
  · go_enter Try.func44, Try.ntmps44
    go_wp2_with fail
    refine bodyPost_ret (v := .agg #[.int .u64 FP.m0, .int .u64 FP.m1, .int .u64 FP.m2, .int .u64 FP.m3]) (by simp [results, Try.results44, go_sem, FP]) rfl ?_
    refine ⟨rfl, ?_⟩
    repeat (first | exact Below.refl _ _ | refine Below.drew ?_ | refine Below.alloc ?_ (by first | (simp; done) | (simp; omega)) _ | refine Below.setCell ?_ (by simp) _)
  · go_enter Try.func44, Try.ntmps44
    go_wp2_with fail
    refine bodyPost_ret (v := .agg #[.int .u64 FR.m0, .int .u64 FR.m1, .int .u64 FR.m2, .int .u64 FR.m3]) (by simp [results, Try.results44, go_sem, FR]) rfl ?_
    refine ⟨rfl, ?_⟩
    repeat (first | exact Below.refl _ _ | refine Below.drew ?_ | refine Below.alloc ?_ (by first | (simp; done) | (simp; omega)) _ | refine Below.setCell ?_ (by simp) _)
set_option maxRecDepth 100000 in
set_option maxHeartbeats 2000000 in
theorem rmod_none (f : Int) (h1 : f ≠ 1) (h2 : f ≠ 2) (w : World) : Calls Try.prog 44 #[.int .i64 f] w fun e w' => e = .returned (.agg #[.int .u64 0, .int .u64 0, .int .u64 0, .int .u64 0]) ∧ Below w.heap.size w w' := by
  have t1 : (f == 1) = false := by simp [h1]
  have t2 : (f == 2) = false := by simp [h2]
  go_enter Try.func44, Try.ntmps44
  go_wp2_with fail
  refine bodyPost_ret (v := .agg #[.int .u64 0, .int .u64 0, .int .u64 0, .int .u64 0]) (by simp [results, Try.results44, go_sem]) rfl ?_
  refine ⟨rfl, ?_⟩
  repeat (first | exact Below.refl _ _ | refine Below.drew ?_ | refine Below.alloc ?_ (by first | (simp; done) | (simp; omega)) _ | refine Below.setCell ?_ (by simp) _)
theorem num_calls (c : Int) (w : World) : Calls Try.prog 16 #[.int .i64 c] w fun e w' => e = .returned (.int .i64 c) ∧ w' = w := by
  go_enter Try.func16, Try.ntmps16
  go_wp2_with fail
  go_ret
  exact ⟨rfl, rfl⟩
theorem equalSelfW (x0 x1 x2 x3 : Nat) (w : World) : (Op.equalIn 10000 26 (.agg #[.int .u64 x0, .int .u64 x1, .int .u64 x2, .int .u64 x3]) (.agg #[.int .u64 x0, .int .u64 x1, .int .u64 x2, .int .u64 x3])).run Try.prog w = .ok true w := by
  have h := equalInW 9998 x0 x1 x2 x3 x0 x1 x2 x3 w
  have q : eqW x0 x1 x2 x3 x0 x1 x2 x3 = true := by unfold eqW; simp
  rw [q] at h
  exact h
theorem equalSelfF (x0 x1 x2 x3 : Nat) (w : World) : (Op.equalIn 10000 25 (.agg #[.int .u64 x0, .int .u64 x1, .int .u64 x2, .int .u64 x3]) (.agg #[.int .u64 x0, .int .u64 x1, .int .u64 x2, .int .u64 x3])).run Try.prog w = .ok true w := by
  have h := equalInF 9998 x0 x1 x2 x3 x0 x1 x2 x3 w
  have q : eqW x0 x1 x2 x3 x0 x1 x2 x3 = true := by unfold eqW; simp
  rw [q] at h
  exact h
theorem four_sq : val4 4 0 0 0 ^ (FP.M / 2) % FP.M = 1 := pm_val (n := FP.M) (b := val4 4 0 0 0) (e := FP.M / 2) (v := 1) (by decide) (by kernel_rfl)
theorem five_no : val4 5 0 0 0 ^ (FR.M / 2) % FR.M ≠ 1 := by
  rw [pm_val (n := FR.M) (b := val4 5 0 0 0) (e := FR.M / 2) (v := FR.M - 1) (by decide) (by kernel_rfl)]
  decide
theorem two_root {V : Nat} (h : V * V % FP.M = val4 4 0 0 0) (hV : V < FP.M) (hl : lowB FP.M V = true) : V = 2 := by
  have hr : Root FP.M 3 := by rw [FP_M]; exact root_P
  have h4 : V * V % FP.M = 2 * 2 % FP.M := h.trans (by kernel_rfl)
  have hl' : V ≤ (0 + FP.M - V) % FP.M := of_decide_eq_true hl
  have hM := FP_M
  rcases sq_two hr (by omega) hV (by omega) h4 with q | q
  · exact q
  · rw [show 0 + FP.M - V = 2 by omega, Nat.mod_eq_of_lt (by omega)] at hl'
    omega
theorem fld_P : FieldIs 1 FP := Or.inl ⟨rfl, rfl⟩
theorem fld_R : FieldIs 2 FR := Or.inr ⟨rfl, rfl⟩

set_option maxRecDepth 100000 in
set_option maxHeartbeats 2000000 in
theorem works_calls (w : World) : Calls Try.prog 17 #[] w fun e w' => e = .returned (.bool true) ∧ Below w.heap.size w w' := by
  have hG := eqGuardF
  have hGW := eqGuardW
  have hS := equalSelfW FR.m0 FR.m1 FR.m2 FR.m3
  have HS := Lib.hid hS
  clear hS
  go_enter Try.func17, Try.ntmps17
  go_wp2_with fail
  refine (fmul_ok 2 FR fld_R 7 0 0 0 6 0 0 0 (by unfold ok4; decide) (by unfold ok4; decide) (by decide) (by decide) _).mono ?_
  rintro e w1 ⟨a0, a1, a2, a3, rfl, ha, hv, hbl⟩
  have HA := Lib.hid (show val4 a0 a1 a2 a3 = val4 42 0 0 0 from hv.trans (by kernel_rfl))
  have M := Lib.hid (((Mem.nil w).on hbl).new w1.heap.size a0 a1 a2 a3 25 rfl)
  clear hv hbl
  go_wp2_with fail
  refine (fsqrt_yes_ok 1 FP fld_P 4 0 0 0 (by unfold ok4; decide) (by decide) (by decide) four_sq _).mono ?_
  rintro e w2 ⟨V, ⟨b0, b1, b2, b3, rfl, hb, hv, hbl⟩, hV1, hV2, hV3⟩
  have HBv := Lib.hid (show val4 b0 b1 b2 b3 = val4 2 0 0 0 by rw [hv, two_root hV1 hV2 hV3]; rfl)
  have M' := Lib.hid ((M.out.on hbl).new w2.heap.size b0 b1 b2 b3 25 rfl)
  clear hv hbl hV1 hV2 hV3 M
  have M := M'
  clear M'
  go_wp2_with fail
  refine (finv_of 1 22 0 0 0 0 0 (fun W => fdiv0_ok 1 FP fld_P 1 0 0 0 0 0 0 0 (by unfold ok4; decide) (by unfold ok4; decide) (by decide) (by decide) rfl W) _).mono ?_
  rintro e w3 ⟨c0, c1, c2, c3, rfl, hc, hv, hbl⟩
  have M' := Lib.hid ((M.out.on hbl).new w3.heap.size c0 c1 c2 c3 25 rfl)
  clear hv hbl M
  have M := M'
  clear M'
  go_wp2_with fail
  refine (fsqrt_no_ok 2 FR fld_R 5 0 0 0 (by unfold ok4; decide) (by decide) (by decide) five_no _).mono ?_
  rintro e w4 ⟨d0, d1, d2, d3, rfl, hd, hv, hbl⟩
  have M' := Lib.hid (M.out.on hbl)
  clear hv hbl M
  have M := M'
  clear M'
  have hEa : ∀ w, (Op.equalIn 10000 25 (.agg #[.int .u64 a0, .int .u64 a1, .int .u64 a2, .int .u64 a3]) (.agg #[.int .u64 42, .int .u64 0, .int .u64 0, .int .u64 0])).run Try.prog w = .ok true w := fun w => by
    have h := equalInF 9998 a0 a1 a2 a3 42 0 0 0 w
    rw [(eqW_iff ha (by unfold ok4; decide)).2 HA.out] at h
    exact h
  have hEb : ∀ w, (Op.equalIn 10000 25 (.agg #[.int .u64 b0, .int .u64 b1, .int .u64 b2, .int .u64 b3]) (.agg #[.int .u64 2, .int .u64 0, .int .u64 0, .int .u64 0])).run Try.prog w = .ok true w := fun w => by
    have h := equalInF 9998 b0 b1 b2 b3 2 0 0 0 w
    rw [(eqW_iff hb (by unfold ok4; decide)).2 HBv.out] at h
    exact h
  have kr := M.out.row (b := w1.heap.size) (c0 := a0) (c1 := a1) (c2 := a2) (c3 := a3) (by simp)
  have x0 := kr.c0; have x1 := kr.c1; have x2 := kr.c2; have x3 := kr.c3
  clear kr
  have xl := M.out.lt (b := w1.heap.size) (c0 := a0) (c1 := a1) (c2 := a2) (c3 := a3) (by simp)
  have kr := M.out.row (b := w2.heap.size) (c0 := b0) (c1 := b1) (c2 := b2) (c3 := b3) (by simp)
  have y0 := kr.c0; have y1 := kr.c1; have y2 := kr.c2; have y3 := kr.c3
  clear kr
  have yl := M.out.lt (b := w2.heap.size) (c0 := b0) (c1 := b1) (c2 := b2) (c3 := b3) (by simp)
  go_wp2_with fail
  refine (num_calls _ _).mono ?_
  rintro e w' ⟨rfl, rfl⟩
  go_wp2_with fail
  refine (num_calls _ _).mono ?_
  rintro e w' ⟨rfl, rfl⟩
  go_wp2_with fail
  refine (num_calls _ _).mono ?_
  rintro e w' ⟨rfl, rfl⟩
  go_wp2_with fail
  refine (num_calls _ _).mono ?_
  rintro e w' ⟨rfl, rfl⟩
  go_wp2_with fail
  refine (fmodulus_some 2 FR fld_R _).mono ?_
  rintro e w5 ⟨rfl, hbl⟩
  have M' := Lib.hid ((M.out.new w4.heap.size d0 d1 d2 d3 25 rfl).on hbl)
  clear hbl M
  have M := M'
  clear M' hEa hEb x0 x1 x2 x3 xl y0 y1 y2 y3 yl
  go_wp2_with fail
  refine (rmod_some 2 FR fld_R _).mono ?_
  rintro e w6 ⟨rfl, hbl⟩
  have M' := Lib.hid (M.out.on hbl)
  have hS := HS.out
  clear hbl M
  go_wp2_with fail
  go_ret
  exact ⟨rfl, M'.out.1⟩
end Go.Proofs.Ytalddekocfkbhaa
