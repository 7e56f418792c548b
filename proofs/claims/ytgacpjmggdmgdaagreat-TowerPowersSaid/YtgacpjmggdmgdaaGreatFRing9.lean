/-
  The page's examples: the helper of every statement of layer 2 answers true, in any world. Conditions: none.
  THE STATEMENT FieldRing: for either field and any three elements, or none: sums and products commute and associate, products go over sums, negatives and inverses undo: the law answers true. Conditions: words below 2^64.
-/
import Derived.Test.YtgacpjmggdmgdaaGreatApi4
namespace Go.Proofs.YtgacpjmggdmgdaaGreat
set_option linter.unusedVariables false
set_option linter.unusedSimpArgs false
open Go.RowKit

set_option maxRecDepth 100000 in
set_option maxHeartbeats 2000000 in
theorem rmod_some (f : Int) (F : FC) (hf : FieldIs f F) (w : World) : Calls Tryz.prog 86 #[.int .i64 f] w fun e w' => e = .returned (.agg #[.int .u64 F.m0, .int .u64 F.m1, .int .u64 F.m2, .int .u64 F.m3]) ∧ Below w.heap.size w w' := by
  rcases hf with ⟨rfl, rfl⟩ | ⟨rfl, rfl⟩
  · go_enter Tryz.func86, Tryz.ntmps86
    go_wp2_with fail
    refine bodyPost_ret (v := .agg #[.int .u64 FP.m0, .int .u64 FP.m1, .int .u64 FP.m2, .int .u64 FP.m3]) (by simp [results, Tryz.results86, go_sem, FP]) rfl ?_
    refine ⟨rfl, ?_⟩
    repeat (first | exact Below.refl _ _ | refine Below.drew ?_ | refine Below.alloc ?_ (by first | (simp; done) | (simp; omega)) _ | refine Below.setCell ?_ (by simp) _)
  · go_enter Tryz.func86, Tryz.ntmps86
    go_wp2_with fail
    refine bodyPost_ret (v := .agg #[.int .u64 FR.m0, .int .u64 FR.m1, .int .u64 FR.m2, .int .u64 FR.m3]) (by simp [results, Tryz.results86, go_sem, FR]) rfl ?_
    refine ⟨rfl, ?_⟩
    repeat (first | exact Below.refl _ _ | refine Below.drew ?_ | refine Below.alloc ?_ (by first | (simp; done) | (simp; omega)) _ | refine Below.setCell ?_ (by simp) _)
set_option maxRecDepth 100000 in
set_option maxHeartbeats 2000000 in
theorem rmod_none (f : Int) (h1 : f ≠ 1) (h2 : f ≠ 2) (w : World) : Calls Tryz.prog 86 #[.int .i64 f] w fun e w' => e = .returned (.agg #[.int .u64 0, .int .u64 0, .int .u64 0, .int .u64 0]) ∧ Below w.heap.size w w' := by
  have t1 : (f == 1) = false := by simp [h1]
  have t2 : (f == 2) = false := by simp [h2]
  go_enter Tryz.func86, Tryz.ntmps86
  go_wp2_with fail
  refine bodyPost_ret (v := .agg #[.int .u64 0, .int .u64 0, .int .u64 0, .int .u64 0]) (by simp [results, Tryz.results86, go_sem]) rfl ?_
  refine ⟨rfl, ?_⟩
  repeat (first | exact Below.refl _ _ | refine Below.drew ?_ | refine Below.alloc ?_ (by first | (simp; done) | (simp; omega)) _ | refine Below.setCell ?_ (by simp) _)
theorem equalSelfW (x0 x1 x2 x3 : Nat) (w : World) : (Op.equalIn 10000 50 (.agg #[.int .u64 x0, .int .u64 x1, .int .u64 x2, .int .u64 x3]) (.agg #[.int .u64 x0, .int .u64 x1, .int .u64 x2, .int .u64 x3])).run Tryz.prog w = .ok true w := by
  have h := equalInW 9998 x0 x1 x2 x3 x0 x1 x2 x3 w
  have q : eqW x0 x1 x2 x3 x0 x1 x2 x3 = true := by unfold eqW; simp
  rw [q] at h
  exact h
theorem equalSelfF (x0 x1 x2 x3 : Nat) (w : World) : (Op.equalIn 10000 24 (.agg #[.int .u64 x0, .int .u64 x1, .int .u64 x2, .int .u64 x3]) (.agg #[.int .u64 x0, .int .u64 x1, .int .u64 x2, .int .u64 x3])).run Tryz.prog w = .ok true w := by
  have h := equalInF 9998 x0 x1 x2 x3 x0 x1 x2 x3 w
  have q : eqW x0 x1 x2 x3 x0 x1 x2 x3 = true := by unfold eqW; simp
  rw [q] at h
  exact h
theorem four_sq : val4 4 0 0 0 ^ (FP.M / 2) % FP.M = 1 := pm_val (n := FP.M) (b := val4 4 0 0 0) (e := FP.M / 2) (v := 1) (by decide) (by kernel_rfl)
theorem five_no : val4 5 0 0 0 ^ (FR.M / 2) % FR.M ≠ 1 := by
  rw [pm_val (n := FR.M) (b := val4 5 0 0 0) (e := FR.M / 2) (v := FR.M - 1) (by decide) (by kernel_rfl)]
  decide
theorem two_root {V : Nat} (h : V * V % FP.M = val4 4 0 0 0) (hV : V < FP.M) (hl : lowB FP.M V = true) : V = 2 := by
  have hr : Root FP.M 3 := by rw [FP_M]; exact root_P
  have h4 : V * V % FP.M = 2 * 2 % FP.M := h.trans (by kernel_rfl)
  have hl' : V ≤ (0 + FP.M - V) % FP.M := of_decide_eq_true hl
  have hM := FP_M
  rcases sq_two hr (by omega) hV (by omega) h4 with q | q
  · exact q
  · rw [show 0 + FP.M - V = 2 by omega, Nat.mod_eq_of_lt (by omega)] at hl'
    omega
theorem fld_P : FieldIs 1 FP := Or.inl ⟨rfl, rfl⟩
theorem fld_R : FieldIs 2 FR := Or.inr ⟨rfl, rfl⟩

end Go.Proofs.YtgacpjmggdmgdaaGreat
namespace Go.Proofs.YtgacpjmggdmgdaaGreat
set_option linter.unusedVariables false
set_option linter.unusedSimpArgs false
open Go.RowKit

section
variable {M g : Nat}
theorem fr_assoc (A B C : Nat) : ((A + B) % M + C) % M = (A + (B + C) % M) % M := by rw [Nat.mod_add_mod, Nat.add_mod_mod, Nat.add_assoc]
theorem fr_massoc (A B C : Nat) : A * B % M * C % M = A * (B * C % M) % M := by rw [mul_mod_l, mul_mod_r, Nat.mul_assoc]
theorem fr_over (A B C : Nat) : (A * B % M + A * C % M) % M = A * ((B + C) % M) % M := by rw [mul_mod_r, Nat.mul_add, ← Nat.add_mod]
theorem fr_neg {A : Nat} (h : A < M) : (A + (0 + M - A) % M) % M = 0 := by
  rw [Nat.add_mod_mod, show A + (0 + M - A) = M by omega, Nat.mod_self]
theorem fr_back {A B : Nat} (hA : A < M) (hB : B < M) : ((A + B) % M + M - B) % M = A := by
  have h : (A + B) % M = A + B ∨ (A + B) % M + M = A + B := by
    rcases Nat.lt_or_ge (A + B) M with q | q
    · exact Or.inl (Nat.mod_eq_of_lt q)
    · right; rw [Nat.mod_eq_sub_mod q, Nat.mod_eq_of_lt (by omega)]; omega
  rcases h with h | h
  · rw [h, show A + B + M - B = A + M by omega, Nat.add_mod_right, Nat.mod_eq_of_lt hA]
  · rw [show (A + B) % M + M - B = A by omega, Nat.mod_eq_of_lt hA]
theorem fr_inv (hr : Root M g) (h2 : 2 ≤ M) {A : Nat} (h0 : A ≠ 0) (h : A < M) : A * (1 * (A ^ (M - 2)) % M) % M = 1 := by
  rw [Nat.one_mul]; exact inv_mul hr h2 (by omega) h
theorem fr_div (hr : Root M g) (h2 : 2 ≤ M) {A B : Nat} (h0 : A ≠ 0) (h : A < M) (hB : B < M) : A * B % M * (A ^ (M - 2)) % M = B := by
  have e : A * B % M * (A ^ (M - 2)) % M = B * (A * (A ^ (M - 2) % M) % M) % M := by
    rw [mul_mod_l, mul_mod_r, ← Nat.mul_assoc, mul_mod_r, Nat.mul_comm A B]
  rw [e, inv_mul hr h2 (by omega) h, Nat.mul_one, Nat.mod_eq_of_lt hB]
end
theorem val4_fix {s0 s1 s2 s3 t0 t1 t2 t3 : Nat} (hs : ok4 s0 s1 s2 s3) (ht : ok4 t0 t1 t2 t3) (h : val4 s0 s1 s2 s3 = val4 t0 t1 t2 t3) : s0 = t0 ∧ s1 = t1 ∧ s2 = t2 ∧ s3 = t3 := val4_inj hs ht h
theorem eqF_lit {s0 s1 s2 s3 t0 t1 t2 t3 : Nat} (hs : ok4 s0 s1 s2 s3) (ht : ok4 t0 t1 t2 t3) (h : val4 s0 s1 s2 s3 = val4 t0 t1 t2 t3) (w : World) : (Op.equalIn 10000 24 (.agg #[.int .u64 s0, .int .u64 s1, .int .u64 s2, .int .u64 s3]) (.agg #[.int .u64 t0, .int .u64 t1, .int .u64 t2, .int .u64 t3])).run Tryz.prog w = .ok true w := by
  have h' := equalInF 9998 s0 s1 s2 s3 t0 t1 t2 t3 w
  rw [(eqW_iff hs ht).2 h] at h'
  exact h'
theorem eqF_no {s0 s1 s2 s3 t0 t1 t2 t3 : Nat} (hs : ok4 s0 s1 s2 s3) (ht : ok4 t0 t1 t2 t3) (h : val4 s0 s1 s2 s3 ≠ val4 t0 t1 t2 t3) (w : World) : (Op.equalIn 10000 24 (.agg #[.int .u64 s0, .int .u64 s1, .int .u64 s2, .int .u64 s3]) (.agg #[.int .u64 t0, .int .u64 t1, .int .u64 t2, .int .u64 t3])).run Tryz.prog w = .ok false w := by
  have h' := equalInF 9998 s0 s1 s2 s3 t0 t1 t2 t3 w
  rw [eqW_false (fun q => h ((eqW_iff hs ht).1 q))] at h'
  exact h'
theorem eqF_zero {s0 s1 s2 s3 : Nat} (hs : ok4 s0 s1 s2 s3) (h : val4 s0 s1 s2 s3 = 0) (w : World) : (Op.equalIn 10000 24 (.agg #[.int .u64 s0, .int .u64 s1, .int .u64 s2, .int .u64 s3]) (.agg #[.int .u64 0, .int .u64 0, .int .u64 0, .int .u64 0])).run Tryz.prog w = .ok true w := eqF_lit hs zok (h.trans rfl) w
theorem eqF_nz {s0 s1 s2 s3 : Nat} (hs : ok4 s0 s1 s2 s3) (h : val4 s0 s1 s2 s3 ≠ 0) (w : World) : (Op.equalIn 10000 24 (.agg #[.int .u64 s0, .int .u64 s1, .int .u64 s2, .int .u64 s3]) (.agg #[.int .u64 0, .int .u64 0, .int .u64 0, .int .u64 0])).run Tryz.prog w = .ok false w := eqF_no hs zok (fun q => h (q.trans rfl)) w
theorem eqF_one {s0 s1 s2 s3 : Nat} (hs : ok4 s0 s1 s2 s3) (h : val4 s0 s1 s2 s3 = 1) (w : World) : (Op.equalIn 10000 24 (.agg #[.int .u64 s0, .int .u64 s1, .int .u64 s2, .int .u64 s3]) (.agg #[.int .u64 1, .int .u64 0, .int .u64 0, .int .u64 0])).run Tryz.prog w = .ok true w := eqF_lit hs (show ok4 1 0 0 0 by unfold ok4; decide) (h.trans rfl) w
theorem eqF_zz (w : World) : (Op.equalIn 10000 24 (.agg #[.int .u64 0, .int .u64 0, .int .u64 0, .int .u64 0]) (.agg #[.int .u64 0, .int .u64 0, .int .u64 0, .int .u64 0])).run Tryz.prog w = .ok true w := eqF_zero zok rfl w
theorem Bad1.ne {f c : Int} {A : Nat} (h : Bad1 f A c) : c ≠ 0 := by rcases h with ⟨_, _, h⟩ | ⟨_, _, _, h⟩ <;> omega
theorem Bad2.ne {f c : Int} {A B : Nat} (h : Bad2 f A B c) : c ≠ 0 := by
  rcases h with h | ⟨_, _, _, _, h⟩
  · exact h.ne
  · omega
theorem FieldIs.uniq {f : Int} {F G : FC} (h : FieldIs f F) (k : FieldIs f G) : F = G := by
  rcases h with ⟨h, rfl⟩ | ⟨h, rfl⟩ <;> rcases k with ⟨k, rfl⟩ | ⟨k, rfl⟩ <;> first | rfl | omega
/-- a sum in any case -/
theorem fadd_any (f : Int) (a0 a1 a2 a3 b0 b1 b2 b3 : Nat) (ha : ok4 a0 a1 a2 a3) (hb : ok4 b0 b1 b2 b3) : ∃ (c : Int) (V : Nat), ∀ w, Calls Tryz.prog 148 #[.int .i64 f, .agg #[.int .u64 a0, .int .u64 a1, .int .u64 a2, .int .u64 a3], .agg #[.int .u64 b0, .int .u64 b1, .int .u64 b2, .int .u64 b3]] w (FeE c V w) := by
  rcases all2 f (val4 a0 a1 a2 a3) (val4 b0 b1 b2 b3) with ⟨F, hf, la, lb⟩ | ⟨c, h⟩
  · exact ⟨0, _, fun w => fadd_ok f F hf _ _ _ _ _ _ _ _ ha hb la lb w⟩
  · exact ⟨c, 0, fun w => (fadd_err f c _ _ _ _ _ _ _ _ ha hb h w).mono fun e w' ⟨he, hbl⟩ => ⟨0, 0, 0, 0, he, zok, rfl, hbl⟩⟩

end Go.Proofs.YtgacpjmggdmgdaaGreat
