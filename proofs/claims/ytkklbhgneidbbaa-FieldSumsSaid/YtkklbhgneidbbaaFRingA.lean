/-
  THE STATEMENT FieldRing: for either field and any three elements, or none: sums and products commute and associate, products go over sums, negatives and inverses undo: the law answers true. Conditions: words below 2^64.
-/
import Derived.Test.YtkklbhgneidbbaaWorks
namespace Go.Proofs.Ytkklbhgneidbbaa
set_option linter.unusedVariables false
set_option linter.unusedSimpArgs false
open Go.RowKit

section
variable {M g : Nat}
theorem fr_assoc (A B C : Nat) : ((A + B) % M + C) % M = (A + (B + C) % M) % M := by rw [Nat.mod_add_mod, Nat.add_mod_mod, Nat.add_assoc]
theorem fr_massoc (A B C : Nat) : A * B % M * C % M = A * (B * C % M) % M := by rw [mul_mod_l, mul_mod_r, Nat.mul_assoc]
theorem fr_over (A B C : Nat) : (A * B % M + A * C % M) % M = A * ((B + C) % M) % M := by rw [mul_mod_r, Nat.mul_add, ← Nat.add_mod]
theorem fr_neg {A : Nat} (h : A < M) : (A + (0 + M - A) % M) % M = 0 := by
  rw [Nat.add_mod_mod, show A + (0 + M - A) = M by omega, Nat.mod_self]
theorem fr_back {A B : Nat} (hA : A < M) (hB : B < M) : ((A + B) % M + M - B) % M = A := by
  have h : (A + B) % M = A + B ∨ (A + B) % M + M = A + B := by
    rcases Nat.lt_or_ge (A + B) M with q | q
    · exact Or.inl (Nat.mod_eq_of_lt q)
    · right; rw [Nat.mod_eq_sub_mod q, Nat.mod_eq_of_lt (by omega)]; omega
  rcases h with h | h
  · rw [h, show A + B + M - B = A + M by omega, Nat.add_mod_right, Nat.mod_eq_of_lt hA]
  · rw [show (A + B) % M + M - B = A by omega, Nat.mod_eq_of_lt hA]
theorem fr_inv (hr : Root M g) (h2 : 2 ≤ M) {A : Nat} (h0 : A ≠ 0) (h : A < M) : A * (1 * (A ^ (M - 2)) % M) % M = 1 := by
  rw [Nat.one_mul]; exact inv_mul hr h2 (by omega) h
theorem fr_div (hr : Root M g) (h2 : 2 ≤ M) {A B : Nat} (h0 : A ≠ 0) (h : A < M) (hB : B < M) : A * B % M * (A ^ (M - 2)) % M = B := by
  have e : A * B % M * (A ^ (M - 2)) % M = B * (A * (A ^ (M - 2) % M) % M) % M := by
    rw [mul_mod_l, mul_mod_r, ← Nat.mul_assoc, mul_mod_r, Nat.mul_comm A B]
  rw [e, inv_mul hr h2 (by omega) h, Nat.mul_one, Nat.mod_eq_of_lt hB]
end
theorem val4_fix {s0 s1 s2 s3 t0 t1 t2 t3 : Nat} (hs : ok4 s0 s1 s2 s3) (ht : ok4 t0 t1 t2 t3) (h : val4 s0 s1 s2 s3 = val4 t0 t1 t2 t3) : s0 = t0 ∧ s1 = t1 ∧ s2 = t2 ∧ s3 = t3 := val4_inj hs ht h
theorem eqF_lit {s0 s1 s2 s3 t0 t1 t2 t3 : Nat} (hs : ok4 s0 s1 s2 s3) (ht : ok4 t0 t1 t2 t3) (h : val4 s0 s1 s2 s3 = val4 t0 t1 t2 t3) (w : World) : (Op.equalIn 10000 25 (.agg #[.int .u64 s0, .int .u64 s1, .int .u64 s2, .int .u64 s3]) (.agg #[.int .u64 t0, .int .u64 t1, .int .u64 t2, .int .u64 t3])).run Try.prog w = .ok true w := by
  have h' := equalInF 9998 s0 s1 s2 s3 t0 t1 t2 t3 w
  rw [(eqW_iff hs ht).2 h] at h'
  exact h'
theorem eqF_no {s0 s1 s2 s3 t0 t1 t2 t3 : Nat} (hs : ok4 s0 s1 s2 s3) (ht : ok4 t0 t1 t2 t3) (h : val4 s0 s1 s2 s3 ≠ val4 t0 t1 t2 t3) (w : World) : (Op.equalIn 10000 25 (.agg #[.int .u64 s0, .int .u64 s1, .int .u64 s2, .int .u64 s3]) (.agg #[.int .u64 t0, .int .u64 t1, .int .u64 t2, .int .u64 t3])).run Try.prog w = .ok false w := by
  have h' := equalInF 9998 s0 s1 s2 s3 t0 t1 t2 t3 w
  rw [eqW_false (fun q => h ((eqW_iff hs ht).1 q))] at h'
  exact h'
theorem eqF_zero {s0 s1 s2 s3 : Nat} (hs : ok4 s0 s1 s2 s3) (h : val4 s0 s1 s2 s3 = 0) (w : World) : (Op.equalIn 10000 25 (.agg #[.int .u64 s0, .int .u64 s1, .int .u64 s2, .int .u64 s3]) (.agg #[.int .u64 0, .int .u64 0, .int .u64 0, .int .u64 0])).run Try.prog w = .ok true w := eqF_lit hs zok (h.trans rfl) w
theorem eqF_nz {s0 s1 s2 s3 : Nat} (hs : ok4 s0 s1 s2 s3) (h : val4 s0 s1 s2 s3 ≠ 0) (w : World) : (Op.equalIn 10000 25 (.agg #[.int .u64 s0, .int .u64 s1, .int .u64 s2, .int .u64 s3]) (.agg #[.int .u64 0, .int .u64 0, .int .u64 0, .int .u64 0])).run Try.prog w = .ok false w := eqF_no hs zok (fun q => h (q.trans rfl)) w
theorem eqF_one {s0 s1 s2 s3 : Nat} (hs : ok4 s0 s1 s2 s3) (h : val4 s0 s1 s2 s3 = 1) (w : World) : (Op.equalIn 10000 25 (.agg #[.int .u64 s0, .int .u64 s1, .int .u64 s2, .int .u64 s3]) (.agg #[.int .u64 1, .int .u64 0, .int .u64 0, .int .u64 0])).run Try.prog w = .ok true w := eqF_lit hs (show ok4 1 0 0 0 by unfold ok4; decide) (h.trans rfl) w
theorem eqF_zz (w : World) : (Op.equalIn 10000 25 (.agg #[.int .u64 0, .int .u64 0, .int .u64 0, .int .u64 0]) (.agg #[.int .u64 0, .int .u64 0, .int .u64 0, .int .u64 0])).run Try.prog w = .ok true w := eqF_zero zok rfl w
theorem Bad1.ne {f c : Int} {A : Nat} (h : Bad1 f A c) : c ≠ 0 := by rcases h with ⟨_, _, h⟩ | ⟨_, _, _, h⟩ <;> omega
theorem Bad2.ne {f c : Int} {A B : Nat} (h : Bad2 f A B c) : c ≠ 0 := by
  rcases h with h | ⟨_, _, _, _, h⟩
  · exact h.ne
  · omega
theorem FieldIs.uniq {f : Int} {F G : FC} (h : FieldIs f F) (k : FieldIs f G) : F = G := by
  rcases h with ⟨h, rfl⟩ | ⟨h, rfl⟩ <;> rcases k with ⟨k, rfl⟩ | ⟨k, rfl⟩ <;> first | rfl | omega
/-- a sum in any case -/
theorem fadd_any (f : Int) (a0 a1 a2 a3 b0 b1 b2 b3 : Nat) (ha : ok4 a0 a1 a2 a3) (hb : ok4 b0 b1 b2 b3) : ∃ (c : Int) (V : Nat), ∀ w, Calls Try.prog 13 #[.int .i64 f, .agg #[.int .u64 a0, .int .u64 a1, .int .u64 a2, .int .u64 a3], .agg #[.int .u64 b0, .int .u64 b1, .int .u64 b2, .int .u64 b3]] w (FeE c V w) := by
  rcases all2 f (val4 a0 a1 a2 a3) (val4 b0 b1 b2 b3) with ⟨F, hf, la, lb⟩ | ⟨c, h⟩
  · exact ⟨0, _, fun w => fadd_ok f F hf _ _ _ _ _ _ _ _ ha hb la lb w⟩
  · exact ⟨c, 0, fun w => (fadd_err f c _ _ _ _ _ _ _ _ ha hb h w).mono fun e w' ⟨he, hbl⟩ => ⟨0, 0, 0, 0, he, zok, rfl, hbl⟩⟩

set_option maxRecDepth 100000 in
set_option maxHeartbeats 16000000 in
theorem ring_bad1 (f : Int) (a0 a1 a2 a3 b0 b1 b2 b3 c0 c1 c2 c3 : Nat) (ha : ok4 a0 a1 a2 a3) (hb : ok4 b0 b1 b2 b3) (hc : ok4 c0 c1 c2 c3) (c : Int) (h : Bad2 f (val4 a0 a1 a2 a3) (val4 b0 b1 b2 b3) c) (w : World) :
    Calls Try.prog 7 #[.int .i64 f, .agg #[.int .u64 a0, .int .u64 a1, .int .u64 a2, .int .u64 a3], .agg #[.int .u64 b0, .int .u64 b1, .int .u64 b2, .int .u64 b3], .agg #[.int .u64 c0, .int .u64 c1, .int .u64 c2, .int .u64 c3]] w fun e w' => e = .returned (.bool true) ∧ Below w.heap.size w w' := by
  have t0 : (c != 0) = true := by have := h.ne; simp [this]
  obtain ⟨c', V, hadd⟩ := fadd_any f b0 b1 b2 b3 c0 c1 c2 c3 hb hc
  have HADD := Lib.hid hadd
  have HBAD := Lib.hid h
  have hG := eqGuardF
  have hZ := eqF_zz
  clear hadd h
  go_enter Try.func7, Try.ntmps7
  go_wp2_with fail
  have HM := Lib.hid ((((Mem.nil w).new (w.heap.size) a0 a1 a2 a3 25 (by simp)).new (w.heap.size + 1) b0 b1 b2 b3 25 (by simp)).new (w.heap.size + 1 + 1) c0 c1 c2 c3 25 (by simp))
  refine (works_calls _).mono ?_
  rintro e w1 ⟨rfl, hbl⟩
  have MP' := Lib.hid (HM.out.on hbl)
  clear hbl HM
  have MP := MP'
  clear MP'
  have HM := MP
  have kr := MP.out.row (b := w.heap.size) (c0 := a0) (c1 := a1) (c2 := a2) (c3 := a3) (by simp)
  have Fa0 := kr.c0; have Fa1 := kr.c1; have Fa2 := kr.c2; have Fa3 := kr.c3
  clear kr
  have Fal := MP.out.lt (b := w.heap.size) (c0 := a0) (c1 := a1) (c2 := a2) (c3 := a3) (by simp)
  have kr := MP.out.row (b := w.heap.size + 1) (c0 := b0) (c1 := b1) (c2 := b2) (c3 := b3) (by simp)
  have Fb0 := kr.c0; have Fb1 := kr.c1; have Fb2 := kr.c2; have Fb3 := kr.c3
  clear kr
  have Fbl := MP.out.lt (b := w.heap.size + 1) (c0 := b0) (c1 := b1) (c2 := b2) (c3 := b3) (by simp)
  go_wp2_with fail
  refine (fadd_err f c a0 a1 a2 a3 b0 b1 b2 b3 ha hb HBAD.out _).mono ?_
  rintro e w2 ⟨rfl, hbl⟩
  have MP' := Lib.hid (HM.out.on hbl)
  clear hbl HM MP Fa0 Fa1 Fa2 Fa3 Fal Fb0 Fb1 Fb2 Fb3 Fbl
  have MP := MP'
  clear MP'
  have HM := Lib.hid (MP.out.new w2.heap.size 0 0 0 0 25 rfl)
  have kr := MP.out.row (b := w.heap.size + 1) (c0 := b0) (c1 := b1) (c2 := b2) (c3 := b3) (by simp)
  have Fb0 := kr.c0; have Fb1 := kr.c1; have Fb2 := kr.c2; have Fb3 := kr.c3
  clear kr
  have Fbl := MP.out.lt (b := w.heap.size + 1) (c0 := b0) (c1 := b1) (c2 := b2) (c3 := b3) (by simp)
  have kr := MP.out.row (b := w.heap.size + 1 + 1) (c0 := c0) (c1 := c1) (c2 := c2) (c3 := c3) (by simp)
  have Fc0 := kr.c0; have Fc1 := kr.c1; have Fc2 := kr.c2; have Fc3 := kr.c3
  clear kr
  have Fcl := MP.out.lt (b := w.heap.size + 1 + 1) (c0 := c0) (c1 := c1) (c2 := c2) (c3 := c3) (by simp)
  go_wp2_with fail
  refine (HADD.out _).mono ?_
  rintro e w3 ⟨y0, y1, y2, y3, rfl, hy, hv, hbl⟩
  have MP' := Lib.hid (HM.out.on hbl)
  clear hbl HM MP Fb0 Fb1 Fb2 Fb3 Fbl Fc0 Fc1 Fc2 Fc3 Fcl
  have MP := MP'
  clear MP'
  have HM := Lib.hid (MP.out.new w3.heap.size y0 y1 y2 y3 25 rfl)
  have kr := MP.out.row (b := w2.heap.size) (c0 := 0) (c1 := 0) (c2 := 0) (c3 := 0) (by simp)
  have Fx0 := kr.c0; have Fx1 := kr.c1; have Fx2 := kr.c2; have Fx3 := kr.c3
  clear kr
  have Fxl := MP.out.lt (b := w2.heap.size) (c0 := 0) (c1 := 0) (c2 := 0) (c3 := 0) (by simp)
  go_wp2_with fail
  go_ret
  exact ⟨rfl, HM.out.1⟩
set_option maxRecDepth 100000 in
set_option maxHeartbeats 16000000 in
theorem ring_bad2 (f : Int) (a0 a1 a2 a3 b0 b1 b2 b3 c0 c1 c2 c3 : Nat) (ha : ok4 a0 a1 a2 a3) (hb : ok4 b0 b1 b2 b3) (hc : ok4 c0 c1 c2 c3) (F : FC) (hf : FieldIs f F) (la : val4 a0 a1 a2 a3 < F.M) (lb : val4 b0 b1 b2 b3 < F.M) (c : Int) (h : Bad2 f (val4 b0 b1 b2 b3) (val4 c0 c1 c2 c3) c) (w : World) :
    Calls Try.prog 7 #[.int .i64 f, .agg #[.int .u64 a0, .int .u64 a1, .int .u64 a2, .int .u64 a3], .agg #[.int .u64 b0, .int .u64 b1, .int .u64 b2, .int .u64 b3], .agg #[.int .u64 c0, .int .u64 c1, .int .u64 c2, .int .u64 c3]] w fun e w' => e = .returned (.bool true) ∧ Below w.heap.size w w' := by
  have t0 : (c != 0) = true := by have := h.ne; simp [this]
  have HBAD := Lib.hid h
  have hG := eqGuardF
  clear h
  go_enter Try.func7, Try.ntmps7
  go_wp2_with fail
  have HM := Lib.hid ((((Mem.nil w).new (w.heap.size) a0 a1 a2 a3 25 (by simp)).new (w.heap.size + 1) b0 b1 b2 b3 25 (by simp)).new (w.heap.size + 1 + 1) c0 c1 c2 c3 25 (by simp))
  refine (works_calls _).mono ?_
  rintro e w1 ⟨rfl, hbl⟩
  have MP' := Lib.hid (HM.out.on hbl)
  clear hbl HM
  have MP := MP'
  clear MP'
  have HM := MP
  have kr := MP.out.row (b := w.heap.size) (c0 := a0) (c1 := a1) (c2 := a2) (c3 := a3) (by simp)
  have Fa0 := kr.c0; have Fa1 := kr.c1; have Fa2 := kr.c2; have Fa3 := kr.c3
  clear kr
  have Fal := MP.out.lt (b := w.heap.size) (c0 := a0) (c1 := a1) (c2 := a2) (c3 := a3) (by simp)
  have kr := MP.out.row (b := w.heap.size + 1) (c0 := b0) (c1 := b1) (c2 := b2) (c3 := b3) (by simp)
  have Fb0 := kr.c0; have Fb1 := kr.c1; have Fb2 := kr.c2; have Fb3 := kr.c3
  clear kr
  have Fbl := MP.out.lt (b := w.heap.size + 1) (c0 := b0) (c1 := b1) (c2 := b2) (c3 := b3) (by simp)
  go_wp2_with fail
  refine (fadd_ok f F hf a0 a1 a2 a3 b0 b1 b2 b3 ha hb la lb _).mono ?_
  rintro e w2 ⟨x0, x1, x2, x3, rfl, hx, hv, hbl⟩
  clear hv
  have MP' := Lib.hid (HM.out.on hbl)
  clear hbl HM MP Fa0 Fa1 Fa2 Fa3 Fal Fb0 Fb1 Fb2 Fb3 Fbl
  have MP := MP'
  clear MP'
  have HM := Lib.hid (MP.out.new w2.heap.size x0 x1 x2 x3 25 rfl)
  have kr := MP.out.row (b := w.heap.size + 1) (c0 := b0) (c1 := b1) (c2 := b2) (c3 := b3) (by simp)
  have Fb0 := kr.c0; have Fb1 := kr.c1; have Fb2 := kr.c2; have Fb3 := kr.c3
  clear kr
  have Fbl := MP.out.lt (b := w.heap.size + 1) (c0 := b0) (c1 := b1) (c2 := b2) (c3 := b3) (by simp)
  have kr := MP.out.row (b := w.heap.size + 1 + 1) (c0 := c0) (c1 := c1) (c2 := c2) (c3 := c3) (by simp)
  have Fc0 := kr.c0; have Fc1 := kr.c1; have Fc2 := kr.c2; have Fc3 := kr.c3
  clear kr
  have Fcl := MP.out.lt (b := w.heap.size + 1 + 1) (c0 := c0) (c1 := c1) (c2 := c2) (c3 := c3) (by simp)
  go_wp2_with fail
  refine (fadd_err f c b0 b1 b2 b3 c0 c1 c2 c3 hb hc HBAD.out _).mono ?_
  rintro e w3 ⟨rfl, hbl⟩
  have MP' := Lib.hid (HM.out.on hbl)
  clear hbl HM MP Fb0 Fb1 Fb2 Fb3 Fbl Fc0 Fc1 Fc2 Fc3 Fcl
  have MP := MP'
  clear MP'
  have HM := Lib.hid (MP.out.new w3.heap.size 0 0 0 0 25 rfl)
  have kr := MP.out.row (b := w2.heap.size) (c0 := x0) (c1 := x1) (c2 := x2) (c3 := x3) (by simp)
  have Fx0 := kr.c0; have Fx1 := kr.c1; have Fx2 := kr.c2; have Fx3 := kr.c3
  clear kr
  have Fxl := MP.out.lt (b := w2.heap.size) (c0 := x0) (c1 := x1) (c2 := x2) (c3 := x3) (by simp)
  by_cases q : val4 x0 x1 x2 x3 = 0
  · have hZ := eqF_zero hx q
    clear q
    go_wp2_with fail
    go_ret
    exact ⟨rfl, HM.out.1⟩
  · have hZ := eqF_nz hx q
    clear q
    go_wp2_with fail
    go_ret
    exact ⟨rfl, HM.out.1⟩
end Go.Proofs.Ytkklbhgneidbbaa
