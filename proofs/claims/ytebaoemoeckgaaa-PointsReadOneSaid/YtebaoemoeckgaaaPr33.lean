/-
  The call of the reference's Cmp: for any two numbers of four words, in any world, the order. Conditions: each word below 2^64.
  The calls of Short1 and Long1, and of the reference's: a point that may not be answers nothing and its error; another its bytes. Conditions: none.
  Short1 and Long1, and the reference's: what they answer, by the point's kind. Conditions: none.
-/
import Derived.Test.YtebaoemoeckgaaaPr00
import Derived.Test.YtebaoemoeckgaaaPr19
import Derived.Test.YtebaoemoeckgaaaPr32
namespace Go.Proofs.Ytebaoemoeckgaaa.R1
set_option linter.unusedVariables false
set_option linter.unusedSimpArgs false
open Go.RowKit

set_option maxRecDepth 100000 in
theorem rcmp_l3 (a0 a1 a2 a3 b0 b1 b2 b3 : Nat) (ha : ok4 a0 a1 a2 a3) (hb : ok4 b0 b1 b2 b3) (e3 : a3 < b3) (w : World) :
    Calls Try.prog 51 #[.agg #[.int .u64 a0, .int .u64 a1, .int .u64 a2, .int .u64 a3], .agg #[.int .u64 b0, .int .u64 b1, .int .u64 b2, .int .u64 b3]] w fun e w' => e = .returned (.int .i64 (cmpN (val4 a0 a1 a2 a3) (val4 b0 b1 b2 b3))) ∧ Below w.heap.size w w' := by
  have hfin : cmpN (val4 a0 a1 a2 a3) (val4 b0 b1 b2 b3) = -1 := by
    obtain ⟨p0, p1, p2, p3⟩ := ha; obtain ⟨q0, q1, q2, q3⟩ := hb; unfold cmpN val4
    rw [if_neg (by omega), if_pos (by omega)]
  rw [hfin]
  clear hfin
  have l3 : decide (a3 < b3) = true := decide_eq_true (by omega)
  clear e3
  go_enter Try.func51, Try.ntmps51
  go_wp2_with fail
  refine wp_loop_rounds 5 ?_
  rw [rounds_succ]
  go_wp2_with fail
  go_quiet (fail)
  go_wp2_with fail
  go_ret
  exact ⟨rfl, by repeat (first | exact Below.refl _ _ | refine Below.trans ?_ (below_drewN' _ _ _) | refine Below.drew ?_ | refine Below.alloc ?_ (by first | (simp; done) | (simp; omega)) _)⟩
set_option maxRecDepth 100000 in
theorem rcmp_g3 (a0 a1 a2 a3 b0 b1 b2 b3 : Nat) (ha : ok4 a0 a1 a2 a3) (hb : ok4 b0 b1 b2 b3) (e3 : b3 < a3) (w : World) :
    Calls Try.prog 51 #[.agg #[.int .u64 a0, .int .u64 a1, .int .u64 a2, .int .u64 a3], .agg #[.int .u64 b0, .int .u64 b1, .int .u64 b2, .int .u64 b3]] w fun e w' => e = .returned (.int .i64 (cmpN (val4 a0 a1 a2 a3) (val4 b0 b1 b2 b3))) ∧ Below w.heap.size w w' := by
  have hfin : cmpN (val4 a0 a1 a2 a3) (val4 b0 b1 b2 b3) = 1 := by
    obtain ⟨p0, p1, p2, p3⟩ := ha; obtain ⟨q0, q1, q2, q3⟩ := hb; unfold cmpN val4
    rw [if_neg (by omega), if_neg (by omega)]
  rw [hfin]
  clear hfin
  have l3 : decide (a3 < b3) = false := decide_eq_false (by omega)
  have g3 : decide (b3 < a3) = true := decide_eq_true (by omega)
  clear e3
  go_enter Try.func51, Try.ntmps51
  go_wp2_with fail
  refine wp_loop_rounds 5 ?_
  rw [rounds_succ]
  go_wp2_with fail
  go_quiet (fail)
  go_wp2_with fail
  go_quiet (fail)
  go_wp2_with fail
  go_ret
  exact ⟨rfl, by repeat (first | exact Below.refl _ _ | refine Below.trans ?_ (below_drewN' _ _ _) | refine Below.drew ?_ | refine Below.alloc ?_ (by first | (simp; done) | (simp; omega)) _)⟩
set_option maxRecDepth 100000 in
theorem rcmp_l2 (a0 a1 a2 a3 b0 b1 b2 b3 : Nat) (ha : ok4 a0 a1 a2 a3) (hb : ok4 b0 b1 b2 b3) (e3 : a3 = b3) (e2 : a2 < b2) (w : World) :
    Calls Try.prog 51 #[.agg #[.int .u64 a0, .int .u64 a1, .int .u64 a2, .int .u64 a3], .agg #[.int .u64 b0, .int .u64 b1, .int .u64 b2, .int .u64 b3]] w fun e w' => e = .returned (.int .i64 (cmpN (val4 a0 a1 a2 a3) (val4 b0 b1 b2 b3))) ∧ Below w.heap.size w w' := by
  have hfin : cmpN (val4 a0 a1 a2 a3) (val4 b0 b1 b2 b3) = -1 := by
    obtain ⟨p0, p1, p2, p3⟩ := ha; obtain ⟨q0, q1, q2, q3⟩ := hb; unfold cmpN val4
    rw [if_neg (by omega), if_pos (by omega)]
  rw [hfin]
  clear hfin
  have l3 : decide (a3 < b3) = false := decide_eq_false (by omega)
  have g3 : decide (b3 < a3) = false := decide_eq_false (by omega)
  clear e3
  have l2 : decide (a2 < b2) = true := decide_eq_true (by omega)
  clear e2
  go_enter Try.func51, Try.ntmps51
  go_wp2_with fail
  refine wp_loop_rounds 5 ?_
  rw [rounds_succ]
  go_wp2_with fail
  go_quiet (fail)
  go_wp2_with fail
  go_quiet (fail)
  go_wp2_with fail
  rw [rounds_succ]
  go_wp2_with fail
  go_quiet (fail)
  go_wp2_with fail
  go_ret
  exact ⟨rfl, by repeat (first | exact Below.refl _ _ | refine Below.trans ?_ (below_drewN' _ _ _) | refine Below.drew ?_ | refine Below.alloc ?_ (by first | (simp; done) | (simp; omega)) _)⟩
set_option maxRecDepth 100000 in
theorem rcmp_g2 (a0 a1 a2 a3 b0 b1 b2 b3 : Nat) (ha : ok4 a0 a1 a2 a3) (hb : ok4 b0 b1 b2 b3) (e3 : a3 = b3) (e2 : b2 < a2) (w : World) :
    Calls Try.prog 51 #[.agg #[.int .u64 a0, .int .u64 a1, .int .u64 a2, .int .u64 a3], .agg #[.int .u64 b0, .int .u64 b1, .int .u64 b2, .int .u64 b3]] w fun e w' => e = .returned (.int .i64 (cmpN (val4 a0 a1 a2 a3) (val4 b0 b1 b2 b3))) ∧ Below w.heap.size w w' := by
  have hfin : cmpN (val4 a0 a1 a2 a3) (val4 b0 b1 b2 b3) = 1 := by
    obtain ⟨p0, p1, p2, p3⟩ := ha; obtain ⟨q0, q1, q2, q3⟩ := hb; unfold cmpN val4
    rw [if_neg (by omega), if_neg (by omega)]
  rw [hfin]
  clear hfin
  have l3 : decide (a3 < b3) = false := decide_eq_false (by omega)
  have g3 : decide (b3 < a3) = false := decide_eq_false (by omega)
  clear e3
  have l2 : decide (a2 < b2) = false := decide_eq_false (by omega)
  have g2 : decide (b2 < a2) = true := decide_eq_true (by omega)
  clear e2
  go_enter Try.func51, Try.ntmps51
  go_wp2_with fail
  refine wp_loop_rounds 5 ?_
  rw [rounds_succ]
  go_wp2_with fail
  go_quiet (fail)
  go_wp2_with fail
  go_quiet (fail)
  go_wp2_with fail
  rw [rounds_succ]
  go_wp2_with fail
  go_quiet (fail)
  go_wp2_with fail
  go_quiet (fail)
  go_wp2_with fail
  go_ret
  exact ⟨rfl, by repeat (first | exact Below.refl _ _ | refine Below.trans ?_ (below_drewN' _ _ _) | refine Below.drew ?_ | refine Below.alloc ?_ (by first | (simp; done) | (simp; omega)) _)⟩
set_option maxRecDepth 100000 in
theorem rcmp_l1 (a0 a1 a2 a3 b0 b1 b2 b3 : Nat) (ha : ok4 a0 a1 a2 a3) (hb : ok4 b0 b1 b2 b3) (e3 : a3 = b3) (e2 : a2 = b2) (e1 : a1 < b1) (w : World) :
    Calls Try.prog 51 #[.agg #[.int .u64 a0, .int .u64 a1, .int .u64 a2, .int .u64 a3], .agg #[.int .u64 b0, .int .u64 b1, .int .u64 b2, .int .u64 b3]] w fun e w' => e = .returned (.int .i64 (cmpN (val4 a0 a1 a2 a3) (val4 b0 b1 b2 b3))) ∧ Below w.heap.size w w' := by
  have hfin : cmpN (val4 a0 a1 a2 a3) (val4 b0 b1 b2 b3) = -1 := by
    obtain ⟨p0, p1, p2, p3⟩ := ha; obtain ⟨q0, q1, q2, q3⟩ := hb; unfold cmpN val4
    rw [if_neg (by omega), if_pos (by omega)]
  rw [hfin]
  clear hfin
  have l3 : decide (a3 < b3) = false := decide_eq_false (by omega)
  have g3 : decide (b3 < a3) = false := decide_eq_false (by omega)
  clear e3
  have l2 : decide (a2 < b2) = false := decide_eq_false (by omega)
  have g2 : decide (b2 < a2) = false := decide_eq_false (by omega)
  clear e2
  have l1 : decide (a1 < b1) = true := decide_eq_true (by omega)
  clear e1
  go_enter Try.func51, Try.ntmps51
  go_wp2_with fail
  refine wp_loop_rounds 5 ?_
  rw [rounds_succ]
  go_wp2_with fail
  go_quiet (fail)
  go_wp2_with fail
  go_quiet (fail)
  go_wp2_with fail
  rw [rounds_succ]
  go_wp2_with fail
  go_quiet (fail)
  go_wp2_with fail
  go_quiet (fail)
  go_wp2_with fail
  rw [rounds_succ]
  go_wp2_with fail
  go_quiet (fail)
  go_wp2_with fail
  go_ret
  exact ⟨rfl, by repeat (first | exact Below.refl _ _ | refine Below.trans ?_ (below_drewN' _ _ _) | refine Below.drew ?_ | refine Below.alloc ?_ (by first | (simp; done) | (simp; omega)) _)⟩
set_option maxRecDepth 100000 in
theorem rcmp_g1 (a0 a1 a2 a3 b0 b1 b2 b3 : Nat) (ha : ok4 a0 a1 a2 a3) (hb : ok4 b0 b1 b2 b3) (e3 : a3 = b3) (e2 : a2 = b2) (e1 : b1 < a1) (w : World) :
    Calls Try.prog 51 #[.agg #[.int .u64 a0, .int .u64 a1, .int .u64 a2, .int .u64 a3], .agg #[.int .u64 b0, .int .u64 b1, .int .u64 b2, .int .u64 b3]] w fun e w' => e = .returned (.int .i64 (cmpN (val4 a0 a1 a2 a3) (val4 b0 b1 b2 b3))) ∧ Below w.heap.size w w' := by
  have hfin : cmpN (val4 a0 a1 a2 a3) (val4 b0 b1 b2 b3) = 1 := by
    obtain ⟨p0, p1, p2, p3⟩ := ha; obtain ⟨q0, q1, q2, q3⟩ := hb; unfold cmpN val4
    rw [if_neg (by omega), if_neg (by omega)]
  rw [hfin]
  clear hfin
  have l3 : decide (a3 < b3) = false := decide_eq_false (by omega)
  have g3 : decide (b3 < a3) = false := decide_eq_false (by omega)
  clear e3
  have l2 : decide (a2 < b2) = false := decide_eq_false (by omega)
  have g2 : decide (b2 < a2) = false := decide_eq_false (by omega)
  clear e2
  have l1 : decide (a1 < b1) = false := decide_eq_false (by omega)
  have g1 : decide (b1 < a1) = true := decide_eq_true (by omega)
  clear e1
  go_enter Try.func51, Try.ntmps51
  go_wp2_with fail
  refine wp_loop_rounds 5 ?_
  rw [rounds_succ]
  go_wp2_with fail
  go_quiet (fail)
  go_wp2_with fail
  go_quiet (fail)
  go_wp2_with fail
  rw [rounds_succ]
  go_wp2_with fail
  go_quiet (fail)
  go_wp2_with fail
  go_quiet (fail)
  go_wp2_with fail
  rw [rounds_succ]
  go_wp2_with fail
  go_quiet (fail)
  go_wp2_with fail
  go_quiet (fail)
  go_wp2_with fail
  go_ret
  exact ⟨rfl, by repeat (first | exact Below.refl _ _ | refine Below.trans ?_ (below_drewN' _ _ _) | refine Below.drew ?_ | refine Below.alloc ?_ (by first | (simp; done) | (simp; omega)) _)⟩
set_option maxRecDepth 100000 in
theorem rcmp_l0 (a0 a1 a2 a3 b0 b1 b2 b3 : Nat) (ha : ok4 a0 a1 a2 a3) (hb : ok4 b0 b1 b2 b3) (e3 : a3 = b3) (e2 : a2 = b2) (e1 : a1 = b1) (e0 : a0 < b0) (w : World) :
    Calls Try.prog 51 #[.agg #[.int .u64 a0, .int .u64 a1, .int .u64 a2, .int .u64 a3], .agg #[.int .u64 b0, .int .u64 b1, .int .u64 b2, .int .u64 b3]] w fun e w' => e = .returned (.int .i64 (cmpN (val4 a0 a1 a2 a3) (val4 b0 b1 b2 b3))) ∧ Below w.heap.size w w' := by
  have hfin : cmpN (val4 a0 a1 a2 a3) (val4 b0 b1 b2 b3) = -1 := by
    obtain ⟨p0, p1, p2, p3⟩ := ha; obtain ⟨q0, q1, q2, q3⟩ := hb; unfold cmpN val4
    rw [if_neg (by omega), if_pos (by omega)]
  rw [hfin]
  clear hfin
  have l3 : decide (a3 < b3) = false := decide_eq_false (by omega)
  have g3 : decide (b3 < a3) = false := decide_eq_false (by omega)
  clear e3
  have l2 : decide (a2 < b2) = false := decide_eq_false (by omega)
  have g2 : decide (b2 < a2) = false := decide_eq_false (by omega)
  clear e2
  have l1 : decide (a1 < b1) = false := decide_eq_false (by omega)
  have g1 : decide (b1 < a1) = false := decide_eq_false (by omega)
  clear e1
  have l0 : decide (a0 < b0) = true := decide_eq_true (by omega)
  clear e0
  go_enter Try.func51, Try.ntmps51
  go_wp2_with fail
  refine wp_loop_rounds 5 ?_
  rw [rounds_succ]
  go_wp2_with fail
  go_quiet (fail)
  go_wp2_with fail
  go_quiet (fail)
  go_wp2_with fail
  rw [rounds_succ]
  go_wp2_with fail
  go_quiet (fail)
  go_wp2_with fail
  go_quiet (fail)
  go_wp2_with fail
  rw [rounds_succ]
  go_wp2_with fail
  go_quiet (fail)
  go_wp2_with fail
  go_quiet (fail)
  go_wp2_with fail
  rw [rounds_succ]
  go_wp2_with fail
  go_quiet (fail)
  go_wp2_with fail
  go_ret
  exact ⟨rfl, by repeat (first | exact Below.refl _ _ | refine Below.trans ?_ (below_drewN' _ _ _) | refine Below.drew ?_ | refine Below.alloc ?_ (by first | (simp; done) | (simp; omega)) _)⟩
set_option maxRecDepth 100000 in
theorem rcmp_g0 (a0 a1 a2 a3 b0 b1 b2 b3 : Nat) (ha : ok4 a0 a1 a2 a3) (hb : ok4 b0 b1 b2 b3) (e3 : a3 = b3) (e2 : a2 = b2) (e1 : a1 = b1) (e0 : b0 < a0) (w : World) :
    Calls Try.prog 51 #[.agg #[.int .u64 a0, .int .u64 a1, .int .u64 a2, .int .u64 a3], .agg #[.int .u64 b0, .int .u64 b1, .int .u64 b2, .int .u64 b3]] w fun e w' => e = .returned (.int .i64 (cmpN (val4 a0 a1 a2 a3) (val4 b0 b1 b2 b3))) ∧ Below w.heap.size w w' := by
  have hfin : cmpN (val4 a0 a1 a2 a3) (val4 b0 b1 b2 b3) = 1 := by
    obtain ⟨p0, p1, p2, p3⟩ := ha; obtain ⟨q0, q1, q2, q3⟩ := hb; unfold cmpN val4
    rw [if_neg (by omega), if_neg (by omega)]
  rw [hfin]
  clear hfin
  have l3 : decide (a3 < b3) = false := decide_eq_false (by omega)
  have g3 : decide (b3 < a3) = false := decide_eq_false (by omega)
  clear e3
  have l2 : decide (a2 < b2) = false := decide_eq_false (by omega)
  have g2 : decide (b2 < a2) = false := decide_eq_false (by omega)
  clear e2
  have l1 : decide (a1 < b1) = false := decide_eq_false (by omega)
  have g1 : decide (b1 < a1) = false := decide_eq_false (by omega)
  clear e1
  have l0 : decide (a0 < b0) = false := decide_eq_false (by omega)
  have g0 : decide (b0 < a0) = true := decide_eq_true (by omega)
  clear e0
  go_enter Try.func51, Try.ntmps51
  go_wp2_with fail
  refine wp_loop_rounds 5 ?_
  rw [rounds_succ]
  go_wp2_with fail
  go_quiet (fail)
  go_wp2_with fail
  go_quiet (fail)
  go_wp2_with fail
  rw [rounds_succ]
  go_wp2_with fail
  go_quiet (fail)
  go_wp2_with fail
  go_quiet (fail)
  go_wp2_with fail
  rw [rounds_succ]
  go_wp2_with fail
  go_quiet (fail)
  go_wp2_with fail
  go_quiet (fail)
  go_wp2_with fail
  rw [rounds_succ]
  go_wp2_with fail
  go_quiet (fail)
  go_wp2_with fail
  go_quiet (fail)
  go_wp2_with fail
  go_ret
  exact ⟨rfl, by repeat (first | exact Below.refl _ _ | refine Below.trans ?_ (below_drewN' _ _ _) | refine Below.drew ?_ | refine Below.alloc ?_ (by first | (simp; done) | (simp; omega)) _)⟩
set_option maxRecDepth 100000 in
theorem rcmp_e (a0 a1 a2 a3 b0 b1 b2 b3 : Nat) (ha : ok4 a0 a1 a2 a3) (hb : ok4 b0 b1 b2 b3) (e3 : a3 = b3) (e2 : a2 = b2) (e1 : a1 = b1) (e0 : a0 = b0) (w : World) :
    Calls Try.prog 51 #[.agg #[.int .u64 a0, .int .u64 a1, .int .u64 a2, .int .u64 a3], .agg #[.int .u64 b0, .int .u64 b1, .int .u64 b2, .int .u64 b3]] w fun e w' => e = .returned (.int .i64 (cmpN (val4 a0 a1 a2 a3) (val4 b0 b1 b2 b3))) ∧ Below w.heap.size w w' := by
  have hfin : cmpN (val4 a0 a1 a2 a3) (val4 b0 b1 b2 b3) = 0 := by
    obtain ⟨p0, p1, p2, p3⟩ := ha; obtain ⟨q0, q1, q2, q3⟩ := hb; unfold cmpN val4
    rw [if_pos (by omega)]
  rw [hfin]
  clear hfin
  have l3 : decide (a3 < b3) = false := decide_eq_false (by omega)
  have g3 : decide (b3 < a3) = false := decide_eq_false (by omega)
  clear e3
  have l2 : decide (a2 < b2) = false := decide_eq_false (by omega)
  have g2 : decide (b2 < a2) = false := decide_eq_false (by omega)
  clear e2
  have l1 : decide (a1 < b1) = false := decide_eq_false (by omega)
  have g1 : decide (b1 < a1) = false := decide_eq_false (by omega)
  clear e1
  have l0 : decide (a0 < b0) = false := decide_eq_false (by omega)
  have g0 : decide (b0 < a0) = false := decide_eq_false (by omega)
  clear e0
  go_enter Try.func51, Try.ntmps51
  go_wp2_with fail
  refine wp_loop_rounds 5 ?_
  rw [rounds_succ]
  go_wp2_with fail
  go_quiet (fail)
  go_wp2_with fail
  go_quiet (fail)
  go_wp2_with fail
  rw [rounds_succ]
  go_wp2_with fail
  go_quiet (fail)
  go_wp2_with fail
  go_quiet (fail)
  go_wp2_with fail
  rw [rounds_succ]
  go_wp2_with fail
  go_quiet (fail)
  go_wp2_with fail
  go_quiet (fail)
  go_wp2_with fail
  rw [rounds_succ]
  go_wp2_with fail
  go_quiet (fail)
  go_wp2_with fail
  go_quiet (fail)
  go_wp2_with fail
  rw [rounds_succ]
  go_wp2_with fail
  go_ret
  exact ⟨rfl, by repeat (first | exact Below.refl _ _ | refine Below.trans ?_ (below_drewN' _ _ _) | refine Below.drew ?_ | refine Below.alloc ?_ (by first | (simp; done) | (simp; omega)) _)⟩
theorem refCmp_calls (a0 a1 a2 a3 b0 b1 b2 b3 : Nat) (ha : ok4 a0 a1 a2 a3) (hb : ok4 b0 b1 b2 b3) (w : World) :
    Calls Try.prog 51 #[.agg #[.int .u64 a0, .int .u64 a1, .int .u64 a2, .int .u64 a3], .agg #[.int .u64 b0, .int .u64 b1, .int .u64 b2, .int .u64 b3]] w fun e w' => e = .returned (.int .i64 (cmpN (val4 a0 a1 a2 a3) (val4 b0 b1 b2 b3))) ∧ Below w.heap.size w w' := by
  rcases Nat.lt_trichotomy a3 b3 with e3 | e3 | e3
  · exact rcmp_l3 a0 a1 a2 a3 b0 b1 b2 b3 ha hb e3 w
  · rcases Nat.lt_trichotomy a2 b2 with e2 | e2 | e2
    · exact rcmp_l2 a0 a1 a2 a3 b0 b1 b2 b3 ha hb e3 e2 w
    · rcases Nat.lt_trichotomy a1 b1 with e1 | e1 | e1
      · exact rcmp_l1 a0 a1 a2 a3 b0 b1 b2 b3 ha hb e3 e2 e1 w
      · rcases Nat.lt_trichotomy a0 b0 with e0 | e0 | e0
        · exact rcmp_l0 a0 a1 a2 a3 b0 b1 b2 b3 ha hb e3 e2 e1 e0 w
        · exact rcmp_e a0 a1 a2 a3 b0 b1 b2 b3 ha hb e3 e2 e1 e0 w
        · exact rcmp_g0 a0 a1 a2 a3 b0 b1 b2 b3 ha hb e3 e2 e1 e0 w
      · exact rcmp_g1 a0 a1 a2 a3 b0 b1 b2 b3 ha hb e3 e2 e1 w
    · exact rcmp_g2 a0 a1 a2 a3 b0 b1 b2 b3 ha hb e3 e2 w
  · exact rcmp_g3 a0 a1 a2 a3 b0 b1 b2 b3 ha hb e3 w
end Go.Proofs.Ytebaoemoeckgaaa.R1
namespace Go.Proofs.Ytebaoemoeckgaaa.Ex
set_option linter.unusedVariables false
set_option linter.unusedSimpArgs false
open Go.RowKit

/-- the point's check: k: that it may be -/
noncomputable def gCk (k : Bool) : Ent := g1 rg1 fun p => bif k then ([(ck1 p.1 p.2.1 p.2.2).1 = 0], .one (.im (.int .i64 0))) else ([], .one (.im (.int .i64 (ck1 p.1 p.2.1 p.2.2).1)))
theorem gCk_ok {f : FuncId} (h : ∀ (p : G1N) (args : List Value) (w : World), CAs w [.v (.fl (gq1 p))] args → Good Try.prog f (.one (.im (.int .i64 (ck1 p.1 p.2.1 p.2.2).1))) args w) (k : Bool) :
    ∀ cs pre r, gCk k cs = some (pre, r) → allP pre → ∀ (args : List Value) (w : World), CAs w cs args → Good Try.prog f r args w :=
  g1_ok rg1_ok fun p hp args w ha => by
    cases k
    · exact h p args w ha
    · have e : (ck1 p.1 p.2.1 p.2.2).1 = 0 := hp.1
      have := h p args w ha
      rw [e] at this
      exact this
set_option maxRecDepth 100000 in
theorem run_pck (p : G1N) : funB Try.prog (qG Try.prog) (fun _ => ⟨fun _ => T_rrNeg1, fun _ => true, fun _ => none⟩) Try.f11 60 [.v (.fl (gq1 p))] = some ([], .one (.im (.int .i64 (ck1 p.1 p.2.1 p.2.2).1))) := by kernel_rfl
theorem pck_ok (p : G1N) (args : List Value) (w : World) (ha : CAs w [.v (.fl (gq1 p))] args) : Good Try.prog 11 (.one (.im (.int .i64 (ck1 p.1 p.2.1 p.2.2).1))) args w :=
  funB_sound hmix (fun _ _ => ok_rrNeg1) (qG_ok Try.prog) Try.func11 (run_pck p) trivial ha
set_option maxRecDepth 100000 in
theorem run_rck (p : G1N) : funB Try.prog (qG Try.prog) (fun _ => ⟨fun _ => T_rrNeg1, fun _ => true, fun _ => none⟩) Try.f12 60 [.v (.fl (gq1 p))] = some ([], .one (.im (.int .i64 (ck1 p.1 p.2.1 p.2.2).1))) := by kernel_rfl
theorem rck_ok (p : G1N) (args : List Value) (w : World) (ha : CAs w [.v (.fl (gq1 p))] args) : Good Try.prog 12 (.one (.im (.int .i64 (ck1 p.1 p.2.1 p.2.2).1))) args w :=
  funB_sound hmix (fun _ _ => ok_rrNeg1) (qG_ok Try.prog) Try.func12 (run_rck p) trivial ha

/-- is an element lower than its negative? c: the answer -/
def gLq (c : Bool) : Ent
  | [.v (.im (.int .i64 (.ofNat 1))), .v (.fl l)] => match rq1 l with
    | some n => some ([wv n < FP.M, lowB FP.M (wv n) = c], .many [.im (.bool c), .im (.int .i64 0)])
    | none => none
  | _ => none
theorem gLq_ok (c : Bool) : ∀ cs pre r, gLq c cs = some (pre, r) → allP pre → ∀ (args : List Value) (w : World), CAs w cs args → Good Try.prog 49 r args w := by
  intro cs pre r hg hp args w ha
  unfold gLq at hg
  split at hg
  · rename_i l
    split at hg
    · rename_i n hn
      cases hg
      match args, ha with
      | [v, u], ha =>
        have h1 : v = .int .i64 1 := ha.1
        have h2 : u = .agg (flat l).toArray := ha.2.1
        rw [rq1_ok l _ hn] at h2
        subst h1; subst h2
        have h := flower_ok 1 FP fld1 _ _ _ _ (fw_ok n) hp.1 w
        refine h.mono ?_
        rintro e w' ⟨rfl, hb⟩
        refine ⟨?_, hb⟩
        have e2 : lowB FP.M (val4 (fw n 0) (fw n 1) (fw n 2) (fw n 3)) = c := hp.2.1
        rw [e2]
        rfl
      | [], ha => exact ha.elim
      | [_], ha => exact ha.2.elim
      | _ :: _ :: _ :: _, ha => exact ha.2.2.elim
    · cases hg
  · cases hg
noncomputable def T_lq (c : Bool) : Tab := T_rrNeg1.add 49 (gLq c)
theorem ok_lq (c : Bool) : TabOk Try.prog (T_lq c) := ok_rrNeg1.add Try.func49 (by kernel_rfl) (by kernel_rfl) (gLq_ok c)
set_option maxRecDepth 100000 in
theorem run_lo1 (c : Bool) (n : Nat) : funB Try.prog (qG Try.prog) (fun _ => ⟨fun _ => T_lq c, fun _ => true, fun _ => none⟩) Try.f24 60 [.v (.fl (q1 n))] = some ([wv n < FP.M, lowB FP.M (wv n) = c], .one (.im (.bool c))) := by kernel_rfl
noncomputable def T_lo1 (c : Bool) : Tab := (T_lq c).add 24 (g1 rq1 fun n => ([wv n < FP.M, lowB FP.M (wv n) = c], .one (.im (.bool c))))
theorem ok_lo1 (c : Bool) : TabOk Try.prog (T_lo1 c) := (ok_lq c).add Try.func24 (by kernel_rfl) (by kernel_rfl) (g1_ok (op := fun n => ([wv n < FP.M, lowB FP.M (wv n) = c], .one (.im (.bool c)))) rq1_ok fun n hp args w ha => funB_sound hmix (fun _ _ => ok_lq c) (qG_ok Try.prog) Try.func24 (run_lo1 c n) hp ha)

/-- the reference's -/
def gCmpQ : Ent
  | [.v (.fl l), .v (.fl m)] => match rq1 l, rq1 m with
    | some a, some b => some ([], .one (.im (.int .i64 (Go.Proofs.Ytebaoemoeckgaaa.cmpN (wv a) (wv b)))))
    | _, _ => none
  | _ => none
theorem gCmpQ_ok : ∀ cs pre r, gCmpQ cs = some (pre, r) → allP pre → ∀ (args : List Value) (w : World), CAs w cs args → Good Try.prog 51 r args w := by
  intro cs pre r hg hp args w ha
  unfold gCmpQ at hg
  split at hg
  · rename_i l m
    split at hg
    · rename_i a b h1 h2
      cases hg
      rw [args2 ha, rq1_ok l _ h1, rq1_ok m _ h2]
      exact (R1.refCmp_calls _ _ _ _ _ _ _ _ (fw_ok a) (fw_ok b) w).mono fun e w' h => h
    · cases hg
  · cases hg
noncomputable def T_cmq : Tab := T_rrNeg1.add 51 gCmpQ
theorem ok_cmq : TabOk Try.prog T_cmq := ok_rrNeg1.add Try.func51 (by kernel_rfl) (by kernel_rfl) gCmpQ_ok
set_option maxRecDepth 100000 in
theorem run_rlo1 (c : Bool) (n : Nat) : funB Try.prog (qG Try.prog) (fun _ => ⟨fun _ => T_cmq, fun _ => true, fun s => bif Nat.beq s 10 then some (.bool c) else none⟩) Try.f28 60 [.v (.fl (q1 n))] = some ([intOp .leq .i64 (Go.Proofs.Ytebaoemoeckgaaa.cmpN (wv n) (wv (F1.sub F1.zero (m1 n)).1)) 0 = some (.bool c)], .one (.im (.bool c))) := by kernel_rfl
theorem cmp_leqQ (a b : Nat) : intOp .leq .i64 (Go.Proofs.Ytebaoemoeckgaaa.cmpN a b) 0 = some (.bool (decide (a ≤ b))) := by
  unfold Go.Proofs.Ytebaoemoeckgaaa.cmpN
  by_cases h : a = b
  · rw [if_pos h, decide_eq_true (by omega)]; rfl
  · rw [if_neg h]
    by_cases h2 : a < b
    · rw [if_pos h2, decide_eq_true (by omega)]; rfl
    · rw [if_neg h2, decide_eq_false (by omega)]; rfl
theorem rlo1_num {c : Bool} {n : Nat} (h : wv n < FP.M) (hc : lowB FP.M (wv n) = c) : intOp .leq .i64 (Go.Proofs.Ytebaoemoeckgaaa.cmpN (wv n) (wv (F1.sub F1.zero (m1 n)).1)) 0 = some (.bool c) := by
  have e1 : (F1.sub F1.zero (m1 n)).1 = (0 + FP.M - wv n) % FP.M := by
    have e2 : (m1 n).1 = wv n := Nat.mod_eq_of_lt h
    show (0 + (FP.M - (m1 n).1) % FP.M) % FP.M = _
    rw [e2, Nat.zero_add, Nat.zero_add, Nat.mod_mod]
  have e3 : wv (F1.sub F1.zero (m1 n)).1 = (F1.sub F1.zero (m1 n)).1 := fw_valp (F1.sub F1.zero (m1 n)).2
  rw [cmp_leqQ, e3, e1, ← hc]
  rfl
noncomputable def T_rlo (c : Bool) : Tab := T_cmq.add 28 (g1 rq1 fun n => ([wv n < FP.M, lowB FP.M (wv n) = c], .one (.im (.bool c))))
theorem ok_rlo (c : Bool) : TabOk Try.prog (T_rlo c) := ok_cmq.add Try.func28 (by kernel_rfl) (by kernel_rfl) (g1_ok (op := fun n => ([wv n < FP.M, lowB FP.M (wv n) = c], .one (.im (.bool c)))) rq1_ok fun n hp args w ha => funB_sound hmix (fun _ _ => ok_cmq) (qG_ok Try.prog) Try.func28 (run_rlo1 c n) ⟨rlo1_num hp.1 hp.2.1, trivial⟩ ha)

/-- marks -/
def gSm : Ent
  | [.v (.im (.bool i)), .v (.im (.bool l))] => some ([], .one (.im (.int .u8 (bif i then 1 else bif l then 2 else 3))))
  | _ => none
set_option maxRecDepth 100000 in
theorem run_sm (i l : Bool) : funB Try.prog (qG Try.prog) (fun _ => ⟨fun _ => T0, fun _ => true, fun _ => none⟩) Try.f23 60 [.v (.im (.bool i)), .v (.im (.bool l))] = some ([], .one (.im (.int .u8 (bif i then 1 else bif l then 2 else 3)))) := by cases i <;> cases l <;> kernel_rfl
theorem gSm_ok : ∀ cs pre r, gSm cs = some (pre, r) → allP pre → ∀ (args : List Value) (w : World), CAs w cs args → Good Try.prog 23 r args w := by
  intro cs pre r hg hp args w ha
  unfold gSm at hg
  split at hg
  · rename_i i l
    cases hg
    exact funB_sound hmix (fun _ _ => T0_ok _) (qG_ok Try.prog) Try.func23 (run_sm i l) trivial ha
  · cases hg
def gLm : Ent
  | [.v (.im (.bool i))] => some ([], .one (.im (.int .u8 (bif i then 1 else 0))))
  | _ => none
set_option maxRecDepth 100000 in
theorem run_lm (i : Bool) : funB Try.prog (qG Try.prog) (fun _ => ⟨fun _ => T0, fun _ => true, fun _ => none⟩) Try.f29 60 [.v (.im (.bool i))] = some ([], .one (.im (.int .u8 (bif i then 1 else 0)))) := by cases i <;> kernel_rfl
theorem gLm_ok : ∀ cs pre r, gLm cs = some (pre, r) → allP pre → ∀ (args : List Value) (w : World), CAs w cs args → Good Try.prog 29 r args w := by
  intro cs pre r hg hp args w ha
  unfold gLm at hg
  split at hg
  · rename_i i
    cases hg
    exact funB_sound hmix (fun _ _ => T0_ok _) (qG_ok Try.prog) Try.func29 (run_lm i) trivial ha
  · cases hg
def gRm : Ent
  | [.v (.im (.bool l))] => some ([], .one (.im (.int .u8 (bif l then 2 else 3))))
  | _ => none
set_option maxRecDepth 100000 in
theorem run_rm (i : Bool) : funB Try.prog (qG Try.prog) (fun _ => ⟨fun _ => T0, fun _ => true, fun _ => none⟩) Try.f27 60 [.v (.im (.bool i))] = some ([], .one (.im (.int .u8 (bif i then 2 else 3)))) := by cases i <;> kernel_rfl
theorem gRm_ok : ∀ cs pre r, gRm cs = some (pre, r) → allP pre → ∀ (args : List Value) (w : World), CAs w cs args → Good Try.prog 27 r args w := by
  intro cs pre r hg hp args w ha
  unfold gRm at hg
  split at hg
  · rename_i i
    cases hg
    exact funB_sound hmix (fun _ _ => T0_ok _) (qG_ok Try.prog) Try.func27 (run_rm i) trivial ha
  · cases hg
/-- the table of ours: k: that the point may be; c: its Y is the lower one -/
noncomputable def T_po (k c : Bool) : Tab := (((T_lo1 c).add 11 (gCk k)).add 23 gSm).add 29 gLm
theorem ok_po (k c : Bool) : TabOk Try.prog (T_po k c) := (((ok_lo1 c).add Try.func11 (by kernel_rfl) (by kernel_rfl) (gCk_ok pck_ok k)).add Try.func23 (by kernel_rfl) (by kernel_rfl) gSm_ok).add Try.func29 (by kernel_rfl) (by kernel_rfl) gLm_ok
noncomputable def T_ro (k c : Bool) : Tab := ((T_rlo c).add 12 (gCk k)).add 27 gRm
theorem ok_ro (k c : Bool) : TabOk Try.prog (T_ro k c) := ((ok_rlo c).add Try.func12 (by kernel_rfl) (by kernel_rfl) (gCk_ok rck_ok k)).add Try.func27 (by kernel_rfl) (by kernel_rfl) gRm_ok
end Go.Proofs.Ytebaoemoeckgaaa.Ex
namespace Go.Proofs.Ytebaoemoeckgaaa.Ex
set_option linter.unusedVariables false
set_option linter.unusedSimpArgs false
open Go.RowKit

theorem rb1_run (w : World) : EqOkW Try.prog (qY Try.prog (x3 L3 W4 (fun _ => none) (fun _ => none))) w.heap.size w := x3_ok L3_ok W4_ok w
/-- the reference's bytes of an element -/
noncomputable def cfB (T : Tab) : Nat → Cfg := fun _ => ⟨fun _ => T, fun _ => true, fun _ => none⟩
set_option maxRecDepth 100000 in
theorem run_rb1 (n : Nat) : funS Try.prog (qY Try.prog (x3 L3 W4 (fun _ => none) (fun _ => none))) cT0 Try.f26 60 [.v (.fl (q1 n))] = some ([], ⟨bl (wv n), 32, 5, 1, true, [], []⟩) := by kernel_rfl
theorem gRb1_ok : ∀ cs pre r, gRBy cs = some (pre, r) → allP pre → ∀ (args : List Value) (w : World), CAs w cs args → Calls Try.prog 26 args.toArray w (fun e w' => r.ok w e w') := by
  intro cs pre r hg hp args w ha
  unfold gRBy at hg
  split at hg
  · rename_i l
    split at hg
    · rename_i n hn
      cases hg
      rw [args1 ha, rq1_ok l _ hn]
      exact funS_sound hmix (fun _ _ => (T0_ok _).w _ _) (rb1_run w) Try.func26 (run_rb1 n) trivial (args := [_]) ⟨rfl, trivial⟩
    · cases hg
  · cases hg
def R3 : Tab3 := L3.add 26 gRBy
theorem R3_ok : FsOk Try.prog R3 := L3_ok.add Try.func26 (by kernel_rfl) (by kernel_rfl) gRb1_ok
/-- zeros -/
def z8 : Nat → List At
  | 0 => []
  | n + 1 => .c (.int .u8 0) :: z8 n
/-- so many zero bytes are made -/
def Mk (N : Nat) : Prop := ∃ e, ∀ w : World, (Instr.makeSlice 27 (.int .i64 N) (.int .i64 N)).run Try.prog w = .ok (.slice (some ⟨w.heap.size, 0, none⟩) N N) (w.alloc (.cells (flat (z8 N)).toArray e))
theorem z8_cat : ∀ (s n : Nat), cat (fun _ => [At.c (.int .u8 0)]) s n = z8 n
  | _, 0 => rfl
  | s, n + 1 => congrArg (At.c (.int .u8 0) :: ·) (z8_cat (s + 1) n)
theorem mk_ok (N : Nat) (h : N < 1000) : Mk N := by
  have h1 := made' (P := Try.prog) (t := 27) (e := 5) (z := [At.c (.int .u8 0)]) (v := .int .u8 0) (N := N) (n := 1) (by8 := 1) (by kernel_rfl) (by kernel_rfl) rfl rfl (by omega) (by omega) (by omega)
  rw [z8_cat] at h1
  exact h1
noncomputable def xR (n s : Nat) : Ext := x3 R3 W4 (fun _ => none) (fun i => bif Nat.beq i s then some (n, z8 n) else none)
theorem xR_ok (n s : Nat) (w : World) : EqOkW Try.prog (qY Try.prog (xR n s)) w.heap.size w := x3_ok R3_ok W4_ok w
/-- a bad point's -/
noncomputable def oBad (x y : Nat) (i : Bool) : List Prop × RV := ([intOp .neq .i64 (ck1 x y i).1 0 = some (.bool true)], .many [.im (.slice none 0 0), .im (.int .i64 (ck1 x y i).1)])
noncomputable def cfN (T : Tab) (s : Nat) : Nat → Cfg := fun _ => ⟨fun _ => T, fun _ => true, fun n => bif Nat.beq n s then some (.bool true) else none⟩
set_option maxRecDepth 100000 in
theorem run_ps_bad (x y : Nat) (i : Bool) : funB Try.prog (qG Try.prog) (cfN (T_po false true) 8) Try.f6 60 [.v (.fl (gq1 (x, y, i)))] = some (oBad x y i) := by kernel_rfl
set_option maxRecDepth 100000 in
theorem run_pl_bad (x y : Nat) (i : Bool) : funB Try.prog (qG Try.prog) (cfN (T_po false true) 8) Try.f8 60 [.v (.fl (gq1 (x, y, i)))] = some (oBad x y i) := by kernel_rfl
set_option maxRecDepth 100000 in
theorem run_rs_bad (x y : Nat) (i : Bool) : funB Try.prog (qG Try.prog) (cfN (T_ro false true) 9) Try.f7 60 [.v (.fl (gq1 (x, y, i)))] = some (oBad x y i) := by kernel_rfl
set_option maxRecDepth 100000 in
theorem run_rl_bad (x y : Nat) (i : Bool) : funB Try.prog (qG Try.prog) (cfN (T_ro false true) 9) Try.f9 60 [.v (.fl (gq1 (x, y, i)))] = some (oBad x y i) := by kernel_rfl
set_option maxRecDepth 100000 in
theorem run_ps_t (x y : Nat) (c : Bool) : funS Try.prog (qY Try.prog (x3 L3 W4 (fun _ => none) (fun _ => none))) (cfB (T_po true c)) Try.f6 80 [.v (.fl (gq1 (x, y, true)))] = some ([(ck1 x y true).1 = 0, wv y < FP.M, lowB FP.M (wv y) = c, 1 < 4], ⟨bm (wv x) 1, 32, 5, 1, true, [], [.im (.int .i64 0)]⟩) := by kernel_rfl
set_option maxRecDepth 100000 in
theorem run_ps_f (x y : Nat) (c : Bool) : funS Try.prog (qY Try.prog (x3 L3 W4 (fun _ => none) (fun _ => none))) (cfB (T_po true c)) Try.f6 80 [.v (.fl (gq1 (x, y, false)))] = some ([(ck1 x y false).1 = 0, wv y < FP.M, lowB FP.M (wv y) = c, (bif c then 2 else 3) < 4], ⟨bm (wv x) (bif c then 2 else 3), 32, 5, 1, true, [], [.im (.int .i64 0)]⟩) := by cases c <;> kernel_rfl
set_option maxRecDepth 100000 in
theorem run_pl_t (x y : Nat) : funS Try.prog (qY Try.prog (x3 L3 W4 (fun _ => none) (fun _ => none))) (cfB (T_po true true)) Try.f8 80 [.v (.fl (gq1 (x, y, true)))] = some ([(ck1 x y true).1 = 0, 1 < 4], ⟨bm (wv x) 1 ++ bl (wv y), 64, 5, 1, true, [], [.im (.int .i64 0)]⟩) := by kernel_rfl
set_option maxRecDepth 100000 in
theorem run_pl_f (x y : Nat) : funS Try.prog (qY Try.prog (x3 L3 W4 (fun _ => none) (fun _ => none))) (cfB (T_po true true)) Try.f8 80 [.v (.fl (gq1 (x, y, false)))] = some ([(ck1 x y false).1 = 0, 0 < 4], ⟨bm (wv x) 0 ++ bl (wv y), 64, 5, 1, true, [], [.im (.int .i64 0)]⟩) := by kernel_rfl
set_option maxRecDepth 100000 in
theorem run_rs_t (x y : Nat) : funS Try.prog (qY Try.prog (xR 32 14)) (cfB (T_ro true true)) Try.f7 80 [.v (.fl (gq1 (x, y, true)))] = some ([(ck1 x y true).1 = 0, Mk 32, 0 < 256, 1 < 4], ⟨.c (.int .u8 (Int.ofNat (0 ||| 64 * 1))) :: z8 31, 32, 0, 0, false, [], [.im (.int .i64 0)]⟩) := by kernel_rfl
set_option maxRecDepth 100000 in
theorem run_rs_f (x y : Nat) (c : Bool) : funS Try.prog (qY Try.prog (xR 32 14)) (cfB (T_ro true c)) Try.f7 80 [.v (.fl (gq1 (x, y, false)))] = some ([(ck1 x y false).1 = 0, wv y < FP.M, lowB FP.M (wv y) = c, byteAt (wv x) 0 < 256, (bif c then 2 else 3) < 4], ⟨bm (wv x) (bif c then 2 else 3), 32, 5, 1, true, [], [.im (.int .i64 0)]⟩) := by cases c <;> kernel_rfl
set_option maxRecDepth 100000 in
theorem run_rl_t (x y : Nat) : funS Try.prog (qY Try.prog (xR 64 14)) (cfB (T_ro true true)) Try.f9 80 [.v (.fl (gq1 (x, y, true)))] = some ([(ck1 x y true).1 = 0, Mk 64, 0 < 256, 1 < 4], ⟨.c (.int .u8 (Int.ofNat (0 ||| 64 * 1))) :: z8 63, 64, 0, 0, false, [], [.im (.int .i64 0)]⟩) := by kernel_rfl
set_option maxRecDepth 100000 in
theorem run_rl_f (x y : Nat) : funS Try.prog (qY Try.prog (xR 64 14)) (cfB (T_ro true true)) Try.f9 80 [.v (.fl (gq1 (x, y, false)))] = some ([(ck1 x y false).1 = 0], ⟨bl (wv x) ++ bl (wv y), 64, 5, 1, true, [], [.im (.int .i64 0)]⟩) := by kernel_rfl

/-- what Short1 and Long1 answer of a point that may be; c: its Y is the lower one -/
def sMark (c i : Bool) : Nat := bif i then 1 else bif c then 2 else 3
def oS (c : Bool) (p : G1N) : FS := ⟨bm (wv p.1) (sMark c p.2.2), 32, 0, 0, false, [], [.im (.int .i64 0)]⟩
def oL (p : G1N) : FS := ⟨bm (wv p.1) (bif p.2.2 then 1 else 0) ++ bl (wv p.2.1), 64, 0, 0, false, [], [.im (.int .i64 0)]⟩
theorem FS.ok.weak {r : FS} {w : World} {e : Ending} {w' : World} (h : r.ok w e w') {l : List At} (hl : flat l = flat r.l) : (⟨l, r.n, 0, 0, false, r.ante, r.post⟩ : FS).ok w e w' := by
  obtain ⟨b, cap, h1, h2, h3, h4, h5, h6, _⟩ := h
  exact ⟨b, cap, h1, h2, h3, h4, by rw [hl]; exact h5, h6, fun h => by cases h⟩
theorem bm_zero (n : Nat) : bm n 0 = bl n := by
  have : hb n 0 = b8 n 0 := by unfold hb b8; rw [Nat.mul_zero, Nat.or_zero]
  unfold bm bl
  rw [this]
/-- a point that may be, and which root its Y is -/
def okP (c : Bool) (p : G1N) : List Prop := [(ck1 p.1 p.2.1 p.2.2).1 = 0, wv p.2.1 < FP.M, lowB FP.M (wv p.2.1) = c]
theorem inf_zero {x y : Nat} (h : (ck1 x y true).1 = 0) : wv x = 0 ∧ wv y = 0 := by
  rw [ck1_eq, if_pos rfl] at h
  by_cases hz : zr1 x ∧ zr1 y
  · exact hz
  · rw [if_neg hz] at h; cases h
theorem okP_c {p : G1N} (h : (ck1 p.1 p.2.1 p.2.2).1 = 0) : allP (okP (lowB FP.M (wv p.2.1)) p) := by
  refine ⟨h, ?_, rfl, trivial⟩
  obtain ⟨x, y, i⟩ := p
  cases i
  · exact (ck1_bl h rfl).2
  · show wv y < FP.M
    rw [(inf_zero h).2]; exact fp_pos
theorem sM_lt (c : Bool) : (bif c then 2 else 3) < 4 := by cases c <;> decide
theorem ps_ok (c : Bool) (p : G1N) (hp : allP (okP c p)) (args : List Value) (w : World) (ha : CAs w [.v (.fl (gq1 p))] args) : Calls Try.prog 6 args.toArray w (fun e w' => (oS c p).ok w e w') := by
  obtain ⟨h0, h1, h2, _⟩ := hp
  obtain ⟨x, y, i⟩ := p
  cases i
  · exact (funS_sound hmix (fun _ _ => (ok_po true c).w _ _) (rb1_run w) Try.func6 (run_ps_f x y c) ⟨h0, h1, h2, sM_lt c, trivial⟩ ha).mono fun e w' h => h.weak rfl
  · exact (funS_sound hmix (fun _ _ => (ok_po true c).w _ _) (rb1_run w) Try.func6 (run_ps_t x y c) ⟨h0, h1, h2, by decide, trivial⟩ ha).mono fun e w' h => h.weak rfl
theorem pl_ok (c : Bool) (p : G1N) (hp : allP (okP c p)) (args : List Value) (w : World) (ha : CAs w [.v (.fl (gq1 p))] args) : Calls Try.prog 8 args.toArray w (fun e w' => (oL p).ok w e w') := by
  obtain ⟨h0, h1, h2, _⟩ := hp
  obtain ⟨x, y, i⟩ := p
  cases i
  · exact (funS_sound hmix (fun _ _ => (ok_po true true).w _ _) (rb1_run w) Try.func8 (run_pl_f x y) ⟨h0, by decide, trivial⟩ ha).mono fun e w' h => h.weak rfl
  · exact (funS_sound hmix (fun _ _ => (ok_po true true).w _ _) (rb1_run w) Try.func8 (run_pl_t x y) ⟨h0, by decide, trivial⟩ ha).mono fun e w' h => h.weak rfl
theorem rs_ok (c : Bool) (p : G1N) (hp : allP (okP c p)) (args : List Value) (w : World) (ha : CAs w [.v (.fl (gq1 p))] args) : Calls Try.prog 7 args.toArray w (fun e w' => (oS c p).ok w e w') := by
  obtain ⟨h0, h1, h2, _⟩ := hp
  obtain ⟨x, y, i⟩ := p
  cases i
  · exact (funS_sound hmix (fun _ _ => (ok_ro true c).w _ _) (xR_ok _ _ w) Try.func7 (run_rs_f x y c) ⟨h0, h1, h2, byte_lt _ _, sM_lt c, trivial⟩ ha).mono fun e w' h => h.weak rfl
  · refine (funS_sound hmix (fun _ _ => (ok_ro true true).w _ _) (xR_ok _ _ w) Try.func7 (run_rs_t x y) ⟨h0, mk_ok 32 (by decide), by decide, by decide, trivial⟩ ha).mono fun e w' h => h.weak ?_
    show flat (bm (wv x) 1) = _
    rw [(inf_zero h0).1]
    kernel_rfl
theorem rl_ok (c : Bool) (p : G1N) (hp : allP (okP c p)) (args : List Value) (w : World) (ha : CAs w [.v (.fl (gq1 p))] args) : Calls Try.prog 9 args.toArray w (fun e w' => (oL p).ok w e w') := by
  obtain ⟨h0, h1, h2, _⟩ := hp
  obtain ⟨x, y, i⟩ := p
  cases i
  · refine (funS_sound hmix (fun _ _ => (ok_ro true true).w _ _) (xR_ok 64 14 w) Try.func9 (run_rl_f x y) ⟨h0, trivial⟩ ha).mono fun e w' h => h.weak ?_
    show flat (bm (wv x) 0 ++ bl (wv y)) = _
    rw [bm_zero]
  · refine (funS_sound hmix (fun _ _ => (ok_ro true true).w _ _) (xR_ok _ _ w) Try.func9 (run_rl_t x y) ⟨h0, mk_ok 64 (by decide), by decide, by decide, trivial⟩ ha).mono fun e w' h => h.weak ?_
    show flat (bm (wv x) 1 ++ bl (wv y)) = _
    rw [(inf_zero h0).1, (inf_zero h0).2]
    kernel_rfl
theorem bad_ne {x y : Nat} {i : Bool} (h : (ck1 x y i).1 ≠ 0) : intOp .neq .i64 (ck1 x y i).1 0 = some (.bool true) := by
  show some (Value.bool ((ck1 x y i).1 != 0)) = _
  rw [bne_iff_ne.2 h]
theorem bad_ok {f : FuncId} {fn : Func} (hf : Try.prog.funcs[f]? = some fn) {T : Tab} (hT : TabOk Try.prog T) {s n : Nat} (p : G1N) (h : funB Try.prog (qG Try.prog) (cfN T s) fn n [.v (.fl (gq1 (p.1, p.2.1, p.2.2)))] = some (oBad p.1 p.2.1 p.2.2)) (h0 : (ck1 p.1 p.2.1 p.2.2).1 ≠ 0) (args : List Value) (w : World) (ha : CAs w [.v (.fl (gq1 p))] args) :
    Good Try.prog f (.many [.im (.slice none 0 0), .im (.int .i64 (ck1 p.1 p.2.1 p.2.2).1)]) args w := funB_sound hmix (fun _ _ => hT) (qG_ok Try.prog) hf h ⟨bad_ne h0, trivial⟩ ha
def gFS (pre : G1N → List Prop) (o : G1N → FS) : List CA → Option (List Prop × FS)
  | [.v (.fl l)] => match rg1 l with
    | some p => some (pre p, o p)
    | none => none
  | _ => none
theorem gFS_ok {f : FuncId} {pre : G1N → List Prop} {o : G1N → FS} (h : ∀ p, allP (pre p) → ∀ (args : List Value) (w : World), CAs w [.v (.fl (gq1 p))] args → Calls Try.prog f args.toArray w (fun e w' => (o p).ok w e w')) :
    ∀ cs ps r, gFS pre o cs = some (ps, r) → allP ps → ∀ (args : List Value) (w : World), CAs w cs args → Calls Try.prog f args.toArray w (fun e w' => r.ok w e w') := by
  intro cs ps r hg hp args w ha
  unfold gFS at hg
  split at hg
  · rename_i l
    split at hg
    · rename_i p hn
      cases hg
      refine h p hp args w ?_
      rw [args1 ha, rg1_ok l _ hn]
      exact ⟨rfl, trivial⟩
    · cases hg
  · cases hg
end Go.Proofs.Ytebaoemoeckgaaa.Ex
