/-
  The call of the reference's Cmp: for any two numbers of four words, in any world, the order. Conditions: each word below 2^64.
  Flat values of words held against each other, of whatever type of arrays and structs of words. Of whatever program. Conditions: none.
  The reference's Fp12 in a table of calls. Conditions: none.
-/
import Derived.Laws.StructEq
import Derived.Test.YtaingnhikbaplaaGreatPf07
import Derived.Test.YtaingnhikbaplaaGreatPf06
import Derived.Test.YtaingnhikbaplaaGreatPf04
import Derived.Test.YtaingnhikbaplaaGreatPf19
import Derived.Test.YtaingnhikbaplaaGreatPf21
import Derived.Test.YtaingnhikbaplaaGreatPf09
import Derived.Test.YtaingnhikbaplaaGreatPf08
import Derived.Test.YtaingnhikbaplaaGreatPf13
namespace Go.Proofs.YtaingnhikbaplaaGreat.R1
set_option linter.unusedVariables false
set_option linter.unusedSimpArgs false
open Go.RowKit

set_option maxRecDepth 100000 in
theorem rcmp_l3 (a0 a1 a2 a3 b0 b1 b2 b3 : Nat) (ha : ok4 a0 a1 a2 a3) (hb : ok4 b0 b1 b2 b3) (e3 : a3 < b3) (w : World) :
    Calls Tryz.prog 114 #[.agg #[.int .u64 a0, .int .u64 a1, .int .u64 a2, .int .u64 a3], .agg #[.int .u64 b0, .int .u64 b1, .int .u64 b2, .int .u64 b3]] w fun e w' => e = .returned (.int .i64 (cmpN (val4 a0 a1 a2 a3) (val4 b0 b1 b2 b3))) ∧ Below w.heap.size w w' := by
  have hfin : cmpN (val4 a0 a1 a2 a3) (val4 b0 b1 b2 b3) = -1 := by
    obtain ⟨p0, p1, p2, p3⟩ := ha; obtain ⟨q0, q1, q2, q3⟩ := hb; unfold cmpN val4
    rw [if_neg (by omega), if_pos (by omega)]
  rw [hfin]
  clear hfin
  have l3 : decide (a3 < b3) = true := decide_eq_true (by omega)
  clear e3
  go_enter Tryz.func114, Tryz.ntmps114
  go_wp2_with fail
  refine wp_loop_rounds 5 ?_
  rw [rounds_succ]
  go_wp2_with fail
  go_quiet (fail)
  go_wp2_with fail
  go_ret
  exact ⟨rfl, by repeat (first | exact Below.refl _ _ | refine Below.trans ?_ (below_drewN' _ _ _) | refine Below.drew ?_ | refine Below.alloc ?_ (by first | (simp; done) | (simp; omega)) _)⟩
set_option maxRecDepth 100000 in
theorem rcmp_g3 (a0 a1 a2 a3 b0 b1 b2 b3 : Nat) (ha : ok4 a0 a1 a2 a3) (hb : ok4 b0 b1 b2 b3) (e3 : b3 < a3) (w : World) :
    Calls Tryz.prog 114 #[.agg #[.int .u64 a0, .int .u64 a1, .int .u64 a2, .int .u64 a3], .agg #[.int .u64 b0, .int .u64 b1, .int .u64 b2, .int .u64 b3]] w fun e w' => e = .returned (.int .i64 (cmpN (val4 a0 a1 a2 a3) (val4 b0 b1 b2 b3))) ∧ Below w.heap.size w w' := by
  have hfin : cmpN (val4 a0 a1 a2 a3) (val4 b0 b1 b2 b3) = 1 := by
    obtain ⟨p0, p1, p2, p3⟩ := ha; obtain ⟨q0, q1, q2, q3⟩ := hb; unfold cmpN val4
    rw [if_neg (by omega), if_neg (by omega)]
  rw [hfin]
  clear hfin
  have l3 : decide (a3 < b3) = false := decide_eq_false (by omega)
  have g3 : decide (b3 < a3) = true := decide_eq_true (by omega)
  clear e3
  go_enter Tryz.func114, Tryz.ntmps114
  go_wp2_with fail
  refine wp_loop_rounds 5 ?_
  rw [rounds_succ]
  go_wp2_with fail
  go_quiet (fail)
  go_wp2_with fail
  go_quiet (fail)
  go_wp2_with fail
  go_ret
  exact ⟨rfl, by repeat (first | exact Below.refl _ _ | refine Below.trans ?_ (below_drewN' _ _ _) | refine Below.drew ?_ | refine Below.alloc ?_ (by first | (simp; done) | (simp; omega)) _)⟩
set_option maxRecDepth 100000 in
theorem rcmp_l2 (a0 a1 a2 a3 b0 b1 b2 b3 : Nat) (ha : ok4 a0 a1 a2 a3) (hb : ok4 b0 b1 b2 b3) (e3 : a3 = b3) (e2 : a2 < b2) (w : World) :
    Calls Tryz.prog 114 #[.agg #[.int .u64 a0, .int .u64 a1, .int .u64 a2, .int .u64 a3], .agg #[.int .u64 b0, .int .u64 b1, .int .u64 b2, .int .u64 b3]] w fun e w' => e = .returned (.int .i64 (cmpN (val4 a0 a1 a2 a3) (val4 b0 b1 b2 b3))) ∧ Below w.heap.size w w' := by
  have hfin : cmpN (val4 a0 a1 a2 a3) (val4 b0 b1 b2 b3) = -1 := by
    obtain ⟨p0, p1, p2, p3⟩ := ha; obtain ⟨q0, q1, q2, q3⟩ := hb; unfold cmpN val4
    rw [if_neg (by omega), if_pos (by omega)]
  rw [hfin]
  clear hfin
  have l3 : decide (a3 < b3) = false := decide_eq_false (by omega)
  have g3 : decide (b3 < a3) = false := decide_eq_false (by omega)
  clear e3
  have l2 : decide (a2 < b2) = true := decide_eq_true (by omega)
  clear e2
  go_enter Tryz.func114, Tryz.ntmps114
  go_wp2_with fail
  refine wp_loop_rounds 5 ?_
  rw [rounds_succ]
  go_wp2_with fail
  go_quiet (fail)
  go_wp2_with fail
  go_quiet (fail)
  go_wp2_with fail
  rw [rounds_succ]
  go_wp2_with fail
  go_quiet (fail)
  go_wp2_with fail
  go_ret
  exact ⟨rfl, by repeat (first | exact Below.refl _ _ | refine Below.trans ?_ (below_drewN' _ _ _) | refine Below.drew ?_ | refine Below.alloc ?_ (by first | (simp; done) | (simp; omega)) _)⟩
set_option maxRecDepth 100000 in
theorem rcmp_g2 (a0 a1 a2 a3 b0 b1 b2 b3 : Nat) (ha : ok4 a0 a1 a2 a3) (hb : ok4 b0 b1 b2 b3) (e3 : a3 = b3) (e2 : b2 < a2) (w : World) :
    Calls Tryz.prog 114 #[.agg #[.int .u64 a0, .int .u64 a1, .int .u64 a2, .int .u64 a3], .agg #[.int .u64 b0, .int .u64 b1, .int .u64 b2, .int .u64 b3]] w fun e w' => e = .returned (.int .i64 (cmpN (val4 a0 a1 a2 a3) (val4 b0 b1 b2 b3))) ∧ Below w.heap.size w w' := by
  have hfin : cmpN (val4 a0 a1 a2 a3) (val4 b0 b1 b2 b3) = 1 := by
    obtain ⟨p0, p1, p2, p3⟩ := ha; obtain ⟨q0, q1, q2, q3⟩ := hb; unfold cmpN val4
    rw [if_neg (by omega), if_neg (by omega)]
  rw [hfin]
  clear hfin
  have l3 : decide (a3 < b3) = false := decide_eq_false (by omega)
  have g3 : decide (b3 < a3) = false := decide_eq_false (by omega)
  clear e3
  have l2 : decide (a2 < b2) = false := decide_eq_false (by omega)
  have g2 : decide (b2 < a2) = true := decide_eq_true (by omega)
  clear e2
  go_enter Tryz.func114, Tryz.ntmps114
  go_wp2_with fail
  refine wp_loop_rounds 5 ?_
  rw [rounds_succ]
  go_wp2_with fail
  go_quiet (fail)
  go_wp2_with fail
  go_quiet (fail)
  go_wp2_with fail
  rw [rounds_succ]
  go_wp2_with fail
  go_quiet (fail)
  go_wp2_with fail
  go_quiet (fail)
  go_wp2_with fail
  go_ret
  exact ⟨rfl, by repeat (first | exact Below.refl _ _ | refine Below.trans ?_ (below_drewN' _ _ _) | refine Below.drew ?_ | refine Below.alloc ?_ (by first | (simp; done) | (simp; omega)) _)⟩
set_option maxRecDepth 100000 in
theorem rcmp_l1 (a0 a1 a2 a3 b0 b1 b2 b3 : Nat) (ha : ok4 a0 a1 a2 a3) (hb : ok4 b0 b1 b2 b3) (e3 : a3 = b3) (e2 : a2 = b2) (e1 : a1 < b1) (w : World) :
    Calls Tryz.prog 114 #[.agg #[.int .u64 a0, .int .u64 a1, .int .u64 a2, .int .u64 a3], .agg #[.int .u64 b0, .int .u64 b1, .int .u64 b2, .int .u64 b3]] w fun e w' => e = .returned (.int .i64 (cmpN (val4 a0 a1 a2 a3) (val4 b0 b1 b2 b3))) ∧ Below w.heap.size w w' := by
  have hfin : cmpN (val4 a0 a1 a2 a3) (val4 b0 b1 b2 b3) = -1 := by
    obtain ⟨p0, p1, p2, p3⟩ := ha; obtain ⟨q0, q1, q2, q3⟩ := hb; unfold cmpN val4
    rw [if_neg (by omega), if_pos (by omega)]
  rw [hfin]
  clear hfin
  have l3 : decide (a3 < b3) = false := decide_eq_false (by omega)
  have g3 : decide (b3 < a3) = false := decide_eq_false (by omega)
  clear e3
  have l2 : decide (a2 < b2) = false := decide_eq_false (by omega)
  have g2 : decide (b2 < a2) = false := decide_eq_false (by omega)
  clear e2
  have l1 : decide (a1 < b1) = true := decide_eq_true (by omega)
  clear e1
  go_enter Tryz.func114, Tryz.ntmps114
  go_wp2_with fail
  refine wp_loop_rounds 5 ?_
  rw [rounds_succ]
  go_wp2_with fail
  go_quiet (fail)
  go_wp2_with fail
  go_quiet (fail)
  go_wp2_with fail
  rw [rounds_succ]
  go_wp2_with fail
  go_quiet (fail)
  go_wp2_with fail
  go_quiet (fail)
  go_wp2_with fail
  rw [rounds_succ]
  go_wp2_with fail
  go_quiet (fail)
  go_wp2_with fail
  go_ret
  exact ⟨rfl, by repeat (first | exact Below.refl _ _ | refine Below.trans ?_ (below_drewN' _ _ _) | refine Below.drew ?_ | refine Below.alloc ?_ (by first | (simp; done) | (simp; omega)) _)⟩
set_option maxRecDepth 100000 in
theorem rcmp_g1 (a0 a1 a2 a3 b0 b1 b2 b3 : Nat) (ha : ok4 a0 a1 a2 a3) (hb : ok4 b0 b1 b2 b3) (e3 : a3 = b3) (e2 : a2 = b2) (e1 : b1 < a1) (w : World) :
    Calls Tryz.prog 114 #[.agg #[.int .u64 a0, .int .u64 a1, .int .u64 a2, .int .u64 a3], .agg #[.int .u64 b0, .int .u64 b1, .int .u64 b2, .int .u64 b3]] w fun e w' => e = .returned (.int .i64 (cmpN (val4 a0 a1 a2 a3) (val4 b0 b1 b2 b3))) ∧ Below w.heap.size w w' := by
  have hfin : cmpN (val4 a0 a1 a2 a3) (val4 b0 b1 b2 b3) = 1 := by
    obtain ⟨p0, p1, p2, p3⟩ := ha; obtain ⟨q0, q1, q2, q3⟩ := hb; unfold cmpN val4
    rw [if_neg (by omega), if_neg (by omega)]
  rw [hfin]
  clear hfin
  have l3 : decide (a3 < b3) = false := decide_eq_false (by omega)
  have g3 : decide (b3 < a3) = false := decide_eq_false (by omega)
  clear e3
  have l2 : decide (a2 < b2) = false := decide_eq_false (by omega)
  have g2 : decide (b2 < a2) = false := decide_eq_false (by omega)
  clear e2
  have l1 : decide (a1 < b1) = false := decide_eq_false (by omega)
  have g1 : decide (b1 < a1) = true := decide_eq_true (by omega)
  clear e1
  go_enter Tryz.func114, Tryz.ntmps114
  go_wp2_with fail
  refine wp_loop_rounds 5 ?_
  rw [rounds_succ]
  go_wp2_with fail
  go_quiet (fail)
  go_wp2_with fail
  go_quiet (fail)
  go_wp2_with fail
  rw [rounds_succ]
  go_wp2_with fail
  go_quiet (fail)
  go_wp2_with fail
  go_quiet (fail)
  go_wp2_with fail
  rw [rounds_succ]
  go_wp2_with fail
  go_quiet (fail)
  go_wp2_with fail
  go_quiet (fail)
  go_wp2_with fail
  go_ret
  exact ⟨rfl, by repeat (first | exact Below.refl _ _ | refine Below.trans ?_ (below_drewN' _ _ _) | refine Below.drew ?_ | refine Below.alloc ?_ (by first | (simp; done) | (simp; omega)) _)⟩
set_option maxRecDepth 100000 in
theorem rcmp_l0 (a0 a1 a2 a3 b0 b1 b2 b3 : Nat) (ha : ok4 a0 a1 a2 a3) (hb : ok4 b0 b1 b2 b3) (e3 : a3 = b3) (e2 : a2 = b2) (e1 : a1 = b1) (e0 : a0 < b0) (w : World) :
    Calls Tryz.prog 114 #[.agg #[.int .u64 a0, .int .u64 a1, .int .u64 a2, .int .u64 a3], .agg #[.int .u64 b0, .int .u64 b1, .int .u64 b2, .int .u64 b3]] w fun e w' => e = .returned (.int .i64 (cmpN (val4 a0 a1 a2 a3) (val4 b0 b1 b2 b3))) ∧ Below w.heap.size w w' := by
  have hfin : cmpN (val4 a0 a1 a2 a3) (val4 b0 b1 b2 b3) = -1 := by
    obtain ⟨p0, p1, p2, p3⟩ := ha; obtain ⟨q0, q1, q2, q3⟩ := hb; unfold cmpN val4
    rw [if_neg (by omega), if_pos (by omega)]
  rw [hfin]
  clear hfin
  have l3 : decide (a3 < b3) = false := decide_eq_false (by omega)
  have g3 : decide (b3 < a3) = false := decide_eq_false (by omega)
  clear e3
  have l2 : decide (a2 < b2) = false := decide_eq_false (by omega)
  have g2 : decide (b2 < a2) = false := decide_eq_false (by omega)
  clear e2
  have l1 : decide (a1 < b1) = false := decide_eq_false (by omega)
  have g1 : decide (b1 < a1) = false := decide_eq_false (by omega)
  clear e1
  have l0 : decide (a0 < b0) = true := decide_eq_true (by omega)
  clear e0
  go_enter Tryz.func114, Tryz.ntmps114
  go_wp2_with fail
  refine wp_loop_rounds 5 ?_
  rw [rounds_succ]
  go_wp2_with fail
  go_quiet (fail)
  go_wp2_with fail
  go_quiet (fail)
  go_wp2_with fail
  rw [rounds_succ]
  go_wp2_with fail
  go_quiet (fail)
  go_wp2_with fail
  go_quiet (fail)
  go_wp2_with fail
  rw [rounds_succ]
  go_wp2_with fail
  go_quiet (fail)
  go_wp2_with fail
  go_quiet (fail)
  go_wp2_with fail
  rw [rounds_succ]
  go_wp2_with fail
  go_quiet (fail)
  go_wp2_with fail
  go_ret
  exact ⟨rfl, by repeat (first | exact Below.refl _ _ | refine Below.trans ?_ (below_drewN' _ _ _) | refine Below.drew ?_ | refine Below.alloc ?_ (by first | (simp; done) | (simp; omega)) _)⟩
set_option maxRecDepth 100000 in
theorem rcmp_g0 (a0 a1 a2 a3 b0 b1 b2 b3 : Nat) (ha : ok4 a0 a1 a2 a3) (hb : ok4 b0 b1 b2 b3) (e3 : a3 = b3) (e2 : a2 = b2) (e1 : a1 = b1) (e0 : b0 < a0) (w : World) :
    Calls Tryz.prog 114 #[.agg #[.int .u64 a0, .int .u64 a1, .int .u64 a2, .int .u64 a3], .agg #[.int .u64 b0, .int .u64 b1, .int .u64 b2, .int .u64 b3]] w fun e w' => e = .returned (.int .i64 (cmpN (val4 a0 a1 a2 a3) (val4 b0 b1 b2 b3))) ∧ Below w.heap.size w w' := by
  have hfin : cmpN (val4 a0 a1 a2 a3) (val4 b0 b1 b2 b3) = 1 := by
    obtain ⟨p0, p1, p2, p3⟩ := ha; obtain ⟨q0, q1, q2, q3⟩ := hb; unfold cmpN val4
    rw [if_neg (by omega), if_neg (by omega)]
  rw [hfin]
  clear hfin
  have l3 : decide (a3 < b3) = false := decide_eq_false (by omega)
  have g3 : decide (b3 < a3) = false := decide_eq_false (by omega)
  clear e3
  have l2 : decide (a2 < b2) = false := decide_eq_false (by omega)
  have g2 : decide (b2 < a2) = false := decide_eq_false (by omega)
  clear e2
  have l1 : decide (a1 < b1) = false := decide_eq_false (by omega)
  have g1 : decide (b1 < a1) = false := decide_eq_false (by omega)
  clear e1
  have l0 : decide (a0 < b0) = false := decide_eq_false (by omega)
  have g0 : decide (b0 < a0) = true := decide_eq_true (by omega)
  clear e0
  go_enter Tryz.func114, Tryz.ntmps114
  go_wp2_with fail
  refine wp_loop_rounds 5 ?_
  rw [rounds_succ]
  go_wp2_with fail
  go_quiet (fail)
  go_wp2_with fail
  go_quiet (fail)
  go_wp2_with fail
  rw [rounds_succ]
  go_wp2_with fail
  go_quiet (fail)
  go_wp2_with fail
  go_quiet (fail)
  go_wp2_with fail
  rw [rounds_succ]
  go_wp2_with fail
  go_quiet (fail)
  go_wp2_with fail
  go_quiet (fail)
  go_wp2_with fail
  rw [rounds_succ]
  go_wp2_with fail
  go_quiet (fail)
  go_wp2_with fail
  go_quiet (fail)
  go_wp2_with fail
  go_ret
  exact ⟨rfl, by repeat (first | exact Below.refl _ _ | refine Below.trans ?_ (below_drewN' _ _ _) | refine Below.drew ?_ | refine Below.alloc ?_ (by first | (simp; done) | (simp; omega)) _)⟩
set_option maxRecDepth 100000 in
theorem rcmp_e (a0 a1 a2 a3 b0 b1 b2 b3 : Nat) (ha : ok4 a0 a1 a2 a3) (hb : ok4 b0 b1 b2 b3) (e3 : a3 = b3) (e2 : a2 = b2) (e1 : a1 = b1) (e0 : a0 = b0) (w : World) :
    Calls Tryz.prog 114 #[.agg #[.int .u64 a0, .int .u64 a1, .int .u64 a2, .int .u64 a3], .agg #[.int .u64 b0, .int .u64 b1, .int .u64 b2, .int .u64 b3]] w fun e w' => e = .returned (.int .i64 (cmpN (val4 a0 a1 a2 a3) (val4 b0 b1 b2 b3))) ∧ Below w.heap.size w w' := by
  have hfin : cmpN (val4 a0 a1 a2 a3) (val4 b0 b1 b2 b3) = 0 := by
    obtain ⟨p0, p1, p2, p3⟩ := ha; obtain ⟨q0, q1, q2, q3⟩ := hb; unfold cmpN val4
    rw [if_pos (by omega)]
  rw [hfin]
  clear hfin
  have l3 : decide (a3 < b3) = false := decide_eq_false (by omega)
  have g3 : decide (b3 < a3) = false := decide_eq_false (by omega)
  clear e3
  have l2 : decide (a2 < b2) = false := decide_eq_false (by omega)
  have g2 : decide (b2 < a2) = false := decide_eq_false (by omega)
  clear e2
  have l1 : decide (a1 < b1) = false := decide_eq_false (by omega)
  have g1 : decide (b1 < a1) = false := decide_eq_false (by omega)
  clear e1
  have l0 : decide (a0 < b0) = false := decide_eq_false (by omega)
  have g0 : decide (b0 < a0) = false := decide_eq_false (by omega)
  clear e0
  go_enter Tryz.func114, Tryz.ntmps114
  go_wp2_with fail
  refine wp_loop_rounds 5 ?_
  rw [rounds_succ]
  go_wp2_with fail
  go_quiet (fail)
  go_wp2_with fail
  go_quiet (fail)
  go_wp2_with fail
  rw [rounds_succ]
  go_wp2_with fail
  go_quiet (fail)
  go_wp2_with fail
  go_quiet (fail)
  go_wp2_with fail
  rw [rounds_succ]
  go_wp2_with fail
  go_quiet (fail)
  go_wp2_with fail
  go_quiet (fail)
  go_wp2_with fail
  rw [rounds_succ]
  go_wp2_with fail
  go_quiet (fail)
  go_wp2_with fail
  go_quiet (fail)
  go_wp2_with fail
  rw [rounds_succ]
  go_wp2_with fail
  go_ret
  exact ⟨rfl, by repeat (first | exact Below.refl _ _ | refine Below.trans ?_ (below_drewN' _ _ _) | refine Below.drew ?_ | refine Below.alloc ?_ (by first | (simp; done) | (simp; omega)) _)⟩
theorem refCmp_calls (a0 a1 a2 a3 b0 b1 b2 b3 : Nat) (ha : ok4 a0 a1 a2 a3) (hb : ok4 b0 b1 b2 b3) (w : World) :
    Calls Tryz.prog 114 #[.agg #[.int .u64 a0, .int .u64 a1, .int .u64 a2, .int .u64 a3], .agg #[.int .u64 b0, .int .u64 b1, .int .u64 b2, .int .u64 b3]] w fun e w' => e = .returned (.int .i64 (cmpN (val4 a0 a1 a2 a3) (val4 b0 b1 b2 b3))) ∧ Below w.heap.size w w' := by
  rcases Nat.lt_trichotomy a3 b3 with e3 | e3 | e3
  · exact rcmp_l3 a0 a1 a2 a3 b0 b1 b2 b3 ha hb e3 w
  · rcases Nat.lt_trichotomy a2 b2 with e2 | e2 | e2
    · exact rcmp_l2 a0 a1 a2 a3 b0 b1 b2 b3 ha hb e3 e2 w
    · rcases Nat.lt_trichotomy a1 b1 with e1 | e1 | e1
      · exact rcmp_l1 a0 a1 a2 a3 b0 b1 b2 b3 ha hb e3 e2 e1 w
      · rcases Nat.lt_trichotomy a0 b0 with e0 | e0 | e0
        · exact rcmp_l0 a0 a1 a2 a3 b0 b1 b2 b3 ha hb e3 e2 e1 e0 w
        · exact rcmp_e a0 a1 a2 a3 b0 b1 b2 b3 ha hb e3 e2 e1 e0 w
        · exact rcmp_g0 a0 a1 a2 a3 b0 b1 b2 b3 ha hb e3 e2 e1 e0 w
      · exact rcmp_g1 a0 a1 a2 a3 b0 b1 b2 b3 ha hb e3 e2 e1 w
    · exact rcmp_g2 a0 a1 a2 a3 b0 b1 b2 b3 ha hb e3 e2 w
  · exact rcmp_g3 a0 a1 a2 a3 b0 b1 b2 b3 ha hb e3 w
end Go.Proofs.YtaingnhikbaplaaGreat.R1
namespace Go.Proofs.YtaingnhikbaplaaGreat.Ex
set_option linter.unusedVariables false
set_option linter.unusedSimpArgs false
open Go.RowKit

def aggT (P : Program) (t : Nat) : Bool := match P.underlying t with
  | some (.struct _) => true
  | some (.array _ _) => true
  | _ => false
def pvl : Bool → List Value → Value
  | true, xs => .agg xs.toArray
  | false, x :: _ => x
  | false, [] => undef
def is1 (P : Program) (t k : Nat) : Bool := match sizeT P t with | some m => Nat.beq m k | none => false
def cmpFs (P : Program) (g : Nat → Option Nat) : Nat → List Field → Option Nat
  | o, [] => some o
  | o, f :: r => match g f.type with
    | some k => bif (f.name != "_") && (Nat.beq f.offset o && is1 P f.type k) then cmpFs P g (o + k) r else none
    | none => none
/-- what a cell is: a word (false), a bool (true) -/
def kOf : Value → Option Bool
  | .int .u64 _ => some false
  | .bool _ => some true
  | _ => none
def kEq : List (Option Bool) → Option Bool → Bool
  | [some a], some b => a == b
  | _, _ => false
/-- so many words, if the type is one of words, bools, arrays, structs -/
def cmpN (P : Program) : Nat → Nat → Option Nat
  | 0, _ => none
  | d + 1, t => match P.underlying t with
    | some (.int .u64) => bif is1 P t 1 then some 1 else none
    | some .bool => bif is1 P t 1 then some 1 else none
    | some (.array n e) => match cmpN P d e with
      | some k => bif is1 P e k && is1 P t (n * k) then some (n * k) else none
      | none => none
    | some (.struct fs) => match cmpFs P (cmpN P d) 0 fs.toList with
      | some m => bif is1 P t m && !(P.stoodInHeld t) then some m else none
      | none => none
    | _ => none
def allN (f : Nat → Bool) : Nat → Bool
  | 0 => true
  | n + 1 => f n && allN f n
theorem allN_spec {f : Nat → Bool} : ∀ {n : Nat}, allN f n = true → ∀ i, i < n → f i = true
  | 0, _, i, hi => by omega
  | n + 1, h, i, hi => by
    unfold allN at h
    rw [Bool.and_eq_true] at h
    by_cases e : i = n
    · rw [e]; exact h.1
    · exact allN_spec h.2 i (by omega)
def fitFs (P : Program) (g : Nat → Option Nat) (h : Nat → List (Option Bool) → Bool) (ks : List (Option Bool)) : Nat → List Field → Bool
  | _, [] => true
  | o, f :: r => match g f.type with
    | some k => h f.type ((ks.drop o).take k) && fitFs P g h ks (o + k) r
    | none => false
/-- do cells of these kinds fit the type? -/
def fitK (P : Program) : Nat → Nat → List (Option Bool) → Bool
  | 0, _, _ => false
  | d + 1, t, ks => match P.underlying t with
    | some (.int .u64) => kEq ks (some false)
    | some .bool => kEq ks (some true)
    | some (.array n e) => match cmpN P d e with
      | some k => allN (fun i => fitK P d e ((ks.drop (i * k)).take k)) n
      | none => false
    | some (.struct fs) => fitFs P (cmpN P d) (fitK P d) ks 0 fs.toList
    | _ => false
def kA : At → List (Option Bool)
  | .c v => [kOf v]
  | _ => [some false, some false, some false, some false]
def kAs : List At → List (Option Bool)
  | [] => []
  | a :: r => kA a ++ kAs r
theorem kAs_spec : ∀ l : List At, (flat l).map kOf = kAs l
  | [] => rfl
  | a :: r => by
    show (a.cells ++ flat r).map kOf = kA a ++ kAs r
    rw [List.map_append, kAs_spec r]
    cases a <;> rfl
theorem is1_spec {P : Program} {t k : Nat} (h : is1 P t k = true) : sizeT P t = some k := by
  unfold is1 at h
  split at h
  · rename_i m hm; rw [hm, Nat.eq_of_beq_eq_true h]
  · cases h
theorem part_any {P : Program} {t n : Nat} (hs : sizeT P t = some n) (ht : (P.underlying t).isSome = true) (hn : aggT P t = false → n = 1) (cs : List Value) (off : Nat) (hl : off + n ≤ cs.length) (w : World) :
    (part t cs.toArray off).run P w = .ok (pvl (aggT P t) ((cs.drop off).take n)) w := by
  obtain ⟨ds, hu⟩ := Option.isSome_iff_exists.1 ht
  have hagg : (isAgg t).run P w = .ok (aggT P t) w := by
    unfold isAgg aggT
    rw [Sem.run_bind, run_underlying hu w, hu]
    cases ds <;> simp_all
  cases ha : aggT P t
  · have h1 := hn ha
    subst h1
    rw [ha] at hagg
    have hc : cs.toArray[off]? = some cs[off] := by simp
    have hd : (cs.drop off).take 1 = [cs[off]] := by
      rw [List.drop_eq_getElem_cons (by omega)]
      rfl
    unfold part
    rw [Sem.run_bind, hagg]
    simp only [Result.andThen_ok, Bool.false_eq_true, if_false]
    rw [hc, hd]
    rfl
  · rw [ha] at hagg
    simp [part, hagg, run_sizeOf hs, List.extract_eq_take_drop, pvl]
def eqElems (d e n : Nat) (xs ys : Array Value) : Nat → Nat → Sem Bool
  | _, 0 => pure true
  | i, c + 1 => do
    let a ← part e xs (i * n)
    let b ← part e ys (i * n)
    let r ← Op.equalIn d e a b
    if (!r) = true then pure false else eqElems d e n xs ys (i + 1) c
theorem run_equalIn_array {P : Program} (w : World) (d t len e n : Nat) (xs ys : Array Value) (ht : P.underlying t = some (.array len e)) (hs : sizeT P e = some n) :
    (Op.equalIn (d + 1) t (.agg xs) (.agg ys)).run P w = (eqElems d e n xs ys 0 len).run P w := by
  simp only [Op.equalIn, Sem.run_bind, run_underlying ht, Result.andThen_ok, run_sizeOf hs]
  rw [Std.Legacy.Range.forIn_eq_forIn_range']
  simp only [Std.Legacy.Range.size, Nat.sub_zero, Nat.add_sub_cancel, Nat.div_one]
  clear ht
  generalize (0 : Nat) = i
  induction len generalizing i w with
  | zero => simp [eqElems]
  | succ len ih =>
    simp only [List.range'_succ, List.forIn_cons, eqElems, Sem.run_bind, Sem.run_ite]
    generalize (part e xs (i * n)).run P w = r1
    cases r1 with
    | ok a w1 =>
      simp only [Result.andThen_ok]
      generalize (part e ys (i * n)).run P w1 = r2
      cases r2 with
      | ok b w2 =>
        simp only [Result.andThen_ok]
        generalize (Op.equalIn d e a b).run P w2 = r3
        cases r3 with
        | ok r w3 =>
          cases r
          · simp only [Result.andThen_ok, Bool.not_false, if_true, Sem.run_pure]
          · simp only [Result.andThen_ok, Bool.not_true, Bool.false_eq_true, if_false, Sem.run_pure]
            exact ih w3 (i + 1)
        | halt x w3 => simp [Result.andThen]
      | halt x w2 => simp [Result.andThen]
    | halt x w1 => simp [Result.andThen]
theorem cmpN_pos : ∀ {P : Program} {d t n : Nat}, cmpN P d t = some n → sizeT P t = some n ∧ (P.underlying t).isSome = true ∧ (aggT P t = false → n = 1)
  | P, 0, t, n, h => by cases h
  | P, d + 1, t, n, h => by
    unfold cmpN at h
    unfold aggT
    split at h
    · rename_i hu
      cases hb : is1 P t 1 <;> rw [hb] at h
      · cases h
      · cases h
        exact ⟨is1_spec hb, by rw [hu]; rfl, fun _ => rfl⟩
    · rename_i hu
      cases hb : is1 P t 1 <;> rw [hb] at h
      · cases h
      · cases h
        exact ⟨is1_spec hb, by rw [hu]; rfl, fun _ => rfl⟩
    · rename_i len e hu
      split at h
      · rename_i k hk
        cases hb : (is1 P e k && is1 P t (len * k)) <;> rw [hb] at h
        · cases h
        · cases h
          rw [Bool.and_eq_true] at hb
          exact ⟨is1_spec hb.2, by rw [hu]; rfl, fun h => by rw [hu] at h; cases h⟩
      · cases h
    · rename_i fs hu
      split at h
      · rename_i m hm
        cases hb : (is1 P t m && !(P.stoodInHeld t)) <;> rw [hb] at h
        · cases h
        · cases h
          rw [Bool.and_eq_true] at hb
          exact ⟨is1_spec hb.1, by rw [hu]; rfl, fun h => by rw [hu] at h; cases h⟩
      · cases h
    · cases h
theorem take_drop_eq {α : Type} {xs ys : List α} {o k : Nat} : (xs.drop o = ys.drop o) ↔ ((xs.drop o).take k = (ys.drop o).take k ∧ xs.drop (o + k) = ys.drop (o + k)) := by
  constructor
  · intro h
    refine ⟨by rw [h], ?_⟩
    rw [← List.drop_drop, ← List.drop_drop, h]
  · rintro ⟨h1, h2⟩
    rw [← List.take_append_drop k (xs.drop o), ← List.take_append_drop k (ys.drop o), h1, List.drop_drop, List.drop_drop, h2]
theorem kinds_sub (xs : List Value) (o k : Nat) : ((xs.drop o).take k).map kOf = ((xs.map kOf).drop o).take k := by rw [List.map_take, List.map_drop]
theorem kEq_word {x : Value} (h : kEq [kOf x] (some false) = true) : ∃ n : Int, x = .int .u64 n := by
  cases x with
  | int k n => cases k <;> first | exact ⟨n, rfl⟩ | cases h
  | bool b => cases h
  | _ => cases h
theorem kEq_bool {x : Value} (h : kEq [kOf x] (some true) = true) : ∃ b : Bool, x = .bool b := by
  cases x with
  | int k n => cases k <;> cases h
  | bool b => exact ⟨b, rfl⟩
  | _ => cases h
open Classical in
/-- equal just if the words are -/
theorem cmp_run {P : Program} : ∀ {d t n : Nat}, cmpN P d t = some n → ∀ (D : Nat), d ≤ D → ∀ (xs ys : List Value) (w : World), xs.length = n → ys.length = n → fitK P d t (xs.map kOf) = true → fitK P d t (ys.map kOf) = true →
    (Op.equalIn D t (pvl (aggT P t) xs) (pvl (aggT P t) ys)).run P w = .ok (decide (xs = ys)) w
  | 0, t, n, h => by cases h
  | d + 1, t, n, h => by
    intro D hD xs ys w hx hy wx wy
    match D, hD with
    | D + 1, hD =>
    have hd : d ≤ D := by omega
    unfold cmpN at h
    unfold fitK at wx wy
    split at h
    · rename_i hu
      rw [hu] at wx wy
      cases hb : is1 P t 1 <;> rw [hb] at h
      · cases h
      · cases h
        have ha : aggT P t = false := by unfold aggT; rw [hu]
        rw [ha]
        match xs, ys, hx, hy with
        | [x], [y], _, _ =>
          obtain ⟨a, rfl⟩ := kEq_word wx
          obtain ⟨b, rfl⟩ := kEq_word wy
          refine (run_equalIn_int w D t .u64 .u64 a b hu).trans ?_
          congr 1
          by_cases e : a = b <;> simp [e]
    · rename_i hu
      rw [hu] at wx wy
      cases hb : is1 P t 1 <;> rw [hb] at h
      · cases h
      · cases h
        have ha : aggT P t = false := by unfold aggT; rw [hu]
        rw [ha]
        match xs, ys, hx, hy with
        | [x], [y], _, _ =>
          obtain ⟨a, rfl⟩ := kEq_bool wx
          obtain ⟨b, rfl⟩ := kEq_bool wy
          refine (run_equalIn_bool w D t a b hu).trans ?_
          congr 1
          by_cases e : a = b <;> simp [e]
    · rename_i len e hu
      split at h
      · rename_i k hk
        cases hb : (is1 P e k && is1 P t (len * k)) <;> rw [hb] at h
        · cases h
        · cases h
          rw [Bool.and_eq_true] at hb
          have ha : aggT P t = true := by unfold aggT; rw [hu]
          rw [ha]
          refine (run_equalIn_array w D t len e k _ _ hu (is1_spec hb.1)).trans ?_
          obtain ⟨p1, p2, p3⟩ := cmpN_pos hk
          rw [hu] at wx wy
          simp only [hk] at wx wy
          have key : ∀ (c i : Nat) (w : World), i + c = len → (eqElems D e k xs.toArray ys.toArray i c).run P w = .ok (decide (xs.drop (i * k) = ys.drop (i * k))) w := by
            intro c
            induction c with
            | zero =>
              intro i w hi
              have hi' : i = len := by omega
              subst hi'
              have h1 : xs.length ≤ i * k := by omega
              have h2 : ys.length ≤ i * k := by omega
              simp [eqElems, List.drop_of_length_le h1, List.drop_of_length_le h2]
            | succ c ih =>
              intro i w hi
              have hle : i * k + k ≤ len * k := by
                have := Nat.mul_le_mul_right k (show i + 1 ≤ len by omega)
                rw [Nat.add_mul, Nat.one_mul] at this
                exact this
              unfold eqElems
              simp only [Sem.run_bind, part_any p1 p2 p3 xs (i * k) (by omega), part_any p1 p2 p3 ys (i * k) (by omega), Result.andThen_ok]
              rw [cmp_run hk D hd ((xs.drop (i * k)).take k) ((ys.drop (i * k)).take k) w (by simp; omega) (by simp; omega) (by rw [kinds_sub]; exact allN_spec wx i (by omega)) (by rw [kinds_sub]; exact allN_spec wy i (by omega))]
              simp only [Result.andThen_ok]
              have hs := take_drop_eq (xs := xs) (ys := ys) (o := i * k) (k := k)
              rw [show i * k + k = (i + 1) * k by rw [Nat.add_mul, Nat.one_mul]] at hs
              by_cases q : (xs.drop (i * k)).take k = (ys.drop (i * k)).take k
              · rw [decide_eq_true q]
                simp only [Bool.not_true, Bool.false_eq_true, if_false]
                rw [ih (i + 1) w (by omega)]
                congr 1
                rw [decide_eq_decide]
                exact ⟨fun h => hs.2 ⟨q, h⟩, fun h => (hs.1 h).2⟩
              · rw [decide_eq_false q, decide_eq_false (fun h => q (hs.1 h).1)]
                simp
          have := key len 0 w (by omega)
          rw [Nat.zero_mul, List.drop_zero, List.drop_zero] at this
          exact this
      · cases h
    · rename_i fs hu
      split at h
      · rename_i m hm
        cases hb : (is1 P t m && !(P.stoodInHeld t)) <;> rw [hb] at h
        · cases h
        · cases h
          rw [Bool.and_eq_true, Bool.not_eq_true'] at hb
          have ha : aggT P t = true := by unfold aggT; rw [hu]
          rw [ha]
          have hf : P.fieldsOf t = fs := by simp [Program.fieldsOf, hu]
          refine (run_equalIn_struct w D t xs.toArray ys.toArray (by rw [hf]; exact hu) hb.2).trans ?_
          rw [hf]
          rw [hu] at wx wy
          have key : ∀ (l : List Field) (o m : Nat) (w : World), fitFs P (cmpN P d) (fitK P d) (xs.map kOf) o l = true → fitFs P (cmpN P d) (fitK P d) (ys.map kOf) o l = true → cmpFs P (cmpN P d) o l = some m → m ≤ xs.length → xs.length = ys.length → o ≤ m ∧ (Op.eqFields D xs.toArray ys.toArray l).run P w = .ok (decide ((xs.drop o).take (m - o) = (ys.drop o).take (m - o))) w := by
            intro l
            induction l with
            | nil =>
              intro o m w _ _ h1 h2 h3
              cases h1
              simp [Op.eqFields]
            | cons f r ih =>
              intro o m w vx vy h1 h2 h3
              unfold cmpFs at h1
              unfold fitFs at vx vy
              split at h1
              · rename_i k hk
                simp only [hk] at vx vy
                rw [Bool.and_eq_true] at vx vy
                cases hc : ((f.name != "_") && (Nat.beq f.offset o && is1 P f.type k)) <;> rw [hc] at h1
                · cases h1
                · simp only [cond_true] at h1
                  rw [Bool.and_eq_true, Bool.and_eq_true] at hc
                  obtain ⟨c1, c2, c3⟩ := hc
                  have ho := Nat.eq_of_beq_eq_true c2
                  obtain ⟨g1, g2⟩ := ih (o + k) m w vx.2 vy.2 h1 h2 h3
                  refine ⟨by omega, ?_⟩
                  obtain ⟨p1, p2, p3⟩ := cmpN_pos hk
                  unfold Op.eqFields
                  rw [if_pos (by simpa using c1), ho]
                  simp only [Sem.run_bind, part_any p1 p2 p3 xs o (by omega), part_any p1 p2 p3 ys o (by omega), Result.andThen_ok]
                  rw [cmp_run hk D hd ((xs.drop o).take k) ((ys.drop o).take k) w (by simp; omega) (by simp; omega) (by rw [kinds_sub]; exact vx.1) (by rw [kinds_sub]; exact vy.1)]
                  simp only [Result.andThen_ok]
                  have hs : ((xs.drop o).take (m - o) = (ys.drop o).take (m - o)) ↔ ((xs.drop o).take k = (ys.drop o).take k ∧ (xs.drop (o + k)).take (m - (o + k)) = (ys.drop (o + k)).take (m - (o + k))) := by
                    have e : m - o = k + (m - (o + k)) := by omega
                    rw [e, List.take_add, List.take_add, List.drop_drop, List.drop_drop]
                    constructor
                    · intro h
                      exact List.append_inj h (by simp; omega)
                    · rintro ⟨a, b⟩
                      rw [a, b]
                  by_cases q : (xs.drop o).take k = (ys.drop o).take k
                  · rw [decide_eq_true q]
                    simp only [Bool.not_true, Bool.false_eq_true, if_false]
                    rw [g2]
                    congr 1
                    rw [decide_eq_decide]
                    exact ⟨fun h => hs.2 ⟨q, h⟩, fun h => (hs.1 h).2⟩
                  · rw [decide_eq_false q, decide_eq_false (fun h => q (hs.1 h).1)]
                    simp
              · cases h1
          have := (key fs.toList 0 _ w wx wy hm (by omega) (by omega)).2
          rw [Nat.sub_zero, List.drop_zero, List.drop_zero, List.take_of_length_le (by omega), List.take_of_length_le (by omega)] at this
          exact this
      · cases h
    · cases h
def gq (P : Program) (t : Nat) : Option Nat := match cmpN P 9 t with
  | some n => bif aggT P t && !(P.eqGuardType P.depth t) then some n else none
  | none => none
/-- all types of words may be held against each other -/
def qG (P : Program) : EqT := { q := gq P, n := gq P, fit := fun t l => fitK P 9 t (kAs l) }
open Classical in
theorem qG_ok (P : Program) : EqOk P (qG P) := by
  have h0 : ∀ t n, gq P t = some n → P.eqGuardType P.depth t = false ∧ ∀ (l m : List At) (w : World), fsz l = n → fsz m = n → fitK P 9 t (kAs l) = true → fitK P 9 t (kAs m) = true → (Op.equalIn 10000 t (.agg (flat l).toArray) (.agg (flat m).toArray)).run P w = .ok (decide (flat l = flat m)) w := by
    intro t n h
    unfold gq at h
    split at h
    · rename_i k hk
      cases hb : (aggT P t && !(P.eqGuardType P.depth t)) <;> rw [hb] at h
      · cases h
      · cases h
        rw [Bool.and_eq_true, Bool.not_eq_true'] at hb
        refine ⟨hb.2, fun l m w h1 h2 h3 h4 => ?_⟩
        have := cmp_run hk 10000 (by omega) (flat l) (flat m) w (by rw [flat_len, h1]) (by rw [flat_len, h2]) (by rw [kAs_spec]; exact h3) (by rw [kAs_spec]; exact h4)
        rw [hb.1] at this
        exact this
    · cases h
  refine ⟨⟨fun t n h => ?_, fun t n h => ?_⟩, rfl⟩
  · obtain ⟨h1, h2⟩ := h0 t n h
    exact ⟨h1, fun l w hl hn => by rw [h2 l l w hl hl hn hn, decide_eq_true rfl]⟩
  · obtain ⟨h1, h2⟩ := h0 t n h
    exact ⟨h1, fun l m w hl hm hn hn' hne => by rw [h2 l m w hl hm hn hn', decide_eq_false hne]⟩
end Go.Proofs.YtaingnhikbaplaaGreat.Ex
namespace Go.Proofs.YtaingnhikbaplaaGreat.Ex
set_option linter.unusedVariables false
set_option linter.unusedSimpArgs false
open Go.RowKit

/-- two tables: what the first does not say the second may -/
def Tab.or (T U : Tab) : Tab := fun f cs => match T f cs with | some r => some r | none => U f cs
theorem TabOk.or {P : Program} {T U : Tab} (h : TabOk P T) (k : TabOk P U) : TabOk P (T.or U) := by
  intro f cs pre r hg hp
  unfold Tab.or at hg
  split at hg
  · rename_i x hx
    cases hg
    exact h f cs pre r hx hp
  · exact k f cs pre r hg hp
/-- facts whose rows lie as others do -/
theorem Holds.same {nt base : Nat} {w0 : World} {A A' : List Fact} {a : Act} {w : World} (h : Holds nt base w0 A a w) (hs : ∀ φ ∈ A', φ ∈ A ∨ ∃ k o l l', φ = .row k o l' ∧ .row k o l ∈ A ∧ flat l = flat l') : Holds nt base w0 A' a w := by
  obtain ⟨β, h1, h2⟩ := h.facts
  refine ⟨h.defers, h.size, h.below, h.heap, β, fun φ hφ => ?_, fun k k' l l' hk hk' hne => ?_⟩
  · rcases hs φ hφ with h3 | ⟨k, o, l, l', rfl, h3, h4⟩
    · exact h1 φ h3
    · have := h1 _ h3
      simp only [Fact.ok] at this ⊢
      rw [← h4]
      exact this
  · have hr : ∀ k l, Fact.row k true l ∈ A' → ∃ m, Fact.row k true m ∈ A := fun k l hk => by
      rcases hs _ hk with h3 | ⟨k1, o, m, m', e, h3, h4⟩
      · exact ⟨l, h3⟩
      · cases e
        exact ⟨m, h3⟩
    obtain ⟨m, hm⟩ := hr k l hk
    obtain ⟨m', hm'⟩ := hr k' l' hk'
    exact h2 k k' m m' hm hm' hne
noncomputable def T_all (c : Bool) : Tab := (T_Bit c).or (T_rV6 c)
theorem ok_all (c : Bool) : TabOk Tryz.prog (T_all c) := (ok_Bit c).or (ok_rV6 c)
set_option maxRecDepth 100000 in
theorem run_Square12 (c : Bool) (x : N12) : funA Tryz.prog (T_all c) qN (fun _ => true) Tryz.f128 40 [.v (.fl (q12 x))] = some ([], .one (.fl (e12 (F12.mul (m12 x) (m12 x))))) := by kernel_rfl
noncomputable def T_Square12 (c : Bool) : Tab := (T_all c).add 128 (g1 rv12 (fun x => ([], .one (.fl (e12 (F12.mul x x))))))
theorem ok_Square12 (c : Bool) : TabOk Tryz.prog (T_Square12 c) := (ok_all c).add Tryz.func128 (by kernel_rfl) (by kernel_rfl) (g1v_ok rv12_ok fun x hp args w ha => fun_sound hmix (ok_all c) qN_ok Tryz.func128 (run_Square12 c x) hp ha)
set_option maxRecDepth 100000 in
theorem run_rOne12 (c : Bool) : funA Tryz.prog (T_Square12 c) qN (fun _ => true) Tryz.f29 40 [] = some ([], .one (.fl (e12 F12.one))) := by kernel_rfl
noncomputable def T_rOne12 (c : Bool) : Tab := (T_Square12 c).add 29 (g0 (.one (.fl (e12 F12.one))))
theorem ok_rOne12 (c : Bool) : TabOk Tryz.prog (T_rOne12 c) := (ok_Square12 c).add Tryz.func29 (by kernel_rfl) (by kernel_rfl) (g0_ok fun w => fun_sound hmix (ok_Square12 c) qN_ok Tryz.func29 (run_rOne12 c) trivial (args := []) trivial)
set_option maxRecDepth 100000 in
theorem run_rMul12 (c : Bool) (x : N12) (y : N12) : funA Tryz.prog (T_rOne12 c) qN (fun _ => true) Tryz.f141 40 [.v (.fl (q12 x)), .v (.fl (q12 y))] = some ([], .one (.fl (e12 (F12.mul (m12 x) (m12 y))))) := by kernel_rfl
noncomputable def T_rMul12 (c : Bool) : Tab := (T_rOne12 c).add 141 (g2 rv12 rv12 (fun x y => ([], .one (.fl (e12 (F12.mul x y))))))
theorem ok_rMul12 (c : Bool) : TabOk Tryz.prog (T_rMul12 c) := (ok_rOne12 c).add Tryz.func141 (by kernel_rfl) (by kernel_rfl) (g2v_ok rv12_ok rv12_ok fun x y hp args w ha => fun_sound hmix (ok_rOne12 c) qN_ok Tryz.func141 (run_rMul12 c x y) hp ha)
theorem rlen_ok : ∀ cs pre r, gLen cs = some (pre, r) → allP pre → ∀ (args : List Value) (w : World), CAs w cs args → Good Tryz.prog 140 r args w := by
  intro cs pre r hg hp args w ha
  unfold gLen at hg
  split at hg
  · rename_i l
    split at hg
    · rename_i n hn
      cases hg
      rw [args1 ha, rq1_ok l _ hn]
      refine (R1.refLen_calls _ _ _ _ (fw_ok n) w).mono ?_
      rintro e w' ⟨L, rfl, _, h, hbl⟩
      cases h.uniq (lenF_is n)
      exact ⟨rfl, hbl⟩
    · cases hg
  · cases hg
theorem rbit_ok : ∀ cs pre r, gBit cs = some (pre, r) → allP pre → ∀ (args : List Value) (w : World), CAs w cs args → Good Tryz.prog 142 r args w := by
  intro cs pre r hg hp args w ha
  unfold gBit at hg
  split at hg
  · rename_i l i
    split at hg
    · rename_i n hn
      cases hg
      match args, ha with
      | [v, u], ha =>
        have h1 : v = .agg (flat l).toArray := ha.1
        have h2 : u = .int .i64 (Int.ofNat i) := ha.2.1
        rw [rq1_ok l _ hn] at h1
        subst h1; subst h2
        exact refBit_in _ _ _ _ i (fw_ok n) hp.1 w
      | [], ha => exact ha.elim
      | [_], ha => exact ha.2.elim
      | _ :: _ :: _ :: _, ha => exact ha.2.2.elim
    · cases hg
  · cases hg

noncomputable def T_r1Len (c : Bool) : Tab := (T_rMul12 c).add 140 gLen
theorem ok_r1Len (c : Bool) : TabOk Tryz.prog (T_r1Len c) := (ok_rMul12 c).add Tryz.func140 (by kernel_rfl) (by kernel_rfl) rlen_ok
noncomputable def T_r1Bit (c : Bool) : Tab := (T_r1Len c).add 142 gBit
theorem ok_r1Bit (c : Bool) : TabOk Tryz.prog (T_r1Bit c) := (ok_r1Len c).add Tryz.func142 (by kernel_rfl) (by kernel_rfl) rbit_ok
/-- the counter: from the highest bit down to -1 -/
def cnt (L i : Nat) : Int := if i < L then Int.ofNat (L - 1 - i) else -1
theorem cnt_lt {L i : Nat} (h : i < L) : cnt L i = Int.ofNat (L - 1 - i) := if_pos h
theorem cnt_end (L : Nat) : cnt L L = -1 := if_neg (Nat.lt_irrefl _)
theorem cnt_val {L i : Nat} (h : i ≤ L) : cnt L i = (L : Int) - 1 - i := by
  unfold cnt
  split
  · show ((L - 1 - i : Nat) : Int) = _; omega
  · omega
theorem cnt_next {L i : Nat} (h : i < L) (hL : L ≤ 256) : intOp .sub .i64 (Int.ofNat (L - 1 - i)) 1 = some (.int .i64 (cnt L (i + 1))) := by
  show some (Value.int .i64 (IntKind.i64.wrap (((L - 1 - i : Nat) : Int) - 1))) = _
  rw [i64_small _ (by omega) (by omega), cnt_val (show i + 1 ≤ L by omega)]
  congr 2; omega
theorem cnt_first {L : Nat} (hL : L ≤ 256) : intOp .sub .i64 (L : Nat) 1 = some (.int .i64 (cnt L 0)) := by
  show some (Value.int .i64 (IntKind.i64.wrap ((L : Int) - 1))) = _
  rw [i64_small _ (by omega) (by omega), cnt_val (Nat.zero_le L)]
  congr 2; omega
def gMod : Ent
  | [.v (.im (.int .i64 (.ofNat 1)))] => some ([], .one (.fl (q1 FP.M)))
  | _ => none
theorem mod_ok : ∀ cs pre r, gMod cs = some (pre, r) → allP pre → ∀ (args : List Value) (w : World), CAs w cs args → Good Tryz.prog 143 r args w := by
  intro cs pre r hg hp args w ha
  unfold gMod at hg
  split at hg
  · cases hg
    match args, ha with
    | [v], ha =>
      have h1 : v = .int .i64 1 := ha.1
      subst h1
      exact (rmod_some 1 FP fld1 w).mono fun e w' h => h
    | [], ha => exact ha.elim
    | _ :: _ :: _, ha => exact ha.2.elim
  · cases hg
noncomputable def T_r2Modulus (c : Bool) : Tab := (T_r1Bit c).add 143 gMod
theorem ok_r2Modulus (c : Bool) : TabOk Tryz.prog (T_r2Modulus c) := (ok_r1Bit c).add Tryz.func143 (by kernel_rfl) (by kernel_rfl) mod_ok
theorem cj_cj12 (x : Q12) : cj12 (cj12 x) = x := by
  refine Prod.ext rfl ?_
  show F6.add F6.zero (F6.neg (F6.add F6.zero (F6.neg x.2))) = x.2
  rw [F6.zero_add, F6.zero_add, F6.neg_neg]
/-- what lies behind i rounds -/
def rowR (x : N12) : Nat → List At
  | 0 => q12 x
  | i + 1 => e12 (it12 (i + 1) (m12 x))
end Go.Proofs.YtaingnhikbaplaaGreat.Ex
