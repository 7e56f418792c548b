/-
  The call of the reference's Cmp: for any two numbers of four words, in any world, the order. Conditions: each word below 2^64.
-/
import Derived.Test.YtgacpjmggdmgdaaRow
import Derived.Test.YtgacpjmggdmgdaaWord
namespace Go.Proofs.Ytgacpjmggdmgdaa
set_option linter.unusedVariables false
set_option linter.unusedSimpArgs false
open Go.RowKit

set_option maxRecDepth 100000 in
theorem rcmp_l3 (a0 a1 a2 a3 b0 b1 b2 b3 : Nat) (ha : ok4 a0 a1 a2 a3) (hb : ok4 b0 b1 b2 b3) (e3 : a3 < b3) (w : World) :
    Calls Try.prog 30 #[.agg #[.int .u64 a0, .int .u64 a1, .int .u64 a2, .int .u64 a3], .agg #[.int .u64 b0, .int .u64 b1, .int .u64 b2, .int .u64 b3]] w fun e w' => e = .returned (.int .i64 (cmpN (val4 a0 a1 a2 a3) (val4 b0 b1 b2 b3))) ∧ Below w.heap.size w w' := by
  have hfin : cmpN (val4 a0 a1 a2 a3) (val4 b0 b1 b2 b3) = -1 := by
    obtain ⟨p0, p1, p2, p3⟩ := ha; obtain ⟨q0, q1, q2, q3⟩ := hb; unfold cmpN val4
    rw [if_neg (by omega), if_pos (by omega)]
  rw [hfin]
  clear hfin
  have l3 : decide (a3 < b3) = true := decide_eq_true (by omega)
  clear e3
  go_enter Try.func30, Try.ntmps30
  go_wp2_with fail
  refine wp_loop_rounds 5 ?_
  rw [rounds_succ]
  go_wp2_with fail
  go_quiet (fail)
  go_wp2_with fail
  go_ret
  exact ⟨rfl, by repeat (first | exact Below.refl _ _ | refine Below.trans ?_ (below_drewN' _ _ _) | refine Below.drew ?_ | refine Below.alloc ?_ (by first | (simp; done) | (simp; omega)) _)⟩
set_option maxRecDepth 100000 in
theorem rcmp_g3 (a0 a1 a2 a3 b0 b1 b2 b3 : Nat) (ha : ok4 a0 a1 a2 a3) (hb : ok4 b0 b1 b2 b3) (e3 : b3 < a3) (w : World) :
    Calls Try.prog 30 #[.agg #[.int .u64 a0, .int .u64 a1, .int .u64 a2, .int .u64 a3], .agg #[.int .u64 b0, .int .u64 b1, .int .u64 b2, .int .u64 b3]] w fun e w' => e = .returned (.int .i64 (cmpN (val4 a0 a1 a2 a3) (val4 b0 b1 b2 b3))) ∧ Below w.heap.size w w' := by
  have hfin : cmpN (val4 a0 a1 a2 a3) (val4 b0 b1 b2 b3) = 1 := by
    obtain ⟨p0, p1, p2, p3⟩ := ha; obtain ⟨q0, q1, q2, q3⟩ := hb; unfold cmpN val4
    rw [if_neg (by omega), if_neg (by omega)]
  rw [hfin]
  clear hfin
  have l3 : decide (a3 < b3) = false := decide_eq_false (by omega)
  have g3 : decide (b3 < a3) = true := decide_eq_true (by omega)
  clear e3
  go_enter Try.func30, Try.ntmps30
  go_wp2_with fail
  refine wp_loop_rounds 5 ?_
  rw [rounds_succ]
  go_wp2_with fail
  go_quiet (fail)
  go_wp2_with fail
  go_quiet (fail)
  go_wp2_with fail
  go_ret
  exact ⟨rfl, by repeat (first | exact Below.refl _ _ | refine Below.trans ?_ (below_drewN' _ _ _) | refine Below.drew ?_ | refine Below.alloc ?_ (by first | (simp; done) | (simp; omega)) _)⟩
set_option maxRecDepth 100000 in
theorem rcmp_l2 (a0 a1 a2 a3 b0 b1 b2 b3 : Nat) (ha : ok4 a0 a1 a2 a3) (hb : ok4 b0 b1 b2 b3) (e3 : a3 = b3) (e2 : a2 < b2) (w : World) :
    Calls Try.prog 30 #[.agg #[.int .u64 a0, .int .u64 a1, .int .u64 a2, .int .u64 a3], .agg #[.int .u64 b0, .int .u64 b1, .int .u64 b2, .int .u64 b3]] w fun e w' => e = .returned (.int .i64 (cmpN (val4 a0 a1 a2 a3) (val4 b0 b1 b2 b3))) ∧ Below w.heap.size w w' := by
  have hfin : cmpN (val4 a0 a1 a2 a3) (val4 b0 b1 b2 b3) = -1 := by
    obtain ⟨p0, p1, p2, p3⟩ := ha; obtain ⟨q0, q1, q2, q3⟩ := hb; unfold cmpN val4
    rw [if_neg (by omega), if_pos (by omega)]
  rw [hfin]
  clear hfin
  have l3 : decide (a3 < b3) = false := decide_eq_false (by omega)
  have g3 : decide (b3 < a3) = false := decide_eq_false (by omega)
  clear e3
  have l2 : decide (a2 < b2) = true := decide_eq_true (by omega)
  clear e2
  go_enter Try.func30, Try.ntmps30
  go_wp2_with fail
  refine wp_loop_rounds 5 ?_
  rw [rounds_succ]
  go_wp2_with fail
  go_quiet (fail)
  go_wp2_with fail
  go_quiet (fail)
  go_wp2_with fail
  rw [rounds_succ]
  go_wp2_with fail
  go_quiet (fail)
  go_wp2_with fail
  go_ret
  exact ⟨rfl, by repeat (first | exact Below.refl _ _ | refine Below.trans ?_ (below_drewN' _ _ _) | refine Below.drew ?_ | refine Below.alloc ?_ (by first | (simp; done) | (simp; omega)) _)⟩
set_option maxRecDepth 100000 in
theorem rcmp_g2 (a0 a1 a2 a3 b0 b1 b2 b3 : Nat) (ha : ok4 a0 a1 a2 a3) (hb : ok4 b0 b1 b2 b3) (e3 : a3 = b3) (e2 : b2 < a2) (w : World) :
    Calls Try.prog 30 #[.agg #[.int .u64 a0, .int .u64 a1, .int .u64 a2, .int .u64 a3], .agg #[.int .u64 b0, .int .u64 b1, .int .u64 b2, .int .u64 b3]] w fun e w' => e = .returned (.int .i64 (cmpN (val4 a0 a1 a2 a3) (val4 b0 b1 b2 b3))) ∧ Below w.heap.size w w' := by
  have hfin : cmpN (val4 a0 a1 a2 a3) (val4 b0 b1 b2 b3) = 1 := by
    obtain ⟨p0, p1, p2, p3⟩ := ha; obtain ⟨q0, q1, q2, q3⟩ := hb; unfold cmpN val4
    rw [if_neg (by omega), if_neg (by omega)]
  rw [hfin]
  clear hfin
  have l3 : decide (a3 < b3) = false := decide_eq_false (by omega)
  have g3 : decide (b3 < a3) = false := decide_eq_false (by omega)
  clear e3
  have l2 : decide (a2 < b2) = false := decide_eq_false (by omega)
  have g2 : decide (b2 < a2) = true := decide_eq_true (by omega)
  clear e2
  go_enter Try.func30, Try.ntmps30
  go_wp2_with fail
  refine wp_loop_rounds 5 ?_
  rw [rounds_succ]
  go_wp2_with fail
  go_quiet (fail)
  go_wp2_with fail
  go_quiet (fail)
  go_wp2_with fail
  rw [rounds_succ]
  go_wp2_with fail
  go_quiet (fail)
  go_wp2_with fail
  go_quiet (fail)
  go_wp2_with fail
  go_ret
  exact ⟨rfl, by repeat (first | exact Below.refl _ _ | refine Below.trans ?_ (below_drewN' _ _ _) | refine Below.drew ?_ | refine Below.alloc ?_ (by first | (simp; done) | (simp; omega)) _)⟩
set_option maxRecDepth 100000 in
theorem rcmp_l1 (a0 a1 a2 a3 b0 b1 b2 b3 : Nat) (ha : ok4 a0 a1 a2 a3) (hb : ok4 b0 b1 b2 b3) (e3 : a3 = b3) (e2 : a2 = b2) (e1 : a1 < b1) (w : World) :
    Calls Try.prog 30 #[.agg #[.int .u64 a0, .int .u64 a1, .int .u64 a2, .int .u64 a3], .agg #[.int .u64 b0, .int .u64 b1, .int .u64 b2, .int .u64 b3]] w fun e w' => e = .returned (.int .i64 (cmpN (val4 a0 a1 a2 a3) (val4 b0 b1 b2 b3))) ∧ Below w.heap.size w w' := by
  have hfin : cmpN (val4 a0 a1 a2 a3) (val4 b0 b1 b2 b3) = -1 := by
    obtain ⟨p0, p1, p2, p3⟩ := ha; obtain ⟨q0, q1, q2, q3⟩ := hb; unfold cmpN val4
    rw [if_neg (by omega), if_pos (by omega)]
  rw [hfin]
  clear hfin
  have l3 : decide (a3 < b3) = false := decide_eq_false (by omega)
  have g3 : decide (b3 < a3) = false := decide_eq_false (by omega)
  clear e3
  have l2 : decide (a2 < b2) = false := decide_eq_false (by omega)
  have g2 : decide (b2 < a2) = false := decide_eq_false (by omega)
  clear e2
  have l1 : decide (a1 < b1) = true := decide_eq_true (by omega)
  clear e1
  go_enter Try.func30, Try.ntmps30
  go_wp2_with fail
  refine wp_loop_rounds 5 ?_
  rw [rounds_succ]
  go_wp2_with fail
  go_quiet (fail)
  go_wp2_with fail
  go_quiet (fail)
  go_wp2_with fail
  rw [rounds_succ]
  go_wp2_with fail
  go_quiet (fail)
  go_wp2_with fail
  go_quiet (fail)
  go_wp2_with fail
  rw [rounds_succ]
  go_wp2_with fail
  go_quiet (fail)
  go_wp2_with fail
  go_ret
  exact ⟨rfl, by repeat (first | exact Below.refl _ _ | refine Below.trans ?_ (below_drewN' _ _ _) | refine Below.drew ?_ | refine Below.alloc ?_ (by first | (simp; done) | (simp; omega)) _)⟩
set_option maxRecDepth 100000 in
theorem rcmp_g1 (a0 a1 a2 a3 b0 b1 b2 b3 : Nat) (ha : ok4 a0 a1 a2 a3) (hb : ok4 b0 b1 b2 b3) (e3 : a3 = b3) (e2 : a2 = b2) (e1 : b1 < a1) (w : World) :
    Calls Try.prog 30 #[.agg #[.int .u64 a0, .int .u64 a1, .int .u64 a2, .int .u64 a3], .agg #[.int .u64 b0, .int .u64 b1, .int .u64 b2, .int .u64 b3]] w fun e w' => e = .returned (.int .i64 (cmpN (val4 a0 a1 a2 a3) (val4 b0 b1 b2 b3))) ∧ Below w.heap.size w w' := by
  have hfin : cmpN (val4 a0 a1 a2 a3) (val4 b0 b1 b2 b3) = 1 := by
    obtain ⟨p0, p1, p2, p3⟩ := ha; obtain ⟨q0, q1, q2, q3⟩ := hb; unfold cmpN val4
    rw [if_neg (by omega), if_neg (by omega)]
  rw [hfin]
  clear hfin
  have l3 : decide (a3 < b3) = false := decide_eq_false (by omega)
  have g3 : decide (b3 < a3) = false := decide_eq_false (by omega)
  clear e3
  have l2 : decide (a2 < b2) = false := decide_eq_false (by omega)
  have g2 : decide (b2 < a2) = false := decide_eq_false (by omega)
  clear e2
  have l1 : decide (a1 < b1) = false := decide_eq_false (by omega)
  have g1 : decide (b1 < a1) = true := decide_eq_true (by omega)
  clear e1
  go_enter Try.func30, Try.ntmps30
  go_wp2_with fail
  refine wp_loop_rounds 5 ?_
  rw [rounds_succ]
  go_wp2_with fail
  go_quiet (fail)
  go_wp2_with fail
  go_quiet (fail)
  go_wp2_with fail
  rw [rounds_succ]
  go_wp2_with fail
  go_quiet (fail)
  go_wp2_with fail
  go_quiet (fail)
  go_wp2_with fail
  rw [rounds_succ]
  go_wp2_with fail
  go_quiet (fail)
  go_wp2_with fail
  go_quiet (fail)
  go_wp2_with fail
  go_ret
  exact ⟨rfl, by repeat (first | exact Below.refl _ _ | refine Below.trans ?_ (below_drewN' _ _ _) | refine Below.drew ?_ | refine Below.alloc ?_ (by first | (simp; done) | (simp; omega)) _)⟩
set_option maxRecDepth 100000 in
theorem rcmp_l0 (a0 a1 a2 a3 b0 b1 b2 b3 : Nat) (ha : ok4 a0 a1 a2 a3) (hb : ok4 b0 b1 b2 b3) (e3 : a3 = b3) (e2 : a2 = b2) (e1 : a1 = b1) (e0 : a0 < b0) (w : World) :
    Calls Try.prog 30 #[.agg #[.int .u64 a0, .int .u64 a1, .int .u64 a2, .int .u64 a3], .agg #[.int .u64 b0, .int .u64 b1, .int .u64 b2, .int .u64 b3]] w fun e w' => e = .returned (.int .i64 (cmpN (val4 a0 a1 a2 a3) (val4 b0 b1 b2 b3))) ∧ Below w.heap.size w w' := by
  have hfin : cmpN (val4 a0 a1 a2 a3) (val4 b0 b1 b2 b3) = -1 := by
    obtain ⟨p0, p1, p2, p3⟩ := ha; obtain ⟨q0, q1, q2, q3⟩ := hb; unfold cmpN val4
    rw [if_neg (by omega), if_pos (by omega)]
  rw [hfin]
  clear hfin
  have l3 : decide (a3 < b3) = false := decide_eq_false (by omega)
  have g3 : decide (b3 < a3) = false := decide_eq_false (by omega)
  clear e3
  have l2 : decide (a2 < b2) = false := decide_eq_false (by omega)
  have g2 : decide (b2 < a2) = false := decide_eq_false (by omega)
  clear e2
  have l1 : decide (a1 < b1) = false := decide_eq_false (by omega)
  have g1 : decide (b1 < a1) = false := decide_eq_false (by omega)
  clear e1
  have l0 : decide (a0 < b0) = true := decide_eq_true (by omega)
  clear e0
  go_enter Try.func30, Try.ntmps30
  go_wp2_with fail
  refine wp_loop_rounds 5 ?_
  rw [rounds_succ]
  go_wp2_with fail
  go_quiet (fail)
  go_wp2_with fail
  go_quiet (fail)
  go_wp2_with fail
  rw [rounds_succ]
  go_wp2_with fail
  go_quiet (fail)
  go_wp2_with fail
  go_quiet (fail)
  go_wp2_with fail
  rw [rounds_succ]
  go_wp2_with fail
  go_quiet (fail)
  go_wp2_with fail
  go_quiet (fail)
  go_wp2_with fail
  rw [rounds_succ]
  go_wp2_with fail
  go_quiet (fail)
  go_wp2_with fail
  go_ret
  exact ⟨rfl, by repeat (first | exact Below.refl _ _ | refine Below.trans ?_ (below_drewN' _ _ _) | refine Below.drew ?_ | refine Below.alloc ?_ (by first | (simp; done) | (simp; omega)) _)⟩
set_option maxRecDepth 100000 in
theorem rcmp_g0 (a0 a1 a2 a3 b0 b1 b2 b3 : Nat) (ha : ok4 a0 a1 a2 a3) (hb : ok4 b0 b1 b2 b3) (e3 : a3 = b3) (e2 : a2 = b2) (e1 : a1 = b1) (e0 : b0 < a0) (w : World) :
    Calls Try.prog 30 #[.agg #[.int .u64 a0, .int .u64 a1, .int .u64 a2, .int .u64 a3], .agg #[.int .u64 b0, .int .u64 b1, .int .u64 b2, .int .u64 b3]] w fun e w' => e = .returned (.int .i64 (cmpN (val4 a0 a1 a2 a3) (val4 b0 b1 b2 b3))) ∧ Below w.heap.size w w' := by
  have hfin : cmpN (val4 a0 a1 a2 a3) (val4 b0 b1 b2 b3) = 1 := by
    obtain ⟨p0, p1, p2, p3⟩ := ha; obtain ⟨q0, q1, q2, q3⟩ := hb; unfold cmpN val4
    rw [if_neg (by omega), if_neg (by omega)]
  rw [hfin]
  clear hfin
  have l3 : decide (a3 < b3) = false := decide_eq_false (by omega)
  have g3 : decide (b3 < a3) = false := decide_eq_false (by omega)
  clear e3
  have l2 : decide (a2 < b2) = false := decide_eq_false (by omega)
  have g2 : decide (b2 < a2) = false := decide_eq_false (by omega)
  clear e2
  have l1 : decide (a1 < b1) = false := decide_eq_false (by omega)
  have g1 : decide (b1 < a1) = false := decide_eq_false (by omega)
  clear e1
  have l0 : decide (a0 < b0) = false := decide_eq_false (by omega)
  have g0 : decide (b0 < a0) = true := decide_eq_true (by omega)
  clear e0
  go_enter Try.func30, Try.ntmps30
  go_wp2_with fail
  refine wp_loop_rounds 5 ?_
  rw [rounds_succ]
  go_wp2_with fail
  go_quiet (fail)
  go_wp2_with fail
  go_quiet (fail)
  go_wp2_with fail
  rw [rounds_succ]
  go_wp2_with fail
  go_quiet (fail)
  go_wp2_with fail
  go_quiet (fail)
  go_wp2_with fail
  rw [rounds_succ]
  go_wp2_with fail
  go_quiet (fail)
  go_wp2_with fail
  go_quiet (fail)
  go_wp2_with fail
  rw [rounds_succ]
  go_wp2_with fail
  go_quiet (fail)
  go_wp2_with fail
  go_quiet (fail)
  go_wp2_with fail
  go_ret
  exact ⟨rfl, by repeat (first | exact Below.refl _ _ | refine Below.trans ?_ (below_drewN' _ _ _) | refine Below.drew ?_ | refine Below.alloc ?_ (by first | (simp; done) | (simp; omega)) _)⟩
set_option maxRecDepth 100000 in
theorem rcmp_e (a0 a1 a2 a3 b0 b1 b2 b3 : Nat) (ha : ok4 a0 a1 a2 a3) (hb : ok4 b0 b1 b2 b3) (e3 : a3 = b3) (e2 : a2 = b2) (e1 : a1 = b1) (e0 : a0 = b0) (w : World) :
    Calls Try.prog 30 #[.agg #[.int .u64 a0, .int .u64 a1, .int .u64 a2, .int .u64 a3], .agg #[.int .u64 b0, .int .u64 b1, .int .u64 b2, .int .u64 b3]] w fun e w' => e = .returned (.int .i64 (cmpN (val4 a0 a1 a2 a3) (val4 b0 b1 b2 b3))) ∧ Below w.heap.size w w' := by
  have hfin : cmpN (val4 a0 a1 a2 a3) (val4 b0 b1 b2 b3) = 0 := by
    obtain ⟨p0, p1, p2, p3⟩ := ha; obtain ⟨q0, q1, q2, q3⟩ := hb; unfold cmpN val4
    rw [if_pos (by omega)]
  rw [hfin]
  clear hfin
  have l3 : decide (a3 < b3) = false := decide_eq_false (by omega)
  have g3 : decide (b3 < a3) = false := decide_eq_false (by omega)
  clear e3
  have l2 : decide (a2 < b2) = false := decide_eq_false (by omega)
  have g2 : decide (b2 < a2) = false := decide_eq_false (by omega)
  clear e2
  have l1 : decide (a1 < b1) = false := decide_eq_false (by omega)
  have g1 : decide (b1 < a1) = false := decide_eq_false (by omega)
  clear e1
  have l0 : decide (a0 < b0) = false := decide_eq_false (by omega)
  have g0 : decide (b0 < a0) = false := decide_eq_false (by omega)
  clear e0
  go_enter Try.func30, Try.ntmps30
  go_wp2_with fail
  refine wp_loop_rounds 5 ?_
  rw [rounds_succ]
  go_wp2_with fail
  go_quiet (fail)
  go_wp2_with fail
  go_quiet (fail)
  go_wp2_with fail
  rw [rounds_succ]
  go_wp2_with fail
  go_quiet (fail)
  go_wp2_with fail
  go_quiet (fail)
  go_wp2_with fail
  rw [rounds_succ]
  go_wp2_with fail
  go_quiet (fail)
  go_wp2_with fail
  go_quiet (fail)
  go_wp2_with fail
  rw [rounds_succ]
  go_wp2_with fail
  go_quiet (fail)
  go_wp2_with fail
  go_quiet (fail)
  go_wp2_with fail
  rw [rounds_succ]
  go_wp2_with fail
  go_ret
  exact ⟨rfl, by repeat (first | exact Below.refl _ _ | refine Below.trans ?_ (below_drewN' _ _ _) | refine Below.drew ?_ | refine Below.alloc ?_ (by first | (simp; done) | (simp; omega)) _)⟩
theorem refCmp_calls (a0 a1 a2 a3 b0 b1 b2 b3 : Nat) (ha : ok4 a0 a1 a2 a3) (hb : ok4 b0 b1 b2 b3) (w : World) :
    Calls Try.prog 30 #[.agg #[.int .u64 a0, .int .u64 a1, .int .u64 a2, .int .u64 a3], .agg #[.int .u64 b0, .int .u64 b1, .int .u64 b2, .int .u64 b3]] w fun e w' => e = .returned (.int .i64 (cmpN (val4 a0 a1 a2 a3) (val4 b0 b1 b2 b3))) ∧ Below w.heap.size w w' := by
  rcases Nat.lt_trichotomy a3 b3 with e3 | e3 | e3
  · exact rcmp_l3 a0 a1 a2 a3 b0 b1 b2 b3 ha hb e3 w
  · rcases Nat.lt_trichotomy a2 b2 with e2 | e2 | e2
    · exact rcmp_l2 a0 a1 a2 a3 b0 b1 b2 b3 ha hb e3 e2 w
    · rcases Nat.lt_trichotomy a1 b1 with e1 | e1 | e1
      · exact rcmp_l1 a0 a1 a2 a3 b0 b1 b2 b3 ha hb e3 e2 e1 w
      · rcases Nat.lt_trichotomy a0 b0 with e0 | e0 | e0
        · exact rcmp_l0 a0 a1 a2 a3 b0 b1 b2 b3 ha hb e3 e2 e1 e0 w
        · exact rcmp_e a0 a1 a2 a3 b0 b1 b2 b3 ha hb e3 e2 e1 e0 w
        · exact rcmp_g0 a0 a1 a2 a3 b0 b1 b2 b3 ha hb e3 e2 e1 e0 w
      · exact rcmp_g1 a0 a1 a2 a3 b0 b1 b2 b3 ha hb e3 e2 e1 w
    · exact rcmp_g2 a0 a1 a2 a3 b0 b1 b2 b3 ha hb e3 e2 w
  · exact rcmp_g3 a0 a1 a2 a3 b0 b1 b2 b3 ha hb e3 w
end Go.Proofs.Ytgacpjmggdmgdaa
