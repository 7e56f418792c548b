/-
  The call of limbs.Div: a number of four words divided by one word; an error where that is 0. Conditions: each word below 2^64.
-/
import Derived.Test.YtopahcobdfdnlaaDoorDiv
import Derived.Test.YtopahcobdfdnlaaDoorRow
import Derived.Test.YtopahcobdfdnlaaDoorTake
namespace Go.Proofs.YtopahcobdfdnlaaDoor
set_option linter.unusedVariables false
set_option linter.unusedSimpArgs false
open Go.RowKit

def DivLPost (P : Nat → Nat → Nat → Prop) (w : World) (e : Ending) (w' : World) : Prop :=
  ∃ q0 q1 q2 q3 r c : Nat, e = .returned (.tuple #[.agg #[.int .u64 q0, .int .u64 q1, .int .u64 q2, .int .u64 q3], .int .u64 r, .int .i64 c]) ∧ ok4 q0 q1 q2 q3 ∧ P (val4 q0 q1 q2 q3) r c ∧ Below w.heap.size w w'

theorem ex_Div64z {lo y : Nat} (h : 0 < y) (hl : lo < 18446744073709551616) (hy : y < 18446744073709551616) : ∃ q r : Nat,
    (∀ w, Calls Tryd.prog 47 #[.int .u64 0, .int .u64 lo, .int .u64 y] w fun e w' => e = .returned (.tuple #[.int .u64 (q : Nat), .int .u64 (r : Nat)]) ∧ ∃ n, w' = w.drewN n) ∧
    q < 18446744073709551616 ∧ r < y ∧ Hid (q * y + r = lo) := by
  obtain ⟨q, r, m, hq, hr, e⟩ := ex_Div64 (hi := 0) h hl hy
  exact ⟨q, r, m, hq, hr, Lib.hid (by have := e.out; omega)⟩

theorem divL_zero (a0 a1 a2 a3 : Nat) (w : World) :
    Calls Tryd.prog 26 #[.agg #[.int .u64 a0, .int .u64 a1, .int .u64 a2, .int .u64 a3], .int .u64 0] w (DivLPost (fun q r c => q = 0 ∧ r = 0 ∧ c = 22) w) := by
  go_enter Tryd.func26, Tryd.ntmps26
  go_wp2_with fail
  refine bodyPost_ret (v := .tuple #[.agg #[.int .u64 0, .int .u64 0, .int .u64 0, .int .u64 0], .int .u64 0, .int .i64 22]) (by simp [results, Tryd.results26, go_sem]) rfl ?_
  refine ⟨0, 0, 0, 0, 0, 22, rfl, ⟨by omega, by omega, by omega, by omega⟩, ⟨rfl, rfl, rfl⟩, ?_⟩
  repeat (first | exact Below.refl _ _ | refine Below.drew ?_ | refine Below.alloc ?_ (by first | (simp; done) | (simp; omega)) _)

set_option maxRecDepth 100000 in
set_option maxHeartbeats 1000000 in
theorem divL_some (a0 a1 a2 a3 y : Nat) (ha : ok4 a0 a1 a2 a3) (h0 : 0 < y) (hy : y < 18446744073709551616) (w : World) :
    Calls Tryd.prog 26 #[.agg #[.int .u64 a0, .int .u64 a1, .int .u64 a2, .int .u64 a3], .int .u64 y] w (DivLPost (fun q r c => q * y + r = val4 a0 a1 a2 a3 ∧ r < y ∧ c = 0) w) := by
  obtain ⟨q3, r3, m3, b3, c3, e3⟩ := ex_Div64z h0 ha.2.2.2 hy
  obtain ⟨q2, r2, m2, b2, c2, e2⟩ := ex_Div64 c3 ha.2.2.1 hy
  obtain ⟨q1, r1, m1, b1, c1, e1⟩ := ex_Div64 c2 ha.2.1 hy
  obtain ⟨q0, r0, m0, b0, c0, e0⟩ := ex_Div64 c1 ha.1 hy
  have HF : Hid (val4 q0 q1 q2 q3 * y + r0 = val4 a0 a1 a2 a3) := Lib.hid (by
    have := e0.out; have := e1.out; have := e2.out; have := e3.out
    unfold val4; simp only [Nat.add_mul, Nat.mul_assoc]; omega)
  have t1 : ((y : Int) == 0) = false := by simp; omega
  clear e0 e1 e2 e3
  go_enter Tryd.func26, Tryd.ntmps26
  go_wp2_with fail
  refine wp_loop_rounds 5 ?_
  rw [rounds_succ]
  go_wp2_with fail
  refine (m3 _).mono ?_
  rintro e w' ⟨rfl, n3, rfl⟩
  go_wp2_with fail
  rw [rounds_succ]
  go_wp2_with fail
  refine (m2 _).mono ?_
  rintro e w' ⟨rfl, n2, rfl⟩
  go_wp2_with fail
  rw [rounds_succ]
  go_wp2_with fail
  refine (m1 _).mono ?_
  rintro e w' ⟨rfl, n1, rfl⟩
  go_wp2_with fail
  rw [rounds_succ]
  go_wp2_with fail
  refine (m0 _).mono ?_
  rintro e w' ⟨rfl, n0, rfl⟩
  go_wp2_with fail
  rw [rounds_succ]
  go_wp2_with fail
  refine bodyPost_ret (v := .tuple #[.agg #[.int .u64 q0, .int .u64 q1, .int .u64 q2, .int .u64 q3], .int .u64 r0, .int .i64 0]) (by simp [results, Tryd.results26, go_sem]) rfl ?_
  refine ⟨q0, q1, q2, q3, r0, 0, rfl, ⟨b0, b1, b2, b3⟩, ⟨HF.out, c0, rfl⟩, ?_⟩
  iterate 4 refine Below.setCell ?_ (by first | (simp; done) | (simp; omega)) _
  refine Below.setCell ?_ (by first | (simp; done) | (simp; omega)) _
  refine Below.trans ?_ (below_drewN' _ _ n0)
  refine Below.setCell ?_ (by first | (simp; done) | (simp; omega)) _
  refine Below.trans ?_ (below_drewN' _ _ n1)
  refine Below.setCell ?_ (by first | (simp; done) | (simp; omega)) _
  refine Below.trans ?_ (below_drewN' _ _ n2)
  refine Below.setCell ?_ (by first | (simp; done) | (simp; omega)) _
  refine Below.trans ?_ (below_drewN' _ _ n3)
  exact below3 w _ _ _

/-- limbs.Div, for any number -/
theorem divL_calls (a0 a1 a2 a3 y : Nat) (ha : ok4 a0 a1 a2 a3) (hy : y < 18446744073709551616) (w : World) :
    Calls Tryd.prog 26 #[.agg #[.int .u64 a0, .int .u64 a1, .int .u64 a2, .int .u64 a3], .int .u64 y] w (DivLPost (fun q r c => y = 0 ∧ q = 0 ∧ r = 0 ∧ c = 22 ∨ 0 < y ∧ q = val4 a0 a1 a2 a3 / y ∧ r = val4 a0 a1 a2 a3 % y ∧ c = 0) w) := by
  rcases Nat.eq_zero_or_pos y with rfl | h
  · exact (divL_zero a0 a1 a2 a3 w).mono fun e w' ⟨q0, q1, q2, q3, r, c, he, hq, hv, hb⟩ => ⟨q0, q1, q2, q3, r, c, he, hq, Or.inl ⟨rfl, hv⟩, hb⟩
  · refine (divL_some a0 a1 a2 a3 y ha h hy w).mono fun e w' ⟨q0, q1, q2, q3, r, c, he, hq, ⟨hv, hr, hc⟩, hb⟩ => ⟨q0, q1, q2, q3, r, c, he, hq, Or.inr ⟨h, ?_, ?_, hc⟩, hb⟩
    · rw [← hv, Nat.mul_comm, Nat.mul_add_div h, Nat.div_eq_of_lt hr, Nat.add_zero]
    · rw [← hv, Nat.mul_comm, Nat.mul_add_mod, Nat.mod_eq_of_lt hr]
end Go.Proofs.YtopahcobdfdnlaaDoor
