/-
  The calls of limbs.timesWord and limbs.Mul: for any numbers of four words, in any world, the answers are the product's words. Conditions: each word below 2^64.
-/
import Derived.Test.YtgacpjmggdmgdaaGreatWord
import Derived.Test.YtgacpjmggdmgdaaGreatShelf
import Derived.StillTailTactics
namespace Go.Proofs.YtgacpjmggdmgdaaGreat
set_option linter.unusedVariables false
open Go.RowKit

theorem mul64_calls (x y : Nat) (hx : x < 18446744073709551616) (hy : y < 18446744073709551616) (w : World) :
    Calls Tryz.prog 178 #[.int .u64 x, .int .u64 y] w fun e w' => e = .returned (.tuple #[.int .u64 (mulH x y : Nat), .int .u64 (mulL x y : Nat)]) ∧ w' = w :=
  Tryz.bits_Mul64 x y hx hy w
theorem ex_Mul64 {x y : Nat} (hx : x < 18446744073709551616) (hy : y < 18446744073709551616) : ∃ h l : Nat, (∀ w, Calls Tryz.prog 178 #[.int .u64 x, .int .u64 y] w fun e w' => e = .returned (.tuple #[.int .u64 (h : Nat), .int .u64 (l : Nat)]) ∧ w' = w) ∧ h ≤ 18446744073709551614 ∧ l < 18446744073709551616 ∧ Hid (l + 18446744073709551616 * h = x * y) :=
  ⟨_, _, mul64_calls x y hx hy, mulH_le hx hy, mulL_lt _ _, mulHL x y⟩

def TwPost (A y : Nat) (w : World) (e : Ending) (w' : World) : Prop :=
  ∃ s0 s1 s2 s3 o : Nat, e = .returned (.tuple #[.int .u64 o, .agg #[.int .u64 s0, .int .u64 s1, .int .u64 s2, .int .u64 s3]]) ∧ ok4 s0 s1 s2 s3 ∧ o < 18446744073709551616 ∧ val4 s0 s1 s2 s3 + 115792089237316195423570985008687907853269984665640564039457584007913129639936 * o = A * y ∧ Below w.heap.size w w'

/-- one round's numbers -/
theorem ex_tw {x y o : Nat} (hx : x < 18446744073709551616) (hy : y < 18446744073709551616) (ho : o < 18446744073709551616) : ∃ h l d b p : Nat, (∀ w, Calls Tryz.prog 178 #[.int .u64 x, .int .u64 y] w fun e w' => e = .returned (.tuple #[.int .u64 (h : Nat), .int .u64 (l : Nat)]) ∧ w' = w) ∧
    (∀ w, (callFunc 167 #[.int .u64 (l : Int), .int .u64 (o : Int), .int .u64 0]).run Tryz.prog w = .ok (.value (.tuple #[.int .u64 (d : Int), .int .u64 (b : Int)])) w) ∧ h ≤ 18446744073709551614 ∧ b ≤ 1 ∧ d < 18446744073709551616 ∧ p < 18446744073709551616 ∧ ((h : Int) + (b : Int) = (p : Int)) ∧ Hid (d + 18446744073709551616 * p = x * y + o) := by
  obtain ⟨h, l, r, hh, hl, e⟩ := ex_Mul64 hx hy
  obtain ⟨d, b, r', hd, hb, e'⟩ := ex_Add64z hl ho
  exact ⟨h, l, d, b, h + b, r, r', hh, hb, hd, by omega, by omega, Lib.hid (by have := e.out; have := e'.out; omega)⟩
theorem ex_twz {x y : Nat} (hx : x < 18446744073709551616) (hy : y < 18446744073709551616) : ∃ h l d b p : Nat, (∀ w, Calls Tryz.prog 178 #[.int .u64 x, .int .u64 y] w fun e w' => e = .returned (.tuple #[.int .u64 (h : Nat), .int .u64 (l : Nat)]) ∧ w' = w) ∧
    (∀ w, (callFunc 167 #[.int .u64 (l : Int), .int .u64 0, .int .u64 0]).run Tryz.prog w = .ok (.value (.tuple #[.int .u64 (d : Int), .int .u64 (b : Int)])) w) ∧ h ≤ 18446744073709551614 ∧ b ≤ 1 ∧ d < 18446744073709551616 ∧ p < 18446744073709551616 ∧ ((h : Int) + (b : Int) = (p : Int)) ∧ Hid (d + 18446744073709551616 * p = x * y) := by
  obtain ⟨h, l, d, b, p, r, r', hh, hb, hd, hp, q, e⟩ := ex_tw hx hy (by omega : 0 < 18446744073709551616)
  exact ⟨h, l, d, b, p, r, r', hh, hb, hd, hp, q, e⟩

theorem tw_calls (a0 a1 a2 a3 y : Nat) (ha : ok4 a0 a1 a2 a3) (hy : y < 18446744073709551616) (w : World) :
    Calls Tryz.prog 181 #[.agg #[.int .u64 a0, .int .u64 a1, .int .u64 a2, .int .u64 a3], .int .u64 y] w (TwPost (val4 a0 a1 a2 a3) y w) := by
  obtain ⟨h0, l0, d0, b0, o0, m0, r0, bh0, bb0, bd0, bo0, q0, e0⟩ := ex_twz ha.1 hy
  obtain ⟨h1, l1, d1, b1, o1, m1, r1, bh1, bb1, bd1, bo1, q1, e1⟩ := ex_tw ha.2.1 hy bo0
  obtain ⟨h2, l2, d2, b2, o2, m2, r2, bh2, bb2, bd2, bo2, q2, e2⟩ := ex_tw ha.2.2.1 hy bo1
  obtain ⟨h3, l3, d3, b3, o3, m3, r3, bh3, bb3, bd3, bo3, q3, e3⟩ := ex_tw ha.2.2.2 hy bo2
  have HF : Hid (val4 d0 d1 d2 d3 + 115792089237316195423570985008687907853269984665640564039457584007913129639936 * o3 = val4 a0 a1 a2 a3 * y) := Lib.hid (by
    have := e0.out; have := e1.out; have := e2.out; have := e3.out
    unfold val4; simp only [Nat.add_mul, Nat.mul_assoc]; omega)
  clear e0 e1 e2 e3
  go_enter Tryz.func181, Tryz.ntmps181
  go_wp2_with fail
  refine wp_loop_rounds 5 ?_
  rw [rounds_succ]
  go_wp2_with fail
  refine (m0 _).mono ?_
  rintro e w' ⟨rfl, rfl⟩
  go_wp2_with fail
  rw [rounds_succ]
  go_wp2_with fail
  refine (m1 _).mono ?_
  rintro e w' ⟨rfl, rfl⟩
  go_wp2_with fail
  rw [rounds_succ]
  go_wp2_with fail
  refine (m2 _).mono ?_
  rintro e w' ⟨rfl, rfl⟩
  go_wp2_with fail
  rw [rounds_succ]
  go_wp2_with fail
  refine (m3 _).mono ?_
  rintro e w' ⟨rfl, rfl⟩
  go_wp2_with fail
  rw [rounds_succ]
  go_wp2_with fail
  go_region
  all_goals (
    go_wp2
    refine bodyPost_ret (v := .tuple #[.int .u64 o3, .agg #[.int .u64 d0, .int .u64 d1, .int .u64 d2, .int .u64 d3]]) (by simp [results, Tryz.results181, go_sem]) rfl ?_
    refine ⟨_, _, _, _, _, rfl, ⟨bd0, bd1, bd2, bd3⟩, bo3, HF.out, ?_⟩
    repeat (first | exact Below.refl _ _ | refine Below.drew ?_ | refine Below.alloc ?_ (by first | (simp; done) | (simp; omega)) _))
end Go.Proofs.YtgacpjmggdmgdaaGreat
