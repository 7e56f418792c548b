/-
  Plain numbers behind the walks: a number of four words, sums with a carry, differences with a borrow, products of two words. No program in sight. Conditions: none.
-/
import Derived.Laws.Externs
namespace Go.Proofs.YtgacpjmggdmgdaaGreat
set_option linter.unusedVariables false

def val4 (a b c d : Nat) : Nat := a + 18446744073709551616 * (b + 18446744073709551616 * (c + 18446744073709551616 * d))
def ok4 (a b c d : Nat) : Prop := a < 18446744073709551616 ∧ b < 18446744073709551616 ∧ c < 18446744073709551616 ∧ d < 18446744073709551616
theorem val4_lt {a b c d : Nat} (h : ok4 a b c d) : val4 a b c d < 115792089237316195423570985008687907853269984665640564039457584007913129639936 := by
  obtain ⟨h0, h1, h2, h3⟩ := h; unfold val4; omega
theorem val4_inj {a0 a1 a2 a3 b0 b1 b2 b3 : Nat} (ha : ok4 a0 a1 a2 a3) (hb : ok4 b0 b1 b2 b3) (h : val4 a0 a1 a2 a3 = val4 b0 b1 b2 b3) : a0 = b0 ∧ a1 = b1 ∧ a2 = b2 ∧ a3 = b3 := by
  obtain ⟨p0, p1, p2, p3⟩ := ha; obtain ⟨q0, q1, q2, q3⟩ := hb; unfold val4 at h; omega

def addS (x y c : Nat) : Nat := (x + y + c) % 18446744073709551616
def addC (x y c : Nat) : Nat := (x + y + c) / 18446744073709551616
theorem addC_le {x y c : Nat} (hx : x < 18446744073709551616) (hy : y < 18446744073709551616) (hc : c ≤ 1) : addC x y c ≤ 1 := by unfold addC; omega
theorem addS_lt (x y c : Nat) : addS x y c < 18446744073709551616 := by unfold addS; omega
theorem addSC (x y c : Nat) : addS x y c + 18446744073709551616 * addC x y c = x + y + c := by unfold addS addC; omega
def subD (x y c : Nat) : Nat := (x + 18446744073709551616 - y - c) % 18446744073709551616
def subB (x y c : Nat) : Nat := if x < y + c then 1 else 0
theorem subB_le (x y c : Nat) : subB x y c ≤ 1 := by unfold subB; split <;> omega
theorem subD_lt (x y c : Nat) : subD x y c < 18446744073709551616 := by unfold subD; omega
theorem subDB {x y c : Nat} (hx : x < 18446744073709551616) (hy : y < 18446744073709551616) (hc : c ≤ 1) : subD x y c + y + c = x + 18446744073709551616 * subB x y c := by
  unfold subD subB; split <;> omega
def mulH (x y : Nat) : Nat := x * y / 18446744073709551616
def mulL (x y : Nat) : Nat := x * y % 18446744073709551616
theorem mulHL (x y : Nat) : mulL x y + 18446744073709551616 * mulH x y = x * y := by unfold mulL mulH; omega
theorem mulL_lt (x y : Nat) : mulL x y < 18446744073709551616 := by unfold mulL; omega
theorem mul_le {x y p q : Nat} (hx : x ≤ p) (hy : y ≤ q) : x * y ≤ p * q := Nat.mul_le_mul hx hy
theorem mulH_le {x y : Nat} (hx : x < 18446744073709551616) (hy : y < 18446744073709551616) : mulH x y ≤ 18446744073709551614 := by
  have := mul_le (show x ≤ 18446744073709551615 by omega) (show y ≤ 18446744073709551615 by omega)
  unfold mulH; omega

theorem add_arith (a0 a1 a2 a3 b0 b1 b2 b3 : Nat) : val4 (addS a0 b0 0) (addS a1 b1 (addC a0 b0 0)) (addS a2 b2 (addC a1 b1 (addC a0 b0 0))) (addS a3 b3 (addC a2 b2 (addC a1 b1 (addC a0 b0 0)))) + 115792089237316195423570985008687907853269984665640564039457584007913129639936 * addC a3 b3 (addC a2 b2 (addC a1 b1 (addC a0 b0 0))) = val4 a0 a1 a2 a3 + val4 b0 b1 b2 b3 := by
  have h0 := addSC a0 b0 0
  have h1 := addSC a1 b1 (addC a0 b0 0)
  have h2 := addSC a2 b2 (addC a1 b1 (addC a0 b0 0))
  have h3 := addSC a3 b3 (addC a2 b2 (addC a1 b1 (addC a0 b0 0)))
  unfold val4
  omega
theorem sub_arith {a0 a1 a2 a3 b0 b1 b2 b3 : Nat} (ha : ok4 a0 a1 a2 a3) (hb : ok4 b0 b1 b2 b3) : val4 (subD a0 b0 0) (subD a1 b1 (subB a0 b0 0)) (subD a2 b2 (subB a1 b1 (subB a0 b0 0))) (subD a3 b3 (subB a2 b2 (subB a1 b1 (subB a0 b0 0)))) + val4 b0 b1 b2 b3 = val4 a0 a1 a2 a3 + 115792089237316195423570985008687907853269984665640564039457584007913129639936 * subB a3 b3 (subB a2 b2 (subB a1 b1 (subB a0 b0 0))) := by
  have h0 := subDB ha.1 hb.1 (Nat.zero_le 1)
  have h1 := subDB ha.2.1 hb.2.1 (subB_le a0 b0 0)
  have h2 := subDB ha.2.2.1 hb.2.2.1 (subB_le a1 b1 (subB a0 b0 0))
  have h3 := subDB ha.2.2.2 hb.2.2.2 (subB_le a2 b2 (subB a1 b1 (subB a0 b0 0)))
  unfold val4
  omega

/-- one step of a number times one word: the over of a round is a word -/
def twS (x y o : Nat) : Nat := addS (mulL x y) o 0
def twO (x y o : Nat) : Nat := mulH x y + addC (mulL x y) o 0
theorem twSO (x y o : Nat) : twS x y o + 18446744073709551616 * twO x y o = x * y + o := by
  have h1 := mulHL x y; have h2 := addSC (mulL x y) o 0; unfold twS twO; omega
theorem twS_lt (x y o : Nat) : twS x y o < 18446744073709551616 := addS_lt _ _ _
theorem twO_lt {x y o : Nat} (hx : x < 18446744073709551616) (hy : y < 18446744073709551616) (ho : o < 18446744073709551616) : twO x y o < 18446744073709551616 := by
  have := mulH_le hx hy; have := addC_le (mulL_lt x y) ho (Nat.zero_le 1); unfold twO; omega
theorem tw_arith (a0 a1 a2 a3 y : Nat) : val4 (twS a0 y 0) (twS a1 y (twO a0 y 0)) (twS a2 y (twO a1 y (twO a0 y 0))) (twS a3 y (twO a2 y (twO a1 y (twO a0 y 0)))) + 115792089237316195423570985008687907853269984665640564039457584007913129639936 * twO a3 y (twO a2 y (twO a1 y (twO a0 y 0))) = val4 a0 a1 a2 a3 * y := by
  have h0 := twSO a0 y 0
  have h1 := twSO a1 y (twO a0 y 0)
  have h2 := twSO a2 y (twO a1 y (twO a0 y 0))
  have h3 := twSO a3 y (twO a2 y (twO a1 y (twO a0 y 0)))
  unfold val4
  simp only [Nat.add_mul, Nat.mul_assoc]
  omega

def b64lt (x : Nat) : Prop := x < 18446744073709551616
theorem cast_sub_ite (p : Prop) [Decidable p] : (((if p then 1 else 0 : Nat)) : Int) = if p then 1 else 0 := by split <;> rfl
end Go.Proofs.YtgacpjmggdmgdaaGreat
