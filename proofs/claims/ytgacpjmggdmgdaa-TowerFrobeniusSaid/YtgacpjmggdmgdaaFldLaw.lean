/-
  Plain numbers: what follows where whatever is not 0 is a power of one root: Fermat, opposites, squares and roots. No program in sight. Conditions: none.
-/
import Derived.Test.YtgacpjmggdmgdaaCerts
namespace Go.Proofs.Ytgacpjmggdmgdaa
set_option linter.unusedVariables false

section
variable {M g : Nat}
theorem pmod_mod (a n : Nat) : (a % M) ^ n % M = a ^ n % M := (Nat.pow_mod a n M).symm
theorem mul_mod_l (a b : Nat) : a % M * b % M = a * b % M := by rw [Nat.mul_mod, Nat.mod_mod, ← Nat.mul_mod]
theorem mul_mod_r (a b : Nat) : a * (b % M) % M = a * b % M := by rw [Nat.mul_mod, Nat.mod_mod, ← Nat.mul_mod]
theorem fermat (hr : Root M g) {a : Nat} (h0 : 0 < a) (h : a < M) : a ^ (M - 1) % M = 1 := by
  obtain ⟨h1, hg, _, hs⟩ := hr
  obtain ⟨k, hk, rfl⟩ := hs a h0 h
  rw [pmod_mod, ← Nat.pow_mul, Nat.mul_comm, pow_mul_one h1 hg]
theorem inv_mul (hr : Root M g) {a : Nat} (h2 : 2 ≤ M) (h0 : 0 < a) (h : a < M) : a * (a ^ (M - 2) % M) % M = 1 := by
  rw [mul_mod_r, ← Nat.pow_succ', show (M - 2).succ = M - 1 by omega, fermat hr h0 h]
theorem cancel_l (hr : Root M g) {a b c : Nat} (h2 : 2 ≤ M) (h0 : 0 < a) (h : a < M) (e : a * b % M = a * c % M) : b % M = c % M := by
  have hi := inv_mul hr h2 h0 h
  have key : ∀ x, a ^ (M - 2) % M * (a * x % M) % M = x % M := fun x => by
    rw [mul_mod_r, ← Nat.mul_assoc, Nat.mul_mod, Nat.mul_comm _ a, hi, Nat.one_mul, Nat.mod_mod]
  rw [← key b, e, key c]
theorem zero_div (hr : Root M g) {a b : Nat} (h2 : 2 ≤ M) (h0 : 0 < a) (h : a < M) (e : a * b % M = 0) : b % M = 0 := by
  have := cancel_l hr (c := 0) h2 h0 h (by rw [e, Nat.mul_zero, Nat.zero_mod])
  rw [this, Nat.zero_mod]
theorem dvd_sub_sq {x y : Nat} (hxy : y ≤ x) (e : x * x % M = y * y % M) : (x - y) * (x + y) % M = 0 := by
  have h : (x - y) * (x + y) = x * x - y * y := by
    obtain ⟨d, rfl⟩ : ∃ d, x = y + d := ⟨x - y, by omega⟩
    rw [show y + d - y = d by omega]
    have : (y + d) * (y + d) = y * y + d * (y + d + y) := by
      simp only [Nat.add_mul, Nat.mul_add, Nat.mul_comm d y]; omega
    omega
  rw [h]
  exact Nat.sub_mod_eq_zero_of_mod_eq e
theorem sq_le (hr : Root M g) {x y : Nat} (h2 : 2 ≤ M) (hx : x < M) (hxy : y ≤ x) (e : x * x % M = y * y % M) : x = y ∨ x + y = M := by
  have hd := dvd_sub_sq hxy e
  by_cases h : x = y
  · exact Or.inl h
  · right
    have := zero_div hr h2 (show 0 < x - y by omega) (by omega) hd
    obtain ⟨k, hk⟩ := Nat.dvd_of_mod_eq_zero this
    have hk1 : k < 2 := by
      rcases Nat.lt_or_ge k 2 with q | q
      · exact q
      · have := Nat.mul_le_mul_left M q; omega
    have : k = 0 ∨ k = 1 := by omega
    rcases this with rfl | rfl <;> omega
theorem sq_two (hr : Root M g) {x y : Nat} (h2 : 2 ≤ M) (hx : x < M) (hy : y < M) (e : x * x % M = y * y % M) : x = y ∨ x + y = M := by
  rcases Nat.le_total y x with h | h
  · exact sq_le hr h2 hx h e
  · rcases sq_le hr h2 hy h e.symm with q | q
    · exact Or.inl q.symm
    · exact Or.inr (by omega)
theorem pm_one (hr : Root M g) {x : Nat} (h2 : 2 ≤ M) (hx : x < M) (e : x * x % M = 1) : x = 1 ∨ x = M - 1 := by
  have := sq_two hr (y := 1) h2 hx (by omega) (by rw [e, Nat.mod_eq_of_lt (by omega)])
  omega
/-- the half's power: 1 or its negative -/
theorem half_pow (hr : Root M g) {a : Nat} (h2 : 2 < M) (ho : M % 2 = 1) (h0 : 0 < a) (h : a < M) : a ^ (M / 2) % M = 1 ∨ a ^ (M / 2) % M = M - 1 := by
  refine pm_one hr (by omega) (Nat.mod_lt _ (by omega)) ?_
  rw [← pow_add_mod, show M / 2 + M / 2 = M - 1 by omega, fermat hr h0 h]
/-- Legendre's sign -/
def legN (M a : Nat) : Int := if a = 0 then 0 else if a ^ (M / 2) % M = 1 then 1 else -1
theorem sq_neg {M : Nat} (h : 2 < M) : (M - 1) * (M - 1) % M = 1 := by
  obtain ⟨k, rfl⟩ : ∃ k, M = k + 1 := ⟨M - 1, by omega⟩
  rw [show k + 1 - 1 = k by omega]
  have : k * k = 1 + (k + 1) * (k - 1) := by
    obtain ⟨j, rfl⟩ : ∃ j, k = j + 1 := ⟨k - 1, by omega⟩
    rw [show j + 1 - 1 = j by omega]
    simp only [Nat.add_mul, Nat.mul_add]; omega
  rw [this, Nat.add_mul_mod_self_left, Nat.mod_eq_of_lt (by omega)]
theorem mul_ne (hr : Root M g) {a b : Nat} (h2 : 2 ≤ M) (ha0 : 0 < a) (ha : a < M) (hb0 : 0 < b) (hb : b < M) : 0 < a * b % M := by
  rcases Nat.eq_zero_or_pos (a * b % M) with h | h
  · have := zero_div hr h2 ha0 ha h
    rw [Nat.mod_eq_of_lt hb] at this; omega
  · exact h
theorem leg_mul (hr : Root M g) {a b : Nat} (h2 : 2 < M) (ho : M % 2 = 1) (ha : a < M) (hb : b < M) : legN M (a * b % M) = legN M a * legN M b := by
  unfold legN
  by_cases a0 : a = 0
  · subst a0; simp
  by_cases b0 : b = 0
  · subst b0; simp
  have hab := mul_ne hr (by omega) (show 0 < a by omega) ha (show 0 < b by omega) hb
  rw [if_neg (show ¬ a * b % M = 0 by omega), if_neg a0, if_neg b0, pmod_mod, Nat.mul_pow, Nat.mul_mod]
  have e1 : (M - 1) * (M - 1) % M = 1 := sq_neg h2
  rcases half_pow hr h2 ho (show 0 < a by omega) ha with p | p <;> rcases half_pow hr h2 ho (show 0 < b by omega) hb with q | q <;> rw [p, q]
  · simp [Nat.mod_eq_of_lt (show 1 < M by omega)]
  · rw [Nat.one_mul, Nat.mod_eq_of_lt (show M - 1 < M by omega), if_neg (show ¬ M - 1 = 1 by omega)]; simp
  · rw [Nat.mul_one, Nat.mod_eq_of_lt (show M - 1 < M by omega), if_neg (show ¬ M - 1 = 1 by omega)]; simp
  · rw [e1, if_neg (show ¬ M - 1 = 1 by omega)]; simp
theorem leg_sq (hr : Root M g) {a : Nat} (ho : M % 2 = 1) (h0 : 0 < a) (h : a < M) : (a * a % M) ^ (M / 2) % M = 1 := by
  have h1 := hr.1
  rw [pmod_mod, ← Nat.pow_two, ← Nat.pow_mul, show 2 * (M / 2) = M - 1 by omega, fermat hr h0 h]
end
end Go.Proofs.Ytgacpjmggdmgdaa
