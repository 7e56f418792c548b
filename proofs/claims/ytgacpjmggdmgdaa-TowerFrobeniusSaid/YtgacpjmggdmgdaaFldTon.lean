/-
  Plain numbers: how a root is found, round by round. No program in sight. Conditions: none.
-/
import Derived.Test.YtgacpjmggdmgdaaFldKept
namespace Go.Proofs.Ytgacpjmggdmgdaa
set_option linter.unusedVariables false
set_option linter.unusedSimpArgs false

/-- what holds between the rounds: the root's square is the element times the rest, and the rest's order falls -/
def TonI (M A T R S C : Nat) : Prop := 1 ≤ T ∧ R * R % M = A * S % M ∧ C ^ 2 ^ (T - 1) % M = M - 1 ∧ S ^ 2 ^ (T - 1) % M = 1
theorem pow_two_succ (x k : Nat) : x ^ 2 ^ (k + 1) = x ^ 2 ^ k * x ^ 2 ^ k := by rw [Nat.pow_succ, Nat.mul_comm, Nat.two_mul, Nat.pow_add]
theorem ton_next {M g : Nat} (hr : Root M g) (h2 : 2 < M) {A T o R S C : Nat} (h : TonI M A T R S C) (ho : 0 < o) (hoT : o < T) (h1 : S ^ 2 ^ o % M = 1) (hmin : S ^ 2 ^ (o - 1) % M ≠ 1) :
    TonI M A o (R * C ^ 2 ^ (T - o - 1)) (S * (C ^ 2 ^ (T - o - 1) * C ^ 2 ^ (T - o - 1))) (C ^ 2 ^ (T - o - 1) * C ^ 2 ^ (T - o - 1)) := by
  obtain ⟨hT, hR, hC, hS⟩ := h
  have hD : (C ^ 2 ^ (T - o - 1) * C ^ 2 ^ (T - o - 1)) ^ 2 ^ (o - 1) % M = M - 1 := by
    rw [← pow_two_succ, ← Nat.pow_mul, ← Nat.pow_add, show T - o - 1 + 1 + (o - 1) = T - 1 by omega]; exact hC
  have hx : S ^ 2 ^ (o - 1) % M = M - 1 := by
    have hlt := Nat.mod_lt (S ^ 2 ^ (o - 1)) (show 0 < M by omega)
    have e : S ^ 2 ^ (o - 1) % M * (S ^ 2 ^ (o - 1) % M) % M = 1 := by
      rw [← Nat.mul_mod, ← pow_two_succ, show o - 1 + 1 = o by omega]; exact h1
    rcases pm_one hr (by omega) hlt e with q | q
    · exact absurd q hmin
    · exact q
  refine ⟨ho, ?_, hD, ?_⟩
  · generalize C ^ 2 ^ (T - o - 1) = D at *
    rw [show R * D * (R * D) = R * R * (D * D) by simp only [Nat.mul_comm, Nat.mul_left_comm, Nat.mul_assoc], ← Nat.mul_assoc A S]
    exact cg_mul hR rfl
  · rw [Nat.mul_pow, Nat.mul_mod, hD, hx]
    exact sq_neg h2
theorem pow_half {M A H T : Nat} (hM : M = 2 ^ T * (2 * H + 1) + 1) (hT : 1 ≤ T) : (A ^ (2 * H + 1)) ^ 2 ^ (T - 1) = A ^ (M / 2) := by
  rw [← Nat.pow_mul]
  congr 1
  obtain ⟨t, rfl⟩ : ∃ t, T = t + 1 := ⟨T - 1, by omega⟩
  rw [hM, Nat.pow_succ, show t + 1 - 1 = t by omega, Nat.mul_comm (2 ^ t) 2, Nat.mul_assoc, Nat.mul_comm (2 * H + 1)]
  omega
theorem ton_start {M A H T C : Nat} (hM : M = 2 ^ T * (2 * H + 1) + 1) (hT : 1 ≤ T) (hC : C ^ 2 ^ (T - 1) % M = M - 1) (hs : A ^ (M / 2) % M = 1) :
    TonI M A T (A * A ^ H) (A * A ^ H * A ^ H) C := by
  have e : A * A ^ H * A ^ H = A ^ (2 * H + 1) := by rw [Nat.mul_assoc, ← Nat.pow_add, ← Nat.pow_succ']; congr 1; omega
  refine ⟨hT, ?_, hC, ?_⟩
  · rw [show A * A ^ H * (A * A ^ H) = A * (A * A ^ H * A ^ H) by simp only [Nat.mul_comm, Nat.mul_left_comm, Nat.mul_assoc]]
  · rw [e, pow_half hM hT, hs]
theorem shift_half {M H T : Nat} (hM : M = 2 ^ T * (2 * H + 1) + 1) (hT : 1 ≤ T) : M / 2 ^ (T + 1) = H := by
  obtain ⟨t, rfl⟩ : ∃ t, T = t + 1 := ⟨T - 1, by omega⟩
  have hp := Nat.two_pow_pos t
  rw [hM, Nat.pow_succ 2 (t + 1), Nat.pow_succ 2 t]
  generalize 2 ^ t = x at *
  rw [show x * 2 * (2 * H + 1) + 1 = x * 2 + 1 + x * 2 * 2 * H by rw [Nat.mul_add, ← Nat.mul_assoc]; omega]
  rw [Nat.add_mul_div_left _ _ (by omega), Nat.div_eq_of_lt (by omega), Nat.zero_add]
theorem one_up {M S i j : Nat} (h1 : 1 < M) (hij : i ≤ j) (h : S ^ 2 ^ i % M = 1) : S ^ 2 ^ j % M = 1 := by
  obtain ⟨d, rfl⟩ : ∃ d, j = i + d := ⟨j - i, by omega⟩
  rw [Nat.pow_add, Nat.pow_mul, Nat.pow_mod, h, Nat.one_pow, Nat.mod_eq_of_lt h1]
end Go.Proofs.Ytgacpjmggdmgdaa
