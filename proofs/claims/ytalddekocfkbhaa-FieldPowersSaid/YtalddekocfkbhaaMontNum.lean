/-
  Plain numbers behind the reference's product by digits of 32 bits. No program in sight. Conditions: none.
-/
import Derived.Test.YtalddekocfkbhaaRow
import Derived.Test.YtalddekocfkbhaaFldKept
namespace Go.Proofs.Ytalddekocfkbhaa
set_option linter.unusedVariables false

/-- what is gathered behind k digits -/
def MOut (M A : Nat) (Y P : Nat → Nat) (k : Nat) : Prop := tot 4294967296 P 9 < 2 * M ∧ ∃ Q, tot 4294967296 P 9 * 4294967296 ^ k = A * tot 4294967296 Y k + Q * M
theorem mout_zero (M A : Nat) (Y P : Nat → Nat) (hM : 0 < M) (hP : ∀ k, P k = 0) : MOut M A Y P 0 := by
  have h : tot 4294967296 P 9 = 0 := tot_zero _ _ hP 9
  exact ⟨by rw [h]; omega, 0, by rw [h]; simp [tot]⟩
theorem mout_next {M A : Nat} {Y P N : Nat → Nat} {k q : Nat} (h : MOut M A Y P k) (hA : A < M) (hY : Y k < 4294967296) (hq : q < 4294967296)
    (e : 4294967296 * tot 4294967296 N 9 = tot 4294967296 P 9 + A * Y k + q * M) : MOut M A Y N (k + 1) := by
  obtain ⟨hT, Q, hQ⟩ := h
  refine ⟨?_, Q + q * 4294967296 ^ k, ?_⟩
  · have h1 := Nat.mul_le_mul (show A ≤ M by omega) (show Y k ≤ 4294967295 by omega)
    have h2 := Nat.mul_le_mul_right M (show q ≤ 4294967295 by omega)
    generalize A * Y k = x at *
    generalize q * M = y at *
    omega
  · rw [Nat.pow_succ, ← Nat.mul_assoc, Nat.mul_right_comm, Nat.mul_comm _ 4294967296, e, Nat.add_mul, Nat.add_mul, hQ, tot_succ, Nat.mul_add, Nat.add_mul]
    have e1 : A * Y k * 4294967296 ^ k = A * (Y k * 4294967296 ^ k) := Nat.mul_assoc _ _ _
    have e2 : q * M * 4294967296 ^ k = q * 4294967296 ^ k * M := Nat.mul_right_comm _ _ _
    omega
/-- the first inner loop: one digit -/
theorem one_step {X P : Nat → Nat} {y j c l h T0 : Nat} (hj : j < 8) (h1 : tot 4294967296 P 9 + c * 4294967296 ^ j = T0 + tot 4294967296 X j * y) (e : l + 4294967296 * h = P j + X j * y + c) :
    tot 4294967296 (upd P j l) 9 + h * 4294967296 ^ (j + 1) = T0 + tot 4294967296 X (j + 1) * y := by
  have := step_arith (B := 4294967296) (P := P) (n := 9) (k := j) (x := X j * y) (o := c) (d := l) (o' := h) (T := T0 + tot 4294967296 X j * y) (by omega) (by omega) h1
  rw [this, tot_succ, Nat.add_mul, Nat.mul_right_comm (X j)]
  omega
/-- its end: two digits more -/
theorem one_end {X P : Nat → Nat} {y c l h T0 : Nat} (h1 : tot 4294967296 P 9 + c * 4294967296 ^ 8 = T0 + tot 4294967296 X 8 * y) (e : l + 4294967296 * h = P 8 + c) :
    tot 4294967296 (upd (upd P 8 l) 9 h) 10 = T0 + tot 4294967296 X 8 * y := by
  have e1 : tot 4294967296 (upd (upd P 8 l) 9 h) 10 = tot 4294967296 P 8 + l * 4294967296 ^ 8 + h * 4294967296 ^ 9 := by
    rw [tot_succ, tot_upd_ge _ _ 9 h 9 (Nat.le_refl _), tot_succ, tot_upd_ge _ _ 8 l 8 (Nat.le_refl _)]
    have u1 : upd P 8 l 8 = l := by unfold upd; rw [if_pos rfl]
    have u2 : upd (upd P 8 l) 9 h 9 = h := by unfold upd; rw [if_pos rfl]
    rw [u1, u2]
  have e2 : tot 4294967296 P 9 = tot 4294967296 P 8 + P 8 * 4294967296 ^ 8 := tot_succ _ _ _
  rw [e1]
  rw [e2] at h1
  have e3 : (4294967296 : Nat) ^ 9 = 4294967296 ^ 8 * 4294967296 := by rfl
  have e4 : l * 4294967296 ^ 8 + h * 4294967296 ^ 9 = (l + 4294967296 * h) * 4294967296 ^ 8 := by
    rw [e3, Nat.add_mul, Nat.mul_comm (4294967296 ^ 8) 4294967296, ← Nat.mul_assoc, Nat.mul_comm h 4294967296]
  rw [e] at e4
  rw [Nat.add_mul] at e4
  generalize (4294967296 : Nat) ^ 8 = B8 at *
  generalize (4294967296 : Nat) ^ 9 = B9 at *
  omega
/-- the second inner loop: what is below place j of the sum and q moduli, divided by 2^32 -/
def Two2 (U Z P : Nat → Nat) (q j c : Nat) : Prop := (∀ k, j ≤ k → P k = U k) ∧ 4294967296 * (tot 4294967296 P (j - 1) + c * 4294967296 ^ (j - 1)) = tot 4294967296 U j + q * tot 4294967296 Z j
theorem two2_start {U Z : Nat → Nat} {q c : Nat} (e : 4294967296 * c = U 0 + q * Z 0) : Two2 U Z U q 1 c := by
  refine ⟨fun _ _ => rfl, ?_⟩
  simp [tot]
  omega
theorem two2_step {U Z P : Nat → Nat} {q j c l h : Nat} (h1 : 1 ≤ j) (t : Two2 U Z P q j c) (e : l + 4294967296 * h = U j + q * Z j + c) : Two2 U Z (upd P (j - 1) l) q (j + 1) h := by
  obtain ⟨k1, k2⟩ := t
  obtain ⟨i, rfl⟩ : ∃ i, j = i + 1 := ⟨j - 1, by omega⟩
  rw [show i + 1 - 1 = i by omega] at *
  refine ⟨fun k hk => by unfold upd; rw [if_neg (by omega)]; exact k1 k (by omega), ?_⟩
  rw [show i + 1 + 1 - 1 = i + 1 by omega, tot_succ, tot_upd_ge _ _ i l i (Nat.le_refl _), show upd P i l i = l by unfold upd; rw [if_pos rfl], tot_succ _ U (i + 1), tot_succ _ Z (i + 1)]
  have e1 : (l + 4294967296 * h) * 4294967296 ^ i = (U (i + 1) + q * Z (i + 1) + c) * 4294967296 ^ i := by rw [e]
  simp only [Nat.add_mul] at e1
  rw [Nat.pow_succ]
  rw [Nat.mul_add] at k2
  simp only [Nat.mul_add]
  have f1 : 4294967296 * (h * (4294967296 ^ i * 4294967296)) = 4294967296 * (4294967296 * h * 4294967296 ^ i) := by
    congr 1; rw [Nat.mul_comm (4294967296 ^ i) 4294967296, ← Nat.mul_assoc, Nat.mul_comm h]
  have f2 : U (i + 1) * (4294967296 ^ i * 4294967296) = 4294967296 * (U (i + 1) * 4294967296 ^ i) := by
    rw [← Nat.mul_assoc, Nat.mul_comm]
  have f3 : q * (Z (i + 1) * (4294967296 ^ i * 4294967296)) = 4294967296 * (q * Z (i + 1) * 4294967296 ^ i) := by
    rw [← Nat.mul_assoc (Z (i + 1)), ← Nat.mul_assoc q, Nat.mul_comm _ 4294967296, Nat.mul_assoc q]
  rw [f1, f2, f3]
  omega
theorem two2_end {U Z P : Nat → Nat} {q c l h : Nat} (t : Two2 U Z P q 8 c) (e : l + 4294967296 * h = U 8 + c) : 4294967296 * tot 4294967296 (upd (upd P 7 l) 8 (U 9 + h)) 9 = tot 4294967296 U 10 + q * tot 4294967296 Z 8 := by
  obtain ⟨k1, k2⟩ := t
  have e1 : tot 4294967296 (upd (upd P 7 l) 8 (U 9 + h)) 9 = tot 4294967296 P 7 + l * 4294967296 ^ 7 + (U 9 + h) * 4294967296 ^ 8 := by
    rw [tot_succ, tot_upd_ge _ _ 8 _ 8 (Nat.le_refl _), tot_succ, tot_upd_ge _ _ 7 l 7 (Nat.le_refl _)]
    have u1 : upd P 7 l 7 = l := by unfold upd; rw [if_pos rfl]
    have u2 : upd (upd P 7 l) 8 (U 9 + h) 8 = U 9 + h := by unfold upd; rw [if_pos rfl]
    rw [u1, u2]
  rw [e1, tot_succ _ U 9, tot_succ _ U 8]
  rw [show 8 - 1 = 7 by rfl] at k2
  have e3 : (4294967296 : Nat) ^ 8 = 4294967296 * 4294967296 ^ 7 := by rfl
  have e4 : (4294967296 : Nat) ^ 9 = 4294967296 * 4294967296 ^ 8 := by rfl
  have e5 : (l + 4294967296 * h) * 4294967296 ^ 7 = (U 8 + c) * 4294967296 ^ 7 := by rw [e]
  simp only [Nat.add_mul] at e5 ⊢
  simp only [Nat.mul_add] at k2 ⊢
  have f1 : h * 4294967296 ^ 8 = 4294967296 * h * 4294967296 ^ 7 := by rw [e3, ← Nat.mul_assoc, Nat.mul_comm h]
  have f2 : U 9 * 4294967296 ^ 9 = 4294967296 * (U 9 * 4294967296 ^ 8) := by rw [e4, Nat.mul_left_comm]
  have f3 : U 8 * 4294967296 ^ 8 = 4294967296 * (U 8 * 4294967296 ^ 7) := by rw [e3, Nat.mul_left_comm]
  rw [f1, f2, f3]
  omega
/-- the end: what is gathered is the product, divided by 2^256 -/
theorem mout_end {F : FC} (hF : F.Ok) {A : Nat} {Y P : Nat → Nat} (h : MOut F.M A Y P 8) : tot 4294967296 P 9 % F.M = A * tot 4294967296 Y 8 * F.Ri % F.M := by
  obtain ⟨_, Q, hQ⟩ := h
  generalize tot 4294967296 P 9 = T at *
  generalize tot 4294967296 Y 8 = V at *
  have hR : F.R = 4294967296 ^ 8 := by simp [FC.R]
  have e : T * (F.R * F.Ri) = A * V * F.Ri + F.M * (Q * F.Ri) := by
    rw [← Nat.mul_assoc, hR, hQ, Nat.add_mul, show Q * F.M * F.Ri = F.M * (Q * F.Ri) by rw [Nat.mul_comm Q, Nat.mul_assoc]]
  have e2 : T * (F.R * F.Ri) % F.M = T % F.M := by rw [Nat.mul_mod, hF.ri, Nat.mul_one, Nat.mod_mod]
  rw [← e2, e, Nat.add_mul_mod_self_left]
theorem mout_top {F : FC} (hF : F.Ok) {A : Nat} {Y P : Nat → Nat} {k : Nat} (h : MOut F.M A Y P k) : P 8 = 0 ∧ tot 4294967296 P 9 = tot 4294967296 P 8 := by
  have h1 := h.1
  have h2 := hF.two
  rw [tot_succ] at h1 ⊢
  have e : (4294967296 : Nat) ^ 8 = 115792089237316195423570985008687907853269984665640564039457584007913129639936 := by rfl
  rw [e] at h1 ⊢
  have : P 8 = 0 := by
    rcases Nat.eq_zero_or_pos (P 8) with q | q
    · exact q
    · have := Nat.mul_le_mul_right 115792089237316195423570985008687907853269984665640564039457584007913129639936 q
      omega
  rw [this]; exact ⟨rfl, by omega⟩
theorem join_val (P : Nat → Nat) : val4 (P 0 + 4294967296 * P 1) (P 2 + 4294967296 * P 3) (P 4 + 4294967296 * P 5) (P 6 + 4294967296 * P 7) = tot 4294967296 P 8 := by
  unfold val4
  simp only [tot]
  omega
end Go.Proofs.Ytalddekocfkbhaa
