/-
  Plain numbers: the two moduli are primes with a known root each, so that whatever is not 0 is a power of it. No program in sight. Conditions: none.
-/
import Derived.Laws.Externs
namespace Go.Proofs.Ytgacpjmggdmgdaa
set_option linter.unusedVariables false

theorem beq_ne {a b : Nat} (h : a ≠ b) : Nat.beq a b = false := by cases q : Nat.beq a b with | false => rfl | true => exact absurd (Nat.eq_of_beq_eq_true q) h
def Prm (q : Nat) : Prop := 1 < q ∧ ∀ m, m ∣ q → m = 1 ∨ m = q

/-- a power modulo n, by squares -/
def pm (n : Nat) : Nat → Nat → Nat → Nat
  | 0, _, _ => 1 % n
  | f + 1, b, e => bif Nat.beq e 0 then 1 % n else bif Nat.beq (e % 2) 1 then b * pm n f (b * b % n) (e / 2) % n else pm n f (b * b % n) (e / 2)
theorem pm_eq (n : Nat) : ∀ f b e, e < 2 ^ f → pm n f b e = b ^ e % n := by
  intro f
  induction f with
  | zero => intro b e h; have : e = 0 := by omega
            subst this; simp [pm]
  | succ f ih =>
    intro b e h
    rw [Nat.pow_succ] at h
    unfold pm
    by_cases h0 : e = 0
    · subst h0; simp
    · have h0' : Nat.beq e 0 = false := beq_ne h0
      rw [h0']
      have hi := ih (b * b % n) (e / 2) (by omega)
      have hp : (b * b % n) ^ (e / 2) % n = b ^ (2 * (e / 2)) % n := by
        rw [← Nat.pow_mod, Nat.pow_mul, Nat.pow_two]
      by_cases h1 : e % 2 = 1
      · have h1' : Nat.beq (e % 2) 1 = true := by rw [h1]; rfl
        rw [h1']
        simp only [cond_true, cond_false]
        rw [hi, hp, Nat.mul_mod, Nat.mod_mod, ← Nat.mul_mod, ← Nat.pow_succ']
        congr 2; omega
      · have h1' : Nat.beq (e % 2) 1 = false := beq_ne h1
        rw [h1']
        simp only [cond_false]
        rw [hi, hp]
        congr 2; omega

/-- no divisor from 2 on, so many of them tried -/
def noDiv (n : Nat) : Nat → Bool
  | 0 => true
  | k + 1 => (Nat.beq k 0 || !(Nat.beq (n % (k + 1)) 0)) && noDiv n k
theorem noDiv_spec (n : Nat) : ∀ k, noDiv n k = true → ∀ m, 2 ≤ m → m ≤ k → ¬ m ∣ n := by
  intro k
  induction k with
  | zero => intro _ m h1 h2; omega
  | succ k ih =>
    intro h m h1 h2
    unfold noDiv at h
    rw [Bool.and_eq_true] at h
    by_cases hm : m = k + 1
    · subst hm
      have hk : Nat.beq k 0 = false := beq_ne (by omega)
      rw [hk] at h
      simp at h
      intro hd
      rw [Nat.mod_eq_zero_of_dvd hd] at h
      exact absurd h.1 (by decide)
    · exact ih h.2 m h1 (by omega)
theorem prm_small (n k : Nat) (h1 : 1 < n) (hk : n < (k + 1) * (k + 1)) (h : noDiv n k = true) : Prm n := by
  refine ⟨h1, fun m hm => ?_⟩
  have hs := noDiv_spec n k h
  obtain ⟨c, hc⟩ := hm
  have hm0 : m ≠ 0 := fun e => by subst e; omega
  have hc0 : c ≠ 0 := fun e => by subst e; omega
  by_cases h2 : m = 1
  · exact Or.inl h2
  · by_cases h3 : c = 1
    · subst h3; right; omega
    · exfalso
      by_cases h4 : m ≤ k
      · exact hs m (by omega) h4 ⟨c, hc⟩
      · by_cases h5 : c ≤ k
        · exact hs c (by omega) h5 ⟨m, by rw [hc, Nat.mul_comm]⟩
        · have := Nat.mul_le_mul (show k + 1 ≤ m by omega) (show k + 1 ≤ c by omega)
          omega

theorem prm_dvd_prod : ∀ (l : List Nat) (m : Nat), m ∣ l.foldr (· * ·) 1 → 1 < m → (∀ q, q ∈ l → Prm q) → ∃ q, q ∈ l ∧ q ∣ m := by
  intro l
  induction l with
  | nil => intro m h h1 _; simp at h; omega
  | cons q l ih =>
    intro m h h1 hq
    rw [List.foldr_cons] at h
    rcases (hq q List.mem_cons_self).2 (Nat.gcd m q) (Nat.gcd_dvd_right m q) with g | g
    · have := Nat.Coprime.dvd_of_dvd_mul_left (show Nat.Coprime m q from g) h
      obtain ⟨q', h', h''⟩ := ih m this h1 (fun q' h' => hq q' (List.mem_cons_of_mem _ h'))
      exact ⟨q', List.mem_cons_of_mem _ h', h''⟩
    · exact ⟨q, List.mem_cons_self, g ▸ Nat.gcd_dvd_left m q⟩

theorem pow_add_mod (g a b n : Nat) : g ^ (a + b) % n = (g ^ a % n) * (g ^ b % n) % n := by rw [Nat.pow_add, Nat.mul_mod]
theorem pow_mul_one {g o n : Nat} (h1 : 1 < n) (h : g ^ o % n = 1) (k : Nat) : g ^ (o * k) % n = 1 := by
  rw [Nat.pow_mul, Nat.pow_mod, h, Nat.one_pow, Nat.mod_eq_of_lt h1]

theorem least {P : Nat → Prop} : ∀ n, P n → ∃ m, P m ∧ ∀ k, k < m → ¬ P k := by
  intro n
  induction n using Nat.strongRecOn with
  | ind n ih =>
    intro h
    by_cases hk : ∃ k, k < n ∧ P k
    · obtain ⟨k, h1, h2⟩ := hk; exact ih k h1 h2
    · exact ⟨n, h, fun k h1 h2 => hk ⟨k, h1, h2⟩⟩

/-- the order: no lesser power of g is one -/
theorem order_full {n g : Nat} (l : List Nat) (h1 : 1 < n) (hl : l.foldr (· * ·) 1 = n - 1) (hp : ∀ q, q ∈ l → Prm q) (hg : g ^ (n - 1) % n = 1) (hq : ∀ q, q ∈ l → g ^ ((n - 1) / q) % n ≠ 1) :
    ∀ k, 0 < k → k < n - 1 → g ^ k % n ≠ 1 := by
  obtain ⟨o, ⟨ho0, ho⟩, hmin⟩ := least (P := fun k => 0 < k ∧ g ^ k % n = 1) (n - 1) ⟨by omega, hg⟩
  have hdiv : ∀ k, g ^ k % n = 1 → o ∣ k := by
    intro k hk
    have e : o * (k / o) + k % o = k := Nat.div_add_mod k o
    rw [← e, pow_add_mod, pow_mul_one h1 ho, Nat.one_mul, Nat.mod_mod] at hk
    have hlt := Nat.mod_lt k ho0
    by_cases hz : k % o = 0
    · exact Nat.dvd_of_mod_eq_zero hz
    · exact absurd ⟨by omega, hk⟩ (hmin (k % o) hlt)
  obtain ⟨m, hm⟩ := hdiv (n - 1) hg
  have hm1 : m = 1 := by
    by_cases h : m = 1
    · exact h
    · exfalso
      have hm0 : m ≠ 0 := fun e => by subst e; omega
      obtain ⟨q, hq1, c, hc⟩ := prm_dvd_prod l m (by rw [hl, hm]; exact Nat.dvd_mul_left _ _) (by omega) hp
      have hq0 : 0 < q := Nat.lt_of_lt_of_le (by omega) (Nat.le_of_lt (hp q hq1).1)
      refine hq q hq1 ?_
      have : (n - 1) / q = o * c := by
        rw [hm, hc, ← Nat.mul_assoc, Nat.mul_comm o q, Nat.mul_assoc, Nat.mul_div_cancel_left _ hq0]
      rw [this, pow_mul_one h1 ho]
  subst hm1
  intro k hk0 hk hk1
  have := Nat.le_of_dvd hk0 (hdiv k hk1)
  omega

/-- whom no two of n numbers below n have in common, all have -/
theorem pigeon : ∀ (n : Nat) (f : Nat → Nat), (∀ i, i < n → f i < n) → (∀ i j, i < n → j < n → f i = f j → i = j) → ∀ y, y < n → ∃ i, i < n ∧ f i = y := by
  intro n
  induction n with
  | zero => intro f _ _ y hy; omega
  | succ n ih =>
    intro f hf hi y hy
    by_cases hn : f n = n
    · by_cases hyn : y = n
      · exact ⟨n, by omega, by omega⟩
      · have hf' : ∀ i, i < n → f i < n := fun i h => by
          have := hf i (by omega)
          have hne : f i ≠ n := fun e => by have := hi i n (by omega) (by omega) (by omega); omega
          omega
        obtain ⟨i, h1, h2⟩ := ih f hf' (fun i j h h' => hi i j (by omega) (by omega)) y (by omega)
        exact ⟨i, by omega, h2⟩
    · have hfn := hf n (by omega)
      have key := ih (fun i => if f i = n then f n else f i)
        (fun i h => by
          have := hf i (by omega)
          split <;> omega)
        (fun i j h h' e => by
          split at e <;> split at e
          · exact hi i j (by omega) (by omega) (by omega)
          · have := hi n j (by omega) (by omega) e; omega
          · have := hi i n (by omega) (by omega) e; omega
          · exact hi i j (by omega) (by omega) e)
      by_cases hyn : y = n
      · obtain ⟨i, h1, h2⟩ := key (f n) (by omega)
        by_cases h3 : f i = n
        · exact ⟨i, by omega, by omega⟩
        · rw [if_neg h3] at h2
          have := hi i n (by omega) (by omega) h2
          omega
      · obtain ⟨i, h1, h2⟩ := key y (by omega)
        by_cases h3 : f i = n
        · rw [if_pos h3] at h2; exact ⟨n, by omega, h2⟩
        · rw [if_neg h3] at h2; exact ⟨i, by omega, h2⟩

/-- whatever is not 0 modulo n is a power of g -/
def Root (n g : Nat) : Prop := 1 < n ∧ g ^ (n - 1) % n = 1 ∧ (∀ k, 0 < k → k < n - 1 → g ^ k % n ≠ 1) ∧ ∀ a, 0 < a → a < n → ∃ k, k < n - 1 ∧ g ^ k % n = a
theorem root_of {n g : Nat} (l : List Nat) (h1 : 1 < n) (hl : l.foldr (· * ·) 1 = n - 1) (hp : ∀ q, q ∈ l → Prm q) (hg : g ^ (n - 1) % n = 1) (hq : ∀ q, q ∈ l → g ^ ((n - 1) / q) % n ≠ 1) : Root n g := by
  have ho := order_full l h1 hl hp hg hq
  refine ⟨h1, hg, ho, fun a ha han => ?_⟩
  have hnz : ∀ i, i ≤ n - 1 → g ^ i % n ≠ 0 := by
    intro i hi e
    have : g ^ (n - 1) % n = 0 := by
      have : n - 1 = i + (n - 1 - i) := by omega
      rw [this, pow_add_mod, e, Nat.zero_mul, Nat.zero_mod]
    omega
  have hdis : ∀ i j, i < n - 1 → j < n - 1 → i < j → g ^ i % n ≠ g ^ j % n := by
    intro i j hi hj hij e
    have e1 : g ^ (n - 1 - i + i) % n = 1 := by rw [show n - 1 - i + i = n - 1 by omega]; exact hg
    have e2 : g ^ (n - 1 - i + j) % n = 1 := by rw [pow_add_mod, ← e, ← pow_add_mod]; exact e1
    rw [show n - 1 - i + j = n - 1 + (j - i) by omega, pow_add_mod, hg, Nat.one_mul, Nat.mod_mod] at e2
    exact ho (j - i) (by omega) (by omega) e2
  obtain ⟨i, hi, he⟩ := pigeon (n - 1) (fun i => g ^ i % n - 1)
    (fun i h => by
      have := Nat.mod_lt (g ^ i) (show 0 < n by omega)
      have := hnz i (by omega)
      omega)
    (fun i j h h' e => by
      have a1 := hnz i (by omega)
      have a2 := hnz j (by omega)
      have e' : g ^ i % n = g ^ j % n := by omega
      rcases Nat.lt_trichotomy i j with q | q | q
      · exact absurd e' (hdis i j h h' q)
      · exact q
      · exact absurd e'.symm (hdis j i h' h q))
    (a - 1) (by omega)
  refine ⟨i, hi, ?_⟩
  have := hnz i (by omega)
  omega
theorem Root.prm {n g : Nat} (h : Root n g) : Prm n := by
  obtain ⟨h1, hg, _, hs⟩ := h
  refine ⟨h1, fun m hm => ?_⟩
  by_cases h2 : m = n
  · exact Or.inr h2
  · left
    have hm0 : m ≠ 0 := fun e => by subst e; have := Nat.eq_zero_of_zero_dvd hm; omega
    have hle := Nat.le_of_dvd (by omega) hm
    obtain ⟨k, hk, e⟩ := hs m (by omega) (by omega)
    have e1 : g ^ (k + (n - 1 - k)) % n = 1 := by rw [show k + (n - 1 - k) = n - 1 by omega]; exact hg
    rw [pow_add_mod, e] at e1
    have hd : m ∣ (m * (g ^ (n - 1 - k) % n)) % n := (Nat.dvd_mod_iff hm).2 (Nat.dvd_mul_right _ _)
    rw [e1] at hd
    exact Nat.dvd_one.1 hd
/-- what the kernel checks of a number, its root and the factors of the number less 1 -/
def cert (n g : Nat) (l : List Nat) : Bool :=
  Nat.blt 1 n && (Nat.beq (l.foldr (· * ·) 1) (n - 1) && (Nat.blt n (2 ^ 255) && (Nat.beq (pm n 256 g (n - 1)) 1 && l.all fun q => !(Nat.beq (pm n 256 g ((n - 1) / q)) 1))))
theorem root_cert {n g : Nat} {l : List Nat} (h : cert n g l = true) (hp : ∀ q, q ∈ l → Prm q) : Root n g := by
  unfold cert at h
  simp only [Bool.and_eq_true] at h
  obtain ⟨h1, h2, h3, h4, h5⟩ := h
  have h1 : 1 < n := by unfold Nat.blt at h1; exact Nat.le_of_ble_eq_true h1
  have h3 : n < 2 ^ 255 := by
    unfold Nat.blt at h3; exact Nat.le_of_ble_eq_true h3
  have h2 := Nat.eq_of_beq_eq_true h2
  have h4 := Nat.eq_of_beq_eq_true h4
  have hb : ∀ e, e ≤ n - 1 → e < 2 ^ 256 := fun e he => by
    rw [Nat.pow_succ]; omega
  rw [pm_eq n 256 g _ (hb _ (Nat.le_refl _))] at h4
  refine root_of l h1 h2 hp h4 fun q hq e => ?_
  have := List.all_eq_true.1 h5 q hq
  rw [pm_eq n 256 g _ (hb _ (Nat.div_le_self _ _)), e] at this
  exact absurd this (by decide)
end Go.Proofs.Ytgacpjmggdmgdaa
