/-
  Plain numbers: the two moduli are primes with a known root each, so that whatever is not 0 is a power of it. No program in sight. Conditions: none.
  The tower's parts in a table of calls. Conditions: none.
  Elements of Fp2 in a table of calls. Conditions: the parts' table is right.
  Elements of Fp6 in a table of calls. Conditions: the parts' table is right.
-/
import Derived.Laws.Externs
import Derived.Test.YtaingnhikbaplaaGreatPf04
import Derived.Test.YtaingnhikbaplaaGreatProg
namespace Go.Proofs.YtaingnhikbaplaaGreat
set_option linter.unusedVariables false

theorem beq_ne {a b : Nat} (h : a ≠ b) : Nat.beq a b = false := by cases q : Nat.beq a b with | false => rfl | true => exact absurd (Nat.eq_of_beq_eq_true q) h
def Prm (q : Nat) : Prop := 1 < q ∧ ∀ m, m ∣ q → m = 1 ∨ m = q

/-- a power modulo n, by squares -/
def pm (n : Nat) : Nat → Nat → Nat → Nat
  | 0, _, _ => 1 % n
  | f + 1, b, e => bif Nat.beq e 0 then 1 % n else bif Nat.beq (e % 2) 1 then b * pm n f (b * b % n) (e / 2) % n else pm n f (b * b % n) (e / 2)
theorem pm_eq (n : Nat) : ∀ f b e, e < 2 ^ f → pm n f b e = b ^ e % n := by
  intro f
  induction f with
  | zero => intro b e h; have : e = 0 := by omega
            subst this; simp [pm]
  | succ f ih =>
    intro b e h
    rw [Nat.pow_succ] at h
    unfold pm
    by_cases h0 : e = 0
    · subst h0; simp
    · have h0' : Nat.beq e 0 = false := beq_ne h0
      rw [h0']
      have hi := ih (b * b % n) (e / 2) (by omega)
      have hp : (b * b % n) ^ (e / 2) % n = b ^ (2 * (e / 2)) % n := by
        rw [← Nat.pow_mod, Nat.pow_mul, Nat.pow_two]
      by_cases h1 : e % 2 = 1
      · have h1' : Nat.beq (e % 2) 1 = true := by rw [h1]; rfl
        rw [h1']
        simp only [cond_true, cond_false]
        rw [hi, hp, Nat.mul_mod, Nat.mod_mod, ← Nat.mul_mod, ← Nat.pow_succ']
        congr 2; omega
      · have h1' : Nat.beq (e % 2) 1 = false := beq_ne h1
        rw [h1']
        simp only [cond_false]
        rw [hi, hp]
        congr 2; omega

/-- no divisor from 2 on, so many of them tried -/
def noDiv (n : Nat) : Nat → Bool
  | 0 => true
  | k + 1 => (Nat.beq k 0 || !(Nat.beq (n % (k + 1)) 0)) && noDiv n k
theorem noDiv_spec (n : Nat) : ∀ k, noDiv n k = true → ∀ m, 2 ≤ m → m ≤ k → ¬ m ∣ n := by
  intro k
  induction k with
  | zero => intro _ m h1 h2; omega
  | succ k ih =>
    intro h m h1 h2
    unfold noDiv at h
    rw [Bool.and_eq_true] at h
    by_cases hm : m = k + 1
    · subst hm
      have hk : Nat.beq k 0 = false := beq_ne (by omega)
      rw [hk] at h
      simp at h
      intro hd
      rw [Nat.mod_eq_zero_of_dvd hd] at h
      exact absurd h.1 (by decide)
    · exact ih h.2 m h1 (by omega)
theorem prm_small (n k : Nat) (h1 : 1 < n) (hk : n < (k + 1) * (k + 1)) (h : noDiv n k = true) : Prm n := by
  refine ⟨h1, fun m hm => ?_⟩
  have hs := noDiv_spec n k h
  obtain ⟨c, hc⟩ := hm
  have hm0 : m ≠ 0 := fun e => by subst e; omega
  have hc0 : c ≠ 0 := fun e => by subst e; omega
  by_cases h2 : m = 1
  · exact Or.inl h2
  · by_cases h3 : c = 1
    · subst h3; right; omega
    · exfalso
      by_cases h4 : m ≤ k
      · exact hs m (by omega) h4 ⟨c, hc⟩
      · by_cases h5 : c ≤ k
        · exact hs c (by omega) h5 ⟨m, by rw [hc, Nat.mul_comm]⟩
        · have := Nat.mul_le_mul (show k + 1 ≤ m by omega) (show k + 1 ≤ c by omega)
          omega

theorem prm_dvd_prod : ∀ (l : List Nat) (m : Nat), m ∣ l.foldr (· * ·) 1 → 1 < m → (∀ q, q ∈ l → Prm q) → ∃ q, q ∈ l ∧ q ∣ m := by
  intro l
  induction l with
  | nil => intro m h h1 _; simp at h; omega
  | cons q l ih =>
    intro m h h1 hq
    rw [List.foldr_cons] at h
    rcases (hq q List.mem_cons_self).2 (Nat.gcd m q) (Nat.gcd_dvd_right m q) with g | g
    · have := Nat.Coprime.dvd_of_dvd_mul_left (show Nat.Coprime m q from g) h
      obtain ⟨q', h', h''⟩ := ih m this h1 (fun q' h' => hq q' (List.mem_cons_of_mem _ h'))
      exact ⟨q', List.mem_cons_of_mem _ h', h''⟩
    · exact ⟨q, List.mem_cons_self, g ▸ Nat.gcd_dvd_left m q⟩

theorem pow_add_mod (g a b n : Nat) : g ^ (a + b) % n = (g ^ a % n) * (g ^ b % n) % n := by rw [Nat.pow_add, Nat.mul_mod]
theorem pow_mul_one {g o n : Nat} (h1 : 1 < n) (h : g ^ o % n = 1) (k : Nat) : g ^ (o * k) % n = 1 := by
  rw [Nat.pow_mul, Nat.pow_mod, h, Nat.one_pow, Nat.mod_eq_of_lt h1]

theorem least {P : Nat → Prop} : ∀ n, P n → ∃ m, P m ∧ ∀ k, k < m → ¬ P k := by
  intro n
  induction n using Nat.strongRecOn with
  | ind n ih =>
    intro h
    by_cases hk : ∃ k, k < n ∧ P k
    · obtain ⟨k, h1, h2⟩ := hk; exact ih k h1 h2
    · exact ⟨n, h, fun k h1 h2 => hk ⟨k, h1, h2⟩⟩

/-- the order: no lesser power of g is one -/
theorem order_full {n g : Nat} (l : List Nat) (h1 : 1 < n) (hl : l.foldr (· * ·) 1 = n - 1) (hp : ∀ q, q ∈ l → Prm q) (hg : g ^ (n - 1) % n = 1) (hq : ∀ q, q ∈ l → g ^ ((n - 1) / q) % n ≠ 1) :
    ∀ k, 0 < k → k < n - 1 → g ^ k % n ≠ 1 := by
  obtain ⟨o, ⟨ho0, ho⟩, hmin⟩ := least (P := fun k => 0 < k ∧ g ^ k % n = 1) (n - 1) ⟨by omega, hg⟩
  have hdiv : ∀ k, g ^ k % n = 1 → o ∣ k := by
    intro k hk
    have e : o * (k / o) + k % o = k := Nat.div_add_mod k o
    rw [← e, pow_add_mod, pow_mul_one h1 ho, Nat.one_mul, Nat.mod_mod] at hk
    have hlt := Nat.mod_lt k ho0
    by_cases hz : k % o = 0
    · exact Nat.dvd_of_mod_eq_zero hz
    · exact absurd ⟨by omega, hk⟩ (hmin (k % o) hlt)
  obtain ⟨m, hm⟩ := hdiv (n - 1) hg
  have hm1 : m = 1 := by
    by_cases h : m = 1
    · exact h
    · exfalso
      have hm0 : m ≠ 0 := fun e => by subst e; omega
      obtain ⟨q, hq1, c, hc⟩ := prm_dvd_prod l m (by rw [hl, hm]; exact Nat.dvd_mul_left _ _) (by omega) hp
      have hq0 : 0 < q := Nat.lt_of_lt_of_le (by omega) (Nat.le_of_lt (hp q hq1).1)
      refine hq q hq1 ?_
      have : (n - 1) / q = o * c := by
        rw [hm, hc, ← Nat.mul_assoc, Nat.mul_comm o q, Nat.mul_assoc, Nat.mul_div_cancel_left _ hq0]
      rw [this, pow_mul_one h1 ho]
  subst hm1
  intro k hk0 hk hk1
  have := Nat.le_of_dvd hk0 (hdiv k hk1)
  omega

/-- whom no two of n numbers below n have in common, all have -/
theorem pigeon : ∀ (n : Nat) (f : Nat → Nat), (∀ i, i < n → f i < n) → (∀ i j, i < n → j < n → f i = f j → i = j) → ∀ y, y < n → ∃ i, i < n ∧ f i = y := by
  intro n
  induction n with
  | zero => intro f _ _ y hy; omega
  | succ n ih =>
    intro f hf hi y hy
    by_cases hn : f n = n
    · by_cases hyn : y = n
      · exact ⟨n, by omega, by omega⟩
      · have hf' : ∀ i, i < n → f i < n := fun i h => by
          have := hf i (by omega)
          have hne : f i ≠ n := fun e => by have := hi i n (by omega) (by omega) (by omega); omega
          omega
        obtain ⟨i, h1, h2⟩ := ih f hf' (fun i j h h' => hi i j (by omega) (by omega)) y (by omega)
        exact ⟨i, by omega, h2⟩
    · have hfn := hf n (by omega)
      have key := ih (fun i => if f i = n then f n else f i)
        (fun i h => by
          have := hf i (by omega)
          split <;> omega)
        (fun i j h h' e => by
          split at e <;> split at e
          · exact hi i j (by omega) (by omega) (by omega)
          · have := hi n j (by omega) (by omega) e; omega
          · have := hi i n (by omega) (by omega) e; omega
          · exact hi i j (by omega) (by omega) e)
      by_cases hyn : y = n
      · obtain ⟨i, h1, h2⟩ := key (f n) (by omega)
        by_cases h3 : f i = n
        · exact ⟨i, by omega, by omega⟩
        · rw [if_neg h3] at h2
          have := hi i n (by omega) (by omega) h2
          omega
      · obtain ⟨i, h1, h2⟩ := key y (by omega)
        by_cases h3 : f i = n
        · rw [if_pos h3] at h2; exact ⟨n, by omega, h2⟩
        · rw [if_neg h3] at h2; exact ⟨i, by omega, h2⟩

/-- whatever is not 0 modulo n is a power of g -/
def Root (n g : Nat) : Prop := 1 < n ∧ g ^ (n - 1) % n = 1 ∧ (∀ k, 0 < k → k < n - 1 → g ^ k % n ≠ 1) ∧ ∀ a, 0 < a → a < n → ∃ k, k < n - 1 ∧ g ^ k % n = a
theorem root_of {n g : Nat} (l : List Nat) (h1 : 1 < n) (hl : l.foldr (· * ·) 1 = n - 1) (hp : ∀ q, q ∈ l → Prm q) (hg : g ^ (n - 1) % n = 1) (hq : ∀ q, q ∈ l → g ^ ((n - 1) / q) % n ≠ 1) : Root n g := by
  have ho := order_full l h1 hl hp hg hq
  refine ⟨h1, hg, ho, fun a ha han => ?_⟩
  have hnz : ∀ i, i ≤ n - 1 → g ^ i % n ≠ 0 := by
    intro i hi e
    have : g ^ (n - 1) % n = 0 := by
      have : n - 1 = i + (n - 1 - i) := by omega
      rw [this, pow_add_mod, e, Nat.zero_mul, Nat.zero_mod]
    omega
  have hdis : ∀ i j, i < n - 1 → j < n - 1 → i < j → g ^ i % n ≠ g ^ j % n := by
    intro i j hi hj hij e
    have e1 : g ^ (n - 1 - i + i) % n = 1 := by rw [show n - 1 - i + i = n - 1 by omega]; exact hg
    have e2 : g ^ (n - 1 - i + j) % n = 1 := by rw [pow_add_mod, ← e, ← pow_add_mod]; exact e1
    rw [show n - 1 - i + j = n - 1 + (j - i) by omega, pow_add_mod, hg, Nat.one_mul, Nat.mod_mod] at e2
    exact ho (j - i) (by omega) (by omega) e2
  obtain ⟨i, hi, he⟩ := pigeon (n - 1) (fun i => g ^ i % n - 1)
    (fun i h => by
      have := Nat.mod_lt (g ^ i) (show 0 < n by omega)
      have := hnz i (by omega)
      omega)
    (fun i j h h' e => by
      have a1 := hnz i (by omega)
      have a2 := hnz j (by omega)
      have e' : g ^ i % n = g ^ j % n := by omega
      rcases Nat.lt_trichotomy i j with q | q | q
      · exact absurd e' (hdis i j h h' q)
      · exact q
      · exact absurd e'.symm (hdis j i h' h q))
    (a - 1) (by omega)
  refine ⟨i, hi, ?_⟩
  have := hnz i (by omega)
  omega
theorem Root.prm {n g : Nat} (h : Root n g) : Prm n := by
  obtain ⟨h1, hg, _, hs⟩ := h
  refine ⟨h1, fun m hm => ?_⟩
  by_cases h2 : m = n
  · exact Or.inr h2
  · left
    have hm0 : m ≠ 0 := fun e => by subst e; have := Nat.eq_zero_of_zero_dvd hm; omega
    have hle := Nat.le_of_dvd (by omega) hm
    obtain ⟨k, hk, e⟩ := hs m (by omega) (by omega)
    have e1 : g ^ (k + (n - 1 - k)) % n = 1 := by rw [show k + (n - 1 - k) = n - 1 by omega]; exact hg
    rw [pow_add_mod, e] at e1
    have hd : m ∣ (m * (g ^ (n - 1 - k) % n)) % n := (Nat.dvd_mod_iff hm).2 (Nat.dvd_mul_right _ _)
    rw [e1] at hd
    exact Nat.dvd_one.1 hd
/-- what the kernel checks of a number, its root and the factors of the number less 1 -/
def cert (n g : Nat) (l : List Nat) : Bool :=
  Nat.blt 1 n && (Nat.beq (l.foldr (· * ·) 1) (n - 1) && (Nat.blt n (2 ^ 255) && (Nat.beq (pm n 256 g (n - 1)) 1 && l.all fun q => !(Nat.beq (pm n 256 g ((n - 1) / q)) 1))))
theorem root_cert {n g : Nat} {l : List Nat} (h : cert n g l = true) (hp : ∀ q, q ∈ l → Prm q) : Root n g := by
  unfold cert at h
  simp only [Bool.and_eq_true] at h
  obtain ⟨h1, h2, h3, h4, h5⟩ := h
  have h1 : 1 < n := by unfold Nat.blt at h1; exact Nat.le_of_ble_eq_true h1
  have h3 : n < 2 ^ 255 := by
    unfold Nat.blt at h3; exact Nat.le_of_ble_eq_true h3
  have h2 := Nat.eq_of_beq_eq_true h2
  have h4 := Nat.eq_of_beq_eq_true h4
  have hb : ∀ e, e ≤ n - 1 → e < 2 ^ 256 := fun e he => by
    rw [Nat.pow_succ]; omega
  rw [pm_eq n 256 g _ (hb _ (Nat.le_refl _))] at h4
  refine root_of l h1 h2 hp h4 fun q hq e => ?_
  have := List.all_eq_true.1 h5 q hq
  rw [pm_eq n 256 g _ (hb _ (Nat.div_le_self _ _)), e] at this
  exact absurd this (by decide)
end Go.Proofs.YtaingnhikbaplaaGreat
namespace Go.Proofs.YtaingnhikbaplaaGreat.Ex
set_option linter.unusedVariables false
set_option linter.unusedSimpArgs false
open Go.RowKit

theorem hmix : Tryz.prog.follows .mixedOrders = true := by kernel_rfl
def qN : EqT := { q := fun _ => none, n := fun _ => none }
theorem qN_ok {P : Program} : EqOk P qN := ⟨⟨(fun t n h => by cases h), (fun t n h => by cases h)⟩, rfl⟩
/-- sums of products -/
def dotG : Fq → List Fq → List Fq → Fq
  | a, x :: r, y :: s => dotG (F1.add a (F1.mul x y)) r s
  | a, _, _ => a
def dotF : List Fq → List Fq → Fq
  | x :: r, y :: s => dotG (F1.mul x y) r s
  | _, _ => F1.zero
def ones : Nat → List At → Option (List Fq)
  | 0, _ => some []
  | n + 1, .f a :: r => match ones n r with | some l => some (a :: l) | none => none
  | _, _ => none
def gProd : Ent
  | [.s l n m, .s l' n' m'] => bif Nat.beq n n' && Nat.ble n 6 then (match ones n l, ones n' l' with
    | some x, some y => some ([], .one (.fl (e1 (dotF x y))))
    | _, _ => none) else none
  | _ => none
def gOf : Ent
  | [.v (.im (.int .u64 (.ofNat n)))] => bif Nat.blt n 18446744073709551616 then some ([], .one (.fl (e1 (fm n)))) else none
  | _ => none
/-- an inverse's number -/
theorem finv_ex : ∃ f : Fq → Fq, ∀ x, (f x).1 = 1 * (x.1 ^ (FP.M - 2) % FP.M) :=
  ⟨fun x => ⟨1 * (x.1 ^ (FP.M - 2) % FP.M), by rw [Nat.one_mul]; exact Nat.mod_lt _ fp_pos⟩, fun _ => rfl⟩
noncomputable def finv : Fq → Fq := Classical.choose finv_ex
theorem finv_val (x : Fq) : (finv x).1 = 1 * (x.1 ^ (FP.M - 2) % FP.M) := Classical.choose_spec finv_ex x
/-- c: that what is inverted is not 0 -/
noncomputable def gInv (c : Bool) : Ent
  | [.v (.im (.int .i64 (.ofNat 1))), .v (.fl l)] => match rd1 l with
    | some x => bif c then some ([x ≠ F1.zero], .many [.fl (e1 (finv x)), .im (.int .i64 0)]) else some ([x = F1.zero], .many [.fl (e1 F1.zero), .im (.int .i64 22)])
    | none => none
  | _ => none
noncomputable def T_B (c : Bool) : Tab := (((((((T0.add 234 (g2 rd1 rd1 fun x y => ([], .one (.fl (e1 (F1.add x y)))))).add 235 (g2 rd1 rd1 fun x y => ([], .one (.fl (e1 (F1.sub x y)))))).add 233 (g2 rd1 rd1 fun x y => ([], .one (.fl (e1 (F1.mul x y)))))).add
  230 (g1 rd1 fun x => ([], .one (.fl (e1 (F1.neg x)))))).add 229 (g1 rq1 fun x => ([], .one (.fl (e1 (m1 x)))))).add 264 gProd).add 119 gOf).add 232 (gInv c)
theorem ok_B (c : Bool) (hB : TabOk Tryz.prog (T_B c)) : TabOk Tryz.prog (T_B c) := hB

end Go.Proofs.YtaingnhikbaplaaGreat.Ex
namespace Go.Proofs.YtaingnhikbaplaaGreat.Ex
set_option linter.unusedVariables false
set_option linter.unusedSimpArgs false
open Go.RowKit

def conj2' (x : Q2) : Q2 := (x.1, F1.neg x.2)
def sc2 (x : Q2) (k : Fq) : Q2 := (F1.mul x.1 k, F1.mul x.2 k)
def nm2 (x : Q2) : Fq := F1.add (F1.mul x.1 x.1) (F1.mul x.2 x.2)
noncomputable def iv2 (x : Q2) : Q2 := sc2 (conj2' x) (finv (nm2 x))
set_option maxRecDepth 100000 in
theorem run_t2plus (c : Bool) (x : Q2) (y : Q2) : funA Tryz.prog (T_B c) qN (fun _ => true) Tryz.f173 40 [.v (.fl (e2 x)), .v (.fl (e2 y))] = some ([], .one (.fl (e2 (F2.add x y)))) := by kernel_rfl
noncomputable def T_t2plus (c : Bool) : Tab := (T_B c).add 173 (g2 rd2 rd2 (fun x y => ([], .one (.fl (e2 (F2.add x y))))))
theorem ok_t2plus (c : Bool) (hB : TabOk Tryz.prog (T_B c)) : TabOk Tryz.prog (T_t2plus c) := (ok_B c hB).add Tryz.func173 (by kernel_rfl) (by kernel_rfl) (g2_ok rd2_ok rd2_ok fun x y hp args w ha => fun_sound hmix (ok_B c hB) qN_ok Tryz.func173 (run_t2plus c x y) hp ha)
set_option maxRecDepth 100000 in
theorem run_t2minus (c : Bool) (x : Q2) (y : Q2) : funA Tryz.prog (T_t2plus c) qN (fun _ => true) Tryz.f175 40 [.v (.fl (e2 x)), .v (.fl (e2 y))] = some ([], .one (.fl (e2 (F2.sub x y)))) := by kernel_rfl
noncomputable def T_t2minus (c : Bool) : Tab := (T_t2plus c).add 175 (g2 rd2 rd2 (fun x y => ([], .one (.fl (e2 (F2.sub x y))))))
theorem ok_t2minus (c : Bool) (hB : TabOk Tryz.prog (T_B c)) : TabOk Tryz.prog (T_t2minus c) := (ok_t2plus c hB).add Tryz.func175 (by kernel_rfl) (by kernel_rfl) (g2_ok rd2_ok rd2_ok fun x y hp args w ha => fun_sound hmix (ok_t2plus c hB) qN_ok Tryz.func175 (run_t2minus c x y) hp ha)
set_option maxRecDepth 100000 in
theorem run_t2conj (c : Bool) (x : Q2) : funA Tryz.prog (T_t2minus c) qN (fun _ => true) Tryz.f216 40 [.v (.fl (e2 x))] = some ([], .one (.fl (e2 (conj2' x)))) := by kernel_rfl
noncomputable def T_t2conj (c : Bool) : Tab := (T_t2minus c).add 216 (g1 rd2 (fun x => ([], .one (.fl (e2 (conj2' x))))))
theorem ok_t2conj (c : Bool) (hB : TabOk Tryz.prog (T_B c)) : TabOk Tryz.prog (T_t2conj c) := (ok_t2minus c hB).add Tryz.func216 (by kernel_rfl) (by kernel_rfl) (g1_ok rd2_ok fun x hp args w ha => fun_sound hmix (ok_t2minus c hB) qN_ok Tryz.func216 (run_t2conj c x) hp ha)
set_option maxRecDepth 100000 in
theorem run_t2scaled (c : Bool) (x : Q2) (y : Fq) : funA Tryz.prog (T_t2conj c) qN (fun _ => true) Tryz.f214 40 [.v (.fl (e2 x)), .v (.fl (e1 y))] = some ([], .one (.fl (e2 (sc2 x y)))) := by kernel_rfl
noncomputable def T_t2scaled (c : Bool) : Tab := (T_t2conj c).add 214 (g2 rd2 rd1 (fun x y => ([], .one (.fl (e2 (sc2 x y))))))
theorem ok_t2scaled (c : Bool) (hB : TabOk Tryz.prog (T_B c)) : TabOk Tryz.prog (T_t2scaled c) := (ok_t2conj c hB).add Tryz.func214 (by kernel_rfl) (by kernel_rfl) (g2_ok rd2_ok rd1_ok fun x y hp args w ha => fun_sound hmix (ok_t2conj c hB) qN_ok Tryz.func214 (run_t2scaled c x y) hp ha)
set_option maxRecDepth 100000 in
theorem run_t2xi (c : Bool) (x : Q2) : funA Tryz.prog (T_t2scaled c) qN (fun _ => true) Tryz.f221 40 [.v (.fl (e2 x))] = some ([], .one (.fl (e2 ((F1.sub (F1.mul x.1 (fm 9)) x.2, F1.add (F1.mul x.2 (fm 9)) x.1))))) := by kernel_rfl
theorem raw_t2xi (x : Q2) : F2.mul x xiE = (F1.sub (F1.mul x.1 (fm 9)) x.2, F1.add (F1.mul x.2 (fm 9)) x.1) := by
  have h1 : fm 1 = F1.one := by decide
  show (F1.add (F1.mul x.1 (fm 9)) (F1.mul (F1.neg F1.one) (F1.mul x.2 (fm 1))), F1.add (F1.mul x.1 (fm 1)) (F1.mul x.2 (fm 9))) = _
  rw [h1, F1.mul_one, F1.mul_one, F1.neg_mul, F1.one_mul, F1.add_comm x.1]
  rfl
noncomputable def T_t2xi (c : Bool) : Tab := (T_t2scaled c).add 221 (g1 rd2 (fun x => ([], .one (.fl (e2 (F2.mul x xiE))))))
theorem ok_t2xi (c : Bool) (hB : TabOk Tryz.prog (T_B c)) : TabOk Tryz.prog (T_t2xi c) := (ok_t2scaled c hB).add Tryz.func221 (by kernel_rfl) (by kernel_rfl) (g1_ok rd2_ok fun x hp args w ha => by show Good _ _ (.one (.fl (e2 (F2.mul x xiE)))) _ _; rw [raw_t2xi x]; exact fun_sound hmix (ok_t2scaled c hB) qN_ok Tryz.func221 (run_t2xi c x) hp ha)
set_option maxRecDepth 100000 in
theorem run_one2 (c : Bool)  : funA Tryz.prog (T_t2xi c) qN (fun _ => true) Tryz.f262 40 [] = some ([], .one (.fl (e2 (F2.one)))) := by kernel_rfl
noncomputable def T_one2 (c : Bool) : Tab := (T_t2xi c).add 262 (g0 (.one (.fl (e2 (F2.one)))))
theorem ok_one2 (c : Bool) (hB : TabOk Tryz.prog (T_B c)) : TabOk Tryz.prog (T_one2 c) := (ok_t2xi c hB).add Tryz.func262 (by kernel_rfl) (by kernel_rfl) (g0_ok fun w => fun_sound hmix (ok_t2xi c hB) qN_ok Tryz.func262 (run_one2 c ) trivial (args := []) trivial)
set_option maxRecDepth 100000 in
theorem run_t2norm (c : Bool) (x : Q2) : funA Tryz.prog (T_one2 c) qN (fun _ => true) Tryz.f231 40 [.v (.fl (e2 x))] = some ([], .one (.fl (e1 (nm2 x)))) := by kernel_rfl
noncomputable def T_t2norm (c : Bool) : Tab := (T_one2 c).add 231 (g1 rd2 (fun x => ([], .one (.fl (e1 (nm2 x))))))
theorem ok_t2norm (c : Bool) (hB : TabOk Tryz.prog (T_B c)) : TabOk Tryz.prog (T_t2norm c) := (ok_one2 c hB).add Tryz.func231 (by kernel_rfl) (by kernel_rfl) (g1_ok rd2_ok fun x hp args w ha => fun_sound hmix (ok_one2 c hB) qN_ok Tryz.func231 (run_t2norm c x) hp ha)
set_option maxRecDepth 100000 in
theorem run_t2inv (x : Q2) : funA Tryz.prog (T_t2norm true) qN (fun _ => true) Tryz.f279 40 [.v (.fl (e2 x))] = some ([nm2 x ≠ F1.zero], .many [.fl (e2 (iv2 x)), .im (.int .i64 0)]) := by kernel_rfl
set_option maxRecDepth 100000 in
theorem run_t2inv0 (x : Q2) : funA Tryz.prog (T_t2norm false) qN (fun _ => true) Tryz.f279 40 [.v (.fl (e2 x))] = some ([nm2 x = F1.zero], .many [.fl (e2 F2.zero), .im (.int .i64 22)]) := by kernel_rfl
noncomputable def oInv2 (c : Bool) (x : Q2) : List Prop × RV := bif c then ([nm2 x ≠ F1.zero], .many [.fl (e2 (iv2 x)), .im (.int .i64 0)]) else ([nm2 x = F1.zero], .many [.fl (e2 F2.zero), .im (.int .i64 22)])
theorem inv2_ok (c : Bool) (hB : TabOk Tryz.prog (T_B c)) (x : Q2) (hp : allP (oInv2 c x).1) (args : List Value) (w : World) (ha : CAs w [.v (.fl (e2 x))] args) : Good Tryz.prog 279 (oInv2 c x).2 args w := by
  cases c
  · exact fun_sound hmix (ok_t2norm false hB) qN_ok Tryz.func279 (run_t2inv0 x) hp ha
  · exact fun_sound hmix (ok_t2norm true hB) qN_ok Tryz.func279 (run_t2inv x) hp ha
noncomputable def T_t2inv (c : Bool) : Tab := (T_t2norm c).add 279 (g1 rd2 (oInv2 c))
theorem ok_t2inv (c : Bool) (hB : TabOk Tryz.prog (T_B c)) : TabOk Tryz.prog (T_t2inv c) := (ok_t2norm c hB).add Tryz.func279 (by kernel_rfl) (by kernel_rfl) (g1_ok rd2_ok (inv2_ok c hB))

/-- lists of elements, laid one after another -/
def twos : Nat → List At → Option (List Q2)
  | 0, [] => some []
  | n + 1, .f a :: .f b :: r => match twos n r with | some l => some ((a, b) :: l) | none => none
  | _, _ => none
def e2s : List Q2 → List At
  | [] => []
  | x :: r => .f x.1 :: .f x.2 :: e2s r
theorem twos_ok : ∀ {n : Nat} {l : List At} {x : List Q2}, twos n l = some x → l = e2s x ∧ x.length = n
  | 0, [], x, h => by cases h; exact ⟨rfl, rfl⟩
  | n + 1, .f a :: .f b :: r, x, h => by
    unfold twos at h
    split at h
    · rename_i l hl
      cases h
      obtain ⟨h1, h2⟩ := twos_ok hl
      exact ⟨by rw [h1]; rfl, by rw [List.length_cons, h2]⟩
    · cases h
  | 0, _ :: _, x, h => by cases h
  | n + 1, [], x, h => by cases h
  | n + 1, [_], x, h => by unfold twos at h; split at h <;> first | (cases h; done) | (rename_i heq; cases heq)
  | n + 1, .q _ :: _ :: _, x, h => by cases h
  | n + 1, .c _ :: _ :: _, x, h => by cases h
  | n + 1, .f _ :: .q _ :: _, x, h => by cases h
  | n + 1, .f _ :: .c _ :: _, x, h => by cases h
def dotQ : List Q2 → List Q2 → Q2
  | [x], [y] => F2.mul x y
  | [x, y], [z, t] => F2.add (F2.mul x z) (F2.mul y t)
  | [x, y, z], [s, t, u] => F2.add (F2.add (F2.mul x s) (F2.mul y t)) (F2.mul z u)
  | _, _ => F2.zero
def gSum : Ent
  | [.s l n m, .s l' n' m'] => bif Nat.beq n n' && (Nat.ble n 3 && Nat.ble 1 n) then (match twos n l, twos n' l' with
    | some x, some y => some ([], .one (.fl (e2 (dotQ x y))))
    | _, _ => none) else none
  | _ => none
def sl2 : List Q2 → List Fq
  | [] => []
  | x :: r => x.1 :: F1.neg x.2 :: sl2 r
def cr2 : List Q2 → List Fq
  | [] => []
  | x :: r => x.2 :: x.1 :: cr2 r
def st2 : List Q2 → List Fq
  | [] => []
  | x :: r => x.1 :: x.2 :: st2 r
set_option maxRecDepth 100000 in
theorem run_sum1 (c : Bool) (x s : Q2) (m m' : Nat) : funA Tryz.prog (T_t2inv c) qN (fun _ => true) Tryz.f222 40 [.s (e2s [x]) 1 m, .s (e2s [s]) 1 m'] = some ([], .one (.fl (e2 (dotF (sl2 [x]) (st2 [s]), dotF (cr2 [x]) (st2 [s]))))) := by kernel_rfl
set_option maxRecDepth 100000 in
theorem run_sum2 (c : Bool) (x y s t : Q2) (m m' : Nat) : funA Tryz.prog (T_t2inv c) qN (fun _ => true) Tryz.f222 40 [.s (e2s [x, y]) 2 m, .s (e2s [s, t]) 2 m'] = some ([], .one (.fl (e2 (dotF (sl2 [x, y]) (st2 [s, t]), dotF (cr2 [x, y]) (st2 [s, t]))))) := by kernel_rfl
set_option maxRecDepth 100000 in
theorem run_sum3 (c : Bool) (x y z s t u : Q2) (m m' : Nat) : funA Tryz.prog (T_t2inv c) qN (fun _ => true) Tryz.f222 40 [.s (e2s [x, y, z]) 3 m, .s (e2s [s, t, u]) 3 m'] = some ([], .one (.fl (e2 (dotF (sl2 [x, y, z]) (st2 [s, t, u]), dotF (cr2 [x, y, z]) (st2 [s, t, u]))))) := by kernel_rfl
theorem mul2_1 (x s : Q2) : (F2.mul x s).1 = F1.add (F1.mul x.1 s.1) (F1.mul (F1.neg x.2) s.2) := by
  show F1.add (F1.mul x.1 s.1) (F1.mul (F1.neg F1.one) (F1.mul x.2 s.2)) = _
  rw [F1.neg_mul, F1.one_mul, F1.neg_mul]
theorem mul2_2 (x s : Q2) : (F2.mul x s).2 = F1.add (F1.mul x.2 s.1) (F1.mul x.1 s.2) := F1.add_comm _ _
theorem raw_sum1 (x s : Q2) : dotQ [x] [s] = (dotF (sl2 [x]) (st2 [s]), dotF (cr2 [x]) (st2 [s])) := Prod.ext (mul2_1 x s) (mul2_2 x s)
theorem raw_sum2 (x y s t : Q2) : dotQ [x, y] [s, t] = (dotF (sl2 [x, y]) (st2 [s, t]), dotF (cr2 [x, y]) (st2 [s, t])) := by
  refine Prod.ext ?_ ?_
  · show F1.add (F2.mul x s).1 (F2.mul y t).1 = F1.add (F1.add (F1.add (F1.mul x.1 s.1) (F1.mul (F1.neg x.2) s.2)) (F1.mul y.1 t.1)) (F1.mul (F1.neg y.2) t.2)
    rw [mul2_1, mul2_1]; simp only [F1.add_assoc]
  · show F1.add (F2.mul x s).2 (F2.mul y t).2 = F1.add (F1.add (F1.add (F1.mul x.2 s.1) (F1.mul x.1 s.2)) (F1.mul y.2 t.1)) (F1.mul y.1 t.2)
    rw [mul2_2, mul2_2]; simp only [F1.add_assoc]
theorem raw_sum3 (x y z s t u : Q2) : dotQ [x, y, z] [s, t, u] = (dotF (sl2 [x, y, z]) (st2 [s, t, u]), dotF (cr2 [x, y, z]) (st2 [s, t, u])) := by
  refine Prod.ext ?_ ?_
  · show F1.add (F1.add (F2.mul x s).1 (F2.mul y t).1) (F2.mul z u).1 = F1.add (F1.add (F1.add (F1.add (F1.add (F1.mul x.1 s.1) (F1.mul (F1.neg x.2) s.2)) (F1.mul y.1 t.1)) (F1.mul (F1.neg y.2) t.2)) (F1.mul z.1 u.1)) (F1.mul (F1.neg z.2) u.2)
    rw [mul2_1, mul2_1, mul2_1]; simp only [F1.add_assoc]
  · show F1.add (F1.add (F2.mul x s).2 (F2.mul y t).2) (F2.mul z u).2 = F1.add (F1.add (F1.add (F1.add (F1.add (F1.mul x.2 s.1) (F1.mul x.1 s.2)) (F1.mul y.2 t.1)) (F1.mul y.1 t.2)) (F1.mul z.2 u.1)) (F1.mul z.1 u.2)
    rw [mul2_2, mul2_2, mul2_2]; simp only [F1.add_assoc]
theorem sum_ok (c : Bool) (hB : TabOk Tryz.prog (T_B c)) : ∀ cs pre r, gSum cs = some (pre, r) → allP pre → ∀ (args : List Value) (w : World), CAs w cs args → Good Tryz.prog 222 r args w := by
  intro cs pre r hg hp args w ha
  unfold gSum at hg
  split at hg
  · rename_i l n m l' n' m'
    cases hb : (Nat.beq n n' && (Nat.ble n 3 && Nat.ble 1 n)) <;> rw [hb] at hg
    · cases hg
    · simp only [cond_true] at hg
      split at hg
      · rename_i x y hx hy
        cases hg
        obtain ⟨e1, e2⟩ := twos_ok hx
        obtain ⟨e3, e4⟩ := twos_ok hy
        subst e1; subst e3
        simp only [Bool.and_eq_true] at hb
        have hn := Nat.eq_of_beq_eq_true hb.1
        have h3 := Nat.le_of_ble_eq_true hb.2.1
        have h1 := Nat.le_of_ble_eq_true hb.2.2
        subst hn
        match x, y, n, e2, e4, h3, h1 with
        | [x], [s], 1, _, _, _, _ =>
          rw [raw_sum1]
          exact fun_sound hmix (ok_t2inv c hB) qN_ok Tryz.func222 (run_sum1 c x s m m') trivial ha
        | [x, y], [s, t], 2, _, _, _, _ =>
          rw [raw_sum2]
          exact fun_sound hmix (ok_t2inv c hB) qN_ok Tryz.func222 (run_sum2 c x y s t m m') trivial ha
        | [x, y, z], [s, t, u], 3, _, _, _, _ =>
          rw [raw_sum3]
          exact fun_sound hmix (ok_t2inv c hB) qN_ok Tryz.func222 (run_sum3 c x y z s t u m m') trivial ha
        | [], _, _, e2, _, _, h1 => exact absurd h1 (by rw [← e2]; decide)
        | _ :: _ :: _ :: _ :: l, _, _, e2, _, h3, _ => exact absurd h3 (by rw [← e2]; simp)
        | [_], [], _, e2, e4, _, _ => rw [← e2] at e4; cases e4
        | [_], _ :: _ :: _, _, e2, e4, _, _ => rw [← e2] at e4; simp at e4
        | [_, _], [], _, e2, e4, _, _ => rw [← e2] at e4; cases e4
        | [_, _], [_], _, e2, e4, _, _ => rw [← e2] at e4; cases e4
        | [_, _], _ :: _ :: _ :: _, _, e2, e4, _, _ => rw [← e2] at e4; simp at e4
        | [_, _, _], [], _, e2, e4, _, _ => rw [← e2] at e4; cases e4
        | [_, _, _], [_], _, e2, e4, _, _ => rw [← e2] at e4; cases e4
        | [_, _, _], [_, _], _, e2, e4, _, _ => rw [← e2] at e4; cases e4
        | [_, _, _], _ :: _ :: _ :: _ :: _, _, e2, e4, _, _ => rw [← e2] at e4; simp at e4
      · cases hg
  · cases hg
noncomputable def T_sum2 (c : Bool) : Tab := (T_t2inv c).add 222 gSum
theorem ok_sum2 (c : Bool) (hB : TabOk Tryz.prog (T_B c)) : TabOk Tryz.prog (T_sum2 c) := (ok_t2inv c hB).add Tryz.func222 (by kernel_rfl) (by kernel_rfl) (sum_ok c hB)
set_option maxRecDepth 100000 in
theorem run_t2times (c : Bool) (x : Q2) (y : Q2) : funA Tryz.prog (T_sum2 c) qN (fun _ => true) Tryz.f217 40 [.v (.fl (e2 x)), .v (.fl (e2 y))] = some ([], .one (.fl (e2 (F2.mul x y)))) := by kernel_rfl
noncomputable def T_t2times (c : Bool) : Tab := (T_sum2 c).add 217 (g2 rd2 rd2 (fun x y => ([], .one (.fl (e2 (F2.mul x y))))))
theorem ok_t2times (c : Bool) (hB : TabOk Tryz.prog (T_B c)) : TabOk Tryz.prog (T_t2times c) := (ok_sum2 c hB).add Tryz.func217 (by kernel_rfl) (by kernel_rfl) (g2_ok rd2_ok rd2_ok fun x y hp args w ha => fun_sound hmix (ok_sum2 c hB) qN_ok Tryz.func217 (run_t2times c x y) hp ha)
set_option maxRecDepth 100000 in
theorem run_rest2 (c : Bool) (x : N2) : funA Tryz.prog (T_t2times c) qN (fun _ => true) Tryz.f170 40 [.v (.fl (q2 x))] = some ([], .one (.fl (e2 (m2 x)))) := by kernel_rfl
noncomputable def T_rest2 (c : Bool) : Tab := (T_t2times c).add 170 (g1 rq2 (fun x => ([], .one (.fl (e2 (m2 x))))))
theorem ok_rest2 (c : Bool) (hB : TabOk Tryz.prog (T_B c)) : TabOk Tryz.prog (T_rest2 c) := (ok_t2times c hB).add Tryz.func170 (by kernel_rfl) (by kernel_rfl) (g1_ok rq2_ok fun x hp args w ha => fun_sound hmix (ok_t2times c hB) qN_ok Tryz.func170 (run_rest2 c x) hp ha)
end Go.Proofs.YtaingnhikbaplaaGreat.Ex
namespace Go.Proofs.YtaingnhikbaplaaGreat.Ex
set_option linter.unusedVariables false
set_option linter.unusedSimpArgs false
open Go.RowKit

/-- the product of the two conjugates over Fp2; the norm -/
def adj6 (x : Q6) : Q6 := (F2.sub (F2.mul x.1 x.1) (F2.mul (F2.mul x.2.1 x.2.2) xiE), F2.sub (F2.mul (F2.mul x.2.2 x.2.2) xiE) (F2.mul x.1 x.2.1), F2.sub (F2.mul x.2.1 x.2.1) (F2.mul x.1 x.2.2))
def n6 (x : Q6) : Q2 := (F6.mul x (adj6 x)).1
def s6 (x : Q6) (k : Q2) : Q6 := (F2.mul x.1 k, F2.mul x.2.1 k, F2.mul x.2.2 k)
noncomputable def iv6 (x : Q6) : Q6 := s6 (adj6 x) (iv2 (n6 x))

set_option maxRecDepth 100000 in
theorem run_t6plus (c : Bool) (x : Q6) (y : Q6) : funA Tryz.prog (T_rest2 c) qN (fun _ => true) Tryz.f146 40 [.v (.fl (e6 x)), .v (.fl (e6 y))] = some ([], .one (.fl (e6 (F6.add x y)))) := by kernel_rfl
noncomputable def T_t6plus (c : Bool) : Tab := (T_rest2 c).add 146 (g2 rd6 rd6 (fun x y => ([], .one (.fl (e6 (F6.add x y))))))
theorem ok_t6plus (c : Bool) (hB : TabOk Tryz.prog (T_B c)) : TabOk Tryz.prog (T_t6plus c) := (ok_rest2 c hB).add Tryz.func146 (by kernel_rfl) (by kernel_rfl) (g2_ok rd6_ok rd6_ok fun x y hp args w ha => fun_sound hmix (ok_rest2 c hB) qN_ok Tryz.func146 (run_t6plus c x y) hp ha)
set_option maxRecDepth 100000 in
theorem run_t6minus (c : Bool) (x : Q6) (y : Q6) : funA Tryz.prog (T_t6plus c) qN (fun _ => true) Tryz.f148 40 [.v (.fl (e6 x)), .v (.fl (e6 y))] = some ([], .one (.fl (e6 (F6.sub x y)))) := by kernel_rfl
noncomputable def T_t6minus (c : Bool) : Tab := (T_t6plus c).add 148 (g2 rd6 rd6 (fun x y => ([], .one (.fl (e6 (F6.sub x y))))))
theorem ok_t6minus (c : Bool) (hB : TabOk Tryz.prog (T_B c)) : TabOk Tryz.prog (T_t6minus c) := (ok_t6plus c hB).add Tryz.func148 (by kernel_rfl) (by kernel_rfl) (g2_ok rd6_ok rd6_ok fun x y hp args w ha => fun_sound hmix (ok_t6plus c hB) qN_ok Tryz.func148 (run_t6minus c x y) hp ha)
set_option maxRecDepth 100000 in
theorem run_t6v (c : Bool) (x : Q6) : funA Tryz.prog (T_t6minus c) qN (fun _ => true) Tryz.f147 40 [.v (.fl (e6 x))] = some ([], .one (.fl (e6 ((F2.mul x.2.2 xiE, x.1, x.2.1))))) := by kernel_rfl
theorem raw_t6v (x : Q6) : F6.mul vE x = (F2.mul x.2.2 xiE, x.1, x.2.1) := by
  show (F2.add (F2.mul F2.zero x.1) (F2.mul xiE (F2.add (F2.mul F2.one x.2.2) (F2.mul F2.zero x.2.1))), F2.add (F2.add (F2.mul F2.zero x.2.1) (F2.mul F2.one x.1)) (F2.mul xiE (F2.mul F2.zero x.2.2)), F2.add (F2.add (F2.mul F2.zero x.2.2) (F2.mul F2.one x.2.1)) (F2.mul F2.zero x.1)) = _
  simp only [F2.zero_mul, F2.one_mul, F2.zero_add, F2.add_zero, F2.mul_zero, F2.mul_comm xiE]
noncomputable def T_t6v (c : Bool) : Tab := (T_t6minus c).add 147 (g1 rd6 (fun x => ([], .one (.fl (e6 (F6.mul vE x))))))
theorem ok_t6v (c : Bool) (hB : TabOk Tryz.prog (T_B c)) : TabOk Tryz.prog (T_t6v c) := (ok_t6minus c hB).add Tryz.func147 (by kernel_rfl) (by kernel_rfl) (g1_ok rd6_ok fun x hp args w ha => by show Good _ _ (.one (.fl (e6 (F6.mul vE x)))) _ _; rw [raw_t6v x]; exact fun_sound hmix (ok_t6minus c hB) qN_ok Tryz.func147 (run_t6v c x) hp ha)
set_option maxRecDepth 100000 in
theorem run_t6out (c : Bool) (x : Q6) : funA Tryz.prog (T_t6v c) qN (fun _ => true) Tryz.f149 40 [.v (.fl (e6 x))] = some ([], .one (.fl (e6 (x)))) := by kernel_rfl
noncomputable def T_t6out (c : Bool) : Tab := (T_t6v c).add 149 (g1 rd6 (fun x => ([], .one (.fl (e6 (x))))))
theorem ok_t6out (c : Bool) (hB : TabOk Tryz.prog (T_B c)) : TabOk Tryz.prog (T_t6out c) := (ok_t6v c hB).add Tryz.func149 (by kernel_rfl) (by kernel_rfl) (g1_ok rd6_ok fun x hp args w ha => fun_sound hmix (ok_t6v c hB) qN_ok Tryz.func149 (run_t6out c x) hp ha)
set_option maxRecDepth 100000 in
theorem run_one6 (c : Bool)  : funA Tryz.prog (T_t6out c) qN (fun _ => true) Tryz.f210 40 [] = some ([], .one (.fl (e6 (F6.one)))) := by kernel_rfl
noncomputable def T_one6 (c : Bool) : Tab := (T_t6out c).add 210 (g0 (.one (.fl (e6 (F6.one)))))
theorem ok_one6 (c : Bool) (hB : TabOk Tryz.prog (T_B c)) : TabOk Tryz.prog (T_one6 c) := (ok_t6out c hB).add Tryz.func210 (by kernel_rfl) (by kernel_rfl) (g0_ok fun w => fun_sound hmix (ok_t6out c hB) qN_ok Tryz.func210 (run_one6 c ) trivial (args := []) trivial)
set_option maxRecDepth 100000 in
theorem run_rest6 (c : Bool) (x : N6) : funA Tryz.prog (T_one6 c) qN (fun _ => true) Tryz.f144 40 [.v (.fl (q6 x))] = some ([], .one (.fl (e6 (m6 x)))) := by kernel_rfl
noncomputable def T_rest6 (c : Bool) : Tab := (T_one6 c).add 144 (g1 rq6 (fun x => ([], .one (.fl (e6 (m6 x))))))
theorem ok_rest6 (c : Bool) (hB : TabOk Tryz.prog (T_B c)) : TabOk Tryz.prog (T_rest6 c) := (ok_one6 c hB).add Tryz.func144 (by kernel_rfl) (by kernel_rfl) (g1_ok rq6_ok fun x hp args w ha => fun_sound hmix (ok_one6 c hB) qN_ok Tryz.func144 (run_rest6 c x) hp ha)
set_option maxRecDepth 100000 in
theorem run_t6times (c : Bool) (x : Q6) (y : Q6) : funA Tryz.prog (T_rest6 c) qN (fun _ => true) Tryz.f145 40 [.v (.fl (e6 x)), .v (.fl (e6 y))] = some ([], .one (.fl (e6 ((dotQ [x.1, x.2.1, x.2.2] [y.1, F2.mul y.2.2 xiE, F2.mul y.2.1 xiE], dotQ [x.1, x.2.1, x.2.2] [y.2.1, y.1, F2.mul y.2.2 xiE], dotQ [x.1, x.2.1, x.2.2] [y.2.2, y.2.1, y.1]))))) := by kernel_rfl
theorem raw_t6times (x : Q6) (y : Q6) : F6.mul x y = (dotQ [x.1, x.2.1, x.2.2] [y.1, F2.mul y.2.2 xiE, F2.mul y.2.1 xiE], dotQ [x.1, x.2.1, x.2.2] [y.2.1, y.1, F2.mul y.2.2 xiE], dotQ [x.1, x.2.1, x.2.2] [y.2.2, y.2.1, y.1]) := by
  refine Prod.ext ?_ (Prod.ext ?_ rfl)
  · show F2.add (F2.mul x.1 y.1) (F2.mul xiE (F2.add (F2.mul x.2.1 y.2.2) (F2.mul x.2.2 y.2.1))) = F2.add (F2.add (F2.mul x.1 y.1) (F2.mul x.2.1 (F2.mul y.2.2 xiE))) (F2.mul x.2.2 (F2.mul y.2.1 xiE))
    rw [F2.mul_add, F2.add_assoc, F2.mul_comm xiE, F2.mul_comm xiE, F2.mul_assoc, F2.mul_assoc]
  · show F2.add (F2.add (F2.mul x.1 y.2.1) (F2.mul x.2.1 y.1)) (F2.mul xiE (F2.mul x.2.2 y.2.2)) = F2.add (F2.add (F2.mul x.1 y.2.1) (F2.mul x.2.1 y.1)) (F2.mul x.2.2 (F2.mul y.2.2 xiE))
    rw [F2.mul_comm xiE, F2.mul_assoc]
noncomputable def T_t6times (c : Bool) : Tab := (T_rest6 c).add 145 (g2 rd6 rd6 (fun x y => ([], .one (.fl (e6 (F6.mul x y))))))
theorem ok_t6times (c : Bool) (hB : TabOk Tryz.prog (T_B c)) : TabOk Tryz.prog (T_t6times c) := (ok_rest6 c hB).add Tryz.func145 (by kernel_rfl) (by kernel_rfl) (g2_ok rd6_ok rd6_ok fun x y hp args w ha => by show Good _ _ (.one (.fl (e6 (F6.mul x y)))) _ _; rw [raw_t6times x y]; exact fun_sound hmix (ok_rest6 c hB) qN_ok Tryz.func145 (run_t6times c x y) hp ha)
noncomputable def oInv6 (c : Bool) (x : Q6) : List Prop × RV := bif c then ([nm2 (n6 x) ≠ F1.zero], .many [.fl (e6 (iv6 x)), .im (.int .i64 0)]) else ([nm2 (n6 x) = F1.zero], .many [.fl (e6 F6.zero), .im (.int .i64 22)])
set_option maxRecDepth 100000 in
theorem run_t6inv_true (x : Q6) : funA Tryz.prog (T_t6times true) qN (fun _ => true) Tryz.f252 40 [.v (.fl (e6 x))] = some ([nm2 (n6 x) ≠ F1.zero], .many [.fl (e6 (iv6 x)), .im (.int .i64 0)]) := by kernel_rfl
set_option maxRecDepth 100000 in
theorem run_t6inv_false (x : Q6) : funA Tryz.prog (T_t6times false) qN (fun _ => true) Tryz.f252 40 [.v (.fl (e6 x))] = some ([nm2 (n6 x) = F1.zero], .many [.fl (e6 F6.zero), .im (.int .i64 22)]) := by kernel_rfl
theorem oInv6_ok (c : Bool) (hB : TabOk Tryz.prog (T_B c)) (x : Q6) (hp : allP (oInv6 c x).1) (args : List Value) (w : World) (ha : CAs w [.v (.fl (e6 x))] args) : Good Tryz.prog 252 (oInv6 c x).2 args w := by
  cases c
  · exact fun_sound hmix (ok_t6times false hB) qN_ok Tryz.func252 (run_t6inv_false x) hp ha
  · exact fun_sound hmix (ok_t6times true hB) qN_ok Tryz.func252 (run_t6inv_true x) hp ha
noncomputable def T_t6inv (c : Bool) : Tab := (T_t6times c).add 252 (g1 rd6 (oInv6 c))
theorem ok_t6inv (c : Bool) (hB : TabOk Tryz.prog (T_B c)) : TabOk Tryz.prog (T_t6inv c) := (ok_t6times c hB).add Tryz.func252 (by kernel_rfl) (by kernel_rfl) (g1_ok rd6_ok (oInv6_ok c hB))
end Go.Proofs.YtaingnhikbaplaaGreat.Ex
