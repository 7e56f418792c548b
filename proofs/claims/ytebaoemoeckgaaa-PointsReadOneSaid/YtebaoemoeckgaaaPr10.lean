/-
  Plain numbers: the two moduli are primes with a known root each, so that whatever is not 0 is a power of it. No program in sight. Conditions: none.
  The tower's parts in a table of calls. Conditions: none.
  DERIVED: THE SHELF's CONTRACTS AT THIS DUMP, IN PLAIN WORDS (tools/lay-plain.mjs out of 'TryShelf.lean', which tools/lay-shelf.mjs wrote): THE SAME DECLARATIONS UNDER THE SAME NAMES: 'import', 'namespace', 'open', 'def', 'theorem' AND NOTHING ELSE: no command of the shelf's: FOR A HAND-IN. Each laying: the table of numbers ('.._ren') and one theorem, a field a fact of the dump's own or the kernel's comparison; each contract: ONE APPLICATION.
  The calls of limbs.timesWord and limbs.Mul: for any numbers of four words, in any world, the answers are the product's words. Conditions: each word below 2^64.
  The call of bits.Div64: for a divisor above the upper word, in any world, the answers are the quotient and the rest of the two words' number; nothing that was there is changed. Conditions: hi below y, all below 2^64.
  The call of limbs.Mul: for any two numbers of four words, in any world, the answers are the product's upper and lower four words. Conditions: each word below 2^64.
  The call of limbs.takeWord: the rest times 2^64 and a word more, modulo a divisor whose highest bit is set. Conditions: the divisor's highest word at least 2^63, the rest below the divisor, each word below 2^64.
  The calls of the field's words: a product of two words with two more, a number below two moduli made one below the modulus, sums and differences modulo it, the test whether a number is below it. Conditions: words below 2^64, the constants in a block of memory.
-/
import Derived.Laws.Externs
import Derived.Shelf.Strconv.Itoa0
import Derived.Shelf.Bits.Mul64
import Derived.StillTailTactics
import Derived.LoopTactic
import Derived.Deep.LoopGhost
import Derived.Test.YtebaoemoeckgaaaPr09
import Derived.Test.YtebaoemoeckgaaaProg
import Derived.Test.YtebaoemoeckgaaaPr00
import Derived.Test.YtebaoemoeckgaaaPr01
namespace Go.Proofs.Ytebaoemoeckgaaa
set_option linter.unusedVariables false

theorem beq_ne {a b : Nat} (h : a ≠ b) : Nat.beq a b = false := by cases q : Nat.beq a b with | false => rfl | true => exact absurd (Nat.eq_of_beq_eq_true q) h
def Prm (q : Nat) : Prop := 1 < q ∧ ∀ m, m ∣ q → m = 1 ∨ m = q

/-- a power modulo n, by squares -/
def pm (n : Nat) : Nat → Nat → Nat → Nat
  | 0, _, _ => 1 % n
  | f + 1, b, e => bif Nat.beq e 0 then 1 % n else bif Nat.beq (e % 2) 1 then b * pm n f (b * b % n) (e / 2) % n else pm n f (b * b % n) (e / 2)
theorem pm_eq (n : Nat) : ∀ f b e, e < 2 ^ f → pm n f b e = b ^ e % n := by
  intro f
  induction f with
  | zero => intro b e h; have : e = 0 := by omega
            subst this; simp [pm]
  | succ f ih =>
    intro b e h
    rw [Nat.pow_succ] at h
    unfold pm
    by_cases h0 : e = 0
    · subst h0; simp
    · have h0' : Nat.beq e 0 = false := beq_ne h0
      rw [h0']
      have hi := ih (b * b % n) (e / 2) (by omega)
      have hp : (b * b % n) ^ (e / 2) % n = b ^ (2 * (e / 2)) % n := by
        rw [← Nat.pow_mod, Nat.pow_mul, Nat.pow_two]
      by_cases h1 : e % 2 = 1
      · have h1' : Nat.beq (e % 2) 1 = true := by rw [h1]; rfl
        rw [h1']
        simp only [cond_true, cond_false]
        rw [hi, hp, Nat.mul_mod, Nat.mod_mod, ← Nat.mul_mod, ← Nat.pow_succ']
        congr 2; omega
      · have h1' : Nat.beq (e % 2) 1 = false := beq_ne h1
        rw [h1']
        simp only [cond_false]
        rw [hi, hp]
        congr 2; omega

/-- no divisor from 2 on, so many of them tried -/
def noDiv (n : Nat) : Nat → Bool
  | 0 => true
  | k + 1 => (Nat.beq k 0 || !(Nat.beq (n % (k + 1)) 0)) && noDiv n k
theorem noDiv_spec (n : Nat) : ∀ k, noDiv n k = true → ∀ m, 2 ≤ m → m ≤ k → ¬ m ∣ n := by
  intro k
  induction k with
  | zero => intro _ m h1 h2; omega
  | succ k ih =>
    intro h m h1 h2
    unfold noDiv at h
    rw [Bool.and_eq_true] at h
    by_cases hm : m = k + 1
    · subst hm
      have hk : Nat.beq k 0 = false := beq_ne (by omega)
      rw [hk] at h
      simp at h
      intro hd
      rw [Nat.mod_eq_zero_of_dvd hd] at h
      exact absurd h.1 (by decide)
    · exact ih h.2 m h1 (by omega)
theorem prm_small (n k : Nat) (h1 : 1 < n) (hk : n < (k + 1) * (k + 1)) (h : noDiv n k = true) : Prm n := by
  refine ⟨h1, fun m hm => ?_⟩
  have hs := noDiv_spec n k h
  obtain ⟨c, hc⟩ := hm
  have hm0 : m ≠ 0 := fun e => by subst e; omega
  have hc0 : c ≠ 0 := fun e => by subst e; omega
  by_cases h2 : m = 1
  · exact Or.inl h2
  · by_cases h3 : c = 1
    · subst h3; right; omega
    · exfalso
      by_cases h4 : m ≤ k
      · exact hs m (by omega) h4 ⟨c, hc⟩
      · by_cases h5 : c ≤ k
        · exact hs c (by omega) h5 ⟨m, by rw [hc, Nat.mul_comm]⟩
        · have := Nat.mul_le_mul (show k + 1 ≤ m by omega) (show k + 1 ≤ c by omega)
          omega

theorem prm_dvd_prod : ∀ (l : List Nat) (m : Nat), m ∣ l.foldr (· * ·) 1 → 1 < m → (∀ q, q ∈ l → Prm q) → ∃ q, q ∈ l ∧ q ∣ m := by
  intro l
  induction l with
  | nil => intro m h h1 _; simp at h; omega
  | cons q l ih =>
    intro m h h1 hq
    rw [List.foldr_cons] at h
    rcases (hq q List.mem_cons_self).2 (Nat.gcd m q) (Nat.gcd_dvd_right m q) with g | g
    · have := Nat.Coprime.dvd_of_dvd_mul_left (show Nat.Coprime m q from g) h
      obtain ⟨q', h', h''⟩ := ih m this h1 (fun q' h' => hq q' (List.mem_cons_of_mem _ h'))
      exact ⟨q', List.mem_cons_of_mem _ h', h''⟩
    · exact ⟨q, List.mem_cons_self, g ▸ Nat.gcd_dvd_left m q⟩

theorem pow_add_mod (g a b n : Nat) : g ^ (a + b) % n = (g ^ a % n) * (g ^ b % n) % n := by rw [Nat.pow_add, Nat.mul_mod]
theorem pow_mul_one {g o n : Nat} (h1 : 1 < n) (h : g ^ o % n = 1) (k : Nat) : g ^ (o * k) % n = 1 := by
  rw [Nat.pow_mul, Nat.pow_mod, h, Nat.one_pow, Nat.mod_eq_of_lt h1]

theorem least {P : Nat → Prop} : ∀ n, P n → ∃ m, P m ∧ ∀ k, k < m → ¬ P k := by
  intro n
  induction n using Nat.strongRecOn with
  | ind n ih =>
    intro h
    by_cases hk : ∃ k, k < n ∧ P k
    · obtain ⟨k, h1, h2⟩ := hk; exact ih k h1 h2
    · exact ⟨n, h, fun k h1 h2 => hk ⟨k, h1, h2⟩⟩

/-- the order: no lesser power of g is one -/
theorem order_full {n g : Nat} (l : List Nat) (h1 : 1 < n) (hl : l.foldr (· * ·) 1 = n - 1) (hp : ∀ q, q ∈ l → Prm q) (hg : g ^ (n - 1) % n = 1) (hq : ∀ q, q ∈ l → g ^ ((n - 1) / q) % n ≠ 1) :
    ∀ k, 0 < k → k < n - 1 → g ^ k % n ≠ 1 := by
  obtain ⟨o, ⟨ho0, ho⟩, hmin⟩ := least (P := fun k => 0 < k ∧ g ^ k % n = 1) (n - 1) ⟨by omega, hg⟩
  have hdiv : ∀ k, g ^ k % n = 1 → o ∣ k := by
    intro k hk
    have e : o * (k / o) + k % o = k := Nat.div_add_mod k o
    rw [← e, pow_add_mod, pow_mul_one h1 ho, Nat.one_mul, Nat.mod_mod] at hk
    have hlt := Nat.mod_lt k ho0
    by_cases hz : k % o = 0
    · exact Nat.dvd_of_mod_eq_zero hz
    · exact absurd ⟨by omega, hk⟩ (hmin (k % o) hlt)
  obtain ⟨m, hm⟩ := hdiv (n - 1) hg
  have hm1 : m = 1 := by
    by_cases h : m = 1
    · exact h
    · exfalso
      have hm0 : m ≠ 0 := fun e => by subst e; omega
      obtain ⟨q, hq1, c, hc⟩ := prm_dvd_prod l m (by rw [hl, hm]; exact Nat.dvd_mul_left _ _) (by omega) hp
      have hq0 : 0 < q := Nat.lt_of_lt_of_le (by omega) (Nat.le_of_lt (hp q hq1).1)
      refine hq q hq1 ?_
      have : (n - 1) / q = o * c := by
        rw [hm, hc, ← Nat.mul_assoc, Nat.mul_comm o q, Nat.mul_assoc, Nat.mul_div_cancel_left _ hq0]
      rw [this, pow_mul_one h1 ho]
  subst hm1
  intro k hk0 hk hk1
  have := Nat.le_of_dvd hk0 (hdiv k hk1)
  omega

/-- whom no two of n numbers below n have in common, all have -/
theorem pigeon : ∀ (n : Nat) (f : Nat → Nat), (∀ i, i < n → f i < n) → (∀ i j, i < n → j < n → f i = f j → i = j) → ∀ y, y < n → ∃ i, i < n ∧ f i = y := by
  intro n
  induction n with
  | zero => intro f _ _ y hy; omega
  | succ n ih =>
    intro f hf hi y hy
    by_cases hn : f n = n
    · by_cases hyn : y = n
      · exact ⟨n, by omega, by omega⟩
      · have hf' : ∀ i, i < n → f i < n := fun i h => by
          have := hf i (by omega)
          have hne : f i ≠ n := fun e => by have := hi i n (by omega) (by omega) (by omega); omega
          omega
        obtain ⟨i, h1, h2⟩ := ih f hf' (fun i j h h' => hi i j (by omega) (by omega)) y (by omega)
        exact ⟨i, by omega, h2⟩
    · have hfn := hf n (by omega)
      have key := ih (fun i => if f i = n then f n else f i)
        (fun i h => by
          have := hf i (by omega)
          split <;> omega)
        (fun i j h h' e => by
          split at e <;> split at e
          · exact hi i j (by omega) (by omega) (by omega)
          · have := hi n j (by omega) (by omega) e; omega
          · have := hi i n (by omega) (by omega) e; omega
          · exact hi i j (by omega) (by omega) e)
      by_cases hyn : y = n
      · obtain ⟨i, h1, h2⟩ := key (f n) (by omega)
        by_cases h3 : f i = n
        · exact ⟨i, by omega, by omega⟩
        · rw [if_neg h3] at h2
          have := hi i n (by omega) (by omega) h2
          omega
      · obtain ⟨i, h1, h2⟩ := key y (by omega)
        by_cases h3 : f i = n
        · rw [if_pos h3] at h2; exact ⟨n, by omega, h2⟩
        · rw [if_neg h3] at h2; exact ⟨i, by omega, h2⟩

/-- whatever is not 0 modulo n is a power of g -/
def Root (n g : Nat) : Prop := 1 < n ∧ g ^ (n - 1) % n = 1 ∧ (∀ k, 0 < k → k < n - 1 → g ^ k % n ≠ 1) ∧ ∀ a, 0 < a → a < n → ∃ k, k < n - 1 ∧ g ^ k % n = a
theorem root_of {n g : Nat} (l : List Nat) (h1 : 1 < n) (hl : l.foldr (· * ·) 1 = n - 1) (hp : ∀ q, q ∈ l → Prm q) (hg : g ^ (n - 1) % n = 1) (hq : ∀ q, q ∈ l → g ^ ((n - 1) / q) % n ≠ 1) : Root n g := by
  have ho := order_full l h1 hl hp hg hq
  refine ⟨h1, hg, ho, fun a ha han => ?_⟩
  have hnz : ∀ i, i ≤ n - 1 → g ^ i % n ≠ 0 := by
    intro i hi e
    have : g ^ (n - 1) % n = 0 := by
      have : n - 1 = i + (n - 1 - i) := by omega
      rw [this, pow_add_mod, e, Nat.zero_mul, Nat.zero_mod]
    omega
  have hdis : ∀ i j, i < n - 1 → j < n - 1 → i < j → g ^ i % n ≠ g ^ j % n := by
    intro i j hi hj hij e
    have e1 : g ^ (n - 1 - i + i) % n = 1 := by rw [show n - 1 - i + i = n - 1 by omega]; exact hg
    have e2 : g ^ (n - 1 - i + j) % n = 1 := by rw [pow_add_mod, ← e, ← pow_add_mod]; exact e1
    rw [show n - 1 - i + j = n - 1 + (j - i) by omega, pow_add_mod, hg, Nat.one_mul, Nat.mod_mod] at e2
    exact ho (j - i) (by omega) (by omega) e2
  obtain ⟨i, hi, he⟩ := pigeon (n - 1) (fun i => g ^ i % n - 1)
    (fun i h => by
      have := Nat.mod_lt (g ^ i) (show 0 < n by omega)
      have := hnz i (by omega)
      omega)
    (fun i j h h' e => by
      have a1 := hnz i (by omega)
      have a2 := hnz j (by omega)
      have e' : g ^ i % n = g ^ j % n := by omega
      rcases Nat.lt_trichotomy i j with q | q | q
      · exact absurd e' (hdis i j h h' q)
      · exact q
      · exact absurd e'.symm (hdis j i h' h q))
    (a - 1) (by omega)
  refine ⟨i, hi, ?_⟩
  have := hnz i (by omega)
  omega
theorem Root.prm {n g : Nat} (h : Root n g) : Prm n := by
  obtain ⟨h1, hg, _, hs⟩ := h
  refine ⟨h1, fun m hm => ?_⟩
  by_cases h2 : m = n
  · exact Or.inr h2
  · left
    have hm0 : m ≠ 0 := fun e => by subst e; have := Nat.eq_zero_of_zero_dvd hm; omega
    have hle := Nat.le_of_dvd (by omega) hm
    obtain ⟨k, hk, e⟩ := hs m (by omega) (by omega)
    have e1 : g ^ (k + (n - 1 - k)) % n = 1 := by rw [show k + (n - 1 - k) = n - 1 by omega]; exact hg
    rw [pow_add_mod, e] at e1
    have hd : m ∣ (m * (g ^ (n - 1 - k) % n)) % n := (Nat.dvd_mod_iff hm).2 (Nat.dvd_mul_right _ _)
    rw [e1] at hd
    exact Nat.dvd_one.1 hd
/-- what the kernel checks of a number, its root and the factors of the number less 1 -/
def cert (n g : Nat) (l : List Nat) : Bool :=
  Nat.blt 1 n && (Nat.beq (l.foldr (· * ·) 1) (n - 1) && (Nat.blt n (2 ^ 255) && (Nat.beq (pm n 256 g (n - 1)) 1 && l.all fun q => !(Nat.beq (pm n 256 g ((n - 1) / q)) 1))))
theorem root_cert {n g : Nat} {l : List Nat} (h : cert n g l = true) (hp : ∀ q, q ∈ l → Prm q) : Root n g := by
  unfold cert at h
  simp only [Bool.and_eq_true] at h
  obtain ⟨h1, h2, h3, h4, h5⟩ := h
  have h1 : 1 < n := by unfold Nat.blt at h1; exact Nat.le_of_ble_eq_true h1
  have h3 : n < 2 ^ 255 := by
    unfold Nat.blt at h3; exact Nat.le_of_ble_eq_true h3
  have h2 := Nat.eq_of_beq_eq_true h2
  have h4 := Nat.eq_of_beq_eq_true h4
  have hb : ∀ e, e ≤ n - 1 → e < 2 ^ 256 := fun e he => by
    rw [Nat.pow_succ]; omega
  rw [pm_eq n 256 g _ (hb _ (Nat.le_refl _))] at h4
  refine root_of l h1 h2 hp h4 fun q hq e => ?_
  have := List.all_eq_true.1 h5 q hq
  rw [pm_eq n 256 g _ (hb _ (Nat.div_le_self _ _)), e] at this
  exact absurd this (by decide)
end Go.Proofs.Ytebaoemoeckgaaa
namespace Go.Proofs.Ytebaoemoeckgaaa.Ex
set_option linter.unusedVariables false
set_option linter.unusedSimpArgs false
open Go.RowKit

theorem hmix : Try.prog.follows .mixedOrders = true := by kernel_rfl
def qN : EqT := { q := fun _ => none, n := fun _ => none }
theorem qN_ok {P : Program} : EqOk P qN := ⟨⟨(fun t n h => by cases h), (fun t n h => by cases h)⟩, rfl⟩
def ones : Nat → List At → Option (List Fq)
  | 0, _ => some []
  | n + 1, .f a :: r => match ones n r with | some l => some (a :: l) | none => none
  | _, _ => none
def gOf : Ent
  | [.v (.im (.int .u64 (.ofNat n)))] => bif Nat.blt n 18446744073709551616 then some ([], .one (.fl (e1 (fm n)))) else none
  | _ => none
/-- an inverse's number -/
theorem finv_ex : ∃ f : Fq → Fq, ∀ x, (f x).1 = 1 * (x.1 ^ (FP.M - 2) % FP.M) :=
  ⟨fun x => ⟨1 * (x.1 ^ (FP.M - 2) % FP.M), by rw [Nat.one_mul]; exact Nat.mod_lt _ fp_pos⟩, fun _ => rfl⟩
noncomputable def finv : Fq → Fq := Classical.choose finv_ex
theorem finv_val (x : Fq) : (finv x).1 = 1 * (x.1 ^ (FP.M - 2) % FP.M) := Classical.choose_spec finv_ex x
noncomputable def T_B (c : Bool) : Tab := T0.add 58 gOf
theorem ok_B (c : Bool) (hB : TabOk Try.prog (T_B c)) : TabOk Try.prog (T_B c) := hB

end Go.Proofs.Ytebaoemoeckgaaa.Ex
namespace Go.Proofs
open Go.Shelf
def Try.lays129_ren : Go.Shelf.Ren := ⟨fun | 129 => 110 | n => n, fun | 53 => 22 | 3 => 3 | 4 => 4 | 46 => 79 | 5 => 5 | 9 => 9 | n => n, fun | n => n⟩
theorem Try.lays129 : Go.Proofs.Lays.n129 Try.prog Try.lays129_ren := {
  mixed := by kernel_rfl
  f129 := Try.func110.trans (congrArg some (by kernel_rfl))
  t3 := Try.underlying3
  a3 := Try.isAgg3
  z3 := Try.sizeOf3
  v3 := Try.zeroValue3
  t4 := Try.underlying4
  a4 := Try.isAgg4
  z4 := Try.sizeOf4
  v4 := Try.zeroValue4
  t5 := Try.underlying5
  a5 := Try.isAgg5
  z5 := Try.sizeOf5
  v5 := Try.zeroValue5
  t9 := Try.underlying9
  a9 := Try.isAgg9
  z9 := Try.sizeOf9
  v9 := Try.zeroValue9
  t46 := Try.underlying79
  a46 := Try.isAgg79
  z46 := Try.sizeOf79
  v46 := Try.zeroValue79
  t53 := Try.underlying22
  a53 := Try.isAgg22
  z53 := Try.sizeOf22
  v53 := Try.zeroValue22 }
/-- bits.Len64: "Len64 returns the minimum number of bits required to represent x; the result is 0 for x == 0.": IT RETURNS 'Lib.bitLen x'; the world is as it was. ('h0', 'h1': x is a uint64.) (LAID: no walk: one application.) -/
theorem Try.bits_Len64 (x : Int) (w : World) (h0 : 0 ≤ x) (h1 : x ≤ 18446744073709551615) :
    Calls Try.prog 110 #[.int .u64 x] w fun e w' => e = .returned (.int .i64 (Lib.bitLen x.toNat)) ∧ w' = w := Any.bits_Len64 Try.lays129 x w h0 h1
def Try.lays264_ren : Go.Shelf.Ren := ⟨fun | 264 => 111 | n => n, fun | 53 => 22 | 46 => 79 | n => n, fun | n => n⟩
theorem Try.lays264 : Go.Proofs.Lays.n264 Try.prog Try.lays264_ren := {
  mixed := by kernel_rfl
  f264 := Try.func111.trans (congrArg some (by kernel_rfl))
  t46 := Try.underlying79
  a46 := Try.isAgg79
  z46 := Try.sizeOf79
  v46 := Try.zeroValue79
  t53 := Try.underlying22
  a53 := Try.isAgg22
  z53 := Try.sizeOf22
  v53 := Try.zeroValue22 }
open Go.RowKit Go.Lib in
theorem Try.bits_Mul64 (x y : Nat) (hx : x < 18446744073709551616) (hy : y < 18446744073709551616) (w : World) :
    Calls Try.prog 111 #[.int .u64 x, .int .u64 y] w fun e w' => e = .returned (.tuple #[.int .u64 ((x * y / 18446744073709551616 : Nat) : Int), .int .u64 ((x * y % 18446744073709551616 : Nat) : Int)]) ∧ w' = w := Any.bits_Mul64 Try.lays264 x y hx hy w
end Go.Proofs
namespace Go.Proofs.Ytebaoemoeckgaaa
set_option linter.unusedVariables false
open Go.RowKit

theorem mul64_calls (x y : Nat) (hx : x < 18446744073709551616) (hy : y < 18446744073709551616) (w : World) :
    Calls Try.prog 111 #[.int .u64 x, .int .u64 y] w fun e w' => e = .returned (.tuple #[.int .u64 (mulH x y : Nat), .int .u64 (mulL x y : Nat)]) ∧ w' = w :=
  Try.bits_Mul64 x y hx hy w
theorem ex_Mul64 {x y : Nat} (hx : x < 18446744073709551616) (hy : y < 18446744073709551616) : ∃ h l : Nat, (∀ w, Calls Try.prog 111 #[.int .u64 x, .int .u64 y] w fun e w' => e = .returned (.tuple #[.int .u64 (h : Nat), .int .u64 (l : Nat)]) ∧ w' = w) ∧ h ≤ 18446744073709551614 ∧ l < 18446744073709551616 ∧ Hid (l + 18446744073709551616 * h = x * y) :=
  ⟨_, _, mul64_calls x y hx hy, mulH_le hx hy, mulL_lt _ _, mulHL x y⟩

end Go.Proofs.Ytebaoemoeckgaaa
namespace Go.Proofs.Ytebaoemoeckgaaa
set_option linter.unusedVariables false
open Go.RowKit

theorem lenLog {y : Nat} (h0 : 1 ≤ y) (hy : y < 18446744073709551616) : Lib.bitLen y = y.log2 + 1 ∧ 2 ^ y.log2 ≤ y ∧ y < 2 ^ (y.log2 + 1) ∧ y.log2 ≤ 63 := by
  have a := Nat.log2_self_le (show y ≠ 0 by omega)
  have b : y < 2 ^ (y.log2 + 1) := Nat.lt_log2_self
  refine ⟨?_, a, b, ?_⟩
  · rw [Lib.bitLen_shift y.log2 y a hy]
    have : y / 2 ^ y.log2 = 1 := by
      rw [Nat.pow_succ] at b
      exact (Nat.div_eq_iff (Nat.two_pow_pos _)).2 ⟨by omega, by omega⟩
    rw [this]; rfl
  · have := (Nat.log2_lt (show y ≠ 0 by omega)).2 (show y < 2 ^ 64 from hy)
    omega
/-- the loop's test, decided: t is the product that is held against the rest -/
def Guard (u1 q r t : Nat) : Prop := decide ((4294967296 : Int) ≤ (q : Int)) = true ∨ decide ((4294967296 : Int) ≤ (q : Int)) = false ∧ decide ((4294967296 : Int) * (r : Int) + (u1 : Int) < (t : Int)) = true ∧ t < 18446744073709551616
theorem tests {y1 y0 u u1 q r : Nat} (s : KS y1 y0 u u1) (k : KI y1 y0 u u1 q r) {Q : Nat} (hQ : Q = (u * 4294967296 + u1) / (y1 * 4294967296 + y0)) :
    ∃ t v : Nat, (q : Int) * (y0 : Int) = (t : Int) ∧ (r : Int) + (y1 : Int) = (v : Int) ∧ v < 18446744073709551616 ∧
    ((∃ p : Nat, (q : Int) - 1 = (p : Int) ∧ p < q ∧ decide ((4294967296 : Int) ≤ (v : Int)) = false ∧ Guard u1 q r t ∧ Hid (KI y1 y0 u u1 p v)) ∨
    ((q : Int) - 1 = (Q : Int) ∧ 1 ≤ q ∧ decide ((4294967296 : Int) ≤ (v : Int)) = true ∧ Guard u1 q r t) ∨ (q = Q ∧ decide ((4294967296 : Int) ≤ (q : Int)) = false ∧ decide ((4294967296 : Int) * (r : Int) + (u1 : Int) < (t : Int)) = false ∧ t < 18446744073709551616)) := by
  have b1 := s.a1
  have b3 := s.a3
  have b5 := s.a5
  have br : r < 4294967296 := k.2.2.2
  refine ⟨q * y0, r + y1, (Int.natCast_mul q y0).symm, by omega, by omega, ?_⟩
  rcases Nat.lt_or_ge q 4294967296 with h | h
  · have hp := mul_le (show q ≤ 4294967295 by omega) (show y0 ≤ 4294967295 by omega)
    rcases Nat.lt_or_ge (4294967296 * r + u1) (q * y0) with h' | h'
    · have hn := ki_no s k h'
      have h1 := Nat.le_trans (Nat.le_add_left 1 _) hn
      rcases Nat.lt_or_ge (r + y1) 4294967296 with g | g
      · exact Or.inl ⟨q - 1, by omega, by omega, decide_eq_false (by omega), Or.inr ⟨decide_eq_false (by omega), decide_eq_true (by omega), by omega⟩, Lib.hid (ki_next k hn g)⟩
      · have := (ki_break s k hn g).trans hQ.symm
        exact Or.inr (Or.inl ⟨by omega, h1, decide_eq_true (by omega), Or.inr ⟨decide_eq_false (by omega), decide_eq_true (by omega), by omega⟩⟩)
    · exact Or.inr (Or.inr ⟨(ki_yes s k h').trans hQ.symm, decide_eq_false (by omega), decide_eq_false (by omega), by omega⟩)
  · have hn := ki_big s h
    rcases Nat.lt_or_ge (r + y1) 4294967296 with g | g
    · exact Or.inl ⟨q - 1, by omega, by omega, decide_eq_false (by omega), Or.inl (decide_eq_true (by omega)), Lib.hid (ki_next k hn g)⟩
    · have := (ki_break s k hn g).trans hQ.symm
      exact Or.inr (Or.inl ⟨by omega, by omega, decide_eq_true (by omega), Or.inl (decide_eq_true (by omega))⟩)

end Go.Proofs.Ytebaoemoeckgaaa
namespace Go.Proofs.Ytebaoemoeckgaaa
set_option linter.unusedVariables false
open Go.RowKit

/-- the world in a product's rounds: a's, b's and the result's blocks, and the product's -/
structure MW (w wr : World) (A B P : Nat → Nat) : Prop where
  below : Below w.heap.size w wr
  size : wr.heap.size = w.heap.size + 1 + 1 + 1 + 1 + 1
  rowA : RowIs wr w.heap.size 4 A
  rowB : RowIs wr (w.heap.size + 1) 4 B
  rowH : ∃ H, RowIs wr (w.heap.size + 1 + 1) 4 H
  rowL : ∃ L, RowIs wr (w.heap.size + 1 + 1 + 1) 4 L
  rowP : RowIs wr (w.heap.size + 1 + 1 + 1 + 1) 8 P
  lt : ∀ k, P k < 18446744073709551616
theorem MW.set {w wr : World} {A B P : Nat → Nat} (h : MW w wr A B P) {k d : Nat} (hk : k < 8) (hd : d < 18446744073709551616) :
    MW w (wr.setCell ⟨w.heap.size + 1 + 1 + 1 + 1, k, none⟩ (.int .u64 (d : Nat))) A B (upd P k d) :=
  ⟨h.below.setCell (p := ⟨w.heap.size + 1 + 1 + 1 + 1, k, none⟩) (by simp; omega) _, by rw [World.size_setCell]; exact h.size, h.rowA.other (by omega) _, h.rowB.other (by omega) _,
    h.rowH.elim fun H x => ⟨H, x.other (by omega) _⟩, h.rowL.elim fun L x => ⟨L, x.other (by omega) _⟩, h.rowP.set hk,
    fun x => by unfold upd; split; exact hd; exact h.lt x⟩
theorem MW.drewN {w wr : World} {A B P : Nat → Nat} (h : MW w wr A B P) (n : Nat) : MW w (wr.drewN n) A B P :=
  ⟨h.below.trans (below_drewN' _ _ _), h.size, h.rowA, h.rowB, h.rowH, h.rowL, h.rowP, h.lt⟩
theorem RowIs.mk4 {w : World} {b : Nat} {c0 c1 c2 c3 : Nat} (h0 : w.cell? ⟨b, 0, none⟩ = some (.int .u64 c0)) (h1 : w.cell? ⟨b, 1, none⟩ = some (.int .u64 c1)) (h2 : w.cell? ⟨b, 2, none⟩ = some (.int .u64 c2)) (h3 : w.cell? ⟨b, 3, none⟩ = some (.int .u64 c3))
    (hf : ∀ k, w.frozen? ⟨b, k, none⟩ = false) : RowIs w b 4 (fnOf [c0, c1, c2, c3]) := by
  intro k hk
  refine ⟨?_, hf k⟩
  match k, hk with
  | 0, _ => exact h0
  | 1, _ => exact h1
  | 2, _ => exact h2
  | 3, _ => exact h3
theorem fnOf4_lt {a0 a1 a2 a3 : Nat} (ha : ok4 a0 a1 a2 a3) (k : Nat) : fnOf [a0, a1, a2, a3] k < 18446744073709551616 := by
  obtain ⟨h0, h1, h2, h3⟩ := ha
  unfold fnOf
  match k with
  | 0 => exact h0
  | 1 => exact h1
  | 2 => exact h2
  | 3 => exact h3
  | k + 4 => simp

end Go.Proofs.Ytebaoemoeckgaaa
namespace Go.Proofs.Ytebaoemoeckgaaa
set_option linter.unusedVariables false
open Go.RowKit

def WordPost (P : Nat → Prop) (w : World) (e : Ending) (w' : World) : Prop :=
  ∃ s0 s1 s2 s3 : Nat, e = .returned (.agg #[.int .u64 s0, .int .u64 s1, .int .u64 s2, .int .u64 s3]) ∧ ok4 s0 s1 s2 s3 ∧ P (val4 s0 s1 s2 s3) ∧ Below w.heap.size w w'

end Go.Proofs.Ytebaoemoeckgaaa
namespace Go.Proofs.Ytebaoemoeckgaaa
set_option linter.unusedVariables false
set_option linter.unusedSimpArgs false
open Go.RowKit

theorem ex_Add64m {x c : Nat} (hx : x < 18446744073709551616) (hc : c ≤ 1) : ∃ d b : Nat, (∀ w, (callFunc 104 #[.int .u64 (x : Int), .int .u64 0, .int .u64 (c : Int)]).run Try.prog w =
      .ok (.value (.tuple #[.int .u64 (d : Int), .int .u64 (b : Int)])) w) ∧ d < 18446744073709551616 ∧ b ≤ 1 ∧ Hid (d + 18446744073709551616 * b = x + c) :=
  ⟨_, _, run_Add64 x 0 c hc, addS_lt _ _ _, addC_le hx (by omega) hc, Lib.hid (by have := addSC x 0 c; omega)⟩

set_option maxHeartbeats 1000000 in
theorem ex_tp {a b c d : Nat} (ha : a < 18446744073709551616) (hb : b < 18446744073709551616) (hc : c < 18446744073709551616) (hd : d < 18446744073709551616) : ∃ h l : Nat,
    (∀ w, Calls Try.prog 109 #[.int .u64 a, .int .u64 b, .int .u64 c, .int .u64 d] w fun e w' => e = .returned (.tuple #[.int .u64 (h : Nat), .int .u64 (l : Nat)]) ∧ w' = w) ∧
    h < 18446744073709551616 ∧ l < 18446744073709551616 ∧ Hid (l + 18446744073709551616 * h = a * b + c + d) := by
  obtain ⟨h, l, r, hh, hl, e⟩ := ex_Mul64 ha hb
  obtain ⟨l1, c1, r1, hl1, hc1, e1⟩ := ex_Add64z hl hc
  obtain ⟨h1, z1, r2, hh1, hz1, e2⟩ := ex_Add64m (show h < 18446744073709551616 by omega) hc1
  obtain ⟨l2, c2, r3, hl2, hc2, e3⟩ := ex_Add64z hl1 hd
  obtain ⟨h2, z2, r4, hh2, hz2, e4⟩ := ex_Add64m hh1 hc2
  have hab := mul_le (show a ≤ 18446744073709551615 by omega) (show b ≤ 18446744073709551615 by omega)
  refine ⟨h2, l2, fun w => ?_, hh2, hl2, Lib.hid (by have := e.out; have := e1.out; have := e2.out; have := e3.out; have := e4.out; omega)⟩
  clear e e1 e2 e3 e4 hab
  go_enter Try.func109, Try.ntmps109
  go_wp2_with fail
  refine (r _).mono ?_
  rintro e w' ⟨rfl, rfl⟩
  go_wp2_with fail
  go_ret2
  exact ⟨rfl, rfl⟩

/-- the constants of a field, cell by cell -/
structure KIs (w : World) (b : Nat) (F : FC) : Prop where
  k0 : w.cell? ⟨b, 0, none⟩ = some (.int .u64 F.m0)
  k1 : w.cell? ⟨b, 1, none⟩ = some (.int .u64 F.m1)
  k2 : w.cell? ⟨b, 2, none⟩ = some (.int .u64 F.m2)
  k3 : w.cell? ⟨b, 3, none⟩ = some (.int .u64 F.m3)
  k4 : w.cell? ⟨b, 4, none⟩ = some (.int .u64 F.inv)
  k5 : w.cell? ⟨b, 5, none⟩ = some (.int .u64 F.s0)
  k6 : w.cell? ⟨b, 6, none⟩ = some (.int .u64 F.s1)
  k7 : w.cell? ⟨b, 7, none⟩ = some (.int .u64 F.s2)
  k8 : w.cell? ⟨b, 8, none⟩ = some (.int .u64 F.s3)
  lt : b < w.heap.size
theorem KIs.below {w w' : World} {b : Nat} {F : FC} (h : KIs w b F) {B : Nat} (hb : Below B w w') (hB : b < B) : KIs w' b F :=
  ⟨by rw [hb.cell (p := ⟨b, 0, none⟩) hB]; exact h.k0, by rw [hb.cell (p := ⟨b, 1, none⟩) hB]; exact h.k1, by rw [hb.cell (p := ⟨b, 2, none⟩) hB]; exact h.k2, by rw [hb.cell (p := ⟨b, 3, none⟩) hB]; exact h.k3,
    by rw [hb.cell (p := ⟨b, 4, none⟩) hB]; exact h.k4, by rw [hb.cell (p := ⟨b, 5, none⟩) hB]; exact h.k5, by rw [hb.cell (p := ⟨b, 6, none⟩) hB]; exact h.k6, by rw [hb.cell (p := ⟨b, 7, none⟩) hB]; exact h.k7, by rw [hb.cell (p := ⟨b, 8, none⟩) hB]; exact h.k8, Nat.lt_of_lt_of_le h.lt hb.size⟩
theorem KIs.same {w w' : World} {b : Nat} {F : FC} (h : KIs w b F) (hb : Below w.heap.size w w') : KIs w' b F := h.below hb h.lt
theorem KIs.drewN {w : World} {b : Nat} {F : FC} (h : KIs w b F) (n : Nat) : KIs (w.drewN n) b F := ⟨h.k0, h.k1, h.k2, h.k3, h.k4, h.k5, h.k6, h.k7, h.k8, h.lt⟩
theorem KIs.other {w : World} {b d i : Nat} {F : FC} (h : KIs w b F) (hd : d ≠ b) (v : Value) : KIs (w.setCell ⟨d, i, none⟩ v) b F :=
  ⟨by rw [World.cell?_setCell_other (h := fun he => hd (by simpa using congrArg Addr.block he)) ..]; exact h.k0, by rw [World.cell?_setCell_other (h := fun he => hd (by simpa using congrArg Addr.block he)) ..]; exact h.k1,
    by rw [World.cell?_setCell_other (h := fun he => hd (by simpa using congrArg Addr.block he)) ..]; exact h.k2, by rw [World.cell?_setCell_other (h := fun he => hd (by simpa using congrArg Addr.block he)) ..]; exact h.k3,
    by rw [World.cell?_setCell_other (h := fun he => hd (by simpa using congrArg Addr.block he)) ..]; exact h.k4, by rw [World.cell?_setCell_other (h := fun he => hd (by simpa using congrArg Addr.block he)) ..]; exact h.k5,
    by rw [World.cell?_setCell_other (h := fun he => hd (by simpa using congrArg Addr.block he)) ..]; exact h.k6, by rw [World.cell?_setCell_other (h := fun he => hd (by simpa using congrArg Addr.block he)) ..]; exact h.k7,
    by rw [World.cell?_setCell_other (h := fun he => hd (by simpa using congrArg Addr.block he)) ..]; exact h.k8, by rw [World.size_setCell]; exact h.lt⟩

/-- four subtractions with a borrow, as facts -/
theorem ex_sub4 {a0 a1 a2 a3 b0 b1 b2 b3 : Nat} (ha : ok4 a0 a1 a2 a3) (hb : ok4 b0 b1 b2 b3) : ∃ d0 c0 d1 c1 d2 c2 d3 c3 : Nat,
    (∀ w, (callFunc 98 #[.int .u64 (a0 : Int), .int .u64 (b0 : Int), .int .u64 0]).run Try.prog w = .ok (.value (.tuple #[.int .u64 (d0 : Int), .int .u64 (c0 : Int)])) w) ∧
    (∀ w, (callFunc 98 #[.int .u64 (a1 : Int), .int .u64 (b1 : Int), .int .u64 (c0 : Int)]).run Try.prog w = .ok (.value (.tuple #[.int .u64 (d1 : Int), .int .u64 (c1 : Int)])) w) ∧
    (∀ w, (callFunc 98 #[.int .u64 (a2 : Int), .int .u64 (b2 : Int), .int .u64 (c1 : Int)]).run Try.prog w = .ok (.value (.tuple #[.int .u64 (d2 : Int), .int .u64 (c2 : Int)])) w) ∧
    (∀ w, (callFunc 98 #[.int .u64 (a3 : Int), .int .u64 (b3 : Int), .int .u64 (c2 : Int)]).run Try.prog w = .ok (.value (.tuple #[.int .u64 (d3 : Int), .int .u64 (c3 : Int)])) w) ∧
    ok4 d0 d1 d2 d3 ∧ c3 ≤ 1 ∧ Hid (val4 d0 d1 d2 d3 + val4 b0 b1 b2 b3 = val4 a0 a1 a2 a3 + 115792089237316195423570985008687907853269984665640564039457584007913129639936 * c3) := by
  obtain ⟨d0, c0, r0, h0, k0, e0⟩ := ex_Sub64z ha.1 hb.1
  obtain ⟨d1, c1, r1, h1, k1, e1⟩ := ex_Sub64 ha.2.1 hb.2.1 k0
  obtain ⟨d2, c2, r2, h2, k2, e2⟩ := ex_Sub64 ha.2.2.1 hb.2.2.1 k1
  obtain ⟨d3, c3, r3, h3, k3, e3⟩ := ex_Sub64 ha.2.2.2 hb.2.2.2 k2
  exact ⟨d0, c0, d1, c1, d2, c2, d3, c3, r0, r1, r2, r3, ⟨h0, h1, h2, h3⟩, k3, Lib.hid (by have := e0.out; have := e1.out; have := e2.out; have := e3.out; unfold val4; omega)⟩
/-- four sums with a carry, as facts -/
theorem ex_add4 {a0 a1 a2 a3 b0 b1 b2 b3 : Nat} (ha : ok4 a0 a1 a2 a3) (hb : ok4 b0 b1 b2 b3) : ∃ d0 c0 d1 c1 d2 c2 d3 c3 : Nat,
    (∀ w, (callFunc 104 #[.int .u64 (a0 : Int), .int .u64 (b0 : Int), .int .u64 0]).run Try.prog w = .ok (.value (.tuple #[.int .u64 (d0 : Int), .int .u64 (c0 : Int)])) w) ∧
    (∀ w, (callFunc 104 #[.int .u64 (a1 : Int), .int .u64 (b1 : Int), .int .u64 (c0 : Int)]).run Try.prog w = .ok (.value (.tuple #[.int .u64 (d1 : Int), .int .u64 (c1 : Int)])) w) ∧
    (∀ w, (callFunc 104 #[.int .u64 (a2 : Int), .int .u64 (b2 : Int), .int .u64 (c1 : Int)]).run Try.prog w = .ok (.value (.tuple #[.int .u64 (d2 : Int), .int .u64 (c2 : Int)])) w) ∧
    (∀ w, (callFunc 104 #[.int .u64 (a3 : Int), .int .u64 (b3 : Int), .int .u64 (c2 : Int)]).run Try.prog w = .ok (.value (.tuple #[.int .u64 (d3 : Int), .int .u64 (c3 : Int)])) w) ∧
    ok4 d0 d1 d2 d3 ∧ c3 ≤ 1 ∧ Hid (val4 d0 d1 d2 d3 + 115792089237316195423570985008687907853269984665640564039457584007913129639936 * c3 = val4 a0 a1 a2 a3 + val4 b0 b1 b2 b3) := by
  obtain ⟨d0, c0, r0, h0, k0, e0⟩ := ex_Add64z ha.1 hb.1
  obtain ⟨d1, c1, r1, h1, k1, e1⟩ := ex_Add64 ha.2.1 hb.2.1 k0
  obtain ⟨d2, c2, r2, h2, k2, e2⟩ := ex_Add64 ha.2.2.1 hb.2.2.1 k1
  obtain ⟨d3, c3, r3, h3, k3, e3⟩ := ex_Add64 ha.2.2.2 hb.2.2.2 k2
  exact ⟨d0, c0, d1, c1, d2, c2, d3, c3, r0, r1, r2, r3, ⟨h0, h1, h2, h3⟩, k3, Lib.hid (by have := e0.out; have := e1.out; have := e2.out; have := e3.out; unfold val4; omega)⟩

/-- An answer of four words with one value. -/
def FePost (V : Nat) (w : World) (e : Ending) (w' : World) : Prop :=
  ∃ s0 s1 s2 s3 : Nat, e = .returned (.agg #[.int .u64 s0, .int .u64 s1, .int .u64 s2, .int .u64 s3]) ∧ ok4 s0 s1 s2 s3 ∧ val4 s0 s1 s2 s3 = V ∧ Below w.heap.size w w'

set_option maxHeartbeats 1000000 in
theorem once_calls (F : FC) (hF : F.Ok) (b t0 t1 t2 t3 : Nat) (ht : ok4 t0 t1 t2 t3) (hlt : val4 t0 t1 t2 t3 < 2 * F.M) (w : World) (hk : KIs w b F) :
    Calls Try.prog 105 #[.pointer (some ⟨b, 0, none⟩), .int .u64 t0, .int .u64 t1, .int .u64 t2, .int .u64 t3] w (FePost (val4 t0 t1 t2 t3 % F.M) w) := by
  obtain ⟨d0, c0, d1, c1, d2, c2, d3, c3, r0, r1, r2, r3, hd, hc, e⟩ := ex_sub4 ht hF.okm
  have vd := val4_lt hd
  have vt := val4_lt ht
  have HV := Lib.hid (once_mod hlt)
  have HM := Lib.hid (show F.M = val4 F.m0 F.m1 F.m2 F.m3 from rfl)
  have hL := hk.lt
  have k0 := hk.k0; have k1 := hk.k1; have k2 := hk.k2; have k3 := hk.k3
  clear hk hF hlt
  have hc' : c3 = 0 ∨ c3 = 1 := by omega
  rcases hc' with rfl | rfl
  · go_enter Try.func105, Try.ntmps105
    go_wp2_with fail
    refine bodyPost_ret (v := .agg #[.int .u64 d0, .int .u64 d1, .int .u64 d2, .int .u64 d3]) (by simp [results, Try.results105, go_sem]) rfl ?_
    refine ⟨_, _, _, _, rfl, hd, ?_, ?_⟩
    · rw [HV.out, if_neg (by have := e.out; have := HM.out; omega)]; have := e.out; have := HM.out; omega
    · repeat (first | exact Below.refl _ _ | refine Below.drew ?_ | refine Below.alloc ?_ (by first | (simp; done) | (simp; omega)) _ | refine Below.setCell ?_ (by simp) _)
  · go_enter Try.func105, Try.ntmps105
    go_wp2_with fail
    refine bodyPost_ret (v := .agg #[.int .u64 t0, .int .u64 t1, .int .u64 t2, .int .u64 t3]) (by simp [results, Try.results105, go_sem]) rfl ?_
    refine ⟨_, _, _, _, rfl, ht, ?_, ?_⟩
    · rw [HV.out, if_pos (by have := e.out; have := HM.out; omega)]
    · repeat (first | exact Below.refl _ _ | refine Below.drew ?_ | refine Below.alloc ?_ (by first | (simp; done) | (simp; omega)) _ | refine Below.setCell ?_ (by simp) _)
end Go.Proofs.Ytebaoemoeckgaaa
