/-
  The numbers of a list's inverses: all products, one inverse. Conditions: a prime modulus (a root of it), elements below it.
-/
import Derived.Test.YtgacpjmggdmgdaaGreatFldAll
namespace Go.Proofs.YtgacpjmggdmgdaaGreat
set_option linter.unusedVariables false
set_option linter.unusedSimpArgs false

/-- the product of the first k elements that are not 0, modulo M -/
def prA (M : Nat) (A : Nat → Nat) : Nat → Nat
  | 0 => 1
  | k + 1 => if A k = 0 then prA M A k else prA M A k * A k % M
theorem prA_ok {M g : Nat} (hr : Root M g) (h2 : 2 ≤ M) {E : Nat → Nat} : ∀ {j : Nat}, (∀ k, k < j → E k < M) → 0 < prA M E j ∧ prA M E j < M
  | 0, _ => ⟨by show 0 < 1; omega, by show 1 < M; omega⟩
  | j + 1, hE => by
    have ih := prA_ok hr h2 (E := E) (j := j) (fun k h => hE k (by omega))
    have e := hE j (by omega)
    show 0 < (if E j = 0 then prA M E j else prA M E j * E j % M) ∧ (if E j = 0 then prA M E j else prA M E j * E j % M) < M
    by_cases hz : E j = 0
    · rw [if_pos hz]; exact ih
    · rw [if_neg hz]; exact ⟨mul_ne hr h2 ih.1 ih.2 (by omega) e, Nat.mod_lt _ (by omega)⟩
/-- inverse of p * a, times a: the inverse of p; times p: the inverse of a -/
theorem inv_part {M g p a : Nat} (hr : Root M g) (h2 : 2 ≤ M) (hp0 : 0 < p) (hp : p < M) (ha0 : 0 < a) (ha : a < M) :
    (p * a % M) ^ (M - 2) * a % M = p ^ (M - 2) % M := by
  have hne := mul_ne hr h2 hp0 hp ha0 ha
  have hlt : p * a % M < M := Nat.mod_lt _ (by omega)
  have i1 := inv_mul hr h2 hne hlt
  have i2 := inv_mul hr h2 hp0 hp
  refine (fun e => ?_) (cancel_l hr h2 hp0 hp (b := (p * a % M) ^ (M - 2) * a) (c := p ^ (M - 2)) ?_)
  · exact e
  · rw [← mul_mod_r p (p ^ (M - 2)), i2, ← i1, mul_mod_r, mul_mod_l]
    congr 1
    rw [Nat.mul_comm ((p * a % M) ^ (M - 2)) a, ← Nat.mul_assoc]
end Go.Proofs.YtgacpjmggdmgdaaGreat
