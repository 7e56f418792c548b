/-
  How often an element is squared till it is one. Conditions: an element that is kept, words below 2^64, the constants in a block of memory, a count that is not below 0.
-/
import Derived.Test.YtkkbjemifmekfaaRoot
namespace Go.Proofs.Ytkkbjemifmekfaa
set_option linter.unusedVariables false
set_option linter.unusedSimpArgs false
open Go.RowKit

def OrdPost (M A T : Nat) (w : World) (e : Ending) (w' : World) : Prop :=
  ∃ o : Nat, e = .returned (.int .i64 o) ∧ o ≤ T ∧ (∀ j, j < o → A ^ 2 ^ j % M ≠ 1) ∧ (o < T → A ^ 2 ^ o % M = 1) ∧ Below w.heap.size w w'
theorem eq_one {F : FC} (hF : F.Ok) {a0 a1 a2 a3 s0 s1 s2 s3 A : Nat} (ha : ok4 a0 a1 a2 a3) (hs : ok4 s0 s1 s2 s3) (hA : val4 a0 a1 a2 a3 = kp F A) (hS : val4 s0 s1 s2 s3 = kp F 1) : eqW a0 a1 a2 a3 s0 s1 s2 s3 = true ↔ A % F.M = 1 := by
  have h1 : 1 < F.M := by have := hF.gt; omega
  rw [eqW_iff ha hs, hA, hS, ← kp_mod F A]
  exact ⟨fun h => kp_inj hF (Nat.mod_lt _ (by omega)) h1 h, fun h => by rw [h]⟩

end Go.Proofs.Ytkkbjemifmekfaa
