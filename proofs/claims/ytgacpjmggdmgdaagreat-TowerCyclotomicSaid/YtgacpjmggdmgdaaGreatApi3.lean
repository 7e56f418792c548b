/-
  The calls Legendre and Sqrt. Conditions: words below 2^64.
-/
import Derived.Test.YtgacpjmggdmgdaaGreatApi2
import Derived.Deep.DeepCutAuto
namespace Go.Proofs.YtgacpjmggdmgdaaGreat
set_option linter.unusedVariables false
set_option linter.unusedSimpArgs false
open Go.RowKit

theorem KIs.set4 {w : World} {b d : Nat} {F : FC} (h : KIs w b F) (hd : d ≠ b) (d0 d1 d2 d3 : Nat) : KIs (Go.Proofs.YtgacpjmggdmgdaaGreat.set4 w d d0 d1 d2 d3) b F := (((h.other hd _).other hd _).other hd _).other hd _
theorem kp_eq_zero {F : FC} (hF : F.Ok) {a0 a1 a2 a3 A : Nat} (ha : ok4 a0 a1 a2 a3) (hA : val4 a0 a1 a2 a3 = kp F A) : eqW a0 a1 a2 a3 0 0 0 0 = true ↔ A % F.M = 0 := by
  rw [eqW_iff ha zok, hA, show val4 0 0 0 0 = 0 from rfl, ← kp_mod F A]
  exact ⟨fun h => kp_inj hF (Nat.mod_lt _ hF.pos) hF.pos (h.trans (kp_zero F).symm), fun h => by rw [h, kp_zero]⟩

theorem eqW_false {a0 a1 a2 a3 b0 b1 b2 b3 : Nat} (h : ¬ eqW a0 a1 a2 a3 b0 b1 b2 b3 = true) : eqW a0 a1 a2 a3 b0 b1 b2 b3 = false := by cases q : eqW a0 a1 a2 a3 b0 b1 b2 b3 with | false => rfl | true => exact absurd q h
end Go.Proofs.YtgacpjmggdmgdaaGreat
