/-
  The law TowerPowers answers true, whatever it is handed. Conditions: none.
-/
import Derived.Test.YtgacpjmggdmgdaaGreatTwCyc9
namespace Go.Proofs.YtgacpjmggdmgdaaGreat.Ex
set_option linter.unusedVariables false
set_option linter.unusedSimpArgs false
open Go.RowKit

set_option maxRecDepth 100000 in
theorem run_powers1 (x : N12) (n : Nat) : funA Tryz.prog (T_rExp12 true) (qG Tryz.prog) (fun _ => true) Tryz.f5 60 [.v (.fl (q12 x)), .v (.fl (q1 n))] = some ([inC (m12 x), inC (m12 x), flat (e12 (pwK F12 (m12 x) (wv n))) = flat (e12 (pwK F12 (m12 x) (wv n))), inC (m12 x), inC (m12 x), flat (e12 (F12.mul (m12 x) (m12 x))) = flat (e12 (F12.mul (m12 x) (m12 x)))], .one (.im (.bool true))) := by kernel_rfl
set_option maxRecDepth 100000 in
theorem run_powers0 (x : N12) (n : Nat) : funA Tryz.prog (T_rExp12 false) (qG Tryz.prog) (fun _ => true) Tryz.f5 60 [.v (.fl (q12 x)), .v (.fl (q1 n))] = some ([¬ inC (m12 x), ¬ inC (m12 x), flat (e12 (pwK F12 (m12 x) (wv n))) = flat (e12 (pwK F12 (m12 x) (wv n))), ¬ inC (m12 x), ¬ inC (m12 x), flat (e12 F12.zero) = flat (e12 F12.zero)], .one (.im (.bool true))) := by kernel_rfl
theorem powers_calls (x : N12) (n : Nat) (w : World) : Calls Tryz.prog 5 #[.agg (flat (q12 x)).toArray, .agg (flat (q1 n)).toArray] w (fun e w' => e = .returned (.bool true) ∧ Below w.heap.size w w') := by
  have ha : CAs w [.v (.fl (q12 x)), .v (.fl (q1 n))] [.agg (flat (q12 x)).toArray, .agg (flat (q1 n)).toArray] := ⟨rfl, rfl, trivial⟩
  by_cases h : inC (m12 x)
  · exact fun_sound hmix (ok_rExp12 true) (qG_ok _) Tryz.func5 (run_powers1 x n) ⟨h, h, rfl, h, h, rfl, trivial⟩ ha
  · exact fun_sound hmix (ok_rExp12 false) (qG_ok _) Tryz.func5 (run_powers0 x n) ⟨h, h, rfl, h, h, rfl, trivial⟩ ha

end Go.Proofs.YtgacpjmggdmgdaaGreat.Ex
