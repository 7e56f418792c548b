/-
  The law TowerTwelve answers true, whatever it is handed. Conditions: none.
-/
import Derived.Test.YtgacpjmggdmgdaaGreatTwAll9
namespace Go.Proofs.YtgacpjmggdmgdaaGreat.Ex
set_option linter.unusedVariables false
set_option linter.unusedSimpArgs false
open Go.RowKit

set_option maxRecDepth 100000 in
theorem run_twelve1 (x y : N12) (n : Int) : funA Tryz.prog (T_rFrob12 true) (qG Tryz.prog) (fun _ => true) Tryz.f4 60 [.v (.fl (q12 x)), .v (.fl (q12 y)), .v (.im (.int .i64 n))] = some ([nu12 (m12 x) ≠ F1.zero, rn12 (m12 x) ≠ F1.zero, flat (e12 (F12.mul (m12 x) (m12 y))) = flat (e12 (F12.mul (m12 x) (m12 y))), flat (e12 (F12.mul (m12 x) (m12 x))) = flat (e12 (F12.mul (m12 x) (m12 x))), flat (e12 (cj12 (m12 x))) = flat (e12 (cj12 (m12 x))), flat (e12 (iv12 (m12 x))) = flat (e12 (riv12 (m12 x))), flat (e12 (it12 (rest12N n).toNat (m12 x))) = flat (e12 (it12 (rest12N n).toNat (m12 x))), flat (e12 F12.one) = flat (e12 F12.one)], .one (.im (.bool true))) := by kernel_rfl
set_option maxRecDepth 100000 in
theorem run_twelve0 (x y : N12) (n : Int) : funA Tryz.prog (T_rFrob12 false) (qG Tryz.prog) (fun _ => true) Tryz.f4 60 [.v (.fl (q12 x)), .v (.fl (q12 y)), .v (.im (.int .i64 n))] = some ([nu12 (m12 x) = F1.zero, rn12 (m12 x) = F1.zero, flat (e12 (F12.mul (m12 x) (m12 y))) = flat (e12 (F12.mul (m12 x) (m12 y))), flat (e12 (F12.mul (m12 x) (m12 x))) = flat (e12 (F12.mul (m12 x) (m12 x))), flat (e12 (cj12 (m12 x))) = flat (e12 (cj12 (m12 x))), flat (e12 F12.zero) = flat (e12 F12.zero), flat (e12 (it12 (rest12N n).toNat (m12 x))) = flat (e12 (it12 (rest12N n).toNat (m12 x))), flat (e12 F12.one) = flat (e12 F12.one)], .one (.im (.bool true))) := by kernel_rfl
theorem twelve_calls (x y : N12) (n : Int) (w : World) : Calls Tryz.prog 4 #[.agg (flat (q12 x)).toArray, .agg (flat (q12 y)).toArray, .int .i64 n] w (fun e w' => e = .returned (.bool true) ∧ Below w.heap.size w w') := by
  have ha : CAs w [.v (.fl (q12 x)), .v (.fl (q12 y)), .v (.im (.int .i64 n))] [.agg (flat (q12 x)).toArray, .agg (flat (q12 y)).toArray, .int .i64 n] := ⟨rfl, rfl, rfl, trivial⟩
  by_cases h : nu12 (m12 x) = F1.zero
  · exact fun_sound hmix (ok_rFrob12 false) (qG_ok _) Tryz.func4 (run_twelve0 x y n) ⟨h, by rw [rn12_eq]; exact h, rfl, rfl, rfl, rfl, rfl, rfl, trivial⟩ ha
  · exact fun_sound hmix (ok_rFrob12 true) (qG_ok _) Tryz.func4 (run_twelve1 x y n) ⟨h, by rw [rn12_eq]; exact h, rfl, rfl, rfl, by rw [riv12_eq], rfl, rfl, trivial⟩ ha

end Go.Proofs.YtgacpjmggdmgdaaGreat.Ex
