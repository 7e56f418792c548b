/-
  The law TowerCyclotomic answers true, whatever it is handed. Conditions: none.
-/
import Derived.Test.YtgacpjmggdmgdaaGreatTwCyc9
namespace Go.Proofs.YtgacpjmggdmgdaaGreat.Ex
set_option linter.unusedVariables false
set_option linter.unusedSimpArgs false
open Go.RowKit

set_option maxRecDepth 100000 in
theorem run_cyc1 (x : N12) : funA Tryz.prog (T_rExp12 true) (qG Tryz.prog) (fun _ => true) Tryz.f6 60 [.v (.fl (q12 x))] = some ([nu12 (m12 x) ≠ F1.zero, inC (F12.mul (m12 (nv12 (it12 (rest12N 2).toNat (F12.mul (m12 (nv12 (cj12 (m12 x)))) (m12 (nv12 (iv12 (m12 x)))))))) (m12 (nv12 (F12.mul (m12 (nv12 (cj12 (m12 x)))) (m12 (nv12 (iv12 (m12 x)))))))), inC (F12.mul (m12 (nv12 (it12 (rest12N 2).toNat (F12.mul (m12 (nv12 (cj12 (m12 x)))) (m12 (nv12 (iv12 (m12 x)))))))) (m12 (nv12 (F12.mul (m12 (nv12 (cj12 (m12 x)))) (m12 (nv12 (iv12 (m12 x)))))))), flat (e12 (F12.mul (F12.mul (m12 (nv12 (it12 (rest12N 2).toNat (F12.mul (m12 (nv12 (cj12 (m12 x)))) (m12 (nv12 (iv12 (m12 x)))))))) (m12 (nv12 (F12.mul (m12 (nv12 (cj12 (m12 x)))) (m12 (nv12 (iv12 (m12 x)))))))) (F12.mul (m12 (nv12 (it12 (rest12N 2).toNat (F12.mul (m12 (nv12 (cj12 (m12 x)))) (m12 (nv12 (iv12 (m12 x)))))))) (m12 (nv12 (F12.mul (m12 (nv12 (cj12 (m12 x)))) (m12 (nv12 (iv12 (m12 x)))))))))) = flat (e12 (F12.mul (m12 (nv12 (F12.mul (m12 (nv12 (it12 (rest12N 2).toNat (F12.mul (m12 (nv12 (cj12 (m12 x)))) (m12 (nv12 (iv12 (m12 x)))))))) (m12 (nv12 (F12.mul (m12 (nv12 (cj12 (m12 x)))) (m12 (nv12 (iv12 (m12 x)))))))))) (m12 (nv12 (F12.mul (m12 (nv12 (it12 (rest12N 2).toNat (F12.mul (m12 (nv12 (cj12 (m12 x)))) (m12 (nv12 (iv12 (m12 x)))))))) (m12 (nv12 (F12.mul (m12 (nv12 (cj12 (m12 x)))) (m12 (nv12 (iv12 (m12 x)))))))))))), flat (e12 (F12.mul (m12 (nv12 (F12.mul (m12 (nv12 (it12 (rest12N 2).toNat (F12.mul (m12 (nv12 (cj12 (m12 x)))) (m12 (nv12 (iv12 (m12 x)))))))) (m12 (nv12 (F12.mul (m12 (nv12 (cj12 (m12 x)))) (m12 (nv12 (iv12 (m12 x)))))))))) (m12 (nv12 (cj12 (F12.mul (m12 (nv12 (it12 (rest12N 2).toNat (F12.mul (m12 (nv12 (cj12 (m12 x)))) (m12 (nv12 (iv12 (m12 x)))))))) (m12 (nv12 (F12.mul (m12 (nv12 (cj12 (m12 x)))) (m12 (nv12 (iv12 (m12 x))))))))))))) = flat (e12 F12.one)], .one (.im (.bool true))) := by kernel_rfl
set_option maxRecDepth 100000 in
theorem run_cyc0 (x : N12) : funA Tryz.prog (T_rExp12 false) (qG Tryz.prog) (fun _ => true) Tryz.f6 60 [.v (.fl (q12 x))] = some ([nu12 (m12 x) = F1.zero, ¬ inC (m12 x)], .one (.im (.bool true))) := by kernel_rfl
/-- to the (p^6 - 1) (p^2 + 1) whatever is not 0 lies in the subgroup -/
theorem cyc_of (a k : Q12) (h : F12.mul a k = F12.one) : inC (F12.mul (tw12 (F12.mul (cj12 a) k)) (F12.mul (cj12 a) k)) := by
  generalize hy : F12.mul (cj12 a) k = y
  have hk : F12.mul (cj12 a) (cj12 k) = F12.one := by rw [← cj12_mul, h]; decide
  have h1 : F12.mul (cj12 y) y = F12.one := by
    rw [← hy, cj12_mul, cj_cj12]
    have : F12.mul (F12.mul a (cj12 k)) (F12.mul (cj12 a) k) = F12.mul (F12.mul a k) (F12.mul (cj12 a) (cj12 k)) := by
      rw [F12.mul_assoc, F12.mul_assoc, F12.mul_left_comm (cj12 k), F12.mul_left_comm k, F12.mul_comm (cj12 k) k, F12.mul_left_comm (cj12 a) k, F12.mul_left_comm k (cj12 a)]
    rw [this, h, hk, F12.one_mul]
  have h3 : tw12 (tw12 (tw12 y)) = cj12 y := tw_three y
  have hne : y ≠ F12.zero := fun e => by rw [e, F12.mul_zero] at h1; exact fld12.1 h1.symm
  refine ⟨fun e => ?_, ?_⟩
  · have h2 : F12.mul (tw12 (cj12 y)) (tw12 y) = F12.one := by rw [← tw12_mul, h1]; decide
    have h4 := congrArg (fun t => F12.mul (F12.mul (tw12 (cj12 y)) (cj12 y)) t) e
    simp only [F12.mul_zero] at h4
    have h5 : F12.mul (F12.mul (tw12 (cj12 y)) (cj12 y)) (F12.mul (tw12 y) y) = F12.one := by
      rw [F12.mul_assoc, F12.mul_left_comm (cj12 y), ← F12.mul_assoc, h2, h1, F12.one_mul]
    rw [h5] at h4
    exact fld12.1 h4
  · rw [tw12_mul, tw12_mul, h3]
    rw [F12.mul_comm (cj12 y), F12.mul_assoc, F12.mul_left_comm (cj12 y), h1, F12.mul_one]
theorem cyclo_calls (x : N12) (w : World) : Calls Tryz.prog 6 #[.agg (flat (q12 x)).toArray] w (fun e w' => e = .returned (.bool true) ∧ Below w.heap.size w w') := by
  have ha : CAs w [.v (.fl (q12 x))] [.agg (flat (q12 x)).toArray] := ⟨rfl, trivial⟩
  by_cases h : nu12 (m12 x) = F1.zero
  · exact fun_sound hmix (ok_rExp12 false) (qG_ok _) Tryz.func6 (run_cyc0 x) ⟨h, fun hc => hc.1 (nu12_zero h), trivial⟩ ha
  · have hc : inC (F12.mul (m12 (nv12 (it12 (rest12N 2).toNat (F12.mul (m12 (nv12 (cj12 (m12 x)))) (m12 (nv12 (iv12 (m12 x)))))))) (m12 (nv12 (F12.mul (m12 (nv12 (cj12 (m12 x)))) (m12 (nv12 (iv12 (m12 x)))))))) := by
      rw [m12_nv, m12_nv, m12_nv, m12_nv, it_r2]
      exact cyc_of _ _ (F12_inv h)
    refine fun_sound hmix (ok_rExp12 true) (qG_ok _) Tryz.func6 (run_cyc1 x) ⟨h, hc, hc, by rw [m12_nv (F12.mul (m12 (nv12 (it12 (rest12N 2).toNat (F12.mul (m12 (nv12 (cj12 (m12 x)))) (m12 (nv12 (iv12 (m12 x)))))))) (m12 (nv12 (F12.mul (m12 (nv12 (cj12 (m12 x)))) (m12 (nv12 (iv12 (m12 x))))))))], ?_, trivial⟩ ha
    rw [m12_nv (F12.mul (m12 (nv12 (it12 (rest12N 2).toNat (F12.mul (m12 (nv12 (cj12 (m12 x)))) (m12 (nv12 (iv12 (m12 x)))))))) (m12 (nv12 (F12.mul (m12 (nv12 (cj12 (m12 x)))) (m12 (nv12 (iv12 (m12 x)))))))), m12_nv (cj12 (F12.mul (m12 (nv12 (it12 (rest12N 2).toNat (F12.mul (m12 (nv12 (cj12 (m12 x)))) (m12 (nv12 (iv12 (m12 x)))))))) (m12 (nv12 (F12.mul (m12 (nv12 (cj12 (m12 x)))) (m12 (nv12 (iv12 (m12 x))))))))), F12.mul_comm, cyc_unit _ hc.1 hc.2]

end Go.Proofs.YtgacpjmggdmgdaaGreat.Ex
