/-
  The last power whole, the checks of what it takes and answers; the law PairingFinal answers true. Conditions: none.
  The law PairingFinal answers true, whatever it is handed. Conditions: none.
  From a row's premises to a walk's: an argument of four words is opened. Conditions: none of its own.
-/
import Derived.ProofKit
import Derived.LaidMore
import Derived.OpenShut
import Derived.Stop.Joined
import Derived.Carry
import Derived.RowKit
import Derived.ChangeSame
import Derived.JoinedOf
import Derived.JoinedAt
import Derived.Laws.IdiomArrays
import Derived.Test.YtaingnhikbaplaaGreatPf26
import Derived.Test.YtaingnhikbaplaaGreatPf28
import Derived.Test.YtaingnhikbaplaaGreatRows
import Derived.Test.YtaingnhikbaplaaGreatPf07
namespace Go.Proofs.YtaingnhikbaplaaGreat.Ex
set_option linter.unusedVariables false
set_option linter.unusedSimpArgs false
open Go.RowKit

noncomputable def T_hd : Tab := T_pd.add 125 (g1 rd12 fun y => ([inC y], .one (.fl (e12 (hX y)))))
theorem ok_hd : TabOk Tryz.prog T_hd := ok_pd.add Tryz.func125 (by kernel_rfl) (by kernel_rfl) (g1_ok rd12_ok fun y hp args w ha => hard_calls y hp.1 args w ha)
/-- to the (p^6 - 1) (p^2 + 1) -/
noncomputable def eZ (a : Q12) : Q12 := F12.mul (tw12 (F12.mul (cj12 a) (iv12 a))) (F12.mul (cj12 a) (iv12 a))
noncomputable def lst (a : Q12) : Q12 := hX (eZ a)
theorem eZ_in {a : Q12} (h : nu12 a ≠ F1.zero) : inC (eZ a) := by
  have hk : F12.mul a (iv12 a) = F12.one := F12_inv h
  unfold eZ
  generalize iv12 a = k at hk
  generalize hy : F12.mul (cj12 a) k = y
  have hk2 : F12.mul (cj12 a) (cj12 k) = F12.one := by rw [← cj12_mul, hk]; decide
  have h1 : F12.mul (cj12 y) y = F12.one := by
    rw [← hy, cj12_mul, cj_cj12]
    have : F12.mul (F12.mul a (cj12 k)) (F12.mul (cj12 a) k) = F12.mul (F12.mul a k) (F12.mul (cj12 a) (cj12 k)) := by
      rw [F12.mul_assoc, F12.mul_assoc, F12.mul_left_comm (cj12 k), F12.mul_left_comm k, F12.mul_comm (cj12 k) k, F12.mul_left_comm (cj12 a) k, F12.mul_left_comm k (cj12 a)]
    rw [this, hk, hk2, F12.one_mul]
  have h3 : tw12 (tw12 (tw12 y)) = cj12 y := tw_three y
  have hne : y ≠ F12.zero := fun e => by rw [e, F12.mul_zero] at h1; exact fld12.1 h1.symm
  refine ⟨fun e => ?_, ?_⟩
  · have h2 : F12.mul (tw12 (cj12 y)) (tw12 y) = F12.one := by rw [← tw12_mul, h1]; decide
    have h4 := congrArg (fun t => F12.mul (F12.mul (tw12 (cj12 y)) (cj12 y)) t) e
    simp only [F12.mul_zero] at h4
    have h5 : F12.mul (F12.mul (tw12 (cj12 y)) (cj12 y)) (F12.mul (tw12 y) y) = F12.one := by
      rw [F12.mul_assoc, F12.mul_left_comm (cj12 y), ← F12.mul_assoc, h2, h1, F12.one_mul]
    rw [h5] at h4
    exact fld12.1 h4
  · rw [tw12_mul, tw12_mul, h3]
    rw [F12.mul_comm (cj12 y), F12.mul_assoc, F12.mul_left_comm (cj12 y), h1, F12.mul_one]
noncomputable def eZr (a : Q12) : Q12 := F12.mul (m12 (nv12 (it12 (rest12N 2).toNat (F12.mul (m12 (nv12 (cj12 a))) (m12 (nv12 (iv12 a))))))) (m12 (nv12 (F12.mul (m12 (nv12 (cj12 a))) (m12 (nv12 (iv12 a))))))
theorem eZr_eq (a : Q12) : eZr a = eZ a := by
  unfold eZr eZ
  rw [m12_nv, m12_nv, m12_nv, m12_nv, it_r2]
set_option maxRecDepth 100000 in
theorem run_last (x : N12) : funA Tryz.prog T_hd qN (fun _ => true) Tryz.f69 60 [.v (.fl (q12 x))] = some ([nu12 (m12 x) ≠ F1.zero, inC (eZr (m12 x))], .one (.fl (e12 (hX (eZr (m12 x)))))) := by kernel_rfl
noncomputable def T_la : Tab := T_hd.add 69 (g1 rq12 fun x => ([nu12 (m12 x) ≠ F1.zero], .one (.fl (e12 (lst (m12 x))))))
theorem ok_la : TabOk Tryz.prog T_la := ok_hd.add Tryz.func69 (by kernel_rfl) (by kernel_rfl) (g1_ok rq12_ok fun x hp args w ha => by
  have h := fun_sound hmix ok_hd qN_ok Tryz.func69 (run_last x) ⟨hp.1, by rw [eZr_eq]; exact eZ_in hp.1, trivial⟩ (args := args) (w := w) ha
  rw [eZr_eq] at h
  exact h)
/-- are all parts below p? -/
def insN (x : N12) : List Nat := [x.1.1.1, x.1.1.2, x.2.1.1, x.2.1.2, x.1.2.1.1, x.1.2.1.2, x.2.2.1.1, x.2.2.1.2, x.1.2.2.1, x.1.2.2.2, x.2.2.2.1, x.2.2.2.2]
def pw6 (x : N12) : List At := [.q x.1.1.1, .q x.1.1.2, .q x.2.1.1, .q x.2.1.2, .q x.1.2.1.1, .q x.1.2.1.2, .q x.2.2.1.1, .q x.2.2.1.2, .q x.1.2.2.1, .q x.1.2.2.2, .q x.2.2.2.1, .q x.2.2.2.2]
def allB (x : N12) : Prop := ∀ n ∈ insN x, wv n < FP.M
set_option maxRecDepth 100000 in
theorem run_inP (x : N12) : funA Tryz.prog T0 qN (fun _ => true) Tryz.f130 60 [.v (.fl (q12 x))] = some ([], .one (.fl (pw6 x))) := by kernel_rfl
noncomputable def T_ip : Tab := T0.add 130 (g1 rq12 fun x => ([], .one (.fl (pw6 x))))
theorem ok_ip : TabOk Tryz.prog T_ip := (T0_ok _).add Tryz.func130 (by kernel_rfl) (by kernel_rfl) (g1_ok rq12_ok fun x hp args w ha => fun_sound hmix (T0_ok _) qN_ok Tryz.func130 (run_inP x) trivial ha)
noncomputable def T_ic (d : Bool) : Tab := T_ip.add 135 (gChk d)
theorem ok_ic (d : Bool) : TabOk Tryz.prog (T_ic d) := ok_ip.add Tryz.func135 (by kernel_rfl) (by kernel_rfl) (gChk_ok d)
noncomputable def cMb (f : Nat → Nat → Bool) : Nat → Cfg := fun n => ⟨fun s => T_ic (f n s), fun _ => true, fun _ => none⟩
theorem cMb_ok (f : Nat → Nat → Bool) : ∀ n d, TabOk Tryz.prog ((cMb f n).T d) := fun n d => ok_ic _
set_option maxRecDepth 100000 in
theorem run_mb (x : N12) : funB Tryz.prog (qG Tryz.prog) (cMb fun _ _ => true) Tryz.f73 80 [.v (.fl (q12 x))] = some ([wv x.1.1.1 < FP.M, wv x.1.1.2 < FP.M, wv x.2.1.1 < FP.M, wv x.2.1.2 < FP.M, wv x.1.2.1.1 < FP.M, wv x.1.2.1.2 < FP.M, wv x.2.2.1.1 < FP.M, wv x.2.2.1.2 < FP.M, wv x.1.2.2.1 < FP.M, wv x.1.2.2.2 < FP.M, wv x.2.2.2.1 < FP.M, wv x.2.2.2.2 < FP.M], .one (.im (.bool true))) := by kernel_rfl
set_option maxRecDepth 100000 in
theorem run_mb0 (x : N12) : funB Tryz.prog (qG Tryz.prog) (cMb fun n s => !(Nat.beq n 68 && Nat.beq s 12)) Tryz.f73 80 [.v (.fl (q12 x))] = some ([¬ wv x.1.1.1 < FP.M], .one (.im (.bool false))) := by kernel_rfl
set_option maxRecDepth 100000 in
theorem run_mb1 (x : N12) : funB Tryz.prog (qG Tryz.prog) (cMb fun n s => !(Nat.beq n 68 && Nat.beq s 17)) Tryz.f73 80 [.v (.fl (q12 x))] = some ([wv x.1.1.1 < FP.M, ¬ wv x.1.1.2 < FP.M], .one (.im (.bool false))) := by kernel_rfl
set_option maxRecDepth 100000 in
theorem run_mb2 (x : N12) : funB Tryz.prog (qG Tryz.prog) (cMb fun n s => !(Nat.beq n 67 && Nat.beq s 12)) Tryz.f73 80 [.v (.fl (q12 x))] = some ([wv x.1.1.1 < FP.M, wv x.1.1.2 < FP.M, ¬ wv x.2.1.1 < FP.M], .one (.im (.bool false))) := by kernel_rfl
set_option maxRecDepth 100000 in
theorem run_mb3 (x : N12) : funB Tryz.prog (qG Tryz.prog) (cMb fun n s => !(Nat.beq n 67 && Nat.beq s 17)) Tryz.f73 80 [.v (.fl (q12 x))] = some ([wv x.1.1.1 < FP.M, wv x.1.1.2 < FP.M, wv x.2.1.1 < FP.M, ¬ wv x.2.1.2 < FP.M], .one (.im (.bool false))) := by kernel_rfl
set_option maxRecDepth 100000 in
theorem run_mb4 (x : N12) : funB Tryz.prog (qG Tryz.prog) (cMb fun n s => !(Nat.beq n 66 && Nat.beq s 12)) Tryz.f73 80 [.v (.fl (q12 x))] = some ([wv x.1.1.1 < FP.M, wv x.1.1.2 < FP.M, wv x.2.1.1 < FP.M, wv x.2.1.2 < FP.M, ¬ wv x.1.2.1.1 < FP.M], .one (.im (.bool false))) := by kernel_rfl
set_option maxRecDepth 100000 in
theorem run_mb5 (x : N12) : funB Tryz.prog (qG Tryz.prog) (cMb fun n s => !(Nat.beq n 66 && Nat.beq s 17)) Tryz.f73 80 [.v (.fl (q12 x))] = some ([wv x.1.1.1 < FP.M, wv x.1.1.2 < FP.M, wv x.2.1.1 < FP.M, wv x.2.1.2 < FP.M, wv x.1.2.1.1 < FP.M, ¬ wv x.1.2.1.2 < FP.M], .one (.im (.bool false))) := by kernel_rfl
set_option maxRecDepth 100000 in
theorem run_mb6 (x : N12) : funB Tryz.prog (qG Tryz.prog) (cMb fun n s => !(Nat.beq n 65 && Nat.beq s 12)) Tryz.f73 80 [.v (.fl (q12 x))] = some ([wv x.1.1.1 < FP.M, wv x.1.1.2 < FP.M, wv x.2.1.1 < FP.M, wv x.2.1.2 < FP.M, wv x.1.2.1.1 < FP.M, wv x.1.2.1.2 < FP.M, ¬ wv x.2.2.1.1 < FP.M], .one (.im (.bool false))) := by kernel_rfl
set_option maxRecDepth 100000 in
theorem run_mb7 (x : N12) : funB Tryz.prog (qG Tryz.prog) (cMb fun n s => !(Nat.beq n 65 && Nat.beq s 17)) Tryz.f73 80 [.v (.fl (q12 x))] = some ([wv x.1.1.1 < FP.M, wv x.1.1.2 < FP.M, wv x.2.1.1 < FP.M, wv x.2.1.2 < FP.M, wv x.1.2.1.1 < FP.M, wv x.1.2.1.2 < FP.M, wv x.2.2.1.1 < FP.M, ¬ wv x.2.2.1.2 < FP.M], .one (.im (.bool false))) := by kernel_rfl
set_option maxRecDepth 100000 in
theorem run_mb8 (x : N12) : funB Tryz.prog (qG Tryz.prog) (cMb fun n s => !(Nat.beq n 64 && Nat.beq s 12)) Tryz.f73 80 [.v (.fl (q12 x))] = some ([wv x.1.1.1 < FP.M, wv x.1.1.2 < FP.M, wv x.2.1.1 < FP.M, wv x.2.1.2 < FP.M, wv x.1.2.1.1 < FP.M, wv x.1.2.1.2 < FP.M, wv x.2.2.1.1 < FP.M, wv x.2.2.1.2 < FP.M, ¬ wv x.1.2.2.1 < FP.M], .one (.im (.bool false))) := by kernel_rfl
set_option maxRecDepth 100000 in
theorem run_mb9 (x : N12) : funB Tryz.prog (qG Tryz.prog) (cMb fun n s => !(Nat.beq n 64 && Nat.beq s 17)) Tryz.f73 80 [.v (.fl (q12 x))] = some ([wv x.1.1.1 < FP.M, wv x.1.1.2 < FP.M, wv x.2.1.1 < FP.M, wv x.2.1.2 < FP.M, wv x.1.2.1.1 < FP.M, wv x.1.2.1.2 < FP.M, wv x.2.2.1.1 < FP.M, wv x.2.2.1.2 < FP.M, wv x.1.2.2.1 < FP.M, ¬ wv x.1.2.2.2 < FP.M], .one (.im (.bool false))) := by kernel_rfl
set_option maxRecDepth 100000 in
theorem run_mb10 (x : N12) : funB Tryz.prog (qG Tryz.prog) (cMb fun n s => !(Nat.beq n 63 && Nat.beq s 12)) Tryz.f73 80 [.v (.fl (q12 x))] = some ([wv x.1.1.1 < FP.M, wv x.1.1.2 < FP.M, wv x.2.1.1 < FP.M, wv x.2.1.2 < FP.M, wv x.1.2.1.1 < FP.M, wv x.1.2.1.2 < FP.M, wv x.2.2.1.1 < FP.M, wv x.2.2.1.2 < FP.M, wv x.1.2.2.1 < FP.M, wv x.1.2.2.2 < FP.M, ¬ wv x.2.2.2.1 < FP.M], .one (.im (.bool false))) := by kernel_rfl
set_option maxRecDepth 100000 in
theorem run_mb11 (x : N12) : funB Tryz.prog (qG Tryz.prog) (cMb fun n s => !(Nat.beq n 63 && Nat.beq s 17)) Tryz.f73 80 [.v (.fl (q12 x))] = some ([wv x.1.1.1 < FP.M, wv x.1.1.2 < FP.M, wv x.2.1.1 < FP.M, wv x.2.1.2 < FP.M, wv x.1.2.1.1 < FP.M, wv x.1.2.1.2 < FP.M, wv x.2.2.1.1 < FP.M, wv x.2.2.1.2 < FP.M, wv x.1.2.2.1 < FP.M, wv x.1.2.2.2 < FP.M, wv x.2.2.2.1 < FP.M, ¬ wv x.2.2.2.2 < FP.M], .one (.im (.bool false))) := by kernel_rfl
theorem mb_f (x : N12) (h : ¬ allB x) (args : List Value) (w : World) (ha : CAs w [.v (.fl (q12 x))] args) : Good Tryz.prog 73 (.one (.im (.bool false))) args w := by
  by_cases h0 : wv x.1.1.1 < FP.M
  rotate_left
  · exact funB_sound hmix (cMb_ok _) (qG_ok _) Tryz.func73 (run_mb0 x) ⟨h0, trivial⟩ ha
  by_cases h1 : wv x.1.1.2 < FP.M
  rotate_left
  · exact funB_sound hmix (cMb_ok _) (qG_ok _) Tryz.func73 (run_mb1 x) ⟨h0, h1, trivial⟩ ha
  by_cases h2 : wv x.2.1.1 < FP.M
  rotate_left
  · exact funB_sound hmix (cMb_ok _) (qG_ok _) Tryz.func73 (run_mb2 x) ⟨h0, h1, h2, trivial⟩ ha
  by_cases h3 : wv x.2.1.2 < FP.M
  rotate_left
  · exact funB_sound hmix (cMb_ok _) (qG_ok _) Tryz.func73 (run_mb3 x) ⟨h0, h1, h2, h3, trivial⟩ ha
  by_cases h4 : wv x.1.2.1.1 < FP.M
  rotate_left
  · exact funB_sound hmix (cMb_ok _) (qG_ok _) Tryz.func73 (run_mb4 x) ⟨h0, h1, h2, h3, h4, trivial⟩ ha
  by_cases h5 : wv x.1.2.1.2 < FP.M
  rotate_left
  · exact funB_sound hmix (cMb_ok _) (qG_ok _) Tryz.func73 (run_mb5 x) ⟨h0, h1, h2, h3, h4, h5, trivial⟩ ha
  by_cases h6 : wv x.2.2.1.1 < FP.M
  rotate_left
  · exact funB_sound hmix (cMb_ok _) (qG_ok _) Tryz.func73 (run_mb6 x) ⟨h0, h1, h2, h3, h4, h5, h6, trivial⟩ ha
  by_cases h7 : wv x.2.2.1.2 < FP.M
  rotate_left
  · exact funB_sound hmix (cMb_ok _) (qG_ok _) Tryz.func73 (run_mb7 x) ⟨h0, h1, h2, h3, h4, h5, h6, h7, trivial⟩ ha
  by_cases h8 : wv x.1.2.2.1 < FP.M
  rotate_left
  · exact funB_sound hmix (cMb_ok _) (qG_ok _) Tryz.func73 (run_mb8 x) ⟨h0, h1, h2, h3, h4, h5, h6, h7, h8, trivial⟩ ha
  by_cases h9 : wv x.1.2.2.2 < FP.M
  rotate_left
  · exact funB_sound hmix (cMb_ok _) (qG_ok _) Tryz.func73 (run_mb9 x) ⟨h0, h1, h2, h3, h4, h5, h6, h7, h8, h9, trivial⟩ ha
  by_cases h10 : wv x.2.2.2.1 < FP.M
  rotate_left
  · exact funB_sound hmix (cMb_ok _) (qG_ok _) Tryz.func73 (run_mb10 x) ⟨h0, h1, h2, h3, h4, h5, h6, h7, h8, h9, h10, trivial⟩ ha
  by_cases h11 : wv x.2.2.2.2 < FP.M
  rotate_left
  · exact funB_sound hmix (cMb_ok _) (qG_ok _) Tryz.func73 (run_mb11 x) ⟨h0, h1, h2, h3, h4, h5, h6, h7, h8, h9, h10, h11, trivial⟩ ha
  refine absurd (fun n hn => ?_) h
  simp only [insN, List.mem_cons, List.not_mem_nil, or_false] at hn
  rcases hn with rfl | rfl | rfl | rfl | rfl | rfl | rfl | rfl | rfl | rfl | rfl | rfl
  all_goals assumption
noncomputable def oMb (c : Bool) (x : N12) : List Prop × RV := bif c then ([allB x], .one (.im (.bool true))) else ([¬ allB x], .one (.im (.bool false)))
theorem oMb_ok (c : Bool) (x : N12) (hp : allP (oMb c x).1) (args : List Value) (w : World) (ha : CAs w [.v (.fl (q12 x))] args) : Good Tryz.prog 73 (oMb c x).2 args w := by
  cases c
  · exact mb_f x hp.1 args w ha
  · have h : allB x := hp.1
    exact funB_sound hmix (cMb_ok _) (qG_ok _) Tryz.func73 (run_mb x) ⟨h _ (by simp [insN]), h _ (by simp [insN]), h _ (by simp [insN]), h _ (by simp [insN]), h _ (by simp [insN]), h _ (by simp [insN]), h _ (by simp [insN]), h _ (by simp [insN]), h _ (by simp [insN]), h _ (by simp [insN]), h _ (by simp [insN]), h _ (by simp [insN]), trivial⟩ ha
theorem allB_nv (z : Q12) : allB (nv12 z) := fun n hn => by
  have hv : ∀ q : Fq, wv q.1 < FP.M := fun q => by unfold wv; rw [fw_valp q.2]; exact q.2
  simp only [insN, List.mem_cons, List.not_mem_nil, or_false] at hn
  rcases hn with rfl | rfl | rfl | rfl | rfl | rfl | rfl | rfl | rfl | rfl | rfl | rfl
  all_goals exact hv _
noncomputable def T_fi (c : Bool) : Tab := T_la.add 73 (g1 rq12 (oMb c))
theorem ok_fi (c : Bool) : TabOk Tryz.prog (T_fi c) := ok_la.add Tryz.func73 (by kernel_rfl) (by kernel_rfl) (g1_ok rq12_ok (oMb_ok c))
set_option maxRecDepth 100000 in
theorem run_Final_a (x : N12) : funA Tryz.prog (T_fi false) (qG Tryz.prog) (fun _ => true) Tryz.f31 60 [.v (.fl (q12 x))] = some ([¬ allB x], .many [.fl (e12 F12.zero), .im (.int .i64 21)]) := by kernel_rfl
set_option maxRecDepth 100000 in
theorem run_Final_b (x : N12) : funA Tryz.prog (T_fi true) (qG Tryz.prog) (fun _ => true) Tryz.f31 60 [.v (.fl (q12 x))] = some ([allB x, flat (q12 x) = flat (e12 F12.zero)], .many [.fl (e12 F12.zero), .im (.int .i64 22)]) := by kernel_rfl
set_option maxRecDepth 100000 in
theorem run_Final_c (x : N12) : funA Tryz.prog (T_fi true) (qG Tryz.prog) (fun _ => false) Tryz.f31 60 [.v (.fl (q12 x))] = some ([allB x, flat (q12 x) ≠ flat (e12 F12.zero), nu12 (m12 x) ≠ F1.zero], .many [.fl (e12 (lst (m12 x))), .im (.int .i64 0)]) := by kernel_rfl
noncomputable def T_rO : Tab := (((T_sq.add 75 (g0 (.one (.fl [.f s6F])))).add 76 (g0 (.one (.fl [.f sdF])))).add 74 gRai).add 73 (g1 rq12 (oMb true))
theorem ok_rO : TabOk Tryz.prog T_rO := (((ok_sq.add Tryz.func75 (by kernel_rfl) (by kernel_rfl) (g0_ok fun w => fun_sound hmix ok_sq qN_ok Tryz.func75 run_six trivial (args := []) trivial)).add Tryz.func76 (by kernel_rfl) (by kernel_rfl) (g0_ok fun w => fun_sound hmix ok_sq qN_ok Tryz.func76 run_seed trivial (args := []) trivial)).add Tryz.func74 (by kernel_rfl) (by kernel_rfl) gRai_ok).add Tryz.func73 (by kernel_rfl) (by kernel_rfl) (g1_ok rq12_ok (oMb_ok true))
/-- InGroup of 0, and of what the last power answers -/
noncomputable def cIg (c : Bool) : Nat → Cfg := fun _ => ⟨fun s => bif Nat.beq s 7 then T_InCyclo c else T_rO, fun _ => true, fun _ => none⟩
theorem cIg_ok (c : Bool) : ∀ n d, TabOk Tryz.prog ((cIg c n).T d) := fun n d => by
  show TabOk _ (bif Nat.beq d 7 then T_InCyclo c else _)
  cases Nat.beq d 7
  · exact ok_rO
  · exact ok_InCyclo c
set_option maxRecDepth 100000 in
theorem run_ig_f (z : Q12) : funB Tryz.prog (qG Tryz.prog) (cIg false) Tryz.f32 60 [.v (.fl (e12 z))] = some ([allB (nv12 z), ¬ inC z], .one (.im (.bool false))) := by kernel_rfl
set_option maxRecDepth 100000 in
theorem run_ig_t (z : Q12) : funB Tryz.prog (qG Tryz.prog) (cIg true) Tryz.f32 60 [.v (.fl (e12 z))] = some ([allB (nv12 z), inC z, inC z, inC (o6 z), flat (e12 (ox (o6 z))) = flat (e12 (it12 (rest12N 1).toNat z))], .one (.im (.bool true))) := by kernel_rfl
def gGood (z : Q12) : Prop := inC z ∧ pwK F12 z Go.Proofs.YtaingnhikbaplaaGreat.FR.M = F12.one
noncomputable def oIg (c : Bool) (z : Q12) : List Prop × RV := bif c then ([gGood z], .one (.im (.bool true))) else ([¬ inC z], .one (.im (.bool false)))
theorem oIg_ok (c : Bool) (z : Q12) (hp : allP (oIg c z).1) (args : List Value) (w : World) (ha : CAs w [.v (.fl (e12 z))] args) : Good Tryz.prog 32 (oIg c z).2 args w := by
  cases c
  · exact funB_sound hmix (cIg_ok false) (qG_ok _) Tryz.func32 (run_ig_f z) ⟨allB_nv z, hp.1, trivial⟩ ha
  · obtain ⟨h1, h2⟩ : gGood z := hp.1
    refine funB_sound hmix (cIg_ok true) (qG_ok _) Tryz.func32 (run_ig_t z) ⟨allB_nv z, h1, h1, by rw [o6_eq]; exact inC_pw h1 _, ?_, trivial⟩ ha
    rw [ox_eq, o6_eq, pw_g h2, show (rest12N 1).toNat = 1 by decide, it_is1]
end Go.Proofs.YtaingnhikbaplaaGreat.Ex
namespace Go.Proofs.YtaingnhikbaplaaGreat.Ex
set_option linter.unusedVariables false
set_option linter.unusedSimpArgs false
open Go.RowKit

/-- d: is it below p? -/
def gBlP (d : Bool) : Ent
  | [.v (.im (.int .i64 (.ofNat 1))), .v (.fl l)] => match rq1 l with
    | some n => bif d then some ([wv n < FP.M], .one (.im (.bool true))) else some ([¬ wv n < FP.M], .one (.im (.bool false)))
    | none => none
  | _ => none
theorem gBlP_ok (d : Bool) : ∀ cs pre r, gBlP d cs = some (pre, r) → allP pre → ∀ (args : List Value) (w : World), CAs w cs args → Good Tryz.prog 106 r args w := by
  intro cs pre r hg hp args w ha
  unfold gBlP at hg
  split at hg
  · rename_i l
    split at hg
    · rename_i n hn
      match args, ha with
      | [v, u], ha =>
        have h1 : v = .int .i64 1 := ha.1
        have h2 : u = .agg (flat l).toArray := ha.2.1
        rw [rq1_ok l _ hn] at h2
        subst h1; subst h2
        have h := rbelow_calls 1 FP (Or.inl ⟨rfl, rfl⟩) _ _ _ _ (fw_ok n) w
        cases d
        · cases hg
          have e : isB (wv n) FP.M = false := decide_eq_false hp.1
          exact h.mono fun e' w' ⟨h3, h4⟩ => ⟨by rw [h3]; exact congrArg (fun b => Ending.returned (.bool b)) e, h4⟩
        · cases hg
          have e : isB (wv n) FP.M = true := decide_eq_true hp.1
          exact h.mono fun e' w' ⟨h3, h4⟩ => ⟨by rw [h3]; exact congrArg (fun b => Ending.returned (.bool b)) e, h4⟩
      | [], ha => exact ha.elim
      | [_], ha => exact ha.2.elim
      | _ :: _ :: _ :: _, ha => exact ha.2.2.elim
    · cases hg
  · cases hg
def T_bl (d : Bool) : Tab := T0.add 106 (gBlP d)
theorem ok_bl (d : Bool) : TabOk Tryz.prog (T_bl d) := (T0_ok _).add Tryz.func106 (by kernel_rfl) (by kernel_rfl) (gBlP_ok d)
def B2P (x : N2) : Prop := wv x.1 < FP.M ∧ wv x.2 < FP.M
def B6P (x : N6) : Prop := B2P x.1 ∧ B2P x.2.1 ∧ B2P x.2.2
def B12P (x : N12) : Prop := B6P x.1 ∧ B6P x.2
def cS (T : Bool → Tab) (f : Nat → Bool) : Nat → Cfg := fun _ => ⟨fun s => T (f s), fun _ => true, fun _ => none⟩
def oP {α : Type} (P : α → Prop) (c : Bool) (x : α) : List Prop × RV := bif c then ([P x], .one (.im (.bool true))) else ([¬ P x], .one (.im (.bool false)))
set_option maxRecDepth 100000 in
theorem run_bl2_t (x : N2) : funB Tryz.prog (qG Tryz.prog) (cS T_bl fun _ => true) Tryz.f211 60 [.v (.fl (q2 x))] = some ([wv x.1 < FP.M, wv x.2 < FP.M], .one (.im (.bool true))) := by kernel_rfl
set_option maxRecDepth 100000 in
theorem run_bl2_0 (x : N2) : funB Tryz.prog (qG Tryz.prog) (cS T_bl fun s => !(Nat.beq s 5)) Tryz.f211 60 [.v (.fl (q2 x))] = some ([¬ wv x.1 < FP.M], .one (.im (.bool false))) := by kernel_rfl
set_option maxRecDepth 100000 in
theorem run_bl2_1 (x : N2) : funB Tryz.prog (qG Tryz.prog) (cS T_bl fun s => !(Nat.beq s 9)) Tryz.f211 60 [.v (.fl (q2 x))] = some ([wv x.1 < FP.M, ¬ wv x.2 < FP.M], .one (.im (.bool false))) := by kernel_rfl
theorem obl2_ok (c : Bool) (x : N2) (hp : allP (oP B2P c x).1) (args : List Value) (w : World) (ha : CAs w [.v (.fl (q2 x))] args) : Good Tryz.prog 211 (oP B2P c x).2 args w := by
  cases c
  · have h : ¬ B2P x := hp.1
    by_cases h0 : wv x.1 < FP.M
    rotate_left
    · exact funB_sound hmix (fun _ s => ok_bl _) (qG_ok _) Tryz.func211 (run_bl2_0 x) ⟨h0, trivial⟩ ha
    by_cases h1 : wv x.2 < FP.M
    rotate_left
    · exact funB_sound hmix (fun _ s => ok_bl _) (qG_ok _) Tryz.func211 (run_bl2_1 x) ⟨h0, h1, trivial⟩ ha
    exact absurd ⟨h0, h1⟩ h
  · have h : B2P x := hp.1
    exact funB_sound hmix (fun _ s => ok_bl _) (qG_ok _) Tryz.func211 (run_bl2_t x) ⟨h.1, h.2, trivial⟩ ha
def T_bl2 (c : Bool) : Tab := T0.add 211 (g1 rq2 (oP B2P c))
theorem ok_bl2 (c : Bool) : TabOk Tryz.prog (T_bl2 c) := (T0_ok _).add Tryz.func211 (by kernel_rfl) (by kernel_rfl) (g1_ok rq2_ok (obl2_ok c))
set_option maxRecDepth 100000 in
theorem run_bl6_t (x : N6) : funB Tryz.prog (qG Tryz.prog) (cS T_bl2 fun _ => true) Tryz.f134 60 [.v (.fl (q6 x))] = some ([B2P x.1, B2P x.2.1, B2P x.2.2], .one (.im (.bool true))) := by kernel_rfl
set_option maxRecDepth 100000 in
theorem run_bl6_0 (x : N6) : funB Tryz.prog (qG Tryz.prog) (cS T_bl2 fun s => !(Nat.beq s 5)) Tryz.f134 60 [.v (.fl (q6 x))] = some ([¬ B2P x.1], .one (.im (.bool false))) := by kernel_rfl
set_option maxRecDepth 100000 in
theorem run_bl6_1 (x : N6) : funB Tryz.prog (qG Tryz.prog) (cS T_bl2 fun s => !(Nat.beq s 9)) Tryz.f134 60 [.v (.fl (q6 x))] = some ([B2P x.1, ¬ B2P x.2.1], .one (.im (.bool false))) := by kernel_rfl
set_option maxRecDepth 100000 in
theorem run_bl6_2 (x : N6) : funB Tryz.prog (qG Tryz.prog) (cS T_bl2 fun s => !(Nat.beq s 14)) Tryz.f134 60 [.v (.fl (q6 x))] = some ([B2P x.1, B2P x.2.1, ¬ B2P x.2.2], .one (.im (.bool false))) := by kernel_rfl
theorem obl6_ok (c : Bool) (x : N6) (hp : allP (oP B6P c x).1) (args : List Value) (w : World) (ha : CAs w [.v (.fl (q6 x))] args) : Good Tryz.prog 134 (oP B6P c x).2 args w := by
  cases c
  · have h : ¬ B6P x := hp.1
    by_cases h0 : B2P x.1
    rotate_left
    · exact funB_sound hmix (fun _ s => ok_bl2 _) (qG_ok _) Tryz.func134 (run_bl6_0 x) ⟨h0, trivial⟩ ha
    by_cases h1 : B2P x.2.1
    rotate_left
    · exact funB_sound hmix (fun _ s => ok_bl2 _) (qG_ok _) Tryz.func134 (run_bl6_1 x) ⟨h0, h1, trivial⟩ ha
    by_cases h2 : B2P x.2.2
    rotate_left
    · exact funB_sound hmix (fun _ s => ok_bl2 _) (qG_ok _) Tryz.func134 (run_bl6_2 x) ⟨h0, h1, h2, trivial⟩ ha
    exact absurd ⟨h0, h1, h2⟩ h
  · have h : B6P x := hp.1
    exact funB_sound hmix (fun _ s => ok_bl2 _) (qG_ok _) Tryz.func134 (run_bl6_t x) ⟨h.1, h.2.1, h.2.2, trivial⟩ ha
def T_bl6 (c : Bool) : Tab := T0.add 134 (g1 rq6 (oP B6P c))
theorem ok_bl6 (c : Bool) : TabOk Tryz.prog (T_bl6 c) := (T0_ok _).add Tryz.func134 (by kernel_rfl) (by kernel_rfl) (g1_ok rq6_ok (obl6_ok c))
set_option maxRecDepth 100000 in
theorem run_blw_t (x : N12) : funB Tryz.prog (qG Tryz.prog) (cS T_bl6 fun _ => true) Tryz.f72 60 [.v (.fl (q12 x))] = some ([B6P x.1, B6P x.2], .one (.im (.bool true))) := by kernel_rfl
set_option maxRecDepth 100000 in
theorem run_blw_0 (x : N12) : funB Tryz.prog (qG Tryz.prog) (cS T_bl6 fun s => !(Nat.beq s 5)) Tryz.f72 60 [.v (.fl (q12 x))] = some ([¬ B6P x.1], .one (.im (.bool false))) := by kernel_rfl
set_option maxRecDepth 100000 in
theorem run_blw_1 (x : N12) : funB Tryz.prog (qG Tryz.prog) (cS T_bl6 fun s => !(Nat.beq s 9)) Tryz.f72 60 [.v (.fl (q12 x))] = some ([B6P x.1, ¬ B6P x.2], .one (.im (.bool false))) := by kernel_rfl
theorem oblw_ok (c : Bool) (x : N12) (hp : allP (oP B12P c x).1) (args : List Value) (w : World) (ha : CAs w [.v (.fl (q12 x))] args) : Good Tryz.prog 72 (oP B12P c x).2 args w := by
  cases c
  · have h : ¬ B12P x := hp.1
    by_cases h0 : B6P x.1
    rotate_left
    · exact funB_sound hmix (fun _ s => ok_bl6 _) (qG_ok _) Tryz.func72 (run_blw_0 x) ⟨h0, trivial⟩ ha
    by_cases h1 : B6P x.2
    rotate_left
    · exact funB_sound hmix (fun _ s => ok_bl6 _) (qG_ok _) Tryz.func72 (run_blw_1 x) ⟨h0, h1, trivial⟩ ha
    exact absurd ⟨h0, h1⟩ h
  · have h : B12P x := hp.1
    exact funB_sound hmix (fun _ s => ok_bl6 _) (qG_ok _) Tryz.func72 (run_blw_t x) ⟨h.1, h.2, trivial⟩ ha
theorem allB_iff (x : N12) : allB x ↔ B12P x := by
  constructor
  · intro h
    exact ⟨⟨⟨h _ (by simp [insN]), h _ (by simp [insN])⟩, ⟨h _ (by simp [insN]), h _ (by simp [insN])⟩, h _ (by simp [insN]), h _ (by simp [insN])⟩, ⟨h _ (by simp [insN]), h _ (by simp [insN])⟩, ⟨h _ (by simp [insN]), h _ (by simp [insN])⟩, h _ (by simp [insN]), h _ (by simp [insN])⟩
  · rintro ⟨⟨⟨h1, h2⟩, ⟨h3, h4⟩, h5, h6⟩, ⟨h7, h8⟩, ⟨h9, h10⟩, h11, h12⟩ n hn
    simp only [insN, List.mem_cons, List.not_mem_nil, or_false] at hn
    rcases hn with rfl | rfl | rfl | rfl | rfl | rfl | rfl | rfl | rfl | rfl | rfl | rfl
    all_goals assumption
def orF : Fq := ⟨Go.Proofs.YtaingnhikbaplaaGreat.FR.M, by decide +kernel⟩
set_option maxRecDepth 100000 in
theorem run_mod2 : funA Tryz.prog T0 qN (fun _ => true) Tryz.f143 60 [.v (.im (.int .i64 2))] = some ([], .one (.fl [.f orF])) := by kernel_rfl
def gMod2 : Ent
  | [.v (.im (.int .i64 (.ofNat 2)))] => some ([], .one (.fl [.f orF]))
  | _ => none
theorem gMod2_ok : ∀ cs pre r, gMod2 cs = some (pre, r) → allP pre → ∀ (args : List Value) (w : World), CAs w cs args → Good Tryz.prog 143 r args w := by
  intro cs pre r hg hp args w ha
  unfold gMod2 at hg
  split at hg
  · cases hg
    exact fun_sound hmix (T0_ok _) qN_ok Tryz.func143 run_mod2 trivial ha
  · cases hg
def T_md : Tab := T0.add 143 gMod2
theorem ok_md : TabOk Tryz.prog T_md := (T0_ok _).add Tryz.func143 (by kernel_rfl) (by kernel_rfl) gMod2_ok
set_option maxRecDepth 100000 in
theorem run_order : funA Tryz.prog T_md qN (fun _ => true) Tryz.f79 60 [] = some ([], .one (.fl [.f orF])) := by kernel_rfl
/-- the reference's InGroup: of what lies below p -/
noncomputable def T_rg : Tab := ((T_rExp12 true).add 72 (g1 rq12 (oP B12P true))).add 79 (g0 (.one (.fl [.f orF])))
theorem ok_rg : TabOk Tryz.prog T_rg := ((ok_rExp12 true).add Tryz.func72 (by kernel_rfl) (by kernel_rfl) (g1_ok rq12_ok (oblw_ok true))).add Tryz.func79 (by kernel_rfl) (by kernel_rfl) (g0_ok fun w => fun_sound hmix ok_md qN_ok Tryz.func79 run_order trivial (args := []) trivial)
set_option maxRecDepth 100000 in
theorem run_rig (z : Q12) : funB Tryz.prog (qG Tryz.prog) (fun _ => ⟨fun _ => T_rg, fun _ => true, fun _ => none⟩) Tryz.f33 60 [.v (.fl (e12 z))] = some ([B12P (nv12 z), flat (e12 (pwK F12 z (wv orF.1))) = flat (e12 F12.one)], .one (.im (.bool true))) := by kernel_rfl
theorem wv_or : wv orF.1 = Go.Proofs.YtaingnhikbaplaaGreat.FR.M := by unfold wv; rw [fw_valp orF.2]; rfl
theorem rig_ok (z : Q12) (h : gGood z) (args : List Value) (w : World) (ha : CAs w [.v (.fl (e12 z))] args) : Good Tryz.prog 33 (.one (.im (.bool true))) args w :=
  funB_sound hmix (fun _ _ => ok_rg) (qG_ok _) Tryz.func33 (run_rig z) ⟨(allB_iff _).1 (allB_nv z), by rw [wv_or, h.2], trivial⟩ ha
def T_rf (c : Bool) : Tab := T0.add 72 (g1 rq12 (oP B12P c))
theorem ok_rf (c : Bool) : TabOk Tryz.prog (T_rf c) := (T0_ok _).add Tryz.func72 (by kernel_rfl) (by kernel_rfl) (g1_ok rq12_ok (oblw_ok c))
set_option maxRecDepth 100000 in
theorem run_rFinal_a (x : N12) : funA Tryz.prog (T_rf false) (qG Tryz.prog) (fun _ => true) Tryz.f30 60 [.v (.fl (q12 x))] = some ([¬ B12P x], .one (.im (.int .i64 21))) := by kernel_rfl
set_option maxRecDepth 100000 in
theorem run_rFinal_b (x : N12) : funA Tryz.prog (T_rf true) (qG Tryz.prog) (fun _ => true) Tryz.f30 60 [.v (.fl (q12 x))] = some ([B12P x, flat (q12 x) = flat (e12 F12.zero)], .one (.im (.int .i64 22))) := by kernel_rfl
set_option maxRecDepth 100000 in
theorem run_rFinal_c (x : N12) : funA Tryz.prog (T_rf true) (qG Tryz.prog) (fun _ => false) Tryz.f30 60 [.v (.fl (q12 x))] = some ([B12P x, flat (q12 x) ≠ flat (e12 F12.zero)], .one (.im (.int .i64 0))) := by kernel_rfl
/-- how Final comes out -/
inductive Fk | a | b | c
noncomputable def FkP (x : N12) : Fk → Prop
  | .a => ¬ allB x
  | .b => allB x ∧ flat (q12 x) = flat (e12 F12.zero)
  | .c => allB x ∧ flat (q12 x) ≠ flat (e12 F12.zero)
def FkE : Fk → Int | .a => 21 | .b => 22 | .c => 0
noncomputable def FkV (x : N12) : Fk → Q12 | .c => lst (m12 x) | _ => F12.zero
theorem Fk_ex (x : N12) : ∃ k, FkP x k := by
  by_cases h : allB x
  · by_cases h2 : flat (q12 x) = flat (e12 F12.zero)
    · exact ⟨.b, h, h2⟩
    · exact ⟨.c, h, h2⟩
  · exact ⟨.a, h⟩
/-- of numbers below p: they are 0 if the element is -/
theorem q12_zero {x : N12} (h : allB x) (hz : m12 x = F12.zero) : flat (q12 x) = flat (e12 F12.zero) := by
  have e : ∀ n, wv n < FP.M → m1 n = F1.zero → w4 n = w4 0 := fun n hn h1 => by
    have h2 : wv n = 0 := by
      have := congrArg Fin.val h1
      have h3 : (m1 n).1 = wv n % FP.M := rfl
      rw [h3, Nat.mod_eq_of_lt hn] at this
      exact this
    unfold wv val4 at h2
    have k0 : fw n 0 = 0 := by omega
    have k1 : fw n 1 = 0 := by omega
    have k2 : fw n 2 = 0 := by omega
    have k3 : fw n 3 = 0 := by omega
    unfold w4
    rw [k0, k1, k2, k3]
    rfl
  have c0 : w4 x.1.1.1 = w4 0 := e _ (h _ (by simp [insN])) (congrArg (fun t : Q12 => t.1.1.1) hz)
  have c1 : w4 x.1.1.2 = w4 0 := e _ (h _ (by simp [insN])) (congrArg (fun t : Q12 => t.1.1.2) hz)
  have c2 : w4 x.1.2.1.1 = w4 0 := e _ (h _ (by simp [insN])) (congrArg (fun t : Q12 => t.1.2.1.1) hz)
  have c3 : w4 x.1.2.1.2 = w4 0 := e _ (h _ (by simp [insN])) (congrArg (fun t : Q12 => t.1.2.1.2) hz)
  have c4 : w4 x.1.2.2.1 = w4 0 := e _ (h _ (by simp [insN])) (congrArg (fun t : Q12 => t.1.2.2.1) hz)
  have c5 : w4 x.1.2.2.2 = w4 0 := e _ (h _ (by simp [insN])) (congrArg (fun t : Q12 => t.1.2.2.2) hz)
  have c6 : w4 x.2.1.1 = w4 0 := e _ (h _ (by simp [insN])) (congrArg (fun t : Q12 => t.2.1.1) hz)
  have c7 : w4 x.2.1.2 = w4 0 := e _ (h _ (by simp [insN])) (congrArg (fun t : Q12 => t.2.1.2) hz)
  have c8 : w4 x.2.2.1.1 = w4 0 := e _ (h _ (by simp [insN])) (congrArg (fun t : Q12 => t.2.2.1.1) hz)
  have c9 : w4 x.2.2.1.2 = w4 0 := e _ (h _ (by simp [insN])) (congrArg (fun t : Q12 => t.2.2.1.2) hz)
  have c10 : w4 x.2.2.2.1 = w4 0 := e _ (h _ (by simp [insN])) (congrArg (fun t : Q12 => t.2.2.2.1) hz)
  have c11 : w4 x.2.2.2.2 = w4 0 := e _ (h _ (by simp [insN])) (congrArg (fun t : Q12 => t.2.2.2.2) hz)
  show w4 x.1.1.1 ++ (w4 x.1.1.2 ++ (w4 x.1.2.1.1 ++ (w4 x.1.2.1.2 ++ (w4 x.1.2.2.1 ++ (w4 x.1.2.2.2 ++ (w4 x.2.1.1 ++ (w4 x.2.1.2 ++ (w4 x.2.2.1.1 ++ (w4 x.2.2.1.2 ++ (w4 x.2.2.2.1 ++ (w4 x.2.2.2.2 ++ []))))))))))) = _
  rw [c0, c1, c2, c3, c4, c5, c6, c7, c8, c9, c10, c11]
  rfl
set_option maxRecDepth 100000 in
theorem run_num (n : Int) : funA Tryz.prog T0 qN (fun _ => true) Tryz.f27 40 [.v (.im (.int .i64 n))] = some ([], .one (.im (.int .i64 n))) := by kernel_rfl
def gNum6 : Ent
  | [.v (.im (.int .i64 n))] => some ([], .one (.im (.int .i64 n)))
  | _ => none
theorem gNum6_ok : ∀ cs pre r, gNum6 cs = some (pre, r) → allP pre → ∀ (args : List Value) (w : World), CAs w cs args → Good Tryz.prog 27 r args w := by
  intro cs pre r hg hp args w ha
  unfold gNum6 at hg
  split at hg
  · cases hg
    exact fun_sound hmix (T0_ok _) qN_ok Tryz.func27 (run_num _) trivial ha
  · cases hg
theorem rFinal_ok (x : N12) (k : Fk) (h : FkP x k) (args : List Value) (w : World) (ha : CAs w [.v (.fl (q12 x))] args) : Good Tryz.prog 30 (.one (.im (.int .i64 (FkE k)))) args w := by
  cases k
  · exact fun_sound hmix (ok_rf false) (qG_ok _) Tryz.func30 (run_rFinal_a x) ⟨fun q => h ((allB_iff x).2 q), trivial⟩ ha
  · exact fun_sound hmix (ok_rf true) (qG_ok _) Tryz.func30 (run_rFinal_b x) ⟨(allB_iff x).1 h.1, h.2, trivial⟩ ha
  · exact fun_sound hmix (ok_rf true) (qG_ok _) Tryz.func30 (run_rFinal_c x) ⟨(allB_iff x).1 h.1, h.2, trivial⟩ ha
theorem pFinal_ok (x : N12) (k : Fk) (h : FkP x k) (args : List Value) (w : World) (ha : CAs w [.v (.fl (q12 x))] args) : Good Tryz.prog 31 (.many [.fl (e12 (FkV x k)), .im (.int .i64 (FkE k))]) args w := by
  cases k
  · exact fun_sound hmix (ok_fi false) (qG_ok _) Tryz.func31 (run_Final_a x) ⟨h, trivial⟩ ha
  · exact fun_sound hmix (ok_fi true) (qG_ok _) Tryz.func31 (run_Final_b x) ⟨h.1, h.2, trivial⟩ ha
  · exact fun_sound hmix (ok_fi true) (qG_ok _) Tryz.func31 (run_Final_c x) ⟨h.1, h.2, fun e => h.2 (q12_zero h.1 (nu12_zero e)), trivial⟩ ha
theorem lst_good {x : N12} (h : FkP x .c) : gGood (lst (m12 x)) := by
  have hn : nu12 (m12 x) ≠ F1.zero := fun e => h.2 (q12_zero h.1 (nu12_zero e))
  exact ⟨hX_in (eZ_in hn), hX_r (eZ_in hn)⟩
/-- the law's table: k tells how Final comes out; c: what InGroup answers -/
noncomputable def T_pf (k : Fk) (c : Bool) : Tab := ((((T0.add 27 gNum6).add 30 (g1 rq12 fun x => ([FkP x k], .one (.im (.int .i64 (FkE k)))))).add 31 (g1 rq12 fun x => ([FkP x k], .many [.fl (e12 (FkV x k)), .im (.int .i64 (FkE k))]))).add 32 (g1 rd12 (oIg c))).add 33 (g1 rd12 fun z => ([gGood z], .one (.im (.bool true))))
theorem ok_pf (k : Fk) (c : Bool) : TabOk Tryz.prog (T_pf k c) := (((((T0_ok _).add Tryz.func27 (by kernel_rfl) (by kernel_rfl) gNum6_ok).add Tryz.func30 (by kernel_rfl) (by kernel_rfl) (g1_ok (op := fun x => ([FkP x k], .one (.im (.int .i64 (FkE k))))) rq12_ok fun x hp args w ha => rFinal_ok x k hp.1 args w ha)).add Tryz.func31 (by kernel_rfl) (by kernel_rfl) (g1_ok (op := fun x => ([FkP x k], .many [.fl (e12 (FkV x k)), .im (.int .i64 (FkE k))])) rq12_ok fun x hp args w ha => pFinal_ok x k hp.1 args w ha)).add Tryz.func32 (by kernel_rfl) (by kernel_rfl) (g1_ok (op := oIg c) rd12_ok fun z hp args w ha => oIg_ok c z hp args w ha)).add Tryz.func33 (by kernel_rfl) (by kernel_rfl) (g1_ok (op := fun z => ([gGood z], .one (.im (.bool true)))) rd12_ok fun z hp args w ha => rig_ok z hp.1 args w ha)
set_option maxRecDepth 100000 in
theorem run_pf_a (x : N12) : funA Tryz.prog (T_pf .a false) (qG Tryz.prog) (fun _ => true) Tryz.f7 60 [.v (.fl (q12 x))] = some ([FkP x .a, FkP x .a, flat (e12 (FkV x .a)) = flat (e12 F12.zero), ¬ inC F12.zero], .one (.im (.bool true))) := by kernel_rfl
set_option maxRecDepth 100000 in
theorem run_pf_b (x : N12) : funA Tryz.prog (T_pf .b false) (qG Tryz.prog) (fun _ => true) Tryz.f7 60 [.v (.fl (q12 x))] = some ([FkP x .b, FkP x .b, flat (e12 (FkV x .b)) = flat (e12 F12.zero), ¬ inC F12.zero], .one (.im (.bool true))) := by kernel_rfl
set_option maxRecDepth 100000 in
theorem run_pf_c (x : N12) : funA Tryz.prog (T_pf .c true) (qG Tryz.prog) (fun _ => true) Tryz.f7 60 [.v (.fl (q12 x))] = some ([FkP x .c, FkP x .c, gGood (FkV x .c), gGood (FkV x .c)], .one (.im (.bool true))) := by kernel_rfl
theorem pf_calls (x : N12) (w : World) : Calls Tryz.prog 7 #[.agg (flat (q12 x)).toArray] w (fun e w' => e = .returned (.bool true) ∧ Below w.heap.size w w') := by
  have ha : CAs w [.v (.fl (q12 x))] [.agg (flat (q12 x)).toArray] := ⟨rfl, trivial⟩
  obtain ⟨k, hk⟩ := Fk_ex x
  cases k
  · exact fun_sound hmix (ok_pf .a false) (qG_ok _) Tryz.func7 (run_pf_a x) ⟨hk, hk, rfl, fun h => h.1 rfl, trivial⟩ ha
  · exact fun_sound hmix (ok_pf .b false) (qG_ok _) Tryz.func7 (run_pf_b x) ⟨hk, hk, rfl, fun h => h.1 rfl, trivial⟩ ha
  · exact fun_sound hmix (ok_pf .c true) (qG_ok _) Tryz.func7 (run_pf_c x) ⟨hk, hk, lst_good hk, lst_good hk, trivial⟩ ha
end Go.Proofs.YtaingnhikbaplaaGreat.Ex
namespace Go.Proofs.YtaingnhikbaplaaGreat
set_option linter.unusedVariables false
open Go.ChangeShapes Go.WideShapes Go.ChangeAt Go.RowKit

theorem own : ownKnob Tryz.prog.godebug = none := by kernel_rfl
theorem laidOut : laidOutB Tryz.prog = true := by kernel_rfl

theorem u64_cells : Tryz.prog.cellsOf 22 = 1 := by kernel_rfl
theorem list4 {α : Type} (l : List α) (h : (⟨l⟩ : Array α).size = 4) : ∃ a b c d, l = [a, b, c, d] := by
  match l, h with
  | [a, b, c, d], _ => exact ⟨a, b, c, d, rfl⟩

theorem nat_of_wf {n : Int} (h : (Lit.int .u64 n).wf = true) : ∃ k : Nat, n = (k : Int) ∧ k < 18446744073709551616 := by
  obtain ⟨h1, h2⟩ := bounds_u64 h
  obtain ⟨k, rfl⟩ := Int.eq_ofNat_of_zero_le h1
  exact ⟨k, rfl, by omega⟩

/-- An argument of four words: of whatever program. -/
theorem open_word' {P : Program} {H : Type} {enc : TypeId × Value → H} {W : World} {base : Nat} {t e : TypeId} {v : Value} {d : DataW H} {ps : List MemPlace} (ht : P.underlying t = some (.array 4 e)) (he : P.underlying e = some (.int .u64)) (ct : P.cellsOf t = 4) (ce : P.cellsOf e = 1)
    {pt : Array TypeId} {args : Array Value} (hval : ∀ (j : Nat) t v, pt[j]? = some t → args[j]? = some v → Value.okWide P W .any base t v) (j : Nat) (hj : pt[j]? = some t) (ha : args[j]? = some v) (h : DataW.Trod enc P W 0 (fun _ => true) true t v d ps) :
    ∃ a0 a1 a2 a3 : Nat, v = .agg #[.int .u64 a0, .int .u64 a1, .int .u64 a2, .int .u64 a3] ∧ ok4 a0 a1 a2 a3 := by
  obtain ⟨cs, rfl, hsz, _⟩ : ∃ cs, v = .agg cs ∧ cs.size = P.cellsOf t ∧ Row.okWide P W .any base t cs := by
    simpa [Value.okWide, ht] using hval j t v hj ha
  rw [ct] at hsz
  obtain ⟨l⟩ := cs
  obtain ⟨c0, c1, c2, c3, rfl⟩ := list4 l hsz
  obtain ⟨fuel, hf⟩ := h
  obtain ⟨y0, y1, y2, y3, m, hx, hy0, hy1, hy2, hy3⟩ := trod_array4 ht ce hf
  obtain ⟨x0, e0, rfl, w0⟩ := DataW.trod_int he hy0
  obtain ⟨x1, e1, rfl, w1⟩ := DataW.trod_int he hy1
  obtain ⟨x2, e2, rfl, w2⟩ := DataW.trod_int he hy2
  obtain ⟨x3, e3, rfl, w3⟩ := DataW.trod_int he hy3
  simp at e0 e1 e2 e3
  obtain ⟨a0, rfl, k0⟩ := nat_of_wf w0
  obtain ⟨a1, rfl, k1⟩ := nat_of_wf w1
  obtain ⟨a2, rfl, k2⟩ := nat_of_wf w2
  obtain ⟨a3, rfl, k3⟩ := nat_of_wf w3
  subst e0 e1 e2 e3
  exact ⟨a0, a1, a2, a3, rfl, k0, k1, k2, k3⟩
theorem word_cells : Tryz.prog.cellsOf 70 = 4 := by kernel_rfl
theorem fe_cells : Tryz.prog.cellsOf 24 = 4 := by kernel_rfl
end Go.Proofs.YtaingnhikbaplaaGreat
