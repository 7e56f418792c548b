/-
  Points by Jacobian coordinates in a table of calls, over both fields. Conditions: none.
-/
import Derived.Test.YthlcjdcjnioeoaaGreatCk21
import Derived.Test.YthlcjdcjnioeoaaGreatCk13
namespace Go.Proofs.YthlcjdcjnioeoaaGreat.Ex
set_option linter.unusedVariables false
set_option linter.unusedSimpArgs false
open Go.RowKit
theorem fd1 : FD F1 finv := ⟨F1_ne, fun x h => finv_mul h⟩
theorem fd2 : FD F2 iv2 := ⟨fld2.1, fun x h => F2_inv fun e => h (nm2_zero e)⟩
theorem nm2_ne {x : Q2} (h : x ≠ F2.zero) : nm2 x ≠ F1.zero := fun e => h (nm2_zero e)
abbrev J1 := Jc Fq
abbrev J2 := Jc Q2
def ej1 (p : J1) : List At := [.f p.1, .f p.2.1, .f p.2.2]
def ej2 (p : J2) : List At := [.f p.1.1, .f p.1.2, .f p.2.1.1, .f p.2.1.2, .f p.2.2.1, .f p.2.2.2]
def rj1 : List At → Option J1 | [.f a, .f b, .f c] => some (a, b, c) | _ => none
def rj2 : List At → Option J2 | [.f a, .f b, .f c, .f d, .f e, .f f] => some ((a, b), (c, d), (e, f)) | _ => none
theorem rj1_ok : Rd rj1 ej1 := fun l x h => by unfold rj1 at h; split at h <;> cases h; rfl
theorem rj2_ok : Rd rj2 ej2 := fun l x h => by unfold rj2 at h; split at h <;> cases h; rfl
theorem flat_ne {a b : Fq} (h : a ≠ b) : flat (e1 a) ≠ flat (e1 b) := fun e => h (e1_inj e)
theorem flat_ne2 {a b : Q2} (h : a ≠ b) : flat (e2 a) ≠ flat (e2 b) := fun e => h (e2_inj e)
theorem FD.inv_one {R : Type} {K : CR R} {inv : R → R} (F : FD K inv) : inv K.one = K.one := by
  have := F.inv K.one F.ne
  rwa [K.one_mul] at this

set_option maxRecDepth 100000 in
theorem run_inf1_t (p : J1) : funB Tryz.prog (qG Tryz.prog) (fun _ => ⟨fun s => T_pMay true, fun s => true, fun _ => none⟩) Tryz.f183 60 [.v (.fl (ej1 p))] = some ([flat (e1 p.2.2) = flat (e1 F1.zero)], .one (.im (.bool true))) := by kernel_rfl
set_option maxRecDepth 100000 in
theorem run_inf1_f (p : J1) : funB Tryz.prog (qG Tryz.prog) (fun _ => ⟨fun s => T_pMay false, fun s => false, fun _ => none⟩) Tryz.f183 60 [.v (.fl (ej1 p))] = some ([flat (e1 p.2.2) ≠ flat (e1 F1.zero)], .one (.im (.bool false))) := by kernel_rfl
def oInf1 (d : Bool) (p : J1) : List Prop × RV := bif d then ([p.2.2 = F1.zero], .one (.im (.bool true))) else ([p.2.2 ≠ F1.zero], .one (.im (.bool false)))
theorem oInf1_ok (d : Bool) (p : J1) (hp : allP (oInf1 d p).1) (args : List Value) (w : World) (ha : CAs w [.v (.fl (ej1 p))] args) : Good Tryz.prog 183 (oInf1 d p).2 args w := by
  cases d
  · have h : p.2.2 ≠ F1.zero := hp.1
    exact funB_sound hmix (fun _ s => ok_pMay _) (qG_ok Tryz.prog) Tryz.func183 (run_inf1_f p) ⟨flat_ne h, trivial⟩ ha
  · have h : p.2.2 = F1.zero := hp.1
    exact funB_sound hmix (fun _ s => ok_pMay _) (qG_ok Tryz.prog) Tryz.func183 (run_inf1_t p) ⟨by rw [h], trivial⟩ ha
noncomputable def T_inf1 (d : Bool) : Tab := (T_pMay d).add 183 (g1 rj1 (oInf1 d))
theorem ok_inf1 (d : Bool) : TabOk Tryz.prog (T_inf1 d) := (ok_pMay d).add Tryz.func183 (by kernel_rfl) (by kernel_rfl) (g1_ok rj1_ok fun p hp args w ha => oInf1_ok d p hp args w ha)
set_option maxRecDepth 100000 in
theorem run_str1_t (d : Bool) (p : J1) (b : Fq) : funB Tryz.prog (qG Tryz.prog) (fun _ => ⟨fun s => T_inf1 d, fun s => true, fun _ => none⟩) Tryz.f186 60 [.v (.fl (ej1 p)), .v (.fl (e1 b))] = some ([flat (e1 p.2.2) = flat (e1 F1.one)], .one (.fl (e1 b))) := by kernel_rfl
set_option maxRecDepth 100000 in
theorem run_str1_f (d : Bool) (p : J1) (b : Fq) : funB Tryz.prog (qG Tryz.prog) (fun _ => ⟨fun s => T_inf1 d, fun s => false, fun _ => none⟩) Tryz.f186 60 [.v (.fl (ej1 p)), .v (.fl (e1 b))] = some ([flat (e1 p.2.2) ≠ flat (e1 F1.one)], .one (.fl (e1 (F1.mul b p.2.2)))) := by kernel_rfl
theorem str1_ok (d : Bool) (p : J1) (b : Fq) (args : List Value) (w : World) (ha : CAs w [.v (.fl (ej1 p)), .v (.fl (e1 b))] args) : Good Tryz.prog 186 (.one (.fl (e1 (F1.mul b p.2.2)))) args w := by
  by_cases h : p.2.2 = F1.one
  · rw [h, F1.mul_one]
    exact funB_sound hmix (fun _ s => ok_inf1 _) (qG_ok Tryz.prog) Tryz.func186 (run_str1_t d p b) ⟨by rw [h], trivial⟩ ha
  · exact funB_sound hmix (fun _ s => ok_inf1 _) (qG_ok Tryz.prog) Tryz.func186 (run_str1_f d p b) ⟨flat_ne h, trivial⟩ ha
noncomputable def T_str1 (d : Bool) : Tab := (T_inf1 d).add 186 (g2 rj1 rd1 fun p b => ([], .one (.fl (e1 (F1.mul b p.2.2)))))
theorem ok_str1 (d : Bool) : TabOk Tryz.prog (T_str1 d) := (ok_inf1 d).add Tryz.func186 (by kernel_rfl) (by kernel_rfl) (g2_ok rj1_ok rd1_ok fun p b hp args w ha => str1_ok d p b args w ha)
set_option maxRecDepth 100000 in
theorem run_bes1_t (d : Bool) (p q : J1) : funB Tryz.prog (qG Tryz.prog) (fun _ => ⟨fun s => T_str1 d, fun s => true, fun _ => none⟩) Tryz.f184 60 [.v (.fl (ej1 p)), .v (.fl (ej1 q))] = some ([flat (e1 q.2.2) = flat (e1 F1.one)], .many [.fl (e1 (p.1)), .fl (e1 (p.2.1))]) := by kernel_rfl
set_option maxRecDepth 100000 in
theorem run_bes1_f (d : Bool) (p q : J1) : funB Tryz.prog (qG Tryz.prog) (fun _ => ⟨fun s => T_str1 d, fun s => false, fun _ => none⟩) Tryz.f184 60 [.v (.fl (ej1 p)), .v (.fl (ej1 q))] = some ([flat (e1 q.2.2) ≠ flat (e1 F1.one)], .many [.fl (e1 (jbx F1 p q)), .fl (e1 (jby F1 p q))]) := by kernel_rfl
theorem bes1_ok (d : Bool) (p q : J1) (args : List Value) (w : World) (ha : CAs w [.v (.fl (ej1 p)), .v (.fl (ej1 q))] args) : Good Tryz.prog 184 (.many [.fl (e1 (jbx F1 p q)), .fl (e1 (jby F1 p q))]) args w := by
  by_cases h : q.2.2 = F1.one
  · have hx : jbx F1 p q = p.1 := by unfold jbx; rw [h, F1.mul_one, F1.mul_one]
    have hy : jby F1 p q = p.2.1 := by unfold jby; rw [h, F1.mul_one, F1.mul_one, F1.mul_one]
    rw [hx, hy]
    exact funB_sound hmix (fun _ s => ok_str1 _) (qG_ok Tryz.prog) Tryz.func184 (run_bes1_t d p q) ⟨by rw [h], trivial⟩ ha
  · exact funB_sound hmix (fun _ s => ok_str1 _) (qG_ok Tryz.prog) Tryz.func184 (run_bes1_f d p q) ⟨flat_ne h, trivial⟩ ha
noncomputable def T_bes1 (d : Bool) : Tab := (T_str1 d).add 184 (g2 rj1 rj1 fun p q => ([], .many [.fl (e1 (jbx F1 p q)), .fl (e1 (jby F1 p q))]))
theorem ok_bes1 (d : Bool) : TabOk Tryz.prog (T_bes1 d) := (ok_str1 d).add Tryz.func184 (by kernel_rfl) (by kernel_rfl) (g2_ok rj1_ok rj1_ok fun p q hp args w ha => bes1_ok d p q args w ha)
set_option maxRecDepth 100000 in
theorem run_dbl1 (d : Bool) (p : J1) : funB Tryz.prog (qG Tryz.prog) (fun _ => ⟨fun s => T_bes1 d, fun s => true, fun _ => none⟩) Tryz.f185 60 [.v (.fl (ej1 p))] = some ([], .one (.fl (ej1 (jdbl F1 p)))) := by kernel_rfl
noncomputable def T_dbl1 (d : Bool) : Tab := (T_bes1 d).add 185 (g1 rj1 fun p => ([], .one (.fl (ej1 (jdbl F1 p)))))
theorem ok_dbl1 (d : Bool) : TabOk Tryz.prog (T_dbl1 d) := (ok_bes1 d).add Tryz.func185 (by kernel_rfl) (by kernel_rfl) (g1_ok rj1_ok fun p hp args w ha => funB_sound hmix (fun _ s => ok_bes1 _) (qG_ok Tryz.prog) Tryz.func185 (run_dbl1 d p) trivial ha)
set_option maxRecDepth 100000 in
theorem run_neg1 (d : Bool) (p : J1) : funB Tryz.prog (qG Tryz.prog) (fun _ => ⟨fun s => T_dbl1 d, fun s => true, fun _ => none⟩) Tryz.f114 60 [.v (.fl (ej1 p))] = some ([], .one (.fl (ej1 (jneg F1 p)))) := by kernel_rfl
noncomputable def T_neg1 (d : Bool) : Tab := (T_dbl1 d).add 114 (g1 rj1 fun p => ([], .one (.fl (ej1 (jneg F1 p)))))
theorem ok_neg1 (d : Bool) : TabOk Tryz.prog (T_neg1 d) := (ok_dbl1 d).add Tryz.func114 (by kernel_rfl) (by kernel_rfl) (g1_ok rj1_ok fun p hp args w ha => funB_sound hmix (fun _ s => ok_dbl1 _) (qG_ok Tryz.prog) Tryz.func114 (run_neg1 d p) trivial ha)
set_option maxRecDepth 100000 in
theorem run_told1_i (p : J1) : funB Tryz.prog (qG Tryz.prog) (fun _ => ⟨fun s => T_neg1 true, fun s => true, fun _ => none⟩) Tryz.f151 60 [.v (.fl (ej1 p))] = some ([p.2.2 = F1.zero], .many [.fl (e1 F1.zero), .fl (e1 F1.zero), .im (.bool true)]) := by kernel_rfl
set_option maxRecDepth 100000 in
theorem run_told1_o (p : J1) : funB Tryz.prog (qG Tryz.prog) (fun _ => ⟨fun s => T_neg1 false, fun s => true, fun _ => none⟩) Tryz.f151 60 [.v (.fl (ej1 p))] = some ([p.2.2 ≠ F1.zero, flat (e1 p.2.2) = flat (e1 F1.one)], .many [.fl (e1 p.1), .fl (e1 p.2.1), .im (.bool false)]) := by kernel_rfl
set_option maxRecDepth 100000 in
theorem run_told1_f (p : J1) : funB Tryz.prog (qG Tryz.prog) (fun _ => ⟨fun s => T_neg1 false, fun s => false, fun _ => none⟩) Tryz.f151 60 [.v (.fl (ej1 p))] = some ([p.2.2 ≠ F1.zero, flat (e1 p.2.2) ≠ flat (e1 F1.one), p.2.2 ≠ F1.zero], .many [.fl (e1 (F1.mul p.1 (F1.mul (finv p.2.2) (finv p.2.2)))), .fl (e1 (F1.mul p.2.1 (F1.mul (F1.mul (finv p.2.2) (finv p.2.2)) (finv p.2.2)))), .im (.bool false)]) := by kernel_rfl
noncomputable def oTold1 (d : Bool) (p : J1) : List Prop × RV := bif d then ([p.2.2 = F1.zero], .many [.fl (e1 F1.zero), .fl (e1 F1.zero), .im (.bool true)]) else ([p.2.2 ≠ F1.zero], .many [.fl (e1 (F1.mul p.1 (F1.mul (finv p.2.2) (finv p.2.2)))), .fl (e1 (F1.mul p.2.1 (F1.mul (F1.mul (finv p.2.2) (finv p.2.2)) (finv p.2.2)))), .im (.bool false)])
theorem oTold1_ok (d : Bool) (p : J1) (hp : allP (oTold1 d p).1) (args : List Value) (w : World) (ha : CAs w [.v (.fl (ej1 p))] args) : Good Tryz.prog 151 (oTold1 d p).2 args w := by
  cases d
  · have h : p.2.2 ≠ F1.zero := hp.1
    show Good _ _ (.many [.fl (e1 (F1.mul p.1 (F1.mul (finv p.2.2) (finv p.2.2)))), .fl (e1 (F1.mul p.2.1 (F1.mul (F1.mul (finv p.2.2) (finv p.2.2)) (finv p.2.2)))), .im (.bool false)]) _ _
    by_cases h1 : p.2.2 = F1.one
    · have hi : finv p.2.2 = F1.one := by rw [h1]; exact fd1.inv_one
      rw [hi, F1.mul_one, F1.mul_one, F1.mul_one, F1.mul_one]
      exact funB_sound hmix (fun _ s => ok_neg1 _) (qG_ok Tryz.prog) Tryz.func151 (run_told1_o p) ⟨h, by rw [h1], trivial⟩ ha
    · exact funB_sound hmix (fun _ s => ok_neg1 _) (qG_ok Tryz.prog) Tryz.func151 (run_told1_f p) ⟨h, flat_ne h1, h, trivial⟩ ha
  · exact funB_sound hmix (fun _ s => ok_neg1 _) (qG_ok Tryz.prog) Tryz.func151 (run_told1_i p) hp ha
noncomputable def T_told1 (d : Bool) : Tab := (T_neg1 d).add 151 (g1 rj1 (oTold1 d))
theorem ok_told1 (d : Bool) : TabOk Tryz.prog (T_told1 d) := (ok_neg1 d).add Tryz.func151 (by kernel_rfl) (by kernel_rfl) (g1_ok rj1_ok fun p hp args w ha => oTold1_ok d p hp args w ha)
set_option maxRecDepth 100000 in
theorem run_plus1_a (p q : J1) : funB Tryz.prog (qG Tryz.prog) (fun _ => ⟨fun s => T_told1 (bif Nat.beq s 18 then true else false), fun s => true, fun _ => none⟩) Tryz.f152 80 [.v (.fl (ej1 p)), .v (.fl (ej1 q))] = some ([p.2.2 = F1.zero], .one (.fl (ej1 q))) := by kernel_rfl
set_option maxRecDepth 100000 in
theorem run_plus1_b (p q : J1) : funB Tryz.prog (qG Tryz.prog) (fun _ => ⟨fun s => T_told1 (bif Nat.beq s 18 then false else true), fun s => true, fun _ => none⟩) Tryz.f152 80 [.v (.fl (ej1 p)), .v (.fl (ej1 q))] = some ([p.2.2 ≠ F1.zero, q.2.2 = F1.zero], .one (.fl (ej1 p))) := by kernel_rfl
set_option maxRecDepth 100000 in
theorem run_plus1_c (p q : J1) : funB Tryz.prog (qG Tryz.prog) (fun _ => ⟨fun s => T_told1 (bif Nat.beq s 18 then false else false), fun s => true, fun _ => none⟩) Tryz.f152 80 [.v (.fl (ej1 p)), .v (.fl (ej1 q))] = some ([p.2.2 ≠ F1.zero, q.2.2 ≠ F1.zero, flat (e1 (jac F1 p q)) = flat (e1 F1.zero), flat (e1 (jup F1 p q)) = flat (e1 F1.zero)], .one (.fl (ej1 (jdbl F1 p)))) := by kernel_rfl
set_option maxRecDepth 100000 in
theorem run_plus1_d (p q : J1) : funB Tryz.prog (qG Tryz.prog) (fun _ => ⟨fun s => T_told1 (bif Nat.beq s 18 then false else false), fun s => false, fun _ => none⟩) Tryz.f152 80 [.v (.fl (ej1 p)), .v (.fl (ej1 q))] = some ([p.2.2 ≠ F1.zero, q.2.2 ≠ F1.zero, flat (e1 (jac F1 p q)) ≠ flat (e1 F1.zero)], .one (.fl (ej1 (jsum F1 p q)))) := by kernel_rfl
set_option maxRecDepth 100000 in
theorem run_plus1_e (p q : J1) : funB Tryz.prog (qG Tryz.prog) (fun _ => ⟨fun s => T_told1 (bif Nat.beq s 18 then false else false), fun s => !(Nat.beq s 49), fun _ => none⟩) Tryz.f152 80 [.v (.fl (ej1 p)), .v (.fl (ej1 q))] = some ([p.2.2 ≠ F1.zero, q.2.2 ≠ F1.zero, flat (e1 (jac F1 p q)) = flat (e1 F1.zero), flat (e1 (jup F1 p q)) ≠ flat (e1 F1.zero)], .one (.fl (ej1 (jsum F1 p q)))) := by kernel_rfl
theorem plus1_ok (d : Bool) (p q : J1) (args : List Value) (w : World) (ha : CAs w [.v (.fl (ej1 p)), .v (.fl (ej1 q))] args) : Good Tryz.prog 152 (.one (.fl (ej1 (jplus F1 p q)))) args w := by
  unfold jplus
  by_cases h1 : p.2.2 = F1.zero
  · rw [if_pos h1]
    exact funB_sound hmix (fun _ s => ok_told1 _) (qG_ok Tryz.prog) Tryz.func152 (run_plus1_a p q) ⟨h1, trivial⟩ ha
  · rw [if_neg h1]
    by_cases h2 : q.2.2 = F1.zero
    · rw [if_pos h2]
      exact funB_sound hmix (fun _ s => ok_told1 _) (qG_ok Tryz.prog) Tryz.func152 (run_plus1_b p q) ⟨h1, h2, trivial⟩ ha
    · rw [if_neg h2]
      by_cases h3 : jac F1 p q = F1.zero
      · by_cases h4 : jup F1 p q = F1.zero
        · rw [if_pos ⟨h3, h4⟩]
          exact funB_sound hmix (fun _ s => ok_told1 _) (qG_ok Tryz.prog) Tryz.func152 (run_plus1_c p q) ⟨h1, h2, by rw [h3], by rw [h4], trivial⟩ ha
        · rw [if_neg (fun h => h4 h.2)]
          exact funB_sound hmix (fun _ s => ok_told1 _) (qG_ok Tryz.prog) Tryz.func152 (run_plus1_e p q) ⟨h1, h2, by rw [h3], flat_ne h4, trivial⟩ ha
      · rw [if_neg (fun h => h3 h.1)]
        exact funB_sound hmix (fun _ s => ok_told1 _) (qG_ok Tryz.prog) Tryz.func152 (run_plus1_d p q) ⟨h1, h2, flat_ne h3, trivial⟩ ha
noncomputable def T_plus1 (d : Bool) : Tab := (T_told1 d).add 152 (g2 rj1 rj1 fun p q => ([], .one (.fl (ej1 (jplus F1 p q)))))
theorem ok_plus1 (d : Bool) : TabOk Tryz.prog (T_plus1 d) := (ok_told1 d).add Tryz.func152 (by kernel_rfl) (by kernel_rfl) (g2_ok rj1_ok rj1_ok fun p q hp args w ha => plus1_ok d p q args w ha)
set_option maxRecDepth 100000 in
theorem run_inf2_t (p : J2) : funB Tryz.prog (qG Tryz.prog) (fun _ => ⟨fun s => T_plus1 true, fun s => true, fun _ => none⟩) Tryz.f198 60 [.v (.fl (ej2 p))] = some ([flat (e2 p.2.2) = flat (e2 F2.zero)], .one (.im (.bool true))) := by kernel_rfl
set_option maxRecDepth 100000 in
theorem run_inf2_f (p : J2) : funB Tryz.prog (qG Tryz.prog) (fun _ => ⟨fun s => T_plus1 false, fun s => false, fun _ => none⟩) Tryz.f198 60 [.v (.fl (ej2 p))] = some ([flat (e2 p.2.2) ≠ flat (e2 F2.zero)], .one (.im (.bool false))) := by kernel_rfl
def oInf2 (d : Bool) (p : J2) : List Prop × RV := bif d then ([p.2.2 = F2.zero], .one (.im (.bool true))) else ([p.2.2 ≠ F2.zero], .one (.im (.bool false)))
theorem oInf2_ok (d : Bool) (p : J2) (hp : allP (oInf2 d p).1) (args : List Value) (w : World) (ha : CAs w [.v (.fl (ej2 p))] args) : Good Tryz.prog 198 (oInf2 d p).2 args w := by
  cases d
  · have h : p.2.2 ≠ F2.zero := hp.1
    exact funB_sound hmix (fun _ s => ok_plus1 _) (qG_ok Tryz.prog) Tryz.func198 (run_inf2_f p) ⟨flat_ne2 h, trivial⟩ ha
  · have h : p.2.2 = F2.zero := hp.1
    exact funB_sound hmix (fun _ s => ok_plus1 _) (qG_ok Tryz.prog) Tryz.func198 (run_inf2_t p) ⟨by rw [h], trivial⟩ ha
noncomputable def T_inf2 (d : Bool) : Tab := (T_plus1 d).add 198 (g1 rj2 (oInf2 d))
theorem ok_inf2 (d : Bool) : TabOk Tryz.prog (T_inf2 d) := (ok_plus1 d).add Tryz.func198 (by kernel_rfl) (by kernel_rfl) (g1_ok rj2_ok fun p hp args w ha => oInf2_ok d p hp args w ha)
set_option maxRecDepth 100000 in
theorem run_str2_t (d : Bool) (p : J2) (b : Q2) : funB Tryz.prog (qG Tryz.prog) (fun _ => ⟨fun s => T_inf2 d, fun s => true, fun _ => none⟩) Tryz.f201 60 [.v (.fl (ej2 p)), .v (.fl (e2 b))] = some ([flat (e2 p.2.2) = flat (e2 F2.one)], .one (.fl (e2 b))) := by kernel_rfl
set_option maxRecDepth 100000 in
theorem run_str2_f (d : Bool) (p : J2) (b : Q2) : funB Tryz.prog (qG Tryz.prog) (fun _ => ⟨fun s => T_inf2 d, fun s => false, fun _ => none⟩) Tryz.f201 60 [.v (.fl (ej2 p)), .v (.fl (e2 b))] = some ([flat (e2 p.2.2) ≠ flat (e2 F2.one)], .one (.fl (e2 (F2.mul b p.2.2)))) := by kernel_rfl
theorem str2_ok (d : Bool) (p : J2) (b : Q2) (args : List Value) (w : World) (ha : CAs w [.v (.fl (ej2 p)), .v (.fl (e2 b))] args) : Good Tryz.prog 201 (.one (.fl (e2 (F2.mul b p.2.2)))) args w := by
  by_cases h : p.2.2 = F2.one
  · rw [h, F2.mul_one]
    exact funB_sound hmix (fun _ s => ok_inf2 _) (qG_ok Tryz.prog) Tryz.func201 (run_str2_t d p b) ⟨by rw [h], trivial⟩ ha
  · exact funB_sound hmix (fun _ s => ok_inf2 _) (qG_ok Tryz.prog) Tryz.func201 (run_str2_f d p b) ⟨flat_ne2 h, trivial⟩ ha
noncomputable def T_str2 (d : Bool) : Tab := (T_inf2 d).add 201 (g2 rj2 rd2 fun p b => ([], .one (.fl (e2 (F2.mul b p.2.2)))))
theorem ok_str2 (d : Bool) : TabOk Tryz.prog (T_str2 d) := (ok_inf2 d).add Tryz.func201 (by kernel_rfl) (by kernel_rfl) (g2_ok rj2_ok rd2_ok fun p b hp args w ha => str2_ok d p b args w ha)
set_option maxRecDepth 100000 in
theorem run_bes2_t (d : Bool) (p q : J2) : funB Tryz.prog (qG Tryz.prog) (fun _ => ⟨fun s => T_str2 d, fun s => true, fun _ => none⟩) Tryz.f199 60 [.v (.fl (ej2 p)), .v (.fl (ej2 q))] = some ([flat (e2 q.2.2) = flat (e2 F2.one)], .many [.fl (e2 (p.1)), .fl (e2 (p.2.1))]) := by kernel_rfl
set_option maxRecDepth 100000 in
theorem run_bes2_f (d : Bool) (p q : J2) : funB Tryz.prog (qG Tryz.prog) (fun _ => ⟨fun s => T_str2 d, fun s => false, fun _ => none⟩) Tryz.f199 60 [.v (.fl (ej2 p)), .v (.fl (ej2 q))] = some ([flat (e2 q.2.2) ≠ flat (e2 F2.one)], .many [.fl (e2 (jbx F2 p q)), .fl (e2 (jby F2 p q))]) := by kernel_rfl
theorem bes2_ok (d : Bool) (p q : J2) (args : List Value) (w : World) (ha : CAs w [.v (.fl (ej2 p)), .v (.fl (ej2 q))] args) : Good Tryz.prog 199 (.many [.fl (e2 (jbx F2 p q)), .fl (e2 (jby F2 p q))]) args w := by
  by_cases h : q.2.2 = F2.one
  · have hx : jbx F2 p q = p.1 := by unfold jbx; rw [h, F2.mul_one, F2.mul_one]
    have hy : jby F2 p q = p.2.1 := by unfold jby; rw [h, F2.mul_one, F2.mul_one, F2.mul_one]
    rw [hx, hy]
    exact funB_sound hmix (fun _ s => ok_str2 _) (qG_ok Tryz.prog) Tryz.func199 (run_bes2_t d p q) ⟨by rw [h], trivial⟩ ha
  · exact funB_sound hmix (fun _ s => ok_str2 _) (qG_ok Tryz.prog) Tryz.func199 (run_bes2_f d p q) ⟨flat_ne2 h, trivial⟩ ha
noncomputable def T_bes2 (d : Bool) : Tab := (T_str2 d).add 199 (g2 rj2 rj2 fun p q => ([], .many [.fl (e2 (jbx F2 p q)), .fl (e2 (jby F2 p q))]))
theorem ok_bes2 (d : Bool) : TabOk Tryz.prog (T_bes2 d) := (ok_str2 d).add Tryz.func199 (by kernel_rfl) (by kernel_rfl) (g2_ok rj2_ok rj2_ok fun p q hp args w ha => bes2_ok d p q args w ha)
set_option maxRecDepth 100000 in
theorem run_dbl2 (d : Bool) (p : J2) : funB Tryz.prog (qG Tryz.prog) (fun _ => ⟨fun s => T_bes2 d, fun s => true, fun _ => none⟩) Tryz.f200 60 [.v (.fl (ej2 p))] = some ([], .one (.fl (ej2 (jdbl F2 p)))) := by kernel_rfl
noncomputable def T_dbl2 (d : Bool) : Tab := (T_bes2 d).add 200 (g1 rj2 fun p => ([], .one (.fl (ej2 (jdbl F2 p)))))
theorem ok_dbl2 (d : Bool) : TabOk Tryz.prog (T_dbl2 d) := (ok_bes2 d).add Tryz.func200 (by kernel_rfl) (by kernel_rfl) (g1_ok rj2_ok fun p hp args w ha => funB_sound hmix (fun _ s => ok_bes2 _) (qG_ok Tryz.prog) Tryz.func200 (run_dbl2 d p) trivial ha)
set_option maxRecDepth 100000 in
theorem run_neg2 (d : Bool) (p : J2) : funB Tryz.prog (qG Tryz.prog) (fun _ => ⟨fun s => T_dbl2 d, fun s => true, fun _ => none⟩) Tryz.f128 60 [.v (.fl (ej2 p))] = some ([], .one (.fl (ej2 (jneg F2 p)))) := by kernel_rfl
noncomputable def T_neg2 (d : Bool) : Tab := (T_dbl2 d).add 128 (g1 rj2 fun p => ([], .one (.fl (ej2 (jneg F2 p)))))
theorem ok_neg2 (d : Bool) : TabOk Tryz.prog (T_neg2 d) := (ok_dbl2 d).add Tryz.func128 (by kernel_rfl) (by kernel_rfl) (g1_ok rj2_ok fun p hp args w ha => funB_sound hmix (fun _ s => ok_dbl2 _) (qG_ok Tryz.prog) Tryz.func128 (run_neg2 d p) trivial ha)
set_option maxRecDepth 100000 in
theorem run_told2_i (p : J2) : funB Tryz.prog (qG Tryz.prog) (fun _ => ⟨fun s => T_neg2 true, fun s => true, fun _ => none⟩) Tryz.f162 60 [.v (.fl (ej2 p))] = some ([p.2.2 = F2.zero], .many [.fl (e2 F2.zero), .fl (e2 F2.zero), .im (.bool true)]) := by kernel_rfl
set_option maxRecDepth 100000 in
theorem run_told2_o (p : J2) : funB Tryz.prog (qG Tryz.prog) (fun _ => ⟨fun s => T_neg2 false, fun s => true, fun _ => none⟩) Tryz.f162 60 [.v (.fl (ej2 p))] = some ([p.2.2 ≠ F2.zero, flat (e2 p.2.2) = flat (e2 F2.one)], .many [.fl (e2 p.1), .fl (e2 p.2.1), .im (.bool false)]) := by kernel_rfl
set_option maxRecDepth 100000 in
theorem run_told2_f (p : J2) : funB Tryz.prog (qG Tryz.prog) (fun _ => ⟨fun s => T_neg2 false, fun s => false, fun _ => none⟩) Tryz.f162 60 [.v (.fl (ej2 p))] = some ([p.2.2 ≠ F2.zero, flat (e2 p.2.2) ≠ flat (e2 F2.one), nm2 p.2.2 ≠ F1.zero], .many [.fl (e2 (F2.mul p.1 (F2.mul (iv2 p.2.2) (iv2 p.2.2)))), .fl (e2 (F2.mul p.2.1 (F2.mul (F2.mul (iv2 p.2.2) (iv2 p.2.2)) (iv2 p.2.2)))), .im (.bool false)]) := by kernel_rfl
noncomputable def oTold2 (d : Bool) (p : J2) : List Prop × RV := bif d then ([p.2.2 = F2.zero], .many [.fl (e2 F2.zero), .fl (e2 F2.zero), .im (.bool true)]) else ([p.2.2 ≠ F2.zero], .many [.fl (e2 (F2.mul p.1 (F2.mul (iv2 p.2.2) (iv2 p.2.2)))), .fl (e2 (F2.mul p.2.1 (F2.mul (F2.mul (iv2 p.2.2) (iv2 p.2.2)) (iv2 p.2.2)))), .im (.bool false)])
theorem oTold2_ok (d : Bool) (p : J2) (hp : allP (oTold2 d p).1) (args : List Value) (w : World) (ha : CAs w [.v (.fl (ej2 p))] args) : Good Tryz.prog 162 (oTold2 d p).2 args w := by
  cases d
  · have h : p.2.2 ≠ F2.zero := hp.1
    show Good _ _ (.many [.fl (e2 (F2.mul p.1 (F2.mul (iv2 p.2.2) (iv2 p.2.2)))), .fl (e2 (F2.mul p.2.1 (F2.mul (F2.mul (iv2 p.2.2) (iv2 p.2.2)) (iv2 p.2.2)))), .im (.bool false)]) _ _
    by_cases h1 : p.2.2 = F2.one
    · have hi : iv2 p.2.2 = F2.one := by rw [h1]; exact fd2.inv_one
      rw [hi, F2.mul_one, F2.mul_one, F2.mul_one, F2.mul_one]
      exact funB_sound hmix (fun _ s => ok_neg2 _) (qG_ok Tryz.prog) Tryz.func162 (run_told2_o p) ⟨h, by rw [h1], trivial⟩ ha
    · exact funB_sound hmix (fun _ s => ok_neg2 _) (qG_ok Tryz.prog) Tryz.func162 (run_told2_f p) ⟨h, flat_ne2 h1, nm2_ne h, trivial⟩ ha
  · exact funB_sound hmix (fun _ s => ok_neg2 _) (qG_ok Tryz.prog) Tryz.func162 (run_told2_i p) hp ha
noncomputable def T_told2 (d : Bool) : Tab := (T_neg2 d).add 162 (g1 rj2 (oTold2 d))
theorem ok_told2 (d : Bool) : TabOk Tryz.prog (T_told2 d) := (ok_neg2 d).add Tryz.func162 (by kernel_rfl) (by kernel_rfl) (g1_ok rj2_ok fun p hp args w ha => oTold2_ok d p hp args w ha)
set_option maxRecDepth 100000 in
theorem run_plus2_a (p q : J2) : funB Tryz.prog (qG Tryz.prog) (fun _ => ⟨fun s => T_told2 (bif Nat.beq s 18 then true else false), fun s => true, fun _ => none⟩) Tryz.f163 80 [.v (.fl (ej2 p)), .v (.fl (ej2 q))] = some ([p.2.2 = F2.zero], .one (.fl (ej2 q))) := by kernel_rfl
set_option maxRecDepth 100000 in
theorem run_plus2_b (p q : J2) : funB Tryz.prog (qG Tryz.prog) (fun _ => ⟨fun s => T_told2 (bif Nat.beq s 18 then false else true), fun s => true, fun _ => none⟩) Tryz.f163 80 [.v (.fl (ej2 p)), .v (.fl (ej2 q))] = some ([p.2.2 ≠ F2.zero, q.2.2 = F2.zero], .one (.fl (ej2 p))) := by kernel_rfl
set_option maxRecDepth 100000 in
theorem run_plus2_c (p q : J2) : funB Tryz.prog (qG Tryz.prog) (fun _ => ⟨fun s => T_told2 (bif Nat.beq s 18 then false else false), fun s => true, fun _ => none⟩) Tryz.f163 80 [.v (.fl (ej2 p)), .v (.fl (ej2 q))] = some ([p.2.2 ≠ F2.zero, q.2.2 ≠ F2.zero, flat (e2 (jac F2 p q)) = flat (e2 F2.zero), flat (e2 (jup F2 p q)) = flat (e2 F2.zero)], .one (.fl (ej2 (jdbl F2 p)))) := by kernel_rfl
set_option maxRecDepth 100000 in
theorem run_plus2_d (p q : J2) : funB Tryz.prog (qG Tryz.prog) (fun _ => ⟨fun s => T_told2 (bif Nat.beq s 18 then false else false), fun s => false, fun _ => none⟩) Tryz.f163 80 [.v (.fl (ej2 p)), .v (.fl (ej2 q))] = some ([p.2.2 ≠ F2.zero, q.2.2 ≠ F2.zero, flat (e2 (jac F2 p q)) ≠ flat (e2 F2.zero)], .one (.fl (ej2 (jsum F2 p q)))) := by kernel_rfl
set_option maxRecDepth 100000 in
theorem run_plus2_e (p q : J2) : funB Tryz.prog (qG Tryz.prog) (fun _ => ⟨fun s => T_told2 (bif Nat.beq s 18 then false else false), fun s => !(Nat.beq s 49), fun _ => none⟩) Tryz.f163 80 [.v (.fl (ej2 p)), .v (.fl (ej2 q))] = some ([p.2.2 ≠ F2.zero, q.2.2 ≠ F2.zero, flat (e2 (jac F2 p q)) = flat (e2 F2.zero), flat (e2 (jup F2 p q)) ≠ flat (e2 F2.zero)], .one (.fl (ej2 (jsum F2 p q)))) := by kernel_rfl
theorem plus2_ok (d : Bool) (p q : J2) (args : List Value) (w : World) (ha : CAs w [.v (.fl (ej2 p)), .v (.fl (ej2 q))] args) : Good Tryz.prog 163 (.one (.fl (ej2 (jplus F2 p q)))) args w := by
  unfold jplus
  by_cases h1 : p.2.2 = F2.zero
  · rw [if_pos h1]
    exact funB_sound hmix (fun _ s => ok_told2 _) (qG_ok Tryz.prog) Tryz.func163 (run_plus2_a p q) ⟨h1, trivial⟩ ha
  · rw [if_neg h1]
    by_cases h2 : q.2.2 = F2.zero
    · rw [if_pos h2]
      exact funB_sound hmix (fun _ s => ok_told2 _) (qG_ok Tryz.prog) Tryz.func163 (run_plus2_b p q) ⟨h1, h2, trivial⟩ ha
    · rw [if_neg h2]
      by_cases h3 : jac F2 p q = F2.zero
      · by_cases h4 : jup F2 p q = F2.zero
        · rw [if_pos ⟨h3, h4⟩]
          exact funB_sound hmix (fun _ s => ok_told2 _) (qG_ok Tryz.prog) Tryz.func163 (run_plus2_c p q) ⟨h1, h2, by rw [h3], by rw [h4], trivial⟩ ha
        · rw [if_neg (fun h => h4 h.2)]
          exact funB_sound hmix (fun _ s => ok_told2 _) (qG_ok Tryz.prog) Tryz.func163 (run_plus2_e p q) ⟨h1, h2, by rw [h3], flat_ne2 h4, trivial⟩ ha
      · rw [if_neg (fun h => h3 h.1)]
        exact funB_sound hmix (fun _ s => ok_told2 _) (qG_ok Tryz.prog) Tryz.func163 (run_plus2_d p q) ⟨h1, h2, flat_ne2 h3, trivial⟩ ha
noncomputable def T_plus2 (d : Bool) : Tab := (T_told2 d).add 163 (g2 rj2 rj2 fun p q => ([], .one (.fl (ej2 (jplus F2 p q)))))
theorem ok_plus2 (d : Bool) : TabOk Tryz.prog (T_plus2 d) := (ok_told2 d).add Tryz.func163 (by kernel_rfl) (by kernel_rfl) (g2_ok rj2_ok rj2_ok fun p q hp args w ha => plus2_ok d p q args w ha)
end Go.Proofs.YthlcjdcjnioeoaaGreat.Ex
