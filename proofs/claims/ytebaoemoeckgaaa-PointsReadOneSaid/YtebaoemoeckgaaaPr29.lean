/-
  Points by Jacobian coordinates in a table of calls, over both fields. Conditions: none.
  Points as they come in and go out, a point's first multiples, checks and negatives, over both fields. Conditions: none.
  Lengths and bits of numbers in tables of calls; shifts. Conditions: none.
  The digits of numbers, in a table of calls. Conditions: none.
  Multiples by tables: the sum at a place, the sum over the places. Conditions: what is asked of memory from before.
  The sum of points, each times its number, by tables. Conditions: what is asked of memory from before.
-/
import Derived.Test.YtebaoemoeckgaaaPr28
import Derived.Test.YtebaoemoeckgaaaPr20
import Derived.Test.YtebaoemoeckgaaaPr19
import Derived.Test.YtebaoemoeckgaaaPr01
import Derived.Test.YtebaoemoeckgaaaPr12
import Derived.Test.YtebaoemoeckgaaaPr13
import Derived.Test.YtebaoemoeckgaaaPr08
import Derived.Test.YtebaoemoeckgaaaPr09
namespace Go.Proofs.Ytebaoemoeckgaaa.Ex
set_option linter.unusedVariables false
set_option linter.unusedSimpArgs false
open Go.RowKit
abbrev J1 := Jc Fq
abbrev J2 := Jc Q2
def ej1 (p : J1) : List At := [.f p.1, .f p.2.1, .f p.2.2]
def ej2 (p : J2) : List At := [.f p.1.1, .f p.1.2, .f p.2.1.1, .f p.2.1.2, .f p.2.2.1, .f p.2.2.2]
def rj1 : List At → Option J1 | [.f a, .f b, .f c] => some (a, b, c) | _ => none
theorem rj1_ok : Rd rj1 ej1 := fun l x h => by unfold rj1 at h; split at h <;> cases h; rfl
theorem flat_ne {a b : Fq} (h : a ≠ b) : flat (e1 a) ≠ flat (e1 b) := fun e => h (e1_inj e)
theorem FD.inv_one {R : Type} {K : CR R} {inv : R → R} (F : FD K inv) : inv K.one = K.one := by
  have := F.inv K.one F.ne
  rwa [K.one_mul] at this

set_option maxRecDepth 100000 in
theorem run_inf1_t (p : J1) : funB Try.prog (qG Try.prog) (fun _ => ⟨fun s => T_sMay true, fun s => true, fun _ => none⟩) Try.f135 60 [.v (.fl (ej1 p))] = some ([flat (e1 p.2.2) = flat (e1 F1.zero)], .one (.im (.bool true))) := by kernel_rfl
set_option maxRecDepth 100000 in
theorem run_inf1_f (p : J1) : funB Try.prog (qG Try.prog) (fun _ => ⟨fun s => T_sMay false, fun s => false, fun _ => none⟩) Try.f135 60 [.v (.fl (ej1 p))] = some ([flat (e1 p.2.2) ≠ flat (e1 F1.zero)], .one (.im (.bool false))) := by kernel_rfl
def oInf1 (d : Bool) (p : J1) : List Prop × RV := bif d then ([p.2.2 = F1.zero], .one (.im (.bool true))) else ([p.2.2 ≠ F1.zero], .one (.im (.bool false)))
theorem oInf1_ok (d : Bool) (p : J1) (hp : allP (oInf1 d p).1) (args : List Value) (w : World) (ha : CAs w [.v (.fl (ej1 p))] args) : Good Try.prog 135 (oInf1 d p).2 args w := by
  cases d
  · have h : p.2.2 ≠ F1.zero := hp.1
    exact funB_sound hmix (fun _ s => ok_sMay _) (qG_ok Try.prog) Try.func135 (run_inf1_f p) ⟨flat_ne h, trivial⟩ ha
  · have h : p.2.2 = F1.zero := hp.1
    exact funB_sound hmix (fun _ s => ok_sMay _) (qG_ok Try.prog) Try.func135 (run_inf1_t p) ⟨by rw [h], trivial⟩ ha
noncomputable def T_inf1 (d : Bool) : Tab := (T_sMay d).add 135 (g1 rj1 (oInf1 d))
theorem ok_inf1 (d : Bool) : TabOk Try.prog (T_inf1 d) := (ok_sMay d).add Try.func135 (by kernel_rfl) (by kernel_rfl) (g1_ok rj1_ok fun p hp args w ha => oInf1_ok d p hp args w ha)
set_option maxRecDepth 100000 in
theorem run_str1_t (d : Bool) (p : J1) (b : Fq) : funB Try.prog (qG Try.prog) (fun _ => ⟨fun s => T_inf1 d, fun s => true, fun _ => none⟩) Try.f139 60 [.v (.fl (ej1 p)), .v (.fl (e1 b))] = some ([flat (e1 p.2.2) = flat (e1 F1.one)], .one (.fl (e1 b))) := by kernel_rfl
set_option maxRecDepth 100000 in
theorem run_str1_f (d : Bool) (p : J1) (b : Fq) : funB Try.prog (qG Try.prog) (fun _ => ⟨fun s => T_inf1 d, fun s => false, fun _ => none⟩) Try.f139 60 [.v (.fl (ej1 p)), .v (.fl (e1 b))] = some ([flat (e1 p.2.2) ≠ flat (e1 F1.one)], .one (.fl (e1 (F1.mul b p.2.2)))) := by kernel_rfl
theorem str1_ok (d : Bool) (p : J1) (b : Fq) (args : List Value) (w : World) (ha : CAs w [.v (.fl (ej1 p)), .v (.fl (e1 b))] args) : Good Try.prog 139 (.one (.fl (e1 (F1.mul b p.2.2)))) args w := by
  by_cases h : p.2.2 = F1.one
  · rw [h, F1.mul_one]
    exact funB_sound hmix (fun _ s => ok_inf1 _) (qG_ok Try.prog) Try.func139 (run_str1_t d p b) ⟨by rw [h], trivial⟩ ha
  · exact funB_sound hmix (fun _ s => ok_inf1 _) (qG_ok Try.prog) Try.func139 (run_str1_f d p b) ⟨flat_ne h, trivial⟩ ha
noncomputable def T_str1 (d : Bool) : Tab := (T_inf1 d).add 139 (g2 rj1 rd1 fun p b => ([], .one (.fl (e1 (F1.mul b p.2.2)))))
theorem ok_str1 (d : Bool) : TabOk Try.prog (T_str1 d) := (ok_inf1 d).add Try.func139 (by kernel_rfl) (by kernel_rfl) (g2_ok rj1_ok rd1_ok fun p b hp args w ha => str1_ok d p b args w ha)
set_option maxRecDepth 100000 in
theorem run_bes1_t (d : Bool) (p q : J1) : funB Try.prog (qG Try.prog) (fun _ => ⟨fun s => T_str1 d, fun s => true, fun _ => none⟩) Try.f137 60 [.v (.fl (ej1 p)), .v (.fl (ej1 q))] = some ([flat (e1 q.2.2) = flat (e1 F1.one)], .many [.fl (e1 (p.1)), .fl (e1 (p.2.1))]) := by kernel_rfl
set_option maxRecDepth 100000 in
theorem run_bes1_f (d : Bool) (p q : J1) : funB Try.prog (qG Try.prog) (fun _ => ⟨fun s => T_str1 d, fun s => false, fun _ => none⟩) Try.f137 60 [.v (.fl (ej1 p)), .v (.fl (ej1 q))] = some ([flat (e1 q.2.2) ≠ flat (e1 F1.one)], .many [.fl (e1 (jbx F1 p q)), .fl (e1 (jby F1 p q))]) := by kernel_rfl
theorem bes1_ok (d : Bool) (p q : J1) (args : List Value) (w : World) (ha : CAs w [.v (.fl (ej1 p)), .v (.fl (ej1 q))] args) : Good Try.prog 137 (.many [.fl (e1 (jbx F1 p q)), .fl (e1 (jby F1 p q))]) args w := by
  by_cases h : q.2.2 = F1.one
  · have hx : jbx F1 p q = p.1 := by unfold jbx; rw [h, F1.mul_one, F1.mul_one]
    have hy : jby F1 p q = p.2.1 := by unfold jby; rw [h, F1.mul_one, F1.mul_one, F1.mul_one]
    rw [hx, hy]
    exact funB_sound hmix (fun _ s => ok_str1 _) (qG_ok Try.prog) Try.func137 (run_bes1_t d p q) ⟨by rw [h], trivial⟩ ha
  · exact funB_sound hmix (fun _ s => ok_str1 _) (qG_ok Try.prog) Try.func137 (run_bes1_f d p q) ⟨flat_ne h, trivial⟩ ha
noncomputable def T_bes1 (d : Bool) : Tab := (T_str1 d).add 137 (g2 rj1 rj1 fun p q => ([], .many [.fl (e1 (jbx F1 p q)), .fl (e1 (jby F1 p q))]))
theorem ok_bes1 (d : Bool) : TabOk Try.prog (T_bes1 d) := (ok_str1 d).add Try.func137 (by kernel_rfl) (by kernel_rfl) (g2_ok rj1_ok rj1_ok fun p q hp args w ha => bes1_ok d p q args w ha)
set_option maxRecDepth 100000 in
theorem run_dbl1 (d : Bool) (p : J1) : funB Try.prog (qG Try.prog) (fun _ => ⟨fun s => T_bes1 d, fun s => true, fun _ => none⟩) Try.f138 60 [.v (.fl (ej1 p))] = some ([], .one (.fl (ej1 (jdbl F1 p)))) := by kernel_rfl
noncomputable def T_dbl1 (d : Bool) : Tab := (T_bes1 d).add 138 (g1 rj1 fun p => ([], .one (.fl (ej1 (jdbl F1 p)))))
theorem ok_dbl1 (d : Bool) : TabOk Try.prog (T_dbl1 d) := (ok_bes1 d).add Try.func138 (by kernel_rfl) (by kernel_rfl) (g1_ok rj1_ok fun p hp args w ha => funB_sound hmix (fun _ s => ok_bes1 _) (qG_ok Try.prog) Try.func138 (run_dbl1 d p) trivial ha)
set_option maxRecDepth 100000 in
theorem run_plus1_a (p q : J1) : funB Try.prog (qG Try.prog) (fun _ => ⟨fun s => T_dbl1 (bif Nat.beq s 18 then true else false), fun s => true, fun _ => none⟩) Try.f136 80 [.v (.fl (ej1 p)), .v (.fl (ej1 q))] = some ([p.2.2 = F1.zero], .one (.fl (ej1 q))) := by kernel_rfl
set_option maxRecDepth 100000 in
theorem run_plus1_b (p q : J1) : funB Try.prog (qG Try.prog) (fun _ => ⟨fun s => T_dbl1 (bif Nat.beq s 18 then false else true), fun s => true, fun _ => none⟩) Try.f136 80 [.v (.fl (ej1 p)), .v (.fl (ej1 q))] = some ([p.2.2 ≠ F1.zero, q.2.2 = F1.zero], .one (.fl (ej1 p))) := by kernel_rfl
set_option maxRecDepth 100000 in
theorem run_plus1_c (p q : J1) : funB Try.prog (qG Try.prog) (fun _ => ⟨fun s => T_dbl1 (bif Nat.beq s 18 then false else false), fun s => true, fun _ => none⟩) Try.f136 80 [.v (.fl (ej1 p)), .v (.fl (ej1 q))] = some ([p.2.2 ≠ F1.zero, q.2.2 ≠ F1.zero, flat (e1 (jac F1 p q)) = flat (e1 F1.zero), flat (e1 (jup F1 p q)) = flat (e1 F1.zero)], .one (.fl (ej1 (jdbl F1 p)))) := by kernel_rfl
set_option maxRecDepth 100000 in
theorem run_plus1_d (p q : J1) : funB Try.prog (qG Try.prog) (fun _ => ⟨fun s => T_dbl1 (bif Nat.beq s 18 then false else false), fun s => false, fun _ => none⟩) Try.f136 80 [.v (.fl (ej1 p)), .v (.fl (ej1 q))] = some ([p.2.2 ≠ F1.zero, q.2.2 ≠ F1.zero, flat (e1 (jac F1 p q)) ≠ flat (e1 F1.zero)], .one (.fl (ej1 (jsum F1 p q)))) := by kernel_rfl
set_option maxRecDepth 100000 in
theorem run_plus1_e (p q : J1) : funB Try.prog (qG Try.prog) (fun _ => ⟨fun s => T_dbl1 (bif Nat.beq s 18 then false else false), fun s => !(Nat.beq s 49), fun _ => none⟩) Try.f136 80 [.v (.fl (ej1 p)), .v (.fl (ej1 q))] = some ([p.2.2 ≠ F1.zero, q.2.2 ≠ F1.zero, flat (e1 (jac F1 p q)) = flat (e1 F1.zero), flat (e1 (jup F1 p q)) ≠ flat (e1 F1.zero)], .one (.fl (ej1 (jsum F1 p q)))) := by kernel_rfl
theorem plus1_ok (d : Bool) (p q : J1) (args : List Value) (w : World) (ha : CAs w [.v (.fl (ej1 p)), .v (.fl (ej1 q))] args) : Good Try.prog 136 (.one (.fl (ej1 (jplus F1 p q)))) args w := by
  unfold jplus
  by_cases h1 : p.2.2 = F1.zero
  · rw [if_pos h1]
    exact funB_sound hmix (fun _ s => ok_dbl1 _) (qG_ok Try.prog) Try.func136 (run_plus1_a p q) ⟨h1, trivial⟩ ha
  · rw [if_neg h1]
    by_cases h2 : q.2.2 = F1.zero
    · rw [if_pos h2]
      exact funB_sound hmix (fun _ s => ok_dbl1 _) (qG_ok Try.prog) Try.func136 (run_plus1_b p q) ⟨h1, h2, trivial⟩ ha
    · rw [if_neg h2]
      by_cases h3 : jac F1 p q = F1.zero
      · by_cases h4 : jup F1 p q = F1.zero
        · rw [if_pos ⟨h3, h4⟩]
          exact funB_sound hmix (fun _ s => ok_dbl1 _) (qG_ok Try.prog) Try.func136 (run_plus1_c p q) ⟨h1, h2, by rw [h3], by rw [h4], trivial⟩ ha
        · rw [if_neg (fun h => h4 h.2)]
          exact funB_sound hmix (fun _ s => ok_dbl1 _) (qG_ok Try.prog) Try.func136 (run_plus1_e p q) ⟨h1, h2, by rw [h3], flat_ne h4, trivial⟩ ha
      · rw [if_neg (fun h => h3 h.1)]
        exact funB_sound hmix (fun _ s => ok_dbl1 _) (qG_ok Try.prog) Try.func136 (run_plus1_d p q) ⟨h1, h2, flat_ne h3, trivial⟩ ha
noncomputable def T_plus1 (d : Bool) : Tab := (T_dbl1 d).add 136 (g2 rj1 rj1 fun p q => ([], .one (.fl (ej1 (jplus F1 p q)))))
theorem ok_plus1 (d : Bool) : TabOk Try.prog (T_plus1 d) := (ok_dbl1 d).add Try.func136 (by kernel_rfl) (by kernel_rfl) (g2_ok rj1_ok rj1_ok fun p q hp args w ha => plus1_ok d p q args w ha)
end Go.Proofs.Ytebaoemoeckgaaa.Ex
namespace Go.Proofs.Ytebaoemoeckgaaa.Ex
set_option linter.unusedVariables false
set_option linter.unusedSimpArgs false
open Go.RowKit
theorem w4_wv (x : Nat) : w4 x = w4 (wv x) := by
  obtain ⟨e0, e1, e2, e3⟩ := fw_of (fw_ok x) (show wv x < 115792089237316195423570985008687907853269984665640564039457584007913129639936 by
    have h := fw_ok x
    obtain ⟨h0, h1, h2, h3⟩ := h
    unfold wv val4; omega) rfl
  unfold w4
  rw [e0, e1, e2, e3]
theorem q_f {x : Nat} (h : wv x < FP.M) : flat [.q x] = flat [.f (m1 x)] := by
  show w4 x ++ [] = w4 (m1 x).1 ++ []
  rw [w4_wv x]
  show w4 (wv x) ++ [] = w4 (wv x % FP.M) ++ []
  rw [Nat.mod_eq_of_lt h]
theorem flat_cons (a : At) (l : List At) : flat (a :: l) = flat [a] ++ flat l := by show a.cells ++ flat l = (a.cells ++ []) ++ flat l; rw [List.append_nil]
theorem w4_inj' {x y : Nat} (h : w4 x = w4 y) : wv x = wv y := by
  unfold w4 at h
  simp only [List.cons.injEq, Value.int.injEq, true_and, and_true, Int.ofNat_inj] at h
  unfold wv
  rw [h.1, h.2.1, h.2.2.1, h.2.2.2]
theorem q_zero {x : Nat} : flat [.q x] = flat (e1 F1.zero) ↔ wv x = 0 := by
  constructor
  · intro h
    have h' : w4 x ++ [] = w4 0 ++ [] := h
    rw [List.append_nil, List.append_nil] at h'
    rw [w4_inj' h']; decide
  · intro h
    show w4 x ++ [] = w4 0 ++ []
    rw [w4_wv x, h]
theorem q_zero2 {x : N2} : flat (q2 x) = flat (e2 F2.zero) ↔ wv x.1 = 0 ∧ wv x.2 = 0 := by
  constructor
  · intro h
    have h' : w4 x.1 ++ (w4 x.2 ++ []) = w4 0 ++ (w4 0 ++ []) := h
    obtain ⟨h1, h2⟩ := List.append_inj h' rfl
    rw [List.append_nil, List.append_nil] at h2
    exact ⟨by rw [w4_inj' h1]; decide, by rw [w4_inj' h2]; decide⟩
  · rintro ⟨h1, h2⟩
    show w4 x.1 ++ (w4 x.2 ++ []) = w4 0 ++ (w4 0 ++ [])
    rw [w4_wv x.1, w4_wv x.2, h1, h2]
theorem Good.congr {P : Program} {f : FuncId} {r r' : RV} {args : List Value} {w : World} (h : Good P f r args w) (e : r.den = r'.den) : Good P f r' args w := by
  unfold Good at h ⊢
  rw [← e]
  exact h
/-- below p, all parts -/
def bl1 (x : Nat) : Prop := wv x < FP.M
def bl2 (x : N2) : Prop := wv x.1 < FP.M ∧ wv x.2 < FP.M
def zr1 (x : Nat) : Prop := wv x = 0
def zr2 (x : N2) : Prop := wv x.1 = 0 ∧ wv x.2 = 0
theorem bl_f1 {x : Nat} (h : bl1 x) : flat (q1 x) = flat (e1 (m1 x)) := q_f h
theorem bl_f2 {x : N2} (h : bl2 x) : flat (q2 x) = flat (e2 (m2 x)) := by
  show flat (.q x.1 :: [.q x.2]) = flat (.f (m1 x.1) :: [.f (m1 x.2)])
  rw [flat_cons, flat_cons (.f _), q_f h.1, q_f h.2]
/-- ways that a number of a program goes: what it is, and that it is so -/
theorem neq_t {c : Int} (h : c ≠ 0) : intOp .neq .i64 c 0 = some (.bool true) := by
  show some (Value.bool (c != 0)) = _
  rw [bne_iff_ne.2 h]
theorem neq_f {c : Int} (h : c = 0) : intOp .neq .i64 c 0 = some (.bool false) := by rw [h]; rfl

open Classical in
theorem ck1_ex : ∃ g : Nat → Nat → Bool → Int × J1, ∀ x y i, g x y i = if i = true then (if zr1 x ∧ zr1 y then (0, (F1.zero, F1.zero, F1.zero)) else (44, (F1.zero, F1.zero, F1.zero))) else if ¬ (bl1 x ∧ bl1 y) then (21, (F1.zero, F1.zero, F1.zero)) else if F1.mul (m1 y) (m1 y) = F1.add (F1.mul (F1.mul (m1 x) (m1 x)) (m1 x)) (fm 3) then (0, (m1 x, m1 y, F1.one)) else (41, (F1.zero, F1.zero, F1.zero)) := ⟨_, fun _ _ _ => rfl⟩
noncomputable def ck1 : Nat → Nat → Bool → Int × J1 := Classical.choose ck1_ex
open Classical in
theorem ck1_eq (x y : Nat) (i : Bool) : ck1 x y i = if i = true then (if zr1 x ∧ zr1 y then (0, (F1.zero, F1.zero, F1.zero)) else (44, (F1.zero, F1.zero, F1.zero))) else if ¬ (bl1 x ∧ bl1 y) then (21, (F1.zero, F1.zero, F1.zero)) else if F1.mul (m1 y) (m1 y) = F1.add (F1.mul (F1.mul (m1 x) (m1 x)) (m1 x)) (fm 3) then (0, (m1 x, m1 y, F1.one)) else (41, (F1.zero, F1.zero, F1.zero)) := Classical.choose_spec ck1_ex x y i
set_option maxRecDepth 100000 in
theorem run_ck1_a (x y : Nat) : funB Try.prog (qG Try.prog) (fun _ => ⟨fun s => T_plus1 (bif Nat.beq s 28 then true else bif Nat.beq s 33 then true else true), fun s => false, fun _ => none⟩) Try.f82 80 [.v (.fl (q1 x)), .v (.fl (q1 y)), .v (.im (.bool true))] = some ([flat (q1 x) ≠ flat (e1 F1.zero)], .many [.fl (ej1 (F1.zero, F1.zero, F1.zero)), .im (.int .i64 44)]) := by kernel_rfl
set_option maxRecDepth 100000 in
theorem run_ck1_b (x y : Nat) : funB Try.prog (qG Try.prog) (fun _ => ⟨fun s => T_plus1 (bif Nat.beq s 28 then true else bif Nat.beq s 33 then true else true), fun s => !(Nat.beq s 18), fun _ => none⟩) Try.f82 80 [.v (.fl (q1 x)), .v (.fl (q1 y)), .v (.im (.bool true))] = some ([flat (q1 x) = flat (e1 F1.zero), flat (q1 y) ≠ flat (e1 F1.zero)], .many [.fl (ej1 (F1.zero, F1.zero, F1.zero)), .im (.int .i64 44)]) := by kernel_rfl
set_option maxRecDepth 100000 in
theorem run_ck1_c (x y : Nat) : funB Try.prog (qG Try.prog) (fun _ => ⟨fun s => T_plus1 (bif Nat.beq s 28 then true else bif Nat.beq s 33 then true else true), fun s => true, fun _ => none⟩) Try.f82 80 [.v (.fl (q1 x)), .v (.fl (q1 y)), .v (.im (.bool true))] = some ([flat (q1 x) = flat (e1 F1.zero), flat (q1 y) = flat (e1 F1.zero)], .many [.fl (ej1 (F1.zero, F1.zero, F1.zero)), .im (.int .i64 0)]) := by kernel_rfl
set_option maxRecDepth 100000 in
theorem run_ck1_d (x y : Nat) : funB Try.prog (qG Try.prog) (fun _ => ⟨fun s => T_plus1 (bif Nat.beq s 28 then false else bif Nat.beq s 33 then true else true), fun s => true, fun _ => none⟩) Try.f82 80 [.v (.fl (q1 x)), .v (.fl (q1 y)), .v (.im (.bool false))] = some ([¬ wv x < FP.M], .many [.fl (ej1 (F1.zero, F1.zero, F1.zero)), .im (.int .i64 21)]) := by kernel_rfl
set_option maxRecDepth 100000 in
theorem run_ck1_e (x y : Nat) : funB Try.prog (qG Try.prog) (fun _ => ⟨fun s => T_plus1 (bif Nat.beq s 28 then true else bif Nat.beq s 33 then false else true), fun s => true, fun _ => none⟩) Try.f82 80 [.v (.fl (q1 x)), .v (.fl (q1 y)), .v (.im (.bool false))] = some ([wv x < FP.M, ¬ wv y < FP.M], .many [.fl (ej1 (F1.zero, F1.zero, F1.zero)), .im (.int .i64 21)]) := by kernel_rfl
set_option maxRecDepth 100000 in
theorem run_ck1_f (x y : Nat) : funB Try.prog (qG Try.prog) (fun _ => ⟨fun s => T_plus1 (bif Nat.beq s 28 then true else bif Nat.beq s 33 then true else true), fun s => false, fun _ => none⟩) Try.f82 80 [.v (.fl (q1 x)), .v (.fl (q1 y)), .v (.im (.bool false))] = some ([wv x < FP.M, wv y < FP.M, wv y < FP.M, wv y < FP.M, wv x < FP.M, wv x < FP.M, wv x < FP.M, flat (e1 (F1.mul (m1 y) (m1 y))) ≠ flat (e1 (F1.add (F1.mul (F1.mul (m1 x) (m1 x)) (m1 x)) (fm 3)))], .many [.fl (ej1 (F1.zero, F1.zero, F1.zero)), .im (.int .i64 41)]) := by kernel_rfl
set_option maxRecDepth 100000 in
theorem run_ck1_g (x y : Nat) : funB Try.prog (qG Try.prog) (fun _ => ⟨fun s => T_plus1 (bif Nat.beq s 28 then true else bif Nat.beq s 33 then true else true), fun s => true, fun _ => none⟩) Try.f82 80 [.v (.fl (q1 x)), .v (.fl (q1 y)), .v (.im (.bool false))] = some ([wv x < FP.M, wv y < FP.M, wv y < FP.M, wv y < FP.M, wv x < FP.M, wv x < FP.M, wv x < FP.M, flat (e1 (F1.mul (m1 y) (m1 y))) = flat (e1 (F1.add (F1.mul (F1.mul (m1 x) (m1 x)) (m1 x)) (fm 3)))], .many [.fl (q1 x ++ (q1 y ++ e1 F1.one)), .im (.int .i64 0)]) := by kernel_rfl
theorem ck1_ok (x y : Nat) (i : Bool) (args : List Value) (w : World) (ha : CAs w [.v (.fl (q1 x)), .v (.fl (q1 y)), .v (.im (.bool i))] args) : Good Try.prog 82 (.many [.fl (ej1 (ck1 x y i).2), .im (.int .i64 (ck1 x y i).1)]) args w := by
  rw [ck1_eq]
  cases i with
  | true =>
    rw [if_pos rfl]
    by_cases hx : zr1 x
    · by_cases hy : zr1 y
      · rw [if_pos ⟨hx, hy⟩]
        exact funB_sound hmix (fun _ s => ok_plus1 _) (qG_ok Try.prog) Try.func82 (run_ck1_c x y) ⟨q_zero.2 hx, q_zero.2 hy, trivial⟩ ha
      · rw [if_neg (fun h => hy h.2)]
        exact funB_sound hmix (fun _ s => ok_plus1 _) (qG_ok Try.prog) Try.func82 (run_ck1_b x y) ⟨q_zero.2 hx, fun h => hy (q_zero.1 h), trivial⟩ ha
    · rw [if_neg (fun h => hx h.1)]
      exact funB_sound hmix (fun _ s => ok_plus1 _) (qG_ok Try.prog) Try.func82 (run_ck1_a x y) ⟨fun h => hx (q_zero.1 h), trivial⟩ ha
  | false =>
    rw [if_neg (by simp)]
    by_cases hx : bl1 x
    · by_cases hy : bl1 y
      · rw [if_neg (fun h => h ⟨hx, hy⟩)]
        by_cases h : F1.mul (m1 y) (m1 y) = F1.add (F1.mul (F1.mul (m1 x) (m1 x)) (m1 x)) (fm 3)
        · rw [if_pos h]
          refine Good.congr (r := .many [.fl (q1 x ++ (q1 y ++ e1 F1.one)), .im (.int .i64 0)]) ?_ ?_
          · exact funB_sound hmix (fun _ s => ok_plus1 _) (qG_ok Try.prog) Try.func82 (run_ck1_g x y) ⟨hx, hy, hy, hy, hx, hx, hx, by rw [h], trivial⟩ ha
          · have e : flat (q1 x ++ (q1 y ++ e1 F1.one)) = flat (ej1 (m1 x, m1 y, F1.one)) := by
              rw [flat_append, flat_append, bl_f1 hx, bl_f1 hy]
              rfl
            show Value.tuple #[.agg (flat _).toArray, _] = .tuple #[.agg (flat _).toArray, _]
            rw [e]
        · rw [if_neg h]
          exact funB_sound hmix (fun _ s => ok_plus1 _) (qG_ok Try.prog) Try.func82 (run_ck1_f x y) ⟨hx, hy, hy, hy, hx, hx, hx, flat_ne h, trivial⟩ ha
      · rw [if_pos (fun h => hy h.2)]
        exact funB_sound hmix (fun _ s => ok_plus1 _) (qG_ok Try.prog) Try.func82 (run_ck1_e x y) ⟨hx, hy, trivial⟩ ha
    · rw [if_pos (fun h => hx h.1)]
      exact funB_sound hmix (fun _ s => ok_plus1 _) (qG_ok Try.prog) Try.func82 (run_ck1_d x y) ⟨hx, trivial⟩ ha
noncomputable def gCk1 : Ent
  | [.v (.fl l), .v (.fl m), .v (.im (.bool i))] => match rq1 l, rq1 m with
    | some x, some y => some ([], .many [.fl (ej1 (ck1 x y i).2), .im (.int .i64 (ck1 x y i).1)])
    | _, _ => none
  | _ => none
theorem gCk1_ok : ∀ cs pre r, gCk1 cs = some (pre, r) → allP pre → ∀ (args : List Value) (w : World), CAs w cs args → Good Try.prog 82 r args w := by
  intro cs pre r hg hp args w ha
  unfold gCk1 at hg
  split at hg
  · rename_i l m i
    split at hg
    · rename_i x y hx hy
      cases hg
      refine ck1_ok x y i args w ?_
      match args, ha with
      | [u, v, t], ha =>
        refine ⟨?_, ?_, ha.2.2⟩
        · show u = .agg (flat (q1 x)).toArray
          rw [← rq1_ok l x hx]; exact ha.1
        · show v = .agg (flat (q1 y)).toArray
          rw [← rq1_ok m y hy]; exact ha.2.1
      | [], ha => exact ha.elim
      | [_], ha => exact ha.2.elim
      | [_, _], ha => exact ha.2.2.elim
      | _ :: _ :: _ :: _ :: _, ha => exact ha.2.2.2.elim
    · cases hg
  · cases hg
noncomputable def T_ck1 (d : Bool) : Tab := (T_plus1 d).add 82 gCk1
theorem ok_ck1 (d : Bool) : TabOk Try.prog (T_ck1 d) := (ok_plus1 d).add Try.func82 (by kernel_rfl) (by kernel_rfl) gCk1_ok
/-- a point as it comes in -/
abbrev G1N := Nat × Nat × Bool
def gq1 (p : G1N) : List At := [.q p.1, .q p.2.1, .c (.bool p.2.2)]
def rg1 : List At → Option G1N
  | [a, b, .c (.bool i)] => match nat? a, nat? b with | some x, some y => some (x, y, i) | _, _ => none
  | _ => none
theorem nat?_flat {a : At} {x : Nat} (h : nat? a = some x) : a.cells = w4 x := by cases a <;> cases h <;> rfl
theorem rg1_ok : Rd rg1 gq1 := fun l x h => by
  unfold rg1 at h
  split at h
  · split at h
    · rename_i x y h1 h2
      cases h
      show _ ++ (_ ++ _) = w4 _ ++ (w4 _ ++ _)
      rw [nat?_flat h1, nat?_flat h2]
    · cases h
  · cases h
def ptI {R : Type} : Pt R → Bool | none => true | some _ => false
def ptX {R : Type} (K : CR R) : Pt R → R | none => K.zero | some p => p.1
def ptY {R : Type} (K : CR R) : Pt R → R | none => K.zero | some p => p.2
def gf1 (p : Pt Fq) : List At := [.f (ptX F1 p), .f (ptY F1 p), .c (.bool (ptI p))]
set_option maxRecDepth 100000 in
theorem run_in1 (d : Bool) (p : G1N) : funB Try.prog (qG Try.prog) (fun _ => ⟨fun s => T_ck1 d, fun s => true, fun _ => none⟩) Try.f52 80 [.v (.fl (gq1 p))] = some ([], .many [.fl (ej1 (ck1 p.1 p.2.1 p.2.2).2), .im (.int .i64 (ck1 p.1 p.2.1 p.2.2).1)]) := by kernel_rfl
noncomputable def T_in1 (d : Bool) : Tab := (T_ck1 d).add 52 (g1 rg1 fun p => ([], .many [.fl (ej1 (ck1 p.1 p.2.1 p.2.2).2), .im (.int .i64 (ck1 p.1 p.2.1 p.2.2).1)]))
theorem ok_in1 (d : Bool) : TabOk Try.prog (T_in1 d) := (ok_ck1 d).add Try.func52 (by kernel_rfl) (by kernel_rfl) (g1_ok rg1_ok fun p hp args w ha => funB_sound hmix (fun _ s => ok_ck1 _) (qG_ok Try.prog) Try.func52 (run_in1 d p) trivial ha)
set_option maxRecDepth 100000 in
theorem run_On1 (d : Bool) (p : G1N) : funB Try.prog (qG Try.prog) (fun _ => ⟨fun s => T_in1 d, fun s => true, fun _ => none⟩) Try.f30 80 [.v (.fl (gq1 p))] = some ([], .one (.im (.int .i64 (ck1 p.1 p.2.1 p.2.2).1))) := by kernel_rfl
noncomputable def T_On1 (d : Bool) : Tab := (T_in1 d).add 30 (g1 rg1 fun p => ([], .one (.im (.int .i64 (ck1 p.1 p.2.1 p.2.2).1))))
theorem ok_On1 (d : Bool) : TabOk Try.prog (T_On1 d) := (ok_in1 d).add Try.func30 (by kernel_rfl) (by kernel_rfl) (g1_ok rg1_ok fun p hp args w ha => funB_sound hmix (fun _ s => ok_in1 _) (qG_ok Try.prog) Try.func30 (run_On1 d p) trivial ha)
open Classical in
theorem ck2_ex : ∃ g : N2 → N2 → Bool → Int × J2, ∀ x y i, g x y i = if i = true then (if zr2 x ∧ zr2 y then (0, (F2.zero, F2.zero, F2.zero)) else (44, (F2.zero, F2.zero, F2.zero))) else if ¬ (bl2 x ∧ bl2 y) then (21, (F2.zero, F2.zero, F2.zero)) else if F2.mul (m2 y) (m2 y) = F2.add (F2.mul (F2.mul (m2 x) (m2 x)) (m2 x)) b2E then (0, (m2 x, m2 y, F2.one)) else (41, (F2.zero, F2.zero, F2.zero)) := ⟨_, fun _ _ _ => rfl⟩
noncomputable def ck2 : N2 → N2 → Bool → Int × J2 := Classical.choose ck2_ex
open Classical in
theorem ck2_eq (x y : N2) (i : Bool) : ck2 x y i = if i = true then (if zr2 x ∧ zr2 y then (0, (F2.zero, F2.zero, F2.zero)) else (44, (F2.zero, F2.zero, F2.zero))) else if ¬ (bl2 x ∧ bl2 y) then (21, (F2.zero, F2.zero, F2.zero)) else if F2.mul (m2 y) (m2 y) = F2.add (F2.mul (F2.mul (m2 x) (m2 x)) (m2 x)) b2E then (0, (m2 x, m2 y, F2.one)) else (41, (F2.zero, F2.zero, F2.zero)) := Classical.choose_spec ck2_ex x y i
noncomputable def gCk2 : Ent
  | [.v (.fl l), .v (.fl m), .v (.im (.bool i))] => match rq2 l, rq2 m with
    | some x, some y => some ([], .many [.fl (ej2 (ck2 x y i).2), .im (.int .i64 (ck2 x y i).1)])
    | _, _ => none
  | _ => none
/-- a point as it comes in -/
abbrev G2N := N2 × N2 × Bool
def gq2 (p : G2N) : List At := [.q p.1.1, .q p.1.2, .q p.2.1.1, .q p.2.1.2, .c (.bool p.2.2)]
def rg2 : List At → Option G2N
  | [a, b, c, d, .c (.bool i)] => match nat? a, nat? b, nat? c, nat? d with | some x, some y, some z, some w => some ((x, y), (z, w), i) | _, _, _, _ => none
  | _ => none
theorem rg2_ok : Rd rg2 gq2 := fun l x h => by
  unfold rg2 at h
  split at h
  · split at h
    · rename_i x y z w h1 h2 h3 h4
      cases h
      show _ ++ (_ ++ (_ ++ (_ ++ _))) = w4 _ ++ (w4 _ ++ (w4 _ ++ (w4 _ ++ _)))
      rw [nat?_flat h1, nat?_flat h2, nat?_flat h3, nat?_flat h4]
    · cases h
  · cases h
def gf2 (p : Pt Q2) : List At := [.f (ptX F2 p).1, .f (ptX F2 p).2, .f (ptY F2 p).1, .f (ptY F2 p).2, .c (.bool (ptI p))]
end Go.Proofs.Ytebaoemoeckgaaa.Ex
namespace Go.Proofs.Ytebaoemoeckgaaa.Ex
set_option linter.unusedVariables false
set_option linter.unusedSimpArgs false
open Go.RowKit
/-- a number's length -/
def lenF (n : Nat) : Nat := if wv n = 0 then 0 else Nat.log2 (wv n) + 1
theorem lenF_is (n : Nat) : LenIs (wv n) (lenF n) := by
  unfold lenF
  by_cases h : wv n = 0
  · rw [if_pos h, h]; exact ⟨by decide, fun h => by cases h⟩
  · rw [if_neg h]
    exact ⟨Nat.lt_log2_self, fun _ => by rw [Nat.add_sub_cancel]; exact Nat.log2_self_le h⟩
theorem wv_lt (n : Nat) : wv n < 2 ^ 256 := by
  obtain ⟨h0, h1, h2, h3⟩ := fw_ok n
  unfold wv val4
  have : (2 : Nat) ^ 256 = 115792089237316195423570985008687907853269984665640564039457584007913129639936 := by decide
  omega
theorem lenF_le (n : Nat) : lenF n ≤ 256 := by
  rcases Nat.lt_or_ge 256 (lenF n) with h | h
  · have h1 := (lenF_is n).2 (by omega)
    have h2 := Nat.pow_le_pow_right (show 0 < 2 by omega) (show 256 ≤ lenF n - 1 by omega)
    have := wv_lt n
    omega
  · exact h
def gLen : Ent
  | [.v (.fl l)] => match rq1 l with
    | some n => some ([], .one (.im (.int .i64 (lenF n : Nat))))
    | none => none
  | _ => none
def gBit : Ent
  | [.v (.fl l), .v (.im (.int .i64 (.ofNat i)))] => match rq1 l with
    | some n => some ([i < 256], .one (.im (.int .i64 (bitOf (wv n) i : Nat))))
    | none => none
  | _ => none
/-- a number, less its lowest bits -/
def gShr : Ent
  | [.v (.fl l), .v (.im (.int .i64 (.ofNat k)))] => match rq1 l with
    | some n => some ([k < 9223372036854775808], .one (.fl (q1 (wv n / 2 ^ k))))
    | none => none
  | _ => none
end Go.Proofs.Ytebaoemoeckgaaa.Ex
namespace Go.Proofs.Ytebaoemoeckgaaa.Ex
set_option linter.unusedVariables false
set_option linter.unusedSimpArgs false
open Go.RowKit
def sh1 (x : Nat) : Nat := fw x 0 * 2 % 18446744073709551616
def dwin (x p : Nat) : Nat := (if p = 0 then sh1 x else fw (wv x / 2 ^ (p * 4 - 1)) 0) % 32
def digI (x p : Nat) : Int := ((dwin x p + 1) / 2 : Nat) - (if 16 ≤ dwin x p then 16 else 0 : Int)
noncomputable def T_dig (d : Bool) : Tab := ((T_On1 d).add 102 gLen).add 106 gShr
def digS (b o n m : Nat) : List At := [.c (slV b o n m), .c (iI 4)]
theorem o_eql1 (k : IntKind) (n : Nat) : intOp .eql k (Int.ofNat n) 1 = some (.bool (decide (n = 1))) := by
  show some (Value.bool ((n : Int) == 1)) = _
  by_cases h : n = 1
  · subst h; rfl
  · rw [decide_eq_false h, beq_eq_false_iff_ne.2 (by omega)]
end Go.Proofs.Ytebaoemoeckgaaa.Ex
namespace Go.Proofs.Ytebaoemoeckgaaa.Ex
set_option linter.unusedVariables false
set_option linter.unusedSimpArgs false
open Go.RowKit
def xt0 (old : Nat → Nat → List At → Prop) : Ext := { idx := fun _ => none, ld := fun _ => none, st := fun _ => none, gen := fun _ => none, mks := fun _ => none, ky := fun _ => none, old := old, T2 := Fr0 }
/-- the longest of numbers -/
def mxL (x : Nat → Nat) : Nat → Nat
  | 0 => 0
  | i + 1 => if lenF (x i) > mxL x i then lenF (x i) else mxL x i
theorem mxL_ge (x : Nat → Nat) : ∀ n i, i < n → lenF (x i) ≤ mxL x n
  | n + 1, i, h => by
    unfold mxL
    by_cases e : i = n
    · subst e; split <;> omega
    · have := mxL_ge x n i (by omega)
      split <;> omega

/-- a point's multiples by 0 and on -/
noncomputable def jt1 (p : J1) : Nat → J1
  | 0 => (F1.zero, F1.zero, F1.zero)
  | k + 1 => jplus F1 (jt1 p k) p
noncomputable def tms1 (p : J1) : Int → J1
  | .ofNat 0 => (F1.zero, F1.zero, F1.zero)
  | .ofNat (k + 1) => jt1 p (k + 1)
  | .negSucc k => jneg F1 (jt1 p (k + 1))
/-- the sum at a place, of so many points -/
noncomputable def cs1 (pt : Nat → J1) (x : Nat → Nat) (p : Nat) : Nat → J1
  | 0 => (F1.zero, F1.zero, F1.zero)
  | i + 1 => jplus F1 (cs1 pt x p i) (tms1 (pt i) (digI (x i) p))
/-- what the closure finds in memory -/
structure ClMem1 (w : World) (bt bd bT N b o n m : Nat) (x : Nat → Nat) (pt : Nat → J1) : Prop where
  t : oldOf w bt 0 [.c (slV bT 0 N N)]
  d : oldOf w bd 0 (digS b o n m)
  x : ∀ i, i < n → oldOf w b (o + i * 4) [.q (x i)]
  p : ∀ i, i < N → ∀ k, k < 8 → oldOf w bT (i * 96 + k * 12) (ej1 (jt1 (pt i) (k + 1)))
theorem oldOf.on {base : Nat} {w w' : World} (hb : Below w.heap.size w w') {b o : Nat} {l : List At} (h : oldOf w b o l) : oldOf w' b o l := ⟨Nat.lt_of_lt_of_le h.1 hb.size, below_range hb h.1 h.2⟩
theorem ClMem1.on {w w' : World} (hb : Below w.heap.size w w') {bt bd bT N b o n m : Nat} {x : Nat → Nat} {pt : Nat → J1} (h : ClMem1 w bt bd bT N b o n m x pt) : ClMem1 w' bt bd bT N b o n m x pt :=
  ⟨h.t.on hb (base := 0), h.d.on hb (base := 0), fun i hi => (h.x i hi).on hb (base := 0), fun i hi k hk => (h.p i hi k hk).on hb (base := 0)⟩
/-- the sum over the places, the highest first -/
noncomputable def ov1 (D : Nat → J1) (PL : Nat) : Nat → J1
  | 0 => (F1.zero, F1.zero, F1.zero)
  | i + 1 => jplus F1 (jdbl F1 (jdbl F1 (jdbl F1 (jdbl F1 (ov1 D PL i))))) (D (PL - 1 - i))
/-- a point's multiples by 0 and on -/
noncomputable def jt2 (p : J2) : Nat → J2
  | 0 => (F2.zero, F2.zero, F2.zero)
  | k + 1 => jplus F2 (jt2 p k) p
noncomputable def tms2 (p : J2) : Int → J2
  | .ofNat 0 => (F2.zero, F2.zero, F2.zero)
  | .ofNat (k + 1) => jt2 p (k + 1)
  | .negSucc k => jneg F2 (jt2 p (k + 1))
/-- the sum at a place, of so many points -/
noncomputable def cs2 (pt : Nat → J2) (x : Nat → Nat) (p : Nat) : Nat → J2
  | 0 => (F2.zero, F2.zero, F2.zero)
  | i + 1 => jplus F2 (cs2 pt x p i) (tms2 (pt i) (digI (x i) p))
/-- what the closure finds in memory -/
structure ClMem2 (w : World) (bt bd bT N b o n m : Nat) (x : Nat → Nat) (pt : Nat → J2) : Prop where
  t : oldOf w bt 0 [.c (slV bT 0 N N)]
  d : oldOf w bd 0 (digS b o n m)
  x : ∀ i, i < n → oldOf w b (o + i * 4) [.q (x i)]
  p : ∀ i, i < N → ∀ k, k < 8 → oldOf w bT (i * 192 + k * 24) (ej2 (jt2 (pt i) (k + 1)))
theorem ClMem2.on {w w' : World} (hb : Below w.heap.size w w') {bt bd bT N b o n m : Nat} {x : Nat → Nat} {pt : Nat → J2} (h : ClMem2 w bt bd bT N b o n m x pt) : ClMem2 w' bt bd bT N b o n m x pt :=
  ⟨h.t.on hb (base := 0), h.d.on hb (base := 0), fun i hi => (h.x i hi).on hb (base := 0), fun i hi k hk => (h.p i hi k hk).on hb (base := 0)⟩
/-- the sum over the places, the highest first -/
noncomputable def ov2 (D : Nat → J2) (PL : Nat) : Nat → J2
  | 0 => (F2.zero, F2.zero, F2.zero)
  | i + 1 => jplus F2 (jdbl F2 (jdbl F2 (jdbl F2 (jdbl F2 (ov2 D PL i))))) (D (PL - 1 - i))
end Go.Proofs.Ytebaoemoeckgaaa.Ex
namespace Go.Proofs.Ytebaoemoeckgaaa.Ex
set_option linter.unusedVariables false
set_option linter.unusedSimpArgs false
open Go.RowKit
def zp1 : J1 := (F1.zero, F1.zero, F1.zero)
def zp2 : J2 := (F2.zero, F2.zero, F2.zero)
end Go.Proofs.Ytebaoemoeckgaaa.Ex
