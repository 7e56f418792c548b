/-
  The reference's Fp2 and Fp6 in a table of calls; the tower's Fp6. Conditions: none.
-/
import Derived.Test.YtgacpjmggdmgdaaGreatTwLaw
import Derived.Test.YtgacpjmggdmgdaaGreatRefB
namespace Go.Proofs.YtgacpjmggdmgdaaGreat.Ex
set_option linter.unusedVariables false
set_option linter.unusedSimpArgs false
open Go.RowKit
/-- the reference's calls over the first field -/
def gR (op : Fq → Fq → Fq) : Ent
  | [.v (.im (.int .i64 (.ofNat 1))), .v (.fl l), .v (.fl m)] => match rv1 l, rv1 m with
    | some x, some y => some ([], .one (.fl (e1 (op x y))))
    | _, _ => none
  | _ => none
noncomputable def gRI (c : Bool) : Ent
  | [.v (.im (.int .i64 (.ofNat 1))), .v (.fl l)] => match rv1 l with
    | some x => bif c then some ([x ≠ F1.zero], .many [.fl (e1 (finv x)), .im (.int .i64 0)]) else some ([x = F1.zero], .many [.fl (e1 F1.zero), .im (.int .i64 22)])
    | none => none
  | _ => none
theorem gR_ok {f : FuncId} {op : Fq → Fq → Fq} (h : ∀ (a b : Nat) (w : World), Calls Tryz.prog f #[.int .i64 1, .agg (flat (q1 a)).toArray, .agg (flat (q1 b)).toArray] w (FwPost (op (m1 a) (m1 b)).1 w)) :
    ∀ cs pre r, gR op cs = some (pre, r) → allP pre → ∀ (args : List Value) (w : World), CAs w cs args → Good Tryz.prog f r args w := by
  intro cs pre r hg hp args w ha
  unfold gR at hg
  split at hg
  · rename_i l m
    split at hg
    · rename_i x y hx hy
      cases hg
      obtain ⟨a, e1, rfl⟩ := rv1_ok l x hx
      obtain ⟨b, e2, rfl⟩ := rv1_ok m y hy
      match args, ha with
      | [v, u, s], ha =>
        have h1 : v = .int .i64 1 := ha.1
        have h2 : u = .agg (flat l).toArray := ha.2.1
        have h3 : s = .agg (flat m).toArray := ha.2.2.1
        rw [e1] at h2
        rw [e2] at h3
        subst h1; subst h2; subst h3
        exact (h a b w).mono fun e w' h => h
      | [], ha => exact ha.elim
      | [_], ha => exact ha.2.elim
      | [_, _], ha => exact ha.2.2.elim
      | _ :: _ :: _ :: _ :: _, ha => exact ha.2.2.2.elim
    · cases hg
  · cases hg
theorem r_add (a b : Nat) (w : World) : Calls Tryz.prog 88 #[.int .i64 1, .agg (flat (q1 a)).toArray, .agg (flat (q1 b)).toArray] w (FwPost (F1.add (m1 a) (m1 b)).1 w) := by
  refine (radd_calls 1 FP fld1 _ _ _ _ _ _ _ _ (fw_ok a) (fw_ok b) w).mono fun e w' h => ?_
  rw [show (F1.add (m1 a) (m1 b)).1 = (val4 (fw a 0) (fw a 1) (fw a 2) (fw a 3) + val4 (fw b 0) (fw b 1) (fw b 2) (fw b 3)) % FP.M from (Nat.add_mod _ _ _).symm]
  exact FwPost.of (Nat.mod_lt _ fp_pos) h
theorem r_sub (a b : Nat) (w : World) : Calls Tryz.prog 102 #[.int .i64 1, .agg (flat (q1 a)).toArray, .agg (flat (q1 b)).toArray] w (FwPost (F1.sub (m1 a) (m1 b)).1 w) := by
  refine (rsub_calls 1 FP fld1 _ _ _ _ _ _ _ _ (fw_ok a) (fw_ok b) w).mono fun e w' h => ?_
  have e : (F1.sub (m1 a) (m1 b)).1 = (val4 (fw a 0) (fw a 1) (fw a 2) (fw a 3) + (FP.M - val4 (fw b 0) (fw b 1) (fw b 2) (fw b 3) % FP.M)) % FP.M := by
    show (wv a % FP.M + (0 + FP.M - wv b % FP.M) % FP.M) % FP.M = (wv a + (FP.M - wv b % FP.M)) % FP.M
    rw [Nat.zero_add, ← Nat.add_mod]
  rw [e]
  exact FwPost.of (Nat.mod_lt _ fp_pos) h
theorem r_mul (a b : Nat) (w : World) : Calls Tryz.prog 89 #[.int .i64 1, .agg (flat (q1 a)).toArray, .agg (flat (q1 b)).toArray] w (FwPost (F1.mul (m1 a) (m1 b)).1 w) := by
  refine (rmul_calls 1 FP fld1 _ _ _ _ _ _ _ _ (fw_ok a) (fw_ok b) w).mono fun e w' h => ?_
  rw [show (F1.mul (m1 a) (m1 b)).1 = (val4 (fw a 0) (fw a 1) (fw a 2) (fw a 3) * val4 (fw b 0) (fw b 1) (fw b 2) (fw b 3)) % FP.M from (Nat.mul_mod _ _ _).symm]
  exact FwPost.of (Nat.mod_lt _ fp_pos) h
theorem r_inv (c : Bool) : ∀ cs pre r, gRI c cs = some (pre, r) → allP pre → ∀ (args : List Value) (w : World), CAs w cs args → Good Tryz.prog 45 r args w := by
  intro cs pre r hg hp args w ha
  unfold gRI at hg
  split at hg
  · rename_i l
    split at hg
    · rename_i x hx
      obtain ⟨a, e1, rfl⟩ := rv1_ok l x hx
      match args, ha with
      | [v, u], ha =>
        have h1 : v = .int .i64 1 := ha.1
        have h2 : u = .agg (flat l).toArray := ha.2.1
        rw [e1] at h2
        subst h1; subst h2
        cases c
        · cases hg
          have hz : m1 a = F1.zero := hp.1
          have hz' : val4 (fw a 0) (fw a 1) (fw a 2) (fw a 3) % FP.M = 0 := congrArg Fin.val hz
          refine (rinv0_calls 1 FP fld1 _ _ _ _ (fw_ok a) hz' w).mono ?_
          rintro e w' ⟨s0, s1, s2, s3, rfl, hs, hv, hb⟩
          obtain ⟨rfl, rfl, rfl, rfl⟩ := fw_of hs (fp_lt fp_pos) hv
          exact ⟨rfl, hb⟩
        · cases hg
          have hz : m1 a ≠ F1.zero := hp.1
          have hz' : val4 (fw a 0) (fw a 1) (fw a 2) (fw a 3) % FP.M ≠ 0 := fun e => hz (Fin.ext e)
          refine (rinv1_calls 1 FP fld1 _ _ _ _ (fw_ok a) hz' w).mono ?_
          rintro e w' ⟨s0, s1, s2, s3, rfl, hs, hv, hb⟩
          have hf : (finv (m1 a)).1 = val4 (fw a 0) (fw a 1) (fw a 2) (fw a 3) ^ (FP.M - 2) % FP.M := by
            rw [finv_val, Nat.one_mul]
            exact (Nat.pow_mod _ _ _).symm
          rw [← hf] at hv
          obtain ⟨rfl, rfl, rfl, rfl⟩ := fw_of hs (fp_lt (finv (m1 a)).2) hv
          exact ⟨rfl, hb⟩
      | [], ha => exact ha.elim
      | [_], ha => exact ha.2.elim
      | _ :: _ :: _ :: _, ha => exact ha.2.2.elim
    · cases hg
  · cases hg

noncomputable def T_r2Add (c : Bool) : Tab := (T_alive c).add 88 (gR F1.add)
theorem ok_r2Add (c : Bool) : TabOk Tryz.prog (T_r2Add c) := (ok_alive c).add Tryz.func88 (by kernel_rfl) (by kernel_rfl) (gR_ok r_add)
noncomputable def T_r2Sub (c : Bool) : Tab := (T_r2Add c).add 102 (gR F1.sub)
theorem ok_r2Sub (c : Bool) : TabOk Tryz.prog (T_r2Sub c) := (ok_r2Add c).add Tryz.func102 (by kernel_rfl) (by kernel_rfl) (gR_ok r_sub)
noncomputable def T_r2Mul (c : Bool) : Tab := (T_r2Sub c).add 89 (gR F1.mul)
theorem ok_r2Mul (c : Bool) : TabOk Tryz.prog (T_r2Mul c) := (ok_r2Sub c).add Tryz.func89 (by kernel_rfl) (by kernel_rfl) (gR_ok r_mul)
noncomputable def T_r2Inv (c : Bool) : Tab := (T_r2Mul c).add 45 (gRI c)
theorem ok_r2Inv (c : Bool) : TabOk Tryz.prog (T_r2Inv c) := (ok_r2Mul c).add Tryz.func45 (by kernel_rfl) (by kernel_rfl) (r_inv c)
set_option maxRecDepth 100000 in
theorem run_radd (c : Bool) (x : Nat) (y : Nat) : funA Tryz.prog (T_r2Inv c) qN (fun _ => true) Tryz.f46 40 [.v (.fl (q1 x)), .v (.fl (q1 y))] = some ([], .one (.fl (e1 (F1.add (m1 x) (m1 y))))) := by kernel_rfl
noncomputable def T_radd (c : Bool) : Tab := (T_r2Inv c).add 46 (g2 rv1 rv1 (fun x y => ([], .one (.fl (e1 (F1.add x y))))))
theorem ok_radd (c : Bool) : TabOk Tryz.prog (T_radd c) := (ok_r2Inv c).add Tryz.func46 (by kernel_rfl) (by kernel_rfl) (g2v_ok rv1_ok rv1_ok fun x y hp args w ha => fun_sound hmix (ok_r2Inv c) qN_ok Tryz.func46 (run_radd c x y) hp ha)
set_option maxRecDepth 100000 in
theorem run_rsub (c : Bool) (x : Nat) (y : Nat) : funA Tryz.prog (T_radd c) qN (fun _ => true) Tryz.f51 40 [.v (.fl (q1 x)), .v (.fl (q1 y))] = some ([], .one (.fl (e1 (F1.sub (m1 x) (m1 y))))) := by kernel_rfl
noncomputable def T_rsub (c : Bool) : Tab := (T_radd c).add 51 (g2 rv1 rv1 (fun x y => ([], .one (.fl (e1 (F1.sub x y))))))
theorem ok_rsub (c : Bool) : TabOk Tryz.prog (T_rsub c) := (ok_radd c).add Tryz.func51 (by kernel_rfl) (by kernel_rfl) (g2v_ok rv1_ok rv1_ok fun x y hp args w ha => fun_sound hmix (ok_radd c) qN_ok Tryz.func51 (run_rsub c x y) hp ha)
set_option maxRecDepth 100000 in
theorem run_rmul (c : Bool) (x : Nat) (y : Nat) : funA Tryz.prog (T_rsub c) qN (fun _ => true) Tryz.f47 40 [.v (.fl (q1 x)), .v (.fl (q1 y))] = some ([], .one (.fl (e1 (F1.mul (m1 x) (m1 y))))) := by kernel_rfl
noncomputable def T_rmul (c : Bool) : Tab := (T_rsub c).add 47 (g2 rv1 rv1 (fun x y => ([], .one (.fl (e1 (F1.mul x y))))))
theorem ok_rmul (c : Bool) : TabOk Tryz.prog (T_rmul c) := (ok_rsub c).add Tryz.func47 (by kernel_rfl) (by kernel_rfl) (g2v_ok rv1_ok rv1_ok fun x y hp args w ha => fun_sound hmix (ok_rsub c) qN_ok Tryz.func47 (run_rmul c x y) hp ha)
set_option maxRecDepth 100000 in
theorem run_rAdd2 (c : Bool) (x : N2) (y : N2) : funA Tryz.prog (T_rmul c) qN (fun _ => true) Tryz.f12 40 [.v (.fl (q2 x)), .v (.fl (q2 y))] = some ([], .one (.fl (e2 (F2.add (m2 x) (m2 y))))) := by kernel_rfl
noncomputable def T_rAdd2 (c : Bool) : Tab := (T_rmul c).add 12 (g2 rv2 rv2 (fun x y => ([], .one (.fl (e2 (F2.add x y))))))
theorem ok_rAdd2 (c : Bool) : TabOk Tryz.prog (T_rAdd2 c) := (ok_rmul c).add Tryz.func12 (by kernel_rfl) (by kernel_rfl) (g2v_ok rv2_ok rv2_ok fun x y hp args w ha => fun_sound hmix (ok_rmul c) qN_ok Tryz.func12 (run_rAdd2 c x y) hp ha)
set_option maxRecDepth 100000 in
theorem run_rSub2 (c : Bool) (x : N2) (y : N2) : funA Tryz.prog (T_rAdd2 c) qN (fun _ => true) Tryz.f14 40 [.v (.fl (q2 x)), .v (.fl (q2 y))] = some ([], .one (.fl (e2 (F2.sub (m2 x) (m2 y))))) := by kernel_rfl
noncomputable def T_rSub2 (c : Bool) : Tab := (T_rAdd2 c).add 14 (g2 rv2 rv2 (fun x y => ([], .one (.fl (e2 (F2.sub x y))))))
theorem ok_rSub2 (c : Bool) : TabOk Tryz.prog (T_rSub2 c) := (ok_rAdd2 c).add Tryz.func14 (by kernel_rfl) (by kernel_rfl) (g2v_ok rv2_ok rv2_ok fun x y hp args w ha => fun_sound hmix (ok_rAdd2 c) qN_ok Tryz.func14 (run_rSub2 c x y) hp ha)
set_option maxRecDepth 100000 in
theorem run_rMul2 (c : Bool) (x : N2) (y : N2) : funA Tryz.prog (T_rSub2 c) qN (fun _ => true) Tryz.f16 40 [.v (.fl (q2 x)), .v (.fl (q2 y))] = some ([], .one (.fl (e2 ((F1.sub (F1.mul (m2 x).1 (m2 y).1) (F1.mul (m2 x).2 (m2 y).2), F1.add (F1.mul (m2 x).1 (m2 y).2) (F1.mul (m2 x).2 (m2 y).1)))))) := by kernel_rfl
theorem raw_rMul2 (x : Q2) (y : Q2) : F2.mul x y = (F1.sub (F1.mul x.1 y.1) (F1.mul x.2 y.2), F1.add (F1.mul x.1 y.2) (F1.mul x.2 y.1)) := by
  refine Prod.ext ?_ rfl
  show F1.add (F1.mul x.1 y.1) (F1.mul (F1.neg F1.one) (F1.mul x.2 y.2)) = F1.add (F1.mul x.1 y.1) (F1.neg (F1.mul x.2 y.2))
  rw [F1.neg_mul, F1.one_mul]
noncomputable def T_rMul2 (c : Bool) : Tab := (T_rSub2 c).add 16 (g2 rv2 rv2 (fun x y => ([], .one (.fl (e2 (F2.mul x y))))))
theorem ok_rMul2 (c : Bool) : TabOk Tryz.prog (T_rMul2 c) := (ok_rSub2 c).add Tryz.func16 (by kernel_rfl) (by kernel_rfl) (g2v_ok rv2_ok rv2_ok fun x y hp args w ha => by show Good _ _ (.one (.fl (e2 (F2.mul (m2 x) (m2 y))))) _ _; rw [raw_rMul2]; exact fun_sound hmix (ok_rSub2 c) qN_ok Tryz.func16 (run_rMul2 c x y) hp ha)
set_option maxRecDepth 100000 in
theorem run_rNeg2 (c : Bool) (x : N2) : funA Tryz.prog (T_rMul2 c) qN (fun _ => true) Tryz.f18 40 [.v (.fl (q2 x))] = some ([], .one (.fl (e2 (F2.sub F2.zero (m2 x))))) := by kernel_rfl
noncomputable def T_rNeg2 (c : Bool) : Tab := (T_rMul2 c).add 18 (g1 rv2 (fun x => ([], .one (.fl (e2 (F2.sub F2.zero x))))))
theorem ok_rNeg2 (c : Bool) : TabOk Tryz.prog (T_rNeg2 c) := (ok_rMul2 c).add Tryz.func18 (by kernel_rfl) (by kernel_rfl) (g1v_ok rv2_ok fun x hp args w ha => fun_sound hmix (ok_rMul2 c) qN_ok Tryz.func18 (run_rNeg2 c x) hp ha)
set_option maxRecDepth 100000 in
theorem run_rConj2 (c : Bool) (x : N2) : funA Tryz.prog (T_rNeg2 c) qN (fun _ => true) Tryz.f20 40 [.v (.fl (q2 x))] = some ([], .one (.fl (e2 (F2.sub ((m2 x).1, F1.zero) (F1.zero, (m2 x).2))))) := by kernel_rfl
noncomputable def T_rConj2 (c : Bool) : Tab := (T_rNeg2 c).add 20 (g1 rv2 (fun x => ([], .one (.fl (e2 (F2.sub (x.1, F1.zero) (F1.zero, x.2)))))))
theorem ok_rConj2 (c : Bool) : TabOk Tryz.prog (T_rConj2 c) := (ok_rNeg2 c).add Tryz.func20 (by kernel_rfl) (by kernel_rfl) (g1v_ok rv2_ok fun x hp args w ha => fun_sound hmix (ok_rNeg2 c) qN_ok Tryz.func20 (run_rConj2 c x) hp ha)
set_option maxRecDepth 100000 in
theorem run_rXi (c : Bool) : funA Tryz.prog (T_rConj2 c) qN (fun _ => true) Tryz.f58 40 [] = some ([], .one (.fl (e2 xiE))) := by kernel_rfl
noncomputable def T_rXi (c : Bool) : Tab := (T_rConj2 c).add 58 (g0 (.one (.fl (e2 xiE))))
theorem ok_rXi (c : Bool) : TabOk Tryz.prog (T_rXi c) := (ok_rConj2 c).add Tryz.func58 (by kernel_rfl) (by kernel_rfl) (g0_ok fun w => fun_sound hmix (ok_rConj2 c) qN_ok Tryz.func58 (run_rXi c) trivial (args := []) trivial)
set_option maxRecDepth 100000 in
theorem run_rXi2 (c : Bool) (x : N2) : funA Tryz.prog (T_rXi c) qN (fun _ => true) Tryz.f22 40 [.v (.fl (q2 x))] = some ([], .one (.fl (e2 (F2.mul (m2 x) xiE)))) := by kernel_rfl
noncomputable def T_rXi2 (c : Bool) : Tab := (T_rXi c).add 22 (g1 rv2 (fun x => ([], .one (.fl (e2 (F2.mul x xiE))))))
theorem ok_rXi2 (c : Bool) : TabOk Tryz.prog (T_rXi2 c) := (ok_rXi c).add Tryz.func22 (by kernel_rfl) (by kernel_rfl) (g1v_ok rv2_ok fun x hp args w ha => fun_sound hmix (ok_rXi c) qN_ok Tryz.func22 (run_rXi2 c x) hp ha)
noncomputable def riv2 (x : Q2) : Q2 := F2.mul (F2.sub (x.1, F1.zero) (F1.zero, x.2)) (finv (nm2 x), F1.zero)
theorem riv2_eq (x : Q2) : riv2 x = iv2 x := by
  have h : ∀ k : Fq, F2.mul (F2.sub (x.1, F1.zero) (F1.zero, x.2)) (k, F1.zero) = sc2 (conj2' x) k := fun k => by
    refine Prod.ext ?_ ?_
    · exact ring_id F1 (envL F1 [x.1, x.2, k]) (.add (.mul (.add (.v 0) (.neg .zero)) (.v 2)) (.mul (.neg .one) (.mul (.add .zero (.neg (.v 1))) .zero))) (.mul (.v 0) (.v 2)) (by decide)
    · exact ring_id F1 (envL F1 [x.1, x.2, k]) (.add (.mul (.add (.v 0) (.neg .zero)) .zero) (.mul (.add .zero (.neg (.v 1))) (.v 2))) (.mul (.neg (.v 1)) (.v 2)) (by decide)
  exact h _
noncomputable def oR2 (c : Bool) (x : Q2) : List Prop × RV := bif c then ([nm2 x ≠ F1.zero], .many [.fl (e2 (riv2 x)), .im (.int .i64 0)]) else ([nm2 x = F1.zero], .many [.fl (e2 F2.zero), .im (.int .i64 22)])
set_option maxRecDepth 100000 in
theorem run_rInv2_true (x : N2) : funA Tryz.prog (T_rXi2 true) qN (fun _ => true) Tryz.f8 40 [.v (.fl (q2 x))] = some ([nm2 (m2 x) ≠ F1.zero], .many [.fl (e2 (riv2 (m2 x))), .im (.int .i64 0)]) := by kernel_rfl
set_option maxRecDepth 100000 in
theorem run_rInv2_false (x : N2) : funA Tryz.prog (T_rXi2 false) qN (fun _ => true) Tryz.f8 40 [.v (.fl (q2 x))] = some ([nm2 (m2 x) = F1.zero], .many [.fl (e2 F2.zero), .im (.int .i64 22)]) := by kernel_rfl
theorem oR2_ok (c : Bool) (x : N2) (hp : allP (oR2 c (m2 x)).1) (args : List Value) (w : World) (ha : CAs w [.v (.fl (q2 x))] args) : Good Tryz.prog 8 (oR2 c (m2 x)).2 args w := by
  cases c
  · exact fun_sound hmix (ok_rXi2 false) qN_ok Tryz.func8 (run_rInv2_false x) hp ha
  · exact fun_sound hmix (ok_rXi2 true) qN_ok Tryz.func8 (run_rInv2_true x) hp ha
noncomputable def T_rInv2 (c : Bool) : Tab := (T_rXi2 c).add 8 (g1 rv2 (oR2 c))
theorem ok_rInv2 (c : Bool) : TabOk Tryz.prog (T_rInv2 c) := (ok_rXi2 c).add Tryz.func8 (by kernel_rfl) (by kernel_rfl) (g1v_ok rv2_ok (oR2_ok c))
set_option maxRecDepth 100000 in
theorem run_rAdd6 (c : Bool) (x : N6) (y : N6) : funA Tryz.prog (T_rInv2 c) qN (fun _ => true) Tryz.f69 40 [.v (.fl (q6 x)), .v (.fl (q6 y))] = some ([], .one (.fl (e6 (F6.add (m6 x) (m6 y))))) := by kernel_rfl
noncomputable def T_rAdd6 (c : Bool) : Tab := (T_rInv2 c).add 69 (g2 rv6 rv6 (fun x y => ([], .one (.fl (e6 (F6.add x y))))))
theorem ok_rAdd6 (c : Bool) : TabOk Tryz.prog (T_rAdd6 c) := (ok_rInv2 c).add Tryz.func69 (by kernel_rfl) (by kernel_rfl) (g2v_ok rv6_ok rv6_ok fun x y hp args w ha => fun_sound hmix (ok_rInv2 c) qN_ok Tryz.func69 (run_rAdd6 c x y) hp ha)
set_option maxRecDepth 100000 in
theorem run_rSub6 (c : Bool) (x : N6) (y : N6) : funA Tryz.prog (T_rAdd6 c) qN (fun _ => true) Tryz.f64 40 [.v (.fl (q6 x)), .v (.fl (q6 y))] = some ([], .one (.fl (e6 (F6.sub (m6 x) (m6 y))))) := by kernel_rfl
noncomputable def T_rSub6 (c : Bool) : Tab := (T_rAdd6 c).add 64 (g2 rv6 rv6 (fun x y => ([], .one (.fl (e6 (F6.sub x y))))))
theorem ok_rSub6 (c : Bool) : TabOk Tryz.prog (T_rSub6 c) := (ok_rAdd6 c).add Tryz.func64 (by kernel_rfl) (by kernel_rfl) (g2v_ok rv6_ok rv6_ok fun x y hp args w ha => fun_sound hmix (ok_rAdd6 c) qN_ok Tryz.func64 (run_rSub6 c x y) hp ha)
set_option maxRecDepth 100000 in
theorem run_rMul6 (c : Bool) (x : N6) (y : N6) : funA Tryz.prog (T_rSub6 c) qN (fun _ => true) Tryz.f65 40 [.v (.fl (q6 x)), .v (.fl (q6 y))] = some ([], .one (.fl (e6 ((F2.add (F2.mul (m6 x).1 (m6 y).1) (F2.mul (F2.add (F2.mul (m6 x).2.1 (m6 y).2.2) (F2.mul (m6 x).2.2 (m6 y).2.1)) xiE), F2.add (F2.add (F2.mul (m6 x).1 (m6 y).2.1) (F2.mul (m6 x).2.1 (m6 y).1)) (F2.mul (F2.mul (m6 x).2.2 (m6 y).2.2) xiE), F2.add (F2.add (F2.mul (m6 x).1 (m6 y).2.2) (F2.mul (m6 x).2.1 (m6 y).2.1)) (F2.mul (m6 x).2.2 (m6 y).1)))))) := by kernel_rfl
theorem raw_rMul6 (x : Q6) (y : Q6) : F6.mul x y = (F2.add (F2.mul x.1 y.1) (F2.mul (F2.add (F2.mul x.2.1 y.2.2) (F2.mul x.2.2 y.2.1)) xiE), F2.add (F2.add (F2.mul x.1 y.2.1) (F2.mul x.2.1 y.1)) (F2.mul (F2.mul x.2.2 y.2.2) xiE), F2.add (F2.add (F2.mul x.1 y.2.2) (F2.mul x.2.1 y.2.1)) (F2.mul x.2.2 y.1)) := by
  rw [F2.mul_comm _ xiE, F2.mul_comm _ xiE]
  rfl
noncomputable def T_rMul6 (c : Bool) : Tab := (T_rSub6 c).add 65 (g2 rv6 rv6 (fun x y => ([], .one (.fl (e6 (F6.mul x y))))))
theorem ok_rMul6 (c : Bool) : TabOk Tryz.prog (T_rMul6 c) := (ok_rSub6 c).add Tryz.func65 (by kernel_rfl) (by kernel_rfl) (g2v_ok rv6_ok rv6_ok fun x y hp args w ha => by show Good _ _ (.one (.fl (e6 (F6.mul (m6 x) (m6 y))))) _ _; rw [raw_rMul6]; exact fun_sound hmix (ok_rSub6 c) qN_ok Tryz.func65 (run_rMul6 c x y) hp ha)
set_option maxRecDepth 100000 in
theorem run_rNeg6 (c : Bool) (x : N6) : funA Tryz.prog (T_rMul6 c) qN (fun _ => true) Tryz.f67 40 [.v (.fl (q6 x))] = some ([], .one (.fl (e6 (F6.sub F6.zero (m6 x))))) := by kernel_rfl
noncomputable def T_rNeg6 (c : Bool) : Tab := (T_rMul6 c).add 67 (g1 rv6 (fun x => ([], .one (.fl (e6 (F6.sub F6.zero x))))))
theorem ok_rNeg6 (c : Bool) : TabOk Tryz.prog (T_rNeg6 c) := (ok_rMul6 c).add Tryz.func67 (by kernel_rfl) (by kernel_rfl) (g1v_ok rv6_ok fun x hp args w ha => fun_sound hmix (ok_rMul6 c) qN_ok Tryz.func67 (run_rNeg6 c x) hp ha)
set_option maxRecDepth 100000 in
theorem run_rV6 (c : Bool) (x : N6) : funA Tryz.prog (T_rNeg6 c) qN (fun _ => true) Tryz.f66 40 [.v (.fl (q6 x))] = some ([], .one (.fl (e6 ((F2.mul (m6 x).2.2 xiE, F2.sub (m6 x).1 F2.zero, F2.sub (m6 x).2.1 F2.zero))))) := by kernel_rfl
theorem raw_rV6 (x : Q6) : F6.mul vE x = (F2.mul x.2.2 xiE, F2.sub x.1 F2.zero, F2.sub x.2.1 F2.zero) := by
  rw [raw_t6v]
  show (_, x.1, x.2.1) = (_, F2.add x.1 (F2.neg F2.zero), F2.add x.2.1 (F2.neg F2.zero))
  rw [neg_zero, F2.add_zero, F2.add_zero]
noncomputable def T_rV6 (c : Bool) : Tab := (T_rNeg6 c).add 66 (g1 rv6 (fun x => ([], .one (.fl (e6 (F6.mul vE x))))))
theorem ok_rV6 (c : Bool) : TabOk Tryz.prog (T_rV6 c) := (ok_rNeg6 c).add Tryz.func66 (by kernel_rfl) (by kernel_rfl) (g1v_ok rv6_ok fun x hp args w ha => by show Good _ _ (.one (.fl (e6 (F6.mul vE (m6 x))))) _ _; rw [raw_rV6]; exact fun_sound hmix (ok_rNeg6 c) qN_ok Tryz.func66 (run_rV6 c x) hp ha)
def rn6 (x : Q6) : Q2 := F2.add (F2.mul x.1 (adj6 x).1) (F2.mul (F2.add (F2.mul x.2.2 (adj6 x).2.1) (F2.mul x.2.1 (adj6 x).2.2)) xiE)
theorem rn6_eq (x : Q6) : rn6 x = n6 x := by
  show F2.add _ (F2.mul (F2.add _ _) xiE) = F2.add _ (F2.mul xiE (F2.add _ _))
  rw [F2.mul_comm _ xiE, F2.add_comm (F2.mul x.2.2 _)]
noncomputable def riv6 (x : Q6) : Q6 := (F2.mul (adj6 x).1 (riv2 (rn6 x)), F2.mul (adj6 x).2.1 (riv2 (rn6 x)), F2.mul (adj6 x).2.2 (riv2 (rn6 x)))
theorem riv6_eq (x : Q6) : riv6 x = iv6 x := by unfold riv6; rw [riv2_eq, rn6_eq]; rfl
noncomputable def oR6 (c : Bool) (x : Q6) : List Prop × RV := bif c then ([nm2 (rn6 x) ≠ F1.zero], .many [.fl (e6 (riv6 x)), .im (.int .i64 0)]) else ([nm2 (rn6 x) = F1.zero], .many [.fl (e6 F6.zero), .im (.int .i64 22)])
set_option maxRecDepth 100000 in
theorem run_rInv6_true (x : N6) : funA Tryz.prog (T_rV6 true) qN (fun _ => true) Tryz.f63 40 [.v (.fl (q6 x))] = some ([nm2 (rn6 (m6 x)) ≠ F1.zero], .many [.fl (e6 (riv6 (m6 x))), .im (.int .i64 0)]) := by kernel_rfl
set_option maxRecDepth 100000 in
theorem run_rInv6_false (x : N6) : funA Tryz.prog (T_rV6 false) qN (fun _ => true) Tryz.f63 40 [.v (.fl (q6 x))] = some ([nm2 (rn6 (m6 x)) = F1.zero], .many [.fl (e6 F6.zero), .im (.int .i64 22)]) := by kernel_rfl
theorem oR6_ok (c : Bool) (x : N6) (hp : allP (oR6 c (m6 x)).1) (args : List Value) (w : World) (ha : CAs w [.v (.fl (q6 x))] args) : Good Tryz.prog 63 (oR6 c (m6 x)).2 args w := by
  cases c
  · exact fun_sound hmix (ok_rV6 false) qN_ok Tryz.func63 (run_rInv6_false x) hp ha
  · exact fun_sound hmix (ok_rV6 true) qN_ok Tryz.func63 (run_rInv6_true x) hp ha
noncomputable def T_rInv6 (c : Bool) : Tab := (T_rV6 c).add 63 (g1 rv6 (oR6 c))
theorem ok_rInv6 (c : Bool) : TabOk Tryz.prog (T_rInv6 c) := (ok_rV6 c).add Tryz.func63 (by kernel_rfl) (by kernel_rfl) (g1v_ok rv6_ok (oR6_ok c))
def gBoth3 : Ent
  | [.v (.fl l), .v (.fl m), .v (.im (.func (.func id) a b))] => match rv6 l, rv6 m, a.toList, b.toList with
    | some x, some y, [], [] => bif Nat.beq id 106 then some ([], .one (.fl (e6 (F6.mul x y)))) else bif Nat.beq id 112 then some ([], .one (.fl (e6 (F6.add x y)))) else bif Nat.beq id 108 then some ([], .one (.fl (e6 (F6.sub x y)))) else none
    | _, _, _, _ => none
  | _ => none
set_option maxRecDepth 100000 in
theorem run_both_t6times (c : Bool) (x y : N6) : funA Tryz.prog (T_rInv6 c) qN (fun _ => true) Tryz.f105 40 [.v (.fl (q6 x)), .v (.fl (q6 y)), .v (.im (.func (.func 106) #[] #[]))] = some ([], .one (.fl (e6 (F6.mul (m6 x) (m6 y))))) := by kernel_rfl
set_option maxRecDepth 100000 in
theorem run_both_t6plus (c : Bool) (x y : N6) : funA Tryz.prog (T_rInv6 c) qN (fun _ => true) Tryz.f105 40 [.v (.fl (q6 x)), .v (.fl (q6 y)), .v (.im (.func (.func 112) #[] #[]))] = some ([], .one (.fl (e6 (F6.add (m6 x) (m6 y))))) := by kernel_rfl
set_option maxRecDepth 100000 in
theorem run_both_t6minus (c : Bool) (x y : N6) : funA Tryz.prog (T_rInv6 c) qN (fun _ => true) Tryz.f105 40 [.v (.fl (q6 x)), .v (.fl (q6 y)), .v (.im (.func (.func 108) #[] #[]))] = some ([], .one (.fl (e6 (F6.sub (m6 x) (m6 y))))) := by kernel_rfl
theorem both3_ok (c : Bool) : ∀ cs pre r, gBoth3 cs = some (pre, r) → allP pre → ∀ (args : List Value) (w : World), CAs w cs args → Good Tryz.prog 105 r args w := by
  intro cs pre r hg hp args w ha
  unfold gBoth3 at hg
  split at hg
  · rename_i l m id a b
    split at hg
    · rename_i x y hx hy h1 h2
      obtain ⟨n, e1, rfl⟩ := rv6_ok l x hx
      obtain ⟨n', e2, rfl⟩ := rv6_ok m y hy
      have ea : a = #[] := by rw [← Array.toArray_toList (xs := a), h1]
      have eb : b = #[] := by rw [← Array.toArray_toList (xs := b), h2]
      subst ea; subst eb
      have ha' : CAs w [.v (.fl (q6 n)), .v (.fl (q6 n')), .v (.im (.func (.func id) #[] #[]))] args := by
        match args, ha with
        | [v, u, s], ha =>
          refine ⟨?_, ?_, ha.2.2.1, trivial⟩
          · show v = .agg (flat (q6 n)).toArray
            rw [← e1]
            exact ha.1
          · show u = .agg (flat (q6 n')).toArray
            rw [← e2]
            exact ha.2.1
        | [], ha => exact ha.elim
        | [_], ha => exact ha.2.elim
        | [_, _], ha => exact ha.2.2.elim
        | _ :: _ :: _ :: _ :: _, ha => exact ha.2.2.2.elim
      cases hb : Nat.beq id 106 <;> rw [hb] at hg
      · cases hb2 : Nat.beq id 112 <;> rw [hb2] at hg
        · cases hb3 : Nat.beq id 108 <;> rw [hb3] at hg
          · cases hg
          · cases hg
            cases Nat.eq_of_beq_eq_true hb3
            exact fun_sound hmix (ok_rInv6 c) qN_ok Tryz.func105 (run_both_t6minus c n n') trivial ha'
        · cases hg
          cases Nat.eq_of_beq_eq_true hb2
          exact fun_sound hmix (ok_rInv6 c) qN_ok Tryz.func105 (run_both_t6plus c n n') trivial ha'
      · cases hg
        cases Nat.eq_of_beq_eq_true hb
        exact fun_sound hmix (ok_rInv6 c) qN_ok Tryz.func105 (run_both_t6times c n n') trivial ha'
    · cases hg
  · cases hg
noncomputable def T_both3 (c : Bool) : Tab := (T_rInv6 c).add 105 gBoth3
theorem ok_both3 (c : Bool) : TabOk Tryz.prog (T_both3 c) := (ok_rInv6 c).add Tryz.func105 (by kernel_rfl) (by kernel_rfl) (both3_ok c)
set_option maxRecDepth 100000 in
theorem run_Mul6b (c : Bool) (x : N6) (y : N6) : funA Tryz.prog (T_both3 c) qN (fun _ => true) Tryz.f59 40 [.v (.fl (q6 x)), .v (.fl (q6 y))] = some ([], .one (.fl (e6 (F6.mul (m6 x) (m6 y))))) := by kernel_rfl
noncomputable def T_Mul6b (c : Bool) : Tab := (T_both3 c).add 59 (g2 rv6 rv6 (fun x y => ([], .one (.fl (e6 (F6.mul x y))))))
theorem ok_Mul6b (c : Bool) : TabOk Tryz.prog (T_Mul6b c) := (ok_both3 c).add Tryz.func59 (by kernel_rfl) (by kernel_rfl) (g2v_ok rv6_ok rv6_ok fun x y hp args w ha => fun_sound hmix (ok_both3 c) qN_ok Tryz.func59 (run_Mul6b c x y) hp ha)
noncomputable def oI6 (c : Bool) (x : Q6) : List Prop × RV := bif c then ([nm2 (n6 x) ≠ F1.zero], .many [.fl (e6 (iv6 x)), .im (.int .i64 0)]) else ([nm2 (n6 x) = F1.zero], .many [.fl (e6 F6.zero), .im (.int .i64 22)])
end Go.Proofs.YtgacpjmggdmgdaaGreat.Ex
