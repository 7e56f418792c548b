/-
  The reference's Fp2 and Fp6 in a table of calls; the tower's Fp6. Conditions: none.
  The law TowerSix answers true, whatever it is handed. Conditions: none.
  From a row's premises to a walk's: an argument of four words is opened. Conditions: none of its own.
  An argument that is an element of the tower is opened: it lies flat, its numbers' words. Conditions: none of its own.
  THE STATEMENT TowerSix, lifted: for any arguments the law answers true and its arguments read as they did. Conditions: the row's own.
-/
import Derived.Test.YtkkbjemifmekfaaGreatTwLaw
import Derived.Test.YtkkbjemifmekfaaGreatRefB
import Derived.Test.YtkkbjemifmekfaaGreatRows
import Derived.Test.YtkkbjemifmekfaaGreatRow
import Derived.ProofKit
import Derived.LaidMore
import Derived.OpenShut
import Derived.Stop.Joined
import Derived.Carry
import Derived.RowKit
import Derived.ChangeSame
import Derived.JoinedOf
import Derived.JoinedAt
import Derived.Laws.IdiomArrays
import Derived.Test.YtkkbjemifmekfaaGreatTwTab
import Derived.Deep.Strs
namespace Go.Proofs.YtkkbjemifmekfaaGreat.Ex
set_option linter.unusedVariables false
set_option linter.unusedSimpArgs false
open Go.RowKit

/-- numbers as they come in, by value -/
def vl : At → Option Fq
  | .f x => some x
  | .q x => some (m1 x)
  | .c _ => none
def vls : List At → Option (List Fq)
  | [] => some []
  | a :: r => match vl a, vls r with | some x, some l => some (x :: l) | _, _ => none
def rv1 (l : List At) : Option Fq := match vls l with | some [a] => some a | _ => none
def rv2 (l : List At) : Option Q2 := match vls l with | some [a, b] => some (a, b) | _ => none
def rv6 (l : List At) : Option Q6 := match vls l with | some [a, b, c, d, e, f] => some ((a, b), (c, d), (e, f)) | _ => none
def rv12 (l : List At) : Option Q12 := match vls l with | some [a, b, c, d, e, f, g, h, i, j, k, l] => some (((a, b), (c, d), (e, f)), ((g, h), (i, j), (k, l))) | _ => none
def Rdv {α γ : Type} (rd : List At → Option α) (qn : γ → List At) (mm : γ → α) : Prop := ∀ l x, rd l = some x → ∃ n, flat l = flat (qn n) ∧ mm n = x
theorem vls_ok : ∀ {l : List At} {m : List Fq}, vls l = some m → ∃ ns : List Nat, flat l = flat (ns.map At.q) ∧ ns.map m1 = m
  | [], m, h => by cases h; exact ⟨[], rfl, rfl⟩
  | a :: r, m, h => by
    unfold vls at h
    split at h
    · rename_i x l' h1 h2
      cases h
      obtain ⟨ns, e1, e2⟩ := vls_ok h2
      cases a with
      | f y => cases h1; exact ⟨x.1 :: ns, by show w4 x.1 ++ flat r = w4 x.1 ++ flat (ns.map At.q); rw [e1], by rw [List.map_cons, e2, m1_nv]⟩
      | q y => cases h1; exact ⟨y :: ns, by show w4 y ++ flat r = w4 y ++ flat (ns.map At.q); rw [e1], by rw [List.map_cons, e2]⟩
      | c v => cases h1
    · cases h
theorem rv1_ok : Rdv rv1 q1 m1 := fun l x h => by
  unfold rv1 at h
  split at h
  · rename_i a hn
    cases h
    obtain ⟨ns, e1, e2⟩ := vls_ok hn
    match ns, e2 with
    | [n], e2 => cases e2; exact ⟨n, e1, rfl⟩
  · cases h
theorem rv2_ok : Rdv rv2 q2 m2 := fun l x h => by
  unfold rv2 at h
  split at h
  · rename_i a b hn
    cases h
    obtain ⟨ns, e1, e2⟩ := vls_ok hn
    match ns, e2 with
    | [n, m], e2 => cases e2; exact ⟨(n, m), e1, rfl⟩
  · cases h
theorem rv6_ok : Rdv rv6 q6 m6 := fun l x h => by
  unfold rv6 at h
  split at h
  · rename_i hn
    cases h
    obtain ⟨ns, e1, e2⟩ := vls_ok hn
    match ns, e2 with
    | [a, b, c, d, e, f], e2 => cases e2; exact ⟨((a, b), (c, d), (e, f)), e1, rfl⟩
  · cases h
theorem rv12_ok : Rdv rv12 q12 m12 := fun l x h => by
  unfold rv12 at h
  split at h
  · rename_i hn
    cases h
    obtain ⟨ns, e1, e2⟩ := vls_ok hn
    match ns, e2 with
    | [a, b, c, d, e, f, g, h, i, j, k, l], e2 => cases e2; exact ⟨(((a, b), (c, d), (e, f)), ((g, h), (i, j), (k, l))), e1, rfl⟩
  · cases h
theorem g1v_ok {P : Program} {f : FuncId} {α γ : Type} {rd : List At → Option α} {qn : γ → List At} {mm : γ → α} (hr : Rdv rd qn mm) {op : α → List Prop × RV} (h : ∀ x, allP (op (mm x)).1 → ∀ args w, CAs w [.v (.fl (qn x))] args → Good P f (op (mm x)).2 args w) :
    ∀ cs pre r, g1 rd op cs = some (pre, r) → allP pre → ∀ (args : List Value) (w : World), CAs w cs args → Good P f r args w := by
  intro cs pre r hg hp args w ha
  unfold g1 at hg
  split at hg
  · rename_i l
    split at hg
    · rename_i x hx
      obtain ⟨n, e1, rfl⟩ := hr l x hx
      have e : op (mm n) = (pre, r) := by simpa using hg
      have := h n (by rw [e]; exact hp) args w (by
        rw [args1 ha, e1]
        exact ⟨rfl, trivial⟩)
      rw [e] at this
      exact this
    · cases hg
  · cases hg
theorem g2v_ok {P : Program} {f : FuncId} {α γ α' γ' : Type} {rd : List At → Option α} {qn : γ → List At} {mm : γ → α} {rd' : List At → Option α'} {qn' : γ' → List At} {mm' : γ' → α'} (hr : Rdv rd qn mm) (hr' : Rdv rd' qn' mm') {op : α → α' → List Prop × RV}
    (h : ∀ x y, allP (op (mm x) (mm' y)).1 → ∀ args w, CAs w [.v (.fl (qn x)), .v (.fl (qn' y))] args → Good P f (op (mm x) (mm' y)).2 args w) :
    ∀ cs pre r, g2 rd rd' op cs = some (pre, r) → allP pre → ∀ (args : List Value) (w : World), CAs w cs args → Good P f r args w := by
  intro cs pre r hg hp args w ha
  unfold g2 at hg
  split at hg
  · rename_i l m
    split at hg
    · rename_i x y hx hy
      obtain ⟨n, e1, rfl⟩ := hr l x hx
      obtain ⟨n', e2, rfl⟩ := hr' m y hy
      have e : op (mm n) (mm' n') = (pre, r) := by simpa using hg
      have := h n n' (by rw [e]; exact hp) args w (by
        rw [args2 ha, e1, e2]
        exact ⟨rfl, rfl, trivial⟩)
      rw [e] at this
      exact this
    · cases hg
  · cases hg
/-- the reference's calls over the first field -/
def gR (op : Fq → Fq → Fq) : Ent
  | [.v (.im (.int .i64 (.ofNat 1))), .v (.fl l), .v (.fl m)] => match rv1 l, rv1 m with
    | some x, some y => some ([], .one (.fl (e1 (op x y))))
    | _, _ => none
  | _ => none
noncomputable def gRI (c : Bool) : Ent
  | [.v (.im (.int .i64 (.ofNat 1))), .v (.fl l)] => match rv1 l with
    | some x => bif c then some ([x ≠ F1.zero], .many [.fl (e1 (finv x)), .im (.int .i64 0)]) else some ([x = F1.zero], .many [.fl (e1 F1.zero), .im (.int .i64 22)])
    | none => none
  | _ => none
theorem gR_ok {f : FuncId} {op : Fq → Fq → Fq} (h : ∀ (a b : Nat) (w : World), Calls Tryz.prog f #[.int .i64 1, .agg (flat (q1 a)).toArray, .agg (flat (q1 b)).toArray] w (FwPost (op (m1 a) (m1 b)).1 w)) :
    ∀ cs pre r, gR op cs = some (pre, r) → allP pre → ∀ (args : List Value) (w : World), CAs w cs args → Good Tryz.prog f r args w := by
  intro cs pre r hg hp args w ha
  unfold gR at hg
  split at hg
  · rename_i l m
    split at hg
    · rename_i x y hx hy
      cases hg
      obtain ⟨a, e1, rfl⟩ := rv1_ok l x hx
      obtain ⟨b, e2, rfl⟩ := rv1_ok m y hy
      match args, ha with
      | [v, u, s], ha =>
        have h1 : v = .int .i64 1 := ha.1
        have h2 : u = .agg (flat l).toArray := ha.2.1
        have h3 : s = .agg (flat m).toArray := ha.2.2.1
        rw [e1] at h2
        rw [e2] at h3
        subst h1; subst h2; subst h3
        exact (h a b w).mono fun e w' h => h
      | [], ha => exact ha.elim
      | [_], ha => exact ha.2.elim
      | [_, _], ha => exact ha.2.2.elim
      | _ :: _ :: _ :: _ :: _, ha => exact ha.2.2.2.elim
    · cases hg
  · cases hg
theorem r_add (a b : Nat) (w : World) : Calls Tryz.prog 170 #[.int .i64 1, .agg (flat (q1 a)).toArray, .agg (flat (q1 b)).toArray] w (FwPost (F1.add (m1 a) (m1 b)).1 w) := by
  refine (radd_calls 1 FP fld1 _ _ _ _ _ _ _ _ (fw_ok a) (fw_ok b) w).mono fun e w' h => ?_
  rw [show (F1.add (m1 a) (m1 b)).1 = (val4 (fw a 0) (fw a 1) (fw a 2) (fw a 3) + val4 (fw b 0) (fw b 1) (fw b 2) (fw b 3)) % FP.M from (Nat.add_mod _ _ _).symm]
  exact FwPost.of (Nat.mod_lt _ fp_pos) h
theorem r_sub (a b : Nat) (w : World) : Calls Tryz.prog 183 #[.int .i64 1, .agg (flat (q1 a)).toArray, .agg (flat (q1 b)).toArray] w (FwPost (F1.sub (m1 a) (m1 b)).1 w) := by
  refine (rsub_calls 1 FP fld1 _ _ _ _ _ _ _ _ (fw_ok a) (fw_ok b) w).mono fun e w' h => ?_
  have e : (F1.sub (m1 a) (m1 b)).1 = (val4 (fw a 0) (fw a 1) (fw a 2) (fw a 3) + (FP.M - val4 (fw b 0) (fw b 1) (fw b 2) (fw b 3) % FP.M)) % FP.M := by
    show (wv a % FP.M + (0 + FP.M - wv b % FP.M) % FP.M) % FP.M = (wv a + (FP.M - wv b % FP.M)) % FP.M
    rw [Nat.zero_add, ← Nat.add_mod]
  rw [e]
  exact FwPost.of (Nat.mod_lt _ fp_pos) h
theorem r_mul (a b : Nat) (w : World) : Calls Tryz.prog 171 #[.int .i64 1, .agg (flat (q1 a)).toArray, .agg (flat (q1 b)).toArray] w (FwPost (F1.mul (m1 a) (m1 b)).1 w) := by
  refine (rmul_calls 1 FP fld1 _ _ _ _ _ _ _ _ (fw_ok a) (fw_ok b) w).mono fun e w' h => ?_
  rw [show (F1.mul (m1 a) (m1 b)).1 = (val4 (fw a 0) (fw a 1) (fw a 2) (fw a 3) * val4 (fw b 0) (fw b 1) (fw b 2) (fw b 3)) % FP.M from (Nat.mul_mod _ _ _).symm]
  exact FwPost.of (Nat.mod_lt _ fp_pos) h
theorem r_inv (c : Bool) : ∀ cs pre r, gRI c cs = some (pre, r) → allP pre → ∀ (args : List Value) (w : World), CAs w cs args → Good Tryz.prog 95 r args w := by
  intro cs pre r hg hp args w ha
  unfold gRI at hg
  split at hg
  · rename_i l
    split at hg
    · rename_i x hx
      obtain ⟨a, e1, rfl⟩ := rv1_ok l x hx
      match args, ha with
      | [v, u], ha =>
        have h1 : v = .int .i64 1 := ha.1
        have h2 : u = .agg (flat l).toArray := ha.2.1
        rw [e1] at h2
        subst h1; subst h2
        cases c
        · cases hg
          have hz : m1 a = F1.zero := hp.1
          have hz' : val4 (fw a 0) (fw a 1) (fw a 2) (fw a 3) % FP.M = 0 := congrArg Fin.val hz
          refine (rinv0_calls 1 FP fld1 _ _ _ _ (fw_ok a) hz' w).mono ?_
          rintro e w' ⟨s0, s1, s2, s3, rfl, hs, hv, hb⟩
          obtain ⟨rfl, rfl, rfl, rfl⟩ := fw_of hs (fp_lt fp_pos) hv
          exact ⟨rfl, hb⟩
        · cases hg
          have hz : m1 a ≠ F1.zero := hp.1
          have hz' : val4 (fw a 0) (fw a 1) (fw a 2) (fw a 3) % FP.M ≠ 0 := fun e => hz (Fin.ext e)
          refine (rinv1_calls 1 FP fld1 _ _ _ _ (fw_ok a) hz' w).mono ?_
          rintro e w' ⟨s0, s1, s2, s3, rfl, hs, hv, hb⟩
          have hf : (finv (m1 a)).1 = val4 (fw a 0) (fw a 1) (fw a 2) (fw a 3) ^ (FP.M - 2) % FP.M := by
            rw [finv_val, Nat.one_mul]
            exact (Nat.pow_mod _ _ _).symm
          rw [← hf] at hv
          obtain ⟨rfl, rfl, rfl, rfl⟩ := fw_of hs (fp_lt (finv (m1 a)).2) hv
          exact ⟨rfl, hb⟩
      | [], ha => exact ha.elim
      | [_], ha => exact ha.2.elim
      | _ :: _ :: _ :: _, ha => exact ha.2.2.elim
    · cases hg
  · cases hg

noncomputable def T_r2Add (c : Bool) : Tab := (T_alive c).add 170 (gR F1.add)
theorem ok_r2Add (c : Bool) : TabOk Tryz.prog (T_r2Add c) := (ok_alive c).add Tryz.func170 (by kernel_rfl) (by kernel_rfl) (gR_ok r_add)
noncomputable def T_r2Sub (c : Bool) : Tab := (T_r2Add c).add 183 (gR F1.sub)
theorem ok_r2Sub (c : Bool) : TabOk Tryz.prog (T_r2Sub c) := (ok_r2Add c).add Tryz.func183 (by kernel_rfl) (by kernel_rfl) (gR_ok r_sub)
noncomputable def T_r2Mul (c : Bool) : Tab := (T_r2Sub c).add 171 (gR F1.mul)
theorem ok_r2Mul (c : Bool) : TabOk Tryz.prog (T_r2Mul c) := (ok_r2Sub c).add Tryz.func171 (by kernel_rfl) (by kernel_rfl) (gR_ok r_mul)
noncomputable def T_r2Inv (c : Bool) : Tab := (T_r2Mul c).add 95 (gRI c)
theorem ok_r2Inv (c : Bool) : TabOk Tryz.prog (T_r2Inv c) := (ok_r2Mul c).add Tryz.func95 (by kernel_rfl) (by kernel_rfl) (r_inv c)
set_option maxRecDepth 100000 in
theorem run_radd (c : Bool) (x : Nat) (y : Nat) : funA Tryz.prog (T_r2Inv c) qN (fun _ => true) Tryz.f96 40 [.v (.fl (q1 x)), .v (.fl (q1 y))] = some ([], .one (.fl (e1 (F1.add (m1 x) (m1 y))))) := by kernel_rfl
noncomputable def T_radd (c : Bool) : Tab := (T_r2Inv c).add 96 (g2 rv1 rv1 (fun x y => ([], .one (.fl (e1 (F1.add x y))))))
theorem ok_radd (c : Bool) : TabOk Tryz.prog (T_radd c) := (ok_r2Inv c).add Tryz.func96 (by kernel_rfl) (by kernel_rfl) (g2v_ok rv1_ok rv1_ok fun x y hp args w ha => fun_sound hmix (ok_r2Inv c) qN_ok Tryz.func96 (run_radd c x y) hp ha)
set_option maxRecDepth 100000 in
theorem run_rsub (c : Bool) (x : Nat) (y : Nat) : funA Tryz.prog (T_radd c) qN (fun _ => true) Tryz.f101 40 [.v (.fl (q1 x)), .v (.fl (q1 y))] = some ([], .one (.fl (e1 (F1.sub (m1 x) (m1 y))))) := by kernel_rfl
noncomputable def T_rsub (c : Bool) : Tab := (T_radd c).add 101 (g2 rv1 rv1 (fun x y => ([], .one (.fl (e1 (F1.sub x y))))))
theorem ok_rsub (c : Bool) : TabOk Tryz.prog (T_rsub c) := (ok_radd c).add Tryz.func101 (by kernel_rfl) (by kernel_rfl) (g2v_ok rv1_ok rv1_ok fun x y hp args w ha => fun_sound hmix (ok_radd c) qN_ok Tryz.func101 (run_rsub c x y) hp ha)
set_option maxRecDepth 100000 in
theorem run_rmul (c : Bool) (x : Nat) (y : Nat) : funA Tryz.prog (T_rsub c) qN (fun _ => true) Tryz.f97 40 [.v (.fl (q1 x)), .v (.fl (q1 y))] = some ([], .one (.fl (e1 (F1.mul (m1 x) (m1 y))))) := by kernel_rfl
noncomputable def T_rmul (c : Bool) : Tab := (T_rsub c).add 97 (g2 rv1 rv1 (fun x y => ([], .one (.fl (e1 (F1.mul x y))))))
theorem ok_rmul (c : Bool) : TabOk Tryz.prog (T_rmul c) := (ok_rsub c).add Tryz.func97 (by kernel_rfl) (by kernel_rfl) (g2v_ok rv1_ok rv1_ok fun x y hp args w ha => fun_sound hmix (ok_rsub c) qN_ok Tryz.func97 (run_rmul c x y) hp ha)
set_option maxRecDepth 100000 in
theorem run_rAdd2 (c : Bool) (x : N2) (y : N2) : funA Tryz.prog (T_rmul c) qN (fun _ => true) Tryz.f18 40 [.v (.fl (q2 x)), .v (.fl (q2 y))] = some ([], .one (.fl (e2 (F2.add (m2 x) (m2 y))))) := by kernel_rfl
noncomputable def T_rAdd2 (c : Bool) : Tab := (T_rmul c).add 18 (g2 rv2 rv2 (fun x y => ([], .one (.fl (e2 (F2.add x y))))))
theorem ok_rAdd2 (c : Bool) : TabOk Tryz.prog (T_rAdd2 c) := (ok_rmul c).add Tryz.func18 (by kernel_rfl) (by kernel_rfl) (g2v_ok rv2_ok rv2_ok fun x y hp args w ha => fun_sound hmix (ok_rmul c) qN_ok Tryz.func18 (run_rAdd2 c x y) hp ha)
set_option maxRecDepth 100000 in
theorem run_rSub2 (c : Bool) (x : N2) (y : N2) : funA Tryz.prog (T_rAdd2 c) qN (fun _ => true) Tryz.f20 40 [.v (.fl (q2 x)), .v (.fl (q2 y))] = some ([], .one (.fl (e2 (F2.sub (m2 x) (m2 y))))) := by kernel_rfl
noncomputable def T_rSub2 (c : Bool) : Tab := (T_rAdd2 c).add 20 (g2 rv2 rv2 (fun x y => ([], .one (.fl (e2 (F2.sub x y))))))
theorem ok_rSub2 (c : Bool) : TabOk Tryz.prog (T_rSub2 c) := (ok_rAdd2 c).add Tryz.func20 (by kernel_rfl) (by kernel_rfl) (g2v_ok rv2_ok rv2_ok fun x y hp args w ha => fun_sound hmix (ok_rAdd2 c) qN_ok Tryz.func20 (run_rSub2 c x y) hp ha)
set_option maxRecDepth 100000 in
theorem run_rMul2 (c : Bool) (x : N2) (y : N2) : funA Tryz.prog (T_rSub2 c) qN (fun _ => true) Tryz.f22 40 [.v (.fl (q2 x)), .v (.fl (q2 y))] = some ([], .one (.fl (e2 ((F1.sub (F1.mul (m2 x).1 (m2 y).1) (F1.mul (m2 x).2 (m2 y).2), F1.add (F1.mul (m2 x).1 (m2 y).2) (F1.mul (m2 x).2 (m2 y).1)))))) := by kernel_rfl
theorem raw_rMul2 (x : Q2) (y : Q2) : F2.mul x y = (F1.sub (F1.mul x.1 y.1) (F1.mul x.2 y.2), F1.add (F1.mul x.1 y.2) (F1.mul x.2 y.1)) := by
  refine Prod.ext ?_ rfl
  show F1.add (F1.mul x.1 y.1) (F1.mul (F1.neg F1.one) (F1.mul x.2 y.2)) = F1.add (F1.mul x.1 y.1) (F1.neg (F1.mul x.2 y.2))
  rw [F1.neg_mul, F1.one_mul]
noncomputable def T_rMul2 (c : Bool) : Tab := (T_rSub2 c).add 22 (g2 rv2 rv2 (fun x y => ([], .one (.fl (e2 (F2.mul x y))))))
theorem ok_rMul2 (c : Bool) : TabOk Tryz.prog (T_rMul2 c) := (ok_rSub2 c).add Tryz.func22 (by kernel_rfl) (by kernel_rfl) (g2v_ok rv2_ok rv2_ok fun x y hp args w ha => by show Good _ _ (.one (.fl (e2 (F2.mul (m2 x) (m2 y))))) _ _; rw [raw_rMul2]; exact fun_sound hmix (ok_rSub2 c) qN_ok Tryz.func22 (run_rMul2 c x y) hp ha)
set_option maxRecDepth 100000 in
theorem run_rNeg2 (c : Bool) (x : N2) : funA Tryz.prog (T_rMul2 c) qN (fun _ => true) Tryz.f24 40 [.v (.fl (q2 x))] = some ([], .one (.fl (e2 (F2.sub F2.zero (m2 x))))) := by kernel_rfl
noncomputable def T_rNeg2 (c : Bool) : Tab := (T_rMul2 c).add 24 (g1 rv2 (fun x => ([], .one (.fl (e2 (F2.sub F2.zero x))))))
theorem ok_rNeg2 (c : Bool) : TabOk Tryz.prog (T_rNeg2 c) := (ok_rMul2 c).add Tryz.func24 (by kernel_rfl) (by kernel_rfl) (g1v_ok rv2_ok fun x hp args w ha => fun_sound hmix (ok_rMul2 c) qN_ok Tryz.func24 (run_rNeg2 c x) hp ha)
set_option maxRecDepth 100000 in
theorem run_rConj2 (c : Bool) (x : N2) : funA Tryz.prog (T_rNeg2 c) qN (fun _ => true) Tryz.f26 40 [.v (.fl (q2 x))] = some ([], .one (.fl (e2 (F2.sub ((m2 x).1, F1.zero) (F1.zero, (m2 x).2))))) := by kernel_rfl
noncomputable def T_rConj2 (c : Bool) : Tab := (T_rNeg2 c).add 26 (g1 rv2 (fun x => ([], .one (.fl (e2 (F2.sub (x.1, F1.zero) (F1.zero, x.2)))))))
theorem ok_rConj2 (c : Bool) : TabOk Tryz.prog (T_rConj2 c) := (ok_rNeg2 c).add Tryz.func26 (by kernel_rfl) (by kernel_rfl) (g1v_ok rv2_ok fun x hp args w ha => fun_sound hmix (ok_rNeg2 c) qN_ok Tryz.func26 (run_rConj2 c x) hp ha)
set_option maxRecDepth 100000 in
theorem run_rXi (c : Bool) : funA Tryz.prog (T_rConj2 c) qN (fun _ => true) Tryz.f108 40 [] = some ([], .one (.fl (q2 (9, 1)))) := by kernel_rfl
noncomputable def T_rXi (c : Bool) : Tab := (T_rConj2 c).add 108 (g0 (.one (.fl (q2 (9, 1)))))
theorem ok_rXi (c : Bool) : TabOk Tryz.prog (T_rXi c) := (ok_rConj2 c).add Tryz.func108 (by kernel_rfl) (by kernel_rfl) (g0_ok fun w => fun_sound hmix (ok_rConj2 c) qN_ok Tryz.func108 (run_rXi c) trivial (args := []) trivial)
set_option maxRecDepth 100000 in
theorem run_rXi2 (c : Bool) (x : N2) : funA Tryz.prog (T_rXi c) qN (fun _ => true) Tryz.f28 40 [.v (.fl (q2 x))] = some ([], .one (.fl (e2 (F2.mul (m2 x) xiE)))) := by kernel_rfl
noncomputable def T_rXi2 (c : Bool) : Tab := (T_rXi c).add 28 (g1 rv2 (fun x => ([], .one (.fl (e2 (F2.mul x xiE))))))
theorem ok_rXi2 (c : Bool) : TabOk Tryz.prog (T_rXi2 c) := (ok_rXi c).add Tryz.func28 (by kernel_rfl) (by kernel_rfl) (g1v_ok rv2_ok fun x hp args w ha => fun_sound hmix (ok_rXi c) qN_ok Tryz.func28 (run_rXi2 c x) hp ha)
noncomputable def riv2 (x : Q2) : Q2 := F2.mul (F2.sub (x.1, F1.zero) (F1.zero, x.2)) (finv (nm2 x), F1.zero)
theorem riv2_eq (x : Q2) : riv2 x = iv2 x := by
  have h : ∀ k : Fq, F2.mul (F2.sub (x.1, F1.zero) (F1.zero, x.2)) (k, F1.zero) = sc2 (conj2' x) k := fun k => by
    refine Prod.ext ?_ ?_
    · exact ring_id F1 (envL F1 [x.1, x.2, k]) (.add (.mul (.add (.v 0) (.neg .zero)) (.v 2)) (.mul (.neg .one) (.mul (.add .zero (.neg (.v 1))) .zero))) (.mul (.v 0) (.v 2)) (by decide)
    · exact ring_id F1 (envL F1 [x.1, x.2, k]) (.add (.mul (.add (.v 0) (.neg .zero)) .zero) (.mul (.add .zero (.neg (.v 1))) (.v 2))) (.mul (.neg (.v 1)) (.v 2)) (by decide)
  exact h _
noncomputable def oR2 (c : Bool) (x : Q2) : List Prop × RV := bif c then ([nm2 x ≠ F1.zero], .many [.fl (e2 (riv2 x)), .im (.int .i64 0)]) else ([nm2 x = F1.zero], .many [.fl (e2 F2.zero), .im (.int .i64 22)])
set_option maxRecDepth 100000 in
theorem run_rInv2_true (x : N2) : funA Tryz.prog (T_rXi2 true) qN (fun _ => true) Tryz.f14 40 [.v (.fl (q2 x))] = some ([nm2 (m2 x) ≠ F1.zero], .many [.fl (e2 (riv2 (m2 x))), .im (.int .i64 0)]) := by kernel_rfl
set_option maxRecDepth 100000 in
theorem run_rInv2_false (x : N2) : funA Tryz.prog (T_rXi2 false) qN (fun _ => true) Tryz.f14 40 [.v (.fl (q2 x))] = some ([nm2 (m2 x) = F1.zero], .many [.fl (e2 F2.zero), .im (.int .i64 22)]) := by kernel_rfl
theorem oR2_ok (c : Bool) (x : N2) (hp : allP (oR2 c (m2 x)).1) (args : List Value) (w : World) (ha : CAs w [.v (.fl (q2 x))] args) : Good Tryz.prog 14 (oR2 c (m2 x)).2 args w := by
  cases c
  · exact fun_sound hmix (ok_rXi2 false) qN_ok Tryz.func14 (run_rInv2_false x) hp ha
  · exact fun_sound hmix (ok_rXi2 true) qN_ok Tryz.func14 (run_rInv2_true x) hp ha
noncomputable def T_rInv2 (c : Bool) : Tab := (T_rXi2 c).add 14 (g1 rv2 (oR2 c))
theorem ok_rInv2 (c : Bool) : TabOk Tryz.prog (T_rInv2 c) := (ok_rXi2 c).add Tryz.func14 (by kernel_rfl) (by kernel_rfl) (g1v_ok rv2_ok (oR2_ok c))
set_option maxRecDepth 100000 in
theorem run_rAdd6 (c : Bool) (x : N6) (y : N6) : funA Tryz.prog (T_rInv2 c) qN (fun _ => true) Tryz.f34 40 [.v (.fl (q6 x)), .v (.fl (q6 y))] = some ([], .one (.fl (e6 (F6.add (m6 x) (m6 y))))) := by kernel_rfl
noncomputable def T_rAdd6 (c : Bool) : Tab := (T_rInv2 c).add 34 (g2 rv6 rv6 (fun x y => ([], .one (.fl (e6 (F6.add x y))))))
theorem ok_rAdd6 (c : Bool) : TabOk Tryz.prog (T_rAdd6 c) := (ok_rInv2 c).add Tryz.func34 (by kernel_rfl) (by kernel_rfl) (g2v_ok rv6_ok rv6_ok fun x y hp args w ha => fun_sound hmix (ok_rInv2 c) qN_ok Tryz.func34 (run_rAdd6 c x y) hp ha)
set_option maxRecDepth 100000 in
theorem run_rSub6 (c : Bool) (x : N6) (y : N6) : funA Tryz.prog (T_rAdd6 c) qN (fun _ => true) Tryz.f36 40 [.v (.fl (q6 x)), .v (.fl (q6 y))] = some ([], .one (.fl (e6 (F6.sub (m6 x) (m6 y))))) := by kernel_rfl
noncomputable def T_rSub6 (c : Bool) : Tab := (T_rAdd6 c).add 36 (g2 rv6 rv6 (fun x y => ([], .one (.fl (e6 (F6.sub x y))))))
theorem ok_rSub6 (c : Bool) : TabOk Tryz.prog (T_rSub6 c) := (ok_rAdd6 c).add Tryz.func36 (by kernel_rfl) (by kernel_rfl) (g2v_ok rv6_ok rv6_ok fun x y hp args w ha => fun_sound hmix (ok_rAdd6 c) qN_ok Tryz.func36 (run_rSub6 c x y) hp ha)
set_option maxRecDepth 100000 in
theorem run_rMul6 (c : Bool) (x : N6) (y : N6) : funA Tryz.prog (T_rSub6 c) qN (fun _ => true) Tryz.f38 40 [.v (.fl (q6 x)), .v (.fl (q6 y))] = some ([], .one (.fl (e6 ((F2.add (F2.mul (m6 x).1 (m6 y).1) (F2.mul (F2.add (F2.mul (m6 x).2.1 (m6 y).2.2) (F2.mul (m6 x).2.2 (m6 y).2.1)) xiE), F2.add (F2.add (F2.mul (m6 x).1 (m6 y).2.1) (F2.mul (m6 x).2.1 (m6 y).1)) (F2.mul (F2.mul (m6 x).2.2 (m6 y).2.2) xiE), F2.add (F2.add (F2.mul (m6 x).1 (m6 y).2.2) (F2.mul (m6 x).2.1 (m6 y).2.1)) (F2.mul (m6 x).2.2 (m6 y).1)))))) := by kernel_rfl
theorem raw_rMul6 (x : Q6) (y : Q6) : F6.mul x y = (F2.add (F2.mul x.1 y.1) (F2.mul (F2.add (F2.mul x.2.1 y.2.2) (F2.mul x.2.2 y.2.1)) xiE), F2.add (F2.add (F2.mul x.1 y.2.1) (F2.mul x.2.1 y.1)) (F2.mul (F2.mul x.2.2 y.2.2) xiE), F2.add (F2.add (F2.mul x.1 y.2.2) (F2.mul x.2.1 y.2.1)) (F2.mul x.2.2 y.1)) := by
  rw [F2.mul_comm _ xiE, F2.mul_comm _ xiE]
  rfl
noncomputable def T_rMul6 (c : Bool) : Tab := (T_rSub6 c).add 38 (g2 rv6 rv6 (fun x y => ([], .one (.fl (e6 (F6.mul x y))))))
theorem ok_rMul6 (c : Bool) : TabOk Tryz.prog (T_rMul6 c) := (ok_rSub6 c).add Tryz.func38 (by kernel_rfl) (by kernel_rfl) (g2v_ok rv6_ok rv6_ok fun x y hp args w ha => by show Good _ _ (.one (.fl (e6 (F6.mul (m6 x) (m6 y))))) _ _; rw [raw_rMul6]; exact fun_sound hmix (ok_rSub6 c) qN_ok Tryz.func38 (run_rMul6 c x y) hp ha)
set_option maxRecDepth 100000 in
theorem run_rNeg6 (c : Bool) (x : N6) : funA Tryz.prog (T_rMul6 c) qN (fun _ => true) Tryz.f40 40 [.v (.fl (q6 x))] = some ([], .one (.fl (e6 (F6.sub F6.zero (m6 x))))) := by kernel_rfl
noncomputable def T_rNeg6 (c : Bool) : Tab := (T_rMul6 c).add 40 (g1 rv6 (fun x => ([], .one (.fl (e6 (F6.sub F6.zero x))))))
theorem ok_rNeg6 (c : Bool) : TabOk Tryz.prog (T_rNeg6 c) := (ok_rMul6 c).add Tryz.func40 (by kernel_rfl) (by kernel_rfl) (g1v_ok rv6_ok fun x hp args w ha => fun_sound hmix (ok_rMul6 c) qN_ok Tryz.func40 (run_rNeg6 c x) hp ha)
set_option maxRecDepth 100000 in
theorem run_rV6 (c : Bool) (x : N6) : funA Tryz.prog (T_rNeg6 c) qN (fun _ => true) Tryz.f42 40 [.v (.fl (q6 x))] = some ([], .one (.fl (e6 ((F2.mul (m6 x).2.2 xiE, F2.sub (m6 x).1 F2.zero, F2.sub (m6 x).2.1 F2.zero))))) := by kernel_rfl
theorem raw_rV6 (x : Q6) : F6.mul vE x = (F2.mul x.2.2 xiE, F2.sub x.1 F2.zero, F2.sub x.2.1 F2.zero) := by
  rw [raw_t6v]
  show (_, x.1, x.2.1) = (_, F2.add x.1 (F2.neg F2.zero), F2.add x.2.1 (F2.neg F2.zero))
  rw [neg_zero, F2.add_zero, F2.add_zero]
noncomputable def T_rV6 (c : Bool) : Tab := (T_rNeg6 c).add 42 (g1 rv6 (fun x => ([], .one (.fl (e6 (F6.mul vE x))))))
theorem ok_rV6 (c : Bool) : TabOk Tryz.prog (T_rV6 c) := (ok_rNeg6 c).add Tryz.func42 (by kernel_rfl) (by kernel_rfl) (g1v_ok rv6_ok fun x hp args w ha => by show Good _ _ (.one (.fl (e6 (F6.mul vE (m6 x))))) _ _; rw [raw_rV6]; exact fun_sound hmix (ok_rNeg6 c) qN_ok Tryz.func42 (run_rV6 c x) hp ha)
def rn6 (x : Q6) : Q2 := F2.add (F2.mul x.1 (adj6 x).1) (F2.mul (F2.add (F2.mul x.2.2 (adj6 x).2.1) (F2.mul x.2.1 (adj6 x).2.2)) xiE)
theorem rn6_eq (x : Q6) : rn6 x = n6 x := by
  show F2.add _ (F2.mul (F2.add _ _) xiE) = F2.add _ (F2.mul xiE (F2.add _ _))
  rw [F2.mul_comm _ xiE, F2.add_comm (F2.mul x.2.2 _)]
noncomputable def riv6 (x : Q6) : Q6 := (F2.mul (adj6 x).1 (riv2 (rn6 x)), F2.mul (adj6 x).2.1 (riv2 (rn6 x)), F2.mul (adj6 x).2.2 (riv2 (rn6 x)))
theorem riv6_eq (x : Q6) : riv6 x = iv6 x := by unfold riv6; rw [riv2_eq, rn6_eq]; rfl
noncomputable def oR6 (c : Bool) (x : Q6) : List Prop × RV := bif c then ([nm2 (rn6 x) ≠ F1.zero], .many [.fl (e6 (riv6 x)), .im (.int .i64 0)]) else ([nm2 (rn6 x) = F1.zero], .many [.fl (e6 F6.zero), .im (.int .i64 22)])
set_option maxRecDepth 100000 in
theorem run_rInv6_true (x : N6) : funA Tryz.prog (T_rV6 true) qN (fun _ => true) Tryz.f32 40 [.v (.fl (q6 x))] = some ([nm2 (rn6 (m6 x)) ≠ F1.zero], .many [.fl (e6 (riv6 (m6 x))), .im (.int .i64 0)]) := by kernel_rfl
set_option maxRecDepth 100000 in
theorem run_rInv6_false (x : N6) : funA Tryz.prog (T_rV6 false) qN (fun _ => true) Tryz.f32 40 [.v (.fl (q6 x))] = some ([nm2 (rn6 (m6 x)) = F1.zero], .many [.fl (e6 F6.zero), .im (.int .i64 22)]) := by kernel_rfl
theorem oR6_ok (c : Bool) (x : N6) (hp : allP (oR6 c (m6 x)).1) (args : List Value) (w : World) (ha : CAs w [.v (.fl (q6 x))] args) : Good Tryz.prog 32 (oR6 c (m6 x)).2 args w := by
  cases c
  · exact fun_sound hmix (ok_rV6 false) qN_ok Tryz.func32 (run_rInv6_false x) hp ha
  · exact fun_sound hmix (ok_rV6 true) qN_ok Tryz.func32 (run_rInv6_true x) hp ha
noncomputable def T_rInv6 (c : Bool) : Tab := (T_rV6 c).add 32 (g1 rv6 (oR6 c))
theorem ok_rInv6 (c : Bool) : TabOk Tryz.prog (T_rInv6 c) := (ok_rV6 c).add Tryz.func32 (by kernel_rfl) (by kernel_rfl) (g1v_ok rv6_ok (oR6_ok c))
def gBoth3 : Ent
  | [.v (.fl l), .v (.fl m), .v (.im (.func (.func id) a b))] => match rv6 l, rv6 m, a.toList, b.toList with
    | some x, some y, [], [] => bif Nat.beq id 115 then some ([], .one (.fl (e6 (F6.mul x y)))) else bif Nat.beq id 113 then some ([], .one (.fl (e6 (F6.add x y)))) else bif Nat.beq id 114 then some ([], .one (.fl (e6 (F6.sub x y)))) else none
    | _, _, _, _ => none
  | _ => none
set_option maxRecDepth 100000 in
theorem run_both_t6times (c : Bool) (x y : N6) : funA Tryz.prog (T_rInv6 c) qN (fun _ => true) Tryz.f112 40 [.v (.fl (q6 x)), .v (.fl (q6 y)), .v (.im (.func (.func 115) #[] #[]))] = some ([], .one (.fl (e6 (F6.mul (m6 x) (m6 y))))) := by kernel_rfl
set_option maxRecDepth 100000 in
theorem run_both_t6plus (c : Bool) (x y : N6) : funA Tryz.prog (T_rInv6 c) qN (fun _ => true) Tryz.f112 40 [.v (.fl (q6 x)), .v (.fl (q6 y)), .v (.im (.func (.func 113) #[] #[]))] = some ([], .one (.fl (e6 (F6.add (m6 x) (m6 y))))) := by kernel_rfl
set_option maxRecDepth 100000 in
theorem run_both_t6minus (c : Bool) (x y : N6) : funA Tryz.prog (T_rInv6 c) qN (fun _ => true) Tryz.f112 40 [.v (.fl (q6 x)), .v (.fl (q6 y)), .v (.im (.func (.func 114) #[] #[]))] = some ([], .one (.fl (e6 (F6.sub (m6 x) (m6 y))))) := by kernel_rfl
theorem both3_ok (c : Bool) : ∀ cs pre r, gBoth3 cs = some (pre, r) → allP pre → ∀ (args : List Value) (w : World), CAs w cs args → Good Tryz.prog 112 r args w := by
  intro cs pre r hg hp args w ha
  unfold gBoth3 at hg
  split at hg
  · rename_i l m id a b
    split at hg
    · rename_i x y hx hy h1 h2
      obtain ⟨n, e1, rfl⟩ := rv6_ok l x hx
      obtain ⟨n', e2, rfl⟩ := rv6_ok m y hy
      have ea : a = #[] := by rw [← Array.toArray_toList (xs := a), h1]
      have eb : b = #[] := by rw [← Array.toArray_toList (xs := b), h2]
      subst ea; subst eb
      have ha' : CAs w [.v (.fl (q6 n)), .v (.fl (q6 n')), .v (.im (.func (.func id) #[] #[]))] args := by
        match args, ha with
        | [v, u, s], ha =>
          refine ⟨?_, ?_, ha.2.2.1, trivial⟩
          · show v = .agg (flat (q6 n)).toArray
            rw [← e1]
            exact ha.1
          · show u = .agg (flat (q6 n')).toArray
            rw [← e2]
            exact ha.2.1
        | [], ha => exact ha.elim
        | [_], ha => exact ha.2.elim
        | [_, _], ha => exact ha.2.2.elim
        | _ :: _ :: _ :: _ :: _, ha => exact ha.2.2.2.elim
      cases hb : Nat.beq id 115 <;> rw [hb] at hg
      · cases hb2 : Nat.beq id 113 <;> rw [hb2] at hg
        · cases hb3 : Nat.beq id 114 <;> rw [hb3] at hg
          · cases hg
          · cases hg
            cases Nat.eq_of_beq_eq_true hb3
            exact fun_sound hmix (ok_rInv6 c) qN_ok Tryz.func112 (run_both_t6minus c n n') trivial ha'
        · cases hg
          cases Nat.eq_of_beq_eq_true hb2
          exact fun_sound hmix (ok_rInv6 c) qN_ok Tryz.func112 (run_both_t6plus c n n') trivial ha'
      · cases hg
        cases Nat.eq_of_beq_eq_true hb
        exact fun_sound hmix (ok_rInv6 c) qN_ok Tryz.func112 (run_both_t6times c n n') trivial ha'
    · cases hg
  · cases hg
noncomputable def T_both3 (c : Bool) : Tab := (T_rInv6 c).add 112 gBoth3
theorem ok_both3 (c : Bool) : TabOk Tryz.prog (T_both3 c) := (ok_rInv6 c).add Tryz.func112 (by kernel_rfl) (by kernel_rfl) (both3_ok c)
set_option maxRecDepth 100000 in
theorem run_Add6 (c : Bool) (x : N6) (y : N6) : funA Tryz.prog (T_both3 c) qN (fun _ => true) Tryz.f33 40 [.v (.fl (q6 x)), .v (.fl (q6 y))] = some ([], .one (.fl (e6 (F6.add (m6 x) (m6 y))))) := by kernel_rfl
noncomputable def T_Add6 (c : Bool) : Tab := (T_both3 c).add 33 (g2 rv6 rv6 (fun x y => ([], .one (.fl (e6 (F6.add x y))))))
theorem ok_Add6 (c : Bool) : TabOk Tryz.prog (T_Add6 c) := (ok_both3 c).add Tryz.func33 (by kernel_rfl) (by kernel_rfl) (g2v_ok rv6_ok rv6_ok fun x y hp args w ha => fun_sound hmix (ok_both3 c) qN_ok Tryz.func33 (run_Add6 c x y) hp ha)
set_option maxRecDepth 100000 in
theorem run_Sub6 (c : Bool) (x : N6) (y : N6) : funA Tryz.prog (T_Add6 c) qN (fun _ => true) Tryz.f35 40 [.v (.fl (q6 x)), .v (.fl (q6 y))] = some ([], .one (.fl (e6 (F6.sub (m6 x) (m6 y))))) := by kernel_rfl
noncomputable def T_Sub6 (c : Bool) : Tab := (T_Add6 c).add 35 (g2 rv6 rv6 (fun x y => ([], .one (.fl (e6 (F6.sub x y))))))
theorem ok_Sub6 (c : Bool) : TabOk Tryz.prog (T_Sub6 c) := (ok_Add6 c).add Tryz.func35 (by kernel_rfl) (by kernel_rfl) (g2v_ok rv6_ok rv6_ok fun x y hp args w ha => fun_sound hmix (ok_Add6 c) qN_ok Tryz.func35 (run_Sub6 c x y) hp ha)
set_option maxRecDepth 100000 in
theorem run_Neg6 (c : Bool) (x : N6) : funA Tryz.prog (T_Sub6 c) qN (fun _ => true) Tryz.f39 40 [.v (.fl (q6 x))] = some ([], .one (.fl (e6 (F6.sub F6.zero (m6 x))))) := by kernel_rfl
noncomputable def T_Neg6 (c : Bool) : Tab := (T_Sub6 c).add 39 (g1 rv6 (fun x => ([], .one (.fl (e6 (F6.sub F6.zero x))))))
theorem ok_Neg6 (c : Bool) : TabOk Tryz.prog (T_Neg6 c) := (ok_Sub6 c).add Tryz.func39 (by kernel_rfl) (by kernel_rfl) (g1v_ok rv6_ok fun x hp args w ha => fun_sound hmix (ok_Sub6 c) qN_ok Tryz.func39 (run_Neg6 c x) hp ha)
set_option maxRecDepth 100000 in
theorem run_V6 (c : Bool) (x : N6) : funA Tryz.prog (T_Neg6 c) qN (fun _ => true) Tryz.f41 40 [.v (.fl (q6 x))] = some ([], .one (.fl (e6 (F6.mul vE (m6 x))))) := by kernel_rfl
noncomputable def T_V6 (c : Bool) : Tab := (T_Neg6 c).add 41 (g1 rv6 (fun x => ([], .one (.fl (e6 (F6.mul vE x))))))
theorem ok_V6 (c : Bool) : TabOk Tryz.prog (T_V6 c) := (ok_Neg6 c).add Tryz.func41 (by kernel_rfl) (by kernel_rfl) (g1v_ok rv6_ok fun x hp args w ha => fun_sound hmix (ok_Neg6 c) qN_ok Tryz.func41 (run_V6 c x) hp ha)
set_option maxRecDepth 100000 in
theorem run_Mul6b (c : Bool) (x : N6) (y : N6) : funA Tryz.prog (T_V6 c) qN (fun _ => true) Tryz.f37 40 [.v (.fl (q6 x)), .v (.fl (q6 y))] = some ([], .one (.fl (e6 (F6.mul (m6 x) (m6 y))))) := by kernel_rfl
noncomputable def T_Mul6b (c : Bool) : Tab := (T_V6 c).add 37 (g2 rv6 rv6 (fun x y => ([], .one (.fl (e6 (F6.mul x y))))))
theorem ok_Mul6b (c : Bool) : TabOk Tryz.prog (T_Mul6b c) := (ok_V6 c).add Tryz.func37 (by kernel_rfl) (by kernel_rfl) (g2v_ok rv6_ok rv6_ok fun x y hp args w ha => fun_sound hmix (ok_V6 c) qN_ok Tryz.func37 (run_Mul6b c x y) hp ha)
noncomputable def oI6 (c : Bool) (x : Q6) : List Prop × RV := bif c then ([nm2 (n6 x) ≠ F1.zero], .many [.fl (e6 (iv6 x)), .im (.int .i64 0)]) else ([nm2 (n6 x) = F1.zero], .many [.fl (e6 F6.zero), .im (.int .i64 22)])
set_option maxRecDepth 100000 in
theorem run_Inv6_true (x : N6) : funA Tryz.prog (T_Mul6b true) qN (fun _ => true) Tryz.f31 40 [.v (.fl (q6 x))] = some ([nm2 (n6 (m6 x)) ≠ F1.zero], .many [.fl (e6 (iv6 (m6 x))), .im (.int .i64 0)]) := by kernel_rfl
set_option maxRecDepth 100000 in
theorem run_Inv6_false (x : N6) : funA Tryz.prog (T_Mul6b false) qN (fun _ => true) Tryz.f31 40 [.v (.fl (q6 x))] = some ([nm2 (n6 (m6 x)) = F1.zero], .many [.fl (e6 F6.zero), .im (.int .i64 22)]) := by kernel_rfl
theorem oI6_ok (c : Bool) (x : N6) (hp : allP (oI6 c (m6 x)).1) (args : List Value) (w : World) (ha : CAs w [.v (.fl (q6 x))] args) : Good Tryz.prog 31 (oI6 c (m6 x)).2 args w := by
  cases c
  · exact fun_sound hmix (ok_Mul6b false) qN_ok Tryz.func31 (run_Inv6_false x) hp ha
  · exact fun_sound hmix (ok_Mul6b true) qN_ok Tryz.func31 (run_Inv6_true x) hp ha
noncomputable def T_Inv6 (c : Bool) : Tab := (T_Mul6b c).add 31 (g1 rv6 (oI6 c))
theorem ok_Inv6 (c : Bool) : TabOk Tryz.prog (T_Inv6 c) := (ok_Mul6b c).add Tryz.func31 (by kernel_rfl) (by kernel_rfl) (g1v_ok rv6_ok (oI6_ok c))
end Go.Proofs.YtkkbjemifmekfaaGreat.Ex
namespace Go.Proofs.YtkkbjemifmekfaaGreat.Ex
set_option linter.unusedVariables false
set_option linter.unusedSimpArgs false
open Go.RowKit

set_option maxRecDepth 100000 in
theorem run_six1 (x y : N6) : funA Tryz.prog (T_Inv6 true) qT (fun _ => true) Tryz.f4 60 [.v (.fl (q6 x)), .v (.fl (q6 y))] = some ([nm2 (n6 (m6 x)) ≠ F1.zero, nm2 (rn6 (m6 x)) ≠ F1.zero, flat (e6 (F6.add (m6 x) (m6 y))) = flat (e6 (F6.add (m6 x) (m6 y))), flat (e6 (F6.sub (m6 x) (m6 y))) = flat (e6 (F6.sub (m6 x) (m6 y))), flat (e6 (F6.mul (m6 x) (m6 y))) = flat (e6 (F6.mul (m6 x) (m6 y))), flat (e6 (F6.sub F6.zero (m6 x))) = flat (e6 (F6.sub F6.zero (m6 x))), flat (e6 (F6.mul vE (m6 x))) = flat (e6 (F6.mul vE (m6 x))), flat (e6 (iv6 (m6 x))) = flat (e6 (riv6 (m6 x)))], .one (.im (.bool true))) := by kernel_rfl
set_option maxRecDepth 100000 in
theorem run_six0 (x y : N6) : funA Tryz.prog (T_Inv6 false) qT (fun _ => true) Tryz.f4 60 [.v (.fl (q6 x)), .v (.fl (q6 y))] = some ([nm2 (n6 (m6 x)) = F1.zero, nm2 (rn6 (m6 x)) = F1.zero, flat (e6 (F6.add (m6 x) (m6 y))) = flat (e6 (F6.add (m6 x) (m6 y))), flat (e6 (F6.sub (m6 x) (m6 y))) = flat (e6 (F6.sub (m6 x) (m6 y))), flat (e6 (F6.mul (m6 x) (m6 y))) = flat (e6 (F6.mul (m6 x) (m6 y))), flat (e6 (F6.sub F6.zero (m6 x))) = flat (e6 (F6.sub F6.zero (m6 x))), flat (e6 (F6.mul vE (m6 x))) = flat (e6 (F6.mul vE (m6 x))), flat (e6 F6.zero) = flat (e6 F6.zero)], .one (.im (.bool true))) := by kernel_rfl
theorem six_calls (x y : N6) (w : World) : Calls Tryz.prog 4 #[.agg (flat (q6 x)).toArray, .agg (flat (q6 y)).toArray] w (fun e w' => e = .returned (.bool true) ∧ Below w.heap.size w w') := by
  have ha : CAs w [.v (.fl (q6 x)), .v (.fl (q6 y))] [.agg (flat (q6 x)).toArray, .agg (flat (q6 y)).toArray] := ⟨rfl, rfl, trivial⟩
  by_cases h : nm2 (n6 (m6 x)) = F1.zero
  · exact fun_sound hmix (ok_Inv6 false) qT_ok Tryz.func4 (run_six0 x y) ⟨h, by rw [rn6_eq]; exact h, rfl, rfl, rfl, rfl, rfl, rfl, trivial⟩ ha
  · exact fun_sound hmix (ok_Inv6 true) qT_ok Tryz.func4 (run_six1 x y) ⟨h, by rw [rn6_eq]; exact h, rfl, rfl, rfl, rfl, rfl, by rw [riv6_eq], trivial⟩ ha

end Go.Proofs.YtkkbjemifmekfaaGreat.Ex
namespace Go.Proofs.YtkkbjemifmekfaaGreat
set_option linter.unusedVariables false
open Go.ChangeShapes Go.WideShapes Go.ChangeAt Go.RowKit

theorem own : ownKnob Tryz.prog.godebug = none := by kernel_rfl
theorem laidOut : laidOutB Tryz.prog = true := by kernel_rfl

theorem u64_cells : Tryz.prog.cellsOf 22 = 1 := by kernel_rfl
theorem list4 {α : Type} (l : List α) (h : (⟨l⟩ : Array α).size = 4) : ∃ a b c d, l = [a, b, c, d] := by
  match l, h with
  | [a, b, c, d], _ => exact ⟨a, b, c, d, rfl⟩

theorem nat_of_wf {n : Int} (h : (Lit.int .u64 n).wf = true) : ∃ k : Nat, n = (k : Int) ∧ k < 18446744073709551616 := by
  obtain ⟨h1, h2⟩ := bounds_u64 h
  obtain ⟨k, rfl⟩ := Int.eq_ofNat_of_zero_le h1
  exact ⟨k, rfl, by omega⟩

/-- An argument of four words: of whatever program. -/
theorem open_word' {P : Program} {H : Type} {enc : TypeId × Value → H} {W : World} {base : Nat} {t e : TypeId} {v : Value} {d : DataW H} {ps : List MemPlace} (ht : P.underlying t = some (.array 4 e)) (he : P.underlying e = some (.int .u64)) (ct : P.cellsOf t = 4) (ce : P.cellsOf e = 1)
    {pt : Array TypeId} {args : Array Value} (hval : ∀ (j : Nat) t v, pt[j]? = some t → args[j]? = some v → Value.okWide P W .any base t v) (j : Nat) (hj : pt[j]? = some t) (ha : args[j]? = some v) (h : DataW.Trod enc P W 0 (fun _ => true) true t v d ps) :
    ∃ a0 a1 a2 a3 : Nat, v = .agg #[.int .u64 a0, .int .u64 a1, .int .u64 a2, .int .u64 a3] ∧ ok4 a0 a1 a2 a3 := by
  obtain ⟨cs, rfl, hsz, _⟩ : ∃ cs, v = .agg cs ∧ cs.size = P.cellsOf t ∧ Row.okWide P W .any base t cs := by
    simpa [Value.okWide, ht] using hval j t v hj ha
  rw [ct] at hsz
  obtain ⟨l⟩ := cs
  obtain ⟨c0, c1, c2, c3, rfl⟩ := list4 l hsz
  obtain ⟨fuel, hf⟩ := h
  obtain ⟨y0, y1, y2, y3, m, hx, hy0, hy1, hy2, hy3⟩ := trod_array4 ht ce hf
  obtain ⟨x0, e0, rfl, w0⟩ := DataW.trod_int he hy0
  obtain ⟨x1, e1, rfl, w1⟩ := DataW.trod_int he hy1
  obtain ⟨x2, e2, rfl, w2⟩ := DataW.trod_int he hy2
  obtain ⟨x3, e3, rfl, w3⟩ := DataW.trod_int he hy3
  simp at e0 e1 e2 e3
  obtain ⟨a0, rfl, k0⟩ := nat_of_wf w0
  obtain ⟨a1, rfl, k1⟩ := nat_of_wf w1
  obtain ⟨a2, rfl, k2⟩ := nat_of_wf w2
  obtain ⟨a3, rfl, k3⟩ := nat_of_wf w3
  subst e0 e1 e2 e3
  exact ⟨a0, a1, a2, a3, rfl, k0, k1, k2, k3⟩
theorem word_cells : Tryz.prog.cellsOf 57 = 4 := by kernel_rfl
theorem fe_cells : Tryz.prog.cellsOf 24 = 4 := by kernel_rfl
end Go.Proofs.YtkkbjemifmekfaaGreat
namespace Go.Proofs.YtkkbjemifmekfaaGreat.Ex
set_option linter.unusedVariables false
set_option linter.unusedSimpArgs false
open Go.Deep Go.ChangeShapes Go.WideShapes Go.ChangeAt Go.RowKit

theorem agg_of {P : Program} {W : World} {base : Nat} {t : TypeId} {fs : Array Field} {v : Value} (ht : P.underlying t = some (.struct fs)) (h : Value.okWide P W .any base t v) : ∃ cs, v = .agg cs := by
  obtain ⟨cs, rfl, _⟩ : ∃ cs, v = .agg cs ∧ cs.size = P.cellsOf t ∧ Row.okWide P W .any base t cs := by
    simpa [Value.okWide, ht] using h
  exact ⟨cs, rfl⟩
section
variable {H : Type} {enc : TypeId × Value → H} {W : World}
theorem c24 : Tryz.prog.cellsOf 24 = 4 := by kernel_rfl
theorem c26 : Tryz.prog.cellsOf 26 = 8 := by kernel_rfl
theorem c28 : Tryz.prog.cellsOf 38 = 24 := by kernel_rfl
theorem c30 : Tryz.prog.cellsOf 47 = 48 := by kernel_rfl
theorem op_fe {fuel : Nat} {cs : List Value} {x : DataW H × List MemPlace} (hl : cs.length = 4) (h : DataW.trod enc Tryz.prog W 0 (fun _ => true) true fuel 24 cs = some x) : ∃ n : Nat, cs = flat (q1 n) := by
  obtain ⟨c0, c1, c2, c3, rfl⟩ := list4 cs hl
  obtain ⟨y0, y1, y2, y3, m, hx, hy0, hy1, hy2, hy3⟩ := trod_array4 Tryz.underlying24 u64_cells h
  obtain ⟨x0, e0, rfl, w0⟩ := DataW.trod_int Tryz.underlying22 hy0
  obtain ⟨x1, e1, rfl, w1⟩ := DataW.trod_int Tryz.underlying22 hy1
  obtain ⟨x2, e2, rfl, w2⟩ := DataW.trod_int Tryz.underlying22 hy2
  obtain ⟨x3, e3, rfl, w3⟩ := DataW.trod_int Tryz.underlying22 hy3
  simp at e0 e1 e2 e3
  obtain ⟨a0, rfl, k0⟩ := nat_of_wf w0
  obtain ⟨a1, rfl, k1⟩ := nat_of_wf w1
  obtain ⟨a2, rfl, k2⟩ := nat_of_wf w2
  obtain ⟨a3, rfl, k3⟩ := nat_of_wf w3
  subst e0 e1 e2 e3
  have hv : val4 a0 a1 a2 a3 < 115792089237316195423570985008687907853269984665640564039457584007913129639936 := by unfold val4; omega
  obtain ⟨q0, q1', q2', q3⟩ := fw_of ⟨k0, k1, k2, k3⟩ hv rfl
  refine ⟨val4 a0 a1 a2 a3, ?_⟩
  show _ = w4 (val4 a0 a1 a2 a3)
  unfold w4
  rw [← q0, ← q1', ← q2', ← q3]
theorem op_e2 {fuel : Nat} {cs : List Value} {x : DataW H × List MemPlace} (h : DataW.trod enc Tryz.prog W 0 (fun _ => true) true fuel 26 cs = some x) : ∃ n : N2, cs = flat (q2 n) := by
  obtain ⟨y0, y1, n, _, hl, h0, h1⟩ := trod_struct2 Tryz.underlying26 h
  rw [c26] at hl
  simp only [c24] at h0 h1
  obtain ⟨a, ha⟩ := op_fe (by simp [hl]) h0
  obtain ⟨b, hb⟩ := op_fe (by simp [hl]) h1
  refine ⟨(a, b), ?_⟩
  rw [List.drop_zero] at ha
  rw [List.take_of_length_le (by simp [hl])] at hb
  show cs = w4 a ++ (w4 b ++ [])
  rw [List.append_nil, ← List.take_append_drop 4 cs]
  congr 1
  all_goals first | exact ha.trans (List.append_nil _) | exact hb.trans (List.append_nil _)
theorem op_e6 {fuel : Nat} {cs : List Value} {x : DataW H × List MemPlace} (h : DataW.trod enc Tryz.prog W 0 (fun _ => true) true fuel 38 cs = some x) : ∃ n : N6, cs = flat (q6 n) := by
  obtain ⟨y0, y1, y2, n, _, hl, h0, h1, h2⟩ := trod_struct3 Tryz.underlying38 h
  rw [c28] at hl
  simp only [c26] at h0 h1 h2
  obtain ⟨a, ha⟩ := op_e2 h0
  obtain ⟨b, hb⟩ := op_e2 h1
  obtain ⟨c, hc⟩ := op_e2 h2
  refine ⟨(a, b, c), ?_⟩
  rw [List.drop_zero] at ha
  rw [List.take_of_length_le (by simp [hl])] at hc
  have e : flat (q6 (a, b, c)) = flat (q2 a) ++ (flat (q2 b) ++ flat (q2 c)) := by rw [← flat_append, ← flat_append]; rfl
  rw [e, ← ha, ← hb, ← hc, ← List.take_append_drop 8 cs]
  congr 1
  · simp
  · conv => lhs; rw [← List.take_append_drop 8 (List.drop 8 cs), List.drop_drop]
    simp
theorem op_e12 {fuel : Nat} {cs : List Value} {x : DataW H × List MemPlace} (h : DataW.trod enc Tryz.prog W 0 (fun _ => true) true fuel 47 cs = some x) : ∃ n : N12, cs = flat (q12 n) := by
  obtain ⟨y0, y1, n, _, hl, h0, h1⟩ := trod_struct2 Tryz.underlying47 h
  rw [c30] at hl
  simp only [c28] at h0 h1
  obtain ⟨a, ha⟩ := op_e6 h0
  obtain ⟨b, hb⟩ := op_e6 h1
  refine ⟨(a, b), ?_⟩
  rw [List.drop_zero] at ha
  rw [List.take_of_length_le (by simp [hl])] at hb
  have e : flat (q12 (a, b)) = flat (q6 a) ++ flat (q6 b) := by rw [← flat_append]; rfl
  rw [e, ← ha, ← hb, List.take_append_drop]
set_option maxRecDepth 100000 in
theorem open_e12 {base : Nat} {v : Value} {d : DataW H} {ps : List MemPlace} {pt : Array TypeId} {args : Array Value} (hval : ∀ (j : Nat) t v, pt[j]? = some t → args[j]? = some v → Value.okWide Tryz.prog W .any base t v) (j : Nat) (hj : pt[j]? = some 47) (ha : args[j]? = some v)
    (h : DataW.Trod enc Tryz.prog W 0 (fun _ => true) true 47 v d ps) : ∃ x : N12, v = .agg (flat (q12 x)).toArray := by
  have hv := hval j 47 v hj ha
  obtain ⟨cs, rfl⟩ := agg_of (t := 47) Tryz.underlying47 hv
  obtain ⟨fuel, hf⟩ := h
  obtain ⟨l⟩ := cs
  obtain ⟨x, hx⟩ := op_e12 hf
  subst hx
  exact ⟨x, rfl⟩
set_option maxRecDepth 100000 in
theorem open_e2 {base : Nat} {v : Value} {d : DataW H} {ps : List MemPlace} {pt : Array TypeId} {args : Array Value} (hval : ∀ (j : Nat) t v, pt[j]? = some t → args[j]? = some v → Value.okWide Tryz.prog W .any base t v) (j : Nat) (hj : pt[j]? = some 26) (ha : args[j]? = some v)
    (h : DataW.Trod enc Tryz.prog W 0 (fun _ => true) true 26 v d ps) : ∃ x : N2, v = .agg (flat (q2 x)).toArray := by
  have hv := hval j 26 v hj ha
  obtain ⟨cs, rfl⟩ := agg_of (t := 26) Tryz.underlying26 hv
  obtain ⟨fuel, hf⟩ := h
  obtain ⟨l⟩ := cs
  obtain ⟨x, hx⟩ := op_e2 hf
  subst hx
  exact ⟨x, rfl⟩
set_option maxRecDepth 100000 in
theorem open_e6 {base : Nat} {v : Value} {d : DataW H} {ps : List MemPlace} {pt : Array TypeId} {args : Array Value} (hval : ∀ (j : Nat) t v, pt[j]? = some t → args[j]? = some v → Value.okWide Tryz.prog W .any base t v) (j : Nat) (hj : pt[j]? = some 38) (ha : args[j]? = some v)
    (h : DataW.Trod enc Tryz.prog W 0 (fun _ => true) true 38 v d ps) : ∃ x : N6, v = .agg (flat (q6 x)).toArray := by
  have hv := hval j 38 v hj ha
  obtain ⟨cs, rfl⟩ := agg_of (t := 38) Tryz.underlying38 hv
  obtain ⟨fuel, hf⟩ := h
  obtain ⟨l⟩ := cs
  obtain ⟨x, hx⟩ := op_e6 hf
  subst hx
  exact ⟨x, rfl⟩
end
end Go.Proofs.YtkkbjemifmekfaaGreat.Ex
namespace Go.Proofs.YtkkbjemifmekfaaGreat
set_option linter.unusedVariables false
open Go.ChangeShapes Go.WideShapes Go.ChangeAt Go.RowKit

set_option maxRecDepth 100000 in
theorem towersix_lifted (os : Os) (started : os.Started) (H : Type) (enc : TypeId × Value → H) :
    ReturnsInHanded {} Tryz.checked os 4 .any (Rows.towerSixSpec.pre6 enc Tryz.prog Tryz.f4 Rows.towerSixRow.domain false) (Rows.towerSixSpec.post enc Tryz.prog Tryz.f4 false true false false) := by
  refine returnsInHanded_of_change (C := Tryz.checked) own started (by kernel_rfl) Tryz.func4
    (ChangeSpec.witness6 (enc := enc) (C := Tryz.checked) false ⟨#[], #[.agg #[.int .u64 0, .int .u64 0, .int .u64 0, .int .u64 0, .int .u64 0, .int .u64 0, .int .u64 0, .int .u64 0, .int .u64 0, .int .u64 0, .int .u64 0, .int .u64 0, .int .u64 0, .int .u64 0, .int .u64 0, .int .u64 0, .int .u64 0, .int .u64 0, .int .u64 0, .int .u64 0, .int .u64 0, .int .u64 0, .int .u64 0, .int .u64 0], .agg #[.int .u64 0, .int .u64 0, .int .u64 0, .int .u64 0, .int .u64 0, .int .u64 0, .int .u64 0, .int .u64 0, .int .u64 0, .int .u64 0, .int .u64 0, .int .u64 0, .int .u64 0, .int .u64 0, .int .u64 0, .int .u64 0, .int .u64 0, .int .u64 0, .int .u64 0, .int .u64 0, .int .u64 0, .int .u64 0, .int .u64 0, .int .u64 0]], []⟩ 8 (by kernel_rfl) (by kernel_rfl) (by kernel_rfl) (by kernel_rfl)) ?_
  intro W base args ds gs before hval0 hW hcnd _
  have hval : ∀ (j : Nat) t v, Tryz.f4.params[j]? = some t → args[j]? = some v → Value.okWide Tryz.prog W .any base t v := hval0
  have hW' := hW
  obtain ⟨p, q, hA0, hV, rfl, hfz, hnd⟩ := hW
  have hA : DataW.TrodAll enc Tryz.prog W 0 (fun _ => true) true Tryz.f4.params.toList args.toList ds p := hA0
  rw [Tryz.params4] at hA hval
  obtain ⟨v0, v1, d0, d1, p0, p1, rfl, rfl, rfl, h0, h1⟩ := trodAll_two hA
  obtain ⟨rfl, rfl⟩ := trodVars_none hV
  obtain ⟨x, rfl⟩ := Ex.open_e6 hval 0 rfl rfl h0
  obtain ⟨y, rfl⟩ := Ex.open_e6 hval 1 rfl rfl h1
  clear hA0 hval0
  simp only [List.append_nil] at hW'
  have l0 : ∀ x ∈ p0, x.block < W.heap.size := fun x hx => hW'.lt x (by simp [hx])
  have l1 : ∀ x ∈ p1, x.block < W.heap.size := fun x hx => hW'.lt x (by simp [hx])
  refine (Ex.six_calls x y W).mono fun e W' ⟨he, hbl⟩ => ?_
  subst he
  have kS : ∀ {v d ps}, DataW.Trod enc Tryz.prog W 0 (fun _ => true) true 38 v d ps → (∀ x ∈ ps, x.block < W.heap.size) → DataW.Trod enc Tryz.prog W' 0 (fun b => decide (b < W.heap.size)) true 38 v d ps :=
    fun h l => Below.trod laidOut (by kernel_rfl) (of_decide_eq_true (by kernel_rfl)) h hbl l
  exact ⟨_, rfl, ⟨_, _, _, [], _, [], hW', trodAll_mk1 (shut_bool Tryz.underlying4 _), trodAll_mk2 (kS h0 l0) (kS h1 l1), rfl, hbl.frame _, fun h => by cases h⟩⟩

theorem towersix_holds : Rows.TowerSixSaid :=
  OpenClaim.holds_of_wide 4 Tryz.f4 rfl rfl rfl rfl rfl rfl rfl ⟨rfl, rfl, rfl, rfl, rfl⟩ rfl rfl rfl rfl rfl (by kernel_rfl) Tryz.func4 (by kernel_rfl)
    (of_decide_eq_true (by kernel_rfl)) (by unfold Func.isWrapper; first | (rw [if_pos (by decide +kernel)]; kernel_rfl) | (rw [if_neg (by decide +kernel)]; exact ⟨rfl, rfl⟩))
    (fun os started H enc _ => towersix_lifted os started H enc)
#print axioms towersix_holds
end Go.Proofs.YtkkbjemifmekfaaGreat
