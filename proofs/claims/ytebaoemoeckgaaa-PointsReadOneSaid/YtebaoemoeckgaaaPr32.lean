/-
  Jacobian numbers and the points of the group that they tell. Conditions: none.
  Both curves as groups; what the functions answer, as points. Conditions: none.
-/
import Derived.Test.YtebaoemoeckgaaaPr31
namespace Go.Proofs.Ytebaoemoeckgaaa.Ex
set_option linter.unusedVariables false
set_option linter.unusedSimpArgs false
open Classical
section
variable {R : Type} {K : CR R} {inv : R → R} {b : R}
/-- these numbers tell this point -/
def Rp (E : EC K inv b) (p : Jc R) (P : {p : Pt R // On K b p}) : Prop := jto K inv p = P.1
theorem Rp.on {E : EC K inv b} {p : Jc R} {P : {p : Pt R // On K b p}} (h : Rp E p P) : On K b (jto K inv p) := by
  rw [show jto K inv p = P.1 from h]; exact P.2
theorem Rp.plus {E : EC K inv b} {p q : Jc R} {P Q : {p : Pt R // On K b p}} (h : Rp E p P) (g : Rp E q Q) : Rp E (jplus K p q) (E.grp.add P Q) := by
  show jto K inv (jplus K p q) = ptA K inv P.1 Q.1
  rw [jto_plus E h.on g.on, show jto K inv p = P.1 from h, show jto K inv q = Q.1 from g]
theorem Rp.rplus {E : EC K inv b} {p q : Jc R} {P Q : {p : Pt R // On K b p}} (h : Rp E p P) (g : Rp E q Q) : Rp E (rplus K p q) (E.grp.add P Q) := by
  show jto K inv (Ex.rplus K p q) = ptA K inv P.1 Q.1
  rw [jto_rplus E h.on g.on, show jto K inv p = P.1 from h, show jto K inv q = Q.1 from g]
theorem Rp.dbl {E : EC K inv b} {p : Jc R} {P : {p : Pt R // On K b p}} (h : Rp E p P) : Rp E (jdbl K p) (E.grp.add P P) := by
  show jto K inv (jdbl K p) = ptA K inv P.1 P.1
  rw [jto_dbl E h.on, show jto K inv p = P.1 from h]
theorem Rp.neg {E : EC K inv b} {p : Jc R} {P : {p : Pt R // On K b p}} (h : Rp E p P) : Rp E (jneg K p) (E.grp.neg P) := by
  show jto K inv (jneg K p) = ptN K P.1
  rw [jto_neg, show jto K inv p = P.1 from h]
theorem Rp.zero {E : EC K inv b} {p : Jc R} (h : p.2.2 = K.zero) : Rp E p E.grp.zero := jto_zero h
theorem EC.inv_one (E : EC K inv b) : inv K.one = K.one := by
  have := E.F.inv K.one E.F.ne
  rwa [K.one_mul] at this
theorem EC.jto_one (E : EC K inv b) (x y : R) : jto K inv (x, y, K.one) = some (x, y) := by
  rw [jto_some (p := (x, y, K.one)) E.F.ne]
  refine congrArg some (Prod.ext ?_ ?_)
  · show K.mul x (K.mul (inv K.one) (inv K.one)) = x
    rw [E.inv_one, K.one_mul, K.mul_one]
  · show K.mul y (K.mul (K.mul (inv K.one) (inv K.one)) (inv K.one)) = y
    rw [E.inv_one, K.one_mul, K.one_mul, K.mul_one]
end
namespace AG
variable {G : Type} (A : AG G)
def tt (P : Nat → G) : Nat → G
  | 0 => A.zero
  | n + 1 => A.add (tt P n) (P n)
theorem ns_one (g : G) : A.ns 1 g = g := A.zadd g
theorem sm_one (P : Nat → G) (c : Nat → Int) : A.sm P c 1 = A.zs (c 0) (P 0) := A.zadd _
end AG
end Go.Proofs.Ytebaoemoeckgaaa.Ex
namespace Go.Proofs.Ytebaoemoeckgaaa.Ex
set_option linter.unusedVariables false
set_option linter.unusedSimpArgs false
open Go.RowKit
open Classical
theorem no_cubeN (c : Nat) (hc : c < FP.M) (h0 : c ≠ 0) (hv : c ^ pThird % FP.M ≠ 1) (n : Fq) : F1.mul n (F1.mul n n) ≠ fm c := fun h => by
  have hv' : n.1 ^ 3 % FP.M = c := by
    have := congrArg Fin.val h
    have e : n.1 * (n.1 * n.1 % FP.M) % FP.M = c % FP.M := this
    rw [Nat.mul_mod_mod, ← Nat.mul_assoc, show n.1 * n.1 * n.1 = n.1 ^ 3 by rw [Nat.pow_succ, Nat.pow_two]] at e
    rw [e]; exact Nat.mod_eq_of_lt hc
  have h1 : 0 < n.1 := by
    rcases Nat.eq_zero_or_pos n.1 with h1 | h1
    · rw [h1] at hv'
      exact (h0 hv'.symm).elim
    · exact h1
  have := ferm h1 n.2
  rw [← third_eq, Nat.pow_mul, Nat.pow_mod, hv'] at this
  exact hv this
theorem cube3 : 3 ^ pThird % FP.M ≠ 1 := by
  rw [← pm_eq FP.M 256 3 pThird (by decide)]
  exact of_decide_eq_true (by kernel_rfl)
def nb2 : Nat := 21087453498479301738505683583845423561061080261299122796980902361914303298513
theorem cubeb : nb2 ^ pThird % FP.M ≠ 1 := by
  rw [← pm_eq FP.M 256 nb2 pThird (by decide)]
  exact of_decide_eq_true (by kernel_rfl)
theorem nm_b2 : nm2 b2E = fm nb2 := by decide
section
variable {R : Type} (K : CR R)
theorem cube_of {x b : R} (h : K.add (K.mul x (K.mul x x)) b = K.zero) : K.mul (K.neg x) (K.mul (K.neg x) (K.neg x)) = b := by
  have e : K.mul (K.neg x) (K.mul (K.neg x) (K.neg x)) = K.add (K.neg (K.add (K.mul x (K.mul x x)) b)) b := ring_id K (envL K [x, b]) (.mul (.neg (.v 0)) (.mul (.neg (.v 0)) (.neg (.v 0)))) (.add (.neg (.add (.mul (.v 0) (.mul (.v 0) (.v 0))) (.v 1))) (.v 1)) (by decide)
  rw [e, h]
  have z : K.neg K.zero = K.zero := by have := K.neg_add K.zero; rwa [K.add_zero] at this
  rw [z, K.zero_add]
end
theorem ec1 : EC F1 finv (fm 3) where
  F := ⟨F1_ne, fun x h => finv_mul h⟩
  two := fun h => absurd (congrArg Fin.val h) (by decide)
  odd := fun x h => no_cubeN 3 (by decide) (by decide) cube3 _ (cube_of F1 h)
theorem ec2 : EC F2 iv2 b2E where
  F := ⟨fld2.1, fun x h => F2_inv fun e => h (nm2_zero e)⟩
  two := fun h => absurd (congrArg (fun x : Q2 => x.1.1) h) (by decide)
  odd := fun x h => by
    have h1 := congrArg nm2 (cube_of F2 h)
    rw [nm2_mul, nm2_mul, nm_b2] at h1
    exact no_cubeN nb2 (by decide) (by decide) cubeb _ h1
theorem val_wv (x : Nat) : wv x % 18446744073709551616 = fw x 0 := by
  obtain ⟨h0, h1, h2, h3⟩ := fw_ok x
  unfold wv val4
  omega
theorem digI_eq (x p : Nat) : digI x p = booth (bwin (wv x) p) := by
  have e : dwin x p = bwin (wv x) p := by
    unfold dwin bwin
    by_cases h : p = 0
    · rw [if_pos h, if_pos h]
      unfold sh1
      have := val_wv x
      omega
    · rw [if_neg h, if_neg h]
      generalize wv x / 2 ^ (p * 4 - 1) = y
      show y / 18446744073709551616 ^ 0 % 18446744073709551616 % 32 = y % 32
      rw [Nat.pow_zero, Nat.div_one]
      omega
  unfold digI booth
  rw [e]

abbrev C1 := {p : Pt Fq // On F1 (fm 3) p}
theorem jt1_rep {p : J1} {g : C1} (h : Rp ec1 p g) : ∀ k, Rp ec1 (jt1 p k) (ec1.grp.ns k g)
  | 0 => Rp.zero rfl
  | k + 1 => (jt1_rep h k).plus h
theorem tms1_rep {p : J1} {g : C1} (h : Rp ec1 p g) : ∀ d : Int, Rp ec1 (tms1 p d) (ec1.grp.zs d g)
  | .ofNat 0 => Rp.zero rfl
  | .ofNat (k + 1) => jt1_rep h (k + 1)
  | .negSucc k => (jt1_rep h (k + 1)).neg
theorem cs1_rep {pt : Nat → J1} {g : Nat → C1} {N : Nat} (h : ∀ j, j < N → Rp ec1 (pt j) (g j)) (x : Nat → Nat) (p : Nat) : ∀ n, n ≤ N → Rp ec1 (cs1 pt x p n) (ec1.grp.sm g (fun j => booth (bwin (wv (x j)) p)) n)
  | 0, _ => Rp.zero rfl
  | n + 1, hn => by
    have h2 := tms1_rep (h n (by omega)) (digI (x n) p)
    rw [digI_eq] at h2
    have h1 := cs1_rep h x p n (by omega)
    have := h1.plus h2
    rw [← digI_eq] at this
    show Rp ec1 _ (ec1.grp.add _ (ec1.grp.zs (booth (bwin (wv (x n)) p)) (g n)))
    rw [← digI_eq]
    exact this
theorem ov1_rep {D : Nat → J1} {g : Nat → C1} {N PL : Nat} {x : Nat → Nat} (h : ∀ p, Rp ec1 (D p) (ec1.grp.sm g (fun j => booth (bwin (wv (x j)) p)) N)) : ∀ k, Rp ec1 (ov1 D PL k) (ec1.grp.sm g (fun j => hor (wv (x j)) PL k) N)
  | 0 => by
    show Rp ec1 _ (ec1.grp.sm g (fun _ => 0) N)
    rw [ec1.grp.sm_zero]
    exact Rp.zero rfl
  | k + 1 => by
    have h1 := (ov1_rep (PL := PL) h k).dbl.dbl.dbl.dbl.plus (h (PL - 1 - k))
    rw [ec1.grp.sm_two, ec1.grp.sm_two, ec1.grp.sm_two, ec1.grp.sm_two, ← ec1.grp.sm_add] at h1
    rw [ec1.grp.sm_congr (d := fun j => hor (wv (x j)) PL (k + 1)) (fun j _ => by show _ = 16 * hor (wv (x j)) PL k + _; omega)] at h1
    exact h1
theorem sumM1_rep {pt : Nat → J1} {g : Nat → C1} {N : Nat} (h : ∀ j, j < N → Rp ec1 (pt j) (g j)) (x : Nat → Nat) : Rp ec1 (sumM1 pt x N) (ec1.grp.sm g (fun j => (wv (x j) : Int)) N) := by
  have h1 := ov1_rep (PL := mxL x N / 4 + 1) (fun p => cs1_rep h x p N (Nat.le_refl _)) (mxL x N / 4 + 1)
  rw [ec1.grp.sm_congr (d := fun j => (wv (x j) : Int)) (fun j hj => hor_end _ _ (Nat.lt_of_lt_of_le (lenF_is (x j)).1 (Nat.pow_le_pow_right (by omega) (by have := mxL_ge x N j hj; omega))) (by omega))] at h1
  exact h1
theorem tot1_rep {pt : Nat → J1} {g : Nat → C1} : ∀ {N : Nat}, (∀ j, j < N → Rp ec1 (pt j) (g j)) → Rp ec1 (tot1 pt N) (ec1.grp.tt g N)
  | 0, _ => Rp.zero rfl
  | N + 1, h => (tot1_rep fun j hj => h j (by omega)).plus (h N (by omega))
theorem rtm1_rep {a : J1} {g : C1} (h : Rp ec1 a g) (n : Nat) : ∀ k, k ≤ lenF n → Rp ec1 (rtm1 a n (lenF n) k) (ec1.grp.ns (wv n / 2 ^ (lenF n - k)) g)
  | 0, _ => by
    rw [Nat.sub_zero, Nat.div_eq_of_lt (lenF_is n).1]
    exact Rp.zero rfl
  | k + 1, hk => by
    have ih := rtm1_rep h n k (by omega)
    have e : wv n / 2 ^ (lenF n - k) = wv n / 2 ^ (lenF n - (k + 1)) / 2 := by
      rw [show lenF n - k = (lenF n - (k + 1)) + 1 by omega, Nat.pow_add, ← Nat.div_div_eq_div_mul]
    have e2 : bitOf (wv n) (lenF n - 1 - k) = wv n / 2 ^ (lenF n - (k + 1)) % 2 := by
      unfold bitOf
      rw [show lenF n - 1 - k = lenF n - (k + 1) by omega]
    rw [e] at ih
    generalize wv n / 2 ^ (lenF n - (k + 1)) = y at ih e2 ⊢
    have h2 := ih.dbl
    rw [← ec1.grp.ns_add] at h2
    by_cases hb : bitOf (wv n) (lenF n - 1 - k) = 1
    · rw [show rtm1 a n (lenF n) (k + 1) = rplus F1 (jdbl F1 (rtm1 a n (lenF n) k)) a from if_pos hb]
      have h3 := h2.rplus h
      rw [show y = y / 2 + y / 2 + 1 by omega]
      exact h3
    · rw [show rtm1 a n (lenF n) (k + 1) = jdbl F1 (rtm1 a n (lenF n) k) from if_neg hb]
      have hb0 := bitOf_01 (wv n) (lenF n - 1 - k)
      rw [show y = y / 2 + y / 2 by omega]
      exact h2
/-- the point that comes in -/
noncomputable def af1 (p : G1N) : Pt Fq := bif p.2.2 then none else some (m1 p.1, m1 p.2.1)
theorem ck1_af {p : G1N} (h : (ckN1 p).1 = 0) : jto F1 finv (ckN1 p).2 = af1 p ∧ On F1 (fm 3) (af1 p) := by
  obtain ⟨x, y, b⟩ := p
  have e := ck1_eq x y b
  show jto F1 finv (ck1 x y b).2 = _ ∧ _
  have h' : (ck1 x y b).1 = 0 := h
  cases b with
  | true =>
    rw [if_pos rfl] at e
    refine ⟨?_, trivial⟩
    have : (ck1 x y true).2.2.2 = F1.zero := by
      rw [e]
      split <;> rfl
    exact jto_zero this
  | false =>
    rw [if_neg (by simp)] at e
    by_cases hb : ¬ (bl1 x ∧ bl1 y)
    · rw [if_pos hb] at e
      rw [e] at h'; cases h'
    · rw [if_neg hb] at e
      by_cases hy : F1.mul (m1 y) (m1 y) = F1.add (F1.mul (F1.mul (m1 x) (m1 x)) (m1 x)) (fm 3)
      · rw [if_pos hy] at e
        rw [e]
        refine ⟨ec1.jto_one _ _, ?_⟩
        show F1.mul (m1 y) (m1 y) = F1.add (F1.mul (m1 x) (F1.mul (m1 x) (m1 x))) (fm 3)
        rw [hy, F1.mul_comm (m1 x) (F1.mul (m1 x) (m1 x))]
      · rw [if_neg hy] at e
        rw [e] at h'; cases h'
theorem wd1_af (p : G1N) : jto F1 finv (wd1 p) = af1 p := by
  obtain ⟨x, y, b⟩ := p
  cases b with
  | true => exact jto_zero rfl
  | false => exact ec1.jto_one _ _
noncomputable def cp1 (p : G1N) : C1 := if h : (ckN1 p).1 = 0 then ⟨af1 p, (ck1_af h).2⟩ else ec1.grp.zero
theorem cp1_eq {p : G1N} (h : (ckN1 p).1 = 0) : (cp1 p).1 = af1 p := by unfold cp1; rw [dif_pos h]
theorem cp1_rep {p : G1N} (h : (ckN1 p).1 = 0) : Rp ec1 (ckN1 p).2 (cp1 p) := (ck1_af h).1.trans (cp1_eq h).symm
theorem cp1_wd {p : G1N} (h : (ckN1 p).1 = 0) : Rp ec1 (wd1 p) (cp1 p) := (wd1_af p).trans (cp1_eq h).symm
/-- sums: both answer alike -/
theorem resS1_2 (p q : G1N) : resS1 (p2 p q) 2 = if (ckN1 p).1 ≠ 0 then ((some (F1.zero, F1.zero)), (ckN1 p).1) else if (ckN1 q).1 ≠ 0 then ((some (F1.zero, F1.zero)), (ckN1 q).1) else ((ec1.grp.add (cp1 p) (cp1 q)).1, 0) := by
  have e1 : err1 (p2 p q) 1 = (ckN1 p).1 := if_neg (fun h => h rfl)
  have e2 : err1 (p2 p q) 2 = if err1 (p2 p q) 1 ≠ 0 then err1 (p2 p q) 1 else (ckN1 q).1 := rfl
  rw [e1] at e2
  unfold resS1
  rw [e2]
  by_cases h1 : (ckN1 p).1 = 0
  · by_cases h2 : (ckN1 q).1 = 0
    · simp only [h1, h2, ne_eq, not_true_eq_false, not_false_eq_true, if_true, if_false]
      have hr := tot1_rep (pt := pj1 (p2 p q)) (g := p2 (cp1 p) (cp1 q)) (N := 2) (fun j hj => by
        match j, hj with
        | 0, _ => exact cp1_rep h1
        | 1, _ => exact cp1_rep h2)
      have hr' : jto F1 finv (tot1 (pj1 (p2 p q)) 2) = (ec1.grp.add (ec1.grp.add ec1.grp.zero (cp1 p)) (cp1 q)).1 := hr
      rw [ec1.grp.zadd] at hr'
      rw [hr']
    · simp only [h1, h2, ne_eq, not_true_eq_false, not_false_eq_true, if_true, if_false]
  · simp only [h1, ne_eq, not_true_eq_false, not_false_eq_true, if_true, if_false]
theorem rresA1_2 (p q : G1N) : rresA1 p q = if (ckN1 p).1 ≠ 0 then ((some (F1.zero, F1.zero)), (ckN1 p).1) else if (ckN1 q).1 ≠ 0 then ((some (F1.zero, F1.zero)), (ckN1 q).1) else ((ec1.grp.add (cp1 p) (cp1 q)).1, 0) := by
  show (if (ckN1 p).1 ≠ 0 then ((some (F1.zero, F1.zero)), (ckN1 p).1) else if (ckN1 q).1 ≠ 0 then ((some (F1.zero, F1.zero)), (ckN1 q).1) else (jto F1 finv (rplus F1 (wd1 p) (wd1 q)), 0)) = _
  by_cases h1 : (ckN1 p).1 = 0
  · by_cases h2 : (ckN1 q).1 = 0
    · simp only [h1, h2, ne_eq, not_true_eq_false, not_false_eq_true, if_true, if_false]
      rw [show jto F1 finv (rplus F1 (wd1 p) (wd1 q)) = _ from (cp1_wd h1).rplus (cp1_wd h2)]
    · simp only [h1, h2, ne_eq, not_true_eq_false, not_false_eq_true, if_true, if_false]
  · simp only [h1, ne_eq, not_true_eq_false, not_false_eq_true, if_true, if_false]
theorem add1_same (p q : G1N) : resS1 (p2 p q) 2 = rresA1 p q := (resS1_2 p q).trans (rresA1_2 p q).symm
theorem resM1_1 (p : G1N) (n : Nat) : resM1 (fun _ => p) (fun _ => n) 1 = if (ckN1 p).1 ≠ 0 then ((some (F1.zero, F1.zero)), (ckN1 p).1) else ((ec1.grp.ns (wv n) (cp1 p)).1, 0) := by
  have e1 : err1 (fun _ => p) 1 = (ckN1 p).1 := if_neg (fun h => h rfl)
  unfold resM1
  rw [e1]
  by_cases h1 : (ckN1 p).1 = 0
  · simp only [h1, ne_eq, not_true_eq_false, not_false_eq_true, if_true, if_false]
    have hr := sumM1_rep (pt := pj1 (fun _ => p)) (g := fun _ => cp1 p) (N := 1) (fun j hj => cp1_rep h1) (fun _ => n)
    have hr' : jto F1 finv (sumM1 (pj1 (fun _ => p)) (fun _ => n) 1) = (ec1.grp.add ec1.grp.zero (ec1.grp.ns (wv n) (cp1 p))).1 := hr
    rw [ec1.grp.zadd] at hr'
    rw [hr']
  · simp only [h1, ne_eq, not_true_eq_false, not_false_eq_true, if_true, if_false]
theorem rresM1_1 (p : G1N) (n : Nat) : rresM1 p n = if (ckN1 p).1 ≠ 0 then ((some (F1.zero, F1.zero)), (ckN1 p).1) else ((ec1.grp.ns (wv n) (cp1 p)).1, 0) := by
  show (if (ckN1 p).1 ≠ 0 then ((some (F1.zero, F1.zero)), (ckN1 p).1) else (jto F1 finv (rtm1 (wd1 p) n (lenF n) (lenF n)), 0)) = _
  by_cases h1 : (ckN1 p).1 = 0
  · simp only [h1, ne_eq, not_true_eq_false, not_false_eq_true, if_true, if_false]
    have hr : jto F1 finv (rtm1 (wd1 p) n (lenF n) (lenF n)) = _ := rtm1_rep (cp1_wd h1) n (lenF n) (Nat.le_refl _)
    rw [hr, Nat.sub_self, Nat.pow_zero, Nat.div_one]
  · simp only [h1, ne_eq, not_true_eq_false, not_false_eq_true, if_true, if_false]
theorem mul1_same (p : G1N) (n : Nat) : resM1 (fun _ => p) (fun _ => n) 1 = rresM1 p n := (resM1_1 p n).trans (rresM1_1 p n).symm
theorem resN1_1 (p : G1N) : resN1 p = if (ckN1 p).1 ≠ 0 then ((some (F1.zero, F1.zero)), (ckN1 p).1) else ((ec1.grp.neg (cp1 p)).1, 0) := by
  show (if (ckN1 p).1 ≠ 0 then ((some (F1.zero, F1.zero)), (ckN1 p).1) else (jto F1 finv (jneg F1 (ckN1 p).2), 0)) = _
  by_cases h1 : (ckN1 p).1 = 0
  · simp only [h1, ne_eq, not_true_eq_false, not_false_eq_true, if_true, if_false]
    rw [show jto F1 finv (jneg F1 (ckN1 p).2) = _ from (cp1_rep h1).neg]
  · simp only [h1, ne_eq, not_true_eq_false, not_false_eq_true, if_true, if_false]
theorem rresN1_1 (p : G1N) : rresN1 p = if (ckN1 p).1 ≠ 0 then ((some (F1.zero, F1.zero)), (ckN1 p).1) else ((ec1.grp.neg (cp1 p)).1, 0) := by
  show (if (ckN1 p).1 ≠ 0 then ((some (F1.zero, F1.zero)), (ckN1 p).1) else (bif p.2.2 then none else some (m1 p.1, (F1.neg (m1 p.2.1))), 0)) = _
  by_cases h1 : (ckN1 p).1 = 0
  · simp only [h1, ne_eq, not_true_eq_false, not_false_eq_true, if_true, if_false]
    rw [show (ec1.grp.neg (cp1 p)).1 = ptN F1 (cp1 p).1 from rfl, cp1_eq h1]
    unfold af1
    cases p.2.2
    · rfl
    · rfl
  · simp only [h1, ne_eq, not_true_eq_false, not_false_eq_true, if_true, if_false]
theorem neg1_same (p : G1N) : resN1 p = rresN1 p := (resN1_1 p).trans (rresN1_1 p).symm

abbrev C2 := {p : Pt Q2 // On F2 b2E p}
theorem jt2_rep {p : J2} {g : C2} (h : Rp ec2 p g) : ∀ k, Rp ec2 (jt2 p k) (ec2.grp.ns k g)
  | 0 => Rp.zero rfl
  | k + 1 => (jt2_rep h k).plus h
theorem tms2_rep {p : J2} {g : C2} (h : Rp ec2 p g) : ∀ d : Int, Rp ec2 (tms2 p d) (ec2.grp.zs d g)
  | .ofNat 0 => Rp.zero rfl
  | .ofNat (k + 1) => jt2_rep h (k + 1)
  | .negSucc k => (jt2_rep h (k + 1)).neg
theorem cs2_rep {pt : Nat → J2} {g : Nat → C2} {N : Nat} (h : ∀ j, j < N → Rp ec2 (pt j) (g j)) (x : Nat → Nat) (p : Nat) : ∀ n, n ≤ N → Rp ec2 (cs2 pt x p n) (ec2.grp.sm g (fun j => booth (bwin (wv (x j)) p)) n)
  | 0, _ => Rp.zero rfl
  | n + 1, hn => by
    have h2 := tms2_rep (h n (by omega)) (digI (x n) p)
    rw [digI_eq] at h2
    have h1 := cs2_rep h x p n (by omega)
    have := h1.plus h2
    rw [← digI_eq] at this
    show Rp ec2 _ (ec2.grp.add _ (ec2.grp.zs (booth (bwin (wv (x n)) p)) (g n)))
    rw [← digI_eq]
    exact this
theorem ov2_rep {D : Nat → J2} {g : Nat → C2} {N PL : Nat} {x : Nat → Nat} (h : ∀ p, Rp ec2 (D p) (ec2.grp.sm g (fun j => booth (bwin (wv (x j)) p)) N)) : ∀ k, Rp ec2 (ov2 D PL k) (ec2.grp.sm g (fun j => hor (wv (x j)) PL k) N)
  | 0 => by
    show Rp ec2 _ (ec2.grp.sm g (fun _ => 0) N)
    rw [ec2.grp.sm_zero]
    exact Rp.zero rfl
  | k + 1 => by
    have h1 := (ov2_rep (PL := PL) h k).dbl.dbl.dbl.dbl.plus (h (PL - 1 - k))
    rw [ec2.grp.sm_two, ec2.grp.sm_two, ec2.grp.sm_two, ec2.grp.sm_two, ← ec2.grp.sm_add] at h1
    rw [ec2.grp.sm_congr (d := fun j => hor (wv (x j)) PL (k + 1)) (fun j _ => by show _ = 16 * hor (wv (x j)) PL k + _; omega)] at h1
    exact h1
theorem sumM2_rep {pt : Nat → J2} {g : Nat → C2} {N : Nat} (h : ∀ j, j < N → Rp ec2 (pt j) (g j)) (x : Nat → Nat) : Rp ec2 (sumM2 pt x N) (ec2.grp.sm g (fun j => (wv (x j) : Int)) N) := by
  have h1 := ov2_rep (PL := mxL x N / 4 + 1) (fun p => cs2_rep h x p N (Nat.le_refl _)) (mxL x N / 4 + 1)
  rw [ec2.grp.sm_congr (d := fun j => (wv (x j) : Int)) (fun j hj => hor_end _ _ (Nat.lt_of_lt_of_le (lenF_is (x j)).1 (Nat.pow_le_pow_right (by omega) (by have := mxL_ge x N j hj; omega))) (by omega))] at h1
  exact h1
theorem tot2_rep {pt : Nat → J2} {g : Nat → C2} : ∀ {N : Nat}, (∀ j, j < N → Rp ec2 (pt j) (g j)) → Rp ec2 (tot2 pt N) (ec2.grp.tt g N)
  | 0, _ => Rp.zero rfl
  | N + 1, h => (tot2_rep fun j hj => h j (by omega)).plus (h N (by omega))
theorem rtm2_rep {a : J2} {g : C2} (h : Rp ec2 a g) (n : Nat) : ∀ k, k ≤ lenF n → Rp ec2 (rtm2 a n (lenF n) k) (ec2.grp.ns (wv n / 2 ^ (lenF n - k)) g)
  | 0, _ => by
    rw [Nat.sub_zero, Nat.div_eq_of_lt (lenF_is n).1]
    exact Rp.zero rfl
  | k + 1, hk => by
    have ih := rtm2_rep h n k (by omega)
    have e : wv n / 2 ^ (lenF n - k) = wv n / 2 ^ (lenF n - (k + 1)) / 2 := by
      rw [show lenF n - k = (lenF n - (k + 1)) + 1 by omega, Nat.pow_add, ← Nat.div_div_eq_div_mul]
    have e2 : bitOf (wv n) (lenF n - 1 - k) = wv n / 2 ^ (lenF n - (k + 1)) % 2 := by
      unfold bitOf
      rw [show lenF n - 1 - k = lenF n - (k + 1) by omega]
    rw [e] at ih
    generalize wv n / 2 ^ (lenF n - (k + 1)) = y at ih e2 ⊢
    have h2 := ih.dbl
    rw [← ec2.grp.ns_add] at h2
    by_cases hb : bitOf (wv n) (lenF n - 1 - k) = 1
    · rw [show rtm2 a n (lenF n) (k + 1) = rplus F2 (jdbl F2 (rtm2 a n (lenF n) k)) a from if_pos hb]
      have h3 := h2.rplus h
      rw [show y = y / 2 + y / 2 + 1 by omega]
      exact h3
    · rw [show rtm2 a n (lenF n) (k + 1) = jdbl F2 (rtm2 a n (lenF n) k) from if_neg hb]
      have hb0 := bitOf_01 (wv n) (lenF n - 1 - k)
      rw [show y = y / 2 + y / 2 by omega]
      exact h2
/-- the point that comes in -/
noncomputable def af2 (p : G2N) : Pt Q2 := bif p.2.2 then none else some (m2 p.1, m2 p.2.1)
theorem ck2_af {p : G2N} (h : (ckN2 p).1 = 0) : jto F2 iv2 (ckN2 p).2 = af2 p ∧ On F2 b2E (af2 p) := by
  obtain ⟨x, y, b⟩ := p
  have e := ck2_eq x y b
  show jto F2 iv2 (ck2 x y b).2 = _ ∧ _
  have h' : (ck2 x y b).1 = 0 := h
  cases b with
  | true =>
    rw [if_pos rfl] at e
    refine ⟨?_, trivial⟩
    have : (ck2 x y true).2.2.2 = F2.zero := by
      rw [e]
      split <;> rfl
    exact jto_zero this
  | false =>
    rw [if_neg (by simp)] at e
    by_cases hb : ¬ (bl2 x ∧ bl2 y)
    · rw [if_pos hb] at e
      rw [e] at h'; cases h'
    · rw [if_neg hb] at e
      by_cases hy : F2.mul (m2 y) (m2 y) = F2.add (F2.mul (F2.mul (m2 x) (m2 x)) (m2 x)) b2E
      · rw [if_pos hy] at e
        rw [e]
        refine ⟨ec2.jto_one _ _, ?_⟩
        show F2.mul (m2 y) (m2 y) = F2.add (F2.mul (m2 x) (F2.mul (m2 x) (m2 x))) b2E
        rw [hy, F2.mul_comm (m2 x) (F2.mul (m2 x) (m2 x))]
      · rw [if_neg hy] at e
        rw [e] at h'; cases h'
theorem wd2_af (p : G2N) : jto F2 iv2 (wd2 p) = af2 p := by
  obtain ⟨x, y, b⟩ := p
  cases b with
  | true => exact jto_zero rfl
  | false => exact ec2.jto_one _ _
noncomputable def cp2 (p : G2N) : C2 := if h : (ckN2 p).1 = 0 then ⟨af2 p, (ck2_af h).2⟩ else ec2.grp.zero
theorem cp2_eq {p : G2N} (h : (ckN2 p).1 = 0) : (cp2 p).1 = af2 p := by unfold cp2; rw [dif_pos h]
theorem cp2_rep {p : G2N} (h : (ckN2 p).1 = 0) : Rp ec2 (ckN2 p).2 (cp2 p) := (ck2_af h).1.trans (cp2_eq h).symm
theorem cp2_wd {p : G2N} (h : (ckN2 p).1 = 0) : Rp ec2 (wd2 p) (cp2 p) := (wd2_af p).trans (cp2_eq h).symm
/-- sums: both answer alike -/
theorem resS2_2 (p q : G2N) : resS2 (p2 p q) 2 = if (ckN2 p).1 ≠ 0 then ((some (F2.zero, F2.zero)), (ckN2 p).1) else if (ckN2 q).1 ≠ 0 then ((some (F2.zero, F2.zero)), (ckN2 q).1) else ((ec2.grp.add (cp2 p) (cp2 q)).1, 0) := by
  have e1 : err2 (p2 p q) 1 = (ckN2 p).1 := if_neg (fun h => h rfl)
  have e2 : err2 (p2 p q) 2 = if err2 (p2 p q) 1 ≠ 0 then err2 (p2 p q) 1 else (ckN2 q).1 := rfl
  rw [e1] at e2
  unfold resS2
  rw [e2]
  by_cases h1 : (ckN2 p).1 = 0
  · by_cases h2 : (ckN2 q).1 = 0
    · simp only [h1, h2, ne_eq, not_true_eq_false, not_false_eq_true, if_true, if_false]
      have hr := tot2_rep (pt := pj2 (p2 p q)) (g := p2 (cp2 p) (cp2 q)) (N := 2) (fun j hj => by
        match j, hj with
        | 0, _ => exact cp2_rep h1
        | 1, _ => exact cp2_rep h2)
      have hr' : jto F2 iv2 (tot2 (pj2 (p2 p q)) 2) = (ec2.grp.add (ec2.grp.add ec2.grp.zero (cp2 p)) (cp2 q)).1 := hr
      rw [ec2.grp.zadd] at hr'
      rw [hr']
    · simp only [h1, h2, ne_eq, not_true_eq_false, not_false_eq_true, if_true, if_false]
  · simp only [h1, ne_eq, not_true_eq_false, not_false_eq_true, if_true, if_false]
theorem rresA2_2 (p q : G2N) : rresA2 p q = if (ckN2 p).1 ≠ 0 then ((some (F2.zero, F2.zero)), (ckN2 p).1) else if (ckN2 q).1 ≠ 0 then ((some (F2.zero, F2.zero)), (ckN2 q).1) else ((ec2.grp.add (cp2 p) (cp2 q)).1, 0) := by
  show (if (ckN2 p).1 ≠ 0 then ((some (F2.zero, F2.zero)), (ckN2 p).1) else if (ckN2 q).1 ≠ 0 then ((some (F2.zero, F2.zero)), (ckN2 q).1) else (jto F2 iv2 (rplus F2 (wd2 p) (wd2 q)), 0)) = _
  by_cases h1 : (ckN2 p).1 = 0
  · by_cases h2 : (ckN2 q).1 = 0
    · simp only [h1, h2, ne_eq, not_true_eq_false, not_false_eq_true, if_true, if_false]
      rw [show jto F2 iv2 (rplus F2 (wd2 p) (wd2 q)) = _ from (cp2_wd h1).rplus (cp2_wd h2)]
    · simp only [h1, h2, ne_eq, not_true_eq_false, not_false_eq_true, if_true, if_false]
  · simp only [h1, ne_eq, not_true_eq_false, not_false_eq_true, if_true, if_false]
theorem add2_same (p q : G2N) : resS2 (p2 p q) 2 = rresA2 p q := (resS2_2 p q).trans (rresA2_2 p q).symm
theorem resM2_1 (p : G2N) (n : Nat) : resM2 (fun _ => p) (fun _ => n) 1 = if (ckN2 p).1 ≠ 0 then ((some (F2.zero, F2.zero)), (ckN2 p).1) else ((ec2.grp.ns (wv n) (cp2 p)).1, 0) := by
  have e1 : err2 (fun _ => p) 1 = (ckN2 p).1 := if_neg (fun h => h rfl)
  unfold resM2
  rw [e1]
  by_cases h1 : (ckN2 p).1 = 0
  · simp only [h1, ne_eq, not_true_eq_false, not_false_eq_true, if_true, if_false]
    have hr := sumM2_rep (pt := pj2 (fun _ => p)) (g := fun _ => cp2 p) (N := 1) (fun j hj => cp2_rep h1) (fun _ => n)
    have hr' : jto F2 iv2 (sumM2 (pj2 (fun _ => p)) (fun _ => n) 1) = (ec2.grp.add ec2.grp.zero (ec2.grp.ns (wv n) (cp2 p))).1 := hr
    rw [ec2.grp.zadd] at hr'
    rw [hr']
  · simp only [h1, ne_eq, not_true_eq_false, not_false_eq_true, if_true, if_false]
theorem rresM2_1 (p : G2N) (n : Nat) : rresM2 p n = if (ckN2 p).1 ≠ 0 then ((some (F2.zero, F2.zero)), (ckN2 p).1) else ((ec2.grp.ns (wv n) (cp2 p)).1, 0) := by
  show (if (ckN2 p).1 ≠ 0 then ((some (F2.zero, F2.zero)), (ckN2 p).1) else (jto F2 iv2 (rtm2 (wd2 p) n (lenF n) (lenF n)), 0)) = _
  by_cases h1 : (ckN2 p).1 = 0
  · simp only [h1, ne_eq, not_true_eq_false, not_false_eq_true, if_true, if_false]
    have hr : jto F2 iv2 (rtm2 (wd2 p) n (lenF n) (lenF n)) = _ := rtm2_rep (cp2_wd h1) n (lenF n) (Nat.le_refl _)
    rw [hr, Nat.sub_self, Nat.pow_zero, Nat.div_one]
  · simp only [h1, ne_eq, not_true_eq_false, not_false_eq_true, if_true, if_false]
theorem mul2_same (p : G2N) (n : Nat) : resM2 (fun _ => p) (fun _ => n) 1 = rresM2 p n := (resM2_1 p n).trans (rresM2_1 p n).symm
theorem resN2_1 (p : G2N) : resN2 p = if (ckN2 p).1 ≠ 0 then ((some (F2.zero, F2.zero)), (ckN2 p).1) else ((ec2.grp.neg (cp2 p)).1, 0) := by
  show (if (ckN2 p).1 ≠ 0 then ((some (F2.zero, F2.zero)), (ckN2 p).1) else (jto F2 iv2 (jneg F2 (ckN2 p).2), 0)) = _
  by_cases h1 : (ckN2 p).1 = 0
  · simp only [h1, ne_eq, not_true_eq_false, not_false_eq_true, if_true, if_false]
    rw [show jto F2 iv2 (jneg F2 (ckN2 p).2) = _ from (cp2_rep h1).neg]
  · simp only [h1, ne_eq, not_true_eq_false, not_false_eq_true, if_true, if_false]
theorem rresN2_1 (p : G2N) : rresN2 p = if (ckN2 p).1 ≠ 0 then ((some (F2.zero, F2.zero)), (ckN2 p).1) else ((ec2.grp.neg (cp2 p)).1, 0) := by
  show (if (ckN2 p).1 ≠ 0 then ((some (F2.zero, F2.zero)), (ckN2 p).1) else (bif p.2.2 then none else some (m2 p.1, (F2.sub F2.zero (m2 p.2.1))), 0)) = _
  by_cases h1 : (ckN2 p).1 = 0
  · simp only [h1, ne_eq, not_true_eq_false, not_false_eq_true, if_true, if_false]
    rw [show (ec2.grp.neg (cp2 p)).1 = ptN F2 (cp2 p).1 from rfl, cp2_eq h1]
    unfold af2
    cases p.2.2
    · refine Prod.ext (congrArg some (Prod.ext rfl ?_)) rfl
      exact F2.zero_add _
    · rfl
  · simp only [h1, ne_eq, not_true_eq_false, not_false_eq_true, if_true, if_false]
theorem neg2_same (p : G2N) : resN2 p = rresN2 p := (resN2_1 p).trans (rresN2_1 p).symm

end Go.Proofs.Ytebaoemoeckgaaa.Ex
