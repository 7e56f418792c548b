/-
  Both curves as groups; what the functions answer, as points. Conditions: none.
  The curves' generators and order, the p-power map, which points of the twist are in the group. Conditions: none.
  Multiples of the generators, reckoned. Conditions: none.
  works answers true. Conditions: none.
  CurveFirst answers true. Conditions: none.
  From a row's premises to a walk's: an argument of four words is opened. Conditions: none of its own.
  An argument that is an element of the tower is opened: it lies flat, its numbers' words. Conditions: none of its own.
  An argument that is a point is opened: it lies flat, its numbers' words. Conditions: none of its own.
-/
import Derived.ProofKit
import Derived.LaidMore
import Derived.OpenShut
import Derived.Stop.Joined
import Derived.Carry
import Derived.RowKit
import Derived.ChangeSame
import Derived.JoinedOf
import Derived.JoinedAt
import Derived.Laws.IdiomArrays
import Derived.Deep.Strs
import Derived.Test.YthlcjdcjnioeoaaGreatCj16
import Derived.Test.YthlcjdcjnioeoaaGreatRows
import Derived.Test.YthlcjdcjnioeoaaGreatCj03
import Derived.Test.YthlcjdcjnioeoaaGreatCj02
import Derived.Test.YthlcjdcjnioeoaaGreatCj12
namespace Go.Proofs.YthlcjdcjnioeoaaGreat.Ex
set_option linter.unusedVariables false
set_option linter.unusedSimpArgs false
open Go.RowKit
open Classical
theorem no_cubeN (c : Nat) (hc : c < FP.M) (h0 : c ≠ 0) (hv : c ^ pThird % FP.M ≠ 1) (n : Fq) : F1.mul n (F1.mul n n) ≠ fm c := fun h => by
  have hv' : n.1 ^ 3 % FP.M = c := by
    have := congrArg Fin.val h
    have e : n.1 * (n.1 * n.1 % FP.M) % FP.M = c % FP.M := this
    rw [Nat.mul_mod_mod, ← Nat.mul_assoc, show n.1 * n.1 * n.1 = n.1 ^ 3 by rw [Nat.pow_succ, Nat.pow_two]] at e
    rw [e]; exact Nat.mod_eq_of_lt hc
  have h1 : 0 < n.1 := by
    rcases Nat.eq_zero_or_pos n.1 with h1 | h1
    · rw [h1] at hv'
      exact (h0 hv'.symm).elim
    · exact h1
  have := ferm h1 n.2
  rw [← third_eq, Nat.pow_mul, Nat.pow_mod, hv'] at this
  exact hv this
theorem cube3 : 3 ^ pThird % FP.M ≠ 1 := by
  rw [← pm_eq FP.M 256 3 pThird (by decide)]
  exact of_decide_eq_true (by kernel_rfl)
def nb2 : Nat := 21087453498479301738505683583845423561061080261299122796980902361914303298513
theorem cubeb : nb2 ^ pThird % FP.M ≠ 1 := by
  rw [← pm_eq FP.M 256 nb2 pThird (by decide)]
  exact of_decide_eq_true (by kernel_rfl)
theorem nm_b2 : nm2 b2E = fm nb2 := by decide
section
variable {R : Type} (K : CR R)
theorem cube_of {x b : R} (h : K.add (K.mul x (K.mul x x)) b = K.zero) : K.mul (K.neg x) (K.mul (K.neg x) (K.neg x)) = b := by
  have e : K.mul (K.neg x) (K.mul (K.neg x) (K.neg x)) = K.add (K.neg (K.add (K.mul x (K.mul x x)) b)) b := ring_id K (envL K [x, b]) (.mul (.neg (.v 0)) (.mul (.neg (.v 0)) (.neg (.v 0)))) (.add (.neg (.add (.mul (.v 0) (.mul (.v 0) (.v 0))) (.v 1))) (.v 1)) (by decide)
  rw [e, h]
  have z : K.neg K.zero = K.zero := by have := K.neg_add K.zero; rwa [K.add_zero] at this
  rw [z, K.zero_add]
end
theorem ec1 : EC F1 finv (fm 3) where
  F := ⟨F1_ne, fun x h => finv_mul h⟩
  two := fun h => absurd (congrArg Fin.val h) (by decide)
  odd := fun x h => no_cubeN 3 (by decide) (by decide) cube3 _ (cube_of F1 h)
theorem ec2 : EC F2 iv2 b2E where
  F := ⟨fld2.1, fun x h => F2_inv fun e => h (nm2_zero e)⟩
  two := fun h => absurd (congrArg (fun x : Q2 => x.1.1) h) (by decide)
  odd := fun x h => by
    have h1 := congrArg nm2 (cube_of F2 h)
    rw [nm2_mul, nm2_mul, nm_b2] at h1
    exact no_cubeN nb2 (by decide) (by decide) cubeb _ h1
theorem val_wv (x : Nat) : wv x % 18446744073709551616 = fw x 0 := by
  obtain ⟨h0, h1, h2, h3⟩ := fw_ok x
  unfold wv val4
  omega
theorem digI_eq (x p : Nat) : digI x p = booth (bwin (wv x) p) := by
  have e : dwin x p = bwin (wv x) p := by
    unfold dwin bwin
    by_cases h : p = 0
    · rw [if_pos h, if_pos h]
      unfold sh1
      have := val_wv x
      omega
    · rw [if_neg h, if_neg h]
      generalize wv x / 2 ^ (p * 4 - 1) = y
      show y / 18446744073709551616 ^ 0 % 18446744073709551616 % 32 = y % 32
      rw [Nat.pow_zero, Nat.div_one]
      omega
  unfold digI booth
  rw [e]

abbrev C1 := {p : Pt Fq // On F1 (fm 3) p}
theorem jt1_rep {p : J1} {g : C1} (h : Rp ec1 p g) : ∀ k, Rp ec1 (jt1 p k) (ec1.grp.ns k g)
  | 0 => Rp.zero rfl
  | k + 1 => (jt1_rep h k).plus h
theorem tms1_rep {p : J1} {g : C1} (h : Rp ec1 p g) : ∀ d : Int, Rp ec1 (tms1 p d) (ec1.grp.zs d g)
  | .ofNat 0 => Rp.zero rfl
  | .ofNat (k + 1) => jt1_rep h (k + 1)
  | .negSucc k => (jt1_rep h (k + 1)).neg
theorem cs1_rep {pt : Nat → J1} {g : Nat → C1} {N : Nat} (h : ∀ j, j < N → Rp ec1 (pt j) (g j)) (x : Nat → Nat) (p : Nat) : ∀ n, n ≤ N → Rp ec1 (cs1 pt x p n) (ec1.grp.sm g (fun j => booth (bwin (wv (x j)) p)) n)
  | 0, _ => Rp.zero rfl
  | n + 1, hn => by
    have h2 := tms1_rep (h n (by omega)) (digI (x n) p)
    rw [digI_eq] at h2
    have h1 := cs1_rep h x p n (by omega)
    have := h1.plus h2
    rw [← digI_eq] at this
    show Rp ec1 _ (ec1.grp.add _ (ec1.grp.zs (booth (bwin (wv (x n)) p)) (g n)))
    rw [← digI_eq]
    exact this
theorem ov1_rep {D : Nat → J1} {g : Nat → C1} {N PL : Nat} {x : Nat → Nat} (h : ∀ p, Rp ec1 (D p) (ec1.grp.sm g (fun j => booth (bwin (wv (x j)) p)) N)) : ∀ k, Rp ec1 (ov1 D PL k) (ec1.grp.sm g (fun j => hor (wv (x j)) PL k) N)
  | 0 => by
    show Rp ec1 _ (ec1.grp.sm g (fun _ => 0) N)
    rw [ec1.grp.sm_zero]
    exact Rp.zero rfl
  | k + 1 => by
    have h1 := (ov1_rep (PL := PL) h k).dbl.dbl.dbl.dbl.plus (h (PL - 1 - k))
    rw [ec1.grp.sm_two, ec1.grp.sm_two, ec1.grp.sm_two, ec1.grp.sm_two, ← ec1.grp.sm_add] at h1
    rw [ec1.grp.sm_congr (d := fun j => hor (wv (x j)) PL (k + 1)) (fun j _ => by show _ = 16 * hor (wv (x j)) PL k + _; omega)] at h1
    exact h1
theorem sumM1_rep {pt : Nat → J1} {g : Nat → C1} {N : Nat} (h : ∀ j, j < N → Rp ec1 (pt j) (g j)) (x : Nat → Nat) : Rp ec1 (sumM1 pt x N) (ec1.grp.sm g (fun j => (wv (x j) : Int)) N) := by
  have h1 := ov1_rep (PL := mxL x N / 4 + 1) (fun p => cs1_rep h x p N (Nat.le_refl _)) (mxL x N / 4 + 1)
  rw [ec1.grp.sm_congr (d := fun j => (wv (x j) : Int)) (fun j hj => hor_end _ _ (Nat.lt_of_lt_of_le (lenF_is (x j)).1 (Nat.pow_le_pow_right (by omega) (by have := mxL_ge x N j hj; omega))) (by omega))] at h1
  exact h1
theorem tot1_rep {pt : Nat → J1} {g : Nat → C1} : ∀ {N : Nat}, (∀ j, j < N → Rp ec1 (pt j) (g j)) → Rp ec1 (tot1 pt N) (ec1.grp.tt g N)
  | 0, _ => Rp.zero rfl
  | N + 1, h => (tot1_rep fun j hj => h j (by omega)).plus (h N (by omega))
theorem rtm1_rep {a : J1} {g : C1} (h : Rp ec1 a g) (n : Nat) : ∀ k, k ≤ lenF n → Rp ec1 (rtm1 a n (lenF n) k) (ec1.grp.ns (wv n / 2 ^ (lenF n - k)) g)
  | 0, _ => by
    rw [Nat.sub_zero, Nat.div_eq_of_lt (lenF_is n).1]
    exact Rp.zero rfl
  | k + 1, hk => by
    have ih := rtm1_rep h n k (by omega)
    have e : wv n / 2 ^ (lenF n - k) = wv n / 2 ^ (lenF n - (k + 1)) / 2 := by
      rw [show lenF n - k = (lenF n - (k + 1)) + 1 by omega, Nat.pow_add, ← Nat.div_div_eq_div_mul]
    have e2 : bitOf (wv n) (lenF n - 1 - k) = wv n / 2 ^ (lenF n - (k + 1)) % 2 := by
      unfold bitOf
      rw [show lenF n - 1 - k = lenF n - (k + 1) by omega]
    rw [e] at ih
    generalize wv n / 2 ^ (lenF n - (k + 1)) = y at ih e2 ⊢
    have h2 := ih.dbl
    rw [← ec1.grp.ns_add] at h2
    by_cases hb : bitOf (wv n) (lenF n - 1 - k) = 1
    · rw [show rtm1 a n (lenF n) (k + 1) = rplus F1 (jdbl F1 (rtm1 a n (lenF n) k)) a from if_pos hb]
      have h3 := h2.rplus h
      rw [show y = y / 2 + y / 2 + 1 by omega]
      exact h3
    · rw [show rtm1 a n (lenF n) (k + 1) = jdbl F1 (rtm1 a n (lenF n) k) from if_neg hb]
      have hb0 := bitOf_01 (wv n) (lenF n - 1 - k)
      rw [show y = y / 2 + y / 2 by omega]
      exact h2
/-- the point that comes in -/
noncomputable def af1 (p : G1N) : Pt Fq := bif p.2.2 then none else some (m1 p.1, m1 p.2.1)
theorem ck1_af {p : G1N} (h : (ckN1 p).1 = 0) : jto F1 finv (ckN1 p).2 = af1 p ∧ On F1 (fm 3) (af1 p) := by
  obtain ⟨x, y, b⟩ := p
  have e := ck1_eq x y b
  show jto F1 finv (ck1 x y b).2 = _ ∧ _
  have h' : (ck1 x y b).1 = 0 := h
  cases b with
  | true =>
    rw [if_pos rfl] at e
    refine ⟨?_, trivial⟩
    have : (ck1 x y true).2.2.2 = F1.zero := by
      rw [e]
      split <;> rfl
    exact jto_zero this
  | false =>
    rw [if_neg (by simp)] at e
    by_cases hb : ¬ (bl1 x ∧ bl1 y)
    · rw [if_pos hb] at e
      rw [e] at h'; cases h'
    · rw [if_neg hb] at e
      by_cases hy : F1.mul (m1 y) (m1 y) = F1.add (F1.mul (F1.mul (m1 x) (m1 x)) (m1 x)) (fm 3)
      · rw [if_pos hy] at e
        rw [e]
        refine ⟨ec1.jto_one _ _, ?_⟩
        show F1.mul (m1 y) (m1 y) = F1.add (F1.mul (m1 x) (F1.mul (m1 x) (m1 x))) (fm 3)
        rw [hy, F1.mul_comm (m1 x) (F1.mul (m1 x) (m1 x))]
      · rw [if_neg hy] at e
        rw [e] at h'; cases h'
theorem wd1_af (p : G1N) : jto F1 finv (wd1 p) = af1 p := by
  obtain ⟨x, y, b⟩ := p
  cases b with
  | true => exact jto_zero rfl
  | false => exact ec1.jto_one _ _
noncomputable def cp1 (p : G1N) : C1 := if h : (ckN1 p).1 = 0 then ⟨af1 p, (ck1_af h).2⟩ else ec1.grp.zero
theorem cp1_eq {p : G1N} (h : (ckN1 p).1 = 0) : (cp1 p).1 = af1 p := by unfold cp1; rw [dif_pos h]
theorem cp1_rep {p : G1N} (h : (ckN1 p).1 = 0) : Rp ec1 (ckN1 p).2 (cp1 p) := (ck1_af h).1.trans (cp1_eq h).symm
theorem cp1_wd {p : G1N} (h : (ckN1 p).1 = 0) : Rp ec1 (wd1 p) (cp1 p) := (wd1_af p).trans (cp1_eq h).symm
/-- sums: both answer alike -/
theorem resS1_2 (p q : G1N) : resS1 (p2 p q) 2 = if (ckN1 p).1 ≠ 0 then ((some (F1.zero, F1.zero)), (ckN1 p).1) else if (ckN1 q).1 ≠ 0 then ((some (F1.zero, F1.zero)), (ckN1 q).1) else ((ec1.grp.add (cp1 p) (cp1 q)).1, 0) := by
  have e1 : err1 (p2 p q) 1 = (ckN1 p).1 := if_neg (fun h => h rfl)
  have e2 : err1 (p2 p q) 2 = if err1 (p2 p q) 1 ≠ 0 then err1 (p2 p q) 1 else (ckN1 q).1 := rfl
  rw [e1] at e2
  unfold resS1
  rw [e2]
  by_cases h1 : (ckN1 p).1 = 0
  · by_cases h2 : (ckN1 q).1 = 0
    · simp only [h1, h2, ne_eq, not_true_eq_false, not_false_eq_true, if_true, if_false]
      have hr := tot1_rep (pt := pj1 (p2 p q)) (g := p2 (cp1 p) (cp1 q)) (N := 2) (fun j hj => by
        match j, hj with
        | 0, _ => exact cp1_rep h1
        | 1, _ => exact cp1_rep h2)
      have hr' : jto F1 finv (tot1 (pj1 (p2 p q)) 2) = (ec1.grp.add (ec1.grp.add ec1.grp.zero (cp1 p)) (cp1 q)).1 := hr
      rw [ec1.grp.zadd] at hr'
      rw [hr']
    · simp only [h1, h2, ne_eq, not_true_eq_false, not_false_eq_true, if_true, if_false]
  · simp only [h1, ne_eq, not_true_eq_false, not_false_eq_true, if_true, if_false]
theorem rresA1_2 (p q : G1N) : rresA1 p q = if (ckN1 p).1 ≠ 0 then ((some (F1.zero, F1.zero)), (ckN1 p).1) else if (ckN1 q).1 ≠ 0 then ((some (F1.zero, F1.zero)), (ckN1 q).1) else ((ec1.grp.add (cp1 p) (cp1 q)).1, 0) := by
  show (if (ckN1 p).1 ≠ 0 then ((some (F1.zero, F1.zero)), (ckN1 p).1) else if (ckN1 q).1 ≠ 0 then ((some (F1.zero, F1.zero)), (ckN1 q).1) else (jto F1 finv (rplus F1 (wd1 p) (wd1 q)), 0)) = _
  by_cases h1 : (ckN1 p).1 = 0
  · by_cases h2 : (ckN1 q).1 = 0
    · simp only [h1, h2, ne_eq, not_true_eq_false, not_false_eq_true, if_true, if_false]
      rw [show jto F1 finv (rplus F1 (wd1 p) (wd1 q)) = _ from (cp1_wd h1).rplus (cp1_wd h2)]
    · simp only [h1, h2, ne_eq, not_true_eq_false, not_false_eq_true, if_true, if_false]
  · simp only [h1, ne_eq, not_true_eq_false, not_false_eq_true, if_true, if_false]
theorem add1_same (p q : G1N) : resS1 (p2 p q) 2 = rresA1 p q := (resS1_2 p q).trans (rresA1_2 p q).symm
theorem resM1_1 (p : G1N) (n : Nat) : resM1 (fun _ => p) (fun _ => n) 1 = if (ckN1 p).1 ≠ 0 then ((some (F1.zero, F1.zero)), (ckN1 p).1) else ((ec1.grp.ns (wv n) (cp1 p)).1, 0) := by
  have e1 : err1 (fun _ => p) 1 = (ckN1 p).1 := if_neg (fun h => h rfl)
  unfold resM1
  rw [e1]
  by_cases h1 : (ckN1 p).1 = 0
  · simp only [h1, ne_eq, not_true_eq_false, not_false_eq_true, if_true, if_false]
    have hr := sumM1_rep (pt := pj1 (fun _ => p)) (g := fun _ => cp1 p) (N := 1) (fun j hj => cp1_rep h1) (fun _ => n)
    have hr' : jto F1 finv (sumM1 (pj1 (fun _ => p)) (fun _ => n) 1) = (ec1.grp.add ec1.grp.zero (ec1.grp.ns (wv n) (cp1 p))).1 := hr
    rw [ec1.grp.zadd] at hr'
    rw [hr']
  · simp only [h1, ne_eq, not_true_eq_false, not_false_eq_true, if_true, if_false]
theorem rresM1_1 (p : G1N) (n : Nat) : rresM1 p n = if (ckN1 p).1 ≠ 0 then ((some (F1.zero, F1.zero)), (ckN1 p).1) else ((ec1.grp.ns (wv n) (cp1 p)).1, 0) := by
  show (if (ckN1 p).1 ≠ 0 then ((some (F1.zero, F1.zero)), (ckN1 p).1) else (jto F1 finv (rtm1 (wd1 p) n (lenF n) (lenF n)), 0)) = _
  by_cases h1 : (ckN1 p).1 = 0
  · simp only [h1, ne_eq, not_true_eq_false, not_false_eq_true, if_true, if_false]
    have hr : jto F1 finv (rtm1 (wd1 p) n (lenF n) (lenF n)) = _ := rtm1_rep (cp1_wd h1) n (lenF n) (Nat.le_refl _)
    rw [hr, Nat.sub_self, Nat.pow_zero, Nat.div_one]
  · simp only [h1, ne_eq, not_true_eq_false, not_false_eq_true, if_true, if_false]
theorem mul1_same (p : G1N) (n : Nat) : resM1 (fun _ => p) (fun _ => n) 1 = rresM1 p n := (resM1_1 p n).trans (rresM1_1 p n).symm
theorem resN1_1 (p : G1N) : resN1 p = if (ckN1 p).1 ≠ 0 then ((some (F1.zero, F1.zero)), (ckN1 p).1) else ((ec1.grp.neg (cp1 p)).1, 0) := by
  show (if (ckN1 p).1 ≠ 0 then ((some (F1.zero, F1.zero)), (ckN1 p).1) else (jto F1 finv (jneg F1 (ckN1 p).2), 0)) = _
  by_cases h1 : (ckN1 p).1 = 0
  · simp only [h1, ne_eq, not_true_eq_false, not_false_eq_true, if_true, if_false]
    rw [show jto F1 finv (jneg F1 (ckN1 p).2) = _ from (cp1_rep h1).neg]
  · simp only [h1, ne_eq, not_true_eq_false, not_false_eq_true, if_true, if_false]
theorem rresN1_1 (p : G1N) : rresN1 p = if (ckN1 p).1 ≠ 0 then ((some (F1.zero, F1.zero)), (ckN1 p).1) else ((ec1.grp.neg (cp1 p)).1, 0) := by
  show (if (ckN1 p).1 ≠ 0 then ((some (F1.zero, F1.zero)), (ckN1 p).1) else (bif p.2.2 then none else some (m1 p.1, (F1.neg (m1 p.2.1))), 0)) = _
  by_cases h1 : (ckN1 p).1 = 0
  · simp only [h1, ne_eq, not_true_eq_false, not_false_eq_true, if_true, if_false]
    rw [show (ec1.grp.neg (cp1 p)).1 = ptN F1 (cp1 p).1 from rfl, cp1_eq h1]
    unfold af1
    cases p.2.2
    · rfl
    · rfl
  · simp only [h1, ne_eq, not_true_eq_false, not_false_eq_true, if_true, if_false]
theorem neg1_same (p : G1N) : resN1 p = rresN1 p := (resN1_1 p).trans (rresN1_1 p).symm

abbrev C2 := {p : Pt Q2 // On F2 b2E p}
theorem jt2_rep {p : J2} {g : C2} (h : Rp ec2 p g) : ∀ k, Rp ec2 (jt2 p k) (ec2.grp.ns k g)
  | 0 => Rp.zero rfl
  | k + 1 => (jt2_rep h k).plus h
theorem tms2_rep {p : J2} {g : C2} (h : Rp ec2 p g) : ∀ d : Int, Rp ec2 (tms2 p d) (ec2.grp.zs d g)
  | .ofNat 0 => Rp.zero rfl
  | .ofNat (k + 1) => jt2_rep h (k + 1)
  | .negSucc k => (jt2_rep h (k + 1)).neg
theorem cs2_rep {pt : Nat → J2} {g : Nat → C2} {N : Nat} (h : ∀ j, j < N → Rp ec2 (pt j) (g j)) (x : Nat → Nat) (p : Nat) : ∀ n, n ≤ N → Rp ec2 (cs2 pt x p n) (ec2.grp.sm g (fun j => booth (bwin (wv (x j)) p)) n)
  | 0, _ => Rp.zero rfl
  | n + 1, hn => by
    have h2 := tms2_rep (h n (by omega)) (digI (x n) p)
    rw [digI_eq] at h2
    have h1 := cs2_rep h x p n (by omega)
    have := h1.plus h2
    rw [← digI_eq] at this
    show Rp ec2 _ (ec2.grp.add _ (ec2.grp.zs (booth (bwin (wv (x n)) p)) (g n)))
    rw [← digI_eq]
    exact this
theorem ov2_rep {D : Nat → J2} {g : Nat → C2} {N PL : Nat} {x : Nat → Nat} (h : ∀ p, Rp ec2 (D p) (ec2.grp.sm g (fun j => booth (bwin (wv (x j)) p)) N)) : ∀ k, Rp ec2 (ov2 D PL k) (ec2.grp.sm g (fun j => hor (wv (x j)) PL k) N)
  | 0 => by
    show Rp ec2 _ (ec2.grp.sm g (fun _ => 0) N)
    rw [ec2.grp.sm_zero]
    exact Rp.zero rfl
  | k + 1 => by
    have h1 := (ov2_rep (PL := PL) h k).dbl.dbl.dbl.dbl.plus (h (PL - 1 - k))
    rw [ec2.grp.sm_two, ec2.grp.sm_two, ec2.grp.sm_two, ec2.grp.sm_two, ← ec2.grp.sm_add] at h1
    rw [ec2.grp.sm_congr (d := fun j => hor (wv (x j)) PL (k + 1)) (fun j _ => by show _ = 16 * hor (wv (x j)) PL k + _; omega)] at h1
    exact h1
theorem sumM2_rep {pt : Nat → J2} {g : Nat → C2} {N : Nat} (h : ∀ j, j < N → Rp ec2 (pt j) (g j)) (x : Nat → Nat) : Rp ec2 (sumM2 pt x N) (ec2.grp.sm g (fun j => (wv (x j) : Int)) N) := by
  have h1 := ov2_rep (PL := mxL x N / 4 + 1) (fun p => cs2_rep h x p N (Nat.le_refl _)) (mxL x N / 4 + 1)
  rw [ec2.grp.sm_congr (d := fun j => (wv (x j) : Int)) (fun j hj => hor_end _ _ (Nat.lt_of_lt_of_le (lenF_is (x j)).1 (Nat.pow_le_pow_right (by omega) (by have := mxL_ge x N j hj; omega))) (by omega))] at h1
  exact h1
theorem tot2_rep {pt : Nat → J2} {g : Nat → C2} : ∀ {N : Nat}, (∀ j, j < N → Rp ec2 (pt j) (g j)) → Rp ec2 (tot2 pt N) (ec2.grp.tt g N)
  | 0, _ => Rp.zero rfl
  | N + 1, h => (tot2_rep fun j hj => h j (by omega)).plus (h N (by omega))
theorem rtm2_rep {a : J2} {g : C2} (h : Rp ec2 a g) (n : Nat) : ∀ k, k ≤ lenF n → Rp ec2 (rtm2 a n (lenF n) k) (ec2.grp.ns (wv n / 2 ^ (lenF n - k)) g)
  | 0, _ => by
    rw [Nat.sub_zero, Nat.div_eq_of_lt (lenF_is n).1]
    exact Rp.zero rfl
  | k + 1, hk => by
    have ih := rtm2_rep h n k (by omega)
    have e : wv n / 2 ^ (lenF n - k) = wv n / 2 ^ (lenF n - (k + 1)) / 2 := by
      rw [show lenF n - k = (lenF n - (k + 1)) + 1 by omega, Nat.pow_add, ← Nat.div_div_eq_div_mul]
    have e2 : bitOf (wv n) (lenF n - 1 - k) = wv n / 2 ^ (lenF n - (k + 1)) % 2 := by
      unfold bitOf
      rw [show lenF n - 1 - k = lenF n - (k + 1) by omega]
    rw [e] at ih
    generalize wv n / 2 ^ (lenF n - (k + 1)) = y at ih e2 ⊢
    have h2 := ih.dbl
    rw [← ec2.grp.ns_add] at h2
    by_cases hb : bitOf (wv n) (lenF n - 1 - k) = 1
    · rw [show rtm2 a n (lenF n) (k + 1) = rplus F2 (jdbl F2 (rtm2 a n (lenF n) k)) a from if_pos hb]
      have h3 := h2.rplus h
      rw [show y = y / 2 + y / 2 + 1 by omega]
      exact h3
    · rw [show rtm2 a n (lenF n) (k + 1) = jdbl F2 (rtm2 a n (lenF n) k) from if_neg hb]
      have hb0 := bitOf_01 (wv n) (lenF n - 1 - k)
      rw [show y = y / 2 + y / 2 by omega]
      exact h2
/-- the point that comes in -/
noncomputable def af2 (p : G2N) : Pt Q2 := bif p.2.2 then none else some (m2 p.1, m2 p.2.1)
theorem ck2_af {p : G2N} (h : (ckN2 p).1 = 0) : jto F2 iv2 (ckN2 p).2 = af2 p ∧ On F2 b2E (af2 p) := by
  obtain ⟨x, y, b⟩ := p
  have e := ck2_eq x y b
  show jto F2 iv2 (ck2 x y b).2 = _ ∧ _
  have h' : (ck2 x y b).1 = 0 := h
  cases b with
  | true =>
    rw [if_pos rfl] at e
    refine ⟨?_, trivial⟩
    have : (ck2 x y true).2.2.2 = F2.zero := by
      rw [e]
      split <;> rfl
    exact jto_zero this
  | false =>
    rw [if_neg (by simp)] at e
    by_cases hb : ¬ (bl2 x ∧ bl2 y)
    · rw [if_pos hb] at e
      rw [e] at h'; cases h'
    · rw [if_neg hb] at e
      by_cases hy : F2.mul (m2 y) (m2 y) = F2.add (F2.mul (F2.mul (m2 x) (m2 x)) (m2 x)) b2E
      · rw [if_pos hy] at e
        rw [e]
        refine ⟨ec2.jto_one _ _, ?_⟩
        show F2.mul (m2 y) (m2 y) = F2.add (F2.mul (m2 x) (F2.mul (m2 x) (m2 x))) b2E
        rw [hy, F2.mul_comm (m2 x) (F2.mul (m2 x) (m2 x))]
      · rw [if_neg hy] at e
        rw [e] at h'; cases h'
theorem wd2_af (p : G2N) : jto F2 iv2 (wd2 p) = af2 p := by
  obtain ⟨x, y, b⟩ := p
  cases b with
  | true => exact jto_zero rfl
  | false => exact ec2.jto_one _ _
noncomputable def cp2 (p : G2N) : C2 := if h : (ckN2 p).1 = 0 then ⟨af2 p, (ck2_af h).2⟩ else ec2.grp.zero
theorem cp2_eq {p : G2N} (h : (ckN2 p).1 = 0) : (cp2 p).1 = af2 p := by unfold cp2; rw [dif_pos h]
theorem cp2_rep {p : G2N} (h : (ckN2 p).1 = 0) : Rp ec2 (ckN2 p).2 (cp2 p) := (ck2_af h).1.trans (cp2_eq h).symm
theorem cp2_wd {p : G2N} (h : (ckN2 p).1 = 0) : Rp ec2 (wd2 p) (cp2 p) := (wd2_af p).trans (cp2_eq h).symm
/-- sums: both answer alike -/
theorem resS2_2 (p q : G2N) : resS2 (p2 p q) 2 = if (ckN2 p).1 ≠ 0 then ((some (F2.zero, F2.zero)), (ckN2 p).1) else if (ckN2 q).1 ≠ 0 then ((some (F2.zero, F2.zero)), (ckN2 q).1) else ((ec2.grp.add (cp2 p) (cp2 q)).1, 0) := by
  have e1 : err2 (p2 p q) 1 = (ckN2 p).1 := if_neg (fun h => h rfl)
  have e2 : err2 (p2 p q) 2 = if err2 (p2 p q) 1 ≠ 0 then err2 (p2 p q) 1 else (ckN2 q).1 := rfl
  rw [e1] at e2
  unfold resS2
  rw [e2]
  by_cases h1 : (ckN2 p).1 = 0
  · by_cases h2 : (ckN2 q).1 = 0
    · simp only [h1, h2, ne_eq, not_true_eq_false, not_false_eq_true, if_true, if_false]
      have hr := tot2_rep (pt := pj2 (p2 p q)) (g := p2 (cp2 p) (cp2 q)) (N := 2) (fun j hj => by
        match j, hj with
        | 0, _ => exact cp2_rep h1
        | 1, _ => exact cp2_rep h2)
      have hr' : jto F2 iv2 (tot2 (pj2 (p2 p q)) 2) = (ec2.grp.add (ec2.grp.add ec2.grp.zero (cp2 p)) (cp2 q)).1 := hr
      rw [ec2.grp.zadd] at hr'
      rw [hr']
    · simp only [h1, h2, ne_eq, not_true_eq_false, not_false_eq_true, if_true, if_false]
  · simp only [h1, ne_eq, not_true_eq_false, not_false_eq_true, if_true, if_false]
theorem rresA2_2 (p q : G2N) : rresA2 p q = if (ckN2 p).1 ≠ 0 then ((some (F2.zero, F2.zero)), (ckN2 p).1) else if (ckN2 q).1 ≠ 0 then ((some (F2.zero, F2.zero)), (ckN2 q).1) else ((ec2.grp.add (cp2 p) (cp2 q)).1, 0) := by
  show (if (ckN2 p).1 ≠ 0 then ((some (F2.zero, F2.zero)), (ckN2 p).1) else if (ckN2 q).1 ≠ 0 then ((some (F2.zero, F2.zero)), (ckN2 q).1) else (jto F2 iv2 (rplus F2 (wd2 p) (wd2 q)), 0)) = _
  by_cases h1 : (ckN2 p).1 = 0
  · by_cases h2 : (ckN2 q).1 = 0
    · simp only [h1, h2, ne_eq, not_true_eq_false, not_false_eq_true, if_true, if_false]
      rw [show jto F2 iv2 (rplus F2 (wd2 p) (wd2 q)) = _ from (cp2_wd h1).rplus (cp2_wd h2)]
    · simp only [h1, h2, ne_eq, not_true_eq_false, not_false_eq_true, if_true, if_false]
  · simp only [h1, ne_eq, not_true_eq_false, not_false_eq_true, if_true, if_false]
theorem add2_same (p q : G2N) : resS2 (p2 p q) 2 = rresA2 p q := (resS2_2 p q).trans (rresA2_2 p q).symm
theorem resM2_1 (p : G2N) (n : Nat) : resM2 (fun _ => p) (fun _ => n) 1 = if (ckN2 p).1 ≠ 0 then ((some (F2.zero, F2.zero)), (ckN2 p).1) else ((ec2.grp.ns (wv n) (cp2 p)).1, 0) := by
  have e1 : err2 (fun _ => p) 1 = (ckN2 p).1 := if_neg (fun h => h rfl)
  unfold resM2
  rw [e1]
  by_cases h1 : (ckN2 p).1 = 0
  · simp only [h1, ne_eq, not_true_eq_false, not_false_eq_true, if_true, if_false]
    have hr := sumM2_rep (pt := pj2 (fun _ => p)) (g := fun _ => cp2 p) (N := 1) (fun j hj => cp2_rep h1) (fun _ => n)
    have hr' : jto F2 iv2 (sumM2 (pj2 (fun _ => p)) (fun _ => n) 1) = (ec2.grp.add ec2.grp.zero (ec2.grp.ns (wv n) (cp2 p))).1 := hr
    rw [ec2.grp.zadd] at hr'
    rw [hr']
  · simp only [h1, ne_eq, not_true_eq_false, not_false_eq_true, if_true, if_false]
theorem rresM2_1 (p : G2N) (n : Nat) : rresM2 p n = if (ckN2 p).1 ≠ 0 then ((some (F2.zero, F2.zero)), (ckN2 p).1) else ((ec2.grp.ns (wv n) (cp2 p)).1, 0) := by
  show (if (ckN2 p).1 ≠ 0 then ((some (F2.zero, F2.zero)), (ckN2 p).1) else (jto F2 iv2 (rtm2 (wd2 p) n (lenF n) (lenF n)), 0)) = _
  by_cases h1 : (ckN2 p).1 = 0
  · simp only [h1, ne_eq, not_true_eq_false, not_false_eq_true, if_true, if_false]
    have hr : jto F2 iv2 (rtm2 (wd2 p) n (lenF n) (lenF n)) = _ := rtm2_rep (cp2_wd h1) n (lenF n) (Nat.le_refl _)
    rw [hr, Nat.sub_self, Nat.pow_zero, Nat.div_one]
  · simp only [h1, ne_eq, not_true_eq_false, not_false_eq_true, if_true, if_false]
theorem mul2_same (p : G2N) (n : Nat) : resM2 (fun _ => p) (fun _ => n) 1 = rresM2 p n := (resM2_1 p n).trans (rresM2_1 p n).symm
theorem resN2_1 (p : G2N) : resN2 p = if (ckN2 p).1 ≠ 0 then ((some (F2.zero, F2.zero)), (ckN2 p).1) else ((ec2.grp.neg (cp2 p)).1, 0) := by
  show (if (ckN2 p).1 ≠ 0 then ((some (F2.zero, F2.zero)), (ckN2 p).1) else (jto F2 iv2 (jneg F2 (ckN2 p).2), 0)) = _
  by_cases h1 : (ckN2 p).1 = 0
  · simp only [h1, ne_eq, not_true_eq_false, not_false_eq_true, if_true, if_false]
    rw [show jto F2 iv2 (jneg F2 (ckN2 p).2) = _ from (cp2_rep h1).neg]
  · simp only [h1, ne_eq, not_true_eq_false, not_false_eq_true, if_true, if_false]
theorem rresN2_1 (p : G2N) : rresN2 p = if (ckN2 p).1 ≠ 0 then ((some (F2.zero, F2.zero)), (ckN2 p).1) else ((ec2.grp.neg (cp2 p)).1, 0) := by
  show (if (ckN2 p).1 ≠ 0 then ((some (F2.zero, F2.zero)), (ckN2 p).1) else (bif p.2.2 then none else some (m2 p.1, (F2.sub F2.zero (m2 p.2.1))), 0)) = _
  by_cases h1 : (ckN2 p).1 = 0
  · simp only [h1, ne_eq, not_true_eq_false, not_false_eq_true, if_true, if_false]
    rw [show (ec2.grp.neg (cp2 p)).1 = ptN F2 (cp2 p).1 from rfl, cp2_eq h1]
    unfold af2
    cases p.2.2
    · refine Prod.ext (congrArg some (Prod.ext rfl ?_)) rfl
      exact F2.zero_add _
    · rfl
  · simp only [h1, ne_eq, not_true_eq_false, not_false_eq_true, if_true, if_false]
theorem neg2_same (p : G2N) : resN2 p = rresN2 p := (resN2_1 p).trans (rresN2_1 p).symm

end Go.Proofs.YthlcjdcjnioeoaaGreat.Ex
namespace Go.Proofs.YthlcjdcjnioeoaaGreat.Ex
set_option linter.unusedVariables false
set_option linter.unusedSimpArgs false
open Go.RowKit
def thirdE : Q2 := (⟨21575463638280843010398324269430826099269044274347216827212613867836435027261, by decide⟩, ⟨10307601595873709700152284273816112264069230130616436755625194854815875713954, by decide⟩)
def halfE : Q2 := (⟨2821565182194536844548159561693502659359617185244120367078079554186484126554, by decide⟩, ⟨3505843767911556378687030309984248845540243509899259641013678093033130930403, by decide⟩)
def g2X : Q2 := (⟨10857046999023057135944570762232829481370756359578518086990519993285655852781, by decide⟩, ⟨11559732032986387107991004021392285783925812861821192530917403151452391805634, by decide⟩)
def g2Y : Q2 := (⟨8495653923123431417604973247489272438418190587263600148770280649306958101930, by decide⟩, ⟨4082367875863433681332203403145435568316851327593401208105741076214120093531, by decide⟩)
def lessN : Nat := 147946756881789318990833708069417712966
def gFMod : Ent
  | [.v (.im (.int .i64 (.ofNat 1)))] => some ([], .one (.fl (q1 FP.M)))
  | [.v (.im (.int .i64 (.ofNat 2)))] => some ([], .one (.fl (q1 Go.Proofs.YthlcjdcjnioeoaaGreat.FR.M)))
  | _ => none
theorem fmod_ok : ∀ cs pre r, gFMod cs = some (pre, r) → allP pre → ∀ (args : List Value) (w : World), CAs w cs args → Good Tryz.prog 41 r args w := by
  intro cs pre r hg hp args w ha
  unfold gFMod at hg
  split at hg
  · cases hg
    match args, ha with
    | [v], ha =>
      have h1 : v = .int .i64 1 := ha.1
      subst h1
      exact (fmodulus_some 1 FP (Or.inl ⟨rfl, rfl⟩) w).mono fun e w' h => h
    | [], ha => exact ha.elim
    | _ :: _ :: _, ha => exact ha.2.elim
  · cases hg
    match args, ha with
    | [v], ha =>
      have h1 : v = .int .i64 2 := ha.1
      subst h1
      exact (fmodulus_some 2 Go.Proofs.YthlcjdcjnioeoaaGreat.FR (Or.inr ⟨rfl, rfl⟩) w).mono fun e w' h => h
    | [], ha => exact ha.elim
    | _ :: _ :: _, ha => exact ha.2.elim
  · cases hg
/-- p less r -/
def gLess : Ent
  | [.v (.fl l), .v (.fl m)] => some ([flat l = flat (q1 FP.M), flat m = flat (q1 Go.Proofs.YthlcjdcjnioeoaaGreat.FR.M)], .many [.fl (q1 lessN), .im (.int .u64 0)])
  | _ => none
theorem less_ok : ∀ cs pre r, gLess cs = some (pre, r) → allP pre → ∀ (args : List Value) (w : World), CAs w cs args → Good Tryz.prog 86 r args w := by
  intro cs pre r hg hp args w ha
  unfold gLess at hg
  split at hg
  · rename_i l m
    cases hg
    obtain ⟨e1, e2, _⟩ := hp
    match args, ha with
    | [v, u], ha =>
      have h1 : v = .agg (flat l).toArray := ha.1
      have h2 : u = .agg (flat m).toArray := ha.2.1
      rw [e1] at h1
      rw [e2] at h2
      subst h1; subst h2
      refine (sub_calls _ _ _ _ _ _ _ _ (fw_ok FP.M) (fw_ok Go.Proofs.YthlcjdcjnioeoaaGreat.FR.M) w).mono ?_
      rintro e w' ⟨s0, s1, s2, s3, c, rfl, hs, hc, hv, hb⟩
      have v1 : val4 (fw FP.M 0) (fw FP.M 1) (fw FP.M 2) (fw FP.M 3) = 21888242871839275222246405745257275088696311157297823662689037894645226208583 := by kernel_rfl
      have v2 : val4 (fw Go.Proofs.YthlcjdcjnioeoaaGreat.FR.M 0) (fw Go.Proofs.YthlcjdcjnioeoaaGreat.FR.M 1) (fw Go.Proofs.YthlcjdcjnioeoaaGreat.FR.M 2) (fw Go.Proofs.YthlcjdcjnioeoaaGreat.FR.M 3) = 21888242871839275222246405745257275088548364400416034343698204186575808495617 := by kernel_rfl
      rw [v1, v2] at hv
      obtain ⟨h0, h1, h2, h3⟩ := hs
      have hlt : val4 s0 s1 s2 s3 < 115792089237316195423570985008687907853269984665640564039457584007913129639936 := by unfold val4; omega
      have hc0 : c = 0 := by omega
      subst hc0
      have hv2 : val4 s0 s1 s2 s3 = lessN := by unfold lessN; omega
      obtain ⟨rfl, rfl, rfl, rfl⟩ := fw_of ⟨h0, h1, h2, h3⟩ (by unfold lessN; omega) hv2
      exact ⟨rfl, hb⟩
    | [], ha => exact ha.elim
    | [_], ha => exact ha.2.elim
    | _ :: _ :: _ :: _, ha => exact ha.2.2.elim
  · cases hg

noncomputable def T_fMod : Tab := (T_rrNeg2).add 41 gFMod
theorem ok_fMod : TabOk Tryz.prog T_fMod := (ok_rrNeg2).add Tryz.func41 (by kernel_rfl) (by kernel_rfl) fmod_ok
noncomputable def T_less : Tab := (T_fMod).add 86 gLess
theorem ok_less : TabOk Tryz.prog T_less := (ok_fMod).add Tryz.func86 (by kernel_rfl) (by kernel_rfl) less_ok
set_option maxRecDepth 100000 in
theorem run_Gen1  : funB Tryz.prog (qG Tryz.prog) (fun _ => ⟨fun s => T_less, fun s => true, fun _ => none⟩) Tryz.f38 60 [] = some ([], .one (.fl (gf1 (some (fm 1, fm 2))))) := by kernel_rfl
noncomputable def T_Gen1 : Tab := (T_less).add 38 (g0 (.one (.fl (gf1 (some (fm 1, fm 2))))))
theorem ok_Gen1 : TabOk Tryz.prog T_Gen1 := (ok_less).add Tryz.func38 (by kernel_rfl) (by kernel_rfl) (g0_ok fun w => funB_sound hmix (fun _ s => ok_less) (qG_ok Tryz.prog) Tryz.func38 run_Gen1 trivial (args := []) trivial)
set_option maxRecDepth 100000 in
theorem run_rGen1  : funB Tryz.prog (qG Tryz.prog) (fun _ => ⟨fun s => T_Gen1, fun s => true, fun _ => none⟩) Tryz.f65 60 [] = some ([], .one (.fl (gf1 (some (fm 1, fm 2))))) := by kernel_rfl
noncomputable def T_rGen1 : Tab := (T_Gen1).add 65 (g0 (.one (.fl (gf1 (some (fm 1, fm 2))))))
theorem ok_rGen1 : TabOk Tryz.prog T_rGen1 := (ok_Gen1).add Tryz.func65 (by kernel_rfl) (by kernel_rfl) (g0_ok fun w => funB_sound hmix (fun _ s => ok_Gen1) (qG_ok Tryz.prog) Tryz.func65 run_rGen1 trivial (args := []) trivial)
set_option maxRecDepth 100000 in
theorem run_Gen2  : funB Tryz.prog (qG Tryz.prog) (fun _ => ⟨fun s => T_rGen1, fun s => true, fun _ => none⟩) Tryz.f40 60 [] = some ([], .one (.fl (gf2 (some (g2X, g2Y))))) := by kernel_rfl
noncomputable def T_Gen2 : Tab := (T_rGen1).add 40 (g0 (.one (.fl (gf2 (some (g2X, g2Y))))))
theorem ok_Gen2 : TabOk Tryz.prog T_Gen2 := (ok_rGen1).add Tryz.func40 (by kernel_rfl) (by kernel_rfl) (g0_ok fun w => funB_sound hmix (fun _ s => ok_rGen1) (qG_ok Tryz.prog) Tryz.func40 run_Gen2 trivial (args := []) trivial)
set_option maxRecDepth 100000 in
theorem run_rGen2  : funB Tryz.prog (qG Tryz.prog) (fun _ => ⟨fun s => T_Gen2, fun s => true, fun _ => none⟩) Tryz.f66 60 [] = some ([], .one (.fl (gf2 (some (g2X, g2Y))))) := by kernel_rfl
noncomputable def T_rGen2 : Tab := (T_Gen2).add 66 (g0 (.one (.fl (gf2 (some (g2X, g2Y))))))
theorem ok_rGen2 : TabOk Tryz.prog T_rGen2 := (ok_Gen2).add Tryz.func66 (by kernel_rfl) (by kernel_rfl) (g0_ok fun w => funB_sound hmix (fun _ s => ok_Gen2) (qG_ok Tryz.prog) Tryz.func66 run_rGen2 trivial (args := []) trivial)
set_option maxRecDepth 100000 in
theorem run_Order  : funB Tryz.prog (qG Tryz.prog) (fun _ => ⟨fun s => T_rGen2, fun s => true, fun _ => none⟩) Tryz.f39 60 [] = some ([], .one (.fl (q1 Go.Proofs.YthlcjdcjnioeoaaGreat.FR.M))) := by kernel_rfl
noncomputable def T_Order : Tab := (T_rGen2).add 39 (g0 (.one (.fl (q1 Go.Proofs.YthlcjdcjnioeoaaGreat.FR.M))))
theorem ok_Order : TabOk Tryz.prog T_Order := (ok_rGen2).add Tryz.func39 (by kernel_rfl) (by kernel_rfl) (g0_ok fun w => funB_sound hmix (fun _ s => ok_rGen2) (qG_ok Tryz.prog) Tryz.func39 run_Order trivial (args := []) trivial)
set_option maxRecDepth 100000 in
theorem run_rOrder  : funB Tryz.prog (qG Tryz.prog) (fun _ => ⟨fun s => T_Order, fun s => true, fun _ => none⟩) Tryz.f67 60 [] = some ([], .one (.fl (q1 Go.Proofs.YthlcjdcjnioeoaaGreat.FR.M))) := by kernel_rfl
noncomputable def T_rOrder : Tab := (T_Order).add 67 (g0 (.one (.fl (q1 Go.Proofs.YthlcjdcjnioeoaaGreat.FR.M))))
theorem ok_rOrder : TabOk Tryz.prog T_rOrder := (ok_Order).add Tryz.func67 (by kernel_rfl) (by kernel_rfl) (g0_ok fun w => funB_sound hmix (fun _ s => ok_Order) (qG_ok Tryz.prog) Tryz.func67 run_rOrder trivial (args := []) trivial)
set_option maxRecDepth 100000 in
theorem run_turns  : funB Tryz.prog (qG Tryz.prog) (fun _ => ⟨fun s => T_rOrder, fun s => true, fun _ => none⟩) Tryz.f77 60 [] = some ([], .many [.fl (e2 thirdE), .fl (e2 halfE)]) := by kernel_rfl
noncomputable def T_turns : Tab := (T_rOrder).add 77 (g0 (.many [.fl (e2 thirdE), .fl (e2 halfE)]))
theorem ok_turns : TabOk Tryz.prog T_turns := (ok_rOrder).add Tryz.func77 (by kernel_rfl) (by kernel_rfl) (g0_ok fun w => funB_sound hmix (fun _ s => ok_rOrder) (qG_ok Tryz.prog) Tryz.func77 run_turns trivial (args := []) trivial)
set_option maxRecDepth 100000 in
theorem mul2v (x y : N2) : T_turns 78 [.v (.fl (q2 x)), .v (.fl (q2 y))] = some ([], .one (.fl (e2 (F2.mul (m2 x) (m2 y))))) := by kernel_rfl
noncomputable def T_Mul2v : Tab := (T_turns).add 78 (g2 rv2 rv2 (fun x y => ([], .one (.fl (e2 (F2.mul x y))))))
theorem ok_Mul2v : TabOk Tryz.prog T_Mul2v := (ok_turns).add Tryz.func78 (by kernel_rfl) (by kernel_rfl) (g2v_ok rv2_ok rv2_ok fun x y hp args w ha => (ok_turns _ _ _ _ (mul2v x y) trivial).2 args w ha)
set_option maxRecDepth 100000 in
theorem run_psi_atrue (x y : N2) : funB Tryz.prog (qG Tryz.prog) (fun _ => ⟨fun s => T_Mul2v, fun s => true, fun s => bif Nat.beq s 10 then some (.bool true) else none⟩) Tryz.f26 60 [.v (.fl (gq2 (x, y, true)))] = some ([intOp .neq .i64 (ck2 x y true).1 0 = some (.bool true)], .many [.fl (gf2 (some (F2.zero, F2.zero))), .im (.int .i64 (ck2 x y true).1)]) := by kernel_rfl
set_option maxRecDepth 100000 in
theorem run_psi_btrue (x y : N2) : funB Tryz.prog (qG Tryz.prog) (fun _ => ⟨fun s => T_Mul2v, fun s => true, fun s => bif Nat.beq s 10 then some (.bool false) else none⟩) Tryz.f26 60 [.v (.fl (gq2 (x, y, true)))] = some ([intOp .neq .i64 (ck2 x y true).1 0 = some (.bool false)], .many [.fl (e2 (F2.mul (conj2' (m2 x)) thirdE) ++ (e2 (F2.mul (conj2' (m2 y)) halfE) ++ [.c (.bool true)])), .im (.int .i64 0)]) := by kernel_rfl
set_option maxRecDepth 100000 in
theorem run_psi_afalse (x y : N2) : funB Tryz.prog (qG Tryz.prog) (fun _ => ⟨fun s => T_Mul2v, fun s => true, fun s => bif Nat.beq s 10 then some (.bool true) else none⟩) Tryz.f26 60 [.v (.fl (gq2 (x, y, false)))] = some ([intOp .neq .i64 (ck2 x y false).1 0 = some (.bool true)], .many [.fl (gf2 (some (F2.zero, F2.zero))), .im (.int .i64 (ck2 x y false).1)]) := by kernel_rfl
set_option maxRecDepth 100000 in
theorem run_psi_bfalse (x y : N2) : funB Tryz.prog (qG Tryz.prog) (fun _ => ⟨fun s => T_Mul2v, fun s => true, fun s => bif Nat.beq s 10 then some (.bool false) else none⟩) Tryz.f26 60 [.v (.fl (gq2 (x, y, false)))] = some ([intOp .neq .i64 (ck2 x y false).1 0 = some (.bool false)], .many [.fl (e2 (F2.mul (conj2' (m2 x)) thirdE) ++ (e2 (F2.mul (conj2' (m2 y)) halfE) ++ [.c (.bool false)])), .im (.int .i64 0)]) := by kernel_rfl
def psP : Pt Q2 → Pt Q2
  | none => none
  | some p => some (F2.mul (conj2' p.1) thirdE, F2.mul (conj2' p.2) halfE)
noncomputable def resPsi (p : G2N) : Pt Q2 × Int := if (ckN2 p).1 ≠ 0 then (some (F2.zero, F2.zero), (ckN2 p).1) else (psP (af2 p), 0)
theorem m2_zr {x : N2} (h : zr2 x) : m2 x = F2.zero := by
  refine Prod.ext (Fin.ext ?_) (Fin.ext ?_)
  · show wv x.1 % FP.M = 0
    rw [h.1]; rfl
  · show wv x.2 % FP.M = 0
    rw [h.2]; rfl
theorem cj_zero : conj2' F2.zero = F2.zero := by decide
theorem ck2_zr {x y : N2} (h : (ck2 x y true).1 = 0) : zr2 x ∧ zr2 y := by
  rw [ck2_eq, if_pos rfl] at h
  by_cases hz : zr2 x ∧ zr2 y
  · exact hz
  · rw [if_neg hz] at h; cases h
theorem psi_ok (p : G2N) (args : List Value) (w : World) (ha : CAs w [.v (.fl (gq2 p))] args) : Good Tryz.prog 26 (.many [.fl (gf2 (resPsi p).1), .im (.int .i64 (resPsi p).2)]) args w := by
  obtain ⟨x, y, b⟩ := p
  by_cases h : (ck2 x y b).1 = 0
  · rw [show resPsi (x, y, b) = (psP (af2 (x, y, b)), 0) from if_neg (fun q => q h)]
    cases b with
    | false => exact funB_sound hmix (fun _ s => ok_Mul2v) (qG_ok Tryz.prog) Tryz.func26 (run_psi_bfalse x y) ⟨neq_f h, trivial⟩ ha
    | true =>
      refine Good.congr (funB_sound hmix (fun _ s => ok_Mul2v) (qG_ok Tryz.prog) Tryz.func26 (run_psi_btrue x y) ⟨neq_f h, trivial⟩ ha) ?_
      obtain ⟨hx, hy⟩ := ck2_zr h
      rw [m2_zr hx, m2_zr hy, cj_zero, F2.zero_mul, F2.zero_mul]
      rfl
  · rw [show resPsi (x, y, b) = (some (F2.zero, F2.zero), (ck2 x y b).1) from if_pos h]
    cases b with
    | true => exact funB_sound hmix (fun _ s => ok_Mul2v) (qG_ok Tryz.prog) Tryz.func26 (run_psi_atrue x y) ⟨neq_t h, trivial⟩ ha
    | false => exact funB_sound hmix (fun _ s => ok_Mul2v) (qG_ok Tryz.prog) Tryz.func26 (run_psi_afalse x y) ⟨neq_t h, trivial⟩ ha
noncomputable def T_Psi2 : Tab := (T_Mul2v).add 26 (g1 rg2 fun p => ([], .many [.fl (gf2 (resPsi p).1), .im (.int .i64 (resPsi p).2)]))
theorem ok_Psi2 : TabOk Tryz.prog T_Psi2 := (ok_Mul2v).add Tryz.func26 (by kernel_rfl) (by kernel_rfl) (g1_ok rg2_ok fun p hp args w ha => psi_ok p args w ha)
set_option maxRecDepth 100000 in
theorem run_in2_a (p : G2N) : funB Tryz.prog (qG Tryz.prog) (fun _ => ⟨fun s => T_Psi2, fun s => true, fun s => bif Nat.beq s 15 then some (.bool true) else none⟩) Tryz.f30 60 [.v (.fl (gq2 p))] = some ([intOp .neq .i64 (resPsi p).2 0 = some (.bool true)], .one (.im (.bool false))) := by kernel_rfl
set_option maxRecDepth 100000 in
theorem run_in2_b (p : G2N) : funB Tryz.prog (qG Tryz.prog) (fun _ => ⟨fun s => T_Psi2, fun s => true, fun s => bif Nat.beq s 15 then some (.bool false) else none⟩) Tryz.f30 60 [.v (.fl (gq2 p))] = some ([intOp .neq .i64 (resPsi p).2 0 = some (.bool false), flat (q1 FP.M) = flat (q1 FP.M), flat (q1 Go.Proofs.YthlcjdcjnioeoaaGreat.FR.M) = flat (q1 Go.Proofs.YthlcjdcjnioeoaaGreat.FR.M), flat (gf2 (resM2 (fun _ => p) (fun _ => lessN) 1).1) = flat (gf2 (resPsi p).1)], .one (.im (.bool true))) := by kernel_rfl
set_option maxRecDepth 100000 in
theorem run_in2_c (p : G2N) : funB Tryz.prog (qG Tryz.prog) (fun _ => ⟨fun s => T_Psi2, fun s => false, fun s => bif Nat.beq s 15 then some (.bool false) else none⟩) Tryz.f30 60 [.v (.fl (gq2 p))] = some ([intOp .neq .i64 (resPsi p).2 0 = some (.bool false), flat (q1 FP.M) = flat (q1 FP.M), flat (q1 Go.Proofs.YthlcjdcjnioeoaaGreat.FR.M) = flat (q1 Go.Proofs.YthlcjdcjnioeoaaGreat.FR.M), flat (gf2 (resM2 (fun _ => p) (fun _ => lessN) 1).1) ≠ flat (gf2 (resPsi p).1)], .one (.im (.bool false))) := by kernel_rfl
theorem gf2_inj {P Q : Pt Q2} (h : flat (gf2 P) = flat (gf2 Q)) : P = Q := by
  have h' : w4 (ptX F2 P).1.1 ++ (w4 (ptX F2 P).2.1 ++ (w4 (ptY F2 P).1.1 ++ (w4 (ptY F2 P).2.1 ++ [Value.bool (ptI P)]))) = w4 (ptX F2 Q).1.1 ++ (w4 (ptX F2 Q).2.1 ++ (w4 (ptY F2 Q).1.1 ++ (w4 (ptY F2 Q).2.1 ++ [Value.bool (ptI Q)]))) := h
  obtain ⟨h1, h'⟩ := List.append_inj h' rfl
  obtain ⟨h2, h'⟩ := List.append_inj h' rfl
  obtain ⟨h3, h'⟩ := List.append_inj h' rfl
  obtain ⟨h4, h'⟩ := List.append_inj h' rfl
  have h5 : ptI P = ptI Q := by injection h' with h' _; injection h'
  have e : ∀ {a b : Fq}, w4 a.1 = w4 b.1 → a = b := fun {a b} hw => by
    have := w4_inj' hw
    refine Fin.ext ?_
    have ha : wv a.1 = a.1 := fw_valp a.2
    have hb : wv b.1 = b.1 := fw_valp b.2
    rw [← ha, ← hb, this]
  cases P with
  | none =>
    cases Q with
    | none => rfl
    | some q => cases h5
  | some p =>
    cases Q with
    | none => cases h5
    | some q => exact congrArg some (Prod.ext (Prod.ext (e h1) (e h2)) (Prod.ext (e h3) (e h4)))
open Classical in
noncomputable def in2P (p : G2N) : Bool := decide ((resPsi p).2 = 0 ∧ (resM2 (fun _ => p) (fun _ => lessN) 1).1 = (resPsi p).1)
theorem in2_ok (p : G2N) (args : List Value) (w : World) (ha : CAs w [.v (.fl (gq2 p))] args) : Good Tryz.prog 30 (.one (.im (.bool (in2P p)))) args w := by
  unfold in2P
  by_cases h1 : (resPsi p).2 = 0
  · by_cases h2 : (resM2 (fun _ => p) (fun _ => lessN) 1).1 = (resPsi p).1
    · rw [decide_eq_true (And.intro h1 h2)]
      exact funB_sound hmix (fun _ s => ok_Psi2) (qG_ok Tryz.prog) Tryz.func30 (run_in2_b p) ⟨neq_f h1, rfl, rfl, by rw [h2], trivial⟩ ha
    · rw [decide_eq_false (fun h => h2 h.2)]
      exact funB_sound hmix (fun _ s => ok_Psi2) (qG_ok Tryz.prog) Tryz.func30 (run_in2_c p) ⟨neq_f h1, rfl, rfl, fun h => h2 (gf2_inj h), trivial⟩ ha
  · rw [decide_eq_false (fun h => h1 h.1)]
    exact funB_sound hmix (fun _ s => ok_Psi2) (qG_ok Tryz.prog) Tryz.func30 (run_in2_a p) ⟨neq_t h1, trivial⟩ ha
noncomputable def T_In2 : Tab := (T_Psi2).add 30 (g1 rg2 fun p => ([], .one (.im (.bool (in2P p)))))
theorem ok_In2 : TabOk Tryz.prog T_In2 := (ok_Psi2).add Tryz.func30 (by kernel_rfl) (by kernel_rfl) (g1_ok rg2_ok fun p hp args w ha => in2_ok p args w ha)
end Go.Proofs.YthlcjdcjnioeoaaGreat.Ex
namespace Go.Proofs.YthlcjdcjnioeoaaGreat.Ex
set_option linter.unusedVariables false
set_option linter.unusedSimpArgs false
open Go.RowKit
section
variable {R : Type} [DecidableEq R] (K : CR R)
/-- rplus, to be reckoned -/
def cplus (p q : Jc R) : Jc R :=
  if p.2.2 = K.zero then q else if q.2.2 = K.zero then p else if jac K p q = K.zero then (if jup K p q = K.zero then jdbl K p else (K.one, K.one, K.zero)) else jsum K p q
theorem cplus_eq (p q : Jc R) : cplus K p q = rplus K p q := by
  unfold cplus rplus
  by_cases h1 : p.2.2 = K.zero
  · rw [if_pos h1, if_pos h1]
  · rw [if_neg h1, if_neg h1]
    by_cases h2 : q.2.2 = K.zero
    · rw [if_pos h2, if_pos h2]
    · rw [if_neg h2, if_neg h2]
      by_cases h3 : jac K p q = K.zero
      · rw [if_pos h3]
        by_cases h4 : jup K p q = K.zero
        · rw [if_pos h4, if_pos ⟨h3, h4⟩]
        · rw [if_neg h4, if_neg (fun h => h4 h.2), if_pos h3]
      · rw [if_neg h3, if_neg (fun h => h3 h.1), if_neg h3]
/-- the n-th multiple, behind its highest k bits of L -/
def crm (a : Jc R) (n L : Nat) : Nat → Jc R
  | 0 => (K.one, K.one, K.zero)
  | k + 1 => if Nat.beq (n / 2 ^ (L - (k + 1)) % 2) 1 = true then cplus K (jdbl K (crm a n L k)) a else jdbl K (crm a n L k)
variable {K} {inv : R → R} {b : R}
theorem crm_rep {E : EC K inv b} {a : Jc R} {g : {p : Pt R // On K b p}} (h : Rp E a g) (n L : Nat) (hn : n < 2 ^ L) : ∀ k, k ≤ L → Rp E (crm K a n L k) (E.grp.ns (n / 2 ^ (L - k)) g)
  | 0, _ => by
    rw [Nat.sub_zero, Nat.div_eq_of_lt hn]
    exact Rp.zero rfl
  | k + 1, hk => by
    have ih := crm_rep h n L hn k (by omega)
    have e : n / 2 ^ (L - k) = n / 2 ^ (L - (k + 1)) / 2 := by
      rw [show L - k = (L - (k + 1)) + 1 by omega, Nat.pow_add, ← Nat.div_div_eq_div_mul]
    rw [e] at ih
    have h2 := ih.dbl
    rw [← E.grp.ns_add] at h2
    by_cases hb : n / 2 ^ (L - (k + 1)) % 2 = 1
    · rw [show crm K a n L (k + 1) = cplus K (jdbl K (crm K a n L k)) a from if_pos (by rw [hb]; rfl), cplus_eq]
      have h3 := h2.rplus h
      rw [show n / 2 ^ (L - (k + 1)) = n / 2 ^ (L - (k + 1)) / 2 + n / 2 ^ (L - (k + 1)) / 2 + 1 by omega]
      exact h3
    · rw [show crm K a n L (k + 1) = jdbl K (crm K a n L k) from if_neg (fun hq => hb (Nat.eq_of_beq_eq_true hq))]
      rw [show n / 2 ^ (L - (k + 1)) = n / 2 ^ (L - (k + 1)) / 2 + n / 2 ^ (L - (k + 1)) / 2 by omega]
      exact h2
theorem crm_all {E : EC K inv b} {a : Jc R} {g : {p : Pt R // On K b p}} (h : Rp E a g) (n L : Nat) (hn : n < 2 ^ L) : Rp E (crm K a n L L) (E.grp.ns n g) := by
  have := crm_rep h n L hn L (Nat.le_refl _)
  rwa [Nat.sub_self, Nat.pow_zero, Nat.div_one] at this
end
def ord : Nat := 21888242871839275222246405745257275088548364400416034343698204186575808495617
theorem r2_zero : (crm F2 (g2X, g2Y, F2.one) ord 254 254).2.2 = F2.zero := of_decide_eq_true (by kernel_rfl)
def psX : Q2 := F2.mul (conj2' g2X) thirdE
def psY : Q2 := F2.mul (conj2' g2Y) halfE
def lesJ : J2 := crm F2 (g2X, g2Y, F2.one) lessN 127 127
theorem les_z : lesJ.2.2 ≠ F2.zero := of_decide_eq_true (by kernel_rfl)
theorem les_x : lesJ.1 = F2.mul psX (F2.mul lesJ.2.2 lesJ.2.2) := of_decide_eq_true (by kernel_rfl)
theorem les_y : lesJ.2.1 = F2.mul psY (F2.mul (F2.mul lesJ.2.2 lesJ.2.2) lesJ.2.2) := of_decide_eq_true (by kernel_rfl)
theorem r1_zero : (crm F1 (fm 1, fm 2, F1.one) ord 254 254).2.2 = F1.zero := of_decide_eq_true (by kernel_rfl)
section
variable {R : Type} {K : CR R} {inv : R → R} {b : R}
theorem jto_proj (E : EC K inv b) {p : Jc R} {x y : R} (hz : p.2.2 ≠ K.zero) (hx : p.1 = K.mul x (K.mul p.2.2 p.2.2)) (hy : p.2.1 = K.mul y (K.mul (K.mul p.2.2 p.2.2) p.2.2)) : jto K inv p = some (x, y) := by
  have h1 := E.F.inv _ hz
  rw [jto_some hz, hx, hy]
  generalize inv p.2.2 = i at h1 ⊢
  generalize p.2.2 = z at h1 ⊢
  refine congrArg some (Prod.ext ?_ ?_)
  · show K.mul (K.mul x (K.mul z z)) (K.mul i i) = x
    have e : K.mul (K.mul x (K.mul z z)) (K.mul i i) = K.mul x (K.mul (K.mul z i) (K.mul z i)) := ring_id K (envL K [x, z, i]) (.mul (.mul (.v 0) (.mul (.v 1) (.v 1))) (.mul (.v 2) (.v 2))) (.mul (.v 0) (.mul (.mul (.v 1) (.v 2)) (.mul (.v 1) (.v 2)))) (by decide)
    rw [e, h1, K.one_mul, K.mul_one]
  · show K.mul (K.mul y (K.mul (K.mul z z) z)) (K.mul (K.mul i i) i) = y
    have e : K.mul (K.mul y (K.mul (K.mul z z) z)) (K.mul (K.mul i i) i) = K.mul y (K.mul (K.mul (K.mul z i) (K.mul z i)) (K.mul z i)) := ring_id K (envL K [y, z, i]) (.mul (.mul (.v 0) (.mul (.mul (.v 1) (.v 1)) (.v 1))) (.mul (.mul (.v 2) (.v 2)) (.v 2))) (.mul (.v 0) (.mul (.mul (.mul (.v 1) (.v 2)) (.mul (.v 1) (.v 2))) (.mul (.v 1) (.v 2)))) (by decide)
    rw [e, h1, K.one_mul, K.one_mul, K.mul_one]
end
/-- the generators, as they come -/
def g1n : G1N := ((fm 1).1, (fm 2).1, false)
def g2n : G2N := ((g2X.1.1, g2X.2.1), (g2Y.1.1, g2Y.2.1), false)
theorem m1_val (x : Fq) : m1 x.1 = x := Fin.ext (show wv x.1 % FP.M = x.1 by rw [show wv x.1 = x.1 from fw_valp x.2]; exact Nat.mod_eq_of_lt x.2)
theorem bl1_val (x : Fq) : bl1 x.1 := by show wv x.1 < FP.M; rw [show wv x.1 = x.1 from fw_valp x.2]; exact x.2
theorem m2_val (x : Q2) : m2 (x.1.1, x.2.1) = x := Prod.ext (m1_val x.1) (m1_val x.2)
theorem bl2_val (x : Q2) : bl2 (x.1.1, x.2.1) := ⟨bl1_val x.1, bl1_val x.2⟩
/-- a point that is told by a point of the curve is taken -/
theorem ck1_pt {x y : Fq} (h : On F1 (fm 3) (some (x, y))) : (ckN1 (x.1, y.1, false)).1 = 0 := by
  have e := ck1_eq x.1 y.1 false
  rw [if_neg (by simp), if_neg (fun q => q ⟨bl1_val x, bl1_val y⟩), m1_val, m1_val] at e
  have h' : F1.mul y y = F1.add (F1.mul (F1.mul x x) x) (fm 3) := by
    rw [F1.mul_comm (F1.mul x x) x]; exact h
  rw [if_pos h'] at e
  show (ck1 x.1 y.1 false).1 = 0
  rw [e]
theorem ck2_pt {x y : Q2} (h : On F2 b2E (some (x, y))) : (ckN2 ((x.1.1, x.2.1), (y.1.1, y.2.1), false)).1 = 0 := by
  have e := ck2_eq (x.1.1, x.2.1) (y.1.1, y.2.1) false
  rw [if_neg (by simp), if_neg (fun q => q ⟨bl2_val x, bl2_val y⟩), m2_val, m2_val] at e
  have h' : F2.mul y y = F2.add (F2.mul (F2.mul x x) x) b2E := by
    rw [F2.mul_comm (F2.mul x x) x]; exact h
  rw [if_pos h'] at e
  show (ck2 (x.1.1, x.2.1) (y.1.1, y.2.1) false).1 = 0
  rw [e]
theorem g1_on : On F1 (fm 3) (some (fm 1, fm 2)) := by
  show F1.mul (fm 2) (fm 2) = F1.add (F1.mul (fm 1) (F1.mul (fm 1) (fm 1))) (fm 3)
  exact of_decide_eq_true (by kernel_rfl)
theorem g2_on : On F2 b2E (some (g2X, g2Y)) := by
  show F2.mul g2Y g2Y = F2.add (F2.mul g2X (F2.mul g2X g2X)) b2E
  exact of_decide_eq_true (by kernel_rfl)
theorem g1_ck : (ckN1 g1n).1 = 0 := ck1_pt g1_on
theorem g2_ck : (ckN2 g2n).1 = 0 := ck2_pt g2_on
theorem af1_pt (x y : Fq) : af1 (x.1, y.1, false) = some (x, y) := congrArg some (Prod.ext (m1_val x) (m1_val y))
theorem af2_pt (x y : Q2) : af2 ((x.1.1, x.2.1), (y.1.1, y.2.1), false) = some (x, y) := congrArg some (Prod.ext (m2_val x) (m2_val y))
theorem g1_rep : Rp ec1 (fm 1, fm 2, F1.one) (cp1 g1n) := (ec1.jto_one _ _).trans ((cp1_eq g1_ck).trans (af1_pt (fm 1) (fm 2))).symm
theorem g2_rep : Rp ec2 (g2X, g2Y, F2.one) (cp2 g2n) := (ec2.jto_one _ _).trans ((cp2_eq g2_ck).trans (af2_pt g2X g2Y)).symm
theorem g1_ord : ec1.grp.ns ord (cp1 g1n) = ec1.grp.zero := Subtype.ext ((crm_all g1_rep ord 254 (by decide)).symm.trans (jto_zero r1_zero))
theorem g2_ord : ec2.grp.ns ord (cp2 g2n) = ec2.grp.zero := Subtype.ext ((crm_all g2_rep ord 254 (by decide)).symm.trans (jto_zero r2_zero))
theorem less_lt : lessN < 2 ^ 127 := of_decide_eq_true (by kernel_rfl)
theorem les_rep : Rp ec2 lesJ (ec2.grp.ns lessN (cp2 g2n)) := crm_all g2_rep lessN 127 less_lt
theorem g2_less : (ec2.grp.ns lessN (cp2 g2n)).1 = some (psX, psY) := by
  rw [← show jto F2 iv2 lesJ = (ec2.grp.ns lessN (cp2 g2n)).1 from les_rep]
  exact jto_proj ec2 les_z les_x les_y
theorem wv_ord : wv Go.Proofs.YthlcjdcjnioeoaaGreat.FR.M = ord := by kernel_rfl
theorem wv_less : wv lessN = lessN := by kernel_rfl
theorem g2_psi : resPsi g2n = (some (psX, psY), 0) := by
  unfold resPsi
  rw [if_neg (fun h => h g2_ck), show af2 g2n = some (g2X, g2Y) from af2_pt g2X g2Y]
  have e : psP (some (g2X, g2Y)) = some (psX, psY) := by kernel_rfl
  rw [e]
theorem g2_in : in2P g2n = true := by
  unfold in2P
  have e : resM2 (fun _ => g2n) (fun _ => lessN) 1 = (some (psX, psY), 0) := by
    rw [resM2_1, if_neg (fun h => h g2_ck), wv_less, g2_less]
  rw [g2_psi, e]
  exact decide_eq_true ⟨rfl, rfl⟩
theorem g1_mul : resM1 (fun _ => g1n) (fun _ => Go.Proofs.YthlcjdcjnioeoaaGreat.FR.M) 1 = (none, 0) := by
  rw [resM1_1, if_neg (fun h => h g1_ck), wv_ord, g1_ord]
  rfl
theorem ck_13 : (ck1 1 3 false).1 = 41 := by
  have e := ck1_eq 1 3 false
  rw [if_neg (by simp), if_neg (fun q => q ⟨by show wv 1 < FP.M; decide, by show wv 3 < FP.M; decide⟩), if_neg (of_decide_eq_true (by kernel_rfl))] at e
  rw [e]
end Go.Proofs.YthlcjdcjnioeoaaGreat.Ex
namespace Go.Proofs.YthlcjdcjnioeoaaGreat.Ex
set_option linter.unusedVariables false
set_option linter.unusedSimpArgs false
open Go.RowKit
def gLnum : Ent
  | [.v (.im (.int .i64 n))] => some ([], .one (.im (.int .i64 n)))
  | _ => none
set_option maxRecDepth 100000 in
theorem run_lnum (n : Int) : funB Tryz.prog (qG Tryz.prog) (fun _ => ⟨fun s => T_In2, fun s => true, fun _ => none⟩) Tryz.f16 60 [.v (.im (.int .i64 n))] = some ([], .one (.im (.int .i64 n))) := by kernel_rfl
theorem lnum_ok : ∀ cs pre r, gLnum cs = some (pre, r) → allP pre → ∀ (args : List Value) (w : World), CAs w cs args → Good Tryz.prog 16 r args w := by
  intro cs pre r hg hp args w ha
  unfold gLnum at hg
  split at hg
  · rename_i n
    cases hg
    exact funB_sound hmix (fun _ s => ok_In2) (qG_ok Tryz.prog) Tryz.func16 (run_lnum n) trivial ha
  · cases hg
/-- a point that is in the group -/
noncomputable def gIn2t : Ent := g1 rg2 fun p => ([in2P p = true], .one (.im (.bool true)))
theorem in2t_ok : ∀ cs pre r, gIn2t cs = some (pre, r) → allP pre → ∀ (args : List Value) (w : World), CAs w cs args → Good Tryz.prog 30 r args w :=
  g1_ok (op := fun p => ([in2P p = true], .one (.im (.bool true)))) rg2_ok fun p hp args w ha => by
    have h := in2_ok p args w ha
    rw [show in2P p = true from hp.1] at h
    exact h
noncomputable def T_lnum : Tab := (T_In2.add 16 gLnum).add 30 gIn2t
theorem ok_lnum : TabOk Tryz.prog T_lnum := (ok_In2.add Tryz.func16 (by kernel_rfl) (by kernel_rfl) lnum_ok).add Tryz.func30 (by kernel_rfl) (by kernel_rfl) in2t_ok
set_option maxRecDepth 100000 in
theorem run_works : funB Tryz.prog (qG Tryz.prog) (fun _ => ⟨fun s => T_lnum, fun s => true, assoc [(31, .bool true), (41, .bool true), (63, .bool true)]⟩) Tryz.f19 100 [] = some ([
  flat (gf1 (resS1 (p2 g1n g1n) 2).1) = flat (gf1 (rresA1 g1n g1n).1),
  intOp .eql .i64 (resS1 (p2 g1n g1n) 2).2 0 = some (.bool true),
  flat (gf1 (resM1 (fun _ => g1n) (fun _ => Go.Proofs.YthlcjdcjnioeoaaGreat.FR.M) 1).1) = flat (gf1 none),
  intOp .eql .i64 (resM1 (fun _ => g1n) (fun _ => Go.Proofs.YthlcjdcjnioeoaaGreat.FR.M) 1).2 0 = some (.bool true),
  flat (gf2 (some (g2X, g2Y))) = flat (gf2 (some (g2X, g2Y))),
  flat (q1 Go.Proofs.YthlcjdcjnioeoaaGreat.FR.M) = flat (q1 Go.Proofs.YthlcjdcjnioeoaaGreat.FR.M),
  in2P g2n = true,
  intOp .eql .i64 (ck1 1 3 false).1 41 = some (.bool true)], .one (.im (.bool true))) := by kernel_rfl
theorem works_pre : (resS1 (p2 g1n g1n) 2).2 = 0 := by
  rw [resS1_2, if_neg (fun h => h g1_ck), if_neg (fun h => h g1_ck)]
theorem works_ok (w : World) : Good Tryz.prog 19 (.one (.im (.bool true))) [] w :=
  funB_sound hmix (fun _ s => ok_lnum) (qG_ok Tryz.prog) Tryz.func19 run_works ⟨by rw [add1_same], by rw [works_pre]; rfl, by rw [g1_mul], by rw [g1_mul]; rfl, rfl, rfl, g2_in, by rw [ck_13]; rfl, trivial⟩ (args := []) trivial
noncomputable def T_works : Tab := T_lnum.add 19 (g0 (.one (.im (.bool true))))
theorem ok_works : TabOk Tryz.prog T_works := ok_lnum.add Tryz.func19 (by kernel_rfl) (by kernel_rfl) (g0_ok works_ok)
theorem eqi (c : Int) : intOp .eql .i64 c c = some (.bool true) := by
  show some (Value.bool (c == c)) = _
  rw [beq_self_eq_true]
end Go.Proofs.YthlcjdcjnioeoaaGreat.Ex
namespace Go.Proofs.YthlcjdcjnioeoaaGreat.Ex
set_option linter.unusedVariables false
set_option linter.unusedSimpArgs false
open Go.RowKit
set_option maxRecDepth 100000 in
theorem run_first (p q : G1N) (n : Nat) : funB Tryz.prog (qG Tryz.prog) (fun _ => ⟨fun s => T_works, fun s => true, assoc [(58, .bool true), (68, .bool true), (79, .bool true), (90, .bool true)]⟩) Tryz.f3 100 [.v (.fl (gq1 p)), .v (.fl (gq1 q)), .v (.fl [.q n])] = some ([
  intOp .eql .i64 (ck1 p.1 p.2.1 p.2.2).1 (ck1 p.1 p.2.1 p.2.2).1 = some (.bool true),
  flat (gf1 (resS1 (p2 p q) 2).1) = flat (gf1 (rresA1 p q).1),
  intOp .eql .i64 (resS1 (p2 p q) 2).2 (rresA1 p q).2 = some (.bool true),
  flat (gf1 (resM1 (fun _ => p) (fun _ => n) 1).1) = flat (gf1 (rresM1 p n).1),
  intOp .eql .i64 (resM1 (fun _ => p) (fun _ => n) 1).2 (rresM1 p n).2 = some (.bool true),
  flat (gf1 (resN1 p).1) = flat (gf1 (rresN1 p).1),
  intOp .eql .i64 (resN1 p).2 (rresN1 p).2 = some (.bool true)], .one (.im (.bool true))) := by kernel_rfl
theorem first_calls (p q : G1N) (n : Nat) (w : World) : Calls Tryz.prog 3 #[.agg (flat (gq1 p)).toArray, .agg (flat (gq1 q)).toArray, .agg (flat (q1 n)).toArray] w (fun e w' => e = .returned (.bool true) ∧ Below w.heap.size w w') :=
  funB_sound (r := .one (.im (.bool true))) hmix (fun _ s => ok_works) (qG_ok Tryz.prog) Tryz.func3 (run_first p q n) ⟨eqi _, by rw [add1_same], by rw [add1_same]; exact eqi _, by rw [mul1_same], by rw [mul1_same]; exact eqi _, by rw [neg1_same], by rw [neg1_same]; exact eqi _, trivial⟩ (args := [.agg (flat (gq1 p)).toArray, .agg (flat (gq1 q)).toArray, .agg (flat (q1 n)).toArray]) ⟨rfl, rfl, rfl, trivial⟩
end Go.Proofs.YthlcjdcjnioeoaaGreat.Ex
namespace Go.Proofs.YthlcjdcjnioeoaaGreat
set_option linter.unusedVariables false
open Go.ChangeShapes Go.WideShapes Go.ChangeAt Go.RowKit

theorem own : ownKnob Tryz.prog.godebug = none := by kernel_rfl
theorem laidOut : laidOutB Tryz.prog = true := by kernel_rfl

theorem u64_cells : Tryz.prog.cellsOf 22 = 1 := by kernel_rfl
theorem list4 {α : Type} (l : List α) (h : (⟨l⟩ : Array α).size = 4) : ∃ a b c d, l = [a, b, c, d] := by
  match l, h with
  | [a, b, c, d], _ => exact ⟨a, b, c, d, rfl⟩

theorem nat_of_wf {n : Int} (h : (Lit.int .u64 n).wf = true) : ∃ k : Nat, n = (k : Int) ∧ k < 18446744073709551616 := by
  obtain ⟨h1, h2⟩ := bounds_u64 h
  obtain ⟨k, rfl⟩ := Int.eq_ofNat_of_zero_le h1
  exact ⟨k, rfl, by omega⟩

/-- An argument of four words: of whatever program. -/
theorem open_word' {P : Program} {H : Type} {enc : TypeId × Value → H} {W : World} {base : Nat} {t e : TypeId} {v : Value} {d : DataW H} {ps : List MemPlace} (ht : P.underlying t = some (.array 4 e)) (he : P.underlying e = some (.int .u64)) (ct : P.cellsOf t = 4) (ce : P.cellsOf e = 1)
    {pt : Array TypeId} {args : Array Value} (hval : ∀ (j : Nat) t v, pt[j]? = some t → args[j]? = some v → Value.okWide P W .any base t v) (j : Nat) (hj : pt[j]? = some t) (ha : args[j]? = some v) (h : DataW.Trod enc P W 0 (fun _ => true) true t v d ps) :
    ∃ a0 a1 a2 a3 : Nat, v = .agg #[.int .u64 a0, .int .u64 a1, .int .u64 a2, .int .u64 a3] ∧ ok4 a0 a1 a2 a3 := by
  obtain ⟨cs, rfl, hsz, _⟩ : ∃ cs, v = .agg cs ∧ cs.size = P.cellsOf t ∧ Row.okWide P W .any base t cs := by
    simpa [Value.okWide, ht] using hval j t v hj ha
  rw [ct] at hsz
  obtain ⟨l⟩ := cs
  obtain ⟨c0, c1, c2, c3, rfl⟩ := list4 l hsz
  obtain ⟨fuel, hf⟩ := h
  obtain ⟨y0, y1, y2, y3, m, hx, hy0, hy1, hy2, hy3⟩ := trod_array4 ht ce hf
  obtain ⟨x0, e0, rfl, w0⟩ := DataW.trod_int he hy0
  obtain ⟨x1, e1, rfl, w1⟩ := DataW.trod_int he hy1
  obtain ⟨x2, e2, rfl, w2⟩ := DataW.trod_int he hy2
  obtain ⟨x3, e3, rfl, w3⟩ := DataW.trod_int he hy3
  simp at e0 e1 e2 e3
  obtain ⟨a0, rfl, k0⟩ := nat_of_wf w0
  obtain ⟨a1, rfl, k1⟩ := nat_of_wf w1
  obtain ⟨a2, rfl, k2⟩ := nat_of_wf w2
  obtain ⟨a3, rfl, k3⟩ := nat_of_wf w3
  subst e0 e1 e2 e3
  exact ⟨a0, a1, a2, a3, rfl, k0, k1, k2, k3⟩
theorem word_cells : Tryz.prog.cellsOf 27 = 4 := by kernel_rfl
theorem fe_cells : Tryz.prog.cellsOf 24 = 4 := by kernel_rfl
end Go.Proofs.YthlcjdcjnioeoaaGreat
namespace Go.Proofs.YthlcjdcjnioeoaaGreat.Ex
set_option linter.unusedVariables false
set_option linter.unusedSimpArgs false
open Go.Deep Go.ChangeShapes Go.WideShapes Go.ChangeAt Go.RowKit

theorem agg_of {P : Program} {W : World} {base : Nat} {t : TypeId} {fs : Array Field} {v : Value} (ht : P.underlying t = some (.struct fs)) (h : Value.okWide P W .any base t v) : ∃ cs, v = .agg cs := by
  obtain ⟨cs, rfl, _⟩ : ∃ cs, v = .agg cs ∧ cs.size = P.cellsOf t ∧ Row.okWide P W .any base t cs := by
    simpa [Value.okWide, ht] using h
  exact ⟨cs, rfl⟩
theorem agg_ofA {P : Program} {W : World} {base : Nat} {t n e : TypeId} {v : Value} (ht : P.underlying t = some (.array n e)) (h : Value.okWide P W .any base t v) : ∃ cs, v = .agg cs := by
  obtain ⟨cs, rfl, _⟩ : ∃ cs, v = .agg cs ∧ cs.size = P.cellsOf t ∧ Row.okWide P W .any base t cs := by
    simpa [Value.okWide, ht] using h
  exact ⟨cs, rfl⟩
section
variable {H : Type} {enc : TypeId × Value → H} {W : World}
theorem c24 : Tryz.prog.cellsOf 24 = 4 := by kernel_rfl
theorem c26 : Tryz.prog.cellsOf 43 = 8 := by kernel_rfl
theorem op_fe {fuel : Nat} {cs : List Value} {x : DataW H × List MemPlace} (hl : cs.length = 4) (h : DataW.trod enc Tryz.prog W 0 (fun _ => true) true fuel 24 cs = some x) : ∃ n : Nat, cs = flat (q1 n) := by
  obtain ⟨c0, c1, c2, c3, rfl⟩ := list4 cs hl
  obtain ⟨y0, y1, y2, y3, m, hx, hy0, hy1, hy2, hy3⟩ := trod_array4 Tryz.underlying24 u64_cells h
  obtain ⟨x0, e0, rfl, w0⟩ := DataW.trod_int Tryz.underlying22 hy0
  obtain ⟨x1, e1, rfl, w1⟩ := DataW.trod_int Tryz.underlying22 hy1
  obtain ⟨x2, e2, rfl, w2⟩ := DataW.trod_int Tryz.underlying22 hy2
  obtain ⟨x3, e3, rfl, w3⟩ := DataW.trod_int Tryz.underlying22 hy3
  simp at e0 e1 e2 e3
  obtain ⟨a0, rfl, k0⟩ := nat_of_wf w0
  obtain ⟨a1, rfl, k1⟩ := nat_of_wf w1
  obtain ⟨a2, rfl, k2⟩ := nat_of_wf w2
  obtain ⟨a3, rfl, k3⟩ := nat_of_wf w3
  subst e0 e1 e2 e3
  have hv : val4 a0 a1 a2 a3 < 115792089237316195423570985008687907853269984665640564039457584007913129639936 := by unfold val4; omega
  obtain ⟨q0, q1', q2', q3⟩ := fw_of ⟨k0, k1, k2, k3⟩ hv rfl
  refine ⟨val4 a0 a1 a2 a3, ?_⟩
  show _ = w4 (val4 a0 a1 a2 a3)
  unfold w4
  rw [← q0, ← q1', ← q2', ← q3]
theorem op_e2 {fuel : Nat} {cs : List Value} {x : DataW H × List MemPlace} (h : DataW.trod enc Tryz.prog W 0 (fun _ => true) true fuel 43 cs = some x) : ∃ n : N2, cs = flat (q2 n) := by
  obtain ⟨y0, y1, n, _, hl, h0, h1⟩ := trod_struct2 Tryz.underlying43 h
  rw [c26] at hl
  simp only [c24] at h0 h1
  obtain ⟨a, ha⟩ := op_fe (by simp [hl]) h0
  obtain ⟨b, hb⟩ := op_fe (by simp [hl]) h1
  refine ⟨(a, b), ?_⟩
  rw [List.drop_zero] at ha
  rw [List.take_of_length_le (by simp [hl])] at hb
  show cs = w4 a ++ (w4 b ++ [])
  rw [List.append_nil, ← List.take_append_drop 4 cs]
  congr 1
  all_goals first | exact ha.trans (List.append_nil _) | exact hb.trans (List.append_nil _)
theorem op_w {fuel : Nat} {cs : List Value} {x : DataW H × List MemPlace} (hl : cs.length = 4) (h : DataW.trod enc Tryz.prog W 0 (fun _ => true) true fuel 27 cs = some x) : ∃ n : Nat, cs = flat (q1 n) := by
  obtain ⟨c0, c1, c2, c3, rfl⟩ := list4 cs hl
  obtain ⟨y0, y1, y2, y3, m, hx, hy0, hy1, hy2, hy3⟩ := trod_array4 Tryz.underlying27 u64_cells h
  obtain ⟨x0, e0, rfl, w0⟩ := DataW.trod_int Tryz.underlying22 hy0
  obtain ⟨x1, e1, rfl, w1⟩ := DataW.trod_int Tryz.underlying22 hy1
  obtain ⟨x2, e2, rfl, w2⟩ := DataW.trod_int Tryz.underlying22 hy2
  obtain ⟨x3, e3, rfl, w3⟩ := DataW.trod_int Tryz.underlying22 hy3
  simp at e0 e1 e2 e3
  obtain ⟨a0, rfl, k0⟩ := nat_of_wf w0
  obtain ⟨a1, rfl, k1⟩ := nat_of_wf w1
  obtain ⟨a2, rfl, k2⟩ := nat_of_wf w2
  obtain ⟨a3, rfl, k3⟩ := nat_of_wf w3
  subst e0 e1 e2 e3
  have hv : val4 a0 a1 a2 a3 < 115792089237316195423570985008687907853269984665640564039457584007913129639936 := by unfold val4; omega
  obtain ⟨q0, q1', q2', q3⟩ := fw_of ⟨k0, k1, k2, k3⟩ hv rfl
  refine ⟨val4 a0 a1 a2 a3, ?_⟩
  show _ = w4 (val4 a0 a1 a2 a3)
  unfold w4
  rw [← q0, ← q1', ← q2', ← q3]
set_option maxRecDepth 100000 in
theorem open_w {base : Nat} {v : Value} {d : DataW H} {ps : List MemPlace} {pt : Array TypeId} {args : Array Value} (hval : ∀ (j : Nat) t v, pt[j]? = some t → args[j]? = some v → Value.okWide Tryz.prog W .any base t v) (j : Nat) (hj : pt[j]? = some 27) (ha : args[j]? = some v)
    (h : DataW.Trod enc Tryz.prog W 0 (fun _ => true) true 27 v d ps) : ∃ x : Nat, v = .agg (flat (q1 x)).toArray := by
  have hv := hval j 27 v hj ha
  obtain ⟨cs, rfl⟩ := agg_ofA (t := 27) Tryz.underlying27 hv
  obtain ⟨fuel, hf⟩ := h
  obtain ⟨l⟩ := cs
  have hl : l.length = 4 := by
    obtain ⟨cs', e, hs, _⟩ : ∃ cs, Value.agg ⟨l⟩ = .agg cs ∧ cs.size = Tryz.prog.cellsOf 27 ∧ Row.okWide Tryz.prog W .any base 27 cs := by
      simpa [Value.okWide, Tryz.underlying27] using hv
    cases e
    rw [show Tryz.prog.cellsOf 27 = 4 by kernel_rfl] at hs
    exact hs
  obtain ⟨x, hx⟩ := op_w hl hf
  subst hx
  exact ⟨x, rfl⟩
set_option maxRecDepth 100000 in
theorem open_e2 {base : Nat} {v : Value} {d : DataW H} {ps : List MemPlace} {pt : Array TypeId} {args : Array Value} (hval : ∀ (j : Nat) t v, pt[j]? = some t → args[j]? = some v → Value.okWide Tryz.prog W .any base t v) (j : Nat) (hj : pt[j]? = some 43) (ha : args[j]? = some v)
    (h : DataW.Trod enc Tryz.prog W 0 (fun _ => true) true 43 v d ps) : ∃ x : N2, v = .agg (flat (q2 x)).toArray := by
  have hv := hval j 43 v hj ha
  obtain ⟨cs, rfl⟩ := agg_of (t := 43) Tryz.underlying43 hv
  obtain ⟨fuel, hf⟩ := h
  obtain ⟨l⟩ := cs
  obtain ⟨x, hx⟩ := op_e2 hf
  subst hx
  exact ⟨x, rfl⟩
end
end Go.Proofs.YthlcjdcjnioeoaaGreat.Ex
namespace Go.Proofs.YthlcjdcjnioeoaaGreat.Ex
set_option linter.unusedVariables false
set_option linter.unusedSimpArgs false
open Go.Deep Go.ChangeShapes Go.WideShapes Go.ChangeAt Go.RowKit
section
variable {H : Type} {enc : TypeId × Value → H} {W : World}
theorem cG1 : Tryz.prog.cellsOf 26 = 9 := by kernel_rfl
theorem cG2 : Tryz.prog.cellsOf 45 = 17 := by kernel_rfl
theorem cBo : Tryz.prog.cellsOf 4 = 1 := by kernel_rfl
theorem split3 {α : Type} (a b : Nat) (cs : List α) (h : cs.length = a + b + 1) : cs = cs.take a ++ ((cs.drop a).take b ++ (cs.drop (a + b)).take 1) := by
  have e : (cs.drop (a + b)).take 1 = cs.drop (a + b) := List.take_of_length_le (by simp [h])
  rw [e, ← List.drop_drop, List.take_append_drop, List.take_append_drop]
theorem op_g1 {fuel : Nat} {cs : List Value} {x : DataW H × List MemPlace} (h : DataW.trod enc Tryz.prog W 0 (fun _ => true) true fuel 26 cs = some x) : ∃ n : G1N, cs = flat (gq1 n) := by
  obtain ⟨y0, y1, y2, n, _, hl, h0, h1, h2⟩ := trod_struct3 Tryz.underlying26 h
  rw [cG1] at hl
  simp only [c24, cBo] at h0 h1 h2
  obtain ⟨a, ha⟩ := op_fe (by simp [hl]) h0
  obtain ⟨b, hb⟩ := op_fe (by simp [hl]) h1
  obtain ⟨c, hc, _⟩ := DataW.trod_bool Tryz.underlying4 h2
  refine ⟨(a, b, c), ?_⟩
  rw [split3 4 4 cs hl, ← List.drop_zero (l := cs.take 4)]
  have e : flat (gq1 (a, b, c)) = flat (q1 a) ++ (flat (q1 b) ++ [.bool c]) := by
    show w4 a ++ (w4 b ++ _) = (w4 a ++ []) ++ ((w4 b ++ []) ++ _)
    rw [List.append_nil, List.append_nil]
    rfl
  rw [e]
  rw [List.drop_zero] at ha
  have ha' : cs.take 4 = flat (q1 a) := ha.trans (by first | rfl | simp)
  have hb' : (cs.drop 4).take 4 = flat (q1 b) := hb.trans (by first | rfl | simp)
  have hc' : (cs.drop (4 + 4)).take 1 = [.bool c] := hc
  rw [List.drop_zero, ha', hb', hc']
theorem op_g2 {fuel : Nat} {cs : List Value} {x : DataW H × List MemPlace} (h : DataW.trod enc Tryz.prog W 0 (fun _ => true) true fuel 45 cs = some x) : ∃ n : G2N, cs = flat (gq2 n) := by
  obtain ⟨y0, y1, y2, n, _, hl, h0, h1, h2⟩ := trod_struct3 Tryz.underlying45 h
  rw [cG2] at hl
  simp only [c26, cBo] at h0 h1 h2
  obtain ⟨a, ha⟩ := op_e2 h0
  obtain ⟨b, hb⟩ := op_e2 h1
  obtain ⟨c, hc, _⟩ := DataW.trod_bool Tryz.underlying4 h2
  refine ⟨(a, b, c), ?_⟩
  rw [split3 8 8 cs hl, ← List.drop_zero (l := cs.take 8)]
  have e : flat (gq2 (a, b, c)) = flat (q2 a) ++ (flat (q2 b) ++ [.bool c]) := by
    show w4 a.1 ++ (w4 a.2 ++ (w4 b.1 ++ (w4 b.2 ++ _))) = (w4 a.1 ++ (w4 a.2 ++ [])) ++ ((w4 b.1 ++ (w4 b.2 ++ [])) ++ _)
    rw [List.append_nil, List.append_nil, List.append_assoc, List.append_assoc]
    rfl
  rw [e]
  rw [List.drop_zero] at ha
  have hb' : (cs.drop 8).take 8 = flat (q2 b) := hb
  have hc' : (cs.drop (8 + 8)).take 1 = [.bool c] := hc
  rw [List.drop_zero, ha, hb', hc']
set_option maxRecDepth 100000 in
theorem open_g1 {base : Nat} {v : Value} {d : DataW H} {ps : List MemPlace} {pt : Array TypeId} {args : Array Value} (hval : ∀ (j : Nat) t v, pt[j]? = some t → args[j]? = some v → Value.okWide Tryz.prog W .any base t v) (j : Nat) (hj : pt[j]? = some 26) (ha : args[j]? = some v)
    (h : DataW.Trod enc Tryz.prog W 0 (fun _ => true) true 26 v d ps) : ∃ x : G1N, v = .agg (flat (gq1 x)).toArray := by
  have hv := hval j 26 v hj ha
  obtain ⟨cs, rfl⟩ := agg_of (t := 26) Tryz.underlying26 hv
  obtain ⟨fuel, hf⟩ := h
  obtain ⟨l⟩ := cs
  obtain ⟨x, hx⟩ := op_g1 hf
  subst hx
  exact ⟨x, rfl⟩
set_option maxRecDepth 100000 in
theorem open_g2 {base : Nat} {v : Value} {d : DataW H} {ps : List MemPlace} {pt : Array TypeId} {args : Array Value} (hval : ∀ (j : Nat) t v, pt[j]? = some t → args[j]? = some v → Value.okWide Tryz.prog W .any base t v) (j : Nat) (hj : pt[j]? = some 45) (ha : args[j]? = some v)
    (h : DataW.Trod enc Tryz.prog W 0 (fun _ => true) true 45 v d ps) : ∃ x : G2N, v = .agg (flat (gq2 x)).toArray := by
  have hv := hval j 45 v hj ha
  obtain ⟨cs, rfl⟩ := agg_of (t := 45) Tryz.underlying45 hv
  obtain ⟨fuel, hf⟩ := h
  obtain ⟨l⟩ := cs
  obtain ⟨x, hx⟩ := op_g2 hf
  subst hx
  exact ⟨x, rfl⟩
end
end Go.Proofs.YthlcjdcjnioeoaaGreat.Ex
