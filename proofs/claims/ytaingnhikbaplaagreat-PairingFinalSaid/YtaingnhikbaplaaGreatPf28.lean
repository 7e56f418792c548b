/-
  The points of y^2 = x^3 + b over a field, with none of order two, are a commutative group. Conditions: none.
  Points by Jacobian coordinates: their sums are the points' sums. Conditions: none.
  The elements over which the curves lie (single, pair) in a table of calls. Conditions: none.
-/
import Derived.Test.YtaingnhikbaplaaGreatPf27
import Derived.Test.YtaingnhikbaplaaGreatPf19
import Derived.Test.YtaingnhikbaplaaGreatPf24
import Derived.Test.YtaingnhikbaplaaGreatPf23
namespace Go.Proofs.YtaingnhikbaplaaGreat.Ex
set_option linter.unusedVariables false
set_option linter.unusedSimpArgs false
open Classical
/-- a curve y^2 = x^3 + b over a field where 2 is not 0, no point of which is its own negative -/
structure EC {R : Type} (K : CR R) (inv : R → R) (b : R) : Prop where
  F : FD K inv
  two : K.add K.one K.one ≠ K.zero
  odd : ∀ x, K.add (K.mul x (K.mul x x)) b ≠ K.zero
section
variable {R : Type} (K : CR R) (inv : R → R) (b : R)
abbrev Pt (R : Type) := Option (R × R)
def On : Pt R → Prop
  | none => True
  | some p => K.mul p.2 p.2 = K.add (K.mul p.1 (K.mul p.1 p.1)) b
def ptN : Pt R → Pt R
  | none => none
  | some p => some (p.1, K.neg p.2)
/-- the chord's slope, or the tangent's -/
noncomputable def slope (x1 y1 x2 y2 : R) : R :=
  if x1 = x2 then K.mul (K.add (K.add (K.mul x1 x1) (K.mul x1 x1)) (K.mul x1 x1)) (inv (K.add y1 y2)) else K.mul (K.sub y2 y1) (inv (K.sub x2 x1))
def sx (l x1 x2 : R) : R := K.sub (K.sub (K.mul l l) x1) x2
def sy (l x1 y1 x2 : R) : R := K.sub (K.mul l (K.sub x1 (sx K l x1 x2))) y1
noncomputable def ptA : Pt R → Pt R → Pt R
  | none, q => q
  | some p, none => some p
  | some p, some q =>
    if p.1 = q.1 ∧ K.add p.2 q.2 = K.zero then none
    else some (sx K (slope K inv p.1 p.2 q.1 q.2) p.1 q.1, sy K (slope K inv p.1 p.2 q.1 q.2) p.1 p.2 q.1)
variable {K} {inv} {b}
theorem ptA_opp {p q : R × R} (h : p.1 = q.1 ∧ K.add p.2 q.2 = K.zero) : ptA K inv (some p) (some q) = none := if_pos h
theorem ptA_sum {p q : R × R} (h : ¬ (p.1 = q.1 ∧ K.add p.2 q.2 = K.zero)) : ptA K inv (some p) (some q) = some (sx K (slope K inv p.1 p.2 q.1 q.2) p.1 q.1, sy K (slope K inv p.1 p.2 q.1 q.2) p.1 p.2 q.1) := if_neg h
theorem sub_eq_zero {x y : R} (h : K.sub x y = K.zero) : x = y := eq_of_neg h
theorem sub_ne {x y : R} (h : x ≠ y) : K.sub x y ≠ K.zero := fun e => h (sub_eq_zero e)
theorem EC.dbl_ne (E : EC K inv b) {y : R} (h : y ≠ K.zero) : K.add y y ≠ K.zero := fun e => by
  refine E.F.mul_ne E.two h ?_
  rw [K.add_mul, K.one_mul, e]
theorem EC.y_ne (E : EC K inv b) {x y : R} (h : K.mul y y = K.add (K.mul x (K.mul x x)) b) : y ≠ K.zero := fun e => by
  rw [e, K.mul_zero] at h
  exact E.odd x h.symm
/-- what is asked of the slope -/
structure Slope (K : CR R) (x1 y1 x2 y2 l : R) : Prop where
  h1 : y2 = K.add y1 (K.mul l (K.sub x2 x1))
  h2 : K.mul l (K.add y1 y2) = K.add (K.add (K.mul x1 x1) (K.mul x1 x2)) (K.mul x2 x2)
  hk : (∃ k, K.mul k (K.add y1 y2) = K.one) ∨ (∃ k, K.mul k (K.sub x2 x1) = K.one)
theorem slope_ok (E : EC K inv b) {x1 y1 x2 y2 : R} (hp : K.mul y1 y1 = K.add (K.mul x1 (K.mul x1 x1)) b) (hq : K.mul y2 y2 = K.add (K.mul x2 (K.mul x2 x2)) b) (hn : ¬ (x1 = x2 ∧ K.add y1 y2 = K.zero)) : Slope K x1 y1 x2 y2 (slope K inv x1 y1 x2 y2) := by
  unfold slope
  by_cases hx : x1 = x2
  · subst hx
    rw [if_pos rfl]
    have hy : K.add y1 y2 ≠ K.zero := fun e => hn ⟨rfl, e⟩
    have hi := E.F.inv _ hy
    have e : y1 = y2 := by
      refine sub_eq_zero (K := K) (E.F.zd (a := K.add y1 y2) ?_ hy)
      have e0 : K.mul (K.add y1 y2) (K.sub y1 y2) = K.sub (K.mul y1 y1) (K.mul y2 y2) := ring_id K (envL K [y1, y2]) (.mul (.add (.v 0) (.v 1)) (.add (.v 0) (.neg (.v 1)))) (.add (.mul (.v 0) (.v 0)) (.neg (.mul (.v 1) (.v 1)))) (by kernel_rfl)
      rw [e0, hp, hq]
      exact K.add_neg _
    subst e
    generalize inv (K.add y1 y1) = k at hi
    refine ⟨ring_id K (envL K [y1, x1, k]) (.v 0) (.add (.v 0) (.mul (.mul (.add (.add (.mul (.v 1) (.v 1)) (.mul (.v 1) (.v 1))) (.mul (.v 1) (.v 1))) (.v 2)) (.add (.v 1) (.neg (.v 1))))) (by kernel_rfl), comb1 (K := K) (c1 := (K.add (K.add (K.mul x1 x1) (K.mul x1 x1)) (K.mul x1 x1))) hi (ring_id K (envL K [x1, k, y1]) (.add (.mul (.mul (.add (.add (.mul (.v 0) (.v 0)) (.mul (.v 0) (.v 0))) (.mul (.v 0) (.v 0))) (.v 1)) (.add (.v 2) (.v 2))) (.neg (.add (.add (.mul (.v 0) (.v 0)) (.mul (.v 0) (.v 0))) (.mul (.v 0) (.v 0))))) (.mul (.add (.add (.mul (.v 0) (.v 0)) (.mul (.v 0) (.v 0))) (.mul (.v 0) (.v 0))) (.add (.mul (.add (.v 2) (.v 2)) (.v 1)) (.neg .one))) (by kernel_rfl)), Or.inl ⟨k, by rw [K.mul_comm, hi]⟩⟩
  · rw [if_neg hx]
    have hd : K.sub x2 x1 ≠ K.zero := sub_ne fun e => hx e.symm
    have hi := E.F.inv _ hd
    generalize inv (K.sub x2 x1) = k at hi
    refine ⟨comb1 (K := K) (c1 := (K.neg (K.sub y2 y1))) hi (ring_id K (envL K [y2, y1, k, x2, x1]) (.add (.v 0) (.neg (.add (.v 1) (.mul (.mul (.add (.v 0) (.neg (.v 1))) (.v 2)) (.add (.v 3) (.neg (.v 4))))))) (.mul (.neg (.add (.v 0) (.neg (.v 1)))) (.add (.mul (.add (.v 3) (.neg (.v 4))) (.v 2)) (.neg .one))) (by kernel_rfl)), ?_, Or.inr ⟨k, by rw [K.mul_comm, hi]⟩⟩
    refine E.F.cancel hd ?_
    exact comb3 (K := K) (c1 := (K.mul (K.sub y2 y1) (K.add y1 y2))) (c2 := (K.neg K.one)) (c3 := K.one) hi hp hq (ring_id K (envL K [x2, x1, y2, y1, k, b]) (.add (.mul (.add (.v 0) (.neg (.v 1))) (.mul (.mul (.add (.v 2) (.neg (.v 3))) (.v 4)) (.add (.v 3) (.v 2)))) (.neg (.mul (.add (.v 0) (.neg (.v 1))) (.add (.add (.mul (.v 1) (.v 1)) (.mul (.v 1) (.v 0))) (.mul (.v 0) (.v 0)))))) (.add (.add (.mul (.mul (.add (.v 2) (.neg (.v 3))) (.add (.v 3) (.v 2))) (.add (.mul (.add (.v 0) (.neg (.v 1))) (.v 4)) (.neg .one))) (.mul (.neg .one) (.add (.mul (.v 3) (.v 3)) (.neg (.add (.mul (.v 1) (.mul (.v 1) (.v 1))) (.v 5)))))) (.mul .one (.add (.mul (.v 2) (.v 2)) (.neg (.add (.mul (.v 0) (.mul (.v 0) (.v 0))) (.v 5)))))) (by kernel_rfl))
theorem On.sum {x1 y1 x2 y2 l : R} (hp : K.mul y1 y1 = K.add (K.mul x1 (K.mul x1 x1)) b) (h : Slope K x1 y1 x2 y2 l) : On K b (some (sx K l x1 x2, sy K l x1 y1 x2)) := by
  obtain ⟨h1, h2, _⟩ := h
  subst h1
  show K.mul (K.sub (K.mul l (K.sub x1 (K.sub (K.sub (K.mul l l) x1) x2))) y1) (K.sub (K.mul l (K.sub x1 (K.sub (K.sub (K.mul l l) x1) x2))) y1) = K.add (K.mul (K.sub (K.sub (K.mul l l) x1) x2) (K.mul (K.sub (K.sub (K.mul l l) x1) x2) (K.sub (K.sub (K.mul l l) x1) x2))) b
  exact comb2 (K := K) (c1 := K.one) (c2 := (K.sub (K.sub (K.sub (K.mul l l) x1) x2) x1)) hp h2 (ring_id K (envL K [l, x1, x2, y1, b]) (.add (.mul (.add (.mul (.v 0) (.add (.v 1) (.neg (.add (.add (.mul (.v 0) (.v 0)) (.neg (.v 1))) (.neg (.v 2)))))) (.neg (.v 3))) (.add (.mul (.v 0) (.add (.v 1) (.neg (.add (.add (.mul (.v 0) (.v 0)) (.neg (.v 1))) (.neg (.v 2)))))) (.neg (.v 3)))) (.neg (.add (.mul (.add (.add (.mul (.v 0) (.v 0)) (.neg (.v 1))) (.neg (.v 2))) (.mul (.add (.add (.mul (.v 0) (.v 0)) (.neg (.v 1))) (.neg (.v 2))) (.add (.add (.mul (.v 0) (.v 0)) (.neg (.v 1))) (.neg (.v 2))))) (.v 4)))) (.add (.mul .one (.add (.mul (.v 3) (.v 3)) (.neg (.add (.mul (.v 1) (.mul (.v 1) (.v 1))) (.v 4))))) (.mul (.add (.add (.add (.mul (.v 0) (.v 0)) (.neg (.v 1))) (.neg (.v 2))) (.neg (.v 1))) (.add (.mul (.v 0) (.add (.v 3) (.add (.v 3) (.mul (.v 0) (.add (.v 2) (.neg (.v 1))))))) (.neg (.add (.add (.mul (.v 1) (.v 1)) (.mul (.v 1) (.v 2))) (.mul (.v 2) (.v 2))))))) (by kernel_rfl))
theorem On.neg : ∀ {p : Pt R}, On K b p → On K b (ptN K p)
  | none, _ => trivial
  | some p, h => by
    show K.mul (K.neg p.2) (K.neg p.2) = _
    rw [K.neg_mul, K.mul_neg, K.neg_neg]
    exact h
theorem On.add (E : EC K inv b) : ∀ {p q : Pt R}, On K b p → On K b q → On K b (ptA K inv p q)
  | none, _, _, h => h
  | some _, none, h, _ => h
  | some p, some q, hp, hq => by
    by_cases hn : p.1 = q.1 ∧ K.add p.2 q.2 = K.zero
    · rw [ptA_opp hn]; trivial
    · rw [ptA_sum hn]
      exact On.sum hp (slope_ok E hp hq hn)
/-- a point's class -/
def opP (K : CR R) (b : R) (p : Pt R) (S : Pol K × Pol K → Prop) : Pol K × Pol K → Prop :=
  match p with
  | none => S
  | some p => op (crd K b) cX cY (cc p.1) (cc p.2) S
theorem opP_swap (p q : Pt R) (S : Pol K × Pol K → Prop) : opP K b p (opP K b q S) = opP K b q (opP K b p S) := by
  cases p with
  | none => rfl
  | some p => cases q with
    | none => rfl
    | some q => exact op_swap _ _ _ _
theorem opP_idl {S : Pol K × Pol K → Prop} (h : Idl (crd K b) S) (p : Pt R) : Idl (crd K b) (opP K b p S) := by
  cases p with
  | none => exact h
  | some p => exact op_idl h _ _
theorem opP_eqv {S T : Pol K × Pol K → Prop} (h : Eqv (crd K b) S T) (p : Pt R) : Eqv (crd K b) (opP K b p S) (opP K b p T) := by
  cases p with
  | none => exact h
  | some p => exact h.op _ _
theorem X_ne (F : FD K inv) (c : R) : (crd K b).sub cX (cc c) ≠ (crd K b).zero := fun q => dg_ne (dg_lin (K := K) F c) (congrArg Prod.fst q)
theorem ell_ne (F : FD K inv) (x1 y1 l : R) : (crd K b).sub ((crd K b).sub cY (cc y1)) ((crd K b).mul (cc l) ((crd K b).sub cX (cc x1))) ≠ (crd K b).zero := fun q => by
  have e : K.add (K.add K.one (K.neg K.zero)) (K.neg (K.add (K.mul l (K.add K.zero (K.neg K.zero))) (K.mul K.zero (K.add K.zero (K.neg x1))))) = K.zero := congrArg (fun z : Pol K × Pol K => z.2.1 0) q
  rw [neg_zero, K.add_zero, K.add_zero, K.mul_zero, K.zero_mul, K.add_zero, neg_zero, K.add_zero] at e
  exact F.ne e
/-- the class of a sum is the product of the classes -/
theorem opP_sum (E : EC K inv b) {S : Pol K × Pol K → Prop} (hS : Idl (crd K b) S) : ∀ {p q : Pt R}, On K b p → On K b q → Eqv (crd K b) (opP K b p (opP K b q S)) (opP K b (ptA K inv p q) S)
  | none, _, _, _ => Eqv.refl (crd_dom b E.F) _
  | some _, none, _, _ => Eqv.refl (crd_dom b E.F) _
  | some ⟨x1, y1⟩, some ⟨x2, y2⟩, hp, hq => by
    by_cases hn : x1 = x2 ∧ K.add y1 y2 = K.zero
    · rw [ptA_opp hn]
      obtain ⟨rfl, hy⟩ := hn
      have e : y2 = K.neg y1 := by
        apply K.add_cancel (a := y1)
        rw [hy, K.add_neg]
      subst e
      show Eqv (crd K b) (op (crd K b) cX cY (cc x1) (cc y1) (op (crd K b) cX cY (cc x1) (cc (K.neg y1)) S)) S
      have h0 := E.F.inv _ (E.dbl_ne (E.y_ne hp))
      rw [cc_neg b]
      refine op_neg (b := cc b) (k := cc (inv (K.add y1 y1))) (c_eq b) ?_ ?_ (crd_dom b E.F) (X_ne E.F x1) hS
      · rw [← cc_mul, ← cc_mul, ← cc_mul, ← cc_add]
        exact congrArg cc hp
      · rw [← cc_add, ← cc_mul, K.mul_comm, h0]
        rfl
    · rw [ptA_sum hn]
      have h := slope_ok E hp hq hn
      dsimp only at h ⊢
      generalize slope K inv x1 y1 x2 y2 = l at h
      obtain ⟨h1, h2, hk⟩ := h
      subst h1
      show Eqv (crd K b) (op (crd K b) cX cY (cc x1) (cc y1) (op (crd K b) cX cY (cc x2) (cc (K.add y1 (K.mul l (K.sub x2 x1)))) S)) (op (crd K b) cX cY (cc (sx K l x1 x2)) (cc (sy K l x1 y1 x2)) S)
      unfold sy sx
      have hX := X_ne (K := K) (b := b) E.F (sx K l x1 x2)
      have hl := ell_ne (K := K) (b := b) E.F x1 y1 l
      unfold sx at hX
      simp only [cc_add b, cc_mul b, cc_sub b] at hX ⊢
      refine op_sum (b := cc b) (c_eq b) ?_ ?_ ?_ hX hl hS
      · have := congrArg (cc (K := K)) h2
        simpa only [cc_add b, cc_mul b, cc_sub b] using this
      · have := congrArg (cc (K := K)) hp
        simpa only [cc_add b, cc_mul b, cc_sub b] using this
      · rcases hk with ⟨k, hk⟩ | ⟨k, hk⟩
        · refine Or.inl ⟨cc k, ?_⟩
          have := congrArg (cc (K := K)) hk
          simpa only [cc_add b, cc_mul b, cc_sub b, cc_one b] using this
        · refine Or.inr ⟨cc k, ?_⟩
          have := congrArg (cc (K := K)) hk
          simpa only [cc_add b, cc_mul b, cc_sub b, cc_one b] using this
theorem ptN_neg (p : Pt R) : ptN K (ptN K p) = p := by
  cases p with
  | none => rfl
  | some p => show some (p.1, K.neg (K.neg p.2)) = _; rw [K.neg_neg]
theorem ptA_neg (p : Pt R) : ptA K inv (ptN K p) p = none := by
  cases p with
  | none => rfl
  | some p => exact if_pos ⟨rfl, K.neg_add _⟩
theorem ptA_none {p q : Pt R} (h : ptA K inv (ptN K p) q = none) : q = p := by
  cases p with
  | none => exact h
  | some p => cases q with
    | none => cases h
    | some q =>
      by_cases hh : p.1 = q.1 ∧ K.add (K.neg p.2) q.2 = K.zero
      · obtain ⟨h1, h2⟩ := hh
        refine congrArg some (Prod.ext h1.symm ?_)
        apply K.add_cancel (a := K.neg p.2)
        exact h2.trans (K.neg_add p.2).symm
      · have e : ptA K inv (ptN K (some p)) (some q) = some _ := ptA_sum (p := (p.1, K.neg p.2)) (q := q) hh
        rw [e] at h
        cases h
theorem opP_ne (E : EC K inv b) {p : Pt R} (hp : On K b p) (h : Eqv (crd K b) (opP K b p univ) univ) : p = none := by
  cases p with
  | none => rfl
  | some p => exact absurd h (pt_ne b E.F hp)
/-- points of one class are one -/
theorem opP_inj (E : EC K inv b) {p q : Pt R} (hp : On K b p) (hq : On K b q) (h : Eqv (crd K b) (opP K b p univ) (opP K b q univ)) : p = q := by
  have D := crd_dom (K := K) b E.F
  have h1 := opP_eqv h (ptN K q)
  have a1 := opP_sum E (univ_idl (crd K b)) hq.neg hp
  have a2 := opP_sum E (univ_idl (crd K b)) hq.neg hq
  rw [ptA_neg] at a2
  exact ptA_none (opP_ne E (hq.neg.add E hp) (a1.symm.trans D (h1.trans D a2)))
theorem ptA_comm (E : EC K inv b) {p q : Pt R} (hp : On K b p) (hq : On K b q) : ptA K inv p q = ptA K inv q p := by
  have D := crd_dom (K := K) b E.F
  refine opP_inj E (hp.add E hq) (hq.add E hp) ?_
  refine (opP_sum E (univ_idl (crd K b)) hp hq).symm.trans D ?_
  rw [opP_swap]
  exact opP_sum E (univ_idl (crd K b)) hq hp
theorem ptA_assoc (E : EC K inv b) {p q r : Pt R} (hp : On K b p) (hq : On K b q) (hr : On K b r) : ptA K inv (ptA K inv p q) r = ptA K inv p (ptA K inv q r) := by
  have D := crd_dom (K := K) b E.F
  have hu := univ_idl (crd K b)
  refine opP_inj E ((hp.add E hq).add E hr) (hp.add E (hq.add E hr)) ?_
  refine (opP_sum E hu (hp.add E hq) hr).symm.trans D ?_
  refine (opP_sum E (opP_idl hu r) hp hq).symm.trans D ?_
  refine (opP_eqv (opP_sum E hu hq hr) p).trans D ?_
  exact opP_sum E hu hp (hq.add E hr)
end
/-- a commutative group -/
structure AG (G : Type) where
  add : G → G → G
  neg : G → G
  zero : G
  assoc : ∀ a b c, add (add a b) c = add a (add b c)
  comm : ∀ a b, add a b = add b a
  zadd : ∀ a, add zero a = a
  nadd : ∀ a, add (neg a) a = zero
/-- a curve's points -/
noncomputable def EC.grp {R : Type} {K : CR R} {inv : R → R} {b : R} (E : EC K inv b) : AG {p : Pt R // On K b p} where
  add p q := ⟨ptA K inv p.1 q.1, p.2.add E q.2⟩
  neg p := ⟨ptN K p.1, p.2.neg⟩
  zero := ⟨none, trivial⟩
  assoc p q r := Subtype.ext (ptA_assoc E p.2 q.2 r.2)
  comm p q := Subtype.ext (ptA_comm E p.2 q.2)
  zadd p := rfl
  nadd p := Subtype.ext (ptA_neg p.1)
end Go.Proofs.YtaingnhikbaplaaGreat.Ex
namespace Go.Proofs.YtaingnhikbaplaaGreat.Ex
set_option linter.unusedVariables false
set_option linter.unusedSimpArgs false
open Classical
section
variable {R : Type} (K : CR R) (inv : R → R)
abbrev Jc (R : Type) := R × R × R
/-- the point -/
noncomputable def jto (p : Jc R) : Pt R := if p.2.2 = K.zero then none else some (K.mul p.1 (K.mul (inv p.2.2) (inv p.2.2)), K.mul p.2.1 (K.mul (K.mul (inv p.2.2) (inv p.2.2)) (inv p.2.2)))
def dSl (p : Jc R) : R := K.add (K.add (K.mul p.1 p.1) (K.mul p.1 p.1)) (K.mul p.1 p.1)
def dTw (p : Jc R) : R := K.add (K.mul p.2.1 p.2.1) (K.mul p.2.1 p.2.1)
def dFo (p : Jc R) : R := K.add (dTw K p) (dTw K p)
def dBa (p : Jc R) : R := K.mul p.1 (dFo K p)
def dX (p : Jc R) : R := K.sub (K.mul (dSl K p) (dSl K p)) (K.add (dBa K p) (dBa K p))
def dY (p : Jc R) : R := K.sub (K.mul (dSl K p) (K.sub (dBa K p) (dX K p))) (K.mul (dFo K p) (dTw K p))
def jdbl (p : Jc R) : Jc R := (dX K p, dY K p, K.mul (K.add p.2.1 p.2.1) p.2.2)
/-- x and y over the product of both z -/
def jbx (p q : Jc R) : R := K.mul p.1 (K.mul q.2.2 q.2.2)
def jby (p q : Jc R) : R := K.mul p.2.1 (K.mul (K.mul q.2.2 q.2.2) q.2.2)
def jac (p q : Jc R) : R := K.sub (jbx K q p) (jbx K p q)
def jup (p q : Jc R) : R := K.sub (jby K q p) (jby K p q)
def sX (px a up : R) : R := K.sub (K.sub (K.mul up up) (K.mul (K.mul a a) a)) (K.add (K.mul px (K.mul a a)) (K.mul px (K.mul a a)))
def sY (px py a up : R) : R := K.sub (K.mul up (K.sub (K.mul px (K.mul a a)) (sX K px a up))) (K.mul py (K.mul (K.mul a a) a))
def jsum (p q : Jc R) : Jc R := (sX K (jbx K p q) (jac K p q) (jup K p q), sY K (jbx K p q) (jby K p q) (jac K p q) (jup K p q), K.mul (K.mul p.2.2 q.2.2) (jac K p q))
noncomputable def jplus (p q : Jc R) : Jc R :=
  if p.2.2 = K.zero then q else if q.2.2 = K.zero then p else if jac K p q = K.zero ∧ jup K p q = K.zero then jdbl K p else jsum K p q
/-- likewise; where the two are opposite, (1, 1, 0) -/
noncomputable def rplus (p q : Jc R) : Jc R :=
  if p.2.2 = K.zero then q else if q.2.2 = K.zero then p else if jac K p q = K.zero ∧ jup K p q = K.zero then jdbl K p else if jac K p q = K.zero then (K.one, K.one, K.zero) else jsum K p q
variable {K} {inv} {b : R}
theorem jto_zero {p : Jc R} (h : p.2.2 = K.zero) : jto K inv p = none := if_pos h
theorem jto_some {p : Jc R} (h : p.2.2 ≠ K.zero) : jto K inv p = some (K.mul p.1 (K.mul (inv p.2.2) (inv p.2.2)), K.mul p.2.1 (K.mul (K.mul (inv p.2.2) (inv p.2.2)) (inv p.2.2))) := if_neg h
/-- the slope is told by its product -/
theorem slope_dbl (E : EC K inv b) {x y l : R} (hy : K.add y y ≠ K.zero) (h : K.mul l (K.add y y) = K.add (K.add (K.mul x x) (K.mul x x)) (K.mul x x)) : slope K inv x y x y = l := by
  unfold slope
  rw [if_pos rfl]
  refine E.F.cancel hy ?_
  have hi := E.F.inv _ hy
  generalize inv (K.add y y) = k at hi
  exact comb2 (K := K) (c1 := (K.add (K.add (K.mul x x) (K.mul x x)) (K.mul x x))) (c2 := (K.neg K.one)) hi h (ring_id K (envL K [y, x, k, l]) (.add (.mul (.add (.v 0) (.v 0)) (.mul (.add (.add (.mul (.v 1) (.v 1)) (.mul (.v 1) (.v 1))) (.mul (.v 1) (.v 1))) (.v 2))) (.neg (.mul (.add (.v 0) (.v 0)) (.v 3)))) (.add (.mul (.add (.add (.mul (.v 1) (.v 1)) (.mul (.v 1) (.v 1))) (.mul (.v 1) (.v 1))) (.add (.mul (.add (.v 0) (.v 0)) (.v 2)) (.neg .one))) (.mul (.neg .one) (.add (.mul (.v 3) (.add (.v 0) (.v 0))) (.neg (.add (.add (.mul (.v 1) (.v 1)) (.mul (.v 1) (.v 1))) (.mul (.v 1) (.v 1))))))) (by kernel_rfl))
theorem slope_chord (E : EC K inv b) {x1 y1 x2 y2 l : R} (hx : x1 ≠ x2) (h : K.mul l (K.sub x2 x1) = K.sub y2 y1) : slope K inv x1 y1 x2 y2 = l := by
  unfold slope
  rw [if_neg hx]
  have hd : K.sub x2 x1 ≠ K.zero := sub_ne fun e => hx e.symm
  have hi := E.F.inv _ hd
  refine E.F.cancel hd ?_
  generalize inv (K.sub x2 x1) = k at hi
  exact comb2 (K := K) (c1 := (K.sub y2 y1)) (c2 := (K.neg K.one)) hi h (ring_id K (envL K [x2, x1, y2, y1, k, l]) (.add (.mul (.add (.v 0) (.neg (.v 1))) (.mul (.add (.v 2) (.neg (.v 3))) (.v 4))) (.neg (.mul (.add (.v 0) (.neg (.v 1))) (.v 5)))) (.add (.mul (.add (.v 2) (.neg (.v 3))) (.add (.mul (.add (.v 0) (.neg (.v 1))) (.v 4)) (.neg .one))) (.mul (.neg .one) (.add (.mul (.v 5) (.add (.v 0) (.neg (.v 1)))) (.neg (.add (.v 2) (.neg (.v 3))))))) (by kernel_rfl))
theorem jto_dbl (E : EC K inv b) {p : Jc R} (hp : On K b (jto K inv p)) : jto K inv (jdbl K p) = ptA K inv (jto K inv p) (jto K inv p) := by
  obtain ⟨x, y, z⟩ := p
  by_cases hz : z = K.zero
  · have h1 : jto K inv (x, y, z) = none := jto_zero hz
    rw [h1]
    refine jto_zero ?_
    show K.mul (K.add y y) z = K.zero
    rw [hz, K.mul_zero]
  · have h1 := jto_some (K := K) (inv := inv) (p := (x, y, z)) hz
    rw [h1] at hp ⊢
    dsimp only at hp ⊢
    have hi := E.F.inv z hz
    generalize inv z = i at hi hp ⊢
    have hY := E.y_ne (show K.mul (K.mul y (K.mul (K.mul i i) i)) (K.mul y (K.mul (K.mul i i) i)) = _ from hp)
    have hy : y ≠ K.zero := fun e => hY (by rw [e, K.zero_mul])
    have hyy := E.dbl_ne hy
    have hz3 : K.mul (K.add y y) z ≠ K.zero := E.F.mul_ne hyy hz
    have h3 := jto_some (K := K) (inv := inv) (p := jdbl K (x, y, z)) hz3
    rw [h3]
    show some (K.mul (dX K (x, y, z)) (K.mul (inv (K.mul (K.add y y) z)) (inv (K.mul (K.add y y) z))), K.mul (dY K (x, y, z)) (K.mul (K.mul (inv (K.mul (K.add y y) z)) (inv (K.mul (K.add y y) z))) (inv (K.mul (K.add y y) z)))) = _
    have hj := E.F.inv _ hz3
    generalize inv (K.mul (K.add y y) z) = j at hj ⊢
    have e : i = K.mul (K.add y y) j := comb2 (K := K) (c1 := (K.neg i)) (c2 := (K.mul (K.add y y) j)) hj hi (ring_id K (envL K [i, y, j, z]) (.add (.v 0) (.neg (.mul (.add (.v 1) (.v 1)) (.v 2)))) (.add (.mul (.neg (.v 0)) (.add (.mul (.mul (.add (.v 1) (.v 1)) (.v 3)) (.v 2)) (.neg .one))) (.mul (.mul (.add (.v 1) (.v 1)) (.v 2)) (.add (.mul (.v 3) (.v 0)) (.neg .one)))) (by kernel_rfl))
    subst e
    have hYY := E.dbl_ne hY
    rw [ptA_sum (fun h => hYY h.2)]
    dsimp only
    have hs := slope_dbl (l := (K.mul (K.add (K.add (K.mul x x) (K.mul x x)) (K.mul x x)) j)) (x := (K.mul x (K.mul (K.mul (K.add y y) j) (K.mul (K.add y y) j)))) E hYY (ring_id K (envL K [x, j, y]) (.mul (.mul (.add (.add (.mul (.v 0) (.v 0)) (.mul (.v 0) (.v 0))) (.mul (.v 0) (.v 0))) (.v 1)) (.add (.mul (.v 2) (.mul (.mul (.mul (.add (.v 2) (.v 2)) (.v 1)) (.mul (.add (.v 2) (.v 2)) (.v 1))) (.mul (.add (.v 2) (.v 2)) (.v 1)))) (.mul (.v 2) (.mul (.mul (.mul (.add (.v 2) (.v 2)) (.v 1)) (.mul (.add (.v 2) (.v 2)) (.v 1))) (.mul (.add (.v 2) (.v 2)) (.v 1)))))) (.add (.add (.mul (.mul (.v 0) (.mul (.mul (.add (.v 2) (.v 2)) (.v 1)) (.mul (.add (.v 2) (.v 2)) (.v 1)))) (.mul (.v 0) (.mul (.mul (.add (.v 2) (.v 2)) (.v 1)) (.mul (.add (.v 2) (.v 2)) (.v 1))))) (.mul (.mul (.v 0) (.mul (.mul (.add (.v 2) (.v 2)) (.v 1)) (.mul (.add (.v 2) (.v 2)) (.v 1)))) (.mul (.v 0) (.mul (.mul (.add (.v 2) (.v 2)) (.v 1)) (.mul (.add (.v 2) (.v 2)) (.v 1)))))) (.mul (.mul (.v 0) (.mul (.mul (.add (.v 2) (.v 2)) (.v 1)) (.mul (.add (.v 2) (.v 2)) (.v 1)))) (.mul (.v 0) (.mul (.mul (.add (.v 2) (.v 2)) (.v 1)) (.mul (.add (.v 2) (.v 2)) (.v 1)))))) (by kernel_rfl))
    rw [hs]
    refine congrArg some (Prod.ext ?_ ?_)
    · exact ring_id K (envL K [x, y, j]) (.mul (.add (.mul (.add (.add (.mul (.v 0) (.v 0)) (.mul (.v 0) (.v 0))) (.mul (.v 0) (.v 0))) (.add (.add (.mul (.v 0) (.v 0)) (.mul (.v 0) (.v 0))) (.mul (.v 0) (.v 0)))) (.neg (.add (.mul (.v 0) (.add (.add (.mul (.v 1) (.v 1)) (.mul (.v 1) (.v 1))) (.add (.mul (.v 1) (.v 1)) (.mul (.v 1) (.v 1))))) (.mul (.v 0) (.add (.add (.mul (.v 1) (.v 1)) (.mul (.v 1) (.v 1))) (.add (.mul (.v 1) (.v 1)) (.mul (.v 1) (.v 1)))))))) (.mul (.v 2) (.v 2))) (.add (.add (.mul (.mul (.add (.add (.mul (.v 0) (.v 0)) (.mul (.v 0) (.v 0))) (.mul (.v 0) (.v 0))) (.v 2)) (.mul (.add (.add (.mul (.v 0) (.v 0)) (.mul (.v 0) (.v 0))) (.mul (.v 0) (.v 0))) (.v 2))) (.neg (.mul (.v 0) (.mul (.mul (.add (.v 1) (.v 1)) (.v 2)) (.mul (.add (.v 1) (.v 1)) (.v 2)))))) (.neg (.mul (.v 0) (.mul (.mul (.add (.v 1) (.v 1)) (.v 2)) (.mul (.add (.v 1) (.v 1)) (.v 2)))))) (by kernel_rfl)
    · exact ring_id K (envL K [x, y, j]) (.mul (.add (.mul (.add (.add (.mul (.v 0) (.v 0)) (.mul (.v 0) (.v 0))) (.mul (.v 0) (.v 0))) (.add (.mul (.v 0) (.add (.add (.mul (.v 1) (.v 1)) (.mul (.v 1) (.v 1))) (.add (.mul (.v 1) (.v 1)) (.mul (.v 1) (.v 1))))) (.neg (.add (.mul (.add (.add (.mul (.v 0) (.v 0)) (.mul (.v 0) (.v 0))) (.mul (.v 0) (.v 0))) (.add (.add (.mul (.v 0) (.v 0)) (.mul (.v 0) (.v 0))) (.mul (.v 0) (.v 0)))) (.neg (.add (.mul (.v 0) (.add (.add (.mul (.v 1) (.v 1)) (.mul (.v 1) (.v 1))) (.add (.mul (.v 1) (.v 1)) (.mul (.v 1) (.v 1))))) (.mul (.v 0) (.add (.add (.mul (.v 1) (.v 1)) (.mul (.v 1) (.v 1))) (.add (.mul (.v 1) (.v 1)) (.mul (.v 1) (.v 1))))))))))) (.neg (.mul (.add (.add (.mul (.v 1) (.v 1)) (.mul (.v 1) (.v 1))) (.add (.mul (.v 1) (.v 1)) (.mul (.v 1) (.v 1)))) (.add (.mul (.v 1) (.v 1)) (.mul (.v 1) (.v 1)))))) (.mul (.mul (.v 2) (.v 2)) (.v 2))) (.add (.mul (.mul (.add (.add (.mul (.v 0) (.v 0)) (.mul (.v 0) (.v 0))) (.mul (.v 0) (.v 0))) (.v 2)) (.add (.mul (.v 0) (.mul (.mul (.add (.v 1) (.v 1)) (.v 2)) (.mul (.add (.v 1) (.v 1)) (.v 2)))) (.neg (.add (.add (.mul (.mul (.add (.add (.mul (.v 0) (.v 0)) (.mul (.v 0) (.v 0))) (.mul (.v 0) (.v 0))) (.v 2)) (.mul (.add (.add (.mul (.v 0) (.v 0)) (.mul (.v 0) (.v 0))) (.mul (.v 0) (.v 0))) (.v 2))) (.neg (.mul (.v 0) (.mul (.mul (.add (.v 1) (.v 1)) (.v 2)) (.mul (.add (.v 1) (.v 1)) (.v 2)))))) (.neg (.mul (.v 0) (.mul (.mul (.add (.v 1) (.v 1)) (.v 2)) (.mul (.add (.v 1) (.v 1)) (.v 2))))))))) (.neg (.mul (.v 1) (.mul (.mul (.mul (.add (.v 1) (.v 1)) (.v 2)) (.mul (.add (.v 1) (.v 1)) (.v 2))) (.mul (.add (.v 1) (.v 1)) (.v 2)))))) (by kernel_rfl)
theorem jto_beside (E : EC K inv b) {p q : Jc R} (hp : p.2.2 ≠ K.zero) (hq : q.2.2 ≠ K.zero) : ∃ w, K.mul (K.mul p.2.2 q.2.2) w = K.one ∧ jto K inv p = some (K.mul (jbx K p q) (K.mul w w), K.mul (jby K p q) (K.mul (K.mul w w) w)) ∧ jto K inv q = some (K.mul (jbx K q p) (K.mul w w), K.mul (jby K q p) (K.mul (K.mul w w) w)) := by
  obtain ⟨x1, y1, z1⟩ := p
  obtain ⟨x2, y2, z2⟩ := q
  have h1 := E.F.inv z1 hp
  have h2 := E.F.inv z2 hq
  rw [jto_some hp, jto_some hq]
  dsimp only at *
  generalize inv z1 = i at h1 ⊢
  generalize inv z2 = j at h2 ⊢
  refine ⟨K.mul i j, ?_, congrArg some (Prod.ext ?_ ?_), congrArg some (Prod.ext ?_ ?_)⟩
  · exact comb2 (K := K) (c1 := (K.mul z2 j)) (c2 := K.one) h1 h2 (ring_id K (envL K [z1, z2, i, j]) (.add (.mul (.mul (.v 0) (.v 1)) (.mul (.v 2) (.v 3))) (.neg .one)) (.add (.mul (.mul (.v 1) (.v 3)) (.add (.mul (.v 0) (.v 2)) (.neg .one))) (.mul .one (.add (.mul (.v 1) (.v 3)) (.neg .one)))) (by kernel_rfl))
  · exact comb1 (K := K) (c1 := (K.mul (K.neg (K.mul x1 (K.mul i i))) (K.add (K.mul z2 j) K.one))) h2 (ring_id K (envL K [x1, i, z2, j]) (.add (.mul (.v 0) (.mul (.v 1) (.v 1))) (.neg (.mul (.mul (.v 0) (.mul (.v 2) (.v 2))) (.mul (.mul (.v 1) (.v 3)) (.mul (.v 1) (.v 3)))))) (.mul (.mul (.neg (.mul (.v 0) (.mul (.v 1) (.v 1)))) (.add (.mul (.v 2) (.v 3)) .one)) (.add (.mul (.v 2) (.v 3)) (.neg .one))) (by kernel_rfl))
  · exact comb1 (K := K) (c1 := (K.mul (K.neg (K.mul y1 (K.mul (K.mul i i) i))) (K.add (K.add (K.mul (K.mul z2 j) (K.mul z2 j)) (K.mul z2 j)) K.one))) h2 (ring_id K (envL K [y1, i, z2, j]) (.add (.mul (.v 0) (.mul (.mul (.v 1) (.v 1)) (.v 1))) (.neg (.mul (.mul (.v 0) (.mul (.mul (.v 2) (.v 2)) (.v 2))) (.mul (.mul (.mul (.v 1) (.v 3)) (.mul (.v 1) (.v 3))) (.mul (.v 1) (.v 3)))))) (.mul (.mul (.neg (.mul (.v 0) (.mul (.mul (.v 1) (.v 1)) (.v 1)))) (.add (.add (.mul (.mul (.v 2) (.v 3)) (.mul (.v 2) (.v 3))) (.mul (.v 2) (.v 3))) .one)) (.add (.mul (.v 2) (.v 3)) (.neg .one))) (by kernel_rfl))
  · exact comb1 (K := K) (c1 := (K.mul (K.neg (K.mul x2 (K.mul j j))) (K.add (K.mul z1 i) K.one))) h1 (ring_id K (envL K [x2, j, z1, i]) (.add (.mul (.v 0) (.mul (.v 1) (.v 1))) (.neg (.mul (.mul (.v 0) (.mul (.v 2) (.v 2))) (.mul (.mul (.v 3) (.v 1)) (.mul (.v 3) (.v 1)))))) (.mul (.mul (.neg (.mul (.v 0) (.mul (.v 1) (.v 1)))) (.add (.mul (.v 2) (.v 3)) .one)) (.add (.mul (.v 2) (.v 3)) (.neg .one))) (by kernel_rfl))
  · exact comb1 (K := K) (c1 := (K.mul (K.neg (K.mul y2 (K.mul (K.mul j j) j))) (K.add (K.add (K.mul (K.mul z1 i) (K.mul z1 i)) (K.mul z1 i)) K.one))) h1 (ring_id K (envL K [y2, j, z1, i]) (.add (.mul (.v 0) (.mul (.mul (.v 1) (.v 1)) (.v 1))) (.neg (.mul (.mul (.v 0) (.mul (.mul (.v 2) (.v 2)) (.v 2))) (.mul (.mul (.mul (.v 3) (.v 1)) (.mul (.v 3) (.v 1))) (.mul (.v 3) (.v 1)))))) (.mul (.mul (.neg (.mul (.v 0) (.mul (.mul (.v 1) (.v 1)) (.v 1)))) (.add (.add (.mul (.mul (.v 2) (.v 3)) (.mul (.v 2) (.v 3))) (.mul (.v 2) (.v 3))) .one)) (.add (.mul (.v 2) (.v 3)) (.neg .one))) (by kernel_rfl))
/-- the sum by the chord, over one denominator -/
theorem chord_eq (E : EC K inv b) {px py qx qy w zz j : R} (hw : K.mul zz w = K.one) (ha : K.sub qx px ≠ K.zero) (hj : K.mul (K.mul zz (K.sub qx px)) j = K.one) :
    ptA K inv (some (K.mul px (K.mul w w), K.mul py (K.mul (K.mul w w) w))) (some (K.mul qx (K.mul w w), K.mul qy (K.mul (K.mul w w) w))) = some (K.mul (sX K px (K.sub qx px) (K.sub qy py)) (K.mul j j), K.mul (sY K px py (K.sub qx px) (K.sub qy py)) (K.mul (K.mul j j) j)) := by
  have hw0 : w ≠ K.zero := fun e => E.F.ne (by rw [← hw, e, K.mul_zero])
  have e : w = K.mul (K.sub qx px) j := comb2 (K := K) (c1 := (K.neg w)) (c2 := (K.mul (K.sub qx px) j)) hj hw (ring_id K (envL K [w, qx, px, j, zz]) (.add (.v 0) (.neg (.mul (.add (.v 1) (.neg (.v 2))) (.v 3)))) (.add (.mul (.neg (.v 0)) (.add (.mul (.mul (.v 4) (.add (.v 1) (.neg (.v 2)))) (.v 3)) (.neg .one))) (.mul (.mul (.add (.v 1) (.neg (.v 2))) (.v 3)) (.add (.mul (.v 4) (.v 0)) (.neg .one)))) (by kernel_rfl))
  have hx : K.mul px (K.mul w w) ≠ K.mul qx (K.mul w w) := fun h => by
    refine E.F.mul_ne ha (E.F.mul_ne hw0 hw0) ?_
    have : K.mul (K.sub qx px) (K.mul w w) = K.sub (K.mul qx (K.mul w w)) (K.mul px (K.mul w w)) := ring_id K (envL K [qx, px, w]) (.mul (.add (.v 0) (.neg (.v 1))) (.mul (.v 2) (.v 2))) (.add (.mul (.v 0) (.mul (.v 2) (.v 2))) (.neg (.mul (.v 1) (.mul (.v 2) (.v 2))))) (by kernel_rfl)
    rw [this, h]
    exact K.add_neg _
  rw [ptA_sum (fun h => hx h.1)]
  dsimp only
  have hs := slope_chord (l := (K.mul (K.sub qy py) j)) (y1 := K.mul py (K.mul (K.mul w w) w)) (y2 := K.mul qy (K.mul (K.mul w w) w)) E hx (by
    subst e
    exact ring_id K (envL K [qy, py, j, qx, px]) (.mul (.mul (.add (.v 0) (.neg (.v 1))) (.v 2)) (.add (.mul (.v 3) (.mul (.mul (.add (.v 3) (.neg (.v 4))) (.v 2)) (.mul (.add (.v 3) (.neg (.v 4))) (.v 2)))) (.neg (.mul (.v 4) (.mul (.mul (.add (.v 3) (.neg (.v 4))) (.v 2)) (.mul (.add (.v 3) (.neg (.v 4))) (.v 2))))))) (.add (.mul (.v 0) (.mul (.mul (.mul (.add (.v 3) (.neg (.v 4))) (.v 2)) (.mul (.add (.v 3) (.neg (.v 4))) (.v 2))) (.mul (.add (.v 3) (.neg (.v 4))) (.v 2)))) (.neg (.mul (.v 1) (.mul (.mul (.mul (.add (.v 3) (.neg (.v 4))) (.v 2)) (.mul (.add (.v 3) (.neg (.v 4))) (.v 2))) (.mul (.add (.v 3) (.neg (.v 4))) (.v 2)))))) (by kernel_rfl))
  rw [hs]
  subst e
  refine congrArg some (Prod.ext ?_ ?_)
  · exact ring_id K (envL K [qy, py, j, px, qx]) (.add (.add (.mul (.mul (.add (.v 0) (.neg (.v 1))) (.v 2)) (.mul (.add (.v 0) (.neg (.v 1))) (.v 2))) (.neg (.mul (.v 3) (.mul (.mul (.add (.v 4) (.neg (.v 3))) (.v 2)) (.mul (.add (.v 4) (.neg (.v 3))) (.v 2)))))) (.neg (.mul (.v 4) (.mul (.mul (.add (.v 4) (.neg (.v 3))) (.v 2)) (.mul (.add (.v 4) (.neg (.v 3))) (.v 2)))))) (.mul (.add (.add (.mul (.add (.v 0) (.neg (.v 1))) (.add (.v 0) (.neg (.v 1)))) (.neg (.mul (.mul (.add (.v 4) (.neg (.v 3))) (.add (.v 4) (.neg (.v 3)))) (.add (.v 4) (.neg (.v 3)))))) (.neg (.add (.mul (.v 3) (.mul (.add (.v 4) (.neg (.v 3))) (.add (.v 4) (.neg (.v 3))))) (.mul (.v 3) (.mul (.add (.v 4) (.neg (.v 3))) (.add (.v 4) (.neg (.v 3)))))))) (.mul (.v 2) (.v 2))) (by kernel_rfl)
  · exact ring_id K (envL K [qy, py, j, px, qx]) (.add (.mul (.mul (.add (.v 0) (.neg (.v 1))) (.v 2)) (.add (.mul (.v 3) (.mul (.mul (.add (.v 4) (.neg (.v 3))) (.v 2)) (.mul (.add (.v 4) (.neg (.v 3))) (.v 2)))) (.neg (.add (.add (.mul (.mul (.add (.v 0) (.neg (.v 1))) (.v 2)) (.mul (.add (.v 0) (.neg (.v 1))) (.v 2))) (.neg (.mul (.v 3) (.mul (.mul (.add (.v 4) (.neg (.v 3))) (.v 2)) (.mul (.add (.v 4) (.neg (.v 3))) (.v 2)))))) (.neg (.mul (.v 4) (.mul (.mul (.add (.v 4) (.neg (.v 3))) (.v 2)) (.mul (.add (.v 4) (.neg (.v 3))) (.v 2))))))))) (.neg (.mul (.v 1) (.mul (.mul (.mul (.add (.v 4) (.neg (.v 3))) (.v 2)) (.mul (.add (.v 4) (.neg (.v 3))) (.v 2))) (.mul (.add (.v 4) (.neg (.v 3))) (.v 2)))))) (.mul (.add (.mul (.add (.v 0) (.neg (.v 1))) (.add (.mul (.v 3) (.mul (.add (.v 4) (.neg (.v 3))) (.add (.v 4) (.neg (.v 3))))) (.neg (.add (.add (.mul (.add (.v 0) (.neg (.v 1))) (.add (.v 0) (.neg (.v 1)))) (.neg (.mul (.mul (.add (.v 4) (.neg (.v 3))) (.add (.v 4) (.neg (.v 3)))) (.add (.v 4) (.neg (.v 3)))))) (.neg (.add (.mul (.v 3) (.mul (.add (.v 4) (.neg (.v 3))) (.add (.v 4) (.neg (.v 3))))) (.mul (.v 3) (.mul (.add (.v 4) (.neg (.v 3))) (.add (.v 4) (.neg (.v 3))))))))))) (.neg (.mul (.v 1) (.mul (.mul (.add (.v 4) (.neg (.v 3))) (.add (.v 4) (.neg (.v 3)))) (.add (.v 4) (.neg (.v 3))))))) (.mul (.mul (.v 2) (.v 2)) (.v 2))) (by kernel_rfl)
theorem sq_opp (E : EC K inv b) {y1 y2 : R} (h : K.mul y1 y1 = K.mul y2 y2) (hn : y1 ≠ y2) : K.add y1 y2 = K.zero := by
  refine E.F.zd (a := K.sub y1 y2) ?_ (sub_ne hn)
  have : K.mul (K.sub y1 y2) (K.add y1 y2) = K.sub (K.mul y1 y1) (K.mul y2 y2) := ring_id K (envL K [y1, y2]) (.mul (.add (.v 0) (.neg (.v 1))) (.add (.v 0) (.v 1))) (.add (.mul (.v 0) (.v 0)) (.neg (.mul (.v 1) (.v 1)))) (by kernel_rfl)
  rw [this, h]
  exact K.add_neg _
theorem jto_sum (E : EC K inv b) {p q : Jc R} (hp : On K b (jto K inv p)) (hq : On K b (jto K inv q)) (h1 : p.2.2 ≠ K.zero) (h2 : q.2.2 ≠ K.zero) (hn : ¬ (jac K p q = K.zero ∧ jup K p q = K.zero)) :
    jto K inv (jsum K p q) = ptA K inv (jto K inv p) (jto K inv q) := by
  obtain ⟨w, hw, e1, e2⟩ := jto_beside (K := K) (inv := inv) E h1 h2
  rw [e1] at hp
  rw [e2] at hq
  rw [e1, e2]
  by_cases ha : jac K p q = K.zero
  · have hx : jbx K q p = jbx K p q := sub_eq_zero ha
    have hu : jup K p q ≠ K.zero := fun e => hn ⟨ha, e⟩
    have hw0 : w ≠ K.zero := fun e => E.F.ne (by rw [← hw, e, K.mul_zero])
    have hy : K.mul (jby K p q) (K.mul (K.mul w w) w) ≠ K.mul (jby K q p) (K.mul (K.mul w w) w) := fun h => by
      refine E.F.mul_ne hu (E.F.mul_ne (E.F.mul_ne hw0 hw0) hw0) ?_
      show K.mul (K.sub (jby K q p) (jby K p q)) _ = _
      have e0 : ∀ s t c : R, K.mul (K.sub s t) c = K.sub (K.mul s c) (K.mul t c) := fun s t c => ring_id K (envL K [s, t, c]) (.mul (.add (.v 0) (.neg (.v 1))) (.v 2)) (.add (.mul (.v 0) (.v 2)) (.neg (.mul (.v 1) (.v 2)))) (by kernel_rfl)
      rw [e0, h]
      exact K.add_neg _
    rw [hx] at hq ⊢
    have ho := sq_opp (y1 := K.mul (jby K p q) (K.mul (K.mul w w) w)) (y2 := K.mul (jby K q p) (K.mul (K.mul w w) w)) E ((show K.mul _ _ = _ from hp).trans (show K.mul _ _ = _ from hq).symm) hy
    rw [ptA_opp (p := (K.mul (jbx K p q) (K.mul w w), K.mul (jby K p q) (K.mul (K.mul w w) w))) (q := (K.mul (jbx K p q) (K.mul w w), K.mul (jby K q p) (K.mul (K.mul w w) w))) ⟨rfl, ho⟩]
    refine jto_zero ?_
    show K.mul (K.mul p.2.2 q.2.2) (jac K p q) = K.zero
    rw [ha, K.mul_zero]
  · have hz : K.mul (K.mul p.2.2 q.2.2) (jac K p q) ≠ K.zero := E.F.mul_ne (E.F.mul_ne h1 h2) ha
    have hj := E.F.inv _ hz
    refine (jto_some (p := jsum K p q) hz).trans ?_
    exact (chord_eq E hw ha hj).symm
theorem jto_plus (E : EC K inv b) {p q : Jc R} (hp : On K b (jto K inv p)) (hq : On K b (jto K inv q)) : jto K inv (jplus K p q) = ptA K inv (jto K inv p) (jto K inv q) := by
  unfold jplus
  by_cases h1 : p.2.2 = K.zero
  · rw [if_pos h1, jto_zero h1]; rfl
  · rw [if_neg h1]
    by_cases h2 : q.2.2 = K.zero
    · rw [if_pos h2, jto_zero h2, jto_some h1]; rfl
    · rw [if_neg h2]
      by_cases h3 : jac K p q = K.zero ∧ jup K p q = K.zero
      · rw [if_pos h3]
        obtain ⟨w, hw, e1, e2⟩ := jto_beside (K := K) (inv := inv) E h1 h2
        have hx : jbx K q p = jbx K p q := sub_eq_zero h3.1
        have hy : jby K q p = jby K p q := sub_eq_zero h3.2
        rw [jto_dbl E hp]
        rw [hx, hy] at e2
        rw [e2, e1]
      · rw [if_neg h3]
        exact jto_sum E hp hq h1 h2 h3
theorem jto_rplus (E : EC K inv b) {p q : Jc R} (hp : On K b (jto K inv p)) (hq : On K b (jto K inv q)) : jto K inv (rplus K p q) = ptA K inv (jto K inv p) (jto K inv q) := by
  rw [← jto_plus E hp hq]
  unfold rplus jplus
  by_cases h1 : p.2.2 = K.zero
  · rw [if_pos h1, if_pos h1]
  · rw [if_neg h1, if_neg h1]
    by_cases h2 : q.2.2 = K.zero
    · rw [if_pos h2, if_pos h2]
    · rw [if_neg h2, if_neg h2]
      by_cases h3 : jac K p q = K.zero ∧ jup K p q = K.zero
      · rw [if_pos h3, if_pos h3]
      · rw [if_neg h3, if_neg h3]
        by_cases h4 : jac K p q = K.zero
        · rw [if_pos h4, jto_zero rfl]
          refine (jto_zero ?_).symm
          show K.mul (K.mul p.2.2 q.2.2) (jac K p q) = K.zero
          rw [h4, K.mul_zero]
        · rw [if_neg h4]
def jneg (K : CR R) (p : Jc R) : Jc R := (p.1, K.sub K.zero p.2.1, p.2.2)
theorem jto_neg (p : Jc R) : jto K inv (jneg K p) = ptN K (jto K inv p) := by
  by_cases h : p.2.2 = K.zero
  · rw [jto_zero h, jto_zero (p := jneg K p) h]; rfl
  · rw [jto_some h, jto_some (p := jneg K p) h]
    refine congrArg some (Prod.ext rfl ?_)
    show K.mul (K.sub K.zero p.2.1) _ = K.neg (K.mul p.2.1 _)
    rw [← K.neg_mul]
    congr 1
    exact K.zero_add _
end
end Go.Proofs.YtaingnhikbaplaaGreat.Ex
namespace Go.Proofs.YtaingnhikbaplaaGreat.Ex
set_option linter.unusedVariables false
set_option linter.unusedSimpArgs false
open Go.RowKit

/-- a number below p, as it comes in -/
def vp : At → Option (List Prop × Fq)
  | .f x => some ([], x)
  | .q x => some ([wv x < FP.M], m1 x)
  | .c _ => none
/-- d: is it below p? -/
def gChk (d : Bool) : Ent
  | [.v (.im (.int .i64 (.ofNat 1))), .v (.fl l)] => match rq1 l with
    | some x => bif d then some ([wv x < FP.M], .one (.im (.int .i64 0))) else some ([¬ wv x < FP.M], .one (.im (.int .i64 21)))
    | none => none
  | _ => none
theorem gChk_ok (d : Bool) : ∀ cs pre r, gChk d cs = some (pre, r) → allP pre → ∀ (args : List Value) (w : World), CAs w cs args → Good Tryz.prog 135 r args w := by
  intro cs pre r hg hp args w ha
  unfold gChk at hg
  split at hg
  · rename_i l
    split at hg
    · rename_i x hx
      match args, ha with
      | [v, u], ha =>
        have h1 : v = .int .i64 1 := ha.1
        have h2 : u = .agg (flat l).toArray := ha.2.1
        rw [rq1_ok l x hx] at h2
        subst h1; subst h2
        cases d
        · cases hg
          exact fcheck_err 1 21 _ _ _ _ (fw_ok x) (Or.inr ⟨FP, fld1, hp.1, rfl⟩) w
        · cases hg
          exact fcheck_ok 1 FP fld1 _ _ _ _ (fw_ok x) hp.1 w
      | [], ha => exact ha.elim
      | [_], ha => exact ha.2.elim
      | _ :: _ :: _ :: _, ha => exact ha.2.2.elim
    · cases hg
  · cases hg

end Go.Proofs.YtaingnhikbaplaaGreat.Ex
