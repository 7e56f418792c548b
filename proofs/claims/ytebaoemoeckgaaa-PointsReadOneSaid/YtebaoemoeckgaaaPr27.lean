/-
  The points of y^2 = x^3 + b over a field are a commutative group: by the classes of their ideals. Conditions: none.
  The points of y^2 = x^3 + b over a field, with none of order two, are a commutative group. Conditions: none.
-/
import Derived.Test.YtebaoemoeckgaaaPr26
namespace Go.Proofs.Ytebaoemoeckgaaa.Ex
set_option linter.unusedVariables false
set_option linter.unusedSimpArgs false
open Classical
section
variable {R : Type} {K : CR R} {inv : R → R}
/-- the curve's ring: polynomials and polynomials times Y -/
def crd (K : CR R) (b : R) : CR (Pol K × Pol K) := (pol (K := K)).sq (qP b)
def cX : Pol K × Pol K := (pX, pol.zero)
def cY : Pol K × Pol K := (pol.zero, pol.one)
def cc (k : R) : Pol K × Pol K := (pco k, pol.zero)
variable (b : R)
theorem cc_add (x y : R) : (cc (K.add x y) : Pol K × Pol K) = (crd K b).add (cc x) (cc y) := Prod.ext (pco_add x y) (pol.zero_add _).symm
theorem cc_neg (x : R) : (cc (K.neg x) : Pol K × Pol K) = (crd K b).neg (cc x) := Prod.ext (pco_neg x) (neg_zero pol).symm
theorem cc_sub (x y : R) : (cc (K.sub x y) : Pol K × Pol K) = (crd K b).sub (cc x) (cc y) := by
  show cc (K.add _ _) = (crd K b).add _ _
  rw [cc_add b, cc_neg b]
theorem cc_mul (x y : R) : (cc (K.mul x y) : Pol K × Pol K) = (crd K b).mul (cc x) (cc y) := by
  refine Prod.ext ?_ ?_
  · show pco (K.mul x y) = pol.add (pol.mul (pco x) (pco y)) (pol.mul (qP b) (pol.mul pol.zero pol.zero))
    rw [pol.mul_zero, pol.mul_zero, pol.add_zero, pco_mul]
  · show pol.zero = pol.add (pol.mul (pco x) pol.zero) (pol.mul pol.zero (pco y))
    rw [pol.mul_zero, pol.zero_mul, pol.add_zero]
theorem cc_one : (cc K.one : Pol K × Pol K) = (crd K b).one := rfl
theorem c_eq : (crd K b).mul cY cY = (crd K b).add ((crd K b).mul cX ((crd K b).mul cX cX)) (cc b) := by
  refine Prod.ext ?_ ?_
  · show pol.add (pol.mul pol.zero pol.zero) (pol.mul (qP b) (pol.mul pol.one pol.one)) = pol.add (pol.add (pol.mul pX (pol.add (pol.mul pX pX) (pol.mul (qP b) (pol.mul pol.zero pol.zero)))) (pol.mul (qP b) (pol.mul pol.zero (pol.add (pol.mul pX pol.zero) (pol.mul pol.zero pX))))) (pco b)
    simp only [pol.mul_zero, pol.zero_mul, pol.add_zero, pol.zero_add, pol.mul_one]
    rfl
  · show pol.add (pol.mul pol.zero pol.one) (pol.mul pol.one pol.zero) = pol.add (pol.add (pol.mul pX (pol.add (pol.mul pX pol.zero) (pol.mul pol.zero pX))) (pol.mul pol.zero (pol.add (pol.mul pX pX) (pol.mul (qP b) (pol.mul pol.zero pol.zero))))) pol.zero
    simp only [pol.mul_zero, pol.zero_mul, pol.add_zero, pol.zero_add, pol.mul_one]
/-- the norm down to polynomials -/
def nrm (f : Pol K × Pol K) : Pol K := pol.sub (pol.mul f.1 f.1) (pol.mul (qP b) (pol.mul f.2 f.2))
theorem nrm_mul (f g : Pol K × Pol K) : nrm b ((crd K b).mul f g) = pol.mul (nrm b f) (nrm b g) :=
  ring_id pol (envL pol [f.1, g.1, qP b, f.2, g.2]) (.add (.mul (.add (.mul (.v 0) (.v 1)) (.mul (.v 2) (.mul (.v 3) (.v 4)))) (.add (.mul (.v 0) (.v 1)) (.mul (.v 2) (.mul (.v 3) (.v 4))))) (.neg (.mul (.v 2) (.mul (.add (.mul (.v 0) (.v 4)) (.mul (.v 3) (.v 1))) (.add (.mul (.v 0) (.v 4)) (.mul (.v 3) (.v 1))))))) (.mul (.add (.mul (.v 0) (.v 0)) (.neg (.mul (.v 2) (.mul (.v 3) (.v 3))))) (.add (.mul (.v 1) (.v 1)) (.neg (.mul (.v 2) (.mul (.v 4) (.v 4)))))) (by kernel_rfl)
theorem nrm_dg (F : FD K inv) (f : Pol K × Pol K) (h : f ≠ (crd K b).zero) : ∃ d, dg (nrm b f) d ∧ d ≠ 1 := by
  have hq : dg (qP b : Pol K) 3 := dg_qP F b
  by_cases h2 : f.2 = pol.zero
  · have h1 : f.1 ≠ pol.zero := fun e => h (Prod.ext e h2)
    obtain ⟨n, hn⟩ := dg_ex _ h1
    refine ⟨n + n, ?_, by omega⟩
    unfold nrm
    rw [h2, pol.mul_zero, pol.mul_zero]
    show dg (pol.add _ (pol.neg pol.zero)) _
    rw [neg_zero, pol.add_zero]
    exact dg_mul F hn hn
  · obtain ⟨m, hm⟩ := dg_ex _ h2
    have hr := dg_mul F hq (dg_mul F hm hm)
    by_cases h1 : f.1 = pol.zero
    · refine ⟨3 + (m + m), ?_, by omega⟩
      unfold nrm
      rw [h1, pol.mul_zero]
      show dg (pol.add _ _) _
      rw [pol.zero_add]
      exact dg_neg hr
    · obtain ⟨n, hn⟩ := dg_ex _ h1
      have hl := dg_mul F hn hn
      have hr' := dg_neg hr
      rcases Nat.lt_or_ge (n + n) (3 + (m + m)) with q | q
      · refine ⟨3 + (m + m), ?_, by omega⟩
        show dg (pol.add _ _) _
        rw [pol.add_comm]
        exact dg_add_r hr' fun i hi => hl.2 i (by omega)
      · refine ⟨n + n, ?_, by omega⟩
        exact dg_add_r hl fun i hi => hr'.2 i (by omega)
theorem crd_dom (F : FD K inv) : Dom (crd K b) := by
  refine ⟨fun e => F.ne (congrArg (fun z : Pol K × Pol K => z.1.1 0) e), fun f g hf hg e => ?_⟩
  obtain ⟨n, hn, _⟩ := nrm_dg b F f hf
  obtain ⟨m, hm, _⟩ := nrm_dg b F g hg
  have h := dg_ne (dg_mul F hn hm)
  rw [← nrm_mul, e] at h
  refine h ?_
  show pol.sub (pol.mul pol.zero pol.zero) (pol.mul (qP b) (pol.mul pol.zero pol.zero)) = _
  rw [pol.mul_zero, pol.mul_zero]
  exact pol.add_neg _
theorem dom_cancel {A : Type} {C : CR A} (D : Dom C) {a s t : A} (ha : a ≠ C.zero) (e : C.mul a s = C.mul a t) : s = t := by
  apply eq_of_neg (K := C)
  by_cases h : C.add s (C.neg t) = C.zero
  · exact h
  · exact absurd (by rw [C.mul_add, C.mul_neg, e, C.add_neg]) (D.2 _ _ ha h)
def univ {A : Type} : A → Prop := fun _ => True
theorem univ_idl {A : Type} (C : CR A) : Idl C univ := ⟨fun _ _ _ _ => trivial, fun _ _ _ => trivial⟩
theorem conj_mul (f : Pol K × Pol K) : (crd K b).mul f (f.1, pol.neg f.2) = (nrm b f, pol.zero) := by
  refine Prod.ext ?_ ?_
  · exact ring_id pol (envL pol [f.1, qP b, f.2]) (.add (.mul (.v 0) (.v 0)) (.mul (.v 1) (.mul (.v 2) (.neg (.v 2))))) (.add (.mul (.v 0) (.v 0)) (.neg (.mul (.v 1) (.mul (.v 2) (.v 2))))) (by kernel_rfl)
  · exact ring_id pol (envL pol [f.1, f.2]) (.add (.mul (.v 0) (.neg (.v 1))) (.mul (.v 1) (.v 0))) .zero (by kernel_rfl)
theorem qP_split {x y : R} (h : K.mul y y = K.add (K.mul x (K.mul x x)) b) : (qP b : Pol K) = pol.add (pol.mul (pco y) (pco y)) (pol.mul (pol.sub pX (pco x)) (pol.add (pol.mul pX pX) (pol.add (pol.mul (pco x) pX) (pol.mul (pco x) (pco x))))) := by
  have e : pol.mul (pco y) (pco y) = pol.add (pol.mul (pco x) (pol.mul (pco x) (pco x))) (pco b : Pol K) := by
    rw [← pco_mul, ← pco_mul, ← pco_mul, ← pco_add, h]
  rw [e]
  exact ring_id pol (envL pol [pX, pco b, pco x]) (.add (.mul (.v 0) (.mul (.v 0) (.v 0))) (.v 1)) (.add (.add (.mul (.v 2) (.mul (.v 2) (.v 2))) (.v 1)) (.mul (.add (.v 0) (.neg (.v 2))) (.add (.mul (.v 0) (.v 0)) (.add (.mul (.v 2) (.v 0)) (.mul (.v 2) (.v 2)))))) (by kernel_rfl)
/-- no point's ideal is principal -/
theorem pt_ne (F : FD K inv) {x y : R} (h : K.mul y y = K.add (K.mul x (K.mul x x)) b) : ¬ Eqv (crd K b) (op (crd K b) cX cY (cc x) (cc y) univ) univ := by
  rintro ⟨a, e, ha, he, h1, h2⟩
  have D := crd_dom (K := K) b F
  obtain ⟨f, hf, e1⟩ := h2 (crd K b).one trivial
  rw [(crd K b).mul_one] at e1
  -- e = a f
  have hm : ∀ g, op (crd K b) cX cY (cc x) (cc y) univ g → ∃ t, g = (crd K b).mul f t := fun g hg => by
    obtain ⟨t, _, e2⟩ := h1 g hg
    rw [← e1, (crd K b).mul_assoc] at e2
    exact ⟨t, dom_cancel D ha e2⟩
  have sz : ∀ z : Pol K × Pol K, (crd K b).sub z (crd K b).zero = z := fun z => by
    show (crd K b).add z ((crd K b).neg _) = z
    rw [neg_zero, (crd K b).add_zero]
  obtain ⟨t, ht⟩ := hm ((crd K b).sub cX (cc x)) ⟨(crd K b).one, (crd K b).zero, trivial, trivial, by rw [(crd K b).mul_one, (crd K b).mul_zero, (crd K b).add_zero]⟩
  obtain ⟨t', ht'⟩ := hm ((crd K b).sub cY (cc y)) ⟨(crd K b).zero, (crd K b).one, trivial, trivial, by rw [(crd K b).mul_one, (crd K b).mul_zero, (crd K b).zero_add]⟩
  have hX : (crd K b).sub cX (cc x) = (pol.sub pX (pco x), pol.zero) := Prod.ext rfl (by show pol.add pol.zero (pol.neg pol.zero) = _; rw [neg_zero, pol.add_zero])
  have hXn : (crd K b).sub cX (cc x) ≠ (crd K b).zero := fun q => dg_ne (dg_lin (K := K) F x) (congrArg Prod.fst q)
  have hf0 : f ≠ (crd K b).zero := fun q => hXn (by rw [ht, q, (crd K b).zero_mul])
  have ht0 : t ≠ (crd K b).zero := fun q => hXn (by rw [ht, q, (crd K b).mul_zero])
  obtain ⟨n, hn, n1⟩ := nrm_dg b F f hf0
  obtain ⟨m, hm', m1⟩ := nrm_dg b F t ht0
  have hnm : n + m = 2 := by
    have e3 := dg_mul F hn hm'
    rw [← nrm_mul, ← ht, hX] at e3
    have e4 : nrm b (pol.sub pX (pco x), pol.zero) = pol.mul (pol.sub pX (pco x)) (pol.sub (pX : Pol K) (pco x)) := by
      show pol.add (pol.mul _ _) (pol.neg (pol.mul _ (pol.mul pol.zero pol.zero))) = _
      rw [pol.mul_zero, pol.mul_zero, neg_zero, pol.add_zero]
    rw [e4] at e3
    exact dg_one e3 (dg_mul F (dg_lin F x) (dg_lin F x))
  have hc : ∀ p : Pol K, dg p 0 → p = pco (p.1 0) := fun p hp => Pol.ext fun i => by
    cases i with
    | zero => rfl
    | succ i => exact hp.2 _ (by omega)
  have h02 : n = 0 ∨ m = 0 := by omega
  rcases h02 with q0 | q0
  · subst q0
    -- the norm lies in the ideal
    obtain ⟨s, r, _, _, e5⟩ := (op_idl (univ_idl (crd K b)) (cc x) (cc y)).mul f (f.1, pol.neg f.2) hf
    rw [(crd K b).mul_comm, conj_mul, hX] at e5
    have c1 : nrm b f = pol.add (pol.add (pol.mul (pol.sub pX (pco x)) s.1) (pol.mul (qP b) (pol.mul pol.zero s.2))) (pol.add (pol.mul (pol.add pol.zero (pol.neg (pco y))) r.1) (pol.mul (qP b) (pol.mul (pol.add pol.one (pol.neg pol.zero)) r.2))) := congrArg Prod.fst e5
    have c2 : pol.zero = pol.add (pol.add (pol.mul (pol.sub pX (pco x)) s.2) (pol.mul pol.zero s.1)) (pol.add (pol.mul (pol.add pol.zero (pol.neg (pco y))) r.2) (pol.mul (pol.add pol.one (pol.neg pol.zero)) r.1)) := congrArg Prod.snd e5
    have hs := qP_split b h
    refine hn.1 (lin_const F (c := x) (h := (pol.add s.1 (pol.add (pol.mul (pol.add (pol.mul pX pX) (pol.add (pol.mul (pco x) pX) (pol.mul (pco x) (pco x)))) r.2) (pol.mul (pco y) s.2)))) ?_)
    rw [← hc _ hn, c1]
    refine Eq.symm ?_
    exact comb2 (K := pol) (c1 := (pco y)) (c2 := r.2) c2 hs (ring_id pol (envL pol [pX, pco x, s.1, qP b, s.2, pco y, r.1, r.2]) (.add (.add (.add (.mul (.add (.v 0) (.neg (.v 1))) (.v 2)) (.mul (.v 3) (.mul .zero (.v 4)))) (.add (.mul (.add .zero (.neg (.v 5))) (.v 6)) (.mul (.v 3) (.mul (.add .one (.neg .zero)) (.v 7))))) (.neg (.mul (.add (.v 0) (.neg (.v 1))) (.add (.v 2) (.add (.mul (.add (.mul (.v 0) (.v 0)) (.add (.mul (.v 1) (.v 0)) (.mul (.v 1) (.v 1)))) (.v 7)) (.mul (.v 5) (.v 4))))))) (.add (.mul (.v 5) (.add .zero (.neg (.add (.add (.mul (.add (.v 0) (.neg (.v 1))) (.v 4)) (.mul .zero (.v 2))) (.add (.mul (.add .zero (.neg (.v 5))) (.v 7)) (.mul (.add .one (.neg .zero)) (.v 6))))))) (.mul (.v 7) (.add (.v 3) (.neg (.add (.mul (.v 5) (.v 5)) (.mul (.add (.v 0) (.neg (.v 1))) (.add (.mul (.v 0) (.v 0)) (.add (.mul (.v 1) (.v 0)) (.mul (.v 1) (.v 1)))))))))) (by kernel_rfl))
  · subst q0
    have e6 : (crd K b).mul ((crd K b).sub cX (cc x)) ((crd K b).mul t' (t.1, pol.neg t.2)) = (crd K b).mul ((crd K b).sub cY (cc y)) (nrm b t, pol.zero) := by
      rw [← conj_mul, ht, ht']
      generalize ((t.1, pol.neg t.2) : Pol K × Pol K) = w
      exact ring_id (crd K b) (envL (crd K b) [f, t, t', w]) (.mul (.mul (.v 0) (.v 1)) (.mul (.v 2) (.v 3))) (.mul (.mul (.v 0) (.v 2)) (.mul (.v 1) (.v 3))) (by kernel_rfl)
    rw [hX] at e6
    generalize (crd K b).mul t' (t.1, pol.neg t.2) = w at e6
    have c2 : pol.add (pol.mul (pol.sub pX (pco x)) w.2) (pol.mul pol.zero w.1) = pol.add (pol.mul (pol.add pol.zero (pol.neg (pco y))) pol.zero) (pol.mul (pol.add pol.one (pol.neg pol.zero)) (nrm b t)) := congrArg Prod.snd e6
    rw [pol.zero_mul, pol.add_zero, pol.mul_zero, pol.zero_add, neg_zero, pol.add_zero, pol.one_mul, hc _ hm'] at c2
    exact hm'.1 (lin_const F c2)
end
end Go.Proofs.Ytebaoemoeckgaaa.Ex
namespace Go.Proofs.Ytebaoemoeckgaaa.Ex
set_option linter.unusedVariables false
set_option linter.unusedSimpArgs false
open Classical
/-- a curve y^2 = x^3 + b over a field where 2 is not 0, no point of which is its own negative -/
structure EC {R : Type} (K : CR R) (inv : R → R) (b : R) : Prop where
  F : FD K inv
  two : K.add K.one K.one ≠ K.zero
  odd : ∀ x, K.add (K.mul x (K.mul x x)) b ≠ K.zero
section
variable {R : Type} (K : CR R) (inv : R → R) (b : R)
abbrev Pt (R : Type) := Option (R × R)
def On : Pt R → Prop
  | none => True
  | some p => K.mul p.2 p.2 = K.add (K.mul p.1 (K.mul p.1 p.1)) b
def ptN : Pt R → Pt R
  | none => none
  | some p => some (p.1, K.neg p.2)
/-- the chord's slope, or the tangent's -/
noncomputable def slope (x1 y1 x2 y2 : R) : R :=
  if x1 = x2 then K.mul (K.add (K.add (K.mul x1 x1) (K.mul x1 x1)) (K.mul x1 x1)) (inv (K.add y1 y2)) else K.mul (K.sub y2 y1) (inv (K.sub x2 x1))
def sx (l x1 x2 : R) : R := K.sub (K.sub (K.mul l l) x1) x2
def sy (l x1 y1 x2 : R) : R := K.sub (K.mul l (K.sub x1 (sx K l x1 x2))) y1
noncomputable def ptA : Pt R → Pt R → Pt R
  | none, q => q
  | some p, none => some p
  | some p, some q =>
    if p.1 = q.1 ∧ K.add p.2 q.2 = K.zero then none
    else some (sx K (slope K inv p.1 p.2 q.1 q.2) p.1 q.1, sy K (slope K inv p.1 p.2 q.1 q.2) p.1 p.2 q.1)
variable {K} {inv} {b}
theorem ptA_opp {p q : R × R} (h : p.1 = q.1 ∧ K.add p.2 q.2 = K.zero) : ptA K inv (some p) (some q) = none := if_pos h
theorem ptA_sum {p q : R × R} (h : ¬ (p.1 = q.1 ∧ K.add p.2 q.2 = K.zero)) : ptA K inv (some p) (some q) = some (sx K (slope K inv p.1 p.2 q.1 q.2) p.1 q.1, sy K (slope K inv p.1 p.2 q.1 q.2) p.1 p.2 q.1) := if_neg h
theorem sub_eq_zero {x y : R} (h : K.sub x y = K.zero) : x = y := eq_of_neg h
theorem sub_ne {x y : R} (h : x ≠ y) : K.sub x y ≠ K.zero := fun e => h (sub_eq_zero e)
theorem EC.dbl_ne (E : EC K inv b) {y : R} (h : y ≠ K.zero) : K.add y y ≠ K.zero := fun e => by
  refine E.F.mul_ne E.two h ?_
  rw [K.add_mul, K.one_mul, e]
theorem EC.y_ne (E : EC K inv b) {x y : R} (h : K.mul y y = K.add (K.mul x (K.mul x x)) b) : y ≠ K.zero := fun e => by
  rw [e, K.mul_zero] at h
  exact E.odd x h.symm
/-- what is asked of the slope -/
structure Slope (K : CR R) (x1 y1 x2 y2 l : R) : Prop where
  h1 : y2 = K.add y1 (K.mul l (K.sub x2 x1))
  h2 : K.mul l (K.add y1 y2) = K.add (K.add (K.mul x1 x1) (K.mul x1 x2)) (K.mul x2 x2)
  hk : (∃ k, K.mul k (K.add y1 y2) = K.one) ∨ (∃ k, K.mul k (K.sub x2 x1) = K.one)
theorem slope_ok (E : EC K inv b) {x1 y1 x2 y2 : R} (hp : K.mul y1 y1 = K.add (K.mul x1 (K.mul x1 x1)) b) (hq : K.mul y2 y2 = K.add (K.mul x2 (K.mul x2 x2)) b) (hn : ¬ (x1 = x2 ∧ K.add y1 y2 = K.zero)) : Slope K x1 y1 x2 y2 (slope K inv x1 y1 x2 y2) := by
  unfold slope
  by_cases hx : x1 = x2
  · subst hx
    rw [if_pos rfl]
    have hy : K.add y1 y2 ≠ K.zero := fun e => hn ⟨rfl, e⟩
    have hi := E.F.inv _ hy
    have e : y1 = y2 := by
      refine sub_eq_zero (K := K) (E.F.zd (a := K.add y1 y2) ?_ hy)
      have e0 : K.mul (K.add y1 y2) (K.sub y1 y2) = K.sub (K.mul y1 y1) (K.mul y2 y2) := ring_id K (envL K [y1, y2]) (.mul (.add (.v 0) (.v 1)) (.add (.v 0) (.neg (.v 1)))) (.add (.mul (.v 0) (.v 0)) (.neg (.mul (.v 1) (.v 1)))) (by kernel_rfl)
      rw [e0, hp, hq]
      exact K.add_neg _
    subst e
    generalize inv (K.add y1 y1) = k at hi
    refine ⟨ring_id K (envL K [y1, x1, k]) (.v 0) (.add (.v 0) (.mul (.mul (.add (.add (.mul (.v 1) (.v 1)) (.mul (.v 1) (.v 1))) (.mul (.v 1) (.v 1))) (.v 2)) (.add (.v 1) (.neg (.v 1))))) (by kernel_rfl), comb1 (K := K) (c1 := (K.add (K.add (K.mul x1 x1) (K.mul x1 x1)) (K.mul x1 x1))) hi (ring_id K (envL K [x1, k, y1]) (.add (.mul (.mul (.add (.add (.mul (.v 0) (.v 0)) (.mul (.v 0) (.v 0))) (.mul (.v 0) (.v 0))) (.v 1)) (.add (.v 2) (.v 2))) (.neg (.add (.add (.mul (.v 0) (.v 0)) (.mul (.v 0) (.v 0))) (.mul (.v 0) (.v 0))))) (.mul (.add (.add (.mul (.v 0) (.v 0)) (.mul (.v 0) (.v 0))) (.mul (.v 0) (.v 0))) (.add (.mul (.add (.v 2) (.v 2)) (.v 1)) (.neg .one))) (by kernel_rfl)), Or.inl ⟨k, by rw [K.mul_comm, hi]⟩⟩
  · rw [if_neg hx]
    have hd : K.sub x2 x1 ≠ K.zero := sub_ne fun e => hx e.symm
    have hi := E.F.inv _ hd
    generalize inv (K.sub x2 x1) = k at hi
    refine ⟨comb1 (K := K) (c1 := (K.neg (K.sub y2 y1))) hi (ring_id K (envL K [y2, y1, k, x2, x1]) (.add (.v 0) (.neg (.add (.v 1) (.mul (.mul (.add (.v 0) (.neg (.v 1))) (.v 2)) (.add (.v 3) (.neg (.v 4))))))) (.mul (.neg (.add (.v 0) (.neg (.v 1)))) (.add (.mul (.add (.v 3) (.neg (.v 4))) (.v 2)) (.neg .one))) (by kernel_rfl)), ?_, Or.inr ⟨k, by rw [K.mul_comm, hi]⟩⟩
    refine E.F.cancel hd ?_
    exact comb3 (K := K) (c1 := (K.mul (K.sub y2 y1) (K.add y1 y2))) (c2 := (K.neg K.one)) (c3 := K.one) hi hp hq (ring_id K (envL K [x2, x1, y2, y1, k, b]) (.add (.mul (.add (.v 0) (.neg (.v 1))) (.mul (.mul (.add (.v 2) (.neg (.v 3))) (.v 4)) (.add (.v 3) (.v 2)))) (.neg (.mul (.add (.v 0) (.neg (.v 1))) (.add (.add (.mul (.v 1) (.v 1)) (.mul (.v 1) (.v 0))) (.mul (.v 0) (.v 0)))))) (.add (.add (.mul (.mul (.add (.v 2) (.neg (.v 3))) (.add (.v 3) (.v 2))) (.add (.mul (.add (.v 0) (.neg (.v 1))) (.v 4)) (.neg .one))) (.mul (.neg .one) (.add (.mul (.v 3) (.v 3)) (.neg (.add (.mul (.v 1) (.mul (.v 1) (.v 1))) (.v 5)))))) (.mul .one (.add (.mul (.v 2) (.v 2)) (.neg (.add (.mul (.v 0) (.mul (.v 0) (.v 0))) (.v 5)))))) (by kernel_rfl))
theorem On.sum {x1 y1 x2 y2 l : R} (hp : K.mul y1 y1 = K.add (K.mul x1 (K.mul x1 x1)) b) (h : Slope K x1 y1 x2 y2 l) : On K b (some (sx K l x1 x2, sy K l x1 y1 x2)) := by
  obtain ⟨h1, h2, _⟩ := h
  subst h1
  show K.mul (K.sub (K.mul l (K.sub x1 (K.sub (K.sub (K.mul l l) x1) x2))) y1) (K.sub (K.mul l (K.sub x1 (K.sub (K.sub (K.mul l l) x1) x2))) y1) = K.add (K.mul (K.sub (K.sub (K.mul l l) x1) x2) (K.mul (K.sub (K.sub (K.mul l l) x1) x2) (K.sub (K.sub (K.mul l l) x1) x2))) b
  exact comb2 (K := K) (c1 := K.one) (c2 := (K.sub (K.sub (K.sub (K.mul l l) x1) x2) x1)) hp h2 (ring_id K (envL K [l, x1, x2, y1, b]) (.add (.mul (.add (.mul (.v 0) (.add (.v 1) (.neg (.add (.add (.mul (.v 0) (.v 0)) (.neg (.v 1))) (.neg (.v 2)))))) (.neg (.v 3))) (.add (.mul (.v 0) (.add (.v 1) (.neg (.add (.add (.mul (.v 0) (.v 0)) (.neg (.v 1))) (.neg (.v 2)))))) (.neg (.v 3)))) (.neg (.add (.mul (.add (.add (.mul (.v 0) (.v 0)) (.neg (.v 1))) (.neg (.v 2))) (.mul (.add (.add (.mul (.v 0) (.v 0)) (.neg (.v 1))) (.neg (.v 2))) (.add (.add (.mul (.v 0) (.v 0)) (.neg (.v 1))) (.neg (.v 2))))) (.v 4)))) (.add (.mul .one (.add (.mul (.v 3) (.v 3)) (.neg (.add (.mul (.v 1) (.mul (.v 1) (.v 1))) (.v 4))))) (.mul (.add (.add (.add (.mul (.v 0) (.v 0)) (.neg (.v 1))) (.neg (.v 2))) (.neg (.v 1))) (.add (.mul (.v 0) (.add (.v 3) (.add (.v 3) (.mul (.v 0) (.add (.v 2) (.neg (.v 1))))))) (.neg (.add (.add (.mul (.v 1) (.v 1)) (.mul (.v 1) (.v 2))) (.mul (.v 2) (.v 2))))))) (by kernel_rfl))
theorem On.neg : ∀ {p : Pt R}, On K b p → On K b (ptN K p)
  | none, _ => trivial
  | some p, h => by
    show K.mul (K.neg p.2) (K.neg p.2) = _
    rw [K.neg_mul, K.mul_neg, K.neg_neg]
    exact h
theorem On.add (E : EC K inv b) : ∀ {p q : Pt R}, On K b p → On K b q → On K b (ptA K inv p q)
  | none, _, _, h => h
  | some _, none, h, _ => h
  | some p, some q, hp, hq => by
    by_cases hn : p.1 = q.1 ∧ K.add p.2 q.2 = K.zero
    · rw [ptA_opp hn]; trivial
    · rw [ptA_sum hn]
      exact On.sum hp (slope_ok E hp hq hn)
/-- a point's class -/
def opP (K : CR R) (b : R) (p : Pt R) (S : Pol K × Pol K → Prop) : Pol K × Pol K → Prop :=
  match p with
  | none => S
  | some p => op (crd K b) cX cY (cc p.1) (cc p.2) S
theorem opP_swap (p q : Pt R) (S : Pol K × Pol K → Prop) : opP K b p (opP K b q S) = opP K b q (opP K b p S) := by
  cases p with
  | none => rfl
  | some p => cases q with
    | none => rfl
    | some q => exact op_swap _ _ _ _
theorem opP_idl {S : Pol K × Pol K → Prop} (h : Idl (crd K b) S) (p : Pt R) : Idl (crd K b) (opP K b p S) := by
  cases p with
  | none => exact h
  | some p => exact op_idl h _ _
theorem opP_eqv {S T : Pol K × Pol K → Prop} (h : Eqv (crd K b) S T) (p : Pt R) : Eqv (crd K b) (opP K b p S) (opP K b p T) := by
  cases p with
  | none => exact h
  | some p => exact h.op _ _
theorem X_ne (F : FD K inv) (c : R) : (crd K b).sub cX (cc c) ≠ (crd K b).zero := fun q => dg_ne (dg_lin (K := K) F c) (congrArg Prod.fst q)
theorem ell_ne (F : FD K inv) (x1 y1 l : R) : (crd K b).sub ((crd K b).sub cY (cc y1)) ((crd K b).mul (cc l) ((crd K b).sub cX (cc x1))) ≠ (crd K b).zero := fun q => by
  have e : K.add (K.add K.one (K.neg K.zero)) (K.neg (K.add (K.mul l (K.add K.zero (K.neg K.zero))) (K.mul K.zero (K.add K.zero (K.neg x1))))) = K.zero := congrArg (fun z : Pol K × Pol K => z.2.1 0) q
  rw [neg_zero, K.add_zero, K.add_zero, K.mul_zero, K.zero_mul, K.add_zero, neg_zero, K.add_zero] at e
  exact F.ne e
/-- the class of a sum is the product of the classes -/
theorem opP_sum (E : EC K inv b) {S : Pol K × Pol K → Prop} (hS : Idl (crd K b) S) : ∀ {p q : Pt R}, On K b p → On K b q → Eqv (crd K b) (opP K b p (opP K b q S)) (opP K b (ptA K inv p q) S)
  | none, _, _, _ => Eqv.refl (crd_dom b E.F) _
  | some _, none, _, _ => Eqv.refl (crd_dom b E.F) _
  | some ⟨x1, y1⟩, some ⟨x2, y2⟩, hp, hq => by
    by_cases hn : x1 = x2 ∧ K.add y1 y2 = K.zero
    · rw [ptA_opp hn]
      obtain ⟨rfl, hy⟩ := hn
      have e : y2 = K.neg y1 := by
        apply K.add_cancel (a := y1)
        rw [hy, K.add_neg]
      subst e
      show Eqv (crd K b) (op (crd K b) cX cY (cc x1) (cc y1) (op (crd K b) cX cY (cc x1) (cc (K.neg y1)) S)) S
      have h0 := E.F.inv _ (E.dbl_ne (E.y_ne hp))
      rw [cc_neg b]
      refine op_neg (b := cc b) (k := cc (inv (K.add y1 y1))) (c_eq b) ?_ ?_ (crd_dom b E.F) (X_ne E.F x1) hS
      · rw [← cc_mul, ← cc_mul, ← cc_mul, ← cc_add]
        exact congrArg cc hp
      · rw [← cc_add, ← cc_mul, K.mul_comm, h0]
        rfl
    · rw [ptA_sum hn]
      have h := slope_ok E hp hq hn
      dsimp only at h ⊢
      generalize slope K inv x1 y1 x2 y2 = l at h
      obtain ⟨h1, h2, hk⟩ := h
      subst h1
      show Eqv (crd K b) (op (crd K b) cX cY (cc x1) (cc y1) (op (crd K b) cX cY (cc x2) (cc (K.add y1 (K.mul l (K.sub x2 x1)))) S)) (op (crd K b) cX cY (cc (sx K l x1 x2)) (cc (sy K l x1 y1 x2)) S)
      unfold sy sx
      have hX := X_ne (K := K) (b := b) E.F (sx K l x1 x2)
      have hl := ell_ne (K := K) (b := b) E.F x1 y1 l
      unfold sx at hX
      simp only [cc_add b, cc_mul b, cc_sub b] at hX ⊢
      refine op_sum (b := cc b) (c_eq b) ?_ ?_ ?_ hX hl hS
      · have := congrArg (cc (K := K)) h2
        simpa only [cc_add b, cc_mul b, cc_sub b] using this
      · have := congrArg (cc (K := K)) hp
        simpa only [cc_add b, cc_mul b, cc_sub b] using this
      · rcases hk with ⟨k, hk⟩ | ⟨k, hk⟩
        · refine Or.inl ⟨cc k, ?_⟩
          have := congrArg (cc (K := K)) hk
          simpa only [cc_add b, cc_mul b, cc_sub b, cc_one b] using this
        · refine Or.inr ⟨cc k, ?_⟩
          have := congrArg (cc (K := K)) hk
          simpa only [cc_add b, cc_mul b, cc_sub b, cc_one b] using this
theorem ptN_neg (p : Pt R) : ptN K (ptN K p) = p := by
  cases p with
  | none => rfl
  | some p => show some (p.1, K.neg (K.neg p.2)) = _; rw [K.neg_neg]
theorem ptA_neg (p : Pt R) : ptA K inv (ptN K p) p = none := by
  cases p with
  | none => rfl
  | some p => exact if_pos ⟨rfl, K.neg_add _⟩
theorem ptA_none {p q : Pt R} (h : ptA K inv (ptN K p) q = none) : q = p := by
  cases p with
  | none => exact h
  | some p => cases q with
    | none => cases h
    | some q =>
      by_cases hh : p.1 = q.1 ∧ K.add (K.neg p.2) q.2 = K.zero
      · obtain ⟨h1, h2⟩ := hh
        refine congrArg some (Prod.ext h1.symm ?_)
        apply K.add_cancel (a := K.neg p.2)
        exact h2.trans (K.neg_add p.2).symm
      · have e : ptA K inv (ptN K (some p)) (some q) = some _ := ptA_sum (p := (p.1, K.neg p.2)) (q := q) hh
        rw [e] at h
        cases h
theorem opP_ne (E : EC K inv b) {p : Pt R} (hp : On K b p) (h : Eqv (crd K b) (opP K b p univ) univ) : p = none := by
  cases p with
  | none => rfl
  | some p => exact absurd h (pt_ne b E.F hp)
/-- points of one class are one -/
theorem opP_inj (E : EC K inv b) {p q : Pt R} (hp : On K b p) (hq : On K b q) (h : Eqv (crd K b) (opP K b p univ) (opP K b q univ)) : p = q := by
  have D := crd_dom (K := K) b E.F
  have h1 := opP_eqv h (ptN K q)
  have a1 := opP_sum E (univ_idl (crd K b)) hq.neg hp
  have a2 := opP_sum E (univ_idl (crd K b)) hq.neg hq
  rw [ptA_neg] at a2
  exact ptA_none (opP_ne E (hq.neg.add E hp) (a1.symm.trans D (h1.trans D a2)))
theorem ptA_comm (E : EC K inv b) {p q : Pt R} (hp : On K b p) (hq : On K b q) : ptA K inv p q = ptA K inv q p := by
  have D := crd_dom (K := K) b E.F
  refine opP_inj E (hp.add E hq) (hq.add E hp) ?_
  refine (opP_sum E (univ_idl (crd K b)) hp hq).symm.trans D ?_
  rw [opP_swap]
  exact opP_sum E (univ_idl (crd K b)) hq hp
theorem ptA_assoc (E : EC K inv b) {p q r : Pt R} (hp : On K b p) (hq : On K b q) (hr : On K b r) : ptA K inv (ptA K inv p q) r = ptA K inv p (ptA K inv q r) := by
  have D := crd_dom (K := K) b E.F
  have hu := univ_idl (crd K b)
  refine opP_inj E ((hp.add E hq).add E hr) (hp.add E (hq.add E hr)) ?_
  refine (opP_sum E hu (hp.add E hq) hr).symm.trans D ?_
  refine (opP_sum E (opP_idl hu r) hp hq).symm.trans D ?_
  refine (opP_eqv (opP_sum E hu hq hr) p).trans D ?_
  exact opP_sum E hu hp (hq.add E hr)
end
/-- a commutative group -/
structure AG (G : Type) where
  add : G → G → G
  neg : G → G
  zero : G
  assoc : ∀ a b c, add (add a b) c = add a (add b c)
  comm : ∀ a b, add a b = add b a
  zadd : ∀ a, add zero a = a
  nadd : ∀ a, add (neg a) a = zero
/-- a curve's points -/
noncomputable def EC.grp {R : Type} {K : CR R} {inv : R → R} {b : R} (E : EC K inv b) : AG {p : Pt R // On K b p} where
  add p q := ⟨ptA K inv p.1 q.1, p.2.add E q.2⟩
  neg p := ⟨ptN K p.1, p.2.neg⟩
  zero := ⟨none, trivial⟩
  assoc p q r := Subtype.ext (ptA_assoc E p.2 q.2 r.2)
  comm p q := Subtype.ext (ptA_comm E p.2 q.2)
  zadd p := rfl
  nadd p := Subtype.ext (ptA_neg p.1)
end Go.Proofs.Ytebaoemoeckgaaa.Ex
