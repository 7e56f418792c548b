/-
  Points by Jacobian coordinates: their sums are the points' sums. Conditions: none.
  Elements that lie alike are one. Conditions: none.
  The elements over which the curves lie (single, pair) in a table of calls. Conditions: none.
-/
import Derived.Test.YtebaoemoeckgaaaPr27
import Derived.Test.YtebaoemoeckgaaaPr09
import Derived.Test.YtebaoemoeckgaaaPr26
import Derived.Test.YtebaoemoeckgaaaPr08
namespace Go.Proofs.Ytebaoemoeckgaaa.Ex
set_option linter.unusedVariables false
set_option linter.unusedSimpArgs false
open Classical
section
variable {R : Type} (K : CR R) (inv : R → R)
abbrev Jc (R : Type) := R × R × R
/-- the point -/
noncomputable def jto (p : Jc R) : Pt R := if p.2.2 = K.zero then none else some (K.mul p.1 (K.mul (inv p.2.2) (inv p.2.2)), K.mul p.2.1 (K.mul (K.mul (inv p.2.2) (inv p.2.2)) (inv p.2.2)))
def dSl (p : Jc R) : R := K.add (K.add (K.mul p.1 p.1) (K.mul p.1 p.1)) (K.mul p.1 p.1)
def dTw (p : Jc R) : R := K.add (K.mul p.2.1 p.2.1) (K.mul p.2.1 p.2.1)
def dFo (p : Jc R) : R := K.add (dTw K p) (dTw K p)
def dBa (p : Jc R) : R := K.mul p.1 (dFo K p)
def dX (p : Jc R) : R := K.sub (K.mul (dSl K p) (dSl K p)) (K.add (dBa K p) (dBa K p))
def dY (p : Jc R) : R := K.sub (K.mul (dSl K p) (K.sub (dBa K p) (dX K p))) (K.mul (dFo K p) (dTw K p))
def jdbl (p : Jc R) : Jc R := (dX K p, dY K p, K.mul (K.add p.2.1 p.2.1) p.2.2)
/-- x and y over the product of both z -/
def jbx (p q : Jc R) : R := K.mul p.1 (K.mul q.2.2 q.2.2)
def jby (p q : Jc R) : R := K.mul p.2.1 (K.mul (K.mul q.2.2 q.2.2) q.2.2)
def jac (p q : Jc R) : R := K.sub (jbx K q p) (jbx K p q)
def jup (p q : Jc R) : R := K.sub (jby K q p) (jby K p q)
def sX (px a up : R) : R := K.sub (K.sub (K.mul up up) (K.mul (K.mul a a) a)) (K.add (K.mul px (K.mul a a)) (K.mul px (K.mul a a)))
def sY (px py a up : R) : R := K.sub (K.mul up (K.sub (K.mul px (K.mul a a)) (sX K px a up))) (K.mul py (K.mul (K.mul a a) a))
def jsum (p q : Jc R) : Jc R := (sX K (jbx K p q) (jac K p q) (jup K p q), sY K (jbx K p q) (jby K p q) (jac K p q) (jup K p q), K.mul (K.mul p.2.2 q.2.2) (jac K p q))
noncomputable def jplus (p q : Jc R) : Jc R :=
  if p.2.2 = K.zero then q else if q.2.2 = K.zero then p else if jac K p q = K.zero ∧ jup K p q = K.zero then jdbl K p else jsum K p q
/-- likewise; where the two are opposite, (1, 1, 0) -/
noncomputable def rplus (p q : Jc R) : Jc R :=
  if p.2.2 = K.zero then q else if q.2.2 = K.zero then p else if jac K p q = K.zero ∧ jup K p q = K.zero then jdbl K p else if jac K p q = K.zero then (K.one, K.one, K.zero) else jsum K p q
variable {K} {inv} {b : R}
theorem jto_zero {p : Jc R} (h : p.2.2 = K.zero) : jto K inv p = none := if_pos h
theorem jto_some {p : Jc R} (h : p.2.2 ≠ K.zero) : jto K inv p = some (K.mul p.1 (K.mul (inv p.2.2) (inv p.2.2)), K.mul p.2.1 (K.mul (K.mul (inv p.2.2) (inv p.2.2)) (inv p.2.2))) := if_neg h
/-- the slope is told by its product -/
theorem slope_dbl (E : EC K inv b) {x y l : R} (hy : K.add y y ≠ K.zero) (h : K.mul l (K.add y y) = K.add (K.add (K.mul x x) (K.mul x x)) (K.mul x x)) : slope K inv x y x y = l := by
  unfold slope
  rw [if_pos rfl]
  refine E.F.cancel hy ?_
  have hi := E.F.inv _ hy
  generalize inv (K.add y y) = k at hi
  exact comb2 (K := K) (c1 := (K.add (K.add (K.mul x x) (K.mul x x)) (K.mul x x))) (c2 := (K.neg K.one)) hi h (ring_id K (envL K [y, x, k, l]) (.add (.mul (.add (.v 0) (.v 0)) (.mul (.add (.add (.mul (.v 1) (.v 1)) (.mul (.v 1) (.v 1))) (.mul (.v 1) (.v 1))) (.v 2))) (.neg (.mul (.add (.v 0) (.v 0)) (.v 3)))) (.add (.mul (.add (.add (.mul (.v 1) (.v 1)) (.mul (.v 1) (.v 1))) (.mul (.v 1) (.v 1))) (.add (.mul (.add (.v 0) (.v 0)) (.v 2)) (.neg .one))) (.mul (.neg .one) (.add (.mul (.v 3) (.add (.v 0) (.v 0))) (.neg (.add (.add (.mul (.v 1) (.v 1)) (.mul (.v 1) (.v 1))) (.mul (.v 1) (.v 1))))))) (by kernel_rfl))
theorem slope_chord (E : EC K inv b) {x1 y1 x2 y2 l : R} (hx : x1 ≠ x2) (h : K.mul l (K.sub x2 x1) = K.sub y2 y1) : slope K inv x1 y1 x2 y2 = l := by
  unfold slope
  rw [if_neg hx]
  have hd : K.sub x2 x1 ≠ K.zero := sub_ne fun e => hx e.symm
  have hi := E.F.inv _ hd
  refine E.F.cancel hd ?_
  generalize inv (K.sub x2 x1) = k at hi
  exact comb2 (K := K) (c1 := (K.sub y2 y1)) (c2 := (K.neg K.one)) hi h (ring_id K (envL K [x2, x1, y2, y1, k, l]) (.add (.mul (.add (.v 0) (.neg (.v 1))) (.mul (.add (.v 2) (.neg (.v 3))) (.v 4))) (.neg (.mul (.add (.v 0) (.neg (.v 1))) (.v 5)))) (.add (.mul (.add (.v 2) (.neg (.v 3))) (.add (.mul (.add (.v 0) (.neg (.v 1))) (.v 4)) (.neg .one))) (.mul (.neg .one) (.add (.mul (.v 5) (.add (.v 0) (.neg (.v 1)))) (.neg (.add (.v 2) (.neg (.v 3))))))) (by kernel_rfl))
theorem jto_dbl (E : EC K inv b) {p : Jc R} (hp : On K b (jto K inv p)) : jto K inv (jdbl K p) = ptA K inv (jto K inv p) (jto K inv p) := by
  obtain ⟨x, y, z⟩ := p
  by_cases hz : z = K.zero
  · have h1 : jto K inv (x, y, z) = none := jto_zero hz
    rw [h1]
    refine jto_zero ?_
    show K.mul (K.add y y) z = K.zero
    rw [hz, K.mul_zero]
  · have h1 := jto_some (K := K) (inv := inv) (p := (x, y, z)) hz
    rw [h1] at hp ⊢
    dsimp only at hp ⊢
    have hi := E.F.inv z hz
    generalize inv z = i at hi hp ⊢
    have hY := E.y_ne (show K.mul (K.mul y (K.mul (K.mul i i) i)) (K.mul y (K.mul (K.mul i i) i)) = _ from hp)
    have hy : y ≠ K.zero := fun e => hY (by rw [e, K.zero_mul])
    have hyy := E.dbl_ne hy
    have hz3 : K.mul (K.add y y) z ≠ K.zero := E.F.mul_ne hyy hz
    have h3 := jto_some (K := K) (inv := inv) (p := jdbl K (x, y, z)) hz3
    rw [h3]
    show some (K.mul (dX K (x, y, z)) (K.mul (inv (K.mul (K.add y y) z)) (inv (K.mul (K.add y y) z))), K.mul (dY K (x, y, z)) (K.mul (K.mul (inv (K.mul (K.add y y) z)) (inv (K.mul (K.add y y) z))) (inv (K.mul (K.add y y) z)))) = _
    have hj := E.F.inv _ hz3
    generalize inv (K.mul (K.add y y) z) = j at hj ⊢
    have e : i = K.mul (K.add y y) j := comb2 (K := K) (c1 := (K.neg i)) (c2 := (K.mul (K.add y y) j)) hj hi (ring_id K (envL K [i, y, j, z]) (.add (.v 0) (.neg (.mul (.add (.v 1) (.v 1)) (.v 2)))) (.add (.mul (.neg (.v 0)) (.add (.mul (.mul (.add (.v 1) (.v 1)) (.v 3)) (.v 2)) (.neg .one))) (.mul (.mul (.add (.v 1) (.v 1)) (.v 2)) (.add (.mul (.v 3) (.v 0)) (.neg .one)))) (by kernel_rfl))
    subst e
    have hYY := E.dbl_ne hY
    rw [ptA_sum (fun h => hYY h.2)]
    dsimp only
    have hs := slope_dbl (l := (K.mul (K.add (K.add (K.mul x x) (K.mul x x)) (K.mul x x)) j)) (x := (K.mul x (K.mul (K.mul (K.add y y) j) (K.mul (K.add y y) j)))) E hYY (ring_id K (envL K [x, j, y]) (.mul (.mul (.add (.add (.mul (.v 0) (.v 0)) (.mul (.v 0) (.v 0))) (.mul (.v 0) (.v 0))) (.v 1)) (.add (.mul (.v 2) (.mul (.mul (.mul (.add (.v 2) (.v 2)) (.v 1)) (.mul (.add (.v 2) (.v 2)) (.v 1))) (.mul (.add (.v 2) (.v 2)) (.v 1)))) (.mul (.v 2) (.mul (.mul (.mul (.add (.v 2) (.v 2)) (.v 1)) (.mul (.add (.v 2) (.v 2)) (.v 1))) (.mul (.add (.v 2) (.v 2)) (.v 1)))))) (.add (.add (.mul (.mul (.v 0) (.mul (.mul (.add (.v 2) (.v 2)) (.v 1)) (.mul (.add (.v 2) (.v 2)) (.v 1)))) (.mul (.v 0) (.mul (.mul (.add (.v 2) (.v 2)) (.v 1)) (.mul (.add (.v 2) (.v 2)) (.v 1))))) (.mul (.mul (.v 0) (.mul (.mul (.add (.v 2) (.v 2)) (.v 1)) (.mul (.add (.v 2) (.v 2)) (.v 1)))) (.mul (.v 0) (.mul (.mul (.add (.v 2) (.v 2)) (.v 1)) (.mul (.add (.v 2) (.v 2)) (.v 1)))))) (.mul (.mul (.v 0) (.mul (.mul (.add (.v 2) (.v 2)) (.v 1)) (.mul (.add (.v 2) (.v 2)) (.v 1)))) (.mul (.v 0) (.mul (.mul (.add (.v 2) (.v 2)) (.v 1)) (.mul (.add (.v 2) (.v 2)) (.v 1)))))) (by kernel_rfl))
    rw [hs]
    refine congrArg some (Prod.ext ?_ ?_)
    · exact ring_id K (envL K [x, y, j]) (.mul (.add (.mul (.add (.add (.mul (.v 0) (.v 0)) (.mul (.v 0) (.v 0))) (.mul (.v 0) (.v 0))) (.add (.add (.mul (.v 0) (.v 0)) (.mul (.v 0) (.v 0))) (.mul (.v 0) (.v 0)))) (.neg (.add (.mul (.v 0) (.add (.add (.mul (.v 1) (.v 1)) (.mul (.v 1) (.v 1))) (.add (.mul (.v 1) (.v 1)) (.mul (.v 1) (.v 1))))) (.mul (.v 0) (.add (.add (.mul (.v 1) (.v 1)) (.mul (.v 1) (.v 1))) (.add (.mul (.v 1) (.v 1)) (.mul (.v 1) (.v 1)))))))) (.mul (.v 2) (.v 2))) (.add (.add (.mul (.mul (.add (.add (.mul (.v 0) (.v 0)) (.mul (.v 0) (.v 0))) (.mul (.v 0) (.v 0))) (.v 2)) (.mul (.add (.add (.mul (.v 0) (.v 0)) (.mul (.v 0) (.v 0))) (.mul (.v 0) (.v 0))) (.v 2))) (.neg (.mul (.v 0) (.mul (.mul (.add (.v 1) (.v 1)) (.v 2)) (.mul (.add (.v 1) (.v 1)) (.v 2)))))) (.neg (.mul (.v 0) (.mul (.mul (.add (.v 1) (.v 1)) (.v 2)) (.mul (.add (.v 1) (.v 1)) (.v 2)))))) (by kernel_rfl)
    · exact ring_id K (envL K [x, y, j]) (.mul (.add (.mul (.add (.add (.mul (.v 0) (.v 0)) (.mul (.v 0) (.v 0))) (.mul (.v 0) (.v 0))) (.add (.mul (.v 0) (.add (.add (.mul (.v 1) (.v 1)) (.mul (.v 1) (.v 1))) (.add (.mul (.v 1) (.v 1)) (.mul (.v 1) (.v 1))))) (.neg (.add (.mul (.add (.add (.mul (.v 0) (.v 0)) (.mul (.v 0) (.v 0))) (.mul (.v 0) (.v 0))) (.add (.add (.mul (.v 0) (.v 0)) (.mul (.v 0) (.v 0))) (.mul (.v 0) (.v 0)))) (.neg (.add (.mul (.v 0) (.add (.add (.mul (.v 1) (.v 1)) (.mul (.v 1) (.v 1))) (.add (.mul (.v 1) (.v 1)) (.mul (.v 1) (.v 1))))) (.mul (.v 0) (.add (.add (.mul (.v 1) (.v 1)) (.mul (.v 1) (.v 1))) (.add (.mul (.v 1) (.v 1)) (.mul (.v 1) (.v 1))))))))))) (.neg (.mul (.add (.add (.mul (.v 1) (.v 1)) (.mul (.v 1) (.v 1))) (.add (.mul (.v 1) (.v 1)) (.mul (.v 1) (.v 1)))) (.add (.mul (.v 1) (.v 1)) (.mul (.v 1) (.v 1)))))) (.mul (.mul (.v 2) (.v 2)) (.v 2))) (.add (.mul (.mul (.add (.add (.mul (.v 0) (.v 0)) (.mul (.v 0) (.v 0))) (.mul (.v 0) (.v 0))) (.v 2)) (.add (.mul (.v 0) (.mul (.mul (.add (.v 1) (.v 1)) (.v 2)) (.mul (.add (.v 1) (.v 1)) (.v 2)))) (.neg (.add (.add (.mul (.mul (.add (.add (.mul (.v 0) (.v 0)) (.mul (.v 0) (.v 0))) (.mul (.v 0) (.v 0))) (.v 2)) (.mul (.add (.add (.mul (.v 0) (.v 0)) (.mul (.v 0) (.v 0))) (.mul (.v 0) (.v 0))) (.v 2))) (.neg (.mul (.v 0) (.mul (.mul (.add (.v 1) (.v 1)) (.v 2)) (.mul (.add (.v 1) (.v 1)) (.v 2)))))) (.neg (.mul (.v 0) (.mul (.mul (.add (.v 1) (.v 1)) (.v 2)) (.mul (.add (.v 1) (.v 1)) (.v 2))))))))) (.neg (.mul (.v 1) (.mul (.mul (.mul (.add (.v 1) (.v 1)) (.v 2)) (.mul (.add (.v 1) (.v 1)) (.v 2))) (.mul (.add (.v 1) (.v 1)) (.v 2)))))) (by kernel_rfl)
theorem jto_beside (E : EC K inv b) {p q : Jc R} (hp : p.2.2 ≠ K.zero) (hq : q.2.2 ≠ K.zero) : ∃ w, K.mul (K.mul p.2.2 q.2.2) w = K.one ∧ jto K inv p = some (K.mul (jbx K p q) (K.mul w w), K.mul (jby K p q) (K.mul (K.mul w w) w)) ∧ jto K inv q = some (K.mul (jbx K q p) (K.mul w w), K.mul (jby K q p) (K.mul (K.mul w w) w)) := by
  obtain ⟨x1, y1, z1⟩ := p
  obtain ⟨x2, y2, z2⟩ := q
  have h1 := E.F.inv z1 hp
  have h2 := E.F.inv z2 hq
  rw [jto_some hp, jto_some hq]
  dsimp only at *
  generalize inv z1 = i at h1 ⊢
  generalize inv z2 = j at h2 ⊢
  refine ⟨K.mul i j, ?_, congrArg some (Prod.ext ?_ ?_), congrArg some (Prod.ext ?_ ?_)⟩
  · exact comb2 (K := K) (c1 := (K.mul z2 j)) (c2 := K.one) h1 h2 (ring_id K (envL K [z1, z2, i, j]) (.add (.mul (.mul (.v 0) (.v 1)) (.mul (.v 2) (.v 3))) (.neg .one)) (.add (.mul (.mul (.v 1) (.v 3)) (.add (.mul (.v 0) (.v 2)) (.neg .one))) (.mul .one (.add (.mul (.v 1) (.v 3)) (.neg .one)))) (by kernel_rfl))
  · exact comb1 (K := K) (c1 := (K.mul (K.neg (K.mul x1 (K.mul i i))) (K.add (K.mul z2 j) K.one))) h2 (ring_id K (envL K [x1, i, z2, j]) (.add (.mul (.v 0) (.mul (.v 1) (.v 1))) (.neg (.mul (.mul (.v 0) (.mul (.v 2) (.v 2))) (.mul (.mul (.v 1) (.v 3)) (.mul (.v 1) (.v 3)))))) (.mul (.mul (.neg (.mul (.v 0) (.mul (.v 1) (.v 1)))) (.add (.mul (.v 2) (.v 3)) .one)) (.add (.mul (.v 2) (.v 3)) (.neg .one))) (by kernel_rfl))
  · exact comb1 (K := K) (c1 := (K.mul (K.neg (K.mul y1 (K.mul (K.mul i i) i))) (K.add (K.add (K.mul (K.mul z2 j) (K.mul z2 j)) (K.mul z2 j)) K.one))) h2 (ring_id K (envL K [y1, i, z2, j]) (.add (.mul (.v 0) (.mul (.mul (.v 1) (.v 1)) (.v 1))) (.neg (.mul (.mul (.v 0) (.mul (.mul (.v 2) (.v 2)) (.v 2))) (.mul (.mul (.mul (.v 1) (.v 3)) (.mul (.v 1) (.v 3))) (.mul (.v 1) (.v 3)))))) (.mul (.mul (.neg (.mul (.v 0) (.mul (.mul (.v 1) (.v 1)) (.v 1)))) (.add (.add (.mul (.mul (.v 2) (.v 3)) (.mul (.v 2) (.v 3))) (.mul (.v 2) (.v 3))) .one)) (.add (.mul (.v 2) (.v 3)) (.neg .one))) (by kernel_rfl))
  · exact comb1 (K := K) (c1 := (K.mul (K.neg (K.mul x2 (K.mul j j))) (K.add (K.mul z1 i) K.one))) h1 (ring_id K (envL K [x2, j, z1, i]) (.add (.mul (.v 0) (.mul (.v 1) (.v 1))) (.neg (.mul (.mul (.v 0) (.mul (.v 2) (.v 2))) (.mul (.mul (.v 3) (.v 1)) (.mul (.v 3) (.v 1)))))) (.mul (.mul (.neg (.mul (.v 0) (.mul (.v 1) (.v 1)))) (.add (.mul (.v 2) (.v 3)) .one)) (.add (.mul (.v 2) (.v 3)) (.neg .one))) (by kernel_rfl))
  · exact comb1 (K := K) (c1 := (K.mul (K.neg (K.mul y2 (K.mul (K.mul j j) j))) (K.add (K.add (K.mul (K.mul z1 i) (K.mul z1 i)) (K.mul z1 i)) K.one))) h1 (ring_id K (envL K [y2, j, z1, i]) (.add (.mul (.v 0) (.mul (.mul (.v 1) (.v 1)) (.v 1))) (.neg (.mul (.mul (.v 0) (.mul (.mul (.v 2) (.v 2)) (.v 2))) (.mul (.mul (.mul (.v 3) (.v 1)) (.mul (.v 3) (.v 1))) (.mul (.v 3) (.v 1)))))) (.mul (.mul (.neg (.mul (.v 0) (.mul (.mul (.v 1) (.v 1)) (.v 1)))) (.add (.add (.mul (.mul (.v 2) (.v 3)) (.mul (.v 2) (.v 3))) (.mul (.v 2) (.v 3))) .one)) (.add (.mul (.v 2) (.v 3)) (.neg .one))) (by kernel_rfl))
/-- the sum by the chord, over one denominator -/
theorem chord_eq (E : EC K inv b) {px py qx qy w zz j : R} (hw : K.mul zz w = K.one) (ha : K.sub qx px ≠ K.zero) (hj : K.mul (K.mul zz (K.sub qx px)) j = K.one) :
    ptA K inv (some (K.mul px (K.mul w w), K.mul py (K.mul (K.mul w w) w))) (some (K.mul qx (K.mul w w), K.mul qy (K.mul (K.mul w w) w))) = some (K.mul (sX K px (K.sub qx px) (K.sub qy py)) (K.mul j j), K.mul (sY K px py (K.sub qx px) (K.sub qy py)) (K.mul (K.mul j j) j)) := by
  have hw0 : w ≠ K.zero := fun e => E.F.ne (by rw [← hw, e, K.mul_zero])
  have e : w = K.mul (K.sub qx px) j := comb2 (K := K) (c1 := (K.neg w)) (c2 := (K.mul (K.sub qx px) j)) hj hw (ring_id K (envL K [w, qx, px, j, zz]) (.add (.v 0) (.neg (.mul (.add (.v 1) (.neg (.v 2))) (.v 3)))) (.add (.mul (.neg (.v 0)) (.add (.mul (.mul (.v 4) (.add (.v 1) (.neg (.v 2)))) (.v 3)) (.neg .one))) (.mul (.mul (.add (.v 1) (.neg (.v 2))) (.v 3)) (.add (.mul (.v 4) (.v 0)) (.neg .one)))) (by kernel_rfl))
  have hx : K.mul px (K.mul w w) ≠ K.mul qx (K.mul w w) := fun h => by
    refine E.F.mul_ne ha (E.F.mul_ne hw0 hw0) ?_
    have : K.mul (K.sub qx px) (K.mul w w) = K.sub (K.mul qx (K.mul w w)) (K.mul px (K.mul w w)) := ring_id K (envL K [qx, px, w]) (.mul (.add (.v 0) (.neg (.v 1))) (.mul (.v 2) (.v 2))) (.add (.mul (.v 0) (.mul (.v 2) (.v 2))) (.neg (.mul (.v 1) (.mul (.v 2) (.v 2))))) (by kernel_rfl)
    rw [this, h]
    exact K.add_neg _
  rw [ptA_sum (fun h => hx h.1)]
  dsimp only
  have hs := slope_chord (l := (K.mul (K.sub qy py) j)) (y1 := K.mul py (K.mul (K.mul w w) w)) (y2 := K.mul qy (K.mul (K.mul w w) w)) E hx (by
    subst e
    exact ring_id K (envL K [qy, py, j, qx, px]) (.mul (.mul (.add (.v 0) (.neg (.v 1))) (.v 2)) (.add (.mul (.v 3) (.mul (.mul (.add (.v 3) (.neg (.v 4))) (.v 2)) (.mul (.add (.v 3) (.neg (.v 4))) (.v 2)))) (.neg (.mul (.v 4) (.mul (.mul (.add (.v 3) (.neg (.v 4))) (.v 2)) (.mul (.add (.v 3) (.neg (.v 4))) (.v 2))))))) (.add (.mul (.v 0) (.mul (.mul (.mul (.add (.v 3) (.neg (.v 4))) (.v 2)) (.mul (.add (.v 3) (.neg (.v 4))) (.v 2))) (.mul (.add (.v 3) (.neg (.v 4))) (.v 2)))) (.neg (.mul (.v 1) (.mul (.mul (.mul (.add (.v 3) (.neg (.v 4))) (.v 2)) (.mul (.add (.v 3) (.neg (.v 4))) (.v 2))) (.mul (.add (.v 3) (.neg (.v 4))) (.v 2)))))) (by kernel_rfl))
  rw [hs]
  subst e
  refine congrArg some (Prod.ext ?_ ?_)
  · exact ring_id K (envL K [qy, py, j, px, qx]) (.add (.add (.mul (.mul (.add (.v 0) (.neg (.v 1))) (.v 2)) (.mul (.add (.v 0) (.neg (.v 1))) (.v 2))) (.neg (.mul (.v 3) (.mul (.mul (.add (.v 4) (.neg (.v 3))) (.v 2)) (.mul (.add (.v 4) (.neg (.v 3))) (.v 2)))))) (.neg (.mul (.v 4) (.mul (.mul (.add (.v 4) (.neg (.v 3))) (.v 2)) (.mul (.add (.v 4) (.neg (.v 3))) (.v 2)))))) (.mul (.add (.add (.mul (.add (.v 0) (.neg (.v 1))) (.add (.v 0) (.neg (.v 1)))) (.neg (.mul (.mul (.add (.v 4) (.neg (.v 3))) (.add (.v 4) (.neg (.v 3)))) (.add (.v 4) (.neg (.v 3)))))) (.neg (.add (.mul (.v 3) (.mul (.add (.v 4) (.neg (.v 3))) (.add (.v 4) (.neg (.v 3))))) (.mul (.v 3) (.mul (.add (.v 4) (.neg (.v 3))) (.add (.v 4) (.neg (.v 3)))))))) (.mul (.v 2) (.v 2))) (by kernel_rfl)
  · exact ring_id K (envL K [qy, py, j, px, qx]) (.add (.mul (.mul (.add (.v 0) (.neg (.v 1))) (.v 2)) (.add (.mul (.v 3) (.mul (.mul (.add (.v 4) (.neg (.v 3))) (.v 2)) (.mul (.add (.v 4) (.neg (.v 3))) (.v 2)))) (.neg (.add (.add (.mul (.mul (.add (.v 0) (.neg (.v 1))) (.v 2)) (.mul (.add (.v 0) (.neg (.v 1))) (.v 2))) (.neg (.mul (.v 3) (.mul (.mul (.add (.v 4) (.neg (.v 3))) (.v 2)) (.mul (.add (.v 4) (.neg (.v 3))) (.v 2)))))) (.neg (.mul (.v 4) (.mul (.mul (.add (.v 4) (.neg (.v 3))) (.v 2)) (.mul (.add (.v 4) (.neg (.v 3))) (.v 2))))))))) (.neg (.mul (.v 1) (.mul (.mul (.mul (.add (.v 4) (.neg (.v 3))) (.v 2)) (.mul (.add (.v 4) (.neg (.v 3))) (.v 2))) (.mul (.add (.v 4) (.neg (.v 3))) (.v 2)))))) (.mul (.add (.mul (.add (.v 0) (.neg (.v 1))) (.add (.mul (.v 3) (.mul (.add (.v 4) (.neg (.v 3))) (.add (.v 4) (.neg (.v 3))))) (.neg (.add (.add (.mul (.add (.v 0) (.neg (.v 1))) (.add (.v 0) (.neg (.v 1)))) (.neg (.mul (.mul (.add (.v 4) (.neg (.v 3))) (.add (.v 4) (.neg (.v 3)))) (.add (.v 4) (.neg (.v 3)))))) (.neg (.add (.mul (.v 3) (.mul (.add (.v 4) (.neg (.v 3))) (.add (.v 4) (.neg (.v 3))))) (.mul (.v 3) (.mul (.add (.v 4) (.neg (.v 3))) (.add (.v 4) (.neg (.v 3))))))))))) (.neg (.mul (.v 1) (.mul (.mul (.add (.v 4) (.neg (.v 3))) (.add (.v 4) (.neg (.v 3)))) (.add (.v 4) (.neg (.v 3))))))) (.mul (.mul (.v 2) (.v 2)) (.v 2))) (by kernel_rfl)
theorem sq_opp (E : EC K inv b) {y1 y2 : R} (h : K.mul y1 y1 = K.mul y2 y2) (hn : y1 ≠ y2) : K.add y1 y2 = K.zero := by
  refine E.F.zd (a := K.sub y1 y2) ?_ (sub_ne hn)
  have : K.mul (K.sub y1 y2) (K.add y1 y2) = K.sub (K.mul y1 y1) (K.mul y2 y2) := ring_id K (envL K [y1, y2]) (.mul (.add (.v 0) (.neg (.v 1))) (.add (.v 0) (.v 1))) (.add (.mul (.v 0) (.v 0)) (.neg (.mul (.v 1) (.v 1)))) (by kernel_rfl)
  rw [this, h]
  exact K.add_neg _
theorem jto_sum (E : EC K inv b) {p q : Jc R} (hp : On K b (jto K inv p)) (hq : On K b (jto K inv q)) (h1 : p.2.2 ≠ K.zero) (h2 : q.2.2 ≠ K.zero) (hn : ¬ (jac K p q = K.zero ∧ jup K p q = K.zero)) :
    jto K inv (jsum K p q) = ptA K inv (jto K inv p) (jto K inv q) := by
  obtain ⟨w, hw, e1, e2⟩ := jto_beside (K := K) (inv := inv) E h1 h2
  rw [e1] at hp
  rw [e2] at hq
  rw [e1, e2]
  by_cases ha : jac K p q = K.zero
  · have hx : jbx K q p = jbx K p q := sub_eq_zero ha
    have hu : jup K p q ≠ K.zero := fun e => hn ⟨ha, e⟩
    have hw0 : w ≠ K.zero := fun e => E.F.ne (by rw [← hw, e, K.mul_zero])
    have hy : K.mul (jby K p q) (K.mul (K.mul w w) w) ≠ K.mul (jby K q p) (K.mul (K.mul w w) w) := fun h => by
      refine E.F.mul_ne hu (E.F.mul_ne (E.F.mul_ne hw0 hw0) hw0) ?_
      show K.mul (K.sub (jby K q p) (jby K p q)) _ = _
      have e0 : ∀ s t c : R, K.mul (K.sub s t) c = K.sub (K.mul s c) (K.mul t c) := fun s t c => ring_id K (envL K [s, t, c]) (.mul (.add (.v 0) (.neg (.v 1))) (.v 2)) (.add (.mul (.v 0) (.v 2)) (.neg (.mul (.v 1) (.v 2)))) (by kernel_rfl)
      rw [e0, h]
      exact K.add_neg _
    rw [hx] at hq ⊢
    have ho := sq_opp (y1 := K.mul (jby K p q) (K.mul (K.mul w w) w)) (y2 := K.mul (jby K q p) (K.mul (K.mul w w) w)) E ((show K.mul _ _ = _ from hp).trans (show K.mul _ _ = _ from hq).symm) hy
    rw [ptA_opp (p := (K.mul (jbx K p q) (K.mul w w), K.mul (jby K p q) (K.mul (K.mul w w) w))) (q := (K.mul (jbx K p q) (K.mul w w), K.mul (jby K q p) (K.mul (K.mul w w) w))) ⟨rfl, ho⟩]
    refine jto_zero ?_
    show K.mul (K.mul p.2.2 q.2.2) (jac K p q) = K.zero
    rw [ha, K.mul_zero]
  · have hz : K.mul (K.mul p.2.2 q.2.2) (jac K p q) ≠ K.zero := E.F.mul_ne (E.F.mul_ne h1 h2) ha
    have hj := E.F.inv _ hz
    refine (jto_some (p := jsum K p q) hz).trans ?_
    exact (chord_eq E hw ha hj).symm
theorem jto_plus (E : EC K inv b) {p q : Jc R} (hp : On K b (jto K inv p)) (hq : On K b (jto K inv q)) : jto K inv (jplus K p q) = ptA K inv (jto K inv p) (jto K inv q) := by
  unfold jplus
  by_cases h1 : p.2.2 = K.zero
  · rw [if_pos h1, jto_zero h1]; rfl
  · rw [if_neg h1]
    by_cases h2 : q.2.2 = K.zero
    · rw [if_pos h2, jto_zero h2, jto_some h1]; rfl
    · rw [if_neg h2]
      by_cases h3 : jac K p q = K.zero ∧ jup K p q = K.zero
      · rw [if_pos h3]
        obtain ⟨w, hw, e1, e2⟩ := jto_beside (K := K) (inv := inv) E h1 h2
        have hx : jbx K q p = jbx K p q := sub_eq_zero h3.1
        have hy : jby K q p = jby K p q := sub_eq_zero h3.2
        rw [jto_dbl E hp]
        rw [hx, hy] at e2
        rw [e2, e1]
      · rw [if_neg h3]
        exact jto_sum E hp hq h1 h2 h3
theorem jto_rplus (E : EC K inv b) {p q : Jc R} (hp : On K b (jto K inv p)) (hq : On K b (jto K inv q)) : jto K inv (rplus K p q) = ptA K inv (jto K inv p) (jto K inv q) := by
  rw [← jto_plus E hp hq]
  unfold rplus jplus
  by_cases h1 : p.2.2 = K.zero
  · rw [if_pos h1, if_pos h1]
  · rw [if_neg h1, if_neg h1]
    by_cases h2 : q.2.2 = K.zero
    · rw [if_pos h2, if_pos h2]
    · rw [if_neg h2, if_neg h2]
      by_cases h3 : jac K p q = K.zero ∧ jup K p q = K.zero
      · rw [if_pos h3, if_pos h3]
      · rw [if_neg h3, if_neg h3]
        by_cases h4 : jac K p q = K.zero
        · rw [if_pos h4, jto_zero rfl]
          refine (jto_zero ?_).symm
          show K.mul (K.mul p.2.2 q.2.2) (jac K p q) = K.zero
          rw [h4, K.mul_zero]
        · rw [if_neg h4]
def jneg (K : CR R) (p : Jc R) : Jc R := (p.1, K.sub K.zero p.2.1, p.2.2)
theorem jto_neg (p : Jc R) : jto K inv (jneg K p) = ptN K (jto K inv p) := by
  by_cases h : p.2.2 = K.zero
  · rw [jto_zero h, jto_zero (p := jneg K p) h]; rfl
  · rw [jto_some h, jto_some (p := jneg K p) h]
    refine congrArg some (Prod.ext rfl ?_)
    show K.mul (K.sub K.zero p.2.1) _ = K.neg (K.mul p.2.1 _)
    rw [← K.neg_mul]
    congr 1
    exact K.zero_add _
end
end Go.Proofs.Ytebaoemoeckgaaa.Ex
namespace Go.Proofs.Ytebaoemoeckgaaa.Ex
set_option linter.unusedVariables false
set_option linter.unusedSimpArgs false
open Go.RowKit
theorem w4_inj {x y : Fq} (h : w4 x.1 = w4 y.1) : x = y := by
  unfold w4 at h
  simp only [List.cons.injEq, Value.int.injEq, true_and, and_true, Int.ofNat_inj] at h
  apply Fin.ext
  rw [← fw_valp x.2, ← fw_valp y.2, h.1, h.2.1, h.2.2.1, h.2.2.2]
theorem e1_inj {a b : Fq} (h : flat [.f a] = flat [.f b]) : a = b := w4_inj (by
  have h' : w4 a.1 ++ [] = w4 b.1 ++ [] := h
  rwa [List.append_nil, List.append_nil] at h')
end Go.Proofs.Ytebaoemoeckgaaa.Ex
namespace Go.Proofs.Ytebaoemoeckgaaa.Ex
set_option linter.unusedVariables false
set_option linter.unusedSimpArgs false
open Go.RowKit

/-- a number below p, as it comes in -/
def vp : At → Option (List Prop × Fq)
  | .f x => some ([], x)
  | .q x => some ([wv x < FP.M], m1 x)
  | .c _ => none
theorem vp_ok {a : At} {p : List Prop} {x : Fq} (h : vp a = some (p, x)) (hp : allP p) : ∃ n : Nat, flat [a] = flat (q1 n) ∧ m1 n = x ∧ wv n < FP.M := by
  cases a with
  | f y => cases h; exact ⟨x.1, rfl, m1_nv x, by unfold wv; rw [fw_valp x.2]; exact x.2⟩
  | q y => cases h; exact ⟨_, rfl, rfl, hp.1⟩
  | c v => cases h
def g2p (op : Fq → Fq → RV) : Ent
  | [.v (.fl [a]), .v (.fl [b])] => match vp a, vp b with
    | some (p, x), some (q, y) => some (p ++ q, op x y)
    | _, _ => none
  | _ => none
theorem g2p_ok {P : Program} {f : FuncId} {op : Fq → Fq → RV} (h : ∀ a b : Nat, wv a < FP.M → wv b < FP.M → ∀ args w, CAs w [.v (.fl (q1 a)), .v (.fl (q1 b))] args → Good P f (op (m1 a) (m1 b)) args w) :
    ∀ cs pre r, g2p op cs = some (pre, r) → allP pre → ∀ (args : List Value) (w : World), CAs w cs args → Good P f r args w := by
  intro cs pre r hg hp args w ha
  unfold g2p at hg
  split at hg
  · rename_i a b
    split at hg
    · rename_i p x q y hx hy
      cases hg
      obtain ⟨p1, p2⟩ := allP_append.1 hp
      obtain ⟨n, e1, rfl, hn⟩ := vp_ok hx p1
      obtain ⟨m, e2, rfl, hm⟩ := vp_ok hy p2
      refine h n m hn hm args w ?_
      match args, ha with
      | [v, u], ha =>
        have h1 : v = .agg (flat [a]).toArray := ha.1
        have h2 : u = .agg (flat [b]).toArray := ha.2.1
        rw [e1] at h1
        rw [e2] at h2
        exact ⟨h1, h2, trivial⟩
      | [], ha => exact ha.elim
      | [_], ha => exact ha.2.elim
      | _ :: _ :: _ :: _, ha => exact ha.2.2.elim
    · cases hg
  · cases hg
/-- the first field's calls of two elements -/
def gF2 (op : Fq → Fq → Fq) : Ent
  | [.v (.im (.int .i64 (.ofNat 1))), .v (.fl [a]), .v (.fl [b])] => match vp a, vp b with
    | some (p, x), some (q, y) => some (p ++ q, .many [.fl (e1 (op x y)), .im (.int .i64 0)])
    | _, _ => none
  | _ => none
theorem gF2_ok {f : FuncId} {op : Fq → Fq → Fq} (h : ∀ (a b : Nat) (w : World), wv a < FP.M → wv b < FP.M → Calls Try.prog f #[.int .i64 1, .agg (flat (q1 a)).toArray, .agg (flat (q1 b)).toArray] w (FeE 0 (op (m1 a) (m1 b)).1 w)) :
    ∀ cs pre r, gF2 op cs = some (pre, r) → allP pre → ∀ (args : List Value) (w : World), CAs w cs args → Good Try.prog f r args w := by
  intro cs pre r hg hp args w ha
  unfold gF2 at hg
  split at hg
  · rename_i a b
    split at hg
    · rename_i p x q y hx hy
      cases hg
      obtain ⟨p1, p2⟩ := allP_append.1 hp
      obtain ⟨n, e1, rfl, hn⟩ := vp_ok hx p1
      obtain ⟨m, e2, rfl, hm⟩ := vp_ok hy p2
      match args, ha with
      | [t, v, u], ha =>
        have h0 : t = .int .i64 1 := ha.1
        have h1 : v = .agg (flat [a]).toArray := ha.2.1
        have h2 : u = .agg (flat [b]).toArray := ha.2.2.1
        rw [e1] at h1
        rw [e2] at h2
        subst h0; subst h1; subst h2
        refine (h n m w hn hm).mono ?_
        rintro e w' ⟨s0, s1, s2, s3, rfl, hs, hv, hb⟩
        obtain ⟨rfl, rfl, rfl, rfl⟩ := fw_of hs (fp_lt (op (m1 n) (m1 m)).2) hv
        exact ⟨rfl, hb⟩
      | [], ha => exact ha.elim
      | [_], ha => exact ha.2.elim
      | [_, _], ha => exact ha.2.2.elim
      | _ :: _ :: _ :: _ :: _, ha => exact ha.2.2.2.elim
    · cases hg
  · cases hg
theorem f_add (a b : Nat) (w : World) (ha : wv a < FP.M) (hb : wv b < FP.M) : Calls Try.prog 57 #[.int .i64 1, .agg (flat (q1 a)).toArray, .agg (flat (q1 b)).toArray] w (FeE 0 (F1.add (m1 a) (m1 b)).1 w) := by
  have e : (F1.add (m1 a) (m1 b)).1 = (wv a + wv b) % FP.M := (Nat.add_mod _ _ _).symm
  rw [e]
  exact fadd_ok 1 FP fld1 _ _ _ _ _ _ _ _ (fw_ok a) (fw_ok b) ha hb w
theorem f_mul (a b : Nat) (w : World) (ha : wv a < FP.M) (hb : wv b < FP.M) : Calls Try.prog 133 #[.int .i64 1, .agg (flat (q1 a)).toArray, .agg (flat (q1 b)).toArray] w (FeE 0 (F1.mul (m1 a) (m1 b)).1 w) := by
  have e : (F1.mul (m1 a) (m1 b)).1 = (wv a * wv b) % FP.M := (Nat.mul_mod _ _ _).symm
  rw [e]
  exact fmul_ok 1 FP fld1 _ _ _ _ _ _ _ _ (fw_ok a) (fw_ok b) ha hb w
theorem f_sub (a b : Nat) (w : World) (ha : wv a < FP.M) (hb : wv b < FP.M) : Calls Try.prog 142 #[.int .i64 1, .agg (flat (q1 a)).toArray, .agg (flat (q1 b)).toArray] w (FeE 0 (F1.sub (m1 a) (m1 b)).1 w) := by
  have e : (F1.sub (m1 a) (m1 b)).1 = (wv a + FP.M - wv b) % FP.M := by
    show (wv a % FP.M + (0 + FP.M - wv b % FP.M) % FP.M) % FP.M = _
    rw [Nat.mod_eq_of_lt ha, Nat.mod_eq_of_lt hb, Nat.add_mod_mod]
    congr 1
    omega
  rw [e]
  exact fsub_ok 1 FP fld1 _ _ _ _ _ _ _ _ (fw_ok a) (fw_ok b) ha hb w
/-- d: is it below p? -/
def gChk (d : Bool) : Ent
  | [.v (.im (.int .i64 (.ofNat 1))), .v (.fl l)] => match rq1 l with
    | some x => bif d then some ([wv x < FP.M], .one (.im (.int .i64 0))) else some ([¬ wv x < FP.M], .one (.im (.int .i64 21)))
    | none => none
  | _ => none
theorem gChk_ok (d : Bool) : ∀ cs pre r, gChk d cs = some (pre, r) → allP pre → ∀ (args : List Value) (w : World), CAs w cs args → Good Try.prog 132 r args w := by
  intro cs pre r hg hp args w ha
  unfold gChk at hg
  split at hg
  · rename_i l
    split at hg
    · rename_i x hx
      match args, ha with
      | [v, u], ha =>
        have h1 : v = .int .i64 1 := ha.1
        have h2 : u = .agg (flat l).toArray := ha.2.1
        rw [rq1_ok l x hx] at h2
        subst h1; subst h2
        cases d
        · cases hg
          exact fcheck_err 1 21 _ _ _ _ (fw_ok x) (Or.inr ⟨FP, fld1, hp.1, rfl⟩) w
        · cases hg
          exact fcheck_ok 1 FP fld1 _ _ _ _ (fw_ok x) hp.1 w
      | [], ha => exact ha.elim
      | [_], ha => exact ha.2.elim
      | _ :: _ :: _ :: _, ha => exact ha.2.2.elim
    · cases hg
  · cases hg

noncomputable def T_fAdd (d : Bool) : Tab := (T_r2Inv true).add 57 (gF2 F1.add)
theorem ok_fAdd (d : Bool) : TabOk Try.prog (T_fAdd d) := (ok_r2Inv true).add Try.func57 (by kernel_rfl) (by kernel_rfl) (gF2_ok f_add)
noncomputable def T_fMul (d : Bool) : Tab := (T_fAdd d).add 133 (gF2 F1.mul)
theorem ok_fMul (d : Bool) : TabOk Try.prog (T_fMul d) := (ok_fAdd d).add Try.func133 (by kernel_rfl) (by kernel_rfl) (gF2_ok f_mul)
noncomputable def T_fSub (d : Bool) : Tab := (T_fMul d).add 142 (gF2 F1.sub)
theorem ok_fSub (d : Bool) : TabOk Try.prog (T_fSub d) := (ok_fMul d).add Try.func142 (by kernel_rfl) (by kernel_rfl) (gF2_ok f_sub)
noncomputable def T_fChk (d : Bool) : Tab := (T_fSub d).add 132 (gChk d)
theorem ok_fChk (d : Bool) : TabOk Try.prog (T_fChk d) := (ok_fSub d).add Try.func132 (by kernel_rfl) (by kernel_rfl) (gChk_ok d)
set_option maxRecDepth 100000 in
theorem run_sPlus (d : Bool) (x y : Nat) : funA Try.prog (T_fChk d) qN (fun _ => true) Try.f130 40 [.v (.fl (q1 x)), .v (.fl (q1 y))] = some ([wv x < FP.M, wv y < FP.M], .one (.fl (e1 (F1.add (m1 x) (m1 y))))) := by kernel_rfl
noncomputable def T_sPlus (d : Bool) : Tab := (T_fChk d).add 130 (g2p fun x y => .one (.fl (e1 (F1.add x y))))
theorem ok_sPlus (d : Bool) : TabOk Try.prog (T_sPlus d) := (ok_fChk d).add Try.func130 (by kernel_rfl) (by kernel_rfl) (g2p_ok fun x y hx hy args w ha => fun_sound hmix (ok_fChk d) qN_ok Try.func130 (run_sPlus d x y) ⟨hx, hy, trivial⟩ ha)
set_option maxRecDepth 100000 in
theorem run_sMinus (d : Bool) (x y : Nat) : funA Try.prog (T_sPlus d) qN (fun _ => true) Try.f141 40 [.v (.fl (q1 x)), .v (.fl (q1 y))] = some ([wv x < FP.M, wv y < FP.M], .one (.fl (e1 (F1.sub (m1 x) (m1 y))))) := by kernel_rfl
noncomputable def T_sMinus (d : Bool) : Tab := (T_sPlus d).add 141 (g2p fun x y => .one (.fl (e1 (F1.sub x y))))
theorem ok_sMinus (d : Bool) : TabOk Try.prog (T_sMinus d) := (ok_sPlus d).add Try.func141 (by kernel_rfl) (by kernel_rfl) (g2p_ok fun x y hx hy args w ha => fun_sound hmix (ok_sPlus d) qN_ok Try.func141 (run_sMinus d x y) ⟨hx, hy, trivial⟩ ha)
set_option maxRecDepth 100000 in
theorem run_sTimes (d : Bool) (x y : Nat) : funA Try.prog (T_sMinus d) qN (fun _ => true) Try.f131 40 [.v (.fl (q1 x)), .v (.fl (q1 y))] = some ([wv x < FP.M, wv y < FP.M], .one (.fl (e1 (F1.mul (m1 x) (m1 y))))) := by kernel_rfl
noncomputable def T_sTimes (d : Bool) : Tab := (T_sMinus d).add 131 (g2p fun x y => .one (.fl (e1 (F1.mul x y))))
theorem ok_sTimes (d : Bool) : TabOk Try.prog (T_sTimes d) := (ok_sMinus d).add Try.func131 (by kernel_rfl) (by kernel_rfl) (g2p_ok fun x y hx hy args w ha => fun_sound hmix (ok_sMinus d) qN_ok Try.func131 (run_sTimes d x y) ⟨hx, hy, trivial⟩ ha)
set_option maxRecDepth 100000 in
theorem run_sOne (d : Bool) (x : Nat) : funA Try.prog (T_sTimes d) qN (fun _ => true) Try.f129 40 [.v (.fl (q1 x))] = some ([], .one (.fl (e1 F1.one))) := by kernel_rfl
noncomputable def T_sOne (d : Bool) : Tab := (T_sTimes d).add 129 (g1 rv1 (fun x => ([], .one (.fl (e1 F1.one)))))
theorem ok_sOne (d : Bool) : TabOk Try.prog (T_sOne d) := (ok_sTimes d).add Try.func129 (by kernel_rfl) (by kernel_rfl) (g1v_ok rv1_ok fun x hp args w ha => fun_sound hmix (ok_sTimes d) qN_ok Try.func129 (run_sOne d x) hp ha)
set_option maxRecDepth 100000 in
theorem run_sCon (d : Bool) (x : Nat) : funA Try.prog (T_sOne d) qN (fun _ => true) Try.f127 40 [.v (.fl (q1 x))] = some ([], .one (.fl (e1 (fm 3)))) := by kernel_rfl
noncomputable def T_sCon (d : Bool) : Tab := (T_sOne d).add 127 (g1 rv1 (fun x => ([], .one (.fl (e1 (fm 3))))))
theorem ok_sCon (d : Bool) : TabOk Try.prog (T_sCon d) := (ok_sOne d).add Try.func127 (by kernel_rfl) (by kernel_rfl) (g1v_ok rv1_ok fun x hp args w ha => fun_sound hmix (ok_sOne d) qN_ok Try.func127 (run_sCon d x) hp ha)
set_option maxRecDepth 100000 in
theorem run_sMay_t (x : Nat) : funA Try.prog (T_sCon true) qN (fun _ => true) Try.f128 40 [.v (.fl (q1 x))] = some ([wv x < FP.M], .one (.im (.bool true))) := by kernel_rfl
set_option maxRecDepth 100000 in
theorem run_sMay_f (x : Nat) : funA Try.prog (T_sCon false) qN (fun _ => true) Try.f128 40 [.v (.fl (q1 x))] = some ([¬ wv x < FP.M], .one (.im (.bool false))) := by kernel_rfl
def oMay (d : Bool) (x : Nat) : List Prop × RV := bif d then ([wv x < FP.M], .one (.im (.bool true))) else ([¬ wv x < FP.M], .one (.im (.bool false)))
theorem oMay_ok (d : Bool) (x : Nat) (hp : allP (oMay d x).1) (args : List Value) (w : World) (ha : CAs w [.v (.fl (q1 x))] args) : Good Try.prog 128 (oMay d x).2 args w := by
  cases d
  · exact fun_sound hmix (ok_sCon false) qN_ok Try.func128 (run_sMay_f x) hp ha
  · exact fun_sound hmix (ok_sCon true) qN_ok Try.func128 (run_sMay_t x) hp ha
noncomputable def T_sMay (d : Bool) : Tab := (T_sCon d).add 128 (g1 rq1 (oMay d))
theorem ok_sMay (d : Bool) : TabOk Try.prog (T_sMay d) := (ok_sCon d).add Try.func128 (by kernel_rfl) (by kernel_rfl) (g1_ok rq1_ok fun x hp args w ha => oMay_ok d x hp args w ha)
def b2E : Q2 := (⟨19485874751759354771024239261021720505790618469301721065564631296452457478373, by decide⟩, ⟨266929791119991161246907387137283842545076965332900288569378510910307636690, by decide⟩)
end Go.Proofs.Ytebaoemoeckgaaa.Ex
