/-
  An automorphism of the field, scaled, goes over the curve's sums. Conditions: none.
  CurvePsi answers true. Conditions: none.
-/
import Derived.Test.YthlcjdcjnioeoaaGreatCj16
import Derived.Test.YthlcjdcjnioeoaaGreatCj19
namespace Go.Proofs.YthlcjdcjnioeoaaGreat.Ex
set_option linter.unusedVariables false
set_option linter.unusedSimpArgs false
open Classical
section
variable {R : Type} {K : CR R} {inv : R → R} {b : R}
/-- s is an automorphism, k scales -/
structure Tw (K : CR R) (b : R) (s : R → R) (k : R) : Prop where
  add : ∀ x y, s (K.add x y) = K.add (s x) (s y)
  mul : ∀ x y, s (K.mul x y) = K.mul (s x) (s y)
  neg : ∀ x, s (K.neg x) = K.neg (s x)
  zero : s K.zero = K.zero
  ss : ∀ x, s (s x) = x
  k0 : k ≠ K.zero
  hb : K.mul (K.mul (K.mul (K.mul k k) k) (K.mul (K.mul k k) k)) (s b) = b
def tw (K : CR R) (s : R → R) (k : R) : Pt R → Pt R
  | none => none
  | some p => some (K.mul (s p.1) (K.mul k k), K.mul (s p.2) (K.mul (K.mul k k) k))
variable {s : R → R} {k : R}
theorem Tw.inj (t : Tw K b s k) {x y : R} (h : s x = s y) : x = y := by rw [← t.ss x, h, t.ss]
theorem Tw.sub (t : Tw K b s k) (x y : R) : s (K.sub x y) = K.sub (s x) (s y) := by
  show s (K.add x (K.neg y)) = K.add (s x) (K.neg (s y))
  rw [t.add, t.neg]
theorem mul_can (E : EC K inv b) {x y c : R} (hc : c ≠ K.zero) (h : K.mul x c = K.mul y c) : x = y := by
  have h1 := congrArg (fun z => K.mul z (inv c)) h
  have h2 := E.F.inv c hc
  simp only [K.mul_assoc, h2, K.mul_one] at h1
  exact h1
theorem Tw.k2 (t : Tw K b s k) (E : EC K inv b) : K.mul k k ≠ K.zero := E.F.mul_ne t.k0 t.k0
theorem Tw.k3 (t : Tw K b s k) (E : EC K inv b) : K.mul (K.mul k k) k ≠ K.zero := E.F.mul_ne (t.k2 E) t.k0
theorem tw_on (t : Tw K b s k) (E : EC K inv b) : ∀ {P : Pt R}, On K b P → On K b (tw K s k P)
  | none, _ => trivial
  | some p, h => by
    have h' : K.mul p.2 p.2 = K.add (K.mul p.1 (K.mul p.1 p.1)) b := h
    have h1 := congrArg s h'
    rw [t.mul, t.add, t.mul, t.mul] at h1
    show K.mul (K.mul (s p.2) (K.mul (K.mul k k) k)) (K.mul (s p.2) (K.mul (K.mul k k) k)) = K.add (K.mul (K.mul (s p.1) (K.mul k k)) (K.mul (K.mul (s p.1) (K.mul k k)) (K.mul (s p.1) (K.mul k k)))) b
    have e1 : K.mul (K.mul (s p.2) (K.mul (K.mul k k) k)) (K.mul (s p.2) (K.mul (K.mul k k) k)) = K.mul (K.mul (K.mul (K.mul k k) k) (K.mul (K.mul k k) k)) (K.mul (s p.2) (s p.2)) := ring_id K (envL K [s p.2, k]) (.mul (.mul (.v 0) (.mul (.mul (.v 1) (.v 1)) (.v 1))) (.mul (.v 0) (.mul (.mul (.v 1) (.v 1)) (.v 1)))) (.mul (.mul (.mul (.mul (.v 1) (.v 1)) (.v 1)) (.mul (.mul (.v 1) (.v 1)) (.v 1))) (.mul (.v 0) (.v 0))) (by decide)
    have e2 : K.mul (K.mul (s p.1) (K.mul k k)) (K.mul (K.mul (s p.1) (K.mul k k)) (K.mul (s p.1) (K.mul k k))) = K.mul (K.mul (K.mul (K.mul k k) k) (K.mul (K.mul k k) k)) (K.mul (s p.1) (K.mul (s p.1) (s p.1))) := ring_id K (envL K [s p.1, k]) (.mul (.mul (.v 0) (.mul (.v 1) (.v 1))) (.mul (.mul (.v 0) (.mul (.v 1) (.v 1))) (.mul (.v 0) (.mul (.v 1) (.v 1))))) (.mul (.mul (.mul (.mul (.v 1) (.v 1)) (.v 1)) (.mul (.mul (.v 1) (.v 1)) (.v 1))) (.mul (.v 0) (.mul (.v 0) (.v 0)))) (by decide)
    rw [e1, e2, h1, K.mul_add, t.hb]
theorem tw_slope (t : Tw K b s k) (E : EC K inv b) {x1 y1 x2 y2 : R} (hp : On K b (some (x1, y1))) (hq : On K b (some (x2, y2))) (h : ¬ (x1 = x2 ∧ K.add y1 y2 = K.zero)) :
    slope K inv (K.mul (s x1) (K.mul k k)) (K.mul (s y1) (K.mul (K.mul k k) k)) (K.mul (s x2) (K.mul k k)) (K.mul (s y2) (K.mul (K.mul k k) k)) = K.mul (s (slope K inv x1 y1 x2 y2)) k := by
  by_cases hx : x1 = x2
  · subst hx
    have hy : K.add y1 y2 ≠ K.zero := fun e => h ⟨rfl, e⟩
    have hyy : y1 = y2 := by
      apply Classical.byContradiction
      intro hn
      exact hy (sq_opp E (show K.mul y1 y1 = K.mul y2 y2 from (show K.mul y1 y1 = _ from hp).trans (show K.mul y2 y2 = _ from hq).symm) hn)
    subst hyy
    have hl : K.mul (slope K inv x1 y1 x1 y1) (K.add y1 y1) = K.add (K.add (K.mul x1 x1) (K.mul x1 x1)) (K.mul x1 x1) := by
      unfold slope
      rw [if_pos rfl, K.mul_assoc, K.mul_comm (inv _), E.F.inv _ hy, K.mul_one]
    generalize slope K inv x1 y1 x1 y1 = l at hl ⊢
    have h1 := congrArg s hl
    rw [t.mul, t.add, t.add, t.add, t.mul] at h1
    have hys : K.add (s y1) (s y1) ≠ K.zero := fun e => hy (t.inj (by rw [t.add, t.zero]; exact e))
    refine slope_dbl E ?_ ?_
    · intro e
      refine hys ?_
      apply mul_can E (t.k3 E)
      rw [K.add_mul, e, K.mul_comm K.zero, K.mul_zero]
    · have e1 : K.mul (K.mul (s l) k) (K.add (K.mul (s y1) (K.mul (K.mul k k) k)) (K.mul (s y1) (K.mul (K.mul k k) k))) = K.mul (K.mul (s l) (K.add (s y1) (s y1))) (K.mul (K.mul k k) (K.mul k k)) := ring_id K (envL K [s l, k, s y1]) (.mul (.mul (.v 0) (.v 1)) (.add (.mul (.v 2) (.mul (.mul (.v 1) (.v 1)) (.v 1))) (.mul (.v 2) (.mul (.mul (.v 1) (.v 1)) (.v 1))))) (.mul (.mul (.v 0) (.add (.v 2) (.v 2))) (.mul (.mul (.v 1) (.v 1)) (.mul (.v 1) (.v 1)))) (by decide)
      rw [e1, h1]
      exact ring_id K (envL K [s x1, k]) (.mul (.add (.add (.mul (.v 0) (.v 0)) (.mul (.v 0) (.v 0))) (.mul (.v 0) (.v 0))) (.mul (.mul (.v 1) (.v 1)) (.mul (.v 1) (.v 1)))) (.add (.add (.mul (.mul (.v 0) (.mul (.v 1) (.v 1))) (.mul (.v 0) (.mul (.v 1) (.v 1)))) (.mul (.mul (.v 0) (.mul (.v 1) (.v 1))) (.mul (.v 0) (.mul (.v 1) (.v 1))))) (.mul (.mul (.v 0) (.mul (.v 1) (.v 1))) (.mul (.v 0) (.mul (.v 1) (.v 1))))) (by decide)
  · have hl : K.mul (slope K inv x1 y1 x2 y2) (K.sub x2 x1) = K.sub y2 y1 := by
      unfold slope
      rw [if_neg hx, K.mul_assoc, K.mul_comm (inv _), E.F.inv _ (sub_ne fun e => hx e.symm), K.mul_one]
    generalize slope K inv x1 y1 x2 y2 = l at hl ⊢
    have h1 := congrArg s hl
    rw [t.mul, t.sub, t.sub] at h1
    refine slope_chord E (fun e => hx (t.inj (mul_can E (t.k2 E) e))) ?_
    have e1 : K.mul (K.mul (s l) k) (K.sub (K.mul (s x2) (K.mul k k)) (K.mul (s x1) (K.mul k k))) = K.mul (K.mul (s l) (K.sub (s x2) (s x1))) (K.mul (K.mul k k) k) := ring_id K (envL K [s l, k, s x1, s x2]) (.mul (.mul (.v 0) (.v 1)) (.add (.mul (.v 3) (.mul (.v 1) (.v 1))) (.neg (.mul (.v 2) (.mul (.v 1) (.v 1)))))) (.mul (.mul (.v 0) (.add (.v 3) (.neg (.v 2)))) (.mul (.mul (.v 1) (.v 1)) (.v 1))) (by decide)
    rw [e1, h1]
    exact ring_id K (envL K [s y1, k, s y2]) (.mul (.add (.v 2) (.neg (.v 0))) (.mul (.mul (.v 1) (.v 1)) (.v 1))) (.add (.mul (.v 2) (.mul (.mul (.v 1) (.v 1)) (.v 1))) (.neg (.mul (.v 0) (.mul (.mul (.v 1) (.v 1)) (.v 1))))) (by decide)
theorem tw_add (t : Tw K b s k) (E : EC K inv b) : ∀ {P Q : Pt R}, On K b P → On K b Q → tw K s k (ptA K inv P Q) = ptA K inv (tw K s k P) (tw K s k Q)
  | none, _, _, _ => rfl
  | some p, none, _, _ => rfl
  | some p, some q, hp, hq => by
    by_cases h : p.1 = q.1 ∧ K.add p.2 q.2 = K.zero
    · rw [ptA_opp h]
      refine (ptA_opp ⟨?_, ?_⟩).symm
      · show K.mul (s p.1) _ = K.mul (s q.1) _
        rw [h.1]
      · show K.add (K.mul (s p.2) _) (K.mul (s q.2) _) = K.zero
        rw [← K.add_mul, ← t.add, h.2, t.zero, K.mul_comm, K.mul_zero]
    · rw [ptA_sum h]
      have h' : ¬ (K.mul (s p.1) (K.mul k k) = K.mul (s q.1) (K.mul k k) ∧ K.add (K.mul (s p.2) (K.mul (K.mul k k) k)) (K.mul (s q.2) (K.mul (K.mul k k) k)) = K.zero) := fun e => h ⟨t.inj (mul_can E (t.k2 E) e.1), by
        have e2 := e.2
        rw [← K.add_mul, ← t.add] at e2
        exact t.inj (by rw [t.zero]; exact mul_can E (t.k3 E) (by rw [e2, K.mul_comm K.zero, K.mul_zero]))⟩
      have hS := ptA_sum (K := K) (inv := inv) (p := (K.mul (s p.1) (K.mul k k), K.mul (s p.2) (K.mul (K.mul k k) k))) (q := (K.mul (s q.1) (K.mul k k), K.mul (s q.2) (K.mul (K.mul k k) k))) h'
      refine Eq.trans ?_ hS.symm
      rw [tw_slope t E (x1 := p.1) (y1 := p.2) (x2 := q.1) (y2 := q.2) hp hq h]
      generalize slope K inv p.1 p.2 q.1 q.2 = l
      have ex : s (sx K l p.1 q.1) = K.sub (K.sub (K.mul (s l) (s l)) (s p.1)) (s q.1) := by
        unfold sx
        rw [t.sub, t.sub, t.mul]
      have ey : s (sy K l p.1 p.2 q.1) = K.sub (K.mul (s l) (K.sub (s p.1) (s (sx K l p.1 q.1)))) (s p.2) := by
        unfold sy
        rw [t.sub, t.mul, t.sub]
      have fx : K.mul (s (sx K l p.1 q.1)) (K.mul k k) = sx K (K.mul (s l) k) (K.mul (s p.1) (K.mul k k)) (K.mul (s q.1) (K.mul k k)) := by
        rw [ex]
        exact ring_id K (envL K [s l, k, s p.1, s q.1]) (.mul (.add (.add (.mul (.v 0) (.v 0)) (.neg (.v 2))) (.neg (.v 3))) (.mul (.v 1) (.v 1))) (.add (.add (.mul (.mul (.v 0) (.v 1)) (.mul (.v 0) (.v 1))) (.neg (.mul (.v 2) (.mul (.v 1) (.v 1))))) (.neg (.mul (.v 3) (.mul (.v 1) (.v 1))))) (by decide)
      refine congrArg some (Prod.ext fx ?_)
      show K.mul (s (sy K l p.1 p.2 q.1)) (K.mul (K.mul k k) k) = sy K (K.mul (s l) k) (K.mul (s p.1) (K.mul k k)) (K.mul (s p.2) (K.mul (K.mul k k) k)) (K.mul (s q.1) (K.mul k k))
      rw [ey]
      unfold sy
      rw [← fx]
      generalize s (sx K l p.1 q.1) = S
      exact ring_id K (envL K [s l, k, s p.1, S, s p.2]) (.mul (.add (.mul (.v 0) (.add (.v 2) (.neg (.v 3)))) (.neg (.v 4))) (.mul (.mul (.v 1) (.v 1)) (.v 1))) (.add (.mul (.mul (.v 0) (.v 1)) (.add (.mul (.v 2) (.mul (.v 1) (.v 1))) (.neg (.mul (.v 3) (.mul (.v 1) (.v 1)))))) (.neg (.mul (.v 4) (.mul (.mul (.v 1) (.v 1)) (.v 1))))) (by decide)
end
end Go.Proofs.YthlcjdcjnioeoaaGreat.Ex
namespace Go.Proofs.YthlcjdcjnioeoaaGreat.Ex
set_option linter.unusedVariables false
set_option linter.unusedSimpArgs false
open Go.RowKit
def kE : Q2 := (⟨8376118865763821496583973867626364092589906065868298776909617916018768340080, by decide⟩, ⟨16469823323077808223889137241176536799009286646108169935659301613961712198316, by decide⟩)
theorem k_third : F2.mul kE kE = thirdE := of_decide_eq_true (by kernel_rfl)
theorem k_half : F2.mul (F2.mul kE kE) kE = halfE := of_decide_eq_true (by kernel_rfl)
theorem cj_add (x y : Q2) : conj2' (F2.add x y) = F2.add (conj2' x) (conj2' y) := Prod.ext rfl (ring_id F1 (envL F1 [x.2, y.2]) (.neg (.add (.v 0) (.v 1))) (.add (.neg (.v 0)) (.neg (.v 1))) (by decide))
theorem cj_mul (x y : Q2) : conj2' (F2.mul x y) = F2.mul (conj2' x) (conj2' y) := by
  refine Prod.ext ?_ ?_
  · exact ring_id F1 (envL F1 [x.1, x.2, y.1, y.2]) (.add (.mul (.v 0) (.v 2)) (.mul (.neg .one) (.mul (.v 1) (.v 3)))) (.add (.mul (.v 0) (.v 2)) (.mul (.neg .one) (.mul (.neg (.v 1)) (.neg (.v 3))))) (by decide)
  · exact ring_id F1 (envL F1 [x.1, x.2, y.1, y.2]) (.neg (.add (.mul (.v 0) (.v 3)) (.mul (.v 1) (.v 2)))) (.add (.mul (.v 0) (.neg (.v 3))) (.mul (.neg (.v 1)) (.v 2))) (by decide)
theorem twPsi : Tw F2 b2E conj2' kE where
  add := cj_add
  mul := cj_mul
  neg := fun x => rfl
  zero := cj_zero
  ss := fun x => Prod.ext rfl (ring_id F1 (envL F1 [x.2]) (.neg (.neg (.v 0))) (.v 0) (by decide))
  k0 := of_decide_eq_true (by kernel_rfl)
  hb := of_decide_eq_true (by kernel_rfl)
theorem psP_tw : ∀ P : Pt Q2, psP P = tw F2 conj2' kE P
  | none => rfl
  | some p => by
    show some (F2.mul (conj2' p.1) thirdE, F2.mul (conj2' p.2) halfE) = some (F2.mul (conj2' p.1) (F2.mul kE kE), F2.mul (conj2' p.2) (F2.mul (F2.mul kE kE) kE))
    rw [k_third, ← k_half, k_third]
/-- the p-power map over the group -/
def psi (P : C2) : C2 := ⟨psP P.1, by rw [psP_tw]; exact tw_on twPsi ec2 P.2⟩
theorem psi_add (P Q : C2) : psi (ec2.grp.add P Q) = ec2.grp.add (psi P) (psi Q) := Subtype.ext (by
  show psP (ptA F2 iv2 P.1 Q.1) = ptA F2 iv2 (psP P.1) (psP Q.1)
  rw [psP_tw, psP_tw, psP_tw]
  exact tw_add twPsi ec2 P.2 Q.2)
theorem psi_ns (P : C2) : ∀ n, psi (ec2.grp.ns n P) = ec2.grp.ns n (psi P)
  | 0 => rfl
  | n + 1 => by
    show psi (ec2.grp.add (ec2.grp.ns n P) P) = ec2.grp.add (ec2.grp.ns n (psi P)) (psi P)
    rw [psi_add, psi_ns P n]
theorem psi_gen : psi (cp2 g2n) = ec2.grp.ns lessN (cp2 g2n) := by
  refine Subtype.ext ?_
  rw [g2_less]
  show psP (cp2 g2n).1 = _
  rw [cp2_eq g2_ck, show af2 g2n = some (g2X, g2Y) from af2_pt g2X g2Y]
  kernel_rfl
theorem psi_less (n : Nat) : psi (ec2.grp.ns n (cp2 g2n)) = ec2.grp.ns lessN (ec2.grp.ns n (cp2 g2n)) := by
  rw [psi_ns, psi_gen, ← ec2.grp.ns_mul, ← ec2.grp.ns_mul, Nat.mul_comm]
theorem tPsi (P : C2) : resPsi (tn2 P.1) = ((psi P).1, 0) := by
  unfold resPsi
  rw [if_neg (fun q => q (tn2_ck P.2)), af2_tn]
  rfl
theorem tIn (n : Nat) : in2P (tn2 (ec2.grp.ns n (cp2 g2n)).1) = true := by
  unfold in2P
  rw [tPsi, tM2, wv_less, psi_less]
  exact decide_eq_true ⟨rfl, rfl⟩
theorem fp_sum : wv FP.M = lessN + ord := by kernel_rfl
set_option maxRecDepth 100000 in
theorem run_psi (a b : Nat) : funB Tryz.prog (qG Tryz.prog) (fun _ => ⟨fun s => T_works, fun s => true, assoc [(40, .bool false), (43, .bool false), (110, .bool true)]⟩) Tryz.f7 100 [.v (.fl [.q a]), .v (.fl [.q b])] = some ([intOp .neq .i64 (resM2 (fun _ => g2n) (fun _ => a) 1).2 0 = some (.bool false), intOp .neq .i64 (resM2 (fun _ => g2n) (fun _ => b) 1).2 0 = some (.bool false), in2P (tn2 (resM2 (fun _ => g2n) (fun _ => a) 1).1) = true, flat (gf2 (resPsi (tn2 (resS2 (p2 (tn2 (resM2 (fun _ => g2n) (fun _ => a) 1).1) (tn2 (resM2 (fun _ => g2n) (fun _ => b) 1).1)) 2).1)).1) = flat (gf2 (resS2 (p2 (tn2 (resPsi (tn2 (resM2 (fun _ => g2n) (fun _ => a) 1).1)).1) (tn2 (resPsi (tn2 (resM2 (fun _ => g2n) (fun _ => b) 1).1)).1)) 2).1), flat (gf2 (resPsi (tn2 (resM2 (fun _ => g2n) (fun _ => a) 1).1)).1) = flat (gf2 (resM2 (fun _ => (tn2 (resM2 (fun _ => g2n) (fun _ => a) 1).1)) (fun _ => FP.M) 1).1), flat (gf2 (resS2 (p2 (tn2 (resM2 (fun _ => g2n) (fun _ => a) 1).1) (tn2 (resN2 (tn2 (resM2 (fun _ => g2n) (fun _ => a) 1).1)).1)) 2).1) = flat (gf2 none), intOp .eql .i64 (ckN2 (tn2 (resS2 (p2 (tn2 (resM2 (fun _ => g2n) (fun _ => a) 1).1) (tn2 (resM2 (fun _ => g2n) (fun _ => b) 1).1)) 2).1)).1 0 = some (.bool true), in2P (tn2 (resS2 (p2 (tn2 (resM2 (fun _ => g2n) (fun _ => a) 1).1) (tn2 (resM2 (fun _ => g2n) (fun _ => b) 1).1)) 2).1) = true], .one (.im (.bool true))) := by kernel_rfl
theorem psi_calls (a b : Nat) (w : World) : Calls Tryz.prog 7 #[.agg (flat (q1 a)).toArray, .agg (flat (q1 b)).toArray] w (fun e w' => e = .returned (.bool true) ∧ Below w.heap.size w w') := by
  refine funB_sound (r := .one (.im (.bool true))) hmix (fun _ s => ok_works) (qG_ok Tryz.prog) Tryz.func7 (run_psi a b) ?_ (args := [.agg (flat (q1 a)).toArray, .agg (flat (q1 b)).toArray]) ⟨rfl, rfl, trivial⟩
  have hM : ∀ n, resM2 (fun _ => g2n) (fun _ => n) 1 = ((ec2.grp.ns (wv n) (cp2 g2n)).1, 0) := fun n => by
    have := tM2 (cp2 g2n) n
    rwa [g2_tn] at this
  have hI := tIn (wv a)
  have hS : in2P (tn2 (ec2.grp.add (ec2.grp.ns (wv a) (cp2 g2n)) (ec2.grp.ns (wv b) (cp2 g2n))).1) = true := by
    rw [← ec2.grp.ns_add]; exact tIn _
  have hO : ec2.grp.ns ord (ec2.grp.ns (wv a) (cp2 g2n)) = ec2.grp.zero := by
    rw [← ec2.grp.ns_mul, Nat.mul_comm, ec2.grp.ns_mul, g2_ord, ec2.grp.ns_zero]
  have hP : psi (ec2.grp.ns (wv a) (cp2 g2n)) = ec2.grp.ns (wv FP.M) (ec2.grp.ns (wv a) (cp2 g2n)) := by
    rw [fp_sum, ec2.grp.ns_add, hO, ec2.grp.addz, psi_less]
  simp only [hM]
  generalize ec2.grp.ns (wv a) (cp2 g2n) = P at hI hS hP
  generalize ec2.grp.ns (wv b) (cp2 g2n) = Q at hS
  simp only [tS2, tM2, tN2, tPsi, tC2]
  refine ⟨(by first | exact True.intro | rfl), (by first | exact True.intro | rfl), hI, ?_, ?_, ?_, (by first | exact True.intro | rfl), hS, trivial⟩
  · rw [psi_add]
  · rw [hP]
  · rw [ec2.grp.addn]; rfl
end Go.Proofs.YthlcjdcjnioeoaaGreat.Ex
