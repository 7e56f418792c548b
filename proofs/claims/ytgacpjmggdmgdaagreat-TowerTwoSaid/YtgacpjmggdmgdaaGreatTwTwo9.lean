/-
  Squares and roots in Fp and Fp2. Conditions: none.
  The reference's way to the root in Fp2. Conditions: none.
  As till_take of the region's laws, where the condition stands behind every operation: no last one. Of whatever program. Conditions: as the law says.
  FieldSums: the helpers two and same, and the statement where something may not be. Conditions: words below 2^64.
  FieldSquares: a product is a square just if both or none of its factors are; a root's square is the element: the cases. Conditions: words below 2^64.
  The reference's Sqrt, for either field: an element with a root: the lower one; else refused. Conditions: the element is below the modulus.
-/
import Derived.Test.YtgacpjmggdmgdaaGreatTwCyc9
import Derived.Test.YtgacpjmggdmgdaaGreatTill
import Derived.Test.YtgacpjmggdmgdaaGreatFRing9
import Derived.Test.YtgacpjmggdmgdaaGreatRefB
import Derived.Test.YtgacpjmggdmgdaaGreatApi4
namespace Go.Proofs.YtgacpjmggdmgdaaGreat.Ex
set_option linter.unusedVariables false
set_option linter.unusedSimpArgs false
set_option maxRecDepth 10000
theorem root_id1 {R : Type} (K : CR R) (a b n h k X : R) : (K.mul (K.mul (K.mul b h) k) (K.mul (K.mul b h) k)) = (K.add (K.add (K.add (K.add (K.sub (K.mul X X) a) (K.mul (K.mul (K.sub (K.mul X X) a) (K.add (K.mul X k) K.one)) (K.sub (K.mul X k) K.one))) (K.mul (K.neg (K.mul (K.mul k k) (K.sub (K.add (K.mul X X) (K.mul (K.add a n) h)) (K.add (K.mul a h) (K.mul a h))))) (K.sub (K.mul X X) (K.mul (K.add a n) h)))) (K.mul (K.neg (K.mul (K.mul (K.mul k k) a) (K.mul X X))) (K.sub (K.add h h) K.one))) (K.mul (K.neg (K.mul (K.mul h h) (K.mul k k))) (K.sub (K.mul n n) (K.add (K.mul a a) (K.mul b b))))) :=
  ring_id K (envL K [a, b, n, h, k, X]) (.mul (.mul (.mul (.v 1) (.v 3)) (.v 4)) (.mul (.mul (.v 1) (.v 3)) (.v 4))) (.add (.add (.add (.add (.add (.mul (.v 5) (.v 5)) (.neg (.v 0))) (.mul (.mul (.add (.mul (.v 5) (.v 5)) (.neg (.v 0))) (.add (.mul (.v 5) (.v 4)) .one)) (.add (.mul (.v 5) (.v 4)) (.neg .one)))) (.mul (.neg (.mul (.mul (.v 4) (.v 4)) (.add (.add (.mul (.v 5) (.v 5)) (.mul (.add (.v 0) (.v 2)) (.v 3))) (.neg (.add (.mul (.v 0) (.v 3)) (.mul (.v 0) (.v 3))))))) (.add (.mul (.v 5) (.v 5)) (.neg (.mul (.add (.v 0) (.v 2)) (.v 3)))))) (.mul (.neg (.mul (.mul (.mul (.v 4) (.v 4)) (.v 0)) (.mul (.v 5) (.v 5)))) (.add (.add (.v 3) (.v 3)) (.neg .one)))) (.mul (.neg (.mul (.mul (.v 3) (.v 3)) (.mul (.v 4) (.v 4)))) (.add (.mul (.v 2) (.v 2)) (.neg (.add (.mul (.v 0) (.v 0)) (.mul (.v 1) (.v 1))))))) (by decide)
theorem root_id2 {R : Type} (K : CR R) (a b n h k X : R) : (K.add (K.mul X (K.mul (K.mul b h) k)) (K.mul (K.mul (K.mul b h) k) X)) = (K.add (K.add b (K.mul (K.mul b (K.mul X k)) (K.sub (K.add h h) K.one))) (K.mul b (K.sub (K.mul X k) K.one))) :=
  ring_id K (envL K [a, b, n, h, k, X]) (.add (.mul (.v 5) (.mul (.mul (.v 1) (.v 3)) (.v 4))) (.mul (.mul (.mul (.v 1) (.v 3)) (.v 4)) (.v 5))) (.add (.add (.v 1) (.mul (.mul (.v 1) (.mul (.v 5) (.v 4))) (.add (.add (.v 3) (.v 3)) (.neg .one)))) (.mul (.v 1) (.add (.mul (.v 5) (.v 4)) (.neg .one)))) (by decide)
theorem root_id3 {R : Type} (K : CR R) (a b n h k X : R) : (K.mul (K.mul (K.add a n) h) (K.mul (K.sub a n) h)) = (K.add (K.neg (K.mul (K.mul b h) (K.mul b h))) (K.mul (K.neg (K.mul h h)) (K.sub (K.mul n n) (K.add (K.mul a a) (K.mul b b))))) :=
  ring_id K (envL K [a, b, n, h, k, X]) (.mul (.mul (.add (.v 0) (.v 2)) (.v 3)) (.mul (.add (.v 0) (.neg (.v 2))) (.v 3))) (.add (.neg (.mul (.mul (.v 1) (.v 3)) (.mul (.v 1) (.v 3)))) (.mul (.neg (.mul (.v 3) (.v 3))) (.add (.mul (.v 2) (.v 2)) (.neg (.add (.mul (.v 0) (.v 0)) (.mul (.v 1) (.v 1))))))) (by decide)
theorem root_ids {R : Type} (K : CR R) {a b n h k X : R} (g1 : K.mul X X = K.mul (K.add a n) h) (g2 : K.mul n n = K.add (K.mul a a) (K.mul b b)) (g3 : K.add h h = K.one) (g4 : K.mul X k = K.one) :
    K.mul (K.mul (K.mul b h) k) (K.mul (K.mul b h) k) = K.sub (K.mul X X) a ∧ K.add (K.mul X (K.mul (K.mul b h) k)) (K.mul (K.mul (K.mul b h) k) X) = b := by
  have d1 := sub_self' K (K.mul (K.add a n) h)
  have z1 : K.sub (K.mul X X) (K.mul (K.add a n) h) = K.zero := by rw [g1]; exact sub_self' K _
  have z2 : K.sub (K.mul n n) (K.add (K.mul a a) (K.mul b b)) = K.zero := by rw [g2]; exact sub_self' K _
  have z3 : K.sub (K.add h h) K.one = K.zero := by rw [g3]; exact sub_self' K _
  have z4 : K.sub (K.mul X k) K.one = K.zero := by rw [g4]; exact sub_self' K _
  constructor
  · rw [root_id1 K a b n h k X, z1, z2, z3, z4]
    simp only [K.mul_zero, K.add_zero]
  · rw [root_id2 K a b n h k X, z3, z4]
    simp only [K.mul_zero, K.add_zero]
theorem root_prod {R : Type} (K : CR R) {a b n h : R} (g2 : K.mul n n = K.add (K.mul a a) (K.mul b b)) : K.mul (K.mul (K.add a n) h) (K.mul (K.sub a n) h) = K.neg (K.mul (K.mul b h) (K.mul b h)) := by
  have z2 : K.sub (K.mul n n) (K.add (K.mul a a) (K.mul b b)) = K.zero := by rw [g2]; exact sub_self' K _
  rw [root_id3 K a b n h n n, z2, K.mul_zero, K.add_zero]
theorem sq_pm {R : Type} {K : CR R} (hF : Fld K) {a b : R} (h : K.mul a a = K.mul b b) : a = b ∨ a = K.neg b := by
  have h1 : K.mul (K.sub a b) (K.add a b) = K.zero := by
    have : K.mul (K.sub a b) (K.add a b) = K.sub (K.mul a a) (K.mul b b) :=
      ring_id K (envL K [a, b]) (.mul (.add (.v 0) (.neg (.v 1))) (.add (.v 0) (.v 1))) (.add (.mul (.v 0) (.v 0)) (.neg (.mul (.v 1) (.v 1)))) (by decide)
    rw [this, h, sub_self']
  by_cases h2 : K.sub a b = K.zero
  · exact Or.inl (sub_zero_of K h2)
  · refine Or.inr ?_
    have h3 := hF.zd h1 h2
    refine sub_zero_of K ?_
    show K.add a (K.neg (K.neg b)) = K.zero
    rw [K.neg_neg]
    exact h3
theorem ep_val' : ok4 5694840236247301970 7340967054546858659 7931984006246061591 871749566700742666 ∧ val4 5694840236247301970 7340967054546858659 7931984006246061591 871749566700742666 + val4 5694840236247301970 7340967054546858659 7931984006246061591 871749566700742666 = FP.M / 2 + 1 := ⟨by unfold ok4; decide, by kernel_rfl⟩
theorem rootP_sq' {A : Nat} (h : A ^ (FP.M / 2) % FP.M = 1 ∨ A = 0) : A ^ val4 5694840236247301970 7340967054546858659 7931984006246061591 871749566700742666 % FP.M * (A ^ val4 5694840236247301970 7340967054546858659 7931984006246061591 871749566700742666 % FP.M) % FP.M = A % FP.M := by
  rw [← Nat.mul_mod, ← Nat.pow_add, ep_val'.2, Nat.pow_succ, Nat.mul_mod]
  rcases h with h | h
  · rw [h, Nat.one_mul, Nat.mod_mod]
  · subst h; rw [Nat.zero_mod, Nat.mul_zero, Nat.zero_mod]
/-- a square -/
def isq (x : Fq) : Prop := ∃ V : Fq, F1.mul V V = x
/-- is it the lower one, of it and its negative? -/
def lowF (x : Fq) : Bool := lowB FP.M x.1
theorem hM : FP.M = 21888242871839275222246405745257275088696311157297823662689037894645226208583 := by decide
theorem neg_val' (x : Fq) : (F1.neg x).1 = (0 + FP.M - x.1) % FP.M := rfl
theorem neg_pos {x : Fq} (h : x.1 ≠ 0) : (F1.neg x).1 = FP.M - x.1 := by
  have := x.2
  rw [neg_val', Nat.zero_add, Nat.mod_eq_of_lt (by omega)]
theorem low_iff {x : Fq} (h : x.1 ≠ 0) : lowF x = true ↔ x.1 ≤ FP.M - x.1 := by
  have := x.2
  unfold lowF lowB
  rw [decide_eq_true_iff, Nat.zero_add, Nat.mod_eq_of_lt (show FP.M - x.1 < FP.M by omega)]
theorem low_zero : lowF F1.zero = true := by
  unfold lowF lowB
  exact decide_eq_true (Nat.zero_le _)
theorem f1_zero {x : Fq} (h : x.1 = 0) : x = F1.zero := Fin.ext h
theorem low_or (x : Fq) : lowF x = true ∨ lowF (F1.neg x) = true := by
  by_cases h : x.1 = 0
  · rw [f1_zero h]; exact Or.inl low_zero
  · have h2 := x.2
    have hn : (F1.neg x).1 ≠ 0 := by rw [neg_pos h]; omega
    rw [low_iff h, low_iff hn, neg_pos h]
    omega
theorem low_both {x : Fq} (h : lowF x = true) (h' : lowF (F1.neg x) = true) : x = F1.zero := by
  by_cases h0 : x.1 = 0
  · exact f1_zero h0
  · have h2 := x.2
    have hn : (F1.neg x).1 ≠ 0 := by rw [neg_pos h0]; omega
    rw [low_iff h0] at h
    rw [low_iff hn, neg_pos h0] at h'
    have := hM
    omega
theorem low_neg {x : Fq} (h : lowF x = false) : lowF (F1.neg x) = true := (low_or x).resolve_left (by rw [h]; simp)
theorem isq_leg (x : Fq) : isq x ↔ legN FP.M x.1 ≠ -1 := by
  constructor
  · rintro ⟨V, rfl⟩
    show legN FP.M (V.1 * V.1 % FP.M) ≠ -1
    unfold legN
    by_cases h : V.1 = 0
    · rw [h, Nat.zero_mul, Nat.zero_mod, if_pos rfl]; decide
    · split
      · decide
      · rw [if_pos (leg_sq fpRoot (by decide) (by omega) V.2)]; decide
  · intro h
    have hs : x.1 ^ (FP.M / 2) % FP.M = 1 ∨ x.1 = 0 := by
      unfold legN at h
      by_cases h0 : x.1 = 0
      · exact Or.inr h0
      · rw [if_neg h0] at h
        by_cases h1 : x.1 ^ (FP.M / 2) % FP.M = 1
        · exact Or.inl h1
        · rw [if_neg h1] at h; exact absurd rfl h
    refine ⟨⟨x.1 ^ val4 5694840236247301970 7340967054546858659 7931984006246061591 871749566700742666 % FP.M, Nat.mod_lt _ fp_pos⟩, Fin.ext ?_⟩
    exact (rootP_sq' hs).trans (Nat.mod_eq_of_lt x.2)
theorem not_isq (x : Fq) : ¬ isq x ↔ legN FP.M x.1 = -1 := by rw [isq_leg]; exact Decidable.not_not
theorem leg_F (a b : Fq) : legN FP.M (F1.mul a b).1 = legN FP.M a.1 * legN FP.M b.1 := leg_mul fpRoot (by decide) (by decide) a.2 b.2
theorem isq_nn {a b : Fq} (ha : ¬ isq a) (hb : ¬ isq b) : isq (F1.mul a b) := by
  rw [not_isq] at ha hb
  rw [isq_leg, leg_F, ha, hb]
  decide
theorem no_neg1 : ¬ isq (F1.neg F1.one) := fun ⟨V, h⟩ => no_neg V h
theorem neg1_mul (x : Fq) : F1.mul (F1.neg F1.one) x = F1.neg x := by rw [F1.neg_mul, F1.one_mul]
theorem isq_neg {x : Fq} (h : ¬ isq x) : isq (F1.neg x) := by rw [← neg1_mul]; exact isq_nn no_neg1 h
theorem sq_not_neg {x : Fq} (hx : x ≠ F1.zero) (h : isq x) : ¬ isq (F1.neg x) := by
  rintro ⟨W, hW⟩
  obtain ⟨V, rfl⟩ := h
  have hV : V ≠ F1.zero := fun e => hx (by rw [e, F1.mul_zero])
  obtain ⟨t, ht⟩ := div_sq fld1' hV (show F1.mul W W = F1.mul (F1.neg F1.one) (F1.mul V V) by rw [hW, neg1_mul])
  exact no_neg t ht
theorem isq_zero : isq F1.zero := ⟨F1.zero, F1.mul_zero _⟩
open Classical in
/-- the root that is told -/
noncomputable def fsq (x : Fq) : Fq := if h : ∃ V : Fq, F1.mul V V = x ∧ lowF V = true then Classical.choose h else F1.zero
theorem fsq_spec {x : Fq} (h : isq x) : F1.mul (fsq x) (fsq x) = x ∧ lowF (fsq x) = true := by
  have h' : ∃ V : Fq, F1.mul V V = x ∧ lowF V = true := by
    obtain ⟨V, rfl⟩ := h
    rcases low_or V with l | l
    · exact ⟨V, rfl, l⟩
    · exact ⟨F1.neg V, by rw [F1.neg_mul, F1.mul_neg, F1.neg_neg], l⟩
  unfold fsq
  rw [dif_pos h']
  exact Classical.choose_spec h'
theorem fsq_uniq {x V : Fq} (h : F1.mul V V = x) (l : lowF V = true) : fsq x = V := by
  obtain ⟨h1, h2⟩ := fsq_spec ⟨V, h⟩
  rcases sq_pm fld1' (h1.trans h.symm) with e | e
  · exact e
  · have l' := h2
    rw [e] at l'
    have hz := low_both l l'
    rw [e, hz, neg_zero]
theorem fsq_zero : fsq F1.zero = F1.zero := fsq_uniq (F1.mul_zero _) low_zero
theorem fsq_nz {x : Fq} (h : isq x) (hx : x ≠ F1.zero) : fsq x ≠ F1.zero := fun e => hx (by rw [← (fsq_spec h).1, e, F1.mul_zero])
/-- which root in Fp2 is told -/
def low2 (r : Q2) : Prop := (r.2 = F1.zero → lowF r.1 = true) ∧ (r.2 ≠ F1.zero → lowF r.2 = true)
def isq2 (x : Q2) : Prop := ∃ r : Q2, F2.mul r r = x
open Classical in
noncomputable def rt (x : Q2) : Q2 := if h : ∃ r : Q2, F2.mul r r = x ∧ low2 r then Classical.choose h else F2.zero
theorem low2_uniq {r s : Q2} (h : F2.mul r r = F2.mul s s) (hr : low2 r) (hs : low2 s) : r = s := by
  rcases sq_pm fld2 h with e | e
  · exact e
  · have e1 : r.1 = F1.neg s.1 := congrArg Prod.fst e
    have e2 : r.2 = F1.neg s.2 := congrArg Prod.snd e
    by_cases hz : s.2 = F1.zero
    · have hz' : r.2 = F1.zero := by rw [e2, hz, neg_zero]
      have l1 := hr.1 hz'
      rw [e1] at l1
      have h1 := low_both (hs.1 hz) l1
      exact Prod.ext (by rw [e1, h1, neg_zero]) (by rw [hz', hz])
    · have hz' : r.2 ≠ F1.zero := fun h => hz (by rw [← F1.neg_neg s.2, ← e2, h, neg_zero])
      have l1 := hr.2 hz'
      rw [e2] at l1
      exact absurd (low_both (hs.2 hz) l1) hz
theorem rt_is {x r : Q2} (h : F2.mul r r = x) (hl : low2 r) : rt x = r := by
  have h' : ∃ r : Q2, F2.mul r r = x ∧ low2 r := ⟨r, h, hl⟩
  unfold rt
  rw [dif_pos h']
  have hs := Classical.choose_spec h'
  exact low2_uniq (hs.1.trans h.symm) hs.2 hl
theorem mul2_c (r : Q2) : F2.mul r r = (F1.sub (F1.mul r.1 r.1) (F1.mul r.2 r.2), F1.add (F1.mul r.1 r.2) (F1.mul r.2 r.1)) := by
  refine Prod.ext ?_ rfl
  show F1.add (F1.mul r.1 r.1) (F1.mul (F1.neg F1.one) (F1.mul r.2 r.2)) = F1.add (F1.mul r.1 r.1) (F1.neg (F1.mul r.2 r.2))
  rw [F1.neg_mul, F1.one_mul]
theorem neg2_sq (r : Q2) : F2.mul (F2.neg r) (F2.neg r) = F2.mul r r := by rw [F2.neg_mul, F2.mul_neg, F2.neg_neg]
theorem zsub2 (r : Q2) : F2.sub F2.zero r = F2.neg r := F2.zero_add _
/-- a half -/
noncomputable def hf : Fq := finv (fm 2)
theorem two_ne : fm 2 ≠ F1.zero := by decide
theorem hf_two : F1.add hf hf = F1.one := by
  have h := finv_mul two_ne
  have h2 : fm 2 = F1.add F1.one F1.one := by decide
  rw [← h]
  unfold hf
  conv => rhs; rw [h2]
  rw [F1.add_mul, F1.one_mul, ← h2]
/-- the root by the norm's root n, a square s = (a + n) / 2 -/
noncomputable def rr (x : Q2) (s : Fq) : Q2 := (fsq s, F1.mul (F1.mul x.2 hf) (finv (fsq s)))
theorem rr_sq {x : Q2} {n s : Fq} (hn : F1.mul n n = nm2 x) (hs : s = F1.mul (F1.add x.1 n) hf) (hq : isq s) (h0 : s ≠ F1.zero) : F2.mul (rr x s) (rr x s) = x := by
  have h1 := (fsq_spec hq).1
  have h4 := finv_mul (fsq_nz hq h0)
  obtain ⟨e1, e2⟩ := root_ids F1 (a := x.1) (b := x.2) (n := n) (h := hf) (k := finv (fsq s)) (X := fsq s) (h1.trans hs) hn hf_two h4
  rw [mul2_c]
  refine Prod.ext ?_ e2
  show F1.sub (F1.mul (fsq s) (fsq s)) (F1.mul (F1.mul (F1.mul x.2 hf) (finv (fsq s))) (F1.mul (F1.mul x.2 hf) (finv (fsq s)))) = x.1
  rw [e1]
  exact ring_id F1 (envL F1 [F1.mul (fsq s) (fsq s), x.1]) (.add (.v 0) (.neg (.add (.v 0) (.neg (.v 1))))) (.v 1) (by decide)
theorem hf_ne : hf ≠ F1.zero := fun e => by
  have := hf_two
  rw [e, F1.add_zero] at this
  exact F1_ne this.symm
theorem mul_nz {a b : Fq} (ha : a ≠ F1.zero) (hb : b ≠ F1.zero) : F1.mul a b ≠ F1.zero := fun e => hb (fld1'.zd e ha)
theorem neg_nz {a : Fq} (ha : a ≠ F1.zero) : F1.neg a ≠ F1.zero := fun e => ha (by rw [← F1.neg_neg a, e, neg_zero])
theorem s_prod {x : Q2} {n : Fq} (hn : F1.mul n n = nm2 x) (hx : x.2 ≠ F1.zero) : F1.mul (F1.add x.1 n) hf ≠ F1.zero ∧ F1.mul (F1.sub x.1 n) hf ≠ F1.zero ∧ (¬ isq (F1.mul (F1.add x.1 n) hf) → isq (F1.mul (F1.sub x.1 n) hf)) := by
  have hp := root_prod F1 (a := x.1) (b := x.2) (n := n) (h := hf) hn
  have hb : F1.mul (F1.mul x.2 hf) (F1.mul x.2 hf) ≠ F1.zero := mul_nz (mul_nz hx hf_ne) (mul_nz hx hf_ne)
  have hne := neg_nz hb
  rw [← hp] at hne
  refine ⟨fun e => hne (by rw [e, F1.zero_mul]), fun e => hne (by rw [e, F1.mul_zero]), fun h1 => Classical.byContradiction fun h2 => ?_⟩
  have h3 := isq_nn h1 h2
  rw [hp] at h3
  exact sq_not_neg hb ⟨_, rfl⟩ h3
theorem rr2 {x : Q2} {s : Fq} (hx : x.2 ≠ F1.zero) (h : F2.mul (rr x s) (rr x s) = x) : (rr x s).2 ≠ F1.zero := fun e => hx (by
  have := congrArg Prod.snd h
  rw [mul2_c] at this
  rw [← this]
  show F1.add (F1.mul _ (rr x s).2) (F1.mul (rr x s).2 _) = F1.zero
  rw [e, F1.mul_zero, F1.zero_mul, F1.add_zero])
/-- what is told where x is not in Fp and s is a square -/
theorem rt_low {x r : Q2} (h : F2.mul r r = x) (hr : r.2 ≠ F1.zero) : (lowF r.2 = true → rt x = r) ∧ (lowF r.2 = false → rt x = F2.neg r) := by
  refine ⟨fun l => rt_is h ⟨fun e => absurd e hr, fun _ => l⟩, fun l => rt_is ((neg2_sq r).trans h) ⟨fun e => ?_, fun _ => low_neg l⟩⟩
  exact absurd (show F1.neg r.2 = F1.zero from e) (neg_nz hr)
theorem not_isq2 {x : Q2} (h : ¬ isq (nm2 x)) : ¬ isq2 x := fun ⟨r, hr⟩ => h ⟨nm2 r, by rw [← nm2_mul, hr]⟩
/-- the root of what lies in Fp -/
theorem rt_part (a : Fq) : (isq a → rt (a, F1.zero) = (fsq a, F1.zero)) ∧ (¬ isq a → rt (a, F1.zero) = (F1.zero, fsq (F1.neg a))) ∧ isq2 (a, F1.zero) := by
  have k1 : isq a → F2.mul (fsq a, F1.zero) (fsq a, F1.zero) = (a, F1.zero) := fun h => by
    rw [mul2_c]
    refine Prod.ext ?_ ?_
    · show F1.sub (F1.mul (fsq a) (fsq a)) (F1.mul F1.zero F1.zero) = a
      rw [(fsq_spec h).1, F1.mul_zero]
      show F1.add a (F1.neg F1.zero) = a
      rw [neg_zero, F1.add_zero]
    · show F1.add (F1.mul _ F1.zero) (F1.mul F1.zero _) = F1.zero
      rw [F1.mul_zero, F1.zero_mul, F1.add_zero]
  have k2 : ¬ isq a → F2.mul (F1.zero, fsq (F1.neg a)) (F1.zero, fsq (F1.neg a)) = (a, F1.zero) := fun h => by
    rw [mul2_c]
    refine Prod.ext ?_ ?_
    · show F1.sub (F1.mul F1.zero F1.zero) (F1.mul (fsq (F1.neg a)) (fsq (F1.neg a))) = a
      rw [(fsq_spec (isq_neg h)).1, F1.mul_zero]
      show F1.add F1.zero (F1.neg (F1.neg a)) = a
      rw [F1.neg_neg, F1.zero_add]
    · show F1.add (F1.mul F1.zero _) (F1.mul _ F1.zero) = F1.zero
      rw [F1.mul_zero, F1.zero_mul, F1.add_zero]
  have l1 : isq a → low2 (fsq a, F1.zero) := fun h => by
    have h2 := (fsq_spec h).2
    generalize fsq a = u at h2 ⊢
    exact ⟨fun _ => h2, fun e => (e rfl).elim⟩
  have l2 : ¬ isq a → low2 (F1.zero, fsq (F1.neg a)) := fun h => by
    have h2 := (fsq_spec (isq_neg h)).2
    generalize fsq (F1.neg a) = u at h2 ⊢
    exact ⟨fun _ => low_zero, fun _ => h2⟩
  refine ⟨fun h => rt_is (k1 h) (l1 h), fun h => rt_is (k2 h) (l2 h), ?_⟩
  by_cases h : isq a
  · exact ⟨_, k1 h⟩
  · exact ⟨_, k2 h⟩
end Go.Proofs.YtgacpjmggdmgdaaGreat.Ex
namespace Go.Proofs.YtgacpjmggdmgdaaGreat.Ex
set_option linter.unusedVariables false
set_option linter.unusedSimpArgs false
set_option maxRecDepth 10000
/-- is a lower as the page says? -/
def lowR (x y : Q2) : Bool := decide (x.2.1 < y.2.1) || (decide (x.2.1 = y.2.1) && decide (x.1.1 ≤ y.1.1))
theorem sub_z (a : Fq) : F1.sub F1.zero a = F1.neg a := F1.zero_add _
theorem zsub2r (z : Q2) : F2.sub z F2.zero = z := by show F2.add z (F2.neg F2.zero) = z; rw [neg_zero, F2.add_zero]
theorem back_eq (b : Fq) {X : Fq} (h : X ≠ F1.zero) : F1.add X X ≠ F1.zero ∧ F1.mul b (finv (F1.add X X)) = F1.mul (F1.mul b hf) (finv X) := by
  have h1 : F1.mul (F1.add X X) (F1.mul hf (finv X)) = F1.one := by
    have e : F1.mul (F1.add X X) (F1.mul hf (finv X)) = F1.mul (F1.mul X (finv X)) (F1.add hf hf) :=
      ring_id F1 (envL F1 [X, hf, finv X]) (.mul (.add (.v 0) (.v 0)) (.mul (.v 1) (.v 2))) (.mul (.mul (.v 0) (.v 2)) (.add (.v 1) (.v 1))) (by decide)
    rw [e, finv_mul h, hf_two, F1.one_mul]
  have h2 : F1.add X X ≠ F1.zero := fun e => by rw [e, F1.zero_mul] at h1; exact F1_ne h1.symm
  refine ⟨h2, ?_⟩
  have h3 := finv_mul h2
  have h4 : finv (F1.add X X) = F1.mul hf (finv X) := by
    rw [← F1.mul_one (finv (F1.add X X)), ← h1, ← F1.mul_assoc, F1.mul_comm (finv _), h3, F1.one_mul]
  rw [h4, F1.mul_assoc]
theorem RB_rr {y : Q2} {s : Fq} (h : fsq s ≠ F1.zero) : (fsq s, F1.mul y.2 (finv (F1.add (fsq s) (fsq s)))) = rr y s := Prod.ext rfl (back_eq y.2 h).2
theorem lowR_nz {r : Q2} (h : r.2 ≠ F1.zero) : lowR r (F2.neg r) = lowF r.2 := by
  have hz : r.2.1 ≠ 0 := fun e => h (Fin.ext e)
  have h2 := r.2.2
  have hn : (F2.neg r).2.1 = FP.M - r.2.1 := neg_pos hz
  have hm := hM
  unfold lowR
  rw [hn]
  cases hl : lowF r.2
  · have h3 : ¬ r.2.1 ≤ FP.M - r.2.1 := fun e => by rw [(low_iff hz).2 e] at hl; cases hl
    rw [decide_eq_false (show ¬ r.2.1 < FP.M - r.2.1 by omega), decide_eq_false (show ¬ r.2.1 = FP.M - r.2.1 by omega)]
    rfl
  · have h3 := (low_iff hz).1 hl
    rw [decide_eq_true (show r.2.1 < FP.M - r.2.1 by omega)]
    rfl
theorem lowR_z {a : Fq} (hl : lowF a = true) : lowR (a, F1.zero) (F2.neg (a, F1.zero)) = true := by
  have h1 : (F2.neg (a, F1.zero)).2 = F1.zero := neg_zero F1
  have h3 : a.1 ≤ (F2.neg (a, F1.zero)).1.1 := by
    show a.1 ≤ (0 + FP.M - a.1) % FP.M
    unfold lowF lowB at hl
    exact of_decide_eq_true hl
  unfold lowR
  rw [h1]
  show (decide (F1.zero.1 < F1.zero.1) || (decide (F1.zero.1 = F1.zero.1) && decide (a.1 ≤ (F2.neg (a, F1.zero)).1.1))) = true
  rw [decide_eq_true h3, decide_eq_true (rfl : F1.zero.1 = F1.zero.1)]
  simp
theorem part_n (a : Fq) : nm2 (a, F1.zero) = F1.mul a a := by show F1.add (F1.mul a a) (F1.mul F1.zero F1.zero) = _; rw [F1.mul_zero, F1.add_zero]
theorem half_dbl (a : Fq) : F1.mul (F1.add a a) hf = a := by
  have e : F1.mul (F1.add a a) hf = F1.mul a (F1.add hf hf) := ring_id F1 (envL F1 [a, hf]) (.mul (.add (.v 0) (.v 0)) (.v 1)) (.mul (.v 0) (.add (.v 1) (.v 1))) (by decide)
  rw [e, hf_two, F1.mul_one]
theorem part_sq {a : Fq} (h : isq a) : F2.mul (fsq a, F1.zero) (fsq a, F1.zero) = (a, F1.zero) := by
  rw [mul2_c]
  refine Prod.ext ?_ ?_
  · show F1.sub (F1.mul (fsq a) (fsq a)) (F1.mul F1.zero F1.zero) = a
    rw [(fsq_spec h).1, F1.mul_zero]
    show F1.add a (F1.neg F1.zero) = a
    rw [neg_zero, F1.add_zero]
  · show F1.add (F1.mul _ F1.zero) (F1.mul F1.zero _) = F1.zero
    rw [F1.mul_zero, F1.zero_mul, F1.add_zero]
theorem part_sq' {a : Fq} (h : isq (F1.neg a)) : F2.mul (F1.zero, fsq (F1.neg a)) (F1.zero, fsq (F1.neg a)) = (a, F1.zero) := by
  rw [mul2_c]
  refine Prod.ext ?_ ?_
  · show F1.sub (F1.mul F1.zero F1.zero) (F1.mul (fsq (F1.neg a)) (fsq (F1.neg a))) = a
    rw [(fsq_spec h).1, F1.mul_zero]
    show F1.add F1.zero (F1.neg (F1.neg a)) = a
    rw [F1.neg_neg, F1.zero_add]
  · show F1.add (F1.mul F1.zero _) (F1.mul _ F1.zero) = F1.zero
    rw [F1.mul_zero, F1.zero_mul, F1.add_zero]
/-- what is told in Fp, both ways -/
theorem rt_z {a : Fq} (h : isq (F1.neg a)) : rt (a, F1.zero) = (F1.zero, fsq (F1.neg a)) ∧ lowR (F1.zero, fsq (F1.neg a)) (F2.neg (F1.zero, fsq (F1.neg a))) = true := by
  have hs := fsq_spec h
  have hm := part_sq' h
  by_cases hz : fsq (F1.neg a) = F1.zero
  · rw [hz] at hm ⊢
    refine ⟨rt_is hm ⟨fun _ => low_zero, fun e => (e rfl).elim⟩, lowR_z low_zero⟩
  · have hl := hs.2
    generalize fsq (F1.neg a) = u at hm hz hl ⊢
    exact ⟨rt_is hm ⟨fun _ => low_zero, fun _ => hl⟩, (lowR_nz (r := (F1.zero, u)) hz).trans hl⟩
noncomputable def sA (X : Q2) : Fq := F1.mul (F1.add X.1 (fsq (nm2 X))) hf
noncomputable def sB (X : Q2) : Fq := F1.mul (F1.sub X.1 (fsq (nm2 X))) hf
noncomputable def zr (X : Q2) : Q2 := (F1.zero, fsq (F1.neg X.1))
theorem rr_part {a s : Fq} : rr (a, F1.zero) s = (fsq s, F1.zero) := by
  refine Prod.ext rfl ?_
  show F1.mul (F1.mul F1.zero hf) _ = F1.zero
  rw [F1.zero_mul, F1.zero_mul]
theorem fsq_n {x : Q2} (h : isq (nm2 x)) : F1.mul (fsq (nm2 x)) (fsq (nm2 x)) = nm2 x := (fsq_spec h).1
/-- of what is not in Fp there is a root just if its norm is a square -/
theorem isq2_iff {x : Q2} (hx : x.2 ≠ F1.zero) : isq2 x ↔ isq (nm2 x) := by
  refine ⟨fun h => Classical.byContradiction fun e => not_isq2 e h, fun h => ?_⟩
  obtain ⟨n1, n2, n3⟩ := s_prod (fsq_n h) hx
  by_cases hs : isq (sA x)
  · exact ⟨_, rr_sq (fsq_n h) rfl hs n1⟩
  · exact ⟨_, rr_sq (n := F1.neg (fsq (nm2 x))) (by rw [F1.neg_mul, F1.mul_neg, F1.neg_neg]; exact fsq_n h) rfl (n3 hs) n2⟩
theorem rr_a {x : Q2} (hx : x.2 ≠ F1.zero) (h : isq (nm2 x)) (hs : isq (sA x)) : F2.mul (rr x (sA x)) (rr x (sA x)) = x ∧ sA x ≠ F1.zero :=
  ⟨rr_sq (fsq_n h) rfl hs (s_prod (fsq_n h) hx).1, (s_prod (fsq_n h) hx).1⟩
theorem rr_b {x : Q2} (hx : x.2 ≠ F1.zero) (h : isq (nm2 x)) (hs : ¬ isq (sA x)) : F2.mul (rr x (sB x)) (rr x (sB x)) = x ∧ isq (sB x) ∧ sB x ≠ F1.zero := by
  obtain ⟨n1, n2, n3⟩ := s_prod (fsq_n h) hx
  exact ⟨rr_sq (n := F1.neg (fsq (nm2 x))) (by rw [F1.neg_mul, F1.mul_neg, F1.neg_neg]; exact fsq_n h) rfl (n3 hs) n2, n3 hs, n2⟩
theorem sA_low {a : Fq} (h : lowF a = true) : sA (a, F1.zero) = a ∧ sB (a, F1.zero) = F1.zero := by
  have hn : fsq (nm2 (a, F1.zero)) = a := by rw [part_n]; exact fsq_uniq rfl h
  unfold sA sB
  rw [hn]
  refine ⟨half_dbl a, ?_⟩
  show F1.mul (F1.add a (F1.neg a)) hf = F1.zero
  rw [F1.add_neg, F1.zero_mul]
theorem sA_high {a : Fq} (h : lowF a = false) : sA (a, F1.zero) = F1.zero ∧ sB (a, F1.zero) = a := by
  have hn : fsq (nm2 (a, F1.zero)) = F1.neg a := by rw [part_n]; exact fsq_uniq (by rw [F1.neg_mul, F1.mul_neg, F1.neg_neg]) (low_neg h)
  unfold sA sB
  rw [hn]
  refine ⟨?_, ?_⟩
  · show F1.mul (F1.add a (F1.neg a)) hf = F1.zero
    rw [F1.add_neg, F1.zero_mul]
  · show F1.mul (F1.add a (F1.neg (F1.neg a))) hf = a
    rw [F1.neg_neg, half_dbl]
theorem RS_main (X : Q2) (G : Option Q2 → Prop)
    (hn : ¬ isq (nm2 X) → G none)
    (ha : ∀ b, isq (nm2 X) → isq (sA X) → fsq (sA X) ≠ F1.zero → F2.mul (rr X (sA X)) (rr X (sA X)) = X → lowR (rr X (sA X)) (F2.neg (rr X (sA X))) = b → G (some (bif b then rr X (sA X) else F2.neg (rr X (sA X)))))
    (hb : ∀ b, isq (nm2 X) → ¬ isq (sA X) → isq (sB X) → fsq (sB X) ≠ F1.zero → F2.mul (rr X (sB X)) (rr X (sB X)) = X → lowR (rr X (sB X)) (F2.neg (rr X (sB X))) = b → G (some (bif b then rr X (sB X) else F2.neg (rr X (sB X)))))
    (hz0 : isq (nm2 X) → isq (sA X) → fsq (sA X) = F1.zero → isq (F1.neg X.1) → F2.mul (zr X) (zr X) = X → lowR (zr X) (F2.neg (zr X)) = true → G (some (zr X)))
    (hz1 : isq (nm2 X) → ¬ isq (sA X) → isq (sB X) → fsq (sB X) = F1.zero → isq (F1.neg X.1) → F2.mul (zr X) (zr X) = X → lowR (zr X) (F2.neg (zr X)) = true → G (some (zr X)))
    (hzb : isq (nm2 X) → isq (sA X) → fsq (sA X) = F1.zero → ¬ isq (F1.neg X.1) → isq (sB X) → fsq (sB X) ≠ F1.zero → F2.mul (rr X (sB X)) (rr X (sB X)) = X → lowR (rr X (sB X)) (F2.neg (rr X (sB X))) = true → G (some (rr X (sB X)))) :
    (isq2 X → G (some (rt X))) ∧ (¬ isq2 X → G none) := by
  by_cases hx : X.2 = F1.zero
  · obtain ⟨a, rfl⟩ : ∃ a, X = (a, F1.zero) := ⟨X.1, Prod.ext rfl hx⟩
    refine ⟨fun _ => ?_, fun h => absurd (rt_part a).2.2 h⟩
    have hN : isq (nm2 (a, F1.zero)) := ⟨a, (part_n a).symm⟩
    cases hl : lowF a
    · obtain ⟨eA, eB⟩ := sA_high hl
      have hne : a ≠ F1.zero := fun e => by rw [e, low_zero] at hl; cases hl
      by_cases hq : isq a
      · have hm := part_sq hq
        have hw := lowR_z (fsq_spec hq).2
        rw [(rt_part a).1 hq]
        have := hzb hN (by rw [eA]; exact isq_zero) (by rw [eA]; exact fsq_zero) (sq_not_neg hne hq) (by rw [eB]; exact hq) (by rw [eB]; exact fsq_nz hq hne) (by rw [eB, rr_part]; exact hm) (by rw [eB, rr_part]; exact hw)
        rw [eB, rr_part] at this
        exact this
      · obtain ⟨h1, h2⟩ := rt_z (isq_neg hq)
        rw [h1]
        exact hz0 hN (by rw [eA]; exact isq_zero) (by rw [eA]; exact fsq_zero) (isq_neg hq) (part_sq' (isq_neg hq)) h2
    · obtain ⟨eA, eB⟩ := sA_low hl
      by_cases hq : isq a
      · by_cases hne : a = F1.zero
        · have hnz : isq (F1.neg a) := by rw [hne, neg_zero]; exact isq_zero
          obtain ⟨h1, h2⟩ := rt_z hnz
          rw [h1]
          exact hz0 hN (by rw [eA]; exact hq) (by rw [eA, hne]; exact fsq_zero) hnz (part_sq' hnz) h2
        · have hm := part_sq hq
          have hw := lowR_z (fsq_spec hq).2
          rw [(rt_part a).1 hq]
          have := ha true hN (by rw [eA]; exact hq) (by rw [eA]; exact fsq_nz hq hne) (by rw [eA, rr_part]; exact hm) (by rw [eA, rr_part]; exact hw)
          rw [eA, rr_part] at this
          exact this
      · obtain ⟨h1, h2⟩ := rt_z (isq_neg hq)
        rw [h1]
        exact hz1 hN (by rw [eA]; exact hq) (by rw [eB]; exact isq_zero) (by rw [eB]; exact fsq_zero) (isq_neg hq) (part_sq' (isq_neg hq)) h2
  · rw [isq2_iff hx]
    refine ⟨fun h => ?_, fun h => hn h⟩
    by_cases hs : isq (sA X)
    · obtain ⟨hr, hz⟩ := rr_a hx h hs
      have hr2 := rr2 hx hr
      have hw := lowR_nz hr2
      cases hl : lowF (rr X (sA X)).2
      · rw [(rt_low hr hr2).2 hl]
        exact ha false h hs (fsq_nz hs hz) hr (hw.trans hl)
      · rw [(rt_low hr hr2).1 hl]
        exact ha true h hs (fsq_nz hs hz) hr (hw.trans hl)
    · obtain ⟨hr, hq, hz⟩ := rr_b hx h hs
      have hr2 := rr2 hx hr
      have hw := lowR_nz hr2
      cases hl : lowF (rr X (sB X)).2
      · rw [(rt_low hr hr2).2 hl]
        exact hb false h hs hq (fsq_nz hq hz) hr (hw.trans hl)
      · rw [(rt_low hr hr2).1 hl]
        exact hb true h hs hq (fsq_nz hq hz) hr (hw.trans hl)
end Go.Proofs.YtgacpjmggdmgdaaGreat.Ex
namespace Go.Proofs.YtgacpjmggdmgdaaGreat
set_option linter.unusedVariables false

section
variable {P : Program} {ops : Array Oper} {Q : Exit → Act → World → Prop} {md : Region.Mode} {S : World → Prop} {L : Nat}
theorem keep_first {i : Nat} {oi : Oper} {v : Value} (hi : ops[i]? = some oi) (hsel : ∀ (j : Nat) (o : Oper) cs b, ops[j]? = some o → o.op ≠ .select cs b)
    (hL : ops.size ≤ L) (hQ : ∀ c a w, Q (.panic c) (a.put oi.dst v) w → Q (.panic c) a w) :
    ∀ (m : Nat) (got : Array Bool) (a : Act) (w : World),
      (∀ j oj, ops[j]? = some oj → j ≠ i → got.getD j true = false → (∀ e ∈ oj.after, Region.binds md e = true → e.on ≠ i) → oi.apart ops oj = true) →
      i ∈ Region.ready md ops got → YieldsIf P ops S oi v a → S w →
      anyTill P md ops Q S L m (got.setIfInBounds i true) (a.put oi.dst v) w → anyTill P md ops Q S L (m + 1) got a w := by
  intro m
  induction m with
  | zero =>
    intro got a w _ hr hy hS H
    refine ⟨fun h => (by rw [h] at hr; cases hr), fun j hj => ?_⟩
    by_cases hji : j = i
    · subst hji; exact hy.wpOp hi hS ⟨.inr hS, H⟩
    · have := ready_mono hj hji
      rw [H.1] at this
      cases this
  | succ m ih =>
    intro got a w hfree hr hy hS H
    refine ⟨fun h => (by rw [h] at hr; cases hr), fun j hj => ?_⟩
    by_cases hji : j = i
    · subst hji; exact hy.wpOp hi hS ⟨.inr hS, H⟩
    · obtain ⟨hun, oj, hoj, hall⟩ := mem_ready.1 hj
      have hno : ∀ e ∈ oj.after, Region.binds md e = true → e.on ≠ i := fun e he hb heq => by
        have h1 := hall e he hb
        have h0 := (mem_ready.1 hr).1
        rw [heq] at h1
        rcases Nat.lt_or_ge i got.size with h' | h'
        · simp [h'] at h0 h1; rw [h0] at h1; cases h1
        · simp [Array.getElem?_eq_none h'] at h1
      have hjL : j ≠ L := fun e => by
        have := (Array.getElem?_eq_some_iff.1 hoj).1
        omega
      have h2 := wpOp_putIf hoj (hfree j oj hoj hji hun hno) (fun cs b => hsel i oi cs b hi) (fun cs b => hsel j oj cs b hoj) hQ hy (H.2 j (ready_mono hj hji))
      have hfree' : ∀ k ok, ops[k]? = some ok → k ≠ i → (got.setIfInBounds j true).getD k true = false →
          (∀ e ∈ ok.after, Region.binds md e = true → e.on ≠ i) → oi.apart ops ok = true := fun k ok hk hki hu hn => by
        refine hfree k ok hk hki ?_ hn
        by_cases hjk : j = k
        · subst hjk; exact hun
        · rw [getD_set_ne true hjk] at hu; exact hu
      refine wpOp_mono (fun b u h3 => ⟨h3.2.1, ih (got.setIfInBounds j true) b u hfree' (ready_mono hr (Ne.symm hji)) h3.1 (h3.2.1.resolve_left hjL) ?_⟩) h2
      rw [Array.setIfInBounds_comm _ _ hji]
      exact h3.2.2

theorem till_keep {i : Nat} {oi : Oper} {v : Value} {m : Nat} {got : Array Bool} {a : Act} {w : World} (hi : ops[i]? = some oi)
    (hs : Region.noSelect ops = true) (hf : Region.free md ops got i = true) (hr : (Region.ready md ops got).contains i = true) (hL : ops.size ≤ L)
    (hQ : ∀ c a w, Q (.panic c) (a.put oi.dst v) w → Q (.panic c) a w) (hS : S w) (hy : YieldsIf P ops S oi v a)
    (h : anyTill P md ops Q S L m (got.setIfInBounds i true) (a.put oi.dst v) w) : anyTill P md ops Q S L (m + 1) got a w :=
  keep_first hi (Region.noSelect_spec hs) hL hQ m got a w (Region.free_spec hi hf) (by simpa using hr) hy hS h
end
end Go.Proofs.YtgacpjmggdmgdaaGreat
namespace Go.Proofs.YtgacpjmggdmgdaaGreat
set_option linter.unusedVariables false
set_option linter.unusedSimpArgs false
open Go.RowKit

end Go.Proofs.YtgacpjmggdmgdaaGreat
namespace Go.Proofs.YtgacpjmggdmgdaaGreat
set_option linter.unusedVariables false
set_option linter.unusedSimpArgs false
open Go.RowKit

theorem leg_cases (M A : Nat) : legN M A = -1 ∨ legN M A = 0 ∨ legN M A = 1 := by
  unfold legN; split
  · exact Or.inr (Or.inl rfl)
  · split
    · exact Or.inr (Or.inr rfl)
    · exact Or.inl rfl
theorem leg_lt {M A : Nat} {X : Int} (e : legN M A = X) (h : legN M A = -1) : decide (X < 0) = true := decide_eq_true (by omega)
theorem leg_ge {M A : Nat} {X : Int} (e : legN M A = X) (h : legN M A ≠ -1) : decide (X < 0) = false := decide_eq_false (by rcases leg_cases M A with q | q | q <;> omega)
theorem leg_wrap {M g A B : Nat} (hr : Root M g) (h2 : 2 < M) (ho : M % 2 = 1) (ha : A < M) (hb : B < M) : IntKind.i64.wrap (legN M A * legN M B) = legN M (A * B % M) := by
  rw [leg_mul hr h2 ho ha hb]
  rcases leg_cases M A with a | a | a <;> rcases leg_cases M B with b | b | b <;> rw [a, b] <;> rfl
/-- the lower root of a square is the element or its negative -/
theorem low_root {M g A V : Nat} (hr : Root M g) (h2 : 2 < M) (hA : A < M) (hV : V < M) (e : V * V % M = A * A % M) (l : lowB M V = true) : (lowB M A = true → V = A) ∧ (lowB M A = false → V = (0 + M - A) % M) := by
  have hl : V ≤ (0 + M - V) % M := of_decide_eq_true l
  refine ⟨fun h => ?_, fun h => ?_⟩
  · have hh : A ≤ (0 + M - A) % M := of_decide_eq_true h
    rcases sq_two hr (by omega) hV hA e with q | q
    · exact q
    · rcases Nat.eq_zero_or_pos A with z | z
      · omega
      · rcases Nat.eq_zero_or_pos V with y | y
        · omega
        · rw [Nat.mod_eq_of_lt (by omega)] at hl hh; omega
  · have hh : ¬ A ≤ (0 + M - A) % M := of_decide_eq_false h
    rcases sq_two hr (by omega) hV hA e with q | q
    · subst q; exact absurd hl hh
    · have z : 0 < A := by
        rcases Nat.eq_zero_or_pos A with z | z
        · subst z; exact absurd (Nat.zero_le _) hh
        · exact z
      rw [Nat.mod_eq_of_lt (by omega)]; omega
/-- the root of an element's square: whatever the element is -/
theorem fsqrt_sq (f : Int) (F : FC) (hf : FieldIs f F) (a0 a1 a2 a3 s0 s1 s2 s3 : Nat) (la : val4 a0 a1 a2 a3 < F.M) (hs : ok4 s0 s1 s2 s3) (e : val4 s0 s1 s2 s3 = val4 a0 a1 a2 a3 * val4 a0 a1 a2 a3 % F.M) (w : World) :
    Calls Tryz.prog 90 #[.int .i64 f, .agg #[.int .u64 s0, .int .u64 s1, .int .u64 s2, .int .u64 s3]] w (FeE 0 (if lowB F.M (val4 a0 a1 a2 a3) = true then val4 a0 a1 a2 a3 else (0 + F.M - val4 a0 a1 a2 a3) % F.M) w) := by
  obtain ⟨gr, hroot⟩ := hf.root
  have hg := hf.ok.gt
  have ls : val4 s0 s1 s2 s3 < F.M := by rw [e]; exact Nat.mod_lt _ hf.ok.pos
  by_cases hz : val4 a0 a1 a2 a3 = 0
  · have h0 : val4 s0 s1 s2 s3 = 0 := by rw [e, hz, Nat.zero_mul, Nat.zero_mod]
    have hl : lowB F.M (val4 a0 a1 a2 a3) = true := by rw [hz]; exact decide_eq_true (Nat.zero_le _)
    rw [if_pos hl, hz]
    exact fsqrt0_ok f F hf s0 s1 s2 s3 hs ls h0 w
  · have hne : val4 s0 s1 s2 s3 ≠ 0 := by
      have := mul_ne hroot (by omega) (show 0 < val4 a0 a1 a2 a3 by omega) la (show 0 < val4 a0 a1 a2 a3 by omega) la
      omega
    refine (fsqrt_yes_ok f F hf s0 s1 s2 s3 hs ls hne (by rw [e]; exact leg_sq hroot hf.ok.odd (by omega) la) w).mono ?_
    rintro r w' ⟨V, ⟨v0, v1, v2, v3, he, hv, hval, hbl⟩, h1, h2, h3⟩
    obtain ⟨p, q⟩ := low_root hroot hg la h2 (by rw [h1, e]) h3
    refine ⟨v0, v1, v2, v3, he, hv, ?_, hbl⟩
    rw [hval]
    cases hl : lowB F.M (val4 a0 a1 a2 a3) with
    | true => rw [if_pos rfl]; exact p hl
    | false => rw [if_neg (by simp)]; exact q hl
/-- the root in any case but that of no square: its square is the element -/
theorem fsqrt_any (f : Int) (F : FC) (hf : FieldIs f F) (a0 a1 a2 a3 : Nat) (ha : ok4 a0 a1 a2 a3) (la : val4 a0 a1 a2 a3 < F.M) (h : legN F.M (val4 a0 a1 a2 a3) ≠ -1) (w : World) :
    Calls Tryz.prog 90 #[.int .i64 f, .agg #[.int .u64 a0, .int .u64 a1, .int .u64 a2, .int .u64 a3]] w fun e w' => ∃ V, FeE 0 V w e w' ∧ V * V % F.M = val4 a0 a1 a2 a3 ∧ V < F.M := by
  by_cases hz : val4 a0 a1 a2 a3 = 0
  · exact (fsqrt0_ok f F hf a0 a1 a2 a3 ha la hz w).mono fun e w' k => ⟨0, k, by rw [hz, Nat.zero_mul, Nat.zero_mod], hf.ok.pos⟩
  · refine (fsqrt_yes_ok f F hf a0 a1 a2 a3 ha la hz ?_ w).mono fun e w' ⟨V, k, k1, k2, _⟩ => ⟨V, k, k1, k2⟩
    unfold legN at h
    rw [if_neg hz] at h
    by_cases q : val4 a0 a1 a2 a3 ^ (F.M / 2) % F.M = 1
    · exact q
    · rw [if_neg q] at h; exact absurd rfl h
theorem fsqrt_none (f : Int) (F : FC) (hf : FieldIs f F) (a0 a1 a2 a3 : Nat) (ha : ok4 a0 a1 a2 a3) (la : val4 a0 a1 a2 a3 < F.M) (h : legN F.M (val4 a0 a1 a2 a3) = -1) (w : World) :
    Calls Tryz.prog 90 #[.int .i64 f, .agg #[.int .u64 a0, .int .u64 a1, .int .u64 a2, .int .u64 a3]] w (FeE 23 0 w) := by
  unfold legN at h
  by_cases hz : val4 a0 a1 a2 a3 = 0
  · rw [if_pos hz] at h; omega
  · rw [if_neg hz] at h
    refine fsqrt_no_ok f F hf a0 a1 a2 a3 ha la hz (fun q => ?_) w
    rw [if_pos q] at h; omega
end Go.Proofs.YtgacpjmggdmgdaaGreat
namespace Go.Proofs.YtgacpjmggdmgdaaGreat
set_option linter.unusedVariables false
set_option linter.unusedSimpArgs false
open Go.RowKit

set_option maxRecDepth 100000 in
set_option maxHeartbeats 4000000 in
theorem rsqrt_no (f : Int) (F : FC) (hf : FieldIs f F) (a0 a1 a2 a3 : Nat) (ha : ok4 a0 a1 a2 a3) (hl : legV F.M (val4 a0 a1 a2 a3) = -1) (w : World) :
    Calls Tryz.prog 50 #[.int .i64 f, .agg #[.int .u64 a0, .int .u64 a1, .int .u64 a2, .int .u64 a3]] w (fun e w' => ∃ s0 s1 s2 s3 : Nat, e = .returned (.tuple #[.agg #[.int .u64 s0, .int .u64 s1, .int .u64 s2, .int .u64 s3], .int .i64 23]) ∧ ok4 s0 s1 s2 s3 ∧ val4 s0 s1 s2 s3 = 0 ∧ Below w.heap.size w w') := by
  go_enter Tryz.func50, Tryz.ntmps50
  go_wp2_with fail
  have HM := Lib.hid (((Mem.nil w).new (w.heap.size) a0 a1 a2 a3 24 (by simp)).new (w.heap.size + 1) 0 0 0 0 24 (by simp))
  refine (rleg_calls f F hf a0 a1 a2 a3 ha _).mono ?_
  rintro e w1 ⟨rfl, hbl⟩
  have HM' := Lib.hid (HM.out.on hbl)
  clear hbl
  clear HM
  have HM := HM'
  clear HM'
  rw [hl]
  have kr := HM.out.row (b := w.heap.size + 1) (c0 := 0) (c1 := 0) (c2 := 0) (c3 := 0) (by simp)
  have y0 := kr.c0; have y1 := kr.c1; have y2 := kr.c2; have y3 := kr.c3; have yf := kr.fr
  clear kr
  have yl := HM.out.lt (b := w.heap.size + 1) (c0 := 0) (c1 := 0) (c2 := 0) (c3 := 0) (by simp)
  clear hl
  go_wp2_with fail
  refine bodyPost_ret (v := .tuple #[.agg #[.int .u64 (0 : Nat), .int .u64 (0 : Nat), .int .u64 (0 : Nat), .int .u64 (0 : Nat)], .int .i64 23]) (by simp [results, Tryz.results50, go_sem, *]) rfl ?_
  refine ⟨_, _, _, _, rfl, zok, rfl, ?_⟩
  exact below_set4 HM.out.1 (by omega) 0 0 0 0
theorem ep_val : ok4 5694840236247301970 7340967054546858659 7931984006246061591 871749566700742666 ∧ val4 5694840236247301970 7340967054546858659 7931984006246061591 871749566700742666 + val4 5694840236247301970 7340967054546858659 7931984006246061591 871749566700742666 = FP.M / 2 + 1 := ⟨by unfold ok4; decide, by kernel_rfl⟩
theorem rootP_sq {A : Nat} (h : A ^ (FP.M / 2) % FP.M = 1 ∨ A = 0) : A ^ val4 5694840236247301970 7340967054546858659 7931984006246061591 871749566700742666 % FP.M * (A ^ val4 5694840236247301970 7340967054546858659 7931984006246061591 871749566700742666 % FP.M) % FP.M = A % FP.M := by
  rw [← Nat.mul_mod, ← Nat.pow_add, ep_val.2, Nat.pow_succ, Nat.mul_mod]
  rcases h with h | h
  · rw [h, Nat.one_mul, Nat.mod_mod]
  · subst h; rw [Nat.zero_mod, Nat.mul_zero, Nat.zero_mod]
set_option maxRecDepth 100000 in
set_option maxHeartbeats 4000000 in
theorem rsqrtP_yes (a0 a1 a2 a3 : Nat) (ha : ok4 a0 a1 a2 a3) (la : val4 a0 a1 a2 a3 < FP.M) (hs : val4 a0 a1 a2 a3 ^ (FP.M / 2) % FP.M = 1 ∨ val4 a0 a1 a2 a3 = 0) (w : World) :
    Calls Tryz.prog 50 #[.int .i64 1, .agg #[.int .u64 a0, .int .u64 a1, .int .u64 a2, .int .u64 a3]] w (fun e w' => ∃ s0 s1 s2 s3 : Nat, e = .returned (.tuple #[.agg #[.int .u64 s0, .int .u64 s1, .int .u64 s2, .int .u64 s3], .int .i64 0]) ∧ ok4 s0 s1 s2 s3 ∧ val4 s0 s1 s2 s3 * val4 s0 s1 s2 s3 % FP.M = val4 a0 a1 a2 a3 ∧ val4 s0 s1 s2 s3 < FP.M ∧ lowB FP.M (val4 s0 s1 s2 s3) = true ∧ Below w.heap.size w w') := by
  have hf : FieldIs 1 FP := Or.inl ⟨rfl, rfl⟩
  have hok := hf.ok
  have hpos := hok.pos
  have HSq := Lib.hid hs
  have hlv : legV FP.M (val4 a0 a1 a2 a3) = 0 ∨ legV FP.M (val4 a0 a1 a2 a3) = 1 := by
    unfold legV
    rcases hs with h | h
    · right; rw [if_neg (by rw [h]; decide), if_pos h]
    · left; rw [if_pos (by rw [h, Nat.zero_pow (by decide)]; rfl)]
  clear hs
  go_enter Tryz.func50, Tryz.ntmps50
  go_wp2_with fail
  have HM := Lib.hid (((Mem.nil w).new (w.heap.size) a0 a1 a2 a3 24 (by simp)).new (w.heap.size + 1) 0 0 0 0 24 (by simp))
  refine (rleg_calls 1 FP hf a0 a1 a2 a3 ha _).mono ?_
  rintro e w1 ⟨rfl, hbl⟩
  have HM' := Lib.hid (HM.out.on hbl)
  clear hbl
  clear HM
  have HM := HM'
  clear HM'
  generalize hlg : legV _ _ = lv at *
  have hll : decide (lv < 0) = false := by rcases hlv with h | h <;> subst h <;> rfl
  clear hlv hlg
  have kr := HM.out.row (b := w.heap.size) (c0 := a0) (c1 := a1) (c2 := a2) (c3 := a3) (by simp)
  have x0 := kr.c0; have x1 := kr.c1; have x2 := kr.c2; have x3 := kr.c3
  clear kr
  have xl := HM.out.lt (b := w.heap.size) (c0 := a0) (c1 := a1) (c2 := a2) (c3 := a3) (by simp)
  have gxl : w.heap.size + 1 < w1.heap.size := HM.out.lt (b := w.heap.size + 1) (c0 := 0) (c1 := 0) (c2 := 0) (c3 := 0) (by simp)
  go_wp2_with fail
  refine (rexp_calls 1 FP hf a0 a1 a2 a3 5694840236247301970 7340967054546858659 7931984006246061591 871749566700742666 ha ep_val.1 _).mono ?_
  rintro e w2 ⟨s0, s1, s2, s3, rfl, hs, hv, hbl⟩
  have HVs := Lib.hid (show val4 s0 s1 s2 s3 * val4 s0 s1 s2 s3 % FP.M = val4 a0 a1 a2 a3 ∧ val4 s0 s1 s2 s3 < FP.M by rw [hv]; exact ⟨(rootP_sq HSq.out).trans (Nat.mod_eq_of_lt la), Nat.mod_lt _ hpos⟩)
  have HM' := Lib.hid ((HM.out.new w1.heap.size 0 0 0 0 24 rfl).on hbl)
  clear hv hbl x0 x1 x2 x3 xl
  clear HM
  have HM := HM'
  clear HM'
  have kr := HM.out.row (b := w1.heap.size) (c0 := 0) (c1 := 0) (c2 := 0) (c3 := 0) (by simp)
  have x0 := kr.c0; have x1 := kr.c1; have x2 := kr.c2; have x3 := kr.c3; have xf := kr.fr
  clear kr
  have xl := HM.out.lt (b := w1.heap.size) (c0 := 0) (c1 := 0) (c2 := 0) (c3 := 0) (by simp)
  have HM' := Lib.hid (HM.out.put s0 s1 s2 s3 (by omega) (by intro r hr; simp at hr; rcases hr with rfl | rfl <;> simp <;> omega))
  clear HM
  have HX := HM'.out
  unfold set4 at HX
  clear HM'
  have HM := Lib.hid HX
  clear HX
  have HLs := HVs.out.2
  go_wp2_with fail
  refine (rlower_calls 1 FP hf s0 s1 s2 s3 hs HVs.out.2 _).mono ?_
  rintro e w3 ⟨rfl, hbl⟩
  have HM' := Lib.hid (HM.out.on hbl)
  clear hbl x0 x1 x2 x3 xf xl
  clear HM
  have HM := HM'
  clear HM'
  have kr := HM.out.row (b := w1.heap.size) (c0 := s0) (c1 := s1) (c2 := s2) (c3 := s3) (by simp)
  have x0 := kr.c0; have x1 := kr.c1; have x2 := kr.c2; have x3 := kr.c3; have xf := kr.fr
  clear kr
  have xl := HM.out.lt (b := w1.heap.size) (c0 := s0) (c1 := s1) (c2 := s2) (c3 := s3) (by simp)
  have kr := HM.out.row (b := w.heap.size + 1) (c0 := 0) (c1 := 0) (c2 := 0) (c3 := 0) (by simp)
  have y0 := kr.c0; have y1 := kr.c1; have y2 := kr.c2; have y3 := kr.c3; have yf := kr.fr
  clear kr
  have yl := HM.out.lt (b := w.heap.size + 1) (c0 := 0) (c1 := 0) (c2 := 0) (c3 := 0) (by simp)
  cases hlo : lowB FP.M (val4 s0 s1 s2 s3) with
  | true =>
    have HLo := Lib.hid hlo
    clear hlo
    go_wp2_with fail
    refine bodyPost_ret (v := .tuple #[.agg #[.int .u64 s0, .int .u64 s1, .int .u64 s2, .int .u64 s3], .int .i64 0]) (by simp [results, Tryz.results50, go_sem, *]) rfl ?_
    refine ⟨_, _, _, _, rfl, hs, HVs.out.1, HVs.out.2, HLo.out, ?_⟩
    exact below_set4 HM.out.1 (by omega) _ _ _ _
  | false =>
    have HLo := Lib.hid (low_neg hok HVs.out.2 hlo)
    clear hlo
    go_wp2_with fail
    refine (rneg_calls 1 FP hf s0 s1 s2 s3 hs _).mono ?_
    rintro e w4 ⟨n0, n1, n2, n3, rfl, hn, hv, hbl⟩
    have HVn := Lib.hid (show val4 n0 n1 n2 n3 = (0 + FP.M - val4 s0 s1 s2 s3) % FP.M by rw [hv, Nat.mod_eq_of_lt HVs.out.2, Nat.zero_add])
    have HM' := Lib.hid (HM.out.on hbl)
    clear hv hbl x0 x1 x2 x3 xf xl y0 y1 y2 y3 yf yl
    clear HM
    have HM := HM'
    clear HM'
    have kr := HM.out.row (b := w1.heap.size) (c0 := s0) (c1 := s1) (c2 := s2) (c3 := s3) (by simp)
    have x0 := kr.c0; have x1 := kr.c1; have x2 := kr.c2; have x3 := kr.c3; have xf := kr.fr
    clear kr
    have xl := HM.out.lt (b := w1.heap.size) (c0 := s0) (c1 := s1) (c2 := s2) (c3 := s3) (by simp)
    have kr := HM.out.row (b := w.heap.size + 1) (c0 := 0) (c1 := 0) (c2 := 0) (c3 := 0) (by simp)
    have y0 := kr.c0; have y1 := kr.c1; have y2 := kr.c2; have y3 := kr.c3; have yf := kr.fr
    clear kr
    have yl := HM.out.lt (b := w.heap.size + 1) (c0 := 0) (c1 := 0) (c2 := 0) (c3 := 0) (by simp)
    have ne1 : ¬ w.heap.size + 1 = w1.heap.size := by omega
    have ne1' : ¬ w1.heap.size = w.heap.size + 1 := by omega
    go_wp2_with fail
    refine bodyPost_ret (v := .tuple #[.agg #[.int .u64 n0, .int .u64 n1, .int .u64 n2, .int .u64 n3], .int .i64 0]) (by simp [results, Tryz.results50, go_sem, *]) rfl ?_
    refine ⟨_, _, _, _, rfl, hn, by rw [HVn.out, HLo.out.1]; exact HVs.out.1, by rw [HVn.out]; exact HLo.out.2.1, by rw [HVn.out]; exact HLo.out.2.2, ?_⟩
    exact below_set4 (below_set4 HM.out.1 (by omega) _ _ _ _) (by omega) _ _ _ _
end Go.Proofs.YtgacpjmggdmgdaaGreat
