/-
  The reference's Fp2 and Fp6 in a table of calls; the tower's Fp6. Conditions: none.
  Polynomials over a commutative ring, by their coefficients, and their degrees. Conditions: none.
  The class of a point's ideal: what the group law of y^2 = x^3 + b rests on. Conditions: none.
-/
import Derived.KernelRfl
import Derived.Test.YtebaoemoeckgaaaPr20
import Derived.Test.YtebaoemoeckgaaaPr24
import Derived.Test.YtebaoemoeckgaaaPr25
namespace Go.Proofs.Ytebaoemoeckgaaa.Ex
set_option linter.unusedVariables false
set_option linter.unusedSimpArgs false
open Go.RowKit
/-- the reference's calls over the first field -/
def gR (op : Fq → Fq → Fq) : Ent
  | [.v (.im (.int .i64 (.ofNat 1))), .v (.fl l), .v (.fl m)] => match rv1 l, rv1 m with
    | some x, some y => some ([], .one (.fl (e1 (op x y))))
    | _, _ => none
  | _ => none
noncomputable def gRI (c : Bool) : Ent
  | [.v (.im (.int .i64 (.ofNat 1))), .v (.fl l)] => match rv1 l with
    | some x => bif c then some ([x ≠ F1.zero], .many [.fl (e1 (finv x)), .im (.int .i64 0)]) else some ([x = F1.zero], .many [.fl (e1 F1.zero), .im (.int .i64 22)])
    | none => none
  | _ => none
theorem gR_ok {f : FuncId} {op : Fq → Fq → Fq} (h : ∀ (a b : Nat) (w : World), Calls Try.prog f #[.int .i64 1, .agg (flat (q1 a)).toArray, .agg (flat (q1 b)).toArray] w (FwPost (op (m1 a) (m1 b)).1 w)) :
    ∀ cs pre r, gR op cs = some (pre, r) → allP pre → ∀ (args : List Value) (w : World), CAs w cs args → Good Try.prog f r args w := by
  intro cs pre r hg hp args w ha
  unfold gR at hg
  split at hg
  · rename_i l m
    split at hg
    · rename_i x y hx hy
      cases hg
      obtain ⟨a, e1, rfl⟩ := rv1_ok l x hx
      obtain ⟨b, e2, rfl⟩ := rv1_ok m y hy
      match args, ha with
      | [v, u, s], ha =>
        have h1 : v = .int .i64 1 := ha.1
        have h2 : u = .agg (flat l).toArray := ha.2.1
        have h3 : s = .agg (flat m).toArray := ha.2.2.1
        rw [e1] at h2
        rw [e2] at h3
        subst h1; subst h2; subst h3
        exact (h a b w).mono fun e w' h => h
      | [], ha => exact ha.elim
      | [_], ha => exact ha.2.elim
      | [_, _], ha => exact ha.2.2.elim
      | _ :: _ :: _ :: _ :: _, ha => exact ha.2.2.2.elim
    · cases hg
  · cases hg
theorem r_add (a b : Nat) (w : World) : Calls Try.prog 39 #[.int .i64 1, .agg (flat (q1 a)).toArray, .agg (flat (q1 b)).toArray] w (FwPost (F1.add (m1 a) (m1 b)).1 w) := by
  refine (radd_calls 1 FP fld1 _ _ _ _ _ _ _ _ (fw_ok a) (fw_ok b) w).mono fun e w' h => ?_
  rw [show (F1.add (m1 a) (m1 b)).1 = (val4 (fw a 0) (fw a 1) (fw a 2) (fw a 3) + val4 (fw b 0) (fw b 1) (fw b 2) (fw b 3)) % FP.M from (Nat.add_mod _ _ _).symm]
  exact FwPost.of (Nat.mod_lt _ fp_pos) h
theorem r_sub (a b : Nat) (w : World) : Calls Try.prog 41 #[.int .i64 1, .agg (flat (q1 a)).toArray, .agg (flat (q1 b)).toArray] w (FwPost (F1.sub (m1 a) (m1 b)).1 w) := by
  refine (rsub_calls 1 FP fld1 _ _ _ _ _ _ _ _ (fw_ok a) (fw_ok b) w).mono fun e w' h => ?_
  have e : (F1.sub (m1 a) (m1 b)).1 = (val4 (fw a 0) (fw a 1) (fw a 2) (fw a 3) + (FP.M - val4 (fw b 0) (fw b 1) (fw b 2) (fw b 3) % FP.M)) % FP.M := by
    show (wv a % FP.M + (0 + FP.M - wv b % FP.M) % FP.M) % FP.M = (wv a + (FP.M - wv b % FP.M)) % FP.M
    rw [Nat.zero_add, ← Nat.add_mod]
  rw [e]
  exact FwPost.of (Nat.mod_lt _ fp_pos) h
theorem r_mul (a b : Nat) (w : World) : Calls Try.prog 40 #[.int .i64 1, .agg (flat (q1 a)).toArray, .agg (flat (q1 b)).toArray] w (FwPost (F1.mul (m1 a) (m1 b)).1 w) := by
  refine (rmul_calls 1 FP fld1 _ _ _ _ _ _ _ _ (fw_ok a) (fw_ok b) w).mono fun e w' h => ?_
  rw [show (F1.mul (m1 a) (m1 b)).1 = (val4 (fw a 0) (fw a 1) (fw a 2) (fw a 3) * val4 (fw b 0) (fw b 1) (fw b 2) (fw b 3)) % FP.M from (Nat.mul_mod _ _ _).symm]
  exact FwPost.of (Nat.mod_lt _ fp_pos) h
theorem r_inv (c : Bool) : ∀ cs pre r, gRI c cs = some (pre, r) → allP pre → ∀ (args : List Value) (w : World), CAs w cs args → Good Try.prog 97 r args w := by
  intro cs pre r hg hp args w ha
  unfold gRI at hg
  split at hg
  · rename_i l
    split at hg
    · rename_i x hx
      obtain ⟨a, e1, rfl⟩ := rv1_ok l x hx
      match args, ha with
      | [v, u], ha =>
        have h1 : v = .int .i64 1 := ha.1
        have h2 : u = .agg (flat l).toArray := ha.2.1
        rw [e1] at h2
        subst h1; subst h2
        cases c
        · cases hg
          have hz : m1 a = F1.zero := hp.1
          have hz' : val4 (fw a 0) (fw a 1) (fw a 2) (fw a 3) % FP.M = 0 := congrArg Fin.val hz
          refine (rinv0_calls 1 FP fld1 _ _ _ _ (fw_ok a) hz' w).mono ?_
          rintro e w' ⟨s0, s1, s2, s3, rfl, hs, hv, hb⟩
          obtain ⟨rfl, rfl, rfl, rfl⟩ := fw_of hs (fp_lt fp_pos) hv
          exact ⟨rfl, hb⟩
        · cases hg
          have hz : m1 a ≠ F1.zero := hp.1
          have hz' : val4 (fw a 0) (fw a 1) (fw a 2) (fw a 3) % FP.M ≠ 0 := fun e => hz (Fin.ext e)
          refine (rinv1_calls 1 FP fld1 _ _ _ _ (fw_ok a) hz' w).mono ?_
          rintro e w' ⟨s0, s1, s2, s3, rfl, hs, hv, hb⟩
          have hf : (finv (m1 a)).1 = val4 (fw a 0) (fw a 1) (fw a 2) (fw a 3) ^ (FP.M - 2) % FP.M := by
            rw [finv_val, Nat.one_mul]
            exact (Nat.pow_mod _ _ _).symm
          rw [← hf] at hv
          obtain ⟨rfl, rfl, rfl, rfl⟩ := fw_of hs (fp_lt (finv (m1 a)).2) hv
          exact ⟨rfl, hb⟩
      | [], ha => exact ha.elim
      | [_], ha => exact ha.2.elim
      | _ :: _ :: _ :: _, ha => exact ha.2.2.elim
    · cases hg
  · cases hg

noncomputable def T_r2Add (c : Bool) : Tab := (T_B c).add 39 (gR F1.add)
theorem ok_r2Add (c : Bool) : TabOk Try.prog (T_r2Add c) := (ok_al c).add Try.func39 (by kernel_rfl) (by kernel_rfl) (gR_ok r_add)
noncomputable def T_r2Sub (c : Bool) : Tab := (T_r2Add c).add 41 (gR F1.sub)
theorem ok_r2Sub (c : Bool) : TabOk Try.prog (T_r2Sub c) := (ok_r2Add c).add Try.func41 (by kernel_rfl) (by kernel_rfl) (gR_ok r_sub)
noncomputable def T_r2Mul (c : Bool) : Tab := (T_r2Sub c).add 40 (gR F1.mul)
theorem ok_r2Mul (c : Bool) : TabOk Try.prog (T_r2Mul c) := (ok_r2Sub c).add Try.func40 (by kernel_rfl) (by kernel_rfl) (gR_ok r_mul)
noncomputable def T_r2Inv (c : Bool) : Tab := (T_r2Mul c).add 97 (gRI c)
theorem ok_r2Inv (c : Bool) : TabOk Try.prog (T_r2Inv c) := (ok_r2Mul c).add Try.func97 (by kernel_rfl) (by kernel_rfl) (r_inv c)
end Go.Proofs.Ytebaoemoeckgaaa.Ex
namespace Go.Proofs.Ytebaoemoeckgaaa.Ex
set_option linter.unusedVariables false
set_option linter.unusedSimpArgs false

/-- a field: what is not 0 has an inverse, by a function -/
structure FD {R : Type} (K : CR R) (inv : R → R) : Prop where
  ne : K.one ≠ K.zero
  inv : ∀ x, x ≠ K.zero → K.mul x (inv x) = K.one
section
variable {R : Type} {K : CR R} {inv : R → R}
theorem FD.zd (h : FD K inv) {a b : R} (e : K.mul a b = K.zero) (ha : a ≠ K.zero) : b = K.zero := by
  have := congrArg (K.mul (inv a)) e
  rwa [← K.mul_assoc, K.mul_comm (inv a), h.inv a ha, K.one_mul, K.mul_zero] at this
theorem FD.mul_ne (h : FD K inv) {a b : R} (ha : a ≠ K.zero) (hb : b ≠ K.zero) : K.mul a b ≠ K.zero := fun e => hb (h.zd e ha)
theorem FD.cancel (h : FD K inv) {a b c : R} (ha : a ≠ K.zero) (e : K.mul a b = K.mul a c) : b = c := by
  have := congrArg (K.mul (inv a)) e
  rwa [← K.mul_assoc, ← K.mul_assoc, K.mul_comm (inv a), h.inv a ha, K.one_mul, K.one_mul] at this
theorem eq_of_neg {a b : R} (h : K.add a (K.neg b) = K.zero) : a = b := by
  have h2 : K.add (K.add a (K.neg b)) b = K.add K.zero b := congrArg (fun x => K.add x b) h
  rwa [K.add_assoc, K.neg_add, K.add_zero, K.zero_add] at h2
theorem neg_of_eq {a b : R} (h : a = b) : K.add a (K.neg b) = K.zero := by rw [h, K.add_neg]
/-- what follows from equations, by multiples of them -/
theorem comb1 {A B L1 R1 c1 : R} (h1 : L1 = R1) (e : K.add A (K.neg B) = K.mul c1 (K.add L1 (K.neg R1))) : A = B := by
  apply eq_of_neg (K := K)
  rw [e, neg_of_eq h1, K.mul_zero]
theorem comb2 {A B L1 R1 c1 L2 R2 c2 : R} (h1 : L1 = R1) (h2 : L2 = R2) (e : K.add A (K.neg B) = K.add (K.mul c1 (K.add L1 (K.neg R1))) (K.mul c2 (K.add L2 (K.neg R2)))) : A = B := by
  apply eq_of_neg (K := K)
  rw [e, neg_of_eq h1, neg_of_eq h2, K.mul_zero, K.mul_zero, K.add_zero]
theorem comb3 {A B L1 R1 c1 L2 R2 c2 L3 R3 c3 : R} (h1 : L1 = R1) (h2 : L2 = R2) (h3 : L3 = R3) (e : K.add A (K.neg B) = K.add (K.add (K.mul c1 (K.add L1 (K.neg R1))) (K.mul c2 (K.add L2 (K.neg R2)))) (K.mul c3 (K.add L3 (K.neg R3)))) : A = B := by
  apply eq_of_neg (K := K)
  rw [e, neg_of_eq h1, neg_of_eq h2, neg_of_eq h3, K.mul_zero, K.mul_zero, K.mul_zero, K.add_zero, K.add_zero]
end

section
variable {R : Type} (K : CR R)
def tl (f : Nat → R) : Nat → R := fun n => f (n + 1)
/-- a coefficient of a product -/
def cof : Nat → (Nat → R) → (Nat → R) → R
  | 0, f, g => K.mul (f 0) (g 0)
  | n + 1, f, g => K.add (K.mul (f 0) (g (n + 1))) (cof n (tl f) g)
def fadd (f g : Nat → R) : Nat → R := fun n => K.add (f n) (g n)
def fsc (c : R) (f : Nat → R) : Nat → R := fun n => K.mul c (f n)
def fmul (f g : Nat → R) : Nat → R := fun n => cof K n f g
def fneg (f : Nat → R) : Nat → R := fun n => K.neg (f n)
def fze : Nat → R := fun _ => K.zero
def fco (c : R) : Nat → R | 0 => c | _ + 1 => K.zero
theorem cof_add_r : ∀ (n : Nat) (f g h : Nat → R), cof K n f (fadd K g h) = K.add (cof K n f g) (cof K n f h)
  | 0, f, g, h => K.mul_add _ _ _
  | n + 1, f, g, h => by
    show K.add (K.mul (f 0) (K.add _ _)) (cof K n (tl f) (fadd K g h)) = K.add (K.add _ _) (K.add _ _)
    rw [cof_add_r n, K.mul_add, K.add_assoc, K.add_assoc, K.add_left_comm (K.mul (f 0) (h (n + 1)))]
theorem cof_add_l : ∀ (n : Nat) (f g h : Nat → R), cof K n (fadd K f g) h = K.add (cof K n f h) (cof K n g h)
  | 0, f, g, h => K.add_mul _ _ _
  | n + 1, f, g, h => by
    show K.add (K.mul (K.add _ _) (h (n + 1))) (cof K n (fadd K (tl f) (tl g)) h) = K.add (K.add _ _) (K.add _ _)
    rw [cof_add_l n, K.add_mul, K.add_assoc, K.add_assoc, K.add_left_comm (K.mul (g 0) (h (n + 1)))]
theorem cof_sc : ∀ (n : Nat) (c : R) (f g : Nat → R), cof K n (fsc K c f) g = K.mul c (cof K n f g)
  | 0, c, f, g => K.mul_assoc _ _ _
  | n + 1, c, f, g => by
    show K.add (K.mul (K.mul c (f 0)) _) (cof K n (fsc K c (tl f)) g) = K.mul c (K.add _ _)
    rw [cof_sc n, K.mul_add, K.mul_assoc]
theorem cof_ze : ∀ (n : Nat) (g : Nat → R), cof K n (fze K) g = K.zero
  | 0, g => K.zero_mul _
  | n + 1, g => by
    show K.add (K.mul K.zero _) (cof K n (fze K) g) = _
    rw [cof_ze n, K.zero_mul, K.add_zero]
theorem cof_co (c : R) (g : Nat → R) : ∀ n, cof K n (fco K c) g = K.mul c (g n)
  | 0 => rfl
  | n + 1 => by
    show K.add (K.mul c _) (cof K n (fze K) g) = _
    rw [cof_ze, K.add_zero]
theorem cof_assoc : ∀ (n : Nat) (f g h : Nat → R), cof K n (fmul K f g) h = cof K n f (fmul K g h)
  | 0, f, g, h => K.mul_assoc _ _ _
  | n + 1, f, g, h => by
    have e : tl (fmul K f g) = fadd K (fsc K (f 0) (tl g)) (fmul K (tl f) g) := rfl
    show K.add (K.mul (K.mul (f 0) (g 0)) (h (n + 1))) (cof K n (tl (fmul K f g)) h) = K.add (K.mul (f 0) (K.add (K.mul (g 0) (h (n + 1))) (cof K n (tl g) h))) (cof K n (tl f) (fmul K g h))
    rw [e, cof_add_l, cof_sc, cof_assoc n, K.mul_add, K.mul_assoc, K.add_assoc]
theorem cof_comm : ∀ (n : Nat) (f g : Nat → R), cof K n f g = cof K n g f
  | 0, f, g => K.mul_comm _ _
  | 1, f, g => by
    show K.add (K.mul (f 0) (g 1)) (K.mul (f 1) (g 0)) = K.add (K.mul (g 0) (f 1)) (K.mul (g 1) (f 0))
    rw [K.add_comm, K.mul_comm (f 1), K.mul_comm (f 0)]
  | n + 2, f, g => by
    show K.add (K.mul (f 0) (g (n + 2))) (cof K (n + 1) (tl f) g) = K.add (K.mul (g 0) (f (n + 2))) (cof K (n + 1) (tl g) f)
    rw [cof_comm (n + 1) (tl f) g, cof_comm (n + 1) (tl g) f]
    show K.add (K.mul (f 0) (g (n + 2))) (K.add (K.mul (g 0) (f (n + 2))) (cof K n (tl g) (tl f))) = K.add (K.mul (g 0) (f (n + 2))) (K.add (K.mul (f 0) (g (n + 2))) (cof K n (tl f) (tl g)))
    rw [K.add_left_comm, cof_comm n (tl g) (tl f)]
theorem cof_hi : ∀ (a b : Nat) (f g : Nat → R), (∀ i, a ≤ i → f i = K.zero) → (∀ i, b ≤ i → g i = K.zero) → ∀ n, a + b ≤ n + 1 → cof K n f g = K.zero
  | 0, b, f, g, hf, hg, n, h => by
    have : f = fze K := funext fun i => hf i (Nat.zero_le _)
    rw [this, cof_ze]
  | a + 1, b, f, g, hf, hg, 0, h => by
    show K.mul (f 0) (g 0) = _
    rw [hg 0 (by omega), K.mul_zero]
  | a + 1, b, f, g, hf, hg, n + 1, h => by
    show K.add (K.mul (f 0) (g (n + 1))) (cof K n (tl f) g) = _
    rw [hg (n + 1) (by omega), K.mul_zero, K.zero_add]
    exact cof_hi a b (tl f) g (fun i hi => hf (i + 1) (by omega)) hg n (by omega)
/-- polynomials -/
def Pol : Type := {f : Nat → R // ∃ n, ∀ i, n ≤ i → f i = K.zero}
variable {K}
theorem Pol.ext {f g : Pol K} (h : ∀ n, f.1 n = g.1 n) : f = g := Subtype.ext (funext h)
def pol : CR (Pol K) where
  add f g := ⟨fadd K f.1 g.1, by
    obtain ⟨a, ha⟩ := f.2; obtain ⟨b, hb⟩ := g.2
    exact ⟨a + b, fun i hi => by show K.add (f.1 i) (g.1 i) = _; rw [ha i (by omega), hb i (by omega), K.add_zero]⟩⟩
  mul f g := ⟨fmul K f.1 g.1, by
    obtain ⟨a, ha⟩ := f.2; obtain ⟨b, hb⟩ := g.2
    exact ⟨a + b, fun i hi => cof_hi K a b f.1 g.1 ha hb i (by omega)⟩⟩
  neg f := ⟨fneg K f.1, by
    obtain ⟨a, ha⟩ := f.2
    exact ⟨a, fun i hi => by show K.neg (f.1 i) = _; rw [ha i hi, neg_zero]⟩⟩
  zero := ⟨fze K, 0, fun _ _ => rfl⟩
  one := ⟨fco K K.one, 1, fun i hi => by cases i with | zero => omega | succ i => rfl⟩
  add_assoc a b c := Pol.ext fun n => K.add_assoc _ _ _
  add_comm a b := Pol.ext fun n => K.add_comm _ _
  zero_add a := Pol.ext fun n => K.zero_add _
  neg_add a := Pol.ext fun n => K.neg_add _
  mul_assoc a b c := Pol.ext fun n => cof_assoc K n _ _ _
  mul_comm a b := Pol.ext fun n => cof_comm K n _ _
  one_mul a := Pol.ext fun n => by show cof K n (fco K K.one) a.1 = _; rw [cof_co, K.one_mul]
  mul_add a b c := Pol.ext fun n => cof_add_r K n _ _ _
/-- constants, and the variable -/
def pco (c : R) : Pol K := ⟨fco K c, 1, fun i hi => by cases i with | zero => omega | succ i => rfl⟩
def pX : Pol K := ⟨fun n => match n with | 1 => K.one | _ => K.zero, 2, fun i hi => by match i, hi with | i + 2, _ => rfl⟩
theorem pco_add (a b : R) : (pco (K.add a b) : Pol K) = pol.add (pco a) (pco b) := Pol.ext fun n => by
  cases n with
  | zero => rfl
  | succ n => exact (K.zero_add _).symm
theorem pco_neg (a : R) : (pco (K.neg a) : Pol K) = pol.neg (pco a) := Pol.ext fun n => by
  cases n with
  | zero => rfl
  | succ n => exact (neg_zero K).symm
theorem pco_mul (a b : R) : (pco (K.mul a b) : Pol K) = pol.mul (pco a) (pco b) := Pol.ext fun n => by
  show _ = cof K n (fco K a) (fco K b)
  rw [cof_co]
  cases n with
  | zero => rfl
  | succ n => exact (K.mul_zero _).symm
/-- f's degree is n -/
def dg (f : Pol K) (n : Nat) : Prop := f.1 n ≠ K.zero ∧ ∀ i, n < i → f.1 i = K.zero
theorem dg_ne {f : Pol K} {n : Nat} (h : dg f n) : f ≠ pol.zero := fun e => h.1 (by rw [e]; rfl)
theorem dg_one {f : Pol K} {n m : Nat} (h : dg f n) (g : dg f m) : n = m := by
  rcases Nat.lt_trichotomy n m with q | q | q
  · exact absurd (h.2 m q) g.1
  · exact q
  · exact absurd (g.2 n q) h.1
theorem dg_ex (f : Pol K) (h : f ≠ pol.zero) : ∃ n, dg f n := by
  obtain ⟨b, hb⟩ := f.2
  have : ∀ b, (∀ i, b ≤ i → f.1 i = K.zero) → ∃ n, dg f n := by
    intro b
    induction b with
    | zero => exact fun hb => absurd (Pol.ext fun n => hb n (Nat.zero_le _)) h
    | succ b ih =>
      intro hb
      by_cases h0 : f.1 b = K.zero
      · exact ih fun i hi => by
          rcases Nat.lt_or_ge b i with q | q
          · exact hb i q
          · rw [show i = b by omega, h0]
      · exact ⟨b, h0, hb⟩
  exact this b hb
variable {inv : R → R}
theorem cof_top : ∀ (a b : Nat) (f g : Nat → R), (∀ i, a < i → f i = K.zero) → (∀ i, b < i → g i = K.zero) → cof K (a + b) f g = K.mul (f a) (g b)
  | 0, b, f, g, hf, hg => by
    have : f = fco K (f 0) := funext fun i => by cases i with | zero => rfl | succ i => exact hf _ (by omega)
    rw [this, cof_co, Nat.zero_add]; rfl
  | a + 1, b, f, g, hf, hg => by
    rw [show a + 1 + b = (a + b) + 1 by omega]
    show K.add (K.mul (f 0) (g (a + b + 1))) (cof K (a + b) (tl f) g) = _
    rw [hg (a + b + 1) (by omega), K.mul_zero, K.zero_add]
    exact cof_top a b (tl f) g (fun i hi => hf (i + 1) (by omega)) hg
theorem dg_mul (F : FD K inv) {f g : Pol K} {n m : Nat} (hf : dg f n) (hg : dg g m) : dg (pol.mul f g) (n + m) := by
  refine ⟨?_, fun i hi => cof_hi K (n + 1) (m + 1) f.1 g.1 (fun j hj => hf.2 j hj) (fun j hj => hg.2 j hj) i (by omega)⟩
  · show cof K (n + m) f.1 g.1 ≠ _
    rw [cof_top n m f.1 g.1 hf.2 hg.2]
    exact F.mul_ne hf.1 hg.1
theorem dg_add_r {f g : Pol K} {n : Nat} (hf : dg f n) (hg : ∀ i, n ≤ i → g.1 i = K.zero) : dg (pol.add f g) n := by
  refine ⟨?_, fun i hi => ?_⟩
  · show K.add (f.1 n) (g.1 n) ≠ _
    rw [hg n (Nat.le_refl _), K.add_zero]; exact hf.1
  · show K.add (f.1 i) (g.1 i) = _
    rw [hf.2 i hi, hg i (by omega), K.add_zero]
theorem neg_ne {a : R} (h : a ≠ K.zero) : K.neg a ≠ K.zero := fun e => h (by rw [← K.neg_neg a, e, neg_zero])
theorem dg_neg {f : Pol K} {n : Nat} (hf : dg f n) : dg (pol.neg f) n :=
  ⟨neg_ne hf.1, fun i hi => by show K.neg (f.1 i) = _; rw [hf.2 i hi, neg_zero]⟩
/-- X - c -/
theorem dg_lin (F : FD K inv) (c : R) : dg (pol.sub (pX : Pol K) (pco c)) 1 := by
  refine ⟨?_, fun i hi => ?_⟩
  · show K.add K.one (K.neg K.zero) ≠ _
    rw [neg_zero, K.add_zero]; exact F.ne
  · match i, hi with
    | i + 2, _ => show K.add K.zero (K.neg K.zero) = _; rw [neg_zero, K.add_zero]
/-- X^3 + c -/
def qP (c : R) : Pol K := pol.add (pol.mul pX (pol.mul pX pX)) (pco c)
theorem dg_X (F : FD K inv) : dg (pX : Pol K) 1 := ⟨F.ne, fun i hi => by match i, hi with | i + 2, _ => rfl⟩
theorem dg_qP (F : FD K inv) (c : R) : dg (qP c : Pol K) 3 :=
  dg_add_r (dg_mul F (dg_X F) (dg_mul F (dg_X F) (dg_X F))) fun i hi => by match i, hi with | i + 1, _ => rfl
/-- a multiple of X - c is no constant but 0 -/
theorem lin_const (F : FD K inv) {c k : R} {h : Pol K} (e : pol.mul (pol.sub (pX : Pol K) (pco c)) h = pco k) : k = K.zero := by
  by_cases h0 : h = pol.zero
  · rw [h0, pol.mul_zero] at e
    exact (congrArg (fun p : Pol K => p.1 0) e).symm
  · obtain ⟨n, hn⟩ := dg_ex h h0
    have := dg_mul F (dg_lin F c) hn
    rw [e] at this
    exact absurd (by rw [Nat.add_comm]; rfl) this.1
end
end Go.Proofs.Ytebaoemoeckgaaa.Ex
namespace Go.Proofs.Ytebaoemoeckgaaa.Ex
set_option linter.unusedVariables false
set_option linter.unusedSimpArgs false
section
variable {A : Type} {K : CR A}
theorem comb4 {M N L1 R1 c1 L2 R2 c2 L3 R3 c3 L4 R4 c4 : A} (h1 : L1 = R1) (h2 : L2 = R2) (h3 : L3 = R3) (h4 : L4 = R4) (e : K.add M (K.neg N) = K.add (K.add (K.add (K.mul c1 (K.add L1 (K.neg R1))) (K.mul c2 (K.add L2 (K.neg R2)))) (K.mul c3 (K.add L3 (K.neg R3)))) (K.mul c4 (K.add L4 (K.neg R4)))) : M = N := by
  apply eq_of_neg (K := K)
  rw [e, neg_of_eq h1, neg_of_eq h2, neg_of_eq h3, neg_of_eq h4, K.mul_zero, K.mul_zero, K.mul_zero, K.mul_zero, K.add_zero, K.add_zero, K.add_zero]
/-- a point's ideal times S -/
def op (K : CR A) (X Y x y : A) (S : A → Prop) : A → Prop := fun z => ∃ s t, S s ∧ S t ∧ z = K.add (K.mul (K.sub X x) s) (K.mul (K.sub Y y) t)
structure Idl (K : CR A) (S : A → Prop) : Prop where
  add : ∀ a b, S a → S b → S (K.add a b)
  mul : ∀ a c, S a → S (K.mul c a)
theorem Idl.neg {S : A → Prop} (h : Idl K S) {a : A} (ha : S a) : S (K.neg a) := by
  have := h.mul a (K.neg K.one) ha
  rwa [K.neg_mul, K.one_mul] at this
theorem Idl.sub {S : A → Prop} (h : Idl K S) {a b : A} (ha : S a) (hb : S b) : S (K.sub a b) := h.add _ _ ha (h.neg hb)
/-- one class -/
def Eqv (K : CR A) (S T : A → Prop) : Prop := ∃ a b, a ≠ K.zero ∧ b ≠ K.zero ∧ (∀ s, S s → ∃ t, T t ∧ K.mul a s = K.mul b t) ∧ (∀ t, T t → ∃ s, S s ∧ K.mul a s = K.mul b t)
def Dom (K : CR A) : Prop := K.one ≠ K.zero ∧ ∀ a b, a ≠ K.zero → b ≠ K.zero → K.mul a b ≠ K.zero
theorem Eqv.refl (D : Dom K) (S : A → Prop) : Eqv K S S := ⟨K.one, K.one, D.1, D.1, fun s h => ⟨s, h, rfl⟩, fun s h => ⟨s, h, rfl⟩⟩
theorem Eqv.symm {S T : A → Prop} (h : Eqv K S T) : Eqv K T S := by
  obtain ⟨a, b, ha, hb, h1, h2⟩ := h
  exact ⟨b, a, hb, ha, fun t ht => by obtain ⟨s, hs, e⟩ := h2 t ht; exact ⟨s, hs, e.symm⟩, fun s hs => by obtain ⟨t, ht, e⟩ := h1 s hs; exact ⟨t, ht, e.symm⟩⟩
theorem Eqv.trans (D : Dom K) {S T U : A → Prop} (h : Eqv K S T) (g : Eqv K T U) : Eqv K S U := by
  obtain ⟨a, b, ha, hb, h1, h2⟩ := h
  obtain ⟨c, d, hc, hd, g1, g2⟩ := g
  have key : ∀ s t u, K.mul a s = K.mul b t → K.mul c t = K.mul d u → K.mul (K.mul c a) s = K.mul (K.mul b d) u := fun s t u e f => by
    rw [K.mul_assoc, e, K.mul_left_comm, f, K.mul_assoc]
  refine ⟨K.mul c a, K.mul b d, D.2 _ _ hc ha, D.2 _ _ hb hd, fun s hs => ?_, fun u hu => ?_⟩
  · obtain ⟨t, ht, e⟩ := h1 s hs
    obtain ⟨u, hu, f⟩ := g1 t ht
    exact ⟨u, hu, key s t u e f⟩
  · obtain ⟨t, ht, f⟩ := g2 u hu
    obtain ⟨s, hs, e⟩ := h2 t ht
    exact ⟨s, hs, key s t u e f⟩
variable {X Y : A}
theorem op_scale {x y al be s s2 t t2 : A} (e : K.mul al s = K.mul be t) (f : K.mul al s2 = K.mul be t2) : K.mul al (K.add (K.mul (K.sub X x) s) (K.mul (K.sub Y y) s2)) = K.mul be (K.add (K.mul (K.sub X x) t) (K.mul (K.sub Y y) t2)) :=
  comb2 (K := K) (c1 := (K.sub X x)) (c2 := (K.sub Y y)) e f (ring_id K (envL K [al, X, x, s, Y, y, s2, be, t, t2]) (.add (.mul (.v 0) (.add (.mul (.add (.v 1) (.neg (.v 2))) (.v 3)) (.mul (.add (.v 4) (.neg (.v 5))) (.v 6)))) (.neg (.mul (.v 7) (.add (.mul (.add (.v 1) (.neg (.v 2))) (.v 8)) (.mul (.add (.v 4) (.neg (.v 5))) (.v 9)))))) (.add (.mul (.add (.v 1) (.neg (.v 2))) (.add (.mul (.v 0) (.v 3)) (.neg (.mul (.v 7) (.v 8))))) (.mul (.add (.v 4) (.neg (.v 5))) (.add (.mul (.v 0) (.v 6)) (.neg (.mul (.v 7) (.v 9)))))) (by kernel_rfl))
theorem Eqv.op {S T : A → Prop} (x y : A) (h : Eqv K S T) : Eqv K (op K X Y x y S) (op K X Y x y T) := by
  obtain ⟨a, b, ha, hb, h1, h2⟩ := h
  refine ⟨a, b, ha, hb, ?_, ?_⟩
  · rintro z ⟨s, s2, hs, hs2, rfl⟩
    obtain ⟨t, ht, e⟩ := h1 s hs
    obtain ⟨t2, ht2, f⟩ := h1 s2 hs2
    exact ⟨_, ⟨t, t2, ht, ht2, rfl⟩, op_scale e f⟩
  · rintro z ⟨t, t2, ht, ht2, rfl⟩
    obtain ⟨s, hs, e⟩ := h2 t ht
    obtain ⟨s2, hs2, f⟩ := h2 t2 ht2
    exact ⟨_, ⟨s, s2, hs, hs2, rfl⟩, op_scale e f⟩
theorem op_swap1 {S : A → Prop} (x y x' y' : A) {z : A} (h : op K X Y x y (op K X Y x' y' S) z) : op K X Y x' y' (op K X Y x y S) z := by
  obtain ⟨_, _, ⟨a, bb, ha, hb, rfl⟩, ⟨c, d, hc, hd, rfl⟩, rfl⟩ := h
  exact ⟨_, _, ⟨a, c, ha, hc, rfl⟩, ⟨bb, d, hb, hd, rfl⟩, ring_id K (envL K [X, x, x', a, Y, y', bb, y, c, d]) (.add (.mul (.add (.v 0) (.neg (.v 1))) (.add (.mul (.add (.v 0) (.neg (.v 2))) (.v 3)) (.mul (.add (.v 4) (.neg (.v 5))) (.v 6)))) (.mul (.add (.v 4) (.neg (.v 7))) (.add (.mul (.add (.v 0) (.neg (.v 2))) (.v 8)) (.mul (.add (.v 4) (.neg (.v 5))) (.v 9))))) (.add (.mul (.add (.v 0) (.neg (.v 2))) (.add (.mul (.add (.v 0) (.neg (.v 1))) (.v 3)) (.mul (.add (.v 4) (.neg (.v 7))) (.v 8)))) (.mul (.add (.v 4) (.neg (.v 5))) (.add (.mul (.add (.v 0) (.neg (.v 1))) (.v 6)) (.mul (.add (.v 4) (.neg (.v 7))) (.v 9))))) (by kernel_rfl)⟩
theorem op_swap {S : A → Prop} (x y x' y' : A) : op K X Y x y (op K X Y x' y' S) = op K X Y x' y' (op K X Y x y S) :=
  funext fun z => propext ⟨op_swap1 x y x' y', op_swap1 x' y' x y⟩
theorem op_idl {S : A → Prop} (h : Idl K S) (x y : A) : Idl K (op K X Y x y S) where
  add := by
    rintro _ _ ⟨a, b, ha, hb, rfl⟩ ⟨c, d, hc, hd, rfl⟩
    exact ⟨_, _, h.add a c ha hc, h.add b d hb hd, ring_id K (envL K [X, x, a, Y, y, b, c, d]) (.add (.add (.mul (.add (.v 0) (.neg (.v 1))) (.v 2)) (.mul (.add (.v 3) (.neg (.v 4))) (.v 5))) (.add (.mul (.add (.v 0) (.neg (.v 1))) (.v 6)) (.mul (.add (.v 3) (.neg (.v 4))) (.v 7)))) (.add (.mul (.add (.v 0) (.neg (.v 1))) (.add (.v 2) (.v 6))) (.mul (.add (.v 3) (.neg (.v 4))) (.add (.v 5) (.v 7)))) (by kernel_rfl)⟩
  mul := by
    rintro _ c ⟨a, b, ha, hb, rfl⟩
    exact ⟨_, _, h.mul a c ha, h.mul b c hb, ring_id K (envL K [c, X, x, a, Y, y, b]) (.mul (.v 0) (.add (.mul (.add (.v 1) (.neg (.v 2))) (.v 3)) (.mul (.add (.v 4) (.neg (.v 5))) (.v 6)))) (.add (.mul (.add (.v 1) (.neg (.v 2))) (.mul (.v 0) (.v 3))) (.mul (.add (.v 4) (.neg (.v 5))) (.mul (.v 0) (.v 6)))) (by kernel_rfl)⟩
theorem op_neg {b x y k : A} (hY : K.mul Y Y = K.add (K.mul X (K.mul X X)) b) (hy : K.mul y y = K.add (K.mul x (K.mul x x)) b) (hk : K.mul k (K.add y y) = K.one) (D : Dom K) (hX : K.sub X x ≠ K.zero) {S : A → Prop} (h : Idl K S) : Eqv K (op K X Y x y (op K X Y x (K.neg y) S)) S := by
  refine ⟨K.one, K.sub X x, D.1, hX, ?_, ?_⟩
  · rintro _ ⟨_, _, ⟨a, bb, ha, hb, rfl⟩, ⟨c, d, hc, hd, rfl⟩, rfl⟩
    refine ⟨(K.add (K.add (K.add (K.mul (K.sub X x) a) (K.mul (K.sub Y (K.neg y)) bb)) (K.mul (K.sub Y y) c)) (K.mul (K.add (K.add (K.mul X X) (K.mul x X)) (K.mul x x)) d)), h.add _ _ (h.add _ _ (h.add _ _ (h.mul _ _ ha) (h.mul _ _ hb)) (h.mul _ _ hc)) (h.mul _ _ hd), ?_⟩
    rw [K.one_mul]
    exact comb2 (K := K) (c1 := d) (c2 := (K.neg d)) hY hy (ring_id K (envL K [X, x, a, Y, y, bb, c, d, b]) (.add (.add (.mul (.add (.v 0) (.neg (.v 1))) (.add (.mul (.add (.v 0) (.neg (.v 1))) (.v 2)) (.mul (.add (.v 3) (.neg (.neg (.v 4)))) (.v 5)))) (.mul (.add (.v 3) (.neg (.v 4))) (.add (.mul (.add (.v 0) (.neg (.v 1))) (.v 6)) (.mul (.add (.v 3) (.neg (.neg (.v 4)))) (.v 7))))) (.neg (.mul (.add (.v 0) (.neg (.v 1))) (.add (.add (.add (.mul (.add (.v 0) (.neg (.v 1))) (.v 2)) (.mul (.add (.v 3) (.neg (.neg (.v 4)))) (.v 5))) (.mul (.add (.v 3) (.neg (.v 4))) (.v 6))) (.mul (.add (.add (.mul (.v 0) (.v 0)) (.mul (.v 1) (.v 0))) (.mul (.v 1) (.v 1))) (.v 7)))))) (.add (.mul (.v 7) (.add (.mul (.v 3) (.v 3)) (.neg (.add (.mul (.v 0) (.mul (.v 0) (.v 0))) (.v 8))))) (.mul (.neg (.v 7)) (.add (.mul (.v 4) (.v 4)) (.neg (.add (.mul (.v 1) (.mul (.v 1) (.v 1))) (.v 8)))))) (by kernel_rfl))
  · intro t ht
    refine ⟨_, ⟨_, _, ⟨_, _, h.mul t K.zero ht, h.mul t k ht, rfl⟩, ⟨_, _, h.mul t (K.neg k) ht, h.mul t K.zero ht, rfl⟩, rfl⟩, ?_⟩
    rw [K.one_mul]
    exact comb1 (K := K) (c1 := (K.mul (K.sub X x) t)) hk (ring_id K (envL K [X, x, t, Y, y, k]) (.add (.add (.mul (.add (.v 0) (.neg (.v 1))) (.add (.mul (.add (.v 0) (.neg (.v 1))) (.mul .zero (.v 2))) (.mul (.add (.v 3) (.neg (.neg (.v 4)))) (.mul (.v 5) (.v 2))))) (.mul (.add (.v 3) (.neg (.v 4))) (.add (.mul (.add (.v 0) (.neg (.v 1))) (.mul (.neg (.v 5)) (.v 2))) (.mul (.add (.v 3) (.neg (.neg (.v 4)))) (.mul .zero (.v 2)))))) (.neg (.mul (.add (.v 0) (.neg (.v 1))) (.v 2)))) (.mul (.mul (.add (.v 0) (.neg (.v 1))) (.v 2)) (.add (.mul (.v 5) (.add (.v 4) (.v 4))) (.neg .one))) (by kernel_rfl))
theorem line_cube {b x1 y1 x2 l : A} (hY : K.mul Y Y = K.add (K.mul X (K.mul X X)) b) (H2 : (K.mul l (K.add y1 (K.add y1 (K.mul l (K.sub x2 x1))))) = (K.add (K.add (K.mul x1 x1) (K.mul x1 x2)) (K.mul x2 x2))) (H3 : (K.mul y1 y1) = (K.add (K.mul x1 (K.mul x1 x1)) b)) : (K.mul (K.sub X x1) (K.mul (K.sub X x2) (K.sub X (K.sub (K.sub (K.mul l l) x1) x2)))) = (K.mul (K.sub (K.sub Y y1) (K.mul l (K.sub X x1))) (K.add (K.sub Y (K.sub (K.mul l (K.sub x1 (K.sub (K.sub (K.mul l l) x1) x2))) y1)) (K.mul l (K.sub X (K.sub (K.sub (K.mul l l) x1) x2))))) :=
  comb3 (K := K) (c1 := (K.neg K.one)) (c2 := K.one) (c3 := (K.sub X x1)) hY H3 H2 (ring_id K (envL K [X, x1, x2, l, Y, y1, b]) (.add (.mul (.add (.v 0) (.neg (.v 1))) (.mul (.add (.v 0) (.neg (.v 2))) (.add (.v 0) (.neg (.add (.add (.mul (.v 3) (.v 3)) (.neg (.v 1))) (.neg (.v 2))))))) (.neg (.mul (.add (.add (.v 4) (.neg (.v 5))) (.neg (.mul (.v 3) (.add (.v 0) (.neg (.v 1)))))) (.add (.add (.v 4) (.neg (.add (.mul (.v 3) (.add (.v 1) (.neg (.add (.add (.mul (.v 3) (.v 3)) (.neg (.v 1))) (.neg (.v 2)))))) (.neg (.v 5))))) (.mul (.v 3) (.add (.v 0) (.neg (.add (.add (.mul (.v 3) (.v 3)) (.neg (.v 1))) (.neg (.v 2)))))))))) (.add (.add (.mul (.neg .one) (.add (.mul (.v 4) (.v 4)) (.neg (.add (.mul (.v 0) (.mul (.v 0) (.v 0))) (.v 6))))) (.mul .one (.add (.mul (.v 5) (.v 5)) (.neg (.add (.mul (.v 1) (.mul (.v 1) (.v 1))) (.v 6)))))) (.mul (.add (.v 0) (.neg (.v 1))) (.add (.mul (.v 3) (.add (.v 5) (.add (.v 5) (.mul (.v 3) (.add (.v 2) (.neg (.v 1))))))) (.neg (.add (.add (.mul (.v 1) (.v 1)) (.mul (.v 1) (.v 2))) (.mul (.v 2) (.v 2))))))) (by kernel_rfl))
theorem op_sum {b x1 y1 x2 l : A} (hY : K.mul Y Y = K.add (K.mul X (K.mul X X)) b) (H2 : (K.mul l (K.add y1 (K.add y1 (K.mul l (K.sub x2 x1))))) = (K.add (K.add (K.mul x1 x1) (K.mul x1 x2)) (K.mul x2 x2))) (H3 : (K.mul y1 y1) = (K.add (K.mul x1 (K.mul x1 x1)) b)) (hk : (∃ k, K.mul k (K.add y1 (K.add y1 (K.mul l (K.sub x2 x1)))) = K.one) ∨ (∃ k, K.mul k (K.sub x2 x1) = K.one)) (hX : K.sub X (K.sub (K.sub (K.mul l l) x1) x2) ≠ K.zero) (hl : (K.sub (K.sub Y y1) (K.mul l (K.sub X x1))) ≠ K.zero) {S : A → Prop} (h : Idl K S) : Eqv K (op K X Y x1 y1 (op K X Y x2 (K.add y1 (K.mul l (K.sub x2 x1))) S)) (op K X Y (K.sub (K.sub (K.mul l l) x1) x2) (K.sub (K.mul l (K.sub x1 (K.sub (K.sub (K.mul l l) x1) x2))) y1) S) := by
  have HC := line_cube (X := X) (Y := Y) hY H2 H3
  refine ⟨K.sub X (K.sub (K.sub (K.mul l l) x1) x2), (K.sub (K.sub Y y1) (K.mul l (K.sub X x1))), hX, hl, ?_, ?_⟩
  · rintro _ ⟨_, _, ⟨a, bb, ha, hb, rfl⟩, ⟨c, d, hc, hd, rfl⟩, rfl⟩
    exact ⟨_, ⟨(K.add (K.add (K.add (K.mul l a) (K.mul (K.add (K.sub X x1) (K.mul l l)) bb)) (K.mul (K.add (K.sub X x2) (K.mul l l)) c)) (K.mul (K.add (K.add (K.add (K.sub (K.sub Y y1) (K.mul l (K.sub X x1))) (K.mul l (K.sub X x1))) (K.mul l (K.sub X x2))) (K.mul l (K.mul l l))) d)), (K.add (K.add (K.add a (K.mul l bb)) (K.mul l c)) (K.mul (K.mul l l) d)), h.add _ _ (h.add _ _ (h.add _ _ (h.mul _ _ ha) (h.mul _ _ hb)) (h.mul _ _ hc)) (h.mul _ _ hd), h.add _ _ (h.add _ _ (h.add _ _ ha (h.mul _ _ hb)) (h.mul _ _ hc)) (h.mul _ _ hd), rfl⟩, comb1 (K := K) (c1 := (K.add (K.add (K.add a (K.mul l bb)) (K.mul l c)) (K.mul (K.mul l l) d))) HC (ring_id K (envL K [X, l, x1, x2, a, Y, y1, bb, c, d]) (.add (.mul (.add (.v 0) (.neg (.add (.add (.mul (.v 1) (.v 1)) (.neg (.v 2))) (.neg (.v 3))))) (.add (.mul (.add (.v 0) (.neg (.v 2))) (.add (.mul (.add (.v 0) (.neg (.v 3))) (.v 4)) (.mul (.add (.v 5) (.neg (.add (.v 6) (.mul (.v 1) (.add (.v 3) (.neg (.v 2))))))) (.v 7)))) (.mul (.add (.v 5) (.neg (.v 6))) (.add (.mul (.add (.v 0) (.neg (.v 3))) (.v 8)) (.mul (.add (.v 5) (.neg (.add (.v 6) (.mul (.v 1) (.add (.v 3) (.neg (.v 2))))))) (.v 9)))))) (.neg (.mul (.add (.add (.v 5) (.neg (.v 6))) (.neg (.mul (.v 1) (.add (.v 0) (.neg (.v 2)))))) (.add (.mul (.add (.v 0) (.neg (.add (.add (.mul (.v 1) (.v 1)) (.neg (.v 2))) (.neg (.v 3))))) (.add (.add (.add (.mul (.v 1) (.v 4)) (.mul (.add (.add (.v 0) (.neg (.v 2))) (.mul (.v 1) (.v 1))) (.v 7))) (.mul (.add (.add (.v 0) (.neg (.v 3))) (.mul (.v 1) (.v 1))) (.v 8))) (.mul (.add (.add (.add (.add (.add (.v 5) (.neg (.v 6))) (.neg (.mul (.v 1) (.add (.v 0) (.neg (.v 2)))))) (.mul (.v 1) (.add (.v 0) (.neg (.v 2))))) (.mul (.v 1) (.add (.v 0) (.neg (.v 3))))) (.mul (.v 1) (.mul (.v 1) (.v 1)))) (.v 9)))) (.mul (.add (.v 5) (.neg (.add (.mul (.v 1) (.add (.v 2) (.neg (.add (.add (.mul (.v 1) (.v 1)) (.neg (.v 2))) (.neg (.v 3)))))) (.neg (.v 6))))) (.add (.add (.add (.v 4) (.mul (.v 1) (.v 7))) (.mul (.v 1) (.v 8))) (.mul (.mul (.v 1) (.v 1)) (.v 9)))))))) (.mul (.add (.add (.add (.v 4) (.mul (.v 1) (.v 7))) (.mul (.v 1) (.v 8))) (.mul (.mul (.v 1) (.v 1)) (.v 9))) (.add (.mul (.add (.v 0) (.neg (.v 2))) (.mul (.add (.v 0) (.neg (.v 3))) (.add (.v 0) (.neg (.add (.add (.mul (.v 1) (.v 1)) (.neg (.v 2))) (.neg (.v 3))))))) (.neg (.mul (.add (.add (.v 5) (.neg (.v 6))) (.neg (.mul (.v 1) (.add (.v 0) (.neg (.v 2)))))) (.add (.add (.v 5) (.neg (.add (.mul (.v 1) (.add (.v 2) (.neg (.add (.add (.mul (.v 1) (.v 1)) (.neg (.v 2))) (.neg (.v 3)))))) (.neg (.v 6))))) (.mul (.v 1) (.add (.v 0) (.neg (.add (.add (.mul (.v 1) (.v 1)) (.neg (.v 2))) (.neg (.v 3))))))))))) (by kernel_rfl))⟩
  · rintro _ ⟨u, w, hu, hw, rfl⟩
    have hg : S (K.sub u (K.mul l w)) := h.sub hu (h.mul _ _ hw)
    have e0 : K.mul (K.sub (K.sub Y y1) (K.mul l (K.sub X x1))) (K.add (K.mul (K.sub X (K.sub (K.sub (K.mul l l) x1) x2)) u) (K.mul (K.sub Y (K.sub (K.mul l (K.sub x1 (K.sub (K.sub (K.mul l l) x1) x2))) y1)) w)) = K.mul (K.sub X (K.sub (K.sub (K.mul l l) x1) x2)) (K.add (K.mul (K.sub (K.sub Y y1) (K.mul l (K.sub X x1))) (K.sub u (K.mul l w))) (K.mul (K.sub X x1) (K.mul (K.sub X x2) w))) :=
      comb1 (K := K) (c1 := (K.neg w)) HC (ring_id K (envL K [Y, y1, l, X, x1, x2, u, w]) (.add (.mul (.add (.add (.v 0) (.neg (.v 1))) (.neg (.mul (.v 2) (.add (.v 3) (.neg (.v 4)))))) (.add (.mul (.add (.v 3) (.neg (.add (.add (.mul (.v 2) (.v 2)) (.neg (.v 4))) (.neg (.v 5))))) (.v 6)) (.mul (.add (.v 0) (.neg (.add (.mul (.v 2) (.add (.v 4) (.neg (.add (.add (.mul (.v 2) (.v 2)) (.neg (.v 4))) (.neg (.v 5)))))) (.neg (.v 1))))) (.v 7)))) (.neg (.mul (.add (.v 3) (.neg (.add (.add (.mul (.v 2) (.v 2)) (.neg (.v 4))) (.neg (.v 5))))) (.add (.mul (.add (.add (.v 0) (.neg (.v 1))) (.neg (.mul (.v 2) (.add (.v 3) (.neg (.v 4)))))) (.add (.v 6) (.neg (.mul (.v 2) (.v 7))))) (.mul (.add (.v 3) (.neg (.v 4))) (.mul (.add (.v 3) (.neg (.v 5))) (.v 7))))))) (.mul (.neg (.v 7)) (.add (.mul (.add (.v 3) (.neg (.v 4))) (.mul (.add (.v 3) (.neg (.v 5))) (.add (.v 3) (.neg (.add (.add (.mul (.v 2) (.v 2)) (.neg (.v 4))) (.neg (.v 5))))))) (.neg (.mul (.add (.add (.v 0) (.neg (.v 1))) (.neg (.mul (.v 2) (.add (.v 3) (.neg (.v 4)))))) (.add (.add (.v 0) (.neg (.add (.mul (.v 2) (.add (.v 4) (.neg (.add (.add (.mul (.v 2) (.v 2)) (.neg (.v 4))) (.neg (.v 5)))))) (.neg (.v 1))))) (.mul (.v 2) (.add (.v 3) (.neg (.add (.add (.mul (.v 2) (.v 2)) (.neg (.v 4))) (.neg (.v 5))))))))))) (by kernel_rfl))
    generalize hge : (K.sub u (K.mul l w)) = g at hg e0
    rw [e0]
    rcases hk with ⟨k, hk⟩ | ⟨k, hk⟩
    · refine ⟨_, ⟨_, _, ⟨_, _, h.add _ _ (h.mul g (K.mul k (K.add (K.add X x1) x2)) hg) hw, h.mul g K.zero hg, rfl⟩, ⟨_, _, h.mul g K.zero hg, h.mul g (K.neg k) hg, rfl⟩, rfl⟩, congrArg (K.mul _) ?_⟩
      exact comb4 (K := K) (c1 := (K.mul (K.sub (K.sub Y y1) (K.mul l (K.sub X x1))) g)) (c2 := (K.neg (K.mul k g))) (c3 := (K.mul k g)) (c4 := (K.mul (K.mul k g) (K.sub X x1))) hk hY H3 H2 (ring_id K (envL K [X, x1, x2, k, g, w, Y, y1, l, b]) (.add (.add (.mul (.add (.v 0) (.neg (.v 1))) (.add (.mul (.add (.v 0) (.neg (.v 2))) (.add (.mul (.mul (.v 3) (.add (.add (.v 0) (.v 1)) (.v 2))) (.v 4)) (.v 5))) (.mul (.add (.v 6) (.neg (.add (.v 7) (.mul (.v 8) (.add (.v 2) (.neg (.v 1))))))) (.mul .zero (.v 4))))) (.mul (.add (.v 6) (.neg (.v 7))) (.add (.mul (.add (.v 0) (.neg (.v 2))) (.mul .zero (.v 4))) (.mul (.add (.v 6) (.neg (.add (.v 7) (.mul (.v 8) (.add (.v 2) (.neg (.v 1))))))) (.mul (.neg (.v 3)) (.v 4)))))) (.neg (.add (.mul (.add (.add (.v 6) (.neg (.v 7))) (.neg (.mul (.v 8) (.add (.v 0) (.neg (.v 1)))))) (.v 4)) (.mul (.add (.v 0) (.neg (.v 1))) (.mul (.add (.v 0) (.neg (.v 2))) (.v 5)))))) (.add (.add (.add (.mul (.mul (.add (.add (.v 6) (.neg (.v 7))) (.neg (.mul (.v 8) (.add (.v 0) (.neg (.v 1)))))) (.v 4)) (.add (.mul (.v 3) (.add (.v 7) (.add (.v 7) (.mul (.v 8) (.add (.v 2) (.neg (.v 1))))))) (.neg .one))) (.mul (.neg (.mul (.v 3) (.v 4))) (.add (.mul (.v 6) (.v 6)) (.neg (.add (.mul (.v 0) (.mul (.v 0) (.v 0))) (.v 9)))))) (.mul (.mul (.v 3) (.v 4)) (.add (.mul (.v 7) (.v 7)) (.neg (.add (.mul (.v 1) (.mul (.v 1) (.v 1))) (.v 9)))))) (.mul (.mul (.mul (.v 3) (.v 4)) (.add (.v 0) (.neg (.v 1)))) (.add (.mul (.v 8) (.add (.v 7) (.add (.v 7) (.mul (.v 8) (.add (.v 2) (.neg (.v 1))))))) (.neg (.add (.add (.mul (.v 1) (.v 1)) (.mul (.v 1) (.v 2))) (.mul (.v 2) (.v 2))))))) (by kernel_rfl))
    · refine ⟨_, ⟨_, _, ⟨_, _, hw, h.mul g k hg, rfl⟩, ⟨_, _, h.mul g (K.neg k) hg, h.mul g K.zero hg, rfl⟩, rfl⟩, congrArg (K.mul _) ?_⟩
      exact comb1 (K := K) (c1 := (K.mul (K.sub (K.sub Y y1) (K.mul l (K.sub X x1))) g)) hk (ring_id K (envL K [X, x1, x2, w, Y, y1, l, k, g]) (.add (.add (.mul (.add (.v 0) (.neg (.v 1))) (.add (.mul (.add (.v 0) (.neg (.v 2))) (.v 3)) (.mul (.add (.v 4) (.neg (.add (.v 5) (.mul (.v 6) (.add (.v 2) (.neg (.v 1))))))) (.mul (.v 7) (.v 8))))) (.mul (.add (.v 4) (.neg (.v 5))) (.add (.mul (.add (.v 0) (.neg (.v 2))) (.mul (.neg (.v 7)) (.v 8))) (.mul (.add (.v 4) (.neg (.add (.v 5) (.mul (.v 6) (.add (.v 2) (.neg (.v 1))))))) (.mul .zero (.v 8)))))) (.neg (.add (.mul (.add (.add (.v 4) (.neg (.v 5))) (.neg (.mul (.v 6) (.add (.v 0) (.neg (.v 1)))))) (.v 8)) (.mul (.add (.v 0) (.neg (.v 1))) (.mul (.add (.v 0) (.neg (.v 2))) (.v 3)))))) (.mul (.mul (.add (.add (.v 4) (.neg (.v 5))) (.neg (.mul (.v 6) (.add (.v 0) (.neg (.v 1)))))) (.v 8)) (.add (.mul (.v 7) (.add (.v 2) (.neg (.v 1)))) (.neg .one))) (by kernel_rfl))
end
end Go.Proofs.Ytebaoemoeckgaaa.Ex
