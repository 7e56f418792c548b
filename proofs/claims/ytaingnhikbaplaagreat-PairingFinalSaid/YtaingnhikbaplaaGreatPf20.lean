/-
  The p-power maps of Fp12, coefficient by coefficient: what they are twice, six times. Conditions: none.
  In the tower the p-th power is the map of coefficients. Conditions: none.
  Frobenius' maps in a table of calls. Conditions: none.
-/
import Derived.IntWalk
import Derived.Test.YtaingnhikbaplaaGreatPf06
import Derived.Test.YtaingnhikbaplaaGreatPf19
import Derived.Test.YtaingnhikbaplaaGreatPf14
import Derived.Test.YtaingnhikbaplaaGreatPf15
namespace Go.Proofs.YtaingnhikbaplaaGreat.Ex
set_option linter.unusedVariables false
set_option linter.unusedSimpArgs false
def tn0 : Q2 := (fm 1, fm 0)
def tn1 : Q2 := (fm 8376118865763821496583973867626364092589906065868298776909617916018768340080, fm 16469823323077808223889137241176536799009286646108169935659301613961712198316)
def tn2 : Q2 := (fm 21575463638280843010398324269430826099269044274347216827212613867836435027261, fm 10307601595873709700152284273816112264069230130616436755625194854815875713954)
def tn3 : Q2 := (fm 2821565182194536844548159561693502659359617185244120367078079554186484126554, fm 3505843767911556378687030309984248845540243509899259641013678093033130930403)
def tn4 : Q2 := (fm 2581911344467009335267311115468803099551665605076196740867805258568234346338, fm 19937756971775647987995932169929341994314640652964949448313374472400716661030)
def tn5 : Q2 := (fm 685108087231508774477564247770172212460312782337200605669322048753928464687, fm 8447204650696766136447902020341177575205426561248465145919723016860428151883)
def sn0 : Fq := fm 1
def sn1 : Fq := fm 21888242871839275220042445260109153167277707414472061641714758635765020556617
def sn2 : Fq := fm 21888242871839275220042445260109153167277707414472061641714758635765020556616
def sn3 : Fq := fm 21888242871839275222246405745257275088696311157297823662689037894645226208582
def sn4 : Fq := fm 2203960485148121921418603742825762020974279258880205651966
def sn5 : Fq := fm 2203960485148121921418603742825762020974279258880205651967
theorem tn0_eq : tn0 = F2.one := by decide
theorem sn0_eq : F2.mul (conj2' tn0) tn0 = (sn0, F1.zero) := by decide
theorem sn1_eq : F2.mul (conj2' tn1) tn1 = (sn1, F1.zero) := by decide
theorem sn2_eq : F2.mul (conj2' tn2) tn2 = (sn2, F1.zero) := by decide
theorem sn3_eq : F2.mul (conj2' tn3) tn3 = (sn3, F1.zero) := by decide
theorem sn4_eq : F2.mul (conj2' tn4) tn4 = (sn4, F1.zero) := by decide
theorem sn5_eq : F2.mul (conj2' tn5) tn5 = (sn5, F1.zero) := by decide
/-- to the p, to the p^2, to the p^6 -/
def on12 (x : Q12) : Q12 := ((F2.mul (conj2' x.1.1) tn0, F2.mul (conj2' x.1.2.1) tn2, F2.mul (conj2' x.1.2.2) tn4), (F2.mul (conj2' x.2.1) tn1, F2.mul (conj2' x.2.2.1) tn3, F2.mul (conj2' x.2.2.2) tn5))
def tw12 (x : Q12) : Q12 := ((sc2 x.1.1 sn0, sc2 x.1.2.1 sn2, sc2 x.1.2.2 sn4), (sc2 x.2.1 sn1, sc2 x.2.2.1 sn3, sc2 x.2.2.2 sn5))
theorem cj_mul (x y : Q2) : conj2' (F2.mul x y) = F2.mul (conj2' x) (conj2' y) := by
  refine Prod.ext ?_ ?_
  · exact ring_id F1 (envL F1 [x.1, x.2, y.1, y.2]) (.add (.mul (.v 0) (.v 2)) (.mul (.neg .one) (.mul (.v 1) (.v 3)))) (.add (.mul (.v 0) (.v 2)) (.mul (.neg .one) (.mul (.neg (.v 1)) (.neg (.v 3))))) (by decide)
  · exact ring_id F1 (envL F1 [x.1, x.2, y.1, y.2]) (.neg (.add (.mul (.v 0) (.v 3)) (.mul (.v 1) (.v 2)))) (.add (.mul (.v 0) (.neg (.v 3))) (.mul (.neg (.v 1)) (.v 2))) (by decide)
theorem cj_add (x y : Q2) : conj2' (F2.add x y) = F2.add (conj2' x) (conj2' y) := Prod.ext rfl (F1.neg_add' _ _)
theorem cj_cj (x : Q2) : conj2' (conj2' x) = x := Prod.ext rfl (F1.neg_neg _)
theorem sc2_mul (x : Q2) (k : Fq) : sc2 x k = F2.mul x (k, F1.zero) := by
  refine Prod.ext ?_ ?_
  · exact ring_id F1 (envL F1 [x.1, x.2, k]) (.mul (.v 0) (.v 2)) (.add (.mul (.v 0) (.v 2)) (.mul (.neg .one) (.mul (.v 1) .zero))) (by decide)
  · exact ring_id F1 (envL F1 [x.1, x.2, k]) (.mul (.v 1) (.v 2)) (.add (.mul (.v 0) .zero) (.mul (.v 1) (.v 2))) (by decide)
theorem on_one (c t : Q2) (k : Fq) (h : F2.mul (conj2' t) t = (k, F1.zero)) : F2.mul (conj2' (F2.mul (conj2' c) t)) t = sc2 c k := by
  rw [cj_mul, cj_cj, F2.mul_assoc, h, ← sc2_mul]
/-- twice to the p is to the p^2 -/
theorem on_on (x : Q12) : on12 (on12 x) = tw12 x := by
  refine Prod.ext (Prod.ext (on_one _ _ _ sn0_eq) (Prod.ext (on_one _ _ _ sn2_eq) (on_one _ _ _ sn4_eq))) (Prod.ext (on_one _ _ _ sn1_eq) (Prod.ext (on_one _ _ _ sn3_eq) (on_one _ _ _ sn5_eq)))
theorem sc_sc (c : Q2) (k l m : Fq) : sc2 (sc2 (sc2 c k) l) m = sc2 c (F1.mul k (F1.mul l m)) := by
  refine Prod.ext ?_ ?_
  · show F1.mul (F1.mul (F1.mul c.1 k) l) m = F1.mul c.1 (F1.mul k (F1.mul l m)); rw [F1.mul_assoc, F1.mul_assoc]
  · show F1.mul (F1.mul (F1.mul c.2 k) l) m = F1.mul c.2 (F1.mul k (F1.mul l m)); rw [F1.mul_assoc, F1.mul_assoc]
theorem sc_one (c : Q2) : sc2 c F1.one = c := Prod.ext (F1.mul_one _) (F1.mul_one _)
theorem sc_neg (c : Q2) : sc2 c (F1.neg F1.one) = F2.sub F2.zero c := by
  refine Prod.ext ?_ ?_
  · show F1.mul c.1 (F1.neg F1.one) = F1.add F1.zero (F1.neg c.1); rw [F1.mul_neg, F1.mul_one, F1.zero_add]
  · show F1.mul c.2 (F1.neg F1.one) = F1.add F1.zero (F1.neg c.2); rw [F1.mul_neg, F1.mul_one, F1.zero_add]
theorem sn0_cu : F1.mul sn0 (F1.mul sn0 sn0) = F1.one := by decide
theorem sn1_cu : F1.mul sn1 (F1.mul sn1 sn1) = F1.neg F1.one := by decide
theorem sn2_cu : F1.mul sn2 (F1.mul sn2 sn2) = F1.one := by decide
theorem sn3_cu : F1.mul sn3 (F1.mul sn3 sn3) = F1.neg F1.one := by decide
theorem sn4_cu : F1.mul sn4 (F1.mul sn4 sn4) = F1.one := by decide
theorem sn5_cu : F1.mul sn5 (F1.mul sn5 sn5) = F1.neg F1.one := by decide
/-- three times to the p^2 is the conjugate -/
theorem tw_three (x : Q12) : tw12 (tw12 (tw12 x)) = cj12 x := by
  refine Prod.ext (Prod.ext ?_ (Prod.ext ?_ ?_)) (Prod.ext ?_ (Prod.ext ?_ ?_))
  · exact (sc_sc _ _ _ _).trans (by rw [sn0_cu, sc_one]; rfl)
  · exact (sc_sc _ _ _ _).trans (by rw [sn2_cu, sc_one]; rfl)
  · exact (sc_sc _ _ _ _).trans (by rw [sn4_cu, sc_one]; rfl)
  · exact (sc_sc _ _ _ _).trans (by rw [sn1_cu, sc_neg]; rfl)
  · exact (sc_sc _ _ _ _).trans (by rw [sn3_cu, sc_neg]; rfl)
  · exact (sc_sc _ _ _ _).trans (by rw [sn5_cu, sc_neg]; rfl)
/-- to the p in Fp6 -/
def on6 (z : Q6) : Q6 := (F2.mul (conj2' z.1) tn0, F2.mul (conj2' z.2.1) tn2, F2.mul (conj2' z.2.2) tn4)
theorem tn4_sq : tn4 = F2.mul tn2 tn2 := by decide
theorem xi_conj2 : conj2' xiE = F2.mul xiE (F2.mul tn2 (F2.mul tn2 tn2)) := by decide
theorem on6_eq (z : Q6) : on6 z = (conj2' z.1, F2.mul (conj2' z.2.1) tn2, F2.mul (conj2' z.2.2) (F2.mul tn2 tn2)) := by
  unfold on6
  rw [tn0_eq, F2.mul_one, tn4_sq]
theorem on6_add (z y : Q6) : on6 (F6.add z y) = F6.add (on6 z) (on6 y) := by
  refine Prod.ext ?_ (Prod.ext ?_ ?_)
  · show F2.mul (conj2' (F2.add z.1 y.1)) tn0 = F2.add _ _; rw [cj_add, F2.add_mul]; rfl
  · show F2.mul (conj2' (F2.add z.2.1 y.2.1)) tn2 = F2.add _ _; rw [cj_add, F2.add_mul]; rfl
  · show F2.mul (conj2' (F2.add z.2.2 y.2.2)) tn4 = F2.add _ _; rw [cj_add, F2.add_mul]; rfl
theorem on6_id0 {R : Type} (K : CR R) (a b c d e f t q : R) : K.add (K.mul a d) (K.mul (K.mul q (K.mul t (K.mul t t))) (K.add (K.mul b f) (K.mul c e))) = K.add (K.mul a d) (K.mul q (K.add (K.mul (K.mul b t) (K.mul f (K.mul t t))) (K.mul (K.mul c (K.mul t t)) (K.mul e t)))) :=
  ring_id K (envL K [a, b, c, d, e, f, t, q]) (.add (.mul (.v 0) (.v 3)) (.mul (.mul (.v 7) (.mul (.v 6) (.mul (.v 6) (.v 6)))) (.add (.mul (.v 1) (.v 5)) (.mul (.v 2) (.v 4))))) (.add (.mul (.v 0) (.v 3)) (.mul (.v 7) (.add (.mul (.mul (.v 1) (.v 6)) (.mul (.v 5) (.mul (.v 6) (.v 6)))) (.mul (.mul (.v 2) (.mul (.v 6) (.v 6))) (.mul (.v 4) (.v 6)))))) (by decide)
theorem on6_id1 {R : Type} (K : CR R) (a b c d e f t q : R) : K.mul (K.add (K.add (K.mul a e) (K.mul b d)) (K.mul (K.mul q (K.mul t (K.mul t t))) (K.mul c f))) t = K.add (K.add (K.mul a (K.mul e t)) (K.mul (K.mul b t) d)) (K.mul q (K.mul (K.mul c (K.mul t t)) (K.mul f (K.mul t t)))) :=
  ring_id K (envL K [a, b, c, d, e, f, t, q]) (.mul (.add (.add (.mul (.v 0) (.v 4)) (.mul (.v 1) (.v 3))) (.mul (.mul (.v 7) (.mul (.v 6) (.mul (.v 6) (.v 6)))) (.mul (.v 2) (.v 5)))) (.v 6)) (.add (.add (.mul (.v 0) (.mul (.v 4) (.v 6))) (.mul (.mul (.v 1) (.v 6)) (.v 3))) (.mul (.v 7) (.mul (.mul (.v 2) (.mul (.v 6) (.v 6))) (.mul (.v 5) (.mul (.v 6) (.v 6)))))) (by decide)
theorem on6_id2 {R : Type} (K : CR R) (a b c d e f t : R) : K.mul (K.add (K.add (K.mul a f) (K.mul b e)) (K.mul c d)) (K.mul t t) = K.add (K.add (K.mul a (K.mul f (K.mul t t))) (K.mul (K.mul b t) (K.mul e t))) (K.mul (K.mul c (K.mul t t)) d) :=
  ring_id K (envL K [a, b, c, d, e, f, t]) (.mul (.add (.add (.mul (.v 0) (.v 5)) (.mul (.v 1) (.v 4))) (.mul (.v 2) (.v 3))) (.mul (.v 6) (.v 6))) (.add (.add (.mul (.v 0) (.mul (.v 5) (.mul (.v 6) (.v 6)))) (.mul (.mul (.v 1) (.v 6)) (.mul (.v 4) (.v 6)))) (.mul (.mul (.v 2) (.mul (.v 6) (.v 6))) (.v 3))) (by decide)
theorem on6_mul (z y : Q6) : on6 (F6.mul z y) = F6.mul (on6 z) (on6 y) := by
  rw [on6_eq, on6_eq, on6_eq]
  refine Prod.ext ?_ (Prod.ext ?_ ?_)
  · show conj2' (F2.add (F2.mul z.1 y.1) (F2.mul xiE (F2.add (F2.mul z.2.1 y.2.2) (F2.mul z.2.2 y.2.1)))) = _
    rw [cj_add, cj_mul, cj_mul, cj_add, cj_mul, cj_mul, xi_conj2]
    exact on6_id0 F2 _ _ _ _ _ _ _ _
  · show F2.mul (conj2' (F2.add (F2.add (F2.mul z.1 y.2.1) (F2.mul z.2.1 y.1)) (F2.mul xiE (F2.mul z.2.2 y.2.2)))) tn2 = _
    rw [cj_add, cj_add, cj_mul, cj_mul, cj_mul, cj_mul, xi_conj2]
    exact on6_id1 F2 _ _ _ _ _ _ _ _
  · show F2.mul (conj2' (F2.add (F2.add (F2.mul z.1 y.2.2) (F2.mul z.2.1 y.2.1)) (F2.mul z.2.2 y.1))) (F2.mul tn2 tn2) = _
    rw [cj_add, cj_add, cj_mul, cj_mul, cj_mul]
    exact on6_id2 F2 _ _ _ _ _ _ _
/-- w to the p is w times this -/
def tau : Q6 := (tn1, F2.zero, F2.zero)
theorem mul_tau (z : Q6) (k : Q2) : F6.mul z (k, F2.zero, F2.zero) = s6 z k := by
  show (F2.add (F2.mul z.1 k) (F2.mul xiE (F2.add (F2.mul z.2.1 F2.zero) (F2.mul z.2.2 F2.zero))), F2.add (F2.add (F2.mul z.1 F2.zero) (F2.mul z.2.1 k)) (F2.mul xiE (F2.mul z.2.2 F2.zero)), F2.add (F2.add (F2.mul z.1 F2.zero) (F2.mul z.2.1 F2.zero)) (F2.mul z.2.2 k)) = _
  simp only [F2.mul_zero, F2.add_zero, F2.zero_add]
  rfl
theorem tn3_t : tn3 = F2.mul tn2 tn1 := by decide
theorem tn5_t : tn5 = F2.mul tn4 tn1 := by decide
theorem tn1_t : tn1 = F2.mul tn0 tn1 := by decide
theorem on12_eq (x : Q12) : on12 x = (on6 x.1, F6.mul (on6 x.2) tau) := by
  refine Prod.ext rfl ?_
  rw [show tau = (tn1, F2.zero, F2.zero) from rfl, mul_tau]
  refine Prod.ext ?_ (Prod.ext ?_ ?_)
  · show F2.mul (conj2' x.2.1) tn1 = F2.mul (F2.mul (conj2' x.2.1) tn0) tn1; rw [F2.mul_assoc, ← tn1_t]
  · show F2.mul (conj2' x.2.2.1) tn3 = F2.mul (F2.mul (conj2' x.2.2.1) tn2) tn1; rw [F2.mul_assoc, ← tn3_t]
  · show F2.mul (conj2' x.2.2.2) tn5 = F2.mul (F2.mul (conj2' x.2.2.2) tn4) tn1; rw [F2.mul_assoc, ← tn5_t]
theorem on6_v : on6 vE = F6.mul vE (F6.mul tau tau) := by decide
theorem on12_id {R : Type} (K : CR R) (a b c d v t : R) : K.add (K.mul a c) (K.mul (K.mul v (K.mul t t)) (K.mul b d)) = K.add (K.mul a c) (K.mul v (K.mul (K.mul b t) (K.mul d t))) ∧ K.mul (K.add (K.mul a d) (K.mul b c)) t = K.add (K.mul a (K.mul d t)) (K.mul (K.mul b t) c) :=
  ⟨ring_id K (envL K [a, b, c, d, v, t]) (.add (.mul (.v 0) (.v 2)) (.mul (.mul (.v 4) (.mul (.v 5) (.v 5))) (.mul (.v 1) (.v 3)))) (.add (.mul (.v 0) (.v 2)) (.mul (.v 4) (.mul (.mul (.v 1) (.v 5)) (.mul (.v 3) (.v 5))))) (by decide),
   ring_id K (envL K [a, b, c, d, t]) (.mul (.add (.mul (.v 0) (.v 3)) (.mul (.v 1) (.v 2))) (.v 4)) (.add (.mul (.v 0) (.mul (.v 3) (.v 4))) (.mul (.mul (.v 1) (.v 4)) (.v 2))) (by decide)⟩
/-- to the p keeps products -/
theorem on12_mul (x y : Q12) : on12 (F12.mul x y) = F12.mul (on12 x) (on12 y) := by
  rw [on12_eq, on12_eq, on12_eq]
  refine Prod.ext ?_ ?_
  · show on6 (F6.add (F6.mul x.1 y.1) (F6.mul vE (F6.mul x.2 y.2))) = _
    rw [on6_add, on6_mul, on6_mul, on6_mul, on6_v]
    exact (on12_id F6 _ _ _ _ _ _).1
  · show F6.mul (on6 (F6.add (F6.mul x.1 y.2) (F6.mul x.2 y.1))) tau = _
    rw [on6_add, on6_mul, on6_mul]
    exact (on12_id F6 _ _ _ _ vE _).2
theorem tw12_mul (x y : Q12) : tw12 (F12.mul x y) = F12.mul (tw12 x) (tw12 y) := by rw [← on_on, ← on_on, ← on_on, on12_mul, on12_mul]
theorem cj12_mul (x y : Q12) : cj12 (F12.mul x y) = F12.mul (cj12 x) (cj12 y) := by simp only [← tw_three, tw12_mul]
end Go.Proofs.YtaingnhikbaplaaGreat.Ex
namespace Go.Proofs.YtaingnhikbaplaaGreat.Ex
set_option linter.unusedVariables false
set_option linter.unusedSimpArgs false

/-- a power by squares -/
def pf {R : Type} (K : CR R) : Nat → R → Nat → R
  | 0, _, _ => K.one
  | f + 1, b, e => bif Nat.beq e 0 then K.one else bif Nat.beq (e % 2) 1 then K.mul b (pf K f (K.mul b b) (e / 2)) else pf K f (K.mul b b) (e / 2)
theorem pf_eq {R : Type} (K : CR R) : ∀ (f : Nat) (b : R) (e : Nat), e < 2 ^ f → pf K f b e = pwK K b e
  | 0, b, e, h => by have : e = 0 := by omega
                     subst this; rfl
  | f + 1, b, e, h => by
    rw [Nat.pow_succ] at h
    unfold pf
    cases h0 : Nat.beq e 0
    · have hi := pf_eq K f (K.mul b b) (e / 2) (by omega)
      have hb : K.mul b b = pwK K b 2 := by show _ = K.mul (K.mul K.one b) b; rw [K.one_mul]
      have hs : pwK K (K.mul b b) (e / 2) = pwK K b (2 * (e / 2)) := by rw [hb, ← pwK_pw]
      cases h1 : Nat.beq (e % 2) 1
      · have : e % 2 ≠ 1 := fun h => by rw [h] at h1; cases h1
        simp only [cond_false]
        rw [hi, hs]
        congr 1; omega
      · have := Nat.eq_of_beq_eq_true h1
        simp only [cond_true, cond_false]
        rw [hi, hs]
        have he : e = 2 * (e / 2) + 1 := by omega
        conv => rhs; rw [he]
        show _ = K.mul (pwK K b (2 * (e / 2))) b
        rw [K.mul_comm]
    · have := Nat.eq_of_beq_eq_true h0
      subst this; rfl
theorem nt_sq {R : Type} (K : CR R) (q : R) (x : R × R) : ∀ n, nt (K.sq q) x n = (nt K x.1 n, nt K x.2 n)
  | 0 => rfl
  | n + 1 => by show (K.sq q).add (nt (K.sq q) x n) x = _; rw [nt_sq K q x n]; rfl
theorem nt_cu {R : Type} (K : CR R) (q : R) (x : R × R × R) : ∀ n, nt (K.cu q) x n = (nt K x.1 n, nt K x.2.1 n, nt K x.2.2 n)
  | 0 => rfl
  | n + 1 => by show (K.cu q).add (nt (K.cu q) x n) x = _; rw [nt_cu K q x n]; rfl
theorem nt_f1 (x : Fq) : ∀ n, (nt F1 x n).1 = n * x.1 % FP.M
  | 0 => by rw [Nat.zero_mul]; rfl
  | n + 1 => by
    show ((nt F1 x n).1 + x.1) % FP.M = _
    rw [nt_f1 x n, Nat.mod_add_mod, Nat.add_mul, Nat.one_mul]
theorem ch1 (x : Fq) : nt F1 x FP.M = F1.zero := Fin.ext (by rw [nt_f1, Nat.mul_mod_right]; rfl)
theorem ch2 (x : Q2) : nt F2 x FP.M = F2.zero := by unfold F2; rw [nt_sq, ch1, ch1]; rfl
theorem ch6 (x : Q6) : nt F6 x FP.M = F6.zero := by unfold F6; rw [nt_cu, ch2, ch2, ch2]; rfl
theorem ch12 (x : Q12) : nt F12 x FP.M = F12.zero := by unfold F12; rw [nt_sq, ch6, ch6]; rfl
theorem prmP : Prm FP.M := fpRoot.prm
theorem pwK_hom {R S : Type} (K : CR R) (L : CR S) (φ : R → S) (h1 : φ K.one = L.one) (hm : ∀ a b, φ (K.mul a b) = L.mul (φ a) (φ b)) (x : R) : ∀ n, pwK L (φ x) n = φ (pwK K x n)
  | 0 => h1.symm
  | n + 1 => by show L.mul (pwK L (φ x) n) (φ x) = φ (K.mul _ _); rw [pwK_hom K L φ h1 hm x n, hm]
theorem pwF1 (x : Fq) : ∀ n, (pwK F1 x n).1 = x.1 ^ n % FP.M
  | 0 => rfl
  | n + 1 => by show (pwK F1 x n).1 * x.1 % FP.M = _; rw [pwF1 x n, Nat.pow_succ, Nat.mod_mul_mod]
theorem pow_pred (x m : Nat) (h : 0 < m) : x ^ m = x ^ (m - 1) * x := by
  obtain ⟨n, rfl⟩ : ∃ n, m = n + 1 := ⟨m - 1, by omega⟩
  rw [Nat.add_sub_cancel, Nat.pow_succ]
theorem p1 (x : Fq) : pwK F1 x FP.M = x := by
  apply Fin.ext
  rw [pwF1]
  rcases Nat.eq_zero_or_pos x.1 with h | h
  · rw [pow_pred x.1 FP.M fp_pos, h, Nat.mul_zero, Nat.zero_mod]
  · have := ferm h x.2
    rw [pow_pred x.1 FP.M fp_pos, Nat.mul_mod, this, Nat.one_mul, Nat.mod_mod, Nat.mod_eq_of_lt x.2]
def i2 (a : Fq) : Q2 := (a, F1.zero)
def u2 : Q2 := (F1.zero, F1.one)
theorem i2_mul (a b : Fq) : i2 (F1.mul a b) = F2.mul (i2 a) (i2 b) := by
  refine Prod.ext ?_ ?_
  · show F1.mul a b = F1.add (F1.mul a b) (F1.mul _ (F1.mul F1.zero F1.zero)); rw [F1.mul_zero, F1.mul_zero, F1.add_zero]
  · show F1.zero = F1.add (F1.mul a F1.zero) (F1.mul F1.zero b); rw [F1.mul_zero, F1.zero_mul, F1.add_zero]
theorem q2_eq (x : Q2) : x = F2.add (i2 x.1) (F2.mul (i2 x.2) u2) := by
  refine Prod.ext ?_ ?_
  · show x.1 = F1.add x.1 (F1.add (F1.mul x.2 F1.zero) (F1.mul _ (F1.mul F1.zero F1.one))); rw [F1.mul_zero, F1.zero_mul, F1.mul_zero, F1.add_zero, F1.add_zero]
  · show x.2 = F1.add F1.zero (F1.add (F1.mul x.2 F1.one) (F1.mul F1.zero F1.zero)); rw [F1.mul_one, F1.mul_zero, F1.add_zero, F1.zero_add]
theorem u2_p : pwK F2 u2 FP.M = conj2' u2 := by
  rw [← pf_eq F2 256 u2 FP.M (by decide)]
  kernel_rfl
theorem i2_conj (a : Fq) : conj2' (i2 a) = i2 a := Prod.ext rfl (neg_zero F1)
/-- in Fp2 the p-th power is the conjugate -/
theorem p2 (x : Q2) : pwK F2 x FP.M = conj2' x := by
  conv => lhs; rw [q2_eq x]
  rw [fresh F2 prmP ch2, pwK_mul, pwK_hom F1 F2 i2 rfl i2_mul, pwK_hom F1 F2 i2 rfl i2_mul, p1, p1, u2_p]
  conv => rhs; rw [q2_eq x, cj_add, cj_mul, i2_conj, i2_conj]
def i6 (a : Q2) : Q6 := (a, F2.zero, F2.zero)
theorem i6_mul (a b : Q2) : i6 (F2.mul a b) = F6.mul (i6 a) (i6 b) := by
  show _ = F6.mul (i6 a) (b, F2.zero, F2.zero)
  rw [mul_tau]
  refine Prod.ext rfl (Prod.ext ?_ ?_) <;> exact (F2.zero_mul _).symm
theorem i6_on (a : Q2) : on6 (i6 a) = i6 (conj2' a) := by
  rw [on6_eq]
  have h : conj2' F2.zero = F2.zero := by decide
  refine Prod.ext rfl (Prod.ext ?_ ?_)
  · show F2.mul (conj2' F2.zero) _ = F2.zero; rw [h, F2.zero_mul]
  · show F2.mul (conj2' F2.zero) _ = F2.zero; rw [h, F2.zero_mul]
theorem q6_eq (x : Q6) : x = F6.add (i6 x.1) (F6.add (F6.mul (i6 x.2.1) vE) (F6.mul (i6 x.2.2) (F6.mul vE vE))) := by
  have h1 : ∀ c : Q2, F6.mul (i6 c) vE = (F2.zero, c, F2.zero) := fun c => by
    rw [F6.mul_comm, raw_t6v]
    show (F2.mul F2.zero xiE, c, F2.zero) = _
    rw [F2.zero_mul]
  have h2 : ∀ c : Q2, F6.mul (i6 c) (F6.mul vE vE) = (F2.zero, F2.zero, c) := fun c => by
    rw [← F6.mul_assoc, h1, F6.mul_comm, raw_t6v]
    show (F2.mul F2.zero xiE, F2.zero, c) = _
    rw [F2.zero_mul]
  rw [h1, h2]
  refine Prod.ext ?_ (Prod.ext ?_ ?_)
  · show x.1 = F2.add x.1 (F2.add F2.zero F2.zero); rw [F2.add_zero, F2.add_zero]
  · show x.2.1 = F2.add F2.zero (F2.add x.2.1 F2.zero); rw [F2.add_zero, F2.zero_add]
  · show x.2.2 = F2.add F2.zero (F2.add F2.zero x.2.2); rw [F2.zero_add, F2.zero_add]
theorem v_p : pwK F6 vE FP.M = on6 vE := by
  rw [← pf_eq F6 256 vE FP.M (by decide)]
  kernel_rfl
/-- in Fp6 -/
theorem p6 (x : Q6) : pwK F6 x FP.M = on6 x := by
  conv => lhs; rw [q6_eq x]
  rw [fresh F6 prmP ch6, fresh F6 prmP ch6, pwK_mul, pwK_mul, pwK_mul, pwK_hom F2 F6 i6 rfl i6_mul, pwK_hom F2 F6 i6 rfl i6_mul, pwK_hom F2 F6 i6 rfl i6_mul, p2, p2, p2, v_p]
  conv => rhs; rw [q6_eq x, on6_add, on6_add, on6_mul, on6_mul, on6_mul, i6_on, i6_on, i6_on]
def i12 (a : Q6) : Q12 := (a, F6.zero)
def wE : Q12 := (F6.zero, F6.one)
theorem i12_mul (a b : Q6) : i12 (F6.mul a b) = F12.mul (i12 a) (i12 b) := by
  refine Prod.ext ?_ ?_
  · show F6.mul a b = F6.add (F6.mul a b) (F6.mul _ (F6.mul F6.zero F6.zero)); rw [F6.mul_zero, F6.mul_zero, F6.add_zero]
  · show F6.zero = F6.add (F6.mul a F6.zero) (F6.mul F6.zero b); rw [F6.mul_zero, F6.zero_mul, F6.add_zero]
theorem q12_eq (x : Q12) : x = F12.add (i12 x.1) (F12.mul (i12 x.2) wE) := by
  refine Prod.ext ?_ ?_
  · show x.1 = F6.add x.1 (F6.add (F6.mul x.2 F6.zero) (F6.mul _ (F6.mul F6.zero F6.one))); rw [F6.mul_zero, F6.zero_mul, F6.mul_zero, F6.add_zero, F6.add_zero]
  · show x.2 = F6.add F6.zero (F6.add (F6.mul x.2 F6.one) (F6.mul F6.zero F6.zero)); rw [F6.mul_one, F6.mul_zero, F6.add_zero, F6.zero_add]
theorem on6_zero : on6 F6.zero = F6.zero := by decide
theorem on12_add (x y : Q12) : on12 (F12.add x y) = F12.add (on12 x) (on12 y) := by
  rw [on12_eq, on12_eq, on12_eq]
  refine Prod.ext (on6_add _ _) ?_
  show F6.mul (on6 (F6.add x.2 y.2)) tau = F6.add _ _
  rw [on6_add, F6.add_mul]
theorem i12_on (a : Q6) : on12 (i12 a) = i12 (on6 a) := by
  rw [on12_eq]
  refine Prod.ext rfl ?_
  show F6.mul (on6 F6.zero) tau = F6.zero
  rw [on6_zero, F6.zero_mul]
theorem w_p : pwK F12 wE FP.M = on12 wE := by
  rw [← pf_eq F12 256 wE FP.M (by decide)]
  kernel_rfl
/-- in Fp12 the p-th power is the map of coefficients -/
theorem p12 (x : Q12) : pwK F12 x FP.M = on12 x := by
  conv => lhs; rw [q12_eq x]
  rw [fresh F12 prmP ch12, pwK_mul, pwK_hom F6 F12 i12 rfl i12_mul, pwK_hom F6 F12 i12 rfl i12_mul, p6, p6, w_p]
  conv => rhs; rw [q12_eq x, on12_add, on12_mul, i12_on, i12_on]
end Go.Proofs.YtaingnhikbaplaaGreat.Ex
namespace Go.Proofs.YtaingnhikbaplaaGreat.Ex
set_option linter.unusedVariables false
set_option linter.unusedSimpArgs false
open Go.RowKit
set_option maxRecDepth 100000 in
theorem run_turnsOnce (c : Bool)  : funA Tryz.prog (T_Neg2 c) qN (fun _ => true) Tryz.f215 60 [] = some ([], .one (.fl [.f tn0.1, .f tn0.2, .f tn1.1, .f tn1.2, .f tn2.1, .f tn2.2, .f tn3.1, .f tn3.2, .f tn4.1, .f tn4.2, .f tn5.1, .f tn5.2])) := by kernel_rfl
noncomputable def T_turnsOnce (c : Bool) : Tab := (T_Neg2 c).add 215 (g0 (.one (.fl [.f tn0.1, .f tn0.2, .f tn1.1, .f tn1.2, .f tn2.1, .f tn2.2, .f tn3.1, .f tn3.2, .f tn4.1, .f tn4.2, .f tn5.1, .f tn5.2])))
theorem ok_turnsOnce (c : Bool) : TabOk Tryz.prog (T_turnsOnce c) := (ok_al c).add Tryz.func215 (by kernel_rfl) (by kernel_rfl) (g0_ok fun w => fun_sound hmix (ok_al c) qN_ok Tryz.func215 (run_turnsOnce c) trivial (args := []) trivial)
set_option maxRecDepth 100000 in
theorem run_turnsTwice (c : Bool)  : funA Tryz.prog (T_turnsOnce c) qN (fun _ => true) Tryz.f213 60 [] = some ([], .one (.fl [.f sn0, .f sn1, .f sn2, .f sn3, .f sn4, .f sn5])) := by kernel_rfl
noncomputable def T_turnsTwice (c : Bool) : Tab := (T_turnsOnce c).add 213 (g0 (.one (.fl [.f sn0, .f sn1, .f sn2, .f sn3, .f sn4, .f sn5])))
theorem ok_turnsTwice (c : Bool) : TabOk Tryz.prog (T_turnsTwice c) := (ok_turnsOnce c).add Tryz.func213 (by kernel_rfl) (by kernel_rfl) (g0_ok fun w => fun_sound hmix (ok_turnsOnce c) qN_ok Tryz.func213 (run_turnsTwice c) trivial (args := []) trivial)
set_option maxRecDepth 100000 in
theorem run_once (c : Bool) (x : Q12) : funA Tryz.prog (T_turnsTwice c) qN (fun _ => true) Tryz.f139 80 [.v (.fl (e12 x))] = some ([], .one (.fl (e12 (on12 x)))) := by kernel_rfl
noncomputable def T_once (c : Bool) : Tab := (T_turnsTwice c).add 139 (g1 rd12 fun x => ([], .one (.fl (e12 (on12 x)))))
theorem ok_once (c : Bool) : TabOk Tryz.prog (T_once c) := (ok_turnsTwice c).add Tryz.func139 (by kernel_rfl) (by kernel_rfl) (g1_ok rd12_ok fun x hp args w ha => fun_sound hmix (ok_turnsTwice c) qN_ok Tryz.func139 (run_once c x) hp ha)
set_option maxRecDepth 100000 in
theorem run_twice (c : Bool) (x : Q12) : funA Tryz.prog (T_once c) qN (fun _ => true) Tryz.f138 80 [.v (.fl (e12 x))] = some ([], .one (.fl (e12 (tw12 x)))) := by kernel_rfl
noncomputable def T_twice (c : Bool) : Tab := (T_once c).add 138 (g1 rd12 fun x => ([], .one (.fl (e12 (tw12 x)))))
theorem ok_twice (c : Bool) : TabOk Tryz.prog (T_twice c) := (ok_once c).add Tryz.func138 (by kernel_rfl) (by kernel_rfl) (g1_ok rd12_ok fun x hp args w ha => fun_sound hmix (ok_once c) qN_ok Tryz.func138 (run_twice c x) hp ha)
theorem sq_id1 {R : Type} (K : CR R) (a b v : R) : K.add (K.mul a a) (K.mul v (K.mul b b)) = K.sub (K.sub (K.mul (K.add a b) (K.add a (K.mul v b))) (K.mul a b)) (K.mul v (K.mul a b)) :=
  ring_id K (envL K [a, b, v]) (.add (.mul (.v 0) (.v 0)) (.mul (.v 2) (.mul (.v 1) (.v 1)))) (.add (.add (.mul (.add (.v 0) (.v 1)) (.add (.v 0) (.mul (.v 2) (.v 1)))) (.neg (.mul (.v 0) (.v 1)))) (.neg (.mul (.v 2) (.mul (.v 0) (.v 1))))) (by decide)
theorem sq_id2 {R : Type} (K : CR R) (a b : R) : K.add (K.mul a b) (K.mul b a) = K.add (K.mul a b) (K.mul a b) := by rw [K.mul_comm b a]
set_option maxRecDepth 100000 in
theorem run_square (c : Bool) (x : Q12) : funA Tryz.prog (T_twice c) qN (fun _ => true) Tryz.f205 60 [.v (.fl (e12 x))] = some ([], .one (.fl (e12 ((F6.sub (F6.sub (F6.mul (F6.add x.1 x.2) (F6.add x.1 (F6.mul vE x.2))) (F6.mul x.1 x.2)) (F6.mul vE (F6.mul x.1 x.2)), F6.add (F6.mul x.1 x.2) (F6.mul x.1 x.2)))))) := by kernel_rfl
theorem raw_square (x : Q12) : F12.mul x x = (F6.sub (F6.sub (F6.mul (F6.add x.1 x.2) (F6.add x.1 (F6.mul vE x.2))) (F6.mul x.1 x.2)) (F6.mul vE (F6.mul x.1 x.2)), F6.add (F6.mul x.1 x.2) (F6.mul x.1 x.2)) := by
  exact Prod.ext (sq_id1 F6 x.1 x.2 vE) (sq_id2 F6 x.1 x.2)
noncomputable def T_square (c : Bool) : Tab := (T_twice c).add 205 (g1 rd12 fun x => ([], .one (.fl (e12 (F12.mul x x)))))
theorem ok_square (c : Bool) : TabOk Tryz.prog (T_square c) := (ok_twice c).add Tryz.func205 (by kernel_rfl) (by kernel_rfl) (g1_ok rd12_ok fun x hp args w ha => by show Good _ _ (.one (.fl (e12 (F12.mul x x)))) _ _; rw [raw_square]; exact fun_sound hmix (ok_twice c) qN_ok Tryz.func205 (run_square c x) hp ha)
/-- the rest that Frob12 reckons of n -/
def rest12N (n : Int) : Int := (IntKind.i64.wrap (n.tmod 12 + 12)).tmod 12
/-- so often to the p -/
def it12 : Nat → Q12 → Q12
  | 0, x => x
  | n + 1, x => on12 (it12 n x)
set_option maxRecDepth 100000 in
theorem run_frob_0 (c : Bool) (x : N12) (n : Int) : funB Tryz.prog qN (fun _ => ⟨fun _ => T_square c, fun _ => true, fun s => bif Nat.beq s 9 then some (.int .i64 0) else none⟩) Tryz.f77 60 [.v (.fl (q12 x)), .v (.im (.int .i64 n))] = some ([intOp .rem .i64 (IntKind.i64.wrap (n.tmod 12 + 12)) 12 = some (.int .i64 0)], .one (.fl (e12 (m12 x)))) := by kernel_rfl
set_option maxRecDepth 100000 in
theorem run_frob_1 (c : Bool) (x : N12) (n : Int) : funB Tryz.prog qN (fun _ => ⟨fun _ => T_square c, fun _ => true, fun s => bif Nat.beq s 9 then some (.int .i64 1) else none⟩) Tryz.f77 60 [.v (.fl (q12 x)), .v (.im (.int .i64 n))] = some ([intOp .rem .i64 (IntKind.i64.wrap (n.tmod 12 + 12)) 12 = some (.int .i64 1)], .one (.fl (e12 (on12 (m12 x))))) := by kernel_rfl
set_option maxRecDepth 100000 in
theorem run_frob_2 (c : Bool) (x : N12) (n : Int) : funB Tryz.prog qN (fun _ => ⟨fun _ => T_square c, fun _ => true, fun s => bif Nat.beq s 9 then some (.int .i64 2) else none⟩) Tryz.f77 60 [.v (.fl (q12 x)), .v (.im (.int .i64 n))] = some ([intOp .rem .i64 (IntKind.i64.wrap (n.tmod 12 + 12)) 12 = some (.int .i64 2)], .one (.fl (e12 (tw12 (m12 x))))) := by kernel_rfl
set_option maxRecDepth 100000 in
theorem run_frob_3 (c : Bool) (x : N12) (n : Int) : funB Tryz.prog qN (fun _ => ⟨fun _ => T_square c, fun _ => true, fun s => bif Nat.beq s 9 then some (.int .i64 3) else none⟩) Tryz.f77 60 [.v (.fl (q12 x)), .v (.im (.int .i64 n))] = some ([intOp .rem .i64 (IntKind.i64.wrap (n.tmod 12 + 12)) 12 = some (.int .i64 3)], .one (.fl (e12 (on12 (tw12 (m12 x)))))) := by kernel_rfl
set_option maxRecDepth 100000 in
theorem run_frob_4 (c : Bool) (x : N12) (n : Int) : funB Tryz.prog qN (fun _ => ⟨fun _ => T_square c, fun _ => true, fun s => bif Nat.beq s 9 then some (.int .i64 4) else none⟩) Tryz.f77 60 [.v (.fl (q12 x)), .v (.im (.int .i64 n))] = some ([intOp .rem .i64 (IntKind.i64.wrap (n.tmod 12 + 12)) 12 = some (.int .i64 4)], .one (.fl (e12 (tw12 (tw12 (m12 x)))))) := by kernel_rfl
set_option maxRecDepth 100000 in
theorem run_frob_5 (c : Bool) (x : N12) (n : Int) : funB Tryz.prog qN (fun _ => ⟨fun _ => T_square c, fun _ => true, fun s => bif Nat.beq s 9 then some (.int .i64 5) else none⟩) Tryz.f77 60 [.v (.fl (q12 x)), .v (.im (.int .i64 n))] = some ([intOp .rem .i64 (IntKind.i64.wrap (n.tmod 12 + 12)) 12 = some (.int .i64 5)], .one (.fl (e12 (on12 (tw12 (tw12 (m12 x))))))) := by kernel_rfl
set_option maxRecDepth 100000 in
theorem run_frob_6 (c : Bool) (x : N12) (n : Int) : funB Tryz.prog qN (fun _ => ⟨fun _ => T_square c, fun _ => true, fun s => bif Nat.beq s 9 then some (.int .i64 6) else none⟩) Tryz.f77 60 [.v (.fl (q12 x)), .v (.im (.int .i64 n))] = some ([intOp .rem .i64 (IntKind.i64.wrap (n.tmod 12 + 12)) 12 = some (.int .i64 6)], .one (.fl (e12 (cj12 (m12 x))))) := by kernel_rfl
set_option maxRecDepth 100000 in
theorem run_frob_7 (c : Bool) (x : N12) (n : Int) : funB Tryz.prog qN (fun _ => ⟨fun _ => T_square c, fun _ => true, fun s => bif Nat.beq s 9 then some (.int .i64 7) else none⟩) Tryz.f77 60 [.v (.fl (q12 x)), .v (.im (.int .i64 n))] = some ([intOp .rem .i64 (IntKind.i64.wrap (n.tmod 12 + 12)) 12 = some (.int .i64 7)], .one (.fl (e12 (on12 (cj12 (m12 x)))))) := by kernel_rfl
set_option maxRecDepth 100000 in
theorem run_frob_8 (c : Bool) (x : N12) (n : Int) : funB Tryz.prog qN (fun _ => ⟨fun _ => T_square c, fun _ => true, fun s => bif Nat.beq s 9 then some (.int .i64 8) else none⟩) Tryz.f77 60 [.v (.fl (q12 x)), .v (.im (.int .i64 n))] = some ([intOp .rem .i64 (IntKind.i64.wrap (n.tmod 12 + 12)) 12 = some (.int .i64 8)], .one (.fl (e12 (tw12 (cj12 (m12 x)))))) := by kernel_rfl
set_option maxRecDepth 100000 in
theorem run_frob_9 (c : Bool) (x : N12) (n : Int) : funB Tryz.prog qN (fun _ => ⟨fun _ => T_square c, fun _ => true, fun s => bif Nat.beq s 9 then some (.int .i64 9) else none⟩) Tryz.f77 60 [.v (.fl (q12 x)), .v (.im (.int .i64 n))] = some ([intOp .rem .i64 (IntKind.i64.wrap (n.tmod 12 + 12)) 12 = some (.int .i64 9)], .one (.fl (e12 (on12 (tw12 (cj12 (m12 x))))))) := by kernel_rfl
set_option maxRecDepth 100000 in
theorem run_frob_10 (c : Bool) (x : N12) (n : Int) : funB Tryz.prog qN (fun _ => ⟨fun _ => T_square c, fun _ => true, fun s => bif Nat.beq s 9 then some (.int .i64 10) else none⟩) Tryz.f77 60 [.v (.fl (q12 x)), .v (.im (.int .i64 n))] = some ([intOp .rem .i64 (IntKind.i64.wrap (n.tmod 12 + 12)) 12 = some (.int .i64 10)], .one (.fl (e12 (tw12 (tw12 (cj12 (m12 x))))))) := by kernel_rfl
set_option maxRecDepth 100000 in
theorem run_frob_11 (c : Bool) (x : N12) (n : Int) : funB Tryz.prog qN (fun _ => ⟨fun _ => T_square c, fun _ => true, fun s => bif Nat.beq s 9 then some (.int .i64 11) else none⟩) Tryz.f77 60 [.v (.fl (q12 x)), .v (.im (.int .i64 n))] = some ([intOp .rem .i64 (IntKind.i64.wrap (n.tmod 12 + 12)) 12 = some (.int .i64 11)], .one (.fl (e12 (on12 (tw12 (tw12 (cj12 (m12 x)))))))) := by kernel_rfl
def gFrob : Ent
  | [.v (.fl l), .v (.im (.int .i64 n))] => match rv12 l with
    | some x => some ([], .one (.fl (e12 (it12 (rest12N n).toNat x))))
    | none => none
  | _ => none
theorem it_tw (k : Nat) (x : Q12) : it12 (k + 2) x = tw12 (it12 k x) := on_on _
theorem it_six (x : Q12) : it12 6 x = cj12 x := by rw [it_tw 4, it_tw 2, it_tw 0, ← tw_three]; rfl
theorem it_comm (m : Nat) : ∀ (n : Nat) (x : Q12), it12 (n + m) x = it12 n (it12 m x)
  | 0, x => by rw [Nat.zero_add]; rfl
  | n + 1, x => by rw [show n + 1 + m = (n + m) + 1 by omega]; show on12 (it12 (n + m) x) = on12 (it12 n (it12 m x)); rw [it_comm m n x]
theorem it_is0 (x : Q12) : it12 0 x = x := rfl
theorem it_is1 (x : Q12) : it12 1 x = (on12 x) := rfl
theorem it_is2 (x : Q12) : it12 2 x = (tw12 x) := by rw [it_tw 0]; rfl
theorem it_is3 (x : Q12) : it12 3 x = (on12 (tw12 x)) := by show on12 (it12 2 x) = _; rw [it_tw 0]; rfl
theorem it_is4 (x : Q12) : it12 4 x = (tw12 (tw12 x)) := by rw [it_tw 2, it_tw 0]; rfl
theorem it_is5 (x : Q12) : it12 5 x = (on12 (tw12 (tw12 x))) := by show on12 (it12 4 x) = _; rw [it_tw 2, it_tw 0]; rfl
theorem it_is6 (x : Q12) : it12 6 x = (cj12 x) := by rw [show (6 : Nat) = 0 + 6 from rfl, it_comm, it_six]; exact it_is0 _
theorem it_is7 (x : Q12) : it12 7 x = (on12 (cj12 x)) := by rw [show (7 : Nat) = 1 + 6 from rfl, it_comm, it_six]; exact it_is1 _
theorem it_is8 (x : Q12) : it12 8 x = (tw12 (cj12 x)) := by rw [show (8 : Nat) = 2 + 6 from rfl, it_comm, it_six]; exact it_is2 _
theorem it_is9 (x : Q12) : it12 9 x = (on12 (tw12 (cj12 x))) := by rw [show (9 : Nat) = 3 + 6 from rfl, it_comm, it_six]; exact it_is3 _
theorem it_is10 (x : Q12) : it12 10 x = (tw12 (tw12 (cj12 x))) := by rw [show (10 : Nat) = 4 + 6 from rfl, it_comm, it_six]; exact it_is4 _
theorem it_is11 (x : Q12) : it12 11 x = (on12 (tw12 (tw12 (cj12 x)))) := by rw [show (11 : Nat) = 5 + 6 from rfl, it_comm, it_six]; exact it_is5 _
theorem intOp_rem {n : Int} {k : Int} (h : rest12N n = k) : intOp .rem .i64 (IntKind.i64.wrap (n.tmod 12 + 12)) 12 = some (.int .i64 k) := by
  show some (Value.int .i64 ((IntKind.i64.wrap (n.tmod 12 + 12)).tmod 12)) = _
  rw [show (IntKind.i64.wrap (n.tmod 12 + 12)).tmod 12 = k from h]
theorem tmod_lt (n : Int) : -12 < n.tmod 12 ∧ n.tmod 12 < 12 := by
  constructor
  · exact Int.lt_tmod_of_pos n (by omega)
  · exact Int.tmod_lt_of_pos n (by omega)
theorem rest12N_eq (n : Int) : rest12N n = (n.tmod 12 + 12).tmod 12 ∧ 0 ≤ rest12N n ∧ rest12N n < 12 := by
  have h := tmod_lt n
  have e : IntKind.i64.wrap (n.tmod 12 + 12) = n.tmod 12 + 12 := IntWalk.i64_in _ (by omega)
  unfold rest12N
  rw [e]
  exact ⟨rfl, Int.tmod_nonneg 12 (by omega), Int.tmod_lt_of_pos _ (by omega)⟩
theorem frob_ok (c : Bool) : ∀ cs pre r, gFrob cs = some (pre, r) → allP pre → ∀ (args : List Value) (w : World), CAs w cs args → Good Tryz.prog 77 r args w := by
  intro cs pre r hg hp args w ha
  unfold gFrob at hg
  split at hg
  · rename_i l n
    split at hg
    · rename_i x hx
      cases hg
      obtain ⟨a, e1, rfl⟩ := rv12_ok l x hx
      have ha' : CAs w [.v (.fl (q12 a)), .v (.im (.int .i64 n))] args := by
        match args, ha with
        | [v, u], ha =>
          refine ⟨?_, ha.2.1, trivial⟩
          show v = .agg (flat (q12 a)).toArray
          rw [← e1]
          exact ha.1
        | [], ha => exact ha.elim
        | [_], ha => exact ha.2.elim
        | _ :: _ :: _ :: _, ha => exact ha.2.2.elim
      obtain ⟨_, h0, h1⟩ := rest12N_eq n
      have hk : (rest12N n).toNat = 0 ∨ (rest12N n).toNat = 1 ∨ (rest12N n).toNat = 2 ∨ (rest12N n).toNat = 3 ∨ (rest12N n).toNat = 4 ∨ (rest12N n).toNat = 5 ∨ (rest12N n).toNat = 6 ∨ (rest12N n).toNat = 7 ∨ (rest12N n).toNat = 8 ∨ (rest12N n).toNat = 9 ∨ (rest12N n).toNat = 10 ∨ (rest12N n).toNat = 11 := by omega
      rcases hk with h | h | h | h | h | h | h | h | h | h | h | h
      · rw [h, it_is0]
        exact funB_sound hmix (fun _ _ => ok_square c) qN_ok Tryz.func77 (run_frob_0 c a n) ⟨intOp_rem (by omega), trivial⟩ ha'
      · rw [h, it_is1]
        exact funB_sound hmix (fun _ _ => ok_square c) qN_ok Tryz.func77 (run_frob_1 c a n) ⟨intOp_rem (by omega), trivial⟩ ha'
      · rw [h, it_is2]
        exact funB_sound hmix (fun _ _ => ok_square c) qN_ok Tryz.func77 (run_frob_2 c a n) ⟨intOp_rem (by omega), trivial⟩ ha'
      · rw [h, it_is3]
        exact funB_sound hmix (fun _ _ => ok_square c) qN_ok Tryz.func77 (run_frob_3 c a n) ⟨intOp_rem (by omega), trivial⟩ ha'
      · rw [h, it_is4]
        exact funB_sound hmix (fun _ _ => ok_square c) qN_ok Tryz.func77 (run_frob_4 c a n) ⟨intOp_rem (by omega), trivial⟩ ha'
      · rw [h, it_is5]
        exact funB_sound hmix (fun _ _ => ok_square c) qN_ok Tryz.func77 (run_frob_5 c a n) ⟨intOp_rem (by omega), trivial⟩ ha'
      · rw [h, it_is6]
        exact funB_sound hmix (fun _ _ => ok_square c) qN_ok Tryz.func77 (run_frob_6 c a n) ⟨intOp_rem (by omega), trivial⟩ ha'
      · rw [h, it_is7]
        exact funB_sound hmix (fun _ _ => ok_square c) qN_ok Tryz.func77 (run_frob_7 c a n) ⟨intOp_rem (by omega), trivial⟩ ha'
      · rw [h, it_is8]
        exact funB_sound hmix (fun _ _ => ok_square c) qN_ok Tryz.func77 (run_frob_8 c a n) ⟨intOp_rem (by omega), trivial⟩ ha'
      · rw [h, it_is9]
        exact funB_sound hmix (fun _ _ => ok_square c) qN_ok Tryz.func77 (run_frob_9 c a n) ⟨intOp_rem (by omega), trivial⟩ ha'
      · rw [h, it_is10]
        exact funB_sound hmix (fun _ _ => ok_square c) qN_ok Tryz.func77 (run_frob_10 c a n) ⟨intOp_rem (by omega), trivial⟩ ha'
      · rw [h, it_is11]
        exact funB_sound hmix (fun _ _ => ok_square c) qN_ok Tryz.func77 (run_frob_11 c a n) ⟨intOp_rem (by omega), trivial⟩ ha'
    · cases hg
  · cases hg
noncomputable def T_Frob12 (c : Bool) : Tab := (T_square c).add 77 gFrob
theorem ok_Frob12 (c : Bool) : TabOk Tryz.prog (T_Frob12 c) := (ok_square c).add Tryz.func77 (by kernel_rfl) (by kernel_rfl) (frob_ok c)
set_option maxRecDepth 100000 in
theorem run_Conj12 (c : Bool) (x : N12) : funA Tryz.prog (T_Frob12 c) qN (fun _ => true) Tryz.f124 40 [.v (.fl (q12 x))] = some ([], .one (.fl (e12 (cj12 (m12 x))))) := by kernel_rfl
noncomputable def T_Conj12 (c : Bool) : Tab := (T_Frob12 c).add 124 (g1 rv12 (fun x => ([], .one (.fl (e12 (cj12 x))))))
theorem ok_Conj12 (c : Bool) : TabOk Tryz.prog (T_Conj12 c) := (ok_Frob12 c).add Tryz.func124 (by kernel_rfl) (by kernel_rfl) (g1v_ok rv12_ok fun x hp args w ha => fun_sound hmix (ok_Frob12 c) qN_ok Tryz.func124 (run_Conj12 c x) hp ha)
end Go.Proofs.YtaingnhikbaplaaGreat.Ex
