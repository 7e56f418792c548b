/- Pt12 -/
import Derived.Test.YtfnkbmlmgnadmaaGreatPt10
import Derived.Test.YtfnkbmlmgnadmaaGreatPt11
import Derived.Test.YtfnkbmlmgnadmaaGreatPt00
import Derived.Test.YtfnkbmlmgnadmaaGreatPt07
import Derived.Test.YtfnkbmlmgnadmaaGreatPt03
import Derived.Test.YtfnkbmlmgnadmaaGreatPt04
set_option maxRecDepth 100000
set_option linter.unusedVariables false
set_option linter.unusedSimpArgs false
noncomputable section
namespace Go.Proofs.YtfnkbmlmgnadmaaGreat.Ex
open Go.Proofs.Tryz
namespace AG
variable {G : Type} (A : AG G)
theorem addz (a : G) : A.add a A.zero = a:=by rw [A.comm,A.zadd]
theorem addn (a : G) : A.add a (A.neg a) = A.zero:=by rw [A.comm,A.nadd]
theorem left_comm (a b c : G) : A.add a (A.add b c) = A.add b (A.add a c):=by rw [← A.assoc,A.comm a b,A.assoc]
theorem cancel {a b c : G} (h : A.add a b = A.add a c) : b = c:=by
 have:=congrArg (A.add (A.neg a)) h
 rwa [← A.assoc,← A.assoc,A.nadd,A.zadd,A.zadd] at this
theorem neg_add (a b : G) : A.neg (A.add a b) = A.add (A.neg a) (A.neg b):=by
 apply A.cancel (a:=A.add a b);rw [A.addn,A.assoc,A.left_comm b,A.addn,A.addz,A.addn]
theorem add4 (a b c d : G) : A.add (A.add a b) (A.add c d) = A.add (A.add a c) (A.add b d):=by
 rw [A.assoc,A.left_comm b,← A.assoc]
def ns : Nat → G → G
 | 0,_ => A.zero
 | n + 1,g => A.add (ns n g) g
theorem ns_add (m : Nat) (g : G) : ∀ n,A.ns (m + n) g = A.add (A.ns m g) (A.ns n g)
 | 0 => (A.addz _).symm
 | n + 1 => by show A.add (A.ns (m + n) g) g = A.add _ (A.add _ _); rw [ns_add m g n,A.assoc]
theorem ns_zero : ∀ n,A.ns n A.zero = A.zero
 | 0 => rfl
 | n + 1 => by show A.add (A.ns n _) _ = _; rw [ns_zero n,A.zadd]
theorem ns_mul (m : Nat) (g : G) : ∀ n,A.ns (m * n) g = A.ns n (A.ns m g)
 | 0 => rfl
 | n + 1 => by rw [Nat.mul_add,Nat.mul_one,ns_add,ns_mul m g n]; rfl
def zs : Int → G → G
 | .ofNat n,g => A.ns n g
 | .negSucc n,g => A.neg (A.ns (n + 1) g)
theorem zs_sub (m n : Nat) (g : G) : A.zs (Int.subNatNat m n) g = A.add (A.ns m g) (A.neg (A.ns n g)):=by
 unfold Int.subNatNat;split
 ·rename_i h;have : m = n + (m - n):=by omega
  show A.ns (m - n) g = _
  conv => rhs; rw [this,ns_add]
  rw [A.comm (A.ns n g),A.assoc,A.addn,A.addz]
 ·rename_i k h;have : n = m + (k + 1):=by omega
  show A.neg (A.ns (k + 1) g) = _;rw [this,ns_add A m g (k + 1),A.neg_add (A.ns m g),← A.assoc,A.addn,A.zadd]
theorem zs_add (g : G) (a b : Int) : A.zs (a + b) g = A.add (A.zs a g) (A.zs b g):=by
 cases a with
 | ofNat m =>
  cases b with
  | ofNat n => exact A.ns_add m g n
  | negSucc n => exact A.zs_sub m (n + 1) g
 | negSucc m =>
  cases b with
  | ofNat n => show A.zs (Int.subNatNat n (m + 1)) g = _; rw [zs_sub,A.comm]; rfl
  | negSucc n =>
   show A.neg (A.ns (m + n + 1 + 1) g) = A.add (A.neg (A.ns (m + 1) g)) (A.neg (A.ns (n + 1) g));rw [← A.neg_add,← ns_add,show m + 1 + (n + 1) = m + n + 1 + 1 by omega]
def sm (P : Nat → G) (c : Nat → Int) : Nat → G
 | 0 => A.zero
 | n + 1 => A.add (sm P c n) (A.zs (c n) (P n))
theorem sm_add (P : Nat → G) (c d : Nat → Int) : ∀ n,A.sm P (fun i => c i + d i) n = A.add (A.sm P c n) (A.sm P d n)
 | 0 => (A.zadd _).symm
 | n + 1 => by show A.add (A.sm P _ n) (A.zs (c n + d n) (P n)) = A.add (A.add _ _) (A.add _ _); rw [sm_add P c d n,zs_add,A.add4]
theorem sm_congr {P : Nat → G} {c d : Nat → Int} : ∀ {n},(∀ i,i < n → c i = d i) → A.sm P c n = A.sm P d n
 | 0,_ => rfl
 | n + 1,h => by show A.add _ (A.zs (c n) _) = A.add _ (A.zs (d n) _); rw [sm_congr fun i hi => h i (by omega),h n (by omega)]
theorem sm_zero (P : Nat → G) : ∀ n,A.sm P (fun _ => 0) n = A.zero
 | 0 => rfl
 | n + 1 => by show A.add (A.sm P _ n) A.zero = _; rw [sm_zero P n,A.zadd]
theorem sm_two (P : Nat → G) (c : Nat → Int) (n : Nat) : A.add (A.sm P c n) (A.sm P c n) = A.sm P (fun i => 2 * c i) n:=by
 rw [← sm_add];exact A.sm_congr fun i _ => by omega
end AG
def nE (w : Nat) : Int:=((w + 1) / 2 : Nat) - (if 16 ≤ w then 16 else 0 : Int)
def wM (x p : Nat) : Nat:=(if p = 0 then x * 2 else x / 2 ^ (p * 4 - 1)) % 32
def JY (x PL : Nat) : Nat → Int
 | 0 => 0
 | i + 1 => 16 * JY x PL i + nE (wM x (PL - 1 - i))
theorem Jg (x PL : Nat) (h : x < 2 ^ (4 * PL - 1)) (h0 : 0 < PL) : ∀ i,i < PL → JY x PL i = ((x / 2 ^ (4 * (PL - i)) + x / 2 ^ (4 * (PL - i) - 1) % 2 : Nat) : Int)
 | 0,_ => by
  have h1 : x / 2 ^ (4 * PL - 1) = 0:=Nat.div_eq_of_lt h;have h2 : x / 2 ^ (4 * PL) = 0:=Nat.div_eq_of_lt (Nat.lt_of_lt_of_le h (Nat.pow_le_pow_right (by omega) (by omega)));show (0 : Int) = ((x / 2 ^ (4 * (PL - 0)) + x / 2 ^ (4 * (PL - 0) - 1) % 2 : Nat) : Int);rw [Nat.sub_zero,h1,h2]; rfl
 | i + 1,hi => by
  have ih:=Jg x PL h h0 i (by omega);show 16 * JY x PL i + nE (wM x (PL - 1 - i)) = _;rw [ih];have hp : PL - 1 - i ≠ 0:=by omega
  have e1 : 4 * (PL - i) = (4 * (PL - (i + 1)) - 1) + 5:=by omega
  have e2 : 4 * (PL - i) - 1 = (4 * (PL - (i + 1)) - 1) + 4:=by omega
  have e3 : 4 * (PL - (i + 1)) = (4 * (PL - (i + 1)) - 1) + 1:=by omega
  have e4 : (PL - 1 - i) * 4 - 1 = 4 * (PL - (i + 1)) - 1:=by omega
  unfold nE wM;rw [if_neg hp,e1,e4];rw [show (4 * (PL - (i + 1)) - 1) + 5 - 1 = (4 * (PL - (i + 1)) - 1) + 4 by omega];have e5 : x / 2 ^ (4 * (PL - (i + 1))) = x / 2 ^ (4 * (PL - (i + 1)) - 1) / 2:=by
   conv => lhs; rw [e3]
   rw [Nat.pow_add,← Nat.div_div_eq_div_mul]
  rw [e5,Nat.pow_add,Nat.pow_add,← Nat.div_div_eq_div_mul,← Nat.div_div_eq_div_mul];generalize x / 2 ^ (4 * (PL - (i + 1)) - 1) = a;show 16 * ((a / 32 + a / 16 % 2 : Nat) : Int) + (((a % 32 + 1) / 2 : Nat) - (if 16 ≤ a % 32 then 16 else 0 : Int)) = ((a / 2 + a % 2 : Nat) : Int);split <;> omega
theorem So (x PL : Nat) (h : x < 2 ^ (4 * PL - 1)) (h0 : 0 < PL) : JY x PL PL = x:=by
 obtain ⟨k,rfl⟩ : ∃ k,PL = k + 1:=⟨PL - 1,by omega⟩
 show 16 * JY x (k + 1) k + nE (wM x (k + 1 - 1 - k)) = _;rw [Jg x (k + 1) h h0 k (by omega),show k + 1 - 1 - k = 0 by omega,show k + 1 - k = 1 by omega];unfold nE wM;rw [if_pos rfl];show 16 * ((x / 16 + x / 8 % 2 : Nat) : Int) + (((x * 2 % 32 + 1) / 2 : Nat) - (if 16 ≤ x * 2 % 32 then 16 else 0 : Int)) = (x : Int);split <;> omega
open Classical
section
variable {R : Type} {K : CR R} {inv : R → R} {b : R}
def Rp (E : EC K inv b) (p : Jc R) (P : {p : Pt R // On K b p}) : Prop:=fZ K inv p = P.1
theorem Rp.on {E : EC K inv b} {p : Jc R} {P : {p : Pt R // On K b p}} (h : Rp E p P) : On K b (fZ K inv p):=by
 rw [show fZ K inv p = P.1 from h]; exact P.2
theorem Rp.plus {E : EC K inv b} {p q : Jc R} {P Q : {p : Pt R // On K b p}} (h : Rp E p P) (g : Rp E q Q) : Rp E (fP K p q) (E.grp.add P Q):=by
 show fZ K inv (fP K p q) = rX K inv P.1 Q.1;rw [JW E h.on g.on,show fZ K inv p = P.1 from h,show fZ K inv q = Q.1 from g]
theorem Rp.rplus {E : EC K inv b} {p q : Jc R} {P Q : {p : Pt R // On K b p}} (h : Rp E p P) (g : Rp E q Q) : Rp E (rplus K p q) (E.grp.add P Q):=by
 show fZ K inv (Ex.rplus K p q) = rX K inv P.1 Q.1;rw [Ap E h.on g.on,show fZ K inv p = P.1 from h,show fZ K inv q = Q.1 from g]
theorem Rp.dbl {E : EC K inv b} {p : Jc R} {P : {p : Pt R // On K b p}} (h : Rp E p P) : Rp E (dI K p) (E.grp.add P P):=by
 show fZ K inv (dI K p) = rX K inv P.1 P.1;rw [US E h.on,show fZ K inv p = P.1 from h]
theorem Rp.neg {E : EC K inv b} {p : Jc R} {P : {p : Pt R // On K b p}} (h : Rp E p P) : Rp E (CG K p) (E.grp.neg P):=by
 show fZ K inv (CG K p) = Va K P.1;rw [Sk,show fZ K inv p = P.1 from h]
theorem Rp.zero {E : EC K inv b} {p : Jc R} (h : p.2.2 = K.zero) : Rp E p E.grp.zero:=cU h
theorem EC.inv_one (E : EC K inv b) : inv K.one = K.one:=by
 have:=E.F.inv K.one E.F.ne
 rwa [K.one_mul] at this
theorem EC.jto_one (E : EC K inv b) (x y : R) : fZ K inv (x,y,K.one) = some (x,y):=by
 rw [dS (p:=(x,y,K.one)) E.F.ne];refine congrArg some (Prod.ext ?_ ?_)
 ·show K.mul x (K.mul (inv K.one) (inv K.one)) = x;rw [E.inv_one,K.one_mul,K.mul_one]
 ·show K.mul y (K.mul (K.mul (inv K.one) (inv K.one)) (inv K.one)) = y;rw [E.inv_one,K.one_mul,K.one_mul,K.mul_one]
end
namespace AG
variable {G : Type} (A : AG G)
end AG
open Go.RowKit
open Classical
theorem JN (c : Nat) (hc : c < FP.M) (h0 : c ≠ 0) (hv : c ^ qO % FP.M ≠ 1) (n : Fq) : F1.mul n (F1.mul n n) ≠ fm c:=fun h => by
 have hv' : n.1 ^ 3 % FP.M = c:=by
  have:=congrArg Fin.val h;have e : n.1 * (n.1 * n.1 % FP.M) % FP.M = c % FP.M:=this;rw [Nat.mul_mod_mod,← Nat.mul_assoc,show n.1 * n.1 * n.1 = n.1 ^ 3 by rw [Nat.pow_succ,Nat.pow_two]] at e;rw [e]; exact Nat.mod_eq_of_lt hc
 have h1 : 0 < n.1:=by
  rcases Nat.eq_zero_or_pos n.1 with h1 | h1
  ·rw [h1] at hv';exact (h0 hv'.symm).elim
  ·exact h1
 have:=aDu h1 n.2;rw [← Cs,Nat.pow_mul,Nat.pow_mod,hv'] at this;exact hv this
theorem aDG : 3 ^ qO % FP.M ≠ 1:=by
 rw [← yO FP.M 256 3 qO (by decide)];exact of_decide_eq_true (by kernel_rfl)
def nb2 : Nat:=21087453498479301738505683583845423561061080261299122796980902361914303298513
theorem aDF : nb2 ^ qO % FP.M ≠ 1:=by
 rw [← yO FP.M 256 nb2 qO (by decide)];exact of_decide_eq_true (by kernel_rfl)
theorem aDd : pS oD = fm nb2:=by decide
section
variable {R : Type} (K : CR R)
theorem VM {x b : R} (h : K.add (K.mul x (K.mul x x)) b = K.zero) : K.mul (K.neg x) (K.mul (K.neg x) (K.neg x)) = b:=by
 have e : K.mul (K.neg x) (K.mul (K.neg x) (K.neg x)) = K.add (K.neg (K.add (K.mul x (K.mul x x)) b)) b:=aL K (cD K [x,b]) (.mul (.neg (.v 0)) (.mul (.neg (.v 0)) (.neg (.v 0)))) (.add (.neg (.add (.mul (.v 0) (.mul (.v 0) (.v 0))) (.v 1))) (.v 1)) (by decide);rw [e,h];have z : K.neg K.zero = K.zero:=by have:=K.neg_add K.zero; rwa [K.add_zero] at this
 rw [z,K.zero_add]
end
theorem ec1 : EC F1 iO (fm 3) where
 F:=⟨Ni,fun x h => wA h⟩
 two:=fun h => absurd (congrArg Fin.val h) (by decide)
 odd:=fun x h => JN 3 (by decide) (by decide) aDG _ (VM F1 h)
theorem cM : EC F2 iW oD where
 F:=⟨aDt.1,fun x h => SC fun e => h (oV e)⟩
 two:=fun h => absurd (congrArg (fun x : Q2 => x.1.1) h) (by decide)
 odd:=fun x h => by
  have h1:=congrArg pS (VM F2 h);rw [UH,UH,aDd] at h1;exact JN nb2 (by decide) (by decide) aDF _ h1
theorem Wq (x : Nat) : wv x % 18446744073709551616 = fw x 0:=by
 obtain ⟨h0,h1,h2,h3⟩:=bJ x;unfold wv aA;omega
theorem CU (x p : Nat) : kM x p = nE (wM (wv x) p):=by
 have e : hO x p = wM (wv x) p:=by
  unfold hO wM
  by_cases h : p = 0
  ·rw [if_pos h,if_pos h];unfold SN;have:=Wq x;omega
  ·rw [if_neg h,if_neg h];generalize wv x / 2 ^ (p * 4 - 1) = y;show y / 18446744073709551616 ^ 0 % 18446744073709551616 % 32 = y % 32;rw [Nat.pow_zero,Nat.div_one];omega
 unfold kM nE;rw [e]
abbrev C1:={p : Pt Fq // On F1 (fm 3) p}
def af1 (p : DY) : Pt Fq:=bif p.2.2 then none else some (m1 p.1,m1 p.2.1)
theorem aBj {p : DY} (h : (aBg p).1 = 0) : fZ F1 iO (aBg p).2 = af1 p ∧ On F1 (fm 3) (af1 p):=by
 obtain ⟨x,y,b⟩:=p;have e:=CY x y b;show fZ F1 iO (lY x y b).2 = _ ∧ _;have h' : (lY x y b).1 = 0:=h;cases b with
 | true =>
  rw [if_pos rfl] at e;refine ⟨?_,trivial⟩;have : (lY x y true).2.2.2 = F1.zero:=by
   rw [e];split <;> rfl
  exact cU this
 | false =>
  rw [if_neg (by simp)] at e
  by_cases hb : ¬ (tN x ∧ tN y)
  ·rw [if_pos hb] at e;rw [e] at h'; cases h'
  ·rw [if_neg hb] at e
   by_cases hy : F1.mul (m1 y) (m1 y) = F1.add (F1.mul (F1.mul (m1 x) (m1 x)) (m1 x)) (fm 3)
   ·rw [if_pos hy] at e;rw [e];refine ⟨ec1.jto_one _ _,?_⟩;show F1.mul (m1 y) (m1 y) = F1.add (F1.mul (m1 x) (F1.mul (m1 x) (m1 x))) (fm 3);rw [hy,F1.mul_comm (m1 x) (F1.mul (m1 x) (m1 x))]
   ·rw [if_neg hy] at e;rw [e] at h'; cases h'
def cp1 (p : DY) : C1:=if h : (aBg p).1 = 0 then ⟨af1 p,(aBj h).2⟩ else ec1.grp.zero
abbrev C2:={p : Pt Q2 // On F2 oD p}
theorem CE {p : J2} {g : C2} (h : Rp cM p g) : ∀ k,Rp cM (yA p k) (cM.grp.ns k g)
 | 0 => Rp.zero rfl
 | k + 1 => (CE h k).plus h
theorem Cn {p : J2} {g : C2} (h : Rp cM p g) : ∀ d : Int,Rp cM (WZ p d) (cM.grp.zs d g)
 | .ofNat 0 => Rp.zero rfl
 | .ofNat (k + 1) => CE h (k + 1)
 | .negSucc k => (CE h (k + 1)).neg
theorem VN {pt : Nat → J2} {g : Nat → C2} {N : Nat} (h : ∀ j,j < N → Rp cM (pt j) (g j)) (x : Nat → Nat) (p : Nat) : ∀ n,n ≤ N → Rp cM (zS pt x p n) (cM.grp.sm g (fun j => nE (wM (wv (x j)) p)) n)
 | 0,_ => Rp.zero rfl
 | n + 1,hn => by
  have h2:=Cn (h n (by omega)) (kM (x n) p);rw [CU] at h2;have h1:=VN h x p n (by omega);have:=h1.plus h2;rw [← CU] at this;show Rp cM _ (cM.grp.add _ (cM.grp.zs (nE (wM (wv (x n)) p)) (g n)));rw [← CU];exact this
theorem SZ {D : Nat → J2} {g : Nat → C2} {N PL : Nat} {x : Nat → Nat} (h : ∀ p,Rp cM (D p) (cM.grp.sm g (fun j => nE (wM (wv (x j)) p)) N)) : ∀ k,Rp cM (Aa D PL k) (cM.grp.sm g (fun j => JY (wv (x j)) PL k) N)
 | 0 => by
  show Rp cM _ (cM.grp.sm g (fun _ => 0) N);rw [cM.grp.sm_zero];exact Rp.zero rfl
 | k + 1 => by
  have h1:=(SZ (PL:=PL) h k).dbl.dbl.dbl.dbl.plus (h (PL - 1 - k));rw [cM.grp.sm_two,cM.grp.sm_two,cM.grp.sm_two,cM.grp.sm_two,← cM.grp.sm_add] at h1;rw [cM.grp.sm_congr (d:=fun j => JY (wv (x j)) PL (k + 1)) (fun j _ => by show _ = 16 * JY (wv (x j)) PL k + _; omega)] at h1;exact h1
theorem XC {pt : Nat → J2} {g : Nat → C2} {N : Nat} (h : ∀ j,j < N → Rp cM (pt j) (g j)) (x : Nat → Nat) : Rp cM (uC pt x N) (cM.grp.sm g (fun j => (wv (x j) : Int)) N):=by
 have h1:=SZ (PL:=mU x N / 4 + 1) (fun p => VN h x p N (Nat.le_refl _)) (mU x N / 4 + 1);rw [cM.grp.sm_congr (d:=fun j => (wv (x j) : Int)) (fun j hj => So _ _ (Nat.lt_of_lt_of_le (oX (x j)).1 (Nat.pow_le_pow_right (by omega) (by have:=Ia x N j hj; omega))) (by omega))] at h1;exact h1
theorem GS {a : J2} {g : C2} (h : Rp cM a g) (n : Nat) : ∀ k,k ≤ bO n → Rp cM (gH a n (bO n) k) (cM.grp.ns (wv n / 2 ^ (bO n - k)) g)
 | 0,_ => by
  rw [Nat.sub_zero,Nat.div_eq_of_lt (oX n).1];exact Rp.zero rfl
 | k + 1,hk => by
  have ih:=GS h n k (by omega);have e : wv n / 2 ^ (bO n - k) = wv n / 2 ^ (bO n - (k + 1)) / 2:=by
   rw [show bO n - k = (bO n - (k + 1)) + 1 by omega,Nat.pow_add,← Nat.div_div_eq_div_mul]
  have e2 : dF (wv n) (bO n - 1 - k) = wv n / 2 ^ (bO n - (k + 1)) % 2:=by
   unfold dF;rw [show bO n - 1 - k = bO n - (k + 1) by omega]
  rw [e] at ih;generalize wv n / 2 ^ (bO n - (k + 1)) = y at ih e2 ⊢;have h2:=ih.dbl;rw [← cM.grp.ns_add] at h2
  by_cases hb : dF (wv n) (bO n - 1 - k) = 1
  ·rw [show gH a n (bO n) (k + 1) = rplus F2 (dI F2 (gH a n (bO n) k)) a from if_pos hb];have h3:=h2.rplus h;rw [show y = y / 2 + y / 2 + 1 by omega];exact h3
  ·rw [show gH a n (bO n) (k + 1) = dI F2 (gH a n (bO n) k) from if_neg hb];have hb0:=iS (wv n) (bO n - 1 - k);rw [show y = y / 2 + y / 2 by omega];exact h2
def af2 (p : dC) : Pt Q2:=bif p.2.2 then none else some (m2 p.1,m2 p.2.1)
theorem Ln {p : dC} (h : (eT p).1 = 0) : fZ F2 iW (eT p).2 = af2 p ∧ On F2 oD (af2 p):=by
 obtain ⟨x,y,b⟩:=p;have e:=rK x y b;show fZ F2 iW (fQ x y b).2 = _ ∧ _;have h' : (fQ x y b).1 = 0:=h;cases b with
 | true =>
  rw [if_pos rfl] at e;refine ⟨?_,trivial⟩;have : (fQ x y true).2.2.2 = F2.zero:=by
   rw [e];split <;> rfl
  exact cU this
 | false =>
  rw [if_neg (by simp)] at e
  by_cases hb : ¬ (jI x ∧ jI y)
  ·rw [if_pos hb] at e;rw [e] at h'; cases h'
  ·rw [if_neg hb] at e
   by_cases hy : F2.mul (m2 y) (m2 y) = F2.add (F2.mul (F2.mul (m2 x) (m2 x)) (m2 x)) oD
   ·rw [if_pos hy] at e;rw [e];refine ⟨cM.jto_one _ _,?_⟩;show F2.mul (m2 y) (m2 y) = F2.add (F2.mul (m2 x) (F2.mul (m2 x) (m2 x))) oD;rw [hy,F2.mul_comm (m2 x) (F2.mul (m2 x) (m2 x))]
   ·rw [if_neg hy] at e;rw [e] at h'; cases h'
theorem Wp (p : dC) : fZ F2 iW (Ns p) = af2 p:=by
 obtain ⟨x,y,b⟩:=p;cases b with
 | true => exact cU rfl
 | false => exact cM.jto_one _ _
def LL (p : dC) : C2:=if h : (eT p).1 = 0 then ⟨af2 p,(Ln h).2⟩ else cM.grp.zero
theorem QN {p : dC} (h : (eT p).1 = 0) : (LL p).1 = af2 p:=by unfold LL; rw [dif_pos h]
theorem Tp {p : dC} (h : (eT p).1 = 0) : Rp cM (eT p).2 (LL p):=(Ln h).1.trans (QN h).symm
theorem aAY {p : dC} (h : (eT p).1 = 0) : Rp cM (Ns p) (LL p):=(Wp p).trans (QN h).symm
theorem Qa (p : dC) (n : Nat) : gI (fun _ => p) (fun _ => n) 1 = if (eT p).1 ≠ 0 then ((some (F2.zero,F2.zero)),(eT p).1) else ((cM.grp.ns (wv n) (LL p)).1,0):=by
 have e1 : iP (fun _ => p) 1 = (eT p).1:=if_neg (fun h => h rfl);unfold gI;rw [e1]
 by_cases h1 : (eT p).1 = 0
 ·simp only [h1,ne_eq,not_true_eq_false,not_false_eq_true,if_true,if_false];have hr:=XC (pt:=yP (fun _ => p)) (g:=fun _ => LL p) (N:=1) (fun j hj => Tp h1) (fun _ => n);have hr' : fZ F2 iW (uC (yP (fun _ => p)) (fun _ => n) 1) = (cM.grp.add cM.grp.zero (cM.grp.ns (wv n) (LL p))).1:=hr;rw [cM.grp.zadd] at hr';rw [hr']
 ·simp only [h1,ne_eq,not_true_eq_false,not_false_eq_true,if_true,if_false]
end Go.Proofs.YtfnkbmlmgnadmaaGreat.Ex
namespace Go.Proofs.YtfnkbmlmgnadmaaGreat.R1
open Go.Proofs.Tryz
open Go.RowKit
theorem rcmp_l3 (a0 a1 a2 a3 b0 b1 b2 b3 : Nat) (ha : aY a0 a1 a2 a3) (hb : aY b0 b1 b2 b3) (e3 : a3 < b3) (w : World) :
  Calls prog 78 #[.agg #[.int .u64 a0,.int .u64 a1,.int .u64 a2,.int .u64 a3],.agg #[.int .u64 b0,.int .u64 b1,.int .u64 b2,.int .u64 b3]] w fun e w' => e = .returned (.int .i64 (bE (aA a0 a1 a2 a3) (aA b0 b1 b2 b3))) ∧ Below w.heap.size w w':=by
 have hfin : bE (aA a0 a1 a2 a3) (aA b0 b1 b2 b3) = -1:=by
  obtain ⟨p0,p1,p2,p3⟩:=ha; obtain ⟨q0,q1,q2,q3⟩:=hb; unfold bE aA;rw [if_neg (by omega),if_pos (by omega)]
 rw [hfin];clear hfin;have l3 : decide (a3 < b3) = true:=decide_eq_true (by omega);clear e3
 go_enter func78,ntmps78
 go_wp2_with fail;refine wp_loop_rounds 5 ?_;rw [rounds_succ];go_wp2_with fail
 go_quiet (fail)
 go_wp2_with fail;go_ret;exact ⟨rfl,by repeat (first | exact Below.refl _ _ | refine Below.trans ?_ (aH _ _ _) | refine Below.drew ?_ | refine Below.alloc ?_ (by first | (simp; done) | (simp; omega)) _)⟩
theorem rcmp_g3 (a0 a1 a2 a3 b0 b1 b2 b3 : Nat) (ha : aY a0 a1 a2 a3) (hb : aY b0 b1 b2 b3) (e3 : b3 < a3) (w : World) :
  Calls prog 78 #[.agg #[.int .u64 a0,.int .u64 a1,.int .u64 a2,.int .u64 a3],.agg #[.int .u64 b0,.int .u64 b1,.int .u64 b2,.int .u64 b3]] w fun e w' => e = .returned (.int .i64 (bE (aA a0 a1 a2 a3) (aA b0 b1 b2 b3))) ∧ Below w.heap.size w w':=by
 have hfin : bE (aA a0 a1 a2 a3) (aA b0 b1 b2 b3) = 1:=by
  obtain ⟨p0,p1,p2,p3⟩:=ha; obtain ⟨q0,q1,q2,q3⟩:=hb; unfold bE aA;rw [if_neg (by omega),if_neg (by omega)]
 rw [hfin];clear hfin;have l3 : decide (a3 < b3) = false:=decide_eq_false (by omega);have g3 : decide (b3 < a3) = true:=decide_eq_true (by omega);clear e3
 go_enter func78,ntmps78
 go_wp2_with fail;refine wp_loop_rounds 5 ?_;rw [rounds_succ];go_wp2_with fail
 go_quiet (fail)
 go_wp2_with fail
 go_quiet (fail)
 go_wp2_with fail;go_ret;exact ⟨rfl,by repeat (first | exact Below.refl _ _ | refine Below.trans ?_ (aH _ _ _) | refine Below.drew ?_ | refine Below.alloc ?_ (by first | (simp; done) | (simp; omega)) _)⟩
theorem rcmp_l2 (a0 a1 a2 a3 b0 b1 b2 b3 : Nat) (ha : aY a0 a1 a2 a3) (hb : aY b0 b1 b2 b3) (e3 : a3 = b3) (e2 : a2 < b2) (w : World) :
  Calls prog 78 #[.agg #[.int .u64 a0,.int .u64 a1,.int .u64 a2,.int .u64 a3],.agg #[.int .u64 b0,.int .u64 b1,.int .u64 b2,.int .u64 b3]] w fun e w' => e = .returned (.int .i64 (bE (aA a0 a1 a2 a3) (aA b0 b1 b2 b3))) ∧ Below w.heap.size w w':=by
 have hfin : bE (aA a0 a1 a2 a3) (aA b0 b1 b2 b3) = -1:=by
  obtain ⟨p0,p1,p2,p3⟩:=ha; obtain ⟨q0,q1,q2,q3⟩:=hb; unfold bE aA;rw [if_neg (by omega),if_pos (by omega)]
 rw [hfin];clear hfin;have l3 : decide (a3 < b3) = false:=decide_eq_false (by omega);have g3 : decide (b3 < a3) = false:=decide_eq_false (by omega);clear e3;have l2 : decide (a2 < b2) = true:=decide_eq_true (by omega);clear e2
 go_enter func78,ntmps78
 go_wp2_with fail;refine wp_loop_rounds 5 ?_;rw [rounds_succ];go_wp2_with fail
 go_quiet (fail)
 go_wp2_with fail
 go_quiet (fail)
 go_wp2_with fail;rw [rounds_succ];go_wp2_with fail
 go_quiet (fail)
 go_wp2_with fail;go_ret;exact ⟨rfl,by repeat (first | exact Below.refl _ _ | refine Below.trans ?_ (aH _ _ _) | refine Below.drew ?_ | refine Below.alloc ?_ (by first | (simp; done) | (simp; omega)) _)⟩
theorem rcmp_g2 (a0 a1 a2 a3 b0 b1 b2 b3 : Nat) (ha : aY a0 a1 a2 a3) (hb : aY b0 b1 b2 b3) (e3 : a3 = b3) (e2 : b2 < a2) (w : World) :
  Calls prog 78 #[.agg #[.int .u64 a0,.int .u64 a1,.int .u64 a2,.int .u64 a3],.agg #[.int .u64 b0,.int .u64 b1,.int .u64 b2,.int .u64 b3]] w fun e w' => e = .returned (.int .i64 (bE (aA a0 a1 a2 a3) (aA b0 b1 b2 b3))) ∧ Below w.heap.size w w':=by
 have hfin : bE (aA a0 a1 a2 a3) (aA b0 b1 b2 b3) = 1:=by
  obtain ⟨p0,p1,p2,p3⟩:=ha; obtain ⟨q0,q1,q2,q3⟩:=hb; unfold bE aA;rw [if_neg (by omega),if_neg (by omega)]
 rw [hfin];clear hfin;have l3 : decide (a3 < b3) = false:=decide_eq_false (by omega);have g3 : decide (b3 < a3) = false:=decide_eq_false (by omega);clear e3;have l2 : decide (a2 < b2) = false:=decide_eq_false (by omega);have g2 : decide (b2 < a2) = true:=decide_eq_true (by omega);clear e2
 go_enter func78,ntmps78
 go_wp2_with fail;refine wp_loop_rounds 5 ?_;rw [rounds_succ];go_wp2_with fail
 go_quiet (fail)
 go_wp2_with fail
 go_quiet (fail)
 go_wp2_with fail;rw [rounds_succ];go_wp2_with fail
 go_quiet (fail)
 go_wp2_with fail
 go_quiet (fail)
 go_wp2_with fail;go_ret;exact ⟨rfl,by repeat (first | exact Below.refl _ _ | refine Below.trans ?_ (aH _ _ _) | refine Below.drew ?_ | refine Below.alloc ?_ (by first | (simp; done) | (simp; omega)) _)⟩
theorem rcmp_l1 (a0 a1 a2 a3 b0 b1 b2 b3 : Nat) (ha : aY a0 a1 a2 a3) (hb : aY b0 b1 b2 b3) (e3 : a3 = b3) (e2 : a2 = b2) (e1 : a1 < b1) (w : World) :
  Calls prog 78 #[.agg #[.int .u64 a0,.int .u64 a1,.int .u64 a2,.int .u64 a3],.agg #[.int .u64 b0,.int .u64 b1,.int .u64 b2,.int .u64 b3]] w fun e w' => e = .returned (.int .i64 (bE (aA a0 a1 a2 a3) (aA b0 b1 b2 b3))) ∧ Below w.heap.size w w':=by
 have hfin : bE (aA a0 a1 a2 a3) (aA b0 b1 b2 b3) = -1:=by
  obtain ⟨p0,p1,p2,p3⟩:=ha; obtain ⟨q0,q1,q2,q3⟩:=hb; unfold bE aA;rw [if_neg (by omega),if_pos (by omega)]
 rw [hfin];clear hfin;have l3 : decide (a3 < b3) = false:=decide_eq_false (by omega);have g3 : decide (b3 < a3) = false:=decide_eq_false (by omega);clear e3;have l2 : decide (a2 < b2) = false:=decide_eq_false (by omega);have g2 : decide (b2 < a2) = false:=decide_eq_false (by omega);clear e2;have l1 : decide (a1 < b1) = true:=decide_eq_true (by omega);clear e1
 go_enter func78,ntmps78
 go_wp2_with fail;refine wp_loop_rounds 5 ?_;rw [rounds_succ];go_wp2_with fail
 go_quiet (fail)
 go_wp2_with fail
 go_quiet (fail)
 go_wp2_with fail;rw [rounds_succ];go_wp2_with fail
 go_quiet (fail)
 go_wp2_with fail
 go_quiet (fail)
 go_wp2_with fail;rw [rounds_succ];go_wp2_with fail
 go_quiet (fail)
 go_wp2_with fail;go_ret;exact ⟨rfl,by repeat (first | exact Below.refl _ _ | refine Below.trans ?_ (aH _ _ _) | refine Below.drew ?_ | refine Below.alloc ?_ (by first | (simp; done) | (simp; omega)) _)⟩
theorem rcmp_g1 (a0 a1 a2 a3 b0 b1 b2 b3 : Nat) (ha : aY a0 a1 a2 a3) (hb : aY b0 b1 b2 b3) (e3 : a3 = b3) (e2 : a2 = b2) (e1 : b1 < a1) (w : World) :
  Calls prog 78 #[.agg #[.int .u64 a0,.int .u64 a1,.int .u64 a2,.int .u64 a3],.agg #[.int .u64 b0,.int .u64 b1,.int .u64 b2,.int .u64 b3]] w fun e w' => e = .returned (.int .i64 (bE (aA a0 a1 a2 a3) (aA b0 b1 b2 b3))) ∧ Below w.heap.size w w':=by
 have hfin : bE (aA a0 a1 a2 a3) (aA b0 b1 b2 b3) = 1:=by
  obtain ⟨p0,p1,p2,p3⟩:=ha; obtain ⟨q0,q1,q2,q3⟩:=hb; unfold bE aA;rw [if_neg (by omega),if_neg (by omega)]
 rw [hfin];clear hfin;have l3 : decide (a3 < b3) = false:=decide_eq_false (by omega);have g3 : decide (b3 < a3) = false:=decide_eq_false (by omega);clear e3;have l2 : decide (a2 < b2) = false:=decide_eq_false (by omega);have g2 : decide (b2 < a2) = false:=decide_eq_false (by omega);clear e2;have l1 : decide (a1 < b1) = false:=decide_eq_false (by omega);have g1 : decide (b1 < a1) = true:=decide_eq_true (by omega);clear e1
 go_enter func78,ntmps78
 go_wp2_with fail;refine wp_loop_rounds 5 ?_;rw [rounds_succ];go_wp2_with fail
 go_quiet (fail)
 go_wp2_with fail
 go_quiet (fail)
 go_wp2_with fail;rw [rounds_succ];go_wp2_with fail
 go_quiet (fail)
 go_wp2_with fail
 go_quiet (fail)
 go_wp2_with fail;rw [rounds_succ];go_wp2_with fail
 go_quiet (fail)
 go_wp2_with fail
 go_quiet (fail)
 go_wp2_with fail;go_ret;exact ⟨rfl,by repeat (first | exact Below.refl _ _ | refine Below.trans ?_ (aH _ _ _) | refine Below.drew ?_ | refine Below.alloc ?_ (by first | (simp; done) | (simp; omega)) _)⟩
theorem rcmp_l0 (a0 a1 a2 a3 b0 b1 b2 b3 : Nat) (ha : aY a0 a1 a2 a3) (hb : aY b0 b1 b2 b3) (e3 : a3 = b3) (e2 : a2 = b2) (e1 : a1 = b1) (e0 : a0 < b0) (w : World) :
  Calls prog 78 #[.agg #[.int .u64 a0,.int .u64 a1,.int .u64 a2,.int .u64 a3],.agg #[.int .u64 b0,.int .u64 b1,.int .u64 b2,.int .u64 b3]] w fun e w' => e = .returned (.int .i64 (bE (aA a0 a1 a2 a3) (aA b0 b1 b2 b3))) ∧ Below w.heap.size w w':=by
 have hfin : bE (aA a0 a1 a2 a3) (aA b0 b1 b2 b3) = -1:=by
  obtain ⟨p0,p1,p2,p3⟩:=ha; obtain ⟨q0,q1,q2,q3⟩:=hb; unfold bE aA;rw [if_neg (by omega),if_pos (by omega)]
 rw [hfin];clear hfin;have l3 : decide (a3 < b3) = false:=decide_eq_false (by omega);have g3 : decide (b3 < a3) = false:=decide_eq_false (by omega);clear e3;have l2 : decide (a2 < b2) = false:=decide_eq_false (by omega);have g2 : decide (b2 < a2) = false:=decide_eq_false (by omega);clear e2;have l1 : decide (a1 < b1) = false:=decide_eq_false (by omega);have g1 : decide (b1 < a1) = false:=decide_eq_false (by omega);clear e1;have l0 : decide (a0 < b0) = true:=decide_eq_true (by omega);clear e0
 go_enter func78,ntmps78
 go_wp2_with fail;refine wp_loop_rounds 5 ?_;rw [rounds_succ];go_wp2_with fail
 go_quiet (fail)
 go_wp2_with fail
 go_quiet (fail)
 go_wp2_with fail;rw [rounds_succ];go_wp2_with fail
 go_quiet (fail)
 go_wp2_with fail
 go_quiet (fail)
 go_wp2_with fail;rw [rounds_succ];go_wp2_with fail
 go_quiet (fail)
 go_wp2_with fail
 go_quiet (fail)
 go_wp2_with fail;rw [rounds_succ];go_wp2_with fail
 go_quiet (fail)
 go_wp2_with fail;go_ret;exact ⟨rfl,by repeat (first | exact Below.refl _ _ | refine Below.trans ?_ (aH _ _ _) | refine Below.drew ?_ | refine Below.alloc ?_ (by first | (simp; done) | (simp; omega)) _)⟩
theorem rcmp_g0 (a0 a1 a2 a3 b0 b1 b2 b3 : Nat) (ha : aY a0 a1 a2 a3) (hb : aY b0 b1 b2 b3) (e3 : a3 = b3) (e2 : a2 = b2) (e1 : a1 = b1) (e0 : b0 < a0) (w : World) :
  Calls prog 78 #[.agg #[.int .u64 a0,.int .u64 a1,.int .u64 a2,.int .u64 a3],.agg #[.int .u64 b0,.int .u64 b1,.int .u64 b2,.int .u64 b3]] w fun e w' => e = .returned (.int .i64 (bE (aA a0 a1 a2 a3) (aA b0 b1 b2 b3))) ∧ Below w.heap.size w w':=by
 have hfin : bE (aA a0 a1 a2 a3) (aA b0 b1 b2 b3) = 1:=by
  obtain ⟨p0,p1,p2,p3⟩:=ha; obtain ⟨q0,q1,q2,q3⟩:=hb; unfold bE aA;rw [if_neg (by omega),if_neg (by omega)]
 rw [hfin];clear hfin;have l3 : decide (a3 < b3) = false:=decide_eq_false (by omega);have g3 : decide (b3 < a3) = false:=decide_eq_false (by omega);clear e3;have l2 : decide (a2 < b2) = false:=decide_eq_false (by omega);have g2 : decide (b2 < a2) = false:=decide_eq_false (by omega);clear e2;have l1 : decide (a1 < b1) = false:=decide_eq_false (by omega);have g1 : decide (b1 < a1) = false:=decide_eq_false (by omega);clear e1;have l0 : decide (a0 < b0) = false:=decide_eq_false (by omega);have g0 : decide (b0 < a0) = true:=decide_eq_true (by omega);clear e0
 go_enter func78,ntmps78
 go_wp2_with fail;refine wp_loop_rounds 5 ?_;rw [rounds_succ];go_wp2_with fail
 go_quiet (fail)
 go_wp2_with fail
 go_quiet (fail)
 go_wp2_with fail;rw [rounds_succ];go_wp2_with fail
 go_quiet (fail)
 go_wp2_with fail
 go_quiet (fail)
 go_wp2_with fail;rw [rounds_succ];go_wp2_with fail
 go_quiet (fail)
 go_wp2_with fail
 go_quiet (fail)
 go_wp2_with fail;rw [rounds_succ];go_wp2_with fail
 go_quiet (fail)
 go_wp2_with fail
 go_quiet (fail)
 go_wp2_with fail;go_ret;exact ⟨rfl,by repeat (first | exact Below.refl _ _ | refine Below.trans ?_ (aH _ _ _) | refine Below.drew ?_ | refine Below.alloc ?_ (by first | (simp; done) | (simp; omega)) _)⟩
theorem rcmp_e (a0 a1 a2 a3 b0 b1 b2 b3 : Nat) (ha : aY a0 a1 a2 a3) (hb : aY b0 b1 b2 b3) (e3 : a3 = b3) (e2 : a2 = b2) (e1 : a1 = b1) (e0 : a0 = b0) (w : World) :
  Calls prog 78 #[.agg #[.int .u64 a0,.int .u64 a1,.int .u64 a2,.int .u64 a3],.agg #[.int .u64 b0,.int .u64 b1,.int .u64 b2,.int .u64 b3]] w fun e w' => e = .returned (.int .i64 (bE (aA a0 a1 a2 a3) (aA b0 b1 b2 b3))) ∧ Below w.heap.size w w':=by
 have hfin : bE (aA a0 a1 a2 a3) (aA b0 b1 b2 b3) = 0:=by
  obtain ⟨p0,p1,p2,p3⟩:=ha; obtain ⟨q0,q1,q2,q3⟩:=hb; unfold bE aA;rw [if_pos (by omega)]
 rw [hfin];clear hfin;have l3 : decide (a3 < b3) = false:=decide_eq_false (by omega);have g3 : decide (b3 < a3) = false:=decide_eq_false (by omega);clear e3;have l2 : decide (a2 < b2) = false:=decide_eq_false (by omega);have g2 : decide (b2 < a2) = false:=decide_eq_false (by omega);clear e2;have l1 : decide (a1 < b1) = false:=decide_eq_false (by omega);have g1 : decide (b1 < a1) = false:=decide_eq_false (by omega);clear e1;have l0 : decide (a0 < b0) = false:=decide_eq_false (by omega);have g0 : decide (b0 < a0) = false:=decide_eq_false (by omega);clear e0
 go_enter func78,ntmps78
 go_wp2_with fail;refine wp_loop_rounds 5 ?_;rw [rounds_succ];go_wp2_with fail
 go_quiet (fail)
 go_wp2_with fail
 go_quiet (fail)
 go_wp2_with fail;rw [rounds_succ];go_wp2_with fail
 go_quiet (fail)
 go_wp2_with fail
 go_quiet (fail)
 go_wp2_with fail;rw [rounds_succ];go_wp2_with fail
 go_quiet (fail)
 go_wp2_with fail
 go_quiet (fail)
 go_wp2_with fail;rw [rounds_succ];go_wp2_with fail
 go_quiet (fail)
 go_wp2_with fail
 go_quiet (fail)
 go_wp2_with fail;rw [rounds_succ];go_wp2_with fail;go_ret;exact ⟨rfl,by repeat (first | exact Below.refl _ _ | refine Below.trans ?_ (aH _ _ _) | refine Below.drew ?_ | refine Below.alloc ?_ (by first | (simp; done) | (simp; omega)) _)⟩
theorem refCmp_calls (a0 a1 a2 a3 b0 b1 b2 b3 : Nat) (ha : aY a0 a1 a2 a3) (hb : aY b0 b1 b2 b3) (w : World) :
  Calls prog 78 #[.agg #[.int .u64 a0,.int .u64 a1,.int .u64 a2,.int .u64 a3],.agg #[.int .u64 b0,.int .u64 b1,.int .u64 b2,.int .u64 b3]] w fun e w' => e = .returned (.int .i64 (bE (aA a0 a1 a2 a3) (aA b0 b1 b2 b3))) ∧ Below w.heap.size w w':=by
 rcases Nat.lt_trichotomy a3 b3 with e3 | e3 | e3
 ·exact rcmp_l3 a0 a1 a2 a3 b0 b1 b2 b3 ha hb e3 w
 ·rcases Nat.lt_trichotomy a2 b2 with e2 | e2 | e2
  ·exact rcmp_l2 a0 a1 a2 a3 b0 b1 b2 b3 ha hb e3 e2 w
  ·rcases Nat.lt_trichotomy a1 b1 with e1 | e1 | e1
   ·exact rcmp_l1 a0 a1 a2 a3 b0 b1 b2 b3 ha hb e3 e2 e1 w
   ·rcases Nat.lt_trichotomy a0 b0 with e0 | e0 | e0
    ·exact rcmp_l0 a0 a1 a2 a3 b0 b1 b2 b3 ha hb e3 e2 e1 e0 w
    ·exact rcmp_e a0 a1 a2 a3 b0 b1 b2 b3 ha hb e3 e2 e1 e0 w
    ·exact rcmp_g0 a0 a1 a2 a3 b0 b1 b2 b3 ha hb e3 e2 e1 e0 w
   ·exact rcmp_g1 a0 a1 a2 a3 b0 b1 b2 b3 ha hb e3 e2 e1 w
  ·exact rcmp_g2 a0 a1 a2 a3 b0 b1 b2 b3 ha hb e3 e2 w
 ·exact rcmp_g3 a0 a1 a2 a3 b0 b1 b2 b3 ha hb e3 w
end Go.Proofs.YtfnkbmlmgnadmaaGreat.R1
namespace Go.Proofs.YtfnkbmlmgnadmaaGreat.Ex
open Go.Proofs.Tryz
open Go.RowKit
def gCk (k : Bool) : gC:=g1 Yc fun p => bif k then ([(lY p.1 p.2.1 p.2.2).1 = 0],.one (.im (.int .i64 0))) else ([],.one (.im (.int .i64 (lY p.1 p.2.1 p.2.2).1)))
theorem Kb {f : FuncId} (h : ∀ (p : DY) (args : List Value) (w : World),bH w [.v (.fl (JZ p))] args → Good prog f (.one (.im (.int .i64 (lY p.1 p.2.1 p.2.2).1))) args w) (k : Bool) :
  ∀ cs pre r,gCk k cs = some (pre,r) → aQ pre → ∀ (args : List Value) (w : World),bH w cs args → Good prog f r args w :=
 cG uR fun p hp args w ha => by
  cases k
  ·exact h p args w ha
  ·have e : (lY p.1 p.2.1 p.2.2).1 = 0:=hp.1;have:=h p args w ha;rw [e] at this;exact this
theorem Pj (p : DY) : aT prog (qG prog) (fun _ => ⟨fun _ => eV,fun _ => true,fun _ => none⟩) f45 60 [.v (.fl (JZ p))] = some ([],.one (.im (.int .i64 (lY p.1 p.2.1 p.2.2).1))):=by kernel_rfl
theorem Gc (p : DY) (args : List Value) (w : World) (ha : bH w [.v (.fl (JZ p))] args) : Good prog 45 (.one (.im (.int .i64 (lY p.1 p.2.1 p.2.2).1))) args w :=
 aC aF (fun _ _ => dQ) (aG prog) func45 (Pj p) trivial ha
def gLq (c : Bool) : gC
 | [.v (.im (.int .i64 (.ofNat 1))),.v (.fl l)] => match uL l with
  | some n => some ([wv n < FP.M,fY FP.M (wv n) = c],.many [.im (.bool c),.im (.int .i64 0)])
  | none => none
 | _ => none
theorem aAs (c : Bool) : ∀ cs pre r,gLq c cs = some (pre,r) → aQ pre → ∀ (args : List Value) (w : World),bH w cs args → Good prog 80 r args w:=by
 intro cs pre r hg hp args w ha;unfold gLq at hg;split at hg
 ·rename_i l;split at hg
  ·rename_i n hn;cases hg
   match args,ha with
   | [v,u],ha =>
    have h1 : v = .int .i64 1:=ha.1;have h2 : u = .agg (aB l).toArray:=ha.2.1;rw [dG l _ hn] at h2;subst h1; subst h2;have h:=Bd 1 FP gA _ _ _ _ (bJ n) hp.1 w;refine h.mono ?_
    rintro e w' ⟨rfl,hb⟩
    refine ⟨?_,hb⟩;have e2 : fY FP.M (aA (fw n 0) (fw n 1) (fw n 2) (fw n 3)) = c:=hp.2.1;rw [e2];rfl
   | [],ha => exact ha.elim
   | [_],ha => exact ha.2.elim
   | _ :: _ :: _ :: _,ha => exact ha.2.2.elim
  ·cases hg
 ·cases hg
def aBW (c : Bool) : Tab:=eV.add 80 (gLq c)
theorem Vh (c : Bool) : TabOk prog (aBW c):=dQ.ad func80 (aAs c)
theorem Pl (c : Bool) (n : Nat) : aT prog (qG prog) (fun _ => ⟨fun _ => aBW c,fun _ => true,fun _ => none⟩) f46 60 [.v (.fl (q1 n))] = some ([wv n < FP.M,fY FP.M (wv n) = c],.one (.im (.bool c))):=by kernel_rfl
def WJ (c : Bool) : Tab:=(aBW c).add 46 (g1 uL fun n => ([wv n < FP.M,fY FP.M (wv n) = c],.one (.im (.bool c))))
theorem PM (c : Bool) : TabOk prog (WJ c):=(Vh c).ad func46 (cG (op:=fun n => ([wv n < FP.M,fY FP.M (wv n) = c],.one (.im (.bool c)))) dG fun n hp args w ha => aC aF (fun _ _ => Vh c) (aG prog) func46 (Pl c n) hp ha)
def Ka : gC
 | [.v (.fl l),.v (.fl m)] => match uL l,uL m with
  | some a,some b => some ([],.one (.im (.int .i64 (Go.Proofs.YtfnkbmlmgnadmaaGreat.bE (wv a) (wv b)))))
  | _,_ => none
 | _ => none
theorem Jz : ∀ cs pre r,Ka cs = some (pre,r) → aQ pre → ∀ (args : List Value) (w : World),bH w cs args → Good prog 78 r args w:=by
 intro cs pre r hg hp args w ha;unfold Ka at hg;split at hg
 ·rename_i l m;split at hg
  ·rename_i a b h1 h2;cases hg;rw [LE ha,dG l _ h1,dG m _ h2];exact (R1.refCmp_calls _ _ _ _ _ _ _ _ (bJ a) (bJ b) w).mono fun e w' h => h
  ·cases hg
 ·cases hg
theorem Lh (a b : Nat) : aI .leq .i64 (Go.Proofs.YtfnkbmlmgnadmaaGreat.bE a b) 0 = some (.bool (decide (a ≤ b))):=by
 unfold Go.Proofs.YtfnkbmlmgnadmaaGreat.bE
 by_cases h : a = b
 ·rw [if_pos h,decide_eq_true (by omega)]; rfl
 ·rw [if_neg h]
  by_cases h2 : a < b
  ·rw [if_pos h2,decide_eq_true (by omega)]; rfl
  ·rw [if_neg h2,decide_eq_false (by omega)]; rfl
def gSm : gC
 | [.v (.im (.bool i)),.v (.im (.bool l))] => some ([],.one (.im (.int .u8 (bif i then 1 else bif l then 2 else 3))))
 | _ => none
theorem Xx (i l : Bool) : aT prog (qG prog) (fun _ => ⟨fun _ => T0,fun _ => true,fun _ => none⟩) f22 60 [.v (.im (.bool i)),.v (.im (.bool l))] = some ([],.one (.im (.int .u8 (bif i then 1 else bif l then 2 else 3)))):=by cases i <;> cases l <;> kernel_rfl
theorem Jm : ∀ cs pre r,gSm cs = some (pre,r) → aQ pre → ∀ (args : List Value) (w : World),bH w cs args → Good prog 22 r args w:=by
 intro cs pre r hg hp args w ha;unfold gSm at hg;split at hg
 ·rename_i i l;cases hg;exact aC aF (fun _ _ => fS _) (aG prog) func22 (Xx i l) trivial ha
 ·cases hg
def gLm : gC
 | [.v (.im (.bool i))] => some ([],.one (.im (.int .u8 (bif i then 1 else 0))))
 | _ => none
theorem Xz (i : Bool) : aT prog (qG prog) (fun _ => ⟨fun _ => T0,fun _ => true,fun _ => none⟩) f25 60 [.v (.im (.bool i))] = some ([],.one (.im (.int .u8 (bif i then 1 else 0)))):=by cases i <;> kernel_rfl
theorem Js : ∀ cs pre r,gLm cs = some (pre,r) → aQ pre → ∀ (args : List Value) (w : World),bH w cs args → Good prog 25 r args w:=by
 intro cs pre r hg hp args w ha;unfold gLm at hg;split at hg
 ·rename_i i;cases hg;exact aC aF (fun _ _ => fS _) (aG prog) func25 (Xz i) trivial ha
 ·cases hg
def gRm : gC
 | [.v (.im (.bool l))] => some ([],.one (.im (.int .u8 (bif l then 2 else 3))))
 | _ => none
theorem Xy (i : Bool) : aT prog (qG prog) (fun _ => ⟨fun _ => T0,fun _ => true,fun _ => none⟩) f42 60 [.v (.im (.bool i))] = some ([],.one (.im (.int .u8 (bif i then 2 else 3)))):=by cases i <;> kernel_rfl
theorem aAj : ∀ cs pre r,gRm cs = some (pre,r) → aQ pre → ∀ (args : List Value) (w : World),bH w cs args → Good prog 42 r args w:=by
 intro cs pre r hg hp args w ha;unfold gRm at hg;split at hg
 ·rename_i i;cases hg;exact aC aF (fun _ _ => fS _) (aG prog) func42 (Xy i) trivial ha
 ·cases hg
def aBV (k c : Bool) : Tab:=(((WJ c).add 45 (gCk k)).add 22 gSm).add 25 gLm
theorem Vg (k c : Bool) : TabOk prog (aBV k c):=(((PM c).ad func45 (Kb Gc k)).ad func22 Jm).ad func25 Js
theorem kB (w : World) : cL prog (qY prog (x3 L3 W4 (fun _ => none) (fun _ => none))) w.heap.size w:=oE Wi WC w
def sD (T : Tab) : Nat → Cfg:=fun _ => ⟨fun _ => T,fun _ => true,fun _ => none⟩
theorem Ph (n : Nat) : iX prog (qY prog (x3 L3 W4 (fun _ => none) (fun _ => none))) cT0 f50 60 [.v (.fl (q1 n))] = some ([],⟨bl (wv n),32,5,1,true,[],[]⟩):=by kernel_rfl
theorem St : ∀ cs pre r,Aw cs = some (pre,r) → aQ pre → ∀ (args : List Value) (w : World),bH w cs args → Calls prog 50 args.toArray w (fun e w' => r.ok w e w'):=by
 intro cs pre r hg hp args w ha;unfold Aw at hg;split at hg
 ·rename_i l;split at hg
  ·rename_i n hn;cases hg;rw [jF ha,dG l _ hn];exact bK aF (fun _ _ => (fS _).w _ _) (kB w) func50 (Ph n) trivial (args:=[_]) ⟨rfl,trivial⟩
  ·cases hg
 ·cases hg
def R3 : Tab3:=L3.add 50 Aw
theorem Wh : FsOk prog R3:=Wi.ad func50 St
def z8 : Nat → List At
 | 0 => []
 | n + 1 => .c (.int .u8 0) :: z8 n
def Mk (N : Nat) : Prop:=∃ e,∀ w : World,(Instr.makeSlice 29 (.int .i64 N) (.int .i64 N)).run prog w = .ok (.slice (some ⟨w.heap.size,0,none⟩) N N) (w.alloc (.cells (aB (z8 N)).toArray e))
theorem Bw : ∀ (s n : Nat),eB (fun _ => [At.c (.int .u8 0)]) s n = z8 n
 | _,0 => rfl
 | s,n + 1 => congrArg (At.c (.int .u8 0) :: ·) (Bw (s + 1) n)
theorem Ii (N : Nat) (h : N < 1000) : Mk N:=by
 have h1:=UJ (P:=prog) (t:=29) (e:=5) (z:=[At.c (.int .u8 0)]) (v:=.int .u8 0) (N:=N) (n:=1) (by8:=1) (by kernel_rfl) (by kernel_rfl) rfl rfl (by omega) (by omega) (by omega);rw [Bw] at h1;exact h1
def xR (n s : Nat) : Ext:=x3 R3 W4 (fun _ => none) (fun i => bif Nat.beq i s then some (n,z8 n) else none)
theorem aCj (n s : Nat) (w : World) : cL prog (qY prog (xR n s)) w.heap.size w:=oE Wh WC w
def cfN (T : Tab) (s : Nat) : Nat → Cfg:=fun _ => ⟨fun _ => T,fun _ => true,fun n => bif Nat.beq n s then some (.bool true) else none⟩
theorem Dx (x y : Nat) (c : Bool) : iX prog (qY prog (x3 L3 W4 (fun _ => none) (fun _ => none))) (sD (aBV true c)) f18 80 [.v (.fl (JZ (x,y,true)))] = some ([(lY x y true).1 = 0,wv y < FP.M,fY FP.M (wv y) = c,1 < 4],⟨bm (wv x) 1,32,5,1,true,[],[.im (.int .i64 0)]⟩):=by kernel_rfl
theorem Dy (x y : Nat) (c : Bool) : iX prog (qY prog (x3 L3 W4 (fun _ => none) (fun _ => none))) (sD (aBV true c)) f18 80 [.v (.fl (JZ (x,y,false)))] = some ([(lY x y false).1 = 0,wv y < FP.M,fY FP.M (wv y) = c,(bif c then 2 else 3) < 4],⟨bm (wv x) (bif c then 2 else 3),32,5,1,true,[],[.im (.int .i64 0)]⟩):=by cases c <;> kernel_rfl
def Di (c i : Bool) : Nat:=bif i then 1 else bif c then 2 else 3
theorem FS.ok.weak {r : FS} {w : World} {e : Ending} {w' : World} (h : r.ok w e w') {l : List At} (hl : aB l = aB r.l) : (⟨l,r.n,0,0,false,r.ante,r.post⟩ : FS).ok w e w':=by
 obtain ⟨b,cap,h1,h2,h3,h4,h5,h6,_⟩:=h;exact ⟨b,cap,h1,h2,h3,h4,by rw [hl]; exact h5,h6,fun h => by cases h⟩
theorem Tx (n : Nat) : bm n 0 = bl n:=by
 have : hb n 0 = b8 n 0:=by unfold hb b8; rw [Nat.mul_zero,Nat.or_zero]
 unfold bm bl;rw [this]
def Zo (c : Bool) (p : DY) : List Prop:=[(lY p.1 p.2.1 p.2.2).1 = 0,wv p.2.1 < FP.M,fY FP.M (wv p.2.1) = c]
theorem Dj (c : Bool) : (bif c then 2 else 3) < 4:=by cases c <;> decide
theorem aBC {x y : Nat} {i : Bool} (h : (lY x y i).1 ≠ 0) : aI .neq .i64 (lY x y i).1 0 = some (.bool true):=by
 show some (Value.bool ((lY x y i).1 != 0)) = _;rw [bne_iff_ne.2 h]
def gFS (pre : DY → List Prop) (o : DY → FS) : List CA → Option (List Prop × FS)
 | [.v (.fl l)] => match Yc l with
  | some p => some (pre p,o p)
  | none => none
 | _ => none
theorem aAw {f : FuncId} {pre : DY → List Prop} {o : DY → FS} (h : ∀ p,aQ (pre p) → ∀ (args : List Value) (w : World),bH w [.v (.fl (JZ p))] args → Calls prog f args.toArray w (fun e w' => (o p).ok w e w')) :
  ∀ cs ps r,gFS pre o cs = some (ps,r) → aQ ps → ∀ (args : List Value) (w : World),bH w cs args → Calls prog f args.toArray w (fun e w' => r.ok w e w'):=by
 intro cs ps r hg hp args w ha;unfold gFS at hg;split at hg
 ·rename_i l;split at hg
  ·rename_i p hn;cases hg;refine h p hp args w ?_;rw [jF ha,uR l _ hn];exact ⟨rfl,trivial⟩
  ·cases hg
 ·cases hg
def lC : Q2:=(⟨21575463638280843010398324269430826099269044274347216827212613867836435027261,by decide⟩,⟨10307601595873709700152284273816112264069230130616436755625194854815875713954,by decide⟩)
def sA : Q2:=(⟨2821565182194536844548159561693502659359617185244120367078079554186484126554,by decide⟩,⟨3505843767911556378687030309984248845540243509899259641013678093033130930403,by decide⟩)
def g2X : Q2:=(⟨10857046999023057135944570762232829481370756359578518086990519993285655852781,by decide⟩,⟨11559732032986387107991004021392285783925812861821192530917403151452391805634,by decide⟩)
def g2Y : Q2:=(⟨8495653923123431417604973247489272438418190587263600148770280649306958101930,by decide⟩,⟨4082367875863433681332203403145435568316851327593401208105741076214120093531,by decide⟩)
def fL : Nat:=147946756881789318990833708069417712966
def Jy : gC
 | [.v (.im (.int .i64 (.ofNat 1)))] => some ([],.one (.fl (q1 FP.M)))
 | [.v (.im (.int .i64 (.ofNat 2)))] => some ([],.one (.fl (q1 Go.Proofs.YtfnkbmlmgnadmaaGreat.FR.M)))
 | _ => none
theorem Te : ∀ cs pre r,Jy cs = some (pre,r) → aQ pre → ∀ (args : List Value) (w : World),bH w cs args → Good prog 54 r args w:=by
 intro cs pre r hg hp args w ha;unfold Jy at hg;split at hg
 ·cases hg
  match args,ha with
  | [v],ha =>
   have h1 : v = .int .i64 1:=ha.1;subst h1;exact (nB 1 FP (Or.inl ⟨rfl,rfl⟩) w).mono fun e w' h => h
  | [],ha => exact ha.elim
  | _ :: _ :: _,ha => exact ha.2.elim
 ·cases hg
  match args,ha with
  | [v],ha =>
   have h1 : v = .int .i64 2:=ha.1;subst h1;exact (nB 2 Go.Proofs.YtfnkbmlmgnadmaaGreat.FR (Or.inr ⟨rfl,rfl⟩) w).mono fun e w' h => h
  | [],ha => exact ha.elim
  | _ :: _ :: _,ha => exact ha.2.elim
 ·cases hg
def Jt : gC
 | [.v (.fl l),.v (.fl m)] => some ([aB l = aB (q1 FP.M),aB m = aB (q1 Go.Proofs.YtfnkbmlmgnadmaaGreat.FR.M)],.many [.fl (q1 fL),.im (.int .u64 0)])
 | _ => none
theorem Sg : ∀ cs pre r,Jt cs = some (pre,r) → aQ pre → ∀ (args : List Value) (w : World),bH w cs args → Good prog 53 r args w:=by
 intro cs pre r hg hp args w ha;unfold Jt at hg;split at hg
 ·rename_i l m;cases hg;obtain ⟨e1,e2,_⟩:=hp
  match args,ha with
  | [v,u],ha =>
   have h1 : v = .agg (aB l).toArray:=ha.1;have h2 : u = .agg (aB m).toArray:=ha.2.1;rw [e1] at h1;rw [e2] at h2;subst h1; subst h2;refine (jL _ _ _ _ _ _ _ _ (bJ FP.M) (bJ Go.Proofs.YtfnkbmlmgnadmaaGreat.FR.M) w).mono ?_
   rintro e w' ⟨s0,s1,s2,s3,c,rfl,hs,hc,hv,hb⟩
   have v1 : aA (fw FP.M 0) (fw FP.M 1) (fw FP.M 2) (fw FP.M 3) = 21888242871839275222246405745257275088696311157297823662689037894645226208583:=by kernel_rfl
   have v2 : aA (fw Go.Proofs.YtfnkbmlmgnadmaaGreat.FR.M 0) (fw Go.Proofs.YtfnkbmlmgnadmaaGreat.FR.M 1) (fw Go.Proofs.YtfnkbmlmgnadmaaGreat.FR.M 2) (fw Go.Proofs.YtfnkbmlmgnadmaaGreat.FR.M 3) = 21888242871839275222246405745257275088548364400416034343698204186575808495617:=by kernel_rfl
   rw [v1,v2] at hv;obtain ⟨h0,h1,h2,h3⟩:=hs;have hlt : aA s0 s1 s2 s3 < 115792089237316195423570985008687907853269984665640564039457584007913129639936:=by unfold aA; omega
   have hc0 : c = 0:=by omega
   subst hc0;have hv2 : aA s0 s1 s2 s3 = fL:=by unfold fL; omega
   obtain ⟨rfl,rfl,rfl,rfl⟩:=fR ⟨h0,h1,h2,h3⟩ (by unfold fL; omega) hv2;exact ⟨rfl,hb⟩
  | [],ha => exact ha.elim
  | [_],ha => exact ha.2.elim
  | _ :: _ :: _ :: _,ha => exact ha.2.2.elim
 ·cases hg
def Mz : Tab:=(Mq).add 54 Jy
theorem Rq : TabOk prog Mz:=(Rh).ad func54 Te
def RN : Tab:=(Mz).add 53 Jt
theorem TQ : TabOk prog RN:=(Rq).ad func53 Sg
theorem Eo  : aT prog (qG prog) (fun _ => ⟨fun s => RN,fun s => true,fun _ => none⟩) f104 60 [] = some ([],.one (.fl (xI (some (g2X,g2Y))))):=by kernel_rfl
def RY : Tab:=(RN).add 104 (g0 (.one (.fl (xI (some (g2X,g2Y))))))
theorem UC : TabOk prog RY:=(TQ).ad func104 (zJ fun w => aC aF (fun _ s => TQ) (aG prog) func104 Eo trivial (args:=[]) trivial)
theorem ZJ  : aT prog (qG prog) (fun _ => ⟨fun s => RY,fun s => true,fun _ => none⟩) f55 60 [] = some ([],.one (.fl (q1 Go.Proofs.YtfnkbmlmgnadmaaGreat.FR.M))):=by kernel_rfl
def DW : Tab:=(RY).add 55 (g0 (.one (.fl (q1 Go.Proofs.YtfnkbmlmgnadmaaGreat.FR.M))))
theorem JL : TabOk prog DW:=(UC).ad func55 (zJ fun w => aC aF (fun _ s => UC) (aG prog) func55 ZJ trivial (args:=[]) trivial)
theorem NS  : aT prog (qG prog) (fun _ => ⟨fun s => DW,fun s => true,fun _ => none⟩) f60 60 [] = some ([],.one (.fl (q1 Go.Proofs.YtfnkbmlmgnadmaaGreat.FR.M))):=by kernel_rfl
def wX : Tab:=(DW).add 60 (g0 (.one (.fl (q1 Go.Proofs.YtfnkbmlmgnadmaaGreat.FR.M))))
theorem yW : TabOk prog wX:=(JL).ad func60 (zJ fun w => aC aF (fun _ s => JL) (aG prog) func60 NS trivial (args:=[]) trivial)
theorem XK  : aT prog (qG prog) (fun _ => ⟨fun s => wX,fun s => true,fun _ => none⟩) f88 60 [] = some ([],.many [.fl (e2 lC),.fl (e2 sA)]):=by kernel_rfl
def DH : Tab:=(wX).add 88 (g0 (.many [.fl (e2 lC),.fl (e2 sA)]))
theorem JE : TabOk prog DH:=(yW).ad func88 (zJ fun w => aC aF (fun _ s => yW) (aG prog) func88 XK trivial (args:=[]) trivial)
theorem aDf (x y : N2) : DH 89 [.v (.fl (q2 x)),.v (.fl (q2 y))] = some ([],.one (.fl (e2 (F2.mul (m2 x) (m2 y))))):=by kernel_rfl
def mR : Tab:=(DH).add 89 (g2 sJ sJ (fun x y => ([],.one (.fl (e2 (F2.mul x y))))))
theorem lO : TabOk prog mR:=(JE).ad func89 (hJ dA dA fun x y hp args w ha => (JE _ _ _ _ (aDf x y) trivial).2 args w ha)
theorem xS (x y : N2) : aT prog (qG prog) (fun _ => ⟨fun s => mR,fun s => true,fun s => bif Nat.beq s 10 then some (.bool true) else none⟩) f52 60 [.v (.fl (cS (x,y,true)))] = some ([aI .neq .i64 (fQ x y true).1 0 = some (.bool true)],.many [.fl (xI (some (F2.zero,F2.zero))),.im (.int .i64 (fQ x y true).1)]):=by kernel_rfl
theorem xQ (x y : N2) : aT prog (qG prog) (fun _ => ⟨fun s => mR,fun s => true,fun s => bif Nat.beq s 10 then some (.bool false) else none⟩) f52 60 [.v (.fl (cS (x,y,true)))] = some ([aI .neq .i64 (fQ x y true).1 0 = some (.bool false)],.many [.fl (e2 (F2.mul (cP (m2 x)) lC) ++ (e2 (F2.mul (cP (m2 y)) sA) ++ [.c (.bool true)])),.im (.int .i64 0)]):=by kernel_rfl
theorem uH (x y : N2) : aT prog (qG prog) (fun _ => ⟨fun s => mR,fun s => true,fun s => bif Nat.beq s 10 then some (.bool true) else none⟩) f52 60 [.v (.fl (cS (x,y,false)))] = some ([aI .neq .i64 (fQ x y false).1 0 = some (.bool true)],.many [.fl (xI (some (F2.zero,F2.zero))),.im (.int .i64 (fQ x y false).1)]):=by kernel_rfl
theorem uG (x y : N2) : aT prog (qG prog) (fun _ => ⟨fun s => mR,fun s => true,fun s => bif Nat.beq s 10 then some (.bool false) else none⟩) f52 60 [.v (.fl (cS (x,y,false)))] = some ([aI .neq .i64 (fQ x y false).1 0 = some (.bool false)],.many [.fl (e2 (F2.mul (cP (m2 x)) lC) ++ (e2 (F2.mul (cP (m2 y)) sA) ++ [.c (.bool false)])),.im (.int .i64 0)]):=by kernel_rfl
def Vb : Pt Q2 → Pt Q2
 | none => none
 | some p => some (F2.mul (cP p.1) lC,F2.mul (cP p.2) sA)
def dO (p : dC) : Pt Q2 × Int:=if (eT p).1 ≠ 0 then (some (F2.zero,F2.zero),(eT p).1) else (Vb (af2 p),0)
theorem Vm {x : N2} (h : tS x) : m2 x = F2.zero:=by
 refine Prod.ext (Fin.ext ?_) (Fin.ext ?_)
 ·show wv x.1 % FP.M = 0;rw [h.1]; rfl
 ·show wv x.2 % FP.M = 0;rw [h.2]; rfl
theorem VS : cP F2.zero = F2.zero:=by decide
theorem Lk {x y : N2} (h : (fQ x y true).1 = 0) : tS x ∧ tS y:=by
 rw [rK,if_pos rfl] at h
 by_cases hz : tS x ∧ tS y
 ·exact hz
 ·rw [if_neg hz] at h; cases h
theorem Yi (p : dC) (args : List Value) (w : World) (ha : bH w [.v (.fl (cS p))] args) : Good prog 52 (.many [.fl (xI (dO p).1),.im (.int .i64 (dO p).2)]) args w:=by
 obtain ⟨x,y,b⟩:=p
 by_cases h : (fQ x y b).1 = 0
 ·rw [show dO (x,y,b) = (Vb (af2 (x,y,b)),0) from if_neg (fun q => q h)];cases b with
  | false => exact aC aF (fun _ s => lO) (aG prog) func52 (uG x y) ⟨JP h,trivial⟩ ha
  | true =>
   refine Good.congr (aC aF (fun _ s => lO) (aG prog) func52 (xQ x y) ⟨JP h,trivial⟩ ha) ?_;obtain ⟨hx,hy⟩:=Lk h;rw [Vm hx,Vm hy,VS,F2.zero_mul,F2.zero_mul];rfl
 ·rw [show dO (x,y,b) = (some (F2.zero,F2.zero),(fQ x y b).1) from if_pos h];cases b with
  | true => exact aC aF (fun _ s => lO) (aG prog) func52 (xS x y) ⟨JO h,trivial⟩ ha
  | false => exact aC aF (fun _ s => lO) (aG prog) func52 (uH x y) ⟨JO h,trivial⟩ ha
def xD : Tab:=(mR).add 52 (g1 OS fun p => ([],.many [.fl (xI (dO p).1),.im (.int .i64 (dO p).2)]))
theorem tF : TabOk prog xD:=(lO).ad func52 (cG fF fun p hp args w ha => Yi p args w ha)
theorem YO (p : dC) : aT prog (qG prog) (fun _ => ⟨fun s => xD,fun s => true,fun s => bif Nat.beq s 15 then some (.bool true) else none⟩) f29 60 [.v (.fl (cS p))] = some ([aI .neq .i64 (dO p).2 0 = some (.bool true)],.one (.im (.bool false))):=by kernel_rfl
theorem YN (p : dC) : aT prog (qG prog) (fun _ => ⟨fun s => xD,fun s => true,fun s => bif Nat.beq s 15 then some (.bool false) else none⟩) f29 60 [.v (.fl (cS p))] = some ([aI .neq .i64 (dO p).2 0 = some (.bool false),aB (q1 FP.M) = aB (q1 FP.M),aB (q1 Go.Proofs.YtfnkbmlmgnadmaaGreat.FR.M) = aB (q1 Go.Proofs.YtfnkbmlmgnadmaaGreat.FR.M),aB (xI (gI (fun _ => p) (fun _ => fL) 1).1) = aB (xI (dO p).1)],.one (.im (.bool true))):=by kernel_rfl
theorem YM (p : dC) : aT prog (qG prog) (fun _ => ⟨fun s => xD,fun s => false,fun s => bif Nat.beq s 15 then some (.bool false) else none⟩) f29 60 [.v (.fl (cS p))] = some ([aI .neq .i64 (dO p).2 0 = some (.bool false),aB (q1 FP.M) = aB (q1 FP.M),aB (q1 Go.Proofs.YtfnkbmlmgnadmaaGreat.FR.M) = aB (q1 Go.Proofs.YtfnkbmlmgnadmaaGreat.FR.M),aB (xI (gI (fun _ => p) (fun _ => fL) 1).1) ≠ aB (xI (dO p).1)],.one (.im (.bool false))):=by kernel_rfl
theorem Sq {P Q : Pt Q2} (h : aB (xI P) = aB (xI Q)) : P = Q:=by
 have h' : w4 (ptX F2 P).1.1 ++ (w4 (ptX F2 P).2.1 ++ (w4 (ptY F2 P).1.1 ++ (w4 (ptY F2 P).2.1 ++ [Value.bool (ptI P)]))) = w4 (ptX F2 Q).1.1 ++ (w4 (ptX F2 Q).2.1 ++ (w4 (ptY F2 Q).1.1 ++ (w4 (ptY F2 Q).2.1 ++ [Value.bool (ptI Q)]))):=h;obtain ⟨h1,h'⟩:=List.append_inj h' rfl;obtain ⟨h2,h'⟩:=List.append_inj h' rfl;obtain ⟨h3,h'⟩:=List.append_inj h' rfl;obtain ⟨h4,h'⟩:=List.append_inj h' rfl;have h5 : ptI P = ptI Q:=by injection h' with h' _; injection h'
 have e : ∀ {a b : Fq},w4 a.1 = w4 b.1 → a = b:=fun {a b} hw => by
  have:=sU hw;refine Fin.ext ?_;have ha : wv a.1 = a.1:=bU a.2;have hb : wv b.1 = b.1:=bU b.2;rw [← ha,← hb,this]
 cases P with
 | none =>
  cases Q with
  | none => rfl
  | some q => cases h5
 | some p =>
  cases Q with
  | none => cases h5
  | some q => exact congrArg some (Prod.ext (Prod.ext (e h1) (e h2)) (Prod.ext (e h3) (e h4)))
open Classical in
def kW (p : dC) : Bool:=decide ((dO p).2 = 0 ∧ (gI (fun _ => p) (fun _ => fL) 1).1 = (dO p).1)
theorem Je (p : dC) (args : List Value) (w : World) (ha : bH w [.v (.fl (cS p))] args) : Good prog 29 (.one (.im (.bool (kW p)))) args w:=by
 unfold kW
 by_cases h1 : (dO p).2 = 0
 ·by_cases h2 : (gI (fun _ => p) (fun _ => fL) 1).1 = (dO p).1
  ·rw [decide_eq_true (And.intro h1 h2)];exact aC aF (fun _ s => tF) (aG prog) func29 (YN p) ⟨JP h1,rfl,rfl,by rw [h2],trivial⟩ ha
  ·rw [decide_eq_false (fun h => h2 h.2)];exact aC aF (fun _ s => tF) (aG prog) func29 (YM p) ⟨JP h1,rfl,rfl,fun h => h2 (Sq h),trivial⟩ ha
 ·rw [decide_eq_false (fun h => h1 h.1)];exact aC aF (fun _ s => tF) (aG prog) func29 (YO p) ⟨JO h1,trivial⟩ ha
def nF : Tab:=(xD).add 29 (g1 OS fun p => ([],.one (.im (.bool (kW p)))))
theorem kF : TabOk prog nF:=(tF).ad func29 (cG fF fun p hp args w ha => Je p args w ha)
section
variable {R : Type} [DecidableEq R] (K : CR R)
def VP (p q : Jc R) : Jc R :=
 if p.2.2 = K.zero then q else if q.2.2 = K.zero then p else if oC K p q = K.zero then (if CD K p q = K.zero then dI K p else (K.one,K.one,K.zero)) else yB K p q
theorem Lf (p q : Jc R) : VP K p q = rplus K p q:=by
 unfold VP rplus
 by_cases h1 : p.2.2 = K.zero
 ·rw [if_pos h1,if_pos h1]
 ·rw [if_neg h1,if_neg h1]
  by_cases h2 : q.2.2 = K.zero
  ·rw [if_pos h2,if_pos h2]
  ·rw [if_neg h2,if_neg h2]
   by_cases h3 : oC K p q = K.zero
   ·rw [if_pos h3]
    by_cases h4 : CD K p q = K.zero
    ·rw [if_pos h4,if_pos ⟨h3,h4⟩]
    ·rw [if_neg h4,if_neg (fun h => h4 h.2),if_pos h3]
   ·rw [if_neg h3,if_neg (fun h => h3 h.1),if_neg h3]
def KU (a : Jc R) (n L : Nat) : Nat → Jc R
 | 0 => (K.one,K.one,K.zero)
 | k + 1 => if Nat.beq (n / 2 ^ (L - (k + 1)) % 2) 1 = true then VP K (dI K (KU a n L k)) a else dI K (KU a n L k)
variable {K} {inv : R → R} {b : R}
theorem VO {E : EC K inv b} {a : Jc R} {g : {p : Pt R // On K b p}} (h : Rp E a g) (n L : Nat) (hn : n < 2 ^ L) : ∀ k,k ≤ L → Rp E (KU K a n L k) (E.grp.ns (n / 2 ^ (L - k)) g)
 | 0,_ => by
  rw [Nat.sub_zero,Nat.div_eq_of_lt hn];exact Rp.zero rfl
 | k + 1,hk => by
  have ih:=VO h n L hn k (by omega);have e : n / 2 ^ (L - k) = n / 2 ^ (L - (k + 1)) / 2:=by
   rw [show L - k = (L - (k + 1)) + 1 by omega,Nat.pow_add,← Nat.div_div_eq_div_mul]
  rw [e] at ih;have h2:=ih.dbl;rw [← E.grp.ns_add] at h2
  by_cases hb : n / 2 ^ (L - (k + 1)) % 2 = 1
  ·rw [show KU K a n L (k + 1) = VP K (dI K (KU K a n L k)) a from if_pos (by rw [hb]; rfl),Lf];have h3:=h2.rplus h;rw [show n / 2 ^ (L - (k + 1)) = n / 2 ^ (L - (k + 1)) / 2 + n / 2 ^ (L - (k + 1)) / 2 + 1 by omega];exact h3
  ·rw [show KU K a n L (k + 1) = dI K (KU K a n L k) from if_neg (fun hq => hb (Nat.eq_of_beq_eq_true hq))];rw [show n / 2 ^ (L - (k + 1)) = n / 2 ^ (L - (k + 1)) / 2 + n / 2 ^ (L - (k + 1)) / 2 by omega];exact h2
theorem CV {E : EC K inv b} {a : Jc R} {g : {p : Pt R // On K b p}} (h : Rp E a g) (n L : Nat) (hn : n < 2 ^ L) : Rp E (KU K a n L L) (E.grp.ns n g):=by
 have:=VO h n L hn L (Nat.le_refl _)
 rwa [Nat.sub_self,Nat.pow_zero,Nat.div_one] at this
end
def Vc : Nat:=21888242871839275222246405745257275088548364400416034343698204186575808495617
section
variable {R : Type} {K : CR R} {inv : R → R} {b : R}
theorem Ix (E : EC K inv b) {p : Jc R} {x y : R} (hz : p.2.2 ≠ K.zero) (hx : p.1 = K.mul x (K.mul p.2.2 p.2.2)) (hy : p.2.1 = K.mul y (K.mul (K.mul p.2.2 p.2.2) p.2.2)) : fZ K inv p = some (x,y):=by
 have h1:=E.F.inv _ hz;rw [dS hz,hx,hy];generalize inv p.2.2 = i at h1 ⊢;generalize p.2.2 = z at h1 ⊢;refine congrArg some (Prod.ext ?_ ?_)
 ·show K.mul (K.mul x (K.mul z z)) (K.mul i i) = x;have e : K.mul (K.mul x (K.mul z z)) (K.mul i i) = K.mul x (K.mul (K.mul z i) (K.mul z i)):=aL K (cD K [x,z,i]) (.mul (.mul (.v 0) (.mul (.v 1) (.v 1))) (.mul (.v 2) (.v 2))) (.mul (.v 0) (.mul (.mul (.v 1) (.v 2)) (.mul (.v 1) (.v 2)))) (by decide);rw [e,h1,K.one_mul,K.mul_one]
 ·show K.mul (K.mul y (K.mul (K.mul z z) z)) (K.mul (K.mul i i) i) = y;have e : K.mul (K.mul y (K.mul (K.mul z z) z)) (K.mul (K.mul i i) i) = K.mul y (K.mul (K.mul (K.mul z i) (K.mul z i)) (K.mul z i)):=aL K (cD K [y,z,i]) (.mul (.mul (.v 0) (.mul (.mul (.v 1) (.v 1)) (.v 1))) (.mul (.mul (.v 2) (.v 2)) (.v 2))) (.mul (.v 0) (.mul (.mul (.mul (.v 1) (.v 2)) (.mul (.v 1) (.v 2))) (.mul (.v 1) (.v 2)))) (by decide);rw [e,h1,K.one_mul,K.one_mul,K.mul_one]
end
theorem Wn : wv Go.Proofs.YtfnkbmlmgnadmaaGreat.FR.M = Vc:=by kernel_rfl
theorem Nq : wv fL = fL:=by kernel_rfl
open Classical
section
variable {R : Type} {K : CR R} {inv : R → R} {b : R}
structure Tw (K : CR R) (b : R) (s : R → R) (k : R) : Prop where
 add : ∀ x y,s (K.add x y) = K.add (s x) (s y)
 mul : ∀ x y,s (K.mul x y) = K.mul (s x) (s y)
 neg : ∀ x,s (K.neg x) = K.neg (s x)
 zero : s K.zero = K.zero
 ss : ∀ x,s (s x) = x
 k0 : k ≠ K.zero
 hb : K.mul (K.mul (K.mul (K.mul k k) k) (K.mul (K.mul k k) k)) (s b) = b
def tw (K : CR R) (s : R → R) (k : R) : Pt R → Pt R
 | none => none
 | some p => some (K.mul (s p.1) (K.mul k k),K.mul (s p.2) (K.mul (K.mul k k) k))
variable {s : R → R} {k : R}
theorem Tw.inj (t : Tw K b s k) {x y : R} (h : s x = s y) : x = y:=by rw [← t.ss x,h,t.ss]
theorem Tw.sub (t : Tw K b s k) (x y : R) : s (K.sub x y) = K.sub (s x) (s y):=by
 show s (K.add x (K.neg y)) = K.add (s x) (K.neg (s y));rw [t.add,t.neg]
theorem tH (E : EC K inv b) {x y c : R} (hc : c ≠ K.zero) (h : K.mul x c = K.mul y c) : x = y:=by
 have h1:=congrArg (fun z => K.mul z (inv c)) h;have h2:=E.F.inv c hc;simp only [K.mul_assoc,h2,K.mul_one] at h1;exact h1
theorem Tw.k2 (t : Tw K b s k) (E : EC K inv b) : K.mul k k ≠ K.zero:=E.F.mul_ne t.k0 t.k0
theorem Tw.k3 (t : Tw K b s k) (E : EC K inv b) : K.mul (K.mul k k) k ≠ K.zero:=E.F.mul_ne (t.k2 E) t.k0
theorem aCo (t : Tw K b s k) (E : EC K inv b) : ∀ {P : Pt R},On K b P → On K b (tw K s k P)
 | none,_ => trivial
 | some p,h => by
  have h' : K.mul p.2 p.2 = K.add (K.mul p.1 (K.mul p.1 p.1)) b:=h;have h1:=congrArg s h';rw [t.mul,t.add,t.mul,t.mul] at h1;show K.mul (K.mul (s p.2) (K.mul (K.mul k k) k)) (K.mul (s p.2) (K.mul (K.mul k k) k)) = K.add (K.mul (K.mul (s p.1) (K.mul k k)) (K.mul (K.mul (s p.1) (K.mul k k)) (K.mul (s p.1) (K.mul k k)))) b;have e1 : K.mul (K.mul (s p.2) (K.mul (K.mul k k) k)) (K.mul (s p.2) (K.mul (K.mul k k) k)) = K.mul (K.mul (K.mul (K.mul k k) k) (K.mul (K.mul k k) k)) (K.mul (s p.2) (s p.2)):=aL K (cD K [s p.2,k]) (.mul (.mul (.v 0) (.mul (.mul (.v 1) (.v 1)) (.v 1))) (.mul (.v 0) (.mul (.mul (.v 1) (.v 1)) (.v 1)))) (.mul (.mul (.mul (.mul (.v 1) (.v 1)) (.v 1)) (.mul (.mul (.v 1) (.v 1)) (.v 1))) (.mul (.v 0) (.v 0))) (by decide);have e2 : K.mul (K.mul (s p.1) (K.mul k k)) (K.mul (K.mul (s p.1) (K.mul k k)) (K.mul (s p.1) (K.mul k k))) = K.mul (K.mul (K.mul (K.mul k k) k) (K.mul (K.mul k k) k)) (K.mul (s p.1) (K.mul (s p.1) (s p.1))):=aL K (cD K [s p.1,k]) (.mul (.mul (.v 0) (.mul (.v 1) (.v 1))) (.mul (.mul (.v 0) (.mul (.v 1) (.v 1))) (.mul (.v 0) (.mul (.v 1) (.v 1))))) (.mul (.mul (.mul (.mul (.v 1) (.v 1)) (.v 1)) (.mul (.mul (.v 1) (.v 1)) (.v 1))) (.mul (.v 0) (.mul (.v 0) (.v 0)))) (by decide);rw [e1,e2,h1,K.mul_add,t.hb]
theorem Cg (t : Tw K b s k) (E : EC K inv b) {x1 y1 x2 y2 : R} (hp : On K b (some (x1,y1))) (hq : On K b (some (x2,y2))) (h : ¬ (x1 = x2 ∧ K.add y1 y2 = K.zero)) :
  fH K inv (K.mul (s x1) (K.mul k k)) (K.mul (s y1) (K.mul (K.mul k k) k)) (K.mul (s x2) (K.mul k k)) (K.mul (s y2) (K.mul (K.mul k k) k)) = K.mul (s (fH K inv x1 y1 x2 y2)) k:=by
 by_cases hx : x1 = x2
 ·subst hx;have hy : K.add y1 y2 ≠ K.zero:=fun e => h ⟨rfl,e⟩
  have hyy : y1 = y2:=by
   apply Classical.byContradiction;intro hn;exact hy (AW E (show K.mul y1 y1 = K.mul y2 y2 from (show K.mul y1 y1 = _ from hp).trans (show K.mul y2 y2 = _ from hq).symm) hn)
  subst hyy;have hl : K.mul (fH K inv x1 y1 x1 y1) (K.add y1 y1) = K.add (K.add (K.mul x1 x1) (K.mul x1 x1)) (K.mul x1 x1):=by
   unfold fH;rw [if_pos rfl,K.mul_assoc,K.mul_comm (inv _),E.F.inv _ hy,K.mul_one]
  generalize fH K inv x1 y1 x1 y1 = l at hl ⊢;have h1:=congrArg s hl;rw [t.mul,t.add,t.add,t.add,t.mul] at h1;have hys : K.add (s y1) (s y1) ≠ K.zero:=fun e => hy (t.inj (by rw [t.add,t.zero]; exact e))
  refine yG E ?_ ?_
  ·intro e;refine hys ?_;apply tH E (t.k3 E);rw [K.add_mul,e,K.mul_comm K.zero,K.mul_zero]
  ·have e1 : K.mul (K.mul (s l) k) (K.add (K.mul (s y1) (K.mul (K.mul k k) k)) (K.mul (s y1) (K.mul (K.mul k k) k))) = K.mul (K.mul (s l) (K.add (s y1) (s y1))) (K.mul (K.mul k k) (K.mul k k)):=aL K (cD K [s l,k,s y1]) (.mul (.mul (.v 0) (.v 1)) (.add (.mul (.v 2) (.mul (.mul (.v 1) (.v 1)) (.v 1))) (.mul (.v 2) (.mul (.mul (.v 1) (.v 1)) (.v 1))))) (.mul (.mul (.v 0) (.add (.v 2) (.v 2))) (.mul (.mul (.v 1) (.v 1)) (.mul (.v 1) (.v 1)))) (by decide);rw [e1,h1];exact aL K (cD K [s x1,k]) (.mul (.add (.add (.mul (.v 0) (.v 0)) (.mul (.v 0) (.v 0))) (.mul (.v 0) (.v 0))) (.mul (.mul (.v 1) (.v 1)) (.mul (.v 1) (.v 1)))) (.add (.add (.mul (.mul (.v 0) (.mul (.v 1) (.v 1))) (.mul (.v 0) (.mul (.v 1) (.v 1)))) (.mul (.mul (.v 0) (.mul (.v 1) (.v 1))) (.mul (.v 0) (.mul (.v 1) (.v 1))))) (.mul (.mul (.v 0) (.mul (.v 1) (.v 1))) (.mul (.v 0) (.mul (.v 1) (.v 1))))) (by decide)
 ·have hl : K.mul (fH K inv x1 y1 x2 y2) (K.sub x2 x1) = K.sub y2 y1:=by
   unfold fH;rw [if_neg hx,K.mul_assoc,K.mul_comm (inv _),E.F.inv _ (AR fun e => hx e.symm),K.mul_one]
  generalize fH K inv x1 y1 x2 y2 = l at hl ⊢;have h1:=congrArg s hl;rw [t.mul,t.sub,t.sub] at h1;refine rU E (fun e => hx (t.inj (tH E (t.k2 E) e))) ?_;have e1 : K.mul (K.mul (s l) k) (K.sub (K.mul (s x2) (K.mul k k)) (K.mul (s x1) (K.mul k k))) = K.mul (K.mul (s l) (K.sub (s x2) (s x1))) (K.mul (K.mul k k) k):=aL K (cD K [s l,k,s x1,s x2]) (.mul (.mul (.v 0) (.v 1)) (.add (.mul (.v 3) (.mul (.v 1) (.v 1))) (.neg (.mul (.v 2) (.mul (.v 1) (.v 1)))))) (.mul (.mul (.v 0) (.add (.v 3) (.neg (.v 2)))) (.mul (.mul (.v 1) (.v 1)) (.v 1))) (by decide);rw [e1,h1];exact aL K (cD K [s y1,k,s y2]) (.mul (.add (.v 2) (.neg (.v 0))) (.mul (.mul (.v 1) (.v 1)) (.v 1))) (.add (.mul (.v 2) (.mul (.mul (.v 1) (.v 1)) (.v 1))) (.neg (.mul (.v 0) (.mul (.mul (.v 1) (.v 1)) (.v 1))))) (by decide)
theorem Xb (t : Tw K b s k) (E : EC K inv b) : ∀ {P Q : Pt R},On K b P → On K b Q → tw K s k (rX K inv P Q) = rX K inv (tw K s k P) (tw K s k Q)
 | none,_,_,_ => rfl
 | some p,none,_,_ => rfl
 | some p,some q,hp,hq => by
  by_cases h : p.1 = q.1 ∧ K.add p.2 q.2 = K.zero
  ·rw [oM h];refine (oM ⟨?_,?_⟩).symm
   ·show K.mul (s p.1) _ = K.mul (s q.1) _;rw [h.1]
   ·show K.add (K.mul (s p.2) _) (K.mul (s q.2) _) = K.zero;rw [← K.add_mul,← t.add,h.2,t.zero,K.mul_comm,K.mul_zero]
  ·rw [kD h];have h' : ¬ (K.mul (s p.1) (K.mul k k) = K.mul (s q.1) (K.mul k k) ∧ K.add (K.mul (s p.2) (K.mul (K.mul k k) k)) (K.mul (s q.2) (K.mul (K.mul k k) k)) = K.zero):=fun e => h ⟨t.inj (tH E (t.k2 E) e.1),by
    have e2:=e.2;rw [← K.add_mul,← t.add] at e2;exact t.inj (by rw [t.zero]; exact tH E (t.k3 E) (by rw [e2,K.mul_comm K.zero,K.mul_zero]))⟩
   have hS:=kD (K:=K) (inv:=inv) (p:=(K.mul (s p.1) (K.mul k k),K.mul (s p.2) (K.mul (K.mul k k) k))) (q:=(K.mul (s q.1) (K.mul k k),K.mul (s q.2) (K.mul (K.mul k k) k))) h';refine Eq.trans ?_ hS.symm;rw [Cg t E (x1:=p.1) (y1:=p.2) (x2:=q.1) (y2:=q.2) hp hq h];generalize fH K inv p.1 p.2 q.1 q.2 = l;have ex : s (sx K l p.1 q.1) = K.sub (K.sub (K.mul (s l) (s l)) (s p.1)) (s q.1):=by
    unfold sx;rw [t.sub,t.sub,t.mul]
   have ey : s (sy K l p.1 p.2 q.1) = K.sub (K.mul (s l) (K.sub (s p.1) (s (sx K l p.1 q.1)))) (s p.2):=by
    unfold sy;rw [t.sub,t.mul,t.sub]
   have fx : K.mul (s (sx K l p.1 q.1)) (K.mul k k) = sx K (K.mul (s l) k) (K.mul (s p.1) (K.mul k k)) (K.mul (s q.1) (K.mul k k)):=by
    rw [ex];exact aL K (cD K [s l,k,s p.1,s q.1]) (.mul (.add (.add (.mul (.v 0) (.v 0)) (.neg (.v 2))) (.neg (.v 3))) (.mul (.v 1) (.v 1))) (.add (.add (.mul (.mul (.v 0) (.v 1)) (.mul (.v 0) (.v 1))) (.neg (.mul (.v 2) (.mul (.v 1) (.v 1))))) (.neg (.mul (.v 3) (.mul (.v 1) (.v 1))))) (by decide)
   refine congrArg some (Prod.ext fx ?_);show K.mul (s (sy K l p.1 p.2 q.1)) (K.mul (K.mul k k) k) = sy K (K.mul (s l) k) (K.mul (s p.1) (K.mul k k)) (K.mul (s p.2) (K.mul (K.mul k k) k)) (K.mul (s q.1) (K.mul k k));rw [ey];unfold sy;rw [← fx];generalize s (sx K l p.1 q.1) = S;exact aL K (cD K [s l,k,s p.1,S,s p.2]) (.mul (.add (.mul (.v 0) (.add (.v 2) (.neg (.v 3)))) (.neg (.v 4))) (.mul (.mul (.v 1) (.v 1)) (.v 1))) (.add (.mul (.mul (.v 0) (.v 1)) (.add (.mul (.v 2) (.mul (.v 1) (.v 1))) (.neg (.mul (.v 3) (.mul (.v 1) (.v 1)))))) (.neg (.mul (.v 4) (.mul (.mul (.v 1) (.v 1)) (.v 1))))) (by decide)
end
def kE : Q2:=(⟨8376118865763821496583973867626364092589906065868298776909617916018768340080,by decide⟩,⟨16469823323077808223889137241176536799009286646108169935659301613961712198316,by decide⟩)
theorem UR : F2.mul kE kE = lC:=of_decide_eq_true (by kernel_rfl)
theorem aAa : F2.mul (F2.mul kE kE) kE = sA:=of_decide_eq_true (by kernel_rfl)
theorem aBl (x y : Q2) : cP (F2.add x y) = F2.add (cP x) (cP y):=Prod.ext rfl (aL F1 (cD F1 [x.2,y.2]) (.neg (.add (.v 0) (.v 1))) (.add (.neg (.v 0)) (.neg (.v 1))) (by decide))
theorem aBk (x y : Q2) : cP (F2.mul x y) = F2.mul (cP x) (cP y):=by
 refine Prod.ext ?_ ?_
 ·exact aL F1 (cD F1 [x.1,x.2,y.1,y.2]) (.add (.mul (.v 0) (.v 2)) (.mul (.neg .one) (.mul (.v 1) (.v 3)))) (.add (.mul (.v 0) (.v 2)) (.mul (.neg .one) (.mul (.neg (.v 1)) (.neg (.v 3))))) (by decide)
 ·exact aL F1 (cD F1 [x.1,x.2,y.1,y.2]) (.neg (.add (.mul (.v 0) (.v 3)) (.mul (.v 1) (.v 2)))) (.add (.mul (.v 0) (.neg (.v 3))) (.mul (.neg (.v 1)) (.v 2))) (by decide)
theorem Uu : Tw F2 oD cP kE where
 add:=aBl
 mul:=aBk
 neg:=fun x => rfl
 zero:=VS
 ss:=fun x => Prod.ext rfl (aL F1 (cD F1 [x.2]) (.neg (.neg (.v 0))) (.v 0) (by decide))
 k0:=of_decide_eq_true (by kernel_rfl)
 hb:=of_decide_eq_true (by kernel_rfl)
theorem BI : ∀ P : Pt Q2,Vb P = tw F2 cP kE P
 | none => rfl
 | some p => by
  show some (F2.mul (cP p.1) lC,F2.mul (cP p.2) sA) = some (F2.mul (cP p.1) (F2.mul kE kE),F2.mul (cP p.2) (F2.mul (F2.mul kE kE) kE));rw [UR,← aAa,UR]
def SU (P : C2) : C2:=⟨Vb P.1,by rw [BI]; exact aCo Uu cM P.2⟩
theorem Qg (P Q : C2) : SU (cM.grp.add P Q) = cM.grp.add (SU P) (SU Q):=Subtype.ext (by
 show Vb (rX F2 iW P.1 Q.1) = rX F2 iW (Vb P.1) (Vb Q.1);rw [BI,BI,BI];exact Xb Uu cM P.2 Q.2)
theorem Ff (P : C2) : ∀ n,SU (cM.grp.ns n P) = cM.grp.ns n (SU P)
 | 0 => rfl
 | n + 1 => by
  show SU (cM.grp.add (cM.grp.ns n P) P) = cM.grp.add (cM.grp.ns n (SU P)) (SU P);rw [Qg,Ff P n]
namespace AG
variable {G : Type} (A : AG G)
theorem ns_modz {g : G} {n : Nat} (h : A.ns n g = A.zero) (m : Nat) : A.ns (m % n) g = A.ns m g:=by
 conv => rhs; rw [← Nat.div_add_mod m n,A.ns_add,A.ns_mul,h,A.ns_zero,A.zadd]
theorem ns_gcd {g : G} (a b : Nat) : A.ns a g = A.zero → A.ns b g = A.zero → A.ns (Nat.gcd a b) g = A.zero:=by
 induction a,b using Nat.gcd.induction with
 | H0 n => intro _ h; rw [Nat.gcd_zero_left]; exact h
 | H1 m n hm ih =>
  intro h1 h2;rw [Nat.gcd_rec];exact ih (by rw [A.ns_modz h1]; exact h2) h1
theorem exact {g : G} {N : Nat} {l : List Nat} (hl : l.foldr (· * ·) 1 = N) (hp : ∀ q,q ∈ l → dB q) (h0 : A.ns N g = A.zero) (hq : ∀ q,q ∈ l → A.ns (N / q) g ≠ A.zero) (k : Nat) (hk : 0 < k) (hN : k < N) : A.ns k g ≠ A.zero:=fun h => by
 have hd:=A.ns_gcd k N h h0;obtain ⟨e,he⟩:=Nat.gcd_dvd_right k N;have hdk : Nat.gcd k N ≤ k:=Nat.le_of_dvd hk (Nat.gcd_dvd_left k N);have hd0 : 0 < Nat.gcd k N:=Nat.gcd_pos_of_pos_left N hk;have he1 : 1 < e:=by
  rcases Nat.lt_or_ge 1 e with q | q
  ·exact q
  ·have : Nat.gcd k N * e ≤ Nat.gcd k N * 1:=Nat.mul_le_mul_left _ q;omega
 obtain ⟨q,hql,f,hf⟩:=oN l e (by rw [hl]; exact ⟨Nat.gcd k N,by rw [Nat.mul_comm]; exact he⟩) he1 hp;refine hq q hql ?_;have hq0 : 0 < q:=Nat.lt_trans Nat.zero_lt_one (hp q hql).1;have e1 : N / q = Nat.gcd k N * f:=by
  rw [Nat.div_eq_of_eq_mul_left hq0];rw [Nat.mul_assoc,Nat.mul_comm f q,← hf];exact he
 rw [e1,A.ns_mul,hd,A.ns_zero]
theorem ns_inj {g : G} {N : Nat} (h : ∀ k,0 < k → k < N → A.ns k g ≠ A.zero) {i j : Nat} (hi : i < N) (hj : j < N) (e : A.ns i g = A.ns j g) : i = j:=by
 have key : ∀ i j,i < j → j < N → A.ns i g = A.ns j g → False:=fun i j hij hj e => by
  refine h (j - i) (by omega) (by omega) ?_;have : A.ns j g = A.add (A.ns i g) (A.ns (j - i) g):=by rw [← A.ns_add,Nat.add_sub_cancel' (Nat.le_of_lt hij)]
  rw [this] at e;refine A.cancel (a:=A.ns i g) ?_;rw [← e,A.addz]
 rcases Nat.lt_trichotomy i j with q | q | q
 ·exact (key i j q hj e).elim
 ·exact q
 ·exact (key j i q hi e.symm).elim
theorem ns_dvd {g : G} {N : Nat} (hN : 0 < N) (h0 : A.ns N g = A.zero) (h : ∀ k,0 < k → k < N → A.ns k g ≠ A.zero) (a : Nat) : A.ns a g = A.zero ↔ N ∣ a:=by
 constructor
 ·intro e;refine Nat.dvd_of_mod_eq_zero ?_
  rcases Nat.eq_zero_or_pos (a % N) with q | q
  ·exact q
  ·exact (h (a % N) q (Nat.mod_lt _ hN) (by rw [A.ns_modz h0]; exact e)).elim
 ·rintro ⟨f,rfl⟩
  rw [A.ns_mul,h0,A.ns_zero]
theorem ns_back {g : G} {N : Nat} (h0 : A.ns N g = A.zero) {j : Nat} (hj : j ≤ N) : A.add (A.ns j g) (A.ns (N - j) g) = A.zero:=by
 rw [← A.ns_add,Nat.add_sub_cancel' hj,h0]
theorem cyclic {g : G} {N M : Nat} (hN : N % 2 = 1) (h0 : A.ns N g = A.zero) (h : ∀ k,0 < k → k < N → A.ns k g ≠ A.zero) (two : ∀ P,A.add P P = A.zero → P = A.zero)
  (code : G → Nat) (hc : ∀ P,code P < M) (hi : ∀ P Q,code P = code Q → P = Q) (hM : M < 3 * N) (P : G) : ∃ k,P = A.ns k g:=by
 apply Classical.byContradiction;intro hP;have hsub : ∀ i j,j < N → ∀ Q,A.ns i g = A.add Q (A.ns j g) → ∃ k,Q = A.ns k g:=fun i j hj Q e => by
  refine ⟨i + (N - j),?_⟩;rw [A.ns_add,e,A.assoc,A.ns_back h0 (Nat.le_of_lt hj),A.addz]
 by_cases hD : ∃ k,A.add P P = A.ns k g
 ·obtain ⟨k,hk⟩:=hD;obtain ⟨j,hj⟩ : ∃ j,A.ns (j + j) g = A.add P P:=by
   rcases Nat.mod_two_eq_zero_or_one k with q | q
   ·exact ⟨k / 2,by rw [hk,show k / 2 + k / 2 = k by omega]⟩
   ·refine ⟨(k + N) / 2,?_⟩;rw [hk,show (k + N) / 2 + (k + N) / 2 = k + N by omega,A.ns_add,h0,A.addz]
  have hz:=two (A.add P (A.neg (A.ns j g))) (by
   rw [A.add4,← hj,← A.neg_add,← A.ns_add,A.addn])
  refine hP ⟨j,?_⟩;refine A.cancel (a:=A.neg (A.ns j g)) ?_;rw [A.nadd,A.comm,hz]
 ·have pg:=Gb (3 * N) (fun i => if i < N then code (A.ns i g) else if i < 2 * N then code (A.add P (A.ns (i - N) g)) else code (A.add (A.add P P) (A.ns (i - 2 * N) g)))
   (fun i _ => by
    show (if i < N then _ else if i < 2 * N then _ else _) < 3 * N;split
    ·exact Nat.lt_trans (hc _) hM
    ·split
     ·exact Nat.lt_trans (hc _) hM
     ·exact Nat.lt_trans (hc _) hM)
   (fun i j hi3 hj3 e => by
    have e' : (if i < N then code (A.ns i g) else if i < 2 * N then code (A.add P (A.ns (i - N) g)) else code (A.add (A.add P P) (A.ns (i - 2 * N) g))) = (if j < N then code (A.ns j g) else if j < 2 * N then code (A.add P (A.ns (j - N) g)) else code (A.add (A.add P P) (A.ns (j - 2 * N) g))):=e
    by_cases i1 : i < N
    ·rw [if_pos i1] at e'
     by_cases j1 : j < N
     ·rw [if_pos j1] at e';exact A.ns_inj h i1 j1 (hi _ _ e')
     ·rw [if_neg j1] at e'
      by_cases j2 : j < 2 * N
      ·rw [if_pos j2] at e';exact (hP (hsub _ _ (by omega) _ (hi _ _ e'))).elim
      ·rw [if_neg j2] at e';exact (hD (hsub _ _ (by omega) _ (hi _ _ e'))).elim
    ·rw [if_neg i1] at e'
     by_cases i2 : i < 2 * N
     ·rw [if_pos i2] at e'
      by_cases j1 : j < N
      ·rw [if_pos j1] at e';exact (hP (hsub _ _ (by omega) _ (hi _ _ e'.symm))).elim
      ·rw [if_neg j1] at e'
       by_cases j2 : j < 2 * N
       ·rw [if_pos j2] at e';have:=A.ns_inj h (i:=i - N) (j:=j - N) (by omega) (by omega) (A.cancel (hi _ _ e'));omega
       ·rw [if_neg j2] at e';have e2:=hi _ _ e';rw [A.assoc] at e2;exact (hP (hsub _ _ (by omega) _ (A.cancel e2))).elim
     ·rw [if_neg i2] at e'
      by_cases j1 : j < N
      ·rw [if_pos j1] at e';exact (hD (hsub _ _ (by omega) _ (hi _ _ e'.symm))).elim
      ·rw [if_neg j1] at e'
       by_cases j2 : j < 2 * N
       ·rw [if_pos j2] at e';have e2:=(hi _ _ e').symm;rw [A.assoc] at e2;exact (hP (hsub _ _ (by omega) _ (A.cancel e2))).elim
       ·rw [if_neg j2] at e';have:=A.ns_inj h (i:=i - 2 * N) (j:=j - 2 * N) (by omega) (by omega) (A.cancel (hi _ _ e'));omega) M hM
  obtain ⟨i,_,hiM⟩:=pg;have : (if i < N then code (A.ns i g) else if i < 2 * N then code (A.add P (A.ns (i - N) g)) else code (A.add (A.add P P) (A.ns (i - 2 * N) g))) = M:=hiM;have hlt : (if i < N then code (A.ns i g) else if i < 2 * N then code (A.add P (A.ns (i - N) g)) else code (A.add (A.add P P) (A.ns (i - 2 * N) g))) < M:=by
   split
   ·exact hc _
   ·split
    ·exact hc _
    ·exact hc _
  omega
end AG
end Go.Proofs.YtfnkbmlmgnadmaaGreat.Ex
namespace Go.Proofs.YtfnkbmlmgnadmaaGreat
open Go.Proofs.Tryz
theorem ZY : dB 10069:=aJ 10069 100 (by decide) (by decide) (by kernel_rfl)
theorem Qs : dB 181:=aJ 181 13 (by decide) (by decide) (by kernel_rfl)
theorem BA : Root 5864401 38:=by
 refine aW (l:=[2,2,2,2,3,3,3,3,5,5,181]) (by kernel_rfl) fun q hq => ?_
 simp only [List.mem_cons,List.not_mem_nil,or_false] at hq
 rcases hq with rfl | rfl | rfl | rfl | rfl | rfl | rfl | rfl | rfl | rfl | rfl
 ·exact aP
 ·exact aP
 ·exact aP
 ·exact aP
 ·exact dP
 ·exact dP
 ·exact dP
 ·exact dP
 ·exact gK
 ·exact gK
 ·exact Qs
theorem II : dB 5864401:=BA.prm
theorem Qr : dB 199:=aJ 199 14 (by decide) (by decide) (by kernel_rfl)
theorem Fp : dB 1511:=aJ 1511 38 (by decide) (by decide) (by kernel_rfl)
theorem GV : Root 601379 2:=by
 refine aW (l:=[2,199,1511]) (by kernel_rfl) fun q hq => ?_
 simp only [List.mem_cons,List.not_mem_nil,or_false] at hq
 rcases hq with rfl | rfl | rfl
 ·exact aP
 ·exact Qr
 ·exact Fp
theorem PA : dB 601379:=GV.prm
theorem qC : Root 17367825521 3:=by
 refine aW (l:=[2,2,2,2,5,19,19,601379]) (by kernel_rfl) fun q hq => ?_
 simp only [List.mem_cons,List.not_mem_nil,or_false] at hq
 rcases hq with rfl | rfl | rfl | rfl | rfl | rfl | rfl | rfl
 ·exact aP
 ·exact aP
 ·exact aP
 ·exact aP
 ·exact gK
 ·exact qI
 ·exact qI
 ·exact PA
theorem sO : dB 17367825521:=qC.prm
theorem nJ : Root 1875725156269 2:=by
 refine aW (l:=[2,2,3,3,3,17367825521]) (by kernel_rfl) fun q hq => ?_
 simp only [List.mem_cons,List.not_mem_nil,or_false] at hq
 rcases hq with rfl | rfl | rfl | rfl | rfl | rfl
 ·exact aP
 ·exact aP
 ·exact dP
 ·exact dP
 ·exact dP
 ·exact sO
theorem oP : dB 1875725156269:=nJ.prm
theorem Yp : dB 59:=aJ 59 7 (by decide) (by decide) (by kernel_rfl)
theorem Yq : dB 43:=aJ 43 6 (by decide) (by decide) (by kernel_rfl)
theorem Fm : dB 23:=aJ 23 4 (by decide) (by decide) (by kernel_rfl)
theorem Qk : dB 727:=aJ 727 26 (by decide) (by decide) (by kernel_rfl)
theorem GZ : Root 133769 3:=by
 refine aW (l:=[2,2,2,23,727]) (by kernel_rfl) fun q hq => ?_
 simp only [List.mem_cons,List.not_mem_nil,or_false] at hq
 rcases hq with rfl | rfl | rfl | rfl | rfl
 ·exact aP
 ·exact aP
 ·exact aP
 ·exact Fm
 ·exact Qk
theorem PE : dB 133769:=GZ.prm
theorem Yo : dB 61:=aJ 61 7 (by decide) (by decide) (by kernel_rfl)
theorem Qu : dB 149:=aJ 149 12 (by decide) (by decide) (by kernel_rfl)
theorem BB : Root 5835139 3:=by
 refine aW (l:=[2,3,61,107,149]) (by kernel_rfl) fun q hq => ?_
 simp only [List.mem_cons,List.not_mem_nil,or_false] at hq
 rcases hq with rfl | rfl | rfl | rfl | rfl
 ·exact aP
 ·exact dP
 ·exact Yo
 ·exact SW
 ·exact Qu
theorem IJ : dB 5835139:=BB.prm
theorem uM : Root 758568071 14:=by
 refine aW (l:=[2,5,13,5835139]) (by kernel_rfl) fun q hq => ?_
 simp only [List.mem_cons,List.not_mem_nil,or_false] at hq
 rcases hq with rfl | rfl | rfl | rfl
 ·exact aP
 ·exact gK
 ·exact BK
 ·exact IJ
theorem xX : dB 758568071:=uM.prm
theorem jG : Root 1309000310535827101 2:=by
 refine aW (l:=[2,2,3,5,5,43,133769,758568071]) (by kernel_rfl) fun q hq => ?_
 simp only [List.mem_cons,List.not_mem_nil,or_false] at hq
 rcases hq with rfl | rfl | rfl | rfl | rfl | rfl | rfl | rfl
 ·exact aP
 ·exact aP
 ·exact dP
 ·exact gK
 ·exact gK
 ·exact Yq
 ·exact PE
 ·exact xX
theorem jM : dB 1309000310535827101:=jG.prm
theorem Qt : dB 157:=aJ 157 12 (by decide) (by decide) (by kernel_rfl)
theorem BG : Root 1233079 11:=by
 refine aW (l:=[2,3,7,11,17,157]) (by kernel_rfl) fun q hq => ?_
 simp only [List.mem_cons,List.not_mem_nil,or_false] at hq
 rcases hq with rfl | rfl | rfl | rfl | rfl | rfl
 ·exact aP
 ·exact dP
 ·exact uX
 ·exact BL
 ·exact Fo
 ·exact Qt
theorem IQ : dB 1233079:=BG.prm
theorem Fs : dB 1031:=aJ 1031 32 (by decide) (by decide) (by kernel_rfl)
theorem ZV : dB 77339:=aJ 77339 278 (by decide) (by decide) (by kernel_rfl)
theorem Fk : dB 3359:=aJ 3359 57 (by decide) (by decide) (by kernel_rfl)
theorem GX : Root 268721 3:=by
 refine aW (l:=[2,2,2,2,5,3359]) (by kernel_rfl) fun q hq => ?_
 simp only [List.mem_cons,List.not_mem_nil,or_false] at hq
 rcases hq with rfl | rfl | rfl | rfl | rfl | rfl
 ·exact aP
 ·exact aP
 ·exact aP
 ·exact aP
 ·exact gK
 ·exact Fk
theorem PC : dB 268721:=GX.prm
theorem BE : Root 1612327 5:=by
 refine aW (l:=[2,3,268721]) (by kernel_rfl) fun q hq => ?_
 simp only [List.mem_cons,List.not_mem_nil,or_false] at hq
 rcases hq with rfl | rfl | rfl
 ·exact aP
 ·exact dP
 ·exact PC
theorem IN : dB 1612327:=BE.prm
theorem lG : Root 677736056450657 3:=by
 refine aW (l:=[2,2,2,2,2,7,23,83,983,1612327]) (by kernel_rfl) fun q hq => ?_
 simp only [List.mem_cons,List.not_mem_nil,or_false] at hq
 rcases hq with rfl | rfl | rfl | rfl | rfl | rfl | rfl | rfl | rfl | rfl
 ·exact aP
 ·exact aP
 ·exact aP
 ·exact aP
 ·exact aP
 ·exact uX
 ·exact Fm
 ·exact Fg
 ·exact BJ
 ·exact IN
theorem mS : dB 677736056450657:=lG.prm
theorem iK : Root 209661715479349446893 2:=by
 refine aW (l:=[2,2,77339,677736056450657]) (by kernel_rfl) fun q hq => ?_
 simp only [List.mem_cons,List.not_mem_nil,or_false] at hq
 rcases hq with rfl | rfl | rfl | rfl
 ·exact aP
 ·exact aP
 ·exact ZV
 ·exact mS
theorem iV : dB 209661715479349446893:=iK.prm
theorem fW : Root 3458579658547348475946929 3:=by
 refine aW (l:=[2,2,2,2,1031,209661715479349446893]) (by kernel_rfl) fun q hq => ?_
 simp only [List.mem_cons,List.not_mem_nil,or_false] at hq
 rcases hq with rfl | rfl | rfl | rfl | rfl | rfl
 ·exact aP
 ·exact aP
 ·exact aP
 ·exact aP
 ·exact Fs
 ·exact iV
theorem gL : dB 3458579658547348475946929:=fW.prm
theorem eH : Root 213235097339095295568608163219551 31:=by
 refine aW (l:=[2,5,5,1233079,3458579658547348475946929]) (by kernel_rfl) fun q hq => ?_
 simp only [List.mem_cons,List.not_mem_nil,or_false] at hq
 rcases hq with rfl | rfl | rfl | rfl | rfl
 ·exact aP
 ·exact gK
 ·exact gK
 ·exact IQ
 ·exact gL
theorem eM : dB 213235097339095295568608163219551:=eH.prm
theorem cK : Root 197620364512881247228717050342013327560683201906968909 2:=by
 refine aW (l:=[2,2,3,59,1309000310535827101,213235097339095295568608163219551]) (by kernel_rfl) fun q hq => ?_
 simp only [List.mem_cons,List.not_mem_nil,or_false] at hq
 rcases hq with rfl | rfl | rfl | rfl | rfl | rfl
 ·exact aP
 ·exact aP
 ·exact dP
 ·exact Yp
 ·exact jM
 ·exact eM
theorem cN : dB 197620364512881247228717050342013327560683201906968909:=cK.prm
end Go.Proofs.YtfnkbmlmgnadmaaGreat
namespace Go.Proofs.YtfnkbmlmgnadmaaGreat.Ex
open Go.Proofs.Tryz
open Go.RowKit
def EM : Q2:=(⟨2,by decide⟩,⟨1,by decide⟩)
def LJ : Q2:=(⟨7292567877523311580221095596750716176434782432868683424513645834767876293070,by decide⟩,⟨19659275751359636165940301690575149581329631496732780143538578556285923319774,by decide⟩)
def xG : Nat:=479095176016622842441988045216678740799252316531100822436447802254070093686356349204969212544220033486413271283566945264650845755880805213916963058350733
def Xe : Nat:=287457105609973705413735949925891179998572849537316190965553840838426151215824331271088064391342496698406609565003789524066463657087527623491112425449299
theorem Ci : On F2 oD (some (EM,LJ)):=by
 show F2.mul LJ LJ = F2.add (F2.mul EM (F2.mul EM EM)) oD;exact of_decide_eq_true (by kernel_rfl)
def DZ : C2:=⟨some (EM,LJ),Ci⟩
theorem LR : Rp cM (EM,LJ,F2.one) DZ:=cM.jto_one _ _
theorem aEC : (KU F2 (EM,LJ,F2.one) xG 508 508).2.2 = F2.zero:=of_decide_eq_true (by kernel_rfl)
theorem Wy : (KU F2 (EM,LJ,F2.one) 21888242871839275222246405745257275088844257914179612981679871602714643921549 508 508).2.2 ≠ F2.zero:=of_decide_eq_true (by kernel_rfl)
theorem Wx : (KU F2 (EM,LJ,F2.one) 47581207271489010074683488451353534690560365133687637544587129035065060451520145913692443394996527310200940637954806362563397135354136976255533127257 508 508).2.2 ≠ F2.zero:=of_decide_eq_true (by kernel_rfl)
theorem Ww : (KU F2 (EM,LJ,F2.one) 81695500702735512534355690413510048306596413944254634435204516583035521221409714172848891565263022342164744751180375500353888786916311693882625533 508 508).2.2 ≠ F2.zero:=of_decide_eq_true (by kernel_rfl)
theorem Wv : (KU F2 (EM,LJ,F2.one) 255418644045692602095536823547820102522999221828645151339294751423486163211343406059815000057572293107810899582329754326227174532880069378657 508 508).2.2 ≠ F2.zero:=of_decide_eq_true (by kernel_rfl)
theorem Wu : (KU F2 (EM,LJ,F2.one) 2424320880075062131686333725919013315836351602446602932909956992302697742401182419325566481532687937 508 508).2.2 ≠ F2.zero:=of_decide_eq_true (by kernel_rfl)
theorem Xc : xG < 2 ^ 508:=of_decide_eq_true (by kernel_rfl)
theorem Xd : Xe < 2 ^ 508:=of_decide_eq_true (by kernel_rfl)
theorem AJ : cM.grp.ns xG DZ = cM.grp.zero:=Subtype.ext ((CV LR xG 508 Xc).symm.trans (cU aEC))
theorem EK {n : Nat} (hn : n < 2 ^ 508) (h : (KU F2 (EM,LJ,F2.one) n 508 508).2.2 ≠ F2.zero) : cM.grp.ns n DZ ≠ cM.grp.zero:=fun e => by
 have h1 : fZ F2 iW (KU F2 (EM,LJ,F2.one) n 508 508) = (cM.grp.ns n DZ).1:=CV LR n 508 hn;rw [e,dS h] at h1;cases h1
def twL : List Nat:=[21888242871839275222246405745257275088548364400416034343698204186575808495617,10069,5864401,1875725156269,197620364512881247228717050342013327560683201906968909]
theorem Cj : twL.foldr (· * ·) 1 = xG:=by kernel_rfl
theorem Nu : ∀ q,q ∈ twL → dB q:=fun q hq => by
 simp only [twL,List.mem_cons,List.not_mem_nil,or_false] at hq
 rcases hq with rfl | rfl | rfl | rfl | rfl
 ·exact aCP
 ·exact ZY
 ·exact II
 ·exact oP
 ·exact cN
theorem Xf : ∀ q,q ∈ twL → cM.grp.ns (xG / q) DZ ≠ cM.grp.zero:=fun q hq => by
 simp only [twL,List.mem_cons,List.not_mem_nil,or_false] at hq
 rcases hq with rfl | rfl | rfl | rfl | rfl
 ·rw [show xG / 21888242871839275222246405745257275088548364400416034343698204186575808495617 = 21888242871839275222246405745257275088844257914179612981679871602714643921549 by kernel_rfl]; exact EK (of_decide_eq_true (by kernel_rfl)) Wy
 ·rw [show xG / 10069 = 47581207271489010074683488451353534690560365133687637544587129035065060451520145913692443394996527310200940637954806362563397135354136976255533127257 by kernel_rfl]; exact EK (of_decide_eq_true (by kernel_rfl)) Wx
 ·rw [show xG / 5864401 = 81695500702735512534355690413510048306596413944254634435204516583035521221409714172848891565263022342164744751180375500353888786916311693882625533 by kernel_rfl]; exact EK (of_decide_eq_true (by kernel_rfl)) Ww
 ·rw [show xG / 1875725156269 = 255418644045692602095536823547820102522999221828645151339294751423486163211343406059815000057572293107810899582329754326227174532880069378657 by kernel_rfl]; exact EK (of_decide_eq_true (by kernel_rfl)) Wv
 ·rw [show xG / 197620364512881247228717050342013327560683201906968909 = 2424320880075062131686333725919013315836351602446602932909956992302697742401182419325566481532687937 by kernel_rfl]; exact EK (of_decide_eq_true (by kernel_rfl)) Wu
theorem tZ : ∀ k,0 < k → k < xG → cM.grp.ns k DZ ≠ cM.grp.zero:=cM.grp.exact Cj Nu AJ Xf
theorem Wr (P : C2) (h : cM.grp.add P P = cM.grp.zero) : P = cM.grp.zero:=by
 have h1 : cM.grp.neg P = P:=by
  refine cM.grp.cancel (a:=P) ?_;rw [cM.grp.addn,h]
 obtain ⟨P,hP⟩:=P;cases P with
 | none => rfl
 | some p =>
  have h2 : some (p.1,F2.neg p.2) = some p:=congrArg Subtype.val h1;have h3 : F2.neg p.2 = p.2:=by injection h2 with h2; exact congrArg Prod.snd h2
  have h4 : F2.add p.2 p.2 = F2.zero:=by
   conv => lhs; lhs; rw [← h3]
   exact F2.neg_add _
  exact (cM.dbl_ne (cM.y_ne (x:=p.1) hP) h4).elim
open Classical in
def iA (x : Q2) : Q2:=if h : ∃ y,On F2 oD (some (x,y)) then h.choose else F2.zero
open Classical in
def pU (P : C2) : Nat:=match P.1 with
 | none => 2 * (FP.M * FP.M)
 | some p => 2 * (p.1.1.1 + FP.M * p.1.2.1) + (if p.2 = iA p.1 then 0 else 1)
theorem PX {a b M : Nat} (ha : a < M) (hb : b < M) : a + M * b < M * M:=by
 have : M * (b + 1) ≤ M * M:=Nat.mul_le_mul_left _ hb;rw [Nat.mul_add,Nat.mul_one] at this;omega
theorem WW (P : C2) : pU P < 2 * (FP.M * FP.M) + 1:=by
 obtain ⟨P,hP⟩:=P;unfold pU;cases P with
 | none => exact Nat.lt_succ_self _
 | some p =>
  have:=PX p.1.1.2 p.1.2.2;show 2 * (p.1.1.1 + FP.M * p.1.2.1) + (if p.2 = iA p.1 then 0 else 1) < _;split <;> omega
theorem Sn {a b c d M : Nat} (ha : a < M) (hc : c < M) (h : a + M * b = c + M * d) : a = c ∧ b = d:=by
 have h1:=congrArg (· % M) h;simp only [Nat.add_mul_mod_self_left,Nat.mod_eq_of_lt ha,Nat.mod_eq_of_lt hc] at h1;refine ⟨h1,?_⟩;rw [h1] at h;have hM : 0 < M:=by omega
 exact Nat.eq_of_mul_eq_mul_left hM (by omega)
theorem LS (P Q : C2) (h : pU P = pU Q) : P = Q:=by
 obtain ⟨P,hP⟩:=P;obtain ⟨Q,hQ⟩:=Q;refine Subtype.ext ?_;show P = Q;unfold pU at h;cases P with
 | none =>
  cases Q with
  | none => rfl
  | some q =>
   have:=PX q.1.1.2 q.1.2.2;have h' : 2 * (FP.M * FP.M) = 2 * (q.1.1.1 + FP.M * q.1.2.1) + (if q.2 = iA q.1 then 0 else 1):=h;split at h' <;> omega
 | some p =>
  cases Q with
  | none =>
   have:=PX p.1.1.2 p.1.2.2;have h' : 2 * (p.1.1.1 + FP.M * p.1.2.1) + (if p.2 = iA p.1 then 0 else 1) = 2 * (FP.M * FP.M):=h;split at h' <;> omega
  | some q =>
   have h' : 2 * (p.1.1.1 + FP.M * p.1.2.1) + (if p.2 = iA p.1 then 0 else 1) = 2 * (q.1.1.1 + FP.M * q.1.2.1) + (if q.2 = iA q.1 then 0 else 1):=h;have hx : p.1.1.1 + FP.M * p.1.2.1 = q.1.1.1 + FP.M * q.1.2.1 ∧ ((p.2 = iA p.1) ↔ (q.2 = iA q.1)):=by
    by_cases a : p.2 = iA p.1
    ·rw [if_pos a] at h'
     by_cases b : q.2 = iA q.1
     ·rw [if_pos b] at h'; exact ⟨by omega,fun _ => b,fun _ => a⟩
     ·rw [if_neg b] at h'; omega
    ·rw [if_neg a] at h'
     by_cases b : q.2 = iA q.1
     ·rw [if_pos b] at h'; omega
     ·rw [if_neg b] at h'; exact ⟨by omega,fun h => (a h).elim,fun h => (b h).elim⟩
   obtain ⟨e1,e2⟩:=Sn p.1.1.2 q.1.1.2 hx.1;have ex : p.1 = q.1:=Prod.ext (Fin.ext e1) (Fin.ext e2);obtain ⟨px,py⟩:=p;obtain ⟨qx,qy⟩:=q;have ex' : px = qx:=ex;subst ex';have hb : (py = iA px) ↔ (qy = iA px):=hx.2;refine congrArg (fun y => some (px,y)) ?_
   by_cases a : py = iA px
   ·rw [a,← hb.1 a]
   ·have b : qy ≠ iA px:=fun h => a (hb.2 h)
    have hy0 : On F2 oD (some (px,iA px)):=by
     have hex : ∃ y,On F2 oD (some (px,y)):=⟨py,hP⟩
     unfold iA;rw [dif_pos hex];exact hex.choose_spec
    have s1 : F2.add py (iA px) = F2.zero:=AW cM ((show F2.mul py py = _ from hP).trans (show F2.mul (iA px) (iA px) = _ from hy0).symm) a;have s2 : F2.add qy (iA px) = F2.zero:=AW cM ((show F2.mul qy qy = _ from hQ).trans (show F2.mul (iA px) (iA px) = _ from hy0).symm) b;refine F2.add_cancel (a:=iA px) ?_;rw [F2.add_comm,s1,F2.add_comm,s2]
theorem Wz : 2 * (FP.M * FP.M) + 1 < 3 * xG:=of_decide_eq_true (by kernel_rfl)
theorem Wt : xG % 2 = 1:=by kernel_rfl
theorem Xa (P : C2) : ∃ k,P = cM.grp.ns k DZ:=cM.grp.cyclic Wt AJ tZ Wr pU WW LS Wz P
def aEF : Q2:=F2.mul (cP EM) lC
def aEE : Q2:=F2.mul (cP LJ) sA
def Nk : J2:=KU F2 (EM,LJ,F2.one) Xe 508 508
theorem aEG : Nk.2.2 ≠ F2.zero:=of_decide_eq_true (by kernel_rfl)
theorem aEI : Nk.1 = F2.mul aEF (F2.mul Nk.2.2 Nk.2.2):=of_decide_eq_true (by kernel_rfl)
theorem aEH : Nk.2.1 = F2.mul aEE (F2.mul (F2.mul Nk.2.2 Nk.2.2) Nk.2.2):=of_decide_eq_true (by kernel_rfl)
theorem Xn : Rp cM Nk (cM.grp.ns Xe DZ):=CV LR Xe 508 Xd
theorem Ws : SU DZ = cM.grp.ns Xe DZ:=by
 refine Subtype.ext ?_;rw [← show fZ F2 iW Nk = (cM.grp.ns Xe DZ).1 from Xn,Ix cM aEG aEI aEH];show Vb (some (EM,LJ)) = _
 kernel_rfl
def Xh : Nat:=287457105609973705413735949925891179998572849537316190965553840838426151215824331271088064391342496698406609565003641577309581867768536789783043007736333
def twU : Nat:=4377648574367855045624726741130453375770005524880588749457117171343633558474
def twW : Nat:=2626589144620713026904657807846672682105704487528335372401875091607964744325
theorem Xg : Xe = fL + Xh:=by kernel_rfl
theorem Nv : Xh = Vc * 13132945723103565130996952262996368337156300107536646163745009583754801998349:=by kernel_rfl
theorem aCq : Xh * twU = Vc + xG * twW:=by kernel_rfl
theorem Ch : 0 < xG:=of_decide_eq_true (by kernel_rfl)
theorem Jd (P : C2) : cM.grp.ns fL P = SU P ↔ cM.grp.ns Vc P = cM.grp.zero:=by
 obtain ⟨k,rfl⟩:=Xa P;have e1 : SU (cM.grp.ns k DZ) = cM.grp.add (cM.grp.ns fL (cM.grp.ns k DZ)) (cM.grp.ns (k * Xh) DZ):=by
  rw [Ff,Ws,← cM.grp.ns_mul,← cM.grp.ns_mul,← cM.grp.ns_add,Xg,Nat.add_mul,Nat.mul_comm fL,Nat.mul_comm Xh]
 have e2 : cM.grp.ns fL (cM.grp.ns k DZ) = SU (cM.grp.ns k DZ) ↔ cM.grp.ns (k * Xh) DZ = cM.grp.zero:=by
  rw [e1];constructor
  ·intro h;refine cM.grp.cancel (a:=cM.grp.ns fL (cM.grp.ns k DZ)) ?_;rw [← h,cM.grp.addz]
  ·intro h;rw [h,cM.grp.addz]
 rw [e2,← cM.grp.ns_mul,cM.grp.ns_dvd Ch AJ tZ,cM.grp.ns_dvd Ch AJ tZ];constructor
 ·rintro ⟨f,hf⟩
  have h1 : k * Vc + xG * (k * twW) = xG * (f * twU):=by
   have h2 : k * (Xh * twU) = xG * (f * twU):=by rw [← Nat.mul_assoc,hf,Nat.mul_assoc]
   rw [aCq,Nat.mul_add,Nat.mul_left_comm k xG] at h2;exact h2
  have h3 : xG ∣ k * Vc + xG * (k * twW):=⟨_,h1⟩;exact (Nat.dvd_add_left ⟨_,rfl⟩).1 h3
 ·rintro ⟨f,hf⟩
  rw [Nv,← Nat.mul_assoc,hf];exact ⟨f * 13132945723103565130996952262996368337156300107536646163745009583754801998349,Nat.mul_assoc _ _ _⟩
theorem NQ (p : dC) : aT prog (qG prog) (fun _ => ⟨fun s => nF,fun s => true,fun s => bif Nat.beq s 5 then some (.bool false) else none⟩) f31 60 [.v (.fl (cS p))] = some ([aI .eql .i64 (fQ p.1 p.2.1 p.2.2).1 0 = some (.bool false)],.one (.im (.bool false))):=by kernel_rfl
theorem NP (p : dC) : aT prog (qG prog) (fun _ => ⟨fun s => nF,fun s => true,fun s => bif Nat.beq s 5 then some (.bool true) else none⟩) f31 60 [.v (.fl (cS p))] = some ([aI .eql .i64 (fQ p.1 p.2.1 p.2.2).1 0 = some (.bool true),(p.2.2 = false → jI p.1 ∧ jI p.2.1),aB (e2 (gH (Ns p) Go.Proofs.YtfnkbmlmgnadmaaGreat.FR.M (bO Go.Proofs.YtfnkbmlmgnadmaaGreat.FR.M) (bO Go.Proofs.YtfnkbmlmgnadmaaGreat.FR.M)).2.2) = aB (e2 F2.zero)],.one (.im (.bool true))):=by kernel_rfl
theorem NO (p : dC) : aT prog (qG prog) (fun _ => ⟨fun s => nF,fun s => false,fun s => bif Nat.beq s 5 then some (.bool true) else none⟩) f31 60 [.v (.fl (cS p))] = some ([aI .eql .i64 (fQ p.1 p.2.1 p.2.2).1 0 = some (.bool true),(p.2.2 = false → jI p.1 ∧ jI p.2.1),aB (e2 (gH (Ns p) Go.Proofs.YtfnkbmlmgnadmaaGreat.FR.M (bO Go.Proofs.YtfnkbmlmgnadmaaGreat.FR.M) (bO Go.Proofs.YtfnkbmlmgnadmaaGreat.FR.M)).2.2) ≠ aB (e2 F2.zero)],.one (.im (.bool false))):=by kernel_rfl
theorem Sm (p : dC) : kW p = true ↔ ((eT p).1 = 0 ∧ (gH (Ns p) Go.Proofs.YtfnkbmlmgnadmaaGreat.FR.M (bO Go.Proofs.YtfnkbmlmgnadmaaGreat.FR.M) (bO Go.Proofs.YtfnkbmlmgnadmaaGreat.FR.M)).2.2 = F2.zero):=by
 unfold kW;rw [decide_eq_true_iff]
 by_cases h : (eT p).1 = 0
 ·have hr : Rp cM (gH (Ns p) Go.Proofs.YtfnkbmlmgnadmaaGreat.FR.M (bO Go.Proofs.YtfnkbmlmgnadmaaGreat.FR.M) (bO Go.Proofs.YtfnkbmlmgnadmaaGreat.FR.M)) (cM.grp.ns Vc (LL p)):=by
   have:=GS (aAY h) Go.Proofs.YtfnkbmlmgnadmaaGreat.FR.M (bO Go.Proofs.YtfnkbmlmgnadmaaGreat.FR.M) (Nat.le_refl _)
   rwa [Nat.sub_self,Nat.pow_zero,Nat.div_one,Wn] at this
  have h1 : dO p = ((SU (LL p)).1,0):=by
   unfold dO;rw [if_neg (fun q => q h),← QN h];rfl
  have h2 : gI (fun _ => p) (fun _ => fL) 1 = ((cM.grp.ns fL (LL p)).1,0):=by
   rw [Qa,if_neg (fun q => q h),Nq]
  have a1 : (dO p).2 = 0:=by rw [h1]
  have a2 : (dO p).1 = (SU (LL p)).1:=by rw [h1]
  have a3 : (gI (fun _ => p) (fun _ => fL) 1).1 = (cM.grp.ns fL (LL p)).1:=by rw [h2]
  rw [a1,a2,a3];constructor
  ·rintro ⟨_,e⟩
   refine ⟨h,?_⟩;have e2:=(Jd (LL p)).1 (Subtype.ext e);rw [e2] at hr;apply Classical.byContradiction;intro hn;have h3:=dS (K:=F2) (inv:=iW) hn;rw [show fZ F2 iW _ = _ from hr] at h3;cases h3
  ·rintro ⟨_,e⟩
   refine ⟨rfl,?_⟩;have e2 : cM.grp.ns Vc (LL p) = cM.grp.zero:=Subtype.ext ((show fZ F2 iW _ = _ from hr).symm.trans (cU e));exact congrArg Subtype.val ((Jd (LL p)).2 e2)
 ·constructor
  ·rintro ⟨e,_⟩
   have h1 : dO p = (some (F2.zero,F2.zero),(eT p).1):=if_pos h;rw [h1] at e;exact (h e).elim
  ·rintro ⟨e,_⟩
   exact (h e).elim
theorem Py (p : dC) (args : List Value) (w : World) (ha : bH w [.v (.fl (cS p))] args) : Good prog 31 (.one (.im (.bool (kW p)))) args w:=by
 have hi:=Sm p
 by_cases h1 : (eT p).1 = 0
 ·by_cases h2 : (gH (Ns p) Go.Proofs.YtfnkbmlmgnadmaaGreat.FR.M (bO Go.Proofs.YtfnkbmlmgnadmaaGreat.FR.M) (bO Go.Proofs.YtfnkbmlmgnadmaaGreat.FR.M)).2.2 = F2.zero
  ·rw [hi.2 ⟨h1,h2⟩];exact aC aF (fun _ s => kF) (aG prog) func31 (NP p) ⟨Vu h1,Lm h1,by rw [h2],trivial⟩ ha
  ·rw [Bool.eq_false_iff.2 (fun e => h2 (hi.1 e).2)];exact aC aF (fun _ s => kF) (aG prog) func31 (NO p) ⟨Vu h1,Lm h1,cC h2,trivial⟩ ha
 ·rw [Bool.eq_false_iff.2 (fun e => h1 (hi.1 e).1)];exact aC aF (fun _ s => kF) (aG prog) func31 (NQ p) ⟨aDz h1,trivial⟩ ha
def gIc (c : Bool) : gC:=g1 OS fun p => ([kW p = c],.one (.im (.bool c)))
theorem aAv (c : Bool) : ∀ cs pre r,gIc c cs = some (pre,r) → aQ pre → ∀ (args : List Value) (w : World),bH w cs args → Good prog 29 r args w :=
 cG (op:=fun p => ([kW p = c],.one (.im (.bool c)))) fF fun p hp args w ha => by
  have h:=Je p args w ha;rw [show kW p = c from hp.1] at h;exact h
theorem aAt (c : Bool) : ∀ cs pre r,gIc c cs = some (pre,r) → aQ pre → ∀ (args : List Value) (w : World),bH w cs args → Good prog 31 r args w :=
 cG (op:=fun p => ([kW p = c],.one (.im (.bool c)))) fF fun p hp args w ha => by
  have h:=Py p args w ha;rw [show kW p = c from hp.1] at h;exact h
theorem rT {R : Type} (K : CR R) {a b : R} (h : K.sub a b = K.zero) : a = b:=by
 have h1 : K.add (K.add a (K.neg b)) b = b:=by
  rw [show K.add a (K.neg b) = K.zero from h,K.zero_add]
 rw [K.add_assoc,K.neg_add,K.add_zero] at h1;exact h1
theorem XD {R : Type} (K : CR R) (a : R) : K.sub a a = K.zero:=K.add_neg a
set_option maxRecDepth 10000
theorem aCr {R : Type} {K : CR R} (hF : Fld K) {a b : R} (h : K.mul a a = K.mul b b) : a = b ∨ a = K.neg b:=by
 have h1 : K.mul (K.sub a b) (K.add a b) = K.zero:=by
  have : K.mul (K.sub a b) (K.add a b) = K.sub (K.mul a a) (K.mul b b) :=
   aL K (cD K [a,b]) (.mul (.add (.v 0) (.neg (.v 1))) (.add (.v 0) (.v 1))) (.add (.mul (.v 0) (.v 0)) (.neg (.mul (.v 1) (.v 1)))) (by decide)
  rw [this,h,XD]
 by_cases h2 : K.sub a b = K.zero
 ·exact Or.inl (rT K h2)
 ·refine Or.inr ?_;have h3:=hF.zd h1 h2;refine rT K ?_;show K.add a (K.neg (K.neg b)) = K.zero;rw [K.neg_neg];exact h3
theorem Tk : aY 5694840236247301970 7340967054546858659 7931984006246061591 871749566700742666 ∧ aA 5694840236247301970 7340967054546858659 7931984006246061591 871749566700742666 + aA 5694840236247301970 7340967054546858659 7931984006246061591 871749566700742666 = FP.M / 2 + 1:=⟨by unfold aY; decide,by kernel_rfl⟩
theorem ZL {A : Nat} (h : A ^ (FP.M / 2) % FP.M = 1 ∨ A = 0) : A ^ aA 5694840236247301970 7340967054546858659 7931984006246061591 871749566700742666 % FP.M * (A ^ aA 5694840236247301970 7340967054546858659 7931984006246061591 871749566700742666 % FP.M) % FP.M = A % FP.M:=by
 rw [← Nat.mul_mod,← Nat.pow_add,Tk.2,Nat.pow_succ,Nat.mul_mod]
 rcases h with h | h
 ·rw [h,Nat.one_mul,Nat.mod_mod]
 ·subst h; rw [Nat.zero_mod,Nat.mul_zero,Nat.zero_mod]
def UU (x : Fq) : Prop:=∃ V : Fq,F1.mul V V = x
def mV (x : Fq) : Bool:=fY FP.M x.1
theorem hM : FP.M = 21888242871839275222246405745257275088696311157297823662689037894645226208583:=by decide
theorem Hy (x : Fq) : (F1.neg x).1 = (0 + FP.M - x.1) % FP.M:=rfl
theorem tG {x : Fq} (h : x.1 ≠ 0) : (F1.neg x).1 = FP.M - x.1:=by
 have:=x.2;rw [Hy,Nat.zero_add,Nat.mod_eq_of_lt (by omega)]
theorem tI {x : Fq} (h : x.1 ≠ 0) : mV x = true ↔ x.1 ≤ FP.M - x.1:=by
 have:=x.2;unfold mV fY;rw [decide_eq_true_iff,Nat.zero_add,Nat.mod_eq_of_lt (show FP.M - x.1 < FP.M by omega)]
theorem JS : mV F1.zero = true:=by
 unfold mV fY;exact decide_eq_true (Nat.zero_le _)
theorem CN {x : Fq} (h : x.1 = 0) : x = F1.zero:=Fin.ext h
theorem Ik (x : Fq) : mV x = true ∨ mV (F1.neg x) = true:=by
 by_cases h : x.1 = 0
 ·rw [CN h]; exact Or.inl JS
 ·have h2:=x.2;have hn : (F1.neg x).1 ≠ 0:=by rw [tG h]; omega
  rw [tI h,tI hn,tG h];omega
theorem Il {x : Fq} (h : mV x = true) (h' : mV (F1.neg x) = true) : x = F1.zero:=by
 by_cases h0 : x.1 = 0
 ·exact CN h0
 ·have h2:=x.2;have hn : (F1.neg x).1 ≠ 0:=by rw [tG h0]; omega
  rw [tI h0] at h;rw [tI hn,tG h0] at h';have:=hM;omega
theorem UL {x : Fq} (h : mV x = false) : mV (F1.neg x) = true:=(Ik x).resolve_left (by rw [h]; simp)
theorem UT (x : Fq) : UU x ↔ PV FP.M x.1 ≠ -1:=by
 constructor
 ·rintro ⟨V,rfl⟩
  show PV FP.M (V.1 * V.1 % FP.M) ≠ -1;unfold PV
  by_cases h : V.1 = 0
  ·rw [h,Nat.zero_mul,Nat.zero_mod,if_pos rfl]; decide
  ·split
   ·decide
   ·rw [if_pos (Zv QG (by decide) (by omega) V.2)]; decide
 ·intro h;have hs : x.1 ^ (FP.M / 2) % FP.M = 1 ∨ x.1 = 0:=by
   unfold PV at h
   by_cases h0 : x.1 = 0
   ·exact Or.inr h0
   ·rw [if_neg h0] at h
    by_cases h1 : x.1 ^ (FP.M / 2) % FP.M = 1
    ·exact Or.inl h1
    ·rw [if_neg h1] at h; exact absurd rfl h
  refine ⟨⟨x.1 ^ aA 5694840236247301970 7340967054546858659 7931984006246061591 871749566700742666 % FP.M,Nat.mod_lt _ cV⟩,Fin.ext ?_⟩;exact (ZL hs).trans (Nat.mod_eq_of_lt x.2)
theorem Ry (x : Fq) : ¬ UU x ↔ PV FP.M x.1 = -1:=by rw [UT]; exact Decidable.not_not
open Classical in
def Ke (x : Fq) : Fq:=if h : ∃ V : Fq,F1.mul V V = x ∧ mV V = true then Classical.choose h else F1.zero
theorem Kd {x : Fq} (h : UU x) : F1.mul (Ke x) (Ke x) = x ∧ mV (Ke x) = true:=by
 have h' : ∃ V : Fq,F1.mul V V = x ∧ mV V = true:=by
  obtain ⟨V,rfl⟩:=h
  rcases Ik V with l | l
  ·exact ⟨V,rfl,l⟩
  ·exact ⟨F1.neg V,by rw [F1.neg_mul,F1.mul_neg,F1.neg_neg],l⟩
 unfold Ke;rw [dif_pos h'];exact Classical.choose_spec h'
theorem vV {x V : Fq} (h : F1.mul V V = x) (l : mV V = true) : Ke x = V:=by
 obtain ⟨h1,h2⟩:=Kd ⟨V,h⟩
 rcases aCr Kh (h1.trans h.symm) with e | e
 ·exact e
 ·have l':=h2;rw [e] at l';have hz:=Il l l';rw [e,hz,cT]
theorem Kc : Ke F1.zero = F1.zero:=vV (F1.mul_zero _) JS
def aET (r : Q2) : Prop:=(r.2 = F1.zero → mV r.1 = true) ∧ (r.2 ≠ F1.zero → mV r.2 = true)
open Classical in
def rt (x : Q2) : Q2:=if h : ∃ r : Q2,F2.mul r r = x ∧ aET r then Classical.choose h else F2.zero
def hf : Fq:=iO (fm 2)
def rr (x : Q2) (s : Fq) : Q2:=(Ke s,F1.mul (F1.mul x.2 hf) (iO (Ke s)))
end Go.Proofs.YtfnkbmlmgnadmaaGreat.Ex
