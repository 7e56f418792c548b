/- Pp11 -/
import Derived.Test.YtglgakbkdjhojaaGreatPp10
import Derived.Test.YtglgakbkdjhojaaGreatPp08
import Derived.Test.YtglgakbkdjhojaaGreatPp03
import Derived.Test.YtglgakbkdjhojaaGreatPp04
import Derived.Test.YtglgakbkdjhojaaGreatProg
set_option maxRecDepth 100000
set_option linter.unusedVariables false
set_option linter.unusedSimpArgs false
noncomputable section
namespace Go.Proofs.YtglgakbkdjhojaaGreat.Ex
open Go.Proofs.Tryz
section
variable {R S : Type} {K : CR R} {L : CR S}
structure Hm (K : CR R) (L : CR S) (φ : R → S) : Prop where
 add : ∀ a b,φ (K.add a b) = L.add (φ a) (φ b)
 mul : ∀ a b,φ (K.mul a b) = L.mul (φ a) (φ b)
 zero : φ K.zero = L.zero
 one : φ K.one = L.one
def iF (L : CR S) (φ : R → S) (x : S) : Nat → (Nat → R) → S
 | 0,_ => L.zero
 | n + 1,f => L.add (φ (f 0)) (L.mul x (iF L φ x n (tl f)))
variable {φ : R → S} (H : Hm K L φ) (x : S)
include H
theorem PC : ∀ (n : Nat) (f : Nat → R),(∀ i,f i = K.zero) → iF L φ x n f = L.zero
 | 0,_,_ => rfl
 | n + 1,f,h => by
  show L.add (φ (f 0)) (L.mul x (iF L φ x n (tl f))) = _;rw [h 0,H.zero,PC n (tl f) (fun i => h (i + 1)),L.mul_zero,L.add_zero]
theorem CN : ∀ (a n : Nat) (f : Nat → R),(∀ i,a ≤ i → f i = K.zero) → a ≤ n → iF L φ x n f = iF L φ x a f
 | 0,n,f,h,_ => PC H x n f (fun i => h i (Nat.zero_le _))
 | a + 1,0,f,h,hn => absurd hn (by omega)
 | a + 1,n + 1,f,h,hn => by
  show L.add _ (L.mul x (iF L φ x n (tl f))) = L.add _ (L.mul x (iF L φ x a (tl f)));rw [CN a n (tl f) (fun i hi => h (i + 1) (by omega)) (by omega)]
theorem FG : ∀ (n : Nat) (f g : Nat → R),iF L φ x n (QR K f g) = L.add (iF L φ x n f) (iF L φ x n g)
 | 0,_,_ => (L.add_zero _).symm
 | n + 1,f,g => by
  show L.add (φ (K.add (f 0) (g 0))) (L.mul x (iF L φ x n (QR K (tl f) (tl g)))) = L.add (L.add (φ (f 0)) (L.mul x (iF L φ x n (tl f)))) (L.add (φ (g 0)) (L.mul x (iF L φ x n (tl g))));rw [FG n,H.add];exact aE L (aR L [φ (f 0),φ (g 0),x,iF L φ x n (tl f),iF L φ x n (tl g)]) (.add (.add (.v 0) (.v 1)) (.mul (.v 2) (.add (.v 3) (.v 4)))) (.add (.add (.v 0) (.mul (.v 2) (.v 3))) (.add (.v 1) (.mul (.v 2) (.v 4)))) (by kernel_rfl)
theorem Jg : ∀ (n : Nat) (c : R) (f : Nat → R),iF L φ x n (fsc K c f) = L.mul (φ c) (iF L φ x n f)
 | 0,_,_ => (L.mul_zero _).symm
 | n + 1,c,f => by
  show L.add (φ (K.mul c (f 0))) (L.mul x (iF L φ x n (fsc K c (tl f)))) = L.mul (φ c) (L.add (φ (f 0)) (L.mul x (iF L φ x n (tl f))));rw [Jg n,H.mul,L.mul_add,L.mul_left_comm]
theorem XH : ∀ (a : Nat) (f g : Nat → R) (b n : Nat),(∀ i,a ≤ i → f i = K.zero) → (∀ i,b ≤ i → g i = K.zero) → a + b ≤ n → iF L φ x n (CE K f g) = L.mul (iF L φ x a f) (iF L φ x b g)
 | 0,f,g,b,n,hf,hg,hn => by
  have e : f = fze K:=funext fun i => hf i (Nat.zero_le _)
  subst e;rw [PC H x n (CE K (fze K) g) (fun i => RD K i g)];exact (L.zero_mul _).symm
 | a + 1,f,g,b,0,hf,hg,hn => absurd hn (by omega)
 | a + 1,f,g,b,n + 1,hf,hg,hn => by
  have e : tl (CE K f g) = QR K (fsc K (f 0) (tl g)) (CE K (tl f) g):=rfl;show L.add (φ (K.mul (f 0) (g 0))) (L.mul x (iF L φ x n (tl (CE K f g)))) = L.mul (L.add (φ (f 0)) (L.mul x (iF L φ x a (tl f)))) (iF L φ x b g);rw [e,FG H,Jg H,XH a (tl f) g b n (fun i hi => hf (i + 1) (by omega)) hg (by omega),H.mul];have e2 : iF L φ x b g = L.add (φ (g 0)) (L.mul x (iF L φ x n (tl g))):=(CN H x b (n + 1) g hg (by omega)).symm;rw [e2];exact aE L (aR L [φ (f 0),φ (g 0),x,iF L φ x n (tl g),iF L φ x a (tl f)]) (.add (.mul (.v 0) (.v 1)) (.mul (.v 2) (.add (.mul (.v 0) (.v 3)) (.mul (.v 4) (.add (.v 1) (.mul (.v 2) (.v 3))))))) (.mul (.add (.v 0) (.mul (.v 2) (.v 4))) (.add (.v 1) (.mul (.v 2) (.v 3)))) (by kernel_rfl)
omit H in
def oP (L : CR S) (φ : R → S) (x : S) (f : Pol K) : S:=iF L φ x (Classical.choose f.2) f.1
theorem qC (f : Pol K) (n : Nat) (h : ∀ i,n ≤ i → f.1 i = K.zero) : oP L φ x f = iF L φ x n f.1:=by
 have h':=Classical.choose_spec f.2;unfold oP;generalize Classical.choose f.2 = m at h' ⊢;rw [← CN H x m (m + n) f.1 h' (by omega),← CN H x n (m + n) f.1 h (by omega)]
theorem tC (f g : Pol K) : oP L φ x (aV.add f g) = L.add (oP L φ x f) (oP L φ x g):=by
 obtain ⟨a,ha⟩:=f.2;obtain ⟨b,hb⟩:=g.2;rw [qC H x f (a + b) (fun i hi => ha i (by omega)),qC H x g (a + b) (fun i hi => hb i (by omega)),← FG H];exact qC H x (aV.add f g) (a + b) (fun i hi => by show K.add (f.1 i) (g.1 i) = _; rw [ha i (by omega),hb i (by omega),K.add_zero])
theorem qB (f g : Pol K) : oP L φ x (aV.mul f g) = L.mul (oP L φ x f) (oP L φ x g):=by
 obtain ⟨a,ha⟩:=f.2;obtain ⟨b,hb⟩:=g.2;rw [qC H x f a ha,qC H x g b hb,← XH H x a f.1 g.1 b (a + b) ha hb (Nat.le_refl _)];exact qC H x (aV.mul f g) (a + b) (fun i hi => RF K a b f.1 g.1 ha hb i (by omega))
theorem Ea (c : R) : oP L φ x (kH c : Pol K) = φ c:=by
 rw [qC H x (kH c) 1 (fun i hi => by cases i with | zero => omega | succ i => rfl)];show L.add (φ c) (L.mul x L.zero) = _;rw [L.mul_zero,L.add_zero]
theorem aJM : oP L φ x (pX : Pol K) = x:=by
 rw [qC H x pX 2 (fun i hi => by match i,hi with | i + 2,_ => rfl)];show L.add (φ K.zero) (L.mul x (L.add (φ K.one) (L.mul x L.zero))) = _;rw [H.zero,H.one,L.mul_zero,L.add_zero,L.mul_one,L.zero_add]
theorem sB : oP L φ x (aV.zero : Pol K) = L.zero:=by
 rw [qC H x aV.zero 0 (fun i hi => rfl)];rfl
theorem Je : oP L φ x (aV.one : Pol K) = L.one:=(Ea H x K.one).trans H.one
theorem Jf (f : Pol K) : oP L φ x (aV.neg f) = L.neg (oP L φ x f):=by
 have h:=tC H x f (aV.neg f);rw [aV.add_neg,sB H] at h;apply L.add_cancel (a:=oP L φ x f);rw [← h,L.add_neg]
omit H in
def pA (L : CR S) (φ : R → S) (x y : S) (f : Pol K × Pol K) : S:=L.add (oP L φ x f.1) (L.mul y (oP L φ x f.2))
variable (y : S) {b : R}
theorem aAo (f g : Pol K × Pol K) : pA L φ x y ((bY K b).add f g) = L.add (pA L φ x y f) (pA L φ x y g):=by
 show L.add (oP L φ x (aV.add f.1 g.1)) (L.mul y (oP L φ x (aV.add f.2 g.2))) = _;unfold pA;rw [tC H,tC H];exact aE L (aR L [oP L φ x f.1,oP L φ x g.1,y,oP L φ x f.2,oP L φ x g.2]) (.add (.add (.v 0) (.v 1)) (.mul (.v 2) (.add (.v 3) (.v 4)))) (.add (.add (.v 0) (.mul (.v 2) (.v 3))) (.add (.v 1) (.mul (.v 2) (.v 4)))) (by kernel_rfl)
theorem aNa : oP L φ x (qP b : Pol K) = L.add (L.mul x (L.mul x x)) (φ b):=by
 unfold qP;rw [tC H,qB H,qB H,Ea H,aJM H]
theorem aAn (hy : L.mul y y = L.add (L.mul x (L.mul x x)) (φ b)) (f g : Pol K × Pol K) : pA L φ x y ((bY K b).mul f g) = L.mul (pA L φ x y f) (pA L φ x y g):=by
 show L.add (oP L φ x (aV.add (aV.mul f.1 g.1) (aV.mul (qP b) (aV.mul f.2 g.2)))) (L.mul y (oP L φ x (aV.add (aV.mul f.1 g.2) (aV.mul f.2 g.1)))) = _;unfold pA;rw [tC H,tC H,qB H,qB H,qB H,qB H,qB H,aNa H,← hy];exact aE L (aR L [oP L φ x f.1,oP L φ x g.1,y,oP L φ x f.2,oP L φ x g.2]) (.add (.add (.mul (.v 0) (.v 1)) (.mul (.mul (.v 2) (.v 2)) (.mul (.v 3) (.v 4)))) (.mul (.v 2) (.add (.mul (.v 0) (.v 4)) (.mul (.v 3) (.v 1))))) (.mul (.add (.v 0) (.mul (.v 2) (.v 3))) (.add (.v 1) (.mul (.v 2) (.v 4)))) (by kernel_rfl)
theorem aAm (f : Pol K × Pol K) : pA L φ x y ((bY K b).neg f) = L.neg (pA L φ x y f):=by
 show L.add (oP L φ x (aV.neg f.1)) (L.mul y (oP L φ x (aV.neg f.2))) = _;unfold pA;rw [Jf H,Jf H];exact aE L (aR L [oP L φ x f.1,y,oP L φ x f.2]) (.add (.neg (.v 0)) (.mul (.v 1) (.neg (.v 2)))) (.neg (.add (.v 0) (.mul (.v 1) (.v 2)))) (by kernel_rfl)
theorem aAk (f g : Pol K × Pol K) : pA L φ x y ((bY K b).sub f g) = L.sub (pA L φ x y f) (pA L φ x y g):=by
 show pA L φ x y ((bY K b).add f ((bY K b).neg g)) = L.add _ (L.neg _);rw [aAo H,aAm H]
theorem aGT (c : R) : pA L φ x y (cc c : Pol K × Pol K) = φ c:=by
 show L.add (oP L φ x (kH c)) (L.mul y (oP L φ x aV.zero)) = _;rw [Ea H,sB H,L.mul_zero,L.add_zero]
theorem aNc : pA L φ x y (cX : Pol K × Pol K) = x:=by
 show L.add (oP L φ x pX) (L.mul y (oP L φ x aV.zero)) = _;rw [aJM H,sB H,L.mul_zero,L.add_zero]
theorem aNb : pA L φ x y (cY : Pol K × Pol K) = y:=by
 show L.add (oP L φ x aV.zero) (L.mul y (oP L φ x aV.one)) = _;rw [sB H,Je H,L.mul_one,L.zero_add]
theorem aAl : pA L φ x y ((bY K b).one) = L.one:=by
 show L.add (oP L φ x aV.one) (L.mul y (oP L φ x aV.zero)) = _;rw [sB H,Je H,L.mul_zero,L.add_zero]
end
section
variable {A : Type} {K : CR A}
theorem Vj (D : Dom K) {v0 v l m la t s : A} (h : K.mul (K.mul v0 (K.mul (K.mul v l) la)) K.one = K.mul (K.mul (K.mul v0 (K.mul v m)) la) t)
  (h' : K.mul (K.mul v0 (K.mul (K.mul v l) la)) s = K.mul (K.mul (K.mul v0 (K.mul v m)) la) K.one)
  (h0 : v0 ≠ K.zero) (hv : v ≠ K.zero) (hm : m ≠ K.zero) (hla : la ≠ K.zero) : K.mul t s = K.one ∧ l = K.mul t m:=by
 have hb : K.mul (K.mul v0 (K.mul v m)) la ≠ K.zero:=D.2 _ _ (D.2 _ _ h0 (D.2 _ _ hv hm)) hla;refine ⟨?_,?_⟩
 ·rw [K.mul_one] at h;rw [h,K.mul_assoc] at h';exact nG D hb h'
 ·have hk : K.mul (K.mul v0 v) la ≠ K.zero:=D.2 _ _ (D.2 _ _ h0 hv) hla;refine nG D hk ?_;have e1 : K.mul (K.mul (K.mul v0 v) la) l = K.mul (K.mul v0 (K.mul (K.mul v l) la)) K.one:=aE K (aR K [v0,v,la,l]) (.mul (.mul (.mul (.v 0) (.v 1)) (.v 2)) (.v 3)) (.mul (.mul (.v 0) (.mul (.mul (.v 1) (.v 3)) (.v 2))) .one) (by kernel_rfl);have e2 : K.mul (K.mul (K.mul v0 (K.mul v m)) la) t = K.mul (K.mul (K.mul v0 v) la) (K.mul t m):=aE K (aR K [v0,v,la,m,t]) (.mul (.mul (.mul (.v 0) (.mul (.v 1) (.v 3))) (.v 2)) (.v 4)) (.mul (.mul (.mul (.v 0) (.v 1)) (.v 2)) (.mul (.v 4) (.v 3))) (by kernel_rfl);exact e1.trans (h.trans e2)
theorem aRW {w i : A} (h : K.mul w i = K.one) (a : A) : K.mul (K.mul a (K.mul i i)) (K.mul w w) = a :=
 gQ (K:=K) (c1:=K.mul a (K.add (K.mul w i) K.one)) h (aE K (aR K [a,i,w]) (.add (.mul (.mul (.v 0) (.mul (.v 1) (.v 1))) (.mul (.v 2) (.v 2))) (.neg (.v 0))) (.mul (.mul (.v 0) (.add (.mul (.v 2) (.v 1)) .one)) (.add (.mul (.v 2) (.v 1)) (.neg .one))) (by kernel_rfl))
theorem aJz {w i : A} (h : K.mul w i = K.one) (a : A) : K.mul (K.mul a (K.mul (K.mul i i) i)) (K.mul (K.mul w w) w) = a :=
 gQ (K:=K) (c1:=K.mul a (K.add (K.add (K.mul (K.mul w i) (K.mul w i)) (K.mul w i)) K.one)) h (aE K (aR K [a,i,w]) (.add (.mul (.mul (.v 0) (.mul (.mul (.v 1) (.v 1)) (.v 1))) (.mul (.mul (.v 2) (.v 2)) (.v 2))) (.neg (.v 0))) (.mul (.mul (.v 0) (.add (.add (.mul (.mul (.v 2) (.v 1)) (.mul (.v 2) (.v 1))) (.mul (.v 2) (.v 1))) .one)) (.add (.mul (.v 2) (.v 1)) (.neg .one))) (by kernel_rfl))
theorem aRY {a b e q i w3 : A} (h : K.mul b b = K.add (K.mul a (K.mul a a)) e) (h2 : e = K.mul q (K.mul w3 w3)) (h3 : K.mul (K.mul (K.mul i i) i) w3 = K.one) :
  K.mul (K.mul b (K.mul (K.mul i i) i)) (K.mul b (K.mul (K.mul i i) i)) = K.add (K.mul (K.mul a (K.mul i i)) (K.mul (K.mul a (K.mul i i)) (K.mul a (K.mul i i)))) q :=
 ZV (K:=K) (c1:=K.mul (K.mul (K.mul i i) i) (K.mul (K.mul i i) i)) (c2:=K.mul (K.mul (K.mul i i) i) (K.mul (K.mul i i) i)) (c3:=K.mul q (K.add (K.mul (K.mul (K.mul i i) i) w3) K.one)) h h2 h3 (aE K (aR K [a,b,e,q,i,w3])
  (.add (.mul (.mul (.v 1) (.mul (.mul (.v 4) (.v 4)) (.v 4))) (.mul (.v 1) (.mul (.mul (.v 4) (.v 4)) (.v 4)))) (.neg (.add (.mul (.mul (.v 0) (.mul (.v 4) (.v 4))) (.mul (.mul (.v 0) (.mul (.v 4) (.v 4))) (.mul (.v 0) (.mul (.v 4) (.v 4))))) (.v 3))))
  (.add (.add (.mul (.mul (.mul (.mul (.v 4) (.v 4)) (.v 4)) (.mul (.mul (.v 4) (.v 4)) (.v 4))) (.add (.mul (.v 1) (.v 1)) (.neg (.add (.mul (.v 0) (.mul (.v 0) (.v 0))) (.v 2))))) (.mul (.mul (.mul (.mul (.v 4) (.v 4)) (.v 4)) (.mul (.mul (.v 4) (.v 4)) (.v 4))) (.add (.v 2) (.neg (.mul (.v 3) (.mul (.v 5) (.v 5))))))) (.mul (.mul (.v 3) (.add (.mul (.mul (.mul (.v 4) (.v 4)) (.v 4)) (.v 5)) .one)) (.add (.mul (.mul (.mul (.v 4) (.v 4)) (.v 4)) (.v 5)) (.neg .one)))) (by kernel_rfl))
theorem aRX {x y B C M X1 Y1 w2 w : A} (hy : K.mul y (K.mul w2 w) = B) (hx : K.mul x w2 = C) :
  K.mul (K.sub (K.sub y Y1) (K.mul M (K.sub x X1))) (K.mul w2 w) = K.sub B (K.add (K.mul (K.mul M w) C) (K.mul (K.sub Y1 (K.mul M X1)) (K.mul w2 w))) :=
 jU (K:=K) (c1:=K.one) (c2:=K.neg (K.mul M w)) hy hx (aE K (aR K [x,y,B,C,M,X1,Y1,w2,w])
  (.add (.mul (.add (.add (.v 1) (.neg (.v 6))) (.neg (.mul (.v 4) (.add (.v 0) (.neg (.v 5)))))) (.mul (.v 7) (.v 8))) (.neg (.add (.v 2) (.neg (.add (.mul (.mul (.v 4) (.v 8)) (.v 3)) (.mul (.add (.v 6) (.neg (.mul (.v 4) (.v 5)))) (.mul (.v 7) (.v 8))))))))
  (.add (.mul .one (.add (.mul (.v 1) (.mul (.v 7) (.v 8))) (.neg (.v 2)))) (.mul (.neg (.mul (.v 4) (.v 8))) (.add (.mul (.v 0) (.v 7)) (.neg (.v 3))))) (by kernel_rfl))
theorem aRV {x C X1 w2 : A} (hx : K.mul x w2 = C) : K.mul (K.sub x X1) w2 = K.neg (K.sub (K.mul X1 w2) C) :=
 gQ (K:=K) (c1:=K.one) hx (aE K (aR K [x,C,X1,w2]) (.add (.mul (.add (.v 0) (.neg (.v 2))) (.v 3)) (.neg (.neg (.add (.mul (.v 2) (.v 3)) (.neg (.v 1)))))) (.mul .one (.add (.mul (.v 0) (.v 3)) (.neg (.v 1)))) (by kernel_rfl))
end
section
variable {R : Type} {K : CR R} {inv : R → R} {b : R}
theorem aBE (E : EC K inv b) {p q : Pt R} (hp : On K b p) (hq : On K b q) : ∃ c,c ≠ K.zero ∧ Ao K inv b p q = (bY K b).mul (cc c) (Ao K inv b q p):=by
 have D:=jK (K:=K) b E.F;have hu:=kL (bY K b);have hW:=hp.add E hq;have e1:=kQ E hu hp hq;have e2:=kQ E hu hq hp;rw [XO,WP E hq hp] at e2;have f:=e1.symm.trans e2;have n:=kQ E hu hW.neg hW;rw [CM] at n;have k:=(n.symm.trans (f.opP (KR K (gZ K inv p q)))).trans n;obtain ⟨t,_,h1⟩:=k.1 (bY K b).one trivial;obtain ⟨s,_,h2⟩:=k.2 (bY K b).one trivial;have u:=Vj D h1 h2 (uQ E _) (uQ E _) (GI E _ _) (GI E _ _);obtain ⟨c,hc,e⟩:=Ic (b:=b) E.F u.1;refine ⟨c,hc,?_⟩;rw [← e];exact u.2
end
def wI : aN:=lJ wE
theorem aSa : wE ≠ aD.zero:=by decide
theorem NF : aD.mul wE wI = aD.one:=jH aSa
theorem aKW : vO = aD.mul JK wE:=rfl
def px (a : Fq) : aN:=aD.mul (eP a) (aD.mul wI wI)
def py (a : Fq) : aN:=aD.mul (eP a) (aD.mul (aD.mul wI wI) wI)
theorem aTc (a : Fq) : aD.mul (px a) JK = eP a:=aRW NF (eP a)
theorem aWE (a : Fq) : aD.mul (py a) vO = eP a:=aJz NF (eP a)
theorem hmE : Hm F2 aD eQ:=⟨zW,oM,Mo,by decide⟩
theorem aRZ : aD.mul (aD.mul (aD.mul wI wI) wI) vO = aD.one:=by
 have h:=aJz NF aD.one;rw [aD.one_mul] at h;exact h
theorem pxy {a : Fq × Fq} (h : On F1 (fm 3) (some a)) : aD.mul (py a.2) (py a.2) = aD.add (aD.mul (px a.1) (aD.mul (px a.1) (px a.1))) (eQ dF):=by
 have hp : F1.mul a.2 a.2 = F1.add (F1.mul a.1 (F1.mul a.1 a.1)) (fm 3):=h;have hY : aD.mul (eP a.2) (eP a.2) = aD.add (aD.mul (eP a.1) (aD.mul (eP a.1) (eP a.1))) (eP (fm 3)):=by rw [← sM,hp,QY,sM,sM]
 have r:=aRY (K:=aD) (a:=eP a.1) (b:=eP a.2) (e:=eP (fm 3)) (q:=eQ dF) (i:=wI) (w3:=vO) hY Gl.symm aRZ;unfold px py;exact r
def yD (a : Fq × Fq) (f : Pol F2 × Pol F2) : aN:=pA aD eQ (px a.1) (py a.2) f
theorem pU {a : Fq × Fq} (h : On F1 (fm 3) (some a)) (f g : Pol F2 × Pol F2) : yD a ((bY F2 dF).mul f g) = aD.mul (yD a f) (yD a g):=by
 unfold yD;exact aAn hmE (px a.1) (py a.2) (pxy h) f g
theorem yF (a : Fq × Fq) (c : Q2) : yD a (cc c) = eQ c:=by
 unfold yD;exact aGT hmE (px a.1) (py a.2) c
theorem aPB (x y : Q2) : eQ (F2.sub x y) = aD.sub (eQ x) (eQ y):=by
 show eQ (F2.add x (F2.neg y)) = aD.add (eQ x) (aD.neg (eQ y));rw [zW,Fx]
theorem CK (a : Fq × Fq) (f g : Pol F2 × Pol F2) : yD a ((bY F2 dF).sub f g) = aD.sub (yD a f) (yD a g):=by
 unfold yD;exact aAk hmE (px a.1) (py a.2) f g
theorem aJA (a : Fq × Fq) : yD a cX = px a.1:=by
 unfold yD;exact aNc hmE (px a.1) (py a.2)
theorem aSb (a : Fq × Fq) : yD a cY = py a.2:=by
 unfold yD;exact aNb hmE (px a.1) (py a.2)
theorem aEM (a : Fq × Fq) : yD a (bY F2 dF).one = aD.one:=by
 unfold yD;exact aAl hmE (px a.1) (py a.2)
theorem Vg {a : Fq × Fq} (h : On F1 (fm 3) (some a)) (t : Q2 × Q2) (l : Q2) : aD.mul (yD a ((bY F2 dF).sub ((bY F2 dF).sub cY (cc t.2)) ((bY F2 dF).mul (cc l) ((bY F2 dF).sub cX (cc t.1))))) vO = lT l (hgt F2 l t) a.1 a.2:=by
 have r:=aRX (K:=aD) (x:=px a.1) (y:=py a.2) (B:=eP a.2) (C:=eP a.1) (M:=eQ l) (X1:=eQ t.1) (Y1:=eQ t.2) (w2:=JK) (w:=wE) (by rw [← aKW]; exact aWE a.2) (aTc a.1);rw [← aKW] at r;rw [CK,CK,pU h,CK,yF,yF,yF,aJA,aSb,MC,show hgt F2 l t = F2.sub t.2 (F2.mul l t.1) from rfl,aPB,oM];exact r
theorem aEL (a : Fq × Fq) (x : Q2) : aD.mul (yD a ((bY F2 dF).sub cX (cc x))) JK = aD.neg (vP a.1 x):=by
 have r:=aRV (K:=aD) (X1:=eQ x) (aTc a.1);rw [CK,yF,aJA,DW];exact r
theorem aKY : JK ≠ aD.zero:=by decide
theorem aKX : vO ≠ aD.zero:=by decide
theorem aOh : iO JK = aD.one:=xL (by decide) aKY
theorem aVd : cH vO = aD.neg vO:=by decide
theorem aSe : aD.mul (cM (aD.neg aD.one)) (aD.neg aD.one) = aD.one:=by decide
theorem aOg : iO vO = aD.one:=by
 have e : aD.mul (cH vO) (lJ vO) = aD.neg aD.one:=by rw [aVd,aD.neg_mul,jH aKX]
 unfold iO eZ;rw [e,aSe,aCi]
theorem aBz {z w m : aN} (h : aD.mul z w = m) (hm : m ≠ aD.zero) (hw : w ≠ aD.zero) (l : iO w = aD.one) : z ≠ aD.zero ∧ iO z = iO m:=by
 have hz : z ≠ aD.zero:=fun e => hm (by rw [← h,e,aD.zero_mul])
 refine ⟨hz,?_⟩;rw [← h,cV hz hw,l,aD.mul_comm,aD.one_mul]
theorem uR {a : Fq × Fq} (h : On F1 (fm 3) (some a)) : ∀ t : Pt Q2,yD a (ver F2 dF t) ≠ aD.zero ∧ iO (yD a (ver F2 dF t)) = aD.one
 | none => by
  rw [show ver F2 dF none = (bY F2 dF).one from rfl,aEM];exact ⟨jT.1,CY⟩
 | some t => by
  have n:=lQ (x:=t.1) (oK h);have r:=aBz (aEL a t.1) (tI n) aKY aOh;rw [qH n,vC (oK h)] at r;exact r
theorem aBD {a : Fq × Fq} (h : On F1 (fm 3) (some a)) {t t' : Q2 × Q2} (hn : ¬ (t.1 = t'.1 ∧ F2.add t.2 t'.2 = F2.zero)) : yD a (Ao F2 dT dF (some t) (some t')) ≠ aD.zero ∧ iO (yD a (Ao F2 dT dF (some t) (some t'))) = iO (lnT t t' a):=by
 rw [PX hn];have r:=aBz (Vg h t (dD F2 dT t.1 t.2 t'.1 t'.2)) (qZ (gT h)) aKX aOg;rw [oI];exact r
theorem Ez {a : Fq × Fq} (h : On F1 (fm 3) (some a)) {t t' : Q2 × Q2} (hn : t.1 = t'.1 ∧ F2.add t.2 t'.2 = F2.zero) : yD a (Ao F2 dT dF (some t) (some t')) ≠ aD.zero ∧ iO (yD a (Ao F2 dT dF (some t) (some t'))) = aD.one:=by
 rw [PY hn];exact uR h (some t)
theorem zN {a : Fq × Fq} (h : On F1 (fm 3) (some a)) : ∀ t t' : Pt Q2,yD a (Ao F2 dT dF t t') ≠ aD.zero
 | none,t' => (uR h t').1
 | some t,none => (uR h (some t)).1
 | some t,some t' => by
  by_cases hn : t.1 = t'.1 ∧ F2.add t.2 t'.2 = F2.zero
  ·exact (Ez h hn).1
  ·exact (aBD h hn).1
def cv (a : Fq × Fq) (t t' : Pt Q2) : Vq:=lv (yD a (Ao F2 dT dF t t'))
theorem ZP {c : Q2} (h : c ≠ F2.zero) : eQ c ≠ aD.zero:=fun e => h (congrArg (fun z : aN => z.1.1) e)
theorem aUQ (c : Q2) : cH (eQ c) = eQ c:=Prod.ext rfl (by show F6.sub F6.zero F6.zero = F6.zero; decide)
theorem Ew {c : Q2} (h : c ≠ F2.zero) : iO (eQ c) = aD.one:=xL (aUQ c) (ZP h)
theorem aPK {a : Fq × Fq} (h : On F1 (fm 3) (some a)) {p q r : Pt Q2} (hp : On F2 dF p) (hq : On F2 dF q) (hr : On F2 dF r) :
  vg.add (cv a p q) (cv a (gZ F2 dT p q) r) = vg.add (cv a q r) (cv a p (gZ F2 dT q r)):=by
 obtain ⟨c,hc,e⟩:=aUZ aZ hp hq hr;have e:=congrArg (yD a) e;rw [pU h,pU h,pU h,pU h,pU h,yF] at e;have e:=congrArg iO e;have v1:=uR h (gZ F2 dT q r);have v2:=uR h (gZ F2 dT p q);have n1:=zN h p q;have n2:=zN h (gZ F2 dT p q) r;have n3:=zN h q r;have n4:=zN h p (gZ F2 dT q r);rw [cV v1.1 (nA n1 n2),cV n1 n2,cV (ZP hc) (nA v2.1 (nA n3 n4)),cV v2.1 (nA n3 n4),cV n3 n4,v1.2,v2.2,Ew hc,aD.one_mul,aD.one_mul,aD.one_mul] at e;refine Subtype.ext ?_;unfold cv;rw [lD,lD,cU n1,cU n2,cU n3,cU n4];exact e
theorem Mu {a : Fq × Fq} (h : On F1 (fm 3) (some a)) {p q : Pt Q2} (hp : On F2 dF p) (hq : On F2 dF q) : cv a p q = cv a q p:=by
 obtain ⟨c,hc,e⟩:=aBE aZ hp hq;have e:=congrArg (yD a) e;rw [pU h,yF] at e;have e:=congrArg iO e;have n1:=zN h p q;have n2:=zN h q p;rw [cV (ZP hc) n2,Ew hc,aD.one_mul] at e;refine Subtype.ext ?_;unfold cv;rw [cU n1,cU n2];exact e
theorem zK {z : aN} (h : z ≠ aD.zero ∧ iO z = aD.one) : lv z = vg.zero:=by
 refine Subtype.ext ?_;rw [cU h.1,DU];exact h.2
theorem ZT {a : Fq × Fq} (h : On F1 (fm 3) (some a)) (q : Pt Q2) : cv a none q = vg.zero:=zK (uR h q)
theorem aPJ {a : Fq × Fq} (h : On F1 (fm 3) (some a)) : ∀ q : Pt Q2,cv a q (KR F2 q) = vg.zero
 | none => zK (uR h none)
 | some t => by
  unfold cv;rw [Dr];exact zK (Ez (t':=(t.1,F2.neg t.2)) h ⟨rfl,F2.add_neg _⟩)
theorem xV {a : Fq × Fq} (h : On F1 (fm 3) (some a)) {t t' : Q2 × Q2} (hn : ¬ (t.1 = t'.1 ∧ F2.add t.2 t'.2 = F2.zero)) : cv a (some t) (some t') = lv (lnT t t' a):=by
 have r:=aBD h hn;refine Subtype.ext ?_;unfold cv;rw [cU r.1,cU (vD (gT h))];exact r.2
section
variable {R : Type} {K : CR R}
theorem aMb {x y z i j : R} (h1 : (K.mul z i) = K.one) (h2 : (K.mul (K.add (K.mul y z) (K.mul y z)) j) = K.one) : (K.mul (K.mul (K.add (K.add (K.mul x x) (K.mul x x)) (K.mul x x)) j) (K.add (K.mul y (K.mul (K.mul i i) i)) (K.mul y (K.mul (K.mul i i) i)))) = (K.add (K.add (K.mul (K.mul x (K.mul i i)) (K.mul x (K.mul i i))) (K.mul (K.mul x (K.mul i i)) (K.mul x (K.mul i i)))) (K.mul (K.mul x (K.mul i i)) (K.mul x (K.mul i i)))) :=
 jU (K:=K) (c1:=(K.neg (K.mul (K.mul (K.add (K.add (K.mul x x) (K.mul x x)) (K.mul x x)) (K.mul i i)) (K.mul (K.add y y) (K.mul j i))))) (c2:=(K.mul (K.add (K.add (K.mul x x) (K.mul x x)) (K.mul x x)) (K.mul (K.mul i i) (K.mul i i)))) h1 h2 (aE K (aR K [x,y,z,i,j]) (.add (.mul (.mul (.add (.add (.mul (.v 0) (.v 0)) (.mul (.v 0) (.v 0))) (.mul (.v 0) (.v 0))) (.v 4)) (.add (.mul (.v 1) (.mul (.mul (.v 3) (.v 3)) (.v 3))) (.mul (.v 1) (.mul (.mul (.v 3) (.v 3)) (.v 3))))) (.neg (.add (.add (.mul (.mul (.v 0) (.mul (.v 3) (.v 3))) (.mul (.v 0) (.mul (.v 3) (.v 3)))) (.mul (.mul (.v 0) (.mul (.v 3) (.v 3))) (.mul (.v 0) (.mul (.v 3) (.v 3))))) (.mul (.mul (.v 0) (.mul (.v 3) (.v 3))) (.mul (.v 0) (.mul (.v 3) (.v 3))))))) (.add (.mul (.neg (.mul (.mul (.add (.add (.mul (.v 0) (.v 0)) (.mul (.v 0) (.v 0))) (.mul (.v 0) (.v 0))) (.mul (.v 3) (.v 3))) (.mul (.add (.v 1) (.v 1)) (.mul (.v 4) (.v 3))))) (.add (.mul (.v 2) (.v 3)) (.neg .one))) (.mul (.mul (.add (.add (.mul (.v 0) (.v 0)) (.mul (.v 0) (.v 0))) (.mul (.v 0) (.v 0))) (.mul (.mul (.v 3) (.v 3)) (.mul (.v 3) (.v 3)))) (.add (.mul (.add (.mul (.v 1) (.v 2)) (.mul (.v 1) (.v 2))) (.v 4)) (.neg .one)))) (by kernel_rfl))
theorem aSl {x y z i j : R} (h1 : (K.mul z i) = K.one) (h2 : (K.mul (K.add (K.mul y z) (K.mul y z)) j) = K.one) : (K.mul (K.add (K.add (K.mul x x) (K.mul x x)) (K.mul x x)) (K.mul z z)) = (K.mul (K.mul (K.add (K.mul y z) (K.mul y z)) (K.mul z z)) (K.mul (K.add (K.add (K.mul x x) (K.mul x x)) (K.mul x x)) j)) :=
 jU (K:=K) (c1:=K.zero) (c2:=(K.neg (K.mul (K.add (K.add (K.mul x x) (K.mul x x)) (K.mul x x)) (K.mul z z)))) h1 h2 (aE K (aR K [x,y,z,i,j]) (.add (.mul (.add (.add (.mul (.v 0) (.v 0)) (.mul (.v 0) (.v 0))) (.mul (.v 0) (.v 0))) (.mul (.v 2) (.v 2))) (.neg (.mul (.mul (.add (.mul (.v 1) (.v 2)) (.mul (.v 1) (.v 2))) (.mul (.v 2) (.v 2))) (.mul (.add (.add (.mul (.v 0) (.v 0)) (.mul (.v 0) (.v 0))) (.mul (.v 0) (.v 0))) (.v 4))))) (.add (.mul .zero (.add (.mul (.v 2) (.v 3)) (.neg .one))) (.mul (.neg (.mul (.add (.add (.mul (.v 0) (.v 0)) (.mul (.v 0) (.v 0))) (.mul (.v 0) (.v 0))) (.mul (.v 2) (.v 2)))) (.add (.mul (.add (.mul (.v 1) (.v 2)) (.mul (.v 1) (.v 2))) (.v 4)) (.neg .one)))) (by kernel_rfl))
theorem aSm {x y z i j : R} (h1 : (K.mul z i) = K.one) (h2 : (K.mul (K.add (K.mul y z) (K.mul y z)) j) = K.one) : (K.sub (K.mul (K.add (K.add (K.mul x x) (K.mul x x)) (K.mul x x)) x) (K.add (K.mul y y) (K.mul y y))) = (K.mul (K.mul (K.add (K.mul y z) (K.mul y z)) (K.mul z z)) (K.neg (K.sub (K.mul y (K.mul (K.mul i i) i)) (K.mul (K.mul (K.add (K.add (K.mul x x) (K.mul x x)) (K.mul x x)) j) (K.mul x (K.mul i i)))))) :=
 jU (K:=K) (c1:=(K.add (K.neg (K.mul (K.mul (K.add (K.add (K.mul x x) (K.mul x x)) (K.mul x x)) x) (K.add (K.mul z i) K.one))) (K.mul (K.add (K.mul y y) (K.mul y y)) (K.add (K.add (K.mul (K.mul z i) (K.mul z i)) (K.mul z i)) K.one)))) (c2:=(K.neg (K.mul (K.mul (K.add (K.add (K.mul x x) (K.mul x x)) (K.mul x x)) x) (K.mul (K.mul z i) (K.mul z i))))) h1 h2 (aE K (aR K [x,y,z,i,j]) (.add (.add (.mul (.add (.add (.mul (.v 0) (.v 0)) (.mul (.v 0) (.v 0))) (.mul (.v 0) (.v 0))) (.v 0)) (.neg (.add (.mul (.v 1) (.v 1)) (.mul (.v 1) (.v 1))))) (.neg (.mul (.mul (.add (.mul (.v 1) (.v 2)) (.mul (.v 1) (.v 2))) (.mul (.v 2) (.v 2))) (.neg (.add (.mul (.v 1) (.mul (.mul (.v 3) (.v 3)) (.v 3))) (.neg (.mul (.mul (.add (.add (.mul (.v 0) (.v 0)) (.mul (.v 0) (.v 0))) (.mul (.v 0) (.v 0))) (.v 4)) (.mul (.v 0) (.mul (.v 3) (.v 3)))))))))) (.add (.mul (.add (.neg (.mul (.mul (.add (.add (.mul (.v 0) (.v 0)) (.mul (.v 0) (.v 0))) (.mul (.v 0) (.v 0))) (.v 0)) (.add (.mul (.v 2) (.v 3)) .one))) (.mul (.add (.mul (.v 1) (.v 1)) (.mul (.v 1) (.v 1))) (.add (.add (.mul (.mul (.v 2) (.v 3)) (.mul (.v 2) (.v 3))) (.mul (.v 2) (.v 3))) .one))) (.add (.mul (.v 2) (.v 3)) (.neg .one))) (.mul (.neg (.mul (.mul (.add (.add (.mul (.v 0) (.v 0)) (.mul (.v 0) (.v 0))) (.mul (.v 0) (.v 0))) (.v 0)) (.mul (.mul (.v 2) (.v 3)) (.mul (.v 2) (.v 3))))) (.add (.mul (.add (.mul (.v 1) (.v 2)) (.mul (.v 1) (.v 2))) (.v 4)) (.neg .one)))) (by kernel_rfl))
theorem aQe {x y z u v i j : R} (h1 : (K.mul z i) = K.one) (h2 : (K.mul (K.mul z (K.sub (K.mul u (K.mul z z)) x)) j) = K.one) : (K.mul (K.mul (K.sub (K.mul v (K.mul (K.mul z z) z)) y) j) (K.sub u (K.mul x (K.mul i i)))) = (K.sub v (K.mul y (K.mul (K.mul i i) i))) :=
 jU (K:=K) (c1:=(K.add (K.sub (K.neg (K.mul (K.mul (K.mul (K.sub (K.mul v (K.mul (K.mul z z) z)) y) j) u) (K.add (K.mul z i) K.one))) (K.mul (K.mul (K.mul (K.sub (K.mul v (K.mul (K.mul z z) z)) y) j) (K.mul i i)) (K.sub (K.mul u (K.mul z z)) x))) (K.mul v (K.add (K.add (K.mul (K.mul z i) (K.mul z i)) (K.mul z i)) K.one)))) (c2:=(K.mul (K.sub (K.mul v (K.mul (K.mul z z) z)) y) (K.mul (K.mul i i) i))) h1 h2 (aE K (aR K [x,y,z,u,v,i,j]) (.add (.mul (.mul (.add (.mul (.v 4) (.mul (.mul (.v 2) (.v 2)) (.v 2))) (.neg (.v 1))) (.v 6)) (.add (.v 3) (.neg (.mul (.v 0) (.mul (.v 5) (.v 5)))))) (.neg (.add (.v 4) (.neg (.mul (.v 1) (.mul (.mul (.v 5) (.v 5)) (.v 5))))))) (.add (.mul (.add (.add (.neg (.mul (.mul (.mul (.add (.mul (.v 4) (.mul (.mul (.v 2) (.v 2)) (.v 2))) (.neg (.v 1))) (.v 6)) (.v 3)) (.add (.mul (.v 2) (.v 5)) .one))) (.neg (.mul (.mul (.mul (.add (.mul (.v 4) (.mul (.mul (.v 2) (.v 2)) (.v 2))) (.neg (.v 1))) (.v 6)) (.mul (.v 5) (.v 5))) (.add (.mul (.v 3) (.mul (.v 2) (.v 2))) (.neg (.v 0)))))) (.mul (.v 4) (.add (.add (.mul (.mul (.v 2) (.v 5)) (.mul (.v 2) (.v 5))) (.mul (.v 2) (.v 5))) .one))) (.add (.mul (.v 2) (.v 5)) (.neg .one))) (.mul (.mul (.add (.mul (.v 4) (.mul (.mul (.v 2) (.v 2)) (.v 2))) (.neg (.v 1))) (.mul (.mul (.v 5) (.v 5)) (.v 5))) (.add (.mul (.mul (.v 2) (.add (.mul (.v 3) (.mul (.v 2) (.v 2))) (.neg (.v 0)))) (.v 6)) (.neg .one)))) (by kernel_rfl))
theorem aVe {x y z u v i j : R} (h1 : (K.mul z i) = K.one) (h2 : (K.mul (K.mul z (K.sub (K.mul u (K.mul z z)) x)) j) = K.one) : (K.sub (K.mul v (K.mul (K.mul z z) z)) y) = (K.mul (K.mul z (K.sub (K.mul u (K.mul z z)) x)) (K.mul (K.sub (K.mul v (K.mul (K.mul z z) z)) y) j)) :=
 jU (K:=K) (c1:=K.zero) (c2:=(K.neg (K.sub (K.mul v (K.mul (K.mul z z) z)) y))) h1 h2 (aE K (aR K [x,y,z,u,v,i,j]) (.add (.add (.mul (.v 4) (.mul (.mul (.v 2) (.v 2)) (.v 2))) (.neg (.v 1))) (.neg (.mul (.mul (.v 2) (.add (.mul (.v 3) (.mul (.v 2) (.v 2))) (.neg (.v 0)))) (.mul (.add (.mul (.v 4) (.mul (.mul (.v 2) (.v 2)) (.v 2))) (.neg (.v 1))) (.v 6))))) (.add (.mul .zero (.add (.mul (.v 2) (.v 5)) (.neg .one))) (.mul (.neg (.add (.mul (.v 4) (.mul (.mul (.v 2) (.v 2)) (.v 2))) (.neg (.v 1)))) (.add (.mul (.mul (.v 2) (.add (.mul (.v 3) (.mul (.v 2) (.v 2))) (.neg (.v 0)))) (.v 6)) (.neg .one)))) (by kernel_rfl))
theorem aVf {x y z u v i j : R} (h1 : (K.mul z i) = K.one) (h2 : (K.mul (K.mul z (K.sub (K.mul u (K.mul z z)) x)) j) = K.one) : (K.sub (K.mul (K.sub (K.mul v (K.mul (K.mul z z) z)) y) u) (K.mul (K.mul z (K.sub (K.mul u (K.mul z z)) x)) v)) = (K.mul (K.mul z (K.sub (K.mul u (K.mul z z)) x)) (K.neg (K.sub (K.mul y (K.mul (K.mul i i) i)) (K.mul (K.mul (K.sub (K.mul v (K.mul (K.mul z z) z)) y) j) (K.mul x (K.mul i i)))))) :=
 jU (K:=K) (c1:=(K.sub (K.sub (K.mul (K.mul u y) (K.add (K.add (K.mul (K.mul z i) (K.mul z i)) (K.mul z i)) K.one)) (K.mul (K.mul (K.mul v x) z) (K.add (K.mul z i) K.one))) (K.mul (K.mul x y) (K.mul i i)))) (c2:=(K.neg (K.mul (K.mul (K.sub (K.mul v (K.mul (K.mul z z) z)) y) x) (K.mul i i)))) h1 h2 (aE K (aR K [x,y,z,u,v,i,j]) (.add (.add (.mul (.add (.mul (.v 4) (.mul (.mul (.v 2) (.v 2)) (.v 2))) (.neg (.v 1))) (.v 3)) (.neg (.mul (.mul (.v 2) (.add (.mul (.v 3) (.mul (.v 2) (.v 2))) (.neg (.v 0)))) (.v 4)))) (.neg (.mul (.mul (.v 2) (.add (.mul (.v 3) (.mul (.v 2) (.v 2))) (.neg (.v 0)))) (.neg (.add (.mul (.v 1) (.mul (.mul (.v 5) (.v 5)) (.v 5))) (.neg (.mul (.mul (.add (.mul (.v 4) (.mul (.mul (.v 2) (.v 2)) (.v 2))) (.neg (.v 1))) (.v 6)) (.mul (.v 0) (.mul (.v 5) (.v 5)))))))))) (.add (.mul (.add (.add (.mul (.mul (.v 3) (.v 1)) (.add (.add (.mul (.mul (.v 2) (.v 5)) (.mul (.v 2) (.v 5))) (.mul (.v 2) (.v 5))) .one)) (.neg (.mul (.mul (.mul (.v 4) (.v 0)) (.v 2)) (.add (.mul (.v 2) (.v 5)) .one)))) (.neg (.mul (.mul (.v 0) (.v 1)) (.mul (.v 5) (.v 5))))) (.add (.mul (.v 2) (.v 5)) (.neg .one))) (.mul (.neg (.mul (.mul (.add (.mul (.v 4) (.mul (.mul (.v 2) (.v 2)) (.v 2))) (.neg (.v 1))) (.v 0)) (.mul (.v 5) (.v 5)))) (.add (.mul (.mul (.v 2) (.add (.mul (.v 3) (.mul (.v 2) (.v 2))) (.neg (.v 0)))) (.v 6)) (.neg .one)))) (by kernel_rfl))
theorem aKK {x z i : R} (h1 : (K.mul z i) = K.one) : (K.mul (K.mul x (K.mul i i)) (K.mul z z)) = x :=
 gQ (K:=K) (c1:=(K.mul x (K.add (K.mul z i) K.one))) h1 (aE K (aR K [x,z,i]) (.add (.mul (.mul (.v 0) (.mul (.v 2) (.v 2))) (.mul (.v 1) (.v 1))) (.neg (.v 0))) (.mul (.mul (.v 0) (.add (.mul (.v 1) (.v 2)) .one)) (.add (.mul (.v 1) (.v 2)) (.neg .one))) (by kernel_rfl))
end
def Up (F S H : Q2) (a : Fq × Fq) : aN:=((F2.mul F (i2 a.2),F2.zero,F2.zero),(F2.mul S (i2 (F1.neg a.1)),H,F2.zero))
theorem aOx (a : Fq) : i2 (F1.neg a) = F2.neg (i2 a):=Prod.ext rfl (bK F1).symm
theorem aOj {F S H m d : Q2} (hS : S = F2.mul F m) (hH : H = F2.mul F (F2.neg d)) (a : Fq × Fq) : Up F S H a = aD.mul (eQ F) (lT m d a.1 a.2):=by
 rw [nY];unfold Up eQ lT;simp only [z6e,F2.mul_zero,F2.zero_mul,F2.add_zero,F2.zero_add,aOx,hS,hH,F2.mul_neg,F2.mul_assoc]
theorem aBB {a : Fq × Fq} (h : On F1 (fm 3) (some a)) {F S H m d : Q2} (hF : F ≠ F2.zero) (hS : S = F2.mul F m) (hH : H = F2.mul F (F2.neg d)) : Up F S H a ≠ aD.zero ∧ lv (Up F S H a) = lv (lT m d a.1 a.2):=by
 rw [aOj hS hH];have n:=nA (ZP hF) (qZ (m:=m) (d:=d) (a:=a.1) (gT h));refine ⟨n,Subtype.ext ?_⟩;rw [cU n,cU (qZ (gT h)),cV (ZP hF) (qZ (gT h)),Ew hF,aD.one_mul]
def tF (x y z : Q2) : Q2:=F2.mul (F2.add (F2.mul y z) (F2.mul y z)) (F2.mul z z)
def tS (x y z : Q2) : Q2:=F2.mul (F2.add (F2.add (F2.mul x x) (F2.mul x x)) (F2.mul x x)) (F2.mul z z)
def tH (x y z : Q2) : Q2:=F2.sub (F2.mul (F2.add (F2.add (F2.mul x x) (F2.mul x x)) (F2.mul x x)) x) (F2.add (F2.mul y y) (F2.mul y y))
theorem aMc {a : Fq × Fq} (h : On F1 (fm 3) (some a)) {x y z : Q2} (hz : z ≠ F2.zero) (hp : On F2 dF (fT F2 dT (x,y,z))) :
  Up (tF x y z) (tS x y z) (tH x y z) a ≠ aD.zero ∧ lv (Up (tF x y z) (tS x y z) (tH x y z) a) = cv a (fT F2 dT (x,y,z)) (fT F2 dT (x,y,z)):=by
 have e:=dR (K:=F2) (inv:=dT) (p:=(x,y,z)) hz;rw [e] at hp ⊢;dsimp only at hp ⊢;have hi : F2.mul z (dT z) = F2.one:=aZ.F.inv z hz;generalize dT z = i at hi hp ⊢;have hY:=lL hp;dsimp only at hY;have hYY:=aZ.dbl_ne hY;have hy : y ≠ F2.zero:=fun e => hY (by rw [e,F2.zero_mul])
 have hN : F2.add (F2.mul y z) (F2.mul y z) ≠ F2.zero:=aZ.dbl_ne (aZ.F.mul_ne hy hz);have hj : F2.mul (F2.add (F2.mul y z) (F2.mul y z)) (dT (F2.add (F2.mul y z) (F2.mul y z))) = F2.one:=aZ.F.inv _ hN;generalize dT (F2.add (F2.mul y z) (F2.mul y z)) = j at hj;have hs:=yL aZ hYY (aMb (x:=x) hi hj);rw [xV h (fun q => hYY q.2),oI];dsimp only;rw [hs];exact aBB h (aZ.F.mul_ne hN (aZ.F.mul_ne hz hz)) (aSl hi hj) (aSm hi hj)
def rE (x z u : Q2) : Q2:=F2.sub (F2.mul u (F2.mul z z)) x
def sR (y z v : Q2) : Q2:=F2.sub (F2.mul v (F2.mul (F2.mul z z) z)) y
def Uq (x z u : Q2) : Q2:=F2.mul z (rE x z u)
theorem aQf {a : Fq × Fq} (h : On F1 (fm 3) (some a)) {x y z u v : Q2} (hz : z ≠ F2.zero) (hp : On F2 dF (fT F2 dT (x,y,z))) (hq : On F2 dF (some (u,v))) (hA : rE x z u ≠ F2.zero) :
  Up (Uq x z u) (sR y z v) (F2.sub (F2.mul (sR y z v) u) (F2.mul (Uq x z u) v)) a ≠ aD.zero ∧ lv (Up (Uq x z u) (sR y z v) (F2.sub (F2.mul (sR y z v) u) (F2.mul (Uq x z u) v)) a) = cv a (fT F2 dT (x,y,z)) (some (u,v)):=by
 have e:=dR (K:=F2) (inv:=dT) (p:=(x,y,z)) hz;rw [e] at hp ⊢;dsimp only at hp ⊢;have hi : F2.mul z (dT z) = F2.one:=aZ.F.inv z hz;generalize dT z = i at hi hp ⊢;have hN : Uq x z u ≠ F2.zero:=aZ.F.mul_ne hz hA;have hj : F2.mul (Uq x z u) (dT (Uq x z u)) = F2.one:=aZ.F.inv _ hN;generalize dT (Uq x z u) = j at hj;have hx : F2.mul x (F2.mul i i) ≠ u:=fun q => hA (by
  unfold rE;rw [← q,aKK hi];exact F2.add_neg x)
 have hs:=rP aZ hx (aQe (y:=y) (v:=v) hi hj);rw [xV h (fun q => hx q.1),oI];dsimp only;rw [hs];exact aBB h hN (aVe hi hj) (aVf hi hj)
structure GHom {G G' : Type} (A : AG G) (A' : AG G') (f : G → G') : Prop where
 add : ∀ x y,f (A.add x y) = A'.add (f x) (f y)
section
variable {G G' : Type} {A : AG G} {A' : AG G'} {f : G → G'}
theorem GHom.zero (h : GHom A A' f) : f A.zero = A'.zero:=by
 apply A'.cancel (a:=f A.zero);rw [← h.add,A.zadd,A'.addz]
theorem GHom.neg (h : GHom A A' f) (x : G) : f (A.neg x) = A'.neg (f x):=by
 apply A'.cancel (a:=f x);rw [← h.add,A.addn,A'.addn,h.zero]
theorem GHom.ns (h : GHom A A' f) (x : G) : ∀ n,f (A.ns n x) = A'.ns n (f x)
 | 0 => h.zero
 | n + 1 => by
  show f (A.add (A.ns n x) x) = A'.add (A'.ns n (f x)) (f x);rw [h.add,h.ns x n]
def tot (A : AG G) (s : Nat) (a b c : G) : G:=A.add (A.add (A.ns s a) b) (A.neg c)
theorem GHom.tot (h : GHom A A' f) (s : Nat) (a b c : G) : f (tot A s a b c) = Ex.tot A' s (f a) (f b) (f c):=by
 unfold Ex.tot;rw [h.add,h.add,h.ns,h.neg]
theorem NO (s : Nat) (a b c a' b' c' : G) : tot A s (A.add a a') (A.add b b') (A.add c c') = A.add (tot A s a b c) (tot A s a' b' c'):=by
 unfold tot;rw [A.ns_sum,A.neg_add,A.add4 (A.ns s a),A.add4 (A.add (A.ns s a) b)]
end
section
variable {G V : Type}
structure Cyc (A : AG G) (B : AG V) (c : G → G → V) : Prop where
 coc : ∀ g h k,B.add (c g h) (c (A.add g h) k) = B.add (c h k) (c g (A.add h k))
 comm : ∀ g h,c g h = c h g
 zl : ∀ g,c A.zero g = B.zero
 opp : ∀ g,c g (A.neg g) = B.zero
variable {A : AG G} {B : AG V} {c : G → G → V}
theorem Cyc.zr (C : Cyc A B c) (g : G) : c g A.zero = B.zero:=by rw [C.comm,C.zl]
def mD (C : Cyc A B c) : AG (G × V) where
 add x y:=(A.add x.1 y.1,B.add (B.add x.2 y.2) (c x.1 y.1))
 neg x:=(A.neg x.1,B.neg x.2)
 zero:=(A.zero,B.zero)
 assoc x y z:=by
  refine Prod.ext (A.assoc _ _ _) ?_
  haveI : Std.Associative B.add:=⟨B.assoc⟩
  haveI : Std.Commutative B.add:=⟨B.comm⟩
  show B.add (B.add (B.add (B.add x.2 y.2) (c x.1 y.1)) z.2) (c (A.add x.1 y.1) z.1) = B.add (B.add x.2 (B.add (B.add y.2 z.2) (c y.1 z.1))) (c x.1 (A.add y.1 z.1));have e1 : B.add (B.add (B.add (B.add x.2 y.2) (c x.1 y.1)) z.2) (c (A.add x.1 y.1) z.1) = B.add (B.add (B.add x.2 y.2) z.2) (B.add (c x.1 y.1) (c (A.add x.1 y.1) z.1)):=by ac_rfl
  rw [e1,C.coc]
  ac_rfl
 comm x y:=Prod.ext (A.comm _ _) (by
  show B.add (B.add x.2 y.2) (c x.1 y.1) = B.add (B.add y.2 x.2) (c y.1 x.1);rw [B.comm x.2,C.comm])
 zadd x:=Prod.ext (A.zadd _) (by
  show B.add (B.add B.zero x.2) (c A.zero x.1) = x.2;rw [B.zadd,C.zl,B.addz])
 nadd x:=Prod.ext (A.nadd _) (by
  show B.add (B.add (B.neg x.2) x.2) (c (A.neg x.1) x.1) = B.zero;rw [B.nadd,C.comm,C.opp,B.zadd])
def eB (B : AG V) (g : G) : G × V:=(g,B.zero)
def iB (A : AG G) (v : V) : G × V:=(A.zero,v)
theorem aCc (C : Cyc A B c) : GHom B (mD C) (iB A):=⟨fun x y => Prod.ext (A.zadd _).symm (by
 show B.add x y = B.add (B.add x y) (c A.zero A.zero);rw [C.zl,B.addz])⟩
theorem Lw (C : Cyc A B c) : GHom (mD C) A Prod.fst:=⟨fun _ _ => rfl⟩
theorem aDa (C : Cyc A B c) (g : G) (v : V) : (g,v) = (mD C).add (eB B g) (iB A v):=Prod.ext (A.addz _).symm (by
 show v = B.add (B.add B.zero v) (c g A.zero);rw [C.zr,B.zadd,B.addz])
theorem Fy (C : Cyc A B c) (g h : G) : (mD C).add (eB B g) (eB B h) = (mD C).add (eB B (A.add g h)) (iB A (c g h)):=by
 rw [← aDa];refine Prod.ext rfl ?_;show B.add (B.add B.zero B.zero) (c g h) = c g h;rw [B.zadd,B.zadd]
def fin (C : Cyc A B c) (s : Nat) (ψ : G → G) (Q : G) : G × V:=tot (mD C) s (eB B Q) (eB B (ψ Q)) (eB B (ψ (ψ Q)))
theorem Me (C : Cyc A B c) (s : Nat) (ψ : G → G) (Q : G) : (fin C s ψ Q).1 = tot A s Q (ψ Q) (ψ (ψ Q)):=(Lw C).tot s _ _ _
theorem NN {s : Nat} {x y z w : V} (h : B.add (B.add (B.ns s x) y) w = z) : tot B s x y z = B.neg w:=by
 unfold tot;rw [← h,B.neg_add,← B.assoc,B.addn,B.zadd]
theorem aCU {X Y n z : V} (h : B.add X n = B.add (B.add Y n) z) (hz : z = B.zero) : X = Y:=by
 rw [hz,B.addz,B.comm X,B.comm Y] at h;exact B.cancel h
theorem To (C : Cyc A B c) {s : Nat} {ψ : G → G} {φ : V → V} (hψ : GHom A A ψ) (hc : ∀ g h,c (ψ g) (ψ h) = φ (c g h)) (hn : ∀ g h,c (A.neg g) (A.neg h) = B.neg (c g h)) {Q Q' : G}
  (hv : B.add (B.add (B.ns s (c Q Q')) (φ (c Q Q'))) (φ (φ (φ (c Q Q')))) = φ (φ (c Q Q')))
  (h1 : tot A s Q (ψ Q) (ψ (ψ Q)) = A.neg (ψ (ψ (ψ Q)))) (h2 : tot A s Q' (ψ Q') (ψ (ψ Q')) = A.neg (ψ (ψ (ψ Q')))) :
  B.add (fin C s ψ Q).2 (fin C s ψ Q').2 = (fin C s ψ (A.add Q Q')).2:=by
 have k0:=Fy C Q Q';have k1:=Fy C (ψ Q) (ψ Q');have k2:=Fy C (ψ (ψ Q)) (ψ (ψ Q'));rw [← hψ.add,hc] at k1;rw [← hψ.add,← hψ.add,hc,hc] at k2;have k : (mD C).add (fin C s ψ Q) (fin C s ψ Q') = (mD C).add (fin C s ψ (A.add Q Q')) (iB A (tot B s (c Q Q') (φ (c Q Q')) (φ (φ (c Q Q'))))):=by
  rw [(aCc C).tot];unfold fin;rw [← NO,k0,k1,k2,NO]
 rw [NN hv] at k;have e:=congrArg Prod.snd k;have e : B.add (B.add (fin C s ψ Q).2 (fin C s ψ Q').2) (c (fin C s ψ Q).1 (fin C s ψ Q').1) = B.add (B.add (fin C s ψ (A.add Q Q')).2 (B.neg (φ (φ (φ (c Q Q')))))) (c (fin C s ψ (A.add Q Q')).1 A.zero):=e;rw [Me,Me,h1,h2,hn,hc,hc,hc] at e;exact aCU e (C.zr _)
def lU {W : Type} (B : AG V) (B' : AG W) : AG (V × W) where
 add x y:=(B.add x.1 y.1,B'.add x.2 y.2)
 neg x:=(B.neg x.1,B'.neg x.2)
 zero:=(B.zero,B'.zero)
 assoc x y z:=Prod.ext (B.assoc _ _ _) (B'.assoc _ _ _)
 comm x y:=Prod.ext (B.comm _ _) (B'.comm _ _)
 zadd x:=Prod.ext (B.zadd _) (B'.zadd _)
 nadd x:=Prod.ext (B.nadd _) (B'.nadd _)
theorem Cyc.two {c1 c2 : G → G → V} (C1 : Cyc A B c1) (C2 : Cyc A B c2) : Cyc A (lU B B) (fun g h => (c1 g h,c2 g h)) where
 coc g h k:=Prod.ext (C1.coc g h k) (C2.coc g h k)
 comm g h:=Prod.ext (C1.comm g h) (C2.comm g h)
 zl g:=Prod.ext (C1.zl g) (C2.zl g)
 opp g:=Prod.ext (C1.opp g) (C2.opp g)
theorem Tp {c1 c2 c3 : G → G → V} (C1 : Cyc A B c1) (C2 : Cyc A B c2) (C3 : Cyc A B c3) {h : G → V} (hh : ∀ g k,B.add (B.add (c1 g k) (c2 g k)) (h (A.add g k)) = B.add (c3 g k) (B.add (h g) (h k)))
  {s : Nat} {ψ : G → G} {φ : V → V} (hψ : ∀ g,h (ψ g) = φ (h g)) (hn : ∀ g,h (A.neg g) = B.neg (h g)) {Q : G}
  (hv : B.add (B.add (B.ns s (h Q)) (φ (h Q))) (φ (φ (φ (h Q)))) = φ (φ (h Q)))
  (h1 : tot A s Q (ψ Q) (ψ (ψ Q)) = A.neg (ψ (ψ (ψ Q)))) :
  B.add (fin C1 s ψ Q).2 (fin C2 s ψ Q).2 = (fin C3 s ψ Q).2:=by
 have f1 : GHom (mD (C1.two C2)) (mD C1) (fun x => (x.1,x.2.1)):=⟨fun _ _ => rfl⟩;have f2 : GHom (mD (C1.two C2)) (mD C2) (fun x => (x.1,x.2.2)):=⟨fun _ _ => rfl⟩;have f3 : GHom (mD (C1.two C2)) (mD C3) (fun x => (x.1,B.add (B.add x.2.1 x.2.2) (h x.1))):=⟨fun x y => Prod.ext rfl (by
  show B.add (B.add (B.add (B.add x.2.1 y.2.1) (c1 x.1 y.1)) (B.add (B.add x.2.2 y.2.2) (c2 x.1 y.1))) (h (A.add x.1 y.1)) = B.add (B.add (B.add (B.add x.2.1 x.2.2) (h x.1)) (B.add (B.add y.2.1 y.2.2) (h y.1))) (c3 x.1 y.1)
  haveI : Std.Associative B.add:=⟨B.assoc⟩
  haveI : Std.Commutative B.add:=⟨B.comm⟩
  have e1 : B.add (B.add (B.add (B.add x.2.1 y.2.1) (c1 x.1 y.1)) (B.add (B.add x.2.2 y.2.2) (c2 x.1 y.1))) (h (A.add x.1 y.1)) = B.add (B.add (B.add x.2.1 y.2.1) (B.add x.2.2 y.2.2)) (B.add (B.add (c1 x.1 y.1) (c2 x.1 y.1)) (h (A.add x.1 y.1))):=by ac_rfl
  rw [e1,hh]
  ac_rfl)⟩
 have t1:=f1.tot s (eB (lU B B) Q) (eB (lU B B) (ψ Q)) (eB (lU B B) (ψ (ψ Q)));have t2:=f2.tot s (eB (lU B B) Q) (eB (lU B B) (ψ Q)) (eB (lU B B) (ψ (ψ Q)));have t3:=f3.tot s (eB (lU B B) Q) (eB (lU B B) (ψ Q)) (eB (lU B B) (ψ (ψ Q)));have t0:=(Lw (C1.two C2)).tot s (eB (lU B B) Q) (eB (lU B B) (ψ Q)) (eB (lU B B) (ψ (ψ Q)));generalize tot (mD (C1.two C2)) s (eB (lU B B) Q) (eB (lU B B) (ψ Q)) (eB (lU B B) (ψ (ψ Q))) = T at t0 t1 t2 t3;have t1 : (T.1,T.2.1) = fin C1 s ψ Q:=t1;have t2 : (T.1,T.2.2) = fin C2 s ψ Q:=t2;have t0 : T.1 = tot A s Q (ψ Q) (ψ (ψ Q)):=t0;have hz : ∀ g : G,((g,B.add (B.add B.zero B.zero) (h g)) : G × V) = (mD C3).add (eB B g) (iB A (h g)):=fun g => by
  rw [B.zadd,B.zadd];exact aDa C3 g (h g)
 have t3 : (T.1,B.add (B.add T.2.1 T.2.2) (h T.1)) = tot (mD C3) s (Q,B.add (B.add B.zero B.zero) (h Q)) (ψ Q,B.add (B.add B.zero B.zero) (h (ψ Q))) (ψ (ψ Q),B.add (B.add B.zero B.zero) (h (ψ (ψ Q)))):=t3;rw [hz,hz,hz,NO,← (aCc C3).tot,hψ (ψ Q),hψ Q,NN hv] at t3;have e:=congrArg Prod.snd t3;have e : B.add (B.add T.2.1 T.2.2) (h T.1) = B.add (B.add (fin C3 s ψ Q).2 (B.neg (φ (φ (φ (h Q)))))) (c3 (fin C3 s ψ Q).1 A.zero):=e;rw [t0,h1,hn,hψ,hψ,hψ] at e;rw [← t1,← t2];exact aCU e (C3.zr _)
theorem aFh (C : Cyc A B c) (Q : G) (d : Int) (T : G) (F : V) : Uo (mD C) (eB B Q) d (T,F) = (Uo A Q d T,stF A B c Q d F T):=by
 unfold Uo stF
 by_cases h1 : d = 1
 ·rw [if_pos h1,if_pos h1,if_pos h1];refine Prod.ext rfl ?_;show B.add (B.add (B.add (B.add F F) (c T T)) B.zero) (c (A.add T T) Q) = _;rw [B.addz]
 ·rw [if_neg h1,if_neg h1,if_neg h1]
  by_cases h2 : d = -1
  ·rw [if_pos h2,if_pos h2,if_pos h2];refine Prod.ext rfl ?_;show B.add (B.add (B.add (B.add F F) (c T T)) (B.neg B.zero)) (c (A.add T T) (A.neg Q)) = _;rw [B.negz,B.addz]
  ·rw [if_neg h2,if_neg h2,if_neg h2];rfl
theorem Io (C : Cyc A B c) (Q : G) : ∀ (ds : List Int) (T : G) (F : V),yR (mD C) (eB B Q) ds (T,F) = (yR A Q ds T,Yq A B c Q ds F T)
 | [],_,_ => rfl
 | d :: ds,T,F => by
  show yR (mD C) (eB B Q) ds (Uo (mD C) (eB B Q) d (T,F)) = _;rw [aFh,Io C Q ds];rfl
def hdg : List Int → Int → Int
 | [],n => n
 | d :: ds,n => hdg ds (n + n + (if d = 1 then 1 else if d = -1 then -1 else 0))
theorem aRR (A : AG G) (Q : G) : A.zs 1 Q = Q:=A.zadd Q
theorem aRQ (A : AG G) (Q : G) : A.zs (-1) Q = A.neg Q:=congrArg A.neg (A.zadd Q)
theorem aWc (A : AG G) (Q : G) : A.zs 0 Q = A.zero:=rfl
theorem Xa (A : AG G) (Q : G) : ∀ (ds : List Int) (n : Int),yR A Q ds (A.zs n Q) = A.zs (hdg ds n) Q
 | [],_ => rfl
 | d :: ds,n => by
  show yR A Q ds (Uo A Q d (A.zs n Q)) = A.zs (hdg ds _) Q;rw [← Xa A Q ds];congr 1;unfold Uo
  by_cases h1 : d = 1
  ·rw [if_pos h1,if_pos h1,A.zs_add,A.zs_add,aRR]
  ·rw [if_neg h1,if_neg h1]
   by_cases h2 : d = -1
   ·rw [if_pos h2,if_pos h2,A.zs_add,A.zs_add,aRQ]
   ·rw [if_neg h2,if_neg h2,A.zs_add,A.zs_add,aWc,A.addz]
theorem aMG (A : AG G) (Q : G) {ds : List Int} {s : Nat} (h : hdg ds 1 = s) : yR A Q ds Q = A.ns s Q:=by
 have r:=Xa A Q ds 1;rw [aRR,h] at r;exact r
theorem aFY (C : Cyc A B c) (Q : G) {ds : List Int} {s : Nat} (h : hdg ds 1 = s) (ψ : G → G) :
  fin C s ψ Q = (A.add (A.add (yR A Q ds Q) (ψ Q)) (A.neg (ψ (ψ Q))),B.add (B.add (Yq A B c Q ds B.zero Q) (c (yR A Q ds Q) (ψ Q))) (c (A.add (yR A Q ds Q) (ψ Q)) (A.neg (ψ (ψ Q))))):=by
 have r:=aMG (mD C) (eB B Q) h;have e:=Io C Q ds Q B.zero;have e : yR (mD C) (eB B Q) ds (eB B Q) = _:=e;rw [r] at e;unfold fin tot;rw [e];refine Prod.ext rfl ?_;show B.add (B.add (B.add (B.add _ B.zero) _) (B.neg B.zero)) _ = _;rw [B.addz,B.negz,B.addz];rfl
end
open Go.RowKit
def iZ : Q2:=(⟨21575463638280843010398324269430826099269044274347216827212613867836435027261,by decide⟩,⟨10307601595873709700152284273816112264069230130616436755625194854815875713954,by decide⟩)
def nC : Q2:=(⟨2821565182194536844548159561693502659359617185244120367078079554186484126554,by decide⟩,⟨3505843767911556378687030309984248845540243509899259641013678093033130930403,by decide⟩)
def Aq : Q2:=(⟨10857046999023057135944570762232829481370756359578518086990519993285655852781,by decide⟩,⟨11559732032986387107991004021392285783925812861821192530917403151452391805634,by decide⟩)
def Fs : Q2:=(⟨8495653923123431417604973247489272438418190587263600148770280649306958101930,by decide⟩,⟨4082367875863433681332203403145435568316851327593401208105741076214120093531,by decide⟩)
def cF : Nat:=147946756881789318990833708069417712966
def aCt : lO
 | [.v (.im (.int .i64 (.ofNat 1)))] => some ([],.one (.fl (q1 FP.M)))
 | [.v (.im (.int .i64 (.ofNat 2)))] => some ([],.one (.fl (q1 Go.Proofs.YtglgakbkdjhojaaGreat.FR.M)))
 | _ => none
theorem aIs : ∀ cs pre r,aCt cs = some (pre,r) → aY pre → ∀ (args : List Value) (w : World),bR w cs args → Good prog 204 r args w:=by
 intro cs pre r hg hp args w ha;unfold aCt at hg;split at hg
 ·cases hg
  match args,ha with
  | [v],ha =>
   have h1 : v = .int .i64 1:=ha.1;subst h1;exact (uM 1 FP (Or.inl ⟨rfl,rfl⟩) w).mono fun e w' h => h
  | [],ha => exact ha.elim
  | _ :: _ :: _,ha => exact ha.2.elim
 ·cases hg
  match args,ha with
  | [v],ha =>
   have h1 : v = .int .i64 2:=ha.1;subst h1;exact (uM 2 Go.Proofs.YtglgakbkdjhojaaGreat.FR (Or.inr ⟨rfl,rfl⟩) w).mono fun e w' h => h
  | [],ha => exact ha.elim
  | _ :: _ :: _,ha => exact ha.2.elim
 ·cases hg
def aCr : lO
 | [.v (.fl l),.v (.fl m)] => some ([aA l = aA (q1 FP.M),aA m = aA (q1 Go.Proofs.YtglgakbkdjhojaaGreat.FR.M)],.many [.fl (q1 cF),.im (.int .u64 0)])
 | _ => none
theorem aHF : ∀ cs pre r,aCr cs = some (pre,r) → aY pre → ∀ (args : List Value) (w : World),bR w cs args → Good prog 203 r args w:=by
 intro cs pre r hg hp args w ha;unfold aCr at hg;split at hg
 ·rename_i l m;cases hg;obtain ⟨e1,e2,_⟩:=hp
  match args,ha with
  | [v,u],ha =>
   have h1 : v = .agg (aA l).toArray:=ha.1;have h2 : u = .agg (aA m).toArray:=ha.2.1;rw [e1] at h1;rw [e2] at h2;subst h1; subst h2;refine (sW _ _ _ _ _ _ _ _ (dL FP.M) (dL Go.Proofs.YtglgakbkdjhojaaGreat.FR.M) w).mono ?_
   rintro e w' ⟨s0,s1,s2,s3,c,rfl,hs,hc,hv,hb⟩
   have v1 : aF (fw FP.M 0) (fw FP.M 1) (fw FP.M 2) (fw FP.M 3) = 21888242871839275222246405745257275088696311157297823662689037894645226208583:=by kernel_rfl
   have v2 : aF (fw Go.Proofs.YtglgakbkdjhojaaGreat.FR.M 0) (fw Go.Proofs.YtglgakbkdjhojaaGreat.FR.M 1) (fw Go.Proofs.YtglgakbkdjhojaaGreat.FR.M 2) (fw Go.Proofs.YtglgakbkdjhojaaGreat.FR.M 3) = 21888242871839275222246405745257275088548364400416034343698204186575808495617:=by kernel_rfl
   rw [v1,v2] at hv;obtain ⟨h0,h1,h2,h3⟩:=hs;have hlt : aF s0 s1 s2 s3 < 115792089237316195423570985008687907853269984665640564039457584007913129639936:=by unfold aF; omega
   have hc0 : c = 0:=by omega
   subst hc0;have hv2 : aF s0 s1 s2 s3 = cF:=by unfold cF; omega
   obtain ⟨rfl,rfl,rfl,rfl⟩:=nZ ⟨h0,h1,h2,h3⟩ (by unfold cF; omega) hv2;exact ⟨rfl,hb⟩
  | [],ha => exact ha.elim
  | [_],ha => exact ha.2.elim
  | _ :: _ :: _ :: _,ha => exact ha.2.2.elim
 ·cases hg
def aEp : Tab:=(No).add 204 aCt
theorem aHj : TabOk prog aEp:=(YB).ad func204 aIs
def He : Tab:=(aEp).add 203 aCr
theorem Kc : TabOk prog He:=(aHj).ad func203 aHF
theorem Yn  : aW prog (qG prog) (fun _ => ⟨fun s => He,fun s => true,fun _ => none⟩) f45 60 [] = some ([],.one (.fl (gC (some (fm 1,fm 2))))):=by kernel_rfl
def Hp : Tab:=(He).add 45 (g0 (.one (.fl (gC (some (fm 1,fm 2))))))
theorem Kn : TabOk prog Hp:=(Kc).ad func45 (jJ fun w => aB aG (fun _ s => Kc) (aK prog) func45 Yn trivial (args:=[]) trivial)
theorem Ym  : aW prog (qG prog) (fun _ => ⟨fun s => Hp,fun s => true,fun _ => none⟩) f24 60 [] = some ([],.one (.fl (eC (some (Aq,Fs))))):=by kernel_rfl
def Ho : Tab:=(Hp).add 24 (g0 (.one (.fl (eC (some (Aq,Fs))))))
theorem Km : TabOk prog Ho:=(Kn).ad func24 (jJ fun w => aB aG (fun _ s => Kn) (aK prog) func24 Ym trivial (args:=[]) trivial)
theorem Ru  : aW prog (qG prog) (fun _ => ⟨fun s => Ho,fun s => true,fun _ => none⟩) f205 60 [] = some ([],.one (.fl (q1 Go.Proofs.YtglgakbkdjhojaaGreat.FR.M))):=by kernel_rfl
def SQ : Tab:=(Ho).add 205 (g0 (.one (.fl (q1 Go.Proofs.YtglgakbkdjhojaaGreat.FR.M))))
theorem YC : TabOk prog SQ:=(Km).ad func205 (jJ fun w => aB aG (fun _ s => Km) (aK prog) func205 Ru trivial (args:=[]) trivial)
theorem Ph  : aW prog (qG prog) (fun _ => ⟨fun s => SQ,fun s => true,fun _ => none⟩) f216 60 [] = some ([],.many [.fl (e2 iZ),.fl (e2 nC)]):=by kernel_rfl
def SB : Tab:=(SQ).add 216 (g0 (.many [.fl (e2 iZ),.fl (e2 nC)]))
theorem XT : TabOk prog SB:=(YC).ad func216 (jJ fun w => aB aG (fun _ s => YC) (aK prog) func216 Ph trivial (args:=[]) trivial)
theorem aTJ (x y : N2) : SB 213 [.v (.fl (q2 x)),.v (.fl (q2 y))] = some ([],.one (.fl (e2 (F2.mul (m2 x) (m2 y))))):=by kernel_rfl
def tT : Tab:=(SB).add 213 (g2 KP KP (fun x y => ([],.one (.fl (e2 (F2.mul x y))))))
theorem sE : TabOk prog tT:=(XT).ad func213 (vI fR fR fun x y hp args w ha => (XT _ _ _ _ (aTJ x y) trivial).2 args w ha)
theorem JT (x y : N2) : aW prog (qG prog) (fun _ => ⟨fun s => tT,fun s => true,fun s => bif Nat.beq s 10 then some (.bool true) else none⟩) f173 60 [.v (.fl (jS (x,y,true)))] = some ([aI .neq .i64 (rM x y true).1 0 = some (.bool true)],.many [.fl (eC (some (F2.zero,F2.zero))),.im (.int .i64 (rM x y true).1)]):=by kernel_rfl
theorem JS (x y : N2) : aW prog (qG prog) (fun _ => ⟨fun s => tT,fun s => true,fun s => bif Nat.beq s 10 then some (.bool false) else none⟩) f173 60 [.v (.fl (jS (x,y,true)))] = some ([aI .neq .i64 (rM x y true).1 0 = some (.bool false)],.many [.fl (e2 (F2.mul (aJ (m2 x)) iZ) ++ (e2 (F2.mul (aJ (m2 y)) nC) ++ [.c (.bool true)])),.im (.int .i64 0)]):=by kernel_rfl
theorem EN (x y : N2) : aW prog (qG prog) (fun _ => ⟨fun s => tT,fun s => true,fun s => bif Nat.beq s 10 then some (.bool true) else none⟩) f173 60 [.v (.fl (jS (x,y,false)))] = some ([aI .neq .i64 (rM x y false).1 0 = some (.bool true)],.many [.fl (eC (some (F2.zero,F2.zero))),.im (.int .i64 (rM x y false).1)]):=by kernel_rfl
theorem EM (x y : N2) : aW prog (qG prog) (fun _ => ⟨fun s => tT,fun s => true,fun s => bif Nat.beq s 10 then some (.bool false) else none⟩) f173 60 [.v (.fl (jS (x,y,false)))] = some ([aI .neq .i64 (rM x y false).1 0 = some (.bool false)],.many [.fl (e2 (F2.mul (aJ (m2 x)) iZ) ++ (e2 (F2.mul (aJ (m2 y)) nC) ++ [.c (.bool false)])),.im (.int .i64 0)]):=by kernel_rfl
def JX : Pt Q2 → Pt Q2
 | none => none
 | some p => some (F2.mul (aJ p.1) iZ,F2.mul (aJ p.2) nC)
def fS (p : jP) : Pt Q2 × Int:=if (fN p).1 ≠ 0 then (some (F2.zero,F2.zero),(fN p).1) else (JX (af2 p),0)
theorem aKm {x : N2} (h : Uu x) : m2 x = F2.zero:=by
 refine Prod.ext (Fin.ext ?_) (Fin.ext ?_)
 ·show wv x.1 % FP.M = 0;rw [h.1]; rfl
 ·show wv x.2 % FP.M = 0;rw [h.2]; rfl
theorem xX : aJ F2.zero = F2.zero:=by decide
theorem aQb {x y : N2} (h : (rM x y true).1 = 0) : Uu x ∧ Uu y:=by
 rw [ID,if_pos rfl] at h
 by_cases hz : Uu x ∧ Uu y
 ·exact hz
 ·rw [if_neg hz] at h; cases h
theorem Zm (p : jP) (args : List Value) (w : World) (ha : bR w [.v (.fl (jS p))] args) : Good prog 173 (.many [.fl (eC (fS p).1),.im (.int .i64 (fS p).2)]) args w:=by
 obtain ⟨x,y,b⟩:=p
 by_cases h : (rM x y b).1 = 0
 ·rw [show fS (x,y,b) = (JX (af2 (x,y,b)),0) from if_neg (fun q => q h)];cases b with
  | false => exact aB aG (fun _ s => sE) (aK prog) func173 (EM x y) ⟨GE h,trivial⟩ ha
  | true =>
   refine Good.congr (aB aG (fun _ s => sE) (aK prog) func173 (JS x y) ⟨GE h,trivial⟩ ha) ?_;obtain ⟨hx,hy⟩:=aQb h;rw [aKm hx,aKm hy,xX,F2.zero_mul,F2.zero_mul];rfl
 ·rw [show fS (x,y,b) = (some (F2.zero,F2.zero),(rM x y b).1) from if_pos h];cases b with
  | true => exact aB aG (fun _ s => sE) (aK prog) func173 (JT x y) ⟨uL h,trivial⟩ ha
  | false => exact aB aG (fun _ s => sE) (aK prog) func173 (EN x y) ⟨uL h,trivial⟩ ha
def vY : Tab:=(tT).add 173 (g1 Yv fun p => ([],.many [.fl (eC (fS p).1),.im (.int .i64 (fS p).2)]))
theorem tG : TabOk prog vY:=(sE).ad func173 (bC qA fun p hp args w ha => Zm p args w ha)
theorem Qn (p : jP) : aW prog (qG prog) (fun _ => ⟨fun s => vY,fun s => true,fun s => bif Nat.beq s 15 then some (.bool true) else none⟩) f162 60 [.v (.fl (jS p))] = some ([aI .neq .i64 (fS p).2 0 = some (.bool true)],.one (.im (.bool false))):=by kernel_rfl
theorem Qm (p : jP) : aW prog (qG prog) (fun _ => ⟨fun s => vY,fun s => true,fun s => bif Nat.beq s 15 then some (.bool false) else none⟩) f162 60 [.v (.fl (jS p))] = some ([aI .neq .i64 (fS p).2 0 = some (.bool false),aA (q1 FP.M) = aA (q1 FP.M),aA (q1 Go.Proofs.YtglgakbkdjhojaaGreat.FR.M) = aA (q1 Go.Proofs.YtglgakbkdjhojaaGreat.FR.M),aA (eC (lS (fun _ => p) (fun _ => cF) 1).1) = aA (eC (fS p).1)],.one (.im (.bool true))):=by kernel_rfl
theorem Ql (p : jP) : aW prog (qG prog) (fun _ => ⟨fun s => vY,fun s => false,fun s => bif Nat.beq s 15 then some (.bool false) else none⟩) f162 60 [.v (.fl (jS p))] = some ([aI .neq .i64 (fS p).2 0 = some (.bool false),aA (q1 FP.M) = aA (q1 FP.M),aA (q1 Go.Proofs.YtglgakbkdjhojaaGreat.FR.M) = aA (q1 Go.Proofs.YtglgakbkdjhojaaGreat.FR.M),aA (eC (lS (fun _ => p) (fun _ => cF) 1).1) ≠ aA (eC (fS p).1)],.one (.im (.bool false))):=by kernel_rfl
theorem aHT {P Q : Pt Q2} (h : aA (eC P) = aA (eC Q)) : P = Q:=by
 have h' : w4 (ptX F2 P).1.1 ++ (w4 (ptX F2 P).2.1 ++ (w4 (ptY F2 P).1.1 ++ (w4 (ptY F2 P).2.1 ++ [Value.bool (uG P)]))) = w4 (ptX F2 Q).1.1 ++ (w4 (ptX F2 Q).2.1 ++ (w4 (ptY F2 Q).1.1 ++ (w4 (ptY F2 Q).2.1 ++ [Value.bool (uG Q)]))):=h;obtain ⟨h1,h'⟩:=List.append_inj h' rfl;obtain ⟨h2,h'⟩:=List.append_inj h' rfl;obtain ⟨h3,h'⟩:=List.append_inj h' rfl;obtain ⟨h4,h'⟩:=List.append_inj h' rfl;have h5 : uG P = uG Q:=by injection h' with h' _; injection h'
 have e : ∀ {a b : Fq},w4 a.1 = w4 b.1 → a = b:=fun {a b} hw => by
  have:=CJ hw;refine Fin.ext ?_;have ha : wv a.1 = a.1:=bZ a.2;have hb : wv b.1 = b.1:=bZ b.2;rw [← ha,← hb,this]
 cases P with
 | none =>
  cases Q with
  | none => rfl
  | some q => cases h5
 | some p =>
  cases Q with
  | none => cases h5
  | some q => exact congrArg some (Prod.ext (Prod.ext (e h1) (e h2)) (Prod.ext (e h3) (e h4)))
open Classical in
def Tg (p : jP) : Bool:=decide ((fS p).2 = 0 ∧ (lS (fun _ => p) (fun _ => cF) 1).1 = (fS p).1)
theorem aOw (p : jP) (args : List Value) (w : World) (ha : bR w [.v (.fl (jS p))] args) : Good prog 162 (.one (.im (.bool (Tg p)))) args w:=by
 unfold Tg
 by_cases h1 : (fS p).2 = 0
 ·by_cases h2 : (lS (fun _ => p) (fun _ => cF) 1).1 = (fS p).1
  ·rw [decide_eq_true (And.intro h1 h2)];exact aB aG (fun _ s => tG) (aK prog) func162 (Qm p) ⟨GE h1,rfl,rfl,by rw [h2],trivial⟩ ha
  ·rw [decide_eq_false (fun h => h2 h.2)];exact aB aG (fun _ s => tG) (aK prog) func162 (Ql p) ⟨GE h1,rfl,rfl,fun h => h2 (aHT h),trivial⟩ ha
 ·rw [decide_eq_false (fun h => h1 h.1)];exact aB aG (fun _ s => tG) (aK prog) func162 (Qn p) ⟨uL h1,trivial⟩ ha
def JB : Tab:=(vY).add 162 (g1 Yv fun p => ([],.one (.im (.bool (Tg p)))))
theorem zD : TabOk prog JB:=(tG).ad func162 (bC qA fun p hp args w ha => aOw p args w ha)
section
variable {R : Type} [DecidableEq R] (K : CR R)
def Na (p q : Jc R) : Jc R :=
 if p.2.2 = K.zero then q else if q.2.2 = K.zero then p else if BE K p q = K.zero then (if YU K p q = K.zero then cG K p else (K.one,K.one,K.zero)) else GO K p q
theorem aDm (p q : Jc R) : Na K p q = rplus K p q:=by
 unfold Na rplus
 by_cases h1 : p.2.2 = K.zero
 ·rw [if_pos h1,if_pos h1]
 ·rw [if_neg h1,if_neg h1]
  by_cases h2 : q.2.2 = K.zero
  ·rw [if_pos h2,if_pos h2]
  ·rw [if_neg h2,if_neg h2]
   by_cases h3 : BE K p q = K.zero
   ·rw [if_pos h3]
    by_cases h4 : YU K p q = K.zero
    ·rw [if_pos h4,if_pos ⟨h3,h4⟩]
    ·rw [if_neg h4,if_neg (fun h => h4 h.2),if_pos h3]
   ·rw [if_neg h3,if_neg (fun h => h3 h.1),if_neg h3]
def SY (a : Jc R) (n L : Nat) : Nat → Jc R
 | 0 => (K.one,K.one,K.zero)
 | k + 1 => if Nat.beq (n / 2 ^ (L - (k + 1)) % 2) 1 = true then Na K (cG K (SY a n L k)) a else cG K (SY a n L k)
variable {K} {inv : R → R} {b : R}
theorem Mz {E : EC K inv b} {a : Jc R} {g : {p : Pt R // On K b p}} (h : Rp E a g) (n L : Nat) (hn : n < 2 ^ L) : ∀ k,k ≤ L → Rp E (SY K a n L k) (E.grp.ns (n / 2 ^ (L - k)) g)
 | 0,_ => by
  rw [Nat.sub_zero,Nat.div_eq_of_lt hn];exact Rp.zero rfl
 | k + 1,hk => by
  have ih:=Mz h n L hn k (by omega);have e : n / 2 ^ (L - k) = n / 2 ^ (L - (k + 1)) / 2:=by
   rw [show L - k = (L - (k + 1)) + 1 by omega,Nat.pow_add,← Nat.div_div_eq_div_mul]
  rw [e] at ih;have h2:=ih.dbl;rw [← E.grp.ns_add] at h2
  by_cases hb : n / 2 ^ (L - (k + 1)) % 2 = 1
  ·rw [show SY K a n L (k + 1) = Na K (cG K (SY K a n L k)) a from if_pos (by rw [hb]; rfl),aDm];have h3:=h2.rplus h;rw [show n / 2 ^ (L - (k + 1)) = n / 2 ^ (L - (k + 1)) / 2 + n / 2 ^ (L - (k + 1)) / 2 + 1 by omega];exact h3
  ·rw [show SY K a n L (k + 1) = cG K (SY K a n L k) from if_neg (fun hq => hb (Nat.eq_of_beq_eq_true hq))];rw [show n / 2 ^ (L - (k + 1)) = n / 2 ^ (L - (k + 1)) / 2 + n / 2 ^ (L - (k + 1)) / 2 by omega];exact h2
theorem DH {E : EC K inv b} {a : Jc R} {g : {p : Pt R // On K b p}} (h : Rp E a g) (n L : Nat) (hn : n < 2 ^ L) : Rp E (SY K a n L L) (E.grp.ns n g):=by
 have:=Mz h n L hn L (Nat.le_refl _)
 rwa [Nat.sub_self,Nat.pow_zero,Nat.div_one] at this
end
def oQ : Nat:=21888242871839275222246405745257275088548364400416034343698204186575808495617
theorem aGs : (SY F2 (Aq,Fs,F2.one) oQ 254 254).2.2 = F2.zero:=of_decide_eq_true (by kernel_rfl)
section
variable {R : Type} {K : CR R} {inv : R → R} {b : R}
theorem aBP (E : EC K inv b) {p : Jc R} {x y : R} (hz : p.2.2 ≠ K.zero) (hx : p.1 = K.mul x (K.mul p.2.2 p.2.2)) (hy : p.2.1 = K.mul y (K.mul (K.mul p.2.2 p.2.2) p.2.2)) : fT K inv p = some (x,y):=by
 have h1:=E.F.inv _ hz;rw [dR hz,hx,hy];generalize inv p.2.2 = i at h1 ⊢;generalize p.2.2 = z at h1 ⊢;refine congrArg some (Prod.ext ?_ ?_)
 ·show K.mul (K.mul x (K.mul z z)) (K.mul i i) = x;have e : K.mul (K.mul x (K.mul z z)) (K.mul i i) = K.mul x (K.mul (K.mul z i) (K.mul z i)):=aE K (aR K [x,z,i]) (.mul (.mul (.v 0) (.mul (.v 1) (.v 1))) (.mul (.v 2) (.v 2))) (.mul (.v 0) (.mul (.mul (.v 1) (.v 2)) (.mul (.v 1) (.v 2)))) (by decide);rw [e,h1,K.one_mul,K.mul_one]
 ·show K.mul (K.mul y (K.mul (K.mul z z) z)) (K.mul (K.mul i i) i) = y;have e : K.mul (K.mul y (K.mul (K.mul z z) z)) (K.mul (K.mul i i) i) = K.mul y (K.mul (K.mul (K.mul z i) (K.mul z i)) (K.mul z i)):=aE K (aR K [y,z,i]) (.mul (.mul (.v 0) (.mul (.mul (.v 1) (.v 1)) (.v 1))) (.mul (.mul (.v 2) (.v 2)) (.v 2))) (.mul (.v 0) (.mul (.mul (.mul (.v 1) (.v 2)) (.mul (.v 1) (.v 2))) (.mul (.v 1) (.v 2)))) (by decide);rw [e,h1,K.one_mul,K.one_mul,K.mul_one]
end
def g1n : nM:=((fm 1).1,(fm 2).1,false)
def g2n : jP:=((Aq.1.1,Aq.2.1),(Fs.1.1,Fs.2.1),false)
theorem zJ (x : Fq) : m1 x.1 = x:=Fin.ext (show wv x.1 % FP.M = x.1 by rw [show wv x.1 = x.1 from bZ x.2]; exact Nat.mod_eq_of_lt x.2)
theorem DK (x : Fq) : JJ x.1:=by show wv x.1 < FP.M; rw [show wv x.1 = x.1 from bZ x.2]; exact x.2
theorem PU (x : Q2) : m2 (x.1.1,x.2.1) = x:=Prod.ext (zJ x.1) (zJ x.2)
theorem Ni (x : Q2) : JI (x.1.1,x.2.1):=⟨DK x.1,DK x.2⟩
theorem aDy {x y : Fq} (h : On F1 (fm 3) (some (x,y))) : (jL (x.1,y.1,false)).1 = 0:=by
 have e:=RJ x.1 y.1 false;rw [if_neg (by simp),if_neg (fun q => q ⟨DK x,DK y⟩),zJ,zJ] at e;have h' : F1.mul y y = F1.add (F1.mul (F1.mul x x) x) (fm 3):=by
  rw [F1.mul_comm (F1.mul x x) x]; exact h
 rw [if_pos h'] at e;show (RK x.1 y.1 false).1 = 0;rw [e]
theorem aDv {x y : Q2} (h : On F2 dF (some (x,y))) : (fN ((x.1.1,x.2.1),(y.1.1,y.2.1),false)).1 = 0:=by
 have e:=ID (x.1.1,x.2.1) (y.1.1,y.2.1) false;rw [if_neg (by simp),if_neg (fun q => q ⟨Ni x,Ni y⟩),PU,PU] at e;have h' : F2.mul y y = F2.add (F2.mul (F2.mul x x) x) dF:=by
  rw [F2.mul_comm (F2.mul x x) x]; exact h
 rw [if_pos h'] at e;show (rM (x.1.1,x.2.1) (y.1.1,y.2.1) false).1 = 0;rw [e]
theorem aUu : On F1 (fm 3) (some (fm 1,fm 2)):=by
 show F1.mul (fm 2) (fm 2) = F1.add (F1.mul (fm 1) (F1.mul (fm 1) (fm 1))) (fm 3);exact of_decide_eq_true (by kernel_rfl)
theorem aUs : On F2 dF (some (Aq,Fs)):=by
 show F2.mul Fs Fs = F2.add (F2.mul Aq (F2.mul Aq Aq)) dF;exact of_decide_eq_true (by kernel_rfl)
theorem aUv : (jL g1n).1 = 0:=aDy aUu
theorem aKA : (fN g2n).1 = 0:=aDv aUs
theorem aEh (x y : Fq) : af1 (x.1,y.1,false) = some (x,y):=congrArg some (Prod.ext (zJ x) (zJ y))
theorem Gm (x y : Q2) : af2 ((x.1.1,x.2.1),(y.1.1,y.2.1),false) = some (x,y):=congrArg some (Prod.ext (PU x) (PU y))
theorem aPg : Rp aZ (Aq,Fs,F2.one) (cp2 g2n):=(aZ.jto_one _ _).trans ((RC aKA).trans (Gm Aq Fs)).symm
theorem aPh : aZ.grp.ns oQ (cp2 g2n) = aZ.grp.zero:=Subtype.ext ((DH aPg oQ 254 (by decide)).symm.trans (dE aGs))
theorem aEJ : wv cF = cF:=by kernel_rfl
def Vx (P : Pt Fq) : nM:=((ptX F1 P).1,(ptY F1 P).1,uG P)
def KM (P : Pt Q2) : jP:=(((ptX F2 P).1.1,(ptX F2 P).2.1),((ptY F2 P).1.1,(ptY F2 P).2.1),uG P)
theorem Az : ∀ {P : Pt Fq},On F1 (fm 3) P → (jL (Vx P)).1 = 0
 | none,_ => by
  have e:=RJ 0 0 true;rw [if_pos rfl,if_pos ⟨by show wv 0 = 0; rfl,by show wv 0 = 0; rfl⟩] at e;show (RK 0 0 true).1 = 0;rw [e]
 | some p,h => aDy h
theorem EB : ∀ {P : Pt Q2},On F2 dF P → (fN (KM P)).1 = 0
 | none,_ => by
  have e:=ID (0,0) (0,0) true;rw [if_pos rfl,if_pos ⟨⟨by show wv 0 = 0; rfl,by show wv 0 = 0; rfl⟩,by show wv 0 = 0; rfl,by show wv 0 = 0; rfl⟩] at e;show (rM (0,0) (0,0) true).1 = 0;rw [e]
 | some p,h => aDv h
theorem aQZ : ∀ P : Pt Fq,af1 (Vx P) = P
 | none => rfl
 | some p => aEh p.1 p.2
theorem aEg : ∀ P : Pt Q2,af2 (KM P) = P
 | none => rfl
 | some p => Gm p.1 p.2
theorem aUt : Vx (cp1 g1n).1 = g1n:=by
 rw [Ge aUv,show af1 g1n = some (fm 1,fm 2) from aEh (fm 1) (fm 2)];rfl
theorem aPO (P : C1) : cp1 (Vx P.1) = P:=Subtype.ext ((Ge (Az P.2)).trans (aQZ P.1))
theorem tM1 (P : C1) (n : Nat) : oV (fun _ => Vx P.1) (fun _ => n) 1 = ((iY.grp.ns (wv n) P).1,0):=by
 rw [aGk,if_neg (fun q => q (Az P.2)),aPO]
theorem aDn (P : C2) : cp2 (KM P.1) = P:=Subtype.ext ((RC (EB P.2)).trans (aEg P.1))
theorem tM2 (P : C2) (n : Nat) : lS (fun _ => KM P.1) (fun _ => n) 1 = ((aZ.grp.ns (wv n) P).1,0):=by
 rw [aGj,if_neg (fun q => q (EB P.2)),aDn]
theorem tN2 (P : C2) : uF (KM P.1) = ((aZ.grp.neg P).1,0):=by
 rw [aGi,if_neg (fun q => q (EB P.2)),aDn]
theorem tC1 (P : C1) : (jL (Vx P.1)).1 = 0:=Az P.2
theorem tC2 (P : C2) : (fN (KM P.1)).1 = 0:=EB P.2
open Classical
section
variable {R : Type} {K : CR R} {inv : R → R} {b : R}
structure Tw (K : CR R) (b : R) (s : R → R) (k : R) : Prop where
 add : ∀ x y,s (K.add x y) = K.add (s x) (s y)
 mul : ∀ x y,s (K.mul x y) = K.mul (s x) (s y)
 neg : ∀ x,s (K.neg x) = K.neg (s x)
 zero : s K.zero = K.zero
 ss : ∀ x,s (s x) = x
 k0 : k ≠ K.zero
 hb : K.mul (K.mul (K.mul (K.mul k k) k) (K.mul (K.mul k k) k)) (s b) = b
def tw (K : CR R) (s : R → R) (k : R) : Pt R → Pt R
 | none => none
 | some p => some (K.mul (s p.1) (K.mul k k),K.mul (s p.2) (K.mul (K.mul k k) k))
variable {s : R → R} {k : R}
theorem Tw.inj (t : Tw K b s k) {x y : R} (h : s x = s y) : x = y:=by rw [← t.ss x,h,t.ss]
theorem Tw.sub (t : Tw K b s k) (x y : R) : s (K.sub x y) = K.sub (s x) (s y):=by
 show s (K.add x (K.neg y)) = K.add (s x) (K.neg (s y));rw [t.add,t.neg]
theorem CX (E : EC K inv b) {x y c : R} (hc : c ≠ K.zero) (h : K.mul x c = K.mul y c) : x = y:=by
 have h1:=congrArg (fun z => K.mul z (inv c)) h;have h2:=E.F.inv c hc;simp only [K.mul_assoc,h2,K.mul_one] at h1;exact h1
theorem Tw.k2 (t : Tw K b s k) (E : EC K inv b) : K.mul k k ≠ K.zero:=E.F.mul_ne t.k0 t.k0
theorem Tw.k3 (t : Tw K b s k) (E : EC K inv b) : K.mul (K.mul k k) k ≠ K.zero:=E.F.mul_ne (t.k2 E) t.k0
theorem aJC (t : Tw K b s k) (E : EC K inv b) : ∀ {P : Pt R},On K b P → On K b (tw K s k P)
 | none,_ => trivial
 | some p,h => by
  have h' : K.mul p.2 p.2 = K.add (K.mul p.1 (K.mul p.1 p.1)) b:=h;have h1:=congrArg s h';rw [t.mul,t.add,t.mul,t.mul] at h1;show K.mul (K.mul (s p.2) (K.mul (K.mul k k) k)) (K.mul (s p.2) (K.mul (K.mul k k) k)) = K.add (K.mul (K.mul (s p.1) (K.mul k k)) (K.mul (K.mul (s p.1) (K.mul k k)) (K.mul (s p.1) (K.mul k k)))) b;have e1 : K.mul (K.mul (s p.2) (K.mul (K.mul k k) k)) (K.mul (s p.2) (K.mul (K.mul k k) k)) = K.mul (K.mul (K.mul (K.mul k k) k) (K.mul (K.mul k k) k)) (K.mul (s p.2) (s p.2)):=aE K (aR K [s p.2,k]) (.mul (.mul (.v 0) (.mul (.mul (.v 1) (.v 1)) (.v 1))) (.mul (.v 0) (.mul (.mul (.v 1) (.v 1)) (.v 1)))) (.mul (.mul (.mul (.mul (.v 1) (.v 1)) (.v 1)) (.mul (.mul (.v 1) (.v 1)) (.v 1))) (.mul (.v 0) (.v 0))) (by decide);have e2 : K.mul (K.mul (s p.1) (K.mul k k)) (K.mul (K.mul (s p.1) (K.mul k k)) (K.mul (s p.1) (K.mul k k))) = K.mul (K.mul (K.mul (K.mul k k) k) (K.mul (K.mul k k) k)) (K.mul (s p.1) (K.mul (s p.1) (s p.1))):=aE K (aR K [s p.1,k]) (.mul (.mul (.v 0) (.mul (.v 1) (.v 1))) (.mul (.mul (.v 0) (.mul (.v 1) (.v 1))) (.mul (.v 0) (.mul (.v 1) (.v 1))))) (.mul (.mul (.mul (.mul (.v 1) (.v 1)) (.v 1)) (.mul (.mul (.v 1) (.v 1)) (.v 1))) (.mul (.v 0) (.mul (.v 0) (.v 0)))) (by decide);rw [e1,e2,h1,K.mul_add,t.hb]
theorem TK (t : Tw K b s k) (E : EC K inv b) {x1 y1 x2 y2 : R} (hp : On K b (some (x1,y1))) (hq : On K b (some (x2,y2))) (h : ¬ (x1 = x2 ∧ K.add y1 y2 = K.zero)) :
  dD K inv (K.mul (s x1) (K.mul k k)) (K.mul (s y1) (K.mul (K.mul k k) k)) (K.mul (s x2) (K.mul k k)) (K.mul (s y2) (K.mul (K.mul k k) k)) = K.mul (s (dD K inv x1 y1 x2 y2)) k:=by
 by_cases hx : x1 = x2
 ·subst hx;have hy : K.add y1 y2 ≠ K.zero:=fun e => h ⟨rfl,e⟩
  have hyy : y1 = y2:=by
   apply Classical.byContradiction;intro hn;exact hy (EI E (show K.mul y1 y1 = K.mul y2 y2 from (show K.mul y1 y1 = _ from hp).trans (show K.mul y2 y2 = _ from hq).symm) hn)
  subst hyy;have hl : K.mul (dD K inv x1 y1 x1 y1) (K.add y1 y1) = K.add (K.add (K.mul x1 x1) (K.mul x1 x1)) (K.mul x1 x1):=by
   unfold dD;rw [if_pos rfl,K.mul_assoc,K.mul_comm (inv _),E.F.inv _ hy,K.mul_one]
  generalize dD K inv x1 y1 x1 y1 = l at hl ⊢;have h1:=congrArg s hl;rw [t.mul,t.add,t.add,t.add,t.mul] at h1;have hys : K.add (s y1) (s y1) ≠ K.zero:=fun e => hy (t.inj (by rw [t.add,t.zero]; exact e))
  refine yL E ?_ ?_
  ·intro e;refine hys ?_;apply CX E (t.k3 E);rw [K.add_mul,e,K.mul_comm K.zero,K.mul_zero]
  ·have e1 : K.mul (K.mul (s l) k) (K.add (K.mul (s y1) (K.mul (K.mul k k) k)) (K.mul (s y1) (K.mul (K.mul k k) k))) = K.mul (K.mul (s l) (K.add (s y1) (s y1))) (K.mul (K.mul k k) (K.mul k k)):=aE K (aR K [s l,k,s y1]) (.mul (.mul (.v 0) (.v 1)) (.add (.mul (.v 2) (.mul (.mul (.v 1) (.v 1)) (.v 1))) (.mul (.v 2) (.mul (.mul (.v 1) (.v 1)) (.v 1))))) (.mul (.mul (.v 0) (.add (.v 2) (.v 2))) (.mul (.mul (.v 1) (.v 1)) (.mul (.v 1) (.v 1)))) (by decide);rw [e1,h1];exact aE K (aR K [s x1,k]) (.mul (.add (.add (.mul (.v 0) (.v 0)) (.mul (.v 0) (.v 0))) (.mul (.v 0) (.v 0))) (.mul (.mul (.v 1) (.v 1)) (.mul (.v 1) (.v 1)))) (.add (.add (.mul (.mul (.v 0) (.mul (.v 1) (.v 1))) (.mul (.v 0) (.mul (.v 1) (.v 1)))) (.mul (.mul (.v 0) (.mul (.v 1) (.v 1))) (.mul (.v 0) (.mul (.v 1) (.v 1))))) (.mul (.mul (.v 0) (.mul (.v 1) (.v 1))) (.mul (.v 0) (.mul (.v 1) (.v 1))))) (by decide)
 ·have hl : K.mul (dD K inv x1 y1 x2 y2) (K.sub x2 x1) = K.sub y2 y1:=by
   unfold dD;rw [if_neg hx,K.mul_assoc,K.mul_comm (inv _),E.F.inv _ (NX fun e => hx e.symm),K.mul_one]
  generalize dD K inv x1 y1 x2 y2 = l at hl ⊢;have h1:=congrArg s hl;rw [t.mul,t.sub,t.sub] at h1;refine rP E (fun e => hx (t.inj (CX E (t.k2 E) e))) ?_;have e1 : K.mul (K.mul (s l) k) (K.sub (K.mul (s x2) (K.mul k k)) (K.mul (s x1) (K.mul k k))) = K.mul (K.mul (s l) (K.sub (s x2) (s x1))) (K.mul (K.mul k k) k):=aE K (aR K [s l,k,s x1,s x2]) (.mul (.mul (.v 0) (.v 1)) (.add (.mul (.v 3) (.mul (.v 1) (.v 1))) (.neg (.mul (.v 2) (.mul (.v 1) (.v 1)))))) (.mul (.mul (.v 0) (.add (.v 3) (.neg (.v 2)))) (.mul (.mul (.v 1) (.v 1)) (.v 1))) (by decide);rw [e1,h1];exact aE K (aR K [s y1,k,s y2]) (.mul (.add (.v 2) (.neg (.v 0))) (.mul (.mul (.v 1) (.v 1)) (.v 1))) (.add (.mul (.v 2) (.mul (.mul (.v 1) (.v 1)) (.v 1))) (.neg (.mul (.v 0) (.mul (.mul (.v 1) (.v 1)) (.v 1))))) (by decide)
theorem Vm (t : Tw K b s k) (E : EC K inv b) : ∀ {P Q : Pt R},On K b P → On K b Q → tw K s k (gZ K inv P Q) = gZ K inv (tw K s k P) (tw K s k Q)
 | none,_,_,_ => rfl
 | some p,none,_,_ => rfl
 | some p,some q,hp,hq => by
  by_cases h : p.1 = q.1 ∧ K.add p.2 q.2 = K.zero
  ·rw [kG h];refine (kG ⟨?_,?_⟩).symm
   ·show K.mul (s p.1) _ = K.mul (s q.1) _;rw [h.1]
   ·show K.add (K.mul (s p.2) _) (K.mul (s q.2) _) = K.zero;rw [← K.add_mul,← t.add,h.2,t.zero,K.mul_comm,K.mul_zero]
  ·rw [jD h];have h' : ¬ (K.mul (s p.1) (K.mul k k) = K.mul (s q.1) (K.mul k k) ∧ K.add (K.mul (s p.2) (K.mul (K.mul k k) k)) (K.mul (s q.2) (K.mul (K.mul k k) k)) = K.zero):=fun e => h ⟨t.inj (CX E (t.k2 E) e.1),by
    have e2:=e.2;rw [← K.add_mul,← t.add] at e2;exact t.inj (by rw [t.zero]; exact CX E (t.k3 E) (by rw [e2,K.mul_comm K.zero,K.mul_zero]))⟩
   have hS:=jD (K:=K) (inv:=inv) (p:=(K.mul (s p.1) (K.mul k k),K.mul (s p.2) (K.mul (K.mul k k) k))) (q:=(K.mul (s q.1) (K.mul k k),K.mul (s q.2) (K.mul (K.mul k k) k))) h';refine Eq.trans ?_ hS.symm;rw [TK t E (x1:=p.1) (y1:=p.2) (x2:=q.1) (y2:=q.2) hp hq h];generalize dD K inv p.1 p.2 q.1 q.2 = l;have ex : s (sx K l p.1 q.1) = K.sub (K.sub (K.mul (s l) (s l)) (s p.1)) (s q.1):=by
    unfold sx;rw [t.sub,t.sub,t.mul]
   have ey : s (sy K l p.1 p.2 q.1) = K.sub (K.mul (s l) (K.sub (s p.1) (s (sx K l p.1 q.1)))) (s p.2):=by
    unfold sy;rw [t.sub,t.mul,t.sub]
   have fx : K.mul (s (sx K l p.1 q.1)) (K.mul k k) = sx K (K.mul (s l) k) (K.mul (s p.1) (K.mul k k)) (K.mul (s q.1) (K.mul k k)):=by
    rw [ex];exact aE K (aR K [s l,k,s p.1,s q.1]) (.mul (.add (.add (.mul (.v 0) (.v 0)) (.neg (.v 2))) (.neg (.v 3))) (.mul (.v 1) (.v 1))) (.add (.add (.mul (.mul (.v 0) (.v 1)) (.mul (.v 0) (.v 1))) (.neg (.mul (.v 2) (.mul (.v 1) (.v 1))))) (.neg (.mul (.v 3) (.mul (.v 1) (.v 1))))) (by decide)
   refine congrArg some (Prod.ext fx ?_);show K.mul (s (sy K l p.1 p.2 q.1)) (K.mul (K.mul k k) k) = sy K (K.mul (s l) k) (K.mul (s p.1) (K.mul k k)) (K.mul (s p.2) (K.mul (K.mul k k) k)) (K.mul (s q.1) (K.mul k k));rw [ey];unfold sy;rw [← fx];generalize s (sx K l p.1 q.1) = S;exact aE K (aR K [s l,k,s p.1,S,s p.2]) (.mul (.add (.mul (.v 0) (.add (.v 2) (.neg (.v 3)))) (.neg (.v 4))) (.mul (.mul (.v 1) (.v 1)) (.v 1))) (.add (.mul (.mul (.v 0) (.v 1)) (.add (.mul (.v 2) (.mul (.v 1) (.v 1))) (.neg (.mul (.v 3) (.mul (.v 1) (.v 1)))))) (.neg (.mul (.v 4) (.mul (.mul (.v 1) (.v 1)) (.v 1))))) (by decide)
end
def kE : Q2:=(⟨8376118865763821496583973867626364092589906065868298776909617916018768340080,by decide⟩,⟨16469823323077808223889137241176536799009286646108169935659301613961712198316,by decide⟩)
theorem DB : F2.mul kE kE = iZ:=of_decide_eq_true (by kernel_rfl)
theorem Fa : F2.mul (F2.mul kE kE) kE = nC:=of_decide_eq_true (by kernel_rfl)
theorem aDB (x y : Q2) : aJ (F2.add x y) = F2.add (aJ x) (aJ y):=Prod.ext rfl (aE F1 (aR F1 [x.2,y.2]) (.neg (.add (.v 0) (.v 1))) (.add (.neg (.v 0)) (.neg (.v 1))) (by decide))
theorem RL (x y : Q2) : aJ (F2.mul x y) = F2.mul (aJ x) (aJ y):=by
 refine Prod.ext ?_ ?_
 ·exact aE F1 (aR F1 [x.1,x.2,y.1,y.2]) (.add (.mul (.v 0) (.v 2)) (.mul (.neg .one) (.mul (.v 1) (.v 3)))) (.add (.mul (.v 0) (.v 2)) (.mul (.neg .one) (.mul (.neg (.v 1)) (.neg (.v 3))))) (by decide)
 ·exact aE F1 (aR F1 [x.1,x.2,y.1,y.2]) (.neg (.add (.mul (.v 0) (.v 3)) (.mul (.v 1) (.v 2)))) (.add (.mul (.v 0) (.neg (.v 3))) (.mul (.neg (.v 1)) (.v 2))) (by decide)
theorem KL : Tw F2 dF aJ kE where
 add:=aDB
 mul:=RL
 neg:=fun x => rfl
 zero:=xX
 ss:=fun x => Prod.ext rfl (aE F1 (aR F1 [x.2]) (.neg (.neg (.v 0))) (.v 0) (by decide))
 k0:=of_decide_eq_true (by kernel_rfl)
 hb:=of_decide_eq_true (by kernel_rfl)
theorem rX : ∀ P : Pt Q2,JX P = tw F2 aJ kE P
 | none => rfl
 | some p => by
  show some (F2.mul (aJ p.1) iZ,F2.mul (aJ p.2) nC) = some (F2.mul (aJ p.1) (F2.mul kE kE),F2.mul (aJ p.2) (F2.mul (F2.mul kE kE) kE));rw [DB,← Fa,DB]
def pR (P : C2) : C2:=⟨JX P.1,by rw [rX]; exact aJC KL aZ P.2⟩
theorem Iz (P Q : C2) : pR (aZ.grp.add P Q) = aZ.grp.add (pR P) (pR Q):=Subtype.ext (by
 show JX (gZ F2 dT P.1 Q.1) = gZ F2 dT (JX P.1) (JX Q.1);rw [rX,rX,rX];exact Vm KL aZ P.2 Q.2)
theorem EZ (P : C2) : ∀ n,pR (aZ.grp.ns n P) = aZ.grp.ns n (pR P)
 | 0 => rfl
 | n + 1 => by
  show pR (aZ.grp.add (aZ.grp.ns n P) P) = aZ.grp.add (aZ.grp.ns n (pR P)) (pR P);rw [Iz,EZ P n]
theorem aSn (P : C2) : fS (KM P.1) = ((pR P).1,0):=by
 unfold fS;rw [if_neg (fun q => q (EB P.2)),aEg];rfl
namespace AG
variable {G : Type} (A : AG G)
theorem ns_modz {g : G} {n : Nat} (h : A.ns n g = A.zero) (m : Nat) : A.ns (m % n) g = A.ns m g:=by
 conv => rhs; rw [← Nat.div_add_mod m n,A.ns_add,A.ns_mul,h,A.ns_zero,A.zadd]
theorem ns_gcd {g : G} (a b : Nat) : A.ns a g = A.zero → A.ns b g = A.zero → A.ns (Nat.gcd a b) g = A.zero:=by
 induction a,b using Nat.gcd.induction with
 | H0 n => intro _ h; rw [Nat.gcd_zero_left]; exact h
 | H1 m n hm ih =>
  intro h1 h2;rw [Nat.gcd_rec];exact ih (by rw [A.ns_modz h1]; exact h2) h1
theorem exact {g : G} {N : Nat} {l : List Nat} (hl : l.foldr (· * ·) 1 = N) (hp : ∀ q,q ∈ l → dV q) (h0 : A.ns N g = A.zero) (hq : ∀ q,q ∈ l → A.ns (N / q) g ≠ A.zero) (k : Nat) (hk : 0 < k) (hN : k < N) : A.ns k g ≠ A.zero:=fun h => by
 have hd:=A.ns_gcd k N h h0;obtain ⟨e,he⟩:=Nat.gcd_dvd_right k N;have hdk : Nat.gcd k N ≤ k:=Nat.le_of_dvd hk (Nat.gcd_dvd_left k N);have hd0 : 0 < Nat.gcd k N:=Nat.gcd_pos_of_pos_left N hk;have he1 : 1 < e:=by
  rcases Nat.lt_or_ge 1 e with q | q
  ·exact q
  ·have : Nat.gcd k N * e ≤ Nat.gcd k N * 1:=Nat.mul_le_mul_left _ q;omega
 obtain ⟨q,hql,f,hf⟩:=wY l e (by rw [hl]; exact ⟨Nat.gcd k N,by rw [Nat.mul_comm]; exact he⟩) he1 hp;refine hq q hql ?_;have hq0 : 0 < q:=Nat.lt_trans Nat.zero_lt_one (hp q hql).1;have e1 : N / q = Nat.gcd k N * f:=by
  rw [Nat.div_eq_of_eq_mul_left hq0];rw [Nat.mul_assoc,Nat.mul_comm f q,← hf];exact he
 rw [e1,A.ns_mul,hd,A.ns_zero]
theorem ns_inj {g : G} {N : Nat} (h : ∀ k,0 < k → k < N → A.ns k g ≠ A.zero) {i j : Nat} (hi : i < N) (hj : j < N) (e : A.ns i g = A.ns j g) : i = j:=by
 have key : ∀ i j,i < j → j < N → A.ns i g = A.ns j g → False:=fun i j hij hj e => by
  refine h (j - i) (by omega) (by omega) ?_;have : A.ns j g = A.add (A.ns i g) (A.ns (j - i) g):=by rw [← A.ns_add,Nat.add_sub_cancel' (Nat.le_of_lt hij)]
  rw [this] at e;refine A.cancel (a:=A.ns i g) ?_;rw [← e,A.addz]
 rcases Nat.lt_trichotomy i j with q | q | q
 ·exact (key i j q hj e).elim
 ·exact q
 ·exact (key j i q hi e.symm).elim
theorem ns_dvd {g : G} {N : Nat} (hN : 0 < N) (h0 : A.ns N g = A.zero) (h : ∀ k,0 < k → k < N → A.ns k g ≠ A.zero) (a : Nat) : A.ns a g = A.zero ↔ N ∣ a:=by
 constructor
 ·intro e;refine Nat.dvd_of_mod_eq_zero ?_
  rcases Nat.eq_zero_or_pos (a % N) with q | q
  ·exact q
  ·exact (h (a % N) q (Nat.mod_lt _ hN) (by rw [A.ns_modz h0]; exact e)).elim
 ·rintro ⟨f,rfl⟩
  rw [A.ns_mul,h0,A.ns_zero]
theorem ns_back {g : G} {N : Nat} (h0 : A.ns N g = A.zero) {j : Nat} (hj : j ≤ N) : A.add (A.ns j g) (A.ns (N - j) g) = A.zero:=by
 rw [← A.ns_add,Nat.add_sub_cancel' hj,h0]
theorem cyclic {g : G} {N M : Nat} (hN : N % 2 = 1) (h0 : A.ns N g = A.zero) (h : ∀ k,0 < k → k < N → A.ns k g ≠ A.zero) (two : ∀ P,A.add P P = A.zero → P = A.zero)
  (code : G → Nat) (hc : ∀ P,code P < M) (hi : ∀ P Q,code P = code Q → P = Q) (hM : M < 3 * N) (P : G) : ∃ k,P = A.ns k g:=by
 apply Classical.byContradiction;intro hP;have hsub : ∀ i j,j < N → ∀ Q,A.ns i g = A.add Q (A.ns j g) → ∃ k,Q = A.ns k g:=fun i j hj Q e => by
  refine ⟨i + (N - j),?_⟩;rw [A.ns_add,e,A.assoc,A.ns_back h0 (Nat.le_of_lt hj),A.addz]
 by_cases hD : ∃ k,A.add P P = A.ns k g
 ·obtain ⟨k,hk⟩:=hD;obtain ⟨j,hj⟩ : ∃ j,A.ns (j + j) g = A.add P P:=by
   rcases Nat.mod_two_eq_zero_or_one k with q | q
   ·exact ⟨k / 2,by rw [hk,show k / 2 + k / 2 = k by omega]⟩
   ·refine ⟨(k + N) / 2,?_⟩;rw [hk,show (k + N) / 2 + (k + N) / 2 = k + N by omega,A.ns_add,h0,A.addz]
  have hz:=two (A.add P (A.neg (A.ns j g))) (by
   rw [A.add4,← hj,← A.neg_add,← A.ns_add,A.addn])
  refine hP ⟨j,?_⟩;refine A.cancel (a:=A.neg (A.ns j g)) ?_;rw [A.nadd,A.comm,hz]
 ·have pg:=aAj (3 * N) (fun i => if i < N then code (A.ns i g) else if i < 2 * N then code (A.add P (A.ns (i - N) g)) else code (A.add (A.add P P) (A.ns (i - 2 * N) g)))
   (fun i _ => by
    show (if i < N then _ else if i < 2 * N then _ else _) < 3 * N;split
    ·exact Nat.lt_trans (hc _) hM
    ·split
     ·exact Nat.lt_trans (hc _) hM
     ·exact Nat.lt_trans (hc _) hM)
   (fun i j hi3 hj3 e => by
    have e' : (if i < N then code (A.ns i g) else if i < 2 * N then code (A.add P (A.ns (i - N) g)) else code (A.add (A.add P P) (A.ns (i - 2 * N) g))) = (if j < N then code (A.ns j g) else if j < 2 * N then code (A.add P (A.ns (j - N) g)) else code (A.add (A.add P P) (A.ns (j - 2 * N) g))):=e
    by_cases i1 : i < N
    ·rw [if_pos i1] at e'
     by_cases j1 : j < N
     ·rw [if_pos j1] at e';exact A.ns_inj h i1 j1 (hi _ _ e')
     ·rw [if_neg j1] at e'
      by_cases j2 : j < 2 * N
      ·rw [if_pos j2] at e';exact (hP (hsub _ _ (by omega) _ (hi _ _ e'))).elim
      ·rw [if_neg j2] at e';exact (hD (hsub _ _ (by omega) _ (hi _ _ e'))).elim
    ·rw [if_neg i1] at e'
     by_cases i2 : i < 2 * N
     ·rw [if_pos i2] at e'
      by_cases j1 : j < N
      ·rw [if_pos j1] at e';exact (hP (hsub _ _ (by omega) _ (hi _ _ e'.symm))).elim
      ·rw [if_neg j1] at e'
       by_cases j2 : j < 2 * N
       ·rw [if_pos j2] at e';have:=A.ns_inj h (i:=i - N) (j:=j - N) (by omega) (by omega) (A.cancel (hi _ _ e'));omega
       ·rw [if_neg j2] at e';have e2:=hi _ _ e';rw [A.assoc] at e2;exact (hP (hsub _ _ (by omega) _ (A.cancel e2))).elim
     ·rw [if_neg i2] at e'
      by_cases j1 : j < N
      ·rw [if_pos j1] at e';exact (hD (hsub _ _ (by omega) _ (hi _ _ e'.symm))).elim
      ·rw [if_neg j1] at e'
       by_cases j2 : j < 2 * N
       ·rw [if_pos j2] at e';have e2:=(hi _ _ e').symm;rw [A.assoc] at e2;exact (hP (hsub _ _ (by omega) _ (A.cancel e2))).elim
       ·rw [if_neg j2] at e';have:=A.ns_inj h (i:=i - 2 * N) (j:=j - 2 * N) (by omega) (by omega) (A.cancel (hi _ _ e'));omega) M hM
  obtain ⟨i,_,hiM⟩:=pg;have : (if i < N then code (A.ns i g) else if i < 2 * N then code (A.add P (A.ns (i - N) g)) else code (A.add (A.add P P) (A.ns (i - 2 * N) g))) = M:=hiM;have hlt : (if i < N then code (A.ns i g) else if i < 2 * N then code (A.add P (A.ns (i - N) g)) else code (A.add (A.add P P) (A.ns (i - 2 * N) g))) < M:=by
   split
   ·exact hc _
   ·split
    ·exact hc _
    ·exact hc _
  omega
end AG
end Go.Proofs.YtglgakbkdjhojaaGreat.Ex
namespace Go.Proofs.YtglgakbkdjhojaaGreat
open Go.Proofs.Tryz
theorem Sn : dV 10069:=aO 10069 100 (by decide) (by decide) (by kernel_rfl)
theorem aGK : dV 181:=aO 181 13 (by decide) (by decide) (by kernel_rfl)
theorem OP : Root 5864401 38:=by
 refine bA (l:=[2,2,2,2,3,3,3,3,5,5,181]) (by kernel_rfl) fun q hq => ?_
 simp only [List.mem_cons,List.not_mem_nil,or_false] at hq
 rcases hq with rfl | rfl | rfl | rfl | rfl | rfl | rfl | rfl | rfl | rfl | rfl
 ·exact aT
 ·exact aT
 ·exact aT
 ·exact aT
 ·exact fG
 ·exact fG
 ·exact fG
 ·exact fG
 ·exact kO
 ·exact kO
 ·exact aGK
theorem WQ : dV 5864401:=OP.prm
theorem aGJ : dV 199:=aO 199 14 (by decide) (by decide) (by kernel_rfl)
theorem Zw : dV 1511:=aO 1511 38 (by decide) (by decide) (by kernel_rfl)
theorem WC : Root 601379 2:=by
 refine bA (l:=[2,199,1511]) (by kernel_rfl) fun q hq => ?_
 simp only [List.mem_cons,List.not_mem_nil,or_false] at hq
 rcases hq with rfl | rfl | rfl
 ·exact aT
 ·exact aGJ
 ·exact Zw
theorem Dt : dV 601379:=WC.prm
theorem yT : Root 17367825521 3:=by
 refine bA (l:=[2,2,2,2,5,19,19,601379]) (by kernel_rfl) fun q hq => ?_
 simp only [List.mem_cons,List.not_mem_nil,or_false] at hq
 rcases hq with rfl | rfl | rfl | rfl | rfl | rfl | rfl | rfl
 ·exact aT
 ·exact aT
 ·exact aT
 ·exact aT
 ·exact kO
 ·exact yY
 ·exact yY
 ·exact Dt
theorem BX : dV 17367825521:=yT.prm
theorem uV : Root 1875725156269 2:=by
 refine bA (l:=[2,2,3,3,3,17367825521]) (by kernel_rfl) fun q hq => ?_
 simp only [List.mem_cons,List.not_mem_nil,or_false] at hq
 rcases hq with rfl | rfl | rfl | rfl | rfl | rfl
 ·exact aT
 ·exact aT
 ·exact fG
 ·exact fG
 ·exact fG
 ·exact BX
theorem xA : dV 1875725156269:=uV.prm
theorem aMV : dV 59:=aO 59 7 (by decide) (by decide) (by kernel_rfl)
theorem aMW : dV 43:=aO 43 6 (by decide) (by decide) (by kernel_rfl)
theorem Zu : dV 23:=aO 23 4 (by decide) (by decide) (by kernel_rfl)
theorem aGC : dV 727:=aO 727 26 (by decide) (by decide) (by kernel_rfl)
theorem WG : Root 133769 3:=by
 refine bA (l:=[2,2,2,23,727]) (by kernel_rfl) fun q hq => ?_
 simp only [List.mem_cons,List.not_mem_nil,or_false] at hq
 rcases hq with rfl | rfl | rfl | rfl | rfl
 ·exact aT
 ·exact aT
 ·exact aT
 ·exact Zu
 ·exact aGC
theorem Dx : dV 133769:=WG.prm
theorem aMU : dV 61:=aO 61 7 (by decide) (by decide) (by kernel_rfl)
theorem aGM : dV 149:=aO 149 12 (by decide) (by decide) (by kernel_rfl)
theorem OQ : Root 5835139 3:=by
 refine bA (l:=[2,3,61,107,149]) (by kernel_rfl) fun q hq => ?_
 simp only [List.mem_cons,List.not_mem_nil,or_false] at hq
 rcases hq with rfl | rfl | rfl | rfl | rfl
 ·exact aT
 ·exact fG
 ·exact aMU
 ·exact Jb
 ·exact aGM
theorem WR : dV 5835139:=OQ.prm
theorem ES : Root 758568071 14:=by
 refine bA (l:=[2,5,13,5835139]) (by kernel_rfl) fun q hq => ?_
 simp only [List.mem_cons,List.not_mem_nil,or_false] at hq
 rcases hq with rfl | rfl | rfl | rfl
 ·exact aT
 ·exact kO
 ·exact PA
 ·exact WR
theorem JY : dV 758568071:=ES.prm
theorem oB : Root 1309000310535827101 2:=by
 refine bA (l:=[2,2,3,5,5,43,133769,758568071]) (by kernel_rfl) fun q hq => ?_
 simp only [List.mem_cons,List.not_mem_nil,or_false] at hq
 rcases hq with rfl | rfl | rfl | rfl | rfl | rfl | rfl | rfl
 ·exact aT
 ·exact aT
 ·exact fG
 ·exact kO
 ·exact kO
 ·exact aMW
 ·exact Dx
 ·exact JY
theorem oY : dV 1309000310535827101:=oB.prm
theorem aGL : dV 157:=aO 157 12 (by decide) (by decide) (by kernel_rfl)
theorem OV : Root 1233079 11:=by
 refine bA (l:=[2,3,7,11,17,157]) (by kernel_rfl) fun q hq => ?_
 simp only [List.mem_cons,List.not_mem_nil,or_false] at hq
 rcases hq with rfl | rfl | rfl | rfl | rfl | rfl
 ·exact aT
 ·exact fG
 ·exact FB
 ·exact PB
 ·exact Zv
 ·exact aGL
theorem WX : dV 1233079:=OV.prm
theorem Zy : dV 1031:=aO 1031 32 (by decide) (by decide) (by kernel_rfl)
theorem Sk : dV 77339:=aO 77339 278 (by decide) (by decide) (by kernel_rfl)
theorem Zs : dV 3359:=aO 3359 57 (by decide) (by decide) (by kernel_rfl)
theorem WE : Root 268721 3:=by
 refine bA (l:=[2,2,2,2,5,3359]) (by kernel_rfl) fun q hq => ?_
 simp only [List.mem_cons,List.not_mem_nil,or_false] at hq
 rcases hq with rfl | rfl | rfl | rfl | rfl | rfl
 ·exact aT
 ·exact aT
 ·exact aT
 ·exact aT
 ·exact kO
 ·exact Zs
theorem Dv : dV 268721:=WE.prm
theorem OT : Root 1612327 5:=by
 refine bA (l:=[2,3,268721]) (by kernel_rfl) fun q hq => ?_
 simp only [List.mem_cons,List.not_mem_nil,or_false] at hq
 rcases hq with rfl | rfl | rfl
 ·exact aT
 ·exact fG
 ·exact Dv
theorem WV : dV 1612327:=OT.prm
theorem rW : Root 677736056450657 3:=by
 refine bA (l:=[2,2,2,2,2,7,23,83,983,1612327]) (by kernel_rfl) fun q hq => ?_
 simp only [List.mem_cons,List.not_mem_nil,or_false] at hq
 rcases hq with rfl | rfl | rfl | rfl | rfl | rfl | rfl | rfl | rfl | rfl
 ·exact aT
 ·exact aT
 ·exact aT
 ·exact aT
 ·exact aT
 ·exact FB
 ·exact Zu
 ·exact Zo
 ·exact OZ
 ·exact WV
theorem tV : dV 677736056450657:=rW.prm
theorem mP : Root 209661715479349446893 2:=by
 refine bA (l:=[2,2,77339,677736056450657]) (by kernel_rfl) fun q hq => ?_
 simp only [List.mem_cons,List.not_mem_nil,or_false] at hq
 rcases hq with rfl | rfl | rfl | rfl
 ·exact aT
 ·exact aT
 ·exact Sk
 ·exact tV
theorem nN : dV 209661715479349446893:=mP.prm
theorem jY : Root 3458579658547348475946929 3:=by
 refine bA (l:=[2,2,2,2,1031,209661715479349446893]) (by kernel_rfl) fun q hq => ?_
 simp only [List.mem_cons,List.not_mem_nil,or_false] at hq
 rcases hq with rfl | rfl | rfl | rfl | rfl | rfl
 ·exact aT
 ·exact aT
 ·exact aT
 ·exact aT
 ·exact Zy
 ·exact nN
theorem kP : dV 3458579658547348475946929:=jY.prm
theorem gE : Root 213235097339095295568608163219551 31:=by
 refine bA (l:=[2,5,5,1233079,3458579658547348475946929]) (by kernel_rfl) fun q hq => ?_
 simp only [List.mem_cons,List.not_mem_nil,or_false] at hq
 rcases hq with rfl | rfl | rfl | rfl | rfl
 ·exact aT
 ·exact kO
 ·exact kO
 ·exact WX
 ·exact kP
theorem gK : dV 213235097339095295568608163219551:=gE.prm
theorem cZ : Root 197620364512881247228717050342013327560683201906968909 2:=by
 refine bA (l:=[2,2,3,59,1309000310535827101,213235097339095295568608163219551]) (by kernel_rfl) fun q hq => ?_
 simp only [List.mem_cons,List.not_mem_nil,or_false] at hq
 rcases hq with rfl | rfl | rfl | rfl | rfl | rfl
 ·exact aT
 ·exact aT
 ·exact fG
 ·exact aMV
 ·exact oY
 ·exact gK
theorem dB : dV 197620364512881247228717050342013327560683201906968909:=cZ.prm
end Go.Proofs.YtglgakbkdjhojaaGreat
namespace Go.Proofs.YtglgakbkdjhojaaGreat.Ex
open Go.Proofs.Tryz
open Go.RowKit
def TN : Q2:=(⟨2,by decide⟩,⟨1,by decide⟩)
def Al : Q2:=(⟨7292567877523311580221095596750716176434782432868683424513645834767876293070,by decide⟩,⟨19659275751359636165940301690575149581329631496732780143538578556285923319774,by decide⟩)
def JD : Nat:=479095176016622842441988045216678740799252316531100822436447802254070093686356349204969212544220033486413271283566945264650845755880805213916963058350733
def twM : Nat:=287457105609973705413735949925891179998572849537316190965553840838426151215824331271088064391342496698406609565003789524066463657087527623491112425449299
theorem Vl : On F2 dF (some (TN,Al)):=by
 show F2.mul Al Al = F2.add (F2.mul TN (F2.mul TN TN)) dF;exact of_decide_eq_true (by kernel_rfl)
def SW : C2:=⟨some (TN,Al),Vl⟩
theorem Av : Rp aZ (TN,Al,F2.one) SW:=aZ.jto_one _ _
theorem aWh : (SY F2 (TN,Al,F2.one) JD 508 508).2.2 = F2.zero:=of_decide_eq_true (by kernel_rfl)
theorem aLD : (SY F2 (TN,Al,F2.one) 21888242871839275222246405745257275088844257914179612981679871602714643921549 508 508).2.2 ≠ F2.zero:=of_decide_eq_true (by kernel_rfl)
theorem aLC : (SY F2 (TN,Al,F2.one) 47581207271489010074683488451353534690560365133687637544587129035065060451520145913692443394996527310200940637954806362563397135354136976255533127257 508 508).2.2 ≠ F2.zero:=of_decide_eq_true (by kernel_rfl)
theorem aLB : (SY F2 (TN,Al,F2.one) 81695500702735512534355690413510048306596413944254634435204516583035521221409714172848891565263022342164744751180375500353888786916311693882625533 508 508).2.2 ≠ F2.zero:=of_decide_eq_true (by kernel_rfl)
theorem aLA : (SY F2 (TN,Al,F2.one) 255418644045692602095536823547820102522999221828645151339294751423486163211343406059815000057572293107810899582329754326227174532880069378657 508 508).2.2 ≠ F2.zero:=of_decide_eq_true (by kernel_rfl)
theorem aLz : (SY F2 (TN,Al,F2.one) 2424320880075062131686333725919013315836351602446602932909956992302697742401182419325566481532687937 508 508).2.2 ≠ F2.zero:=of_decide_eq_true (by kernel_rfl)
theorem aLG : JD < 2 ^ 508:=of_decide_eq_true (by kernel_rfl)
theorem aLH : twM < 2 ^ 508:=of_decide_eq_true (by kernel_rfl)
theorem NJ : aZ.grp.ns JD SW = aZ.grp.zero:=Subtype.ext ((DH Av JD 508 aLG).symm.trans (dE aWh))
theorem TL {n : Nat} (hn : n < 2 ^ 508) (h : (SY F2 (TN,Al,F2.one) n 508 508).2.2 ≠ F2.zero) : aZ.grp.ns n SW ≠ aZ.grp.zero:=fun e => by
 have h1 : fT F2 dT (SY F2 (TN,Al,F2.one) n 508 508) = (aZ.grp.ns n SW).1:=DH Av n 508 hn;rw [e,dR h] at h1;cases h1
def twL : List Nat:=[21888242871839275222246405745257275088548364400416034343698204186575808495617,10069,5864401,1875725156269,197620364512881247228717050342013327560683201906968909]
theorem Vn : twL.foldr (· * ·) 1 = JD:=by kernel_rfl
theorem aET : ∀ q,q ∈ twL → dV q:=fun q hq => by
 simp only [twL,List.mem_cons,List.not_mem_nil,or_false] at hq
 rcases hq with rfl | rfl | rfl | rfl | rfl
 ·exact aJL
 ·exact Sn
 ·exact WQ
 ·exact xA
 ·exact dB
theorem aLJ : ∀ q,q ∈ twL → aZ.grp.ns (JD / q) SW ≠ aZ.grp.zero:=fun q hq => by
 simp only [twL,List.mem_cons,List.not_mem_nil,or_false] at hq
 rcases hq with rfl | rfl | rfl | rfl | rfl
 ·rw [show JD / 21888242871839275222246405745257275088548364400416034343698204186575808495617 = 21888242871839275222246405745257275088844257914179612981679871602714643921549 by kernel_rfl]; exact TL (of_decide_eq_true (by kernel_rfl)) aLD
 ·rw [show JD / 10069 = 47581207271489010074683488451353534690560365133687637544587129035065060451520145913692443394996527310200940637954806362563397135354136976255533127257 by kernel_rfl]; exact TL (of_decide_eq_true (by kernel_rfl)) aLC
 ·rw [show JD / 5864401 = 81695500702735512534355690413510048306596413944254634435204516583035521221409714172848891565263022342164744751180375500353888786916311693882625533 by kernel_rfl]; exact TL (of_decide_eq_true (by kernel_rfl)) aLB
 ·rw [show JD / 1875725156269 = 255418644045692602095536823547820102522999221828645151339294751423486163211343406059815000057572293107810899582329754326227174532880069378657 by kernel_rfl]; exact TL (of_decide_eq_true (by kernel_rfl)) aLA
 ·rw [show JD / 197620364512881247228717050342013327560683201906968909 = 2424320880075062131686333725919013315836351602446602932909956992302697742401182419325566481532687937 by kernel_rfl]; exact TL (of_decide_eq_true (by kernel_rfl)) aLz
theorem DX : ∀ k,0 < k → k < JD → aZ.grp.ns k SW ≠ aZ.grp.zero:=aZ.grp.exact Vn aET NJ aLJ
theorem aLw (P : C2) (h : aZ.grp.add P P = aZ.grp.zero) : P = aZ.grp.zero:=by
 have h1 : aZ.grp.neg P = P:=by
  refine aZ.grp.cancel (a:=P) ?_;rw [aZ.grp.addn,h]
 obtain ⟨P,hP⟩:=P;cases P with
 | none => rfl
 | some p =>
  have h2 : some (p.1,F2.neg p.2) = some p:=congrArg Subtype.val h1;have h3 : F2.neg p.2 = p.2:=by injection h2 with h2; exact congrArg Prod.snd h2
  have h4 : F2.add p.2 p.2 = F2.zero:=by
   conv => lhs; lhs; rw [← h3]
   exact F2.neg_add _
  exact (aZ.dbl_ne (aZ.y_ne (x:=p.1) hP) h4).elim
open Classical in
def lW (x : Q2) : Q2:=if h : ∃ y,On F2 dF (some (x,y)) then h.choose else F2.zero
open Classical in
def yG (P : C2) : Nat:=match P.1 with
 | none => 2 * (FP.M * FP.M)
 | some p => 2 * (p.1.1.1 + FP.M * p.1.2.1) + (if p.2 = lW p.1 then 0 else 1)
theorem Fg {a b M : Nat} (ha : a < M) (hb : b < M) : a + M * b < M * M:=by
 have : M * (b + 1) ≤ M * M:=Nat.mul_le_mul_left _ hb;rw [Nat.mul_add,Nat.mul_one] at this;omega
theorem Ob (P : C2) : yG P < 2 * (FP.M * FP.M) + 1:=by
 obtain ⟨P,hP⟩:=P;unfold yG;cases P with
 | none => exact Nat.lt_succ_self _
 | some p =>
  have:=Fg p.1.1.2 p.1.2.2;show 2 * (p.1.1.1 + FP.M * p.1.2.1) + (if p.2 = lW p.1 then 0 else 1) < _;split <;> omega
theorem aHQ {a b c d M : Nat} (ha : a < M) (hc : c < M) (h : a + M * b = c + M * d) : a = c ∧ b = d:=by
 have h1:=congrArg (· % M) h;simp only [Nat.add_mul_mod_self_left,Nat.mod_eq_of_lt ha,Nat.mod_eq_of_lt hc] at h1;refine ⟨h1,?_⟩;rw [h1] at h;have hM : 0 < M:=by omega
 exact Nat.eq_of_mul_eq_mul_left hM (by omega)
theorem Aw (P Q : C2) (h : yG P = yG Q) : P = Q:=by
 obtain ⟨P,hP⟩:=P;obtain ⟨Q,hQ⟩:=Q;refine Subtype.ext ?_;show P = Q;unfold yG at h;cases P with
 | none =>
  cases Q with
  | none => rfl
  | some q =>
   have:=Fg q.1.1.2 q.1.2.2;have h' : 2 * (FP.M * FP.M) = 2 * (q.1.1.1 + FP.M * q.1.2.1) + (if q.2 = lW q.1 then 0 else 1):=h;split at h' <;> omega
 | some p =>
  cases Q with
  | none =>
   have:=Fg p.1.1.2 p.1.2.2;have h' : 2 * (p.1.1.1 + FP.M * p.1.2.1) + (if p.2 = lW p.1 then 0 else 1) = 2 * (FP.M * FP.M):=h;split at h' <;> omega
  | some q =>
   have h' : 2 * (p.1.1.1 + FP.M * p.1.2.1) + (if p.2 = lW p.1 then 0 else 1) = 2 * (q.1.1.1 + FP.M * q.1.2.1) + (if q.2 = lW q.1 then 0 else 1):=h;have hx : p.1.1.1 + FP.M * p.1.2.1 = q.1.1.1 + FP.M * q.1.2.1 ∧ ((p.2 = lW p.1) ↔ (q.2 = lW q.1)):=by
    by_cases a : p.2 = lW p.1
    ·rw [if_pos a] at h'
     by_cases b : q.2 = lW q.1
     ·rw [if_pos b] at h'; exact ⟨by omega,fun _ => b,fun _ => a⟩
     ·rw [if_neg b] at h'; omega
    ·rw [if_neg a] at h'
     by_cases b : q.2 = lW q.1
     ·rw [if_pos b] at h'; omega
     ·rw [if_neg b] at h'; exact ⟨by omega,fun h => (a h).elim,fun h => (b h).elim⟩
   obtain ⟨e1,e2⟩:=aHQ p.1.1.2 q.1.1.2 hx.1;have ex : p.1 = q.1:=Prod.ext (Fin.ext e1) (Fin.ext e2);obtain ⟨px,py⟩:=p;obtain ⟨qx,qy⟩:=q;have ex' : px = qx:=ex;subst ex';have hb : (py = lW px) ↔ (qy = lW px):=hx.2;refine congrArg (fun y => some (px,y)) ?_
   by_cases a : py = lW px
   ·rw [a,← hb.1 a]
   ·have b : qy ≠ lW px:=fun h => a (hb.2 h)
    have hy0 : On F2 dF (some (px,lW px)):=by
     have hex : ∃ y,On F2 dF (some (px,y)):=⟨py,hP⟩
     unfold lW;rw [dif_pos hex];exact hex.choose_spec
    have s1 : F2.add py (lW px) = F2.zero:=EI aZ ((show F2.mul py py = _ from hP).trans (show F2.mul (lW px) (lW px) = _ from hy0).symm) a;have s2 : F2.add qy (lW px) = F2.zero:=EI aZ ((show F2.mul qy qy = _ from hQ).trans (show F2.mul (lW px) (lW px) = _ from hy0).symm) b;refine F2.add_cancel (a:=lW px) ?_;rw [F2.add_comm,s1,F2.add_comm,s2]
theorem aLE : 2 * (FP.M * FP.M) + 1 < 3 * JD:=of_decide_eq_true (by kernel_rfl)
theorem aLy : JD % 2 = 1:=by kernel_rfl
theorem aLF (P : C2) : ∃ k,P = aZ.grp.ns k SW:=aZ.grp.cyclic aLy NJ DX aLw yG Ob Aw aLE P
def aWk : Q2:=F2.mul (aJ TN) iZ
def aWj : Q2:=F2.mul (aJ Al) nC
def twJ : J2:=SY F2 (TN,Al,F2.one) twM 508 508
theorem aWn : twJ.2.2 ≠ F2.zero:=of_decide_eq_true (by kernel_rfl)
theorem aWp : twJ.1 = F2.mul aWk (F2.mul twJ.2.2 twJ.2.2):=of_decide_eq_true (by kernel_rfl)
theorem aWo : twJ.2.1 = F2.mul aWj (F2.mul (F2.mul twJ.2.2 twJ.2.2) twJ.2.2):=of_decide_eq_true (by kernel_rfl)
theorem aLZ : Rp aZ twJ (aZ.grp.ns twM SW):=DH Av twM 508 aLH
theorem aLx : pR SW = aZ.grp.ns twM SW:=by
 refine Subtype.ext ?_;rw [← show fT F2 dT twJ = (aZ.grp.ns twM SW).1 from aLZ,aBP aZ aWn aWp aWo];show JX (some (TN,Al)) = _
 kernel_rfl
def twC : Nat:=287457105609973705413735949925891179998572849537316190965553840838426151215824331271088064391342496698406609565003641577309581867768536789783043007736333
def twU : Nat:=4377648574367855045624726741130453375770005524880588749457117171343633558474
def twW : Nat:=2626589144620713026904657807846672682105704487528335372401875091607964744325
theorem aLK : twM = cF + twC:=by kernel_rfl
theorem aEU : twC = oQ * 13132945723103565130996952262996368337156300107536646163745009583754801998349:=by kernel_rfl
theorem aSg : twC * twU = oQ + JD * twW:=by kernel_rfl
theorem Vk : 0 < JD:=of_decide_eq_true (by kernel_rfl)
theorem Fe (P : C2) : aZ.grp.ns cF P = pR P ↔ aZ.grp.ns oQ P = aZ.grp.zero:=by
 obtain ⟨k,rfl⟩:=aLF P;have e1 : pR (aZ.grp.ns k SW) = aZ.grp.add (aZ.grp.ns cF (aZ.grp.ns k SW)) (aZ.grp.ns (k * twC) SW):=by
  rw [EZ,aLx,← aZ.grp.ns_mul,← aZ.grp.ns_mul,← aZ.grp.ns_add,aLK,Nat.add_mul,Nat.mul_comm cF,Nat.mul_comm twC]
 have e2 : aZ.grp.ns cF (aZ.grp.ns k SW) = pR (aZ.grp.ns k SW) ↔ aZ.grp.ns (k * twC) SW = aZ.grp.zero:=by
  rw [e1];constructor
  ·intro h;refine aZ.grp.cancel (a:=aZ.grp.ns cF (aZ.grp.ns k SW)) ?_;rw [← h,aZ.grp.addz]
  ·intro h;rw [h,aZ.grp.addz]
 rw [e2,← aZ.grp.ns_mul,aZ.grp.ns_dvd Vk NJ DX,aZ.grp.ns_dvd Vk NJ DX];constructor
 ·rintro ⟨f,hf⟩
  have h1 : k * oQ + JD * (k * twW) = JD * (f * twU):=by
   have h2 : k * (twC * twU) = JD * (f * twU):=by rw [← Nat.mul_assoc,hf,Nat.mul_assoc]
   rw [aSg,Nat.mul_add,Nat.mul_left_comm k JD] at h2;exact h2
  have h3 : JD ∣ k * oQ + JD * (k * twW):=⟨_,h1⟩;exact (Nat.dvd_add_left ⟨_,rfl⟩).1 h3
 ·rintro ⟨f,hf⟩
  rw [aEU,← Nat.mul_assoc,hf];exact ⟨f * 13132945723103565130996952262996368337156300107536646163745009583754801998349,Nat.mul_assoc _ _ _⟩
end Go.Proofs.YtglgakbkdjhojaaGreat.Ex
