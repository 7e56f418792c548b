/- Pc11 -/
import Derived.Test.YtglgakbkdjhojaaGreatPc10
import Derived.Test.YtglgakbkdjhojaaGreatPc08
import Derived.Test.YtglgakbkdjhojaaGreatPc03
import Derived.Test.YtglgakbkdjhojaaGreatPc04
import Derived.Test.YtglgakbkdjhojaaGreatProg
set_option maxRecDepth 100000
set_option linter.unusedVariables false
set_option linter.unusedSimpArgs false
noncomputable section
namespace Go.Proofs.YtglgakbkdjhojaaGreat.Ex
open Go.Proofs.Tryz
section
variable {R S:Type} {K:CR R} {L:CR S}
structure Hm (K:CR R) (L:CR S) (φ:R→S):Prop where
 add:∀a b,φ (K.add a b)=L.add (φ a) (φ b)
 mul:∀a b,φ (K.mul a b)=L.mul (φ a) (φ b)
 zero:φ K.zero=L.zero
 one:φ K.one=L.one
def iH (L:CR S) (φ:R→S) (x:S):Nat→(Nat→R)→S
 | 0,_=>L.zero
 | n+1,f=>L.add (φ (f 0)) (L.mul x (iH L φ x n (tl f)))
variable {φ:R→S} (H:Hm K L φ) (x:S)
include H
theorem QI:∀(n:Nat) (f:Nat→R),(∀i,f i=K.zero)→iH L φ x n f=L.zero
 | 0,_,_=>rfl
 | n+1,f,h=>by
  show L.add (φ (f 0)) (L.mul x (iH L φ x n (tl f)))=_;rw[h 0,H.zero,QI n (tl f) (fun i=>h (i+1)),L.mul_zero,L.add_zero]
theorem DR:∀(a n:Nat) (f:Nat→R),(∀i,a≤i→f i=K.zero)→a≤n→iH L φ x n f=iH L φ x a f
 | 0,n,f,h,_=>QI H x n f (fun i=>h i (Nat.zero_le _))
 | a+1,0,f,h,hn=>absurd hn (by omega)
 | a+1,n+1,f,h,hn=>by
  show L.add _ (L.mul x (iH L φ x n (tl f)))=L.add _ (L.mul x (iH L φ x a (tl f)));rw[DR a n (tl f) (fun i hi=>h (i+1) (by omega)) (by omega)]
theorem GL:∀(n:Nat) (f g:Nat→R),iH L φ x n (SF K f g)=L.add (iH L φ x n f) (iH L φ x n g)
 | 0,_,_=>(L.add_zero _).symm
 | n+1,f,g=>by
  show L.add (φ (K.add (f 0) (g 0))) (L.mul x (iH L φ x n (SF K (tl f) (tl g))))=L.add (L.add (φ (f 0)) (L.mul x (iH L φ x n (tl f)))) (L.add (φ (g 0)) (L.mul x (iH L φ x n (tl g))));rw[GL n,H.add];exact aE L (aU L [φ (f 0),φ (g 0),x,iH L φ x n (tl f),iH L φ x n (tl g)]) (Z0+Z1+Z2*(Z3+Z4)) (Z0+Z2*Z3+(Z1+Z2*Z4)) (by kernel_rfl)
theorem Ku:∀(n:Nat) (c:R) (f:Nat→R),iH L φ x n (fsc K c f)=L.mul (φ c) (iH L φ x n f)
 | 0,_,_=>(L.mul_zero _).symm
 | n+1,c,f=>by
  show L.add (φ (K.mul c (f 0))) (L.mul x (iH L φ x n (fsc K c (tl f))))=L.mul (φ c) (L.add (φ (f 0)) (L.mul x (iH L φ x n (tl f))));rw[Ku n,H.mul,L.mul_add,L.mul_left_comm]
theorem YR:∀(a:Nat) (f g:Nat→R) (b n:Nat),(∀i,a≤i→f i=K.zero)→(∀i,b≤i→g i=K.zero)→a+b≤n→iH L φ x n (DI K f g)=L.mul (iH L φ x a f) (iH L φ x b g)
 | 0,f,g,b,n,hf,hg,hn=>by
  have e:f=fze K:=funext fun i=>hf i (Nat.zero_le _)
  subst e;rw[QI H x n (DI K (fze K) g) (fun i=>SR K i g)];exact (L.zero_mul _).symm
 | a+1,f,g,b,0,hf,hg,hn=>absurd hn (by omega)
 | a+1,f,g,b,n+1,hf,hg,hn=>by
  have e:tl (DI K f g)=SF K (fsc K (f 0) (tl g)) (DI K (tl f) g):=rfl;show L.add (φ (K.mul (f 0) (g 0))) (L.mul x (iH L φ x n (tl (DI K f g))))=L.mul (L.add (φ (f 0)) (L.mul x (iH L φ x a (tl f)))) (iH L φ x b g);rw[e,GL H,Ku H,YR a (tl f) g b n (fun i hi=>hf (i+1) (by omega)) hg (by omega),H.mul];have e2:iH L φ x b g=L.add (φ (g 0)) (L.mul x (iH L φ x n (tl g))):=(DR H x b (n+1) g hg (by omega)).symm;rw[e2];exact aE L (aU L [φ (f 0),φ (g 0),x,iH L φ x n (tl g),iH L φ x a (tl f)]) (Z0*Z1+Z2*(Z0*Z3+Z4*(Z1+Z2*Z3))) ((Z0+Z2*Z4)*(Z1+Z2*Z3)) (by kernel_rfl)
omit H in
def oW (L:CR S) (φ:R→S) (x:S) (f:Pol K):S:=iH L φ x (Classical.choose f.2) f.1
theorem qU (f:Pol K) (n:Nat) (h:∀i,n≤i→f.1 i=K.zero):oW L φ x f=iH L φ x n f.1:=by
 have h':=Classical.choose_spec f.2;unfold oW;generalize Classical.choose f.2=m at h' ⊢;rw[←DR H x m (m+n) f.1 h' (by omega),←DR H x n (m+n) f.1 h (by omega)]
theorem uB (f g:Pol K):oW L φ x (aW.add f g)=L.add (oW L φ x f) (oW L φ x g):=by
 obtain⟨a,ha⟩:=f.2;obtain⟨b,hb⟩:=g.2;rw[qU H x f (a+b) (fun i hi=>ha i (by omega)),qU H x g (a+b) (fun i hi=>hb i (by omega)),←GL H];exact qU H x (aW.add f g) (a+b) (fun i hi=>by show K.add (f.1 i) (g.1 i)=_; rw[ha i (by omega),hb i (by omega),K.add_zero])
theorem qT (f g:Pol K):oW L φ x (aW.mul f g)=L.mul (oW L φ x f) (oW L φ x g):=by
 obtain⟨a,ha⟩:=f.2;obtain⟨b,hb⟩:=g.2;rw[qU H x f a ha,qU H x g b hb,←YR H x a f.1 g.1 b (a+b) ha hb (Nat.le_refl _)];exact qU H x (aW.mul f g) (a+b) (fun i hi=>SS K a b f.1 g.1 ha hb i (by omega))
theorem Fr (c:R):oW L φ x (kQ c:Pol K)=φ c:=by
 rw[qU H x (kQ c) 1 (fun i hi=>by cases i with|zero=>omega|succ i=>rfl)];show L.add (φ c) (L.mul x L.zero)=_;rw[L.mul_zero,L.add_zero]
theorem aLh:oW L φ x (pX:Pol K)=x:=by
 rw[qU H x pX 2 (fun i hi=>by match i,hi with|i+2,_=>rfl)];show L.add (φ K.zero) (L.mul x (L.add (φ K.one) (L.mul x L.zero)))=_;rw[H.zero,H.one,L.mul_zero,L.add_zero,L.mul_one,L.zero_add]
theorem sT:oW L φ x (aW.zero:Pol K)=L.zero:=by
 rw[qU H x aW.zero 0 (fun i hi=>rfl)];rfl
theorem Ks:oW L φ x (aW.one:Pol K)=L.one:=(Fr H x K.one).trans H.one
theorem Kt (f:Pol K):oW L φ x (aW.neg f)=L.neg (oW L φ x f):=by
 have h:=uB H x f (aW.neg f);rw[aW.add_neg,sT H]at h;apply L.add_cancel (a:=oW L φ x f);rw[←h,L.add_neg]
omit H in
def pI (L:CR S) (φ:R→S) (x y:S) (f:Pol K×Pol K):S:=L.add (oW L φ x f.1) (L.mul y (oW L φ x f.2))
variable (y:S) {b:R}
theorem aBg (f g:Pol K×Pol K):pI L φ x y ((bZ K b).add f g)=L.add (pI L φ x y f) (pI L φ x y g):=by
 show L.add (oW L φ x (aW.add f.1 g.1)) (L.mul y (oW L φ x (aW.add f.2 g.2)))=_;unfold pI;rw[uB H,uB H];exact aE L (aU L [oW L φ x f.1,oW L φ x g.1,y,oW L φ x f.2,oW L φ x g.2]) (Z0+Z1+Z2*(Z3+Z4)) (Z0+Z2*Z3+(Z1+Z2*Z4)) (by kernel_rfl)
theorem aOP:oW L φ x (qP b:Pol K)=L.add (L.mul x (L.mul x x)) (φ b):=by
 unfold qP;rw[uB H,qT H,qT H,Fr H,aLh H]
theorem aBf (hy:L.mul y y=L.add (L.mul x (L.mul x x)) (φ b)) (f g:Pol K×Pol K):pI L φ x y ((bZ K b).mul f g)=L.mul (pI L φ x y f) (pI L φ x y g):=by
 show L.add (oW L φ x (aW.add (aW.mul f.1 g.1) (aW.mul (qP b) (aW.mul f.2 g.2)))) (L.mul y (oW L φ x (aW.add (aW.mul f.1 g.2) (aW.mul f.2 g.1))))=_;unfold pI;rw[uB H,uB H,qT H,qT H,qT H,qT H,qT H,aOP H,←hy];exact aE L (aU L [oW L φ x f.1,oW L φ x g.1,y,oW L φ x f.2,oW L φ x g.2]) (Z0*Z1+Z2*Z2*(Z3*Z4)+Z2*(Z0*Z4+Z3*Z1)) ((Z0+Z2*Z3)*(Z1+Z2*Z4)) (by kernel_rfl)
theorem aBe (f:Pol K×Pol K):pI L φ x y ((bZ K b).neg f)=L.neg (pI L φ x y f):=by
 show L.add (oW L φ x (aW.neg f.1)) (L.mul y (oW L φ x (aW.neg f.2)))=_;unfold pI;rw[Kt H,Kt H];exact aE L (aU L [oW L φ x f.1,y,oW L φ x f.2]) (-Z0+Z1*(-Z2)) (-(Z0+Z1*Z2)) (by kernel_rfl)
theorem aBc (f g:Pol K×Pol K):pI L φ x y ((bZ K b).sub f g)=L.sub (pI L φ x y f) (pI L φ x y g):=by
 show pI L φ x y ((bZ K b).add f ((bZ K b).neg g))=L.add _ (L.neg _);rw[aBg H,aBe H]
theorem aIa (c:R):pI L φ x y (cc c:Pol K×Pol K)=φ c:=by
 show L.add (oW L φ x (kQ c)) (L.mul y (oW L φ x aW.zero))=_;rw[Fr H,sT H,L.mul_zero,L.add_zero]
theorem aOR:pI L φ x y (cX:Pol K×Pol K)=x:=by
 show L.add (oW L φ x pX) (L.mul y (oW L φ x aW.zero))=_;rw[aLh H,sT H,L.mul_zero,L.add_zero]
theorem aOQ:pI L φ x y (cY:Pol K×Pol K)=y:=by
 show L.add (oW L φ x aW.zero) (L.mul y (oW L φ x aW.one))=_;rw[sT H,Ks H,L.mul_one,L.zero_add]
theorem aBd:pI L φ x y ((bZ K b).one)=L.one:=by
 show L.add (oW L φ x aW.one) (L.mul y (oW L φ x aW.zero))=_;rw[sT H,Ks H,L.mul_zero,L.add_zero]
end
section
variable {A:Type} {K:CR A}
theorem Xi (D:Dom K) {v0 v l m la t s:A} (h:K.mul (K.mul v0 (K.mul (K.mul v l) la)) K.one=K.mul (K.mul (K.mul v0 (K.mul v m)) la) t)
  (h':K.mul (K.mul v0 (K.mul (K.mul v l) la)) s=K.mul (K.mul (K.mul v0 (K.mul v m)) la) K.one)
  (h0:v0≠K.zero) (hv:v≠K.zero) (hm:m≠K.zero) (hla:la≠K.zero):K.mul t s=K.one∧l=K.mul t m:=by
 have hb:K.mul (K.mul v0 (K.mul v m)) la≠K.zero:=D.2 _ _ (D.2 _ _ h0 (D.2 _ _ hv hm)) hla;refine⟨?_,?_⟩
 ·rw[K.mul_one]at h;rw[h,K.mul_assoc]at h';exact nQ D hb h'
 ·have hk:K.mul (K.mul v0 v) la≠K.zero:=D.2 _ _ (D.2 _ _ h0 hv) hla;refine nQ D hk ?_;have e1:K.mul (K.mul (K.mul v0 v) la) l=K.mul (K.mul v0 (K.mul (K.mul v l) la)) K.one:=aE K (aU K [v0,v,la,l]) (Z0*Z1*Z2*Z3) (Z0*(Z1*Z3*Z2)*RE.one) (by kernel_rfl);have e2:K.mul (K.mul (K.mul v0 (K.mul v m)) la) t=K.mul (K.mul (K.mul v0 v) la) (K.mul t m):=aE K (aU K [v0,v,la,m,t]) (Z0*(Z1*Z3)*Z2*Z4) (Z0*Z1*Z2*(Z4*Z3)) (by kernel_rfl);exact e1.trans (h.trans e2)
theorem aUp {w i:A} (h:K.mul w i=K.one) (a:A):K.mul (K.mul a (K.mul i i)) (K.mul w w)=a :=
 gT (K:=K) (c1:=K.mul a (K.add (K.mul w i) K.one)) h (aE K (aU K [a,i,w]) (Z0*(Z1*Z1)*(Z2*Z2)-Z0) (Z0*(Z2*Z1+RE.one)*(Z2*Z1-RE.one)) (by kernel_rfl))
theorem aKW {w i:A} (h:K.mul w i=K.one) (a:A):K.mul (K.mul a (K.mul (K.mul i i) i)) (K.mul (K.mul w w) w)=a :=
 gT (K:=K) (c1:=K.mul a (K.add (K.add (K.mul (K.mul w i) (K.mul w i)) (K.mul w i)) K.one)) h (aE K (aU K [a,i,w]) (Z0*(Z1*Z1*Z1)*(Z2*Z2*Z2)-Z0) (Z0*(Z2*Z1*(Z2*Z1)+Z2*Z1+RE.one)*(Z2*Z1-RE.one)) (by kernel_rfl))
theorem aUr {a b e q i w3:A} (h:K.mul b b=K.add (K.mul a (K.mul a a)) e) (h2:e=K.mul q (K.mul w3 w3)) (h3:K.mul (K.mul (K.mul i i) i) w3=K.one) :
  K.mul (K.mul b (K.mul (K.mul i i) i)) (K.mul b (K.mul (K.mul i i) i))=K.add (K.mul (K.mul a (K.mul i i)) (K.mul (K.mul a (K.mul i i)) (K.mul a (K.mul i i)))) q :=
 Bf (K:=K) (c1:=K.mul (K.mul (K.mul i i) i) (K.mul (K.mul i i) i)) (c2:=K.mul (K.mul (K.mul i i) i) (K.mul (K.mul i i) i)) (c3:=K.mul q (K.add (K.mul (K.mul (K.mul i i) i) w3) K.one)) h h2 h3 (aE K (aU K [a,b,e,q,i,w3])
  (Z1*(Z4*Z4*Z4)*(Z1*(Z4*Z4*Z4))-(Z0*(Z4*Z4)*(Z0*(Z4*Z4)*(Z0*(Z4*Z4)))+Z3))
  (Z4*Z4*Z4*(Z4*Z4*Z4)*(Z1*Z1-(Z0*(Z0*Z0)+Z2))+Z4*Z4*Z4*(Z4*Z4*Z4)*(Z2-Z3*(Z5*Z5))+Z3*(Z4*Z4*Z4*Z5+RE.one)*(Z4*Z4*Z4*Z5-RE.one)) (by kernel_rfl))
theorem aUq {x y B C M X1 Y1 w2 w:A} (hy:K.mul y (K.mul w2 w)=B) (hx:K.mul x w2=C) :
  K.mul (K.sub (K.sub y Y1) (K.mul M (K.sub x X1))) (K.mul w2 w)=K.sub B (K.add (K.mul (K.mul M w) C) (K.mul (K.sub Y1 (K.mul M X1)) (K.mul w2 w))) :=
 jX (K:=K) (c1:=K.one) (c2:=K.neg (K.mul M w)) hy hx (aE K (aU K [x,y,B,C,M,X1,Y1,w2,w])
  ((Z1-Z6-Z4*(Z0-Z5))*(Z7*Z8)-(Z2-(Z4*Z8*Z3+(Z6-Z4*Z5)*(Z7*Z8))))
  (RE.one*(Z1*(Z7*Z8)-Z2)+(-(Z4*Z8))*(Z0*Z7-Z3)) (by kernel_rfl))
theorem aUo {x C X1 w2:A} (hx:K.mul x w2=C):K.mul (K.sub x X1) w2=K.neg (K.sub (K.mul X1 w2) C) :=
 gT (K:=K) (c1:=K.one) hx (aE K (aU K [x,C,X1,w2]) ((Z0-Z2)*Z3-(-(Z2*Z3-Z1))) (RE.one*(Z0*Z3-Z1)) (by kernel_rfl))
end
section
variable {R:Type} {K:CR R} {inv:R→R} {b:R}
theorem aCw (E:EC K inv b) {p q:Pt R} (hp:On K b p) (hq:On K b q):∃c,c≠K.zero∧Ca K inv b p q=(bZ K b).mul (cc c) (Ca K inv b q p):=by
 have D:=jL (K:=K) b E.F;have hu:=kU (bZ K b);have hW:=hp.add E hq;have e1:=lG E hu hp hq;have e2:=lG E hu hq hp;rw[YX,XZ E hq hp]at e2;have f:=e1.symm.trans e2;have n:=lG E hu hW.neg hW;rw[DQ]at n;have k:=(n.symm.trans (f.opP (MB K (hZ K inv p q)))).trans n;obtain⟨t,_,h1⟩:=k.1 (bZ K b).one trivial;obtain⟨s,_,h2⟩:=k.2 (bZ K b).one trivial;have u:=Xi D h1 h2 (vQ E _) (vQ E _) (IK E _ _) (IK E _ _);obtain⟨c,hc,e⟩:=Jq (b:=b) E.F u.1;refine⟨c,hc,?_⟩;rw[←e];exact u.2
end
def wI:aM:=kI wE
theorem aUt:wE≠aC.zero:=by decide
theorem OK:aC.mul wE wI=aC.one:=jI aUt
theorem aML:wV=aC.mul KR wE:=rfl
def px (a:Fq):aM:=aC.mul (eP a) (aC.mul wI wI)
def py (a:Fq):aM:=aC.mul (eP a) (aC.mul (aC.mul wI wI) wI)
theorem aVx (a:Fq):aC.mul (px a) KR=eP a:=aUp OK (eP a)
theorem aZc (a:Fq):aC.mul (py a) wV=eP a:=aKW OK (eP a)
theorem hmE:Hm F2 aC eQ:=⟨BB,oT,Oa,by decide⟩
theorem aUs:aC.mul (aC.mul (aC.mul wI wI) wI) wV=aC.one:=by
 have h:=aKW OK aC.one;rw[aC.one_mul]at h;exact h
theorem pxy {a:Fq×Fq} (h:On F1 (fm 3) (some a)):aC.mul (py a.2) (py a.2)=aC.add (aC.mul (px a.1) (aC.mul (px a.1) (px a.1))) (eQ dK):=by
 have hp:F1.mul a.2 a.2=F1.add (F1.mul a.1 (F1.mul a.1 a.1)) (fm 3):=h;have hY:aC.mul (eP a.2) (eP a.2)=aC.add (aC.mul (eP a.1) (aC.mul (eP a.1) (eP a.1))) (eP (fm 3)):=by rw[←tJ,hp,SL,tJ,tJ]
 have r:=aUr (K:=aC) (a:=eP a.1) (b:=eP a.2) (e:=eP (fm 3)) (q:=eQ dK) (i:=wI) (w3:=wV) hY Hy.symm aUs;unfold px py;exact r
def zC (a:Fq×Fq) (f:Pol F2×Pol F2):aM:=pI aC eQ (px a.1) (py a.2) f
theorem qJ {a:Fq×Fq} (h:On F1 (fm 3) (some a)) (f g:Pol F2×Pol F2):zC a ((bZ F2 dK).mul f g)=aC.mul (zC a f) (zC a g):=by
 unfold zC;exact aBf hmE (px a.1) (py a.2) (pxy h) f g
theorem zF (a:Fq×Fq) (c:Q2):zC a (cc c)=eQ c:=by
 unfold zC;exact aIa hmE (px a.1) (py a.2) c
theorem aRX (x y:Q2):eQ (F2.sub x y)=aC.sub (eQ x) (eQ y):=by
 show eQ (F2.add x (F2.neg y))=aC.add (eQ x) (aC.neg (eQ y));rw[BB,Hj]
theorem DO (a:Fq×Fq) (f g:Pol F2×Pol F2):zC a ((bZ F2 dK).sub f g)=aC.sub (zC a f) (zC a g):=by
 unfold zC;exact aBc hmE (px a.1) (py a.2) f g
theorem aKX (a:Fq×Fq):zC a cX=px a.1:=by
 unfold zC;exact aOR hmE (px a.1) (py a.2)
theorem aUu (a:Fq×Fq):zC a cY=py a.2:=by
 unfold zC;exact aOQ hmE (px a.1) (py a.2)
theorem aFK (a:Fq×Fq):zC a (bZ F2 dK).one=aC.one:=by
 unfold zC;exact aBd hmE (px a.1) (py a.2)
theorem Xe {a:Fq×Fq} (h:On F1 (fm 3) (some a)) (t:Q2×Q2) (l:Q2):aC.mul (zC a ((bZ F2 dK).sub ((bZ F2 dK).sub cY (cc t.2)) ((bZ F2 dK).mul (cc l) ((bZ F2 dK).sub cX (cc t.1))))) wV=lT l (hgt F2 l t) a.1 a.2:=by
 have r:=aUq (K:=aC) (x:=px a.1) (y:=py a.2) (B:=eP a.2) (C:=eP a.1) (M:=eQ l) (X1:=eQ t.1) (Y1:=eQ t.2) (w2:=KR) (w:=wE) (by rw[←aML]; exact aZc a.2) (aVx a.1);rw[←aML]at r;rw[DO,DO,qJ h,DO,zF,zF,zF,aKX,aUu,NJ,show hgt F2 l t=F2.sub t.2 (F2.mul l t.1)from rfl,aRX,oT];exact r
theorem aFJ (a:Fq×Fq) (x:Q2):aC.mul (zC a ((bZ F2 dK).sub cX (cc x))) KR=aC.neg (vP a.1 x):=by
 have r:=aUo (K:=aC) (X1:=eQ x) (aVx a.1);rw[DO,zF,aKX,FE];exact r
theorem aMN:KR≠aC.zero:=by decide
theorem aMM:wV≠aC.zero:=by decide
theorem aQw:jW KR=aC.one:=yI (by decide) aMN
theorem aXz:cE wV=aC.neg wV:=by decide
theorem aUx:aC.mul (cM (aC.neg aC.one)) (aC.neg aC.one)=aC.one:=by decide
theorem aQv:jW wV=aC.one:=by
 have e:aC.mul (cE wV) (kI wV)=aC.neg aC.one:=by rw[aXz,aC.neg_mul,jI aMM]
 unfold jW eZ;rw[e,aUx,aDa]
theorem aCr {z w m:aM} (h:aC.mul z w=m) (hm:m≠aC.zero) (hw:w≠aC.zero) (l:jW w=aC.one):z≠aC.zero∧jW z=jW m:=by
 have hz:z≠aC.zero:=fun e=>hm (by rw[←h,e,aC.zero_mul])
 refine⟨hz,?_⟩;rw[←h,dF hz hw,l,aC.mul_comm,aC.one_mul]
theorem vT {a:Fq×Fq} (h:On F1 (fm 3) (some a)):∀t:Pt Q2,zC a (ver F2 dK t)≠aC.zero∧jW (zC a (ver F2 dK t))=aC.one
 | none=>by
  rw[show ver F2 dK none=(bZ F2 dK).one from rfl,aFK];exact⟨jJ.1,yJ⟩
 | some t=>by
  have n:=mC (x:=t.1) (oR h);have r:=aCr (aFJ a t.1) (uG n) aMN aQw;rw[qW n,wM (oR h)]at r;exact r
theorem aCv {a:Fq×Fq} (h:On F1 (fm 3) (some a)) {t t':Q2×Q2} (hn:¬(t.1=t'.1∧F2.add t.2 t'.2=F2.zero)):zC a (Ca F2 dV dK (some t) (some t'))≠aC.zero∧jW (zC a (Ca F2 dV dK (some t) (some t')))=jW (lnT t t' a):=by
 rw[RF hn];have r:=aCr (Xe h t (dH F2 dV t.1 t.2 t'.1 t'.2)) (rW (gV h)) aMM aQv;rw[oQ];exact r
theorem Gp {a:Fq×Fq} (h:On F1 (fm 3) (some a)) {t t':Q2×Q2} (hn:t.1=t'.1∧F2.add t.2 t'.2=F2.zero):zC a (Ca F2 dV dK (some t) (some t'))≠aC.zero∧jW (zC a (Ca F2 dV dK (some t) (some t')))=aC.one:=by
 rw[RG hn];exact vT h (some t)
theorem AP {a:Fq×Fq} (h:On F1 (fm 3) (some a)):∀t t':Pt Q2,zC a (Ca F2 dV dK t t')≠aC.zero
 | none,t'=>(vT h t').1
 | some t,none=>(vT h (some t)).1
 | some t,some t'=>by
  by_cases hn:t.1=t'.1∧F2.add t.2 t'.2=F2.zero
  ·exact (Gp h hn).1
  ·exact (aCv h hn).1
def cv (a:Fq×Fq) (t t':Pt Q2):Vq:=lv (zC a (Ca F2 dV dK t t'))
theorem Az {c:Q2} (h:c≠F2.zero):eQ c≠aC.zero:=fun e=>h (congrArg (fun z:aM=>z.1.1) e)
theorem aXm (c:Q2):cE (eQ c)=eQ c:=Prod.ext rfl (by show F6.sub F6.zero F6.zero=F6.zero; decide)
theorem Gm {c:Q2} (h:c≠F2.zero):jW (eQ c)=aC.one:=yI (aXm c) (Az h)
theorem aSf {a:Fq×Fq} (h:On F1 (fm 3) (some a)) {p q r:Pt Q2} (hp:On F2 dK p) (hq:On F2 dK q) (hr:On F2 dK r) :
  vg.add (cv a p q) (cv a (hZ F2 dV p q) r)=vg.add (cv a q r) (cv a p (hZ F2 dV q r)):=by
 obtain⟨c,hc,e⟩:=aXv aY hp hq hr;have e:=congrArg (zC a) e;rw[qJ h,qJ h,qJ h,qJ h,qJ h,zF]at e;have e:=congrArg jW e;have v1:=vT h (hZ F2 dV q r);have v2:=vT h (hZ F2 dV p q);have n1:=AP h p q;have n2:=AP h (hZ F2 dV p q) r;have n3:=AP h q r;have n4:=AP h p (hZ F2 dV q r);rw[dF v1.1 (nY n1 n2),dF n1 n2,dF (Az hc) (nY v2.1 (nY n3 n4)),dF v2.1 (nY n3 n4),dF n3 n4,v1.2,v2.2,Gm hc,aC.one_mul,aC.one_mul,aC.one_mul]at e;refine Subtype.ext ?_;unfold cv;rw[lV,lV,cW n1,cW n2,cW n3,cW n4];exact e
theorem Oi {a:Fq×Fq} (h:On F1 (fm 3) (some a)) {p q:Pt Q2} (hp:On F2 dK p) (hq:On F2 dK q):cv a p q=cv a q p:=by
 obtain⟨c,hc,e⟩:=aCw aY hp hq;have e:=congrArg (zC a) e;rw[qJ h,zF]at e;have e:=congrArg jW e;have n1:=AP h p q;have n2:=AP h q p;rw[dF (Az hc) n2,Gm hc,aC.one_mul]at e;refine Subtype.ext ?_;unfold cv;rw[cW n1,cW n2];exact e
theorem AM {z:aM} (h:z≠aC.zero∧jW z=aC.one):lv z=vg.zero:=by
 refine Subtype.ext ?_;rw[cW h.1,FA];exact h.2
theorem Bd {a:Fq×Fq} (h:On F1 (fm 3) (some a)) (q:Pt Q2):cv a none q=vg.zero:=AM (vT h q)
theorem aSe {a:Fq×Fq} (h:On F1 (fm 3) (some a)):∀q:Pt Q2,cv a q (MB F2 q)=vg.zero
 | none=>AM (vT h none)
 | some t=>by
  unfold cv;rw[Ff];exact AM (Gp (t':=(t.1,F2.neg t.2)) h ⟨rfl,F2.add_neg _⟩)
theorem yS {a:Fq×Fq} (h:On F1 (fm 3) (some a)) {t t':Q2×Q2} (hn:¬(t.1=t'.1∧F2.add t.2 t'.2=F2.zero)):cv a (some t) (some t')=lv (lnT t t' a):=by
 have r:=aCv h hn;refine Subtype.ext ?_;unfold cv;rw[cW r.1,cW (wN (gV h))];exact r.2
section
variable {R:Type} {K:CR R}
theorem aNQ {x y z i j:R} (h1:(K.mul z i)=K.one) (h2:(K.mul (K.add (K.mul y z) (K.mul y z)) j)=K.one):(K.mul (K.mul (K.add (K.add (K.mul x x) (K.mul x x)) (K.mul x x)) j) (K.add (K.mul y (K.mul (K.mul i i) i)) (K.mul y (K.mul (K.mul i i) i))))=(K.add (K.add (K.mul (K.mul x (K.mul i i)) (K.mul x (K.mul i i))) (K.mul (K.mul x (K.mul i i)) (K.mul x (K.mul i i)))) (K.mul (K.mul x (K.mul i i)) (K.mul x (K.mul i i)))) :=
 jX (K:=K) (c1:=(K.neg (K.mul (K.mul (K.add (K.add (K.mul x x) (K.mul x x)) (K.mul x x)) (K.mul i i)) (K.mul (K.add y y) (K.mul j i))))) (c2:=(K.mul (K.add (K.add (K.mul x x) (K.mul x x)) (K.mul x x)) (K.mul (K.mul i i) (K.mul i i)))) h1 h2 (aE K (aU K [x,y,z,i,j]) ((Z0*Z0+Z0*Z0+Z0*Z0)*Z4*(Z1*(Z3*Z3*Z3)+Z1*(Z3*Z3*Z3))-(Z0*(Z3*Z3)*(Z0*(Z3*Z3))+Z0*(Z3*Z3)*(Z0*(Z3*Z3))+Z0*(Z3*Z3)*(Z0*(Z3*Z3)))) ((-((Z0*Z0+Z0*Z0+Z0*Z0)*(Z3*Z3)*((Z1+Z1)*(Z4*Z3))))*(Z2*Z3-RE.one)+(Z0*Z0+Z0*Z0+Z0*Z0)*(Z3*Z3*(Z3*Z3))*((Z1*Z2+Z1*Z2)*Z4-RE.one)) (by kernel_rfl))
theorem aUE {x y z i j:R} (h1:(K.mul z i)=K.one) (h2:(K.mul (K.add (K.mul y z) (K.mul y z)) j)=K.one):(K.mul (K.add (K.add (K.mul x x) (K.mul x x)) (K.mul x x)) (K.mul z z))=(K.mul (K.mul (K.add (K.mul y z) (K.mul y z)) (K.mul z z)) (K.mul (K.add (K.add (K.mul x x) (K.mul x x)) (K.mul x x)) j)) :=
 jX (K:=K) (c1:=K.zero) (c2:=(K.neg (K.mul (K.add (K.add (K.mul x x) (K.mul x x)) (K.mul x x)) (K.mul z z)))) h1 h2 (aE K (aU K [x,y,z,i,j]) ((Z0*Z0+Z0*Z0+Z0*Z0)*(Z2*Z2)-(Z1*Z2+Z1*Z2)*(Z2*Z2)*((Z0*Z0+Z0*Z0+Z0*Z0)*Z4)) (RE.zero*(Z2*Z3-RE.one)+(-((Z0*Z0+Z0*Z0+Z0*Z0)*(Z2*Z2)))*((Z1*Z2+Z1*Z2)*Z4-RE.one)) (by kernel_rfl))
theorem aUF {x y z i j:R} (h1:(K.mul z i)=K.one) (h2:(K.mul (K.add (K.mul y z) (K.mul y z)) j)=K.one):(K.sub (K.mul (K.add (K.add (K.mul x x) (K.mul x x)) (K.mul x x)) x) (K.add (K.mul y y) (K.mul y y)))=(K.mul (K.mul (K.add (K.mul y z) (K.mul y z)) (K.mul z z)) (K.neg (K.sub (K.mul y (K.mul (K.mul i i) i)) (K.mul (K.mul (K.add (K.add (K.mul x x) (K.mul x x)) (K.mul x x)) j) (K.mul x (K.mul i i)))))) :=
 jX (K:=K) (c1:=(K.add (K.neg (K.mul (K.mul (K.add (K.add (K.mul x x) (K.mul x x)) (K.mul x x)) x) (K.add (K.mul z i) K.one))) (K.mul (K.add (K.mul y y) (K.mul y y)) (K.add (K.add (K.mul (K.mul z i) (K.mul z i)) (K.mul z i)) K.one)))) (c2:=(K.neg (K.mul (K.mul (K.add (K.add (K.mul x x) (K.mul x x)) (K.mul x x)) x) (K.mul (K.mul z i) (K.mul z i))))) h1 h2 (aE K (aU K [x,y,z,i,j]) ((Z0*Z0+Z0*Z0+Z0*Z0)*Z0-(Z1*Z1+Z1*Z1)-(Z1*Z2+Z1*Z2)*(Z2*Z2)*(-(Z1*(Z3*Z3*Z3)-(Z0*Z0+Z0*Z0+Z0*Z0)*Z4*(Z0*(Z3*Z3))))) ((-((Z0*Z0+Z0*Z0+Z0*Z0)*Z0*(Z2*Z3+RE.one))+(Z1*Z1+Z1*Z1)*(Z2*Z3*(Z2*Z3)+Z2*Z3+RE.one))*(Z2*Z3-RE.one)+(-((Z0*Z0+Z0*Z0+Z0*Z0)*Z0*(Z2*Z3*(Z2*Z3))))*((Z1*Z2+Z1*Z2)*Z4-RE.one)) (by kernel_rfl))
theorem aSz {x y z u v i j:R} (h1:(K.mul z i)=K.one) (h2:(K.mul (K.mul z (K.sub (K.mul u (K.mul z z)) x)) j)=K.one):(K.mul (K.mul (K.sub (K.mul v (K.mul (K.mul z z) z)) y) j) (K.sub u (K.mul x (K.mul i i))))=(K.sub v (K.mul y (K.mul (K.mul i i) i))) :=
 jX (K:=K) (c1:=(K.add (K.sub (K.neg (K.mul (K.mul (K.mul (K.sub (K.mul v (K.mul (K.mul z z) z)) y) j) u) (K.add (K.mul z i) K.one))) (K.mul (K.mul (K.mul (K.sub (K.mul v (K.mul (K.mul z z) z)) y) j) (K.mul i i)) (K.sub (K.mul u (K.mul z z)) x))) (K.mul v (K.add (K.add (K.mul (K.mul z i) (K.mul z i)) (K.mul z i)) K.one)))) (c2:=(K.mul (K.sub (K.mul v (K.mul (K.mul z z) z)) y) (K.mul (K.mul i i) i))) h1 h2 (aE K (aU K [x,y,z,u,v,i,j]) ((Z4*(Z2*Z2*Z2)-Z1)*Z6*(Z3-Z0*(Z5*Z5))-(Z4-Z1*(Z5*Z5*Z5))) ((-((Z4*(Z2*Z2*Z2)-Z1)*Z6*Z3*(Z2*Z5+RE.one))-(Z4*(Z2*Z2*Z2)-Z1)*Z6*(Z5*Z5)*(Z3*(Z2*Z2)-Z0)+Z4*(Z2*Z5*(Z2*Z5)+Z2*Z5+RE.one))*(Z2*Z5-RE.one)+(Z4*(Z2*Z2*Z2)-Z1)*(Z5*Z5*Z5)*(Z2*(Z3*(Z2*Z2)-Z0)*Z6-RE.one)) (by kernel_rfl))
theorem aXA {x y z u v i j:R} (h1:(K.mul z i)=K.one) (h2:(K.mul (K.mul z (K.sub (K.mul u (K.mul z z)) x)) j)=K.one):(K.sub (K.mul v (K.mul (K.mul z z) z)) y)=(K.mul (K.mul z (K.sub (K.mul u (K.mul z z)) x)) (K.mul (K.sub (K.mul v (K.mul (K.mul z z) z)) y) j)) :=
 jX (K:=K) (c1:=K.zero) (c2:=(K.neg (K.sub (K.mul v (K.mul (K.mul z z) z)) y))) h1 h2 (aE K (aU K [x,y,z,u,v,i,j]) (Z4*(Z2*Z2*Z2)-Z1-Z2*(Z3*(Z2*Z2)-Z0)*((Z4*(Z2*Z2*Z2)-Z1)*Z6)) (RE.zero*(Z2*Z5-RE.one)+(-(Z4*(Z2*Z2*Z2)-Z1))*(Z2*(Z3*(Z2*Z2)-Z0)*Z6-RE.one)) (by kernel_rfl))
theorem aXB {x y z u v i j:R} (h1:(K.mul z i)=K.one) (h2:(K.mul (K.mul z (K.sub (K.mul u (K.mul z z)) x)) j)=K.one):(K.sub (K.mul (K.sub (K.mul v (K.mul (K.mul z z) z)) y) u) (K.mul (K.mul z (K.sub (K.mul u (K.mul z z)) x)) v))=(K.mul (K.mul z (K.sub (K.mul u (K.mul z z)) x)) (K.neg (K.sub (K.mul y (K.mul (K.mul i i) i)) (K.mul (K.mul (K.sub (K.mul v (K.mul (K.mul z z) z)) y) j) (K.mul x (K.mul i i)))))) :=
 jX (K:=K) (c1:=(K.sub (K.sub (K.mul (K.mul u y) (K.add (K.add (K.mul (K.mul z i) (K.mul z i)) (K.mul z i)) K.one)) (K.mul (K.mul (K.mul v x) z) (K.add (K.mul z i) K.one))) (K.mul (K.mul x y) (K.mul i i)))) (c2:=(K.neg (K.mul (K.mul (K.sub (K.mul v (K.mul (K.mul z z) z)) y) x) (K.mul i i)))) h1 h2 (aE K (aU K [x,y,z,u,v,i,j]) ((Z4*(Z2*Z2*Z2)-Z1)*Z3-Z2*(Z3*(Z2*Z2)-Z0)*Z4-Z2*(Z3*(Z2*Z2)-Z0)*(-(Z1*(Z5*Z5*Z5)-(Z4*(Z2*Z2*Z2)-Z1)*Z6*(Z0*(Z5*Z5))))) ((Z3*Z1*(Z2*Z5*(Z2*Z5)+Z2*Z5+RE.one)-Z4*Z0*Z2*(Z2*Z5+RE.one)-Z0*Z1*(Z5*Z5))*(Z2*Z5-RE.one)+(-((Z4*(Z2*Z2*Z2)-Z1)*Z0*(Z5*Z5)))*(Z2*(Z3*(Z2*Z2)-Z0)*Z6-RE.one)) (by kernel_rfl))
theorem aMy {x z i:R} (h1:(K.mul z i)=K.one):(K.mul (K.mul x (K.mul i i)) (K.mul z z))=x :=
 gT (K:=K) (c1:=(K.mul x (K.add (K.mul z i) K.one))) h1 (aE K (aU K [x,z,i]) (Z0*(Z2*Z2)*(Z1*Z1)-Z0) (Z0*(Z1*Z2+RE.one)*(Z1*Z2-RE.one)) (by kernel_rfl))
end
def Wj (F S H:Q2) (a:Fq×Fq):aM:=((F2.mul F (i2 a.2),F2.zero,F2.zero),(F2.mul S (i2 (F1.neg a.1)),H,F2.zero))
theorem aQN (a:Fq):i2 (F1.neg a)=F2.neg (i2 a):=Prod.ext rfl (bK F1).symm
theorem aQy {F S H m d:Q2} (hS:S=F2.mul F m) (hH:H=F2.mul F (F2.neg d)) (a:Fq×Fq):Wj F S H a=aC.mul (eQ F) (lT m d a.1 a.2):=by
 rw[oJ];unfold Wj eQ lT;simp only[z6e,F2.mul_zero,F2.zero_mul,F2.add_zero,F2.zero_add,aQN,hS,hH,F2.mul_neg,F2.mul_assoc]
theorem aCt {a:Fq×Fq} (h:On F1 (fm 3) (some a)) {F S H m d:Q2} (hF:F≠F2.zero) (hS:S=F2.mul F m) (hH:H=F2.mul F (F2.neg d)):Wj F S H a≠aC.zero∧lv (Wj F S H a)=lv (lT m d a.1 a.2):=by
 rw[aQy hS hH];have n:=nY (Az hF) (rW (m:=m) (d:=d) (a:=a.1) (gV h));refine⟨n,Subtype.ext ?_⟩;rw[cW n,cW (rW (gV h)),dF (Az hF) (rW (gV h)),Gm hF,aC.one_mul]
def tF (x y z:Q2):Q2:=F2.mul (F2.add (F2.mul y z) (F2.mul y z)) (F2.mul z z)
def tS (x y z:Q2):Q2:=F2.mul (F2.add (F2.add (F2.mul x x) (F2.mul x x)) (F2.mul x x)) (F2.mul z z)
def tH (x y z:Q2):Q2:=F2.sub (F2.mul (F2.add (F2.add (F2.mul x x) (F2.mul x x)) (F2.mul x x)) x) (F2.add (F2.mul y y) (F2.mul y y))
theorem aNR {a:Fq×Fq} (h:On F1 (fm 3) (some a)) {x y z:Q2} (hz:z≠F2.zero) (hp:On F2 dK (fT F2 dV (x,y,z))) :
  Wj (tF x y z) (tS x y z) (tH x y z) a≠aC.zero∧lv (Wj (tF x y z) (tS x y z) (tH x y z) a)=cv a (fT F2 dV (x,y,z)) (fT F2 dV (x,y,z)):=by
 have e:=dT (K:=F2) (inv:=dV) (p:=(x,y,z)) hz;rw[e]at hp ⊢;dsimp only at hp ⊢;have hi:F2.mul z (dV z)=F2.one:=aY.F.inv z hz;generalize dV z=i at hi hp ⊢;have hY:=lZ hp;dsimp only at hY;have hYY:=aY.dbl_ne hY;have hy:y≠F2.zero:=fun e=>hY (by rw[e,F2.zero_mul])
 have hN:F2.add (F2.mul y z) (F2.mul y z)≠F2.zero:=aY.dbl_ne (aY.F.mul_ne hy hz);have hj:F2.mul (F2.add (F2.mul y z) (F2.mul y z)) (dV (F2.add (F2.mul y z) (F2.mul y z)))=F2.one:=aY.F.inv _ hN;generalize dV (F2.add (F2.mul y z) (F2.mul y z))=j at hj;have hs:=zL aY hYY (aNQ (x:=x) hi hj);rw[yS h (fun q=>hYY q.2),oQ];dsimp only;rw[hs];exact aCt h (aY.F.mul_ne hN (aY.F.mul_ne hz hz)) (aUE hi hj) (aUF hi hj)
def rZ (x z u:Q2):Q2:=F2.sub (F2.mul u (F2.mul z z)) x
def tO (y z v:Q2):Q2:=F2.sub (F2.mul v (F2.mul (F2.mul z z) z)) y
def Wm (x z u:Q2):Q2:=F2.mul z (rZ x z u)
theorem aSA {a:Fq×Fq} (h:On F1 (fm 3) (some a)) {x y z u v:Q2} (hz:z≠F2.zero) (hp:On F2 dK (fT F2 dV (x,y,z))) (hq:On F2 dK (some (u,v))) (hA:rZ x z u≠F2.zero) :
  Wj (Wm x z u) (tO y z v) (F2.sub (F2.mul (tO y z v) u) (F2.mul (Wm x z u) v)) a≠aC.zero∧lv (Wj (Wm x z u) (tO y z v) (F2.sub (F2.mul (tO y z v) u) (F2.mul (Wm x z u) v)) a)=cv a (fT F2 dV (x,y,z)) (some (u,v)):=by
 have e:=dT (K:=F2) (inv:=dV) (p:=(x,y,z)) hz;rw[e]at hp ⊢;dsimp only at hp ⊢;have hi:F2.mul z (dV z)=F2.one:=aY.F.inv z hz;generalize dV z=i at hi hp ⊢;have hN:Wm x z u≠F2.zero:=aY.F.mul_ne hz hA;have hj:F2.mul (Wm x z u) (dV (Wm x z u))=F2.one:=aY.F.inv _ hN;generalize dV (Wm x z u)=j at hj;have hx:F2.mul x (F2.mul i i)≠u:=fun q=>hA (by
  unfold rZ;rw[←q,aMy hi];exact F2.add_neg x)
 have hs:=sI aY hx (aSz (y:=y) (v:=v) hi hj);rw[yS h (fun q=>hx q.1),oQ];dsimp only;rw[hs];exact aCt h hN (aXA hi hj) (aXB hi hj)
structure GHom {G G':Type} (A:AG G) (A':AG G') (f:G→G'):Prop where
 add:∀x y,f (A.add x y)=A'.add (f x) (f y)
section
variable {G G':Type} {A:AG G} {A':AG G'} {f:G→G'}
theorem GHom.zero (h:GHom A A' f):f A.zero=A'.zero:=by
 apply A'.cancel (a:=f A.zero);rw[←h.add,A.zadd,A'.addz]
theorem GHom.neg (h:GHom A A' f) (x:G):f (A.neg x)=A'.neg (f x):=by
 apply A'.cancel (a:=f x);rw[←h.add,A.addn,A'.addn,h.zero]
theorem GHom.ns (h:GHom A A' f) (x:G):∀n,f (A.ns n x)=A'.ns n (f x)
 | 0=>h.zero
 | n+1=>by
  show f (A.add (A.ns n x) x)=A'.add (A'.ns n (f x)) (f x);rw[h.add,h.ns x n]
def tot (A:AG G) (s:Nat) (a b c:G):G:=A.add (A.add (A.ns s a) b) (A.neg c)
theorem GHom.tot (h:GHom A A' f) (s:Nat) (a b c:G):f (tot A s a b c)=Ex.tot A' s (f a) (f b) (f c):=by
 unfold Ex.tot;rw[h.add,h.add,h.ns,h.neg]
theorem OT (s:Nat) (a b c a' b' c':G):tot A s (A.add a a') (A.add b b') (A.add c c')=A.add (tot A s a b c) (tot A s a' b' c'):=by
 unfold tot;rw[A.ns_sum,A.neg_add,A.add4 (A.ns s a),A.add4 (A.add (A.ns s a) b)]
end
section
variable {G V:Type}
structure Cyc (A:AG G) (B:AG V) (c:G→G→V):Prop where
 coc:∀g h k,B.add (c g h) (c (A.add g h) k)=B.add (c h k) (c g (A.add h k))
 comm:∀g h,c g h=c h g
 zl:∀g,c A.zero g=B.zero
 opp:∀g,c g (A.neg g)=B.zero
variable {A:AG G} {B:AG V} {c:G→G→V}
theorem Cyc.zr (C:Cyc A B c) (g:G):c g A.zero=B.zero:=by rw[C.comm,C.zl]
def mP (C:Cyc A B c):AG (G×V) where
 add x y:=(A.add x.1 y.1,B.add (B.add x.2 y.2) (c x.1 y.1))
 neg x:=(A.neg x.1,B.neg x.2)
 zero:=(A.zero,B.zero)
 assoc x y z:=by
  refine Prod.ext (A.assoc _ _ _) ?_
  haveI:Std.Associative B.add:=⟨B.assoc⟩
  haveI:Std.Commutative B.add:=⟨B.comm⟩
  show B.add (B.add (B.add (B.add x.2 y.2) (c x.1 y.1)) z.2) (c (A.add x.1 y.1) z.1)=B.add (B.add x.2 (B.add (B.add y.2 z.2) (c y.1 z.1))) (c x.1 (A.add y.1 z.1));have e1:B.add (B.add (B.add (B.add x.2 y.2) (c x.1 y.1)) z.2) (c (A.add x.1 y.1) z.1)=B.add (B.add (B.add x.2 y.2) z.2) (B.add (c x.1 y.1) (c (A.add x.1 y.1) z.1)):=by ac_rfl
  rw[e1,C.coc]
  ac_rfl
 comm x y:=Prod.ext (A.comm _ _) (by
  show B.add (B.add x.2 y.2) (c x.1 y.1)=B.add (B.add y.2 x.2) (c y.1 x.1);rw[B.comm x.2,C.comm])
 zadd x:=Prod.ext (A.zadd _) (by
  show B.add (B.add B.zero x.2) (c A.zero x.1)=x.2;rw[B.zadd,C.zl,B.addz])
 nadd x:=Prod.ext (A.nadd _) (by
  show B.add (B.add (B.neg x.2) x.2) (c (A.neg x.1) x.1)=B.zero;rw[B.nadd,C.comm,C.opp,B.zadd])
def eB (B:AG V) (g:G):G×V:=(g,B.zero)
def iB (A:AG G) (v:V):G×V:=(A.zero,v)
theorem aCU (C:Cyc A B c):GHom B (mP C) (iB A):=⟨fun x y=>Prod.ext (A.zadd _).symm (by
 show B.add x y=B.add (B.add x y) (c A.zero A.zero);rw[C.zl,B.addz])⟩
theorem Nk (C:Cyc A B c):GHom (mP C) A Prod.fst:=⟨fun _ _=>rfl⟩
theorem aDX (C:Cyc A B c) (g:G) (v:V):(g,v)=(mP C).add (eB B g) (iB A v):=Prod.ext (A.addz _).symm (by
 show v=B.add (B.add B.zero v) (c g A.zero);rw[C.zr,B.zadd,B.addz])
theorem Hk (C:Cyc A B c) (g h:G):(mP C).add (eB B g) (eB B h)=(mP C).add (eB B (A.add g h)) (iB A (c g h)):=by
 rw[←aDX];refine Prod.ext rfl ?_;show B.add (B.add B.zero B.zero) (c g h)=c g h;rw[B.zadd,B.zadd]
def fin (C:Cyc A B c) (s:Nat) (ψ:G→G) (Q:G):G×V:=tot (mP C) s (eB B Q) (eB B (ψ Q)) (eB B (ψ (ψ Q)))
theorem Nr (C:Cyc A B c) (s:Nat) (ψ:G→G) (Q:G):(fin C s ψ Q).1=tot A s Q (ψ Q) (ψ (ψ Q)):=(Nk C).tot s _ _ _
theorem OS {s:Nat} {x y z w:V} (h:B.add (B.add (B.ns s x) y) w=z):tot B s x y z=B.neg w:=by
 unfold tot;rw[←h,B.neg_add,←B.assoc,B.addn,B.zadd]
theorem aDR {X Y n z:V} (h:B.add X n=B.add (B.add Y n) z) (hz:z=B.zero):X=Y:=by
 rw[hz,B.addz,B.comm X,B.comm Y]at h;exact B.cancel h
theorem Vf (C:Cyc A B c) {s:Nat} {ψ:G→G} {φ:V→V} (hψ:GHom A A ψ) (hc:∀g h,c (ψ g) (ψ h)=φ (c g h)) (hn:∀g h,c (A.neg g) (A.neg h)=B.neg (c g h)) {Q Q':G}
  (hv:B.add (B.add (B.ns s (c Q Q')) (φ (c Q Q'))) (φ (φ (φ (c Q Q'))))=φ (φ (c Q Q')))
  (h1:tot A s Q (ψ Q) (ψ (ψ Q))=A.neg (ψ (ψ (ψ Q)))) (h2:tot A s Q' (ψ Q') (ψ (ψ Q'))=A.neg (ψ (ψ (ψ Q')))) :
  B.add (fin C s ψ Q).2 (fin C s ψ Q').2=(fin C s ψ (A.add Q Q')).2:=by
 have k0:=Hk C Q Q';have k1:=Hk C (ψ Q) (ψ Q');have k2:=Hk C (ψ (ψ Q)) (ψ (ψ Q'));rw[←hψ.add,hc]at k1;rw[←hψ.add,←hψ.add,hc,hc]at k2;have k:(mP C).add (fin C s ψ Q) (fin C s ψ Q')=(mP C).add (fin C s ψ (A.add Q Q')) (iB A (tot B s (c Q Q') (φ (c Q Q')) (φ (φ (c Q Q'))))):=by
  rw[(aCU C).tot];unfold fin;rw[←OT,k0,k1,k2,OT]
 rw[OS hv]at k;have e:=congrArg Prod.snd k;have e:B.add (B.add (fin C s ψ Q).2 (fin C s ψ Q').2) (c (fin C s ψ Q).1 (fin C s ψ Q').1)=B.add (B.add (fin C s ψ (A.add Q Q')).2 (B.neg (φ (φ (φ (c Q Q')))))) (c (fin C s ψ (A.add Q Q')).1 A.zero):=e;rw[Nr,Nr,h1,h2,hn,hc,hc,hc]at e;exact aDR e (C.zr _)
def mD {W:Type} (B:AG V) (B':AG W):AG (V×W) where
 add x y:=(B.add x.1 y.1,B'.add x.2 y.2)
 neg x:=(B.neg x.1,B'.neg x.2)
 zero:=(B.zero,B'.zero)
 assoc x y z:=Prod.ext (B.assoc _ _ _) (B'.assoc _ _ _)
 comm x y:=Prod.ext (B.comm _ _) (B'.comm _ _)
 zadd x:=Prod.ext (B.zadd _) (B'.zadd _)
 nadd x:=Prod.ext (B.nadd _) (B'.nadd _)
theorem Cyc.two {c1 c2:G→G→V} (C1:Cyc A B c1) (C2:Cyc A B c2):Cyc A (mD B B) (fun g h=>(c1 g h,c2 g h)) where
 coc g h k:=Prod.ext (C1.coc g h k) (C2.coc g h k)
 comm g h:=Prod.ext (C1.comm g h) (C2.comm g h)
 zl g:=Prod.ext (C1.zl g) (C2.zl g)
 opp g:=Prod.ext (C1.opp g) (C2.opp g)
theorem Vg {c1 c2 c3:G→G→V} (C1:Cyc A B c1) (C2:Cyc A B c2) (C3:Cyc A B c3) {h:G→V} (hh:∀g k,B.add (B.add (c1 g k) (c2 g k)) (h (A.add g k))=B.add (c3 g k) (B.add (h g) (h k)))
  {s:Nat} {ψ:G→G} {φ:V→V} (hψ:∀g,h (ψ g)=φ (h g)) (hn:∀g,h (A.neg g)=B.neg (h g)) {Q:G}
  (hv:B.add (B.add (B.ns s (h Q)) (φ (h Q))) (φ (φ (φ (h Q))))=φ (φ (h Q)))
  (h1:tot A s Q (ψ Q) (ψ (ψ Q))=A.neg (ψ (ψ (ψ Q)))) :
  B.add (fin C1 s ψ Q).2 (fin C2 s ψ Q).2=(fin C3 s ψ Q).2:=by
 have f1:GHom (mP (C1.two C2)) (mP C1) (fun x=>(x.1,x.2.1)):=⟨fun _ _=>rfl⟩;have f2:GHom (mP (C1.two C2)) (mP C2) (fun x=>(x.1,x.2.2)):=⟨fun _ _=>rfl⟩;have f3:GHom (mP (C1.two C2)) (mP C3) (fun x=>(x.1,B.add (B.add x.2.1 x.2.2) (h x.1))):=⟨fun x y=>Prod.ext rfl (by
  show B.add (B.add (B.add (B.add x.2.1 y.2.1) (c1 x.1 y.1)) (B.add (B.add x.2.2 y.2.2) (c2 x.1 y.1))) (h (A.add x.1 y.1))=B.add (B.add (B.add (B.add x.2.1 x.2.2) (h x.1)) (B.add (B.add y.2.1 y.2.2) (h y.1))) (c3 x.1 y.1)
  haveI:Std.Associative B.add:=⟨B.assoc⟩
  haveI:Std.Commutative B.add:=⟨B.comm⟩
  have e1:B.add (B.add (B.add (B.add x.2.1 y.2.1) (c1 x.1 y.1)) (B.add (B.add x.2.2 y.2.2) (c2 x.1 y.1))) (h (A.add x.1 y.1))=B.add (B.add (B.add x.2.1 y.2.1) (B.add x.2.2 y.2.2)) (B.add (B.add (c1 x.1 y.1) (c2 x.1 y.1)) (h (A.add x.1 y.1))):=by ac_rfl
  rw[e1,hh]
  ac_rfl)⟩
 have t1:=f1.tot s (eB (mD B B) Q) (eB (mD B B) (ψ Q)) (eB (mD B B) (ψ (ψ Q)));have t2:=f2.tot s (eB (mD B B) Q) (eB (mD B B) (ψ Q)) (eB (mD B B) (ψ (ψ Q)));have t3:=f3.tot s (eB (mD B B) Q) (eB (mD B B) (ψ Q)) (eB (mD B B) (ψ (ψ Q)));have t0:=(Nk (C1.two C2)).tot s (eB (mD B B) Q) (eB (mD B B) (ψ Q)) (eB (mD B B) (ψ (ψ Q)));generalize tot (mP (C1.two C2)) s (eB (mD B B) Q) (eB (mD B B) (ψ Q)) (eB (mD B B) (ψ (ψ Q)))=T at t0 t1 t2 t3;have t1:(T.1,T.2.1)=fin C1 s ψ Q:=t1;have t2:(T.1,T.2.2)=fin C2 s ψ Q:=t2;have t0:T.1=tot A s Q (ψ Q) (ψ (ψ Q)):=t0;have hz:∀g:G,((g,B.add (B.add B.zero B.zero) (h g)):G×V)=(mP C3).add (eB B g) (iB A (h g)):=fun g=>by
  rw[B.zadd,B.zadd];exact aDX C3 g (h g)
 have t3:(T.1,B.add (B.add T.2.1 T.2.2) (h T.1))=tot (mP C3) s (Q,B.add (B.add B.zero B.zero) (h Q)) (ψ Q,B.add (B.add B.zero B.zero) (h (ψ Q))) (ψ (ψ Q),B.add (B.add B.zero B.zero) (h (ψ (ψ Q)))):=t3;rw[hz,hz,hz,OT,←(aCU C3).tot,hψ (ψ Q),hψ Q,OS hv]at t3;have e:=congrArg Prod.snd t3;have e:B.add (B.add T.2.1 T.2.2) (h T.1)=B.add (B.add (fin C3 s ψ Q).2 (B.neg (φ (φ (φ (h Q)))))) (c3 (fin C3 s ψ Q).1 A.zero):=e;rw[t0,h1,hn,hψ,hψ,hψ]at e;rw[←t1,←t2];exact aDR e (C3.zr _)
theorem aGf (C:Cyc A B c) (Q:G) (d:Int) (T:G) (F:V):Wi (mP C) (eB B Q) d (T,F)=(Wi A Q d T,stF A B c Q d F T):=by
 unfold Wi stF
 by_cases h1:d=1
 ·rw[if_pos h1,if_pos h1,if_pos h1];refine Prod.ext rfl ?_;show B.add (B.add (B.add (B.add F F) (c T T)) B.zero) (c (A.add T T) Q)=_;rw[B.addz]
 ·rw[if_neg h1,if_neg h1,if_neg h1]
  by_cases h2:d = -1
  ·rw[if_pos h2,if_pos h2,if_pos h2];refine Prod.ext rfl ?_;show B.add (B.add (B.add (B.add F F) (c T T)) (B.neg B.zero)) (c (A.add T T) (A.neg Q))=_;rw[B.negz,B.addz]
  ·rw[if_neg h2,if_neg h2,if_neg h2];rfl
theorem Kc (C:Cyc A B c) (Q:G):∀(ds:List Int) (T:G) (F:V),zS (mP C) (eB B Q) ds (T,F)=(zS A Q ds T,aAj A B c Q ds F T)
 | [],_,_=>rfl
 | d::ds,T,F=>by
  show zS (mP C) (eB B Q) ds (Wi (mP C) (eB B Q) d (T,F))=_;rw[aGf,Kc C Q ds];rfl
def hdg:List Int→Int→Int
 | [],n=>n
 | d::ds,n=>hdg ds (n+n+(if d=1 then 1 else if d = -1 then -1 else 0))
theorem aUj (A:AG G) (Q:G):A.zs 1 Q=Q:=A.zadd Q
theorem aUi (A:AG G) (Q:G):A.zs (-1) Q=A.neg Q:=congrArg A.neg (A.zadd Q)
theorem aYy (A:AG G) (Q:G):A.zs 0 Q=A.zero:=rfl
theorem Yv (A:AG G) (Q:G):∀(ds:List Int) (n:Int),zS A Q ds (A.zs n Q)=A.zs (hdg ds n) Q
 | [],_=>rfl
 | d::ds,n=>by
  show zS A Q ds (Wi A Q d (A.zs n Q))=A.zs (hdg ds _) Q;rw[←Yv A Q ds];congr 1;unfold Wi
  by_cases h1:d=1
  ·rw[if_pos h1,if_pos h1,A.zs_add,A.zs_add,aUj]
  ·rw[if_neg h1,if_neg h1]
   by_cases h2:d = -1
   ·rw[if_pos h2,if_pos h2,A.zs_add,A.zs_add,aUi]
   ·rw[if_neg h2,if_neg h2,A.zs_add,A.zs_add,aYy,A.addz]
theorem aOt (A:AG G) (Q:G) {ds:List Int} {s:Nat} (h:hdg ds 1=s):zS A Q ds Q=A.ns s Q:=by
 have r:=Yv A Q ds 1;rw[aUj,h]at r;exact r
theorem aGN (C:Cyc A B c) (Q:G) {ds:List Int} {s:Nat} (h:hdg ds 1=s) (ψ:G→G) :
  fin C s ψ Q=(A.add (A.add (zS A Q ds Q) (ψ Q)) (A.neg (ψ (ψ Q))),B.add (B.add (aAj A B c Q ds B.zero Q) (c (zS A Q ds Q) (ψ Q))) (c (A.add (zS A Q ds Q) (ψ Q)) (A.neg (ψ (ψ Q))))):=by
 have r:=aOt (mP C) (eB B Q) h;have e:=Kc C Q ds Q B.zero;have e:zS (mP C) (eB B Q) ds (eB B Q)=_:=e;rw[r]at e;unfold fin tot;rw[e];refine Prod.ext rfl ?_;show B.add (B.add (B.add (B.add _ B.zero) _) (B.neg B.zero)) _=_;rw[B.addz,B.negz,B.addz];rfl
end
open Go.RowKit
def iZ:Q2:=(⟨21575463638280843010398324269430826099269044274347216827212613867836435027261,by decide⟩,⟨10307601595873709700152284273816112264069230130616436755625194854815875713954,by decide⟩)
def nL:Q2:=(⟨2821565182194536844548159561693502659359617185244120367078079554186484126554,by decide⟩,⟨3505843767911556378687030309984248845540243509899259641013678093033130930403,by decide⟩)
def zD:Q2:=(⟨10857046999023057135944570762232829481370756359578518086990519993285655852781,by decide⟩,⟨11559732032986387107991004021392285783925812861821192530917403151452391805634,by decide⟩)
def AX:Q2:=(⟨8495653923123431417604973247489272438418190587263600148770280649306958101930,by decide⟩,⟨4082367875863433681332203403145435568316851327593401208105741076214120093531,by decide⟩)
def cI:Nat:=147946756881789318990833708069417712966
def aDo:jV
 | [.v (.im (.int .i64 (.ofNat 1)))]=>some ([],.one (.fl (q1 FP.M)))
 | [.v (.im (.int .i64 (.ofNat 2)))]=>some ([],.one (.fl (q1 Go.Proofs.YtglgakbkdjhojaaGreat.FR.M)))
 | _=>none
theorem aJP:∀cs pre r,aDo cs=some (pre,r)→aZ pre→∀(args:List Value) (w:World),bQ w cs args→Good prog 204 r args w:=by
 intro cs pre r hg hp args w ha;unfold aDo at hg;split at hg
 ·cases hg
  match args,ha with
  | [v],ha =>
   have h1:v=.int .i64 1:=ha.1;subst h1;exact (vK 1 FP (Or.inl ⟨rfl,rfl⟩) w).mono fun e w' h=>h
  | [],ha=>exact ha.elim
  | _::_::_,ha=>exact ha.2.elim
 ·cases hg
  match args,ha with
  | [v],ha =>
   have h1:v=.int .i64 2:=ha.1;subst h1;exact (vK 2 Go.Proofs.YtglgakbkdjhojaaGreat.FR (Or.inr ⟨rfl,rfl⟩) w).mono fun e w' h=>h
  | [],ha=>exact ha.elim
  | _::_::_,ha=>exact ha.2.elim
 ·cases hg
def aDm:jV
 | [.v (.fl l),.v (.fl m)]=>some ([aA l=aA (q1 FP.M),aA m=aA (q1 Go.Proofs.YtglgakbkdjhojaaGreat.FR.M)],.many [.fl (q1 cI),.im (.int .u64 0)])
 | _=>none
theorem aIV:∀cs pre r,aDm cs=some (pre,r)→aZ pre→∀(args:List Value) (w:World),bQ w cs args→Good prog 203 r args w:=by
 intro cs pre r hg hp args w ha;unfold aDm at hg;split at hg
 ·rename_i l m;cases hg;obtain⟨e1,e2,_⟩:=hp
  match args,ha with
  | [v,u],ha =>
   have h1:v=.agg (aA l).toArray:=ha.1;have h2:u=.agg (aA m).toArray:=ha.2.1;rw[e1]at h1;rw[e2]at h2;subst h1; subst h2;refine (tV _ _ _ _ _ _ _ _ (dE FP.M) (dE Go.Proofs.YtglgakbkdjhojaaGreat.FR.M) w).mono ?_
   rintro e w' ⟨s0,s1,s2,s3,c,rfl,hs,hc,hv,hb⟩
   have v1:aG (fw FP.M 0) (fw FP.M 1) (fw FP.M 2) (fw FP.M 3)=21888242871839275222246405745257275088696311157297823662689037894645226208583:=by kernel_rfl
   have v2:aG (fw Go.Proofs.YtglgakbkdjhojaaGreat.FR.M 0) (fw Go.Proofs.YtglgakbkdjhojaaGreat.FR.M 1) (fw Go.Proofs.YtglgakbkdjhojaaGreat.FR.M 2) (fw Go.Proofs.YtglgakbkdjhojaaGreat.FR.M 3)=21888242871839275222246405745257275088548364400416034343698204186575808495617:=by kernel_rfl
   rw[v1,v2]at hv;obtain⟨h0,h1,h2,h3⟩:=hs;have hlt:aG s0 s1 s2 s3<115792089237316195423570985008687907853269984665640564039457584007913129639936:=by unfold aG; omega
   have hc0:c=0:=by omega
   subst hc0;have hv2:aG s0 s1 s2 s3=cI:=by unfold cI; omega
   obtain⟨rfl,rfl,rfl,rfl⟩:=lM ⟨h0,h1,h2,h3⟩ (by unfold cI; omega) hv2;exact⟨rfl,hb⟩
  | [],ha=>exact ha.elim
  | [_],ha=>exact ha.2.elim
  | _::_::_::_,ha=>exact ha.2.2.elim
 ·cases hg
def aFn:Tab:=(Pf).add 204 aDo
theorem aIA:TabOk prog aFn:=(ZO).ad func204 aJP
def Iq:Tab:=(aFn).add 203 aDm
theorem Lr:TabOk prog Iq:=(aIA).ad func203 aIV
theorem aAg  : aT prog (qG prog) (fun _=>⟨fun s=>Iq,fun s=>true,fun _=>none⟩) f45 60 []=some ([],.one (.fl (cV (some (fm 1,fm 2))))):=by kernel_rfl
def Jd:Tab:=(Iq).add 45 (g0 (.one (.fl (cV (some (fm 1,fm 2))))))
theorem Md:TabOk prog Jd:=(Lr).ad func45 (gI fun w=>aB aF (fun _ s=>Lr) (aK prog) func45 aAg trivial (args:=[]) trivial)
theorem Rx  : aT prog (qG prog) (fun _=>⟨fun s=>Jd,fun s=>true,fun _=>none⟩) f9 60 []=some ([],.one (.fl (cV (some (fm 1,fm 2))))):=by kernel_rfl
def UB:Tab:=(Jd).add 9 (g0 (.one (.fl (cV (some (fm 1,fm 2))))))
theorem ZL:TabOk prog UB:=(Md).ad func9 (gI fun w=>aB aF (fun _ s=>Md) (aK prog) func9 Rx trivial (args:=[]) trivial)
theorem aAf  : aT prog (qG prog) (fun _=>⟨fun s=>UB,fun s=>true,fun _=>none⟩) f24 60 []=some ([],.one (.fl (cD (some (zD,AX))))):=by kernel_rfl
def Jb:Tab:=(UB).add 24 (g0 (.one (.fl (cD (some (zD,AX))))))
theorem Mc:TabOk prog Jb:=(ZL).ad func24 (gI fun w=>aB aF (fun _ s=>ZL) (aK prog) func24 aAf trivial (args:=[]) trivial)
theorem Rw  : aT prog (qG prog) (fun _=>⟨fun s=>Jb,fun s=>true,fun _=>none⟩) f11 60 []=some ([],.one (.fl (cD (some (zD,AX))))):=by kernel_rfl
def UA:Tab:=(Jb).add 11 (g0 (.one (.fl (cD (some (zD,AX))))))
theorem ZK:TabOk prog UA:=(Mc).ad func11 (gI fun w=>aB aF (fun _ s=>Mc) (aK prog) func11 Rw trivial (args:=[]) trivial)
theorem Ti  : aT prog (qG prog) (fun _=>⟨fun s=>UA,fun s=>true,fun _=>none⟩) f205 60 []=some ([],.one (.fl (q1 Go.Proofs.YtglgakbkdjhojaaGreat.FR.M))):=by kernel_rfl
def UI:Tab:=(UA).add 205 (g0 (.one (.fl (q1 Go.Proofs.YtglgakbkdjhojaaGreat.FR.M))))
theorem ZP:TabOk prog UI:=(ZK).ad func205 (gI fun w=>aB aF (fun _ s=>ZK) (aK prog) func205 Ti trivial (args:=[]) trivial)
theorem Qw  : aT prog (qG prog) (fun _=>⟨fun s=>UI,fun s=>true,fun _=>none⟩) f216 60 []=some ([],.many [.fl (e2 iZ),.fl (e2 nL)]):=by kernel_rfl
def TP:Tab:=(UI).add 216 (g0 (.many [.fl (e2 iZ),.fl (e2 nL)]))
theorem ZD:TabOk prog TP:=(ZP).ad func216 (gI fun w=>aB aF (fun _ s=>ZP) (aK prog) func216 Qw trivial (args:=[]) trivial)
theorem aWd (x y:N2):TP 213 [.v (.fl (q2 x)),.v (.fl (q2 y))]=some ([],.one (.fl (e2 (F2.mul (m2 x) (m2 y))))):=by kernel_rfl
def uR:Tab:=(TP).add 213 (g2 LY LY (fun x y=>([],.one (.fl (e2 (F2.mul x y))))))
theorem sZ:TabOk prog uR:=(ZD).ad func213 (AW fR fR fun x y hp args w ha=>(ZD _ _ _ _ (aWd x y) trivial).2 args w ha)
theorem LA (x y:N2):aT prog (qG prog) (fun _=>⟨fun s=>uR,fun s=>true,fun s=>bif Nat.beq s 10 then some (.bool true)else none⟩) f173 60 [.v (.fl (jU (x,y,true)))]=some ([aI .neq .i64 (sF x y true).1 0=some (.bool true)],.many [.fl (cD (some (F2.zero,F2.zero))),.im (.int .i64 (sF x y true).1)]):=by kernel_rfl
theorem KZ (x y:N2):aT prog (qG prog) (fun _=>⟨fun s=>uR,fun s=>true,fun s=>bif Nat.beq s 10 then some (.bool false)else none⟩) f173 60 [.v (.fl (jU (x,y,true)))]=some ([aI .neq .i64 (sF x y true).1 0=some (.bool false)],.many [.fl (e2 (F2.mul (aJ (m2 x)) iZ)++(e2 (F2.mul (aJ (m2 y)) nL)++[.c (.bool true)])),.im (.int .i64 0)]):=by kernel_rfl
theorem FV (x y:N2):aT prog (qG prog) (fun _=>⟨fun s=>uR,fun s=>true,fun s=>bif Nat.beq s 10 then some (.bool true)else none⟩) f173 60 [.v (.fl (jU (x,y,false)))]=some ([aI .neq .i64 (sF x y false).1 0=some (.bool true)],.many [.fl (cD (some (F2.zero,F2.zero))),.im (.int .i64 (sF x y false).1)]):=by kernel_rfl
theorem FU (x y:N2):aT prog (qG prog) (fun _=>⟨fun s=>uR,fun s=>true,fun s=>bif Nat.beq s 10 then some (.bool false)else none⟩) f173 60 [.v (.fl (jU (x,y,false)))]=some ([aI .neq .i64 (sF x y false).1 0=some (.bool false)],.many [.fl (e2 (F2.mul (aJ (m2 x)) iZ)++(e2 (F2.mul (aJ (m2 y)) nL)++[.c (.bool false)])),.im (.int .i64 0)]):=by kernel_rfl
def LF:Pt Q2→Pt Q2
 | none=>none
 | some p=>some (F2.mul (aJ p.1) iZ,F2.mul (aJ p.2) nL)
def fS (p:jQ):Pt Q2×Int:=if (fO p).1≠0 then (some (F2.zero,F2.zero),(fO p).1)else (LF (af2 p),0)
theorem aLZ {x:N2} (h:Wq x):m2 x=F2.zero:=by
 refine Prod.ext (Fin.ext ?_) (Fin.ext ?_)
 ·show wv x.1%FP.M=0;rw[h.1]; rfl
 ·show wv x.2%FP.M=0;rw[h.2]; rfl
theorem yU:aJ F2.zero=F2.zero:=by decide
theorem aSw {x y:N2} (h:(sF x y true).1=0):Wq x∧Wq y:=by
 rw[JK,if_pos rfl]at h
 by_cases hz:Wq x∧Wq y
 ·exact hz
 ·rw[if_neg hz]at h; cases h
theorem aAD (p:jQ) (args:List Value) (w:World) (ha:bQ w [.v (.fl (jU p))] args):Good prog 173 (.many [.fl (cD (fS p).1),.im (.int .i64 (fS p).2)]) args w:=by
 obtain⟨x,y,b⟩:=p
 by_cases h:(sF x y b).1=0
 ·rw[show fS (x,y,b)=(LF (af2 (x,y,b)),0)from if_neg (fun q=>q h)];cases b with
  | false=>exact aB aF (fun _ s=>sZ) (aK prog) func173 (FU x y) ⟨IG h,trivial⟩ ha
  | true =>
   refine Good.congr (aB aF (fun _ s=>sZ) (aK prog) func173 (KZ x y) ⟨IG h,trivial⟩ ha) ?_;obtain⟨hx,hy⟩:=aSw h;rw[aLZ hx,aLZ hy,yU,F2.zero_mul,F2.zero_mul];rfl
 ·rw[show fS (x,y,b)=(some (F2.zero,F2.zero),(sF x y b).1)from if_pos h];cases b with
  | true=>exact aB aF (fun _ s=>sZ) (aK prog) func173 (LA x y) ⟨vJ h,trivial⟩ ha
  | false=>exact aB aF (fun _ s=>sZ) (aK prog) func173 (FV x y) ⟨vJ h,trivial⟩ ha
def xB:Tab:=(uR).add 173 (g1 rg2 fun p=>([],.many [.fl (cD (fS p).1),.im (.int .i64 (fS p).2)]))
theorem uE:TabOk prog xB:=(sZ).ad func173 (bM qO fun p hp args w ha=>aAD p args w ha)
theorem Si (p:jQ):aT prog (qG prog) (fun _=>⟨fun s=>xB,fun s=>true,fun s=>bif Nat.beq s 15 then some (.bool true)else none⟩) f162 60 [.v (.fl (jU p))]=some ([aI .neq .i64 (fS p).2 0=some (.bool true)],.one (.im (.bool false))):=by kernel_rfl
theorem Sh (p:jQ):aT prog (qG prog) (fun _=>⟨fun s=>xB,fun s=>true,fun s=>bif Nat.beq s 15 then some (.bool false)else none⟩) f162 60 [.v (.fl (jU p))]=some ([aI .neq .i64 (fS p).2 0=some (.bool false),aA (q1 FP.M)=aA (q1 FP.M),aA (q1 Go.Proofs.YtglgakbkdjhojaaGreat.FR.M)=aA (q1 Go.Proofs.YtglgakbkdjhojaaGreat.FR.M),aA (cD (kV (fun _=>p) (fun _=>cI) 1).1)=aA (cD (fS p).1)],.one (.im (.bool true))):=by kernel_rfl
theorem Sg (p:jQ):aT prog (qG prog) (fun _=>⟨fun s=>xB,fun s=>false,fun s=>bif Nat.beq s 15 then some (.bool false)else none⟩) f162 60 [.v (.fl (jU p))]=some ([aI .neq .i64 (fS p).2 0=some (.bool false),aA (q1 FP.M)=aA (q1 FP.M),aA (q1 Go.Proofs.YtglgakbkdjhojaaGreat.FR.M)=aA (q1 Go.Proofs.YtglgakbkdjhojaaGreat.FR.M),aA (cD (kV (fun _=>p) (fun _=>cI) 1).1)≠aA (cD (fS p).1)],.one (.im (.bool false))):=by kernel_rfl
theorem aJk {P Q:Pt Q2} (h:aA (cD P)=aA (cD Q)):P=Q:=by
 have h':w4 (ptX F2 P).1.1++(w4 (ptX F2 P).2.1++(w4 (ptY F2 P).1.1++(w4 (ptY F2 P).2.1++[Value.bool (vF P)])))=w4 (ptX F2 Q).1.1++(w4 (ptX F2 Q).2.1++(w4 (ptY F2 Q).1.1++(w4 (ptY F2 Q).2.1++[Value.bool (vF Q)]))):=h;obtain⟨h1,h'⟩:=List.append_inj h' rfl;obtain⟨h2,h'⟩:=List.append_inj h' rfl;obtain⟨h3,h'⟩:=List.append_inj h' rfl;obtain⟨h4,h'⟩:=List.append_inj h' rfl;have h5:vF P=vF Q:=by injection h' with h' _; injection h'
 have e:∀{a b:Fq},w4 a.1=w4 b.1→a=b:=fun {a b} hw=>by
  have:=DN hw;refine Fin.ext ?_;have ha:wv a.1=a.1:=bU a.2;have hb:wv b.1=b.1:=bU b.2;rw[←ha,←hb,this]
 cases P with
 | none =>
  cases Q with
  | none=>rfl
  | some q=>cases h5
 | some p =>
  cases Q with
  | none=>cases h5
  | some q=>exact congrArg some (Prod.ext (Prod.ext (e h1) (e h2)) (Prod.ext (e h3) (e h4)))
open Classical in
def Ux (p:jQ):Bool:=decide ((fS p).2=0∧(kV (fun _=>p) (fun _=>cI) 1).1=(fS p).1)
theorem aQM (p:jQ) (args:List Value) (w:World) (ha:bQ w [.v (.fl (jU p))] args):Good prog 162 (.one (.im (.bool (Ux p)))) args w:=by
 unfold Ux
 by_cases h1:(fS p).2=0
 ·by_cases h2:(kV (fun _=>p) (fun _=>cI) 1).1=(fS p).1
  ·rw[decide_eq_true (And.intro h1 h2)];exact aB aF (fun _ s=>uE) (aK prog) func162 (Sh p) ⟨IG h1,rfl,rfl,by rw[h2],trivial⟩ ha
  ·rw[decide_eq_false (fun h=>h2 h.2)];exact aB aF (fun _ s=>uE) (aK prog) func162 (Sg p) ⟨IG h1,rfl,rfl,fun h=>h2 (aJk h),trivial⟩ ha
 ·rw[decide_eq_false (fun h=>h1 h.1)];exact aB aF (fun _ s=>uE) (aK prog) func162 (Si p) ⟨vJ h1,trivial⟩ ha
def zA:Tab:=(xB).add 162 (g1 rg2 fun p=>([],.one (.im (.bool (Ux p)))))
theorem tA:TabOk prog zA:=(uE).ad func162 (bM qO fun p hp args w ha=>aQM p args w ha)
section
variable {R:Type} [DecidableEq R] (K:CR R)
def Ot (p q:Jc R):Jc R :=
 if p.2.2=K.zero then q else if q.2.2=K.zero then p else if CJ K p q=K.zero then (if Ag K p q=K.zero then cK K p else (K.one,K.one,K.zero))else IR K p q
theorem aEj (p q:Jc R):Ot K p q=rplus K p q:=by
 unfold Ot rplus
 by_cases h1:p.2.2=K.zero
 ·rw[if_pos h1,if_pos h1]
 ·rw[if_neg h1,if_neg h1]
  by_cases h2:q.2.2=K.zero
  ·rw[if_pos h2,if_pos h2]
  ·rw[if_neg h2,if_neg h2]
   by_cases h3:CJ K p q=K.zero
   ·rw[if_pos h3]
    by_cases h4:Ag K p q=K.zero
    ·rw[if_pos h4,if_pos ⟨h3,h4⟩]
    ·rw[if_neg h4,if_neg (fun h=>h4 h.2),if_pos h3]
   ·rw[if_neg h3,if_neg (fun h=>h3 h.1),if_neg h3]
def UQ (a:Jc R) (n L:Nat):Nat→Jc R
 | 0=>(K.one,K.one,K.zero)
 | k+1=>if Nat.beq (n/2^(L-(k+1))%2) 1=true then Ot K (cK K (UQ a n L k)) a else cK K (UQ a n L k)
variable {K} {inv:R→R} {b:R}
theorem Oq {E:EC K inv b} {a:Jc R} {g:{p:Pt R // On K b p}} (h:Rp E a g) (n L:Nat) (hn:n<2^L):∀k,k≤L→Rp E (UQ K a n L k) (E.grp.ns (n/2^(L-k)) g)
 | 0,_=>by
  rw[Nat.sub_zero,Nat.div_eq_of_lt hn];exact Rp.zero rfl
 | k+1,hk=>by
  have ih:=Oq h n L hn k (by omega);have e:n/2^(L-k)=n/2^(L-(k+1))/2:=by
   rw[show L-k=(L-(k+1))+1 by omega,Nat.pow_add,←Nat.div_div_eq_div_mul]
  rw[e]at ih;have h2:=ih.dbl;rw[←E.grp.ns_add]at h2
  by_cases hb:n/2^(L-(k+1))%2=1
  ·rw[show UQ K a n L (k+1)=Ot K (cK K (UQ K a n L k)) a from if_pos (by rw[hb]; rfl),aEj];have h3:=h2.rplus h;rw[show n/2^(L-(k+1))=n/2^(L-(k+1))/2+n/2^(L-(k+1))/2+1 by omega];exact h3
  ·rw[show UQ K a n L (k+1)=cK K (UQ K a n L k)from if_neg (fun hq=>hb (Nat.eq_of_beq_eq_true hq))];rw[show n/2^(L-(k+1))=n/2^(L-(k+1))/2+n/2^(L-(k+1))/2 by omega];exact h2
theorem EL {E:EC K inv b} {a:Jc R} {g:{p:Pt R // On K b p}} (h:Rp E a g) (n L:Nat) (hn:n<2^L):Rp E (UQ K a n L L) (E.grp.ns n g):=by
 have:=Oq h n L hn L (Nat.le_refl _)
 rwa [Nat.sub_self,Nat.pow_zero,Nat.div_one]at this
end
def oX:Nat:=21888242871839275222246405745257275088548364400416034343698204186575808495617
theorem aHw:(UQ F2 (zD,AX,F2.one) oX 254 254).2.2=F2.zero:=of_decide_eq_true (by kernel_rfl)
section
variable {R:Type} {K:CR R} {inv:R→R} {b:R}
theorem aCH (E:EC K inv b) {p:Jc R} {x y:R} (hz:p.2.2≠K.zero) (hx:p.1=K.mul x (K.mul p.2.2 p.2.2)) (hy:p.2.1=K.mul y (K.mul (K.mul p.2.2 p.2.2) p.2.2)):fT K inv p=some (x,y):=by
 have h1:=E.F.inv _ hz;rw[dT hz,hx,hy];generalize inv p.2.2=i at h1 ⊢;generalize p.2.2=z at h1 ⊢;refine congrArg some (Prod.ext ?_ ?_)
 ·show K.mul (K.mul x (K.mul z z)) (K.mul i i)=x;have e:K.mul (K.mul x (K.mul z z)) (K.mul i i)=K.mul x (K.mul (K.mul z i) (K.mul z i)):=aE K (aU K [x,z,i]) (Z0*(Z1*Z1)*(Z2*Z2)) (Z0*(Z1*Z2*(Z1*Z2))) (by decide);rw[e,h1,K.one_mul,K.mul_one]
 ·show K.mul (K.mul y (K.mul (K.mul z z) z)) (K.mul (K.mul i i) i)=y;have e:K.mul (K.mul y (K.mul (K.mul z z) z)) (K.mul (K.mul i i) i)=K.mul y (K.mul (K.mul (K.mul z i) (K.mul z i)) (K.mul z i)):=aE K (aU K [y,z,i]) (Z0*(Z1*Z1*Z1)*(Z2*Z2*Z2)) (Z0*(Z1*Z2*(Z1*Z2)*(Z1*Z2))) (by decide);rw[e,h1,K.one_mul,K.one_mul,K.mul_one]
end
def g1n:nW:=((fm 1).1,(fm 2).1,false)
def g2n:jQ:=((zD.1.1,zD.2.1),(AX.1.1,AX.2.1),false)
theorem AL (x:Fq):m1 x.1=x:=Fin.ext (show wv x.1%FP.M=x.1 by rw[show wv x.1=x.1 from bU x.2]; exact Nat.mod_eq_of_lt x.2)
theorem EO (x:Fq):KQ x.1:=by show wv x.1<FP.M; rw[show wv x.1=x.1 from bU x.2]; exact x.2
theorem RB (x:Q2):m2 (x.1.1,x.2.1)=x:=Prod.ext (AL x.1) (AL x.2)
theorem Oz (x:Q2):KP (x.1.1,x.2.1):=⟨EO x.1,EO x.2⟩
theorem aEu {x y:Fq} (h:On F1 (fm 3) (some (x,y))):(jM (x.1,y.1,false)).1=0:=by
 have e:=SW x.1 y.1 false;rw[if_neg (by simp),if_neg (fun q=>q ⟨EO x,EO y⟩),AL,AL]at e;have h':F1.mul y y=F1.add (F1.mul (F1.mul x x) x) (fm 3):=by
  rw[F1.mul_comm (F1.mul x x) x]; exact h
 rw[if_pos h']at e;show (SX x.1 y.1 false).1=0;rw[e]
theorem aEr {x y:Q2} (h:On F2 dK (some (x,y))):(fO ((x.1.1,x.2.1),(y.1.1,y.2.1),false)).1=0:=by
 have e:=JK (x.1.1,x.2.1) (y.1.1,y.2.1) false;rw[if_neg (by simp),if_neg (fun q=>q ⟨Oz x,Oz y⟩),RB,RB]at e;have h':F2.mul y y=F2.add (F2.mul (F2.mul x x) x) dK:=by
  rw[F2.mul_comm (F2.mul x x) x]; exact h
 rw[if_pos h']at e;show (sF (x.1.1,x.2.1) (y.1.1,y.2.1) false).1=0;rw[e]
theorem aWQ:On F1 (fm 3) (some (fm 1,fm 2)):=by
 show F1.mul (fm 2) (fm 2)=F1.add (F1.mul (fm 1) (F1.mul (fm 1) (fm 1))) (fm 3);exact of_decide_eq_true (by kernel_rfl)
theorem aWO:On F2 dK (some (zD,AX)):=by
 show F2.mul AX AX=F2.add (F2.mul zD (F2.mul zD zD)) dK;exact of_decide_eq_true (by kernel_rfl)
theorem aMn:(jM g1n).1=0:=aEu aWQ
theorem aDv:(fO g2n).1=0:=aEr aWO
theorem Hz (x y:Fq):af1 (x.1,y.1,false)=some (x,y):=congrArg some (Prod.ext (AL x) (AL y))
theorem TK (x y:Q2):af2 ((x.1.1,x.2.1),(y.1.1,y.2.1),false)=some (x,y):=congrArg some (Prod.ext (RB x) (RB y))
theorem aRC:Rp aY (zD,AX,F2.one) (Wl g2n):=(aY.jto_one _ _).trans ((JF aDv).trans (TK zD AX)).symm
theorem aRD:aY.grp.ns oX (Wl g2n)=aY.grp.zero:=Subtype.ext ((EL aRC oX 254 (by decide)).symm.trans (dJ aHw))
theorem aFH:wv cI=cI:=by kernel_rfl
def Xv (P:Pt Fq):nW:=((ptX F1 P).1,(ptY F1 P).1,vF P)
def KJ (P:Pt Q2):jQ:=(((ptX F2 P).1.1,(ptX F2 P).2.1),((ptY F2 P).1.1,(ptY F2 P).2.1),vF P)
theorem Cj:∀{P:Pt Fq},On F1 (fm 3) P→(jM (Xv P)).1=0
 | none,_=>by
  have e:=SW 0 0 true;rw[if_pos rfl,if_pos ⟨by show wv 0=0; rfl,by show wv 0=0; rfl⟩]at e;show (SX 0 0 true).1=0;rw[e]
 | some p,h=>aEu h
theorem FI:∀{P:Pt Q2},On F2 dK P→(fO (KJ P)).1=0
 | none,_=>by
  have e:=JK (0,0) (0,0) true;rw[if_pos rfl,if_pos ⟨⟨by show wv 0=0; rfl,by show wv 0=0; rfl⟩,by show wv 0=0; rfl,by show wv 0=0; rfl⟩]at e;show (sF (0,0) (0,0) true).1=0;rw[e]
 | some p,h=>aEr h
theorem aTt:∀P:Pt Fq,af1 (Xv P)=P
 | none=>rfl
 | some p=>Hz p.1 p.2
theorem aFf:∀P:Pt Q2,af2 (KJ P)=P
 | none=>rfl
 | some p=>TK p.1 p.2
theorem aWP:Xv (cp1 g1n).1=g1n:=by
 rw[SQ aMn,show af1 g1n=some (fm 1,fm 2)from Hz (fm 1) (fm 2)];rfl
theorem aWN:KJ (Wl g2n).1=g2n:=by
 rw[JF aDv,show af2 g2n=some (zD,AX)from TK zD AX];rfl
theorem aSj (P:C1):cp1 (Xv P.1)=P:=Subtype.ext ((SQ (Cj P.2)).trans (aTt P.1))
theorem tM1 (P:C1) (n:Nat):pD (fun _=>Xv P.1) (fun _=>n) 1=((iO.grp.ns (wv n) P).1,0):=by
 rw[aHo,if_neg (fun q=>q (Cj P.2)),aSj]
theorem aEk (P:C2):Wl (KJ P.1)=P:=Subtype.ext ((JF (FI P.2)).trans (aFf P.1))
theorem tM2 (P:C2) (n:Nat):kV (fun _=>KJ P.1) (fun _=>n) 1=((aY.grp.ns (wv n) P).1,0):=by
 rw[aHn,if_neg (fun q=>q (FI P.2)),aEk]
theorem tN2 (P:C2):vD (KJ P.1)=((aY.grp.neg P).1,0):=by
 rw[aHm,if_neg (fun q=>q (FI P.2)),aEk]
theorem tC1 (P:C1):(jM (Xv P.1)).1=0:=Cj P.2
theorem tC2 (P:C2):(fO (KJ P.1)).1=0:=FI P.2
open Classical
section
variable {R:Type} {K:CR R} {inv:R→R} {b:R}
structure Tw (K:CR R) (b:R) (s:R→R) (k:R):Prop where
 add:∀x y,s (K.add x y)=K.add (s x) (s y)
 mul:∀x y,s (K.mul x y)=K.mul (s x) (s y)
 neg:∀x,s (K.neg x)=K.neg (s x)
 zero:s K.zero=K.zero
 ss:∀x,s (s x)=x
 k0:k≠K.zero
 hb:K.mul (K.mul (K.mul (K.mul k k) k) (K.mul (K.mul k k) k)) (s b)=b
def tw (K:CR R) (s:R→R) (k:R):Pt R→Pt R
 | none=>none
 | some p=>some (K.mul (s p.1) (K.mul k k),K.mul (s p.2) (K.mul (K.mul k k) k))
variable {s:R→R} {k:R}
theorem Tw.inj (t:Tw K b s k) {x y:R} (h:s x=s y):x=y:=by rw[←t.ss x,h,t.ss]
theorem Tw.sub (t:Tw K b s k) (x y:R):s (K.sub x y)=K.sub (s x) (s y):=by
 show s (K.add x (K.neg y))=K.add (s x) (K.neg (s y));rw[t.add,t.neg]
theorem DZ (E:EC K inv b) {x y c:R} (hc:c≠K.zero) (h:K.mul x c=K.mul y c):x=y:=by
 have h1:=congrArg (fun z=>K.mul z (inv c)) h;have h2:=E.F.inv c hc;simp only[K.mul_assoc,h2,K.mul_one]at h1;exact h1
theorem Tw.k2 (t:Tw K b s k) (E:EC K inv b):K.mul k k≠K.zero:=E.F.mul_ne t.k0 t.k0
theorem Tw.k3 (t:Tw K b s k) (E:EC K inv b):K.mul (K.mul k k) k≠K.zero:=E.F.mul_ne (t.k2 E) t.k0
theorem aKY (t:Tw K b s k) (E:EC K inv b):∀{P:Pt R},On K b P→On K b (tw K s k P)
 | none,_=>trivial
 | some p,h=>by
  have h':K.mul p.2 p.2=K.add (K.mul p.1 (K.mul p.1 p.1)) b:=h;have h1:=congrArg s h';rw[t.mul,t.add,t.mul,t.mul]at h1;show K.mul (K.mul (s p.2) (K.mul (K.mul k k) k)) (K.mul (s p.2) (K.mul (K.mul k k) k))=K.add (K.mul (K.mul (s p.1) (K.mul k k)) (K.mul (K.mul (s p.1) (K.mul k k)) (K.mul (s p.1) (K.mul k k)))) b;have e1:K.mul (K.mul (s p.2) (K.mul (K.mul k k) k)) (K.mul (s p.2) (K.mul (K.mul k k) k))=K.mul (K.mul (K.mul (K.mul k k) k) (K.mul (K.mul k k) k)) (K.mul (s p.2) (s p.2)):=aE K (aU K [s p.2,k]) (Z0*(Z1*Z1*Z1)*(Z0*(Z1*Z1*Z1))) (Z1*Z1*Z1*(Z1*Z1*Z1)*(Z0*Z0)) (by decide);have e2:K.mul (K.mul (s p.1) (K.mul k k)) (K.mul (K.mul (s p.1) (K.mul k k)) (K.mul (s p.1) (K.mul k k)))=K.mul (K.mul (K.mul (K.mul k k) k) (K.mul (K.mul k k) k)) (K.mul (s p.1) (K.mul (s p.1) (s p.1))):=aE K (aU K [s p.1,k]) (Z0*(Z1*Z1)*(Z0*(Z1*Z1)*(Z0*(Z1*Z1)))) (Z1*Z1*Z1*(Z1*Z1*Z1)*(Z0*(Z0*Z0))) (by decide);rw[e1,e2,h1,K.mul_add,t.hb]
theorem VA (t:Tw K b s k) (E:EC K inv b) {x1 y1 x2 y2:R} (hp:On K b (some (x1,y1))) (hq:On K b (some (x2,y2))) (h:¬(x1=x2∧K.add y1 y2=K.zero)) :
  dH K inv (K.mul (s x1) (K.mul k k)) (K.mul (s y1) (K.mul (K.mul k k) k)) (K.mul (s x2) (K.mul k k)) (K.mul (s y2) (K.mul (K.mul k k) k))=K.mul (s (dH K inv x1 y1 x2 y2)) k:=by
 by_cases hx:x1=x2
 ·subst hx;have hy:K.add y1 y2≠K.zero:=fun e=>h ⟨rfl,e⟩
  have hyy:y1=y2:=by
   apply Classical.byContradiction;intro hn;exact hy (FO E (show K.mul y1 y1=K.mul y2 y2 from (show K.mul y1 y1=_ from hp).trans (show K.mul y2 y2=_ from hq).symm) hn)
  subst hyy;have hl:K.mul (dH K inv x1 y1 x1 y1) (K.add y1 y1)=K.add (K.add (K.mul x1 x1) (K.mul x1 x1)) (K.mul x1 x1):=by
   unfold dH;rw[if_pos rfl,K.mul_assoc,K.mul_comm (inv _),E.F.inv _ hy,K.mul_one]
  generalize dH K inv x1 y1 x1 y1=l at hl ⊢;have h1:=congrArg s hl;rw[t.mul,t.add,t.add,t.add,t.mul]at h1;have hys:K.add (s y1) (s y1)≠K.zero:=fun e=>hy (t.inj (by rw[t.add,t.zero]; exact e))
  refine zL E ?_ ?_
  ·intro e;refine hys ?_;apply DZ E (t.k3 E);rw[K.add_mul,e,K.mul_comm K.zero,K.mul_zero]
  ·have e1:K.mul (K.mul (s l) k) (K.add (K.mul (s y1) (K.mul (K.mul k k) k)) (K.mul (s y1) (K.mul (K.mul k k) k)))=K.mul (K.mul (s l) (K.add (s y1) (s y1))) (K.mul (K.mul k k) (K.mul k k)):=aE K (aU K [s l,k,s y1]) (Z0*Z1*(Z2*(Z1*Z1*Z1)+Z2*(Z1*Z1*Z1))) (Z0*(Z2+Z2)*(Z1*Z1*(Z1*Z1))) (by decide);rw[e1,h1];exact aE K (aU K [s x1,k]) ((Z0*Z0+Z0*Z0+Z0*Z0)*(Z1*Z1*(Z1*Z1))) (Z0*(Z1*Z1)*(Z0*(Z1*Z1))+Z0*(Z1*Z1)*(Z0*(Z1*Z1))+Z0*(Z1*Z1)*(Z0*(Z1*Z1))) (by decide)
 ·have hl:K.mul (dH K inv x1 y1 x2 y2) (K.sub x2 x1)=K.sub y2 y1:=by
   unfold dH;rw[if_neg hx,K.mul_assoc,K.mul_comm (inv _),E.F.inv _ (PD fun e=>hx e.symm),K.mul_one]
  generalize dH K inv x1 y1 x2 y2=l at hl ⊢;have h1:=congrArg s hl;rw[t.mul,t.sub,t.sub]at h1;refine sI E (fun e=>hx (t.inj (DZ E (t.k2 E) e))) ?_;have e1:K.mul (K.mul (s l) k) (K.sub (K.mul (s x2) (K.mul k k)) (K.mul (s x1) (K.mul k k)))=K.mul (K.mul (s l) (K.sub (s x2) (s x1))) (K.mul (K.mul k k) k):=aE K (aU K [s l,k,s x1,s x2]) (Z0*Z1*(Z3*(Z1*Z1)-Z2*(Z1*Z1))) (Z0*(Z3-Z2)*(Z1*Z1*Z1)) (by decide);rw[e1,h1];exact aE K (aU K [s y1,k,s y2]) ((Z2-Z0)*(Z1*Z1*Z1)) (Z2*(Z1*Z1*Z1)-Z0*(Z1*Z1*Z1)) (by decide)
theorem Xl (t:Tw K b s k) (E:EC K inv b):∀{P Q:Pt R},On K b P→On K b Q→tw K s k (hZ K inv P Q)=hZ K inv (tw K s k P) (tw K s k Q)
 | none,_,_,_=>rfl
 | some p,none,_,_=>rfl
 | some p,some q,hp,hq=>by
  by_cases h:p.1=q.1∧K.add p.2 q.2=K.zero
  ·rw[kO h];refine (kO ⟨?_,?_⟩).symm
   ·show K.mul (s p.1) _=K.mul (s q.1) _;rw[h.1]
   ·show K.add (K.mul (s p.2) _) (K.mul (s q.2) _)=K.zero;rw[←K.add_mul,←t.add,h.2,t.zero,K.mul_comm,K.mul_zero]
  ·rw[jD h];have h':¬(K.mul (s p.1) (K.mul k k)=K.mul (s q.1) (K.mul k k)∧K.add (K.mul (s p.2) (K.mul (K.mul k k) k)) (K.mul (s q.2) (K.mul (K.mul k k) k))=K.zero):=fun e=>h ⟨t.inj (DZ E (t.k2 E) e.1),by
    have e2:=e.2;rw[←K.add_mul,←t.add]at e2;exact t.inj (by rw[t.zero]; exact DZ E (t.k3 E) (by rw[e2,K.mul_comm K.zero,K.mul_zero]))⟩
   have hS:=jD (K:=K) (inv:=inv) (p:=(K.mul (s p.1) (K.mul k k),K.mul (s p.2) (K.mul (K.mul k k) k))) (q:=(K.mul (s q.1) (K.mul k k),K.mul (s q.2) (K.mul (K.mul k k) k))) h';refine Eq.trans ?_ hS.symm;rw[VA t E (x1:=p.1) (y1:=p.2) (x2:=q.1) (y2:=q.2) hp hq h];generalize dH K inv p.1 p.2 q.1 q.2=l;have ex:s (sx K l p.1 q.1)=K.sub (K.sub (K.mul (s l) (s l)) (s p.1)) (s q.1):=by
    unfold sx;rw[t.sub,t.sub,t.mul]
   have ey:s (sy K l p.1 p.2 q.1)=K.sub (K.mul (s l) (K.sub (s p.1) (s (sx K l p.1 q.1)))) (s p.2):=by
    unfold sy;rw[t.sub,t.mul,t.sub]
   have fx:K.mul (s (sx K l p.1 q.1)) (K.mul k k)=sx K (K.mul (s l) k) (K.mul (s p.1) (K.mul k k)) (K.mul (s q.1) (K.mul k k)):=by
    rw[ex];exact aE K (aU K [s l,k,s p.1,s q.1]) ((Z0*Z0-Z2-Z3)*(Z1*Z1)) (Z0*Z1*(Z0*Z1)-Z2*(Z1*Z1)-Z3*(Z1*Z1)) (by decide)
   refine congrArg some (Prod.ext fx ?_);show K.mul (s (sy K l p.1 p.2 q.1)) (K.mul (K.mul k k) k)=sy K (K.mul (s l) k) (K.mul (s p.1) (K.mul k k)) (K.mul (s p.2) (K.mul (K.mul k k) k)) (K.mul (s q.1) (K.mul k k));rw[ey];unfold sy;rw[←fx];generalize s (sx K l p.1 q.1)=S;exact aE K (aU K [s l,k,s p.1,S,s p.2]) ((Z0*(Z2-Z3)-Z4)*(Z1*Z1*Z1)) (Z0*Z1*(Z2*(Z1*Z1)-Z3*(Z1*Z1))-Z4*(Z1*Z1*Z1)) (by decide)
end
def kE:Q2:=(⟨8376118865763821496583973867626364092589906065868298776909617916018768340080,by decide⟩,⟨16469823323077808223889137241176536799009286646108169935659301613961712198316,by decide⟩)
theorem EE:F2.mul kE kE=iZ:=of_decide_eq_true (by kernel_rfl)
theorem Gq:F2.mul (F2.mul kE kE) kE=nL:=of_decide_eq_true (by kernel_rfl)
theorem aEx (x y:Q2):aJ (F2.add x y)=F2.add (aJ x) (aJ y):=Prod.ext rfl (aE F1 (aU F1 [x.2,y.2]) (-(Z0+Z1)) (-Z0-Z1) (by decide))
theorem SY (x y:Q2):aJ (F2.mul x y)=F2.mul (aJ x) (aJ y):=by
 refine Prod.ext ?_ ?_
 ·exact aE F1 (aU F1 [x.1,x.2,y.1,y.2]) (Z0*Z2+(-RE.one)*(Z1*Z3)) (Z0*Z2+(-RE.one)*((-Z1)*(-Z3))) (by decide)
 ·exact aE F1 (aU F1 [x.1,x.2,y.1,y.2]) (-(Z0*Z3+Z1*Z2)) (Z0*(-Z3)+(-Z1)*Z2) (by decide)
theorem LR:Tw F2 dK aJ kE where
 add:=aEx
 mul:=SY
 neg:=fun x=>rfl
 zero:=yU
 ss:=fun x=>Prod.ext rfl (aE F1 (aU F1 [x.2]) (-(-Z0)) (.v 0) (by decide))
 k0:=of_decide_eq_true (by kernel_rfl)
 hb:=of_decide_eq_true (by kernel_rfl)
theorem sP:∀P:Pt Q2,LF P=tw F2 aJ kE P
 | none=>rfl
 | some p=>by
  show some (F2.mul (aJ p.1) iZ,F2.mul (aJ p.2) nL)=some (F2.mul (aJ p.1) (F2.mul kE kE),F2.mul (aJ p.2) (F2.mul (F2.mul kE kE) kE));rw[EE,←Gq,EE]
def qC (P:C2):C2:=⟨LF P.1,by rw[sP]; exact aKY LR aY P.2⟩
theorem Km (P Q:C2):qC (aY.grp.add P Q)=aY.grp.add (qC P) (qC Q):=Subtype.ext (by
 show LF (hZ F2 dV P.1 Q.1)=hZ F2 dV (LF P.1) (LF Q.1);rw[sP,sP,sP];exact Xl LR aY P.2 Q.2)
theorem GG (P:C2):∀n,qC (aY.grp.ns n P)=aY.grp.ns n (qC P)
 | 0=>rfl
 | n+1=>by
  show qC (aY.grp.add (aY.grp.ns n P) P)=aY.grp.add (aY.grp.ns n (qC P)) (qC P);rw[Km,GG P n]
theorem aUG (P:C2):fS (KJ P.1)=((qC P).1,0):=by
 unfold fS;rw[if_neg (fun q=>q (FI P.2)),aFf];rfl
namespace AG
variable {G:Type} (A:AG G)
theorem ns_modz {g:G} {n:Nat} (h:A.ns n g=A.zero) (m:Nat):A.ns (m%n) g=A.ns m g:=by
 conv=>rhs; rw[←Nat.div_add_mod m n,A.ns_add,A.ns_mul,h,A.ns_zero,A.zadd]
theorem ns_gcd {g:G} (a b:Nat):A.ns a g=A.zero→A.ns b g=A.zero→A.ns (Nat.gcd a b) g=A.zero:=by
 induction a,b using Nat.gcd.induction with
 | H0 n=>intro _ h; rw[Nat.gcd_zero_left]; exact h
 | H1 m n hm ih =>
  intro h1 h2;rw[Nat.gcd_rec];exact ih (by rw[A.ns_modz h1]; exact h2) h1
theorem exact {g:G} {N:Nat} {l:List Nat} (hl:l.foldr (· * ·) 1=N) (hp:∀q,q∈l→dW q) (h0:A.ns N g=A.zero) (hq:∀q,q∈l→A.ns (N/q) g≠A.zero) (k:Nat) (hk:0<k) (hN:k<N):A.ns k g≠A.zero:=fun h=>by
 have hd:=A.ns_gcd k N h h0;obtain⟨e,he⟩:=Nat.gcd_dvd_right k N;have hdk:Nat.gcd k N≤k:=Nat.le_of_dvd hk (Nat.gcd_dvd_left k N);have hd0:0<Nat.gcd k N:=Nat.gcd_pos_of_pos_left N hk;have he1:1<e:=by
  rcases Nat.lt_or_ge 1 e with q|q
  ·exact q
  ·have:Nat.gcd k N*e≤Nat.gcd k N*1:=Nat.mul_le_mul_left _ q;omega
 obtain⟨q,hql,f,hf⟩:=xV l e (by rw[hl]; exact⟨Nat.gcd k N,by rw[Nat.mul_comm]; exact he⟩) he1 hp;refine hq q hql ?_;have hq0:0<q:=Nat.lt_trans Nat.zero_lt_one (hp q hql).1;have e1:N/q=Nat.gcd k N*f:=by
  rw[Nat.div_eq_of_eq_mul_left hq0];rw[Nat.mul_assoc,Nat.mul_comm f q,←hf];exact he
 rw[e1,A.ns_mul,hd,A.ns_zero]
theorem ns_inj {g:G} {N:Nat} (h:∀k,0<k→k<N→A.ns k g≠A.zero) {i j:Nat} (hi:i<N) (hj:j<N) (e:A.ns i g=A.ns j g):i=j:=by
 have key:∀i j,i<j→j<N→A.ns i g=A.ns j g→False:=fun i j hij hj e=>by
  refine h (j-i) (by omega) (by omega) ?_;have:A.ns j g=A.add (A.ns i g) (A.ns (j-i) g):=by rw[←A.ns_add,Nat.add_sub_cancel' (Nat.le_of_lt hij)]
  rw[this]at e;refine A.cancel (a:=A.ns i g) ?_;rw[←e,A.addz]
 rcases Nat.lt_trichotomy i j with q|q|q
 ·exact (key i j q hj e).elim
 ·exact q
 ·exact (key j i q hi e.symm).elim
theorem ns_dvd {g:G} {N:Nat} (hN:0<N) (h0:A.ns N g=A.zero) (h:∀k,0<k→k<N→A.ns k g≠A.zero) (a:Nat):A.ns a g=A.zero↔N∣a:=by
 constructor
 ·intro e;refine Nat.dvd_of_mod_eq_zero ?_
  rcases Nat.eq_zero_or_pos (a%N)with q|q
  ·exact q
  ·exact (h (a%N) q (Nat.mod_lt _ hN) (by rw[A.ns_modz h0]; exact e)).elim
 ·rintro⟨f,rfl⟩
  rw[A.ns_mul,h0,A.ns_zero]
theorem ns_back {g:G} {N:Nat} (h0:A.ns N g=A.zero) {j:Nat} (hj:j≤N):A.add (A.ns j g) (A.ns (N-j) g)=A.zero:=by
 rw[←A.ns_add,Nat.add_sub_cancel' hj,h0]
theorem cyclic {g:G} {N M:Nat} (hN:N%2=1) (h0:A.ns N g=A.zero) (h:∀k,0<k→k<N→A.ns k g≠A.zero) (two:∀P,A.add P P=A.zero→P=A.zero)
  (code:G→Nat) (hc:∀P,code P<M) (hi:∀P Q,code P=code Q→P=Q) (hM:M<3*N) (P:G):∃k,P=A.ns k g:=by
 apply Classical.byContradiction;intro hP;have hsub:∀i j,j<N→∀Q,A.ns i g=A.add Q (A.ns j g)→∃k,Q=A.ns k g:=fun i j hj Q e=>by
  refine⟨i+(N-j),?_⟩;rw[A.ns_add,e,A.assoc,A.ns_back h0 (Nat.le_of_lt hj),A.addz]
 by_cases hD:∃k,A.add P P=A.ns k g
 ·obtain⟨k,hk⟩:=hD;obtain⟨j,hj⟩:∃j,A.ns (j+j) g=A.add P P:=by
   rcases Nat.mod_two_eq_zero_or_one k with q|q
   ·exact⟨k/2,by rw[hk,show k/2+k/2=k by omega]⟩
   ·refine⟨(k+N)/2,?_⟩;rw[hk,show (k+N)/2+(k+N)/2=k+N by omega,A.ns_add,h0,A.addz]
  have hz:=two (A.add P (A.neg (A.ns j g))) (by
   rw[A.add4,←hj,←A.neg_add,←A.ns_add,A.addn])
  refine hP ⟨j,?_⟩;refine A.cancel (a:=A.neg (A.ns j g)) ?_;rw[A.nadd,A.comm,hz]
 ·have pg:=aBb (3*N) (fun i=>if i<N then code (A.ns i g)else if i<2*N then code (A.add P (A.ns (i-N) g))else code (A.add (A.add P P) (A.ns (i-2*N) g)))
   (fun i _=>by
    show (if i<N then _ else if i<2*N then _ else _)<3*N;split
    ·exact Nat.lt_trans (hc _) hM
    ·split
     ·exact Nat.lt_trans (hc _) hM
     ·exact Nat.lt_trans (hc _) hM)
   (fun i j hi3 hj3 e=>by
    have e':(if i<N then code (A.ns i g)else if i<2*N then code (A.add P (A.ns (i-N) g))else code (A.add (A.add P P) (A.ns (i-2*N) g)))=(if j<N then code (A.ns j g)else if j<2*N then code (A.add P (A.ns (j-N) g))else code (A.add (A.add P P) (A.ns (j-2*N) g))):=e
    by_cases i1:i<N
    ·rw[if_pos i1]at e'
     by_cases j1:j<N
     ·rw[if_pos j1]at e';exact A.ns_inj h i1 j1 (hi _ _ e')
     ·rw[if_neg j1]at e'
      by_cases j2:j<2*N
      ·rw[if_pos j2]at e';exact (hP (hsub _ _ (by omega) _ (hi _ _ e'))).elim
      ·rw[if_neg j2]at e';exact (hD (hsub _ _ (by omega) _ (hi _ _ e'))).elim
    ·rw[if_neg i1]at e'
     by_cases i2:i<2*N
     ·rw[if_pos i2]at e'
      by_cases j1:j<N
      ·rw[if_pos j1]at e';exact (hP (hsub _ _ (by omega) _ (hi _ _ e'.symm))).elim
      ·rw[if_neg j1]at e'
       by_cases j2:j<2*N
       ·rw[if_pos j2]at e';have:=A.ns_inj h (i:=i-N) (j:=j-N) (by omega) (by omega) (A.cancel (hi _ _ e'));omega
       ·rw[if_neg j2]at e';have e2:=hi _ _ e';rw[A.assoc]at e2;exact (hP (hsub _ _ (by omega) _ (A.cancel e2))).elim
     ·rw[if_neg i2]at e'
      by_cases j1:j<N
      ·rw[if_pos j1]at e';exact (hD (hsub _ _ (by omega) _ (hi _ _ e'.symm))).elim
      ·rw[if_neg j1]at e'
       by_cases j2:j<2*N
       ·rw[if_pos j2]at e';have e2:=(hi _ _ e').symm;rw[A.assoc]at e2;exact (hP (hsub _ _ (by omega) _ (A.cancel e2))).elim
       ·rw[if_neg j2]at e';have:=A.ns_inj h (i:=i-2*N) (j:=j-2*N) (by omega) (by omega) (A.cancel (hi _ _ e'));omega) M hM
  obtain⟨i,_,hiM⟩:=pg;have:(if i<N then code (A.ns i g)else if i<2*N then code (A.add P (A.ns (i-N) g))else code (A.add (A.add P P) (A.ns (i-2*N) g)))=M:=hiM;have hlt:(if i<N then code (A.ns i g)else if i<2*N then code (A.add P (A.ns (i-N) g))else code (A.add (A.add P P) (A.ns (i-2*N) g)))<M:=by
   split
   ·exact hc _
   ·split
    ·exact hc _
    ·exact hc _
  omega
end AG
end Go.Proofs.YtglgakbkdjhojaaGreat.Ex
namespace Go.Proofs.YtglgakbkdjhojaaGreat
open Go.Proofs.Tryz
theorem Ud:dW 10069:=aP 10069 100 (by decide) (by decide) (by kernel_rfl)
theorem aHQ:dW 181:=aP 181 13 (by decide) (by decide) (by kernel_rfl)
theorem PU:Root 5864401 38:=by
 refine bA (l:=[2,2,2,2,3,3,3,3,5,5,181]) (by kernel_rfl) fun q hq => ?_
 simp only[List.mem_cons,List.not_mem_nil,or_false]at hq
 rcases hq with rfl|rfl|rfl|rfl|rfl|rfl|rfl|rfl|rfl|rfl|rfl
 ·exact aV
 ·exact aV
 ·exact aV
 ·exact aV
 ·exact fG
 ·exact fG
 ·exact fG
 ·exact fG
 ·exact lC
 ·exact lC
 ·exact aHQ
theorem YA:dW 5864401:=PU.prm
theorem aHP:dW 199:=aP 199 14 (by decide) (by decide) (by kernel_rfl)
theorem aAO:dW 1511:=aP 1511 38 (by decide) (by decide) (by kernel_rfl)
theorem XO:Root 601379 2:=by
 refine bA (l:=[2,199,1511]) (by kernel_rfl) fun q hq => ?_
 simp only[List.mem_cons,List.not_mem_nil,or_false]at hq
 rcases hq with rfl|rfl|rfl
 ·exact aV
 ·exact aHP
 ·exact aAO
theorem Fh:dW 601379:=XO.prm
theorem zU:Root 17367825521 3:=by
 refine bA (l:=[2,2,2,2,5,19,19,601379]) (by kernel_rfl) fun q hq => ?_
 simp only[List.mem_cons,List.not_mem_nil,or_false]at hq
 rcases hq with rfl|rfl|rfl|rfl|rfl|rfl|rfl|rfl
 ·exact aV
 ·exact aV
 ·exact aV
 ·exact aV
 ·exact lC
 ·exact zZ
 ·exact zZ
 ·exact Fh
theorem DC:dW 17367825521:=zU.prm
theorem vZ:Root 1875725156269 2:=by
 refine bA (l:=[2,2,3,3,3,17367825521]) (by kernel_rfl) fun q hq => ?_
 simp only[List.mem_cons,List.not_mem_nil,or_false]at hq
 rcases hq with rfl|rfl|rfl|rfl|rfl|rfl
 ·exact aV
 ·exact aV
 ·exact fG
 ·exact fG
 ·exact fG
 ·exact DC
theorem xX:dW 1875725156269:=vZ.prm
theorem aOJ:dW 59:=aP 59 7 (by decide) (by decide) (by kernel_rfl)
theorem aOK:dW 43:=aP 43 6 (by decide) (by decide) (by kernel_rfl)
theorem aAM:dW 23:=aP 23 4 (by decide) (by decide) (by kernel_rfl)
theorem aHI:dW 727:=aP 727 26 (by decide) (by decide) (by kernel_rfl)
theorem XS:Root 133769 3:=by
 refine bA (l:=[2,2,2,23,727]) (by kernel_rfl) fun q hq => ?_
 simp only[List.mem_cons,List.not_mem_nil,or_false]at hq
 rcases hq with rfl|rfl|rfl|rfl|rfl
 ·exact aV
 ·exact aV
 ·exact aV
 ·exact aAM
 ·exact aHI
theorem Fl:dW 133769:=XS.prm
theorem aOI:dW 61:=aP 61 7 (by decide) (by decide) (by kernel_rfl)
theorem aHS:dW 149:=aP 149 12 (by decide) (by decide) (by kernel_rfl)
theorem PV:Root 5835139 3:=by
 refine bA (l:=[2,3,61,107,149]) (by kernel_rfl) fun q hq => ?_
 simp only[List.mem_cons,List.not_mem_nil,or_false]at hq
 rcases hq with rfl|rfl|rfl|rfl|rfl
 ·exact aV
 ·exact fG
 ·exact aOI
 ·exact Kq
 ·exact aHS
theorem YB:dW 5835139:=PV.prm
theorem FZ:Root 758568071 14:=by
 refine bA (l:=[2,5,13,5835139]) (by kernel_rfl) fun q hq => ?_
 simp only[List.mem_cons,List.not_mem_nil,or_false]at hq
 rcases hq with rfl|rfl|rfl|rfl
 ·exact aV
 ·exact lC
 ·exact QG
 ·exact YB
theorem LH:dW 758568071:=FZ.prm
theorem oL:Root 1309000310535827101 2:=by
 refine bA (l:=[2,2,3,5,5,43,133769,758568071]) (by kernel_rfl) fun q hq => ?_
 simp only[List.mem_cons,List.not_mem_nil,or_false]at hq
 rcases hq with rfl|rfl|rfl|rfl|rfl|rfl|rfl|rfl
 ·exact aV
 ·exact aV
 ·exact fG
 ·exact lC
 ·exact lC
 ·exact aOK
 ·exact Fl
 ·exact LH
theorem pG:dW 1309000310535827101:=oL.prm
theorem aHR:dW 157:=aP 157 12 (by decide) (by decide) (by kernel_rfl)
theorem QA:Root 1233079 11:=by
 refine bA (l:=[2,3,7,11,17,157]) (by kernel_rfl) fun q hq => ?_
 simp only[List.mem_cons,List.not_mem_nil,or_false]at hq
 rcases hq with rfl|rfl|rfl|rfl|rfl|rfl
 ·exact aV
 ·exact fG
 ·exact GI
 ·exact QH
 ·exact aAN
 ·exact aHR
theorem YH:dW 1233079:=QA.prm
theorem aAQ:dW 1031:=aP 1031 32 (by decide) (by decide) (by kernel_rfl)
theorem Ua:dW 77339:=aP 77339 278 (by decide) (by decide) (by kernel_rfl)
theorem aAK:dW 3359:=aP 3359 57 (by decide) (by decide) (by kernel_rfl)
theorem XQ:Root 268721 3:=by
 refine bA (l:=[2,2,2,2,5,3359]) (by kernel_rfl) fun q hq => ?_
 simp only[List.mem_cons,List.not_mem_nil,or_false]at hq
 rcases hq with rfl|rfl|rfl|rfl|rfl|rfl
 ·exact aV
 ·exact aV
 ·exact aV
 ·exact aV
 ·exact lC
 ·exact aAK
theorem Fj:dW 268721:=XQ.prm
theorem PY:Root 1612327 5:=by
 refine bA (l:=[2,3,268721]) (by kernel_rfl) fun q hq => ?_
 simp only[List.mem_cons,List.not_mem_nil,or_false]at hq
 rcases hq with rfl|rfl|rfl
 ·exact aV
 ·exact fG
 ·exact Fj
theorem YF:dW 1612327:=PY.prm
theorem sO:Root 677736056450657 3:=by
 refine bA (l:=[2,2,2,2,2,7,23,83,983,1612327]) (by kernel_rfl) fun q hq => ?_
 simp only[List.mem_cons,List.not_mem_nil,or_false]at hq
 rcases hq with rfl|rfl|rfl|rfl|rfl|rfl|rfl|rfl|rfl|rfl
 ·exact aV
 ·exact aV
 ·exact aV
 ·exact aV
 ·exact aV
 ·exact GI
 ·exact aAM
 ·exact aAG
 ·exact QF
 ·exact YF
theorem uT:dW 677736056450657:=sO.prm
theorem nA:Root 209661715479349446893 2:=by
 refine bA (l:=[2,2,77339,677736056450657]) (by kernel_rfl) fun q hq => ?_
 simp only[List.mem_cons,List.not_mem_nil,or_false]at hq
 rcases hq with rfl|rfl|rfl|rfl
 ·exact aV
 ·exact aV
 ·exact Ua
 ·exact uT
theorem nX:dW 209661715479349446893:=nA.prm
theorem kD:Root 3458579658547348475946929 3:=by
 refine bA (l:=[2,2,2,2,1031,209661715479349446893]) (by kernel_rfl) fun q hq => ?_
 simp only[List.mem_cons,List.not_mem_nil,or_false]at hq
 rcases hq with rfl|rfl|rfl|rfl|rfl|rfl
 ·exact aV
 ·exact aV
 ·exact aV
 ·exact aV
 ·exact aAQ
 ·exact nX
theorem lD:dW 3458579658547348475946929:=kD.prm
theorem gD:Root 213235097339095295568608163219551 31:=by
 refine bA (l:=[2,5,5,1233079,3458579658547348475946929]) (by kernel_rfl) fun q hq => ?_
 simp only[List.mem_cons,List.not_mem_nil,or_false]at hq
 rcases hq with rfl|rfl|rfl|rfl|rfl
 ·exact aV
 ·exact lC
 ·exact lC
 ·exact YH
 ·exact lD
theorem gN:dW 213235097339095295568608163219551:=gD.prm
theorem dC:Root 197620364512881247228717050342013327560683201906968909 2:=by
 refine bA (l:=[2,2,3,59,1309000310535827101,213235097339095295568608163219551]) (by kernel_rfl) fun q hq => ?_
 simp only[List.mem_cons,List.not_mem_nil,or_false]at hq
 rcases hq with rfl|rfl|rfl|rfl|rfl|rfl
 ·exact aV
 ·exact aV
 ·exact fG
 ·exact aOJ
 ·exact pG
 ·exact gN
theorem dD:dW 197620364512881247228717050342013327560683201906968909:=dC.prm
end Go.Proofs.YtglgakbkdjhojaaGreat
namespace Go.Proofs.YtglgakbkdjhojaaGreat.Ex
open Go.Proofs.Tryz
open Go.RowKit
def VD:Q2:=(⟨2,by decide⟩,⟨1,by decide⟩)
def Bx:Q2:=(⟨7292567877523311580221095596750716176434782432868683424513645834767876293070,by decide⟩,⟨19659275751359636165940301690575149581329631496732780143538578556285923319774,by decide⟩)
def KH:Nat:=479095176016622842441988045216678740799252316531100822436447802254070093686356349204969212544220033486413271283566945264650845755880805213916963058350733
def twM:Nat:=287457105609973705413735949925891179998572849537316190965553840838426151215824331271088064391342496698406609565003789524066463657087527623491112425449299
theorem Xk:On F2 dK (some (VD,Bx)):=by
 show F2.mul Bx Bx=F2.add (F2.mul VD (F2.mul VD VD)) dK;exact of_decide_eq_true (by kernel_rfl)
def UO:C2:=⟨some (VD,Bx),Xk⟩
theorem Cf:Rp aY (VD,Bx,F2.one) UO:=aY.jto_one _ _
theorem aYE:(UQ F2 (VD,Bx,F2.one) KH 508 508).2.2=F2.zero:=of_decide_eq_true (by kernel_rfl)
theorem aNs:(UQ F2 (VD,Bx,F2.one) 21888242871839275222246405745257275088844257914179612981679871602714643921549 508 508).2.2≠F2.zero:=of_decide_eq_true (by kernel_rfl)
theorem aNr:(UQ F2 (VD,Bx,F2.one) 47581207271489010074683488451353534690560365133687637544587129035065060451520145913692443394996527310200940637954806362563397135354136976255533127257 508 508).2.2≠F2.zero:=of_decide_eq_true (by kernel_rfl)
theorem aNq:(UQ F2 (VD,Bx,F2.one) 81695500702735512534355690413510048306596413944254634435204516583035521221409714172848891565263022342164744751180375500353888786916311693882625533 508 508).2.2≠F2.zero:=of_decide_eq_true (by kernel_rfl)
theorem aNp:(UQ F2 (VD,Bx,F2.one) 255418644045692602095536823547820102522999221828645151339294751423486163211343406059815000057572293107810899582329754326227174532880069378657 508 508).2.2≠F2.zero:=of_decide_eq_true (by kernel_rfl)
theorem aNo:(UQ F2 (VD,Bx,F2.one) 2424320880075062131686333725919013315836351602446602932909956992302697742401182419325566481532687937 508 508).2.2≠F2.zero:=of_decide_eq_true (by kernel_rfl)
theorem aNv:KH<2^508:=of_decide_eq_true (by kernel_rfl)
theorem aNw:twM<2^508:=of_decide_eq_true (by kernel_rfl)
theorem OO:aY.grp.ns KH UO=aY.grp.zero:=Subtype.ext ((EL Cf KH 508 aNv).symm.trans (dJ aYE))
theorem VB {n:Nat} (hn:n<2^508) (h:(UQ F2 (VD,Bx,F2.one) n 508 508).2.2≠F2.zero):aY.grp.ns n UO≠aY.grp.zero:=fun e=>by
 have h1:fT F2 dV (UQ F2 (VD,Bx,F2.one) n 508 508)=(aY.grp.ns n UO).1:=EL Cf n 508 hn;rw[e,dT h]at h1;cases h1
def twL:List Nat:=[21888242871839275222246405745257275088548364400416034343698204186575808495617,10069,5864401,1875725156269,197620364512881247228717050342013327560683201906968909]
theorem Xm:twL.foldr (· * ·) 1=KH:=by kernel_rfl
theorem aFR:∀q,q∈twL→dW q:=fun q hq=>by
 simp only[twL,List.mem_cons,List.not_mem_nil,or_false]at hq
 rcases hq with rfl|rfl|rfl|rfl|rfl
 ·exact aAF
 ·exact Ud
 ·exact YA
 ·exact xX
 ·exact dD
theorem aNy:∀q,q∈twL→aY.grp.ns (KH/q) UO≠aY.grp.zero:=fun q hq=>by
 simp only[twL,List.mem_cons,List.not_mem_nil,or_false]at hq
 rcases hq with rfl|rfl|rfl|rfl|rfl
 ·rw[show KH/21888242871839275222246405745257275088548364400416034343698204186575808495617=21888242871839275222246405745257275088844257914179612981679871602714643921549 by kernel_rfl]; exact VB (of_decide_eq_true (by kernel_rfl)) aNs
 ·rw[show KH/10069=47581207271489010074683488451353534690560365133687637544587129035065060451520145913692443394996527310200940637954806362563397135354136976255533127257 by kernel_rfl]; exact VB (of_decide_eq_true (by kernel_rfl)) aNr
 ·rw[show KH/5864401=81695500702735512534355690413510048306596413944254634435204516583035521221409714172848891565263022342164744751180375500353888786916311693882625533 by kernel_rfl]; exact VB (of_decide_eq_true (by kernel_rfl)) aNq
 ·rw[show KH/1875725156269=255418644045692602095536823547820102522999221828645151339294751423486163211343406059815000057572293107810899582329754326227174532880069378657 by kernel_rfl]; exact VB (of_decide_eq_true (by kernel_rfl)) aNp
 ·rw[show KH/197620364512881247228717050342013327560683201906968909=2424320880075062131686333725919013315836351602446602932909956992302697742401182419325566481532687937 by kernel_rfl]; exact VB (of_decide_eq_true (by kernel_rfl)) aNo
theorem FF:∀k,0<k→k<KH→aY.grp.ns k UO≠aY.grp.zero:=aY.grp.exact Xm aFR OO aNy
theorem aNl (P:C2) (h:aY.grp.add P P=aY.grp.zero):P=aY.grp.zero:=by
 have h1:aY.grp.neg P=P:=by
  refine aY.grp.cancel (a:=P) ?_;rw[aY.grp.addn,h]
 obtain⟨P,hP⟩:=P;cases P with
 | none=>rfl
 | some p =>
  have h2:some (p.1,F2.neg p.2)=some p:=congrArg Subtype.val h1;have h3:F2.neg p.2=p.2:=by injection h2 with h2; exact congrArg Prod.snd h2
  have h4:F2.add p.2 p.2=F2.zero:=by
   conv=>lhs; lhs; rw[←h3]
   exact F2.neg_add _
  exact (aY.dbl_ne (aY.y_ne (x:=p.1) hP) h4).elim
open Classical in
def mF (x:Q2):Q2:=if h:∃y,On F2 dK (some (x,y))then h.choose else F2.zero
open Classical in
def zG (P:C2):Nat:=match P.1 with
 | none=>2*(FP.M*FP.M)
 | some p=>2*(p.1.1.1+FP.M*p.1.2.1)+(if p.2=mF p.1 then 0 else 1)
theorem Gw {a b M:Nat} (ha:a<M) (hb:b<M):a+M*b<M*M:=by
 have:M*(b+1)≤M*M:=Nat.mul_le_mul_left _ hb;rw[Nat.mul_add,Nat.mul_one]at this;omega
theorem Pv (P:C2):zG P<2*(FP.M*FP.M)+1:=by
 obtain⟨P,hP⟩:=P;unfold zG;cases P with
 | none=>exact Nat.lt_succ_self _
 | some p =>
  have:=Gw p.1.1.2 p.1.2.2;show 2*(p.1.1.1+FP.M*p.1.2.1)+(if p.2=mF p.1 then 0 else 1)<_;split<;>omega
theorem aJh {a b c d M:Nat} (ha:a<M) (hc:c<M) (h:a+M*b=c+M*d):a=c∧b=d:=by
 have h1:=congrArg (· % M) h;simp only[Nat.add_mul_mod_self_left,Nat.mod_eq_of_lt ha,Nat.mod_eq_of_lt hc]at h1;refine⟨h1,?_⟩;rw[h1]at h;have hM:0<M:=by omega
 exact Nat.eq_of_mul_eq_mul_left hM (by omega)
theorem Cg (P Q:C2) (h:zG P=zG Q):P=Q:=by
 obtain⟨P,hP⟩:=P;obtain⟨Q,hQ⟩:=Q;refine Subtype.ext ?_;show P=Q;unfold zG at h;cases P with
 | none =>
  cases Q with
  | none=>rfl
  | some q =>
   have:=Gw q.1.1.2 q.1.2.2;have h':2*(FP.M*FP.M)=2*(q.1.1.1+FP.M*q.1.2.1)+(if q.2=mF q.1 then 0 else 1):=h;split at h'<;>omega
 | some p =>
  cases Q with
  | none =>
   have:=Gw p.1.1.2 p.1.2.2;have h':2*(p.1.1.1+FP.M*p.1.2.1)+(if p.2=mF p.1 then 0 else 1)=2*(FP.M*FP.M):=h;split at h'<;>omega
  | some q =>
   have h':2*(p.1.1.1+FP.M*p.1.2.1)+(if p.2=mF p.1 then 0 else 1)=2*(q.1.1.1+FP.M*q.1.2.1)+(if q.2=mF q.1 then 0 else 1):=h;have hx:p.1.1.1+FP.M*p.1.2.1=q.1.1.1+FP.M*q.1.2.1∧((p.2=mF p.1)↔(q.2=mF q.1)):=by
    by_cases a:p.2=mF p.1
    ·rw[if_pos a]at h'
     by_cases b:q.2=mF q.1
     ·rw[if_pos b]at h'; exact⟨by omega,fun _=>b,fun _=>a⟩
     ·rw[if_neg b]at h'; omega
    ·rw[if_neg a]at h'
     by_cases b:q.2=mF q.1
     ·rw[if_pos b]at h'; omega
     ·rw[if_neg b]at h'; exact⟨by omega,fun h=>(a h).elim,fun h=>(b h).elim⟩
   obtain⟨e1,e2⟩:=aJh p.1.1.2 q.1.1.2 hx.1;have ex:p.1=q.1:=Prod.ext (Fin.ext e1) (Fin.ext e2);obtain⟨px,py⟩:=p;obtain⟨qx,qy⟩:=q;have ex':px=qx:=ex;subst ex';have hb:(py=mF px)↔(qy=mF px):=hx.2;refine congrArg (fun y=>some (px,y)) ?_
   by_cases a:py=mF px
   ·rw[a,←hb.1 a]
   ·have b:qy≠mF px:=fun h=>a (hb.2 h)
    have hy0:On F2 dK (some (px,mF px)):=by
     have hex:∃y,On F2 dK (some (px,y)):=⟨py,hP⟩
     unfold mF;rw[dif_pos hex];exact hex.choose_spec
    have s1:F2.add py (mF px)=F2.zero:=FO aY ((show F2.mul py py=_ from hP).trans (show F2.mul (mF px) (mF px)=_ from hy0).symm) a;have s2:F2.add qy (mF px)=F2.zero:=FO aY ((show F2.mul qy qy=_ from hQ).trans (show F2.mul (mF px) (mF px)=_ from hy0).symm) b;refine F2.add_cancel (a:=mF px) ?_;rw[F2.add_comm,s1,F2.add_comm,s2]
theorem aNt:2*(FP.M*FP.M)+1<3*KH:=of_decide_eq_true (by kernel_rfl)
theorem aNn:KH%2=1:=by kernel_rfl
theorem aNu (P:C2):∃k,P=aY.grp.ns k UO:=aY.grp.cyclic aNn OO FF aNl zG Pv Cg aNt P
def aYH:Q2:=F2.mul (aJ VD) iZ
def aYG:Q2:=F2.mul (aJ Bx) nL
def twJ:J2:=UQ F2 (VD,Bx,F2.one) twM 508 508
theorem aYK:twJ.2.2≠F2.zero:=of_decide_eq_true (by kernel_rfl)
theorem aYM:twJ.1=F2.mul aYH (F2.mul twJ.2.2 twJ.2.2):=of_decide_eq_true (by kernel_rfl)
theorem aYL:twJ.2.1=F2.mul aYG (F2.mul (F2.mul twJ.2.2 twJ.2.2) twJ.2.2):=of_decide_eq_true (by kernel_rfl)
theorem aNO:Rp aY twJ (aY.grp.ns twM UO):=EL Cf twM 508 aNw
theorem aNm:qC UO=aY.grp.ns twM UO:=by
 refine Subtype.ext ?_;rw[←show fT F2 dV twJ=(aY.grp.ns twM UO).1 from aNO,aCH aY aYK aYM aYL];show LF (some (VD,Bx))=_
 kernel_rfl
def twC:Nat:=287457105609973705413735949925891179998572849537316190965553840838426151215824331271088064391342496698406609565003641577309581867768536789783043007736333
def twU:Nat:=4377648574367855045624726741130453375770005524880588749457117171343633558474
def twW:Nat:=2626589144620713026904657807846672682105704487528335372401875091607964744325
theorem aNz:twM=cI+twC:=by kernel_rfl
theorem aFS:twC=oX*13132945723103565130996952262996368337156300107536646163745009583754801998349:=by kernel_rfl
theorem aUz:twC*twU=oX+KH*twW:=by kernel_rfl
theorem Xj:0<KH:=of_decide_eq_true (by kernel_rfl)
theorem Gv (P:C2):aY.grp.ns cI P=qC P↔aY.grp.ns oX P=aY.grp.zero:=by
 obtain⟨k,rfl⟩:=aNu P;have e1:qC (aY.grp.ns k UO)=aY.grp.add (aY.grp.ns cI (aY.grp.ns k UO)) (aY.grp.ns (k*twC) UO):=by
  rw[GG,aNm,←aY.grp.ns_mul,←aY.grp.ns_mul,←aY.grp.ns_add,aNz,Nat.add_mul,Nat.mul_comm cI,Nat.mul_comm twC]
 have e2:aY.grp.ns cI (aY.grp.ns k UO)=qC (aY.grp.ns k UO)↔aY.grp.ns (k*twC) UO=aY.grp.zero:=by
  rw[e1];constructor
  ·intro h;refine aY.grp.cancel (a:=aY.grp.ns cI (aY.grp.ns k UO)) ?_;rw[←h,aY.grp.addz]
  ·intro h;rw[h,aY.grp.addz]
 rw[e2,←aY.grp.ns_mul,aY.grp.ns_dvd Xj OO FF,aY.grp.ns_dvd Xj OO FF];constructor
 ·rintro⟨f,hf⟩
  have h1:k*oX+KH*(k*twW)=KH*(f*twU):=by
   have h2:k*(twC*twU)=KH*(f*twU):=by rw[←Nat.mul_assoc,hf,Nat.mul_assoc]
   rw[aUz,Nat.mul_add,Nat.mul_left_comm k KH]at h2;exact h2
  have h3:KH∣k*oX+KH*(k*twW):=⟨_,h1⟩;exact (Nat.dvd_add_left ⟨_,rfl⟩).1 h3
 ·rintro⟨f,hf⟩
  rw[aFS,←Nat.mul_assoc,hf];exact⟨f*13132945723103565130996952262996368337156300107536646163745009583754801998349,Nat.mul_assoc _ _ _⟩
end Go.Proofs.YtglgakbkdjhojaaGreat.Ex
