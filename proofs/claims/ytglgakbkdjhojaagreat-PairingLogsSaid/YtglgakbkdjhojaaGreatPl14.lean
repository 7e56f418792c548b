/- Pl14 -/
import Derived.Test.YtglgakbkdjhojaaGreatPl13
import Derived.Test.YtglgakbkdjhojaaGreatPl10
import Derived.Test.YtglgakbkdjhojaaGreatPl03
import Derived.Test.YtglgakbkdjhojaaGreatPl04
import Derived.Test.YtglgakbkdjhojaaGreatProg
set_option maxRecDepth 100000
set_option linter.unusedVariables false
set_option linter.unusedSimpArgs false
noncomputable section
namespace Go.Proofs.YtglgakbkdjhojaaGreat.Ex
open Go.Proofs.Tryz
section
variable {A:Type} {K:CR A}
theorem aDz (D:Dom K) {v0 v l m la t s:A} (h:K.mul (K.mul v0 (K.mul (K.mul v l) la)) K.one=K.mul (K.mul (K.mul v0 (K.mul v m)) la) t)
  (h':K.mul (K.mul v0 (K.mul (K.mul v l) la)) s=K.mul (K.mul (K.mul v0 (K.mul v m)) la) K.one)
  (h0:v0≠K.zero) (hv:v≠K.zero) (hm:m≠K.zero) (hla:la≠K.zero):K.mul t s=K.one∧l=K.mul t m:=by
 have hb:K.mul (K.mul v0 (K.mul v m)) la≠K.zero:=D.2 _ _ (D.2 _ _ h0 (D.2 _ _ hv hm)) hla;refine⟨?_,?_⟩
 ·rw[K.mul_one]at h;rw[h,K.mul_assoc]at h';exact oU D hb h'
 ·have hk:K.mul (K.mul v0 v) la≠K.zero:=D.2 _ _ (D.2 _ _ h0 hv) hla;refine oU D hk ?_;have e1:K.mul (K.mul (K.mul v0 v) la) l=K.mul (K.mul v0 (K.mul (K.mul v l) la)) K.one:=aG K (aV K [v0,v,la,l]) (Z0*Z1*Z2*Z3) (Z0*(Z1*Z3*Z2)*RE.one) (by kernel_rfl);have e2:K.mul (K.mul (K.mul v0 (K.mul v m)) la) t=K.mul (K.mul (K.mul v0 v) la) (K.mul t m):=aG K (aV K [v0,v,la,m,t]) (Z0*(Z1*Z3)*Z2*Z4) (Z0*Z1*Z2*(Z4*Z3)) (by kernel_rfl);exact e1.trans (h.trans e2)
theorem bAB {w i:A} (h:K.mul w i=K.one) (a:A):K.mul (K.mul a (K.mul i i)) (K.mul w w)=a :=
 iV (K:=K) (c1:=K.mul a (K.add (K.mul w i) K.one)) h (aG K (aV K [a,i,w]) (Z0*(Z1*Z1)*(Z2*Z2)-Z0) (Z0*(Z2*Z1+RE.one)*(Z2*Z1-RE.one)) (by kernel_rfl))
theorem aQA {w i:A} (h:K.mul w i=K.one) (a:A):K.mul (K.mul a (K.mul (K.mul i i) i)) (K.mul (K.mul w w) w)=a :=
 iV (K:=K) (c1:=K.mul a (K.add (K.add (K.mul (K.mul w i) (K.mul w i)) (K.mul w i)) K.one)) h (aG K (aV K [a,i,w]) (Z0*(Z1*Z1*Z1)*(Z2*Z2*Z2)-Z0) (Z0*(Z2*Z1*(Z2*Z1)+Z2*Z1+RE.one)*(Z2*Z1-RE.one)) (by kernel_rfl))
theorem bAD {a b e q i w3:A} (h:K.mul b b=K.add (K.mul a (K.mul a a)) e) (h2:e=K.mul q (K.mul w3 w3)) (h3:K.mul (K.mul (K.mul i i) i) w3=K.one) :
  K.mul (K.mul b (K.mul (K.mul i i) i)) (K.mul b (K.mul (K.mul i i) i))=K.add (K.mul (K.mul a (K.mul i i)) (K.mul (K.mul a (K.mul i i)) (K.mul a (K.mul i i)))) q :=
 Hd (K:=K) (c1:=K.mul (K.mul (K.mul i i) i) (K.mul (K.mul i i) i)) (c2:=K.mul (K.mul (K.mul i i) i) (K.mul (K.mul i i) i)) (c3:=K.mul q (K.add (K.mul (K.mul (K.mul i i) i) w3) K.one)) h h2 h3 (aG K (aV K [a,b,e,q,i,w3])
  (Z1*(Z4*Z4*Z4)*(Z1*(Z4*Z4*Z4))-(Z0*(Z4*Z4)*(Z0*(Z4*Z4)*(Z0*(Z4*Z4)))+Z3))
  (Z4*Z4*Z4*(Z4*Z4*Z4)*(Z1*Z1-(Z0*(Z0*Z0)+Z2))+Z4*Z4*Z4*(Z4*Z4*Z4)*(Z2-Z3*(Z5*Z5))+Z3*(Z4*Z4*Z4*Z5+RE.one)*(Z4*Z4*Z4*Z5-RE.one)) (by kernel_rfl))
theorem bAC {x y B C M X1 Y1 w2 w:A} (hy:K.mul y (K.mul w2 w)=B) (hx:K.mul x w2=C) :
  K.mul (K.sub (K.sub y Y1) (K.mul M (K.sub x X1))) (K.mul w2 w)=K.sub B (K.add (K.mul (K.mul M w) C) (K.mul (K.sub Y1 (K.mul M X1)) (K.mul w2 w))) :=
 lL (K:=K) (c1:=K.one) (c2:=K.neg (K.mul M w)) hy hx (aG K (aV K [x,y,B,C,M,X1,Y1,w2,w])
  ((Z1-Z6-Z4*(Z0-Z5))*(Z7*Z8)-(Z2-(Z4*Z8*Z3+(Z6-Z4*Z5)*(Z7*Z8))))
  (RE.one*(Z1*(Z7*Z8)-Z2)+(-(Z4*Z8))*(Z0*Z7-Z3)) (by kernel_rfl))
theorem bAA {x C X1 w2:A} (hx:K.mul x w2=C):K.mul (K.sub x X1) w2=K.neg (K.sub (K.mul X1 w2) C) :=
 iV (K:=K) (c1:=K.one) hx (aG K (aV K [x,C,X1,w2]) ((Z0-Z2)*Z3-(-(Z2*Z3-Z1))) (RE.one*(Z0*Z3-Z1)) (by kernel_rfl))
end
section
variable {R:Type} {K:CR R} {inv:R→R} {b:R}
theorem aHI (E:EC K inv b) {p q:Pt R} (hp:On K b p) (hq:On K b q):∃c,c≠K.zero∧If K inv b p q=(cN K b).mul (cc c) (If K inv b q p):=by
 have D:=kV (K:=K) b E.F;have hu:=mH (cN K b);have hW:=hp.add E hq;have e1:=mL E hu hp hq;have e2:=mL E hu hq hp;rw[Ei,Dk E hq hp]at e2;have f:=e1.symm.trans e2;have n:=mL E hu hW.neg hW;rw[GJ]at n;have k:=(n.symm.trans (f.opP (PI K (jI K inv p q)))).trans n;obtain⟨t,_,h1⟩:=k.1 (cN K b).one trivial;obtain⟨s,_,h2⟩:=k.2 (cN K b).one trivial;have u:=aDz D h1 h2 (xS E _) (xS E _) (LK E _ _) (LK E _ _);obtain⟨c,hc,e⟩:=Rz (b:=b) E.F u.1;refine⟨c,hc,?_⟩;rw[←e];exact u.2
end
def wI:aQ:=lZ wE
theorem bAF:wE≠aF.zero:=by decide
theorem SC:aF.mul wE wI=aF.one:=kU bAF
theorem aSs:yT=aF.mul NZ wE:=rfl
def px (a:Fq):aQ:=aF.mul (eP a) (aF.mul wI wI)
def py (a:Fq):aQ:=aF.mul (eP a) (aF.mul (aF.mul wI wI) wI)
theorem bBS (a:Fq):aF.mul (px a) NZ=eP a:=bAB SC (eP a)
theorem bFv (a:Fq):aF.mul (py a) yT=eP a:=aQA SC (eP a)
theorem hmE:Hm F2 aF eQ:=⟨DO,qL,Xe,by decide⟩
theorem bAE:aF.mul (aF.mul (aF.mul wI wI) wI) yT=aF.one:=by
 have h:=aQA SC aF.one;rw[aF.one_mul]at h;exact h
theorem pxy {a:Fq×Fq} (h:On F1 (fm 3) (some a)):aF.mul (py a.2) (py a.2)=aF.add (aF.mul (px a.1) (aF.mul (px a.1) (px a.1))) (eQ dO):=by
 have hp:F1.mul a.2 a.2=F1.add (F1.mul a.1 (F1.mul a.1 a.1)) (fm 3):=h;have hY:aF.mul (eP a.2) (eP a.2)=aF.add (aF.mul (eP a.1) (aF.mul (eP a.1) (eP a.1))) (eP (fm 3)):=by rw[←vG,hp,WG,vG,vG]
 have r:=bAD (K:=aF) (a:=eP a.1) (b:=eP a.2) (e:=eP (fm 3)) (q:=eQ dO) (i:=wI) (w3:=yT) hY Pz.symm bAE;unfold px py;exact r
def BO (a:Fq×Fq) (f:Pol F2×Pol F2):aQ:=rL aF eQ (px a.1) (py a.2) f
theorem sH {a:Fq×Fq} (h:On F1 (fm 3) (some a)) (f g:Pol F2×Pol F2):BO a ((cN F2 dO).mul f g)=aF.mul (BO a f) (BO a g):=by
 unfold BO;exact aGh hmE (px a.1) (py a.2) (pxy h) f g
theorem BP (a:Fq×Fq) (c:Q2):BO a (cc c)=eQ c:=by
 unfold BO;exact aNG hmE (px a.1) (py a.2) c
theorem aYn (x y:Q2):eQ (F2.sub x y)=aF.sub (eQ x) (eQ y):=by
 show eQ (F2.add x (F2.neg y))=aF.add (eQ x) (aF.neg (eQ y));rw[DO,Ph]
theorem GG (a:Fq×Fq) (f g:Pol F2×Pol F2):BO a ((cN F2 dO).sub f g)=aF.sub (BO a f) (BO a g):=by
 unfold BO;exact aGe hmE (px a.1) (py a.2) f g
theorem aQB (a:Fq×Fq):BO a cX=px a.1:=by
 unfold BO;exact aVb hmE (px a.1) (py a.2)
theorem bAG (a:Fq×Fq):BO a cY=py a.2:=by
 unfold BO;exact aVa hmE (px a.1) (py a.2)
theorem aLj (a:Fq×Fq):BO a (cN F2 dO).one=aF.one:=by
 unfold BO;exact aGf hmE (px a.1) (py a.2)
theorem aDv {a:Fq×Fq} (h:On F1 (fm 3) (some a)) (t:Q2×Q2) (l:Q2):aF.mul (BO a ((cN F2 dO).sub ((cN F2 dO).sub cY (cc t.2)) ((cN F2 dO).mul (cc l) ((cN F2 dO).sub cX (cc t.1))))) yT=lT l (hgt F2 l t) a.1 a.2:=by
 have r:=bAC (K:=aF) (x:=px a.1) (y:=py a.2) (B:=eP a.2) (C:=eP a.1) (M:=eQ l) (X1:=eQ t.1) (Y1:=eQ t.2) (w2:=NZ) (w:=wE) (by rw[←aSs]; exact bFv a.2) (bBS a.1);rw[←aSs]at r;rw[GG,GG,sH h,GG,BP,BP,BP,aQB,bAG,QT,show hgt F2 l t=F2.sub t.2 (F2.mul l t.1)from rfl,aYn,qL];exact r
theorem aLi (a:Fq×Fq) (x:Q2):aF.mul (BO a ((cN F2 dO).sub cX (cc x))) NZ=aF.neg (vP a.1 x):=by
 have r:=bAA (K:=aF) (X1:=eQ x) (bBS a.1);rw[GG,BP,aQB,IW];exact r
theorem aSu:NZ≠aF.zero:=by decide
theorem aSt:yT≠aF.zero:=by decide
theorem aWL:lY NZ=aF.one:=AQ (by decide) aSu
theorem bDW:cO yT=aF.neg yT:=by decide
theorem bAK:aF.mul (cW (aF.neg aF.one)) (aF.neg aF.one)=aF.one:=by decide
theorem aWK:lY yT=aF.one:=by
 have e:aF.mul (cO yT) (lZ yT)=aF.neg aF.one:=by rw[bDW,aF.neg_mul,kU aSt]
 unfold lY eZ;rw[e,bAK,aIo]
theorem aHD {z w m:aQ} (h:aF.mul z w=m) (hm:m≠aF.zero) (hw:w≠aF.zero) (l:lY w=aF.one):z≠aF.zero∧lY z=lY m:=by
 have hz:z≠aF.zero:=fun e=>hm (by rw[←h,e,aF.zero_mul])
 refine⟨hz,?_⟩;rw[←h,dZ hz hw,l,aF.mul_comm,aF.one_mul]
theorem xT {a:Fq×Fq} (h:On F1 (fm 3) (some a)):∀t:Pt Q2,BO a (ver F2 dO t)≠aF.zero∧lY (BO a (ver F2 dO t))=aF.one
 | none=>by
  rw[show ver F2 dO none=(cN F2 dO).one from rfl,aLj];exact⟨lK.1,GT⟩
 | some t=>by
  have n:=nH (x:=t.1) (qJ h);have r:=aHD (aLi a t.1) (wN n) aSu aWL;rw[sT n,yJ (qJ h)]at r;exact r
theorem aHH {a:Fq×Fq} (h:On F1 (fm 3) (some a)) {t t':Q2×Q2} (hn:¬(t.1=t'.1∧F2.add t.2 t'.2=F2.zero)):BO a (If F2 eD dO (some t) (some t'))≠aF.zero∧lY (BO a (If F2 eD dO (some t) (some t')))=lY (lnT t t' a):=by
 rw[VC hn];have r:=aHD (aDv h t (eE F2 eD t.1 t.2 t'.1 t'.2)) (tQ (jA h)) aSt aWK;rw[qH];exact r
theorem Oh {a:Fq×Fq} (h:On F1 (fm 3) (some a)) {t t':Q2×Q2} (hn:t.1=t'.1∧F2.add t.2 t'.2=F2.zero):BO a (If F2 eD dO (some t) (some t'))≠aF.zero∧lY (BO a (If F2 eD dO (some t) (some t')))=aF.one:=by
 rw[VD hn];exact xT h (some t)
theorem DC {a:Fq×Fq} (h:On F1 (fm 3) (some a)):∀t t':Pt Q2,BO a (If F2 eD dO t t')≠aF.zero
 | none,t'=>(xT h t').1
 | some t,none=>(xT h (some t)).1
 | some t,some t'=>by
  by_cases hn:t.1=t'.1∧F2.add t.2 t'.2=F2.zero
  ·exact (Oh h hn).1
  ·exact (aHH h hn).1
def cv (a:Fq×Fq) (t t':Pt Q2):Vq:=lv (BO a (If F2 eD dO t t'))
theorem Gx {c:Q2} (h:c≠F2.zero):eQ c≠aF.zero:=fun e=>h (congrArg (fun z:aQ=>z.1.1) e)
theorem bDI (c:Q2):cO (eQ c)=eQ c:=Prod.ext rfl (by show F6.sub F6.zero F6.zero=F6.zero; decide)
theorem Oe {c:Q2} (h:c≠F2.zero):lY (eQ c)=aF.one:=AQ (bDI c) (Gx h)
theorem aYw {a:Fq×Fq} (h:On F1 (fm 3) (some a)) {p q r:Pt Q2} (hp:On F2 dO p) (hq:On F2 dO q) (hr:On F2 dO r) :
  vg.add (cv a p q) (cv a (jI F2 eD p q) r)=vg.add (cv a q r) (cv a p (jI F2 eD q r)):=by
 obtain⟨c,hc,e⟩:=bDS bE hp hq hr;have e:=congrArg (BO a) e;rw[sH h,sH h,sH h,sH h,sH h,BP]at e;have e:=congrArg lY e;have v1:=xT h (jI F2 eD q r);have v2:=xT h (jI F2 eD p q);have n1:=DC h p q;have n2:=DC h (jI F2 eD p q) r;have n3:=DC h q r;have n4:=DC h p (jI F2 eD q r);rw[dZ v1.1 (pF n1 n2),dZ n1 n2,dZ (Gx hc) (pF v2.1 (pF n3 n4)),dZ v2.1 (pF n3 n4),dZ n3 n4,v1.2,v2.2,Oe hc,aF.one_mul,aF.one_mul,aF.one_mul]at e;refine Subtype.ext ?_;unfold cv;rw[mY,mY,dK n1,dK n2,dK n3,dK n4];exact e
theorem Xi {a:Fq×Fq} (h:On F1 (fm 3) (some a)) {p q:Pt Q2} (hp:On F2 dO p) (hq:On F2 dO q):cv a p q=cv a q p:=by
 obtain⟨c,hc,e⟩:=aHI bE hp hq;have e:=congrArg (BO a) e;rw[sH h,BP]at e;have e:=congrArg lY e;have n1:=DC h p q;have n2:=DC h q p;rw[dZ (Gx hc) n2,Oe hc,aF.one_mul]at e;refine Subtype.ext ?_;unfold cv;rw[dK n1,dK n2];exact e
theorem CZ {z:aQ} (h:z≠aF.zero∧lY z=aF.one):lv z=vg.zero:=by
 refine Subtype.ext ?_;rw[dK h.1,IV];exact h.2
theorem Hb {a:Fq×Fq} (h:On F1 (fm 3) (some a)) (q:Pt Q2):cv a none q=vg.zero:=CZ (xT h q)
theorem aYv {a:Fq×Fq} (h:On F1 (fm 3) (some a)):∀q:Pt Q2,cv a q (PI F2 q)=vg.zero
 | none=>CZ (xT h none)
 | some t=>by
  unfold cv;rw[Mw];exact CZ (Oh (t':=(t.1,F2.neg t.2)) h ⟨rfl,F2.add_neg _⟩)
theorem BB {a:Fq×Fq} (h:On F1 (fm 3) (some a)) {t t':Q2×Q2} (hn:¬(t.1=t'.1∧F2.add t.2 t'.2=F2.zero)):cv a (some t) (some t')=lv (lnT t t' a):=by
 have r:=aHH h hn;refine Subtype.ext ?_;unfold cv;rw[dK r.1,dK (yK (jA h))];exact r.2
section
variable {R:Type} {K:CR R}
theorem aTX {x y z i j:R} (h1:(K.mul z i)=K.one) (h2:(K.mul (K.add (K.mul y z) (K.mul y z)) j)=K.one):(K.mul (K.mul (K.add (K.add (K.mul x x) (K.mul x x)) (K.mul x x)) j) (K.add (K.mul y (K.mul (K.mul i i) i)) (K.mul y (K.mul (K.mul i i) i))))=(K.add (K.add (K.mul (K.mul x (K.mul i i)) (K.mul x (K.mul i i))) (K.mul (K.mul x (K.mul i i)) (K.mul x (K.mul i i)))) (K.mul (K.mul x (K.mul i i)) (K.mul x (K.mul i i)))) :=
 lL (K:=K) (c1:=(K.neg (K.mul (K.mul (K.add (K.add (K.mul x x) (K.mul x x)) (K.mul x x)) (K.mul i i)) (K.mul (K.add y y) (K.mul j i))))) (c2:=(K.mul (K.add (K.add (K.mul x x) (K.mul x x)) (K.mul x x)) (K.mul (K.mul i i) (K.mul i i)))) h1 h2 (aG K (aV K [x,y,z,i,j]) ((Z0*Z0+Z0*Z0+Z0*Z0)*Z4*(Z1*(Z3*Z3*Z3)+Z1*(Z3*Z3*Z3))-(Z0*(Z3*Z3)*(Z0*(Z3*Z3))+Z0*(Z3*Z3)*(Z0*(Z3*Z3))+Z0*(Z3*Z3)*(Z0*(Z3*Z3)))) ((-((Z0*Z0+Z0*Z0+Z0*Z0)*(Z3*Z3)*((Z1+Z1)*(Z4*Z3))))*(Z2*Z3-RE.one)+(Z0*Z0+Z0*Z0+Z0*Z0)*(Z3*Z3*(Z3*Z3))*((Z1*Z2+Z1*Z2)*Z4-RE.one)) (by kernel_rfl))
theorem bAR {x y z i j:R} (h1:(K.mul z i)=K.one) (h2:(K.mul (K.add (K.mul y z) (K.mul y z)) j)=K.one):(K.mul (K.add (K.add (K.mul x x) (K.mul x x)) (K.mul x x)) (K.mul z z))=(K.mul (K.mul (K.add (K.mul y z) (K.mul y z)) (K.mul z z)) (K.mul (K.add (K.add (K.mul x x) (K.mul x x)) (K.mul x x)) j)) :=
 lL (K:=K) (c1:=K.zero) (c2:=(K.neg (K.mul (K.add (K.add (K.mul x x) (K.mul x x)) (K.mul x x)) (K.mul z z)))) h1 h2 (aG K (aV K [x,y,z,i,j]) ((Z0*Z0+Z0*Z0+Z0*Z0)*(Z2*Z2)-(Z1*Z2+Z1*Z2)*(Z2*Z2)*((Z0*Z0+Z0*Z0+Z0*Z0)*Z4)) (RE.zero*(Z2*Z3-RE.one)+(-((Z0*Z0+Z0*Z0+Z0*Z0)*(Z2*Z2)))*((Z1*Z2+Z1*Z2)*Z4-RE.one)) (by kernel_rfl))
theorem bAS {x y z i j:R} (h1:(K.mul z i)=K.one) (h2:(K.mul (K.add (K.mul y z) (K.mul y z)) j)=K.one):(K.sub (K.mul (K.add (K.add (K.mul x x) (K.mul x x)) (K.mul x x)) x) (K.add (K.mul y y) (K.mul y y)))=(K.mul (K.mul (K.add (K.mul y z) (K.mul y z)) (K.mul z z)) (K.neg (K.sub (K.mul y (K.mul (K.mul i i) i)) (K.mul (K.mul (K.add (K.add (K.mul x x) (K.mul x x)) (K.mul x x)) j) (K.mul x (K.mul i i)))))) :=
 lL (K:=K) (c1:=(K.add (K.neg (K.mul (K.mul (K.add (K.add (K.mul x x) (K.mul x x)) (K.mul x x)) x) (K.add (K.mul z i) K.one))) (K.mul (K.add (K.mul y y) (K.mul y y)) (K.add (K.add (K.mul (K.mul z i) (K.mul z i)) (K.mul z i)) K.one)))) (c2:=(K.neg (K.mul (K.mul (K.add (K.add (K.mul x x) (K.mul x x)) (K.mul x x)) x) (K.mul (K.mul z i) (K.mul z i))))) h1 h2 (aG K (aV K [x,y,z,i,j]) ((Z0*Z0+Z0*Z0+Z0*Z0)*Z0-(Z1*Z1+Z1*Z1)-(Z1*Z2+Z1*Z2)*(Z2*Z2)*(-(Z1*(Z3*Z3*Z3)-(Z0*Z0+Z0*Z0+Z0*Z0)*Z4*(Z0*(Z3*Z3))))) ((-((Z0*Z0+Z0*Z0+Z0*Z0)*Z0*(Z2*Z3+RE.one))+(Z1*Z1+Z1*Z1)*(Z2*Z3*(Z2*Z3)+Z2*Z3+RE.one))*(Z2*Z3-RE.one)+(-((Z0*Z0+Z0*Z0+Z0*Z0)*Z0*(Z2*Z3*(Z2*Z3))))*((Z1*Z2+Z1*Z2)*Z4-RE.one)) (by kernel_rfl))
theorem aYU {x y z u v i j:R} (h1:(K.mul z i)=K.one) (h2:(K.mul (K.mul z (K.sub (K.mul u (K.mul z z)) x)) j)=K.one):(K.mul (K.mul (K.sub (K.mul v (K.mul (K.mul z z) z)) y) j) (K.sub u (K.mul x (K.mul i i))))=(K.sub v (K.mul y (K.mul (K.mul i i) i))) :=
 lL (K:=K) (c1:=(K.add (K.sub (K.neg (K.mul (K.mul (K.mul (K.sub (K.mul v (K.mul (K.mul z z) z)) y) j) u) (K.add (K.mul z i) K.one))) (K.mul (K.mul (K.mul (K.sub (K.mul v (K.mul (K.mul z z) z)) y) j) (K.mul i i)) (K.sub (K.mul u (K.mul z z)) x))) (K.mul v (K.add (K.add (K.mul (K.mul z i) (K.mul z i)) (K.mul z i)) K.one)))) (c2:=(K.mul (K.sub (K.mul v (K.mul (K.mul z z) z)) y) (K.mul (K.mul i i) i))) h1 h2 (aG K (aV K [x,y,z,u,v,i,j]) ((Z4*(Z2*Z2*Z2)-Z1)*Z6*(Z3-Z0*(Z5*Z5))-(Z4-Z1*(Z5*Z5*Z5))) ((-((Z4*(Z2*Z2*Z2)-Z1)*Z6*Z3*(Z2*Z5+RE.one))-(Z4*(Z2*Z2*Z2)-Z1)*Z6*(Z5*Z5)*(Z3*(Z2*Z2)-Z0)+Z4*(Z2*Z5*(Z2*Z5)+Z2*Z5+RE.one))*(Z2*Z5-RE.one)+(Z4*(Z2*Z2*Z2)-Z1)*(Z5*Z5*Z5)*(Z2*(Z3*(Z2*Z2)-Z0)*Z6-RE.one)) (by kernel_rfl))
theorem bDX {x y z u v i j:R} (h1:(K.mul z i)=K.one) (h2:(K.mul (K.mul z (K.sub (K.mul u (K.mul z z)) x)) j)=K.one):(K.sub (K.mul v (K.mul (K.mul z z) z)) y)=(K.mul (K.mul z (K.sub (K.mul u (K.mul z z)) x)) (K.mul (K.sub (K.mul v (K.mul (K.mul z z) z)) y) j)) :=
 lL (K:=K) (c1:=K.zero) (c2:=(K.neg (K.sub (K.mul v (K.mul (K.mul z z) z)) y))) h1 h2 (aG K (aV K [x,y,z,u,v,i,j]) (Z4*(Z2*Z2*Z2)-Z1-Z2*(Z3*(Z2*Z2)-Z0)*((Z4*(Z2*Z2*Z2)-Z1)*Z6)) (RE.zero*(Z2*Z5-RE.one)+(-(Z4*(Z2*Z2*Z2)-Z1))*(Z2*(Z3*(Z2*Z2)-Z0)*Z6-RE.one)) (by kernel_rfl))
theorem bDY {x y z u v i j:R} (h1:(K.mul z i)=K.one) (h2:(K.mul (K.mul z (K.sub (K.mul u (K.mul z z)) x)) j)=K.one):(K.sub (K.mul (K.sub (K.mul v (K.mul (K.mul z z) z)) y) u) (K.mul (K.mul z (K.sub (K.mul u (K.mul z z)) x)) v))=(K.mul (K.mul z (K.sub (K.mul u (K.mul z z)) x)) (K.neg (K.sub (K.mul y (K.mul (K.mul i i) i)) (K.mul (K.mul (K.sub (K.mul v (K.mul (K.mul z z) z)) y) j) (K.mul x (K.mul i i)))))) :=
 lL (K:=K) (c1:=(K.sub (K.sub (K.mul (K.mul u y) (K.add (K.add (K.mul (K.mul z i) (K.mul z i)) (K.mul z i)) K.one)) (K.mul (K.mul (K.mul v x) z) (K.add (K.mul z i) K.one))) (K.mul (K.mul x y) (K.mul i i)))) (c2:=(K.neg (K.mul (K.mul (K.sub (K.mul v (K.mul (K.mul z z) z)) y) x) (K.mul i i)))) h1 h2 (aG K (aV K [x,y,z,u,v,i,j]) ((Z4*(Z2*Z2*Z2)-Z1)*Z3-Z2*(Z3*(Z2*Z2)-Z0)*Z4-Z2*(Z3*(Z2*Z2)-Z0)*(-(Z1*(Z5*Z5*Z5)-(Z4*(Z2*Z2*Z2)-Z1)*Z6*(Z0*(Z5*Z5))))) ((Z3*Z1*(Z2*Z5*(Z2*Z5)+Z2*Z5+RE.one)-Z4*Z0*Z2*(Z2*Z5+RE.one)-Z0*Z1*(Z5*Z5))*(Z2*Z5-RE.one)+(-((Z4*(Z2*Z2*Z2)-Z1)*Z0*(Z5*Z5)))*(Z2*(Z3*(Z2*Z2)-Z0)*Z6-RE.one)) (by kernel_rfl))
theorem aSf {x z i:R} (h1:(K.mul z i)=K.one):(K.mul (K.mul x (K.mul i i)) (K.mul z z))=x :=
 iV (K:=K) (c1:=(K.mul x (K.add (K.mul z i) K.one))) h1 (aG K (aV K [x,z,i]) (Z0*(Z2*Z2)*(Z1*Z1)-Z0) (Z0*(Z1*Z2+RE.one)*(Z1*Z2-RE.one)) (by kernel_rfl))
end
def lnJ (F S H:Q2) (a:Fq×Fq):aQ:=((F2.mul F (i2 a.2),F2.zero,F2.zero),(F2.mul S (i2 (F1.neg a.1)),H,F2.zero))
theorem aXe (a:Fq):i2 (F1.neg a)=F2.neg (i2 a):=Prod.ext rfl (bU F1).symm
theorem aWN {F S H m d:Q2} (hS:S=F2.mul F m) (hH:H=F2.mul F (F2.neg d)) (a:Fq×Fq):lnJ F S H a=aF.mul (eQ F) (lT m d a.1 a.2):=by
 rw[pQ];unfold lnJ eQ lT;simp only[z6e,F2.mul_zero,F2.zero_mul,F2.add_zero,F2.zero_add,aXe,hS,hH,F2.mul_neg,F2.mul_assoc]
theorem aHF {a:Fq×Fq} (h:On F1 (fm 3) (some a)) {F S H m d:Q2} (hF:F≠F2.zero) (hS:S=F2.mul F m) (hH:H=F2.mul F (F2.neg d)):lnJ F S H a≠aF.zero∧lv (lnJ F S H a)=lv (lT m d a.1 a.2):=by
 rw[aWN hS hH];have n:=pF (Gx hF) (tQ (m:=m) (d:=d) (a:=a.1) (jA h));refine⟨n,Subtype.ext ?_⟩;rw[dK n,dK (tQ (jA h)),dZ (Gx hF) (tQ (jA h)),Oe hF,aF.one_mul]
def tF (x y z:Q2):Q2:=F2.mul (F2.add (F2.mul y z) (F2.mul y z)) (F2.mul z z)
def tS (x y z:Q2):Q2:=F2.mul (F2.add (F2.add (F2.mul x x) (F2.mul x x)) (F2.mul x x)) (F2.mul z z)
def tH (x y z:Q2):Q2:=F2.sub (F2.mul (F2.add (F2.add (F2.mul x x) (F2.mul x x)) (F2.mul x x)) x) (F2.add (F2.mul y y) (F2.mul y y))
theorem aTY {a:Fq×Fq} (h:On F1 (fm 3) (some a)) {x y z:Q2} (hz:z≠F2.zero) (hp:On F2 dO (fQ F2 eD (x,y,z))) :
  lnJ (tF x y z) (tS x y z) (tH x y z) a≠aF.zero∧lv (lnJ (tF x y z) (tS x y z) (tH x y z) a)=cv a (fQ F2 eD (x,y,z)) (fQ F2 eD (x,y,z)):=by
 have e:=dR (K:=F2) (inv:=eD) (p:=(x,y,z)) hz;rw[e]at hp ⊢;dsimp only at hp ⊢;have hi:F2.mul z (eD z)=F2.one:=bE.F.inv z hz;generalize eD z=i at hi hp ⊢;have hY:=nE hp;dsimp only at hY;have hYY:=bE.dbl_ne hY;have hy:y≠F2.zero:=fun e=>hY (by rw[e,F2.zero_mul])
 have hN:F2.add (F2.mul y z) (F2.mul y z)≠F2.zero:=bE.dbl_ne (bE.F.mul_ne hy hz);have hj:F2.mul (F2.add (F2.mul y z) (F2.mul y z)) (eD (F2.add (F2.mul y z) (F2.mul y z)))=F2.one:=bE.F.inv _ hN;generalize eD (F2.add (F2.mul y z) (F2.mul y z))=j at hj;have hs:=BV bE hYY (aTX (x:=x) hi hj);rw[BB h (fun q=>hYY q.2),qH];dsimp only;rw[hs];exact aHF h (bE.F.mul_ne hN (bE.F.mul_ne hz hz)) (bAR hi hj) (bAS hi hj)
def tT (x z u:Q2):Q2:=F2.sub (F2.mul u (F2.mul z z)) x
def vL (y z v:Q2):Q2:=F2.sub (F2.mul v (F2.mul (F2.mul z z) z)) y
def chN (x z u:Q2):Q2:=F2.mul z (tT x z u)
theorem aYV {a:Fq×Fq} (h:On F1 (fm 3) (some a)) {x y z u v:Q2} (hz:z≠F2.zero) (hp:On F2 dO (fQ F2 eD (x,y,z))) (hq:On F2 dO (some (u,v))) (hA:tT x z u≠F2.zero) :
  lnJ (chN x z u) (vL y z v) (F2.sub (F2.mul (vL y z v) u) (F2.mul (chN x z u) v)) a≠aF.zero∧lv (lnJ (chN x z u) (vL y z v) (F2.sub (F2.mul (vL y z v) u) (F2.mul (chN x z u) v)) a)=cv a (fQ F2 eD (x,y,z)) (some (u,v)):=by
 have e:=dR (K:=F2) (inv:=eD) (p:=(x,y,z)) hz;rw[e]at hp ⊢;dsimp only at hp ⊢;have hi:F2.mul z (eD z)=F2.one:=bE.F.inv z hz;generalize eD z=i at hi hp ⊢;have hN:chN x z u≠F2.zero:=bE.F.mul_ne hz hA;have hj:F2.mul (chN x z u) (eD (chN x z u))=F2.one:=bE.F.inv _ hN;generalize eD (chN x z u)=j at hj;have hx:F2.mul x (F2.mul i i)≠u:=fun q=>hA (by
  unfold tT;rw[←q,aSf hi];exact F2.add_neg x)
 have hs:=uK bE hx (aYU (y:=y) (v:=v) hi hj);rw[BB h (fun q=>hx q.1),qH];dsimp only;rw[hs];exact aHF h hN (bDX hi hj) (bDY hi hj)
structure GHom {G G':Type} (A:AG G) (A':AG G') (f:G→G'):Prop where
 add:∀x y,f (A.add x y)=A'.add (f x) (f y)
section
variable {G G':Type} {A:AG G} {A':AG G'} {f:G→G'}
theorem GHom.zero (h:GHom A A' f):f A.zero=A'.zero:=by
 apply A'.cancel (a:=f A.zero);rw[←h.add,A.zadd,A'.addz]
theorem GHom.neg (h:GHom A A' f) (x:G):f (A.neg x)=A'.neg (f x):=by
 apply A'.cancel (a:=f x);rw[←h.add,A.addn,A'.addn,h.zero]
theorem GHom.ns (h:GHom A A' f) (x:G):∀n,f (A.ns n x)=A'.ns n (f x)
 | 0=>h.zero
 | n+1=>by
  show f (A.add (A.ns n x) x)=A'.add (A'.ns n (f x)) (f x);rw[h.add,h.ns x n]
def tot (A:AG G) (s:Nat) (a b c:G):G:=A.add (A.add (A.ns s a) b) (A.neg c)
theorem GHom.tot (h:GHom A A' f) (s:Nat) (a b c:G):f (tot A s a b c)=Ex.tot A' s (f a) (f b) (f c):=by
 unfold Ex.tot;rw[h.add,h.add,h.ns,h.neg]
theorem SK (s:Nat) (a b c a' b' c':G):tot A s (A.add a a') (A.add b b') (A.add c c')=A.add (tot A s a b c) (tot A s a' b' c'):=by
 unfold tot;rw[A.ns_sum,A.neg_add,A.add4 (A.ns s a),A.add4 (A.add (A.ns s a) b)]
end
section
variable {G V:Type}
structure Cyc (A:AG G) (B:AG V) (c:G→G→V):Prop where
 coc:∀g h k,B.add (c g h) (c (A.add g h) k)=B.add (c h k) (c g (A.add h k))
 comm:∀g h,c g h=c h g
 zl:∀g,c A.zero g=B.zero
 opp:∀g,c g (A.neg g)=B.zero
variable {A:AG G} {B:AG V} {c:G→G→V}
theorem Cyc.zr (C:Cyc A B c) (g:G):c g A.zero=B.zero:=by rw[C.comm,C.zl]
def nS (C:Cyc A B c):AG (G×V) where
 add x y:=(A.add x.1 y.1,B.add (B.add x.2 y.2) (c x.1 y.1))
 neg x:=(A.neg x.1,B.neg x.2)
 zero:=(A.zero,B.zero)
 assoc x y z:=by
  refine Prod.ext (A.assoc _ _ _) ?_
  haveI:Std.Associative B.add:=⟨B.assoc⟩
  haveI:Std.Commutative B.add:=⟨B.comm⟩
  show B.add (B.add (B.add (B.add x.2 y.2) (c x.1 y.1)) z.2) (c (A.add x.1 y.1) z.1)=B.add (B.add x.2 (B.add (B.add y.2 z.2) (c y.1 z.1))) (c x.1 (A.add y.1 z.1));have e1:B.add (B.add (B.add (B.add x.2 y.2) (c x.1 y.1)) z.2) (c (A.add x.1 y.1) z.1)=B.add (B.add (B.add x.2 y.2) z.2) (B.add (c x.1 y.1) (c (A.add x.1 y.1) z.1)):=by ac_rfl
  rw[e1,C.coc]
  ac_rfl
 comm x y:=Prod.ext (A.comm _ _) (by
  show B.add (B.add x.2 y.2) (c x.1 y.1)=B.add (B.add y.2 x.2) (c y.1 x.1);rw[B.comm x.2,C.comm])
 zadd x:=Prod.ext (A.zadd _) (by
  show B.add (B.add B.zero x.2) (c A.zero x.1)=x.2;rw[B.zadd,C.zl,B.addz])
 nadd x:=Prod.ext (A.nadd _) (by
  show B.add (B.add (B.neg x.2) x.2) (c (A.neg x.1) x.1)=B.zero;rw[B.nadd,C.comm,C.opp,B.zadd])
def eB (B:AG V) (g:G):G×V:=(g,B.zero)
def iB (A:AG G) (v:V):G×V:=(A.zero,v)
theorem aIi (C:Cyc A B c):GHom B (nS C) (iB A):=⟨fun x y=>Prod.ext (A.zadd _).symm (by
 show B.add x y=B.add (B.add x y) (c A.zero A.zero);rw[C.zl,B.addz])⟩
theorem Wi (C:Cyc A B c):GHom (nS C) A Prod.fst:=⟨fun _ _=>rfl⟩
theorem aJn (C:Cyc A B c) (g:G) (v:V):(g,v)=(nS C).add (eB B g) (iB A v):=Prod.ext (A.addz _).symm (by
 show v=B.add (B.add B.zero v) (c g A.zero);rw[C.zr,B.zadd,B.addz])
theorem Pi (C:Cyc A B c) (g h:G):(nS C).add (eB B g) (eB B h)=(nS C).add (eB B (A.add g h)) (iB A (c g h)):=by
 rw[←aJn];refine Prod.ext rfl ?_;show B.add (B.add B.zero B.zero) (c g h)=c g h;rw[B.zadd,B.zadd]
def fin (C:Cyc A B c) (s:Nat) (ψ:G→G) (Q:G):G×V:=tot (nS C) s (eB B Q) (eB B (ψ Q)) (eB B (ψ (ψ Q)))
theorem Wt (C:Cyc A B c) (s:Nat) (ψ:G→G) (Q:G):(fin C s ψ Q).1=tot A s Q (ψ Q) (ψ (ψ Q)):=(Wi C).tot s _ _ _
theorem SJ {s:Nat} {x y z w:V} (h:B.add (B.add (B.ns s x) y) w=z):tot B s x y z=B.neg w:=by
 unfold tot;rw[←h,B.neg_add,←B.assoc,B.addn,B.zadd]
theorem aJh {X Y n z:V} (h:B.add X n=B.add (B.add Y n) z) (hz:z=B.zero):X=Y:=by
 rw[hz,B.addz,B.comm X,B.comm Y]at h;exact B.cancel h
theorem aCw (C:Cyc A B c) {s:Nat} {ψ:G→G} {φ:V→V} (hψ:GHom A A ψ) (hc:∀g h,c (ψ g) (ψ h)=φ (c g h)) (hn:∀g h,c (A.neg g) (A.neg h)=B.neg (c g h)) {Q Q':G}
  (hv:B.add (B.add (B.ns s (c Q Q')) (φ (c Q Q'))) (φ (φ (φ (c Q Q'))))=φ (φ (c Q Q')))
  (h1:tot A s Q (ψ Q) (ψ (ψ Q))=A.neg (ψ (ψ (ψ Q)))) (h2:tot A s Q' (ψ Q') (ψ (ψ Q'))=A.neg (ψ (ψ (ψ Q')))) :
  B.add (fin C s ψ Q).2 (fin C s ψ Q').2=(fin C s ψ (A.add Q Q')).2:=by
 have k0:=Pi C Q Q';have k1:=Pi C (ψ Q) (ψ Q');have k2:=Pi C (ψ (ψ Q)) (ψ (ψ Q'));rw[←hψ.add,hc]at k1;rw[←hψ.add,←hψ.add,hc,hc]at k2;have k:(nS C).add (fin C s ψ Q) (fin C s ψ Q')=(nS C).add (fin C s ψ (A.add Q Q')) (iB A (tot B s (c Q Q') (φ (c Q Q')) (φ (φ (c Q Q'))))):=by
  rw[(aIi C).tot];unfold fin;rw[←SK,k0,k1,k2,SK]
 rw[SJ hv]at k;have e:=congrArg Prod.snd k;have e:B.add (B.add (fin C s ψ Q).2 (fin C s ψ Q').2) (c (fin C s ψ Q).1 (fin C s ψ Q').1)=B.add (B.add (fin C s ψ (A.add Q Q')).2 (B.neg (φ (φ (φ (c Q Q')))))) (c (fin C s ψ (A.add Q Q')).1 A.zero):=e;rw[Wt,Wt,h1,h2,hn,hc,hc,hc]at e;exact aJh e (C.zr _)
def nJ {W:Type} (B:AG V) (B':AG W):AG (V×W) where
 add x y:=(B.add x.1 y.1,B'.add x.2 y.2)
 neg x:=(B.neg x.1,B'.neg x.2)
 zero:=(B.zero,B'.zero)
 assoc x y z:=Prod.ext (B.assoc _ _ _) (B'.assoc _ _ _)
 comm x y:=Prod.ext (B.comm _ _) (B'.comm _ _)
 zadd x:=Prod.ext (B.zadd _) (B'.zadd _)
 nadd x:=Prod.ext (B.nadd _) (B'.nadd _)
theorem Cyc.two {c1 c2:G→G→V} (C1:Cyc A B c1) (C2:Cyc A B c2):Cyc A (nJ B B) (fun g h=>(c1 g h,c2 g h)) where
 coc g h k:=Prod.ext (C1.coc g h k) (C2.coc g h k)
 comm g h:=Prod.ext (C1.comm g h) (C2.comm g h)
 zl g:=Prod.ext (C1.zl g) (C2.zl g)
 opp g:=Prod.ext (C1.opp g) (C2.opp g)
theorem aCx {c1 c2 c3:G→G→V} (C1:Cyc A B c1) (C2:Cyc A B c2) (C3:Cyc A B c3) {h:G→V} (hh:∀g k,B.add (B.add (c1 g k) (c2 g k)) (h (A.add g k))=B.add (c3 g k) (B.add (h g) (h k)))
  {s:Nat} {ψ:G→G} {φ:V→V} (hψ:∀g,h (ψ g)=φ (h g)) (hn:∀g,h (A.neg g)=B.neg (h g)) {Q:G}
  (hv:B.add (B.add (B.ns s (h Q)) (φ (h Q))) (φ (φ (φ (h Q))))=φ (φ (h Q)))
  (h1:tot A s Q (ψ Q) (ψ (ψ Q))=A.neg (ψ (ψ (ψ Q)))) :
  B.add (fin C1 s ψ Q).2 (fin C2 s ψ Q).2=(fin C3 s ψ Q).2:=by
 have f1:GHom (nS (C1.two C2)) (nS C1) (fun x=>(x.1,x.2.1)):=⟨fun _ _=>rfl⟩;have f2:GHom (nS (C1.two C2)) (nS C2) (fun x=>(x.1,x.2.2)):=⟨fun _ _=>rfl⟩;have f3:GHom (nS (C1.two C2)) (nS C3) (fun x=>(x.1,B.add (B.add x.2.1 x.2.2) (h x.1))):=⟨fun x y=>Prod.ext rfl (by
  show B.add (B.add (B.add (B.add x.2.1 y.2.1) (c1 x.1 y.1)) (B.add (B.add x.2.2 y.2.2) (c2 x.1 y.1))) (h (A.add x.1 y.1))=B.add (B.add (B.add (B.add x.2.1 x.2.2) (h x.1)) (B.add (B.add y.2.1 y.2.2) (h y.1))) (c3 x.1 y.1)
  haveI:Std.Associative B.add:=⟨B.assoc⟩
  haveI:Std.Commutative B.add:=⟨B.comm⟩
  have e1:B.add (B.add (B.add (B.add x.2.1 y.2.1) (c1 x.1 y.1)) (B.add (B.add x.2.2 y.2.2) (c2 x.1 y.1))) (h (A.add x.1 y.1))=B.add (B.add (B.add x.2.1 y.2.1) (B.add x.2.2 y.2.2)) (B.add (B.add (c1 x.1 y.1) (c2 x.1 y.1)) (h (A.add x.1 y.1))):=by ac_rfl
  rw[e1,hh]
  ac_rfl)⟩
 have t1:=f1.tot s (eB (nJ B B) Q) (eB (nJ B B) (ψ Q)) (eB (nJ B B) (ψ (ψ Q)));have t2:=f2.tot s (eB (nJ B B) Q) (eB (nJ B B) (ψ Q)) (eB (nJ B B) (ψ (ψ Q)));have t3:=f3.tot s (eB (nJ B B) Q) (eB (nJ B B) (ψ Q)) (eB (nJ B B) (ψ (ψ Q)));have t0:=(Wi (C1.two C2)).tot s (eB (nJ B B) Q) (eB (nJ B B) (ψ Q)) (eB (nJ B B) (ψ (ψ Q)));generalize tot (nS (C1.two C2)) s (eB (nJ B B) Q) (eB (nJ B B) (ψ Q)) (eB (nJ B B) (ψ (ψ Q)))=T at t0 t1 t2 t3;have t1:(T.1,T.2.1)=fin C1 s ψ Q:=t1;have t2:(T.1,T.2.2)=fin C2 s ψ Q:=t2;have t0:T.1=tot A s Q (ψ Q) (ψ (ψ Q)):=t0;have hz:∀g:G,((g,B.add (B.add B.zero B.zero) (h g)):G×V)=(nS C3).add (eB B g) (iB A (h g)):=fun g=>by
  rw[B.zadd,B.zadd];exact aJn C3 g (h g)
 have t3:(T.1,B.add (B.add T.2.1 T.2.2) (h T.1))=tot (nS C3) s (Q,B.add (B.add B.zero B.zero) (h Q)) (ψ Q,B.add (B.add B.zero B.zero) (h (ψ Q))) (ψ (ψ Q),B.add (B.add B.zero B.zero) (h (ψ (ψ Q)))):=t3;rw[hz,hz,hz,SK,←(aIi C3).tot,hψ (ψ Q),hψ Q,SJ hv]at t3;have e:=congrArg Prod.snd t3;have e:B.add (B.add T.2.1 T.2.2) (h T.1)=B.add (B.add (fin C3 s ψ Q).2 (B.neg (φ (φ (φ (h Q)))))) (c3 (fin C3 s ψ Q).1 A.zero):=e;rw[t0,h1,hn,hψ,hψ,hψ]at e;rw[←t1,←t2];exact aJh e (C3.zr _)
theorem aLM (C:Cyc A B c) (Q:G) (d:Int) (T:G) (F:V):stp (nS C) (eB B Q) d (T,F)=(stp A Q d T,stF A B c Q d F T):=by
 unfold stp stF
 by_cases h1:d=1
 ·rw[if_pos h1,if_pos h1,if_pos h1];refine Prod.ext rfl ?_;show B.add (B.add (B.add (B.add F F) (c T T)) B.zero) (c (A.add T T) Q)=_;rw[B.addz]
 ·rw[if_neg h1,if_neg h1,if_neg h1]
  by_cases h2:d = -1
  ·rw[if_pos h2,if_pos h2,if_pos h2];refine Prod.ext rfl ?_;show B.add (B.add (B.add (B.add F F) (c T T)) (B.neg B.zero)) (c (A.add T T) (A.neg Q))=_;rw[B.negz,B.addz]
  ·rw[if_neg h2,if_neg h2,if_neg h2];rfl
theorem Sn (C:Cyc A B c) (Q:G):∀(ds:List Int) (T:G) (F:V),CD (nS C) (eB B Q) ds (T,F)=(CD A Q ds T,aFj A B c Q ds F T)
 | [],_,_=>rfl
 | d::ds,T,F=>by
  show CD (nS C) (eB B Q) ds (stp (nS C) (eB B Q) d (T,F))=_;rw[aLM,Sn C Q ds];rfl
def hdg:List Int→Int→Int
 | [],n=>n
 | d::ds,n=>hdg ds (n+n+(if d=1 then 1 else if d = -1 then -1 else 0))
theorem bAw (A:AG G) (Q:G):A.zs 1 Q=Q:=A.zadd Q
theorem bAv (A:AG G) (Q:G):A.zs (-1) Q=A.neg Q:=congrArg A.neg (A.zadd Q)
theorem bEP (A:AG G) (Q:G):A.zs 0 Q=A.zero:=rfl
theorem aEr (A:AG G) (Q:G):∀(ds:List Int) (n:Int),CD A Q ds (A.zs n Q)=A.zs (hdg ds n) Q
 | [],_=>rfl
 | d::ds,n=>by
  show CD A Q ds (stp A Q d (A.zs n Q))=A.zs (hdg ds _) Q;rw[←aEr A Q ds];congr 1;unfold stp
  by_cases h1:d=1
  ·rw[if_pos h1,if_pos h1,A.zs_add,A.zs_add,bAw]
  ·rw[if_neg h1,if_neg h1]
   by_cases h2:d = -1
   ·rw[if_pos h2,if_pos h2,A.zs_add,A.zs_add,bAv]
   ·rw[if_neg h2,if_neg h2,A.zs_add,A.zs_add,bEP,A.addz]
theorem aUC (A:AG G) (Q:G) {ds:List Int} {s:Nat} (h:hdg ds 1=s):CD A Q ds Q=A.ns s Q:=by
 have r:=aEr A Q ds 1;rw[bAw,h]at r;exact r
theorem aMu (C:Cyc A B c) (Q:G) {ds:List Int} {s:Nat} (h:hdg ds 1=s) (ψ:G→G) :
  fin C s ψ Q=(A.add (A.add (CD A Q ds Q) (ψ Q)) (A.neg (ψ (ψ Q))),B.add (B.add (aFj A B c Q ds B.zero Q) (c (CD A Q ds Q) (ψ Q))) (c (A.add (CD A Q ds Q) (ψ Q)) (A.neg (ψ (ψ Q))))):=by
 have r:=aUC (nS C) (eB B Q) h;have e:=Sn C Q ds Q B.zero;have e:CD (nS C) (eB B Q) ds (eB B Q)=_:=e;rw[r]at e;unfold fin tot;rw[e];refine Prod.ext rfl ?_;show B.add (B.add (B.add (B.add _ B.zero) _) (B.neg B.zero)) _=_;rw[B.addz,B.negz,B.addz];rfl
end
open Go.RowKit
def kL:Q2:=(⟨21575463638280843010398324269430826099269044274347216827212613867836435027261,by decide⟩,⟨10307601595873709700152284273816112264069230130616436755625194854815875713954,by decide⟩)
def oP:Q2:=(⟨2821565182194536844548159561693502659359617185244120367078079554186484126554,by decide⟩,⟨3505843767911556378687030309984248845540243509899259641013678093033130930403,by decide⟩)
def DL:Q2:=(⟨10857046999023057135944570762232829481370756359578518086990519993285655852781,by decide⟩,⟨11559732032986387107991004021392285783925812861821192530917403151452391805634,by decide⟩)
def EW:Q2:=(⟨8495653923123431417604973247489272438418190587263600148770280649306958101930,by decide⟩,⟨4082367875863433681332203403145435568316851327593401208105741076214120093531,by decide⟩)
def cU:Nat:=147946756881789318990833708069417712966
def aIF:kC
 | [.v (.im (.int .i64 (.ofNat 1)))]=>some ([],.one (.fl (q1 FP.M)))
 | [.v (.im (.int .i64 (.ofNat 2)))]=>some ([],.one (.fl (q1 Go.Proofs.YtglgakbkdjhojaaGreat.FR.M)))
 | _=>none
theorem aPp:∀cs pre r,aIF cs=some (pre,r)→bC pre→∀(args:List Value) (w:World),bZ w cs args→Good prog 204 r args w:=by
 intro cs pre r hg hp args w ha;unfold aIF at hg;split at hg
 ·cases hg
  match args,ha with
  | [v],ha =>
   have h1:v=.int .i64 1:=ha.1;subst h1;exact (xO 1 FP (Or.inl ⟨rfl,rfl⟩) w).mono fun e w' h=>h
  | [],ha=>exact ha.elim
  | _::_::_,ha=>exact ha.2.elim
 ·cases hg
  match args,ha with
  | [v],ha =>
   have h1:v=.int .i64 2:=ha.1;subst h1;exact (xO 2 Go.Proofs.YtglgakbkdjhojaaGreat.FR (Or.inr ⟨rfl,rfl⟩) w).mono fun e w' h=>h
  | [],ha=>exact ha.elim
  | _::_::_,ha=>exact ha.2.elim
 ·cases hg
def aID:kC
 | [.v (.fl l),.v (.fl m)]=>some ([aA l=aA (q1 FP.M),aA m=aA (q1 Go.Proofs.YtglgakbkdjhojaaGreat.FR.M)],.many [.fl (q1 cU),.im (.int .u64 0)])
 | _=>none
theorem aOC:∀cs pre r,aID cs=some (pre,r)→bC pre→∀(args:List Value) (w:World),bZ w cs args→Good prog 203 r args w:=by
 intro cs pre r hg hp args w ha;unfold aID at hg;split at hg
 ·rename_i l m;cases hg;obtain⟨e1,e2,_⟩:=hp
  match args,ha with
  | [v,u],ha =>
   have h1:v=.agg (aA l).toArray:=ha.1;have h2:u=.agg (aA m).toArray:=ha.2.1;rw[e1]at h1;rw[e2]at h2;subst h1; subst h2;refine (vV _ _ _ _ _ _ _ _ (cM FP.M) (cM Go.Proofs.YtglgakbkdjhojaaGreat.FR.M) w).mono ?_
   rintro e w' ⟨s0,s1,s2,s3,c,rfl,hs,hc,hv,hb⟩
   have v1:aC (fw FP.M 0) (fw FP.M 1) (fw FP.M 2) (fw FP.M 3)=21888242871839275222246405745257275088696311157297823662689037894645226208583:=by kernel_rfl
   have v2:aC (fw Go.Proofs.YtglgakbkdjhojaaGreat.FR.M 0) (fw Go.Proofs.YtglgakbkdjhojaaGreat.FR.M 1) (fw Go.Proofs.YtglgakbkdjhojaaGreat.FR.M 2) (fw Go.Proofs.YtglgakbkdjhojaaGreat.FR.M 3)=21888242871839275222246405745257275088548364400416034343698204186575808495617:=by kernel_rfl
   rw[v1,v2]at hv;obtain⟨h0,h1,h2,h3⟩:=hs;have hlt:aC s0 s1 s2 s3<115792089237316195423570985008687907853269984665640564039457584007913129639936:=by unfold aC; omega
   have hc0:c=0:=by omega
   subst hc0;have hv2:aC s0 s1 s2 s3=cU:=by unfold cU; omega
   obtain⟨rfl,rfl,rfl,rfl⟩:=oR ⟨h0,h1,h2,h3⟩ (by unfold cU; omega) hv2;exact⟨rfl,hb⟩
  | [],ha=>exact ha.elim
  | [_],ha=>exact ha.2.elim
  | _::_::_::_,ha=>exact ha.2.2.elim
 ·cases hg
def aKK:Tab:=(Hu).add 204 aIF
theorem aOh:TabOk prog aKK:=(aBX).ad func204 aPp
def Qw:Tab:=(aKK).add 203 aID
theorem Uq:TabOk prog Qw:=(aOh).ad func203 aOC
theorem aFg  : aO prog (qG prog) (fun _=>⟨fun s=>Qw,fun s=>true,fun _=>none⟩) f45 60 []=some ([],.one (.fl (gH (some (fm 1,fm 2))))):=by kernel_rfl
def Rj:Tab:=(Qw).add 45 (g0 (.one (.fl (gH (some (fm 1,fm 2))))))
theorem Va:TabOk prog Rj:=(Uq).ad func45 (gT fun w=>aB aE (fun _ s=>Uq) (aJ prog) func45 aFg trivial (args:=[]) trivial)
theorem aAI  : aO prog (qG prog) (fun _=>⟨fun s=>Rj,fun s=>true,fun _=>none⟩) f9 60 []=some ([],.one (.fl (gH (some (fm 1,fm 2))))):=by kernel_rfl
def XW:Tab:=(Rj).add 9 (g0 (.one (.fl (gH (some (fm 1,fm 2))))))
theorem Fb:TabOk prog XW:=(Va).ad func9 (gT fun w=>aB aE (fun _ s=>Va) (aJ prog) func9 aAI trivial (args:=[]) trivial)
theorem aFf  : aO prog (qG prog) (fun _=>⟨fun s=>XW,fun s=>true,fun _=>none⟩) f24 60 []=some ([],.one (.fl (eI (some (DL,EW))))):=by kernel_rfl
def Rh:Tab:=(XW).add 24 (g0 (.one (.fl (eI (some (DL,EW))))))
theorem Uz:TabOk prog Rh:=(Fb).ad func24 (gT fun w=>aB aE (fun _ s=>Fb) (aJ prog) func24 aFf trivial (args:=[]) trivial)
theorem aAH  : aO prog (qG prog) (fun _=>⟨fun s=>Rh,fun s=>true,fun _=>none⟩) f11 60 []=some ([],.one (.fl (eI (some (DL,EW))))):=by kernel_rfl
def XV:Tab:=(Rh).add 11 (g0 (.one (.fl (eI (some (DL,EW))))))
theorem Fa:TabOk prog XV:=(Uz).ad func11 (gT fun w=>aB aE (fun _ s=>Uz) (aJ prog) func11 aAH trivial (args:=[]) trivial)
theorem aBv  : aO prog (qG prog) (fun _=>⟨fun s=>XV,fun s=>true,fun _=>none⟩) f205 60 []=some ([],.one (.fl (q1 Go.Proofs.YtglgakbkdjhojaaGreat.FR.M))):=by kernel_rfl
def YH:Tab:=(XV).add 205 (g0 (.one (.fl (q1 Go.Proofs.YtglgakbkdjhojaaGreat.FR.M))))
theorem Fj:TabOk prog YH:=(Fa).ad func205 (gT fun w=>aB aE (fun _ s=>Fa) (aJ prog) func205 aBv trivial (args:=[]) trivial)
theorem aAl  : aO prog (qG prog) (fun _=>⟨fun s=>YH,fun s=>true,fun _=>none⟩) f216 60 []=some ([],.many [.fl (e2 kL),.fl (e2 oP)]):=by kernel_rfl
def XD:Tab:=(YH).add 216 (g0 (.many [.fl (e2 kL),.fl (e2 oP)]))
theorem Eo:TabOk prog XD:=(Fj).ad func216 (gT fun w=>aB aE (fun _ s=>Fj) (aJ prog) func216 aAl trivial (args:=[]) trivial)
theorem bCx (x y:N2):XD 213 [.v (.fl (q2 x)),.v (.fl (q2 y))]=some ([],.one (.fl (e2 (F2.mul (m2 x) (m2 y))))):=by kernel_rfl
def xA:Tab:=(XD).add 213 (g2 zL zL (fun x y=>([],.one (.fl (e2 (F2.mul x y))))))
theorem uW:TabOk prog xA:=(Eo).ad func213 (gF dU dU fun x y hp args w ha=>(Eo _ _ _ _ (bCx x y) trivial).2 args w ha)
theorem OJ (x y:N2):aO prog (qG prog) (fun _=>⟨fun s=>xA,fun s=>true,fun s=>bif Nat.beq s 10 then some (.bool true)else none⟩) f173 60 [.v (.fl (gN (x,y,true)))]=some ([aI .neq .i64 (pB x y true).1 0=some (.bool true)],.many [.fl (eI (some (F2.zero,F2.zero))),.im (.int .i64 (pB x y true).1)]):=by kernel_rfl
theorem OI (x y:N2):aO prog (qG prog) (fun _=>⟨fun s=>xA,fun s=>true,fun s=>bif Nat.beq s 10 then some (.bool false)else none⟩) f173 60 [.v (.fl (gN (x,y,true)))]=some ([aI .neq .i64 (pB x y true).1 0=some (.bool false)],.many [.fl (e2 (F2.mul (aL (m2 x)) kL)++(e2 (F2.mul (aL (m2 y)) oP)++[.c (.bool true)])),.im (.int .i64 0)]):=by kernel_rfl
theorem JO (x y:N2):aO prog (qG prog) (fun _=>⟨fun s=>xA,fun s=>true,fun s=>bif Nat.beq s 10 then some (.bool true)else none⟩) f173 60 [.v (.fl (gN (x,y,false)))]=some ([aI .neq .i64 (pB x y false).1 0=some (.bool true)],.many [.fl (eI (some (F2.zero,F2.zero))),.im (.int .i64 (pB x y false).1)]):=by kernel_rfl
theorem JN (x y:N2):aO prog (qG prog) (fun _=>⟨fun s=>xA,fun s=>true,fun s=>bif Nat.beq s 10 then some (.bool false)else none⟩) f173 60 [.v (.fl (gN (x,y,false)))]=some ([aI .neq .i64 (pB x y false).1 0=some (.bool false)],.many [.fl (e2 (F2.mul (aL (m2 x)) kL)++(e2 (F2.mul (aL (m2 y)) oP)++[.c (.bool false)])),.im (.int .i64 0)]):=by kernel_rfl
def ON:Pt Q2→Pt Q2
 | none=>none
 | some p=>some (F2.mul (aL p.1) kL,F2.mul (aL p.2) oP)
def gW (p:iK):Pt Q2×Int:=if (fR p).1≠0 then (some (F2.zero,F2.zero),(fR p).1)else (ON (af2 p),0)
theorem aRF {x:N2} (h:OA x):m2 x=F2.zero:=by
 refine Prod.ext (Fin.ext ?_) (Fin.ext ?_)
 ·show wv x.1%FP.M=0;rw[h.1]; rfl
 ·show wv x.2%FP.M=0;rw[h.2]; rfl
theorem BE:aL F2.zero=F2.zero:=by decide
theorem aYP {x y:N2} (h:(pB x y true).1=0):OA x∧OA y:=by
 rw[yP,if_pos rfl]at h
 by_cases hz:OA x∧OA y
 ·exact hz
 ·rw[if_neg hz]at h; cases h
theorem aFG (p:iK) (args:List Value) (w:World) (ha:bZ w [.v (.fl (gN p))] args):Good prog 173 (.many [.fl (eI (gW p).1),.im (.int .i64 (gW p).2)]) args w:=by
 obtain⟨x,y,b⟩:=p
 by_cases h:(pB x y b).1=0
 ·rw[show gW (x,y,b)=(ON (af2 (x,y,b)),0)from if_neg (fun q=>q h)];cases b with
  | false=>exact aB aE (fun _ s=>uW) (aJ prog) func173 (JN x y) ⟨AN h,trivial⟩ ha
  | true =>
   refine Good.congr (aB aE (fun _ s=>uW) (aJ prog) func173 (OI x y) ⟨AN h,trivial⟩ ha) ?_;obtain⟨hx,hy⟩:=aYP h;rw[aRF hx,aRF hy,BE,F2.zero_mul,F2.zero_mul];rfl
 ·rw[show gW (x,y,b)=(some (F2.zero,F2.zero),(pB x y b).1)from if_pos h];cases b with
  | true=>exact aB aE (fun _ s=>uW) (aJ prog) func173 (OJ x y) ⟨tP h,trivial⟩ ha
  | false=>exact aB aE (fun _ s=>uW) (aJ prog) func173 (JO x y) ⟨tP h,trivial⟩ ha
def zA:Tab:=(xA).add 173 (g1 Mo fun p=>([],.many [.fl (eI (gW p).1),.im (.int .i64 (gW p).2)]))
theorem wK:TabOk prog zA:=(uW).ad func173 (bP lV fun p hp args w ha=>aFG p args w ha)
theorem aAV (p:iK):aO prog (qG prog) (fun _=>⟨fun s=>zA,fun s=>true,fun s=>bif Nat.beq s 15 then some (.bool true)else none⟩) f162 60 [.v (.fl (gN p))]=some ([aI .neq .i64 (gW p).2 0=some (.bool true)],.one (.im (.bool false))):=by kernel_rfl
theorem aAU (p:iK):aO prog (qG prog) (fun _=>⟨fun s=>zA,fun s=>true,fun s=>bif Nat.beq s 15 then some (.bool false)else none⟩) f162 60 [.v (.fl (gN p))]=some ([aI .neq .i64 (gW p).2 0=some (.bool false),aA (q1 FP.M)=aA (q1 FP.M),aA (q1 Go.Proofs.YtglgakbkdjhojaaGreat.FR.M)=aA (q1 Go.Proofs.YtglgakbkdjhojaaGreat.FR.M),aA (eI (mI (fun _=>p) (fun _=>cU) 1).1)=aA (eI (gW p).1)],.one (.im (.bool true))):=by kernel_rfl
theorem aAT (p:iK):aO prog (qG prog) (fun _=>⟨fun s=>zA,fun s=>false,fun s=>bif Nat.beq s 15 then some (.bool false)else none⟩) f162 60 [.v (.fl (gN p))]=some ([aI .neq .i64 (gW p).2 0=some (.bool false),aA (q1 FP.M)=aA (q1 FP.M),aA (q1 Go.Proofs.YtglgakbkdjhojaaGreat.FR.M)=aA (q1 Go.Proofs.YtglgakbkdjhojaaGreat.FR.M),aA (eI (mI (fun _=>p) (fun _=>cU) 1).1)≠aA (eI (gW p).1)],.one (.im (.bool false))):=by kernel_rfl
theorem aOP {P Q:Pt Q2} (h:aA (eI P)=aA (eI Q)):P=Q:=by
 have h':w4 (ptX F2 P).1.1++(w4 (ptX F2 P).2.1++(w4 (ptY F2 P).1.1++(w4 (ptY F2 P).2.1++[Value.bool (xK P)])))=w4 (ptX F2 Q).1.1++(w4 (ptX F2 Q).2.1++(w4 (ptY F2 Q).1.1++(w4 (ptY F2 Q).2.1++[Value.bool (xK Q)]))):=h;obtain⟨h1,h'⟩:=List.append_inj h' rfl;obtain⟨h2,h'⟩:=List.append_inj h' rfl;obtain⟨h3,h'⟩:=List.append_inj h' rfl;obtain⟨h4,h'⟩:=List.append_inj h' rfl;have h5:xK P=xK Q:=by injection h' with h' _; injection h'
 have e:∀{a b:Fq},w4 a.1=w4 b.1→a=b:=fun {a b} hw=>by
  have:=GF hw;refine Fin.ext ?_;have ha:wv a.1=a.1:=cK a.2;have hb:wv b.1=b.1:=cK b.2;rw[←ha,←hb,this]
 cases P with
 | none =>
  cases Q with
  | none=>rfl
  | some q=>cases h5
 | some p =>
  cases Q with
  | none=>cases h5
  | some q=>exact congrArg some (Prod.ext (Prod.ext (e h1) (e h2)) (Prod.ext (e h3) (e h4)))
open Classical in
def aCp (p:iK):Bool:=decide ((gW p).2=0∧(mI (fun _=>p) (fun _=>cU) 1).1=(gW p).1)
theorem aXd (p:iK) (args:List Value) (w:World) (ha:bZ w [.v (.fl (gN p))] args):Good prog 162 (.one (.im (.bool (aCp p)))) args w:=by
 unfold aCp
 by_cases h1:(gW p).2=0
 ·by_cases h2:(mI (fun _=>p) (fun _=>cU) 1).1=(gW p).1
  ·rw[decide_eq_true (And.intro h1 h2)];exact aB aE (fun _ s=>wK) (aJ prog) func162 (aAU p) ⟨AN h1,rfl,rfl,by rw[h2],trivial⟩ ha
  ·rw[decide_eq_false (fun h=>h2 h.2)];exact aB aE (fun _ s=>wK) (aJ prog) func162 (aAT p) ⟨AN h1,rfl,rfl,fun h=>h2 (aOP h),trivial⟩ ha
 ·rw[decide_eq_false (fun h=>h1 h.1)];exact aB aE (fun _ s=>wK) (aJ prog) func162 (aAV p) ⟨tP h1,trivial⟩ ha
def Hw:Tab:=(zA).add 162 (g1 Mo fun p=>([],.one (.im (.bool (aCp p)))))
theorem US:TabOk prog Hw:=(wK).ad func162 (bP lV fun p hp args w ha=>aXd p args w ha)
section
variable {R:Type} [DecidableEq R] (K:CR R)
def Xo (p q:Jc R):Jc R :=
 if p.2.2=K.zero then q else if q.2.2=K.zero then p else if tR K p q=K.zero then (if LQ K p q=K.zero then bX K p else (K.one,K.one,K.zero))else DE K p q
theorem aJz (p q:Jc R):Xo K p q=rplus K p q:=by
 unfold Xo rplus
 by_cases h1:p.2.2=K.zero
 ·rw[if_pos h1,if_pos h1]
 ·rw[if_neg h1,if_neg h1]
  by_cases h2:q.2.2=K.zero
  ·rw[if_pos h2,if_pos h2]
  ·rw[if_neg h2,if_neg h2]
   by_cases h3:tR K p q=K.zero
   ·rw[if_pos h3]
    by_cases h4:LQ K p q=K.zero
    ·rw[if_pos h4,if_pos ⟨h3,h4⟩]
    ·rw[if_neg h4,if_neg (fun h=>h4 h.2),if_pos h3]
   ·rw[if_neg h3,if_neg (fun h=>h3 h.1),if_neg h3]
def YQ (a:Jc R) (n L:Nat):Nat→Jc R
 | 0=>(K.one,K.one,K.zero)
 | k+1=>if Nat.beq (n/2^(L-(k+1))%2) 1=true then Xo K (bX K (YQ a n L k)) a else bX K (YQ a n L k)
variable {K} {inv:R→R} {b:R}
theorem Xn {E:EC K inv b} {a:Jc R} {g:{p:Pt R // On K b p}} (h:Rp E a g) (n L:Nat) (hn:n<2^L):∀k,k≤L→Rp E (YQ K a n L k) (E.grp.ns (n/2^(L-k)) g)
 | 0,_=>by
  rw[Nat.sub_zero,Nat.div_eq_of_lt hn];exact Rp.zero rfl
 | k+1,hk=>by
  have ih:=Xn h n L hn k (by omega);have e:n/2^(L-k)=n/2^(L-(k+1))/2:=by
   rw[show L-k=(L-(k+1))+1 by omega,Nat.pow_add,←Nat.div_div_eq_div_mul]
  rw[e]at ih;have h2:=ih.dbl;rw[←E.grp.ns_add]at h2
  by_cases hb:n/2^(L-(k+1))%2=1
  ·rw[show YQ K a n L (k+1)=Xo K (bX K (YQ K a n L k)) a from if_pos (by rw[hb]; rfl),aJz];have h3:=h2.rplus h;rw[show n/2^(L-(k+1))=n/2^(L-(k+1))/2+n/2^(L-(k+1))/2+1 by omega];exact h3
  ·rw[show YQ K a n L (k+1)=bX K (YQ K a n L k)from if_neg (fun hq=>hb (Nat.eq_of_beq_eq_true hq))];rw[show n/2^(L-(k+1))=n/2^(L-(k+1))/2+n/2^(L-(k+1))/2 by omega];exact h2
theorem IF {E:EC K inv b} {a:Jc R} {g:{p:Pt R // On K b p}} (h:Rp E a g) (n L:Nat) (hn:n<2^L):Rp E (YQ K a n L L) (E.grp.ns n g):=by
 have:=Xn h n L hn L (Nat.le_refl _)
 rwa [Nat.sub_self,Nat.pow_zero,Nat.div_one]at this
end
def qS:Nat:=21888242871839275222246405745257275088548364400416034343698204186575808495617
theorem aNe:(YQ F2 (DL,EW,F2.one) qS 254 254).2.2=F2.zero:=of_decide_eq_true (by kernel_rfl)
section
variable {R:Type} {K:CR R} {inv:R→R} {b:R}
theorem aHU (E:EC K inv b) {p:Jc R} {x y:R} (hz:p.2.2≠K.zero) (hx:p.1=K.mul x (K.mul p.2.2 p.2.2)) (hy:p.2.1=K.mul y (K.mul (K.mul p.2.2 p.2.2) p.2.2)):fQ K inv p=some (x,y):=by
 have h1:=E.F.inv _ hz;rw[dR hz,hx,hy];generalize inv p.2.2=i at h1 ⊢;generalize p.2.2=z at h1 ⊢;refine congrArg some (Prod.ext ?_ ?_)
 ·show K.mul (K.mul x (K.mul z z)) (K.mul i i)=x;have e:K.mul (K.mul x (K.mul z z)) (K.mul i i)=K.mul x (K.mul (K.mul z i) (K.mul z i)):=aG K (aV K [x,z,i]) (Z0*(Z1*Z1)*(Z2*Z2)) (Z0*(Z1*Z2*(Z1*Z2))) (by decide);rw[e,h1,K.one_mul,K.mul_one]
 ·show K.mul (K.mul y (K.mul (K.mul z z) z)) (K.mul (K.mul i i) i)=y;have e:K.mul (K.mul y (K.mul (K.mul z z) z)) (K.mul (K.mul i i) i)=K.mul y (K.mul (K.mul (K.mul z i) (K.mul z i)) (K.mul z i)):=aG K (aV K [y,z,i]) (Z0*(Z1*Z1*Z1)*(Z2*Z2*Z2)) (Z0*(Z1*Z2*(Z1*Z2)*(Z1*Z2))) (by decide);rw[e,h1,K.one_mul,K.one_mul,K.mul_one]
end
def g1n:lJ:=((fm 1).1,(fm 2).1,false)
def g2n:iK:=((DL.1.1,DL.2.1),(EW.1.1,EW.2.1),false)
theorem CY (x:Fq):m1 x.1=x:=Fin.ext (show wv x.1%FP.M=x.1 by rw[show wv x.1=x.1 from cK x.2]; exact Nat.mod_eq_of_lt x.2)
theorem II (x:Fq):wV x.1:=by show wv x.1<FP.M; rw[show wv x.1=x.1 from cK x.2]; exact x.2
theorem UY (x:Q2):m2 (x.1.1,x.2.1)=x:=Prod.ext (CY x.1) (CY x.2)
theorem Xx (x:Q2):tZ (x.1.1,x.2.1):=⟨II x.1,II x.2⟩
theorem aJK {x y:Fq} (h:On F1 (fm 3) (some (x,y))):(iH (x.1,y.1,false)).1=0:=by
 have e:=DR x.1 y.1 false;rw[if_neg (by simp),if_neg (fun q=>q ⟨II x,II y⟩),CY,CY]at e;have h':F1.mul y y=F1.add (F1.mul (F1.mul x x) x) (fm 3):=by
  rw[F1.mul_comm (F1.mul x x) x]; exact h
 rw[if_pos h']at e;show (BD x.1 y.1 false).1=0;rw[e]
theorem aJH {x y:Q2} (h:On F2 dO (some (x,y))):(fR ((x.1.1,x.2.1),(y.1.1,y.2.1),false)).1=0:=by
 have e:=yP (x.1.1,x.2.1) (y.1.1,y.2.1) false;rw[if_neg (by simp),if_neg (fun q=>q ⟨Xx x,Xx y⟩),UY,UY]at e;have h':F2.mul y y=F2.add (F2.mul (F2.mul x x) x) dO:=by
  rw[F2.mul_comm (F2.mul x x) x]; exact h
 rw[if_pos h']at e;show (pB (x.1.1,x.2.1) (y.1.1,y.2.1) false).1=0;rw[e]
theorem bDm:On F1 (fm 3) (some (fm 1,fm 2)):=by
 show F1.mul (fm 2) (fm 2)=F1.add (F1.mul (fm 1) (F1.mul (fm 1) (fm 1))) (fm 3);exact of_decide_eq_true (by kernel_rfl)
theorem bDk:On F2 dO (some (DL,EW)):=by
 show F2.mul EW EW=F2.add (F2.mul DL (F2.mul DL DL)) dO;exact of_decide_eq_true (by kernel_rfl)
theorem aRT:(iH g1n).1=0:=aJK bDm
theorem aIL:(fR g2n).1=0:=aJH bDk
theorem Qa (x y:Fq):af1 (x.1,y.1,false)=some (x,y):=congrArg some (Prod.ext (CY x) (CY y))
theorem WY (x y:Q2):af2 ((x.1.1,x.2.1),(y.1.1,y.2.1),false)=some (x,y):=congrArg some (Prod.ext (UY x) (UY y))
theorem aXT:Rp bE (DL,EW,F2.one) (Po g2n):=(bE.jto_one _ _).trans ((DQ aIL).trans (WY DL EW)).symm
theorem aXU:bE.grp.ns qS (Po g2n)=bE.grp.zero:=Subtype.ext ((IF aXT qS 254 (by decide)).symm.trans (dB aNe))
theorem aLg:wv cU=cU:=by kernel_rfl
def tn1 (P:Pt Fq):lJ:=((ptX F1 P).1,(ptY F1 P).1,xK P)
def NT (P:Pt Q2):iK:=(((ptX F2 P).1.1,(ptX F2 P).2.1),((ptY F2 P).1.1,(ptY F2 P).2.1),xK P)
theorem Iq:∀{P:Pt Fq},On F1 (fm 3) P→(iH (tn1 P)).1=0
 | none,_=>by
  have e:=DR 0 0 true;rw[if_pos rfl,if_pos ⟨by show wv 0=0; rfl,by show wv 0=0; rfl⟩]at e;show (BD 0 0 true).1=0;rw[e]
 | some p,h=>aJK h
theorem JC:∀{P:Pt Q2},On F2 dO P→(fR (NT P)).1=0
 | none,_=>by
  have e:=yP (0,0) (0,0) true;rw[if_pos rfl,if_pos ⟨⟨by show wv 0=0; rfl,by show wv 0=0; rfl⟩,by show wv 0=0; rfl,by show wv 0=0; rfl⟩]at e;show (pB (0,0) (0,0) true).1=0;rw[e]
 | some p,h=>aJH h
theorem aZL:∀P:Pt Fq,af1 (tn1 P)=P
 | none=>rfl
 | some p=>Qa p.1 p.2
theorem aKz:∀P:Pt Q2,af2 (NT P)=P
 | none=>rfl
 | some p=>WY p.1 p.2
theorem bDl:tn1 (cp1 g1n).1=g1n:=by
 rw[MH aRT,show af1 g1n=some (fm 1,fm 2)from Qa (fm 1) (fm 2)];rfl
theorem bDj:NT (Po g2n).1=g2n:=by
 rw[DQ aIL,show af2 g2n=some (DL,EW)from WY DL EW];rfl
theorem aYB (P:C1):cp1 (tn1 P.1)=P:=Subtype.ext ((MH (Iq P.2)).trans (aZL P.1))
theorem tM1 (P:C1) (n:Nat):rC (fun _=>tn1 P.1) (fun _=>n) 1=((iL.grp.ns (wv n) P).1,0):=by
 rw[Ss,if_neg (fun q=>q (Iq P.2)),aYB]
theorem aJA (P:C2):Po (NT P.1)=P:=Subtype.ext ((DQ (JC P.2)).trans (aKz P.1))
theorem tM2 (P:C2) (n:Nat):mI (fun _=>NT P.1) (fun _=>n) 1=((bE.grp.ns (wv n) P).1,0):=by
 rw[Sr,if_neg (fun q=>q (JC P.2)),aJA]
theorem tN2 (P:C2):xJ (NT P.1)=((bE.grp.neg P).1,0):=by
 rw[aMM,if_neg (fun q=>q (JC P.2)),aJA]
theorem tC1 (P:C1):(iH (tn1 P.1)).1=0:=Iq P.2
theorem tC2 (P:C2):(fR (NT P.1)).1=0:=JC P.2
open Classical
section
variable {R:Type} {K:CR R} {inv:R→R} {b:R}
structure Tw (K:CR R) (b:R) (s:R→R) (k:R):Prop where
 add:∀x y,s (K.add x y)=K.add (s x) (s y)
 mul:∀x y,s (K.mul x y)=K.mul (s x) (s y)
 neg:∀x,s (K.neg x)=K.neg (s x)
 zero:s K.zero=K.zero
 ss:∀x,s (s x)=x
 k0:k≠K.zero
 hb:K.mul (K.mul (K.mul (K.mul k k) k) (K.mul (K.mul k k) k)) (s b)=b
def tw (K:CR R) (s:R→R) (k:R):Pt R→Pt R
 | none=>none
 | some p=>some (K.mul (s p.1) (K.mul k k),K.mul (s p.2) (K.mul (K.mul k k) k))
variable {s:R→R} {k:R}
theorem Tw.inj (t:Tw K b s k) {x y:R} (h:s x=s y):x=y:=by rw[←t.ss x,h,t.ss]
theorem Tw.sub (t:Tw K b s k) (x y:R):s (K.sub x y)=K.sub (s x) (s y):=by
 show s (K.add x (K.neg y))=K.add (s x) (K.neg (s y));rw[t.add,t.neg]
theorem GS (E:EC K inv b) {x y c:R} (hc:c≠K.zero) (h:K.mul x c=K.mul y c):x=y:=by
 have h1:=congrArg (fun z=>K.mul z (inv c)) h;have h2:=E.F.inv c hc;simp only[K.mul_assoc,h2,K.mul_one]at h1;exact h1
theorem Tw.k2 (t:Tw K b s k) (E:EC K inv b):K.mul k k≠K.zero:=E.F.mul_ne t.k0 t.k0
theorem Tw.k3 (t:Tw K b s k) (E:EC K inv b):K.mul (K.mul k k) k≠K.zero:=E.F.mul_ne (t.k2 E) t.k0
theorem aQC (t:Tw K b s k) (E:EC K inv b):∀{P:Pt R},On K b P→On K b (tw K s k P)
 | none,_=>trivial
 | some p,h=>by
  have h':K.mul p.2 p.2=K.add (K.mul p.1 (K.mul p.1 p.1)) b:=h;have h1:=congrArg s h';rw[t.mul,t.add,t.mul,t.mul]at h1;show K.mul (K.mul (s p.2) (K.mul (K.mul k k) k)) (K.mul (s p.2) (K.mul (K.mul k k) k))=K.add (K.mul (K.mul (s p.1) (K.mul k k)) (K.mul (K.mul (s p.1) (K.mul k k)) (K.mul (s p.1) (K.mul k k)))) b;have e1:K.mul (K.mul (s p.2) (K.mul (K.mul k k) k)) (K.mul (s p.2) (K.mul (K.mul k k) k))=K.mul (K.mul (K.mul (K.mul k k) k) (K.mul (K.mul k k) k)) (K.mul (s p.2) (s p.2)):=aG K (aV K [s p.2,k]) (Z0*(Z1*Z1*Z1)*(Z0*(Z1*Z1*Z1))) (Z1*Z1*Z1*(Z1*Z1*Z1)*(Z0*Z0)) (by decide);have e2:K.mul (K.mul (s p.1) (K.mul k k)) (K.mul (K.mul (s p.1) (K.mul k k)) (K.mul (s p.1) (K.mul k k)))=K.mul (K.mul (K.mul (K.mul k k) k) (K.mul (K.mul k k) k)) (K.mul (s p.1) (K.mul (s p.1) (s p.1))):=aG K (aV K [s p.1,k]) (Z0*(Z1*Z1)*(Z0*(Z1*Z1)*(Z0*(Z1*Z1)))) (Z1*Z1*Z1*(Z1*Z1*Z1)*(Z0*(Z0*Z0))) (by decide);rw[e1,e2,h1,K.mul_add,t.hb]
theorem YY (t:Tw K b s k) (E:EC K inv b) {x1 y1 x2 y2:R} (hp:On K b (some (x1,y1))) (hq:On K b (some (x2,y2))) (h:¬(x1=x2∧K.add y1 y2=K.zero)) :
  eE K inv (K.mul (s x1) (K.mul k k)) (K.mul (s y1) (K.mul (K.mul k k) k)) (K.mul (s x2) (K.mul k k)) (K.mul (s y2) (K.mul (K.mul k k) k))=K.mul (s (eE K inv x1 y1 x2 y2)) k:=by
 by_cases hx:x1=x2
 ·subst hx;have hy:K.add y1 y2≠K.zero:=fun e=>h ⟨rfl,e⟩
  have hyy:y1=y2:=by
   apply Classical.byContradiction;intro hn;exact hy (JI E (show K.mul y1 y1=K.mul y2 y2 from (show K.mul y1 y1=_ from hp).trans (show K.mul y2 y2=_ from hq).symm) hn)
  subst hyy;have hl:K.mul (eE K inv x1 y1 x1 y1) (K.add y1 y1)=K.add (K.add (K.mul x1 x1) (K.mul x1 x1)) (K.mul x1 x1):=by
   unfold eE;rw[if_pos rfl,K.mul_assoc,K.mul_comm (inv _),E.F.inv _ hy,K.mul_one]
  generalize eE K inv x1 y1 x1 y1=l at hl ⊢;have h1:=congrArg s hl;rw[t.mul,t.add,t.add,t.add,t.mul]at h1;have hys:K.add (s y1) (s y1)≠K.zero:=fun e=>hy (t.inj (by rw[t.add,t.zero]; exact e))
  refine BV E ?_ ?_
  ·intro e;refine hys ?_;apply GS E (t.k3 E);rw[K.add_mul,e,K.mul_comm K.zero,K.mul_zero]
  ·have e1:K.mul (K.mul (s l) k) (K.add (K.mul (s y1) (K.mul (K.mul k k) k)) (K.mul (s y1) (K.mul (K.mul k k) k)))=K.mul (K.mul (s l) (K.add (s y1) (s y1))) (K.mul (K.mul k k) (K.mul k k)):=aG K (aV K [s l,k,s y1]) (Z0*Z1*(Z2*(Z1*Z1*Z1)+Z2*(Z1*Z1*Z1))) (Z0*(Z2+Z2)*(Z1*Z1*(Z1*Z1))) (by decide);rw[e1,h1];exact aG K (aV K [s x1,k]) ((Z0*Z0+Z0*Z0+Z0*Z0)*(Z1*Z1*(Z1*Z1))) (Z0*(Z1*Z1)*(Z0*(Z1*Z1))+Z0*(Z1*Z1)*(Z0*(Z1*Z1))+Z0*(Z1*Z1)*(Z0*(Z1*Z1))) (by decide)
 ·have hl:K.mul (eE K inv x1 y1 x2 y2) (K.sub x2 x1)=K.sub y2 y1:=by
   unfold eE;rw[if_neg hx,K.mul_assoc,K.mul_comm (inv _),E.F.inv _ (SU fun e=>hx e.symm),K.mul_one]
  generalize eE K inv x1 y1 x2 y2=l at hl ⊢;have h1:=congrArg s hl;rw[t.mul,t.sub,t.sub]at h1;refine uK E (fun e=>hx (t.inj (GS E (t.k2 E) e))) ?_;have e1:K.mul (K.mul (s l) k) (K.sub (K.mul (s x2) (K.mul k k)) (K.mul (s x1) (K.mul k k)))=K.mul (K.mul (s l) (K.sub (s x2) (s x1))) (K.mul (K.mul k k) k):=aG K (aV K [s l,k,s x1,s x2]) (Z0*Z1*(Z3*(Z1*Z1)-Z2*(Z1*Z1))) (Z0*(Z3-Z2)*(Z1*Z1*Z1)) (by decide);rw[e1,h1];exact aG K (aV K [s y1,k,s y2]) ((Z2-Z0)*(Z1*Z1*Z1)) (Z2*(Z1*Z1*Z1)-Z0*(Z1*Z1*Z1)) (by decide)
theorem aDD (t:Tw K b s k) (E:EC K inv b):∀{P Q:Pt R},On K b P→On K b Q→tw K s k (jI K inv P Q)=jI K inv (tw K s k P) (tw K s k Q)
 | none,_,_,_=>rfl
 | some p,none,_,_=>rfl
 | some p,some q,hp,hq=>by
  by_cases h:p.1=q.1∧K.add p.2 q.2=K.zero
  ·rw[mD h];refine (mD ⟨?_,?_⟩).symm
   ·show K.mul (s p.1) _=K.mul (s q.1) _;rw[h.1]
   ·show K.add (K.mul (s p.2) _) (K.mul (s q.2) _)=K.zero;rw[←K.add_mul,←t.add,h.2,t.zero,K.mul_comm,K.mul_zero]
  ·rw[kQ h];have h':¬(K.mul (s p.1) (K.mul k k)=K.mul (s q.1) (K.mul k k)∧K.add (K.mul (s p.2) (K.mul (K.mul k k) k)) (K.mul (s q.2) (K.mul (K.mul k k) k))=K.zero):=fun e=>h ⟨t.inj (GS E (t.k2 E) e.1),by
    have e2:=e.2;rw[←K.add_mul,←t.add]at e2;exact t.inj (by rw[t.zero]; exact GS E (t.k3 E) (by rw[e2,K.mul_comm K.zero,K.mul_zero]))⟩
   have hS:=kQ (K:=K) (inv:=inv) (p:=(K.mul (s p.1) (K.mul k k),K.mul (s p.2) (K.mul (K.mul k k) k))) (q:=(K.mul (s q.1) (K.mul k k),K.mul (s q.2) (K.mul (K.mul k k) k))) h';refine Eq.trans ?_ hS.symm;rw[YY t E (x1:=p.1) (y1:=p.2) (x2:=q.1) (y2:=q.2) hp hq h];generalize eE K inv p.1 p.2 q.1 q.2=l;have ex:s (sx K l p.1 q.1)=K.sub (K.sub (K.mul (s l) (s l)) (s p.1)) (s q.1):=by
    unfold sx;rw[t.sub,t.sub,t.mul]
   have ey:s (sy K l p.1 p.2 q.1)=K.sub (K.mul (s l) (K.sub (s p.1) (s (sx K l p.1 q.1)))) (s p.2):=by
    unfold sy;rw[t.sub,t.mul,t.sub]
   have fx:K.mul (s (sx K l p.1 q.1)) (K.mul k k)=sx K (K.mul (s l) k) (K.mul (s p.1) (K.mul k k)) (K.mul (s q.1) (K.mul k k)):=by
    rw[ex];exact aG K (aV K [s l,k,s p.1,s q.1]) ((Z0*Z0-Z2-Z3)*(Z1*Z1)) (Z0*Z1*(Z0*Z1)-Z2*(Z1*Z1)-Z3*(Z1*Z1)) (by decide)
   refine congrArg some (Prod.ext fx ?_);show K.mul (s (sy K l p.1 p.2 q.1)) (K.mul (K.mul k k) k)=sy K (K.mul (s l) k) (K.mul (s p.1) (K.mul k k)) (K.mul (s p.2) (K.mul (K.mul k k) k)) (K.mul (s q.1) (K.mul k k));rw[ey];unfold sy;rw[←fx];generalize s (sx K l p.1 q.1)=S;exact aG K (aV K [s l,k,s p.1,S,s p.2]) ((Z0*(Z2-Z3)-Z4)*(Z1*Z1*Z1)) (Z0*Z1*(Z2*(Z1*Z1)-Z3*(Z1*Z1))-Z4*(Z1*Z1*Z1)) (by decide)
end
def kE:Q2:=(⟨8376118865763821496583973867626364092589906065868298776909617916018768340080,by decide⟩,⟨16469823323077808223889137241176536799009286646108169935659301613961712198316,by decide⟩)
theorem GV:F2.mul kE kE=kL:=of_decide_eq_true (by kernel_rfl)
theorem Oi:F2.mul (F2.mul kE kE) kE=oP:=of_decide_eq_true (by kernel_rfl)
theorem aJN (x y:Q2):aL (F2.add x y)=F2.add (aL x) (aL y):=Prod.ext rfl (aG F1 (aV F1 [x.2,y.2]) (-(Z0+Z1)) (-Z0-Z1) (by decide))
theorem WQ (x y:Q2):aL (F2.mul x y)=F2.mul (aL x) (aL y):=by
 refine Prod.ext ?_ ?_
 ·exact aG F1 (aV F1 [x.1,x.2,y.1,y.2]) (Z0*Z2+(-RE.one)*(Z1*Z3)) (Z0*Z2+(-RE.one)*((-Z1)*(-Z3))) (by decide)
 ·exact aG F1 (aV F1 [x.1,x.2,y.1,y.2]) (-(Z0*Z3+Z1*Z2)) (Z0*(-Z3)+(-Z1)*Z2) (by decide)
theorem PB:Tw F2 dO aL kE where
 add:=aJN
 mul:=WQ
 neg:=fun x=>rfl
 zero:=BE
 ss:=fun x=>Prod.ext rfl (aG F1 (aV F1 [x.2]) (-(-Z0)) (.v 0) (by decide))
 k0:=of_decide_eq_true (by kernel_rfl)
 hb:=of_decide_eq_true (by kernel_rfl)
theorem uP:∀P:Pt Q2,ON P=tw F2 aL kE P
 | none=>rfl
 | some p=>by
  show some (F2.mul (aL p.1) kL,F2.mul (aL p.2) oP)=some (F2.mul (aL p.1) (F2.mul kE kE),F2.mul (aL p.2) (F2.mul (F2.mul kE kE) kE));rw[GV,←Oi,GV]
def sF (P:C2):C2:=⟨ON P.1,by rw[uP]; exact aQC PB bE P.2⟩
theorem Td (P Q:C2):sF (bE.grp.add P Q)=bE.grp.add (sF P) (sF Q):=Subtype.ext (by
 show ON (jI F2 eD P.1 Q.1)=jI F2 eD (ON P.1) (ON Q.1);rw[uP,uP,uP];exact aDD PB bE P.2 Q.2)
theorem JZ (P:C2):∀n,sF (bE.grp.ns n P)=bE.grp.ns n (sF P)
 | 0=>rfl
 | n+1=>by
  show sF (bE.grp.add (bE.grp.ns n P) P)=bE.grp.add (bE.grp.ns n (sF P)) (sF P);rw[Td,JZ P n]
theorem bAT (P:C2):gW (NT P.1)=((sF P).1,0):=by
 unfold gW;rw[if_neg (fun q=>q (JC P.2)),aKz];rfl
namespace AG
variable {G:Type} (A:AG G)
theorem ns_modz {g:G} {n:Nat} (h:A.ns n g=A.zero) (m:Nat):A.ns (m%n) g=A.ns m g:=by
 conv=>rhs; rw[←Nat.div_add_mod m n,A.ns_add,A.ns_mul,h,A.ns_zero,A.zadd]
theorem ns_gcd {g:G} (a b:Nat):A.ns a g=A.zero→A.ns b g=A.zero→A.ns (Nat.gcd a b) g=A.zero:=by
 induction a,b using Nat.gcd.induction with
 | H0 n=>intro _ h; rw[Nat.gcd_zero_left]; exact h
 | H1 m n hm ih =>
  intro h1 h2;rw[Nat.gcd_rec];exact ih (by rw[A.ns_modz h1]; exact h2) h1
theorem exact {g:G} {N:Nat} {l:List Nat} (hl:l.foldr (· * ·) 1=N) (hp:∀q,q∈l→fH q) (h0:A.ns N g=A.zero) (hq:∀q,q∈l→A.ns (N/q) g≠A.zero) (k:Nat) (hk:0<k) (hN:k<N):A.ns k g≠A.zero:=fun h=>by
 have hd:=A.ns_gcd k N h h0;obtain⟨e,he⟩:=Nat.gcd_dvd_right k N;have hdk:Nat.gcd k N≤k:=Nat.le_of_dvd hk (Nat.gcd_dvd_left k N);have hd0:0<Nat.gcd k N:=Nat.gcd_pos_of_pos_left N hk;have he1:1<e:=by
  rcases Nat.lt_or_ge 1 e with q|q
  ·exact q
  ·have:Nat.gcd k N*e≤Nat.gcd k N*1:=Nat.mul_le_mul_left _ q;omega
 obtain⟨q,hql,f,hf⟩:=zZ l e (by rw[hl]; exact⟨Nat.gcd k N,by rw[Nat.mul_comm]; exact he⟩) he1 hp;refine hq q hql ?_;have hq0:0<q:=Nat.lt_trans Nat.zero_lt_one (hp q hql).1;have e1:N/q=Nat.gcd k N*f:=by
  rw[Nat.div_eq_of_eq_mul_left hq0];rw[Nat.mul_assoc,Nat.mul_comm f q,←hf];exact he
 rw[e1,A.ns_mul,hd,A.ns_zero]
theorem ns_inj {g:G} {N:Nat} (h:∀k,0<k→k<N→A.ns k g≠A.zero) {i j:Nat} (hi:i<N) (hj:j<N) (e:A.ns i g=A.ns j g):i=j:=by
 have key:∀i j,i<j→j<N→A.ns i g=A.ns j g→False:=fun i j hij hj e=>by
  refine h (j-i) (by omega) (by omega) ?_;have:A.ns j g=A.add (A.ns i g) (A.ns (j-i) g):=by rw[←A.ns_add,Nat.add_sub_cancel' (Nat.le_of_lt hij)]
  rw[this]at e;refine A.cancel (a:=A.ns i g) ?_;rw[←e,A.addz]
 rcases Nat.lt_trichotomy i j with q|q|q
 ·exact (key i j q hj e).elim
 ·exact q
 ·exact (key j i q hi e.symm).elim
theorem ns_dvd {g:G} {N:Nat} (hN:0<N) (h0:A.ns N g=A.zero) (h:∀k,0<k→k<N→A.ns k g≠A.zero) (a:Nat):A.ns a g=A.zero↔N∣a:=by
 constructor
 ·intro e;refine Nat.dvd_of_mod_eq_zero ?_
  rcases Nat.eq_zero_or_pos (a%N)with q|q
  ·exact q
  ·exact (h (a%N) q (Nat.mod_lt _ hN) (by rw[A.ns_modz h0]; exact e)).elim
 ·rintro⟨f,rfl⟩
  rw[A.ns_mul,h0,A.ns_zero]
theorem ns_back {g:G} {N:Nat} (h0:A.ns N g=A.zero) {j:Nat} (hj:j≤N):A.add (A.ns j g) (A.ns (N-j) g)=A.zero:=by
 rw[←A.ns_add,Nat.add_sub_cancel' hj,h0]
theorem cyclic {g:G} {N M:Nat} (hN:N%2=1) (h0:A.ns N g=A.zero) (h:∀k,0<k→k<N→A.ns k g≠A.zero) (two:∀P,A.add P P=A.zero→P=A.zero)
  (code:G→Nat) (hc:∀P,code P<M) (hi:∀P Q,code P=code Q→P=Q) (hM:M<3*N) (P:G):∃k,P=A.ns k g:=by
 apply Classical.byContradiction;intro hP;have hsub:∀i j,j<N→∀Q,A.ns i g=A.add Q (A.ns j g)→∃k,Q=A.ns k g:=fun i j hj Q e=>by
  refine⟨i+(N-j),?_⟩;rw[A.ns_add,e,A.assoc,A.ns_back h0 (Nat.le_of_lt hj),A.addz]
 by_cases hD:∃k,A.add P P=A.ns k g
 ·obtain⟨k,hk⟩:=hD;obtain⟨j,hj⟩:∃j,A.ns (j+j) g=A.add P P:=by
   rcases Nat.mod_two_eq_zero_or_one k with q|q
   ·exact⟨k/2,by rw[hk,show k/2+k/2=k by omega]⟩
   ·refine⟨(k+N)/2,?_⟩;rw[hk,show (k+N)/2+(k+N)/2=k+N by omega,A.ns_add,h0,A.addz]
  have hz:=two (A.add P (A.neg (A.ns j g))) (by
   rw[A.add4,←hj,←A.neg_add,←A.ns_add,A.addn])
  refine hP ⟨j,?_⟩;refine A.cancel (a:=A.neg (A.ns j g)) ?_;rw[A.nadd,A.comm,hz]
 ·have pg:=aGd (3*N) (fun i=>if i<N then code (A.ns i g)else if i<2*N then code (A.add P (A.ns (i-N) g))else code (A.add (A.add P P) (A.ns (i-2*N) g)))
   (fun i _=>by
    show (if i<N then _ else if i<2*N then _ else _)<3*N;split
    ·exact Nat.lt_trans (hc _) hM
    ·split
     ·exact Nat.lt_trans (hc _) hM
     ·exact Nat.lt_trans (hc _) hM)
   (fun i j hi3 hj3 e=>by
    have e':(if i<N then code (A.ns i g)else if i<2*N then code (A.add P (A.ns (i-N) g))else code (A.add (A.add P P) (A.ns (i-2*N) g)))=(if j<N then code (A.ns j g)else if j<2*N then code (A.add P (A.ns (j-N) g))else code (A.add (A.add P P) (A.ns (j-2*N) g))):=e
    by_cases i1:i<N
    ·rw[if_pos i1]at e'
     by_cases j1:j<N
     ·rw[if_pos j1]at e';exact A.ns_inj h i1 j1 (hi _ _ e')
     ·rw[if_neg j1]at e'
      by_cases j2:j<2*N
      ·rw[if_pos j2]at e';exact (hP (hsub _ _ (by omega) _ (hi _ _ e'))).elim
      ·rw[if_neg j2]at e';exact (hD (hsub _ _ (by omega) _ (hi _ _ e'))).elim
    ·rw[if_neg i1]at e'
     by_cases i2:i<2*N
     ·rw[if_pos i2]at e'
      by_cases j1:j<N
      ·rw[if_pos j1]at e';exact (hP (hsub _ _ (by omega) _ (hi _ _ e'.symm))).elim
      ·rw[if_neg j1]at e'
       by_cases j2:j<2*N
       ·rw[if_pos j2]at e';have:=A.ns_inj h (i:=i-N) (j:=j-N) (by omega) (by omega) (A.cancel (hi _ _ e'));omega
       ·rw[if_neg j2]at e';have e2:=hi _ _ e';rw[A.assoc]at e2;exact (hP (hsub _ _ (by omega) _ (A.cancel e2))).elim
     ·rw[if_neg i2]at e'
      by_cases j1:j<N
      ·rw[if_pos j1]at e';exact (hD (hsub _ _ (by omega) _ (hi _ _ e'.symm))).elim
      ·rw[if_neg j1]at e'
       by_cases j2:j<2*N
       ·rw[if_pos j2]at e';have e2:=(hi _ _ e').symm;rw[A.assoc]at e2;exact (hP (hsub _ _ (by omega) _ (A.cancel e2))).elim
       ·rw[if_neg j2]at e';have:=A.ns_inj h (i:=i-2*N) (j:=j-2*N) (by omega) (by omega) (A.cancel (hi _ _ e'));omega) M hM
  obtain⟨i,_,hiM⟩:=pg;have:(if i<N then code (A.ns i g)else if i<2*N then code (A.add P (A.ns (i-N) g))else code (A.add (A.add P P) (A.ns (i-2*N) g)))=M:=hiM;have hlt:(if i<N then code (A.ns i g)else if i<2*N then code (A.add P (A.ns (i-N) g))else code (A.add (A.add P P) (A.ns (i-2*N) g)))<M:=by
   split
   ·exact hc _
   ·split
    ·exact hc _
    ·exact hc _
  omega
end AG
end Go.Proofs.YtglgakbkdjhojaaGreat.Ex
namespace Go.Proofs.YtglgakbkdjhojaaGreat
open Go.Proofs.Tryz
theorem aBO:fH 10069:=aR 10069 100 (by decide) (by decide) (by kernel_rfl)
theorem aNx:fH 181:=aR 181 13 (by decide) (by decide) (by kernel_rfl)
theorem TM:Root 5864401 38:=by
 refine bH (l:=[2,2,2,2,3,3,3,3,5,5,181]) (by kernel_rfl) fun q hq => ?_
 simp only[List.mem_cons,List.not_mem_nil,or_false]at hq
 rcases hq with rfl|rfl|rfl|rfl|rfl|rfl|rfl|rfl|rfl|rfl|rfl
 ·exact aY
 ·exact aY
 ·exact aY
 ·exact aY
 ·exact gD
 ·exact gD
 ·exact gD
 ·exact gD
 ·exact mJ
 ·exact mJ
 ·exact aNx
theorem Dl:fH 5864401:=TM.prm
theorem aNw:fH 199:=aR 199 14 (by decide) (by decide) (by kernel_rfl)
theorem aFQ:fH 1511:=aR 1511 38 (by decide) (by decide) (by kernel_rfl)
theorem Cs:Root 601379 2:=by
 refine bH (l:=[2,199,1511]) (by kernel_rfl) fun q hq => ?_
 simp only[List.mem_cons,List.not_mem_nil,or_false]at hq
 rcases hq with rfl|rfl|rfl
 ·exact aY
 ·exact aNw
 ·exact aFQ
theorem My:fH 601379:=Cs.prm
theorem CF:Root 17367825521 3:=by
 refine bH (l:=[2,2,2,2,5,19,19,601379]) (by kernel_rfl) fun q hq => ?_
 simp only[List.mem_cons,List.not_mem_nil,or_false]at hq
 rcases hq with rfl|rfl|rfl|rfl|rfl|rfl|rfl|rfl
 ·exact aY
 ·exact aY
 ·exact aY
 ·exact aY
 ·exact mJ
 ·exact CK
 ·exact CK
 ·exact My
theorem FT:fH 17367825521:=CF.prm
theorem xY:Root 1875725156269 2:=by
 refine bH (l:=[2,2,3,3,3,17367825521]) (by kernel_rfl) fun q hq => ?_
 simp only[List.mem_cons,List.not_mem_nil,or_false]at hq
 rcases hq with rfl|rfl|rfl|rfl|rfl|rfl
 ·exact aY
 ·exact aY
 ·exact gD
 ·exact gD
 ·exact gD
 ·exact FT
theorem AB:fH 1875725156269:=xY.prm
theorem aUU:fH 59:=aR 59 7 (by decide) (by decide) (by kernel_rfl)
theorem aUV:fH 43:=aR 43 6 (by decide) (by decide) (by kernel_rfl)
theorem aFO:fH 23:=aR 23 4 (by decide) (by decide) (by kernel_rfl)
theorem aNp:fH 727:=aR 727 26 (by decide) (by decide) (by kernel_rfl)
theorem Cw:Root 133769 3:=by
 refine bH (l:=[2,2,2,23,727]) (by kernel_rfl) fun q hq => ?_
 simp only[List.mem_cons,List.not_mem_nil,or_false]at hq
 rcases hq with rfl|rfl|rfl|rfl|rfl
 ·exact aY
 ·exact aY
 ·exact aY
 ·exact aFO
 ·exact aNp
theorem Nc:fH 133769:=Cw.prm
theorem aUT:fH 61:=aR 61 7 (by decide) (by decide) (by kernel_rfl)
theorem aNz:fH 149:=aR 149 12 (by decide) (by decide) (by kernel_rfl)
theorem TN:Root 5835139 3:=by
 refine bH (l:=[2,3,61,107,149]) (by kernel_rfl) fun q hq => ?_
 simp only[List.mem_cons,List.not_mem_nil,or_false]at hq
 rcases hq with rfl|rfl|rfl|rfl|rfl
 ·exact aY
 ·exact gD
 ·exact aUT
 ·exact Tf
 ·exact aNz
theorem Dm:fH 5835139:=TN.prm
theorem JT:Root 758568071 14:=by
 refine bH (l:=[2,5,13,5835139]) (by kernel_rfl) fun q hq => ?_
 simp only[List.mem_cons,List.not_mem_nil,or_false]at hq
 rcases hq with rfl|rfl|rfl|rfl
 ·exact aY
 ·exact mJ
 ·exact UA
 ·exact Dm
theorem OO:fH 758568071:=JT.prm
theorem pV:Root 1309000310535827101 2:=by
 refine bH (l:=[2,2,3,5,5,43,133769,758568071]) (by kernel_rfl) fun q hq => ?_
 simp only[List.mem_cons,List.not_mem_nil,or_false]at hq
 rcases hq with rfl|rfl|rfl|rfl|rfl|rfl|rfl|rfl
 ·exact aY
 ·exact aY
 ·exact gD
 ·exact mJ
 ·exact mJ
 ·exact aUV
 ·exact Nc
 ·exact OO
theorem rJ:fH 1309000310535827101:=pV.prm
theorem aNy:fH 157:=aR 157 12 (by decide) (by decide) (by kernel_rfl)
theorem TS:Root 1233079 11:=by
 refine bH (l:=[2,3,7,11,17,157]) (by kernel_rfl) fun q hq => ?_
 simp only[List.mem_cons,List.not_mem_nil,or_false]at hq
 rcases hq with rfl|rfl|rfl|rfl|rfl|rfl
 ·exact aY
 ·exact gD
 ·exact KB
 ·exact UB
 ·exact aFP
 ·exact aNy
theorem Ds:fH 1233079:=TS.prm
theorem aFS:fH 1031:=aR 1031 32 (by decide) (by decide) (by kernel_rfl)
theorem aBL:fH 77339:=aR 77339 278 (by decide) (by decide) (by kernel_rfl)
theorem aFM:fH 3359:=aR 3359 57 (by decide) (by decide) (by kernel_rfl)
theorem Cu:Root 268721 3:=by
 refine bH (l:=[2,2,2,2,5,3359]) (by kernel_rfl) fun q hq => ?_
 simp only[List.mem_cons,List.not_mem_nil,or_false]at hq
 rcases hq with rfl|rfl|rfl|rfl|rfl|rfl
 ·exact aY
 ·exact aY
 ·exact aY
 ·exact aY
 ·exact mJ
 ·exact aFM
theorem Na:fH 268721:=Cu.prm
theorem TQ:Root 1612327 5:=by
 refine bH (l:=[2,3,268721]) (by kernel_rfl) fun q hq => ?_
 simp only[List.mem_cons,List.not_mem_nil,or_false]at hq
 rcases hq with rfl|rfl|rfl
 ·exact aY
 ·exact gD
 ·exact Na
theorem Dq:fH 1612327:=TQ.prm
theorem uO:Root 677736056450657 3:=by
 refine bH (l:=[2,2,2,2,2,7,23,83,983,1612327]) (by kernel_rfl) fun q hq => ?_
 simp only[List.mem_cons,List.not_mem_nil,or_false]at hq
 rcases hq with rfl|rfl|rfl|rfl|rfl|rfl|rfl|rfl|rfl|rfl
 ·exact aY
 ·exact aY
 ·exact aY
 ·exact aY
 ·exact aY
 ·exact KB
 ·exact aFO
 ·exact aFI
 ·exact TZ
 ·exact Dq
theorem xC:fH 677736056450657:=uO.prm
theorem oF:Root 209661715479349446893 2:=by
 refine bH (l:=[2,2,77339,677736056450657]) (by kernel_rfl) fun q hq => ?_
 simp only[List.mem_cons,List.not_mem_nil,or_false]at hq
 rcases hq with rfl|rfl|rfl|rfl
 ·exact aY
 ·exact aY
 ·exact aBL
 ·exact xC
theorem pE:fH 209661715479349446893:=oF.prm
theorem lU:Root 3458579658547348475946929 3:=by
 refine bH (l:=[2,2,2,2,1031,209661715479349446893]) (by kernel_rfl) fun q hq => ?_
 simp only[List.mem_cons,List.not_mem_nil,or_false]at hq
 rcases hq with rfl|rfl|rfl|rfl|rfl|rfl
 ·exact aY
 ·exact aY
 ·exact aY
 ·exact aY
 ·exact aFS
 ·exact pE
theorem mK:fH 3458579658547348475946929:=lU.prm
theorem iC:Root 213235097339095295568608163219551 31:=by
 refine bH (l:=[2,5,5,1233079,3458579658547348475946929]) (by kernel_rfl) fun q hq => ?_
 simp only[List.mem_cons,List.not_mem_nil,or_false]at hq
 rcases hq with rfl|rfl|rfl|rfl|rfl
 ·exact aY
 ·exact mJ
 ·exact mJ
 ·exact Ds
 ·exact mK
theorem iO:fH 213235097339095295568608163219551:=iC.prm
theorem dQ:Root 197620364512881247228717050342013327560683201906968909 2:=by
 refine bH (l:=[2,2,3,59,1309000310535827101,213235097339095295568608163219551]) (by kernel_rfl) fun q hq => ?_
 simp only[List.mem_cons,List.not_mem_nil,or_false]at hq
 rcases hq with rfl|rfl|rfl|rfl|rfl|rfl
 ·exact aY
 ·exact aY
 ·exact gD
 ·exact aUU
 ·exact rJ
 ·exact iO
theorem dV:fH 197620364512881247228717050342013327560683201906968909:=dQ.prm
end Go.Proofs.YtglgakbkdjhojaaGreat
namespace Go.Proofs.YtglgakbkdjhojaaGreat.Ex
open Go.Proofs.Tryz
open Go.RowKit
def ZB:Q2:=(⟨2,by decide⟩,⟨1,by decide⟩)
def Ic:Q2:=(⟨7292567877523311580221095596750716176434782432868683424513645834767876293070,by decide⟩,⟨19659275751359636165940301690575149581329631496732780143538578556285923319774,by decide⟩)
def NS:Nat:=479095176016622842441988045216678740799252316531100822436447802254070093686356349204969212544220033486413271283566945264650845755880805213916963058350733
def twM:Nat:=287457105609973705413735949925891179998572849537316190965553840838426151215824331271088064391342496698406609565003789524066463657087527623491112425449299
theorem aDC:On F2 dO (some (ZB,Ic)):=by
 show F2.mul Ic Ic=F2.add (F2.mul ZB (F2.mul ZB ZB)) dO;exact of_decide_eq_true (by kernel_rfl)
def YN:C2:=⟨some (ZB,Ic),aDC⟩
theorem Ik:Rp bE (ZB,Ic,F2.one) YN:=bE.jto_one _ _
theorem bEW:(YQ F2 (ZB,Ic,F2.one) NS 508 508).2.2=F2.zero:=of_decide_eq_true (by kernel_rfl)
theorem aTp:(YQ F2 (ZB,Ic,F2.one) 21888242871839275222246405745257275088844257914179612981679871602714643921549 508 508).2.2≠F2.zero:=of_decide_eq_true (by kernel_rfl)
theorem aTo:(YQ F2 (ZB,Ic,F2.one) 47581207271489010074683488451353534690560365133687637544587129035065060451520145913692443394996527310200940637954806362563397135354136976255533127257 508 508).2.2≠F2.zero:=of_decide_eq_true (by kernel_rfl)
theorem aTn:(YQ F2 (ZB,Ic,F2.one) 81695500702735512534355690413510048306596413944254634435204516583035521221409714172848891565263022342164744751180375500353888786916311693882625533 508 508).2.2≠F2.zero:=of_decide_eq_true (by kernel_rfl)
theorem aTm:(YQ F2 (ZB,Ic,F2.one) 255418644045692602095536823547820102522999221828645151339294751423486163211343406059815000057572293107810899582329754326227174532880069378657 508 508).2.2≠F2.zero:=of_decide_eq_true (by kernel_rfl)
theorem aTl:(YQ F2 (ZB,Ic,F2.one) 2424320880075062131686333725919013315836351602446602932909956992302697742401182419325566481532687937 508 508).2.2≠F2.zero:=of_decide_eq_true (by kernel_rfl)
theorem aTs:NS<2^508:=of_decide_eq_true (by kernel_rfl)
theorem aTt:twM<2^508:=of_decide_eq_true (by kernel_rfl)
theorem SF:bE.grp.ns NS YN=bE.grp.zero:=Subtype.ext ((IF Ik NS 508 aTs).symm.trans (dB bEW))
theorem YZ {n:Nat} (hn:n<2^508) (h:(YQ F2 (ZB,Ic,F2.one) n 508 508).2.2≠F2.zero):bE.grp.ns n YN≠bE.grp.zero:=fun e=>by
 have h1:fQ F2 eD (YQ F2 (ZB,Ic,F2.one) n 508 508)=(bE.grp.ns n YN).1:=IF Ik n 508 hn;rw[e,dR h]at h1;cases h1
def twL:List Nat:=[21888242871839275222246405745257275088548364400416034343698204186575808495617,10069,5864401,1875725156269,197620364512881247228717050342013327560683201906968909]
theorem aDE:twL.foldr (· * ·) 1=NS:=by kernel_rfl
theorem aLr:∀q,q∈twL→fH q:=fun q hq=>by
 simp only[twL,List.mem_cons,List.not_mem_nil,or_false]at hq
 rcases hq with rfl|rfl|rfl|rfl|rfl
 ·exact aQN
 ·exact aBO
 ·exact Dl
 ·exact AB
 ·exact dV
theorem aTv:∀q,q∈twL→bE.grp.ns (NS/q) YN≠bE.grp.zero:=fun q hq=>by
 simp only[twL,List.mem_cons,List.not_mem_nil,or_false]at hq
 rcases hq with rfl|rfl|rfl|rfl|rfl
 ·rw[show NS/21888242871839275222246405745257275088548364400416034343698204186575808495617=21888242871839275222246405745257275088844257914179612981679871602714643921549 by kernel_rfl]; exact YZ (of_decide_eq_true (by kernel_rfl)) aTp
 ·rw[show NS/10069=47581207271489010074683488451353534690560365133687637544587129035065060451520145913692443394996527310200940637954806362563397135354136976255533127257 by kernel_rfl]; exact YZ (of_decide_eq_true (by kernel_rfl)) aTo
 ·rw[show NS/5864401=81695500702735512534355690413510048306596413944254634435204516583035521221409714172848891565263022342164744751180375500353888786916311693882625533 by kernel_rfl]; exact YZ (of_decide_eq_true (by kernel_rfl)) aTn
 ·rw[show NS/1875725156269=255418644045692602095536823547820102522999221828645151339294751423486163211343406059815000057572293107810899582329754326227174532880069378657 by kernel_rfl]; exact YZ (of_decide_eq_true (by kernel_rfl)) aTm
 ·rw[show NS/197620364512881247228717050342013327560683201906968909=2424320880075062131686333725919013315836351602446602932909956992302697742401182419325566481532687937 by kernel_rfl]; exact YZ (of_decide_eq_true (by kernel_rfl)) aTl
theorem IZ:∀k,0<k→k<NS→bE.grp.ns k YN≠bE.grp.zero:=bE.grp.exact aDE aLr SF aTv
theorem aTi (P:C2) (h:bE.grp.add P P=bE.grp.zero):P=bE.grp.zero:=by
 have h1:bE.grp.neg P=P:=by
  refine bE.grp.cancel (a:=P) ?_;rw[bE.grp.addn,h]
 obtain⟨P,hP⟩:=P;cases P with
 | none=>rfl
 | some p =>
  have h2:some (p.1,F2.neg p.2)=some p:=congrArg Subtype.val h1;have h3:F2.neg p.2=p.2:=by injection h2 with h2; exact congrArg Prod.snd h2
  have h4:F2.add p.2 p.2=F2.zero:=by
   conv=>lhs; lhs; rw[←h3]
   exact F2.neg_add _
  exact (bE.dbl_ne (bE.y_ne (x:=p.1) hP) h4).elim
open Classical in
def nM (x:Q2):Q2:=if h:∃y,On F2 dO (some (x,y))then h.choose else F2.zero
open Classical in
def BQ (P:C2):Nat:=match P.1 with
 | none=>2*(FP.M*FP.M)
 | some p=>2*(p.1.1.1+FP.M*p.1.2.1)+(if p.2=nM p.1 then 0 else 1)
theorem Ot {a b M:Nat} (ha:a<M) (hb:b<M):a+M*b<M*M:=by
 have:M*(b+1)≤M*M:=Nat.mul_le_mul_left _ hb;rw[Nat.mul_add,Nat.mul_one]at this;omega
theorem Ze (P:C2):BQ P<2*(FP.M*FP.M)+1:=by
 obtain⟨P,hP⟩:=P;unfold BQ;cases P with
 | none=>exact Nat.lt_succ_self _
 | some p =>
  have:=Ot p.1.1.2 p.1.2.2;show 2*(p.1.1.1+FP.M*p.1.2.1)+(if p.2=nM p.1 then 0 else 1)<_;split<;>omega
theorem aOM {a b c d M:Nat} (ha:a<M) (hc:c<M) (h:a+M*b=c+M*d):a=c∧b=d:=by
 have h1:=congrArg (· % M) h;simp only[Nat.add_mul_mod_self_left,Nat.mod_eq_of_lt ha,Nat.mod_eq_of_lt hc]at h1;refine⟨h1,?_⟩;rw[h1]at h;have hM:0<M:=by omega
 exact Nat.eq_of_mul_eq_mul_left hM (by omega)
theorem Il (P Q:C2) (h:BQ P=BQ Q):P=Q:=by
 obtain⟨P,hP⟩:=P;obtain⟨Q,hQ⟩:=Q;refine Subtype.ext ?_;show P=Q;unfold BQ at h;cases P with
 | none =>
  cases Q with
  | none=>rfl
  | some q =>
   have:=Ot q.1.1.2 q.1.2.2;have h':2*(FP.M*FP.M)=2*(q.1.1.1+FP.M*q.1.2.1)+(if q.2=nM q.1 then 0 else 1):=h;split at h'<;>omega
 | some p =>
  cases Q with
  | none =>
   have:=Ot p.1.1.2 p.1.2.2;have h':2*(p.1.1.1+FP.M*p.1.2.1)+(if p.2=nM p.1 then 0 else 1)=2*(FP.M*FP.M):=h;split at h'<;>omega
  | some q =>
   have h':2*(p.1.1.1+FP.M*p.1.2.1)+(if p.2=nM p.1 then 0 else 1)=2*(q.1.1.1+FP.M*q.1.2.1)+(if q.2=nM q.1 then 0 else 1):=h;have hx:p.1.1.1+FP.M*p.1.2.1=q.1.1.1+FP.M*q.1.2.1∧((p.2=nM p.1)↔(q.2=nM q.1)):=by
    by_cases a:p.2=nM p.1
    ·rw[if_pos a]at h'
     by_cases b:q.2=nM q.1
     ·rw[if_pos b]at h'; exact⟨by omega,fun _=>b,fun _=>a⟩
     ·rw[if_neg b]at h'; omega
    ·rw[if_neg a]at h'
     by_cases b:q.2=nM q.1
     ·rw[if_pos b]at h'; omega
     ·rw[if_neg b]at h'; exact⟨by omega,fun h=>(a h).elim,fun h=>(b h).elim⟩
   obtain⟨e1,e2⟩:=aOM p.1.1.2 q.1.1.2 hx.1;have ex:p.1=q.1:=Prod.ext (Fin.ext e1) (Fin.ext e2);obtain⟨px,py⟩:=p;obtain⟨qx,qy⟩:=q;have ex':px=qx:=ex;subst ex';have hb:(py=nM px)↔(qy=nM px):=hx.2;refine congrArg (fun y=>some (px,y)) ?_
   by_cases a:py=nM px
   ·rw[a,←hb.1 a]
   ·have b:qy≠nM px:=fun h=>a (hb.2 h)
    have hy0:On F2 dO (some (px,nM px)):=by
     have hex:∃y,On F2 dO (some (px,y)):=⟨py,hP⟩
     unfold nM;rw[dif_pos hex];exact hex.choose_spec
    have s1:F2.add py (nM px)=F2.zero:=JI bE ((show F2.mul py py=_ from hP).trans (show F2.mul (nM px) (nM px)=_ from hy0).symm) a;have s2:F2.add qy (nM px)=F2.zero:=JI bE ((show F2.mul qy qy=_ from hQ).trans (show F2.mul (nM px) (nM px)=_ from hy0).symm) b;refine F2.add_cancel (a:=nM px) ?_;rw[F2.add_comm,s1,F2.add_comm,s2]
theorem aTq:2*(FP.M*FP.M)+1<3*NS:=of_decide_eq_true (by kernel_rfl)
theorem aTk:NS%2=1:=by kernel_rfl
theorem aTr (P:C2):∃k,P=bE.grp.ns k YN:=bE.grp.cyclic aTk SF IZ aTi BQ Ze Il aTq P
def bEZ:Q2:=F2.mul (aL ZB) kL
def bEY:Q2:=F2.mul (aL Ic) oP
def twJ:J2:=YQ F2 (ZB,Ic,F2.one) twM 508 508
theorem bFc:twJ.2.2≠F2.zero:=of_decide_eq_true (by kernel_rfl)
theorem bFe:twJ.1=F2.mul bEZ (F2.mul twJ.2.2 twJ.2.2):=of_decide_eq_true (by kernel_rfl)
theorem bFd:twJ.2.1=F2.mul bEY (F2.mul (F2.mul twJ.2.2 twJ.2.2) twJ.2.2):=of_decide_eq_true (by kernel_rfl)
theorem aTV:Rp bE twJ (bE.grp.ns twM YN):=IF Ik twM 508 aTt
theorem aTj:sF YN=bE.grp.ns twM YN:=by
 refine Subtype.ext ?_;rw[←show fQ F2 eD twJ=(bE.grp.ns twM YN).1 from aTV,aHU bE bFc bFe bFd];show ON (some (ZB,Ic))=_
 kernel_rfl
def twC:Nat:=287457105609973705413735949925891179998572849537316190965553840838426151215824331271088064391342496698406609565003641577309581867768536789783043007736333
def twU:Nat:=4377648574367855045624726741130453375770005524880588749457117171343633558474
def twW:Nat:=2626589144620713026904657807846672682105704487528335372401875091607964744325
theorem aTw:twM=cU+twC:=by kernel_rfl
theorem aLs:twC=qS*13132945723103565130996952262996368337156300107536646163745009583754801998349:=by kernel_rfl
theorem bAM:twC*twU=qS+NS*twW:=by kernel_rfl
theorem aDB:0<NS:=of_decide_eq_true (by kernel_rfl)
theorem Oq (P:C2):bE.grp.ns cU P=sF P↔bE.grp.ns qS P=bE.grp.zero:=by
 obtain⟨k,rfl⟩:=aTr P;have e1:sF (bE.grp.ns k YN)=bE.grp.add (bE.grp.ns cU (bE.grp.ns k YN)) (bE.grp.ns (k*twC) YN):=by
  rw[JZ,aTj,←bE.grp.ns_mul,←bE.grp.ns_mul,←bE.grp.ns_add,aTw,Nat.add_mul,Nat.mul_comm cU,Nat.mul_comm twC]
 have e2:bE.grp.ns cU (bE.grp.ns k YN)=sF (bE.grp.ns k YN)↔bE.grp.ns (k*twC) YN=bE.grp.zero:=by
  rw[e1];constructor
  ·intro h;refine bE.grp.cancel (a:=bE.grp.ns cU (bE.grp.ns k YN)) ?_;rw[←h,bE.grp.addz]
  ·intro h;rw[h,bE.grp.addz]
 rw[e2,←bE.grp.ns_mul,bE.grp.ns_dvd aDB SF IZ,bE.grp.ns_dvd aDB SF IZ];constructor
 ·rintro⟨f,hf⟩
  have h1:k*qS+NS*(k*twW)=NS*(f*twU):=by
   have h2:k*(twC*twU)=NS*(f*twU):=by rw[←Nat.mul_assoc,hf,Nat.mul_assoc]
   rw[bAM,Nat.mul_add,Nat.mul_left_comm k NS]at h2;exact h2
  have h3:NS∣k*qS+NS*(k*twW):=⟨_,h1⟩;exact (Nat.dvd_add_left ⟨_,rfl⟩).1 h3
 ·rintro⟨f,hf⟩
  rw[aLs,←Nat.mul_assoc,hf];exact⟨f*13132945723103565130996952262996368337156300107536646163745009583754801998349,Nat.mul_assoc _ _ _⟩
theorem Cyc.neg {G V:Type} {A:AG G} {B:AG V} {c:G→G→V} (C:Cyc A B c) (g h:G):c (A.neg g) (A.neg h)=B.neg (c g h):=by
 have e:=congrArg Prod.snd ((nS C).neg_add (eB B g) (eB B h));have e:B.neg (B.add (B.add B.zero B.zero) (c g h))=B.add (B.add (B.neg B.zero) (B.neg B.zero)) (c (A.neg g) (A.neg h)):=e;rw[B.zadd,B.zadd,B.negz,B.zadd,B.zadd]at e;exact e.symm
theorem KP:dE aF.one=aF.one:=by decide
theorem aGy {a:aQ} (h:a≠aF.zero):dE a≠aF.zero:=fun e=>by
 have t:=congrArg dE (kU h);rw[oM,e,aF.zero_mul,KP]at t;exact lK.1 t.symm
theorem bCM {a:aQ} (h:a≠aF.zero):lZ (dE a)=dE (lZ a):=VN (aGy h) (by rw[←oM,kU h,KP])
theorem aFC (x:aQ) (m n:Nat):bR aF (bR aF x m) n=bR aF (bR aF x n) m:=by rw[←eW,←eW,Nat.mul_comm]
theorem bDU (a:aQ):cO (dE a)=dE (cO a):=by rw[MM,MM,pM,pM,aFC]
theorem aLq (a:aQ):cW (dE a)=dE (cW a):=by rw[zF,zF,pM,pM,aFC]
theorem bCY (a:aQ):hX (dE a)=dE (hX a):=by rw[EV,EV,pM,pM,aFC]
theorem aWG {a:aQ} (h:a≠aF.zero):lY (dE a)=dE (lY a):=by
 unfold lY eZ;rw[bCM h,bDU,←oM,aLq,←oM,bCY]
def fv (v:Vq):Vq:=⟨dE v.1,aGy v.2⟩
theorem LZ (v:Vq):(fv v).1=dE v.1:=rfl
theorem aRU {z:aQ} (h:z≠aF.zero):fv (lv z)=lv (dE z):=Subtype.ext (by rw[LZ,dK h,dK (aGy h),aWG h])
theorem pS:fv vg.zero=vg.zero:=Subtype.ext (by rw[LZ,IV,KP])
theorem aDw (v:Vq):∀n,(vg.ns n v).1=bR aF v.1 n
 | 0=>rfl
 | n+1=>by
  show (vg.add (vg.ns n v) v).1=aF.mul (bR aF v.1 n) v.1;rw[mY,aDw v n]
def sN:Nat:=BX+2
def mN:Nat:=(sN+FP.M+FP.M*FP.M*FP.M-FP.M*FP.M)/Go.Proofs.YtglgakbkdjhojaaGreat.FR.M
theorem bBi:sN+FP.M+FP.M*FP.M*FP.M=FP.M*FP.M+Go.Proofs.YtglgakbkdjhojaaGreat.FR.M*mN:=by kernel_rfl
theorem aLl {x:aQ} (h:bR aF x Go.Proofs.YtglgakbkdjhojaaGreat.FR.M=aF.one):aF.mul (aF.mul (bR aF x sN) (dE x)) (dE (dE (dE x)))=dE (dE x):=by
 have e2:dE (dE x)=bR aF x (FP.M*FP.M):=by rw[pM,pM,←eW]
 have e3:dE (dE (dE x))=bR aF x (FP.M*FP.M*FP.M):=by rw[e2,pM,←eW]
 rw[e3,e2,pM x,←cS,←cS,bBi,cS,eW aF x Go.Proofs.YtglgakbkdjhojaaGreat.FR.M,h,nP,aF.mul_comm,aF.one_mul]
def rOf (v:Vq):Prop:=bR aF v.1 Go.Proofs.YtglgakbkdjhojaaGreat.FR.M=aF.one
theorem aIO {v:Vq} (h:rOf v):vg.add (vg.add (vg.ns sN v) (fv v)) (fv (fv (fv v)))=fv (fv v):=Subtype.ext (by
 rw[mY,mY,aDw,LZ,LZ,LZ];exact aLl h)
theorem rE:rOf vg.zero:=by
 unfold rOf;rw[IV,nP]
theorem aFx (z:aQ):rOf (lv z):=by
 by_cases h:z=aF.zero
 ·unfold lv;rw[dif_pos h];exact rE
 ·unfold rOf;rw[dK h];exact bCX (Xd (aRx h))
def Ig:Pt Fq→Pt Q2→Pt Q2→Vq
 | none,_,_=>vg.zero
 | some a,t,t'=>cv a t t'
theorem oV (t t':Pt Q2):Ig none t t'=vg.zero:=rfl
theorem jY (a:Fq×Fq) (t t':Pt Q2):Ig (some a) t t'=cv a t t':=rfl
def CV (P:C1) (T T':C2):Vq:=Ig P.1 T.1 T'.1
theorem bGX:Cyc bE.grp vg (fun T T'=>Ig none T.1 T'.1) where
 coc T T' T'':=by rw[oV,oV,oV,oV]
 comm T T':=by rw[oV,oV]
 zl T:=by rw[oV]
 opp T:=by rw[oV]
theorem bGW {a:Fq×Fq} (h:On F1 (fm 3) (some a)):Cyc bE.grp vg (fun T T'=>Ig (some a) T.1 T'.1) where
 coc T T' T'':=by
  rw[jY,jY,jY,jY,oQ,oQ];exact aYw h T.2 T'.2 T''.2
 comm T T':=by
  rw[jY,jY];exact Xi h T.2 T'.2
 zl T:=by
  rw[jY,show (bE.grp.zero:C2).1=none from rfl];exact Hb h T.1
 opp T:=by
  rw[jY,show (bE.grp.neg T).1=PI F2 T.1 from rfl];exact aYv h T.1
theorem bGV:∀{p:Pt Fq},On F1 (fm 3) p→Cyc bE.grp vg (fun T T'=>Ig p T.1 T'.1)
 | none,_=>bGX
 | some a,h=>bGW h
theorem aJw {a:Fq×Fq} (h:On F1 (fm 3) (some a)) {q:Pt Q2} (hq:On F2 dO q):cv a q none=vg.zero:=by
 rw[Xi h hq (show On F2 dO none from trivial),Hb h]
theorem aJx {a:Fq×Fq} (h:On F1 (fm 3) (some a)) {t t':Q2×Q2} (hn:t.1=t'.1∧F2.add t.2 t'.2=F2.zero):cv a (some t) (some t')=vg.zero:=CZ (Oh h hn)
theorem aSe (a:Fq):aL (i2 a)=i2 a:=Prod.ext rfl (bU F1)
theorem aSd (a:Q2):aL (F2.neg a)=F2.neg (aL a):=rfl
theorem Wx:Pf=F2.one:=by decide
theorem bDt:ME=kE:=by decide
theorem bDr:EX=kL:=by decide
theorem aRW:Ww=oP:=by decide
theorem bCg (m d:Q2) (a b:Fq):dE (lT m d a b)=lT (F2.mul (aL m) ME) (F2.mul (aL d) Ww) a b:=by
 show ((F2.mul (aL (i2 b)) Pf,F2.mul (aL F2.zero) EX,F2.mul (aL F2.zero) Wv),(F2.mul (aL (F2.neg (F2.mul m (i2 a)))) ME,F2.mul (aL (F2.neg d)) Ww,F2.mul (aL F2.zero) fb5))=lT _ _ _ _;have e:F2.mul (F2.mul (aL m) (i2 a)) ME=F2.mul (F2.mul (aL m) ME) (i2 a):=by rw[F2.mul_assoc,F2.mul_comm (i2 a),←F2.mul_assoc]
 simp only[BE,F2.zero_mul,aSe,Wx,F2.mul_one,aSd,WQ,F2.neg_mul,e];rfl
theorem bCh (n c:Fq) (x y:Q2):dE (lP n c x y)=lP n c (F2.mul (aL x) EX) (F2.mul (aL y) Ww):=by
 show ((F2.mul (aL (F2.neg (i2 c))) Pf,F2.mul (aL (F2.neg (F2.mul (i2 n) x))) EX,F2.mul (aL F2.zero) Wv),(F2.mul (aL F2.zero) ME,F2.mul (aL y) Ww,F2.mul (aL F2.zero) fb5))=lP _ _ _ _;simp only[BE,F2.zero_mul,aSe,Wx,F2.mul_one,aSd,WQ,F2.neg_mul,F2.mul_assoc];rfl
theorem EF (p:Q2×Q2):ON (some p)=some (F2.mul (aL p.1) kL,F2.mul (aL p.2) oP):=rfl
theorem aUP {t:Pt Q2} (h:On F2 dO t):On F2 dO (ON t):=by rw[uP]; exact aQC PB bE h
theorem aNk {t t':Pt Q2} (h:On F2 dO t) (h':On F2 dO t'):ON (jI F2 eD t t')=jI F2 eD (ON t) (ON t'):=by
 rw[uP,uP,uP];exact aDD PB bE h h'
theorem aXi {R:Type} (K:CR R) (Y M X k:R):K.sub (K.mul Y (K.mul (K.mul k k) k)) (K.mul (K.mul M k) (K.mul X (K.mul k k)))=K.mul (K.sub Y (K.mul M X)) (K.mul (K.mul k k) k) :=
 aG K (aV K [Y,M,X,k]) (Z0*(Z3*Z3*Z3)-Z1*Z3*(Z2*(Z3*Z3))) ((Z0-Z1*Z2)*(Z3*Z3*Z3)) (by kernel_rfl)
theorem aXh (m:Q2) (t:Q2×Q2):hgt F2 (F2.mul (aL m) kE) (F2.mul (aL t.1) kL,F2.mul (aL t.2) oP)=F2.mul (aL (hgt F2 m t)) oP:=by
 have e:aL (hgt F2 m t)=F2.sub (aL t.2) (F2.mul (aL m) (aL t.1)):=by
  unfold hgt;rw[PB.sub,WQ]
 rw[e,←Oi,←GV];exact aXi F2 (aL t.2) (aL m) (aL t.1) kE
theorem aWM {t t':Q2×Q2} (ht:On F2 dO (some t)) (ht':On F2 dO (some t')) (hn:¬(t.1=t'.1∧F2.add t.2 t'.2=F2.zero)) (a:Fq×Fq) :
  lnT (F2.mul (aL t.1) kL,F2.mul (aL t.2) oP) (F2.mul (aL t'.1) kL,F2.mul (aL t'.2) oP) a=dE (lnT t t' a):=by
 have hs:=YY PB bE (x1:=t.1) (y1:=t.2) (x2:=t'.1) (y2:=t'.2) ht ht' hn;rw[Oi,GV]at hs;rw[qH,qH,bCg];dsimp only;rw[hs,aXh,bDt,aRW]
theorem aYx {p:Pt Fq} {t t':Pt Q2} (hp:On F1 (fm 3) p) (ht:On F2 dO t) (ht':On F2 dO t'):Ig p (ON t) (ON t')=fv (Ig p t t'):=by
 match p,t,t' with
 | none,_,_=>rw[oV,oV,pS]
 | some a,none,_=>rw[jY,jY,show ON none=none from rfl,Hb hp,Hb hp,pS]
 | some a,some t,none=>rw[jY,jY,show ON none=none from rfl,aJw hp (aUP ht),aJw hp ht,pS]
 | some a,some t,some t' =>
  rw[jY,jY]
  by_cases hn:t.1=t'.1∧F2.add t.2 t'.2=F2.zero
  ·rw[aJx hp hn,pS,EF,EF];refine aJx hp ⟨?_,?_⟩
   ·dsimp only;rw[hn.1]
   ·dsimp only;rw[←F2.add_mul,←aJN,hn.2,BE,F2.zero_mul]
  ·have h3:=aNk ht ht';rw[kQ hn,EF,EF,EF]at h3;have hn':=GQ (by rw[←h3]; exact Option.some_ne_none _);rw[EF,EF,BB hp hn,BB hp hn',aRU (yK (jA hp)),aWM ht ht' hn]
theorem aWF {p p' s:Pt Fq} {t:Pt Q2} (ht:On F2 dO t):NW p p' s (ON t)=fv (NW p p' s t):=by
 match p,p',s,t with
 | none,_,_,_=>rw[ES,ES,pS]
 | some p,none,_,_=>rw[ER,ER,pS]
 | some p,some q,none,_=>rw[EP,EP,pS]
 | some p,some q,some s,none=>rw[show ON none=none from rfl,QO,pS]
 | some p,some q,some s,some t =>
  rw[EF,EO,EO,aRU (DB (nE ht)),yL,yL,bCh,bDr,aRW]
theorem Oc {p:Pt Fq} (hp:On F1 (fm 3) p) {t t':Q2×Q2} (hn:¬(t.1=t'.1∧F2.add t.2 t'.2=F2.zero)):Od (some t) (some t') p=Ig p (some t) (some t'):=by
 match p with
 | none=>rw[Fs,oV]
 | some a=>rw[QN,jY,BB hp hn]
theorem Pm {p:Pt Fq} (hp:On F1 (fm 3) p) (t:Pt Q2):Ig p none t=vg.zero:=by
 match p with
 | none=>rw[oV]
 | some a=>rw[jY,Hb hp]
theorem Pl {p:Pt Fq} (hp:On F1 (fm 3) p) {t:Pt Q2} (ht:On F2 dO t):Ig p t none=vg.zero:=by
 match p with
 | none=>rw[oV]
 | some a=>rw[jY,aJw hp ht]
theorem Pn {p:Pt Fq} (hp:On F1 (fm 3) p) {t t':Q2×Q2} (hn:t.1=t'.1∧F2.add t.2 t'.2=F2.zero):Ig p (some t) (some t')=vg.zero:=by
 match p with
 | none=>rw[oV]
 | some a=>rw[jY,aJx hp hn]
theorem aVv {R:Type} {K:CR R} {t t':R×R} (hn:t.1=t'.1∧K.add t.2 t'.2=K.zero):t'=(t.1,K.neg t.2):=Prod.ext hn.1.symm (by
 apply K.add_cancel (a:=t.2);rw[hn.2,K.add_neg])
theorem aXg {p p':Pt Fq} {t t':Pt Q2} (hp:On F1 (fm 3) p) (hp':On F1 (fm 3) p') (ht:On F2 dO t) (ht':On F2 dO t') :
  vg.add (vg.add (Ig p t t') (Ig p' t t')) (NW p p' (jI F1 cF p p') (jI F2 eD t t'))=vg.add (Ig (jI F1 cF p p') t t') (vg.add (NW p p' (jI F1 cF p p') t) (NW p p' (jI F1 cF p p') t')):=by
 have hs:=hp.add iL hp'
 match t,t' with
 | none,t'=>rw[Pm hp,Pm hp',Pm hs,QO,Ib,vg.zadd,vg.zadd,vg.zadd,show jI F2 eD none t'=t' from rfl]
 | some t,none=>rw[Pl hp ht,Pl hp' ht,Pl hs ht,QO,Ib,vg.zadd,vg.addz,vg.zadd,show jI F2 eD (some t) none=some t from rfl]
 | some t,some t' =>
  by_cases hn:t.1=t'.1∧F2.add t.2 t'.2=F2.zero
  ·rw[mD hn,Pn hp hn,Pn hp' hn,Pn hs hn,QO,Ib,Ib,aVv hn,←Mw,Vr hp hp' rfl ht,Ib]
  ·have r:=Wd hp hp' ht ht' (Option.some_ne_none _) (Option.some_ne_none _) (by rw[kQ hn]; exact Option.some_ne_none _);rw[Oc hp hn,Oc hp' hn,Oc hs hn]at r;exact r
end Go.Proofs.YtglgakbkdjhojaaGreat.Ex
