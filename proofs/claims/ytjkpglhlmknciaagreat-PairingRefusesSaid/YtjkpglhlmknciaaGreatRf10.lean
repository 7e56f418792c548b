/- Rf10 -/
import Derived.Test.YtjkpglhlmknciaaGreatRf03
import Derived.Test.YtjkpglhlmknciaaGreatRf08
import Derived.Test.YtjkpglhlmknciaaGreatRf09
import Derived.Test.YtjkpglhlmknciaaGreatRf04
import Derived.Test.YtjkpglhlmknciaaGreatRf07
import Derived.Test.YtjkpglhlmknciaaGreatRf06
import Derived.Test.YtjkpglhlmknciaaGreatRf02
import Derived.Test.YtjkpglhlmknciaaGreatProg
set_option maxRecDepth 100000
set_option linter.unusedVariables false
set_option linter.unusedSimpArgs false
set_option linter.unnecessarySimpa false
noncomputable section
namespace Go.Proofs.YtjkpglhlmknciaaGreat.Ex
open Go.Proofs.Tryz
theorem nY {a b:aV} (ha:a≠aD.zero) (hb:b≠aD.zero):aD.mul a b≠aD.zero:=fun e=>hb (jJ.zd e ha)
theorem aMi {a:aV} (h:a≠aD.zero):wH a≠F1.zero:=fun e=>h (AS e)
theorem jY {a:aV} (h:a≠aD.zero):aD.mul a (mE a)=aD.one:=UN (aMi h)
theorem Pv {a k:aV} (ha:a≠aD.zero) (h:aD.mul a k=aD.one):mE a=k:=by
 have e:aD.mul (aD.mul (mE a) a) k=mE a:=by rw[aD.mul_assoc,h,aD.mul_comm,aD.one_mul]
 rw[aD.mul_comm (mE a),jY ha,aD.one_mul]at e;exact e.symm
theorem uJ {R:Type} (K:CR R) (a b c d:R):K.mul (K.mul a b) (K.mul c d)=K.mul (K.mul a c) (K.mul b d):=by
 rw[K.mul_assoc,K.mul_left_comm b c d,←K.mul_assoc]
theorem aQi {a b:aV} (ha:a≠aD.zero) (hb:b≠aD.zero):mE (aD.mul a b)=aD.mul (mE a) (mE b) :=
 Pv (nY ha hb) (by rw[uJ,jY ha,jY hb,aD.one_mul])
theorem aRq {a b:aV} (ha:a≠aD.zero) (hb:b≠aD.zero):eZ (aD.mul a b)=aD.mul (eZ a) (eZ b):=by
 unfold eZ;rw[JQ,aQi ha hb,uJ aD (cO a),pG,uJ]
theorem aQy (a b:aV):hX (aD.mul a b)=aD.mul (hX a) (hX b):=by rw[IY,IY,IY,mR]
theorem dL {a b:aV} (ha:a≠aD.zero) (hb:b≠aD.zero):mC (aD.mul a b)=aD.mul (mC a) (mC b):=by
 unfold mC;rw[aRq ha hb,aQy]
theorem aEg:hX aD.one=aD.one:=by rw[IY,oE]
theorem Zx:cU aD.one=aD.one:=by decide
theorem yM {a:aV} (h:cO a=a) (ha:a≠aD.zero):mC a=aD.one:=by
 unfold mC eZ;rw[h,jY ha,Zx,aD.one_mul,aEg]
theorem yN:mC aD.one=aD.one:=yM (by decide) jJ.1
def eQ (z:Q2):aV:=((z,F2.zero,F2.zero),F6.zero)
def eP (a:Fq):aV:=eQ (i2 a)
def KV:aV:=aD.mul wE wE
def wX:aV:=aD.mul KV wE
theorem aQs (a b:Fq):i2 (F1.add a b)=F2.add (i2 a) (i2 b):=Prod.ext rfl (F1.add_zero F1.zero).symm
theorem z2a:F2.add F2.zero F2.zero=F2.zero:=by decide
theorem z6a:F6.add F6.zero F6.zero=F6.zero:=by decide
theorem BM (x y:Q2):eQ (F2.add x y)=aD.add (eQ x) (eQ y):=by
 refine Prod.ext (Prod.ext rfl (Prod.ext z2a.symm z2a.symm)) z6a.symm
theorem oX (x y:Q2):eQ (F2.mul x y)=aD.mul (eQ x) (eQ y):=by
 rw[oJ];unfold eQ;simp only[show F6.zero=(F2.zero,F2.zero,F2.zero)from rfl,F2.mul_zero,F2.zero_mul,F2.add_zero,F2.zero_add]
theorem SP (a b:Fq):eP (F1.add a b)=aD.add (eP a) (eP b):=by unfold eP; rw[aQs,BM]
theorem tI (a b:Fq):eP (F1.mul a b)=aD.mul (eP a) (eP b):=by unfold eP; rw[Jk,oX]
theorem Rb:eQ F2.zero=aD.zero:=rfl
theorem aKJ:eP F1.zero=aD.zero:=rfl
theorem Cub.map {R S:Type} {K:CR R} {L:CR S} (φ:R→S) (ha:∀a b,φ (K.add a b)=L.add (φ a) (φ b)) (hm:∀a b,φ (K.mul a b)=L.mul (φ a) (φ b)) (h0:φ K.zero=L.zero) {b a1 a2 a3 n c:R} (h:Cub K b a1 a2 a3 n c):Cub L (φ b) (φ a1) (φ a2) (φ a3) (φ n) (φ c):=by
 refine⟨?_,?_,?_⟩
 ·rw[←ha,←ha,←hm,h.s1]
 ·rw[←hm,←hm,←hm,←hm,←ha,←ha,←ha,←ha,h.s2,h0]
 ·rw[←hm,←hm,←ha,←hm,h.s3]
theorem Ki:aD.mul (eQ dE) (aD.mul wX wX)=eP (fm 3):=by decide
theorem aNx:KV=((F2.zero,F2.one,F2.zero),F6.zero):=by decide
theorem aNw:wX=(F6.zero,(F2.zero,F2.one,F2.zero)):=by decide
theorem z6e:F6.zero=(F2.zero,F2.zero,F2.zero):=rfl
theorem aZS (z:Q2):aD.mul (eQ z) wE=(F6.zero,(z,F2.zero,F2.zero)):=by
 rw[oJ];unfold eQ wE;simp only[show F6.one=(F2.one,F2.zero,F2.zero)from rfl,z6e,F2.mul_zero,F2.zero_mul,F2.add_zero,F2.zero_add,F2.mul_one]
theorem aMM (z:Q2):aD.mul (eQ z) KV=((F2.zero,z,F2.zero),F6.zero):=by
 rw[oJ,aNx];unfold eQ;simp only[z6e,F2.mul_zero,F2.zero_mul,F2.add_zero,F2.zero_add,F2.mul_one]
theorem aML (z:Q2):aD.mul (eQ z) wX=(F6.zero,(F2.zero,z,F2.zero)):=by
 rw[oJ,aNw];unfold eQ;simp only[z6e,F2.mul_zero,F2.zero_mul,F2.add_zero,F2.zero_add,F2.mul_one]
theorem aWE (z y:Q2):aD.mul (aD.mul (eQ z) wE) (eQ y)=(F6.zero,(F2.mul z y,F2.zero,F2.zero)):=by
 rw[aD.mul_comm,←aD.mul_assoc,←oX,aZS,F2.mul_comm]
theorem wJ:F2.neg F2.zero=F2.zero:=bQ F2
theorem EH (x:aV):aD.neg x=((F2.neg x.1.1,F2.neg x.1.2.1,F2.neg x.1.2.2),(F2.neg x.2.1,F2.neg x.2.2.1,F2.neg x.2.2.2)):=rfl
theorem zD (x y:aV):aD.add x y=((F2.add x.1.1 y.1.1,F2.add x.1.2.1 y.1.2.1,F2.add x.1.2.2 y.1.2.2),(F2.add x.2.1 y.2.1,F2.add x.2.2.1 y.2.2.1,F2.add x.2.2.2 y.2.2.2)):=rfl
theorem PP (x y:aV):aD.sub x y=aD.add x (aD.neg y):=rfl
def lT (m d:Q2) (a b:Fq):aV:=((i2 b,F2.zero,F2.zero),(F2.neg (F2.mul m (i2 a)),F2.neg d,F2.zero))
def lP (n c:Fq) (x y:Q2):aV:=((F2.neg (i2 c),F2.neg (F2.mul (i2 n) x),F2.zero),(F2.zero,y,F2.zero))
def vP (a:Fq) (x:Q2):aV:=((F2.neg (i2 a),x,F2.zero),F6.zero)
theorem NV (m d:Q2) (a b:Fq):lT m d a b=aD.sub (eP b) (aD.add (aD.mul (aD.mul (eQ m) wE) (eP a)) (aD.mul (eQ d) wX)):=by
 unfold eP;rw[aWE,aML,PP,EH,zD,zD];unfold lT eQ;simp only[z6e,F2.add_zero,F2.zero_add,wJ]
theorem Bg (n c:Fq) (x y:Q2):lP n c x y=aD.sub (aD.mul (eQ y) wX) (aD.add (aD.mul (eP n) (aD.mul (eQ x) KV)) (eP c)):=by
 unfold eP;rw[←aD.mul_assoc,←oX,aMM,aML,PP,EH,zD,zD];unfold lP eQ;simp only[z6e,F2.add_zero,F2.zero_add,wJ]
theorem FE (a:Fq) (x:Q2):vP a x=aD.sub (aD.mul (eQ x) KV) (eP a):=by
 unfold eP;rw[aMM,PP,EH,zD];unfold vP eQ;simp only[z6e,F2.add_zero,F2.zero_add,wJ]
theorem rV {m d:Q2} {a b:Fq} (h:b≠F1.zero):lT m d a b≠aD.zero:=fun e=>h (congrArg (fun z:aV=>z.1.1.1) e)
theorem tB {n c:Fq} {x y:Q2} (h:y≠F2.zero):lP n c x y≠aD.zero:=fun e=>h (congrArg (fun z:aV=>z.2.2.1) e)
theorem mJ {a:Fq} {x:Q2} (h:a≠F1.zero):vP a x≠aD.zero:=fun e=>h (by
 have h1:F1.neg a=F1.zero:=congrArg (fun z:aV=>z.1.1.1) e;rw[←F1.neg_neg a,h1,bQ])
theorem aTx (a:Fq) (x:Q2):cO (vP a x)=vP a x:=Prod.ext rfl (by show F6.sub F6.zero F6.zero=F6.zero; decide)
theorem uF {a:aV} (h:a≠aD.zero):aD.neg a≠aD.zero:=fun e=>h (by rw[←aD.neg_neg a,e,bQ])
theorem qV {a:aV} (h:a≠aD.zero):mC (aD.neg a)=mC a:=by
 have e:aD.neg a=aD.mul (aD.neg aD.one) a:=by rw[aD.neg_mul,aD.one_mul]
 rw[e,dL (uF jJ.1) h,yM (by decide) (uF jJ.1),aD.one_mul]
theorem wK {a:Fq} {x:Q2} (h:a≠F1.zero):mC (vP a x)=aD.one:=yM (aTx a x) (mJ h)
section
variable {a1 a2 a3 b1 b2 b3 n c:Fq} {x1 x2 x3 y1 y2 y3 m d:Q2}
theorem aWN (h:Cub F1 (fm 3) a1 a2 a3 n c):Cub aD (eP (fm 3)) (eP a1) (eP a2) (eP a3) (eP n) (eP c):=h.map eP SP tI aKJ
theorem aWM (h:Cub F2 dE x1 x2 x3 m d):Cub aD (eP (fm 3)) (aD.mul (eQ x1) KV) (aD.mul (eQ x2) KV) (aD.mul (eQ x3) KV) (aD.mul (eQ m) wE) (aD.mul (eQ d) wX):=by
 have g:=(h.map eQ BM oX Rb).scale wE;rw[←Ki];exact g
theorem aPy {R:Type} (K:CR R) (M X D w:R):K.mul (K.add (K.mul M X) D) (K.mul (K.mul w w) w)=K.add (K.mul (K.mul M w) (K.mul X (K.mul w w))) (K.mul D (K.mul (K.mul w w) w)) :=
 aE K (aW K [M,X,D,w]) ((Z0*Z1+Z2)*(Z3*Z3*Z3)) (Z0*Z3*(Z1*(Z3*Z3))+Z2*(Z3*Z3*Z3)) (by kernel_rfl)
theorem aVV {R:Type} (K:CR R) (X B w:R):K.mul (K.add (K.mul X (K.mul X X)) B) (K.mul (K.mul (K.mul w w) w) (K.mul (K.mul w w) w))=K.add (K.mul (K.mul X (K.mul w w)) (K.mul (K.mul X (K.mul w w)) (K.mul X (K.mul w w)))) (K.mul B (K.mul (K.mul (K.mul w w) w) (K.mul (K.mul w w) w))) :=
 aE K (aW K [X,B,w]) ((Z0*(Z0*Z0)+Z1)*(Z2*Z2*Z2*(Z2*Z2*Z2))) (Z0*(Z2*Z2)*(Z0*(Z2*Z2)*(Z0*(Z2*Z2)))+Z1*(Z2*Z2*Z2*(Z2*Z2*Z2))) (by kernel_rfl)
theorem aQw (X B:aV):aD.mul (aD.add (aD.mul X (aD.mul X X)) B) (aD.mul wX wX)=aD.add (aD.mul (aD.mul X KV) (aD.mul (aD.mul X KV) (aD.mul X KV))) (aD.mul B (aD.mul wX wX)):=by
 unfold wX KV;exact aVV aD X B wE
theorem aOb {R:Type} (K:CR R) (z w:R):K.sub z w=K.neg (K.sub w z):=aE K (aW K [z,w]) (Z0-Z1) (-(Z1-Z0)) (by kernel_rfl)
theorem onT {x y:Q2} (h:y=F2.add (F2.mul m x) d):aD.mul (eQ y) wX=aD.add (aD.mul (aD.mul (eQ m) wE) (aD.mul (eQ x) KV)) (aD.mul (eQ d) wX):=by
 rw[h,BM,oX];exact aPy aD (eQ m) (eQ x) (eQ d) wE
theorem onP {a b:Fq} (h:b=F1.add (F1.mul n a) c):eP b=aD.add (aD.mul (eP n) (eP a)) (eP c):=by rw[h,SP,tI]
theorem aIr (h:Cub F1 (fm 3) a1 a2 a3 n c) (g:Cub F2 dE x1 x2 x3 m d) (h1:b1=F1.add (F1.mul n a1) c) (h2:b2=F1.add (F1.mul n a2) c) (h3:b3=F1.add (F1.mul n a3) c)
  (g1:y1=F2.add (F2.mul m x1) d) (g2:y2=F2.add (F2.mul m x2) d) (g3:y3=F2.add (F2.mul m x3) d) :
  aD.mul (lT m d a1 b1) (aD.mul (lT m d a2 b2) (lT m d a3 b3))=aD.neg (aD.mul (lP n c x1 y1) (aD.mul (lP n c x2 y2) (lP n c x3 y3))):=by
 have r:=aTW (aWN h) (aWM g);rw[←onP h1,←onP h2,←onP h3,←onT g1,←onT g2,←onT g3,←NV,←NV,←NV,←Bg,←Bg,←Bg]at r;exact r
theorem Xh (h:Cub F1 (fm 3) a1 a2 a3 n c) (g:Cub F2 dE x1 x2 x3 m d) (h1:b1=F1.add (F1.mul n a1) c) (h2:b2=F1.add (F1.mul n a2) c) (h3:b3=F1.add (F1.mul n a3) c)
  (g1:y1=F2.add (F2.mul m x1) d) (g2:y2=F2.add (F2.mul m x2) d) (g3:y3=F2.add (F2.mul m x3) d)
  (hb1:b1≠F1.zero) (hb2:b2≠F1.zero) (hb3:b3≠F1.zero) (hy1:y1≠F2.zero) (hy2:y2≠F2.zero) (hy3:y3≠F2.zero) :
  aD.mul (mC (lT m d a1 b1)) (aD.mul (mC (lT m d a2 b2)) (mC (lT m d a3 b3)))=aD.mul (mC (lP n c x1 y1)) (aD.mul (mC (lP n c x2 y2)) (mC (lP n c x3 y3))):=by
 have r:=congrArg mC (aIr h g h1 h2 h3 g1 g2 g3);rw[qV (nY (tB hy1) (nY (tB hy2) (tB hy3))),dL (rV hb1) (nY (rV hb2) (rV hb3)),dL (rV hb2) (rV hb3),dL (tB hy1) (nY (tB hy2) (tB hy3)),dL (tB hy2) (tB hy3)]at r;exact r
theorem Jv (z:Q2):eQ (F2.neg z)=aD.neg (eQ z):=by
 rw[EH];unfold eQ;simp only[z6e,wJ]
theorem Bd (h:Cub F1 (fm 3) a1 a2 a3 n c) {x y:Q2} (hp:F2.mul y y=F2.add (F2.mul x (F2.mul x x)) dE) (hy:y≠F2.zero) (h1:a1≠F1.zero) (h2:a2≠F1.zero) (h3:a3≠F1.zero) :
  aD.mul (mC (lP n c x y)) (mC (lP n c x (F2.neg y)))=aD.one:=by
 have hY:aD.mul (aD.mul (eQ y) wX) (aD.mul (eQ y) wX)=aD.add (aD.mul (aD.mul (eQ x) KV) (aD.mul (aD.mul (eQ x) KV) (aD.mul (eQ x) KV))) (eP (fm 3)):=by
  rw[←Ki,uJ aD (eQ y) wX (eQ y) wX,←oX y y,hp,BM,oX,oX];exact aQw (eQ x) (eQ dE)
 have r:=aTw (aWN h) hY;have hy':F2.neg y≠F2.zero:=fun e=>hy (by rw[←F2.neg_neg y,e,wJ])
 have e1:aD.neg (aD.mul (eQ y) wX)=aD.mul (eQ (F2.neg y)) wX:=by rw[Jv,aD.neg_mul]
 rw[e1,←Bg,←Bg,←FE,←FE,←FE]at r;have r:=congrArg mC r;rw[qV (nY (mJ h1) (nY (mJ h2) (mJ h3))),dL (tB hy) (tB hy'),dL (mJ h1) (nY (mJ h2) (mJ h3)),dL (mJ h2) (mJ h3),wK h1,wK h2,wK h3,aD.one_mul,aD.one_mul]at r;exact r
theorem Pi (g:Cub F2 dE x1 x2 x3 m d) {a b:Fq} (hp:F1.mul b b=F1.add (F1.mul a (F1.mul a a)) (fm 3)) (hb:b≠F1.zero) (ha:a≠F1.zero) :
  aD.mul (mC (lT m d a b)) (mC (lT m d a (F1.neg b)))=aD.one:=by
 have hY:aD.mul (eP b) (eP b)=aD.add (aD.mul (eP a) (aD.mul (eP a) (eP a))) (eP (fm 3)):=by rw[←tI,hp,SP,tI,tI]
 have r:=aTw (aWM g) hY;have hb':F1.neg b≠F1.zero:=fun e=>hb (by rw[←F1.neg_neg b,e,bQ])
 have e1:aD.neg (eP b)=eP (F1.neg b):=by
  unfold eP;rw[←Jv];exact congrArg eQ (Prod.ext rfl (bQ F1))
 have e2:=aOb aD;rw[e1,←NV,←NV,e2 (eP a),e2 (eP a),e2 (eP a),←FE,←FE,←FE]at r;have r:=congrArg mC r;have n1:=uF (mJ (x:=x1) ha); have n2:=uF (mJ (x:=x2) ha); have n3:=uF (mJ (x:=x3) ha);rw[qV (nY n1 (nY n2 n3)),dL (rV hb) (rV hb'),dL n1 (nY n2 n3),dL n2 n3,qV (mJ ha),qV (mJ ha),qV (mJ ha),wK ha,wK ha,wK ha,aD.one_mul,aD.one_mul]at r;exact r
end
namespace AG
variable {G:Type} (A:AG G)
theorem addz (a:G):A.add a A.zero=a:=by rw[A.comm,A.zadd]
theorem addn (a:G):A.add a (A.neg a)=A.zero:=by rw[A.comm,A.nadd]
theorem left_comm (a b c:G):A.add a (A.add b c)=A.add b (A.add a c):=by rw[←A.assoc,A.comm a b,A.assoc]
theorem cancel {a b c:G} (h:A.add a b=A.add a c):b=c:=by
 have:=congrArg (A.add (A.neg a)) h
 rwa [←A.assoc,←A.assoc,A.nadd,A.zadd,A.zadd]at this
theorem negz:A.neg A.zero=A.zero:=by apply A.cancel (a:=A.zero); rw[A.addn,A.addz]
theorem neg_add (a b:G):A.neg (A.add a b)=A.add (A.neg a) (A.neg b):=by
 apply A.cancel (a:=A.add a b);rw[A.addn,A.assoc,A.left_comm b,A.addn,A.addz,A.addn]
theorem add4 (a b c d:G):A.add (A.add a b) (A.add c d)=A.add (A.add a c) (A.add b d):=by
 rw[A.assoc,A.left_comm b,←A.assoc]
def ns:Nat→G→G
 | 0,_=>A.zero
 | n+1,g=>A.add (ns n g) g
theorem ns_add (m:Nat) (g:G):∀n,A.ns (m+n) g=A.add (A.ns m g) (A.ns n g)
 | 0=>(A.addz _).symm
 | n+1=>by show A.add (A.ns (m+n) g) g=A.add _ (A.add _ _); rw[ns_add m g n,A.assoc]
theorem ns_zero:∀n,A.ns n A.zero=A.zero
 | 0=>rfl
 | n+1=>by show A.add (A.ns n _) _=_; rw[ns_zero n,A.zadd]
theorem ns_sum (g h:G):∀n,A.ns n (A.add g h)=A.add (A.ns n g) (A.ns n h)
 | 0=>(A.zadd _).symm
 | n+1=>by show A.add (A.ns n _) _=A.add (A.add _ _) (A.add _ _); rw[ns_sum g h n,A.add4]
theorem ns_mul (m:Nat) (g:G):∀n,A.ns (m*n) g=A.ns n (A.ns m g)
 | 0=>rfl
 | n+1=>by rw[Nat.mul_add,Nat.mul_one,ns_add,ns_mul m g n]; rfl
def zs:Int→G→G
 | .ofNat n,g=>A.ns n g
 | .negSucc n,g=>A.neg (A.ns (n+1) g)
theorem zs_sub (m n:Nat) (g:G):A.zs (Int.subNatNat m n) g=A.add (A.ns m g) (A.neg (A.ns n g)):=by
 unfold Int.subNatNat;split
 ·rename_i h;have:m=n+(m-n):=by omega
  show A.ns (m-n) g=_
  conv=>rhs; rw[this,ns_add]
  rw[A.comm (A.ns n g),A.assoc,A.addn,A.addz]
 ·rename_i k h;have:n=m+(k+1):=by omega
  show A.neg (A.ns (k+1) g)=_;rw[this,ns_add A m g (k+1),A.neg_add (A.ns m g),←A.assoc,A.addn,A.zadd]
theorem zs_add (g:G) (a b:Int):A.zs (a+b) g=A.add (A.zs a g) (A.zs b g):=by
 cases a with
 | ofNat m =>
  cases b with
  | ofNat n=>exact A.ns_add m g n
  | negSucc n=>exact A.zs_sub m (n+1) g
 | negSucc m =>
  cases b with
  | ofNat n=>show A.zs (Int.subNatNat n (m+1)) g=_; rw[zs_sub,A.comm]; rfl
  | negSucc n =>
   show A.neg (A.ns (m+n+1+1) g)=A.add (A.neg (A.ns (m+1) g)) (A.neg (A.ns (n+1) g));rw[←A.neg_add,←ns_add,show m+1+(n+1)=m+n+1+1 by omega]
def sm (P:Nat→G) (c:Nat→Int):Nat→G
 | 0=>A.zero
 | n+1=>A.add (sm P c n) (A.zs (c n) (P n))
theorem sm_add (P:Nat→G) (c d:Nat→Int):∀n,A.sm P (fun i=>c i+d i) n=A.add (A.sm P c n) (A.sm P d n)
 | 0=>(A.zadd _).symm
 | n+1=>by show A.add (A.sm P _ n) (A.zs (c n+d n) (P n))=A.add (A.add _ _) (A.add _ _); rw[sm_add P c d n,zs_add,A.add4]
theorem sm_congr {P:Nat→G} {c d:Nat→Int}:∀{n},(∀i,i<n→c i=d i)→A.sm P c n=A.sm P d n
 | 0,_=>rfl
 | n+1,h=>by show A.add _ (A.zs (c n) _)=A.add _ (A.zs (d n) _); rw[sm_congr fun i hi=>h i (by omega),h n (by omega)]
theorem sm_zero (P:Nat→G):∀n,A.sm P (fun _=>0) n=A.zero
 | 0=>rfl
 | n+1=>by show A.add (A.sm P _ n) A.zero=_; rw[sm_zero P n,A.zadd]
theorem sm_two (P:Nat→G) (c:Nat→Int) (n:Nat):A.add (A.sm P c n) (A.sm P c n)=A.sm P (fun i=>2*c i) n:=by
 rw[←sm_add];exact A.sm_congr fun i _=>by omega
end AG
def vH (w:Nat):Int:=((w+1)/2:Nat)-(if 16≤w then 16 else 0:Int)
def JS (x p:Nat):Nat:=(if p=0 then x*2 else x/2^(p*4-1))%32
def hor (x PL:Nat):Nat→Int
 | 0=>0
 | i+1=>16*hor x PL i+vH (JS x (PL-1-i))
theorem aEd (x PL:Nat) (h:x<2^(4*PL-1)) (h0:0<PL):∀i,i<PL→hor x PL i=((x/2^(4*(PL-i))+x/2^(4*(PL-i)-1)%2:Nat):Int)
 | 0,_=>by
  have h1:x/2^(4*PL-1)=0:=Nat.div_eq_of_lt h;have h2:x/2^(4*PL)=0:=Nat.div_eq_of_lt (Nat.lt_of_lt_of_le h (Nat.pow_le_pow_right (by omega) (by omega)));show (0:Int)=((x/2^(4*(PL-0))+x/2^(4*(PL-0)-1)%2:Nat):Int);rw[Nat.sub_zero,h1,h2]; rfl
 | i+1,hi=>by
  have ih:=aEd x PL h h0 i (by omega);show 16*hor x PL i+vH (JS x (PL-1-i))=_;rw[ih];have hp:PL-1-i≠0:=by omega
  have e1:4*(PL-i)=(4*(PL-(i+1))-1)+5:=by omega
  have e2:4*(PL-i)-1=(4*(PL-(i+1))-1)+4:=by omega
  have e3:4*(PL-(i+1))=(4*(PL-(i+1))-1)+1:=by omega
  have e4:(PL-1-i)*4-1=4*(PL-(i+1))-1:=by omega
  unfold vH JS;rw[if_neg hp,e1,e4];rw[show (4*(PL-(i+1))-1)+5-1=(4*(PL-(i+1))-1)+4 by omega];have e5:x/2^(4*(PL-(i+1)))=x/2^(4*(PL-(i+1))-1)/2:=by
   conv=>lhs; rw[e3]
   rw[Nat.pow_add,←Nat.div_div_eq_div_mul]
  rw[e5,Nat.pow_add,Nat.pow_add,←Nat.div_div_eq_div_mul,←Nat.div_div_eq_div_mul];generalize x/2^(4*(PL-(i+1))-1)=a;show 16*((a/32+a/16%2:Nat):Int)+(((a%32+1)/2:Nat)-(if 16≤a%32 then 16 else 0:Int))=((a/2+a%2:Nat):Int);split<;>omega
theorem aKh (x PL:Nat) (h:x<2^(4*PL-1)) (h0:0<PL):hor x PL PL=x:=by
 obtain⟨k,rfl⟩:∃k,PL=k+1:=⟨PL-1,by omega⟩
 show 16*hor x (k+1) k+vH (JS x (k+1-1-k))=_;rw[aEd x (k+1) h h0 k (by omega),show k+1-1-k=0 by omega,show k+1-k=1 by omega];unfold vH JS;rw[if_pos rfl];show 16*((x/16+x/8%2:Nat):Int)+(((x*2%32+1)/2:Nat)-(if 16≤x*2%32 then 16 else 0:Int))=(x:Int);split<;>omega
section
variable {G V:Type} (A:AG G) (B:AG V)
def Yv (Q:G) (d:Int) (T:G):G:=if d=1 then A.add (A.add T T) Q else if d = -1 then A.add (A.add T T) (A.neg Q)else A.add T T
def stF (L:G→G→V) (Q:G) (d:Int) (F:V) (T:G):V:=if d=1 then B.add (B.add (B.add F F) (L T T)) (L (A.add T T) Q)else if d = -1 then B.add (B.add (B.add F F) (L T T)) (L (A.add T T) (A.neg Q))else B.add (B.add F F) (L T T)
def AA (Q:G):List Int→G→G
 | [],T=>T
 | d::ds,T=>AA Q ds (Yv A Q d T)
def aBi (L:G→G→V) (Q:G):List Int→V→G→V
 | [],F,_=>F
 | d::ds,F,T=>aBi L Q ds (stF A B L Q d F T) (Yv A Q d T)
variable {B}
end
open Go.RowKit
theorem fd2:FD F2 dW:=⟨BJ.1,fun x h=>UM fun e=>h (pT e)⟩
theorem aPQ {x:Q2} (h:x≠F2.zero):sC x≠F1.zero:=fun e=>h (pT e)
abbrev J1:=Jc Fq
abbrev J2:=Jc Q2
def nO (p:J1):List At:=[.f p.1,.f p.2.1,.f p.2.2]
def bI (p:J2):List At:=[.f p.1.1,.f p.1.2,.f p.2.1.1,.f p.2.1.2,.f p.2.2.1,.f p.2.2.2]
def rj1:List At→Option J1|[.f a,.f b,.f c]=>some (a,b,c)|_=>none
def YQ:List At→Option J2|[.f a,.f b,.f c,.f d,.f e,.f f]=>some ((a,b),(c,d),(e,f))|_=>none
theorem vV:Rd rj1 nO:=fun l x h=>by unfold rj1 at h; split at h<;>cases h; rfl
theorem iX:Rd YQ bI:=fun l x h=>by unfold YQ at h; split at h<;>cases h; rfl
theorem mW {a b:Fq} (h:a≠b):aA (e1 a)≠aA (e1 b):=fun e=>h (aRu e)
theorem cS {a b:Q2} (h:a≠b):aA (e2 a)≠aA (e2 b):=fun e=>h (aRt e)
theorem FD.inv_one {R:Type} {K:CR R} {inv:R→R} (F:FD K inv):inv K.one=K.one:=by
 have:=F.inv K.one F.ne
 rwa [K.one_mul]at this
theorem Gk (p:J1):aU prog (qG prog) (fun _=>⟨fun s=>UD true,fun s=>true,fun _=>none⟩) f236 60 [.v (.fl (nO p))]=some ([aA (e1 p.2.2)=aA (e1 F1.zero)],.one (.im (.bool true))):=by kernel_rfl
theorem Gl (p:J1):aU prog (qG prog) (fun _=>⟨fun s=>UD false,fun s=>false,fun _=>none⟩) f236 60 [.v (.fl (nO p))]=some ([aA (e1 p.2.2)≠aA (e1 F1.zero)],.one (.im (.bool false))):=by kernel_rfl
def aCY (d:Bool) (p:J1):List Prop×RV:=bif d then ([p.2.2=F1.zero],.one (.im (.bool true)))else ([p.2.2≠F1.zero],.one (.im (.bool false)))
theorem aCX (d:Bool) (p:J1) (hp:aZ (aCY d p).1) (args:List Value) (w:World) (ha:bU w [.v (.fl (nO p))] args):Good prog 236 (aCY d p).2 args w:=by
 cases d
 ·have h:p.2.2≠F1.zero:=hp.1;exact aB aG (fun _ s=>RD _) (aJ prog) func236 (Gl p) ⟨mW h,trivial⟩ ha
 ·have h:p.2.2=F1.zero:=hp.1;exact aB aG (fun _ s=>RD _) (aJ prog) func236 (Gk p) ⟨by rw[h],trivial⟩ ha
def UG (d:Bool):Tab:=(UD d).add 236 (g1 rj1 (aCY d))
theorem RH (d:Bool):TabOk prog (UG d):=(RD d).ad func236 (bJ vV fun p hp args w ha=>aCX d p hp args w ha)
theorem Ev (d:Bool) (p:J1) (b:Fq):aU prog (qG prog) (fun _=>⟨fun s=>UG d,fun s=>true,fun _=>none⟩) f239 60 [.v (.fl (nO p)),.v (.fl (e1 b))]=some ([aA (e1 p.2.2)=aA (e1 F1.one)],.one (.fl (e1 b))):=by kernel_rfl
theorem Ew (d:Bool) (p:J1) (b:Fq):aU prog (qG prog) (fun _=>⟨fun s=>UG d,fun s=>false,fun _=>none⟩) f239 60 [.v (.fl (nO p)),.v (.fl (e1 b))]=some ([aA (e1 p.2.2)≠aA (e1 F1.one)],.one (.fl (e1 (F1.mul b p.2.2)))):=by kernel_rfl
theorem aHj (d:Bool) (p:J1) (b:Fq) (args:List Value) (w:World) (ha:bU w [.v (.fl (nO p)),.v (.fl (e1 b))] args):Good prog 239 (.one (.fl (e1 (F1.mul b p.2.2)))) args w:=by
 by_cases h:p.2.2=F1.one
 ·rw[h,F1.mul_one];exact aB aG (fun _ s=>RH _) (aJ prog) func239 (Ev d p b) ⟨by rw[h],trivial⟩ ha
 ·exact aB aG (fun _ s=>RH _) (aJ prog) func239 (Ew d p b) ⟨mW h,trivial⟩ ha
def TQ (d:Bool):Tab:=(UG d).add 239 (g2 rj1 Mp fun p b=>([],.one (.fl (e1 (F1.mul b p.2.2)))))
theorem RB (d:Bool):TabOk prog (TQ d):=(RH d).ad func239 (fS vV lY fun p b hp args w ha=>aHj d p b args w ha)
theorem Hd (d:Bool) (p q:J1):aU prog (qG prog) (fun _=>⟨fun s=>TQ d,fun s=>true,fun _=>none⟩) f234 60 [.v (.fl (nO p)),.v (.fl (nO q))]=some ([aA (e1 q.2.2)=aA (e1 F1.one)],.many [.fl (e1 (p.1)),.fl (e1 (p.2.1))]):=by kernel_rfl
theorem He (d:Bool) (p q:J1):aU prog (qG prog) (fun _=>⟨fun s=>TQ d,fun s=>false,fun _=>none⟩) f234 60 [.v (.fl (nO p)),.v (.fl (nO q))]=some ([aA (e1 q.2.2)≠aA (e1 F1.one)],.many [.fl (e1 (EL F1 p q)),.fl (e1 (CS F1 p q))]):=by kernel_rfl
theorem aLf (d:Bool) (p q:J1) (args:List Value) (w:World) (ha:bU w [.v (.fl (nO p)),.v (.fl (nO q))] args):Good prog 234 (.many [.fl (e1 (EL F1 p q)),.fl (e1 (CS F1 p q))]) args w:=by
 by_cases h:q.2.2=F1.one
 ·have hx:EL F1 p q=p.1:=by unfold EL; rw[h,F1.mul_one,F1.mul_one]
  have hy:CS F1 p q=p.2.1:=by unfold CS; rw[h,F1.mul_one,F1.mul_one,F1.mul_one]
  rw[hx,hy];exact aB aG (fun _ s=>RB _) (aJ prog) func234 (Hd d p q) ⟨by rw[h],trivial⟩ ha
 ·exact aB aG (fun _ s=>RB _) (aJ prog) func234 (He d p q) ⟨mW h,trivial⟩ ha
def Lg (d:Bool):Tab:=(TQ d).add 234 (g2 rj1 rj1 fun p q=>([],.many [.fl (e1 (EL F1 p q)),.fl (e1 (CS F1 p q))]))
theorem Ol (d:Bool):TabOk prog (Lg d):=(RB d).ad func234 (fS vV vV fun p q hp args w ha=>aLf d p q args w ha)
theorem aBc (d:Bool) (p:J1):aU prog (qG prog) (fun _=>⟨fun s=>Lg d,fun s=>true,fun _=>none⟩) f235 60 [.v (.fl (nO p))]=some ([],.one (.fl (nO (cN F1 p)))):=by kernel_rfl
def xC (d:Bool):Tab:=(Lg d).add 235 (g1 rj1 fun p=>([],.one (.fl (nO (cN F1 p)))))
theorem uD (d:Bool):TabOk prog (xC d):=(Ol d).ad func235 (bJ vV fun p hp args w ha=>aB aG (fun _ s=>Ol _) (aJ prog) func235 (aBc d p) trivial ha)
theorem XP (p q:J1):aU prog (qG prog) (fun _=>⟨fun s=>xC (bif Nat.beq s 18 then true else false),fun s=>true,fun _=>none⟩) f238 80 [.v (.fl (nO p)),.v (.fl (nO q))]=some ([p.2.2=F1.zero],.one (.fl (nO q))):=by kernel_rfl
theorem XO (p q:J1):aU prog (qG prog) (fun _=>⟨fun s=>xC (bif Nat.beq s 18 then false else true),fun s=>true,fun _=>none⟩) f238 80 [.v (.fl (nO p)),.v (.fl (nO q))]=some ([p.2.2≠F1.zero,q.2.2=F1.zero],.one (.fl (nO p))):=by kernel_rfl
theorem XN (p q:J1):aU prog (qG prog) (fun _=>⟨fun s=>xC (bif Nat.beq s 18 then false else false),fun s=>true,fun _=>none⟩) f238 80 [.v (.fl (nO p)),.v (.fl (nO q))]=some ([p.2.2≠F1.zero,q.2.2≠F1.zero,aA (e1 (vC F1 p q))=aA (e1 F1.zero),aA (e1 (NW F1 p q))=aA (e1 F1.zero)],.one (.fl (nO (cN F1 p)))):=by kernel_rfl
theorem XM (p q:J1):aU prog (qG prog) (fun _=>⟨fun s=>xC (bif Nat.beq s 18 then false else false),fun s=>false,fun _=>none⟩) f238 80 [.v (.fl (nO p)),.v (.fl (nO q))]=some ([p.2.2≠F1.zero,q.2.2≠F1.zero,aA (e1 (vC F1 p q))≠aA (e1 F1.zero)],.one (.fl (nO (DN F1 p q)))):=by kernel_rfl
theorem XL (p q:J1):aU prog (qG prog) (fun _=>⟨fun s=>xC (bif Nat.beq s 18 then false else false),fun s => !(Nat.beq s 49),fun _=>none⟩) f238 80 [.v (.fl (nO p)),.v (.fl (nO q))]=some ([p.2.2≠F1.zero,q.2.2≠F1.zero,aA (e1 (vC F1 p q))=aA (e1 F1.zero),aA (e1 (NW F1 p q))≠aA (e1 F1.zero)],.one (.fl (nO (DN F1 p q)))):=by kernel_rfl
theorem aBT (d:Bool) (p q:J1) (args:List Value) (w:World) (ha:bU w [.v (.fl (nO p)),.v (.fl (nO q))] args):Good prog 238 (.one (.fl (nO (jX F1 p q)))) args w:=by
 unfold jX
 by_cases h1:p.2.2=F1.zero
 ·rw[if_pos h1];exact aB aG (fun _ s=>uD _) (aJ prog) func238 (XP p q) ⟨h1,trivial⟩ ha
 ·rw[if_neg h1]
  by_cases h2:q.2.2=F1.zero
  ·rw[if_pos h2];exact aB aG (fun _ s=>uD _) (aJ prog) func238 (XO p q) ⟨h1,h2,trivial⟩ ha
  ·rw[if_neg h2]
   by_cases h3:vC F1 p q=F1.zero
   ·by_cases h4:NW F1 p q=F1.zero
    ·rw[if_pos ⟨h3,h4⟩];exact aB aG (fun _ s=>uD _) (aJ prog) func238 (XN p q) ⟨h1,h2,by rw[h3],by rw[h4],trivial⟩ ha
    ·rw[if_neg (fun h=>h4 h.2)];exact aB aG (fun _ s=>uD _) (aJ prog) func238 (XL p q) ⟨h1,h2,by rw[h3],mW h4,trivial⟩ ha
   ·rw[if_neg (fun h=>h3 h.1)];exact aB aG (fun _ s=>uD _) (aJ prog) func238 (XM p q) ⟨h1,h2,mW h3,trivial⟩ ha
def EU (d:Bool):Tab:=(xC d).add 238 (g2 rj1 rj1 fun p q=>([],.one (.fl (nO (jX F1 p q)))))
theorem GZ (d:Bool):TabOk prog (EU d):=(uD d).ad func238 (fS vV vV fun p q hp args w ha=>aBT d p q args w ha)
theorem Gi (p:J2):aU prog (qG prog) (fun _=>⟨fun s=>EU true,fun s=>true,fun _=>none⟩) f183 60 [.v (.fl (bI p))]=some ([aA (e2 p.2.2)=aA (e2 F2.zero)],.one (.im (.bool true))):=by kernel_rfl
theorem Gj (p:J2):aU prog (qG prog) (fun _=>⟨fun s=>EU false,fun s=>false,fun _=>none⟩) f183 60 [.v (.fl (bI p))]=some ([aA (e2 p.2.2)≠aA (e2 F2.zero)],.one (.im (.bool false))):=by kernel_rfl
def aCW (d:Bool) (p:J2):List Prop×RV:=bif d then ([p.2.2=F2.zero],.one (.im (.bool true)))else ([p.2.2≠F2.zero],.one (.im (.bool false)))
theorem aCV (d:Bool) (p:J2) (hp:aZ (aCW d p).1) (args:List Value) (w:World) (ha:bU w [.v (.fl (bI p))] args):Good prog 183 (aCW d p).2 args w:=by
 cases d
 ·have h:p.2.2≠F2.zero:=hp.1;exact aB aG (fun _ s=>GZ _) (aJ prog) func183 (Gj p) ⟨cS h,trivial⟩ ha
 ·have h:p.2.2=F2.zero:=hp.1;exact aB aG (fun _ s=>GZ _) (aJ prog) func183 (Gi p) ⟨by rw[h],trivial⟩ ha
def UF (d:Bool):Tab:=(EU d).add 183 (g1 YQ (aCW d))
theorem RG (d:Bool):TabOk prog (UF d):=(GZ d).ad func183 (bJ iX fun p hp args w ha=>aCV d p hp args w ha)
theorem Et (d:Bool) (p:J2) (b:Q2):aU prog (qG prog) (fun _=>⟨fun s=>UF d,fun s=>true,fun _=>none⟩) f202 60 [.v (.fl (bI p)),.v (.fl (e2 b))]=some ([aA (e2 p.2.2)=aA (e2 F2.one)],.one (.fl (e2 b))):=by kernel_rfl
theorem Eu (d:Bool) (p:J2) (b:Q2):aU prog (qG prog) (fun _=>⟨fun s=>UF d,fun s=>false,fun _=>none⟩) f202 60 [.v (.fl (bI p)),.v (.fl (e2 b))]=some ([aA (e2 p.2.2)≠aA (e2 F2.one)],.one (.fl (e2 (F2.mul b p.2.2)))):=by kernel_rfl
theorem aHi (d:Bool) (p:J2) (b:Q2) (args:List Value) (w:World) (ha:bU w [.v (.fl (bI p)),.v (.fl (e2 b))] args):Good prog 202 (.one (.fl (e2 (F2.mul b p.2.2)))) args w:=by
 by_cases h:p.2.2=F2.one
 ·rw[h,F2.mul_one];exact aB aG (fun _ s=>RG _) (aJ prog) func202 (Et d p b) ⟨by rw[h],trivial⟩ ha
 ·exact aB aG (fun _ s=>RG _) (aJ prog) func202 (Eu d p b) ⟨cS h,trivial⟩ ha
def TP (d:Bool):Tab:=(UF d).add 202 (g2 YQ LK fun p b=>([],.one (.fl (e2 (F2.mul b p.2.2)))))
theorem RA (d:Bool):TabOk prog (TP d):=(RG d).ad func202 (fS iX gE fun p b hp args w ha=>aHi d p b args w ha)
theorem Hb (d:Bool) (p q:J2):aU prog (qG prog) (fun _=>⟨fun s=>TP d,fun s=>true,fun _=>none⟩) f201 60 [.v (.fl (bI p)),.v (.fl (bI q))]=some ([aA (e2 q.2.2)=aA (e2 F2.one)],.many [.fl (e2 (p.1)),.fl (e2 (p.2.1))]):=by kernel_rfl
theorem Hc (d:Bool) (p q:J2):aU prog (qG prog) (fun _=>⟨fun s=>TP d,fun s=>false,fun _=>none⟩) f201 60 [.v (.fl (bI p)),.v (.fl (bI q))]=some ([aA (e2 q.2.2)≠aA (e2 F2.one)],.many [.fl (e2 (EL F2 p q)),.fl (e2 (CS F2 p q))]):=by kernel_rfl
theorem aLe (d:Bool) (p q:J2) (args:List Value) (w:World) (ha:bU w [.v (.fl (bI p)),.v (.fl (bI q))] args):Good prog 201 (.many [.fl (e2 (EL F2 p q)),.fl (e2 (CS F2 p q))]) args w:=by
 by_cases h:q.2.2=F2.one
 ·have hx:EL F2 p q=p.1:=by unfold EL; rw[h,F2.mul_one,F2.mul_one]
  have hy:CS F2 p q=p.2.1:=by unfold CS; rw[h,F2.mul_one,F2.mul_one,F2.mul_one]
  rw[hx,hy];exact aB aG (fun _ s=>RA _) (aJ prog) func201 (Hb d p q) ⟨by rw[h],trivial⟩ ha
 ·exact aB aG (fun _ s=>RA _) (aJ prog) func201 (Hc d p q) ⟨cS h,trivial⟩ ha
def Lf (d:Bool):Tab:=(TP d).add 201 (g2 YQ YQ fun p q=>([],.many [.fl (e2 (EL F2 p q)),.fl (e2 (CS F2 p q))]))
theorem Oj (d:Bool):TabOk prog (Lf d):=(RA d).ad func201 (fS iX iX fun p q hp args w ha=>aLe d p q args w ha)
theorem aBb (d:Bool) (p:J2):aU prog (qG prog) (fun _=>⟨fun s=>Lf d,fun s=>true,fun _=>none⟩) f200 60 [.v (.fl (bI p))]=some ([],.one (.fl (bI (cN F2 p)))):=by kernel_rfl
def Le (d:Bool):Tab:=(Lf d).add 200 (g1 YQ fun p=>([],.one (.fl (bI (cN F2 p)))))
theorem Oi (d:Bool):TabOk prog (Le d):=(Oj d).ad func200 (bJ iX fun p hp args w ha=>aB aG (fun _ s=>Oj _) (aJ prog) func200 (aBb d p) trivial ha)
theorem aAY (d:Bool) (p:J2):aU prog (qG prog) (fun _=>⟨fun s=>Le d,fun s=>true,fun _=>none⟩) f148 60 [.v (.fl (bI p))]=some ([],.one (.fl (bI (BE F2 p)))):=by kernel_rfl
def KL (d:Bool):Tab:=(Le d).add 148 (g1 YQ fun p=>([],.one (.fl (bI (BE F2 p)))))
theorem EF (d:Bool):TabOk prog (KL d):=(Oi d).ad func148 (bJ iX fun p hp args w ha=>aB aG (fun _ s=>Oi _) (aJ prog) func148 (aAY d p) trivial ha)
theorem VZ (p:J2):aU prog (qG prog) (fun _=>⟨fun s=>KL true,fun s=>true,fun _=>none⟩) f175 60 [.v (.fl (bI p))]=some ([p.2.2=F2.zero],.many [.fl (e2 F2.zero),.fl (e2 F2.zero),.im (.bool true)]):=by kernel_rfl
theorem VY (p:J2):aU prog (qG prog) (fun _=>⟨fun s=>KL false,fun s=>true,fun _=>none⟩) f175 60 [.v (.fl (bI p))]=some ([p.2.2≠F2.zero,aA (e2 p.2.2)=aA (e2 F2.one)],.many [.fl (e2 p.1),.fl (e2 p.2.1),.im (.bool false)]):=by kernel_rfl
theorem WA (p:J2):aU prog (qG prog) (fun _=>⟨fun s=>KL false,fun s=>false,fun _=>none⟩) f175 60 [.v (.fl (bI p))]=some ([p.2.2≠F2.zero,aA (e2 p.2.2)≠aA (e2 F2.one),sC p.2.2≠F1.zero],.many [.fl (e2 (F2.mul p.1 (F2.mul (dW p.2.2) (dW p.2.2)))),.fl (e2 (F2.mul p.2.1 (F2.mul (F2.mul (dW p.2.2) (dW p.2.2)) (dW p.2.2)))),.im (.bool false)]):=by kernel_rfl
def Ij (d:Bool) (p:J2):List Prop×RV:=bif d then ([p.2.2=F2.zero],.many [.fl (e2 F2.zero),.fl (e2 F2.zero),.im (.bool true)])else ([p.2.2≠F2.zero],.many [.fl (e2 (F2.mul p.1 (F2.mul (dW p.2.2) (dW p.2.2)))),.fl (e2 (F2.mul p.2.1 (F2.mul (F2.mul (dW p.2.2) (dW p.2.2)) (dW p.2.2)))),.im (.bool false)])
theorem Wz (d:Bool) (p:J2) (hp:aZ (Ij d p).1) (args:List Value) (w:World) (ha:bU w [.v (.fl (bI p))] args):Good prog 175 (Ij d p).2 args w:=by
 cases d
 ·have h:p.2.2≠F2.zero:=hp.1;show Good _ _ (.many [.fl (e2 (F2.mul p.1 (F2.mul (dW p.2.2) (dW p.2.2)))),.fl (e2 (F2.mul p.2.1 (F2.mul (F2.mul (dW p.2.2) (dW p.2.2)) (dW p.2.2)))),.im (.bool false)]) _ _
  by_cases h1:p.2.2=F2.one
  ·have hi:dW p.2.2=F2.one:=by rw[h1]; exact fd2.inv_one
   rw[hi,F2.mul_one,F2.mul_one,F2.mul_one,F2.mul_one];exact aB aG (fun _ s=>EF _) (aJ prog) func175 (VY p) ⟨h,by rw[h1],trivial⟩ ha
  ·exact aB aG (fun _ s=>EF _) (aJ prog) func175 (WA p) ⟨h,cS h1,aPQ h,trivial⟩ ha
 ·exact aB aG (fun _ s=>EF _) (aJ prog) func175 (VZ p) hp ha
def rP (d:Bool):Tab:=(KL d).add 175 (g1 YQ (Ij d))
theorem pQ (d:Bool):TabOk prog (rP d):=(EF d).ad func175 (bJ iX fun p hp args w ha=>Wz d p hp args w ha)
theorem XK (p q:J2):aU prog (qG prog) (fun _=>⟨fun s=>rP (bif Nat.beq s 18 then true else false),fun s=>true,fun _=>none⟩) f187 80 [.v (.fl (bI p)),.v (.fl (bI q))]=some ([p.2.2=F2.zero],.one (.fl (bI q))):=by kernel_rfl
theorem XJ (p q:J2):aU prog (qG prog) (fun _=>⟨fun s=>rP (bif Nat.beq s 18 then false else true),fun s=>true,fun _=>none⟩) f187 80 [.v (.fl (bI p)),.v (.fl (bI q))]=some ([p.2.2≠F2.zero,q.2.2=F2.zero],.one (.fl (bI p))):=by kernel_rfl
theorem XI (p q:J2):aU prog (qG prog) (fun _=>⟨fun s=>rP (bif Nat.beq s 18 then false else false),fun s=>true,fun _=>none⟩) f187 80 [.v (.fl (bI p)),.v (.fl (bI q))]=some ([p.2.2≠F2.zero,q.2.2≠F2.zero,aA (e2 (vC F2 p q))=aA (e2 F2.zero),aA (e2 (NW F2 p q))=aA (e2 F2.zero)],.one (.fl (bI (cN F2 p)))):=by kernel_rfl
theorem XH (p q:J2):aU prog (qG prog) (fun _=>⟨fun s=>rP (bif Nat.beq s 18 then false else false),fun s=>false,fun _=>none⟩) f187 80 [.v (.fl (bI p)),.v (.fl (bI q))]=some ([p.2.2≠F2.zero,q.2.2≠F2.zero,aA (e2 (vC F2 p q))≠aA (e2 F2.zero)],.one (.fl (bI (DN F2 p q)))):=by kernel_rfl
theorem XG (p q:J2):aU prog (qG prog) (fun _=>⟨fun s=>rP (bif Nat.beq s 18 then false else false),fun s => !(Nat.beq s 49),fun _=>none⟩) f187 80 [.v (.fl (bI p)),.v (.fl (bI q))]=some ([p.2.2≠F2.zero,q.2.2≠F2.zero,aA (e2 (vC F2 p q))=aA (e2 F2.zero),aA (e2 (NW F2 p q))≠aA (e2 F2.zero)],.one (.fl (bI (DN F2 p q)))):=by kernel_rfl
theorem aBS (d:Bool) (p q:J2) (args:List Value) (w:World) (ha:bU w [.v (.fl (bI p)),.v (.fl (bI q))] args):Good prog 187 (.one (.fl (bI (jX F2 p q)))) args w:=by
 unfold jX
 by_cases h1:p.2.2=F2.zero
 ·rw[if_pos h1];exact aB aG (fun _ s=>pQ _) (aJ prog) func187 (XK p q) ⟨h1,trivial⟩ ha
 ·rw[if_neg h1]
  by_cases h2:q.2.2=F2.zero
  ·rw[if_pos h2];exact aB aG (fun _ s=>pQ _) (aJ prog) func187 (XJ p q) ⟨h1,h2,trivial⟩ ha
  ·rw[if_neg h2]
   by_cases h3:vC F2 p q=F2.zero
   ·by_cases h4:NW F2 p q=F2.zero
    ·rw[if_pos ⟨h3,h4⟩];exact aB aG (fun _ s=>pQ _) (aJ prog) func187 (XI p q) ⟨h1,h2,by rw[h3],by rw[h4],trivial⟩ ha
    ·rw[if_neg (fun h=>h4 h.2)];exact aB aG (fun _ s=>pQ _) (aJ prog) func187 (XG p q) ⟨h1,h2,by rw[h3],cS h4,trivial⟩ ha
   ·rw[if_neg (fun h=>h3 h.1)];exact aB aG (fun _ s=>pQ _) (aJ prog) func187 (XH p q) ⟨h1,h2,cS h3,trivial⟩ ha
def mX (d:Bool):Tab:=(rP d).add 187 (g2 YQ YQ fun p q=>([],.one (.fl (bI (jX F2 p q)))))
theorem lK (d:Bool):TabOk prog (mX d):=(pQ d).ad func187 (fS iX iX fun p q hp args w ha=>aBS d p q args w ha)
theorem Lt (x:Nat):w4 x=w4 (wv x):=by
 obtain⟨e0,e1,e2,e3⟩:=pW (cQ x) (show wv x<115792089237316195423570985008687907853269984665640564039457584007913129639936 by
  have h:=cQ x;obtain⟨h0,h1,h2,h3⟩:=h;unfold wv aC; omega) rfl
 unfold w4;rw[e0,e1,e2,e3]
theorem q_f {x:Nat} (h:wv x<FP.M):aA [.q x]=aA [.f (m1 x)]:=by
 show w4 x++[]=w4 (m1 x).1++[];rw[Lt x];show w4 (wv x)++[]=w4 (wv x%FP.M)++[];rw[Nat.mod_eq_of_lt h]
theorem NZ (a:At) (l:List At):aA (a::l)=aA [a]++aA l:=by show a.cells++aA l=(a.cells++[])++aA l; rw[List.append_nil]
theorem DT {x y:Nat} (h:w4 x=w4 y):wv x=wv y:=by
 unfold w4 at h;simp only[List.cons.injEq,Value.int.injEq,true_and,and_true,Int.ofNat_inj]at h;unfold wv;rw[h.1,h.2.1,h.2.2.1,h.2.2.2]
theorem cW {x:Nat}:aA [.q x]=aA (e1 F1.zero)↔wv x=0:=by
 constructor
 ·intro h;have h':w4 x++[]=w4 0++[]:=h;rw[List.append_nil,List.append_nil]at h';rw[DT h']; decide
 ·intro h;show w4 x++[]=w4 0++[];rw[Lt x,h]
theorem cG {x:N2}:aA (q2 x)=aA (e2 F2.zero)↔wv x.1=0∧wv x.2=0:=by
 constructor
 ·intro h;have h':w4 x.1++(w4 x.2++[])=w4 0++(w4 0++[]):=h;obtain⟨h1,h2⟩:=List.append_inj h' rfl;rw[List.append_nil,List.append_nil]at h2;exact⟨by rw[DT h1]; decide,by rw[DT h2]; decide⟩
 ·rintro⟨h1,h2⟩
  show w4 x.1++(w4 x.2++[])=w4 0++(w4 0++[]);rw[Lt x.1,Lt x.2,h1,h2]
theorem Good.congr {P:Program} {f:FuncId} {r r':RV} {args:List Value} {w:World} (h:Good P f r args w) (e:r.den=r'.den):Good P f r' args w:=by
 unfold Good at h ⊢;rw[←e];exact h
def ET (x:Nat):Prop:=wv x<FP.M
def rM (x:N2):Prop:=wv x.1<FP.M∧wv x.2<FP.M
def Dd (x:Nat):Prop:=wv x=0
def KW (x:N2):Prop:=wv x.1=0∧wv x.2=0
theorem aMW {x:Nat} (h:ET x):aA (q1 x)=aA (e1 (m1 x)):=q_f h
theorem Sa {x:N2} (h:rM x):aA (q2 x)=aA (e2 (m2 x)):=by
 show aA (.q x.1::[.q x.2])=aA (.f (m1 x.1)::[.f (m1 x.2)]);rw[NZ,NZ (.f _),q_f h.1,q_f h.2]
theorem NL {c:Int} (h:c≠0):aH .neq .i64 c 0=some (.bool true):=by
 show some (Value.bool (c != 0))=_;rw[bne_iff_ne.2 h]
theorem NM {c:Int} (h:c=0):aH .neq .i64 c 0=some (.bool false):=by rw[h]; rfl
open Classical in
theorem aFt:∃g:Nat→Nat→Bool→Int×J1,∀x y i,g x y i=if i=true then (if Dd x∧Dd y then (0,(F1.zero,F1.zero,F1.zero))else (44,(F1.zero,F1.zero,F1.zero)))else if ¬(ET x∧ET y)then (21,(F1.zero,F1.zero,F1.zero))else if F1.mul (m1 y) (m1 y)=F1.add (F1.mul (F1.mul (m1 x) (m1 x)) (m1 x)) (fm 3)then (0,(m1 x,m1 y,F1.one))else (41,(F1.zero,F1.zero,F1.zero)):=⟨_,fun _ _ _=>rfl⟩
def zO:Nat→Nat→Bool→Int×J1:=Classical.choose aFt
open Classical in
theorem JO (x y:Nat) (i:Bool):zO x y i=if i=true then (if Dd x∧Dd y then (0,(F1.zero,F1.zero,F1.zero))else (44,(F1.zero,F1.zero,F1.zero)))else if ¬(ET x∧ET y)then (21,(F1.zero,F1.zero,F1.zero))else if F1.mul (m1 y) (m1 y)=F1.add (F1.mul (F1.mul (m1 x) (m1 x)) (m1 x)) (fm 3)then (0,(m1 x,m1 y,F1.one))else (41,(F1.zero,F1.zero,F1.zero)):=Classical.choose_spec aFt x y i
theorem Vk (x y:Nat):aU prog (qG prog) (fun _=>⟨fun s=>mX (bif Nat.beq s 28 then true else bif Nat.beq s 33 then true else true),fun s=>false,fun _=>none⟩) f125 80 [.v (.fl (q1 x)),.v (.fl (q1 y)),.v (.im (.bool true))]=some ([aA (q1 x)≠aA (e1 F1.zero)],.many [.fl (nO (F1.zero,F1.zero,F1.zero)),.im (.int .i64 44)]):=by kernel_rfl
theorem Vj (x y:Nat):aU prog (qG prog) (fun _=>⟨fun s=>mX (bif Nat.beq s 28 then true else bif Nat.beq s 33 then true else true),fun s => !(Nat.beq s 18),fun _=>none⟩) f125 80 [.v (.fl (q1 x)),.v (.fl (q1 y)),.v (.im (.bool true))]=some ([aA (q1 x)=aA (e1 F1.zero),aA (q1 y)≠aA (e1 F1.zero)],.many [.fl (nO (F1.zero,F1.zero,F1.zero)),.im (.int .i64 44)]):=by kernel_rfl
theorem Vi (x y:Nat):aU prog (qG prog) (fun _=>⟨fun s=>mX (bif Nat.beq s 28 then true else bif Nat.beq s 33 then true else true),fun s=>true,fun _=>none⟩) f125 80 [.v (.fl (q1 x)),.v (.fl (q1 y)),.v (.im (.bool true))]=some ([aA (q1 x)=aA (e1 F1.zero),aA (q1 y)=aA (e1 F1.zero)],.many [.fl (nO (F1.zero,F1.zero,F1.zero)),.im (.int .i64 0)]):=by kernel_rfl
theorem Vh (x y:Nat):aU prog (qG prog) (fun _=>⟨fun s=>mX (bif Nat.beq s 28 then false else bif Nat.beq s 33 then true else true),fun s=>true,fun _=>none⟩) f125 80 [.v (.fl (q1 x)),.v (.fl (q1 y)),.v (.im (.bool false))]=some ([¬wv x<FP.M],.many [.fl (nO (F1.zero,F1.zero,F1.zero)),.im (.int .i64 21)]):=by kernel_rfl
theorem Vg (x y:Nat):aU prog (qG prog) (fun _=>⟨fun s=>mX (bif Nat.beq s 28 then true else bif Nat.beq s 33 then false else true),fun s=>true,fun _=>none⟩) f125 80 [.v (.fl (q1 x)),.v (.fl (q1 y)),.v (.im (.bool false))]=some ([wv x<FP.M,¬wv y<FP.M],.many [.fl (nO (F1.zero,F1.zero,F1.zero)),.im (.int .i64 21)]):=by kernel_rfl
theorem Vf (x y:Nat):aU prog (qG prog) (fun _=>⟨fun s=>mX (bif Nat.beq s 28 then true else bif Nat.beq s 33 then true else true),fun s=>false,fun _=>none⟩) f125 80 [.v (.fl (q1 x)),.v (.fl (q1 y)),.v (.im (.bool false))]=some ([wv x<FP.M,wv y<FP.M,wv y<FP.M,wv y<FP.M,wv x<FP.M,wv x<FP.M,wv x<FP.M,aA (e1 (F1.mul (m1 y) (m1 y)))≠aA (e1 (F1.add (F1.mul (F1.mul (m1 x) (m1 x)) (m1 x)) (fm 3)))],.many [.fl (nO (F1.zero,F1.zero,F1.zero)),.im (.int .i64 41)]):=by kernel_rfl
theorem Ve (x y:Nat):aU prog (qG prog) (fun _=>⟨fun s=>mX (bif Nat.beq s 28 then true else bif Nat.beq s 33 then true else true),fun s=>true,fun _=>none⟩) f125 80 [.v (.fl (q1 x)),.v (.fl (q1 y)),.v (.im (.bool false))]=some ([wv x<FP.M,wv y<FP.M,wv y<FP.M,wv y<FP.M,wv x<FP.M,wv x<FP.M,wv x<FP.M,aA (e1 (F1.mul (m1 y) (m1 y)))=aA (e1 (F1.add (F1.mul (F1.mul (m1 x) (m1 x)) (m1 x)) (fm 3)))],.many [.fl (q1 x++(q1 y++e1 F1.one)),.im (.int .i64 0)]):=by kernel_rfl
theorem aRQ (x y:Nat) (i:Bool) (args:List Value) (w:World) (ha:bU w [.v (.fl (q1 x)),.v (.fl (q1 y)),.v (.im (.bool i))] args):Good prog 125 (.many [.fl (nO (zO x y i).2),.im (.int .i64 (zO x y i).1)]) args w:=by
 rw[JO];cases i with
 | true =>
  rw[if_pos rfl]
  by_cases hx:Dd x
  ·by_cases hy:Dd y
   ·rw[if_pos ⟨hx,hy⟩];exact aB aG (fun _ s=>lK _) (aJ prog) func125 (Vi x y) ⟨cW.2 hx,cW.2 hy,trivial⟩ ha
   ·rw[if_neg (fun h=>hy h.2)];exact aB aG (fun _ s=>lK _) (aJ prog) func125 (Vj x y) ⟨cW.2 hx,fun h=>hy (cW.1 h),trivial⟩ ha
  ·rw[if_neg (fun h=>hx h.1)];exact aB aG (fun _ s=>lK _) (aJ prog) func125 (Vk x y) ⟨fun h=>hx (cW.1 h),trivial⟩ ha
 | false =>
  rw[if_neg (by simp)]
  by_cases hx:ET x
  ·by_cases hy:ET y
   ·rw[if_neg (fun h=>h ⟨hx,hy⟩)]
    by_cases h:F1.mul (m1 y) (m1 y)=F1.add (F1.mul (F1.mul (m1 x) (m1 x)) (m1 x)) (fm 3)
    ·rw[if_pos h];refine Good.congr (r:=.many [.fl (q1 x++(q1 y++e1 F1.one)),.im (.int .i64 0)]) ?_ ?_
     ·exact aB aG (fun _ s=>lK _) (aJ prog) func125 (Ve x y) ⟨hx,hy,hy,hy,hx,hx,hx,by rw[h],trivial⟩ ha
     ·have e:aA (q1 x++(q1 y++e1 F1.one))=aA (nO (m1 x,m1 y,F1.one)):=by
       rw[aP,aP,aMW hx,aMW hy];rfl
      show Value.tuple #[.agg (aA _).toArray,_]=.tuple #[.agg (aA _).toArray,_];rw[e]
    ·rw[if_neg h];exact aB aG (fun _ s=>lK _) (aJ prog) func125 (Vf x y) ⟨hx,hy,hy,hy,hx,hx,hx,mW h,trivial⟩ ha
   ·rw[if_pos (fun h=>hy h.2)];exact aB aG (fun _ s=>lK _) (aJ prog) func125 (Vg x y) ⟨hx,hy,trivial⟩ ha
  ·rw[if_pos (fun h=>hx h.1)];exact aB aG (fun _ s=>lK _) (aJ prog) func125 (Vh x y) ⟨hx,trivial⟩ ha
def aQU:kI
 | [.v (.fl l),.v (.fl m),.v (.im (.bool i))]=>match LI l,LI m with
  | some x,some y=>some ([],.many [.fl (nO (zO x y i).2),.im (.int .i64 (zO x y i).1)])
  | _,_=>none
 | _=>none
theorem aKu:∀cs pre r,aQU cs=some (pre,r)→aZ pre→∀(args:List Value) (w:World),bU w cs args→Good prog 125 r args w:=by
 intro cs pre r hg hp args w ha;unfold aQU at hg;split at hg
 ·rename_i l m i;split at hg
  ·rename_i x y hx hy;cases hg;refine aRQ x y i args w ?_
   match args,ha with
   | [u,v,t],ha =>
    refine⟨?_,?_,ha.2.2⟩
    ·show u=.agg (aA (q1 x)).toArray;rw[←gD l x hx]; exact ha.1
    ·show v=.agg (aA (q1 y)).toArray;rw[←gD m y hy]; exact ha.2.1
   | [],ha=>exact ha.elim
   | [_],ha=>exact ha.2.elim
   | [_,_],ha=>exact ha.2.2.elim
   | _::_::_::_::_,ha=>exact ha.2.2.2.elim
  ·cases hg
 ·cases hg
def aGr (d:Bool):Tab:=(mX d).add 125 aQU
theorem aCE (d:Bool):TabOk prog (aGr d):=(lK d).ad func125 aKu
abbrev iU:=Nat×Nat×Bool
def eK (p:iU):List At:=[.q p.1,.q p.2.1,.c (.bool p.2.2)]
def rg1:List At→Option iU
 | [a,b,.c (.bool i)]=>match Az a,Az b with|some x,some y=>some (x,y,i)|_,_=>none
 | _=>none
theorem mY {a:At} {x:Nat} (h:Az a=some x):a.cells=w4 x:=by cases a<;>cases h<;>rfl
theorem AF:Rd rg1 eK:=fun l x h=>by
 unfold rg1 at h;split at h
 ·split at h
  ·rename_i x y h1 h2;cases h;show _++(_++_)=w4 _++(w4 _++_);rw[mY h1,mY h2]
  ·cases h
 ·cases h
def uY {R:Type}:Pt R→Bool|none=>true|some _=>false
def ptX {R:Type} (K:CR R):Pt R→R|none=>K.zero|some p=>p.1
def ptY {R:Type} (K:CR R):Pt R→R|none=>K.zero|some p=>p.2
def nZ (p:Pt Fq):List At:=[.f (ptX F1 p),.f (ptY F1 p),.c (.bool (uY p))]
theorem aHX (d:Bool) (p:iU):aU prog (qG prog) (fun _=>⟨fun s=>aGr d,fun s=>true,fun _=>none⟩) f83 80 [.v (.fl (eK p))]=some ([],.many [.fl (nO (zO p.1 p.2.1 p.2.2).2),.im (.int .i64 (zO p.1 p.2.1 p.2.2).1)]):=by kernel_rfl
def aGj (d:Bool):Tab:=(aGr d).add 83 (g1 rg1 fun p=>([],.many [.fl (nO (zO p.1 p.2.1 p.2.2).2),.im (.int .i64 (zO p.1 p.2.1 p.2.2).1)]))
theorem aCB (d:Bool):TabOk prog (aGj d):=(aCE d).ad func83 (bJ AF fun p hp args w ha=>aB aG (fun _ s=>aCE _) (aJ prog) func83 (aHX d p) trivial ha)
theorem aIe (d:Bool) (p:iU):aU prog (qG prog) (fun _=>⟨fun s=>aGj d,fun s=>true,fun _=>none⟩) f47 80 [.v (.fl (eK p))]=some ([],.one (.im (.int .i64 (zO p.1 p.2.1 p.2.2).1))):=by kernel_rfl
def zJ (d:Bool):Tab:=(aGj d).add 47 (g1 rg1 fun p=>([],.one (.im (.int .i64 (zO p.1 p.2.1 p.2.2).1))))
theorem sW (d:Bool):TabOk prog (zJ d):=(aCB d).ad func47 (bJ AF fun p hp args w ha=>aB aG (fun _ s=>aCB _) (aJ prog) func47 (aIe d p) trivial ha)
open Classical in
theorem aFq:∃g:N2→N2→Bool→Int×J2,∀x y i,g x y i=if i=true then (if KW x∧KW y then (0,(F2.zero,F2.zero,F2.zero))else (44,(F2.zero,F2.zero,F2.zero)))else if ¬(rM x∧rM y)then (21,(F2.zero,F2.zero,F2.zero))else if F2.mul (m2 y) (m2 y)=F2.add (F2.mul (F2.mul (m2 x) (m2 x)) (m2 x)) dE then (0,(m2 x,m2 y,F2.one))else (41,(F2.zero,F2.zero,F2.zero)):=⟨_,fun _ _ _=>rfl⟩
def iN:N2→N2→Bool→Int×J2:=Classical.choose aFq
open Classical in
theorem wT (x y:N2) (i:Bool):iN x y i=if i=true then (if KW x∧KW y then (0,(F2.zero,F2.zero,F2.zero))else (44,(F2.zero,F2.zero,F2.zero)))else if ¬(rM x∧rM y)then (21,(F2.zero,F2.zero,F2.zero))else if F2.mul (m2 y) (m2 y)=F2.add (F2.mul (F2.mul (m2 x) (m2 x)) (m2 x)) dE then (0,(m2 x,m2 y,F2.one))else (41,(F2.zero,F2.zero,F2.zero)):=Classical.choose_spec aFq x y i
theorem Vd (x y:N2):aU prog (qG prog) (fun _=>⟨fun s=>zJ (bif Nat.beq s 28 then true else bif Nat.beq s 33 then true else true),fun s=>false,fun _=>none⟩) f126 80 [.v (.fl (q2 x)),.v (.fl (q2 y)),.v (.im (.bool true))]=some ([aA (q2 x)≠aA (e2 F2.zero)],.many [.fl (bI (F2.zero,F2.zero,F2.zero)),.im (.int .i64 44)]):=by kernel_rfl
theorem Vc (x y:N2):aU prog (qG prog) (fun _=>⟨fun s=>zJ (bif Nat.beq s 28 then true else bif Nat.beq s 33 then true else true),fun s => !(Nat.beq s 18),fun _=>none⟩) f126 80 [.v (.fl (q2 x)),.v (.fl (q2 y)),.v (.im (.bool true))]=some ([aA (q2 x)=aA (e2 F2.zero),aA (q2 y)≠aA (e2 F2.zero)],.many [.fl (bI (F2.zero,F2.zero,F2.zero)),.im (.int .i64 44)]):=by kernel_rfl
theorem Vb (x y:N2):aU prog (qG prog) (fun _=>⟨fun s=>zJ (bif Nat.beq s 28 then true else bif Nat.beq s 33 then true else true),fun s=>true,fun _=>none⟩) f126 80 [.v (.fl (q2 x)),.v (.fl (q2 y)),.v (.im (.bool true))]=some ([aA (q2 x)=aA (e2 F2.zero),aA (q2 y)=aA (e2 F2.zero)],.many [.fl (bI (F2.zero,F2.zero,F2.zero)),.im (.int .i64 0)]):=by kernel_rfl
theorem Va (x y:N2):aU prog (qG prog) (fun _=>⟨fun s=>zJ (bif Nat.beq s 28 then false else bif Nat.beq s 33 then true else true),fun s=>true,fun _=>none⟩) f126 80 [.v (.fl (q2 x)),.v (.fl (q2 y)),.v (.im (.bool false))]=some ([¬(wv x.1<FP.M∧wv x.2<FP.M)],.many [.fl (bI (F2.zero,F2.zero,F2.zero)),.im (.int .i64 21)]):=by kernel_rfl
theorem Uz (x y:N2):aU prog (qG prog) (fun _=>⟨fun s=>zJ (bif Nat.beq s 28 then true else bif Nat.beq s 33 then false else true),fun s=>true,fun _=>none⟩) f126 80 [.v (.fl (q2 x)),.v (.fl (q2 y)),.v (.im (.bool false))]=some ([(wv x.1<FP.M∧wv x.2<FP.M),¬(wv y.1<FP.M∧wv y.2<FP.M)],.many [.fl (bI (F2.zero,F2.zero,F2.zero)),.im (.int .i64 21)]):=by kernel_rfl
theorem Uy (x y:N2):aU prog (qG prog) (fun _=>⟨fun s=>zJ (bif Nat.beq s 28 then true else bif Nat.beq s 33 then true else true),fun s=>false,fun _=>none⟩) f126 80 [.v (.fl (q2 x)),.v (.fl (q2 y)),.v (.im (.bool false))]=some ([(wv x.1<FP.M∧wv x.2<FP.M),(wv y.1<FP.M∧wv y.2<FP.M),aA (e2 (F2.mul (m2 y) (m2 y)))≠aA (e2 (F2.add (F2.mul (F2.mul (m2 x) (m2 x)) (m2 x)) dE))],.many [.fl (bI (F2.zero,F2.zero,F2.zero)),.im (.int .i64 41)]):=by kernel_rfl
theorem Ux (x y:N2):aU prog (qG prog) (fun _=>⟨fun s=>zJ (bif Nat.beq s 28 then true else bif Nat.beq s 33 then true else true),fun s=>true,fun _=>none⟩) f126 80 [.v (.fl (q2 x)),.v (.fl (q2 y)),.v (.im (.bool false))]=some ([(wv x.1<FP.M∧wv x.2<FP.M),(wv y.1<FP.M∧wv y.2<FP.M),aA (e2 (F2.mul (m2 y) (m2 y)))=aA (e2 (F2.add (F2.mul (F2.mul (m2 x) (m2 x)) (m2 x)) dE))],.many [.fl (q2 x++(q2 y++e2 F2.one)),.im (.int .i64 0)]):=by kernel_rfl
theorem aRO (x y:N2) (i:Bool) (args:List Value) (w:World) (ha:bU w [.v (.fl (q2 x)),.v (.fl (q2 y)),.v (.im (.bool i))] args):Good prog 126 (.many [.fl (bI (iN x y i).2),.im (.int .i64 (iN x y i).1)]) args w:=by
 rw[wT];cases i with
 | true =>
  rw[if_pos rfl]
  by_cases hx:KW x
  ·by_cases hy:KW y
   ·rw[if_pos ⟨hx,hy⟩];exact aB aG (fun _ s=>sW _) (aJ prog) func126 (Vb x y) ⟨cG.2 hx,cG.2 hy,trivial⟩ ha
   ·rw[if_neg (fun h=>hy h.2)];exact aB aG (fun _ s=>sW _) (aJ prog) func126 (Vc x y) ⟨cG.2 hx,fun h=>hy (cG.1 h),trivial⟩ ha
  ·rw[if_neg (fun h=>hx h.1)];exact aB aG (fun _ s=>sW _) (aJ prog) func126 (Vd x y) ⟨fun h=>hx (cG.1 h),trivial⟩ ha
 | false =>
  rw[if_neg (by simp)]
  by_cases hx:rM x
  ·by_cases hy:rM y
   ·rw[if_neg (fun h=>h ⟨hx,hy⟩)]
    by_cases h:F2.mul (m2 y) (m2 y)=F2.add (F2.mul (F2.mul (m2 x) (m2 x)) (m2 x)) dE
    ·rw[if_pos h];refine Good.congr (r:=.many [.fl (q2 x++(q2 y++e2 F2.one)),.im (.int .i64 0)]) ?_ ?_
     ·exact aB aG (fun _ s=>sW _) (aJ prog) func126 (Ux x y) ⟨hx,hy,by rw[h],trivial⟩ ha
     ·have e:aA (q2 x++(q2 y++e2 F2.one))=aA (bI (m2 x,m2 y,F2.one)):=by
       rw[aP,aP,Sa hx,Sa hy];rfl
      show Value.tuple #[.agg (aA _).toArray,_]=.tuple #[.agg (aA _).toArray,_];rw[e]
    ·rw[if_neg h];exact aB aG (fun _ s=>sW _) (aJ prog) func126 (Uy x y) ⟨hx,hy,cS h,trivial⟩ ha
   ·rw[if_pos (fun h=>hy h.2)];exact aB aG (fun _ s=>sW _) (aJ prog) func126 (Uz x y) ⟨hx,hy,trivial⟩ ha
  ·rw[if_pos (fun h=>hx h.1)];exact aB aG (fun _ s=>sW _) (aJ prog) func126 (Va x y) ⟨hx,trivial⟩ ha
def aQT:kI
 | [.v (.fl l),.v (.fl m),.v (.im (.bool i))]=>match Yw l,Yw m with
  | some x,some y=>some ([],.many [.fl (bI (iN x y i).2),.im (.int .i64 (iN x y i).1)])
  | _,_=>none
 | _=>none
theorem aKt:∀cs pre r,aQT cs=some (pre,r)→aZ pre→∀(args:List Value) (w:World),bU w cs args→Good prog 126 r args w:=by
 intro cs pre r hg hp args w ha;unfold aQT at hg;split at hg
 ·rename_i l m i;split at hg
  ·rename_i x y hx hy;cases hg;refine aRO x y i args w ?_
   match args,ha with
   | [u,v,t],ha =>
    refine⟨?_,?_,ha.2.2⟩
    ·show u=.agg (aA (q2 x)).toArray;rw[←oM l x hx]; exact ha.1
    ·show v=.agg (aA (q2 y)).toArray;rw[←oM m y hy]; exact ha.2.1
   | [],ha=>exact ha.elim
   | [_],ha=>exact ha.2.elim
   | [_,_],ha=>exact ha.2.2.elim
   | _::_::_::_::_,ha=>exact ha.2.2.2.elim
  ·cases hg
 ·cases hg
def aGq (d:Bool):Tab:=(zJ d).add 126 aQT
theorem aCD (d:Bool):TabOk prog (aGq d):=(sW d).ad func126 aKt
abbrev cZ:=N2×N2×Bool
def cJ (p:cZ):List At:=[.q p.1.1,.q p.1.2,.q p.2.1.1,.q p.2.1.2,.c (.bool p.2.2)]
def Dg:List At→Option cZ
 | [a,b,c,d,.c (.bool i)]=>match Az a,Az b,Az c,Az d with|some x,some y,some z,some w=>some ((x,y),(z,w),i)|_,_,_,_=>none
 | _=>none
theorem iY:Rd Dg cJ:=fun l x h=>by
 unfold Dg at h;split at h
 ·split at h
  ·rename_i x y z w h1 h2 h3 h4;cases h;show _++(_++(_++(_++_)))=w4 _++(w4 _++(w4 _++(w4 _++_)));rw[mY h1,mY h2,mY h3,mY h4]
  ·cases h
 ·cases h
def gI (p:Pt Q2):List At:=[.f (ptX F2 p).1,.f (ptX F2 p).2,.f (ptY F2 p).1,.f (ptY F2 p).2,.c (.bool (uY p))]
theorem aHW (d:Bool) (p:cZ):aU prog (qG prog) (fun _=>⟨fun s=>aGq d,fun s=>true,fun _=>none⟩) f84 80 [.v (.fl (cJ p))]=some ([],.many [.fl (bI (iN p.1 p.2.1 p.2.2).2),.im (.int .i64 (iN p.1 p.2.1 p.2.2).1)]):=by kernel_rfl
def aGi (d:Bool):Tab:=(aGq d).add 84 (g1 Dg fun p=>([],.many [.fl (bI (iN p.1 p.2.1 p.2.2).2),.im (.int .i64 (iN p.1 p.2.1 p.2.2).1)]))
theorem aCA (d:Bool):TabOk prog (aGi d):=(aCD d).ad func84 (bJ iY fun p hp args w ha=>aB aG (fun _ s=>aCD _) (aJ prog) func84 (aHW d p) trivial ha)
theorem aId (d:Bool) (p:cZ):aU prog (qG prog) (fun _=>⟨fun s=>aGi d,fun s=>true,fun _=>none⟩) f48 80 [.v (.fl (cJ p))]=some ([],.one (.im (.int .i64 (iN p.1 p.2.1 p.2.2).1))):=by kernel_rfl
def Sq (d:Bool):Tab:=(aGi d).add 48 (g1 Dg fun p=>([],.one (.im (.int .i64 (iN p.1 p.2.1 p.2.2).1))))
theorem Ii (d:Bool):TabOk prog (Sq d):=(aCA d).ad func48 (bJ iY fun p hp args w ha=>aB aG (fun _ s=>aCA _) (aJ prog) func48 (aId d p) trivial ha)
theorem Gf (p:J2):aU prog (qG prog) (fun _=>⟨fun s=>Sq true,fun s=>true,fun _=>none⟩) f147 80 [.v (.fl (bI p))]=some ([p.2.2=F2.zero],.one (.fl (gI none))):=by kernel_rfl
theorem Gg (p:J2):aU prog (qG prog) (fun _=>⟨fun s=>Sq false,fun s=>true,fun _=>none⟩) f147 80 [.v (.fl (bI p))]=some ([p.2.2≠F2.zero],.one (.fl (gI (some (F2.mul p.1 (F2.mul (dW p.2.2) (dW p.2.2)),F2.mul p.2.1 (F2.mul (F2.mul (dW p.2.2) (dW p.2.2)) (dW p.2.2))))))):=by kernel_rfl
theorem aJl (p:J2) (args:List Value) (w:World) (ha:bU w [.v (.fl (bI p))] args):Good prog 147 (.one (.fl (gI (iA F2 dW p)))) args w:=by
 by_cases h:p.2.2=F2.zero
 ·rw[dP h];exact aB aG (fun _ s=>Ii _) (aJ prog) func147 (Gf p) ⟨h,trivial⟩ ha
 ·rw[eC h];exact aB aG (fun _ s=>Ii _) (aJ prog) func147 (Gg p) ⟨h,trivial⟩ ha
def UE (d:Bool):Tab:=(Sq d).add 147 (g1 YQ fun p=>([],.one (.fl (gI (iA F2 dW p)))))
theorem RF (d:Bool):TabOk prog (UE d):=(Ii d).ad func147 (bJ iX fun p hp args w ha=>aJl p args w ha)
def iO:List At:=[.c (.func (.func 84) #[] #[]),.c (.func (.func 147) #[] #[])]
theorem aBa (d:Bool):aU prog (qG prog) (fun _=>⟨fun s=>UE d,fun s=>true,fun _=>none⟩) f116 80 []=some ([],.one (.fl iO)):=by kernel_rfl
def BV (d:Bool):Tab:=(UE d).add 116 (g0 (.one (.fl iO)))
theorem yI (d:Bool):TabOk prog (BV d):=(RF d).ad func116 (lO fun w=>aB aG (fun _ s=>RF _) (aJ prog) func116 (aBa d) trivial (args:=[]) trivial)
theorem XV (d:Bool) (p:cZ):aU prog (qG prog) (fun _=>⟨fun s=>BV d,fun s=>true,fun s=>bif Nat.beq s 17 then some (.bool true)else none⟩) f117 80 [.v (.fl iO),.v (.fl (cJ p))]=some ([aH .neq .i64 (iN p.1 p.2.1 p.2.2).1 0=some (.bool true)],.many [.fl (gI (some (F2.zero,F2.zero))),.im (.int .i64 (iN p.1 p.2.1 p.2.2).1)]):=by kernel_rfl
theorem XW (d:Bool) (p:cZ):aU prog (qG prog) (fun _=>⟨fun s=>BV d,fun s=>true,fun s=>bif Nat.beq s 17 then some (.bool false)else none⟩) f117 80 [.v (.fl iO),.v (.fl (cJ p))]=some ([aH .neq .i64 (iN p.1 p.2.1 p.2.2).1 0=some (.bool false)],.many [.fl (gI (iA F2 dW (BE F2 (iN p.1 p.2.1 p.2.2).2))),.im (.int .i64 0)]):=by kernel_rfl
def cC (n:Nat):Nat:=if wv n=0 then 0 else Nat.log2 (wv n)+1
theorem yP (n:Nat):LenIs (wv n) (cC n):=by
 unfold cC
 by_cases h:wv n=0
 ·rw[if_pos h,h]; exact⟨by decide,fun h=>by cases h⟩
 ·rw[if_neg h];exact⟨Nat.lt_log2_self,fun _=>by rw[Nat.add_sub_cancel]; exact Nat.log2_self_le h⟩
theorem aLz (n:Nat):wv n<2^256:=by
 obtain⟨h0,h1,h2,h3⟩:=cQ n;unfold wv aC;have:(2:Nat)^256=115792089237316195423570985008687907853269984665640564039457584007913129639936:=by decide
 omega
theorem Pk (n:Nat):cC n≤256:=by
 rcases Nat.lt_or_ge 256 (cC n)with h|h
 ·have h1:=(yP n).2 (by omega);have h2:=Nat.pow_le_pow_right (show 0<2 by omega) (show 256≤cC n-1 by omega);have:=aLz n;omega
 ·exact h
def Bu:kI
 | [.v (.fl l)]=>match LI l with
  | some n=>some ([],.one (.im (.int .i64 (cC n:Nat))))
  | none=>none
 | _=>none
theorem aDz:∀cs pre r,Bu cs=some (pre,r)→aZ pre→∀(args:List Value) (w:World),bU w cs args→Good prog 194 r args w:=by
 intro cs pre r hg hp args w ha;unfold Bu at hg;split at hg
 ·rename_i l;split at hg
  ·rename_i n hn;cases hg;rw[DA ha,gD l _ hn];refine (BC _ _ _ _ (cQ n) w).mono ?_
   rintro e w' ⟨L,rfl,_,h,hbl⟩
   cases h.uniq (yP n);exact⟨rfl,hbl⟩
  ·cases hg
 ·cases hg
def SJ:kI
 | [.v (.fl l),.v (.im (.int .i64 (.ofNat i)))]=>match LI l with
  | some n=>some ([i<256],.one (.im (.int .i64 (gA (wv n) i:Nat))))
  | none=>none
 | _=>none
theorem aFJ:∀cs pre r,SJ cs=some (pre,r)→aZ pre→∀(args:List Value) (w:World),bU w cs args→Good prog 62 r args w:=by
 intro cs pre r hg hp args w ha;unfold SJ at hg;split at hg
 ·rename_i l i;split at hg
  ·rename_i n hn;cases hg
   match args,ha with
   | [v,u],ha =>
    have h1:v=.agg (aA l).toArray:=ha.1;have h2:u=.int .i64 (Int.ofNat i):=ha.2.1;rw[gD l _ hn]at h1;subst h1; subst h2;exact aFK _ _ _ _ i (cQ n) hp.1 w
   | [],ha=>exact ha.elim
   | [_],ha=>exact ha.2.elim
   | _::_::_::_,ha=>exact ha.2.2.elim
  ·cases hg
 ·cases hg
def aQC:kI
 | [.v (.fl l),.v (.im (.int .i64 (.ofNat k)))]=>match LI l with
  | some n=>some ([k<9223372036854775808],.one (.fl (q1 (wv n/2^k))))
  | none=>none
 | _=>none
theorem aOv:∀cs pre r,aQC cs=some (pre,r)→aZ pre→∀(args:List Value) (w:World),bU w cs args→Good prog 196 r args w:=by
 intro cs pre r hg hp args w ha;unfold aQC at hg;split at hg
 ·rename_i l k;split at hg
  ·rename_i n hn;cases hg
   match args,ha with
   | [v,u],ha =>
    have h1:v=.agg (aA l).toArray:=ha.1;have h2:u=.int .i64 (Int.ofNat k):=ha.2.1;rw[gD l _ hn]at h1;subst h1; subst h2;have hk:k<9223372036854775808:=hp.1;refine (tX _ _ _ _ (Int.ofNat k) (cQ n) (by simp) (by simp; omega) w).mono ?_
    rintro e w' ⟨s0,s1,s2,s3,rfl,hs,hv,hb⟩
    have hlt:wv n/2^k<115792089237316195423570985008687907853269984665640564039457584007913129639936:=by
     refine Nat.lt_of_le_of_lt (Nat.div_le_self _ _) ?_;have:=aLz n;have e:(2:Nat)^256=115792089237316195423570985008687907853269984665640564039457584007913129639936:=by decide
     omega
    obtain⟨rfl,rfl,rfl,rfl⟩:=pW hs hlt hv;exact⟨rfl,hb⟩
   | [],ha=>exact ha.elim
   | [_],ha=>exact ha.2.elim
   | _::_::_::_,ha=>exact ha.2.2.elim
  ·cases hg
 ·cases hg
def Md (x:Nat):Nat:=fw x 0*2%18446744073709551616
def mH (x p:Nat):Nat:=(if p=0 then Md x else fw (wv x/2^(p*4-1)) 0)%32
def rK (x p:Nat):Int:=((mH x p+1)/2:Nat)-(if 16≤mH x p then 16 else 0:Int)
def lW (d:Bool):Tab:=((UE d).add 194 Bu).add 196 aQC
theorem sV (d:Bool):TabOk prog (lW d):=((RF d).ad func194 aDz).ad func196 aOv
def iE (b o n m:Nat):List At:=[.c (dG b o n m),.c (iI 4)]
def atX (old:Nat→Nat→List At→Prop) (x i w:Nat):Ext :=
 { idx:=assoc [(13,i)],ld:=assoc [(14,[At.q x])],st:=fun _=>none,gen:=assoc [(17,uI (Md x)),(32,uI 32),(34,uI w),(37,iI (w+1)),(42,uI (w/16)),(47,iI 16)],mks:=fun _=>none,ky:=fun _=>none,old:=old,T2:=Fr0 }
def atN (p w:Nat) (c0 c1:Bool) (v:Int):Nat→Option Value:=assoc [(19,.bool c0),(24,iI (p*4)),(25,iI (p*4-1)),(36,uI (w+1)),(38,iI ((w+1)/2)),(43,.bool c1),(48,.int .i64 v)]
def nW (op:BinOp) (t:Nat) (x y:Operand) (v u r:Value):Prop:=∀w:World,(do eqGuard op t x y v u; binOp op t v u:Sem Value).run prog w=.ok r w
theorem Vo (old:Nat→Nat→List At→Prop) (b o n m i p x w:Nat) (v:Int):aU prog (qX prog (atX old x i w)) (fun _=>⟨fun s=>lW true,fun s=>true,atN p w true true v⟩) f189 80 [.v (.fl (iE b o n m)),.v (.im (iI i)),.v (.im (iI p))]=some ([Int.ofNat i=Int.ofNat i,i<n,old b (o+i*4) [At.q x],cF [At.q x]=4,nW .shl 25 (.tmp 16) (.const (.int .u64 1)) (.int .u64 (fw x 0:Nat)) (.int .u64 1) (uI (Md x)),aH .gtr .i64 (Int.ofNat p) 0=some (.bool true),aH .mul .i64 (Int.ofNat p) (Int.ofNat 4)=some (iI (p*4)),aH .sub .i64 (Int.ofNat (p*4)) 1=some (iI (p*4-1)),p*4-1<9223372036854775808,nW .shl 25 (.const (.int .u64 1)) (.tmp 31) (.int .u64 1) (.int .i64 (IntKind.i64.wrap (Int.ofNat 4+1))) (uI 32),nW .and 25 (.tmp 28) (.tmp 33) (.int .u64 (fw (wv x/2^(p*4-1)) 0:Nat)) (.int .u64 (IntKind.u64.wrap (Int.ofNat 32-1))) (uI w),aH .add .u64 (Int.ofNat w) 1=some (uI (w+1)),∀W:World,(convert 25 3 (uI (w+1))).run prog W=.ok (iI (w+1)) W,aH .quo .i64 (Int.ofNat (w+1)) 2=some (iI ((w+1)/2)),nW .shr 25 (.tmp 39) (.tmp 41) (uI w) (iI 4) (uI (w/16)),aH .eql .u64 (Int.ofNat (w/16)) 1=some (.bool true),nW .shl 3 (.const (.int .i64 1)) (.tmp 46) (.int .i64 1) (iI 4) (iI 16),aH .sub .i64 (Int.ofNat ((w+1)/2)) (Int.ofNat 16)=some (.int .i64 v)],.one (.im (.int .i64 v))):=by kernel_rfl
theorem Vp (old:Nat→Nat→List At→Prop) (b o n m i p x w:Nat) (v:Int):aU prog (qX prog (atX old x i w)) (fun _=>⟨fun s=>lW true,fun s=>true,atN p w true false v⟩) f189 80 [.v (.fl (iE b o n m)),.v (.im (iI i)),.v (.im (iI p))]=some ([Int.ofNat i=Int.ofNat i,i<n,old b (o+i*4) [At.q x],cF [At.q x]=4,nW .shl 25 (.tmp 16) (.const (.int .u64 1)) (.int .u64 (fw x 0:Nat)) (.int .u64 1) (uI (Md x)),aH .gtr .i64 (Int.ofNat p) 0=some (.bool true),aH .mul .i64 (Int.ofNat p) (Int.ofNat 4)=some (iI (p*4)),aH .sub .i64 (Int.ofNat (p*4)) 1=some (iI (p*4-1)),p*4-1<9223372036854775808,nW .shl 25 (.const (.int .u64 1)) (.tmp 31) (.int .u64 1) (.int .i64 (IntKind.i64.wrap (Int.ofNat 4+1))) (uI 32),nW .and 25 (.tmp 28) (.tmp 33) (.int .u64 (fw (wv x/2^(p*4-1)) 0:Nat)) (.int .u64 (IntKind.u64.wrap (Int.ofNat 32-1))) (uI w),aH .add .u64 (Int.ofNat w) 1=some (uI (w+1)),∀W:World,(convert 25 3 (uI (w+1))).run prog W=.ok (iI (w+1)) W,aH .quo .i64 (Int.ofNat (w+1)) 2=some (iI ((w+1)/2)),nW .shr 25 (.tmp 39) (.tmp 41) (uI w) (iI 4) (uI (w/16)),aH .eql .u64 (Int.ofNat (w/16)) 1=some (.bool false)],.one (.im (iI ((w+1)/2)))):=by kernel_rfl
theorem Vr (old:Nat→Nat→List At→Prop) (b o n m i p x w:Nat) (v:Int):aU prog (qX prog (atX old x i w)) (fun _=>⟨fun s=>lW true,fun s=>true,atN p w false true v⟩) f189 80 [.v (.fl (iE b o n m)),.v (.im (iI i)),.v (.im (iI p))]=some ([Int.ofNat i=Int.ofNat i,i<n,old b (o+i*4) [At.q x],cF [At.q x]=4,nW .shl 25 (.tmp 16) (.const (.int .u64 1)) (.int .u64 (fw x 0:Nat)) (.int .u64 1) (uI (Md x)),aH .gtr .i64 (Int.ofNat p) 0=some (.bool false),nW .shl 25 (.const (.int .u64 1)) (.tmp 31) (.int .u64 1) (.int .i64 (IntKind.i64.wrap (Int.ofNat 4+1))) (uI 32),nW .and 25 (.tmp 28) (.tmp 33) (.int .u64 (Md x:Nat)) (.int .u64 (IntKind.u64.wrap (Int.ofNat 32-1))) (uI w),aH .add .u64 (Int.ofNat w) 1=some (uI (w+1)),∀W:World,(convert 25 3 (uI (w+1))).run prog W=.ok (iI (w+1)) W,aH .quo .i64 (Int.ofNat (w+1)) 2=some (iI ((w+1)/2)),nW .shr 25 (.tmp 39) (.tmp 41) (uI w) (iI 4) (uI (w/16)),aH .eql .u64 (Int.ofNat (w/16)) 1=some (.bool true),nW .shl 3 (.const (.int .i64 1)) (.tmp 46) (.int .i64 1) (iI 4) (iI 16),aH .sub .i64 (Int.ofNat ((w+1)/2)) (Int.ofNat 16)=some (.int .i64 v)],.one (.im (.int .i64 v))):=by kernel_rfl
theorem Vs (old:Nat→Nat→List At→Prop) (b o n m i p x w:Nat) (v:Int):aU prog (qX prog (atX old x i w)) (fun _=>⟨fun s=>lW true,fun s=>true,atN p w false false v⟩) f189 80 [.v (.fl (iE b o n m)),.v (.im (iI i)),.v (.im (iI p))]=some ([Int.ofNat i=Int.ofNat i,i<n,old b (o+i*4) [At.q x],cF [At.q x]=4,nW .shl 25 (.tmp 16) (.const (.int .u64 1)) (.int .u64 (fw x 0:Nat)) (.int .u64 1) (uI (Md x)),aH .gtr .i64 (Int.ofNat p) 0=some (.bool false),nW .shl 25 (.const (.int .u64 1)) (.tmp 31) (.int .u64 1) (.int .i64 (IntKind.i64.wrap (Int.ofNat 4+1))) (uI 32),nW .and 25 (.tmp 28) (.tmp 33) (.int .u64 (Md x:Nat)) (.int .u64 (IntKind.u64.wrap (Int.ofNat 32-1))) (uI w),aH .add .u64 (Int.ofNat w) 1=some (uI (w+1)),∀W:World,(convert 25 3 (uI (w+1))).run prog W=.ok (iI (w+1)) W,aH .quo .i64 (Int.ofNat (w+1)) 2=some (iI ((w+1)/2)),nW .shr 25 (.tmp 39) (.tmp 41) (uI w) (iI 4) (uI (w/16)),aH .eql .u64 (Int.ofNat (w/16)) 1=some (.bool false)],.one (.im (iI ((w+1)/2)))):=by kernel_rfl
theorem Mf (x:Nat):nW .shl 25 (.tmp 16) (.const (.int .u64 1)) (.int .u64 (fw x 0:Nat)) (.int .u64 1) (uI (Md x)):=fun w=>by
 have h:=(cQ x).1;simp[eqGuard,binOp,go_sem,IntKind.wrap,IntKind.signed,uI,Md]
theorem PU:nW .shl 25 (.const (.int .u64 1)) (.tmp 31) (.int .u64 1) (.int .i64 (IntKind.i64.wrap (Int.ofNat 4+1))) (uI 32):=fun w=>by
 have e:IntKind.i64.wrap (Int.ofNat 4+1)=5:=by decide
 rw[e];simp[eqGuard,binOp,go_sem,IntKind.wrap,uI]
theorem aAz:nW .shl 3 (.const (.int .i64 1)) (.tmp 46) (.int .i64 1) (iI 4) (iI 16):=fun w=>by
 simp[eqGuard,binOp,go_sem,IntKind.wrap,iI]
theorem aLH (x:Nat) (h:x<18446744073709551616):nW .and 25 (.tmp 28) (.tmp 33) (.int .u64 (x:Nat)) (.int .u64 (IntKind.u64.wrap (Int.ofNat 32-1))) (uI (x%32)):=fun w=>by
 have e:IntKind.u64.wrap (Int.ofNat 32-1)=((31:Nat):Int):=by decide
 rw[e];have h2:=bits_and_u64_nat x 31 h (by omega);have h3:x &&& 31=x%32:=Nat.and_two_pow_sub_one_eq_mod x 5;rw[h3]at h2;simp[eqGuard,binOp,go_sem,uI];exact h2
theorem aOA (x:Nat) (h:x<64) (W:World):(convert 25 3 (uI x)).run prog W=.ok (iI x) W:=by
 have e:IntKind.i64.wrap (x:Int)=x:=yR (by omega);have e2:(x:Int)%18446744073709551616=x:=by omega
 simp[convert,go_sem,uI,iI,e]
theorem aTU (x:Nat) (h:x<32):nW .shr 25 (.tmp 39) (.tmp 41) (uI x) (iI 4) (uI (x/16)):=fun w=>by
 simp[eqGuard,binOp,go_sem,uI,iI]
theorem Re (x p:Nat):mH x p<32:=Nat.mod_lt _ (by omega)
theorem aVe (n:Nat) (h:n<100):aH .add .u64 (Int.ofNat n) 1=some (uI (n+1)):=by
 show some (Value.int .u64 (IntKind.u64.wrap ((n:Int)+1)))=_;have e:IntKind.u64.wrap ((n:Int)+1)=((n+1:Nat):Int):=by
  unfold IntKind.wrap;simp[IntKind.signed,IntKind.bits];omega
 rw[e]; rfl
theorem AR (k:IntKind) (n:Nat):aH .eql k (Int.ofNat n) 1=some (.bool (decide (n=1))):=by
 show some (Value.bool ((n:Int)==1))=_
 by_cases h:n=1
 ·subst h; rfl
 ·rw[decide_eq_false h,beq_eq_false_iff_ne.2 (by omega)]
theorem aFQ {w0:World} (b o n m i p x:Nat) (hx:oldOf w0 b (o+i*4) [.q x]) (hi:i<n) (hp:p<1152921504606846976):Calls prog 189 #[.agg (aA (iE b o n m)).toArray,iI i,iI p] w0 (fun e w'=>e=.returned (.int .i64 (rK x p))∧Below w0.heap.size w0 w'):=by
 have hq:∀w,dC prog (qX prog (atX (oldOf w0) x i w)) w0.heap.size w0:=fun w=>GH (xF _) fun _ _ _ h=>h
 have hT:∀n d:Nat,TabOkW prog (lW true) w0.heap.size w0:=fun _ _=>(sV true).w _ _
 have ha:bU w0 [.v (.fl (iE b o n m)),.v (.im (iI i)),.v (.im (iI p))] [.agg (aA (iE b o n m)).toArray,iI i,iI p]:=⟨rfl,rfl,rfl,trivial⟩;have hw:=Re x p;have hfw:=(cQ (wv x/2^(p*4-1))).1;have hs:Md x<18446744073709551616:=Nat.mod_lt _ (by omega);have o1:=aVe (mH x p) (by omega);have o2:=aOA (mH x p+1) (by omega);have o3:aH .quo .i64 (Int.ofNat (mH x p+1)) 2=some (iI ((mH x p+1)/2)):=aLZ (k:=2) (by omega) (by omega);have o4:=aTU (mH x p) hw;have hv:16≤mH x p→aH .sub .i64 (Int.ofNat ((mH x p+1)/2)) (Int.ofNat 16)=some (.int .i64 (rK x p)):=fun h=>by
  show some (Value.int .i64 (IntKind.i64.wrap ((((mH x p+1)/2:Nat):Int)-16)))=_;unfold rK;rw[if_pos h,IntKind.wrap_i64];congr 2;omega
 have hn:¬ 16≤mH x p→rK x p=Int.ofNat ((mH x p+1)/2):=fun h=>by
  unfold rK;rw[if_neg h]; simp
 by_cases hp0:p=0
 ·have hd:mH x p=Md x%32:=by unfold mH; rw[if_pos hp0]
  have o5:=aLH (Md x) hs;rw[←hd]at o5;have g0:aH .gtr .i64 (Int.ofNat p) 0=some (.bool false):=by rw[hp0]; rfl
  by_cases h16:16≤mH x p
  ·exact bX aG hT (hq _) func189 (Vr (oldOf w0) b o n m i p x (mH x p) (rK x p)) ⟨rfl,hi,hx,rfl,Mf x,g0,PU,o5,o1,o2,o3,o4,by rw[AR,decide_eq_true (by omega)],aAz,hv h16,trivial⟩ ha
  ·rw[hn h16];exact bX aG hT (hq _) func189 (Vs (oldOf w0) b o n m i p x (mH x p) 0) ⟨rfl,hi,hx,rfl,Mf x,g0,PU,o5,o1,o2,o3,o4,by rw[AR,decide_eq_false (by omega)],trivial⟩ ha
 ·have hd:mH x p=fw (wv x/2^(p*4-1)) 0%32:=by unfold mH; rw[if_neg hp0]
  have o5:=aLH _ hfw;rw[←hd]at o5;have g0:aH .gtr .i64 (Int.ofNat p) 0=some (.bool true):=by
   have:=NJ (i:=p) (n:=0);rw[decide_eq_true (by omega)]at this;exact this
  have g1:aH .mul .i64 (Int.ofNat p) (Int.ofNat 4)=some (iI (p*4)):=aVf (by omega);have g2:aH .sub .i64 (Int.ofNat (p*4)) 1=some (iI (p*4-1)):=CK (k:=1) (by omega) (by omega)
  by_cases h16:16≤mH x p
  ·exact bX aG hT (hq _) func189 (Vo (oldOf w0) b o n m i p x (mH x p) (rK x p)) ⟨rfl,hi,hx,rfl,Mf x,g0,g1,g2,by omega,PU,o5,o1,o2,o3,o4,by rw[AR,decide_eq_true (by omega)],aAz,hv h16,trivial⟩ ha
  ·rw[hn h16];exact bX aG hT (hq _) func189 (Vp (oldOf w0) b o n m i p x (mH x p) 0) ⟨rfl,hi,hx,rfl,Mf x,g0,g1,g2,by omega,PU,o5,o1,o2,o3,o4,by rw[AR,decide_eq_false (by omega)],trivial⟩ ha
def gAt (b o n m:Nat) (x:Nat→Nat):kI
 | [.v (.fl [.c (.slice (some ⟨b',o',.none⟩) n' m'),.c (.int .i64 (.ofNat 4))]),.v (.im (.int .i64 (.ofNat i))),.v (.im (.int .i64 (.ofNat p)))] =>
  some ([b'=b,o'=o,n'=n,m'=m,i<n,p<1152921504606846976],.one (.im (.int .i64 (rK (x i) p))))
 | _=>none
theorem aQY {w:World} {b o n m:Nat} {x:Nat→Nat} (hx:∀i,i<n→oldOf w b (o+i*4) [.q (x i)]):∀cs pre r,gAt b o n m x cs=some (pre,r)→aZ pre→∀(args:List Value),bU w cs args→Good prog 189 r args w:=by
 intro cs pre r hg hp args ha;unfold gAt at hg;split at hg
 ·rename_i b' o' n' m' i p;cases hg;obtain⟨rfl,rfl,rfl,rfl,hi,hpp,_⟩:=hp
  match args,ha with
  | [u,v,t],ha =>
   have h1:u=.agg (aA (iE b' o' n' m')).toArray:=ha.1;have h2:v=iI i:=ha.2.1;have h3:t=iI p:=ha.2.2.1;subst h1; subst h2; subst h3;exact aFQ b' o' n' m' i p (x i) (hx i hi) hi hpp
  | [],ha=>exact ha.elim
  | [_],ha=>exact ha.2.elim
  | [_,_],ha=>exact ha.2.2.elim
  | _::_::_::_::_,ha=>exact ha.2.2.2.elim
 ·cases hg
def xt0 (old:Nat→Nat→List At→Prop):Ext:={ idx:=fun _=>none,ld:=fun _=>none,st:=fun _=>none,gen:=fun _=>none,mks:=fun _=>none,ky:=fun _=>none,old:=old,T2:=Fr0 }
theorem LU {x:Ext} {w:World} (h:x.old=oldOf w) (h2:x.T2=Fr0):dC prog (qX prog x) w.heap.size w:=GH (h2▸xF _) fun _ _ _ q=>h▸q
def uQ (x:Nat→Nat):Nat→Nat
 | 0=>0
 | i+1=>if cC (x i)>uQ x i then cC (x i)else uQ x i
theorem Iq (x:Nat→Nat):∀i,uQ x i≤256
 | 0=>Nat.zero_le _
 | i+1=>by
  have:=Iq x i;have:=Pk (x i);unfold uQ;split<;>omega
theorem aDf (x:Nat→Nat):∀n i,i<n→cC (x i)≤uQ x n
 | n+1,i,h=>by
  unfold uQ
  by_cases e:i=n
  ·subst e; split<;>omega
  ·have:=aDf x n i (by omega);split<;>omega
def plX (old:Nat→Nat→List At→Prop) (x i:Nat):Ext:={ xt0 old with idx:=assoc [(11,i)],ld:=assoc [(12,[At.q x])] }
def plF (b o n m i mx:Nat):List Fact:=[.slot 1 (.pt 1 0),.row 1 true (iE b o n m),.slot 3 (.im (iI mx)),.slot 7 (.im (dG b o n m)),.slot 8 (.im (iI n)),.slot 9 (.im (iI i))]
def plC (num:Nat→Option Value) (_:Nat):Cfg:=⟨fun _=>lW true,fun _=>true,num⟩
def mA:Code:=(f199.body).getD .skip
def Ib:Code:=vG (vG (cB (cA (cB (cB mA)))))
theorem aJg:mA=.seq (cA mA) (.seq (cA (cB mA)) (.seq (.seq (cA (cA (cB (cB mA)))) (.block 0 (.loop Ib))) (cB (cB (cB mA))))):=by kernel_rfl
def plA (b o n m:Nat):List Fact:=[.slot 1 (.pt 1 0),.row 1 true (iE b o n m)]
def plB (b o n m:Nat):List Fact:=[.slot 1 (.pt 1 0),.row 1 true (iE b o n m),.slot 3 (.im (iI 0))]
theorem aUH (b o n m:Nat):bE prog (qG prog) f199.ntmps (plC fun _=>none) 40 (cA mA) (nU 0 [.v (.fl (iE b o n m))]) (plA b o n m)=some ([],.nrm,plA b o n m):=by kernel_rfl
theorem aUG (b o n m:Nat):bE prog (qG prog) f199.ntmps (plC fun _=>none) 40 (cA (cB mA)) (plA b o n m) (plB b o n m)=some ([],.nrm,plB b o n m):=by kernel_rfl
theorem aUF (b o n m:Nat):bE prog (qG prog) f199.ntmps (plC fun _=>none) 40 (cA (cA (cB (cB mA)))) (plB b o n m) (plF b o n m 0 0)=some ([],.nrm,plF b o n m 0 0):=by kernel_rfl
theorem aUI (old:Nat→Nat→List At→Prop) (b o n m i mx mx' x:Nat):bE prog (qX prog (plX old x i)) f199.ntmps (plC (assoc [(10,.bool true),(16,iI mx'),(17,iI (i+1))])) 40 Ib (plF b o n m i mx) (plF b o n m (i+1) mx')=some ([aH .lss .i64 (Int.ofNat i) (Int.ofNat n)=some (.bool true),Int.ofNat i=Int.ofNat i,i<n,old b (o+i*4) [.q x],cF [At.q x]=4,Value.int .i64 (if (Int.ofNat (cC x))>(Int.ofNat mx)then Int.ofNat (cC x)else Int.ofNat mx)=iI mx',aH .add .i64 (Int.ofNat i) 1=some (iI (i+1))],.nrm,plF b o n m (i+1) mx'):=by kernel_rfl
theorem aPc (b o n m i mx:Nat):bE prog (qG prog) f199.ntmps (plC (assoc [(10,.bool false)])) 40 Ib (plF b o n m i mx) (plF b o n m i mx)=some ([aH .lss .i64 (Int.ofNat i) (Int.ofNat n)=some (.bool false)],.ex 0,plF b o n m i mx):=by kernel_rfl
theorem aJf (b o n m i mx:Nat):bE prog (qG prog) f199.ntmps (plC (assoc [(21,iI (mx/4)),(22,iI (mx/4+1))])) 40 (cB (cB (cB mA))) (plF b o n m i mx) [.slot 2 (.im (iI (mx/4+1)))]=some ([aH .quo .i64 (Int.ofNat mx) (Int.ofNat 4)=some (iI (mx/4)),aH .add .i64 (Int.ofNat (mx/4)) 1=some (iI (mx/4+1))],.rt,[.slot 2 (.im (iI (mx/4+1)))]):=by kernel_rfl
theorem QU {w0:World} (b o n m:Nat) (x:Nat→Nat) (hx:∀i,i<n→oldOf w0 b (o+i*4) [.q (x i)]) (hn:n<4611686018427387904):Calls prog 199 #[.agg (aA (iE b o n m)).toArray] w0 (fun e w'=>e=.returned (iI (uQ x n/4+1))∧Below w0.heap.size w0 w'):=by
 have hG:dC prog (qG prog) w0.heap.size w0:=(aJ _).w _ _;have hT:∀n d:Nat,TabOkW prog (lW true) w0.heap.size w0:=fun _ _=>(sV true).w _ _
 refine fT func199 (c:=mA) rfl (args:=[.agg (aA (iE b o n m)).toArray]) (cs:=[.v (.fl (iE b o n m))]) ⟨rfl,trivial⟩ (Nat.le_of_ble_eq_true (by kernel_rfl)) fun a w' hA => ?_
 rw[aJg];refine wp_seq (aF aG hT hG (aUH b o n m) trivial hA fun a w' hA => ?_);refine wp_seq (aF aG hT hG (aUG b o n m) trivial hA fun a w' hA => ?_);refine wp_seq (wp_seq (aF aG hT hG (aUF b o n m) trivial hA fun a w' hA => ?_));refine wp_block ?_;refine mD aG (fun i=>plF b o n m i (uQ x i)) n (fun i hi => ?_) (.ex 0) (by simp) (plF b o n m n (uQ x n)) ?_ hA fun a w' hA => ?_
 ·refine⟨_,_,_,_,LU (x:=plX (oldOf w0) (x i) i) rfl rfl,hT,aUI (oldOf w0) b o n m i (uQ x i) (uQ x (i+1)) (x i),cK hi,rfl,hi,hx i hi,rfl,?_,pR (k:=1) (by omega),trivial⟩;show Value.int .i64 (if ((cC (x i):Nat):Int)>((uQ x i:Nat):Int)then ((cC (x i):Nat):Int)else ((uQ x i:Nat):Int))=.int .i64 ((uQ x (i+1):Nat):Int);rw[uQ]
  by_cases h:cC (x i)>uQ x i
  ·rw[if_pos h,if_pos (by omega)]
  ·rw[if_neg h,if_neg (by omega)]
 ·exact⟨_,_,_,_,hG,hT,aPc b o n m n _,gQ (Nat.le_refl _),trivial⟩
 ·have:=Iq x n;show (cB (cB (cB mA))).wp _ _ _ _;exact aF aG hT hG (aJf b o n m n _) ⟨aLZ (by omega) (by omega),pR (k:=1) (by omega),trivial⟩ hA fun a w' hA=>gZ (l:=[.im (iI (uQ x n/4+1))]) (r:=.one (.im (iI (uQ x n/4+1)))) (by kernel_rfl) (by kernel_rfl) hA
def jt1 (p:J1):Nat→J1
 | 0=>(F1.zero,F1.zero,F1.zero)
 | k+1=>jX F1 (jt1 p k) p
theorem Rg (x p:Nat) : -8≤rK x p∧rK x p≤8:=by
 have:=Re x p;unfold rK;split<;>omega
structure ClMem1 (w:World) (bt bd bT N b o n m:Nat) (x:Nat→Nat) (pt:Nat→J1):Prop where
 t:oldOf w bt 0 [.c (dG bT 0 N N)]
 d:oldOf w bd 0 (iE b o n m)
 x:∀i,i<n→oldOf w b (o+i*4) [.q (x i)]
 p:∀i,i<N→∀k,k<8→oldOf w bT (i*96+k*12) (nO (jt1 (pt i) (k+1)))
theorem oldOf.on {base:Nat} {w w':World} (hb:Below w.heap.size w w') {b o:Nat} {l:List At} (h:oldOf w b o l):oldOf w' b o l:=⟨Nat.lt_of_lt_of_le h.1 hb.size,gB hb h.1 h.2⟩
theorem ClMem1.on {w w':World} (hb:Below w.heap.size w w') {bt bd bT N b o n m:Nat} {x:Nat→Nat} {pt:Nat→J1} (h:ClMem1 w bt bd bT N b o n m x pt):ClMem1 w' bt bd bT N b o n m x pt :=
 ⟨h.t.on hb (base:=0),h.d.on hb (base:=0),fun i hi=>(h.x i hi).on hb (base:=0),fun i hi k hk=>(h.p i hi k hk).on hb (base:=0)⟩
def gPl (b o n m PL:Nat):kI
 | [.v (.fl [.c (.slice (some ⟨b',o',.none⟩) n' m'),.c (.int .i64 (.ofNat 4))])]=>some ([b'=b,o'=o,n'=n,m'=m],.one (.im (iI PL)))
 | _=>none
def LQ (p:J2):Nat→J2
 | 0=>(F2.zero,F2.zero,F2.zero)
 | k+1=>jX F2 (LQ p k) p
def Td (p:J2):Int→J2
 | .ofNat 0=>(F2.zero,F2.zero,F2.zero)
 | .ofNat (k+1)=>LQ p (k+1)
 | .negSucc k=>BE F2 (LQ p (k+1))
def Te (old:Nat→Nat→List At→Prop) (k:Nat) (h:Int) (q:J2):Ext:={ xt0 old with idx:=assoc [(12,k),(22,k)],ld:=assoc [(13,bI q),(23,bI q)],gen:=assoc [(19,.int .i64 h)] }
theorem Tz (old:Nat→Nat→List At→Prop) (b off k:Nat) (g h:Int) (q:J2):aU prog (qX prog (Te old k h q)) (fun _=>⟨fun s=>lW true,fun s=>true,assoc [(7,.bool true),(10,iI k)]⟩) f188 80 [.v (.im (rU b off)),.v (.im (.int .i64 g))]=some ([aH .gtr .i64 g 0=some (.bool true),aH .sub .i64 g 1=some (iI k),Int.ofNat k=Int.ofNat k,k<8,old b (off+k*24) (bI q),cF (bI q)=24],.one (.fl (bI q))):=by kernel_rfl
theorem Ua (old:Nat→Nat→List At→Prop) (b off k:Nat) (g h:Int) (q:J2):aU prog (qX prog (Te old k h q)) (fun _=>⟨fun s=>lW true,fun s=>true,assoc [(7,.bool false),(16,.bool true),(20,iI k)]⟩) f188 80 [.v (.im (rU b off)),.v (.im (.int .i64 g))]=some ([aH .gtr .i64 g 0=some (.bool false),aH .lss .i64 g 0=some (.bool true),(∀W:World,(Op.unary .neg (.int .i64 g)).run prog W=.ok (.int .i64 h) W),aH .sub .i64 h 1=some (iI k),Int.ofNat k=Int.ofNat k,k<8,old b (off+k*24) (bI q),cF (bI q)=24],.one (.fl (bI (BE F2 q)))):=by kernel_rfl
theorem Ty (old:Nat→Nat→List At→Prop) (b off k:Nat) (g h:Int) (q:J2):aU prog (qX prog (Te old k h q)) (fun _=>⟨fun s=>lW true,fun s=>true,assoc [(7,.bool false),(16,.bool false)]⟩) f188 80 [.v (.im (rU b off)),.v (.im (.int .i64 g))]=some ([aH .gtr .i64 g 0=some (.bool false),aH .lss .i64 g 0=some (.bool false)],.one (.fl (bI (F2.zero,F2.zero,F2.zero)))):=by kernel_rfl
theorem Dt {w0:World} (b off:Nat) (g:Int) (p:J2) (hp:∀k,k<8→oldOf w0 b (off+k*24) (bI (LQ p (k+1)))) (h1 : -8≤g) (h2:g≤8):Calls prog 188 #[rU b off,.int .i64 g] w0 (fun e w'=>e=.returned (.agg (aA (bI (Td p g))).toArray)∧Below w0.heap.size w0 w'):=by
 have hT:∀n d:Nat,TabOkW prog (lW true) w0.heap.size w0:=fun _ _=>(sV true).w _ _
 have ha:bU w0 [.v (.im (rU b off)),.v (.im (.int .i64 g))] [rU b off,.int .i64 g]:=⟨rfl,rfl,trivial⟩
 match g,h1,h2,ha with
 | .ofNat 0,_,_,ha=>exact bX aG hT (LU (x:=Te (oldOf w0) 0 0 (F2.zero,F2.zero,F2.zero)) rfl rfl) func188 (Ty (oldOf w0) b off 0 _ 0 (F2.zero,F2.zero,F2.zero)) ⟨rfl,rfl,trivial⟩ ha
 | .ofNat (k+1),_,h2,ha =>
  have hk:k<8:=by have h2':((k+1:Nat):Int)≤8:=h2; omega
  exact bX aG hT (LU (x:=Te (oldOf w0) k 0 (LQ p (k+1))) rfl rfl) func188 (Tz (oldOf w0) b off k _ 0 (LQ p (k+1))) ⟨by rw[show (0:Int)=Int.ofNat 0 from rfl,NJ,decide_eq_true (by omega)],CK (k:=1) (by omega) (by omega),rfl,hk,hp k hk,rfl,trivial⟩ ha
 | .negSucc k,h1,_,ha =>
  have hk:k<8:=by have h1' : -8 ≤ -((k:Int)+1):=h1; omega
  refine bX aG hT (LU (x:=Te (oldOf w0) k (Int.ofNat (k+1)) (LQ p (k+1))) rfl rfl) func188 (Ua (oldOf w0) b off k _ (Int.ofNat (k+1)) (LQ p (k+1))) ⟨?_,?_,?_,CK (k:=1) (by omega) (by omega),rfl,hk,hp k hk,rfl,trivial⟩ ha
  ·show some (Value.bool (decide (Int.negSucc k>0)))=_;rw[decide_eq_false (by omega)]
  ·show some (Value.bool (decide (Int.negSucc k<0)))=_;rw[decide_eq_true (by omega)]
  ·intro W;have e:IntKind.i64.wrap (0-Int.negSucc k)=Int.ofNat (k+1):=by rw[IntKind.wrap_i64]; show _=((k+1:Nat):Int); omega
   show (Op.intArith .sub .i64 0 (Int.negSucc k)).run prog W=_;simp only[Op.intArith,Sem.run_pure,e]
def aEl (bT i:Nat) (p:J2):kI
 | [.v (.im (.pointer (some ⟨b',off,.none⟩))),.v (.im (.int .i64 g))]=>some ([b'=bT,off=i*192,-8≤g,g≤8],.one (.fl (bI (Td p g))))
 | _=>none
theorem aEk {w:World} {bT i:Nat} {p:J2} (hp:∀k,k<8→oldOf w bT (i*192+k*24) (bI (LQ p (k+1)))):∀cs pre r,aEl bT i p cs=some (pre,r)→aZ pre→∀(args:List Value),bU w cs args→Good prog 188 r args w:=by
 intro cs pre r hg hq args ha;unfold aEl at hg;split at hg
 ·rename_i b' off g;cases hg;obtain⟨rfl,rfl,h1,h2,_⟩:=hq
  match args,ha with
  | [u,v],ha =>
   have e1:u=rU b' (i*192):=ha.1;have e2:v=.int .i64 g:=ha.2.1;subst e1; subst e2;exact Dt b' _ g p hp h1 h2
  | [],ha=>exact ha.elim
  | [_],ha=>exact ha.2.elim
  | _::_::_::_,ha=>exact ha.2.2.elim
 ·cases hg
def OG (pt:Nat→J2) (x:Nat→Nat) (p:Nat):Nat→J2
 | 0=>(F2.zero,F2.zero,F2.zero)
 | i+1=>jX F2 (OG pt x p i) (Td (pt i) (rK (x i) p))
def aKW (old:Nat→Nat→List At→Prop) (bT N b o n m i:Nat):Ext:={ xt0 old with idx:=assoc [(15,i)],ld:=assoc [(16,iE b o n m)],gen:=assoc [(7,dG bT 0 N N),(13,dG bT 0 N N)] }
def JN (pl bt bd N i:Nat) (c:J2):List Fact:=[.slot 0 (.im (iI pl)),.slot 1 (.im (rU bt 0)),.slot 2 (.im (rU bd 0)),.slot 4 (.pt 4 0),.row 4 true (bI (F2.zero,F2.zero,F2.zero)),.slot 5 (.pt 5 0),.row 5 true (bI c),.slot 8 (.im (iI N)),.slot 9 (.im (iI i))]
def bAc (bT b o n m:Nat) (x:Nat→Nat) (i:Nat) (p:J2):Tab:=((lW true).add 189 (gAt b o n m x)).add 188 (aEl bT i p)
def iT:Code:=(f186.body).getD .skip
def TA:Code:=vG (vG (cB (cA (cB (cB iT)))))
theorem aFp:iT=.seq (cA iT) (.seq (cA (cB iT)) (.seq (.seq (cA (cA (cB (cB iT)))) (.block 0 (.loop TA))) (cB (cB (cB iT))))):=by kernel_rfl
def aRG (pl bt bd:Nat):List Fact:=[.slot 0 (.im (iI pl)),.slot 1 (.im (rU bt 0)),.slot 2 (.im (rU bd 0)),.slot 4 (.pt 4 0),.row 4 true (bI (F2.zero,F2.zero,F2.zero))]
def aRF (pl bt bd:Nat):List Fact:=[.slot 0 (.im (iI pl)),.slot 1 (.im (rU bt 0)),.slot 2 (.im (rU bd 0)),.slot 4 (.pt 4 0),.row 4 true (bI (F2.zero,F2.zero,F2.zero)),.slot 5 (.pt 5 0),.row 5 true (bI (F2.zero,F2.zero,F2.zero))]
theorem aRJ (pl bt bd:Nat):bE prog (qG prog) f186.ntmps (plC fun _=>none) 40 (cA iT) (nU 0 [.v (.im (iI pl)),.v (.im (rU bt 0)),.v (.im (rU bd 0))]) (aRG pl bt bd)=some ([],.nrm,aRG pl bt bd):=by kernel_rfl
theorem aRI (pl bt bd:Nat):bE prog (qG prog) f186.ntmps (plC fun _=>none) 40 (cA (cB iT)) (aRG pl bt bd) (aRF pl bt bd)=some ([],.nrm,aRF pl bt bd):=by kernel_rfl
theorem aRH (old:Nat→Nat→List At→Prop) (pl bt bd bT N b o n m:Nat):bE prog (qX prog (aKW old bT N b o n m 0)) f186.ntmps (plC fun _=>none) 40 (cA (cA (cB (cB iT)))) (aRF pl bt bd) (JN pl bt bd N 0 (F2.zero,F2.zero,F2.zero))=some ([old bt 0 [.c (dG bT 0 N N)]],.nrm,JN pl bt bd N 0 (F2.zero,F2.zero,F2.zero)):=by kernel_rfl
theorem aRK (old:Nat→Nat→List At→Prop) (pl bt bd bT N b o n m i:Nat) (x:Nat→Nat) (p c:J2):bE prog (qX prog (aKW old bT N b o n m i)) f186.ntmps (fun _=>⟨fun _=>bAc bT b o n m x i p,fun _=>true,assoc [(10,.bool true),(22,iI (i+1))]⟩) 40 TA (JN pl bt bd N i c) (JN pl bt bd N (i+1) (jX F2 c (Td p (rK (x i) pl))))=some ([aH .lss .i64 (Int.ofNat i) (Int.ofNat N)=some (.bool true),old bt 0 [.c (dG bT 0 N N)],Int.ofNat i=Int.ofNat i,i<N,old bd 0 (iE b o n m),cF (iE b o n m)=2,b=b,o=o,n=n,m=m,i<n,pl<1152921504606846976,bT=bT,0+i*192=i*192,-8≤rK (x i) pl,rK (x i) pl≤8,aH .add .i64 (Int.ofNat i) 1=some (iI (i+1))],.nrm,JN pl bt bd N (i+1) (jX F2 c (Td p (rK (x i) pl)))):=by kernel_rfl
theorem aKX (pl bt bd N i:Nat) (c:J2):bE prog (qG prog) f186.ntmps (plC (assoc [(10,.bool false)])) 40 TA (JN pl bt bd N i c) (JN pl bt bd N i c)=some ([aH .lss .i64 (Int.ofNat i) (Int.ofNat N)=some (.bool false)],.ex 0,JN pl bt bd N i c):=by kernel_rfl
theorem aFo (pl bt bd N i:Nat) (c:J2):bE prog (qG prog) f186.ntmps (plC fun _=>none) 40 (cB (cB (cB iT))) (JN pl bt bd N i c) [.slot 4 (.pt 4 0),.row 4 true (bI c)]=some ([],.rt,[.slot 4 (.pt 4 0),.row 4 true (bI c)]):=by kernel_rfl
structure ClMem2 (w:World) (bt bd bT N b o n m:Nat) (x:Nat→Nat) (pt:Nat→J2):Prop where
 t:oldOf w bt 0 [.c (dG bT 0 N N)]
 d:oldOf w bd 0 (iE b o n m)
 x:∀i,i<n→oldOf w b (o+i*4) [.q (x i)]
 p:∀i,i<N→∀k,k<8→oldOf w bT (i*192+k*24) (bI (LQ (pt i) (k+1)))
theorem ClMem2.on {w w':World} (hb:Below w.heap.size w w') {bt bd bT N b o n m:Nat} {x:Nat→Nat} {pt:Nat→J2} (h:ClMem2 w bt bd bT N b o n m x pt):ClMem2 w' bt bd bT N b o n m x pt :=
 ⟨h.t.on hb (base:=0),h.d.on hb (base:=0),fun i hi=>(h.x i hi).on hb (base:=0),fun i hi k hk=>(h.p i hi k hk).on hb (base:=0)⟩
theorem Yi {w0:World} {bt bd bT N b o n m:Nat} {x:Nat→Nat} {pt:Nat→J2} (h:ClMem2 w0 bt bd bT N b o n m x pt) (hN:N≤n) (hn:n<4611686018427387904) {pl:Nat} (hpl:pl<1152921504606846976):Calls prog 186 #[iI pl,rU bt 0,rU bd 0] w0 (fun e w'=>e=.returned (.agg (aA (bI (OG pt x pl N))).toArray)∧Below w0.heap.size w0 w'):=by
 have hG:dC prog (qG prog) w0.heap.size w0:=(aJ _).w _ _;have hT:∀n d:Nat,TabOkW prog (lW true) w0.heap.size w0:=fun _ _=>(sV true).w _ _
 refine fT func186 (c:=iT) rfl (args:=[iI pl,rU bt 0,rU bd 0]) (cs:=[.v (.im (iI pl)),.v (.im (rU bt 0)),.v (.im (rU bd 0))]) ⟨rfl,rfl,rfl,trivial⟩ (Nat.le_of_ble_eq_true (by kernel_rfl)) fun a w' hA => ?_
 rw[aFp];refine wp_seq (aF aG hT hG (aRJ pl bt bd) trivial hA fun a w' hA => ?_);refine wp_seq (aF aG hT hG (aRI pl bt bd) trivial hA fun a w' hA => ?_);refine wp_seq (wp_seq (aF aG hT (LU (x:=aKW (oldOf w0) bT N b o n m 0) rfl rfl) (aRH (oldOf w0) pl bt bd bT N b o n m) ⟨h.t,trivial⟩ hA fun a w' hA => ?_));refine wp_block ?_;refine mD aG (fun i=>JN pl bt bd N i (OG pt x pl i)) N (fun i hi => ?_) (.ex 0) (by simp) (JN pl bt bd N N (OG pt x pl N)) ?_ hA fun a w' hA => ?_
 ·refine⟨_,_,_,_,LU (x:=aKW (oldOf w0) bT N b o n m i) rfl rfl,fun _ _ => ?_,aRK (oldOf w0) pl bt bd bT N b o n m i x (pt i) (OG pt x pl i),cK hi,h.t,rfl,hi,h.d,rfl,rfl,rfl,rfl,rfl,by omega,hpl,rfl,by omega,(Rg _ _).1,(Rg _ _).2,pR (k:=1) (by omega),trivial⟩;refine TabOkW.add (TabOkW.add ((sV true).w _ _) func189 (by kernel_rfl) (by kernel_rfl) fun w hw => ?_) func188 (by kernel_rfl) (by kernel_rfl) fun w hw => ?_
  ·exact aQY fun j hj=>(h.x j hj).on hw (base:=0)
  ·exact aEk fun k hk=>(h.p i hi k hk).on hw (base:=0)
 ·exact⟨_,_,_,_,hG,hT,aKX pl bt bd N N _,gQ (Nat.le_refl _),trivial⟩
 ·show (cB (cB (cB iT))).wp _ _ _ _;exact aF aG hT hG (aFo pl bt bd N N _) trivial hA fun a w' hA=>gZ (l:=[.fl (bI (OG pt x pl N))]) (r:=.one (.fl (bI (OG pt x pl N)))) (by kernel_rfl) (by kernel_rfl) hA
def Wo (D:Nat→J2) (PL:Nat):Nat→J2
 | 0=>(F2.zero,F2.zero,F2.zero)
 | i+1=>jX F2 (cN F2 (cN F2 (cN F2 (cN F2 (Wo D PL i))))) (D (PL-1-i))
def JM (bt bd:Nat):Value:=.func (.func 186) #[] #[rU bt 0,rU bd 0]
def GR (bt bd b o n m PL i:Nat) (c:J2):List Fact:=[.slot 1 (.im (JM bt bd)),.slot 2 (.pt 2 0),.row 2 true (iE b o n m),.slot 4 (.pt 4 0),.row 4 true (bI (F2.zero,F2.zero,F2.zero)),.slot 5 (.pt 5 0),.row 5 true (bI c),.slot 6 (.im (iI PL)),.slot 10 (.im (iI PL)),.slot 11 (.im (iI i))]
def aWh (bt bd:Nat) (D:Nat→J2):kI
 | [.v (.im (.int .i64 (.ofNat p))),.v (.im (.pointer (some ⟨b1,0,.none⟩))),.v (.im (.pointer (some ⟨b2,0,.none⟩)))]=>some ([b1=bt,b2=bd,p<1152921504606846976],.one (.fl (bI (D p))))
 | _=>none
def aYP (bt bd b o n m PL:Nat) (D:Nat→J2):Tab:=((lW true).add 199 (gPl b o n m PL)).add 186 (aWh bt bd D)
def gP:Code:=(f185.body).getD .skip
def QY:Code:=vG (vG (cB (cA (cB (cB (cB gP))))))
theorem aCe:gP=.seq (cA gP) (.seq (cA (cB gP)) (.seq (cA (cB (cB gP))) (.seq (.seq (cA (cA (cB (cB (cB gP))))) (.block 0 (.loop QY))) (cB (cB (cB (cB gP))))))):=by kernel_rfl
def ZW (bt bd b o n m PL:Nat) (D:Nat→J2) (num:Nat→Option Value) (_:Nat):Cfg:=⟨fun _=>aYP bt bd b o n m PL D,fun _=>true,num⟩
def aPm (bt bd b o n m:Nat):List Fact:=[.slot 1 (.im (JM bt bd)),.slot 2 (.pt 2 0),.row 2 true (iE b o n m),.slot 4 (.pt 4 0),.row 4 true (bI (F2.zero,F2.zero,F2.zero))]
def aPl (bt bd b o n m:Nat):List Fact:=[.slot 1 (.im (JM bt bd)),.slot 2 (.pt 2 0),.row 2 true (iE b o n m),.slot 4 (.pt 4 0),.row 4 true (bI (F2.zero,F2.zero,F2.zero)),.slot 5 (.pt 5 0),.row 5 true (bI (F2.zero,F2.zero,F2.zero))]
def aCc (bt bd b o n m PL:Nat):List Fact:=[.slot 1 (.im (JM bt bd)),.slot 2 (.pt 2 0),.row 2 true (iE b o n m),.slot 4 (.pt 4 0),.row 4 true (bI (F2.zero,F2.zero,F2.zero)),.slot 5 (.pt 5 0),.row 5 true (bI (F2.zero,F2.zero,F2.zero)),.slot 6 (.im (iI PL))]
theorem aPq (bt bd b o n m PL:Nat) (D:Nat→J2):bE prog (qG prog) f185.ntmps (ZW bt bd b o n m PL D fun _=>none) 40 (cA gP) (nU 0 [.v (.fl (iE b o n m)),.v (.im (JM bt bd))]) (aPm bt bd b o n m)=some ([],.nrm,aPm bt bd b o n m):=by kernel_rfl
theorem aPp (bt bd b o n m PL:Nat) (D:Nat→J2):bE prog (qG prog) f185.ntmps (ZW bt bd b o n m PL D fun _=>none) 40 (cA (cB gP)) (aPm bt bd b o n m) (aPl bt bd b o n m)=some ([],.nrm,aPl bt bd b o n m):=by kernel_rfl
theorem aPo (bt bd b o n m PL:Nat) (D:Nat→J2):bE prog (qG prog) f185.ntmps (ZW bt bd b o n m PL D fun _=>none) 40 (cA (cB (cB gP))) (aPl bt bd b o n m) (aCc bt bd b o n m PL)=some ([b=b,o=o,n=n,m=m],.nrm,aCc bt bd b o n m PL):=by kernel_rfl
theorem aPn (bt bd b o n m PL:Nat) (D:Nat→J2):bE prog (qG prog) f185.ntmps (ZW bt bd b o n m PL D fun _=>none) 40 (cA (cA (cB (cB (cB gP))))) (aCc bt bd b o n m PL) (GR bt bd b o n m PL 0 (F2.zero,F2.zero,F2.zero))=some ([],.nrm,GR bt bd b o n m PL 0 (F2.zero,F2.zero,F2.zero)):=by kernel_rfl
theorem aPr (bt bd b o n m PL i:Nat) (D:Nat→J2) (c:J2):bE prog (qG prog) f185.ntmps (ZW bt bd b o n m PL D (assoc [(12,.bool true),(24,iI (PL-1)),(26,iI (PL-1-i)),(29,iI (i+1))])) 60 QY (GR bt bd b o n m PL i c) (GR bt bd b o n m PL (i+1) (jX F2 (cN F2 (cN F2 (cN F2 (cN F2 c)))) (D (PL-1-i))))=some ([aH .lss .i64 (Int.ofNat i) (Int.ofNat PL)=some (.bool true),aH .sub .i64 (Int.ofNat PL) 1=some (iI (PL-1)),aH .sub .i64 (Int.ofNat (PL-1)) (Int.ofNat i)=some (iI (PL-1-i)),bt=bt,bd=bd,PL-1-i<1152921504606846976,aH .add .i64 (Int.ofNat i) 1=some (iI (i+1))],.nrm,GR bt bd b o n m PL (i+1) (jX F2 (cN F2 (cN F2 (cN F2 (cN F2 c)))) (D (PL-1-i)))):=by kernel_rfl
theorem aJk (bt bd b o n m PL i:Nat) (D:Nat→J2) (c:J2):bE prog (qG prog) f185.ntmps (ZW bt bd b o n m PL D (assoc [(12,.bool false)])) 40 QY (GR bt bd b o n m PL i c) (GR bt bd b o n m PL i c)=some ([aH .lss .i64 (Int.ofNat i) (Int.ofNat PL)=some (.bool false)],.ex 0,GR bt bd b o n m PL i c):=by kernel_rfl
theorem aCd (bt bd b o n m PL i:Nat) (D:Nat→J2) (c:J2):bE prog (qG prog) f185.ntmps (ZW bt bd b o n m PL D fun _=>none) 40 (cB (cB (cB (cB gP)))) (GR bt bd b o n m PL i c) [.slot 4 (.pt 4 0),.row 4 true (bI c)]=some ([],.rt,[.slot 4 (.pt 4 0),.row 4 true (bI c)]):=by kernel_rfl
theorem Wn {w0:World} {bt bd bT N b o n m:Nat} {x:Nat→Nat} {pt:Nat→J2} (h:ClMem2 w0 bt bd bT N b o n m x pt) (hN:N≤n) (hn:n<4611686018427387904):Calls prog 185 #[.agg (aA (iE b o n m)).toArray,JM bt bd] w0 (fun e w'=>e=.returned (.agg (aA (bI (Wo (fun p=>OG pt x p N) (uQ x n/4+1) (uQ x n/4+1)))).toArray)∧Below w0.heap.size w0 w'):=by
 have hG:dC prog (qG prog) w0.heap.size w0:=(aJ _).w _ _;have hL:=Iq x n;generalize hPL:uQ x n/4+1=PL;have hPL':PL<1000:=by omega
 have hT:∀num,∀n' d:Nat,TabOkW prog ((ZW bt bd b o n m PL (fun p=>OG pt x p N) num n').T d) w0.heap.size w0:=fun num _ _=>by
  refine TabOkW.add (TabOkW.add ((sV true).w _ _) func199 (by kernel_rfl) (by kernel_rfl) fun w hw cs pre r hg hq args ha => ?_) func186 (by kernel_rfl) (by kernel_rfl) fun w hw cs pre r hg hq args ha => ?_
  ·unfold gPl at hg;split at hg
   ·cases hg;obtain⟨rfl,rfl,rfl,rfl,_⟩:=hq;rw[DA ha,←hPL];exact QU _ _ _ _ x (fun j hj=>(h.x j hj).on hw (base:=0)) hn
   ·cases hg
  ·unfold aWh at hg;split at hg
   ·rename_i p b1 b2;cases hg;obtain⟨rfl,rfl,hp,_⟩:=hq
    match args,ha with
    | [u,v,t],ha =>
     have e1:u=iI p:=ha.1;have e2:v=rU b1 0:=ha.2.1;have e3:t=rU b2 0:=ha.2.2.1;subst e1; subst e2; subst e3;exact Yi (h.on hw) hN hn hp
    | [],ha=>exact ha.elim
    | [_],ha=>exact ha.2.elim
    | [_,_],ha=>exact ha.2.2.elim
    | _::_::_::_::_,ha=>exact ha.2.2.2.elim
   ·cases hg
 refine fT func185 (c:=gP) rfl (args:=[.agg (aA (iE b o n m)).toArray,JM bt bd]) (cs:=[.v (.fl (iE b o n m)),.v (.im (JM bt bd))]) ⟨rfl,rfl,trivial⟩ (Nat.le_of_ble_eq_true (by kernel_rfl)) fun a w' hA => ?_
 rw[aCe];refine wp_seq (aF aG (hT _) hG (aPq bt bd b o n m PL _) trivial hA fun a w' hA => ?_);refine wp_seq (aF aG (hT _) hG (aPp bt bd b o n m PL _) trivial hA fun a w' hA => ?_);refine wp_seq (aF aG (hT _) hG (aPo bt bd b o n m PL _) ⟨rfl,rfl,rfl,rfl,trivial⟩ hA fun a w' hA => ?_);refine wp_seq (wp_seq (aF aG (hT _) hG (aPn bt bd b o n m PL _) trivial hA fun a w' hA => ?_));refine wp_block ?_;refine mD aG (fun i=>GR bt bd b o n m PL i (Wo (fun p=>OG pt x p N) PL i)) PL (fun i hi => ?_) (.ex 0) (by simp) (GR bt bd b o n m PL PL (Wo (fun p=>OG pt x p N) PL PL)) ?_ hA fun a w' hA => ?_
 ·exact⟨_,_,_,_,hG,hT _,aPr bt bd b o n m PL i _ (Wo (fun p=>OG pt x p N) PL i),cK hi,CK (k:=1) (by omega) (by omega),CK (by omega) (by omega),rfl,rfl,by omega,pR (k:=1) (by omega),trivial⟩
 ·exact⟨_,_,_,_,hG,hT _,aJk bt bd b o n m PL PL _ _,gQ (Nat.le_refl _),trivial⟩
 ·show (cB (cB (cB (cB gP)))).wp _ _ _ _;exact aF aG (hT _) hG (aCd bt bd b o n m PL PL _ _) trivial hA fun a w' hA=>gZ (l:=[.fl (bI (Wo (fun p=>OG pt x p N) PL PL))]) (r:=.one (.fl (bI (Wo (fun p=>OG pt x p N) PL PL)))) (by kernel_rfl) (by kernel_rfl) hA
end Go.Proofs.YtjkpglhlmknciaaGreat.Ex
