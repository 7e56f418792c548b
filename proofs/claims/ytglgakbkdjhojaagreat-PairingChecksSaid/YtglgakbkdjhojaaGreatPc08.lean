/- Pc08 -/
import Derived.Deep.DeepCutAuto
import Derived.Test.YtglgakbkdjhojaaGreatPc03
import Derived.Test.YtglgakbkdjhojaaGreatPc07
import Derived.Test.YtglgakbkdjhojaaGreatPc06
import Derived.Test.YtglgakbkdjhojaaGreatPc02
import Derived.Test.YtglgakbkdjhojaaGreatPc04
import Derived.Test.YtglgakbkdjhojaaGreatPc05
import Derived.Test.YtglgakbkdjhojaaGreatProg
set_option maxRecDepth 100000
set_option linter.unusedVariables false
set_option linter.unusedSimpArgs false
noncomputable section
namespace Go.Proofs.YtglgakbkdjhojaaGreat.Ex
open Go.Proofs.Tryz
open Classical
section
variable {R:Type} (K:CR R) (inv:R→R)
abbrev Jc (R:Type):=R×R×R
def fT (p:Jc R):Pt R:=if p.2.2=K.zero then none else some (K.mul p.1 (K.mul (inv p.2.2) (inv p.2.2)),K.mul p.2.1 (K.mul (K.mul (inv p.2.2) (inv p.2.2)) (inv p.2.2)))
def dSl (p:Jc R):R:=K.add (K.add (K.mul p.1 p.1) (K.mul p.1 p.1)) (K.mul p.1 p.1)
def dTw (p:Jc R):R:=K.add (K.mul p.2.1 p.2.1) (K.mul p.2.1 p.2.1)
def dFo (p:Jc R):R:=K.add (dTw K p) (dTw K p)
def dBa (p:Jc R):R:=K.mul p.1 (dFo K p)
def dX (p:Jc R):R:=K.sub (K.mul (dSl K p) (dSl K p)) (K.add (dBa K p) (dBa K p))
def dY (p:Jc R):R:=K.sub (K.mul (dSl K p) (K.sub (dBa K p) (dX K p))) (K.mul (dFo K p) (dTw K p))
def cK (p:Jc R):Jc R:=(dX K p,dY K p,K.mul (K.add p.2.1 p.2.1) p.2.2)
def EF (p q:Jc R):R:=K.mul p.1 (K.mul q.2.2 q.2.2)
def CI (p q:Jc R):R:=K.mul p.2.1 (K.mul (K.mul q.2.2 q.2.2) q.2.2)
def CJ (p q:Jc R):R:=K.sub (EF K q p) (EF K p q)
def Ag (p q:Jc R):R:=K.sub (CI K q p) (CI K p q)
def sX (px a up:R):R:=K.sub (K.sub (K.mul up up) (K.mul (K.mul a a) a)) (K.add (K.mul px (K.mul a a)) (K.mul px (K.mul a a)))
def sY (px py a up:R):R:=K.sub (K.mul up (K.sub (K.mul px (K.mul a a)) (sX K px a up))) (K.mul py (K.mul (K.mul a a) a))
def IR (p q:Jc R):Jc R:=(sX K (EF K p q) (CJ K p q) (Ag K p q),sY K (EF K p q) (CI K p q) (CJ K p q) (Ag K p q),K.mul (K.mul p.2.2 q.2.2) (CJ K p q))
def eD (p q:Jc R):Jc R :=
 if p.2.2=K.zero then q else if q.2.2=K.zero then p else if CJ K p q=K.zero∧Ag K p q=K.zero then cK K p else IR K p q
def rplus (p q:Jc R):Jc R :=
 if p.2.2=K.zero then q else if q.2.2=K.zero then p else if CJ K p q=K.zero∧Ag K p q=K.zero then cK K p else if CJ K p q=K.zero then (K.one,K.one,K.zero)else IR K p q
variable {K} {inv} {b:R}
theorem dJ {p:Jc R} (h:p.2.2=K.zero):fT K inv p=none:=if_pos h
theorem dT {p:Jc R} (h:p.2.2≠K.zero):fT K inv p=some (K.mul p.1 (K.mul (inv p.2.2) (inv p.2.2)),K.mul p.2.1 (K.mul (K.mul (inv p.2.2) (inv p.2.2)) (inv p.2.2))):=if_neg h
theorem zL (E:EC K inv b) {x y l:R} (hy:K.add y y≠K.zero) (h:K.mul l (K.add y y)=K.add (K.add (K.mul x x) (K.mul x x)) (K.mul x x)):dH K inv x y x y=l:=by
 unfold dH;rw[if_pos rfl];refine E.F.cancel hy ?_;have hi:=E.F.inv _ hy;generalize inv (K.add y y)=k at hi;exact jX (K:=K) (c1:=(K.add (K.add (K.mul x x) (K.mul x x)) (K.mul x x))) (c2:=(K.neg K.one)) hi h (aE K (aU K [y,x,k,l]) ((Z0+Z0)*((Z1*Z1+Z1*Z1+Z1*Z1)*Z2)-(Z0+Z0)*Z3) ((Z1*Z1+Z1*Z1+Z1*Z1)*((Z0+Z0)*Z2-RE.one)+(-RE.one)*(Z3*(Z0+Z0)-(Z1*Z1+Z1*Z1+Z1*Z1))) (by kernel_rfl))
theorem sI (E:EC K inv b) {x1 y1 x2 y2 l:R} (hx:x1≠x2) (h:K.mul l (K.sub x2 x1)=K.sub y2 y1):dH K inv x1 y1 x2 y2=l:=by
 unfold dH;rw[if_neg hx];have hd:K.sub x2 x1≠K.zero:=PD fun e=>hx e.symm
 have hi:=E.F.inv _ hd;refine E.F.cancel hd ?_;generalize inv (K.sub x2 x1)=k at hi;exact jX (K:=K) (c1:=(K.sub y2 y1)) (c2:=(K.neg K.one)) hi h (aE K (aU K [x2,x1,y2,y1,k,l]) ((Z0-Z1)*((Z2-Z3)*Z4)-(Z0-Z1)*Z5) ((Z2-Z3)*((Z0-Z1)*Z4-RE.one)+(-RE.one)*(Z5*(Z0-Z1)-(Z2-Z3))) (by kernel_rfl))
theorem RL (E:EC K inv b) {p:Jc R} (hp:On K b (fT K inv p)):fT K inv (cK K p)=hZ K inv (fT K inv p) (fT K inv p):=by
 obtain⟨x,y,z⟩:=p
 by_cases hz:z=K.zero
 ·have h1:fT K inv (x,y,z)=none:=dJ hz;rw[h1];refine dJ ?_;show K.mul (K.add y y) z=K.zero;rw[hz,K.mul_zero]
 ·have h1:=dT (K:=K) (inv:=inv) (p:=(x,y,z)) hz;rw[h1]at hp ⊢;dsimp only at hp ⊢;have hi:=E.F.inv z hz;generalize inv z=i at hi hp ⊢;have hY:=E.y_ne (show K.mul (K.mul y (K.mul (K.mul i i) i)) (K.mul y (K.mul (K.mul i i) i))=_ from hp);have hy:y≠K.zero:=fun e=>hY (by rw[e,K.zero_mul])
  have hyy:=E.dbl_ne hy;have hz3:K.mul (K.add y y) z≠K.zero:=E.F.mul_ne hyy hz;have h3:=dT (K:=K) (inv:=inv) (p:=cK K (x,y,z)) hz3;rw[h3];show some (K.mul (dX K (x,y,z)) (K.mul (inv (K.mul (K.add y y) z)) (inv (K.mul (K.add y y) z))),K.mul (dY K (x,y,z)) (K.mul (K.mul (inv (K.mul (K.add y y) z)) (inv (K.mul (K.add y y) z))) (inv (K.mul (K.add y y) z))))=_;have hj:=E.F.inv _ hz3;generalize inv (K.mul (K.add y y) z)=j at hj ⊢;have e:i=K.mul (K.add y y) j:=jX (K:=K) (c1:=(K.neg i)) (c2:=(K.mul (K.add y y) j)) hj hi (aE K (aU K [i,y,j,z]) (Z0-(Z1+Z1)*Z2) ((-Z0)*((Z1+Z1)*Z3*Z2-RE.one)+(Z1+Z1)*Z2*(Z3*Z0-RE.one)) (by kernel_rfl));subst e;have hYY:=E.dbl_ne hY;rw[jD (fun h=>hYY h.2)];dsimp only;have hs:=zL (l:=(K.mul (K.add (K.add (K.mul x x) (K.mul x x)) (K.mul x x)) j)) (x:=(K.mul x (K.mul (K.mul (K.add y y) j) (K.mul (K.add y y) j)))) E hYY (aE K (aU K [x,j,y]) ((Z0*Z0+Z0*Z0+Z0*Z0)*Z1*(Z2*((Z2+Z2)*Z1*((Z2+Z2)*Z1)*((Z2+Z2)*Z1))+Z2*((Z2+Z2)*Z1*((Z2+Z2)*Z1)*((Z2+Z2)*Z1)))) (Z0*((Z2+Z2)*Z1*((Z2+Z2)*Z1))*(Z0*((Z2+Z2)*Z1*((Z2+Z2)*Z1)))+Z0*((Z2+Z2)*Z1*((Z2+Z2)*Z1))*(Z0*((Z2+Z2)*Z1*((Z2+Z2)*Z1)))+Z0*((Z2+Z2)*Z1*((Z2+Z2)*Z1))*(Z0*((Z2+Z2)*Z1*((Z2+Z2)*Z1)))) (by kernel_rfl));rw[hs];refine congrArg some (Prod.ext ?_ ?_)
  ·exact aE K (aU K [x,y,j]) (((Z0*Z0+Z0*Z0+Z0*Z0)*(Z0*Z0+Z0*Z0+Z0*Z0)-(Z0*(Z1*Z1+Z1*Z1+(Z1*Z1+Z1*Z1))+Z0*(Z1*Z1+Z1*Z1+(Z1*Z1+Z1*Z1))))*(Z2*Z2)) ((Z0*Z0+Z0*Z0+Z0*Z0)*Z2*((Z0*Z0+Z0*Z0+Z0*Z0)*Z2)-Z0*((Z1+Z1)*Z2*((Z1+Z1)*Z2))-Z0*((Z1+Z1)*Z2*((Z1+Z1)*Z2))) (by kernel_rfl)
  ·exact aE K (aU K [x,y,j]) (((Z0*Z0+Z0*Z0+Z0*Z0)*(Z0*(Z1*Z1+Z1*Z1+(Z1*Z1+Z1*Z1))-((Z0*Z0+Z0*Z0+Z0*Z0)*(Z0*Z0+Z0*Z0+Z0*Z0)-(Z0*(Z1*Z1+Z1*Z1+(Z1*Z1+Z1*Z1))+Z0*(Z1*Z1+Z1*Z1+(Z1*Z1+Z1*Z1)))))-(Z1*Z1+Z1*Z1+(Z1*Z1+Z1*Z1))*(Z1*Z1+Z1*Z1))*(Z2*Z2*Z2)) ((Z0*Z0+Z0*Z0+Z0*Z0)*Z2*(Z0*((Z1+Z1)*Z2*((Z1+Z1)*Z2))-((Z0*Z0+Z0*Z0+Z0*Z0)*Z2*((Z0*Z0+Z0*Z0+Z0*Z0)*Z2)-Z0*((Z1+Z1)*Z2*((Z1+Z1)*Z2))-Z0*((Z1+Z1)*Z2*((Z1+Z1)*Z2))))-Z1*((Z1+Z1)*Z2*((Z1+Z1)*Z2)*((Z1+Z1)*Z2))) (by kernel_rfl)
theorem IQ (E:EC K inv b) {p q:Jc R} (hp:p.2.2≠K.zero) (hq:q.2.2≠K.zero):∃w,K.mul (K.mul p.2.2 q.2.2) w=K.one∧fT K inv p=some (K.mul (EF K p q) (K.mul w w),K.mul (CI K p q) (K.mul (K.mul w w) w))∧fT K inv q=some (K.mul (EF K q p) (K.mul w w),K.mul (CI K q p) (K.mul (K.mul w w) w)):=by
 obtain⟨x1,y1,z1⟩:=p;obtain⟨x2,y2,z2⟩:=q;have h1:=E.F.inv z1 hp;have h2:=E.F.inv z2 hq;rw[dT hp,dT hq];dsimp only at *;generalize inv z1=i at h1 ⊢;generalize inv z2=j at h2 ⊢;refine⟨K.mul i j,?_,congrArg some (Prod.ext ?_ ?_),congrArg some (Prod.ext ?_ ?_)⟩
 ·exact jX (K:=K) (c1:=(K.mul z2 j)) (c2:=K.one) h1 h2 (aE K (aU K [z1,z2,i,j]) (Z0*Z1*(Z2*Z3)-RE.one) (Z1*Z3*(Z0*Z2-RE.one)+RE.one*(Z1*Z3-RE.one)) (by kernel_rfl))
 ·exact gT (K:=K) (c1:=(K.mul (K.neg (K.mul x1 (K.mul i i))) (K.add (K.mul z2 j) K.one))) h2 (aE K (aU K [x1,i,z2,j]) (Z0*(Z1*Z1)-Z0*(Z2*Z2)*(Z1*Z3*(Z1*Z3))) ((-(Z0*(Z1*Z1)))*(Z2*Z3+RE.one)*(Z2*Z3-RE.one)) (by kernel_rfl))
 ·exact gT (K:=K) (c1:=(K.mul (K.neg (K.mul y1 (K.mul (K.mul i i) i))) (K.add (K.add (K.mul (K.mul z2 j) (K.mul z2 j)) (K.mul z2 j)) K.one))) h2 (aE K (aU K [y1,i,z2,j]) (Z0*(Z1*Z1*Z1)-Z0*(Z2*Z2*Z2)*(Z1*Z3*(Z1*Z3)*(Z1*Z3))) ((-(Z0*(Z1*Z1*Z1)))*(Z2*Z3*(Z2*Z3)+Z2*Z3+RE.one)*(Z2*Z3-RE.one)) (by kernel_rfl))
 ·exact gT (K:=K) (c1:=(K.mul (K.neg (K.mul x2 (K.mul j j))) (K.add (K.mul z1 i) K.one))) h1 (aE K (aU K [x2,j,z1,i]) (Z0*(Z1*Z1)-Z0*(Z2*Z2)*(Z3*Z1*(Z3*Z1))) ((-(Z0*(Z1*Z1)))*(Z2*Z3+RE.one)*(Z2*Z3-RE.one)) (by kernel_rfl))
 ·exact gT (K:=K) (c1:=(K.mul (K.neg (K.mul y2 (K.mul (K.mul j j) j))) (K.add (K.add (K.mul (K.mul z1 i) (K.mul z1 i)) (K.mul z1 i)) K.one))) h1 (aE K (aU K [y2,j,z1,i]) (Z0*(Z1*Z1*Z1)-Z0*(Z2*Z2*Z2)*(Z3*Z1*(Z3*Z1)*(Z3*Z1))) ((-(Z0*(Z1*Z1*Z1)))*(Z2*Z3*(Z2*Z3)+Z2*Z3+RE.one)*(Z2*Z3-RE.one)) (by kernel_rfl))
theorem aEy (E:EC K inv b) {px py qx qy w zz j:R} (hw:K.mul zz w=K.one) (ha:K.sub qx px≠K.zero) (hj:K.mul (K.mul zz (K.sub qx px)) j=K.one) :
  hZ K inv (some (K.mul px (K.mul w w),K.mul py (K.mul (K.mul w w) w))) (some (K.mul qx (K.mul w w),K.mul qy (K.mul (K.mul w w) w)))=some (K.mul (sX K px (K.sub qx px) (K.sub qy py)) (K.mul j j),K.mul (sY K px py (K.sub qx px) (K.sub qy py)) (K.mul (K.mul j j) j)):=by
 have hw0:w≠K.zero:=fun e=>E.F.ne (by rw[←hw,e,K.mul_zero])
 have e:w=K.mul (K.sub qx px) j:=jX (K:=K) (c1:=(K.neg w)) (c2:=(K.mul (K.sub qx px) j)) hj hw (aE K (aU K [w,qx,px,j,zz]) (Z0-(Z1-Z2)*Z3) ((-Z0)*(Z4*(Z1-Z2)*Z3-RE.one)+(Z1-Z2)*Z3*(Z4*Z0-RE.one)) (by kernel_rfl));have hx:K.mul px (K.mul w w)≠K.mul qx (K.mul w w):=fun h=>by
  refine E.F.mul_ne ha (E.F.mul_ne hw0 hw0) ?_;have:K.mul (K.sub qx px) (K.mul w w)=K.sub (K.mul qx (K.mul w w)) (K.mul px (K.mul w w)):=aE K (aU K [qx,px,w]) ((Z0-Z1)*(Z2*Z2)) (Z0*(Z2*Z2)-Z1*(Z2*Z2)) (by kernel_rfl);rw[this,h];exact K.add_neg _
 rw[jD (fun h=>hx h.1)];dsimp only;have hs:=sI (l:=(K.mul (K.sub qy py) j)) (y1:=K.mul py (K.mul (K.mul w w) w)) (y2:=K.mul qy (K.mul (K.mul w w) w)) E hx (by
  subst e;exact aE K (aU K [qy,py,j,qx,px]) ((Z0-Z1)*Z2*(Z3*((Z3-Z4)*Z2*((Z3-Z4)*Z2))-Z4*((Z3-Z4)*Z2*((Z3-Z4)*Z2)))) (Z0*((Z3-Z4)*Z2*((Z3-Z4)*Z2)*((Z3-Z4)*Z2))-Z1*((Z3-Z4)*Z2*((Z3-Z4)*Z2)*((Z3-Z4)*Z2))) (by kernel_rfl))
 rw[hs];subst e;refine congrArg some (Prod.ext ?_ ?_)
 ·exact aE K (aU K [qy,py,j,px,qx]) ((Z0-Z1)*Z2*((Z0-Z1)*Z2)-Z3*((Z4-Z3)*Z2*((Z4-Z3)*Z2))-Z4*((Z4-Z3)*Z2*((Z4-Z3)*Z2))) (((Z0-Z1)*(Z0-Z1)-(Z4-Z3)*(Z4-Z3)*(Z4-Z3)-(Z3*((Z4-Z3)*(Z4-Z3))+Z3*((Z4-Z3)*(Z4-Z3))))*(Z2*Z2)) (by kernel_rfl)
 ·exact aE K (aU K [qy,py,j,px,qx]) ((Z0-Z1)*Z2*(Z3*((Z4-Z3)*Z2*((Z4-Z3)*Z2))-((Z0-Z1)*Z2*((Z0-Z1)*Z2)-Z3*((Z4-Z3)*Z2*((Z4-Z3)*Z2))-Z4*((Z4-Z3)*Z2*((Z4-Z3)*Z2))))-Z1*((Z4-Z3)*Z2*((Z4-Z3)*Z2)*((Z4-Z3)*Z2))) (((Z0-Z1)*(Z3*((Z4-Z3)*(Z4-Z3))-((Z0-Z1)*(Z0-Z1)-(Z4-Z3)*(Z4-Z3)*(Z4-Z3)-(Z3*((Z4-Z3)*(Z4-Z3))+Z3*((Z4-Z3)*(Z4-Z3)))))-Z1*((Z4-Z3)*(Z4-Z3)*(Z4-Z3)))*(Z2*Z2*Z2)) (by kernel_rfl)
theorem FO (E:EC K inv b) {y1 y2:R} (h:K.mul y1 y1=K.mul y2 y2) (hn:y1≠y2):K.add y1 y2=K.zero:=by
 refine E.F.zd (a:=K.sub y1 y2) ?_ (PD hn);have:K.mul (K.sub y1 y2) (K.add y1 y2)=K.sub (K.mul y1 y1) (K.mul y2 y2):=aE K (aU K [y1,y2]) ((Z0-Z1)*(Z0+Z1)) (Z0*Z0-Z1*Z1) (by kernel_rfl);rw[this,h];exact K.add_neg _
theorem My (E:EC K inv b) {p q:Jc R} (hp:On K b (fT K inv p)) (hq:On K b (fT K inv q)) (h1:p.2.2≠K.zero) (h2:q.2.2≠K.zero) (hn:¬(CJ K p q=K.zero∧Ag K p q=K.zero)) :
  fT K inv (IR K p q)=hZ K inv (fT K inv p) (fT K inv q):=by
 obtain⟨w,hw,e1,e2⟩:=IQ (K:=K) (inv:=inv) E h1 h2;rw[e1]at hp;rw[e2]at hq;rw[e1,e2]
 by_cases ha:CJ K p q=K.zero
 ·have hx:EF K q p=EF K p q:=iM ha;have hu:Ag K p q≠K.zero:=fun e=>hn ⟨ha,e⟩
  have hw0:w≠K.zero:=fun e=>E.F.ne (by rw[←hw,e,K.mul_zero])
  have hy:K.mul (CI K p q) (K.mul (K.mul w w) w)≠K.mul (CI K q p) (K.mul (K.mul w w) w):=fun h=>by
   refine E.F.mul_ne hu (E.F.mul_ne (E.F.mul_ne hw0 hw0) hw0) ?_;show K.mul (K.sub (CI K q p) (CI K p q)) _=_;have e0:∀s t c:R,K.mul (K.sub s t) c=K.sub (K.mul s c) (K.mul t c):=fun s t c=>aE K (aU K [s,t,c]) ((Z0-Z1)*Z2) (Z0*Z2-Z1*Z2) (by kernel_rfl)
   rw[e0,h];exact K.add_neg _
  rw[hx]at hq ⊢;have ho:=FO (y1:=K.mul (CI K p q) (K.mul (K.mul w w) w)) (y2:=K.mul (CI K q p) (K.mul (K.mul w w) w)) E ((show K.mul _ _=_ from hp).trans (show K.mul _ _=_ from hq).symm) hy;rw[kO (p:=(K.mul (EF K p q) (K.mul w w),K.mul (CI K p q) (K.mul (K.mul w w) w))) (q:=(K.mul (EF K p q) (K.mul w w),K.mul (CI K q p) (K.mul (K.mul w w) w))) ⟨rfl,ho⟩];refine dJ ?_;show K.mul (K.mul p.2.2 q.2.2) (CJ K p q)=K.zero;rw[ha,K.mul_zero]
 ·have hz:K.mul (K.mul p.2.2 q.2.2) (CJ K p q)≠K.zero:=E.F.mul_ne (E.F.mul_ne h1 h2) ha;have hj:=E.F.inv _ hz;refine (dT (p:=IR K p q) hz).trans ?_;exact (aEy E hw ha hj).symm
theorem Ah (E:EC K inv b) {p q:Jc R} (hp:On K b (fT K inv p)) (hq:On K b (fT K inv q)):fT K inv (eD K p q)=hZ K inv (fT K inv p) (fT K inv q):=by
 unfold eD
 by_cases h1:p.2.2=K.zero
 ·rw[if_pos h1,dJ h1]; rfl
 ·rw[if_neg h1]
  by_cases h2:q.2.2=K.zero
  ·rw[if_pos h2,dJ h2,dT h1]; rfl
  ·rw[if_neg h2]
   by_cases h3:CJ K p q=K.zero∧Ag K p q=K.zero
   ·rw[if_pos h3];obtain⟨w,hw,e1,e2⟩:=IQ (K:=K) (inv:=inv) E h1 h2;have hx:EF K q p=EF K p q:=iM h3.1;have hy:CI K q p=CI K p q:=iM h3.2;rw[RL E hp];rw[hx,hy]at e2;rw[e2,e1]
   ·rw[if_neg h3];exact My E hp hq h1 h2 h3
theorem Uu (E:EC K inv b) {p q:Jc R} (hp:On K b (fT K inv p)) (hq:On K b (fT K inv q)):fT K inv (rplus K p q)=hZ K inv (fT K inv p) (fT K inv q):=by
 rw[←Ah E hp hq];unfold rplus eD
 by_cases h1:p.2.2=K.zero
 ·rw[if_pos h1,if_pos h1]
 ·rw[if_neg h1,if_neg h1]
  by_cases h2:q.2.2=K.zero
  ·rw[if_pos h2,if_pos h2]
  ·rw[if_neg h2,if_neg h2]
   by_cases h3:CJ K p q=K.zero∧Ag K p q=K.zero
   ·rw[if_pos h3,if_pos h3]
   ·rw[if_neg h3,if_neg h3]
    by_cases h4:CJ K p q=K.zero
    ·rw[if_pos h4,dJ rfl];refine (dJ ?_).symm;show K.mul (K.mul p.2.2 q.2.2) (CJ K p q)=K.zero;rw[h4,K.mul_zero]
    ·rw[if_neg h4]
def tD (K:CR R) (p:Jc R):Jc R:=(p.1,K.sub K.zero p.2.1,p.2.2)
theorem aIZ (p:Jc R):fT K inv (tD K p)=MB K (fT K inv p):=by
 by_cases h:p.2.2=K.zero
 ·rw[dJ h,dJ (p:=tD K p) h]; rfl
 ·rw[dT h,dT (p:=tD K p) h];refine congrArg some (Prod.ext rfl ?_);show K.mul (K.sub K.zero p.2.1) _=K.neg (K.mul p.2.1 _);rw[←K.neg_mul];congr 1;exact K.zero_add _
end
open Go.RowKit
def vp:At→Option (List Prop×Fq)
 | .f x=>some ([],x)
 | .q x=>some ([wv x<FP.M],m1 x)
 | .c _=>none
theorem UV {a:At} {p:List Prop} {x:Fq} (h:vp a=some (p,x)) (hp:aZ p):∃n:Nat,aA [a]=aA (q1 n)∧m1 n=x∧wv n<FP.M:=by
 cases a with
 | f y=>cases h; exact⟨x.1,rfl,Mr x,by unfold wv; rw[bU x.2]; exact x.2⟩
 | q y=>cases h; exact⟨_,rfl,rfl,hp.1⟩
 | c v=>cases h
def g2p (op:Fq→Fq→RV):jV
 | [.v (.fl [a]),.v (.fl [b])]=>match vp a,vp b with
  | some (p,x),some (q,y)=>some (p++q,op x y)
  | _,_=>none
 | _=>none
theorem He {P:Program} {f:FuncId} {op:Fq→Fq→RV} (h:∀a b:Nat,wv a<FP.M→wv b<FP.M→∀args w,bQ w [.v (.fl (q1 a)),.v (.fl (q1 b))] args→Good P f (op (m1 a) (m1 b)) args w) :
  ∀cs pre r,g2p op cs=some (pre,r)→aZ pre→∀(args:List Value) (w:World),bQ w cs args→Good P f r args w:=by
 intro cs pre r hg hp args w ha;unfold g2p at hg;split at hg
 ·rename_i a b;split at hg
  ·rename_i p x q y hx hy;cases hg;obtain⟨p1,p2⟩:=iR.1 hp;obtain⟨n,e1,rfl,hn⟩:=UV hx p1;obtain⟨m,e2,rfl,hm⟩:=UV hy p2;refine h n m hn hm args w ?_
   match args,ha with
   | [v,u],ha =>
    have h1:v=.agg (aA [a]).toArray:=ha.1;have h2:u=.agg (aA [b]).toArray:=ha.2.1;rw[e1]at h1;rw[e2]at h2;exact⟨h1,h2,trivial⟩
   | [],ha=>exact ha.elim
   | [_],ha=>exact ha.2.elim
   | _::_::_::_,ha=>exact ha.2.2.elim
  ·cases hg
 ·cases hg
def gF2 (op:Fq→Fq→Fq):jV
 | [.v (.im (.int .i64 (.ofNat 1))),.v (.fl [a]),.v (.fl [b])]=>match vp a,vp b with
  | some (p,x),some (q,y)=>some (p++q,.many [.fl (e1 (op x y)),.im (.int .i64 0)])
  | _,_=>none
 | _=>none
theorem Hc {f:FuncId} {op:Fq→Fq→Fq} (h:∀(a b:Nat) (w:World),wv a<FP.M→wv b<FP.M→Calls prog f #[.int .i64 1,.agg (aA (q1 a)).toArray,.agg (aA (q1 b)).toArray] w (Ji 0 (op (m1 a) (m1 b)).1 w)) :
  ∀cs pre r,gF2 op cs=some (pre,r)→aZ pre→∀(args:List Value) (w:World),bQ w cs args→Good prog f r args w:=by
 intro cs pre r hg hp args w ha;unfold gF2 at hg;split at hg
 ·rename_i a b;split at hg
  ·rename_i p x q y hx hy;cases hg;obtain⟨p1,p2⟩:=iR.1 hp;obtain⟨n,e1,rfl,hn⟩:=UV hx p1;obtain⟨m,e2,rfl,hm⟩:=UV hy p2
   match args,ha with
   | [t,v,u],ha =>
    have h0:t=.int .i64 1:=ha.1;have h1:v=.agg (aA [a]).toArray:=ha.2.1;have h2:u=.agg (aA [b]).toArray:=ha.2.2.1;rw[e1]at h1;rw[e2]at h2;subst h0; subst h1; subst h2;refine (h n m w hn hm).mono ?_
    rintro e w' ⟨s0,s1,s2,s3,rfl,hs,hv,hb⟩
    obtain⟨rfl,rfl,rfl,rfl⟩:=lM hs (rY (op (m1 n) (m1 m)).2) hv;exact⟨rfl,hb⟩
   | [],ha=>exact ha.elim
   | [_],ha=>exact ha.2.elim
   | [_,_],ha=>exact ha.2.2.elim
   | _::_::_::_::_,ha=>exact ha.2.2.2.elim
  ·cases hg
 ·cases hg
theorem aWZ (a b:Nat) (w:World) (ha:wv a<FP.M) (hb:wv b<FP.M):Calls prog 251 #[.int .i64 1,.agg (aA (q1 a)).toArray,.agg (aA (q1 b)).toArray] w (Ji 0 (F1.add (m1 a) (m1 b)).1 w):=by
 have e:(F1.add (m1 a) (m1 b)).1=(wv a+wv b)%FP.M:=(Nat.add_mod _ _ _).symm;rw[e];exact Nv 1 FP tG _ _ _ _ _ _ _ _ (dE a) (dE b) ha hb w
theorem aWY (a b:Nat) (w:World) (ha:wv a<FP.M) (hb:wv b<FP.M):Calls prog 252 #[.int .i64 1,.agg (aA (q1 a)).toArray,.agg (aA (q1 b)).toArray] w (Ji 0 (F1.mul (m1 a) (m1 b)).1 w):=by
 have e:(F1.mul (m1 a) (m1 b)).1=(wv a*wv b)%FP.M:=(Nat.mul_mod _ _ _).symm;rw[e];exact Nn 1 FP tG _ _ _ _ _ _ _ _ (dE a) (dE b) ha hb w
theorem aWX (a b:Nat) (w:World) (ha:wv a<FP.M) (hb:wv b<FP.M):Calls prog 250 #[.int .i64 1,.agg (aA (q1 a)).toArray,.agg (aA (q1 b)).toArray] w (Ji 0 (F1.sub (m1 a) (m1 b)).1 w):=by
 have e:(F1.sub (m1 a) (m1 b)).1=(wv a+FP.M-wv b)%FP.M:=by
  show (wv a%FP.M+(0+FP.M-wv b%FP.M)%FP.M)%FP.M=_;rw[Nat.mod_eq_of_lt ha,Nat.mod_eq_of_lt hb,Nat.add_mod_mod];congr 1;omega
 rw[e];exact Nj 1 FP tG _ _ _ _ _ _ _ _ (dE a) (dE b) ha hb w
def aRx (d:Bool):jV
 | [.v (.im (.int .i64 (.ofNat 1))),.v (.fl l)]=>match LD l with
  | some x=>bif d then some ([wv x<FP.M],.one (.im (.int .i64 0)))else some ([¬wv x<FP.M],.one (.im (.int .i64 21)))
  | none=>none
 | _=>none
theorem aJG (d:Bool):∀cs pre r,aRx d cs=some (pre,r)→aZ pre→∀(args:List Value) (w:World),bQ w cs args→Good prog 124 r args w:=by
 intro cs pre r hg hp args w ha;unfold aRx at hg;split at hg
 ·rename_i l;split at hg
  ·rename_i x hx
   match args,ha with
   | [v,u],ha =>
    have h1:v=.int .i64 1:=ha.1;have h2:u=.agg (aA l).toArray:=ha.2.1;rw[fJ l x hx]at h2;subst h1; subst h2;cases d
    ·cases hg;exact JA 1 21 _ _ _ _ (dE x) (Or.inr ⟨FP,tG,hp.1,rfl⟩) w
    ·cases hg;exact NQ 1 FP tG _ _ _ _ (dE x) hp.1 w
   | [],ha=>exact ha.elim
   | [_],ha=>exact ha.2.elim
   | _::_::_::_,ha=>exact ha.2.2.elim
  ·cases hg
 ·cases hg
def aFo (d:Bool):Tab:=(BQ true).add 251 (gF2 F1.add)
theorem aIB (d:Bool):TabOk prog (aFo d):=(Ly true).ad func251 (Hc aWZ)
def aFm (d:Bool):Tab:=(aFo d).add 252 (gF2 F1.mul)
theorem aIz (d:Bool):TabOk prog (aFm d):=(aIB d).ad func252 (Hc aWY)
def aFl (d:Bool):Tab:=(aFm d).add 250 (gF2 F1.sub)
theorem aIy (d:Bool):TabOk prog (aFl d):=(aIz d).ad func250 (Hc aWX)
def It (d:Bool):Tab:=(aFl d).add 124 (aRx d)
theorem Lt (d:Bool):TabOk prog (It d):=(aIy d).ad func124 (aJG d)
theorem aAh (d:Bool) (x y:N2):bN prog (It d) qN (fun _=>true) f247 40 [.v (.fl (q2 x)),.v (.fl (q2 y))]=some ([],.one (.fl (e2 (F2.add (m2 x) (m2 y))))):=by kernel_rfl
def Je (d:Bool):Tab:=(It d).add 247 (g2 LY LY (fun x y=>([],.one (.fl (e2 (F2.add x y))))))
theorem Me (d:Bool):TabOk prog (Je d):=(Lt d).ad func247 (AW fR fR fun x y hp args w ha=>aH aF (Lt d) aL func247 (aAh d x y) hp ha)
theorem aAc (d:Bool) (x y:N2):bN prog (Je d) qN (fun _=>true) f215 40 [.v (.fl (q2 x)),.v (.fl (q2 y))]=some ([],.one (.fl (e2 (F2.sub (m2 x) (m2 y))))):=by kernel_rfl
def Iy (d:Bool):Tab:=(Je d).add 215 (g2 LY LY (fun x y=>([],.one (.fl (e2 (F2.sub x y))))))
theorem Lz (d:Bool):TabOk prog (Iy d):=(Me d).ad func215 (AW fR fR fun x y hp args w ha=>aH aF (Me d) aL func215 (aAc d x y) hp ha)
theorem Tl (d:Bool) (x:N2):bN prog (Iy d) qN (fun _=>true) f217 40 [.v (.fl (q2 x))]=some ([],.one (.fl (e2 (aJ (m2 x))))):=by kernel_rfl
def UK (d:Bool):Tab:=(Iy d).add 217 (g1 LY (fun x=>([],.one (.fl (e2 (aJ x))))))
theorem ZR (d:Bool):TabOk prog (UK d):=(Lz d).ad func217 (kK fR fun x hp args w ha=>aH aF (Lz d) aL func217 (Tl d x) hp ha)
theorem Rt (d:Bool) (x y:Nat):bN prog (UK d) qN (fun _=>true) f295 40 [.v (.fl (q1 x)),.v (.fl (q1 y))]=some ([wv x<FP.M,wv y<FP.M],.one (.fl (e1 (F1.add (m1 x) (m1 y))))):=by kernel_rfl
def TU (d:Bool):Tab:=(UK d).add 295 (g2p fun x y=>.one (.fl (e1 (F1.add x y))))
theorem ZH (d:Bool):TabOk prog (TU d):=(ZR d).ad func295 (He fun x y hx hy args w ha=>aH aF (ZR d) aL func295 (Rt d x y) ⟨hx,hy,trivial⟩ ha)
theorem Dm (d:Bool) (x y:Nat):bN prog (TU d) qN (fun _=>true) f293 40 [.v (.fl (q1 x)),.v (.fl (q1 y))]=some ([wv x<FP.M,wv y<FP.M],.one (.fl (e1 (F1.sub (m1 x) (m1 y))))):=by kernel_rfl
def JY (d:Bool):Tab:=(TU d).add 293 (g2p fun x y=>.one (.fl (e1 (F1.sub x y))))
theorem MS (d:Bool):TabOk prog (JY d):=(ZH d).ad func293 (He fun x y hx hy args w ha=>aH aF (ZH d) aL func293 (Dm d x y) ⟨hx,hy,trivial⟩ ha)
theorem Dl (d:Bool) (x y:Nat):bN prog (JY d) qN (fun _=>true) f296 40 [.v (.fl (q1 x)),.v (.fl (q1 y))]=some ([wv x<FP.M,wv y<FP.M],.one (.fl (e1 (F1.mul (m1 x) (m1 y))))):=by kernel_rfl
def JX (d:Bool):Tab:=(JY d).add 296 (g2p fun x y=>.one (.fl (e1 (F1.mul x y))))
theorem MQ (d:Bool):TabOk prog (JX d):=(MS d).ad func296 (He fun x y hx hy args w ha=>aH aF (MS d) aL func296 (Dl d x y) ⟨hx,hy,trivial⟩ ha)
theorem Zh (d:Bool) (x:Nat):bN prog (JX d) qN (fun _=>true) f294 40 [.v (.fl (q1 x))]=some ([],.one (.fl (e1 F1.one))):=by kernel_rfl
def Ig (d:Bool):Tab:=(JX d).add 294 (g1 rv1 (fun x=>([],.one (.fl (e1 F1.one)))))
theorem Li (d:Bool):TabOk prog (Ig d):=(MQ d).ad func294 (kK Yu fun x hp args w ha=>aH aF (MQ d) aL func294 (Zh d x) hp ha)
theorem Zk (d:Bool) (x:Nat):bN prog (Ig d) qN (fun _=>true) f290 40 [.v (.fl (q1 x))]=some ([],.one (.fl (e1 (fm 3)))):=by kernel_rfl
def Ii (d:Bool):Tab:=(Ig d).add 290 (g1 rv1 (fun x=>([],.one (.fl (e1 (fm 3))))))
theorem Lk (d:Bool):TabOk prog (Ii d):=(Li d).ad func290 (kK Yu fun x hp args w ha=>aH aF (Li d) aL func290 (Zk d x) hp ha)
theorem Zj (d:Bool) (x:Fq):bN prog (Ii d) qN (fun _=>true) f291 40 [.v (.fl (e1 x))]=some ([x≠F1.zero],.one (.fl (e1 (cT x)))):=by kernel_rfl
def TX (d:Bool):Tab:=(Ii d).add 291 (g1 Ki (fun x=>([x≠F1.zero],.one (.fl (e1 (cT x))))))
theorem QQ (d:Bool):TabOk prog (TX d):=(Lk d).ad func291 (bM lW fun x hp args w ha=>aH aF (Lk d) aL func291 (Zj d x) hp ha)
theorem Dn (x:Nat):bN prog (TX true) qN (fun _=>true) f292 40 [.v (.fl (q1 x))]=some ([wv x<FP.M],.one (.im (.bool true))):=by kernel_rfl
theorem Do (x:Nat):bN prog (TX false) qN (fun _=>true) f292 40 [.v (.fl (q1 x))]=some ([¬wv x<FP.M],.one (.im (.bool false))):=by kernel_rfl
def aQf (d:Bool) (x:Nat):List Prop×RV:=bif d then ([wv x<FP.M],.one (.im (.bool true)))else ([¬wv x<FP.M],.one (.im (.bool false)))
theorem aIE (d:Bool) (x:Nat) (hp:aZ (aQf d x).1) (args:List Value) (w:World) (ha:bQ w [.v (.fl (q1 x))] args):Good prog 292 (aQf d x).2 args w:=by
 cases d
 ·exact aH aF (QQ false) aL func292 (Do x) hp ha
 ·exact aH aF (QQ true) aL func292 (Dn x) hp ha
def Ih (d:Bool):Tab:=(TX d).add 292 (g1 LD (aQf d))
theorem Lj (d:Bool):TabOk prog (Ih d):=(QQ d).ad func292 (bM fJ fun x hp args w ha=>aIE d x hp args w ha)
theorem Sa (d:Bool) (x y:N2):bN prog (Ih d) qN (fun _=>true) f302 40 [.v (.fl (q2 x)),.v (.fl (q2 y))]=some ([],.one (.fl (e2 (F2.add (m2 x) (m2 y))))):=by kernel_rfl
def UC (d:Bool):Tab:=(Ih d).add 302 (g2 LY LY (fun x y=>([],.one (.fl (e2 (F2.add x y))))))
theorem ZM (d:Bool):TabOk prog (UC d):=(Lj d).ad func302 (AW fR fR fun x y hp args w ha=>aH aF (Lj d) aL func302 (Sa d x y) hp ha)
theorem Dr (d:Bool) (x y:N2):bN prog (UC d) qN (fun _=>true) f300 40 [.v (.fl (q2 x)),.v (.fl (q2 y))]=some ([],.one (.fl (e2 (F2.sub (m2 x) (m2 y))))):=by kernel_rfl
def KB (d:Bool):Tab:=(UC d).add 300 (g2 LY LY (fun x y=>([],.one (.fl (e2 (F2.sub x y))))))
theorem MX (d:Bool):TabOk prog (KB d):=(ZM d).ad func300 (AW fR fR fun x y hp args w ha=>aH aF (ZM d) aL func300 (Dr d x y) hp ha)
theorem Dq (d:Bool) (x y:N2):bN prog (KB d) qN (fun _=>true) f303 40 [.v (.fl (q2 x)),.v (.fl (q2 y))]=some ([],.one (.fl (e2 (F2.mul (m2 x) (m2 y))))):=by kernel_rfl
def KA (d:Bool):Tab:=(KB d).add 303 (g2 LY LY (fun x y=>([],.one (.fl (e2 (F2.mul x y))))))
theorem MV (d:Bool):TabOk prog (KA d):=(MX d).ad func303 (AW fR fR fun x y hp args w ha=>aH aF (MX d) aL func303 (Dq d x y) hp ha)
theorem Zn (d:Bool) (x:N2):bN prog (KA d) qN (fun _=>true) f301 40 [.v (.fl (q2 x))]=some ([],.one (.fl (e2 F2.one))):=by kernel_rfl
def Ij (d:Bool):Tab:=(KA d).add 301 (g1 LY (fun x=>([],.one (.fl (e2 F2.one)))))
theorem Ll (d:Bool):TabOk prog (Ij d):=(MV d).ad func301 (kK fR fun x hp args w ha=>aH aF (MV d) aL func301 (Zn d x) hp ha)
def dK:Q2:=(⟨19485874751759354771024239261021720505790618469301721065564631296452457478373,by decide⟩,⟨266929791119991161246907387137283842545076965332900288569378510910307636690,by decide⟩)
theorem Zp (d:Bool) (x:N2):bN prog (Ij d) qN (fun _=>true) f297 40 [.v (.fl (q2 x))]=some ([],.one (.fl (e2 dK))):=by kernel_rfl
def Ik (d:Bool):Tab:=(Ij d).add 297 (g1 LY (fun x=>([],.one (.fl (e2 dK)))))
theorem Lm (d:Bool):TabOk prog (Ik d):=(Ll d).ad func297 (kK fR fun x hp args w ha=>aH aF (Ll d) aL func297 (Zp d x) hp ha)
theorem Zo (d:Bool) (x:N2):bN prog (Ik d) qN (fun _=>true) f298 40 [.v (.fl (q2 x))]=some ([sE (m2 x)≠F1.zero],.one (.fl (e2 (dV (m2 x))))):=by kernel_rfl
def KC (d:Bool):Tab:=(Ik d).add 298 (g1 LY (fun x=>([sE x≠F1.zero],.one (.fl (e2 (dV x))))))
theorem DU (d:Bool):TabOk prog (KC d):=(Lm d).ad func298 (kK fR fun x hp args w ha=>aH aF (Lm d) aL func298 (Zo d x) hp ha)
theorem Ds (x:N2):bN prog (KC true) qN (fun _=>true) f299 40 [.v (.fl (q2 x))]=some ([wv x.1<FP.M,wv x.2<FP.M],.one (.im (.bool true))):=by kernel_rfl
theorem Du (x:N2):bN prog (KC false) qN (fun _=>true) f299 40 [.v (.fl (q2 x))]=some ([¬wv x.1<FP.M],.one (.im (.bool false))):=by kernel_rfl
theorem Dt (x:N2):aT prog qN (fun _=>⟨fun s=>KC (bif Nat.beq s 9 then false else true),fun _=>true,fun _=>none⟩) f299 40 [.v (.fl (q2 x))]=some ([wv x.1<FP.M,¬wv x.2<FP.M],.one (.im (.bool false))):=by kernel_rfl
def aBP (d:Bool) (x:N2):List Prop×RV:=bif d then ([wv x.1<FP.M∧wv x.2<FP.M],.one (.im (.bool true)))else ([¬(wv x.1<FP.M∧wv x.2<FP.M)],.one (.im (.bool false)))
theorem aBO (d:Bool) (x:N2) (hp:aZ (aBP d x).1) (args:List Value) (w:World) (ha:bQ w [.v (.fl (q2 x))] args):Good prog 299 (aBP d x).2 args w:=by
 cases d
 ·have h1:¬(wv x.1<FP.M∧wv x.2<FP.M):=hp.1
  by_cases h:wv x.1<FP.M
  ·exact aB aF (fun _ s=>DU _) aL func299 (Dt x) ⟨h,fun e=>h1 ⟨h,e⟩,trivial⟩ ha
  ·exact aH aF (DU false) aL func299 (Du x) ⟨h,trivial⟩ ha
 ·have h1:wv x.1<FP.M∧wv x.2<FP.M:=hp.1;exact aH aF (DU true) aL func299 (Ds x) ⟨h1.1,h1.2,trivial⟩ ha
def UD (d:Bool):Tab:=(KC d).add 299 (g1 rq2 (aBP d))
theorem QR (d:Bool):TabOk prog (UD d):=(DU d).ad func299 (bM sM fun x hp args w ha=>aBO d x hp args w ha)
theorem nY {a b:aM} (ha:a≠aC.zero) (hb:b≠aC.zero):aC.mul a b≠aC.zero:=fun e=>hb (jJ.zd e ha)
theorem aLR {a:aM} (h:a≠aC.zero):uU a≠F1.zero:=fun e=>h (uF e)
theorem jI {a:aM} (h:a≠aC.zero):aC.mul a (kI a)=aC.one:=UM (aLR h)
theorem RP {a k:aM} (ha:a≠aC.zero) (h:aC.mul a k=aC.one):kI a=k:=by
 have e:aC.mul (aC.mul (kI a) a) k=kI a:=by rw[aC.mul_assoc,h,aC.mul_comm,aC.one_mul]
 rw[aC.mul_comm (kI a),jI ha,aC.one_mul]at e;exact e.symm
theorem uK {R:Type} (K:CR R) (a b c d:R):K.mul (K.mul a b) (K.mul c d)=K.mul (K.mul a c) (K.mul b d):=by
 rw[K.mul_assoc,K.mul_left_comm b c d,←K.mul_assoc]
theorem aQD {a b:aM} (ha:a≠aC.zero) (hb:b≠aC.zero):kI (aC.mul a b)=aC.mul (kI a) (kI b) :=
 RP (nY ha hb) (by rw[uK,jI ha,jI hb,aC.one_mul])
theorem aRV {a b:aM} (ha:a≠aC.zero) (hb:b≠aC.zero):eZ (aC.mul a b)=aC.mul (eZ a) (eZ b):=by
 unfold eZ;rw[JM,aQD ha hb,uK aC (cE a),pB,uK]
theorem aQU (a b:aM):hX (aC.mul a b)=aC.mul (hX a) (hX b):=by rw[CK,CK,CK,mL]
theorem dF {a b:aM} (ha:a≠aC.zero) (hb:b≠aC.zero):jW (aC.mul a b)=aC.mul (jW a) (jW b):=by
 unfold jW;rw[aRV ha hb,aQU]
theorem aDa:hX aC.one=aC.one:=by rw[CK,mK]
theorem Xn:cM aC.one=aC.one:=by decide
theorem yI {a:aM} (h:cE a=a) (ha:a≠aC.zero):jW a=aC.one:=by
 unfold jW eZ;rw[h,jI ha,Xn,aC.one_mul,aDa]
theorem yJ:jW aC.one=aC.one:=yI (by decide) jJ.1
def eQ (z:Q2):aM:=((z,F2.zero,F2.zero),F6.zero)
def eP (a:Fq):aM:=eQ (i2 a)
def KR:aM:=aC.mul wE wE
def wV:aM:=aC.mul KR wE
theorem aQO (a b:Fq):i2 (F1.add a b)=F2.add (i2 a) (i2 b):=Prod.ext rfl (F1.add_zero F1.zero).symm
theorem z2a:F2.add F2.zero F2.zero=F2.zero:=by decide
theorem z6a:F6.add F6.zero F6.zero=F6.zero:=by decide
theorem BB (x y:Q2):eQ (F2.add x y)=aC.add (eQ x) (eQ y):=by
 refine Prod.ext (Prod.ext rfl (Prod.ext z2a.symm z2a.symm)) z6a.symm
theorem oT (x y:Q2):eQ (F2.mul x y)=aC.mul (eQ x) (eQ y):=by
 rw[oJ];unfold eQ;simp only[show F6.zero=(F2.zero,F2.zero,F2.zero)from rfl,F2.mul_zero,F2.zero_mul,F2.add_zero,F2.zero_add]
theorem SL (a b:Fq):eP (F1.add a b)=aC.add (eP a) (eP b):=by unfold eP; rw[aQO,BB]
theorem tJ (a b:Fq):eP (F1.mul a b)=aC.mul (eP a) (eP b):=by unfold eP; rw[Gy,oT]
theorem Oa:eQ F2.zero=aC.zero:=rfl
theorem aJW:eP F1.zero=aC.zero:=rfl
theorem Cub.map {R S:Type} {K:CR R} {L:CR S} (φ:R→S) (ha:∀a b,φ (K.add a b)=L.add (φ a) (φ b)) (hm:∀a b,φ (K.mul a b)=L.mul (φ a) (φ b)) (h0:φ K.zero=L.zero) {b a1 a2 a3 n c:R} (h:Cub K b a1 a2 a3 n c):Cub L (φ b) (φ a1) (φ a2) (φ a3) (φ n) (φ c):=by
 refine⟨?_,?_,?_⟩
 ·rw[←ha,←ha,←hm,h.s1]
 ·rw[←hm,←hm,←hm,←hm,←ha,←ha,←ha,←ha,h.s2,h0]
 ·rw[←hm,←hm,←ha,←hm,h.s3]
theorem Hy:aC.mul (eQ dK) (aC.mul wV wV)=eP (fm 3):=by decide
theorem aNj:KR=((F2.zero,F2.one,F2.zero),F6.zero):=by decide
theorem aNi:wV=(F6.zero,(F2.zero,F2.one,F2.zero)):=by decide
theorem z6e:F6.zero=(F2.zero,F2.zero,F2.zero):=rfl
theorem bAs (z:Q2):aC.mul (eQ z) wE=(F6.zero,(z,F2.zero,F2.zero)):=by
 rw[oJ];unfold eQ wE;simp only[show F6.one=(F2.one,F2.zero,F2.zero)from rfl,z6e,F2.mul_zero,F2.zero_mul,F2.add_zero,F2.zero_add,F2.mul_one]
theorem aMt (z:Q2):aC.mul (eQ z) KR=((F2.zero,z,F2.zero),F6.zero):=by
 rw[oJ,aNj];unfold eQ;simp only[z6e,F2.mul_zero,F2.zero_mul,F2.add_zero,F2.zero_add,F2.mul_one]
theorem aMs (z:Q2):aC.mul (eQ z) wV=(F6.zero,(F2.zero,z,F2.zero)):=by
 rw[oJ,aNi];unfold eQ;simp only[z6e,F2.mul_zero,F2.zero_mul,F2.add_zero,F2.zero_add,F2.mul_one]
theorem aXl (z y:Q2):aC.mul (aC.mul (eQ z) wE) (eQ y)=(F6.zero,(F2.mul z y,F2.zero,F2.zero)):=by
 rw[aC.mul_comm,←aC.mul_assoc,←oT,bAs,F2.mul_comm]
theorem wK:F2.neg F2.zero=F2.zero:=bK F2
theorem DY (x:aM):aC.neg x=((F2.neg x.1.1,F2.neg x.1.2.1,F2.neg x.1.2.2),(F2.neg x.2.1,F2.neg x.2.2.1,F2.neg x.2.2.2)):=rfl
theorem yX (x y:aM):aC.add x y=((F2.add x.1.1 y.1.1,F2.add x.1.2.1 y.1.2.1,F2.add x.1.2.2 y.1.2.2),(F2.add x.2.1 y.2.1,F2.add x.2.2.1 y.2.2.1,F2.add x.2.2.2 y.2.2.2)):=rfl
theorem PE (x y:aM):aC.sub x y=aC.add x (aC.neg y):=rfl
def lT (m d:Q2) (a b:Fq):aM:=((i2 b,F2.zero,F2.zero),(F2.neg (F2.mul m (i2 a)),F2.neg d,F2.zero))
def lP (n c:Fq) (x y:Q2):aM:=((F2.neg (i2 c),F2.neg (F2.mul (i2 n) x),F2.zero),(F2.zero,y,F2.zero))
def vP (a:Fq) (x:Q2):aM:=((F2.neg (i2 a),x,F2.zero),F6.zero)
theorem NJ (m d:Q2) (a b:Fq):lT m d a b=aC.sub (eP b) (aC.add (aC.mul (aC.mul (eQ m) wE) (eP a)) (aC.mul (eQ d) wV)):=by
 unfold eP;rw[aXl,aMs,PE,DY,yX,yX];unfold lT eQ;simp only[z6e,F2.add_zero,F2.zero_add,wK]
theorem Ab (n c:Fq) (x y:Q2):lP n c x y=aC.sub (aC.mul (eQ y) wV) (aC.add (aC.mul (eP n) (aC.mul (eQ x) KR)) (eP c)):=by
 unfold eP;rw[←aC.mul_assoc,←oT,aMt,aMs,PE,DY,yX,yX];unfold lP eQ;simp only[z6e,F2.add_zero,F2.zero_add,wK]
theorem FE (a:Fq) (x:Q2):vP a x=aC.sub (aC.mul (eQ x) KR) (eP a):=by
 unfold eP;rw[aMt,PE,DY,yX];unfold vP eQ;simp only[z6e,F2.add_zero,F2.zero_add,wK]
theorem rW {m d:Q2} {a b:Fq} (h:b≠F1.zero):lT m d a b≠aC.zero:=fun e=>h (congrArg (fun z:aM=>z.1.1.1) e)
theorem tC {n c:Fq} {x y:Q2} (h:y≠F2.zero):lP n c x y≠aC.zero:=fun e=>h (congrArg (fun z:aM=>z.2.2.1) e)
theorem mC {a:Fq} {x:Q2} (h:a≠F1.zero):vP a x≠aC.zero:=fun e=>h (by
 have h1:F1.neg a=F1.zero:=congrArg (fun z:aM=>z.1.1.1) e;rw[←F1.neg_neg a,h1,bK])
theorem aUw (a:Fq) (x:Q2):cE (vP a x)=vP a x:=Prod.ext rfl (by show F6.sub F6.zero F6.zero=F6.zero; decide)
theorem uG {a:aM} (h:a≠aC.zero):aC.neg a≠aC.zero:=fun e=>h (by rw[←aC.neg_neg a,e,bK])
theorem qW {a:aM} (h:a≠aC.zero):jW (aC.neg a)=jW a:=by
 have e:aC.neg a=aC.mul (aC.neg aC.one) a:=by rw[aC.neg_mul,aC.one_mul]
 rw[e,dF (uG jJ.1) h,yI (by decide) (uG jJ.1),aC.one_mul]
theorem wM {a:Fq} {x:Q2} (h:a≠F1.zero):jW (vP a x)=aC.one:=yI (aUw a x) (mC h)
section
variable {a1 a2 a3 b1 b2 b3 n c:Fq} {x1 x2 x3 y1 y2 y3 m d:Q2}
theorem aXu (h:Cub F1 (fm 3) a1 a2 a3 n c):Cub aC (eP (fm 3)) (eP a1) (eP a2) (eP a3) (eP n) (eP c):=h.map eP SL tJ aJW
theorem aXt (h:Cub F2 dK x1 x2 x3 m d):Cub aC (eP (fm 3)) (aC.mul (eQ x1) KR) (aC.mul (eQ x2) KR) (aC.mul (eQ x3) KR) (aC.mul (eQ m) wE) (aC.mul (eQ d) wV):=by
 have g:=(h.map eQ BB oT Oa).scale wE;rw[←Hy];exact g
theorem aPQ {R:Type} (K:CR R) (M X D w:R):K.mul (K.add (K.mul M X) D) (K.mul (K.mul w w) w)=K.add (K.mul (K.mul M w) (K.mul X (K.mul w w))) (K.mul D (K.mul (K.mul w w) w)) :=
 aE K (aU K [M,X,D,w]) ((Z0*Z1+Z2)*(Z3*Z3*Z3)) (Z0*Z3*(Z1*(Z3*Z3))+Z2*(Z3*Z3*Z3)) (by kernel_rfl)
theorem aWz {R:Type} (K:CR R) (X B w:R):K.mul (K.add (K.mul X (K.mul X X)) B) (K.mul (K.mul (K.mul w w) w) (K.mul (K.mul w w) w))=K.add (K.mul (K.mul X (K.mul w w)) (K.mul (K.mul X (K.mul w w)) (K.mul X (K.mul w w)))) (K.mul B (K.mul (K.mul (K.mul w w) w) (K.mul (K.mul w w) w))) :=
 aE K (aU K [X,B,w]) ((Z0*(Z0*Z0)+Z1)*(Z2*Z2*Z2*(Z2*Z2*Z2))) (Z0*(Z2*Z2)*(Z0*(Z2*Z2)*(Z0*(Z2*Z2)))+Z1*(Z2*Z2*Z2*(Z2*Z2*Z2))) (by kernel_rfl)
theorem aQS (X B:aM):aC.mul (aC.add (aC.mul X (aC.mul X X)) B) (aC.mul wV wV)=aC.add (aC.mul (aC.mul X KR) (aC.mul (aC.mul X KR) (aC.mul X KR))) (aC.mul B (aC.mul wV wV)):=by
 unfold wV KR;exact aWz aC X B wE
theorem aNT {R:Type} (K:CR R) (z w:R):K.sub z w=K.neg (K.sub w z):=aE K (aU K [z,w]) (Z0-Z1) (-(Z1-Z0)) (by kernel_rfl)
theorem onT {x y:Q2} (h:y=F2.add (F2.mul m x) d):aC.mul (eQ y) wV=aC.add (aC.mul (aC.mul (eQ m) wE) (aC.mul (eQ x) KR)) (aC.mul (eQ d) wV):=by
 rw[h,BB,oT];exact aPQ aC (eQ m) (eQ x) (eQ d) wE
theorem onP {a b:Fq} (h:b=F1.add (F1.mul n a) c):eP b=aC.add (aC.mul (eP n) (eP a)) (eP c):=by rw[h,SL,tJ]
theorem aHp (h:Cub F1 (fm 3) a1 a2 a3 n c) (g:Cub F2 dK x1 x2 x3 m d) (h1:b1=F1.add (F1.mul n a1) c) (h2:b2=F1.add (F1.mul n a2) c) (h3:b3=F1.add (F1.mul n a3) c)
  (g1:y1=F2.add (F2.mul m x1) d) (g2:y2=F2.add (F2.mul m x2) d) (g3:y3=F2.add (F2.mul m x3) d) :
  aC.mul (lT m d a1 b1) (aC.mul (lT m d a2 b2) (lT m d a3 b3))=aC.neg (aC.mul (lP n c x1 y1) (aC.mul (lP n c x2 y2) (lP n c x3 y3))):=by
 have r:=aUY (aXu h) (aXt g);rw[←onP h1,←onP h2,←onP h3,←onT g1,←onT g2,←onT g3,←NJ,←NJ,←NJ,←Ab,←Ab,←Ab]at r;exact r
theorem Us (h:Cub F1 (fm 3) a1 a2 a3 n c) (g:Cub F2 dK x1 x2 x3 m d) (h1:b1=F1.add (F1.mul n a1) c) (h2:b2=F1.add (F1.mul n a2) c) (h3:b3=F1.add (F1.mul n a3) c)
  (g1:y1=F2.add (F2.mul m x1) d) (g2:y2=F2.add (F2.mul m x2) d) (g3:y3=F2.add (F2.mul m x3) d)
  (hb1:b1≠F1.zero) (hb2:b2≠F1.zero) (hb3:b3≠F1.zero) (hy1:y1≠F2.zero) (hy2:y2≠F2.zero) (hy3:y3≠F2.zero) :
  aC.mul (jW (lT m d a1 b1)) (aC.mul (jW (lT m d a2 b2)) (jW (lT m d a3 b3)))=aC.mul (jW (lP n c x1 y1)) (aC.mul (jW (lP n c x2 y2)) (jW (lP n c x3 y3))):=by
 have r:=congrArg jW (aHp h g h1 h2 h3 g1 g2 g3);rw[qW (nY (tC hy1) (nY (tC hy2) (tC hy3))),dF (rW hb1) (nY (rW hb2) (rW hb3)),dF (rW hb2) (rW hb3),dF (tC hy1) (nY (tC hy2) (tC hy3)),dF (tC hy2) (tC hy3)]at r;exact r
theorem Hj (z:Q2):eQ (F2.neg z)=aC.neg (eQ z):=by
 rw[DY];unfold eQ;simp only[z6e,wK]
theorem ZX (h:Cub F1 (fm 3) a1 a2 a3 n c) {x y:Q2} (hp:F2.mul y y=F2.add (F2.mul x (F2.mul x x)) dK) (hy:y≠F2.zero) (h1:a1≠F1.zero) (h2:a2≠F1.zero) (h3:a3≠F1.zero) :
  aC.mul (jW (lP n c x y)) (jW (lP n c x (F2.neg y)))=aC.one:=by
 have hY:aC.mul (aC.mul (eQ y) wV) (aC.mul (eQ y) wV)=aC.add (aC.mul (aC.mul (eQ x) KR) (aC.mul (aC.mul (eQ x) KR) (aC.mul (eQ x) KR))) (eP (fm 3)):=by
  rw[←Hy,uK aC (eQ y) wV (eQ y) wV,←oT y y,hp,BB,oT,oT];exact aQS (eQ x) (eQ dK)
 have r:=aUv (aXu h) hY;have hy':F2.neg y≠F2.zero:=fun e=>hy (by rw[←F2.neg_neg y,e,wK])
 have e1:aC.neg (aC.mul (eQ y) wV)=aC.mul (eQ (F2.neg y)) wV:=by rw[Hj,aC.neg_mul]
 rw[e1,←Ab,←Ab,←FE,←FE,←FE]at r;have r:=congrArg jW r;rw[qW (nY (mC h1) (nY (mC h2) (mC h3))),dF (tC hy) (tC hy'),dF (mC h1) (nY (mC h2) (mC h3)),dF (mC h2) (mC h3),wM h1,wM h2,wM h3,aC.one_mul,aC.one_mul]at r;exact r
theorem Mt (g:Cub F2 dK x1 x2 x3 m d) {a b:Fq} (hp:F1.mul b b=F1.add (F1.mul a (F1.mul a a)) (fm 3)) (hb:b≠F1.zero) (ha:a≠F1.zero) :
  aC.mul (jW (lT m d a b)) (jW (lT m d a (F1.neg b)))=aC.one:=by
 have hY:aC.mul (eP b) (eP b)=aC.add (aC.mul (eP a) (aC.mul (eP a) (eP a))) (eP (fm 3)):=by rw[←tJ,hp,SL,tJ,tJ]
 have r:=aUv (aXt g) hY;have hb':F1.neg b≠F1.zero:=fun e=>hb (by rw[←F1.neg_neg b,e,bK])
 have e1:aC.neg (eP b)=eP (F1.neg b):=by
  unfold eP;rw[←Hj];exact congrArg eQ (Prod.ext rfl (bK F1))
 have e2:=aNT aC;rw[e1,←NJ,←NJ,e2 (eP a),e2 (eP a),e2 (eP a),←FE,←FE,←FE]at r;have r:=congrArg jW r;have n1:=uG (mC (x:=x1) ha); have n2:=uG (mC (x:=x2) ha); have n3:=uG (mC (x:=x3) ha);rw[qW (nY n1 (nY n2 n3)),dF (rW hb) (rW hb'),dF n1 (nY n2 n3),dF n2 n3,qW (mC ha),qW (mC ha),qW (mC ha),wM ha,wM ha,wM ha,aC.one_mul,aC.one_mul]at r;exact r
end
namespace AG
variable {G:Type} (A:AG G)
theorem addz (a:G):A.add a A.zero=a:=by rw[A.comm,A.zadd]
theorem addn (a:G):A.add a (A.neg a)=A.zero:=by rw[A.comm,A.nadd]
theorem left_comm (a b c:G):A.add a (A.add b c)=A.add b (A.add a c):=by rw[←A.assoc,A.comm a b,A.assoc]
theorem cancel {a b c:G} (h:A.add a b=A.add a c):b=c:=by
 have:=congrArg (A.add (A.neg a)) h
 rwa [←A.assoc,←A.assoc,A.nadd,A.zadd,A.zadd]at this
theorem negz:A.neg A.zero=A.zero:=by apply A.cancel (a:=A.zero); rw[A.addn,A.addz]
theorem neg_add (a b:G):A.neg (A.add a b)=A.add (A.neg a) (A.neg b):=by
 apply A.cancel (a:=A.add a b);rw[A.addn,A.assoc,A.left_comm b,A.addn,A.addz,A.addn]
theorem add4 (a b c d:G):A.add (A.add a b) (A.add c d)=A.add (A.add a c) (A.add b d):=by
 rw[A.assoc,A.left_comm b,←A.assoc]
def ns:Nat→G→G
 | 0,_=>A.zero
 | n+1,g=>A.add (ns n g) g
theorem ns_add (m:Nat) (g:G):∀n,A.ns (m+n) g=A.add (A.ns m g) (A.ns n g)
 | 0=>(A.addz _).symm
 | n+1=>by show A.add (A.ns (m+n) g) g=A.add _ (A.add _ _); rw[ns_add m g n,A.assoc]
theorem ns_zero:∀n,A.ns n A.zero=A.zero
 | 0=>rfl
 | n+1=>by show A.add (A.ns n _) _=_; rw[ns_zero n,A.zadd]
theorem ns_sum (g h:G):∀n,A.ns n (A.add g h)=A.add (A.ns n g) (A.ns n h)
 | 0=>(A.zadd _).symm
 | n+1=>by show A.add (A.ns n _) _=A.add (A.add _ _) (A.add _ _); rw[ns_sum g h n,A.add4]
theorem ns_mul (m:Nat) (g:G):∀n,A.ns (m*n) g=A.ns n (A.ns m g)
 | 0=>rfl
 | n+1=>by rw[Nat.mul_add,Nat.mul_one,ns_add,ns_mul m g n]; rfl
def zs:Int→G→G
 | .ofNat n,g=>A.ns n g
 | .negSucc n,g=>A.neg (A.ns (n+1) g)
theorem zs_sub (m n:Nat) (g:G):A.zs (Int.subNatNat m n) g=A.add (A.ns m g) (A.neg (A.ns n g)):=by
 unfold Int.subNatNat;split
 ·rename_i h;have:m=n+(m-n):=by omega
  show A.ns (m-n) g=_
  conv=>rhs; rw[this,ns_add]
  rw[A.comm (A.ns n g),A.assoc,A.addn,A.addz]
 ·rename_i k h;have:n=m+(k+1):=by omega
  show A.neg (A.ns (k+1) g)=_;rw[this,ns_add A m g (k+1),A.neg_add (A.ns m g),←A.assoc,A.addn,A.zadd]
theorem zs_add (g:G) (a b:Int):A.zs (a+b) g=A.add (A.zs a g) (A.zs b g):=by
 cases a with
 | ofNat m =>
  cases b with
  | ofNat n=>exact A.ns_add m g n
  | negSucc n=>exact A.zs_sub m (n+1) g
 | negSucc m =>
  cases b with
  | ofNat n=>show A.zs (Int.subNatNat n (m+1)) g=_; rw[zs_sub,A.comm]; rfl
  | negSucc n =>
   show A.neg (A.ns (m+n+1+1) g)=A.add (A.neg (A.ns (m+1) g)) (A.neg (A.ns (n+1) g));rw[←A.neg_add,←ns_add,show m+1+(n+1)=m+n+1+1 by omega]
def sm (P:Nat→G) (c:Nat→Int):Nat→G
 | 0=>A.zero
 | n+1=>A.add (sm P c n) (A.zs (c n) (P n))
theorem sm_add (P:Nat→G) (c d:Nat→Int):∀n,A.sm P (fun i=>c i+d i) n=A.add (A.sm P c n) (A.sm P d n)
 | 0=>(A.zadd _).symm
 | n+1=>by show A.add (A.sm P _ n) (A.zs (c n+d n) (P n))=A.add (A.add _ _) (A.add _ _); rw[sm_add P c d n,zs_add,A.add4]
theorem sm_congr {P:Nat→G} {c d:Nat→Int}:∀{n},(∀i,i<n→c i=d i)→A.sm P c n=A.sm P d n
 | 0,_=>rfl
 | n+1,h=>by show A.add _ (A.zs (c n) _)=A.add _ (A.zs (d n) _); rw[sm_congr fun i hi=>h i (by omega),h n (by omega)]
theorem sm_zero (P:Nat→G):∀n,A.sm P (fun _=>0) n=A.zero
 | 0=>rfl
 | n+1=>by show A.add (A.sm P _ n) A.zero=_; rw[sm_zero P n,A.zadd]
theorem sm_two (P:Nat→G) (c:Nat→Int) (n:Nat):A.add (A.sm P c n) (A.sm P c n)=A.sm P (fun i=>2*c i) n:=by
 rw[←sm_add];exact A.sm_congr fun i _=>by omega
end AG
def pY (w:Nat):Int:=((w+1)/2:Nat)-(if 16≤w then 16 else 0:Int)
def yW (x p:Nat):Nat:=(if p=0 then x*2 else x/2^(p*4-1))%32
def Va (x PL:Nat):Nat→Int
 | 0=>0
 | i+1=>16*Va x PL i+pY (yW x (PL-1-i))
theorem aCX (x PL:Nat) (h:x<2^(4*PL-1)) (h0:0<PL):∀i,i<PL→Va x PL i=((x/2^(4*(PL-i))+x/2^(4*(PL-i)-1)%2:Nat):Int)
 | 0,_=>by
  have h1:x/2^(4*PL-1)=0:=Nat.div_eq_of_lt h;have h2:x/2^(4*PL)=0:=Nat.div_eq_of_lt (Nat.lt_of_lt_of_le h (Nat.pow_le_pow_right (by omega) (by omega)));show (0:Int)=((x/2^(4*(PL-0))+x/2^(4*(PL-0)-1)%2:Nat):Int);rw[Nat.sub_zero,h1,h2]; rfl
 | i+1,hi=>by
  have ih:=aCX x PL h h0 i (by omega);show 16*Va x PL i+pY (yW x (PL-1-i))=_;rw[ih];have hp:PL-1-i≠0:=by omega
  have e1:4*(PL-i)=(4*(PL-(i+1))-1)+5:=by omega
  have e2:4*(PL-i)-1=(4*(PL-(i+1))-1)+4:=by omega
  have e3:4*(PL-(i+1))=(4*(PL-(i+1))-1)+1:=by omega
  have e4:(PL-1-i)*4-1=4*(PL-(i+1))-1:=by omega
  unfold pY yW;rw[if_neg hp,e1,e4];rw[show (4*(PL-(i+1))-1)+5-1=(4*(PL-(i+1))-1)+4 by omega];have e5:x/2^(4*(PL-(i+1)))=x/2^(4*(PL-(i+1))-1)/2:=by
   conv=>lhs; rw[e3]
   rw[Nat.pow_add,←Nat.div_div_eq_div_mul]
  rw[e5,Nat.pow_add,Nat.pow_add,←Nat.div_div_eq_div_mul,←Nat.div_div_eq_div_mul];generalize x/2^(4*(PL-(i+1))-1)=a;show 16*((a/32+a/16%2:Nat):Int)+(((a%32+1)/2:Nat)-(if 16≤a%32 then 16 else 0:Int))=((a/2+a%2:Nat):Int);split<;>omega
theorem Ng (x PL:Nat) (h:x<2^(4*PL-1)) (h0:0<PL):Va x PL PL=x:=by
 obtain⟨k,rfl⟩:∃k,PL=k+1:=⟨PL-1,by omega⟩
 show 16*Va x (k+1) k+pY (yW x (k+1-1-k))=_;rw[aCX x (k+1) h h0 k (by omega),show k+1-1-k=0 by omega,show k+1-k=1 by omega];unfold pY yW;rw[if_pos rfl];show 16*((x/16+x/8%2:Nat):Int)+(((x*2%32+1)/2:Nat)-(if 16≤x*2%32 then 16 else 0:Int))=(x:Int);split<;>omega
section
variable {G V:Type} (A:AG G) (B:AG V)
def Wi (Q:G) (d:Int) (T:G):G:=if d=1 then A.add (A.add T T) Q else if d = -1 then A.add (A.add T T) (A.neg Q)else A.add T T
def stF (L:G→G→V) (Q:G) (d:Int) (F:V) (T:G):V:=if d=1 then B.add (B.add (B.add F F) (L T T)) (L (A.add T T) Q)else if d = -1 then B.add (B.add (B.add F F) (L T T)) (L (A.add T T) (A.neg Q))else B.add (B.add F F) (L T T)
def zS (Q:G):List Int→G→G
 | [],T=>T
 | d::ds,T=>zS Q ds (Wi A Q d T)
def aAj (L:G→G→V) (Q:G):List Int→V→G→V
 | [],F,_=>F
 | d::ds,F,T=>aAj L Q ds (stF A B L Q d F T) (Wi A Q d T)
variable {B}
end
open Go.RowKit
theorem fd1:FD F1 cT:=⟨Pn,fun x h=>yQ h⟩
theorem fd2:FD F2 dV:=⟨AY.1,fun x h=>UL fun e=>h (pO e)⟩
theorem aQm {x:Q2} (h:x≠F2.zero):sE x≠F1.zero:=fun e=>h (pO e)
abbrev J1:=Jc Fq
abbrev J2:=Jc Q2
def bJ (p:J1):List At:=[.f p.1,.f p.2.1,.f p.2.2]
def bI (p:J2):List At:=[.f p.1.1,.f p.1.2,.f p.2.1.1,.f p.2.1.2,.f p.2.2.1,.f p.2.2.2]
def To:List At→Option J1|[.f a,.f b,.f c]=>some (a,b,c)|_=>none
def Tn:List At→Option J2|[.f a,.f b,.f c,.f d,.f e,.f f]=>some ((a,b),(c,d),(e,f))|_=>none
theorem nC:Rd To bJ:=fun l x h=>by unfold To at h; split at h<;>cases h; rfl
theorem nB:Rd Tn bI:=fun l x h=>by unfold Tn at h; split at h<;>cases h; rfl
theorem rI {a b:Fq} (h:a≠b):aA (e1 a)≠aA (e1 b):=fun e=>h (aRZ e)
theorem nP {a b:Q2} (h:a≠b):aA (e2 a)≠aA (e2 b):=fun e=>h (aRY e)
theorem FD.inv_one {R:Type} {K:CR R} {inv:R→R} (F:FD K inv):inv K.one=K.one:=by
 have:=F.inv K.one F.ne
 rwa [K.one_mul]at this
theorem Ec (p:J1):aT prog (qG prog) (fun _=>⟨fun s=>UD true,fun s=>true,fun _=>none⟩) f195 60 [.v (.fl (bJ p))]=some ([aA (e1 p.2.2)=aA (e1 F1.zero)],.one (.im (.bool true))):=by kernel_rfl
theorem Ed (p:J1):aT prog (qG prog) (fun _=>⟨fun s=>UD false,fun s=>false,fun _=>none⟩) f195 60 [.v (.fl (bJ p))]=some ([aA (e1 p.2.2)≠aA (e1 F1.zero)],.one (.im (.bool false))):=by kernel_rfl
def aCa (d:Bool) (p:J1):List Prop×RV:=bif d then ([p.2.2=F1.zero],.one (.im (.bool true)))else ([p.2.2≠F1.zero],.one (.im (.bool false)))
theorem aBZ (d:Bool) (p:J1) (hp:aZ (aCa d p).1) (args:List Value) (w:World) (ha:bQ w [.v (.fl (bJ p))] args):Good prog 195 (aCa d p).2 args w:=by
 cases d
 ·have h:p.2.2≠F1.zero:=hp.1;exact aB aF (fun _ s=>QR _) (aK prog) func195 (Ed p) ⟨rI h,trivial⟩ ha
 ·have h:p.2.2=F1.zero:=hp.1;exact aB aF (fun _ s=>QR _) (aK prog) func195 (Ec p) ⟨by rw[h],trivial⟩ ha
def UG (d:Bool):Tab:=(UD d).add 195 (g1 To (aCa d))
theorem QU (d:Bool):TabOk prog (UG d):=(QR d).ad func195 (bM nC fun p hp args w ha=>aBZ d p hp args w ha)
theorem Di (d:Bool) (p:J1) (b:Fq):aT prog (qG prog) (fun _=>⟨fun s=>UG d,fun s=>true,fun _=>none⟩) f198 60 [.v (.fl (bJ p)),.v (.fl (e1 b))]=some ([aA (e1 p.2.2)=aA (e1 F1.one)],.one (.fl (e1 b))):=by kernel_rfl
theorem Dj (d:Bool) (p:J1) (b:Fq):aT prog (qG prog) (fun _=>⟨fun s=>UG d,fun s=>false,fun _=>none⟩) f198 60 [.v (.fl (bJ p)),.v (.fl (e1 b))]=some ([aA (e1 p.2.2)≠aA (e1 F1.one)],.one (.fl (e1 (F1.mul b p.2.2)))):=by kernel_rfl
theorem aGe (d:Bool) (p:J1) (b:Fq) (args:List Value) (w:World) (ha:bQ w [.v (.fl (bJ p)),.v (.fl (e1 b))] args):Good prog 198 (.one (.fl (e1 (F1.mul b p.2.2)))) args w:=by
 by_cases h:p.2.2=F1.one
 ·rw[h,F1.mul_one];exact aB aF (fun _ s=>QU _) (aK prog) func198 (Di d p b) ⟨by rw[h],trivial⟩ ha
 ·exact aB aF (fun _ s=>QU _) (aK prog) func198 (Dj d p b) ⟨rI h,trivial⟩ ha
def TT (d:Bool):Tab:=(UG d).add 198 (g2 To Ki fun p b=>([],.one (.fl (e1 (F1.mul b p.2.2)))))
theorem QP (d:Bool):TabOk prog (TT d):=(QU d).ad func198 (fC nC lW fun p b hp args w ha=>aGe d p b args w ha)
theorem Eu (d:Bool) (p q:J1):aT prog (qG prog) (fun _=>⟨fun s=>TT d,fun s=>true,fun _=>none⟩) f196 60 [.v (.fl (bJ p)),.v (.fl (bJ q))]=some ([aA (e1 q.2.2)=aA (e1 F1.one)],.many [.fl (e1 (p.1)),.fl (e1 (p.2.1))]):=by kernel_rfl
theorem Ev (d:Bool) (p q:J1):aT prog (qG prog) (fun _=>⟨fun s=>TT d,fun s=>false,fun _=>none⟩) f196 60 [.v (.fl (bJ p)),.v (.fl (bJ q))]=some ([aA (e1 q.2.2)≠aA (e1 F1.one)],.many [.fl (e1 (EF F1 p q)),.fl (e1 (CI F1 p q))]):=by kernel_rfl
theorem aKt (d:Bool) (p q:J1) (args:List Value) (w:World) (ha:bQ w [.v (.fl (bJ p)),.v (.fl (bJ q))] args):Good prog 196 (.many [.fl (e1 (EF F1 p q)),.fl (e1 (CI F1 p q))]) args w:=by
 by_cases h:q.2.2=F1.one
 ·have hx:EF F1 p q=p.1:=by unfold EF; rw[h,F1.mul_one,F1.mul_one]
  have hy:CI F1 p q=p.2.1:=by unfold CI; rw[h,F1.mul_one,F1.mul_one,F1.mul_one]
  rw[hx,hy];exact aB aF (fun _ s=>QP _) (aK prog) func196 (Eu d p q) ⟨by rw[h],trivial⟩ ha
 ·exact aB aF (fun _ s=>QP _) (aK prog) func196 (Ev d p q) ⟨rI h,trivial⟩ ha
def Ix (d:Bool):Tab:=(TT d).add 196 (g2 To To fun p q=>([],.many [.fl (e1 (EF F1 p q)),.fl (e1 (CI F1 p q))]))
theorem Lx (d:Bool):TabOk prog (Ix d):=(QP d).ad func196 (fC nC nC fun p q hp args w ha=>aKt d p q args w ha)
theorem aAa (d:Bool) (p:J1):aT prog (qG prog) (fun _=>⟨fun s=>Ix d,fun s=>true,fun _=>none⟩) f197 60 [.v (.fl (bJ p))]=some ([],.one (.fl (bJ (cK F1 p)))):=by kernel_rfl
def Iv (d:Bool):Tab:=(Ix d).add 197 (g1 To fun p=>([],.one (.fl (bJ (cK F1 p)))))
theorem Lv (d:Bool):TabOk prog (Iv d):=(Lx d).ad func197 (bM nC fun p hp args w ha=>aB aF (fun _ s=>Lx _) (aK prog) func197 (aAa d p) trivial ha)
theorem Zv (d:Bool) (p:J1):aT prog (qG prog) (fun _=>⟨fun s=>Iv d,fun s=>true,fun _=>none⟩) f237 60 [.v (.fl (bJ p))]=some ([],.one (.fl (bJ (tD F1 p)))):=by kernel_rfl
def KE (d:Bool):Tab:=(Iv d).add 237 (g1 To fun p=>([],.one (.fl (bJ (tD F1 p)))))
theorem DW (d:Bool):TabOk prog (KE d):=(Lv d).ad func237 (bM nC fun p hp args w ha=>aB aF (fun _ s=>Lv _) (aK prog) func237 (Zv d p) trivial ha)
theorem WC (p:J1):aT prog (qG prog) (fun _=>⟨fun s=>KE true,fun s=>true,fun _=>none⟩) f155 60 [.v (.fl (bJ p))]=some ([p.2.2=F1.zero],.many [.fl (e1 F1.zero),.fl (e1 F1.zero),.im (.bool true)]):=by kernel_rfl
theorem WB (p:J1):aT prog (qG prog) (fun _=>⟨fun s=>KE false,fun s=>true,fun _=>none⟩) f155 60 [.v (.fl (bJ p))]=some ([p.2.2≠F1.zero,aA (e1 p.2.2)=aA (e1 F1.one)],.many [.fl (e1 p.1),.fl (e1 p.2.1),.im (.bool false)]):=by kernel_rfl
theorem WD (p:J1):aT prog (qG prog) (fun _=>⟨fun s=>KE false,fun s=>false,fun _=>none⟩) f155 60 [.v (.fl (bJ p))]=some ([p.2.2≠F1.zero,aA (e1 p.2.2)≠aA (e1 F1.one),p.2.2≠F1.zero],.many [.fl (e1 (F1.mul p.1 (F1.mul (cT p.2.2) (cT p.2.2)))),.fl (e1 (F1.mul p.2.1 (F1.mul (F1.mul (cT p.2.2) (cT p.2.2)) (cT p.2.2)))),.im (.bool false)]):=by kernel_rfl
def Gc (d:Bool) (p:J1):List Prop×RV:=bif d then ([p.2.2=F1.zero],.many [.fl (e1 F1.zero),.fl (e1 F1.zero),.im (.bool true)])else ([p.2.2≠F1.zero],.many [.fl (e1 (F1.mul p.1 (F1.mul (cT p.2.2) (cT p.2.2)))),.fl (e1 (F1.mul p.2.1 (F1.mul (F1.mul (cT p.2.2) (cT p.2.2)) (cT p.2.2)))),.im (.bool false)])
theorem Ul (d:Bool) (p:J1) (hp:aZ (Gc d p).1) (args:List Value) (w:World) (ha:bQ w [.v (.fl (bJ p))] args):Good prog 155 (Gc d p).2 args w:=by
 cases d
 ·have h:p.2.2≠F1.zero:=hp.1;show Good _ _ (.many [.fl (e1 (F1.mul p.1 (F1.mul (cT p.2.2) (cT p.2.2)))),.fl (e1 (F1.mul p.2.1 (F1.mul (F1.mul (cT p.2.2) (cT p.2.2)) (cT p.2.2)))),.im (.bool false)]) _ _
  by_cases h1:p.2.2=F1.one
  ·have hi:cT p.2.2=F1.one:=by rw[h1]; exact fd1.inv_one
   rw[hi,F1.mul_one,F1.mul_one,F1.mul_one,F1.mul_one];exact aB aF (fun _ s=>DW _) (aK prog) func155 (WB p) ⟨h,by rw[h1],trivial⟩ ha
  ·exact aB aF (fun _ s=>DW _) (aK prog) func155 (WD p) ⟨h,rI h1,h,trivial⟩ ha
 ·exact aB aF (fun _ s=>DW _) (aK prog) func155 (WC p) hp ha
def rQ (d:Bool):Tab:=(KE d).add 155 (g1 To (Gc d))
theorem pM (d:Bool):TabOk prog (rQ d):=(DW d).ad func155 (bM nC fun p hp args w ha=>Ul d p hp args w ha)
theorem WU (p q:J1):aT prog (qG prog) (fun _=>⟨fun s=>rQ (bif Nat.beq s 18 then true else false),fun s=>true,fun _=>none⟩) f156 80 [.v (.fl (bJ p)),.v (.fl (bJ q))]=some ([p.2.2=F1.zero],.one (.fl (bJ q))):=by kernel_rfl
theorem WT (p q:J1):aT prog (qG prog) (fun _=>⟨fun s=>rQ (bif Nat.beq s 18 then false else true),fun s=>true,fun _=>none⟩) f156 80 [.v (.fl (bJ p)),.v (.fl (bJ q))]=some ([p.2.2≠F1.zero,q.2.2=F1.zero],.one (.fl (bJ p))):=by kernel_rfl
theorem WS (p q:J1):aT prog (qG prog) (fun _=>⟨fun s=>rQ (bif Nat.beq s 18 then false else false),fun s=>true,fun _=>none⟩) f156 80 [.v (.fl (bJ p)),.v (.fl (bJ q))]=some ([p.2.2≠F1.zero,q.2.2≠F1.zero,aA (e1 (CJ F1 p q))=aA (e1 F1.zero),aA (e1 (Ag F1 p q))=aA (e1 F1.zero)],.one (.fl (bJ (cK F1 p)))):=by kernel_rfl
theorem WR (p q:J1):aT prog (qG prog) (fun _=>⟨fun s=>rQ (bif Nat.beq s 18 then false else false),fun s=>false,fun _=>none⟩) f156 80 [.v (.fl (bJ p)),.v (.fl (bJ q))]=some ([p.2.2≠F1.zero,q.2.2≠F1.zero,aA (e1 (CJ F1 p q))≠aA (e1 F1.zero)],.one (.fl (bJ (IR F1 p q)))):=by kernel_rfl
theorem WQ (p q:J1):aT prog (qG prog) (fun _=>⟨fun s=>rQ (bif Nat.beq s 18 then false else false),fun s => !(Nat.beq s 49),fun _=>none⟩) f156 80 [.v (.fl (bJ p)),.v (.fl (bJ q))]=some ([p.2.2≠F1.zero,q.2.2≠F1.zero,aA (e1 (CJ F1 p q))=aA (e1 F1.zero),aA (e1 (Ag F1 p q))≠aA (e1 F1.zero)],.one (.fl (bJ (IR F1 p q)))):=by kernel_rfl
theorem aAZ (d:Bool) (p q:J1) (args:List Value) (w:World) (ha:bQ w [.v (.fl (bJ p)),.v (.fl (bJ q))] args):Good prog 156 (.one (.fl (bJ (eD F1 p q)))) args w:=by
 unfold eD
 by_cases h1:p.2.2=F1.zero
 ·rw[if_pos h1];exact aB aF (fun _ s=>pM _) (aK prog) func156 (WU p q) ⟨h1,trivial⟩ ha
 ·rw[if_neg h1]
  by_cases h2:q.2.2=F1.zero
  ·rw[if_pos h2];exact aB aF (fun _ s=>pM _) (aK prog) func156 (WT p q) ⟨h1,h2,trivial⟩ ha
  ·rw[if_neg h2]
   by_cases h3:CJ F1 p q=F1.zero
   ·by_cases h4:Ag F1 p q=F1.zero
    ·rw[if_pos ⟨h3,h4⟩];exact aB aF (fun _ s=>pM _) (aK prog) func156 (WS p q) ⟨h1,h2,by rw[h3],by rw[h4],trivial⟩ ha
    ·rw[if_neg (fun h=>h4 h.2)];exact aB aF (fun _ s=>pM _) (aK prog) func156 (WQ p q) ⟨h1,h2,by rw[h3],rI h4,trivial⟩ ha
   ·rw[if_neg (fun h=>h3 h.1)];exact aB aF (fun _ s=>pM _) (aK prog) func156 (WR p q) ⟨h1,h2,rI h3,trivial⟩ ha
def EQ (d:Bool):Tab:=(rQ d).add 156 (g2 To To fun p q=>([],.one (.fl (bJ (eD F1 p q)))))
theorem GY (d:Bool):TabOk prog (EQ d):=(pM d).ad func156 (fC nC nC fun p q hp args w ha=>aAZ d p q args w ha)
theorem Ea (p:J2):aT prog (qG prog) (fun _=>⟨fun s=>EQ true,fun s=>true,fun _=>none⟩) f199 60 [.v (.fl (bI p))]=some ([aA (e2 p.2.2)=aA (e2 F2.zero)],.one (.im (.bool true))):=by kernel_rfl
theorem Eb (p:J2):aT prog (qG prog) (fun _=>⟨fun s=>EQ false,fun s=>false,fun _=>none⟩) f199 60 [.v (.fl (bI p))]=some ([aA (e2 p.2.2)≠aA (e2 F2.zero)],.one (.im (.bool false))):=by kernel_rfl
def aBY (d:Bool) (p:J2):List Prop×RV:=bif d then ([p.2.2=F2.zero],.one (.im (.bool true)))else ([p.2.2≠F2.zero],.one (.im (.bool false)))
theorem aBX (d:Bool) (p:J2) (hp:aZ (aBY d p).1) (args:List Value) (w:World) (ha:bQ w [.v (.fl (bI p))] args):Good prog 199 (aBY d p).2 args w:=by
 cases d
 ·have h:p.2.2≠F2.zero:=hp.1;exact aB aF (fun _ s=>GY _) (aK prog) func199 (Eb p) ⟨nP h,trivial⟩ ha
 ·have h:p.2.2=F2.zero:=hp.1;exact aB aF (fun _ s=>GY _) (aK prog) func199 (Ea p) ⟨by rw[h],trivial⟩ ha
def UF (d:Bool):Tab:=(EQ d).add 199 (g1 Tn (aBY d))
theorem QT (d:Bool):TabOk prog (UF d):=(GY d).ad func199 (bM nB fun p hp args w ha=>aBX d p hp args w ha)
theorem Dg (d:Bool) (p:J2) (b:Q2):aT prog (qG prog) (fun _=>⟨fun s=>UF d,fun s=>true,fun _=>none⟩) f202 60 [.v (.fl (bI p)),.v (.fl (e2 b))]=some ([aA (e2 p.2.2)=aA (e2 F2.one)],.one (.fl (e2 b))):=by kernel_rfl
theorem Dh (d:Bool) (p:J2) (b:Q2):aT prog (qG prog) (fun _=>⟨fun s=>UF d,fun s=>false,fun _=>none⟩) f202 60 [.v (.fl (bI p)),.v (.fl (e2 b))]=some ([aA (e2 p.2.2)≠aA (e2 F2.one)],.one (.fl (e2 (F2.mul b p.2.2)))):=by kernel_rfl
theorem aGd (d:Bool) (p:J2) (b:Q2) (args:List Value) (w:World) (ha:bQ w [.v (.fl (bI p)),.v (.fl (e2 b))] args):Good prog 202 (.one (.fl (e2 (F2.mul b p.2.2)))) args w:=by
 by_cases h:p.2.2=F2.one
 ·rw[h,F2.mul_one];exact aB aF (fun _ s=>QT _) (aK prog) func202 (Dg d p b) ⟨by rw[h],trivial⟩ ha
 ·exact aB aF (fun _ s=>QT _) (aK prog) func202 (Dh d p b) ⟨nP h,trivial⟩ ha
def TS (d:Bool):Tab:=(UF d).add 202 (g2 Tn LE fun p b=>([],.one (.fl (e2 (F2.mul b p.2.2)))))
theorem QO (d:Bool):TabOk prog (TS d):=(QT d).ad func202 (fC nB fK fun p b hp args w ha=>aGd d p b args w ha)
theorem Es (d:Bool) (p q:J2):aT prog (qG prog) (fun _=>⟨fun s=>TS d,fun s=>true,fun _=>none⟩) f200 60 [.v (.fl (bI p)),.v (.fl (bI q))]=some ([aA (e2 q.2.2)=aA (e2 F2.one)],.many [.fl (e2 (p.1)),.fl (e2 (p.2.1))]):=by kernel_rfl
theorem Et (d:Bool) (p q:J2):aT prog (qG prog) (fun _=>⟨fun s=>TS d,fun s=>false,fun _=>none⟩) f200 60 [.v (.fl (bI p)),.v (.fl (bI q))]=some ([aA (e2 q.2.2)≠aA (e2 F2.one)],.many [.fl (e2 (EF F2 p q)),.fl (e2 (CI F2 p q))]):=by kernel_rfl
theorem aKs (d:Bool) (p q:J2) (args:List Value) (w:World) (ha:bQ w [.v (.fl (bI p)),.v (.fl (bI q))] args):Good prog 200 (.many [.fl (e2 (EF F2 p q)),.fl (e2 (CI F2 p q))]) args w:=by
 by_cases h:q.2.2=F2.one
 ·have hx:EF F2 p q=p.1:=by unfold EF; rw[h,F2.mul_one,F2.mul_one]
  have hy:CI F2 p q=p.2.1:=by unfold CI; rw[h,F2.mul_one,F2.mul_one,F2.mul_one]
  rw[hx,hy];exact aB aF (fun _ s=>QO _) (aK prog) func200 (Es d p q) ⟨by rw[h],trivial⟩ ha
 ·exact aB aF (fun _ s=>QO _) (aK prog) func200 (Et d p q) ⟨nP h,trivial⟩ ha
def Iw (d:Bool):Tab:=(TS d).add 200 (g2 Tn Tn fun p q=>([],.many [.fl (e2 (EF F2 p q)),.fl (e2 (CI F2 p q))]))
theorem Lw (d:Bool):TabOk prog (Iw d):=(QO d).ad func200 (fC nB nB fun p q hp args w ha=>aKs d p q args w ha)
theorem Zz (d:Bool) (p:J2):aT prog (qG prog) (fun _=>⟨fun s=>Iw d,fun s=>true,fun _=>none⟩) f201 60 [.v (.fl (bI p))]=some ([],.one (.fl (bI (cK F2 p)))):=by kernel_rfl
def Iu (d:Bool):Tab:=(Iw d).add 201 (g1 Tn fun p=>([],.one (.fl (bI (cK F2 p)))))
theorem Lu (d:Bool):TabOk prog (Iu d):=(Lw d).ad func201 (bM nB fun p hp args w ha=>aB aF (fun _ s=>Lw _) (aK prog) func201 (Zz d p) trivial ha)
theorem Zu (d:Bool) (p:J2):aT prog (qG prog) (fun _=>⟨fun s=>Iu d,fun s=>true,fun _=>none⟩) f244 60 [.v (.fl (bI p))]=some ([],.one (.fl (bI (tD F2 p)))):=by kernel_rfl
def KD (d:Bool):Tab:=(Iu d).add 244 (g1 Tn fun p=>([],.one (.fl (bI (tD F2 p)))))
theorem DV (d:Bool):TabOk prog (KD d):=(Lu d).ad func244 (bM nB fun p hp args w ha=>aB aF (fun _ s=>Lu _) (aK prog) func244 (Zu d p) trivial ha)
theorem VZ (p:J2):aT prog (qG prog) (fun _=>⟨fun s=>KD true,fun s=>true,fun _=>none⟩) f158 60 [.v (.fl (bI p))]=some ([p.2.2=F2.zero],.many [.fl (e2 F2.zero),.fl (e2 F2.zero),.im (.bool true)]):=by kernel_rfl
theorem VY (p:J2):aT prog (qG prog) (fun _=>⟨fun s=>KD false,fun s=>true,fun _=>none⟩) f158 60 [.v (.fl (bI p))]=some ([p.2.2≠F2.zero,aA (e2 p.2.2)=aA (e2 F2.one)],.many [.fl (e2 p.1),.fl (e2 p.2.1),.im (.bool false)]):=by kernel_rfl
theorem WA (p:J2):aT prog (qG prog) (fun _=>⟨fun s=>KD false,fun s=>false,fun _=>none⟩) f158 60 [.v (.fl (bI p))]=some ([p.2.2≠F2.zero,aA (e2 p.2.2)≠aA (e2 F2.one),sE p.2.2≠F1.zero],.many [.fl (e2 (F2.mul p.1 (F2.mul (dV p.2.2) (dV p.2.2)))),.fl (e2 (F2.mul p.2.1 (F2.mul (F2.mul (dV p.2.2) (dV p.2.2)) (dV p.2.2)))),.im (.bool false)]):=by kernel_rfl
def Gb (d:Bool) (p:J2):List Prop×RV:=bif d then ([p.2.2=F2.zero],.many [.fl (e2 F2.zero),.fl (e2 F2.zero),.im (.bool true)])else ([p.2.2≠F2.zero],.many [.fl (e2 (F2.mul p.1 (F2.mul (dV p.2.2) (dV p.2.2)))),.fl (e2 (F2.mul p.2.1 (F2.mul (F2.mul (dV p.2.2) (dV p.2.2)) (dV p.2.2)))),.im (.bool false)])
theorem Uk (d:Bool) (p:J2) (hp:aZ (Gb d p).1) (args:List Value) (w:World) (ha:bQ w [.v (.fl (bI p))] args):Good prog 158 (Gb d p).2 args w:=by
 cases d
 ·have h:p.2.2≠F2.zero:=hp.1;show Good _ _ (.many [.fl (e2 (F2.mul p.1 (F2.mul (dV p.2.2) (dV p.2.2)))),.fl (e2 (F2.mul p.2.1 (F2.mul (F2.mul (dV p.2.2) (dV p.2.2)) (dV p.2.2)))),.im (.bool false)]) _ _
  by_cases h1:p.2.2=F2.one
  ·have hi:dV p.2.2=F2.one:=by rw[h1]; exact fd2.inv_one
   rw[hi,F2.mul_one,F2.mul_one,F2.mul_one,F2.mul_one];exact aB aF (fun _ s=>DV _) (aK prog) func158 (VY p) ⟨h,by rw[h1],trivial⟩ ha
  ·exact aB aF (fun _ s=>DV _) (aK prog) func158 (WA p) ⟨h,nP h1,aQm h,trivial⟩ ha
 ·exact aB aF (fun _ s=>DV _) (aK prog) func158 (VZ p) hp ha
def rP (d:Bool):Tab:=(KD d).add 158 (g1 Tn (Gb d))
theorem pL (d:Bool):TabOk prog (rP d):=(DV d).ad func158 (bM nB fun p hp args w ha=>Uk d p hp args w ha)
theorem WP (p q:J2):aT prog (qG prog) (fun _=>⟨fun s=>rP (bif Nat.beq s 18 then true else false),fun s=>true,fun _=>none⟩) f159 80 [.v (.fl (bI p)),.v (.fl (bI q))]=some ([p.2.2=F2.zero],.one (.fl (bI q))):=by kernel_rfl
theorem WO (p q:J2):aT prog (qG prog) (fun _=>⟨fun s=>rP (bif Nat.beq s 18 then false else true),fun s=>true,fun _=>none⟩) f159 80 [.v (.fl (bI p)),.v (.fl (bI q))]=some ([p.2.2≠F2.zero,q.2.2=F2.zero],.one (.fl (bI p))):=by kernel_rfl
theorem WN (p q:J2):aT prog (qG prog) (fun _=>⟨fun s=>rP (bif Nat.beq s 18 then false else false),fun s=>true,fun _=>none⟩) f159 80 [.v (.fl (bI p)),.v (.fl (bI q))]=some ([p.2.2≠F2.zero,q.2.2≠F2.zero,aA (e2 (CJ F2 p q))=aA (e2 F2.zero),aA (e2 (Ag F2 p q))=aA (e2 F2.zero)],.one (.fl (bI (cK F2 p)))):=by kernel_rfl
theorem WM (p q:J2):aT prog (qG prog) (fun _=>⟨fun s=>rP (bif Nat.beq s 18 then false else false),fun s=>false,fun _=>none⟩) f159 80 [.v (.fl (bI p)),.v (.fl (bI q))]=some ([p.2.2≠F2.zero,q.2.2≠F2.zero,aA (e2 (CJ F2 p q))≠aA (e2 F2.zero)],.one (.fl (bI (IR F2 p q)))):=by kernel_rfl
theorem WL (p q:J2):aT prog (qG prog) (fun _=>⟨fun s=>rP (bif Nat.beq s 18 then false else false),fun s => !(Nat.beq s 49),fun _=>none⟩) f159 80 [.v (.fl (bI p)),.v (.fl (bI q))]=some ([p.2.2≠F2.zero,q.2.2≠F2.zero,aA (e2 (CJ F2 p q))=aA (e2 F2.zero),aA (e2 (Ag F2 p q))≠aA (e2 F2.zero)],.one (.fl (bI (IR F2 p q)))):=by kernel_rfl
theorem aAY (d:Bool) (p q:J2) (args:List Value) (w:World) (ha:bQ w [.v (.fl (bI p)),.v (.fl (bI q))] args):Good prog 159 (.one (.fl (bI (eD F2 p q)))) args w:=by
 unfold eD
 by_cases h1:p.2.2=F2.zero
 ·rw[if_pos h1];exact aB aF (fun _ s=>pL _) (aK prog) func159 (WP p q) ⟨h1,trivial⟩ ha
 ·rw[if_neg h1]
  by_cases h2:q.2.2=F2.zero
  ·rw[if_pos h2];exact aB aF (fun _ s=>pL _) (aK prog) func159 (WO p q) ⟨h1,h2,trivial⟩ ha
  ·rw[if_neg h2]
   by_cases h3:CJ F2 p q=F2.zero
   ·by_cases h4:Ag F2 p q=F2.zero
    ·rw[if_pos ⟨h3,h4⟩];exact aB aF (fun _ s=>pL _) (aK prog) func159 (WN p q) ⟨h1,h2,by rw[h3],by rw[h4],trivial⟩ ha
    ·rw[if_neg (fun h=>h4 h.2)];exact aB aF (fun _ s=>pL _) (aK prog) func159 (WL p q) ⟨h1,h2,by rw[h3],nP h4,trivial⟩ ha
   ·rw[if_neg (fun h=>h3 h.1)];exact aB aF (fun _ s=>pL _) (aK prog) func159 (WM p q) ⟨h1,h2,nP h3,trivial⟩ ha
def mR (d:Bool):Tab:=(rP d).add 159 (g2 Tn Tn fun p q=>([],.one (.fl (bI (eD F2 p q)))))
theorem lH (d:Bool):TabOk prog (mR d):=(pL d).ad func159 (fC nB nB fun p q hp args w ha=>aAY d p q args w ha)
theorem Jp (x:Nat):w4 x=w4 (wv x):=by
 obtain⟨e0,e1,e2,e3⟩:=lM (dE x) (show wv x<115792089237316195423570985008687907853269984665640564039457584007913129639936 by
  have h:=dE x;obtain⟨h0,h1,h2,h3⟩:=h;unfold wv aG; omega) rfl
 unfold w4;rw[e0,e1,e2,e3]
theorem q_f {x:Nat} (h:wv x<FP.M):aA [.q x]=aA [.f (m1 x)]:=by
 show w4 x++[]=w4 (m1 x).1++[];rw[Jp x];show w4 (wv x)++[]=w4 (wv x%FP.M)++[];rw[Nat.mod_eq_of_lt h]
theorem NN (a:At) (l:List At):aA (a::l)=aA [a]++aA l:=by show a.cells++aA l=(a.cells++[])++aA l; rw[List.append_nil]
theorem DN {x y:Nat} (h:w4 x=w4 y):wv x=wv y:=by
 unfold w4 at h;simp only[List.cons.injEq,Value.int.injEq,true_and,and_true,Int.ofNat_inj]at h;unfold wv;rw[h.1,h.2.1,h.2.2.1,h.2.2.2]
theorem GF {x:Nat}:aA [.q x]=aA (e1 F1.zero)↔wv x=0:=by
 constructor
 ·intro h;have h':w4 x++[]=w4 0++[]:=h;rw[List.append_nil,List.append_nil]at h';rw[DN h']; decide
 ·intro h;show w4 x++[]=w4 0++[];rw[Jp x,h]
theorem xT {x:N2}:aA (q2 x)=aA (e2 F2.zero)↔wv x.1=0∧wv x.2=0:=by
 constructor
 ·intro h;have h':w4 x.1++(w4 x.2++[])=w4 0++(w4 0++[]):=h;obtain⟨h1,h2⟩:=List.append_inj h' rfl;rw[List.append_nil,List.append_nil]at h2;exact⟨by rw[DN h1]; decide,by rw[DN h2]; decide⟩
 ·rintro⟨h1,h2⟩
  show w4 x.1++(w4 x.2++[])=w4 0++(w4 0++[]);rw[Jp x.1,Jp x.2,h1,h2]
theorem Good.congr {P:Program} {f:FuncId} {r r':RV} {args:List Value} {w:World} (h:Good P f r args w) (e:r.den=r'.den):Good P f r' args w:=by
 unfold Good at h ⊢;rw[←e];exact h
def KQ (x:Nat):Prop:=wv x<FP.M
def KP (x:N2):Prop:=wv x.1<FP.M∧wv x.2<FP.M
def zr1 (x:Nat):Prop:=wv x=0
def Wq (x:N2):Prop:=wv x.1=0∧wv x.2=0
theorem aME {x:Nat} (h:KQ x):aA (q1 x)=aA (e1 (m1 x)):=q_f h
theorem aMD {x:N2} (h:KP x):aA (q2 x)=aA (e2 (m2 x)):=by
 show aA (.q x.1::[.q x.2])=aA (.f (m1 x.1)::[.f (m1 x.2)]);rw[NN,NN (.f _),q_f h.1,q_f h.2]
theorem vJ {c:Int} (h:c≠0):aI .neq .i64 c 0=some (.bool true):=by
 show some (Value.bool (c != 0))=_;rw[bne_iff_ne.2 h]
theorem IG {c:Int} (h:c=0):aI .neq .i64 c 0=some (.bool false):=by rw[h]; rfl
open Classical in
theorem aEv:∃g:Nat→Nat→Bool→Int×J1,∀x y i,g x y i=if i=true then (if zr1 x∧zr1 y then (0,(F1.zero,F1.zero,F1.zero))else (44,(F1.zero,F1.zero,F1.zero)))else if ¬(KQ x∧KQ y)then (21,(F1.zero,F1.zero,F1.zero))else if F1.mul (m1 y) (m1 y)=F1.add (F1.mul (F1.mul (m1 x) (m1 x)) (m1 x)) (fm 3)then (0,(m1 x,m1 y,F1.one))else (41,(F1.zero,F1.zero,F1.zero)):=⟨_,fun _ _ _=>rfl⟩
def SX:Nat→Nat→Bool→Int×J1:=Classical.choose aEv
open Classical in
theorem SW (x y:Nat) (i:Bool):SX x y i=if i=true then (if zr1 x∧zr1 y then (0,(F1.zero,F1.zero,F1.zero))else (44,(F1.zero,F1.zero,F1.zero)))else if ¬(KQ x∧KQ y)then (21,(F1.zero,F1.zero,F1.zero))else if F1.mul (m1 y) (m1 y)=F1.add (F1.mul (F1.mul (m1 x) (m1 x)) (m1 x)) (fm 3)then (0,(m1 x,m1 y,F1.one))else (41,(F1.zero,F1.zero,F1.zero)):=Classical.choose_spec aEv x y i
theorem Sy (x y:Nat):aT prog (qG prog) (fun _=>⟨fun s=>mR (bif Nat.beq s 28 then true else bif Nat.beq s 33 then true else true),fun s=>false,fun _=>none⟩) f154 80 [.v (.fl (q1 x)),.v (.fl (q1 y)),.v (.im (.bool true))]=some ([aA (q1 x)≠aA (e1 F1.zero)],.many [.fl (bJ (F1.zero,F1.zero,F1.zero)),.im (.int .i64 44)]):=by kernel_rfl
theorem Sx (x y:Nat):aT prog (qG prog) (fun _=>⟨fun s=>mR (bif Nat.beq s 28 then true else bif Nat.beq s 33 then true else true),fun s => !(Nat.beq s 18),fun _=>none⟩) f154 80 [.v (.fl (q1 x)),.v (.fl (q1 y)),.v (.im (.bool true))]=some ([aA (q1 x)=aA (e1 F1.zero),aA (q1 y)≠aA (e1 F1.zero)],.many [.fl (bJ (F1.zero,F1.zero,F1.zero)),.im (.int .i64 44)]):=by kernel_rfl
theorem Sw (x y:Nat):aT prog (qG prog) (fun _=>⟨fun s=>mR (bif Nat.beq s 28 then true else bif Nat.beq s 33 then true else true),fun s=>true,fun _=>none⟩) f154 80 [.v (.fl (q1 x)),.v (.fl (q1 y)),.v (.im (.bool true))]=some ([aA (q1 x)=aA (e1 F1.zero),aA (q1 y)=aA (e1 F1.zero)],.many [.fl (bJ (F1.zero,F1.zero,F1.zero)),.im (.int .i64 0)]):=by kernel_rfl
theorem Sv (x y:Nat):aT prog (qG prog) (fun _=>⟨fun s=>mR (bif Nat.beq s 28 then false else bif Nat.beq s 33 then true else true),fun s=>true,fun _=>none⟩) f154 80 [.v (.fl (q1 x)),.v (.fl (q1 y)),.v (.im (.bool false))]=some ([¬wv x<FP.M],.many [.fl (bJ (F1.zero,F1.zero,F1.zero)),.im (.int .i64 21)]):=by kernel_rfl
theorem Su (x y:Nat):aT prog (qG prog) (fun _=>⟨fun s=>mR (bif Nat.beq s 28 then true else bif Nat.beq s 33 then false else true),fun s=>true,fun _=>none⟩) f154 80 [.v (.fl (q1 x)),.v (.fl (q1 y)),.v (.im (.bool false))]=some ([wv x<FP.M,¬wv y<FP.M],.many [.fl (bJ (F1.zero,F1.zero,F1.zero)),.im (.int .i64 21)]):=by kernel_rfl
theorem Ss (x y:Nat):aT prog (qG prog) (fun _=>⟨fun s=>mR (bif Nat.beq s 28 then true else bif Nat.beq s 33 then true else true),fun s=>false,fun _=>none⟩) f154 80 [.v (.fl (q1 x)),.v (.fl (q1 y)),.v (.im (.bool false))]=some ([wv x<FP.M,wv y<FP.M,wv y<FP.M,wv y<FP.M,wv x<FP.M,wv x<FP.M,wv x<FP.M,aA (e1 (F1.mul (m1 y) (m1 y)))≠aA (e1 (F1.add (F1.mul (F1.mul (m1 x) (m1 x)) (m1 x)) (fm 3)))],.many [.fl (bJ (F1.zero,F1.zero,F1.zero)),.im (.int .i64 41)]):=by kernel_rfl
theorem Sr (x y:Nat):aT prog (qG prog) (fun _=>⟨fun s=>mR (bif Nat.beq s 28 then true else bif Nat.beq s 33 then true else true),fun s=>true,fun _=>none⟩) f154 80 [.v (.fl (q1 x)),.v (.fl (q1 y)),.v (.im (.bool false))]=some ([wv x<FP.M,wv y<FP.M,wv y<FP.M,wv y<FP.M,wv x<FP.M,wv x<FP.M,wv x<FP.M,aA (e1 (F1.mul (m1 y) (m1 y)))=aA (e1 (F1.add (F1.mul (F1.mul (m1 x) (m1 x)) (m1 x)) (fm 3)))],.many [.fl (q1 x++(q1 y++e1 F1.one)),.im (.int .i64 0)]):=by kernel_rfl
theorem aSy (x y:Nat) (i:Bool) (args:List Value) (w:World) (ha:bQ w [.v (.fl (q1 x)),.v (.fl (q1 y)),.v (.im (.bool i))] args):Good prog 154 (.many [.fl (bJ (SX x y i).2),.im (.int .i64 (SX x y i).1)]) args w:=by
 rw[SW];cases i with
 | true =>
  rw[if_pos rfl]
  by_cases hx:zr1 x
  ·by_cases hy:zr1 y
   ·rw[if_pos ⟨hx,hy⟩];exact aB aF (fun _ s=>lH _) (aK prog) func154 (Sw x y) ⟨GF.2 hx,GF.2 hy,trivial⟩ ha
   ·rw[if_neg (fun h=>hy h.2)];exact aB aF (fun _ s=>lH _) (aK prog) func154 (Sx x y) ⟨GF.2 hx,fun h=>hy (GF.1 h),trivial⟩ ha
  ·rw[if_neg (fun h=>hx h.1)];exact aB aF (fun _ s=>lH _) (aK prog) func154 (Sy x y) ⟨fun h=>hx (GF.1 h),trivial⟩ ha
 | false =>
  rw[if_neg (by simp)]
  by_cases hx:KQ x
  ·by_cases hy:KQ y
   ·rw[if_neg (fun h=>h ⟨hx,hy⟩)]
    by_cases h:F1.mul (m1 y) (m1 y)=F1.add (F1.mul (F1.mul (m1 x) (m1 x)) (m1 x)) (fm 3)
    ·rw[if_pos h];refine Good.congr (r:=.many [.fl (q1 x++(q1 y++e1 F1.one)),.im (.int .i64 0)]) ?_ ?_
     ·exact aB aF (fun _ s=>lH _) (aK prog) func154 (Sr x y) ⟨hx,hy,hy,hy,hx,hx,hx,by rw[h],trivial⟩ ha
     ·have e:aA (q1 x++(q1 y++e1 F1.one))=aA (bJ (m1 x,m1 y,F1.one)):=by
       rw[aS,aS,aME hx,aME hy];rfl
      show Value.tuple #[.agg (aA _).toArray,_]=.tuple #[.agg (aA _).toArray,_];rw[e]
    ·rw[if_neg h];exact aB aF (fun _ s=>lH _) (aK prog) func154 (Ss x y) ⟨hx,hy,hy,hy,hx,hx,hx,rI h,trivial⟩ ha
   ·rw[if_pos (fun h=>hy h.2)];exact aB aF (fun _ s=>lH _) (aK prog) func154 (Su x y) ⟨hx,hy,trivial⟩ ha
  ·rw[if_pos (fun h=>hx h.1)];exact aB aF (fun _ s=>lH _) (aK prog) func154 (Sv x y) ⟨hx,trivial⟩ ha
def aRw:jV
 | [.v (.fl l),.v (.fl m),.v (.im (.bool i))]=>match LD l,LD m with
  | some x,some y=>some ([],.many [.fl (bJ (SX x y i).2),.im (.int .i64 (SX x y i).1)])
  | _,_=>none
 | _=>none
theorem aJF:∀cs pre r,aRw cs=some (pre,r)→aZ pre→∀(args:List Value) (w:World),bQ w cs args→Good prog 154 r args w:=by
 intro cs pre r hg hp args w ha;unfold aRw at hg;split at hg
 ·rename_i l m i;split at hg
  ·rename_i x y hx hy;cases hg;refine aSy x y i args w ?_
   match args,ha with
   | [u,v,t],ha =>
    refine⟨?_,?_,ha.2.2⟩
    ·show u=.agg (aA (q1 x)).toArray;rw[←fJ l x hx]; exact ha.1
    ·show v=.agg (aA (q1 y)).toArray;rw[←fJ m y hy]; exact ha.2.1
   | [],ha=>exact ha.elim
   | [_],ha=>exact ha.2.elim
   | [_,_],ha=>exact ha.2.2.elim
   | _::_::_::_::_,ha=>exact ha.2.2.2.elim
  ·cases hg
 ·cases hg
def aFr (d:Bool):Tab:=(mR d).add 154 aRw
theorem aBH (d:Bool):TabOk prog (aFr d):=(lH d).ad func154 aJF
abbrev nW:=Nat×Nat×Bool
def rX (p:nW):List At:=[.q p.1,.q p.2.1,.c (.bool p.2.2)]
def rg1:List At→Option nW
 | [a,b,.c (.bool i)]=>match ZT a,ZT b with|some x,some y=>some (x,y,i)|_,_=>none
 | _=>none
theorem mU {a:At} {x:Nat} (h:ZT a=some x):a.cells=w4 x:=by cases a<;>cases h<;>rfl
theorem GD:Rd rg1 rX:=fun l x h=>by
 unfold rg1 at h;split at h
 ·split at h
  ·rename_i x y h1 h2;cases h;show _++(_++_)=w4 _++(w4 _++_);rw[mU h1,mU h2]
  ·cases h
 ·cases h
def vF {R:Type}:Pt R→Bool|none=>true|some _=>false
def ptX {R:Type} (K:CR R):Pt R→R|none=>K.zero|some p=>p.1
def ptY {R:Type} (K:CR R):Pt R→R|none=>K.zero|some p=>p.2
def cV (p:Pt Fq):List At:=[.f (ptX F1 p),.f (ptY F1 p),.c (.bool (vF p))]
theorem aGM (d:Bool) (p:nW):aT prog (qG prog) (fun _=>⟨fun s=>aFr d,fun s=>true,fun _=>none⟩) f99 80 [.v (.fl (rX p))]=some ([],.many [.fl (bJ (SX p.1 p.2.1 p.2.2).2),.im (.int .i64 (SX p.1 p.2.1 p.2.2).1)]):=by kernel_rfl
def aFk (d:Bool):Tab:=(aFr d).add 99 (g1 rg1 fun p=>([],.many [.fl (bJ (SX p.1 p.2.1 p.2.2).2),.im (.int .i64 (SX p.1 p.2.1 p.2.2).1)]))
theorem aBD (d:Bool):TabOk prog (aFk d):=(aBH d).ad func99 (bM GD fun p hp args w ha=>aB aF (fun _ s=>aBH _) (aK prog) func99 (aGM d p) trivial ha)
theorem aHg (d:Bool) (p:nW):aT prog (qG prog) (fun _=>⟨fun s=>aFk d,fun s=>true,fun _=>none⟩) f160 80 [.v (.fl (rX p))]=some ([],.one (.im (.int .i64 (SX p.1 p.2.1 p.2.2).1))):=by kernel_rfl
def Pl (d:Bool):Tab:=(aFk d).add 160 (g1 rg1 fun p=>([],.one (.im (.int .i64 (SX p.1 p.2.1 p.2.2).1))))
theorem Ga (d:Bool):TabOk prog (Pl d):=(aBD d).ad func160 (bM GD fun p hp args w ha=>aB aF (fun _ s=>aBD _) (aK prog) func160 (aHg d p) trivial ha)
theorem Dx (p:J1):aT prog (qG prog) (fun _=>⟨fun s=>Pl true,fun s=>true,fun _=>none⟩) f100 80 [.v (.fl (bJ p))]=some ([p.2.2=F1.zero],.one (.fl (cV none))):=by kernel_rfl
theorem Dy (p:J1):aT prog (qG prog) (fun _=>⟨fun s=>Pl false,fun s=>true,fun _=>none⟩) f100 80 [.v (.fl (bJ p))]=some ([p.2.2≠F1.zero],.one (.fl (cV (some (F1.mul p.1 (F1.mul (cT p.2.2) (cT p.2.2)),F1.mul p.2.1 (F1.mul (F1.mul (cT p.2.2) (cT p.2.2)) (cT p.2.2))))))):=by kernel_rfl
theorem aIf (p:J1) (args:List Value) (w:World) (ha:bQ w [.v (.fl (bJ p))] args):Good prog 100 (.one (.fl (cV (fT F1 cT p)))) args w:=by
 by_cases h:p.2.2=F1.zero
 ·rw[dJ h];exact aB aF (fun _ s=>Ga _) (aK prog) func100 (Dx p) ⟨h,trivial⟩ ha
 ·rw[dT h];exact aB aF (fun _ s=>Ga _) (aK prog) func100 (Dy p) ⟨h,trivial⟩ ha
def Il (d:Bool):Tab:=(Pl d).add 100 (g1 To fun p=>([],.one (.fl (cV (fT F1 cT p)))))
theorem Ln (d:Bool):TabOk prog (Il d):=(Ga d).ad func100 (bM nC fun p hp args w ha=>aIf p args w ha)
def gH:List At:=[.c (.func (.func 99) #[] #[]),.c (.func (.func 100) #[] #[])]
theorem Zy (d:Bool):aT prog (qG prog) (fun _=>⟨fun s=>Il d,fun s=>true,fun _=>none⟩) f47 80 []=some ([],.one (.fl gH)):=by kernel_rfl
def rU (d:Bool):Tab:=(Il d).add 47 (g0 (.one (.fl gH)))
theorem oI (d:Bool):TabOk prog (rU d):=(Ln d).ad func47 (gI fun w=>aB aF (fun _ s=>Ln _) (aK prog) func47 (Zy d) trivial (args:=[]) trivial)
open Classical in
theorem aEs:∃g:N2→N2→Bool→Int×J2,∀x y i,g x y i=if i=true then (if Wq x∧Wq y then (0,(F2.zero,F2.zero,F2.zero))else (44,(F2.zero,F2.zero,F2.zero)))else if ¬(KP x∧KP y)then (21,(F2.zero,F2.zero,F2.zero))else if F2.mul (m2 y) (m2 y)=F2.add (F2.mul (F2.mul (m2 x) (m2 x)) (m2 x)) dK then (0,(m2 x,m2 y,F2.one))else (41,(F2.zero,F2.zero,F2.zero)):=⟨_,fun _ _ _=>rfl⟩
def sF:N2→N2→Bool→Int×J2:=Classical.choose aEs
open Classical in
theorem JK (x y:N2) (i:Bool):sF x y i=if i=true then (if Wq x∧Wq y then (0,(F2.zero,F2.zero,F2.zero))else (44,(F2.zero,F2.zero,F2.zero)))else if ¬(KP x∧KP y)then (21,(F2.zero,F2.zero,F2.zero))else if F2.mul (m2 y) (m2 y)=F2.add (F2.mul (F2.mul (m2 x) (m2 x)) (m2 x)) dK then (0,(m2 x,m2 y,F2.one))else (41,(F2.zero,F2.zero,F2.zero)):=Classical.choose_spec aEs x y i
theorem Sq (x y:N2):aT prog (qG prog) (fun _=>⟨fun s=>rU (bif Nat.beq s 28 then true else bif Nat.beq s 33 then true else true),fun s=>false,fun _=>none⟩) f157 80 [.v (.fl (q2 x)),.v (.fl (q2 y)),.v (.im (.bool true))]=some ([aA (q2 x)≠aA (e2 F2.zero)],.many [.fl (bI (F2.zero,F2.zero,F2.zero)),.im (.int .i64 44)]):=by kernel_rfl
theorem Sp (x y:N2):aT prog (qG prog) (fun _=>⟨fun s=>rU (bif Nat.beq s 28 then true else bif Nat.beq s 33 then true else true),fun s => !(Nat.beq s 18),fun _=>none⟩) f157 80 [.v (.fl (q2 x)),.v (.fl (q2 y)),.v (.im (.bool true))]=some ([aA (q2 x)=aA (e2 F2.zero),aA (q2 y)≠aA (e2 F2.zero)],.many [.fl (bI (F2.zero,F2.zero,F2.zero)),.im (.int .i64 44)]):=by kernel_rfl
theorem So (x y:N2):aT prog (qG prog) (fun _=>⟨fun s=>rU (bif Nat.beq s 28 then true else bif Nat.beq s 33 then true else true),fun s=>true,fun _=>none⟩) f157 80 [.v (.fl (q2 x)),.v (.fl (q2 y)),.v (.im (.bool true))]=some ([aA (q2 x)=aA (e2 F2.zero),aA (q2 y)=aA (e2 F2.zero)],.many [.fl (bI (F2.zero,F2.zero,F2.zero)),.im (.int .i64 0)]):=by kernel_rfl
theorem Sn (x y:N2):aT prog (qG prog) (fun _=>⟨fun s=>rU (bif Nat.beq s 28 then false else bif Nat.beq s 33 then true else true),fun s=>true,fun _=>none⟩) f157 80 [.v (.fl (q2 x)),.v (.fl (q2 y)),.v (.im (.bool false))]=some ([¬(wv x.1<FP.M∧wv x.2<FP.M)],.many [.fl (bI (F2.zero,F2.zero,F2.zero)),.im (.int .i64 21)]):=by kernel_rfl
theorem Sm (x y:N2):aT prog (qG prog) (fun _=>⟨fun s=>rU (bif Nat.beq s 28 then true else bif Nat.beq s 33 then false else true),fun s=>true,fun _=>none⟩) f157 80 [.v (.fl (q2 x)),.v (.fl (q2 y)),.v (.im (.bool false))]=some ([(wv x.1<FP.M∧wv x.2<FP.M),¬(wv y.1<FP.M∧wv y.2<FP.M)],.many [.fl (bI (F2.zero,F2.zero,F2.zero)),.im (.int .i64 21)]):=by kernel_rfl
theorem Sl (x y:N2):aT prog (qG prog) (fun _=>⟨fun s=>rU (bif Nat.beq s 28 then true else bif Nat.beq s 33 then true else true),fun s=>false,fun _=>none⟩) f157 80 [.v (.fl (q2 x)),.v (.fl (q2 y)),.v (.im (.bool false))]=some ([(wv x.1<FP.M∧wv x.2<FP.M),(wv y.1<FP.M∧wv y.2<FP.M),aA (e2 (F2.mul (m2 y) (m2 y)))≠aA (e2 (F2.add (F2.mul (F2.mul (m2 x) (m2 x)) (m2 x)) dK))],.many [.fl (bI (F2.zero,F2.zero,F2.zero)),.im (.int .i64 41)]):=by kernel_rfl
theorem Sk (x y:N2):aT prog (qG prog) (fun _=>⟨fun s=>rU (bif Nat.beq s 28 then true else bif Nat.beq s 33 then true else true),fun s=>true,fun _=>none⟩) f157 80 [.v (.fl (q2 x)),.v (.fl (q2 y)),.v (.im (.bool false))]=some ([(wv x.1<FP.M∧wv x.2<FP.M),(wv y.1<FP.M∧wv y.2<FP.M),aA (e2 (F2.mul (m2 y) (m2 y)))=aA (e2 (F2.add (F2.mul (F2.mul (m2 x) (m2 x)) (m2 x)) dK))],.many [.fl (q2 x++(q2 y++e2 F2.one)),.im (.int .i64 0)]):=by kernel_rfl
theorem aSx (x y:N2) (i:Bool) (args:List Value) (w:World) (ha:bQ w [.v (.fl (q2 x)),.v (.fl (q2 y)),.v (.im (.bool i))] args):Good prog 157 (.many [.fl (bI (sF x y i).2),.im (.int .i64 (sF x y i).1)]) args w:=by
 rw[JK];cases i with
 | true =>
  rw[if_pos rfl]
  by_cases hx:Wq x
  ·by_cases hy:Wq y
   ·rw[if_pos ⟨hx,hy⟩];exact aB aF (fun _ s=>oI _) (aK prog) func157 (So x y) ⟨xT.2 hx,xT.2 hy,trivial⟩ ha
   ·rw[if_neg (fun h=>hy h.2)];exact aB aF (fun _ s=>oI _) (aK prog) func157 (Sp x y) ⟨xT.2 hx,fun h=>hy (xT.1 h),trivial⟩ ha
  ·rw[if_neg (fun h=>hx h.1)];exact aB aF (fun _ s=>oI _) (aK prog) func157 (Sq x y) ⟨fun h=>hx (xT.1 h),trivial⟩ ha
 | false =>
  rw[if_neg (by simp)]
  by_cases hx:KP x
  ·by_cases hy:KP y
   ·rw[if_neg (fun h=>h ⟨hx,hy⟩)]
    by_cases h:F2.mul (m2 y) (m2 y)=F2.add (F2.mul (F2.mul (m2 x) (m2 x)) (m2 x)) dK
    ·rw[if_pos h];refine Good.congr (r:=.many [.fl (q2 x++(q2 y++e2 F2.one)),.im (.int .i64 0)]) ?_ ?_
     ·exact aB aF (fun _ s=>oI _) (aK prog) func157 (Sk x y) ⟨hx,hy,by rw[h],trivial⟩ ha
     ·have e:aA (q2 x++(q2 y++e2 F2.one))=aA (bI (m2 x,m2 y,F2.one)):=by
       rw[aS,aS,aMD hx,aMD hy];rfl
      show Value.tuple #[.agg (aA _).toArray,_]=.tuple #[.agg (aA _).toArray,_];rw[e]
    ·rw[if_neg h];exact aB aF (fun _ s=>oI _) (aK prog) func157 (Sl x y) ⟨hx,hy,nP h,trivial⟩ ha
   ·rw[if_pos (fun h=>hy h.2)];exact aB aF (fun _ s=>oI _) (aK prog) func157 (Sm x y) ⟨hx,hy,trivial⟩ ha
  ·rw[if_pos (fun h=>hx h.1)];exact aB aF (fun _ s=>oI _) (aK prog) func157 (Sn x y) ⟨hx,trivial⟩ ha
def aRv:jV
 | [.v (.fl l),.v (.fl m),.v (.im (.bool i))]=>match rq2 l,rq2 m with
  | some x,some y=>some ([],.many [.fl (bI (sF x y i).2),.im (.int .i64 (sF x y i).1)])
  | _,_=>none
 | _=>none
theorem aJE:∀cs pre r,aRv cs=some (pre,r)→aZ pre→∀(args:List Value) (w:World),bQ w cs args→Good prog 157 r args w:=by
 intro cs pre r hg hp args w ha;unfold aRv at hg;split at hg
 ·rename_i l m i;split at hg
  ·rename_i x y hx hy;cases hg;refine aSx x y i args w ?_
   match args,ha with
   | [u,v,t],ha =>
    refine⟨?_,?_,ha.2.2⟩
    ·show u=.agg (aA (q2 x)).toArray;rw[←sM l x hx]; exact ha.1
    ·show v=.agg (aA (q2 y)).toArray;rw[←sM m y hy]; exact ha.2.1
   | [],ha=>exact ha.elim
   | [_],ha=>exact ha.2.elim
   | [_,_],ha=>exact ha.2.2.elim
   | _::_::_::_::_,ha=>exact ha.2.2.2.elim
  ·cases hg
 ·cases hg
def aFq (d:Bool):Tab:=(rU d).add 157 aRv
theorem aBG (d:Bool):TabOk prog (aFq d):=(oI d).ad func157 aJE
abbrev jQ:=N2×N2×Bool
def jU (p:jQ):List At:=[.q p.1.1,.q p.1.2,.q p.2.1.1,.q p.2.1.2,.c (.bool p.2.2)]
def rg2:List At→Option jQ
 | [a,b,c,d,.c (.bool i)]=>match ZT a,ZT b,ZT c,ZT d with|some x,some y,some z,some w=>some ((x,y),(z,w),i)|_,_,_,_=>none
 | _=>none
theorem qO:Rd rg2 jU:=fun l x h=>by
 unfold rg2 at h;split at h
 ·split at h
  ·rename_i x y z w h1 h2 h3 h4;cases h;show _++(_++(_++(_++_)))=w4 _++(w4 _++(w4 _++(w4 _++_)));rw[mU h1,mU h2,mU h3,mU h4]
  ·cases h
 ·cases h
def cD (p:Pt Q2):List At:=[.f (ptX F2 p).1,.f (ptX F2 p).2,.f (ptY F2 p).1,.f (ptY F2 p).2,.c (.bool (vF p))]
theorem aGL (d:Bool) (p:jQ):aT prog (qG prog) (fun _=>⟨fun s=>aFq d,fun s=>true,fun _=>none⟩) f103 80 [.v (.fl (jU p))]=some ([],.many [.fl (bI (sF p.1 p.2.1 p.2.2).2),.im (.int .i64 (sF p.1 p.2.1 p.2.2).1)]):=by kernel_rfl
def aFj (d:Bool):Tab:=(aFq d).add 103 (g1 rg2 fun p=>([],.many [.fl (bI (sF p.1 p.2.1 p.2.2).2),.im (.int .i64 (sF p.1 p.2.1 p.2.2).1)]))
theorem aBC (d:Bool):TabOk prog (aFj d):=(aBG d).ad func103 (bM qO fun p hp args w ha=>aB aF (fun _ s=>aBG _) (aK prog) func103 (aGL d p) trivial ha)
theorem aHf (d:Bool) (p:jQ):aT prog (qG prog) (fun _=>⟨fun s=>aFj d,fun s=>true,fun _=>none⟩) f161 80 [.v (.fl (jU p))]=some ([],.one (.im (.int .i64 (sF p.1 p.2.1 p.2.2).1))):=by kernel_rfl
def Pk (d:Bool):Tab:=(aFj d).add 161 (g1 rg2 fun p=>([],.one (.im (.int .i64 (sF p.1 p.2.1 p.2.2).1))))
theorem Fz (d:Bool):TabOk prog (Pk d):=(aBC d).ad func161 (bM qO fun p hp args w ha=>aB aF (fun _ s=>aBC _) (aK prog) func161 (aHf d p) trivial ha)
theorem Dv (p:J2):aT prog (qG prog) (fun _=>⟨fun s=>Pk true,fun s=>true,fun _=>none⟩) f104 80 [.v (.fl (bI p))]=some ([p.2.2=F2.zero],.one (.fl (cD none))):=by kernel_rfl
theorem Dw (p:J2):aT prog (qG prog) (fun _=>⟨fun s=>Pk false,fun s=>true,fun _=>none⟩) f104 80 [.v (.fl (bI p))]=some ([p.2.2≠F2.zero],.one (.fl (cD (some (F2.mul p.1 (F2.mul (dV p.2.2) (dV p.2.2)),F2.mul p.2.1 (F2.mul (F2.mul (dV p.2.2) (dV p.2.2)) (dV p.2.2))))))):=by kernel_rfl
theorem aIe (p:J2) (args:List Value) (w:World) (ha:bQ w [.v (.fl (bI p))] args):Good prog 104 (.one (.fl (cD (fT F2 dV p)))) args w:=by
 by_cases h:p.2.2=F2.zero
 ·rw[dJ h];exact aB aF (fun _ s=>Fz _) (aK prog) func104 (Dv p) ⟨h,trivial⟩ ha
 ·rw[dT h];exact aB aF (fun _ s=>Fz _) (aK prog) func104 (Dw p) ⟨h,trivial⟩ ha
def UE (d:Bool):Tab:=(Pk d).add 104 (g1 Tn fun p=>([],.one (.fl (cD (fT F2 dV p)))))
theorem QS (d:Bool):TabOk prog (UE d):=(Fz d).ad func104 (bM nB fun p hp args w ha=>aIe p args w ha)
def fE:List At:=[.c (.func (.func 103) #[] #[]),.c (.func (.func 104) #[] #[])]
theorem Zx (d:Bool):aT prog (qG prog) (fun _=>⟨fun s=>UE d,fun s=>true,fun _=>none⟩) f49 80 []=some ([],.one (.fl fE)):=by kernel_rfl
def rR (d:Bool):Tab:=(UE d).add 49 (g0 (.one (.fl fE)))
theorem oH (d:Bool):TabOk prog (rR d):=(QS d).ad func49 (gI fun w=>aB aF (fun _ s=>QS _) (aK prog) func49 (Zx d) trivial (args:=[]) trivial)
theorem XA (d:Bool) (p:jQ):aT prog (qG prog) (fun _=>⟨fun s=>rR d,fun s=>true,fun s=>bif Nat.beq s 17 then some (.bool true)else none⟩) f218 80 [.v (.fl fE),.v (.fl (jU p))]=some ([aI .neq .i64 (sF p.1 p.2.1 p.2.2).1 0=some (.bool true)],.many [.fl (cD (some (F2.zero,F2.zero))),.im (.int .i64 (sF p.1 p.2.1 p.2.2).1)]):=by kernel_rfl
theorem XB (d:Bool) (p:jQ):aT prog (qG prog) (fun _=>⟨fun s=>rR d,fun s=>true,fun s=>bif Nat.beq s 17 then some (.bool false)else none⟩) f218 80 [.v (.fl fE),.v (.fl (jU p))]=some ([aI .neq .i64 (sF p.1 p.2.1 p.2.2).1 0=some (.bool false)],.many [.fl (cD (fT F2 dV (tD F2 (sF p.1 p.2.1 p.2.2).2))),.im (.int .i64 0)]):=by kernel_rfl
def yL (n:Nat):Nat:=if wv n=0 then 0 else Nat.log2 (wv n)+1
theorem ED (n:Nat):LenIs (wv n) (yL n):=by
 unfold yL
 by_cases h:wv n=0
 ·rw[if_pos h,h]; exact⟨by decide,fun h=>by cases h⟩
 ·rw[if_neg h];exact⟨Nat.lt_log2_self,fun _=>by rw[Nat.add_sub_cancel]; exact Nat.log2_self_le h⟩
theorem aKV (n:Nat):wv n<2^256:=by
 obtain⟨h0,h1,h2,h3⟩:=dE n;unfold wv aG;have:(2:Nat)^256=115792089237316195423570985008687907853269984665640564039457584007913129639936:=by decide
 omega
theorem aIW (n:Nat):yL n≤256:=by
 rcases Nat.lt_or_ge 256 (yL n)with h|h
 ·have h1:=(ED n).2 (by omega);have h2:=Nat.pow_le_pow_right (show 0<2 by omega) (show 256≤yL n-1 by omega);have:=aKV n;omega
 ·exact h
def aJz:jV
 | [.v (.fl l)]=>match LD l with
  | some n=>some ([],.one (.im (.int .i64 (yL n:Nat))))
  | none=>none
 | _=>none
theorem aCz:∀cs pre r,aJz cs=some (pre,r)→aZ pre→∀(args:List Value) (w:World),bQ w cs args→Good prog 260 r args w:=by
 intro cs pre r hg hp args w ha;unfold aJz at hg;split at hg
 ·rename_i l;split at hg
  ·rename_i n hn;cases hg;rw[CQ ha,fJ l _ hn];refine (AQ _ _ _ _ (dE n) w).mono ?_
   rintro e w' ⟨L,rfl,_,h,hbl⟩
   cases h.uniq (ED n);exact⟨rfl,hbl⟩
  ·cases hg
 ·cases hg
def aDr:jV
 | [.v (.fl l),.v (.im (.int .i64 (.ofNat i)))]=>match LD l with
  | some n=>some ([i<256],.one (.im (.int .i64 (qA (wv n) i:Nat))))
  | none=>none
 | _=>none
theorem aEM:∀cs pre r,aDr cs=some (pre,r)→aZ pre→∀(args:List Value) (w:World),bQ w cs args→Good prog 167 r args w:=by
 intro cs pre r hg hp args w ha;unfold aDr at hg;split at hg
 ·rename_i l i;split at hg
  ·rename_i n hn;cases hg
   match args,ha with
   | [v,u],ha =>
    have h1:v=.agg (aA l).toArray:=ha.1;have h2:u=.int .i64 (Int.ofNat i):=ha.2.1;rw[fJ l _ hn]at h1;subst h1; subst h2;exact aEN _ _ _ _ i (dE n) hp.1 w
   | [],ha=>exact ha.elim
   | [_],ha=>exact ha.2.elim
   | _::_::_::_,ha=>exact ha.2.2.elim
  ·cases hg
 ·cases hg
def aRc:jV
 | [.v (.fl l),.v (.im (.int .i64 (.ofNat k)))]=>match LD l with
  | some n=>some ([k<9223372036854775808],.one (.fl (q1 (wv n/2^k))))
  | none=>none
 | _=>none
theorem aOn:∀cs pre r,aRc cs=some (pre,r)→aZ pre→∀(args:List Value) (w:World),bQ w cs args→Good prog 254 r args w:=by
 intro cs pre r hg hp args w ha;unfold aRc at hg;split at hg
 ·rename_i l k;split at hg
  ·rename_i n hn;cases hg
   match args,ha with
   | [v,u],ha =>
    have h1:v=.agg (aA l).toArray:=ha.1;have h2:u=.int .i64 (Int.ofNat k):=ha.2.1;rw[fJ l _ hn]at h1;subst h1; subst h2;have hk:k<9223372036854775808:=hp.1;refine (tW _ _ _ _ (Int.ofNat k) (dE n) (by simp) (by simp; omega) w).mono ?_
    rintro e w' ⟨s0,s1,s2,s3,rfl,hs,hv,hb⟩
    have hlt:wv n/2^k<115792089237316195423570985008687907853269984665640564039457584007913129639936:=by
     refine Nat.lt_of_le_of_lt (Nat.div_le_self _ _) ?_;have:=aKV n;have e:(2:Nat)^256=115792089237316195423570985008687907853269984665640564039457584007913129639936:=by decide
     omega
    obtain⟨rfl,rfl,rfl,rfl⟩:=lM hs hlt hv;exact⟨rfl,hb⟩
   | [],ha=>exact ha.elim
   | [_],ha=>exact ha.2.elim
   | _::_::_::_,ha=>exact ha.2.2.elim
  ·cases hg
 ·cases hg
end Go.Proofs.YtglgakbkdjhojaaGreat.Ex
