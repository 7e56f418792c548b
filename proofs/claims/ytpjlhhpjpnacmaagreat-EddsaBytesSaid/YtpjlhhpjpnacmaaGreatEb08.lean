/- Eb08 -/
import Derived.Laws.BitsAllLaws
import Derived.Test.YtpjlhhpjpnacmaaGreatEb07
import Derived.Test.YtpjlhhpjpnacmaaGreatEb05
import Derived.Test.YtpjlhhpjpnacmaaGreatEb02
import Derived.Test.YtpjlhhpjpnacmaaGreatEb04
import Derived.Test.YtpjlhhpjpnacmaaGreatEb06
import Derived.Test.YtpjlhhpjpnacmaaGreatEb00
import Derived.Test.YtpjlhhpjpnacmaaGreatEb03
import Derived.Test.YtpjlhhpjpnacmaaGreatProg
set_option maxRecDepth 100000
set_option linter.unusedVariables false
set_option linter.unusedSimpArgs false
set_option linter.unnecessarySimpa false
noncomputable section
namespace Go.Proofs.YtpjlhhpjpnacmaaGreat.Ex
open Go.Proofs.Tryz
section
variable {R:Type} {K:CR R} {inv:R→R} {a d:R}
theorem Zb (x y z u v w d:R)  : (K.mul (K.sub (K.mul (K.mul z w) (K.mul z w)) (K.mul d (K.mul (K.mul (K.mul x z) (K.mul u w)) (K.mul (K.mul y z) (K.mul v w))))) (K.add (K.mul (K.mul z w) (K.mul z w)) (K.mul d (K.mul (K.mul (K.mul x z) (K.mul u w)) (K.mul (K.mul y z) (K.mul v w))))))=(K.mul (K.mul (K.mul z w) (K.mul z w)) (K.mul (K.mul (K.mul z w) (K.mul z w)) (K.mul (K.sub K.one (K.mul d (K.mul (K.mul x u) (K.mul y v)))) (K.add K.one (K.mul d (K.mul (K.mul x u) (K.mul y v))))))) :=
 aP K (bT K [x,y,z,u,v,w,d]) ((Z2*Z5*(Z2*Z5)-Z6*(Z0*Z2*(Z3*Z5)*(Z1*Z2*(Z4*Z5))))*(Z2*Z5*(Z2*Z5)+Z6*(Z0*Z2*(Z3*Z5)*(Z1*Z2*(Z4*Z5))))) (Z2*Z5*(Z2*Z5)*(Z2*Z5*(Z2*Z5)*((RE.one-Z6*(Z0*Z3*(Z1*Z4)))*(RE.one+Z6*(Z0*Z3*(Z1*Z4)))))) (by kernel_rfl)
theorem Zd (x y z u v w d i:R) (hi:(K.mul (K.add K.one (K.mul d (K.mul (K.mul x u) (K.mul y v)))) i)=K.one):(K.mul (K.mul (K.mul z w) (K.sub (K.mul (K.mul z w) (K.mul z w)) (K.mul d (K.mul (K.mul (K.mul x z) (K.mul u w)) (K.mul (K.mul y z) (K.mul v w)))))) (K.sub (K.sub (K.mul (K.add (K.mul x z) (K.mul y z)) (K.add (K.mul u w) (K.mul v w))) (K.mul (K.mul x z) (K.mul u w))) (K.mul (K.mul y z) (K.mul v w))))=(K.mul (K.mul (K.add (K.mul x v) (K.mul y u)) i) (K.mul (K.sub (K.mul (K.mul z w) (K.mul z w)) (K.mul d (K.mul (K.mul (K.mul x z) (K.mul u w)) (K.mul (K.mul y z) (K.mul v w))))) (K.add (K.mul (K.mul z w) (K.mul z w)) (K.mul d (K.mul (K.mul (K.mul x z) (K.mul u w)) (K.mul (K.mul y z) (K.mul v w))))))) :=
 iA (K:=K) (c1:=(K.neg (K.mul (K.add (K.mul x v) (K.mul y u)) (K.mul (K.mul (K.mul z w) (K.mul z w)) (K.mul (K.mul (K.mul z w) (K.mul z w)) (K.sub K.one (K.mul d (K.mul (K.mul x u) (K.mul y v))))))))) hi (aP K (bT K [x,y,z,u,v,w,d,i]) (Z2*Z5*(Z2*Z5*(Z2*Z5)-Z6*(Z0*Z2*(Z3*Z5)*(Z1*Z2*(Z4*Z5))))*((Z0*Z2+Z1*Z2)*(Z3*Z5+Z4*Z5)-Z0*Z2*(Z3*Z5)-Z1*Z2*(Z4*Z5))-(Z0*Z4+Z1*Z3)*Z7*((Z2*Z5*(Z2*Z5)-Z6*(Z0*Z2*(Z3*Z5)*(Z1*Z2*(Z4*Z5))))*(Z2*Z5*(Z2*Z5)+Z6*(Z0*Z2*(Z3*Z5)*(Z1*Z2*(Z4*Z5)))))) ((-((Z0*Z4+Z1*Z3)*(Z2*Z5*(Z2*Z5)*(Z2*Z5*(Z2*Z5)*(RE.one-Z6*(Z0*Z3*(Z1*Z4)))))))*((RE.one+Z6*(Z0*Z3*(Z1*Z4)))*Z7-RE.one)) (by kernel_rfl))
theorem Zc (x y z u v w a d j:R) (hj:(K.mul (K.sub K.one (K.mul d (K.mul (K.mul x u) (K.mul y v)))) j)=K.one):(K.mul (K.mul (K.mul z w) (K.add (K.mul (K.mul z w) (K.mul z w)) (K.mul d (K.mul (K.mul (K.mul x z) (K.mul u w)) (K.mul (K.mul y z) (K.mul v w)))))) (K.sub (K.mul (K.mul y z) (K.mul v w)) (K.mul a (K.mul (K.mul x z) (K.mul u w)))))=(K.mul (K.mul (K.sub (K.mul y v) (K.mul a (K.mul x u))) j) (K.mul (K.sub (K.mul (K.mul z w) (K.mul z w)) (K.mul d (K.mul (K.mul (K.mul x z) (K.mul u w)) (K.mul (K.mul y z) (K.mul v w))))) (K.add (K.mul (K.mul z w) (K.mul z w)) (K.mul d (K.mul (K.mul (K.mul x z) (K.mul u w)) (K.mul (K.mul y z) (K.mul v w))))))) :=
 iA (K:=K) (c1:=(K.neg (K.mul (K.sub (K.mul y v) (K.mul a (K.mul x u))) (K.mul (K.mul (K.mul z w) (K.mul z w)) (K.mul (K.mul (K.mul z w) (K.mul z w)) (K.add K.one (K.mul d (K.mul (K.mul x u) (K.mul y v))))))))) hj (aP K (bT K [x,y,z,u,v,w,a,d,j]) (Z2*Z5*(Z2*Z5*(Z2*Z5)+Z7*(Z0*Z2*(Z3*Z5)*(Z1*Z2*(Z4*Z5))))*(Z1*Z2*(Z4*Z5)-Z6*(Z0*Z2*(Z3*Z5)))-(Z1*Z4-Z6*(Z0*Z3))*Z8*((Z2*Z5*(Z2*Z5)-Z7*(Z0*Z2*(Z3*Z5)*(Z1*Z2*(Z4*Z5))))*(Z2*Z5*(Z2*Z5)+Z7*(Z0*Z2*(Z3*Z5)*(Z1*Z2*(Z4*Z5)))))) ((-((Z1*Z4-Z6*(Z0*Z3))*(Z2*Z5*(Z2*Z5)*(Z2*Z5*(Z2*Z5)*(RE.one+Z7*(Z0*Z3*(Z1*Z4)))))))*((RE.one-Z7*(Z0*Z3*(Z1*Z4)))*Z8-RE.one)) (by kernel_rfl))
theorem Zg (x y z a d:R) (he:(K.add (K.mul a (K.mul x x)) (K.mul y y))=(K.add K.one (K.mul d (K.mul (K.mul x x) (K.mul y y))))):(K.add (K.mul a (K.mul (K.mul x z) (K.mul x z))) (K.mul (K.mul y z) (K.mul y z)))=(K.mul (K.mul z z) (K.add K.one (K.mul d (K.mul (K.mul x x) (K.mul y y))))) :=
 iA (K:=K) (c1:=(K.mul z z)) he (aP K (bT K [x,y,z,a,d]) (Z3*(Z0*Z2*(Z0*Z2))+Z1*Z2*(Z1*Z2)-Z2*Z2*(RE.one+Z4*(Z0*Z0*(Z1*Z1)))) (Z2*Z2*(Z3*(Z0*Z0)+Z1*Z1-(RE.one+Z4*(Z0*Z0*(Z1*Z1))))) (by kernel_rfl))
theorem Zh (x y z a d:R) (he:(K.add (K.mul a (K.mul x x)) (K.mul y y))=(K.add K.one (K.mul d (K.mul (K.mul x x) (K.mul y y))))):(K.sub (K.add (K.mul z z) (K.mul z z)) (K.add (K.mul a (K.mul (K.mul x z) (K.mul x z))) (K.mul (K.mul y z) (K.mul y z))))=(K.mul (K.mul z z) (K.sub K.one (K.mul d (K.mul (K.mul x x) (K.mul y y))))) :=
 iA (K:=K) (c1:=(K.neg (K.mul z z))) he (aP K (bT K [x,y,z,a,d]) (Z2*Z2+Z2*Z2-(Z3*(Z0*Z2*(Z0*Z2))+Z1*Z2*(Z1*Z2))-Z2*Z2*(RE.one-Z4*(Z0*Z0*(Z1*Z1)))) ((-(Z2*Z2))*(Z3*(Z0*Z0)+Z1*Z1-(RE.one+Z4*(Z0*Z0*(Z1*Z1))))) (by kernel_rfl))
theorem Zj (x y z:R)  : (K.sub (K.sub (K.mul (K.add (K.mul x z) (K.mul y z)) (K.add (K.mul x z) (K.mul y z))) (K.mul (K.mul x z) (K.mul x z))) (K.mul (K.mul y z) (K.mul y z)))=(K.mul (K.mul z z) (K.add (K.mul x y) (K.mul y x))) :=
 aP K (bT K [x,y,z]) ((Z0*Z2+Z1*Z2)*(Z0*Z2+Z1*Z2)-Z0*Z2*(Z0*Z2)-Z1*Z2*(Z1*Z2)) (Z2*Z2*(Z0*Z1+Z1*Z0)) (by kernel_rfl)
theorem Zi (x y z a:R)  : (K.sub (K.mul (K.mul y z) (K.mul y z)) (K.mul a (K.mul (K.mul x z) (K.mul x z))))=(K.mul (K.mul z z) (K.sub (K.mul y y) (K.mul a (K.mul x x)))) :=
 aP K (bT K [x,y,z,a]) (Z1*Z2*(Z1*Z2)-Z3*(Z0*Z2*(Z0*Z2))) (Z2*Z2*(Z1*Z1-Z3*(Z0*Z0))) (by kernel_rfl)
theorem Zf (n q p i s:R) (hi:(K.mul p i)=K.one):(K.mul (K.mul s n) (K.mul s q))=(K.mul (K.mul n i) (K.mul (K.mul s p) (K.mul s q))) :=
 iA (K:=K) (c1:=(K.neg (K.mul n (K.mul s (K.mul s q))))) hi (aP K (bT K [n,q,p,i,s]) (Z4*Z0*(Z4*Z1)-Z0*Z3*(Z4*Z2*(Z4*Z1))) ((-(Z0*(Z4*(Z4*Z1))))*(Z2*Z3-RE.one)) (by kernel_rfl))
theorem Ze (m q p j s:R) (hj:(K.mul q j)=K.one):(K.mul (K.mul s p) (K.mul s m))=(K.mul (K.mul m j) (K.mul (K.mul s p) (K.mul s q))) :=
 iA (K:=K) (c1:=(K.neg (K.mul m (K.mul s (K.mul s p))))) hj (aP K (bT K [m,q,p,j,s]) (Z4*Z2*(Z4*Z0)-Z0*Z3*(Z4*Z2*(Z4*Z1))) ((-(Z0*(Z4*(Z4*Z2))))*(Z1*Z3-RE.one)) (by kernel_rfl))
variable (K) (a) (d)
def BQ (p q:R×R×R):R×R×R :=
 let z:=K.mul p.2.2 q.2.2
 let x:=K.mul p.1 q.1
 let y:=K.mul p.2.1 q.2.1
 let both:=K.mul d (K.mul x y)
 let square:=K.mul z z
 let more:=K.add square both
 let less:=K.sub square both
 let across:=K.sub (K.sub (K.mul (K.add p.1 p.2.1) (K.add q.1 q.2.1)) x) y
 (K.mul (K.mul z less) across,K.mul (K.mul z more) (K.sub y (K.mul a x)),K.mul less more)
def BR (p:R×R×R):R×R×R :=
 let x:=K.mul p.1 p.1
 let y:=K.mul p.2.1 p.2.1
 let z:=K.mul p.2.2 p.2.2
 let across:=K.sub (K.sub (K.mul (K.add p.1 p.2.1) (K.add p.1 p.2.1)) x) y
 let ax:=K.mul a x
 let more:=K.add ax y
 let less:=K.sub (K.add z z) more
 (K.mul across less,K.mul more (K.sub y ax),K.mul more less)
def nB (p:R×R×R) (P:GW K a d):Prop:=p.1=K.mul P.1.1 p.2.2∧p.2.1=K.mul P.1.2 p.2.2∧p.2.2≠K.zero
variable {K} {a} {d}
theorem ED.sum (E:ED K inv a d) {p q:R×R×R} {P Q:GW K a d} (hp:nB K a d p P) (hq:nB K a d q Q):nB K a d (BQ K a d p q) (E.grp.add P Q):=by
 obtain⟨⟨x,y⟩,h1⟩:=P;obtain⟨⟨u,v⟩,h2⟩:=Q;obtain⟨X,Y,z⟩:=p;obtain⟨U,V,w⟩:=q;obtain⟨rfl,rfl,hz⟩:X=K.mul x z∧Y=K.mul y z∧z≠K.zero:=hp;obtain⟨rfl,rfl,hw⟩:U=K.mul u w∧V=K.mul v w∧w≠K.zero:=hq;have hs:=E.F.mul_ne (E.F.mul_ne hz hw) (E.F.mul_ne hz hw);refine⟨Zd x y z u v w d _ (E.ip h1 h2),Zc x y z u v w a d _ (E.iq h1 h2),?_⟩;intro e;exact E.F.mul_ne hs (E.F.mul_ne hs (E.F.mul_ne (E.qne h1 h2) (E.pne h1 h2))) ((Zb x y z u v w d).symm.trans e)
theorem ED.dbl (E:ED K inv a d) {p:R×R×R} {P:GW K a d} (hp:nB K a d p P):nB K a d (BR K a p) (E.grp.add P P):=by
 obtain⟨⟨x,y⟩,h1⟩:=P;obtain⟨X,Y,z⟩:=p;obtain⟨rfl,rfl,hz⟩:X=K.mul x z∧Y=K.mul y z∧z≠K.zero:=hp;have hs:=E.F.mul_ne hz hz;have eM:=Zg x y z a d h1;have eL:=Zh x y z a d h1;have eA:=Zj (K:=K) x y z;have eB:=Zi (K:=K) x y z a;show K.mul _ _=K.mul _ (K.mul _ _)∧K.mul _ _=K.mul _ (K.mul _ _)∧K.mul _ _≠K.zero;simp only[];rw[eL,eM,eA,eB];refine⟨Zf _ _ _ _ _ (E.ip h1 h1),Ze _ _ _ _ _ (E.iq h1 h1),?_⟩;exact E.F.mul_ne (E.F.mul_ne hs (E.pne h1 h1)) (E.F.mul_ne hs (E.qne h1 h1))
theorem ED.told (E:ED K inv a d) {p:R×R×R} {P:GW K a d} (hp:nB K a d p P):K.mul p.1 (inv p.2.2)=P.1.1∧K.mul p.2.1 (inv p.2.2)=P.1.2:=by
 obtain⟨h1,h2,h3⟩:=hp;rw[h1,h2,K.mul_assoc,K.mul_assoc,E.F.inv _ h3,K.mul_one,K.mul_one];exact⟨rfl,rfl⟩
theorem ED.rep1 (E:ED K inv a d) (P:GW K a d):nB K a d (P.1.1,P.1.2,K.one) P:=⟨(K.mul_one _).symm,(K.mul_one _).symm,E.F.ne⟩
end
theorem dG:1<RM:=by decide
def KR:CR (Fin RM):=Wq RM dG
def eN (x:Nat):Fin RM:=⟨x%RM,Nat.mod_lt _ dJ⟩
theorem jT (x y:Nat):eN (fA x y)=KR.add (eN x) (eN y):=Fin.ext (by
 show (x+y)%RM%RM=(x%RM+y%RM)%RM;rw[Nat.mod_mod,Nat.add_mod])
theorem dP (x y:Nat):eN (aI x y)=KR.mul (eN x) (eN y):=Fin.ext (by
 show x*y%RM%RM=(x%RM)*(y%RM)%RM;rw[Nat.mod_mod,Nat.mul_mod])
theorem WV (x:Nat) {y:Nat} (hy:y<RM):eN (dQ x y)=KR.add (eN x) (KR.neg (eN y)):=Fin.ext (by
 show (x+RM-y)%RM%RM=(x%RM+(0+RM-y%RM)%RM)%RM;rw[Nat.mod_mod,Nat.mod_eq_of_lt hy,Nat.mod_add_mod,Nat.add_mod_mod,show x+(0+RM-y)=x+RM-y by omega])
theorem iQ {x:Nat} (h:x<RM):(eN x).1=x:=Nat.mod_eq_of_lt h
theorem wO {x y:Nat} (hx:x<RM) (hy:y<RM) (h:eN x=eN y):x=y:=by
 have:=congrArg Fin.val h
 rwa [iQ hx,iQ hy]at this
theorem PM:eN 0=KR.zero:=rfl
theorem IA:eN 1=KR.one:=Fin.ext (Nat.mod_eq_of_lt dG)
open Classical
section
variable {R:Type} (K:CR R) (inv:R→R)
abbrev Jc (R:Type):=R×R×R
def CO (p:Jc R):Pt R:=if p.2.2=K.zero then none else some (K.mul p.1 (K.mul (inv p.2.2) (inv p.2.2)),K.mul p.2.1 (K.mul (K.mul (inv p.2.2) (inv p.2.2)) (inv p.2.2)))
def Xi (p:Jc R):R:=K.add (K.add (K.mul p.1 p.1) (K.mul p.1 p.1)) (K.mul p.1 p.1)
def Xh (p:Jc R):R:=K.add (K.mul p.2.1 p.2.1) (K.mul p.2.1 p.2.1)
def Yk (p:Jc R):R:=K.add (Xh K p) (Xh K p)
def Xj (p:Jc R):R:=K.mul p.1 (Yk K p)
def dX (p:Jc R):R:=K.sub (K.mul (Xi K p) (Xi K p)) (K.add (Xj K p) (Xj K p))
def dY (p:Jc R):R:=K.sub (K.mul (Xi K p) (K.sub (Xj K p) (dX K p))) (K.mul (Yk K p) (Xh K p))
def ZL (p:Jc R):Jc R:=(dX K p,dY K p,K.mul (K.add p.2.1 p.2.1) p.2.2)
variable {K} {inv} {b:R}
theorem lQ {p:Jc R} (h:p.2.2=K.zero):CO K inv p=none:=if_pos h
theorem oZ {p:Jc R} (h:p.2.2≠K.zero):CO K inv p=some (K.mul p.1 (K.mul (inv p.2.2) (inv p.2.2)),K.mul p.2.1 (K.mul (K.mul (inv p.2.2) (inv p.2.2)) (inv p.2.2))):=if_neg h
theorem LC (E:EC K inv b) {x y l:R} (hy:K.add y y≠K.zero) (h:K.mul l (K.add y y)=K.add (K.add (K.mul x x) (K.mul x x)) (K.mul x x)):oJ K inv x y x y=l:=by
 unfold oJ;rw[if_pos rfl];refine E.F.cancel hy ?_;have hi:=E.F.inv _ hy;generalize inv (K.add y y)=k at hi;exact kR (K:=K) (c1:=(K.add (K.add (K.mul x x) (K.mul x x)) (K.mul x x))) (c2:=(K.neg K.one)) hi h (aP K (bT K [y,x,k,l]) ((Z0+Z0)*((Z1*Z1+Z1*Z1+Z1*Z1)*Z2)-(Z0+Z0)*Z3) ((Z1*Z1+Z1*Z1+Z1*Z1)*((Z0+Z0)*Z2-RE.one)+(-RE.one)*(Z3*(Z0+Z0)-(Z1*Z1+Z1*Z1+Z1*Z1))) (by kernel_rfl))
theorem ZG (E:EC K inv b) {p:Jc R} (hp:On K b (CO K inv p)):CO K inv (ZL K p)=CN K inv (CO K inv p) (CO K inv p):=by
 obtain⟨x,y,z⟩:=p
 by_cases hz:z=K.zero
 ·have h1:CO K inv (x,y,z)=none:=lQ hz;rw[h1];refine lQ ?_;show K.mul (K.add y y) z=K.zero;rw[hz,K.mul_zero]
 ·have h1:=oZ (K:=K) (inv:=inv) (p:=(x,y,z)) hz;rw[h1]at hp ⊢;dsimp only at hp ⊢;have hi:=E.F.inv z hz;generalize inv z=i at hi hp ⊢;have hY:=E.y_ne (show K.mul (K.mul y (K.mul (K.mul i i) i)) (K.mul y (K.mul (K.mul i i) i))=_ from hp);have hy:y≠K.zero:=fun e=>hY (by rw[e,K.zero_mul])
  have hyy:=E.dbl_ne hy;have hz3:K.mul (K.add y y) z≠K.zero:=E.F.mul_ne hyy hz;have h3:=oZ (K:=K) (inv:=inv) (p:=ZL K (x,y,z)) hz3;rw[h3];show some (K.mul (dX K (x,y,z)) (K.mul (inv (K.mul (K.add y y) z)) (inv (K.mul (K.add y y) z))),K.mul (dY K (x,y,z)) (K.mul (K.mul (inv (K.mul (K.add y y) z)) (inv (K.mul (K.add y y) z))) (inv (K.mul (K.add y y) z))))=_;have hj:=E.F.inv _ hz3;generalize inv (K.mul (K.add y y) z)=j at hj ⊢;have e:i=K.mul (K.add y y) j:=kR (K:=K) (c1:=(K.neg i)) (c2:=(K.mul (K.add y y) j)) hj hi (aP K (bT K [i,y,j,z]) (Z0-(Z1+Z1)*Z2) ((-Z0)*((Z1+Z1)*Z3*Z2-RE.one)+(Z1+Z1)*Z2*(Z3*Z0-RE.one)) (by kernel_rfl));subst e;have hYY:=E.dbl_ne hY;rw[rZ (fun h=>hYY h.2)];dsimp only;have hs:=LC (l:=(K.mul (K.add (K.add (K.mul x x) (K.mul x x)) (K.mul x x)) j)) (x:=(K.mul x (K.mul (K.mul (K.add y y) j) (K.mul (K.add y y) j)))) E hYY (aP K (bT K [x,j,y]) ((Z0*Z0+Z0*Z0+Z0*Z0)*Z1*(Z2*((Z2+Z2)*Z1*((Z2+Z2)*Z1)*((Z2+Z2)*Z1))+Z2*((Z2+Z2)*Z1*((Z2+Z2)*Z1)*((Z2+Z2)*Z1)))) (Z0*((Z2+Z2)*Z1*((Z2+Z2)*Z1))*(Z0*((Z2+Z2)*Z1*((Z2+Z2)*Z1)))+Z0*((Z2+Z2)*Z1*((Z2+Z2)*Z1))*(Z0*((Z2+Z2)*Z1*((Z2+Z2)*Z1)))+Z0*((Z2+Z2)*Z1*((Z2+Z2)*Z1))*(Z0*((Z2+Z2)*Z1*((Z2+Z2)*Z1)))) (by kernel_rfl));rw[hs];refine congrArg some (Prod.ext ?_ ?_)
  ·exact aP K (bT K [x,y,j]) (((Z0*Z0+Z0*Z0+Z0*Z0)*(Z0*Z0+Z0*Z0+Z0*Z0)-(Z0*(Z1*Z1+Z1*Z1+(Z1*Z1+Z1*Z1))+Z0*(Z1*Z1+Z1*Z1+(Z1*Z1+Z1*Z1))))*(Z2*Z2)) ((Z0*Z0+Z0*Z0+Z0*Z0)*Z2*((Z0*Z0+Z0*Z0+Z0*Z0)*Z2)-Z0*((Z1+Z1)*Z2*((Z1+Z1)*Z2))-Z0*((Z1+Z1)*Z2*((Z1+Z1)*Z2))) (by kernel_rfl)
  ·exact aP K (bT K [x,y,j]) (((Z0*Z0+Z0*Z0+Z0*Z0)*(Z0*(Z1*Z1+Z1*Z1+(Z1*Z1+Z1*Z1))-((Z0*Z0+Z0*Z0+Z0*Z0)*(Z0*Z0+Z0*Z0+Z0*Z0)-(Z0*(Z1*Z1+Z1*Z1+(Z1*Z1+Z1*Z1))+Z0*(Z1*Z1+Z1*Z1+(Z1*Z1+Z1*Z1)))))-(Z1*Z1+Z1*Z1+(Z1*Z1+Z1*Z1))*(Z1*Z1+Z1*Z1))*(Z2*Z2*Z2)) ((Z0*Z0+Z0*Z0+Z0*Z0)*Z2*(Z0*((Z1+Z1)*Z2*((Z1+Z1)*Z2))-((Z0*Z0+Z0*Z0+Z0*Z0)*Z2*((Z0*Z0+Z0*Z0+Z0*Z0)*Z2)-Z0*((Z1+Z1)*Z2*((Z1+Z1)*Z2))-Z0*((Z1+Z1)*Z2*((Z1+Z1)*Z2))))-Z1*((Z1+Z1)*Z2*((Z1+Z1)*Z2)*((Z1+Z1)*Z2))) (by kernel_rfl)
def TB (K:CR R) (p:Jc R):Jc R:=(p.1,K.sub K.zero p.2.1,p.2.2)
theorem ZF (p:Jc R):CO K inv (TB K p)=Dc K (CO K inv p):=by
 by_cases h:p.2.2=K.zero
 ·rw[lQ h,lQ (p:=TB K p) h]; rfl
 ·rw[oZ h,oZ (p:=TB K p) h];refine congrArg some (Prod.ext rfl ?_);show K.mul (K.sub K.zero p.2.1) _=K.neg (K.mul p.2.1 _);rw[←K.neg_mul];congr 1;exact K.zero_add _
end
namespace AG
variable {G:Type} (A:AG G)
theorem addz (a:G):A.add a A.zero=a:=by rw[A.comm,A.zadd]
theorem addn (a:G):A.add a (A.neg a)=A.zero:=by rw[A.comm,A.nadd]
theorem left_comm (a b c:G):A.add a (A.add b c)=A.add b (A.add a c):=by rw[←A.assoc,A.comm a b,A.assoc]
theorem cancel {a b c:G} (h:A.add a b=A.add a c):b=c:=by
 have:=congrArg (A.add (A.neg a)) h
 rwa [←A.assoc,←A.assoc,A.nadd,A.zadd,A.zadd]at this
theorem neg_add (a b:G):A.neg (A.add a b)=A.add (A.neg a) (A.neg b):=by
 apply A.cancel (a:=A.add a b);rw[A.addn,A.assoc,A.left_comm b,A.addn,A.addz,A.addn]
def ns:Nat→G→G
 | 0,_=>A.zero
 | n+1,g=>A.add (ns n g) g
theorem ns_add (m:Nat) (g:G):∀n,A.ns (m+n) g=A.add (A.ns m g) (A.ns n g)
 | 0=>(A.addz _).symm
 | n+1=>by show A.add (A.ns (m+n) g) g=A.add _ (A.add _ _); rw[ns_add m g n,A.assoc]
theorem ns_zero:∀n,A.ns n A.zero=A.zero
 | 0=>rfl
 | n+1=>by show A.add (A.ns n _) _=_; rw[ns_zero n,A.zadd]
theorem ns_mul (m:Nat) (g:G):∀n,A.ns (m*n) g=A.ns n (A.ns m g)
 | 0=>rfl
 | n+1=>by rw[Nat.mul_add,Nat.mul_one,ns_add,ns_mul m g n]; rfl
def zs:Int→G→G
 | .ofNat n,g=>A.ns n g
 | .negSucc n,g=>A.neg (A.ns (n+1) g)
end AG
def Te (w:Nat):Int:=((w+1)/2:Nat)-(if 16≤w then 16 else 0:Int)
def Xn (x p:Nat):Nat:=(if p=0 then x*2 else x/2^(p*4-1))%32
def gL (x PL:Nat):Nat→Int
 | 0=>0
 | i+1=>16*gL x PL i+Te (Xn x (PL-1-i))
open Classical
section
variable {R:Type} {K:CR R} {inv:R→R} {b:R}
def Rp (E:EC K inv b) (p:Jc R) (P:{p:Pt R // On K b p}):Prop:=CO K inv p=P.1
theorem Rp.on {E:EC K inv b} {p:Jc R} {P:{p:Pt R // On K b p}} (h:Rp E p P):On K b (CO K inv p):=by
 rw[show CO K inv p=P.1 from h]; exact P.2
theorem Rp.dbl {E:EC K inv b} {p:Jc R} {P:{p:Pt R // On K b p}} (h:Rp E p P):Rp E (ZL K p) (E.grp.add P P):=by
 show CO K inv (ZL K p)=CN K inv P.1 P.1;rw[ZG E h.on,show CO K inv p=P.1 from h]
theorem Rp.neg {E:EC K inv b} {p:Jc R} {P:{p:Pt R // On K b p}} (h:Rp E p P):Rp E (TB K p) (E.grp.neg P):=by
 show CO K inv (TB K p)=Dc K P.1;rw[ZF,show CO K inv p=P.1 from h]
theorem Rp.zero {E:EC K inv b} {p:Jc R} (h:p.2.2=K.zero):Rp E p E.grp.zero:=lQ h
end
namespace AG
variable {G:Type} (A:AG G)
theorem ns_one (g:G):A.ns 1 g=g:=A.zadd g
end AG
namespace AG
variable {G:Type} (A:AG G)
theorem ns_modz {g:G} {n:Nat} (h:A.ns n g=A.zero) (m:Nat):A.ns (m%n) g=A.ns m g:=by
 conv=>rhs; rw[←Nat.div_add_mod m n,A.ns_add,A.ns_mul,h,A.ns_zero,A.zadd]
theorem ns_gcd {g:G} (a b:Nat):A.ns a g=A.zero→A.ns b g=A.zero→A.ns (Nat.gcd a b) g=A.zero:=by
 induction a,b using Nat.gcd.induction with
 | H0 n=>intro _ h; rw[Nat.gcd_zero_left]; exact h
 | H1 m n hm ih =>
  intro h1 h2;rw[Nat.gcd_rec];exact ih (by rw[A.ns_modz h1]; exact h2) h1
theorem exact {g:G} {N:Nat} {l:List Nat} (hl:l.foldr (· * ·) 1=N) (hp:∀q,q∈l→fX q) (h0:A.ns N g=A.zero) (hq:∀q,q∈l→A.ns (N/q) g≠A.zero) (k:Nat) (hk:0<k) (hN:k<N):A.ns k g≠A.zero:=fun h=>by
 have hd:=A.ns_gcd k N h h0;obtain⟨e,he⟩:=Nat.gcd_dvd_right k N;have hdk:Nat.gcd k N≤k:=Nat.le_of_dvd hk (Nat.gcd_dvd_left k N);have hd0:0<Nat.gcd k N:=Nat.gcd_pos_of_pos_left N hk;have he1:1<e:=by
  rcases Nat.lt_or_ge 1 e with q|q
  ·exact q
  ·have:Nat.gcd k N*e≤Nat.gcd k N*1:=Nat.mul_le_mul_left _ q;omega
 obtain⟨q,hql,f,hf⟩:=oO l e (by rw[hl]; exact⟨Nat.gcd k N,by rw[Nat.mul_comm]; exact he⟩) he1 hp;refine hq q hql ?_;have hq0:0<q:=Nat.lt_trans Nat.zero_lt_one (hp q hql).1;have e1:N/q=Nat.gcd k N*f:=by
  rw[Nat.div_eq_of_eq_mul_left hq0];rw[Nat.mul_assoc,Nat.mul_comm f q,←hf];exact he
 rw[e1,A.ns_mul,hd,A.ns_zero]
end AG
open Go.RowKit
theorem Cz:Root RM 5:=by
 show Root Go.Proofs.YtpjlhhpjpnacmaaGreat.FR.M 5;rw[Lw];exact QO
theorem DM:2≤RM:=by decide
def MN (x:Fin RM):Fin RM:=⟨WG x.1,sP _⟩
theorem Qt:FD KR MN:=⟨fun h=>absurd (congrArg Fin.val h) (by decide),fun x h=>Fin.ext (by
 show x.1*(1*(x.1^(RM-2))%RM)%RM=1;rw[Nat.one_mul];exact JK Cz DM (Nat.pos_of_ne_zero fun e=>h (Fin.ext e)) x.2)⟩
def aR:Fin RM:=eN 168700
def dR:Fin RM:=eN 168696
theorem Bc:168696^(RM/2)%RM≠1:=by
 rw[←IP RM 256 168696 (RM/2) (by decide)];exact of_decide_eq_true (by kernel_rfl)
theorem Yh (x:Fin RM):KR.mul x x≠dR:=fun h=>by
 have h1:x.1*x.1%RM=168696:=(congrArg Fin.val h).trans (Nat.mod_eq_of_lt (by decide))
 by_cases h0:x.1=0
 ·rw[h0]at h1;exact absurd h1 (by decide)
 ·have h2:=EV Cz (by decide) (Nat.pos_of_ne_zero h0) x.2;rw[h1]at h2;exact Bc h2
def XJ:Fin RM:=eN 7214280148105020021932206872019688659210616427216992810330019057549499971851
theorem kQ:ED KR MN aR dR where
 F:=Qt
 two:=fun h=>absurd (congrArg Fin.val h) (by decide)
 sq:=⟨XJ,of_decide_eq_true (by kernel_rfl)⟩
 ns:=Yh
abbrev JP:=GW KR aR dR
abbrev NJ:=Nat×Nat×Nat
def lR (p q:NJ):NJ :=
 let z:=aI p.2.2 q.2.2
 let x:=aI p.1 q.1
 let y:=aI p.2.1 q.2.1
 let both:=aI 168696 (aI x y)
 let square:=aI z z
 let more:=fA square both
 let less:=dQ square both
 let across:=dQ (dQ (aI (fA p.1 p.2.1) (fA q.1 q.2.1)) x) y
 (aI (aI z less) across,aI (aI z more) (dQ y (aI 168700 x)),aI less more)
def WJ (p:NJ):NJ :=
 let x:=aI p.1 p.1
 let y:=aI p.2.1 p.2.1
 let z:=aI p.2.2 p.2.2
 let across:=dQ (dQ (aI (fA p.1 p.2.1) (fA p.1 p.2.1)) x) y
 let ax:=aI 168700 x
 let more:=fA ax y
 let less:=dQ (fA z z) more
 (aI across less,aI more (dQ y ax),aI more less)
def xH (x y:Nat):Nat:=x*(y^(RM-2))%RM
theorem jY (x y:Nat):xH x y<RM:=Nat.mod_lt _ dJ
def tld (p:NJ):Nat×Nat:=(aI p.1 (xH 1 p.2.2),aI p.2.1 (xH 1 p.2.2))
def OQ (p:NJ):Fin RM×Fin RM×Fin RM:=(eN p.1,eN p.2.1,eN p.2.2)
theorem eF (x:Nat) {y:Nat} (hy:y<RM):eN (dQ x y)=KR.sub (eN x) (eN y):=WV x hy
theorem Fg (p q:NJ):OQ (lR p q)=BQ KR aR dR (OQ p) (OQ q):=by
 refine Prod.ext ?_ (Prod.ext ?_ ?_)
 ·simp only[OQ,lR,BQ,dP,jT,eF _ (aF _ _)]; rfl
 ·simp only[OQ,lR,BQ,dP,jT,eF _ (aF _ _)]; rfl
 ·simp only[OQ,lR,BQ,dP,jT,eF _ (aF _ _)]; rfl
theorem Fh (p:NJ):OQ (WJ p)=BR KR aR (OQ p):=by
 refine Prod.ext ?_ (Prod.ext ?_ ?_)
 ·simp only[OQ,WJ,BR,dP,jT,eF _ (aF _ _),eF _ (cL _ _)]; rfl
 ·simp only[OQ,WJ,BR,dP,jT,eF _ (aF _ _),eF _ (cL _ _)]; rfl
 ·simp only[OQ,WJ,BR,dP,jT,eF _ (aF _ _),eF _ (cL _ _)]; rfl
structure JRep (p:NJ) (P:JP):Prop where
 x:p.1<RM
 y:p.2.1<RM
 z:p.2.2<RM
 rep:nB KR aR dR (OQ p) P
theorem JRep.pl {p q:NJ} {P Q:JP} (hp:JRep p P) (hq:JRep q Q):JRep (lR p q) (kQ.grp.add P Q) :=
 ⟨aF _ _,aF _ _,aF _ _,by rw[Fg]; exact kQ.sum hp.rep hq.rep⟩
theorem JRep.db {p:NJ} {P:JP} (hp:JRep p P):JRep (WJ p) (kQ.grp.add P P) :=
 ⟨aF _ _,aF _ _,aF _ _,by rw[Fh]; exact kQ.dbl hp.rep⟩
theorem JRep.nz {p:NJ} {P:JP} (hp:JRep p P):p.2.2≠0:=fun e=>hp.rep.2.2 (by show eN p.2.2=KR.zero; rw[e]; rfl)
theorem CT {z:Nat} (hz:z<RM):eN (xH 1 z)=MN (eN z):=Fin.ext (by
 show xH 1 z%RM=1*((z%RM)^(RM-2))%RM;rw[Nat.mod_eq_of_lt (jY _ _),Nat.mod_eq_of_lt hz];rfl)
theorem JRep.tld {p:NJ} {P:JP} (hp:JRep p P):tld p=(P.1.1.1,P.1.2.1):=by
 obtain⟨h1,h2⟩:=kQ.told hp.rep;have e1:eN (aI p.1 (xH 1 p.2.2))=P.1.1:=by rw[dP,CT hp.z]; exact h1
 have e2:eN (aI p.2.1 (xH 1 p.2.2))=P.1.2:=by rw[dP,CT hp.z]; exact h2
 refine Prod.ext ?_ ?_
 ·show aI p.1 (xH 1 p.2.2)=_;rw[←iQ (aF p.1 (xH 1 p.2.2)),e1]
 ·show aI p.2.1 (xH 1 p.2.2)=_;rw[←iQ (aF p.2.1 (xH 1 p.2.2)),e2]
def IT (x y:Nat):Prop:=fA (aI 168700 (aI x x)) (aI y y)=fA 1 (aI 168696 (aI (aI x x) (aI y y)))
instance (x y:Nat):Decidable (IT x y):=Nat.decEq _ _
def OnJ (x y:Nat):Prop:=(x<RM∧y<RM)∧IT x y
instance (x y:Nat):Decidable (OnJ x y):=instDecidableAnd
theorem Ia {x y:Nat} (h:IT x y):eW KR aR dR (eN x) (eN y):=by
 have e:=congrArg eN h;simp only[jT,dP,IA]at e;exact e
def jp {x y:Nat} (h:OnJ x y):JP:=⟨(eN x,eN y),Ia h.2⟩
theorem tL {x y:Nat} (h:OnJ x y):JRep (x,y,1) (jp h) :=
 ⟨h.1.1,h.1.2,dG,by show nB KR aR dR (eN x,eN y,eN 1) _; rw[IA]; exact kQ.rep1 (jp h)⟩
theorem SB {x y:Fin RM} (h:eW KR aR dR x y):IT x.1 y.1:=by
 have h:KR.add (KR.mul aR (KR.mul x x)) (KR.mul y y)=KR.add KR.one (KR.mul dR (KR.mul (KR.mul x x) (KR.mul y y))):=h;have e:=congrArg Fin.val h;exact e
theorem JP.on (P:JP):OnJ P.1.1.1 P.1.2.1:=⟨⟨P.1.1.2,P.1.2.2⟩,SB P.2⟩
theorem Wh {x y:Nat} (h:OnJ x y):(jp h).1.1.1=x:=iQ h.1.1
theorem Wg {x y:Nat} (h:OnJ x y):(jp h).1.2.1=y:=iQ h.1.2
theorem FA:JRep (0,1,1) kQ.grp.zero:=⟨dJ,dG,dG,by
 show nB KR aR dR (eN 0,eN 1,eN 1) _;rw[IA,PM];exact kQ.rep1 kQ.grp.zero⟩
def nP (p:NJ):Bool:=Nat.beq p.1 0&&Nat.beq p.2.1 p.2.2
theorem BC {p:NJ} {P:JP} (h:JRep p P):nP p=true↔P=kQ.grp.zero:=by
 obtain⟨hx,hy,hz,h1,h2,h3⟩:=h;have h1:eN p.1=KR.mul P.1.1 (eN p.2.2):=h1;have h2:eN p.2.1=KR.mul P.1.2 (eN p.2.2):=h2;have h3:eN p.2.2≠KR.zero:=h3;unfold nP;rw[Bool.and_eq_true];constructor
 ·rintro⟨e1,e2⟩
  have e1:=Nat.eq_of_beq_eq_true e1;have e2:=Nat.eq_of_beq_eq_true e2;rw[e1]at h1;rw[e2]at h2;refine Subtype.ext (Prod.ext ?_ ?_)
  ·refine Qt.zd (a:=eN p.2.2) ?_ h3;rw[KR.mul_comm,←h1];exact PM
  ·refine Qt.cancel h3 ?_;rw[KR.mul_comm,←h2];exact (KR.mul_one _).symm
 ·rintro rfl
  have e1:eN p.1=KR.zero:=h1.trans (KR.zero_mul _);have e2:eN p.2.1=eN p.2.2:=h2.trans (KR.one_mul _);refine⟨?_,?_⟩
  ·rw[wO hx dJ (e1.trans PM.symm)]; rfl
  ·rw[wO hy hz e2]; exact Nat.beq_refl _
def lJ:Nat:=2736030358979909402780800718157159386076813972158567259200215660948447373041
def bX:Nat:=5299619240641551281634865583518297030282874472190772894086521144482721001553
def bY:Nat:=16950150798460657717958625567821834550301663161624707787222815936182638968203
theorem CE:OnJ bX bY:=of_decide_eq_true (by kernel_rfl)
def JB:JP:=jp CE
def Jt:gP
 | [.v (.im (.int .i64 2)),.v (.fl l),.v (.fl m)]=>match jV l,jV m with
  | some x,some y=>some ([x<RM,y<RM,y≠0],.many [.fl [.q (xH x y)],.im (.int .i64 0)])
  | _,_=>none
 | _=>none
theorem Pc:∀cs pre r,Jt cs=some (pre,r)→aS pre→∀(args:List Value) (w:World),cH w cs args→bC prog 104 r args w:=by
 intro cs pre r hg hp args w ha;unfold Jt at hg;split at hg
 ·rename_i l m;split at hg
  ·rename_i x y hx hy;cases hg
   match args,ha with
   | [t,v,u],ha =>
    obtain⟨h1,h2,h3,_⟩:=ha;have h1:t=.int .i64 2:=h1;have h2:v=.agg (aB l).toArray:=h2;have h3:u=.agg (aB m).toArray:=h3;rw[bQ l x hx]at h2;rw[bQ m y hy]at h3;subst h1; subst h2; subst h3;have h:=Ap 2 _ kF _ _ _ _ _ _ _ _ (cP x) (cP y) (by rw[iM hp.1]; exact hp.1) (by rw[iM hp.2.1]; exact hp.2.1) (by rw[iM hp.2.1]; exact hp.2.2.1) w;rw[iM hp.1,iM hp.2.1]at h;refine h.mono ?_
    rintro e w' ⟨s0,s1,s2,s3,rfl,hs,hv,hb⟩
    obtain⟨rfl,rfl,rfl,rfl⟩:=fN hs (gG (jY x y)) hv;exact⟨rfl,hb⟩
   | [],ha=>exact ha.elim
   | [_],ha=>exact ha.2.elim
   | [_,_],ha=>exact ha.2.2.elim
   | _::_::_::_::_,ha=>exact ha.2.2.2.elim
  ·cases hg
 ·cases hg
def ON:Tab:=(((((T0.add 130 (Dq fA)).add 105 (Dq dQ)).add 119 (Dq aI)).add 115 Jv).add 64 Jo).add 104 Jt
theorem AO:TabOk prog ON:=((((((dV _).add func130 (by kernel_rfl) (by kernel_rfl) Pd).add func105 (by kernel_rfl) (by kernel_rfl) Pa).add func119 (by kernel_rfl) (by kernel_rfl) Pb).add func115 (by kernel_rfl) (by kernel_rfl) YE).add func64 (by kernel_rfl) (by kernel_rfl) Vx).add func104 (by kernel_rfl) (by kernel_rfl) Pc
theorem ZI (x y:Nat):kW prog ON (qG prog) (fun _=>true) f116 40 [.v (.fl [.q x]),.v (.fl [.q y])]=some ([x<RM,y<RM],.one (.fl [.q (fA x y)])):=by kernel_rfl
theorem SZ (x y:Nat):kW prog ON (qG prog) (fun _=>true) f63 40 [.v (.fl [.q x]),.v (.fl [.q y])]=some ([x<RM,y<RM],.one (.fl [.q (dQ x y)])):=by kernel_rfl
theorem SY (x y:Nat):kW prog ON (qG prog) (fun _=>true) f98 40 [.v (.fl [.q x]),.v (.fl [.q y])]=some ([x<RM,y<RM],.one (.fl [.q (aI x y)])):=by kernel_rfl
theorem ZJ (x y:Nat):kW prog ON (qG prog) (fun _=>true) f62 40 [.v (.fl [.q x]),.v (.fl [.q y])]=some ([x<RM,y<RM,y≠0],.one (.fl [.q (xH x y)])):=by kernel_rfl
def OO:Tab:=((((ON.add 116 (Ai fA yR)).add 63 (Ai dQ yR)).add 98 (Ai aI yR)).add 62 (Ai xH fun x y=>[x<RM,y<RM,y≠0]))
theorem AP:TabOk prog OO:=((((AO.add func116 (by kernel_rfl) (by kernel_rfl) (nQ (op:=fA) (c:=yR) fun x y h args w ha=>cF aQ AO (aT _) func116 (ZI x y) h ha)).add func63 (by kernel_rfl) (by kernel_rfl) (nQ (op:=dQ) (c:=yR) fun x y h args w ha=>cF aQ AO (aT _) func63 (SZ x y) h ha)).add func98 (by kernel_rfl) (by kernel_rfl) (nQ (op:=aI) (c:=yR) fun x y h args w ha=>cF aQ AO (aT _) func98 (SY x y) h ha)).add func62 (by kernel_rfl) (by kernel_rfl) (nQ (op:=xH) (c:=fun x y=>[x<RM,y<RM,y≠0]) fun x y h args w ha=>cF aQ AO (aT _) func62 (ZJ x y) h ha))
theorem EX (x:Nat):kW prog OO (qG prog) (fun _=>true) f60 40 [.v (.fl [.q x])]=some ([x<RM,x<RM],.one (.fl [.q (aI x x)])):=by kernel_rfl
theorem BB (x:Nat):kW prog OO (qG prog) (fun _=>true) f66 40 [.v (.fl [.q x])]=some ([0<RM,x<RM],.one (.fl [.q (dQ 0 x)])):=by kernel_rfl
theorem MS (x:Nat):kW prog OO (qG prog) (fun _=>true) f117 40 [.v (.fl [.q x])]=some ([168700<18446744073709551616,168700<RM,x<RM],.one (.fl [.q (aI 168700 x)])):=by kernel_rfl
theorem MQ (x:Nat):kW prog OO (qG prog) (fun _=>true) f65 40 [.v (.fl [.q x])]=some ([168696<18446744073709551616,168696<RM,x<RM],.one (.fl [.q (aI 168696 x)])):=by kernel_rfl
def GT:Tab:=((((OO.add 60 (Mh (fun x=>aI x x) fun x=>[x<RM])).add 66 (Mh (dQ 0) fun x=>[x<RM])).add 117 (Mh (aI 168700) fun x=>[x<RM])).add 65 (Mh (aI 168696) fun x=>[x<RM]))
theorem qU:TabOk prog GT:=((((AP.add func60 (by kernel_rfl) (by kernel_rfl) (xW (op:=fun x=>aI x x) (c:=fun x=>[x<RM]) fun x h args w ha=>cF aQ AP (aT _) func60 (EX x) ⟨h.1,h.1,trivial⟩ ha)).add func66 (by kernel_rfl) (by kernel_rfl) (xW (op:=dQ 0) (c:=fun x=>[x<RM]) fun x h args w ha=>cF aQ AP (aT _) func66 (BB x) ⟨dJ,h.1,trivial⟩ ha)).add func117 (by kernel_rfl) (by kernel_rfl) (xW (op:=aI 168700) (c:=fun x=>[x<RM]) fun x h args w ha=>cF aQ AP (aT _) func117 (MS x) ⟨by decide,by decide,h.1,trivial⟩ ha)).add func65 (by kernel_rfl) (by kernel_rfl) (xW (op:=aI 168696) (c:=fun x=>[x<RM]) fun x h args w ha=>cF aQ AP (aT _) func65 (MQ x) ⟨by decide,by decide,h.1,trivial⟩ ha))
abbrev NP:=Nat×Nat
def q3 (p:NJ):List At:=[.q p.1,.q p.2.1,.q p.2.2]
def OR (l:List At):Option NJ:=match AT l with|some [a,b,c]=>some (a,b,c)|_=>none
theorem iY:Rd OR q3:=fun l x h=>by
 unfold OR at h;split at h
 ·rename_i hn; cases h; rw[oV hn]; rfl
 ·cases h
def c3 (p:NJ):List Prop:=[p.1<RM,p.2.1<RM,p.2.2<RM]
theorem EY (x y:Nat):kW prog GT (qG prog) (fun _=>true) f46 40 [.v (.fl [.q x,.q y])]=some ([1<18446744073709551616],.one (.fl [.q x,.q y,.q 1])):=by kernel_rfl
theorem EZ:kW prog GT (qG prog) (fun _=>true) f84 40 []=some ([1<18446744073709551616],.one (.fl [.f ⟨0,cN⟩,.q 1])):=by kernel_rfl
theorem MU (w:World):bC prog 84 (.one (.fl [.q 0,.q 1])) [] w:=cF aQ qU (aT _) func84 EZ ⟨by decide,trivial⟩ (args:=[]) trivial
theorem BA (p q:NJ):kW prog GT (qG prog) (fun _=>true) f88 60 [.v (.fl (q3 p)),.v (.fl (q3 q))]=some ([p.2.2<RM,q.2.2<RM,p.1<RM,q.1<RM,p.2.1<RM,q.2.1<RM,(aI p.1 q.1)<RM,(aI p.2.1 q.2.1)<RM,(aI (aI p.1 q.1) (aI p.2.1 q.2.1))<RM,(aI p.2.2 q.2.2)<RM,(aI (aI p.2.2 q.2.2) (aI p.2.2 q.2.2))<RM,(aI 168696 (aI (aI p.1 q.1) (aI p.2.1 q.2.1)))<RM,(aI (aI p.2.2 q.2.2) (aI p.2.2 q.2.2))<RM,(aI 168696 (aI (aI p.1 q.1) (aI p.2.1 q.2.1)))<RM,p.1<RM,p.2.1<RM,q.1<RM,q.2.1<RM,(fA p.1 p.2.1)<RM,(fA q.1 q.2.1)<RM,(aI (fA p.1 p.2.1) (fA q.1 q.2.1))<RM,(aI p.1 q.1)<RM,(dQ (aI (fA p.1 p.2.1) (fA q.1 q.2.1)) (aI p.1 q.1))<RM,(aI p.2.1 q.2.1)<RM,(aI p.2.2 q.2.2)<RM,(dQ (aI (aI p.2.2 q.2.2) (aI p.2.2 q.2.2)) (aI 168696 (aI (aI p.1 q.1) (aI p.2.1 q.2.1))))<RM,(aI (aI p.2.2 q.2.2) (dQ (aI (aI p.2.2 q.2.2) (aI p.2.2 q.2.2)) (aI 168696 (aI (aI p.1 q.1) (aI p.2.1 q.2.1)))))<RM,(dQ (dQ (aI (fA p.1 p.2.1) (fA q.1 q.2.1)) (aI p.1 q.1)) (aI p.2.1 q.2.1))<RM,(aI p.2.2 q.2.2)<RM,(fA (aI (aI p.2.2 q.2.2) (aI p.2.2 q.2.2)) (aI 168696 (aI (aI p.1 q.1) (aI p.2.1 q.2.1))))<RM,(aI p.1 q.1)<RM,(aI p.2.1 q.2.1)<RM,(aI 168700 (aI p.1 q.1))<RM,(aI (aI p.2.2 q.2.2) (fA (aI (aI p.2.2 q.2.2) (aI p.2.2 q.2.2)) (aI 168696 (aI (aI p.1 q.1) (aI p.2.1 q.2.1)))))<RM,(dQ (aI p.2.1 q.2.1) (aI 168700 (aI p.1 q.1)))<RM,(dQ (aI (aI p.2.2 q.2.2) (aI p.2.2 q.2.2)) (aI 168696 (aI (aI p.1 q.1) (aI p.2.1 q.2.1))))<RM,(fA (aI (aI p.2.2 q.2.2) (aI p.2.2 q.2.2)) (aI 168696 (aI (aI p.1 q.1) (aI p.2.1 q.2.1))))<RM],.one (.fl (q3 (lR p q)))):=by kernel_rfl
theorem tK (p:NJ):kW prog GT (qG prog) (fun _=>true) f86 60 [.v (.fl (q3 p))]=some ([p.1<RM,p.2.1<RM,p.2.2<RM,p.1<RM,p.2.1<RM,(fA p.1 p.2.1)<RM,(aI (fA p.1 p.2.1) (fA p.1 p.2.1))<RM,(aI p.1 p.1)<RM,(dQ (aI (fA p.1 p.2.1) (fA p.1 p.2.1)) (aI p.1 p.1))<RM,(aI p.2.1 p.2.1)<RM,(aI p.1 p.1)<RM,(aI 168700 (aI p.1 p.1))<RM,(aI p.2.1 p.2.1)<RM,(aI p.2.2 p.2.2)<RM,(aI p.2.2 p.2.2)<RM,(fA (aI p.2.2 p.2.2) (aI p.2.2 p.2.2))<RM,(fA (aI 168700 (aI p.1 p.1)) (aI p.2.1 p.2.1))<RM,(dQ (dQ (aI (fA p.1 p.2.1) (fA p.1 p.2.1)) (aI p.1 p.1)) (aI p.2.1 p.2.1))<RM,(dQ (fA (aI p.2.2 p.2.2) (aI p.2.2 p.2.2)) (fA (aI 168700 (aI p.1 p.1)) (aI p.2.1 p.2.1)))<RM,(aI p.2.1 p.2.1)<RM,(aI 168700 (aI p.1 p.1))<RM,(fA (aI 168700 (aI p.1 p.1)) (aI p.2.1 p.2.1))<RM,(dQ (aI p.2.1 p.2.1) (aI 168700 (aI p.1 p.1)))<RM,(fA (aI 168700 (aI p.1 p.1)) (aI p.2.1 p.2.1))<RM,(dQ (fA (aI p.2.2 p.2.2) (aI p.2.2 p.2.2)) (fA (aI 168700 (aI p.1 p.1)) (aI p.2.1 p.2.1)))<RM],.one (.fl (q3 (WJ p)))):=by kernel_rfl
theorem ZH (p:NJ):kW prog GT (qG prog) (fun _=>true) f114 60 [.v (.fl (q3 p))]=some ([1<18446744073709551616,1<RM,p.2.2<RM,p.2.2≠0,p.1<RM,(xH 1 p.2.2)<RM,p.2.1<RM,(xH 1 p.2.2)<RM],.one (.fl [.q (tld p).1,.q (tld p).2])):=by kernel_rfl
def mH:Tab:=(((((GT.add 46 (g1 WF fun p=>([],.one (.fl (q3 (p.1,p.2,1)))))).add 84 (g0 (.one (.fl [.q 0,.q 1])))).add 88 (g2 OR OR fun p q=>(c3 p++c3 q,.one (.fl (q3 (lR p q)))))).add 86 (g1 OR fun p=>(c3 p,.one (.fl (q3 (WJ p)))))).add 114 (g1 OR fun p=>(c3 p++[p.2.2≠0],.one (.fl [.q (tld p).1,.q (tld p).2]))))
theorem hJ:TabOk prog mH:=(((((qU.add func46 (by kernel_rfl) (by kernel_rfl) (hZ (op:=fun p=>([],.one (.fl (q3 (p.1,p.2,1))))) lF fun p h args w ha=>cF aQ qU (aT _) func46 (EY p.1 p.2) ⟨by decide,trivial⟩ ha)).add func84 (by kernel_rfl) (by kernel_rfl) (nA MU)).add func88 (by kernel_rfl) (by kernel_rfl) (vS (op:=fun p q=>(c3 p++c3 q,.one (.fl (q3 (lR p q))))) iY iY fun p q h args w ha=>cF aQ qU (aT _) func88 (BA p q) ⟨h.2.2.1,h.2.2.2.2.2.1,h.1,h.2.2.2.1,h.2.1,h.2.2.2.2.1,(aF _ _),(aF _ _),(aF _ _),(aF _ _),(aF _ _),(aF _ _),(aF _ _),(aF _ _),h.1,h.2.1,h.2.2.2.1,h.2.2.2.2.1,(cL _ _),(cL _ _),(aF _ _),(aF _ _),(bK _ _),(aF _ _),(aF _ _),(bK _ _),(aF _ _),(bK _ _),(aF _ _),(cL _ _),(aF _ _),(aF _ _),(aF _ _),(aF _ _),(bK _ _),(bK _ _),(cL _ _),trivial⟩ ha)).add func86 (by kernel_rfl) (by kernel_rfl) (hZ (op:=fun p=>(c3 p,.one (.fl (q3 (WJ p))))) iY fun p h args w ha=>cF aQ qU (aT _) func86 (tK p) ⟨h.1,h.2.1,h.2.2.1,h.1,h.2.1,(cL _ _),(aF _ _),(aF _ _),(bK _ _),(aF _ _),(aF _ _),(aF _ _),(aF _ _),(aF _ _),(aF _ _),(cL _ _),(cL _ _),(bK _ _),(bK _ _),(aF _ _),(aF _ _),(cL _ _),(bK _ _),(cL _ _),(bK _ _),trivial⟩ ha)).add func114 (by kernel_rfl) (by kernel_rfl) (hZ (op:=fun p=>(c3 p++[p.2.2≠0],.one (.fl [.q (tld p).1,.q (tld p).2]))) iY fun p h args w ha=>cF aQ qU (aT _) func114 (ZH p) ⟨(by decide),dG,h.2.2.1,h.2.2.2.1,h.1,(jY _ _),h.2.1,(jY _ _),trivial⟩ ha))
theorem Ee {w:World} {l l':List At} {n m:Nat} {args:List Value} (e:aB l=aB l') (h:cH w [.s l n m] args):cH w [.s l' n m] args:=by
 match args,h with
 | [v],h =>
  obtain⟨⟨b,o,rfl,hb,hr⟩,_⟩:=h;exact⟨⟨b,o,rfl,hb,e▸hr⟩,trivial⟩
 | [],h=>exact h.elim
 | _::_::_,h=>exact h.2.elim
def Mg (k:Nat) (c:List Nat→List Prop×RV):gP
 | [.s l n m]=>bif Nat.beq n k then (match AT l with|some x=>some (c x)|none=>none)else none
 | _=>none
theorem TI {f:FuncId} {k:Nat} {c:List Nat→List Prop×RV} (h:∀x m,aS (c x).1→∀args w,cH w [.s (x.map .q) k m] args→bC prog f (c x).2 args w) :
  ∀cs pre r,Mg k c cs=some (pre,r)→aS pre→∀(args:List Value) (w:World),cH w cs args→bC prog f r args w:=by
 intro cs pre r hg hp args w ha;unfold Mg at hg;split at hg
 ·rename_i l n m;cases hb:Nat.beq n k<;>rw[hb]at hg
  ·cases hg
  ·cases Nat.eq_of_beq_eq_true hb;simp only[cond_true]at hg;split at hg
   ·rename_i x hx;have e:c x=(pre,r):=by simpa using hg
    have:=h x m (by rw[e]; exact hp) args w (Ee (oV hx) ha);rw[e]at this;exact this
   ·cases hg
 ·cases hg
def yO (x y:Nat):Bool:=decide (x<RM∧y<RM)
theorem OC (x y m:Nat):bR prog (qG prog) (fun _=>⟨fun _=>mH,fun _=>true,assoc [(13,.bool false)]⟩) f81 60 [.s [.q x,.q y] 2 m]=some ([x<aO,aW .neq .i64 (UV x) 0=some (.bool false),y<aO,aW .neq .i64 (UV y) 0=some (.bool false)],.one (.im (.bool true))):=by kernel_rfl
theorem OE (x y m:Nat):bR prog (qG prog) (fun _=>⟨fun _=>mH,fun _=>true,assoc [(13,.bool true)]⟩) f81 60 [.s [.q x,.q y] 2 m]=some ([x<aO,aW .neq .i64 (UV x) 0=some (.bool true)],.one (.im (.bool false))):=by kernel_rfl
theorem OD (x y m:Nat):bR prog (qG prog) (fun n=>⟨fun _=>mH,fun _=>true,assoc [(13,.bool (Nat.blt n 48))]⟩) f81 60 [.s [.q x,.q y] 2 m]=some ([x<aO,aW .neq .i64 (UV x) 0=some (.bool false),y<aO,aW .neq .i64 (UV y) 0=some (.bool true)],.one (.im (.bool false))):=by kernel_rfl
theorem OF (x y m:Nat) (hx:x<aO) (hy:y<aO) (args:List Value) (w:World) (ha:cH w [.s [.q x,.q y] 2 m] args):bC prog 81 (.one (.im (.bool (yO x y)))) args w:=by
 unfold yO
 by_cases h1:x<RM
 ·by_cases h2:y<RM
  ·rw[decide_eq_true ⟨h1,h2⟩];exact aG aQ (fun _ _=>hJ) (aT _) func81 (OC x y m) ⟨hx,GH h1,hy,GH h2,trivial⟩ ha
  ·rw[decide_eq_false (fun h=>h2 h.2)];exact aG aQ (fun _ _=>hJ) (aT _) func81 (OD x y m) ⟨hx,GH h1,hy,KE h2,trivial⟩ ha
 ·rw[decide_eq_false (fun h=>h1 h.1)];exact aG aQ (fun _ _=>hJ) (aT _) func81 (OE x y m) ⟨hx,KE h1,trivial⟩ ha
def Tc (b:Bool):List Nat→List Prop×RV
 | [x,y]=>([x<aO,y<aO,yO x y=b],.one (.im (.bool b)))
 | _=>([False],.one (.im (.bool b)))
theorem Si (b:Bool):∀cs pre r,Mg 2 (Tc b) cs=some (pre,r)→aS pre→∀(args:List Value) (w:World),cH w cs args→bC prog 81 r args w :=
 TI fun x m hp args w ha=>by
  match x,hp,ha with
  | [x,y],hp,ha =>
   have h:=OF x y m hp.1 hp.2.1 args w ha;rw[hp.2.2.1]at h;exact h
  | [],hp,_=>exact hp.1.elim
  | [_],hp,_=>exact hp.1.elim
  | _::_::_::_,hp,_=>exact hp.1.elim
theorem Pl (x y:Nat):bR prog (qG prog) (fun _=>⟨fun _=>mH,fun _=>true,fun _=>none⟩) f82 60 [.v (.fl [.q x]),.v (.fl [.q y])]=some ([x<RM,y<RM,aI x x<RM,aI 168700 (aI x x)<RM,aI y y<RM,1<18446744073709551616,aI x x<RM,aI y y<RM,aI (aI x x) (aI y y)<RM,1<RM,aI 168696 (aI (aI x x) (aI y y))<RM,aB [At.q (fA (aI 168700 (aI x x)) (aI y y))]=aB [At.q (fA 1 (aI 168696 (aI (aI x x) (aI y y))))]],.one (.im (.bool true))):=by kernel_rfl
theorem Pm (x y:Nat):bR prog (qG prog) (fun _=>⟨fun _=>mH,fun _=>false,fun _=>none⟩) f82 60 [.v (.fl [.q x]),.v (.fl [.q y])]=some ([x<RM,y<RM,aI x x<RM,aI 168700 (aI x x)<RM,aI y y<RM,1<18446744073709551616,aI x x<RM,aI y y<RM,aI (aI x x) (aI y y)<RM,1<RM,aI 168696 (aI (aI x x) (aI y y))<RM,aB [At.q (fA (aI 168700 (aI x x)) (aI y y))]≠aB [At.q (fA 1 (aI 168696 (aI (aI x x) (aI y y))))]],.one (.im (.bool false))):=by kernel_rfl
theorem Dt {a b:Nat} (ha:a<RM) (hb:b<RM) (h:aB [At.q a]=aB [At.q b]):a=b:=by
 have h:[Value.int .u64 (fw a 0:Nat),.int .u64 (fw a 1:Nat),.int .u64 (fw a 2:Nat),.int .u64 (fw a 3:Nat)]=[Value.int .u64 (fw b 0:Nat),.int .u64 (fw b 1:Nat),.int .u64 (fw b 2:Nat),.int .u64 (fw b 3:Nat)]:=h;simp only[List.cons.injEq,Value.int.injEq,true_and,and_true,Int.natCast_inj]at h;rw[←iM ha,←iM hb,h.1,h.2.1,h.2.2.1,h.2.2.2]
theorem MB (x y:Nat) (hx:x<RM) (hy:y<RM) (args:List Value) (w:World) (ha:cH w [.v (.fl [.q x]),.v (.fl [.q y])] args):bC prog 82 (.one (.im (.bool (decide (IT x y))))) args w:=by
 by_cases h:IT x y
 ·rw[decide_eq_true h];exact aG aQ (fun _ _=>hJ) (aT _) func82 (Pl x y) ⟨hx,hy,aF _ _,aF _ _,aF _ _,by decide,aF _ _,aF _ _,aF _ _,dG,aF _ _,by rw[h],trivial⟩ ha
 ·rw[decide_eq_false h];exact aG aQ (fun _ _=>hJ) (aT _) func82 (Pm x y) ⟨hx,hy,aF _ _,aF _ _,aF _ _,by decide,aF _ _,aF _ _,aF _ _,dG,aF _ _,fun e=>h (Dt (cL _ _) (cL _ _) e),trivial⟩ ha
def Jn (b:Bool):gP
 | [.v (.fl l),.v (.fl m)]=>match jV l,jV m with|some x,some y=>some ([x<RM,y<RM,decide (IT x y)=b],.one (.im (.bool b)))|_,_=>none
 | _=>none
theorem Rz (b:Bool):∀cs pre r,Jn b cs=some (pre,r)→aS pre→∀(args:List Value) (w:World),cH w cs args→bC prog 82 r args w:=by
 intro cs pre r hg hp args w ha;unfold Jn at hg;split at hg
 ·rename_i l m;split at hg
  ·rename_i x y hx hy;cases hg;have h:=MB x y hp.1 hp.2.1 args w (by
    match args,ha with
    | [v,u],ha =>
     refine⟨?_,?_,trivial⟩
     ·show v=.agg (aB (q1 x)).toArray;rw[←bQ l x hx]; exact ha.1
     ·show u=.agg (aB (q1 y)).toArray;rw[←bQ m y hy]; exact ha.2.1
    | [],ha=>exact ha.elim
    | [_],ha=>exact ha.2.elim
    | _::_::_::_,ha=>exact ha.2.2.elim)
   rw[hp.2.2.1]at h;exact h
  ·cases hg
 ·cases hg
def Ci (b c:Bool):Tab:=(mH.add 81 (Mg 2 (Tc b))).add 82 (Jn c)
theorem SC (b c:Bool):TabOk prog (Ci b c):=(hJ.add func81 (by kernel_rfl) (by kernel_rfl) (Si b)).add func82 (by kernel_rfl) (by kernel_rfl) (Rz c)
theorem Tm (x y m:Nat):bR prog (qG prog) (fun n=>⟨fun _=>Ci true true,fun _=>true,fun _=>none⟩) f45 60 [.s [.q x,.q y] 1 m]=some ([x<aO,y<aO,yO x y=true,x<RM,y<RM,decide (IT x y)=true],.one (.im (.bool true))):=by kernel_rfl
theorem Tn (x y m:Nat):bR prog (qG prog) (fun n=>⟨fun _=>Ci true false,fun _=>true,fun _=>none⟩) f45 60 [.s [.q x,.q y] 1 m]=some ([x<aO,y<aO,yO x y=true,x<RM,y<RM,decide (IT x y)=false],.one (.im (.bool false))):=by kernel_rfl
theorem To (x y m:Nat):bR prog (qG prog) (fun n=>⟨fun _=>Ci false false,fun _=>true,fun _=>none⟩) f45 60 [.s [.q x,.q y] 1 m]=some ([x<aO,y<aO,yO x y=false],.one (.im (.bool false))):=by kernel_rfl
def oB (x y:Nat):Bool:=decide (OnJ x y)
theorem IU {x y:Nat} (h:OnJ x y):oB x y=true:=decide_eq_true h
theorem sC {x y:Nat}:oB x y=true↔OnJ x y:=⟨of_decide_eq_true,decide_eq_true⟩
theorem MC (x y:Nat):(oB x y=true∧yO x y=true∧x<RM∧y<RM∧decide (IT x y)=true)∨(oB x y=false∧yO x y=true∧x<RM∧y<RM∧decide (IT x y)=false)∨(oB x y=false∧yO x y=false):=by
 by_cases h:x<RM∧y<RM
 ·by_cases k:IT x y
  ·exact Or.inl ⟨decide_eq_true ⟨h,k⟩,decide_eq_true h,h.1,h.2,decide_eq_true k⟩
  ·exact Or.inr (Or.inl ⟨decide_eq_false fun q=>k q.2,decide_eq_true h,h.1,h.2,decide_eq_false k⟩)
 ·exact Or.inr (Or.inr ⟨decide_eq_false fun q=>h q.1,decide_eq_false h⟩)
theorem OM (x y m:Nat) (hx:x<aO) (hy:y<aO) (args:List Value) (w:World) (ha:cH w [.s [.q x,.q y] 1 m] args):bC prog 45 (.one (.im (.bool (oB x y)))) args w:=by
 rcases MC x y with⟨e,h1,h2,h3,h4⟩|⟨e,h1,h2,h3,h4⟩|⟨e,h1⟩
 ·rw[e];exact aG aQ (fun _ _=>SC _ _) (aT _) func45 (Tm x y m) ⟨hx,hy,h1,h2,h3,h4,trivial⟩ ha
 ·rw[e];exact aG aQ (fun _ _=>SC _ _) (aT _) func45 (Tn x y m) ⟨hx,hy,h1,h2,h3,h4,trivial⟩ ha
 ·rw[e];exact aG aQ (fun _ _=>SC _ _) (aT _) func45 (To x y m) ⟨hx,hy,h1,trivial⟩ ha
def Td (b:Bool):List Nat→List Prop×RV
 | [x,y]=>([x<aO,y<aO,oB x y=b],.one (.im (.bool b)))
 | _=>([False],.one (.im (.bool b)))
theorem Sj (b:Bool):∀cs pre r,Mg 1 (Td b) cs=some (pre,r)→aS pre→∀(args:List Value) (w:World),cH w cs args→bC prog 45 r args w :=
 TI fun x m hp args w ha=>by
  match x,hp,ha with
  | [x,y],hp,ha =>
   have h:=OM x y m hp.1 hp.2.1 args w ha;rw[hp.2.2.1]at h;exact h
  | [],hp,_=>exact hp.1.elim
  | [_],hp,_=>exact hp.1.elim
  | _::_::_::_,hp,_=>exact hp.1.elim
def Es (b:Bool):Tab:=mH.add 45 (Mg 1 (Td b))
theorem Ik (b:Bool):TabOk prog (Es b):=hJ.add func45 (by kernel_rfl) (by kernel_rfl) (Sj b)
abbrev kX:List At:=[.f ⟨0,cN⟩,.f ⟨0,cN⟩]
abbrev w2 (p:NP):Prop:=p.1<aO∧p.2<aO
def gF (p:NP) (e:Int):RV:=.many [.fl [.q p.1,.q p.2],.im (.int .i64 e)]
def cj (P:JP):NP:=(P.1.1.1,P.1.2.1)
theorem OnJ.w {x y:Nat} (h:OnJ x y):x<aO∧y<aO:=⟨gG h.1.1,gG h.1.2⟩
def Ur (a b c:NJ):gP
 | [.v (.fl l),.v (.fl m)]=>some ([aB l=aB (q3 a),aB m=aB (q3 b)],.one (.fl (q3 c)))
 | _=>none
def MH (p:NJ):Prop:=p.1<RM∧p.2.1<RM∧p.2.2<RM
theorem Sa {a b c:NJ} (ha:MH a) (hb:MH b) (hc:c=lR a b):∀cs pre r,Ur a b c cs=some (pre,r)→aS pre→∀(args:List Value) (w:World),cH w cs args→bC prog 88 r args w:=by
 intro cs pre r hg hp args w h;unfold Ur at hg;split at hg
 ·rename_i l m;cases hg
  match args,h with
  | [v,u],h =>
   have h1:v=.agg (aB l).toArray:=h.1;have h2:u=.agg (aB m).toArray:=h.2.1;rw[hp.1]at h1;rw[hp.2.1]at h2;subst h1; subst h2; subst hc;exact cF aQ qU (aT _) func88 (BA a b) (⟨ha.2.2,hb.2.2,ha.1,hb.1,ha.2.1,hb.2.1,(aF _ _),(aF _ _),(aF _ _),(aF _ _),(aF _ _),(aF _ _),(aF _ _),(aF _ _),ha.1,ha.2.1,hb.1,hb.2.1,(cL _ _),(cL _ _),(aF _ _),(aF _ _),(bK _ _),(aF _ _),(aF _ _),(bK _ _),(aF _ _),(bK _ _),(aF _ _),(cL _ _),(aF _ _),(aF _ _),(aF _ _),(aF _ _),(bK _ _),(bK _ _),(cL _ _),trivial⟩) (args:=[_,_]) ⟨rfl,rfl,trivial⟩
  | [],h=>exact h.elim
  | [_],h=>exact h.2.elim
  | _::_::_::_,h=>exact h.2.2.elim
 ·cases hg
def Wl (a c:NJ):gP
 | [.v (.fl l)]=>some ([aB l=aB (q3 a)],.one (.fl (q3 c)))
 | _=>none
theorem Xd {a c:NJ} (ha:MH a) (hc:c=WJ a):∀cs pre r,Wl a c cs=some (pre,r)→aS pre→∀(args:List Value) (w:World),cH w cs args→bC prog 86 r args w:=by
 intro cs pre r hg hp args w h;unfold Wl at hg;split at hg
 ·rename_i l;cases hg
  match args,h with
  | [v],h =>
   have h1:v=.agg (aB l).toArray:=h.1;rw[hp.1]at h1;subst h1; subst hc;exact cF aQ qU (aT _) func86 (tK a) (⟨ha.1,ha.2.1,ha.2.2,ha.1,ha.2.1,(cL _ _),(aF _ _),(aF _ _),(bK _ _),(aF _ _),(aF _ _),(aF _ _),(aF _ _),(aF _ _),(aF _ _),(cL _ _),(cL _ _),(bK _ _),(bK _ _),(aF _ _),(aF _ _),(cL _ _),(bK _ _),(cL _ _),(bK _ _),trivial⟩) (args:=[_]) ⟨rfl,trivial⟩
  | [],h=>exact h.elim
  | _::_::_,h=>exact h.2.elim
 ·cases hg
end Go.Proofs.YtpjlhhpjpnacmaaGreat.Ex
namespace Go.Proofs.YtpjlhhpjpnacmaaGreat
open Go.Proofs.Tryz
open Go.RowKit
def FwPost (x:Nat) (w:World) (e:Ending) (w':World):Prop:=e=.returned (.agg #[.int .u64 (fw x 0:Nat),.int .u64 (fw x 1:Nat),.int .u64 (fw x 2:Nat),.int .u64 (fw x 3:Nat)])∧Below w.heap.size w w'
theorem FwPost.of {x:Nat} {w:World} {e:Ending} {w':World} (hx:x<FP.M) (h:eK x w e w'):FwPost x w e w':=by
 obtain⟨s0,s1,s2,s3,rfl,hs,hv,hb⟩:=h;obtain⟨rfl,rfl,rfl,rfl⟩:=fN hs (Qq hx) hv;exact⟨rfl,hb⟩
end Go.Proofs.YtpjlhhpjpnacmaaGreat
namespace Go.Proofs.YtpjlhhpjpnacmaaGreat.Ex
open Go.Proofs.Tryz
open Go.RowKit
theorem VR {l:List At} {args:List Value} {w:World} (h:cH w [.v (.fl l)] args):args=[.agg (aB l).toArray]:=by
 match args,h with
 | [v],h=>rw[show v=_ from h.1]; rfl
 | [],h=>exact h.elim
 | _::_::_,h=>exact h.2.elim
theorem Tj {l m:List At} {args:List Value} {w:World} (h:cH w [.v (.fl l),.v (.fl m)] args):args=[.agg (aB l).toArray,.agg (aB m).toArray]:=by
 match args,h with
 | [v,u],h=>rw[show v=_ from h.1,show u=_ from h.2.1]; rfl
 | [],h=>exact h.elim
 | [_],h=>exact h.2.elim
 | _::_::_::_,h=>exact h.2.2.elim
def cK (n:Nat):Nat:=if wv n=0 then 0 else Nat.log2 (wv n)+1
theorem oX (n:Nat):LenIs (wv n) (cK n):=by
 unfold cK
 by_cases h:wv n=0
 ·rw[if_pos h,h]; exact⟨by decide,fun h=>by cases h⟩
 ·rw[if_neg h];exact⟨Nat.lt_log2_self,fun _=>by rw[Nat.add_sub_cancel]; exact Nat.log2_self_le h⟩
theorem GX (n:Nat):wv n<2^256:=by
 obtain⟨h0,h1,h2,h3⟩:=cP n;unfold wv aA;have:(2:Nat)^256=115792089237316195423570985008687907853269984665640564039457584007913129639936:=by decide
 omega
theorem xR (n:Nat):cK n≤256:=by
 rcases Nat.lt_or_ge 256 (cK n)with h|h
 ·have h1:=(oX n).2 (by omega);have h2:=Nat.pow_le_pow_right (show 0<2 by omega) (show 256≤cK n-1 by omega);have:=GX n;omega
 ·exact h
def NC:gP
 | [.v (.fl l)]=>match jV l with
  | some n=>some ([],.one (.im (.int .i64 (cK n:Nat))))
  | none=>none
 | _=>none
theorem Ir:∀cs pre r,NC cs=some (pre,r)→aS pre→∀(args:List Value) (w:World),cH w cs args→bC prog 85 r args w:=by
 intro cs pre r hg hp args w ha;unfold NC at hg;split at hg
 ·rename_i l;split at hg
  ·rename_i n hn;cases hg;rw[VR ha,bQ l _ hn];refine (vM _ _ _ _ (cP n) w).mono ?_
   rintro e w' ⟨L,rfl,_,h,hbl⟩
   cases h.uniq (oX n);exact⟨rfl,hbl⟩
  ·cases hg
 ·cases hg
def Jx:gP
 | [.v (.fl l),.v (.im (.int .i64 (.ofNat i)))]=>match jV l with
  | some n=>some ([i<256],.one (.im (.int .i64 (cS (wv n) i:Nat))))
  | none=>none
 | _=>none
def Jh:gP
 | [.v (.fl l),.v (.im (.int .i64 (.ofNat k)))]=>match jV l with
  | some n=>some ([k<9223372036854775808],.one (.fl (q1 (wv n/2^k))))
  | none=>none
 | _=>none
theorem Fv:∀cs pre r,Jh cs=some (pre,r)→aS pre→∀(args:List Value) (w:World),cH w cs args→bC prog 87 r args w:=by
 intro cs pre r hg hp args w ha;unfold Jh at hg;split at hg
 ·rename_i l k;split at hg
  ·rename_i n hn;cases hg
   match args,ha with
   | [v,u],ha =>
    have h1:v=.agg (aB l).toArray:=ha.1;have h2:u=.int .i64 (Int.ofNat k):=ha.2.1;rw[bQ l _ hn]at h1;subst h1; subst h2;have hk:k<9223372036854775808:=hp.1;refine (jH _ _ _ _ (Int.ofNat k) (cP n) (by simp) (by simp; omega) w).mono ?_
    rintro e w' ⟨s0,s1,s2,s3,rfl,hs,hv,hb⟩
    have hlt:wv n/2^k<115792089237316195423570985008687907853269984665640564039457584007913129639936:=by
     refine Nat.lt_of_le_of_lt (Nat.div_le_self _ _) ?_;have:=GX n;have e:(2:Nat)^256=115792089237316195423570985008687907853269984665640564039457584007913129639936:=by decide
     omega
    obtain⟨rfl,rfl,rfl,rfl⟩:=fN hs hlt hv;exact⟨rfl,hb⟩
   | [],ha=>exact ha.elim
   | [_],ha=>exact ha.2.elim
   | _::_::_::_,ha=>exact ha.2.2.elim
  ·cases hg
 ·cases hg
def mt (p:NJ):Nat→NJ
 | 0=>(0,1,1)
 | k+1=>lR (mt p k) p
theorem Dh (p:NJ):∀k,MH (mt p k)
 | 0=>⟨dJ,dG,dG⟩
 | k+1=>⟨aF _ _,aF _ _,aF _ _⟩
def ZC (p:NJ):List At:=[.q (mt p 0).1,.q (mt p 0).2.1,.q (mt p 0).2.2,.q (mt p 1).1,.q (mt p 1).2.1,.q (mt p 1).2.2,.q (mt p 2).1,.q (mt p 2).2.1,.q (mt p 2).2.2,.q (mt p 3).1,.q (mt p 3).2.1,.q (mt p 3).2.2,.q (mt p 4).1,.q (mt p 4).2.1,.q (mt p 4).2.2,.q (mt p 5).1,.q (mt p 5).2.1,.q (mt p 5).2.2,.q (mt p 6).1,.q (mt p 6).2.1,.q (mt p 6).2.2,.q (mt p 7).1,.q (mt p 7).2.1,.q (mt p 7).2.2,.q (mt p 8).1,.q (mt p 8).2.1,.q (mt p 8).2.2,.q (mt p 9).1,.q (mt p 9).2.1,.q (mt p 9).2.2,.q (mt p 10).1,.q (mt p 10).2.1,.q (mt p 10).2.2,.q (mt p 11).1,.q (mt p 11).2.1,.q (mt p 11).2.2,.q (mt p 12).1,.q (mt p 12).2.1,.q (mt p 12).2.2,.q (mt p 13).1,.q (mt p 13).2.1,.q (mt p 13).2.2,.q (mt p 14).1,.q (mt p 14).2.1,.q (mt p 14).2.2,.q (mt p 15).1,.q (mt p 15).2.1,.q (mt p 15).2.2]
def Tq (p:NJ) (n:Nat):Tab:=mH.add 88 (Ur (mt p (49-n)) p (mt p (49-n+1)))
theorem Pn {p:NJ} (h:MH p) (n:Nat):TabOk prog (Tq p n):=hJ.add func88 (by kernel_rfl) (by kernel_rfl) (Sa (Dh p _) h rfl)
theorem Io (p:NJ):bR prog (qG prog) (fun n=>⟨fun _=>Tq p n,fun _=>true,fun _=>none⟩) f83 60 [.v (.fl (q3 p))]=some ([aB (q3 (mt p 0))=aB (q3 (mt p 0)),aB (q3 p)=aB (q3 p),aB (q3 (mt p 1))=aB (q3 (mt p 1)),aB (q3 p)=aB (q3 p),aB (q3 (mt p 2))=aB (q3 (mt p 2)),aB (q3 p)=aB (q3 p),aB (q3 (mt p 3))=aB (q3 (mt p 3)),aB (q3 p)=aB (q3 p),aB (q3 (mt p 4))=aB (q3 (mt p 4)),aB (q3 p)=aB (q3 p),aB (q3 (mt p 5))=aB (q3 (mt p 5)),aB (q3 p)=aB (q3 p),aB (q3 (mt p 6))=aB (q3 (mt p 6)),aB (q3 p)=aB (q3 p),aB (q3 (mt p 7))=aB (q3 (mt p 7)),aB (q3 p)=aB (q3 p),aB (q3 (mt p 8))=aB (q3 (mt p 8)),aB (q3 p)=aB (q3 p),aB (q3 (mt p 9))=aB (q3 (mt p 9)),aB (q3 p)=aB (q3 p),aB (q3 (mt p 10))=aB (q3 (mt p 10)),aB (q3 p)=aB (q3 p),aB (q3 (mt p 11))=aB (q3 (mt p 11)),aB (q3 p)=aB (q3 p),aB (q3 (mt p 12))=aB (q3 (mt p 12)),aB (q3 p)=aB (q3 p),aB (q3 (mt p 13))=aB (q3 (mt p 13)),aB (q3 p)=aB (q3 p),aB (q3 (mt p 14))=aB (q3 (mt p 14)),aB (q3 p)=aB (q3 p)],.one (.fl (ZC p))):=by kernel_rfl
def Yd:gP:=g1 OR fun p=>([p.1<RM,p.2.1<RM,p.2.2<RM],.one (.fl (ZC p)))
theorem Xe:∀cs pre r,Yd cs=some (pre,r)→aS pre→∀(args:List Value) (w:World),cH w cs args→bC prog 83 r args w :=
 hZ (op:=fun p=>([p.1<RM,p.2.1<RM,p.2.2<RM],.one (.fl (ZC p)))) iY fun p h args w ha=>aG aQ (fun n _=>Pn ⟨h.1,h.2.1,h.2.2.1⟩ n) (aT _) func83 (Io p) ⟨rfl,rfl,rfl,rfl,rfl,rfl,rfl,rfl,rfl,rfl,rfl,rfl,rfl,rfl,rfl,rfl,rfl,rfl,rfl,rfl,rfl,rfl,rfl,rfl,rfl,rfl,rfl,rfl,rfl,rfl,trivial⟩ ha
def Ch:Tab:=((mH.add 83 Yd).add 85 NC).add 87 Jh
theorem De:TabOk prog Ch:=((hJ.add func83 (by kernel_rfl) (by kernel_rfl) Xe).add func85 (by kernel_rfl) (by kernel_rfl) Ir).add func87 (by kernel_rfl) (by kernel_rfl) Fv
def fO:Code:=(f47.body).getD .skip
def CV:Code:=By (By (cB (cA (cB (cB (cB (cB fO)))))))
theorem WY:fO=.seq (cA fO) (.seq (cA (cB fO)) (.seq (cA (cB (cB fO))) (.seq (cA (cB (cB (cB fO)))) (.seq (.seq (cA (cA (cB (cB (cB (cB fO)))))) (.block 0 (.loop CV))) (cB (cB (cB (cB (cB fO))))))))):=by kernel_rfl
def Ux:List At:=[.f ⟨0,cN⟩,.f ⟨0,cN⟩,.f ⟨0,cN⟩]
def Uf (p:NJ) (n:Nat):List Fact:=[.slot 2 (.pt 2 0),.row 2 true (q3 p),.slot 3 (.pt 3 0),.row 3 true [.q n],.slot 4 (.pt 4 0),.row 4 true Ux]
def Ue (p:NJ) (n:Nat):List Fact:=Uf p n++[.slot 5 (.pt 5 0),.row 5 true (ZC p)]
def Ud (p:NJ) (n:Nat) (s:NJ):List Fact:=Ue p n++[.slot 6 (.pt 6 0),.row 6 true (q3 s)]
def Uc (p:NJ) (n PL:Nat) (s:NJ):List Fact:=Ud p n s++[.slot 7 (.im (iI PL))]
def PR (p:NJ) (n PL i:Nat) (s:NJ):List Fact:=Uc p n PL s++[.slot 20 (.im (iI PL)),.slot 21 (.im (iI i))]
def Fm (num:Nat→Option Value) (_:Nat):Cfg:=⟨fun _=>Ch,fun _=>true,num⟩
def dk (s:NJ):Nat→NJ
 | 0=>s
 | j+1=>WJ (dk s j)
theorem Eb {s:NJ} (h:MH s):∀j,MH (dk s j)
 | 0=>h
 | j+1=>⟨aF _ _,aF _ _,aF _ _⟩
def Eo (p s:NJ) (k m:Nat):Tab:=(Ch.add 86 (Wl (dk s (46-m)) (dk s (46-m+1)))).add 88 (Ur (dk s 4) (mt p k) (lR (dk s 4) (mt p k)))
theorem Ih {p s:NJ} (hs:MH s) (k m:Nat):TabOk prog (Eo p s k m):=(De.add func86 (by kernel_rfl) (by kernel_rfl) (Xd (Eb hs _) rfl)).add func88 (by kernel_rfl) (by kernel_rfl) (Sa (Eb hs _) (Dh p _) rfl)
def Zm (p s:NJ) (PL i k m:Nat):Cfg:=⟨fun _=>Eo p s k m,fun _=>true,assoc [(22,.bool true),(30,iI (PL-1)),(32,iI (PL-1-i)),(35,iI ((PL-1-i)*4)),(38,.int .u64 (Int.ofNat k)),(44,iI (i+1))]⟩
def Mi (s:NJ):Prop:=aB (q3 s)=aB (q3 s)
def Zk (p s:NJ) (n PL i k:Nat):List Prop:=[aW .lss .i64 (Int.ofNat i) (Int.ofNat PL)=some (.bool true),Mi s,Mi (dk s 1),Mi (dk s 2),Mi (dk s 3),aW .sub .i64 (Int.ofNat PL) 1=some (iI (PL-1)),aW .sub .i64 (Int.ofNat (PL-1)) (Int.ofNat i)=some (iI (PL-1-i)),aW .mul .i64 (Int.ofNat (PL-1-i)) 4=some (iI ((PL-1-i)*4)),(PL-1-i)*4<9223372036854775808,aW .rem .u64 (fw (wv n/2^((PL-1-i)*4)) 0:Nat) 16=some (.int .u64 (Int.ofNat k)),Int.ofNat k=Int.ofNat k,k<16,Mi (dk s 4),Mi (mt p k),aW .add .i64 (Int.ofNat i) 1=some (iI (i+1))]
theorem Ni (w:World) (p s:NJ) (n PL i:Nat):∀k,k<16→bJ prog { qG prog with x:=xO w (assoc [(41,k)]) (fun _=>none) (fun _=>none) } f47.ntmps (Zm p s PL i k) 60 CV (PR p n PL i s) (PR p n PL (i+1) (lR (dk s 4) (mt p k)))=some (Zk p s n PL i k,.nrm,PR p n PL (i+1) (lR (dk s 4) (mt p k)))
 | 0,_=>by kernel_rfl
 | 1,_=>by kernel_rfl
 | 2,_=>by kernel_rfl
 | 3,_=>by kernel_rfl
 | 4,_=>by kernel_rfl
 | 5,_=>by kernel_rfl
 | 6,_=>by kernel_rfl
 | 7,_=>by kernel_rfl
 | 8,_=>by kernel_rfl
 | 9,_=>by kernel_rfl
 | 10,_=>by kernel_rfl
 | 11,_=>by kernel_rfl
 | 12,_=>by kernel_rfl
 | 13,_=>by kernel_rfl
 | 14,_=>by kernel_rfl
 | 15,_=>by kernel_rfl
 | k+16,h=>absurd h (by omega)
theorem Nh (p:NJ) (n:Nat):bJ prog (qG prog) f47.ntmps (Fm fun _=>none) 40 (cA fO) (iO 0 [.v (.fl (q3 p)),.v (.fl [.q n])]) (Uf p n)=some ([],.nrm,Uf p n):=by kernel_rfl
theorem Ng (p:NJ) (n:Nat):bJ prog (qG prog) f47.ntmps (Fm fun _=>none) 40 (cA (cB fO)) (Uf p n) (Ue p n)=some ([p.1<RM,p.2.1<RM,p.2.2<RM],.nrm,Ue p n):=by kernel_rfl
theorem Nf (p:NJ) (n:Nat):bJ prog (qG prog) f47.ntmps (Fm fun _=>none) 40 (cA (cB (cB fO))) (Ue p n) (Ud p n (0,1,1))=some ([],.nrm,Ud p n (0,1,1)):=by kernel_rfl
theorem Nd (p:NJ) (n PL:Nat):bJ prog (qG prog) f47.ntmps (Fm (assoc [(17,iI (cK n+4)),(18,iI (cK n+4-1)),(19,iI PL)])) 40 (cA (cB (cB (cB fO)))) (Ud p n (0,1,1)) (Uc p n PL (0,1,1))=some ([aW .add .i64 (cK n:Nat) 4=some (iI (cK n+4)),aW .sub .i64 (Int.ofNat (cK n+4)) 1=some (iI (cK n+4-1)),aW .quo .i64 (Int.ofNat (cK n+4-1)) 4=some (iI PL)],.nrm,Uc p n PL (0,1,1)):=by kernel_rfl
theorem Nc (p:NJ) (n PL:Nat):bJ prog (qG prog) f47.ntmps (Fm fun _=>none) 40 (cA (cA (cB (cB (cB (cB fO)))))) (Uc p n PL (0,1,1)) (PR p n PL 0 (0,1,1))=some ([],.nrm,PR p n PL 0 (0,1,1)):=by kernel_rfl
theorem Fl (p:NJ) (n PL i:Nat) (s:NJ):bJ prog (qG prog) f47.ntmps (Fm (assoc [(22,.bool false)])) 60 CV (PR p n PL i s) (PR p n PL i s)=some ([aW .lss .i64 (Int.ofNat i) (Int.ofNat PL)=some (.bool false)],.ex 0,PR p n PL i s):=by kernel_rfl
theorem WX (p:NJ) (n PL i:Nat) (s:NJ):bJ prog (qG prog) f47.ntmps (Fm fun _=>none) 40 (cB (cB (cB (cB (cB fO))))) (PR p n PL i s) [.slot 4 (.pt 4 0),.row 4 true (q3 s)]=some ([],.rt,[.slot 4 (.pt 4 0),.row 4 true (q3 s)]):=by kernel_rfl
def Ml (n pl:Nat):Nat:=fw (wv n/2^(pl*4)) 0%16
def Mc (p:NJ) (n PL:Nat):Nat→NJ
 | 0=>(0,1,1)
 | i+1=>lR (dk (Mc p n PL i) 4) (mt p (Ml n (PL-1-i)))
theorem Fs (p:NJ) (n PL:Nat):∀i,MH (Mc p n PL i)
 | 0=>⟨dJ,dG,dG⟩
 | i+1=>⟨aF _ _,aF _ _,aF _ _⟩
theorem YX {x:Nat} (h:x<18446744073709551616):aW .rem .u64 (x:Nat) 16=some (.int .u64 (Int.ofNat (x%16))):=by
 show (if (16:Int)=0 then none else some (Value.int .u64 ((Int.ofNat x).tmod 16)))=_;rw[if_neg (by decide)];rfl
def sW (n:Nat):Nat:=(cK n+3)/4
theorem Hq (n:Nat):sW n≤64:=by
 have:=xR n;unfold sW;omega
def uG (p:NJ) (n:Nat):NJ:=Mc p n (sW n) (sW n)
theorem wP (p:NJ) (n:Nat) (hp:MH p) (args:List Value) (w0:World) (ha:cH w0 [.v (.fl (q3 p)),.v (.fl [.q n])] args):bC prog 47 (.one (.fl (q3 (uG p n)))) args w0:=by
 have hG:dC prog (qG prog) w0.heap.size w0:=(aT _).w _ _;have hT:∀n d:Nat,TabOkW prog Ch w0.heap.size w0:=fun _ _=>De.w _ _
 refine eT func47 (c:=fO) rfl ha (Nat.le_of_ble_eq_true (by kernel_rfl)) fun a w' hA => ?_
 have hl:=xR n;have hPL:=Hq n;rw[WY];refine wp_seq (aE aQ hT hG (Nh p n) trivial hA fun a w' hA => ?_);refine wp_seq (aE aQ hT hG (Ng p n) ⟨hp.1,hp.2.1,hp.2.2,trivial⟩ hA fun a w' hA => ?_);refine wp_seq (aE aQ hT hG (Nf p n) trivial hA fun a w' hA => ?_);refine wp_seq (aE aQ hT hG (Nd p n (sW n)) ⟨IY (k:=4) (by omega),tE (k:=1) (by omega) (by omega),Pr (k:=4) (by omega) (by omega),trivial⟩ hA fun a w' hA => ?_);refine wp_seq (wp_seq (aE aQ hT hG (Nc p n (sW n)) trivial hA fun a w' hA => ?_));refine wp_block ?_;refine EU aQ (fun i=>PR p n (sW n) i (Mc p n (sW n) i)) (sW n) (fun i hi => ?_) (.ex 0) (by simp) (PR p n (sW n) (sW n) (uG p n)) ⟨_,_,_,_,hG,hT,Fl p n (sW n) (sW n) _,oR (Nat.le_refl _),trivial⟩ hA fun a w hA => ?_
 ·exact⟨_,_,_,_,uR w0 _ _ _,fun m _=>(Ih (p:=p) (Fs p n (sW n) i) (Ml n (sW n-1-i)) m).w _ _,Ni w0 p (Mc p n (sW n) i) n (sW n) i (Ml n (sW n-1-i)) (Nat.mod_lt _ (by decide)),xL hi,rfl,rfl,rfl,rfl,tE (k:=1) (by omega) (by omega),tE (by omega) (by omega),Ps (k:=4) (by omega),by omega,YX (cP _).1,rfl,Nat.mod_lt _ (by decide),rfl,rfl,IY (k:=1) (by omega),trivial⟩
 ·show (cB (cB (cB (cB (cB fO))))).wp _ _ _ _;exact aE aQ hT hG (WX p n (sW n) (sW n) _) trivial hA fun a w' hA=>lT (l:=[.fl (q3 (uG p n))]) (r:=.one (.fl (q3 (uG p n)))) (by kernel_rfl) (by kernel_rfl) hA
theorem JRep.lt {p:NJ} {P:JP} (h:JRep p P):MH p:=⟨h.x,h.y,h.z⟩
theorem SP {p:NJ} {P:JP} (h:JRep p P):∀k,JRep (mt p k) (kQ.grp.ns k P)
 | 0=>FA
 | k+1=>(SP h k).pl h
theorem Kq {s:NJ} {P:JP} {m:Nat} (h:JRep s (kQ.grp.ns m P)):JRep (dk s 4) (kQ.grp.ns (16*m) P):=by
 have h4:=h.db.db.db.db;rw[←kQ.grp.ns_add,←kQ.grp.ns_add,←kQ.grp.ns_add,←kQ.grp.ns_add,show m+m+(m+m)+(m+m+(m+m))+(m+m+(m+m)+(m+m+(m+m)))=16*m by omega]at h4;exact h4
theorem Zv (x:Nat):fw x 0=x%18446744073709551616:=by
 unfold fw;rw[Nat.pow_zero,Nat.div_one]
theorem ID {p:NJ} {P:JP} (h:JRep p P) (n PL:Nat) (hn:wv n<2^(4*PL)):∀i,i≤PL→JRep (Mc p n PL i) (kQ.grp.ns (wv n/2^(4*(PL-i))) P)
 | 0,_=>by
  rw[Nat.sub_zero,Nat.div_eq_of_lt hn];exact FA
 | i+1,hi=>by
  have ih:=(Kq (ID h n PL hn i (by omega))).pl (SP h (Ml n (PL-1-i)));rw[←kQ.grp.ns_add]at ih;have e1:Ml n (PL-1-i)=wv n/2^(4*(PL-(i+1)))%16:=by
   unfold Ml;rw[Zv,show (PL-1-i)*4=4*(PL-(i+1)) by omega];omega
  have e2:wv n/2^(4*(PL-i))=wv n/2^(4*(PL-(i+1)))/16:=by
   rw[show 4*(PL-i)=4*(PL-(i+1))+4 by omega,Nat.pow_add,←Nat.div_div_eq_div_mul]
  rw[e1,e2]at ih;rw[show wv n/2^(4*(PL-(i+1)))=16*(wv n/2^(4*(PL-(i+1)))/16)+wv n/2^(4*(PL-(i+1)))%16 by omega];rw[←e1]at ih ⊢;exact ih
theorem rU {p:NJ} {P:JP} (h:JRep p P) (n:Nat):JRep (uG p n) (kQ.grp.ns (wv n) P):=by
 have h1:=ID h n (sW n) (Nat.lt_of_lt_of_le (oX n).1 (Nat.pow_le_pow_right (by decide) (by unfold sW; omega))) (sW n) (Nat.le_refl _);rw[Nat.sub_self,Nat.mul_zero,Nat.pow_zero,Nat.div_one]at h1;exact h1
def kV (p:NP) (n:Nat):NP:=tld (uG (p.1,p.2,1) n)
theorem xQ {p:NP} (hp:OnJ p.1 p.2) (n:Nat):kV p n=cj (kQ.grp.ns (wv n) (jp hp)):=(rU (tL hp) n).tld
def Xy:gP:=g2 OR jV fun p n=>([p.1<RM,p.2.1<RM,p.2.2<RM],.one (.fl (q3 (uG p n))))
theorem Wx:∀cs pre r,Xy cs=some (pre,r)→aS pre→∀(args:List Value) (w:World),cH w cs args→bC prog 47 r args w :=
 vS (op:=fun p n=>([p.1<RM,p.2.1<RM,p.2.2<RM],.one (.fl (q3 (uG p n))))) iY bQ fun p n h args w ha=>wP p n ⟨h.1,h.2.1,h.2.2.1⟩ args w ha
theorem Qd (p:NJ):bR prog (qG prog) (fun n=>⟨fun _=>mH,fun _=>true,fun _=>none⟩) f48 60 [.v (.fl (q3 p))]=some ([aB [At.q p.1]=aB [At.f ⟨0,cN⟩],aB [At.q p.2.1]=aB [At.q p.2.2]],.one (.im (.bool true))):=by kernel_rfl
theorem Qf (p:NJ):bR prog (qG prog) (fun n=>⟨fun _=>mH,fun s=>Nat.beq s 6,fun _=>none⟩) f48 60 [.v (.fl (q3 p))]=some ([aB [At.q p.1]=aB [At.f ⟨0,cN⟩],aB [At.q p.2.1]≠aB [At.q p.2.2]],.one (.im (.bool false))):=by kernel_rfl
theorem Qe (p:NJ):bR prog (qG prog) (fun n=>⟨fun _=>mH,fun _=>false,fun _=>none⟩) f48 60 [.v (.fl (q3 p))]=some ([aB [At.q p.1]≠aB [At.f ⟨0,cN⟩]],.one (.im (.bool false))):=by kernel_rfl
theorem FB (p:NJ) (hp:MH p) (args:List Value) (w:World) (ha:cH w [.v (.fl (q3 p))] args):bC prog 48 (.one (.im (.bool (nP p)))) args w:=by
 by_cases h1:p.1=0
 ·by_cases h2:p.2.1=p.2.2
  ·rw[show nP p=true by unfold nP; rw[Bool.and_eq_true]; exact⟨by rw[h1]; rfl,by rw[h2]; exact Nat.beq_refl _⟩];exact aG aQ (fun _ _=>hJ) (aT _) func48 (Qd p) ⟨by rw[h1]; rfl,by rw[h2],trivial⟩ ha
  ·rw[show nP p=false by unfold nP; rw[Bool.and_eq_false_iff]; exact Or.inr (Bool.eq_false_iff.2 fun q=>h2 (Nat.eq_of_beq_eq_true q))];exact aG aQ (fun _ _=>hJ) (aT _) func48 (Qf p) ⟨by rw[h1]; rfl,fun e=>h2 (Dt hp.2.1 hp.2.2 e),trivial⟩ ha
 ·rw[show nP p=false by unfold nP; rw[Bool.and_eq_false_iff]; exact Or.inl (Bool.eq_false_iff.2 fun q=>h1 (Nat.eq_of_beq_eq_true q))];exact aG aQ (fun _ _=>hJ) (aT _) func48 (Qe p) ⟨fun e=>h1 (Dt hp.1 dJ e),trivial⟩ ha
def Qm (b:Bool):gP:=g1 OR fun p=>([p.1<RM,p.2.1<RM,p.2.2<RM,nP p=b],.one (.im (.bool b)))
theorem Sc (b:Bool):∀cs pre r,Qm b cs=some (pre,r)→aS pre→∀(args:List Value) (w:World),cH w cs args→bC prog 48 r args w :=
 hZ (op:=fun p=>([p.1<RM,p.2.1<RM,p.2.2<RM,nP p=b],.one (.im (.bool b)))) iY fun p h args w ha=>by
  have h':=FB p ⟨h.1,h.2.1,h.2.2.1⟩ args w ha;rw[h.2.2.2.1]at h';exact h'
theorem Qa:lJ<FP.M:=of_decide_eq_true (by kernel_rfl)
theorem Ti:bX<FP.M:=of_decide_eq_true (by kernel_rfl)
theorem Th:bY<FP.M:=of_decide_eq_true (by kernel_rfl)
theorem XL:bR prog (qG prog) (fun n=>⟨fun _=>mH,fun _=>true,fun _=>none⟩) f36 60 []=some ([],.one (.fl [.f ⟨lJ,Qa⟩])):=by kernel_rfl
theorem QK:bR prog (qG prog) (fun n=>⟨fun _=>mH,fun _=>true,fun _=>none⟩) f80 60 []=some ([],.one (.fl [.f ⟨bX,Ti⟩,.f ⟨bY,Th⟩])):=by kernel_rfl
theorem RS:aB [At.f ⟨lJ,Qa⟩]=aB [At.q lJ]:=rfl
theorem OG:aB [At.f ⟨bX,Ti⟩,.f ⟨bY,Th⟩]=aB [At.q bX,.q bY]:=rfl
theorem sZ (w:World):bC prog 36 (.one (.fl [.q lJ])) [] w:=by
 have h:=aG aQ (fun _ _=>hJ) (aT _) func36 XL trivial (w:=w) (args:=[]) trivial;unfold bC;rw[show RV.den (.one (.fl [.q lJ]))=Value.agg (aB [At.q lJ]).toArray from rfl,←RS];exact h
theorem CD (w:World):bC prog 80 (.one (.fl [.q bX,.q bY])) [] w:=by
 have h:=aG aQ (fun _ _=>hJ) (aT _) func80 QK trivial (w:=w) (args:=[]) trivial;unfold bC;rw[show RV.den (.one (.fl [.q bX,.q bY]))=Value.agg (aB [At.q bX,.q bY]).toArray from rfl,←OG];exact h
def wK (b c:Bool):Tab:=(((Es b).add 47 Xy).add 48 (Qm c)).add 36 (g0 (.one (.fl [.q lJ])))
theorem tB (b c:Bool):TabOk prog (wK b c):=(((Ik b).add func47 (by kernel_rfl) (by kernel_rfl) Wx).add func48 (by kernel_rfl) (by kernel_rfl) (Sc c)).add func36 (by kernel_rfl) (by kernel_rfl) (nA sZ)
theorem Pv (p:NP) (n:Nat):bR prog (qG prog) (fun n=>⟨fun _=>wK false true,fun _=>true,fun _=>none⟩) f79 60 [.v (.fl [.q p.1,.q p.2]),.v (.fl [.q n])]=some ([p.1<aO,p.2<aO,oB p.1 p.2=false],.many [.fl kX,.im (.int .i64 41)]):=by kernel_rfl
theorem Pu (p:NP) (n:Nat):bR prog (qG prog) (fun n=>⟨fun _=>wK true true,fun _=>true,fun _=>none⟩) f79 60 [.v (.fl [.q p.1,.q p.2]),.v (.fl [.q n])]=some ([p.1<aO,p.2<aO,oB p.1 p.2=true,p.1<RM,p.2<RM,1<RM,(uG (p.1,p.2,1) n).1<RM,(uG (p.1,p.2,1) n).2.1<RM,(uG (p.1,p.2,1) n).2.2<RM,(uG (p.1,p.2,1) n).2.2≠0],gF (kV p n) 0):=by kernel_rfl
theorem Sx (p:NP):bR prog (qG prog) (fun n=>⟨fun _=>wK false true,fun _=>true,fun _=>none⟩) f26 60 [.v (.fl [.q p.1,.q p.2])]=some ([p.1<aO,p.2<aO,oB p.1 p.2=false],.one (.im (.int .i64 41))):=by kernel_rfl
theorem Sv (p:NP):bR prog (qG prog) (fun n=>⟨fun _=>wK true true,fun _=>true,fun _=>none⟩) f26 60 [.v (.fl [.q p.1,.q p.2])]=some ([p.1<aO,p.2<aO,oB p.1 p.2=true,p.1<RM,p.2<RM,1<RM,(uG (p.1,p.2,1) lJ).1<RM,(uG (p.1,p.2,1) lJ).2.1<RM,(uG (p.1,p.2,1) lJ).2.2<RM,nP (uG (p.1,p.2,1) lJ)=true],.one (.im (.int .i64 0))):=by kernel_rfl
theorem Sw (p:NP):bR prog (qG prog) (fun n=>⟨fun _=>wK true false,fun _=>true,fun _=>none⟩) f26 60 [.v (.fl [.q p.1,.q p.2])]=some ([p.1<aO,p.2<aO,oB p.1 p.2=true,p.1<RM,p.2<RM,1<RM,(uG (p.1,p.2,1) lJ).1<RM,(uG (p.1,p.2,1) lJ).2.1<RM,(uG (p.1,p.2,1) lJ).2.2<RM,nP (uG (p.1,p.2,1) lJ)=false],.one (.im (.int .i64 111))):=by kernel_rfl
theorem ER (p:NP) (n:Nat) (hp:w2 p) (args:List Value) (w:World) (ha:cH w [.v (.fl (q2 p)),.v (.fl (q1 n))] args):bC prog 79 (if oB p.1 p.2=true then gF (kV p n) 0 else gF (0,0) 41) args w:=by
 cases h:oB p.1 p.2
 ·exact aG aQ (fun _ _=>tB _ _) (aT _) func79 (Pv p n) ⟨hp.1,hp.2,h,trivial⟩ ha
 ·have h1:=sC.1 h;have hr:=rU (tL h1) n;exact aG aQ (fun _ _=>tB _ _) (aT _) func79 (Pu p n) ⟨hp.1,hp.2,h,h1.1.1,h1.1.2,dG,hr.x,hr.y,hr.z,hr.nz,trivial⟩ ha
def eE (p:NP):Int:=if oB p.1 p.2=true then (if nP (uG (p.1,p.2,1) lJ)=true then 0 else 111)else 41
theorem nT (p:NP) (hp:w2 p) (args:List Value) (w:World) (ha:cH w [.v (.fl (q2 p))] args):bC prog 26 (.one (.im (.int .i64 (eE p)))) args w:=by
 unfold eE;cases h:oB p.1 p.2
 ·exact aG aQ (fun _ _=>tB _ _) (aT _) func26 (Sx p) ⟨hp.1,hp.2,h,trivial⟩ ha
 ·have h1:=sC.1 h;have hr:=rU (tL h1) lJ;rw[if_pos rfl];cases h2:nP (uG (p.1,p.2,1) lJ)
  ·exact aG aQ (fun _ _=>tB _ _) (aT _) func26 (Sw p) ⟨hp.1,hp.2,h,h1.1.1,h1.1.2,dG,hr.x,hr.y,hr.z,h2,trivial⟩ ha
  ·exact aG aQ (fun _ _=>tB _ _) (aT _) func26 (Sv p) ⟨hp.1,hp.2,h,h1.1.1,h1.1.2,dG,hr.x,hr.y,hr.z,h2,trivial⟩ ha
theorem PC:wv lJ=lJ:=by kernel_rfl
theorem yL {p:NP} (h:OnJ p.1 p.2):eE p=if kQ.grp.ns lJ (jp h)=kQ.grp.zero then 0 else 111:=by
 unfold eE;rw[if_pos (IU h)];have hr:=rU (tL h) lJ;rw[PC]at hr
 by_cases e:kQ.grp.ns lJ (jp h)=kQ.grp.zero
 ·rw[if_pos e,if_pos ((BC hr).2 e)]
 ·rw[if_neg e,if_neg fun q=>e ((BC hr).1 q)]
theorem BW {p:NP} (h:¬OnJ p.1 p.2):eE p=41:=by
 unfold eE;rw[if_neg fun q=>h (sC.1 q)]
theorem BU:cj kQ.grp.zero=(0,1):=rfl
theorem Qr {a b c d:Nat} (ha:a<RM) (hb:b<RM) (hc:c<RM) (hd:d<RM):aB [At.q a,.q b]=aB [At.q c,.q d]↔a=c∧b=d:=by
 constructor
 ·intro h;have h:aB [At.q a]++aB [At.q b]=aB [At.q c]++aB [At.q d]:=h;obtain⟨h1,h2⟩:=List.append_inj h rfl;exact⟨Dt ha hc h1,Dt hb hd h2⟩
 ·rintro⟨rfl,rfl⟩; rfl
theorem rF (P:JP):(cj P).1<RM∧(cj P).2<RM:=⟨P.1.1.2,P.1.2.2⟩
theorem Lc {P Q:JP} (h:cj P=cj Q):P=Q:=Subtype.ext (Prod.ext (Fin.ext (congrArg Prod.fst h)) (Fin.ext (congrArg Prod.snd h)))
theorem Bi {P Q:JP}:aB [At.q (cj P).1,.q (cj P).2]=aB [At.q (cj Q).1,.q (cj Q).2]↔P=Q :=
 ⟨fun h=>Lc (Prod.ext ((Qr (rF P).1 (rF P).2 (rF Q).1 (rF Q).2).1 h).1 ((Qr (rF P).1 (rF P).2 (rF Q).1 (rF Q).2).1 h).2),fun h=>by rw[h]⟩
def b8 (n k:Nat):At:=.c (.int .u8 (Int.ofNat (bE n k)))
def bl (n:Nat):List At:=[b8 n 0,b8 n 1,b8 n 2,b8 n 3,b8 n 4,b8 n 5,b8 n 6,b8 n 7,b8 n 8,b8 n 9,b8 n 10,b8 n 11,b8 n 12,b8 n 13,b8 n 14,b8 n 15,b8 n 16,b8 n 17,b8 n 18,b8 n 19,b8 n 20,b8 n 21,b8 n 22,b8 n 23,b8 n 24,b8 n 25,b8 n 26,b8 n 27,b8 n 28,b8 n 29,b8 n 30,b8 n 31]
theorem Ca (n:Nat):∀k,k<32→(aB (bl n))[k]?=some (.int .u8 (Int.ofNat (bE n k)))
 | 0,_=>by kernel_rfl
 | 1,_=>by kernel_rfl
 | 2,_=>by kernel_rfl
 | 3,_=>by kernel_rfl
 | 4,_=>by kernel_rfl
 | 5,_=>by kernel_rfl
 | 6,_=>by kernel_rfl
 | 7,_=>by kernel_rfl
 | 8,_=>by kernel_rfl
 | 9,_=>by kernel_rfl
 | 10,_=>by kernel_rfl
 | 11,_=>by kernel_rfl
 | 12,_=>by kernel_rfl
 | 13,_=>by kernel_rfl
 | 14,_=>by kernel_rfl
 | 15,_=>by kernel_rfl
 | 16,_=>by kernel_rfl
 | 17,_=>by kernel_rfl
 | 18,_=>by kernel_rfl
 | 19,_=>by kernel_rfl
 | 20,_=>by kernel_rfl
 | 21,_=>by kernel_rfl
 | 22,_=>by kernel_rfl
 | 23,_=>by kernel_rfl
 | 24,_=>by kernel_rfl
 | 25,_=>by kernel_rfl
 | 26,_=>by kernel_rfl
 | 27,_=>by kernel_rfl
 | 28,_=>by kernel_rfl
 | 29,_=>by kernel_rfl
 | 30,_=>by kernel_rfl
 | 31,_=>by kernel_rfl
 | k+32,h=>absurd h (by omega)
theorem Tf (n:Nat):eS (bl n)=32:=by kernel_rfl
theorem VL {w:World} {b n:Nat} (h:∀k,k<32→w.cell? ⟨b,k,none⟩=some (.int .u8 (bE n k:Nat))):w.rangeAt b 0 (aB (bl n)):=fun j v hj=>by
 have hlt:j<32:=by have:=(List.getElem?_eq_some_iff.1 hj).1; rwa [aJ,Tf]at this
 rw[Nat.zero_add,h j hlt,←hj,Ca n j hlt];rfl
def Aa:List CA→Option (List Prop×FS)
 | [.v (.fl l)]=>match jV l with
  | some n=>some ([],⟨bl (wv n),32,5,1,true,[],[]⟩)
  | none=>none
 | _=>none
theorem JM:∀cs pre r,Aa cs=some (pre,r)→aS pre→∀(args:List Value) (w:World),cH w cs args→Calls prog 16 args.toArray w (fun e w'=>r.ok w e w'):=by
 intro cs pre r hg hp args w ha;unfold Aa at hg;split at hg
 ·rename_i l;split at hg
  ·rename_i n hn;cases hg;rw[VR ha,bQ l _ hn];refine (rO _ _ _ _ (cP n) w).mono ?_
   rintro e w' ⟨b,cap,rfl,h1,h2,h3,h4,h5,h6⟩
   exact⟨b,cap,rfl,h4,h1,h2,VL h3,h5,fun _=>h6⟩
  ·cases hg
 ·cases hg
def x3 (T:Tab3) (T4:Tab4) (gen:Nat→Option Value) (mks:Nat→Option (Nat×List At)):Ext:={ Ext.none with T3:=T,T4:=T4,gen:=gen,mks:=mks }
def Ty (op:BinOp) (t:Nat) (x y:Operand) (v u r:Value):Prop:=∀w:World,(do eqGuard op t x y v u; binOp op t v u:Sem Value).run prog w=.ok r w
theorem VO {t:Nat} {x y:Operand} {a b:Nat} (ha:a<256) (hb:b<256):Ty .or t x y (.int .u8 (Int.ofNat a)) (.int .u8 (Int.ofNat b)) (.int .u8 (Int.ofNat (a ||| b))):=fun w=>by
 have h:=u8_or_nat a b ha hb;simp only[Int.ofNat_eq_natCast];exact congrArg (fun z=>Result.ok (Value.int .u8 z) w) h
theorem Cc {t:Nat} {x y:Operand} {a b:Nat} (ha:a<256) (hb:b<256):Ty .and t x y (.int .u8 (Int.ofNat a)) (.int .u8 (Int.ofNat b)) (.int .u8 (Int.ofNat (a &&& b))):=fun w=>by
 have h:=u8_and_nat a b ha hb;simp only[Int.ofNat_eq_natCast];exact congrArg (fun z=>Result.ok (Value.int .u8 z) w) h
def QD:List (Nat×TV)→List Fact
 | []=>[]
 | (s,t)::r=>.slot s t.av::QD r
theorem mK:∀{l:List (Nat×TV)} {φ:Fact},φ∈QD l→∃x∈l,φ=.slot x.1 x.2.av
 | x::r,φ,h=>by
  rcases List.mem_cons.1 h with rfl|h
  ·exact⟨x,List.mem_cons_self,rfl⟩
  ·obtain⟨y,h1,h2⟩:=mK h;exact⟨y,List.mem_cons_of_mem _ h1,h2⟩
theorem Holds.fresh {nt base:Nat} {w0:World} {A:List Fact} {a:Act} {w:World} (h:Holds nt base w0 A a w) (l:List (Nat×TV)) (hl:∀x∈l,a.tmps[x.1]?=some x.2.den):Holds nt w.heap.size w (QD l) a w:=by
 refine⟨h.defers,h.size,Below.refl _ _,Nat.le_refl _,fun _=>(w.heap.size,0,0),fun φ hφ => ?_,fun k k' o' l1 l2 h1 => ?_,fun k l1 h1 => ?_,Nat.le_refl _,fun p h1 h2=>⟨rfl,rfl⟩,Shape.refl _⟩
 ·obtain⟨x,hx,rfl⟩:=mK hφ;show a.tmps[x.1]?=_;rw[TV.av_den];exact hl x hx
 ·obtain⟨x,_,e⟩:=mK h1; cases e
 ·obtain⟨x,_,e⟩:=mK h1; cases e
theorem FR.ok.older {r:FR} {w w1 w2:World} {e:Ending} (h:r.ok w1 e w2) (hb:Below w.heap.size w w1):r.ok w e w2:=by
 obtain⟨b,h1,h2,h3,h4⟩:=h;exact⟨b,h1,hb.trans (h2.mono hb.size),Nat.le_trans hb.size h3,h4⟩
def hd (vs:Nat→Value) (j:Nat):List At:=[.c (vs j)]
def HV (w:World) (v:Value) (K:Nat) (vs:Nat→Value):Prop:=∃b o m,v=.slice (some ⟨b,o,none⟩) K m∧b<w.heap.size∧w.rangeAt b o (aB (gO (hd vs) 0 K))
def Fw (K:Nat) (Ns:Nat→Nat):Prop:=∀j,j<K→Ns j≤65536
def Lp (K:Nat) (Ns:Nat→Nat) (fs:Nat→Nat→Nat):Prop:=∀j,j<K→Lr (Ns j) (fs j)
instance (K:Nat) (Ns:Nat→Nat):Decidable (Fw K Ns):=Nat.decidableBallLT K fun j _=>Ns j≤65536
instance (K:Nat) (Ns:Nat→Nat) (fs:Nat→Nat→Nat):Decidable (Lp K Ns fs):=Nat.decidableBallLT K fun j _=>Lr (Ns j) (fs j)
def cV (f:Nat→Nat) (i x:Nat) (j:Nat):Nat:=if j=i then x else f j
structure FQ where
 l:List At
 n:Nat
 l':List At
 n':Nat
def FQ.ok (r:FQ) (w:World) (e:Ending) (w':World):Prop:=∃b b',e=.returned (.tuple #[bW b 0 r.n r.n,bW b' 0 r.n' r.n'])∧Below w.heap.size w w'∧(w.heap.size≤b∧b<w'.heap.size∧w'.rangeAt b 0 (aB r.l)∧∀j,w'.frozen? ⟨b,j,none⟩=false)∧(w.heap.size≤b'∧b'<w'.heap.size∧w'.rangeAt b' 0 (aB r.l')∧∀j,w'.frozen? ⟨b',j,none⟩=false)∧b≠b'
theorem FQ.ok.older {r:FQ} {w w1 w2:World} {e:Ending} (h:r.ok w1 e w2) (hb:Below w.heap.size w w1):r.ok w e w2:=by
 obtain⟨b,b',h1,h2,h3,h4,h5⟩:=h;exact⟨b,b',h1,hb.trans (h2.mono hb.size),⟨Nat.le_trans hb.size h3.1,h3.2⟩,⟨Nat.le_trans hb.size h4.1,h4.2⟩,h5⟩
theorem LV.from {w:World} {b o N m i:Nat} {f:Nat→Nat} (hb:b<w.heap.size) (hr:w.rangeAt b o (aB (gO (el f) 0 N))) (hi:i≤N) (hm:N≤m) (h256:∀j,j<N→f j<aO):LV w (bW b (if m=i then o else o+i*4) (N-i) (m-i)) (N-i) (fun j=>f (i+j)):=by
 refine⟨_,_,rfl,by omega,fun j hj=>h256 _ (by omega),fun h => ?_⟩;rw[if_neg (by omega)];refine⟨b,o+i*4,rfl,hb,?_⟩;have e:gO (el f) 0 N=gO (el f) 0 i++gO (el (fun j=>f (i+j))) 0 (N-i):=by
  have key:∀(n s:Nat),gO (el f) (i+s) n=gO (el (fun j=>f (i+j))) s n:=fun n=>by
   induction n with
   | zero=>intro s; rfl
   | succ n ih =>
    intro s;show el f (i+s)++gO (el f) (i+s+1) n=_;rw[Nat.add_assoc,ih (s+1)];rfl
  have sp:∀(i n s:Nat),i≤n→gO (el f) s n=gO (el f) s i++gO (el f) (s+i) (n-i):=fun i=>by
   induction i with
   | zero=>intro n s _; rfl
   | succ i ih =>
    intro n s h;obtain⟨n,rfl⟩:∃k,n=k+1:=⟨n-1,by omega⟩
    show el f s++gO (el f) (s+1) n=(el f s++gO (el f) (s+1) i)++_;rw[ih n (s+1) (by omega),List.append_assoc,show s+1+i=s+(i+1) by omega,show n+1-(i+1)=n-i by omega]
  rw[sp i N 0 hi,Nat.zero_add,←key (N-i) 0,Nat.add_zero]
 intro j u hj;have h2:=hr (i*4+j) u (by
  rw[e,aL,List.getElem?_append_right (by rw[aJ,mD (c:=4) fun _=>rfl]; omega),aJ,mD (c:=4) fun _=>rfl,Nat.add_sub_cancel_left];exact hj)
 rwa [←Nat.add_assoc]at h2
theorem LV.one {w:World} {b x:Nat} (h:oldOf w b 0 [.q x]) (hx:x<aO):LV w (bW b 0 1 1) 1 (fun _=>x) :=
 ⟨_,_,rfl,Nat.le_refl _,fun _ _=>hx,fun _=>⟨b,0,rfl,h.1,h.2⟩⟩
def KI:Nat→List AV→List Fact
 | _,[]=>[]
 | i,v::r=>.slot i v::KI (i+1) r
theorem CF {base:Nat} {β:Nat→Bk} (a:Act) (w:World):∀(xs:List AV) (i:Nat),(∀j v,xs[j]?=some v→a.tmps[i+j]?=some (v.den β))→∀φ∈KI i xs,φ.ok base β a w
 | [],i,_,φ,h=>by cases h
 | t::r,i,ha,φ,h=>by
  rcases List.mem_cons.1 h with rfl|h
  ·exact ha 0 t rfl
  ·exact CF a w r (i+1) (fun j u hj=>by have:=ha (j+1) u (by simpa using hj); rwa [show i+(j+1)=i+1+j by omega]at this) φ h
theorem wJ:∀(xs:List AV) (i:Nat) (k:Nat) (o:Bool) (l:List At),Fact.row k o l∈KI i xs→False
 | [],i,k,o,l,h=>by cases h
 | t::r,i,k,o,l,h=>by
  rcases List.mem_cons.1 h with h|h
  ·cases h
  ·exact wJ r (i+1) k o l h
def VS (nt b N:Nat) (l:List At) (xs:List AV):List Fact:=.row 0 true l :: .at 0 b :: .at nt N::KI 0 xs
section
variable {P:Program} {w:World} {R:Ending→World→Prop}
theorem NH {f:FuncId} {fn:Func} (hf:P.funcs[f]?=some fn) {c:Code} (hb:fn.body=some c) {b:Nat} {l:List At} {xs:List AV} {vs:List Value} (hx:∀β:Nat→Bk,β 0=(b,0,0)→xs.map (AV.den β)=vs) (hO:Own w b l) (hn:xs.length≤fn.ntmps) (h0n:0<fn.ntmps)
  (h:∀a w',Holds fn.ntmps b w (VS fn.ntmps b w.heap.size l xs) a w'→c.wp P (bodyPost P fn R) a w'):Calls P f vs.toArray w R:=by
 refine calls_of_wp hf hb (h _ _ ?_);have hlen:vs.length=xs.length:=by rw[←hx (fun _=>(b,0,0)) rfl,List.length_map]
 have hg:∀j u,vs[j]?=some u→(vs.toArray++Array.replicate (fn.ntmps-vs.toArray.size) undef)[j]?=some u:=fun j u hj=>by
  have hlt:=(List.getElem?_eq_some_iff.1 hj).1;rw[Array.getElem?_append_left (by simpa using hlt)];simpa using hj
 have hz:(fun k=>if k=fn.ntmps then ((w.heap.size,0,0):Bk)else (b,0,0)) 0=(b,0,0):=if_neg (by omega);have hz2:(fun k=>if k=fn.ntmps then ((w.heap.size,0,0):Bk)else (b,0,0)) fn.ntmps=(w.heap.size,0,0):=if_pos rfl;generalize (fun k=>if k=fn.ntmps then ((w.heap.size,0,0):Bk)else (b,0,0))=β at hz hz2;have h0:∀k o l0,Fact.row k o l0∈VS fn.ntmps b w.heap.size l xs→k=0∧o=true:=fun k o l0 hk=>by
  simp only[VS,List.mem_cons,reduceCtorEq,false_or]at hk
  rcases hk with hk|hk
  ·cases hk; exact⟨rfl,rfl⟩
  ·exact (wJ xs 0 k o l0 hk).elim
 refine⟨rfl,by simp; omega,Below.refl _ _,Nat.le_of_lt hO.lt,β,fun φ hφ => ?_,fun k k' o' l1 l2 h1 h2 hne => ?_,fun k l1 h1=>Or.inl ?_,by rw[hz2]; exact Nat.le_refl _,fun p q1 q2=>⟨rfl,rfl⟩,Shape.refl _⟩
 ·simp only[VS,List.mem_cons]at hφ
  rcases hφ with rfl|rfl|rfl|hφ
  ·exact⟨by rw[hz]; exact hO.lt,by rw[hz]; exact hO.row,fun _=>⟨by rw[hz]; exact Nat.le_refl _,by rw[hz],by rw[hz]; exact hO.free⟩,fun h=>by cases h⟩
  ·exact⟨by rw[hz],by rw[hz]⟩
  ·exact⟨by rw[hz2],by rw[hz2]⟩
  ·refine CF _ _ xs 0 (fun j v hj => ?_) φ hφ;rw[Nat.zero_add];exact hg j _ (by rw[←hx β hz,List.getElem?_map,hj]; rfl)
 ·exact (hne ((h0 k true l1 h1).1.trans (h0 k' o' l2 h2).1.symm)).elim
 ·rw[(h0 k true l1 h1).1,hz]
end
def bj (f:Nat→Nat):List At:=[.c (.int .u8 (Int.ofNat (f 0))),.c (.int .u8 (Int.ofNat (f 1))),.c (.int .u8 (Int.ofNat (f 2))),.c (.int .u8 (Int.ofNat (f 3))),.c (.int .u8 (Int.ofNat (f 4))),.c (.int .u8 (Int.ofNat (f 5))),.c (.int .u8 (Int.ofNat (f 6))),.c (.int .u8 (Int.ofNat (f 7))),.c (.int .u8 (Int.ofNat (f 8))),.c (.int .u8 (Int.ofNat (f 9))),.c (.int .u8 (Int.ofNat (f 10))),.c (.int .u8 (Int.ofNat (f 11))),.c (.int .u8 (Int.ofNat (f 12))),.c (.int .u8 (Int.ofNat (f 13))),.c (.int .u8 (Int.ofNat (f 14))),.c (.int .u8 (Int.ofNat (f 15))),.c (.int .u8 (Int.ofNat (f 16))),.c (.int .u8 (Int.ofNat (f 17))),.c (.int .u8 (Int.ofNat (f 18))),.c (.int .u8 (Int.ofNat (f 19))),.c (.int .u8 (Int.ofNat (f 20))),.c (.int .u8 (Int.ofNat (f 21))),.c (.int .u8 (Int.ofNat (f 22))),.c (.int .u8 (Int.ofNat (f 23))),.c (.int .u8 (Int.ofNat (f 24))),.c (.int .u8 (Int.ofNat (f 25))),.c (.int .u8 (Int.ofNat (f 26))),.c (.int .u8 (Int.ofNat (f 27))),.c (.int .u8 (Int.ofNat (f 28))),.c (.int .u8 (Int.ofNat (f 29))),.c (.int .u8 (Int.ofNat (f 30))),.c (.int .u8 (Int.ofNat (f 31)))]
def dM (f:Nat→Nat):Nat→Nat:=fun k=>f (31-k)
def QJ:Code:=(f28.body).getD .skip
theorem Fx (f:Nat→Nat) (b N m:Nat):bJ prog (qG prog) f28.ntmps (fun _=>⟨fun _=>T0,fun _=>true,fun _=>none⟩) 80 QJ (VS f28.ntmps b N (bj f) [.sl 0 0 32 m]) [.row 0 true (bj (dM f)),.at 0 b,.at f28.ntmps N]=some ([],.nrm,[.row 0 true (bj (dM f)),.at 0 b,.at f28.ntmps N]):=by kernel_rfl
theorem QH {w:World} {b:Nat} {f:Nat→Nat} (m:Nat) (hO:Own w b (bj f)):Calls prog 28 #[bW b 0 32 m] w (VW b w (.many []) (bj (dM f))):=by
 have hG:dC prog (qG prog) b w:=(aT _).w _ _;have hT:∀n d:Nat,TabOkW prog T0 b w:=fun _ _=>(dV _).w _ _
 refine NH func28 (xs:=[.sl 0 0 32 m]) (vs:=[bW b 0 32 m]) (c:=QJ) rfl (fun β e0=>by simp[AV.den,e0,bW]) hO (Nat.le_of_ble_eq_true (by kernel_rfl)) (by decide) fun a w' hA => ?_
 refine aE aQ hT hG (Fx f b w.heap.size m) trivial hA fun a w1 hA => ?_
 obtain⟨q1,q2⟩:=hA.wrc (List.mem_of_getElem? (i:=0) rfl) (List.mem_of_getElem? (i:=1) rfl) (List.mem_of_getElem? (i:=2) rfl);have hres:(results f28 a.tmps).run prog w1=.ok (.tuple #[]) w1:=by
  show ((f28.results.mapM (lG a.tmps)) >>= fun vs=>pure (if h:vs.size=1 then vs[0]else .tuple vs):Sem Value).run prog w1=_;have hr:f28.results = #[]:=rfl;rw[hr];simp
 exact⟨hA.defers,.tuple #[],hres,rfl,q1,q2⟩
def Yb (f:Nat→Nat) (b:Nat) (row:List At):List CB→Option (List Prop×RV×List At)
 | [.sl o n m]=>some ([o=0,n=32,aB row=aB (bj f)],.many [],bj (dM f))
 | _=>none
def B6 (f:Nat→Nat):Tab6:=Ev.add 28 (Yb f)
theorem Ey (f:Nat→Nat):PbOk prog (B6 f):=(mI _).add func28 (by kernel_rfl) (by kernel_rfl) fun b row cs pre r l hg hp args w h1 h2 h3 h4=>by
 unfold Yb at hg;split at hg
 ·rename_i o n m;cases hg;obtain⟨rfl,rfl,hr,_⟩:=hp
  match args,h4 with
  | [v],h4 =>
   have e:v=bW b 0 32 m:=h4.1;subst e;exact QH m ⟨h1,hr▸h2,h3⟩
  | [],h4=>exact h4.elim
  | _::_::_,h4=>exact h4.2.elim
 ·cases hg
end Go.Proofs.YtpjlhhpjpnacmaaGreat.Ex
namespace Go.Proofs.YtpjlhhpjpnacmaaGreat
open Go.Proofs.Tryz
open Go.RowKit
def Cq (A:Nat) (w:World) (e:Ending) (w':World):Prop :=
 ∃b:Nat,e=.returned (.tuple #[.slice (some ⟨b,0,none⟩) 32 32,.int .i64 0])∧w.heap.size≤b∧b<w'.heap.size∧RowB w' b 32 (bE A)∧Below w.heap.size w w'∧∀j,w'.frozen? ⟨b,j,none⟩=false
set_option maxHeartbeats 2000000 in
theorem FN (f:Int) (F:FC) (hf:FieldIs f F) (a0 a1 a2 a3:Nat) (ha:aZ a0 a1 a2 a3) (la:aA a0 a1 a2 a3<F.M) (w:World) :
  Calls prog 27 #[.int .i64 f,.agg #[.int .u64 a0,.int .u64 a1,.int .u64 a2,.int .u64 a3]] w (Cq (aA a0 a1 a2 a3) w):=by
 go_enter func27,ntmps27
 go_wp2_with fail;refine (dL f F hf _).mono ?_
 rintro e w1 ⟨rfl,hbl⟩
 have M1:=((Mem.nil w).new (w.heap.size) a0 a1 a2 a3 24 (by simp)).on hbl;clear hbl;have z0:w.heap.size<w1.heap.size:=M1.lt (c0:=a0) (c1:=a1) (c2:=a2) (c3:=a3) (by simp);have HM:=Lib.hid (M1.on ((Below.refl _ _).alloc (Nat.le_refl _) (.cells #[.int .u64 F.m0,.int .u64 F.m1,.int .u64 F.m2,.int .u64 F.m3,.int .u64 F.inv,.int .u64 F.s0,.int .u64 F.s1,.int .u64 F.s2,.int .u64 F.s3] 87)));have KK:=Lib.hid (KIs.new w1 F 87);have kr:=M1.row (b:=w.heap.size) (c0:=a0) (c1:=a1) (c2:=a2) (c3:=a3) (by simp);have x0:=kr.c0; have x1:=kr.c1; have x2:=kr.c2; have x3:=kr.c3;clear kr;have xl:=M1.lt (b:=w.heap.size) (c0:=a0) (c1:=a1) (c2:=a2) (c3:=a3) (by simp);go_wp2_with fail;refine (cO F hf.ok w1.heap.size a0 a1 a2 a3 ha _ KK.out).mono ?_
 rintro e w2 ⟨he,hbl⟩
 rw[show tN (aA a0 a1 a2 a3) F.M=true from decide_eq_true la]at he;subst he;have HM':=Lib.hid (HM.out.on hbl);have KK':=Lib.hid (KK.out.same hbl);have zk:=KK'.out.lt;clear HM KK hbl M1;have HM:=HM';have KK:=KK';clear HM' KK';clear x0 x1 x2 x3 xl zk;have kr:=HM.out.row (b:=w.heap.size) (c0:=a0) (c1:=a1) (c2:=a2) (c3:=a3) (by simp);have x0:=kr.c0; have x1:=kr.c1; have x2:=kr.c2; have x3:=kr.c3;clear kr;have xl:=HM.out.lt (b:=w.heap.size) (c0:=a0) (c1:=a1) (c2:=a2) (c3:=a3) (by simp);go_wp2_with fail;have hsz:w.heap.size≤w2.heap.size:=HM.out.1.size;refine (pL a0 a1 a2 a3 ha _).mono ?_
 rintro e w4 ⟨bb,rfl,h1,h2,h3,hbl,hff⟩
 have HF:=Lib.hid hff;clear hff;have H3:=Lib.hid h3;clear h3;have HM':=Lib.hid (HM.out.on hbl);have KK':=Lib.hid (KK.out.same hbl);have zk:=KK'.out.lt;clear HM KK hbl;have HM:=HM';have KK:=KK';clear HM' KK';clear x0 x1 x2 x3 xl zk;go_wp2_with fail
 go_ret2
 exact⟨bb,rfl,by omega,h2,H3.out,HM.out.1,HF.out⟩
namespace Ex
theorem mT (f:Nat→Nat):∀k,k<32→(aB (bj f))[k]?=some (.int .u8 (Int.ofNat (f k)))
 | 0,_=>by kernel_rfl
 | 1,_=>by kernel_rfl
 | 2,_=>by kernel_rfl
 | 3,_=>by kernel_rfl
 | 4,_=>by kernel_rfl
 | 5,_=>by kernel_rfl
 | 6,_=>by kernel_rfl
 | 7,_=>by kernel_rfl
 | 8,_=>by kernel_rfl
 | 9,_=>by kernel_rfl
 | 10,_=>by kernel_rfl
 | 11,_=>by kernel_rfl
 | 12,_=>by kernel_rfl
 | 13,_=>by kernel_rfl
 | 14,_=>by kernel_rfl
 | 15,_=>by kernel_rfl
 | 16,_=>by kernel_rfl
 | 17,_=>by kernel_rfl
 | 18,_=>by kernel_rfl
 | 19,_=>by kernel_rfl
 | 20,_=>by kernel_rfl
 | 21,_=>by kernel_rfl
 | 22,_=>by kernel_rfl
 | 23,_=>by kernel_rfl
 | 24,_=>by kernel_rfl
 | 25,_=>by kernel_rfl
 | 26,_=>by kernel_rfl
 | 27,_=>by kernel_rfl
 | 28,_=>by kernel_rfl
 | 29,_=>by kernel_rfl
 | 30,_=>by kernel_rfl
 | 31,_=>by kernel_rfl
 | k+32,h=>absurd h (by omega)
theorem VM {w:World} {b:Nat} {f:Nat→Nat} (h:∀k,k<32→w.cell? ⟨b,k,none⟩=some (.int .u8 (f k:Nat))):w.rangeAt b 0 (aB (bj f)):=fun j v hj=>by
 have hlt:j<32:=by
  have h1:=(List.getElem?_eq_some_iff.1 hj).1
  rwa [aJ,show eS (bj f)=32 by kernel_rfl]at h1
 rw[Nat.zero_add,h j hlt,←hj,mT f j hlt];rfl
def Js:List CA→Option (List Prop×FR)
 | [.v (.im (.int .i64 2)),.v (.fl l)]=>match jV l with
  | some x=>some ([x<RM],⟨bj (bE x),32,32,[.im (.int .i64 0)]⟩)
  | none=>none
 | _=>none
theorem Af:∀cs pre r,Js cs=some (pre,r)→aS pre→∀(args:List Value) (w:World),cH w cs args→Calls prog 27 args.toArray w (fun e w'=>r.ok w e w'):=by
 intro cs pre r hg hp args w ha;unfold Js at hg;split at hg
 ·rename_i l;split at hg
  ·rename_i x hx;cases hg
   match args,ha with
   | [t,v],ha =>
    have h1:t=.int .i64 2:=ha.1;have h2:v=.agg (aB l).toArray:=ha.2.1;rw[bQ l x hx]at h2;subst h1; subst h2;refine (FN 2 _ kF _ _ _ _ (cP x) (by rw[iM hp.1]; exact hp.1) w).mono ?_
    rintro e w' ⟨b,rfl,h1,h2,h3,h4,h5⟩
    rw[iM hp.1]at h3;exact⟨b,rfl,h4,h1,h2,VM fun k hk=>(h3 k hk).1,h5⟩
   | [],ha=>exact ha.elim
   | [_],ha=>exact ha.2.elim
   | _::_::_::_,ha=>exact ha.2.2.elim
  ·cases hg
 ·cases hg
def Yx:Tab2:=WL.add 27 Js
theorem Lx:FrOk prog Yx:=(qN _).add func27 (by kernel_rfl) (by kernel_rfl) Af
end Ex
end Go.Proofs.YtpjlhhpjpnacmaaGreat
namespace Go.Proofs.YtpjlhhpjpnacmaaGreat.Ex
open Go.Proofs.Tryz
open Go.RowKit
def Ac:gP
 | [.v (.im v)]=>some ([],.one (.im v))
 | _=>none
def Gy (b:Bool) (p:NP):RV:=bif b then gF p 0 else gF (0,0) 41
def Ql (b:Bool):gP:=g2 WF jV fun p n=>([p.1<aO,p.2<aO,oB p.1 p.2=b],Gy b (kV p n))
def Aj (c:Int):gP:=g1 WF fun p=>([p.1<aO,p.2<aO,eE p=c],.one (.im (.int .i64 c)))
theorem XY {b:Bool} {c:Bool} {p:NP} (h:c=b):(if c=true then gF p 0 else gF (0,0) 41)=Gy b p:=by
 subst h; cases c<;>rfl
theorem Ad {f:FuncId} (h:∀(p:NP) (n:Nat),w2 p→∀(args:List Value) (w:World),cH w [.v (.fl (q2 p)),.v (.fl (q1 n))] args→bC prog f (if oB p.1 p.2=true then gF (kV p n) 0 else gF (0,0) 41) args w) (b:Bool):∀cs pre r,Ql b cs=some (pre,r)→aS pre→∀(args:List Value) (w:World),cH w cs args→bC prog f r args w :=
 vS (op:=fun p n=>([p.1<aO,p.2<aO,oB p.1 p.2=b],Gy b (kV p n))) lF bQ fun p n hp args w ha=>by
  have:=h p n ⟨hp.1,hp.2.1⟩ args w ha;rw[XY hp.2.2.1]at this;exact this
theorem xY {f:FuncId} (h:∀(p:NP),w2 p→∀(args:List Value) (w:World),cH w [.v (.fl (q2 p))] args→bC prog f (.one (.im (.int .i64 (eE p)))) args w) (c:Int):∀cs pre r,Aj c cs=some (pre,r)→aS pre→∀(args:List Value) (w:World),cH w cs args→bC prog f r args w :=
 hZ (op:=fun p=>([p.1<aO,p.2<aO,eE p=c],.one (.im (.int .i64 c)))) lF fun p hp args w ha=>by
  have:=h p ⟨hp.1,hp.2.1⟩ args w ha;rw[hp.2.2.1]at this;exact this
end Go.Proofs.YtpjlhhpjpnacmaaGreat.Ex
