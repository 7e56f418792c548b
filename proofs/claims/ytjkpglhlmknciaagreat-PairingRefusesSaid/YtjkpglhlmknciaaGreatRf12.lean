/- Rf12 -/
import Derived.Test.YtjkpglhlmknciaaGreatRf03
import Derived.Test.YtjkpglhlmknciaaGreatRf11
import Derived.Test.YtjkpglhlmknciaaGreatRf10
import Derived.Test.YtjkpglhlmknciaaGreatRf04
import Derived.Test.YtjkpglhlmknciaaGreatProg
set_option maxRecDepth 100000
set_option linter.unusedVariables false
set_option linter.unusedSimpArgs false
set_option linter.unnecessarySimpa false
noncomputable section
namespace Go.Proofs.YtjkpglhlmknciaaGreat.Ex
open Go.Proofs.Tryz
section
variable {A:Type} {K:CR A} {X Y:A}
def Eqw (K:CR A) (a b:A) (S T:A→Prop):Prop:=(∀s,S s→∃t,T t∧K.mul a s=K.mul b t)∧(∀t,T t→∃s,S s∧K.mul a s=K.mul b t)
theorem Eqw.refl (a:A) (S:A→Prop):Eqw K a a S S:=⟨fun s h=>⟨s,h,rfl⟩,fun s h=>⟨s,h,rfl⟩⟩
theorem Eqw.symm {a b:A} {S T:A→Prop} (h:Eqw K a b S T):Eqw K b a T S :=
 ⟨fun t ht=>by obtain⟨s,hs,e⟩:=h.2 t ht; exact⟨s,hs,e.symm⟩,fun s hs=>by obtain⟨t,ht,e⟩:=h.1 s hs; exact⟨t,ht,e.symm⟩⟩
theorem Eqw.trans {a b c d:A} {S T U:A→Prop} (h:Eqw K a b S T) (g:Eqw K c d T U):Eqw K (K.mul c a) (K.mul b d) S U:=by
 have key:∀s t u,K.mul a s=K.mul b t→K.mul c t=K.mul d u→K.mul (K.mul c a) s=K.mul (K.mul b d) u:=fun s t u e f=>by
  rw[K.mul_assoc,e,K.mul_left_comm,f,K.mul_assoc]
 refine⟨fun s hs => ?_,fun u hu => ?_⟩
 ·obtain⟨t,ht,e⟩:=h.1 s hs;obtain⟨u,hu,f⟩:=g.1 t ht;exact⟨u,hu,key s t u e f⟩
 ·obtain⟨t,ht,f⟩:=g.2 u hu;obtain⟨s,hs,e⟩:=h.2 t ht;exact⟨s,hs,key s t u e f⟩
theorem Eqw.op {a b:A} {S T:A→Prop} (x y:A) (h:Eqw K a b S T):Eqw K a b (op K X Y x y S) (op K X Y x y T):=by
 obtain⟨h1,h2⟩:=h;refine⟨?_,?_⟩
 ·rintro z ⟨s,s2,hs,hs2,rfl⟩
  obtain⟨t,ht,e⟩:=h1 s hs;obtain⟨t2,ht2,f⟩:=h1 s2 hs2;exact⟨_,⟨t,t2,ht,ht2,rfl⟩,yC e f⟩
 ·rintro z ⟨t,t2,ht,ht2,rfl⟩
  obtain⟨s,hs,e⟩:=h2 t ht;obtain⟨s2,hs2,f⟩:=h2 t2 ht2;exact⟨_,⟨s,s2,hs,hs2,rfl⟩,yC e f⟩
theorem aJo {b x y k:A} (hY:K.mul Y Y=K.add (K.mul X (K.mul X X)) b) (hy:K.mul y y=K.add (K.mul x (K.mul x x)) b) (hk:K.mul k (K.add y y)=K.one) {S:A→Prop} (h:Idl K S):Eqw K K.one (K.sub X x) (op K X Y x y (op K X Y x (K.neg y) S)) S:=by
 refine⟨?_,?_⟩
 ·rintro _ ⟨_,_,⟨a,bb,ha,hb,rfl⟩,⟨c,d,hc,hd,rfl⟩,rfl⟩
  refine⟨(K.add (K.add (K.add (K.mul (K.sub X x) a) (K.mul (K.sub Y (K.neg y)) bb)) (K.mul (K.sub Y y) c)) (K.mul (K.add (K.add (K.mul X X) (K.mul x X)) (K.mul x x)) d)),h.add _ _ (h.add _ _ (h.add _ _ (h.mul _ _ ha) (h.mul _ _ hb)) (h.mul _ _ hc)) (h.mul _ _ hd),?_⟩;rw[K.one_mul];exact kH (K:=K) (c1:=d) (c2:=(K.neg d)) hY hy (aE K (aW K [X,x,a,Y,y,bb,c,d,b]) ((Z0-Z1)*((Z0-Z1)*Z2+(Z3-(-Z4))*Z5)+(Z3-Z4)*((Z0-Z1)*Z6+(Z3-(-Z4))*Z7)-(Z0-Z1)*((Z0-Z1)*Z2+(Z3-(-Z4))*Z5+(Z3-Z4)*Z6+(Z0*Z0+Z1*Z0+Z1*Z1)*Z7)) (Z7*(Z3*Z3-(Z0*(Z0*Z0)+Z8))+(-Z7)*(Z4*Z4-(Z1*(Z1*Z1)+Z8))) (by kernel_rfl))
 ·intro t ht;refine⟨_,⟨_,_,⟨_,_,h.mul t K.zero ht,h.mul t k ht,rfl⟩,⟨_,_,h.mul t (K.neg k) ht,h.mul t K.zero ht,rfl⟩,rfl⟩,?_⟩;rw[K.one_mul];exact iJ (K:=K) (c1:=(K.mul (K.sub X x) t)) hk (aE K (aW K [X,x,t,Y,y,k]) ((Z0-Z1)*((Z0-Z1)*(RE.zero*Z2)+(Z3-(-Z4))*(Z5*Z2))+(Z3-Z4)*((Z0-Z1)*((-Z5)*Z2)+(Z3-(-Z4))*(RE.zero*Z2))-(Z0-Z1)*Z2) ((Z0-Z1)*Z2*(Z5*(Z4+Z4)-RE.one)) (by kernel_rfl))
theorem aJn {b x1 y1 x2 l:A} (hY:K.mul Y Y=K.add (K.mul X (K.mul X X)) b) (H2:(K.mul l (K.add y1 (K.add y1 (K.mul l (K.sub x2 x1)))))=(K.add (K.add (K.mul x1 x1) (K.mul x1 x2)) (K.mul x2 x2))) (H3:(K.mul y1 y1)=(K.add (K.mul x1 (K.mul x1 x1)) b)) (hk:(∃k,K.mul k (K.add y1 (K.add y1 (K.mul l (K.sub x2 x1))))=K.one)∨(∃k,K.mul k (K.sub x2 x1)=K.one)) {S:A→Prop} (h:Idl K S):Eqw K (K.sub X (K.sub (K.sub (K.mul l l) x1) x2)) (K.sub (K.sub Y y1) (K.mul l (K.sub X x1))) (op K X Y x1 y1 (op K X Y x2 (K.add y1 (K.mul l (K.sub x2 x1))) S)) (op K X Y (K.sub (K.sub (K.mul l l) x1) x2) (K.sub (K.mul l (K.sub x1 (K.sub (K.sub (K.mul l l) x1) x2))) y1) S):=by
 have HC:=NT (X:=X) (Y:=Y) hY H2 H3;refine⟨?_,?_⟩
 ·rintro _ ⟨_,_,⟨a,bb,ha,hb,rfl⟩,⟨c,d,hc,hd,rfl⟩,rfl⟩
  exact⟨_,⟨(K.add (K.add (K.add (K.mul l a) (K.mul (K.add (K.sub X x1) (K.mul l l)) bb)) (K.mul (K.add (K.sub X x2) (K.mul l l)) c)) (K.mul (K.add (K.add (K.add (K.sub (K.sub Y y1) (K.mul l (K.sub X x1))) (K.mul l (K.sub X x1))) (K.mul l (K.sub X x2))) (K.mul l (K.mul l l))) d)),(K.add (K.add (K.add a (K.mul l bb)) (K.mul l c)) (K.mul (K.mul l l) d)),h.add _ _ (h.add _ _ (h.add _ _ (h.mul _ _ ha) (h.mul _ _ hb)) (h.mul _ _ hc)) (h.mul _ _ hd),h.add _ _ (h.add _ _ (h.add _ _ ha (h.mul _ _ hb)) (h.mul _ _ hc)) (h.mul _ _ hd),rfl⟩,iJ (K:=K) (c1:=(K.add (K.add (K.add a (K.mul l bb)) (K.mul l c)) (K.mul (K.mul l l) d))) HC (aE K (aW K [X,l,x1,x2,a,Y,y1,bb,c,d]) ((Z0-(Z1*Z1-Z2-Z3))*((Z0-Z2)*((Z0-Z3)*Z4+(Z5-(Z6+Z1*(Z3-Z2)))*Z7)+(Z5-Z6)*((Z0-Z3)*Z8+(Z5-(Z6+Z1*(Z3-Z2)))*Z9))-(Z5-Z6-Z1*(Z0-Z2))*((Z0-(Z1*Z1-Z2-Z3))*(Z1*Z4+(Z0-Z2+Z1*Z1)*Z7+(Z0-Z3+Z1*Z1)*Z8+(Z5-Z6-Z1*(Z0-Z2)+Z1*(Z0-Z2)+Z1*(Z0-Z3)+Z1*(Z1*Z1))*Z9)+(Z5-(Z1*(Z2-(Z1*Z1-Z2-Z3))-Z6))*(Z4+Z1*Z7+Z1*Z8+Z1*Z1*Z9))) ((Z4+Z1*Z7+Z1*Z8+Z1*Z1*Z9)*((Z0-Z2)*((Z0-Z3)*(Z0-(Z1*Z1-Z2-Z3)))-(Z5-Z6-Z1*(Z0-Z2))*(Z5-(Z1*(Z2-(Z1*Z1-Z2-Z3))-Z6)+Z1*(Z0-(Z1*Z1-Z2-Z3))))) (by kernel_rfl))⟩
 ·rintro _ ⟨u,w,hu,hw,rfl⟩
  have hg:S (K.sub u (K.mul l w)):=h.sub hu (h.mul _ _ hw);have e0:K.mul (K.sub (K.sub Y y1) (K.mul l (K.sub X x1))) (K.add (K.mul (K.sub X (K.sub (K.sub (K.mul l l) x1) x2)) u) (K.mul (K.sub Y (K.sub (K.mul l (K.sub x1 (K.sub (K.sub (K.mul l l) x1) x2))) y1)) w))=K.mul (K.sub X (K.sub (K.sub (K.mul l l) x1) x2)) (K.add (K.mul (K.sub (K.sub Y y1) (K.mul l (K.sub X x1))) (K.sub u (K.mul l w))) (K.mul (K.sub X x1) (K.mul (K.sub X x2) w))) :=
   iJ (K:=K) (c1:=(K.neg w)) HC (aE K (aW K [Y,y1,l,X,x1,x2,u,w]) ((Z0-Z1-Z2*(Z3-Z4))*((Z3-(Z2*Z2-Z4-Z5))*Z6+(Z0-(Z2*(Z4-(Z2*Z2-Z4-Z5))-Z1))*Z7)-(Z3-(Z2*Z2-Z4-Z5))*((Z0-Z1-Z2*(Z3-Z4))*(Z6-Z2*Z7)+(Z3-Z4)*((Z3-Z5)*Z7))) ((-Z7)*((Z3-Z4)*((Z3-Z5)*(Z3-(Z2*Z2-Z4-Z5)))-(Z0-Z1-Z2*(Z3-Z4))*(Z0-(Z2*(Z4-(Z2*Z2-Z4-Z5))-Z1)+Z2*(Z3-(Z2*Z2-Z4-Z5))))) (by kernel_rfl))
  generalize hge:(K.sub u (K.mul l w))=g at hg e0;rw[e0]
  rcases hk with⟨k,hk⟩|⟨k,hk⟩
  ·refine⟨_,⟨_,_,⟨_,_,h.add _ _ (h.mul g (K.mul k (K.add (K.add X x1) x2)) hg) hw,h.mul g K.zero hg,rfl⟩,⟨_,_,h.mul g K.zero hg,h.mul g (K.neg k) hg,rfl⟩,rfl⟩,congrArg (K.mul _) ?_⟩;exact aFm (K:=K) (c1:=(K.mul (K.sub (K.sub Y y1) (K.mul l (K.sub X x1))) g)) (c2:=(K.neg (K.mul k g))) (c3:=(K.mul k g)) (c4:=(K.mul (K.mul k g) (K.sub X x1))) hk hY H3 H2 (aE K (aW K [X,x1,x2,k,g,w,Y,y1,l,b]) ((Z0-Z1)*((Z0-Z2)*(Z3*(Z0+Z1+Z2)*Z4+Z5)+(Z6-(Z7+Z8*(Z2-Z1)))*(RE.zero*Z4))+(Z6-Z7)*((Z0-Z2)*(RE.zero*Z4)+(Z6-(Z7+Z8*(Z2-Z1)))*((-Z3)*Z4))-((Z6-Z7-Z8*(Z0-Z1))*Z4+(Z0-Z1)*((Z0-Z2)*Z5))) ((Z6-Z7-Z8*(Z0-Z1))*Z4*(Z3*(Z7+(Z7+Z8*(Z2-Z1)))-RE.one)+(-(Z3*Z4))*(Z6*Z6-(Z0*(Z0*Z0)+Z9))+Z3*Z4*(Z7*Z7-(Z1*(Z1*Z1)+Z9))+Z3*Z4*(Z0-Z1)*(Z8*(Z7+(Z7+Z8*(Z2-Z1)))-(Z1*Z1+Z1*Z2+Z2*Z2))) (by kernel_rfl))
  ·refine⟨_,⟨_,_,⟨_,_,hw,h.mul g k hg,rfl⟩,⟨_,_,h.mul g (K.neg k) hg,h.mul g K.zero hg,rfl⟩,rfl⟩,congrArg (K.mul _) ?_⟩;exact iJ (K:=K) (c1:=(K.mul (K.sub (K.sub Y y1) (K.mul l (K.sub X x1))) g)) hk (aE K (aW K [X,x1,x2,w,Y,y1,l,k,g]) ((Z0-Z1)*((Z0-Z2)*Z3+(Z4-(Z5+Z6*(Z2-Z1)))*(Z7*Z8))+(Z4-Z5)*((Z0-Z2)*((-Z7)*Z8)+(Z4-(Z5+Z6*(Z2-Z1)))*(RE.zero*Z8))-((Z4-Z5-Z6*(Z0-Z1))*Z8+(Z0-Z1)*((Z0-Z2)*Z3))) ((Z4-Z5-Z6*(Z0-Z1))*Z8*(Z7*(Z2-Z1)-RE.one)) (by kernel_rfl))
theorem aGR (D:Dom K) {v0 vW vR vS l1 l2 m1 m2 la t s:A} (h:K.mul (K.mul v0 (K.mul (K.mul (K.mul vW vR) (K.mul l1 l2)) la)) K.one=K.mul (K.mul (K.mul v0 (K.mul (K.mul vW vS) (K.mul m1 m2))) la) t)
  (h':K.mul (K.mul v0 (K.mul (K.mul (K.mul vW vR) (K.mul l1 l2)) la)) s=K.mul (K.mul (K.mul v0 (K.mul (K.mul vW vS) (K.mul m1 m2))) la) K.one)
  (h0:v0≠K.zero) (hW:vW≠K.zero) (hS:vS≠K.zero) (hm1:m1≠K.zero) (hm2:m2≠K.zero) (hla:la≠K.zero):K.mul t s=K.one∧K.mul vR (K.mul l1 l2)=K.mul t (K.mul vS (K.mul m1 m2)):=by
 have hb:K.mul (K.mul v0 (K.mul (K.mul vW vS) (K.mul m1 m2))) la≠K.zero:=D.2 _ _ (D.2 _ _ h0 (D.2 _ _ (D.2 _ _ hW hS) (D.2 _ _ hm1 hm2))) hla;refine⟨?_,?_⟩
 ·rw[K.mul_one]at h;rw[h,K.mul_assoc]at h';exact nP D hb h'
 ·have hk:K.mul (K.mul v0 vW) la≠K.zero:=D.2 _ _ (D.2 _ _ h0 hW) hla;refine nP D hk ?_;have e1:K.mul (K.mul (K.mul v0 vW) la) (K.mul vR (K.mul l1 l2))=K.mul (K.mul v0 (K.mul (K.mul (K.mul vW vR) (K.mul l1 l2)) la)) K.one:=aE K (aW K [v0,vW,la,vR,l1,l2]) (Z0*Z1*Z2*(Z3*(Z4*Z5))) (Z0*(Z1*Z3*(Z4*Z5)*Z2)*RE.one) (by kernel_rfl);have e2:K.mul (K.mul (K.mul v0 (K.mul (K.mul vW vS) (K.mul m1 m2))) la) t=K.mul (K.mul (K.mul v0 vW) la) (K.mul t (K.mul vS (K.mul m1 m2))):=aE K (aW K [v0,vW,la,vS,m1,m2,t]) (Z0*(Z1*Z3*(Z4*Z5))*Z2*Z6) (Z0*Z1*Z2*(Z6*(Z3*(Z4*Z5)))) (by kernel_rfl);exact e1.trans (h.trans e2)
end
section
variable {R:Type} {K:CR R} {inv:R→R} {b:R}
theorem Eqw.opP {a c:Pol K×Pol K} {S T:Pol K×Pol K→Prop} (h:Eqw (cI K b) a c S T) (p:Pt R):Eqw (cI K b) a c (opP K b p S) (opP K b p T):=by
 cases p with
 | none=>exact h
 | some p=>exact h.op _ _
def ver (K:CR R) (b:R):Pt R→Pol K×Pol K
 | none=>(cI K b).one
 | some p=>(cI K b).sub cX (cc p.1)
open Classical in
def Dh (K:CR R) (inv:R→R) (b:R):Pt R→Pt R→Pol K×Pol K
 | none,q=>ver K b q
 | some p,none=>ver K b (some p)
 | some p,some q=>if p.1=q.1∧K.add p.2 q.2=K.zero then (cI K b).sub cX (cc p.1)else (cI K b).sub ((cI K b).sub cY (cc p.2)) ((cI K b).mul (cc (dN K inv p.1 p.2 q.1 q.2)) ((cI K b).sub cX (cc p.1)))
theorem RR {p q:R×R} (h:p.1=q.1∧K.add p.2 q.2=K.zero):Dh K inv b (some p) (some q)=(cI K b).sub cX (cc p.1):=if_pos h
theorem RQ {p q:R×R} (h:¬(p.1=q.1∧K.add p.2 q.2=K.zero)):Dh K inv b (some p) (some q)=(cI K b).sub ((cI K b).sub cY (cc p.2)) ((cI K b).mul (cc (dN K inv p.1 p.2 q.1 q.2)) ((cI K b).sub cX (cc p.1))):=if_neg h
theorem vM (E:EC K inv b):∀p:Pt R,ver K b p≠(cI K b).zero
 | none=>(kB (K:=K) b E.F).1
 | some p=>aLp E.F _
theorem IP (E:EC K inv b):∀p q:Pt R,Dh K inv b p q≠(cI K b).zero
 | none,q=>vM E q
 | some p,none=>vM E (some p)
 | some p,some q=>by
  by_cases h:p.1=q.1∧K.add p.2 q.2=K.zero
  ·rw[RR h]; exact aLp E.F _
  ·rw[RQ h]; exact aEV E.F _ _ _
theorem lJ (E:EC K inv b) {S:Pol K×Pol K→Prop} (hS:Idl (cI K b) S):∀{p q:Pt R},On K b p→On K b q→Eqw (cI K b) (ver K b (iR K inv p q)) (Dh K inv b p q) (opP K b p (opP K b q S)) (opP K b (iR K inv p q) S)
 | none,_,_,_=>Eqw.refl _ _
 | some _,none,_,_=>Eqw.refl _ _
 | some ⟨x1,y1⟩,some ⟨x2,y2⟩,hp,hq=>by
  by_cases hn:x1=x2∧K.add y1 y2=K.zero
  ·rw[kW hn,RR hn];obtain⟨rfl,hy⟩:=hn;have e:y2=K.neg y1:=by
    apply K.add_cancel (a:=y1);rw[hy,K.add_neg]
   subst e;show Eqw (cI K b) (cI K b).one ((cI K b).sub cX (cc x1)) (op (cI K b) cX cY (cc x1) (cc y1) (op (cI K b) cX cY (cc x1) (cc (K.neg y1)) S)) S;have h0:=E.F.inv _ (E.dbl_ne (E.y_ne hp));rw[Ke b];refine aJo (b:=cc b) (k:=cc (inv (K.add y1 y1))) (aLb b) ?_ ?_ hS
   ·rw[←gO,←gO,←gO,←jD];exact congrArg cc hp
   ·rw[←jD,←gO,K.mul_comm,h0];rfl
  ·rw[jU hn,RQ hn];have h:=xN E hp hq hn;dsimp only at h ⊢;generalize dN K inv x1 y1 x2 y2=l at h;obtain⟨h1,h2,hk⟩:=h;subst h1;show Eqw (cI K b) ((cI K b).sub cX (cc (sx K l x1 x2))) ((cI K b).sub ((cI K b).sub cY (cc y1)) ((cI K b).mul (cc l) ((cI K b).sub cX (cc x1)))) (op (cI K b) cX cY (cc x1) (cc y1) (op (cI K b) cX cY (cc x2) (cc (K.add y1 (K.mul l (K.sub x2 x1)))) S)) (op (cI K b) cX cY (cc (sx K l x1 x2)) (cc (sy K l x1 y1 x2)) S);unfold sy sx;simp only[jD b,gO b,oY b];refine aJn (b:=cc b) (aLb b) ?_ ?_ ?_ hS
   ·have:=congrArg (cc (K:=K)) h2;simpa only[jD b,gO b,oY b]using this
   ·have:=congrArg (cc (K:=K)) hp;simpa only[jD b,gO b,oY b]using this
   ·rcases hk with⟨k,hk⟩|⟨k,hk⟩
    ·refine Or.inl ⟨cc k,?_⟩;have:=congrArg (cc (K:=K)) hk;simpa only[jD b,gO b,oY b,TD b]using this
    ·refine Or.inr ⟨cc k,?_⟩;have:=congrArg (cc (K:=K)) hk;simpa only[jD b,gO b,oY b,TD b]using this
theorem Ox (F:FD K inv) (f:Pol K×Pol K) (h:f≠(cI K b).zero):∃d,dg (nrm b f) d∧((f.2=aY.zero∧∃n,dg f.1 n∧d=n+n)∨3≤d):=by
 have hq:dg (qP b:Pol K) 3:=aMO F b
 by_cases h2:f.2=aY.zero
 ·have h1:f.1≠aY.zero:=fun e=>h (Prod.ext e h2)
  obtain⟨n,hn⟩:=JL _ h1;refine⟨n+n,?_,Or.inl ⟨h2,n,hn,rfl⟩⟩;unfold nrm;rw[h2,aY.mul_zero,aY.mul_zero];show dg (aY.add _ (aY.neg aY.zero)) _;rw[bQ,aY.add_zero];exact jB F hn hn
 ·obtain⟨m,hm⟩:=JL _ h2;have hr:=jB F hq (jB F hm hm)
  by_cases h1:f.1=aY.zero
  ·refine⟨3+(m+m),?_,Or.inr (by omega)⟩;unfold nrm;rw[h1,aY.mul_zero];show dg (aY.add _ _) _;rw[aY.zero_add];exact ST hr
  ·obtain⟨n,hn⟩:=JL _ h1;have hl:=jB F hn hn;have hr':=ST hr
   rcases Nat.lt_or_ge (n+n) (3+(m+m))with q|q
   ·refine⟨3+(m+m),?_,Or.inr (by omega)⟩;show dg (aY.add _ _) _;rw[aY.add_comm];exact tJ hr' fun i hi=>hl.2 i (by omega)
   ·refine⟨n+n,?_,Or.inr (by omega)⟩;exact tJ hl fun i hi=>hr'.2 i (by omega)
theorem Lu (F:FD K inv) {t s:Pol K×Pol K} (h:(cI K b).mul t s=(cI K b).one):∃c,c≠K.zero∧t=cc c:=by
 have D:=kB (K:=K) b F;have ht:t≠(cI K b).zero:=fun e=>by rw[e,(cI K b).zero_mul]at h; exact D.1 h.symm
 have hs:s≠(cI K b).zero:=fun e=>by rw[e,(cI K b).mul_zero]at h; exact D.1 h.symm
 obtain⟨d1,g1,k1⟩:=Ox (b:=b) F t ht;obtain⟨d2,g2,_⟩:=Ox (b:=b) F s hs;have g:=jB F g1 g2;rw[←RJ,h]at g;have o:dg (nrm b (cI K b).one:Pol K) 0:=by
  have e:(nrm b (cI K b).one:Pol K)=aY.one:=by
   show aY.sub (aY.mul aY.one aY.one) (aY.mul (qP b) (aY.mul aY.zero aY.zero))=_;rw[aY.mul_one,aY.mul_zero,aY.mul_zero];show aY.add _ (aY.neg aY.zero)=_;rw[bQ,aY.add_zero]
  rw[e];exact⟨F.ne,fun i hi=>by cases i with|zero=>omega|succ i=>rfl⟩
 have hd:=aFd o g
 rcases k1 with⟨z,n,hn,e⟩|q
 ·have hn0:n=0:=by omega
  subst hn0;refine⟨t.1.1 0,hn.1,Prod.ext (Pol.ext fun i => ?_) z⟩;cases i with
  | zero=>rfl
  | succ i=>exact hn.2 _ (by omega)
 ·omega
theorem aWO (E:EC K inv b) {p q r:Pt R} (hp:On K b p) (hq:On K b q) (hr:On K b r):∃c,c≠K.zero ∧
  (cI K b).mul (ver K b (iR K inv q r)) ((cI K b).mul (Dh K inv b p q) (Dh K inv b (iR K inv p q) r))=(cI K b).mul (cc c) ((cI K b).mul (ver K b (iR K inv p q)) ((cI K b).mul (Dh K inv b q r) (Dh K inv b p (iR K inv q r)))):=by
 have D:=kB (K:=K) b E.F;have hu:=lD (cI K b);have hS:=hp.add E hq;have hR:=hq.add E hr;have hW:=hS.add E hr;have e1:=lJ E (Nj hu r) hp hq;have e2:=lJ E hu hS hr;have e3:=(lJ E hu hq hr).opP p;have e4:=lJ E hu hp hR;rw[←MH E hp hq hr]at e4;have f:=(e1.trans e2).symm.trans (e3.trans e4);have n:=lJ E hu hW.neg hW;rw[DY]at n;have k:=(n.symm.trans (f.opP (MG K (iR K inv (iR K inv p q) r)))).trans n;obtain⟨t,_,h1⟩:=k.1 (cI K b).one trivial;obtain⟨s,_,h2⟩:=k.2 (cI K b).one trivial;have u:=aGR D h1 h2 (vM E _) (vM E _) (vM E _) (IP E _ _) (IP E _ _) (IP E _ _);obtain⟨c,hc,e⟩:=Lu (b:=b) E.F u.1;refine⟨c,hc,?_⟩;rw[←e];exact u.2
end
section
variable {R S:Type} {K:CR R} {L:CR S}
structure Hm (K:CR R) (L:CR S) (φ:R→S):Prop where
 add:∀a b,φ (K.add a b)=L.add (φ a) (φ b)
 mul:∀a b,φ (K.mul a b)=L.mul (φ a) (φ b)
 zero:φ K.zero=L.zero
 one:φ K.one=L.one
def iZ (L:CR S) (φ:R→S) (x:S):Nat→(Nat→R)→S
 | 0,_=>L.zero
 | n+1,f=>L.add (φ (f 0)) (L.mul x (iZ L φ x n (tl f)))
variable {φ:R→S} (H:Hm K L φ) (x:S)
include H
theorem QV:∀(n:Nat) (f:Nat→R),(∀i,f i=K.zero)→iZ L φ x n f=L.zero
 | 0,_,_=>rfl
 | n+1,f,h=>by
  show L.add (φ (f 0)) (L.mul x (iZ L φ x n (tl f)))=_;rw[h 0,H.zero,QV n (tl f) (fun i=>h (i+1)),L.mul_zero,L.add_zero]
theorem DZ:∀(a n:Nat) (f:Nat→R),(∀i,a≤i→f i=K.zero)→a≤n→iZ L φ x n f=iZ L φ x a f
 | 0,n,f,h,_=>QV H x n f (fun i=>h i (Nat.zero_le _))
 | a+1,0,f,h,hn=>absurd hn (by omega)
 | a+1,n+1,f,h,hn=>by
  show L.add _ (L.mul x (iZ L φ x n (tl f)))=L.add _ (L.mul x (iZ L φ x a (tl f)));rw[DZ a n (tl f) (fun i hi=>h (i+1) (by omega)) (by omega)]
theorem GO:∀(n:Nat) (f g:Nat→R),iZ L φ x n (SK K f g)=L.add (iZ L φ x n f) (iZ L φ x n g)
 | 0,_,_=>(L.add_zero _).symm
 | n+1,f,g=>by
  show L.add (φ (K.add (f 0) (g 0))) (L.mul x (iZ L φ x n (SK K (tl f) (tl g))))=L.add (L.add (φ (f 0)) (L.mul x (iZ L φ x n (tl f)))) (L.add (φ (g 0)) (L.mul x (iZ L φ x n (tl g))));rw[GO n,H.add];exact aE L (aW L [φ (f 0),φ (g 0),x,iZ L φ x n (tl f),iZ L φ x n (tl g)]) (Z0+Z1+Z2*(Z3+Z4)) (Z0+Z2*Z3+(Z1+Z2*Z4)) (by kernel_rfl)
theorem Nb:∀(n:Nat) (c:R) (f:Nat→R),iZ L φ x n (fsc K c f)=L.mul (φ c) (iZ L φ x n f)
 | 0,_,_=>(L.mul_zero _).symm
 | n+1,c,f=>by
  show L.add (φ (K.mul c (f 0))) (L.mul x (iZ L φ x n (fsc K c (tl f))))=L.mul (φ c) (L.add (φ (f 0)) (L.mul x (iZ L φ x n (tl f))));rw[Nb n,H.mul,L.mul_add,L.mul_left_comm]
theorem ZT:∀(a:Nat) (f g:Nat→R) (b n:Nat),(∀i,a≤i→f i=K.zero)→(∀i,b≤i→g i=K.zero)→a+b≤n→iZ L φ x n (DO K f g)=L.mul (iZ L φ x a f) (iZ L φ x b g)
 | 0,f,g,b,n,hf,hg,hn=>by
  have e:f=fze K:=funext fun i=>hf i (Nat.zero_le _)
  subst e;rw[QV H x n (DO K (fze K) g) (fun i=>SX K i g)];exact (L.zero_mul _).symm
 | a+1,f,g,b,0,hf,hg,hn=>absurd hn (by omega)
 | a+1,f,g,b,n+1,hf,hg,hn=>by
  have e:tl (DO K f g)=SK K (fsc K (f 0) (tl g)) (DO K (tl f) g):=rfl;show L.add (φ (K.mul (f 0) (g 0))) (L.mul x (iZ L φ x n (tl (DO K f g))))=L.mul (L.add (φ (f 0)) (L.mul x (iZ L φ x a (tl f)))) (iZ L φ x b g);rw[e,GO H,Nb H,ZT a (tl f) g b n (fun i hi=>hf (i+1) (by omega)) hg (by omega),H.mul];have e2:iZ L φ x b g=L.add (φ (g 0)) (L.mul x (iZ L φ x n (tl g))):=(DZ H x b (n+1) g hg (by omega)).symm;rw[e2];exact aE L (aW L [φ (f 0),φ (g 0),x,iZ L φ x n (tl g),iZ L φ x a (tl f)]) (Z0*Z1+Z2*(Z0*Z3+Z4*(Z1+Z2*Z3))) ((Z0+Z2*Z4)*(Z1+Z2*Z3)) (by kernel_rfl)
omit H in
def pB (L:CR S) (φ:R→S) (x:S) (f:Pol K):S:=iZ L φ x (Classical.choose f.2) f.1
theorem qS (f:Pol K) (n:Nat) (h:∀i,n≤i→f.1 i=K.zero):pB L φ x f=iZ L φ x n f.1:=by
 have h':=Classical.choose_spec f.2;unfold pB;generalize Classical.choose f.2=m at h' ⊢;rw[←DZ H x m (m+n) f.1 h' (by omega),←DZ H x n (m+n) f.1 h (by omega)]
theorem tZ (f g:Pol K):pB L φ x (aY.add f g)=L.add (pB L φ x f) (pB L φ x g):=by
 obtain⟨a,ha⟩:=f.2;obtain⟨b,hb⟩:=g.2;rw[qS H x f (a+b) (fun i hi=>ha i (by omega)),qS H x g (a+b) (fun i hi=>hb i (by omega)),←GO H];exact qS H x (aY.add f g) (a+b) (fun i hi=>by show K.add (f.1 i) (g.1 i)=_; rw[ha i (by omega),hb i (by omega),K.add_zero])
theorem qQ (f g:Pol K):pB L φ x (aY.mul f g)=L.mul (pB L φ x f) (pB L φ x g):=by
 obtain⟨a,ha⟩:=f.2;obtain⟨b,hb⟩:=g.2;rw[qS H x f a ha,qS H x g b hb,←ZT H x a f.1 g.1 b (a+b) ha hb (Nat.le_refl _)];exact qS H x (aY.mul f g) (a+b) (fun i hi=>SY K a b f.1 g.1 ha hb i (by omega))
theorem Ic (c:R):pB L φ x (kY c:Pol K)=φ c:=by
 rw[qS H x (kY c) 1 (fun i hi=>by cases i with|zero=>omega|succ i=>rfl)];show L.add (φ c) (L.mul x L.zero)=_;rw[L.mul_zero,L.add_zero]
theorem aLO:pB L φ x (pX:Pol K)=x:=by
 rw[qS H x pX 2 (fun i hi=>by match i,hi with|i+2,_=>rfl)];show L.add (φ K.zero) (L.mul x (L.add (φ K.one) (L.mul x L.zero)))=_;rw[H.zero,H.one,L.mul_zero,L.add_zero,L.mul_one,L.zero_add]
theorem sT:pB L φ x (aY.zero:Pol K)=L.zero:=by
 rw[qS H x aY.zero 0 (fun i hi=>rfl)];rfl
theorem Mz:pB L φ x (aY.one:Pol K)=L.one:=(Ic H x K.one).trans H.one
theorem Na (f:Pol K):pB L φ x (aY.neg f)=L.neg (pB L φ x f):=by
 have h:=tZ H x f (aY.neg f);rw[aY.add_neg,sT H]at h;apply L.add_cancel (a:=pB L φ x f);rw[←h,L.add_neg]
omit H in
def pO (L:CR S) (φ:R→S) (x y:S) (f:Pol K×Pol K):S:=L.add (pB L φ x f.1) (L.mul y (pB L φ x f.2))
variable (y:S) {b:R}
theorem aCb (f g:Pol K×Pol K):pO L φ x y ((cI K b).add f g)=L.add (pO L φ x y f) (pO L φ x y g):=by
 show L.add (pB L φ x (aY.add f.1 g.1)) (L.mul y (pB L φ x (aY.add f.2 g.2)))=_;unfold pO;rw[tZ H,tZ H];exact aE L (aW L [pB L φ x f.1,pB L φ x g.1,y,pB L φ x f.2,pB L φ x g.2]) (Z0+Z1+Z2*(Z3+Z4)) (Z0+Z2*Z3+(Z1+Z2*Z4)) (by kernel_rfl)
theorem aPd:pB L φ x (qP b:Pol K)=L.add (L.mul x (L.mul x x)) (φ b):=by
 unfold qP;rw[tZ H,qQ H,qQ H,Ic H,aLO H]
theorem aCa (hy:L.mul y y=L.add (L.mul x (L.mul x x)) (φ b)) (f g:Pol K×Pol K):pO L φ x y ((cI K b).mul f g)=L.mul (pO L φ x y f) (pO L φ x y g):=by
 show L.add (pB L φ x (aY.add (aY.mul f.1 g.1) (aY.mul (qP b) (aY.mul f.2 g.2)))) (L.mul y (pB L φ x (aY.add (aY.mul f.1 g.2) (aY.mul f.2 g.1))))=_;unfold pO;rw[tZ H,tZ H,qQ H,qQ H,qQ H,qQ H,qQ H,aPd H,←hy];exact aE L (aW L [pB L φ x f.1,pB L φ x g.1,y,pB L φ x f.2,pB L φ x g.2]) (Z0*Z1+Z2*Z2*(Z3*Z4)+Z2*(Z0*Z4+Z3*Z1)) ((Z0+Z2*Z3)*(Z1+Z2*Z4)) (by kernel_rfl)
theorem aBZ (f:Pol K×Pol K):pO L φ x y ((cI K b).neg f)=L.neg (pO L φ x y f):=by
 show L.add (pB L φ x (aY.neg f.1)) (L.mul y (pB L φ x (aY.neg f.2)))=_;unfold pO;rw[Na H,Na H];exact aE L (aW L [pB L φ x f.1,y,pB L φ x f.2]) (-Z0+Z1*(-Z2)) (-(Z0+Z1*Z2)) (by kernel_rfl)
theorem aBX (f g:Pol K×Pol K):pO L φ x y ((cI K b).sub f g)=L.sub (pO L φ x y f) (pO L φ x y g):=by
 show pO L φ x y ((cI K b).add f ((cI K b).neg g))=L.add _ (L.neg _);rw[aCb H,aBZ H]
theorem aJh (c:R):pO L φ x y (cc c:Pol K×Pol K)=φ c:=by
 show L.add (pB L φ x (kY c)) (L.mul y (pB L φ x aY.zero))=_;rw[Ic H,sT H,L.mul_zero,L.add_zero]
theorem aPf:pO L φ x y (cX:Pol K×Pol K)=x:=by
 show L.add (pB L φ x pX) (L.mul y (pB L φ x aY.zero))=_;rw[aLO H,sT H,L.mul_zero,L.add_zero]
theorem aPe:pO L φ x y (cY:Pol K×Pol K)=y:=by
 show L.add (pB L φ x aY.zero) (L.mul y (pB L φ x aY.one))=_;rw[sT H,Mz H,L.mul_one,L.zero_add]
theorem aBY:pO L φ x y ((cI K b).one)=L.one:=by
 show L.add (pB L φ x aY.one) (L.mul y (pB L φ x aY.zero))=_;rw[sT H,Mz H,L.mul_zero,L.add_zero]
end
section
variable {A:Type} {K:CR A}
theorem Zr (D:Dom K) {v0 v l m la t s:A} (h:K.mul (K.mul v0 (K.mul (K.mul v l) la)) K.one=K.mul (K.mul (K.mul v0 (K.mul v m)) la) t)
  (h':K.mul (K.mul v0 (K.mul (K.mul v l) la)) s=K.mul (K.mul (K.mul v0 (K.mul v m)) la) K.one)
  (h0:v0≠K.zero) (hv:v≠K.zero) (hm:m≠K.zero) (hla:la≠K.zero):K.mul t s=K.one∧l=K.mul t m:=by
 have hb:K.mul (K.mul v0 (K.mul v m)) la≠K.zero:=D.2 _ _ (D.2 _ _ h0 (D.2 _ _ hv hm)) hla;refine⟨?_,?_⟩
 ·rw[K.mul_one]at h;rw[h,K.mul_assoc]at h';exact nP D hb h'
 ·have hk:K.mul (K.mul v0 v) la≠K.zero:=D.2 _ _ (D.2 _ _ h0 hv) hla;refine nP D hk ?_;have e1:K.mul (K.mul (K.mul v0 v) la) l=K.mul (K.mul v0 (K.mul (K.mul v l) la)) K.one:=aE K (aW K [v0,v,la,l]) (Z0*Z1*Z2*Z3) (Z0*(Z1*Z3*Z2)*RE.one) (by kernel_rfl);have e2:K.mul (K.mul (K.mul v0 (K.mul v m)) la) t=K.mul (K.mul (K.mul v0 v) la) (K.mul t m):=aE K (aW K [v0,v,la,m,t]) (Z0*(Z1*Z3)*Z2*Z4) (Z0*Z1*Z2*(Z4*Z3)) (by kernel_rfl);exact e1.trans (h.trans e2)
theorem aTq {w i:A} (h:K.mul w i=K.one) (a:A):K.mul (K.mul a (K.mul i i)) (K.mul w w)=a :=
 iJ (K:=K) (c1:=K.mul a (K.add (K.mul w i) K.one)) h (aE K (aW K [a,i,w]) (Z0*(Z1*Z1)*(Z2*Z2)-Z0) (Z0*(Z2*Z1+RE.one)*(Z2*Z1-RE.one)) (by kernel_rfl))
theorem aLA {w i:A} (h:K.mul w i=K.one) (a:A):K.mul (K.mul a (K.mul (K.mul i i) i)) (K.mul (K.mul w w) w)=a :=
 iJ (K:=K) (c1:=K.mul a (K.add (K.add (K.mul (K.mul w i) (K.mul w i)) (K.mul w i)) K.one)) h (aE K (aW K [a,i,w]) (Z0*(Z1*Z1*Z1)*(Z2*Z2*Z2)-Z0) (Z0*(Z2*Z1*(Z2*Z1)+Z2*Z1+RE.one)*(Z2*Z1-RE.one)) (by kernel_rfl))
theorem aTs {a b e q i w3:A} (h:K.mul b b=K.add (K.mul a (K.mul a a)) e) (h2:e=K.mul q (K.mul w3 w3)) (h3:K.mul (K.mul (K.mul i i) i) w3=K.one) :
  K.mul (K.mul b (K.mul (K.mul i i) i)) (K.mul b (K.mul (K.mul i i) i))=K.add (K.mul (K.mul a (K.mul i i)) (K.mul (K.mul a (K.mul i i)) (K.mul a (K.mul i i)))) q :=
 Co (K:=K) (c1:=K.mul (K.mul (K.mul i i) i) (K.mul (K.mul i i) i)) (c2:=K.mul (K.mul (K.mul i i) i) (K.mul (K.mul i i) i)) (c3:=K.mul q (K.add (K.mul (K.mul (K.mul i i) i) w3) K.one)) h h2 h3 (aE K (aW K [a,b,e,q,i,w3])
  (Z1*(Z4*Z4*Z4)*(Z1*(Z4*Z4*Z4))-(Z0*(Z4*Z4)*(Z0*(Z4*Z4)*(Z0*(Z4*Z4)))+Z3))
  (Z4*Z4*Z4*(Z4*Z4*Z4)*(Z1*Z1-(Z0*(Z0*Z0)+Z2))+Z4*Z4*Z4*(Z4*Z4*Z4)*(Z2-Z3*(Z5*Z5))+Z3*(Z4*Z4*Z4*Z5+RE.one)*(Z4*Z4*Z4*Z5-RE.one)) (by kernel_rfl))
theorem aTr {x y B C M X1 Y1 w2 w:A} (hy:K.mul y (K.mul w2 w)=B) (hx:K.mul x w2=C) :
  K.mul (K.sub (K.sub y Y1) (K.mul M (K.sub x X1))) (K.mul w2 w)=K.sub B (K.add (K.mul (K.mul M w) C) (K.mul (K.sub Y1 (K.mul M X1)) (K.mul w2 w))) :=
 kH (K:=K) (c1:=K.one) (c2:=K.neg (K.mul M w)) hy hx (aE K (aW K [x,y,B,C,M,X1,Y1,w2,w])
  ((Z1-Z6-Z4*(Z0-Z5))*(Z7*Z8)-(Z2-(Z4*Z8*Z3+(Z6-Z4*Z5)*(Z7*Z8))))
  (RE.one*(Z1*(Z7*Z8)-Z2)+(-(Z4*Z8))*(Z0*Z7-Z3)) (by kernel_rfl))
theorem aTp {x C X1 w2:A} (hx:K.mul x w2=C):K.mul (K.sub x X1) w2=K.neg (K.sub (K.mul X1 w2) C) :=
 iJ (K:=K) (c1:=K.one) hx (aE K (aW K [x,C,X1,w2]) ((Z0-Z2)*Z3-(-(Z2*Z3-Z1))) (RE.one*(Z0*Z3-Z1)) (by kernel_rfl))
end
section
variable {R:Type} {K:CR R} {inv:R→R} {b:R}
theorem aDw (E:EC K inv b) {p q:Pt R} (hp:On K b p) (hq:On K b q):∃c,c≠K.zero∧Dh K inv b p q=(cI K b).mul (cc c) (Dh K inv b q p):=by
 have D:=kB (K:=K) b E.F;have hu:=lD (cI K b);have hW:=hp.add E hq;have e1:=lJ E hu hp hq;have e2:=lJ E hu hq hp;rw[ZY,ZB E hq hp]at e2;have f:=e1.symm.trans e2;have n:=lJ E hu hW.neg hW;rw[DY]at n;have k:=(n.symm.trans (f.opP (MG K (iR K inv p q)))).trans n;obtain⟨t,_,h1⟩:=k.1 (cI K b).one trivial;obtain⟨s,_,h2⟩:=k.2 (cI K b).one trivial;have u:=Zr D h1 h2 (vM E _) (vM E _) (IP E _ _) (IP E _ _);obtain⟨c,hc,e⟩:=Lu (b:=b) E.F u.1;refine⟨c,hc,?_⟩;rw[←e];exact u.2
end
def wI:aV:=mE wE
theorem aTu:wE≠aD.zero:=by decide
theorem OY:aD.mul wE wI=aD.one:=jY aTu
theorem aNc:wX=aD.mul KV wE:=rfl
def px (a:Fq):aV:=aD.mul (eP a) (aD.mul wI wI)
def py (a:Fq):aV:=aD.mul (eP a) (aD.mul (aD.mul wI wI) wI)
theorem aUB (a:Fq):aD.mul (px a) KV=eP a:=aTq OY (eP a)
theorem aYt (a:Fq):aD.mul (py a) wX=eP a:=aLA OY (eP a)
theorem hmE:Hm F2 aD eQ:=⟨BM,oX,Rb,by decide⟩
theorem aTt:aD.mul (aD.mul (aD.mul wI wI) wI) wX=aD.one:=by
 have h:=aLA OY aD.one;rw[aD.one_mul]at h;exact h
theorem pxy {a:Fq×Fq} (h:On F1 (fm 3) (some a)):aD.mul (py a.2) (py a.2)=aD.add (aD.mul (px a.1) (aD.mul (px a.1) (px a.1))) (eQ dE):=by
 have hp:F1.mul a.2 a.2=F1.add (F1.mul a.1 (F1.mul a.1 a.1)) (fm 3):=h;have hY:aD.mul (eP a.2) (eP a.2)=aD.add (aD.mul (eP a.1) (aD.mul (eP a.1) (eP a.1))) (eP (fm 3)):=by rw[←tI,hp,SP,tI,tI]
 have r:=aTs (K:=aD) (a:=eP a.1) (b:=eP a.2) (e:=eP (fm 3)) (q:=eQ dE) (i:=wI) (w3:=wX) hY Ki.symm aTt;unfold px py;exact r
def zM (a:Fq×Fq) (f:Pol F2×Pol F2):aV:=pO aD eQ (px a.1) (py a.2) f
theorem qJ {a:Fq×Fq} (h:On F1 (fm 3) (some a)) (f g:Pol F2×Pol F2):zM a ((cI F2 dE).mul f g)=aD.mul (zM a f) (zM a g):=by
 unfold zM;exact aCa hmE (px a.1) (py a.2) (pxy h) f g
theorem zP (a:Fq×Fq) (c:Q2):zM a (cc c)=eQ c:=by
 unfold zM;exact aJh hmE (px a.1) (py a.2) c
theorem aRs (x y:Q2):eQ (F2.sub x y)=aD.sub (eQ x) (eQ y):=by
 show eQ (F2.add x (F2.neg y))=aD.add (eQ x) (aD.neg (eQ y));rw[BM,Jv]
theorem DU (a:Fq×Fq) (f g:Pol F2×Pol F2):zM a ((cI F2 dE).sub f g)=aD.sub (zM a f) (zM a g):=by
 unfold zM;exact aBX hmE (px a.1) (py a.2) f g
theorem aLB (a:Fq×Fq):zM a cX=px a.1:=by
 unfold zM;exact aPf hmE (px a.1) (py a.2)
theorem aTv (a:Fq×Fq):zM a cY=py a.2:=by
 unfold zM;exact aPe hmE (px a.1) (py a.2)
theorem aGN (a:Fq×Fq):zM a (cI F2 dE).one=aD.one:=by
 unfold zM;exact aBY hmE (px a.1) (py a.2)
theorem Zo {a:Fq×Fq} (h:On F1 (fm 3) (some a)) (t:Q2×Q2) (l:Q2):aD.mul (zM a ((cI F2 dE).sub ((cI F2 dE).sub cY (cc t.2)) ((cI F2 dE).mul (cc l) ((cI F2 dE).sub cX (cc t.1))))) wX=lT l (hgt F2 l t) a.1 a.2:=by
 have r:=aTr (K:=aD) (x:=px a.1) (y:=py a.2) (B:=eP a.2) (C:=eP a.1) (M:=eQ l) (X1:=eQ t.1) (Y1:=eQ t.2) (w2:=KV) (w:=wE) (by rw[←aNc]; exact aYt a.2) (aUB a.1);rw[←aNc]at r;rw[DU,DU,qJ h,DU,zP,zP,zP,aLB,aTv,NV,show hgt F2 l t=F2.sub t.2 (F2.mul l t.1)from rfl,aRs,oX];exact r
theorem aGM (a:Fq×Fq) (x:Q2):aD.mul (zM a ((cI F2 dE).sub cX (cc x))) KV=aD.neg (vP a.1 x):=by
 have r:=aTp (K:=aD) (X1:=eQ x) (aUB a.1);rw[DU,zP,aLB,FE];exact r
theorem aNe:KV≠aD.zero:=by decide
theorem aNd:wX≠aD.zero:=by decide
theorem aPZ:mC KV=aD.one:=yM (by decide) aNe
theorem aWS:cO wX=aD.neg wX:=by decide
theorem aTz:aD.mul (cU (aD.neg aD.one)) (aD.neg aD.one)=aD.one:=by decide
theorem aPY:mC wX=aD.one:=by
 have e:aD.mul (cO wX) (mE wX)=aD.neg aD.one:=by rw[aWS,aD.neg_mul,jY aNd]
 unfold mC eZ;rw[e,aTz,aEg]
theorem aDq {z w m:aV} (h:aD.mul z w=m) (hm:m≠aD.zero) (hw:w≠aD.zero) (l:mC w=aD.one):z≠aD.zero∧mC z=mC m:=by
 have hz:z≠aD.zero:=fun e=>hm (by rw[←h,e,aD.zero_mul])
 refine⟨hz,?_⟩;rw[←h,dL hz hw,l,aD.mul_comm,aD.one_mul]
theorem vN {a:Fq×Fq} (h:On F1 (fm 3) (some a)):∀t:Pt Q2,zM a (ver F2 dE t)≠aD.zero∧mC (zM a (ver F2 dE t))=aD.one
 | none=>by
  rw[show ver F2 dE none=(cI F2 dE).one from rfl,aGN];exact⟨jJ.1,yN⟩
 | some t=>by
  have n:=mJ (x:=t.1) (oU h);have r:=aDq (aGM a t.1) (uF n) aNe aPZ;rw[qV n,wK (oU h)]at r;exact r
theorem aDv {a:Fq×Fq} (h:On F1 (fm 3) (some a)) {t t':Q2×Q2} (hn:¬(t.1=t'.1∧F2.add t.2 t'.2=F2.zero)):zM a (Dh F2 dW dE (some t) (some t'))≠aD.zero∧mC (zM a (Dh F2 dW dE (some t) (some t')))=mC (lnT t t' a):=by
 rw[RQ hn];have r:=aDq (Zo h t (dN F2 dW t.1 t.2 t'.1 t'.2)) (rV (iM h)) aNd aPY;rw[oS];exact r
theorem Iy {a:Fq×Fq} (h:On F1 (fm 3) (some a)) {t t':Q2×Q2} (hn:t.1=t'.1∧F2.add t.2 t'.2=F2.zero):zM a (Dh F2 dW dE (some t) (some t'))≠aD.zero∧mC (zM a (Dh F2 dW dE (some t) (some t')))=aD.one:=by
 rw[RR hn];exact vN h (some t)
theorem BB {a:Fq×Fq} (h:On F1 (fm 3) (some a)):∀t t':Pt Q2,zM a (Dh F2 dW dE t t')≠aD.zero
 | none,t'=>(vN h t').1
 | some t,none=>(vN h (some t)).1
 | some t,some t'=>by
  by_cases hn:t.1=t'.1∧F2.add t.2 t'.2=F2.zero
  ·exact (Iy h hn).1
  ·exact (aDv h hn).1
def cv (a:Fq×Fq) (t t':Pt Q2):Vq:=lv (zM a (Dh F2 dW dE t t'))
theorem Ci {c:Q2} (h:c≠F2.zero):eQ c≠aD.zero:=fun e=>h (congrArg (fun z:aV=>z.1.1) e)
theorem aWF (c:Q2):cO (eQ c)=eQ c:=Prod.ext rfl (by show F6.sub F6.zero F6.zero=F6.zero; decide)
theorem Iw {c:Q2} (h:c≠F2.zero):mC (eQ c)=aD.one:=yM (aWF c) (Ci h)
theorem aRB {a:Fq×Fq} (h:On F1 (fm 3) (some a)) {p q r:Pt Q2} (hp:On F2 dE p) (hq:On F2 dE q) (hr:On F2 dE r) :
  vg.add (cv a p q) (cv a (iR F2 dW p q) r)=vg.add (cv a q r) (cv a p (iR F2 dW q r)):=by
 obtain⟨c,hc,e⟩:=aWO bC hp hq hr;have e:=congrArg (zM a) e;rw[qJ h,qJ h,qJ h,qJ h,qJ h,zP]at e;have e:=congrArg mC e;have v1:=vN h (iR F2 dW q r);have v2:=vN h (iR F2 dW p q);have n1:=BB h p q;have n2:=BB h (iR F2 dW p q) r;have n3:=BB h q r;have n4:=BB h p (iR F2 dW q r);rw[dL v1.1 (nY n1 n2),dL n1 n2,dL (Ci hc) (nY v2.1 (nY n3 n4)),dL v2.1 (nY n3 n4),dL n3 n4,v1.2,v2.2,Iw hc,aD.one_mul,aD.one_mul,aD.one_mul]at e;refine Subtype.ext ?_;unfold cv;rw[lX,lX,dD n1,dD n2,dD n3,dD n4];exact e
theorem Rj {a:Fq×Fq} (h:On F1 (fm 3) (some a)) {p q:Pt Q2} (hp:On F2 dE p) (hq:On F2 dE q):cv a p q=cv a q p:=by
 obtain⟨c,hc,e⟩:=aDw bC hp hq;have e:=congrArg (zM a) e;rw[qJ h,zP]at e;have e:=congrArg mC e;have n1:=BB h p q;have n2:=BB h q p;rw[dL (Ci hc) n2,Iw hc,aD.one_mul]at e;refine Subtype.ext ?_;unfold cv;rw[dD n1,dD n2];exact e
theorem AY {z:aV} (h:z≠aD.zero∧mC z=aD.one):lv z=vg.zero:=by
 refine Subtype.ext ?_;rw[dD h.1,FB];exact h.2
theorem Cl {a:Fq×Fq} (h:On F1 (fm 3) (some a)) (q:Pt Q2):cv a none q=vg.zero:=AY (vN h q)
theorem aRA {a:Fq×Fq} (h:On F1 (fm 3) (some a)):∀q:Pt Q2,cv a q (MG F2 q)=vg.zero
 | none=>AY (vN h none)
 | some t=>by
  unfold cv;rw[Hs];exact AY (Iy (t':=(t.1,F2.neg t.2)) h ⟨rfl,F2.add_neg _⟩)
theorem yX {a:Fq×Fq} (h:On F1 (fm 3) (some a)) {t t':Q2×Q2} (hn:¬(t.1=t'.1∧F2.add t.2 t'.2=F2.zero)):cv a (some t) (some t')=lv (lnT t t' a):=by
 have r:=aDv h hn;refine Subtype.ext ?_;unfold cv;rw[dD r.1,dD (wM (iM h))];exact r.2
section
variable {R:Type} {K:CR R}
theorem aNY {x y z i j:R} (h1:(K.mul z i)=K.one) (h2:(K.mul (K.add (K.mul y z) (K.mul y z)) j)=K.one):(K.mul (K.mul (K.add (K.add (K.mul x x) (K.mul x x)) (K.mul x x)) j) (K.add (K.mul y (K.mul (K.mul i i) i)) (K.mul y (K.mul (K.mul i i) i))))=(K.add (K.add (K.mul (K.mul x (K.mul i i)) (K.mul x (K.mul i i))) (K.mul (K.mul x (K.mul i i)) (K.mul x (K.mul i i)))) (K.mul (K.mul x (K.mul i i)) (K.mul x (K.mul i i)))) :=
 kH (K:=K) (c1:=(K.neg (K.mul (K.mul (K.add (K.add (K.mul x x) (K.mul x x)) (K.mul x x)) (K.mul i i)) (K.mul (K.add y y) (K.mul j i))))) (c2:=(K.mul (K.add (K.add (K.mul x x) (K.mul x x)) (K.mul x x)) (K.mul (K.mul i i) (K.mul i i)))) h1 h2 (aE K (aW K [x,y,z,i,j]) ((Z0*Z0+Z0*Z0+Z0*Z0)*Z4*(Z1*(Z3*Z3*Z3)+Z1*(Z3*Z3*Z3))-(Z0*(Z3*Z3)*(Z0*(Z3*Z3))+Z0*(Z3*Z3)*(Z0*(Z3*Z3))+Z0*(Z3*Z3)*(Z0*(Z3*Z3)))) ((-((Z0*Z0+Z0*Z0+Z0*Z0)*(Z3*Z3)*((Z1+Z1)*(Z4*Z3))))*(Z2*Z3-RE.one)+(Z0*Z0+Z0*Z0+Z0*Z0)*(Z3*Z3*(Z3*Z3))*((Z1*Z2+Z1*Z2)*Z4-RE.one)) (by kernel_rfl))
theorem aTE {x y z i j:R} (h1:(K.mul z i)=K.one) (h2:(K.mul (K.add (K.mul y z) (K.mul y z)) j)=K.one):(K.mul (K.add (K.add (K.mul x x) (K.mul x x)) (K.mul x x)) (K.mul z z))=(K.mul (K.mul (K.add (K.mul y z) (K.mul y z)) (K.mul z z)) (K.mul (K.add (K.add (K.mul x x) (K.mul x x)) (K.mul x x)) j)) :=
 kH (K:=K) (c1:=K.zero) (c2:=(K.neg (K.mul (K.add (K.add (K.mul x x) (K.mul x x)) (K.mul x x)) (K.mul z z)))) h1 h2 (aE K (aW K [x,y,z,i,j]) ((Z0*Z0+Z0*Z0+Z0*Z0)*(Z2*Z2)-(Z1*Z2+Z1*Z2)*(Z2*Z2)*((Z0*Z0+Z0*Z0+Z0*Z0)*Z4)) (RE.zero*(Z2*Z3-RE.one)+(-((Z0*Z0+Z0*Z0+Z0*Z0)*(Z2*Z2)))*((Z1*Z2+Z1*Z2)*Z4-RE.one)) (by kernel_rfl))
theorem aTF {x y z i j:R} (h1:(K.mul z i)=K.one) (h2:(K.mul (K.add (K.mul y z) (K.mul y z)) j)=K.one):(K.sub (K.mul (K.add (K.add (K.mul x x) (K.mul x x)) (K.mul x x)) x) (K.add (K.mul y y) (K.mul y y)))=(K.mul (K.mul (K.add (K.mul y z) (K.mul y z)) (K.mul z z)) (K.neg (K.sub (K.mul y (K.mul (K.mul i i) i)) (K.mul (K.mul (K.add (K.add (K.mul x x) (K.mul x x)) (K.mul x x)) j) (K.mul x (K.mul i i)))))) :=
 kH (K:=K) (c1:=(K.add (K.neg (K.mul (K.mul (K.add (K.add (K.mul x x) (K.mul x x)) (K.mul x x)) x) (K.add (K.mul z i) K.one))) (K.mul (K.add (K.mul y y) (K.mul y y)) (K.add (K.add (K.mul (K.mul z i) (K.mul z i)) (K.mul z i)) K.one)))) (c2:=(K.neg (K.mul (K.mul (K.add (K.add (K.mul x x) (K.mul x x)) (K.mul x x)) x) (K.mul (K.mul z i) (K.mul z i))))) h1 h2 (aE K (aW K [x,y,z,i,j]) ((Z0*Z0+Z0*Z0+Z0*Z0)*Z0-(Z1*Z1+Z1*Z1)-(Z1*Z2+Z1*Z2)*(Z2*Z2)*(-(Z1*(Z3*Z3*Z3)-(Z0*Z0+Z0*Z0+Z0*Z0)*Z4*(Z0*(Z3*Z3))))) ((-((Z0*Z0+Z0*Z0+Z0*Z0)*Z0*(Z2*Z3+RE.one))+(Z1*Z1+Z1*Z1)*(Z2*Z3*(Z2*Z3)+Z2*Z3+RE.one))*(Z2*Z3-RE.one)+(-((Z0*Z0+Z0*Z0+Z0*Z0)*Z0*(Z2*Z3*(Z2*Z3))))*((Z1*Z2+Z1*Z2)*Z4-RE.one)) (by kernel_rfl))
theorem aRS {x y z u v i j:R} (h1:(K.mul z i)=K.one) (h2:(K.mul (K.mul z (K.sub (K.mul u (K.mul z z)) x)) j)=K.one):(K.mul (K.mul (K.sub (K.mul v (K.mul (K.mul z z) z)) y) j) (K.sub u (K.mul x (K.mul i i))))=(K.sub v (K.mul y (K.mul (K.mul i i) i))) :=
 kH (K:=K) (c1:=(K.add (K.sub (K.neg (K.mul (K.mul (K.mul (K.sub (K.mul v (K.mul (K.mul z z) z)) y) j) u) (K.add (K.mul z i) K.one))) (K.mul (K.mul (K.mul (K.sub (K.mul v (K.mul (K.mul z z) z)) y) j) (K.mul i i)) (K.sub (K.mul u (K.mul z z)) x))) (K.mul v (K.add (K.add (K.mul (K.mul z i) (K.mul z i)) (K.mul z i)) K.one)))) (c2:=(K.mul (K.sub (K.mul v (K.mul (K.mul z z) z)) y) (K.mul (K.mul i i) i))) h1 h2 (aE K (aW K [x,y,z,u,v,i,j]) ((Z4*(Z2*Z2*Z2)-Z1)*Z6*(Z3-Z0*(Z5*Z5))-(Z4-Z1*(Z5*Z5*Z5))) ((-((Z4*(Z2*Z2*Z2)-Z1)*Z6*Z3*(Z2*Z5+RE.one))-(Z4*(Z2*Z2*Z2)-Z1)*Z6*(Z5*Z5)*(Z3*(Z2*Z2)-Z0)+Z4*(Z2*Z5*(Z2*Z5)+Z2*Z5+RE.one))*(Z2*Z5-RE.one)+(Z4*(Z2*Z2*Z2)-Z1)*(Z5*Z5*Z5)*(Z2*(Z3*(Z2*Z2)-Z0)*Z6-RE.one)) (by kernel_rfl))
theorem aWT {x y z u v i j:R} (h1:(K.mul z i)=K.one) (h2:(K.mul (K.mul z (K.sub (K.mul u (K.mul z z)) x)) j)=K.one):(K.sub (K.mul v (K.mul (K.mul z z) z)) y)=(K.mul (K.mul z (K.sub (K.mul u (K.mul z z)) x)) (K.mul (K.sub (K.mul v (K.mul (K.mul z z) z)) y) j)) :=
 kH (K:=K) (c1:=K.zero) (c2:=(K.neg (K.sub (K.mul v (K.mul (K.mul z z) z)) y))) h1 h2 (aE K (aW K [x,y,z,u,v,i,j]) (Z4*(Z2*Z2*Z2)-Z1-Z2*(Z3*(Z2*Z2)-Z0)*((Z4*(Z2*Z2*Z2)-Z1)*Z6)) (RE.zero*(Z2*Z5-RE.one)+(-(Z4*(Z2*Z2*Z2)-Z1))*(Z2*(Z3*(Z2*Z2)-Z0)*Z6-RE.one)) (by kernel_rfl))
theorem aWU {x y z u v i j:R} (h1:(K.mul z i)=K.one) (h2:(K.mul (K.mul z (K.sub (K.mul u (K.mul z z)) x)) j)=K.one):(K.sub (K.mul (K.sub (K.mul v (K.mul (K.mul z z) z)) y) u) (K.mul (K.mul z (K.sub (K.mul u (K.mul z z)) x)) v))=(K.mul (K.mul z (K.sub (K.mul u (K.mul z z)) x)) (K.neg (K.sub (K.mul y (K.mul (K.mul i i) i)) (K.mul (K.mul (K.sub (K.mul v (K.mul (K.mul z z) z)) y) j) (K.mul x (K.mul i i)))))) :=
 kH (K:=K) (c1:=(K.sub (K.sub (K.mul (K.mul u y) (K.add (K.add (K.mul (K.mul z i) (K.mul z i)) (K.mul z i)) K.one)) (K.mul (K.mul (K.mul v x) z) (K.add (K.mul z i) K.one))) (K.mul (K.mul x y) (K.mul i i)))) (c2:=(K.neg (K.mul (K.mul (K.sub (K.mul v (K.mul (K.mul z z) z)) y) x) (K.mul i i)))) h1 h2 (aE K (aW K [x,y,z,u,v,i,j]) ((Z4*(Z2*Z2*Z2)-Z1)*Z3-Z2*(Z3*(Z2*Z2)-Z0)*Z4-Z2*(Z3*(Z2*Z2)-Z0)*(-(Z1*(Z5*Z5*Z5)-(Z4*(Z2*Z2*Z2)-Z1)*Z6*(Z0*(Z5*Z5))))) ((Z3*Z1*(Z2*Z5*(Z2*Z5)+Z2*Z5+RE.one)-Z4*Z0*Z2*(Z2*Z5+RE.one)-Z0*Z1*(Z5*Z5))*(Z2*Z5-RE.one)+(-((Z4*(Z2*Z2*Z2)-Z1)*Z0*(Z5*Z5)))*(Z2*(Z3*(Z2*Z2)-Z0)*Z6-RE.one)) (by kernel_rfl))
theorem aMS {x z i:R} (h1:(K.mul z i)=K.one):(K.mul (K.mul x (K.mul i i)) (K.mul z z))=x :=
 iJ (K:=K) (c1:=(K.mul x (K.add (K.mul z i) K.one))) h1 (aE K (aW K [x,z,i]) (Z0*(Z2*Z2)*(Z1*Z1)-Z0) (Z0*(Z1*Z2+RE.one)*(Z1*Z2-RE.one)) (by kernel_rfl))
end
def Yz (F S H:Q2) (a:Fq×Fq):aV:=((F2.mul F (i2 a.2),F2.zero,F2.zero),(F2.mul S (i2 (F1.neg a.1)),H,F2.zero))
theorem aQr (a:Fq):i2 (F1.neg a)=F2.neg (i2 a):=Prod.ext rfl (bQ F1).symm
theorem aQb {F S H m d:Q2} (hS:S=F2.mul F m) (hH:H=F2.mul F (F2.neg d)) (a:Fq×Fq):Yz F S H a=aD.mul (eQ F) (lT m d a.1 a.2):=by
 rw[oJ];unfold Yz eQ lT;simp only[z6e,F2.mul_zero,F2.zero_mul,F2.add_zero,F2.zero_add,aQr,hS,hH,F2.mul_neg,F2.mul_assoc]
theorem aDt {a:Fq×Fq} (h:On F1 (fm 3) (some a)) {F S H m d:Q2} (hF:F≠F2.zero) (hS:S=F2.mul F m) (hH:H=F2.mul F (F2.neg d)):Yz F S H a≠aD.zero∧lv (Yz F S H a)=lv (lT m d a.1 a.2):=by
 rw[aQb hS hH];have n:=nY (Ci hF) (rV (m:=m) (d:=d) (a:=a.1) (iM h));refine⟨n,Subtype.ext ?_⟩;rw[dD n,dD (rV (iM h)),dL (Ci hF) (rV (iM h)),Iw hF,aD.one_mul]
def tF (x y z:Q2):Q2:=F2.mul (F2.add (F2.mul y z) (F2.mul y z)) (F2.mul z z)
def tS (x y z:Q2):Q2:=F2.mul (F2.add (F2.add (F2.mul x x) (F2.mul x x)) (F2.mul x x)) (F2.mul z z)
def tH (x y z:Q2):Q2:=F2.sub (F2.mul (F2.add (F2.add (F2.mul x x) (F2.mul x x)) (F2.mul x x)) x) (F2.add (F2.mul y y) (F2.mul y y))
theorem aNZ {a:Fq×Fq} (h:On F1 (fm 3) (some a)) {x y z:Q2} (hz:z≠F2.zero) (hp:On F2 dE (iA F2 dW (x,y,z))) :
  Yz (tF x y z) (tS x y z) (tH x y z) a≠aD.zero∧lv (Yz (tF x y z) (tS x y z) (tH x y z) a)=cv a (iA F2 dW (x,y,z)) (iA F2 dW (x,y,z)):=by
 have e:=eC (K:=F2) (inv:=dW) (p:=(x,y,z)) hz;rw[e]at hp ⊢;dsimp only at hp ⊢;have hi:F2.mul z (dW z)=F2.one:=bC.F.inv z hz;generalize dW z=i at hi hp ⊢;have hY:=mF hp;dsimp only at hY;have hYY:=bC.dbl_ne hY;have hy:y≠F2.zero:=fun e=>hY (by rw[e,F2.zero_mul])
 have hN:F2.add (F2.mul y z) (F2.mul y z)≠F2.zero:=bC.dbl_ne (bC.F.mul_ne hy hz);have hj:F2.mul (F2.add (F2.mul y z) (F2.mul y z)) (dW (F2.add (F2.mul y z) (F2.mul y z)))=F2.one:=bC.F.inv _ hN;generalize dW (F2.add (F2.mul y z) (F2.mul y z))=j at hj;have hs:=zV bC hYY (aNY (x:=x) hi hj);rw[yX h (fun q=>hYY q.2),oS];dsimp only;rw[hs];exact aDt h (bC.F.mul_ne hN (bC.F.mul_ne hz hz)) (aTE hi hj) (aTF hi hj)
def rW (x z u:Q2):Q2:=F2.sub (F2.mul u (F2.mul z z)) x
def tM (y z v:Q2):Q2:=F2.sub (F2.mul v (F2.mul (F2.mul z z) z)) y
def Za (x z u:Q2):Q2:=F2.mul z (rW x z u)
theorem aRT {a:Fq×Fq} (h:On F1 (fm 3) (some a)) {x y z u v:Q2} (hz:z≠F2.zero) (hp:On F2 dE (iA F2 dW (x,y,z))) (hq:On F2 dE (some (u,v))) (hA:rW x z u≠F2.zero) :
  Yz (Za x z u) (tM y z v) (F2.sub (F2.mul (tM y z v) u) (F2.mul (Za x z u) v)) a≠aD.zero∧lv (Yz (Za x z u) (tM y z v) (F2.sub (F2.mul (tM y z v) u) (F2.mul (Za x z u) v)) a)=cv a (iA F2 dW (x,y,z)) (some (u,v)):=by
 have e:=eC (K:=F2) (inv:=dW) (p:=(x,y,z)) hz;rw[e]at hp ⊢;dsimp only at hp ⊢;have hi:F2.mul z (dW z)=F2.one:=bC.F.inv z hz;generalize dW z=i at hi hp ⊢;have hN:Za x z u≠F2.zero:=bC.F.mul_ne hz hA;have hj:F2.mul (Za x z u) (dW (Za x z u))=F2.one:=bC.F.inv _ hN;generalize dW (Za x z u)=j at hj;have hx:F2.mul x (F2.mul i i)≠u:=fun q=>hA (by
  unfold rW;rw[←q,aMS hi];exact F2.add_neg x)
 have hs:=sJ bC hx (aRS (y:=y) (v:=v) hi hj);rw[yX h (fun q=>hx q.1),oS];dsimp only;rw[hs];exact aDt h hN (aWT hi hj) (aWU hi hj)
structure GHom {G G':Type} (A:AG G) (A':AG G') (f:G→G'):Prop where
 add:∀x y,f (A.add x y)=A'.add (f x) (f y)
section
variable {G G':Type} {A:AG G} {A':AG G'} {f:G→G'}
theorem GHom.zero (h:GHom A A' f):f A.zero=A'.zero:=by
 apply A'.cancel (a:=f A.zero);rw[←h.add,A.zadd,A'.addz]
theorem GHom.neg (h:GHom A A' f) (x:G):f (A.neg x)=A'.neg (f x):=by
 apply A'.cancel (a:=f x);rw[←h.add,A.addn,A'.addn,h.zero]
theorem GHom.ns (h:GHom A A' f) (x:G):∀n,f (A.ns n x)=A'.ns n (f x)
 | 0=>h.zero
 | n+1=>by
  show f (A.add (A.ns n x) x)=A'.add (A'.ns n (f x)) (f x);rw[h.add,h.ns x n]
def tot (A:AG G) (s:Nat) (a b c:G):G:=A.add (A.add (A.ns s a) b) (A.neg c)
theorem GHom.tot (h:GHom A A' f) (s:Nat) (a b c:G):f (tot A s a b c)=Ex.tot A' s (f a) (f b) (f c):=by
 unfold Ex.tot;rw[h.add,h.add,h.ns,h.neg]
theorem PH (s:Nat) (a b c a' b' c':G):tot A s (A.add a a') (A.add b b') (A.add c c')=A.add (tot A s a b c) (tot A s a' b' c'):=by
 unfold tot;rw[A.ns_sum,A.neg_add,A.add4 (A.ns s a),A.add4 (A.add (A.ns s a) b)]
end
section
variable {G V:Type}
structure Cyc (A:AG G) (B:AG V) (c:G→G→V):Prop where
 coc:∀g h k,B.add (c g h) (c (A.add g h) k)=B.add (c h k) (c g (A.add h k))
 comm:∀g h,c g h=c h g
 zl:∀g,c A.zero g=B.zero
 opp:∀g,c g (A.neg g)=B.zero
variable {A:AG G} {B:AG V} {c:G→G→V}
theorem Cyc.zr (C:Cyc A B c) (g:G):c g A.zero=B.zero:=by rw[C.comm,C.zl]
def mU (C:Cyc A B c):AG (G×V) where
 add x y:=(A.add x.1 y.1,B.add (B.add x.2 y.2) (c x.1 y.1))
 neg x:=(A.neg x.1,B.neg x.2)
 zero:=(A.zero,B.zero)
 assoc x y z:=by
  refine Prod.ext (A.assoc _ _ _) ?_
  haveI:Std.Associative B.add:=⟨B.assoc⟩
  haveI:Std.Commutative B.add:=⟨B.comm⟩
  show B.add (B.add (B.add (B.add x.2 y.2) (c x.1 y.1)) z.2) (c (A.add x.1 y.1) z.1)=B.add (B.add x.2 (B.add (B.add y.2 z.2) (c y.1 z.1))) (c x.1 (A.add y.1 z.1));have e1:B.add (B.add (B.add (B.add x.2 y.2) (c x.1 y.1)) z.2) (c (A.add x.1 y.1) z.1)=B.add (B.add (B.add x.2 y.2) z.2) (B.add (c x.1 y.1) (c (A.add x.1 y.1) z.1)):=by ac_rfl
  rw[e1,C.coc]
  ac_rfl
 comm x y:=Prod.ext (A.comm _ _) (by
  show B.add (B.add x.2 y.2) (c x.1 y.1)=B.add (B.add y.2 x.2) (c y.1 x.1);rw[B.comm x.2,C.comm])
 zadd x:=Prod.ext (A.zadd _) (by
  show B.add (B.add B.zero x.2) (c A.zero x.1)=x.2;rw[B.zadd,C.zl,B.addz])
 nadd x:=Prod.ext (A.nadd _) (by
  show B.add (B.add (B.neg x.2) x.2) (c (A.neg x.1) x.1)=B.zero;rw[B.nadd,C.comm,C.opp,B.zadd])
def eB (B:AG V) (g:G):G×V:=(g,B.zero)
def iB (A:AG G) (v:V):G×V:=(A.zero,v)
theorem aEa (C:Cyc A B c):GHom B (mU C) (iB A):=⟨fun x y=>Prod.ext (A.zadd _).symm (by
 show B.add x y=B.add (B.add x y) (c A.zero A.zero);rw[C.zl,B.addz])⟩
theorem Qh (C:Cyc A B c):GHom (mU C) A Prod.fst:=⟨fun _ _=>rfl⟩
theorem aEY (C:Cyc A B c) (g:G) (v:V):(g,v)=(mU C).add (eB B g) (iB A v):=Prod.ext (A.addz _).symm (by
 show v=B.add (B.add B.zero v) (c g A.zero);rw[C.zr,B.zadd,B.addz])
theorem Jw (C:Cyc A B c) (g h:G):(mU C).add (eB B g) (eB B h)=(mU C).add (eB B (A.add g h)) (iB A (c g h)):=by
 rw[←aEY];refine Prod.ext rfl ?_;show B.add (B.add B.zero B.zero) (c g h)=c g h;rw[B.zadd,B.zadd]
def fin (C:Cyc A B c) (s:Nat) (ψ:G→G) (Q:G):G×V:=tot (mU C) s (eB B Q) (eB B (ψ Q)) (eB B (ψ (ψ Q)))
theorem Qp (C:Cyc A B c) (s:Nat) (ψ:G→G) (Q:G):(fin C s ψ Q).1=tot A s Q (ψ Q) (ψ (ψ Q)):=(Qh C).tot s _ _ _
theorem PG {s:Nat} {x y z w:V} (h:B.add (B.add (B.ns s x) y) w=z):tot B s x y z=B.neg w:=by
 unfold tot;rw[←h,B.neg_add,←B.assoc,B.addn,B.zadd]
theorem aET {X Y n z:V} (h:B.add X n=B.add (B.add Y n) z) (hz:z=B.zero):X=Y:=by
 rw[hz,B.addz,B.comm X,B.comm Y]at h;exact B.cancel h
theorem Xv (C:Cyc A B c) {s:Nat} {ψ:G→G} {φ:V→V} (hψ:GHom A A ψ) (hc:∀g h,c (ψ g) (ψ h)=φ (c g h)) (hn:∀g h,c (A.neg g) (A.neg h)=B.neg (c g h)) {Q Q':G}
  (hv:B.add (B.add (B.ns s (c Q Q')) (φ (c Q Q'))) (φ (φ (φ (c Q Q'))))=φ (φ (c Q Q')))
  (h1:tot A s Q (ψ Q) (ψ (ψ Q))=A.neg (ψ (ψ (ψ Q)))) (h2:tot A s Q' (ψ Q') (ψ (ψ Q'))=A.neg (ψ (ψ (ψ Q')))) :
  B.add (fin C s ψ Q).2 (fin C s ψ Q').2=(fin C s ψ (A.add Q Q')).2:=by
 have k0:=Jw C Q Q';have k1:=Jw C (ψ Q) (ψ Q');have k2:=Jw C (ψ (ψ Q)) (ψ (ψ Q'));rw[←hψ.add,hc]at k1;rw[←hψ.add,←hψ.add,hc,hc]at k2;have k:(mU C).add (fin C s ψ Q) (fin C s ψ Q')=(mU C).add (fin C s ψ (A.add Q Q')) (iB A (tot B s (c Q Q') (φ (c Q Q')) (φ (φ (c Q Q'))))):=by
  rw[(aEa C).tot];unfold fin;rw[←PH,k0,k1,k2,PH]
 rw[PG hv]at k;have e:=congrArg Prod.snd k;have e:B.add (B.add (fin C s ψ Q).2 (fin C s ψ Q').2) (c (fin C s ψ Q).1 (fin C s ψ Q').1)=B.add (B.add (fin C s ψ (A.add Q Q')).2 (B.neg (φ (φ (φ (c Q Q')))))) (c (fin C s ψ (A.add Q Q')).1 A.zero):=e;rw[Qp,Qp,h1,h2,hn,hc,hc,hc]at e;exact aET e (C.zr _)
def mL {W:Type} (B:AG V) (B':AG W):AG (V×W) where
 add x y:=(B.add x.1 y.1,B'.add x.2 y.2)
 neg x:=(B.neg x.1,B'.neg x.2)
 zero:=(B.zero,B'.zero)
 assoc x y z:=Prod.ext (B.assoc _ _ _) (B'.assoc _ _ _)
 comm x y:=Prod.ext (B.comm _ _) (B'.comm _ _)
 zadd x:=Prod.ext (B.zadd _) (B'.zadd _)
 nadd x:=Prod.ext (B.nadd _) (B'.nadd _)
theorem Cyc.two {c1 c2:G→G→V} (C1:Cyc A B c1) (C2:Cyc A B c2):Cyc A (mL B B) (fun g h=>(c1 g h,c2 g h)) where
 coc g h k:=Prod.ext (C1.coc g h k) (C2.coc g h k)
 comm g h:=Prod.ext (C1.comm g h) (C2.comm g h)
 zl g:=Prod.ext (C1.zl g) (C2.zl g)
 opp g:=Prod.ext (C1.opp g) (C2.opp g)
theorem Xw {c1 c2 c3:G→G→V} (C1:Cyc A B c1) (C2:Cyc A B c2) (C3:Cyc A B c3) {h:G→V} (hh:∀g k,B.add (B.add (c1 g k) (c2 g k)) (h (A.add g k))=B.add (c3 g k) (B.add (h g) (h k)))
  {s:Nat} {ψ:G→G} {φ:V→V} (hψ:∀g,h (ψ g)=φ (h g)) (hn:∀g,h (A.neg g)=B.neg (h g)) {Q:G}
  (hv:B.add (B.add (B.ns s (h Q)) (φ (h Q))) (φ (φ (φ (h Q))))=φ (φ (h Q)))
  (h1:tot A s Q (ψ Q) (ψ (ψ Q))=A.neg (ψ (ψ (ψ Q)))) :
  B.add (fin C1 s ψ Q).2 (fin C2 s ψ Q).2=(fin C3 s ψ Q).2:=by
 have f1:GHom (mU (C1.two C2)) (mU C1) (fun x=>(x.1,x.2.1)):=⟨fun _ _=>rfl⟩;have f2:GHom (mU (C1.two C2)) (mU C2) (fun x=>(x.1,x.2.2)):=⟨fun _ _=>rfl⟩;have f3:GHom (mU (C1.two C2)) (mU C3) (fun x=>(x.1,B.add (B.add x.2.1 x.2.2) (h x.1))):=⟨fun x y=>Prod.ext rfl (by
  show B.add (B.add (B.add (B.add x.2.1 y.2.1) (c1 x.1 y.1)) (B.add (B.add x.2.2 y.2.2) (c2 x.1 y.1))) (h (A.add x.1 y.1))=B.add (B.add (B.add (B.add x.2.1 x.2.2) (h x.1)) (B.add (B.add y.2.1 y.2.2) (h y.1))) (c3 x.1 y.1)
  haveI:Std.Associative B.add:=⟨B.assoc⟩
  haveI:Std.Commutative B.add:=⟨B.comm⟩
  have e1:B.add (B.add (B.add (B.add x.2.1 y.2.1) (c1 x.1 y.1)) (B.add (B.add x.2.2 y.2.2) (c2 x.1 y.1))) (h (A.add x.1 y.1))=B.add (B.add (B.add x.2.1 y.2.1) (B.add x.2.2 y.2.2)) (B.add (B.add (c1 x.1 y.1) (c2 x.1 y.1)) (h (A.add x.1 y.1))):=by ac_rfl
  rw[e1,hh]
  ac_rfl)⟩
 have t1:=f1.tot s (eB (mL B B) Q) (eB (mL B B) (ψ Q)) (eB (mL B B) (ψ (ψ Q)));have t2:=f2.tot s (eB (mL B B) Q) (eB (mL B B) (ψ Q)) (eB (mL B B) (ψ (ψ Q)));have t3:=f3.tot s (eB (mL B B) Q) (eB (mL B B) (ψ Q)) (eB (mL B B) (ψ (ψ Q)));have t0:=(Qh (C1.two C2)).tot s (eB (mL B B) Q) (eB (mL B B) (ψ Q)) (eB (mL B B) (ψ (ψ Q)));generalize tot (mU (C1.two C2)) s (eB (mL B B) Q) (eB (mL B B) (ψ Q)) (eB (mL B B) (ψ (ψ Q)))=T at t0 t1 t2 t3;have t1:(T.1,T.2.1)=fin C1 s ψ Q:=t1;have t2:(T.1,T.2.2)=fin C2 s ψ Q:=t2;have t0:T.1=tot A s Q (ψ Q) (ψ (ψ Q)):=t0;have hz:∀g:G,((g,B.add (B.add B.zero B.zero) (h g)):G×V)=(mU C3).add (eB B g) (iB A (h g)):=fun g=>by
  rw[B.zadd,B.zadd];exact aEY C3 g (h g)
 have t3:(T.1,B.add (B.add T.2.1 T.2.2) (h T.1))=tot (mU C3) s (Q,B.add (B.add B.zero B.zero) (h Q)) (ψ Q,B.add (B.add B.zero B.zero) (h (ψ Q))) (ψ (ψ Q),B.add (B.add B.zero B.zero) (h (ψ (ψ Q)))):=t3;rw[hz,hz,hz,PH,←(aEa C3).tot,hψ (ψ Q),hψ Q,PG hv]at t3;have e:=congrArg Prod.snd t3;have e:B.add (B.add T.2.1 T.2.2) (h T.1)=B.add (B.add (fin C3 s ψ Q).2 (B.neg (φ (φ (φ (h Q)))))) (c3 (fin C3 s ψ Q).1 A.zero):=e;rw[t0,h1,hn,hψ,hψ,hψ]at e;rw[←t1,←t2];exact aET e (C3.zr _)
theorem aHk (C:Cyc A B c) (Q:G) (d:Int) (T:G) (F:V):Yv (mU C) (eB B Q) d (T,F)=(Yv A Q d T,stF A B c Q d F T):=by
 unfold Yv stF
 by_cases h1:d=1
 ·rw[if_pos h1,if_pos h1,if_pos h1];refine Prod.ext rfl ?_;show B.add (B.add (B.add (B.add F F) (c T T)) B.zero) (c (A.add T T) Q)=_;rw[B.addz]
 ·rw[if_neg h1,if_neg h1,if_neg h1]
  by_cases h2:d = -1
  ·rw[if_pos h2,if_pos h2,if_pos h2];refine Prod.ext rfl ?_;show B.add (B.add (B.add (B.add F F) (c T T)) (B.neg B.zero)) (c (A.add T T) (A.neg Q))=_;rw[B.negz,B.addz]
  ·rw[if_neg h2,if_neg h2,if_neg h2];rfl
theorem Mh (C:Cyc A B c) (Q:G):∀(ds:List Int) (T:G) (F:V),AA (mU C) (eB B Q) ds (T,F)=(AA A Q ds T,aBi A B c Q ds F T)
 | [],_,_=>rfl
 | d::ds,T,F=>by
  show AA (mU C) (eB B Q) ds (Yv (mU C) (eB B Q) d (T,F))=_;rw[aHk,Mh C Q ds];rfl
def hdg:List Int→Int→Int
 | [],n=>n
 | d::ds,n=>hdg ds (n+n+(if d=1 then 1 else if d = -1 then -1 else 0))
theorem aTk (A:AG G) (Q:G):A.zs 1 Q=Q:=A.zadd Q
theorem aTj (A:AG G) (Q:G):A.zs (-1) Q=A.neg Q:=congrArg A.neg (A.zadd Q)
theorem aXQ (A:AG G) (Q:G):A.zs 0 Q=A.zero:=rfl
theorem aAA (A:AG G) (Q:G):∀(ds:List Int) (n:Int),AA A Q ds (A.zs n Q)=A.zs (hdg ds n) Q
 | [],_=>rfl
 | d::ds,n=>by
  show AA A Q ds (Yv A Q d (A.zs n Q))=A.zs (hdg ds _) Q;rw[←aAA A Q ds];congr 1;unfold Yv
  by_cases h1:d=1
  ·rw[if_pos h1,if_pos h1,A.zs_add,A.zs_add,aTk]
  ·rw[if_neg h1,if_neg h1]
   by_cases h2:d = -1
   ·rw[if_pos h2,if_pos h2,A.zs_add,A.zs_add,aTj]
   ·rw[if_neg h2,if_neg h2,A.zs_add,A.zs_add,aXQ,A.addz]
theorem aOC (A:AG G) (Q:G) {ds:List Int} {s:Nat} (h:hdg ds 1=s):AA A Q ds Q=A.ns s Q:=by
 have r:=aAA A Q ds 1;rw[aTk,h]at r;exact r
theorem aHY (C:Cyc A B c) (Q:G) {ds:List Int} {s:Nat} (h:hdg ds 1=s) (ψ:G→G) :
  fin C s ψ Q=(A.add (A.add (AA A Q ds Q) (ψ Q)) (A.neg (ψ (ψ Q))),B.add (B.add (aBi A B c Q ds B.zero Q) (c (AA A Q ds Q) (ψ Q))) (c (A.add (AA A Q ds Q) (ψ Q)) (A.neg (ψ (ψ Q))))):=by
 have r:=aOC (mU C) (eB B Q) h;have e:=Mh C Q ds Q B.zero;have e:AA (mU C) (eB B Q) ds (eB B Q)=_:=e;rw[r]at e;unfold fin tot;rw[e];refine Prod.ext rfl ?_;show B.add (B.add (B.add (B.add _ B.zero) _) (B.neg B.zero)) _=_;rw[B.addz,B.negz,B.addz];rfl
end
open Go.RowKit
def jQ:Q2:=(⟨21575463638280843010398324269430826099269044274347216827212613867836435027261,by decide⟩,⟨10307601595873709700152284273816112264069230130616436755625194854815875713954,by decide⟩)
def nJ:Q2:=(⟨2821565182194536844548159561693502659359617185244120367078079554186484126554,by decide⟩,⟨3505843767911556378687030309984248845540243509899259641013678093033130930403,by decide⟩)
def cH:Nat:=147946756881789318990833708069417712966
def aEv:kI
 | [.v (.im (.int .i64 (.ofNat 1)))]=>some ([],.one (.fl (q1 FP.M)))
 | [.v (.im (.int .i64 (.ofNat 2)))]=>some ([],.one (.fl (q1 Go.Proofs.YtjkpglhlmknciaaGreat.FR.M)))
 | _=>none
theorem aKA:∀cs pre r,aEv cs=some (pre,r)→aZ pre→∀(args:List Value) (w:World),bU w cs args→Good prog 86 r args w:=by
 intro cs pre r hg hp args w ha;unfold aEv at hg;split at hg
 ·cases hg
  match args,ha with
  | [v],ha =>
   have h1:v=.int .i64 1:=ha.1;subst h1;exact (vD 1 FP (Or.inl ⟨rfl,rfl⟩) w).mono fun e w' h=>h
  | [],ha=>exact ha.elim
  | _::_::_,ha=>exact ha.2.elim
 ·cases hg
  match args,ha with
  | [v],ha =>
   have h1:v=.int .i64 2:=ha.1;subst h1;exact (vD 2 Go.Proofs.YtjkpglhlmknciaaGreat.FR (Or.inr ⟨rfl,rfl⟩) w).mono fun e w' h=>h
  | [],ha=>exact ha.elim
  | _::_::_,ha=>exact ha.2.elim
 ·cases hg
def aEq:kI
 | [.v (.fl l),.v (.fl m)]=>some ([aA l=aA (q1 FP.M),aA m=aA (q1 Go.Proofs.YtjkpglhlmknciaaGreat.FR.M)],.many [.fl (q1 cH),.im (.int .u64 0)])
 | _=>none
theorem aJU:∀cs pre r,aEq cs=some (pre,r)→aZ pre→∀(args:List Value) (w:World),bU w cs args→Good prog 85 r args w:=by
 intro cs pre r hg hp args w ha;unfold aEq at hg;split at hg
 ·rename_i l m;cases hg;obtain⟨e1,e2,_⟩:=hp
  match args,ha with
  | [v,u],ha =>
   have h1:v=.agg (aA l).toArray:=ha.1;have h2:u=.agg (aA m).toArray:=ha.2.1;rw[e1]at h1;rw[e2]at h2;subst h1; subst h2;refine (tW _ _ _ _ _ _ _ _ (cQ FP.M) (cQ Go.Proofs.YtjkpglhlmknciaaGreat.FR.M) w).mono ?_
   rintro e w' ⟨s0,s1,s2,s3,c,rfl,hs,hc,hv,hb⟩
   have v1:aC (fw FP.M 0) (fw FP.M 1) (fw FP.M 2) (fw FP.M 3)=21888242871839275222246405745257275088696311157297823662689037894645226208583:=by kernel_rfl
   have v2:aC (fw Go.Proofs.YtjkpglhlmknciaaGreat.FR.M 0) (fw Go.Proofs.YtjkpglhlmknciaaGreat.FR.M 1) (fw Go.Proofs.YtjkpglhlmknciaaGreat.FR.M 2) (fw Go.Proofs.YtjkpglhlmknciaaGreat.FR.M 3)=21888242871839275222246405745257275088548364400416034343698204186575808495617:=by kernel_rfl
   rw[v1,v2]at hv;obtain⟨h0,h1,h2,h3⟩:=hs;have hlt:aC s0 s1 s2 s3<115792089237316195423570985008687907853269984665640564039457584007913129639936:=by unfold aC; omega
   have hc0:c=0:=by omega
   subst hc0;have hv2:aC s0 s1 s2 s3=cH:=by unfold cH; omega
   obtain⟨rfl,rfl,rfl,rfl⟩:=pW ⟨h0,h1,h2,h3⟩ (by unfold cH; omega) hv2;exact⟨rfl,hb⟩
  | [],ha=>exact ha.elim
  | [_],ha=>exact ha.2.elim
  | _::_::_::_,ha=>exact ha.2.2.elim
 ·cases hg
def aGn:Tab:=(aGg).add 86 aEv
theorem aJz:TabOk prog aGn:=(aJv).ad func86 aKA
def Lc:Tab:=(aGn).add 85 aEq
theorem Oc:TabOk prog Lc:=(aJz).ad func85 aJU
theorem Vt  : aU prog (qG prog) (fun _=>⟨fun s=>Lc,fun s=>true,fun _=>none⟩) f87 60 []=some ([],.one (.fl (q1 Go.Proofs.YtjkpglhlmknciaaGreat.FR.M))):=by kernel_rfl
def UJ:Tab:=(Lc).add 87 (g0 (.one (.fl (q1 Go.Proofs.YtjkpglhlmknciaaGreat.FR.M))))
theorem As:TabOk prog UJ:=(Oc).ad func87 (lO fun w=>aB aG (fun _ s=>Oc) (aJ prog) func87 Vt trivial (args:=[]) trivial)
theorem Fv  : aU prog (qG prog) (fun _=>⟨fun s=>UJ,fun s=>true,fun _=>none⟩) f46 60 []=some ([],.one (.fl (q1 Go.Proofs.YtjkpglhlmknciaaGreat.FR.M))):=by kernel_rfl
def KE:Tab:=(UJ).add 46 (g0 (.one (.fl (q1 Go.Proofs.YtjkpglhlmknciaaGreat.FR.M))))
theorem NB:TabOk prog KE:=(As).ad func46 (lO fun w=>aB aG (fun _ s=>As) (aJ prog) func46 Fv trivial (args:=[]) trivial)
theorem Tx  : aU prog (qG prog) (fun _=>⟨fun s=>KE,fun s=>true,fun _=>none⟩) f114 60 []=some ([],.many [.fl (e2 jQ),.fl (e2 nJ)]):=by kernel_rfl
def TM:Tab:=(KE).add 114 (g0 (.many [.fl (e2 jQ),.fl (e2 nJ)]))
theorem Ad:TabOk prog TM:=(NB).ad func114 (lO fun w=>aB aG (fun _ s=>NB) (aJ prog) func114 Tx trivial (args:=[]) trivial)
theorem aVk (x y:N2):TM 109 [.v (.fl (q2 x)),.v (.fl (q2 y))]=some ([],.one (.fl (e2 (F2.mul (m2 x) (m2 y))))):=by kernel_rfl
def uO:Tab:=(TM).add 109 (g2 CD CD (fun x y=>([],.one (.fl (e2 (F2.mul x y))))))
theorem sZ:TabOk prog uO:=(Ad).ad func109 (jZ eE eE fun x y hp args w ha=>(Ad _ _ _ _ (aVk x y) trivial).2 args w ha)
theorem LE (x y:N2):aU prog (qG prog) (fun _=>⟨fun s=>uO,fun s=>true,fun s=>bif Nat.beq s 10 then some (.bool true)else none⟩) f68 60 [.v (.fl (cJ (x,y,true)))]=some ([aH .neq .i64 (iN x y true).1 0=some (.bool true)],.many [.fl (gI (some (F2.zero,F2.zero))),.im (.int .i64 (iN x y true).1)]):=by kernel_rfl
theorem LD (x y:N2):aU prog (qG prog) (fun _=>⟨fun s=>uO,fun s=>true,fun s=>bif Nat.beq s 10 then some (.bool false)else none⟩) f68 60 [.v (.fl (cJ (x,y,true)))]=some ([aH .neq .i64 (iN x y true).1 0=some (.bool false)],.many [.fl (e2 (F2.mul (aL (m2 x)) jQ)++(e2 (F2.mul (aL (m2 y)) nJ)++[.c (.bool true)])),.im (.int .i64 0)]):=by kernel_rfl
theorem FV (x y:N2):aU prog (qG prog) (fun _=>⟨fun s=>uO,fun s=>true,fun s=>bif Nat.beq s 10 then some (.bool true)else none⟩) f68 60 [.v (.fl (cJ (x,y,false)))]=some ([aH .neq .i64 (iN x y false).1 0=some (.bool true)],.many [.fl (gI (some (F2.zero,F2.zero))),.im (.int .i64 (iN x y false).1)]):=by kernel_rfl
theorem FU (x y:N2):aU prog (qG prog) (fun _=>⟨fun s=>uO,fun s=>true,fun s=>bif Nat.beq s 10 then some (.bool false)else none⟩) f68 60 [.v (.fl (cJ (x,y,false)))]=some ([aH .neq .i64 (iN x y false).1 0=some (.bool false)],.many [.fl (e2 (F2.mul (aL (m2 x)) jQ)++(e2 (F2.mul (aL (m2 y)) nJ)++[.c (.bool false)])),.im (.int .i64 0)]):=by kernel_rfl
def LL:Pt Q2→Pt Q2
 | none=>none
 | some p=>some (F2.mul (aL p.1) jQ,F2.mul (aL p.2) nJ)
def eM (p:cZ):Pt Q2×Int:=if (fO p).1≠0 then (some (F2.zero,F2.zero),(fO p).1)else (LL (af2 p),0)
theorem aMr {x:N2} (h:KW x):m2 x=F2.zero:=by
 refine Prod.ext (Fin.ext ?_) (Fin.ext ?_)
 ·show wv x.1%FP.M=0;rw[h.1]; rfl
 ·show wv x.2%FP.M=0;rw[h.2]; rfl
theorem yZ:aL F2.zero=F2.zero:=by decide
theorem aRM {x y:N2} (h:(iN x y true).1=0):KW x∧KW y:=by
 rw[wT,if_pos rfl]at h
 by_cases hz:KW x∧KW y
 ·exact hz
 ·rw[if_neg hz]at h; cases h
theorem aBz (p:cZ) (args:List Value) (w:World) (ha:bU w [.v (.fl (cJ p))] args):Good prog 68 (.many [.fl (gI (eM p).1),.im (.int .i64 (eM p).2)]) args w:=by
 obtain⟨x,y,b⟩:=p
 by_cases h:(iN x y b).1=0
 ·rw[show eM (x,y,b)=(LL (af2 (x,y,b)),0)from if_neg (fun q=>q h)];cases b with
  | false=>exact aB aG (fun _ s=>sZ) (aJ prog) func68 (FU x y) ⟨NM h,trivial⟩ ha
  | true =>
   refine Good.congr (aB aG (fun _ s=>sZ) (aJ prog) func68 (LD x y) ⟨NM h,trivial⟩ ha) ?_;obtain⟨hx,hy⟩:=aRM h;rw[aMr hx,aMr hy,yZ,F2.zero_mul,F2.zero_mul];rfl
 ·rw[show eM (x,y,b)=(some (F2.zero,F2.zero),(iN x y b).1)from if_pos h];cases b with
  | true=>exact aB aG (fun _ s=>sZ) (aJ prog) func68 (LE x y) ⟨NL h,trivial⟩ ha
  | false=>exact aB aG (fun _ s=>sZ) (aJ prog) func68 (FV x y) ⟨NL h,trivial⟩ ha
def xE:Tab:=(uO).add 68 (g1 Dg fun p=>([],.many [.fl (gI (eM p).1),.im (.int .i64 (eM p).2)]))
theorem uE:TabOk prog xE:=(sZ).ad func68 (bJ iY fun p hp args w ha=>aBz p args w ha)
theorem Uv (p:cZ):aU prog (qG prog) (fun _=>⟨fun s=>xE,fun s=>true,fun s=>bif Nat.beq s 15 then some (.bool true)else none⟩) f49 60 [.v (.fl (cJ p))]=some ([aH .neq .i64 (eM p).2 0=some (.bool true)],.one (.im (.bool false))):=by kernel_rfl
theorem Uu (p:cZ):aU prog (qG prog) (fun _=>⟨fun s=>xE,fun s=>true,fun s=>bif Nat.beq s 15 then some (.bool false)else none⟩) f49 60 [.v (.fl (cJ p))]=some ([aH .neq .i64 (eM p).2 0=some (.bool false),aA (q1 FP.M)=aA (q1 FP.M),aA (q1 Go.Proofs.YtjkpglhlmknciaaGreat.FR.M)=aA (q1 Go.Proofs.YtjkpglhlmknciaaGreat.FR.M),aA (gI (kG (fun _=>p) (fun _=>cH) 1).1)=aA (gI (eM p).1)],.one (.im (.bool true))):=by kernel_rfl
theorem Ut (p:cZ):aU prog (qG prog) (fun _=>⟨fun s=>xE,fun s=>false,fun s=>bif Nat.beq s 15 then some (.bool false)else none⟩) f49 60 [.v (.fl (cJ p))]=some ([aH .neq .i64 (eM p).2 0=some (.bool false),aA (q1 FP.M)=aA (q1 FP.M),aA (q1 Go.Proofs.YtjkpglhlmknciaaGreat.FR.M)=aA (q1 Go.Proofs.YtjkpglhlmknciaaGreat.FR.M),aA (gI (kG (fun _=>p) (fun _=>cH) 1).1)≠aA (gI (eM p).1)],.one (.im (.bool false))):=by kernel_rfl
theorem aKk {P Q:Pt Q2} (h:aA (gI P)=aA (gI Q)):P=Q:=by
 have h':w4 (ptX F2 P).1.1++(w4 (ptX F2 P).2.1++(w4 (ptY F2 P).1.1++(w4 (ptY F2 P).2.1++[Value.bool (uY P)])))=w4 (ptX F2 Q).1.1++(w4 (ptX F2 Q).2.1++(w4 (ptY F2 Q).1.1++(w4 (ptY F2 Q).2.1++[Value.bool (uY Q)]))):=h;obtain⟨h1,h'⟩:=List.append_inj h' rfl;obtain⟨h2,h'⟩:=List.append_inj h' rfl;obtain⟨h3,h'⟩:=List.append_inj h' rfl;obtain⟨h4,h'⟩:=List.append_inj h' rfl;have h5:uY P=uY Q:=by injection h' with h' _; injection h'
 have e:∀{a b:Fq},w4 a.1=w4 b.1→a=b:=fun {a b} hw=>by
  have:=DT hw;refine Fin.ext ?_;have ha:wv a.1=a.1:=cM a.2;have hb:wv b.1=b.1:=cM b.2;rw[←ha,←hb,this]
 cases P with
 | none =>
  cases Q with
  | none=>rfl
  | some q=>cases h5
 | some p =>
  cases Q with
  | none=>cases h5
  | some q=>exact congrArg some (Prod.ext (Prod.ext (e h1) (e h2)) (Prod.ext (e h3) (e h4)))
open Classical in
def oT (p:cZ):Bool:=decide ((eM p).2=0∧(kG (fun _=>p) (fun _=>cH) 1).1=(eM p).1)
theorem aDZ (p:cZ) (args:List Value) (w:World) (ha:bU w [.v (.fl (cJ p))] args):Good prog 49 (.one (.im (.bool (oT p)))) args w:=by
 unfold oT
 by_cases h1:(eM p).2=0
 ·by_cases h2:(kG (fun _=>p) (fun _=>cH) 1).1=(eM p).1
  ·rw[decide_eq_true (And.intro h1 h2)];exact aB aG (fun _ s=>uE) (aJ prog) func49 (Uu p) ⟨NM h1,rfl,rfl,by rw[h2],trivial⟩ ha
  ·rw[decide_eq_false (fun h=>h2 h.2)];exact aB aG (fun _ s=>uE) (aJ prog) func49 (Ut p) ⟨NM h1,rfl,rfl,fun h=>h2 (aKk h),trivial⟩ ha
 ·rw[decide_eq_false (fun h=>h1 h.1)];exact aB aG (fun _ s=>uE) (aJ prog) func49 (Uv p) ⟨NL h1,trivial⟩ ha
def tT:Tab:=(xE).add 49 (g1 Dg fun p=>([],.one (.im (.bool (oT p)))))
theorem oQ:TabOk prog tT:=(uE).ad func49 (bJ iY fun p hp args w ha=>aDZ p args w ha)
section
variable {R:Type} [DecidableEq R] (K:CR R)
def Rs (p q:Jc R):Jc R :=
 if p.2.2=K.zero then q else if q.2.2=K.zero then p else if vC K p q=K.zero then (if NW K p q=K.zero then cN K p else (K.one,K.one,K.zero))else DN K p q
theorem aFk (p q:Jc R):Rs K p q=rplus K p q:=by
 unfold Rs rplus
 by_cases h1:p.2.2=K.zero
 ·rw[if_pos h1,if_pos h1]
 ·rw[if_neg h1,if_neg h1]
  by_cases h2:q.2.2=K.zero
  ·rw[if_pos h2,if_pos h2]
  ·rw[if_neg h2,if_neg h2]
   by_cases h3:vC K p q=K.zero
   ·rw[if_pos h3]
    by_cases h4:NW K p q=K.zero
    ·rw[if_pos h4,if_pos ⟨h3,h4⟩]
    ·rw[if_neg h4,if_neg (fun h=>h4 h.2),if_pos h3]
   ·rw[if_neg h3,if_neg (fun h=>h3 h.1),if_neg h3]
def Cm (a:Jc R) (n L:Nat):Nat→Jc R
 | 0=>(K.one,K.one,K.zero)
 | k+1=>if Nat.beq (n/2^(L-(k+1))%2) 1=true then Rs K (cN K (Cm a n L k)) a else cN K (Cm a n L k)
variable {K} {inv:R→R} {b:R}
theorem Rq {E:EC K inv b} {a:Jc R} {g:{p:Pt R // On K b p}} (h:Rp E a g) (n L:Nat) (hn:n<2^L):∀k,k≤L→Rp E (Cm K a n L k) (E.grp.ns (n/2^(L-k)) g)
 | 0,_=>by
  rw[Nat.sub_zero,Nat.div_eq_of_lt hn];exact Rp.zero rfl
 | k+1,hk=>by
  have ih:=Rq h n L hn k (by omega);have e:n/2^(L-k)=n/2^(L-(k+1))/2:=by
   rw[show L-k=(L-(k+1))+1 by omega,Nat.pow_add,←Nat.div_div_eq_div_mul]
  rw[e]at ih;have h2:=ih.dbl;rw[←E.grp.ns_add]at h2
  by_cases hb:n/2^(L-(k+1))%2=1
  ·rw[show Cm K a n L (k+1)=Rs K (cN K (Cm K a n L k)) a from if_pos (by rw[hb]; rfl),aFk];have h3:=h2.rplus h;rw[show n/2^(L-(k+1))=n/2^(L-(k+1))/2+n/2^(L-(k+1))/2+1 by omega];exact h3
  ·rw[show Cm K a n L (k+1)=cN K (Cm K a n L k)from if_neg (fun hq=>hb (Nat.eq_of_beq_eq_true hq))];rw[show n/2^(L-(k+1))=n/2^(L-(k+1))/2+n/2^(L-(k+1))/2 by omega];exact h2
theorem SV {E:EC K inv b} {a:Jc R} {g:{p:Pt R // On K b p}} (h:Rp E a g) (n L:Nat) (hn:n<2^L):Rp E (Cm K a n L L) (E.grp.ns n g):=by
 have:=Rq h n L hn L (Nat.le_refl _)
 rwa [Nat.sub_self,Nat.pow_zero,Nat.div_one]at this
end
def pC:Nat:=21888242871839275222246405745257275088548364400416034343698204186575808495617
section
variable {R:Type} {K:CR R} {inv:R→R} {b:R}
theorem aDJ (E:EC K inv b) {p:Jc R} {x y:R} (hz:p.2.2≠K.zero) (hx:p.1=K.mul x (K.mul p.2.2 p.2.2)) (hy:p.2.1=K.mul y (K.mul (K.mul p.2.2 p.2.2) p.2.2)):iA K inv p=some (x,y):=by
 have h1:=E.F.inv _ hz;rw[eC hz,hx,hy];generalize inv p.2.2=i at h1 ⊢;generalize p.2.2=z at h1 ⊢;refine congrArg some (Prod.ext ?_ ?_)
 ·show K.mul (K.mul x (K.mul z z)) (K.mul i i)=x;have e:K.mul (K.mul x (K.mul z z)) (K.mul i i)=K.mul x (K.mul (K.mul z i) (K.mul z i)):=aE K (aW K [x,z,i]) (Z0*(Z1*Z1)*(Z2*Z2)) (Z0*(Z1*Z2*(Z1*Z2))) (by decide);rw[e,h1,K.one_mul,K.mul_one]
 ·show K.mul (K.mul y (K.mul (K.mul z z) z)) (K.mul (K.mul i i) i)=y;have e:K.mul (K.mul y (K.mul (K.mul z z) z)) (K.mul (K.mul i i) i)=K.mul y (K.mul (K.mul (K.mul z i) (K.mul z i)) (K.mul z i)):=aE K (aW K [y,z,i]) (Z0*(Z1*Z1*Z1)*(Z2*Z2*Z2)) (Z0*(Z1*Z2*(Z1*Z2)*(Z1*Z2))) (by decide);rw[e,h1,K.one_mul,K.one_mul,K.mul_one]
end
theorem RN (x:Fq):m1 x.1=x:=Fin.ext (show wv x.1%FP.M=x.1 by rw[show wv x.1=x.1 from cM x.2]; exact Nat.mod_eq_of_lt x.2)
theorem ES (x:Fq):ET x.1:=by show wv x.1<FP.M; rw[show wv x.1=x.1 from cM x.2]; exact x.2
theorem RM (x:Q2):m2 (x.1.1,x.2.1)=x:=Prod.ext (RN x.1) (RN x.2)
theorem Sb (x:Q2):rM (x.1.1,x.2.1):=⟨ES x.1,ES x.2⟩
theorem aRP {x y:Fq} (h:On F1 (fm 3) (some (x,y))):(Yj (x.1,y.1,false)).1=0:=by
 have e:=JO x.1 y.1 false;rw[if_neg (by simp),if_neg (fun q=>q ⟨ES x,ES y⟩),RN,RN]at e;have h':F1.mul y y=F1.add (F1.mul (F1.mul x x) x) (fm 3):=by
  rw[F1.mul_comm (F1.mul x x) x]; exact h
 rw[if_pos h']at e;show (zO x.1 y.1 false).1=0;rw[e]
theorem aRN {x y:Q2} (h:On F2 dE (some (x,y))):(fO ((x.1.1,x.2.1),(y.1.1,y.2.1),false)).1=0:=by
 have e:=wT (x.1.1,x.2.1) (y.1.1,y.2.1) false;rw[if_neg (by simp),if_neg (fun q=>q ⟨Sb x,Sb y⟩),RM,RM]at e;have h':F2.mul y y=F2.add (F2.mul (F2.mul x x) x) dE:=by
  rw[F2.mul_comm (F2.mul x x) x]; exact h
 rw[if_pos h']at e;show (iN (x.1.1,x.2.1) (y.1.1,y.2.1) false).1=0;rw[e]
theorem aSu (x y:Q2):af2 ((x.1.1,x.2.1),(y.1.1,y.2.1),false)=some (x,y):=congrArg some (Prod.ext (RM x) (RM y))
theorem aNr:wv Go.Proofs.YtjkpglhlmknciaaGreat.FR.M=pC:=by kernel_rfl
theorem Lr:wv cH=cH:=by kernel_rfl
def tn1 (P:Pt Fq):iU:=((ptX F1 P).1,(ptY F1 P).1,uY P)
def MA (P:Pt Q2):cZ:=(((ptX F2 P).1.1,(ptX F2 P).2.1),((ptY F2 P).1.1,(ptY F2 P).2.1),uY P)
theorem aNQ:∀{P:Pt Fq},On F1 (fm 3) P→(Yj (tn1 P)).1=0
 | none,_=>by
  have e:=JO 0 0 true;rw[if_pos rfl,if_pos ⟨by show wv 0=0; rfl,by show wv 0=0; rfl⟩]at e;show (zO 0 0 true).1=0;rw[e]
 | some p,h=>aRP h
theorem FI:∀{P:Pt Q2},On F2 dE P→(fO (MA P)).1=0
 | none,_=>by
  have e:=wT (0,0) (0,0) true;rw[if_pos rfl,if_pos ⟨⟨by show wv 0=0; rfl,by show wv 0=0; rfl⟩,by show wv 0=0; rfl,by show wv 0=0; rfl⟩]at e;show (iN (0,0) (0,0) true).1=0;rw[e]
 | some p,h=>aRN h
theorem aFZ:∀P:Pt Q2,af2 (MA P)=P
 | none=>rfl
 | some p=>aSu p.1 p.2
theorem aFl (P:C2):UQ (MA P.1)=P:=Subtype.ext ((SW (FI P.2)).trans (aFZ P.1))
theorem tM2 (P:C2) (n:Nat):kG (fun _=>MA P.1) (fun _=>n) 1=((bC.grp.ns (wv n) P).1,0):=by
 rw[Ml,if_neg (fun q=>q (FI P.2)),aFl]
theorem tN2 (P:C2):uX (MA P.1)=((bC.grp.neg P).1,0):=by
 rw[aIq,if_neg (fun q=>q (FI P.2)),aFl]
theorem tC1 (P:C1):(Yj (tn1 P.1)).1=0:=aNQ P.2
theorem tC2 (P:C2):(fO (MA P.1)).1=0:=FI P.2
open Classical
section
variable {R:Type} {K:CR R} {inv:R→R} {b:R}
structure Tw (K:CR R) (b:R) (s:R→R) (k:R):Prop where
 add:∀x y,s (K.add x y)=K.add (s x) (s y)
 mul:∀x y,s (K.mul x y)=K.mul (s x) (s y)
 neg:∀x,s (K.neg x)=K.neg (s x)
 zero:s K.zero=K.zero
 ss:∀x,s (s x)=x
 k0:k≠K.zero
 hb:K.mul (K.mul (K.mul (K.mul k k) k) (K.mul (K.mul k k) k)) (s b)=b
def tw (K:CR R) (s:R→R) (k:R):Pt R→Pt R
 | none=>none
 | some p=>some (K.mul (s p.1) (K.mul k k),K.mul (s p.2) (K.mul (K.mul k k) k))
variable {s:R→R} {k:R}
theorem Tw.inj (t:Tw K b s k) {x y:R} (h:s x=s y):x=y:=by rw[←t.ss x,h,t.ss]
theorem Tw.sub (t:Tw K b s k) (x y:R):s (K.sub x y)=K.sub (s x) (s y):=by
 show s (K.add x (K.neg y))=K.add (s x) (K.neg (s y));rw[t.add,t.neg]
theorem EI (E:EC K inv b) {x y c:R} (hc:c≠K.zero) (h:K.mul x c=K.mul y c):x=y:=by
 have h1:=congrArg (fun z=>K.mul z (inv c)) h;have h2:=E.F.inv c hc;simp only[K.mul_assoc,h2,K.mul_one]at h1;exact h1
theorem Tw.k2 (t:Tw K b s k) (E:EC K inv b):K.mul k k≠K.zero:=E.F.mul_ne t.k0 t.k0
theorem Tw.k3 (t:Tw K b s k) (E:EC K inv b):K.mul (K.mul k k) k≠K.zero:=E.F.mul_ne (t.k2 E) t.k0
theorem aLD (t:Tw K b s k) (E:EC K inv b):∀{P:Pt R},On K b P→On K b (tw K s k P)
 | none,_=>trivial
 | some p,h=>by
  have h':K.mul p.2 p.2=K.add (K.mul p.1 (K.mul p.1 p.1)) b:=h;have h1:=congrArg s h';rw[t.mul,t.add,t.mul,t.mul]at h1;show K.mul (K.mul (s p.2) (K.mul (K.mul k k) k)) (K.mul (s p.2) (K.mul (K.mul k k) k))=K.add (K.mul (K.mul (s p.1) (K.mul k k)) (K.mul (K.mul (s p.1) (K.mul k k)) (K.mul (s p.1) (K.mul k k)))) b;have e1:K.mul (K.mul (s p.2) (K.mul (K.mul k k) k)) (K.mul (s p.2) (K.mul (K.mul k k) k))=K.mul (K.mul (K.mul (K.mul k k) k) (K.mul (K.mul k k) k)) (K.mul (s p.2) (s p.2)):=aE K (aW K [s p.2,k]) (Z0*(Z1*Z1*Z1)*(Z0*(Z1*Z1*Z1))) (Z1*Z1*Z1*(Z1*Z1*Z1)*(Z0*Z0)) (by decide);have e2:K.mul (K.mul (s p.1) (K.mul k k)) (K.mul (K.mul (s p.1) (K.mul k k)) (K.mul (s p.1) (K.mul k k)))=K.mul (K.mul (K.mul (K.mul k k) k) (K.mul (K.mul k k) k)) (K.mul (s p.1) (K.mul (s p.1) (s p.1))):=aE K (aW K [s p.1,k]) (Z0*(Z1*Z1)*(Z0*(Z1*Z1)*(Z0*(Z1*Z1)))) (Z1*Z1*Z1*(Z1*Z1*Z1)*(Z0*(Z0*Z0))) (by decide);rw[e1,e2,h1,K.mul_add,t.hb]
theorem UZ (t:Tw K b s k) (E:EC K inv b) {x1 y1 x2 y2:R} (hp:On K b (some (x1,y1))) (hq:On K b (some (x2,y2))) (h:¬(x1=x2∧K.add y1 y2=K.zero)) :
  dN K inv (K.mul (s x1) (K.mul k k)) (K.mul (s y1) (K.mul (K.mul k k) k)) (K.mul (s x2) (K.mul k k)) (K.mul (s y2) (K.mul (K.mul k k) k))=K.mul (s (dN K inv x1 y1 x2 y2)) k:=by
 by_cases hx:x1=x2
 ·subst hx;have hy:K.add y1 y2≠K.zero:=fun e=>h ⟨rfl,e⟩
  have hyy:y1=y2:=by
   apply Classical.byContradiction;intro hn;exact hy (FN E (show K.mul y1 y1=K.mul y2 y2 from (show K.mul y1 y1=_ from hp).trans (show K.mul y2 y2=_ from hq).symm) hn)
  subst hyy;have hl:K.mul (dN K inv x1 y1 x1 y1) (K.add y1 y1)=K.add (K.add (K.mul x1 x1) (K.mul x1 x1)) (K.mul x1 x1):=by
   unfold dN;rw[if_pos rfl,K.mul_assoc,K.mul_comm (inv _),E.F.inv _ hy,K.mul_one]
  generalize dN K inv x1 y1 x1 y1=l at hl ⊢;have h1:=congrArg s hl;rw[t.mul,t.add,t.add,t.add,t.mul]at h1;have hys:K.add (s y1) (s y1)≠K.zero:=fun e=>hy (t.inj (by rw[t.add,t.zero]; exact e))
  refine zV E ?_ ?_
  ·intro e;refine hys ?_;apply EI E (t.k3 E);rw[K.add_mul,e,K.mul_comm K.zero,K.mul_zero]
  ·have e1:K.mul (K.mul (s l) k) (K.add (K.mul (s y1) (K.mul (K.mul k k) k)) (K.mul (s y1) (K.mul (K.mul k k) k)))=K.mul (K.mul (s l) (K.add (s y1) (s y1))) (K.mul (K.mul k k) (K.mul k k)):=aE K (aW K [s l,k,s y1]) (Z0*Z1*(Z2*(Z1*Z1*Z1)+Z2*(Z1*Z1*Z1))) (Z0*(Z2+Z2)*(Z1*Z1*(Z1*Z1))) (by decide);rw[e1,h1];exact aE K (aW K [s x1,k]) ((Z0*Z0+Z0*Z0+Z0*Z0)*(Z1*Z1*(Z1*Z1))) (Z0*(Z1*Z1)*(Z0*(Z1*Z1))+Z0*(Z1*Z1)*(Z0*(Z1*Z1))+Z0*(Z1*Z1)*(Z0*(Z1*Z1))) (by decide)
 ·have hl:K.mul (dN K inv x1 y1 x2 y2) (K.sub x2 x1)=K.sub y2 y1:=by
   unfold dN;rw[if_neg hx,K.mul_assoc,K.mul_comm (inv _),E.F.inv _ (PO fun e=>hx e.symm),K.mul_one]
  generalize dN K inv x1 y1 x2 y2=l at hl ⊢;have h1:=congrArg s hl;rw[t.mul,t.sub,t.sub]at h1;refine sJ E (fun e=>hx (t.inj (EI E (t.k2 E) e))) ?_;have e1:K.mul (K.mul (s l) k) (K.sub (K.mul (s x2) (K.mul k k)) (K.mul (s x1) (K.mul k k)))=K.mul (K.mul (s l) (K.sub (s x2) (s x1))) (K.mul (K.mul k k) k):=aE K (aW K [s l,k,s x1,s x2]) (Z0*Z1*(Z3*(Z1*Z1)-Z2*(Z1*Z1))) (Z0*(Z3-Z2)*(Z1*Z1*Z1)) (by decide);rw[e1,h1];exact aE K (aW K [s y1,k,s y2]) ((Z2-Z0)*(Z1*Z1*Z1)) (Z2*(Z1*Z1*Z1)-Z0*(Z1*Z1*Z1)) (by decide)
theorem Zv (t:Tw K b s k) (E:EC K inv b):∀{P Q:Pt R},On K b P→On K b Q→tw K s k (iR K inv P Q)=iR K inv (tw K s k P) (tw K s k Q)
 | none,_,_,_=>rfl
 | some p,none,_,_=>rfl
 | some p,some q,hp,hq=>by
  by_cases h:p.1=q.1∧K.add p.2 q.2=K.zero
  ·rw[kW h];refine (kW ⟨?_,?_⟩).symm
   ·show K.mul (s p.1) _=K.mul (s q.1) _;rw[h.1]
   ·show K.add (K.mul (s p.2) _) (K.mul (s q.2) _)=K.zero;rw[←K.add_mul,←t.add,h.2,t.zero,K.mul_comm,K.mul_zero]
  ·rw[jU h];have h':¬(K.mul (s p.1) (K.mul k k)=K.mul (s q.1) (K.mul k k)∧K.add (K.mul (s p.2) (K.mul (K.mul k k) k)) (K.mul (s q.2) (K.mul (K.mul k k) k))=K.zero):=fun e=>h ⟨t.inj (EI E (t.k2 E) e.1),by
    have e2:=e.2;rw[←K.add_mul,←t.add]at e2;exact t.inj (by rw[t.zero]; exact EI E (t.k3 E) (by rw[e2,K.mul_comm K.zero,K.mul_zero]))⟩
   have hS:=jU (K:=K) (inv:=inv) (p:=(K.mul (s p.1) (K.mul k k),K.mul (s p.2) (K.mul (K.mul k k) k))) (q:=(K.mul (s q.1) (K.mul k k),K.mul (s q.2) (K.mul (K.mul k k) k))) h';refine Eq.trans ?_ hS.symm;rw[UZ t E (x1:=p.1) (y1:=p.2) (x2:=q.1) (y2:=q.2) hp hq h];generalize dN K inv p.1 p.2 q.1 q.2=l;have ex:s (sx K l p.1 q.1)=K.sub (K.sub (K.mul (s l) (s l)) (s p.1)) (s q.1):=by
    unfold sx;rw[t.sub,t.sub,t.mul]
   have ey:s (sy K l p.1 p.2 q.1)=K.sub (K.mul (s l) (K.sub (s p.1) (s (sx K l p.1 q.1)))) (s p.2):=by
    unfold sy;rw[t.sub,t.mul,t.sub]
   have fx:K.mul (s (sx K l p.1 q.1)) (K.mul k k)=sx K (K.mul (s l) k) (K.mul (s p.1) (K.mul k k)) (K.mul (s q.1) (K.mul k k)):=by
    rw[ex];exact aE K (aW K [s l,k,s p.1,s q.1]) ((Z0*Z0-Z2-Z3)*(Z1*Z1)) (Z0*Z1*(Z0*Z1)-Z2*(Z1*Z1)-Z3*(Z1*Z1)) (by decide)
   refine congrArg some (Prod.ext fx ?_);show K.mul (s (sy K l p.1 p.2 q.1)) (K.mul (K.mul k k) k)=sy K (K.mul (s l) k) (K.mul (s p.1) (K.mul k k)) (K.mul (s p.2) (K.mul (K.mul k k) k)) (K.mul (s q.1) (K.mul k k));rw[ey];unfold sy;rw[←fx];generalize s (sx K l p.1 q.1)=S;exact aE K (aW K [s l,k,s p.1,S,s p.2]) ((Z0*(Z2-Z3)-Z4)*(Z1*Z1*Z1)) (Z0*Z1*(Z2*(Z1*Z1)-Z3*(Z1*Z1))-Z4*(Z1*Z1*Z1)) (by decide)
end
def kE:Q2:=(⟨8376118865763821496583973867626364092589906065868298776909617916018768340080,by decide⟩,⟨16469823323077808223889137241176536799009286646108169935659301613961712198316,by decide⟩)
theorem EK:F2.mul kE kE=jQ:=of_decide_eq_true (by kernel_rfl)
theorem Iz:F2.mul (F2.mul kE kE) kE=nJ:=of_decide_eq_true (by kernel_rfl)
theorem aFu (x y:Q2):aL (F2.add x y)=F2.add (aL x) (aL y):=Prod.ext rfl (aE F1 (aW F1 [x.2,y.2]) (-(Z0+Z1)) (-Z0-Z1) (by decide))
theorem TB (x y:Q2):aL (F2.mul x y)=F2.mul (aL x) (aL y):=by
 refine Prod.ext ?_ ?_
 ·exact aE F1 (aW F1 [x.1,x.2,y.1,y.2]) (Z0*Z2+(-RE.one)*(Z1*Z3)) (Z0*Z2+(-RE.one)*((-Z1)*(-Z3))) (by decide)
 ·exact aE F1 (aW F1 [x.1,x.2,y.1,y.2]) (-(Z0*Z3+Z1*Z2)) (Z0*(-Z3)+(-Z1)*Z2) (by decide)
theorem LZ:Tw F2 dE aL kE where
 add:=aFu
 mul:=TB
 neg:=fun x=>rfl
 zero:=yZ
 ss:=fun x=>Prod.ext rfl (aE F1 (aW F1 [x.2]) (-(-Z0)) (.v 0) (by decide))
 k0:=of_decide_eq_true (by kernel_rfl)
 hb:=of_decide_eq_true (by kernel_rfl)
theorem sP:∀P:Pt Q2,LL P=tw F2 aL kE P
 | none=>rfl
 | some p=>by
  show some (F2.mul (aL p.1) jQ,F2.mul (aL p.2) nJ)=some (F2.mul (aL p.1) (F2.mul kE kE),F2.mul (aL p.2) (F2.mul (F2.mul kE kE) kE));rw[EK,←Iz,EK]
def pA (P:C2):C2:=⟨LL P.1,by rw[sP]; exact aLD LZ bC P.2⟩
theorem Mu (P Q:C2):pA (bC.grp.add P Q)=bC.grp.add (pA P) (pA Q):=Subtype.ext (by
 show LL (iR F2 dW P.1 Q.1)=iR F2 dW (LL P.1) (LL Q.1);rw[sP,sP,sP];exact Zv LZ bC P.2 Q.2)
theorem GI (P:C2):∀n,pA (bC.grp.ns n P)=bC.grp.ns n (pA P)
 | 0=>rfl
 | n+1=>by
  show pA (bC.grp.add (bC.grp.ns n P) P)=bC.grp.add (bC.grp.ns n (pA P)) (pA P);rw[Mu,GI P n]
theorem aTG (P:C2):eM (MA P.1)=((pA P).1,0):=by
 unfold eM;rw[if_neg (fun q=>q (FI P.2)),aFZ];rfl
namespace AG
variable {G:Type} (A:AG G)
theorem ns_modz {g:G} {n:Nat} (h:A.ns n g=A.zero) (m:Nat):A.ns (m%n) g=A.ns m g:=by
 conv=>rhs; rw[←Nat.div_add_mod m n,A.ns_add,A.ns_mul,h,A.ns_zero,A.zadd]
theorem ns_gcd {g:G} (a b:Nat):A.ns a g=A.zero→A.ns b g=A.zero→A.ns (Nat.gcd a b) g=A.zero:=by
 induction a,b using Nat.gcd.induction with
 | H0 n=>intro _ h; rw[Nat.gcd_zero_left]; exact h
 | H1 m n hm ih =>
  intro h1 h2;rw[Nat.gcd_rec];exact ih (by rw[A.ns_modz h1]; exact h2) h1
theorem exact {g:G} {N:Nat} {l:List Nat} (hl:l.foldr (· * ·) 1=N) (hp:∀q,q∈l→eJ q) (h0:A.ns N g=A.zero) (hq:∀q,q∈l→A.ns (N/q) g≠A.zero) (k:Nat) (hk:0<k) (hN:k<N):A.ns k g≠A.zero:=fun h=>by
 have hd:=A.ns_gcd k N h h0;obtain⟨e,he⟩:=Nat.gcd_dvd_right k N;have hdk:Nat.gcd k N≤k:=Nat.le_of_dvd hk (Nat.gcd_dvd_left k N);have hd0:0<Nat.gcd k N:=Nat.gcd_pos_of_pos_left N hk;have he1:1<e:=by
  rcases Nat.lt_or_ge 1 e with q|q
  ·exact q
  ·have:Nat.gcd k N*e≤Nat.gcd k N*1:=Nat.mul_le_mul_left _ q;omega
 obtain⟨q,hql,f,hf⟩:=xX l e (by rw[hl]; exact⟨Nat.gcd k N,by rw[Nat.mul_comm]; exact he⟩) he1 hp;refine hq q hql ?_;have hq0:0<q:=Nat.lt_trans Nat.zero_lt_one (hp q hql).1;have e1:N/q=Nat.gcd k N*f:=by
  rw[Nat.div_eq_of_eq_mul_left hq0];rw[Nat.mul_assoc,Nat.mul_comm f q,←hf];exact he
 rw[e1,A.ns_mul,hd,A.ns_zero]
theorem ns_inj {g:G} {N:Nat} (h:∀k,0<k→k<N→A.ns k g≠A.zero) {i j:Nat} (hi:i<N) (hj:j<N) (e:A.ns i g=A.ns j g):i=j:=by
 have key:∀i j,i<j→j<N→A.ns i g=A.ns j g→False:=fun i j hij hj e=>by
  refine h (j-i) (by omega) (by omega) ?_;have:A.ns j g=A.add (A.ns i g) (A.ns (j-i) g):=by rw[←A.ns_add,Nat.add_sub_cancel' (Nat.le_of_lt hij)]
  rw[this]at e;refine A.cancel (a:=A.ns i g) ?_;rw[←e,A.addz]
 rcases Nat.lt_trichotomy i j with q|q|q
 ·exact (key i j q hj e).elim
 ·exact q
 ·exact (key j i q hi e.symm).elim
theorem ns_dvd {g:G} {N:Nat} (hN:0<N) (h0:A.ns N g=A.zero) (h:∀k,0<k→k<N→A.ns k g≠A.zero) (a:Nat):A.ns a g=A.zero↔N∣a:=by
 constructor
 ·intro e;refine Nat.dvd_of_mod_eq_zero ?_
  rcases Nat.eq_zero_or_pos (a%N)with q|q
  ·exact q
  ·exact (h (a%N) q (Nat.mod_lt _ hN) (by rw[A.ns_modz h0]; exact e)).elim
 ·rintro⟨f,rfl⟩
  rw[A.ns_mul,h0,A.ns_zero]
theorem ns_back {g:G} {N:Nat} (h0:A.ns N g=A.zero) {j:Nat} (hj:j≤N):A.add (A.ns j g) (A.ns (N-j) g)=A.zero:=by
 rw[←A.ns_add,Nat.add_sub_cancel' hj,h0]
theorem cyclic {g:G} {N M:Nat} (hN:N%2=1) (h0:A.ns N g=A.zero) (h:∀k,0<k→k<N→A.ns k g≠A.zero) (two:∀P,A.add P P=A.zero→P=A.zero)
  (code:G→Nat) (hc:∀P,code P<M) (hi:∀P Q,code P=code Q→P=Q) (hM:M<3*N) (P:G):∃k,P=A.ns k g:=by
 apply Classical.byContradiction;intro hP;have hsub:∀i j,j<N→∀Q,A.ns i g=A.add Q (A.ns j g)→∃k,Q=A.ns k g:=fun i j hj Q e=>by
  refine⟨i+(N-j),?_⟩;rw[A.ns_add,e,A.assoc,A.ns_back h0 (Nat.le_of_lt hj),A.addz]
 by_cases hD:∃k,A.add P P=A.ns k g
 ·obtain⟨k,hk⟩:=hD;obtain⟨j,hj⟩:∃j,A.ns (j+j) g=A.add P P:=by
   rcases Nat.mod_two_eq_zero_or_one k with q|q
   ·exact⟨k/2,by rw[hk,show k/2+k/2=k by omega]⟩
   ·refine⟨(k+N)/2,?_⟩;rw[hk,show (k+N)/2+(k+N)/2=k+N by omega,A.ns_add,h0,A.addz]
  have hz:=two (A.add P (A.neg (A.ns j g))) (by
   rw[A.add4,←hj,←A.neg_add,←A.ns_add,A.addn])
  refine hP ⟨j,?_⟩;refine A.cancel (a:=A.neg (A.ns j g)) ?_;rw[A.nadd,A.comm,hz]
 ·have pg:=aBW (3*N) (fun i=>if i<N then code (A.ns i g)else if i<2*N then code (A.add P (A.ns (i-N) g))else code (A.add (A.add P P) (A.ns (i-2*N) g)))
   (fun i _=>by
    show (if i<N then _ else if i<2*N then _ else _)<3*N;split
    ·exact Nat.lt_trans (hc _) hM
    ·split
     ·exact Nat.lt_trans (hc _) hM
     ·exact Nat.lt_trans (hc _) hM)
   (fun i j hi3 hj3 e=>by
    have e':(if i<N then code (A.ns i g)else if i<2*N then code (A.add P (A.ns (i-N) g))else code (A.add (A.add P P) (A.ns (i-2*N) g)))=(if j<N then code (A.ns j g)else if j<2*N then code (A.add P (A.ns (j-N) g))else code (A.add (A.add P P) (A.ns (j-2*N) g))):=e
    by_cases i1:i<N
    ·rw[if_pos i1]at e'
     by_cases j1:j<N
     ·rw[if_pos j1]at e';exact A.ns_inj h i1 j1 (hi _ _ e')
     ·rw[if_neg j1]at e'
      by_cases j2:j<2*N
      ·rw[if_pos j2]at e';exact (hP (hsub _ _ (by omega) _ (hi _ _ e'))).elim
      ·rw[if_neg j2]at e';exact (hD (hsub _ _ (by omega) _ (hi _ _ e'))).elim
    ·rw[if_neg i1]at e'
     by_cases i2:i<2*N
     ·rw[if_pos i2]at e'
      by_cases j1:j<N
      ·rw[if_pos j1]at e';exact (hP (hsub _ _ (by omega) _ (hi _ _ e'.symm))).elim
      ·rw[if_neg j1]at e'
       by_cases j2:j<2*N
       ·rw[if_pos j2]at e';have:=A.ns_inj h (i:=i-N) (j:=j-N) (by omega) (by omega) (A.cancel (hi _ _ e'));omega
       ·rw[if_neg j2]at e';have e2:=hi _ _ e';rw[A.assoc]at e2;exact (hP (hsub _ _ (by omega) _ (A.cancel e2))).elim
     ·rw[if_neg i2]at e'
      by_cases j1:j<N
      ·rw[if_pos j1]at e';exact (hD (hsub _ _ (by omega) _ (hi _ _ e'.symm))).elim
      ·rw[if_neg j1]at e'
       by_cases j2:j<2*N
       ·rw[if_pos j2]at e';have e2:=(hi _ _ e').symm;rw[A.assoc]at e2;exact (hP (hsub _ _ (by omega) _ (A.cancel e2))).elim
       ·rw[if_neg j2]at e';have:=A.ns_inj h (i:=i-2*N) (j:=j-2*N) (by omega) (by omega) (A.cancel (hi _ _ e'));omega) M hM
  obtain⟨i,_,hiM⟩:=pg;have:(if i<N then code (A.ns i g)else if i<2*N then code (A.add P (A.ns (i-N) g))else code (A.add (A.add P P) (A.ns (i-2*N) g)))=M:=hiM;have hlt:(if i<N then code (A.ns i g)else if i<2*N then code (A.add P (A.ns (i-N) g))else code (A.add (A.add P P) (A.ns (i-2*N) g)))<M:=by
   split
   ·exact hc _
   ·split
    ·exact hc _
    ·exact hc _
  omega
end AG
end Go.Proofs.YtjkpglhlmknciaaGreat.Ex
namespace Go.Proofs.YtjkpglhlmknciaaGreat
open Go.Proofs.Tryz
theorem Wm:eJ 10069:=aS 10069 100 (by decide) (by decide) (by kernel_rfl)
theorem aIZ:eJ 181:=aS 181 13 (by decide) (by decide) (by kernel_rfl)
theorem QH:Root 5864401 38:=by
 refine bF (l:=[2,2,2,2,3,3,3,3,5,5,181]) (by kernel_rfl) fun q hq => ?_
 simp only[List.mem_cons,List.not_mem_nil,or_false]at hq
 rcases hq with rfl|rfl|rfl|rfl|rfl|rfl|rfl|rfl|rfl|rfl|rfl
 ·exact aX
 ·exact aX
 ·exact aX
 ·exact aX
 ·exact fQ
 ·exact fQ
 ·exact fQ
 ·exact fQ
 ·exact lH
 ·exact lH
 ·exact aIZ
theorem ZC:eJ 5864401:=QH.prm
theorem aIY:eJ 199:=aS 199 14 (by decide) (by decide) (by kernel_rfl)
theorem aBJ:eJ 1511:=aS 1511 38 (by decide) (by decide) (by kernel_rfl)
theorem YL:Root 601379 2:=by
 refine bF (l:=[2,199,1511]) (by kernel_rfl) fun q hq => ?_
 simp only[List.mem_cons,List.not_mem_nil,or_false]at hq
 rcases hq with rfl|rfl|rfl
 ·exact aX
 ·exact aIY
 ·exact aBJ
theorem Hu:eJ 601379:=YL.prm
theorem AC:Root 17367825521 3:=by
 refine bF (l:=[2,2,2,2,5,19,19,601379]) (by kernel_rfl) fun q hq => ?_
 simp only[List.mem_cons,List.not_mem_nil,or_false]at hq
 rcases hq with rfl|rfl|rfl|rfl|rfl|rfl|rfl|rfl
 ·exact aX
 ·exact aX
 ·exact aX
 ·exact aX
 ·exact lH
 ·exact AJ
 ·exact AJ
 ·exact Hu
theorem DJ:eJ 17367825521:=AC.prm
theorem vU:Root 1875725156269 2:=by
 refine bF (l:=[2,2,3,3,3,17367825521]) (by kernel_rfl) fun q hq => ?_
 simp only[List.mem_cons,List.not_mem_nil,or_false]at hq
 rcases hq with rfl|rfl|rfl|rfl|rfl|rfl
 ·exact aX
 ·exact aX
 ·exact fQ
 ·exact fQ
 ·exact fQ
 ·exact DJ
theorem xZ:eJ 1875725156269:=vU.prm
theorem aOY:eJ 59:=aS 59 7 (by decide) (by decide) (by kernel_rfl)
theorem aOZ:eJ 43:=aS 43 6 (by decide) (by decide) (by kernel_rfl)
theorem aBH:eJ 23:=aS 23 4 (by decide) (by decide) (by kernel_rfl)
theorem aIR:eJ 727:=aS 727 26 (by decide) (by decide) (by kernel_rfl)
theorem YP:Root 133769 3:=by
 refine bF (l:=[2,2,2,23,727]) (by kernel_rfl) fun q hq => ?_
 simp only[List.mem_cons,List.not_mem_nil,or_false]at hq
 rcases hq with rfl|rfl|rfl|rfl|rfl
 ·exact aX
 ·exact aX
 ·exact aX
 ·exact aBH
 ·exact aIR
theorem Hz:eJ 133769:=YP.prm
theorem aOX:eJ 61:=aS 61 7 (by decide) (by decide) (by kernel_rfl)
theorem aJb:eJ 149:=aS 149 12 (by decide) (by decide) (by kernel_rfl)
theorem QI:Root 5835139 3:=by
 refine bF (l:=[2,3,61,107,149]) (by kernel_rfl) fun q hq => ?_
 simp only[List.mem_cons,List.not_mem_nil,or_false]at hq
 rcases hq with rfl|rfl|rfl|rfl|rfl
 ·exact aX
 ·exact fQ
 ·exact aOX
 ·exact Mw
 ·exact aJb
theorem ZD:eJ 5835139:=QI.prm
theorem GA:Root 758568071 14:=by
 refine bF (l:=[2,5,13,5835139]) (by kernel_rfl) fun q hq => ?_
 simp only[List.mem_cons,List.not_mem_nil,or_false]at hq
 rcases hq with rfl|rfl|rfl|rfl
 ·exact aX
 ·exact lH
 ·exact QS
 ·exact ZD
theorem LM:eJ 758568071:=GA.prm
theorem oN:Root 1309000310535827101 2:=by
 refine bF (l:=[2,2,3,5,5,43,133769,758568071]) (by kernel_rfl) fun q hq => ?_
 simp only[List.mem_cons,List.not_mem_nil,or_false]at hq
 rcases hq with rfl|rfl|rfl|rfl|rfl|rfl|rfl|rfl
 ·exact aX
 ·exact aX
 ·exact fQ
 ·exact lH
 ·exact lH
 ·exact aOZ
 ·exact Hz
 ·exact LM
theorem pM:eJ 1309000310535827101:=oN.prm
theorem aJa:eJ 157:=aS 157 12 (by decide) (by decide) (by kernel_rfl)
theorem QN:Root 1233079 11:=by
 refine bF (l:=[2,3,7,11,17,157]) (by kernel_rfl) fun q hq => ?_
 simp only[List.mem_cons,List.not_mem_nil,or_false]at hq
 rcases hq with rfl|rfl|rfl|rfl|rfl|rfl
 ·exact aX
 ·exact fQ
 ·exact GK
 ·exact QT
 ·exact aBI
 ·exact aJa
theorem ZJ:eJ 1233079:=QN.prm
theorem aBL:eJ 1031:=aS 1031 32 (by decide) (by decide) (by kernel_rfl)
theorem Wi:eJ 77339:=aS 77339 278 (by decide) (by decide) (by kernel_rfl)
theorem aBF:eJ 3359:=aS 3359 57 (by decide) (by decide) (by kernel_rfl)
theorem YN:Root 268721 3:=by
 refine bF (l:=[2,2,2,2,5,3359]) (by kernel_rfl) fun q hq => ?_
 simp only[List.mem_cons,List.not_mem_nil,or_false]at hq
 rcases hq with rfl|rfl|rfl|rfl|rfl|rfl
 ·exact aX
 ·exact aX
 ·exact aX
 ·exact aX
 ·exact lH
 ·exact aBF
theorem Hw:eJ 268721:=YN.prm
theorem QL:Root 1612327 5:=by
 refine bF (l:=[2,3,268721]) (by kernel_rfl) fun q hq => ?_
 simp only[List.mem_cons,List.not_mem_nil,or_false]at hq
 rcases hq with rfl|rfl|rfl
 ·exact aX
 ·exact fQ
 ·exact Hw
theorem ZH:eJ 1612327:=QL.prm
theorem sO:Root 677736056450657 3:=by
 refine bF (l:=[2,2,2,2,2,7,23,83,983,1612327]) (by kernel_rfl) fun q hq => ?_
 simp only[List.mem_cons,List.not_mem_nil,or_false]at hq
 rcases hq with rfl|rfl|rfl|rfl|rfl|rfl|rfl|rfl|rfl|rfl
 ·exact aX
 ·exact aX
 ·exact aX
 ·exact aX
 ·exact aX
 ·exact GK
 ·exact aBH
 ·exact aBB
 ·exact QR
 ·exact ZH
theorem uP:eJ 677736056450657:=sO.prm
theorem nC:Root 209661715479349446893 2:=by
 refine bF (l:=[2,2,77339,677736056450657]) (by kernel_rfl) fun q hq => ?_
 simp only[List.mem_cons,List.not_mem_nil,or_false]at hq
 rcases hq with rfl|rfl|rfl|rfl
 ·exact aX
 ·exact aX
 ·exact Wi
 ·exact uP
theorem nX:eJ 209661715479349446893:=nC.prm
theorem kP:Root 3458579658547348475946929 3:=by
 refine bF (l:=[2,2,2,2,1031,209661715479349446893]) (by kernel_rfl) fun q hq => ?_
 simp only[List.mem_cons,List.not_mem_nil,or_false]at hq
 rcases hq with rfl|rfl|rfl|rfl|rfl|rfl
 ·exact aX
 ·exact aX
 ·exact aX
 ·exact aX
 ·exact aBL
 ·exact nX
theorem lI:eJ 3458579658547348475946929:=kP.prm
theorem gT:Root 213235097339095295568608163219551 31:=by
 refine bF (l:=[2,5,5,1233079,3458579658547348475946929]) (by kernel_rfl) fun q hq => ?_
 simp only[List.mem_cons,List.not_mem_nil,or_false]at hq
 rcases hq with rfl|rfl|rfl|rfl|rfl
 ·exact aX
 ·exact lH
 ·exact lH
 ·exact ZJ
 ·exact lI
theorem hZ:eJ 213235097339095295568608163219551:=gT.prm
theorem dH:Root 197620364512881247228717050342013327560683201906968909 2:=by
 refine bF (l:=[2,2,3,59,1309000310535827101,213235097339095295568608163219551]) (by kernel_rfl) fun q hq => ?_
 simp only[List.mem_cons,List.not_mem_nil,or_false]at hq
 rcases hq with rfl|rfl|rfl|rfl|rfl|rfl
 ·exact aX
 ·exact aX
 ·exact fQ
 ·exact aOY
 ·exact pM
 ·exact hZ
theorem dK:eJ 197620364512881247228717050342013327560683201906968909:=dH.prm
end Go.Proofs.YtjkpglhlmknciaaGreat
