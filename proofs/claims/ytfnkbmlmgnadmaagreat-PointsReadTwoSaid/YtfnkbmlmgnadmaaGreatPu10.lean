/- Pu10 -/
import Derived.Test.YtfnkbmlmgnadmaaGreatPu09
import Derived.Test.YtfnkbmlmgnadmaaGreatPu03
import Derived.Test.YtfnkbmlmgnadmaaGreatPu02
import Derived.Test.YtfnkbmlmgnadmaaGreatPu07
set_option maxRecDepth 100000
set_option linter.unusedVariables false
set_option linter.unusedSimpArgs false
noncomputable section
namespace Go.Proofs.YtfnkbmlmgnadmaaGreat.Ex
open Go.Proofs.Tryz
section
variable {A : Type} {K : CR A}
theorem aMb {M N L1 R1 c1 L2 R2 c2 L3 R3 c3 L4 R4 c4 : A} (h1 : L1 = R1) (h2 : L2 = R2) (h3 : L3 = R3) (h4 : L4 = R4) (e : K.add M (K.neg N) = K.add (K.add (K.add (K.mul c1 (K.add L1 (K.neg R1))) (K.mul c2 (K.add L2 (K.neg R2)))) (K.mul c3 (K.add L3 (K.neg R3)))) (K.mul c4 (K.add L4 (K.neg R4)))) : M = N:=by
 apply jS (K:=K);rw [e,eV h1,eV h2,eV h3,eV h4,K.mul_zero,K.mul_zero,K.mul_zero,K.mul_zero,K.add_zero,K.add_zero,K.add_zero]
def op (K : CR A) (X Y x y : A) (S : A → Prop) : A → Prop:=fun z => ∃ s t,S s ∧ S t ∧ z = K.add (K.mul (K.sub X x) s) (K.mul (K.sub Y y) t)
structure Idl (K : CR A) (S : A → Prop) : Prop where
 add : ∀ a b,S a → S b → S (K.add a b)
 mul : ∀ a c,S a → S (K.mul c a)
theorem Idl.neg {S : A → Prop} (h : Idl K S) {a : A} (ha : S a) : S (K.neg a):=by
 have:=h.mul a (K.neg K.one) ha
 rwa [K.neg_mul,K.one_mul] at this
theorem Idl.sub {S : A → Prop} (h : Idl K S) {a b : A} (ha : S a) (hb : S b) : S (K.sub a b):=h.add _ _ ha (h.neg hb)
def Eqv (K : CR A) (S T : A → Prop) : Prop:=∃ a b,a ≠ K.zero ∧ b ≠ K.zero ∧ (∀ s,S s → ∃ t,T t ∧ K.mul a s = K.mul b t) ∧ (∀ t,T t → ∃ s,S s ∧ K.mul a s = K.mul b t)
def Dom (K : CR A) : Prop:=K.one ≠ K.zero ∧ ∀ a b,a ≠ K.zero → b ≠ K.zero → K.mul a b ≠ K.zero
theorem Eqv.refl (D : Dom K) (S : A → Prop) : Eqv K S S:=⟨K.one,K.one,D.1,D.1,fun s h => ⟨s,h,rfl⟩,fun s h => ⟨s,h,rfl⟩⟩
theorem Eqv.symm {S T : A → Prop} (h : Eqv K S T) : Eqv K T S:=by
 obtain ⟨a,b,ha,hb,h1,h2⟩:=h;exact ⟨b,a,hb,ha,fun t ht => by obtain ⟨s,hs,e⟩:=h2 t ht; exact ⟨s,hs,e.symm⟩,fun s hs => by obtain ⟨t,ht,e⟩:=h1 s hs; exact ⟨t,ht,e.symm⟩⟩
theorem Eqv.trans (D : Dom K) {S T U : A → Prop} (h : Eqv K S T) (g : Eqv K T U) : Eqv K S U:=by
 obtain ⟨a,b,ha,hb,h1,h2⟩:=h;obtain ⟨c,d,hc,hd,g1,g2⟩:=g;have key : ∀ s t u,K.mul a s = K.mul b t → K.mul c t = K.mul d u → K.mul (K.mul c a) s = K.mul (K.mul b d) u:=fun s t u e f => by
  rw [K.mul_assoc,e,K.mul_left_comm,f,K.mul_assoc]
 refine ⟨K.mul c a,K.mul b d,D.2 _ _ hc ha,D.2 _ _ hb hd,fun s hs => ?_,fun u hu => ?_⟩
 ·obtain ⟨t,ht,e⟩:=h1 s hs;obtain ⟨u,hu,f⟩:=g1 t ht;exact ⟨u,hu,key s t u e f⟩
 ·obtain ⟨t,ht,f⟩:=g2 u hu;obtain ⟨s,hs,e⟩:=h2 t ht;exact ⟨s,hs,key s t u e f⟩
variable {X Y : A}
theorem QD {x y al be s s2 t t2 : A} (e : K.mul al s = K.mul be t) (f : K.mul al s2 = K.mul be t2) : K.mul al (K.add (K.mul (K.sub X x) s) (K.mul (K.sub Y y) s2)) = K.mul be (K.add (K.mul (K.sub X x) t) (K.mul (K.sub Y y) t2)) :=
 sT (K:=K) (c1:=(K.sub X x)) (c2:=(K.sub Y y)) e f (aQ K (cE K [al,X,x,s,Y,y,s2,be,t,t2]) (.add (.mul (.v 0) (.add (.mul (.add (.v 1) (.neg (.v 2))) (.v 3)) (.mul (.add (.v 4) (.neg (.v 5))) (.v 6)))) (.neg (.mul (.v 7) (.add (.mul (.add (.v 1) (.neg (.v 2))) (.v 8)) (.mul (.add (.v 4) (.neg (.v 5))) (.v 9)))))) (.add (.mul (.add (.v 1) (.neg (.v 2))) (.add (.mul (.v 0) (.v 3)) (.neg (.mul (.v 7) (.v 8))))) (.mul (.add (.v 4) (.neg (.v 5))) (.add (.mul (.v 0) (.v 6)) (.neg (.mul (.v 7) (.v 9)))))) (by kernel_rfl))
theorem Eqv.op {S T : A → Prop} (x y : A) (h : Eqv K S T) : Eqv K (op K X Y x y S) (op K X Y x y T):=by
 obtain ⟨a,b,ha,hb,h1,h2⟩:=h;refine ⟨a,b,ha,hb,?_,?_⟩
 ·rintro z ⟨s,s2,hs,hs2,rfl⟩
  obtain ⟨t,ht,e⟩:=h1 s hs;obtain ⟨t2,ht2,f⟩:=h1 s2 hs2;exact ⟨_,⟨t,t2,ht,ht2,rfl⟩,QD e f⟩
 ·rintro z ⟨t,t2,ht,ht2,rfl⟩
  obtain ⟨s,hs,e⟩:=h2 t ht;obtain ⟨s2,hs2,f⟩:=h2 t2 ht2;exact ⟨_,⟨s,s2,hs,hs2,rfl⟩,QD e f⟩
theorem QC {S : A → Prop} (x y x' y' : A) {z : A} (h : op K X Y x y (op K X Y x' y' S) z) : op K X Y x' y' (op K X Y x y S) z:=by
 obtain ⟨_,_,⟨a,bb,ha,hb,rfl⟩,⟨c,d,hc,hd,rfl⟩,rfl⟩:=h;exact ⟨_,_,⟨a,c,ha,hc,rfl⟩,⟨bb,d,hb,hd,rfl⟩,aQ K (cE K [X,x,x',a,Y,y',bb,y,c,d]) (.add (.mul (.add (.v 0) (.neg (.v 1))) (.add (.mul (.add (.v 0) (.neg (.v 2))) (.v 3)) (.mul (.add (.v 4) (.neg (.v 5))) (.v 6)))) (.mul (.add (.v 4) (.neg (.v 7))) (.add (.mul (.add (.v 0) (.neg (.v 2))) (.v 8)) (.mul (.add (.v 4) (.neg (.v 5))) (.v 9))))) (.add (.mul (.add (.v 0) (.neg (.v 2))) (.add (.mul (.add (.v 0) (.neg (.v 1))) (.v 3)) (.mul (.add (.v 4) (.neg (.v 7))) (.v 8)))) (.mul (.add (.v 4) (.neg (.v 5))) (.add (.mul (.add (.v 0) (.neg (.v 1))) (.v 6)) (.mul (.add (.v 4) (.neg (.v 7))) (.v 9))))) (by kernel_rfl)⟩
theorem aCf {S : A → Prop} (x y x' y' : A) : op K X Y x y (op K X Y x' y' S) = op K X Y x' y' (op K X Y x y S) :=
 funext fun z => propext ⟨QC x y x' y',QC x' y' x y⟩
theorem Sa {S : A → Prop} (h : Idl K S) (x y : A) : Idl K (op K X Y x y S) where
 add:=by
  rintro _ _ ⟨a,b,ha,hb,rfl⟩ ⟨c,d,hc,hd,rfl⟩
  exact ⟨_,_,h.add a c ha hc,h.add b d hb hd,aQ K (cE K [X,x,a,Y,y,b,c,d]) (.add (.add (.mul (.add (.v 0) (.neg (.v 1))) (.v 2)) (.mul (.add (.v 3) (.neg (.v 4))) (.v 5))) (.add (.mul (.add (.v 0) (.neg (.v 1))) (.v 6)) (.mul (.add (.v 3) (.neg (.v 4))) (.v 7)))) (.add (.mul (.add (.v 0) (.neg (.v 1))) (.add (.v 2) (.v 6))) (.mul (.add (.v 3) (.neg (.v 4))) (.add (.v 5) (.v 7)))) (by kernel_rfl)⟩
 mul:=by
  rintro _ c ⟨a,b,ha,hb,rfl⟩
  exact ⟨_,_,h.mul a c ha,h.mul b c hb,aQ K (cE K [c,X,x,a,Y,y,b]) (.mul (.v 0) (.add (.mul (.add (.v 1) (.neg (.v 2))) (.v 3)) (.mul (.add (.v 4) (.neg (.v 5))) (.v 6)))) (.add (.mul (.add (.v 1) (.neg (.v 2))) (.mul (.v 0) (.v 3))) (.mul (.add (.v 4) (.neg (.v 5))) (.mul (.v 0) (.v 6)))) (by kernel_rfl)⟩
theorem aHa {b x y k : A} (hY : K.mul Y Y = K.add (K.mul X (K.mul X X)) b) (hy : K.mul y y = K.add (K.mul x (K.mul x x)) b) (hk : K.mul k (K.add y y) = K.one) (D : Dom K) (hX : K.sub X x ≠ K.zero) {S : A → Prop} (h : Idl K S) : Eqv K (op K X Y x y (op K X Y x (K.neg y) S)) S:=by
 refine ⟨K.one,K.sub X x,D.1,hX,?_,?_⟩
 ·rintro _ ⟨_,_,⟨a,bb,ha,hb,rfl⟩,⟨c,d,hc,hd,rfl⟩,rfl⟩
  refine ⟨(K.add (K.add (K.add (K.mul (K.sub X x) a) (K.mul (K.sub Y (K.neg y)) bb)) (K.mul (K.sub Y y) c)) (K.mul (K.add (K.add (K.mul X X) (K.mul x X)) (K.mul x x)) d)),h.add _ _ (h.add _ _ (h.add _ _ (h.mul _ _ ha) (h.mul _ _ hb)) (h.mul _ _ hc)) (h.mul _ _ hd),?_⟩;rw [K.one_mul];exact sT (K:=K) (c1:=d) (c2:=(K.neg d)) hY hy (aQ K (cE K [X,x,a,Y,y,bb,c,d,b]) (.add (.add (.mul (.add (.v 0) (.neg (.v 1))) (.add (.mul (.add (.v 0) (.neg (.v 1))) (.v 2)) (.mul (.add (.v 3) (.neg (.neg (.v 4)))) (.v 5)))) (.mul (.add (.v 3) (.neg (.v 4))) (.add (.mul (.add (.v 0) (.neg (.v 1))) (.v 6)) (.mul (.add (.v 3) (.neg (.neg (.v 4)))) (.v 7))))) (.neg (.mul (.add (.v 0) (.neg (.v 1))) (.add (.add (.add (.mul (.add (.v 0) (.neg (.v 1))) (.v 2)) (.mul (.add (.v 3) (.neg (.neg (.v 4)))) (.v 5))) (.mul (.add (.v 3) (.neg (.v 4))) (.v 6))) (.mul (.add (.add (.mul (.v 0) (.v 0)) (.mul (.v 1) (.v 0))) (.mul (.v 1) (.v 1))) (.v 7)))))) (.add (.mul (.v 7) (.add (.mul (.v 3) (.v 3)) (.neg (.add (.mul (.v 0) (.mul (.v 0) (.v 0))) (.v 8))))) (.mul (.neg (.v 7)) (.add (.mul (.v 4) (.v 4)) (.neg (.add (.mul (.v 1) (.mul (.v 1) (.v 1))) (.v 8)))))) (by kernel_rfl))
 ·intro t ht;refine ⟨_,⟨_,_,⟨_,_,h.mul t K.zero ht,h.mul t k ht,rfl⟩,⟨_,_,h.mul t (K.neg k) ht,h.mul t K.zero ht,rfl⟩,rfl⟩,?_⟩;rw [K.one_mul];exact pT (K:=K) (c1:=(K.mul (K.sub X x) t)) hk (aQ K (cE K [X,x,t,Y,y,k]) (.add (.add (.mul (.add (.v 0) (.neg (.v 1))) (.add (.mul (.add (.v 0) (.neg (.v 1))) (.mul .zero (.v 2))) (.mul (.add (.v 3) (.neg (.neg (.v 4)))) (.mul (.v 5) (.v 2))))) (.mul (.add (.v 3) (.neg (.v 4))) (.add (.mul (.add (.v 0) (.neg (.v 1))) (.mul (.neg (.v 5)) (.v 2))) (.mul (.add (.v 3) (.neg (.neg (.v 4)))) (.mul .zero (.v 2)))))) (.neg (.mul (.add (.v 0) (.neg (.v 1))) (.v 2)))) (.mul (.mul (.add (.v 0) (.neg (.v 1))) (.v 2)) (.add (.mul (.v 5) (.add (.v 4) (.v 4))) (.neg .one))) (by kernel_rfl))
theorem Kg {b x1 y1 x2 l : A} (hY : K.mul Y Y = K.add (K.mul X (K.mul X X)) b) (H2 : (K.mul l (K.add y1 (K.add y1 (K.mul l (K.sub x2 x1))))) = (K.add (K.add (K.mul x1 x1) (K.mul x1 x2)) (K.mul x2 x2))) (H3 : (K.mul y1 y1) = (K.add (K.mul x1 (K.mul x1 x1)) b)) : (K.mul (K.sub X x1) (K.mul (K.sub X x2) (K.sub X (K.sub (K.sub (K.mul l l) x1) x2)))) = (K.mul (K.sub (K.sub Y y1) (K.mul l (K.sub X x1))) (K.add (K.sub Y (K.sub (K.mul l (K.sub x1 (K.sub (K.sub (K.mul l l) x1) x2))) y1)) (K.mul l (K.sub X (K.sub (K.sub (K.mul l l) x1) x2))))) :=
 aFj (K:=K) (c1:=(K.neg K.one)) (c2:=K.one) (c3:=(K.sub X x1)) hY H3 H2 (aQ K (cE K [X,x1,x2,l,Y,y1,b]) (.add (.mul (.add (.v 0) (.neg (.v 1))) (.mul (.add (.v 0) (.neg (.v 2))) (.add (.v 0) (.neg (.add (.add (.mul (.v 3) (.v 3)) (.neg (.v 1))) (.neg (.v 2))))))) (.neg (.mul (.add (.add (.v 4) (.neg (.v 5))) (.neg (.mul (.v 3) (.add (.v 0) (.neg (.v 1)))))) (.add (.add (.v 4) (.neg (.add (.mul (.v 3) (.add (.v 1) (.neg (.add (.add (.mul (.v 3) (.v 3)) (.neg (.v 1))) (.neg (.v 2)))))) (.neg (.v 5))))) (.mul (.v 3) (.add (.v 0) (.neg (.add (.add (.mul (.v 3) (.v 3)) (.neg (.v 1))) (.neg (.v 2)))))))))) (.add (.add (.mul (.neg .one) (.add (.mul (.v 4) (.v 4)) (.neg (.add (.mul (.v 0) (.mul (.v 0) (.v 0))) (.v 6))))) (.mul .one (.add (.mul (.v 5) (.v 5)) (.neg (.add (.mul (.v 1) (.mul (.v 1) (.v 1))) (.v 6)))))) (.mul (.add (.v 0) (.neg (.v 1))) (.add (.mul (.v 3) (.add (.v 5) (.add (.v 5) (.mul (.v 3) (.add (.v 2) (.neg (.v 1))))))) (.neg (.add (.add (.mul (.v 1) (.v 1)) (.mul (.v 1) (.v 2))) (.mul (.v 2) (.v 2))))))) (by kernel_rfl))
theorem aGZ {b x1 y1 x2 l : A} (hY : K.mul Y Y = K.add (K.mul X (K.mul X X)) b) (H2 : (K.mul l (K.add y1 (K.add y1 (K.mul l (K.sub x2 x1))))) = (K.add (K.add (K.mul x1 x1) (K.mul x1 x2)) (K.mul x2 x2))) (H3 : (K.mul y1 y1) = (K.add (K.mul x1 (K.mul x1 x1)) b)) (hk : (∃ k,K.mul k (K.add y1 (K.add y1 (K.mul l (K.sub x2 x1)))) = K.one) ∨ (∃ k,K.mul k (K.sub x2 x1) = K.one)) (hX : K.sub X (K.sub (K.sub (K.mul l l) x1) x2) ≠ K.zero) (hl : (K.sub (K.sub Y y1) (K.mul l (K.sub X x1))) ≠ K.zero) {S : A → Prop} (h : Idl K S) : Eqv K (op K X Y x1 y1 (op K X Y x2 (K.add y1 (K.mul l (K.sub x2 x1))) S)) (op K X Y (K.sub (K.sub (K.mul l l) x1) x2) (K.sub (K.mul l (K.sub x1 (K.sub (K.sub (K.mul l l) x1) x2))) y1) S):=by
 have HC:=Kg (X:=X) (Y:=Y) hY H2 H3;refine ⟨K.sub X (K.sub (K.sub (K.mul l l) x1) x2),(K.sub (K.sub Y y1) (K.mul l (K.sub X x1))),hX,hl,?_,?_⟩
 ·rintro _ ⟨_,_,⟨a,bb,ha,hb,rfl⟩,⟨c,d,hc,hd,rfl⟩,rfl⟩
  exact ⟨_,⟨(K.add (K.add (K.add (K.mul l a) (K.mul (K.add (K.sub X x1) (K.mul l l)) bb)) (K.mul (K.add (K.sub X x2) (K.mul l l)) c)) (K.mul (K.add (K.add (K.add (K.sub (K.sub Y y1) (K.mul l (K.sub X x1))) (K.mul l (K.sub X x1))) (K.mul l (K.sub X x2))) (K.mul l (K.mul l l))) d)),(K.add (K.add (K.add a (K.mul l bb)) (K.mul l c)) (K.mul (K.mul l l) d)),h.add _ _ (h.add _ _ (h.add _ _ (h.mul _ _ ha) (h.mul _ _ hb)) (h.mul _ _ hc)) (h.mul _ _ hd),h.add _ _ (h.add _ _ (h.add _ _ ha (h.mul _ _ hb)) (h.mul _ _ hc)) (h.mul _ _ hd),rfl⟩,pT (K:=K) (c1:=(K.add (K.add (K.add a (K.mul l bb)) (K.mul l c)) (K.mul (K.mul l l) d))) HC (aQ K (cE K [X,l,x1,x2,a,Y,y1,bb,c,d]) (.add (.mul (.add (.v 0) (.neg (.add (.add (.mul (.v 1) (.v 1)) (.neg (.v 2))) (.neg (.v 3))))) (.add (.mul (.add (.v 0) (.neg (.v 2))) (.add (.mul (.add (.v 0) (.neg (.v 3))) (.v 4)) (.mul (.add (.v 5) (.neg (.add (.v 6) (.mul (.v 1) (.add (.v 3) (.neg (.v 2))))))) (.v 7)))) (.mul (.add (.v 5) (.neg (.v 6))) (.add (.mul (.add (.v 0) (.neg (.v 3))) (.v 8)) (.mul (.add (.v 5) (.neg (.add (.v 6) (.mul (.v 1) (.add (.v 3) (.neg (.v 2))))))) (.v 9)))))) (.neg (.mul (.add (.add (.v 5) (.neg (.v 6))) (.neg (.mul (.v 1) (.add (.v 0) (.neg (.v 2)))))) (.add (.mul (.add (.v 0) (.neg (.add (.add (.mul (.v 1) (.v 1)) (.neg (.v 2))) (.neg (.v 3))))) (.add (.add (.add (.mul (.v 1) (.v 4)) (.mul (.add (.add (.v 0) (.neg (.v 2))) (.mul (.v 1) (.v 1))) (.v 7))) (.mul (.add (.add (.v 0) (.neg (.v 3))) (.mul (.v 1) (.v 1))) (.v 8))) (.mul (.add (.add (.add (.add (.add (.v 5) (.neg (.v 6))) (.neg (.mul (.v 1) (.add (.v 0) (.neg (.v 2)))))) (.mul (.v 1) (.add (.v 0) (.neg (.v 2))))) (.mul (.v 1) (.add (.v 0) (.neg (.v 3))))) (.mul (.v 1) (.mul (.v 1) (.v 1)))) (.v 9)))) (.mul (.add (.v 5) (.neg (.add (.mul (.v 1) (.add (.v 2) (.neg (.add (.add (.mul (.v 1) (.v 1)) (.neg (.v 2))) (.neg (.v 3)))))) (.neg (.v 6))))) (.add (.add (.add (.v 4) (.mul (.v 1) (.v 7))) (.mul (.v 1) (.v 8))) (.mul (.mul (.v 1) (.v 1)) (.v 9)))))))) (.mul (.add (.add (.add (.v 4) (.mul (.v 1) (.v 7))) (.mul (.v 1) (.v 8))) (.mul (.mul (.v 1) (.v 1)) (.v 9))) (.add (.mul (.add (.v 0) (.neg (.v 2))) (.mul (.add (.v 0) (.neg (.v 3))) (.add (.v 0) (.neg (.add (.add (.mul (.v 1) (.v 1)) (.neg (.v 2))) (.neg (.v 3))))))) (.neg (.mul (.add (.add (.v 5) (.neg (.v 6))) (.neg (.mul (.v 1) (.add (.v 0) (.neg (.v 2)))))) (.add (.add (.v 5) (.neg (.add (.mul (.v 1) (.add (.v 2) (.neg (.add (.add (.mul (.v 1) (.v 1)) (.neg (.v 2))) (.neg (.v 3)))))) (.neg (.v 6))))) (.mul (.v 1) (.add (.v 0) (.neg (.add (.add (.mul (.v 1) (.v 1)) (.neg (.v 2))) (.neg (.v 3))))))))))) (by kernel_rfl))⟩
 ·rintro _ ⟨u,w,hu,hw,rfl⟩
  have hg : S (K.sub u (K.mul l w)):=h.sub hu (h.mul _ _ hw);have e0 : K.mul (K.sub (K.sub Y y1) (K.mul l (K.sub X x1))) (K.add (K.mul (K.sub X (K.sub (K.sub (K.mul l l) x1) x2)) u) (K.mul (K.sub Y (K.sub (K.mul l (K.sub x1 (K.sub (K.sub (K.mul l l) x1) x2))) y1)) w)) = K.mul (K.sub X (K.sub (K.sub (K.mul l l) x1) x2)) (K.add (K.mul (K.sub (K.sub Y y1) (K.mul l (K.sub X x1))) (K.sub u (K.mul l w))) (K.mul (K.sub X x1) (K.mul (K.sub X x2) w))) :=
   pT (K:=K) (c1:=(K.neg w)) HC (aQ K (cE K [Y,y1,l,X,x1,x2,u,w]) (.add (.mul (.add (.add (.v 0) (.neg (.v 1))) (.neg (.mul (.v 2) (.add (.v 3) (.neg (.v 4)))))) (.add (.mul (.add (.v 3) (.neg (.add (.add (.mul (.v 2) (.v 2)) (.neg (.v 4))) (.neg (.v 5))))) (.v 6)) (.mul (.add (.v 0) (.neg (.add (.mul (.v 2) (.add (.v 4) (.neg (.add (.add (.mul (.v 2) (.v 2)) (.neg (.v 4))) (.neg (.v 5)))))) (.neg (.v 1))))) (.v 7)))) (.neg (.mul (.add (.v 3) (.neg (.add (.add (.mul (.v 2) (.v 2)) (.neg (.v 4))) (.neg (.v 5))))) (.add (.mul (.add (.add (.v 0) (.neg (.v 1))) (.neg (.mul (.v 2) (.add (.v 3) (.neg (.v 4)))))) (.add (.v 6) (.neg (.mul (.v 2) (.v 7))))) (.mul (.add (.v 3) (.neg (.v 4))) (.mul (.add (.v 3) (.neg (.v 5))) (.v 7))))))) (.mul (.neg (.v 7)) (.add (.mul (.add (.v 3) (.neg (.v 4))) (.mul (.add (.v 3) (.neg (.v 5))) (.add (.v 3) (.neg (.add (.add (.mul (.v 2) (.v 2)) (.neg (.v 4))) (.neg (.v 5))))))) (.neg (.mul (.add (.add (.v 0) (.neg (.v 1))) (.neg (.mul (.v 2) (.add (.v 3) (.neg (.v 4)))))) (.add (.add (.v 0) (.neg (.add (.mul (.v 2) (.add (.v 4) (.neg (.add (.add (.mul (.v 2) (.v 2)) (.neg (.v 4))) (.neg (.v 5)))))) (.neg (.v 1))))) (.mul (.v 2) (.add (.v 3) (.neg (.add (.add (.mul (.v 2) (.v 2)) (.neg (.v 4))) (.neg (.v 5))))))))))) (by kernel_rfl))
  generalize hge : (K.sub u (K.mul l w)) = g at hg e0;rw [e0]
  rcases hk with ⟨k,hk⟩ | ⟨k,hk⟩
  ·refine ⟨_,⟨_,_,⟨_,_,h.add _ _ (h.mul g (K.mul k (K.add (K.add X x1) x2)) hg) hw,h.mul g K.zero hg,rfl⟩,⟨_,_,h.mul g K.zero hg,h.mul g (K.neg k) hg,rfl⟩,rfl⟩,congrArg (K.mul _) ?_⟩;exact aMb (K:=K) (c1:=(K.mul (K.sub (K.sub Y y1) (K.mul l (K.sub X x1))) g)) (c2:=(K.neg (K.mul k g))) (c3:=(K.mul k g)) (c4:=(K.mul (K.mul k g) (K.sub X x1))) hk hY H3 H2 (aQ K (cE K [X,x1,x2,k,g,w,Y,y1,l,b]) (.add (.add (.mul (.add (.v 0) (.neg (.v 1))) (.add (.mul (.add (.v 0) (.neg (.v 2))) (.add (.mul (.mul (.v 3) (.add (.add (.v 0) (.v 1)) (.v 2))) (.v 4)) (.v 5))) (.mul (.add (.v 6) (.neg (.add (.v 7) (.mul (.v 8) (.add (.v 2) (.neg (.v 1))))))) (.mul .zero (.v 4))))) (.mul (.add (.v 6) (.neg (.v 7))) (.add (.mul (.add (.v 0) (.neg (.v 2))) (.mul .zero (.v 4))) (.mul (.add (.v 6) (.neg (.add (.v 7) (.mul (.v 8) (.add (.v 2) (.neg (.v 1))))))) (.mul (.neg (.v 3)) (.v 4)))))) (.neg (.add (.mul (.add (.add (.v 6) (.neg (.v 7))) (.neg (.mul (.v 8) (.add (.v 0) (.neg (.v 1)))))) (.v 4)) (.mul (.add (.v 0) (.neg (.v 1))) (.mul (.add (.v 0) (.neg (.v 2))) (.v 5)))))) (.add (.add (.add (.mul (.mul (.add (.add (.v 6) (.neg (.v 7))) (.neg (.mul (.v 8) (.add (.v 0) (.neg (.v 1)))))) (.v 4)) (.add (.mul (.v 3) (.add (.v 7) (.add (.v 7) (.mul (.v 8) (.add (.v 2) (.neg (.v 1))))))) (.neg .one))) (.mul (.neg (.mul (.v 3) (.v 4))) (.add (.mul (.v 6) (.v 6)) (.neg (.add (.mul (.v 0) (.mul (.v 0) (.v 0))) (.v 9)))))) (.mul (.mul (.v 3) (.v 4)) (.add (.mul (.v 7) (.v 7)) (.neg (.add (.mul (.v 1) (.mul (.v 1) (.v 1))) (.v 9)))))) (.mul (.mul (.mul (.v 3) (.v 4)) (.add (.v 0) (.neg (.v 1)))) (.add (.mul (.v 8) (.add (.v 7) (.add (.v 7) (.mul (.v 8) (.add (.v 2) (.neg (.v 1))))))) (.neg (.add (.add (.mul (.v 1) (.v 1)) (.mul (.v 1) (.v 2))) (.mul (.v 2) (.v 2))))))) (by kernel_rfl))
  ·refine ⟨_,⟨_,_,⟨_,_,hw,h.mul g k hg,rfl⟩,⟨_,_,h.mul g (K.neg k) hg,h.mul g K.zero hg,rfl⟩,rfl⟩,congrArg (K.mul _) ?_⟩;exact pT (K:=K) (c1:=(K.mul (K.sub (K.sub Y y1) (K.mul l (K.sub X x1))) g)) hk (aQ K (cE K [X,x1,x2,w,Y,y1,l,k,g]) (.add (.add (.mul (.add (.v 0) (.neg (.v 1))) (.add (.mul (.add (.v 0) (.neg (.v 2))) (.v 3)) (.mul (.add (.v 4) (.neg (.add (.v 5) (.mul (.v 6) (.add (.v 2) (.neg (.v 1))))))) (.mul (.v 7) (.v 8))))) (.mul (.add (.v 4) (.neg (.v 5))) (.add (.mul (.add (.v 0) (.neg (.v 2))) (.mul (.neg (.v 7)) (.v 8))) (.mul (.add (.v 4) (.neg (.add (.v 5) (.mul (.v 6) (.add (.v 2) (.neg (.v 1))))))) (.mul .zero (.v 8)))))) (.neg (.add (.mul (.add (.add (.v 4) (.neg (.v 5))) (.neg (.mul (.v 6) (.add (.v 0) (.neg (.v 1)))))) (.v 8)) (.mul (.add (.v 0) (.neg (.v 1))) (.mul (.add (.v 0) (.neg (.v 2))) (.v 3)))))) (.mul (.mul (.add (.add (.v 4) (.neg (.v 5))) (.neg (.mul (.v 6) (.add (.v 0) (.neg (.v 1)))))) (.v 8)) (.add (.mul (.v 7) (.add (.v 2) (.neg (.v 1)))) (.neg .one))) (by kernel_rfl))
end
open Classical
section
variable {R : Type} {K : CR R} {inv : R → R}
def eK (K : CR R) (b : R) : CR (Pol K × Pol K):=(bD (K:=K)).sq (qP b)
def cX : Pol K × Pol K:=(pX,bD.zero)
def cY : Pol K × Pol K:=(bD.zero,bD.one)
def cc (k : R) : Pol K × Pol K:=(jE k,bD.zero)
variable (b : R)
theorem oG (x y : R) : (cc (K.add x y) : Pol K × Pol K) = (eK K b).add (cc x) (cc y):=Prod.ext (Bq x y) (bD.zero_add _).symm
theorem Yb (x : R) : (cc (K.neg x) : Pol K × Pol K) = (eK K b).neg (cc x):=Prod.ext (aCb x) (bP bD).symm
theorem BL (x y : R) : (cc (K.sub x y) : Pol K × Pol K) = (eK K b).sub (cc x) (cc y):=by
 show cc (K.add _ _) = (eK K b).add _ _;rw [oG b,Yb b]
theorem mO (x y : R) : (cc (K.mul x y) : Pol K × Pol K) = (eK K b).mul (cc x) (cc y):=by
 refine Prod.ext ?_ ?_
 ·show jE (K.mul x y) = bD.add (bD.mul (jE x) (jE y)) (bD.mul (qP b) (bD.mul bD.zero bD.zero));rw [bD.mul_zero,bD.mul_zero,bD.add_zero,wU]
 ·show bD.zero = bD.add (bD.mul (jE x) bD.zero) (bD.mul bD.zero (jE y));rw [bD.mul_zero,bD.zero_mul,bD.add_zero]
theorem Ya : (cc K.one : Pol K × Pol K) = (eK K b).one:=rfl
theorem aMd : (eK K b).mul cY cY = (eK K b).add ((eK K b).mul cX ((eK K b).mul cX cX)) (cc b):=by
 refine Prod.ext ?_ ?_
 ·show bD.add (bD.mul bD.zero bD.zero) (bD.mul (qP b) (bD.mul bD.one bD.one)) = bD.add (bD.add (bD.mul pX (bD.add (bD.mul pX pX) (bD.mul (qP b) (bD.mul bD.zero bD.zero)))) (bD.mul (qP b) (bD.mul bD.zero (bD.add (bD.mul pX bD.zero) (bD.mul bD.zero pX))))) (jE b);simp only [bD.mul_zero,bD.zero_mul,bD.add_zero,bD.zero_add,bD.mul_one];rfl
 ·show bD.add (bD.mul bD.zero bD.one) (bD.mul bD.one bD.zero) = bD.add (bD.add (bD.mul pX (bD.add (bD.mul pX bD.zero) (bD.mul bD.zero pX))) (bD.mul bD.zero (bD.add (bD.mul pX pX) (bD.mul (qP b) (bD.mul bD.zero bD.zero))))) bD.zero;simp only [bD.mul_zero,bD.zero_mul,bD.add_zero,bD.zero_add,bD.mul_one]
def nrm (f : Pol K × Pol K) : Pol K:=bD.sub (bD.mul f.1 f.1) (bD.mul (qP b) (bD.mul f.2 f.2))
theorem Cv (f g : Pol K × Pol K) : nrm b ((eK K b).mul f g) = bD.mul (nrm b f) (nrm b g) :=
 aQ bD (cE bD [f.1,g.1,qP b,f.2,g.2]) (.add (.mul (.add (.mul (.v 0) (.v 1)) (.mul (.v 2) (.mul (.v 3) (.v 4)))) (.add (.mul (.v 0) (.v 1)) (.mul (.v 2) (.mul (.v 3) (.v 4))))) (.neg (.mul (.v 2) (.mul (.add (.mul (.v 0) (.v 4)) (.mul (.v 3) (.v 1))) (.add (.mul (.v 0) (.v 4)) (.mul (.v 3) (.v 1))))))) (.mul (.add (.mul (.v 0) (.v 0)) (.neg (.mul (.v 2) (.mul (.v 3) (.v 3))))) (.add (.mul (.v 1) (.v 1)) (.neg (.mul (.v 2) (.mul (.v 4) (.v 4)))))) (by kernel_rfl)
theorem IV (F : FD K inv) (f : Pol K × Pol K) (h : f ≠ (eK K b).zero) : ∃ d,dg (nrm b f) d ∧ d ≠ 1:=by
 have hq : dg (qP b : Pol K) 3:=aLW F b
 by_cases h2 : f.2 = bD.zero
 ·have h1 : f.1 ≠ bD.zero:=fun e => h (Prod.ext e h2)
  obtain ⟨n,hn⟩:=Ei _ h1;refine ⟨n + n,?_,by omega⟩;unfold nrm;rw [h2,bD.mul_zero,bD.mul_zero];show dg (bD.add _ (bD.neg bD.zero)) _;rw [bP,bD.add_zero];exact lF F hn hn
 ·obtain ⟨m,hm⟩:=Ei _ h2;have hr:=lF F hq (lF F hm hm)
  by_cases h1 : f.1 = bD.zero
  ·refine ⟨3 + (m + m),?_,by omega⟩;unfold nrm;rw [h1,bD.mul_zero];show dg (bD.add _ _) _;rw [bD.zero_add];exact Xd hr
  ·obtain ⟨n,hn⟩:=Ei _ h1;have hl:=lF F hn hn;have hr':=Xd hr
   rcases Nat.lt_or_ge (n + n) (3 + (m + m)) with q | q
   ·refine ⟨3 + (m + m),?_,by omega⟩;show dg (bD.add _ _) _;rw [bD.add_comm];exact BH hr' fun i hi => hl.2 i (by omega)
   ·refine ⟨n + n,?_,by omega⟩;exact BH hl fun i hi => hr'.2 i (by omega)
theorem mN (F : FD K inv) : Dom (eK K b):=by
 refine ⟨fun e => F.ne (congrArg (fun z : Pol K × Pol K => z.1.1 0) e),fun f g hf hg e => ?_⟩;obtain ⟨n,hn,_⟩:=IV b F f hf;obtain ⟨m,hm,_⟩:=IV b F g hg;have h:=Xe (lF F hn hm);rw [← Cv,e] at h;refine h ?_;show bD.sub (bD.mul bD.zero bD.zero) (bD.mul (qP b) (bD.mul bD.zero bD.zero)) = _;rw [bD.mul_zero,bD.mul_zero];exact bD.add_neg _
theorem YT {A : Type} {C : CR A} (D : Dom C) {a s t : A} (ha : a ≠ C.zero) (e : C.mul a s = C.mul a t) : s = t:=by
 apply jS (K:=C)
 by_cases h : C.add s (C.neg t) = C.zero
 ·exact h
 ·exact absurd (by rw [C.mul_add,C.mul_neg,e,C.add_neg]) (D.2 _ _ ha h)
def LU {A : Type} : A → Prop:=fun _ => True
theorem lH {A : Type} (C : CR A) : Idl C LU:=⟨fun _ _ _ _ => trivial,fun _ _ _ => trivial⟩
theorem SG (f : Pol K × Pol K) : (eK K b).mul f (f.1,bD.neg f.2) = (nrm b f,bD.zero):=by
 refine Prod.ext ?_ ?_
 ·exact aQ bD (cE bD [f.1,qP b,f.2]) (.add (.mul (.v 0) (.v 0)) (.mul (.v 1) (.mul (.v 2) (.neg (.v 2))))) (.add (.mul (.v 0) (.v 0)) (.neg (.mul (.v 1) (.mul (.v 2) (.v 2))))) (by kernel_rfl)
 ·exact aQ bD (cE bD [f.1,f.2]) (.add (.mul (.v 0) (.neg (.v 1))) (.mul (.v 1) (.v 0))) .zero (by kernel_rfl)
theorem Qn {x y : R} (h : K.mul y y = K.add (K.mul x (K.mul x x)) b) : (qP b : Pol K) = bD.add (bD.mul (jE y) (jE y)) (bD.mul (bD.sub pX (jE x)) (bD.add (bD.mul pX pX) (bD.add (bD.mul (jE x) pX) (bD.mul (jE x) (jE x))))):=by
 have e : bD.mul (jE y) (jE y) = bD.add (bD.mul (jE x) (bD.mul (jE x) (jE x))) (jE b : Pol K):=by
  rw [← wU,← wU,← wU,← Bq,h]
 rw [e];exact aQ bD (cE bD [pX,jE b,jE x]) (.add (.mul (.v 0) (.mul (.v 0) (.v 0))) (.v 1)) (.add (.add (.mul (.v 2) (.mul (.v 2) (.v 2))) (.v 1)) (.mul (.add (.v 0) (.neg (.v 2))) (.add (.mul (.v 0) (.v 0)) (.add (.mul (.v 2) (.v 0)) (.mul (.v 2) (.v 2)))))) (by kernel_rfl)
theorem aKS (F : FD K inv) {x y : R} (h : K.mul y y = K.add (K.mul x (K.mul x x)) b) : ¬ Eqv (eK K b) (op (eK K b) cX cY (cc x) (cc y) LU) LU:=by
 rintro ⟨a,e,ha,he,h1,h2⟩
 have D:=mN (K:=K) b F;obtain ⟨f,hf,e1⟩:=h2 (eK K b).one trivial;rw [(eK K b).mul_one] at e1;have hm : ∀ g,op (eK K b) cX cY (cc x) (cc y) LU g → ∃ t,g = (eK K b).mul f t:=fun g hg => by
  obtain ⟨t,_,e2⟩:=h1 g hg;rw [← e1,(eK K b).mul_assoc] at e2;exact ⟨t,YT D ha e2⟩
 have sz : ∀ z : Pol K × Pol K,(eK K b).sub z (eK K b).zero = z:=fun z => by
  show (eK K b).add z ((eK K b).neg _) = z;rw [bP,(eK K b).add_zero]
 obtain ⟨t,ht⟩:=hm ((eK K b).sub cX (cc x)) ⟨(eK K b).one,(eK K b).zero,trivial,trivial,by rw [(eK K b).mul_one,(eK K b).mul_zero,(eK K b).add_zero]⟩;obtain ⟨t',ht'⟩:=hm ((eK K b).sub cY (cc y)) ⟨(eK K b).zero,(eK K b).one,trivial,trivial,by rw [(eK K b).mul_one,(eK K b).mul_zero,(eK K b).zero_add]⟩;have hX : (eK K b).sub cX (cc x) = (bD.sub pX (jE x),bD.zero):=Prod.ext rfl (by show bD.add bD.zero (bD.neg bD.zero) = _; rw [bP,bD.add_zero]);have hXn : (eK K b).sub cX (cc x) ≠ (eK K b).zero:=fun q => Xe (BG (K:=K) F x) (congrArg Prod.fst q)
 have hf0 : f ≠ (eK K b).zero:=fun q => hXn (by rw [ht,q,(eK K b).zero_mul])
 have ht0 : t ≠ (eK K b).zero:=fun q => hXn (by rw [ht,q,(eK K b).mul_zero])
 obtain ⟨n,hn,n1⟩:=IV b F f hf0;obtain ⟨m,hm',m1⟩:=IV b F t ht0;have hnm : n + m = 2:=by
  have e3:=lF F hn hm';rw [← Cv,← ht,hX] at e3;have e4 : nrm b (bD.sub pX (jE x),bD.zero) = bD.mul (bD.sub pX (jE x)) (bD.sub (pX : Pol K) (jE x)):=by
   show bD.add (bD.mul _ _) (bD.neg (bD.mul _ (bD.mul bD.zero bD.zero))) = _;rw [bD.mul_zero,bD.mul_zero,bP,bD.add_zero]
  rw [e4] at e3;exact aII e3 (lF F (BG F x) (BG F x))
 have hc : ∀ p : Pol K,dg p 0 → p = jE (p.1 0):=fun p hp => Pol.ext fun i => by
  cases i with
  | zero => rfl
  | succ i => exact hp.2 _ (by omega)
 have h02 : n = 0 ∨ m = 0:=by omega
 rcases h02 with q0 | q0
 ·subst q0;obtain ⟨s,r,_,_,e5⟩:=(Sa (lH (eK K b)) (cc x) (cc y)).mul f (f.1,bD.neg f.2) hf;rw [(eK K b).mul_comm,SG,hX] at e5;have c1 : nrm b f = bD.add (bD.add (bD.mul (bD.sub pX (jE x)) s.1) (bD.mul (qP b) (bD.mul bD.zero s.2))) (bD.add (bD.mul (bD.add bD.zero (bD.neg (jE y))) r.1) (bD.mul (qP b) (bD.mul (bD.add bD.one (bD.neg bD.zero)) r.2))):=congrArg Prod.fst e5;have c2 : bD.zero = bD.add (bD.add (bD.mul (bD.sub pX (jE x)) s.2) (bD.mul bD.zero s.1)) (bD.add (bD.mul (bD.add bD.zero (bD.neg (jE y))) r.2) (bD.mul (bD.add bD.one (bD.neg bD.zero)) r.1)):=congrArg Prod.snd e5;have hs:=Qn b h;refine hn.1 (EJ F (c:=x) (h:=(bD.add s.1 (bD.add (bD.mul (bD.add (bD.mul pX pX) (bD.add (bD.mul (jE x) pX) (bD.mul (jE x) (jE x)))) r.2) (bD.mul (jE y) s.2)))) ?_);rw [← hc _ hn,c1];refine Eq.symm ?_;exact sT (K:=bD) (c1:=(jE y)) (c2:=r.2) c2 hs (aQ bD (cE bD [pX,jE x,s.1,qP b,s.2,jE y,r.1,r.2]) (.add (.add (.add (.mul (.add (.v 0) (.neg (.v 1))) (.v 2)) (.mul (.v 3) (.mul .zero (.v 4)))) (.add (.mul (.add .zero (.neg (.v 5))) (.v 6)) (.mul (.v 3) (.mul (.add .one (.neg .zero)) (.v 7))))) (.neg (.mul (.add (.v 0) (.neg (.v 1))) (.add (.v 2) (.add (.mul (.add (.mul (.v 0) (.v 0)) (.add (.mul (.v 1) (.v 0)) (.mul (.v 1) (.v 1)))) (.v 7)) (.mul (.v 5) (.v 4))))))) (.add (.mul (.v 5) (.add .zero (.neg (.add (.add (.mul (.add (.v 0) (.neg (.v 1))) (.v 4)) (.mul .zero (.v 2))) (.add (.mul (.add .zero (.neg (.v 5))) (.v 7)) (.mul (.add .one (.neg .zero)) (.v 6))))))) (.mul (.v 7) (.add (.v 3) (.neg (.add (.mul (.v 5) (.v 5)) (.mul (.add (.v 0) (.neg (.v 1))) (.add (.mul (.v 0) (.v 0)) (.add (.mul (.v 1) (.v 0)) (.mul (.v 1) (.v 1)))))))))) (by kernel_rfl))
 ·subst q0;have e6 : (eK K b).mul ((eK K b).sub cX (cc x)) ((eK K b).mul t' (t.1,bD.neg t.2)) = (eK K b).mul ((eK K b).sub cY (cc y)) (nrm b t,bD.zero):=by
   rw [← SG,ht,ht'];generalize ((t.1,bD.neg t.2) : Pol K × Pol K) = w;exact aQ (eK K b) (cE (eK K b) [f,t,t',w]) (.mul (.mul (.v 0) (.v 1)) (.mul (.v 2) (.v 3))) (.mul (.mul (.v 0) (.v 2)) (.mul (.v 1) (.v 3))) (by kernel_rfl)
  rw [hX] at e6;generalize (eK K b).mul t' (t.1,bD.neg t.2) = w at e6;have c2 : bD.add (bD.mul (bD.sub pX (jE x)) w.2) (bD.mul bD.zero w.1) = bD.add (bD.mul (bD.add bD.zero (bD.neg (jE y))) bD.zero) (bD.mul (bD.add bD.one (bD.neg bD.zero)) (nrm b t)):=congrArg Prod.snd e6;rw [bD.zero_mul,bD.add_zero,bD.mul_zero,bD.zero_add,bP,bD.add_zero,bD.one_mul,hc _ hm'] at c2;exact hm'.1 (EJ F c2)
end
structure EC {R : Type} (K : CR R) (inv : R → R) (b : R) : Prop where
 F : FD K inv
 two : K.add K.one K.one ≠ K.zero
 odd : ∀ x,K.add (K.mul x (K.mul x x)) b ≠ K.zero
section
variable {R : Type} (K : CR R) (inv : R → R) (b : R)
abbrev Pt (R : Type):=Option (R × R)
def On : Pt R → Prop
 | none => True
 | some p => K.mul p.2 p.2 = K.add (K.mul p.1 (K.mul p.1 p.1)) b
def ptN : Pt R → Pt R
 | none => none
 | some p => some (p.1,K.neg p.2)
def gK (x1 y1 x2 y2 : R) : R :=
 if x1 = x2 then K.mul (K.add (K.add (K.mul x1 x1) (K.mul x1 x1)) (K.mul x1 x1)) (inv (K.add y1 y2)) else K.mul (K.sub y2 y1) (inv (K.sub x2 x1))
def sx (l x1 x2 : R) : R:=K.sub (K.sub (K.mul l l) x1) x2
def sy (l x1 y1 x2 : R) : R:=K.sub (K.mul l (K.sub x1 (sx K l x1 x2))) y1
def vL : Pt R → Pt R → Pt R
 | none,q => q
 | some p,none => some p
 | some p,some q =>
  if p.1 = q.1 ∧ K.add p.2 q.2 = K.zero then none
  else some (sx K (gK K inv p.1 p.2 q.1 q.2) p.1 q.1,sy K (gK K inv p.1 p.2 q.1 q.2) p.1 p.2 q.1)
variable {K} {inv} {b}
theorem rL {p q : R × R} (h : p.1 = q.1 ∧ K.add p.2 q.2 = K.zero) : vL K inv (some p) (some q) = none:=if_pos h
theorem mE {p q : R × R} (h : ¬ (p.1 = q.1 ∧ K.add p.2 q.2 = K.zero)) : vL K inv (some p) (some q) = some (sx K (gK K inv p.1 p.2 q.1 q.2) p.1 q.1,sy K (gK K inv p.1 p.2 q.1 q.2) p.1 p.2 q.1):=if_neg h
theorem iL {x y : R} (h : K.sub x y = K.zero) : x = y:=jS h
theorem GG {x y : R} (h : x ≠ y) : K.sub x y ≠ K.zero:=fun e => h (iL e)
theorem EC.dbl_ne (E : EC K inv b) {y : R} (h : y ≠ K.zero) : K.add y y ≠ K.zero:=fun e => by
 refine E.F.mul_ne E.two h ?_;rw [K.add_mul,K.one_mul,e]
theorem EC.y_ne (E : EC K inv b) {x y : R} (h : K.mul y y = K.add (K.mul x (K.mul x x)) b) : y ≠ K.zero:=fun e => by
 rw [e,K.mul_zero] at h;exact E.odd x h.symm
structure Slope (K : CR R) (x1 y1 x2 y2 l : R) : Prop where
 h1 : y2 = K.add y1 (K.mul l (K.sub x2 x1))
 h2 : K.mul l (K.add y1 y2) = K.add (K.add (K.mul x1 x1) (K.mul x1 x2)) (K.mul x2 x2)
 hk : (∃ k,K.mul k (K.add y1 y2) = K.one) ∨ (∃ k,K.mul k (K.sub x2 x1) = K.one)
theorem MO (E : EC K inv b) {x1 y1 x2 y2 : R} (hp : K.mul y1 y1 = K.add (K.mul x1 (K.mul x1 x1)) b) (hq : K.mul y2 y2 = K.add (K.mul x2 (K.mul x2 x2)) b) (hn : ¬ (x1 = x2 ∧ K.add y1 y2 = K.zero)) : Slope K x1 y1 x2 y2 (gK K inv x1 y1 x2 y2):=by
 unfold gK
 by_cases hx : x1 = x2
 ·subst hx;rw [if_pos rfl];have hy : K.add y1 y2 ≠ K.zero:=fun e => hn ⟨rfl,e⟩
  have hi:=E.F.inv _ hy;have e : y1 = y2:=by
   refine iL (K:=K) (E.F.zd (a:=K.add y1 y2) ?_ hy);have e0 : K.mul (K.add y1 y2) (K.sub y1 y2) = K.sub (K.mul y1 y1) (K.mul y2 y2):=aQ K (cE K [y1,y2]) (.mul (.add (.v 0) (.v 1)) (.add (.v 0) (.neg (.v 1)))) (.add (.mul (.v 0) (.v 0)) (.neg (.mul (.v 1) (.v 1)))) (by kernel_rfl);rw [e0,hp,hq];exact K.add_neg _
  subst e;generalize inv (K.add y1 y1) = k at hi;refine ⟨aQ K (cE K [y1,x1,k]) (.v 0) (.add (.v 0) (.mul (.mul (.add (.add (.mul (.v 1) (.v 1)) (.mul (.v 1) (.v 1))) (.mul (.v 1) (.v 1))) (.v 2)) (.add (.v 1) (.neg (.v 1))))) (by kernel_rfl),pT (K:=K) (c1:=(K.add (K.add (K.mul x1 x1) (K.mul x1 x1)) (K.mul x1 x1))) hi (aQ K (cE K [x1,k,y1]) (.add (.mul (.mul (.add (.add (.mul (.v 0) (.v 0)) (.mul (.v 0) (.v 0))) (.mul (.v 0) (.v 0))) (.v 1)) (.add (.v 2) (.v 2))) (.neg (.add (.add (.mul (.v 0) (.v 0)) (.mul (.v 0) (.v 0))) (.mul (.v 0) (.v 0))))) (.mul (.add (.add (.mul (.v 0) (.v 0)) (.mul (.v 0) (.v 0))) (.mul (.v 0) (.v 0))) (.add (.mul (.add (.v 2) (.v 2)) (.v 1)) (.neg .one))) (by kernel_rfl)),Or.inl ⟨k,by rw [K.mul_comm,hi]⟩⟩
 ·rw [if_neg hx];have hd : K.sub x2 x1 ≠ K.zero:=GG fun e => hx e.symm
  have hi:=E.F.inv _ hd;generalize inv (K.sub x2 x1) = k at hi;refine ⟨pT (K:=K) (c1:=(K.neg (K.sub y2 y1))) hi (aQ K (cE K [y2,y1,k,x2,x1]) (.add (.v 0) (.neg (.add (.v 1) (.mul (.mul (.add (.v 0) (.neg (.v 1))) (.v 2)) (.add (.v 3) (.neg (.v 4))))))) (.mul (.neg (.add (.v 0) (.neg (.v 1)))) (.add (.mul (.add (.v 3) (.neg (.v 4))) (.v 2)) (.neg .one))) (by kernel_rfl)),?_,Or.inr ⟨k,by rw [K.mul_comm,hi]⟩⟩;refine E.F.cancel hd ?_;exact aFj (K:=K) (c1:=(K.mul (K.sub y2 y1) (K.add y1 y2))) (c2:=(K.neg K.one)) (c3:=K.one) hi hp hq (aQ K (cE K [x2,x1,y2,y1,k,b]) (.add (.mul (.add (.v 0) (.neg (.v 1))) (.mul (.mul (.add (.v 2) (.neg (.v 3))) (.v 4)) (.add (.v 3) (.v 2)))) (.neg (.mul (.add (.v 0) (.neg (.v 1))) (.add (.add (.mul (.v 1) (.v 1)) (.mul (.v 1) (.v 0))) (.mul (.v 0) (.v 0)))))) (.add (.add (.mul (.mul (.add (.v 2) (.neg (.v 3))) (.add (.v 3) (.v 2))) (.add (.mul (.add (.v 0) (.neg (.v 1))) (.v 4)) (.neg .one))) (.mul (.neg .one) (.add (.mul (.v 3) (.v 3)) (.neg (.add (.mul (.v 1) (.mul (.v 1) (.v 1))) (.v 5)))))) (.mul .one (.add (.mul (.v 2) (.v 2)) (.neg (.add (.mul (.v 0) (.mul (.v 0) (.v 0))) (.v 5)))))) (by kernel_rfl))
theorem On.sum {x1 y1 x2 y2 l : R} (hp : K.mul y1 y1 = K.add (K.mul x1 (K.mul x1 x1)) b) (h : Slope K x1 y1 x2 y2 l) : On K b (some (sx K l x1 x2,sy K l x1 y1 x2)):=by
 obtain ⟨h1,h2,_⟩:=h;subst h1;show K.mul (K.sub (K.mul l (K.sub x1 (K.sub (K.sub (K.mul l l) x1) x2))) y1) (K.sub (K.mul l (K.sub x1 (K.sub (K.sub (K.mul l l) x1) x2))) y1) = K.add (K.mul (K.sub (K.sub (K.mul l l) x1) x2) (K.mul (K.sub (K.sub (K.mul l l) x1) x2) (K.sub (K.sub (K.mul l l) x1) x2))) b;exact sT (K:=K) (c1:=K.one) (c2:=(K.sub (K.sub (K.sub (K.mul l l) x1) x2) x1)) hp h2 (aQ K (cE K [l,x1,x2,y1,b]) (.add (.mul (.add (.mul (.v 0) (.add (.v 1) (.neg (.add (.add (.mul (.v 0) (.v 0)) (.neg (.v 1))) (.neg (.v 2)))))) (.neg (.v 3))) (.add (.mul (.v 0) (.add (.v 1) (.neg (.add (.add (.mul (.v 0) (.v 0)) (.neg (.v 1))) (.neg (.v 2)))))) (.neg (.v 3)))) (.neg (.add (.mul (.add (.add (.mul (.v 0) (.v 0)) (.neg (.v 1))) (.neg (.v 2))) (.mul (.add (.add (.mul (.v 0) (.v 0)) (.neg (.v 1))) (.neg (.v 2))) (.add (.add (.mul (.v 0) (.v 0)) (.neg (.v 1))) (.neg (.v 2))))) (.v 4)))) (.add (.mul .one (.add (.mul (.v 3) (.v 3)) (.neg (.add (.mul (.v 1) (.mul (.v 1) (.v 1))) (.v 4))))) (.mul (.add (.add (.add (.mul (.v 0) (.v 0)) (.neg (.v 1))) (.neg (.v 2))) (.neg (.v 1))) (.add (.mul (.v 0) (.add (.v 3) (.add (.v 3) (.mul (.v 0) (.add (.v 2) (.neg (.v 1))))))) (.neg (.add (.add (.mul (.v 1) (.v 1)) (.mul (.v 1) (.v 2))) (.mul (.v 2) (.v 2))))))) (by kernel_rfl))
theorem On.neg : ∀ {p : Pt R},On K b p → On K b (ptN K p)
 | none,_ => trivial
 | some p,h => by
  show K.mul (K.neg p.2) (K.neg p.2) = _;rw [K.neg_mul,K.mul_neg,K.neg_neg];exact h
theorem On.add (E : EC K inv b) : ∀ {p q : Pt R},On K b p → On K b q → On K b (vL K inv p q)
 | none,_,_,h => h
 | some _,none,h,_ => h
 | some p,some q,hp,hq => by
  by_cases hn : p.1 = q.1 ∧ K.add p.2 q.2 = K.zero
  ·rw [rL hn]; trivial
  ·rw [mE hn];exact On.sum hp (MO E hp hq hn)
def Js (K : CR R) (b : R) (p : Pt R) (S : Pol K × Pol K → Prop) : Pol K × Pol K → Prop :=
 match p with
 | none => S
 | some p => op (eK K b) cX cY (cc p.1) (cc p.2) S
theorem Sb (p q : Pt R) (S : Pol K × Pol K → Prop) : Js K b p (Js K b q S) = Js K b q (Js K b p S):=by
 cases p with
 | none => rfl
 | some p => cases q with
  | none => rfl
  | some q => exact aCf _ _ _ _
theorem aCg {S : Pol K × Pol K → Prop} (h : Idl (eK K b) S) (p : Pt R) : Idl (eK K b) (Js K b p S):=by
 cases p with
 | none => exact h
 | some p => exact Sa h _ _
theorem Bv {S T : Pol K × Pol K → Prop} (h : Eqv (eK K b) S T) (p : Pt R) : Eqv (eK K b) (Js K b p S) (Js K b p T):=by
 cases p with
 | none => exact h
 | some p => exact h.op _ _
theorem aMt (F : FD K inv) (c : R) : (eK K b).sub cX (cc c) ≠ (eK K b).zero:=fun q => Xe (BG (K:=K) F c) (congrArg Prod.fst q)
theorem aIF (F : FD K inv) (x1 y1 l : R) : (eK K b).sub ((eK K b).sub cY (cc y1)) ((eK K b).mul (cc l) ((eK K b).sub cX (cc x1))) ≠ (eK K b).zero:=fun q => by
 have e : K.add (K.add K.one (K.neg K.zero)) (K.neg (K.add (K.mul l (K.add K.zero (K.neg K.zero))) (K.mul K.zero (K.add K.zero (K.neg x1))))) = K.zero:=congrArg (fun z : Pol K × Pol K => z.2.1 0) q;rw [bP,K.add_zero,K.add_zero,K.mul_zero,K.zero_mul,K.add_zero,bP,K.add_zero] at e;exact F.ne e
theorem kV (E : EC K inv b) {S : Pol K × Pol K → Prop} (hS : Idl (eK K b) S) : ∀ {p q : Pt R},On K b p → On K b q → Eqv (eK K b) (Js K b p (Js K b q S)) (Js K b (vL K inv p q) S)
 | none,_,_,_ => Eqv.refl (mN b E.F) _
 | some _,none,_,_ => Eqv.refl (mN b E.F) _
 | some ⟨x1,y1⟩,some ⟨x2,y2⟩,hp,hq => by
  by_cases hn : x1 = x2 ∧ K.add y1 y2 = K.zero
  ·rw [rL hn];obtain ⟨rfl,hy⟩:=hn;have e : y2 = K.neg y1:=by
    apply K.add_cancel (a:=y1);rw [hy,K.add_neg]
   subst e;show Eqv (eK K b) (op (eK K b) cX cY (cc x1) (cc y1) (op (eK K b) cX cY (cc x1) (cc (K.neg y1)) S)) S;have h0:=E.F.inv _ (E.dbl_ne (E.y_ne hp));rw [Yb b];refine aHa (b:=cc b) (k:=cc (inv (K.add y1 y1))) (aMd b) ?_ ?_ (mN b E.F) (aMt E.F x1) hS
   ·rw [← mO,← mO,← mO,← oG];exact congrArg cc hp
   ·rw [← oG,← mO,K.mul_comm,h0];rfl
  ·rw [mE hn];have h:=MO E hp hq hn;dsimp only at h ⊢;generalize gK K inv x1 y1 x2 y2 = l at h;obtain ⟨h1,h2,hk⟩:=h;subst h1;show Eqv (eK K b) (op (eK K b) cX cY (cc x1) (cc y1) (op (eK K b) cX cY (cc x2) (cc (K.add y1 (K.mul l (K.sub x2 x1)))) S)) (op (eK K b) cX cY (cc (sx K l x1 x2)) (cc (sy K l x1 y1 x2)) S);unfold sy sx;have hX:=aMt (K:=K) (b:=b) E.F (sx K l x1 x2);have hl:=aIF (K:=K) (b:=b) E.F x1 y1 l;unfold sx at hX;simp only [oG b,mO b,BL b] at hX ⊢;refine aGZ (b:=cc b) (aMd b) ?_ ?_ ?_ hX hl hS
   ·have:=congrArg (cc (K:=K)) h2;simpa only [oG b,mO b,BL b] using this
   ·have:=congrArg (cc (K:=K)) hp;simpa only [oG b,mO b,BL b] using this
   ·rcases hk with ⟨k,hk⟩ | ⟨k,hk⟩
    ·refine Or.inl ⟨cc k,?_⟩;have:=congrArg (cc (K:=K)) hk;simpa only [oG b,mO b,BL b,Ya b] using this
    ·refine Or.inr ⟨cc k,?_⟩;have:=congrArg (cc (K:=K)) hk;simpa only [oG b,mO b,BL b,Ya b] using this
theorem Bn (p : Pt R) : vL K inv (ptN K p) p = none:=by
 cases p with
 | none => rfl
 | some p => exact if_pos ⟨rfl,K.neg_add _⟩
theorem Qo {p q : Pt R} (h : vL K inv (ptN K p) q = none) : q = p:=by
 cases p with
 | none => exact h
 | some p => cases q with
  | none => cases h
  | some q =>
   by_cases hh : p.1 = q.1 ∧ K.add (K.neg p.2) q.2 = K.zero
   ·obtain ⟨h1,h2⟩:=hh;refine congrArg some (Prod.ext h1.symm ?_);apply K.add_cancel (a:=K.neg p.2);exact h2.trans (K.neg_add p.2).symm
   ·have e : vL K inv (ptN K (some p)) (some q) = some _:=mE (p:=(p.1,K.neg p.2)) (q:=q) hh;rw [e] at h;cases h
theorem aHb (E : EC K inv b) {p : Pt R} (hp : On K b p) (h : Eqv (eK K b) (Js K b p LU) LU) : p = none:=by
 cases p with
 | none => rfl
 | some p => exact absurd h (aKS b E.F hp)
theorem Bu (E : EC K inv b) {p q : Pt R} (hp : On K b p) (hq : On K b q) (h : Eqv (eK K b) (Js K b p LU) (Js K b q LU)) : p = q:=by
 have D:=mN (K:=K) b E.F;have h1:=Bv h (ptN K q);have a1:=kV E (lH (eK K b)) hq.neg hp;have a2:=kV E (lH (eK K b)) hq.neg hq;rw [Bn] at a2;exact Qo (aHb E (hq.neg.add E hp) (a1.symm.trans D (h1.trans D a2)))
theorem Qp (E : EC K inv b) {p q : Pt R} (hp : On K b p) (hq : On K b q) : vL K inv p q = vL K inv q p:=by
 have D:=mN (K:=K) b E.F;refine Bu E (hp.add E hq) (hq.add E hp) ?_;refine (kV E (lH (eK K b)) hp hq).symm.trans D ?_;rw [Sb];exact kV E (lH (eK K b)) hq hp
theorem Ji (E : EC K inv b) {p q r : Pt R} (hp : On K b p) (hq : On K b q) (hr : On K b r) : vL K inv (vL K inv p q) r = vL K inv p (vL K inv q r):=by
 have D:=mN (K:=K) b E.F;have hu:=lH (eK K b);refine Bu E ((hp.add E hq).add E hr) (hp.add E (hq.add E hr)) ?_;refine (kV E hu (hp.add E hq) hr).symm.trans D ?_;refine (kV E (aCg hu r) hp hq).symm.trans D ?_;refine (Bv (kV E hu hq hr) p).trans D ?_;exact kV E hu hp (hq.add E hr)
end
structure AG (G : Type) where
 add : G → G → G
 neg : G → G
 zero : G
 assoc : ∀ a b c,add (add a b) c = add a (add b c)
 comm : ∀ a b,add a b = add b a
 zadd : ∀ a,add zero a = a
 nadd : ∀ a,add (neg a) a = zero
def EC.grp {R : Type} {K : CR R} {inv : R → R} {b : R} (E : EC K inv b) : AG {p : Pt R // On K b p} where
 add p q:=⟨vL K inv p.1 q.1,p.2.add E q.2⟩
 neg p:=⟨ptN K p.1,p.2.neg⟩
 zero:=⟨none,trivial⟩
 assoc p q r:=Subtype.ext (Ji E p.2 q.2 r.2)
 comm p q:=Subtype.ext (Qp E p.2 q.2)
 zadd p:=rfl
 nadd p:=Subtype.ext (Bn p.1)
section
variable {R : Type} (K : CR R) (inv : R → R)
abbrev Jc (R : Type):=R × R × R
def hJ (p : Jc R) : Pt R:=if p.2.2 = K.zero then none else some (K.mul p.1 (K.mul (inv p.2.2) (inv p.2.2)),K.mul p.2.1 (K.mul (K.mul (inv p.2.2) (inv p.2.2)) (inv p.2.2)))
def dSl (p : Jc R) : R:=K.add (K.add (K.mul p.1 p.1) (K.mul p.1 p.1)) (K.mul p.1 p.1)
def dTw (p : Jc R) : R:=K.add (K.mul p.2.1 p.2.1) (K.mul p.2.1 p.2.1)
def dFo (p : Jc R) : R:=K.add (dTw K p) (dTw K p)
def dBa (p : Jc R) : R:=K.mul p.1 (dFo K p)
def dX (p : Jc R) : R:=K.sub (K.mul (dSl K p) (dSl K p)) (K.add (dBa K p) (dBa K p))
def dY (p : Jc R) : R:=K.sub (K.mul (dSl K p) (K.sub (dBa K p) (dX K p))) (K.mul (dFo K p) (dTw K p))
def dT (p : Jc R) : Jc R:=(dX K p,dY K p,K.mul (K.add p.2.1 p.2.1) p.2.2)
def CF (p q : Jc R) : R:=K.mul p.1 (K.mul q.2.2 q.2.2)
def wI (p q : Jc R) : R:=K.mul p.2.1 (K.mul (K.mul q.2.2 q.2.2) q.2.2)
def qZ (p q : Jc R) : R:=K.sub (CF K q p) (CF K p q)
def JH (p q : Jc R) : R:=K.sub (wI K q p) (wI K p q)
def sX (px a up : R) : R:=K.sub (K.sub (K.mul up up) (K.mul (K.mul a a) a)) (K.add (K.mul px (K.mul a a)) (K.mul px (K.mul a a)))
def sY (px py a up : R) : R:=K.sub (K.mul up (K.sub (K.mul px (K.mul a a)) (sX K px a up))) (K.mul py (K.mul (K.mul a a) a))
def DB (p q : Jc R) : Jc R:=(sX K (CF K p q) (qZ K p q) (JH K p q),sY K (CF K p q) (wI K p q) (qZ K p q) (JH K p q),K.mul (K.mul p.2.2 q.2.2) (qZ K p q))
def gT (p q : Jc R) : Jc R :=
 if p.2.2 = K.zero then q else if q.2.2 = K.zero then p else if qZ K p q = K.zero ∧ JH K p q = K.zero then dT K p else DB K p q
def rplus (p q : Jc R) : Jc R :=
 if p.2.2 = K.zero then q else if q.2.2 = K.zero then p else if qZ K p q = K.zero ∧ JH K p q = K.zero then dT K p else if qZ K p q = K.zero then (K.one,K.one,K.zero) else DB K p q
variable {K} {inv} {b : R}
theorem dF {p : Jc R} (h : p.2.2 = K.zero) : hJ K inv p = none:=if_pos h
theorem eG {p : Jc R} (h : p.2.2 ≠ K.zero) : hJ K inv p = some (K.mul p.1 (K.mul (inv p.2.2) (inv p.2.2)),K.mul p.2.1 (K.mul (K.mul (inv p.2.2) (inv p.2.2)) (inv p.2.2))):=if_neg h
theorem DJ (E : EC K inv b) {x y l : R} (hy : K.add y y ≠ K.zero) (h : K.mul l (K.add y y) = K.add (K.add (K.mul x x) (K.mul x x)) (K.mul x x)) : gK K inv x y x y = l:=by
 unfold gK;rw [if_pos rfl];refine E.F.cancel hy ?_;have hi:=E.F.inv _ hy;generalize inv (K.add y y) = k at hi;exact sT (K:=K) (c1:=(K.add (K.add (K.mul x x) (K.mul x x)) (K.mul x x))) (c2:=(K.neg K.one)) hi h (aQ K (cE K [y,x,k,l]) (.add (.mul (.add (.v 0) (.v 0)) (.mul (.add (.add (.mul (.v 1) (.v 1)) (.mul (.v 1) (.v 1))) (.mul (.v 1) (.v 1))) (.v 2))) (.neg (.mul (.add (.v 0) (.v 0)) (.v 3)))) (.add (.mul (.add (.add (.mul (.v 1) (.v 1)) (.mul (.v 1) (.v 1))) (.mul (.v 1) (.v 1))) (.add (.mul (.add (.v 0) (.v 0)) (.v 2)) (.neg .one))) (.mul (.neg .one) (.add (.mul (.v 3) (.add (.v 0) (.v 0))) (.neg (.add (.add (.mul (.v 1) (.v 1)) (.mul (.v 1) (.v 1))) (.mul (.v 1) (.v 1))))))) (by kernel_rfl))
theorem vF (E : EC K inv b) {x1 y1 x2 y2 l : R} (hx : x1 ≠ x2) (h : K.mul l (K.sub x2 x1) = K.sub y2 y1) : gK K inv x1 y1 x2 y2 = l:=by
 unfold gK;rw [if_neg hx];have hd : K.sub x2 x1 ≠ K.zero:=GG fun e => hx e.symm
 have hi:=E.F.inv _ hd;refine E.F.cancel hd ?_;generalize inv (K.sub x2 x1) = k at hi;exact sT (K:=K) (c1:=(K.sub y2 y1)) (c2:=(K.neg K.one)) hi h (aQ K (cE K [x2,x1,y2,y1,k,l]) (.add (.mul (.add (.v 0) (.neg (.v 1))) (.mul (.add (.v 2) (.neg (.v 3))) (.v 4))) (.neg (.mul (.add (.v 0) (.neg (.v 1))) (.v 5)))) (.add (.mul (.add (.v 2) (.neg (.v 3))) (.add (.mul (.add (.v 0) (.neg (.v 1))) (.v 4)) (.neg .one))) (.mul (.neg .one) (.add (.mul (.v 5) (.add (.v 0) (.neg (.v 1)))) (.neg (.add (.v 2) (.neg (.v 3))))))) (by kernel_rfl))
theorem Dj (E : EC K inv b) {p : Jc R} (hp : On K b (hJ K inv p)) : hJ K inv (dT K p) = vL K inv (hJ K inv p) (hJ K inv p):=by
 obtain ⟨x,y,z⟩:=p
 by_cases hz : z = K.zero
 ·have h1 : hJ K inv (x,y,z) = none:=dF hz;rw [h1];refine dF ?_;show K.mul (K.add y y) z = K.zero;rw [hz,K.mul_zero]
 ·have h1:=eG (K:=K) (inv:=inv) (p:=(x,y,z)) hz;rw [h1] at hp ⊢;dsimp only at hp ⊢;have hi:=E.F.inv z hz;generalize inv z = i at hi hp ⊢;have hY:=E.y_ne (show K.mul (K.mul y (K.mul (K.mul i i) i)) (K.mul y (K.mul (K.mul i i) i)) = _ from hp);have hy : y ≠ K.zero:=fun e => hY (by rw [e,K.zero_mul])
  have hyy:=E.dbl_ne hy;have hz3 : K.mul (K.add y y) z ≠ K.zero:=E.F.mul_ne hyy hz;have h3:=eG (K:=K) (inv:=inv) (p:=dT K (x,y,z)) hz3;rw [h3];show some (K.mul (dX K (x,y,z)) (K.mul (inv (K.mul (K.add y y) z)) (inv (K.mul (K.add y y) z))),K.mul (dY K (x,y,z)) (K.mul (K.mul (inv (K.mul (K.add y y) z)) (inv (K.mul (K.add y y) z))) (inv (K.mul (K.add y y) z)))) = _;have hj:=E.F.inv _ hz3;generalize inv (K.mul (K.add y y) z) = j at hj ⊢;have e : i = K.mul (K.add y y) j:=sT (K:=K) (c1:=(K.neg i)) (c2:=(K.mul (K.add y y) j)) hj hi (aQ K (cE K [i,y,j,z]) (.add (.v 0) (.neg (.mul (.add (.v 1) (.v 1)) (.v 2)))) (.add (.mul (.neg (.v 0)) (.add (.mul (.mul (.add (.v 1) (.v 1)) (.v 3)) (.v 2)) (.neg .one))) (.mul (.mul (.add (.v 1) (.v 1)) (.v 2)) (.add (.mul (.v 3) (.v 0)) (.neg .one)))) (by kernel_rfl));subst e;have hYY:=E.dbl_ne hY;rw [mE (fun h => hYY h.2)];dsimp only;have hs:=DJ (l:=(K.mul (K.add (K.add (K.mul x x) (K.mul x x)) (K.mul x x)) j)) (x:=(K.mul x (K.mul (K.mul (K.add y y) j) (K.mul (K.add y y) j)))) E hYY (aQ K (cE K [x,j,y]) (.mul (.mul (.add (.add (.mul (.v 0) (.v 0)) (.mul (.v 0) (.v 0))) (.mul (.v 0) (.v 0))) (.v 1)) (.add (.mul (.v 2) (.mul (.mul (.mul (.add (.v 2) (.v 2)) (.v 1)) (.mul (.add (.v 2) (.v 2)) (.v 1))) (.mul (.add (.v 2) (.v 2)) (.v 1)))) (.mul (.v 2) (.mul (.mul (.mul (.add (.v 2) (.v 2)) (.v 1)) (.mul (.add (.v 2) (.v 2)) (.v 1))) (.mul (.add (.v 2) (.v 2)) (.v 1)))))) (.add (.add (.mul (.mul (.v 0) (.mul (.mul (.add (.v 2) (.v 2)) (.v 1)) (.mul (.add (.v 2) (.v 2)) (.v 1)))) (.mul (.v 0) (.mul (.mul (.add (.v 2) (.v 2)) (.v 1)) (.mul (.add (.v 2) (.v 2)) (.v 1))))) (.mul (.mul (.v 0) (.mul (.mul (.add (.v 2) (.v 2)) (.v 1)) (.mul (.add (.v 2) (.v 2)) (.v 1)))) (.mul (.v 0) (.mul (.mul (.add (.v 2) (.v 2)) (.v 1)) (.mul (.add (.v 2) (.v 2)) (.v 1)))))) (.mul (.mul (.v 0) (.mul (.mul (.add (.v 2) (.v 2)) (.v 1)) (.mul (.add (.v 2) (.v 2)) (.v 1)))) (.mul (.v 0) (.mul (.mul (.add (.v 2) (.v 2)) (.v 1)) (.mul (.add (.v 2) (.v 2)) (.v 1)))))) (by kernel_rfl));rw [hs];refine congrArg some (Prod.ext ?_ ?_)
  ·exact aQ K (cE K [x,y,j]) (.mul (.add (.mul (.add (.add (.mul (.v 0) (.v 0)) (.mul (.v 0) (.v 0))) (.mul (.v 0) (.v 0))) (.add (.add (.mul (.v 0) (.v 0)) (.mul (.v 0) (.v 0))) (.mul (.v 0) (.v 0)))) (.neg (.add (.mul (.v 0) (.add (.add (.mul (.v 1) (.v 1)) (.mul (.v 1) (.v 1))) (.add (.mul (.v 1) (.v 1)) (.mul (.v 1) (.v 1))))) (.mul (.v 0) (.add (.add (.mul (.v 1) (.v 1)) (.mul (.v 1) (.v 1))) (.add (.mul (.v 1) (.v 1)) (.mul (.v 1) (.v 1)))))))) (.mul (.v 2) (.v 2))) (.add (.add (.mul (.mul (.add (.add (.mul (.v 0) (.v 0)) (.mul (.v 0) (.v 0))) (.mul (.v 0) (.v 0))) (.v 2)) (.mul (.add (.add (.mul (.v 0) (.v 0)) (.mul (.v 0) (.v 0))) (.mul (.v 0) (.v 0))) (.v 2))) (.neg (.mul (.v 0) (.mul (.mul (.add (.v 1) (.v 1)) (.v 2)) (.mul (.add (.v 1) (.v 1)) (.v 2)))))) (.neg (.mul (.v 0) (.mul (.mul (.add (.v 1) (.v 1)) (.v 2)) (.mul (.add (.v 1) (.v 1)) (.v 2)))))) (by kernel_rfl)
  ·exact aQ K (cE K [x,y,j]) (.mul (.add (.mul (.add (.add (.mul (.v 0) (.v 0)) (.mul (.v 0) (.v 0))) (.mul (.v 0) (.v 0))) (.add (.mul (.v 0) (.add (.add (.mul (.v 1) (.v 1)) (.mul (.v 1) (.v 1))) (.add (.mul (.v 1) (.v 1)) (.mul (.v 1) (.v 1))))) (.neg (.add (.mul (.add (.add (.mul (.v 0) (.v 0)) (.mul (.v 0) (.v 0))) (.mul (.v 0) (.v 0))) (.add (.add (.mul (.v 0) (.v 0)) (.mul (.v 0) (.v 0))) (.mul (.v 0) (.v 0)))) (.neg (.add (.mul (.v 0) (.add (.add (.mul (.v 1) (.v 1)) (.mul (.v 1) (.v 1))) (.add (.mul (.v 1) (.v 1)) (.mul (.v 1) (.v 1))))) (.mul (.v 0) (.add (.add (.mul (.v 1) (.v 1)) (.mul (.v 1) (.v 1))) (.add (.mul (.v 1) (.v 1)) (.mul (.v 1) (.v 1))))))))))) (.neg (.mul (.add (.add (.mul (.v 1) (.v 1)) (.mul (.v 1) (.v 1))) (.add (.mul (.v 1) (.v 1)) (.mul (.v 1) (.v 1)))) (.add (.mul (.v 1) (.v 1)) (.mul (.v 1) (.v 1)))))) (.mul (.mul (.v 2) (.v 2)) (.v 2))) (.add (.mul (.mul (.add (.add (.mul (.v 0) (.v 0)) (.mul (.v 0) (.v 0))) (.mul (.v 0) (.v 0))) (.v 2)) (.add (.mul (.v 0) (.mul (.mul (.add (.v 1) (.v 1)) (.v 2)) (.mul (.add (.v 1) (.v 1)) (.v 2)))) (.neg (.add (.add (.mul (.mul (.add (.add (.mul (.v 0) (.v 0)) (.mul (.v 0) (.v 0))) (.mul (.v 0) (.v 0))) (.v 2)) (.mul (.add (.add (.mul (.v 0) (.v 0)) (.mul (.v 0) (.v 0))) (.mul (.v 0) (.v 0))) (.v 2))) (.neg (.mul (.v 0) (.mul (.mul (.add (.v 1) (.v 1)) (.v 2)) (.mul (.add (.v 1) (.v 1)) (.v 2)))))) (.neg (.mul (.v 0) (.mul (.mul (.add (.v 1) (.v 1)) (.v 2)) (.mul (.add (.v 1) (.v 1)) (.v 2))))))))) (.neg (.mul (.v 1) (.mul (.mul (.mul (.add (.v 1) (.v 1)) (.v 2)) (.mul (.add (.v 1) (.v 1)) (.v 2))) (.mul (.add (.v 1) (.v 1)) (.v 2)))))) (by kernel_rfl)
theorem AL (E : EC K inv b) {p q : Jc R} (hp : p.2.2 ≠ K.zero) (hq : q.2.2 ≠ K.zero) : ∃ w,K.mul (K.mul p.2.2 q.2.2) w = K.one ∧ hJ K inv p = some (K.mul (CF K p q) (K.mul w w),K.mul (wI K p q) (K.mul (K.mul w w) w)) ∧ hJ K inv q = some (K.mul (CF K q p) (K.mul w w),K.mul (wI K q p) (K.mul (K.mul w w) w)):=by
 obtain ⟨x1,y1,z1⟩:=p;obtain ⟨x2,y2,z2⟩:=q;have h1:=E.F.inv z1 hp;have h2:=E.F.inv z2 hq;rw [eG hp,eG hq];dsimp only at *;generalize inv z1 = i at h1 ⊢;generalize inv z2 = j at h2 ⊢;refine ⟨K.mul i j,?_,congrArg some (Prod.ext ?_ ?_),congrArg some (Prod.ext ?_ ?_)⟩
 ·exact sT (K:=K) (c1:=(K.mul z2 j)) (c2:=K.one) h1 h2 (aQ K (cE K [z1,z2,i,j]) (.add (.mul (.mul (.v 0) (.v 1)) (.mul (.v 2) (.v 3))) (.neg .one)) (.add (.mul (.mul (.v 1) (.v 3)) (.add (.mul (.v 0) (.v 2)) (.neg .one))) (.mul .one (.add (.mul (.v 1) (.v 3)) (.neg .one)))) (by kernel_rfl))
 ·exact pT (K:=K) (c1:=(K.mul (K.neg (K.mul x1 (K.mul i i))) (K.add (K.mul z2 j) K.one))) h2 (aQ K (cE K [x1,i,z2,j]) (.add (.mul (.v 0) (.mul (.v 1) (.v 1))) (.neg (.mul (.mul (.v 0) (.mul (.v 2) (.v 2))) (.mul (.mul (.v 1) (.v 3)) (.mul (.v 1) (.v 3)))))) (.mul (.mul (.neg (.mul (.v 0) (.mul (.v 1) (.v 1)))) (.add (.mul (.v 2) (.v 3)) .one)) (.add (.mul (.v 2) (.v 3)) (.neg .one))) (by kernel_rfl))
 ·exact pT (K:=K) (c1:=(K.mul (K.neg (K.mul y1 (K.mul (K.mul i i) i))) (K.add (K.add (K.mul (K.mul z2 j) (K.mul z2 j)) (K.mul z2 j)) K.one))) h2 (aQ K (cE K [y1,i,z2,j]) (.add (.mul (.v 0) (.mul (.mul (.v 1) (.v 1)) (.v 1))) (.neg (.mul (.mul (.v 0) (.mul (.mul (.v 2) (.v 2)) (.v 2))) (.mul (.mul (.mul (.v 1) (.v 3)) (.mul (.v 1) (.v 3))) (.mul (.v 1) (.v 3)))))) (.mul (.mul (.neg (.mul (.v 0) (.mul (.mul (.v 1) (.v 1)) (.v 1)))) (.add (.add (.mul (.mul (.v 2) (.v 3)) (.mul (.v 2) (.v 3))) (.mul (.v 2) (.v 3))) .one)) (.add (.mul (.v 2) (.v 3)) (.neg .one))) (by kernel_rfl))
 ·exact pT (K:=K) (c1:=(K.mul (K.neg (K.mul x2 (K.mul j j))) (K.add (K.mul z1 i) K.one))) h1 (aQ K (cE K [x2,j,z1,i]) (.add (.mul (.v 0) (.mul (.v 1) (.v 1))) (.neg (.mul (.mul (.v 0) (.mul (.v 2) (.v 2))) (.mul (.mul (.v 3) (.v 1)) (.mul (.v 3) (.v 1)))))) (.mul (.mul (.neg (.mul (.v 0) (.mul (.v 1) (.v 1)))) (.add (.mul (.v 2) (.v 3)) .one)) (.add (.mul (.v 2) (.v 3)) (.neg .one))) (by kernel_rfl))
 ·exact pT (K:=K) (c1:=(K.mul (K.neg (K.mul y2 (K.mul (K.mul j j) j))) (K.add (K.add (K.mul (K.mul z1 i) (K.mul z1 i)) (K.mul z1 i)) K.one))) h1 (aQ K (cE K [y2,j,z1,i]) (.add (.mul (.v 0) (.mul (.mul (.v 1) (.v 1)) (.v 1))) (.neg (.mul (.mul (.v 0) (.mul (.mul (.v 2) (.v 2)) (.v 2))) (.mul (.mul (.mul (.v 3) (.v 1)) (.mul (.v 3) (.v 1))) (.mul (.v 3) (.v 1)))))) (.mul (.mul (.neg (.mul (.v 0) (.mul (.mul (.v 1) (.v 1)) (.v 1)))) (.add (.add (.mul (.mul (.v 2) (.v 3)) (.mul (.v 2) (.v 3))) (.mul (.v 2) (.v 3))) .one)) (.add (.mul (.v 2) (.v 3)) (.neg .one))) (by kernel_rfl))
theorem Xy (E : EC K inv b) {px py qx qy w zz j : R} (hw : K.mul zz w = K.one) (ha : K.sub qx px ≠ K.zero) (hj : K.mul (K.mul zz (K.sub qx px)) j = K.one) :
  vL K inv (some (K.mul px (K.mul w w),K.mul py (K.mul (K.mul w w) w))) (some (K.mul qx (K.mul w w),K.mul qy (K.mul (K.mul w w) w))) = some (K.mul (sX K px (K.sub qx px) (K.sub qy py)) (K.mul j j),K.mul (sY K px py (K.sub qx px) (K.sub qy py)) (K.mul (K.mul j j) j)):=by
 have hw0 : w ≠ K.zero:=fun e => E.F.ne (by rw [← hw,e,K.mul_zero])
 have e : w = K.mul (K.sub qx px) j:=sT (K:=K) (c1:=(K.neg w)) (c2:=(K.mul (K.sub qx px) j)) hj hw (aQ K (cE K [w,qx,px,j,zz]) (.add (.v 0) (.neg (.mul (.add (.v 1) (.neg (.v 2))) (.v 3)))) (.add (.mul (.neg (.v 0)) (.add (.mul (.mul (.v 4) (.add (.v 1) (.neg (.v 2)))) (.v 3)) (.neg .one))) (.mul (.mul (.add (.v 1) (.neg (.v 2))) (.v 3)) (.add (.mul (.v 4) (.v 0)) (.neg .one)))) (by kernel_rfl));have hx : K.mul px (K.mul w w) ≠ K.mul qx (K.mul w w):=fun h => by
  refine E.F.mul_ne ha (E.F.mul_ne hw0 hw0) ?_;have : K.mul (K.sub qx px) (K.mul w w) = K.sub (K.mul qx (K.mul w w)) (K.mul px (K.mul w w)):=aQ K (cE K [qx,px,w]) (.mul (.add (.v 0) (.neg (.v 1))) (.mul (.v 2) (.v 2))) (.add (.mul (.v 0) (.mul (.v 2) (.v 2))) (.neg (.mul (.v 1) (.mul (.v 2) (.v 2))))) (by kernel_rfl);rw [this,h];exact K.add_neg _
 rw [mE (fun h => hx h.1)];dsimp only;have hs:=vF (l:=(K.mul (K.sub qy py) j)) (y1:=K.mul py (K.mul (K.mul w w) w)) (y2:=K.mul qy (K.mul (K.mul w w) w)) E hx (by
  subst e;exact aQ K (cE K [qy,py,j,qx,px]) (.mul (.mul (.add (.v 0) (.neg (.v 1))) (.v 2)) (.add (.mul (.v 3) (.mul (.mul (.add (.v 3) (.neg (.v 4))) (.v 2)) (.mul (.add (.v 3) (.neg (.v 4))) (.v 2)))) (.neg (.mul (.v 4) (.mul (.mul (.add (.v 3) (.neg (.v 4))) (.v 2)) (.mul (.add (.v 3) (.neg (.v 4))) (.v 2))))))) (.add (.mul (.v 0) (.mul (.mul (.mul (.add (.v 3) (.neg (.v 4))) (.v 2)) (.mul (.add (.v 3) (.neg (.v 4))) (.v 2))) (.mul (.add (.v 3) (.neg (.v 4))) (.v 2)))) (.neg (.mul (.v 1) (.mul (.mul (.mul (.add (.v 3) (.neg (.v 4))) (.v 2)) (.mul (.add (.v 3) (.neg (.v 4))) (.v 2))) (.mul (.add (.v 3) (.neg (.v 4))) (.v 2)))))) (by kernel_rfl))
 rw [hs];subst e;refine congrArg some (Prod.ext ?_ ?_)
 ·exact aQ K (cE K [qy,py,j,px,qx]) (.add (.add (.mul (.mul (.add (.v 0) (.neg (.v 1))) (.v 2)) (.mul (.add (.v 0) (.neg (.v 1))) (.v 2))) (.neg (.mul (.v 3) (.mul (.mul (.add (.v 4) (.neg (.v 3))) (.v 2)) (.mul (.add (.v 4) (.neg (.v 3))) (.v 2)))))) (.neg (.mul (.v 4) (.mul (.mul (.add (.v 4) (.neg (.v 3))) (.v 2)) (.mul (.add (.v 4) (.neg (.v 3))) (.v 2)))))) (.mul (.add (.add (.mul (.add (.v 0) (.neg (.v 1))) (.add (.v 0) (.neg (.v 1)))) (.neg (.mul (.mul (.add (.v 4) (.neg (.v 3))) (.add (.v 4) (.neg (.v 3)))) (.add (.v 4) (.neg (.v 3)))))) (.neg (.add (.mul (.v 3) (.mul (.add (.v 4) (.neg (.v 3))) (.add (.v 4) (.neg (.v 3))))) (.mul (.v 3) (.mul (.add (.v 4) (.neg (.v 3))) (.add (.v 4) (.neg (.v 3)))))))) (.mul (.v 2) (.v 2))) (by kernel_rfl)
 ·exact aQ K (cE K [qy,py,j,px,qx]) (.add (.mul (.mul (.add (.v 0) (.neg (.v 1))) (.v 2)) (.add (.mul (.v 3) (.mul (.mul (.add (.v 4) (.neg (.v 3))) (.v 2)) (.mul (.add (.v 4) (.neg (.v 3))) (.v 2)))) (.neg (.add (.add (.mul (.mul (.add (.v 0) (.neg (.v 1))) (.v 2)) (.mul (.add (.v 0) (.neg (.v 1))) (.v 2))) (.neg (.mul (.v 3) (.mul (.mul (.add (.v 4) (.neg (.v 3))) (.v 2)) (.mul (.add (.v 4) (.neg (.v 3))) (.v 2)))))) (.neg (.mul (.v 4) (.mul (.mul (.add (.v 4) (.neg (.v 3))) (.v 2)) (.mul (.add (.v 4) (.neg (.v 3))) (.v 2))))))))) (.neg (.mul (.v 1) (.mul (.mul (.mul (.add (.v 4) (.neg (.v 3))) (.v 2)) (.mul (.add (.v 4) (.neg (.v 3))) (.v 2))) (.mul (.add (.v 4) (.neg (.v 3))) (.v 2)))))) (.mul (.add (.mul (.add (.v 0) (.neg (.v 1))) (.add (.mul (.v 3) (.mul (.add (.v 4) (.neg (.v 3))) (.add (.v 4) (.neg (.v 3))))) (.neg (.add (.add (.mul (.add (.v 0) (.neg (.v 1))) (.add (.v 0) (.neg (.v 1)))) (.neg (.mul (.mul (.add (.v 4) (.neg (.v 3))) (.add (.v 4) (.neg (.v 3)))) (.add (.v 4) (.neg (.v 3)))))) (.neg (.add (.mul (.v 3) (.mul (.add (.v 4) (.neg (.v 3))) (.add (.v 4) (.neg (.v 3))))) (.mul (.v 3) (.mul (.add (.v 4) (.neg (.v 3))) (.add (.v 4) (.neg (.v 3))))))))))) (.neg (.mul (.v 1) (.mul (.mul (.add (.v 4) (.neg (.v 3))) (.add (.v 4) (.neg (.v 3)))) (.add (.v 4) (.neg (.v 3))))))) (.mul (.mul (.v 2) (.v 2)) (.v 2))) (by kernel_rfl)
theorem GK (E : EC K inv b) {y1 y2 : R} (h : K.mul y1 y1 = K.mul y2 y2) (hn : y1 ≠ y2) : K.add y1 y2 = K.zero:=by
 refine E.F.zd (a:=K.sub y1 y2) ?_ (GG hn);have : K.mul (K.sub y1 y2) (K.add y1 y2) = K.sub (K.mul y1 y1) (K.mul y2 y2):=aQ K (cE K [y1,y2]) (.mul (.add (.v 0) (.neg (.v 1))) (.add (.v 0) (.v 1))) (.add (.mul (.v 0) (.v 0)) (.neg (.mul (.v 1) (.v 1)))) (by kernel_rfl);rw [this,h];exact K.add_neg _
theorem aCP (E : EC K inv b) {p q : Jc R} (hp : On K b (hJ K inv p)) (hq : On K b (hJ K inv q)) (h1 : p.2.2 ≠ K.zero) (h2 : q.2.2 ≠ K.zero) (hn : ¬ (qZ K p q = K.zero ∧ JH K p q = K.zero)) :
  hJ K inv (DB K p q) = vL K inv (hJ K inv p) (hJ K inv q):=by
 obtain ⟨w,hw,e1,e2⟩:=AL (K:=K) (inv:=inv) E h1 h2;rw [e1] at hp;rw [e2] at hq;rw [e1,e2]
 by_cases ha : qZ K p q = K.zero
 ·have hx : CF K q p = CF K p q:=iL ha;have hu : JH K p q ≠ K.zero:=fun e => hn ⟨ha,e⟩
  have hw0 : w ≠ K.zero:=fun e => E.F.ne (by rw [← hw,e,K.mul_zero])
  have hy : K.mul (wI K p q) (K.mul (K.mul w w) w) ≠ K.mul (wI K q p) (K.mul (K.mul w w) w):=fun h => by
   refine E.F.mul_ne hu (E.F.mul_ne (E.F.mul_ne hw0 hw0) hw0) ?_;show K.mul (K.sub (wI K q p) (wI K p q)) _ = _;have e0 : ∀ s t c : R,K.mul (K.sub s t) c = K.sub (K.mul s c) (K.mul t c):=fun s t c => aQ K (cE K [s,t,c]) (.mul (.add (.v 0) (.neg (.v 1))) (.v 2)) (.add (.mul (.v 0) (.v 2)) (.neg (.mul (.v 1) (.v 2)))) (by kernel_rfl)
   rw [e0,h];exact K.add_neg _
  rw [hx] at hq ⊢;have ho:=GK (y1:=K.mul (wI K p q) (K.mul (K.mul w w) w)) (y2:=K.mul (wI K q p) (K.mul (K.mul w w) w)) E ((show K.mul _ _ = _ from hp).trans (show K.mul _ _ = _ from hq).symm) hy;rw [rL (p:=(K.mul (CF K p q) (K.mul w w),K.mul (wI K p q) (K.mul (K.mul w w) w))) (q:=(K.mul (CF K p q) (K.mul w w),K.mul (wI K q p) (K.mul (K.mul w w) w))) ⟨rfl,ho⟩];refine dF ?_;show K.mul (K.mul p.2.2 q.2.2) (qZ K p q) = K.zero;rw [ha,K.mul_zero]
 ·have hz : K.mul (K.mul p.2.2 q.2.2) (qZ K p q) ≠ K.zero:=E.F.mul_ne (E.F.mul_ne h1 h2) ha;have hj:=E.F.inv _ hz;refine (eG (p:=DB K p q) hz).trans ?_;exact (Xy E hw ha hj).symm
theorem RJ (E : EC K inv b) {p q : Jc R} (hp : On K b (hJ K inv p)) (hq : On K b (hJ K inv q)) : hJ K inv (gT K p q) = vL K inv (hJ K inv p) (hJ K inv q):=by
 unfold gT
 by_cases h1 : p.2.2 = K.zero
 ·rw [if_pos h1,dF h1]; rfl
 ·rw [if_neg h1]
  by_cases h2 : q.2.2 = K.zero
  ·rw [if_pos h2,dF h2,eG h1]; rfl
  ·rw [if_neg h2]
   by_cases h3 : qZ K p q = K.zero ∧ JH K p q = K.zero
   ·rw [if_pos h3];obtain ⟨w,hw,e1,e2⟩:=AL (K:=K) (inv:=inv) E h1 h2;have hx : CF K q p = CF K p q:=iL h3.1;have hy : wI K q p = wI K p q:=iL h3.2;rw [Dj E hp];rw [hx,hy] at e2;rw [e2,e1]
   ·rw [if_neg h3];exact aCP E hp hq h1 h2 h3
theorem Kh (E : EC K inv b) {p q : Jc R} (hp : On K b (hJ K inv p)) (hq : On K b (hJ K inv q)) : hJ K inv (rplus K p q) = vL K inv (hJ K inv p) (hJ K inv q):=by
 rw [← RJ E hp hq];unfold rplus gT
 by_cases h1 : p.2.2 = K.zero
 ·rw [if_pos h1,if_pos h1]
 ·rw [if_neg h1,if_neg h1]
  by_cases h2 : q.2.2 = K.zero
  ·rw [if_pos h2,if_pos h2]
  ·rw [if_neg h2,if_neg h2]
   by_cases h3 : qZ K p q = K.zero ∧ JH K p q = K.zero
   ·rw [if_pos h3,if_pos h3]
   ·rw [if_neg h3,if_neg h3]
    by_cases h4 : qZ K p q = K.zero
    ·rw [if_pos h4,dF rfl];refine (dF ?_).symm;show K.mul (K.mul p.2.2 q.2.2) (qZ K p q) = K.zero;rw [h4,K.mul_zero]
    ·rw [if_neg h4]
def JK (K : CR R) (p : Jc R) : Jc R:=(p.1,K.sub K.zero p.2.1,p.2.2)
theorem aCQ (p : Jc R) : hJ K inv (JK K p) = ptN K (hJ K inv p):=by
 by_cases h : p.2.2 = K.zero
 ·rw [dF h,dF (p:=JK K p) h]; rfl
 ·rw [eG h,eG (p:=JK K p) h];refine congrArg some (Prod.ext rfl ?_);show K.mul (K.sub K.zero p.2.1) _ = K.neg (K.mul p.2.1 _);rw [← K.neg_mul];congr 1;exact K.zero_add _
end
open Go.RowKit
theorem Ly {x y : Fq} (h : w4 x.1 = w4 y.1) : x = y:=by
 unfold w4 at h;simp only [List.cons.injEq,Value.int.injEq,true_and,and_true,Int.ofNat_inj] at h;apply Fin.ext;rw [← bF x.2,← bF y.2,h.1,h.2.1,h.2.2.1,h.2.2.2]
theorem RX : ∀ (l m : List Fq),aC (l.map .f) = aC (m.map .f) → l = m
 | [],[],_ => rfl
 | a :: r,b :: s,h => by
  have h' : w4 a.1 ++ aC (r.map .f) = w4 b.1 ++ aC (s.map .f):=h;obtain ⟨h1,h2⟩:=List.append_inj h' rfl;rw [Ly h1,RX r s h2]
 | [],b :: s,h => by cases h
 | a :: r,[],h => by cases h
theorem uT {a b : Fq} (h : aC [.f a] = aC [.f b]) : a = b:=Ly (by
 have h' : w4 a.1 ++ [] = w4 b.1 ++ []:=h
 rwa [List.append_nil,List.append_nil] at h')
theorem aIG {a b : Q2} (h : aC (e2 a) = aC (e2 b)) : a = b:=by
 have:=RX [a.1,a.2] [b.1,b.2] h;simp only [List.cons.injEq,and_true] at this;exact Prod.ext this.1 this.2
def vp : At → Option (List Prop × Fq)
 | .f x => some ([],x)
 | .q x => some ([wv x < FP.M],m1 x)
 | .c _ => none
theorem Ap {a : At} {p : List Prop} {x : Fq} (h : vp a = some (p,x)) (hp : aP p) : ∃ n : Nat,aC [a] = aC (q1 n) ∧ m1 n = x ∧ wv n < FP.M:=by
 cases a with
 | f y => cases h; exact ⟨x.1,rfl,aEV x,by unfold wv; rw [bF x.2]; exact x.2⟩
 | q y => cases h; exact ⟨_,rfl,rfl,hp.1⟩
 | c v => cases h
def g2p (op : Fq → Fq → RV) : fQ
 | [.v (.fl [a]),.v (.fl [b])] => match vp a,vp b with
  | some (p,x),some (q,y) => some (p ++ q,op x y)
  | _,_ => none
 | _ => none
theorem YN {P : Program} {f : FuncId} {op : Fq → Fq → RV} (h : ∀ a b : Nat,wv a < FP.M → wv b < FP.M → ∀ args w,bK w [.v (.fl (q1 a)),.v (.fl (q1 b))] args → Good P f (op (m1 a) (m1 b)) args w) :
  ∀ cs pre r,g2p op cs = some (pre,r) → aP pre → ∀ (args : List Value) (w : World),bK w cs args → Good P f r args w:=by
 intro cs pre r hg hp args w ha;unfold g2p at hg;split at hg
 ·rename_i a b;split at hg
  ·rename_i p x q y hx hy;cases hg;obtain ⟨p1,p2⟩:=aN.1 hp;obtain ⟨n,e1,rfl,hn⟩:=Ap hx p1;obtain ⟨m,e2,rfl,hm⟩:=Ap hy p2;refine h n m hn hm args w ?_
   match args,ha with
   | [v,u],ha =>
    have h1 : v = .agg (aC [a]).toArray:=ha.1;have h2 : u = .agg (aC [b]).toArray:=ha.2.1;rw [e1] at h1;rw [e2] at h2;exact ⟨h1,h2,trivial⟩
   | [],ha => exact ha.elim
   | [_],ha => exact ha.2.elim
   | _ :: _ :: _ :: _,ha => exact ha.2.2.elim
  ·cases hg
 ·cases hg
def gF2 (op : Fq → Fq → Fq) : fQ
 | [.v (.im (.int .i64 (.ofNat 1))),.v (.fl [a]),.v (.fl [b])] => match vp a,vp b with
  | some (p,x),some (q,y) => some (p ++ q,.many [.fl (e1 (op x y)),.im (.int .i64 0)])
  | _,_ => none
 | _ => none
theorem YL {f : FuncId} {op : Fq → Fq → Fq} (h : ∀ (a b : Nat) (w : World),wv a < FP.M → wv b < FP.M → Calls prog f #[.int .i64 1,.agg (aC (q1 a)).toArray,.agg (aC (q1 b)).toArray] w (LM 0 (op (m1 a) (m1 b)).1 w)) :
  ∀ cs pre r,gF2 op cs = some (pre,r) → aP pre → ∀ (args : List Value) (w : World),bK w cs args → Good prog f r args w:=by
 intro cs pre r hg hp args w ha;unfold gF2 at hg;split at hg
 ·rename_i a b;split at hg
  ·rename_i p x q y hx hy;cases hg;obtain ⟨p1,p2⟩:=aN.1 hp;obtain ⟨n,e1,rfl,hn⟩:=Ap hx p1;obtain ⟨m,e2,rfl,hm⟩:=Ap hy p2
   match args,ha with
   | [t,v,u],ha =>
    have h0 : t = .int .i64 1:=ha.1;have h1 : v = .agg (aC [a]).toArray:=ha.2.1;have h2 : u = .agg (aC [b]).toArray:=ha.2.2.1;rw [e1] at h1;rw [e2] at h2;subst h0; subst h1; subst h2;refine (h n m w hn hm).mono ?_
    rintro e w' ⟨s0,s1,s2,s3,rfl,hs,hv,hb⟩
    obtain ⟨rfl,rfl,rfl,rfl⟩:=fB hs (gV (op (m1 n) (m1 m)).2) hv;exact ⟨rfl,hb⟩
   | [],ha => exact ha.elim
   | [_],ha => exact ha.2.elim
   | [_,_],ha => exact ha.2.2.elim
   | _ :: _ :: _ :: _ :: _,ha => exact ha.2.2.2.elim
  ·cases hg
 ·cases hg
theorem aLQ (a b : Nat) (w : World) (ha : wv a < FP.M) (hb : wv b < FP.M) : Calls prog 82 #[.int .i64 1,.agg (aC (q1 a)).toArray,.agg (aC (q1 b)).toArray] w (LM 0 (F1.add (m1 a) (m1 b)).1 w):=by
 have e : (F1.add (m1 a) (m1 b)).1 = (wv a + wv b) % FP.M:=(Nat.add_mod _ _ _).symm;rw [e];exact Ea 1 FP fT _ _ _ _ _ _ _ _ (bM a) (bM b) ha hb w
theorem aLP (a b : Nat) (w : World) (ha : wv a < FP.M) (hb : wv b < FP.M) : Calls prog 165 #[.int .i64 1,.agg (aC (q1 a)).toArray,.agg (aC (q1 b)).toArray] w (LM 0 (F1.mul (m1 a) (m1 b)).1 w):=by
 have e : (F1.mul (m1 a) (m1 b)).1 = (wv a * wv b) % FP.M:=(Nat.mul_mod _ _ _).symm;rw [e];exact Dw 1 FP fT _ _ _ _ _ _ _ _ (bM a) (bM b) ha hb w
theorem aLO (a b : Nat) (w : World) (ha : wv a < FP.M) (hb : wv b < FP.M) : Calls prog 166 #[.int .i64 1,.agg (aC (q1 a)).toArray,.agg (aC (q1 b)).toArray] w (LM 0 (F1.sub (m1 a) (m1 b)).1 w):=by
 have e : (F1.sub (m1 a) (m1 b)).1 = (wv a + FP.M - wv b) % FP.M:=by
  show (wv a % FP.M + (0 + FP.M - wv b % FP.M) % FP.M) % FP.M = _;rw [Nat.mod_eq_of_lt ha,Nat.mod_eq_of_lt hb,Nat.add_mod_mod];congr 1;omega
 rw [e];exact Dt 1 FP fT _ _ _ _ _ _ _ _ (bM a) (bM b) ha hb w
def aIl (d : Bool) : fQ
 | [.v (.im (.int .i64 (.ofNat 1))),.v (.fl l)] => match vZ l with
  | some x => bif d then some ([wv x < FP.M],.one (.im (.int .i64 0))) else some ([¬ wv x < FP.M],.one (.im (.int .i64 21)))
  | none => none
 | _ => none
theorem aDk (d : Bool) : ∀ cs pre r,aIl d cs = some (pre,r) → aP pre → ∀ (args : List Value) (w : World),bK w cs args → Good prog 162 r args w:=by
 intro cs pre r hg hp args w ha;unfold aIl at hg;split at hg
 ·rename_i l;split at hg
  ·rename_i x hx
   match args,ha with
   | [v,u],ha =>
    have h1 : v = .int .i64 1:=ha.1;have h2 : u = .agg (aC l).toArray:=ha.2.1;rw [dJ l x hx] at h2;subst h1; subst h2;cases d
    ·cases hg;exact BD 1 21 _ _ _ _ (bM x) (Or.inr ⟨FP,fT,hp.1,rfl⟩) w
    ·cases hg;exact ET 1 FP fT _ _ _ _ (bM x) hp.1 w
   | [],ha => exact ha.elim
   | [_],ha => exact ha.2.elim
   | _ :: _ :: _ :: _,ha => exact ha.2.2.elim
  ·cases hg
 ·cases hg
def Zm (d : Bool) : Tab:=(xQ true).add 82 (gF2 F1.add)
theorem aCp (d : Bool) : TabOk prog (Zm d):=(zU true).ad func82 (YL aLQ)
def Zj (d : Bool) : Tab:=(Zm d).add 165 (gF2 F1.mul)
theorem aCm (d : Bool) : TabOk prog (Zj d):=(aCp d).ad func165 (YL aLP)
def Zi (d : Bool) : Tab:=(Zj d).add 166 (gF2 F1.sub)
theorem aCl (d : Bool) : TabOk prog (Zi d):=(aCm d).ad func166 (YL aLO)
def ZX (d : Bool) : Tab:=(Zi d).add 162 (aIl d)
theorem Cj (d : Bool) : TabOk prog (ZX d):=(aCl d).ad func162 (aDk d)
theorem Pj (d : Bool) (x y : N2) : dH prog (ZX d) qN (fun _ => true) f63 40 [.v (.fl (q2 x)),.v (.fl (q2 y))] = some ([],.one (.fl (e2 (F2.add (m2 x) (m2 y))))):=by kernel_rfl
def Ah (d : Bool) : Tab:=(ZX d).add 63 (g2 nC nC (fun x y => ([],.one (.fl (e2 (F2.add x y))))))
theorem Cs (d : Bool) : TabOk prog (Ah d):=(Cj d).ad func63 (gU cF cF fun x y hp args w ha => aS aG (Cj d) cC func63 (Pj d x y) hp ha)
theorem Oy (d : Bool) (x y : N2) : dH prog (Ah d) qN (fun _ => true) f105 40 [.v (.fl (q2 x)),.v (.fl (q2 y))] = some ([],.one (.fl (e2 (F2.sub (m2 x) (m2 y))))):=by kernel_rfl
def Ac (d : Bool) : Tab:=(Ah d).add 105 (g2 nC nC (fun x y => ([],.one (.fl (e2 (F2.sub x y))))))
theorem Co (d : Bool) : TabOk prog (Ac d):=(Cs d).ad func105 (gU cF cF fun x y hp args w ha => aS aG (Cs d) cC func105 (Oy d x y) hp ha)
theorem Iw (d : Bool) (x : N2) : dH prog (Ac d) qN (fun _ => true) f90 40 [.v (.fl (q2 x))] = some ([],.one (.fl (e2 (cL (m2 x))))):=by kernel_rfl
def LF (d : Bool) : Tab:=(Ac d).add 90 (g1 nC (fun x => ([],.one (.fl (e2 (cL x))))))
theorem QO (d : Bool) : TabOk prog (LF d):=(Co d).ad func90 (iC cF fun x hp args w ha => aS aG (Co d) cC func90 (Iw d x) hp ha)
theorem Gw (d : Bool) (x y : Nat) : dH prog (LF d) qN (fun _ => true) f232 40 [.v (.fl (q1 x)),.v (.fl (q1 y))] = some ([wv x < FP.M,wv y < FP.M],.one (.fl (e1 (F1.add (m1 x) (m1 y))))):=by kernel_rfl
def KR (d : Bool) : Tab:=(LF d).add 232 (g2p fun x y => .one (.fl (e1 (F1.add x y))))
theorem QH (d : Bool) : TabOk prog (KR d):=(QO d).ad func232 (YN fun x y hx hy args w ha => aS aG (QO d) cC func232 (Gw d x y) ⟨hx,hy,trivial⟩ ha)
theorem UV (d : Bool) (x y : Nat) : dH prog (KR d) qN (fun _ => true) f230 40 [.v (.fl (q1 x)),.v (.fl (q1 y))] = some ([wv x < FP.M,wv y < FP.M],.one (.fl (e1 (F1.sub (m1 x) (m1 y))))):=by kernel_rfl
def BW (d : Bool) : Tab:=(KR d).add 230 (g2p fun x y => .one (.fl (e1 (F1.sub x y))))
theorem DZ (d : Bool) : TabOk prog (BW d):=(QH d).ad func230 (YN fun x y hx hy args w ha => aS aG (QH d) cC func230 (UV d x y) ⟨hx,hy,trivial⟩ ha)
theorem UU (d : Bool) (x y : Nat) : dH prog (BW d) qN (fun _ => true) f233 40 [.v (.fl (q1 x)),.v (.fl (q1 y))] = some ([wv x < FP.M,wv y < FP.M],.one (.fl (e1 (F1.mul (m1 x) (m1 y))))):=by kernel_rfl
def BV (d : Bool) : Tab:=(BW d).add 233 (g2p fun x y => .one (.fl (e1 (F1.mul x y))))
theorem DY (d : Bool) : TabOk prog (BV d):=(DZ d).ad func233 (YN fun x y hx hy args w ha => aS aG (DZ d) cC func233 (UU d x y) ⟨hx,hy,trivial⟩ ha)
theorem Nl (d : Bool) (x : Nat) : dH prog (BV d) qN (fun _ => true) f231 40 [.v (.fl (q1 x))] = some ([],.one (.fl (e1 F1.one))):=by kernel_rfl
def ZN (d : Bool) : Tab:=(BV d).add 231 (g1 Bf (fun x => ([],.one (.fl (e1 F1.one)))))
theorem By (d : Bool) : TabOk prog (ZN d):=(DY d).ad func231 (iC iZ fun x hp args w ha => aS aG (DY d) cC func231 (Nl d x) hp ha)
theorem Nn (d : Bool) (x : Nat) : dH prog (ZN d) qN (fun _ => true) f228 40 [.v (.fl (q1 x))] = some ([],.one (.fl (e1 (fm 3)))):=by kernel_rfl
def ZP (d : Bool) : Tab:=(ZN d).add 228 (g1 Bf (fun x => ([],.one (.fl (e1 (fm 3))))))
theorem Ca (d : Bool) : TabOk prog (ZP d):=(By d).ad func228 (iC iZ fun x hp args w ha => aS aG (By d) cC func228 (Nn d x) hp ha)
theorem Nm (d : Bool) (x : Fq) : dH prog (ZP d) qN (fun _ => true) f229 40 [.v (.fl (e1 x))] = some ([x ≠ F1.zero],.one (.fl (e1 (dZ x)))):=by kernel_rfl
def KT (d : Bool) : Tab:=(ZP d).add 229 (g1 DO (fun x => ([x ≠ F1.zero],.one (.fl (e1 (dZ x))))))
theorem IQ (d : Bool) : TabOk prog (KT d):=(Ca d).ad func229 (cN eP fun x hp args w ha => aS aG (Ca d) cC func229 (Nm d x) hp ha)
theorem UW (x : Nat) : dH prog (KT true) qN (fun _ => true) f225 40 [.v (.fl (q1 x))] = some ([wv x < FP.M],.one (.im (.bool true))):=by kernel_rfl
theorem UX (x : Nat) : dH prog (KT false) qN (fun _ => true) f225 40 [.v (.fl (q1 x))] = some ([¬ wv x < FP.M],.one (.im (.bool false))):=by kernel_rfl
def aHn (d : Bool) (x : Nat) : List Prop × RV:=bif d then ([wv x < FP.M],.one (.im (.bool true))) else ([¬ wv x < FP.M],.one (.im (.bool false)))
theorem aCu (d : Bool) (x : Nat) (hp : aP (aHn d x).1) (args : List Value) (w : World) (ha : bK w [.v (.fl (q1 x))] args) : Good prog 225 (aHn d x).2 args w:=by
 cases d
 ·exact aS aG (IQ false) cC func225 (UX x) hp ha
 ·exact aS aG (IQ true) cC func225 (UW x) hp ha
def ZO (d : Bool) : Tab:=(KT d).add 225 (g1 vZ (aHn d))
theorem Bz (d : Bool) : TabOk prog (ZO d):=(IQ d).ad func225 (cN dJ fun x hp args w ha => aCu d x hp args w ha)
theorem Hg (d : Bool) (x y : N2) : dH prog (ZO d) qN (fun _ => true) f222 40 [.v (.fl (q2 x)),.v (.fl (q2 y))] = some ([],.one (.fl (e2 (F2.add (m2 x) (m2 y))))):=by kernel_rfl
def KZ (d : Bool) : Tab:=(ZO d).add 222 (g2 nC nC (fun x y => ([],.one (.fl (e2 (F2.add x y))))))
theorem QM (d : Bool) : TabOk prog (KZ d):=(Bz d).ad func222 (gU cF cF fun x y hp args w ha => aS aG (Bz d) cC func222 (Hg d x y) hp ha)
theorem VZ (d : Bool) (x y : N2) : dH prog (KZ d) qN (fun _ => true) f220 40 [.v (.fl (q2 x)),.v (.fl (q2 y))] = some ([],.one (.fl (e2 (F2.sub (m2 x) (m2 y))))):=by kernel_rfl
def BZ (d : Bool) : Tab:=(KZ d).add 220 (g2 nC nC (fun x y => ([],.one (.fl (e2 (F2.sub x y))))))
theorem EE (d : Bool) : TabOk prog (BZ d):=(QM d).ad func220 (gU cF cF fun x y hp args w ha => aS aG (QM d) cC func220 (VZ d x y) hp ha)
theorem VY (d : Bool) (x y : N2) : dH prog (BZ d) qN (fun _ => true) f223 40 [.v (.fl (q2 x)),.v (.fl (q2 y))] = some ([],.one (.fl (e2 (F2.mul (m2 x) (m2 y))))):=by kernel_rfl
def BY (d : Bool) : Tab:=(BZ d).add 223 (g2 nC nC (fun x y => ([],.one (.fl (e2 (F2.mul x y))))))
theorem ED (d : Bool) : TabOk prog (BY d):=(EE d).ad func223 (gU cF cF fun x y hp args w ha => aS aG (EE d) cC func223 (VY d x y) hp ha)
theorem Oe (d : Bool) (x : N2) : dH prog (BY d) qN (fun _ => true) f221 40 [.v (.fl (q2 x))] = some ([],.one (.fl (e2 F2.one))):=by kernel_rfl
def ZT (d : Bool) : Tab:=(BY d).add 221 (g1 nC (fun x => ([],.one (.fl (e2 F2.one)))))
theorem Cf (d : Bool) : TabOk prog (ZT d):=(ED d).ad func221 (iC cF fun x hp args w ha => aS aG (ED d) cC func221 (Oe d x) hp ha)
def lY : Q2:=(⟨19485874751759354771024239261021720505790618469301721065564631296452457478373,by decide⟩,⟨266929791119991161246907387137283842545076965332900288569378510910307636690,by decide⟩)
theorem Oh (d : Bool) (x : N2) : dH prog (ZT d) qN (fun _ => true) f217 40 [.v (.fl (q2 x))] = some ([],.one (.fl (e2 lY))):=by kernel_rfl
def ZU (d : Bool) : Tab:=(ZT d).add 217 (g1 nC (fun x => ([],.one (.fl (e2 lY)))))
theorem Cg (d : Bool) : TabOk prog (ZU d):=(Cf d).ad func217 (iC cF fun x hp args w ha => aS aG (Cf d) cC func217 (Oh d x) hp ha)
theorem Og (d : Bool) (x : N2) : dH prog (ZU d) qN (fun _ => true) f218 40 [.v (.fl (q2 x))] = some ([fR (m2 x) ≠ F1.zero],.one (.fl (e2 (kO (m2 x))))):=by kernel_rfl
def CB (d : Bool) : Tab:=(ZU d).add 218 (g1 nC (fun x => ([fR x ≠ F1.zero],.one (.fl (e2 (kO x))))))
theorem wW (d : Bool) : TabOk prog (CB d):=(Cg d).ad func218 (iC cF fun x hp args w ha => aS aG (Cg d) cC func218 (Og d x) hp ha)
theorem WA (x : N2) : dH prog (CB true) qN (fun _ => true) f219 40 [.v (.fl (q2 x))] = some ([wv x.1 < FP.M,wv x.2 < FP.M],.one (.im (.bool true))):=by kernel_rfl
theorem WC (x : N2) : dH prog (CB false) qN (fun _ => true) f219 40 [.v (.fl (q2 x))] = some ([¬ wv x.1 < FP.M],.one (.im (.bool false))):=by kernel_rfl
theorem WB (x : N2) : aM prog qN (fun _ => ⟨fun s => CB (bif Nat.beq s 9 then false else true),fun _ => true,fun _ => none⟩) f219 40 [.v (.fl (q2 x))] = some ([wv x.1 < FP.M,¬ wv x.2 < FP.M],.one (.im (.bool false))):=by kernel_rfl
def Ta (d : Bool) (x : N2) : List Prop × RV:=bif d then ([wv x.1 < FP.M ∧ wv x.2 < FP.M],.one (.im (.bool true))) else ([¬ (wv x.1 < FP.M ∧ wv x.2 < FP.M)],.one (.im (.bool false)))
theorem Sz (d : Bool) (x : N2) (hp : aP (Ta d x).1) (args : List Value) (w : World) (ha : bK w [.v (.fl (q2 x))] args) : Good prog 219 (Ta d x).2 args w:=by
 cases d
 ·have h1 : ¬ (wv x.1 < FP.M ∧ wv x.2 < FP.M):=hp.1
  by_cases h : wv x.1 < FP.M
  ·exact aD aG (fun _ s => wW _) cC func219 (WB x) ⟨h,fun e => h1 ⟨h,e⟩,trivial⟩ ha
  ·exact aS aG (wW false) cC func219 (WC x) ⟨h,trivial⟩ ha
 ·have h1 : wv x.1 < FP.M ∧ wv x.2 < FP.M:=hp.1;exact aS aG (wW true) cC func219 (WA x) ⟨h1.1,h1.2,trivial⟩ ha
def LA (d : Bool) : Tab:=(CB d).add 219 (g1 Bh (Ta d))
theorem IR (d : Bool) : TabOk prog (LA d):=(wW d).ad func219 (cN jA fun x hp args w ha => Sz d x hp args w ha)
theorem fd2 : FD F2 kO:=⟨aIx.1,fun x h => Ak fun e => h (sD e)⟩
theorem aHq {x : Q2} (h : x ≠ F2.zero) : fR x ≠ F1.zero:=fun e => h (sD e)
abbrev J1:=Jc Fq
abbrev J2:=Jc Q2
def kH (p : J1) : List At:=[.f p.1,.f p.2.1,.f p.2.2]
def bI (p : J2) : List At:=[.f p.1.1,.f p.1.2,.f p.2.1.1,.f p.2.1.2,.f p.2.2.1,.f p.2.2.2]
def rj1 : List At → Option J1 | [.f a,.f b,.f c] => some (a,b,c) | _ => none
def OV : List At → Option J2 | [.f a,.f b,.f c,.f d,.f e,.f f] => some ((a,b),(c,d),(e,f)) | _ => none
theorem qE : Rd rj1 kH:=fun l x h => by unfold rj1 at h; split at h <;> cases h; rfl
theorem gF : Rd OV bI:=fun l x h => by unfold OV at h; split at h <;> cases h; rfl
theorem oY {a b : Fq} (h : a ≠ b) : aC (e1 a) ≠ aC (e1 b):=fun e => h (uT e)
theorem cG {a b : Q2} (h : a ≠ b) : aC (e2 a) ≠ aC (e2 b):=fun e => h (aIG e)
theorem FD.inv_one {R : Type} {K : CR R} {inv : R → R} (F : FD K inv) : inv K.one = K.one:=by
 have:=F.inv K.one F.ne
 rwa [K.one_mul] at this
theorem WI (p : J1) : aM prog (qG prog) (fun _ => ⟨fun s => LA true,fun s => true,fun _ => none⟩) f236 60 [.v (.fl (kH p))] = some ([aC (e1 p.2.2) = aC (e1 F1.zero)],.one (.im (.bool true))):=by kernel_rfl
theorem WJ (p : J1) : aM prog (qG prog) (fun _ => ⟨fun s => LA false,fun s => false,fun _ => none⟩) f236 60 [.v (.fl (kH p))] = some ([aC (e1 p.2.2) ≠ aC (e1 F1.zero)],.one (.im (.bool false))):=by kernel_rfl
def Th (d : Bool) (p : J1) : List Prop × RV:=bif d then ([p.2.2 = F1.zero],.one (.im (.bool true))) else ([p.2.2 ≠ F1.zero],.one (.im (.bool false)))
theorem Tg (d : Bool) (p : J1) (hp : aP (Th d p).1) (args : List Value) (w : World) (ha : bK w [.v (.fl (kH p))] args) : Good prog 236 (Th d p).2 args w:=by
 cases d
 ·have h : p.2.2 ≠ F1.zero:=hp.1;exact aD aG (fun _ s => IR _) (aH prog) func236 (WJ p) ⟨oY h,trivial⟩ ha
 ·have h : p.2.2 = F1.zero:=hp.1;exact aD aG (fun _ s => IR _) (aH prog) func236 (WI p) ⟨by rw [h],trivial⟩ ha
def LD (d : Bool) : Tab:=(LA d).add 236 (g1 rj1 (Th d))
theorem IU (d : Bool) : TabOk prog (LD d):=(IR d).ad func236 (cN qE fun p hp args w ha => Tg d p hp args w ha)
theorem US (d : Bool) (p : J1) (b : Fq) : aM prog (qG prog) (fun _ => ⟨fun s => LD d,fun s => true,fun _ => none⟩) f239 60 [.v (.fl (kH p)),.v (.fl (e1 b))] = some ([aC (e1 p.2.2) = aC (e1 F1.one)],.one (.fl (e1 b))):=by kernel_rfl
theorem UT (d : Bool) (p : J1) (b : Fq) : aM prog (qG prog) (fun _ => ⟨fun s => LD d,fun s => false,fun _ => none⟩) f239 60 [.v (.fl (kH p)),.v (.fl (e1 b))] = some ([aC (e1 p.2.2) ≠ aC (e1 F1.one)],.one (.fl (e1 (F1.mul b p.2.2)))):=by kernel_rfl
theorem aAr (d : Bool) (p : J1) (b : Fq) (args : List Value) (w : World) (ha : bK w [.v (.fl (kH p)),.v (.fl (e1 b))] args) : Good prog 239 (.one (.fl (e1 (F1.mul b p.2.2)))) args w:=by
 by_cases h : p.2.2 = F1.one
 ·rw [h,F1.mul_one];exact aD aG (fun _ s => IU _) (aH prog) func239 (US d p b) ⟨by rw [h],trivial⟩ ha
 ·exact aD aG (fun _ s => IU _) (aH prog) func239 (UT d p b) ⟨oY h,trivial⟩ ha
def KQ (d : Bool) : Tab:=(LD d).add 239 (g2 rj1 DO fun p b => ([],.one (.fl (e1 (F1.mul b p.2.2)))))
theorem IP (d : Bool) : TabOk prog (KQ d):=(IU d).ad func239 (iT qE eP fun p b hp args w ha => aAr d p b args w ha)
theorem WS (d : Bool) (p q : J1) : aM prog (qG prog) (fun _ => ⟨fun s => KQ d,fun s => true,fun _ => none⟩) f234 60 [.v (.fl (kH p)),.v (.fl (kH q))] = some ([aC (e1 q.2.2) = aC (e1 F1.one)],.many [.fl (e1 (p.1)),.fl (e1 (p.2.1))]):=by kernel_rfl
theorem WT (d : Bool) (p q : J1) : aM prog (qG prog) (fun _ => ⟨fun s => KQ d,fun s => false,fun _ => none⟩) f234 60 [.v (.fl (kH p)),.v (.fl (kH q))] = some ([aC (e1 q.2.2) ≠ aC (e1 F1.one)],.many [.fl (e1 (CF F1 p q)),.fl (e1 (wI F1 p q))]):=by kernel_rfl
theorem aDS (d : Bool) (p q : J1) (args : List Value) (w : World) (ha : bK w [.v (.fl (kH p)),.v (.fl (kH q))] args) : Good prog 234 (.many [.fl (e1 (CF F1 p q)),.fl (e1 (wI F1 p q))]) args w:=by
 by_cases h : q.2.2 = F1.one
 ·have hx : CF F1 p q = p.1:=by unfold CF; rw [h,F1.mul_one,F1.mul_one]
  have hy : wI F1 p q = p.2.1:=by unfold wI; rw [h,F1.mul_one,F1.mul_one,F1.mul_one]
  rw [hx,hy];exact aD aG (fun _ s => IP _) (aH prog) func234 (WS d p q) ⟨by rw [h],trivial⟩ ha
 ·exact aD aG (fun _ s => IP _) (aH prog) func234 (WT d p q) ⟨oY h,trivial⟩ ha
def Ab (d : Bool) : Tab:=(KQ d).add 234 (g2 rj1 rj1 fun p q => ([],.many [.fl (e1 (CF F1 p q)),.fl (e1 (wI F1 p q))]))
theorem Cn (d : Bool) : TabOk prog (Ab d):=(IP d).ad func234 (iT qE qE fun p q hp args w ha => aDS d p q args w ha)
theorem Oq (d : Bool) (p : J1) : aM prog (qG prog) (fun _ => ⟨fun s => Ab d,fun s => true,fun _ => none⟩) f235 60 [.v (.fl (kH p))] = some ([],.one (.fl (kH (dT F1 p)))):=by kernel_rfl
def qW (d : Bool) : Tab:=(Ab d).add 235 (g1 rj1 fun p => ([],.one (.fl (kH (dT F1 p)))))
theorem oV (d : Bool) : TabOk prog (qW d):=(Cn d).ad func235 (cN qE fun p hp args w ha => aD aG (fun _ s => Cn _) (aH prog) func235 (Oq d p) trivial ha)
theorem OD (p q : J1) : aM prog (qG prog) (fun _ => ⟨fun s => qW (bif Nat.beq s 18 then true else false),fun s => true,fun _ => none⟩) f238 80 [.v (.fl (kH p)),.v (.fl (kH q))] = some ([p.2.2 = F1.zero],.one (.fl (kH q))):=by kernel_rfl
theorem OC (p q : J1) : aM prog (qG prog) (fun _ => ⟨fun s => qW (bif Nat.beq s 18 then false else true),fun s => true,fun _ => none⟩) f238 80 [.v (.fl (kH p)),.v (.fl (kH q))] = some ([p.2.2 ≠ F1.zero,q.2.2 = F1.zero],.one (.fl (kH p))):=by kernel_rfl
theorem OB (p q : J1) : aM prog (qG prog) (fun _ => ⟨fun s => qW (bif Nat.beq s 18 then false else false),fun s => true,fun _ => none⟩) f238 80 [.v (.fl (kH p)),.v (.fl (kH q))] = some ([p.2.2 ≠ F1.zero,q.2.2 ≠ F1.zero,aC (e1 (qZ F1 p q)) = aC (e1 F1.zero),aC (e1 (JH F1 p q)) = aC (e1 F1.zero)],.one (.fl (kH (dT F1 p)))):=by kernel_rfl
theorem OA (p q : J1) : aM prog (qG prog) (fun _ => ⟨fun s => qW (bif Nat.beq s 18 then false else false),fun s => false,fun _ => none⟩) f238 80 [.v (.fl (kH p)),.v (.fl (kH q))] = some ([p.2.2 ≠ F1.zero,q.2.2 ≠ F1.zero,aC (e1 (qZ F1 p q)) ≠ aC (e1 F1.zero)],.one (.fl (kH (DB F1 p q)))):=by kernel_rfl
theorem NZ (p q : J1) : aM prog (qG prog) (fun _ => ⟨fun s => qW (bif Nat.beq s 18 then false else false),fun s => !(Nat.beq s 49),fun _ => none⟩) f238 80 [.v (.fl (kH p)),.v (.fl (kH q))] = some ([p.2.2 ≠ F1.zero,q.2.2 ≠ F1.zero,aC (e1 (qZ F1 p q)) = aC (e1 F1.zero),aC (e1 (JH F1 p q)) ≠ aC (e1 F1.zero)],.one (.fl (kH (DB F1 p q)))):=by kernel_rfl
theorem Rl (d : Bool) (p q : J1) (args : List Value) (w : World) (ha : bK w [.v (.fl (kH p)),.v (.fl (kH q))] args) : Good prog 238 (.one (.fl (kH (gT F1 p q)))) args w:=by
 unfold gT
 by_cases h1 : p.2.2 = F1.zero
 ·rw [if_pos h1];exact aD aG (fun _ s => oV _) (aH prog) func238 (OD p q) ⟨h1,trivial⟩ ha
 ·rw [if_neg h1]
  by_cases h2 : q.2.2 = F1.zero
  ·rw [if_pos h2];exact aD aG (fun _ s => oV _) (aH prog) func238 (OC p q) ⟨h1,h2,trivial⟩ ha
  ·rw [if_neg h2]
   by_cases h3 : qZ F1 p q = F1.zero
   ·by_cases h4 : JH F1 p q = F1.zero
    ·rw [if_pos ⟨h3,h4⟩];exact aD aG (fun _ s => oV _) (aH prog) func238 (OB p q) ⟨h1,h2,by rw [h3],by rw [h4],trivial⟩ ha
    ·rw [if_neg (fun h => h4 h.2)];exact aD aG (fun _ s => oV _) (aH prog) func238 (NZ p q) ⟨h1,h2,by rw [h3],oY h4,trivial⟩ ha
   ·rw [if_neg (fun h => h3 h.1)];exact aD aG (fun _ s => oV _) (aH prog) func238 (OA p q) ⟨h1,h2,oY h3,trivial⟩ ha
def xR (d : Bool) : Tab:=(qW d).add 238 (g2 rj1 rj1 fun p q => ([],.one (.fl (kH (gT F1 p q)))))
theorem zW (d : Bool) : TabOk prog (xR d):=(oV d).ad func238 (iT qE qE fun p q hp args w ha => Rl d p q args w ha)
theorem WG (p : J2) : aM prog (qG prog) (fun _ => ⟨fun s => xR true,fun s => true,fun _ => none⟩) f172 60 [.v (.fl (bI p))] = some ([aC (e2 p.2.2) = aC (e2 F2.zero)],.one (.im (.bool true))):=by kernel_rfl
theorem WH (p : J2) : aM prog (qG prog) (fun _ => ⟨fun s => xR false,fun s => false,fun _ => none⟩) f172 60 [.v (.fl (bI p))] = some ([aC (e2 p.2.2) ≠ aC (e2 F2.zero)],.one (.im (.bool false))):=by kernel_rfl
def Tf (d : Bool) (p : J2) : List Prop × RV:=bif d then ([p.2.2 = F2.zero],.one (.im (.bool true))) else ([p.2.2 ≠ F2.zero],.one (.im (.bool false)))
theorem Te (d : Bool) (p : J2) (hp : aP (Tf d p).1) (args : List Value) (w : World) (ha : bK w [.v (.fl (bI p))] args) : Good prog 172 (Tf d p).2 args w:=by
 cases d
 ·have h : p.2.2 ≠ F2.zero:=hp.1;exact aD aG (fun _ s => zW _) (aH prog) func172 (WH p) ⟨cG h,trivial⟩ ha
 ·have h : p.2.2 = F2.zero:=hp.1;exact aD aG (fun _ s => zW _) (aH prog) func172 (WG p) ⟨by rw [h],trivial⟩ ha
def LC (d : Bool) : Tab:=(xR d).add 172 (g1 OV (Tf d))
theorem IT (d : Bool) : TabOk prog (LC d):=(zW d).ad func172 (cN gF fun p hp args w ha => Te d p hp args w ha)
theorem UQ (d : Bool) (p : J2) (b : Q2) : aM prog (qG prog) (fun _ => ⟨fun s => LC d,fun s => true,fun _ => none⟩) f190 60 [.v (.fl (bI p)),.v (.fl (e2 b))] = some ([aC (e2 p.2.2) = aC (e2 F2.one)],.one (.fl (e2 b))):=by kernel_rfl
theorem UR (d : Bool) (p : J2) (b : Q2) : aM prog (qG prog) (fun _ => ⟨fun s => LC d,fun s => false,fun _ => none⟩) f190 60 [.v (.fl (bI p)),.v (.fl (e2 b))] = some ([aC (e2 p.2.2) ≠ aC (e2 F2.one)],.one (.fl (e2 (F2.mul b p.2.2)))):=by kernel_rfl
theorem aAq (d : Bool) (p : J2) (b : Q2) (args : List Value) (w : World) (ha : bK w [.v (.fl (bI p)),.v (.fl (e2 b))] args) : Good prog 190 (.one (.fl (e2 (F2.mul b p.2.2)))) args w:=by
 by_cases h : p.2.2 = F2.one
 ·rw [h,F2.mul_one];exact aD aG (fun _ s => IT _) (aH prog) func190 (UQ d p b) ⟨by rw [h],trivial⟩ ha
 ·exact aD aG (fun _ s => IT _) (aH prog) func190 (UR d p b) ⟨cG h,trivial⟩ ha
def KP (d : Bool) : Tab:=(LC d).add 190 (g2 OV TB fun p b => ([],.one (.fl (e2 (F2.mul b p.2.2)))))
theorem IN (d : Bool) : TabOk prog (KP d):=(IT d).ad func190 (iT gF gP fun p b hp args w ha => aAq d p b args w ha)
theorem WQ (d : Bool) (p q : J2) : aM prog (qG prog) (fun _ => ⟨fun s => KP d,fun s => true,fun _ => none⟩) f189 60 [.v (.fl (bI p)),.v (.fl (bI q))] = some ([aC (e2 q.2.2) = aC (e2 F2.one)],.many [.fl (e2 (p.1)),.fl (e2 (p.2.1))]):=by kernel_rfl
theorem WR (d : Bool) (p q : J2) : aM prog (qG prog) (fun _ => ⟨fun s => KP d,fun s => false,fun _ => none⟩) f189 60 [.v (.fl (bI p)),.v (.fl (bI q))] = some ([aC (e2 q.2.2) ≠ aC (e2 F2.one)],.many [.fl (e2 (CF F2 p q)),.fl (e2 (wI F2 p q))]):=by kernel_rfl
theorem aDR (d : Bool) (p q : J2) (args : List Value) (w : World) (ha : bK w [.v (.fl (bI p)),.v (.fl (bI q))] args) : Good prog 189 (.many [.fl (e2 (CF F2 p q)),.fl (e2 (wI F2 p q))]) args w:=by
 by_cases h : q.2.2 = F2.one
 ·have hx : CF F2 p q = p.1:=by unfold CF; rw [h,F2.mul_one,F2.mul_one]
  have hy : wI F2 p q = p.2.1:=by unfold wI; rw [h,F2.mul_one,F2.mul_one,F2.mul_one]
  rw [hx,hy];exact aD aG (fun _ s => IN _) (aH prog) func189 (WQ d p q) ⟨by rw [h],trivial⟩ ha
 ·exact aD aG (fun _ s => IN _) (aH prog) func189 (WR d p q) ⟨cG h,trivial⟩ ha
def Aa (d : Bool) : Tab:=(KP d).add 189 (g2 OV OV fun p q => ([],.many [.fl (e2 (CF F2 p q)),.fl (e2 (wI F2 p q))]))
theorem Cm (d : Bool) : TabOk prog (Aa d):=(IN d).ad func189 (iT gF gF fun p q hp args w ha => aDR d p q args w ha)
theorem Oo (d : Bool) (p : J2) : aM prog (qG prog) (fun _ => ⟨fun s => Aa d,fun s => true,fun _ => none⟩) f188 60 [.v (.fl (bI p))] = some ([],.one (.fl (bI (dT F2 p)))):=by kernel_rfl
def ZY (d : Bool) : Tab:=(Aa d).add 188 (g1 OV fun p => ([],.one (.fl (bI (dT F2 p)))))
theorem Ck (d : Bool) : TabOk prog (ZY d):=(Cm d).ad func188 (cN gF fun p hp args w ha => aD aG (fun _ s => Cm _) (aH prog) func188 (Oo d p) trivial ha)
theorem Oj (d : Bool) (p : J2) : aM prog (qG prog) (fun _ => ⟨fun s => ZY d,fun s => true,fun _ => none⟩) f181 60 [.v (.fl (bI p))] = some ([],.one (.fl (bI (JK F2 p)))):=by kernel_rfl
def CC (d : Bool) : Tab:=(ZY d).add 181 (g1 OV fun p => ([],.one (.fl (bI (JK F2 p)))))
theorem wX (d : Bool) : TabOk prog (CC d):=(Ck d).ad func181 (cN gF fun p hp args w ha => aD aG (fun _ s => Ck _) (aH prog) func181 (Oj d p) trivial ha)
theorem MV (p : J2) : aM prog (qG prog) (fun _ => ⟨fun s => CC true,fun s => true,fun _ => none⟩) f159 60 [.v (.fl (bI p))] = some ([p.2.2 = F2.zero],.many [.fl (e2 F2.zero),.fl (e2 F2.zero),.im (.bool true)]):=by kernel_rfl
theorem MU (p : J2) : aM prog (qG prog) (fun _ => ⟨fun s => CC false,fun s => true,fun _ => none⟩) f159 60 [.v (.fl (bI p))] = some ([p.2.2 ≠ F2.zero,aC (e2 p.2.2) = aC (e2 F2.one)],.many [.fl (e2 p.1),.fl (e2 p.2.1),.im (.bool false)]):=by kernel_rfl
theorem MX (p : J2) : aM prog (qG prog) (fun _ => ⟨fun s => CC false,fun s => false,fun _ => none⟩) f159 60 [.v (.fl (bI p))] = some ([p.2.2 ≠ F2.zero,aC (e2 p.2.2) ≠ aC (e2 F2.one),fR p.2.2 ≠ F1.zero],.many [.fl (e2 (F2.mul p.1 (F2.mul (kO p.2.2) (kO p.2.2)))),.fl (e2 (F2.mul p.2.1 (F2.mul (F2.mul (kO p.2.2) (kO p.2.2)) (kO p.2.2)))),.im (.bool false)]):=by kernel_rfl
def XV (d : Bool) (p : J2) : List Prop × RV:=bif d then ([p.2.2 = F2.zero],.many [.fl (e2 F2.zero),.fl (e2 F2.zero),.im (.bool true)]) else ([p.2.2 ≠ F2.zero],.many [.fl (e2 (F2.mul p.1 (F2.mul (kO p.2.2) (kO p.2.2)))),.fl (e2 (F2.mul p.2.1 (F2.mul (F2.mul (kO p.2.2) (kO p.2.2)) (kO p.2.2)))),.im (.bool false)])
theorem Jy (d : Bool) (p : J2) (hp : aP (XV d p).1) (args : List Value) (w : World) (ha : bK w [.v (.fl (bI p))] args) : Good prog 159 (XV d p).2 args w:=by
 cases d
 ·have h : p.2.2 ≠ F2.zero:=hp.1;show Good _ _ (.many [.fl (e2 (F2.mul p.1 (F2.mul (kO p.2.2) (kO p.2.2)))),.fl (e2 (F2.mul p.2.1 (F2.mul (F2.mul (kO p.2.2) (kO p.2.2)) (kO p.2.2)))),.im (.bool false)]) _ _
  by_cases h1 : p.2.2 = F2.one
  ·have hi : kO p.2.2 = F2.one:=by rw [h1]; exact fd2.inv_one
   rw [hi,F2.mul_one,F2.mul_one,F2.mul_one,F2.mul_one];exact aD aG (fun _ s => wX _) (aH prog) func159 (MU p) ⟨h,by rw [h1],trivial⟩ ha
  ·exact aD aG (fun _ s => wX _) (aH prog) func159 (MX p) ⟨h,cG h1,aHq h,trivial⟩ ha
 ·exact aD aG (fun _ s => wX _) (aH prog) func159 (MV p) hp ha
def mS (d : Bool) : Tab:=(CC d).add 159 (g1 OV (XV d))
theorem lL (d : Bool) : TabOk prog (mS d):=(wX d).ad func159 (cN gF fun p hp args w ha => Jy d p hp args w ha)
theorem NY (p q : J2) : aM prog (qG prog) (fun _ => ⟨fun s => mS (bif Nat.beq s 18 then true else false),fun s => true,fun _ => none⟩) f176 80 [.v (.fl (bI p)),.v (.fl (bI q))] = some ([p.2.2 = F2.zero],.one (.fl (bI q))):=by kernel_rfl
theorem NX (p q : J2) : aM prog (qG prog) (fun _ => ⟨fun s => mS (bif Nat.beq s 18 then false else true),fun s => true,fun _ => none⟩) f176 80 [.v (.fl (bI p)),.v (.fl (bI q))] = some ([p.2.2 ≠ F2.zero,q.2.2 = F2.zero],.one (.fl (bI p))):=by kernel_rfl
theorem NW (p q : J2) : aM prog (qG prog) (fun _ => ⟨fun s => mS (bif Nat.beq s 18 then false else false),fun s => true,fun _ => none⟩) f176 80 [.v (.fl (bI p)),.v (.fl (bI q))] = some ([p.2.2 ≠ F2.zero,q.2.2 ≠ F2.zero,aC (e2 (qZ F2 p q)) = aC (e2 F2.zero),aC (e2 (JH F2 p q)) = aC (e2 F2.zero)],.one (.fl (bI (dT F2 p)))):=by kernel_rfl
theorem NV (p q : J2) : aM prog (qG prog) (fun _ => ⟨fun s => mS (bif Nat.beq s 18 then false else false),fun s => false,fun _ => none⟩) f176 80 [.v (.fl (bI p)),.v (.fl (bI q))] = some ([p.2.2 ≠ F2.zero,q.2.2 ≠ F2.zero,aC (e2 (qZ F2 p q)) ≠ aC (e2 F2.zero)],.one (.fl (bI (DB F2 p q)))):=by kernel_rfl
theorem NU (p q : J2) : aM prog (qG prog) (fun _ => ⟨fun s => mS (bif Nat.beq s 18 then false else false),fun s => !(Nat.beq s 49),fun _ => none⟩) f176 80 [.v (.fl (bI p)),.v (.fl (bI q))] = some ([p.2.2 ≠ F2.zero,q.2.2 ≠ F2.zero,aC (e2 (qZ F2 p q)) = aC (e2 F2.zero),aC (e2 (JH F2 p q)) ≠ aC (e2 F2.zero)],.one (.fl (bI (DB F2 p q)))):=by kernel_rfl
theorem Rk (d : Bool) (p q : J2) (args : List Value) (w : World) (ha : bK w [.v (.fl (bI p)),.v (.fl (bI q))] args) : Good prog 176 (.one (.fl (bI (gT F2 p q)))) args w:=by
 unfold gT
 by_cases h1 : p.2.2 = F2.zero
 ·rw [if_pos h1];exact aD aG (fun _ s => lL _) (aH prog) func176 (NY p q) ⟨h1,trivial⟩ ha
 ·rw [if_neg h1]
  by_cases h2 : q.2.2 = F2.zero
  ·rw [if_pos h2];exact aD aG (fun _ s => lL _) (aH prog) func176 (NX p q) ⟨h1,h2,trivial⟩ ha
  ·rw [if_neg h2]
   by_cases h3 : qZ F2 p q = F2.zero
   ·by_cases h4 : JH F2 p q = F2.zero
    ·rw [if_pos ⟨h3,h4⟩];exact aD aG (fun _ s => lL _) (aH prog) func176 (NW p q) ⟨h1,h2,by rw [h3],by rw [h4],trivial⟩ ha
    ·rw [if_neg (fun h => h4 h.2)];exact aD aG (fun _ s => lL _) (aH prog) func176 (NU p q) ⟨h1,h2,by rw [h3],cG h4,trivial⟩ ha
   ·rw [if_neg (fun h => h3 h.1)];exact aD aG (fun _ s => lL _) (aH prog) func176 (NV p q) ⟨h1,h2,cG h3,trivial⟩ ha
def jO (d : Bool) : Tab:=(mS d).add 176 (g2 OV OV fun p q => ([],.one (.fl (bI (gT F2 p q)))))
theorem iQ (d : Bool) : TabOk prog (jO d):=(lL d).ad func176 (iT gF gF fun p q hp args w ha => Rk d p q args w ha)
end Go.Proofs.YtfnkbmlmgnadmaaGreat.Ex
