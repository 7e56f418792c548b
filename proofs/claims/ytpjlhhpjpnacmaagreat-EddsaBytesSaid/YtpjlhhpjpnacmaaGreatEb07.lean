/- Eb07 -/
import Derived.KernelRfl
import Derived.Test.YtpjlhhpjpnacmaaGreatEb06
import Derived.Test.YtpjlhhpjpnacmaaGreatProg
set_option maxRecDepth 100000
set_option linter.unusedVariables false
set_option linter.unusedSimpArgs false
set_option linter.unnecessarySimpa false
noncomputable section
namespace Go.Proofs.YtpjlhhpjpnacmaaGreat.Ex
open Go.Proofs.Tryz
structure FD {R:Type} (K:CR R) (inv:R→R):Prop where
 ne:K.one≠K.zero
 inv:∀x,x≠K.zero→K.mul x (inv x)=K.one
section
variable {R:Type} {K:CR R} {inv:R→R}
theorem FD.zd (h:FD K inv) {a b:R} (e:K.mul a b=K.zero) (ha:a≠K.zero):b=K.zero:=by
 have:=congrArg (K.mul (inv a)) e
 rwa [←K.mul_assoc,K.mul_comm (inv a),h.inv a ha,K.one_mul,K.mul_zero]at this
theorem FD.mul_ne (h:FD K inv) {a b:R} (ha:a≠K.zero) (hb:b≠K.zero):K.mul a b≠K.zero:=fun e=>hb (h.zd e ha)
theorem FD.cancel (h:FD K inv) {a b c:R} (ha:a≠K.zero) (e:K.mul a b=K.mul a c):b=c:=by
 have:=congrArg (K.mul (inv a)) e
 rwa [←K.mul_assoc,←K.mul_assoc,K.mul_comm (inv a),h.inv a ha,K.one_mul,K.one_mul]at this
theorem iC {a b:R} (h:K.add a (K.neg b)=K.zero):a=b:=by
 have h2:K.add (K.add a (K.neg b)) b=K.add K.zero b:=congrArg (fun x=>K.add x b) h
 rwa [K.add_assoc,K.neg_add,K.add_zero,K.zero_add]at h2
theorem eV {a b:R} (h:a=b):K.add a (K.neg b)=K.zero:=by rw[h,K.add_neg]
theorem iA {A B L1 R1 c1:R} (h1:L1=R1) (e:K.add A (K.neg B)=K.mul c1 (K.add L1 (K.neg R1))):A=B:=by
 apply iC (K:=K);rw[e,eV h1,K.mul_zero]
theorem kR {A B L1 R1 c1 L2 R2 c2:R} (h1:L1=R1) (h2:L2=R2) (e:K.add A (K.neg B)=K.add (K.mul c1 (K.add L1 (K.neg R1))) (K.mul c2 (K.add L2 (K.neg R2)))):A=B:=by
 apply iC (K:=K);rw[e,eV h1,eV h2,K.mul_zero,K.mul_zero,K.add_zero]
theorem rE {A B L1 R1 c1 L2 R2 c2 L3 R3 c3:R} (h1:L1=R1) (h2:L2=R2) (h3:L3=R3) (e:K.add A (K.neg B)=K.add (K.add (K.mul c1 (K.add L1 (K.neg R1))) (K.mul c2 (K.add L2 (K.neg R2)))) (K.mul c3 (K.add L3 (K.neg R3)))):A=B:=by
 apply iC (K:=K);rw[e,eV h1,eV h2,eV h3,K.mul_zero,K.mul_zero,K.mul_zero,K.add_zero,K.add_zero]
end
section
variable {R:Type} (K:CR R)
def tl (f:Nat→R):Nat→R:=fun n=>f (n+1)
def mA:Nat→(Nat→R)→(Nat→R)→R
 | 0,f,g=>K.mul (f 0) (g 0)
 | n+1,f,g=>K.add (K.mul (f 0) (g (n+1))) (mA n (tl f) g)
def NM (f g:Nat→R):Nat→R:=fun n=>K.add (f n) (g n)
def Wo (c:R) (f:Nat→R):Nat→R:=fun n=>K.mul c (f n)
def FJ (f g:Nat→R):Nat→R:=fun n=>mA K n f g
def Wr (f:Nat→R):Nat→R:=fun n=>K.neg (f n)
def Qp:Nat→R:=fun _=>K.zero
def Ka (c:R):Nat→R|0=>c|_+1=>K.zero
theorem wB:∀(n:Nat) (f g h:Nat→R),mA K n f (NM K g h)=K.add (mA K n f g) (mA K n f h)
 | 0,f,g,h=>K.mul_add _ _ _
 | n+1,f,g,h=>by
  show K.add (K.mul (f 0) (K.add _ _)) (mA K n (tl f) (NM K g h))=K.add (K.add _ _) (K.add _ _);rw[wB n,K.mul_add,K.add_assoc,K.add_assoc,K.add_left_comm (K.mul (f 0) (h (n+1)))]
theorem wC:∀(n:Nat) (f g h:Nat→R),mA K n (NM K f g) h=K.add (mA K n f h) (mA K n g h)
 | 0,f,g,h=>K.add_mul _ _ _
 | n+1,f,g,h=>by
  show K.add (K.mul (K.add _ _) (h (n+1))) (mA K n (NM K (tl f) (tl g)) h)=K.add (K.add _ _) (K.add _ _);rw[wC n,K.add_mul,K.add_assoc,K.add_assoc,K.add_left_comm (K.mul (g 0) (h (n+1)))]
theorem UR:∀(n:Nat) (c:R) (f g:Nat→R),mA K n (Wo K c f) g=K.mul c (mA K n f g)
 | 0,c,f,g=>K.mul_assoc _ _ _
 | n+1,c,f,g=>by
  show K.add (K.mul (K.mul c (f 0)) _) (mA K n (Wo K c (tl f)) g)=K.mul c (K.add _ _);rw[UR n,K.mul_add,K.mul_assoc]
theorem GC:∀(n:Nat) (g:Nat→R),mA K n (Qp K) g=K.zero
 | 0,g=>K.zero_mul _
 | n+1,g=>by
  show K.add (K.mul K.zero _) (mA K n (Qp K) g)=_;rw[GC n,K.zero_mul,K.add_zero]
theorem GE (c:R) (g:Nat→R):∀n,mA K n (Ka K c) g=K.mul c (g n)
 | 0=>rfl
 | n+1=>by
  show K.add (K.mul c _) (mA K n (Qp K) g)=_;rw[GC,K.add_zero]
theorem wA:∀(n:Nat) (f g h:Nat→R),mA K n (FJ K f g) h=mA K n f (FJ K g h)
 | 0,f,g,h=>K.mul_assoc _ _ _
 | n+1,f,g,h=>by
  have e:tl (FJ K f g)=NM K (Wo K (f 0) (tl g)) (FJ K (tl f) g):=rfl;show K.add (K.mul (K.mul (f 0) (g 0)) (h (n+1))) (mA K n (tl (FJ K f g)) h)=K.add (K.mul (f 0) (K.add (K.mul (g 0) (h (n+1))) (mA K n (tl g) h))) (mA K n (tl f) (FJ K g h));rw[e,wC,UR,wA n,K.mul_add,K.mul_assoc,K.add_assoc]
theorem pJ:∀(n:Nat) (f g:Nat→R),mA K n f g=mA K n g f
 | 0,f,g=>K.mul_comm _ _
 | 1,f,g=>by
  show K.add (K.mul (f 0) (g 1)) (K.mul (f 1) (g 0))=K.add (K.mul (g 0) (f 1)) (K.mul (g 1) (f 0));rw[K.add_comm,K.mul_comm (f 1),K.mul_comm (f 0)]
 | n+2,f,g=>by
  show K.add (K.mul (f 0) (g (n+2))) (mA K (n+1) (tl f) g)=K.add (K.mul (g 0) (f (n+2))) (mA K (n+1) (tl g) f);rw[pJ (n+1) (tl f) g,pJ (n+1) (tl g) f];show K.add (K.mul (f 0) (g (n+2))) (K.add (K.mul (g 0) (f (n+2))) (mA K n (tl g) (tl f)))=K.add (K.mul (g 0) (f (n+2))) (K.add (K.mul (f 0) (g (n+2))) (mA K n (tl f) (tl g)));rw[K.add_left_comm,pJ n (tl g) (tl f)]
theorem GD:∀(a b:Nat) (f g:Nat→R),(∀i,a≤i→f i=K.zero)→(∀i,b≤i→g i=K.zero)→∀n,a+b≤n+1→mA K n f g=K.zero
 | 0,b,f,g,hf,hg,n,h=>by
  have:f=Qp K:=funext fun i=>hf i (Nat.zero_le _)
  rw[this,GC]
 | a+1,b,f,g,hf,hg,0,h=>by
  show K.mul (f 0) (g 0)=_;rw[hg 0 (by omega),K.mul_zero]
 | a+1,b,f,g,hf,hg,n+1,h=>by
  show K.add (K.mul (f 0) (g (n+1))) (mA K n (tl f) g)=_;rw[hg (n+1) (by omega),K.mul_zero,K.zero_add];exact GD a b (tl f) g (fun i hi=>hf (i+1) (by omega)) hg n (by omega)
def Pol:Type:={f:Nat→R // ∃n,∀i,n≤i→f i=K.zero}
variable {K}
theorem Pol.ext {f g:Pol K} (h:∀n,f.1 n=g.1 n):f=g:=Subtype.ext (funext h)
def aY:CR (Pol K) where
 add f g:=⟨NM K f.1 g.1,by
  obtain⟨a,ha⟩:=f.2; obtain⟨b,hb⟩:=g.2;exact⟨a+b,fun i hi=>by show K.add (f.1 i) (g.1 i)=_; rw[ha i (by omega),hb i (by omega),K.add_zero]⟩⟩
 mul f g:=⟨FJ K f.1 g.1,by
  obtain⟨a,ha⟩:=f.2; obtain⟨b,hb⟩:=g.2;exact⟨a+b,fun i hi=>GD K a b f.1 g.1 ha hb i (by omega)⟩⟩
 neg f:=⟨Wr K f.1,by
  obtain⟨a,ha⟩:=f.2;exact⟨a,fun i hi=>by show K.neg (f.1 i)=_; rw[ha i hi,dN]⟩⟩
 zero:=⟨Qp K,0,fun _ _=>rfl⟩
 one:=⟨Ka K K.one,1,fun i hi=>by cases i with|zero=>omega|succ i=>rfl⟩
 add_assoc a b c:=Pol.ext fun n=>K.add_assoc _ _ _
 add_comm a b:=Pol.ext fun n=>K.add_comm _ _
 zero_add a:=Pol.ext fun n=>K.zero_add _
 neg_add a:=Pol.ext fun n=>K.neg_add _
 mul_assoc a b c:=Pol.ext fun n=>wA K n _ _ _
 mul_comm a b:=Pol.ext fun n=>pJ K n _ _
 one_mul a:=Pol.ext fun n=>by show mA K n (Ka K K.one) a.1=_; rw[GE,K.one_mul]
 mul_add a b c:=Pol.ext fun n=>wB K n _ _ _
def gX (c:R):Pol K:=⟨Ka K c,1,fun i hi=>by cases i with|zero=>omega|succ i=>rfl⟩
def pX:Pol K:=⟨fun n=>match n with|1=>K.one|_=>K.zero,2,fun i hi=>by match i,hi with|i+2,_=>rfl⟩
theorem IQ (a b:R):(gX (K.add a b):Pol K)=aY.add (gX a) (gX b):=Pol.ext fun n=>by
 cases n with
 | zero=>rfl
 | succ n=>exact (K.zero_add _).symm
theorem YQ (a:R):(gX (K.neg a):Pol K)=aY.neg (gX a):=Pol.ext fun n=>by
 cases n with
 | zero=>rfl
 | succ n=>exact (dN K).symm
theorem sA (a b:R):(gX (K.mul a b):Pol K)=aY.mul (gX a) (gX b):=Pol.ext fun n=>by
 show _=mA K n (Ka K a) (Ka K b);rw[GE];cases n with
 | zero=>rfl
 | succ n=>exact (K.mul_zero _).symm
def dg (f:Pol K) (n:Nat):Prop:=f.1 n≠K.zero∧∀i,n<i→f.1 i=K.zero
theorem UN {f:Pol K} {n:Nat} (h:dg f n):f≠aY.zero:=fun e=>h.1 (by rw[e]; rfl)
theorem Ks {f:Pol K} {n m:Nat} (h:dg f n) (g:dg f m):n=m:=by
 rcases Nat.lt_trichotomy n m with q|q|q
 ·exact absurd (h.2 m q) g.1
 ·exact q
 ·exact absurd (g.2 n q) h.1
theorem JZ (f:Pol K) (h:f≠aY.zero):∃n,dg f n:=by
 obtain⟨b,hb⟩:=f.2;have:∀b,(∀i,b≤i→f.1 i=K.zero)→∃n,dg f n:=by
  intro b
  induction b with
  | zero=>exact fun hb=>absurd (Pol.ext fun n=>hb n (Nat.zero_le _)) h
  | succ b ih =>
   intro hb
   by_cases h0:f.1 b=K.zero
   ·exact ih fun i hi=>by
     rcases Nat.lt_or_ge b i with q|q
     ·exact hb i q
     ·rw[show i=b by omega,h0]
   ·exact⟨b,h0,hb⟩
 exact this b hb
variable {inv:R→R}
theorem KC:∀(a b:Nat) (f g:Nat→R),(∀i,a<i→f i=K.zero)→(∀i,b<i→g i=K.zero)→mA K (a+b) f g=K.mul (f a) (g b)
 | 0,b,f,g,hf,hg=>by
  have:f=Ka K (f 0):=funext fun i=>by cases i with|zero=>rfl|succ i=>exact hf _ (by omega)
  rw[this,GE,Nat.zero_add]; rfl
 | a+1,b,f,g,hf,hg=>by
  rw[show a+1+b=(a+b)+1 by omega];show K.add (K.mul (f 0) (g (a+b+1))) (mA K (a+b) (tl f) g)=_;rw[hg (a+b+1) (by omega),K.mul_zero,K.zero_add];exact KC a b (tl f) g (fun i hi=>hf (i+1) (by omega)) hg
theorem jA (F:FD K inv) {f g:Pol K} {n m:Nat} (hf:dg f n) (hg:dg g m):dg (aY.mul f g) (n+m):=by
 refine⟨?_,fun i hi=>GD K (n+1) (m+1) f.1 g.1 (fun j hj=>hf.2 j hj) (fun j hj=>hg.2 j hj) i (by omega)⟩
 ·show mA K (n+m) f.1 g.1≠_;rw[KC n m f.1 g.1 hf.2 hg.2];exact F.mul_ne hf.1 hg.1
theorem tX {f g:Pol K} {n:Nat} (hf:dg f n) (hg:∀i,n≤i→g.1 i=K.zero):dg (aY.add f g) n:=by
 refine⟨?_,fun i hi => ?_⟩
 ·show K.add (f.1 n) (g.1 n)≠_;rw[hg n (Nat.le_refl _),K.add_zero]; exact hf.1
 ·show K.add (f.1 i) (g.1 i)=_;rw[hf.2 i hi,hg i (by omega),K.add_zero]
theorem Im {a:R} (h:a≠K.zero):K.neg a≠K.zero:=fun e=>h (by rw[←K.neg_neg a,e,dN])
theorem UM {f:Pol K} {n:Nat} (hf:dg f n):dg (aY.neg f) n :=
 ⟨Im hf.1,fun i hi=>by show K.neg (f.1 i)=_; rw[hf.2 i hi,dN]⟩
theorem tW (F:FD K inv) (c:R):dg (aY.sub (pX:Pol K) (gX c)) 1:=by
 refine⟨?_,fun i hi => ?_⟩
 ·show K.add K.one (K.neg K.zero)≠_;rw[dN,K.add_zero]; exact F.ne
 ·match i,hi with
  | i+2,_=>show K.add K.zero (K.neg K.zero)=_; rw[dN,K.add_zero]
def qP (c:R):Pol K:=aY.add (aY.mul pX (aY.mul pX pX)) (gX c)
theorem Kt (F:FD K inv):dg (pX:Pol K) 1:=⟨F.ne,fun i hi=>by match i,hi with|i+2,_=>rfl⟩
theorem Sl (F:FD K inv) (c:R):dg (qP c:Pol K) 3 :=
 tX (jA F (Kt F) (jA F (Kt F) (Kt F))) fun i hi=>by match i,hi with|i+1,_=>rfl
theorem vL (F:FD K inv) {c k:R} {h:Pol K} (e:aY.mul (aY.sub (pX:Pol K) (gX c)) h=gX k):k=K.zero:=by
 by_cases h0:h=aY.zero
 ·rw[h0,aY.mul_zero]at e;exact (congrArg (fun p:Pol K=>p.1 0) e).symm
 ·obtain⟨n,hn⟩:=JZ h h0;have:=jA F (tW F c) hn;rw[e]at this;exact absurd (by rw[Nat.add_comm]; rfl) this.1
end
section
variable {A:Type} {K:CR A}
theorem Ec {M N L1 R1 c1 L2 R2 c2 L3 R3 c3 L4 R4 c4:A} (h1:L1=R1) (h2:L2=R2) (h3:L3=R3) (h4:L4=R4) (e:K.add M (K.neg N)=K.add (K.add (K.add (K.mul c1 (K.add L1 (K.neg R1))) (K.mul c2 (K.add L2 (K.neg R2)))) (K.mul c3 (K.add L3 (K.neg R3)))) (K.mul c4 (K.add L4 (K.neg R4)))):M=N:=by
 apply iC (K:=K);rw[e,eV h1,eV h2,eV h3,eV h4,K.mul_zero,K.mul_zero,K.mul_zero,K.mul_zero,K.add_zero,K.add_zero,K.add_zero]
def op (K:CR A) (X Y x y:A) (S:A→Prop):A→Prop:=fun z=>∃s t,S s∧S t∧z=K.add (K.mul (K.sub X x) s) (K.mul (K.sub Y y) t)
structure Idl (K:CR A) (S:A→Prop):Prop where
 add:∀a b,S a→S b→S (K.add a b)
 mul:∀a c,S a→S (K.mul c a)
theorem Idl.neg {S:A→Prop} (h:Idl K S) {a:A} (ha:S a):S (K.neg a):=by
 have:=h.mul a (K.neg K.one) ha
 rwa [K.neg_mul,K.one_mul]at this
theorem Idl.sub {S:A→Prop} (h:Idl K S) {a b:A} (ha:S a) (hb:S b):S (K.sub a b):=h.add _ _ ha (h.neg hb)
def Eqv (K:CR A) (S T:A→Prop):Prop:=∃a b,a≠K.zero∧b≠K.zero∧(∀s,S s→∃t,T t∧K.mul a s=K.mul b t)∧(∀t,T t→∃s,S s∧K.mul a s=K.mul b t)
def Tx (K:CR A):Prop:=K.one≠K.zero∧∀a b,a≠K.zero→b≠K.zero→K.mul a b≠K.zero
theorem Eqv.refl (D:Tx K) (S:A→Prop):Eqv K S S:=⟨K.one,K.one,D.1,D.1,fun s h=>⟨s,h,rfl⟩,fun s h=>⟨s,h,rfl⟩⟩
theorem Eqv.symm {S T:A→Prop} (h:Eqv K S T):Eqv K T S:=by
 obtain⟨a,b,ha,hb,h1,h2⟩:=h;exact⟨b,a,hb,ha,fun t ht=>by obtain⟨s,hs,e⟩:=h2 t ht; exact⟨s,hs,e.symm⟩,fun s hs=>by obtain⟨t,ht,e⟩:=h1 s hs; exact⟨t,ht,e.symm⟩⟩
theorem Eqv.trans (D:Tx K) {S T U:A→Prop} (h:Eqv K S T) (g:Eqv K T U):Eqv K S U:=by
 obtain⟨a,b,ha,hb,h1,h2⟩:=h;obtain⟨c,d,hc,hd,g1,g2⟩:=g;have key:∀s t u,K.mul a s=K.mul b t→K.mul c t=K.mul d u→K.mul (K.mul c a) s=K.mul (K.mul b d) u:=fun s t u e f=>by
  rw[K.mul_assoc,e,K.mul_left_comm,f,K.mul_assoc]
 refine⟨K.mul c a,K.mul b d,D.2 _ _ hc ha,D.2 _ _ hb hd,fun s hs => ?_,fun u hu => ?_⟩
 ·obtain⟨t,ht,e⟩:=h1 s hs;obtain⟨u,hu,f⟩:=g1 t ht;exact⟨u,hu,key s t u e f⟩
 ·obtain⟨t,ht,f⟩:=g2 u hu;obtain⟨s,hs,e⟩:=h2 t ht;exact⟨s,hs,key s t u e f⟩
variable {X Y:A}
theorem AN {x y al be s s2 t t2:A} (e:K.mul al s=K.mul be t) (f:K.mul al s2=K.mul be t2):K.mul al (K.add (K.mul (K.sub X x) s) (K.mul (K.sub Y y) s2))=K.mul be (K.add (K.mul (K.sub X x) t) (K.mul (K.sub Y y) t2)) :=
 kR (K:=K) (c1:=(K.sub X x)) (c2:=(K.sub Y y)) e f (aP K (bT K [al,X,x,s,Y,y,s2,be,t,t2]) (Z0*((Z1-Z2)*Z3+(Z4-Z5)*Z6)-Z7*((Z1-Z2)*Z8+(Z4-Z5)*Z9)) ((Z1-Z2)*(Z0*Z3-Z7*Z8)+(Z4-Z5)*(Z0*Z6-Z7*Z9)) (by kernel_rfl))
theorem Eqv.op {S T:A→Prop} (x y:A) (h:Eqv K S T):Eqv K (op K X Y x y S) (op K X Y x y T):=by
 obtain⟨a,b,ha,hb,h1,h2⟩:=h;refine⟨a,b,ha,hb,?_,?_⟩
 ·rintro z ⟨s,s2,hs,hs2,rfl⟩
  obtain⟨t,ht,e⟩:=h1 s hs;obtain⟨t2,ht2,f⟩:=h1 s2 hs2;exact⟨_,⟨t,t2,ht,ht2,rfl⟩,AN e f⟩
 ·rintro z ⟨t,t2,ht,ht2,rfl⟩
  obtain⟨s,hs,e⟩:=h2 t ht;obtain⟨s2,hs2,f⟩:=h2 t2 ht2;exact⟨_,⟨s,s2,hs,hs2,rfl⟩,AN e f⟩
theorem AM {S:A→Prop} (x y x' y':A) {z:A} (h:op K X Y x y (op K X Y x' y' S) z):op K X Y x' y' (op K X Y x y S) z:=by
 obtain⟨_,_,⟨a,bb,ha,hb,rfl⟩,⟨c,d,hc,hd,rfl⟩,rfl⟩:=h;exact⟨_,_,⟨a,c,ha,hc,rfl⟩,⟨bb,d,hb,hd,rfl⟩,aP K (bT K [X,x,x',a,Y,y',bb,y,c,d]) ((Z0-Z1)*((Z0-Z2)*Z3+(Z4-Z5)*Z6)+(Z4-Z7)*((Z0-Z2)*Z8+(Z4-Z5)*Z9)) ((Z0-Z2)*((Z0-Z1)*Z3+(Z4-Z7)*Z8)+(Z4-Z5)*((Z0-Z1)*Z6+(Z4-Z7)*Z9)) (by kernel_rfl)⟩
theorem YS {S:A→Prop} (x y x' y':A):op K X Y x y (op K X Y x' y' S)=op K X Y x' y' (op K X Y x y S) :=
 funext fun z=>propext ⟨AM x y x' y',AM x' y' x y⟩
theorem RX {S:A→Prop} (h:Idl K S) (x y:A):Idl K (op K X Y x y S) where
 add:=by
  rintro _ _ ⟨a,b,ha,hb,rfl⟩ ⟨c,d,hc,hd,rfl⟩
  exact⟨_,_,h.add a c ha hc,h.add b d hb hd,aP K (bT K [X,x,a,Y,y,b,c,d]) ((Z0-Z1)*Z2+(Z3-Z4)*Z5+((Z0-Z1)*Z6+(Z3-Z4)*Z7)) ((Z0-Z1)*(Z2+Z6)+(Z3-Z4)*(Z5+Z7)) (by kernel_rfl)⟩
 mul:=by
  rintro _ c ⟨a,b,ha,hb,rfl⟩
  exact⟨_,_,h.mul a c ha,h.mul b c hb,aP K (bT K [c,X,x,a,Y,y,b]) (Z0*((Z1-Z2)*Z3+(Z4-Z5)*Z6)) ((Z1-Z2)*(Z0*Z3)+(Z4-Z5)*(Z0*Z6)) (by kernel_rfl)⟩
theorem Hw {b x y k:A} (hY:K.mul Y Y=K.add (K.mul X (K.mul X X)) b) (hy:K.mul y y=K.add (K.mul x (K.mul x x)) b) (hk:K.mul k (K.add y y)=K.one) (D:Tx K) (hX:K.sub X x≠K.zero) {S:A→Prop} (h:Idl K S):Eqv K (op K X Y x y (op K X Y x (K.neg y) S)) S:=by
 refine⟨K.one,K.sub X x,D.1,hX,?_,?_⟩
 ·rintro _ ⟨_,_,⟨a,bb,ha,hb,rfl⟩,⟨c,d,hc,hd,rfl⟩,rfl⟩
  refine⟨(K.add (K.add (K.add (K.mul (K.sub X x) a) (K.mul (K.sub Y (K.neg y)) bb)) (K.mul (K.sub Y y) c)) (K.mul (K.add (K.add (K.mul X X) (K.mul x X)) (K.mul x x)) d)),h.add _ _ (h.add _ _ (h.add _ _ (h.mul _ _ ha) (h.mul _ _ hb)) (h.mul _ _ hc)) (h.mul _ _ hd),?_⟩;rw[K.one_mul];exact kR (K:=K) (c1:=d) (c2:=(K.neg d)) hY hy (aP K (bT K [X,x,a,Y,y,bb,c,d,b]) ((Z0-Z1)*((Z0-Z1)*Z2+(Z3-(-Z4))*Z5)+(Z3-Z4)*((Z0-Z1)*Z6+(Z3-(-Z4))*Z7)-(Z0-Z1)*((Z0-Z1)*Z2+(Z3-(-Z4))*Z5+(Z3-Z4)*Z6+(Z0*Z0+Z1*Z0+Z1*Z1)*Z7)) (Z7*(Z3*Z3-(Z0*(Z0*Z0)+Z8))+(-Z7)*(Z4*Z4-(Z1*(Z1*Z1)+Z8))) (by kernel_rfl))
 ·intro t ht;refine⟨_,⟨_,_,⟨_,_,h.mul t K.zero ht,h.mul t k ht,rfl⟩,⟨_,_,h.mul t (K.neg k) ht,h.mul t K.zero ht,rfl⟩,rfl⟩,?_⟩;rw[K.one_mul];exact iA (K:=K) (c1:=(K.mul (K.sub X x) t)) hk (aP K (bT K [X,x,t,Y,y,k]) ((Z0-Z1)*((Z0-Z1)*(RE.zero*Z2)+(Z3-(-Z4))*(Z5*Z2))+(Z3-Z4)*((Z0-Z1)*((-Z5)*Z2)+(Z3-(-Z4))*(RE.zero*Z2))-(Z0-Z1)*Z2) ((Z0-Z1)*Z2*(Z5*(Z4+Z4)-RE.one)) (by kernel_rfl))
theorem MK {b x1 y1 x2 l:A} (hY:K.mul Y Y=K.add (K.mul X (K.mul X X)) b) (H2:(K.mul l (K.add y1 (K.add y1 (K.mul l (K.sub x2 x1)))))=(K.add (K.add (K.mul x1 x1) (K.mul x1 x2)) (K.mul x2 x2))) (H3:(K.mul y1 y1)=(K.add (K.mul x1 (K.mul x1 x1)) b)):(K.mul (K.sub X x1) (K.mul (K.sub X x2) (K.sub X (K.sub (K.sub (K.mul l l) x1) x2))))=(K.mul (K.sub (K.sub Y y1) (K.mul l (K.sub X x1))) (K.add (K.sub Y (K.sub (K.mul l (K.sub x1 (K.sub (K.sub (K.mul l l) x1) x2))) y1)) (K.mul l (K.sub X (K.sub (K.sub (K.mul l l) x1) x2))))) :=
 rE (K:=K) (c1:=(K.neg K.one)) (c2:=K.one) (c3:=(K.sub X x1)) hY H3 H2 (aP K (bT K [X,x1,x2,l,Y,y1,b]) ((Z0-Z1)*((Z0-Z2)*(Z0-(Z3*Z3-Z1-Z2)))-(Z4-Z5-Z3*(Z0-Z1))*(Z4-(Z3*(Z1-(Z3*Z3-Z1-Z2))-Z5)+Z3*(Z0-(Z3*Z3-Z1-Z2)))) ((-RE.one)*(Z4*Z4-(Z0*(Z0*Z0)+Z6))+RE.one*(Z5*Z5-(Z1*(Z1*Z1)+Z6))+(Z0-Z1)*(Z3*(Z5+(Z5+Z3*(Z2-Z1)))-(Z1*Z1+Z1*Z2+Z2*Z2))) (by kernel_rfl))
theorem Hu {b x1 y1 x2 l:A} (hY:K.mul Y Y=K.add (K.mul X (K.mul X X)) b) (H2:(K.mul l (K.add y1 (K.add y1 (K.mul l (K.sub x2 x1)))))=(K.add (K.add (K.mul x1 x1) (K.mul x1 x2)) (K.mul x2 x2))) (H3:(K.mul y1 y1)=(K.add (K.mul x1 (K.mul x1 x1)) b)) (hk:(∃k,K.mul k (K.add y1 (K.add y1 (K.mul l (K.sub x2 x1))))=K.one)∨(∃k,K.mul k (K.sub x2 x1)=K.one)) (hX:K.sub X (K.sub (K.sub (K.mul l l) x1) x2)≠K.zero) (hl:(K.sub (K.sub Y y1) (K.mul l (K.sub X x1)))≠K.zero) {S:A→Prop} (h:Idl K S):Eqv K (op K X Y x1 y1 (op K X Y x2 (K.add y1 (K.mul l (K.sub x2 x1))) S)) (op K X Y (K.sub (K.sub (K.mul l l) x1) x2) (K.sub (K.mul l (K.sub x1 (K.sub (K.sub (K.mul l l) x1) x2))) y1) S):=by
 have HC:=MK (X:=X) (Y:=Y) hY H2 H3;refine⟨K.sub X (K.sub (K.sub (K.mul l l) x1) x2),(K.sub (K.sub Y y1) (K.mul l (K.sub X x1))),hX,hl,?_,?_⟩
 ·rintro _ ⟨_,_,⟨a,bb,ha,hb,rfl⟩,⟨c,d,hc,hd,rfl⟩,rfl⟩
  exact⟨_,⟨(K.add (K.add (K.add (K.mul l a) (K.mul (K.add (K.sub X x1) (K.mul l l)) bb)) (K.mul (K.add (K.sub X x2) (K.mul l l)) c)) (K.mul (K.add (K.add (K.add (K.sub (K.sub Y y1) (K.mul l (K.sub X x1))) (K.mul l (K.sub X x1))) (K.mul l (K.sub X x2))) (K.mul l (K.mul l l))) d)),(K.add (K.add (K.add a (K.mul l bb)) (K.mul l c)) (K.mul (K.mul l l) d)),h.add _ _ (h.add _ _ (h.add _ _ (h.mul _ _ ha) (h.mul _ _ hb)) (h.mul _ _ hc)) (h.mul _ _ hd),h.add _ _ (h.add _ _ (h.add _ _ ha (h.mul _ _ hb)) (h.mul _ _ hc)) (h.mul _ _ hd),rfl⟩,iA (K:=K) (c1:=(K.add (K.add (K.add a (K.mul l bb)) (K.mul l c)) (K.mul (K.mul l l) d))) HC (aP K (bT K [X,l,x1,x2,a,Y,y1,bb,c,d]) ((Z0-(Z1*Z1-Z2-Z3))*((Z0-Z2)*((Z0-Z3)*Z4+(Z5-(Z6+Z1*(Z3-Z2)))*Z7)+(Z5-Z6)*((Z0-Z3)*Z8+(Z5-(Z6+Z1*(Z3-Z2)))*Z9))-(Z5-Z6-Z1*(Z0-Z2))*((Z0-(Z1*Z1-Z2-Z3))*(Z1*Z4+(Z0-Z2+Z1*Z1)*Z7+(Z0-Z3+Z1*Z1)*Z8+(Z5-Z6-Z1*(Z0-Z2)+Z1*(Z0-Z2)+Z1*(Z0-Z3)+Z1*(Z1*Z1))*Z9)+(Z5-(Z1*(Z2-(Z1*Z1-Z2-Z3))-Z6))*(Z4+Z1*Z7+Z1*Z8+Z1*Z1*Z9))) ((Z4+Z1*Z7+Z1*Z8+Z1*Z1*Z9)*((Z0-Z2)*((Z0-Z3)*(Z0-(Z1*Z1-Z2-Z3)))-(Z5-Z6-Z1*(Z0-Z2))*(Z5-(Z1*(Z2-(Z1*Z1-Z2-Z3))-Z6)+Z1*(Z0-(Z1*Z1-Z2-Z3))))) (by kernel_rfl))⟩
 ·rintro _ ⟨u,w,hu,hw,rfl⟩
  have hg:S (K.sub u (K.mul l w)):=h.sub hu (h.mul _ _ hw);have e0:K.mul (K.sub (K.sub Y y1) (K.mul l (K.sub X x1))) (K.add (K.mul (K.sub X (K.sub (K.sub (K.mul l l) x1) x2)) u) (K.mul (K.sub Y (K.sub (K.mul l (K.sub x1 (K.sub (K.sub (K.mul l l) x1) x2))) y1)) w))=K.mul (K.sub X (K.sub (K.sub (K.mul l l) x1) x2)) (K.add (K.mul (K.sub (K.sub Y y1) (K.mul l (K.sub X x1))) (K.sub u (K.mul l w))) (K.mul (K.sub X x1) (K.mul (K.sub X x2) w))) :=
   iA (K:=K) (c1:=(K.neg w)) HC (aP K (bT K [Y,y1,l,X,x1,x2,u,w]) ((Z0-Z1-Z2*(Z3-Z4))*((Z3-(Z2*Z2-Z4-Z5))*Z6+(Z0-(Z2*(Z4-(Z2*Z2-Z4-Z5))-Z1))*Z7)-(Z3-(Z2*Z2-Z4-Z5))*((Z0-Z1-Z2*(Z3-Z4))*(Z6-Z2*Z7)+(Z3-Z4)*((Z3-Z5)*Z7))) ((-Z7)*((Z3-Z4)*((Z3-Z5)*(Z3-(Z2*Z2-Z4-Z5)))-(Z0-Z1-Z2*(Z3-Z4))*(Z0-(Z2*(Z4-(Z2*Z2-Z4-Z5))-Z1)+Z2*(Z3-(Z2*Z2-Z4-Z5))))) (by kernel_rfl))
  generalize hge:(K.sub u (K.mul l w))=g at hg e0;rw[e0]
  rcases hk with⟨k,hk⟩|⟨k,hk⟩
  ·refine⟨_,⟨_,_,⟨_,_,h.add _ _ (h.mul g (K.mul k (K.add (K.add X x1) x2)) hg) hw,h.mul g K.zero hg,rfl⟩,⟨_,_,h.mul g K.zero hg,h.mul g (K.neg k) hg,rfl⟩,rfl⟩,congrArg (K.mul _) ?_⟩;exact Ec (K:=K) (c1:=(K.mul (K.sub (K.sub Y y1) (K.mul l (K.sub X x1))) g)) (c2:=(K.neg (K.mul k g))) (c3:=(K.mul k g)) (c4:=(K.mul (K.mul k g) (K.sub X x1))) hk hY H3 H2 (aP K (bT K [X,x1,x2,k,g,w,Y,y1,l,b]) ((Z0-Z1)*((Z0-Z2)*(Z3*(Z0+Z1+Z2)*Z4+Z5)+(Z6-(Z7+Z8*(Z2-Z1)))*(RE.zero*Z4))+(Z6-Z7)*((Z0-Z2)*(RE.zero*Z4)+(Z6-(Z7+Z8*(Z2-Z1)))*((-Z3)*Z4))-((Z6-Z7-Z8*(Z0-Z1))*Z4+(Z0-Z1)*((Z0-Z2)*Z5))) ((Z6-Z7-Z8*(Z0-Z1))*Z4*(Z3*(Z7+(Z7+Z8*(Z2-Z1)))-RE.one)+(-(Z3*Z4))*(Z6*Z6-(Z0*(Z0*Z0)+Z9))+Z3*Z4*(Z7*Z7-(Z1*(Z1*Z1)+Z9))+Z3*Z4*(Z0-Z1)*(Z8*(Z7+(Z7+Z8*(Z2-Z1)))-(Z1*Z1+Z1*Z2+Z2*Z2))) (by kernel_rfl))
  ·refine⟨_,⟨_,_,⟨_,_,hw,h.mul g k hg,rfl⟩,⟨_,_,h.mul g (K.neg k) hg,h.mul g K.zero hg,rfl⟩,rfl⟩,congrArg (K.mul _) ?_⟩;exact iA (K:=K) (c1:=(K.mul (K.sub (K.sub Y y1) (K.mul l (K.sub X x1))) g)) hk (aP K (bT K [X,x1,x2,w,Y,y1,l,k,g]) ((Z0-Z1)*((Z0-Z2)*Z3+(Z4-(Z5+Z6*(Z2-Z1)))*(Z7*Z8))+(Z4-Z5)*((Z0-Z2)*((-Z7)*Z8)+(Z4-(Z5+Z6*(Z2-Z1)))*(RE.zero*Z8))-((Z4-Z5-Z6*(Z0-Z1))*Z8+(Z0-Z1)*((Z0-Z2)*Z3))) ((Z4-Z5-Z6*(Z0-Z1))*Z8*(Z7*(Z2-Z1)-RE.one)) (by kernel_rfl))
end
open Classical
section
variable {R:Type} {K:CR R} {inv:R→R}
def eI (K:CR R) (b:R):CR (Pol K×Pol K):=(aY (K:=K)).sq (qP b)
def cX:Pol K×Pol K:=(pX,aY.zero)
def cY:Pol K×Pol K:=(aY.zero,aY.one)
def cc (k:R):Pol K×Pol K:=(gX k,aY.zero)
variable (b:R)
theorem mC (x y:R):(cc (K.add x y):Pol K×Pol K)=(eI K b).add (cc x) (cc y):=Prod.ext (IQ x y) (aY.zero_add _).symm
theorem UZ (x:R):(cc (K.neg x):Pol K×Pol K)=(eI K b).neg (cc x):=Prod.ext (YQ x) (dN aY).symm
theorem tY (x y:R):(cc (K.sub x y):Pol K×Pol K)=(eI K b).sub (cc x) (cc y):=by
 show cc (K.add _ _)=(eI K b).add _ _;rw[mC b,UZ b]
theorem kL (x y:R):(cc (K.mul x y):Pol K×Pol K)=(eI K b).mul (cc x) (cc y):=by
 refine Prod.ext ?_ ?_
 ·show gX (K.mul x y)=aY.add (aY.mul (gX x) (gX y)) (aY.mul (qP b) (aY.mul aY.zero aY.zero));rw[aY.mul_zero,aY.mul_zero,aY.add_zero,sA]
 ·show aY.zero=aY.add (aY.mul (gX x) aY.zero) (aY.mul aY.zero (gX y));rw[aY.mul_zero,aY.zero_mul,aY.add_zero]
theorem UY:(cc K.one:Pol K×Pol K)=(eI K b).one:=rfl
theorem Ta:(eI K b).mul cY cY=(eI K b).add ((eI K b).mul cX ((eI K b).mul cX cX)) (cc b):=by
 refine Prod.ext ?_ ?_
 ·show aY.add (aY.mul aY.zero aY.zero) (aY.mul (qP b) (aY.mul aY.one aY.one))=aY.add (aY.add (aY.mul pX (aY.add (aY.mul pX pX) (aY.mul (qP b) (aY.mul aY.zero aY.zero)))) (aY.mul (qP b) (aY.mul aY.zero (aY.add (aY.mul pX aY.zero) (aY.mul aY.zero pX))))) (gX b);simp only[aY.mul_zero,aY.zero_mul,aY.add_zero,aY.zero_add,aY.mul_one];rfl
 ·show aY.add (aY.mul aY.zero aY.one) (aY.mul aY.one aY.zero)=aY.add (aY.add (aY.mul pX (aY.add (aY.mul pX aY.zero) (aY.mul aY.zero pX))) (aY.mul aY.zero (aY.add (aY.mul pX pX) (aY.mul (qP b) (aY.mul aY.zero aY.zero))))) aY.zero;simp only[aY.mul_zero,aY.zero_mul,aY.add_zero,aY.zero_add,aY.mul_one]
def nrm (f:Pol K×Pol K):Pol K:=aY.sub (aY.mul f.1 f.1) (aY.mul (qP b) (aY.mul f.2 f.2))
theorem JA (f g:Pol K×Pol K):nrm b ((eI K b).mul f g)=aY.mul (nrm b f) (nrm b g) :=
 aP aY (bT aY [f.1,g.1,qP b,f.2,g.2]) ((Z0*Z1+Z2*(Z3*Z4))*(Z0*Z1+Z2*(Z3*Z4))-Z2*((Z0*Z4+Z3*Z1)*(Z0*Z4+Z3*Z1))) ((Z0*Z0-Z2*(Z3*Z3))*(Z1*Z1-Z2*(Z4*Z4))) (by kernel_rfl)
theorem xM (F:FD K inv) (f:Pol K×Pol K) (h:f≠(eI K b).zero):∃d,dg (nrm b f) d∧d≠1:=by
 have hq:dg (qP b:Pol K) 3:=Sl F b
 by_cases h2:f.2=aY.zero
 ·have h1:f.1≠aY.zero:=fun e=>h (Prod.ext e h2)
  obtain⟨n,hn⟩:=JZ _ h1;refine⟨n+n,?_,by omega⟩;unfold nrm;rw[h2,aY.mul_zero,aY.mul_zero];show dg (aY.add _ (aY.neg aY.zero)) _;rw[dN,aY.add_zero];exact jA F hn hn
 ·obtain⟨m,hm⟩:=JZ _ h2;have hr:=jA F hq (jA F hm hm)
  by_cases h1:f.1=aY.zero
  ·refine⟨3+(m+m),?_,by omega⟩;unfold nrm;rw[h1,aY.mul_zero];show dg (aY.add _ _) _;rw[aY.zero_add];exact UM hr
  ·obtain⟨n,hn⟩:=JZ _ h1;have hl:=jA F hn hn;have hr':=UM hr
   rcases Nat.lt_or_ge (n+n) (3+(m+m))with q|q
   ·refine⟨3+(m+m),?_,by omega⟩;show dg (aY.add _ _) _;rw[aY.add_comm];exact tX hr' fun i hi=>hl.2 i (by omega)
   ·refine⟨n+n,?_,by omega⟩;exact tX hl fun i hi=>hr'.2 i (by omega)
theorem kJ (F:FD K inv):Tx (eI K b):=by
 refine⟨fun e=>F.ne (congrArg (fun z:Pol K×Pol K=>z.1.1 0) e),fun f g hf hg e => ?_⟩;obtain⟨n,hn,_⟩:=xM b F f hf;obtain⟨m,hm,_⟩:=xM b F g hg;have h:=UN (jA F hn hm);rw[←JA,e]at h;refine h ?_;show aY.sub (aY.mul aY.zero aY.zero) (aY.mul (qP b) (aY.mul aY.zero aY.zero))=_;rw[aY.mul_zero,aY.mul_zero];exact aY.add_neg _
theorem GA {A:Type} {C:CR A} (D:Tx C) {a s t:A} (ha:a≠C.zero) (e:C.mul a s=C.mul a t):s=t:=by
 apply iC (K:=C)
 by_cases h:C.add s (C.neg t)=C.zero
 ·exact h
 ·exact absurd (by rw[C.mul_add,C.mul_neg,e,C.add_neg]) (D.2 _ _ ha h)
def yU {A:Type}:A→Prop:=fun _=>True
theorem jF {A:Type} (C:CR A):Idl C yU:=⟨fun _ _ _ _=>trivial,fun _ _ _=>trivial⟩
theorem BS (f:Pol K×Pol K):(eI K b).mul f (f.1,aY.neg f.2)=(nrm b f,aY.zero):=by
 refine Prod.ext ?_ ?_
 ·exact aP aY (bT aY [f.1,qP b,f.2]) (Z0*Z0+Z1*(Z2*(-Z2))) (Z0*Z0-Z1*(Z2*Z2)) (by kernel_rfl)
 ·exact aP aY (bT aY [f.1,f.2]) (Z0*(-Z1)+Z1*Z0) .zero (by kernel_rfl)
theorem RA {x y:R} (h:K.mul y y=K.add (K.mul x (K.mul x x)) b):(qP b:Pol K)=aY.add (aY.mul (gX y) (gX y)) (aY.mul (aY.sub pX (gX x)) (aY.add (aY.mul pX pX) (aY.add (aY.mul (gX x) pX) (aY.mul (gX x) (gX x))))):=by
 have e:aY.mul (gX y) (gX y)=aY.add (aY.mul (gX x) (aY.mul (gX x) (gX x))) (gX b:Pol K):=by
  rw[←sA,←sA,←sA,←IQ,h]
 rw[e];exact aP aY (bT aY [pX,gX b,gX x]) (Z0*(Z0*Z0)+Z1) (Z2*(Z2*Z2)+Z1+(Z0-Z2)*(Z0*Z0+(Z2*Z0+Z2*Z2))) (by kernel_rfl)
theorem Pe (F:FD K inv) {x y:R} (h:K.mul y y=K.add (K.mul x (K.mul x x)) b):¬Eqv (eI K b) (op (eI K b) cX cY (cc x) (cc y) yU) yU:=by
 rintro⟨a,e,ha,he,h1,h2⟩
 have D:=kJ (K:=K) b F;obtain⟨f,hf,e1⟩:=h2 (eI K b).one trivial;rw[(eI K b).mul_one]at e1;have hm:∀g,op (eI K b) cX cY (cc x) (cc y) yU g→∃t,g=(eI K b).mul f t:=fun g hg=>by
  obtain⟨t,_,e2⟩:=h1 g hg;rw[←e1,(eI K b).mul_assoc]at e2;exact⟨t,GA D ha e2⟩
 have sz:∀z:Pol K×Pol K,(eI K b).sub z (eI K b).zero=z:=fun z=>by
  show (eI K b).add z ((eI K b).neg _)=z;rw[dN,(eI K b).add_zero]
 obtain⟨t,ht⟩:=hm ((eI K b).sub cX (cc x)) ⟨(eI K b).one,(eI K b).zero,trivial,trivial,by rw[(eI K b).mul_one,(eI K b).mul_zero,(eI K b).add_zero]⟩;obtain⟨t',ht'⟩:=hm ((eI K b).sub cY (cc y)) ⟨(eI K b).zero,(eI K b).one,trivial,trivial,by rw[(eI K b).mul_one,(eI K b).mul_zero,(eI K b).zero_add]⟩;have hX:(eI K b).sub cX (cc x)=(aY.sub pX (gX x),aY.zero):=Prod.ext rfl (by show aY.add aY.zero (aY.neg aY.zero)=_; rw[dN,aY.add_zero]);have hXn:(eI K b).sub cX (cc x)≠(eI K b).zero:=fun q=>UN (tW (K:=K) F x) (congrArg Prod.fst q)
 have hf0:f≠(eI K b).zero:=fun q=>hXn (by rw[ht,q,(eI K b).zero_mul])
 have ht0:t≠(eI K b).zero:=fun q=>hXn (by rw[ht,q,(eI K b).mul_zero])
 obtain⟨n,hn,n1⟩:=xM b F f hf0;obtain⟨m,hm',m1⟩:=xM b F t ht0;have hnm:n+m=2:=by
  have e3:=jA F hn hm';rw[←JA,←ht,hX]at e3;have e4:nrm b (aY.sub pX (gX x),aY.zero)=aY.mul (aY.sub pX (gX x)) (aY.sub (pX:Pol K) (gX x)):=by
   show aY.add (aY.mul _ _) (aY.neg (aY.mul _ (aY.mul aY.zero aY.zero)))=_;rw[aY.mul_zero,aY.mul_zero,dN,aY.add_zero]
  rw[e4]at e3;exact Ks e3 (jA F (tW F x) (tW F x))
 have hc:∀p:Pol K,dg p 0→p=gX (p.1 0):=fun p hp=>Pol.ext fun i=>by
  cases i with
  | zero=>rfl
  | succ i=>exact hp.2 _ (by omega)
 have h02:n=0∨m=0:=by omega
 rcases h02 with q0|q0
 ·subst q0;obtain⟨s,r,_,_,e5⟩:=(RX (jF (eI K b)) (cc x) (cc y)).mul f (f.1,aY.neg f.2) hf;rw[(eI K b).mul_comm,BS,hX]at e5;have c1:nrm b f=aY.add (aY.add (aY.mul (aY.sub pX (gX x)) s.1) (aY.mul (qP b) (aY.mul aY.zero s.2))) (aY.add (aY.mul (aY.add aY.zero (aY.neg (gX y))) r.1) (aY.mul (qP b) (aY.mul (aY.add aY.one (aY.neg aY.zero)) r.2))):=congrArg Prod.fst e5;have c2:aY.zero=aY.add (aY.add (aY.mul (aY.sub pX (gX x)) s.2) (aY.mul aY.zero s.1)) (aY.add (aY.mul (aY.add aY.zero (aY.neg (gX y))) r.2) (aY.mul (aY.add aY.one (aY.neg aY.zero)) r.1)):=congrArg Prod.snd e5;have hs:=RA b h;refine hn.1 (vL F (c:=x) (h:=(aY.add s.1 (aY.add (aY.mul (aY.add (aY.mul pX pX) (aY.add (aY.mul (gX x) pX) (aY.mul (gX x) (gX x)))) r.2) (aY.mul (gX y) s.2)))) ?_);rw[←hc _ hn,c1];refine Eq.symm ?_;exact kR (K:=aY) (c1:=(gX y)) (c2:=r.2) c2 hs (aP aY (bT aY [pX,gX x,s.1,qP b,s.2,gX y,r.1,r.2]) ((Z0-Z1)*Z2+Z3*(RE.zero*Z4)+((RE.zero-Z5)*Z6+Z3*((RE.one-RE.zero)*Z7))-(Z0-Z1)*(Z2+((Z0*Z0+(Z1*Z0+Z1*Z1))*Z7+Z5*Z4))) (Z5*(RE.zero-((Z0-Z1)*Z4+RE.zero*Z2+((RE.zero-Z5)*Z7+(RE.one-RE.zero)*Z6)))+Z7*(Z3-(Z5*Z5+(Z0-Z1)*(Z0*Z0+(Z1*Z0+Z1*Z1))))) (by kernel_rfl))
 ·subst q0;have e6:(eI K b).mul ((eI K b).sub cX (cc x)) ((eI K b).mul t' (t.1,aY.neg t.2))=(eI K b).mul ((eI K b).sub cY (cc y)) (nrm b t,aY.zero):=by
   rw[←BS,ht,ht'];generalize ((t.1,aY.neg t.2):Pol K×Pol K)=w;exact aP (eI K b) (bT (eI K b) [f,t,t',w]) (Z0*Z1*(Z2*Z3)) (Z0*Z2*(Z1*Z3)) (by kernel_rfl)
  rw[hX]at e6;generalize (eI K b).mul t' (t.1,aY.neg t.2)=w at e6;have c2:aY.add (aY.mul (aY.sub pX (gX x)) w.2) (aY.mul aY.zero w.1)=aY.add (aY.mul (aY.add aY.zero (aY.neg (gX y))) aY.zero) (aY.mul (aY.add aY.one (aY.neg aY.zero)) (nrm b t)):=congrArg Prod.snd e6;rw[aY.zero_mul,aY.add_zero,aY.mul_zero,aY.zero_add,dN,aY.add_zero,aY.one_mul,hc _ hm']at c2;exact hm'.1 (vL F c2)
end
structure EC {R:Type} (K:CR R) (inv:R→R) (b:R):Prop where
 F:FD K inv
 two:K.add K.one K.one≠K.zero
 odd:∀x,K.add (K.mul x (K.mul x x)) b≠K.zero
section
variable {R:Type} (K:CR R) (inv:R→R) (b:R)
abbrev Pt (R:Type):=Option (R×R)
def On:Pt R→Prop
 | none=>True
 | some p=>K.mul p.2 p.2=K.add (K.mul p.1 (K.mul p.1 p.1)) b
def Dc:Pt R→Pt R
 | none=>none
 | some p=>some (p.1,K.neg p.2)
def oJ (x1 y1 x2 y2:R):R :=
 if x1=x2 then K.mul (K.add (K.add (K.mul x1 x1) (K.mul x1 x1)) (K.mul x1 x1)) (inv (K.add y1 y2))else K.mul (K.sub y2 y1) (inv (K.sub x2 x1))
def sx (l x1 x2:R):R:=K.sub (K.sub (K.mul l l) x1) x2
def sy (l x1 y1 x2:R):R:=K.sub (K.mul l (K.sub x1 (sx K l x1 x2))) y1
def CN:Pt R→Pt R→Pt R
 | none,q=>q
 | some p,none=>some p
 | some p,some q =>
  if p.1=q.1∧K.add p.2 q.2=K.zero then none
  else some (sx K (oJ K inv p.1 p.2 q.1 q.2) p.1 q.1,sy K (oJ K inv p.1 p.2 q.1 q.2) p.1 p.2 q.1)
variable {K} {inv} {b}
theorem IK {p q:R×R} (h:p.1=q.1∧K.add p.2 q.2=K.zero):CN K inv (some p) (some q)=none:=if_pos h
theorem rZ {p q:R×R} (h:¬(p.1=q.1∧K.add p.2 q.2=K.zero)):CN K inv (some p) (some q)=some (sx K (oJ K inv p.1 p.2 q.1 q.2) p.1 q.1,sy K (oJ K inv p.1 p.2 q.1 q.2) p.1 p.2 q.1):=if_neg h
theorem lC {x y:R} (h:K.sub x y=K.zero):x=y:=iC h
theorem Fp {x y:R} (h:x≠y):K.sub x y≠K.zero:=fun e=>h (lC e)
theorem EC.dbl_ne (E:EC K inv b) {y:R} (h:y≠K.zero):K.add y y≠K.zero:=fun e=>by
 refine E.F.mul_ne E.two h ?_;rw[K.add_mul,K.one_mul,e]
theorem EC.y_ne (E:EC K inv b) {x y:R} (h:K.mul y y=K.add (K.mul x (K.mul x x)) b):y≠K.zero:=fun e=>by
 rw[e,K.mul_zero]at h;exact E.odd x h.symm
structure Slope (K:CR R) (x1 y1 x2 y2 l:R):Prop where
 h1:y2=K.add y1 (K.mul l (K.sub x2 x1))
 h2:K.mul l (K.add y1 y2)=K.add (K.add (K.mul x1 x1) (K.mul x1 x2)) (K.mul x2 x2)
 hk:(∃k,K.mul k (K.add y1 y2)=K.one)∨(∃k,K.mul k (K.sub x2 x1)=K.one)
theorem zC (E:EC K inv b) {x1 y1 x2 y2:R} (hp:K.mul y1 y1=K.add (K.mul x1 (K.mul x1 x1)) b) (hq:K.mul y2 y2=K.add (K.mul x2 (K.mul x2 x2)) b) (hn:¬(x1=x2∧K.add y1 y2=K.zero)):Slope K x1 y1 x2 y2 (oJ K inv x1 y1 x2 y2):=by
 unfold oJ
 by_cases hx:x1=x2
 ·subst hx;rw[if_pos rfl];have hy:K.add y1 y2≠K.zero:=fun e=>hn ⟨rfl,e⟩
  have hi:=E.F.inv _ hy;have e:y1=y2:=by
   refine lC (K:=K) (E.F.zd (a:=K.add y1 y2) ?_ hy);have e0:K.mul (K.add y1 y2) (K.sub y1 y2)=K.sub (K.mul y1 y1) (K.mul y2 y2):=aP K (bT K [y1,y2]) ((Z0+Z1)*(Z0-Z1)) (Z0*Z0-Z1*Z1) (by kernel_rfl);rw[e0,hp,hq];exact K.add_neg _
  subst e;generalize inv (K.add y1 y1)=k at hi;refine⟨aP K (bT K [y1,x1,k]) (.v 0) (Z0+(Z1*Z1+Z1*Z1+Z1*Z1)*Z2*(Z1-Z1)) (by kernel_rfl),iA (K:=K) (c1:=(K.add (K.add (K.mul x1 x1) (K.mul x1 x1)) (K.mul x1 x1))) hi (aP K (bT K [x1,k,y1]) ((Z0*Z0+Z0*Z0+Z0*Z0)*Z1*(Z2+Z2)-(Z0*Z0+Z0*Z0+Z0*Z0)) ((Z0*Z0+Z0*Z0+Z0*Z0)*((Z2+Z2)*Z1-RE.one)) (by kernel_rfl)),Or.inl ⟨k,by rw[K.mul_comm,hi]⟩⟩
 ·rw[if_neg hx];have hd:K.sub x2 x1≠K.zero:=Fp fun e=>hx e.symm
  have hi:=E.F.inv _ hd;generalize inv (K.sub x2 x1)=k at hi;refine⟨iA (K:=K) (c1:=(K.neg (K.sub y2 y1))) hi (aP K (bT K [y2,y1,k,x2,x1]) (Z0-(Z1+(Z0-Z1)*Z2*(Z3-Z4))) ((-(Z0-Z1))*((Z3-Z4)*Z2-RE.one)) (by kernel_rfl)),?_,Or.inr ⟨k,by rw[K.mul_comm,hi]⟩⟩;refine E.F.cancel hd ?_;exact rE (K:=K) (c1:=(K.mul (K.sub y2 y1) (K.add y1 y2))) (c2:=(K.neg K.one)) (c3:=K.one) hi hp hq (aP K (bT K [x2,x1,y2,y1,k,b]) ((Z0-Z1)*((Z2-Z3)*Z4*(Z3+Z2))-(Z0-Z1)*(Z1*Z1+Z1*Z0+Z0*Z0)) ((Z2-Z3)*(Z3+Z2)*((Z0-Z1)*Z4-RE.one)+(-RE.one)*(Z3*Z3-(Z1*(Z1*Z1)+Z5))+RE.one*(Z2*Z2-(Z0*(Z0*Z0)+Z5))) (by kernel_rfl))
theorem On.sum {x1 y1 x2 y2 l:R} (hp:K.mul y1 y1=K.add (K.mul x1 (K.mul x1 x1)) b) (h:Slope K x1 y1 x2 y2 l):On K b (some (sx K l x1 x2,sy K l x1 y1 x2)):=by
 obtain⟨h1,h2,_⟩:=h;subst h1;show K.mul (K.sub (K.mul l (K.sub x1 (K.sub (K.sub (K.mul l l) x1) x2))) y1) (K.sub (K.mul l (K.sub x1 (K.sub (K.sub (K.mul l l) x1) x2))) y1)=K.add (K.mul (K.sub (K.sub (K.mul l l) x1) x2) (K.mul (K.sub (K.sub (K.mul l l) x1) x2) (K.sub (K.sub (K.mul l l) x1) x2))) b;exact kR (K:=K) (c1:=K.one) (c2:=(K.sub (K.sub (K.sub (K.mul l l) x1) x2) x1)) hp h2 (aP K (bT K [l,x1,x2,y1,b]) ((Z0*(Z1-(Z0*Z0-Z1-Z2))-Z3)*(Z0*(Z1-(Z0*Z0-Z1-Z2))-Z3)-((Z0*Z0-Z1-Z2)*((Z0*Z0-Z1-Z2)*(Z0*Z0-Z1-Z2))+Z4)) (RE.one*(Z3*Z3-(Z1*(Z1*Z1)+Z4))+(Z0*Z0-Z1-Z2-Z1)*(Z0*(Z3+(Z3+Z0*(Z2-Z1)))-(Z1*Z1+Z1*Z2+Z2*Z2))) (by kernel_rfl))
theorem On.neg:∀{p:Pt R},On K b p→On K b (Dc K p)
 | none,_=>trivial
 | some p,h=>by
  show K.mul (K.neg p.2) (K.neg p.2)=_;rw[K.neg_mul,K.mul_neg,K.neg_neg];exact h
theorem On.add (E:EC K inv b):∀{p q:Pt R},On K b p→On K b q→On K b (CN K inv p q)
 | none,_,_,h=>h
 | some _,none,h,_=>h
 | some p,some q,hp,hq=>by
  by_cases hn:p.1=q.1∧K.add p.2 q.2=K.zero
  ·rw[IK hn]; trivial
  ·rw[rZ hn];exact On.sum hp (zC E hp hq hn)
def LZ (K:CR R) (b:R) (p:Pt R) (S:Pol K×Pol K→Prop):Pol K×Pol K→Prop :=
 match p with
 | none=>S
 | some p=>op (eI K b) cX cY (cc p.1) (cc p.2) S
theorem RY (p q:Pt R) (S:Pol K×Pol K→Prop):LZ K b p (LZ K b q S)=LZ K b q (LZ K b p S):=by
 cases p with
 | none=>rfl
 | some p=>cases q with
  | none=>rfl
  | some q=>exact YS _ _ _ _
theorem YT {S:Pol K×Pol K→Prop} (h:Idl (eI K b) S) (p:Pt R):Idl (eI K b) (LZ K b p S):=by
 cases p with
 | none=>exact h
 | some p=>exact RX h _ _
theorem IS {S T:Pol K×Pol K→Prop} (h:Eqv (eI K b) S T) (p:Pt R):Eqv (eI K b) (LZ K b p S) (LZ K b p T):=by
 cases p with
 | none=>exact h
 | some p=>exact h.op _ _
theorem Tp (F:FD K inv) (c:R):(eI K b).sub cX (cc c)≠(eI K b).zero:=fun q=>UN (tW (K:=K) F c) (congrArg Prod.fst q)
theorem Ki (F:FD K inv) (x1 y1 l:R):(eI K b).sub ((eI K b).sub cY (cc y1)) ((eI K b).mul (cc l) ((eI K b).sub cX (cc x1)))≠(eI K b).zero:=fun q=>by
 have e:K.add (K.add K.one (K.neg K.zero)) (K.neg (K.add (K.mul l (K.add K.zero (K.neg K.zero))) (K.mul K.zero (K.add K.zero (K.neg x1)))))=K.zero:=congrArg (fun z:Pol K×Pol K=>z.2.1 0) q;rw[dN,K.add_zero,K.add_zero,K.mul_zero,K.zero_mul,K.add_zero,dN,K.add_zero]at e;exact F.ne e
theorem iU (E:EC K inv b) {S:Pol K×Pol K→Prop} (hS:Idl (eI K b) S):∀{p q:Pt R},On K b p→On K b q→Eqv (eI K b) (LZ K b p (LZ K b q S)) (LZ K b (CN K inv p q) S)
 | none,_,_,_=>Eqv.refl (kJ b E.F) _
 | some _,none,_,_=>Eqv.refl (kJ b E.F) _
 | some ⟨x1,y1⟩,some ⟨x2,y2⟩,hp,hq=>by
  by_cases hn:x1=x2∧K.add y1 y2=K.zero
  ·rw[IK hn];obtain⟨rfl,hy⟩:=hn;have e:y2=K.neg y1:=by
    apply K.add_cancel (a:=y1);rw[hy,K.add_neg]
   subst e;show Eqv (eI K b) (op (eI K b) cX cY (cc x1) (cc y1) (op (eI K b) cX cY (cc x1) (cc (K.neg y1)) S)) S;have h0:=E.F.inv _ (E.dbl_ne (E.y_ne hp));rw[UZ b];refine Hw (b:=cc b) (k:=cc (inv (K.add y1 y1))) (Ta b) ?_ ?_ (kJ b E.F) (Tp E.F x1) hS
   ·rw[←kL,←kL,←kL,←mC];exact congrArg cc hp
   ·rw[←mC,←kL,K.mul_comm,h0];rfl
  ·rw[rZ hn];have h:=zC E hp hq hn;dsimp only at h ⊢;generalize oJ K inv x1 y1 x2 y2=l at h;obtain⟨h1,h2,hk⟩:=h;subst h1;show Eqv (eI K b) (op (eI K b) cX cY (cc x1) (cc y1) (op (eI K b) cX cY (cc x2) (cc (K.add y1 (K.mul l (K.sub x2 x1)))) S)) (op (eI K b) cX cY (cc (sx K l x1 x2)) (cc (sy K l x1 y1 x2)) S);unfold sy sx;have hX:=Tp (K:=K) (b:=b) E.F (sx K l x1 x2);have hl:=Ki (K:=K) (b:=b) E.F x1 y1 l;unfold sx at hX;simp only[mC b,kL b,tY b]at hX ⊢;refine Hu (b:=cc b) (Ta b) ?_ ?_ ?_ hX hl hS
   ·have:=congrArg (cc (K:=K)) h2;simpa only[mC b,kL b,tY b]using this
   ·have:=congrArg (cc (K:=K)) hp;simpa only[mC b,kL b,tY b]using this
   ·rcases hk with⟨k,hk⟩|⟨k,hk⟩
    ·refine Or.inl ⟨cc k,?_⟩;have:=congrArg (cc (K:=K)) hk;simpa only[mC b,kL b,tY b,UY b]using this
    ·refine Or.inr ⟨cc k,?_⟩;have:=congrArg (cc (K:=K)) hk;simpa only[mC b,kL b,tY b,UY b]using this
theorem IL (p:Pt R):CN K inv (Dc K p) p=none:=by
 cases p with
 | none=>rfl
 | some p=>exact if_pos ⟨rfl,K.neg_add _⟩
theorem RB {p q:Pt R} (h:CN K inv (Dc K p) q=none):q=p:=by
 cases p with
 | none=>exact h
 | some p=>cases q with
  | none=>cases h
  | some q =>
   by_cases hh:p.1=q.1∧K.add (K.neg p.2) q.2=K.zero
   ·obtain⟨h1,h2⟩:=hh;refine congrArg some (Prod.ext h1.symm ?_);apply K.add_cancel (a:=K.neg p.2);exact h2.trans (K.neg_add p.2).symm
   ·have e:CN K inv (Dc K (some p)) (some q)=some _:=rZ (p:=(p.1,K.neg p.2)) (q:=q) hh;rw[e]at h;cases h
theorem Hx (E:EC K inv b) {p:Pt R} (hp:On K b p) (h:Eqv (eI K b) (LZ K b p yU) yU):p=none:=by
 cases p with
 | none=>rfl
 | some p=>exact absurd h (Pe b E.F hp)
theorem IR (E:EC K inv b) {p q:Pt R} (hp:On K b p) (hq:On K b q) (h:Eqv (eI K b) (LZ K b p yU) (LZ K b q yU)):p=q:=by
 have D:=kJ (K:=K) b E.F;have h1:=IS h (Dc K q);have a1:=iU E (jF (eI K b)) hq.neg hp;have a2:=iU E (jF (eI K b)) hq.neg hq;rw[IL]at a2;exact RB (Hx E (hq.neg.add E hp) (a1.symm.trans D (h1.trans D a2)))
theorem RC (E:EC K inv b) {p q:Pt R} (hp:On K b p) (hq:On K b q):CN K inv p q=CN K inv q p:=by
 have D:=kJ (K:=K) b E.F;refine IR E (hp.add E hq) (hq.add E hp) ?_;refine (iU E (jF (eI K b)) hp hq).symm.trans D ?_;rw[RY];exact iU E (jF (eI K b)) hq hp
theorem LQ (E:EC K inv b) {p q r:Pt R} (hp:On K b p) (hq:On K b q) (hr:On K b r):CN K inv (CN K inv p q) r=CN K inv p (CN K inv q r):=by
 have D:=kJ (K:=K) b E.F;have hu:=jF (eI K b);refine IR E ((hp.add E hq).add E hr) (hp.add E (hq.add E hr)) ?_;refine (iU E hu (hp.add E hq) hr).symm.trans D ?_;refine (iU E (YT hu r) hp hq).symm.trans D ?_;refine (IS (iU E hu hq hr) p).trans D ?_;exact iU E hu hp (hq.add E hr)
end
structure AG (G:Type) where
 add:G→G→G
 neg:G→G
 zero:G
 assoc:∀a b c,add (add a b) c=add a (add b c)
 comm:∀a b,add a b=add b a
 zadd:∀a,add zero a=a
 nadd:∀a,add (neg a) a=zero
def EC.grp {R:Type} {K:CR R} {inv:R→R} {b:R} (E:EC K inv b):AG {p:Pt R // On K b p} where
 add p q:=⟨CN K inv p.1 q.1,p.2.add E q.2⟩
 neg p:=⟨Dc K p.1,p.2.neg⟩
 zero:=⟨none,trivial⟩
 assoc p q r:=Subtype.ext (LQ E p.2 q.2 r.2)
 comm p q:=Subtype.ext (RC E p.2 q.2)
 zadd p:=rfl
 nadd p:=Subtype.ext (IL p.1)
def Yt:RE:=(Z0*Z0*Z1*Z1*Z2*Z2*Z2*Z2*Z3*Z3*Z3*Z3*Z7*Z7*Z7+Z0*Z0*Z2*Z2*Z2*Z2*Z3*Z3*Z3*Z3*Z6*Z7*Z7-Z0*Z0*Z2*Z2*Z2*Z2*Z3*Z3*Z6*Z6*Z7-Z0*Z0*Z2*Z2*Z3*Z3*Z3*Z3*Z6*Z7+Z1*Z1*Z2*Z2*Z2*Z2*Z3*Z3*Z3*Z3*Z7*Z7-Z1*Z1*Z2*Z2*Z2*Z2*Z3*Z3*Z6*Z7-Z1*Z1*Z2*Z2*Z3*Z3*Z3*Z3*Z7+(RE.one+RE.one)*Z2*Z2*Z2*Z2*Z3*Z3*Z3*Z3*Z6*Z7-Z2*Z2*Z2*Z2*Z3*Z3*Z3*Z3*Z7*Z7-(RE.one+RE.one)*Z2*Z2*Z2*Z2*Z3*Z3*Z6*Z6+Z2*Z2*Z2*Z2*Z6*Z6-(RE.one+RE.one)*Z2*Z2*Z3*Z3*Z3*Z3*Z6+(RE.one+RE.one+RE.one+RE.one)*Z2*Z2*Z3*Z3*Z6-(RE.one+RE.one)*Z2*Z2*Z3*Z3*Z7+Z3*Z3*Z3*Z3)
def Ys:RE:=(Z0*Z0*Z0*Z0*Z2*Z2*Z3*Z3*Z6*Z6*Z7+(RE.one+RE.one)*Z0*Z0*Z2*Z2*Z3*Z3*Z6*Z6-(RE.one+RE.one)*Z0*Z0*Z2*Z2*Z3*Z3*Z6*Z7-Z0*Z0*Z2*Z2*Z6*Z6-Z0*Z0*Z3*Z3*Z6+Z1*Z1*Z1*Z1*Z2*Z2*Z3*Z3*Z7+(RE.one+RE.one)*Z1*Z1*Z2*Z2*Z3*Z3*Z6-(RE.one+RE.one)*Z1*Z1*Z2*Z2*Z3*Z3*Z7-Z1*Z1*Z2*Z2*Z6-Z1*Z1*Z3*Z3-(RE.one+RE.one)*Z2*Z2*Z3*Z3*Z6+Z2*Z2*Z3*Z3*Z7+Z2*Z2*Z6+Z3*Z3+RE.one)
def Yq:RE:=(Z0*Z2*Z2*Z2*Z2*Z3*Z3*Z3*Z4*Z4*Z5*Z6*Z7*Z7-Z0*Z2*Z2*Z2*Z2*Z3*Z4*Z4*Z5*Z6*Z6*Z7-Z0*Z2*Z2*Z2*Z3*Z3*Z3*Z3*Z4*Z5*Z5*Z7*Z7-Z0*Z2*Z2*Z2*Z3*Z3*Z4*Z4*Z4*Z6*Z6*Z7+Z0*Z2*Z2*Z2*Z3*Z3*Z4*Z6*Z7+Z0*Z2*Z2*Z3*Z3*Z3*Z5*Z5*Z5*Z7-Z0*Z2*Z2*Z3*Z3*Z3*Z5*Z7+Z0*Z2*Z3*Z3*Z3*Z3*Z4*Z5*Z5*Z7+Z1*Z2*Z2*Z2*Z2*Z3*Z3*Z3*Z4*Z5*Z5*Z7*Z7-Z1*Z2*Z2*Z2*Z2*Z3*Z4*Z5*Z5*Z6*Z7+Z1*Z2*Z2*Z2*Z3*Z3*Z3*Z3*Z4*Z4*Z5*Z7*Z7+Z1*Z2*Z2*Z2*Z3*Z3*Z5*Z5*Z5*Z7-Z1*Z2*Z2*Z2*Z3*Z3*Z5*Z7+Z1*Z2*Z2*Z3*Z3*Z3*Z4*Z4*Z4*Z6*Z7-Z1*Z2*Z2*Z3*Z3*Z3*Z4*Z7-Z1*Z2*Z3*Z3*Z3*Z3*Z4*Z4*Z5*Z7)
def Yp:RE:=(Z0*Z0*Z0*Z2*Z2*Z3*Z4*Z4*Z5*Z6*Z6*Z7-Z0*Z0*Z0*Z2*Z3*Z3*Z4*Z5*Z5*Z6*Z7+Z0*Z0*Z0*Z2*Z4*Z4*Z4*Z5*Z5*Z6*Z6*Z7-Z0*Z0*Z0*Z2*Z4*Z4*Z4*Z6*Z6*Z6-Z0*Z0*Z0*Z2*Z4*Z5*Z5*Z6*Z6+Z0*Z0*Z0*Z2*Z4*Z6*Z6-Z0*Z0*Z0*Z3*Z4*Z4*Z5*Z5*Z5*Z6*Z7+Z0*Z0*Z0*Z3*Z4*Z4*Z5*Z6*Z6+Z0*Z0*Z0*Z3*Z5*Z5*Z5*Z6-Z0*Z0*Z0*Z3*Z5*Z6-Z0*Z0*Z1*Z2*Z2*Z3*Z4*Z4*Z4*Z5*Z5*Z6*Z7*Z7+Z0*Z0*Z1*Z2*Z2*Z3*Z4*Z5*Z5*Z6*Z7-Z0*Z0*Z1*Z2*Z3*Z3*Z4*Z4*Z5*Z5*Z5*Z7*Z7+Z0*Z0*Z1*Z2*Z3*Z3*Z4*Z4*Z5*Z6*Z7-Z0*Z0*Z1*Z2*Z4*Z4*Z5*Z5*Z5*Z6*Z7+Z0*Z0*Z1*Z2*Z4*Z4*Z5*Z6*Z6+Z0*Z0*Z1*Z2*Z5*Z5*Z5*Z6-Z0*Z0*Z1*Z2*Z5*Z6-Z0*Z0*Z1*Z3*Z4*Z4*Z4*Z5*Z5*Z6*Z7+Z0*Z0*Z1*Z3*Z4*Z4*Z4*Z6*Z6+Z0*Z0*Z1*Z3*Z4*Z5*Z5*Z6-Z0*Z0*Z1*Z3*Z4*Z6-Z0*Z1*Z1*Z2*Z2*Z3*Z4*Z4*Z5*Z5*Z5*Z7*Z7+Z0*Z1*Z1*Z2*Z2*Z3*Z4*Z4*Z5*Z6*Z7+Z0*Z1*Z1*Z2*Z3*Z3*Z4*Z4*Z4*Z5*Z5*Z7*Z7-Z0*Z1*Z1*Z2*Z3*Z3*Z4*Z5*Z5*Z7+Z0*Z1*Z1*Z2*Z4*Z4*Z4*Z5*Z5*Z6*Z7-Z0*Z1*Z1*Z2*Z4*Z4*Z4*Z6*Z6-Z0*Z1*Z1*Z2*Z4*Z5*Z5*Z6+Z0*Z1*Z1*Z2*Z4*Z6-Z0*Z1*Z1*Z3*Z4*Z4*Z5*Z5*Z5*Z7+Z0*Z1*Z1*Z3*Z4*Z4*Z5*Z6+Z0*Z1*Z1*Z3*Z5*Z5*Z5-Z0*Z1*Z1*Z3*Z5-Z0*Z2*Z2*Z3*Z4*Z4*Z5*Z6*Z7+Z0*Z2*Z3*Z3*Z4*Z5*Z5*Z7-Z0*Z2*Z4*Z4*Z4*Z5*Z5*Z6*Z7+Z0*Z2*Z4*Z4*Z4*Z6*Z6+Z0*Z2*Z4*Z5*Z5*Z6-Z0*Z2*Z4*Z6+Z0*Z3*Z4*Z4*Z5*Z5*Z5*Z7-Z0*Z3*Z4*Z4*Z5*Z6-Z0*Z3*Z5*Z5*Z5+Z0*Z3*Z5+Z1*Z1*Z1*Z2*Z2*Z3*Z4*Z5*Z5*Z7+Z1*Z1*Z1*Z2*Z3*Z3*Z4*Z4*Z5*Z7-Z1*Z1*Z1*Z2*Z4*Z4*Z5*Z5*Z5*Z7+Z1*Z1*Z1*Z2*Z4*Z4*Z5*Z6+Z1*Z1*Z1*Z2*Z5*Z5*Z5-Z1*Z1*Z1*Z2*Z5-Z1*Z1*Z1*Z3*Z4*Z4*Z4*Z5*Z5*Z7+Z1*Z1*Z1*Z3*Z4*Z4*Z4*Z6+Z1*Z1*Z1*Z3*Z4*Z5*Z5-Z1*Z1*Z1*Z3*Z4-Z1*Z2*Z2*Z3*Z4*Z5*Z5*Z7-Z1*Z2*Z3*Z3*Z4*Z4*Z5*Z7+Z1*Z2*Z4*Z4*Z5*Z5*Z5*Z7-Z1*Z2*Z4*Z4*Z5*Z6-Z1*Z2*Z5*Z5*Z5+Z1*Z2*Z5+Z1*Z3*Z4*Z4*Z4*Z5*Z5*Z7-Z1*Z3*Z4*Z4*Z4*Z6-Z1*Z3*Z4*Z5*Z5+Z1*Z3*Z4)
def Yo:RE:=(Z0*Z0*Z0*Z2*Z2*Z2*Z4*Z6*Z6*Z6-Z0*Z0*Z0*Z2*Z2*Z3*Z5*Z6*Z6+Z0*Z0*Z0*Z2*Z3*Z3*Z4*Z6*Z6-Z0*Z0*Z0*Z2*Z4*Z6*Z6-Z0*Z0*Z0*Z3*Z3*Z3*Z5*Z6+Z0*Z0*Z0*Z3*Z5*Z6-Z0*Z0*Z1*Z2*Z2*Z2*Z5*Z6*Z6-Z0*Z0*Z1*Z2*Z2*Z3*Z4*Z6*Z6+Z0*Z0*Z1*Z2*Z2*Z3*Z4*Z6*Z7-Z0*Z0*Z1*Z2*Z3*Z3*Z5*Z6+Z0*Z0*Z1*Z2*Z3*Z3*Z5*Z7+Z0*Z0*Z1*Z2*Z5*Z6-Z0*Z0*Z1*Z3*Z3*Z3*Z4*Z6+Z0*Z0*Z1*Z3*Z4*Z6+Z0*Z1*Z1*Z2*Z2*Z2*Z4*Z6*Z6-Z0*Z1*Z1*Z2*Z2*Z3*Z5*Z6+Z0*Z1*Z1*Z2*Z2*Z3*Z5*Z7+Z0*Z1*Z1*Z2*Z3*Z3*Z4*Z6-Z0*Z1*Z1*Z2*Z3*Z3*Z4*Z7-Z0*Z1*Z1*Z2*Z4*Z6-Z0*Z1*Z1*Z3*Z3*Z3*Z5+Z0*Z1*Z1*Z3*Z5-Z0*Z2*Z2*Z2*Z4*Z6*Z6+Z0*Z2*Z2*Z3*Z5*Z6-Z0*Z2*Z3*Z3*Z4*Z6+Z0*Z2*Z4*Z6+Z0*Z3*Z3*Z3*Z5-Z0*Z3*Z5-Z1*Z1*Z1*Z2*Z2*Z2*Z5*Z6-Z1*Z1*Z1*Z2*Z2*Z3*Z4*Z6-Z1*Z1*Z1*Z2*Z3*Z3*Z5+Z1*Z1*Z1*Z2*Z5-Z1*Z1*Z1*Z3*Z3*Z3*Z4+Z1*Z1*Z1*Z3*Z4+Z1*Z2*Z2*Z2*Z5*Z6+Z1*Z2*Z2*Z3*Z4*Z6+Z1*Z2*Z3*Z3*Z5-Z1*Z2*Z5+Z1*Z3*Z3*Z3*Z4-Z1*Z3*Z4)
def Yn:RE:=(-(Z0*Z2*Z2*Z2*Z2*Z3*Z3*Z3*Z4*Z5*Z5*Z6*Z7*Z7)+Z0*Z2*Z2*Z2*Z2*Z3*Z4*Z5*Z5*Z6*Z6*Z7-Z0*Z2*Z2*Z2*Z3*Z3*Z3*Z3*Z4*Z4*Z5*Z6*Z7*Z7-Z0*Z2*Z2*Z2*Z3*Z3*Z5*Z5*Z5*Z6*Z7+Z0*Z2*Z2*Z2*Z3*Z3*Z5*Z6*Z7-Z0*Z2*Z2*Z3*Z3*Z3*Z4*Z4*Z4*Z6*Z6*Z7+Z0*Z2*Z2*Z3*Z3*Z3*Z4*Z6*Z7+Z0*Z2*Z3*Z3*Z3*Z3*Z4*Z4*Z5*Z6*Z7+Z1*Z2*Z2*Z2*Z2*Z3*Z3*Z3*Z4*Z4*Z5*Z6*Z7*Z7-Z1*Z2*Z2*Z2*Z2*Z3*Z4*Z4*Z5*Z6*Z6*Z7-Z1*Z2*Z2*Z2*Z3*Z3*Z3*Z3*Z4*Z5*Z5*Z7*Z7-Z1*Z2*Z2*Z2*Z3*Z3*Z4*Z4*Z4*Z6*Z6*Z7+Z1*Z2*Z2*Z2*Z3*Z3*Z4*Z6*Z7+Z1*Z2*Z2*Z3*Z3*Z3*Z5*Z5*Z5*Z7-Z1*Z2*Z2*Z3*Z3*Z3*Z5*Z7+Z1*Z2*Z3*Z3*Z3*Z3*Z4*Z5*Z5*Z7)
def Ym:RE:=(-(Z0*Z0*Z0*Z2*Z2*Z3*Z4*Z5*Z5*Z6*Z6*Z7)-Z0*Z0*Z0*Z2*Z3*Z3*Z4*Z4*Z5*Z6*Z6*Z7+Z0*Z0*Z0*Z2*Z4*Z4*Z5*Z5*Z5*Z6*Z6*Z7-Z0*Z0*Z0*Z2*Z4*Z4*Z5*Z6*Z6*Z6-Z0*Z0*Z0*Z2*Z5*Z5*Z5*Z6*Z6+Z0*Z0*Z0*Z2*Z5*Z6*Z6+Z0*Z0*Z0*Z3*Z4*Z4*Z4*Z5*Z5*Z6*Z6*Z7-Z0*Z0*Z0*Z3*Z4*Z4*Z4*Z6*Z6*Z6-Z0*Z0*Z0*Z3*Z4*Z5*Z5*Z6*Z6+Z0*Z0*Z0*Z3*Z4*Z6*Z6-Z0*Z0*Z1*Z2*Z2*Z3*Z4*Z4*Z5*Z5*Z5*Z6*Z7*Z7+Z0*Z0*Z1*Z2*Z2*Z3*Z4*Z4*Z5*Z6*Z6*Z7+Z0*Z0*Z1*Z2*Z3*Z3*Z4*Z4*Z4*Z5*Z5*Z6*Z7*Z7-Z0*Z0*Z1*Z2*Z3*Z3*Z4*Z5*Z5*Z6*Z7+Z0*Z0*Z1*Z2*Z4*Z4*Z4*Z5*Z5*Z6*Z6*Z7-Z0*Z0*Z1*Z2*Z4*Z4*Z4*Z6*Z6*Z6-Z0*Z0*Z1*Z2*Z4*Z5*Z5*Z6*Z6+Z0*Z0*Z1*Z2*Z4*Z6*Z6-Z0*Z0*Z1*Z3*Z4*Z4*Z5*Z5*Z5*Z6*Z7+Z0*Z0*Z1*Z3*Z4*Z4*Z5*Z6*Z6+Z0*Z0*Z1*Z3*Z5*Z5*Z5*Z6-Z0*Z0*Z1*Z3*Z5*Z6+Z0*Z1*Z1*Z2*Z2*Z3*Z4*Z4*Z4*Z5*Z5*Z6*Z7*Z7-Z0*Z1*Z1*Z2*Z2*Z3*Z4*Z5*Z5*Z6*Z7+Z0*Z1*Z1*Z2*Z3*Z3*Z4*Z4*Z5*Z5*Z5*Z7*Z7-Z0*Z1*Z1*Z2*Z3*Z3*Z4*Z4*Z5*Z6*Z7+Z0*Z1*Z1*Z2*Z4*Z4*Z5*Z5*Z5*Z6*Z7-Z0*Z1*Z1*Z2*Z4*Z4*Z5*Z6*Z6-Z0*Z1*Z1*Z2*Z5*Z5*Z5*Z6+Z0*Z1*Z1*Z2*Z5*Z6+Z0*Z1*Z1*Z3*Z4*Z4*Z4*Z5*Z5*Z6*Z7-Z0*Z1*Z1*Z3*Z4*Z4*Z4*Z6*Z6-Z0*Z1*Z1*Z3*Z4*Z5*Z5*Z6+Z0*Z1*Z1*Z3*Z4*Z6+Z0*Z2*Z2*Z3*Z4*Z5*Z5*Z6*Z7+Z0*Z2*Z3*Z3*Z4*Z4*Z5*Z6*Z7-Z0*Z2*Z4*Z4*Z5*Z5*Z5*Z6*Z7+Z0*Z2*Z4*Z4*Z5*Z6*Z6+Z0*Z2*Z5*Z5*Z5*Z6-Z0*Z2*Z5*Z6-Z0*Z3*Z4*Z4*Z4*Z5*Z5*Z6*Z7+Z0*Z3*Z4*Z4*Z4*Z6*Z6+Z0*Z3*Z4*Z5*Z5*Z6-Z0*Z3*Z4*Z6+Z1*Z1*Z1*Z2*Z2*Z3*Z4*Z4*Z5*Z6*Z7-Z1*Z1*Z1*Z2*Z3*Z3*Z4*Z5*Z5*Z7+Z1*Z1*Z1*Z2*Z4*Z4*Z4*Z5*Z5*Z6*Z7-Z1*Z1*Z1*Z2*Z4*Z4*Z4*Z6*Z6-Z1*Z1*Z1*Z2*Z4*Z5*Z5*Z6+Z1*Z1*Z1*Z2*Z4*Z6-Z1*Z1*Z1*Z3*Z4*Z4*Z5*Z5*Z5*Z7+Z1*Z1*Z1*Z3*Z4*Z4*Z5*Z6+Z1*Z1*Z1*Z3*Z5*Z5*Z5-Z1*Z1*Z1*Z3*Z5-Z1*Z2*Z2*Z3*Z4*Z4*Z5*Z6*Z7+Z1*Z2*Z3*Z3*Z4*Z5*Z5*Z7-Z1*Z2*Z4*Z4*Z4*Z5*Z5*Z6*Z7+Z1*Z2*Z4*Z4*Z4*Z6*Z6+Z1*Z2*Z4*Z5*Z5*Z6-Z1*Z2*Z4*Z6+Z1*Z3*Z4*Z4*Z5*Z5*Z5*Z7-Z1*Z3*Z4*Z4*Z5*Z6-Z1*Z3*Z5*Z5*Z5+Z1*Z3*Z5)
def Yl:RE:=(Z0*Z0*Z0*Z2*Z2*Z2*Z5*Z6*Z6*Z6+Z0*Z0*Z0*Z2*Z2*Z3*Z4*Z6*Z6*Z6+Z0*Z0*Z0*Z2*Z3*Z3*Z5*Z6*Z6-Z0*Z0*Z0*Z2*Z5*Z6*Z6+Z0*Z0*Z0*Z3*Z3*Z3*Z4*Z6*Z6-Z0*Z0*Z0*Z3*Z4*Z6*Z6+Z0*Z0*Z1*Z2*Z2*Z2*Z4*Z6*Z6*Z6-Z0*Z0*Z1*Z2*Z2*Z3*Z5*Z6*Z6+Z0*Z0*Z1*Z2*Z2*Z3*Z5*Z6*Z7+Z0*Z0*Z1*Z2*Z3*Z3*Z4*Z6*Z6-Z0*Z0*Z1*Z2*Z3*Z3*Z4*Z6*Z7-Z0*Z0*Z1*Z2*Z4*Z6*Z6-Z0*Z0*Z1*Z3*Z3*Z3*Z5*Z6+Z0*Z0*Z1*Z3*Z5*Z6+Z0*Z1*Z1*Z2*Z2*Z2*Z5*Z6*Z6+Z0*Z1*Z1*Z2*Z2*Z3*Z4*Z6*Z6-Z0*Z1*Z1*Z2*Z2*Z3*Z4*Z6*Z7+Z0*Z1*Z1*Z2*Z3*Z3*Z5*Z6-Z0*Z1*Z1*Z2*Z3*Z3*Z5*Z7-Z0*Z1*Z1*Z2*Z5*Z6+Z0*Z1*Z1*Z3*Z3*Z3*Z4*Z6-Z0*Z1*Z1*Z3*Z4*Z6-Z0*Z2*Z2*Z2*Z5*Z6*Z6-Z0*Z2*Z2*Z3*Z4*Z6*Z6-Z0*Z2*Z3*Z3*Z5*Z6+Z0*Z2*Z5*Z6-Z0*Z3*Z3*Z3*Z4*Z6+Z0*Z3*Z4*Z6+Z1*Z1*Z1*Z2*Z2*Z2*Z4*Z6*Z6-Z1*Z1*Z1*Z2*Z2*Z3*Z5*Z6+Z1*Z1*Z1*Z2*Z3*Z3*Z4*Z6-Z1*Z1*Z1*Z2*Z4*Z6-Z1*Z1*Z1*Z3*Z3*Z3*Z5+Z1*Z1*Z1*Z3*Z5-Z1*Z2*Z2*Z2*Z4*Z6*Z6+Z1*Z2*Z2*Z3*Z5*Z6-Z1*Z2*Z3*Z3*Z4*Z6+Z1*Z2*Z4*Z6+Z1*Z3*Z3*Z3*Z5-Z1*Z3*Z5)
section
variable {R:Type} (K:CR R) (inv:R→R) (a d:R)
def eW (x y:R):Prop:=K.add (K.mul a (K.mul x x)) (K.mul y y)=K.add K.one (K.mul d (K.mul (K.mul x x) (K.mul y y)))
def UI (x1 y1 x2 y2:R):R:=K.mul d (K.mul (K.mul x1 x2) (K.mul y1 y2))
def FW (x1 y1 x2 y2:R):R:=K.add (K.mul x1 y2) (K.mul y1 x2)
def FX (x1 y1 x2 y2:R):R:=K.sub (K.mul y1 y2) (K.mul a (K.mul x1 x2))
def yG (x1 y1 x2 y2:R):R:=K.add K.one (UI K d x1 y1 x2 y2)
def vZ (x1 y1 x2 y2:R):R:=K.sub K.one (UI K d x1 y1 x2 y2)
variable {K} {a} {d}
theorem NO {x1 y1 x2 y2:R} (h1:eW K a d x1 y1) (h2:eW K a d x2 y2):K.add (K.mul a (K.mul (K.mul (FW K x1 y1 x2 y2) (vZ K d x1 y1 x2 y2)) (K.mul (FW K x1 y1 x2 y2) (vZ K d x1 y1 x2 y2)))) (K.mul (K.mul (FX K a x1 y1 x2 y2) (yG K d x1 y1 x2 y2)) (K.mul (FX K a x1 y1 x2 y2) (yG K d x1 y1 x2 y2)))=K.add (K.mul (K.mul (yG K d x1 y1 x2 y2) (vZ K d x1 y1 x2 y2)) (K.mul (yG K d x1 y1 x2 y2) (vZ K d x1 y1 x2 y2))) (K.mul d (K.mul (K.mul (FW K x1 y1 x2 y2) (FX K a x1 y1 x2 y2)) (K.mul (FW K x1 y1 x2 y2) (FX K a x1 y1 x2 y2)))) :=
 kR (K:=K) (c1:=RE.den K (bT K [x1,y1,x2,y2,K.zero,K.zero,a,d]) Yt) (c2:=RE.den K (bT K [x1,y1,x2,y2,K.zero,K.zero,a,d]) Ys) h1 h2 (aP K (bT K [x1,y1,x2,y2,K.zero,K.zero,a,d]) (Z6*((Z0*Z3+Z1*Z2)*(RE.one-Z7*(Z0*Z2*(Z1*Z3)))*((Z0*Z3+Z1*Z2)*(RE.one-Z7*(Z0*Z2*(Z1*Z3)))))+(Z1*Z3-Z6*(Z0*Z2))*(RE.one+Z7*(Z0*Z2*(Z1*Z3)))*((Z1*Z3-Z6*(Z0*Z2))*(RE.one+Z7*(Z0*Z2*(Z1*Z3))))-((RE.one+Z7*(Z0*Z2*(Z1*Z3)))*(RE.one-Z7*(Z0*Z2*(Z1*Z3)))*((RE.one+Z7*(Z0*Z2*(Z1*Z3)))*(RE.one-Z7*(Z0*Z2*(Z1*Z3))))+Z7*((Z0*Z3+Z1*Z2)*(Z1*Z3-Z6*(Z0*Z2))*((Z0*Z3+Z1*Z2)*(Z1*Z3-Z6*(Z0*Z2)))))) (.add (.mul Yt (Z6*(Z0*Z0)+Z1*Z1-(RE.one+Z7*(Z0*Z0*(Z1*Z1))))) (.mul Ys (Z6*(Z2*Z2)+Z3*Z3-(RE.one+Z7*(Z2*Z2*(Z3*Z3)))))) (by kernel_rfl))
theorem Ax {x1 y1 x2 y2 x3 y3:R} (h1:eW K a d x1 y1) (h2:eW K a d x2 y2) (h3:eW K a d x3 y3):K.mul (K.add (K.mul (K.mul (FW K x1 y1 x2 y2) (vZ K d x1 y1 x2 y2)) y3) (K.mul (K.mul (FX K a x1 y1 x2 y2) (yG K d x1 y1 x2 y2)) x3)) (K.add (K.mul (yG K d x2 y2 x3 y3) (vZ K d x2 y2 x3 y3)) (K.mul d (K.mul (K.mul (FW K x2 y2 x3 y3) (FX K a x2 y2 x3 y3)) (K.mul x1 y1))))=K.mul (K.add (K.mul (K.mul (FW K x2 y2 x3 y3) (vZ K d x2 y2 x3 y3)) y1) (K.mul (K.mul (FX K a x2 y2 x3 y3) (yG K d x2 y2 x3 y3)) x1)) (K.add (K.mul (yG K d x1 y1 x2 y2) (vZ K d x1 y1 x2 y2)) (K.mul d (K.mul (K.mul (FW K x1 y1 x2 y2) (FX K a x1 y1 x2 y2)) (K.mul x3 y3)))) :=
 rE (K:=K) (c1:=RE.den K (bT K [x1,y1,x2,y2,x3,y3,a,d]) Yq) (c2:=RE.den K (bT K [x1,y1,x2,y2,x3,y3,a,d]) Yp) (c3:=RE.den K (bT K [x1,y1,x2,y2,x3,y3,a,d]) Yo) h1 h2 h3 (aP K (bT K [x1,y1,x2,y2,x3,y3,a,d]) (((Z0*Z3+Z1*Z2)*(RE.one-Z7*(Z0*Z2*(Z1*Z3)))*Z5+(Z1*Z3-Z6*(Z0*Z2))*(RE.one+Z7*(Z0*Z2*(Z1*Z3)))*Z4)*((RE.one+Z7*(Z2*Z4*(Z3*Z5)))*(RE.one-Z7*(Z2*Z4*(Z3*Z5)))+Z7*((Z2*Z5+Z3*Z4)*(Z3*Z5-Z6*(Z2*Z4))*(Z0*Z1)))-((Z2*Z5+Z3*Z4)*(RE.one-Z7*(Z2*Z4*(Z3*Z5)))*Z1+(Z3*Z5-Z6*(Z2*Z4))*(RE.one+Z7*(Z2*Z4*(Z3*Z5)))*Z0)*((RE.one+Z7*(Z0*Z2*(Z1*Z3)))*(RE.one-Z7*(Z0*Z2*(Z1*Z3)))+Z7*((Z0*Z3+Z1*Z2)*(Z1*Z3-Z6*(Z0*Z2))*(Z4*Z5)))) (.add (.add (.mul Yq (Z6*(Z0*Z0)+Z1*Z1-(RE.one+Z7*(Z0*Z0*(Z1*Z1))))) (.mul Yp (Z6*(Z2*Z2)+Z3*Z3-(RE.one+Z7*(Z2*Z2*(Z3*Z3)))))) (.mul Yo (Z6*(Z4*Z4)+Z5*Z5-(RE.one+Z7*(Z4*Z4*(Z5*Z5)))))) (by kernel_rfl))
theorem Aw {x1 y1 x2 y2 x3 y3:R} (h1:eW K a d x1 y1) (h2:eW K a d x2 y2) (h3:eW K a d x3 y3):K.mul (K.sub (K.mul (K.mul (FX K a x1 y1 x2 y2) (yG K d x1 y1 x2 y2)) y3) (K.mul a (K.mul (K.mul (FW K x1 y1 x2 y2) (vZ K d x1 y1 x2 y2)) x3))) (K.sub (K.mul (yG K d x2 y2 x3 y3) (vZ K d x2 y2 x3 y3)) (K.mul d (K.mul (K.mul (FW K x2 y2 x3 y3) (FX K a x2 y2 x3 y3)) (K.mul x1 y1))))=K.mul (K.sub (K.mul (K.mul (FX K a x2 y2 x3 y3) (yG K d x2 y2 x3 y3)) y1) (K.mul a (K.mul (K.mul (FW K x2 y2 x3 y3) (vZ K d x2 y2 x3 y3)) x1))) (K.sub (K.mul (yG K d x1 y1 x2 y2) (vZ K d x1 y1 x2 y2)) (K.mul d (K.mul (K.mul (FW K x1 y1 x2 y2) (FX K a x1 y1 x2 y2)) (K.mul x3 y3)))) :=
 rE (K:=K) (c1:=RE.den K (bT K [x1,y1,x2,y2,x3,y3,a,d]) Yn) (c2:=RE.den K (bT K [x1,y1,x2,y2,x3,y3,a,d]) Ym) (c3:=RE.den K (bT K [x1,y1,x2,y2,x3,y3,a,d]) Yl) h1 h2 h3 (aP K (bT K [x1,y1,x2,y2,x3,y3,a,d]) (((Z1*Z3-Z6*(Z0*Z2))*(RE.one+Z7*(Z0*Z2*(Z1*Z3)))*Z5-Z6*((Z0*Z3+Z1*Z2)*(RE.one-Z7*(Z0*Z2*(Z1*Z3)))*Z4))*((RE.one+Z7*(Z2*Z4*(Z3*Z5)))*(RE.one-Z7*(Z2*Z4*(Z3*Z5)))-Z7*((Z2*Z5+Z3*Z4)*(Z3*Z5-Z6*(Z2*Z4))*(Z0*Z1)))-((Z3*Z5-Z6*(Z2*Z4))*(RE.one+Z7*(Z2*Z4*(Z3*Z5)))*Z1-Z6*((Z2*Z5+Z3*Z4)*(RE.one-Z7*(Z2*Z4*(Z3*Z5)))*Z0))*((RE.one+Z7*(Z0*Z2*(Z1*Z3)))*(RE.one-Z7*(Z0*Z2*(Z1*Z3)))-Z7*((Z0*Z3+Z1*Z2)*(Z1*Z3-Z6*(Z0*Z2))*(Z4*Z5)))) (.add (.add (.mul Yn (Z6*(Z0*Z0)+Z1*Z1-(RE.one+Z7*(Z0*Z0*(Z1*Z1))))) (.mul Ym (Z6*(Z2*Z2)+Z3*Z3-(RE.one+Z7*(Z2*Z2*(Z3*Z3)))))) (.mul Yl (Z6*(Z4*Z4)+Z5*Z5-(RE.one+Z7*(Z4*Z4*(Z5*Z5)))))) (by kernel_rfl))
theorem Rc {n m p q i j:R} (hF:(K.add (K.mul a (K.mul (K.mul n q) (K.mul n q))) (K.mul (K.mul m p) (K.mul m p)))=(K.add (K.mul (K.mul p q) (K.mul p q)) (K.mul d (K.mul (K.mul n m) (K.mul n m))))) (hi:(K.mul p i)=K.one) (hj:(K.mul q j)=K.one):(K.add (K.mul a (K.mul (K.mul n i) (K.mul n i))) (K.mul (K.mul m j) (K.mul m j)))=(K.add K.one (K.mul d (K.mul (K.mul (K.mul n i) (K.mul n i)) (K.mul (K.mul m j) (K.mul m j))))) :=
 rE (K:=K) (c1:=(K.mul (K.mul i j) (K.mul i j))) (c2:=(K.neg (K.mul (K.add (K.mul p i) K.one) (K.sub (K.mul (K.mul m j) (K.mul m j)) K.one)))) (c3:=(K.neg (K.mul (K.add (K.mul q j) K.one) (K.sub (K.mul a (K.mul (K.mul n i) (K.mul n i))) (K.mul (K.mul p i) (K.mul p i)))))) hF hi hj (aP K (bT K [n,m,p,q,i,j,a,d]) (Z6*(Z0*Z4*(Z0*Z4))+Z1*Z5*(Z1*Z5)-(RE.one+Z7*(Z0*Z4*(Z0*Z4)*(Z1*Z5*(Z1*Z5))))) (Z4*Z5*(Z4*Z5)*(Z6*(Z0*Z3*(Z0*Z3))+Z1*Z2*(Z1*Z2)-(Z2*Z3*(Z2*Z3)+Z7*(Z0*Z1*(Z0*Z1))))+(-((Z2*Z4+RE.one)*(Z1*Z5*(Z1*Z5)-RE.one)))*(Z2*Z4-RE.one)+(-((Z3*Z5+RE.one)*(Z6*(Z0*Z4*(Z0*Z4))-Z2*Z4*(Z2*Z4))))*(Z3*Z5-RE.one)) (by kernel_rfl))
theorem UG {n m p q i j x y k:R} (hi:(K.mul p i)=K.one) (hj:(K.mul q j)=K.one) (hk:(K.mul (K.add K.one (K.mul d (K.mul (K.mul (K.mul n i) x) (K.mul (K.mul m j) y)))) k)=K.one):(K.mul (K.mul (K.add (K.mul (K.mul n i) y) (K.mul (K.mul m j) x)) k) (K.add (K.mul p q) (K.mul d (K.mul (K.mul n m) (K.mul x y)))))=(K.add (K.mul (K.mul n q) y) (K.mul (K.mul m p) x)) :=
 rE (K:=K) (c1:=(K.sub (K.mul (K.mul k (K.add (K.mul (K.mul n q) y) (K.mul (K.mul m p) x))) (K.mul q j)) (K.mul (K.mul k (K.add (K.mul p q) (K.mul d (K.mul (K.mul n m) (K.mul x y))))) (K.mul (K.mul m j) x)))) (c2:=(K.sub (K.mul k (K.add (K.mul (K.mul n q) y) (K.mul (K.mul m p) x))) (K.mul (K.mul k (K.add (K.mul p q) (K.mul d (K.mul (K.mul n m) (K.mul x y))))) (K.mul (K.mul n i) y)))) (c3:=(K.add (K.mul (K.mul n q) y) (K.mul (K.mul m p) x))) hi hj hk (aP K (bT K [n,m,p,q,i,j,x,y,k,d]) ((Z0*Z4*Z7+Z1*Z5*Z6)*Z8*(Z2*Z3+Z9*(Z0*Z1*(Z6*Z7)))-(Z0*Z3*Z7+Z1*Z2*Z6)) ((Z8*(Z0*Z3*Z7+Z1*Z2*Z6)*(Z3*Z5)-Z8*(Z2*Z3+Z9*(Z0*Z1*(Z6*Z7)))*(Z1*Z5*Z6))*(Z2*Z4-RE.one)+(Z8*(Z0*Z3*Z7+Z1*Z2*Z6)-Z8*(Z2*Z3+Z9*(Z0*Z1*(Z6*Z7)))*(Z0*Z4*Z7))*(Z3*Z5-RE.one)+(Z0*Z3*Z7+Z1*Z2*Z6)*((RE.one+Z9*(Z0*Z4*Z6*(Z1*Z5*Z7)))*Z8-RE.one)) (by kernel_rfl))
theorem UF {n m p q i j x y k:R} (hi:(K.mul p i)=K.one) (hj:(K.mul q j)=K.one) (hk:(K.mul (K.sub K.one (K.mul d (K.mul (K.mul (K.mul n i) x) (K.mul (K.mul m j) y)))) k)=K.one):(K.mul (K.mul (K.sub (K.mul (K.mul m j) y) (K.mul a (K.mul (K.mul n i) x))) k) (K.sub (K.mul p q) (K.mul d (K.mul (K.mul n m) (K.mul x y)))))=(K.sub (K.mul (K.mul m p) y) (K.mul a (K.mul (K.mul n q) x))) :=
 rE (K:=K) (c1:=(K.sub (K.mul (K.mul k (K.sub (K.mul (K.mul m p) y) (K.mul a (K.mul (K.mul n q) x)))) (K.mul q j)) (K.mul (K.mul k (K.sub (K.mul p q) (K.mul d (K.mul (K.mul n m) (K.mul x y))))) (K.mul (K.mul m j) y)))) (c2:=(K.add (K.mul k (K.sub (K.mul (K.mul m p) y) (K.mul a (K.mul (K.mul n q) x)))) (K.mul (K.mul k (K.sub (K.mul p q) (K.mul d (K.mul (K.mul n m) (K.mul x y))))) (K.mul a (K.mul (K.mul n i) x))))) (c3:=(K.sub (K.mul (K.mul m p) y) (K.mul a (K.mul (K.mul n q) x)))) hi hj hk (aP K (bT K [n,m,p,q,i,j,x,y,k,a,d]) ((Z1*Z5*Z7-Z9*(Z0*Z4*Z6))*Z8*(Z2*Z3-Z10*(Z0*Z1*(Z6*Z7)))-(Z1*Z2*Z7-Z9*(Z0*Z3*Z6))) ((Z8*(Z1*Z2*Z7-Z9*(Z0*Z3*Z6))*(Z3*Z5)-Z8*(Z2*Z3-Z10*(Z0*Z1*(Z6*Z7)))*(Z1*Z5*Z7))*(Z2*Z4-RE.one)+(Z8*(Z1*Z2*Z7-Z9*(Z0*Z3*Z6))+Z8*(Z2*Z3-Z10*(Z0*Z1*(Z6*Z7)))*(Z9*(Z0*Z4*Z6)))*(Z3*Z5-RE.one)+(Z1*Z2*Z7-Z9*(Z0*Z3*Z6))*((RE.one-Z10*(Z0*Z4*Z6*(Z1*Z5*Z7)))*Z8-RE.one)) (by kernel_rfl))
theorem UH {n m p q i j x y:R} (hi:(K.mul p i)=K.one) (hj:(K.mul q j)=K.one):(K.add K.one (K.mul d (K.mul (K.mul (K.mul n i) x) (K.mul (K.mul m j) y))))=(K.mul (K.mul i j) (K.add (K.mul p q) (K.mul d (K.mul (K.mul n m) (K.mul x y))))) :=
 kR (K:=K) (c1:=(K.neg (K.mul q j))) (c2:=(K.neg K.one)) hi hj (aP K (bT K [n,m,p,q,i,j,x,y,d]) (RE.one+Z8*(Z0*Z4*Z6*(Z1*Z5*Z7))-Z4*Z5*(Z2*Z3+Z8*(Z0*Z1*(Z6*Z7)))) ((-(Z3*Z5))*(Z2*Z4-RE.one)+(-RE.one)*(Z3*Z5-RE.one)) (by kernel_rfl))
theorem JX {n m p q i j x y:R} (hi:(K.mul p i)=K.one) (hj:(K.mul q j)=K.one):(K.sub K.one (K.mul d (K.mul (K.mul (K.mul n i) x) (K.mul (K.mul m j) y))))=(K.mul (K.mul i j) (K.sub (K.mul p q) (K.mul d (K.mul (K.mul n m) (K.mul x y))))) :=
 kR (K:=K) (c1:=(K.neg (K.mul q j))) (c2:=(K.neg K.one)) hi hj (aP K (bT K [n,m,p,q,i,j,x,y,d]) (RE.one-Z8*(Z0*Z4*Z6*(Z1*Z5*Z7))-Z4*Z5*(Z2*Z3-Z8*(Z0*Z1*(Z6*Z7)))) ((-(Z3*Z5))*(Z2*Z4-RE.one)+(-RE.one)*(Z3*Z5-RE.one)) (by kernel_rfl))
theorem BP {u v D G N M:R} (h1:(K.mul u D)=N) (h2:(K.mul v G)=M) (h3:(K.mul N G)=(K.mul M D)):(K.mul (K.mul D G) u)=(K.mul (K.mul D G) v) :=
 rE (K:=K) (c1:=G) (c2:=(K.neg D)) (c3:=K.one) h1 h2 h3 (aP K (bT K [u,v,D,G,N,M]) (Z2*Z3*Z0-Z2*Z3*Z1) (Z3*(Z0*Z2-Z4)+(-Z2)*(Z1*Z3-Z5)+RE.one*(Z4*Z3-Z5*Z2)) (by kernel_rfl))
theorem Rb {s x1 y1 x2 y2 e:R} (h1:(K.add (K.mul (K.mul s s) (K.mul x1 x1)) (K.mul y1 y1))=(K.add K.one (K.mul d (K.mul (K.mul x1 x1) (K.mul y1 y1))))) (h2:(K.add (K.mul (K.mul s s) (K.mul x2 x2)) (K.mul y2 y2))=(K.add K.one (K.mul d (K.mul (K.mul x2 x2) (K.mul y2 y2))))) (ht:(K.mul d (K.mul (K.mul x1 x2) (K.mul y1 y2)))=e) (he:(K.mul e e)=K.one):(K.mul (K.add (K.mul s x1) (K.mul e y1)) (K.add (K.mul s x1) (K.mul e y1)))=(K.mul d (K.mul (K.mul (K.mul x1 y1) (K.add (K.mul s x2) y2)) (K.mul (K.mul x1 y1) (K.add (K.mul s x2) y2)))) :=
 Ec (K:=K) (c1:=K.one) (c2:=(K.neg (K.mul d (K.mul (K.mul x1 x1) (K.mul y1 y1))))) (c3:=(K.sub (K.neg (K.add (K.mul d (K.mul (K.mul x1 x2) (K.mul y1 y2))) e)) (K.mul (K.add K.one K.one) (K.mul s (K.mul x1 y1))))) (c4:=(K.sub (K.mul y1 y1) K.one)) h1 h2 ht he (aP K (bT K [s,x1,y1,x2,y2,e,d]) ((Z0*Z1+Z5*Z2)*(Z0*Z1+Z5*Z2)-Z6*(Z1*Z2*(Z0*Z3+Z4)*(Z1*Z2*(Z0*Z3+Z4)))) (RE.one*(Z0*Z0*(Z1*Z1)+Z2*Z2-(RE.one+Z6*(Z1*Z1*(Z2*Z2))))+(-(Z6*(Z1*Z1*(Z2*Z2))))*(Z0*Z0*(Z3*Z3)+Z4*Z4-(RE.one+Z6*(Z3*Z3*(Z4*Z4))))+(-(Z6*(Z1*Z3*(Z2*Z4))+Z5)-(RE.one+RE.one)*(Z0*(Z1*Z2)))*(Z6*(Z1*Z3*(Z2*Z4))-Z5)+(Z2*Z2-RE.one)*(Z5*Z5-RE.one)) (by kernel_rfl))
variable (K) (a) (d)
def FV (x1 y1 x2 y2:R):R:=K.mul (FW K x1 y1 x2 y2) (inv (yG K d x1 y1 x2 y2))
def FU (x1 y1 x2 y2:R):R:=K.mul (FX K a x1 y1 x2 y2) (inv (vZ K d x1 y1 x2 y2))
structure ED:Prop where
 F:FD K inv
 two:K.add K.one K.one≠K.zero
 sq:∃s,K.mul s s=a
 ns:∀x,K.mul x x≠d
variable {K} {inv} {a} {d}
theorem ED.v0 (E:ED K inv a d) {s x1 y1 x2 y2 e:R} (hs:K.mul s s=a) (h1:eW K a d x1 y1) (h2:eW K a d x2 y2) (ht:UI K d x1 y1 x2 y2=e) (he:K.mul e e=K.one) (hw:K.mul x1 y1≠K.zero):K.add (K.mul s x2) y2=K.zero:=by
 subst hs;refine Classical.byContradiction fun hv => ?_
 have h:=Rb h1 h2 ht he;have hk:=E.F.inv _ (E.F.mul_ne hw hv);generalize K.mul (K.mul x1 y1) (K.add (K.mul s x2) y2)=z at h hk;generalize K.add (K.mul s x1) (K.mul e y1)=u at h;generalize inv z=k at hk;refine E.ns (K.mul u k) ?_;exact kR (K:=K) (c1:=(K.mul k k)) (c2:=(K.mul d (K.add (K.mul z k) K.one))) h hk (aP K (bT K [u,k,d,z]) (Z0*Z1*(Z0*Z1)-Z2) (Z1*Z1*(Z0*Z0-Z2*(Z3*Z3))+Z2*(Z3*Z1+RE.one)*(Z3*Z1-RE.one)) (by kernel_rfl))
theorem ED.ne (E:ED K inv a d) {x1 y1 x2 y2 e:R} (h1:eW K a d x1 y1) (h2:eW K a d x2 y2) (ht:UI K d x1 y1 x2 y2=e) (he:K.mul e e=K.one):False:=by
 obtain⟨s,hs⟩:=E.sq;have e0:e≠K.zero:=fun q=>by
  rw[q,K.zero_mul]at he;exact E.F.ne he.symm
 have hw:K.mul x1 y1≠K.zero:=fun q=>e0 (by
  rw[←ht];exact iA (K:=K) (c1:=(K.mul d (K.mul x2 y2))) q (aP K (bT K [x1,y1,x2,y2,d]) (Z4*(Z0*Z2*(Z1*Z3))-RE.zero) (Z4*(Z2*Z3)*(Z0*Z1-RE.zero)) (by kernel_rfl)))
 have a1:=E.v0 hs h1 h2 ht he hw;have a2:=E.v0 (s:=K.neg s) (by rw[←hs]; exact aP K (bT K [s]) ((-Z0)*(-Z0)) (Z0*Z0) (by kernel_rfl)) h1 h2 ht he hw;have hy:K.mul (K.add K.one K.one) y2=K.zero:=kR (K:=K) (c1:=K.one) (c2:=K.one) a1 a2 (aP K (bT K [s,x2,y2]) ((RE.one+RE.one)*Z2-RE.zero) (RE.one*(Z0*Z1+Z2-RE.zero)+RE.one*((-Z0)*Z1+Z2-RE.zero)) (by kernel_rfl));have hy:=E.F.zd hy E.two;refine e0 ?_;rw[←ht];unfold UI;rw[hy,K.mul_zero,K.mul_zero,K.mul_zero]
theorem ED.pne (E:ED K inv a d) {x1 y1 x2 y2:R} (h1:eW K a d x1 y1) (h2:eW K a d x2 y2):yG K d x1 y1 x2 y2≠K.zero:=fun q =>
 E.ne (e:=K.neg K.one) h1 h2 (by
  show UI K d x1 y1 x2 y2=_;unfold yG at q;generalize UI K d x1 y1 x2 y2=t at q;exact iA (K:=K) (c1:=K.one) q (aP K (bT K [t]) (Z0-(-RE.one)) (RE.one*(RE.one+Z0-RE.zero)) (by kernel_rfl))) (aP K (bT K []) ((-RE.one)*(-RE.one)) .one (by kernel_rfl))
theorem ED.qne (E:ED K inv a d) {x1 y1 x2 y2:R} (h1:eW K a d x1 y1) (h2:eW K a d x2 y2):vZ K d x1 y1 x2 y2≠K.zero:=fun q =>
 E.ne (e:=K.one) h1 h2 (by
  show UI K d x1 y1 x2 y2=_;unfold vZ at q;generalize UI K d x1 y1 x2 y2=t at q;exact iA (K:=K) (c1:=(K.neg K.one)) q (aP K (bT K [t]) (Z0-RE.one) ((-RE.one)*(RE.one-Z0-RE.zero)) (by kernel_rfl))) (K.one_mul _)
theorem ED.ip (E:ED K inv a d) {x1 y1 x2 y2:R} (h1:eW K a d x1 y1) (h2:eW K a d x2 y2):K.mul (yG K d x1 y1 x2 y2) (inv (yG K d x1 y1 x2 y2))=K.one:=E.F.inv _ (E.pne h1 h2)
theorem ED.iq (E:ED K inv a d) {x1 y1 x2 y2:R} (h1:eW K a d x1 y1) (h2:eW K a d x2 y2):K.mul (vZ K d x1 y1 x2 y2) (inv (vZ K d x1 y1 x2 y2))=K.one:=E.F.inv _ (E.qne h1 h2)
theorem ED.on (E:ED K inv a d) {x1 y1 x2 y2:R} (h1:eW K a d x1 y1) (h2:eW K a d x2 y2):eW K a d (FV K inv d x1 y1 x2 y2) (FU K inv a d x1 y1 x2 y2) :=
 Rc (NO h1 h2) (E.ip h1 h2) (E.iq h1 h2)
theorem ED.assX (E:ED K inv a d) {x1 y1 x2 y2 x3 y3:R} (h1:eW K a d x1 y1) (h2:eW K a d x2 y2) (h3:eW K a d x3 y3):FV K inv d (FV K inv d x1 y1 x2 y2) (FU K inv a d x1 y1 x2 y2) x3 y3=FV K inv d (FV K inv d x2 y2 x3 y3) (FU K inv a d x2 y2 x3 y3) x1 y1:=by
 have b1:=E.pne (E.on h1 h2) h3;have b2:=E.pne (E.on h2 h3) h1;have c1:=UG (E.ip h1 h2) (E.iq h1 h2) (E.ip (E.on h1 h2) h3);have c2:=UG (E.ip h2 h3) (E.iq h2 h3) (E.ip (E.on h2 h3) h1);refine E.F.cancel (E.F.mul_ne (fun z=>b1 ?_) fun z=>b2 ?_) (BP c1 c2 (Ax h1 h2 h3))
 ·refine (UH (E.ip h1 h2) (E.iq h1 h2)).trans ?_;rw[z,K.mul_zero]
 ·refine (UH (E.ip h2 h3) (E.iq h2 h3)).trans ?_;rw[z,K.mul_zero]
theorem ED.assY (E:ED K inv a d) {x1 y1 x2 y2 x3 y3:R} (h1:eW K a d x1 y1) (h2:eW K a d x2 y2) (h3:eW K a d x3 y3):FU K inv a d (FV K inv d x1 y1 x2 y2) (FU K inv a d x1 y1 x2 y2) x3 y3=FU K inv a d (FV K inv d x2 y2 x3 y3) (FU K inv a d x2 y2 x3 y3) x1 y1:=by
 have b1:=E.qne (E.on h1 h2) h3;have b2:=E.qne (E.on h2 h3) h1;have c1:=UF (a:=a) (E.ip h1 h2) (E.iq h1 h2) (E.iq (E.on h1 h2) h3);have c2:=UF (a:=a) (E.ip h2 h3) (E.iq h2 h3) (E.iq (E.on h2 h3) h1);refine E.F.cancel (E.F.mul_ne (fun z=>b1 ?_) fun z=>b2 ?_) (BP c1 c2 (Aw h1 h2 h3))
 ·refine (JX (E.ip h1 h2) (E.iq h1 h2)).trans ?_;rw[z,K.mul_zero]
 ·refine (JX (E.ip h2 h3) (E.iq h2 h3)).trans ?_;rw[z,K.mul_zero]
theorem ED.comX (x1 y1 x2 y2:R):FV K inv d x1 y1 x2 y2=FV K inv d x2 y2 x1 y1:=by
 unfold FV FW yG UI;rw[K.mul_comm x1 x2,K.mul_comm y1 y2,K.add_comm (K.mul x1 y2),K.mul_comm y1 x2,K.mul_comm x1 y2]
theorem ED.comY (x1 y1 x2 y2:R):FU K inv a d x1 y1 x2 y2=FU K inv a d x2 y2 x1 y1:=by
 unfold FU FX vZ UI;rw[K.mul_comm x1 x2,K.mul_comm y1 y2]
theorem ED.i1 (E:ED K inv a d):inv K.one=K.one:=by
 have:=E.F.inv K.one E.F.ne
 rwa [K.one_mul]at this
theorem Kj:eW K a d K.zero K.one:=by
 show K.add (K.mul a (K.mul K.zero K.zero)) (K.mul K.one K.one)=K.add K.one (K.mul d (K.mul (K.mul K.zero K.zero) (K.mul K.one K.one)));exact aP K (bT K [a,d]) (Z0*(RE.zero*RE.zero)+RE.one*RE.one) (RE.one+Z1*(RE.zero*RE.zero*(RE.one*RE.one))) (by kernel_rfl)
theorem UE {x y:R} (h:eW K a d x y):eW K a d (K.neg x) y:=by
 show K.add (K.mul a (K.mul (K.neg x) (K.neg x))) (K.mul y y)=K.add K.one (K.mul d (K.mul (K.mul (K.neg x) (K.neg x)) (K.mul y y)));have e:K.mul (K.neg x) (K.neg x)=K.mul x x:=aP K (bT K [x]) ((-Z0)*(-Z0)) (Z0*Z0) (by kernel_rfl);rw[e];exact h
theorem ED.zX (E:ED K inv a d) (x y:R):FV K inv d K.zero K.one x y=x:=by
 have e1:yG K d K.zero K.one x y=K.one:=aP K (bT K [x,y,d]) (RE.one+Z2*(RE.zero*Z0*(RE.one*Z1))) .one (by kernel_rfl);unfold FV;rw[e1,E.i1];exact aP K (bT K [x,y]) ((RE.zero*Z1+RE.one*Z0)*RE.one) (.v 0) (by kernel_rfl)
theorem ED.zY (E:ED K inv a d) (x y:R):FU K inv a d K.zero K.one x y=y:=by
 have e1:vZ K d K.zero K.one x y=K.one:=aP K (bT K [x,y,d]) (RE.one-Z2*(RE.zero*Z0*(RE.one*Z1))) .one (by kernel_rfl);unfold FU;rw[e1,E.i1];exact aP K (bT K [x,y,a]) ((RE.one*Z1-Z2*(RE.zero*Z0))*RE.one) (.v 1) (by kernel_rfl)
theorem ED.nX (E:ED K inv a d) (x y:R):FV K inv d (K.neg x) y x y=K.zero:=by
 have e1:FW K (K.neg x) y x y=K.zero:=aP K (bT K [x,y]) ((-Z0)*Z1+Z1*Z0) .zero (by kernel_rfl);unfold FV;rw[e1,K.zero_mul]
theorem ED.nY (E:ED K inv a d) {x y:R} (h:eW K a d x y):FU K inv a d (K.neg x) y x y=K.one:=by
 have e1:FX K a (K.neg x) y x y=vZ K d (K.neg x) y x y:=iA (K:=K) (c1:=K.one) h (aP K (bT K [x,y,a,d]) (Z1*Z1-Z2*((-Z0)*Z0)-(RE.one-Z3*((-Z0)*Z0*(Z1*Z1)))) (RE.one*(Z2*(Z0*Z0)+Z1*Z1-(RE.one+Z3*(Z0*Z0*(Z1*Z1))))) (by kernel_rfl));unfold FU;rw[e1];exact E.iq (UE h) h
variable (K) (a) (d)
abbrev GW:={p:R×R // eW K a d p.1 p.2}
variable {K} {a} {d}
def ED.grp (E:ED K inv a d):AG (GW K a d) where
 add p q:=⟨(FV K inv d p.1.1 p.1.2 q.1.1 q.1.2,FU K inv a d p.1.1 p.1.2 q.1.1 q.1.2),E.on p.2 q.2⟩
 neg p:=⟨(K.neg p.1.1,p.1.2),UE p.2⟩
 zero:=⟨(K.zero,K.one),Kj⟩
 assoc p q r:=Subtype.ext (Prod.ext ((E.assX p.2 q.2 r.2).trans (ED.comX _ _ _ _)) ((E.assY p.2 q.2 r.2).trans (ED.comY _ _ _ _)))
 comm p q:=Subtype.ext (Prod.ext (ED.comX _ _ _ _) (ED.comY _ _ _ _))
 zadd p:=Subtype.ext (Prod.ext (E.zX _ _) (E.zY _ _))
 nadd p:=Subtype.ext (Prod.ext (E.nX _ _) (E.nY p.2))
end
end Go.Proofs.YtpjlhhpjpnacmaaGreat.Ex
