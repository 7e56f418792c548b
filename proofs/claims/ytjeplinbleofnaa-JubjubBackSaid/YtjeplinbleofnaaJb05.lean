/- Jb05 -/
import Derived.KernelRfl
import Derived.Test.YtjeplinbleofnaaJb04
import Derived.Test.YtjeplinbleofnaaProg
set_option maxRecDepth 100000
set_option linter.unusedVariables false
set_option linter.unusedSimpArgs false
set_option linter.unnecessarySimpa false
noncomputable section
namespace Go.Proofs.Ytjeplinbleofnaa.Ex
open Go.Proofs.Try
structure FD {R:Type} (K:CR R) (inv:R→R):Prop where
 ne:K.one≠K.zero
 inv:∀x,x≠K.zero→K.mul x (inv x)=K.one
section
variable {R:Type} {K:CR R} {inv:R→R}
theorem FD.zd (h:FD K inv) {a b:R} (e:K.mul a b=K.zero) (ha:a≠K.zero):b=K.zero:=by
 have:=congrArg (K.mul (inv a)) e
 rwa [←K.mul_assoc,K.mul_comm (inv a),h.inv a ha,K.one_mul,K.mul_zero]at this
theorem FD.mul_ne (h:FD K inv) {a b:R} (ha:a≠K.zero) (hb:b≠K.zero):K.mul a b≠K.zero:=fun e=>hb (h.zd e ha)
theorem FD.cancel (h:FD K inv) {a b c:R} (ha:a≠K.zero) (e:K.mul a b=K.mul a c):b=c:=by
 have:=congrArg (K.mul (inv a)) e
 rwa [←K.mul_assoc,←K.mul_assoc,K.mul_comm (inv a),h.inv a ha,K.one_mul,K.one_mul]at this
theorem eV {a b:R} (h:K.add a (K.neg b)=K.zero):a=b:=by
 have h2:K.add (K.add a (K.neg b)) b=K.add K.zero b:=congrArg (fun x=>K.add x b) h
 rwa [K.add_assoc,K.neg_add,K.add_zero,K.zero_add]at h2
theorem cS {a b:R} (h:a=b):K.add a (K.neg b)=K.zero:=by rw[h,K.add_neg]
theorem eR {A B L1 R1 c1:R} (h1:L1=R1) (e:K.add A (K.neg B)=K.mul c1 (K.add L1 (K.neg R1))):A=B:=by
 apply eV (K:=K);rw[e,cS h1,K.mul_zero]
theorem gP {A B L1 R1 c1 L2 R2 c2:R} (h1:L1=R1) (h2:L2=R2) (e:K.add A (K.neg B)=K.add (K.mul c1 (K.add L1 (K.neg R1))) (K.mul c2 (K.add L2 (K.neg R2)))):A=B:=by
 apply eV (K:=K);rw[e,cS h1,cS h2,K.mul_zero,K.mul_zero,K.add_zero]
theorem lZ {A B L1 R1 c1 L2 R2 c2 L3 R3 c3:R} (h1:L1=R1) (h2:L2=R2) (h3:L3=R3) (e:K.add A (K.neg B)=K.add (K.add (K.mul c1 (K.add L1 (K.neg R1))) (K.mul c2 (K.add L2 (K.neg R2)))) (K.mul c3 (K.add L3 (K.neg R3)))):A=B:=by
 apply eV (K:=K);rw[e,cS h1,cS h2,cS h3,K.mul_zero,K.mul_zero,K.mul_zero,K.add_zero,K.add_zero]
end
section
variable {R:Type} (K:CR R)
def tl (f:Nat→R):Nat→R:=fun n=>f (n+1)
def iE:Nat→(Nat→R)→(Nat→R)→R
 | 0,f,g=>K.mul (f 0) (g 0)
 | n+1,f,g=>K.add (K.mul (f 0) (g (n+1))) (iE n (tl f) g)
def BQ (f g:Nat→R):Nat→R:=fun n=>K.add (f n) (g n)
def ZD (c:R) (f:Nat→R):Nat→R:=fun n=>K.mul c (f n)
def wT (f g:Nat→R):Nat→R:=fun n=>iE K n f g
def ZF (f:Nat→R):Nat→R:=fun n=>K.neg (f n)
def VL:Nat→R:=fun _=>K.zero
def RC (c:R):Nat→R|0=>c|_+1=>K.zero
theorem qC:∀(n:Nat) (f g h:Nat→R),iE K n f (BQ K g h)=K.add (iE K n f g) (iE K n f h)
 | 0,f,g,h=>K.mul_add _ _ _
 | n+1,f,g,h=>by
  show K.add (K.mul (f 0) (K.add _ _)) (iE K n (tl f) (BQ K g h))=K.add (K.add _ _) (K.add _ _);rw[qC n,K.mul_add,K.add_assoc,K.add_assoc,K.add_left_comm (K.mul (f 0) (h (n+1)))]
theorem qD:∀(n:Nat) (f g h:Nat→R),iE K n (BQ K f g) h=K.add (iE K n f h) (iE K n g h)
 | 0,f,g,h=>K.add_mul _ _ _
 | n+1,f,g,h=>by
  show K.add (K.mul (K.add _ _) (h (n+1))) (iE K n (BQ K (tl f) (tl g)) h)=K.add (K.add _ _) (K.add _ _);rw[qD n,K.add_mul,K.add_assoc,K.add_assoc,K.add_left_comm (K.mul (g 0) (h (n+1)))]
theorem HW:∀(n:Nat) (c:R) (f g:Nat→R),iE K n (ZD K c f) g=K.mul c (iE K n f g)
 | 0,c,f,g=>K.mul_assoc _ _ _
 | n+1,c,f,g=>by
  show K.add (K.mul (K.mul c (f 0)) _) (iE K n (ZD K c (tl f)) g)=K.mul c (K.add _ _);rw[HW n,K.mul_add,K.mul_assoc]
theorem xE:∀(n:Nat) (g:Nat→R),iE K n (VL K) g=K.zero
 | 0,g=>K.zero_mul _
 | n+1,g=>by
  show K.add (K.mul K.zero _) (iE K n (VL K) g)=_;rw[xE n,K.zero_mul,K.add_zero]
theorem xG (c:R) (g:Nat→R):∀n,iE K n (RC K c) g=K.mul c (g n)
 | 0=>rfl
 | n+1=>by
  show K.add (K.mul c _) (iE K n (VL K) g)=_;rw[xE,K.add_zero]
theorem qB:∀(n:Nat) (f g h:Nat→R),iE K n (wT K f g) h=iE K n f (wT K g h)
 | 0,f,g,h=>K.mul_assoc _ _ _
 | n+1,f,g,h=>by
  have e:tl (wT K f g)=BQ K (ZD K (f 0) (tl g)) (wT K (tl f) g):=rfl;show K.add (K.mul (K.mul (f 0) (g 0)) (h (n+1))) (iE K n (tl (wT K f g)) h)=K.add (K.mul (f 0) (K.add (K.mul (g 0) (h (n+1))) (iE K n (tl g) h))) (iE K n (tl f) (wT K g h));rw[e,qD,HW,qB n,K.mul_add,K.mul_assoc,K.add_assoc]
theorem kJ:∀(n:Nat) (f g:Nat→R),iE K n f g=iE K n g f
 | 0,f,g=>K.mul_comm _ _
 | 1,f,g=>by
  show K.add (K.mul (f 0) (g 1)) (K.mul (f 1) (g 0))=K.add (K.mul (g 0) (f 1)) (K.mul (g 1) (f 0));rw[K.add_comm,K.mul_comm (f 1),K.mul_comm (f 0)]
 | n+2,f,g=>by
  show K.add (K.mul (f 0) (g (n+2))) (iE K (n+1) (tl f) g)=K.add (K.mul (g 0) (f (n+2))) (iE K (n+1) (tl g) f);rw[kJ (n+1) (tl f) g,kJ (n+1) (tl g) f];show K.add (K.mul (f 0) (g (n+2))) (K.add (K.mul (g 0) (f (n+2))) (iE K n (tl g) (tl f)))=K.add (K.mul (g 0) (f (n+2))) (K.add (K.mul (f 0) (g (n+2))) (iE K n (tl f) (tl g)));rw[K.add_left_comm,kJ n (tl g) (tl f)]
theorem xF:∀(a b:Nat) (f g:Nat→R),(∀i,a≤i→f i=K.zero)→(∀i,b≤i→g i=K.zero)→∀n,a+b≤n+1→iE K n f g=K.zero
 | 0,b,f,g,hf,hg,n,h=>by
  have:f=VL K:=funext fun i=>hf i (Nat.zero_le _)
  rw[this,xE]
 | a+1,b,f,g,hf,hg,0,h=>by
  show K.mul (f 0) (g 0)=_;rw[hg 0 (by omega),K.mul_zero]
 | a+1,b,f,g,hf,hg,n+1,h=>by
  show K.add (K.mul (f 0) (g (n+1))) (iE K n (tl f) g)=_;rw[hg (n+1) (by omega),K.mul_zero,K.zero_add];exact xF a b (tl f) g (fun i hi=>hf (i+1) (by omega)) hg n (by omega)
def Pol:Type:={f:Nat→R // ∃n,∀i,n≤i→f i=K.zero}
variable {K}
theorem Pol.ext {f g:Pol K} (h:∀n,f.1 n=g.1 n):f=g:=Subtype.ext (funext h)
def aO:CR (Pol K) where
 add f g:=⟨BQ K f.1 g.1,by
  obtain⟨a,ha⟩:=f.2; obtain⟨b,hb⟩:=g.2;exact⟨a+b,fun i hi=>by show K.add (f.1 i) (g.1 i)=_; rw[ha i (by omega),hb i (by omega),K.add_zero]⟩⟩
 mul f g:=⟨wT K f.1 g.1,by
  obtain⟨a,ha⟩:=f.2; obtain⟨b,hb⟩:=g.2;exact⟨a+b,fun i hi=>xF K a b f.1 g.1 ha hb i (by omega)⟩⟩
 neg f:=⟨ZF K f.1,by
  obtain⟨a,ha⟩:=f.2;exact⟨a,fun i hi=>by show K.neg (f.1 i)=_; rw[ha i hi,bW]⟩⟩
 zero:=⟨VL K,0,fun _ _=>rfl⟩
 one:=⟨RC K K.one,1,fun i hi=>by cases i with|zero=>omega|succ i=>rfl⟩
 add_assoc a b c:=Pol.ext fun n=>K.add_assoc _ _ _
 add_comm a b:=Pol.ext fun n=>K.add_comm _ _
 zero_add a:=Pol.ext fun n=>K.zero_add _
 neg_add a:=Pol.ext fun n=>K.neg_add _
 mul_assoc a b c:=Pol.ext fun n=>qB K n _ _ _
 mul_comm a b:=Pol.ext fun n=>kJ K n _ _
 one_mul a:=Pol.ext fun n=>by show iE K n (RC K K.one) a.1=_; rw[xG,K.one_mul]
 mul_add a b c:=Pol.ext fun n=>qC K n _ _ _
def eP (c:R):Pol K:=⟨RC K c,1,fun i hi=>by cases i with|zero=>omega|succ i=>rfl⟩
def pX:Pol K:=⟨fun n=>match n with|1=>K.one|_=>K.zero,2,fun i hi=>by match i,hi with|i+2,_=>rfl⟩
theorem yS (a b:R):(eP (K.add a b):Pol K)=aO.add (eP a) (eP b):=Pol.ext fun n=>by
 cases n with
 | zero=>rfl
 | succ n=>exact (K.zero_add _).symm
theorem KP (a:R):(eP (K.neg a):Pol K)=aO.neg (eP a):=Pol.ext fun n=>by
 cases n with
 | zero=>rfl
 | succ n=>exact (bW K).symm
theorem mO (a b:R):(eP (K.mul a b):Pol K)=aO.mul (eP a) (eP b):=Pol.ext fun n=>by
 show _=iE K n (RC K a) (RC K b);rw[xG];cases n with
 | zero=>rfl
 | succ n=>exact (K.mul_zero _).symm
def dg (f:Pol K) (n:Nat):Prop:=f.1 n≠K.zero∧∀i,n<i→f.1 i=K.zero
theorem HH {f:Pol K} {n:Nat} (h:dg f n):f≠aO.zero:=fun e=>h.1 (by rw[e]; rfl)
theorem RL {f:Pol K} {n m:Nat} (h:dg f n) (g:dg f m):n=m:=by
 rcases Nat.lt_trichotomy n m with q|q|q
 ·exact absurd (h.2 m q) g.1
 ·exact q
 ·exact absurd (g.2 n q) h.1
theorem zK (f:Pol K) (h:f≠aO.zero):∃n,dg f n:=by
 obtain⟨b,hb⟩:=f.2;have:∀b,(∀i,b≤i→f.1 i=K.zero)→∃n,dg f n:=by
  intro b
  induction b with
  | zero=>exact fun hb=>absurd (Pol.ext fun n=>hb n (Nat.zero_le _)) h
  | succ b ih =>
   intro hb
   by_cases h0:f.1 b=K.zero
   ·exact ih fun i hi=>by
     rcases Nat.lt_or_ge b i with q|q
     ·exact hb i q
     ·rw[show i=b by omega,h0]
   ·exact⟨b,h0,hb⟩
 exact this b hb
variable {inv:R→R}
theorem zN:∀(a b:Nat) (f g:Nat→R),(∀i,a<i→f i=K.zero)→(∀i,b<i→g i=K.zero)→iE K (a+b) f g=K.mul (f a) (g b)
 | 0,b,f,g,hf,hg=>by
  have:f=RC K (f 0):=funext fun i=>by cases i with|zero=>rfl|succ i=>exact hf _ (by omega)
  rw[this,xG,Nat.zero_add]; rfl
 | a+1,b,f,g,hf,hg=>by
  rw[show a+1+b=(a+b)+1 by omega];show K.add (K.mul (f 0) (g (a+b+1))) (iE K (a+b) (tl f) g)=_;rw[hg (a+b+1) (by omega),K.mul_zero,K.zero_add];exact zN a b (tl f) g (fun i hi=>hf (i+1) (by omega)) hg
theorem fS (F:FD K inv) {f g:Pol K} {n m:Nat} (hf:dg f n) (hg:dg g m):dg (aO.mul f g) (n+m):=by
 refine⟨?_,fun i hi=>xF K (n+1) (m+1) f.1 g.1 (fun j hj=>hf.2 j hj) (fun j hj=>hg.2 j hj) i (by omega)⟩
 ·show iE K (n+m) f.1 g.1≠_;rw[zN n m f.1 g.1 hf.2 hg.2];exact F.mul_ne hf.1 hg.1
theorem oH {f g:Pol K} {n:Nat} (hf:dg f n) (hg:∀i,n≤i→g.1 i=K.zero):dg (aO.add f g) n:=by
 refine⟨?_,fun i hi => ?_⟩
 ·show K.add (f.1 n) (g.1 n)≠_;rw[hg n (Nat.le_refl _),K.add_zero]; exact hf.1
 ·show K.add (f.1 i) (g.1 i)=_;rw[hf.2 i hi,hg i (by omega),K.add_zero]
theorem QC {a:R} (h:a≠K.zero):K.neg a≠K.zero:=fun e=>h (by rw[←K.neg_neg a,e,bW])
theorem GZ {f:Pol K} {n:Nat} (hf:dg f n):dg (aO.neg f) n :=
 ⟨QC hf.1,fun i hi=>by show K.neg (f.1 i)=_; rw[hf.2 i hi,bW]⟩
theorem oG (F:FD K inv) (c:R):dg (aO.sub (pX:Pol K) (eP c)) 1:=by
 refine⟨?_,fun i hi => ?_⟩
 ·show K.add K.one (K.neg K.zero)≠_;rw[bW,K.add_zero]; exact F.ne
 ·match i,hi with
  | i+2,_=>show K.add K.zero (K.neg K.zero)=_; rw[bW,K.add_zero]
def qP (c:R):Pol K:=aO.add (aO.mul pX (aO.mul pX pX)) (eP c)
theorem RN (F:FD K inv):dg (pX:Pol K) 1:=⟨F.ne,fun i hi=>by match i,hi with|i+2,_=>rfl⟩
theorem WC (F:FD K inv) (c:R):dg (qP c:Pol K) 3 :=
 oH (fS F (RN F) (fS F (RN F) (RN F))) fun i hi=>by match i,hi with|i+1,_=>rfl
theorem pO (F:FD K inv) {c k:R} {h:Pol K} (e:aO.mul (aO.sub (pX:Pol K) (eP c)) h=eP k):k=K.zero:=by
 by_cases h0:h=aO.zero
 ·rw[h0,aO.mul_zero]at e;exact (congrArg (fun p:Pol K=>p.1 0) e).symm
 ·obtain⟨n,hn⟩:=zK h h0;have:=fS F (oG F c) hn;rw[e]at this;exact absurd (by rw[Nat.add_comm]; rfl) this.1
end
section
variable {A:Type} {K:CR A}
theorem NZ {M N L1 R1 c1 L2 R2 c2 L3 R3 c3 L4 R4 c4:A} (h1:L1=R1) (h2:L2=R2) (h3:L3=R3) (h4:L4=R4) (e:K.add M (K.neg N)=K.add (K.add (K.add (K.mul c1 (K.add L1 (K.neg R1))) (K.mul c2 (K.add L2 (K.neg R2)))) (K.mul c3 (K.add L3 (K.neg R3)))) (K.mul c4 (K.add L4 (K.neg R4)))):M=N:=by
 apply eV (K:=K);rw[e,cS h1,cS h2,cS h3,cS h4,K.mul_zero,K.mul_zero,K.mul_zero,K.mul_zero,K.add_zero,K.add_zero,K.add_zero]
def op (K:CR A) (X Y x y:A) (S:A→Prop):A→Prop:=fun z=>∃s t,S s∧S t∧z=K.add (K.mul (K.sub X x) s) (K.mul (K.sub Y y) t)
structure Idl (K:CR A) (S:A→Prop):Prop where
 add:∀a b,S a→S b→S (K.add a b)
 mul:∀a c,S a→S (K.mul c a)
theorem Idl.neg {S:A→Prop} (h:Idl K S) {a:A} (ha:S a):S (K.neg a):=by
 have:=h.mul a (K.neg K.one) ha
 rwa [K.neg_mul,K.one_mul]at this
theorem Idl.sub {S:A→Prop} (h:Idl K S) {a b:A} (ha:S a) (hb:S b):S (K.sub a b):=h.add _ _ ha (h.neg hb)
def Eqv (K:CR A) (S T:A→Prop):Prop:=∃a b,a≠K.zero∧b≠K.zero∧(∀s,S s→∃t,T t∧K.mul a s=K.mul b t)∧(∀t,T t→∃s,S s∧K.mul a s=K.mul b t)
def XH (K:CR A):Prop:=K.one≠K.zero∧∀a b,a≠K.zero→b≠K.zero→K.mul a b≠K.zero
theorem Eqv.refl (D:XH K) (S:A→Prop):Eqv K S S:=⟨K.one,K.one,D.1,D.1,fun s h=>⟨s,h,rfl⟩,fun s h=>⟨s,h,rfl⟩⟩
theorem Eqv.symm {S T:A→Prop} (h:Eqv K S T):Eqv K T S:=by
 obtain⟨a,b,ha,hb,h1,h2⟩:=h;exact⟨b,a,hb,ha,fun t ht=>by obtain⟨s,hs,e⟩:=h2 t ht; exact⟨s,hs,e.symm⟩,fun s hs=>by obtain⟨t,ht,e⟩:=h1 s hs; exact⟨t,ht,e.symm⟩⟩
theorem Eqv.trans (D:XH K) {S T U:A→Prop} (h:Eqv K S T) (g:Eqv K T U):Eqv K S U:=by
 obtain⟨a,b,ha,hb,h1,h2⟩:=h;obtain⟨c,d,hc,hd,g1,g2⟩:=g;have key:∀s t u,K.mul a s=K.mul b t→K.mul c t=K.mul d u→K.mul (K.mul c a) s=K.mul (K.mul b d) u:=fun s t u e f=>by
  rw[K.mul_assoc,e,K.mul_left_comm,f,K.mul_assoc]
 refine⟨K.mul c a,K.mul b d,D.2 _ _ hc ha,D.2 _ _ hb hd,fun s hs => ?_,fun u hu => ?_⟩
 ·obtain⟨t,ht,e⟩:=h1 s hs;obtain⟨u,hu,f⟩:=g1 t ht;exact⟨u,hu,key s t u e f⟩
 ·obtain⟨t,ht,f⟩:=g2 u hu;obtain⟨s,hs,e⟩:=h2 t ht;exact⟨s,hs,key s t u e f⟩
variable {X Y:A}
theorem tR {x y al be s s2 t t2:A} (e:K.mul al s=K.mul be t) (f:K.mul al s2=K.mul be t2):K.mul al (K.add (K.mul (K.sub X x) s) (K.mul (K.sub Y y) s2))=K.mul be (K.add (K.mul (K.sub X x) t) (K.mul (K.sub Y y) t2)) :=
 gP (K:=K) (c1:=(K.sub X x)) (c2:=(K.sub Y y)) e f (aI K (bA K [al,X,x,s,Y,y,s2,be,t,t2]) (Z0*((Z1-Z2)*Z3+(Z4-Z5)*Z6)-Z7*((Z1-Z2)*Z8+(Z4-Z5)*Z9)) ((Z1-Z2)*(Z0*Z3-Z7*Z8)+(Z4-Z5)*(Z0*Z6-Z7*Z9)) (by kernel_rfl))
theorem Eqv.op {S T:A→Prop} (x y:A) (h:Eqv K S T):Eqv K (op K X Y x y S) (op K X Y x y T):=by
 obtain⟨a,b,ha,hb,h1,h2⟩:=h;refine⟨a,b,ha,hb,?_,?_⟩
 ·rintro z ⟨s,s2,hs,hs2,rfl⟩
  obtain⟨t,ht,e⟩:=h1 s hs;obtain⟨t2,ht2,f⟩:=h1 s2 hs2;exact⟨_,⟨t,t2,ht,ht2,rfl⟩,tR e f⟩
 ·rintro z ⟨t,t2,ht,ht2,rfl⟩
  obtain⟨s,hs,e⟩:=h2 t ht;obtain⟨s2,hs2,f⟩:=h2 t2 ht2;exact⟨_,⟨s,s2,hs,hs2,rfl⟩,tR e f⟩
theorem tQ {S:A→Prop} (x y x' y':A) {z:A} (h:op K X Y x y (op K X Y x' y' S) z):op K X Y x' y' (op K X Y x y S) z:=by
 obtain⟨_,_,⟨a,bb,ha,hb,rfl⟩,⟨c,d,hc,hd,rfl⟩,rfl⟩:=h;exact⟨_,_,⟨a,c,ha,hc,rfl⟩,⟨bb,d,hb,hd,rfl⟩,aI K (bA K [X,x,x',a,Y,y',bb,y,c,d]) ((Z0-Z1)*((Z0-Z2)*Z3+(Z4-Z5)*Z6)+(Z4-Z7)*((Z0-Z2)*Z8+(Z4-Z5)*Z9)) ((Z0-Z2)*((Z0-Z1)*Z3+(Z4-Z7)*Z8)+(Z4-Z5)*((Z0-Z1)*Z6+(Z4-Z7)*Z9)) (by kernel_rfl)⟩
theorem KQ {S:A→Prop} (x y x' y':A):op K X Y x y (op K X Y x' y' S)=op K X Y x' y' (op K X Y x y S) :=
 funext fun z=>propext ⟨tQ x y x' y',tQ x' y' x y⟩
theorem ET {S:A→Prop} (h:Idl K S) (x y:A):Idl K (op K X Y x y S) where
 add:=by
  rintro _ _ ⟨a,b,ha,hb,rfl⟩ ⟨c,d,hc,hd,rfl⟩
  exact⟨_,_,h.add a c ha hc,h.add b d hb hd,aI K (bA K [X,x,a,Y,y,b,c,d]) ((Z0-Z1)*Z2+(Z3-Z4)*Z5+((Z0-Z1)*Z6+(Z3-Z4)*Z7)) ((Z0-Z1)*(Z2+Z6)+(Z3-Z4)*(Z5+Z7)) (by kernel_rfl)⟩
 mul:=by
  rintro _ c ⟨a,b,ha,hb,rfl⟩
  exact⟨_,_,h.mul a c ha,h.mul b c hb,aI K (bA K [c,X,x,a,Y,y,b]) (Z0*((Z1-Z2)*Z3+(Z4-Z5)*Z6)) ((Z1-Z2)*(Z0*Z3)+(Z4-Z5)*(Z0*Z6)) (by kernel_rfl)⟩
theorem PV {b x y k:A} (hY:K.mul Y Y=K.add (K.mul X (K.mul X X)) b) (hy:K.mul y y=K.add (K.mul x (K.mul x x)) b) (hk:K.mul k (K.add y y)=K.one) (D:XH K) (hX:K.sub X x≠K.zero) {S:A→Prop} (h:Idl K S):Eqv K (op K X Y x y (op K X Y x (K.neg y) S)) S:=by
 refine⟨K.one,K.sub X x,D.1,hX,?_,?_⟩
 ·rintro _ ⟨_,_,⟨a,bb,ha,hb,rfl⟩,⟨c,d,hc,hd,rfl⟩,rfl⟩
  refine⟨(K.add (K.add (K.add (K.mul (K.sub X x) a) (K.mul (K.sub Y (K.neg y)) bb)) (K.mul (K.sub Y y) c)) (K.mul (K.add (K.add (K.mul X X) (K.mul x X)) (K.mul x x)) d)),h.add _ _ (h.add _ _ (h.add _ _ (h.mul _ _ ha) (h.mul _ _ hb)) (h.mul _ _ hc)) (h.mul _ _ hd),?_⟩;rw[K.one_mul];exact gP (K:=K) (c1:=d) (c2:=(K.neg d)) hY hy (aI K (bA K [X,x,a,Y,y,bb,c,d,b]) ((Z0-Z1)*((Z0-Z1)*Z2+(Z3-(-Z4))*Z5)+(Z3-Z4)*((Z0-Z1)*Z6+(Z3-(-Z4))*Z7)-(Z0-Z1)*((Z0-Z1)*Z2+(Z3-(-Z4))*Z5+(Z3-Z4)*Z6+(Z0*Z0+Z1*Z0+Z1*Z1)*Z7)) (Z7*(Z3*Z3-(Z0*(Z0*Z0)+Z8))+(-Z7)*(Z4*Z4-(Z1*(Z1*Z1)+Z8))) (by kernel_rfl))
 ·intro t ht;refine⟨_,⟨_,_,⟨_,_,h.mul t K.zero ht,h.mul t k ht,rfl⟩,⟨_,_,h.mul t (K.neg k) ht,h.mul t K.zero ht,rfl⟩,rfl⟩,?_⟩;rw[K.one_mul];exact eR (K:=K) (c1:=(K.mul (K.sub X x) t)) hk (aI K (bA K [X,x,t,Y,y,k]) ((Z0-Z1)*((Z0-Z1)*(RE.zero*Z2)+(Z3-(-Z4))*(Z5*Z2))+(Z3-Z4)*((Z0-Z1)*((-Z5)*Z2)+(Z3-(-Z4))*(RE.zero*Z2))-(Z0-Z1)*Z2) ((Z0-Z1)*Z2*(Z5*(Z4+Z4)-RE.one)) (by kernel_rfl))
theorem BB {b x1 y1 x2 l:A} (hY:K.mul Y Y=K.add (K.mul X (K.mul X X)) b) (H2:(K.mul l (K.add y1 (K.add y1 (K.mul l (K.sub x2 x1)))))=(K.add (K.add (K.mul x1 x1) (K.mul x1 x2)) (K.mul x2 x2))) (H3:(K.mul y1 y1)=(K.add (K.mul x1 (K.mul x1 x1)) b)):(K.mul (K.sub X x1) (K.mul (K.sub X x2) (K.sub X (K.sub (K.sub (K.mul l l) x1) x2))))=(K.mul (K.sub (K.sub Y y1) (K.mul l (K.sub X x1))) (K.add (K.sub Y (K.sub (K.mul l (K.sub x1 (K.sub (K.sub (K.mul l l) x1) x2))) y1)) (K.mul l (K.sub X (K.sub (K.sub (K.mul l l) x1) x2))))) :=
 lZ (K:=K) (c1:=(K.neg K.one)) (c2:=K.one) (c3:=(K.sub X x1)) hY H3 H2 (aI K (bA K [X,x1,x2,l,Y,y1,b]) ((Z0-Z1)*((Z0-Z2)*(Z0-(Z3*Z3-Z1-Z2)))-(Z4-Z5-Z3*(Z0-Z1))*(Z4-(Z3*(Z1-(Z3*Z3-Z1-Z2))-Z5)+Z3*(Z0-(Z3*Z3-Z1-Z2)))) ((-RE.one)*(Z4*Z4-(Z0*(Z0*Z0)+Z6))+RE.one*(Z5*Z5-(Z1*(Z1*Z1)+Z6))+(Z0-Z1)*(Z3*(Z5+(Z5+Z3*(Z2-Z1)))-(Z1*Z1+Z1*Z2+Z2*Z2))) (by kernel_rfl))
theorem PU {b x1 y1 x2 l:A} (hY:K.mul Y Y=K.add (K.mul X (K.mul X X)) b) (H2:(K.mul l (K.add y1 (K.add y1 (K.mul l (K.sub x2 x1)))))=(K.add (K.add (K.mul x1 x1) (K.mul x1 x2)) (K.mul x2 x2))) (H3:(K.mul y1 y1)=(K.add (K.mul x1 (K.mul x1 x1)) b)) (hk:(∃k,K.mul k (K.add y1 (K.add y1 (K.mul l (K.sub x2 x1))))=K.one)∨(∃k,K.mul k (K.sub x2 x1)=K.one)) (hX:K.sub X (K.sub (K.sub (K.mul l l) x1) x2)≠K.zero) (hl:(K.sub (K.sub Y y1) (K.mul l (K.sub X x1)))≠K.zero) {S:A→Prop} (h:Idl K S):Eqv K (op K X Y x1 y1 (op K X Y x2 (K.add y1 (K.mul l (K.sub x2 x1))) S)) (op K X Y (K.sub (K.sub (K.mul l l) x1) x2) (K.sub (K.mul l (K.sub x1 (K.sub (K.sub (K.mul l l) x1) x2))) y1) S):=by
 have HC:=BB (X:=X) (Y:=Y) hY H2 H3;refine⟨K.sub X (K.sub (K.sub (K.mul l l) x1) x2),(K.sub (K.sub Y y1) (K.mul l (K.sub X x1))),hX,hl,?_,?_⟩
 ·rintro _ ⟨_,_,⟨a,bb,ha,hb,rfl⟩,⟨c,d,hc,hd,rfl⟩,rfl⟩
  exact⟨_,⟨(K.add (K.add (K.add (K.mul l a) (K.mul (K.add (K.sub X x1) (K.mul l l)) bb)) (K.mul (K.add (K.sub X x2) (K.mul l l)) c)) (K.mul (K.add (K.add (K.add (K.sub (K.sub Y y1) (K.mul l (K.sub X x1))) (K.mul l (K.sub X x1))) (K.mul l (K.sub X x2))) (K.mul l (K.mul l l))) d)),(K.add (K.add (K.add a (K.mul l bb)) (K.mul l c)) (K.mul (K.mul l l) d)),h.add _ _ (h.add _ _ (h.add _ _ (h.mul _ _ ha) (h.mul _ _ hb)) (h.mul _ _ hc)) (h.mul _ _ hd),h.add _ _ (h.add _ _ (h.add _ _ ha (h.mul _ _ hb)) (h.mul _ _ hc)) (h.mul _ _ hd),rfl⟩,eR (K:=K) (c1:=(K.add (K.add (K.add a (K.mul l bb)) (K.mul l c)) (K.mul (K.mul l l) d))) HC (aI K (bA K [X,l,x1,x2,a,Y,y1,bb,c,d]) ((Z0-(Z1*Z1-Z2-Z3))*((Z0-Z2)*((Z0-Z3)*Z4+(Z5-(Z6+Z1*(Z3-Z2)))*Z7)+(Z5-Z6)*((Z0-Z3)*Z8+(Z5-(Z6+Z1*(Z3-Z2)))*Z9))-(Z5-Z6-Z1*(Z0-Z2))*((Z0-(Z1*Z1-Z2-Z3))*(Z1*Z4+(Z0-Z2+Z1*Z1)*Z7+(Z0-Z3+Z1*Z1)*Z8+(Z5-Z6-Z1*(Z0-Z2)+Z1*(Z0-Z2)+Z1*(Z0-Z3)+Z1*(Z1*Z1))*Z9)+(Z5-(Z1*(Z2-(Z1*Z1-Z2-Z3))-Z6))*(Z4+Z1*Z7+Z1*Z8+Z1*Z1*Z9))) ((Z4+Z1*Z7+Z1*Z8+Z1*Z1*Z9)*((Z0-Z2)*((Z0-Z3)*(Z0-(Z1*Z1-Z2-Z3)))-(Z5-Z6-Z1*(Z0-Z2))*(Z5-(Z1*(Z2-(Z1*Z1-Z2-Z3))-Z6)+Z1*(Z0-(Z1*Z1-Z2-Z3))))) (by kernel_rfl))⟩
 ·rintro _ ⟨u,w,hu,hw,rfl⟩
  have hg:S (K.sub u (K.mul l w)):=h.sub hu (h.mul _ _ hw);have e0:K.mul (K.sub (K.sub Y y1) (K.mul l (K.sub X x1))) (K.add (K.mul (K.sub X (K.sub (K.sub (K.mul l l) x1) x2)) u) (K.mul (K.sub Y (K.sub (K.mul l (K.sub x1 (K.sub (K.sub (K.mul l l) x1) x2))) y1)) w))=K.mul (K.sub X (K.sub (K.sub (K.mul l l) x1) x2)) (K.add (K.mul (K.sub (K.sub Y y1) (K.mul l (K.sub X x1))) (K.sub u (K.mul l w))) (K.mul (K.sub X x1) (K.mul (K.sub X x2) w))) :=
   eR (K:=K) (c1:=(K.neg w)) HC (aI K (bA K [Y,y1,l,X,x1,x2,u,w]) ((Z0-Z1-Z2*(Z3-Z4))*((Z3-(Z2*Z2-Z4-Z5))*Z6+(Z0-(Z2*(Z4-(Z2*Z2-Z4-Z5))-Z1))*Z7)-(Z3-(Z2*Z2-Z4-Z5))*((Z0-Z1-Z2*(Z3-Z4))*(Z6-Z2*Z7)+(Z3-Z4)*((Z3-Z5)*Z7))) ((-Z7)*((Z3-Z4)*((Z3-Z5)*(Z3-(Z2*Z2-Z4-Z5)))-(Z0-Z1-Z2*(Z3-Z4))*(Z0-(Z2*(Z4-(Z2*Z2-Z4-Z5))-Z1)+Z2*(Z3-(Z2*Z2-Z4-Z5))))) (by kernel_rfl))
  generalize hge:(K.sub u (K.mul l w))=g at hg e0;rw[e0]
  rcases hk with⟨k,hk⟩|⟨k,hk⟩
  ·refine⟨_,⟨_,_,⟨_,_,h.add _ _ (h.mul g (K.mul k (K.add (K.add X x1) x2)) hg) hw,h.mul g K.zero hg,rfl⟩,⟨_,_,h.mul g K.zero hg,h.mul g (K.neg k) hg,rfl⟩,rfl⟩,congrArg (K.mul _) ?_⟩;exact NZ (K:=K) (c1:=(K.mul (K.sub (K.sub Y y1) (K.mul l (K.sub X x1))) g)) (c2:=(K.neg (K.mul k g))) (c3:=(K.mul k g)) (c4:=(K.mul (K.mul k g) (K.sub X x1))) hk hY H3 H2 (aI K (bA K [X,x1,x2,k,g,w,Y,y1,l,b]) ((Z0-Z1)*((Z0-Z2)*(Z3*(Z0+Z1+Z2)*Z4+Z5)+(Z6-(Z7+Z8*(Z2-Z1)))*(RE.zero*Z4))+(Z6-Z7)*((Z0-Z2)*(RE.zero*Z4)+(Z6-(Z7+Z8*(Z2-Z1)))*((-Z3)*Z4))-((Z6-Z7-Z8*(Z0-Z1))*Z4+(Z0-Z1)*((Z0-Z2)*Z5))) ((Z6-Z7-Z8*(Z0-Z1))*Z4*(Z3*(Z7+(Z7+Z8*(Z2-Z1)))-RE.one)+(-(Z3*Z4))*(Z6*Z6-(Z0*(Z0*Z0)+Z9))+Z3*Z4*(Z7*Z7-(Z1*(Z1*Z1)+Z9))+Z3*Z4*(Z0-Z1)*(Z8*(Z7+(Z7+Z8*(Z2-Z1)))-(Z1*Z1+Z1*Z2+Z2*Z2))) (by kernel_rfl))
  ·refine⟨_,⟨_,_,⟨_,_,hw,h.mul g k hg,rfl⟩,⟨_,_,h.mul g (K.neg k) hg,h.mul g K.zero hg,rfl⟩,rfl⟩,congrArg (K.mul _) ?_⟩;exact eR (K:=K) (c1:=(K.mul (K.sub (K.sub Y y1) (K.mul l (K.sub X x1))) g)) hk (aI K (bA K [X,x1,x2,w,Y,y1,l,k,g]) ((Z0-Z1)*((Z0-Z2)*Z3+(Z4-(Z5+Z6*(Z2-Z1)))*(Z7*Z8))+(Z4-Z5)*((Z0-Z2)*((-Z7)*Z8)+(Z4-(Z5+Z6*(Z2-Z1)))*(RE.zero*Z8))-((Z4-Z5-Z6*(Z0-Z1))*Z8+(Z0-Z1)*((Z0-Z2)*Z3))) ((Z4-Z5-Z6*(Z0-Z1))*Z8*(Z7*(Z2-Z1)-RE.one)) (by kernel_rfl))
end
open Classical
section
variable {R:Type} {K:CR R} {inv:R→R}
def cK (K:CR R) (b:R):CR (Pol K×Pol K):=(aO (K:=K)).sq (qP b)
def cX:Pol K×Pol K:=(pX,aO.zero)
def cY:Pol K×Pol K:=(aO.zero,aO.one)
def cc (k:R):Pol K×Pol K:=(eP k,aO.zero)
variable (b:R)
theorem iG (x y:R):(cc (K.add x y):Pol K×Pol K)=(cK K b).add (cc x) (cc y):=Prod.ext (yS x y) (aO.zero_add _).symm
theorem IF (x:R):(cc (K.neg x):Pol K×Pol K)=(cK K b).neg (cc x):=Prod.ext (KP x) (bW aO).symm
theorem oK (x y:R):(cc (K.sub x y):Pol K×Pol K)=(cK K b).sub (cc x) (cc y):=by
 show cc (K.add _ _)=(cK K b).add _ _;rw[iG b,IF b]
theorem gL (x y:R):(cc (K.mul x y):Pol K×Pol K)=(cK K b).mul (cc x) (cc y):=by
 refine Prod.ext ?_ ?_
 ·show eP (K.mul x y)=aO.add (aO.mul (eP x) (eP y)) (aO.mul (qP b) (aO.mul aO.zero aO.zero));rw[aO.mul_zero,aO.mul_zero,aO.add_zero,mO]
 ·show aO.zero=aO.add (aO.mul (eP x) aO.zero) (aO.mul aO.zero (eP y));rw[aO.mul_zero,aO.zero_mul,aO.add_zero]
theorem IE:(cc K.one:Pol K×Pol K)=(cK K b).one:=rfl
theorem WJ:(cK K b).mul cY cY=(cK K b).add ((cK K b).mul cX ((cK K b).mul cX cX)) (cc b):=by
 refine Prod.ext ?_ ?_
 ·show aO.add (aO.mul aO.zero aO.zero) (aO.mul (qP b) (aO.mul aO.one aO.one))=aO.add (aO.add (aO.mul pX (aO.add (aO.mul pX pX) (aO.mul (qP b) (aO.mul aO.zero aO.zero)))) (aO.mul (qP b) (aO.mul aO.zero (aO.add (aO.mul pX aO.zero) (aO.mul aO.zero pX))))) (eP b);simp only[aO.mul_zero,aO.zero_mul,aO.add_zero,aO.zero_add,aO.mul_one];rfl
 ·show aO.add (aO.mul aO.zero aO.one) (aO.mul aO.one aO.zero)=aO.add (aO.add (aO.mul pX (aO.add (aO.mul pX aO.zero) (aO.mul aO.zero pX))) (aO.mul aO.zero (aO.add (aO.mul pX pX) (aO.mul (qP b) (aO.mul aO.zero aO.zero))))) aO.zero;simp only[aO.mul_zero,aO.zero_mul,aO.add_zero,aO.zero_add,aO.mul_one]
def nrm (f:Pol K×Pol K):Pol K:=aO.sub (aO.mul f.1 f.1) (aO.mul (qP b) (aO.mul f.2 f.2))
theorem yX (f g:Pol K×Pol K):nrm b ((cK K b).mul f g)=aO.mul (nrm b f) (nrm b g) :=
 aI aO (bA aO [f.1,g.1,qP b,f.2,g.2]) ((Z0*Z1+Z2*(Z3*Z4))*(Z0*Z1+Z2*(Z3*Z4))-Z2*((Z0*Z4+Z3*Z1)*(Z0*Z4+Z3*Z1))) ((Z0*Z0-Z2*(Z3*Z3))*(Z1*Z1-Z2*(Z4*Z4))) (by kernel_rfl)
theorem rA (F:FD K inv) (f:Pol K×Pol K) (h:f≠(cK K b).zero):∃d,dg (nrm b f) d∧d≠1:=by
 have hq:dg (qP b:Pol K) 3:=WC F b
 by_cases h2:f.2=aO.zero
 ·have h1:f.1≠aO.zero:=fun e=>h (Prod.ext e h2)
  obtain⟨n,hn⟩:=zK _ h1;refine⟨n+n,?_,by omega⟩;unfold nrm;rw[h2,aO.mul_zero,aO.mul_zero];show dg (aO.add _ (aO.neg aO.zero)) _;rw[bW,aO.add_zero];exact fS F hn hn
 ·obtain⟨m,hm⟩:=zK _ h2;have hr:=fS F hq (fS F hm hm)
  by_cases h1:f.1=aO.zero
  ·refine⟨3+(m+m),?_,by omega⟩;unfold nrm;rw[h1,aO.mul_zero];show dg (aO.add _ _) _;rw[aO.zero_add];exact GZ hr
  ·obtain⟨n,hn⟩:=zK _ h1;have hl:=fS F hn hn;have hr':=GZ hr
   rcases Nat.lt_or_ge (n+n) (3+(m+m))with q|q
   ·refine⟨3+(m+m),?_,by omega⟩;show dg (aO.add _ _) _;rw[aO.add_comm];exact oH hr' fun i hi=>hl.2 i (by omega)
   ·refine⟨n+n,?_,by omega⟩;exact oH hl fun i hi=>hr'.2 i (by omega)
theorem gJ (F:FD K inv):XH (cK K b):=by
 refine⟨fun e=>F.ne (congrArg (fun z:Pol K×Pol K=>z.1.1 0) e),fun f g hf hg e => ?_⟩;obtain⟨n,hn,_⟩:=rA b F f hf;obtain⟨m,hm,_⟩:=rA b F g hg;have h:=HH (fS F hn hm);rw[←yX,e]at h;refine h ?_;show aO.sub (aO.mul aO.zero aO.zero) (aO.mul (qP b) (aO.mul aO.zero aO.zero))=_;rw[aO.mul_zero,aO.mul_zero];exact aO.add_neg _
theorem xC {A:Type} {C:CR A} (D:XH C) {a s t:A} (ha:a≠C.zero) (e:C.mul a s=C.mul a t):s=t:=by
 apply eV (K:=C)
 by_cases h:C.add s (C.neg t)=C.zero
 ·exact h
 ·exact absurd (by rw[C.mul_add,C.mul_neg,e,C.add_neg]) (D.2 _ _ ha h)
def sE {A:Type}:A→Prop:=fun _=>True
theorem fW {A:Type} (C:CR A):Idl C sE:=⟨fun _ _ _ _=>trivial,fun _ _ _=>trivial⟩
theorem uN (f:Pol K×Pol K):(cK K b).mul f (f.1,aO.neg f.2)=(nrm b f,aO.zero):=by
 refine Prod.ext ?_ ?_
 ·exact aI aO (bA aO [f.1,qP b,f.2]) (Z0*Z0+Z1*(Z2*(-Z2))) (Z0*Z0-Z1*(Z2*Z2)) (by kernel_rfl)
 ·exact aI aO (bA aO [f.1,f.2]) (Z0*(-Z1)+Z1*Z0) .zero (by kernel_rfl)
theorem EF {x y:R} (h:K.mul y y=K.add (K.mul x (K.mul x x)) b):(qP b:Pol K)=aO.add (aO.mul (eP y) (eP y)) (aO.mul (aO.sub pX (eP x)) (aO.add (aO.mul pX pX) (aO.add (aO.mul (eP x) pX) (aO.mul (eP x) (eP x))))):=by
 have e:aO.mul (eP y) (eP y)=aO.add (aO.mul (eP x) (aO.mul (eP x) (eP x))) (eP b:Pol K):=by
  rw[←mO,←mO,←mO,←yS,h]
 rw[e];exact aI aO (bA aO [pX,eP b,eP x]) (Z0*(Z0*Z0)+Z1) (Z2*(Z2*Z2)+Z1+(Z0-Z2)*(Z0*Z0+(Z2*Z0+Z2*Z2))) (by kernel_rfl)
theorem UJ (F:FD K inv) {x y:R} (h:K.mul y y=K.add (K.mul x (K.mul x x)) b):¬Eqv (cK K b) (op (cK K b) cX cY (cc x) (cc y) sE) sE:=by
 rintro⟨a,e,ha,he,h1,h2⟩
 have D:=gJ (K:=K) b F;obtain⟨f,hf,e1⟩:=h2 (cK K b).one trivial;rw[(cK K b).mul_one]at e1;have hm:∀g,op (cK K b) cX cY (cc x) (cc y) sE g→∃t,g=(cK K b).mul f t:=fun g hg=>by
  obtain⟨t,_,e2⟩:=h1 g hg;rw[←e1,(cK K b).mul_assoc]at e2;exact⟨t,xC D ha e2⟩
 have sz:∀z:Pol K×Pol K,(cK K b).sub z (cK K b).zero=z:=fun z=>by
  show (cK K b).add z ((cK K b).neg _)=z;rw[bW,(cK K b).add_zero]
 obtain⟨t,ht⟩:=hm ((cK K b).sub cX (cc x)) ⟨(cK K b).one,(cK K b).zero,trivial,trivial,by rw[(cK K b).mul_one,(cK K b).mul_zero,(cK K b).add_zero]⟩;obtain⟨t',ht'⟩:=hm ((cK K b).sub cY (cc y)) ⟨(cK K b).zero,(cK K b).one,trivial,trivial,by rw[(cK K b).mul_one,(cK K b).mul_zero,(cK K b).zero_add]⟩;have hX:(cK K b).sub cX (cc x)=(aO.sub pX (eP x),aO.zero):=Prod.ext rfl (by show aO.add aO.zero (aO.neg aO.zero)=_; rw[bW,aO.add_zero]);have hXn:(cK K b).sub cX (cc x)≠(cK K b).zero:=fun q=>HH (oG (K:=K) F x) (congrArg Prod.fst q)
 have hf0:f≠(cK K b).zero:=fun q=>hXn (by rw[ht,q,(cK K b).zero_mul])
 have ht0:t≠(cK K b).zero:=fun q=>hXn (by rw[ht,q,(cK K b).mul_zero])
 obtain⟨n,hn,n1⟩:=rA b F f hf0;obtain⟨m,hm',m1⟩:=rA b F t ht0;have hnm:n+m=2:=by
  have e3:=fS F hn hm';rw[←yX,←ht,hX]at e3;have e4:nrm b (aO.sub pX (eP x),aO.zero)=aO.mul (aO.sub pX (eP x)) (aO.sub (pX:Pol K) (eP x)):=by
   show aO.add (aO.mul _ _) (aO.neg (aO.mul _ (aO.mul aO.zero aO.zero)))=_;rw[aO.mul_zero,aO.mul_zero,bW,aO.add_zero]
  rw[e4]at e3;exact RL e3 (fS F (oG F x) (oG F x))
 have hc:∀p:Pol K,dg p 0→p=eP (p.1 0):=fun p hp=>Pol.ext fun i=>by
  cases i with
  | zero=>rfl
  | succ i=>exact hp.2 _ (by omega)
 have h02:n=0∨m=0:=by omega
 rcases h02 with q0|q0
 ·subst q0;obtain⟨s,r,_,_,e5⟩:=(ET (fW (cK K b)) (cc x) (cc y)).mul f (f.1,aO.neg f.2) hf;rw[(cK K b).mul_comm,uN,hX]at e5;have c1:nrm b f=aO.add (aO.add (aO.mul (aO.sub pX (eP x)) s.1) (aO.mul (qP b) (aO.mul aO.zero s.2))) (aO.add (aO.mul (aO.add aO.zero (aO.neg (eP y))) r.1) (aO.mul (qP b) (aO.mul (aO.add aO.one (aO.neg aO.zero)) r.2))):=congrArg Prod.fst e5;have c2:aO.zero=aO.add (aO.add (aO.mul (aO.sub pX (eP x)) s.2) (aO.mul aO.zero s.1)) (aO.add (aO.mul (aO.add aO.zero (aO.neg (eP y))) r.2) (aO.mul (aO.add aO.one (aO.neg aO.zero)) r.1)):=congrArg Prod.snd e5;have hs:=EF b h;refine hn.1 (pO F (c:=x) (h:=(aO.add s.1 (aO.add (aO.mul (aO.add (aO.mul pX pX) (aO.add (aO.mul (eP x) pX) (aO.mul (eP x) (eP x)))) r.2) (aO.mul (eP y) s.2)))) ?_);rw[←hc _ hn,c1];refine Eq.symm ?_;exact gP (K:=aO) (c1:=(eP y)) (c2:=r.2) c2 hs (aI aO (bA aO [pX,eP x,s.1,qP b,s.2,eP y,r.1,r.2]) ((Z0-Z1)*Z2+Z3*(RE.zero*Z4)+((RE.zero-Z5)*Z6+Z3*((RE.one-RE.zero)*Z7))-(Z0-Z1)*(Z2+((Z0*Z0+(Z1*Z0+Z1*Z1))*Z7+Z5*Z4))) (Z5*(RE.zero-((Z0-Z1)*Z4+RE.zero*Z2+((RE.zero-Z5)*Z7+(RE.one-RE.zero)*Z6)))+Z7*(Z3-(Z5*Z5+(Z0-Z1)*(Z0*Z0+(Z1*Z0+Z1*Z1))))) (by kernel_rfl))
 ·subst q0;have e6:(cK K b).mul ((cK K b).sub cX (cc x)) ((cK K b).mul t' (t.1,aO.neg t.2))=(cK K b).mul ((cK K b).sub cY (cc y)) (nrm b t,aO.zero):=by
   rw[←uN,ht,ht'];generalize ((t.1,aO.neg t.2):Pol K×Pol K)=w;exact aI (cK K b) (bA (cK K b) [f,t,t',w]) (Z0*Z1*(Z2*Z3)) (Z0*Z2*(Z1*Z3)) (by kernel_rfl)
  rw[hX]at e6;generalize (cK K b).mul t' (t.1,aO.neg t.2)=w at e6;have c2:aO.add (aO.mul (aO.sub pX (eP x)) w.2) (aO.mul aO.zero w.1)=aO.add (aO.mul (aO.add aO.zero (aO.neg (eP y))) aO.zero) (aO.mul (aO.add aO.one (aO.neg aO.zero)) (nrm b t)):=congrArg Prod.snd e6;rw[aO.zero_mul,aO.add_zero,aO.mul_zero,aO.zero_add,bW,aO.add_zero,aO.one_mul,hc _ hm']at c2;exact hm'.1 (pO F c2)
end
structure EC {R:Type} (K:CR R) (inv:R→R) (b:R):Prop where
 F:FD K inv
 two:K.add K.one K.one≠K.zero
 odd:∀x,K.add (K.mul x (K.mul x x)) b≠K.zero
section
variable {R:Type} (K:CR R) (inv:R→R) (b:R)
abbrev Pt (R:Type):=Option (R×R)
def On:Pt R→Prop
 | none=>True
 | some p=>K.mul p.2 p.2=K.add (K.mul p.1 (K.mul p.1 p.1)) b
def NI:Pt R→Pt R
 | none=>none
 | some p=>some (p.1,K.neg p.2)
def jR (x1 y1 x2 y2:R):R :=
 if x1=x2 then K.mul (K.add (K.add (K.mul x1 x1) (K.mul x1 x1)) (K.mul x1 x1)) (inv (K.add y1 y2))else K.mul (K.sub y2 y1) (inv (K.sub x2 x1))
def sx (l x1 x2:R):R:=K.sub (K.sub (K.mul l l) x1) x2
def sy (l x1 y1 x2:R):R:=K.sub (K.mul l (K.sub x1 (sx K l x1 x2))) y1
def vA:Pt R→Pt R→Pt R
 | none,q=>q
 | some p,none=>some p
 | some p,some q =>
  if p.1=q.1∧K.add p.2 q.2=K.zero then none
  else some (sx K (jR K inv p.1 p.2 q.1 q.2) p.1 q.1,sy K (jR K inv p.1 p.2 q.1 q.2) p.1 p.2 q.1)
variable {K} {inv} {b}
theorem yN {p q:R×R} (h:p.1=q.1∧K.add p.2 q.2=K.zero):vA K inv (some p) (some q)=none:=if_pos h
theorem mN {p q:R×R} (h:¬(p.1=q.1∧K.add p.2 q.2=K.zero)):vA K inv (some p) (some q)=some (sx K (jR K inv p.1 p.2 q.1 q.2) p.1 q.1,sy K (jR K inv p.1 p.2 q.1 q.2) p.1 p.2 q.1):=if_neg h
theorem gT {x y:R} (h:K.sub x y=K.zero):x=y:=eV h
theorem OQ {x y:R} (h:x≠y):K.sub x y≠K.zero:=fun e=>h (gT e)
theorem EC.dbl_ne (E:EC K inv b) {y:R} (h:y≠K.zero):K.add y y≠K.zero:=fun e=>by
 refine E.F.mul_ne E.two h ?_;rw[K.add_mul,K.one_mul,e]
theorem EC.y_ne (E:EC K inv b) {x y:R} (h:K.mul y y=K.add (K.mul x (K.mul x x)) b):y≠K.zero:=fun e=>by
 rw[e,K.mul_zero]at h;exact E.odd x h.symm
structure Slope (K:CR R) (x1 y1 x2 y2 l:R):Prop where
 h1:y2=K.add y1 (K.mul l (K.sub x2 x1))
 h2:K.mul l (K.add y1 y2)=K.add (K.add (K.mul x1 x1) (K.mul x1 x2)) (K.mul x2 x2)
 hk:(∃k,K.mul k (K.add y1 y2)=K.one)∨(∃k,K.mul k (K.sub x2 x1)=K.one)
theorem sI (E:EC K inv b) {x1 y1 x2 y2:R} (hp:K.mul y1 y1=K.add (K.mul x1 (K.mul x1 x1)) b) (hq:K.mul y2 y2=K.add (K.mul x2 (K.mul x2 x2)) b) (hn:¬(x1=x2∧K.add y1 y2=K.zero)):Slope K x1 y1 x2 y2 (jR K inv x1 y1 x2 y2):=by
 unfold jR
 by_cases hx:x1=x2
 ·subst hx;rw[if_pos rfl];have hy:K.add y1 y2≠K.zero:=fun e=>hn ⟨rfl,e⟩
  have hi:=E.F.inv _ hy;have e:y1=y2:=by
   refine gT (K:=K) (E.F.zd (a:=K.add y1 y2) ?_ hy);have e0:K.mul (K.add y1 y2) (K.sub y1 y2)=K.sub (K.mul y1 y1) (K.mul y2 y2):=aI K (bA K [y1,y2]) ((Z0+Z1)*(Z0-Z1)) (Z0*Z0-Z1*Z1) (by kernel_rfl);rw[e0,hp,hq];exact K.add_neg _
  subst e;generalize inv (K.add y1 y1)=k at hi;refine⟨aI K (bA K [y1,x1,k]) (.v 0) (Z0+(Z1*Z1+Z1*Z1+Z1*Z1)*Z2*(Z1-Z1)) (by kernel_rfl),eR (K:=K) (c1:=(K.add (K.add (K.mul x1 x1) (K.mul x1 x1)) (K.mul x1 x1))) hi (aI K (bA K [x1,k,y1]) ((Z0*Z0+Z0*Z0+Z0*Z0)*Z1*(Z2+Z2)-(Z0*Z0+Z0*Z0+Z0*Z0)) ((Z0*Z0+Z0*Z0+Z0*Z0)*((Z2+Z2)*Z1-RE.one)) (by kernel_rfl)),Or.inl ⟨k,by rw[K.mul_comm,hi]⟩⟩
 ·rw[if_neg hx];have hd:K.sub x2 x1≠K.zero:=OQ fun e=>hx e.symm
  have hi:=E.F.inv _ hd;generalize inv (K.sub x2 x1)=k at hi;refine⟨eR (K:=K) (c1:=(K.neg (K.sub y2 y1))) hi (aI K (bA K [y2,y1,k,x2,x1]) (Z0-(Z1+(Z0-Z1)*Z2*(Z3-Z4))) ((-(Z0-Z1))*((Z3-Z4)*Z2-RE.one)) (by kernel_rfl)),?_,Or.inr ⟨k,by rw[K.mul_comm,hi]⟩⟩;refine E.F.cancel hd ?_;exact lZ (K:=K) (c1:=(K.mul (K.sub y2 y1) (K.add y1 y2))) (c2:=(K.neg K.one)) (c3:=K.one) hi hp hq (aI K (bA K [x2,x1,y2,y1,k,b]) ((Z0-Z1)*((Z2-Z3)*Z4*(Z3+Z2))-(Z0-Z1)*(Z1*Z1+Z1*Z0+Z0*Z0)) ((Z2-Z3)*(Z3+Z2)*((Z0-Z1)*Z4-RE.one)+(-RE.one)*(Z3*Z3-(Z1*(Z1*Z1)+Z5))+RE.one*(Z2*Z2-(Z0*(Z0*Z0)+Z5))) (by kernel_rfl))
theorem On.sum {x1 y1 x2 y2 l:R} (hp:K.mul y1 y1=K.add (K.mul x1 (K.mul x1 x1)) b) (h:Slope K x1 y1 x2 y2 l):On K b (some (sx K l x1 x2,sy K l x1 y1 x2)):=by
 obtain⟨h1,h2,_⟩:=h;subst h1;show K.mul (K.sub (K.mul l (K.sub x1 (K.sub (K.sub (K.mul l l) x1) x2))) y1) (K.sub (K.mul l (K.sub x1 (K.sub (K.sub (K.mul l l) x1) x2))) y1)=K.add (K.mul (K.sub (K.sub (K.mul l l) x1) x2) (K.mul (K.sub (K.sub (K.mul l l) x1) x2) (K.sub (K.sub (K.mul l l) x1) x2))) b;exact gP (K:=K) (c1:=K.one) (c2:=(K.sub (K.sub (K.sub (K.mul l l) x1) x2) x1)) hp h2 (aI K (bA K [l,x1,x2,y1,b]) ((Z0*(Z1-(Z0*Z0-Z1-Z2))-Z3)*(Z0*(Z1-(Z0*Z0-Z1-Z2))-Z3)-((Z0*Z0-Z1-Z2)*((Z0*Z0-Z1-Z2)*(Z0*Z0-Z1-Z2))+Z4)) (RE.one*(Z3*Z3-(Z1*(Z1*Z1)+Z4))+(Z0*Z0-Z1-Z2-Z1)*(Z0*(Z3+(Z3+Z0*(Z2-Z1)))-(Z1*Z1+Z1*Z2+Z2*Z2))) (by kernel_rfl))
theorem On.neg:∀{p:Pt R},On K b p→On K b (NI K p)
 | none,_=>trivial
 | some p,h=>by
  show K.mul (K.neg p.2) (K.neg p.2)=_;rw[K.neg_mul,K.mul_neg,K.neg_neg];exact h
theorem On.add (E:EC K inv b):∀{p q:Pt R},On K b p→On K b q→On K b (vA K inv p q)
 | none,_,_,h=>h
 | some _,none,h,_=>h
 | some p,some q,hp,hq=>by
  by_cases hn:p.1=q.1∧K.add p.2 q.2=K.zero
  ·rw[yN hn]; trivial
  ·rw[mN hn];exact On.sum hp (sI E hp hq hn)
def AW (K:CR R) (b:R) (p:Pt R) (S:Pol K×Pol K→Prop):Pol K×Pol K→Prop :=
 match p with
 | none=>S
 | some p=>op (cK K b) cX cY (cc p.1) (cc p.2) S
theorem EU (p q:Pt R) (S:Pol K×Pol K→Prop):AW K b p (AW K b q S)=AW K b q (AW K b p S):=by
 cases p with
 | none=>rfl
 | some p=>cases q with
  | none=>rfl
  | some q=>exact KQ _ _ _ _
theorem KS {S:Pol K×Pol K→Prop} (h:Idl (cK K b) S) (p:Pt R):Idl (cK K b) (AW K b p S):=by
 cases p with
 | none=>exact h
 | some p=>exact ET h _ _
theorem yU {S T:Pol K×Pol K→Prop} (h:Eqv (cK K b) S T) (p:Pt R):Eqv (cK K b) (AW K b p S) (AW K b p T):=by
 cases p with
 | none=>exact h
 | some p=>exact h.op _ _
theorem WX (F:FD K inv) (c:R):(cK K b).sub cX (cc c)≠(cK K b).zero:=fun q=>HH (oG (K:=K) F c) (congrArg Prod.fst q)
theorem RI (F:FD K inv) (x1 y1 l:R):(cK K b).sub ((cK K b).sub cY (cc y1)) ((cK K b).mul (cc l) ((cK K b).sub cX (cc x1)))≠(cK K b).zero:=fun q=>by
 have e:K.add (K.add K.one (K.neg K.zero)) (K.neg (K.add (K.mul l (K.add K.zero (K.neg K.zero))) (K.mul K.zero (K.add K.zero (K.neg x1)))))=K.zero:=congrArg (fun z:Pol K×Pol K=>z.2.1 0) q;rw[bW,K.add_zero,K.add_zero,K.mul_zero,K.zero_mul,K.add_zero,bW,K.add_zero]at e;exact F.ne e
theorem fO (E:EC K inv b) {S:Pol K×Pol K→Prop} (hS:Idl (cK K b) S):∀{p q:Pt R},On K b p→On K b q→Eqv (cK K b) (AW K b p (AW K b q S)) (AW K b (vA K inv p q) S)
 | none,_,_,_=>Eqv.refl (gJ b E.F) _
 | some _,none,_,_=>Eqv.refl (gJ b E.F) _
 | some ⟨x1,y1⟩,some ⟨x2,y2⟩,hp,hq=>by
  by_cases hn:x1=x2∧K.add y1 y2=K.zero
  ·rw[yN hn];obtain⟨rfl,hy⟩:=hn;have e:y2=K.neg y1:=by
    apply K.add_cancel (a:=y1);rw[hy,K.add_neg]
   subst e;show Eqv (cK K b) (op (cK K b) cX cY (cc x1) (cc y1) (op (cK K b) cX cY (cc x1) (cc (K.neg y1)) S)) S;have h0:=E.F.inv _ (E.dbl_ne (E.y_ne hp));rw[IF b];refine PV (b:=cc b) (k:=cc (inv (K.add y1 y1))) (WJ b) ?_ ?_ (gJ b E.F) (WX E.F x1) hS
   ·rw[←gL,←gL,←gL,←iG];exact congrArg cc hp
   ·rw[←iG,←gL,K.mul_comm,h0];rfl
  ·rw[mN hn];have h:=sI E hp hq hn;dsimp only at h ⊢;generalize jR K inv x1 y1 x2 y2=l at h;obtain⟨h1,h2,hk⟩:=h;subst h1;show Eqv (cK K b) (op (cK K b) cX cY (cc x1) (cc y1) (op (cK K b) cX cY (cc x2) (cc (K.add y1 (K.mul l (K.sub x2 x1)))) S)) (op (cK K b) cX cY (cc (sx K l x1 x2)) (cc (sy K l x1 y1 x2)) S);unfold sy sx;have hX:=WX (K:=K) (b:=b) E.F (sx K l x1 x2);have hl:=RI (K:=K) (b:=b) E.F x1 y1 l;unfold sx at hX;simp only[iG b,gL b,oK b]at hX ⊢;refine PU (b:=cc b) (WJ b) ?_ ?_ ?_ hX hl hS
   ·have:=congrArg (cc (K:=K)) h2;simpa only[iG b,gL b,oK b]using this
   ·have:=congrArg (cc (K:=K)) hp;simpa only[iG b,gL b,oK b]using this
   ·rcases hk with⟨k,hk⟩|⟨k,hk⟩
    ·refine Or.inl ⟨cc k,?_⟩;have:=congrArg (cc (K:=K)) hk;simpa only[iG b,gL b,oK b,IE b]using this
    ·refine Or.inr ⟨cc k,?_⟩;have:=congrArg (cc (K:=K)) hk;simpa only[iG b,gL b,oK b,IE b]using this
theorem yO (p:Pt R):vA K inv (NI K p) p=none:=by
 cases p with
 | none=>rfl
 | some p=>exact if_pos ⟨rfl,K.neg_add _⟩
theorem EG {p q:Pt R} (h:vA K inv (NI K p) q=none):q=p:=by
 cases p with
 | none=>exact h
 | some p=>cases q with
  | none=>cases h
  | some q =>
   by_cases hh:p.1=q.1∧K.add (K.neg p.2) q.2=K.zero
   ·obtain⟨h1,h2⟩:=hh;refine congrArg some (Prod.ext h1.symm ?_);apply K.add_cancel (a:=K.neg p.2);exact h2.trans (K.neg_add p.2).symm
   ·have e:vA K inv (NI K (some p)) (some q)=some _:=mN (p:=(p.1,K.neg p.2)) (q:=q) hh;rw[e]at h;cases h
theorem PW (E:EC K inv b) {p:Pt R} (hp:On K b p) (h:Eqv (cK K b) (AW K b p sE) sE):p=none:=by
 cases p with
 | none=>rfl
 | some p=>exact absurd h (UJ b E.F hp)
theorem yT (E:EC K inv b) {p q:Pt R} (hp:On K b p) (hq:On K b q) (h:Eqv (cK K b) (AW K b p sE) (AW K b q sE)):p=q:=by
 have D:=gJ (K:=K) b E.F;have h1:=yU h (NI K q);have a1:=fO E (fW (cK K b)) hq.neg hp;have a2:=fO E (fW (cK K b)) hq.neg hq;rw[yO]at a2;exact EG (PW E (hq.neg.add E hp) (a1.symm.trans D (h1.trans D a2)))
theorem EH (E:EC K inv b) {p q:Pt R} (hp:On K b p) (hq:On K b q):vA K inv p q=vA K inv q p:=by
 have D:=gJ (K:=K) b E.F;refine yT E (hp.add E hq) (hq.add E hp) ?_;refine (fO E (fW (cK K b)) hp hq).symm.trans D ?_;rw[EU];exact fO E (fW (cK K b)) hq hp
theorem AP (E:EC K inv b) {p q r:Pt R} (hp:On K b p) (hq:On K b q) (hr:On K b r):vA K inv (vA K inv p q) r=vA K inv p (vA K inv q r):=by
 have D:=gJ (K:=K) b E.F;have hu:=fW (cK K b);refine yT E ((hp.add E hq).add E hr) (hp.add E (hq.add E hr)) ?_;refine (fO E hu (hp.add E hq) hr).symm.trans D ?_;refine (fO E (KS hu r) hp hq).symm.trans D ?_;refine (yU (fO E hu hq hr) p).trans D ?_;exact fO E hu hp (hq.add E hr)
end
structure AG (G:Type) where
 add:G→G→G
 neg:G→G
 zero:G
 assoc:∀a b c,add (add a b) c=add a (add b c)
 comm:∀a b,add a b=add b a
 zadd:∀a,add zero a=a
 nadd:∀a,add (neg a) a=zero
def EC.grp {R:Type} {K:CR R} {inv:R→R} {b:R} (E:EC K inv b):AG {p:Pt R // On K b p} where
 add p q:=⟨vA K inv p.1 q.1,p.2.add E q.2⟩
 neg p:=⟨NI K p.1,p.2.neg⟩
 zero:=⟨none,trivial⟩
 assoc p q r:=Subtype.ext (AP E p.2 q.2 r.2)
 comm p q:=Subtype.ext (EH E p.2 q.2)
 zadd p:=rfl
 nadd p:=Subtype.ext (yO p.1)
def Ax:RE:=(Z0*Z0*Z1*Z1*Z2*Z2*Z2*Z2*Z3*Z3*Z3*Z3*Z7*Z7*Z7+Z0*Z0*Z2*Z2*Z2*Z2*Z3*Z3*Z3*Z3*Z6*Z7*Z7-Z0*Z0*Z2*Z2*Z2*Z2*Z3*Z3*Z6*Z6*Z7-Z0*Z0*Z2*Z2*Z3*Z3*Z3*Z3*Z6*Z7+Z1*Z1*Z2*Z2*Z2*Z2*Z3*Z3*Z3*Z3*Z7*Z7-Z1*Z1*Z2*Z2*Z2*Z2*Z3*Z3*Z6*Z7-Z1*Z1*Z2*Z2*Z3*Z3*Z3*Z3*Z7+(RE.one+RE.one)*Z2*Z2*Z2*Z2*Z3*Z3*Z3*Z3*Z6*Z7-Z2*Z2*Z2*Z2*Z3*Z3*Z3*Z3*Z7*Z7-(RE.one+RE.one)*Z2*Z2*Z2*Z2*Z3*Z3*Z6*Z6+Z2*Z2*Z2*Z2*Z6*Z6-(RE.one+RE.one)*Z2*Z2*Z3*Z3*Z3*Z3*Z6+(RE.one+RE.one+RE.one+RE.one)*Z2*Z2*Z3*Z3*Z6-(RE.one+RE.one)*Z2*Z2*Z3*Z3*Z7+Z3*Z3*Z3*Z3)
def Aw:RE:=(Z0*Z0*Z0*Z0*Z2*Z2*Z3*Z3*Z6*Z6*Z7+(RE.one+RE.one)*Z0*Z0*Z2*Z2*Z3*Z3*Z6*Z6-(RE.one+RE.one)*Z0*Z0*Z2*Z2*Z3*Z3*Z6*Z7-Z0*Z0*Z2*Z2*Z6*Z6-Z0*Z0*Z3*Z3*Z6+Z1*Z1*Z1*Z1*Z2*Z2*Z3*Z3*Z7+(RE.one+RE.one)*Z1*Z1*Z2*Z2*Z3*Z3*Z6-(RE.one+RE.one)*Z1*Z1*Z2*Z2*Z3*Z3*Z7-Z1*Z1*Z2*Z2*Z6-Z1*Z1*Z3*Z3-(RE.one+RE.one)*Z2*Z2*Z3*Z3*Z6+Z2*Z2*Z3*Z3*Z7+Z2*Z2*Z6+Z3*Z3+RE.one)
def Au:RE:=(Z0*Z2*Z2*Z2*Z2*Z3*Z3*Z3*Z4*Z4*Z5*Z6*Z7*Z7-Z0*Z2*Z2*Z2*Z2*Z3*Z4*Z4*Z5*Z6*Z6*Z7-Z0*Z2*Z2*Z2*Z3*Z3*Z3*Z3*Z4*Z5*Z5*Z7*Z7-Z0*Z2*Z2*Z2*Z3*Z3*Z4*Z4*Z4*Z6*Z6*Z7+Z0*Z2*Z2*Z2*Z3*Z3*Z4*Z6*Z7+Z0*Z2*Z2*Z3*Z3*Z3*Z5*Z5*Z5*Z7-Z0*Z2*Z2*Z3*Z3*Z3*Z5*Z7+Z0*Z2*Z3*Z3*Z3*Z3*Z4*Z5*Z5*Z7+Z1*Z2*Z2*Z2*Z2*Z3*Z3*Z3*Z4*Z5*Z5*Z7*Z7-Z1*Z2*Z2*Z2*Z2*Z3*Z4*Z5*Z5*Z6*Z7+Z1*Z2*Z2*Z2*Z3*Z3*Z3*Z3*Z4*Z4*Z5*Z7*Z7+Z1*Z2*Z2*Z2*Z3*Z3*Z5*Z5*Z5*Z7-Z1*Z2*Z2*Z2*Z3*Z3*Z5*Z7+Z1*Z2*Z2*Z3*Z3*Z3*Z4*Z4*Z4*Z6*Z7-Z1*Z2*Z2*Z3*Z3*Z3*Z4*Z7-Z1*Z2*Z3*Z3*Z3*Z3*Z4*Z4*Z5*Z7)
def As:RE:=(Z0*Z0*Z0*Z2*Z2*Z3*Z4*Z4*Z5*Z6*Z6*Z7-Z0*Z0*Z0*Z2*Z3*Z3*Z4*Z5*Z5*Z6*Z7+Z0*Z0*Z0*Z2*Z4*Z4*Z4*Z5*Z5*Z6*Z6*Z7-Z0*Z0*Z0*Z2*Z4*Z4*Z4*Z6*Z6*Z6-Z0*Z0*Z0*Z2*Z4*Z5*Z5*Z6*Z6+Z0*Z0*Z0*Z2*Z4*Z6*Z6-Z0*Z0*Z0*Z3*Z4*Z4*Z5*Z5*Z5*Z6*Z7+Z0*Z0*Z0*Z3*Z4*Z4*Z5*Z6*Z6+Z0*Z0*Z0*Z3*Z5*Z5*Z5*Z6-Z0*Z0*Z0*Z3*Z5*Z6-Z0*Z0*Z1*Z2*Z2*Z3*Z4*Z4*Z4*Z5*Z5*Z6*Z7*Z7+Z0*Z0*Z1*Z2*Z2*Z3*Z4*Z5*Z5*Z6*Z7-Z0*Z0*Z1*Z2*Z3*Z3*Z4*Z4*Z5*Z5*Z5*Z7*Z7+Z0*Z0*Z1*Z2*Z3*Z3*Z4*Z4*Z5*Z6*Z7-Z0*Z0*Z1*Z2*Z4*Z4*Z5*Z5*Z5*Z6*Z7+Z0*Z0*Z1*Z2*Z4*Z4*Z5*Z6*Z6+Z0*Z0*Z1*Z2*Z5*Z5*Z5*Z6-Z0*Z0*Z1*Z2*Z5*Z6-Z0*Z0*Z1*Z3*Z4*Z4*Z4*Z5*Z5*Z6*Z7+Z0*Z0*Z1*Z3*Z4*Z4*Z4*Z6*Z6+Z0*Z0*Z1*Z3*Z4*Z5*Z5*Z6-Z0*Z0*Z1*Z3*Z4*Z6-Z0*Z1*Z1*Z2*Z2*Z3*Z4*Z4*Z5*Z5*Z5*Z7*Z7+Z0*Z1*Z1*Z2*Z2*Z3*Z4*Z4*Z5*Z6*Z7+Z0*Z1*Z1*Z2*Z3*Z3*Z4*Z4*Z4*Z5*Z5*Z7*Z7-Z0*Z1*Z1*Z2*Z3*Z3*Z4*Z5*Z5*Z7+Z0*Z1*Z1*Z2*Z4*Z4*Z4*Z5*Z5*Z6*Z7-Z0*Z1*Z1*Z2*Z4*Z4*Z4*Z6*Z6-Z0*Z1*Z1*Z2*Z4*Z5*Z5*Z6+Z0*Z1*Z1*Z2*Z4*Z6-Z0*Z1*Z1*Z3*Z4*Z4*Z5*Z5*Z5*Z7+Z0*Z1*Z1*Z3*Z4*Z4*Z5*Z6+Z0*Z1*Z1*Z3*Z5*Z5*Z5-Z0*Z1*Z1*Z3*Z5-Z0*Z2*Z2*Z3*Z4*Z4*Z5*Z6*Z7+Z0*Z2*Z3*Z3*Z4*Z5*Z5*Z7-Z0*Z2*Z4*Z4*Z4*Z5*Z5*Z6*Z7+Z0*Z2*Z4*Z4*Z4*Z6*Z6+Z0*Z2*Z4*Z5*Z5*Z6-Z0*Z2*Z4*Z6+Z0*Z3*Z4*Z4*Z5*Z5*Z5*Z7-Z0*Z3*Z4*Z4*Z5*Z6-Z0*Z3*Z5*Z5*Z5+Z0*Z3*Z5+Z1*Z1*Z1*Z2*Z2*Z3*Z4*Z5*Z5*Z7+Z1*Z1*Z1*Z2*Z3*Z3*Z4*Z4*Z5*Z7-Z1*Z1*Z1*Z2*Z4*Z4*Z5*Z5*Z5*Z7+Z1*Z1*Z1*Z2*Z4*Z4*Z5*Z6+Z1*Z1*Z1*Z2*Z5*Z5*Z5-Z1*Z1*Z1*Z2*Z5-Z1*Z1*Z1*Z3*Z4*Z4*Z4*Z5*Z5*Z7+Z1*Z1*Z1*Z3*Z4*Z4*Z4*Z6+Z1*Z1*Z1*Z3*Z4*Z5*Z5-Z1*Z1*Z1*Z3*Z4-Z1*Z2*Z2*Z3*Z4*Z5*Z5*Z7-Z1*Z2*Z3*Z3*Z4*Z4*Z5*Z7+Z1*Z2*Z4*Z4*Z5*Z5*Z5*Z7-Z1*Z2*Z4*Z4*Z5*Z6-Z1*Z2*Z5*Z5*Z5+Z1*Z2*Z5+Z1*Z3*Z4*Z4*Z4*Z5*Z5*Z7-Z1*Z3*Z4*Z4*Z4*Z6-Z1*Z3*Z4*Z5*Z5+Z1*Z3*Z4)
def Ar:RE:=(Z0*Z0*Z0*Z2*Z2*Z2*Z4*Z6*Z6*Z6-Z0*Z0*Z0*Z2*Z2*Z3*Z5*Z6*Z6+Z0*Z0*Z0*Z2*Z3*Z3*Z4*Z6*Z6-Z0*Z0*Z0*Z2*Z4*Z6*Z6-Z0*Z0*Z0*Z3*Z3*Z3*Z5*Z6+Z0*Z0*Z0*Z3*Z5*Z6-Z0*Z0*Z1*Z2*Z2*Z2*Z5*Z6*Z6-Z0*Z0*Z1*Z2*Z2*Z3*Z4*Z6*Z6+Z0*Z0*Z1*Z2*Z2*Z3*Z4*Z6*Z7-Z0*Z0*Z1*Z2*Z3*Z3*Z5*Z6+Z0*Z0*Z1*Z2*Z3*Z3*Z5*Z7+Z0*Z0*Z1*Z2*Z5*Z6-Z0*Z0*Z1*Z3*Z3*Z3*Z4*Z6+Z0*Z0*Z1*Z3*Z4*Z6+Z0*Z1*Z1*Z2*Z2*Z2*Z4*Z6*Z6-Z0*Z1*Z1*Z2*Z2*Z3*Z5*Z6+Z0*Z1*Z1*Z2*Z2*Z3*Z5*Z7+Z0*Z1*Z1*Z2*Z3*Z3*Z4*Z6-Z0*Z1*Z1*Z2*Z3*Z3*Z4*Z7-Z0*Z1*Z1*Z2*Z4*Z6-Z0*Z1*Z1*Z3*Z3*Z3*Z5+Z0*Z1*Z1*Z3*Z5-Z0*Z2*Z2*Z2*Z4*Z6*Z6+Z0*Z2*Z2*Z3*Z5*Z6-Z0*Z2*Z3*Z3*Z4*Z6+Z0*Z2*Z4*Z6+Z0*Z3*Z3*Z3*Z5-Z0*Z3*Z5-Z1*Z1*Z1*Z2*Z2*Z2*Z5*Z6-Z1*Z1*Z1*Z2*Z2*Z3*Z4*Z6-Z1*Z1*Z1*Z2*Z3*Z3*Z5+Z1*Z1*Z1*Z2*Z5-Z1*Z1*Z1*Z3*Z3*Z3*Z4+Z1*Z1*Z1*Z3*Z4+Z1*Z2*Z2*Z2*Z5*Z6+Z1*Z2*Z2*Z3*Z4*Z6+Z1*Z2*Z3*Z3*Z5-Z1*Z2*Z5+Z1*Z3*Z3*Z3*Z4-Z1*Z3*Z4)
def Aq:RE:=(-(Z0*Z2*Z2*Z2*Z2*Z3*Z3*Z3*Z4*Z5*Z5*Z6*Z7*Z7)+Z0*Z2*Z2*Z2*Z2*Z3*Z4*Z5*Z5*Z6*Z6*Z7-Z0*Z2*Z2*Z2*Z3*Z3*Z3*Z3*Z4*Z4*Z5*Z6*Z7*Z7-Z0*Z2*Z2*Z2*Z3*Z3*Z5*Z5*Z5*Z6*Z7+Z0*Z2*Z2*Z2*Z3*Z3*Z5*Z6*Z7-Z0*Z2*Z2*Z3*Z3*Z3*Z4*Z4*Z4*Z6*Z6*Z7+Z0*Z2*Z2*Z3*Z3*Z3*Z4*Z6*Z7+Z0*Z2*Z3*Z3*Z3*Z3*Z4*Z4*Z5*Z6*Z7+Z1*Z2*Z2*Z2*Z2*Z3*Z3*Z3*Z4*Z4*Z5*Z6*Z7*Z7-Z1*Z2*Z2*Z2*Z2*Z3*Z4*Z4*Z5*Z6*Z6*Z7-Z1*Z2*Z2*Z2*Z3*Z3*Z3*Z3*Z4*Z5*Z5*Z7*Z7-Z1*Z2*Z2*Z2*Z3*Z3*Z4*Z4*Z4*Z6*Z6*Z7+Z1*Z2*Z2*Z2*Z3*Z3*Z4*Z6*Z7+Z1*Z2*Z2*Z3*Z3*Z3*Z5*Z5*Z5*Z7-Z1*Z2*Z2*Z3*Z3*Z3*Z5*Z7+Z1*Z2*Z3*Z3*Z3*Z3*Z4*Z5*Z5*Z7)
def Ap:RE:=(-(Z0*Z0*Z0*Z2*Z2*Z3*Z4*Z5*Z5*Z6*Z6*Z7)-Z0*Z0*Z0*Z2*Z3*Z3*Z4*Z4*Z5*Z6*Z6*Z7+Z0*Z0*Z0*Z2*Z4*Z4*Z5*Z5*Z5*Z6*Z6*Z7-Z0*Z0*Z0*Z2*Z4*Z4*Z5*Z6*Z6*Z6-Z0*Z0*Z0*Z2*Z5*Z5*Z5*Z6*Z6+Z0*Z0*Z0*Z2*Z5*Z6*Z6+Z0*Z0*Z0*Z3*Z4*Z4*Z4*Z5*Z5*Z6*Z6*Z7-Z0*Z0*Z0*Z3*Z4*Z4*Z4*Z6*Z6*Z6-Z0*Z0*Z0*Z3*Z4*Z5*Z5*Z6*Z6+Z0*Z0*Z0*Z3*Z4*Z6*Z6-Z0*Z0*Z1*Z2*Z2*Z3*Z4*Z4*Z5*Z5*Z5*Z6*Z7*Z7+Z0*Z0*Z1*Z2*Z2*Z3*Z4*Z4*Z5*Z6*Z6*Z7+Z0*Z0*Z1*Z2*Z3*Z3*Z4*Z4*Z4*Z5*Z5*Z6*Z7*Z7-Z0*Z0*Z1*Z2*Z3*Z3*Z4*Z5*Z5*Z6*Z7+Z0*Z0*Z1*Z2*Z4*Z4*Z4*Z5*Z5*Z6*Z6*Z7-Z0*Z0*Z1*Z2*Z4*Z4*Z4*Z6*Z6*Z6-Z0*Z0*Z1*Z2*Z4*Z5*Z5*Z6*Z6+Z0*Z0*Z1*Z2*Z4*Z6*Z6-Z0*Z0*Z1*Z3*Z4*Z4*Z5*Z5*Z5*Z6*Z7+Z0*Z0*Z1*Z3*Z4*Z4*Z5*Z6*Z6+Z0*Z0*Z1*Z3*Z5*Z5*Z5*Z6-Z0*Z0*Z1*Z3*Z5*Z6+Z0*Z1*Z1*Z2*Z2*Z3*Z4*Z4*Z4*Z5*Z5*Z6*Z7*Z7-Z0*Z1*Z1*Z2*Z2*Z3*Z4*Z5*Z5*Z6*Z7+Z0*Z1*Z1*Z2*Z3*Z3*Z4*Z4*Z5*Z5*Z5*Z7*Z7-Z0*Z1*Z1*Z2*Z3*Z3*Z4*Z4*Z5*Z6*Z7+Z0*Z1*Z1*Z2*Z4*Z4*Z5*Z5*Z5*Z6*Z7-Z0*Z1*Z1*Z2*Z4*Z4*Z5*Z6*Z6-Z0*Z1*Z1*Z2*Z5*Z5*Z5*Z6+Z0*Z1*Z1*Z2*Z5*Z6+Z0*Z1*Z1*Z3*Z4*Z4*Z4*Z5*Z5*Z6*Z7-Z0*Z1*Z1*Z3*Z4*Z4*Z4*Z6*Z6-Z0*Z1*Z1*Z3*Z4*Z5*Z5*Z6+Z0*Z1*Z1*Z3*Z4*Z6+Z0*Z2*Z2*Z3*Z4*Z5*Z5*Z6*Z7+Z0*Z2*Z3*Z3*Z4*Z4*Z5*Z6*Z7-Z0*Z2*Z4*Z4*Z5*Z5*Z5*Z6*Z7+Z0*Z2*Z4*Z4*Z5*Z6*Z6+Z0*Z2*Z5*Z5*Z5*Z6-Z0*Z2*Z5*Z6-Z0*Z3*Z4*Z4*Z4*Z5*Z5*Z6*Z7+Z0*Z3*Z4*Z4*Z4*Z6*Z6+Z0*Z3*Z4*Z5*Z5*Z6-Z0*Z3*Z4*Z6+Z1*Z1*Z1*Z2*Z2*Z3*Z4*Z4*Z5*Z6*Z7-Z1*Z1*Z1*Z2*Z3*Z3*Z4*Z5*Z5*Z7+Z1*Z1*Z1*Z2*Z4*Z4*Z4*Z5*Z5*Z6*Z7-Z1*Z1*Z1*Z2*Z4*Z4*Z4*Z6*Z6-Z1*Z1*Z1*Z2*Z4*Z5*Z5*Z6+Z1*Z1*Z1*Z2*Z4*Z6-Z1*Z1*Z1*Z3*Z4*Z4*Z5*Z5*Z5*Z7+Z1*Z1*Z1*Z3*Z4*Z4*Z5*Z6+Z1*Z1*Z1*Z3*Z5*Z5*Z5-Z1*Z1*Z1*Z3*Z5-Z1*Z2*Z2*Z3*Z4*Z4*Z5*Z6*Z7+Z1*Z2*Z3*Z3*Z4*Z5*Z5*Z7-Z1*Z2*Z4*Z4*Z4*Z5*Z5*Z6*Z7+Z1*Z2*Z4*Z4*Z4*Z6*Z6+Z1*Z2*Z4*Z5*Z5*Z6-Z1*Z2*Z4*Z6+Z1*Z3*Z4*Z4*Z5*Z5*Z5*Z7-Z1*Z3*Z4*Z4*Z5*Z6-Z1*Z3*Z5*Z5*Z5+Z1*Z3*Z5)
def Ao:RE:=(Z0*Z0*Z0*Z2*Z2*Z2*Z5*Z6*Z6*Z6+Z0*Z0*Z0*Z2*Z2*Z3*Z4*Z6*Z6*Z6+Z0*Z0*Z0*Z2*Z3*Z3*Z5*Z6*Z6-Z0*Z0*Z0*Z2*Z5*Z6*Z6+Z0*Z0*Z0*Z3*Z3*Z3*Z4*Z6*Z6-Z0*Z0*Z0*Z3*Z4*Z6*Z6+Z0*Z0*Z1*Z2*Z2*Z2*Z4*Z6*Z6*Z6-Z0*Z0*Z1*Z2*Z2*Z3*Z5*Z6*Z6+Z0*Z0*Z1*Z2*Z2*Z3*Z5*Z6*Z7+Z0*Z0*Z1*Z2*Z3*Z3*Z4*Z6*Z6-Z0*Z0*Z1*Z2*Z3*Z3*Z4*Z6*Z7-Z0*Z0*Z1*Z2*Z4*Z6*Z6-Z0*Z0*Z1*Z3*Z3*Z3*Z5*Z6+Z0*Z0*Z1*Z3*Z5*Z6+Z0*Z1*Z1*Z2*Z2*Z2*Z5*Z6*Z6+Z0*Z1*Z1*Z2*Z2*Z3*Z4*Z6*Z6-Z0*Z1*Z1*Z2*Z2*Z3*Z4*Z6*Z7+Z0*Z1*Z1*Z2*Z3*Z3*Z5*Z6-Z0*Z1*Z1*Z2*Z3*Z3*Z5*Z7-Z0*Z1*Z1*Z2*Z5*Z6+Z0*Z1*Z1*Z3*Z3*Z3*Z4*Z6-Z0*Z1*Z1*Z3*Z4*Z6-Z0*Z2*Z2*Z2*Z5*Z6*Z6-Z0*Z2*Z2*Z3*Z4*Z6*Z6-Z0*Z2*Z3*Z3*Z5*Z6+Z0*Z2*Z5*Z6-Z0*Z3*Z3*Z3*Z4*Z6+Z0*Z3*Z4*Z6+Z1*Z1*Z1*Z2*Z2*Z2*Z4*Z6*Z6-Z1*Z1*Z1*Z2*Z2*Z3*Z5*Z6+Z1*Z1*Z1*Z2*Z3*Z3*Z4*Z6-Z1*Z1*Z1*Z2*Z4*Z6-Z1*Z1*Z1*Z3*Z3*Z3*Z5+Z1*Z1*Z1*Z3*Z5-Z1*Z2*Z2*Z2*Z4*Z6*Z6+Z1*Z2*Z2*Z3*Z5*Z6-Z1*Z2*Z3*Z3*Z4*Z6+Z1*Z2*Z4*Z6+Z1*Z3*Z3*Z3*Z5-Z1*Z3*Z5)
section
variable {R:Type} (K:CR R) (inv:R→R) (a d:R)
def cT (x y:R):Prop:=K.add (K.mul a (K.mul x x)) (K.mul y y)=K.add K.one (K.mul d (K.mul (K.mul x x) (K.mul y y)))
def GY (x1 y1 x2 y2:R):R:=K.mul d (K.mul (K.mul x1 x2) (K.mul y1 y2))
def wZ (x1 y1 x2 y2:R):R:=K.add (K.mul x1 y2) (K.mul y1 x2)
def xA (x1 y1 x2 y2:R):R:=K.sub (K.mul y1 y2) (K.mul a (K.mul x1 x2))
def rU (x1 y1 x2 y2:R):R:=K.add K.one (GY K d x1 y1 x2 y2)
def qA (x1 y1 x2 y2:R):R:=K.sub K.one (GY K d x1 y1 x2 y2)
variable {K} {a} {d}
theorem BR {x1 y1 x2 y2:R} (h1:cT K a d x1 y1) (h2:cT K a d x2 y2):K.add (K.mul a (K.mul (K.mul (wZ K x1 y1 x2 y2) (qA K d x1 y1 x2 y2)) (K.mul (wZ K x1 y1 x2 y2) (qA K d x1 y1 x2 y2)))) (K.mul (K.mul (xA K a x1 y1 x2 y2) (rU K d x1 y1 x2 y2)) (K.mul (xA K a x1 y1 x2 y2) (rU K d x1 y1 x2 y2)))=K.add (K.mul (K.mul (rU K d x1 y1 x2 y2) (qA K d x1 y1 x2 y2)) (K.mul (rU K d x1 y1 x2 y2) (qA K d x1 y1 x2 y2))) (K.mul d (K.mul (K.mul (wZ K x1 y1 x2 y2) (xA K a x1 y1 x2 y2)) (K.mul (wZ K x1 y1 x2 y2) (xA K a x1 y1 x2 y2)))) :=
 gP (K:=K) (c1:=RE.den K (bA K [x1,y1,x2,y2,K.zero,K.zero,a,d]) Ax) (c2:=RE.den K (bA K [x1,y1,x2,y2,K.zero,K.zero,a,d]) Aw) h1 h2 (aI K (bA K [x1,y1,x2,y2,K.zero,K.zero,a,d]) (Z6*((Z0*Z3+Z1*Z2)*(RE.one-Z7*(Z0*Z2*(Z1*Z3)))*((Z0*Z3+Z1*Z2)*(RE.one-Z7*(Z0*Z2*(Z1*Z3)))))+(Z1*Z3-Z6*(Z0*Z2))*(RE.one+Z7*(Z0*Z2*(Z1*Z3)))*((Z1*Z3-Z6*(Z0*Z2))*(RE.one+Z7*(Z0*Z2*(Z1*Z3))))-((RE.one+Z7*(Z0*Z2*(Z1*Z3)))*(RE.one-Z7*(Z0*Z2*(Z1*Z3)))*((RE.one+Z7*(Z0*Z2*(Z1*Z3)))*(RE.one-Z7*(Z0*Z2*(Z1*Z3))))+Z7*((Z0*Z3+Z1*Z2)*(Z1*Z3-Z6*(Z0*Z2))*((Z0*Z3+Z1*Z2)*(Z1*Z3-Z6*(Z0*Z2)))))) (.add (.mul Ax (Z6*(Z0*Z0)+Z1*Z1-(RE.one+Z7*(Z0*Z0*(Z1*Z1))))) (.mul Aw (Z6*(Z2*Z2)+Z3*Z3-(RE.one+Z7*(Z2*Z2*(Z3*Z3)))))) (by kernel_rfl))
theorem MC {x1 y1 x2 y2 x3 y3:R} (h1:cT K a d x1 y1) (h2:cT K a d x2 y2) (h3:cT K a d x3 y3):K.mul (K.add (K.mul (K.mul (wZ K x1 y1 x2 y2) (qA K d x1 y1 x2 y2)) y3) (K.mul (K.mul (xA K a x1 y1 x2 y2) (rU K d x1 y1 x2 y2)) x3)) (K.add (K.mul (rU K d x2 y2 x3 y3) (qA K d x2 y2 x3 y3)) (K.mul d (K.mul (K.mul (wZ K x2 y2 x3 y3) (xA K a x2 y2 x3 y3)) (K.mul x1 y1))))=K.mul (K.add (K.mul (K.mul (wZ K x2 y2 x3 y3) (qA K d x2 y2 x3 y3)) y1) (K.mul (K.mul (xA K a x2 y2 x3 y3) (rU K d x2 y2 x3 y3)) x1)) (K.add (K.mul (rU K d x1 y1 x2 y2) (qA K d x1 y1 x2 y2)) (K.mul d (K.mul (K.mul (wZ K x1 y1 x2 y2) (xA K a x1 y1 x2 y2)) (K.mul x3 y3)))) :=
 lZ (K:=K) (c1:=RE.den K (bA K [x1,y1,x2,y2,x3,y3,a,d]) Au) (c2:=RE.den K (bA K [x1,y1,x2,y2,x3,y3,a,d]) As) (c3:=RE.den K (bA K [x1,y1,x2,y2,x3,y3,a,d]) Ar) h1 h2 h3 (aI K (bA K [x1,y1,x2,y2,x3,y3,a,d]) (((Z0*Z3+Z1*Z2)*(RE.one-Z7*(Z0*Z2*(Z1*Z3)))*Z5+(Z1*Z3-Z6*(Z0*Z2))*(RE.one+Z7*(Z0*Z2*(Z1*Z3)))*Z4)*((RE.one+Z7*(Z2*Z4*(Z3*Z5)))*(RE.one-Z7*(Z2*Z4*(Z3*Z5)))+Z7*((Z2*Z5+Z3*Z4)*(Z3*Z5-Z6*(Z2*Z4))*(Z0*Z1)))-((Z2*Z5+Z3*Z4)*(RE.one-Z7*(Z2*Z4*(Z3*Z5)))*Z1+(Z3*Z5-Z6*(Z2*Z4))*(RE.one+Z7*(Z2*Z4*(Z3*Z5)))*Z0)*((RE.one+Z7*(Z0*Z2*(Z1*Z3)))*(RE.one-Z7*(Z0*Z2*(Z1*Z3)))+Z7*((Z0*Z3+Z1*Z2)*(Z1*Z3-Z6*(Z0*Z2))*(Z4*Z5)))) (.add (.add (.mul Au (Z6*(Z0*Z0)+Z1*Z1-(RE.one+Z7*(Z0*Z0*(Z1*Z1))))) (.mul As (Z6*(Z2*Z2)+Z3*Z3-(RE.one+Z7*(Z2*Z2*(Z3*Z3)))))) (.mul Ar (Z6*(Z4*Z4)+Z5*Z5-(RE.one+Z7*(Z4*Z4*(Z5*Z5)))))) (by kernel_rfl))
theorem MB {x1 y1 x2 y2 x3 y3:R} (h1:cT K a d x1 y1) (h2:cT K a d x2 y2) (h3:cT K a d x3 y3):K.mul (K.sub (K.mul (K.mul (xA K a x1 y1 x2 y2) (rU K d x1 y1 x2 y2)) y3) (K.mul a (K.mul (K.mul (wZ K x1 y1 x2 y2) (qA K d x1 y1 x2 y2)) x3))) (K.sub (K.mul (rU K d x2 y2 x3 y3) (qA K d x2 y2 x3 y3)) (K.mul d (K.mul (K.mul (wZ K x2 y2 x3 y3) (xA K a x2 y2 x3 y3)) (K.mul x1 y1))))=K.mul (K.sub (K.mul (K.mul (xA K a x2 y2 x3 y3) (rU K d x2 y2 x3 y3)) y1) (K.mul a (K.mul (K.mul (wZ K x2 y2 x3 y3) (qA K d x2 y2 x3 y3)) x1))) (K.sub (K.mul (rU K d x1 y1 x2 y2) (qA K d x1 y1 x2 y2)) (K.mul d (K.mul (K.mul (wZ K x1 y1 x2 y2) (xA K a x1 y1 x2 y2)) (K.mul x3 y3)))) :=
 lZ (K:=K) (c1:=RE.den K (bA K [x1,y1,x2,y2,x3,y3,a,d]) Aq) (c2:=RE.den K (bA K [x1,y1,x2,y2,x3,y3,a,d]) Ap) (c3:=RE.den K (bA K [x1,y1,x2,y2,x3,y3,a,d]) Ao) h1 h2 h3 (aI K (bA K [x1,y1,x2,y2,x3,y3,a,d]) (((Z1*Z3-Z6*(Z0*Z2))*(RE.one+Z7*(Z0*Z2*(Z1*Z3)))*Z5-Z6*((Z0*Z3+Z1*Z2)*(RE.one-Z7*(Z0*Z2*(Z1*Z3)))*Z4))*((RE.one+Z7*(Z2*Z4*(Z3*Z5)))*(RE.one-Z7*(Z2*Z4*(Z3*Z5)))-Z7*((Z2*Z5+Z3*Z4)*(Z3*Z5-Z6*(Z2*Z4))*(Z0*Z1)))-((Z3*Z5-Z6*(Z2*Z4))*(RE.one+Z7*(Z2*Z4*(Z3*Z5)))*Z1-Z6*((Z2*Z5+Z3*Z4)*(RE.one-Z7*(Z2*Z4*(Z3*Z5)))*Z0))*((RE.one+Z7*(Z0*Z2*(Z1*Z3)))*(RE.one-Z7*(Z0*Z2*(Z1*Z3)))-Z7*((Z0*Z3+Z1*Z2)*(Z1*Z3-Z6*(Z0*Z2))*(Z4*Z5)))) (.add (.add (.mul Aq (Z6*(Z0*Z0)+Z1*Z1-(RE.one+Z7*(Z0*Z0*(Z1*Z1))))) (.mul Ap (Z6*(Z2*Z2)+Z3*Z3-(RE.one+Z7*(Z2*Z2*(Z3*Z3)))))) (.mul Ao (Z6*(Z4*Z4)+Z5*Z5-(RE.one+Z7*(Z4*Z4*(Z5*Z5)))))) (by kernel_rfl))
theorem VS {n m p q i j:R} (hF:(K.add (K.mul a (K.mul (K.mul n q) (K.mul n q))) (K.mul (K.mul m p) (K.mul m p)))=(K.add (K.mul (K.mul p q) (K.mul p q)) (K.mul d (K.mul (K.mul n m) (K.mul n m))))) (hi:(K.mul p i)=K.one) (hj:(K.mul q j)=K.one):(K.add (K.mul a (K.mul (K.mul n i) (K.mul n i))) (K.mul (K.mul m j) (K.mul m j)))=(K.add K.one (K.mul d (K.mul (K.mul (K.mul n i) (K.mul n i)) (K.mul (K.mul m j) (K.mul m j))))) :=
 lZ (K:=K) (c1:=(K.mul (K.mul i j) (K.mul i j))) (c2:=(K.neg (K.mul (K.add (K.mul p i) K.one) (K.sub (K.mul (K.mul m j) (K.mul m j)) K.one)))) (c3:=(K.neg (K.mul (K.add (K.mul q j) K.one) (K.sub (K.mul a (K.mul (K.mul n i) (K.mul n i))) (K.mul (K.mul p i) (K.mul p i)))))) hF hi hj (aI K (bA K [n,m,p,q,i,j,a,d]) (Z6*(Z0*Z4*(Z0*Z4))+Z1*Z5*(Z1*Z5)-(RE.one+Z7*(Z0*Z4*(Z0*Z4)*(Z1*Z5*(Z1*Z5))))) (Z4*Z5*(Z4*Z5)*(Z6*(Z0*Z3*(Z0*Z3))+Z1*Z2*(Z1*Z2)-(Z2*Z3*(Z2*Z3)+Z7*(Z0*Z1*(Z0*Z1))))+(-((Z2*Z4+RE.one)*(Z1*Z5*(Z1*Z5)-RE.one)))*(Z2*Z4-RE.one)+(-((Z3*Z5+RE.one)*(Z6*(Z0*Z4*(Z0*Z4))-Z2*Z4*(Z2*Z4))))*(Z3*Z5-RE.one)) (by kernel_rfl))
theorem GW {n m p q i j x y k:R} (hi:(K.mul p i)=K.one) (hj:(K.mul q j)=K.one) (hk:(K.mul (K.add K.one (K.mul d (K.mul (K.mul (K.mul n i) x) (K.mul (K.mul m j) y)))) k)=K.one):(K.mul (K.mul (K.add (K.mul (K.mul n i) y) (K.mul (K.mul m j) x)) k) (K.add (K.mul p q) (K.mul d (K.mul (K.mul n m) (K.mul x y)))))=(K.add (K.mul (K.mul n q) y) (K.mul (K.mul m p) x)) :=
 lZ (K:=K) (c1:=(K.sub (K.mul (K.mul k (K.add (K.mul (K.mul n q) y) (K.mul (K.mul m p) x))) (K.mul q j)) (K.mul (K.mul k (K.add (K.mul p q) (K.mul d (K.mul (K.mul n m) (K.mul x y))))) (K.mul (K.mul m j) x)))) (c2:=(K.sub (K.mul k (K.add (K.mul (K.mul n q) y) (K.mul (K.mul m p) x))) (K.mul (K.mul k (K.add (K.mul p q) (K.mul d (K.mul (K.mul n m) (K.mul x y))))) (K.mul (K.mul n i) y)))) (c3:=(K.add (K.mul (K.mul n q) y) (K.mul (K.mul m p) x))) hi hj hk (aI K (bA K [n,m,p,q,i,j,x,y,k,d]) ((Z0*Z4*Z7+Z1*Z5*Z6)*Z8*(Z2*Z3+Z9*(Z0*Z1*(Z6*Z7)))-(Z0*Z3*Z7+Z1*Z2*Z6)) ((Z8*(Z0*Z3*Z7+Z1*Z2*Z6)*(Z3*Z5)-Z8*(Z2*Z3+Z9*(Z0*Z1*(Z6*Z7)))*(Z1*Z5*Z6))*(Z2*Z4-RE.one)+(Z8*(Z0*Z3*Z7+Z1*Z2*Z6)-Z8*(Z2*Z3+Z9*(Z0*Z1*(Z6*Z7)))*(Z0*Z4*Z7))*(Z3*Z5-RE.one)+(Z0*Z3*Z7+Z1*Z2*Z6)*((RE.one+Z9*(Z0*Z4*Z6*(Z1*Z5*Z7)))*Z8-RE.one)) (by kernel_rfl))
theorem GV {n m p q i j x y k:R} (hi:(K.mul p i)=K.one) (hj:(K.mul q j)=K.one) (hk:(K.mul (K.sub K.one (K.mul d (K.mul (K.mul (K.mul n i) x) (K.mul (K.mul m j) y)))) k)=K.one):(K.mul (K.mul (K.sub (K.mul (K.mul m j) y) (K.mul a (K.mul (K.mul n i) x))) k) (K.sub (K.mul p q) (K.mul d (K.mul (K.mul n m) (K.mul x y)))))=(K.sub (K.mul (K.mul m p) y) (K.mul a (K.mul (K.mul n q) x))) :=
 lZ (K:=K) (c1:=(K.sub (K.mul (K.mul k (K.sub (K.mul (K.mul m p) y) (K.mul a (K.mul (K.mul n q) x)))) (K.mul q j)) (K.mul (K.mul k (K.sub (K.mul p q) (K.mul d (K.mul (K.mul n m) (K.mul x y))))) (K.mul (K.mul m j) y)))) (c2:=(K.add (K.mul k (K.sub (K.mul (K.mul m p) y) (K.mul a (K.mul (K.mul n q) x)))) (K.mul (K.mul k (K.sub (K.mul p q) (K.mul d (K.mul (K.mul n m) (K.mul x y))))) (K.mul a (K.mul (K.mul n i) x))))) (c3:=(K.sub (K.mul (K.mul m p) y) (K.mul a (K.mul (K.mul n q) x)))) hi hj hk (aI K (bA K [n,m,p,q,i,j,x,y,k,a,d]) ((Z1*Z5*Z7-Z9*(Z0*Z4*Z6))*Z8*(Z2*Z3-Z10*(Z0*Z1*(Z6*Z7)))-(Z1*Z2*Z7-Z9*(Z0*Z3*Z6))) ((Z8*(Z1*Z2*Z7-Z9*(Z0*Z3*Z6))*(Z3*Z5)-Z8*(Z2*Z3-Z10*(Z0*Z1*(Z6*Z7)))*(Z1*Z5*Z7))*(Z2*Z4-RE.one)+(Z8*(Z1*Z2*Z7-Z9*(Z0*Z3*Z6))+Z8*(Z2*Z3-Z10*(Z0*Z1*(Z6*Z7)))*(Z9*(Z0*Z4*Z6)))*(Z3*Z5-RE.one)+(Z1*Z2*Z7-Z9*(Z0*Z3*Z6))*((RE.one-Z10*(Z0*Z4*Z6*(Z1*Z5*Z7)))*Z8-RE.one)) (by kernel_rfl))
theorem GX {n m p q i j x y:R} (hi:(K.mul p i)=K.one) (hj:(K.mul q j)=K.one):(K.add K.one (K.mul d (K.mul (K.mul (K.mul n i) x) (K.mul (K.mul m j) y))))=(K.mul (K.mul i j) (K.add (K.mul p q) (K.mul d (K.mul (K.mul n m) (K.mul x y))))) :=
 gP (K:=K) (c1:=(K.neg (K.mul q j))) (c2:=(K.neg K.one)) hi hj (aI K (bA K [n,m,p,q,i,j,x,y,d]) (RE.one+Z8*(Z0*Z4*Z6*(Z1*Z5*Z7))-Z4*Z5*(Z2*Z3+Z8*(Z0*Z1*(Z6*Z7)))) ((-(Z3*Z5))*(Z2*Z4-RE.one)+(-RE.one)*(Z3*Z5-RE.one)) (by kernel_rfl))
theorem zJ {n m p q i j x y:R} (hi:(K.mul p i)=K.one) (hj:(K.mul q j)=K.one):(K.sub K.one (K.mul d (K.mul (K.mul (K.mul n i) x) (K.mul (K.mul m j) y))))=(K.mul (K.mul i j) (K.sub (K.mul p q) (K.mul d (K.mul (K.mul n m) (K.mul x y))))) :=
 gP (K:=K) (c1:=(K.neg (K.mul q j))) (c2:=(K.neg K.one)) hi hj (aI K (bA K [n,m,p,q,i,j,x,y,d]) (RE.one-Z8*(Z0*Z4*Z6*(Z1*Z5*Z7))-Z4*Z5*(Z2*Z3-Z8*(Z0*Z1*(Z6*Z7)))) ((-(Z3*Z5))*(Z2*Z4-RE.one)+(-RE.one)*(Z3*Z5-RE.one)) (by kernel_rfl))
theorem uK {u v D G N M:R} (h1:(K.mul u D)=N) (h2:(K.mul v G)=M) (h3:(K.mul N G)=(K.mul M D)):(K.mul (K.mul D G) u)=(K.mul (K.mul D G) v) :=
 lZ (K:=K) (c1:=G) (c2:=(K.neg D)) (c3:=K.one) h1 h2 h3 (aI K (bA K [u,v,D,G,N,M]) (Z2*Z3*Z0-Z2*Z3*Z1) (Z3*(Z0*Z2-Z4)+(-Z2)*(Z1*Z3-Z5)+RE.one*(Z4*Z3-Z5*Z2)) (by kernel_rfl))
theorem VR {s x1 y1 x2 y2 e:R} (h1:(K.add (K.mul (K.mul s s) (K.mul x1 x1)) (K.mul y1 y1))=(K.add K.one (K.mul d (K.mul (K.mul x1 x1) (K.mul y1 y1))))) (h2:(K.add (K.mul (K.mul s s) (K.mul x2 x2)) (K.mul y2 y2))=(K.add K.one (K.mul d (K.mul (K.mul x2 x2) (K.mul y2 y2))))) (ht:(K.mul d (K.mul (K.mul x1 x2) (K.mul y1 y2)))=e) (he:(K.mul e e)=K.one):(K.mul (K.add (K.mul s x1) (K.mul e y1)) (K.add (K.mul s x1) (K.mul e y1)))=(K.mul d (K.mul (K.mul (K.mul x1 y1) (K.add (K.mul s x2) y2)) (K.mul (K.mul x1 y1) (K.add (K.mul s x2) y2)))) :=
 NZ (K:=K) (c1:=K.one) (c2:=(K.neg (K.mul d (K.mul (K.mul x1 x1) (K.mul y1 y1))))) (c3:=(K.sub (K.neg (K.add (K.mul d (K.mul (K.mul x1 x2) (K.mul y1 y2))) e)) (K.mul (K.add K.one K.one) (K.mul s (K.mul x1 y1))))) (c4:=(K.sub (K.mul y1 y1) K.one)) h1 h2 ht he (aI K (bA K [s,x1,y1,x2,y2,e,d]) ((Z0*Z1+Z5*Z2)*(Z0*Z1+Z5*Z2)-Z6*(Z1*Z2*(Z0*Z3+Z4)*(Z1*Z2*(Z0*Z3+Z4)))) (RE.one*(Z0*Z0*(Z1*Z1)+Z2*Z2-(RE.one+Z6*(Z1*Z1*(Z2*Z2))))+(-(Z6*(Z1*Z1*(Z2*Z2))))*(Z0*Z0*(Z3*Z3)+Z4*Z4-(RE.one+Z6*(Z3*Z3*(Z4*Z4))))+(-(Z6*(Z1*Z3*(Z2*Z4))+Z5)-(RE.one+RE.one)*(Z0*(Z1*Z2)))*(Z6*(Z1*Z3*(Z2*Z4))-Z5)+(Z2*Z2-RE.one)*(Z5*Z5-RE.one)) (by kernel_rfl))
variable (K) (a) (d)
def wY (x1 y1 x2 y2:R):R:=K.mul (wZ K x1 y1 x2 y2) (inv (rU K d x1 y1 x2 y2))
def wX (x1 y1 x2 y2:R):R:=K.mul (xA K a x1 y1 x2 y2) (inv (qA K d x1 y1 x2 y2))
structure ED:Prop where
 F:FD K inv
 two:K.add K.one K.one≠K.zero
 sq:∃s,K.mul s s=a
 ns:∀x,K.mul x x≠d
variable {K} {inv} {a} {d}
theorem ED.v0 (E:ED K inv a d) {s x1 y1 x2 y2 e:R} (hs:K.mul s s=a) (h1:cT K a d x1 y1) (h2:cT K a d x2 y2) (ht:GY K d x1 y1 x2 y2=e) (he:K.mul e e=K.one) (hw:K.mul x1 y1≠K.zero):K.add (K.mul s x2) y2=K.zero:=by
 subst hs;refine Classical.byContradiction fun hv => ?_
 have h:=VR h1 h2 ht he;have hk:=E.F.inv _ (E.F.mul_ne hw hv);generalize K.mul (K.mul x1 y1) (K.add (K.mul s x2) y2)=z at h hk;generalize K.add (K.mul s x1) (K.mul e y1)=u at h;generalize inv z=k at hk;refine E.ns (K.mul u k) ?_;exact gP (K:=K) (c1:=(K.mul k k)) (c2:=(K.mul d (K.add (K.mul z k) K.one))) h hk (aI K (bA K [u,k,d,z]) (Z0*Z1*(Z0*Z1)-Z2) (Z1*Z1*(Z0*Z0-Z2*(Z3*Z3))+Z2*(Z3*Z1+RE.one)*(Z3*Z1-RE.one)) (by kernel_rfl))
theorem ED.ne (E:ED K inv a d) {x1 y1 x2 y2 e:R} (h1:cT K a d x1 y1) (h2:cT K a d x2 y2) (ht:GY K d x1 y1 x2 y2=e) (he:K.mul e e=K.one):False:=by
 obtain⟨s,hs⟩:=E.sq;have e0:e≠K.zero:=fun q=>by
  rw[q,K.zero_mul]at he;exact E.F.ne he.symm
 have hw:K.mul x1 y1≠K.zero:=fun q=>e0 (by
  rw[←ht];exact eR (K:=K) (c1:=(K.mul d (K.mul x2 y2))) q (aI K (bA K [x1,y1,x2,y2,d]) (Z4*(Z0*Z2*(Z1*Z3))-RE.zero) (Z4*(Z2*Z3)*(Z0*Z1-RE.zero)) (by kernel_rfl)))
 have a1:=E.v0 hs h1 h2 ht he hw;have a2:=E.v0 (s:=K.neg s) (by rw[←hs]; exact aI K (bA K [s]) ((-Z0)*(-Z0)) (Z0*Z0) (by kernel_rfl)) h1 h2 ht he hw;have hy:K.mul (K.add K.one K.one) y2=K.zero:=gP (K:=K) (c1:=K.one) (c2:=K.one) a1 a2 (aI K (bA K [s,x2,y2]) ((RE.one+RE.one)*Z2-RE.zero) (RE.one*(Z0*Z1+Z2-RE.zero)+RE.one*((-Z0)*Z1+Z2-RE.zero)) (by kernel_rfl));have hy:=E.F.zd hy E.two;refine e0 ?_;rw[←ht];unfold GY;rw[hy,K.mul_zero,K.mul_zero,K.mul_zero]
theorem ED.pne (E:ED K inv a d) {x1 y1 x2 y2:R} (h1:cT K a d x1 y1) (h2:cT K a d x2 y2):rU K d x1 y1 x2 y2≠K.zero:=fun q =>
 E.ne (e:=K.neg K.one) h1 h2 (by
  show GY K d x1 y1 x2 y2=_;unfold rU at q;generalize GY K d x1 y1 x2 y2=t at q;exact eR (K:=K) (c1:=K.one) q (aI K (bA K [t]) (Z0-(-RE.one)) (RE.one*(RE.one+Z0-RE.zero)) (by kernel_rfl))) (aI K (bA K []) ((-RE.one)*(-RE.one)) .one (by kernel_rfl))
theorem ED.qne (E:ED K inv a d) {x1 y1 x2 y2:R} (h1:cT K a d x1 y1) (h2:cT K a d x2 y2):qA K d x1 y1 x2 y2≠K.zero:=fun q =>
 E.ne (e:=K.one) h1 h2 (by
  show GY K d x1 y1 x2 y2=_;unfold qA at q;generalize GY K d x1 y1 x2 y2=t at q;exact eR (K:=K) (c1:=(K.neg K.one)) q (aI K (bA K [t]) (Z0-RE.one) ((-RE.one)*(RE.one-Z0-RE.zero)) (by kernel_rfl))) (K.one_mul _)
theorem ED.ip (E:ED K inv a d) {x1 y1 x2 y2:R} (h1:cT K a d x1 y1) (h2:cT K a d x2 y2):K.mul (rU K d x1 y1 x2 y2) (inv (rU K d x1 y1 x2 y2))=K.one:=E.F.inv _ (E.pne h1 h2)
theorem ED.iq (E:ED K inv a d) {x1 y1 x2 y2:R} (h1:cT K a d x1 y1) (h2:cT K a d x2 y2):K.mul (qA K d x1 y1 x2 y2) (inv (qA K d x1 y1 x2 y2))=K.one:=E.F.inv _ (E.qne h1 h2)
theorem ED.on (E:ED K inv a d) {x1 y1 x2 y2:R} (h1:cT K a d x1 y1) (h2:cT K a d x2 y2):cT K a d (wY K inv d x1 y1 x2 y2) (wX K inv a d x1 y1 x2 y2) :=
 VS (BR h1 h2) (E.ip h1 h2) (E.iq h1 h2)
theorem ED.assX (E:ED K inv a d) {x1 y1 x2 y2 x3 y3:R} (h1:cT K a d x1 y1) (h2:cT K a d x2 y2) (h3:cT K a d x3 y3):wY K inv d (wY K inv d x1 y1 x2 y2) (wX K inv a d x1 y1 x2 y2) x3 y3=wY K inv d (wY K inv d x2 y2 x3 y3) (wX K inv a d x2 y2 x3 y3) x1 y1:=by
 have b1:=E.pne (E.on h1 h2) h3;have b2:=E.pne (E.on h2 h3) h1;have c1:=GW (E.ip h1 h2) (E.iq h1 h2) (E.ip (E.on h1 h2) h3);have c2:=GW (E.ip h2 h3) (E.iq h2 h3) (E.ip (E.on h2 h3) h1);refine E.F.cancel (E.F.mul_ne (fun z=>b1 ?_) fun z=>b2 ?_) (uK c1 c2 (MC h1 h2 h3))
 ·refine (GX (E.ip h1 h2) (E.iq h1 h2)).trans ?_;rw[z,K.mul_zero]
 ·refine (GX (E.ip h2 h3) (E.iq h2 h3)).trans ?_;rw[z,K.mul_zero]
theorem ED.assY (E:ED K inv a d) {x1 y1 x2 y2 x3 y3:R} (h1:cT K a d x1 y1) (h2:cT K a d x2 y2) (h3:cT K a d x3 y3):wX K inv a d (wY K inv d x1 y1 x2 y2) (wX K inv a d x1 y1 x2 y2) x3 y3=wX K inv a d (wY K inv d x2 y2 x3 y3) (wX K inv a d x2 y2 x3 y3) x1 y1:=by
 have b1:=E.qne (E.on h1 h2) h3;have b2:=E.qne (E.on h2 h3) h1;have c1:=GV (a:=a) (E.ip h1 h2) (E.iq h1 h2) (E.iq (E.on h1 h2) h3);have c2:=GV (a:=a) (E.ip h2 h3) (E.iq h2 h3) (E.iq (E.on h2 h3) h1);refine E.F.cancel (E.F.mul_ne (fun z=>b1 ?_) fun z=>b2 ?_) (uK c1 c2 (MB h1 h2 h3))
 ·refine (zJ (E.ip h1 h2) (E.iq h1 h2)).trans ?_;rw[z,K.mul_zero]
 ·refine (zJ (E.ip h2 h3) (E.iq h2 h3)).trans ?_;rw[z,K.mul_zero]
theorem ED.comX (x1 y1 x2 y2:R):wY K inv d x1 y1 x2 y2=wY K inv d x2 y2 x1 y1:=by
 unfold wY wZ rU GY;rw[K.mul_comm x1 x2,K.mul_comm y1 y2,K.add_comm (K.mul x1 y2),K.mul_comm y1 x2,K.mul_comm x1 y2]
theorem ED.comY (x1 y1 x2 y2:R):wX K inv a d x1 y1 x2 y2=wX K inv a d x2 y2 x1 y1:=by
 unfold wX xA qA GY;rw[K.mul_comm x1 x2,K.mul_comm y1 y2]
theorem ED.i1 (E:ED K inv a d):inv K.one=K.one:=by
 have:=E.F.inv K.one E.F.ne
 rwa [K.one_mul]at this
theorem RJ:cT K a d K.zero K.one:=by
 show K.add (K.mul a (K.mul K.zero K.zero)) (K.mul K.one K.one)=K.add K.one (K.mul d (K.mul (K.mul K.zero K.zero) (K.mul K.one K.one)));exact aI K (bA K [a,d]) (Z0*(RE.zero*RE.zero)+RE.one*RE.one) (RE.one+Z1*(RE.zero*RE.zero*(RE.one*RE.one))) (by kernel_rfl)
theorem GU {x y:R} (h:cT K a d x y):cT K a d (K.neg x) y:=by
 show K.add (K.mul a (K.mul (K.neg x) (K.neg x))) (K.mul y y)=K.add K.one (K.mul d (K.mul (K.mul (K.neg x) (K.neg x)) (K.mul y y)));have e:K.mul (K.neg x) (K.neg x)=K.mul x x:=aI K (bA K [x]) ((-Z0)*(-Z0)) (Z0*Z0) (by kernel_rfl);rw[e];exact h
theorem ED.zX (E:ED K inv a d) (x y:R):wY K inv d K.zero K.one x y=x:=by
 have e1:rU K d K.zero K.one x y=K.one:=aI K (bA K [x,y,d]) (RE.one+Z2*(RE.zero*Z0*(RE.one*Z1))) .one (by kernel_rfl);unfold wY;rw[e1,E.i1];exact aI K (bA K [x,y]) ((RE.zero*Z1+RE.one*Z0)*RE.one) (.v 0) (by kernel_rfl)
theorem ED.zY (E:ED K inv a d) (x y:R):wX K inv a d K.zero K.one x y=y:=by
 have e1:qA K d K.zero K.one x y=K.one:=aI K (bA K [x,y,d]) (RE.one-Z2*(RE.zero*Z0*(RE.one*Z1))) .one (by kernel_rfl);unfold wX;rw[e1,E.i1];exact aI K (bA K [x,y,a]) ((RE.one*Z1-Z2*(RE.zero*Z0))*RE.one) (.v 1) (by kernel_rfl)
theorem ED.nX (E:ED K inv a d) (x y:R):wY K inv d (K.neg x) y x y=K.zero:=by
 have e1:wZ K (K.neg x) y x y=K.zero:=aI K (bA K [x,y]) ((-Z0)*Z1+Z1*Z0) .zero (by kernel_rfl);unfold wY;rw[e1,K.zero_mul]
theorem ED.nY (E:ED K inv a d) {x y:R} (h:cT K a d x y):wX K inv a d (K.neg x) y x y=K.one:=by
 have e1:xA K a (K.neg x) y x y=qA K d (K.neg x) y x y:=eR (K:=K) (c1:=K.one) h (aI K (bA K [x,y,a,d]) (Z1*Z1-Z2*((-Z0)*Z0)-(RE.one-Z3*((-Z0)*Z0*(Z1*Z1)))) (RE.one*(Z2*(Z0*Z0)+Z1*Z1-(RE.one+Z3*(Z0*Z0*(Z1*Z1))))) (by kernel_rfl));unfold wX;rw[e1];exact E.iq (GU h) h
variable (K) (a) (d)
abbrev yB:={p:R×R // cT K a d p.1 p.2}
variable {K} {a} {d}
def ED.grp (E:ED K inv a d):AG (yB K a d) where
 add p q:=⟨(wY K inv d p.1.1 p.1.2 q.1.1 q.1.2,wX K inv a d p.1.1 p.1.2 q.1.1 q.1.2),E.on p.2 q.2⟩
 neg p:=⟨(K.neg p.1.1,p.1.2),GU p.2⟩
 zero:=⟨(K.zero,K.one),RJ⟩
 assoc p q r:=Subtype.ext (Prod.ext ((E.assX p.2 q.2 r.2).trans (ED.comX _ _ _ _)) ((E.assY p.2 q.2 r.2).trans (ED.comY _ _ _ _)))
 comm p q:=Subtype.ext (Prod.ext (ED.comX _ _ _ _) (ED.comY _ _ _ _))
 zadd p:=Subtype.ext (Prod.ext (E.zX _ _) (E.zY _ _))
 nadd p:=Subtype.ext (Prod.ext (E.nX _ _) (E.nY p.2))
end
end Go.Proofs.Ytjeplinbleofnaa.Ex
