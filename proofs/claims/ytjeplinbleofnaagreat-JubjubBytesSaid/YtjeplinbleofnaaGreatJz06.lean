/- Jz06 -/
import Derived.KernelRfl
import Derived.Test.YtjeplinbleofnaaGreatJz05
import Derived.Test.YtjeplinbleofnaaGreatProg
set_option maxRecDepth 100000
set_option linter.unusedVariables false
set_option linter.unusedSimpArgs false
set_option linter.unnecessarySimpa false
noncomputable section
namespace Go.Proofs.YtjeplinbleofnaaGreat.Ex
open Go.Proofs.Tryz
inductive RE|v (i:Nat)|add (a b:RE)|mul (a b:RE)|neg (a:RE)|zero|one
instance:Add RE:=⟨.add⟩
instance:Mul RE:=⟨.mul⟩
instance:Neg RE:=⟨.neg⟩
instance:Sub RE:=⟨fun a b=>.add a (.neg b)⟩
abbrev Z0:RE:=.v 0
abbrev Z1:RE:=.v 1
abbrev Z2:RE:=.v 2
abbrev Z3:RE:=.v 3
abbrev Z4:RE:=.v 4
abbrev Z5:RE:=.v 5
abbrev Z6:RE:=.v 6
abbrev Z7:RE:=.v 7
abbrev Z8:RE:=.v 8
abbrev Z9:RE:=.v 9
abbrev Z10:RE:=.v 10
abbrev Z11:RE:=.v 11
section
variable {R:Type} (K:CR R) (env:Nat→R)
def RE.den:RE→R
 | .v i=>env i
 | .add a b=>K.add (a.den) (b.den)
 | .mul a b=>K.mul (a.den) (b.den)
 | .neg a=>K.neg a.den
 | .zero=>K.zero
 | .one=>K.one
def nt (x:R):Nat→R
 | 0=>K.zero
 | n+1=>K.add (nt x n) x
def zt (x:R):Int→R
 | .ofNat n=>nt K x n
 | .negSucc n=>K.neg (nt K x (n+1))
def mono:List Nat→R
 | []=>K.one
 | i::r=>K.mul (env i) (mono r)
def fY:List (Int×List Nat)→R
 | []=>K.zero
 | (c,m)::r=>K.add (zt K (mono K env m) c) (fY r)
end
def Pj:List Nat→List Nat→Bool
 | [],[]=>false
 | [],_::_=>true
 | _::_,[]=>false
 | a::r,b::s=>bif Nat.blt a b then true else bif Nat.blt b a then false else Pj r s
def Lc:List Nat→List Nat→Bool
 | [],[]=>true
 | a::r,b::s=>bif Nat.beq a b then Lc r s else false
 | _,_=>false
theorem RA:∀{a b:List Nat},Lc a b=true→a=b
 | [],[],_=>rfl
 | a::r,b::s,h=>by
  unfold Lc at h;cases hb:Nat.beq a b<;>rw[hb]at h
  ·cases h
  ·rw[Nat.eq_of_beq_eq_true hb,RA h]
 | [],_::_,h=>by cases h
 | _::_,[],h=>by cases h
def YR (c:Int) (m:List Nat):List (Int×List Nat)→List (Int×List Nat)
 | []=>[(c,m)]
 | (d,k)::r=>bif Lc m k then (c+d,k)::r else bif Pj m k then (c,m)::(d,k)::r else (d,k)::YR c m r
def CI:List (Int×List Nat)→List (Int×List Nat)→List (Int×List Nat)
 | [],q=>q
 | (c,m)::r,q=>YR c m (CI r q)
def KI (i:Nat):List Nat→List Nat
 | []=>[i]
 | j::r=>bif Nat.ble i j then i::j::r else j::KI i r
def PI:List Nat→List Nat→List Nat
 | [],m=>m
 | i::r,m=>KI i (PI r m)
def yQ (c:Int) (m:List Nat):List (Int×List Nat)→List (Int×List Nat)
 | []=>[]
 | (d,k)::r=>YR (c*d) (PI m k) (yQ c m r)
def OO:List (Int×List Nat)→List (Int×List Nat)→List (Int×List Nat)
 | [],_=>[]
 | (c,m)::r,q=>CI (yQ c m q) (OO r q)
def ON:List (Int×List Nat)→List (Int×List Nat)
 | []=>[]
 | (c,m)::r=>(-c,m)::ON r
def RE.norm:RE→List (Int×List Nat)
 | .v i=>[(1,[i])]
 | .add a b=>CI a.norm b.norm
 | .mul a b=>OO a.norm b.norm
 | .neg a=>ON a.norm
 | .zero=>[]
 | .one=>[(1,[])]
def Pn:List (Int×List Nat)→Bool
 | []=>true
 | (.ofNat 0,_)::r=>Pn r
 | _=>false
section
variable {R:Type} (K:CR R) (env:Nat→R)
theorem oS (x:R) (n:Nat):∀m,nt K x (n+m)=K.add (nt K x n) (nt K x m)
 | 0=>(K.add_zero _).symm
 | m+1=>by show K.add (nt K x (n+m)) x=_; rw[oS x n m,K.add_assoc]; rfl
theorem dB:K.neg K.zero=K.zero:=by
 apply K.add_cancel (a:=K.zero);rw[K.add_neg,K.add_zero]
theorem MA (x:R) (n m:Nat):zt K x (Int.subNatNat n m)=K.add (nt K x n) (K.neg (nt K x m)):=by
 unfold Int.subNatNat;split
 ·rename_i h;have:n=m+(n-m):=by omega
  show nt K x (n-m)=_
  conv=>rhs; rw[this,oS]
  rw[K.add_comm (nt K x m),K.add_assoc,K.add_neg,K.add_zero]
 ·rename_i k h;have:m=n+(k+1):=by omega
  show K.neg (nt K x (k+1))=K.add (nt K x n) (K.neg (nt K x m));rw[this,oS K x n (k+1),K.neg_add' (nt K x n),←K.add_assoc,K.add_neg,K.zero_add]
theorem MB (x:R) (a b:Int):zt K x (a+b)=K.add (zt K x a) (zt K x b):=by
 cases a with
 | ofNat n =>
  cases b with
  | ofNat m=>exact oS K x n m
  | negSucc m=>exact MA K x n (m+1)
 | negSucc n =>
  cases b with
  | ofNat m=>show zt K x (Int.subNatNat m (n+1))=_; rw[MA,K.add_comm]; rfl
  | negSucc m =>
   show K.neg (nt K x (n+m+1+1))=K.add (K.neg (nt K x (n+1))) (K.neg (nt K x (m+1)));rw[←K.neg_add',←oS,show n+1+(m+1)=n+m+1+1 by omega]
theorem mC (x:R) (a:Int):zt K x (-a)=K.neg (zt K x a):=by
 apply K.add_cancel (a:=zt K x a);rw[←MB,K.add_neg,Int.add_right_neg];rfl
theorem CM (x y:R) (n:Nat):∀m,K.mul (nt K x n) (nt K y m)=nt K (K.mul x y) (n*m)
 | 0=>K.mul_zero _
 | m+1=>by
  show K.mul _ (K.add (nt K y m) y)=_;rw[K.mul_add,CM x y n m,Nat.mul_add,Nat.mul_one,oS];congr 1;clear CM
  induction n with
  | zero=>exact K.zero_mul _
  | succ n ih=>show K.mul (K.add (nt K x n) x) y=_; rw[K.add_mul,ih]; rfl
theorem ZR (x y:R) (a b:Int):K.mul (zt K x a) (zt K y b)=zt K (K.mul x y) (a*b):=by
 have hn:∀(c:Int),∃n:Nat,c=n∨c = -(n:Int):=fun c=>⟨c.natAbs,Int.natAbs_eq c⟩
 have h0:∀n m:Nat,K.mul (zt K x n) (zt K y m)=zt K (K.mul x y) ((n:Int)*m):=fun n m=>by
  rw[←Int.natCast_mul]; exact CM K x y n m
 obtain⟨n,rfl|rfl⟩:=hn a
 ·obtain⟨m,rfl|rfl⟩:=hn b
  ·exact h0 n m
  ·rw[mC,K.mul_neg,h0,Int.mul_neg,mC]
 ·obtain⟨m,rfl|rfl⟩:=hn b
  ·rw[mC,K.neg_mul,h0,Int.neg_mul,mC]
  ·rw[mC,mC,K.neg_mul,K.mul_neg,K.neg_neg,h0,Int.neg_mul_neg]
theorem wF (c:Int) (m:List Nat):∀q,fY K env (YR c m q)=K.add (zt K (mono K env m) c) (fY K env q)
 | []=>rfl
 | (d,k)::r=>by
  unfold YR;cases he:Lc m k
  ·cases hl:Pj m k
   ·show K.add (zt K (mono K env k) d) (fY K env (YR c m r))=K.add _ (K.add _ _);rw[wF c m r,K.add_left_comm]
   ·rfl
  ·rw[RA he];show K.add (zt K (mono K env k) (c+d)) (fY K env r)=K.add _ (K.add _ _);rw[MB,K.add_assoc]
theorem rV:∀p q,fY K env (CI p q)=K.add (fY K env p) (fY K env q)
 | [],q=>(K.zero_add _).symm
 | (c,m)::r,q=>by
  show fY K env (YR c m (CI r q))=K.add (K.add _ _) _;rw[wF,rV r q,K.add_assoc]
theorem zK (i:Nat):∀m,mono K env (KI i m)=K.mul (env i) (mono K env m)
 | []=>rfl
 | j::r=>by
  unfold KI;cases Nat.ble i j
  ·show K.mul (env j) (mono K env (KI i r))=K.mul _ (K.mul _ _);rw[zK i r,K.mul_left_comm]
  ·rfl
theorem zC:∀m k,mono K env (PI m k)=K.mul (mono K env m) (mono K env k)
 | [],k=>(K.one_mul _).symm
 | i::r,k=>by
  show mono K env (KI i (PI r k))=K.mul (K.mul _ _) _;rw[zK,zC r k,K.mul_assoc]
theorem uB (c:Int) (m:List Nat):∀q,fY K env (yQ c m q)=K.mul (zt K (mono K env m) c) (fY K env q)
 | []=>(K.mul_zero _).symm
 | (d,k)::r=>by
  show fY K env (YR (c*d) (PI m k) (yQ c m r))=K.mul _ (K.add _ _);rw[wF,uB c m r,K.mul_add,zC,ZR]
theorem yP:∀p q,fY K env (OO p q)=K.mul (fY K env p) (fY K env q)
 | [],q=>(K.zero_mul _).symm
 | (c,m)::r,q=>by
  show fY K env (CI (yQ c m q) (OO r q))=K.mul (K.add _ _) _;rw[rV,uB,yP r q,K.add_mul]
theorem yO:∀p,fY K env (ON p)=K.neg (fY K env p)
 | []=>(dB K).symm
 | (c,m)::r=>by
  show K.add (zt K (mono K env m) (-c)) (fY K env (ON r))=K.neg (K.add _ _);rw[yO r,K.neg_add',mC]
theorem iS:∀e:RE,fY K env e.norm=e.den K env
 | .v i=>by show K.add (K.add K.zero (K.mul (env i) K.one)) K.zero=env i; rw[K.add_zero,K.zero_add,K.mul_one]
 | .add a b=>by show fY K env (CI _ _)=K.add _ _; rw[rV,iS a,iS b]
 | .mul a b=>by show fY K env (OO _ _)=K.mul _ _; rw[yP,iS a,iS b]
 | .neg a=>by show fY K env (ON _)=K.neg _; rw[yO,iS a]
 | .zero=>rfl
 | .one=>by show K.add (K.add K.zero K.one) K.zero=K.one; rw[K.add_zero,K.zero_add]
theorem GH:∀p,Pn p=true→fY K env p=K.zero
 | [],_=>rfl
 | (.ofNat 0,m)::r,h=>by
  show K.add K.zero (fY K env r)=_;rw[K.zero_add];exact GH r h
 | (.ofNat (_+1),_)::_,h=>by cases h
 | (.negSucc _,_)::_,h=>by cases h
theorem aN (a b:RE) (h:Pn (RE.norm (.add a (.neg b)))=true):a.den K env=b.den K env:=by
 have:=GH K env _ h;rw[iS]at this;have h2:K.add (K.add (a.den K env) (K.neg (b.den K env))) (b.den K env)=K.add K.zero (b.den K env):=congrArg (fun x=>K.add x (b.den K env)) this
 rwa [K.add_assoc,K.neg_add,K.add_zero,K.zero_add]at h2
end
def bL {R:Type} (K:CR R) (l:List R) (i:Nat):R:=(l[i]?).getD K.zero
structure FD {R:Type} (K:CR R) (inv:R→R):Prop where
 ne:K.one≠K.zero
 inv:∀x,x≠K.zero→K.mul x (inv x)=K.one
section
variable {R:Type} {K:CR R} {inv:R→R}
theorem FD.zd (h:FD K inv) {a b:R} (e:K.mul a b=K.zero) (ha:a≠K.zero):b=K.zero:=by
 have:=congrArg (K.mul (inv a)) e
 rwa [←K.mul_assoc,K.mul_comm (inv a),h.inv a ha,K.one_mul,K.mul_zero]at this
theorem FD.mul_ne (h:FD K inv) {a b:R} (ha:a≠K.zero) (hb:b≠K.zero):K.mul a b≠K.zero:=fun e=>hb (h.zd e ha)
theorem FD.cancel (h:FD K inv) {a b c:R} (ha:a≠K.zero) (e:K.mul a b=K.mul a c):b=c:=by
 have:=congrArg (K.mul (inv a)) e
 rwa [←K.mul_assoc,←K.mul_assoc,K.mul_comm (inv a),h.inv a ha,K.one_mul,K.one_mul]at this
theorem gG {a b:R} (h:K.add a (K.neg b)=K.zero):a=b:=by
 have h2:K.add (K.add a (K.neg b)) b=K.add K.zero b:=congrArg (fun x=>K.add x b) h
 rwa [K.add_assoc,K.neg_add,K.add_zero,K.zero_add]at h2
theorem dZ {a b:R} (h:a=b):K.add a (K.neg b)=K.zero:=by rw[h,K.add_neg]
theorem gE {A B L1 R1 c1:R} (h1:L1=R1) (e:K.add A (K.neg B)=K.mul c1 (K.add L1 (K.neg R1))):A=B:=by
 apply gG (K:=K);rw[e,dZ h1,K.mul_zero]
theorem jT {A B L1 R1 c1 L2 R2 c2:R} (h1:L1=R1) (h2:L2=R2) (e:K.add A (K.neg B)=K.add (K.mul c1 (K.add L1 (K.neg R1))) (K.mul c2 (K.add L2 (K.neg R2)))):A=B:=by
 apply gG (K:=K);rw[e,dZ h1,dZ h2,K.mul_zero,K.mul_zero,K.add_zero]
theorem pT {A B L1 R1 c1 L2 R2 c2 L3 R3 c3:R} (h1:L1=R1) (h2:L2=R2) (h3:L3=R3) (e:K.add A (K.neg B)=K.add (K.add (K.mul c1 (K.add L1 (K.neg R1))) (K.mul c2 (K.add L2 (K.neg R2)))) (K.mul c3 (K.add L3 (K.neg R3)))):A=B:=by
 apply gG (K:=K);rw[e,dZ h1,dZ h2,dZ h3,K.mul_zero,K.mul_zero,K.mul_zero,K.add_zero,K.add_zero]
end
section
variable {R:Type} (K:CR R)
def tl (f:Nat→R):Nat→R:=fun n=>f (n+1)
def kY:Nat→(Nat→R)→(Nat→R)→R
 | 0,f,g=>K.mul (f 0) (g 0)
 | n+1,f,g=>K.add (K.mul (f 0) (g (n+1))) (kY n (tl f) g)
def KY (f g:Nat→R):Nat→R:=fun n=>K.add (f n) (g n)
def Pr (c:R) (f:Nat→R):Nat→R:=fun n=>K.mul c (f n)
def DF (f g:Nat→R):Nat→R:=fun n=>kY K n f g
def Pv (f:Nat→R):Nat→R:=fun n=>K.neg (f n)
def Ku:Nat→R:=fun _=>K.zero
def Ef (c:R):Nat→R|0=>c|_+1=>K.zero
theorem uT:∀(n:Nat) (f g h:Nat→R),kY K n f (KY K g h)=K.add (kY K n f g) (kY K n f h)
 | 0,f,g,h=>K.mul_add _ _ _
 | n+1,f,g,h=>by
  show K.add (K.mul (f 0) (K.add _ _)) (kY K n (tl f) (KY K g h))=K.add (K.add _ _) (K.add _ _);rw[uT n,K.mul_add,K.add_assoc,K.add_assoc,K.add_left_comm (K.mul (f 0) (h (n+1)))]
theorem uU:∀(n:Nat) (f g h:Nat→R),kY K n (KY K f g) h=K.add (kY K n f h) (kY K n g h)
 | 0,f,g,h=>K.add_mul _ _ _
 | n+1,f,g,h=>by
  show K.add (K.mul (K.add _ _) (h (n+1))) (kY K n (KY K (tl f) (tl g)) h)=K.add (K.add _ _) (K.add _ _);rw[uU n,K.add_mul,K.add_assoc,K.add_assoc,K.add_left_comm (K.mul (g 0) (h (n+1)))]
theorem RQ:∀(n:Nat) (c:R) (f g:Nat→R),kY K n (Pr K c f) g=K.mul c (kY K n f g)
 | 0,c,f,g=>K.mul_assoc _ _ _
 | n+1,c,f,g=>by
  show K.add (K.mul (K.mul c (f 0)) _) (kY K n (Pr K c (tl f)) g)=K.mul c (K.add _ _);rw[RQ n,K.mul_add,K.mul_assoc]
theorem DT:∀(n:Nat) (g:Nat→R),kY K n (Ku K) g=K.zero
 | 0,g=>K.zero_mul _
 | n+1,g=>by
  show K.add (K.mul K.zero _) (kY K n (Ku K) g)=_;rw[DT n,K.zero_mul,K.add_zero]
theorem DV (c:R) (g:Nat→R):∀n,kY K n (Ef K c) g=K.mul c (g n)
 | 0=>rfl
 | n+1=>by
  show K.add (K.mul c _) (kY K n (Ku K) g)=_;rw[DT,K.add_zero]
theorem uS:∀(n:Nat) (f g h:Nat→R),kY K n (DF K f g) h=kY K n f (DF K g h)
 | 0,f,g,h=>K.mul_assoc _ _ _
 | n+1,f,g,h=>by
  have e:tl (DF K f g)=KY K (Pr K (f 0) (tl g)) (DF K (tl f) g):=rfl;show K.add (K.mul (K.mul (f 0) (g 0)) (h (n+1))) (kY K n (tl (DF K f g)) h)=K.add (K.mul (f 0) (K.add (K.mul (g 0) (h (n+1))) (kY K n (tl g) h))) (kY K n (tl f) (DF K g h));rw[e,uU,RQ,uS n,K.mul_add,K.mul_assoc,K.add_assoc]
theorem nW:∀(n:Nat) (f g:Nat→R),kY K n f g=kY K n g f
 | 0,f,g=>K.mul_comm _ _
 | 1,f,g=>by
  show K.add (K.mul (f 0) (g 1)) (K.mul (f 1) (g 0))=K.add (K.mul (g 0) (f 1)) (K.mul (g 1) (f 0));rw[K.add_comm,K.mul_comm (f 1),K.mul_comm (f 0)]
 | n+2,f,g=>by
  show K.add (K.mul (f 0) (g (n+2))) (kY K (n+1) (tl f) g)=K.add (K.mul (g 0) (f (n+2))) (kY K (n+1) (tl g) f);rw[nW (n+1) (tl f) g,nW (n+1) (tl g) f];show K.add (K.mul (f 0) (g (n+2))) (K.add (K.mul (g 0) (f (n+2))) (kY K n (tl g) (tl f)))=K.add (K.mul (g 0) (f (n+2))) (K.add (K.mul (f 0) (g (n+2))) (kY K n (tl f) (tl g)));rw[K.add_left_comm,nW n (tl g) (tl f)]
theorem DU:∀(a b:Nat) (f g:Nat→R),(∀i,a≤i→f i=K.zero)→(∀i,b≤i→g i=K.zero)→∀n,a+b≤n+1→kY K n f g=K.zero
 | 0,b,f,g,hf,hg,n,h=>by
  have:f=Ku K:=funext fun i=>hf i (Nat.zero_le _)
  rw[this,DT]
 | a+1,b,f,g,hf,hg,0,h=>by
  show K.mul (f 0) (g 0)=_;rw[hg 0 (by omega),K.mul_zero]
 | a+1,b,f,g,hf,hg,n+1,h=>by
  show K.add (K.mul (f 0) (g (n+1))) (kY K n (tl f) g)=_;rw[hg (n+1) (by omega),K.mul_zero,K.zero_add];exact DU a b (tl f) g (fun i hi=>hf (i+1) (by omega)) hg n (by omega)
def Pol:Type:={f:Nat→R // ∃n,∀i,n≤i→f i=K.zero}
variable {K}
theorem Pol.ext {f g:Pol K} (h:∀n,f.1 n=g.1 n):f=g:=Subtype.ext (funext h)
def aV:CR (Pol K) where
 add f g:=⟨KY K f.1 g.1,by
  obtain⟨a,ha⟩:=f.2; obtain⟨b,hb⟩:=g.2;exact⟨a+b,fun i hi=>by show K.add (f.1 i) (g.1 i)=_; rw[ha i (by omega),hb i (by omega),K.add_zero]⟩⟩
 mul f g:=⟨DF K f.1 g.1,by
  obtain⟨a,ha⟩:=f.2; obtain⟨b,hb⟩:=g.2;exact⟨a+b,fun i hi=>DU K a b f.1 g.1 ha hb i (by omega)⟩⟩
 neg f:=⟨Pv K f.1,by
  obtain⟨a,ha⟩:=f.2;exact⟨a,fun i hi=>by show K.neg (f.1 i)=_; rw[ha i hi,dB]⟩⟩
 zero:=⟨Ku K,0,fun _ _=>rfl⟩
 one:=⟨Ef K K.one,1,fun i hi=>by cases i with|zero=>omega|succ i=>rfl⟩
 add_assoc a b c:=Pol.ext fun n=>K.add_assoc _ _ _
 add_comm a b:=Pol.ext fun n=>K.add_comm _ _
 zero_add a:=Pol.ext fun n=>K.zero_add _
 neg_add a:=Pol.ext fun n=>K.neg_add _
 mul_assoc a b c:=Pol.ext fun n=>uS K n _ _ _
 mul_comm a b:=Pol.ext fun n=>nW K n _ _
 one_mul a:=Pol.ext fun n=>by show kY K n (Ef K K.one) a.1=_; rw[DV,K.one_mul]
 mul_add a b c:=Pol.ext fun n=>uT K n _ _ _
def fZ (c:R):Pol K:=⟨Ef K c,1,fun i hi=>by cases i with|zero=>omega|succ i=>rfl⟩
def pX:Pol K:=⟨fun n=>match n with|1=>K.one|_=>K.zero,2,fun i hi=>by match i,hi with|i+2,_=>rfl⟩
theorem FG (a b:R):(fZ (K.add a b):Pol K)=aV.add (fZ a) (fZ b):=Pol.ext fun n=>by
 cases n with
 | zero=>rfl
 | succ n=>exact (K.zero_add _).symm
theorem UZ (a:R):(fZ (K.neg a):Pol K)=aV.neg (fZ a):=Pol.ext fun n=>by
 cases n with
 | zero=>rfl
 | succ n=>exact (dB K).symm
theorem qN (a b:R):(fZ (K.mul a b):Pol K)=aV.mul (fZ a) (fZ b):=Pol.ext fun n=>by
 show _=kY K n (Ef K a) (Ef K b);rw[DV];cases n with
 | zero=>rfl
 | succ n=>exact (K.mul_zero _).symm
def dg (f:Pol K) (n:Nat):Prop:=f.1 n≠K.zero∧∀i,n<i→f.1 i=K.zero
theorem RL {f:Pol K} {n:Nat} (h:dg f n):f≠aV.zero:=fun e=>h.1 (by rw[e]; rfl)
theorem Ep {f:Pol K} {n m:Nat} (h:dg f n) (g:dg f m):n=m:=by
 rcases Nat.lt_trichotomy n m with q|q|q
 ·exact absurd (h.2 m q) g.1
 ·exact q
 ·exact absurd (g.2 n q) h.1
theorem GQ (f:Pol K) (h:f≠aV.zero):∃n,dg f n:=by
 obtain⟨b,hb⟩:=f.2;have:∀b,(∀i,b≤i→f.1 i=K.zero)→∃n,dg f n:=by
  intro b
  induction b with
  | zero=>exact fun hb=>absurd (Pol.ext fun n=>hb n (Nat.zero_le _)) h
  | succ b ih =>
   intro hb
   by_cases h0:f.1 b=K.zero
   ·exact ih fun i hi=>by
     rcases Nat.lt_or_ge b i with q|q
     ·exact hb i q
     ·rw[show i=b by omega,h0]
   ·exact⟨b,h0,hb⟩
 exact this b hb
variable {inv:R→R}
theorem GT:∀(a b:Nat) (f g:Nat→R),(∀i,a<i→f i=K.zero)→(∀i,b<i→g i=K.zero)→kY K (a+b) f g=K.mul (f a) (g b)
 | 0,b,f,g,hf,hg=>by
  have:f=Ef K (f 0):=funext fun i=>by cases i with|zero=>rfl|succ i=>exact hf _ (by omega)
  rw[this,DV,Nat.zero_add]; rfl
 | a+1,b,f,g,hf,hg=>by
  rw[show a+1+b=(a+b)+1 by omega];show K.add (K.mul (f 0) (g (a+b+1))) (kY K (a+b) (tl f) g)=_;rw[hg (a+b+1) (by omega),K.mul_zero,K.zero_add];exact GT a b (tl f) g (fun i hi=>hf (i+1) (by omega)) hg
theorem iE (F:FD K inv) {f g:Pol K} {n m:Nat} (hf:dg f n) (hg:dg g m):dg (aV.mul f g) (n+m):=by
 refine⟨?_,fun i hi=>DU K (n+1) (m+1) f.1 g.1 (fun j hj=>hf.2 j hj) (fun j hj=>hg.2 j hj) i (by omega)⟩
 ·show kY K (n+m) f.1 g.1≠_;rw[GT n m f.1 g.1 hf.2 hg.2];exact F.mul_ne hf.1 hg.1
theorem sT {f g:Pol K} {n:Nat} (hf:dg f n) (hg:∀i,n≤i→g.1 i=K.zero):dg (aV.add f g) n:=by
 refine⟨?_,fun i hi => ?_⟩
 ·show K.add (f.1 n) (g.1 n)≠_;rw[hg n (Nat.le_refl _),K.add_zero]; exact hf.1
 ·show K.add (f.1 i) (g.1 i)=_;rw[hf.2 i hi,hg i (by omega),K.add_zero]
theorem Co {a:R} (h:a≠K.zero):K.neg a≠K.zero:=fun e=>h (by rw[←K.neg_neg a,e,dB])
theorem RK {f:Pol K} {n:Nat} (hf:dg f n):dg (aV.neg f) n :=
 ⟨Co hf.1,fun i hi=>by show K.neg (f.1 i)=_; rw[hf.2 i hi,dB]⟩
theorem sS (F:FD K inv) (c:R):dg (aV.sub (pX:Pol K) (fZ c)) 1:=by
 refine⟨?_,fun i hi => ?_⟩
 ·show K.add K.one (K.neg K.zero)≠_;rw[dB,K.add_zero]; exact F.ne
 ·match i,hi with
  | i+2,_=>show K.add K.zero (K.neg K.zero)=_; rw[dB,K.add_zero]
def qP (c:R):Pol K:=aV.add (aV.mul pX (aV.mul pX pX)) (fZ c)
theorem Er (F:FD K inv):dg (pX:Pol K) 1:=⟨F.ne,fun i hi=>by match i,hi with|i+2,_=>rfl⟩
theorem Lw (F:FD K inv) (c:R):dg (qP c:Pol K) 3 :=
 sT (iE F (Er F) (iE F (Er F) (Er F))) fun i hi=>by match i,hi with|i+1,_=>rfl
theorem uF (F:FD K inv) {c k:R} {h:Pol K} (e:aV.mul (aV.sub (pX:Pol K) (fZ c)) h=fZ k):k=K.zero:=by
 by_cases h0:h=aV.zero
 ·rw[h0,aV.mul_zero]at e;exact (congrArg (fun p:Pol K=>p.1 0) e).symm
 ·obtain⟨n,hn⟩:=GQ h h0;have:=iE F (sS F c) hn;rw[e]at this;exact absurd (by rw[Nat.add_comm]; rfl) this.1
end
section
variable {A:Type} {K:CR A}
theorem ZB {M N L1 R1 c1 L2 R2 c2 L3 R3 c3 L4 R4 c4:A} (h1:L1=R1) (h2:L2=R2) (h3:L3=R3) (h4:L4=R4) (e:K.add M (K.neg N)=K.add (K.add (K.add (K.mul c1 (K.add L1 (K.neg R1))) (K.mul c2 (K.add L2 (K.neg R2)))) (K.mul c3 (K.add L3 (K.neg R3)))) (K.mul c4 (K.add L4 (K.neg R4)))):M=N:=by
 apply gG (K:=K);rw[e,dZ h1,dZ h2,dZ h3,dZ h4,K.mul_zero,K.mul_zero,K.mul_zero,K.mul_zero,K.add_zero,K.add_zero,K.add_zero]
def op (K:CR A) (X Y x y:A) (S:A→Prop):A→Prop:=fun z=>∃s t,S s∧S t∧z=K.add (K.mul (K.sub X x) s) (K.mul (K.sub Y y) t)
structure Idl (K:CR A) (S:A→Prop):Prop where
 add:∀a b,S a→S b→S (K.add a b)
 mul:∀a c,S a→S (K.mul c a)
theorem Idl.neg {S:A→Prop} (h:Idl K S) {a:A} (ha:S a):S (K.neg a):=by
 have:=h.mul a (K.neg K.one) ha
 rwa [K.neg_mul,K.one_mul]at this
theorem Idl.sub {S:A→Prop} (h:Idl K S) {a b:A} (ha:S a) (hb:S b):S (K.sub a b):=h.add _ _ ha (h.neg hb)
def Eqv (K:CR A) (S T:A→Prop):Prop:=∃a b,a≠K.zero∧b≠K.zero∧(∀s,S s→∃t,T t∧K.mul a s=K.mul b t)∧(∀t,T t→∃s,S s∧K.mul a s=K.mul b t)
def Nb (K:CR A):Prop:=K.one≠K.zero∧∀a b,a≠K.zero→b≠K.zero→K.mul a b≠K.zero
theorem Eqv.refl (D:Nb K) (S:A→Prop):Eqv K S S:=⟨K.one,K.one,D.1,D.1,fun s h=>⟨s,h,rfl⟩,fun s h=>⟨s,h,rfl⟩⟩
theorem Eqv.symm {S T:A→Prop} (h:Eqv K S T):Eqv K T S:=by
 obtain⟨a,b,ha,hb,h1,h2⟩:=h;exact⟨b,a,hb,ha,fun t ht=>by obtain⟨s,hs,e⟩:=h2 t ht; exact⟨s,hs,e.symm⟩,fun s hs=>by obtain⟨t,ht,e⟩:=h1 s hs; exact⟨t,ht,e.symm⟩⟩
theorem Eqv.trans (D:Nb K) {S T U:A→Prop} (h:Eqv K S T) (g:Eqv K T U):Eqv K S U:=by
 obtain⟨a,b,ha,hb,h1,h2⟩:=h;obtain⟨c,d,hc,hd,g1,g2⟩:=g;have key:∀s t u,K.mul a s=K.mul b t→K.mul c t=K.mul d u→K.mul (K.mul c a) s=K.mul (K.mul b d) u:=fun s t u e f=>by
  rw[K.mul_assoc,e,K.mul_left_comm,f,K.mul_assoc]
 refine⟨K.mul c a,K.mul b d,D.2 _ _ hc ha,D.2 _ _ hb hd,fun s hs => ?_,fun u hu => ?_⟩
 ·obtain⟨t,ht,e⟩:=h1 s hs;obtain⟨u,hu,f⟩:=g1 t ht;exact⟨u,hu,key s t u e f⟩
 ·obtain⟨t,ht,f⟩:=g2 u hu;obtain⟨s,hs,e⟩:=h2 t ht;exact⟨s,hs,key s t u e f⟩
variable {X Y:A}
theorem yW {x y al be s s2 t t2:A} (e:K.mul al s=K.mul be t) (f:K.mul al s2=K.mul be t2):K.mul al (K.add (K.mul (K.sub X x) s) (K.mul (K.sub Y y) s2))=K.mul be (K.add (K.mul (K.sub X x) t) (K.mul (K.sub Y y) t2)) :=
 jT (K:=K) (c1:=(K.sub X x)) (c2:=(K.sub Y y)) e f (aN K (bL K [al,X,x,s,Y,y,s2,be,t,t2]) (Z0*((Z1-Z2)*Z3+(Z4-Z5)*Z6)-Z7*((Z1-Z2)*Z8+(Z4-Z5)*Z9)) ((Z1-Z2)*(Z0*Z3-Z7*Z8)+(Z4-Z5)*(Z0*Z6-Z7*Z9)) (by kernel_rfl))
theorem Eqv.op {S T:A→Prop} (x y:A) (h:Eqv K S T):Eqv K (op K X Y x y S) (op K X Y x y T):=by
 obtain⟨a,b,ha,hb,h1,h2⟩:=h;refine⟨a,b,ha,hb,?_,?_⟩
 ·rintro z ⟨s,s2,hs,hs2,rfl⟩
  obtain⟨t,ht,e⟩:=h1 s hs;obtain⟨t2,ht2,f⟩:=h1 s2 hs2;exact⟨_,⟨t,t2,ht,ht2,rfl⟩,yW e f⟩
 ·rintro z ⟨t,t2,ht,ht2,rfl⟩
  obtain⟨s,hs,e⟩:=h2 t ht;obtain⟨s2,hs2,f⟩:=h2 t2 ht2;exact⟨_,⟨s,s2,hs,hs2,rfl⟩,yW e f⟩
theorem yV {S:A→Prop} (x y x' y':A) {z:A} (h:op K X Y x y (op K X Y x' y' S) z):op K X Y x' y' (op K X Y x y S) z:=by
 obtain⟨_,_,⟨a,bb,ha,hb,rfl⟩,⟨c,d,hc,hd,rfl⟩,rfl⟩:=h;exact⟨_,_,⟨a,c,ha,hc,rfl⟩,⟨bb,d,hb,hd,rfl⟩,aN K (bL K [X,x,x',a,Y,y',bb,y,c,d]) ((Z0-Z1)*((Z0-Z2)*Z3+(Z4-Z5)*Z6)+(Z4-Z7)*((Z0-Z2)*Z8+(Z4-Z5)*Z9)) ((Z0-Z2)*((Z0-Z1)*Z3+(Z4-Z7)*Z8)+(Z4-Z5)*((Z0-Z1)*Z6+(Z4-Z7)*Z9)) (by kernel_rfl)⟩
theorem VB {S:A→Prop} (x y x' y':A):op K X Y x y (op K X Y x' y' S)=op K X Y x' y' (op K X Y x y S) :=
 funext fun z=>propext ⟨yV x y x' y',yV x' y' x y⟩
theorem OV {S:A→Prop} (h:Idl K S) (x y:A):Idl K (op K X Y x y S) where
 add:=by
  rintro _ _ ⟨a,b,ha,hb,rfl⟩ ⟨c,d,hc,hd,rfl⟩
  exact⟨_,_,h.add a c ha hc,h.add b d hb hd,aN K (bL K [X,x,a,Y,y,b,c,d]) ((Z0-Z1)*Z2+(Z3-Z4)*Z5+((Z0-Z1)*Z6+(Z3-Z4)*Z7)) ((Z0-Z1)*(Z2+Z6)+(Z3-Z4)*(Z5+Z7)) (by kernel_rfl)⟩
 mul:=by
  rintro _ c ⟨a,b,ha,hb,rfl⟩
  exact⟨_,_,h.mul a c ha,h.mul b c hb,aN K (bL K [c,X,x,a,Y,y,b]) (Z0*((Z1-Z2)*Z3+(Z4-Z5)*Z6)) ((Z1-Z2)*(Z0*Z3)+(Z4-Z5)*(Z0*Z6)) (by kernel_rfl)⟩
theorem Cd {b x y k:A} (hY:K.mul Y Y=K.add (K.mul X (K.mul X X)) b) (hy:K.mul y y=K.add (K.mul x (K.mul x x)) b) (hk:K.mul k (K.add y y)=K.one) (D:Nb K) (hX:K.sub X x≠K.zero) {S:A→Prop} (h:Idl K S):Eqv K (op K X Y x y (op K X Y x (K.neg y) S)) S:=by
 refine⟨K.one,K.sub X x,D.1,hX,?_,?_⟩
 ·rintro _ ⟨_,_,⟨a,bb,ha,hb,rfl⟩,⟨c,d,hc,hd,rfl⟩,rfl⟩
  refine⟨(K.add (K.add (K.add (K.mul (K.sub X x) a) (K.mul (K.sub Y (K.neg y)) bb)) (K.mul (K.sub Y y) c)) (K.mul (K.add (K.add (K.mul X X) (K.mul x X)) (K.mul x x)) d)),h.add _ _ (h.add _ _ (h.add _ _ (h.mul _ _ ha) (h.mul _ _ hb)) (h.mul _ _ hc)) (h.mul _ _ hd),?_⟩;rw[K.one_mul];exact jT (K:=K) (c1:=d) (c2:=(K.neg d)) hY hy (aN K (bL K [X,x,a,Y,y,bb,c,d,b]) ((Z0-Z1)*((Z0-Z1)*Z2+(Z3-(-Z4))*Z5)+(Z3-Z4)*((Z0-Z1)*Z6+(Z3-(-Z4))*Z7)-(Z0-Z1)*((Z0-Z1)*Z2+(Z3-(-Z4))*Z5+(Z3-Z4)*Z6+(Z0*Z0+Z1*Z0+Z1*Z1)*Z7)) (Z7*(Z3*Z3-(Z0*(Z0*Z0)+Z8))+(-Z7)*(Z4*Z4-(Z1*(Z1*Z1)+Z8))) (by kernel_rfl))
 ·intro t ht;refine⟨_,⟨_,_,⟨_,_,h.mul t K.zero ht,h.mul t k ht,rfl⟩,⟨_,_,h.mul t (K.neg k) ht,h.mul t K.zero ht,rfl⟩,rfl⟩,?_⟩;rw[K.one_mul];exact gE (K:=K) (c1:=(K.mul (K.sub X x) t)) hk (aN K (bL K [X,x,t,Y,y,k]) ((Z0-Z1)*((Z0-Z1)*(RE.zero*Z2)+(Z3-(-Z4))*(Z5*Z2))+(Z3-Z4)*((Z0-Z1)*((-Z5)*Z2)+(Z3-(-Z4))*(RE.zero*Z2))-(Z0-Z1)*Z2) ((Z0-Z1)*Z2*(Z5*(Z4+Z4)-RE.one)) (by kernel_rfl))
theorem KC {b x1 y1 x2 l:A} (hY:K.mul Y Y=K.add (K.mul X (K.mul X X)) b) (H2:(K.mul l (K.add y1 (K.add y1 (K.mul l (K.sub x2 x1)))))=(K.add (K.add (K.mul x1 x1) (K.mul x1 x2)) (K.mul x2 x2))) (H3:(K.mul y1 y1)=(K.add (K.mul x1 (K.mul x1 x1)) b)):(K.mul (K.sub X x1) (K.mul (K.sub X x2) (K.sub X (K.sub (K.sub (K.mul l l) x1) x2))))=(K.mul (K.sub (K.sub Y y1) (K.mul l (K.sub X x1))) (K.add (K.sub Y (K.sub (K.mul l (K.sub x1 (K.sub (K.sub (K.mul l l) x1) x2))) y1)) (K.mul l (K.sub X (K.sub (K.sub (K.mul l l) x1) x2))))) :=
 pT (K:=K) (c1:=(K.neg K.one)) (c2:=K.one) (c3:=(K.sub X x1)) hY H3 H2 (aN K (bL K [X,x1,x2,l,Y,y1,b]) ((Z0-Z1)*((Z0-Z2)*(Z0-(Z3*Z3-Z1-Z2)))-(Z4-Z5-Z3*(Z0-Z1))*(Z4-(Z3*(Z1-(Z3*Z3-Z1-Z2))-Z5)+Z3*(Z0-(Z3*Z3-Z1-Z2)))) ((-RE.one)*(Z4*Z4-(Z0*(Z0*Z0)+Z6))+RE.one*(Z5*Z5-(Z1*(Z1*Z1)+Z6))+(Z0-Z1)*(Z3*(Z5+(Z5+Z3*(Z2-Z1)))-(Z1*Z1+Z1*Z2+Z2*Z2))) (by kernel_rfl))
theorem Cc {b x1 y1 x2 l:A} (hY:K.mul Y Y=K.add (K.mul X (K.mul X X)) b) (H2:(K.mul l (K.add y1 (K.add y1 (K.mul l (K.sub x2 x1)))))=(K.add (K.add (K.mul x1 x1) (K.mul x1 x2)) (K.mul x2 x2))) (H3:(K.mul y1 y1)=(K.add (K.mul x1 (K.mul x1 x1)) b)) (hk:(∃k,K.mul k (K.add y1 (K.add y1 (K.mul l (K.sub x2 x1))))=K.one)∨(∃k,K.mul k (K.sub x2 x1)=K.one)) (hX:K.sub X (K.sub (K.sub (K.mul l l) x1) x2)≠K.zero) (hl:(K.sub (K.sub Y y1) (K.mul l (K.sub X x1)))≠K.zero) {S:A→Prop} (h:Idl K S):Eqv K (op K X Y x1 y1 (op K X Y x2 (K.add y1 (K.mul l (K.sub x2 x1))) S)) (op K X Y (K.sub (K.sub (K.mul l l) x1) x2) (K.sub (K.mul l (K.sub x1 (K.sub (K.sub (K.mul l l) x1) x2))) y1) S):=by
 have HC:=KC (X:=X) (Y:=Y) hY H2 H3;refine⟨K.sub X (K.sub (K.sub (K.mul l l) x1) x2),(K.sub (K.sub Y y1) (K.mul l (K.sub X x1))),hX,hl,?_,?_⟩
 ·rintro _ ⟨_,_,⟨a,bb,ha,hb,rfl⟩,⟨c,d,hc,hd,rfl⟩,rfl⟩
  exact⟨_,⟨(K.add (K.add (K.add (K.mul l a) (K.mul (K.add (K.sub X x1) (K.mul l l)) bb)) (K.mul (K.add (K.sub X x2) (K.mul l l)) c)) (K.mul (K.add (K.add (K.add (K.sub (K.sub Y y1) (K.mul l (K.sub X x1))) (K.mul l (K.sub X x1))) (K.mul l (K.sub X x2))) (K.mul l (K.mul l l))) d)),(K.add (K.add (K.add a (K.mul l bb)) (K.mul l c)) (K.mul (K.mul l l) d)),h.add _ _ (h.add _ _ (h.add _ _ (h.mul _ _ ha) (h.mul _ _ hb)) (h.mul _ _ hc)) (h.mul _ _ hd),h.add _ _ (h.add _ _ (h.add _ _ ha (h.mul _ _ hb)) (h.mul _ _ hc)) (h.mul _ _ hd),rfl⟩,gE (K:=K) (c1:=(K.add (K.add (K.add a (K.mul l bb)) (K.mul l c)) (K.mul (K.mul l l) d))) HC (aN K (bL K [X,l,x1,x2,a,Y,y1,bb,c,d]) ((Z0-(Z1*Z1-Z2-Z3))*((Z0-Z2)*((Z0-Z3)*Z4+(Z5-(Z6+Z1*(Z3-Z2)))*Z7)+(Z5-Z6)*((Z0-Z3)*Z8+(Z5-(Z6+Z1*(Z3-Z2)))*Z9))-(Z5-Z6-Z1*(Z0-Z2))*((Z0-(Z1*Z1-Z2-Z3))*(Z1*Z4+(Z0-Z2+Z1*Z1)*Z7+(Z0-Z3+Z1*Z1)*Z8+(Z5-Z6-Z1*(Z0-Z2)+Z1*(Z0-Z2)+Z1*(Z0-Z3)+Z1*(Z1*Z1))*Z9)+(Z5-(Z1*(Z2-(Z1*Z1-Z2-Z3))-Z6))*(Z4+Z1*Z7+Z1*Z8+Z1*Z1*Z9))) ((Z4+Z1*Z7+Z1*Z8+Z1*Z1*Z9)*((Z0-Z2)*((Z0-Z3)*(Z0-(Z1*Z1-Z2-Z3)))-(Z5-Z6-Z1*(Z0-Z2))*(Z5-(Z1*(Z2-(Z1*Z1-Z2-Z3))-Z6)+Z1*(Z0-(Z1*Z1-Z2-Z3))))) (by kernel_rfl))⟩
 ·rintro _ ⟨u,w,hu,hw,rfl⟩
  have hg:S (K.sub u (K.mul l w)):=h.sub hu (h.mul _ _ hw);have e0:K.mul (K.sub (K.sub Y y1) (K.mul l (K.sub X x1))) (K.add (K.mul (K.sub X (K.sub (K.sub (K.mul l l) x1) x2)) u) (K.mul (K.sub Y (K.sub (K.mul l (K.sub x1 (K.sub (K.sub (K.mul l l) x1) x2))) y1)) w))=K.mul (K.sub X (K.sub (K.sub (K.mul l l) x1) x2)) (K.add (K.mul (K.sub (K.sub Y y1) (K.mul l (K.sub X x1))) (K.sub u (K.mul l w))) (K.mul (K.sub X x1) (K.mul (K.sub X x2) w))) :=
   gE (K:=K) (c1:=(K.neg w)) HC (aN K (bL K [Y,y1,l,X,x1,x2,u,w]) ((Z0-Z1-Z2*(Z3-Z4))*((Z3-(Z2*Z2-Z4-Z5))*Z6+(Z0-(Z2*(Z4-(Z2*Z2-Z4-Z5))-Z1))*Z7)-(Z3-(Z2*Z2-Z4-Z5))*((Z0-Z1-Z2*(Z3-Z4))*(Z6-Z2*Z7)+(Z3-Z4)*((Z3-Z5)*Z7))) ((-Z7)*((Z3-Z4)*((Z3-Z5)*(Z3-(Z2*Z2-Z4-Z5)))-(Z0-Z1-Z2*(Z3-Z4))*(Z0-(Z2*(Z4-(Z2*Z2-Z4-Z5))-Z1)+Z2*(Z3-(Z2*Z2-Z4-Z5))))) (by kernel_rfl))
  generalize hge:(K.sub u (K.mul l w))=g at hg e0;rw[e0]
  rcases hk with⟨k,hk⟩|⟨k,hk⟩
  ·refine⟨_,⟨_,_,⟨_,_,h.add _ _ (h.mul g (K.mul k (K.add (K.add X x1) x2)) hg) hw,h.mul g K.zero hg,rfl⟩,⟨_,_,h.mul g K.zero hg,h.mul g (K.neg k) hg,rfl⟩,rfl⟩,congrArg (K.mul _) ?_⟩;exact ZB (K:=K) (c1:=(K.mul (K.sub (K.sub Y y1) (K.mul l (K.sub X x1))) g)) (c2:=(K.neg (K.mul k g))) (c3:=(K.mul k g)) (c4:=(K.mul (K.mul k g) (K.sub X x1))) hk hY H3 H2 (aN K (bL K [X,x1,x2,k,g,w,Y,y1,l,b]) ((Z0-Z1)*((Z0-Z2)*(Z3*(Z0+Z1+Z2)*Z4+Z5)+(Z6-(Z7+Z8*(Z2-Z1)))*(RE.zero*Z4))+(Z6-Z7)*((Z0-Z2)*(RE.zero*Z4)+(Z6-(Z7+Z8*(Z2-Z1)))*((-Z3)*Z4))-((Z6-Z7-Z8*(Z0-Z1))*Z4+(Z0-Z1)*((Z0-Z2)*Z5))) ((Z6-Z7-Z8*(Z0-Z1))*Z4*(Z3*(Z7+(Z7+Z8*(Z2-Z1)))-RE.one)+(-(Z3*Z4))*(Z6*Z6-(Z0*(Z0*Z0)+Z9))+Z3*Z4*(Z7*Z7-(Z1*(Z1*Z1)+Z9))+Z3*Z4*(Z0-Z1)*(Z8*(Z7+(Z7+Z8*(Z2-Z1)))-(Z1*Z1+Z1*Z2+Z2*Z2))) (by kernel_rfl))
  ·refine⟨_,⟨_,_,⟨_,_,hw,h.mul g k hg,rfl⟩,⟨_,_,h.mul g (K.neg k) hg,h.mul g K.zero hg,rfl⟩,rfl⟩,congrArg (K.mul _) ?_⟩;exact gE (K:=K) (c1:=(K.mul (K.sub (K.sub Y y1) (K.mul l (K.sub X x1))) g)) hk (aN K (bL K [X,x1,x2,w,Y,y1,l,k,g]) ((Z0-Z1)*((Z0-Z2)*Z3+(Z4-(Z5+Z6*(Z2-Z1)))*(Z7*Z8))+(Z4-Z5)*((Z0-Z2)*((-Z7)*Z8)+(Z4-(Z5+Z6*(Z2-Z1)))*(RE.zero*Z8))-((Z4-Z5-Z6*(Z0-Z1))*Z8+(Z0-Z1)*((Z0-Z2)*Z3))) ((Z4-Z5-Z6*(Z0-Z1))*Z8*(Z7*(Z2-Z1)-RE.one)) (by kernel_rfl))
end
open Classical
section
variable {R:Type} {K:CR R} {inv:R→R}
def dP (K:CR R) (b:R):CR (Pol K×Pol K):=(aV (K:=K)).sq (qP b)
def cX:Pol K×Pol K:=(pX,aV.zero)
def cY:Pol K×Pol K:=(aV.zero,aV.one)
def cc (k:R):Pol K×Pol K:=(fZ k,aV.zero)
variable (b:R)
theorem lC (x y:R):(cc (K.add x y):Pol K×Pol K)=(dP K b).add (cc x) (cc y):=Prod.ext (FG x y) (aV.zero_add _).symm
theorem RX (x:R):(cc (K.neg x):Pol K×Pol K)=(dP K b).neg (cc x):=Prod.ext (UZ x) (dB aV).symm
theorem sV (x y:R):(cc (K.sub x y):Pol K×Pol K)=(dP K b).sub (cc x) (cc y):=by
 show cc (K.add _ _)=(dP K b).add _ _;rw[lC b,RX b]
theorem jP (x y:R):(cc (K.mul x y):Pol K×Pol K)=(dP K b).mul (cc x) (cc y):=by
 refine Prod.ext ?_ ?_
 ·show fZ (K.mul x y)=aV.add (aV.mul (fZ x) (fZ y)) (aV.mul (qP b) (aV.mul aV.zero aV.zero));rw[aV.mul_zero,aV.mul_zero,aV.add_zero,qN]
 ·show aV.zero=aV.add (aV.mul (fZ x) aV.zero) (aV.mul aV.zero (fZ y));rw[aV.mul_zero,aV.zero_mul,aV.add_zero]
theorem RU:(cc K.one:Pol K×Pol K)=(dP K b).one:=rfl
theorem Me:(dP K b).mul cY cY=(dP K b).add ((dP K b).mul cX ((dP K b).mul cX cX)) (cc b):=by
 refine Prod.ext ?_ ?_
 ·show aV.add (aV.mul aV.zero aV.zero) (aV.mul (qP b) (aV.mul aV.one aV.one))=aV.add (aV.add (aV.mul pX (aV.add (aV.mul pX pX) (aV.mul (qP b) (aV.mul aV.zero aV.zero)))) (aV.mul (qP b) (aV.mul aV.zero (aV.add (aV.mul pX aV.zero) (aV.mul aV.zero pX))))) (fZ b);simp only[aV.mul_zero,aV.zero_mul,aV.add_zero,aV.zero_add,aV.mul_one];rfl
 ·show aV.add (aV.mul aV.zero aV.one) (aV.mul aV.one aV.zero)=aV.add (aV.add (aV.mul pX (aV.add (aV.mul pX aV.zero) (aV.mul aV.zero pX))) (aV.mul aV.zero (aV.add (aV.mul pX pX) (aV.mul (qP b) (aV.mul aV.zero aV.zero))))) aV.zero;simp only[aV.mul_zero,aV.zero_mul,aV.add_zero,aV.zero_add,aV.mul_one]
def nrm (f:Pol K×Pol K):Pol K:=aV.sub (aV.mul f.1 f.1) (aV.mul (qP b) (aV.mul f.2 f.2))
theorem FU (f g:Pol K×Pol K):nrm b ((dP K b).mul f g)=aV.mul (nrm b f) (nrm b g) :=
 aN aV (bL aV [f.1,g.1,qP b,f.2,g.2]) ((Z0*Z1+Z2*(Z3*Z4))*(Z0*Z1+Z2*(Z3*Z4))-Z2*((Z0*Z4+Z3*Z1)*(Z0*Z4+Z3*Z1))) ((Z0*Z0-Z2*(Z3*Z3))*(Z1*Z1-Z2*(Z4*Z4))) (by kernel_rfl)
theorem vY (F:FD K inv) (f:Pol K×Pol K) (h:f≠(dP K b).zero):∃d,dg (nrm b f) d∧d≠1:=by
 have hq:dg (qP b:Pol K) 3:=Lw F b
 by_cases h2:f.2=aV.zero
 ·have h1:f.1≠aV.zero:=fun e=>h (Prod.ext e h2)
  obtain⟨n,hn⟩:=GQ _ h1;refine⟨n+n,?_,by omega⟩;unfold nrm;rw[h2,aV.mul_zero,aV.mul_zero];show dg (aV.add _ (aV.neg aV.zero)) _;rw[dB,aV.add_zero];exact iE F hn hn
 ·obtain⟨m,hm⟩:=GQ _ h2;have hr:=iE F hq (iE F hm hm)
  by_cases h1:f.1=aV.zero
  ·refine⟨3+(m+m),?_,by omega⟩;unfold nrm;rw[h1,aV.mul_zero];show dg (aV.add _ _) _;rw[aV.zero_add];exact RK hr
  ·obtain⟨n,hn⟩:=GQ _ h1;have hl:=iE F hn hn;have hr':=RK hr
   rcases Nat.lt_or_ge (n+n) (3+(m+m))with q|q
   ·refine⟨3+(m+m),?_,by omega⟩;show dg (aV.add _ _) _;rw[aV.add_comm];exact sT hr' fun i hi=>hl.2 i (by omega)
   ·refine⟨n+n,?_,by omega⟩;exact sT hl fun i hi=>hr'.2 i (by omega)
theorem jN (F:FD K inv):Nb (dP K b):=by
 refine⟨fun e=>F.ne (congrArg (fun z:Pol K×Pol K=>z.1.1 0) e),fun f g hf hg e => ?_⟩;obtain⟨n,hn,_⟩:=vY b F f hf;obtain⟨m,hm,_⟩:=vY b F g hg;have h:=RL (iE F hn hm);rw[←FU,e]at h;refine h ?_;show aV.sub (aV.mul aV.zero aV.zero) (aV.mul (qP b) (aV.mul aV.zero aV.zero))=_;rw[aV.mul_zero,aV.mul_zero];exact aV.add_neg _
theorem DQ {A:Type} {C:CR A} (D:Nb C) {a s t:A} (ha:a≠C.zero) (e:C.mul a s=C.mul a t):s=t:=by
 apply gG (K:=C)
 by_cases h:C.add s (C.neg t)=C.zero
 ·exact h
 ·exact absurd (by rw[C.mul_add,C.mul_neg,e,C.add_neg]) (D.2 _ _ ha h)
def xE {A:Type}:A→Prop:=fun _=>True
theorem iM {A:Type} (C:CR A):Idl C xE:=⟨fun _ _ _ _=>trivial,fun _ _ _=>trivial⟩
theorem AD (f:Pol K×Pol K):(dP K b).mul f (f.1,aV.neg f.2)=(nrm b f,aV.zero):=by
 refine Prod.ext ?_ ?_
 ·exact aN aV (bL aV [f.1,qP b,f.2]) (Z0*Z0+Z1*(Z2*(-Z2))) (Z0*Z0-Z1*(Z2*Z2)) (by kernel_rfl)
 ·exact aN aV (bL aV [f.1,f.2]) (Z0*(-Z1)+Z1*Z0) .zero (by kernel_rfl)
theorem OE {x y:R} (h:K.mul y y=K.add (K.mul x (K.mul x x)) b):(qP b:Pol K)=aV.add (aV.mul (fZ y) (fZ y)) (aV.mul (aV.sub pX (fZ x)) (aV.add (aV.mul pX pX) (aV.add (aV.mul (fZ x) pX) (aV.mul (fZ x) (fZ x))))):=by
 have e:aV.mul (fZ y) (fZ y)=aV.add (aV.mul (fZ x) (aV.mul (fZ x) (fZ x))) (fZ b:Pol K):=by
  rw[←qN,←qN,←qN,←FG,h]
 rw[e];exact aN aV (bL aV [pX,fZ b,fZ x]) (Z0*(Z0*Z0)+Z1) (Z2*(Z2*Z2)+Z1+(Z0-Z2)*(Z0*Z0+(Z2*Z0+Z2*Z2))) (by kernel_rfl)
theorem Jj (F:FD K inv) {x y:R} (h:K.mul y y=K.add (K.mul x (K.mul x x)) b):¬Eqv (dP K b) (op (dP K b) cX cY (cc x) (cc y) xE) xE:=by
 rintro⟨a,e,ha,he,h1,h2⟩
 have D:=jN (K:=K) b F;obtain⟨f,hf,e1⟩:=h2 (dP K b).one trivial;rw[(dP K b).mul_one]at e1;have hm:∀g,op (dP K b) cX cY (cc x) (cc y) xE g→∃t,g=(dP K b).mul f t:=fun g hg=>by
  obtain⟨t,_,e2⟩:=h1 g hg;rw[←e1,(dP K b).mul_assoc]at e2;exact⟨t,DQ D ha e2⟩
 have sz:∀z:Pol K×Pol K,(dP K b).sub z (dP K b).zero=z:=fun z=>by
  show (dP K b).add z ((dP K b).neg _)=z;rw[dB,(dP K b).add_zero]
 obtain⟨t,ht⟩:=hm ((dP K b).sub cX (cc x)) ⟨(dP K b).one,(dP K b).zero,trivial,trivial,by rw[(dP K b).mul_one,(dP K b).mul_zero,(dP K b).add_zero]⟩;obtain⟨t',ht'⟩:=hm ((dP K b).sub cY (cc y)) ⟨(dP K b).zero,(dP K b).one,trivial,trivial,by rw[(dP K b).mul_one,(dP K b).mul_zero,(dP K b).zero_add]⟩;have hX:(dP K b).sub cX (cc x)=(aV.sub pX (fZ x),aV.zero):=Prod.ext rfl (by show aV.add aV.zero (aV.neg aV.zero)=_; rw[dB,aV.add_zero]);have hXn:(dP K b).sub cX (cc x)≠(dP K b).zero:=fun q=>RL (sS (K:=K) F x) (congrArg Prod.fst q)
 have hf0:f≠(dP K b).zero:=fun q=>hXn (by rw[ht,q,(dP K b).zero_mul])
 have ht0:t≠(dP K b).zero:=fun q=>hXn (by rw[ht,q,(dP K b).mul_zero])
 obtain⟨n,hn,n1⟩:=vY b F f hf0;obtain⟨m,hm',m1⟩:=vY b F t ht0;have hnm:n+m=2:=by
  have e3:=iE F hn hm';rw[←FU,←ht,hX]at e3;have e4:nrm b (aV.sub pX (fZ x),aV.zero)=aV.mul (aV.sub pX (fZ x)) (aV.sub (pX:Pol K) (fZ x)):=by
   show aV.add (aV.mul _ _) (aV.neg (aV.mul _ (aV.mul aV.zero aV.zero)))=_;rw[aV.mul_zero,aV.mul_zero,dB,aV.add_zero]
  rw[e4]at e3;exact Ep e3 (iE F (sS F x) (sS F x))
 have hc:∀p:Pol K,dg p 0→p=fZ (p.1 0):=fun p hp=>Pol.ext fun i=>by
  cases i with
  | zero=>rfl
  | succ i=>exact hp.2 _ (by omega)
 have h02:n=0∨m=0:=by omega
 rcases h02 with q0|q0
 ·subst q0;obtain⟨s,r,_,_,e5⟩:=(OV (iM (dP K b)) (cc x) (cc y)).mul f (f.1,aV.neg f.2) hf;rw[(dP K b).mul_comm,AD,hX]at e5;have c1:nrm b f=aV.add (aV.add (aV.mul (aV.sub pX (fZ x)) s.1) (aV.mul (qP b) (aV.mul aV.zero s.2))) (aV.add (aV.mul (aV.add aV.zero (aV.neg (fZ y))) r.1) (aV.mul (qP b) (aV.mul (aV.add aV.one (aV.neg aV.zero)) r.2))):=congrArg Prod.fst e5;have c2:aV.zero=aV.add (aV.add (aV.mul (aV.sub pX (fZ x)) s.2) (aV.mul aV.zero s.1)) (aV.add (aV.mul (aV.add aV.zero (aV.neg (fZ y))) r.2) (aV.mul (aV.add aV.one (aV.neg aV.zero)) r.1)):=congrArg Prod.snd e5;have hs:=OE b h;refine hn.1 (uF F (c:=x) (h:=(aV.add s.1 (aV.add (aV.mul (aV.add (aV.mul pX pX) (aV.add (aV.mul (fZ x) pX) (aV.mul (fZ x) (fZ x)))) r.2) (aV.mul (fZ y) s.2)))) ?_);rw[←hc _ hn,c1];refine Eq.symm ?_;exact jT (K:=aV) (c1:=(fZ y)) (c2:=r.2) c2 hs (aN aV (bL aV [pX,fZ x,s.1,qP b,s.2,fZ y,r.1,r.2]) ((Z0-Z1)*Z2+Z3*(RE.zero*Z4)+((RE.zero-Z5)*Z6+Z3*((RE.one-RE.zero)*Z7))-(Z0-Z1)*(Z2+((Z0*Z0+(Z1*Z0+Z1*Z1))*Z7+Z5*Z4))) (Z5*(RE.zero-((Z0-Z1)*Z4+RE.zero*Z2+((RE.zero-Z5)*Z7+(RE.one-RE.zero)*Z6)))+Z7*(Z3-(Z5*Z5+(Z0-Z1)*(Z0*Z0+(Z1*Z0+Z1*Z1))))) (by kernel_rfl))
 ·subst q0;have e6:(dP K b).mul ((dP K b).sub cX (cc x)) ((dP K b).mul t' (t.1,aV.neg t.2))=(dP K b).mul ((dP K b).sub cY (cc y)) (nrm b t,aV.zero):=by
   rw[←AD,ht,ht'];generalize ((t.1,aV.neg t.2):Pol K×Pol K)=w;exact aN (dP K b) (bL (dP K b) [f,t,t',w]) (Z0*Z1*(Z2*Z3)) (Z0*Z2*(Z1*Z3)) (by kernel_rfl)
  rw[hX]at e6;generalize (dP K b).mul t' (t.1,aV.neg t.2)=w at e6;have c2:aV.add (aV.mul (aV.sub pX (fZ x)) w.2) (aV.mul aV.zero w.1)=aV.add (aV.mul (aV.add aV.zero (aV.neg (fZ y))) aV.zero) (aV.mul (aV.add aV.one (aV.neg aV.zero)) (nrm b t)):=congrArg Prod.snd e6;rw[aV.zero_mul,aV.add_zero,aV.mul_zero,aV.zero_add,dB,aV.add_zero,aV.one_mul,hc _ hm']at c2;exact hm'.1 (uF F c2)
end
structure EC {R:Type} (K:CR R) (inv:R→R) (b:R):Prop where
 F:FD K inv
 two:K.add K.one K.one≠K.zero
 odd:∀x,K.add (K.mul x (K.mul x x)) b≠K.zero
section
variable {R:Type} (K:CR R) (inv:R→R) (b:R)
abbrev Pt (R:Type):=Option (R×R)
def On:Pt R→Prop
 | none=>True
 | some p=>K.mul p.2 p.2=K.add (K.mul p.1 (K.mul p.1 p.1)) b
def YG:Pt R→Pt R
 | none=>none
 | some p=>some (p.1,K.neg p.2)
def nA (x1 y1 x2 y2:R):R :=
 if x1=x2 then K.mul (K.add (K.add (K.mul x1 x1) (K.mul x1 x1)) (K.mul x1 x1)) (inv (K.add y1 y2))else K.mul (K.sub y2 y1) (inv (K.sub x2 x1))
def sx (l x1 x2:R):R:=K.sub (K.sub (K.mul l l) x1) x2
def sy (l x1 y1 x2:R):R:=K.sub (K.mul l (K.sub x1 (sx K l x1 x2))) y1
def AS:Pt R→Pt R→Pt R
 | none,q=>q
 | some p,none=>some p
 | some p,some q =>
  if p.1=q.1∧K.add p.2 q.2=K.zero then none
  else some (sx K (nA K inv p.1 p.2 q.1 q.2) p.1 q.1,sy K (nA K inv p.1 p.2 q.1 q.2) p.1 p.2 q.1)
variable {K} {inv} {b}
theorem EZ {p q:R×R} (h:p.1=q.1∧K.add p.2 q.2=K.zero):AS K inv (some p) (some q)=none:=if_pos h
theorem qM {p q:R×R} (h:¬(p.1=q.1∧K.add p.2 q.2=K.zero)):AS K inv (some p) (some q)=some (sx K (nA K inv p.1 p.2 q.1 q.2) p.1 q.1,sy K (nA K inv p.1 p.2 q.1 q.2) p.1 p.2 q.1):=if_neg h
theorem kG {x y:R} (h:K.sub x y=K.zero):x=y:=gG h
theorem Ac {x y:R} (h:x≠y):K.sub x y≠K.zero:=fun e=>h (kG e)
theorem EC.dbl_ne (E:EC K inv b) {y:R} (h:y≠K.zero):K.add y y≠K.zero:=fun e=>by
 refine E.F.mul_ne E.two h ?_;rw[K.add_mul,K.one_mul,e]
theorem EC.y_ne (E:EC K inv b) {x y:R} (h:K.mul y y=K.add (K.mul x (K.mul x x)) b):y≠K.zero:=fun e=>by
 rw[e,K.mul_zero]at h;exact E.odd x h.symm
structure Slope (K:CR R) (x1 y1 x2 y2 l:R):Prop where
 h1:y2=K.add y1 (K.mul l (K.sub x2 x1))
 h2:K.mul l (K.add y1 y2)=K.add (K.add (K.mul x1 x1) (K.mul x1 x2)) (K.mul x2 x2)
 hk:(∃k,K.mul k (K.add y1 y2)=K.one)∨(∃k,K.mul k (K.sub x2 x1)=K.one)
theorem xL (E:EC K inv b) {x1 y1 x2 y2:R} (hp:K.mul y1 y1=K.add (K.mul x1 (K.mul x1 x1)) b) (hq:K.mul y2 y2=K.add (K.mul x2 (K.mul x2 x2)) b) (hn:¬(x1=x2∧K.add y1 y2=K.zero)):Slope K x1 y1 x2 y2 (nA K inv x1 y1 x2 y2):=by
 unfold nA
 by_cases hx:x1=x2
 ·subst hx;rw[if_pos rfl];have hy:K.add y1 y2≠K.zero:=fun e=>hn ⟨rfl,e⟩
  have hi:=E.F.inv _ hy;have e:y1=y2:=by
   refine kG (K:=K) (E.F.zd (a:=K.add y1 y2) ?_ hy);have e0:K.mul (K.add y1 y2) (K.sub y1 y2)=K.sub (K.mul y1 y1) (K.mul y2 y2):=aN K (bL K [y1,y2]) ((Z0+Z1)*(Z0-Z1)) (Z0*Z0-Z1*Z1) (by kernel_rfl);rw[e0,hp,hq];exact K.add_neg _
  subst e;generalize inv (K.add y1 y1)=k at hi;refine⟨aN K (bL K [y1,x1,k]) (.v 0) (Z0+(Z1*Z1+Z1*Z1+Z1*Z1)*Z2*(Z1-Z1)) (by kernel_rfl),gE (K:=K) (c1:=(K.add (K.add (K.mul x1 x1) (K.mul x1 x1)) (K.mul x1 x1))) hi (aN K (bL K [x1,k,y1]) ((Z0*Z0+Z0*Z0+Z0*Z0)*Z1*(Z2+Z2)-(Z0*Z0+Z0*Z0+Z0*Z0)) ((Z0*Z0+Z0*Z0+Z0*Z0)*((Z2+Z2)*Z1-RE.one)) (by kernel_rfl)),Or.inl ⟨k,by rw[K.mul_comm,hi]⟩⟩
 ·rw[if_neg hx];have hd:K.sub x2 x1≠K.zero:=Ac fun e=>hx e.symm
  have hi:=E.F.inv _ hd;generalize inv (K.sub x2 x1)=k at hi;refine⟨gE (K:=K) (c1:=(K.neg (K.sub y2 y1))) hi (aN K (bL K [y2,y1,k,x2,x1]) (Z0-(Z1+(Z0-Z1)*Z2*(Z3-Z4))) ((-(Z0-Z1))*((Z3-Z4)*Z2-RE.one)) (by kernel_rfl)),?_,Or.inr ⟨k,by rw[K.mul_comm,hi]⟩⟩;refine E.F.cancel hd ?_;exact pT (K:=K) (c1:=(K.mul (K.sub y2 y1) (K.add y1 y2))) (c2:=(K.neg K.one)) (c3:=K.one) hi hp hq (aN K (bL K [x2,x1,y2,y1,k,b]) ((Z0-Z1)*((Z2-Z3)*Z4*(Z3+Z2))-(Z0-Z1)*(Z1*Z1+Z1*Z0+Z0*Z0)) ((Z2-Z3)*(Z3+Z2)*((Z0-Z1)*Z4-RE.one)+(-RE.one)*(Z3*Z3-(Z1*(Z1*Z1)+Z5))+RE.one*(Z2*Z2-(Z0*(Z0*Z0)+Z5))) (by kernel_rfl))
theorem On.sum {x1 y1 x2 y2 l:R} (hp:K.mul y1 y1=K.add (K.mul x1 (K.mul x1 x1)) b) (h:Slope K x1 y1 x2 y2 l):On K b (some (sx K l x1 x2,sy K l x1 y1 x2)):=by
 obtain⟨h1,h2,_⟩:=h;subst h1;show K.mul (K.sub (K.mul l (K.sub x1 (K.sub (K.sub (K.mul l l) x1) x2))) y1) (K.sub (K.mul l (K.sub x1 (K.sub (K.sub (K.mul l l) x1) x2))) y1)=K.add (K.mul (K.sub (K.sub (K.mul l l) x1) x2) (K.mul (K.sub (K.sub (K.mul l l) x1) x2) (K.sub (K.sub (K.mul l l) x1) x2))) b;exact jT (K:=K) (c1:=K.one) (c2:=(K.sub (K.sub (K.sub (K.mul l l) x1) x2) x1)) hp h2 (aN K (bL K [l,x1,x2,y1,b]) ((Z0*(Z1-(Z0*Z0-Z1-Z2))-Z3)*(Z0*(Z1-(Z0*Z0-Z1-Z2))-Z3)-((Z0*Z0-Z1-Z2)*((Z0*Z0-Z1-Z2)*(Z0*Z0-Z1-Z2))+Z4)) (RE.one*(Z3*Z3-(Z1*(Z1*Z1)+Z4))+(Z0*Z0-Z1-Z2-Z1)*(Z0*(Z3+(Z3+Z0*(Z2-Z1)))-(Z1*Z1+Z1*Z2+Z2*Z2))) (by kernel_rfl))
theorem On.neg:∀{p:Pt R},On K b p→On K b (YG K p)
 | none,_=>trivial
 | some p,h=>by
  show K.mul (K.neg p.2) (K.neg p.2)=_;rw[K.neg_mul,K.mul_neg,K.neg_neg];exact h
theorem On.add (E:EC K inv b):∀{p q:Pt R},On K b p→On K b q→On K b (AS K inv p q)
 | none,_,_,h=>h
 | some _,none,h,_=>h
 | some p,some q,hp,hq=>by
  by_cases hn:p.1=q.1∧K.add p.2 q.2=K.zero
  ·rw[EZ hn]; trivial
  ·rw[qM hn];exact On.sum hp (xL E hp hq hn)
def JR (K:CR R) (b:R) (p:Pt R) (S:Pol K×Pol K→Prop):Pol K×Pol K→Prop :=
 match p with
 | none=>S
 | some p=>op (dP K b) cX cY (cc p.1) (cc p.2) S
theorem OX (p q:Pt R) (S:Pol K×Pol K→Prop):JR K b p (JR K b q S)=JR K b q (JR K b p S):=by
 cases p with
 | none=>rfl
 | some p=>cases q with
  | none=>rfl
  | some q=>exact VB _ _ _ _
theorem VC {S:Pol K×Pol K→Prop} (h:Idl (dP K b) S) (p:Pt R):Idl (dP K b) (JR K b p S):=by
 cases p with
 | none=>exact h
 | some p=>exact OV h _ _
theorem FI {S T:Pol K×Pol K→Prop} (h:Eqv (dP K b) S T) (p:Pt R):Eqv (dP K b) (JR K b p S) (JR K b p T):=by
 cases p with
 | none=>exact h
 | some p=>exact h.op _ _
theorem Mt (F:FD K inv) (c:R):(dP K b).sub cX (cc c)≠(dP K b).zero:=fun q=>RL (sS (K:=K) F c) (congrArg Prod.fst q)
theorem El (F:FD K inv) (x1 y1 l:R):(dP K b).sub ((dP K b).sub cY (cc y1)) ((dP K b).mul (cc l) ((dP K b).sub cX (cc x1)))≠(dP K b).zero:=fun q=>by
 have e:K.add (K.add K.one (K.neg K.zero)) (K.neg (K.add (K.mul l (K.add K.zero (K.neg K.zero))) (K.mul K.zero (K.add K.zero (K.neg x1)))))=K.zero:=congrArg (fun z:Pol K×Pol K=>z.2.1 0) q;rw[dB,K.add_zero,K.add_zero,K.mul_zero,K.zero_mul,K.add_zero,dB,K.add_zero]at e;exact F.ne e
theorem hJ (E:EC K inv b) {S:Pol K×Pol K→Prop} (hS:Idl (dP K b) S):∀{p q:Pt R},On K b p→On K b q→Eqv (dP K b) (JR K b p (JR K b q S)) (JR K b (AS K inv p q) S)
 | none,_,_,_=>Eqv.refl (jN b E.F) _
 | some _,none,_,_=>Eqv.refl (jN b E.F) _
 | some ⟨x1,y1⟩,some ⟨x2,y2⟩,hp,hq=>by
  by_cases hn:x1=x2∧K.add y1 y2=K.zero
  ·rw[EZ hn];obtain⟨rfl,hy⟩:=hn;have e:y2=K.neg y1:=by
    apply K.add_cancel (a:=y1);rw[hy,K.add_neg]
   subst e;show Eqv (dP K b) (op (dP K b) cX cY (cc x1) (cc y1) (op (dP K b) cX cY (cc x1) (cc (K.neg y1)) S)) S;have h0:=E.F.inv _ (E.dbl_ne (E.y_ne hp));rw[RX b];refine Cd (b:=cc b) (k:=cc (inv (K.add y1 y1))) (Me b) ?_ ?_ (jN b E.F) (Mt E.F x1) hS
   ·rw[←jP,←jP,←jP,←lC];exact congrArg cc hp
   ·rw[←lC,←jP,K.mul_comm,h0];rfl
  ·rw[qM hn];have h:=xL E hp hq hn;dsimp only at h ⊢;generalize nA K inv x1 y1 x2 y2=l at h;obtain⟨h1,h2,hk⟩:=h;subst h1;show Eqv (dP K b) (op (dP K b) cX cY (cc x1) (cc y1) (op (dP K b) cX cY (cc x2) (cc (K.add y1 (K.mul l (K.sub x2 x1)))) S)) (op (dP K b) cX cY (cc (sx K l x1 x2)) (cc (sy K l x1 y1 x2)) S);unfold sy sx;have hX:=Mt (K:=K) (b:=b) E.F (sx K l x1 x2);have hl:=El (K:=K) (b:=b) E.F x1 y1 l;unfold sx at hX;simp only[lC b,jP b,sV b]at hX ⊢;refine Cc (b:=cc b) (Me b) ?_ ?_ ?_ hX hl hS
   ·have:=congrArg (cc (K:=K)) h2;simpa only[lC b,jP b,sV b]using this
   ·have:=congrArg (cc (K:=K)) hp;simpa only[lC b,jP b,sV b]using this
   ·rcases hk with⟨k,hk⟩|⟨k,hk⟩
    ·refine Or.inl ⟨cc k,?_⟩;have:=congrArg (cc (K:=K)) hk;simpa only[lC b,jP b,sV b,RU b]using this
    ·refine Or.inr ⟨cc k,?_⟩;have:=congrArg (cc (K:=K)) hk;simpa only[lC b,jP b,sV b,RU b]using this
theorem FA (p:Pt R):AS K inv (YG K p) p=none:=by
 cases p with
 | none=>rfl
 | some p=>exact if_pos ⟨rfl,K.neg_add _⟩
theorem OF {p q:Pt R} (h:AS K inv (YG K p) q=none):q=p:=by
 cases p with
 | none=>exact h
 | some p=>cases q with
  | none=>cases h
  | some q =>
   by_cases hh:p.1=q.1∧K.add (K.neg p.2) q.2=K.zero
   ·obtain⟨h1,h2⟩:=hh;refine congrArg some (Prod.ext h1.symm ?_);apply K.add_cancel (a:=K.neg p.2);exact h2.trans (K.neg_add p.2).symm
   ·have e:AS K inv (YG K (some p)) (some q)=some _:=qM (p:=(p.1,K.neg p.2)) (q:=q) hh;rw[e]at h;cases h
theorem Ce (E:EC K inv b) {p:Pt R} (hp:On K b p) (h:Eqv (dP K b) (JR K b p xE) xE):p=none:=by
 cases p with
 | none=>rfl
 | some p=>exact absurd h (Jj b E.F hp)
theorem FH (E:EC K inv b) {p q:Pt R} (hp:On K b p) (hq:On K b q) (h:Eqv (dP K b) (JR K b p xE) (JR K b q xE)):p=q:=by
 have D:=jN (K:=K) b E.F;have h1:=FI h (YG K q);have a1:=hJ E (iM (dP K b)) hq.neg hp;have a2:=hJ E (iM (dP K b)) hq.neg hq;rw[FA]at a2;exact OF (Ce E (hq.neg.add E hp) (a1.symm.trans D (h1.trans D a2)))
theorem OG (E:EC K inv b) {p q:Pt R} (hp:On K b p) (hq:On K b q):AS K inv p q=AS K inv q p:=by
 have D:=jN (K:=K) b E.F;refine FH E (hp.add E hq) (hq.add E hp) ?_;refine (hJ E (iM (dP K b)) hp hq).symm.trans D ?_;rw[OX];exact hJ E (iM (dP K b)) hq hp
theorem JI (E:EC K inv b) {p q r:Pt R} (hp:On K b p) (hq:On K b q) (hr:On K b r):AS K inv (AS K inv p q) r=AS K inv p (AS K inv q r):=by
 have D:=jN (K:=K) b E.F;have hu:=iM (dP K b);refine FH E ((hp.add E hq).add E hr) (hp.add E (hq.add E hr)) ?_;refine (hJ E hu (hp.add E hq) hr).symm.trans D ?_;refine (hJ E (VC hu r) hp hq).symm.trans D ?_;refine (FI (hJ E hu hq hr) p).trans D ?_;exact hJ E hu hp (hq.add E hr)
end
structure AG (G:Type) where
 add:G→G→G
 neg:G→G
 zero:G
 assoc:∀a b c,add (add a b) c=add a (add b c)
 comm:∀a b,add a b=add b a
 zadd:∀a,add zero a=a
 nadd:∀a,add (neg a) a=zero
def EC.grp {R:Type} {K:CR R} {inv:R→R} {b:R} (E:EC K inv b):AG {p:Pt R // On K b p} where
 add p q:=⟨AS K inv p.1 q.1,p.2.add E q.2⟩
 neg p:=⟨YG K p.1,p.2.neg⟩
 zero:=⟨none,trivial⟩
 assoc p q r:=Subtype.ext (JI E p.2 q.2 r.2)
 comm p q:=Subtype.ext (OG E p.2 q.2)
 zadd p:=rfl
 nadd p:=Subtype.ext (FA p.1)
end Go.Proofs.YtjeplinbleofnaaGreat.Ex
