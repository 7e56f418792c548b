/- Jj00 -/
import Derived.KernelRfl
import Derived.Test.YtjeplinbleofnaaProg
set_option maxRecDepth 100000
set_option linter.unusedVariables false
set_option linter.unusedSimpArgs false
set_option linter.unnecessarySimpa false
noncomputable section
namespace Go.Proofs.Ytjeplinbleofnaa
open Go.Proofs.Try
structure CR (R:Type) where
 add:R→R→R
 mul:R→R→R
 neg:R→R
 zero:R
 one:R
 add_assoc:∀a b c,add (add a b) c=add a (add b c)
 add_comm:∀a b,add a b=add b a
 zero_add:∀a,add zero a=a
 neg_add:∀a,add (neg a) a=zero
 mul_assoc:∀a b c,mul (mul a b) c=mul a (mul b c)
 mul_comm:∀a b,mul a b=mul b a
 one_mul:∀a,mul one a=a
 mul_add:∀a b c,mul a (add b c)=add (mul a b) (mul a c)
namespace CR
variable {R:Type} (K:CR R)
theorem add_left_comm (a b c:R):K.add a (K.add b c)=K.add b (K.add a c):=by rw[←K.add_assoc,K.add_comm a b,K.add_assoc]
theorem mul_left_comm (a b c:R):K.mul a (K.mul b c)=K.mul b (K.mul a c):=by rw[←K.mul_assoc,K.mul_comm a b,K.mul_assoc]
theorem add_mul (a b c:R):K.mul (K.add a b) c=K.add (K.mul a c) (K.mul b c):=by rw[K.mul_comm,K.mul_add,K.mul_comm c a,K.mul_comm c b]
theorem add_zero (a:R):K.add a K.zero=a:=by rw[K.add_comm,K.zero_add]
theorem add_neg (a:R):K.add a (K.neg a)=K.zero:=by rw[K.add_comm,K.neg_add]
theorem add_cancel {a b c:R} (h:K.add a b=K.add a c):b=c:=by
 have:=congrArg (K.add (K.neg a)) h
 rwa [←K.add_assoc,←K.add_assoc,K.neg_add,K.zero_add,K.zero_add]at this
theorem mul_zero (a:R):K.mul a K.zero=K.zero:=by
 apply K.add_cancel (a:=K.mul a K.zero);rw[←K.mul_add,K.add_zero,K.add_zero]
theorem zero_mul (a:R):K.mul K.zero a=K.zero:=by rw[K.mul_comm,K.mul_zero]
theorem mul_one (a:R):K.mul a K.one=a:=by rw[K.mul_comm,K.one_mul]
theorem neg_mul (a b:R):K.mul (K.neg a) b=K.neg (K.mul a b):=by
 apply K.add_cancel (a:=K.mul a b);rw[←K.add_mul,K.add_neg,K.zero_mul,K.add_neg]
theorem neg_neg (a:R):K.neg (K.neg a)=a:=by
 apply K.add_cancel (a:=K.neg a);rw[K.add_neg,K.neg_add]
theorem neg_add' (a b:R):K.neg (K.add a b)=K.add (K.neg a) (K.neg b):=by
 apply K.add_cancel (a:=K.add a b);rw[K.add_neg,K.add_assoc,K.add_left_comm b,K.add_neg,K.add_zero,K.add_neg]
theorem mul_neg (a b:R):K.mul a (K.neg b)=K.neg (K.mul a b):=by rw[K.mul_comm,K.neg_mul,K.mul_comm]
def sub (a b:R):R:=K.add a (K.neg b)
def sq (q:R):CR (R×R) where
 add x y:=(K.add x.1 y.1,K.add x.2 y.2)
 mul x y:=(K.add (K.mul x.1 y.1) (K.mul q (K.mul x.2 y.2)),K.add (K.mul x.1 y.2) (K.mul x.2 y.1))
 neg x:=(K.neg x.1,K.neg x.2)
 zero:=(K.zero,K.zero)
 one:=(K.one,K.zero)
 add_assoc a b c:=by simp only[K.add_assoc]
 add_comm a b:=by rw[K.add_comm a.1,K.add_comm a.2]
 zero_add a:=by simp only[K.zero_add]
 neg_add a:=by simp only[K.neg_add]
 mul_assoc a b c:=by
  simp only[K.mul_add,K.add_mul,K.mul_assoc,K.mul_left_comm,K.add_assoc,K.add_left_comm,K.add_comm]
 mul_comm a b:=by
  simp only[K.mul_comm,K.add_comm]
 one_mul a:=by simp only[K.one_mul,K.zero_mul,K.mul_zero,K.add_zero]
 mul_add a b c:=by
  simp only[K.mul_add,K.add_assoc,Prod.mk.injEq];constructor<;>(simp only[K.add_left_comm])
end CR
def Cu (M:Nat) (h:1<M):CR (Fin M) where
 add a b:=⟨(a.1+b.1)%M,Nat.mod_lt _ (by omega)⟩
 mul a b:=⟨a.1*b.1%M,Nat.mod_lt _ (by omega)⟩
 neg a:=⟨(0+M-a.1)%M,Nat.mod_lt _ (by omega)⟩
 zero:=⟨0,by omega⟩
 one:=⟨1,h⟩
 add_assoc a b c:=Fin.ext (by show ((a.1+b.1)%M+c.1)%M=(a.1+(b.1+c.1)%M)%M; rw[Nat.mod_add_mod,Nat.add_mod_mod,Nat.add_assoc])
 add_comm a b:=Fin.ext (by show (a.1+b.1)%M=(b.1+a.1)%M; rw[Nat.add_comm])
 zero_add a:=Fin.ext (by show (0+a.1)%M=a.1; rw[Nat.zero_add,Nat.mod_eq_of_lt a.2])
 neg_add a:=Fin.ext (by
  show ((0+M-a.1)%M+a.1)%M=0;have:=a.2;rw[Nat.mod_add_mod,show 0+M-a.1+a.1=M by omega,Nat.mod_self])
 mul_assoc a b c:=Fin.ext (by show a.1*b.1%M*c.1%M=a.1*(b.1*c.1%M)%M; rw[Nat.mod_mul_mod,Nat.mul_mod_mod,Nat.mul_assoc])
 mul_comm a b:=Fin.ext (by show a.1*b.1%M=b.1*a.1%M; rw[Nat.mul_comm])
 one_mul a:=Fin.ext (by show 1*a.1%M=a.1; rw[Nat.one_mul,Nat.mod_eq_of_lt a.2])
 mul_add a b c:=Fin.ext (by show a.1*((b.1+c.1)%M)%M=(a.1*b.1%M+a.1*c.1%M)%M; rw[Nat.mul_mod_mod,Nat.mul_add,Nat.add_mod])
end Go.Proofs.Ytjeplinbleofnaa
namespace Go.Proofs.Ytjeplinbleofnaa.Ex
open Go.Proofs.Try
inductive RE|v (i:Nat)|add (a b:RE)|mul (a b:RE)|neg (a:RE)|zero|one
instance:Add RE:=⟨.add⟩
instance:Mul RE:=⟨.mul⟩
instance:Neg RE:=⟨.neg⟩
instance:Sub RE:=⟨fun a b=>.add a (.neg b)⟩
abbrev Z0:RE:=.v 0
abbrev Z1:RE:=.v 1
abbrev Z2:RE:=.v 2
abbrev Z3:RE:=.v 3
abbrev Z4:RE:=.v 4
abbrev Z5:RE:=.v 5
abbrev Z6:RE:=.v 6
abbrev Z7:RE:=.v 7
abbrev Z8:RE:=.v 8
abbrev Z9:RE:=.v 9
abbrev Z10:RE:=.v 10
abbrev Z11:RE:=.v 11
section
variable {R:Type} (K:CR R) (env:Nat→R)
def RE.den:RE→R
 | .v i=>env i
 | .add a b=>K.add (a.den) (b.den)
 | .mul a b=>K.mul (a.den) (b.den)
 | .neg a=>K.neg a.den
 | .zero=>K.zero
 | .one=>K.one
def nt (x:R):Nat→R
 | 0=>K.zero
 | n+1=>K.add (nt x n) x
def zt (x:R):Int→R
 | .ofNat n=>nt K x n
 | .negSucc n=>K.neg (nt K x (n+1))
def mono:List Nat→R
 | []=>K.one
 | i::r=>K.mul (env i) (mono r)
def fF:List (Int×List Nat)→R
 | []=>K.zero
 | (c,m)::r=>K.add (zt K (mono K env m) c) (fF r)
end
def Cd:List Nat→List Nat→Bool
 | [],[]=>false
 | [],_::_=>true
 | _::_,[]=>false
 | a::r,b::s=>bif Nat.blt a b then true else bif Nat.blt b a then false else Cd r s
def YX:List Nat→List Nat→Bool
 | [],[]=>true
 | a::r,b::s=>bif Nat.beq a b then YX r s else false
 | _,_=>false
theorem KV:∀{a b:List Nat},YX a b=true→a=b
 | [],[],_=>rfl
 | a::r,b::s,h=>by
  unfold YX at h;cases hb:Nat.beq a b<;>rw[hb]at h
  ·cases h
  ·rw[Nat.eq_of_beq_eq_true hb,KV h]
 | [],_::_,h=>by cases h
 | _::_,[],h=>by cases h
def RP (c:Int) (m:List Nat):List (Int×List Nat)→List (Int×List Nat)
 | []=>[(c,m)]
 | (d,k)::r=>bif YX m k then (c+d,k)::r else bif Cd m k then (c,m)::(d,k)::r else (d,k)::RP c m r
def zC:List (Int×List Nat)→List (Int×List Nat)→List (Int×List Nat)
 | [],q=>q
 | (c,m)::r,q=>RP c m (zC r q)
def EF (i:Nat):List Nat→List Nat
 | []=>[i]
 | j::r=>bif Nat.ble i j then i::j::r else j::EF i r
def JC:List Nat→List Nat→List Nat
 | [],m=>m
 | i::r,m=>EF i (JC r m)
def wC (c:Int) (m:List Nat):List (Int×List Nat)→List (Int×List Nat)
 | []=>[]
 | (d,k)::r=>RP (c*d) (JC m k) (wC c m r)
def IM:List (Int×List Nat)→List (Int×List Nat)→List (Int×List Nat)
 | [],_=>[]
 | (c,m)::r,q=>zC (wC c m q) (IM r q)
def IL:List (Int×List Nat)→List (Int×List Nat)
 | []=>[]
 | (c,m)::r=>(-c,m)::IL r
def RE.norm:RE→List (Int×List Nat)
 | .v i=>[(1,[i])]
 | .add a b=>zC a.norm b.norm
 | .mul a b=>IM a.norm b.norm
 | .neg a=>IL a.norm
 | .zero=>[]
 | .one=>[(1,[])]
def Cq:List (Int×List Nat)→Bool
 | []=>true
 | (.ofNat 0,_)::r=>Cq r
 | _=>false
section
variable {R:Type} (K:CR R) (env:Nat→R)
theorem nB (x:R) (n:Nat):∀m,nt K x (n+m)=K.add (nt K x n) (nt K x m)
 | 0=>(K.add_zero _).symm
 | m+1=>by show K.add (nt K x (n+m)) x=_; rw[nB x n m,K.add_assoc]; rfl
theorem cK:K.neg K.zero=K.zero:=by
 apply K.add_cancel (a:=K.zero);rw[K.add_neg,K.add_zero]
theorem FU (x:R) (n m:Nat):zt K x (Int.subNatNat n m)=K.add (nt K x n) (K.neg (nt K x m)):=by
 unfold Int.subNatNat;split
 ·rename_i h;have:n=m+(n-m):=by omega
  show nt K x (n-m)=_
  conv=>rhs; rw[this,nB]
  rw[K.add_comm (nt K x m),K.add_assoc,K.add_neg,K.add_zero]
 ·rename_i k h;have:m=n+(k+1):=by omega
  show K.neg (nt K x (k+1))=K.add (nt K x n) (K.neg (nt K x m));rw[this,nB K x n (k+1),K.neg_add' (nt K x n),←K.add_assoc,K.add_neg,K.zero_add]
theorem FV (x:R) (a b:Int):zt K x (a+b)=K.add (zt K x a) (zt K x b):=by
 cases a with
 | ofNat n =>
  cases b with
  | ofNat m=>exact nB K x n m
  | negSucc m=>exact FU K x n (m+1)
 | negSucc n =>
  cases b with
  | ofNat m=>show zt K x (Int.subNatNat m (n+1))=_; rw[FU,K.add_comm]; rfl
  | negSucc m =>
   show K.neg (nt K x (n+m+1+1))=K.add (K.neg (nt K x (n+1))) (K.neg (nt K x (m+1)));rw[←K.neg_add',←nB,show n+1+(m+1)=n+m+1+1 by omega]
theorem kN (x:R) (a:Int):zt K x (-a)=K.neg (zt K x a):=by
 apply K.add_cancel (a:=zt K x a);rw[←FV,K.add_neg,Int.add_right_neg];rfl
theorem zE (x y:R) (n:Nat):∀m,K.mul (nt K x n) (nt K y m)=nt K (K.mul x y) (n*m)
 | 0=>K.mul_zero _
 | m+1=>by
  show K.mul _ (K.add (nt K y m) y)=_;rw[K.mul_add,zE x y n m,Nat.mul_add,Nat.mul_one,nB];congr 1;clear zE
  induction n with
  | zero=>exact K.zero_mul _
  | succ n ih=>show K.mul (K.add (nt K x n) x) y=_; rw[K.add_mul,ih]; rfl
theorem SD (x y:R) (a b:Int):K.mul (zt K x a) (zt K y b)=zt K (K.mul x y) (a*b):=by
 have hn:∀(c:Int),∃n:Nat,c=n∨c = -(n:Int):=fun c=>⟨c.natAbs,Int.natAbs_eq c⟩
 have h0:∀n m:Nat,K.mul (zt K x n) (zt K y m)=zt K (K.mul x y) ((n:Int)*m):=fun n m=>by
  rw[←Int.natCast_mul]; exact zE K x y n m
 obtain⟨n,rfl|rfl⟩:=hn a
 ·obtain⟨m,rfl|rfl⟩:=hn b
  ·exact h0 n m
  ·rw[kN,K.mul_neg,h0,Int.mul_neg,kN]
 ·obtain⟨m,rfl|rfl⟩:=hn b
  ·rw[kN,K.neg_mul,h0,Int.neg_mul,kN]
  ·rw[kN,kN,K.neg_mul,K.mul_neg,K.neg_neg,h0,Int.neg_mul_neg]
theorem tR (c:Int) (m:List Nat):∀q,fF K env (RP c m q)=K.add (zt K (mono K env m) c) (fF K env q)
 | []=>rfl
 | (d,k)::r=>by
  unfold RP;cases he:YX m k
  ·cases hl:Cd m k
   ·show K.add (zt K (mono K env k) d) (fF K env (RP c m r))=K.add _ (K.add _ _);rw[tR c m r,K.add_left_comm]
   ·rfl
  ·rw[KV he];show K.add (zt K (mono K env k) (c+d)) (fF K env r)=K.add _ (K.add _ _);rw[FV,K.add_assoc]
theorem pI:∀p q,fF K env (zC p q)=K.add (fF K env p) (fF K env q)
 | [],q=>(K.zero_add _).symm
 | (c,m)::r,q=>by
  show fF K env (RP c m (zC r q))=K.add (K.add _ _) _;rw[tR,pI r q,K.add_assoc]
theorem wV (i:Nat):∀m,mono K env (EF i m)=K.mul (env i) (mono K env m)
 | []=>rfl
 | j::r=>by
  unfold EF;cases Nat.ble i j
  ·show K.mul (env j) (mono K env (EF i r))=K.mul _ (K.mul _ _);rw[wV i r,K.mul_left_comm]
  ·rfl
theorem wN:∀m k,mono K env (JC m k)=K.mul (mono K env m) (mono K env k)
 | [],k=>(K.one_mul _).symm
 | i::r,k=>by
  show mono K env (EF i (JC r k))=K.mul (K.mul _ _) _;rw[wV,wN r k,K.mul_assoc]
theorem rM (c:Int) (m:List Nat):∀q,fF K env (wC c m q)=K.mul (zt K (mono K env m) c) (fF K env q)
 | []=>(K.mul_zero _).symm
 | (d,k)::r=>by
  show fF K env (RP (c*d) (JC m k) (wC c m r))=K.mul _ (K.add _ _);rw[tR,rM c m r,K.mul_add,wN,SD]
theorem wB:∀p q,fF K env (IM p q)=K.mul (fF K env p) (fF K env q)
 | [],q=>(K.zero_mul _).symm
 | (c,m)::r,q=>by
  show fF K env (zC (wC c m q) (IM r q))=K.mul (K.add _ _) _;rw[pI,rM,wB r q,K.add_mul]
theorem wA:∀p,fF K env (IL p)=K.neg (fF K env p)
 | []=>(cK K).symm
 | (c,m)::r=>by
  show K.add (zt K (mono K env m) (-c)) (fF K env (IL r))=K.neg (K.add _ _);rw[wA r,K.neg_add',kN]
theorem hO:∀e:RE,fF K env e.norm=e.den K env
 | .v i=>by show K.add (K.add K.zero (K.mul (env i) K.one)) K.zero=env i; rw[K.add_zero,K.zero_add,K.mul_one]
 | .add a b=>by show fF K env (zC _ _)=K.add _ _; rw[pI,hO a,hO b]
 | .mul a b=>by show fF K env (IM _ _)=K.mul _ _; rw[wB,hO a,hO b]
 | .neg a=>by show fF K env (IL _)=K.neg _; rw[wA,hO a]
 | .zero=>rfl
 | .one=>by show K.add (K.add K.zero K.one) K.zero=K.one; rw[K.add_zero,K.zero_add]
theorem BS:∀p,Cq p=true→fF K env p=K.zero
 | [],_=>rfl
 | (.ofNat 0,m)::r,h=>by
  show K.add K.zero (fF K env r)=_;rw[K.zero_add];exact BS r h
 | (.ofNat (_+1),_)::_,h=>by cases h
 | (.negSucc _,_)::_,h=>by cases h
theorem aL (a b:RE) (h:Cq (RE.norm (.add a (.neg b)))=true):a.den K env=b.den K env:=by
 have:=BS K env _ h;rw[hO]at this;have h2:K.add (K.add (a.den K env) (K.neg (b.den K env))) (b.den K env)=K.add K.zero (b.den K env):=congrArg (fun x=>K.add x (b.den K env)) this
 rwa [K.add_assoc,K.neg_add,K.add_zero,K.zero_add]at h2
end
def bI {R:Type} (K:CR R) (l:List R) (i:Nat):R:=(l[i]?).getD K.zero
structure FD {R:Type} (K:CR R) (inv:R→R):Prop where
 ne:K.one≠K.zero
 inv:∀x,x≠K.zero→K.mul x (inv x)=K.one
section
variable {R:Type} {K:CR R} {inv:R→R}
theorem FD.zd (h:FD K inv) {a b:R} (e:K.mul a b=K.zero) (ha:a≠K.zero):b=K.zero:=by
 have:=congrArg (K.mul (inv a)) e
 rwa [←K.mul_assoc,K.mul_comm (inv a),h.inv a ha,K.one_mul,K.mul_zero]at this
theorem FD.mul_ne (h:FD K inv) {a b:R} (ha:a≠K.zero) (hb:b≠K.zero):K.mul a b≠K.zero:=fun e=>hb (h.zd e ha)
theorem FD.cancel (h:FD K inv) {a b c:R} (ha:a≠K.zero) (e:K.mul a b=K.mul a c):b=c:=by
 have:=congrArg (K.mul (inv a)) e
 rwa [←K.mul_assoc,←K.mul_assoc,K.mul_comm (inv a),h.inv a ha,K.one_mul,K.one_mul]at this
theorem fO {a b:R} (h:K.add a (K.neg b)=K.zero):a=b:=by
 have h2:K.add (K.add a (K.neg b)) b=K.add K.zero b:=congrArg (fun x=>K.add x b) h
 rwa [K.add_assoc,K.neg_add,K.add_zero,K.zero_add]at h2
theorem dH {a b:R} (h:a=b):K.add a (K.neg b)=K.zero:=by rw[h,K.add_neg]
theorem fI {A B L1 R1 c1:R} (h1:L1=R1) (e:K.add A (K.neg B)=K.mul c1 (K.add L1 (K.neg R1))):A=B:=by
 apply fO (K:=K);rw[e,dH h1,K.mul_zero]
theorem iV {A B L1 R1 c1 L2 R2 c2:R} (h1:L1=R1) (h2:L2=R2) (e:K.add A (K.neg B)=K.add (K.mul c1 (K.add L1 (K.neg R1))) (K.mul c2 (K.add L2 (K.neg R2)))):A=B:=by
 apply fO (K:=K);rw[e,dH h1,dH h2,K.mul_zero,K.mul_zero,K.add_zero]
theorem nT {A B L1 R1 c1 L2 R2 c2 L3 R3 c3:R} (h1:L1=R1) (h2:L2=R2) (h3:L3=R3) (e:K.add A (K.neg B)=K.add (K.add (K.mul c1 (K.add L1 (K.neg R1))) (K.mul c2 (K.add L2 (K.neg R2)))) (K.mul c3 (K.add L3 (K.neg R3)))):A=B:=by
 apply fO (K:=K);rw[e,dH h1,dH h2,dH h3,K.mul_zero,K.mul_zero,K.mul_zero,K.add_zero,K.add_zero]
end
section
variable {R:Type} (K:CR R)
def tl (f:Nat→R):Nat→R:=fun n=>f (n+1)
def jS:Nat→(Nat→R)→(Nat→R)→R
 | 0,f,g=>K.mul (f 0) (g 0)
 | n+1,f,g=>K.add (K.mul (f 0) (g (n+1))) (jS n (tl f) g)
def EO (f g:Nat→R):Nat→R:=fun n=>K.add (f n) (g n)
def Ct (c:R) (f:Nat→R):Nat→R:=fun n=>K.mul c (f n)
def zS (f g:Nat→R):Nat→R:=fun n=>jS K n f g
def Cv (f:Nat→R):Nat→R:=fun n=>K.neg (f n)
def YR:Nat→R:=fun _=>K.zero
def VB (c:R):Nat→R|0=>c|_+1=>K.zero
theorem sF:∀(n:Nat) (f g h:Nat→R),jS K n f (EO K g h)=K.add (jS K n f g) (jS K n f h)
 | 0,f,g,h=>K.mul_add _ _ _
 | n+1,f,g,h=>by
  show K.add (K.mul (f 0) (K.add _ _)) (jS K n (tl f) (EO K g h))=K.add (K.add _ _) (K.add _ _);rw[sF n,K.mul_add,K.add_assoc,K.add_assoc,K.add_left_comm (K.mul (f 0) (h (n+1)))]
theorem sG:∀(n:Nat) (f g h:Nat→R),jS K n (EO K f g) h=K.add (jS K n f h) (jS K n g h)
 | 0,f,g,h=>K.add_mul _ _ _
 | n+1,f,g,h=>by
  show K.add (K.mul (K.add _ _) (h (n+1))) (jS K n (EO K (tl f) (tl g)) h)=K.add (K.add _ _) (K.add _ _);rw[sG n,K.add_mul,K.add_assoc,K.add_assoc,K.add_left_comm (K.mul (g 0) (h (n+1)))]
theorem LG:∀(n:Nat) (c:R) (f g:Nat→R),jS K n (Ct K c f) g=K.mul c (jS K n f g)
 | 0,c,f,g=>K.mul_assoc _ _ _
 | n+1,c,f,g=>by
  show K.add (K.mul (K.mul c (f 0)) _) (jS K n (Ct K c (tl f)) g)=K.mul c (K.add _ _);rw[LG n,K.mul_add,K.mul_assoc]
theorem AE:∀(n:Nat) (g:Nat→R),jS K n (YR K) g=K.zero
 | 0,g=>K.zero_mul _
 | n+1,g=>by
  show K.add (K.mul K.zero _) (jS K n (YR K) g)=_;rw[AE n,K.zero_mul,K.add_zero]
theorem AH (c:R) (g:Nat→R):∀n,jS K n (VB K c) g=K.mul c (g n)
 | 0=>rfl
 | n+1=>by
  show K.add (K.mul c _) (jS K n (YR K) g)=_;rw[AE,K.add_zero]
theorem sE:∀(n:Nat) (f g h:Nat→R),jS K n (zS K f g) h=jS K n f (zS K g h)
 | 0,f,g,h=>K.mul_assoc _ _ _
 | n+1,f,g,h=>by
  have e:tl (zS K f g)=EO K (Ct K (f 0) (tl g)) (zS K (tl f) g):=rfl;show K.add (K.mul (K.mul (f 0) (g 0)) (h (n+1))) (jS K n (tl (zS K f g)) h)=K.add (K.mul (f 0) (K.add (K.mul (g 0) (h (n+1))) (jS K n (tl g) h))) (jS K n (tl f) (zS K g h));rw[e,sG,LG,sE n,K.mul_add,K.mul_assoc,K.add_assoc]
theorem mH:∀(n:Nat) (f g:Nat→R),jS K n f g=jS K n g f
 | 0,f,g=>K.mul_comm _ _
 | 1,f,g=>by
  show K.add (K.mul (f 0) (g 1)) (K.mul (f 1) (g 0))=K.add (K.mul (g 0) (f 1)) (K.mul (g 1) (f 0));rw[K.add_comm,K.mul_comm (f 1),K.mul_comm (f 0)]
 | n+2,f,g=>by
  show K.add (K.mul (f 0) (g (n+2))) (jS K (n+1) (tl f) g)=K.add (K.mul (g 0) (f (n+2))) (jS K (n+1) (tl g) f);rw[mH (n+1) (tl f) g,mH (n+1) (tl g) f];show K.add (K.mul (f 0) (g (n+2))) (K.add (K.mul (g 0) (f (n+2))) (jS K n (tl g) (tl f)))=K.add (K.mul (g 0) (f (n+2))) (K.add (K.mul (f 0) (g (n+2))) (jS K n (tl f) (tl g)));rw[K.add_left_comm,mH n (tl g) (tl f)]
theorem AF:∀(a b:Nat) (f g:Nat→R),(∀i,a≤i→f i=K.zero)→(∀i,b≤i→g i=K.zero)→∀n,a+b≤n+1→jS K n f g=K.zero
 | 0,b,f,g,hf,hg,n,h=>by
  have:f=YR K:=funext fun i=>hf i (Nat.zero_le _)
  rw[this,AE]
 | a+1,b,f,g,hf,hg,0,h=>by
  show K.mul (f 0) (g 0)=_;rw[hg 0 (by omega),K.mul_zero]
 | a+1,b,f,g,hf,hg,n+1,h=>by
  show K.add (K.mul (f 0) (g (n+1))) (jS K n (tl f) g)=_;rw[hg (n+1) (by omega),K.mul_zero,K.zero_add];exact AF a b (tl f) g (fun i hi=>hf (i+1) (by omega)) hg n (by omega)
def Pol:Type:={f:Nat→R // ∃n,∀i,n≤i→f i=K.zero}
variable {K}
theorem Pol.ext {f g:Pol K} (h:∀n,f.1 n=g.1 n):f=g:=Subtype.ext (funext h)
def aQ:CR (Pol K) where
 add f g:=⟨EO K f.1 g.1,by
  obtain⟨a,ha⟩:=f.2; obtain⟨b,hb⟩:=g.2;exact⟨a+b,fun i hi=>by show K.add (f.1 i) (g.1 i)=_; rw[ha i (by omega),hb i (by omega),K.add_zero]⟩⟩
 mul f g:=⟨zS K f.1 g.1,by
  obtain⟨a,ha⟩:=f.2; obtain⟨b,hb⟩:=g.2;exact⟨a+b,fun i hi=>AF K a b f.1 g.1 ha hb i (by omega)⟩⟩
 neg f:=⟨Cv K f.1,by
  obtain⟨a,ha⟩:=f.2;exact⟨a,fun i hi=>by show K.neg (f.1 i)=_; rw[ha i hi,cK]⟩⟩
 zero:=⟨YR K,0,fun _ _=>rfl⟩
 one:=⟨VB K K.one,1,fun i hi=>by cases i with|zero=>omega|succ i=>rfl⟩
 add_assoc a b c:=Pol.ext fun n=>K.add_assoc _ _ _
 add_comm a b:=Pol.ext fun n=>K.add_comm _ _
 zero_add a:=Pol.ext fun n=>K.zero_add _
 neg_add a:=Pol.ext fun n=>K.neg_add _
 mul_assoc a b c:=Pol.ext fun n=>sE K n _ _ _
 mul_comm a b:=Pol.ext fun n=>mH K n _ _
 one_mul a:=Pol.ext fun n=>by show jS K n (VB K K.one) a.1=_; rw[AH,K.one_mul]
 mul_add a b c:=Pol.ext fun n=>sF K n _ _ _
def fG (c:R):Pol K:=⟨VB K c,1,fun i hi=>by cases i with|zero=>omega|succ i=>rfl⟩
def pX:Pol K:=⟨fun n=>match n with|1=>K.one|_=>K.zero,2,fun i hi=>by match i,hi with|i+2,_=>rfl⟩
theorem BG (a b:R):(fG (K.add a b):Pol K)=aQ.add (fG a) (fG b):=Pol.ext fun n=>by
 cases n with
 | zero=>rfl
 | succ n=>exact (K.zero_add _).symm
theorem OH (a:R):(fG (K.neg a):Pol K)=aQ.neg (fG a):=Pol.ext fun n=>by
 cases n with
 | zero=>rfl
 | succ n=>exact (cK K).symm
theorem oM (a b:R):(fG (K.mul a b):Pol K)=aQ.mul (fG a) (fG b):=Pol.ext fun n=>by
 show _=jS K n (VB K a) (VB K b);rw[AH];cases n with
 | zero=>rfl
 | succ n=>exact (K.mul_zero _).symm
def dg (f:Pol K) (n:Nat):Prop:=f.1 n≠K.zero∧∀i,n<i→f.1 i=K.zero
theorem LE {f:Pol K} {n:Nat} (h:dg f n):f≠aQ.zero:=fun e=>h.1 (by rw[e]; rfl)
theorem VJ {f:Pol K} {n m:Nat} (h:dg f n) (g:dg f m):n=m:=by
 rcases Nat.lt_trichotomy n m with q|q|q
 ·exact absurd (h.2 m q) g.1
 ·exact q
 ·exact absurd (g.2 n q) h.1
theorem CC (f:Pol K) (h:f≠aQ.zero):∃n,dg f n:=by
 obtain⟨b,hb⟩:=f.2;have:∀b,(∀i,b≤i→f.1 i=K.zero)→∃n,dg f n:=by
  intro b
  induction b with
  | zero=>exact fun hb=>absurd (Pol.ext fun n=>hb n (Nat.zero_le _)) h
  | succ b ih =>
   intro hb
   by_cases h0:f.1 b=K.zero
   ·exact ih fun i hi=>by
     rcases Nat.lt_or_ge b i with q|q
     ·exact hb i q
     ·rw[show i=b by omega,h0]
   ·exact⟨b,h0,hb⟩
 exact this b hb
variable {inv:R→R}
theorem CD:∀(a b:Nat) (f g:Nat→R),(∀i,a<i→f i=K.zero)→(∀i,b<i→g i=K.zero)→jS K (a+b) f g=K.mul (f a) (g b)
 | 0,b,f,g,hf,hg=>by
  have:f=VB K (f 0):=funext fun i=>by cases i with|zero=>rfl|succ i=>exact hf _ (by omega)
  rw[this,AH,Nat.zero_add]; rfl
 | a+1,b,f,g,hf,hg=>by
  rw[show a+1+b=(a+b)+1 by omega];show K.add (K.mul (f 0) (g (a+b+1))) (jS K (a+b) (tl f) g)=_;rw[hg (a+b+1) (by omega),K.mul_zero,K.zero_add];exact CD a b (tl f) g (fun i hi=>hf (i+1) (by omega)) hg
theorem gT (F:FD K inv) {f g:Pol K} {n m:Nat} (hf:dg f n) (hg:dg g m):dg (aQ.mul f g) (n+m):=by
 refine⟨?_,fun i hi=>AF K (n+1) (m+1) f.1 g.1 (fun j hj=>hf.2 j hj) (fun j hj=>hg.2 j hj) i (by omega)⟩
 ·show jS K (n+m) f.1 g.1≠_;rw[CD n m f.1 g.1 hf.2 hg.2];exact F.mul_ne hf.1 hg.1
theorem qE {f g:Pol K} {n:Nat} (hf:dg f n) (hg:∀i,n≤i→g.1 i=K.zero):dg (aQ.add f g) n:=by
 refine⟨?_,fun i hi => ?_⟩
 ·show K.add (f.1 n) (g.1 n)≠_;rw[hg n (Nat.le_refl _),K.add_zero]; exact hf.1
 ·show K.add (f.1 i) (g.1 i)=_;rw[hf.2 i hi,hg i (by omega),K.add_zero]
theorem UI {a:R} (h:a≠K.zero):K.neg a≠K.zero:=fun e=>h (by rw[←K.neg_neg a,e,cK])
theorem LD {f:Pol K} {n:Nat} (hf:dg f n):dg (aQ.neg f) n :=
 ⟨UI hf.1,fun i hi=>by show K.neg (f.1 i)=_; rw[hf.2 i hi,cK]⟩
theorem qD (F:FD K inv) (c:R):dg (aQ.sub (pX:Pol K) (fG c)) 1:=by
 refine⟨?_,fun i hi => ?_⟩
 ·show K.add K.one (K.neg K.zero)≠_;rw[cK,K.add_zero]; exact F.ne
 ·match i,hi with
  | i+2,_=>show K.add K.zero (K.neg K.zero)=_; rw[cK,K.add_zero]
def qP (c:R):Pol K:=aQ.add (aQ.mul pX (aQ.mul pX pX)) (fG c)
theorem VK (F:FD K inv):dg (pX:Pol K) 1:=⟨F.ne,fun i hi=>by match i,hi with|i+2,_=>rfl⟩
theorem ZM (F:FD K inv) (c:R):dg (qP c:Pol K) 3 :=
 qE (gT F (VK F) (gT F (VK F) (VK F))) fun i hi=>by match i,hi with|i+1,_=>rfl
theorem rR (F:FD K inv) {c k:R} {h:Pol K} (e:aQ.mul (aQ.sub (pX:Pol K) (fG c)) h=fG k):k=K.zero:=by
 by_cases h0:h=aQ.zero
 ·rw[h0,aQ.mul_zero]at e;exact (congrArg (fun p:Pol K=>p.1 0) e).symm
 ·obtain⟨n,hn⟩:=CC h h0;have:=gT F (qD F c) hn;rw[e]at this;exact absurd (by rw[Nat.add_comm]; rfl) this.1
end
section
variable {A:Type} {K:CR A}
theorem RT {M N L1 R1 c1 L2 R2 c2 L3 R3 c3 L4 R4 c4:A} (h1:L1=R1) (h2:L2=R2) (h3:L3=R3) (h4:L4=R4) (e:K.add M (K.neg N)=K.add (K.add (K.add (K.mul c1 (K.add L1 (K.neg R1))) (K.mul c2 (K.add L2 (K.neg R2)))) (K.mul c3 (K.add L3 (K.neg R3)))) (K.mul c4 (K.add L4 (K.neg R4)))):M=N:=by
 apply fO (K:=K);rw[e,dH h1,dH h2,dH h3,dH h4,K.mul_zero,K.mul_zero,K.mul_zero,K.mul_zero,K.add_zero,K.add_zero,K.add_zero]
def op (K:CR A) (X Y x y:A) (S:A→Prop):A→Prop:=fun z=>∃s t,S s∧S t∧z=K.add (K.mul (K.sub X x) s) (K.mul (K.sub Y y) t)
structure Idl (K:CR A) (S:A→Prop):Prop where
 add:∀a b,S a→S b→S (K.add a b)
 mul:∀a c,S a→S (K.mul c a)
theorem Idl.neg {S:A→Prop} (h:Idl K S) {a:A} (ha:S a):S (K.neg a):=by
 have:=h.mul a (K.neg K.one) ha
 rwa [K.neg_mul,K.one_mul]at this
theorem Idl.sub {S:A→Prop} (h:Idl K S) {a b:A} (ha:S a) (hb:S b):S (K.sub a b):=h.add _ _ ha (h.neg hb)
def Eqv (K:CR A) (S T:A→Prop):Prop:=∃a b,a≠K.zero∧b≠K.zero∧(∀s,S s→∃t,T t∧K.mul a s=K.mul b t)∧(∀t,T t→∃s,S s∧K.mul a s=K.mul b t)
def Ax (K:CR A):Prop:=K.one≠K.zero∧∀a b,a≠K.zero→b≠K.zero→K.mul a b≠K.zero
theorem Eqv.refl (D:Ax K) (S:A→Prop):Eqv K S S:=⟨K.one,K.one,D.1,D.1,fun s h=>⟨s,h,rfl⟩,fun s h=>⟨s,h,rfl⟩⟩
theorem Eqv.symm {S T:A→Prop} (h:Eqv K S T):Eqv K T S:=by
 obtain⟨a,b,ha,hb,h1,h2⟩:=h;exact⟨b,a,hb,ha,fun t ht=>by obtain⟨s,hs,e⟩:=h2 t ht; exact⟨s,hs,e.symm⟩,fun s hs=>by obtain⟨t,ht,e⟩:=h1 s hs; exact⟨t,ht,e.symm⟩⟩
theorem Eqv.trans (D:Ax K) {S T U:A→Prop} (h:Eqv K S T) (g:Eqv K T U):Eqv K S U:=by
 obtain⟨a,b,ha,hb,h1,h2⟩:=h;obtain⟨c,d,hc,hd,g1,g2⟩:=g;have key:∀s t u,K.mul a s=K.mul b t→K.mul c t=K.mul d u→K.mul (K.mul c a) s=K.mul (K.mul b d) u:=fun s t u e f=>by
  rw[K.mul_assoc,e,K.mul_left_comm,f,K.mul_assoc]
 refine⟨K.mul c a,K.mul b d,D.2 _ _ hc ha,D.2 _ _ hb hd,fun s hs => ?_,fun u hu => ?_⟩
 ·obtain⟨t,ht,e⟩:=h1 s hs;obtain⟨u,hu,f⟩:=g1 t ht;exact⟨u,hu,key s t u e f⟩
 ·obtain⟨t,ht,f⟩:=g2 u hu;obtain⟨s,hs,e⟩:=h2 t ht;exact⟨s,hs,key s t u e f⟩
variable {X Y:A}
theorem wG {x y al be s s2 t t2:A} (e:K.mul al s=K.mul be t) (f:K.mul al s2=K.mul be t2):K.mul al (K.add (K.mul (K.sub X x) s) (K.mul (K.sub Y y) s2))=K.mul be (K.add (K.mul (K.sub X x) t) (K.mul (K.sub Y y) t2)) :=
 iV (K:=K) (c1:=(K.sub X x)) (c2:=(K.sub Y y)) e f (aL K (bI K [al,X,x,s,Y,y,s2,be,t,t2]) (Z0*((Z1-Z2)*Z3+(Z4-Z5)*Z6)-Z7*((Z1-Z2)*Z8+(Z4-Z5)*Z9)) ((Z1-Z2)*(Z0*Z3-Z7*Z8)+(Z4-Z5)*(Z0*Z6-Z7*Z9)) (by kernel_rfl))
theorem Eqv.op {S T:A→Prop} (x y:A) (h:Eqv K S T):Eqv K (op K X Y x y S) (op K X Y x y T):=by
 obtain⟨a,b,ha,hb,h1,h2⟩:=h;refine⟨a,b,ha,hb,?_,?_⟩
 ·rintro z ⟨s,s2,hs,hs2,rfl⟩
  obtain⟨t,ht,e⟩:=h1 s hs;obtain⟨t2,ht2,f⟩:=h1 s2 hs2;exact⟨_,⟨t,t2,ht,ht2,rfl⟩,wG e f⟩
 ·rintro z ⟨t,t2,ht,ht2,rfl⟩
  obtain⟨s,hs,e⟩:=h2 t ht;obtain⟨s2,hs2,f⟩:=h2 t2 ht2;exact⟨_,⟨s,s2,hs,hs2,rfl⟩,wG e f⟩
theorem wF {S:A→Prop} (x y x' y':A) {z:A} (h:op K X Y x y (op K X Y x' y' S) z):op K X Y x' y' (op K X Y x y S) z:=by
 obtain⟨_,_,⟨a,bb,ha,hb,rfl⟩,⟨c,d,hc,hd,rfl⟩,rfl⟩:=h;exact⟨_,_,⟨a,c,ha,hc,rfl⟩,⟨bb,d,hb,hd,rfl⟩,aL K (bI K [X,x,x',a,Y,y',bb,y,c,d]) ((Z0-Z1)*((Z0-Z2)*Z3+(Z4-Z5)*Z6)+(Z4-Z7)*((Z0-Z2)*Z8+(Z4-Z5)*Z9)) ((Z0-Z2)*((Z0-Z1)*Z3+(Z4-Z7)*Z8)+(Z4-Z5)*((Z0-Z1)*Z6+(Z4-Z7)*Z9)) (by kernel_rfl)⟩
theorem OI {S:A→Prop} (x y x' y':A):op K X Y x y (op K X Y x' y' S)=op K X Y x' y' (op K X Y x y S) :=
 funext fun z=>propext ⟨wF x y x' y',wF x' y' x y⟩
theorem IT {S:A→Prop} (h:Idl K S) (x y:A):Idl K (op K X Y x y S) where
 add:=by
  rintro _ _ ⟨a,b,ha,hb,rfl⟩ ⟨c,d,hc,hd,rfl⟩
  exact⟨_,_,h.add a c ha hc,h.add b d hb hd,aL K (bI K [X,x,a,Y,y,b,c,d]) ((Z0-Z1)*Z2+(Z3-Z4)*Z5+((Z0-Z1)*Z6+(Z3-Z4)*Z7)) ((Z0-Z1)*(Z2+Z6)+(Z3-Z4)*(Z5+Z7)) (by kernel_rfl)⟩
 mul:=by
  rintro _ c ⟨a,b,ha,hb,rfl⟩
  exact⟨_,_,h.mul a c ha,h.mul b c hb,aL K (bI K [c,X,x,a,Y,y,b]) (Z0*((Z1-Z2)*Z3+(Z4-Z5)*Z6)) ((Z1-Z2)*(Z0*Z3)+(Z4-Z5)*(Z0*Z6)) (by kernel_rfl)⟩
theorem UA {b x y k:A} (hY:K.mul Y Y=K.add (K.mul X (K.mul X X)) b) (hy:K.mul y y=K.add (K.mul x (K.mul x x)) b) (hk:K.mul k (K.add y y)=K.one) (D:Ax K) (hX:K.sub X x≠K.zero) {S:A→Prop} (h:Idl K S):Eqv K (op K X Y x y (op K X Y x (K.neg y) S)) S:=by
 refine⟨K.one,K.sub X x,D.1,hX,?_,?_⟩
 ·rintro _ ⟨_,_,⟨a,bb,ha,hb,rfl⟩,⟨c,d,hc,hd,rfl⟩,rfl⟩
  refine⟨(K.add (K.add (K.add (K.mul (K.sub X x) a) (K.mul (K.sub Y (K.neg y)) bb)) (K.mul (K.sub Y y) c)) (K.mul (K.add (K.add (K.mul X X) (K.mul x X)) (K.mul x x)) d)),h.add _ _ (h.add _ _ (h.add _ _ (h.mul _ _ ha) (h.mul _ _ hb)) (h.mul _ _ hc)) (h.mul _ _ hd),?_⟩;rw[K.one_mul];exact iV (K:=K) (c1:=d) (c2:=(K.neg d)) hY hy (aL K (bI K [X,x,a,Y,y,bb,c,d,b]) ((Z0-Z1)*((Z0-Z1)*Z2+(Z3-(-Z4))*Z5)+(Z3-Z4)*((Z0-Z1)*Z6+(Z3-(-Z4))*Z7)-(Z0-Z1)*((Z0-Z1)*Z2+(Z3-(-Z4))*Z5+(Z3-Z4)*Z6+(Z0*Z0+Z1*Z0+Z1*Z1)*Z7)) (Z7*(Z3*Z3-(Z0*(Z0*Z0)+Z8))+(-Z7)*(Z4*Z4-(Z1*(Z1*Z1)+Z8))) (by kernel_rfl))
 ·intro t ht;refine⟨_,⟨_,_,⟨_,_,h.mul t K.zero ht,h.mul t k ht,rfl⟩,⟨_,_,h.mul t (K.neg k) ht,h.mul t K.zero ht,rfl⟩,rfl⟩,?_⟩;rw[K.one_mul];exact fI (K:=K) (c1:=(K.mul (K.sub X x) t)) hk (aL K (bI K [X,x,t,Y,y,k]) ((Z0-Z1)*((Z0-Z1)*(RE.zero*Z2)+(Z3-(-Z4))*(Z5*Z2))+(Z3-Z4)*((Z0-Z1)*((-Z5)*Z2)+(Z3-(-Z4))*(RE.zero*Z2))-(Z0-Z1)*Z2) ((Z0-Z1)*Z2*(Z5*(Z4+Z4)-RE.one)) (by kernel_rfl))
theorem DY {b x1 y1 x2 l:A} (hY:K.mul Y Y=K.add (K.mul X (K.mul X X)) b) (H2:(K.mul l (K.add y1 (K.add y1 (K.mul l (K.sub x2 x1)))))=(K.add (K.add (K.mul x1 x1) (K.mul x1 x2)) (K.mul x2 x2))) (H3:(K.mul y1 y1)=(K.add (K.mul x1 (K.mul x1 x1)) b)):(K.mul (K.sub X x1) (K.mul (K.sub X x2) (K.sub X (K.sub (K.sub (K.mul l l) x1) x2))))=(K.mul (K.sub (K.sub Y y1) (K.mul l (K.sub X x1))) (K.add (K.sub Y (K.sub (K.mul l (K.sub x1 (K.sub (K.sub (K.mul l l) x1) x2))) y1)) (K.mul l (K.sub X (K.sub (K.sub (K.mul l l) x1) x2))))) :=
 nT (K:=K) (c1:=(K.neg K.one)) (c2:=K.one) (c3:=(K.sub X x1)) hY H3 H2 (aL K (bI K [X,x1,x2,l,Y,y1,b]) ((Z0-Z1)*((Z0-Z2)*(Z0-(Z3*Z3-Z1-Z2)))-(Z4-Z5-Z3*(Z0-Z1))*(Z4-(Z3*(Z1-(Z3*Z3-Z1-Z2))-Z5)+Z3*(Z0-(Z3*Z3-Z1-Z2)))) ((-RE.one)*(Z4*Z4-(Z0*(Z0*Z0)+Z6))+RE.one*(Z5*Z5-(Z1*(Z1*Z1)+Z6))+(Z0-Z1)*(Z3*(Z5+(Z5+Z3*(Z2-Z1)))-(Z1*Z1+Z1*Z2+Z2*Z2))) (by kernel_rfl))
theorem TZ {b x1 y1 x2 l:A} (hY:K.mul Y Y=K.add (K.mul X (K.mul X X)) b) (H2:(K.mul l (K.add y1 (K.add y1 (K.mul l (K.sub x2 x1)))))=(K.add (K.add (K.mul x1 x1) (K.mul x1 x2)) (K.mul x2 x2))) (H3:(K.mul y1 y1)=(K.add (K.mul x1 (K.mul x1 x1)) b)) (hk:(∃k,K.mul k (K.add y1 (K.add y1 (K.mul l (K.sub x2 x1))))=K.one)∨(∃k,K.mul k (K.sub x2 x1)=K.one)) (hX:K.sub X (K.sub (K.sub (K.mul l l) x1) x2)≠K.zero) (hl:(K.sub (K.sub Y y1) (K.mul l (K.sub X x1)))≠K.zero) {S:A→Prop} (h:Idl K S):Eqv K (op K X Y x1 y1 (op K X Y x2 (K.add y1 (K.mul l (K.sub x2 x1))) S)) (op K X Y (K.sub (K.sub (K.mul l l) x1) x2) (K.sub (K.mul l (K.sub x1 (K.sub (K.sub (K.mul l l) x1) x2))) y1) S):=by
 have HC:=DY (X:=X) (Y:=Y) hY H2 H3;refine⟨K.sub X (K.sub (K.sub (K.mul l l) x1) x2),(K.sub (K.sub Y y1) (K.mul l (K.sub X x1))),hX,hl,?_,?_⟩
 ·rintro _ ⟨_,_,⟨a,bb,ha,hb,rfl⟩,⟨c,d,hc,hd,rfl⟩,rfl⟩
  exact⟨_,⟨(K.add (K.add (K.add (K.mul l a) (K.mul (K.add (K.sub X x1) (K.mul l l)) bb)) (K.mul (K.add (K.sub X x2) (K.mul l l)) c)) (K.mul (K.add (K.add (K.add (K.sub (K.sub Y y1) (K.mul l (K.sub X x1))) (K.mul l (K.sub X x1))) (K.mul l (K.sub X x2))) (K.mul l (K.mul l l))) d)),(K.add (K.add (K.add a (K.mul l bb)) (K.mul l c)) (K.mul (K.mul l l) d)),h.add _ _ (h.add _ _ (h.add _ _ (h.mul _ _ ha) (h.mul _ _ hb)) (h.mul _ _ hc)) (h.mul _ _ hd),h.add _ _ (h.add _ _ (h.add _ _ ha (h.mul _ _ hb)) (h.mul _ _ hc)) (h.mul _ _ hd),rfl⟩,fI (K:=K) (c1:=(K.add (K.add (K.add a (K.mul l bb)) (K.mul l c)) (K.mul (K.mul l l) d))) HC (aL K (bI K [X,l,x1,x2,a,Y,y1,bb,c,d]) ((Z0-(Z1*Z1-Z2-Z3))*((Z0-Z2)*((Z0-Z3)*Z4+(Z5-(Z6+Z1*(Z3-Z2)))*Z7)+(Z5-Z6)*((Z0-Z3)*Z8+(Z5-(Z6+Z1*(Z3-Z2)))*Z9))-(Z5-Z6-Z1*(Z0-Z2))*((Z0-(Z1*Z1-Z2-Z3))*(Z1*Z4+(Z0-Z2+Z1*Z1)*Z7+(Z0-Z3+Z1*Z1)*Z8+(Z5-Z6-Z1*(Z0-Z2)+Z1*(Z0-Z2)+Z1*(Z0-Z3)+Z1*(Z1*Z1))*Z9)+(Z5-(Z1*(Z2-(Z1*Z1-Z2-Z3))-Z6))*(Z4+Z1*Z7+Z1*Z8+Z1*Z1*Z9))) ((Z4+Z1*Z7+Z1*Z8+Z1*Z1*Z9)*((Z0-Z2)*((Z0-Z3)*(Z0-(Z1*Z1-Z2-Z3)))-(Z5-Z6-Z1*(Z0-Z2))*(Z5-(Z1*(Z2-(Z1*Z1-Z2-Z3))-Z6)+Z1*(Z0-(Z1*Z1-Z2-Z3))))) (by kernel_rfl))⟩
 ·rintro _ ⟨u,w,hu,hw,rfl⟩
  have hg:S (K.sub u (K.mul l w)):=h.sub hu (h.mul _ _ hw);have e0:K.mul (K.sub (K.sub Y y1) (K.mul l (K.sub X x1))) (K.add (K.mul (K.sub X (K.sub (K.sub (K.mul l l) x1) x2)) u) (K.mul (K.sub Y (K.sub (K.mul l (K.sub x1 (K.sub (K.sub (K.mul l l) x1) x2))) y1)) w))=K.mul (K.sub X (K.sub (K.sub (K.mul l l) x1) x2)) (K.add (K.mul (K.sub (K.sub Y y1) (K.mul l (K.sub X x1))) (K.sub u (K.mul l w))) (K.mul (K.sub X x1) (K.mul (K.sub X x2) w))) :=
   fI (K:=K) (c1:=(K.neg w)) HC (aL K (bI K [Y,y1,l,X,x1,x2,u,w]) ((Z0-Z1-Z2*(Z3-Z4))*((Z3-(Z2*Z2-Z4-Z5))*Z6+(Z0-(Z2*(Z4-(Z2*Z2-Z4-Z5))-Z1))*Z7)-(Z3-(Z2*Z2-Z4-Z5))*((Z0-Z1-Z2*(Z3-Z4))*(Z6-Z2*Z7)+(Z3-Z4)*((Z3-Z5)*Z7))) ((-Z7)*((Z3-Z4)*((Z3-Z5)*(Z3-(Z2*Z2-Z4-Z5)))-(Z0-Z1-Z2*(Z3-Z4))*(Z0-(Z2*(Z4-(Z2*Z2-Z4-Z5))-Z1)+Z2*(Z3-(Z2*Z2-Z4-Z5))))) (by kernel_rfl))
  generalize hge:(K.sub u (K.mul l w))=g at hg e0;rw[e0]
  rcases hk with⟨k,hk⟩|⟨k,hk⟩
  ·refine⟨_,⟨_,_,⟨_,_,h.add _ _ (h.mul g (K.mul k (K.add (K.add X x1) x2)) hg) hw,h.mul g K.zero hg,rfl⟩,⟨_,_,h.mul g K.zero hg,h.mul g (K.neg k) hg,rfl⟩,rfl⟩,congrArg (K.mul _) ?_⟩;exact RT (K:=K) (c1:=(K.mul (K.sub (K.sub Y y1) (K.mul l (K.sub X x1))) g)) (c2:=(K.neg (K.mul k g))) (c3:=(K.mul k g)) (c4:=(K.mul (K.mul k g) (K.sub X x1))) hk hY H3 H2 (aL K (bI K [X,x1,x2,k,g,w,Y,y1,l,b]) ((Z0-Z1)*((Z0-Z2)*(Z3*(Z0+Z1+Z2)*Z4+Z5)+(Z6-(Z7+Z8*(Z2-Z1)))*(RE.zero*Z4))+(Z6-Z7)*((Z0-Z2)*(RE.zero*Z4)+(Z6-(Z7+Z8*(Z2-Z1)))*((-Z3)*Z4))-((Z6-Z7-Z8*(Z0-Z1))*Z4+(Z0-Z1)*((Z0-Z2)*Z5))) ((Z6-Z7-Z8*(Z0-Z1))*Z4*(Z3*(Z7+(Z7+Z8*(Z2-Z1)))-RE.one)+(-(Z3*Z4))*(Z6*Z6-(Z0*(Z0*Z0)+Z9))+Z3*Z4*(Z7*Z7-(Z1*(Z1*Z1)+Z9))+Z3*Z4*(Z0-Z1)*(Z8*(Z7+(Z7+Z8*(Z2-Z1)))-(Z1*Z1+Z1*Z2+Z2*Z2))) (by kernel_rfl))
  ·refine⟨_,⟨_,_,⟨_,_,hw,h.mul g k hg,rfl⟩,⟨_,_,h.mul g (K.neg k) hg,h.mul g K.zero hg,rfl⟩,rfl⟩,congrArg (K.mul _) ?_⟩;exact fI (K:=K) (c1:=(K.mul (K.sub (K.sub Y y1) (K.mul l (K.sub X x1))) g)) hk (aL K (bI K [X,x1,x2,w,Y,y1,l,k,g]) ((Z0-Z1)*((Z0-Z2)*Z3+(Z4-(Z5+Z6*(Z2-Z1)))*(Z7*Z8))+(Z4-Z5)*((Z0-Z2)*((-Z7)*Z8)+(Z4-(Z5+Z6*(Z2-Z1)))*(RE.zero*Z8))-((Z4-Z5-Z6*(Z0-Z1))*Z8+(Z0-Z1)*((Z0-Z2)*Z3))) ((Z4-Z5-Z6*(Z0-Z1))*Z8*(Z7*(Z2-Z1)-RE.one)) (by kernel_rfl))
end
open Classical
section
variable {R:Type} {K:CR R} {inv:R→R}
def dE (K:CR R) (b:R):CR (Pol K×Pol K):=(aQ (K:=K)).sq (qP b)
def cX:Pol K×Pol K:=(pX,aQ.zero)
def cY:Pol K×Pol K:=(aQ.zero,aQ.one)
def cc (k:R):Pol K×Pol K:=(fG k,aQ.zero)
variable (b:R)
theorem jT (x y:R):(cc (K.add x y):Pol K×Pol K)=(dE K b).add (cc x) (cc y):=Prod.ext (BG x y) (aQ.zero_add _).symm
theorem LL (x:R):(cc (K.neg x):Pol K×Pol K)=(dE K b).neg (cc x):=Prod.ext (OH x) (cK aQ).symm
theorem qI (x y:R):(cc (K.sub x y):Pol K×Pol K)=(dE K b).sub (cc x) (cc y):=by
 show cc (K.add _ _)=(dE K b).add _ _;rw[jT b,LL b]
theorem iT (x y:R):(cc (K.mul x y):Pol K×Pol K)=(dE K b).mul (cc x) (cc y):=by
 refine Prod.ext ?_ ?_
 ·show fG (K.mul x y)=aQ.add (aQ.mul (fG x) (fG y)) (aQ.mul (qP b) (aQ.mul aQ.zero aQ.zero));rw[aQ.mul_zero,aQ.mul_zero,aQ.add_zero,oM]
 ·show aQ.zero=aQ.add (aQ.mul (fG x) aQ.zero) (aQ.mul aQ.zero (fG y));rw[aQ.mul_zero,aQ.zero_mul,aQ.add_zero]
theorem LK:(cc K.one:Pol K×Pol K)=(dE K b).one:=rfl
theorem ZY:(dE K b).mul cY cY=(dE K b).add ((dE K b).mul cX ((dE K b).mul cX cX)) (cc b):=by
 refine Prod.ext ?_ ?_
 ·show aQ.add (aQ.mul aQ.zero aQ.zero) (aQ.mul (qP b) (aQ.mul aQ.one aQ.one))=aQ.add (aQ.add (aQ.mul pX (aQ.add (aQ.mul pX pX) (aQ.mul (qP b) (aQ.mul aQ.zero aQ.zero)))) (aQ.mul (qP b) (aQ.mul aQ.zero (aQ.add (aQ.mul pX aQ.zero) (aQ.mul aQ.zero pX))))) (fG b);simp only[aQ.mul_zero,aQ.zero_mul,aQ.add_zero,aQ.zero_add,aQ.mul_one];rfl
 ·show aQ.add (aQ.mul aQ.zero aQ.one) (aQ.mul aQ.one aQ.zero)=aQ.add (aQ.add (aQ.mul pX (aQ.add (aQ.mul pX aQ.zero) (aQ.mul aQ.zero pX))) (aQ.mul aQ.zero (aQ.add (aQ.mul pX pX) (aQ.mul (qP b) (aQ.mul aQ.zero aQ.zero))))) aQ.zero;simp only[aQ.mul_zero,aQ.zero_mul,aQ.add_zero,aQ.zero_add,aQ.mul_one]
def nrm (f:Pol K×Pol K):Pol K:=aQ.sub (aQ.mul f.1 f.1) (aQ.mul (qP b) (aQ.mul f.2 f.2))
theorem BM (f g:Pol K×Pol K):nrm b ((dE K b).mul f g)=aQ.mul (nrm b f) (nrm b g) :=
 aL aQ (bI aQ [f.1,g.1,qP b,f.2,g.2]) ((Z0*Z1+Z2*(Z3*Z4))*(Z0*Z1+Z2*(Z3*Z4))-Z2*((Z0*Z4+Z3*Z1)*(Z0*Z4+Z3*Z1))) ((Z0*Z0-Z2*(Z3*Z3))*(Z1*Z1-Z2*(Z4*Z4))) (by kernel_rfl)
theorem tK (F:FD K inv) (f:Pol K×Pol K) (h:f≠(dE K b).zero):∃d,dg (nrm b f) d∧d≠1:=by
 have hq:dg (qP b:Pol K) 3:=ZM F b
 by_cases h2:f.2=aQ.zero
 ·have h1:f.1≠aQ.zero:=fun e=>h (Prod.ext e h2)
  obtain⟨n,hn⟩:=CC _ h1;refine⟨n+n,?_,by omega⟩;unfold nrm;rw[h2,aQ.mul_zero,aQ.mul_zero];show dg (aQ.add _ (aQ.neg aQ.zero)) _;rw[cK,aQ.add_zero];exact gT F hn hn
 ·obtain⟨m,hm⟩:=CC _ h2;have hr:=gT F hq (gT F hm hm)
  by_cases h1:f.1=aQ.zero
  ·refine⟨3+(m+m),?_,by omega⟩;unfold nrm;rw[h1,aQ.mul_zero];show dg (aQ.add _ _) _;rw[aQ.zero_add];exact LD hr
  ·obtain⟨n,hn⟩:=CC _ h1;have hl:=gT F hn hn;have hr':=LD hr
   rcases Nat.lt_or_ge (n+n) (3+(m+m))with q|q
   ·refine⟨3+(m+m),?_,by omega⟩;show dg (aQ.add _ _) _;rw[aQ.add_comm];exact qE hr' fun i hi=>hl.2 i (by omega)
   ·refine⟨n+n,?_,by omega⟩;exact qE hl fun i hi=>hr'.2 i (by omega)
theorem iR (F:FD K inv):Ax (dE K b):=by
 refine⟨fun e=>F.ne (congrArg (fun z:Pol K×Pol K=>z.1.1 0) e),fun f g hf hg e => ?_⟩;obtain⟨n,hn,_⟩:=tK b F f hf;obtain⟨m,hm,_⟩:=tK b F g hg;have h:=LE (gT F hn hm);rw[←BM,e]at h;refine h ?_;show aQ.sub (aQ.mul aQ.zero aQ.zero) (aQ.mul (qP b) (aQ.mul aQ.zero aQ.zero))=_;rw[aQ.mul_zero,aQ.mul_zero];exact aQ.add_neg _
theorem AD {A:Type} {C:CR A} (D:Ax C) {a s t:A} (ha:a≠C.zero) (e:C.mul a s=C.mul a t):s=t:=by
 apply fO (K:=C)
 by_cases h:C.add s (C.neg t)=C.zero
 ·exact h
 ·exact absurd (by rw[C.mul_add,C.mul_neg,e,C.add_neg]) (D.2 _ _ ha h)
def uK {A:Type}:A→Prop:=fun _=>True
theorem gY {A:Type} (C:CR A):Idl C uK:=⟨fun _ _ _ _=>trivial,fun _ _ _=>trivial⟩
theorem xF (f:Pol K×Pol K):(dE K b).mul f (f.1,aQ.neg f.2)=(nrm b f,aQ.zero):=by
 refine Prod.ext ?_ ?_
 ·exact aL aQ (bI aQ [f.1,qP b,f.2]) (Z0*Z0+Z1*(Z2*(-Z2))) (Z0*Z0-Z1*(Z2*Z2)) (by kernel_rfl)
 ·exact aL aQ (bI aQ [f.1,f.2]) (Z0*(-Z1)+Z1*Z0) .zero (by kernel_rfl)
theorem GX {x y:R} (h:K.mul y y=K.add (K.mul x (K.mul x x)) b):(qP b:Pol K)=aQ.add (aQ.mul (fG y) (fG y)) (aQ.mul (aQ.sub pX (fG x)) (aQ.add (aQ.mul pX pX) (aQ.add (aQ.mul (fG x) pX) (aQ.mul (fG x) (fG x))))):=by
 have e:aQ.mul (fG y) (fG y)=aQ.add (aQ.mul (fG x) (aQ.mul (fG x) (fG x))) (fG b:Pol K):=by
  rw[←oM,←oM,←oM,←BG,h]
 rw[e];exact aL aQ (bI aQ [pX,fG b,fG x]) (Z0*(Z0*Z0)+Z1) (Z2*(Z2*Z2)+Z1+(Z0-Z2)*(Z0*Z0+(Z2*Z0+Z2*Z2))) (by kernel_rfl)
theorem XL (F:FD K inv) {x y:R} (h:K.mul y y=K.add (K.mul x (K.mul x x)) b):¬Eqv (dE K b) (op (dE K b) cX cY (cc x) (cc y) uK) uK:=by
 rintro⟨a,e,ha,he,h1,h2⟩
 have D:=iR (K:=K) b F;obtain⟨f,hf,e1⟩:=h2 (dE K b).one trivial;rw[(dE K b).mul_one]at e1;have hm:∀g,op (dE K b) cX cY (cc x) (cc y) uK g→∃t,g=(dE K b).mul f t:=fun g hg=>by
  obtain⟨t,_,e2⟩:=h1 g hg;rw[←e1,(dE K b).mul_assoc]at e2;exact⟨t,AD D ha e2⟩
 have sz:∀z:Pol K×Pol K,(dE K b).sub z (dE K b).zero=z:=fun z=>by
  show (dE K b).add z ((dE K b).neg _)=z;rw[cK,(dE K b).add_zero]
 obtain⟨t,ht⟩:=hm ((dE K b).sub cX (cc x)) ⟨(dE K b).one,(dE K b).zero,trivial,trivial,by rw[(dE K b).mul_one,(dE K b).mul_zero,(dE K b).add_zero]⟩;obtain⟨t',ht'⟩:=hm ((dE K b).sub cY (cc y)) ⟨(dE K b).zero,(dE K b).one,trivial,trivial,by rw[(dE K b).mul_one,(dE K b).mul_zero,(dE K b).zero_add]⟩;have hX:(dE K b).sub cX (cc x)=(aQ.sub pX (fG x),aQ.zero):=Prod.ext rfl (by show aQ.add aQ.zero (aQ.neg aQ.zero)=_; rw[cK,aQ.add_zero]);have hXn:(dE K b).sub cX (cc x)≠(dE K b).zero:=fun q=>LE (qD (K:=K) F x) (congrArg Prod.fst q)
 have hf0:f≠(dE K b).zero:=fun q=>hXn (by rw[ht,q,(dE K b).zero_mul])
 have ht0:t≠(dE K b).zero:=fun q=>hXn (by rw[ht,q,(dE K b).mul_zero])
 obtain⟨n,hn,n1⟩:=tK b F f hf0;obtain⟨m,hm',m1⟩:=tK b F t ht0;have hnm:n+m=2:=by
  have e3:=gT F hn hm';rw[←BM,←ht,hX]at e3;have e4:nrm b (aQ.sub pX (fG x),aQ.zero)=aQ.mul (aQ.sub pX (fG x)) (aQ.sub (pX:Pol K) (fG x)):=by
   show aQ.add (aQ.mul _ _) (aQ.neg (aQ.mul _ (aQ.mul aQ.zero aQ.zero)))=_;rw[aQ.mul_zero,aQ.mul_zero,cK,aQ.add_zero]
  rw[e4]at e3;exact VJ e3 (gT F (qD F x) (qD F x))
 have hc:∀p:Pol K,dg p 0→p=fG (p.1 0):=fun p hp=>Pol.ext fun i=>by
  cases i with
  | zero=>rfl
  | succ i=>exact hp.2 _ (by omega)
 have h02:n=0∨m=0:=by omega
 rcases h02 with q0|q0
 ·subst q0;obtain⟨s,r,_,_,e5⟩:=(IT (gY (dE K b)) (cc x) (cc y)).mul f (f.1,aQ.neg f.2) hf;rw[(dE K b).mul_comm,xF,hX]at e5;have c1:nrm b f=aQ.add (aQ.add (aQ.mul (aQ.sub pX (fG x)) s.1) (aQ.mul (qP b) (aQ.mul aQ.zero s.2))) (aQ.add (aQ.mul (aQ.add aQ.zero (aQ.neg (fG y))) r.1) (aQ.mul (qP b) (aQ.mul (aQ.add aQ.one (aQ.neg aQ.zero)) r.2))):=congrArg Prod.fst e5;have c2:aQ.zero=aQ.add (aQ.add (aQ.mul (aQ.sub pX (fG x)) s.2) (aQ.mul aQ.zero s.1)) (aQ.add (aQ.mul (aQ.add aQ.zero (aQ.neg (fG y))) r.2) (aQ.mul (aQ.add aQ.one (aQ.neg aQ.zero)) r.1)):=congrArg Prod.snd e5;have hs:=GX b h;refine hn.1 (rR F (c:=x) (h:=(aQ.add s.1 (aQ.add (aQ.mul (aQ.add (aQ.mul pX pX) (aQ.add (aQ.mul (fG x) pX) (aQ.mul (fG x) (fG x)))) r.2) (aQ.mul (fG y) s.2)))) ?_);rw[←hc _ hn,c1];refine Eq.symm ?_;exact iV (K:=aQ) (c1:=(fG y)) (c2:=r.2) c2 hs (aL aQ (bI aQ [pX,fG x,s.1,qP b,s.2,fG y,r.1,r.2]) ((Z0-Z1)*Z2+Z3*(RE.zero*Z4)+((RE.zero-Z5)*Z6+Z3*((RE.one-RE.zero)*Z7))-(Z0-Z1)*(Z2+((Z0*Z0+(Z1*Z0+Z1*Z1))*Z7+Z5*Z4))) (Z5*(RE.zero-((Z0-Z1)*Z4+RE.zero*Z2+((RE.zero-Z5)*Z7+(RE.one-RE.zero)*Z6)))+Z7*(Z3-(Z5*Z5+(Z0-Z1)*(Z0*Z0+(Z1*Z0+Z1*Z1))))) (by kernel_rfl))
 ·subst q0;have e6:(dE K b).mul ((dE K b).sub cX (cc x)) ((dE K b).mul t' (t.1,aQ.neg t.2))=(dE K b).mul ((dE K b).sub cY (cc y)) (nrm b t,aQ.zero):=by
   rw[←xF,ht,ht'];generalize ((t.1,aQ.neg t.2):Pol K×Pol K)=w;exact aL (dE K b) (bI (dE K b) [f,t,t',w]) (Z0*Z1*(Z2*Z3)) (Z0*Z2*(Z1*Z3)) (by kernel_rfl)
  rw[hX]at e6;generalize (dE K b).mul t' (t.1,aQ.neg t.2)=w at e6;have c2:aQ.add (aQ.mul (aQ.sub pX (fG x)) w.2) (aQ.mul aQ.zero w.1)=aQ.add (aQ.mul (aQ.add aQ.zero (aQ.neg (fG y))) aQ.zero) (aQ.mul (aQ.add aQ.one (aQ.neg aQ.zero)) (nrm b t)):=congrArg Prod.snd e6;rw[aQ.zero_mul,aQ.add_zero,aQ.mul_zero,aQ.zero_add,cK,aQ.add_zero,aQ.one_mul,hc _ hm']at c2;exact hm'.1 (rR F c2)
end
structure EC {R:Type} (K:CR R) (inv:R→R) (b:R):Prop where
 F:FD K inv
 two:K.add K.one K.one≠K.zero
 odd:∀x,K.add (K.mul x (K.mul x x)) b≠K.zero
section
variable {R:Type} (K:CR R) (inv:R→R) (b:R)
abbrev Pt (R:Type):=Option (R×R)
def On:Pt R→Prop
 | none=>True
 | some p=>K.mul p.2 p.2=K.add (K.mul p.1 (K.mul p.1 p.1)) b
def RA:Pt R→Pt R
 | none=>none
 | some p=>some (p.1,K.neg p.2)
def lO (x1 y1 x2 y2:R):R :=
 if x1=x2 then K.mul (K.add (K.add (K.mul x1 x1) (K.mul x1 x1)) (K.mul x1 x1)) (inv (K.add y1 y2))else K.mul (K.sub y2 y1) (inv (K.sub x2 x1))
def sx (l x1 x2:R):R:=K.sub (K.sub (K.mul l l) x1) x2
def sy (l x1 y1 x2:R):R:=K.sub (K.mul l (K.sub x1 (sx K l x1 x2))) y1
def xS:Pt R→Pt R→Pt R
 | none,q=>q
 | some p,none=>some p
 | some p,some q =>
  if p.1=q.1∧K.add p.2 q.2=K.zero then none
  else some (sx K (lO K inv p.1 p.2 q.1 q.2) p.1 q.1,sy K (lO K inv p.1 p.2 q.1 q.2) p.1 p.2 q.1)
variable {K} {inv} {b}
theorem BB {p q:R×R} (h:p.1=q.1∧K.add p.2 q.2=K.zero):xS K inv (some p) (some q)=none:=if_pos h
theorem oL {p q:R×R} (h:¬(p.1=q.1∧K.add p.2 q.2=K.zero)):xS K inv (some p) (some q)=some (sx K (lO K inv p.1 p.2 q.1 q.2) p.1 q.1,sy K (lO K inv p.1 p.2 q.1 q.2) p.1 p.2 q.1):=if_neg h
theorem jD {x y:R} (h:K.sub x y=K.zero):x=y:=fO h
theorem SI {x y:R} (h:x≠y):K.sub x y≠K.zero:=fun e=>h (jD e)
theorem EC.dbl_ne (E:EC K inv b) {y:R} (h:y≠K.zero):K.add y y≠K.zero:=fun e=>by
 refine E.F.mul_ne E.two h ?_;rw[K.add_mul,K.one_mul,e]
theorem EC.y_ne (E:EC K inv b) {x y:R} (h:K.mul y y=K.add (K.mul x (K.mul x x)) b):y≠K.zero:=fun e=>by
 rw[e,K.mul_zero]at h;exact E.odd x h.symm
structure Slope (K:CR R) (x1 y1 x2 y2 l:R):Prop where
 h1:y2=K.add y1 (K.mul l (K.sub x2 x1))
 h2:K.mul l (K.add y1 y2)=K.add (K.add (K.mul x1 x1) (K.mul x1 x2)) (K.mul x2 x2)
 hk:(∃k,K.mul k (K.add y1 y2)=K.one)∨(∃k,K.mul k (K.sub x2 x1)=K.one)
theorem uR (E:EC K inv b) {x1 y1 x2 y2:R} (hp:K.mul y1 y1=K.add (K.mul x1 (K.mul x1 x1)) b) (hq:K.mul y2 y2=K.add (K.mul x2 (K.mul x2 x2)) b) (hn:¬(x1=x2∧K.add y1 y2=K.zero)):Slope K x1 y1 x2 y2 (lO K inv x1 y1 x2 y2):=by
 unfold lO
 by_cases hx:x1=x2
 ·subst hx;rw[if_pos rfl];have hy:K.add y1 y2≠K.zero:=fun e=>hn ⟨rfl,e⟩
  have hi:=E.F.inv _ hy;have e:y1=y2:=by
   refine jD (K:=K) (E.F.zd (a:=K.add y1 y2) ?_ hy);have e0:K.mul (K.add y1 y2) (K.sub y1 y2)=K.sub (K.mul y1 y1) (K.mul y2 y2):=aL K (bI K [y1,y2]) ((Z0+Z1)*(Z0-Z1)) (Z0*Z0-Z1*Z1) (by kernel_rfl);rw[e0,hp,hq];exact K.add_neg _
  subst e;generalize inv (K.add y1 y1)=k at hi;refine⟨aL K (bI K [y1,x1,k]) (.v 0) (Z0+(Z1*Z1+Z1*Z1+Z1*Z1)*Z2*(Z1-Z1)) (by kernel_rfl),fI (K:=K) (c1:=(K.add (K.add (K.mul x1 x1) (K.mul x1 x1)) (K.mul x1 x1))) hi (aL K (bI K [x1,k,y1]) ((Z0*Z0+Z0*Z0+Z0*Z0)*Z1*(Z2+Z2)-(Z0*Z0+Z0*Z0+Z0*Z0)) ((Z0*Z0+Z0*Z0+Z0*Z0)*((Z2+Z2)*Z1-RE.one)) (by kernel_rfl)),Or.inl ⟨k,by rw[K.mul_comm,hi]⟩⟩
 ·rw[if_neg hx];have hd:K.sub x2 x1≠K.zero:=SI fun e=>hx e.symm
  have hi:=E.F.inv _ hd;generalize inv (K.sub x2 x1)=k at hi;refine⟨fI (K:=K) (c1:=(K.neg (K.sub y2 y1))) hi (aL K (bI K [y2,y1,k,x2,x1]) (Z0-(Z1+(Z0-Z1)*Z2*(Z3-Z4))) ((-(Z0-Z1))*((Z3-Z4)*Z2-RE.one)) (by kernel_rfl)),?_,Or.inr ⟨k,by rw[K.mul_comm,hi]⟩⟩;refine E.F.cancel hd ?_;exact nT (K:=K) (c1:=(K.mul (K.sub y2 y1) (K.add y1 y2))) (c2:=(K.neg K.one)) (c3:=K.one) hi hp hq (aL K (bI K [x2,x1,y2,y1,k,b]) ((Z0-Z1)*((Z2-Z3)*Z4*(Z3+Z2))-(Z0-Z1)*(Z1*Z1+Z1*Z0+Z0*Z0)) ((Z2-Z3)*(Z3+Z2)*((Z0-Z1)*Z4-RE.one)+(-RE.one)*(Z3*Z3-(Z1*(Z1*Z1)+Z5))+RE.one*(Z2*Z2-(Z0*(Z0*Z0)+Z5))) (by kernel_rfl))
theorem On.sum {x1 y1 x2 y2 l:R} (hp:K.mul y1 y1=K.add (K.mul x1 (K.mul x1 x1)) b) (h:Slope K x1 y1 x2 y2 l):On K b (some (sx K l x1 x2,sy K l x1 y1 x2)):=by
 obtain⟨h1,h2,_⟩:=h;subst h1;show K.mul (K.sub (K.mul l (K.sub x1 (K.sub (K.sub (K.mul l l) x1) x2))) y1) (K.sub (K.mul l (K.sub x1 (K.sub (K.sub (K.mul l l) x1) x2))) y1)=K.add (K.mul (K.sub (K.sub (K.mul l l) x1) x2) (K.mul (K.sub (K.sub (K.mul l l) x1) x2) (K.sub (K.sub (K.mul l l) x1) x2))) b;exact iV (K:=K) (c1:=K.one) (c2:=(K.sub (K.sub (K.sub (K.mul l l) x1) x2) x1)) hp h2 (aL K (bI K [l,x1,x2,y1,b]) ((Z0*(Z1-(Z0*Z0-Z1-Z2))-Z3)*(Z0*(Z1-(Z0*Z0-Z1-Z2))-Z3)-((Z0*Z0-Z1-Z2)*((Z0*Z0-Z1-Z2)*(Z0*Z0-Z1-Z2))+Z4)) (RE.one*(Z3*Z3-(Z1*(Z1*Z1)+Z4))+(Z0*Z0-Z1-Z2-Z1)*(Z0*(Z3+(Z3+Z0*(Z2-Z1)))-(Z1*Z1+Z1*Z2+Z2*Z2))) (by kernel_rfl))
theorem On.neg:∀{p:Pt R},On K b p→On K b (RA K p)
 | none,_=>trivial
 | some p,h=>by
  show K.mul (K.neg p.2) (K.neg p.2)=_;rw[K.neg_mul,K.mul_neg,K.neg_neg];exact h
theorem On.add (E:EC K inv b):∀{p q:Pt R},On K b p→On K b q→On K b (xS K inv p q)
 | none,_,_,h=>h
 | some _,none,h,_=>h
 | some p,some q,hp,hq=>by
  by_cases hn:p.1=q.1∧K.add p.2 q.2=K.zero
  ·rw[BB hn]; trivial
  ·rw[oL hn];exact On.sum hp (uR E hp hq hn)
def DO (K:CR R) (b:R) (p:Pt R) (S:Pol K×Pol K→Prop):Pol K×Pol K→Prop :=
 match p with
 | none=>S
 | some p=>op (dE K b) cX cY (cc p.1) (cc p.2) S
theorem IU (p q:Pt R) (S:Pol K×Pol K→Prop):DO K b p (DO K b q S)=DO K b q (DO K b p S):=by
 cases p with
 | none=>rfl
 | some p=>cases q with
  | none=>rfl
  | some q=>exact OI _ _ _ _
theorem OJ {S:Pol K×Pol K→Prop} (h:Idl (dE K b) S) (p:Pt R):Idl (dE K b) (DO K b p S):=by
 cases p with
 | none=>exact h
 | some p=>exact IT h _ _
theorem BI {S T:Pol K×Pol K→Prop} (h:Eqv (dE K b) S T) (p:Pt R):Eqv (dE K b) (DO K b p S) (DO K b p T):=by
 cases p with
 | none=>exact h
 | some p=>exact h.op _ _
theorem Ap (F:FD K inv) (c:R):(dE K b).sub cX (cc c)≠(dE K b).zero:=fun q=>LE (qD (K:=K) F c) (congrArg Prod.fst q)
theorem VE (F:FD K inv) (x1 y1 l:R):(dE K b).sub ((dE K b).sub cY (cc y1)) ((dE K b).mul (cc l) ((dE K b).sub cX (cc x1)))≠(dE K b).zero:=fun q=>by
 have e:K.add (K.add K.one (K.neg K.zero)) (K.neg (K.add (K.mul l (K.add K.zero (K.neg K.zero))) (K.mul K.zero (K.add K.zero (K.neg x1)))))=K.zero:=congrArg (fun z:Pol K×Pol K=>z.2.1 0) q;rw[cK,K.add_zero,K.add_zero,K.mul_zero,K.zero_mul,K.add_zero,cK,K.add_zero]at e;exact F.ne e
theorem gL (E:EC K inv b) {S:Pol K×Pol K→Prop} (hS:Idl (dE K b) S):∀{p q:Pt R},On K b p→On K b q→Eqv (dE K b) (DO K b p (DO K b q S)) (DO K b (xS K inv p q) S)
 | none,_,_,_=>Eqv.refl (iR b E.F) _
 | some _,none,_,_=>Eqv.refl (iR b E.F) _
 | some ⟨x1,y1⟩,some ⟨x2,y2⟩,hp,hq=>by
  by_cases hn:x1=x2∧K.add y1 y2=K.zero
  ·rw[BB hn];obtain⟨rfl,hy⟩:=hn;have e:y2=K.neg y1:=by
    apply K.add_cancel (a:=y1);rw[hy,K.add_neg]
   subst e;show Eqv (dE K b) (op (dE K b) cX cY (cc x1) (cc y1) (op (dE K b) cX cY (cc x1) (cc (K.neg y1)) S)) S;have h0:=E.F.inv _ (E.dbl_ne (E.y_ne hp));rw[LL b];refine UA (b:=cc b) (k:=cc (inv (K.add y1 y1))) (ZY b) ?_ ?_ (iR b E.F) (Ap E.F x1) hS
   ·rw[←iT,←iT,←iT,←jT];exact congrArg cc hp
   ·rw[←jT,←iT,K.mul_comm,h0];rfl
  ·rw[oL hn];have h:=uR E hp hq hn;dsimp only at h ⊢;generalize lO K inv x1 y1 x2 y2=l at h;obtain⟨h1,h2,hk⟩:=h;subst h1;show Eqv (dE K b) (op (dE K b) cX cY (cc x1) (cc y1) (op (dE K b) cX cY (cc x2) (cc (K.add y1 (K.mul l (K.sub x2 x1)))) S)) (op (dE K b) cX cY (cc (sx K l x1 x2)) (cc (sy K l x1 y1 x2)) S);unfold sy sx;have hX:=Ap (K:=K) (b:=b) E.F (sx K l x1 x2);have hl:=VE (K:=K) (b:=b) E.F x1 y1 l;unfold sx at hX;simp only[jT b,iT b,qI b]at hX ⊢;refine TZ (b:=cc b) (ZY b) ?_ ?_ ?_ hX hl hS
   ·have:=congrArg (cc (K:=K)) h2;simpa only[jT b,iT b,qI b]using this
   ·have:=congrArg (cc (K:=K)) hp;simpa only[jT b,iT b,qI b]using this
   ·rcases hk with⟨k,hk⟩|⟨k,hk⟩
    ·refine Or.inl ⟨cc k,?_⟩;have:=congrArg (cc (K:=K)) hk;simpa only[jT b,iT b,qI b,LK b]using this
    ·refine Or.inr ⟨cc k,?_⟩;have:=congrArg (cc (K:=K)) hk;simpa only[jT b,iT b,qI b,LK b]using this
theorem BC (p:Pt R):xS K inv (RA K p) p=none:=by
 cases p with
 | none=>rfl
 | some p=>exact if_pos ⟨rfl,K.neg_add _⟩
theorem GY {p q:Pt R} (h:xS K inv (RA K p) q=none):q=p:=by
 cases p with
 | none=>exact h
 | some p=>cases q with
  | none=>cases h
  | some q =>
   by_cases hh:p.1=q.1∧K.add (K.neg p.2) q.2=K.zero
   ·obtain⟨h1,h2⟩:=hh;refine congrArg some (Prod.ext h1.symm ?_);apply K.add_cancel (a:=K.neg p.2);exact h2.trans (K.neg_add p.2).symm
   ·have e:xS K inv (RA K (some p)) (some q)=some _:=oL (p:=(p.1,K.neg p.2)) (q:=q) hh;rw[e]at h;cases h
theorem UB (E:EC K inv b) {p:Pt R} (hp:On K b p) (h:Eqv (dE K b) (DO K b p uK) uK):p=none:=by
 cases p with
 | none=>rfl
 | some p=>exact absurd h (XL b E.F hp)
theorem BH (E:EC K inv b) {p q:Pt R} (hp:On K b p) (hq:On K b q) (h:Eqv (dE K b) (DO K b p uK) (DO K b q uK)):p=q:=by
 have D:=iR (K:=K) b E.F;have h1:=BI h (RA K q);have a1:=gL E (gY (dE K b)) hq.neg hp;have a2:=gL E (gY (dE K b)) hq.neg hq;rw[BC]at a2;exact GY (UB E (hq.neg.add E hp) (a1.symm.trans D (h1.trans D a2)))
theorem GZ (E:EC K inv b) {p q:Pt R} (hp:On K b p) (hq:On K b q):xS K inv p q=xS K inv q p:=by
 have D:=iR (K:=K) b E.F;refine BH E (hp.add E hq) (hq.add E hp) ?_;refine (gL E (gY (dE K b)) hp hq).symm.trans D ?_;rw[IU];exact gL E (gY (dE K b)) hq hp
theorem DF (E:EC K inv b) {p q r:Pt R} (hp:On K b p) (hq:On K b q) (hr:On K b r):xS K inv (xS K inv p q) r=xS K inv p (xS K inv q r):=by
 have D:=iR (K:=K) b E.F;have hu:=gY (dE K b);refine BH E ((hp.add E hq).add E hr) (hp.add E (hq.add E hr)) ?_;refine (gL E hu (hp.add E hq) hr).symm.trans D ?_;refine (gL E (OJ hu r) hp hq).symm.trans D ?_;refine (BI (gL E hu hq hr) p).trans D ?_;exact gL E hu hp (hq.add E hr)
end
structure AG (G:Type) where
 add:G→G→G
 neg:G→G
 zero:G
 assoc:∀a b c,add (add a b) c=add a (add b c)
 comm:∀a b,add a b=add b a
 zadd:∀a,add zero a=a
 nadd:∀a,add (neg a) a=zero
def EC.grp {R:Type} {K:CR R} {inv:R→R} {b:R} (E:EC K inv b):AG {p:Pt R // On K b p} where
 add p q:=⟨xS K inv p.1 q.1,p.2.add E q.2⟩
 neg p:=⟨RA K p.1,p.2.neg⟩
 zero:=⟨none,trivial⟩
 assoc p q r:=Subtype.ext (DF E p.2 q.2 r.2)
 comm p q:=Subtype.ext (GZ E p.2 q.2)
 zadd p:=rfl
 nadd p:=Subtype.ext (BC p.1)
end Go.Proofs.Ytjeplinbleofnaa.Ex
