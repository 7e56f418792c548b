/- Pc03 -/
import Derived.KernelRfl
import Derived.Laws.Externs
import Derived.Test.YtglgakbkdjhojaaGreatPc02
import Derived.Test.YtglgakbkdjhojaaGreatProg
set_option maxRecDepth 100000
set_option linter.unusedVariables false
set_option linter.unusedSimpArgs false
noncomputable section
namespace Go.Proofs.YtglgakbkdjhojaaGreat
open Go.Proofs.Tryz
structure CR (R:Type) where
 add:R→R→R
 mul:R→R→R
 neg:R→R
 zero:R
 one:R
 add_assoc:∀a b c,add (add a b) c=add a (add b c)
 add_comm:∀a b,add a b=add b a
 zero_add:∀a,add zero a=a
 neg_add:∀a,add (neg a) a=zero
 mul_assoc:∀a b c,mul (mul a b) c=mul a (mul b c)
 mul_comm:∀a b,mul a b=mul b a
 one_mul:∀a,mul one a=a
 mul_add:∀a b c,mul a (add b c)=add (mul a b) (mul a c)
namespace CR
variable {R:Type} (K:CR R)
theorem add_left_comm (a b c:R):K.add a (K.add b c)=K.add b (K.add a c):=by rw[←K.add_assoc,K.add_comm a b,K.add_assoc]
theorem mul_left_comm (a b c:R):K.mul a (K.mul b c)=K.mul b (K.mul a c):=by rw[←K.mul_assoc,K.mul_comm a b,K.mul_assoc]
theorem add_mul (a b c:R):K.mul (K.add a b) c=K.add (K.mul a c) (K.mul b c):=by rw[K.mul_comm,K.mul_add,K.mul_comm c a,K.mul_comm c b]
theorem add_zero (a:R):K.add a K.zero=a:=by rw[K.add_comm,K.zero_add]
theorem add_neg (a:R):K.add a (K.neg a)=K.zero:=by rw[K.add_comm,K.neg_add]
theorem add_cancel {a b c:R} (h:K.add a b=K.add a c):b=c:=by
 have:=congrArg (K.add (K.neg a)) h
 rwa [←K.add_assoc,←K.add_assoc,K.neg_add,K.zero_add,K.zero_add]at this
theorem mul_zero (a:R):K.mul a K.zero=K.zero:=by
 apply K.add_cancel (a:=K.mul a K.zero);rw[←K.mul_add,K.add_zero,K.add_zero]
theorem zero_mul (a:R):K.mul K.zero a=K.zero:=by rw[K.mul_comm,K.mul_zero]
theorem mul_one (a:R):K.mul a K.one=a:=by rw[K.mul_comm,K.one_mul]
theorem neg_mul (a b:R):K.mul (K.neg a) b=K.neg (K.mul a b):=by
 apply K.add_cancel (a:=K.mul a b);rw[←K.add_mul,K.add_neg,K.zero_mul,K.add_neg]
theorem neg_neg (a:R):K.neg (K.neg a)=a:=by
 apply K.add_cancel (a:=K.neg a);rw[K.add_neg,K.neg_add]
theorem neg_add' (a b:R):K.neg (K.add a b)=K.add (K.neg a) (K.neg b):=by
 apply K.add_cancel (a:=K.add a b);rw[K.add_neg,K.add_assoc,K.add_left_comm b,K.add_neg,K.add_zero,K.add_neg]
theorem mul_neg (a b:R):K.mul a (K.neg b)=K.neg (K.mul a b):=by rw[K.mul_comm,K.neg_mul,K.mul_comm]
def sub (a b:R):R:=K.add a (K.neg b)
def sq (q:R):CR (R×R) where
 add x y:=(K.add x.1 y.1,K.add x.2 y.2)
 mul x y:=(K.add (K.mul x.1 y.1) (K.mul q (K.mul x.2 y.2)),K.add (K.mul x.1 y.2) (K.mul x.2 y.1))
 neg x:=(K.neg x.1,K.neg x.2)
 zero:=(K.zero,K.zero)
 one:=(K.one,K.zero)
 add_assoc a b c:=by simp only[K.add_assoc]
 add_comm a b:=by rw[K.add_comm a.1,K.add_comm a.2]
 zero_add a:=by simp only[K.zero_add]
 neg_add a:=by simp only[K.neg_add]
 mul_assoc a b c:=by
  simp only[K.mul_add,K.add_mul,K.mul_assoc,K.mul_left_comm,K.add_assoc,K.add_left_comm,K.add_comm]
 mul_comm a b:=by
  simp only[K.mul_comm,K.add_comm]
 one_mul a:=by simp only[K.one_mul,K.zero_mul,K.mul_zero,K.add_zero]
 mul_add a b c:=by
  simp only[K.mul_add,K.add_assoc,Prod.mk.injEq];constructor<;>(simp only[K.add_left_comm])
theorem sa:Std.Associative K.add:=⟨K.add_assoc⟩
theorem sc:Std.Commutative K.add:=⟨K.add_comm⟩
theorem ma:Std.Associative K.mul:=⟨K.mul_assoc⟩
theorem mc:Std.Commutative K.mul:=⟨K.mul_comm⟩
def cu (q:R):CR (R×R×R) where
 add x y:=(K.add x.1 y.1,K.add x.2.1 y.2.1,K.add x.2.2 y.2.2)
 mul x y:=(K.add (K.mul x.1 y.1) (K.mul q (K.add (K.mul x.2.1 y.2.2) (K.mul x.2.2 y.2.1))),K.add (K.add (K.mul x.1 y.2.1) (K.mul x.2.1 y.1)) (K.mul q (K.mul x.2.2 y.2.2)),K.add (K.add (K.mul x.1 y.2.2) (K.mul x.2.1 y.2.1)) (K.mul x.2.2 y.1))
 neg x:=(K.neg x.1,K.neg x.2.1,K.neg x.2.2)
 zero:=(K.zero,K.zero,K.zero)
 one:=(K.one,K.zero,K.zero)
 add_assoc a b c:=by simp only[K.add_assoc]
 add_comm a b:=by rw[K.add_comm a.1,K.add_comm a.2.1,K.add_comm a.2.2]
 zero_add a:=by simp only[K.zero_add]
 neg_add a:=by simp only[K.neg_add]
 mul_assoc a b c:=by
  simp only[K.mul_add,K.add_mul,K.mul_assoc,K.add_assoc,Prod.mk.injEq];have:=K.sa; have:=K.sc; have:=K.ma; have:=K.mc;refine⟨?_,?_,?_⟩<;>ac_rfl
 mul_comm a b:=by
  simp only[Prod.mk.injEq];have:=K.sa; have:=K.sc; have:=K.ma; have:=K.mc;refine⟨?_,?_,?_⟩<;>ac_rfl
 one_mul a:=by simp only[K.one_mul,K.zero_mul,K.mul_zero,K.add_zero]
 mul_add a b c:=by
  simp only[K.mul_add,K.add_assoc,Prod.mk.injEq];have:=K.sa; have:=K.sc; have:=K.ma; have:=K.mc;refine⟨?_,?_,?_⟩<;>ac_rfl
end CR
def bAo (M:Nat) (h:1<M):CR (Fin M) where
 add a b:=⟨(a.1+b.1)%M,Nat.mod_lt _ (by omega)⟩
 mul a b:=⟨a.1*b.1%M,Nat.mod_lt _ (by omega)⟩
 neg a:=⟨(0+M-a.1)%M,Nat.mod_lt _ (by omega)⟩
 zero:=⟨0,by omega⟩
 one:=⟨1,h⟩
 add_assoc a b c:=Fin.ext (by show ((a.1+b.1)%M+c.1)%M=(a.1+(b.1+c.1)%M)%M; rw[Nat.mod_add_mod,Nat.add_mod_mod,Nat.add_assoc])
 add_comm a b:=Fin.ext (by show (a.1+b.1)%M=(b.1+a.1)%M; rw[Nat.add_comm])
 zero_add a:=Fin.ext (by show (0+a.1)%M=a.1; rw[Nat.zero_add,Nat.mod_eq_of_lt a.2])
 neg_add a:=Fin.ext (by
  show ((0+M-a.1)%M+a.1)%M=0;have:=a.2;rw[Nat.mod_add_mod,show 0+M-a.1+a.1=M by omega,Nat.mod_self])
 mul_assoc a b c:=Fin.ext (by show a.1*b.1%M*c.1%M=a.1*(b.1*c.1%M)%M; rw[Nat.mod_mul_mod,Nat.mul_mod_mod,Nat.mul_assoc])
 mul_comm a b:=Fin.ext (by show a.1*b.1%M=b.1*a.1%M; rw[Nat.mul_comm])
 one_mul a:=Fin.ext (by show 1*a.1%M=a.1; rw[Nat.one_mul,Nat.mod_eq_of_lt a.2])
 mul_add a b c:=Fin.ext (by show a.1*((b.1+c.1)%M)%M=(a.1*b.1%M+a.1*c.1%M)%M; rw[Nat.mul_mod_mod,Nat.mul_add,Nat.add_mod])
end Go.Proofs.YtglgakbkdjhojaaGreat
namespace Go.Proofs.YtglgakbkdjhojaaGreat.Ex
open Go.Proofs.Tryz
inductive RE|v (i:Nat)|add (a b:RE)|mul (a b:RE)|neg (a:RE)|zero|one
instance:Add RE:=⟨.add⟩
instance:Mul RE:=⟨.mul⟩
instance:Neg RE:=⟨.neg⟩
instance:Sub RE:=⟨fun a b=>.add a (.neg b)⟩
abbrev Z0:RE:=.v 0
abbrev Z1:RE:=.v 1
abbrev Z2:RE:=.v 2
abbrev Z3:RE:=.v 3
abbrev Z4:RE:=.v 4
abbrev Z5:RE:=.v 5
abbrev Z6:RE:=.v 6
abbrev Z7:RE:=.v 7
abbrev Z8:RE:=.v 8
abbrev Z9:RE:=.v 9
abbrev Z10:RE:=.v 10
abbrev Z11:RE:=.v 11
section
variable {R:Type} (K:CR R) (env:Nat→R)
def RE.den:RE→R
 | .v i=>env i
 | .add a b=>K.add (a.den) (b.den)
 | .mul a b=>K.mul (a.den) (b.den)
 | .neg a=>K.neg a.den
 | .zero=>K.zero
 | .one=>K.one
def nt (x:R):Nat→R
 | 0=>K.zero
 | n+1=>K.add (nt x n) x
def zt (x:R):Int→R
 | .ofNat n=>nt K x n
 | .negSucc n=>K.neg (nt K x (n+1))
def mono:List Nat→R
 | []=>K.one
 | i::r=>K.mul (env i) (mono r)
def lY:List (Int×List Nat)→R
 | []=>K.zero
 | (c,m)::r=>K.add (zt K (mono K env m) c) (lY r)
end
def ltL:List Nat→List Nat→Bool
 | [],[]=>false
 | [],_::_=>true
 | _::_,[]=>false
 | a::r,b::s=>bif Nat.blt a b then true else bif Nat.blt b a then false else ltL r s
def eqL:List Nat→List Nat→Bool
 | [],[]=>true
 | a::r,b::s=>bif Nat.beq a b then eqL r s else false
 | _,_=>false
theorem aDO:∀{a b:List Nat},eqL a b=true→a=b
 | [],[],_=>rfl
 | a::r,b::s,h=>by
  unfold eqL at h;cases hb:Nat.beq a b<;>rw[hb]at h
  ·cases h
  ·rw[Nat.eq_of_beq_eq_true hb,aDO h]
 | [],_::_,h=>by cases h
 | _::_,[],h=>by cases h
def ins (c:Int) (m:List Nat):List (Int×List Nat)→List (Int×List Nat)
 | []=>[(c,m)]
 | (d,k)::r=>bif eqL m k then (c+d,k)::r else bif ltL m k then (c,m)::(d,k)::r else (d,k)::ins c m r
def Fv:List (Int×List Nat)→List (Int×List Nat)→List (Int×List Nat)
 | [],q=>q
 | (c,m)::r,q=>ins c m (Fv r q)
def Uw (i:Nat):List Nat→List Nat
 | []=>[i]
 | j::r=>bif Nat.ble i j then i::j::r else j::Uw i r
def aCi:List Nat→List Nat→List Nat
 | [],m=>m
 | i::r,m=>Uw i (aCi r m)
def YQ (c:Int) (m:List Nat):List (Int×List Nat)→List (Int×List Nat)
 | []=>[]
 | (d,k)::r=>ins (c*d) (aCi m k) (YQ c m r)
def aAW:List (Int×List Nat)→List (Int×List Nat)→List (Int×List Nat)
 | [],_=>[]
 | (c,m)::r,q=>Fv (YQ c m q) (aAW r q)
def aAV:List (Int×List Nat)→List (Int×List Nat)
 | []=>[]
 | (c,m)::r=>(-c,m)::aAV r
def RE.norm:RE→List (Int×List Nat)
 | .v i=>[(1,[i])]
 | .add a b=>Fv a.norm b.norm
 | .mul a b=>aAW a.norm b.norm
 | .neg a=>aAV a.norm
 | .zero=>[]
 | .one=>[(1,[])]
def isZ:List (Int×List Nat)→Bool
 | []=>true
 | (.ofNat 0,_)::r=>isZ r
 | _=>false
section
variable {R:Type} (K:CR R) (env:Nat→R)
theorem tB (x:R) (n:Nat):∀m,nt K x (n+m)=K.add (nt K x n) (nt K x m)
 | 0=>(K.add_zero _).symm
 | m+1=>by show K.add (nt K x (n+m)) x=_; rw[tB x n m,K.add_assoc]; rfl
theorem bK:K.neg K.zero=K.zero:=by
 apply K.add_cancel (a:=K.zero);rw[K.add_neg,K.add_zero]
theorem Wo (x:R) (n m:Nat):zt K x (Int.subNatNat n m)=K.add (nt K x n) (K.neg (nt K x m)):=by
 unfold Int.subNatNat;split
 ·rename_i h;have:n=m+(n-m):=by omega
  show nt K x (n-m)=_
  conv=>rhs; rw[this,tB]
  rw[K.add_comm (nt K x m),K.add_assoc,K.add_neg,K.add_zero]
 ·rename_i k h;have:m=n+(k+1):=by omega
  show K.neg (nt K x (k+1))=K.add (nt K x n) (K.neg (nt K x m));rw[this,tB K x n (k+1),K.neg_add' (nt K x n),←K.add_assoc,K.add_neg,K.zero_add]
theorem Wp (x:R) (a b:Int):zt K x (a+b)=K.add (zt K x a) (zt K x b):=by
 cases a with
 | ofNat n =>
  cases b with
  | ofNat m=>exact tB K x n m
  | negSucc m=>exact Wo K x n (m+1)
 | negSucc n =>
  cases b with
  | ofNat m=>show zt K x (Int.subNatNat m (n+1))=_; rw[Wo,K.add_comm]; rfl
  | negSucc m =>
   show K.neg (nt K x (n+m+1+1))=K.add (K.neg (nt K x (n+1))) (K.neg (nt K x (m+1)));rw[←K.neg_add',←tB,show n+1+(m+1)=n+m+1+1 by omega]
theorem vN (x:R) (a:Int):zt K x (-a)=K.neg (zt K x a):=by
 apply K.add_cancel (a:=zt K x a);rw[←Wp,K.add_neg,Int.add_right_neg];rfl
theorem Ge (x y:R) (n:Nat):∀m,K.mul (nt K x n) (nt K y m)=nt K (K.mul x y) (n*m)
 | 0=>K.mul_zero _
 | m+1=>by
  show K.mul _ (K.add (nt K y m) y)=_;rw[K.mul_add,Ge x y n m,Nat.mul_add,Nat.mul_one,tB];congr 1;clear Ge
  induction n with
  | zero=>exact K.zero_mul _
  | succ n ih=>show K.mul (K.add (nt K x n) x) y=_; rw[K.add_mul,ih]; rfl
theorem aNc (x y:R) (a b:Int):K.mul (zt K x a) (zt K y b)=zt K (K.mul x y) (a*b):=by
 have hn:∀(c:Int),∃n:Nat,c=n∨c = -(n:Int):=fun c=>⟨c.natAbs,Int.natAbs_eq c⟩
 have h0:∀n m:Nat,K.mul (zt K x n) (zt K y m)=zt K (K.mul x y) ((n:Int)*m):=fun n m=>by
  rw[←Int.natCast_mul]; exact Ge K x y n m
 obtain⟨n,rfl|rfl⟩:=hn a
 ·obtain⟨m,rfl|rfl⟩:=hn b
  ·exact h0 n m
  ·rw[vN,K.mul_neg,h0,Int.mul_neg,vN]
 ·obtain⟨m,rfl|rfl⟩:=hn b
  ·rw[vN,K.neg_mul,h0,Int.neg_mul,vN]
  ·rw[vN,vN,K.neg_mul,K.mul_neg,K.neg_neg,h0,Int.neg_mul_neg]
theorem RS (c:Int) (m:List Nat):∀q,lY K env (ins c m q)=K.add (zt K (mono K env m) c) (lY K env q)
 | []=>rfl
 | (d,k)::r=>by
  unfold ins;cases he:eqL m k
  ·cases hl:ltL m k
   ·show K.add (zt K (mono K env k) d) (lY K env (ins c m r))=K.add _ (K.add _ _);rw[RS c m r,K.add_left_comm]
   ·rfl
  ·rw[aDO he];show K.add (zt K (mono K env k) (c+d)) (lY K env r)=K.add _ (K.add _ _);rw[Wp,K.add_assoc]
theorem GM:∀p q,lY K env (Fv p q)=K.add (lY K env p) (lY K env q)
 | [],q=>(K.zero_add _).symm
 | (c,m)::r,q=>by
  show lY K env (ins c m (Fv r q))=K.add (K.add _ _) _;rw[RS,GM r q,K.add_assoc]
theorem Ai (i:Nat):∀m,mono K env (Uw i m)=K.mul (env i) (mono K env m)
 | []=>rfl
 | j::r=>by
  unfold Uw;cases Nat.ble i j
  ·show K.mul (env j) (mono K env (Uw i r))=K.mul _ (K.mul _ _);rw[Ai i r,K.mul_left_comm]
  ·rfl
theorem ZU:∀m k,mono K env (aCi m k)=K.mul (mono K env m) (mono K env k)
 | [],k=>(K.one_mul _).symm
 | i::r,k=>by
  show mono K env (Uw i (aCi r k))=K.mul (K.mul _ _) _;rw[Ai,ZU r k,K.mul_assoc]
theorem MH (c:Int) (m:List Nat):∀q,lY K env (YQ c m q)=K.mul (zt K (mono K env m) c) (lY K env q)
 | []=>(K.mul_zero _).symm
 | (d,k)::r=>by
  show lY K env (ins (c*d) (aCi m k) (YQ c m r))=K.mul _ (K.add _ _);rw[RS,MH c m r,K.mul_add,ZU,aNc]
theorem YP:∀p q,lY K env (aAW p q)=K.mul (lY K env p) (lY K env q)
 | [],q=>(K.zero_mul _).symm
 | (c,m)::r,q=>by
  show lY K env (Fv (YQ c m q) (aAW r q))=K.mul (K.add _ _) _;rw[GM,MH,YP r q,K.add_mul]
theorem YO:∀p,lY K env (aAV p)=K.neg (lY K env p)
 | []=>(bK K).symm
 | (c,m)::r=>by
  show K.add (zt K (mono K env m) (-c)) (lY K env (aAV r))=K.neg (K.add _ _);rw[YO r,K.neg_add',vN]
theorem pN:∀e:RE,lY K env e.norm=e.den K env
 | .v i=>by show K.add (K.add K.zero (K.mul (env i) K.one)) K.zero=env i; rw[K.add_zero,K.zero_add,K.mul_one]
 | .add a b=>by show lY K env (Fv _ _)=K.add _ _; rw[GM,pN a,pN b]
 | .mul a b=>by show lY K env (aAW _ _)=K.mul _ _; rw[YP,pN a,pN b]
 | .neg a=>by show lY K env (aAV _)=K.neg _; rw[YO,pN a]
 | .zero=>rfl
 | .one=>by show K.add (K.add K.zero K.one) K.zero=K.one; rw[K.add_zero,K.zero_add]
theorem Mz:∀p,isZ p=true→lY K env p=K.zero
 | [],_=>rfl
 | (.ofNat 0,m)::r,h=>by
  show K.add K.zero (lY K env r)=_;rw[K.zero_add];exact Mz r h
 | (.ofNat (_+1),_)::_,h=>by cases h
 | (.negSucc _,_)::_,h=>by cases h
theorem aE (a b:RE) (h:isZ (RE.norm (.add a (.neg b)))=true):a.den K env=b.den K env:=by
 have:=Mz K env _ h;rw[pN]at this;have h2:K.add (K.add (a.den K env) (K.neg (b.den K env))) (b.den K env)=K.add K.zero (b.den K env):=congrArg (fun x=>K.add x (b.den K env)) this
 rwa [K.add_assoc,K.neg_add,K.add_zero,K.zero_add]at h2
end
def aU {R:Type} (K:CR R) (l:List R) (i:Nat):R:=(l[i]?).getD K.zero
structure FD {R:Type} (K:CR R) (inv:R→R):Prop where
 ne:K.one≠K.zero
 inv:∀x,x≠K.zero→K.mul x (inv x)=K.one
section
variable {R:Type} {K:CR R} {inv:R→R}
theorem FD.zd (h:FD K inv) {a b:R} (e:K.mul a b=K.zero) (ha:a≠K.zero):b=K.zero:=by
 have:=congrArg (K.mul (inv a)) e
 rwa [←K.mul_assoc,K.mul_comm (inv a),h.inv a ha,K.one_mul,K.mul_zero]at this
theorem FD.mul_ne (h:FD K inv) {a b:R} (ha:a≠K.zero) (hb:b≠K.zero):K.mul a b≠K.zero:=fun e=>hb (h.zd e ha)
theorem FD.cancel (h:FD K inv) {a b c:R} (ha:a≠K.zero) (e:K.mul a b=K.mul a c):b=c:=by
 have:=congrArg (K.mul (inv a)) e
 rwa [←K.mul_assoc,←K.mul_assoc,K.mul_comm (inv a),h.inv a ha,K.one_mul,K.one_mul]at this
theorem mW {a b:R} (h:K.add a (K.neg b)=K.zero):a=b:=by
 have h2:K.add (K.add a (K.neg b)) b=K.add K.zero b:=congrArg (fun x=>K.add x b) h
 rwa [K.add_assoc,K.neg_add,K.add_zero,K.zero_add]at h2
theorem fQ {a b:R} (h:a=b):K.add a (K.neg b)=K.zero:=by rw[h,K.add_neg]
theorem gT {A B L1 R1 c1:R} (h1:L1=R1) (e:K.add A (K.neg B)=K.mul c1 (K.add L1 (K.neg R1))):A=B:=by
 apply mW (K:=K);rw[e,fQ h1,K.mul_zero]
theorem jX {A B L1 R1 c1 L2 R2 c2:R} (h1:L1=R1) (h2:L2=R2) (e:K.add A (K.neg B)=K.add (K.mul c1 (K.add L1 (K.neg R1))) (K.mul c2 (K.add L2 (K.neg R2)))):A=B:=by
 apply mW (K:=K);rw[e,fQ h1,fQ h2,K.mul_zero,K.mul_zero,K.add_zero]
theorem Bf {A B L1 R1 c1 L2 R2 c2 L3 R3 c3:R} (h1:L1=R1) (h2:L2=R2) (h3:L3=R3) (e:K.add A (K.neg B)=K.add (K.add (K.mul c1 (K.add L1 (K.neg R1))) (K.mul c2 (K.add L2 (K.neg R2)))) (K.mul c3 (K.add L3 (K.neg R3)))):A=B:=by
 apply mW (K:=K);rw[e,fQ h1,fQ h2,fQ h3,K.mul_zero,K.mul_zero,K.mul_zero,K.add_zero,K.add_zero]
end
section
variable {R:Type} (K:CR R)
def tl (f:Nat→R):Nat→R:=fun n=>f (n+1)
def tL:Nat→(Nat→R)→(Nat→R)→R
 | 0,f,g=>K.mul (f 0) (g 0)
 | n+1,f,g=>K.add (K.mul (f 0) (g (n+1))) (tL n (tl f) g)
def SF (f g:Nat→R):Nat→R:=fun n=>K.add (f n) (g n)
def fsc (c:R) (f:Nat→R):Nat→R:=fun n=>K.mul c (f n)
def DI (f g:Nat→R):Nat→R:=fun n=>tL K n f g
def bAp (f:Nat→R):Nat→R:=fun n=>K.neg (f n)
def fze:Nat→R:=fun _=>K.zero
def fco (c:R):Nat→R|0=>c|_+1=>K.zero
theorem NY:∀(n:Nat) (f g h:Nat→R),tL K n f (SF K g h)=K.add (tL K n f g) (tL K n f h)
 | 0,f,g,h=>K.mul_add _ _ _
 | n+1,f,g,h=>by
  show K.add (K.mul (f 0) (K.add _ _)) (tL K n (tl f) (SF K g h))=K.add (K.add _ _) (K.add _ _);rw[NY n,K.mul_add,K.add_assoc,K.add_assoc,K.add_left_comm (K.mul (f 0) (h (n+1)))]
theorem NZ:∀(n:Nat) (f g h:Nat→R),tL K n (SF K f g) h=K.add (tL K n f h) (tL K n g h)
 | 0,f,g,h=>K.add_mul _ _ _
 | n+1,f,g,h=>by
  show K.add (K.mul (K.add _ _) (h (n+1))) (tL K n (SF K (tl f) (tl g)) h)=K.add (K.add _ _) (K.add _ _);rw[NZ n,K.add_mul,K.add_assoc,K.add_assoc,K.add_left_comm (K.mul (g 0) (h (n+1)))]
theorem aEm:∀(n:Nat) (c:R) (f g:Nat→R),tL K n (fsc K c f) g=K.mul c (tL K n f g)
 | 0,c,f,g=>K.mul_assoc _ _ _
 | n+1,c,f,g=>by
  show K.add (K.mul (K.mul c (f 0)) _) (tL K n (fsc K c (tl f)) g)=K.mul c (K.add _ _);rw[aEm n,K.mul_add,K.mul_assoc]
theorem SR:∀(n:Nat) (g:Nat→R),tL K n (fze K) g=K.zero
 | 0,g=>K.zero_mul _
 | n+1,g=>by
  show K.add (K.mul K.zero _) (tL K n (fze K) g)=_;rw[SR n,K.zero_mul,K.add_zero]
theorem Hr (c:R) (g:Nat→R):∀n,tL K n (fco K c) g=K.mul c (g n)
 | 0=>rfl
 | n+1=>by
  show K.add (K.mul c _) (tL K n (fze K) g)=_;rw[SR,K.add_zero]
theorem NX:∀(n:Nat) (f g h:Nat→R),tL K n (DI K f g) h=tL K n f (DI K g h)
 | 0,f,g,h=>K.mul_assoc _ _ _
 | n+1,f,g,h=>by
  have e:tl (DI K f g)=SF K (fsc K (f 0) (tl g)) (DI K (tl f) g):=rfl;show K.add (K.mul (K.mul (f 0) (g 0)) (h (n+1))) (tL K n (tl (DI K f g)) h)=K.add (K.mul (f 0) (K.add (K.mul (g 0) (h (n+1))) (tL K n (tl g) h))) (tL K n (tl f) (DI K g h));rw[e,NZ,aEm,NX n,K.mul_add,K.mul_assoc,K.add_assoc]
theorem yT:∀(n:Nat) (f g:Nat→R),tL K n f g=tL K n g f
 | 0,f,g=>K.mul_comm _ _
 | 1,f,g=>by
  show K.add (K.mul (f 0) (g 1)) (K.mul (f 1) (g 0))=K.add (K.mul (g 0) (f 1)) (K.mul (g 1) (f 0));rw[K.add_comm,K.mul_comm (f 1),K.mul_comm (f 0)]
 | n+2,f,g=>by
  show K.add (K.mul (f 0) (g (n+2))) (tL K (n+1) (tl f) g)=K.add (K.mul (g 0) (f (n+2))) (tL K (n+1) (tl g) f);rw[yT (n+1) (tl f) g,yT (n+1) (tl g) f];show K.add (K.mul (f 0) (g (n+2))) (K.add (K.mul (g 0) (f (n+2))) (tL K n (tl g) (tl f)))=K.add (K.mul (g 0) (f (n+2))) (K.add (K.mul (f 0) (g (n+2))) (tL K n (tl f) (tl g)));rw[K.add_left_comm,yT n (tl g) (tl f)]
theorem SS:∀(a b:Nat) (f g:Nat→R),(∀i,a≤i→f i=K.zero)→(∀i,b≤i→g i=K.zero)→∀n,a+b≤n+1→tL K n f g=K.zero
 | 0,b,f,g,hf,hg,n,h=>by
  have:f=fze K:=funext fun i=>hf i (Nat.zero_le _)
  rw[this,SR]
 | a+1,b,f,g,hf,hg,0,h=>by
  show K.mul (f 0) (g 0)=_;rw[hg 0 (by omega),K.mul_zero]
 | a+1,b,f,g,hf,hg,n+1,h=>by
  show K.add (K.mul (f 0) (g (n+1))) (tL K n (tl f) g)=_;rw[hg (n+1) (by omega),K.mul_zero,K.zero_add];exact SS a b (tl f) g (fun i hi=>hf (i+1) (by omega)) hg n (by omega)
def Pol:Type:={f:Nat→R // ∃n,∀i,n≤i→f i=K.zero}
variable {K}
theorem Pol.ext {f g:Pol K} (h:∀n,f.1 n=g.1 n):f=g:=Subtype.ext (funext h)
def aW:CR (Pol K) where
 add f g:=⟨SF K f.1 g.1,by
  obtain⟨a,ha⟩:=f.2; obtain⟨b,hb⟩:=g.2;exact⟨a+b,fun i hi=>by show K.add (f.1 i) (g.1 i)=_; rw[ha i (by omega),hb i (by omega),K.add_zero]⟩⟩
 mul f g:=⟨DI K f.1 g.1,by
  obtain⟨a,ha⟩:=f.2; obtain⟨b,hb⟩:=g.2;exact⟨a+b,fun i hi=>SS K a b f.1 g.1 ha hb i (by omega)⟩⟩
 neg f:=⟨bAp K f.1,by
  obtain⟨a,ha⟩:=f.2;exact⟨a,fun i hi=>by show K.neg (f.1 i)=_; rw[ha i hi,bK]⟩⟩
 zero:=⟨fze K,0,fun _ _=>rfl⟩
 one:=⟨fco K K.one,1,fun i hi=>by cases i with|zero=>omega|succ i=>rfl⟩
 add_assoc a b c:=Pol.ext fun n=>K.add_assoc _ _ _
 add_comm a b:=Pol.ext fun n=>K.add_comm _ _
 zero_add a:=Pol.ext fun n=>K.zero_add _
 neg_add a:=Pol.ext fun n=>K.neg_add _
 mul_assoc a b c:=Pol.ext fun n=>NX K n _ _ _
 mul_comm a b:=Pol.ext fun n=>yT K n _ _
 one_mul a:=Pol.ext fun n=>by show tL K n (fco K K.one) a.1=_; rw[Hr,K.one_mul]
 mul_add a b c:=Pol.ext fun n=>NY K n _ _ _
def kQ (c:R):Pol K:=⟨fco K c,1,fun i hi=>by cases i with|zero=>omega|succ i=>rfl⟩
def pX:Pol K:=⟨fun n=>match n with|1=>K.one|_=>K.zero,2,fun i hi=>by match i,hi with|i+2,_=>rfl⟩
theorem Kv (a b:R):(kQ (K.add a b):Pol K)=aW.add (kQ a) (kQ b):=Pol.ext fun n=>by
 cases n with
 | zero=>rfl
 | succ n=>exact (K.zero_add _).symm
theorem aIb (a:R):(kQ (K.neg a):Pol K)=aW.neg (kQ a):=Pol.ext fun n=>by
 cases n with
 | zero=>rfl
 | succ n=>exact (bK K).symm
theorem DS (a b:R):(kQ (K.mul a b):Pol K)=aW.mul (kQ a) (kQ b):=Pol.ext fun n=>by
 show _=tL K n (fco K a) (fco K b);rw[Hr];cases n with
 | zero=>rfl
 | succ n=>exact (K.mul_zero _).symm
def dg (f:Pol K) (n:Nat):Prop:=f.1 n≠K.zero∧∀i,n<i→f.1 i=K.zero
theorem aEd {f:Pol K} {n:Nat} (h:dg f n):f≠aW.zero:=fun e=>h.1 (by rw[e]; rfl)
theorem aEc {f:Pol K} {n m:Nat} (h:dg f n) (g:dg f m):n=m:=by
 rcases Nat.lt_trichotomy n m with q|q|q
 ·exact absurd (h.2 m q) g.1
 ·exact q
 ·exact absurd (g.2 n q) h.1
theorem JE (f:Pol K) (h:f≠aW.zero):∃n,dg f n:=by
 obtain⟨b,hb⟩:=f.2;have:∀b,(∀i,b≤i→f.1 i=K.zero)→∃n,dg f n:=by
  intro b
  induction b with
  | zero=>exact fun hb=>absurd (Pol.ext fun n=>hb n (Nat.zero_le _)) h
  | succ b ih =>
   intro hb
   by_cases h0:f.1 b=K.zero
   ·exact ih fun i hi=>by
     rcases Nat.lt_or_ge b i with q|q
     ·exact hb i q
     ·rw[show i=b by omega,h0]
   ·exact⟨b,h0,hb⟩
 exact this b hb
variable {inv:R→R}
theorem Ov:∀(a b:Nat) (f g:Nat→R),(∀i,a<i→f i=K.zero)→(∀i,b<i→g i=K.zero)→tL K (a+b) f g=K.mul (f a) (g b)
 | 0,b,f,g,hf,hg=>by
  have:f=fco K (f 0):=funext fun i=>by cases i with|zero=>rfl|succ i=>exact hf _ (by omega)
  rw[this,Hr,Nat.zero_add]; rfl
 | a+1,b,f,g,hf,hg=>by
  rw[show a+1+b=(a+b)+1 by omega];show K.add (K.mul (f 0) (g (a+b+1))) (tL K (a+b) (tl f) g)=_;rw[hg (a+b+1) (by omega),K.mul_zero,K.zero_add];exact Ov a b (tl f) g (fun i hi=>hf (i+1) (by omega)) hg
theorem iJ (F:FD K inv) {f g:Pol K} {n m:Nat} (hf:dg f n) (hg:dg g m):dg (aW.mul f g) (n+m):=by
 refine⟨?_,fun i hi=>SS K (n+1) (m+1) f.1 g.1 (fun j hj=>hf.2 j hj) (fun j hj=>hg.2 j hj) i (by omega)⟩
 ·show tL K (n+m) f.1 g.1≠_;rw[Ov n m f.1 g.1 hf.2 hg.2];exact F.mul_ne hf.1 hg.1
theorem tK {f g:Pol K} {n:Nat} (hf:dg f n) (hg:∀i,n≤i→g.1 i=K.zero):dg (aW.add f g) n:=by
 refine⟨?_,fun i hi => ?_⟩
 ·show K.add (f.1 n) (g.1 n)≠_;rw[hg n (Nat.le_refl _),K.add_zero]; exact hf.1
 ·show K.add (f.1 i) (g.1 i)=_;rw[hf.2 i hi,hg i (by omega),K.add_zero]
theorem aQn {a:R} (h:a≠K.zero):K.neg a≠K.zero:=fun e=>h (by rw[←K.neg_neg a,e,bK])
theorem SO {f:Pol K} {n:Nat} (hf:dg f n):dg (aW.neg f) n :=
 ⟨aQn hf.1,fun i hi=>by show K.neg (f.1 i)=_; rw[hf.2 i hi,bK]⟩
theorem JD (F:FD K inv) (c:R):dg (aW.sub (pX:Pol K) (kQ c)) 1:=by
 refine⟨?_,fun i hi => ?_⟩
 ·show K.add K.one (K.neg K.zero)≠_;rw[bK,K.add_zero]; exact F.ne
 ·match i,hi with
  | i+2,_=>show K.add K.zero (K.neg K.zero)=_; rw[bK,K.add_zero]
def qP (c:R):Pol K:=aW.add (aW.mul pX (aW.mul pX pX)) (kQ c)
theorem aSd (F:FD K inv):dg (pX:Pol K) 1:=⟨F.ne,fun i hi=>by match i,hi with|i+2,_=>rfl⟩
theorem aMv (F:FD K inv) (c:R):dg (qP c:Pol K) 3 :=
 tK (iJ F (aSd F) (iJ F (aSd F) (aSd F))) fun i hi=>by match i,hi with|i+1,_=>rfl
theorem NI (F:FD K inv) {c k:R} {h:Pol K} (e:aW.mul (aW.sub (pX:Pol K) (kQ c)) h=kQ k):k=K.zero:=by
 by_cases h0:h=aW.zero
 ·rw[h0,aW.mul_zero]at e;exact (congrArg (fun p:Pol K=>p.1 0) e).symm
 ·obtain⟨n,hn⟩:=JE h h0;have:=iJ F (JD F c) hn;rw[e]at this;exact absurd (by rw[Nat.add_comm]; rfl) this.1
end
section
variable {A:Type} {K:CR A}
theorem aEl {M N L1 R1 c1 L2 R2 c2 L3 R3 c3 L4 R4 c4:A} (h1:L1=R1) (h2:L2=R2) (h3:L3=R3) (h4:L4=R4) (e:K.add M (K.neg N)=K.add (K.add (K.add (K.mul c1 (K.add L1 (K.neg R1))) (K.mul c2 (K.add L2 (K.neg R2)))) (K.mul c3 (K.add L3 (K.neg R3)))) (K.mul c4 (K.add L4 (K.neg R4)))):M=N:=by
 apply mW (K:=K);rw[e,fQ h1,fQ h2,fQ h3,fQ h4,K.mul_zero,K.mul_zero,K.mul_zero,K.mul_zero,K.add_zero,K.add_zero,K.add_zero]
def op (K:CR A) (X Y x y:A) (S:A→Prop):A→Prop:=fun z=>∃s t,S s∧S t∧z=K.add (K.mul (K.sub X x) s) (K.mul (K.sub Y y) t)
structure Idl (K:CR A) (S:A→Prop):Prop where
 add:∀a b,S a→S b→S (K.add a b)
 mul:∀a c,S a→S (K.mul c a)
theorem Idl.neg {S:A→Prop} (h:Idl K S) {a:A} (ha:S a):S (K.neg a):=by
 have:=h.mul a (K.neg K.one) ha
 rwa [K.neg_mul,K.one_mul]at this
theorem Idl.sub {S:A→Prop} (h:Idl K S) {a b:A} (ha:S a) (hb:S b):S (K.sub a b):=h.add _ _ ha (h.neg hb)
def Eqv (K:CR A) (S T:A→Prop):Prop:=∃a b,a≠K.zero∧b≠K.zero∧(∀s,S s→∃t,T t∧K.mul a s=K.mul b t)∧(∀t,T t→∃s,S s∧K.mul a s=K.mul b t)
def Dom (K:CR A):Prop:=K.one≠K.zero∧∀a b,a≠K.zero→b≠K.zero→K.mul a b≠K.zero
theorem Eqv.refl (D:Dom K) (S:A→Prop):Eqv K S S:=⟨K.one,K.one,D.1,D.1,fun s h=>⟨s,h,rfl⟩,fun s h=>⟨s,h,rfl⟩⟩
theorem Eqv.symm {S T:A→Prop} (h:Eqv K S T):Eqv K T S:=by
 obtain⟨a,b,ha,hb,h1,h2⟩:=h;exact⟨b,a,hb,ha,fun t ht=>by obtain⟨s,hs,e⟩:=h2 t ht; exact⟨s,hs,e.symm⟩,fun s hs=>by obtain⟨t,ht,e⟩:=h1 s hs; exact⟨t,ht,e.symm⟩⟩
theorem Eqv.trans (D:Dom K) {S T U:A→Prop} (h:Eqv K S T) (g:Eqv K T U):Eqv K S U:=by
 obtain⟨a,b,ha,hb,h1,h2⟩:=h;obtain⟨c,d,hc,hd,g1,g2⟩:=g;have key:∀s t u,K.mul a s=K.mul b t→K.mul c t=K.mul d u→K.mul (K.mul c a) s=K.mul (K.mul b d) u:=fun s t u e f=>by
  rw[K.mul_assoc,e,K.mul_left_comm,f,K.mul_assoc]
 refine⟨K.mul c a,K.mul b d,D.2 _ _ hc ha,D.2 _ _ hb hd,fun s hs => ?_,fun u hu => ?_⟩
 ·obtain⟨t,ht,e⟩:=h1 s hs;obtain⟨u,hu,f⟩:=g1 t ht;exact⟨u,hu,key s t u e f⟩
 ·obtain⟨t,ht,f⟩:=g2 u hu;obtain⟨s,hs,e⟩:=h2 t ht;exact⟨s,hs,key s t u e f⟩
variable {X Y:A}
theorem yB {x y al be s s2 t t2:A} (e:K.mul al s=K.mul be t) (f:K.mul al s2=K.mul be t2):K.mul al (K.add (K.mul (K.sub X x) s) (K.mul (K.sub Y y) s2))=K.mul be (K.add (K.mul (K.sub X x) t) (K.mul (K.sub Y y) t2)) :=
 jX (K:=K) (c1:=(K.sub X x)) (c2:=(K.sub Y y)) e f (aE K (aU K [al,X,x,s,Y,y,s2,be,t,t2]) (Z0*((Z1-Z2)*Z3+(Z4-Z5)*Z6)-Z7*((Z1-Z2)*Z8+(Z4-Z5)*Z9)) ((Z1-Z2)*(Z0*Z3-Z7*Z8)+(Z4-Z5)*(Z0*Z6-Z7*Z9)) (by kernel_rfl))
theorem Eqv.op {S T:A→Prop} (x y:A) (h:Eqv K S T):Eqv K (op K X Y x y S) (op K X Y x y T):=by
 obtain⟨a,b,ha,hb,h1,h2⟩:=h;refine⟨a,b,ha,hb,?_,?_⟩
 ·rintro z ⟨s,s2,hs,hs2,rfl⟩
  obtain⟨t,ht,e⟩:=h1 s hs;obtain⟨t2,ht2,f⟩:=h1 s2 hs2;exact⟨_,⟨t,t2,ht,ht2,rfl⟩,yB e f⟩
 ·rintro z ⟨t,t2,ht,ht2,rfl⟩
  obtain⟨s,hs,e⟩:=h2 t ht;obtain⟨s2,hs2,f⟩:=h2 t2 ht2;exact⟨_,⟨s,s2,hs,hs2,rfl⟩,yB e f⟩
theorem YW {S:A→Prop} (x y x' y':A) {z:A} (h:op K X Y x y (op K X Y x' y' S) z):op K X Y x' y' (op K X Y x y S) z:=by
 obtain⟨_,_,⟨a,bb,ha,hb,rfl⟩,⟨c,d,hc,hd,rfl⟩,rfl⟩:=h;exact⟨_,_,⟨a,c,ha,hc,rfl⟩,⟨bb,d,hb,hd,rfl⟩,aE K (aU K [X,x,x',a,Y,y',bb,y,c,d]) ((Z0-Z1)*((Z0-Z2)*Z3+(Z4-Z5)*Z6)+(Z4-Z7)*((Z0-Z2)*Z8+(Z4-Z5)*Z9)) ((Z0-Z2)*((Z0-Z1)*Z3+(Z4-Z7)*Z8)+(Z4-Z5)*((Z0-Z1)*Z6+(Z4-Z7)*Z9)) (by kernel_rfl)⟩
theorem aIg {S:A→Prop} (x y x' y':A):op K X Y x y (op K X Y x' y' S)=op K X Y x' y' (op K X Y x y S) :=
 funext fun z=>propext ⟨YW x y x' y',YW x' y' x y⟩
theorem aBr {S:A→Prop} (h:Idl K S) (x y:A):Idl K (op K X Y x y S) where
 add:=by
  rintro _ _ ⟨a,b,ha,hb,rfl⟩ ⟨c,d,hc,hd,rfl⟩
  exact⟨_,_,h.add a c ha hc,h.add b d hb hd,aE K (aU K [X,x,a,Y,y,b,c,d]) ((Z0-Z1)*Z2+(Z3-Z4)*Z5+((Z0-Z1)*Z6+(Z3-Z4)*Z7)) ((Z0-Z1)*(Z2+Z6)+(Z3-Z4)*(Z5+Z7)) (by kernel_rfl)⟩
 mul:=by
  rintro _ c ⟨a,b,ha,hb,rfl⟩
  exact⟨_,_,h.mul a c ha,h.mul b c hb,aE K (aU K [c,X,x,a,Y,y,b]) (Z0*((Z1-Z2)*Z3+(Z4-Z5)*Z6)) ((Z1-Z2)*(Z0*Z3)+(Z4-Z5)*(Z0*Z6)) (by kernel_rfl)⟩
theorem aPn {b x y k:A} (hY:K.mul Y Y=K.add (K.mul X (K.mul X X)) b) (hy:K.mul y y=K.add (K.mul x (K.mul x x)) b) (hk:K.mul k (K.add y y)=K.one) (D:Dom K) (hX:K.sub X x≠K.zero) {S:A→Prop} (h:Idl K S):Eqv K (op K X Y x y (op K X Y x (K.neg y) S)) S:=by
 refine⟨K.one,K.sub X x,D.1,hX,?_,?_⟩
 ·rintro _ ⟨_,_,⟨a,bb,ha,hb,rfl⟩,⟨c,d,hc,hd,rfl⟩,rfl⟩
  refine⟨(K.add (K.add (K.add (K.mul (K.sub X x) a) (K.mul (K.sub Y (K.neg y)) bb)) (K.mul (K.sub Y y) c)) (K.mul (K.add (K.add (K.mul X X) (K.mul x X)) (K.mul x x)) d)),h.add _ _ (h.add _ _ (h.add _ _ (h.mul _ _ ha) (h.mul _ _ hb)) (h.mul _ _ hc)) (h.mul _ _ hd),?_⟩;rw[K.one_mul];exact jX (K:=K) (c1:=d) (c2:=(K.neg d)) hY hy (aE K (aU K [X,x,a,Y,y,bb,c,d,b]) ((Z0-Z1)*((Z0-Z1)*Z2+(Z3-(-Z4))*Z5)+(Z3-Z4)*((Z0-Z1)*Z6+(Z3-(-Z4))*Z7)-(Z0-Z1)*((Z0-Z1)*Z2+(Z3-(-Z4))*Z5+(Z3-Z4)*Z6+(Z0*Z0+Z1*Z0+Z1*Z1)*Z7)) (Z7*(Z3*Z3-(Z0*(Z0*Z0)+Z8))+(-Z7)*(Z4*Z4-(Z1*(Z1*Z1)+Z8))) (by kernel_rfl))
 ·intro t ht;refine⟨_,⟨_,_,⟨_,_,h.mul t K.zero ht,h.mul t k ht,rfl⟩,⟨_,_,h.mul t (K.neg k) ht,h.mul t K.zero ht,rfl⟩,rfl⟩,?_⟩;rw[K.one_mul];exact gT (K:=K) (c1:=(K.mul (K.sub X x) t)) hk (aE K (aU K [X,x,t,Y,y,k]) ((Z0-Z1)*((Z0-Z1)*(RE.zero*Z2)+(Z3-(-Z4))*(Z5*Z2))+(Z3-Z4)*((Z0-Z1)*((-Z5)*Z2)+(Z3-(-Z4))*(RE.zero*Z2))-(Z0-Z1)*Z2) ((Z0-Z1)*Z2*(Z5*(Z4+Z4)-RE.one)) (by kernel_rfl))
theorem NH {b x1 y1 x2 l:A} (hY:K.mul Y Y=K.add (K.mul X (K.mul X X)) b) (H2:(K.mul l (K.add y1 (K.add y1 (K.mul l (K.sub x2 x1)))))=(K.add (K.add (K.mul x1 x1) (K.mul x1 x2)) (K.mul x2 x2))) (H3:(K.mul y1 y1)=(K.add (K.mul x1 (K.mul x1 x1)) b)):(K.mul (K.sub X x1) (K.mul (K.sub X x2) (K.sub X (K.sub (K.sub (K.mul l l) x1) x2))))=(K.mul (K.sub (K.sub Y y1) (K.mul l (K.sub X x1))) (K.add (K.sub Y (K.sub (K.mul l (K.sub x1 (K.sub (K.sub (K.mul l l) x1) x2))) y1)) (K.mul l (K.sub X (K.sub (K.sub (K.mul l l) x1) x2))))) :=
 Bf (K:=K) (c1:=(K.neg K.one)) (c2:=K.one) (c3:=(K.sub X x1)) hY H3 H2 (aE K (aU K [X,x1,x2,l,Y,y1,b]) ((Z0-Z1)*((Z0-Z2)*(Z0-(Z3*Z3-Z1-Z2)))-(Z4-Z5-Z3*(Z0-Z1))*(Z4-(Z3*(Z1-(Z3*Z3-Z1-Z2))-Z5)+Z3*(Z0-(Z3*Z3-Z1-Z2)))) ((-RE.one)*(Z4*Z4-(Z0*(Z0*Z0)+Z6))+RE.one*(Z5*Z5-(Z1*(Z1*Z1)+Z6))+(Z0-Z1)*(Z3*(Z5+(Z5+Z3*(Z2-Z1)))-(Z1*Z1+Z1*Z2+Z2*Z2))) (by kernel_rfl))
theorem aPm {b x1 y1 x2 l:A} (hY:K.mul Y Y=K.add (K.mul X (K.mul X X)) b) (H2:(K.mul l (K.add y1 (K.add y1 (K.mul l (K.sub x2 x1)))))=(K.add (K.add (K.mul x1 x1) (K.mul x1 x2)) (K.mul x2 x2))) (H3:(K.mul y1 y1)=(K.add (K.mul x1 (K.mul x1 x1)) b)) (hk:(∃k,K.mul k (K.add y1 (K.add y1 (K.mul l (K.sub x2 x1))))=K.one)∨(∃k,K.mul k (K.sub x2 x1)=K.one)) (hX:K.sub X (K.sub (K.sub (K.mul l l) x1) x2)≠K.zero) (hl:(K.sub (K.sub Y y1) (K.mul l (K.sub X x1)))≠K.zero) {S:A→Prop} (h:Idl K S):Eqv K (op K X Y x1 y1 (op K X Y x2 (K.add y1 (K.mul l (K.sub x2 x1))) S)) (op K X Y (K.sub (K.sub (K.mul l l) x1) x2) (K.sub (K.mul l (K.sub x1 (K.sub (K.sub (K.mul l l) x1) x2))) y1) S):=by
 have HC:=NH (X:=X) (Y:=Y) hY H2 H3;refine⟨K.sub X (K.sub (K.sub (K.mul l l) x1) x2),(K.sub (K.sub Y y1) (K.mul l (K.sub X x1))),hX,hl,?_,?_⟩
 ·rintro _ ⟨_,_,⟨a,bb,ha,hb,rfl⟩,⟨c,d,hc,hd,rfl⟩,rfl⟩
  exact⟨_,⟨(K.add (K.add (K.add (K.mul l a) (K.mul (K.add (K.sub X x1) (K.mul l l)) bb)) (K.mul (K.add (K.sub X x2) (K.mul l l)) c)) (K.mul (K.add (K.add (K.add (K.sub (K.sub Y y1) (K.mul l (K.sub X x1))) (K.mul l (K.sub X x1))) (K.mul l (K.sub X x2))) (K.mul l (K.mul l l))) d)),(K.add (K.add (K.add a (K.mul l bb)) (K.mul l c)) (K.mul (K.mul l l) d)),h.add _ _ (h.add _ _ (h.add _ _ (h.mul _ _ ha) (h.mul _ _ hb)) (h.mul _ _ hc)) (h.mul _ _ hd),h.add _ _ (h.add _ _ (h.add _ _ ha (h.mul _ _ hb)) (h.mul _ _ hc)) (h.mul _ _ hd),rfl⟩,gT (K:=K) (c1:=(K.add (K.add (K.add a (K.mul l bb)) (K.mul l c)) (K.mul (K.mul l l) d))) HC (aE K (aU K [X,l,x1,x2,a,Y,y1,bb,c,d]) ((Z0-(Z1*Z1-Z2-Z3))*((Z0-Z2)*((Z0-Z3)*Z4+(Z5-(Z6+Z1*(Z3-Z2)))*Z7)+(Z5-Z6)*((Z0-Z3)*Z8+(Z5-(Z6+Z1*(Z3-Z2)))*Z9))-(Z5-Z6-Z1*(Z0-Z2))*((Z0-(Z1*Z1-Z2-Z3))*(Z1*Z4+(Z0-Z2+Z1*Z1)*Z7+(Z0-Z3+Z1*Z1)*Z8+(Z5-Z6-Z1*(Z0-Z2)+Z1*(Z0-Z2)+Z1*(Z0-Z3)+Z1*(Z1*Z1))*Z9)+(Z5-(Z1*(Z2-(Z1*Z1-Z2-Z3))-Z6))*(Z4+Z1*Z7+Z1*Z8+Z1*Z1*Z9))) ((Z4+Z1*Z7+Z1*Z8+Z1*Z1*Z9)*((Z0-Z2)*((Z0-Z3)*(Z0-(Z1*Z1-Z2-Z3)))-(Z5-Z6-Z1*(Z0-Z2))*(Z5-(Z1*(Z2-(Z1*Z1-Z2-Z3))-Z6)+Z1*(Z0-(Z1*Z1-Z2-Z3))))) (by kernel_rfl))⟩
 ·rintro _ ⟨u,w,hu,hw,rfl⟩
  have hg:S (K.sub u (K.mul l w)):=h.sub hu (h.mul _ _ hw);have e0:K.mul (K.sub (K.sub Y y1) (K.mul l (K.sub X x1))) (K.add (K.mul (K.sub X (K.sub (K.sub (K.mul l l) x1) x2)) u) (K.mul (K.sub Y (K.sub (K.mul l (K.sub x1 (K.sub (K.sub (K.mul l l) x1) x2))) y1)) w))=K.mul (K.sub X (K.sub (K.sub (K.mul l l) x1) x2)) (K.add (K.mul (K.sub (K.sub Y y1) (K.mul l (K.sub X x1))) (K.sub u (K.mul l w))) (K.mul (K.sub X x1) (K.mul (K.sub X x2) w))) :=
   gT (K:=K) (c1:=(K.neg w)) HC (aE K (aU K [Y,y1,l,X,x1,x2,u,w]) ((Z0-Z1-Z2*(Z3-Z4))*((Z3-(Z2*Z2-Z4-Z5))*Z6+(Z0-(Z2*(Z4-(Z2*Z2-Z4-Z5))-Z1))*Z7)-(Z3-(Z2*Z2-Z4-Z5))*((Z0-Z1-Z2*(Z3-Z4))*(Z6-Z2*Z7)+(Z3-Z4)*((Z3-Z5)*Z7))) ((-Z7)*((Z3-Z4)*((Z3-Z5)*(Z3-(Z2*Z2-Z4-Z5)))-(Z0-Z1-Z2*(Z3-Z4))*(Z0-(Z2*(Z4-(Z2*Z2-Z4-Z5))-Z1)+Z2*(Z3-(Z2*Z2-Z4-Z5))))) (by kernel_rfl))
  generalize hge:(K.sub u (K.mul l w))=g at hg e0;rw[e0]
  rcases hk with⟨k,hk⟩|⟨k,hk⟩
  ·refine⟨_,⟨_,_,⟨_,_,h.add _ _ (h.mul g (K.mul k (K.add (K.add X x1) x2)) hg) hw,h.mul g K.zero hg,rfl⟩,⟨_,_,h.mul g K.zero hg,h.mul g (K.neg k) hg,rfl⟩,rfl⟩,congrArg (K.mul _) ?_⟩;exact aEl (K:=K) (c1:=(K.mul (K.sub (K.sub Y y1) (K.mul l (K.sub X x1))) g)) (c2:=(K.neg (K.mul k g))) (c3:=(K.mul k g)) (c4:=(K.mul (K.mul k g) (K.sub X x1))) hk hY H3 H2 (aE K (aU K [X,x1,x2,k,g,w,Y,y1,l,b]) ((Z0-Z1)*((Z0-Z2)*(Z3*(Z0+Z1+Z2)*Z4+Z5)+(Z6-(Z7+Z8*(Z2-Z1)))*(RE.zero*Z4))+(Z6-Z7)*((Z0-Z2)*(RE.zero*Z4)+(Z6-(Z7+Z8*(Z2-Z1)))*((-Z3)*Z4))-((Z6-Z7-Z8*(Z0-Z1))*Z4+(Z0-Z1)*((Z0-Z2)*Z5))) ((Z6-Z7-Z8*(Z0-Z1))*Z4*(Z3*(Z7+(Z7+Z8*(Z2-Z1)))-RE.one)+(-(Z3*Z4))*(Z6*Z6-(Z0*(Z0*Z0)+Z9))+Z3*Z4*(Z7*Z7-(Z1*(Z1*Z1)+Z9))+Z3*Z4*(Z0-Z1)*(Z8*(Z7+(Z7+Z8*(Z2-Z1)))-(Z1*Z1+Z1*Z2+Z2*Z2))) (by kernel_rfl))
  ·refine⟨_,⟨_,_,⟨_,_,hw,h.mul g k hg,rfl⟩,⟨_,_,h.mul g (K.neg k) hg,h.mul g K.zero hg,rfl⟩,rfl⟩,congrArg (K.mul _) ?_⟩;exact gT (K:=K) (c1:=(K.mul (K.sub (K.sub Y y1) (K.mul l (K.sub X x1))) g)) hk (aE K (aU K [X,x1,x2,w,Y,y1,l,k,g]) ((Z0-Z1)*((Z0-Z2)*Z3+(Z4-(Z5+Z6*(Z2-Z1)))*(Z7*Z8))+(Z4-Z5)*((Z0-Z2)*((-Z7)*Z8)+(Z4-(Z5+Z6*(Z2-Z1)))*(RE.zero*Z8))-((Z4-Z5-Z6*(Z0-Z1))*Z8+(Z0-Z1)*((Z0-Z2)*Z3))) ((Z4-Z5-Z6*(Z0-Z1))*Z8*(Z7*(Z2-Z1)-RE.one)) (by kernel_rfl))
end
open Classical
section
variable {R:Type} {K:CR R} {inv:R→R}
def bZ (K:CR R) (b:R):CR (Pol K×Pol K):=(aW (K:=K)).sq (qP b)
def cX:Pol K×Pol K:=(pX,aW.zero)
def cY:Pol K×Pol K:=(aW.zero,aW.one)
def cc (k:R):Pol K×Pol K:=(kQ k,aW.zero)
variable (b:R)
theorem iK (x y:R):(cc (K.add x y):Pol K×Pol K)=(bZ K b).add (cc x) (cc y):=Prod.ext (Kv x y) (aW.zero_add _).symm
theorem Ht (x:R):(cc (K.neg x):Pol K×Pol K)=(bZ K b).neg (cc x):=Prod.ext (aIb x) (bK aW).symm
theorem oU (x y:R):(cc (K.sub x y):Pol K×Pol K)=(bZ K b).sub (cc x) (cc y):=by
 show cc (K.add _ _)=(bZ K b).add _ _;rw[iK b,Ht b]
theorem fW (x y:R):(cc (K.mul x y):Pol K×Pol K)=(bZ K b).mul (cc x) (cc y):=by
 refine Prod.ext ?_ ?_
 ·show kQ (K.mul x y)=aW.add (aW.mul (kQ x) (kQ y)) (aW.mul (qP b) (aW.mul aW.zero aW.zero));rw[aW.mul_zero,aW.mul_zero,aW.add_zero,DS]
 ·show aW.zero=aW.add (aW.mul (kQ x) aW.zero) (aW.mul aW.zero (kQ y));rw[aW.mul_zero,aW.zero_mul,aW.add_zero]
theorem TC:(cc K.one:Pol K×Pol K)=(bZ K b).one:=rfl
theorem aKn:(bZ K b).mul cY cY=(bZ K b).add ((bZ K b).mul cX ((bZ K b).mul cX cX)) (cc b):=by
 refine Prod.ext ?_ ?_
 ·show aW.add (aW.mul aW.zero aW.zero) (aW.mul (qP b) (aW.mul aW.one aW.one))=aW.add (aW.add (aW.mul pX (aW.add (aW.mul pX pX) (aW.mul (qP b) (aW.mul aW.zero aW.zero)))) (aW.mul (qP b) (aW.mul aW.zero (aW.add (aW.mul pX aW.zero) (aW.mul aW.zero pX))))) (kQ b);simp only[aW.mul_zero,aW.zero_mul,aW.add_zero,aW.zero_add,aW.mul_one];rfl
 ·show aW.add (aW.mul aW.zero aW.one) (aW.mul aW.one aW.zero)=aW.add (aW.add (aW.mul pX (aW.add (aW.mul pX aW.zero) (aW.mul aW.zero pX))) (aW.mul aW.zero (aW.add (aW.mul pX pX) (aW.mul (qP b) (aW.mul aW.zero aW.zero))))) aW.zero;simp only[aW.mul_zero,aW.zero_mul,aW.add_zero,aW.zero_add,aW.mul_one]
def nrm (f:Pol K×Pol K):Pol K:=aW.sub (aW.mul f.1 f.1) (aW.mul (qP b) (aW.mul f.2 f.2))
theorem QX (f g:Pol K×Pol K):nrm b ((bZ K b).mul f g)=aW.mul (nrm b f) (nrm b g) :=
 aE aW (aU aW [f.1,g.1,qP b,f.2,g.2]) ((Z0*Z1+Z2*(Z3*Z4))*(Z0*Z1+Z2*(Z3*Z4))-Z2*((Z0*Z4+Z3*Z1)*(Z0*Z4+Z3*Z1))) ((Z0*Z0-Z2*(Z3*Z3))*(Z1*Z1-Z2*(Z4*Z4))) (by kernel_rfl)
theorem QY (F:FD K inv) (f:Pol K×Pol K) (h:f≠(bZ K b).zero):∃d,dg (nrm b f) d∧d≠1:=by
 have hq:dg (qP b:Pol K) 3:=aMv F b
 by_cases h2:f.2=aW.zero
 ·have h1:f.1≠aW.zero:=fun e=>h (Prod.ext e h2)
  obtain⟨n,hn⟩:=JE _ h1;refine⟨n+n,?_,by omega⟩;unfold nrm;rw[h2,aW.mul_zero,aW.mul_zero];show dg (aW.add _ (aW.neg aW.zero)) _;rw[bK,aW.add_zero];exact iJ F hn hn
 ·obtain⟨m,hm⟩:=JE _ h2;have hr:=iJ F hq (iJ F hm hm)
  by_cases h1:f.1=aW.zero
  ·refine⟨3+(m+m),?_,by omega⟩;unfold nrm;rw[h1,aW.mul_zero];show dg (aW.add _ _) _;rw[aW.zero_add];exact SO hr
  ·obtain⟨n,hn⟩:=JE _ h1;have hl:=iJ F hn hn;have hr':=SO hr
   rcases Nat.lt_or_ge (n+n) (3+(m+m))with q|q
   ·refine⟨3+(m+m),?_,by omega⟩;show dg (aW.add _ _) _;rw[aW.add_comm];exact tK hr' fun i hi=>hl.2 i (by omega)
   ·refine⟨n+n,?_,by omega⟩;exact tK hl fun i hi=>hr'.2 i (by omega)
theorem jL (F:FD K inv):Dom (bZ K b):=by
 refine⟨fun e=>F.ne (congrArg (fun z:Pol K×Pol K=>z.1.1 0) e),fun f g hf hg e => ?_⟩;obtain⟨n,hn,_⟩:=QY b F f hf;obtain⟨m,hm,_⟩:=QY b F g hg;have h:=aEd (iJ F hn hm);rw[←QX,e]at h;refine h ?_;show aW.sub (aW.mul aW.zero aW.zero) (aW.mul (qP b) (aW.mul aW.zero aW.zero))=_;rw[aW.mul_zero,aW.mul_zero];exact aW.add_neg _
theorem nQ {A:Type} {C:CR A} (D:Dom C) {a s t:A} (ha:a≠C.zero) (e:C.mul a s=C.mul a t):s=t:=by
 apply mW (K:=C)
 by_cases h:C.add s (C.neg t)=C.zero
 ·exact h
 ·exact absurd (by rw[C.mul_add,C.mul_neg,e,C.add_neg]) (D.2 _ _ ha h)
def UZ {A:Type}:A→Prop:=fun _=>True
theorem kU {A:Type} (C:CR A):Idl C UZ:=⟨fun _ _ _ _=>trivial,fun _ _ _=>trivial⟩
theorem Be (f:Pol K×Pol K):(bZ K b).mul f (f.1,aW.neg f.2)=(nrm b f,aW.zero):=by
 refine Prod.ext ?_ ?_
 ·exact aE aW (aU aW [f.1,qP b,f.2]) (Z0*Z0+Z1*(Z2*(-Z2))) (Z0*Z0-Z1*(Z2*Z2)) (by kernel_rfl)
 ·exact aE aW (aU aW [f.1,f.2]) (Z0*(-Z1)+Z1*Z0) .zero (by kernel_rfl)
theorem aAz {x y:R} (h:K.mul y y=K.add (K.mul x (K.mul x x)) b):(qP b:Pol K)=aW.add (aW.mul (kQ y) (kQ y)) (aW.mul (aW.sub pX (kQ x)) (aW.add (aW.mul pX pX) (aW.add (aW.mul (kQ x) pX) (aW.mul (kQ x) (kQ x))))):=by
 have e:aW.mul (kQ y) (kQ y)=aW.add (aW.mul (kQ x) (aW.mul (kQ x) (kQ x))) (kQ b:Pol K):=by
  rw[←DS,←DS,←DS,←Kv,h]
 rw[e];exact aE aW (aU aW [pX,kQ b,kQ x]) (Z0*(Z0*Z0)+Z1) (Z2*(Z2*Z2)+Z1+(Z0-Z2)*(Z0*Z0+(Z2*Z0+Z2*Z2))) (by kernel_rfl)
theorem aVz (F:FD K inv) {x y:R} (h:K.mul y y=K.add (K.mul x (K.mul x x)) b):¬Eqv (bZ K b) (op (bZ K b) cX cY (cc x) (cc y) UZ) UZ:=by
 rintro⟨a,e,ha,he,h1,h2⟩
 have D:=jL (K:=K) b F;obtain⟨f,hf,e1⟩:=h2 (bZ K b).one trivial;rw[(bZ K b).mul_one]at e1;have hm:∀g,op (bZ K b) cX cY (cc x) (cc y) UZ g→∃t,g=(bZ K b).mul f t:=fun g hg=>by
  obtain⟨t,_,e2⟩:=h1 g hg;rw[←e1,(bZ K b).mul_assoc]at e2;exact⟨t,nQ D ha e2⟩
 have sz:∀z:Pol K×Pol K,(bZ K b).sub z (bZ K b).zero=z:=fun z=>by
  show (bZ K b).add z ((bZ K b).neg _)=z;rw[bK,(bZ K b).add_zero]
 obtain⟨t,ht⟩:=hm ((bZ K b).sub cX (cc x)) ⟨(bZ K b).one,(bZ K b).zero,trivial,trivial,by rw[(bZ K b).mul_one,(bZ K b).mul_zero,(bZ K b).add_zero]⟩;obtain⟨t',ht'⟩:=hm ((bZ K b).sub cY (cc y)) ⟨(bZ K b).zero,(bZ K b).one,trivial,trivial,by rw[(bZ K b).mul_one,(bZ K b).mul_zero,(bZ K b).zero_add]⟩;have hX:(bZ K b).sub cX (cc x)=(aW.sub pX (kQ x),aW.zero):=Prod.ext rfl (by show aW.add aW.zero (aW.neg aW.zero)=_; rw[bK,aW.add_zero]);have hXn:(bZ K b).sub cX (cc x)≠(bZ K b).zero:=fun q=>aEd (JD (K:=K) F x) (congrArg Prod.fst q)
 have hf0:f≠(bZ K b).zero:=fun q=>hXn (by rw[ht,q,(bZ K b).zero_mul])
 have ht0:t≠(bZ K b).zero:=fun q=>hXn (by rw[ht,q,(bZ K b).mul_zero])
 obtain⟨n,hn,n1⟩:=QY b F f hf0;obtain⟨m,hm',m1⟩:=QY b F t ht0;have hnm:n+m=2:=by
  have e3:=iJ F hn hm';rw[←QX,←ht,hX]at e3;have e4:nrm b (aW.sub pX (kQ x),aW.zero)=aW.mul (aW.sub pX (kQ x)) (aW.sub (pX:Pol K) (kQ x)):=by
   show aW.add (aW.mul _ _) (aW.neg (aW.mul _ (aW.mul aW.zero aW.zero)))=_;rw[aW.mul_zero,aW.mul_zero,bK,aW.add_zero]
  rw[e4]at e3;exact aEc e3 (iJ F (JD F x) (JD F x))
 have hc:∀p:Pol K,dg p 0→p=kQ (p.1 0):=fun p hp=>Pol.ext fun i=>by
  cases i with
  | zero=>rfl
  | succ i=>exact hp.2 _ (by omega)
 have h02:n=0∨m=0:=by omega
 rcases h02 with q0|q0
 ·subst q0;obtain⟨s,r,_,_,e5⟩:=(aBr (kU (bZ K b)) (cc x) (cc y)).mul f (f.1,aW.neg f.2) hf;rw[(bZ K b).mul_comm,Be,hX]at e5;have c1:nrm b f=aW.add (aW.add (aW.mul (aW.sub pX (kQ x)) s.1) (aW.mul (qP b) (aW.mul aW.zero s.2))) (aW.add (aW.mul (aW.add aW.zero (aW.neg (kQ y))) r.1) (aW.mul (qP b) (aW.mul (aW.add aW.one (aW.neg aW.zero)) r.2))):=congrArg Prod.fst e5;have c2:aW.zero=aW.add (aW.add (aW.mul (aW.sub pX (kQ x)) s.2) (aW.mul aW.zero s.1)) (aW.add (aW.mul (aW.add aW.zero (aW.neg (kQ y))) r.2) (aW.mul (aW.add aW.one (aW.neg aW.zero)) r.1)):=congrArg Prod.snd e5;have hs:=aAz b h;refine hn.1 (NI F (c:=x) (h:=(aW.add s.1 (aW.add (aW.mul (aW.add (aW.mul pX pX) (aW.add (aW.mul (kQ x) pX) (aW.mul (kQ x) (kQ x)))) r.2) (aW.mul (kQ y) s.2)))) ?_);rw[←hc _ hn,c1];refine Eq.symm ?_;exact jX (K:=aW) (c1:=(kQ y)) (c2:=r.2) c2 hs (aE aW (aU aW [pX,kQ x,s.1,qP b,s.2,kQ y,r.1,r.2]) ((Z0-Z1)*Z2+Z3*(RE.zero*Z4)+((RE.zero-Z5)*Z6+Z3*((RE.one-RE.zero)*Z7))-(Z0-Z1)*(Z2+((Z0*Z0+(Z1*Z0+Z1*Z1))*Z7+Z5*Z4))) (Z5*(RE.zero-((Z0-Z1)*Z4+RE.zero*Z2+((RE.zero-Z5)*Z7+(RE.one-RE.zero)*Z6)))+Z7*(Z3-(Z5*Z5+(Z0-Z1)*(Z0*Z0+(Z1*Z0+Z1*Z1))))) (by kernel_rfl))
 ·subst q0;have e6:(bZ K b).mul ((bZ K b).sub cX (cc x)) ((bZ K b).mul t' (t.1,aW.neg t.2))=(bZ K b).mul ((bZ K b).sub cY (cc y)) (nrm b t,aW.zero):=by
   rw[←Be,ht,ht'];generalize ((t.1,aW.neg t.2):Pol K×Pol K)=w;exact aE (bZ K b) (aU (bZ K b) [f,t,t',w]) (Z0*Z1*(Z2*Z3)) (Z0*Z2*(Z1*Z3)) (by kernel_rfl)
  rw[hX]at e6;generalize (bZ K b).mul t' (t.1,aW.neg t.2)=w at e6;have c2:aW.add (aW.mul (aW.sub pX (kQ x)) w.2) (aW.mul aW.zero w.1)=aW.add (aW.mul (aW.add aW.zero (aW.neg (kQ y))) aW.zero) (aW.mul (aW.add aW.one (aW.neg aW.zero)) (nrm b t)):=congrArg Prod.snd e6;rw[aW.zero_mul,aW.add_zero,aW.mul_zero,aW.zero_add,bK,aW.add_zero,aW.one_mul,hc _ hm']at c2;exact hm'.1 (NI F c2)
end
structure EC {R:Type} (K:CR R) (inv:R→R) (b:R):Prop where
 F:FD K inv
 two:K.add K.one K.one≠K.zero
 odd:∀x,K.add (K.mul x (K.mul x x)) b≠K.zero
section
variable {R:Type} (K:CR R) (inv:R→R) (b:R)
abbrev Pt (R:Type):=Option (R×R)
def On:Pt R→Prop
 | none=>True
 | some p=>K.mul p.2 p.2=K.add (K.mul p.1 (K.mul p.1 p.1)) b
def MB:Pt R→Pt R
 | none=>none
 | some p=>some (p.1,K.neg p.2)
def dH (x1 y1 x2 y2:R):R :=
 if x1=x2 then K.mul (K.add (K.add (K.mul x1 x1) (K.mul x1 x1)) (K.mul x1 x1)) (inv (K.add y1 y2))else K.mul (K.sub y2 y1) (inv (K.sub x2 x1))
def sx (l x1 x2:R):R:=K.sub (K.sub (K.mul l l) x1) x2
def sy (l x1 y1 x2:R):R:=K.sub (K.mul l (K.sub x1 (sx K l x1 x2))) y1
def hZ:Pt R→Pt R→Pt R
 | none,q=>q
 | some p,none=>some p
 | some p,some q =>
  if p.1=q.1∧K.add p.2 q.2=K.zero then none
  else some (sx K (dH K inv p.1 p.2 q.1 q.2) p.1 q.1,sy K (dH K inv p.1 p.2 q.1 q.2) p.1 p.2 q.1)
variable {K} {inv} {b}
theorem kO {p q:R×R} (h:p.1=q.1∧K.add p.2 q.2=K.zero):hZ K inv (some p) (some q)=none:=if_pos h
theorem jD {p q:R×R} (h:¬(p.1=q.1∧K.add p.2 q.2=K.zero)):hZ K inv (some p) (some q)=some (sx K (dH K inv p.1 p.2 q.1 q.2) p.1 q.1,sy K (dH K inv p.1 p.2 q.1 q.2) p.1 p.2 q.1):=if_neg h
theorem iM {x y:R} (h:K.sub x y=K.zero):x=y:=mW h
theorem PD {x y:R} (h:x≠y):K.sub x y≠K.zero:=fun e=>h (iM e)
theorem EC.dbl_ne (E:EC K inv b) {y:R} (h:y≠K.zero):K.add y y≠K.zero:=fun e=>by
 refine E.F.mul_ne E.two h ?_;rw[K.add_mul,K.one_mul,e]
theorem EC.y_ne (E:EC K inv b) {x y:R} (h:K.mul y y=K.add (K.mul x (K.mul x x)) b):y≠K.zero:=fun e=>by
 rw[e,K.mul_zero]at h;exact E.odd x h.symm
structure Slope (K:CR R) (x1 y1 x2 y2 l:R):Prop where
 h1:y2=K.add y1 (K.mul l (K.sub x2 x1))
 h2:K.mul l (K.add y1 y2)=K.add (K.add (K.mul x1 x1) (K.mul x1 x2)) (K.mul x2 x2)
 hk:(∃k,K.mul k (K.add y1 y2)=K.one)∨(∃k,K.mul k (K.sub x2 x1)=K.one)
theorem xI (E:EC K inv b) {x1 y1 x2 y2:R} (hp:K.mul y1 y1=K.add (K.mul x1 (K.mul x1 x1)) b) (hq:K.mul y2 y2=K.add (K.mul x2 (K.mul x2 x2)) b) (hn:¬(x1=x2∧K.add y1 y2=K.zero)):Slope K x1 y1 x2 y2 (dH K inv x1 y1 x2 y2):=by
 unfold dH
 by_cases hx:x1=x2
 ·subst hx;rw[if_pos rfl];have hy:K.add y1 y2≠K.zero:=fun e=>hn ⟨rfl,e⟩
  have hi:=E.F.inv _ hy;have e:y1=y2:=by
   refine iM (K:=K) (E.F.zd (a:=K.add y1 y2) ?_ hy);have e0:K.mul (K.add y1 y2) (K.sub y1 y2)=K.sub (K.mul y1 y1) (K.mul y2 y2):=aE K (aU K [y1,y2]) ((Z0+Z1)*(Z0-Z1)) (Z0*Z0-Z1*Z1) (by kernel_rfl);rw[e0,hp,hq];exact K.add_neg _
  subst e;generalize inv (K.add y1 y1)=k at hi;refine⟨aE K (aU K [y1,x1,k]) (.v 0) (Z0+(Z1*Z1+Z1*Z1+Z1*Z1)*Z2*(Z1-Z1)) (by kernel_rfl),gT (K:=K) (c1:=(K.add (K.add (K.mul x1 x1) (K.mul x1 x1)) (K.mul x1 x1))) hi (aE K (aU K [x1,k,y1]) ((Z0*Z0+Z0*Z0+Z0*Z0)*Z1*(Z2+Z2)-(Z0*Z0+Z0*Z0+Z0*Z0)) ((Z0*Z0+Z0*Z0+Z0*Z0)*((Z2+Z2)*Z1-RE.one)) (by kernel_rfl)),Or.inl ⟨k,by rw[K.mul_comm,hi]⟩⟩
 ·rw[if_neg hx];have hd:K.sub x2 x1≠K.zero:=PD fun e=>hx e.symm
  have hi:=E.F.inv _ hd;generalize inv (K.sub x2 x1)=k at hi;refine⟨gT (K:=K) (c1:=(K.neg (K.sub y2 y1))) hi (aE K (aU K [y2,y1,k,x2,x1]) (Z0-(Z1+(Z0-Z1)*Z2*(Z3-Z4))) ((-(Z0-Z1))*((Z3-Z4)*Z2-RE.one)) (by kernel_rfl)),?_,Or.inr ⟨k,by rw[K.mul_comm,hi]⟩⟩;refine E.F.cancel hd ?_;exact Bf (K:=K) (c1:=(K.mul (K.sub y2 y1) (K.add y1 y2))) (c2:=(K.neg K.one)) (c3:=K.one) hi hp hq (aE K (aU K [x2,x1,y2,y1,k,b]) ((Z0-Z1)*((Z2-Z3)*Z4*(Z3+Z2))-(Z0-Z1)*(Z1*Z1+Z1*Z0+Z0*Z0)) ((Z2-Z3)*(Z3+Z2)*((Z0-Z1)*Z4-RE.one)+(-RE.one)*(Z3*Z3-(Z1*(Z1*Z1)+Z5))+RE.one*(Z2*Z2-(Z0*(Z0*Z0)+Z5))) (by kernel_rfl))
theorem On.sum {x1 y1 x2 y2 l:R} (hp:K.mul y1 y1=K.add (K.mul x1 (K.mul x1 x1)) b) (h:Slope K x1 y1 x2 y2 l):On K b (some (sx K l x1 x2,sy K l x1 y1 x2)):=by
 obtain⟨h1,h2,_⟩:=h;subst h1;show K.mul (K.sub (K.mul l (K.sub x1 (K.sub (K.sub (K.mul l l) x1) x2))) y1) (K.sub (K.mul l (K.sub x1 (K.sub (K.sub (K.mul l l) x1) x2))) y1)=K.add (K.mul (K.sub (K.sub (K.mul l l) x1) x2) (K.mul (K.sub (K.sub (K.mul l l) x1) x2) (K.sub (K.sub (K.mul l l) x1) x2))) b;exact jX (K:=K) (c1:=K.one) (c2:=(K.sub (K.sub (K.sub (K.mul l l) x1) x2) x1)) hp h2 (aE K (aU K [l,x1,x2,y1,b]) ((Z0*(Z1-(Z0*Z0-Z1-Z2))-Z3)*(Z0*(Z1-(Z0*Z0-Z1-Z2))-Z3)-((Z0*Z0-Z1-Z2)*((Z0*Z0-Z1-Z2)*(Z0*Z0-Z1-Z2))+Z4)) (RE.one*(Z3*Z3-(Z1*(Z1*Z1)+Z4))+(Z0*Z0-Z1-Z2-Z1)*(Z0*(Z3+(Z3+Z0*(Z2-Z1)))-(Z1*Z1+Z1*Z2+Z2*Z2))) (by kernel_rfl))
theorem On.neg:∀{p:Pt R},On K b p→On K b (MB K p)
 | none,_=>trivial
 | some p,h=>by
  show K.mul (K.neg p.2) (K.neg p.2)=_;rw[K.neg_mul,K.mul_neg,K.neg_neg];exact h
theorem On.add (E:EC K inv b):∀{p q:Pt R},On K b p→On K b q→On K b (hZ K inv p q)
 | none,_,_,h=>h
 | some _,none,h,_=>h
 | some p,some q,hp,hq=>by
  by_cases hn:p.1=q.1∧K.add p.2 q.2=K.zero
  ·rw[kO hn]; trivial
  ·rw[jD hn];exact On.sum hp (xI E hp hq hn)
def opP (K:CR R) (b:R) (p:Pt R) (S:Pol K×Pol K→Prop):Pol K×Pol K→Prop :=
 match p with
 | none=>S
 | some p=>op (bZ K b) cX cY (cc p.1) (cc p.2) S
theorem YX (p q:Pt R) (S:Pol K×Pol K→Prop):opP K b p (opP K b q S)=opP K b q (opP K b p S):=by
 cases p with
 | none=>rfl
 | some p=>cases q with
  | none=>rfl
  | some q=>exact aIg _ _ _ _
theorem La {S:Pol K×Pol K→Prop} (h:Idl (bZ K b) S) (p:Pt R):Idl (bZ K b) (opP K b p S):=by
 cases p with
 | none=>exact h
 | some p=>exact aBr h _ _
theorem Lb {S T:Pol K×Pol K→Prop} (h:Eqv (bZ K b) S T) (p:Pt R):Eqv (bZ K b) (opP K b p S) (opP K b p T):=by
 cases p with
 | none=>exact h
 | some p=>exact h.op _ _
theorem aKH (F:FD K inv) (c:R):(bZ K b).sub cX (cc c)≠(bZ K b).zero:=fun q=>aEd (JD (K:=K) F c) (congrArg Prod.fst q)
theorem aDT (F:FD K inv) (x1 y1 l:R):(bZ K b).sub ((bZ K b).sub cY (cc y1)) ((bZ K b).mul (cc l) ((bZ K b).sub cX (cc x1)))≠(bZ K b).zero:=fun q=>by
 have e:K.add (K.add K.one (K.neg K.zero)) (K.neg (K.add (K.mul l (K.add K.zero (K.neg K.zero))) (K.mul K.zero (K.add K.zero (K.neg x1)))))=K.zero:=congrArg (fun z:Pol K×Pol K=>z.2.1 0) q;rw[bK,K.add_zero,K.add_zero,K.mul_zero,K.zero_mul,K.add_zero,bK,K.add_zero]at e;exact F.ne e
theorem oD (E:EC K inv b) {S:Pol K×Pol K→Prop} (hS:Idl (bZ K b) S):∀{p q:Pt R},On K b p→On K b q→Eqv (bZ K b) (opP K b p (opP K b q S)) (opP K b (hZ K inv p q) S)
 | none,_,_,_=>Eqv.refl (jL b E.F) _
 | some _,none,_,_=>Eqv.refl (jL b E.F) _
 | some ⟨x1,y1⟩,some ⟨x2,y2⟩,hp,hq=>by
  by_cases hn:x1=x2∧K.add y1 y2=K.zero
  ·rw[kO hn];obtain⟨rfl,hy⟩:=hn;have e:y2=K.neg y1:=by
    apply K.add_cancel (a:=y1);rw[hy,K.add_neg]
   subst e;show Eqv (bZ K b) (op (bZ K b) cX cY (cc x1) (cc y1) (op (bZ K b) cX cY (cc x1) (cc (K.neg y1)) S)) S;have h0:=E.F.inv _ (E.dbl_ne (E.y_ne hp));rw[Ht b];refine aPn (b:=cc b) (k:=cc (inv (K.add y1 y1))) (aKn b) ?_ ?_ (jL b E.F) (aKH E.F x1) hS
   ·rw[←fW,←fW,←fW,←iK];exact congrArg cc hp
   ·rw[←iK,←fW,K.mul_comm,h0];rfl
  ·rw[jD hn];have h:=xI E hp hq hn;dsimp only at h ⊢;generalize dH K inv x1 y1 x2 y2=l at h;obtain⟨h1,h2,hk⟩:=h;subst h1;show Eqv (bZ K b) (op (bZ K b) cX cY (cc x1) (cc y1) (op (bZ K b) cX cY (cc x2) (cc (K.add y1 (K.mul l (K.sub x2 x1)))) S)) (op (bZ K b) cX cY (cc (sx K l x1 x2)) (cc (sy K l x1 y1 x2)) S);unfold sy sx;have hX:=aKH (K:=K) (b:=b) E.F (sx K l x1 x2);have hl:=aDT (K:=K) (b:=b) E.F x1 y1 l;unfold sx at hX;simp only[iK b,fW b,oU b]at hX ⊢;refine aPm (b:=cc b) (aKn b) ?_ ?_ ?_ hX hl hS
   ·have:=congrArg (cc (K:=K)) h2;simpa only[iK b,fW b,oU b]using this
   ·have:=congrArg (cc (K:=K)) hp;simpa only[iK b,fW b,oU b]using this
   ·rcases hk with⟨k,hk⟩|⟨k,hk⟩
    ·refine Or.inl ⟨cc k,?_⟩;have:=congrArg (cc (K:=K)) hk;simpa only[iK b,fW b,oU b,TC b]using this
    ·refine Or.inr ⟨cc k,?_⟩;have:=congrArg (cc (K:=K)) hk;simpa only[iK b,fW b,oU b,TC b]using this
theorem DQ (p:Pt R):hZ K inv (MB K p) p=none:=by
 cases p with
 | none=>rfl
 | some p=>exact if_pos ⟨rfl,K.neg_add _⟩
theorem aAC {p q:Pt R} (h:hZ K inv (MB K p) q=none):q=p:=by
 cases p with
 | none=>exact h
 | some p=>cases q with
  | none=>cases h
  | some q =>
   by_cases hh:p.1=q.1∧K.add (K.neg p.2) q.2=K.zero
   ·obtain⟨h1,h2⟩:=hh;refine congrArg some (Prod.ext h1.symm ?_);apply K.add_cancel (a:=K.neg p.2);exact h2.trans (K.neg_add p.2).symm
   ·have e:hZ K inv (MB K (some p)) (some q)=some _:=jD (p:=(p.1,K.neg p.2)) (q:=q) hh;rw[e]at h;cases h
theorem aPo (E:EC K inv b) {p:Pt R} (hp:On K b p) (h:Eqv (bZ K b) (opP K b p UZ) UZ):p=none:=by
 cases p with
 | none=>rfl
 | some p=>exact absurd h (aVz b E.F hp)
theorem Kz (E:EC K inv b) {p q:Pt R} (hp:On K b p) (hq:On K b q) (h:Eqv (bZ K b) (opP K b p UZ) (opP K b q UZ)):p=q:=by
 have D:=jL (K:=K) b E.F;have h1:=Lb h (MB K q);have a1:=oD E (kU (bZ K b)) hq.neg hp;have a2:=oD E (kU (bZ K b)) hq.neg hq;rw[DQ]at a2;exact aAC (aPo E (hq.neg.add E hp) (a1.symm.trans D (h1.trans D a2)))
theorem XZ (E:EC K inv b) {p q:Pt R} (hp:On K b p) (hq:On K b q):hZ K inv p q=hZ K inv q p:=by
 have D:=jL (K:=K) b E.F;refine Kz E (hp.add E hq) (hq.add E hp) ?_;refine (oD E (kU (bZ K b)) hp hq).symm.trans D ?_;rw[YX];exact oD E (kU (bZ K b)) hq hp
theorem MC (E:EC K inv b) {p q r:Pt R} (hp:On K b p) (hq:On K b q) (hr:On K b r):hZ K inv (hZ K inv p q) r=hZ K inv p (hZ K inv q r):=by
 have D:=jL (K:=K) b E.F;have hu:=kU (bZ K b);refine Kz E ((hp.add E hq).add E hr) (hp.add E (hq.add E hr)) ?_;refine (oD E hu (hp.add E hq) hr).symm.trans D ?_;refine (oD E (La hu r) hp hq).symm.trans D ?_;refine (Lb (oD E hu hq hr) p).trans D ?_;exact oD E hu hp (hq.add E hr)
end
structure AG (G:Type) where
 add:G→G→G
 neg:G→G
 zero:G
 assoc:∀a b c,add (add a b) c=add a (add b c)
 comm:∀a b,add a b=add b a
 zadd:∀a,add zero a=a
 nadd:∀a,add (neg a) a=zero
def EC.grp {R:Type} {K:CR R} {inv:R→R} {b:R} (E:EC K inv b):AG {p:Pt R // On K b p} where
 add p q:=⟨hZ K inv p.1 q.1,p.2.add E q.2⟩
 neg p:=⟨MB K p.1,p.2.neg⟩
 zero:=⟨none,trivial⟩
 assoc p q r:=Subtype.ext (MC E p.2 q.2 r.2)
 comm p q:=Subtype.ext (XZ E p.2 q.2)
 zadd p:=rfl
 nadd p:=Subtype.ext (DQ p.1)
structure Cub {R:Type} (K:CR R) (b a1 a2 a3 n c:R):Prop where
 s1:K.add (K.add a1 a2) a3=K.mul n n
 s2:K.add (K.add (K.add (K.mul a1 a2) (K.mul a1 a3)) (K.mul a2 a3)) (K.add (K.mul n c) (K.mul n c))=K.zero
 s3:K.add (K.mul (K.mul a1 a2) a3) b=K.mul c c
section
variable {R:Type} {K:CR R} {inv:R→R} {b:R}
theorem aSh {x1 y1 x2 y2 l:R} (hp:K.mul y1 y1=K.add (K.mul x1 (K.mul x1 x1)) b) (h:Slope K x1 y1 x2 y2 l):Cub K b x1 x2 (sx K l x1 x2) l (K.sub y1 (K.mul l x1)):=by
 obtain⟨h1,h2,_⟩:=h;subst h1;unfold sx;exact⟨aE K (aU K [x1,y1,x2,l,b]) (Z0+Z2+(Z3*Z3-Z0-Z2)) (Z3*Z3) (by kernel_rfl),gT (K:=K) (c1:=K.one) h2 (aE K (aU K [x1,y1,x2,l,b]) (Z0*Z2+Z0*(Z3*Z3-Z0-Z2)+Z2*(Z3*Z3-Z0-Z2)+(Z3*(Z1-Z3*Z0)+Z3*(Z1-Z3*Z0))-RE.zero) (RE.one*(Z3*(Z1+(Z1+Z3*(Z2-Z0)))-(Z0*Z0+Z0*Z2+Z2*Z2))) (by kernel_rfl)),jX (K:=K) (c1:=(K.neg K.one)) (c2:=x1) hp h2 (aE K (aU K [x1,y1,x2,l,b]) (Z0*Z2*(Z3*Z3-Z0-Z2)+Z4-(Z1-Z3*Z0)*(Z1-Z3*Z0)) ((-RE.one)*(Z1*Z1-(Z0*(Z0*Z0)+Z4))+Z0*(Z3*(Z1+(Z1+Z3*(Z2-Z0)))-(Z0*Z0+Z0*Z2+Z2*Z2))) (by kernel_rfl))⟩
theorem Ol {a1 a2 a3 n c:R} (h:Cub K b a1 a2 a3 n c) (u v:R):(K.mul (K.add (K.mul u a1) v) (K.mul (K.add (K.mul u a2) v) (K.add (K.mul u a3) v)))=(K.add (K.add (K.sub (K.mul (K.mul (K.mul u u) u) (K.sub (K.mul c c) b)) (K.mul (K.mul (K.mul u u) v) (K.add (K.mul n c) (K.mul n c)))) (K.mul (K.mul (K.mul u v) v) (K.mul n n))) (K.mul (K.mul v v) v)) :=
 Bf (K:=K) (c1:=(K.mul (K.mul u v) v)) (c2:=(K.mul (K.mul u u) v)) (c3:=(K.mul (K.mul u u) u)) h.s1 h.s2 h.s3 (aE K (aU K [a1,a2,a3,n,c,u,v,b]) ((Z5*Z0+Z6)*((Z5*Z1+Z6)*(Z5*Z2+Z6))-(Z5*Z5*Z5*(Z4*Z4-Z7)-Z5*Z5*Z6*(Z3*Z4+Z3*Z4)+Z5*Z6*Z6*(Z3*Z3)+Z6*Z6*Z6)) (Z5*Z6*Z6*(Z0+Z1+Z2-Z3*Z3)+Z5*Z5*Z6*(Z0*Z1+Z0*Z2+Z1*Z2+(Z3*Z4+Z3*Z4)-RE.zero)+Z5*Z5*Z5*(Z0*Z1*Z2+Z7-Z4*Z4)) (by kernel_rfl))
theorem aEC (n c m d:R):(K.add (K.add (K.sub (K.mul (K.mul (K.mul (K.sub n m) (K.sub n m)) (K.sub n m)) (K.sub (K.mul c c) b)) (K.mul (K.mul (K.mul (K.sub n m) (K.sub n m)) (K.sub c d)) (K.add (K.mul n c) (K.mul n c)))) (K.mul (K.mul (K.mul (K.sub n m) (K.sub c d)) (K.sub c d)) (K.mul n n))) (K.mul (K.mul (K.sub c d) (K.sub c d)) (K.sub c d)))=(K.add (K.add (K.sub (K.mul (K.mul (K.mul (K.sub n m) (K.sub n m)) (K.sub n m)) (K.sub (K.mul d d) b)) (K.mul (K.mul (K.mul (K.sub n m) (K.sub n m)) (K.sub c d)) (K.add (K.mul m d) (K.mul m d)))) (K.mul (K.mul (K.mul (K.sub n m) (K.sub c d)) (K.sub c d)) (K.mul m m))) (K.mul (K.mul (K.sub c d) (K.sub c d)) (K.sub c d))) :=
 aE K (aU K [n,c,m,d,b]) ((Z0-Z2)*(Z0-Z2)*(Z0-Z2)*(Z1*Z1-Z4)-(Z0-Z2)*(Z0-Z2)*(Z1-Z3)*(Z0*Z1+Z0*Z1)+(Z0-Z2)*(Z1-Z3)*(Z1-Z3)*(Z0*Z0)+(Z1-Z3)*(Z1-Z3)*(Z1-Z3)) ((Z0-Z2)*(Z0-Z2)*(Z0-Z2)*(Z3*Z3-Z4)-(Z0-Z2)*(Z0-Z2)*(Z1-Z3)*(Z2*Z3+Z2*Z3)+(Z0-Z2)*(Z1-Z3)*(Z1-Z3)*(Z2*Z2)+(Z1-Z3)*(Z1-Z3)*(Z1-Z3)) (by kernel_rfl)
theorem aCx (a n c m d:R):(K.sub (K.add (K.mul n a) c) (K.add (K.mul m a) d))=(K.add (K.mul (K.sub n m) a) (K.sub c d)):=aE K (aU K [a,n,c,m,d]) (Z1*Z0+Z2-(Z3*Z0+Z4)) ((Z1-Z3)*Z0+(Z2-Z4)) (by kernel_rfl)
theorem aCu (a n c m d:R):(K.sub (K.add (K.mul m a) d) (K.add (K.mul n a) c))=(K.neg (K.add (K.mul (K.sub n m) a) (K.sub c d))):=aE K (aU K [a,n,c,m,d]) (Z3*Z0+Z4-(Z1*Z0+Z2)) (-((Z1-Z3)*Z0+(Z2-Z4))) (by kernel_rfl)
theorem aZM (p q r:R):(K.neg (K.mul (K.neg p) (K.mul (K.neg q) (K.neg r))))=(K.mul p (K.mul q r)):=aE K (aU K [p,q,r]) (-((-Z0)*((-Z1)*(-Z2)))) (Z0*(Z1*Z2)) (by kernel_rfl)
theorem aUY {a1 a2 a3 n c x1 x2 x3 m d:R} (h:Cub K b a1 a2 a3 n c) (g:Cub K b x1 x2 x3 m d) :
  K.mul (K.sub (K.add (K.mul n a1) c) (K.add (K.mul m a1) d)) (K.mul (K.sub (K.add (K.mul n a2) c) (K.add (K.mul m a2) d)) (K.sub (K.add (K.mul n a3) c) (K.add (K.mul m a3) d))) =
  K.neg (K.mul (K.sub (K.add (K.mul m x1) d) (K.add (K.mul n x1) c)) (K.mul (K.sub (K.add (K.mul m x2) d) (K.add (K.mul n x2) c)) (K.sub (K.add (K.mul m x3) d) (K.add (K.mul n x3) c)))):=by
 rw[aCx,aCx,aCx,aCu,aCu,aCu,aZM,Ol h,Ol g,aEC]
theorem aUv {a1 a2 a3 n c x y:R} (h:Cub K b a1 a2 a3 n c) (hp:K.mul y y=K.add (K.mul x (K.mul x x)) b):(K.mul (K.sub y (K.add (K.mul n x) c)) (K.sub (K.neg y) (K.add (K.mul n x) c)))=(K.neg (K.mul (K.sub x a1) (K.mul (K.sub x a2) (K.sub x a3)))) :=
 aEl (K:=K) (c1:=(K.neg K.one)) (c2:=(K.neg (K.mul x x))) (c3:=x) (c4:=(K.neg K.one)) hp h.s1 h.s2 h.s3 (aE K (aU K [a1,a2,a3,n,c,x,y,b]) ((Z6-(Z3*Z5+Z4))*(-Z6-(Z3*Z5+Z4))-(-((Z5-Z0)*((Z5-Z1)*(Z5-Z2))))) ((-RE.one)*(Z6*Z6-(Z5*(Z5*Z5)+Z7))+(-(Z5*Z5))*(Z0+Z1+Z2-Z3*Z3)+Z5*(Z0*Z1+Z0*Z2+Z1*Z2+(Z3*Z4+Z3*Z4)-RE.zero)+(-RE.one)*(Z0*Z1*Z2+Z7-Z4*Z4)) (by kernel_rfl))
theorem Cub.scale {a1 a2 a3 n c:R} (h:Cub K b a1 a2 a3 n c) (t:R):Cub K (K.mul b (K.mul (K.mul (K.mul t t) t) (K.mul (K.mul t t) t))) (K.mul a1 (K.mul t t)) (K.mul a2 (K.mul t t)) (K.mul a3 (K.mul t t)) (K.mul n t) (K.mul c (K.mul (K.mul t t) t)) :=
 ⟨gT (K:=K) (c1:=(K.mul t t)) h.s1 (aE K (aU K [a1,a2,a3,n,c,b,t]) (Z0*(Z6*Z6)+Z1*(Z6*Z6)+Z2*(Z6*Z6)-Z3*Z6*(Z3*Z6)) (Z6*Z6*(Z0+Z1+Z2-Z3*Z3)) (by kernel_rfl)),
  gT (K:=K) (c1:=(K.mul (K.mul t t) (K.mul t t))) h.s2 (aE K (aU K [a1,a2,a3,n,c,b,t]) (Z0*(Z6*Z6)*(Z1*(Z6*Z6))+Z0*(Z6*Z6)*(Z2*(Z6*Z6))+Z1*(Z6*Z6)*(Z2*(Z6*Z6))+(Z3*Z6*(Z4*(Z6*Z6*Z6))+Z3*Z6*(Z4*(Z6*Z6*Z6)))-RE.zero) (Z6*Z6*(Z6*Z6)*(Z0*Z1+Z0*Z2+Z1*Z2+(Z3*Z4+Z3*Z4)-RE.zero)) (by kernel_rfl)),
  gT (K:=K) (c1:=(K.mul (K.mul (K.mul t t) t) (K.mul (K.mul t t) t))) h.s3 (aE K (aU K [a1,a2,a3,n,c,b,t]) (Z0*(Z6*Z6)*(Z1*(Z6*Z6))*(Z2*(Z6*Z6))+Z5*(Z6*Z6*Z6*(Z6*Z6*Z6))-Z4*(Z6*Z6*Z6)*(Z4*(Z6*Z6*Z6))) (Z6*Z6*Z6*(Z6*Z6*Z6)*(Z0*Z1*Z2+Z5-Z4*Z4)) (by kernel_rfl))⟩
end
end Go.Proofs.YtglgakbkdjhojaaGreat.Ex
namespace Go.Proofs.YtglgakbkdjhojaaGreat
open Go.Proofs.Tryz
theorem Hv {a b:Nat} (h:a≠b):Nat.beq a b=false:=by cases q:Nat.beq a b with|false=>rfl|true=>exact absurd (Nat.eq_of_beq_eq_true q) h
def dW (q:Nat):Prop:=1<q∧∀m,m∣q→m=1∨m=q
def pm (n:Nat):Nat→Nat→Nat→Nat
 | 0,_,_=>1%n
 | f+1,b,e=>bif Nat.beq e 0 then 1%n else bif Nat.beq (e%2) 1 then b*pm n f (b*b%n) (e/2)%n else pm n f (b*b%n) (e/2)
theorem BV (n:Nat):∀f b e,e<2^f→pm n f b e=b^e%n:=by
 intro f
 induction f with
 | zero =>
  intro b e h;have:e=0:=by omega
  subst this;simp[pm]
 | succ f ih =>
  intro b e h;rw[Nat.pow_succ]at h;unfold pm
  by_cases h0:e=0
  ·subst h0; simp
  ·have h0':Nat.beq e 0=false:=Hv h0;rw[h0'];have hi:=ih (b*b%n) (e/2) (by omega);have hp:(b*b%n)^(e/2)%n=b^(2*(e/2))%n:=by
    rw[←Nat.pow_mod,Nat.pow_mul,Nat.pow_two]
   by_cases h1:e%2=1
   ·have h1':Nat.beq (e%2) 1=true:=by rw[h1]; rfl
    rw[h1'];simp only[cond_true,cond_false];rw[hi,hp,Nat.mul_mod,Nat.mod_mod,←Nat.mul_mod,←Nat.pow_succ'];congr 2; omega
   ·have h1':Nat.beq (e%2) 1=false:=Hv h1;rw[h1'];simp only[cond_false];rw[hi,hp];congr 2; omega
def Mi (n:Nat):Nat→Bool
 | 0=>true
 | k+1=>(Nat.beq k 0 || !(Nat.beq (n%(k+1)) 0))&&Mi n k
theorem Gg (n:Nat):∀k,Mi n k=true→∀m,2≤m→m≤k→¬m∣n:=by
 intro k
 induction k with
 | zero=>intro _ m h1 h2; omega
 | succ k ih =>
  intro h m h1 h2;unfold Mi at h;rw[Bool.and_eq_true]at h
  by_cases hm:m=k+1
  ·subst hm;have hk:Nat.beq k 0=false:=Hv (by omega);rw[hk]at h;simp at h;intro hd;rw[Nat.mod_eq_zero_of_dvd hd]at h;exact absurd h.1 (by decide)
  ·exact ih h.2 m h1 (by omega)
theorem aP (n k:Nat) (h1:1<n) (hk:n<(k+1)*(k+1)) (h:Mi n k=true):dW n:=by
 refine⟨h1,fun m hm => ?_⟩;have hs:=Gg n k h;obtain⟨c,hc⟩:=hm;have hm0:m≠0:=fun e=>by subst e; omega
 have hc0:c≠0:=fun e=>by subst e; omega
 by_cases h2:m=1
 ·exact Or.inl h2
 ·by_cases h3:c=1
  ·subst h3; right; omega
  ·exfalso
   by_cases h4:m≤k
   ·exact hs m (by omega) h4 ⟨c,hc⟩
   ·by_cases h5:c≤k
    ·exact hs c (by omega) h5 ⟨m,by rw[hc,Nat.mul_comm]⟩
    ·have:=Nat.mul_le_mul (show k+1≤m by omega) (show k+1≤c by omega);omega
theorem xV:∀(l:List Nat) (m:Nat),m∣l.foldr (· * ·) 1→1<m→(∀q,q∈l→dW q)→∃q,q∈l∧q∣m:=by
 intro l
 induction l with
 | nil=>intro m h h1 _; simp at h; omega
 | cons q l ih =>
  intro m h h1 hq;rw[List.foldr_cons]at h
  rcases (hq q List.mem_cons_self).2 (Nat.gcd m q) (Nat.gcd_dvd_right m q)with g|g
  ·have:=Nat.Coprime.dvd_of_dvd_mul_left (show Nat.Coprime m q from g) h;obtain⟨q',h',h''⟩:=ih m this h1 (fun q' h'=>hq q' (List.mem_cons_of_mem _ h'));exact⟨q',List.mem_cons_of_mem _ h',h''⟩
  ·exact⟨q,List.mem_cons_self,g▸Nat.gcd_dvd_left m q⟩
theorem iN (g a b n:Nat):g^(a+b)%n=(g^a%n)*(g^b%n)%n:=by rw[Nat.pow_add,Nat.mul_mod]
theorem sS {g o n:Nat} (h1:1<n) (h:g^o%n=1) (k:Nat):g^(o*k)%n=1:=by
 rw[Nat.pow_mul,Nat.pow_mod,h,Nat.one_pow,Nat.mod_eq_of_lt h1]
theorem aCB {P:Nat→Prop}:∀n,P n→∃m,P m∧∀k,k<m→¬P k:=by
 intro n
 induction n using Nat.strongRecOn with
 | ind n ih =>
  intro h
  by_cases hk:∃k,k<n∧P k
  ·obtain⟨k,h1,h2⟩:=hk; exact ih k h1 h2
  ·exact⟨n,h,fun k h1 h2=>hk ⟨k,h1,h2⟩⟩
theorem Fw {n g:Nat} (l:List Nat) (h1:1<n) (hl:l.foldr (· * ·) 1=n-1) (hp:∀q,q∈l→dW q) (hg:g^(n-1)%n=1) (hq:∀q,q∈l→g^((n-1)/q)%n≠1) :
  ∀k,0<k→k<n-1→g^k%n≠1:=by
 obtain⟨o,⟨ho0,ho⟩,hmin⟩:=aCB (P:=fun k=>0<k∧g^k%n=1) (n-1) ⟨by omega,hg⟩;have hdiv:∀k,g^k%n=1→o∣k:=by
  intro k hk;have e:o*(k/o)+k%o=k:=Nat.div_add_mod k o;rw[←e,iN,sS h1 ho,Nat.one_mul,Nat.mod_mod]at hk;have hlt:=Nat.mod_lt k ho0
  by_cases hz:k%o=0
  ·exact Nat.dvd_of_mod_eq_zero hz
  ·exact absurd ⟨by omega,hk⟩ (hmin (k%o) hlt)
 obtain⟨m,hm⟩:=hdiv (n-1) hg;have hm1:m=1:=by
  by_cases h:m=1
  ·exact h
  ·exfalso;have hm0:m≠0:=fun e=>by subst e; omega
   obtain⟨q,hq1,c,hc⟩:=xV l m (by rw[hl,hm]; exact Nat.dvd_mul_left _ _) (by omega) hp;have hq0:0<q:=Nat.lt_of_lt_of_le (by omega) (Nat.le_of_lt (hp q hq1).1);refine hq q hq1 ?_;have:(n-1)/q=o*c:=by
    rw[hm,hc,←Nat.mul_assoc,Nat.mul_comm o q,Nat.mul_assoc,Nat.mul_div_cancel_left _ hq0]
   rw[this,sS h1 ho]
 subst hm1;intro k hk0 hk hk1;have:=Nat.le_of_dvd hk0 (hdiv k hk1);omega
theorem aBb:∀(n:Nat) (f:Nat→Nat),(∀i,i<n→f i<n)→(∀i j,i<n→j<n→f i=f j→i=j)→∀y,y<n→∃i,i<n∧f i=y:=by
 intro n
 induction n with
 | zero=>intro f _ _ y hy; omega
 | succ n ih =>
  intro f hf hi y hy
  by_cases hn:f n=n
  ·by_cases hyn:y=n
   ·exact⟨n,by omega,by omega⟩
   ·have hf':∀i,i<n→f i<n:=fun i h=>by
     have:=hf i (by omega);have hne:f i≠n:=fun e=>by have:=hi i n (by omega) (by omega) (by omega); omega
     omega
    obtain⟨i,h1,h2⟩:=ih f hf' (fun i j h h'=>hi i j (by omega) (by omega)) y (by omega);exact⟨i,by omega,h2⟩
  ·have hfn:=hf n (by omega);have key:=ih (fun i=>if f i=n then f n else f i)
    (fun i h=>by
     have:=hf i (by omega);split<;>omega)
    (fun i j h h' e=>by
     split at e<;>split at e
     ·exact hi i j (by omega) (by omega) (by omega)
     ·have:=hi n j (by omega) (by omega) e; omega
     ·have:=hi i n (by omega) (by omega) e; omega
     ·exact hi i j (by omega) (by omega) e)
   by_cases hyn:y=n
   ·obtain⟨i,h1,h2⟩:=key (f n) (by omega)
    by_cases h3:f i=n
    ·exact⟨i,by omega,by omega⟩
    ·rw[if_neg h3]at h2;have:=hi i n (by omega) (by omega) h2;omega
   ·obtain⟨i,h1,h2⟩:=key y (by omega)
    by_cases h3:f i=n
    ·rw[if_pos h3]at h2; exact⟨n,by omega,h2⟩
    ·rw[if_neg h3]at h2; exact⟨i,by omega,h2⟩
def Root (n g:Nat):Prop:=1<n∧g^(n-1)%n=1∧(∀k,0<k→k<n-1→g^k%n≠1)∧∀a,0<a→a<n→∃k,k<n-1∧g^k%n=a
theorem aHh {n g:Nat} (l:List Nat) (h1:1<n) (hl:l.foldr (· * ·) 1=n-1) (hp:∀q,q∈l→dW q) (hg:g^(n-1)%n=1) (hq:∀q,q∈l→g^((n-1)/q)%n≠1):Root n g:=by
 have ho:=Fw l h1 hl hp hg hq;refine⟨h1,hg,ho,fun a ha han => ?_⟩;have hnz:∀i,i≤n-1→g^i%n≠0:=by
  intro i hi e;have:g^(n-1)%n=0:=by
   have:n-1=i+(n-1-i):=by omega
   rw[this,iN,e,Nat.zero_mul,Nat.zero_mod]
  omega
 have hdis:∀i j,i<n-1→j<n-1→i<j→g^i%n≠g^j%n:=by
  intro i j hi hj hij e;have e1:g^(n-1-i+i)%n=1:=by rw[show n-1-i+i=n-1 by omega]; exact hg
  have e2:g^(n-1-i+j)%n=1:=by rw[iN,←e,←iN]; exact e1
  rw[show n-1-i+j=n-1+(j-i) by omega,iN,hg,Nat.one_mul,Nat.mod_mod]at e2;exact ho (j-i) (by omega) (by omega) e2
 obtain⟨i,hi,he⟩:=aBb (n-1) (fun i=>g^i%n-1)
  (fun i h=>by
   have:=Nat.mod_lt (g^i) (show 0<n by omega);have:=hnz i (by omega);omega)
  (fun i j h h' e=>by
   have a1:=hnz i (by omega);have a2:=hnz j (by omega);have e':g^i%n=g^j%n:=by omega
   rcases Nat.lt_trichotomy i j with q|q|q
   ·exact absurd e' (hdis i j h h' q)
   ·exact q
   ·exact absurd e'.symm (hdis j i h' h q))
  (a-1) (by omega)
 refine⟨i,hi,?_⟩;have:=hnz i (by omega);omega
theorem Root.prm {n g:Nat} (h:Root n g):dW n:=by
 obtain⟨h1,hg,_,hs⟩:=h;refine⟨h1,fun m hm => ?_⟩
 by_cases h2:m=n
 ·exact Or.inr h2
 ·left;have hm0:m≠0:=fun e=>by subst e; have:=Nat.eq_zero_of_zero_dvd hm; omega
  have hle:=Nat.le_of_dvd (by omega) hm;obtain⟨k,hk,e⟩:=hs m (by omega) (by omega);have e1:g^(k+(n-1-k))%n=1:=by rw[show k+(n-1-k)=n-1 by omega]; exact hg
  rw[iN,e]at e1;have hd:m∣(m*(g^(n-1-k)%n))%n:=(Nat.dvd_mod_iff hm).2 (Nat.dvd_mul_right _ _);rw[e1]at hd;exact Nat.dvd_one.1 hd
def aXH (n g:Nat) (l:List Nat):Bool :=
 Nat.blt 1 n&&(Nat.beq (l.foldr (· * ·) 1) (n-1)&&(Nat.blt n (2^255)&&(Nat.beq (pm n 256 g (n-1)) 1&&l.all fun q => !(Nat.beq (pm n 256 g ((n-1)/q)) 1))))
theorem bA {n g:Nat} {l:List Nat} (h:aXH n g l=true) (hp:∀q,q∈l→dW q):Root n g:=by
 unfold aXH at h;simp only[Bool.and_eq_true]at h;obtain⟨h1,h2,h3,h4,h5⟩:=h;have h1:1<n:=by unfold Nat.blt at h1; exact Nat.le_of_ble_eq_true h1
 have h3:n<2^255:=by
  unfold Nat.blt at h3; exact Nat.le_of_ble_eq_true h3
 have h2:=Nat.eq_of_beq_eq_true h2;have h4:=Nat.eq_of_beq_eq_true h4;have hb:∀e,e≤n-1→e<2^256:=fun e he=>by
  rw[Nat.pow_succ]; omega
 rw[BV n 256 g _ (hb _ (Nat.le_refl _))]at h4;refine aHh l h1 h2 hp h4 fun q hq e => ?_
 have:=List.all_eq_true.1 h5 q hq;rw[BV n 256 g _ (hb _ (Nat.div_le_self _ _)),e]at this;exact absurd this (by decide)
end Go.Proofs.YtglgakbkdjhojaaGreat
namespace Go.Proofs.YtglgakbkdjhojaaGreat.Ex
open Go.Proofs.Tryz
def cho:Nat→Nat→Nat
 | _,0=>1
 | 0,_+1=>0
 | n+1,k+1=>cho n k+cho n (k+1)
theorem EN:∀(n k:Nat),n<k→cho n k=0
 | 0,k+1,_=>rfl
 | n+1,k+1,h=>by show cho n k+cho n (k+1)=0; rw[EN n k (by omega),EN n (k+1) (by omega)]
 | _,0,h=>by omega
theorem Bh:∀n,cho n n=1
 | 0=>rfl
 | n+1=>by show cho n n+cho n (n+1)=1; rw[Bh n,EN n (n+1) (by omega)]
theorem EM:∀(n k:Nat),(k+1)*cho (n+1) (k+1)=(n+1)*cho n k
 | 0,0=>rfl
 | 0,k+1=>by show (k+2)*(0+0)=1*0; omega
 | n+1,0=>by
  have:=EM n 0;show 1*(cho (n+1) 0+cho (n+1) 1)=(n+2)*cho (n+1) 0;have h0:cho (n+1) 0=1:=rfl;have h1:cho n 0=1:=by cases n<;>rfl
  rw[h0];rw[h1]at this;have h2:cho (n+1) 1=n+1:=by simpa using this
  omega
 | n+1,k+1=>by
  have h1:=EM n k;have h2:=EM n (k+1);show (k+2)*(cho (n+1) (k+1)+cho (n+1) (k+2))=(n+2)*cho (n+1) (k+1);have h3:(k+2)*cho (n+1) (k+2)=(n+1)*cho n (k+1):=h2;have h4:cho (n+1) (k+1)=cho n k+cho n (k+1):=rfl;rw[Nat.mul_add,h3];have h5:(n+2)*cho (n+1) (k+1)=(n+1)*cho (n+1) (k+1)+cho (n+1) (k+1):=by rw[show n+2=(n+1)+1 from rfl,Nat.add_mul (n+1) 1,Nat.one_mul]
  have h6:(n+1)*cho (n+1) (k+1)=(n+1)*cho n k+(n+1)*cho n (k+1):=by rw[h4,Nat.mul_add]
  have h7:(k+2)*cho (n+1) (k+1)=(k+1)*cho (n+1) (k+1)+cho (n+1) (k+1):=by rw[show k+2=(k+1)+1 from rfl,Nat.add_mul (k+1) 1,Nat.one_mul]
  omega
theorem Vx {q:Nat} (hq:dW q) {k:Nat} (h0:0<k) (hk:k<q):∃m,cho q k=q*m:=by
 obtain⟨j,rfl⟩:∃j,k=j+1:=⟨k-1,by omega⟩
 obtain⟨n,rfl⟩:∃n,q=n+1:=⟨q-1,by omega⟩
 have h:=EM n j;have hd:(n+1)∣(j+1)*cho (n+1) (j+1):=⟨cho n j,h⟩;have hc:Nat.Coprime (n+1) (j+1):=by
  rcases hq.2 (Nat.gcd (n+1) (j+1)) (Nat.gcd_dvd_left _ _)with e|e
  ·exact e
  ·have:=Nat.le_of_dvd h0 (Nat.gcd_dvd_right (n+1) (j+1));omega
 obtain⟨m,hm⟩:=hc.dvd_of_dvd_mul_left hd;exact⟨m,hm⟩
section
variable {R:Type} (K:CR R)
def bH (x:R):Nat→R
 | 0=>K.one
 | n+1=>K.mul (bH x n) x
theorem cJ (x:R) (m:Nat):∀n,bH K x (m+n)=K.mul (bH K x m) (bH K x n)
 | 0=>(K.mul_one _).symm
 | n+1=>by show K.mul (bH K x (m+n)) x=K.mul _ (K.mul _ _); rw[cJ x m n,K.mul_assoc]
theorem mL (x y:R):∀n,bH K (K.mul x y) n=K.mul (bH K x n) (bH K y n)
 | 0=>(K.one_mul _).symm
 | n+1=>by
  show K.mul (bH K (K.mul x y) n) (K.mul x y)=K.mul (K.mul _ _) (K.mul _ _);rw[mL x y n];exact aE K (aU K [bH K x n,bH K y n,x,y]) (Z0*Z1*(Z2*Z3)) (Z0*Z2*(Z1*Z3)) (by decide)
theorem dQ (x:R) (m:Nat):∀n,bH K x (m*n)=bH K (bH K x m) n
 | 0=>rfl
 | n+1=>by rw[Nat.mul_add,Nat.mul_one,cJ,dQ x m n]; rfl
theorem mK:∀n,bH K K.one n=K.one
 | 0=>rfl
 | n+1=>by show K.mul (bH K K.one n) K.one=_; rw[mK n,K.mul_one]
def iS (f:Nat→R):Nat→R
 | 0=>K.zero
 | n+1=>K.add (iS f n) (f n)
theorem qK (f:Nat→R):∀n,iS K f (n+1)=K.add (f 0) (iS K (fun k=>f (k+1)) n)
 | 0=>by show K.add K.zero (f 0)=K.add (f 0) K.zero; rw[K.add_comm]
 | n+1=>by
  show K.add (iS K f (n+1)) (f (n+1))=K.add (f 0) (K.add _ _);rw[qK f n,K.add_assoc]
theorem VM (f g:Nat→R):∀n,iS K (fun k=>K.add (f k) (g k)) n=K.add (iS K f n) (iS K g n)
 | 0=>(K.add_zero _).symm
 | n+1=>by
  show K.add (iS K (fun k=>K.add (f k) (g k)) n) (K.add (f n) (g n))=K.add (K.add _ _) (K.add _ _);rw[VM f g n];exact aE K (aU K [iS K f n,iS K g n,f n,g n]) (Z0+Z1+(Z2+Z3)) (Z0+Z2+(Z1+Z3)) (by decide)
theorem FM (f:Nat→R) (c:R):∀n,K.mul (iS K f n) c=iS K (fun k=>K.mul (f k) c) n
 | 0=>K.zero_mul _
 | n+1=>by show K.mul (K.add _ _) c=K.add _ _; rw[K.add_mul,FM f c n]
theorem mY {f g:Nat→R}:∀n,(∀k,k<n→f k=g k)→iS K f n=iS K g n
 | 0,_=>rfl
 | n+1,h=>by show K.add _ _=K.add _ _; rw[mY n (fun k hk=>h k (by omega)),h n (by omega)]
theorem LS {f:Nat→R}:∀n,(∀k,k<n→f k=K.zero)→iS K f n=K.zero
 | 0,_=>rfl
 | n+1,h=>by show K.add _ _=_; rw[LS n (fun k hk=>h k (by omega)),h n (by omega),K.add_zero]
theorem IF (x c:R):∀n,K.mul (nt K x n) c=nt K (K.mul x c) n
 | 0=>K.zero_mul _
 | n+1=>by show K.mul (K.add _ _) c=K.add _ _; rw[K.add_mul,IF x c n]
theorem aLS (x:R) (m:Nat):∀n,nt K x (m*n)=nt K (nt K x m) n
 | 0=>rfl
 | n+1=>by rw[Nat.mul_add,Nat.mul_one,tB,aLS x m n]; rfl
theorem aMF (x y:R):∀n,bH K (K.add x y) n=iS K (fun k=>nt K (K.mul (bH K x k) (bH K y (n-k))) (cho n k)) (n+1)
 | 0=>by show K.one=K.add K.zero (K.add K.zero (K.mul K.one K.one)); rw[K.zero_add,K.zero_add,K.one_mul]
 | n+1=>by
  show K.mul (bH K (K.add x y) n) (K.add x y)=_;rw[aMF x y n,K.mul_add,FM,FM,qK K _ (n+1)];have e1:iS K (fun k=>K.mul (nt K (K.mul (bH K x k) (bH K y (n-k))) (cho n k)) x) (n+1)=iS K (fun k=>nt K (K.mul (bH K x (k+1)) (bH K y (n-k))) (cho n k)) (n+1) :=
   mY K _ fun k hk=>by
    rw[IF];congr 1;exact aE K (aU K [bH K x k,bH K y (n-k),x]) (Z0*Z1*Z2) (Z0*Z2*Z1) (by decide)
  have e2:iS K (fun k=>K.mul (nt K (K.mul (bH K x k) (bH K y (n-k))) (cho n k)) y) (n+1)=K.add (nt K (K.mul (bH K x 0) (bH K y (n+1-0))) (cho (n+1) 0)) (iS K (fun k=>nt K (K.mul (bH K x (k+1)) (bH K y (n-k))) (cho n (k+1))) (n+1)):=by
   have h1:iS K (fun k=>K.mul (nt K (K.mul (bH K x k) (bH K y (n-k))) (cho n k)) y) (n+1)=iS K (fun k=>nt K (K.mul (bH K x k) (bH K y (n+1-k))) (cho n k)) (n+1) :=
    mY K _ fun k hk=>by
     rw[IF,K.mul_assoc,show n+1-k=(n-k)+1 by omega];rfl
   rw[h1,qK];have h2:iS K (fun k=>nt K (K.mul (bH K x (k+1)) (bH K y (n-k))) (cho n (k+1))) (n+1)=iS K (fun k=>nt K (K.mul (bH K x (k+1)) (bH K y (n+1-(k+1)))) (cho n (k+1))) n:=by
    show K.add _ (nt K _ (cho n (n+1)))=_;rw[EN n (n+1) (by omega)];show K.add _ K.zero=_;rw[K.add_zero];exact mY K _ fun k hk=>by rw[show n+1-(k+1)=n-k by omega]
   rw[h2];congr 1;cases n<;>rfl
  rw[e1,e2];have e3:iS K (fun k=>nt K (K.mul (bH K x (k+1)) (bH K y (n+1-(k+1)))) (cho (n+1) (k+1))) (n+1)=K.add (iS K (fun k=>nt K (K.mul (bH K x (k+1)) (bH K y (n-k))) (cho n k)) (n+1)) (iS K (fun k=>nt K (K.mul (bH K x (k+1)) (bH K y (n-k))) (cho n (k+1))) (n+1)):=by
   rw[←VM];exact mY K _ fun k hk=>by
    rw[show n+1-(k+1)=n-k by omega];exact tB K _ _ _
  rw[e3,←K.add_assoc,←K.add_assoc,K.add_comm (iS K _ _) (nt K _ _)]
theorem Nl {q:Nat} (hq:dW q) (hc:∀x,nt K x q=K.zero) (x y:R):bH K (K.add x y) q=K.add (bH K x q) (bH K y q):=by
 rw[aMF];obtain⟨n,rfl⟩:∃n,q=n+1:=⟨q-1,by have:=hq.1; omega⟩
 show K.add (iS K _ (n+1)) _=_;rw[qK];have h0:iS K (fun k=>nt K (K.mul (bH K x (k+1)) (bH K y (n+1-(k+1)))) (cho (n+1) (k+1))) n=K.zero:=LS K _ fun k hk=>by
  obtain⟨m,hm⟩:=Vx hq (k:=k+1) (by omega) (by omega);rw[hm,aLS,hc];clear hm
  induction m with
  | zero=>rfl
  | succ m ih=>show K.add (nt K K.zero m) K.zero=_; rw[ih,K.add_zero]
 rw[h0,K.add_zero];show K.add (nt K (K.mul (bH K x 0) (bH K y (n+1-0))) (cho (n+1) 0)) (nt K (K.mul (bH K x (n+1)) (bH K y (n+1-(n+1)))) (cho (n+1) (n+1)))=_;rw[Bh];have h1:cho (n+1) 0=1:=rfl;rw[h1,Nat.sub_self,Nat.sub_zero];show K.add (K.add K.zero (K.mul K.one (bH K y (n+1)))) (K.add K.zero (K.mul (bH K x (n+1)) K.one))=_;rw[K.zero_add,K.zero_add,K.one_mul,K.mul_one,K.add_comm]
end
open Go.RowKit
theorem aRH:1<FP.M:=by decide
def F1:CR Fq:=bAo FP.M aRH
def fm (n:Nat):Fq:=⟨n%FP.M,Nat.mod_lt _ fV⟩
abbrev Q2:=Fq×Fq
abbrev Q6:=Q2×Q2×Q2
abbrev aM:=Q6×Q6
def F2:CR Q2:=F1.sq (F1.neg F1.one)
def dG:Q2:=(fm 9,fm 1)
def F6:CR Q6:=F2.cu dG
def vE:Q6:=(F2.zero,F2.one,F2.zero)
def aC:CR aM:=F6.sq vE
def e1 (x:Fq):List At:=[.f x]
def e2 (x:Q2):List At:=[.f x.1,.f x.2]
def e6 (x:Q6):List At:=[.f x.1.1,.f x.1.2,.f x.2.1.1,.f x.2.1.2,.f x.2.2.1,.f x.2.2.2]
def aN (x:aM):List At:=[.f x.1.1.1,.f x.1.1.2,.f x.1.2.1.1,.f x.1.2.1.2,.f x.1.2.2.1,.f x.1.2.2.2,.f x.2.1.1,.f x.2.1.2,.f x.2.2.1.1,.f x.2.2.1.2,.f x.2.2.2.1,.f x.2.2.2.2]
def Ki:List At→Option Fq|[.f a]=>some a|_=>none
def LE:List At→Option Q2|[.f a,.f b]=>some (a,b)|_=>none
def Ts:List At→Option Q6|[.f a,.f b,.f c,.f d,.f e,.f f]=>some ((a,b),(c,d),(e,f))|_=>none
def qQ:List At→Option aM|[.f a,.f b,.f c,.f d,.f e,.f f,.f g,.f h,.f i,.f j,.f k,.f l]=>some (((a,b),(c,d),(e,f)),((g,h),(i,j),(k,l)))|_=>none
abbrev N2:=Nat×Nat
abbrev N6:=N2×N2×N2
abbrev tR:=N6×N6
def q1 (x:Nat):List At:=[.q x]
def q2 (x:N2):List At:=[.q x.1,.q x.2]
def q6 (x:N6):List At:=[.q x.1.1,.q x.1.2,.q x.2.1.1,.q x.2.1.2,.q x.2.2.1,.q x.2.2.2]
def uA (x:tR):List At:=[.q x.1.1.1,.q x.1.1.2,.q x.1.2.1.1,.q x.1.2.1.2,.q x.1.2.2.1,.q x.1.2.2.2,.q x.2.1.1,.q x.2.1.2,.q x.2.2.1.1,.q x.2.2.1.2,.q x.2.2.2.1,.q x.2.2.2.2]
def ZT:At→Option Nat
 | .f x=>some x.1
 | .q x=>some x
 | .c _=>none
def Gh:List At→Option (List Nat)
 | []=>some []
 | a::r=>match ZT a,Gh r with|some x,some l=>some (x::l)|_,_=>none
def LD (l:List At):Option Nat:=match Gh l with|some [a]=>some a|_=>none
def rq2 (l:List At):Option N2:=match Gh l with|some [a,b]=>some (a,b)|_=>none
def rq6 (l:List At):Option N6:=match Gh l with|some [a,b,c,d,e,f]=>some ((a,b),(c,d),(e,f))|_=>none
def Fa (l:List At):Option tR:=match Gh l with|some [a,b,c,d,e,f,g,h,i,j,k,l]=>some (((a,b),(c,d),(e,f)),((g,h),(i,j),(k,l)))|_=>none
def wv (x:Nat):Nat:=aG (fw x 0) (fw x 1) (fw x 2) (fw x 3)
def m1 (x:Nat):Fq:=fm (wv x)
def m2 (x:N2):Q2:=(m1 x.1,m1 x.2)
def m6 (x:N6):Q6:=(m2 x.1,m2 x.2.1,m2 x.2.2)
def gC (x:tR):aM:=(m6 x.1,m6 x.2)
def Rd {α:Type} (rd:List At→Option α) (en:α→List At):Prop:=∀l x,rd l=some x→aA l=aA (en x)
theorem lW:Rd Ki e1:=fun l x h=>by unfold Ki at h; split at h<;>cases h; rfl
theorem fK:Rd LE e2:=fun l x h=>by unfold LE at h; split at h<;>cases h; rfl
theorem nE:Rd Ts e6:=fun l x h=>by unfold Ts at h; split at h<;>cases h; rfl
theorem eF:Rd qQ aN:=fun l x h=>by unfold qQ at h; split at h<;>cases h; rfl
theorem yG:∀{l:List At} {m:List Nat},Gh l=some m→aA l=aA (m.map .q)
 | [],m,h=>by cases h; rfl
 | a::r,m,h=>by
  unfold Gh at h;split at h
  ·rename_i x l' h1 h2;cases h;show a.cells++aA r=w4 x++aA (l'.map .q);rw[yG h2];cases a<;>cases h1<;>rfl
  ·cases h
theorem fJ:Rd LD q1:=fun l x h=>by
 unfold LD at h;split at h
 ·rename_i hn; cases h; rw[yG hn]; rfl
 ·cases h
theorem sM:Rd rq2 q2:=fun l x h=>by
 unfold rq2 at h;split at h
 ·rename_i hn; cases h; rw[yG hn]; rfl
 ·cases h
theorem aOw:Rd rq6 q6:=fun l x h=>by
 unfold rq6 at h;split at h
 ·rename_i hn; cases h; rw[yG hn]; rfl
 ·cases h
theorem xN:Rd Fa uA:=fun l x h=>by
 unfold Fa at h;split at h
 ·rename_i hn; cases h; rw[yG hn]; rfl
 ·cases h
abbrev jV:=List CA→Option (List Prop×RV)
def g0 (r:RV):jV
 | []=>some ([],r)
 | _=>none
def g1 {α:Type} (rd:List At→Option α) (op:α→List Prop×RV):jV
 | [.v (.fl l)]=>match rd l with|some x=>some (op x)|none=>none
 | _=>none
def g2 {α γ:Type} (rd:List At→Option α) (rd':List At→Option γ) (op:α→γ→List Prop×RV):jV
 | [.v (.fl l),.v (.fl m)]=>match rd l,rd' m with|some x,some y=>some (op x y)|_,_=>none
 | _=>none
def Good (P:Program) (f:FuncId) (r:RV) (args:List Value) (w:World):Prop:=Calls P f args.toArray w (fun e w'=>e=.returned r.den∧Below w.heap.size w w')
theorem gI {P:Program} {f:FuncId} {r:RV} (h:∀w,Good P f r [] w):∀cs pre r',g0 r cs=some (pre,r')→aZ pre→∀(args:List Value) (w:World),bQ w cs args→Good P f r' args w:=by
 intro cs pre r' hg hp args w ha;unfold g0 at hg;split at hg
 ·cases hg;cases args with
  | nil=>exact h w
  | cons _ _=>exact ha.elim
 ·cases hg
theorem bM {P:Program} {f:FuncId} {α:Type} {rd:List At→Option α} {en:α→List At} (hr:Rd rd en) {op:α→List Prop×RV} (h:∀x,aZ (op x).1→∀args w,bQ w [.v (.fl (en x))] args→Good P f (op x).2 args w) :
  ∀cs pre r,g1 rd op cs=some (pre,r)→aZ pre→∀(args:List Value) (w:World),bQ w cs args→Good P f r args w:=by
 intro cs pre r hg hp args w ha;unfold g1 at hg;split at hg
 ·rename_i l;split at hg
  ·rename_i x hx;have e:op x=(pre,r):=by simpa using hg
   have:=h x (by rw[e]; exact hp) args w (by
    cases args with
    | nil=>exact ha.elim
    | cons v vs =>
     refine⟨?_,ha.2⟩;show v=.agg (aA (en x)).toArray;rw[←hr l x hx];exact ha.1)
   rw[e]at this;exact this
  ·cases hg
 ·cases hg
theorem fC {P:Program} {f:FuncId} {α γ:Type} {rd:List At→Option α} {en:α→List At} {rd':List At→Option γ} {en':γ→List At} (hr:Rd rd en) (hr':Rd rd' en') {op:α→γ→List Prop×RV}
  (h:∀x y,aZ (op x y).1→∀args w,bQ w [.v (.fl (en x)),.v (.fl (en' y))] args→Good P f (op x y).2 args w) :
  ∀cs pre r,g2 rd rd' op cs=some (pre,r)→aZ pre→∀(args:List Value) (w:World),bQ w cs args→Good P f r args w:=by
 intro cs pre r hg hp args w ha;unfold g2 at hg;split at hg
 ·rename_i l m;split at hg
  ·rename_i x y hx hy;have e:op x y=(pre,r):=by simpa using hg
   have:=h x y (by rw[e]; exact hp) args w (by
    cases args with
    | nil=>exact ha.elim
    | cons v vs =>
     cases vs with
     | nil=>exact ha.2.elim
     | cons u us =>
      refine⟨?_,?_,ha.2.2⟩
      ·show v=.agg (aA (en x)).toArray;rw[←hr l x hx];exact ha.1
      ·show u=.agg (aA (en' y)).toArray;rw[←hr' m y hy];exact ha.2.1)
   rw[e]at this;exact this
  ·cases hg
 ·cases hg
theorem aF:prog.follows .mixedOrders=true:=by kernel_rfl
def qN:EqT:={ q:=fun _=>none,n:=fun _=>none }
theorem aL {P:Program}:EqOk P qN:=⟨⟨(fun t n h=>by cases h),(fun t n h=>by cases h)⟩,rfl⟩
def Vp:Fq→List Fq→List Fq→Fq
 | a,x::r,y::s=>Vp (F1.add a (F1.mul x y)) r s
 | a,_,_=>a
def rL:List Fq→List Fq→Fq
 | x::r,y::s=>Vp (F1.mul x y) r s
 | _,_=>F1.zero
def YY:Nat→List At→Option (List Fq)
 | 0,_=>some []
 | n+1,.f a::r=>match YY n r with|some l=>some (a::l)|none=>none
 | _,_=>none
def aDk:jV
 | [.s l n m,.s l' n' m']=>bif Nat.beq n n'&&Nat.ble n 6 then (match YY n l,YY n' l' with
  | some x,some y=>some ([],.one (.fl (e1 (rL x y))))
  | _,_=>none)else none
 | _=>none
def gOf:jV
 | [.v (.im (.int .u64 (.ofNat n)))]=>bif Nat.blt n 18446744073709551616 then some ([],.one (.fl (e1 (fm n))))else none
 | _=>none
theorem Np:∃f:Fq→Fq,∀x,(f x).1=1*(x.1^(FP.M-2)%FP.M) :=
 ⟨fun x=>⟨1*(x.1^(FP.M-2)%FP.M),by rw[Nat.one_mul]; exact Nat.mod_lt _ fV⟩,fun _=>rfl⟩
def cT:Fq→Fq:=Classical.choose Np
theorem Ao (x:Fq):(cT x).1=1*(x.1^(FP.M-2)%FP.M):=Classical.choose_spec Np x
def aRp (c:Bool):jV
 | [.v (.im (.int .i64 (.ofNat 1))),.v (.fl l)]=>match Ki l with
  | some x=>bif c then some ([x≠F1.zero],.many [.fl (e1 (cT x)),.im (.int .i64 0)])else some ([x=F1.zero],.many [.fl (e1 F1.zero),.im (.int .i64 22)])
  | none=>none
 | _=>none
def oZ (c:Bool):Tab:=(((((((T0.add 222 (g2 Ki Ki fun x y=>([],.one (.fl (e1 (F1.add x y)))))).add 221 (g2 Ki Ki fun x y=>([],.one (.fl (e1 (F1.sub x y)))))).add 225 (g2 Ki Ki fun x y=>([],.one (.fl (e1 (F1.mul x y)))))).add
 223 (g1 Ki fun x=>([],.one (.fl (e1 (F1.neg x)))))).add 220 (g1 LD fun x=>([],.one (.fl (e1 (m1 x)))))).add 224 aDk).add 97 gOf).add 256 (aRp c)
theorem aVV (c:Bool) (hB:TabOk prog (oZ c)):TabOk prog (oZ c):=hB
end Go.Proofs.YtglgakbkdjhojaaGreat.Ex
