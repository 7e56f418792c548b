/- Pr00 -/
import Derived.Laws.Externs
import Derived.KernelRfl
import GoSem.Claim
import Derived.Below
import Derived.Deep.MidRow
import Derived.Great.BuildSlice
import Derived.Test.YtjjnbgoepbiojaaGreatProg
set_option maxRecDepth 100000
set_option linter.unusedVariables false
set_option linter.unusedSimpArgs false
set_option linter.unnecessarySimpa false
namespace Go.Proofs.YtjjnbgoepbiojaaGreat
open Go.Proofs.Tryz
structure CR (R:Type) where
 add:R→R→R
 mul:R→R→R
 neg:R→R
 zero:R
 one:R
 add_assoc:∀a b c,add (add a b) c=add a (add b c)
 add_comm:∀a b,add a b=add b a
 zero_add:∀a,add zero a=a
 neg_add:∀a,add (neg a) a=zero
 mul_assoc:∀a b c,mul (mul a b) c=mul a (mul b c)
 mul_comm:∀a b,mul a b=mul b a
 one_mul:∀a,mul one a=a
 mul_add:∀a b c,mul a (add b c)=add (mul a b) (mul a c)
namespace CR
variable {R:Type} (K:CR R)
theorem add_left_comm (a b c:R):K.add a (K.add b c)=K.add b (K.add a c):=by rw[←K.add_assoc,K.add_comm a b,K.add_assoc]
theorem mul_left_comm (a b c:R):K.mul a (K.mul b c)=K.mul b (K.mul a c):=by rw[←K.mul_assoc,K.mul_comm a b,K.mul_assoc]
theorem add_mul (a b c:R):K.mul (K.add a b) c=K.add (K.mul a c) (K.mul b c):=by rw[K.mul_comm,K.mul_add,K.mul_comm c a,K.mul_comm c b]
theorem add_zero (a:R):K.add a K.zero=a:=by rw[K.add_comm,K.zero_add]
theorem add_neg (a:R):K.add a (K.neg a)=K.zero:=by rw[K.add_comm,K.neg_add]
theorem add_cancel {a b c:R} (h:K.add a b=K.add a c):b=c:=by
 have:=congrArg (K.add (K.neg a)) h
 rwa [←K.add_assoc,←K.add_assoc,K.neg_add,K.zero_add,K.zero_add]at this
theorem mul_zero (a:R):K.mul a K.zero=K.zero:=by
 apply K.add_cancel (a:=K.mul a K.zero);rw[←K.mul_add,K.add_zero,K.add_zero]
theorem zero_mul (a:R):K.mul K.zero a=K.zero:=by rw[K.mul_comm,K.mul_zero]
theorem mul_one (a:R):K.mul a K.one=a:=by rw[K.mul_comm,K.one_mul]
theorem neg_mul (a b:R):K.mul (K.neg a) b=K.neg (K.mul a b):=by
 apply K.add_cancel (a:=K.mul a b);rw[←K.add_mul,K.add_neg,K.zero_mul,K.add_neg]
theorem neg_neg (a:R):K.neg (K.neg a)=a:=by
 apply K.add_cancel (a:=K.neg a);rw[K.add_neg,K.neg_add]
theorem neg_add' (a b:R):K.neg (K.add a b)=K.add (K.neg a) (K.neg b):=by
 apply K.add_cancel (a:=K.add a b);rw[K.add_neg,K.add_assoc,K.add_left_comm b,K.add_neg,K.add_zero,K.add_neg]
theorem mul_neg (a b:R):K.mul a (K.neg b)=K.neg (K.mul a b):=by rw[K.mul_comm,K.neg_mul,K.mul_comm]
def sub (a b:R):R:=K.add a (K.neg b)
def sq (q:R):CR (R×R) where
 add x y:=(K.add x.1 y.1,K.add x.2 y.2)
 mul x y:=(K.add (K.mul x.1 y.1) (K.mul q (K.mul x.2 y.2)),K.add (K.mul x.1 y.2) (K.mul x.2 y.1))
 neg x:=(K.neg x.1,K.neg x.2)
 zero:=(K.zero,K.zero)
 one:=(K.one,K.zero)
 add_assoc a b c:=by simp only[K.add_assoc]
 add_comm a b:=by rw[K.add_comm a.1,K.add_comm a.2]
 zero_add a:=by simp only[K.zero_add]
 neg_add a:=by simp only[K.neg_add]
 mul_assoc a b c:=by
  simp only[K.mul_add,K.add_mul,K.mul_assoc,K.mul_left_comm,K.add_assoc,K.add_left_comm,K.add_comm]
 mul_comm a b:=by
  simp only[K.mul_comm,K.add_comm]
 one_mul a:=by simp only[K.one_mul,K.zero_mul,K.mul_zero,K.add_zero]
 mul_add a b c:=by
  simp only[K.mul_add,K.add_assoc,Prod.mk.injEq];constructor<;>(simp only[K.add_left_comm])
theorem ma:Std.Associative K.mul:=⟨K.mul_assoc⟩
end CR
def Zv (M:Nat) (h:1<M):CR (Fin M) where
 add a b:=⟨(a.1+b.1)%M,Nat.mod_lt _ (by omega)⟩
 mul a b:=⟨a.1*b.1%M,Nat.mod_lt _ (by omega)⟩
 neg a:=⟨(0+M-a.1)%M,Nat.mod_lt _ (by omega)⟩
 zero:=⟨0,by omega⟩
 one:=⟨1,h⟩
 add_assoc a b c:=Fin.ext (by show ((a.1+b.1)%M+c.1)%M=(a.1+(b.1+c.1)%M)%M; rw[Nat.mod_add_mod,Nat.add_mod_mod,Nat.add_assoc])
 add_comm a b:=Fin.ext (by show (a.1+b.1)%M=(b.1+a.1)%M; rw[Nat.add_comm])
 zero_add a:=Fin.ext (by show (0+a.1)%M=a.1; rw[Nat.zero_add,Nat.mod_eq_of_lt a.2])
 neg_add a:=Fin.ext (by
  show ((0+M-a.1)%M+a.1)%M=0;have:=a.2;rw[Nat.mod_add_mod,show 0+M-a.1+a.1=M by omega,Nat.mod_self])
 mul_assoc a b c:=Fin.ext (by show a.1*b.1%M*c.1%M=a.1*(b.1*c.1%M)%M; rw[Nat.mod_mul_mod,Nat.mul_mod_mod,Nat.mul_assoc])
 mul_comm a b:=Fin.ext (by show a.1*b.1%M=b.1*a.1%M; rw[Nat.mul_comm])
 one_mul a:=Fin.ext (by show 1*a.1%M=a.1; rw[Nat.one_mul,Nat.mod_eq_of_lt a.2])
 mul_add a b c:=Fin.ext (by show a.1*((b.1+c.1)%M)%M=(a.1*b.1%M+a.1*c.1%M)%M; rw[Nat.mul_mod_mod,Nat.mul_add,Nat.add_mod])
end Go.Proofs.YtjjnbgoepbiojaaGreat
namespace Go.Proofs.YtjjnbgoepbiojaaGreat.Ex
open Go.Proofs.Tryz
inductive RE|v (i:Nat)|add (a b:RE)|mul (a b:RE)|neg (a:RE)|zero|one
instance:Add RE:=⟨.add⟩
instance:Mul RE:=⟨.mul⟩
instance:Neg RE:=⟨.neg⟩
instance:Sub RE:=⟨fun a b=>.add a (.neg b)⟩
abbrev Z0:RE:=.v 0
abbrev Z1:RE:=.v 1
abbrev Z2:RE:=.v 2
abbrev Z3:RE:=.v 3
abbrev Z4:RE:=.v 4
abbrev Z5:RE:=.v 5
abbrev Z6:RE:=.v 6
abbrev Z7:RE:=.v 7
abbrev Z8:RE:=.v 8
abbrev Z9:RE:=.v 9
abbrev Z10:RE:=.v 10
abbrev Z11:RE:=.v 11
section
variable {R:Type} (K:CR R) (env:Nat→R)
def RE.den:RE→R
 | .v i=>env i
 | .add a b=>K.add (a.den) (b.den)
 | .mul a b=>K.mul (a.den) (b.den)
 | .neg a=>K.neg a.den
 | .zero=>K.zero
 | .one=>K.one
def nt (x:R):Nat→R
 | 0=>K.zero
 | n+1=>K.add (nt x n) x
def zt (x:R):Int→R
 | .ofNat n=>nt K x n
 | .negSucc n=>K.neg (nt K x (n+1))
def mono:List Nat→R
 | []=>K.one
 | i::r=>K.mul (env i) (mono r)
def gV:List (Int×List Nat)→R
 | []=>K.zero
 | (c,m)::r=>K.add (zt K (mono K env m) c) (gV r)
end
def Ze:List Nat→List Nat→Bool
 | [],[]=>false
 | [],_::_=>true
 | _::_,[]=>false
 | a::r,b::s=>bif Nat.blt a b then true else bif Nat.blt b a then false else Ze r s
def Uf:List Nat→List Nat→Bool
 | [],[]=>true
 | a::r,b::s=>bif Nat.beq a b then Uf r s else false
 | _,_=>false
theorem SV:∀{a b:List Nat},Uf a b=true→a=b
 | [],[],_=>rfl
 | a::r,b::s,h=>by
  unfold Uf at h;cases hb:Nat.beq a b<;>rw[hb]at h
  ·cases h
  ·rw[Nat.eq_of_beq_eq_true hb,SV h]
 | [],_::_,h=>by cases h
 | _::_,[],h=>by cases h
def Dt (c:Int) (m:List Nat):List (Int×List Nat)→List (Int×List Nat)
 | []=>[(c,m)]
 | (d,k)::r=>bif Uf m k then (c+d,k)::r else bif Ze m k then (c,m)::(d,k)::r else (d,k)::Dt c m r
def EC:List (Int×List Nat)→List (Int×List Nat)→List (Int×List Nat)
 | [],q=>q
 | (c,m)::r,q=>Dt c m (EC r q)
def KW (i:Nat):List Nat→List Nat
 | []=>[i]
 | j::r=>bif Nat.ble i j then i::j::r else j::KW i r
def QK:List Nat→List Nat→List Nat
 | [],m=>m
 | i::r,m=>KW i (QK r m)
def AE (c:Int) (m:List Nat):List (Int×List Nat)→List (Int×List Nat)
 | []=>[]
 | (d,k)::r=>Dt (c*d) (QK m k) (AE c m r)
def PU:List (Int×List Nat)→List (Int×List Nat)→List (Int×List Nat)
 | [],_=>[]
 | (c,m)::r,q=>EC (AE c m q) (PU r q)
def PT:List (Int×List Nat)→List (Int×List Nat)
 | []=>[]
 | (c,m)::r=>(-c,m)::PT r
def RE.norm:RE→List (Int×List Nat)
 | .v i=>[(1,[i])]
 | .add a b=>EC a.norm b.norm
 | .mul a b=>PU a.norm b.norm
 | .neg a=>PT a.norm
 | .zero=>[]
 | .one=>[(1,[])]
def Zk:List (Int×List Nat)→Bool
 | []=>true
 | (.ofNat 0,_)::r=>Zk r
 | _=>false
section
variable {R:Type} (K:CR R) (env:Nat→R)
theorem lP (x:R) (n:Nat):∀m,nt K x (n+m)=K.add (nt K x n) (nt K x m)
 | 0=>(K.add_zero _).symm
 | m+1=>by show K.add (nt K x (n+m)) x=_; rw[lP x n m,K.add_assoc]; rfl
theorem QJ:K.neg K.zero=K.zero:=by
 apply K.add_cancel (a:=K.zero);rw[K.add_neg,K.add_zero]
theorem MN (x:R) (n m:Nat):zt K x (Int.subNatNat n m)=K.add (nt K x n) (K.neg (nt K x m)):=by
 unfold Int.subNatNat;split
 ·rename_i h;have:n=m+(n-m):=by omega
  show nt K x (n-m)=_
  conv=>rhs; rw[this,lP]
  rw[K.add_comm (nt K x m),K.add_assoc,K.add_neg,K.add_zero]
 ·rename_i k h;have:m=n+(k+1):=by omega
  show K.neg (nt K x (k+1))=K.add (nt K x n) (K.neg (nt K x m));rw[this,lP K x n (k+1),K.neg_add' (nt K x n),←K.add_assoc,K.add_neg,K.zero_add]
theorem MO (x:R) (a b:Int):zt K x (a+b)=K.add (zt K x a) (zt K x b):=by
 cases a with
 | ofNat n =>
  cases b with
  | ofNat m=>exact lP K x n m
  | negSucc m=>exact MN K x n (m+1)
 | negSucc n =>
  cases b with
  | ofNat m=>show zt K x (Int.subNatNat m (n+1))=_; rw[MN,K.add_comm]; rfl
  | negSucc m =>
   show K.neg (nt K x (n+m+1+1))=K.add (K.neg (nt K x (n+1))) (K.neg (nt K x (m+1)));rw[←K.neg_add',←lP,show n+1+(m+1)=n+m+1+1 by omega]
theorem mR (x:R) (a:Int):zt K x (-a)=K.neg (zt K x a):=by
 apply K.add_cancel (a:=zt K x a);rw[←MO,K.add_neg,Int.add_right_neg];rfl
theorem EE (x y:R) (n:Nat):∀m,K.mul (nt K x n) (nt K y m)=nt K (K.mul x y) (n*m)
 | 0=>K.mul_zero _
 | m+1=>by
  show K.mul _ (K.add (nt K y m) y)=_;rw[K.mul_add,EE x y n m,Nat.mul_add,Nat.mul_one,lP];congr 1;clear EE
  induction n with
  | zero=>exact K.zero_mul _
  | succ n ih=>show K.mul (K.add (nt K x n) x) y=_; rw[K.add_mul,ih]; rfl
theorem Ep (x y:R) (a b:Int):K.mul (zt K x a) (zt K y b)=zt K (K.mul x y) (a*b):=by
 have hn:∀(c:Int),∃n:Nat,c=n∨c = -(n:Int):=fun c=>⟨c.natAbs,Int.natAbs_eq c⟩
 have h0:∀n m:Nat,K.mul (zt K x n) (zt K y m)=zt K (K.mul x y) ((n:Int)*m):=fun n m=>by
  rw[←Int.natCast_mul]; exact EE K x y n m
 obtain⟨n,rfl|rfl⟩:=hn a
 ·obtain⟨m,rfl|rfl⟩:=hn b
  ·exact h0 n m
  ·rw[mR,K.mul_neg,h0,Int.mul_neg,mR]
 ·obtain⟨m,rfl|rfl⟩:=hn b
  ·rw[mR,K.neg_mul,h0,Int.neg_mul,mR]
  ·rw[mR,mR,K.neg_mul,K.mul_neg,K.neg_neg,h0,Int.neg_mul_neg]
theorem wW (c:Int) (m:List Nat):∀q,gV K env (Dt c m q)=K.add (zt K (mono K env m) c) (gV K env q)
 | []=>rfl
 | (d,k)::r=>by
  unfold Dt;cases he:Uf m k
  ·cases hl:Ze m k
   ·show K.add (zt K (mono K env k) d) (gV K env (Dt c m r))=K.add _ (K.add _ _);rw[wW c m r,K.add_left_comm]
   ·rfl
  ·rw[SV he];show K.add (zt K (mono K env k) (c+d)) (gV K env r)=K.add _ (K.add _ _);rw[MO,K.add_assoc]
theorem sH:∀p q,gV K env (EC p q)=K.add (gV K env p) (gV K env q)
 | [],q=>(K.zero_add _).symm
 | (c,m)::r,q=>by
  show gV K env (Dt c m (EC r q))=K.add (K.add _ _) _;rw[wW,sH r q,K.add_assoc]
theorem AQ (i:Nat):∀m,mono K env (KW i m)=K.mul (env i) (mono K env m)
 | []=>rfl
 | j::r=>by
  unfold KW;cases Nat.ble i j
  ·show K.mul (env j) (mono K env (KW i r))=K.mul _ (K.mul _ _);rw[AQ i r,K.mul_left_comm]
  ·rfl
theorem AK:∀m k,mono K env (QK m k)=K.mul (mono K env m) (mono K env k)
 | [],k=>(K.one_mul _).symm
 | i::r,k=>by
  show mono K env (KW i (QK r k))=K.mul (K.mul _ _) _;rw[AQ,AK r k,K.mul_assoc]
theorem uY (c:Int) (m:List Nat):∀q,gV K env (AE c m q)=K.mul (zt K (mono K env m) c) (gV K env q)
 | []=>(K.mul_zero _).symm
 | (d,k)::r=>by
  show gV K env (Dt (c*d) (QK m k) (AE c m r))=K.mul _ (K.add _ _);rw[wW,uY c m r,K.mul_add,AK,Ep]
theorem AD:∀p q,gV K env (PU p q)=K.mul (gV K env p) (gV K env q)
 | [],q=>(K.zero_mul _).symm
 | (c,m)::r,q=>by
  show gV K env (EC (AE c m q) (PU r q))=K.mul (K.add _ _) _;rw[sH,uY,AD r q,K.add_mul]
theorem AC:∀p,gV K env (PT p)=K.neg (gV K env p)
 | []=>(QJ K).symm
 | (c,m)::r=>by
  show K.add (zt K (mono K env m) (-c)) (gV K env (PT r))=K.neg (K.add _ _);rw[AC r,K.neg_add',mR]
theorem jN:∀e:RE,gV K env e.norm=e.den K env
 | .v i=>by show K.add (K.add K.zero (K.mul (env i) K.one)) K.zero=env i; rw[K.add_zero,K.zero_add,K.mul_one]
 | .add a b=>by show gV K env (EC _ _)=K.add _ _; rw[sH,jN a,jN b]
 | .mul a b=>by show gV K env (PU _ _)=K.mul _ _; rw[AD,jN a,jN b]
 | .neg a=>by show gV K env (PT _)=K.neg _; rw[AC,jN a]
 | .zero=>rfl
 | .one=>by show K.add (K.add K.zero K.one) K.zero=K.one; rw[K.add_zero,K.zero_add]
theorem II:∀p,Zk p=true→gV K env p=K.zero
 | [],_=>rfl
 | (.ofNat 0,m)::r,h=>by
  show K.add K.zero (gV K env r)=_;rw[K.zero_add];exact II r h
 | (.ofNat (_+1),_)::_,h=>by cases h
 | (.negSucc _,_)::_,h=>by cases h
theorem mD (a b:RE) (h:Zk (RE.norm (.add a (.neg b)))=true):a.den K env=b.den K env:=by
 have:=II K env _ h;rw[jN]at this;have h2:K.add (K.add (a.den K env) (K.neg (b.den K env))) (b.den K env)=K.add K.zero (b.den K env):=congrArg (fun x=>K.add x (b.den K env)) this
 rwa [K.add_assoc,K.neg_add,K.add_zero,K.zero_add]at h2
end
def LP {R:Type} (K:CR R) (l:List R) (i:Nat):R:=(l[i]?).getD K.zero
end Go.Proofs.YtjjnbgoepbiojaaGreat.Ex
namespace Go.Proofs.YtjjnbgoepbiojaaGreat
open Go.Proofs.Tryz
theorem FM {a b:Nat} (h:a≠b):Nat.beq a b=false:=by cases q:Nat.beq a b with|false=>rfl|true=>exact absurd (Nat.eq_of_beq_eq_true q) h
def fI (q:Nat):Prop:=1<q∧∀m,m∣q→m=1∨m=q
def pm (n:Nat):Nat→Nat→Nat→Nat
 | 0,_,_=>1%n
 | f+1,b,e=>bif Nat.beq e 0 then 1%n else bif Nat.beq (e%2) 1 then b*pm n f (b*b%n) (e/2)%n else pm n f (b*b%n) (e/2)
theorem PX (n:Nat):∀f b e,e<2^f→pm n f b e=b^e%n:=by
 intro f
 induction f with
 | zero =>
  intro b e h;have:e=0:=by omega
  subst this;simp[pm]
 | succ f ih =>
  intro b e h;rw[Nat.pow_succ]at h;unfold pm
  by_cases h0:e=0
  ·subst h0; simp
  ·have h0':Nat.beq e 0=false:=FM h0;rw[h0'];have hi:=ih (b*b%n) (e/2) (by omega);have hp:(b*b%n)^(e/2)%n=b^(2*(e/2))%n:=by
    rw[←Nat.pow_mod,Nat.pow_mul,Nat.pow_two]
   by_cases h1:e%2=1
   ·have h1':Nat.beq (e%2) 1=true:=by rw[h1]; rfl
    rw[h1'];simp only[cond_true,cond_false];rw[hi,hp,Nat.mul_mod,Nat.mod_mod,←Nat.mul_mod,←Nat.pow_succ'];congr 2; omega
   ·have h1':Nat.beq (e%2) 1=false:=FM h1;rw[h1'];simp only[cond_false];rw[hi,hp];congr 2; omega
def GX (n:Nat):Nat→Bool
 | 0=>true
 | k+1=>(Nat.beq k 0 || !(Nat.beq (n%(k+1)) 0))&&GX n k
theorem EF (n:Nat):∀k,GX n k=true→∀m,2≤m→m≤k→¬m∣n:=by
 intro k
 induction k with
 | zero=>intro _ m h1 h2; omega
 | succ k ih =>
  intro h m h1 h2;unfold GX at h;rw[Bool.and_eq_true]at h
  by_cases hm:m=k+1
  ·subst hm;have hk:Nat.beq k 0=false:=FM (by omega);rw[hk]at h;simp at h;intro hd;rw[Nat.mod_eq_zero_of_dvd hd]at h;exact absurd h.1 (by decide)
  ·exact ih h.2 m h1 (by omega)
theorem aW (n k:Nat) (h1:1<n) (hk:n<(k+1)*(k+1)) (h:GX n k=true):fI n:=by
 refine⟨h1,fun m hm => ?_⟩;have hs:=EF n k h;obtain⟨c,hc⟩:=hm;have hm0:m≠0:=fun e=>by subst e; omega
 have hc0:c≠0:=fun e=>by subst e; omega
 by_cases h2:m=1
 ·exact Or.inl h2
 ·by_cases h3:c=1
  ·subst h3; right; omega
  ·exfalso
   by_cases h4:m≤k
   ·exact hs m (by omega) h4 ⟨c,hc⟩
   ·by_cases h5:c≤k
    ·exact hs c (by omega) h5 ⟨m,by rw[hc,Nat.mul_comm]⟩
    ·have:=Nat.mul_le_mul (show k+1≤m by omega) (show k+1≤c by omega);omega
theorem wM:∀(l:List Nat) (m:Nat),m∣l.foldr (· * ·) 1→1<m→(∀q,q∈l→fI q)→∃q,q∈l∧q∣m:=by
 intro l
 induction l with
 | nil=>intro m h h1 _; simp at h; omega
 | cons q l ih =>
  intro m h h1 hq;rw[List.foldr_cons]at h
  rcases (hq q List.mem_cons_self).2 (Nat.gcd m q) (Nat.gcd_dvd_right m q)with g|g
  ·have:=Nat.Coprime.dvd_of_dvd_mul_left (show Nat.Coprime m q from g) h;obtain⟨q',h',h''⟩:=ih m this h1 (fun q' h'=>hq q' (List.mem_cons_of_mem _ h'));exact⟨q',List.mem_cons_of_mem _ h',h''⟩
  ·exact⟨q,List.mem_cons_self,g▸Nat.gcd_dvd_left m q⟩
theorem fM (g a b n:Nat):g^(a+b)%n=(g^a%n)*(g^b%n)%n:=by rw[Nat.pow_add,Nat.mul_mod]
theorem lM {g o n:Nat} (h1:1<n) (h:g^o%n=1) (k:Nat):g^(o*k)%n=1:=by
 rw[Nat.pow_mul,Nat.pow_mod,h,Nat.one_pow,Nat.mod_eq_of_lt h1]
theorem QX {P:Nat→Prop}:∀n,P n→∃m,P m∧∀k,k<m→¬P k:=by
 intro n
 induction n using Nat.strongRecOn with
 | ind n ih =>
  intro h
  by_cases hk:∃k,k<n∧P k
  ·obtain⟨k,h1,h2⟩:=hk; exact ih k h1 h2
  ·exact⟨n,h,fun k h1 h2=>hk ⟨k,h1,h2⟩⟩
theorem ED {n g:Nat} (l:List Nat) (h1:1<n) (hl:l.foldr (· * ·) 1=n-1) (hp:∀q,q∈l→fI q) (hg:g^(n-1)%n=1) (hq:∀q,q∈l→g^((n-1)/q)%n≠1) :
  ∀k,0<k→k<n-1→g^k%n≠1:=by
 obtain⟨o,⟨ho0,ho⟩,hmin⟩:=QX (P:=fun k=>0<k∧g^k%n=1) (n-1) ⟨by omega,hg⟩;have hdiv:∀k,g^k%n=1→o∣k:=by
  intro k hk;have e:o*(k/o)+k%o=k:=Nat.div_add_mod k o;rw[←e,fM,lM h1 ho,Nat.one_mul,Nat.mod_mod]at hk;have hlt:=Nat.mod_lt k ho0
  by_cases hz:k%o=0
  ·exact Nat.dvd_of_mod_eq_zero hz
  ·exact absurd ⟨by omega,hk⟩ (hmin (k%o) hlt)
 obtain⟨m,hm⟩:=hdiv (n-1) hg;have hm1:m=1:=by
  by_cases h:m=1
  ·exact h
  ·exfalso;have hm0:m≠0:=fun e=>by subst e; omega
   obtain⟨q,hq1,c,hc⟩:=wM l m (by rw[hl,hm]; exact Nat.dvd_mul_left _ _) (by omega) hp;have hq0:0<q:=Nat.lt_of_lt_of_le (by omega) (Nat.le_of_lt (hp q hq1).1);refine hq q hq1 ?_;have:(n-1)/q=o*c:=by
    rw[hm,hc,←Nat.mul_assoc,Nat.mul_comm o q,Nat.mul_assoc,Nat.mul_div_cancel_left _ hq0]
   rw[this,lM h1 ho]
 subst hm1;intro k hk0 hk hk1;have:=Nat.le_of_dvd hk0 (hdiv k hk1);omega
theorem Hl:∀(n:Nat) (f:Nat→Nat),(∀i,i<n→f i<n)→(∀i j,i<n→j<n→f i=f j→i=j)→∀y,y<n→∃i,i<n∧f i=y:=by
 intro n
 induction n with
 | zero=>intro f _ _ y hy; omega
 | succ n ih =>
  intro f hf hi y hy
  by_cases hn:f n=n
  ·by_cases hyn:y=n
   ·exact⟨n,by omega,by omega⟩
   ·have hf':∀i,i<n→f i<n:=fun i h=>by
     have:=hf i (by omega);have hne:f i≠n:=fun e=>by have:=hi i n (by omega) (by omega) (by omega); omega
     omega
    obtain⟨i,h1,h2⟩:=ih f hf' (fun i j h h'=>hi i j (by omega) (by omega)) y (by omega);exact⟨i,by omega,h2⟩
  ·have hfn:=hf n (by omega);have key:=ih (fun i=>if f i=n then f n else f i)
    (fun i h=>by
     have:=hf i (by omega);split<;>omega)
    (fun i j h h' e=>by
     split at e<;>split at e
     ·exact hi i j (by omega) (by omega) (by omega)
     ·have:=hi n j (by omega) (by omega) e; omega
     ·have:=hi i n (by omega) (by omega) e; omega
     ·exact hi i j (by omega) (by omega) e)
   by_cases hyn:y=n
   ·obtain⟨i,h1,h2⟩:=key (f n) (by omega)
    by_cases h3:f i=n
    ·exact⟨i,by omega,by omega⟩
    ·rw[if_neg h3]at h2;have:=hi i n (by omega) (by omega) h2;omega
   ·obtain⟨i,h1,h2⟩:=key y (by omega)
    by_cases h3:f i=n
    ·rw[if_pos h3]at h2; exact⟨n,by omega,h2⟩
    ·rw[if_neg h3]at h2; exact⟨i,by omega,h2⟩
def Root (n g:Nat):Prop:=1<n∧g^(n-1)%n=1∧(∀k,0<k→k<n-1→g^k%n≠1)∧∀a,0<a→a<n→∃k,k<n-1∧g^k%n=a
theorem XF {n g:Nat} (l:List Nat) (h1:1<n) (hl:l.foldr (· * ·) 1=n-1) (hp:∀q,q∈l→fI q) (hg:g^(n-1)%n=1) (hq:∀q,q∈l→g^((n-1)/q)%n≠1):Root n g:=by
 have ho:=ED l h1 hl hp hg hq;refine⟨h1,hg,ho,fun a ha han => ?_⟩;have hnz:∀i,i≤n-1→g^i%n≠0:=by
  intro i hi e;have:g^(n-1)%n=0:=by
   have:n-1=i+(n-1-i):=by omega
   rw[this,fM,e,Nat.zero_mul,Nat.zero_mod]
  omega
 have hdis:∀i j,i<n-1→j<n-1→i<j→g^i%n≠g^j%n:=by
  intro i j hi hj hij e;have e1:g^(n-1-i+i)%n=1:=by rw[show n-1-i+i=n-1 by omega]; exact hg
  have e2:g^(n-1-i+j)%n=1:=by rw[fM,←e,←fM]; exact e1
  rw[show n-1-i+j=n-1+(j-i) by omega,fM,hg,Nat.one_mul,Nat.mod_mod]at e2;exact ho (j-i) (by omega) (by omega) e2
 obtain⟨i,hi,he⟩:=Hl (n-1) (fun i=>g^i%n-1)
  (fun i h=>by
   have:=Nat.mod_lt (g^i) (show 0<n by omega);have:=hnz i (by omega);omega)
  (fun i j h h' e=>by
   have a1:=hnz i (by omega);have a2:=hnz j (by omega);have e':g^i%n=g^j%n:=by omega
   rcases Nat.lt_trichotomy i j with q|q|q
   ·exact absurd e' (hdis i j h h' q)
   ·exact q
   ·exact absurd e'.symm (hdis j i h' h q))
  (a-1) (by omega)
 refine⟨i,hi,?_⟩;have:=hnz i (by omega);omega
theorem Root.prm {n g:Nat} (h:Root n g):fI n:=by
 obtain⟨h1,hg,_,hs⟩:=h;refine⟨h1,fun m hm => ?_⟩
 by_cases h2:m=n
 ·exact Or.inr h2
 ·left;have hm0:m≠0:=fun e=>by subst e; have:=Nat.eq_zero_of_zero_dvd hm; omega
  have hle:=Nat.le_of_dvd (by omega) hm;obtain⟨k,hk,e⟩:=hs m (by omega) (by omega);have e1:g^(k+(n-1-k))%n=1:=by rw[show k+(n-1-k)=n-1 by omega]; exact hg
  rw[fM,e]at e1;have hd:m∣(m*(g^(n-1-k)%n))%n:=(Nat.dvd_mod_iff hm).2 (Nat.dvd_mul_right _ _);rw[e1]at hd;exact Nat.dvd_one.1 hd
def Va (n g:Nat) (l:List Nat):Bool :=
 Nat.blt 1 n&&(Nat.beq (l.foldr (· * ·) 1) (n-1)&&(Nat.blt n (2^255)&&(Nat.beq (pm n 256 g (n-1)) 1&&l.all fun q => !(Nat.beq (pm n 256 g ((n-1)/q)) 1))))
theorem bX {n g:Nat} {l:List Nat} (h:Va n g l=true) (hp:∀q,q∈l→fI q):Root n g:=by
 unfold Va at h;simp only[Bool.and_eq_true]at h;obtain⟨h1,h2,h3,h4,h5⟩:=h;have h1:1<n:=by unfold Nat.blt at h1; exact Nat.le_of_ble_eq_true h1
 have h3:n<2^255:=by
  unfold Nat.blt at h3; exact Nat.le_of_ble_eq_true h3
 have h2:=Nat.eq_of_beq_eq_true h2;have h4:=Nat.eq_of_beq_eq_true h4;have hb:∀e,e≤n-1→e<2^256:=fun e he=>by
  rw[Nat.pow_succ]; omega
 rw[PX n 256 g _ (hb _ (Nat.le_refl _))]at h4;refine XF l h1 h2 hp h4 fun q hq e => ?_
 have:=List.all_eq_true.1 h5 q hq;rw[PX n 256 g _ (hb _ (Nat.div_le_self _ _)),e]at this;exact absurd this (by decide)
end Go.Proofs.YtjjnbgoepbiojaaGreat
namespace Go.Proofs.YtjjnbgoepbiojaaGreat.Ex
open Go.Proofs.Tryz
def gK:Nat→Nat→Nat
 | _,0=>1
 | 0,_+1=>0
 | n+1,k+1=>gK n k+gK n (k+1)
theorem qZ:∀(n k:Nat),n<k→gK n k=0
 | 0,k+1,_=>rfl
 | n+1,k+1,h=>by show gK n k+gK n (k+1)=0; rw[qZ n k (by omega),qZ n (k+1) (by omega)]
 | _,0,h=>by omega
theorem BI:∀n,gK n n=1
 | 0=>rfl
 | n+1=>by show gK n n+gK n (n+1)=1; rw[BI n,qZ n (n+1) (by omega)]
theorem qY:∀(n k:Nat),(k+1)*gK (n+1) (k+1)=(n+1)*gK n k
 | 0,0=>rfl
 | 0,k+1=>by show (k+2)*(0+0)=1*0; omega
 | n+1,0=>by
  have:=qY n 0;show 1*(gK (n+1) 0+gK (n+1) 1)=(n+2)*gK (n+1) 0;have h0:gK (n+1) 0=1:=rfl;have h1:gK n 0=1:=by cases n<;>rfl
  rw[h0];rw[h1]at this;have h2:gK (n+1) 1=n+1:=by simpa using this
  omega
 | n+1,k+1=>by
  have h1:=qY n k;have h2:=qY n (k+1);show (k+2)*(gK (n+1) (k+1)+gK (n+1) (k+2))=(n+2)*gK (n+1) (k+1);have h3:(k+2)*gK (n+1) (k+2)=(n+1)*gK n (k+1):=h2;have h4:gK (n+1) (k+1)=gK n k+gK n (k+1):=rfl;rw[Nat.mul_add,h3];have h5:(n+2)*gK (n+1) (k+1)=(n+1)*gK (n+1) (k+1)+gK (n+1) (k+1):=by rw[show n+2=(n+1)+1 from rfl,Nat.add_mul (n+1) 1,Nat.one_mul]
  have h6:(n+1)*gK (n+1) (k+1)=(n+1)*gK n k+(n+1)*gK n (k+1):=by rw[h4,Nat.mul_add]
  have h7:(k+2)*gK (n+1) (k+1)=(k+1)*gK (n+1) (k+1)+gK (n+1) (k+1):=by rw[show k+2=(k+1)+1 from rfl,Nat.add_mul (k+1) 1,Nat.one_mul]
  omega
theorem LS {q:Nat} (hq:fI q) {k:Nat} (h0:0<k) (hk:k<q):∃m,gK q k=q*m:=by
 obtain⟨j,rfl⟩:∃j,k=j+1:=⟨k-1,by omega⟩
 obtain⟨n,rfl⟩:∃n,q=n+1:=⟨q-1,by omega⟩
 have h:=qY n j;have hd:(n+1)∣(j+1)*gK (n+1) (j+1):=⟨gK n j,h⟩;have hc:Nat.Coprime (n+1) (j+1):=by
  rcases hq.2 (Nat.gcd (n+1) (j+1)) (Nat.gcd_dvd_left _ _)with e|e
  ·exact e
  ·have:=Nat.le_of_dvd h0 (Nat.gcd_dvd_right (n+1) (j+1));omega
 obtain⟨m,hm⟩:=hc.dvd_of_dvd_mul_left hd;exact⟨m,hm⟩
section
variable {R:Type} (K:CR R)
def bT (x:R):Nat→R
 | 0=>K.one
 | n+1=>K.mul (bT x n) x
theorem jY (x:R) (m:Nat):∀n,bT K x (m+n)=K.mul (bT K x m) (bT K x n)
 | 0=>(K.mul_one _).symm
 | n+1=>by show K.mul (bT K x (m+n)) x=K.mul _ (K.mul _ _); rw[jY x m n,K.mul_assoc]
theorem nS (x y:R):∀n,bT K (K.mul x y) n=K.mul (bT K x n) (bT K y n)
 | 0=>(K.one_mul _).symm
 | n+1=>by
  show K.mul (bT K (K.mul x y) n) (K.mul x y)=K.mul (K.mul _ _) (K.mul _ _);rw[nS x y n];exact mD K (LP K [bT K x n,bT K y n,x,y]) (Z0*Z1*(Z2*Z3)) (Z0*Z2*(Z1*Z3)) (by decide)
theorem fV (x:R) (m:Nat):∀n,bT K x (m*n)=bT K (bT K x m) n
 | 0=>rfl
 | n+1=>by rw[Nat.mul_add,Nat.mul_one,jY,fV x m n]; rfl
theorem hZ:∀n,bT K K.one n=K.one
 | 0=>rfl
 | n+1=>by show K.mul (bT K K.one n) K.one=_; rw[hZ n,K.mul_one]
theorem PL (n:Nat):bT K K.zero (n+1)=K.zero:=K.mul_zero _
def cD (f:Nat→R):Nat→R
 | 0=>K.zero
 | n+1=>K.add (cD f n) (f n)
theorem iE (f:Nat→R):∀n,cD K f (n+1)=K.add (f 0) (cD K (fun k=>f (k+1)) n)
 | 0=>by show K.add K.zero (f 0)=K.add (f 0) K.zero; rw[K.add_comm]
 | n+1=>by
  show K.add (cD K f (n+1)) (f (n+1))=K.add (f 0) (K.add _ _);rw[iE f n,K.add_assoc]
theorem rN (f g:Nat→R):∀n,cD K (fun k=>K.add (f k) (g k)) n=K.add (cD K f n) (cD K g n)
 | 0=>(K.add_zero _).symm
 | n+1=>by
  show K.add (cD K (fun k=>K.add (f k) (g k)) n) (K.add (f n) (g n))=K.add (K.add _ _) (K.add _ _);rw[rN f g n];exact mD K (LP K [cD K f n,cD K g n,f n,g n]) (Z0+Z1+(Z2+Z3)) (Z0+Z2+(Z1+Z3)) (by decide)
theorem gM (f:Nat→R) (c:R):∀n,K.mul (cD K f n) c=cD K (fun k=>K.mul (f k) c) n
 | 0=>K.zero_mul _
 | n+1=>by show K.mul (K.add _ _) c=K.add _ _; rw[K.add_mul,gM f c n]
theorem bY {f g:Nat→R}:∀n,(∀k,k<n→f k=g k)→cD K f n=cD K g n
 | 0,_=>rfl
 | n+1,h=>by show K.add _ _=K.add _ _; rw[bY n (fun k hk=>h k (by omega)),h n (by omega)]
theorem mB {f:Nat→R}:∀n,(∀k,k<n→f k=K.zero)→cD K f n=K.zero
 | 0,_=>rfl
 | n+1,h=>by show K.add _ _=_; rw[mB n (fun k hk=>h k (by omega)),h n (by omega),K.add_zero]
theorem sL (x c:R):∀n,K.mul (nt K x n) c=nt K (K.mul x c) n
 | 0=>K.zero_mul _
 | n+1=>by show K.mul (K.add _ _) c=K.add _ _; rw[K.add_mul,sL x c n]
theorem Dm (x:R) (m:Nat):∀n,nt K x (m*n)=nt K (nt K x m) n
 | 0=>rfl
 | n+1=>by rw[Nat.mul_add,Nat.mul_one,lP,Dm x m n]; rfl
theorem Em (x y:R):∀n,bT K (K.add x y) n=cD K (fun k=>nt K (K.mul (bT K x k) (bT K y (n-k))) (gK n k)) (n+1)
 | 0=>by show K.one=K.add K.zero (K.add K.zero (K.mul K.one K.one)); rw[K.zero_add,K.zero_add,K.one_mul]
 | n+1=>by
  show K.mul (bT K (K.add x y) n) (K.add x y)=_;rw[Em x y n,K.mul_add,gM,gM,iE K _ (n+1)];have e1:cD K (fun k=>K.mul (nt K (K.mul (bT K x k) (bT K y (n-k))) (gK n k)) x) (n+1)=cD K (fun k=>nt K (K.mul (bT K x (k+1)) (bT K y (n-k))) (gK n k)) (n+1) :=
   bY K _ fun k hk=>by
    rw[sL];congr 1;exact mD K (LP K [bT K x k,bT K y (n-k),x]) (Z0*Z1*Z2) (Z0*Z2*Z1) (by decide)
  have e2:cD K (fun k=>K.mul (nt K (K.mul (bT K x k) (bT K y (n-k))) (gK n k)) y) (n+1)=K.add (nt K (K.mul (bT K x 0) (bT K y (n+1-0))) (gK (n+1) 0)) (cD K (fun k=>nt K (K.mul (bT K x (k+1)) (bT K y (n-k))) (gK n (k+1))) (n+1)):=by
   have h1:cD K (fun k=>K.mul (nt K (K.mul (bT K x k) (bT K y (n-k))) (gK n k)) y) (n+1)=cD K (fun k=>nt K (K.mul (bT K x k) (bT K y (n+1-k))) (gK n k)) (n+1) :=
    bY K _ fun k hk=>by
     rw[sL,K.mul_assoc,show n+1-k=(n-k)+1 by omega];rfl
   rw[h1,iE];have h2:cD K (fun k=>nt K (K.mul (bT K x (k+1)) (bT K y (n-k))) (gK n (k+1))) (n+1)=cD K (fun k=>nt K (K.mul (bT K x (k+1)) (bT K y (n+1-(k+1)))) (gK n (k+1))) n:=by
    show K.add _ (nt K _ (gK n (n+1)))=_;rw[qZ n (n+1) (by omega)];show K.add _ K.zero=_;rw[K.add_zero];exact bY K _ fun k hk=>by rw[show n+1-(k+1)=n-k by omega]
   rw[h2];congr 1;cases n<;>rfl
  rw[e1,e2];have e3:cD K (fun k=>nt K (K.mul (bT K x (k+1)) (bT K y (n+1-(k+1)))) (gK (n+1) (k+1))) (n+1)=K.add (cD K (fun k=>nt K (K.mul (bT K x (k+1)) (bT K y (n-k))) (gK n k)) (n+1)) (cD K (fun k=>nt K (K.mul (bT K x (k+1)) (bT K y (n-k))) (gK n (k+1))) (n+1)):=by
   rw[←rN];exact bY K _ fun k hk=>by
    rw[show n+1-(k+1)=n-k by omega];exact lP K _ _ _
  rw[e3,←K.add_assoc,←K.add_assoc,K.add_comm (cD K _ _) (nt K _ _)]
theorem fresh {q:Nat} (hq:fI q) (hc:∀x,nt K x q=K.zero) (x y:R):bT K (K.add x y) q=K.add (bT K x q) (bT K y q):=by
 rw[Em];obtain⟨n,rfl⟩:∃n,q=n+1:=⟨q-1,by have:=hq.1; omega⟩
 show K.add (cD K _ (n+1)) _=_;rw[iE];have h0:cD K (fun k=>nt K (K.mul (bT K x (k+1)) (bT K y (n+1-(k+1)))) (gK (n+1) (k+1))) n=K.zero:=mB K _ fun k hk=>by
  obtain⟨m,hm⟩:=LS hq (k:=k+1) (by omega) (by omega);rw[hm,Dm,hc];clear hm
  induction m with
  | zero=>rfl
  | succ m ih=>show K.add (nt K K.zero m) K.zero=_; rw[ih,K.add_zero]
 rw[h0,K.add_zero];show K.add (nt K (K.mul (bT K x 0) (bT K y (n+1-0))) (gK (n+1) 0)) (nt K (K.mul (bT K x (n+1)) (bT K y (n+1-(n+1)))) (gK (n+1) (n+1)))=_;rw[BI];have h1:gK (n+1) 0=1:=rfl;rw[h1,Nat.sub_self,Nat.sub_zero];show K.add (K.add K.zero (K.mul K.one (bT K y (n+1)))) (K.add K.zero (K.mul (bT K x (n+1)) K.one))=_;rw[K.zero_add,K.zero_add,K.one_mul,K.mul_one,K.add_comm]
end
section
variable {R:Type} (K:CR R)
def oY (f:Nat→R) (n:Nat) (x:R):R:=cD K (fun i=>K.mul (f i) (bT K x i)) n
theorem mF {f g:Nat→R} {n:Nat} (x:R) (h:∀i,i<n→f i=g i):oY K f n x=oY K g n x:=bY K n fun i hi=>by rw[h i hi]
theorem DS (x:R):∀n,bT K (K.mul x x) n=bT K x (2*n)
 | 0=>rfl
 | n+1=>by
  show K.mul (bT K (K.mul x x) n) (K.mul x x)=K.mul (K.mul (bT K x (2*n)) x) x;rw[DS x n,K.mul_assoc]
theorem sD (f:Nat→R) (x:R):∀n,oY K f (2*n) x=K.add (oY K (fun i=>f (2*i)) n (K.mul x x)) (K.mul (oY K (fun i=>f (2*i+1)) n (K.mul x x)) x)
 | 0=>by
  show K.zero=K.add K.zero (K.mul K.zero x);rw[K.zero_mul,K.add_zero]
 | n+1=>by
  show K.add (K.add (oY K f (2*n) x) (K.mul (f (2*n)) (bT K x (2*n)))) (K.mul (f (2*n+1)) (K.mul (bT K x (2*n)) x))=K.add (K.add _ (K.mul (f (2*n)) (bT K (K.mul x x) n))) (K.mul (K.add _ (K.mul (f (2*n+1)) (bT K (K.mul x x) n))) x);rw[sD f x n,DS];exact mD K (LP K [oY K (fun i=>f (2*i)) n (K.mul x x),oY K (fun i=>f (2*i+1)) n (K.mul x x),x,f (2*n),f (2*n+1),bT K x (2*n)])
   (Z0+Z1*Z2+Z3*Z5+Z4*(Z5*Z2))
   (Z0+Z3*Z5+(Z1+Z4*Z5)*Z2) (by decide)
def Ed (F:Nat→R):Nat→Nat→R→R
 | 0,b,_=>F b
 | s+1,b,x=>K.add (Ed F s b (K.mul x x)) (K.mul (Ed F s (b+2^s) (K.mul x x)) x)
theorem xR {rv:Nat→Nat→Nat} {L:Nat} (h0:rv 0 0=0) (h1:∀s i,s<L→i<2^s→rv (s+1) i=2*rv s i∧rv (s+1) (2^s+i)=2*rv s i+1) :
  ∀(s:Nat) (F g:Nat→R) (b:Nat) (x:R),s≤L→(∀i,i<2^s→F (b+i)=g (rv s i))→Ed K F s b x=oY K g (2^s) x
 | 0,F,g,b,x,_,h=>by
  have e:=h 0 (by decide);rw[h0]at e;show F b=K.add K.zero (K.mul (g 0) K.one);rw[K.zero_add,K.mul_one];exact e
 | s+1,F,g,b,x,hs,h=>by
  have e2:2^(s+1)=2*2^s:=by rw[Nat.pow_succ,Nat.mul_comm]
  show K.add (Ed K F s b (K.mul x x)) (K.mul (Ed K F s (b+2^s) (K.mul x x)) x)=_;rw[xR h0 h1 s F (fun i=>g (2*i)) b (K.mul x x) (by omega) (fun i hi=>by rw[h i (by omega),(h1 s i (by omega) hi).1]),
   xR h0 h1 s F (fun i=>g (2*i+1)) (b+2^s) (K.mul x x) (by omega) (fun i hi=>by rw[Nat.add_assoc,h (2^s+i) (by omega),(h1 s i (by omega) hi).2]),e2,sD]
theorem oM (f:Nat→Nat→R) (n:Nat):∀m,cD K (fun i=>cD K (fun j=>f i j) n) m=cD K (fun j=>cD K (fun i=>f i j) m) n
 | 0=>(mB K n fun _ _=>rfl).symm
 | m+1=>by
  show K.add (cD K (fun i=>cD K (fun j=>f i j) n) m) (cD K (fun j=>f m j) n)=cD K (fun j=>K.add (cD K (fun i=>f i j) m) (f m j)) n;rw[oM f n m,rN]
theorem rL (f:Nat→R) (c:R) (n:Nat):K.mul c (cD K f n)=cD K (fun k=>K.mul c (f k)) n:=by
 rw[K.mul_comm,gM];exact bY K n fun k _=>K.mul_comm _ _
theorem yP {f:Nat→R} {j:Nat}:∀n,j<n→(∀i,i<n→i≠j→f i=K.zero)→cD K f n=f j
 | 0,h,_=>by omega
 | n+1,h,hz=>by
  show K.add (cD K f n) (f n)=f j
  by_cases e:j=n
  ·subst e;rw[mB K j fun i hi=>hz i (by omega) (by omega),K.zero_add]
  ·rw[yP n (by omega) fun i hi hne=>hz i (by omega) hne,hz n (by omega) (fun q=>e q.symm),K.add_zero]
theorem rM (x:R):∀n,cD K (fun _=>x) n=nt K x n
 | 0=>rfl
 | n+1=>by show K.add _ x=K.add _ x; rw[rM x n]
theorem geo (y:R):∀n,K.mul (K.add y (K.neg K.one)) (cD K (bT K y) n)=K.add (bT K y n) (K.neg K.one)
 | 0=>by
  show K.mul _ K.zero=K.add K.one (K.neg K.one);rw[K.mul_zero,K.add_neg]
 | n+1=>by
  show K.mul (K.add y (K.neg K.one)) (K.add (cD K (bT K y) n) (bT K y n))=K.add (K.mul (bT K y n) y) (K.neg K.one);rw[K.mul_add,geo y n];exact mD K (LP K [y,bT K y n]) (Z1-RE.one+(Z0-RE.one)*Z1) (Z1*Z0-RE.one) (by decide)
theorem yQ {a b:R} (h:K.add a (K.neg b)=K.zero):a=b:=by
 have:=congrArg (fun t=>K.add t b) h
 rwa [K.add_assoc,K.neg_add,K.add_zero,K.zero_add]at this
theorem PZ {w:R} {L:Nat} (h1:K.one≠K.neg K.one) (hw:bT K w (2^L)=K.neg K.one):∀(s d:Nat),s≤L+1→0<d→d<2^s→bT K (bT K w (2^(L+1-s))) d≠K.one
 | 0,d,_,h0,h=>by omega
 | s+1,d,hs,h0,h=>fun e=>by
  have e2:2^(s+1)=2*2^s:=by rw[Nat.pow_succ,Nat.mul_comm]
  have nn:K.mul (K.neg K.one) (K.neg K.one)=K.one:=by rw[K.neg_mul,K.one_mul,K.neg_neg]
  rcases Nat.mod_two_eq_zero_or_one d with hd|hd
  ·
   obtain⟨c,rfl⟩:∃c,d=2*c:=⟨d/2,by omega⟩
   refine PZ h1 hw s c (by omega) (by omega) (by omega) ?_;rw[←fV]at e ⊢;rw[show L+1-s=(L+1-(s+1))+1 by omega,Nat.pow_succ,Nat.mul_assoc];exact e
  ·
   obtain⟨c,rfl⟩:∃c,d=2*c+1:=⟨d/2,by omega⟩
   have e3:=congrArg (fun t=>bT K t (2^s)) e;rw[hZ,←fV,←fV,show 2^(L+1-(s+1))*((2*c+1)*2^s)=2^L*(2*c+1) by
    rw[Nat.mul_comm (2*c+1),←Nat.mul_assoc,←Nat.pow_add,show L+1-(s+1)+s=L by omega],fV,hw]at e3
   rw[show bT K (K.neg K.one) (2*c+1)=K.mul (bT K (K.neg K.one) (2*c)) (K.neg K.one)from rfl,←DS,nn,hZ,K.one_mul]at e3;exact h1 e3.symm
theorem Yw {w b:R} {L n:Nat} (hz:∀x y,K.mul x y=K.zero→x=K.zero∨y=K.zero) (h1:K.one≠K.neg K.one) (hn:n=2^L) (hL:0<L→bT K w (2^(L-1))=K.neg K.one) (h0:bT K w n=K.one) (hb:K.mul b w=K.one) {i j:Nat} (hi:i<n) (hj:j<n) :
  cD K (fun k=>K.mul (bT K (bT K w i) k) (bT K (bT K b j) k)) n=if i=j then nt K K.one n else K.zero:=by
 have bw:∀e,K.mul (bT K b e) (bT K w e)=K.one:=fun e=>by rw[←nS,hb,hZ]
 have hb0:bT K b n=K.one:=by
  have:=bw n
  rwa [h0,K.mul_one]at this
 rw[show cD K (fun k=>K.mul (bT K (bT K w i) k) (bT K (bT K b j) k)) n=cD K (bT K (K.mul (bT K w i) (bT K b j))) n from bY K n fun k _=>(nS K _ _ k).symm]
 by_cases e:i=j
 ·rw[if_pos e,e,K.mul_comm,bw,show cD K (bT K K.one) n=cD K (fun _=>K.one) n from bY K n fun k _=>hZ K k,rM]
 ·rw[if_neg e];have hy:bT K (K.mul (bT K w i) (bT K b j)) n=K.one:=by
   rw[nS,←fV,←fV,Nat.mul_comm i,Nat.mul_comm j,fV,fV,h0,hb0,hZ,hZ,K.one_mul]
  have hg:=geo K (K.mul (bT K w i) (bT K b j)) n;rw[hy,K.add_neg]at hg
  rcases hz _ _ hg with q|q
  ·exfalso;have q:=yQ K q;obtain⟨L,rfl⟩:∃m,L=m+1:=⟨L-1,by
    have:L≠0:=fun h=>by subst h; rw[hn]at hi hj; omega
    omega⟩
   have key:∀d,0<d→d<n→bT K w d≠K.one:=fun d d0 dn hd=>by
    have:=PZ K h1 (hL (by omega)) (L+1) d (by omega) d0 (by rw[←hn]; exact dn);rw[show L+1-1+1-(L+1)=0 by omega]at this;refine this ?_;rw[show bT K w (2^0)=w from K.one_mul w];exact hd
   rcases Nat.lt_or_gt_of_ne e with l|l
   ·
    refine key (j-i) (by omega) (by omega) ?_;have:K.mul (K.mul (bT K w i) (bT K b j)) (bT K w (j-i))=K.one:=by
     rw[K.mul_assoc,K.mul_comm (bT K b j),←K.mul_assoc,←jY,show i+(j-i)=j by omega,K.mul_comm,bw]
    rwa [q,K.one_mul]at this
   ·refine key (i-j) (by omega) (by omega) ?_;rw[show i=(i-j)+j by omega,jY,K.mul_assoc,K.mul_comm (bT K w j),bw,K.mul_one]at q;exact q
  ·exact q
theorem aAj {w b s:R} {L n:Nat} (hz:∀x y,K.mul x y=K.zero→x=K.zero∨y=K.zero) (h1:K.one≠K.neg K.one) (hn:n=2^L) (hL:0<L→bT K w (2^(L-1))=K.neg K.one) (h0:bT K w n=K.one) (hb:K.mul b w=K.one) (hs:K.mul s (nt K K.one n)=K.one) (f:Nat→R) {j:Nat} (hj:j<n) :
  K.mul (oY K (fun i=>oY K f n (bT K w i)) n (bT K b j)) s=f j:=by
 have e:oY K (fun i=>oY K f n (bT K w i)) n (bT K b j)=K.mul (f j) (nt K K.one n):=by
  have e1:oY K (fun i=>oY K f n (bT K w i)) n (bT K b j)=cD K (fun i=>cD K (fun m=>K.mul (f m) (K.mul (bT K (bT K w m) i) (bT K (bT K b j) i))) n) n:=bY K n fun i _=>by
   show K.mul (cD K _ n) (bT K (bT K b j) i)=_;rw[gM];refine bY K n fun m _ => ?_
   show K.mul (K.mul (f m) (bT K (bT K w i) m)) _=_;rw[K.mul_assoc,←fV,←fV K w m,Nat.mul_comm i m]
  rw[e1,oM];have e2:∀m,m<n→cD K (fun i=>K.mul (f m) (K.mul (bT K (bT K w m) i) (bT K (bT K b j) i))) n=K.mul (f m) (if m=j then nt K K.one n else K.zero):=fun m hm=>by
   rw[←rL,Yw K hz h1 hn hL h0 hb hm hj]
  rw[bY K n e2,yP K n hj fun i _ hne=>by rw[if_neg hne,K.mul_zero],if_pos rfl]
 rw[e,K.mul_assoc,K.mul_comm _ s,hs,K.mul_one]
end
end Go.Proofs.YtjjnbgoepbiojaaGreat.Ex
namespace Go.Proofs.YtjjnbgoepbiojaaGreat
open Go.Proofs.Tryz
def aD (a b c d:Nat):Nat:=a+18446744073709551616*(b+18446744073709551616*(c+18446744073709551616*d))
def cK (a b c d:Nat):Prop:=a<18446744073709551616∧b<18446744073709551616∧c<18446744073709551616∧d<18446744073709551616
theorem dT {a b c d:Nat} (h:cK a b c d):aD a b c d<115792089237316195423570985008687907853269984665640564039457584007913129639936:=by
 obtain⟨h0,h1,h2,h3⟩:=h; unfold aD; omega
theorem yJ {a0 a1 a2 a3 b0 b1 b2 b3:Nat} (ha:cK a0 a1 a2 a3) (hb:cK b0 b1 b2 b3) (h:aD a0 a1 a2 a3=aD b0 b1 b2 b3):a0=b0∧a1=b1∧a2=b2∧a3=b3:=by
 obtain⟨p0,p1,p2,p3⟩:=ha; obtain⟨q0,q1,q2,q3⟩:=hb; unfold aD at h; omega
def FN (x y c:Nat):Nat:=(x+y+c)%18446744073709551616
def FO (x y c:Nat):Nat:=(x+y+c)/18446744073709551616
theorem yB {x y c:Nat} (hx:x<18446744073709551616) (hy:y<18446744073709551616) (hc:c≤1):FO x y c≤1:=by unfold FO; omega
theorem yA (x y c:Nat):FN x y c<18446744073709551616:=by unfold FN; omega
theorem UJ (x y c:Nat):FN x y c+18446744073709551616*FO x y c=x+y+c:=by unfold FN FO; omega
def CS (x y c:Nat):Nat:=(x+18446744073709551616-y-c)%18446744073709551616
def CT (x y c:Nat):Nat:=if x<y+c then 1 else 0
theorem GM (x y c:Nat):CT x y c≤1:=by unfold CT; split<;>omega
theorem GL (x y c:Nat):CS x y c<18446744073709551616:=by unfold CS; omega
theorem Da {x y c:Nat} (hx:x<18446744073709551616) (hy:y<18446744073709551616) (hc:c≤1):CS x y c+y+c=x+18446744073709551616*CT x y c:=by
 unfold CS CT; split<;>omega
def QM (x y:Nat):Nat:=x*y/18446744073709551616
def QL (x y:Nat):Nat:=x*y%18446744073709551616
theorem Qk (x y:Nat):QL x y+18446744073709551616*QM x y=x*y:=by unfold QL QM; omega
theorem YS (x y:Nat):QL x y<18446744073709551616:=by unfold QL; omega
theorem EG {x y p q:Nat} (hx:x≤p) (hy:y≤q):x*y≤p*q:=Nat.mul_le_mul hx hy
theorem YT {x y:Nat} (hx:x<18446744073709551616) (hy:y<18446744073709551616):QM x y≤18446744073709551614:=by
 have:=EG (show x≤18446744073709551615 by omega) (show y≤18446744073709551615 by omega);unfold QM; omega
structure FC where
 m0:Nat
 m1:Nat
 m2:Nat
 m3:Nat
 inv:Nat
 s0:Nat
 s1:Nat
 s2:Nat
 s3:Nat
 Ri:Nat
def FC.M (F:FC):Nat:=aD F.m0 F.m1 F.m2 F.m3
def FC.R (_:FC):Nat:=115792089237316195423570985008687907853269984665640564039457584007913129639936
structure FC.Ok (F:FC):Prop where
 okm:cK F.m0 F.m1 F.m2 F.m3
 oks:cK F.s0 F.s1 F.s2 F.s3
 inv:F.inv<18446744073709551616
 turn:(F.inv*F.m0+1)%18446744073709551616=0
 two:2*F.M<115792089237316195423570985008687907853269984665640564039457584007913129639936
 ri:F.R*F.Ri%F.M=1
 sq:aD F.s0 F.s1 F.s2 F.s3=F.R*F.R%F.M
 gt:2<F.M
 odd:F.M%2=1
def FP:FC:=⟨0x3c208c16d87cfd47,0x97816a916871ca8d,0xb85045b68181585d,0x30644e72e131a029,0x87d20782e4866389,0xf32cfc5b538afa89,0xb5e71911d44501fb,0x47ab1eff0a417ff6,0x06d89f71cab8351f,20988524275117001072002809824448087578619730785600314334253784976379291040311⟩
def FR:FC:=⟨0x43e1f593f0000001,0x2833e84879b97091,0xb85045b68181585d,0x30644e72e131a029,0xc2e1f593efffffff,0x1bb8e645ae216da7,0x53fe3ab1e35c59e3,0x8c49833d53bb8085,0x0216d0b17f4e44a5,9915499612839321149637521777990102151350674507940716049588462388200839649614⟩
theorem aAv:FP.M=21888242871839275222246405745257275088696311157297823662689037894645226208583:=by kernel_rfl
theorem aAu:FR.M=21888242871839275222246405745257275088548364400416034343698204186575808495617:=by kernel_rfl
theorem Wu:FP.Ok:=⟨by unfold cK; decide,by unfold cK; decide,by decide,by kernel_rfl,by decide,by kernel_rfl,by kernel_rfl,by decide,by kernel_rfl⟩
theorem Wt:FR.Ok:=⟨by unfold cK; decide,by unfold cK; decide,by decide,by kernel_rfl,by decide,by kernel_rfl,by kernel_rfl,by decide,by kernel_rfl⟩
theorem zH {t0 t1 t2 t3 x y0 y1 y2 y3 m0 m1 m2 m3 o0 l0 cl c0 o1 l1 c1 n0 o2 l2 c2 n1 o3 l3 c3 n2:Nat}
  (e0:l0+18446744073709551616*o0=x*y0+t0) (f0:0+18446744073709551616*c0=cl*m0+l0)
  (e1:l1+18446744073709551616*o1=x*y1+t1+o0) (f1:n0+18446744073709551616*c1=cl*m1+l1+c0)
  (e2:l2+18446744073709551616*o2=x*y2+t2+o1) (f2:n1+18446744073709551616*c2=cl*m2+l2+c1)
  (e3:l3+18446744073709551616*o3=x*y3+t3+o2) (f3:n2+18446744073709551616*c3=cl*m3+l3+c2) :
  18446744073709551616*aD n0 n1 n2 (o3+c3)=aD t0 t1 t2 t3+x*aD y0 y1 y2 y3+cl*aD m0 m1 m2 m3:=by
 unfold aD;have ex:x*(y0+18446744073709551616*(y1+18446744073709551616*(y2+18446744073709551616*y3)))=x*y0+18446744073709551616*(x*y1+18446744073709551616*(x*y2+18446744073709551616*(x*y3))):=by
  simp only[Nat.mul_add,Nat.mul_left_comm x 18446744073709551616]
 have ec:cl*(m0+18446744073709551616*(m1+18446744073709551616*(m2+18446744073709551616*m3)))=cl*m0+18446744073709551616*(cl*m1+18446744073709551616*(cl*m2+18446744073709551616*(cl*m3))):=by
  simp only[Nat.mul_add,Nat.mul_left_comm cl 18446744073709551616]
 rw[ex,ec];generalize x*y0=p0 at *;generalize x*y1=p1 at *;generalize x*y2=p2 at *;generalize x*y3=p3 at *;generalize cl*m0=q0 at *;generalize cl*m1=q1 at *;generalize cl*m2=q2 at *;generalize cl*m3=q3 at *;omega
theorem FG {l inv m:Nat} (h:(inv*m+1)%18446744073709551616=0):(l*inv%18446744073709551616*m+l)%18446744073709551616=0:=by
 have e:l*inv*m+l=l*(inv*m+1):=by rw[Nat.mul_add,Nat.mul_one,Nat.mul_assoc]
 rw[Nat.add_mod,Nat.mul_mod,Nat.mod_mod,←Nat.mul_mod,←Nat.add_mod,e,Nat.mul_mod,h,Nat.mul_zero,Nat.zero_mod]
theorem zG {N T x Y cl M:Nat} (e:18446744073709551616*N=T+x*Y+cl*M) (ht:T<2*M) (hx:x<18446744073709551616) (hy:Y<M) (hc:cl<18446744073709551616):N<2*M:=by
 have h1:=EG (show x≤18446744073709551615 by omega) (show Y≤M by omega);have h2:=Nat.mul_le_mul_right M (show cl≤18446744073709551615 by omega);generalize x*Y=p at *;generalize cl*M=q at *;omega
theorem MX {n0 n1 n2 s B:Nat} (h:aD n0 n1 n2 s<115792089237316195423570985008687907853269984665640564039457584007913129639936):s<18446744073709551616:=by
 unfold aD at h; omega
def FX (M:Nat) (X:Nat→Nat) (Y k T:Nat):Prop:=T<2*M∧∃q,T*18446744073709551616^k=(X 0*(if 0<k then 1 else 0)+18446744073709551616*(X 1*(if 1<k then 1 else 0)+18446744073709551616*(X 2*(if 2<k then 1 else 0)+18446744073709551616*(X 3*(if 3<k then 1 else 0)))))*Y+q*M
theorem LA {M Y:Nat} (X:Nat→Nat) (hM:0<M):FX M X Y 0 0:=⟨by omega,0,by simp⟩
theorem LB {M Y T N cl:Nat} {X:Nat→Nat} {k:Nat} (hk:k<4) (g:FX M X Y k T) (hx:X k<18446744073709551616) (hy:Y<M) (hc:cl<18446744073709551616) (e:18446744073709551616*N=T+X k*Y+cl*M):FX M X Y (k+1) N:=by
 obtain⟨ht,q,h⟩:=g;refine⟨zG e ht hx hy hc,q+cl*18446744073709551616^k,?_⟩;have e':N*18446744073709551616^(k+1)=T*18446744073709551616^k+X k*Y*18446744073709551616^k+cl*M*18446744073709551616^k:=by
  rw[Nat.pow_succ',←Nat.mul_assoc,Nat.mul_comm N,e,Nat.add_mul,Nat.add_mul]
 rw[e',h];have:k=0∨k=1∨k=2∨k=3:=by omega
 have hxa:∀b:Nat,X k*Y*b=b*(X k*Y):=fun b=>Nat.mul_comm _ _
 have hca:∀b:Nat,cl*M*b=b*(cl*M):=fun b=>Nat.mul_comm _ _
 have hqa:∀b:Nat,(q+cl*b)*M=q*M+b*(cl*M):=fun b=>by rw[Nat.add_mul,Nat.mul_right_comm,Nat.mul_comm (cl*M)]
 rw[hxa,hca,hqa]
 rcases this with rfl|rfl|rfl|rfl<;>simp[Nat.add_mul,Nat.mul_assoc]<;>omega
theorem RQ {F:FC} (hF:F.Ok) {Y T x0 x1 x2 x3:Nat} {X:Nat→Nat} (h0:X 0=x0) (h1:X 1=x1) (h2:X 2=x2) (h3:X 3=x3) (g:FX F.M X Y 4 T):T<2*F.M∧T%F.M=aD x0 x1 x2 x3*Y*F.Ri%F.M:=by
 obtain⟨ht,q,h⟩:=g;refine⟨ht,?_⟩;simp only[h0,h1,h2,h3,show (0:Nat)<4 by omega,show (1:Nat)<4 by omega,show (2:Nat)<4 by omega,show (3:Nat)<4 by omega,if_true,Nat.mul_one]at h;have hr:=hF.ri;have hR:F.R=18446744073709551616^4:=by simp[FC.R]
 have e:T*(F.R*F.Ri)=aD x0 x1 x2 x3*Y*F.Ri+F.M*(q*F.Ri):=by
  rw[←Nat.mul_assoc,hR,h,Nat.add_mul,show q*F.M*F.Ri=F.M*(q*F.Ri) by rw[Nat.mul_comm q,Nat.mul_assoc]];rfl
 have e2:T*(F.R*F.Ri)%F.M=T%F.M:=by rw[Nat.mul_mod,hr,Nat.mul_one,Nat.mod_mod]
 rw[←e2,e,Nat.add_mul_mod_self_left]
theorem QE {t M:Nat} (h:t<2*M):t%M=if t<M then t else t-M:=by
 split
 ·exact Nat.mod_eq_of_lt ‹_›
 ·rw[Nat.mod_eq_sub_mod (by omega),Nat.mod_eq_of_lt (by omega)]
def fw (x i:Nat):Nat:=x/18446744073709551616^i%18446744073709551616
theorem eI (x:Nat):cK (fw x 0) (fw x 1) (fw x 2) (fw x 3):=⟨Nat.mod_lt _ (by omega),Nat.mod_lt _ (by omega),Nat.mod_lt _ (by omega),Nat.mod_lt _ (by omega)⟩
theorem fW {x:Nat} (h:x<115792089237316195423570985008687907853269984665640564039457584007913129639936):aD (fw x 0) (fw x 1) (fw x 2) (fw x 3)=x:=by
 unfold fw aD;have e1:(18446744073709551616:Nat)^1=18446744073709551616:=by simp
 have e2:(18446744073709551616:Nat)^2=18446744073709551616*18446744073709551616:=by simp
 have e3:(18446744073709551616:Nat)^3=18446744073709551616*18446744073709551616*18446744073709551616:=by simp
 rw[Nat.pow_zero,Nat.div_one,e1,e2,e3,←Nat.div_div_eq_div_mul,←Nat.div_div_eq_div_mul,←Nat.div_div_eq_div_mul];omega
theorem lS {s0 s1 s2 s3 x:Nat} (hs:cK s0 s1 s2 s3) (hx:x<115792089237316195423570985008687907853269984665640564039457584007913129639936) (h:aD s0 s1 s2 s3=x):s0=fw x 0∧s1=fw x 1∧s2=fw x 2∧s3=fw x 3 :=
 yJ hs (eI x) (h.trans (fW hx).symm)
theorem dP:0<FP.M:=by decide
end Go.Proofs.YtjjnbgoepbiojaaGreat
namespace Go.Proofs.YtjjnbgoepbiojaaGreat.Ex
open Go.Proofs.Tryz
open Go.RowKit
abbrev Fq:=Fin FP.M
inductive At|f (x:Fq)|q (x:Nat)|c (v:Value)
def w4 (x:Nat):List Value:=[.int .u64 (fw x 0:Nat),.int .u64 (fw x 1:Nat),.int .u64 (fw x 2:Nat),.int .u64 (fw x 3:Nat)]
def At.cells:At→List Value
 | .f x=>w4 x.1
 | .q x=>w4 x
 | .c v=>[v]
def At.sz:At→Nat
 | .f _=>4
 | .q _=>4
 | .c _=>1
theorem At.len (a:At):a.cells.length=a.sz:=by cases a<;>rfl
def aB:List At→List Value
 | []=>[]
 | a::r=>a.cells++aB r
def cL:List At→Nat
 | []=>0
 | a::r=>a.sz+cL r
theorem aQ:∀l:List At,(aB l).length=cL l
 | []=>rfl
 | a::r=>by simp[aB,cL,At.len,aQ r]
def cellAt:List At→Nat→Option Value
 | [],_=>none
 | a::r,o=>bif Nat.blt o a.sz then a.cells[o]? else cellAt r (o-a.sz)
theorem gP:∀{l:List At} {o:Nat} {v:Value},cellAt l o=some v→(aB l)[o]?=some v
 | [],o,v,h=>by cases h
 | a::r,o,v,h=>by
  unfold cellAt at h;show (a.cells++aB r)[o]?=_;cases hb:Nat.blt o a.sz<;>rw[hb]at h
  ·have hle:a.sz≤o:=by
    rcases Nat.lt_or_ge o a.sz with q|q
    ·have:Nat.blt o a.sz=true:=by simpa using q
     rw[hb]at this; cases this
    ·exact q
   rw[List.getElem?_append_right (by rw[At.len]; exact hle),At.len];exact gP h
  ·have hlt:o<a.sz:=by simpa using hb
   rw[List.getElem?_append_left (by rw[At.len]; exact hlt)];exact h
theorem aN:∀l m:List At,aB (l++m)=aB l++aB m
 | [],m=>rfl
 | a::r,m=>by simp[aB,aN r m]
theorem EZ (l m:List At):cL (l++m)=cL l+cL m:=by rw[←aQ,aN,List.length_append,aQ,aQ]
def tk:List At→Nat→Option (List At)
 | [],n=>bif Nat.beq n 0 then some []else none
 | a::r,n=>bif Nat.beq n 0 then some []else bif Nat.ble a.sz n then (tk r (n-a.sz)).map (a :: ·)else none
def dp:List At→Nat→Option (List At)
 | [],n=>bif Nat.beq n 0 then some []else none
 | a::r,n=>bif Nat.beq n 0 then some (a::r)else bif Nat.ble a.sz n then dp r (n-a.sz)else none
theorem nM:∀(l:List At) (n:Nat) (t:List At),tk l n=some t→∃r,l=t++r∧cL t=n
 | [],n,t,h=>by
  unfold tk at h;cases hn:Nat.beq n 0<;>rw[hn]at h
  ·cases h
  ·cases h; exact⟨[],rfl,(Nat.eq_of_beq_eq_true hn).symm⟩
 | a::r,n,t,h=>by
  unfold tk at h;cases hn:Nat.beq n 0<;>rw[hn]at h
  ·cases hs:Nat.ble a.sz n<;>rw[hs]at h
   ·cases h
   ·cases hr:tk r (n-a.sz)with
    | none=>rw[hr]at h; cases h
    | some t' =>
     rw[hr]at h; cases h;obtain⟨r',e,s⟩:=nM r _ _ hr;refine⟨r',by rw[e]; rfl,?_⟩;have:=Nat.le_of_ble_eq_true hs;show a.sz+cL t'=n;omega
  ·cases h; exact⟨a::r,rfl,(Nat.eq_of_beq_eq_true hn).symm⟩
theorem oC:∀(l:List At) (n:Nat) (r:List At),dp l n=some r→∃t,l=t++r∧cL t=n
 | [],n,r,h=>by
  unfold dp at h;cases hn:Nat.beq n 0<;>rw[hn]at h
  ·cases h
  ·cases h; exact⟨[],rfl,(Nat.eq_of_beq_eq_true hn).symm⟩
 | a::l,n,r,h=>by
  unfold dp at h;cases hn:Nat.beq n 0<;>rw[hn]at h
  ·cases hs:Nat.ble a.sz n<;>rw[hs]at h
   ·cases h
   ·obtain⟨t,e,s⟩:=oC l _ _ h;refine⟨a::t,by rw[e]; rfl,?_⟩;have:=Nat.le_of_ble_eq_true hs;show a.sz+cL t=n;omega
  ·cases h; exact⟨[],rfl,(Nat.eq_of_beq_eq_true hn).symm⟩
def qP (l:List At) (o n:Nat):Option (List At):=match dp l o with|some r=>tk r n|none=>none
theorem jK {l:List At} {o n:Nat} {t:List At} (h:qP l o n=some t):∃p s,l=p++(t++s)∧cL p=o∧cL t=n:=by
 unfold qP at h;cases hd:dp l o with
 | none=>rw[hd]at h; cases h
 | some r =>
  rw[hd]at h;obtain⟨p,e,hp⟩:=oC _ _ _ hd;obtain⟨s,e2,ht⟩:=nM _ _ _ h;exact⟨p,s,by rw[e,e2],hp,ht⟩
def put (l:List At) (o:Nat) (v:List At):Option (List At) :=
 match tk l o,dp l o with
 | some a,some b=>match dp b (cL v)with|some s=>some (a++(v++s))|none=>none
 | _,_=>none
theorem tK:∀{a b:List At} {r s:List At},a++r=b++s→cL a=cL b→aB a=aB b∧aB r=aB s:=by
 intro a b r s h hs;have:=congrArg aB h;rw[aN,aN]at this;exact List.append_inj this (by rw[aQ,aQ,hs])
theorem zR {l:List At} {o:Nat} {v l':List At} (h:put l o v=some l'):∃a m s,l=a++(m++s)∧aB l'=aB a++(aB v++aB s)∧cL a=o∧cL m=cL v:=by
 unfold put at h;cases ht:tk l o with
 | none=>rw[ht]at h; cases h
 | some a =>
  cases hd:dp l o with
  | none=>rw[ht,hd]at h; cases h
  | some b =>
   rw[ht,hd]at h;simp only at h;cases hb:dp b (cL v)with
   | none=>rw[hb]at h; cases h
   | some s =>
    rw[hb]at h; cases h;obtain⟨r,e,s1⟩:=nM _ _ _ ht;obtain⟨p,e2,s2⟩:=oC _ _ _ hd;obtain⟨m,e3,s3⟩:=oC _ _ _ hb;obtain⟨h1,h2⟩:=tK (e.symm.trans e2) (s1.trans s2.symm);refine⟨p,m,s,by rw[e2,e3],?_,s2,s3⟩;rw[aN,aN,h1]
def tA:Value→Bool
 | .bool _=>true
 | .int _ _=>true
 | .func _ _ _=>true
 | .complex _ _ _=>true
 | .float _ _=>true
 | .slice _ _ _=>true
 | .pointer _=>true
 | _=>false
def nz:List Value→List At
 | .int .u64 (.ofNat 0) :: .int .u64 (.ofNat 0) :: .int .u64 (.ofNat 0) :: .int .u64 (.ofNat 0)::r=>.f ⟨0,dP⟩::nz r
 | v::r=>.c v::nz r
 | []=>[]
theorem GW (l:List Value):aB (nz l)=l:=by
 fun_induction nz l with
 | case1 r ih=>show w4 0++aB (nz r)=_; rw[ih]; rfl
 | case2 v r h ih=>show [v]++aB (nz r)=_; rw[ih]; rfl
 | case3=>rfl
def nq:List At→List At
 | .c (.int .u64 (.ofNat a)) :: .c (.int .u64 (.ofNat b)) :: .c (.int .u64 (.ofNat c)) :: .c (.int .u64 (.ofNat d))::r =>
  bif Nat.blt a 18446744073709551616&&(Nat.blt b 18446744073709551616&&(Nat.blt c 18446744073709551616&&Nat.blt d 18446744073709551616))then (if h:aD a b c d<FP.M then .f ⟨aD a b c d,h⟩else .q (aD a b c d))::nq r
  else .c (.int .u64 (.ofNat a)) :: .c (.int .u64 (.ofNat b)) :: .c (.int .u64 (.ofNat c)) :: .c (.int .u64 (.ofNat d))::nq r
 | v::r=>v::nq r
 | []=>[]
theorem YP (l:List At):aB (nq l)=aB l:=by
 fun_induction nq l with
 | case1 a b c d r hb ih =>
  simp only[Bool.and_eq_true,Nat.blt_eq]at hb;have h4:cK a b c d:=⟨hb.1,hb.2.1,hb.2.2.1,hb.2.2.2⟩;have hv:aD a b c d<115792089237316195423570985008687907853269984665640564039457584007913129639936:=by
   unfold aD; obtain⟨h1,h2,h3,h5⟩:=hb; omega
  obtain⟨e0,e1,e2,e3⟩:=lS h4 hv rfl;have hc:(if h:aD a b c d<FP.M then At.f ⟨aD a b c d,h⟩else At.q (aD a b c d)).cells=w4 (aD a b c d):=by split<;>rfl
  show (if h:aD a b c d<FP.M then At.f ⟨aD a b c d,h⟩else At.q (aD a b c d)).cells++aB (nq r)=_;rw[hc,ih];unfold w4;rw[←e0,←e1,←e2,←e3];rfl
 | case2 a b c d r hb ih=>simp only[aB,ih]
 | case3 v r h ih=>show v.cells++aB (nq r)=_; rw[ih]; rfl
 | case4=>rfl
inductive TV|im (v:Value)|fl (l:List At)
def TV.den:TV→Value
 | .im v=>v
 | .fl l=>.agg (aB l).toArray
abbrev Bk:=Nat×Nat×Nat
inductive AV|im (v:Value)|fl (l:List At)|pt (k o:Nat)|sl (k o n m:Nat)|tu (l:List TV)|ic (t:Nat) (l:List At)|tf (k n m:Nat) (post:List TV)|so (k n:Nat)|tg (k n:Nat) (ante post:List TV)
def TV.av:TV→AV
 | .im v=>.im v
 | .fl l=>.fl l
def AV.den (β:Nat→Bk):AV→Value
 | .im v=>v
 | .fl l=>.agg (aB l).toArray
 | .pt k o=>.pointer (some ⟨(β k).1,(β k).2.1+o,none⟩)
 | .sl k o n m=>.slice (some ⟨(β k).1,(β k).2.1+o,none⟩) n m
 | .tu l=>.tuple (l.map TV.den).toArray
 | .ic t l=>.iface t (.agg (aB l).toArray)
 | .tf k n m post=>.tuple (.slice (some ⟨(β k).1,(β k).2.1,none⟩) n m::post.map TV.den).toArray
 | .so k n=>.slice (some ⟨(β k).1,(β k).2.1,none⟩) n (β k).2.2
 | .tg k n ante post=>.tuple (ante.map TV.den ++ .slice (some ⟨(β k).1,(β k).2.1,none⟩) n (β k).2.2::post.map TV.den).toArray
theorem TV.av_den (β:Nat→Bk) (t:TV):t.av.den β=t.den:=by cases t<;>rfl
def AV.key:AV→Option Nat
 | .pt k _=>some k
 | .sl k _ _ _=>some k
 | .tf k _ _ _=>some k
 | .so k _=>some k
 | .tg k _ _ _=>some k
 | _=>none
theorem AV.den_eq {β β':Nat→Bk} (v:AV) (h:∀k,v.key=some k→β' k=β k):v.den β'=v.den β:=by
 cases v with
 | pt k o=>simp[AV.den,h k rfl]
 | sl k o n m=>simp[AV.den,h k rfl]
 | tf k n m post=>simp[AV.den,h k rfl]
 | so k n=>simp[AV.den,h k rfl]
 | tg k n ante post=>simp[AV.den,h k rfl]
 | _=>rfl
def AppAt (w:World) (b e sz n cap:Nat):Prop:=∃cur,w.heap[b]?=some (.cells cur e (0,0))∧n≤cap∧cap≤maxLen∧cur.size=cap*sz
inductive Fact|slot (s:Nat) (v:AV)|row (k:Nat) (bJ:Bool) (l:List At)|at (k b:Nat)|app (k e sz n:Nat)
def Fact.ok (base:Nat) (β:Nat→Bk) (a:Act) (w:World):Fact→Prop
 | .slot s v=>a.tmps[s]?=some (v.den β)
 | .row k bJ l=>(β k).1<w.heap.size∧w.rangeAt (β k).1 (β k).2.1 (aB l)∧(bJ=true→base≤(β k).1∧(β k).2.1=0∧∀j,w.frozen? ⟨(β k).1,j,none⟩=false)∧(bJ=false→True)
 | .at k b=>(β k).1=b∧(β k).2.1=0
 | .app k e sz n=>AppAt w (β k).1 e sz n (β k).2.2
def nB:List Fact→Nat→Option AV
 | [],_=>none
 | .slot t v::r,s=>bif Nat.beq t s then some v else nB r s
 | .row _ _ _::r,s=>nB r s
 | .at _ _::r,s=>nB r s
 | .app _ _ _ _::r,s=>nB r s
theorem cT:∀{M:List Fact} {s:Nat} {v:AV},nB M s=some v→Fact.slot s v∈M
 | .slot t u::r,s,v,h=>by
  unfold nB at h;cases hb:Nat.beq t s<;>rw[hb]at h
  ·exact List.mem_cons_of_mem _ (cT h)
  ·cases h; cases Nat.eq_of_beq_eq_true hb; exact List.mem_cons_self
 | .row _ _ _::r,s,v,h=>List.mem_cons_of_mem _ (cT (M:=r) h)
 | .at _ _::r,s,v,h=>List.mem_cons_of_mem _ (cT (M:=r) h)
 | .app _ _ _ _::r,s,v,h=>List.mem_cons_of_mem _ (cT (M:=r) h)
def dA:List Fact→Nat→Option (Bool×List At)
 | [],_=>none
 | .row t o l::r,s=>bif Nat.beq t s then some (o,l)else dA r s
 | .slot _ _::r,s=>dA r s
 | .at _ _::r,s=>dA r s
 | .app _ _ _ _::r,s=>dA r s
theorem aZ:∀{M:List Fact} {s:Nat} {o:Bool} {l:List At},dA M s=some (o,l)→Fact.row s o l∈M
 | .row t u m::r,s,o,l,h=>by
  unfold dA at h;cases hb:Nat.beq t s<;>rw[hb]at h
  ·exact List.mem_cons_of_mem _ (aZ h)
  ·cases h; cases Nat.eq_of_beq_eq_true hb; exact List.mem_cons_self
 | .slot _ _::r,s,o,l,h=>List.mem_cons_of_mem _ (aZ (M:=r) h)
 | .at _ _::r,s,o,l,h=>List.mem_cons_of_mem _ (aZ (M:=r) h)
 | .app _ _ _ _::r,s,o,l,h=>List.mem_cons_of_mem _ (aZ (M:=r) h)
def nG:List Fact→Nat→Option Nat
 | [],_=>none
 | .at t b::r,s=>bif Nat.beq t s then some b else nG r s
 | .slot _ _::r,s=>nG r s
 | .row _ _ _::r,s=>nG r s
 | .app _ _ _ _::r,s=>nG r s
theorem dN:∀{M:List Fact} {s b:Nat},nG M s=some b→Fact.at s b∈M
 | .at t c::r,s,b,h=>by
  unfold nG at h;cases hb:Nat.beq t s<;>rw[hb]at h
  ·exact List.mem_cons_of_mem _ (dN h)
  ·cases h; cases Nat.eq_of_beq_eq_true hb; exact List.mem_cons_self
 | .slot _ _::r,s,b,h=>List.mem_cons_of_mem _ (dN (M:=r) h)
 | .row _ _ _::r,s,b,h=>List.mem_cons_of_mem _ (dN (M:=r) h)
 | .app _ _ _ _::r,s,b,h=>List.mem_cons_of_mem _ (dN (M:=r) h)
def mQ:List Fact→Nat→Option (Nat×Nat×Nat)
 | [],_=>none
 | .app t e sz n::r,s=>bif Nat.beq t s then some (e,sz,n)else mQ r s
 | .slot _ _::r,s=>mQ r s
 | .row _ _ _::r,s=>mQ r s
 | .at _ _::r,s=>mQ r s
theorem fQ:∀{M:List Fact} {s e sz n:Nat},mQ M s=some (e,sz,n)→Fact.app s e sz n∈M
 | .app t e' sz' n'::r,s,e,sz,n,h=>by
  unfold mQ at h;cases hb:Nat.beq t s<;>rw[hb]at h
  ·exact List.mem_cons_of_mem _ (fQ h)
  ·cases h; cases Nat.eq_of_beq_eq_true hb; exact List.mem_cons_self
 | .slot _ _::r,s,e,sz,n,h=>List.mem_cons_of_mem _ (fQ (M:=r) h)
 | .row _ _ _::r,s,e,sz,n,h=>List.mem_cons_of_mem _ (fQ (M:=r) h)
 | .at _ _::r,s,e,sz,n,h=>List.mem_cons_of_mem _ (fQ (M:=r) h)
def ev (M:List Fact):Operand→Option AV
 | .tmp s=>nB M s
 | .const v=>some (.im v)
 | .func f=>some (.im (.func (.func f) #[] #[]))
 | .global _=>none
theorem aJ {M:List Fact} {base:Nat} {β:Nat→Bk} {a:Act} {w:World} (hM:∀φ∈M,φ.ok base β a w) {x:Operand} {v:AV} (h:ev M x=some v):a.eval x=v.den β:=by
 cases x with
 | tmp s =>
  have:=hM _ (cT h);simp only[Fact.ok]at this;simp[Act.eval,this]
 | const u=>cases h; rfl
 | func f=>cases h; rfl
 | global g=>cases h
def Km (M:List Fact):List Operand→Option (List AV)
 | []=>some []
 | x::r=>match ev M x,Km M r with|some v,some l=>some (v::l)|_,_=>none
theorem oB {M:List Fact} {base:Nat} {β:Nat→Bk} {a:Act} {w:World} (hM:∀φ∈M,φ.ok base β a w):∀{xs:List Operand} {l:List AV},Km M xs=some l→xs.map a.eval=l.map (AV.den β)
 | [],l,h=>by cases h; rfl
 | x::r,l,h=>by
  unfold Km at h;cases hx:ev M x with
  | none=>rw[hx]at h; cases h
  | some v =>
   cases hr:Km M r with
   | none=>rw[hx,hr]at h; cases h
   | some l'=>rw[hx,hr]at h; cases h; simp[aJ hM hx,oB hM hr]
def AH:AV→Option (List At)
 | .fl l=>some l
 | .im v=>bif tA v then some [.c v]else none
 | _=>none
theorem nA {v:AV} {p:List At} (h:AH v=some p) (β:Nat→Bk):(v.den β).cells=(aB p).toArray:=by
 cases v with
 | fl l=>cases h; rfl
 | im u =>
  have h':(bif tA u then some [At.c u]else none)=some p:=h;cases hu:tA u<;>rw[hu]at h'
  ·cases h'
  ·cases h';cases u<;>first|rfl|cases hu
 | _=>cases h
def mZ (M:List Fact):List (Nat×Operand)→Option (List (Nat×List At))
 | []=>some []
 | (i,x)::r=>match ev M x with
  | some v=>match AH v,mZ M r with|some p,some l=>some ((i,p)::l)|_,_=>none
  | none=>none
def vI (place:Nat→Option (Nat×Nat)):List At→List (Nat×List At)→Option (List At)
 | l,[]=>some l
 | l,(i,p)::r=>match place i with
  | none=>none
  | some (off,sz)=>bif Nat.beq (cL p) sz then (match put l off p with|some l'=>vI place l' r|none=>none)else none
theorem AY:∀(p B A C:List Value) (k off:Nat),A.length=off+k→B.length=p.length →
  (p.zipIdx k).foldl (fun cs (x:Value×Nat)=>cs.setIfInBounds (off+x.2) x.1) (A++(B++C)).toArray=(A++(p++C)).toArray
 | [],B,A,C,k,off,hA,hB=>by
  have:B=[]:=List.length_eq_zero_iff.1 (by simpa using hB);subst this; rfl
 | v::p,B,A,C,k,off,hA,hB=>by
  cases B with
  | nil=>cases hB
  | cons b B =>
   have e:(A++(b::B++C)).toArray.setIfInBounds (off+k) v=((A++[v])++(B++C)).toArray:=by
    rw[List.setIfInBounds_toArray,←hA];simp
   simp only[List.zipIdx_cons,List.foldl_cons,e];rw[AY p B (A++[v]) C (k+1) off (by simp[hA]; omega) (by simpa using hB)];simp
theorem kE {M:List Fact} {base:Nat} {β:Nat→Bk} {a:Act} {w:World} (hM:∀φ∈M,φ.ok base β a w) (place:Nat→Option (Nat×Nat)) :
  ∀(xs:List (Nat×Operand)) (ps:List (Nat×List At)) (l l':List At),mZ M xs=some ps→vI place l ps=some l' →
   Instr.fill place (aB l).toArray (xs.map fun (i,x)=>(i,a.eval x))=some (aB l').toArray
 | [],ps,l,l',h,h2=>by cases h; cases h2; rfl
 | (i,x)::r,ps,l,l',h,h2=>by
  unfold mZ at h;cases hx:ev M x with
  | none=>rw[hx]at h; cases h
  | some v =>
   rw[hx]at h;simp only at h;cases hp:AH v with
   | none=>rw[hp]at h; cases h
   | some p =>
    cases hr:mZ M r with
    | none=>rw[hp,hr]at h; cases h
    | some ps' =>
     rw[hp,hr]at h; cases h;unfold vI at h2;simp only[List.map_cons,Instr.fill];cases hpl:place i with
     | none=>rw[hpl]at h2; cases h2
     | some os =>
      obtain⟨off,sz⟩:=os;rw[hpl]at h2;simp only at h2;cases hb:Nat.beq (cL p) sz<;>rw[hb]at h2
      ·cases h2
      ·have hsz:=Nat.eq_of_beq_eq_true hb;simp only[cond_true]at h2;cases hq:put l off p with
       | none=>rw[hq]at h2; cases h2
       | some l1 =>
        rw[hq]at h2;obtain⟨A,m,s,e,f,ha,hm⟩:=zR hq;have hc:=nA hp β;rw[aJ hM hx];have hsize:(AV.den β v).cells.size=sz:=by rw[hc]; simp[aQ,hsz]
        have hle:¬(off+(AV.den β v).cells.size>(aB l).toArray.size):=by
         rw[hsize,e];simp[aN,aQ];omega
        have hset:(AV.den β v).cells.zipIdx.foldl (fun cs (c,j)=>cs.setIfInBounds (off+j) c) (aB l).toArray=(aB l1).toArray:=by
         rw[hc,f,e,aN,aN];have:=AY (aB p) (aB m) (aB A) (aB s) 0 off (by rw[aQ,ha]; rfl) (by rw[aQ,aQ,hm]);simpa using this
        simp only[hset];rw[if_neg (by simp[hsize]; simpa[hsize]using hle)];exact kE hM place r ps' l1 l' hr h2
inductive CA|v (x:TV)|s (l:List At) (n m:Nat)|so (l:List At) (n:Nat)|p (l:List At) (o:Nat)
inductive RV|one (t:TV)|many (l:List TV)
def RV.av:RV→AV
 | .one t=>t.av
 | .many l=>.tu l
def RV.den:RV→Value
 | .one t=>t.den
 | .many l=>.tuple (l.map TV.den).toArray
theorem RV.av_den (β:Nat→Bk) (r:RV):r.av.den β=r.den:=by cases r with|one t=>exact TV.av_den β t|many l=>rfl
def CA.ok (w:World):CA→Value→Prop
 | .v x,u=>u=x.den
 | .s l n m,u=>∃b o,u=.slice (some ⟨b,o,none⟩) n m∧b<w.heap.size∧w.rangeAt b o (aB l)
 | .so l n,u=>∃b o m,u=.slice (some ⟨b,o,none⟩) n m∧b<w.heap.size∧w.rangeAt b o (aB l)
 | .p l o,u=>∃b,u=.pointer (some ⟨b,o,none⟩)∧b<w.heap.size∧w.rangeAt b 0 (aB l)
def cO (w:World):List CA→List Value→Prop
 | [],[]=>True
 | c::cs,v::vs=>c.ok w v∧cO w cs vs
 | _,_=>False
abbrev Tab:=Nat→List CA→Option (List Prop×RV)
def aR:List Prop→Prop
 | []=>True
 | p::r=>p∧aR r
theorem cC:∀{l m:List Prop},aR (l++m)↔aR l∧aR m
 | [],m=>by simp[aR]
 | p::r,m=>by simp[aR,cC (l:=r),and_assoc]
def TabOk (P:Program) (T:Tab):Prop:=∀f cs pre r,T f cs=some (pre,r)→aR pre →
 (∀args w,(callFunc f args).run P w=.ok (.enter f args) w)∧∀(args:List Value) (w:World),cO w cs args→Calls P f args.toArray w (fun e w'=>e=.returned r.den∧Below w.heap.size w w')
def isN:At→Bool
 | .c _=>false
 | _=>true
structure FR where
 l:List At
 n:Nat
 m:Nat
 post:List TV
def FR.val (r:FR) (b:Nat):Value:=bif r.post.isEmpty then .slice (some ⟨b,0,none⟩) r.n r.m else .tuple (.slice (some ⟨b,0,none⟩) r.n r.m::r.post.map TV.den).toArray
def FR.ok (r:FR) (w:World) (e:Ending) (w':World):Prop:=∃b,e=.returned (r.val b)∧Below w.heap.size w w'∧w.heap.size≤b∧b<w'.heap.size∧w'.rangeAt b 0 (aB r.l)∧∀j,w'.frozen? ⟨b,j,none⟩=false
structure FS where
 l:List At
 n:Nat
 e:Nat
 sz:Nat
 ap:Bool
 ante:List TV
 post:List TV
def FS.lone (r:FS):Bool:=r.ante.isEmpty&&r.post.isEmpty
def FS.val (r:FS) (b cap:Nat):Value:=bif r.lone then .slice (some ⟨b,0,none⟩) r.n cap else .tuple (r.ante.map TV.den ++ .slice (some ⟨b,0,none⟩) r.n cap::r.post.map TV.den).toArray
def FS.ok (r:FS) (w:World) (e:Ending) (w':World):Prop:=∃b cap,e=.returned (r.val b cap)∧Below w.heap.size w w'∧w.heap.size≤b∧b<w'.heap.size∧w'.rangeAt b 0 (aB r.l)∧(∀j,w'.frozen? ⟨b,j,none⟩=false)∧(r.ap=true→AppAt w' b r.e r.sz r.n cap)
def Shape (w w':World):Prop:=∀(b:Nat) (cur:Array Value) (e:Nat),w.heap[b]?=some (Obj.cells cur e (0,0))→∃cur':Array Value,w'.heap[b]?=some (Obj.cells cur' e (0,0))∧cur'.size=cur.size
structure WrAt (w w':World) (b:Nat) (l:List At):Prop where
 os:w'.os=w.os
 tape:w'.tape=w.tape
 output:w'.output=w.output
 size:w.heap.size≤w'.heap.size
 block:∀k,k<w.heap.size→k≠b→w'.heap[k]?=w.heap[k]?
 shape:Shape w w'
 frozen:∀j,w'.frozen? ⟨b,j,none⟩=w.frozen? ⟨b,j,none⟩
structure WrC (w w':World) (b:Nat):Prop where
 below:Below b w w'
 mem:∀p:Addr,p.block<w.heap.size→p.block≠b→w'.cell? p=w.cell? p∧w'.frozen? p=w.frozen? p
 shape:Shape w w'
 free:∀j,w'.frozen? ⟨b,j,none⟩=false
inductive CB|v (x:TV)|sl (o n m:Nat)|pt (o:Nat)|r (l:List At) (n m:Nat)
def CB.ok (w:World) (b:Nat):CB→Value→Prop
 | .v x,u=>u=x.den
 | .sl o n m,u=>u=.slice (some ⟨b,o,none⟩) n m
 | .pt o,u=>u=.pointer (some ⟨b,o,none⟩)
 | .r l n m,u=>∃b' o,u=.slice (some ⟨b',o,none⟩) n m∧b'<w.heap.size∧b'≠b∧w.rangeAt b' o (aB l)
def CBs (w:World) (b:Nat):List CB→List Value→Prop
 | [],[]=>True
 | c::cs,v::vs=>c.ok w b v∧CBs w b cs vs
 | _,_=>False
structure Ext where
 idx:Nat→Option Nat
 ld:Nat→Option (List At)
 st:Nat→Option (List At)
 gen:Nat→Option Value
 mks:Nat→Option (Nat×List At)
 ky:Nat→Option Nat
 old:Nat→Nat→List At→Prop
 T2:Nat→List CA→Option (List Prop×FR)
 T3:Nat→List CA→Option (List Prop×FS):=fun _ _=>Option.none
 T4:Nat→List CA→Option (List Prop×Nat×List At):=fun _ _=>Option.none
 T5:Nat→List CA→Option (List Prop×Nat×RV×List At):=fun _ _=>Option.none
 T6:Nat→Nat→List At→List CB→Option (List Prop×RV×List At):=fun _ _ _ _=>Option.none
def Ext.none:Ext:=⟨fun _=>.none,fun _=>.none,fun _=>.none,fun _=>.none,fun _=>.none,fun _=>.none,fun _ _ _=>False,fun _ _=>.none,fun _ _=>.none,fun _ _=>.none,fun _ _=>.none,fun _ _ _ _=>.none⟩
def BY (P:Program) (T:Tab) (w:World):Prop:=∀f cs pre r,T f cs=some (pre,r)→aR pre →
 (∀args w,(callFunc f args).run P w=.ok (.enter f args) w)∧∀(args:List Value),cO w cs args→Calls P f args.toArray w (fun e w'=>e=.returned r.den∧Below w.heap.size w w')
def TabOkW (P:Program) (T:Tab) (base:Nat) (w0:World):Prop:=∀w,Below base w0 w→BY P T w
theorem TabOk.w {P:Program} {T:Tab} (h:TabOk P T) (base:Nat) (w0:World):TabOkW P T base w0:=fun w _ f cs pre r hg hp=>⟨(h f cs pre r hg hp).1,fun args ha=>(h f cs pre r hg hp).2 args w ha⟩
def vS (P:Program) (x:Ext) (w:World):Prop:=(∀b o l,x.old b o l→w.rangeAt b o (aB l))∧(∀f cs pre r,x.T2 f cs=some (pre,r)→aR pre →
 (∀args w,(callFunc f args).run P w=.ok (.enter f args) w)∧∀(args:List Value),cO w cs args→Calls P f args.toArray w (fun e w'=>r.ok w e w')) ∧
 (∀f cs pre r,x.T3 f cs=some (pre,r)→aR pre→(∀args w,(callFunc f args).run P w=.ok (.enter f args) w)∧∀(args:List Value),cO w cs args→Calls P f args.toArray w (fun e w'=>r.ok w e w')) ∧
 (∀f cs pre j l,x.T4 f cs=some (pre,j,l)→aR pre→(∀args w,(callFunc f args).run P w=.ok (.enter f args) w)∧∀(args:List Value),cO w cs args→∀b o n m,args[j]?=some (.slice (some ⟨b,o,none⟩) n m)→(∀q,w.frozen? ⟨b,q,none⟩=false) →
  Calls P f args.toArray w (fun e w'=>e=.returned (.slice (some ⟨b,o,none⟩) n m)∧WrAt w w' b l∧w'.rangeAt b o (aB l))) ∧
 (∀f cs pre j r l,x.T5 f cs=some (pre,j,r,l)→aR pre→(∀args w,(callFunc f args).run P w=.ok (.enter f args) w)∧∀(args:List Value),cO w cs args→∀b o,args[j]?=some (.pointer (some ⟨b,o,none⟩))→(∀q,w.frozen? ⟨b,q,none⟩=false) →
  Calls P f args.toArray w (fun e w'=>e=.returned r.den∧WrC w w' b∧w'.rangeAt b 0 (aB l))) ∧
 ∀f b row cs pre r l,x.T6 f b row cs=some (pre,r,l)→aR pre→(∀args w,(callFunc f args).run P w=.ok (.enter f args) w)∧∀(args:List Value),b<w.heap.size→w.rangeAt b 0 (aB row)→(∀q,w.frozen? ⟨b,q,none⟩=false)→CBs w b cs args →
  Calls P f args.toArray w (fun e w'=>e=.returned r.den∧WrC w w' b∧w'.rangeAt b 0 (aB l))
def ExtOk (P:Program) (x:Ext) (base:Nat) (w0:World):Prop:=∀w,Below base w0 w→vS P x w
structure EqT where
 q:Nat→Option Nat
 n:Nat→Option Nat
 x:Ext:=Ext.none
 fit:Nat→List At→Bool:=fun _ l=>l.all isN
def uA (P:Program) (q:EqT):Prop:=(∀t n,q.q t=some n→P.eqGuardType P.depth t=false∧∀(l:List At) (w:World),cL l=n→q.fit t l=true→(Op.equalIn 10000 t (.agg (aB l).toArray) (.agg (aB l).toArray)).run P w=.ok true w) ∧
 (∀t n,q.n t=some n→P.eqGuardType P.depth t=false∧∀(l m:List At) (w:World),cL l=n→cL m=n→q.fit t l=true→q.fit t m=true→aB l≠aB m→(Op.equalIn 10000 t (.agg (aB l).toArray) (.agg (aB m).toArray)).run P w=.ok false w)
theorem ExtOk.none (P:Program) (base:Nat) (w0:World):ExtOk P Ext.none base w0:=fun w _=>⟨fun _ _ _ h=>h.elim,fun _ _ _ _ h=>(by cases h),fun _ _ _ _ h=>(by cases h),fun _ _ _ _ _ h=>(by cases h),fun _ _ _ _ _ _ h=>(by cases h),fun _ _ _ _ _ _ _ h=>(by cases h)⟩
def EqOk (P:Program) (q:EqT):Prop:=uA P q∧q.x=Ext.none
def bO (P:Program) (q:EqT) (base:Nat) (w0:World):Prop:=uA P q∧ExtOk P q.x base w0
theorem EqOk.w {P:Program} {q:EqT} (h:EqOk P q) (base:Nat) (w0:World):bO P q base w0:=⟨h.1,h.2▸ExtOk.none P base w0⟩
structure Env where
 P:Program
 T:Nat→Tab
 q:EqT
 hint:Nat→Bool
 num:Nat→Option Value
 nt:Nat
def Me (l:List At) (o:Nat):Option (List At):=bif Nat.beq o 0 then some l else dp l o
theorem tN {l:List At} {n:Nat} {r:List At} (h:Me l n=some r):∃t,l=t++r∧cL t=n:=by
 unfold Me at h;cases hb:Nat.beq n 0<;>rw[hb]at h
 ·exact oC l n r h
 ·cases h; exact⟨[],rfl,(Nat.eq_of_beq_eq_true hb).symm⟩
def MD (M:List Fact):AV→Option CA
 | .im v=>some (.v (.im v))
 | .fl l=>some (.v (.fl l))
 | .sl k o n m=>match dA M k with
  | some (_,l)=>match Me l o with|some r=>some (.s r n m)|none=>none
  | none=>none
 | .so k n=>match dA M k with
  | some (_,l)=>some (.so l n)
  | none=>none
 | .pt k o=>match dA M k with
  | some (true,l)=>some (.p l o)
  | _=>none
 | _=>none
def vP (M:List Fact):List AV→Option (List CA)
 | []=>some []
 | v::r=>match MD M v,vP M r with|some c,some l=>some (c::l)|_,_=>none
theorem MC {M:List Fact} {base:Nat} {β:Nat→Bk} {a:Act} {w:World} (hM:∀φ∈M,φ.ok base β a w) {v:AV} {c:CA} (h:MD M v=some c):c.ok w (v.den β):=by
 cases v with
 | im v=>cases h; rfl
 | fl l=>cases h; rfl
 | sl k o n m =>
  unfold MD at h;cases hr:dA M k with
  | none=>simp[hr]at h
  | some x =>
   obtain⟨ow,l⟩:=x;simp only[hr]at h;cases hd:Me l o with
   | none=>simp[hd]at h
   | some r =>
    simp only[hd]at h;cases h;obtain⟨h1,h2,_⟩:=hM _ (aZ hr);obtain⟨p,e,hp⟩:=tN hd;refine⟨_,_,rfl,h1,fun j u hj => ?_⟩;have:=h2 (o+j) u (by rw[e,aN,List.getElem?_append_right (by rw[aQ,hp]; omega),aQ,hp]; simpa using hj)
    rwa [←Nat.add_assoc]at this
 | so k n =>
  unfold MD at h;cases hr:dA M k with
  | none=>simp[hr]at h
  | some x =>
   obtain⟨ow,l⟩:=x;simp only[hr]at h;cases h;obtain⟨h1,h2,_⟩:=hM _ (aZ hr);exact⟨_,_,_,rfl,h1,h2⟩
 | pt k o =>
  unfold MD at h;cases hr:dA M k with
  | none=>simp[hr]at h
  | some x =>
   obtain⟨ow,l⟩:=x;cases ow with
   | false=>simp[hr]at h
   | true =>
    simp only[hr]at h;cases h;obtain⟨h1,h2,h3,_⟩:=hM _ (aZ hr);obtain⟨_,h5,_⟩:=h3 rfl;rw[h5]at h2;exact⟨(β k).1,by simp[AV.den,h5],h1,h2⟩
 | _=>cases h
theorem nH {M:List Fact} {base:Nat} {β:Nat→Bk} {a:Act} {w:World} (hM:∀φ∈M,φ.ok base β a w):∀{l:List AV} {cs:List CA},vP M l=some cs→cO w cs (l.map (AV.den β))
 | [],cs,h=>by cases h; trivial
 | v::r,cs,h=>by
  unfold vP at h;cases hv:MD M v with
  | none=>simp[hv]at h
  | some c =>
   cases hr:vP M r with
   | none=>simp[hv,hr]at h
   | some l =>
    simp only[hv,hr]at h;cases h;exact⟨MC hM hv,nH hM hr⟩
def nC (P:Program) (t:Nat):Bool:=match P.underlying t with|some d=>d.isRow|none=>false
def dG (P:Program) (t:Nat):Option Nat:=match P.info? t with|some i=>some i.size|none=>none
def Cx (P:Program) (t:Nat):Option (List At):=match P.info? t with
 | some i=>match i.zero with|some z=>some (nz z.cells.toList)|none=>none
 | none=>none
def Ml (z:List Value):List (Nat×List At)→List At
 | (_,[.c _])::_=>z.map .c
 | _=>nz z
theorem tJ:∀z:List Value,aB (z.map .c)=z
 | []=>rfl
 | v::r=>by show [v]++aB (r.map .c)=_; rw[tJ r]; rfl
theorem rF (z:List Value) (ps:List (Nat×List At)):aB (Ml z ps)=z:=by
 unfold Ml;split
 ·exact tJ z
 ·exact GW z
def FK (P:Program) (t:Nat) (ps:List (Nat×List At)):Option (List At) :=
 match P.info? t,P.underlying t with
 | some it,some (.array _ e)=>match it.zero,P.info? e with
  | some z,some ie=>vI (fun i=>some (i*ie.size,ie.size)) (Ml z.cells.toList ps) ps
  | _,_=>none
 | some it,some (.struct fields)=>match it.zero,fields.toList.mapM (fun f=>(P.info? f.type).map fun i=>(f.offset,i.size))with
  | some z,some places=>vI (places.toArray[·]?) (Ml z.cells.toList ps) ps
  | _,_=>none
 | _,_=>none
theorem BM {P:Program} {M:List Fact} {base:Nat} {β:Nat→Bk} {a:Act} {w:World} (hM:∀φ∈M,φ.ok base β a w) {t:Nat} {xs:List (Nat×Operand)} {ps:List (Nat×List At)} {l:List At}
  (hp:mZ M xs=some ps) (h:FK P t ps=some l):P.built t (xs.map fun (i,x)=>(i,a.eval x))=some (aB l).toArray:=by
 unfold FK at h;unfold Program.built;cases hi:P.info? t with
 | none=>simp[hi]at h
 | some it =>
  cases hu:P.underlying t with
  | none=>simp[hi,hu]at h
  | some d =>
   cases d<;>simp only[hi,hu]at h ⊢ <;> try (cases h; done)
   ·rename_i n e;cases hz:it.zero with
    | none=>simp[hz]at h
    | some z =>
     cases he:P.info? e with
     | none=>simp[hz,he]at h
     | some ie =>
      simp only[hz,he]at h ⊢;have:=kE hM _ xs ps _ _ hp h
      rwa [rF,Array.toArray_toList]at this
   ·rename_i fs;cases hz:it.zero with
    | none=>simp[hz]at h
    | some z =>
     cases hm:fs.toList.mapM (fun f=>(P.info? f.type).map fun i=>(f.offset,i.size))with
     | none=>simp[hz,hm]at h
     | some pl =>
      simp only[hz,hm]at h ⊢;have:=kE hM _ xs ps _ _ hp h
      rwa [rF,Array.toArray_toList]at this
def JE (P:Program) (t len:Nat) (ps:List (Nat×List At)):Option (List At) :=
 match P.underlying t with
 | some (.slice e)=>match P.info? e with
  | some ie=>match ie.zero with
   | some z=>bif Nat.ble (len*ie.size) 4096 && !(Nat.beq (len*ie.size) 0)then
     vI (fun i=>some (i*ie.size,ie.size)) (Ml ((Array.range (len*ie.size)).map (z.cells[· % z.cells.size]!)).toList ps) ps else none
   | none=>none
  | none=>none
 | _=>none
structure PostB (base:Nat) (β β':Nat→Bk) (a:Act) (w:World) (dst:Option Nat) (M out:List Fact) (kill:Option Nat) (a':Act) (w':World):Prop where
 defers:a'.defers=a.defers
 size:a'.tmps.size=a.tmps.size
 tmps:∀s,dst≠some s→a'.tmps[s]?=a.tmps[s]?
 beta:∀k,dst≠some k→β' k=β k
 heap:w.heap.size≤w'.heap.size
 mem:∀p:Addr,p.block<w.heap.size→(∀k,kill=some k→p.block≠(β k).1)→w'.cell? p=w.cell? p∧w'.frozen? p=w.frozen? p
 shape:Shape w w'
 below:∀w0,Below base w0 w→Below base w0 w'
 ok:∀φ∈out,φ.ok base β' a' w'
 rows:∀k l,Fact.row k true l∈out→(w.heap.size≤(β' k).1∧dst=some k)∨(dst≠some k∧∃l0,Fact.row k true l0∈M)∨(dst=some k∧∃k0 l0,kill=some k0∧(β' k).1=(β k0).1∧Fact.row k0 true l0∈M)
 one:∀k k' l l',Fact.row k true l∈out→Fact.row k' true l'∈out→k=k'
 kills:∀k,kill=some k→∃l0,Fact.row k true l0∈M
 onlyOwn:∀k l,Fact.row k false l∈out→False:=by first|(intro k l h; simp only[List.mem_cons,List.not_mem_nil,or_false,reduceCtorEq,false_or,Fact.row.injEq,Bool.false_eq_true,false_and,and_false]at h)|(intro k l h; cases h)
theorem Shape.refl (w:World):Shape w w:=fun b cur e h=>⟨cur,h,rfl⟩
theorem Shape.below {w w':World} (h:Below w.heap.size w w'):Shape w w':=fun b cur e hb=>⟨cur,(h.block b (Array.getElem?_eq_some_iff.1 hb).1).trans hb,rfl⟩
theorem Shape.alloc (w:World) (o:Obj):Shape w (w.alloc o):=fun b cur e hb=>⟨cur,(Below.heap_alloc w o b (Array.getElem?_eq_some_iff.1 hb).1).trans hb,rfl⟩
theorem Shape.trans {a b c:World} (h:Shape a b) (k:Shape b c):Shape a c:=fun q cur e hq=>by
 obtain⟨c1,h1,s1⟩:=h q cur e hq;obtain⟨c2,h2,s2⟩:=k q c1 e h1;exact⟨c2,h2,s2.trans s1⟩
theorem AppAt.shape {w w':World} (h:Shape w w') {b e sz n cap:Nat} (ha:AppAt w b e sz n cap):AppAt w' b e sz n cap:=by
 obtain⟨cur,h1,h2,h3,h4⟩:=ha;obtain⟨c',h5,h6⟩:=h b cur e h1;exact⟨c',h5,h2,h3,h6.trans h4⟩
theorem eT (a:Act) (d:Nat) (v:Value) (h:d<a.tmps.size):(a.put (some d) v).tmps[d]?=some v:=by
 simp[Act.put,h]
theorem jD (a:Act) (d s:Nat) (v:Value) (h:some d≠some s):(a.put (some d) v).tmps[s]?=a.tmps[s]?:=by
 have:d≠s:=fun e=>h (by rw[e])
 simp[Act.put,Array.getElem?_setIfInBounds_ne this]
theorem dK (a:Act) (d:Option Nat) (v:Value):(a.put d v).tmps.size=a.tmps.size:=by cases d<;>simp[Act.put]
theorem eO (a:Act) (d:Option Nat) (v:Value):(a.put d v).defers=a.defers:=by cases d<;>rfl
theorem uX {base:Nat} {β:Nat→Bk} {a:Act} {w:World} {d:Nat} {M:List Fact} (v:AV) (h:d<a.tmps.size):PostB base β β a w (some d) M [.slot d v] none (a.put (some d) (v.den β)) w where
 defers:=rfl
 size:=dK _ _ _
 tmps s hs:=jD _ _ _ _ hs
 beta k _:=rfl
 heap:=Nat.le_refl _
 mem p _ _:=⟨rfl,rfl⟩
 shape:=Shape.refl _
 below _ h:=h
 ok φ hφ:=by cases List.mem_singleton.1 hφ; exact eT _ _ _ h
 rows k l hk:=by cases List.mem_singleton.1 hk
 one k k' l l' hk:=by cases List.mem_singleton.1 hk
 kills k hk:=by cases hk
theorem mG {base:Nat} {β:Nat→Bk} {a:Act} {w w':World} {d:Nat} {M:List Fact} (v:AV) (h:d<a.tmps.size) (hB:base≤w.heap.size) (hb:Below w.heap.size w w'):PostB base β β a w (some d) M [.slot d v] none (a.put (some d) (v.den β)) w' where
 defers:=rfl
 size:=dK _ _ _
 tmps s hs:=jD _ _ _ _ hs
 beta k _:=rfl
 heap:=hb.size
 mem p hp _:=⟨hb.cell hp,hb.frozen hp⟩
 shape:=Shape.below hb
 below _ h:=h.trans (hb.mono hB)
 ok φ hφ:=by cases List.mem_singleton.1 hφ; exact eT _ _ _ h
 rows k l hk:=by cases List.mem_singleton.1 hk
 one k k' l l' hk:=by cases List.mem_singleton.1 hk
 kills k hk:=by cases hk
def VA (β:Nat→Bk) (d b:Nat):Nat→Bk:=fun k=>bif Nat.beq k d then (b,0,0)else β k
def UQ (β:Nat→Bk) (d b cap:Nat):Nat→Bk:=fun k=>bif Nat.beq k d then (b,0,cap)else β k
theorem cM (β:Nat→Bk) (d b cap:Nat):UQ β d b cap d=(b,0,cap):=by simp[UQ]
theorem ML (β:Nat→Bk) (d b cap k:Nat) (h:some d≠some k):UQ β d b cap k=β k:=by
 have:k≠d:=fun e=>h (by rw[e])
 unfold UQ;cases h2:Nat.beq k d
 ·rfl
 ·exact absurd (Nat.eq_of_beq_eq_true h2) this
theorem cS (β:Nat→Bk) (d b:Nat):VA β d b d=(b,0,0):=by simp[VA]
theorem MM (β:Nat→Bk) (d b k:Nat) (h:some d≠some k):VA β d b k=β k:=by
 have:k≠d:=fun e=>h (by rw[e])
 unfold VA;cases h2:Nat.beq k d
 ·rfl
 ·exact absurd (Nat.eq_of_beq_eq_true h2) this
theorem PS {base:Nat} {β:Nat→Bk} {a:Act} {w:World} {d:Nat} {M:List Fact} (v:AV) (l:List At) (t:TypeId) (h:d<a.tmps.size) (hB:base≤w.heap.size) :
  PostB base β (VA β d w.heap.size) a w (some d) M [.slot d v,.row d true l] none (a.put (some d) (v.den (VA β d w.heap.size))) (w.alloc (.cells (aB l).toArray t)) where
 defers:=rfl
 size:=dK _ _ _
 tmps s hs:=jD _ _ _ _ hs
 beta k hk:=MM _ _ _ _ hk
 heap:=by simp
 mem p hp _:=⟨World.cell?_alloc_lt _ _ _ hp,World.frozen?_alloc_past _ _ _ hp⟩
 shape:=Shape.alloc _ _
 below _ h:=h.alloc hB _
 ok φ hφ:=by
  rcases List.mem_cons.1 hφ with rfl|hφ
  ·exact eT _ _ _ h
  ·cases List.mem_singleton.1 hφ;refine⟨by rw[cS]; simp,fun j u hj => ?_,fun _=>⟨by rw[cS]; exact hB,by rw[cS],fun j=>by rw[cS]; exact World.frozen?_alloc_new _ _ _ _⟩,fun h=>by cases h⟩;rw[cS];show World.cell? _ ⟨_,0+j,none⟩=_;rw[Nat.zero_add,World.cell?_alloc_new];simpa using hj
 rows k l' hk:=by
  rcases List.mem_cons.1 hk with hk|hk
  ·cases hk
  ·cases List.mem_singleton.1 hk;exact Or.inl ⟨by rw[cS]; exact Nat.le_refl _,rfl⟩
 one k k' l1 l2 hk hk':=by
  rcases List.mem_cons.1 hk with hk|hk
  ·cases hk
  ·rcases List.mem_cons.1 hk' with hk'|hk'
   ·cases hk'
   ·cases List.mem_singleton.1 hk; cases List.mem_singleton.1 hk'; rfl
 kills k hk:=by cases hk
end Go.Proofs.YtjjnbgoepbiojaaGreat.Ex
