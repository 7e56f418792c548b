/- Jz08 -/
import Derived.Deep.DeepCutAuto
import Derived.Test.YtjeplinbleofnaaGreatJz07
import Derived.Test.YtjeplinbleofnaaGreatJz05
import Derived.Test.YtjeplinbleofnaaGreatJz06
import Derived.Test.YtjeplinbleofnaaGreatJz00
import Derived.Test.YtjeplinbleofnaaGreatProg
set_option maxRecDepth 100000
set_option linter.unusedVariables false
set_option linter.unusedSimpArgs false
set_option linter.unnecessarySimpa false
noncomputable section
namespace Go.Proofs.YtjeplinbleofnaaGreat.Ex
open Go.Proofs.Tryz
open Go.RowKit
def eG (x y:Nat):Nat:=(x+y)%RM
def dE (x y:Nat):Nat:=(x+RM-y)%RM
def aI (x y:Nat):Nat:=x*y%RM
def SX (x:Nat):Nat:=1*(x^(RM-2))%RM
theorem cC (x y:Nat):eG x y<RM:=Nat.mod_lt _ cW
theorem bI (x y:Nat):dE x y<RM:=Nat.mod_lt _ cW
theorem aE (x y:Nat):aI x y<RM:=Nat.mod_lt _ cW
theorem rK (x:Nat):SX x<RM:=Nat.mod_lt _ cW
theorem jK:FieldIs 2 Go.Proofs.YtjeplinbleofnaaGreat.FR:=Or.inr ⟨rfl,rfl⟩
theorem gT {x:Nat} (h:x<RM):aA (fw x 0) (fw x 1) (fw x 2) (fw x 3)=x:=sM (fH h)
def YT (op:Nat→Nat→Nat):gH
 | [.v (.im (.int .i64 2)),.v (.fl l),.v (.fl m)]=>match lX l,lX m with
  | some x,some y=>some ([x<RM,y<RM],.many [.fl [.q (op x y)],.im (.int .i64 0)])
  | _,_=>none
 | _=>none
theorem DC {fid:FuncId} {op:Nat→Nat→Nat} (hlt:∀x y,op x y<RM) (h:∀x y,x<RM→y<RM→∀w,Calls prog fid #[.int .i64 2,.agg (aD [At.q x]).toArray,.agg (aD [At.q y]).toArray] w (TA 0 (op x y) w)) :
  ∀cs pre r,YT op cs=some (pre,r)→aP pre→∀(args:List Value) (w:World),cE w cs args→bE prog fid r args w:=by
 intro cs pre r hg hp args w ha;unfold YT at hg;split at hg
 ·rename_i l m;split at hg
  ·rename_i x y hx hy;cases hg
   match args,ha with
   | [t,v,u],ha =>
    obtain⟨h1,h2,h3,_⟩:=ha;have h1:t=.int .i64 2:=h1;have h2:v=.agg (aD l).toArray:=h2;have h3:u=.agg (aD m).toArray:=h3;rw[bZ l x hx]at h2;rw[bZ m y hy]at h3;subst h1; subst h2; subst h3;refine (h x y hp.1 hp.2.1 w).mono ?_
    rintro e w' ⟨s0,s1,s2,s3,rfl,hs,hv,hb⟩
    obtain⟨rfl,rfl,rfl,rfl⟩:=eW hs (fH (hlt x y)) hv;exact⟨rfl,hb⟩
   | [],ha=>exact ha.elim
   | [_],ha=>exact ha.2.elim
   | [_,_],ha=>exact ha.2.2.elim
   | _::_::_::_::_,ha=>exact ha.2.2.2.elim
  ·cases hg
 ·cases hg
theorem Ji:∀cs pre r,YT eG cs=some (pre,r)→aP pre→∀(args:List Value) (w:World),cE w cs args→bE prog 115 r args w :=
 DC cC fun x y hx hy w=>by
  have:=WQ 2 _ jK _ _ _ _ _ _ _ _ (cJ x) (cJ y) (by rw[gT hx]; exact hx) (by rw[gT hy]; exact hy) w;rw[gT hx,gT hy]at this;exact this
theorem Jf:∀cs pre r,YT dE cs=some (pre,r)→aP pre→∀(args:List Value) (w:World),cE w cs args→bE prog 93 r args w :=
 DC bI fun x y hx hy w=>by
  have:=WL 2 _ jK _ _ _ _ _ _ _ _ (cJ x) (cJ y) (by rw[gT hx]; exact hx) (by rw[gT hy]; exact hy) w;rw[gT hx,gT hy]at this;exact this
theorem Jg:∀cs pre r,YT aI cs=some (pre,r)→aP pre→∀(args:List Value) (w:World),cE w cs args→bE prog 106 r args w :=
 DC aE fun x y hx hy w=>by
  have:=WN 2 _ jK _ _ _ _ _ _ _ _ (cJ x) (cJ y) (by rw[gT hx]; exact hx) (by rw[gT hy]; exact hy) w;rw[gT hx,gT hy]at this;exact this
def RS (x:Nat):Int:=if x<RM then 0 else 21
def Eb:gH
 | [.v (.im (.int .i64 2)),.v (.fl l)]=>match lX l with
  | some x=>some ([x<aU],.one (.im (.int .i64 (RS x))))
  | none=>none
 | _=>none
theorem UN:∀cs pre r,Eb cs=some (pre,r)→aP pre→∀(args:List Value) (w:World),cE w cs args→bE prog 100 r args w:=by
 intro cs pre r hg hp args w ha;unfold Eb at hg;split at hg
 ·rename_i l;split at hg
  ·rename_i x hx;cases hg
   match args,ha with
   | [t,v],ha =>
    obtain⟨h1,h2,_⟩:=ha;have h1:t=.int .i64 2:=h1;have h2:v=.agg (aD l).toArray:=h2;rw[bZ l x hx]at h2;subst h1; subst h2;unfold RS
    by_cases h:x<RM
    ·rw[if_pos h];exact KX 2 _ jK _ _ _ _ (cJ x) (by rw[sM hp.1]; exact h) w
    ·rw[if_neg h];exact DI 2 21 _ _ _ _ (cJ x) (Or.inr ⟨_,jK,by rw[sM hp.1]; exact h,rfl⟩) w
   | [],ha=>exact ha.elim
   | [_],ha=>exact ha.2.elim
   | _::_::_::_,ha=>exact ha.2.2.elim
  ·cases hg
 ·cases hg
theorem cT:1<RM:=by decide
def KR:CR (Fin RM):=Pu RM cT
def dS (x:Nat):Fin RM:=⟨x%RM,Nat.mod_lt _ cW⟩
theorem jC (x y:Nat):dS (eG x y)=KR.add (dS x) (dS y):=Fin.ext (by
 show (x+y)%RM%RM=(x%RM+y%RM)%RM;rw[Nat.mod_mod,Nat.add_mod])
theorem dD (x y:Nat):dS (aI x y)=KR.mul (dS x) (dS y):=Fin.ext (by
 show x*y%RM%RM=(x%RM)*(y%RM)%RM;rw[Nat.mod_mod,Nat.mul_mod])
theorem TH (x:Nat) {y:Nat} (hy:y<RM):dS (dE x y)=KR.add (dS x) (KR.neg (dS y)):=Fin.ext (by
 show (x+RM-y)%RM%RM=(x%RM+(0+RM-y%RM)%RM)%RM;rw[Nat.mod_mod,Nat.mod_eq_of_lt hy,Nat.mod_add_mod,Nat.add_mod_mod,show x+(0+RM-y)=x+RM-y by omega])
theorem lH {x:Nat} (h:x<RM):(dS x).1=x:=Nat.mod_eq_of_lt h
theorem vD {x y:Nat} (hx:x<RM) (hy:y<RM) (h:dS x=dS y):x=y:=by
 have:=congrArg Fin.val h
 rwa [lH hx,lH hy]at this
theorem MQ:dS 0=KR.zero:=rfl
theorem ER:dS 1=KR.one:=Fin.ext (Nat.mod_eq_of_lt cT)
open Classical
section
variable {R:Type} (K:CR R) (inv:R→R)
abbrev Jc (R:Type):=R×R×R
def AT (p:Jc R):Pt R:=if p.2.2=K.zero then none else some (K.mul p.1 (K.mul (inv p.2.2) (inv p.2.2)),K.mul p.2.1 (K.mul (K.mul (inv p.2.2) (inv p.2.2)) (inv p.2.2)))
def Qg (p:Jc R):R:=K.add (K.add (K.mul p.1 p.1) (K.mul p.1 p.1)) (K.mul p.1 p.1)
def Qf (p:Jc R):R:=K.add (K.mul p.2.1 p.2.1) (K.mul p.2.1 p.2.1)
def Rg (p:Jc R):R:=K.add (Qf K p) (Qf K p)
def Qh (p:Jc R):R:=K.mul p.1 (Rg K p)
def dX (p:Jc R):R:=K.sub (K.mul (Qg K p) (Qg K p)) (K.add (Qh K p) (Qh K p))
def dY (p:Jc R):R:=K.sub (K.mul (Qg K p) (K.sub (Qh K p) (dX K p))) (K.mul (Rg K p) (Qf K p))
def VY (p:Jc R):Jc R:=(dX K p,dY K p,K.mul (K.add p.2.1 p.2.1) p.2.2)
variable {K} {inv} {b:R}
theorem kS {p:Jc R} (h:p.2.2=K.zero):AT K inv p=none:=if_pos h
theorem nO {p:Jc R} (h:p.2.2≠K.zero):AT K inv p=some (K.mul p.1 (K.mul (inv p.2.2) (inv p.2.2)),K.mul p.2.1 (K.mul (K.mul (inv p.2.2) (inv p.2.2)) (inv p.2.2))):=if_neg h
theorem IU (E:EC K inv b) {x y l:R} (hy:K.add y y≠K.zero) (h:K.mul l (K.add y y)=K.add (K.add (K.mul x x) (K.mul x x)) (K.mul x x)):nA K inv x y x y=l:=by
 unfold nA;rw[if_pos rfl];refine E.F.cancel hy ?_;have hi:=E.F.inv _ hy;generalize inv (K.add y y)=k at hi;exact jT (K:=K) (c1:=(K.add (K.add (K.mul x x) (K.mul x x)) (K.mul x x))) (c2:=(K.neg K.one)) hi h (aN K (bL K [y,x,k,l]) ((Z0+Z0)*((Z1*Z1+Z1*Z1+Z1*Z1)*Z2)-(Z0+Z0)*Z3) ((Z1*Z1+Z1*Z1+Z1*Z1)*((Z0+Z0)*Z2-RE.one)+(-RE.one)*(Z3*(Z0+Z0)-(Z1*Z1+Z1*Z1+Z1*Z1))) (by kernel_rfl))
theorem VT (E:EC K inv b) {p:Jc R} (hp:On K b (AT K inv p)):AT K inv (VY K p)=AS K inv (AT K inv p) (AT K inv p):=by
 obtain⟨x,y,z⟩:=p
 by_cases hz:z=K.zero
 ·have h1:AT K inv (x,y,z)=none:=kS hz;rw[h1];refine kS ?_;show K.mul (K.add y y) z=K.zero;rw[hz,K.mul_zero]
 ·have h1:=nO (K:=K) (inv:=inv) (p:=(x,y,z)) hz;rw[h1]at hp ⊢;dsimp only at hp ⊢;have hi:=E.F.inv z hz;generalize inv z=i at hi hp ⊢;have hY:=E.y_ne (show K.mul (K.mul y (K.mul (K.mul i i) i)) (K.mul y (K.mul (K.mul i i) i))=_ from hp);have hy:y≠K.zero:=fun e=>hY (by rw[e,K.zero_mul])
  have hyy:=E.dbl_ne hy;have hz3:K.mul (K.add y y) z≠K.zero:=E.F.mul_ne hyy hz;have h3:=nO (K:=K) (inv:=inv) (p:=VY K (x,y,z)) hz3;rw[h3];show some (K.mul (dX K (x,y,z)) (K.mul (inv (K.mul (K.add y y) z)) (inv (K.mul (K.add y y) z))),K.mul (dY K (x,y,z)) (K.mul (K.mul (inv (K.mul (K.add y y) z)) (inv (K.mul (K.add y y) z))) (inv (K.mul (K.add y y) z))))=_;have hj:=E.F.inv _ hz3;generalize inv (K.mul (K.add y y) z)=j at hj ⊢;have e:i=K.mul (K.add y y) j:=jT (K:=K) (c1:=(K.neg i)) (c2:=(K.mul (K.add y y) j)) hj hi (aN K (bL K [i,y,j,z]) (Z0-(Z1+Z1)*Z2) ((-Z0)*((Z1+Z1)*Z3*Z2-RE.one)+(Z1+Z1)*Z2*(Z3*Z0-RE.one)) (by kernel_rfl));subst e;have hYY:=E.dbl_ne hY;rw[qM (fun h=>hYY h.2)];dsimp only;have hs:=IU (l:=(K.mul (K.add (K.add (K.mul x x) (K.mul x x)) (K.mul x x)) j)) (x:=(K.mul x (K.mul (K.mul (K.add y y) j) (K.mul (K.add y y) j)))) E hYY (aN K (bL K [x,j,y]) ((Z0*Z0+Z0*Z0+Z0*Z0)*Z1*(Z2*((Z2+Z2)*Z1*((Z2+Z2)*Z1)*((Z2+Z2)*Z1))+Z2*((Z2+Z2)*Z1*((Z2+Z2)*Z1)*((Z2+Z2)*Z1)))) (Z0*((Z2+Z2)*Z1*((Z2+Z2)*Z1))*(Z0*((Z2+Z2)*Z1*((Z2+Z2)*Z1)))+Z0*((Z2+Z2)*Z1*((Z2+Z2)*Z1))*(Z0*((Z2+Z2)*Z1*((Z2+Z2)*Z1)))+Z0*((Z2+Z2)*Z1*((Z2+Z2)*Z1))*(Z0*((Z2+Z2)*Z1*((Z2+Z2)*Z1)))) (by kernel_rfl));rw[hs];refine congrArg some (Prod.ext ?_ ?_)
  ·exact aN K (bL K [x,y,j]) (((Z0*Z0+Z0*Z0+Z0*Z0)*(Z0*Z0+Z0*Z0+Z0*Z0)-(Z0*(Z1*Z1+Z1*Z1+(Z1*Z1+Z1*Z1))+Z0*(Z1*Z1+Z1*Z1+(Z1*Z1+Z1*Z1))))*(Z2*Z2)) ((Z0*Z0+Z0*Z0+Z0*Z0)*Z2*((Z0*Z0+Z0*Z0+Z0*Z0)*Z2)-Z0*((Z1+Z1)*Z2*((Z1+Z1)*Z2))-Z0*((Z1+Z1)*Z2*((Z1+Z1)*Z2))) (by kernel_rfl)
  ·exact aN K (bL K [x,y,j]) (((Z0*Z0+Z0*Z0+Z0*Z0)*(Z0*(Z1*Z1+Z1*Z1+(Z1*Z1+Z1*Z1))-((Z0*Z0+Z0*Z0+Z0*Z0)*(Z0*Z0+Z0*Z0+Z0*Z0)-(Z0*(Z1*Z1+Z1*Z1+(Z1*Z1+Z1*Z1))+Z0*(Z1*Z1+Z1*Z1+(Z1*Z1+Z1*Z1)))))-(Z1*Z1+Z1*Z1+(Z1*Z1+Z1*Z1))*(Z1*Z1+Z1*Z1))*(Z2*Z2*Z2)) ((Z0*Z0+Z0*Z0+Z0*Z0)*Z2*(Z0*((Z1+Z1)*Z2*((Z1+Z1)*Z2))-((Z0*Z0+Z0*Z0+Z0*Z0)*Z2*((Z0*Z0+Z0*Z0+Z0*Z0)*Z2)-Z0*((Z1+Z1)*Z2*((Z1+Z1)*Z2))-Z0*((Z1+Z1)*Z2*((Z1+Z1)*Z2))))-Z1*((Z1+Z1)*Z2*((Z1+Z1)*Z2)*((Z1+Z1)*Z2))) (by kernel_rfl)
def PZ (K:CR R) (p:Jc R):Jc R:=(p.1,K.sub K.zero p.2.1,p.2.2)
theorem VS (p:Jc R):AT K inv (PZ K p)=YG K (AT K inv p):=by
 by_cases h:p.2.2=K.zero
 ·rw[kS h,kS (p:=PZ K p) h]; rfl
 ·rw[nO h,nO (p:=PZ K p) h];refine congrArg some (Prod.ext rfl ?_);show K.mul (K.sub K.zero p.2.1) _=K.neg (K.mul p.2.1 _);rw[←K.neg_mul];congr 1;exact K.zero_add _
end
namespace AG
variable {G:Type} (A:AG G)
theorem addz (a:G):A.add a A.zero=a:=by rw[A.comm,A.zadd]
theorem addn (a:G):A.add a (A.neg a)=A.zero:=by rw[A.comm,A.nadd]
theorem left_comm (a b c:G):A.add a (A.add b c)=A.add b (A.add a c):=by rw[←A.assoc,A.comm a b,A.assoc]
theorem cancel {a b c:G} (h:A.add a b=A.add a c):b=c:=by
 have:=congrArg (A.add (A.neg a)) h
 rwa [←A.assoc,←A.assoc,A.nadd,A.zadd,A.zadd]at this
theorem neg_add (a b:G):A.neg (A.add a b)=A.add (A.neg a) (A.neg b):=by
 apply A.cancel (a:=A.add a b);rw[A.addn,A.assoc,A.left_comm b,A.addn,A.addz,A.addn]
def ns:Nat→G→G
 | 0,_=>A.zero
 | n+1,g=>A.add (ns n g) g
theorem ns_add (m:Nat) (g:G):∀n,A.ns (m+n) g=A.add (A.ns m g) (A.ns n g)
 | 0=>(A.addz _).symm
 | n+1=>by show A.add (A.ns (m+n) g) g=A.add _ (A.add _ _); rw[ns_add m g n,A.assoc]
theorem ns_zero:∀n,A.ns n A.zero=A.zero
 | 0=>rfl
 | n+1=>by show A.add (A.ns n _) _=_; rw[ns_zero n,A.zadd]
theorem ns_mul (m:Nat) (g:G):∀n,A.ns (m*n) g=A.ns n (A.ns m g)
 | 0=>rfl
 | n+1=>by rw[Nat.mul_add,Nat.mul_one,ns_add,ns_mul m g n]; rfl
def zs:Int→G→G
 | .ofNat n,g=>A.ns n g
 | .negSucc n,g=>A.neg (A.ns (n+1) g)
end AG
def Mh (w:Nat):Int:=((w+1)/2:Nat)-(if 16≤w then 16 else 0:Int)
def Qk (x p:Nat):Nat:=(if p=0 then x*2 else x/2^(p*4-1))%32
def gU (x PL:Nat):Nat→Int
 | 0=>0
 | i+1=>16*gU x PL i+Mh (Qk x (PL-1-i))
open Classical
section
variable {R:Type} {K:CR R} {inv:R→R} {b:R}
def Rp (E:EC K inv b) (p:Jc R) (P:{p:Pt R // On K b p}):Prop:=AT K inv p=P.1
theorem Rp.on {E:EC K inv b} {p:Jc R} {P:{p:Pt R // On K b p}} (h:Rp E p P):On K b (AT K inv p):=by
 rw[show AT K inv p=P.1 from h]; exact P.2
theorem Rp.dbl {E:EC K inv b} {p:Jc R} {P:{p:Pt R // On K b p}} (h:Rp E p P):Rp E (VY K p) (E.grp.add P P):=by
 show AT K inv (VY K p)=AS K inv P.1 P.1;rw[VT E h.on,show AT K inv p=P.1 from h]
theorem Rp.neg {E:EC K inv b} {p:Jc R} {P:{p:Pt R // On K b p}} (h:Rp E p P):Rp E (PZ K p) (E.grp.neg P):=by
 show AT K inv (PZ K p)=YG K P.1;rw[VS,show AT K inv p=P.1 from h]
theorem Rp.zero {E:EC K inv b} {p:Jc R} (h:p.2.2=K.zero):Rp E p E.grp.zero:=kS h
end
namespace AG
variable {G:Type} (A:AG G)
end AG
namespace AG
variable {G:Type} (A:AG G)
theorem ns_modz {g:G} {n:Nat} (h:A.ns n g=A.zero) (m:Nat):A.ns (m%n) g=A.ns m g:=by
 conv=>rhs; rw[←Nat.div_add_mod m n,A.ns_add,A.ns_mul,h,A.ns_zero,A.zadd]
theorem ns_gcd {g:G} (a b:Nat):A.ns a g=A.zero→A.ns b g=A.zero→A.ns (Nat.gcd a b) g=A.zero:=by
 induction a,b using Nat.gcd.induction with
 | H0 n=>intro _ h; rw[Nat.gcd_zero_left]; exact h
 | H1 m n hm ih =>
  intro h1 h2;rw[Nat.gcd_rec];exact ih (by rw[A.ns_modz h1]; exact h2) h1
theorem exact {g:G} {N:Nat} {l:List Nat} (hl:l.foldr (· * ·) 1=N) (hp:∀q,q∈l→fA q) (h0:A.ns N g=A.zero) (hq:∀q,q∈l→A.ns (N/q) g≠A.zero) (k:Nat) (hk:0<k) (hN:k<N):A.ns k g≠A.zero:=fun h=>by
 have hd:=A.ns_gcd k N h h0;obtain⟨e,he⟩:=Nat.gcd_dvd_right k N;have hdk:Nat.gcd k N≤k:=Nat.le_of_dvd hk (Nat.gcd_dvd_left k N);have hd0:0<Nat.gcd k N:=Nat.gcd_pos_of_pos_left N hk;have he1:1<e:=by
  rcases Nat.lt_or_ge 1 e with q|q
  ·exact q
  ·have:Nat.gcd k N*e≤Nat.gcd k N*1:=Nat.mul_le_mul_left _ q;omega
 obtain⟨q,hql,f,hf⟩:=nE l e (by rw[hl]; exact⟨Nat.gcd k N,by rw[Nat.mul_comm]; exact he⟩) he1 hp;refine hq q hql ?_;have hq0:0<q:=Nat.lt_trans Nat.zero_lt_one (hp q hql).1;have e1:N/q=Nat.gcd k N*f:=by
  rw[Nat.div_eq_of_eq_mul_left hq0];rw[Nat.mul_assoc,Nat.mul_comm f q,←hf];exact he
 rw[e1,A.ns_mul,hd,A.ns_zero]
end AG
end Go.Proofs.YtjeplinbleofnaaGreat.Ex
namespace Go.Proofs.YtjeplinbleofnaaGreat
open Go.Proofs.Tryz
open Go.RowKit
theorem KIs.set4 {w:World} {b d:Nat} {F:FC} (h:KIs w b F) (hd:d≠b) (d0 d1 d2 d3:Nat):KIs (Go.Proofs.YtjeplinbleofnaaGreat.set4 w d d0 d1 d2 d3) b F:=(((h.other hd _).other hd _).other hd _).other hd _
theorem iY {a0 a1 a2 a3 b0 b1 b2 b3:Nat} (h:¬wO a0 a1 a2 a3 b0 b1 b2 b3=true):wO a0 a1 a2 a3 b0 b1 b2 b3=false:=by cases q:wO a0 a1 a2 a3 b0 b1 b2 b3 with|false=>rfl|true=>exact absurd q h
def XU (F:FC) (w:World) (e:Ending) (w':World):Prop :=
 ∃T H c0 c1 c2 c3:Nat,e=.returned (.tuple #[.int .i64 T,.agg #[.int .u64 c0,.int .u64 c1,.int .u64 c2,.int .u64 c3]])∧aX c0 c1 c2 c3∧1≤T∧T≤200∧F.M=2^T*(2*H+1)+1∧aA c0 c1 c2 c3^2^(T-1)%F.M=F.M-1∧Below w.heap.size w w'
theorem OP {n b e v:Nat} (he:e<2^256) (h:Nat.beq (pm n 256 b e) v=true):b^e%n=v:=by
 rw[←FF n 256 b e he]; exact Nat.eq_of_beq_eq_true h
theorem Et (e:Nat) (he:e=134217728):aA 11229192882073836016 4624371214017703636 63235024940837564 3043318377369730693^e%FR.M=FR.M-1 :=
 OP (n:=FR.M) (b:=aA 11229192882073836016 4624371214017703636 63235024940837564 3043318377369730693) (e:=e) (v:=FR.M-1) (by rw[he]; decide) (by rw[he]; kernel_rfl)
theorem Ly (T:Nat) (hT:T=28):aA 11229192882073836016 4624371214017703636 63235024940837564 3043318377369730693^2^(T-1)%FR.M=FR.M-1:=Et (2^(T-1)) (by rw[hT])
theorem Lz:aA 4332616871279656262 10917124144477883021 13281191951274694749 3486998266802970665^2^(1-1)%FP.M=FP.M-1:=by kernel_rfl
set_option maxHeartbeats 2000000 in
theorem pS (f:Int) (F:FC) (hf:FieldIs f F) (w:World):Calls prog 87 #[.int .i64 f] w (XU F w):=by
 rcases hf with⟨rfl,rfl⟩|⟨rfl,rfl⟩
 ·go_enter func87,ntmps87
  go_wp2_with fail;refine bodyPost_ret (v:=.tuple #[.int .i64 1,.agg #[.int .u64 4332616871279656262,.int .u64 10917124144477883021,.int .u64 13281191951274694749,.int .u64 3486998266802970665]]) (by simp[results,results87,go_sem]) rfl ?_;refine⟨1,5472060717959818805561601436314318772174077789324455915672259473661306552145,4332616871279656262,10917124144477883021,13281191951274694749,3486998266802970665,rfl,by unfold aX; decide,by omega,by omega,by kernel_rfl,Lz,?_⟩
  repeat (first|exact Below.refl _ _|refine Below.drew ?_|refine Below.alloc ?_ (by first|(simp; done)|(simp; omega)) _|refine Below.setCell ?_ (by simp) _)
 ·go_enter func87,ntmps87
  go_wp2_with fail;refine bodyPost_ret (v:=.tuple #[.int .i64 28,.agg #[.int .u64 11229192882073836016,.int .u64 4624371214017703636,.int .u64 63235024940837564,.int .u64 3043318377369730693]]) (by simp[results,results87,go_sem]) rfl ?_;refine⟨28,40770029410420498293352137776570907027550720424234931066070132305055,11229192882073836016,4624371214017703636,63235024940837564,3043318377369730693,rfl,by unfold aX; decide,by omega,by omega,by kernel_rfl,Ly 28 rfl,?_⟩
  repeat (first|exact Below.refl _ _|refine Below.drew ?_|refine Below.alloc ?_ (by first|(simp; done)|(simp; omega)) _|refine Below.setCell ?_ (by simp) _)
set_option maxHeartbeats 2000000 in
theorem KQ (f:Int) (F:FC) (hf:FieldIs f F) (a0 a1 a2 a3:Nat) (ha:aX a0 a1 a2 a3) (la:aA a0 a1 a2 a3<F.M) (hz:aA a0 a1 a2 a3=0) (w:World) :
  Calls prog 51 #[.int .i64 f,.agg #[.int .u64 a0,.int .u64 a1,.int .u64 a2,.int .u64 a3]] w (TA 0 0 w):=by
 have HE:=Lib.hid (show ∀w,(Op.equalIn 10000 24 (.agg #[.int .u64 a0,.int .u64 a1,.int .u64 a2,.int .u64 a3]) (.agg #[.int .u64 0,.int .u64 0,.int .u64 0,.int .u64 0])).run prog w=.ok true w from fun w=>by
  have h:=iX 9998 a0 a1 a2 a3 0 0 0 0 w;rw[show wO a0 a1 a2 a3 0 0 0 0=true from (fE ha vB).2 (hz.trans rfl)]at h;exact h)
 have hG:=iZ;clear hz
 go_enter func51,ntmps51
 go_wp2_with fail;refine (dA f F hf _).mono ?_
 rintro e w1 ⟨rfl,hbl⟩
 have M1:=(((Mem.nil w).new (w.heap.size) a0 a1 a2 a3 24 (by simp)).new (w.heap.size+1) 0 0 0 0 24 (by simp)).on hbl;clear hbl;have z0:w.heap.size<w1.heap.size:=M1.lt (c0:=a0) (c1:=a1) (c2:=a2) (c3:=a3) (by simp);have z1:w.heap.size+1<w1.heap.size:=M1.lt (c0:=0) (c1:=0) (c2:=0) (c3:=0) (by simp);have HM:=Lib.hid (M1.on ((Below.refl _ _).alloc (Nat.le_refl _) (.cells #[.int .u64 F.m0,.int .u64 F.m1,.int .u64 F.m2,.int .u64 F.m3,.int .u64 F.inv,.int .u64 F.s0,.int .u64 F.s1,.int .u64 F.s2,.int .u64 F.s3] 70)));have KK:=Lib.hid (KIs.new w1 F 70);have kr:=M1.row (b:=w.heap.size) (c0:=a0) (c1:=a1) (c2:=a2) (c3:=a3) (by simp);have x0:=kr.c0; have x1:=kr.c1; have x2:=kr.c2; have x3:=kr.c3;clear kr;have xl:=M1.lt (b:=w.heap.size) (c0:=a0) (c1:=a1) (c2:=a2) (c3:=a3) (by simp);go_wp2_with fail;refine (cF F hf.ok w1.heap.size a0 a1 a2 a3 ha _ KK.out).mono ?_
 rintro e w2 ⟨he,hbl⟩
 rw[show sI (aA a0 a1 a2 a3) F.M=true from decide_eq_true la]at he;subst he;have HM':=Lib.hid (HM.out.on hbl);have KK':=Lib.hid (KK.out.same hbl);have zk:=KK'.out.lt;clear HM KK hbl M1;have HM:=HM';have KK:=KK';clear HM' KK';clear x0 x1 x2 x3 xl zk;have kr:=HM.out.row (b:=w.heap.size) (c0:=a0) (c1:=a1) (c2:=a2) (c3:=a3) (by simp);have x0:=kr.c0; have x1:=kr.c1; have x2:=kr.c2; have x3:=kr.c3;clear kr;have xl:=HM.out.lt (b:=w.heap.size) (c0:=a0) (c1:=a1) (c2:=a2) (c3:=a3) (by simp);have kr:=HM.out.row (b:=w.heap.size+1) (c0:=0) (c1:=0) (c2:=0) (c3:=0) (by simp);have y0:=kr.c0; have y1:=kr.c1; have y2:=kr.c2; have y3:=kr.c3; have yf:=kr.fr;clear kr;have yl:=HM.out.lt (b:=w.heap.size+1) (c0:=0) (c1:=0) (c2:=0) (c3:=0) (by simp);have hE:=HE.out;go_wp2_with fail;refine bodyPost_ret (v:=.tuple #[.agg #[.int .u64 0,.int .u64 0,.int .u64 0,.int .u64 0],.int .i64 0]) (by simp[results,results51,go_sem, *]) rfl ?_;refine⟨_,_,_,_,rfl,vB,rfl,?_⟩;exact aL HM.out.1 (by omega) 0 0 0 0
theorem FX {F:FC} (hF:F.Ok) {v:Nat} (hv:v<F.M) (h:cH F.M v=false):(0+F.M-v)%F.M*((0+F.M-v)%F.M)%F.M=v*v%F.M∧(0+F.M-v)%F.M<F.M∧cH F.M ((0+F.M-v)%F.M)=true:=by
 unfold cH at *;have h':¬v≤(0+F.M-v)%F.M:=of_decide_eq_false h;have hp:=hF.pos;have v0:0<v:=by
  rcases Nat.eq_zero_or_pos v with q|q
  ·subst q; exact absurd (Nat.zero_le _) h'
  ·exact q
 rw[Nat.mod_eq_of_lt (show 0+F.M-v<F.M by omega)]at *;refine⟨?_,by omega,?_⟩
 ·obtain⟨d,hd⟩:∃d,F.M=v+d:=⟨F.M-v,by omega⟩
  have hdv:d<v:=by omega
  obtain⟨e,rfl⟩:∃e,v=d+e:=⟨v-d,by omega⟩
  rw[show 0+F.M-(d+e)=d by omega];have:(d+e)*(d+e)=d*d+F.M*e:=by
   rw[hd]; simp only[Nat.add_mul,Nat.mul_add,Nat.mul_comm e d]; omega
  rw[this,Nat.add_mul_mod_self_left]
 ·rw[decide_eq_true_iff,show 0+F.M-(0+F.M-v)=v by omega,Nat.mod_eq_of_lt hv]; omega
set_option maxHeartbeats 2000000 in
theorem wL (f:Int) (F:FC) (hf:FieldIs f F) (a0 a1 a2 a3:Nat) (ha:aX a0 a1 a2 a3) (la:aA a0 a1 a2 a3<F.M) (hz:aA a0 a1 a2 a3≠0) (hs2:aA a0 a1 a2 a3^(F.M/2)%F.M=1) (w:World) :
  Calls prog 51 #[.int .i64 f,.agg #[.int .u64 a0,.int .u64 a1,.int .u64 a2,.int .u64 a3]] w (fun e w'=>∃V,TA 0 V w e w'∧V*V%F.M=aA a0 a1 a2 a3∧V<F.M∧cH F.M V=true):=by
 have HE:=Lib.hid (show ∀w,(Op.equalIn 10000 24 (.agg #[.int .u64 a0,.int .u64 a1,.int .u64 a2,.int .u64 a3]) (.agg #[.int .u64 0,.int .u64 0,.int .u64 0,.int .u64 0])).run prog w=.ok false w from fun w=>by
  have h:=iX 9998 a0 a1 a2 a3 0 0 0 0 w;rw[show wO a0 a1 a2 a3 0 0 0 0=false from iY (fun q=>hz (((fE ha vB).1 q).trans rfl))]at h;exact h)
 have hG:=iZ;have HS2:=Lib.hid hs2;have HZ:=Lib.hid hz;clear hz hs2
 go_enter func51,ntmps51
 go_wp2_with fail;refine (dA f F hf _).mono ?_
 rintro e w1 ⟨rfl,hbl⟩
 have M1:=(((Mem.nil w).new (w.heap.size) a0 a1 a2 a3 24 (by simp)).new (w.heap.size+1) 0 0 0 0 24 (by simp)).on hbl;clear hbl;have z0:w.heap.size<w1.heap.size:=M1.lt (c0:=a0) (c1:=a1) (c2:=a2) (c3:=a3) (by simp);have z1:w.heap.size+1<w1.heap.size:=M1.lt (c0:=0) (c1:=0) (c2:=0) (c3:=0) (by simp);have HM:=Lib.hid (M1.on ((Below.refl _ _).alloc (Nat.le_refl _) (.cells #[.int .u64 F.m0,.int .u64 F.m1,.int .u64 F.m2,.int .u64 F.m3,.int .u64 F.inv,.int .u64 F.s0,.int .u64 F.s1,.int .u64 F.s2,.int .u64 F.s3] 70)));have KK:=Lib.hid (KIs.new w1 F 70);have kr:=M1.row (b:=w.heap.size) (c0:=a0) (c1:=a1) (c2:=a2) (c3:=a3) (by simp);have x0:=kr.c0; have x1:=kr.c1; have x2:=kr.c2; have x3:=kr.c3;clear kr;have xl:=M1.lt (b:=w.heap.size) (c0:=a0) (c1:=a1) (c2:=a2) (c3:=a3) (by simp);go_wp2_with fail;refine (cF F hf.ok w1.heap.size a0 a1 a2 a3 ha _ KK.out).mono ?_
 rintro e w2 ⟨he,hbl⟩
 rw[show sI (aA a0 a1 a2 a3) F.M=true from decide_eq_true la]at he;subst he;have HM':=Lib.hid (HM.out.on hbl);have KK':=Lib.hid (KK.out.same hbl);have zk:=KK'.out.lt;clear HM KK hbl M1;have HM:=HM';have KK:=KK';clear HM' KK';clear x0 x1 x2 x3 xl zk;have kr:=HM.out.row (b:=w.heap.size) (c0:=a0) (c1:=a1) (c2:=a2) (c3:=a3) (by simp);have x0:=kr.c0; have x1:=kr.c1; have x2:=kr.c2; have x3:=kr.c3;clear kr;have xl:=HM.out.lt (b:=w.heap.size) (c0:=a0) (c1:=a1) (c2:=a2) (c3:=a3) (by simp);have hE:=HE.out;go_wp2_with fail;clear hE x0 x1 x2 x3 xl;refine (pS f F hf _).mono ?_
 rintro e w3 ⟨T,H,c0,c1,c2,c3,rfl,hc,hT1,hT2,hMT,hcyc,hbl⟩
 have HMT:=Lib.hid hMT;have HCY:=Lib.hid hcyc;clear hMT hcyc;have HM':=Lib.hid (HM.out.on hbl);have KK':=Lib.hid (KK.out.same hbl);have zk:=KK'.out.lt;clear HM KK hbl;have HM:=HM';have KK:=KK';clear HM' KK';clear zk;have wz:w1.heap.size<w3.heap.size:=KK.out.lt;have HM':=Lib.hid (HM.out.new w3.heap.size c0 c1 c2 c3 24 rfl);have KK':=Lib.hid (KK.out.same ((Below.refl _ _).alloc (Nat.le_refl _) (.cells #[.int .u64 c0,.int .u64 c1,.int .u64 c2,.int .u64 c3] 24)));clear HM KK;have HM:=HM';have KK:=KK';clear HM' KK';clear HE hG
 go_upto_region 7 with fail
 go_cut [10,11] (fun s10 s11 wx=>∃gb s0 s1 s2 s3:Nat,s10=.pointer (some ⟨gb,0,none⟩)∧s11=.bool true∧aX s0 s1 s2 s3∧Hid (∃R,aA s0 s1 s2 s3=kp F R∧R*R%F.M=aA a0 a1 a2 a3%F.M)∧Hid (Mem w wx [(gb,s0,s1,s2,s3),(w.heap.size+1,0,0,0,0)])∧Hid (KIs wx w1.heap.size F))
 case first =>
  obtain⟨gr,hroot⟩:=hf.root;have HRo:=Lib.hid hroot;clear hroot;refine bK (fun wx=>Mem w wx [(w3.heap.size,c0,c1,c2,c3),(w.heap.size+1,0,0,0,0),(w.heap.size,a0,a1,a2,a3)]∧KIs wx w1.heap.size F) 11 (by kernel_rfl) ?_;have HM':=Lib.hid (HM.out.drewN 1);have KK':=Lib.hid (KK.out.drewN 1);clear HM KK;have HM:=HM';have KK:=KK';clear HM' KK';have HS:=And.intro (HM.out.sub (rs':=[(w3.heap.size,c0,c1,c2,c3),(w.heap.size+1,0,0,0,0),(w.heap.size,a0,a1,a2,a3)]) (by simp)) KK.out;refine aB (i:=0) (v:=.agg #[.int .u64 a0,.int .u64 a1,.int .u64 a2,.int .u64 a3]) rfl (by kernel_rfl) (by kernel_rfl) (by kernel_rfl) (by kernel_rfl) (fun _ _ _ h=>h) HS (Or.inl ⟨by kernel_rfl,fun wx hx => ?_⟩) ?_
  ·have kr:=hx.1.row (b:=w.heap.size) (c0:=a0) (c1:=a1) (c2:=a2) (c3:=a3) (by simp);have x0:=kr.c0; have x1:=kr.c1; have x2:=kr.c2; have x3:=kr.c3;clear kr HS hx;go_simp
  simp only[Act.put,List.setIfInBounds_toArray,List.set_cons_zero,List.set_cons_succ];refine aB (i:=2) (v:=.int .i64 (T:Nat)) rfl (by kernel_rfl) (by kernel_rfl) (by kernel_rfl) (by kernel_rfl) (fun _ _ _ h=>h) HS (Or.inl ⟨by kernel_rfl,fun wx hx => ?_⟩) ?_
  ·clear HS hx;go_simp
  simp only[Act.put,List.setIfInBounds_toArray,List.set_cons_zero,List.set_cons_succ];refine aB (i:=3) (v:=.agg #[.int .u64 c0,.int .u64 c1,.int .u64 c2,.int .u64 c3]) rfl (by kernel_rfl) (by kernel_rfl) (by kernel_rfl) (by kernel_rfl) (fun _ _ _ h=>h) HS (Or.inl ⟨by kernel_rfl,fun wx hx => ?_⟩) ?_
  ·have kr:=hx.1.row (b:=w3.heap.size) (c0:=c0) (c1:=c1) (c2:=c2) (c3:=c3) (by simp);have x0:=kr.c0; have x1:=kr.c1; have x2:=kr.c2; have x3:=kr.c3;clear kr HS hx;go_simp
  simp only[Act.put,List.setIfInBounds_toArray,List.set_cons_zero,List.set_cons_succ];clear HS;refine bU (i:=1) (j:=9) (by kernel_rfl) rfl rfl (fun K hK => ?_) (fun K hK => ?_)
  ·go_simp;refine (cM F hf.ok w1.heap.size a0 a1 a2 a3 ha _ KK.out).mono ?_
   rintro e v1 ⟨i0,i1,i2,i3,rfl,hi,hv,hbl⟩
   have HVi:=Lib.hid hv;clear hv;have HM':=Lib.hid (HM.out.on hbl);have KK':=Lib.hid (KK.out.same hbl);clear HM KK hbl;have HM:=HM';have KK:=KK';clear HM' KK';have HS:=And.intro (HM.out.sub (rs':=[(w3.heap.size,c0,c1,c2,c3),(w.heap.size+1,0,0,0,0),(w.heap.size,a0,a1,a2,a3)]) (by simp)) KK.out;refine hK.out _ _ (Or.inr HS) (fun _ => ?_);clear hK K HS;refine bU (i:=4) (j:=9) (by kernel_rfl) rfl rfl (fun K hK => ?_) (fun K hK => ?_)
   ·go_simp;refine (cM F hf.ok w1.heap.size c0 c1 c2 c3 hc _ KK.out).mono ?_
    rintro e v2 ⟨j0,j1,j2,j3,rfl,hj,hv,hbl⟩
    have HVj:=Lib.hid hv;clear hv;have HM':=Lib.hid (HM.out.on hbl);have KK':=Lib.hid (KK.out.same hbl);clear HM KK hbl;have HM:=HM';have KK:=KK';clear HM' KK';have HS:=And.intro (HM.out.sub (rs':=[(w3.heap.size,c0,c1,c2,c3),(w.heap.size+1,0,0,0,0),(w.heap.size,a0,a1,a2,a3)]) (by simp)) KK.out;refine hK.out _ _ (Or.inr HS) (fun _ => ?_);clear hK K HS;refine bU (i:=5) (j:=9) (by kernel_rfl) rfl rfl (fun K hK => ?_) (fun K hK => ?_)
    ·go_simp;refine (nC F hf.ok gr HRo.out (aA a0 a1 a2 a3) H T (aA c0 c1 c2 c3) w1.heap.size i0 i1 i2 i3 j0 j1 j2 j3 hi hj HVi.out HVj.out hT1 hT2 HMT.out HCY.out HS2.out _ KK.out).mono ?_
     rintro e v3 ⟨s0,s1,s2,s3,R,rfl,hs,hv,hRR,hbl⟩
     have HVs:=Lib.hid (show ∃R,aA s0 s1 s2 s3=kp F R∧R*R%F.M=aA a0 a1 a2 a3%F.M from⟨R,hv,hRR⟩);clear hv hRR;have HM':=Lib.hid (HM.out.on hbl);have KK':=Lib.hid (KK.out.same hbl);clear HM KK hbl;have HM:=HM';have KK:=KK';clear HM' KK';have HS:=And.intro (HM.out.sub (rs':=[(w3.heap.size,c0,c1,c2,c3),(w.heap.size+1,0,0,0,0),(w.heap.size,a0,a1,a2,a3)]) (by simp)) KK.out;refine hK.out _ _ (Or.inr HS) (fun _ => ?_);clear hK K HS;have HS:=And.intro (HM.out.sub (rs':=[(w3.heap.size,c0,c1,c2,c3),(w.heap.size+1,0,0,0,0),(w.heap.size,a0,a1,a2,a3)]) (by simp)) KK.out;refine aB (i:=6) (v:=.tuple #[.agg #[.int .u64 s0,.int .u64 s1,.int .u64 s2,.int .u64 s3],.bool true]) rfl (by kernel_rfl) (by kernel_rfl) (by kernel_rfl) (by kernel_rfl) (fun _ _ _ h=>h) HS (Or.inl ⟨by kernel_rfl,fun wx hx => ?_⟩) ?_
     ·clear HS hx;go_simp
     simp only[Act.put,List.setIfInBounds_toArray,List.set_cons_zero,List.set_cons_succ];refine aB (i:=7) (v:=.agg #[.int .u64 s0,.int .u64 s1,.int .u64 s2,.int .u64 s3]) rfl (by kernel_rfl) (by kernel_rfl) (by kernel_rfl) (by kernel_rfl) (fun _ _ _ h=>h) HS (Or.inl ⟨by kernel_rfl,fun wx hx => ?_⟩) ?_
     ·clear HS hx;go_simp
     simp only[Act.put,List.setIfInBounds_toArray,List.set_cons_zero,List.set_cons_succ];refine aB (i:=8) (v:=.bool true) rfl (by kernel_rfl) (by kernel_rfl) (by kernel_rfl) (by kernel_rfl) (fun _ _ _ h=>h) HS (Or.inl ⟨by kernel_rfl,fun wx hx => ?_⟩) ?_
     ·clear HS hx;go_simp
     simp only[Act.put,List.setIfInBounds_toArray,List.set_cons_zero,List.set_cons_succ];clear HS;refine aC (i:=9) (by kernel_rfl) rfl (fun K hK => ?_);go_simp;have HM9:=HM;have KK9:=KK;have HM':=Lib.hid (HM.out.new (v3.heap.size) 0 0 0 0 68 (by first|rfl|(simp; done)));have KK':=Lib.hid (KK.out.same ((Below.refl _ _).alloc (Nat.le_refl _) (.cells #[.int .u64 (0:Nat),.int .u64 (0:Nat),.int .u64 (0:Nat),.int .u64 (0:Nat)] 68)));have hgk:w1.heap.size<(v3.heap.size):=by first|omega|exact KK.out.lt|(have:=KK.out.lt; simpa using this)
     have hgc:w3.heap.size<(v3.heap.size):=by first|omega|exact HM.out.lt (b:=w3.heap.size) (c0:=c0) (c1:=c1) (c2:=c2) (c3:=c3) (by simp)
     have hga:w.heap.size+1<(v3.heap.size):=by omega
     clear HM KK;have HM:=HM';have KK:=KK';clear HM' KK';have HS:=And.intro (HM.out.sub (rs':=[(w3.heap.size,c0,c1,c2,c3),(w.heap.size+1,0,0,0,0),(w.heap.size,a0,a1,a2,a3)]) (by simp)) KK.out;refine hK.out _ _ (Or.inr HS) (fun _ => ?_);clear hK K HS;have kr:=HM.out.row (b:=(v3.heap.size)) (c0:=0) (c1:=0) (c2:=0) (c3:=0) (by simp);have yl:=HM.out.lt (b:=(v3.heap.size)) (c0:=0) (c1:=0) (c2:=0) (c3:=0) (by simp);have y0:=kr.c0; have y1:=kr.c1; have y2:=kr.c2; have y3:=kr.c3; have yf:=kr.fr;clear kr;refine aC (i:=10) (by kernel_rfl) rfl (fun K hK => ?_);go_simp;have HM':=Lib.hid (HM9.out.new (v3.heap.size) s0 s1 s2 s3 68 (by first|rfl|(simp; done)));have KK':=Lib.hid (KK9.out.same ((Below.refl _ _).alloc (Nat.le_refl _) (.cells #[.int .u64 s0,.int .u64 s1,.int .u64 s2,.int .u64 s3] 68)));clear HM KK;have HM:=HM';have KK:=KK';clear HM' KK';have HS:=And.intro (HM.out.sub (rs':=[(w3.heap.size,c0,c1,c2,c3),(w.heap.size+1,0,0,0,0),(w.heap.size,a0,a1,a2,a3)]) (by simp)) KK.out;refine hK.out _ _ (Or.inr HS) (fun _ => ?_);clear hK K HS;refine aC (i:=11) (by kernel_rfl) rfl (fun K hK => ?_);go_simp;refine hK.out _ _ (Or.inl rfl) (fun _ => ?_);clear hK K;refine aQ (by kernel_rfl) ?_;go_wp2_with fail
     go_meet
     exact⟨(v3.heap.size),s0,s1,s2,s3,rfl,rfl,hs,HVs,Lib.hid (HM.out.sub (by simp)),KK⟩
    ·go_simp;have HM9:=HM;have KK9:=KK;have HM':=Lib.hid (HM.out.new (v2.heap.size) 0 0 0 0 68 (by first|rfl|(simp; done)));have KK':=Lib.hid (KK.out.same ((Below.refl _ _).alloc (Nat.le_refl _) (.cells #[.int .u64 (0:Nat),.int .u64 (0:Nat),.int .u64 (0:Nat),.int .u64 (0:Nat)] 68)));have hgk:w1.heap.size<(v2.heap.size):=by first|omega|exact KK.out.lt|(have:=KK.out.lt; simpa using this)
     have hgc:w3.heap.size<(v2.heap.size):=by first|omega|exact HM.out.lt (b:=w3.heap.size) (c0:=c0) (c1:=c1) (c2:=c2) (c3:=c3) (by simp)
     have hga:w.heap.size+1<(v2.heap.size):=by omega
     clear HM KK;have HM:=HM';have KK:=KK';clear HM' KK';have HS:=And.intro (HM.out.sub (rs':=[(w3.heap.size,c0,c1,c2,c3),(w.heap.size+1,0,0,0,0),(w.heap.size,a0,a1,a2,a3)]) (by simp)) KK.out;refine hK.out _ _ (Or.inr HS) (fun _ => ?_);clear hK K HS;refine aC (i:=5) (by kernel_rfl) rfl (fun K hK => ?_);go_simp;refine (nC F hf.ok gr HRo.out (aA a0 a1 a2 a3) H T (aA c0 c1 c2 c3) w1.heap.size i0 i1 i2 i3 j0 j1 j2 j3 hi hj HVi.out HVj.out hT1 hT2 HMT.out HCY.out HS2.out _ KK.out).mono ?_
     rintro e v3 ⟨s0,s1,s2,s3,R,rfl,hs,hv,hRR,hbl⟩
     have HVs:=Lib.hid (show ∃R,aA s0 s1 s2 s3=kp F R∧R*R%F.M=aA a0 a1 a2 a3%F.M from⟨R,hv,hRR⟩);clear hv hRR;have HM':=Lib.hid (HM.out.on hbl);have KK':=Lib.hid (KK.out.same hbl);clear HM KK hbl;have HM:=HM';have KK:=KK';clear HM' KK';have HS:=And.intro (HM.out.sub (rs':=[(w3.heap.size,c0,c1,c2,c3),(w.heap.size+1,0,0,0,0),(w.heap.size,a0,a1,a2,a3)]) (by simp)) KK.out;refine hK.out _ _ (Or.inr HS) (fun _ => ?_);clear hK K HS;have HS:=And.intro (HM.out.sub (rs':=[(w3.heap.size,c0,c1,c2,c3),(w.heap.size+1,0,0,0,0),(w.heap.size,a0,a1,a2,a3)]) (by simp)) KK.out;refine aB (i:=6) (v:=.tuple #[.agg #[.int .u64 s0,.int .u64 s1,.int .u64 s2,.int .u64 s3],.bool true]) rfl (by kernel_rfl) (by kernel_rfl) (by kernel_rfl) (by kernel_rfl) (fun _ _ _ h=>h) HS (Or.inl ⟨by kernel_rfl,fun wx hx => ?_⟩) ?_
     ·clear HS hx;go_simp
     simp only[Act.put,List.setIfInBounds_toArray,List.set_cons_zero,List.set_cons_succ];refine aB (i:=7) (v:=.agg #[.int .u64 s0,.int .u64 s1,.int .u64 s2,.int .u64 s3]) rfl (by kernel_rfl) (by kernel_rfl) (by kernel_rfl) (by kernel_rfl) (fun _ _ _ h=>h) HS (Or.inl ⟨by kernel_rfl,fun wx hx => ?_⟩) ?_
     ·clear HS hx;go_simp
     simp only[Act.put,List.setIfInBounds_toArray,List.set_cons_zero,List.set_cons_succ];refine aB (i:=8) (v:=.bool true) rfl (by kernel_rfl) (by kernel_rfl) (by kernel_rfl) (by kernel_rfl) (fun _ _ _ h=>h) HS (Or.inl ⟨by kernel_rfl,fun wx hx => ?_⟩) ?_
     ·clear HS hx;go_simp
     simp only[Act.put,List.setIfInBounds_toArray,List.set_cons_zero,List.set_cons_succ];clear HS;have kr:=HM.out.row (b:=(v2.heap.size)) (c0:=0) (c1:=0) (c2:=0) (c3:=0) (by simp);have yl:=HM.out.lt (b:=(v2.heap.size)) (c0:=0) (c1:=0) (c2:=0) (c3:=0) (by simp);have y0:=kr.c0; have y1:=kr.c1; have y2:=kr.c2; have y3:=kr.c3; have yf:=kr.fr;clear kr;refine aC (i:=10) (by kernel_rfl) rfl (fun K hK => ?_);go_simp;have HM':=Lib.hid (HM.out.put s0 s1 s2 s3 (by omega) (by intro r hr; simp at hr; rcases hr with rfl|rfl|rfl<;>simp<;>omega));have KK':=Lib.hid (KK.out.set4 (d:=(v2.heap.size)) (by omega) s0 s1 s2 s3);clear HM KK;have HM:=HM';have KK:=KK';clear HM' KK';have HS:=And.intro (HM.out.sub (rs':=[(w3.heap.size,c0,c1,c2,c3),(w.heap.size+1,0,0,0,0),(w.heap.size,a0,a1,a2,a3)]) (by simp)) KK.out;refine hK.out _ _ (Or.inr HS) (fun _ => ?_);clear hK K HS;refine aC (i:=11) (by kernel_rfl) rfl (fun K hK => ?_);go_simp;refine hK.out _ _ (Or.inl rfl) (fun _ => ?_);clear hK K;refine aQ (by kernel_rfl) ?_;go_wp2_with fail
     go_meet
     exact⟨(v2.heap.size),s0,s1,s2,s3,rfl,rfl,hs,HVs,Lib.hid (HM.out.sub (by simp)),KK⟩
   ·go_simp;have HM9:=HM;have KK9:=KK;have HM':=Lib.hid (HM.out.new (v1.heap.size) 0 0 0 0 68 (by first|rfl|(simp; done)));have KK':=Lib.hid (KK.out.same ((Below.refl _ _).alloc (Nat.le_refl _) (.cells #[.int .u64 (0:Nat),.int .u64 (0:Nat),.int .u64 (0:Nat),.int .u64 (0:Nat)] 68)));have hgk:w1.heap.size<(v1.heap.size):=by first|omega|exact KK.out.lt|(have:=KK.out.lt; simpa using this)
    have hgc:w3.heap.size<(v1.heap.size):=by first|omega|exact HM.out.lt (b:=w3.heap.size) (c0:=c0) (c1:=c1) (c2:=c2) (c3:=c3) (by simp)
    have hga:w.heap.size+1<(v1.heap.size):=by omega
    clear HM KK;have HM:=HM';have KK:=KK';clear HM' KK';have HS:=And.intro (HM.out.sub (rs':=[(w3.heap.size,c0,c1,c2,c3),(w.heap.size+1,0,0,0,0),(w.heap.size,a0,a1,a2,a3)]) (by simp)) KK.out;refine hK.out _ _ (Or.inr HS) (fun _ => ?_);clear hK K HS;refine aC (i:=4) (by kernel_rfl) rfl (fun K hK => ?_);go_simp;refine (cM F hf.ok w1.heap.size c0 c1 c2 c3 hc _ KK.out).mono ?_
    rintro e v2 ⟨j0,j1,j2,j3,rfl,hj,hv,hbl⟩
    have HVj:=Lib.hid hv;clear hv;have HM':=Lib.hid (HM.out.on hbl);have KK':=Lib.hid (KK.out.same hbl);clear HM KK hbl;have HM:=HM';have KK:=KK';clear HM' KK';have HS:=And.intro (HM.out.sub (rs':=[(w3.heap.size,c0,c1,c2,c3),(w.heap.size+1,0,0,0,0),(w.heap.size,a0,a1,a2,a3)]) (by simp)) KK.out;refine hK.out _ _ (Or.inr HS) (fun _ => ?_);clear hK K HS;refine aC (i:=5) (by kernel_rfl) rfl (fun K hK => ?_);go_simp;refine (nC F hf.ok gr HRo.out (aA a0 a1 a2 a3) H T (aA c0 c1 c2 c3) w1.heap.size i0 i1 i2 i3 j0 j1 j2 j3 hi hj HVi.out HVj.out hT1 hT2 HMT.out HCY.out HS2.out _ KK.out).mono ?_
    rintro e v3 ⟨s0,s1,s2,s3,R,rfl,hs,hv,hRR,hbl⟩
    have HVs:=Lib.hid (show ∃R,aA s0 s1 s2 s3=kp F R∧R*R%F.M=aA a0 a1 a2 a3%F.M from⟨R,hv,hRR⟩);clear hv hRR;have HM':=Lib.hid (HM.out.on hbl);have KK':=Lib.hid (KK.out.same hbl);clear HM KK hbl;have HM:=HM';have KK:=KK';clear HM' KK';have HS:=And.intro (HM.out.sub (rs':=[(w3.heap.size,c0,c1,c2,c3),(w.heap.size+1,0,0,0,0),(w.heap.size,a0,a1,a2,a3)]) (by simp)) KK.out;refine hK.out _ _ (Or.inr HS) (fun _ => ?_);clear hK K HS;have HS:=And.intro (HM.out.sub (rs':=[(w3.heap.size,c0,c1,c2,c3),(w.heap.size+1,0,0,0,0),(w.heap.size,a0,a1,a2,a3)]) (by simp)) KK.out;refine aB (i:=6) (v:=.tuple #[.agg #[.int .u64 s0,.int .u64 s1,.int .u64 s2,.int .u64 s3],.bool true]) rfl (by kernel_rfl) (by kernel_rfl) (by kernel_rfl) (by kernel_rfl) (fun _ _ _ h=>h) HS (Or.inl ⟨by kernel_rfl,fun wx hx => ?_⟩) ?_
    ·clear HS hx;go_simp
    simp only[Act.put,List.setIfInBounds_toArray,List.set_cons_zero,List.set_cons_succ];refine aB (i:=7) (v:=.agg #[.int .u64 s0,.int .u64 s1,.int .u64 s2,.int .u64 s3]) rfl (by kernel_rfl) (by kernel_rfl) (by kernel_rfl) (by kernel_rfl) (fun _ _ _ h=>h) HS (Or.inl ⟨by kernel_rfl,fun wx hx => ?_⟩) ?_
    ·clear HS hx;go_simp
    simp only[Act.put,List.setIfInBounds_toArray,List.set_cons_zero,List.set_cons_succ];refine aB (i:=8) (v:=.bool true) rfl (by kernel_rfl) (by kernel_rfl) (by kernel_rfl) (by kernel_rfl) (fun _ _ _ h=>h) HS (Or.inl ⟨by kernel_rfl,fun wx hx => ?_⟩) ?_
    ·clear HS hx;go_simp
    simp only[Act.put,List.setIfInBounds_toArray,List.set_cons_zero,List.set_cons_succ];clear HS;have kr:=HM.out.row (b:=(v1.heap.size)) (c0:=0) (c1:=0) (c2:=0) (c3:=0) (by simp);have yl:=HM.out.lt (b:=(v1.heap.size)) (c0:=0) (c1:=0) (c2:=0) (c3:=0) (by simp);have y0:=kr.c0; have y1:=kr.c1; have y2:=kr.c2; have y3:=kr.c3; have yf:=kr.fr;clear kr;refine aC (i:=10) (by kernel_rfl) rfl (fun K hK => ?_);go_simp;have HM':=Lib.hid (HM.out.put s0 s1 s2 s3 (by omega) (by intro r hr; simp at hr; rcases hr with rfl|rfl|rfl<;>simp<;>omega));have KK':=Lib.hid (KK.out.set4 (d:=(v1.heap.size)) (by omega) s0 s1 s2 s3);clear HM KK;have HM:=HM';have KK:=KK';clear HM' KK';have HS:=And.intro (HM.out.sub (rs':=[(w3.heap.size,c0,c1,c2,c3),(w.heap.size+1,0,0,0,0),(w.heap.size,a0,a1,a2,a3)]) (by simp)) KK.out;refine hK.out _ _ (Or.inr HS) (fun _ => ?_);clear hK K HS;refine aC (i:=11) (by kernel_rfl) rfl (fun K hK => ?_);go_simp;refine hK.out _ _ (Or.inl rfl) (fun _ => ?_);clear hK K;refine aQ (by kernel_rfl) ?_;go_wp2_with fail
    go_meet
    exact⟨(v1.heap.size),s0,s1,s2,s3,rfl,rfl,hs,HVs,Lib.hid (HM.out.sub (by simp)),KK⟩
  ·go_simp;have HM9:=HM;have KK9:=KK;have HM':=Lib.hid (HM.out.new (w3.heap.size+1) 0 0 0 0 68 (by first|rfl|(simp; done)));have KK':=Lib.hid (KK.out.same ((Below.refl _ _).alloc (Nat.le_refl _) (.cells #[.int .u64 (0:Nat),.int .u64 (0:Nat),.int .u64 (0:Nat),.int .u64 (0:Nat)] 68)));have hgk:w1.heap.size<(w3.heap.size+1):=by first|omega|exact KK.out.lt|(have:=KK.out.lt; simpa using this)
   have hgc:w3.heap.size<(w3.heap.size+1):=by first|omega|exact HM.out.lt (b:=w3.heap.size) (c0:=c0) (c1:=c1) (c2:=c2) (c3:=c3) (by simp)
   have hga:w.heap.size+1<(w3.heap.size+1):=by omega
   clear HM KK;have HM:=HM';have KK:=KK';clear HM' KK';have HS:=And.intro (HM.out.sub (rs':=[(w3.heap.size,c0,c1,c2,c3),(w.heap.size+1,0,0,0,0),(w.heap.size,a0,a1,a2,a3)]) (by simp)) KK.out;refine hK.out _ _ (Or.inr HS) (fun _ => ?_);clear hK K HS;refine aC (i:=1) (by kernel_rfl) rfl (fun K hK => ?_);go_simp;refine (cM F hf.ok w1.heap.size a0 a1 a2 a3 ha _ KK.out).mono ?_
   rintro e v1 ⟨i0,i1,i2,i3,rfl,hi,hv,hbl⟩
   have HVi:=Lib.hid hv;clear hv;have HM':=Lib.hid (HM.out.on hbl);have KK':=Lib.hid (KK.out.same hbl);clear HM KK hbl;have HM:=HM';have KK:=KK';clear HM' KK';have HS:=And.intro (HM.out.sub (rs':=[(w3.heap.size,c0,c1,c2,c3),(w.heap.size+1,0,0,0,0),(w.heap.size,a0,a1,a2,a3)]) (by simp)) KK.out;refine hK.out _ _ (Or.inr HS) (fun _ => ?_);clear hK K HS;refine aC (i:=4) (by kernel_rfl) rfl (fun K hK => ?_);go_simp;refine (cM F hf.ok w1.heap.size c0 c1 c2 c3 hc _ KK.out).mono ?_
   rintro e v2 ⟨j0,j1,j2,j3,rfl,hj,hv,hbl⟩
   have HVj:=Lib.hid hv;clear hv;have HM':=Lib.hid (HM.out.on hbl);have KK':=Lib.hid (KK.out.same hbl);clear HM KK hbl;have HM:=HM';have KK:=KK';clear HM' KK';have HS:=And.intro (HM.out.sub (rs':=[(w3.heap.size,c0,c1,c2,c3),(w.heap.size+1,0,0,0,0),(w.heap.size,a0,a1,a2,a3)]) (by simp)) KK.out;refine hK.out _ _ (Or.inr HS) (fun _ => ?_);clear hK K HS;refine aC (i:=5) (by kernel_rfl) rfl (fun K hK => ?_);go_simp;refine (nC F hf.ok gr HRo.out (aA a0 a1 a2 a3) H T (aA c0 c1 c2 c3) w1.heap.size i0 i1 i2 i3 j0 j1 j2 j3 hi hj HVi.out HVj.out hT1 hT2 HMT.out HCY.out HS2.out _ KK.out).mono ?_
   rintro e v3 ⟨s0,s1,s2,s3,R,rfl,hs,hv,hRR,hbl⟩
   have HVs:=Lib.hid (show ∃R,aA s0 s1 s2 s3=kp F R∧R*R%F.M=aA a0 a1 a2 a3%F.M from⟨R,hv,hRR⟩);clear hv hRR;have HM':=Lib.hid (HM.out.on hbl);have KK':=Lib.hid (KK.out.same hbl);clear HM KK hbl;have HM:=HM';have KK:=KK';clear HM' KK';have HS:=And.intro (HM.out.sub (rs':=[(w3.heap.size,c0,c1,c2,c3),(w.heap.size+1,0,0,0,0),(w.heap.size,a0,a1,a2,a3)]) (by simp)) KK.out;refine hK.out _ _ (Or.inr HS) (fun _ => ?_);clear hK K HS;have HS:=And.intro (HM.out.sub (rs':=[(w3.heap.size,c0,c1,c2,c3),(w.heap.size+1,0,0,0,0),(w.heap.size,a0,a1,a2,a3)]) (by simp)) KK.out;refine aB (i:=6) (v:=.tuple #[.agg #[.int .u64 s0,.int .u64 s1,.int .u64 s2,.int .u64 s3],.bool true]) rfl (by kernel_rfl) (by kernel_rfl) (by kernel_rfl) (by kernel_rfl) (fun _ _ _ h=>h) HS (Or.inl ⟨by kernel_rfl,fun wx hx => ?_⟩) ?_
   ·clear HS hx;go_simp
   simp only[Act.put,List.setIfInBounds_toArray,List.set_cons_zero,List.set_cons_succ];refine aB (i:=7) (v:=.agg #[.int .u64 s0,.int .u64 s1,.int .u64 s2,.int .u64 s3]) rfl (by kernel_rfl) (by kernel_rfl) (by kernel_rfl) (by kernel_rfl) (fun _ _ _ h=>h) HS (Or.inl ⟨by kernel_rfl,fun wx hx => ?_⟩) ?_
   ·clear HS hx;go_simp
   simp only[Act.put,List.setIfInBounds_toArray,List.set_cons_zero,List.set_cons_succ];refine aB (i:=8) (v:=.bool true) rfl (by kernel_rfl) (by kernel_rfl) (by kernel_rfl) (by kernel_rfl) (fun _ _ _ h=>h) HS (Or.inl ⟨by kernel_rfl,fun wx hx => ?_⟩) ?_
   ·clear HS hx;go_simp
   simp only[Act.put,List.setIfInBounds_toArray,List.set_cons_zero,List.set_cons_succ];clear HS;have kr:=HM.out.row (b:=(w3.heap.size+1)) (c0:=0) (c1:=0) (c2:=0) (c3:=0) (by simp);have yl:=HM.out.lt (b:=(w3.heap.size+1)) (c0:=0) (c1:=0) (c2:=0) (c3:=0) (by simp);have y0:=kr.c0; have y1:=kr.c1; have y2:=kr.c2; have y3:=kr.c3; have yf:=kr.fr;clear kr;refine aC (i:=10) (by kernel_rfl) rfl (fun K hK => ?_);go_simp;have HM':=Lib.hid (HM.out.put s0 s1 s2 s3 (by omega) (by intro r hr; simp at hr; rcases hr with rfl|rfl|rfl<;>simp<;>omega));have KK':=Lib.hid (KK.out.set4 (d:=(w3.heap.size+1)) (by omega) s0 s1 s2 s3);clear HM KK;have HM:=HM';have KK:=KK';clear HM' KK';have HS:=And.intro (HM.out.sub (rs':=[(w3.heap.size,c0,c1,c2,c3),(w.heap.size+1,0,0,0,0),(w.heap.size,a0,a1,a2,a3)]) (by simp)) KK.out;refine hK.out _ _ (Or.inr HS) (fun _ => ?_);clear hK K HS;refine aC (i:=11) (by kernel_rfl) rfl (fun K hK => ?_);go_simp;refine hK.out _ _ (Or.inl rfl) (fun _ => ?_);clear hK K;refine aQ (by kernel_rfl) ?_;go_wp2_with fail
   go_meet
   exact⟨(w3.heap.size+1),s0,s1,s2,s3,rfl,rfl,hs,HVs,Lib.hid (HM.out.sub (by simp)),KK⟩
 case rest =>
  obtain⟨gb,s0,s1,s2,s3,rfl,rfl,hs,HVs,HM',KK'⟩:=hcut;clear HM KK;have HM:=HM';have KK:=KK';clear HM' KK';obtain⟨R,hR1,hR2⟩:=HVs.out;have HR1:=Lib.hid hR1;have HR2:=Lib.hid hR2;clear hR1 hR2 HVs;have kr:=HM.out.row (b:=gb) (c0:=s0) (c1:=s1) (c2:=s2) (c3:=s3) (by simp);have x0:=kr.c0; have x1:=kr.c1; have x2:=kr.c2; have x3:=kr.c3;clear kr;have xl:=HM.out.lt (b:=gb) (c0:=s0) (c1:=s1) (c2:=s2) (c3:=s3) (by simp);go_wp2_with fail;refine (JO F hf.ok w1.heap.size s0 s1 s2 s3 hs _ KK.out).mono ?_
  rintro e w5 ⟨u0,u1,u2,u3,rfl,hu,hv,hbl⟩
  have HVu:=Lib.hid (show aA u0 u1 u2 u3=R%F.M by rw[hv,HR1.out,←eV,CU hf.ok _ (Nat.mod_lt _ hf.ok.pos)]);have lu:aA u0 u1 u2 u3<F.M:=by rw[HVu.out]; exact Nat.mod_lt _ hf.ok.pos
  have HQ:=Lib.hid (show aA u0 u1 u2 u3*aA u0 u1 u2 u3%F.M=aA a0 a1 a2 a3 by rw[HVu.out,←Nat.mul_mod,HR2.out,Nat.mod_eq_of_lt la]);clear hv;have HM':=Lib.hid (HM.out.on hbl);have KK':=Lib.hid (KK.out.same hbl);have zk:=KK'.out.lt;clear HM KK hbl;have HM:=HM';have KK:=KK';clear HM' KK';have Hlu:=Lib.hid lu;clear lu zk x0 x1 x2 x3 xl;have wz5:w1.heap.size<w5.heap.size:=KK.out.lt;have wz6:w.heap.size+1<w5.heap.size:=HM.out.lt (b:=w.heap.size+1) (c0:=0) (c1:=0) (c2:=0) (c3:=0) (by simp);have HM':=Lib.hid ((HM.out.new w5.heap.size u0 u1 u2 u3 24 rfl).sub (rs':=[(w5.heap.size,u0,u1,u2,u3),(w.heap.size+1,0,0,0,0)]) (by simp));have KK':=Lib.hid (KK.out.same ((Below.refl _ _).alloc (Nat.le_refl _) (.cells #[.int .u64 u0,.int .u64 u1,.int .u64 u2,.int .u64 u3] 24)));clear HM KK;have HM:=HM';have KK:=KK';clear HM' KK';go_wp2_with fail;refine (mA F hf.ok w1.heap.size u0 u1 u2 u3 hu Hlu.out _ KK.out).mono ?_
  rintro e w6 ⟨he,hbl⟩
  have HM':=Lib.hid (HM.out.on hbl);have KK':=Lib.hid (KK.out.same hbl);clear HM KK hbl;have HM:=HM';have KK:=KK';clear HM' KK';cases q:cH F.M (aA u0 u1 u2 u3)
  ·rw[q]at he;subst he;have HQ2:=Lib.hid q;clear q;have kr:=HM.out.row (b:=w5.heap.size) (c0:=u0) (c1:=u1) (c2:=u2) (c3:=u3) (by simp);have x0:=kr.c0; have x1:=kr.c1; have x2:=kr.c2; have x3:=kr.c3;clear kr;have xl:=HM.out.lt (b:=w5.heap.size) (c0:=u0) (c1:=u1) (c2:=u2) (c3:=u3) (by simp);go_wp2_with fail;refine (kP F hf.ok w1.heap.size 0 0 0 0 u0 u1 u2 u3 vB hu hf.ok.pos Hlu.out _ KK.out).mono ?_
   rintro e w7 ⟨n0,n1,n2,n3,rfl,hn,hv,hbl⟩
   have HVn:=Lib.hid hv;clear hv;have HM':=Lib.hid (HM.out.on hbl);have KK':=Lib.hid (KK.out.same hbl);have zk:=KK'.out.lt;clear HM KK hbl;have HM:=HM';have KK:=KK';clear HM' KK';clear zk x0 x1 x2 x3 xl;have kr:=HM.out.row (b:=w5.heap.size) (c0:=u0) (c1:=u1) (c2:=u2) (c3:=u3) (by simp);have x0:=kr.c0; have x1:=kr.c1; have x2:=kr.c2; have x3:=kr.c3; have xf:=kr.fr;clear kr;have xl:=HM.out.lt (b:=w5.heap.size) (c0:=u0) (c1:=u1) (c2:=u2) (c3:=u3) (by simp);have kr:=HM.out.row (b:=w.heap.size+1) (c0:=0) (c1:=0) (c2:=0) (c3:=0) (by simp);have y0:=kr.c0; have y1:=kr.c1; have y2:=kr.c2; have y3:=kr.c3; have yf:=kr.fr;clear kr;have yl:=HM.out.lt (b:=w.heap.size+1) (c0:=0) (c1:=0) (c2:=0) (c3:=0) (by simp);have HM':=Lib.hid (HM.out.put n0 n1 n2 n3 (by omega) (by intro r hr; simp at hr; rcases hr with rfl; simp; omega));have ne1:¬w.heap.size+1=w5.heap.size:=by omega
   clear HM;have HM:=HM';clear HM';go_wp2_with fail;refine bodyPost_ret (v:=.tuple #[.agg #[.int .u64 n0,.int .u64 n1,.int .u64 n2,.int .u64 n3],.int .i64 0]) (by simp[results,results51,go_sem, *]) rfl ?_;obtain⟨v1,v2,v3⟩:=FX hf.ok Hlu.out HQ2.out;refine⟨_,⟨_,_,_,_,rfl,hn,HVn.out,?_⟩,?_,v2,v3⟩
   ·have HB:=HM.out.1;unfold set4 at HB;exact aL HB (by omega) _ _ _ _
   ·rw[show aA 0 0 0 0=0 from rfl,v1,HQ.out]
  ·rw[q]at he;subst he;have HQ2:=Lib.hid q;clear q;have kr:=HM.out.row (b:=w5.heap.size) (c0:=u0) (c1:=u1) (c2:=u2) (c3:=u3) (by simp);have x0:=kr.c0; have x1:=kr.c1; have x2:=kr.c2; have x3:=kr.c3;clear kr;have xl:=HM.out.lt (b:=w5.heap.size) (c0:=u0) (c1:=u1) (c2:=u2) (c3:=u3) (by simp);have kr:=HM.out.row (b:=w.heap.size+1) (c0:=0) (c1:=0) (c2:=0) (c3:=0) (by simp);have y0:=kr.c0; have y1:=kr.c1; have y2:=kr.c2; have y3:=kr.c3; have yf:=kr.fr;clear kr;have yl:=HM.out.lt (b:=w.heap.size+1) (c0:=0) (c1:=0) (c2:=0) (c3:=0) (by simp);go_wp2_with fail;refine bodyPost_ret (v:=.tuple #[.agg #[.int .u64 u0,.int .u64 u1,.int .u64 u2,.int .u64 u3],.int .i64 0]) (by simp[results,results51,go_sem, *]) rfl ?_;refine⟨_,⟨_,_,_,_,rfl,hu,rfl,?_⟩,HQ.out,Hlu.out,HQ2.out⟩;exact aL HM.out.1 (by omega) _ _ _ _
set_option maxHeartbeats 2000000 in
theorem zQ (f:Int) (F:FC) (hf:FieldIs f F) (a0 a1 a2 a3:Nat) (ha:aX a0 a1 a2 a3) (la:aA a0 a1 a2 a3<F.M) (hz:aA a0 a1 a2 a3≠0) (hs2:aA a0 a1 a2 a3^(F.M/2)%F.M≠1) (w:World) :
  Calls prog 51 #[.int .i64 f,.agg #[.int .u64 a0,.int .u64 a1,.int .u64 a2,.int .u64 a3]] w (TA 23 0 w):=by
 have HE:=Lib.hid (show ∀w,(Op.equalIn 10000 24 (.agg #[.int .u64 a0,.int .u64 a1,.int .u64 a2,.int .u64 a3]) (.agg #[.int .u64 0,.int .u64 0,.int .u64 0,.int .u64 0])).run prog w=.ok false w from fun w=>by
  have h:=iX 9998 a0 a1 a2 a3 0 0 0 0 w;rw[show wO a0 a1 a2 a3 0 0 0 0=false from iY (fun q=>hz (((fE ha vB).1 q).trans rfl))]at h;exact h)
 have hG:=iZ;have HS2:=Lib.hid hs2;have HZ:=Lib.hid hz;clear hz hs2
 go_enter func51,ntmps51
 go_wp2_with fail;refine (dA f F hf _).mono ?_
 rintro e w1 ⟨rfl,hbl⟩
 have M1:=(((Mem.nil w).new (w.heap.size) a0 a1 a2 a3 24 (by simp)).new (w.heap.size+1) 0 0 0 0 24 (by simp)).on hbl;clear hbl;have z0:w.heap.size<w1.heap.size:=M1.lt (c0:=a0) (c1:=a1) (c2:=a2) (c3:=a3) (by simp);have z1:w.heap.size+1<w1.heap.size:=M1.lt (c0:=0) (c1:=0) (c2:=0) (c3:=0) (by simp);have HM:=Lib.hid (M1.on ((Below.refl _ _).alloc (Nat.le_refl _) (.cells #[.int .u64 F.m0,.int .u64 F.m1,.int .u64 F.m2,.int .u64 F.m3,.int .u64 F.inv,.int .u64 F.s0,.int .u64 F.s1,.int .u64 F.s2,.int .u64 F.s3] 70)));have KK:=Lib.hid (KIs.new w1 F 70);have kr:=M1.row (b:=w.heap.size) (c0:=a0) (c1:=a1) (c2:=a2) (c3:=a3) (by simp);have x0:=kr.c0; have x1:=kr.c1; have x2:=kr.c2; have x3:=kr.c3;clear kr;have xl:=M1.lt (b:=w.heap.size) (c0:=a0) (c1:=a1) (c2:=a2) (c3:=a3) (by simp);go_wp2_with fail;refine (cF F hf.ok w1.heap.size a0 a1 a2 a3 ha _ KK.out).mono ?_
 rintro e w2 ⟨he,hbl⟩
 rw[show sI (aA a0 a1 a2 a3) F.M=true from decide_eq_true la]at he;subst he;have HM':=Lib.hid (HM.out.on hbl);have KK':=Lib.hid (KK.out.same hbl);have zk:=KK'.out.lt;clear HM KK hbl M1;have HM:=HM';have KK:=KK';clear HM' KK';clear x0 x1 x2 x3 xl zk;have kr:=HM.out.row (b:=w.heap.size) (c0:=a0) (c1:=a1) (c2:=a2) (c3:=a3) (by simp);have x0:=kr.c0; have x1:=kr.c1; have x2:=kr.c2; have x3:=kr.c3;clear kr;have xl:=HM.out.lt (b:=w.heap.size) (c0:=a0) (c1:=a1) (c2:=a2) (c3:=a3) (by simp);have hE:=HE.out;go_wp2_with fail;clear hE x0 x1 x2 x3 xl;refine (pS f F hf _).mono ?_
 rintro e w3 ⟨T,H,c0,c1,c2,c3,rfl,hc,hT1,hT2,hMT,hcyc,hbl⟩
 have HMT:=Lib.hid hMT;have HCY:=Lib.hid hcyc;clear hMT hcyc;have HM':=Lib.hid (HM.out.on hbl);have KK':=Lib.hid (KK.out.same hbl);have zk:=KK'.out.lt;clear HM KK hbl;have HM:=HM';have KK:=KK';clear HM' KK';clear zk;have wz:w1.heap.size<w3.heap.size:=KK.out.lt;have HM':=Lib.hid (HM.out.new w3.heap.size c0 c1 c2 c3 24 rfl);have KK':=Lib.hid (KK.out.same ((Below.refl _ _).alloc (Nat.le_refl _) (.cells #[.int .u64 c0,.int .u64 c1,.int .u64 c2,.int .u64 c3] 24)));clear HM KK;have HM:=HM';have KK:=KK';clear HM' KK';clear HE hG
 go_upto_region 7 with fail
 go_cut [10,11] (fun s10 s11 wx=>∃gb s0 s1 s2 s3:Nat,s10=.pointer (some ⟨gb,0,none⟩)∧s11=.bool false∧aX s0 s1 s2 s3∧True∧Hid (Mem w wx [(gb,s0,s1,s2,s3),(w.heap.size+1,0,0,0,0)])∧Hid (KIs wx w1.heap.size F))
 case first =>
  obtain⟨gr,hroot⟩:=hf.root;have HRo:=Lib.hid hroot;clear hroot;refine bK (fun wx=>Mem w wx [(w3.heap.size,c0,c1,c2,c3),(w.heap.size+1,0,0,0,0),(w.heap.size,a0,a1,a2,a3)]∧KIs wx w1.heap.size F) 11 (by kernel_rfl) ?_;have HM':=Lib.hid (HM.out.drewN 1);have KK':=Lib.hid (KK.out.drewN 1);clear HM KK;have HM:=HM';have KK:=KK';clear HM' KK';have HS:=And.intro (HM.out.sub (rs':=[(w3.heap.size,c0,c1,c2,c3),(w.heap.size+1,0,0,0,0),(w.heap.size,a0,a1,a2,a3)]) (by simp)) KK.out;refine aB (i:=0) (v:=.agg #[.int .u64 a0,.int .u64 a1,.int .u64 a2,.int .u64 a3]) rfl (by kernel_rfl) (by kernel_rfl) (by kernel_rfl) (by kernel_rfl) (fun _ _ _ h=>h) HS (Or.inl ⟨by kernel_rfl,fun wx hx => ?_⟩) ?_
  ·have kr:=hx.1.row (b:=w.heap.size) (c0:=a0) (c1:=a1) (c2:=a2) (c3:=a3) (by simp);have x0:=kr.c0; have x1:=kr.c1; have x2:=kr.c2; have x3:=kr.c3;clear kr HS hx;go_simp
  simp only[Act.put,List.setIfInBounds_toArray,List.set_cons_zero,List.set_cons_succ];refine aB (i:=2) (v:=.int .i64 (T:Nat)) rfl (by kernel_rfl) (by kernel_rfl) (by kernel_rfl) (by kernel_rfl) (fun _ _ _ h=>h) HS (Or.inl ⟨by kernel_rfl,fun wx hx => ?_⟩) ?_
  ·clear HS hx;go_simp
  simp only[Act.put,List.setIfInBounds_toArray,List.set_cons_zero,List.set_cons_succ];refine aB (i:=3) (v:=.agg #[.int .u64 c0,.int .u64 c1,.int .u64 c2,.int .u64 c3]) rfl (by kernel_rfl) (by kernel_rfl) (by kernel_rfl) (by kernel_rfl) (fun _ _ _ h=>h) HS (Or.inl ⟨by kernel_rfl,fun wx hx => ?_⟩) ?_
  ·have kr:=hx.1.row (b:=w3.heap.size) (c0:=c0) (c1:=c1) (c2:=c2) (c3:=c3) (by simp);have x0:=kr.c0; have x1:=kr.c1; have x2:=kr.c2; have x3:=kr.c3;clear kr HS hx;go_simp
  simp only[Act.put,List.setIfInBounds_toArray,List.set_cons_zero,List.set_cons_succ];clear HS;refine bU (i:=1) (j:=9) (by kernel_rfl) rfl rfl (fun K hK => ?_) (fun K hK => ?_)
  ·go_simp;refine (cM F hf.ok w1.heap.size a0 a1 a2 a3 ha _ KK.out).mono ?_
   rintro e v1 ⟨i0,i1,i2,i3,rfl,hi,hv,hbl⟩
   have HVi:=Lib.hid hv;clear hv;have HM':=Lib.hid (HM.out.on hbl);have KK':=Lib.hid (KK.out.same hbl);clear HM KK hbl;have HM:=HM';have KK:=KK';clear HM' KK';have HS:=And.intro (HM.out.sub (rs':=[(w3.heap.size,c0,c1,c2,c3),(w.heap.size+1,0,0,0,0),(w.heap.size,a0,a1,a2,a3)]) (by simp)) KK.out;refine hK.out _ _ (Or.inr HS) (fun _ => ?_);clear hK K HS;refine bU (i:=4) (j:=9) (by kernel_rfl) rfl rfl (fun K hK => ?_) (fun K hK => ?_)
   ·go_simp;refine (cM F hf.ok w1.heap.size c0 c1 c2 c3 hc _ KK.out).mono ?_
    rintro e v2 ⟨j0,j1,j2,j3,rfl,hj,hv,hbl⟩
    have HVj:=Lib.hid hv;clear hv;have HM':=Lib.hid (HM.out.on hbl);have KK':=Lib.hid (KK.out.same hbl);clear HM KK hbl;have HM:=HM';have KK:=KK';clear HM' KK';have HS:=And.intro (HM.out.sub (rs':=[(w3.heap.size,c0,c1,c2,c3),(w.heap.size+1,0,0,0,0),(w.heap.size,a0,a1,a2,a3)]) (by simp)) KK.out;refine hK.out _ _ (Or.inr HS) (fun _ => ?_);clear hK K HS;refine bU (i:=5) (j:=9) (by kernel_rfl) rfl rfl (fun K hK => ?_) (fun K hK => ?_)
    ·go_simp;refine (qL F hf.ok gr HRo.out (aA a0 a1 a2 a3) H T (aA c0 c1 c2 c3) w1.heap.size i0 i1 i2 i3 j0 j1 j2 j3 hi hj HVi.out HVj.out hT1 hT2 HMT.out HS2.out _ KK.out).mono ?_
     rintro e v3 ⟨rfl,hbl⟩
     have HM':=Lib.hid (HM.out.on hbl);have KK':=Lib.hid (KK.out.same hbl);clear HM KK hbl;have HM:=HM';have KK:=KK';clear HM' KK';have HS:=And.intro (HM.out.sub (rs':=[(w3.heap.size,c0,c1,c2,c3),(w.heap.size+1,0,0,0,0),(w.heap.size,a0,a1,a2,a3)]) (by simp)) KK.out;refine hK.out _ _ (Or.inr HS) (fun _ => ?_);clear hK K HS;have HS:=And.intro (HM.out.sub (rs':=[(w3.heap.size,c0,c1,c2,c3),(w.heap.size+1,0,0,0,0),(w.heap.size,a0,a1,a2,a3)]) (by simp)) KK.out;refine aB (i:=6) (v:=.tuple #[.agg #[.int .u64 0,.int .u64 0,.int .u64 0,.int .u64 0],.bool false]) rfl (by kernel_rfl) (by kernel_rfl) (by kernel_rfl) (by kernel_rfl) (fun _ _ _ h=>h) HS (Or.inl ⟨by kernel_rfl,fun wx hx => ?_⟩) ?_
     ·clear HS hx;go_simp
     simp only[Act.put,List.setIfInBounds_toArray,List.set_cons_zero,List.set_cons_succ];refine aB (i:=7) (v:=.agg #[.int .u64 0,.int .u64 0,.int .u64 0,.int .u64 0]) rfl (by kernel_rfl) (by kernel_rfl) (by kernel_rfl) (by kernel_rfl) (fun _ _ _ h=>h) HS (Or.inl ⟨by kernel_rfl,fun wx hx => ?_⟩) ?_
     ·clear HS hx;go_simp
     simp only[Act.put,List.setIfInBounds_toArray,List.set_cons_zero,List.set_cons_succ];refine aB (i:=8) (v:=.bool false) rfl (by kernel_rfl) (by kernel_rfl) (by kernel_rfl) (by kernel_rfl) (fun _ _ _ h=>h) HS (Or.inl ⟨by kernel_rfl,fun wx hx => ?_⟩) ?_
     ·clear HS hx;go_simp
     simp only[Act.put,List.setIfInBounds_toArray,List.set_cons_zero,List.set_cons_succ];clear HS;refine aC (i:=9) (by kernel_rfl) rfl (fun K hK => ?_);go_simp;have HM9:=HM;have KK9:=KK;have HM':=Lib.hid (HM.out.new (v3.heap.size) 0 0 0 0 68 (by first|rfl|(simp; done)));have KK':=Lib.hid (KK.out.same ((Below.refl _ _).alloc (Nat.le_refl _) (.cells #[.int .u64 (0:Nat),.int .u64 (0:Nat),.int .u64 (0:Nat),.int .u64 (0:Nat)] 68)));have hgk:w1.heap.size<(v3.heap.size):=by first|omega|exact KK.out.lt|(have:=KK.out.lt; simpa using this)
     have hgc:w3.heap.size<(v3.heap.size):=by first|omega|exact HM.out.lt (b:=w3.heap.size) (c0:=c0) (c1:=c1) (c2:=c2) (c3:=c3) (by simp)
     have hga:w.heap.size+1<(v3.heap.size):=by omega
     clear HM KK;have HM:=HM';have KK:=KK';clear HM' KK';have HS:=And.intro (HM.out.sub (rs':=[(w3.heap.size,c0,c1,c2,c3),(w.heap.size+1,0,0,0,0),(w.heap.size,a0,a1,a2,a3)]) (by simp)) KK.out;refine hK.out _ _ (Or.inr HS) (fun _ => ?_);clear hK K HS;have kr:=HM.out.row (b:=(v3.heap.size)) (c0:=0) (c1:=0) (c2:=0) (c3:=0) (by simp);have yl:=HM.out.lt (b:=(v3.heap.size)) (c0:=0) (c1:=0) (c2:=0) (c3:=0) (by simp);have y0:=kr.c0; have y1:=kr.c1; have y2:=kr.c2; have y3:=kr.c3; have yf:=kr.fr;clear kr;refine aC (i:=10) (by kernel_rfl) rfl (fun K hK => ?_);go_simp;have HM':=Lib.hid (HM9.out.new (v3.heap.size) 0 0 0 0 68 (by first|rfl|(simp; done)));have KK':=Lib.hid (KK9.out.same ((Below.refl _ _).alloc (Nat.le_refl _) (.cells #[.int .u64 0,.int .u64 0,.int .u64 0,.int .u64 0] 68)));clear HM KK;have HM:=HM';have KK:=KK';clear HM' KK';have HS:=And.intro (HM.out.sub (rs':=[(w3.heap.size,c0,c1,c2,c3),(w.heap.size+1,0,0,0,0),(w.heap.size,a0,a1,a2,a3)]) (by simp)) KK.out;refine hK.out _ _ (Or.inr HS) (fun _ => ?_);clear hK K HS;refine aC (i:=11) (by kernel_rfl) rfl (fun K hK => ?_);go_simp;refine hK.out _ _ (Or.inl rfl) (fun _ => ?_);clear hK K;refine aQ (by kernel_rfl) ?_;go_wp2_with fail
     go_meet
     exact⟨(v3.heap.size),0,0,0,0,rfl,rfl,vB,trivial,Lib.hid (HM.out.sub (by simp)),KK⟩
    ·go_simp;have HM9:=HM;have KK9:=KK;have HM':=Lib.hid (HM.out.new (v2.heap.size) 0 0 0 0 68 (by first|rfl|(simp; done)));have KK':=Lib.hid (KK.out.same ((Below.refl _ _).alloc (Nat.le_refl _) (.cells #[.int .u64 (0:Nat),.int .u64 (0:Nat),.int .u64 (0:Nat),.int .u64 (0:Nat)] 68)));have hgk:w1.heap.size<(v2.heap.size):=by first|omega|exact KK.out.lt|(have:=KK.out.lt; simpa using this)
     have hgc:w3.heap.size<(v2.heap.size):=by first|omega|exact HM.out.lt (b:=w3.heap.size) (c0:=c0) (c1:=c1) (c2:=c2) (c3:=c3) (by simp)
     have hga:w.heap.size+1<(v2.heap.size):=by omega
     clear HM KK;have HM:=HM';have KK:=KK';clear HM' KK';have HS:=And.intro (HM.out.sub (rs':=[(w3.heap.size,c0,c1,c2,c3),(w.heap.size+1,0,0,0,0),(w.heap.size,a0,a1,a2,a3)]) (by simp)) KK.out;refine hK.out _ _ (Or.inr HS) (fun _ => ?_);clear hK K HS;refine aC (i:=5) (by kernel_rfl) rfl (fun K hK => ?_);go_simp;refine (qL F hf.ok gr HRo.out (aA a0 a1 a2 a3) H T (aA c0 c1 c2 c3) w1.heap.size i0 i1 i2 i3 j0 j1 j2 j3 hi hj HVi.out HVj.out hT1 hT2 HMT.out HS2.out _ KK.out).mono ?_
     rintro e v3 ⟨rfl,hbl⟩
     have HM':=Lib.hid (HM.out.on hbl);have KK':=Lib.hid (KK.out.same hbl);clear HM KK hbl;have HM:=HM';have KK:=KK';clear HM' KK';have HS:=And.intro (HM.out.sub (rs':=[(w3.heap.size,c0,c1,c2,c3),(w.heap.size+1,0,0,0,0),(w.heap.size,a0,a1,a2,a3)]) (by simp)) KK.out;refine hK.out _ _ (Or.inr HS) (fun _ => ?_);clear hK K HS;have HS:=And.intro (HM.out.sub (rs':=[(w3.heap.size,c0,c1,c2,c3),(w.heap.size+1,0,0,0,0),(w.heap.size,a0,a1,a2,a3)]) (by simp)) KK.out;refine aB (i:=6) (v:=.tuple #[.agg #[.int .u64 0,.int .u64 0,.int .u64 0,.int .u64 0],.bool false]) rfl (by kernel_rfl) (by kernel_rfl) (by kernel_rfl) (by kernel_rfl) (fun _ _ _ h=>h) HS (Or.inl ⟨by kernel_rfl,fun wx hx => ?_⟩) ?_
     ·clear HS hx;go_simp
     simp only[Act.put,List.setIfInBounds_toArray,List.set_cons_zero,List.set_cons_succ];refine aB (i:=7) (v:=.agg #[.int .u64 0,.int .u64 0,.int .u64 0,.int .u64 0]) rfl (by kernel_rfl) (by kernel_rfl) (by kernel_rfl) (by kernel_rfl) (fun _ _ _ h=>h) HS (Or.inl ⟨by kernel_rfl,fun wx hx => ?_⟩) ?_
     ·clear HS hx;go_simp
     simp only[Act.put,List.setIfInBounds_toArray,List.set_cons_zero,List.set_cons_succ];refine aB (i:=8) (v:=.bool false) rfl (by kernel_rfl) (by kernel_rfl) (by kernel_rfl) (by kernel_rfl) (fun _ _ _ h=>h) HS (Or.inl ⟨by kernel_rfl,fun wx hx => ?_⟩) ?_
     ·clear HS hx;go_simp
     simp only[Act.put,List.setIfInBounds_toArray,List.set_cons_zero,List.set_cons_succ];clear HS;have kr:=HM.out.row (b:=(v2.heap.size)) (c0:=0) (c1:=0) (c2:=0) (c3:=0) (by simp);have yl:=HM.out.lt (b:=(v2.heap.size)) (c0:=0) (c1:=0) (c2:=0) (c3:=0) (by simp);have y0:=kr.c0; have y1:=kr.c1; have y2:=kr.c2; have y3:=kr.c3; have yf:=kr.fr;clear kr;refine aC (i:=10) (by kernel_rfl) rfl (fun K hK => ?_);go_simp;have HM':=Lib.hid (HM.out.put 0 0 0 0 (by omega) (by intro r hr; simp at hr; rcases hr with rfl|rfl|rfl<;>simp<;>omega));have KK':=Lib.hid (KK.out.set4 (d:=(v2.heap.size)) (by omega) 0 0 0 0);clear HM KK;have HM:=HM';have KK:=KK';clear HM' KK';have HS:=And.intro (HM.out.sub (rs':=[(w3.heap.size,c0,c1,c2,c3),(w.heap.size+1,0,0,0,0),(w.heap.size,a0,a1,a2,a3)]) (by simp)) KK.out;refine hK.out _ _ (Or.inr HS) (fun _ => ?_);clear hK K HS;refine aC (i:=11) (by kernel_rfl) rfl (fun K hK => ?_);go_simp;refine hK.out _ _ (Or.inl rfl) (fun _ => ?_);clear hK K;refine aQ (by kernel_rfl) ?_;go_wp2_with fail
     go_meet
     exact⟨(v2.heap.size),0,0,0,0,rfl,rfl,vB,trivial,Lib.hid (HM.out.sub (by simp)),KK⟩
   ·go_simp;have HM9:=HM;have KK9:=KK;have HM':=Lib.hid (HM.out.new (v1.heap.size) 0 0 0 0 68 (by first|rfl|(simp; done)));have KK':=Lib.hid (KK.out.same ((Below.refl _ _).alloc (Nat.le_refl _) (.cells #[.int .u64 (0:Nat),.int .u64 (0:Nat),.int .u64 (0:Nat),.int .u64 (0:Nat)] 68)));have hgk:w1.heap.size<(v1.heap.size):=by first|omega|exact KK.out.lt|(have:=KK.out.lt; simpa using this)
    have hgc:w3.heap.size<(v1.heap.size):=by first|omega|exact HM.out.lt (b:=w3.heap.size) (c0:=c0) (c1:=c1) (c2:=c2) (c3:=c3) (by simp)
    have hga:w.heap.size+1<(v1.heap.size):=by omega
    clear HM KK;have HM:=HM';have KK:=KK';clear HM' KK';have HS:=And.intro (HM.out.sub (rs':=[(w3.heap.size,c0,c1,c2,c3),(w.heap.size+1,0,0,0,0),(w.heap.size,a0,a1,a2,a3)]) (by simp)) KK.out;refine hK.out _ _ (Or.inr HS) (fun _ => ?_);clear hK K HS;refine aC (i:=4) (by kernel_rfl) rfl (fun K hK => ?_);go_simp;refine (cM F hf.ok w1.heap.size c0 c1 c2 c3 hc _ KK.out).mono ?_
    rintro e v2 ⟨j0,j1,j2,j3,rfl,hj,hv,hbl⟩
    have HVj:=Lib.hid hv;clear hv;have HM':=Lib.hid (HM.out.on hbl);have KK':=Lib.hid (KK.out.same hbl);clear HM KK hbl;have HM:=HM';have KK:=KK';clear HM' KK';have HS:=And.intro (HM.out.sub (rs':=[(w3.heap.size,c0,c1,c2,c3),(w.heap.size+1,0,0,0,0),(w.heap.size,a0,a1,a2,a3)]) (by simp)) KK.out;refine hK.out _ _ (Or.inr HS) (fun _ => ?_);clear hK K HS;refine aC (i:=5) (by kernel_rfl) rfl (fun K hK => ?_);go_simp;refine (qL F hf.ok gr HRo.out (aA a0 a1 a2 a3) H T (aA c0 c1 c2 c3) w1.heap.size i0 i1 i2 i3 j0 j1 j2 j3 hi hj HVi.out HVj.out hT1 hT2 HMT.out HS2.out _ KK.out).mono ?_
    rintro e v3 ⟨rfl,hbl⟩
    have HM':=Lib.hid (HM.out.on hbl);have KK':=Lib.hid (KK.out.same hbl);clear HM KK hbl;have HM:=HM';have KK:=KK';clear HM' KK';have HS:=And.intro (HM.out.sub (rs':=[(w3.heap.size,c0,c1,c2,c3),(w.heap.size+1,0,0,0,0),(w.heap.size,a0,a1,a2,a3)]) (by simp)) KK.out;refine hK.out _ _ (Or.inr HS) (fun _ => ?_);clear hK K HS;have HS:=And.intro (HM.out.sub (rs':=[(w3.heap.size,c0,c1,c2,c3),(w.heap.size+1,0,0,0,0),(w.heap.size,a0,a1,a2,a3)]) (by simp)) KK.out;refine aB (i:=6) (v:=.tuple #[.agg #[.int .u64 0,.int .u64 0,.int .u64 0,.int .u64 0],.bool false]) rfl (by kernel_rfl) (by kernel_rfl) (by kernel_rfl) (by kernel_rfl) (fun _ _ _ h=>h) HS (Or.inl ⟨by kernel_rfl,fun wx hx => ?_⟩) ?_
    ·clear HS hx;go_simp
    simp only[Act.put,List.setIfInBounds_toArray,List.set_cons_zero,List.set_cons_succ];refine aB (i:=7) (v:=.agg #[.int .u64 0,.int .u64 0,.int .u64 0,.int .u64 0]) rfl (by kernel_rfl) (by kernel_rfl) (by kernel_rfl) (by kernel_rfl) (fun _ _ _ h=>h) HS (Or.inl ⟨by kernel_rfl,fun wx hx => ?_⟩) ?_
    ·clear HS hx;go_simp
    simp only[Act.put,List.setIfInBounds_toArray,List.set_cons_zero,List.set_cons_succ];refine aB (i:=8) (v:=.bool false) rfl (by kernel_rfl) (by kernel_rfl) (by kernel_rfl) (by kernel_rfl) (fun _ _ _ h=>h) HS (Or.inl ⟨by kernel_rfl,fun wx hx => ?_⟩) ?_
    ·clear HS hx;go_simp
    simp only[Act.put,List.setIfInBounds_toArray,List.set_cons_zero,List.set_cons_succ];clear HS;have kr:=HM.out.row (b:=(v1.heap.size)) (c0:=0) (c1:=0) (c2:=0) (c3:=0) (by simp);have yl:=HM.out.lt (b:=(v1.heap.size)) (c0:=0) (c1:=0) (c2:=0) (c3:=0) (by simp);have y0:=kr.c0; have y1:=kr.c1; have y2:=kr.c2; have y3:=kr.c3; have yf:=kr.fr;clear kr;refine aC (i:=10) (by kernel_rfl) rfl (fun K hK => ?_);go_simp;have HM':=Lib.hid (HM.out.put 0 0 0 0 (by omega) (by intro r hr; simp at hr; rcases hr with rfl|rfl|rfl<;>simp<;>omega));have KK':=Lib.hid (KK.out.set4 (d:=(v1.heap.size)) (by omega) 0 0 0 0);clear HM KK;have HM:=HM';have KK:=KK';clear HM' KK';have HS:=And.intro (HM.out.sub (rs':=[(w3.heap.size,c0,c1,c2,c3),(w.heap.size+1,0,0,0,0),(w.heap.size,a0,a1,a2,a3)]) (by simp)) KK.out;refine hK.out _ _ (Or.inr HS) (fun _ => ?_);clear hK K HS;refine aC (i:=11) (by kernel_rfl) rfl (fun K hK => ?_);go_simp;refine hK.out _ _ (Or.inl rfl) (fun _ => ?_);clear hK K;refine aQ (by kernel_rfl) ?_;go_wp2_with fail
    go_meet
    exact⟨(v1.heap.size),0,0,0,0,rfl,rfl,vB,trivial,Lib.hid (HM.out.sub (by simp)),KK⟩
  ·go_simp;have HM9:=HM;have KK9:=KK;have HM':=Lib.hid (HM.out.new (w3.heap.size+1) 0 0 0 0 68 (by first|rfl|(simp; done)));have KK':=Lib.hid (KK.out.same ((Below.refl _ _).alloc (Nat.le_refl _) (.cells #[.int .u64 (0:Nat),.int .u64 (0:Nat),.int .u64 (0:Nat),.int .u64 (0:Nat)] 68)));have hgk:w1.heap.size<(w3.heap.size+1):=by first|omega|exact KK.out.lt|(have:=KK.out.lt; simpa using this)
   have hgc:w3.heap.size<(w3.heap.size+1):=by first|omega|exact HM.out.lt (b:=w3.heap.size) (c0:=c0) (c1:=c1) (c2:=c2) (c3:=c3) (by simp)
   have hga:w.heap.size+1<(w3.heap.size+1):=by omega
   clear HM KK;have HM:=HM';have KK:=KK';clear HM' KK';have HS:=And.intro (HM.out.sub (rs':=[(w3.heap.size,c0,c1,c2,c3),(w.heap.size+1,0,0,0,0),(w.heap.size,a0,a1,a2,a3)]) (by simp)) KK.out;refine hK.out _ _ (Or.inr HS) (fun _ => ?_);clear hK K HS;refine aC (i:=1) (by kernel_rfl) rfl (fun K hK => ?_);go_simp;refine (cM F hf.ok w1.heap.size a0 a1 a2 a3 ha _ KK.out).mono ?_
   rintro e v1 ⟨i0,i1,i2,i3,rfl,hi,hv,hbl⟩
   have HVi:=Lib.hid hv;clear hv;have HM':=Lib.hid (HM.out.on hbl);have KK':=Lib.hid (KK.out.same hbl);clear HM KK hbl;have HM:=HM';have KK:=KK';clear HM' KK';have HS:=And.intro (HM.out.sub (rs':=[(w3.heap.size,c0,c1,c2,c3),(w.heap.size+1,0,0,0,0),(w.heap.size,a0,a1,a2,a3)]) (by simp)) KK.out;refine hK.out _ _ (Or.inr HS) (fun _ => ?_);clear hK K HS;refine aC (i:=4) (by kernel_rfl) rfl (fun K hK => ?_);go_simp;refine (cM F hf.ok w1.heap.size c0 c1 c2 c3 hc _ KK.out).mono ?_
   rintro e v2 ⟨j0,j1,j2,j3,rfl,hj,hv,hbl⟩
   have HVj:=Lib.hid hv;clear hv;have HM':=Lib.hid (HM.out.on hbl);have KK':=Lib.hid (KK.out.same hbl);clear HM KK hbl;have HM:=HM';have KK:=KK';clear HM' KK';have HS:=And.intro (HM.out.sub (rs':=[(w3.heap.size,c0,c1,c2,c3),(w.heap.size+1,0,0,0,0),(w.heap.size,a0,a1,a2,a3)]) (by simp)) KK.out;refine hK.out _ _ (Or.inr HS) (fun _ => ?_);clear hK K HS;refine aC (i:=5) (by kernel_rfl) rfl (fun K hK => ?_);go_simp;refine (qL F hf.ok gr HRo.out (aA a0 a1 a2 a3) H T (aA c0 c1 c2 c3) w1.heap.size i0 i1 i2 i3 j0 j1 j2 j3 hi hj HVi.out HVj.out hT1 hT2 HMT.out HS2.out _ KK.out).mono ?_
   rintro e v3 ⟨rfl,hbl⟩
   have HM':=Lib.hid (HM.out.on hbl);have KK':=Lib.hid (KK.out.same hbl);clear HM KK hbl;have HM:=HM';have KK:=KK';clear HM' KK';have HS:=And.intro (HM.out.sub (rs':=[(w3.heap.size,c0,c1,c2,c3),(w.heap.size+1,0,0,0,0),(w.heap.size,a0,a1,a2,a3)]) (by simp)) KK.out;refine hK.out _ _ (Or.inr HS) (fun _ => ?_);clear hK K HS;have HS:=And.intro (HM.out.sub (rs':=[(w3.heap.size,c0,c1,c2,c3),(w.heap.size+1,0,0,0,0),(w.heap.size,a0,a1,a2,a3)]) (by simp)) KK.out;refine aB (i:=6) (v:=.tuple #[.agg #[.int .u64 0,.int .u64 0,.int .u64 0,.int .u64 0],.bool false]) rfl (by kernel_rfl) (by kernel_rfl) (by kernel_rfl) (by kernel_rfl) (fun _ _ _ h=>h) HS (Or.inl ⟨by kernel_rfl,fun wx hx => ?_⟩) ?_
   ·clear HS hx;go_simp
   simp only[Act.put,List.setIfInBounds_toArray,List.set_cons_zero,List.set_cons_succ];refine aB (i:=7) (v:=.agg #[.int .u64 0,.int .u64 0,.int .u64 0,.int .u64 0]) rfl (by kernel_rfl) (by kernel_rfl) (by kernel_rfl) (by kernel_rfl) (fun _ _ _ h=>h) HS (Or.inl ⟨by kernel_rfl,fun wx hx => ?_⟩) ?_
   ·clear HS hx;go_simp
   simp only[Act.put,List.setIfInBounds_toArray,List.set_cons_zero,List.set_cons_succ];refine aB (i:=8) (v:=.bool false) rfl (by kernel_rfl) (by kernel_rfl) (by kernel_rfl) (by kernel_rfl) (fun _ _ _ h=>h) HS (Or.inl ⟨by kernel_rfl,fun wx hx => ?_⟩) ?_
   ·clear HS hx;go_simp
   simp only[Act.put,List.setIfInBounds_toArray,List.set_cons_zero,List.set_cons_succ];clear HS;have kr:=HM.out.row (b:=(w3.heap.size+1)) (c0:=0) (c1:=0) (c2:=0) (c3:=0) (by simp);have yl:=HM.out.lt (b:=(w3.heap.size+1)) (c0:=0) (c1:=0) (c2:=0) (c3:=0) (by simp);have y0:=kr.c0; have y1:=kr.c1; have y2:=kr.c2; have y3:=kr.c3; have yf:=kr.fr;clear kr;refine aC (i:=10) (by kernel_rfl) rfl (fun K hK => ?_);go_simp;have HM':=Lib.hid (HM.out.put 0 0 0 0 (by omega) (by intro r hr; simp at hr; rcases hr with rfl|rfl|rfl<;>simp<;>omega));have KK':=Lib.hid (KK.out.set4 (d:=(w3.heap.size+1)) (by omega) 0 0 0 0);clear HM KK;have HM:=HM';have KK:=KK';clear HM' KK';have HS:=And.intro (HM.out.sub (rs':=[(w3.heap.size,c0,c1,c2,c3),(w.heap.size+1,0,0,0,0),(w.heap.size,a0,a1,a2,a3)]) (by simp)) KK.out;refine hK.out _ _ (Or.inr HS) (fun _ => ?_);clear hK K HS;refine aC (i:=11) (by kernel_rfl) rfl (fun K hK => ?_);go_simp;refine hK.out _ _ (Or.inl rfl) (fun _ => ?_);clear hK K;refine aQ (by kernel_rfl) ?_;go_wp2_with fail
   go_meet
   exact⟨(w3.heap.size+1),0,0,0,0,rfl,rfl,vB,trivial,Lib.hid (HM.out.sub (by simp)),KK⟩
 case rest =>
  obtain⟨gb,s0,s1,s2,s3,rfl,rfl,hs,_,HM',KK'⟩:=hcut;clear HM KK;have HM:=HM';have KK:=KK';clear HM' KK';have kr:=HM.out.row (b:=w.heap.size+1) (c0:=0) (c1:=0) (c2:=0) (c3:=0) (by simp);have y0:=kr.c0; have y1:=kr.c1; have y2:=kr.c2; have y3:=kr.c3; have yf:=kr.fr;clear kr;have yl:=HM.out.lt (b:=w.heap.size+1) (c0:=0) (c1:=0) (c2:=0) (c3:=0) (by simp);go_wp2_with fail;refine bodyPost_ret (v:=.tuple #[.agg #[.int .u64 0,.int .u64 0,.int .u64 0,.int .u64 0],.int .i64 23]) (by simp[results,results51,go_sem, *]) rfl ?_;refine⟨_,_,_,_,rfl,vB,rfl,?_⟩;exact aL HM.out.1 (by omega) 0 0 0 0
set_option maxHeartbeats 2000000 in
theorem eN (f:Int) (F:FC) (hf:FieldIs f F) (w:World):Calls prog 45 #[.int .i64 f] w fun e w'=>e=.returned (.agg #[.int .u64 F.m0,.int .u64 F.m1,.int .u64 F.m2,.int .u64 F.m3])∧Below w.heap.size w w':=by
 rcases hf with⟨rfl,rfl⟩|⟨rfl,rfl⟩
 ·go_enter func45,ntmps45
  go_wp2_with fail;refine bodyPost_ret (v:=.agg #[.int .u64 FP.m0,.int .u64 FP.m1,.int .u64 FP.m2,.int .u64 FP.m3]) (by simp[results,results45,go_sem,FP]) rfl ?_;refine⟨rfl,?_⟩
  repeat (first|exact Below.refl _ _|refine Below.drew ?_|refine Below.alloc ?_ (by first|(simp; done)|(simp; omega)) _|refine Below.setCell ?_ (by simp) _)
 ·go_enter func45,ntmps45
  go_wp2_with fail;refine bodyPost_ret (v:=.agg #[.int .u64 FR.m0,.int .u64 FR.m1,.int .u64 FR.m2,.int .u64 FR.m3]) (by simp[results,results45,go_sem,FR]) rfl ?_;refine⟨rfl,?_⟩
  repeat (first|exact Below.refl _ _|refine Below.drew ?_|refine Below.alloc ?_ (by first|(simp; done)|(simp; omega)) _|refine Below.setCell ?_ (by simp) _)
section
variable {M g:Nat}
theorem uM (A B C:Nat):A*B%M*C%M=A*(B*C%M)%M:=by rw[lM,oT,Nat.mul_assoc]
end
theorem GO {s0 s1 s2 s3 t0 t1 t2 t3:Nat} (hs:aX s0 s1 s2 s3) (ht:aX t0 t1 t2 t3) (h:aA s0 s1 s2 s3=aA t0 t1 t2 t3) (w:World):(Op.equalIn 10000 24 (.agg #[.int .u64 s0,.int .u64 s1,.int .u64 s2,.int .u64 s3]) (.agg #[.int .u64 t0,.int .u64 t1,.int .u64 t2,.int .u64 t3])).run prog w=.ok true w:=by
 have h':=iX 9998 s0 s1 s2 s3 t0 t1 t2 t3 w;rw[(fE hs ht).2 h]at h';exact h'
theorem RC {s0 s1 s2 s3 t0 t1 t2 t3:Nat} (hs:aX s0 s1 s2 s3) (ht:aX t0 t1 t2 t3) (h:aA s0 s1 s2 s3≠aA t0 t1 t2 t3) (w:World):(Op.equalIn 10000 24 (.agg #[.int .u64 s0,.int .u64 s1,.int .u64 s2,.int .u64 s3]) (.agg #[.int .u64 t0,.int .u64 t1,.int .u64 t2,.int .u64 t3])).run prog w=.ok false w:=by
 have h':=iX 9998 s0 s1 s2 s3 t0 t1 t2 t3 w;rw[iY (fun q=>h ((fE hs ht).1 q))]at h';exact h'
theorem zV {s0 s1 s2 s3:Nat} (hs:aX s0 s1 s2 s3) (h:aA s0 s1 s2 s3=0) (w:World):(Op.equalIn 10000 24 (.agg #[.int .u64 s0,.int .u64 s1,.int .u64 s2,.int .u64 s3]) (.agg #[.int .u64 0,.int .u64 0,.int .u64 0,.int .u64 0])).run prog w=.ok true w:=GO hs vB (h.trans rfl) w
theorem wQ {s0 s1 s2 s3:Nat} (hs:aX s0 s1 s2 s3) (h:aA s0 s1 s2 s3≠0) (w:World):(Op.equalIn 10000 24 (.agg #[.int .u64 s0,.int .u64 s1,.int .u64 s2,.int .u64 s3]) (.agg #[.int .u64 0,.int .u64 0,.int .u64 0,.int .u64 0])).run prog w=.ok false w:=RC hs vB (fun q=>h (q.trans rfl)) w
theorem wP {s0 s1 s2 s3:Nat} (hs:aX s0 s1 s2 s3) (h:aA s0 s1 s2 s3=1) (w:World):(Op.equalIn 10000 24 (.agg #[.int .u64 s0,.int .u64 s1,.int .u64 s2,.int .u64 s3]) (.agg #[.int .u64 1,.int .u64 0,.int .u64 0,.int .u64 0])).run prog w=.ok true w:=GO hs (show aX 1 0 0 0 by unfold aX; decide) (h.trans rfl) w
theorem Bad1.ne {f c:Int} {A:Nat} (h:Bad1 f A c):c≠0:=by rcases h with⟨_,_,h⟩|⟨_,_,_,h⟩<;>omega
theorem Bad2.ne {f c:Int} {A B:Nat} (h:Bad2 f A B c):c≠0:=by
 rcases h with h|⟨_,_,_,_,h⟩
 ·exact h.ne
 ·omega
theorem FieldIs.uniq {f:Int} {F G:FC} (h:FieldIs f F) (k:FieldIs f G):F=G:=by
 rcases h with⟨h,rfl⟩|⟨h,rfl⟩<;>rcases k with⟨k,rfl⟩|⟨k,rfl⟩<;>first|rfl|omega
end Go.Proofs.YtjeplinbleofnaaGreat
namespace Go.Proofs.YtjeplinbleofnaaGreat.Ex
open Go.Proofs.Tryz
open Go.RowKit
theorem YD:Root RM 5:=by
 show Root Go.Proofs.YtjeplinbleofnaaGreat.FR.M 5;rw[Fz];exact NW
theorem BR:2≤RM:=by decide
def KE (x:Fin RM):Fin RM:=⟨SX x.1,rK _⟩
theorem Kz:FD KR KE:=⟨fun h=>absurd (congrArg Fin.val h) (by decide),fun x h=>Fin.ext (by
 show x.1*(1*(x.1^(RM-2))%RM)%RM=1;rw[Nat.one_mul];exact GI YD BR (Nat.pos_of_ne_zero fun e=>h (Fin.ext e)) x.2)⟩
def aR:Fin RM:=dS 168700
def dR:Fin RM:=dS 168696
theorem WZ:168696^(RM/2)%RM≠1:=by
 rw[←FF RM 256 168696 (RM/2) (by decide)];exact of_decide_eq_true (by kernel_rfl)
theorem Re (x:Fin RM):KR.mul x x≠dR:=fun h=>by
 have h1:x.1*x.1%RM=168696:=(congrArg Fin.val h).trans (Nat.mod_eq_of_lt (by decide))
 by_cases h0:x.1=0
 ·rw[h0]at h1;exact absurd h1 (by decide)
 ·have h2:=CT YD (by decide) (Nat.pos_of_ne_zero h0) x.2;rw[h1]at h2;exact WZ h2
def TT:Fin RM:=dS 7214280148105020021932206872019688659210616427216992810330019057549499971851
theorem iG:ED KR KE aR dR where
 F:=Kz
 two:=fun h=>absurd (congrArg Fin.val h) (by decide)
 sq:=⟨TT,of_decide_eq_true (by kernel_rfl)⟩
 ns:=Re
abbrev JP:=EM KR aR dR
abbrev NJ:=Nat×Nat×Nat
def kB (p q:NJ):NJ :=
 let z:=aI p.2.2 q.2.2
 let x:=aI p.1 q.1
 let y:=aI p.2.1 q.2.1
 let both:=aI 168696 (aI x y)
 let square:=aI z z
 let more:=eG square both
 let less:=dE square both
 let across:=dE (dE (aI (eG p.1 p.2.1) (eG q.1 q.2.1)) x) y
 (aI (aI z less) across,aI (aI z more) (dE y (aI 168700 x)),aI less more)
def QA (p:NJ):NJ :=
 let x:=aI p.1 p.1
 let y:=aI p.2.1 p.2.1
 let z:=aI p.2.2 p.2.2
 let across:=dE (dE (aI (eG p.1 p.2.1) (eG p.1 p.2.1)) x) y
 let ax:=aI 168700 x
 let more:=eG ax y
 let less:=dE (eG z z) more
 (aI across less,aI more (dE y ax),aI more less)
def vU (x y:Nat):Nat:=x*(y^(RM-2))%RM
theorem jF (x y:Nat):vU x y<RM:=Nat.mod_lt _ cW
def tld (p:NJ):Nat×Nat:=(aI p.1 (vU 1 p.2.2),aI p.2.1 (vU 1 p.2.2))
def LU (p:NJ):Fin RM×Fin RM×Fin RM:=(dS p.1,dS p.2.1,dS p.2.2)
theorem dM (x:Nat) {y:Nat} (hy:y<RM):dS (dE x y)=KR.sub (dS x) (dS y):=TH x hy
theorem ZV (p q:NJ):LU (kB p q)=zZ KR aR dR (LU p) (LU q):=by
 refine Prod.ext ?_ (Prod.ext ?_ ?_)
 ·simp only[LU,kB,zZ,dD,jC,dM _ (aE _ _)]; rfl
 ·simp only[LU,kB,zZ,dD,jC,dM _ (aE _ _)]; rfl
 ·simp only[LU,kB,zZ,dD,jC,dM _ (aE _ _)]; rfl
theorem ZW (p:NJ):LU (QA p)=AA KR aR (LU p):=by
 refine Prod.ext ?_ (Prod.ext ?_ ?_)
 ·simp only[LU,QA,AA,dD,jC,dM _ (aE _ _),dM _ (cC _ _)]; rfl
 ·simp only[LU,QA,AA,dD,jC,dM _ (aE _ _),dM _ (cC _ _)]; rfl
 ·simp only[LU,QA,AA,dD,jC,dM _ (aE _ _),dM _ (cC _ _)]; rfl
structure JRep (p:NJ) (P:JP):Prop where
 x:p.1<RM
 y:p.2.1<RM
 z:p.2.2<RM
 rep:mB KR aR dR (LU p) P
theorem JRep.pl {p q:NJ} {P Q:JP} (hp:JRep p P) (hq:JRep q Q):JRep (kB p q) (iG.grp.add P Q) :=
 ⟨aE _ _,aE _ _,aE _ _,by rw[ZV]; exact iG.sum hp.rep hq.rep⟩
theorem JRep.db {p:NJ} {P:JP} (hp:JRep p P):JRep (QA p) (iG.grp.add P P) :=
 ⟨aE _ _,aE _ _,aE _ _,by rw[ZW]; exact iG.dbl hp.rep⟩
theorem JRep.nz {p:NJ} {P:JP} (hp:JRep p P):p.2.2≠0:=fun e=>hp.rep.2.2 (by show dS p.2.2=KR.zero; rw[e]; rfl)
theorem AZ {z:Nat} (hz:z<RM):dS (vU 1 z)=KE (dS z):=Fin.ext (by
 show vU 1 z%RM=1*((z%RM)^(RM-2))%RM;rw[Nat.mod_eq_of_lt (jF _ _),Nat.mod_eq_of_lt hz];rfl)
theorem JRep.tld {p:NJ} {P:JP} (hp:JRep p P):tld p=(P.1.1.1,P.1.2.1):=by
 obtain⟨h1,h2⟩:=iG.told hp.rep;have e1:dS (aI p.1 (vU 1 p.2.2))=P.1.1:=by rw[dD,AZ hp.z]; exact h1
 have e2:dS (aI p.2.1 (vU 1 p.2.2))=P.1.2:=by rw[dD,AZ hp.z]; exact h2
 refine Prod.ext ?_ ?_
 ·show aI p.1 (vU 1 p.2.2)=_;rw[←lH (aE p.1 (vU 1 p.2.2)),e1]
 ·show aI p.2.1 (vU 1 p.2.2)=_;rw[←lH (aE p.2.1 (vU 1 p.2.2)),e2]
def FJ (x y:Nat):Prop:=eG (aI 168700 (aI x x)) (aI y y)=eG 1 (aI 168696 (aI (aI x x) (aI y y)))
instance (x y:Nat):Decidable (FJ x y):=Nat.decEq _ _
def OnJ (x y:Nat):Prop:=(x<RM∧y<RM)∧FJ x y
instance (x y:Nat):Decidable (OnJ x y):=instDecidableAnd
theorem Ci {x y:Nat} (h:FJ x y):eC KR aR dR (dS x) (dS y):=by
 have e:=congrArg dS h;simp only[jC,dD,ER]at e;exact e
def jp {x y:Nat} (h:OnJ x y):JP:=⟨(dS x,dS y),Ci h.2⟩
theorem mL {x y:Nat} (h:OnJ x y):JRep (x,y,1) (jp h) :=
 ⟨h.1.1,h.1.2,cT,by show mB KR aR dR (dS x,dS y,dS 1) _; rw[ER]; exact iG.rep1 (jp h)⟩
theorem PA {x y:Fin RM} (h:eC KR aR dR x y):FJ x.1 y.1:=by
 have h:KR.add (KR.mul aR (KR.mul x x)) (KR.mul y y)=KR.add KR.one (KR.mul dR (KR.mul (KR.mul x x) (KR.mul y y))):=h;have e:=congrArg Fin.val h;exact e
theorem JP.on (P:JP):OnJ P.1.1.1 P.1.2.1:=⟨⟨P.1.1.2,P.1.2.2⟩,PA P.2⟩
theorem wD:JRep (0,1,1) iG.grp.zero:=⟨cW,cT,cT,by
 show mB KR aR dR (dS 0,dS 1,dS 1) _;rw[ER,MQ];exact iG.rep1 iG.grp.zero⟩
def Nz {α:Type} (n:Nat) (k:Nat→α):α:=Nat.rec (motive:=fun _=>α) (k 0) (fun m _=>k (Nat.succ m)) n
theorem DG {α:Type} (n:Nat) (k:Nat→α):Nz n k=k n:=by cases n<;>rfl
def Ky {α:Type} (p:NJ) (k:NJ→α):α:=Nz p.1 fun x=>Nz p.2.1 fun y=>Nz p.2.2 fun z=>k (x,y,z)
theorem QQ {α:Type} (p:NJ) (k:NJ→α):Ky p k=k p:=by unfold Ky; rw[DG,DG,DG]
def Gr (p:NJ) (n L:Nat):Nat→NJ
 | 0=>(0,1,1)
 | k+1=>Ky (Gr p n L k) fun q=>Ky (QA q) fun q2=>bif Nat.beq (n/2^(L-(k+1))%2) 1 then kB q2 p else q2
theorem GV {p:NJ} {P:JP} (h:JRep p P) (n L:Nat) (hn:n<2^L):∀k,k≤L→JRep (Gr p n L k) (iG.grp.ns (n/2^(L-k)) P)
 | 0,_=>by
  rw[Nat.sub_zero,Nat.div_eq_of_lt hn];exact wD
 | k+1,hk=>by
  have ih:=GV h n L hn k (by omega);have e:n/2^(L-k)=n/2^(L-(k+1))/2:=by
   rw[show L-k=(L-(k+1))+1 by omega,Nat.pow_add,←Nat.div_div_eq_div_mul]
  rw[e]at ih;have h2:=ih.db;rw[←iG.grp.ns_add]at h2;show JRep (Ky (Gr p n L k) _) _;rw[QQ,QQ];cases hb:Nat.beq (n/2^(L-(k+1))%2) 1
  ·have hb:n/2^(L-(k+1))%2≠1:=fun q=>by rw[q]at hb; cases hb
   rw[show n/2^(L-(k+1))=n/2^(L-(k+1))/2+n/2^(L-(k+1))/2 by omega];exact h2
  ·have hb:=Nat.eq_of_beq_eq_true hb;rw[show n/2^(L-(k+1))=n/2^(L-(k+1))/2+n/2^(L-(k+1))/2+1 by omega];exact h2.pl h
theorem GW {p:NJ} {P:JP} (h:JRep p P) (n L:Nat) (hn:n<2^L):JRep (Gr p n L L) (iG.grp.ns n P):=by
 have:=GV h n L hn L (Nat.le_refl _)
 rwa [Nat.sub_self,Nat.pow_zero,Nat.div_one]at this
def kT (p:NJ):Bool:=Nat.beq p.1 0&&Nat.beq p.2.1 p.2.2
theorem nP {p:NJ} {P:JP} (h:JRep p P):kT p=true↔P=iG.grp.zero:=by
 obtain⟨hx,hy,hz,h1,h2,h3⟩:=h;have h1:dS p.1=KR.mul P.1.1 (dS p.2.2):=h1;have h2:dS p.2.1=KR.mul P.1.2 (dS p.2.2):=h2;have h3:dS p.2.2≠KR.zero:=h3;unfold kT;rw[Bool.and_eq_true];constructor
 ·rintro⟨e1,e2⟩
  have e1:=Nat.eq_of_beq_eq_true e1;have e2:=Nat.eq_of_beq_eq_true e2;rw[e1]at h1;rw[e2]at h2;refine Subtype.ext (Prod.ext ?_ ?_)
  ·refine Kz.zd (a:=dS p.2.2) ?_ h3;rw[KR.mul_comm,←h1];exact MQ
  ·refine Kz.cancel h3 ?_;rw[KR.mul_comm,←h2];exact (KR.mul_one _).symm
 ·rintro rfl
  have e1:dS p.1=KR.zero:=h1.trans (KR.zero_mul _);have e2:dS p.2.1=dS p.2.2:=h2.trans (KR.one_mul _);refine⟨?_,?_⟩
  ·rw[vD hx cW (e1.trans MQ.symm)]; rfl
  ·rw[vD hy hz e2]; exact Nat.beq_refl _
def lJ:Nat:=2736030358979909402780800718157159386076813972158567259200215660948447373041
def bX:Nat:=5299619240641551281634865583518297030282874472190772894086521144482721001553
def bY:Nat:=16950150798460657717958625567821834550301663161624707787222815936182638968203
theorem wY:OnJ bX bY:=of_decide_eq_true (by kernel_rfl)
def JB:JP:=jp wY
theorem Mk:kT (Gr (bX,bY,1) lJ 251 251)=true:=by kernel_rfl
theorem ZE:iG.grp.ns lJ JB=iG.grp.zero:=(nP (GW (mL wY) lJ 251 (by decide))).1 Mk
def mY:Nat:=21888242871839275222246405745257275088548364400416034343698204186575808495616
theorem VQ:OnJ 0 mY:=of_decide_eq_true (by kernel_rfl)
theorem Jz:kT (Gr (0,mY,1) lJ 251 251)=false:=by kernel_rfl
theorem Jy:iG.grp.ns lJ (jp VQ)≠iG.grp.zero:=fun h=>by
 have:=(nP (GW (mL VQ) lJ 251 (by decide))).2 h;rw[Jz]at this;cases this
def Gm (op:Nat→Nat) (c:Nat→List Prop):gH
 | [.v (.fl l)]=>match lX l with|some x=>some (c x,.one (.fl [.q (op x)]))|none=>none
 | _=>none
def WH (op:Nat→Nat→Nat) (c:Nat→Nat→List Prop):gH
 | [.v (.fl l),.v (.fl m)]=>match lX l,lX m with|some x,some y=>some (c x y,.one (.fl [.q (op x y)]))|_,_=>none
 | _=>none
def xB (x y:Nat):List Prop:=[x<RM,y<RM]
theorem mO {f:FuncId} {op:Nat→Nat→Nat} {c:Nat→Nat→List Prop} (h:∀x y,aP (c x y)→∀args w,cE w [.v (.fl [.q x]),.v (.fl [.q y])] args→bE prog f (.one (.fl [.q (op x y)])) args w) :
  ∀cs pre r,WH op c cs=some (pre,r)→aP pre→∀(args:List Value) (w:World),cE w cs args→bE prog f r args w:=by
 intro cs pre r hg hp args w ha;unfold WH at hg;split at hg
 ·rename_i l m;split at hg
  ·rename_i x y hx hy;cases hg;refine h x y hp args w ?_
   match args,ha with
   | [v,u],ha =>
    refine⟨?_,?_,trivial⟩
    ·show v=.agg (aD (q1 x)).toArray;rw[←bZ l x hx]; exact ha.1
    ·show u=.agg (aD (q1 y)).toArray;rw[←bZ m y hy]; exact ha.2.1
   | [],ha=>exact ha.elim
   | [_],ha=>exact ha.2.elim
   | _::_::_::_,ha=>exact ha.2.2.elim
  ·cases hg
 ·cases hg
theorem wI {f:FuncId} {op:Nat→Nat} {c:Nat→List Prop} (h:∀x,aP (c x)→∀args w,cE w [.v (.fl [.q x])] args→bE prog f (.one (.fl [.q (op x)])) args w) :
  ∀cs pre r,Gm op c cs=some (pre,r)→aP pre→∀(args:List Value) (w:World),cE w cs args→bE prog f r args w:=by
 intro cs pre r hg hp args w ha;unfold Gm at hg;split at hg
 ·rename_i l;split at hg
  ·rename_i x hx;cases hg;refine h x hp args w ?_
   match args,ha with
   | [v],ha =>
    refine⟨?_,trivial⟩;show v=.agg (aD (q1 x)).toArray;rw[←bZ l x hx]; exact ha.1
   | [],ha=>exact ha.elim
   | _::_::_,ha=>exact ha.2.elim
  ·cases hg
 ·cases hg
theorem DY {x:Nat} (h:x<RM):bD .neq .i64 (RS x) 0=some (.bool false):=by unfold RS; rw[if_pos h]; rfl
theorem GX {x:Nat} (h:¬x<RM):bD .neq .i64 (RS x) 0=some (.bool true):=by unfold RS; rw[if_neg h]; rfl
def Fo (N:Nat) (f:Nat→Nat):Prop:=∀j,j<N→f j<RM
instance (N:Nat) (f:Nat→Nat):Decidable (Fo N f):=Nat.decidableBallLT N fun j _=>f j<RM
def Dy:gH
 | [.v (.im (.int .i64 2)),.v (.fl l),.v (.fl m)]=>match lX l,lX m with
  | some x,some y=>some ([x<RM,y<RM,y≠0],.many [.fl [.q (vU x y)],.im (.int .i64 0)])
  | _,_=>none
 | _=>none
theorem Jh:∀cs pre r,Dy cs=some (pre,r)→aP pre→∀(args:List Value) (w:World),cE w cs args→bE prog 92 r args w:=by
 intro cs pre r hg hp args w ha;unfold Dy at hg;split at hg
 ·rename_i l m;split at hg
  ·rename_i x y hx hy;cases hg
   match args,ha with
   | [t,v,u],ha =>
    obtain⟨h1,h2,h3,_⟩:=ha;have h1:t=.int .i64 2:=h1;have h2:v=.agg (aD l).toArray:=h2;have h3:u=.agg (aD m).toArray:=h3;rw[bZ l x hx]at h2;rw[bZ m y hy]at h3;subst h1; subst h2; subst h3;have h:=WP 2 _ jK _ _ _ _ _ _ _ _ (cJ x) (cJ y) (by rw[gT hp.1]; exact hp.1) (by rw[gT hp.2.1]; exact hp.2.1) (by rw[gT hp.2.1]; exact hp.2.2.1) w;rw[gT hp.1,gT hp.2.1]at h;refine h.mono ?_
    rintro e w' ⟨s0,s1,s2,s3,rfl,hs,hv,hb⟩
    obtain⟨rfl,rfl,rfl,rfl⟩:=eW hs (fH (jF x y)) hv;exact⟨rfl,hb⟩
   | [],ha=>exact ha.elim
   | [_],ha=>exact ha.2.elim
   | [_,_],ha=>exact ha.2.2.elim
   | _::_::_::_::_,ha=>exact ha.2.2.2.elim
  ·cases hg
 ·cases hg
def LR:Tab:=(((((T0.add 115 (YT eG)).add 93 (YT dE)).add 106 (YT aI)).add 100 Eb).add 54 Dt).add 92 Dy
theorem yX:TabOk prog LR:=((((((fV _).ad func115 Ji).ad func93 Jf).ad func106 Jg).ad func100 UN).ad func54 Pg).ad func92 Jh
theorem VV (x y:Nat):jY prog LR (qG prog) (fun _=>true) f101 40 [.v (.fl [.q x]),.v (.fl [.q y])]=some ([x<RM,y<RM],.one (.fl [.q (eG x y)])):=by kernel_rfl
theorem PX (x y:Nat):jY prog LR (qG prog) (fun _=>true) f53 40 [.v (.fl [.q x]),.v (.fl [.q y])]=some ([x<RM,y<RM],.one (.fl [.q (dE x y)])):=by kernel_rfl
theorem PW (x y:Nat):jY prog LR (qG prog) (fun _=>true) f86 40 [.v (.fl [.q x]),.v (.fl [.q y])]=some ([x<RM,y<RM],.one (.fl [.q (aI x y)])):=by kernel_rfl
theorem VW (x y:Nat):jY prog LR (qG prog) (fun _=>true) f52 40 [.v (.fl [.q x]),.v (.fl [.q y])]=some ([x<RM,y<RM,y≠0],.one (.fl [.q (vU x y)])):=by kernel_rfl
def LS:Tab:=((((LR.add 101 (WH eG xB)).add 53 (WH dE xB)).add 86 (WH aI xB)).add 52 (WH vU fun x y=>[x<RM,y<RM,y≠0]))
theorem yY:TabOk prog LS:=((((yX.ad func101 (mO (op:=eG) (c:=xB) fun x y h args w ha=>bR aT yX (aW _) func101 (VV x y) h ha)).ad func53 (mO (op:=dE) (c:=xB) fun x y h args w ha=>bR aT yX (aW _) func53 (PX x y) h ha)).ad func86 (mO (op:=aI) (c:=xB) fun x y h args w ha=>bR aT yX (aW _) func86 (PW x y) h ha)).ad func52 (mO (op:=vU) (c:=fun x y=>[x<RM,y<RM,y≠0]) fun x y h args w ha=>bR aT yX (aW _) func52 (VW x y) h ha))
theorem CV (x:Nat):jY prog LS (qG prog) (fun _=>true) f50 40 [.v (.fl [.q x])]=some ([x<RM,x<RM],.one (.fl [.q (aI x x)])):=by kernel_rfl
theorem zJ (x:Nat):jY prog LS (qG prog) (fun _=>true) f56 40 [.v (.fl [.q x])]=some ([0<RM,x<RM],.one (.fl [.q (dE 0 x)])):=by kernel_rfl
theorem KH (x:Nat):jY prog LS (qG prog) (fun _=>true) f102 40 [.v (.fl [.q x])]=some ([168700<18446744073709551616,168700<RM,x<RM],.one (.fl [.q (aI 168700 x)])):=by kernel_rfl
theorem KG (x:Nat):jY prog LS (qG prog) (fun _=>true) f55 40 [.v (.fl [.q x])]=some ([168696<18446744073709551616,168696<RM,x<RM],.one (.fl [.q (aI 168696 x)])):=by kernel_rfl
def EJ:Tab:=((((LS.add 50 (Gm (fun x=>aI x x) fun x=>[x<RM])).add 56 (Gm (dE 0) fun x=>[x<RM])).add 102 (Gm (aI 168700) fun x=>[x<RM])).add 55 (Gm (aI 168696) fun x=>[x<RM]))
theorem pK:TabOk prog EJ:=((((yY.ad func50 (wI (op:=fun x=>aI x x) (c:=fun x=>[x<RM]) fun x h args w ha=>bR aT yY (aW _) func50 (CV x) ⟨h.1,h.1,trivial⟩ ha)).ad func56 (wI (op:=dE 0) (c:=fun x=>[x<RM]) fun x h args w ha=>bR aT yY (aW _) func56 (zJ x) ⟨cW,h.1,trivial⟩ ha)).ad func102 (wI (op:=aI 168700) (c:=fun x=>[x<RM]) fun x h args w ha=>bR aT yY (aW _) func102 (KH x) ⟨by decide,by decide,h.1,trivial⟩ ha)).ad func55 (wI (op:=aI 168696) (c:=fun x=>[x<RM]) fun x h args w ha=>bR aT yY (aW _) func55 (KG x) ⟨by decide,by decide,h.1,trivial⟩ ha))
abbrev NP:=Nat×Nat
def q3 (p:NJ):List At:=[.q p.1,.q p.2.1,.q p.2.2]
def LX (l:List At):Option NJ:=match CO l with|some [a,b,c]=>some (a,b,c)|_=>none
theorem iB:Rd LX q3:=fun l x h=>by
 unfold LX at h;split at h
 ·rename_i hn; cases h; rw[nL hn]; rfl
 ·cases h
def c3 (p:NJ):List Prop:=[p.1<RM,p.2.1<RM,p.2.2<RM]
theorem CW (x y:Nat):jY prog EJ (qG prog) (fun _=>true) f33 40 [.v (.fl [.q x,.q y])]=some ([1<18446744073709551616],.one (.fl [.q x,.q y,.q 1])):=by kernel_rfl
theorem CX:jY prog EJ (qG prog) (fun _=>true) f30 40 []=some ([1<18446744073709551616],.one (.fl [.f ⟨0,cP⟩,.q 1])):=by kernel_rfl
theorem uH (w:World):bE prog 30 (.one (.fl [.q 0,.q 1])) [] w:=bR aT pK (aW _) func30 CX ⟨by decide,trivial⟩ (args:=[]) trivial
theorem zI (p q:NJ):jY prog EJ (qG prog) (fun _=>true) f74 60 [.v (.fl (q3 p)),.v (.fl (q3 q))]=some ([p.2.2<RM,q.2.2<RM,p.1<RM,q.1<RM,p.2.1<RM,q.2.1<RM,(aI p.1 q.1)<RM,(aI p.2.1 q.2.1)<RM,(aI (aI p.1 q.1) (aI p.2.1 q.2.1))<RM,(aI p.2.2 q.2.2)<RM,(aI (aI p.2.2 q.2.2) (aI p.2.2 q.2.2))<RM,(aI 168696 (aI (aI p.1 q.1) (aI p.2.1 q.2.1)))<RM,(aI (aI p.2.2 q.2.2) (aI p.2.2 q.2.2))<RM,(aI 168696 (aI (aI p.1 q.1) (aI p.2.1 q.2.1)))<RM,p.1<RM,p.2.1<RM,q.1<RM,q.2.1<RM,(eG p.1 p.2.1)<RM,(eG q.1 q.2.1)<RM,(aI (eG p.1 p.2.1) (eG q.1 q.2.1))<RM,(aI p.1 q.1)<RM,(dE (aI (eG p.1 p.2.1) (eG q.1 q.2.1)) (aI p.1 q.1))<RM,(aI p.2.1 q.2.1)<RM,(aI p.2.2 q.2.2)<RM,(dE (aI (aI p.2.2 q.2.2) (aI p.2.2 q.2.2)) (aI 168696 (aI (aI p.1 q.1) (aI p.2.1 q.2.1))))<RM,(aI (aI p.2.2 q.2.2) (dE (aI (aI p.2.2 q.2.2) (aI p.2.2 q.2.2)) (aI 168696 (aI (aI p.1 q.1) (aI p.2.1 q.2.1)))))<RM,(dE (dE (aI (eG p.1 p.2.1) (eG q.1 q.2.1)) (aI p.1 q.1)) (aI p.2.1 q.2.1))<RM,(aI p.2.2 q.2.2)<RM,(eG (aI (aI p.2.2 q.2.2) (aI p.2.2 q.2.2)) (aI 168696 (aI (aI p.1 q.1) (aI p.2.1 q.2.1))))<RM,(aI p.1 q.1)<RM,(aI p.2.1 q.2.1)<RM,(aI 168700 (aI p.1 q.1))<RM,(aI (aI p.2.2 q.2.2) (eG (aI (aI p.2.2 q.2.2) (aI p.2.2 q.2.2)) (aI 168696 (aI (aI p.1 q.1) (aI p.2.1 q.2.1)))))<RM,(dE (aI p.2.1 q.2.1) (aI 168700 (aI p.1 q.1)))<RM,(dE (aI (aI p.2.2 q.2.2) (aI p.2.2 q.2.2)) (aI 168696 (aI (aI p.1 q.1) (aI p.2.1 q.2.1))))<RM,(eG (aI (aI p.2.2 q.2.2) (aI p.2.2 q.2.2)) (aI 168696 (aI (aI p.1 q.1) (aI p.2.1 q.2.1))))<RM],.one (.fl (q3 (kB p q)))):=by kernel_rfl
theorem sG (p:NJ):jY prog EJ (qG prog) (fun _=>true) f72 60 [.v (.fl (q3 p))]=some ([p.1<RM,p.2.1<RM,p.2.2<RM,p.1<RM,p.2.1<RM,(eG p.1 p.2.1)<RM,(aI (eG p.1 p.2.1) (eG p.1 p.2.1))<RM,(aI p.1 p.1)<RM,(dE (aI (eG p.1 p.2.1) (eG p.1 p.2.1)) (aI p.1 p.1))<RM,(aI p.2.1 p.2.1)<RM,(aI p.1 p.1)<RM,(aI 168700 (aI p.1 p.1))<RM,(aI p.2.1 p.2.1)<RM,(aI p.2.2 p.2.2)<RM,(aI p.2.2 p.2.2)<RM,(eG (aI p.2.2 p.2.2) (aI p.2.2 p.2.2))<RM,(eG (aI 168700 (aI p.1 p.1)) (aI p.2.1 p.2.1))<RM,(dE (dE (aI (eG p.1 p.2.1) (eG p.1 p.2.1)) (aI p.1 p.1)) (aI p.2.1 p.2.1))<RM,(dE (eG (aI p.2.2 p.2.2) (aI p.2.2 p.2.2)) (eG (aI 168700 (aI p.1 p.1)) (aI p.2.1 p.2.1)))<RM,(aI p.2.1 p.2.1)<RM,(aI 168700 (aI p.1 p.1))<RM,(eG (aI 168700 (aI p.1 p.1)) (aI p.2.1 p.2.1))<RM,(dE (aI p.2.1 p.2.1) (aI 168700 (aI p.1 p.1)))<RM,(eG (aI 168700 (aI p.1 p.1)) (aI p.2.1 p.2.1))<RM,(dE (eG (aI p.2.2 p.2.2) (aI p.2.2 p.2.2)) (eG (aI 168700 (aI p.1 p.1)) (aI p.2.1 p.2.1)))<RM],.one (.fl (q3 (QA p)))):=by kernel_rfl
theorem VU (p:NJ):jY prog EJ (qG prog) (fun _=>true) f67 60 [.v (.fl (q3 p))]=some ([1<18446744073709551616,1<RM,p.2.2<RM,p.2.2≠0,p.1<RM,(vU 1 p.2.2)<RM,p.2.1<RM,(vU 1 p.2.2)<RM],.one (.fl [.q (tld p).1,.q (tld p).2])):=by kernel_rfl
def lE:Tab:=(((((EJ.add 33 (g1 IX fun p=>([],.one (.fl (q3 (p.1,p.2,1)))))).add 30 (g0 (.one (.fl [.q 0,.q 1])))).add 74 (g2 LX LX fun p q=>(c3 p++c3 q,.one (.fl (q3 (kB p q)))))).add 72 (g1 LX fun p=>(c3 p,.one (.fl (q3 (QA p)))))).add 67 (g1 LX fun p=>(c3 p++[p.2.2≠0],.one (.fl [.q (tld p).1,.q (tld p).2]))))
theorem gD:TabOk prog lE:=(((((pK.ad func33 (gO (op:=fun p=>([],.one (.fl (q3 (p.1,p.2,1))))) fX fun p h args w ha=>bR aT pK (aW _) func33 (CW p.1 p.2) ⟨by decide,trivial⟩ ha)).ad func30 (pO uH)).ad func74 (zP (op:=fun p q=>(c3 p++c3 q,.one (.fl (q3 (kB p q))))) iB iB fun p q h args w ha=>bR aT pK (aW _) func74 (zI p q) ⟨h.2.2.1,h.2.2.2.2.2.1,h.1,h.2.2.2.1,h.2.1,h.2.2.2.2.1,(aE _ _),(aE _ _),(aE _ _),(aE _ _),(aE _ _),(aE _ _),(aE _ _),(aE _ _),h.1,h.2.1,h.2.2.2.1,h.2.2.2.2.1,(cC _ _),(cC _ _),(aE _ _),(aE _ _),(bI _ _),(aE _ _),(aE _ _),(bI _ _),(aE _ _),(bI _ _),(aE _ _),(cC _ _),(aE _ _),(aE _ _),(aE _ _),(aE _ _),(bI _ _),(bI _ _),(cC _ _),trivial⟩ ha)).ad func72 (gO (op:=fun p=>(c3 p,.one (.fl (q3 (QA p))))) iB fun p h args w ha=>bR aT pK (aW _) func72 (sG p) ⟨h.1,h.2.1,h.2.2.1,h.1,h.2.1,(cC _ _),(aE _ _),(aE _ _),(bI _ _),(aE _ _),(aE _ _),(aE _ _),(aE _ _),(aE _ _),(aE _ _),(cC _ _),(cC _ _),(bI _ _),(bI _ _),(aE _ _),(aE _ _),(cC _ _),(bI _ _),(cC _ _),(bI _ _),trivial⟩ ha)).ad func67 (gO (op:=fun p=>(c3 p++[p.2.2≠0],.one (.fl [.q (tld p).1,.q (tld p).2]))) iB fun p h args w ha=>bR aT pK (aW _) func67 (VU p) ⟨(by decide),cT,h.2.2.1,h.2.2.2.1,h.1,(jF _ _),h.2.1,(jF _ _),trivial⟩ ha))
end Go.Proofs.YtjeplinbleofnaaGreat.Ex
