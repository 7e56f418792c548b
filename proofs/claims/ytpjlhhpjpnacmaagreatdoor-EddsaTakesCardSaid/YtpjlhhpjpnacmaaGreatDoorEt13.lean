/- Et13 -/
import Derived.Laws.BitsAllLaws
import Derived.Test.YtpjlhhpjpnacmaaGreatDoorEt12
import Derived.Test.YtpjlhhpjpnacmaaGreatDoorEt02
import Derived.Test.YtpjlhhpjpnacmaaGreatDoorEt04
import Derived.Test.YtpjlhhpjpnacmaaGreatDoorEt09
import Derived.Test.YtpjlhhpjpnacmaaGreatDoorEt05
import Derived.Test.YtpjlhhpjpnacmaaGreatDoorEt10
import Derived.Test.YtpjlhhpjpnacmaaGreatDoorEt11
import Derived.Test.YtpjlhhpjpnacmaaGreatDoorEt00
import Derived.Test.YtpjlhhpjpnacmaaGreatDoorEt03
import Derived.Test.YtpjlhhpjpnacmaaGreatDoorEt06
import Derived.Test.YtpjlhhpjpnacmaaGreatDoorProg
set_option maxRecDepth 100000
set_option linter.unusedVariables false
set_option linter.unusedSimpArgs false
set_option linter.unnecessarySimpa false
noncomputable section
namespace Go.Proofs.YtpjlhhpjpnacmaaGreatDoor.Ex
open Go.Proofs.Tryz
open Classical
section
variable {R:Type} (K:CR R) (inv:R→R)
variable {K} {inv} {b:R}
end
namespace AG
variable {G:Type} (A:AG G)
theorem addz (a:G):A.add a A.zero=a:=by rw[A.comm,A.zadd]
theorem addn (a:G):A.add a (A.neg a)=A.zero:=by rw[A.comm,A.nadd]
theorem left_comm (a b c:G):A.add a (A.add b c)=A.add b (A.add a c):=by rw[←A.assoc,A.comm a b,A.assoc]
theorem cancel {a b c:G} (h:A.add a b=A.add a c):b=c:=by
 have:=congrArg (A.add (A.neg a)) h
 rwa [←A.assoc,←A.assoc,A.nadd,A.zadd,A.zadd]at this
theorem negz:A.neg A.zero=A.zero:=by apply A.cancel (a:=A.zero); rw[A.addn,A.addz]
theorem neg_add (a b:G):A.neg (A.add a b)=A.add (A.neg a) (A.neg b):=by
 apply A.cancel (a:=A.add a b);rw[A.addn,A.assoc,A.left_comm b,A.addn,A.addz,A.addn]
def ns:Nat→G→G
 | 0,_=>A.zero
 | n+1,g=>A.add (ns n g) g
theorem ns_add (m:Nat) (g:G):∀n,A.ns (m+n) g=A.add (A.ns m g) (A.ns n g)
 | 0=>(A.addz _).symm
 | n+1=>by show A.add (A.ns (m+n) g) g=A.add _ (A.add _ _); rw[ns_add m g n,A.assoc]
theorem ns_zero:∀n,A.ns n A.zero=A.zero
 | 0=>rfl
 | n+1=>by show A.add (A.ns n _) _=_; rw[ns_zero n,A.zadd]
theorem ns_mul (m:Nat) (g:G):∀n,A.ns (m*n) g=A.ns n (A.ns m g)
 | 0=>rfl
 | n+1=>by rw[Nat.mul_add,Nat.mul_one,ns_add,ns_mul m g n]; rfl
theorem ns_neg (g:G):∀n,A.ns n (A.neg g)=A.neg (A.ns n g)
 | 0=>A.negz.symm
 | n+1=>by show A.add (A.ns n _) _=A.neg (A.add _ _); rw[ns_neg g n,A.neg_add]
def zs:Int→G→G
 | .ofNat n,g=>A.ns n g
 | .negSucc n,g=>A.neg (A.ns (n+1) g)
end AG
def aGM (w:Nat):Int:=((w+1)/2:Nat)-(if 16≤w then 16 else 0:Int)
def aKw (x p:Nat):Nat:=(if p=0 then x*2 else x/2^(p*4-1))%32
def jD (x PL:Nat):Nat→Int
 | 0=>0
 | i+1=>16*jD x PL i+aGM (aKw x (PL-1-i))
open Classical
section
variable {R:Type} {K:CR R} {inv:R→R} {b:R}
end
namespace AG
variable {G:Type} (A:AG G)
theorem ns_one (g:G):A.ns 1 g=g:=A.zadd g
end AG
namespace AG
variable {G:Type} (A:AG G)
theorem ns_modz {g:G} {n:Nat} (h:A.ns n g=A.zero) (m:Nat):A.ns (m%n) g=A.ns m g:=by
 conv=>rhs; rw[←Nat.div_add_mod m n,A.ns_add,A.ns_mul,h,A.ns_zero,A.zadd]
theorem ns_gcd {g:G} (a b:Nat):A.ns a g=A.zero→A.ns b g=A.zero→A.ns (Nat.gcd a b) g=A.zero:=by
 induction a,b using Nat.gcd.induction with
 | H0 n=>intro _ h; rw[Nat.gcd_zero_left]; exact h
 | H1 m n hm ih =>
  intro h1 h2;rw[Nat.gcd_rec];exact ih (by rw[A.ns_modz h1]; exact h2) h1
theorem exact {g:G} {N:Nat} {l:List Nat} (hl:l.foldr (· * ·) 1=N) (hp:∀q,q∈l→eI q) (h0:A.ns N g=A.zero) (hq:∀q,q∈l→A.ns (N/q) g≠A.zero) (k:Nat) (hk:0<k) (hN:k<N):A.ns k g≠A.zero:=fun h=>by
 have hd:=A.ns_gcd k N h h0;obtain⟨e,he⟩:=Nat.gcd_dvd_right k N;have hdk:Nat.gcd k N≤k:=Nat.le_of_dvd hk (Nat.gcd_dvd_left k N);have hd0:0<Nat.gcd k N:=Nat.gcd_pos_of_pos_left N hk;have he1:1<e:=by
  rcases Nat.lt_or_ge 1 e with q|q
  ·exact q
  ·have:Nat.gcd k N*e≤Nat.gcd k N*1:=Nat.mul_le_mul_left _ q;omega
 obtain⟨q,hql,f,hf⟩:=sB l e (by rw[hl]; exact⟨Nat.gcd k N,by rw[Nat.mul_comm]; exact he⟩) he1 hp;refine hq q hql ?_;have hq0:0<q:=Nat.lt_trans Nat.zero_lt_one (hp q hql).1;have e1:N/q=Nat.gcd k N*f:=by
  rw[Nat.div_eq_of_eq_mul_left hq0];rw[Nat.mul_assoc,Nat.mul_comm f q,←hf];exact he
 rw[e1,A.ns_mul,hd,A.ns_zero]
theorem ns_inj {g:G} {N:Nat} (h:∀k,0<k→k<N→A.ns k g≠A.zero) {i j:Nat} (hi:i<N) (hj:j<N) (e:A.ns i g=A.ns j g):i=j:=by
 have key:∀i j,i<j→j<N→A.ns i g=A.ns j g→False:=fun i j hij hj e=>by
  refine h (j-i) (by omega) (by omega) ?_;have:A.ns j g=A.add (A.ns i g) (A.ns (j-i) g):=by rw[←A.ns_add,Nat.add_sub_cancel' (Nat.le_of_lt hij)]
  rw[this]at e;refine A.cancel (a:=A.ns i g) ?_;rw[←e,A.addz]
 rcases Nat.lt_trichotomy i j with q|q|q
 ·exact (key i j q hj e).elim
 ·exact q
 ·exact (key j i q hi e.symm).elim
end AG
open Go.RowKit
theorem rrt:Root RM 5:=by
 show Root Go.Proofs.YtpjlhhpjpnacmaaGreatDoor.FR.M 5;rw[aHD];exact ZK
theorem MA:2≤RM:=by decide
def UH (x:Fin RM):Fin RM:=⟨rnv x.1,We _⟩
theorem fdR:FD KR UH:=⟨fun h=>absurd (congrArg Fin.val h) (by decide),fun x h=>Fin.ext (by
 show x.1*(1*(x.1^(RM-2))%RM)%RM=1;rw[Nat.one_mul];exact vO rrt MA (Nat.pos_of_ne_zero fun e=>h (Fin.ext e)) x.2)⟩
def aR:Fin RM:=fK 168700
def dR:Fin RM:=fK 168696
theorem Pk:168696^(RM/2)%RM≠1:=by
 rw[←QR RM 256 168696 (RM/2) (by decide)];exact of_decide_eq_true (by kernel_rfl)
theorem dns (x:Fin RM):KR.mul x x≠dR:=fun h=>by
 have h1:x.1*x.1%RM=168696:=(congrArg Fin.val h).trans (Nat.mod_eq_of_lt (by decide))
 by_cases h0:x.1=0
 ·rw[h0]at h1;exact absurd h1 (by decide)
 ·have h2:=Ca rrt (by decide) (Nat.pos_of_ne_zero h0) x.2;rw[h1]at h2;exact Pk h2
def Jr:Fin RM:=fK 7214280148105020021932206872019688659210616427216992810330019057549499971851
theorem fB:ED KR UH aR dR where
 F:=fdR
 two:=fun h=>absurd (congrArg Fin.val h) (by decide)
 sq:=⟨Jr,of_decide_eq_true (by kernel_rfl)⟩
 ns:=dns
abbrev JP:=PX KR aR dR
abbrev NJ:=Nat×Nat×Nat
def AF (p q:NJ):NJ :=
 let z:=bI p.2.2 q.2.2
 let x:=bI p.1 q.1
 let y:=bI p.2.1 q.2.1
 let both:=bI 168696 (bI x y)
 let square:=bI z z
 let more:=iP square both
 let less:=iC square both
 let across:=iC (iC (bI (iP p.1 p.2.1) (iP q.1 q.2.1)) x) y
 (bI (bI z less) across,bI (bI z more) (iC y (bI 168700 x)),bI less more)
def Cp (p:NJ):NJ :=
 let x:=bI p.1 p.1
 let y:=bI p.2.1 p.2.1
 let z:=bI p.2.2 p.2.2
 let across:=iC (iC (bI (iP p.1 p.2.1) (iP p.1 p.2.1)) x) y
 let ax:=bI 168700 x
 let more:=iP ax y
 let less:=iC (iP z z) more
 (bI across less,bI more (iC y ax),bI more less)
def CL (x y:Nat):Nat:=x*(y^(RM-2))%RM
theorem kY (x y:Nat):CL x y<RM:=Nat.mod_lt _ eE
def tld (p:NJ):Nat×Nat:=(bI p.1 (CL 1 p.2.2),bI p.2.1 (CL 1 p.2.2))
def WS (p:NJ):Fin RM×Fin RM×Fin RM:=(fK p.1,fK p.2.1,fK p.2.2)
theorem fC (x:Nat) {y:Nat} (hy:y<RM):fK (iC x y)=KR.sub (fK x) (fK y):=Ih x hy
theorem Ux (p q:NJ):WS (AF p q)=JQ KR aR dR (WS p) (WS q):=by
 refine Prod.ext ?_ (Prod.ext ?_ ?_)
 ·simp only[WS,AF,JQ,dY,mH,fC _ (aL _ _)]; rfl
 ·simp only[WS,AF,JQ,dY,mH,fC _ (aL _ _)]; rfl
 ·simp only[WS,AF,JQ,dY,mH,fC _ (aL _ _)]; rfl
theorem Uy (p:NJ):WS (Cp p)=JR KR aR (WS p):=by
 refine Prod.ext ?_ (Prod.ext ?_ ?_)
 ·simp only[WS,Cp,JR,dY,mH,fC _ (aL _ _),fC _ (dJ _ _)]; rfl
 ·simp only[WS,Cp,JR,dY,mH,fC _ (aL _ _),fC _ (dJ _ _)]; rfl
 ·simp only[WS,Cp,JR,dY,mH,fC _ (aL _ _),fC _ (dJ _ _)]; rfl
structure JRep (p:NJ) (P:JP):Prop where
 x:p.1<RM
 y:p.2.1<RM
 z:p.2.2<RM
 rep:pT KR aR dR (WS p) P
theorem JRep.pl {p q:NJ} {P Q:JP} (hp:JRep p P) (hq:JRep q Q):JRep (AF p q) (fB.grp.add P Q) :=
 ⟨aL _ _,aL _ _,aL _ _,by rw[Ux]; exact fB.sum hp.rep hq.rep⟩
theorem JRep.db {p:NJ} {P:JP} (hp:JRep p P):JRep (Cp p) (fB.grp.add P P) :=
 ⟨aL _ _,aL _ _,aL _ _,by rw[Uy]; exact fB.dbl hp.rep⟩
theorem JRep.nz {p:NJ} {P:JP} (hp:JRep p P):p.2.2≠0:=fun e=>hp.rep.2.2 (by show fK p.2.2=KR.zero; rw[e]; rfl)
theorem LB {z:Nat} (hz:z<RM):fK (CL 1 z)=UH (fK z):=Fin.ext (by
 show CL 1 z%RM=1*((z%RM)^(RM-2))%RM;rw[Nat.mod_eq_of_lt (kY _ _),Nat.mod_eq_of_lt hz];rfl)
theorem JRep.tld {p:NJ} {P:JP} (hp:JRep p P):tld p=(P.1.1.1,P.1.2.1):=by
 obtain⟨h1,h2⟩:=fB.told hp.rep;have e1:fK (bI p.1 (CL 1 p.2.2))=P.1.1:=by rw[dY,LB hp.z]; exact h1
 have e2:fK (bI p.2.1 (CL 1 p.2.2))=P.1.2:=by rw[dY,LB hp.z]; exact h2
 refine Prod.ext ?_ ?_
 ·show bI p.1 (CL 1 p.2.2)=_;rw[←mG (aL p.1 (CL 1 p.2.2)),e1]
 ·show bI p.2.1 (CL 1 p.2.2)=_;rw[←mG (aL p.2.1 (CL 1 p.2.2)),e2]
def EN (x y:Nat):Prop:=iP (bI 168700 (bI x x)) (bI y y)=iP 1 (bI 168696 (bI (bI x x) (bI y y)))
instance (x y:Nat):Decidable (EN x y):=Nat.decEq _ _
def OnJ (x y:Nat):Prop:=(x<RM∧y<RM)∧EN x y
instance (x y:Nat):Decidable (OnJ x y):=instDecidableAnd
theorem Aq {x y:Nat} (h:EN x y):fQ KR aR dR (fK x) (fK y):=by
 have e:=congrArg fK h;simp only[mH,dY,QE]at e;exact e
def jp {x y:Nat} (h:OnJ x y):JP:=⟨(fK x,fK y),Aq h.2⟩
theorem mP {x y:Nat} (h:OnJ x y):JRep (x,y,1) (jp h) :=
 ⟨h.1.1,h.1.2,eR,by show pT KR aR dR (fK x,fK y,fK 1) _; rw[QE]; exact fB.rep1 (jp h)⟩
theorem Xq {x y:Fin RM} (h:fQ KR aR dR x y):EN x.1 y.1:=by
 have h:KR.add (KR.mul aR (KR.mul x x)) (KR.mul y y)=KR.add KR.one (KR.mul dR (KR.mul (KR.mul x x) (KR.mul y y))):=h;have e:=congrArg Fin.val h;exact e
theorem JP.on (P:JP):OnJ P.1.1.1 P.1.2.1:=⟨⟨P.1.1.2,P.1.2.2⟩,Xq P.2⟩
theorem aJv {x y:Nat} (h:OnJ x y):(jp h).1.1.1=x:=mG h.1.1
theorem aEb {x y:Nat} (h:OnJ x y):(jp h).1.2.1=y:=mG h.1.2
theorem aEc (P:JP) (h:OnJ P.1.1.1 P.1.2.1):jp h=P:=Subtype.ext (Prod.ext (Fin.ext (Nat.mod_eq_of_lt P.1.1.2)) (Fin.ext (Nat.mod_eq_of_lt P.1.2.2)))
theorem NI:JRep (0,1,1) fB.grp.zero:=⟨eE,eR,eR,by
 show pT KR aR dR (fK 0,fK 1,fK 1) _;rw[QE,XX];exact fB.rep1 fB.grp.zero⟩
def fjn {α:Type} (n:Nat) (k:Nat→α):α:=Nat.rec (motive:=fun _=>α) (k 0) (fun m _=>k (Nat.succ m)) n
theorem OC {α:Type} (n:Nat) (k:Nat→α):fjn n k=k n:=by cases n<;>rfl
def fj3 {α:Type} (p:NJ) (k:NJ→α):α:=fjn p.1 fun x=>fjn p.2.1 fun y=>fjn p.2.2 fun z=>k (x,y,z)
theorem Dq {α:Type} (p:NJ) (k:NJ→α):fj3 p k=k p:=by unfold fj3; rw[OC,OC,OC]
def cmJ (p:NJ) (n L:Nat):Nat→NJ
 | 0=>(0,1,1)
 | k+1=>fj3 (cmJ p n L k) fun q=>fj3 (Cp q) fun q2=>bif Nat.beq (n/2^(L-(k+1))%2) 1 then AF q2 p else q2
theorem SD {p:NJ} {P:JP} (h:JRep p P) (n L:Nat) (hn:n<2^L):∀k,k≤L→JRep (cmJ p n L k) (fB.grp.ns (n/2^(L-k)) P)
 | 0,_=>by
  rw[Nat.sub_zero,Nat.div_eq_of_lt hn];exact NI
 | k+1,hk=>by
  have ih:=SD h n L hn k (by omega);have e:n/2^(L-k)=n/2^(L-(k+1))/2:=by
   rw[show L-k=(L-(k+1))+1 by omega,Nat.pow_add,←Nat.div_div_eq_div_mul]
  rw[e]at ih;have h2:=ih.db;rw[←fB.grp.ns_add]at h2;show JRep (fj3 (cmJ p n L k) _) _;rw[Dq,Dq];cases hb:Nat.beq (n/2^(L-(k+1))%2) 1
  ·have hb:n/2^(L-(k+1))%2≠1:=fun q=>by rw[q]at hb; cases hb
   rw[show n/2^(L-(k+1))=n/2^(L-(k+1))/2+n/2^(L-(k+1))/2 by omega];exact h2
  ·have hb:=Nat.eq_of_beq_eq_true hb;rw[show n/2^(L-(k+1))=n/2^(L-(k+1))/2+n/2^(L-(k+1))/2+1 by omega];exact h2.pl h
theorem Pq {p:NJ} {P:JP} (h:JRep p P) (n L:Nat) (hn:n<2^L):JRep (cmJ p n L L) (fB.grp.ns n P):=by
 have:=SD h n L hn L (Nat.le_refl _)
 rwa [Nat.sub_self,Nat.pow_zero,Nat.div_one]at this
def pL (p:NJ):Bool:=Nat.beq p.1 0&&Nat.beq p.2.1 p.2.2
theorem xP {p:NJ} {P:JP} (h:JRep p P):pL p=true↔P=fB.grp.zero:=by
 obtain⟨hx,hy,hz,h1,h2,h3⟩:=h;have h1:fK p.1=KR.mul P.1.1 (fK p.2.2):=h1;have h2:fK p.2.1=KR.mul P.1.2 (fK p.2.2):=h2;have h3:fK p.2.2≠KR.zero:=h3;unfold pL;rw[Bool.and_eq_true];constructor
 ·rintro⟨e1,e2⟩
  have e1:=Nat.eq_of_beq_eq_true e1;have e2:=Nat.eq_of_beq_eq_true e2;rw[e1]at h1;rw[e2]at h2;refine Subtype.ext (Prod.ext ?_ ?_)
  ·refine fdR.zd (a:=fK p.2.2) ?_ h3;rw[KR.mul_comm,←h1];exact XX
  ·refine fdR.cancel h3 ?_;rw[KR.mul_comm,←h2];exact (KR.mul_one _).symm
 ·rintro rfl
  have e1:fK p.1=KR.zero:=h1.trans (KR.zero_mul _);have e2:fK p.2.1=fK p.2.2:=h2.trans (KR.one_mul _);refine⟨?_,?_⟩
  ·rw[vK hx eE (e1.trans XX.symm)]; rfl
  ·rw[vK hy hz e2]; exact Nat.beq_refl _
def lJ:Nat:=2736030358979909402780800718157159386076813972158567259200215660948447373041
def bX:Nat:=5299619240641551281634865583518297030282874472190772894086521144482721001553
def bY:Nat:=16950150798460657717958625567821834550301663161624707787222815936182638968203
theorem zL:OnJ bX bY:=of_decide_eq_true (by kernel_rfl)
def JB:JP:=jp zL
theorem aHc:pL (cmJ (bX,bY,1) lJ 251 251)=true:=by kernel_rfl
theorem SH:fB.grp.ns lJ JB=fB.grp.zero:=(xP (Pq (mP zL) lJ 251 (by decide))).1 aHc
def Zm:gE
 | [.v (.im (.int .i64 2)),.v (.fl l),.v (.fl m)]=>match qZ l,qZ m with
  | some x,some y=>some ([x<RM,y<RM,y≠0],.many [.fl [.q (CL x y)],.im (.int .i64 0)])
  | _,_=>none
 | _=>none
theorem aDa:∀cs pre r,Zm cs=some (pre,r)→bC pre→∀(args:List Value) (w:World),cP w cs args→bG prog 157 r args w:=by
 intro cs pre r hg hp args w ha;unfold Zm at hg;split at hg
 ·rename_i l m;split at hg
  ·rename_i x y hx hy;cases hg
   match args,ha with
   | [t,v,u],ha =>
    obtain⟨h1,h2,h3,_⟩:=ha;have h1:t=.int .i64 2:=h1;have h2:v=.agg (aA l).toArray:=h2;have h3:u=.agg (aA m).toArray:=h3;rw[dP l x hx]at h2;rw[dP m y hy]at h3;subst h1; subst h2; subst h3;have h:=Oo 2 _ qQ _ _ _ _ _ _ _ _ (eN x) (eN y) (by rw[pR hp.1]; exact hp.1) (by rw[pR hp.2.1]; exact hp.2.1) (by rw[pR hp.2.1]; exact hp.2.2.1) w;rw[pR hp.1,pR hp.2.1]at h;refine h.mono ?_
    rintro e w' ⟨s0,s1,s2,s3,rfl,hs,hv,hb⟩
    obtain⟨rfl,rfl,rfl,rfl⟩:=gY hs (fT (kY x y)) hv;exact⟨rfl,hb⟩
   | [],ha=>exact ha.elim
   | [_],ha=>exact ha.2.elim
   | [_,_],ha=>exact ha.2.2.elim
   | _::_::_::_::_,ha=>exact ha.2.2.2.elim
  ·cases hg
 ·cases hg
def WM:Tab:=(((((T0.add 195 (Hm iP)).add 158 (Hm iC)).add 189 (Hm bI)).add 81 Ob).add 106 Nr).add 157 Zm
theorem IC:TabOk prog WM:=((((((bP _).add func195 (by kernel_rfl) (by kernel_rfl) Sh).add func158 (by kernel_rfl) (by kernel_rfl) aCZ).add func189 (by kernel_rfl) (by kernel_rfl) Sg).add func81 (by kernel_rfl) (by kernel_rfl) QM).add func106 (by kernel_rfl) (by kernel_rfl) Wk).add func157 (by kernel_rfl) (by kernel_rfl) aDa
theorem Mn (x y:Nat):nI prog WM (qG prog) (fun _=>true) f159 40 [.v (.fl [.q x]),.v (.fl [.q y])]=some ([x<RM,y<RM],.one (.fl [.q (iP x y)])):=by kernel_rfl
theorem Cn (x y:Nat):nI prog WM (qG prog) (fun _=>true) f105 40 [.v (.fl [.q x]),.v (.fl [.q y])]=some ([x<RM,y<RM],.one (.fl [.q (iC x y)])):=by kernel_rfl
theorem Cm (x y:Nat):nI prog WM (qG prog) (fun _=>true) f146 40 [.v (.fl [.q x]),.v (.fl [.q y])]=some ([x<RM,y<RM],.one (.fl [.q (bI x y)])):=by kernel_rfl
theorem Mo (x y:Nat):nI prog WM (qG prog) (fun _=>true) f104 40 [.v (.fl [.q x]),.v (.fl [.q y])]=some ([x<RM,y<RM,y≠0],.one (.fl [.q (CL x y)])):=by kernel_rfl
def WN:Tab:=((((WM.add 159 (Tb iP To)).add 105 (Tb iC To)).add 146 (Tb bI To)).add 104 (Tb CL fun x y=>[x<RM,y<RM,y≠0]))
theorem ID:TabOk prog WN:=((((IC.add func159 (by kernel_rfl) (by kernel_rfl) (uE (op:=iP) (c:=To) fun x y h args w ha=>cT aI IC (aV _) func159 (Mn x y) h ha)).add func105 (by kernel_rfl) (by kernel_rfl) (uE (op:=iC) (c:=To) fun x y h args w ha=>cT aI IC (aV _) func105 (Cn x y) h ha)).add func146 (by kernel_rfl) (by kernel_rfl) (uE (op:=bI) (c:=To) fun x y h args w ha=>cT aI IC (aV _) func146 (Cm x y) h ha)).add func104 (by kernel_rfl) (by kernel_rfl) (uE (op:=CL) (c:=fun x y=>[x<RM,y<RM,y≠0]) fun x y h args w ha=>cT aI IC (aV _) func104 (Mo x y) h ha))
theorem NF (x:Nat):nI prog WN (qG prog) (fun _=>true) f102 40 [.v (.fl [.q x])]=some ([x<RM,x<RM],.one (.fl [.q (bI x x)])):=by kernel_rfl
theorem IW (x:Nat):nI prog WN (qG prog) (fun _=>true) f108 40 [.v (.fl [.q x])]=some ([0<RM,x<RM],.one (.fl [.q (iC 0 x)])):=by kernel_rfl
theorem UK (x:Nat):nI prog WN (qG prog) (fun _=>true) f160 40 [.v (.fl [.q x])]=some ([168700<18446744073709551616,168700<RM,x<RM],.one (.fl [.q (bI 168700 x)])):=by kernel_rfl
theorem UJ (x:Nat):nI prog WN (qG prog) (fun _=>true) f107 40 [.v (.fl [.q x])]=some ([168696<18446744073709551616,168696<RM,x<RM],.one (.fl [.q (bI 168696 x)])):=by kernel_rfl
def PR:Tab:=((((WN.add 102 (Zl (fun x=>bI x x) fun x=>[x<RM])).add 108 (Zl (iC 0) fun x=>[x<RM])).add 160 (Zl (bI 168700) fun x=>[x<RM])).add 107 (Zl (bI 168696) fun x=>[x<RM]))
theorem uR:TabOk prog PR:=((((ID.add func102 (by kernel_rfl) (by kernel_rfl) (xS (op:=fun x=>bI x x) (c:=fun x=>[x<RM]) fun x h args w ha=>cT aI ID (aV _) func102 (NF x) ⟨h.1,h.1,trivial⟩ ha)).add func108 (by kernel_rfl) (by kernel_rfl) (xS (op:=iC 0) (c:=fun x=>[x<RM]) fun x h args w ha=>cT aI ID (aV _) func108 (IW x) ⟨eE,h.1,trivial⟩ ha)).add func160 (by kernel_rfl) (by kernel_rfl) (xS (op:=bI 168700) (c:=fun x=>[x<RM]) fun x h args w ha=>cT aI ID (aV _) func160 (UK x) ⟨by decide,by decide,h.1,trivial⟩ ha)).add func107 (by kernel_rfl) (by kernel_rfl) (xS (op:=bI 168696) (c:=fun x=>[x<RM]) fun x h args w ha=>cT aI ID (aV _) func107 (UJ x) ⟨by decide,by decide,h.1,trivial⟩ ha))
abbrev NP:=Nat×Nat
def q3 (p:NJ):List At:=[.q p.1,.q p.2.1,.q p.2.2]
def Kh (l:List At):Option NJ:=match IM l with|some [a,b,c]=>some (a,b,c)|_=>none
theorem qA:Rd Kh q3:=fun l x h=>by
 unfold Kh at h;split at h
 ·rename_i hn; cases h; rw[sK hn]; rfl
 ·cases h
def c3 (p:NJ):List Prop:=[p.1<RM,p.2.1<RM,p.2.2<RM]
theorem NG (x y:Nat):nI prog PR (qG prog) (fun _=>true) f74 40 [.v (.fl [.q x,.q y])]=some ([1<18446744073709551616],.one (.fl [.q x,.q y,.q 1])):=by kernel_rfl
theorem NH:nI prog PR (qG prog) (fun _=>true) f113 40 []=some ([1<18446744073709551616],.one (.fl [.f ⟨0,dB⟩,.q 1])):=by kernel_rfl
theorem UL (w:World):bG prog 113 (.one (.fl [.q 0,.q 1])) [] w:=cT aI uR (aV _) func113 NH ⟨by decide,trivial⟩ (args:=[]) trivial
theorem IV (p q:NJ):nI prog PR (qG prog) (fun _=>true) f117 60 [.v (.fl (q3 p)),.v (.fl (q3 q))]=some ([p.2.2<RM,q.2.2<RM,p.1<RM,q.1<RM,p.2.1<RM,q.2.1<RM,(bI p.1 q.1)<RM,(bI p.2.1 q.2.1)<RM,(bI (bI p.1 q.1) (bI p.2.1 q.2.1))<RM,(bI p.2.2 q.2.2)<RM,(bI (bI p.2.2 q.2.2) (bI p.2.2 q.2.2))<RM,(bI 168696 (bI (bI p.1 q.1) (bI p.2.1 q.2.1)))<RM,(bI (bI p.2.2 q.2.2) (bI p.2.2 q.2.2))<RM,(bI 168696 (bI (bI p.1 q.1) (bI p.2.1 q.2.1)))<RM,p.1<RM,p.2.1<RM,q.1<RM,q.2.1<RM,(iP p.1 p.2.1)<RM,(iP q.1 q.2.1)<RM,(bI (iP p.1 p.2.1) (iP q.1 q.2.1))<RM,(bI p.1 q.1)<RM,(iC (bI (iP p.1 p.2.1) (iP q.1 q.2.1)) (bI p.1 q.1))<RM,(bI p.2.1 q.2.1)<RM,(bI p.2.2 q.2.2)<RM,(iC (bI (bI p.2.2 q.2.2) (bI p.2.2 q.2.2)) (bI 168696 (bI (bI p.1 q.1) (bI p.2.1 q.2.1))))<RM,(bI (bI p.2.2 q.2.2) (iC (bI (bI p.2.2 q.2.2) (bI p.2.2 q.2.2)) (bI 168696 (bI (bI p.1 q.1) (bI p.2.1 q.2.1)))))<RM,(iC (iC (bI (iP p.1 p.2.1) (iP q.1 q.2.1)) (bI p.1 q.1)) (bI p.2.1 q.2.1))<RM,(bI p.2.2 q.2.2)<RM,(iP (bI (bI p.2.2 q.2.2) (bI p.2.2 q.2.2)) (bI 168696 (bI (bI p.1 q.1) (bI p.2.1 q.2.1))))<RM,(bI p.1 q.1)<RM,(bI p.2.1 q.2.1)<RM,(bI 168700 (bI p.1 q.1))<RM,(bI (bI p.2.2 q.2.2) (iP (bI (bI p.2.2 q.2.2) (bI p.2.2 q.2.2)) (bI 168696 (bI (bI p.1 q.1) (bI p.2.1 q.2.1)))))<RM,(iC (bI p.2.1 q.2.1) (bI 168700 (bI p.1 q.1)))<RM,(iC (bI (bI p.2.2 q.2.2) (bI p.2.2 q.2.2)) (bI 168696 (bI (bI p.1 q.1) (bI p.2.1 q.2.1))))<RM,(iP (bI (bI p.2.2 q.2.2) (bI p.2.2 q.2.2)) (bI 168696 (bI (bI p.1 q.1) (bI p.2.1 q.2.1))))<RM],.one (.fl (q3 (AF p q)))):=by kernel_rfl
theorem xM (p:NJ):nI prog PR (qG prog) (fun _=>true) f115 60 [.v (.fl (q3 p))]=some ([p.1<RM,p.2.1<RM,p.2.2<RM,p.1<RM,p.2.1<RM,(iP p.1 p.2.1)<RM,(bI (iP p.1 p.2.1) (iP p.1 p.2.1))<RM,(bI p.1 p.1)<RM,(iC (bI (iP p.1 p.2.1) (iP p.1 p.2.1)) (bI p.1 p.1))<RM,(bI p.2.1 p.2.1)<RM,(bI p.1 p.1)<RM,(bI 168700 (bI p.1 p.1))<RM,(bI p.2.1 p.2.1)<RM,(bI p.2.2 p.2.2)<RM,(bI p.2.2 p.2.2)<RM,(iP (bI p.2.2 p.2.2) (bI p.2.2 p.2.2))<RM,(iP (bI 168700 (bI p.1 p.1)) (bI p.2.1 p.2.1))<RM,(iC (iC (bI (iP p.1 p.2.1) (iP p.1 p.2.1)) (bI p.1 p.1)) (bI p.2.1 p.2.1))<RM,(iC (iP (bI p.2.2 p.2.2) (bI p.2.2 p.2.2)) (iP (bI 168700 (bI p.1 p.1)) (bI p.2.1 p.2.1)))<RM,(bI p.2.1 p.2.1)<RM,(bI 168700 (bI p.1 p.1))<RM,(iP (bI 168700 (bI p.1 p.1)) (bI p.2.1 p.2.1))<RM,(iC (bI p.2.1 p.2.1) (bI 168700 (bI p.1 p.1)))<RM,(iP (bI 168700 (bI p.1 p.1)) (bI p.2.1 p.2.1))<RM,(iC (iP (bI p.2.2 p.2.2) (bI p.2.2 p.2.2)) (iP (bI 168700 (bI p.1 p.1)) (bI p.2.1 p.2.1)))<RM],.one (.fl (q3 (Cp p)))):=by kernel_rfl
theorem Mm (p:NJ):nI prog PR (qG prog) (fun _=>true) f92 60 [.v (.fl (q3 p))]=some ([1<18446744073709551616,1<RM,p.2.2<RM,p.2.2≠0,p.1<RM,(CL 1 p.2.2)<RM,p.2.1<RM,(CL 1 p.2.2)<RM],.one (.fl [.q (tld p).1,.q (tld p).2])):=by kernel_rfl
def nJ:Tab:=(((((PR.add 74 (g1 Sd fun p=>([],.one (.fl (q3 (p.1,p.2,1)))))).add 113 (g0 (.one (.fl [.q 0,.q 1])))).add 117 (g2 Kh Kh fun p q=>(c3 p++c3 q,.one (.fl (q3 (AF p q)))))).add 115 (g1 Kh fun p=>(c3 p,.one (.fl (q3 (Cp p)))))).add 92 (g1 Kh fun p=>(c3 p++[p.2.2≠0],.one (.fl [.q (tld p).1,.q (tld p).2]))))
theorem jB:TabOk prog nJ:=(((((uR.add func74 (by kernel_rfl) (by kernel_rfl) (lY (op:=fun p=>([],.one (.fl (q3 (p.1,p.2,1))))) tI fun p h args w ha=>cT aI uR (aV _) func74 (NG p.1 p.2) ⟨by decide,trivial⟩ ha)).add func113 (by kernel_rfl) (by kernel_rfl) (uU UL)).add func117 (by kernel_rfl) (by kernel_rfl) (JD (op:=fun p q=>(c3 p++c3 q,.one (.fl (q3 (AF p q))))) qA qA fun p q h args w ha=>cT aI uR (aV _) func117 (IV p q) ⟨h.2.2.1,h.2.2.2.2.2.1,h.1,h.2.2.2.1,h.2.1,h.2.2.2.2.1,(aL _ _),(aL _ _),(aL _ _),(aL _ _),(aL _ _),(aL _ _),(aL _ _),(aL _ _),h.1,h.2.1,h.2.2.2.1,h.2.2.2.2.1,(dJ _ _),(dJ _ _),(aL _ _),(aL _ _),(cS _ _),(aL _ _),(aL _ _),(cS _ _),(aL _ _),(cS _ _),(aL _ _),(dJ _ _),(aL _ _),(aL _ _),(aL _ _),(aL _ _),(cS _ _),(cS _ _),(dJ _ _),trivial⟩ ha)).add func115 (by kernel_rfl) (by kernel_rfl) (lY (op:=fun p=>(c3 p,.one (.fl (q3 (Cp p))))) qA fun p h args w ha=>cT aI uR (aV _) func115 (xM p) ⟨h.1,h.2.1,h.2.2.1,h.1,h.2.1,(dJ _ _),(aL _ _),(aL _ _),(cS _ _),(aL _ _),(aL _ _),(aL _ _),(aL _ _),(aL _ _),(aL _ _),(dJ _ _),(dJ _ _),(cS _ _),(cS _ _),(aL _ _),(aL _ _),(dJ _ _),(cS _ _),(dJ _ _),(cS _ _),trivial⟩ ha)).add func92 (by kernel_rfl) (by kernel_rfl) (lY (op:=fun p=>(c3 p++[p.2.2≠0],.one (.fl [.q (tld p).1,.q (tld p).2]))) qA fun p h args w ha=>cT aI uR (aV _) func92 (Mm p) ⟨(by decide),eR,h.2.2.1,h.2.2.2.1,h.1,(kY _ _),h.2.1,(kY _ _),trivial⟩ ha))
theorem Tn {w:World} {l l':List At} {n m:Nat} {args:List Value} (e:aA l=aA l') (h:cP w [.s l n m] args):cP w [.s l' n m] args:=by
 match args,h with
 | [v],h =>
  obtain⟨⟨b,o,rfl,hb,hr⟩,_⟩:=h;exact⟨⟨b,o,rfl,hb,e▸hr⟩,trivial⟩
 | [],h=>exact h.elim
 | _::_::_,h=>exact h.2.elim
def Ta (k:Nat) (c:List Nat→List Prop×RV):gE
 | [.s l n m]=>bif Nat.beq n k then (match IM l with|some x=>some (c x)|none=>none)else none
 | _=>none
theorem NW {f:FuncId} {k:Nat} {c:List Nat→List Prop×RV} (h:∀x m,bC (c x).1→∀args w,cP w [.s (x.map .q) k m] args→bG prog f (c x).2 args w) :
  ∀cs pre r,Ta k c cs=some (pre,r)→bC pre→∀(args:List Value) (w:World),cP w cs args→bG prog f r args w:=by
 intro cs pre r hg hp args w ha;unfold Ta at hg;split at hg
 ·rename_i l n m;cases hb:Nat.beq n k<;>rw[hb]at hg
  ·cases hg
  ·cases Nat.eq_of_beq_eq_true hb;simp only[cond_true]at hg;split at hg
   ·rename_i x hx;have e:c x=(pre,r):=by simpa using hg
    have:=h x m (by rw[e]; exact hp) args w (Tn (sK hx) ha);rw[e]at this;exact this
   ·cases hg
 ·cases hg
def oN (x y:Nat):Bool:=decide (x<RM∧y<RM)
theorem WA (x y m:Nat):cH prog (qG prog) (fun _=>⟨fun _=>nJ,fun _=>true,assoc [(13,.bool false)]⟩) f110 60 [.s [.q x,.q y] 2 m]=some ([x<aG,aN .neq .i64 (VT x) 0=some (.bool false),y<aG,aN .neq .i64 (VT y) 0=some (.bool false)],.one (.im (.bool true))):=by kernel_rfl
theorem WC (x y m:Nat):cH prog (qG prog) (fun _=>⟨fun _=>nJ,fun _=>true,assoc [(13,.bool true)]⟩) f110 60 [.s [.q x,.q y] 2 m]=some ([x<aG,aN .neq .i64 (VT x) 0=some (.bool true)],.one (.im (.bool false))):=by kernel_rfl
theorem WB (x y m:Nat):cH prog (qG prog) (fun n=>⟨fun _=>nJ,fun _=>true,assoc [(13,.bool (Nat.blt n 48))]⟩) f110 60 [.s [.q x,.q y] 2 m]=some ([x<aG,aN .neq .i64 (VT x) 0=some (.bool false),y<aG,aN .neq .i64 (VT y) 0=some (.bool true)],.one (.im (.bool false))):=by kernel_rfl
theorem WD (x y m:Nat) (hx:x<aG) (hy:y<aG) (args:List Value) (w:World) (ha:cP w [.s [.q x,.q y] 2 m] args):bG prog 110 (.one (.im (.bool (oN x y)))) args w:=by
 unfold oN
 by_cases h1:x<RM
 ·by_cases h2:y<RM
  ·rw[decide_eq_true ⟨h1,h2⟩];exact aK aI (fun _ _=>jB) (aV _) func110 (WA x y m) ⟨hx,DY h1,hy,DY h2,trivial⟩ ha
  ·rw[decide_eq_false (fun h=>h2 h.2)];exact aK aI (fun _ _=>jB) (aV _) func110 (WB x y m) ⟨hx,DY h1,hy,DZ h2,trivial⟩ ha
 ·rw[decide_eq_false (fun h=>h1 h.1)];exact aK aI (fun _ _=>jB) (aV _) func110 (WC x y m) ⟨hx,DZ h1,trivial⟩ ha
def aGJ (b:Bool):List Nat→List Prop×RV
 | [x,y]=>([x<aG,y<aG,oN x y=b],.one (.im (.bool b)))
 | _=>([False],.one (.im (.bool b)))
theorem aFB (b:Bool):∀cs pre r,Ta 2 (aGJ b) cs=some (pre,r)→bC pre→∀(args:List Value) (w:World),cP w cs args→bG prog 110 r args w :=
 NW fun x m hp args w ha=>by
  match x,hp,ha with
  | [x,y],hp,ha =>
   have h:=WD x y m hp.1 hp.2.1 args w ha;rw[hp.2.2.1]at h;exact h
  | [],hp,_=>exact hp.1.elim
  | [_],hp,_=>exact hp.1.elim
  | _::_::_::_,hp,_=>exact hp.1.elim
theorem aDv (x y:Nat):cH prog (qG prog) (fun _=>⟨fun _=>nJ,fun _=>true,fun _=>none⟩) f111 60 [.v (.fl [.q x]),.v (.fl [.q y])]=some ([x<RM,y<RM,bI x x<RM,bI 168700 (bI x x)<RM,bI y y<RM,1<18446744073709551616,bI x x<RM,bI y y<RM,bI (bI x x) (bI y y)<RM,1<RM,bI 168696 (bI (bI x x) (bI y y))<RM,aA [At.q (iP (bI 168700 (bI x x)) (bI y y))]=aA [At.q (iP 1 (bI 168696 (bI (bI x x) (bI y y))))]],.one (.im (.bool true))):=by kernel_rfl
theorem aDw (x y:Nat):cH prog (qG prog) (fun _=>⟨fun _=>nJ,fun _=>false,fun _=>none⟩) f111 60 [.v (.fl [.q x]),.v (.fl [.q y])]=some ([x<RM,y<RM,bI x x<RM,bI 168700 (bI x x)<RM,bI y y<RM,1<18446744073709551616,bI x x<RM,bI y y<RM,bI (bI x x) (bI y y)<RM,1<RM,bI 168696 (bI (bI x x) (bI y y))<RM,aA [At.q (iP (bI 168700 (bI x x)) (bI y y))]≠aA [At.q (iP 1 (bI 168696 (bI (bI x x) (bI y y))))]],.one (.im (.bool false))):=by kernel_rfl
theorem flq {a b:Nat} (ha:a<RM) (hb:b<RM) (h:aA [At.q a]=aA [At.q b]):a=b:=by
 have h:[Value.int .u64 (fw a 0:Nat),.int .u64 (fw a 1:Nat),.int .u64 (fw a 2:Nat),.int .u64 (fw a 3:Nat)]=[Value.int .u64 (fw b 0:Nat),.int .u64 (fw b 1:Nat),.int .u64 (fw b 2:Nat),.int .u64 (fw b 3:Nat)]:=h;simp only[List.cons.injEq,Value.int.injEq,true_and,and_true,Int.natCast_inj]at h;rw[←pR ha,←pR hb,h.1,h.2.1,h.2.2.1,h.2.2.2]
theorem UB (x y:Nat) (hx:x<RM) (hy:y<RM) (args:List Value) (w:World) (ha:cP w [.v (.fl [.q x]),.v (.fl [.q y])] args):bG prog 111 (.one (.im (.bool (decide (EN x y))))) args w:=by
 by_cases h:EN x y
 ·rw[decide_eq_true h];exact aK aI (fun _ _=>jB) (aV _) func111 (aDv x y) ⟨hx,hy,aL _ _,aL _ _,aL _ _,by decide,aL _ _,aL _ _,aL _ _,eR,aL _ _,by rw[h],trivial⟩ ha
 ·rw[decide_eq_false h];exact aK aI (fun _ _=>jB) (aV _) func111 (aDw x y) ⟨hx,hy,aL _ _,aL _ _,aL _ _,by decide,aL _ _,aL _ _,aL _ _,eR,aL _ _,fun e=>h (flq (dJ _ _) (dJ _ _) e),trivial⟩ ha
def Zd (b:Bool):gE
 | [.v (.fl l),.v (.fl m)]=>match qZ l,qZ m with|some x,some y=>some ([x<RM,y<RM,decide (EN x y)=b],.one (.im (.bool b)))|_,_=>none
 | _=>none
theorem aFu (b:Bool):∀cs pre r,Zd b cs=some (pre,r)→bC pre→∀(args:List Value) (w:World),cP w cs args→bG prog 111 r args w:=by
 intro cs pre r hg hp args w ha;unfold Zd at hg;split at hg
 ·rename_i l m;split at hg
  ·rename_i x y hx hy;cases hg;have h:=UB x y hp.1 hp.2.1 args w (by
    match args,ha with
    | [v,u],ha =>
     refine⟨?_,?_,trivial⟩
     ·show v=.agg (aA (q1 x)).toArray;rw[←dP l x hx]; exact ha.1
     ·show u=.agg (aA (q1 y)).toArray;rw[←dP m y hy]; exact ha.2.1
    | [],ha=>exact ha.elim
    | [_],ha=>exact ha.2.elim
    | _::_::_::_,ha=>exact ha.2.2.elim)
   rw[hp.2.2.1]at h;exact h
  ·cases hg
 ·cases hg
def EL (b c:Bool):Tab:=(nJ.add 110 (Ta 2 (aGJ b))).add 111 (Zd c)
theorem uQ (b c:Bool):TabOk prog (EL b c):=(jB.add func110 (by kernel_rfl) (by kernel_rfl) (aFB b)).add func111 (by kernel_rfl) (by kernel_rfl) (aFu c)
theorem aHm (x y m:Nat):cH prog (qG prog) (fun n=>⟨fun _=>EL true true,fun _=>true,fun _=>none⟩) f73 60 [.s [.q x,.q y] 1 m]=some ([x<aG,y<aG,oN x y=true,x<RM,y<RM,decide (EN x y)=true],.one (.im (.bool true))):=by kernel_rfl
theorem aHn (x y m:Nat):cH prog (qG prog) (fun n=>⟨fun _=>EL true false,fun _=>true,fun _=>none⟩) f73 60 [.s [.q x,.q y] 1 m]=some ([x<aG,y<aG,oN x y=true,x<RM,y<RM,decide (EN x y)=false],.one (.im (.bool false))):=by kernel_rfl
theorem aHo (x y m:Nat):cH prog (qG prog) (fun n=>⟨fun _=>EL false false,fun _=>true,fun _=>none⟩) f73 60 [.s [.q x,.q y] 1 m]=some ([x<aG,y<aG,oN x y=false],.one (.im (.bool false))):=by kernel_rfl
theorem aHh (x y u v m:Nat):cH prog (qG prog) (fun n=>⟨fun _=>EL true true,fun _=>true,fun _=>none⟩) f73 60 [.s [.q x,.q y,.q u,.q v] 2 m]=some ([x<aG,y<aG,oN x y=true,x<RM,y<RM,decide (EN x y)=true,u<aG,v<aG,oN u v=true,u<RM,v<RM,decide (EN u v)=true],.one (.im (.bool true))):=by kernel_rfl
theorem aHk (x y u v m:Nat):cH prog (qG prog) (fun n=>⟨fun _=>EL true false,fun _=>true,fun _=>none⟩) f73 60 [.s [.q x,.q y,.q u,.q v] 2 m]=some ([x<aG,y<aG,oN x y=true,x<RM,y<RM,decide (EN x y)=false],.one (.im (.bool false))):=by kernel_rfl
theorem aHl (x y u v m:Nat):cH prog (qG prog) (fun n=>⟨fun _=>EL false false,fun _=>true,fun _=>none⟩) f73 60 [.s [.q x,.q y,.q u,.q v] 2 m]=some ([x<aG,y<aG,oN x y=false],.one (.im (.bool false))):=by kernel_rfl
theorem aHi (x y u v m:Nat):cH prog (qG prog) (fun n=>⟨fun _=>EL true (Nat.blt 47 n),fun _=>true,fun _=>none⟩) f73 60 [.s [.q x,.q y,.q u,.q v] 2 m]=some ([x<aG,y<aG,oN x y=true,x<RM,y<RM,decide (EN x y)=true,u<aG,v<aG,oN u v=true,u<RM,v<RM,decide (EN u v)=false],.one (.im (.bool false))):=by kernel_rfl
theorem aHj (x y u v m:Nat):cH prog (qG prog) (fun n=>⟨fun _=>EL (Nat.blt 47 n) true,fun _=>true,fun _=>none⟩) f73 60 [.s [.q x,.q y,.q u,.q v] 2 m]=some ([x<aG,y<aG,oN x y=true,x<RM,y<RM,decide (EN x y)=true,u<aG,v<aG,oN u v=false],.one (.im (.bool false))):=by kernel_rfl
def jR (x y:Nat):Bool:=decide (OnJ x y)
theorem AB {x y:Nat} (h:OnJ x y):jR x y=true:=decide_eq_true h
theorem oV {x y:Nat}:jR x y=true↔OnJ x y:=⟨of_decide_eq_true,decide_eq_true⟩
theorem tV (x y:Nat):(jR x y=true∧oN x y=true∧x<RM∧y<RM∧decide (EN x y)=true)∨(jR x y=false∧oN x y=true∧x<RM∧y<RM∧decide (EN x y)=false)∨(jR x y=false∧oN x y=false):=by
 by_cases h:x<RM∧y<RM
 ·by_cases k:EN x y
  ·exact Or.inl ⟨decide_eq_true ⟨h,k⟩,decide_eq_true h,h.1,h.2,decide_eq_true k⟩
  ·exact Or.inr (Or.inl ⟨decide_eq_false fun q=>k q.2,decide_eq_true h,h.1,h.2,decide_eq_false k⟩)
 ·exact Or.inr (Or.inr ⟨decide_eq_false fun q=>h q.1,decide_eq_false h⟩)
theorem WL (x y m:Nat) (hx:x<aG) (hy:y<aG) (args:List Value) (w:World) (ha:cP w [.s [.q x,.q y] 1 m] args):bG prog 73 (.one (.im (.bool (jR x y)))) args w:=by
 rcases tV x y with⟨e,h1,h2,h3,h4⟩|⟨e,h1,h2,h3,h4⟩|⟨e,h1⟩
 ·rw[e];exact aK aI (fun _ _=>uQ _ _) (aV _) func73 (aHm x y m) ⟨hx,hy,h1,h2,h3,h4,trivial⟩ ha
 ·rw[e];exact aK aI (fun _ _=>uQ _ _) (aV _) func73 (aHn x y m) ⟨hx,hy,h1,h2,h3,h4,trivial⟩ ha
 ·rw[e];exact aK aI (fun _ _=>uQ _ _) (aV _) func73 (aHo x y m) ⟨hx,hy,h1,trivial⟩ ha
theorem WK (x y u v m:Nat) (hx:x<aG) (hy:y<aG) (hu:u<aG) (hv:v<aG) (args:List Value) (w:World) (ha:cP w [.s [.q x,.q y,.q u,.q v] 2 m] args):bG prog 73 (.one (.im (.bool (jR x y&&jR u v)))) args w:=by
 rcases tV x y with⟨e,h1,h2,h3,h4⟩|⟨e,h1,h2,h3,h4⟩|⟨e,h1⟩
 ·rw[e,Bool.true_and]
  rcases tV u v with⟨e',k1,k2,k3,k4⟩|⟨e',k1,k2,k3,k4⟩|⟨e',k1⟩
  ·rw[e'];exact aK aI (fun _ _=>uQ _ _) (aV _) func73 (aHh x y u v m) ⟨hx,hy,h1,h2,h3,h4,hu,hv,k1,k2,k3,k4,trivial⟩ ha
  ·rw[e'];exact aK aI (fun _ _=>uQ _ _) (aV _) func73 (aHi x y u v m) ⟨hx,hy,h1,h2,h3,h4,hu,hv,k1,k2,k3,k4,trivial⟩ ha
  ·rw[e'];exact aK aI (fun _ _=>uQ _ _) (aV _) func73 (aHj x y u v m) ⟨hx,hy,h1,h2,h3,h4,hu,hv,k1,trivial⟩ ha
 ·rw[e,Bool.false_and];exact aK aI (fun _ _=>uQ _ _) (aV _) func73 (aHk x y u v m) ⟨hx,hy,h1,h2,h3,h4,trivial⟩ ha
 ·rw[e,Bool.false_and];exact aK aI (fun _ _=>uQ _ _) (aV _) func73 (aHl x y u v m) ⟨hx,hy,h1,trivial⟩ ha
def aGL (b:Bool):List Nat→List Prop×RV
 | [x,y]=>([x<aG,y<aG,jR x y=b],.one (.im (.bool b)))
 | _=>([False],.one (.im (.bool b)))
def aGK (b:Bool):List Nat→List Prop×RV
 | [x,y,u,v]=>([x<aG,y<aG,u<aG,v<aG,(jR x y&&jR u v)=b],.one (.im (.bool b)))
 | _=>([False],.one (.im (.bool b)))
theorem aFD (b:Bool):∀cs pre r,Ta 1 (aGL b) cs=some (pre,r)→bC pre→∀(args:List Value) (w:World),cP w cs args→bG prog 73 r args w :=
 NW fun x m hp args w ha=>by
  match x,hp,ha with
  | [x,y],hp,ha =>
   have h:=WL x y m hp.1 hp.2.1 args w ha;rw[hp.2.2.1]at h;exact h
  | [],hp,_=>exact hp.1.elim
  | [_],hp,_=>exact hp.1.elim
  | _::_::_::_,hp,_=>exact hp.1.elim
theorem aFC (b:Bool):∀cs pre r,Ta 2 (aGK b) cs=some (pre,r)→bC pre→∀(args:List Value) (w:World),cP w cs args→bG prog 73 r args w :=
 NW fun x m hp args w ha=>by
  match x,hp,ha with
  | [x,y,u,v],hp,ha =>
   have h:=WK x y u v m hp.1 hp.2.1 hp.2.2.1 hp.2.2.2.1 args w ha;rw[hp.2.2.2.2.1]at h;exact h
  | [],hp,_=>exact hp.1.elim
  | [_],hp,_=>exact hp.1.elim
  | [_,_],hp,_=>exact hp.1.elim
  | [_,_,_],hp,_=>exact hp.1.elim
  | _::_::_::_::_::_,hp,_=>exact hp.1.elim
def SQ (b:Bool):Tab:=nJ.add 73 (Ta 1 (aGL b))
theorem MW (b:Bool):TabOk prog (SQ b):=jB.add func73 (by kernel_rfl) (by kernel_rfl) (aFD b)
def Gv (b:Bool):Tab:=nJ.add 73 (Ta 2 (aGK b))
theorem Av (b:Bool):TabOk prog (Gv b):=jB.add func73 (by kernel_rfl) (by kernel_rfl) (aFC b)
def EG (p q:NP):NP:=tld (AF (p.1,p.2,1) (q.1,q.2,1))
def lS (p:NP):NP:=(iC 0 p.1,p.2)
abbrev vU:List At:=[.f ⟨0,dB⟩,.f ⟨0,dB⟩]
abbrev w2 (p:NP):Prop:=p.1<aG∧p.2<aG
def gP (p:NP) (e:Int):RV:=.many [.fl [.q p.1,.q p.2],.im (.int .i64 e)]
theorem aHp (p q:NP):cH prog (qG prog) (fun n=>⟨fun _=>Gv false,fun _=>true,fun _=>none⟩) f78 60 [.v (.fl [.q p.1,.q p.2]),.v (.fl [.q q.1,.q q.2])]=some ([p.1<aG,p.2<aG,q.1<aG,q.2<aG,(jR p.1 p.2&&jR q.1 q.2)=false],.many [.fl vU,.im (.int .i64 41)]):=by kernel_rfl
theorem aDJ (p:NP):cH prog (qG prog) (fun n=>⟨fun _=>SQ false,fun _=>true,fun _=>none⟩) f77 60 [.v (.fl [.q p.1,.q p.2])]=some ([p.1<aG,p.2<aG,jR p.1 p.2=false],.many [.fl vU,.im (.int .i64 41)]):=by kernel_rfl
theorem aDI (p:NP):cH prog (qG prog) (fun n=>⟨fun _=>SQ true,fun _=>true,fun _=>none⟩) f77 60 [.v (.fl [.q p.1,.q p.2])]=some ([p.1<aG,p.2<aG,jR p.1 p.2=true,p.1<RM],gP (lS p) 0):=by kernel_rfl
theorem aBk (p q:NP):cH prog (qG prog) (fun n=>⟨fun _=>Gv true,fun _=>true,fun _=>none⟩) f78 60 [.v (.fl [.q p.1,.q p.2]),.v (.fl [.q q.1,.q q.2])]=some ([p.1<aG,p.2<aG,q.1<aG,q.2<aG,(jR p.1 p.2&&jR q.1 q.2)=true,p.1<RM,p.2<RM,1<RM,q.1<RM,q.2<RM,1<RM,(AF (p.1,p.2,1) (q.1,q.2,1)).1<RM,(AF (p.1,p.2,1) (q.1,q.2,1)).2.1<RM,(AF (p.1,p.2,1) (q.1,q.2,1)).2.2<RM,(AF (p.1,p.2,1) (q.1,q.2,1)).2.2≠0],gP (EG p q) 0):=by kernel_rfl
def cj (P:JP):NP:=(P.1.1.1,P.1.2.1)
theorem lD (P:JP):OnJ (cj P).1 (cj P).2:=P.on
theorem IX (P:JP):jp (lD P)=P:=aEc P _
theorem SN {p q:NP} (hp:OnJ p.1 p.2) (hq:OnJ q.1 q.2):EG p q=cj (fB.grp.add (jp hp) (jp hq)):=((mP hp).pl (mP hq)).tld
theorem RB {p:NP} (hp:OnJ p.1 p.2):lS p=cj (fB.grp.neg (jp hp)):=by
 refine Prod.ext ?_ (aEb hp).symm;show iC 0 p.1=(0+RM-(fK p.1).1)%RM;rw[mG hp.1.1];rfl
theorem OnJ.w {x y:Nat} (h:OnJ x y):x<aG∧y<aG:=⟨fT h.1.1,fT h.1.2⟩
theorem PO (p q:NP) (hp:w2 p) (hq:w2 q) (args:List Value) (w:World) (ha:cP w [.v (.fl (q2 p)),.v (.fl (q2 q))] args):bG prog 78 (if (jR p.1 p.2&&jR q.1 q.2)=true then gP (EG p q) 0 else gP (0,0) 41) args w:=by
 cases h:(jR p.1 p.2&&jR q.1 q.2)
 ·exact aK aI (fun _ _=>Av _) (aV _) func78 (aHp p q) ⟨hp.1,hp.2,hq.1,hq.2,h,trivial⟩ ha
 ·have h':=h;rw[Bool.and_eq_true]at h';have h1:=oV.1 h'.1;have h2:=oV.1 h'.2;exact aK aI (fun _ _=>Av _) (aV _) func78 (aBk p q) ⟨hp.1,hp.2,hq.1,hq.2,h,h1.1.1,h1.1.2,eR,h2.1.1,h2.1.2,eR,aL _ _,aL _ _,aL _ _,((mP h1).pl (mP h2)).nz,trivial⟩ ha
theorem NB (p:NP) (hp:w2 p) (args:List Value) (w:World) (ha:cP w [.v (.fl (q2 p))] args):bG prog 77 (if jR p.1 p.2=true then gP (lS p) 0 else gP (0,0) 41) args w:=by
 cases h:jR p.1 p.2
 ·exact aK aI (fun _ _=>MW _) (aV _) func77 (aDJ p) ⟨hp.1,hp.2,h,trivial⟩ ha
 ·exact aK aI (fun _ _=>MW _) (aV _) func77 (aDI p) ⟨hp.1,hp.2,h,(oV.1 h).1.1,trivial⟩ ha
def gNx (a b c:NJ):gE
 | [.v (.fl l),.v (.fl m)]=>some ([aA l=aA (q3 a),aA m=aA (q3 b)],.one (.fl (q3 c)))
 | _=>none
def Bw (p:NJ):Prop:=p.1<RM∧p.2.1<RM∧p.2.2<RM
theorem aFv {a b c:NJ} (ha:Bw a) (hb:Bw b) (hc:c=AF a b):∀cs pre r,gNx a b c cs=some (pre,r)→bC pre→∀(args:List Value) (w:World),cP w cs args→bG prog 117 r args w:=by
 intro cs pre r hg hp args w h;unfold gNx at hg;split at hg
 ·rename_i l m;cases hg
  match args,h with
  | [v,u],h =>
   have h1:v=.agg (aA l).toArray:=h.1;have h2:u=.agg (aA m).toArray:=h.2.1;rw[hp.1]at h1;rw[hp.2.1]at h2;subst h1; subst h2; subst hc;exact cT aI uR (aV _) func117 (IV a b) (⟨ha.2.2,hb.2.2,ha.1,hb.1,ha.2.1,hb.2.1,(aL _ _),(aL _ _),(aL _ _),(aL _ _),(aL _ _),(aL _ _),(aL _ _),(aL _ _),ha.1,ha.2.1,hb.1,hb.2.1,(dJ _ _),(dJ _ _),(aL _ _),(aL _ _),(cS _ _),(aL _ _),(aL _ _),(cS _ _),(aL _ _),(cS _ _),(aL _ _),(dJ _ _),(aL _ _),(aL _ _),(aL _ _),(aL _ _),(cS _ _),(cS _ _),(dJ _ _),trivial⟩) (args:=[_,_]) ⟨rfl,rfl,trivial⟩
  | [],h=>exact h.elim
  | [_],h=>exact h.2.elim
  | _::_::_::_,h=>exact h.2.2.elim
 ·cases hg
def gNd (a c:NJ):gE
 | [.v (.fl l)]=>some ([aA l=aA (q3 a)],.one (.fl (q3 c)))
 | _=>none
theorem aKj {a c:NJ} (ha:Bw a) (hc:c=Cp a):∀cs pre r,gNd a c cs=some (pre,r)→bC pre→∀(args:List Value) (w:World),cP w cs args→bG prog 115 r args w:=by
 intro cs pre r hg hp args w h;unfold gNd at hg;split at hg
 ·rename_i l;cases hg
  match args,h with
  | [v],h =>
   have h1:v=.agg (aA l).toArray:=h.1;rw[hp.1]at h1;subst h1; subst hc;exact cT aI uR (aV _) func115 (xM a) (⟨ha.1,ha.2.1,ha.2.2,ha.1,ha.2.1,(dJ _ _),(aL _ _),(aL _ _),(cS _ _),(aL _ _),(aL _ _),(aL _ _),(aL _ _),(aL _ _),(aL _ _),(dJ _ _),(dJ _ _),(cS _ _),(cS _ _),(aL _ _),(aL _ _),(dJ _ _),(cS _ _),(dJ _ _),(cS _ _),trivial⟩) (args:=[_]) ⟨rfl,trivial⟩
  | [],h=>exact h.elim
  | _::_::_,h=>exact h.2.elim
 ·cases hg
end Go.Proofs.YtpjlhhpjpnacmaaGreatDoor.Ex
namespace Go.Proofs.YtpjlhhpjpnacmaaGreatDoor
open Go.Proofs.Tryz
open Go.RowKit
end Go.Proofs.YtpjlhhpjpnacmaaGreatDoor
namespace Go.Proofs.YtpjlhhpjpnacmaaGreatDoor.Ex
open Go.Proofs.Tryz
open Go.RowKit
theorem aHf {l:List At} {args:List Value} {w:World} (h:cP w [.v (.fl l)] args):args=[.agg (aA l).toArray]:=by
 match args,h with
 | [v],h=>rw[show v=_ from h.1]; rfl
 | [],h=>exact h.elim
 | _::_::_,h=>exact h.2.elim
def lw (x:List Fq) (k i:Nat):Nat:=fw ((x[k]?).getD F1.zero).1 i
def sL (n:Nat):Nat:=if wv n=0 then 0 else Nat.log2 (wv n)+1
theorem CY (n:Nat):LenIs (wv n) (sL n):=by
 unfold sL
 by_cases h:wv n=0
 ·rw[if_pos h,h]; exact⟨by decide,fun h=>by cases h⟩
 ·rw[if_neg h];exact⟨Nat.lt_log2_self,fun _=>by rw[Nat.add_sub_cancel]; exact Nat.log2_self_le h⟩
theorem Ru (n:Nat):wv n<2^256:=by
 obtain⟨h0,h1,h2,h3⟩:=eN n;unfold wv aC;have:(2:Nat)^256=115792089237316195423570985008687907853269984665640564039457584007913129639936:=by decide
 omega
theorem RD (n:Nat):sL n≤256:=by
 rcases Nat.lt_or_ge 256 (sL n)with h|h
 ·have h1:=(CY n).2 (by omega);have h2:=Nat.pow_le_pow_right (show 0<2 by omega) (show 256≤sL n-1 by omega);have:=Ru n;omega
 ·exact h
def Zh:gE
 | [.v (.fl l)]=>match qZ l with
  | some n=>some ([],.one (.im (.int .i64 (sL n:Nat))))
  | none=>none
 | _=>none
theorem Yc:∀cs pre r,Zh cs=some (pre,r)→bC pre→∀(args:List Value) (w:World),cP w cs args→bG prog 114 r args w:=by
 intro cs pre r hg hp args w ha;unfold Zh at hg;split at hg
 ·rename_i l;split at hg
  ·rename_i n hn;cases hg;rw[aHf ha,dP l _ hn];refine (tY _ _ _ _ (eN n) w).mono ?_
   rintro e w' ⟨L,rfl,_,h,hbl⟩
   cases h.uniq (CY n);exact⟨rfl,hbl⟩
  ·cases hg
 ·cases hg
def Yy:gE
 | [.v (.fl l),.v (.im (.int .i64 (.ofNat k)))]=>match qZ l with
  | some n=>some ([k<9223372036854775808],.one (.fl (q1 (wv n/2^k))))
  | none=>none
 | _=>none
theorem Vv:∀cs pre r,Yy cs=some (pre,r)→bC pre→∀(args:List Value) (w:World),cP w cs args→bG prog 116 r args w:=by
 intro cs pre r hg hp args w ha;unfold Yy at hg;split at hg
 ·rename_i l k;split at hg
  ·rename_i n hn;cases hg
   match args,ha with
   | [v,u],ha =>
    have h1:v=.agg (aA l).toArray:=ha.1;have h2:u=.int .i64 (Int.ofNat k):=ha.2.1;rw[dP l _ hn]at h1;subst h1; subst h2;have hk:k<9223372036854775808:=hp.1;refine (gT _ _ _ _ (Int.ofNat k) (eN n) (by simp) (by simp; omega) w).mono ?_
    rintro e w' ⟨s0,s1,s2,s3,rfl,hs,hv,hb⟩
    have hlt:wv n/2^k<115792089237316195423570985008687907853269984665640564039457584007913129639936:=by
     refine Nat.lt_of_le_of_lt (Nat.div_le_self _ _) ?_;have:=Ru n;have e:(2:Nat)^256=115792089237316195423570985008687907853269984665640564039457584007913129639936:=by decide
     omega
    obtain⟨rfl,rfl,rfl,rfl⟩:=gY hs hlt hv;exact⟨rfl,hb⟩
   | [],ha=>exact ha.elim
   | [_],ha=>exact ha.2.elim
   | _::_::_::_,ha=>exact ha.2.2.elim
  ·cases hg
 ·cases hg
def mt (p:NJ):Nat→NJ
 | 0=>(0,1,1)
 | k+1=>AF (mt p k) p
theorem Sq (p:NJ):∀k,Bw (mt p k)
 | 0=>⟨eE,eR,eR⟩
 | k+1=>⟨aL _ _,aL _ _,aL _ _⟩
def Lz (p:NJ):List At:=[.q (mt p 0).1,.q (mt p 0).2.1,.q (mt p 0).2.2,.q (mt p 1).1,.q (mt p 1).2.1,.q (mt p 1).2.2,.q (mt p 2).1,.q (mt p 2).2.1,.q (mt p 2).2.2,.q (mt p 3).1,.q (mt p 3).2.1,.q (mt p 3).2.2,.q (mt p 4).1,.q (mt p 4).2.1,.q (mt p 4).2.2,.q (mt p 5).1,.q (mt p 5).2.1,.q (mt p 5).2.2,.q (mt p 6).1,.q (mt p 6).2.1,.q (mt p 6).2.2,.q (mt p 7).1,.q (mt p 7).2.1,.q (mt p 7).2.2,.q (mt p 8).1,.q (mt p 8).2.1,.q (mt p 8).2.2,.q (mt p 9).1,.q (mt p 9).2.1,.q (mt p 9).2.2,.q (mt p 10).1,.q (mt p 10).2.1,.q (mt p 10).2.2,.q (mt p 11).1,.q (mt p 11).2.1,.q (mt p 11).2.2,.q (mt p 12).1,.q (mt p 12).2.1,.q (mt p 12).2.2,.q (mt p 13).1,.q (mt p 13).2.1,.q (mt p 13).2.2,.q (mt p 14).1,.q (mt p 14).2.1,.q (mt p 14).2.2,.q (mt p 15).1,.q (mt p 15).2.1,.q (mt p 15).2.2]
def aHu (p:NJ) (n:Nat):Tab:=nJ.add 117 (gNx (mt p (49-n)) p (mt p (49-n+1)))
theorem aDy {p:NJ} (h:Bw p) (n:Nat):TabOk prog (aHu p n):=jB.add func117 (by kernel_rfl) (by kernel_rfl) (aFv (Sq p _) h rfl)
theorem Xy (p:NJ):cH prog (qG prog) (fun n=>⟨fun _=>aHu p n,fun _=>true,fun _=>none⟩) f112 60 [.v (.fl (q3 p))]=some ([aA (q3 (mt p 0))=aA (q3 (mt p 0)),aA (q3 p)=aA (q3 p),aA (q3 (mt p 1))=aA (q3 (mt p 1)),aA (q3 p)=aA (q3 p),aA (q3 (mt p 2))=aA (q3 (mt p 2)),aA (q3 p)=aA (q3 p),aA (q3 (mt p 3))=aA (q3 (mt p 3)),aA (q3 p)=aA (q3 p),aA (q3 (mt p 4))=aA (q3 (mt p 4)),aA (q3 p)=aA (q3 p),aA (q3 (mt p 5))=aA (q3 (mt p 5)),aA (q3 p)=aA (q3 p),aA (q3 (mt p 6))=aA (q3 (mt p 6)),aA (q3 p)=aA (q3 p),aA (q3 (mt p 7))=aA (q3 (mt p 7)),aA (q3 p)=aA (q3 p),aA (q3 (mt p 8))=aA (q3 (mt p 8)),aA (q3 p)=aA (q3 p),aA (q3 (mt p 9))=aA (q3 (mt p 9)),aA (q3 p)=aA (q3 p),aA (q3 (mt p 10))=aA (q3 (mt p 10)),aA (q3 p)=aA (q3 p),aA (q3 (mt p 11))=aA (q3 (mt p 11)),aA (q3 p)=aA (q3 p),aA (q3 (mt p 12))=aA (q3 (mt p 12)),aA (q3 p)=aA (q3 p),aA (q3 (mt p 13))=aA (q3 (mt p 13)),aA (q3 p)=aA (q3 p),aA (q3 (mt p 14))=aA (q3 (mt p 14)),aA (q3 p)=aA (q3 p)],.one (.fl (Lz p))):=by kernel_rfl
def gMu:gE:=g1 Kh fun p=>([p.1<RM,p.2.1<RM,p.2.2<RM],.one (.fl (Lz p)))
theorem aKk:∀cs pre r,gMu cs=some (pre,r)→bC pre→∀(args:List Value) (w:World),cP w cs args→bG prog 112 r args w :=
 lY (op:=fun p=>([p.1<RM,p.2.1<RM,p.2.2<RM],.one (.fl (Lz p)))) qA fun p h args w ha=>aK aI (fun n _=>aDy ⟨h.1,h.2.1,h.2.2.1⟩ n) (aV _) func112 (Xy p) ⟨rfl,rfl,rfl,rfl,rfl,rfl,rfl,rfl,rfl,rfl,rfl,rfl,rfl,rfl,rfl,rfl,rfl,rfl,rfl,rfl,rfl,rfl,rfl,rfl,rfl,rfl,rfl,rfl,rfl,rfl,trivial⟩ ha
def Qy:Tab:=((nJ.add 112 gMu).add 114 Zh).add 116 Yy
theorem Sm:TabOk prog Qy:=((jB.add func112 (by kernel_rfl) (by kernel_rfl) aKk).add func114 (by kernel_rfl) (by kernel_rfl) Yc).add func116 (by kernel_rfl) (by kernel_rfl) Vv
def gH:Code:=(f75.body).getD .skip
def LG:Code:=jV (jV (cB (cA (cB (cB (cB (cB gH)))))))
theorem Iu:gH=.seq (cA gH) (.seq (cA (cB gH)) (.seq (cA (cB (cB gH))) (.seq (cA (cB (cB (cB gH)))) (.seq (.seq (cA (cA (cB (cB (cB (cB gH)))))) (.block 0 (.loop LG))) (cB (cB (cB (cB (cB gH))))))))):=by kernel_rfl
def aIq:List At:=[.f ⟨0,dB⟩,.f ⟨0,dB⟩,.f ⟨0,dB⟩]
def tiA (p:NJ) (n:Nat):List Fact:=[.slot 2 (.pt 2 0),.row 2 true (q3 p),.slot 3 (.pt 3 0),.row 3 true [.q n],.slot 4 (.pt 4 0),.row 4 true aIq]
def tiB (p:NJ) (n:Nat):List Fact:=tiA p n++[.slot 5 (.pt 5 0),.row 5 true (Lz p)]
def tiC (p:NJ) (n:Nat) (s:NJ):List Fact:=tiB p n++[.slot 6 (.pt 6 0),.row 6 true (q3 s)]
def tiD (p:NJ) (n PL:Nat) (s:NJ):List Fact:=tiC p n s++[.slot 7 (.im (iI PL))]
def YH (p:NJ) (n PL i:Nat) (s:NJ):List Fact:=tiD p n PL s++[.slot 20 (.im (iI PL)),.slot 21 (.im (iI i))]
def Vk (num:Nat→Option Value) (_:Nat):Cfg:=⟨fun _=>Qy,fun _=>true,num⟩
def dk (s:NJ):Nat→NJ
 | 0=>s
 | j+1=>Cp (dk s j)
theorem Tj {s:NJ} (h:Bw s):∀j,Bw (dk s j)
 | 0=>h
 | j+1=>⟨aL _ _,aL _ _,aL _ _⟩
def Tw (p s:NJ) (k m:Nat):Tab:=(Qy.add 115 (gNd (dk s (46-m)) (dk s (46-m+1)))).add 117 (gNx (dk s 4) (mt p k) (AF (dk s 4) (mt p k)))
theorem Xt {p s:NJ} (hs:Bw s) (k m:Nat):TabOk prog (Tw p s k m):=(Sm.add func115 (by kernel_rfl) (by kernel_rfl) (aKj (Tj hs _) rfl)).add func117 (by kernel_rfl) (by kernel_rfl) (aFv (Tj hs _) (Sq p _) rfl)
def rdC (p s:NJ) (PL i k m:Nat):Cfg:=⟨fun _=>Tw p s k m,fun _=>true,assoc [(22,.bool true),(30,iI (PL-1)),(32,iI (PL-1-i)),(35,iI ((PL-1-i)*4)),(38,.int .u64 (Int.ofNat k)),(44,iI (i+1))]⟩
def fqJ (s:NJ):Prop:=aA (q3 s)=aA (q3 s)
def tiP (p s:NJ) (n PL i k:Nat):List Prop:=[aN .lss .i64 (Int.ofNat i) (Int.ofNat PL)=some (.bool true),fqJ s,fqJ (dk s 1),fqJ (dk s 2),fqJ (dk s 3),aN .sub .i64 (Int.ofNat PL) 1=some (iI (PL-1)),aN .sub .i64 (Int.ofNat (PL-1)) (Int.ofNat i)=some (iI (PL-1-i)),aN .mul .i64 (Int.ofNat (PL-1-i)) 4=some (iI ((PL-1-i)*4)),(PL-1-i)*4<9223372036854775808,aN .rem .u64 (fw (wv n/2^((PL-1-i)*4)) 0:Nat) 16=some (.int .u64 (Int.ofNat k)),Int.ofNat k=Int.ofNat k,k<16,fqJ (dk s 4),fqJ (mt p k),aN .add .i64 (Int.ofNat i) 1=some (iI (i+1))]
theorem aCI (w:World) (p s:NJ) (n PL i:Nat):∀k,k<16→aX prog { qG prog with x:=xO w (assoc [(41,k)]) (fun _=>none) (fun _=>none) } f75.ntmps (rdC p s PL i k) 60 LG (YH p n PL i s) (YH p n PL (i+1) (AF (dk s 4) (mt p k)))=some (tiP p s n PL i k,.nrm,YH p n PL (i+1) (AF (dk s 4) (mt p k)))
 | 0,_=>by kernel_rfl
 | 1,_=>by kernel_rfl
 | 2,_=>by kernel_rfl
 | 3,_=>by kernel_rfl
 | 4,_=>by kernel_rfl
 | 5,_=>by kernel_rfl
 | 6,_=>by kernel_rfl
 | 7,_=>by kernel_rfl
 | 8,_=>by kernel_rfl
 | 9,_=>by kernel_rfl
 | 10,_=>by kernel_rfl
 | 11,_=>by kernel_rfl
 | 12,_=>by kernel_rfl
 | 13,_=>by kernel_rfl
 | 14,_=>by kernel_rfl
 | 15,_=>by kernel_rfl
 | k+16,h=>absurd h (by omega)
theorem aCH (p:NJ) (n:Nat):aX prog (qG prog) f75.ntmps (Vk fun _=>none) 40 (cA gH) (fJ 0 [.v (.fl (q3 p)),.v (.fl [.q n])]) (tiA p n)=some ([],.nrm,tiA p n):=by kernel_rfl
theorem aCG (p:NJ) (n:Nat):aX prog (qG prog) f75.ntmps (Vk fun _=>none) 40 (cA (cB gH)) (tiA p n) (tiB p n)=some ([p.1<RM,p.2.1<RM,p.2.2<RM],.nrm,tiB p n):=by kernel_rfl
theorem aCF (p:NJ) (n:Nat):aX prog (qG prog) f75.ntmps (Vk fun _=>none) 40 (cA (cB (cB gH))) (tiB p n) (tiC p n (0,1,1))=some ([],.nrm,tiC p n (0,1,1)):=by kernel_rfl
theorem aCE (p:NJ) (n PL:Nat):aX prog (qG prog) f75.ntmps (Vk (assoc [(17,iI (sL n+4)),(18,iI (sL n+4-1)),(19,iI PL)])) 40 (cA (cB (cB (cB gH)))) (tiC p n (0,1,1)) (tiD p n PL (0,1,1))=some ([aN .add .i64 (sL n:Nat) 4=some (iI (sL n+4)),aN .sub .i64 (Int.ofNat (sL n+4)) 1=some (iI (sL n+4-1)),aN .quo .i64 (Int.ofNat (sL n+4-1)) 4=some (iI PL)],.nrm,tiD p n PL (0,1,1)):=by kernel_rfl
theorem aCD (p:NJ) (n PL:Nat):aX prog (qG prog) f75.ntmps (Vk fun _=>none) 40 (cA (cA (cB (cB (cB (cB gH)))))) (tiD p n PL (0,1,1)) (YH p n PL 0 (0,1,1))=some ([],.nrm,YH p n PL 0 (0,1,1)):=by kernel_rfl
theorem Vj (p:NJ) (n PL i:Nat) (s:NJ):aX prog (qG prog) f75.ntmps (Vk (assoc [(22,.bool false)])) 60 LG (YH p n PL i s) (YH p n PL i s)=some ([aN .lss .i64 (Int.ofNat i) (Int.ofNat PL)=some (.bool false)],.ex 0,YH p n PL i s):=by kernel_rfl
theorem It (p:NJ) (n PL i:Nat) (s:NJ):aX prog (qG prog) f75.ntmps (Vk fun _=>none) 40 (cB (cB (cB (cB (cB gH))))) (YH p n PL i s) [.slot 4 (.pt 4 0),.row 4 true (q3 s)]=some ([],.rt,[.slot 4 (.pt 4 0),.row 4 true (q3 s)]):=by kernel_rfl
def dgJ (n pl:Nat):Nat:=fw (wv n/2^(pl*4)) 0%16
def stJ (p:NJ) (n PL:Nat):Nat→NJ
 | 0=>(0,1,1)
 | i+1=>AF (dk (stJ p n PL i) 4) (mt p (dgJ n (PL-1-i)))
theorem Vp (p:NJ) (n PL:Nat):∀i,Bw (stJ p n PL i)
 | 0=>⟨eE,eR,eR⟩
 | i+1=>⟨aL _ _,aL _ _,aL _ _⟩
theorem Lu {x:Nat} (h:x<18446744073709551616):aN .rem .u64 (x:Nat) 16=some (.int .u64 (Int.ofNat (x%16))):=by
 show (if (16:Int)=0 then none else some (Value.int .u64 ((Int.ofNat x).tmod 16)))=_;rw[if_neg (by decide)];rfl
def wW (n:Nat):Nat:=(sL n+3)/4
theorem Xi (n:Nat):wW n≤64:=by
 have:=RD n;unfold wW;omega
def yS (p:NJ) (n:Nat):NJ:=stJ p n (wW n) (wW n)
theorem BQ (p:NJ) (n:Nat) (hp:Bw p) (args:List Value) (w0:World) (ha:cP w0 [.v (.fl (q3 p)),.v (.fl [.q n])] args):bG prog 75 (.one (.fl (q3 (yS p n)))) args w0:=by
 have hG:bQ prog (qG prog) w0.heap.size w0:=(aV _).w _ _;have hT:∀n d:Nat,TabOkW prog Qy w0.heap.size w0:=fun _ _=>Sm.w _ _
 refine cM func75 (c:=gH) rfl ha (Nat.le_of_ble_eq_true (by kernel_rfl)) fun a w' hA => ?_
 have hl:=RD n;have hPL:=Xi n;rw[Iu];refine wp_seq (aB aI hT hG (aCH p n) trivial hA fun a w' hA => ?_);refine wp_seq (aB aI hT hG (aCG p n) ⟨hp.1,hp.2.1,hp.2.2,trivial⟩ hA fun a w' hA => ?_);refine wp_seq (aB aI hT hG (aCF p n) trivial hA fun a w' hA => ?_);refine wp_seq (aB aI hT hG (aCE p n (wW n)) ⟨gN (k:=4) (by omega),nV (k:=1) (by omega) (by omega),Aw (k:=4) (by omega) (by omega),trivial⟩ hA fun a w' hA => ?_);refine wp_seq (wp_seq (aB aI hT hG (aCD p n (wW n)) trivial hA fun a w' hA => ?_));refine wp_block ?_;refine kG aI (fun i=>YH p n (wW n) i (stJ p n (wW n) i)) (wW n) (fun i hi => ?_) (.ex 0) (by simp) (YH p n (wW n) (wW n) (yS p n)) ⟨_,_,_,_,hG,hT,Vj p n (wW n) (wW n) _,dM (Nat.le_refl _),trivial⟩ hA fun a w hA => ?_
 ·exact⟨_,_,_,_,dS w0 _ _ _,fun m _=>(Xt (p:=p) (Vp p n (wW n) i) (dgJ n (wW n-1-i)) m).w _ _,aCI w0 p (stJ p n (wW n) i) n (wW n) i (dgJ n (wW n-1-i)) (Nat.mod_lt _ (by decide)),fA hi,rfl,rfl,rfl,rfl,nV (k:=1) (by omega) (by omega),nV (by omega) (by omega),So (k:=4) (by omega),by omega,Lu (eN _).1,rfl,Nat.mod_lt _ (by decide),rfl,rfl,gN (k:=1) (by omega),trivial⟩
 ·show (cB (cB (cB (cB (cB gH))))).wp _ _ _ _;exact aB aI hT hG (It p n (wW n) (wW n) _) trivial hA fun a w' hA=>lZ (l:=[.fl (q3 (yS p n))]) (r:=.one (.fl (q3 (yS p n)))) (by kernel_rfl) (by kernel_rfl) hA
theorem Bl {p:NJ} {P:JP} (h:JRep p P):∀k,JRep (mt p k) (fB.grp.ns k P)
 | 0=>NI
 | k+1=>(Bl h k).pl h
theorem aAn {s:NJ} {P:JP} {m:Nat} (h:JRep s (fB.grp.ns m P)):JRep (dk s 4) (fB.grp.ns (16*m) P):=by
 have h4:=h.db.db.db.db;rw[←fB.grp.ns_add,←fB.grp.ns_add,←fB.grp.ns_add,←fB.grp.ns_add,show m+m+(m+m)+(m+m+(m+m))+(m+m+(m+m)+(m+m+(m+m)))=16*m by omega]at h4;exact h4
theorem fw0 (x:Nat):fw x 0=x%18446744073709551616:=by
 unfold fw;rw[Nat.pow_zero,Nat.div_one]
theorem QH {p:NJ} {P:JP} (h:JRep p P) (n PL:Nat) (hn:wv n<2^(4*PL)):∀i,i≤PL→JRep (stJ p n PL i) (fB.grp.ns (wv n/2^(4*(PL-i))) P)
 | 0,_=>by
  rw[Nat.sub_zero,Nat.div_eq_of_lt hn];exact NI
 | i+1,hi=>by
  have ih:=(aAn (QH h n PL hn i (by omega))).pl (Bl h (dgJ n (PL-1-i)));rw[←fB.grp.ns_add]at ih;have e1:dgJ n (PL-1-i)=wv n/2^(4*(PL-(i+1)))%16:=by
   unfold dgJ;rw[fw0,show (PL-1-i)*4=4*(PL-(i+1)) by omega];omega
  have e2:wv n/2^(4*(PL-i))=wv n/2^(4*(PL-(i+1)))/16:=by
   rw[show 4*(PL-i)=4*(PL-(i+1))+4 by omega,Nat.pow_add,←Nat.div_div_eq_div_mul]
  rw[e1,e2]at ih;rw[show wv n/2^(4*(PL-(i+1)))=16*(wv n/2^(4*(PL-(i+1)))/16)+wv n/2^(4*(PL-(i+1)))%16 by omega];rw[←e1]at ih ⊢;exact ih
theorem vL {p:NJ} {P:JP} (h:JRep p P) (n:Nat):JRep (yS p n) (fB.grp.ns (wv n) P):=by
 have h1:=QH h n (wW n) (Nat.lt_of_lt_of_le (CY n).1 (Nat.pow_le_pow_right (by decide) (by unfold wW; omega))) (wW n) (Nat.le_refl _);rw[Nat.sub_self,Nat.mul_zero,Nat.pow_zero,Nat.div_one]at h1;exact h1
def nZ (p:NP) (n:Nat):NP:=tld (yS (p.1,p.2,1) n)
theorem CX {p:NP} (hp:OnJ p.1 p.2) (n:Nat):nZ p n=cj (fB.grp.ns (wv n) (jp hp)):=(vL (mP hp) n).tld
def gTi:gE:=g2 Kh qZ fun p n=>([p.1<RM,p.2.1<RM,p.2.2<RM],.one (.fl (q3 (yS p n))))
theorem aJX:∀cs pre r,gTi cs=some (pre,r)→bC pre→∀(args:List Value) (w:World),cP w cs args→bG prog 75 r args w :=
 JD (op:=fun p n=>([p.1<RM,p.2.1<RM,p.2.2<RM],.one (.fl (q3 (yS p n))))) qA dP fun p n h args w ha=>BQ p n ⟨h.1,h.2.1,h.2.2.1⟩ args w ha
theorem aEq (p:NJ):cH prog (qG prog) (fun n=>⟨fun _=>nJ,fun _=>true,fun _=>none⟩) f76 60 [.v (.fl (q3 p))]=some ([aA [At.q p.1]=aA [At.f ⟨0,dB⟩],aA [At.q p.2.1]=aA [At.q p.2.2]],.one (.im (.bool true))):=by kernel_rfl
theorem aEs (p:NJ):cH prog (qG prog) (fun n=>⟨fun _=>nJ,fun s=>Nat.beq s 6,fun _=>none⟩) f76 60 [.v (.fl (q3 p))]=some ([aA [At.q p.1]=aA [At.f ⟨0,dB⟩],aA [At.q p.2.1]≠aA [At.q p.2.2]],.one (.im (.bool false))):=by kernel_rfl
theorem aEr (p:NJ):cH prog (qG prog) (fun n=>⟨fun _=>nJ,fun _=>false,fun _=>none⟩) f76 60 [.v (.fl (q3 p))]=some ([aA [At.q p.1]≠aA [At.f ⟨0,dB⟩]],.one (.im (.bool false))):=by kernel_rfl
theorem NL (p:NJ) (hp:Bw p) (args:List Value) (w:World) (ha:cP w [.v (.fl (q3 p))] args):bG prog 76 (.one (.im (.bool (pL p)))) args w:=by
 by_cases h1:p.1=0
 ·by_cases h2:p.2.1=p.2.2
  ·rw[show pL p=true by unfold pL; rw[Bool.and_eq_true]; exact⟨by rw[h1]; rfl,by rw[h2]; exact Nat.beq_refl _⟩];exact aK aI (fun _ _=>jB) (aV _) func76 (aEq p) ⟨by rw[h1]; rfl,by rw[h2],trivial⟩ ha
  ·rw[show pL p=false by unfold pL; rw[Bool.and_eq_false_iff]; exact Or.inr (Bool.eq_false_iff.2 fun q=>h2 (Nat.eq_of_beq_eq_true q))];exact aK aI (fun _ _=>jB) (aV _) func76 (aEs p) ⟨by rw[h1]; rfl,fun e=>h2 (flq hp.2.1 hp.2.2 e),trivial⟩ ha
 ·rw[show pL p=false by unfold pL; rw[Bool.and_eq_false_iff]; exact Or.inl (Bool.eq_false_iff.2 fun q=>h1 (Nat.eq_of_beq_eq_true q))];exact aK aI (fun _ _=>jB) (aV _) func76 (aEr p) ⟨fun e=>h1 (flq hp.1 eE e),trivial⟩ ha
def aET (b:Bool):gE:=g1 Kh fun p=>([p.1<RM,p.2.1<RM,p.2.2<RM,pL p=b],.one (.im (.bool b)))
theorem aFy (b:Bool):∀cs pre r,aET b cs=some (pre,r)→bC pre→∀(args:List Value) (w:World),cP w cs args→bG prog 76 r args w :=
 lY (op:=fun p=>([p.1<RM,p.2.1<RM,p.2.2<RM,pL p=b],.one (.im (.bool b)))) qA fun p h args w ha=>by
  have h':=NL p ⟨h.1,h.2.1,h.2.2.1⟩ args w ha;rw[h.2.2.2.1]at h';exact h'
theorem aDX:lJ<FP.M:=of_decide_eq_true (by kernel_rfl)
theorem aHe:bX<FP.M:=of_decide_eq_true (by kernel_rfl)
theorem aHd:bY<FP.M:=of_decide_eq_true (by kernel_rfl)
theorem Ka:cH prog (qG prog) (fun n=>⟨fun _=>nJ,fun _=>true,fun _=>none⟩) f72 60 []=some ([],.one (.fl [.f ⟨lJ,aDX⟩])):=by kernel_rfl
theorem ZI:cH prog (qG prog) (fun n=>⟨fun _=>nJ,fun _=>true,fun _=>none⟩) f62 60 []=some ([],.one (.fl [.f ⟨bX,aHe⟩,.f ⟨bY,aHd⟩])):=by kernel_rfl
theorem An:aA [At.f ⟨lJ,aDX⟩]=aA [At.q lJ]:=rfl
theorem WE:aA [At.f ⟨bX,aHe⟩,.f ⟨bY,aHd⟩]=aA [At.q bX,.q bY]:=rfl
theorem qI (w:World):bG prog 72 (.one (.fl [.q lJ])) [] w:=by
 have h:=aK aI (fun _ _=>jB) (aV _) func72 Ka trivial (w:=w) (args:=[]) trivial;unfold bG;rw[show RV.den (.one (.fl [.q lJ]))=Value.agg (aA [At.q lJ]).toArray from rfl,←An];exact h
theorem KH (w:World):bG prog 62 (.one (.fl [.q bX,.q bY])) [] w:=by
 have h:=aK aI (fun _ _=>jB) (aV _) func62 ZI trivial (w:=w) (args:=[]) trivial;unfold bG;rw[show RV.den (.one (.fl [.q bX,.q bY]))=Value.agg (aA [At.q bX,.q bY]).toArray from rfl,←WE];exact h
def BF (b c:Bool):Tab:=(((SQ b).add 75 gTi).add 76 (aET c)).add 72 (g0 (.one (.fl [.q lJ])))
theorem xC (b c:Bool):TabOk prog (BF b c):=(((MW b).add func75 (by kernel_rfl) (by kernel_rfl) aJX).add func76 (by kernel_rfl) (by kernel_rfl) (aFy c)).add func72 (by kernel_rfl) (by kernel_rfl) (uU qI)
theorem aDL (p:NP) (n:Nat):cH prog (qG prog) (fun n=>⟨fun _=>BF false true,fun _=>true,fun _=>none⟩) f61 60 [.v (.fl [.q p.1,.q p.2]),.v (.fl [.q n])]=some ([p.1<aG,p.2<aG,jR p.1 p.2=false],.many [.fl vU,.im (.int .i64 41)]):=by kernel_rfl
theorem aDK (p:NP) (n:Nat):cH prog (qG prog) (fun n=>⟨fun _=>BF true true,fun _=>true,fun _=>none⟩) f61 60 [.v (.fl [.q p.1,.q p.2]),.v (.fl [.q n])]=some ([p.1<aG,p.2<aG,jR p.1 p.2=true,p.1<RM,p.2<RM,1<RM,(yS (p.1,p.2,1) n).1<RM,(yS (p.1,p.2,1) n).2.1<RM,(yS (p.1,p.2,1) n).2.2<RM,(yS (p.1,p.2,1) n).2.2≠0],gP (nZ p n) 0):=by kernel_rfl
theorem aGF (p:NP):cH prog (qG prog) (fun n=>⟨fun _=>BF false true,fun _=>true,fun _=>none⟩) f41 60 [.v (.fl [.q p.1,.q p.2])]=some ([p.1<aG,p.2<aG,jR p.1 p.2=false],.one (.im (.int .i64 41))):=by kernel_rfl
theorem aGD (p:NP):cH prog (qG prog) (fun n=>⟨fun _=>BF true true,fun _=>true,fun _=>none⟩) f41 60 [.v (.fl [.q p.1,.q p.2])]=some ([p.1<aG,p.2<aG,jR p.1 p.2=true,p.1<RM,p.2<RM,1<RM,(yS (p.1,p.2,1) lJ).1<RM,(yS (p.1,p.2,1) lJ).2.1<RM,(yS (p.1,p.2,1) lJ).2.2<RM,pL (yS (p.1,p.2,1) lJ)=true],.one (.im (.int .i64 0))):=by kernel_rfl
theorem aGE (p:NP):cH prog (qG prog) (fun n=>⟨fun _=>BF true false,fun _=>true,fun _=>none⟩) f41 60 [.v (.fl [.q p.1,.q p.2])]=some ([p.1<aG,p.2<aG,jR p.1 p.2=true,p.1<RM,p.2<RM,1<RM,(yS (p.1,p.2,1) lJ).1<RM,(yS (p.1,p.2,1) lJ).2.1<RM,(yS (p.1,p.2,1) lJ).2.2<RM,pL (yS (p.1,p.2,1) lJ)=false],.one (.im (.int .i64 111))):=by kernel_rfl
theorem NC (p:NP) (n:Nat) (hp:w2 p) (args:List Value) (w:World) (ha:cP w [.v (.fl (q2 p)),.v (.fl (q1 n))] args):bG prog 61 (if jR p.1 p.2=true then gP (nZ p n) 0 else gP (0,0) 41) args w:=by
 cases h:jR p.1 p.2
 ·exact aK aI (fun _ _=>xC _ _) (aV _) func61 (aDL p n) ⟨hp.1,hp.2,h,trivial⟩ ha
 ·have h1:=oV.1 h;have hr:=vL (mP h1) n;exact aK aI (fun _ _=>xC _ _) (aV _) func61 (aDK p n) ⟨hp.1,hp.2,h,h1.1.1,h1.1.2,eR,hr.x,hr.y,hr.z,hr.nz,trivial⟩ ha
def gM (p:NP):Int:=if jR p.1 p.2=true then (if pL (yS (p.1,p.2,1) lJ)=true then 0 else 111)else 41
theorem mX (p:NP) (hp:w2 p) (args:List Value) (w:World) (ha:cP w [.v (.fl (q2 p))] args):bG prog 41 (.one (.im (.int .i64 (gM p)))) args w:=by
 unfold gM;cases h:jR p.1 p.2
 ·exact aK aI (fun _ _=>xC _ _) (aV _) func41 (aGF p) ⟨hp.1,hp.2,h,trivial⟩ ha
 ·have h1:=oV.1 h;have hr:=vL (mP h1) lJ;rw[if_pos rfl];cases h2:pL (yS (p.1,p.2,1) lJ)
  ·exact aK aI (fun _ _=>xC _ _) (aV _) func41 (aGE p) ⟨hp.1,hp.2,h,h1.1.1,h1.1.2,eR,hr.x,hr.y,hr.z,h2,trivial⟩ ha
  ·exact aK aI (fun _ _=>xC _ _) (aV _) func41 (aGD p) ⟨hp.1,hp.2,h,h1.1.1,h1.1.2,eR,hr.x,hr.y,hr.z,h2,trivial⟩ ha
theorem aBY:wv lJ=lJ:=by kernel_rfl
theorem Pw {p:NP} (h:OnJ p.1 p.2):gM p=if fB.grp.ns lJ (jp h)=fB.grp.zero then 0 else 111:=by
 unfold gM;rw[if_pos (AB h)];have hr:=vL (mP h) lJ;rw[aBY]at hr
 by_cases e:fB.grp.ns lJ (jp h)=fB.grp.zero
 ·rw[if_pos e,if_pos ((xP hr).2 e)]
 ·rw[if_neg e,if_neg fun q=>e ((xP hr).1 q)]
theorem JY {p:NP} (h:¬OnJ p.1 p.2):gM p=41:=by
 unfold gM;rw[if_neg fun q=>h (oV.1 q)]
theorem aAI {P Q:JP} (h:cj P=cj Q):P=Q:=Subtype.ext (Prod.ext (Fin.ext (congrArg Prod.fst h)) (Fin.ext (congrArg Prod.snd h)))
def b8 (n k:Nat):At:=.c (.int .u8 (Int.ofNat (bF n k)))
def bl (n:Nat):List At:=[b8 n 0,b8 n 1,b8 n 2,b8 n 3,b8 n 4,b8 n 5,b8 n 6,b8 n 7,b8 n 8,b8 n 9,b8 n 10,b8 n 11,b8 n 12,b8 n 13,b8 n 14,b8 n 15,b8 n 16,b8 n 17,b8 n 18,b8 n 19,b8 n 20,b8 n 21,b8 n 22,b8 n 23,b8 n 24,b8 n 25,b8 n 26,b8 n 27,b8 n 28,b8 n 29,b8 n 30,b8 n 31]
def gBy:List CA→Option (List Prop×FS)
 | [.v (.fl l)]=>match qZ l with
  | some n=>some ([],⟨bl (wv n),32,0,0,false,[],[]⟩)
  | none=>none
 | _=>none
def B3:Tab3:=SS.add 37 gBy
def x3 (T:Tab3) (T4:aBn) (gen:Nat→Option Value) (mks:Nat→Option (Nat×List At)):Ext:={ Ext.none with T3:=T,T4:=T4,gen:=gen,mks:=mks }
def Bin (op:BinOp) (t:Nat) (x y:Operand) (v u r:Value):Prop:=∀w:World,(do eqGuard op t x y v u; binOp op t v u:Sem Value).run prog w=.ok r w
theorem aBb {t:Nat} {x y:Operand} {a b:Nat} (ha:a<256) (hb:b<256):Bin .or t x y (.int .u8 (Int.ofNat a)) (.int .u8 (Int.ofNat b)) (.int .u8 (Int.ofNat (a ||| b))):=fun w=>by
 have h:=u8_or_nat a b ha hb;simp only[Int.ofNat_eq_natCast];exact congrArg (fun z=>Result.ok (Value.int .u8 z) w) h
def aCJ:List (Nat×TV)→List Fact
 | []=>[]
 | (s,t)::r=>.slot s t.av::aCJ r
def hd (vs:Nat→Value) (j:Nat):List At:=[.c (vs j)]
def HV (w:World) (v:Value) (K:Nat) (vs:Nat→Value):Prop:=∃b o m,v=.slice (some ⟨b,o,none⟩) K m∧b<w.heap.size∧w.rangeAt b o (aA (cJ (hd vs) 0 K))
def Vw (K:Nat) (Ns:Nat→Nat):Prop:=∀j,j<K→Ns j≤65536
def aBe (K:Nat) (Ns:Nat→Nat) (fs:Nat→Nat→Nat):Prop:=∀j,j<K→pM (Ns j) (fs j)
instance (K:Nat) (Ns:Nat→Nat):Decidable (Vw K Ns):=Nat.decidableBallLT K fun j _=>Ns j≤65536
instance (K:Nat) (Ns:Nat→Nat) (fs:Nat→Nat→Nat):Decidable (aBe K Ns fs):=Nat.decidableBallLT K fun j _=>pM (Ns j) (fs j)
def jW (f:Nat→Nat) (i x:Nat) (j:Nat):Nat:=if j=i then x else f j
theorem LV.one {w:World} {b x:Nat} (h:oldOf w b 0 [.q x]) (hx:x<aG):LV w (aM b 0 1 1) 1 (fun _=>x) :=
 ⟨_,_,rfl,Nat.le_refl _,fun _ _=>hx,fun _=>⟨b,0,rfl,h.1,h.2⟩⟩
def SI:Nat→List AV→List Fact
 | _,[]=>[]
 | i,v::r=>.slot i v::SI (i+1) r
theorem KL {base:Nat} {β:Nat→Bk} (a:Act) (w:World):∀(xs:List AV) (i:Nat),(∀j v,xs[j]?=some v→a.tmps[i+j]?=some (v.den β))→∀φ∈SI i xs,φ.ok base β a w
 | [],i,_,φ,h=>by cases h
 | t::r,i,ha,φ,h=>by
  rcases List.mem_cons.1 h with rfl|h
  ·exact ha 0 t rfl
  ·exact KL a w r (i+1) (fun j u hj=>by have:=ha (j+1) u (by simpa using hj); rwa [show i+(j+1)=i+1+j by omega]at this) φ h
theorem BD:∀(xs:List AV) (i:Nat) (k:Nat) (o:Bool) (l:List At),Fact.row k o l∈SI i xs→False
 | [],i,k,o,l,h=>by cases h
 | t::r,i,k,o,l,h=>by
  rcases List.mem_cons.1 h with h|h
  ·cases h
  ·exact BD r (i+1) k o l h
def Gg (nt b N:Nat) (l:List At) (xs:List AV):List Fact:=.row 0 true l :: .at 0 b :: .at nt N::SI 0 xs
section
variable {P:Program} {w:World} {R:Ending→World→Prop}
theorem UX {f:FuncId} {fn:Func} (hf:P.funcs[f]?=some fn) {c:Code} (hb:fn.body=some c) {b:Nat} {l:List At} {xs:List AV} {vs:List Value} (hx:∀β:Nat→Bk,β 0=(b,0,0)→xs.map (AV.den β)=vs) (hO:Own w b l) (hn:xs.length≤fn.ntmps) (h0n:0<fn.ntmps)
  (h:∀a w',Holds fn.ntmps b w (Gg fn.ntmps b w.heap.size l xs) a w'→c.wp P (bodyPost P fn R) a w'):Calls P f vs.toArray w R:=by
 refine calls_of_wp hf hb (h _ _ ?_);have hlen:vs.length=xs.length:=by rw[←hx (fun _=>(b,0,0)) rfl,List.length_map]
 have hg:∀j u,vs[j]?=some u→(vs.toArray++Array.replicate (fn.ntmps-vs.toArray.size) undef)[j]?=some u:=fun j u hj=>by
  have hlt:=(List.getElem?_eq_some_iff.1 hj).1;rw[Array.getElem?_append_left (by simpa using hlt)];simpa using hj
 have hz:(fun k=>if k=fn.ntmps then ((w.heap.size,0,0):Bk)else (b,0,0)) 0=(b,0,0):=if_neg (by omega);have hz2:(fun k=>if k=fn.ntmps then ((w.heap.size,0,0):Bk)else (b,0,0)) fn.ntmps=(w.heap.size,0,0):=if_pos rfl;generalize (fun k=>if k=fn.ntmps then ((w.heap.size,0,0):Bk)else (b,0,0))=β at hz hz2;have h0:∀k o l0,Fact.row k o l0∈Gg fn.ntmps b w.heap.size l xs→k=0∧o=true:=fun k o l0 hk=>by
  simp only[Gg,List.mem_cons,reduceCtorEq,false_or]at hk
  rcases hk with hk|hk
  ·cases hk; exact⟨rfl,rfl⟩
  ·exact (BD xs 0 k o l0 hk).elim
 refine⟨rfl,by simp; omega,Below.refl _ _,Nat.le_of_lt hO.lt,β,fun φ hφ => ?_,fun k k' o' l1 l2 h1 h2 hne => ?_,fun k l1 h1=>Or.inl ?_,by rw[hz2]; exact Nat.le_refl _,fun p q1 q2=>⟨rfl,rfl⟩,Shape.refl _⟩
 ·simp only[Gg,List.mem_cons]at hφ
  rcases hφ with rfl|rfl|rfl|hφ
  ·exact⟨by rw[hz]; exact hO.lt,by rw[hz]; exact hO.row,fun _=>⟨by rw[hz]; exact Nat.le_refl _,by rw[hz],by rw[hz]; exact hO.free⟩,fun h=>by cases h⟩
  ·exact⟨by rw[hz],by rw[hz]⟩
  ·exact⟨by rw[hz2],by rw[hz2]⟩
  ·refine KL _ _ xs 0 (fun j v hj => ?_) φ hφ;rw[Nat.zero_add];exact hg j _ (by rw[←hx β hz,List.getElem?_map,hj]; rfl)
 ·exact (hne ((h0 k true l1 h1).1.trans (h0 k' o' l2 h2).1.symm)).elim
 ·rw[(h0 k true l1 h1).1,hz]
end
def bj (f:Nat→Nat):List At:=[.c (.int .u8 (Int.ofNat (f 0))),.c (.int .u8 (Int.ofNat (f 1))),.c (.int .u8 (Int.ofNat (f 2))),.c (.int .u8 (Int.ofNat (f 3))),.c (.int .u8 (Int.ofNat (f 4))),.c (.int .u8 (Int.ofNat (f 5))),.c (.int .u8 (Int.ofNat (f 6))),.c (.int .u8 (Int.ofNat (f 7))),.c (.int .u8 (Int.ofNat (f 8))),.c (.int .u8 (Int.ofNat (f 9))),.c (.int .u8 (Int.ofNat (f 10))),.c (.int .u8 (Int.ofNat (f 11))),.c (.int .u8 (Int.ofNat (f 12))),.c (.int .u8 (Int.ofNat (f 13))),.c (.int .u8 (Int.ofNat (f 14))),.c (.int .u8 (Int.ofNat (f 15))),.c (.int .u8 (Int.ofNat (f 16))),.c (.int .u8 (Int.ofNat (f 17))),.c (.int .u8 (Int.ofNat (f 18))),.c (.int .u8 (Int.ofNat (f 19))),.c (.int .u8 (Int.ofNat (f 20))),.c (.int .u8 (Int.ofNat (f 21))),.c (.int .u8 (Int.ofNat (f 22))),.c (.int .u8 (Int.ofNat (f 23))),.c (.int .u8 (Int.ofNat (f 24))),.c (.int .u8 (Int.ofNat (f 25))),.c (.int .u8 (Int.ofNat (f 26))),.c (.int .u8 (Int.ofNat (f 27))),.c (.int .u8 (Int.ofNat (f 28))),.c (.int .u8 (Int.ofNat (f 29))),.c (.int .u8 (Int.ofNat (f 30))),.c (.int .u8 (Int.ofNat (f 31)))]
def gC (f:Nat→Nat):Nat→Nat:=fun k=>f (31-k)
def ZH:Code:=(f66.body).getD .skip
theorem Wa (f:Nat→Nat) (b N m:Nat):aX prog (qG prog) f66.ntmps (fun _=>⟨fun _=>T0,fun _=>true,fun _=>none⟩) 80 ZH (Gg f66.ntmps b N (bj f) [.sl 0 0 32 m]) [.row 0 true (bj (gC f)),.at 0 b,.at f66.ntmps N]=some ([],.nrm,[.row 0 true (bj (gC f)),.at 0 b,.at f66.ntmps N]):=by kernel_rfl
theorem ZG {w:World} {b:Nat} {f:Nat→Nat} (m:Nat) (hO:Own w b (bj f)):Calls prog 66 #[aM b 0 32 m] w (Gp b w (.many []) (bj (gC f))):=by
 have hG:bQ prog (qG prog) b w:=(aV _).w _ _;have hT:∀n d:Nat,TabOkW prog T0 b w:=fun _ _=>(bP _).w _ _
 refine UX func66 (xs:=[.sl 0 0 32 m]) (vs:=[aM b 0 32 m]) (c:=ZH) rfl (fun β e0=>by simp[AV.den,e0,aM]) hO (Nat.le_of_ble_eq_true (by kernel_rfl)) (by decide) fun a w' hA => ?_
 refine aB aI hT hG (Wa f b w.heap.size m) trivial hA fun a w1 hA => ?_
 obtain⟨q1,q2⟩:=hA.wrc (List.mem_of_getElem? (i:=0) rfl) (List.mem_of_getElem? (i:=1) rfl) (List.mem_of_getElem? (i:=2) rfl);have hres:(results f66 a.tmps).run prog w1=.ok (.tuple #[]) w1:=by
  show ((f66.results.mapM (vC a.tmps)) >>= fun vs=>pure (if h:vs.size=1 then vs[0]else .tuple vs):Sem Value).run prog w1=_;have hr:f66.results = #[]:=rfl;rw[hr];simp
 exact⟨hA.defers,.tuple #[],hres,rfl,q1,q2⟩
def gRv (f:Nat→Nat) (b:Nat) (row:List At):List CB→Option (List Prop×RV×List At)
 | [.sl o n m]=>some ([o=0,n=32,aA row=aA (bj f)],.many [],bj (gC f))
 | _=>none
def B6 (f:Nat→Nat):Tab6:=Gy.add 66 (gRv f)
theorem Uc (f:Nat→Nat):PbOk prog (B6 f):=(yQ _).add func66 (by kernel_rfl) (by kernel_rfl) fun b row cs pre r l hg hp args w h1 h2 h3 h4=>by
 unfold gRv at hg;split at hg
 ·rename_i o n m;cases hg;obtain⟨rfl,rfl,hr,_⟩:=hp
  match args,h4 with
  | [v],h4 =>
   have e:v=aM b 0 32 m:=h4.1;subst e;exact ZG m ⟨h1,hr▸h2,h3⟩
  | [],h4=>exact h4.elim
  | _::_::_,h4=>exact h4.2.elim
 ·cases hg
end Go.Proofs.YtpjlhhpjpnacmaaGreatDoor.Ex
namespace Go.Proofs.YtpjlhhpjpnacmaaGreatDoor
open Go.Proofs.Tryz
open Go.RowKit
def Rq (A:Nat) (w:World) (e:Ending) (w':World):Prop :=
 ∃b:Nat,e=.returned (.tuple #[.slice (some ⟨b,0,none⟩) 32 32,.int .i64 0])∧w.heap.size≤b∧b<w'.heap.size∧RowB w' b 32 (bF A)∧Below w.heap.size w w'∧∀j,w'.frozen? ⟨b,j,none⟩=false
set_option maxHeartbeats 2000000 in
theorem OE (f:Int) (F:FC) (hf:FieldIs f F) (a0 a1 a2 a3:Nat) (ha:cF a0 a1 a2 a3) (la:aC a0 a1 a2 a3<F.M) (w:World) :
  Calls prog 65 #[.int .i64 f,.agg #[.int .u64 a0,.int .u64 a1,.int .u64 a2,.int .u64 a3]] w (Rq (aC a0 a1 a2 a3) w):=by
 go_enter func65,ntmps65
 go_wp2_with fail;refine (dL f F hf _).mono ?_
 rintro e w1 ⟨rfl,hbl⟩
 have M1:=((Mem.nil w).new (w.heap.size) a0 a1 a2 a3 27 (by simp)).on hbl;clear hbl;have z0:w.heap.size<w1.heap.size:=M1.lt (c0:=a0) (c1:=a1) (c2:=a2) (c3:=a3) (by simp);have HM:=Lib.hid (M1.on ((Below.refl _ _).alloc (Nat.le_refl _) (.cells #[.int .u64 F.m0,.int .u64 F.m1,.int .u64 F.m2,.int .u64 F.m3,.int .u64 F.inv,.int .u64 F.s0,.int .u64 F.s1,.int .u64 F.s2,.int .u64 F.s3] 157)));have KK:=Lib.hid (KIs.new w1 F 157);have kr:=M1.row (b:=w.heap.size) (c0:=a0) (c1:=a1) (c2:=a2) (c3:=a3) (by simp);have x0:=kr.c0; have x1:=kr.c1; have x2:=kr.c2; have x3:=kr.c3;clear kr;have xl:=M1.lt (b:=w.heap.size) (c0:=a0) (c1:=a1) (c2:=a2) (c3:=a3) (by simp);go_wp2_with fail;refine (cW F hf.ok w1.heap.size a0 a1 a2 a3 ha _ KK.out).mono ?_
 rintro e w2 ⟨he,hbl⟩
 rw[show yT (aC a0 a1 a2 a3) F.M=true from decide_eq_true la]at he;subst he;have HM':=Lib.hid (HM.out.on hbl);have KK':=Lib.hid (KK.out.same hbl);have zk:=KK'.out.lt;clear HM KK hbl M1;have HM:=HM';have KK:=KK';clear HM' KK';clear x0 x1 x2 x3 xl zk;have kr:=HM.out.row (b:=w.heap.size) (c0:=a0) (c1:=a1) (c2:=a2) (c3:=a3) (by simp);have x0:=kr.c0; have x1:=kr.c1; have x2:=kr.c2; have x3:=kr.c3;clear kr;have xl:=HM.out.lt (b:=w.heap.size) (c0:=a0) (c1:=a1) (c2:=a2) (c3:=a3) (by simp);go_wp2_with fail;have hsz:w.heap.size≤w2.heap.size:=HM.out.1.size;refine (sZ a0 a1 a2 a3 ha _).mono ?_
 rintro e w4 ⟨bb,rfl,h1,h2,h3,hbl,hff⟩
 have HF:=Lib.hid hff;clear hff;have H3:=Lib.hid h3;clear h3;have HM':=Lib.hid (HM.out.on hbl);have KK':=Lib.hid (KK.out.same hbl);have zk:=KK'.out.lt;clear HM KK hbl;have HM:=HM';have KK:=KK';clear HM' KK';clear x0 x1 x2 x3 xl zk;go_wp2_with fail
 go_ret2
 exact⟨bb,rfl,by omega,h2,H3.out,HM.out.1,HF.out⟩
namespace Ex
theorem pF (f:Nat→Nat):∀k,k<32→(aA (bj f))[k]?=some (.int .u8 (Int.ofNat (f k)))
 | 0,_=>by kernel_rfl
 | 1,_=>by kernel_rfl
 | 2,_=>by kernel_rfl
 | 3,_=>by kernel_rfl
 | 4,_=>by kernel_rfl
 | 5,_=>by kernel_rfl
 | 6,_=>by kernel_rfl
 | 7,_=>by kernel_rfl
 | 8,_=>by kernel_rfl
 | 9,_=>by kernel_rfl
 | 10,_=>by kernel_rfl
 | 11,_=>by kernel_rfl
 | 12,_=>by kernel_rfl
 | 13,_=>by kernel_rfl
 | 14,_=>by kernel_rfl
 | 15,_=>by kernel_rfl
 | 16,_=>by kernel_rfl
 | 17,_=>by kernel_rfl
 | 18,_=>by kernel_rfl
 | 19,_=>by kernel_rfl
 | 20,_=>by kernel_rfl
 | 21,_=>by kernel_rfl
 | 22,_=>by kernel_rfl
 | 23,_=>by kernel_rfl
 | 24,_=>by kernel_rfl
 | 25,_=>by kernel_rfl
 | 26,_=>by kernel_rfl
 | 27,_=>by kernel_rfl
 | 28,_=>by kernel_rfl
 | 29,_=>by kernel_rfl
 | 30,_=>by kernel_rfl
 | 31,_=>by kernel_rfl
 | k+32,h=>absurd h (by omega)
theorem Ga {w:World} {b:Nat} {f:Nat→Nat} (h:∀k,k<32→w.cell? ⟨b,k,none⟩=some (.int .u8 (f k:Nat))):w.rangeAt b 0 (aA (bj f)):=fun j v hj=>by
 have hlt:j<32:=by
  have h1:=(List.getElem?_eq_some_iff.1 hj).1
  rwa [aS,show dN (bj f)=32 by kernel_rfl]at h1
 rw[Nat.zero_add,h j hlt,←hj,pF f j hlt];rfl
def Zk:List CA→Option (List Prop×FR)
 | [.v (.im (.int .i64 2)),.v (.fl l)]=>match qZ l with
  | some x=>some ([x<RM],⟨bj (bF x),32,32,[.im (.int .i64 0)]⟩)
  | none=>none
 | _=>none
theorem Nz:∀cs pre r,Zk cs=some (pre,r)→bC pre→∀(args:List Value) (w:World),cP w cs args→Calls prog 65 args.toArray w (fun e w'=>r.ok w e w'):=by
 intro cs pre r hg hp args w ha;unfold Zk at hg;split at hg
 ·rename_i l;split at hg
  ·rename_i x hx;cases hg
   match args,ha with
   | [t,v],ha =>
    have h1:t=.int .i64 2:=ha.1;have h2:v=.agg (aA l).toArray:=ha.2.1;rw[dP l x hx]at h2;subst h1; subst h2;refine (OE 2 _ qQ _ _ _ _ (eN x) (by rw[pR hp.1]; exact hp.1) w).mono ?_
    rintro e w' ⟨b,rfl,h1,h2,h3,h4,h5⟩
    rw[pR hp.1]at h3;exact⟨b,rfl,h4,h1,h2,Ga fun k hk=>(h3 k hk).1,h5⟩
   | [],ha=>exact ha.elim
   | [_],ha=>exact ha.2.elim
   | _::_::_::_,ha=>exact ha.2.2.elim
  ·cases hg
 ·cases hg
def FB2:Tab2:=WR.add 65 Zk
theorem aBv:FrOk prog FB2:=(Hd _).add func65 (by kernel_rfl) (by kernel_rfl) Nz
end Ex
end Go.Proofs.YtpjlhhpjpnacmaaGreatDoor
namespace Go.Proofs.YtpjlhhpjpnacmaaGreatDoor.Ex
open Go.Proofs.Tryz
open Go.RowKit
def Zf:gE
 | [.v (.im v)]=>some ([],.one (.im v))
 | _=>none
def MC (b:Bool) (p:NP):RV:=bif b then gP p 0 else gP (0,0) 41
def aEU (b:Bool):gE:=g2 Sd Sd fun p q=>([p.1<aG,p.2<aG,q.1<aG,q.2<aG,(jR p.1 p.2&&jR q.1 q.2)=b],MC b (EG p q))
def aER (b:Bool):gE:=g1 Sd fun p=>([p.1<aG,p.2<aG,jR p.1 p.2=b],MC b (lS p))
def aES (b:Bool):gE:=g2 Sd qZ fun p n=>([p.1<aG,p.2<aG,jR p.1 p.2=b],MC b (nZ p n))
def Dm (c:Int):gE:=g1 Sd fun p=>([p.1<aG,p.2<aG,gM p=c],.one (.im (.int .i64 c)))
theorem CI {b:Bool} {c:Bool} {p:NP} (h:c=b):(if c=true then gP p 0 else gP (0,0) 41)=MC b p:=by
 subst h; cases c<;>rfl
theorem Oe {f:FuncId} (h:∀(p q:NP),w2 p→w2 q→∀(args:List Value) (w:World),cP w [.v (.fl (q2 p)),.v (.fl (q2 q))] args→bG prog f (if (jR p.1 p.2&&jR q.1 q.2)=true then gP (EG p q) 0 else gP (0,0) 41) args w) (b:Bool):∀cs pre r,aEU b cs=some (pre,r)→bC pre→∀(args:List Value) (w:World),cP w cs args→bG prog f r args w :=
 JD (op:=fun p q=>([p.1<aG,p.2<aG,q.1<aG,q.2<aG,(jR p.1 p.2&&jR q.1 q.2)=b],MC b (EG p q))) tI tI fun p q hp args w ha=>by
  have:=h p q ⟨hp.1,hp.2.1⟩ ⟨hp.2.2.1,hp.2.2.2.1⟩ args w ha;rw[CI hp.2.2.2.2.1]at this;exact this
theorem Nu {f:FuncId} (h:∀(p:NP),w2 p→∀(args:List Value) (w:World),cP w [.v (.fl (q2 p))] args→bG prog f (if jR p.1 p.2=true then gP (lS p) 0 else gP (0,0) 41) args w) (b:Bool):∀cs pre r,aER b cs=some (pre,r)→bC pre→∀(args:List Value) (w:World),cP w cs args→bG prog f r args w :=
 lY (op:=fun p=>([p.1<aG,p.2<aG,jR p.1 p.2=b],MC b (lS p))) tI fun p hp args w ha=>by
  have:=h p ⟨hp.1,hp.2.1⟩ args w ha;rw[CI hp.2.2.1]at this;exact this
theorem Nw {f:FuncId} (h:∀(p:NP) (n:Nat),w2 p→∀(args:List Value) (w:World),cP w [.v (.fl (q2 p)),.v (.fl (q1 n))] args→bG prog f (if jR p.1 p.2=true then gP (nZ p n) 0 else gP (0,0) 41) args w) (b:Bool):∀cs pre r,aES b cs=some (pre,r)→bC pre→∀(args:List Value) (w:World),cP w cs args→bG prog f r args w :=
 JD (op:=fun p n=>([p.1<aG,p.2<aG,jR p.1 p.2=b],MC b (nZ p n))) tI dP fun p n hp args w ha=>by
  have:=h p n ⟨hp.1,hp.2.1⟩ args w ha;rw[CI hp.2.2.1]at this;exact this
theorem vQ {f:FuncId} (h:∀(p:NP),w2 p→∀(args:List Value) (w:World),cP w [.v (.fl (q2 p))] args→bG prog f (.one (.im (.int .i64 (gM p)))) args w) (c:Int):∀cs pre r,Dm c cs=some (pre,r)→bC pre→∀(args:List Value) (w:World),cP w cs args→bG prog f r args w :=
 lY (op:=fun p=>([p.1<aG,p.2<aG,gM p=c],.one (.im (.int .i64 c)))) tI fun p hp args w ha=>by
  have:=h p ⟨hp.1,hp.2.1⟩ args w ha;rw[hp.2.2.1]at this;exact this
theorem aHq (P Q:JP):EG (cj P) (cj Q)=cj (fB.grp.add P Q):=by
 rw[SN (lD P) (lD Q),IX,IX]
theorem aJm (P:JP):lS (cj P)=cj (fB.grp.neg P):=by
 rw[RB (lD P),IX]
theorem aJp (P:JP) (n:Nat):nZ (cj P) n=cj (fB.grp.ns (wv n) P):=by
 rw[CX (lD P),IX]
def gLw (c:Bool):gE
 | [.v (.im (.int .i64 2)),.v (.fl l)]=>match qZ l with
  | some x=>some ([x<RM,dT RM x=c],.many [.im (.bool c),.im (.int .i64 0)])
  | none=>none
 | _=>none
theorem aKl (c:Bool):∀cs pre r,gLw c cs=some (pre,r)→bC pre→∀(args:List Value) (w:World),cP w cs args→bG prog 99 r args w:=by
 intro cs pre r hg hp args w ha;unfold gLw at hg;split at hg
 ·rename_i l;split at hg
  ·rename_i x hx;cases hg
   match args,ha with
   | [t,v],ha =>
    have h1:t=.int .i64 2:=ha.1;have h2:v=.agg (aA l).toArray:=ha.2.1;rw[dP l x hx]at h2;subst h1; subst h2;have h:=VA 2 _ qQ _ _ _ _ (eN x) (by rw[pR hp.1]; exact hp.1) w;rw[pR hp.1,hp.2.1]at h;exact h
   | [],ha=>exact ha.elim
   | [_],ha=>exact ha.2.elim
   | _::_::_::_,ha=>exact ha.2.2.elim
  ·cases hg
 ·cases hg
def aHv (c:Bool):Tab:=T0.add 99 (gLw c)
theorem aDz (c:Bool):TabOk prog (aHv c):=(bP _).add func99 (by kernel_rfl) (by kernel_rfl) (aKl c)
theorem Yk (c:Bool) (x:Nat):nI prog (aHv c) (qG prog) (fun _=>true) f67 40 [.v (.fl [.q x])]=some ([x<RM,dT RM x=c],.one (.im (.bool c))):=by kernel_rfl
def gIl (c:Bool):gE:=g1 qZ fun x=>([x<RM,dT RM x=c],.one (.im (.bool c)))
theorem aKm (c:Bool):∀cs pre r,gIl c cs=some (pre,r)→bC pre→∀(args:List Value) (w:World),cP w cs args→bG prog 67 r args w :=
 lY (op:=fun x=>([x<RM,dT RM x=c],.one (.im (.bool c)))) dP fun x h args w ha=>cT aI (aDz c) (aV _) func67 (Yk c x) h ha
def aHx (k:Int) (c:Bool):Tab:=(nJ.add 41 (Dm k)).add 67 (gIl c)
theorem aDB (k:Int) (c:Bool):TabOk prog (aHx k c):=(jB.add func41 (by kernel_rfl) (by kernel_rfl) (vQ mX k)).add func67 (by kernel_rfl) (by kernel_rfl) (aKm c)
def xBy (f:Nat→Nat) (ky:Nat→Option Nat) (gen:Nat→Option Value):Ext:={ Ext.none with ky:=ky,gen:=gen,T2:=FB2,T3:=SS,T4:=XB,T5:=kX,T6:=B6 f }
theorem KZ (f:Nat→Nat) (ky:Nat→Option Nat) (gen:Nat→Option Value) (w:World):bQ prog (qY prog (xBy f ky gen)) w.heap.size w:=Si aBv (fun _ _ _ h=>h.elim) (Hc _) (EK _) (jL _) (Uc f)
def fI:Code:=(f35.body).getD .skip
theorem Fx:fI=.seq (cA fI) (.seq (cA (cB fI)) (.seq (cA (cB (cB fI))) (.seq (cA (cB (cB (cB fI)))) (.seq (cA (cB (cB (cB (cB fI))))) (cB (cB (cB (cB (cB fI))))))))):=by kernel_rfl
def byA (p:NP):List Fact:=[.slot 1 (.pt 1 0),.row 1 true [.q p.1,.q p.2]]
def VY (p:NP) (f:Nat→Nat):List Fact:=[.slot 1 (.pt 1 0),.row 1 true [.q p.1,.q p.2],.slot 5 (.sl 15 0 32 32),.row 15 true (bj f)]
def Tp (c:Bool) (_:Nat):Cfg:=⟨fun _=>aHx 0 c,fun _=>true,fun _=>none⟩
theorem aAU (p:NP) (c:Bool):aX prog (qG prog) f35.ntmps (Tp c) 60 (cA fI) (fJ 0 [.v (.fl [.q p.1,.q p.2])]) (byA p)=some ([],.nrm,byA p):=by kernel_rfl
theorem aAT (p:NP) (c:Bool):aX prog (qG prog) f35.ntmps (Tp c) 60 (cA (cB fI)) (byA p) (byA p)=some ([p.1<aG,p.2<aG,gM p=0],.nrm,byA p):=by kernel_rfl
theorem aAS (p:NP) (c:Bool) (f:Nat→Nat):aX prog (qY prog (xBy f (fun _=>none) (fun _=>none))) f35.ntmps (Tp c) 60 (cA (cB (cB fI))) (byA p) (VY p (bF p.2))=some ([p.2<RM],.nrm,VY p (bF p.2)):=by kernel_rfl
theorem aAR (p:NP) (c:Bool) (f:Nat→Nat) (b:Nat):aX prog (qY prog (xBy f (assoc [(19,15)]) (fun _=>none))) f35.ntmps (Tp c) 60 (cA (cB (cB (cB fI)))) (.at 15 b::VY p f) (VY p (gC f))=some ([0=0,32=32,aA (bj f)=aA (bj f)],.nrm,VY p (gC f)):=by kernel_rfl
def GZ (f:Nat→Nat):Nat→Nat:=fun k=>bif Nat.beq k 31 then f 31 ||| 128 else f k
theorem aAP (p:NP) (f:Nat→Nat):aX prog (qG prog) f35.ntmps (Tp true) 60 (cA (cB (cB (cB (cB fI))))) (VY p f) (VY p f)=some ([p.1<RM,dT RM p.1=true],.nrm,VY p f):=by kernel_rfl
theorem aAQ (p:NP) (f:Nat→Nat):aX prog (qY prog (xBy f (fun _=>none) (assoc [(27,.int .u8 (Int.ofNat (f 31 ||| 128)))]))) f35.ntmps (Tp false) 60 (cA (cB (cB (cB (cB fI))))) (VY p f) (VY p (GZ f))=some ([p.1<RM,dT RM p.1=false,Bin .or 5 (.tmp 26) (.const (.int .u8 128)) (.int .u8 (Int.ofNat (f 31))) (.int .u8 (Int.ofNat 128)) (.int .u8 (Int.ofNat (f 31 ||| 128)))],.nrm,VY p (GZ f)):=by kernel_rfl
theorem Fw (p:NP) (c:Bool) (f:Nat→Nat):aX prog (qG prog) f35.ntmps (Tp c) 60 (cB (cB (cB (cB (cB fI))))) (VY p f) [.slot 2 (.sl 15 0 32 32),.row 15 true (bj f),.slot 3 (.im (.int .i64 0))]=some ([],.rt,[.slot 2 (.sl 15 0 32 32),.row 15 true (bj f),.slot 3 (.im (.int .i64 0))]):=by kernel_rfl
def iT (p:NP):Nat→Nat:=bif dT RM p.1 then gC (bF p.2)else GZ (gC (bF p.2))
theorem PA (A k:Nat):bF A k<256:=Nat.mod_lt _ (by decide)
theorem VX (p:NP) (hp:OnJ p.1 p.2) (h0:gM p=0) (args:List Value) (w:World) (ha:cP w [.v (.fl [.q p.1,.q p.2])] args):Calls prog 35 args.toArray w (fun e w'=>FR.ok ⟨bj (iT p),32,32,[.im (.int .i64 0)]⟩ w e w'):=by
 have hG:bQ prog (qG prog) w.heap.size w:=(aV _).w _ _;have hT:∀c (n d:Nat),TabOkW prog ((Tp c n).T d) w.heap.size w:=fun c _ _=>(aDB 0 c).w _ _
 refine cM func35 (c:=fI) rfl ha (Nat.le_of_ble_eq_true (by kernel_rfl)) fun a w' hA => ?_
 rw[Fx];refine wp_seq (aB aI (hT true) hG (aAU p true) trivial hA fun a w' hA => ?_);refine wp_seq (aB aI (hT true) hG (aAT p true) ⟨hp.w.1,hp.w.2,h0,trivial⟩ hA fun a w' hA => ?_);refine wp_seq (aB aI (hT true) (KZ (bF p.2) _ _ w) (aAS p true (bF p.2)) ⟨hp.1.2,trivial⟩ hA fun a w' hA => ?_);obtain⟨b,hA⟩:=hA.at (k:=15) (l:=bj (bF p.2)) (by simp[VY]);refine wp_seq (aB aI (hT true) (KZ (bF p.2) _ _ w) (aAR p true (bF p.2) b) ⟨rfl,rfl,rfl,trivial⟩ hA fun a w' hA => ?_);unfold iT;cases hl:dT RM p.1
 ·refine wp_seq (aB aI (hT false) (KZ (gC (bF p.2)) _ _ w) (aAQ p (gC (bF p.2))) ⟨hp.1.1,hl,aBb (PA _ _) (by decide),trivial⟩ hA fun a w' hA => ?_);exact aB aI (hT false) hG (Fw p false _) trivial hA fun a w' hA=>AL (r:=⟨bj (GZ (gC (bF p.2))),32,32,[.im (.int .i64 0)]⟩) (by kernel_rfl) hA
 ·refine wp_seq (aB aI (hT true) hG (aAP p (gC (bF p.2))) ⟨hp.1.1,hl,trivial⟩ hA fun a w' hA => ?_);exact aB aI (hT true) hG (Fw p true _) trivial hA fun a w' hA=>AL (r:=⟨bj (gC (bF p.2)),32,32,[.im (.int .i64 0)]⟩) (by kernel_rfl) hA
end Go.Proofs.YtpjlhhpjpnacmaaGreatDoor.Ex
