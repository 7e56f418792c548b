/- Rf13 -/
import Derived.Deep.RegionWith
import Derived.Test.YtjkpglhlmknciaaGreatRf12
import Derived.Test.YtjkpglhlmknciaaGreatRf03
import Derived.Test.YtjkpglhlmknciaaGreatRf07
import Derived.Test.YtjkpglhlmknciaaGreatRf06
import Derived.Test.YtjkpglhlmknciaaGreatRf02
import Derived.Test.YtjkpglhlmknciaaGreatRf10
import Derived.Test.YtjkpglhlmknciaaGreatRf08
import Derived.Test.YtjkpglhlmknciaaGreatRf09
import Derived.Test.YtjkpglhlmknciaaGreatRf11
import Derived.Test.YtjkpglhlmknciaaGreatRf05
import Derived.Test.YtjkpglhlmknciaaGreatProg
set_option maxRecDepth 100000
set_option linter.unusedVariables false
set_option linter.unusedSimpArgs false
set_option linter.unnecessarySimpa false
noncomputable section
namespace Go.Proofs.YtjkpglhlmknciaaGreat.Ex
open Go.Proofs.Tryz
open Go.RowKit
def VC:Q2:=(⟨2,by decide⟩,⟨1,by decide⟩)
def Df:Q2:=(⟨7292567877523311580221095596750716176434782432868683424513645834767876293070,by decide⟩,⟨19659275751359636165940301690575149581329631496732780143538578556285923319774,by decide⟩)
def KP:Nat:=479095176016622842441988045216678740799252316531100822436447802254070093686356349204969212544220033486413271283566945264650845755880805213916963058350733
def twM:Nat:=287457105609973705413735949925891179998572849537316190965553840838426151215824331271088064391342496698406609565003789524066463657087527623491112425449299
theorem Zu:On F2 dE (some (VC,Df)):=by
 show F2.mul Df Df=F2.add (F2.mul VC (F2.mul VC VC)) dE;exact of_decide_eq_true (by kernel_rfl)
def UP:C2:=⟨some (VC,Df),Zu⟩
theorem Do:Rp bC (VC,Df,F2.one) UP:=bC.jto_one _ _
theorem aXW:(Cm F2 (VC,Df,F2.one) KP 508 508).2.2=F2.zero:=of_decide_eq_true (by kernel_rfl)
theorem aNG:(Cm F2 (VC,Df,F2.one) 21888242871839275222246405745257275088844257914179612981679871602714643921549 508 508).2.2≠F2.zero:=of_decide_eq_true (by kernel_rfl)
theorem aNF:(Cm F2 (VC,Df,F2.one) 47581207271489010074683488451353534690560365133687637544587129035065060451520145913692443394996527310200940637954806362563397135354136976255533127257 508 508).2.2≠F2.zero:=of_decide_eq_true (by kernel_rfl)
theorem aNE:(Cm F2 (VC,Df,F2.one) 81695500702735512534355690413510048306596413944254634435204516583035521221409714172848891565263022342164744751180375500353888786916311693882625533 508 508).2.2≠F2.zero:=of_decide_eq_true (by kernel_rfl)
theorem aND:(Cm F2 (VC,Df,F2.one) 255418644045692602095536823547820102522999221828645151339294751423486163211343406059815000057572293107810899582329754326227174532880069378657 508 508).2.2≠F2.zero:=of_decide_eq_true (by kernel_rfl)
theorem aNC:(Cm F2 (VC,Df,F2.one) 2424320880075062131686333725919013315836351602446602932909956992302697742401182419325566481532687937 508 508).2.2≠F2.zero:=of_decide_eq_true (by kernel_rfl)
theorem aNJ:KP<2^508:=of_decide_eq_true (by kernel_rfl)
theorem aNK:twM<2^508:=of_decide_eq_true (by kernel_rfl)
theorem PC:bC.grp.ns KP UP=bC.grp.zero:=Subtype.ext ((SV Do KP 508 aNJ).symm.trans (dP aXW))
theorem VA {n:Nat} (hn:n<2^508) (h:(Cm F2 (VC,Df,F2.one) n 508 508).2.2≠F2.zero):bC.grp.ns n UP≠bC.grp.zero:=fun e=>by
 have h1:iA F2 dW (Cm F2 (VC,Df,F2.one) n 508 508)=(bC.grp.ns n UP).1:=SV Do n 508 hn;rw[e,eC h]at h1;cases h1
def twL:List Nat:=[21888242871839275222246405745257275088548364400416034343698204186575808495617,10069,5864401,1875725156269,197620364512881247228717050342013327560683201906968909]
theorem Zw:twL.foldr (· * ·) 1=KP:=by kernel_rfl
theorem aGU:∀q,q∈twL→eJ q:=fun q hq=>by
 simp only[twL,List.mem_cons,List.not_mem_nil,or_false]at hq
 rcases hq with rfl|rfl|rfl|rfl|rfl
 ·exact aLN
 ·exact Wm
 ·exact ZC
 ·exact xZ
 ·exact dK
theorem aNM:∀q,q∈twL→bC.grp.ns (KP/q) UP≠bC.grp.zero:=fun q hq=>by
 simp only[twL,List.mem_cons,List.not_mem_nil,or_false]at hq
 rcases hq with rfl|rfl|rfl|rfl|rfl
 ·rw[show KP/21888242871839275222246405745257275088548364400416034343698204186575808495617=21888242871839275222246405745257275088844257914179612981679871602714643921549 by kernel_rfl]; exact VA (of_decide_eq_true (by kernel_rfl)) aNG
 ·rw[show KP/10069=47581207271489010074683488451353534690560365133687637544587129035065060451520145913692443394996527310200940637954806362563397135354136976255533127257 by kernel_rfl]; exact VA (of_decide_eq_true (by kernel_rfl)) aNF
 ·rw[show KP/5864401=81695500702735512534355690413510048306596413944254634435204516583035521221409714172848891565263022342164744751180375500353888786916311693882625533 by kernel_rfl]; exact VA (of_decide_eq_true (by kernel_rfl)) aNE
 ·rw[show KP/1875725156269=255418644045692602095536823547820102522999221828645151339294751423486163211343406059815000057572293107810899582329754326227174532880069378657 by kernel_rfl]; exact VA (of_decide_eq_true (by kernel_rfl)) aND
 ·rw[show KP/197620364512881247228717050342013327560683201906968909=2424320880075062131686333725919013315836351602446602932909956992302697742401182419325566481532687937 by kernel_rfl]; exact VA (of_decide_eq_true (by kernel_rfl)) aNC
theorem FH:∀k,0<k→k<KP→bC.grp.ns k UP≠bC.grp.zero:=bC.grp.exact Zw aGU PC aNM
theorem aNz (P:C2) (h:bC.grp.add P P=bC.grp.zero):P=bC.grp.zero:=by
 have h1:bC.grp.neg P=P:=by
  refine bC.grp.cancel (a:=P) ?_;rw[bC.grp.addn,h]
 obtain⟨P,hP⟩:=P;cases P with
 | none=>rfl
 | some p =>
  have h2:some (p.1,F2.neg p.2)=some p:=congrArg Subtype.val h1;have h3:F2.neg p.2=p.2:=by injection h2 with h2; exact congrArg Prod.snd h2
  have h4:F2.add p.2 p.2=F2.zero:=by
   conv=>lhs; lhs; rw[←h3]
   exact F2.neg_add _
  exact (bC.dbl_ne (bC.y_ne (x:=p.1) hP) h4).elim
open Classical in
def mP (x:Q2):Q2:=if h:∃y,On F2 dE (some (x,y))then h.choose else F2.zero
open Classical in
def zQ (P:C2):Nat:=match P.1 with
 | none=>2*(FP.M*FP.M)
 | some p=>2*(p.1.1.1+FP.M*p.1.2.1)+(if p.2=mP p.1 then 0 else 1)
theorem Ji {a b M:Nat} (ha:a<M) (hb:b<M):a+M*b<M*M:=by
 have:M*(b+1)≤M*M:=Nat.mul_le_mul_left _ hb;rw[Nat.mul_add,Nat.mul_one]at this;omega
theorem Ta (P:C2):zQ P<2*(FP.M*FP.M)+1:=by
 obtain⟨P,hP⟩:=P;unfold zQ;cases P with
 | none=>exact Nat.lt_succ_self _
 | some p =>
  have:=Ji p.1.1.2 p.1.2.2;show 2*(p.1.1.1+FP.M*p.1.2.1)+(if p.2=mP p.1 then 0 else 1)<_;split<;>omega
theorem aKf {a b c d M:Nat} (ha:a<M) (hc:c<M) (h:a+M*b=c+M*d):a=c∧b=d:=by
 have h1:=congrArg (· % M) h;simp only[Nat.add_mul_mod_self_left,Nat.mod_eq_of_lt ha,Nat.mod_eq_of_lt hc]at h1;refine⟨h1,?_⟩;rw[h1]at h;have hM:0<M:=by omega
 exact Nat.eq_of_mul_eq_mul_left hM (by omega)
theorem Dp (P Q:C2) (h:zQ P=zQ Q):P=Q:=by
 obtain⟨P,hP⟩:=P;obtain⟨Q,hQ⟩:=Q;refine Subtype.ext ?_;show P=Q;unfold zQ at h;cases P with
 | none =>
  cases Q with
  | none=>rfl
  | some q =>
   have:=Ji q.1.1.2 q.1.2.2;have h':2*(FP.M*FP.M)=2*(q.1.1.1+FP.M*q.1.2.1)+(if q.2=mP q.1 then 0 else 1):=h;split at h'<;>omega
 | some p =>
  cases Q with
  | none =>
   have:=Ji p.1.1.2 p.1.2.2;have h':2*(p.1.1.1+FP.M*p.1.2.1)+(if p.2=mP p.1 then 0 else 1)=2*(FP.M*FP.M):=h;split at h'<;>omega
  | some q =>
   have h':2*(p.1.1.1+FP.M*p.1.2.1)+(if p.2=mP p.1 then 0 else 1)=2*(q.1.1.1+FP.M*q.1.2.1)+(if q.2=mP q.1 then 0 else 1):=h;have hx:p.1.1.1+FP.M*p.1.2.1=q.1.1.1+FP.M*q.1.2.1∧((p.2=mP p.1)↔(q.2=mP q.1)):=by
    by_cases a:p.2=mP p.1
    ·rw[if_pos a]at h'
     by_cases b:q.2=mP q.1
     ·rw[if_pos b]at h'; exact⟨by omega,fun _=>b,fun _=>a⟩
     ·rw[if_neg b]at h'; omega
    ·rw[if_neg a]at h'
     by_cases b:q.2=mP q.1
     ·rw[if_pos b]at h'; omega
     ·rw[if_neg b]at h'; exact⟨by omega,fun h=>(a h).elim,fun h=>(b h).elim⟩
   obtain⟨e1,e2⟩:=aKf p.1.1.2 q.1.1.2 hx.1;have ex:p.1=q.1:=Prod.ext (Fin.ext e1) (Fin.ext e2);obtain⟨px,py⟩:=p;obtain⟨qx,qy⟩:=q;have ex':px=qx:=ex;subst ex';have hb:(py=mP px)↔(qy=mP px):=hx.2;refine congrArg (fun y=>some (px,y)) ?_
   by_cases a:py=mP px
   ·rw[a,←hb.1 a]
   ·have b:qy≠mP px:=fun h=>a (hb.2 h)
    have hy0:On F2 dE (some (px,mP px)):=by
     have hex:∃y,On F2 dE (some (px,y)):=⟨py,hP⟩
     unfold mP;rw[dif_pos hex];exact hex.choose_spec
    have s1:F2.add py (mP px)=F2.zero:=FN bC ((show F2.mul py py=_ from hP).trans (show F2.mul (mP px) (mP px)=_ from hy0).symm) a;have s2:F2.add qy (mP px)=F2.zero:=FN bC ((show F2.mul qy qy=_ from hQ).trans (show F2.mul (mP px) (mP px)=_ from hy0).symm) b;refine F2.add_cancel (a:=mP px) ?_;rw[F2.add_comm,s1,F2.add_comm,s2]
theorem aNH:2*(FP.M*FP.M)+1<3*KP:=of_decide_eq_true (by kernel_rfl)
theorem aNB:KP%2=1:=by kernel_rfl
theorem aNI (P:C2):∃k,P=bC.grp.ns k UP:=bC.grp.cyclic aNB PC FH aNz zQ Ta Dp aNH P
def aXZ:Q2:=F2.mul (aL VC) jQ
def aXY:Q2:=F2.mul (aL Df) nJ
def twJ:J2:=Cm F2 (VC,Df,F2.one) twM 508 508
theorem aYc:twJ.2.2≠F2.zero:=of_decide_eq_true (by kernel_rfl)
theorem aYe:twJ.1=F2.mul aXZ (F2.mul twJ.2.2 twJ.2.2):=of_decide_eq_true (by kernel_rfl)
theorem aYd:twJ.2.1=F2.mul aXY (F2.mul (F2.mul twJ.2.2 twJ.2.2) twJ.2.2):=of_decide_eq_true (by kernel_rfl)
theorem aNW:Rp bC twJ (bC.grp.ns twM UP):=SV Do twM 508 aNK
theorem aNA:pA UP=bC.grp.ns twM UP:=by
 refine Subtype.ext ?_;rw[←show iA F2 dW twJ=(bC.grp.ns twM UP).1 from aNW,aDJ bC aYc aYe aYd];show LL (some (VC,Df))=_
 kernel_rfl
def twC:Nat:=287457105609973705413735949925891179998572849537316190965553840838426151215824331271088064391342496698406609565003641577309581867768536789783043007736333
def twU:Nat:=4377648574367855045624726741130453375770005524880588749457117171343633558474
def twW:Nat:=2626589144620713026904657807846672682105704487528335372401875091607964744325
theorem aNN:twM=cH+twC:=by kernel_rfl
theorem aGV:twC=pC*13132945723103565130996952262996368337156300107536646163745009583754801998349:=by kernel_rfl
theorem aTB:twC*twU=pC+KP*twW:=by kernel_rfl
theorem Zt:0<KP:=of_decide_eq_true (by kernel_rfl)
theorem IW (P:C2):bC.grp.ns cH P=pA P↔bC.grp.ns pC P=bC.grp.zero:=by
 obtain⟨k,rfl⟩:=aNI P;have e1:pA (bC.grp.ns k UP)=bC.grp.add (bC.grp.ns cH (bC.grp.ns k UP)) (bC.grp.ns (k*twC) UP):=by
  rw[GI,aNA,←bC.grp.ns_mul,←bC.grp.ns_mul,←bC.grp.ns_add,aNN,Nat.add_mul,Nat.mul_comm cH,Nat.mul_comm twC]
 have e2:bC.grp.ns cH (bC.grp.ns k UP)=pA (bC.grp.ns k UP)↔bC.grp.ns (k*twC) UP=bC.grp.zero:=by
  rw[e1];constructor
  ·intro h;refine bC.grp.cancel (a:=bC.grp.ns cH (bC.grp.ns k UP)) ?_;rw[←h,bC.grp.addz]
  ·intro h;rw[h,bC.grp.addz]
 rw[e2,←bC.grp.ns_mul,bC.grp.ns_dvd Zt PC FH,bC.grp.ns_dvd Zt PC FH];constructor
 ·rintro⟨f,hf⟩
  have h1:k*pC+KP*(k*twW)=KP*(f*twU):=by
   have h2:k*(twC*twU)=KP*(f*twU):=by rw[←Nat.mul_assoc,hf,Nat.mul_assoc]
   rw[aTB,Nat.mul_add,Nat.mul_left_comm k KP]at h2;exact h2
  have h3:KP∣k*pC+KP*(k*twW):=⟨_,h1⟩;exact (Nat.dvd_add_left ⟨_,rfl⟩).1 h3
 ·rintro⟨f,hf⟩
  rw[aGV,←Nat.mul_assoc,hf];exact⟨f*13132945723103565130996952262996368337156300107536646163745009583754801998349,Nat.mul_assoc _ _ _⟩
theorem Cyc.neg {G V:Type} {A:AG G} {B:AG V} {c:G→G→V} (C:Cyc A B c) (g h:G):c (A.neg g) (A.neg h)=B.neg (c g h):=by
 have e:=congrArg Prod.snd ((mU C).neg_add (eB B g) (eB B h));have e:B.neg (B.add (B.add B.zero B.zero) (c g h))=B.add (B.add (B.neg B.zero) (B.neg B.zero)) (c (A.neg g) (A.neg h)):=e;rw[B.zadd,B.zadd,B.negz,B.zadd,B.zadd]at e;exact e.symm
theorem GU:cV aD.one=aD.one:=by decide
theorem aCn {a:aV} (h:a≠aD.zero):cV a≠aD.zero:=fun e=>by
 have t:=congrArg cV (jY h);rw[nI,e,aD.zero_mul,GU]at t;exact jJ.1 t.symm
theorem aVK {a:aV} (h:a≠aD.zero):mE (cV a)=cV (mE a):=Pv (aCn h) (by rw[←nI,jY h,GU])
theorem aBx (x:aV) (m n:Nat):bZ aD (bZ aD x m) n=bZ aD (bZ aD x n) m:=by rw[←eF,←eF,Nat.mul_comm]
theorem aWQ (a:aV):cO (cV a)=cV (cO a):=by rw[JP,JP,oH,oH,aBx]
theorem aGT (a:aV):cU (cV a)=cV (cU a):=by rw[xJ,xJ,oH,oH,aBx]
theorem aVW (a:aV):hX (cV a)=cV (hX a):=by rw[IY,IY,oH,oH,aBx]
theorem aPW {a:aV} (h:a≠aD.zero):mC (cV a)=cV (mC a):=by
 unfold mC eZ;rw[aVK h,aWQ,←nI,aGT,←nI,aVW]
def fv (v:Vq):Vq:=⟨cV v.1,aCn v.2⟩
theorem JB (v:Vq):(fv v).1=cV v.1:=rfl
theorem aMF {z:aV} (h:z≠aD.zero):fv (lv z)=lv (cV z):=Subtype.ext (by rw[JB,dD h,dD (aCn h),aPW h])
theorem oK:fv vg.zero=vg.zero:=Subtype.ext (by rw[JB,FB,GU])
theorem aLC (v:Vq):∀n,(vg.ns n v).1=bZ aD v.1 n
 | 0=>rfl
 | n+1=>by
  show (vg.add (vg.ns n v) v).1=aD.mul (bZ aD v.1 n) v.1;rw[lX,aLC v n]
def sN:Nat:=CC+2
def mN:Nat:=(sN+FP.M+FP.M*FP.M*FP.M-FP.M*FP.M)/Go.Proofs.YtjkpglhlmknciaaGreat.FR.M
theorem aTV:sN+FP.M+FP.M*FP.M*FP.M=FP.M*FP.M+Go.Proofs.YtjkpglhlmknciaaGreat.FR.M*mN:=by kernel_rfl
theorem aGP {x:aV} (h:bZ aD x Go.Proofs.YtjkpglhlmknciaaGreat.FR.M=aD.one):aD.mul (aD.mul (bZ aD x sN) (cV x)) (cV (cV (cV x)))=cV (cV x):=by
 have e2:cV (cV x)=bZ aD x (FP.M*FP.M):=by rw[oH,oH,←eF]
 have e3:cV (cV (cV x))=bZ aD x (FP.M*FP.M*FP.M):=by rw[e2,oH,←eF]
 rw[e3,e2,oH x,←cT,←cT,aTV,cT,eF aD x Go.Proofs.YtjkpglhlmknciaaGreat.FR.M,h,oE,aD.mul_comm,aD.one_mul]
def rOf (v:Vq):Prop:=bZ aD v.1 Go.Proofs.YtjkpglhlmknciaaGreat.FR.M=aD.one
theorem aED {v:Vq} (h:rOf v):vg.add (vg.add (vg.ns sN v) (fv v)) (fv (fv (fv v)))=fv (fv v):=Subtype.ext (by
 rw[lX,lX,aLC,JB,JB,JB];exact aGP h)
theorem pK:rOf vg.zero:=by
 unfold rOf;rw[FB,oE]
theorem aBs (z:aV):rOf (lv z):=by
 by_cases h:z=aD.zero
 ·unfold lv;rw[dif_pos h];exact pK
 ·unfold rOf;rw[dD h];exact aZz (aMK (aMi h))
def Dj:Pt Fq→Pt Q2→Pt Q2→Vq
 | none,_,_=>vg.zero
 | some a,t,t'=>cv a t t'
theorem nQ (t t':Pt Q2):Dj none t t'=vg.zero:=rfl
theorem jK (a:Fq×Fq) (t t':Pt Q2):Dj (some a) t t'=cv a t t':=rfl
def CV (P:C1) (T T':C2):Vq:=Dj P.1 T.1 T'.1
theorem bAb:Cyc bC.grp vg (fun T T'=>Dj none T.1 T'.1) where
 coc T T' T'':=by rw[nQ,nQ,nQ,nQ]
 comm T T':=by rw[nQ,nQ]
 zl T:=by rw[nQ]
 opp T:=by rw[nQ]
theorem bAa {a:Fq×Fq} (h:On F1 (fm 3) (some a)):Cyc bC.grp vg (fun T T'=>Dj (some a) T.1 T'.1) where
 coc T T' T'':=by
  rw[jK,jK,jK,jK,nK,nK];exact aRB h T.2 T'.2 T''.2
 comm T T':=by
  rw[jK,jK];exact Rj h T.2 T'.2
 zl T:=by
  rw[jK,show (bC.grp.zero:C2).1=none from rfl];exact Cl h T.1
 opp T:=by
  rw[jK,show (bC.grp.neg T).1=MG F2 T.1 from rfl];exact aRA h T.1
theorem aZZ:∀{p:Pt Fq},On F1 (fm 3) p→Cyc bC.grp vg (fun T T'=>Dj p T.1 T'.1)
 | none,_=>bAb
 | some a,h=>bAa h
theorem aFh {a:Fq×Fq} (h:On F1 (fm 3) (some a)) {q:Pt Q2} (hq:On F2 dE q):cv a q none=vg.zero:=by
 rw[Rj h hq (show On F2 dE none from trivial),Cl h]
theorem aFi {a:Fq×Fq} (h:On F1 (fm 3) (some a)) {t t':Q2×Q2} (hn:t.1=t'.1∧F2.add t.2 t'.2=F2.zero):cv a (some t) (some t')=vg.zero:=AY (Iy h hn)
theorem aMR (a:Fq):aL (i2 a)=i2 a:=Prod.ext rfl (bQ F1)
theorem aMQ (a:Q2):aL (F2.neg a)=F2.neg (aL a):=rfl
theorem Qu:Ju=F2.one:=by decide
theorem aWp:JH=kE:=by decide
theorem aWn:CU=jQ:=by decide
theorem aMH:Qt=nJ:=by decide
theorem aUR (m d:Q2) (a b:Fq):cV (lT m d a b)=lT (F2.mul (aL m) JH) (F2.mul (aL d) Qt) a b:=by
 show ((F2.mul (aL (i2 b)) Ju,F2.mul (aL F2.zero) CU,F2.mul (aL F2.zero) Qr),(F2.mul (aL (F2.neg (F2.mul m (i2 a)))) JH,F2.mul (aL (F2.neg d)) Qt,F2.mul (aL F2.zero) fb5))=lT _ _ _ _;have e:F2.mul (F2.mul (aL m) (i2 a)) JH=F2.mul (F2.mul (aL m) JH) (i2 a):=by rw[F2.mul_assoc,F2.mul_comm (i2 a),←F2.mul_assoc]
 simp only[yZ,F2.zero_mul,aMR,Qu,F2.mul_one,aMQ,TB,F2.neg_mul,e];rfl
theorem aUS (n c:Fq) (x y:Q2):cV (lP n c x y)=lP n c (F2.mul (aL x) CU) (F2.mul (aL y) Qt):=by
 show ((F2.mul (aL (F2.neg (i2 c))) Ju,F2.mul (aL (F2.neg (F2.mul (i2 n) x))) CU,F2.mul (aL F2.zero) Qr),(F2.mul (aL F2.zero) JH,F2.mul (aL y) Qt,F2.mul (aL F2.zero) fb5))=lP _ _ _ _;simp only[yZ,F2.zero_mul,aMR,Qu,F2.mul_one,aMQ,TB,F2.neg_mul,F2.mul_assoc];rfl
theorem CE (p:Q2×Q2):LL (some p)=some (F2.mul (aL p.1) jQ,F2.mul (aL p.2) nJ):=rfl
theorem aOT {t:Pt Q2} (h:On F2 dE t):On F2 dE (LL t):=by rw[sP]; exact aLD LZ bC h
theorem aIM {t t':Pt Q2} (h:On F2 dE t) (h':On F2 dE t'):LL (iR F2 dW t t')=iR F2 dW (LL t) (LL t'):=by
 rw[sP,sP,sP];exact Zv LZ bC h h'
theorem aQv {R:Type} (K:CR R) (Y M X k:R):K.sub (K.mul Y (K.mul (K.mul k k) k)) (K.mul (K.mul M k) (K.mul X (K.mul k k)))=K.mul (K.sub Y (K.mul M X)) (K.mul (K.mul k k) k) :=
 aE K (aW K [Y,M,X,k]) (Z0*(Z3*Z3*Z3)-Z1*Z3*(Z2*(Z3*Z3))) ((Z0-Z1*Z2)*(Z3*Z3*Z3)) (by kernel_rfl)
theorem aQu (m:Q2) (t:Q2×Q2):hgt F2 (F2.mul (aL m) kE) (F2.mul (aL t.1) jQ,F2.mul (aL t.2) nJ)=F2.mul (aL (hgt F2 m t)) nJ:=by
 have e:aL (hgt F2 m t)=F2.sub (aL t.2) (F2.mul (aL m) (aL t.1)):=by
  unfold hgt;rw[LZ.sub,TB]
 rw[e,←Iz,←EK];exact aQv F2 (aL t.2) (aL m) (aL t.1) kE
theorem aQa {t t':Q2×Q2} (ht:On F2 dE (some t)) (ht':On F2 dE (some t')) (hn:¬(t.1=t'.1∧F2.add t.2 t'.2=F2.zero)) (a:Fq×Fq) :
  lnT (F2.mul (aL t.1) jQ,F2.mul (aL t.2) nJ) (F2.mul (aL t'.1) jQ,F2.mul (aL t'.2) nJ) a=cV (lnT t t' a):=by
 have hs:=UZ LZ bC (x1:=t.1) (y1:=t.2) (x2:=t'.1) (y2:=t'.2) ht ht' hn;rw[Iz,EK]at hs;rw[oS,oS,aUR];dsimp only;rw[hs,aQu,aWp,aMH]
theorem aRC {p:Pt Fq} {t t':Pt Q2} (hp:On F1 (fm 3) p) (ht:On F2 dE t) (ht':On F2 dE t'):Dj p (LL t) (LL t')=fv (Dj p t t'):=by
 match p,t,t' with
 | none,_,_=>rw[nQ,nQ,oK]
 | some a,none,_=>rw[jK,jK,show LL none=none from rfl,Cl hp,Cl hp,oK]
 | some a,some t,none=>rw[jK,jK,show LL none=none from rfl,aFh hp (aOT ht),aFh hp ht,oK]
 | some a,some t,some t' =>
  rw[jK,jK]
  by_cases hn:t.1=t'.1∧F2.add t.2 t'.2=F2.zero
  ·rw[aFi hp hn,oK,CE,CE];refine aFi hp ⟨?_,?_⟩
   ·dsimp only;rw[hn.1]
   ·dsimp only;rw[←F2.add_mul,←aFu,hn.2,yZ,F2.zero_mul]
  ·have h3:=aIM ht ht';rw[jU hn,CE,CE,CE]at h3;have hn':=EG (by rw[←h3]; exact Option.some_ne_none _);rw[CE,CE,yX hp hn,yX hp hn',aMF (wM (iM hp)),aQa ht ht' hn]
theorem aPV {p p' s:Pt Fq} {t:Pt Q2} (ht:On F2 dE t):KR p p' s (LL t)=fv (KR p p' s t):=by
 match p,p',s,t with
 | none,_,_,_=>rw[CP,CP,oK]
 | some p,none,_,_=>rw[CO,CO,oK]
 | some p,some q,none,_=>rw[CN,CN,oK]
 | some p,some q,some s,none=>rw[show LL none=none from rfl,NQ,oK]
 | some p,some q,some s,some t =>
  rw[CE,CM,CM,aMF (BA (mF ht)),wN,wN,aUS,aWn,aMH]
theorem Iu {p:Pt Fq} (hp:On F1 (fm 3) p) {t t':Q2×Q2} (hn:¬(t.1=t'.1∧F2.add t.2 t'.2=F2.zero)):Iv (some t) (some t') p=Dj p (some t) (some t'):=by
 match p with
 | none=>rw[Bc,nQ]
 | some a=>rw[NP,jK,yX hp hn]
theorem Ka {p:Pt Fq} (hp:On F1 (fm 3) p) (t:Pt Q2):Dj p none t=vg.zero:=by
 match p with
 | none=>rw[nQ]
 | some a=>rw[jK,Cl hp]
theorem Jz {p:Pt Fq} (hp:On F1 (fm 3) p) {t:Pt Q2} (ht:On F2 dE t):Dj p t none=vg.zero:=by
 match p with
 | none=>rw[nQ]
 | some a=>rw[jK,aFh hp ht]
theorem Kb {p:Pt Fq} (hp:On F1 (fm 3) p) {t t':Q2×Q2} (hn:t.1=t'.1∧F2.add t.2 t'.2=F2.zero):Dj p (some t) (some t')=vg.zero:=by
 match p with
 | none=>rw[nQ]
 | some a=>rw[jK,aFi hp hn]
theorem aPt {R:Type} {K:CR R} {t t':R×R} (hn:t.1=t'.1∧K.add t.2 t'.2=K.zero):t'=(t.1,K.neg t.2):=Prod.ext hn.1.symm (by
 apply K.add_cancel (a:=t.2);rw[hn.2,K.add_neg])
theorem aQt {p p':Pt Fq} {t t':Pt Q2} (hp:On F1 (fm 3) p) (hp':On F1 (fm 3) p') (ht:On F2 dE t) (ht':On F2 dE t') :
  vg.add (vg.add (Dj p t t') (Dj p' t t')) (KR p p' (iR F1 iC p p') (iR F2 dW t t'))=vg.add (Dj (iR F1 iC p p') t t') (vg.add (KR p p' (iR F1 iC p p') t) (KR p p' (iR F1 iC p p') t')):=by
 have hs:=hp.add SO hp'
 match t,t' with
 | none,t'=>rw[Ka hp,Ka hp',Ka hs,NQ,De,vg.zadd,vg.zadd,vg.zadd,show iR F2 dW none t'=t' from rfl]
 | some t,none=>rw[Jz hp ht,Jz hp' ht,Jz hs ht,NQ,De,vg.zadd,vg.addz,vg.zadd,show iR F2 dW (some t) none=some t from rfl]
 | some t,some t' =>
  by_cases hn:t.1=t'.1∧F2.add t.2 t'.2=F2.zero
  ·rw[kW hn,Kb hp hn,Kb hp' hn,Kb hs hn,NQ,De,De,aPt hn,←Hs,Ph hp hp' rfl ht,De]
  ·have r:=Qb hp hp' ht ht' (Option.some_ne_none _) (Option.some_ne_none _) (by rw[jU hn]; exact Option.some_ne_none _);rw[Iu hp hn,Iu hp' hn,Iu hs hn]at r;exact r
theorem aIL:GHom bC.grp bC.grp pA:=⟨Mu⟩
def sD (Q:C2):Prop:=bC.grp.ns pC Q=bC.grp.zero
def kN:Nat:=(sN+cH+cH*(cH*cH)-cH*cH)/pC
theorem aVw:sN+cH+cH*(cH*cH)=cH*cH+pC*kN:=by kernel_rfl
theorem aDV {Q:C2} (h:sD Q):tot bC.grp sN Q (pA Q) (pA (pA Q))=bC.grp.neg (pA (pA (pA Q))):=by
 have e:=(IW Q).2 h;have e2:pA (pA Q)=bC.grp.ns (cH*cH) Q:=by rw[←e,GI,←e,bC.grp.ns_mul]
 have e3:pA (pA (pA Q))=bC.grp.ns (cH*(cH*cH)) Q:=by
  rw[e2,GI,←e];rw[bC.grp.ns_mul cH _ (cH*cH),bC.grp.ns_mul cH _ cH]
 refine PG ?_;rw[e3,e2,←e,←bC.grp.ns_add,←bC.grp.ns_add,aVw,bC.grp.ns_add,bC.grp.ns_mul pC,show bC.grp.ns pC Q=bC.grp.zero from h,bC.grp.ns_zero,bC.grp.addz]
theorem aKc {Q Q':C2} (h:sD Q) (h':sD Q'):sD (bC.grp.add Q Q'):=by
 unfold sD at h h' ⊢;rw[bC.grp.ns_sum,h,h',bC.grp.zadd]
theorem Jh {Q:C2} (h:sD Q):∀n,sD (bC.grp.ns n Q)
 | 0=>bC.grp.ns_zero pC
 | n+1=>aKc (Jh h n) h
theorem aOO {p:Pt Fq} (t t':Pt Q2):rOf (Dj p t t'):=by
 match p with
 | none=>rw[nQ]; exact pK
 | some a=>rw[jK]; exact aBs _
theorem aIG (p p' s:Pt Fq) (t:Pt Q2):rOf (KR p p' s t):=by
 match p,p',s,t with
 | none,_,_,_=>rw[CP]; exact pK
 | some p,none,_,_=>rw[CO]; exact pK
 | some p,some q,none,_=>rw[CN]; exact pK
 | some p,some q,some s,none=>rw[NQ]; exact pK
 | some p,some q,some s,some t=>rw[CM]; exact aBs _
theorem Yg (P:C1):Cyc bC.grp vg (CV P):=by
 unfold CV;exact aZZ P.2
theorem aSQ (P:C1) (g k:C2):CV P (pA g) (pA k)=fv (CV P g k):=by
 unfold CV;exact aRC P.2 g.2 k.2
theorem bAm (P:C1) (g k:C2):rOf (CV P g k):=by
 unfold CV;exact aOO _ _
theorem aSM (P P':C1) (g k:C2):vg.add (vg.add (CV P g k) (CV P' g k)) (HV P P' (bC.grp.add g k))=vg.add (CV (SO.grp.add P P') g k) (vg.add (HV P P' g) (HV P P' k)):=by
 unfold HV CV;rw[Br,nK];exact aQt P.2 P'.2 g.2 k.2
theorem aSK (P P':C1) (g:C2):HV P P' (pA g)=fv (HV P P' g):=by
 unfold HV;exact aPV g.2
theorem bAj (P P':C1) (g:C2):rOf (HV P P' g):=by
 unfold HV;exact aIG _ _ _ _
def UR (P:C1) (Q:C2):Vq:=(fin (Yg P) sN pA Q).2
section
variable {G V:Type} {A:AG G} {B:AG V}
theorem aRf {c:G→G→V} (C:Cyc A B c) {s:Nat} {ψ:G→G} {φ:V→V} (hψ:GHom A A ψ) (hc:∀g h,c (ψ g) (ψ h)=φ (c g h)) (hv:∀g h,B.add (B.add (B.ns s (c g h)) (φ (c g h))) (φ (φ (φ (c g h))))=φ (φ (c g h)))
  {P:G→Prop} (hP:∀Q,P Q→tot A s Q (ψ Q) (ψ (ψ Q))=A.neg (ψ (ψ (ψ Q)))):∀Q Q',P Q→P Q'→(fin C s ψ (A.add Q Q')).2=B.add (fin C s ψ Q).2 (fin C s ψ Q').2 :=
 fun Q Q' h h'=>(Xv C hψ hc C.neg (hv Q Q') (hP Q h) (hP Q' h')).symm
theorem aRg {c1 c2 c3:G→G→V} (C1:Cyc A B c1) (C2:Cyc A B c2) (C3:Cyc A B c3) {h:G→V} (hh:∀g k,B.add (B.add (c1 g k) (c2 g k)) (h (A.add g k))=B.add (c3 g k) (B.add (h g) (h k)))
  {s:Nat} {ψ:G→G} {φ:V→V} (hψ:∀g,h (ψ g)=φ (h g)) (hn:∀g,h (A.neg g)=B.neg (h g)) (hv:∀g,B.add (B.add (B.ns s (h g)) (φ (h g))) (φ (φ (φ (h g))))=φ (φ (h g)))
  {P:G→Prop} (hP:∀Q,P Q→tot A s Q (ψ Q) (ψ (ψ Q))=A.neg (ψ (ψ (ψ Q)))):∀Q,P Q→(fin C3 s ψ Q).2=B.add (fin C1 s ψ Q).2 (fin C2 s ψ Q).2 :=
 fun Q q=>(Xw C1 C2 C3 hh hψ hn (hv Q) (hP Q q)).symm
end
theorem aSP (P:C1) (g k:C2):vg.add (vg.add (vg.ns sN (CV P g k)) (fv (CV P g k))) (fv (fv (fv (CV P g k))))=fv (fv (CV P g k)):=aED (bAm P g k)
theorem aSJ (P P':C1) (g:C2):vg.add (vg.add (vg.ns sN (HV P P' g)) (fv (HV P P' g))) (fv (fv (fv (HV P P' g))))=fv (fv (HV P P' g)):=aED (bAj P P' g)
theorem aXb (P:C1) {Q Q':C2} (h:sD Q) (h':sD Q'):UR P (bC.grp.add Q Q')=vg.add (UR P Q) (UR P Q') :=
 aRf (Yg P) aIL (aSQ P) (aSP P) (P:=sD) (fun Q=>aDV) Q Q' h h'
theorem aXc (P P':C1) {Q:C2} (h:sD Q):UR (SO.grp.add P P') Q=vg.add (UR P Q) (UR P' Q) :=
 aRg (Yg P) (Yg P') (Yg (SO.grp.add P P')) (h:=HV P P') (aSM P P') (aSK P P') (aSL P P') (aSJ P P') (P:=sD) (fun Q=>aDV) Q h
theorem aSl {Q:C2} (h:sD Q):UR SO.grp.zero Q=vg.zero:=by
 have e:=aXc SO.grp.zero SO.grp.zero h;rw[SO.grp.zadd]at e;apply vg.cancel (a:=UR SO.grp.zero Q);rw[←e,vg.addz]
theorem Lp:sD bC.grp.zero:=bC.grp.ns_zero pC
theorem aSk (P:C1):UR P bC.grp.zero=vg.zero:=by
 have e:=aXb P Lp Lp;rw[bC.grp.zadd]at e;apply vg.cancel (a:=UR P bC.grp.zero);rw[←e,vg.addz]
structure Walks (f:aV) (p:J2) (T:C2) (F:Vq):Prop where
 ne:f≠aD.zero
 val:lv f=F
 tells:iA F2 dW p=T.1
 fin:T.1≠none
theorem Walks.z {f:aV} {p:J2} {T:C2} {F:Vq} (w:Walks f p T F):p.2.2≠F2.zero:=fun e=>w.fin (by rw[←w.tells]; exact dP e)
theorem Walks.on {f:aV} {p:J2} {T:C2} {F:Vq} (w:Walks f p T F):On F2 dE (iA F2 dW p):=by rw[w.tells]; exact T.2
theorem RP {a b:aV} (ha:a≠aD.zero) (hb:b≠aD.zero):lv (aD.mul a b)=vg.add (lv a) (lv b):=Subtype.ext (by
 rw[lX,dD ha,dD hb,dD (nY ha hb),dL ha hb])
theorem Walks.sq {f:aV} {p:J2} {T:C2} {F:Vq} (w:Walks f p T F):Walks (aD.mul f f) p T (vg.add F F):=⟨nY w.ne w.ne,by rw[RP w.ne w.ne,w.val],w.tells,w.fin⟩
def xK (p:J2) (a:Fq×Fq):aV:=Yz (tF p.1 p.2.1 p.2.2) (tS p.1 p.2.1 p.2.2) (tH p.1 p.2.1 p.2.2) a
def tL (p:J2) (q:Q2×Q2) (a:Fq×Fq):aV:=Yz (Za p.1 p.2.2 q.1) (tM p.2.1 p.2.2 q.2) (F2.sub (F2.mul (tM p.2.1 p.2.2 q.2) q.1) (F2.mul (Za p.1 p.2.2 q.1) q.2)) a
def iL (p:J2) (q:Q2×Q2):J2:=(sX F2 p.1 (rW p.1 p.2.2 q.1) (tM p.2.1 p.2.2 q.2),sY F2 p.1 p.2.1 (rW p.1 p.2.2 q.1) (tM p.2.1 p.2.2 q.2),F2.mul p.2.2 (rW p.1 p.2.2 q.1))
theorem aDO (p:J2) (q:Q2×Q2):DN F2 p (q.1,q.2,F2.one)=iL p q:=by
 unfold DN iL vC NW EL CS rW tM;simp only[F2.mul_one]
theorem aXo {P:C1} {a:Fq×Fq} (h:P.1=some a) (T T':C2):CV P T T'=cv a T.1 T'.1:=by
 unfold CV;rw[h,jK]
theorem Walks.tan {P:C1} {a:Fq×Fq} (h:P.1=some a) {f:aV} {p:J2} {T:C2} {F:Vq} (w:Walks f p T F) (h2:(bC.grp.add T T).1≠none):Walks (aD.mul f (xK p a)) (cN F2 p) (bC.grp.add T T) (vg.add F (CV P T T)):=by
 have ha:On F1 (fm 3) (some a):=by rw[←h]; exact P.2
 have t:xK p a≠aD.zero∧lv (xK p a)=cv a (iA F2 dW p) (iA F2 dW p):=aNZ ha (x:=p.1) (y:=p.2.1) (z:=p.2.2) w.z w.on;refine⟨nY w.ne t.1,?_,?_,h2⟩
 ·rw[aXo h,←w.tells];rw[RP w.ne t.1,w.val,t.2]
 ·rw[RU bC w.on,w.tells,nK]
theorem aOz {x y x' y':Q2} (h:On F2 dE (some (x,y))) (h':On F2 dE (some (x',y'))) (e:x=x'):(x',y')=(x,y)∨(x',y')=(x,F2.neg y):=by
 subst e
 by_cases hy:y=y'
 ·exact Or.inl (by rw[hy])
 ·refine Or.inr (Prod.ext rfl ?_);have h1:F2.mul y y=F2.add (F2.mul x (F2.mul x x)) dE:=h;have h2:F2.mul y' y'=F2.add (F2.mul x (F2.mul x x)) dE:=h';have s:=FN bC (h1.trans h2.symm) hy;apply F2.add_cancel (a:=y);show F2.add y y'=F2.add y (F2.neg y);rw[s,F2.add_neg]
theorem Walks.cho {P:C1} {a:Fq×Fq} (h:P.1=some a) {f:aV} {p:J2} {T Q:C2} {q:Q2×Q2} (hq:Q.1=some q) {F:Vq} (w:Walks f p T F) (h1:T≠Q) (h2:(bC.grp.add T Q).1≠none) :
  Walks (aD.mul f (tL p q a)) (iL p q) (bC.grp.add T Q) (vg.add F (CV P T Q)):=by
 have ha:On F1 (fm 3) (some a):=by rw[←h]; exact P.2
 have hqo:On F2 dE (some (q.1,q.2)):=by have:=Q.2; rw[hq]at this; exact this
 have hA:rW p.1 p.2.2 q.1≠F2.zero:=fun e=>by
  have ej:=eC (K:=F2) (inv:=dW) (p:=p) w.z;have hi:F2.mul p.2.2 (dW p.2.2)=F2.one:=bC.F.inv p.2.2 w.z;rw[w.tells]at ej;have ho:=T.2;rw[ej]at ho;have ex:q.1=F2.mul p.1 (F2.mul (dW p.2.2) (dW p.2.2)):=by
   have e1:F2.mul q.1 (F2.mul p.2.2 p.2.2)=p.1:=jG e;rw[←e1];have e2:=aMS (x:=q.1) (z:=dW p.2.2) (i:=p.2.2) (by rw[F2.mul_comm]; exact hi);exact e2.symm
  rcases aOz ho hqo ex.symm with s|s
  ·exact h1 (Subtype.ext (by rw[ej,hq]; exact congrArg some s.symm))
  ·refine h2 ?_;rw[nK,ej,hq];refine kW ⟨?_,?_⟩
   ·exact (congrArg Prod.fst s).symm
   ·show F2.add _ q.2=F2.zero;rw[show q.2=_ from congrArg Prod.snd s];exact F2.add_neg _
 have t:tL p q a≠aD.zero∧lv (tL p q a)=cv a (iA F2 dW p) (some q):=aRT ha (x:=p.1) (y:=p.2.1) (z:=p.2.2) (u:=q.1) (v:=q.2) w.z w.on hqo hA;refine⟨nY w.ne t.1,?_,?_,h2⟩
 ·rw[aXo h,←w.tells,hq];rw[RP w.ne t.1,w.val,t.2]
 ·have o:=bC.jto_one q.1 q.2;have j:=Pr bC (p:=p) (q:=(q.1,q.2,F2.one)) w.on (by rw[o]; exact hqo) w.z bC.F.ne (fun k=>hA (by
   have k1:=k.1;unfold vC EL at k1;simp only[F2.mul_one]at k1;exact k1))
  rw[aDO,o,w.tells]at j;rw[nK,hq];exact j
theorem aIN:∀q,q∈[pC]→eJ q:=fun q hq=>by
 have e:q=pC:=by simpa using hq
 rw[e];exact aLN
theorem Nf:0<pC:=of_decide_eq_true (by kernel_rfl)
theorem aPN {Q:C2} (h:sD Q) (m:Nat):bC.grp.ns m Q=bC.grp.ns (m%pC) Q:=by
 conv=>lhs; rw[←Nat.mod_add_div m pC]
 rw[bC.grp.ns_add,bC.grp.ns_mul,show bC.grp.ns pC Q=bC.grp.zero from h,bC.grp.ns_zero,bC.grp.addz]
theorem Im (Q:C2):bC.grp.ns 1 Q=Q:=bC.grp.zadd Q
theorem aCg:pC/pC=1:=Nat.div_self Nf
theorem aDb {Q:C2} (h:sD Q) (h0:Q≠bC.grp.zero) {m:Nat} (hm:m%pC≠0):bC.grp.ns m Q≠bC.grp.zero:=by
 rw[aPN h];refine bC.grp.exact (N:=pC) (l:=[pC]) (Nat.mul_one pC) aIN h (fun q hq => ?_) _ (Nat.pos_of_ne_zero hm) (Nat.mod_lt _ Nf);have e:q=pC:=by simpa using hq
 rw[e,aCg,Im];exact h0
def okc (m k:Nat):Bool:=decide ((m+k)%pC≠0)&&decide ((m+k*(pC-1))%pC≠0)
theorem QQ {T:C2} (h:T≠bC.grp.zero):T.1≠none:=fun e=>h (Subtype.ext e)
theorem aJt {Q:C2} (h:sD Q) (h0:Q≠bC.grp.zero) {m k:Nat} (o:okc m k=true):(bC.grp.add (bC.grp.ns m Q) (bC.grp.ns k Q)).1≠none:=by
 rw[←bC.grp.ns_add];unfold okc at o;rw[Bool.and_eq_true]at o;exact QQ (aDb h h0 (of_decide_eq_true o.1))
theorem aPs:1+(pC-1)=pC:=by kernel_rfl
theorem Ow {Q:C2} (h:sD Q):bC.grp.ns (pC-1) Q=bC.grp.neg Q:=by
 apply bC.grp.cancel (a:=Q);rw[bC.grp.addn]
 conv=>lhs; rw[←Im Q]
 rw[Im Q];have e:=bC.grp.ns_add 1 Q (pC-1);rw[aPs,Im,show bC.grp.ns pC Q=bC.grp.zero from h]at e;exact e.symm
theorem aPz {Q:C2} (h:sD Q) (h0:Q≠bC.grp.zero) {m k:Nat} (o:okc m k=true):bC.grp.ns m Q≠bC.grp.ns k Q:=fun e=>by
 unfold okc at o;rw[Bool.and_eq_true]at o;refine aDb h h0 (of_decide_eq_true o.2) ?_;rw[bC.grp.ns_add,e,bC.grp.ns_mul,Ow (Jh h k),bC.grp.addn]
theorem Walks.cho_n {P:C1} {a:Fq×Fq} (h:P.1=some a) {f:aV} {p:J2} {Q R:C2} {q:Q2×Q2} {F:Vq} (hG:sD Q) (h0:Q≠bC.grp.zero) {m k:Nat} (hk:bC.grp.ns k Q=R) (hq:R.1=some q)
  (w:Walks f p (bC.grp.ns m Q) F) (o:okc m k=true):Walks (aD.mul f (tL p q a)) (iL p q) (bC.grp.add (bC.grp.ns m Q) R) (vg.add F (CV P (bC.grp.ns m Q) R)):=by
 subst hk;exact w.cho h hq (aPz hG h0 o) (aJt hG h0 o)
def mst (a:Fq×Fq) (q:Q2×Q2) (d:Int) (s:aV×J2):aV×J2 :=
 if d=1 then (aD.mul (aD.mul (aD.mul s.1 s.1) (xK s.2 a)) (tL (cN F2 s.2) q a),iL (cN F2 s.2) q)
 else if d = -1 then (aD.mul (aD.mul (aD.mul s.1 s.1) (xK s.2 a)) (tL (cN F2 s.2) (q.1,F2.neg q.2) a),iL (cN F2 s.2) (q.1,F2.neg q.2))
 else (aD.mul (aD.mul s.1 s.1) (xK s.2 a),cN F2 s.2)
def DM (a:Fq×Fq) (q:Q2×Q2):List Int→aV×J2→aV×J2
 | [],s=>s
 | d::ds,s=>DM a q ds (mst a q d s)
def nxt (d:Int) (m:Nat):Nat:=if d=1 then m+m+1 else if d = -1 then m+m+(pC-1)else m+m
def Ls (d:Int) (m:Nat):Bool:=decide ((m+m)%pC≠0)&&(if d=1 then okc (m+m) 1 else if d = -1 then okc (m+m) (pC-1)else true)
def aGL:List Int→Nat→Bool
 | [],_=>true
 | d::ds,m=>Ls d m&&aGL ds (nxt d m)
def aDd:List Int→Nat→Nat
 | [],m=>m
 | d::ds,m=>aDd ds (nxt d m)
theorem aPS {P:C1} {a:Fq×Fq} (h:P.1=some a) {Q:C2} {q:Q2×Q2} (hq:Q.1=some q) (hG:sD Q) (h0:Q≠bC.grp.zero) {d:Int} {m:Nat} {s:aV×J2} {F:Vq} (w:Walks s.1 s.2 (bC.grp.ns m Q) F) (o:Ls d m=true) :
  Walks (mst a q d s).1 (mst a q d s).2 (bC.grp.ns (nxt d m) Q) (stF bC.grp vg (CV P) Q d F (bC.grp.ns m Q))∧Yv bC.grp Q d (bC.grp.ns m Q)=bC.grp.ns (nxt d m) Q:=by
 unfold Ls at o;rw[Bool.and_eq_true]at o;have hd:bC.grp.add (bC.grp.ns m Q) (bC.grp.ns m Q)=bC.grp.ns (m+m) Q:=(bC.grp.ns_add m Q m).symm;have w2:=w.sq.tan h (by rw[hd]; exact QQ (aDb hG h0 (of_decide_eq_true o.1)));rw[hd]at w2;unfold mst nxt stF Yv
 by_cases h1:d=1
 ·simp only[if_pos h1]at o ⊢;have w3:=w2.cho_n h hG h0 (Im Q) hq o.2;rw[hd];have e:bC.grp.ns (m+m+1) Q=bC.grp.add (bC.grp.ns (m+m) Q) Q:=rfl;rw[e];exact⟨w3,rfl⟩
 ·simp only[if_neg h1]at o ⊢
  by_cases h2:d = -1
  ·simp only[if_pos h2]at o ⊢;have hq':(bC.grp.neg Q).1=some (q.1,F2.neg q.2):=by
    show MG F2 Q.1=_;rw[hq];rfl
   have w3:=w2.cho_n h hG h0 (Ow hG) hq' o.2;rw[hd];have e:bC.grp.ns (m+m+(pC-1)) Q=bC.grp.add (bC.grp.ns (m+m) Q) (bC.grp.neg Q):=by rw[bC.grp.ns_add,Ow hG]
   rw[e];exact⟨w3,rfl⟩
  ·simp only[if_neg h2]at o ⊢;exact⟨w2,hd⟩
theorem Pb {P:C1} {a:Fq×Fq} (h:P.1=some a) {Q:C2} {q:Q2×Q2} (hq:Q.1=some q) (hG:sD Q) (h0:Q≠bC.grp.zero):∀(ds:List Int) (m:Nat) (s:aV×J2) (F:Vq),Walks s.1 s.2 (bC.grp.ns m Q) F→aGL ds m=true →
  Walks (DM a q ds s).1 (DM a q ds s).2 (bC.grp.ns (aDd ds m) Q) (aBi bC.grp vg (CV P) Q ds F (bC.grp.ns m Q))∧AA bC.grp Q ds (bC.grp.ns m Q)=bC.grp.ns (aDd ds m) Q
 | [],m,s,F,w,_=>⟨w,rfl⟩
 | d::ds,m,s,F,w,o=>by
  have o:(Ls d m&&aGL ds (nxt d m))=true:=o;rw[Bool.and_eq_true]at o;have r:=aPS h hq hG h0 w o.1;have r2:=Pb h hq hG h0 ds (nxt d m) (mst a q d s) _ r.1 o.2;show Walks (DM a q ds (mst a q d s)).1 (DM a q ds (mst a q d s)).2 (bC.grp.ns (aDd ds (nxt d m)) Q) (aBi bC.grp vg (CV P) Q ds (stF bC.grp vg (CV P) Q d F (bC.grp.ns m Q)) (Yv bC.grp Q d (bC.grp.ns m Q)))∧AA bC.grp Q ds (Yv bC.grp Q d (bC.grp.ns m Q))=_;rw[r.2];exact r2
def uU:List Int:=[0,-1,0,1,0,0,0,-1,0,-1,0,0,0,-1,0,1,0,-1,0,0,-1,0,0,0,0,0,1,0,0,-1,0,1,0,0,-1,0,0,0,0,-1,0,1,0,0,0,-1,0,-1,0,0,1,0,0,0,-1,0,0,-1,0,1,0,1,0,0,0]
theorem aZX:hdg uU 1=(sN:Int):=by kernel_rfl
theorem aRv:aGL uU 1=true:=by kernel_rfl
def aEU:Nat:=aDd uU 1
theorem aWz:okc aEU cH=true:=by kernel_rfl
theorem aWy:okc (aEU+cH) (cH*cH*(pC-1))=true:=by kernel_rfl
def iH (q:Q2×Q2):Q2×Q2:=(F2.mul (aL q.1) jQ,F2.mul (aL q.2) nJ)
def NK (q:Q2×Q2):Q2×Q2:=(q.1,F2.neg q.2)
def mil (a:Fq×Fq) (q:Q2×Q2):aV :=
 aD.mul (aD.mul (DM a q uU (aD.one,(q.1,q.2,F2.one))).1 (tL (DM a q uU (aD.one,(q.1,q.2,F2.one))).2 (iH q) a)) (tL (iL (DM a q uU (aD.one,(q.1,q.2,F2.one))).2 (iH q)) (NK (iH (iH q))) a)
theorem aJN {P:C1} {a:Fq×Fq} (h:P.1=some a) {Q:C2} {q:Q2×Q2} (hq:Q.1=some q) (hG:sD Q):mil a q≠aD.zero∧lv (mil a q)=UR P Q:=by
 have h0:Q≠bC.grp.zero:=fun e=>by rw[e]at hq; exact absurd (show (none:Pt Q2)=some q from hq) (by intro z; cases z)
 have w0:Walks aD.one (q.1,q.2,F2.one) (bC.grp.ns 1 Q) vg.zero:=by
  rw[Im];exact⟨jJ.1,AY ⟨jJ.1,yN⟩,by rw[hq]; exact bC.jto_one q.1 q.2,QQ h0⟩
 have r:=Pb h hq hG h0 uU 1 (aD.one,(q.1,q.2,F2.one)) vg.zero w0 aRv;rw[Im]at r;unfold mil;generalize DM a q uU (aD.one,(q.1,q.2,F2.one))=s at r ⊢;obtain⟨w,rT⟩:=r;have e1:(pA Q).1=some (iH q):=by
  show LL Q.1=_;rw[hq];rfl
 have e2:(bC.grp.neg (pA (pA Q))).1=some (NK (iH (iH q))):=by
  show MG F2 (LL (pA Q).1)=_;rw[e1];rfl
 have k1:bC.grp.ns cH Q=pA Q:=(IW Q).2 hG;have k2:bC.grp.ns (cH*cH*(pC-1)) Q=bC.grp.neg (pA (pA Q)):=by
  rw[bC.grp.ns_mul,Ow (Jh hG _),bC.grp.ns_mul,k1,←GI,k1]
 have w1:=w.cho_n h hG h0 k1 e1 aWz;have e3:bC.grp.add (bC.grp.ns aEU Q) (pA Q)=bC.grp.ns (aEU+cH) Q:=by rw[bC.grp.ns_add,k1]
 have w1':Walks _ _ (bC.grp.add (bC.grp.ns aEU Q) (pA Q)) _:=w1;rw[e3]at w1';have w2:=w1'.cho_n h hG h0 k2 e2 aWy;refine⟨w2.ne,?_⟩;rw[w2.val];have f:=congrArg Prod.snd (aHY (Yg P) Q aZX pA);unfold UR;rw[f,rT,←e3];rfl
theorem At.pos (a:At):0<a.sz:=by cases a<;>simp[At.sz]
theorem Rf (l:List At):dp l 0=some l:=by cases l<;>rfl
theorem aHf (l:List At):tk l 0=some []:=by cases l<;>rfl
theorem EN:∀(x y:List At) (m:Nat),dp (x++y) (cF x+m)=dp y m
 | [],y,m=>by show dp y (0+m)=_; rw[Nat.zero_add]
 | a::x,y,m=>by
  have h:=a.pos;have e:∀n,dp (a::(x++y)) n=(bif Nat.beq n 0 then some (a::(x++y))else bif Nat.ble a.sz n then dp (x++y) (n-a.sz)else none):=fun _=>rfl
  show dp (a::(x++y)) (a.sz+cF x+m)=_;rw[e];have e1:Nat.beq (a.sz+cF x+m) 0=false:=by cases hb:Nat.beq (a.sz+cF x+m) 0; rfl; have:=Nat.eq_of_beq_eq_true hb; omega
  have e2:Nat.ble a.sz (a.sz+cF x+m)=true:=Nat.ble_eq_true_of_le (by omega);rw[e1,e2,show a.sz+cF x+m-a.sz=cF x+m by omega];exact EN x y m
theorem Ly:∀(x y:List At) (m:Nat) (t:List At),tk y m=some t→tk (x++y) (cF x+m)=some (x++t)
 | [],y,m,t,h=>by show tk y (0+m)=_; rw[Nat.zero_add]; exact h
 | a::x,y,m,t,h=>by
  have hp:=a.pos;show tk (a::(x++y)) (a.sz+cF x+m)=_;unfold tk;have e1:Nat.beq (a.sz+cF x+m) 0=false:=by cases hb:Nat.beq (a.sz+cF x+m) 0; rfl; have:=Nat.eq_of_beq_eq_true hb; omega
  have e2:Nat.ble a.sz (a.sz+cF x+m)=true:=Nat.ble_eq_true_of_le (by omega);rw[e1,e2,show a.sz+cF x+m-a.sz=cF x+m by omega];show (tk (x++y) (cF x+m)).map (a :: ·)=_;rw[Ly x y m t h];rfl
theorem EO:∀(x y:List At) (n:Nat) (r:List At),dp x n=some r→dp (x++y) n=some (r++y)
 | [],y,n,r,h=>by
  unfold dp at h;cases hb:Nat.beq n 0<;>rw[hb]at h
  ·cases h
  ·cases h;rw[Nat.eq_of_beq_eq_true hb];exact Rf y
 | a::x,y,n,r,h=>by
  unfold dp at h;show dp (a::(x++y)) n=_;unfold dp;cases hb:Nat.beq n 0<;>rw[hb]at h
  ·cases hs:Nat.ble a.sz n<;>rw[hs]at h
   ·cases h
   ·exact EO x y _ r h
  ·cases h; rfl
theorem PJ:∀(x y:List At) (n:Nat) (t:List At),tk x n=some t→tk (x++y) n=some t
 | [],y,n,t,h=>by
  unfold tk at h;cases hb:Nat.beq n 0<;>rw[hb]at h
  ·cases h
  ·cases h;rw[Nat.eq_of_beq_eq_true hb];exact aHf y
 | a::x,y,n,t,h=>by
  unfold tk at h;show tk (a::(x++y)) n=_;unfold tk;cases hb:Nat.beq n 0<;>rw[hb]at h
  ·cases hs:Nat.ble a.sz n<;>rw[hs]at h
   ·cases h
   ·have h:(tk x (n-a.sz)).map (a :: ·)=some t:=h;cases hr:tk x (n-a.sz)with
    | none=>rw[hr]at h; cases h
    | some t' =>
     rw[hr]at h;show (tk (x++y) (n-a.sz)).map (a :: ·)=_;rw[PJ x y _ _ hr];exact h
  ·cases h; rfl
abbrev Wk:=(Fq×Fq)×(Q2×Q2)×J2
def wA (W:Wk):List At:=[.f W.1.1,.f W.1.2,.c (.bool false),.f W.2.1.1.1,.f W.2.1.1.2,.f W.2.1.2.1,.f W.2.1.2.2,.c (.bool false),.f W.2.2.1.1,.f W.2.2.1.2,.f W.2.2.2.1.1,.f W.2.2.2.1.2,.f W.2.2.2.2.1,.f W.2.2.2.2.2]
def rows:List Wk→List At
 | []=>[]
 | W::r=>wA W++rows r
theorem xS:∀(a b:List Wk),rows (a++b)=rows a++rows b
 | [],b=>rfl
 | W::a,b=>by show wA W++rows (a++b)=(wA W++rows a)++rows b; rw[xS a b,List.append_assoc]
theorem QG:∀Ws:List Wk,cF (rows Ws)=50*Ws.length
 | []=>rfl
 | W::r=>by
  show cF (wA W++rows r)=_;rw[rE,QG r,List.length_cons];show 50+_=_;omega
theorem Mj {Ws:List Wk} {j:Nat} {W:Wk} (h:Ws[j]?=some W):∃a b,Ws=a++W::b∧a.length=j:=by
 obtain⟨hlt,he⟩:=List.getElem?_eq_some_iff.1 h;exact⟨Ws.take j,Ws.drop (j+1),by rw[←he,List.getElem_cons_drop hlt,List.take_append_drop],by rw[List.length_take]; omega⟩
theorem gJ {Ws:List Wk} {j o n:Nat} {W:Wk} {s:List At} (h:Ws[j]?=some W) (hs:gS (wA W) o n=some s):gS (rows Ws) (50*j+o) n=some s:=by
 obtain⟨a,b,rfl,rfl⟩:=Mj h;rw[xS,←QG];show gS (rows a++(wA W++rows b)) _ n=_;unfold gS at hs ⊢;rw[EN];cases hd:dp (wA W) o with
 | none=>rw[hd]at hs; cases hs
 | some r =>
  rw[hd]at hs;rw[EO _ _ _ _ hd];exact PJ _ _ _ _ hs
theorem pL {Ws:List Wk} {j o:Nat} {W W':Wk} {v:List At} (h:Ws[j]?=some W) (hs:put (wA W) o v=some (wA W')):put (rows Ws) (50*j+o) v=some (rows (Ws.set j W')):=by
 obtain⟨a,b,rfl,rfl⟩:=Mj h;rw[xS,←QG];have e:(a++W::b).set a.length W'=a++W'::b:=by simp
 rw[e,xS];show put (rows a++(wA W++rows b)) _ v=some (rows a++(wA W'++rows b));unfold put at hs ⊢;cases ht:tk (wA W) o with
 | none=>rw[ht]at hs; cases hs
 | some t =>
  cases hd:dp (wA W) o with
  | none=>rw[ht,hd]at hs; cases hs
  | some r =>
   rw[ht,hd]at hs;simp only at hs;cases hr:dp r (cF v)with
   | none=>rw[hr]at hs; cases hs
   | some s =>
    rw[hr]at hs;rw[Ly _ _ _ _ (PJ _ (rows b) _ _ ht),EN,EO _ (rows b) _ _ hd];simp only;rw[EO _ (rows b) _ _ hr];simp only[Option.some.injEq]at hs ⊢;rw[←hs];simp only[List.append_assoc]
section
variable {R A Q S:Type} (K:CR R) (lfG:A→Q→Int→S→R) (npG:Q→Int→S→S) (ewG:A→Q→S→R)
def jW (d:Int):R→List (A×Q×S)→R
 | f,[]=>f
 | f,W::r=>jW d (K.mul f (lfG W.1 W.2.1 d W.2.2)) r
def stG (d:Int) (W:A×Q×S):A×Q×S:=(W.1,W.2.1,npG W.2.1 d W.2.2)
def mQ:List Int→R×List (A×Q×S)→R×List (A×Q×S)
 | [],s=>s
 | d::ds,s=>mQ ds (jW K lfG d (K.mul s.1 s.1) s.2,s.2.map (stG npG d))
def mM:R→List (A×Q×S)→R
 | f,[]=>f
 | f,W::r=>mM (K.mul f (ewG W.1 W.2.1 W.2.2)) r
def dZ:List R→R
 | []=>K.one
 | x::r=>K.mul x (dZ r)
def aDj (a:A) (q:Q) (d:Int) (s:R×S):R×S:=(K.mul (K.mul s.1 s.1) (lfG a q d s.2),npG q d s.2)
def yL (a:A) (q:Q):List Int→R×S→R×S
 | [],s=>s
 | d::ds,s=>yL a q ds (aDj K lfG npG a q d s)
def wG (x:(A×Q)×(R×S)):A×Q×S:=(x.1.1,x.1.2,x.2.2)
def sxG (d:Int) (x:(A×Q)×(R×S)):(A×Q)×(R×S):=(x.1,aDj K lfG npG x.1.1 x.1.2 d x.2)
theorem NS (d:Int):∀(l:List ((A×Q)×(R×S))) (f:R),jW K lfG d f (l.map wG)=K.mul f (dZ K (l.map fun x=>lfG x.1.1 x.1.2 d x.2.2))
 | [],f=>(K.mul_one f).symm
 | x::r,f=>by
  show jW K lfG d (K.mul f (lfG x.1.1 x.1.2 d x.2.2)) (r.map wG)=K.mul f (K.mul (lfG x.1.1 x.1.2 d x.2.2) _);rw[NS d r,K.mul_assoc]
theorem aIm (z y P L:R):K.mul (K.mul (K.mul z z) y) (K.mul (K.mul P P) L)=K.mul (K.mul (K.mul z P) (K.mul z P)) (K.mul y L) :=
 aE K (aW K [z,y,P,L]) (Z0*Z0*Z1*(Z2*Z2*Z3)) (Z0*Z2*(Z0*Z2)*(Z1*Z3)) (by kernel_rfl)
theorem aIn (a b c d:R):K.mul (K.mul a c) (K.mul b d)=K.mul (K.mul a b) (K.mul c d) :=
 aE K (aW K [a,b,c,d]) (Z0*Z2*(Z1*Z3)) (Z0*Z1*(Z2*Z3)) (by kernel_rfl)
theorem GJ (d:Int):∀l:List ((A×Q)×(R×S)),dZ K ((l.map (sxG K lfG npG d)).map fun x=>x.2.1)=K.mul (K.mul (dZ K (l.map fun x=>x.2.1)) (dZ K (l.map fun x=>x.2.1))) (dZ K (l.map fun x=>lfG x.1.1 x.1.2 d x.2.2))
 | []=>by show K.one=K.mul (K.mul K.one K.one) K.one; rw[K.mul_one,K.mul_one]
 | x::r=>by
  show K.mul (K.mul (K.mul x.2.1 x.2.1) (lfG x.1.1 x.1.2 d x.2.2)) (dZ K ((r.map (sxG K lfG npG d)).map fun x=>x.2.1))=K.mul (K.mul (K.mul x.2.1 (dZ K (r.map fun x=>x.2.1))) (K.mul x.2.1 (dZ K (r.map fun x=>x.2.1)))) (K.mul (lfG x.1.1 x.1.2 d x.2.2) (dZ K (r.map fun x=>lfG x.1.1 x.1.2 d x.2.2)));rw[GJ d r];exact aIm K _ _ _ _
theorem Mi:∀(ds:List Int) (l:List ((A×Q)×(R×S))),mQ K lfG npG ds (dZ K (l.map fun x=>x.2.1),l.map wG)=(dZ K (l.map fun x=>(yL K lfG npG x.1.1 x.1.2 ds x.2).1),l.map fun x=>(x.1.1,x.1.2,(yL K lfG npG x.1.1 x.1.2 ds x.2).2))
 | [],l=>rfl
 | d::ds,l=>by
  show mQ K lfG npG ds (jW K lfG d (K.mul (dZ K (l.map fun x=>x.2.1)) (dZ K (l.map fun x=>x.2.1))) (l.map wG),(l.map wG).map (stG npG d))=_;have h:=Mi ds (l.map (sxG K lfG npG d));rw[GJ]at h;rw[NS];have e:(l.map wG).map (stG npG d)=(l.map (sxG K lfG npG d)).map wG:=by
   rw[List.map_map,List.map_map];rfl
  rw[e,h,List.map_map,List.map_map];rfl
theorem Ch:∀(l:List (A×Q×S)) (f:R),mM K ewG f l=K.mul f (dZ K (l.map fun W=>ewG W.1 W.2.1 W.2.2))
 | [],f=>(K.mul_one f).symm
 | W::r,f=>by
  show mM K ewG (K.mul f (ewG W.1 W.2.1 W.2.2)) r=K.mul f (K.mul (ewG W.1 W.2.1 W.2.2) _);rw[Ch r,K.mul_assoc]
theorem MJ {α:Type} (g h:α→R):∀l:List α,K.mul (dZ K (l.map g)) (dZ K (l.map h))=dZ K (l.map fun x=>K.mul (g x) (h x))
 | []=>K.one_mul _
 | x::r=>by
  show K.mul (K.mul (g x) (dZ K (r.map g))) (K.mul (h x) (dZ K (r.map h)))=K.mul (K.mul (g x) (h x)) _;rw[←MJ g h r];exact aIn K _ _ _ _
theorem MI {α:Type} (g:α→R) (hg:∀x,g x=K.one):∀l:List α,dZ K (l.map g)=K.one
 | []=>rfl
 | x::r=>by show K.mul (g x) (dZ K (r.map g))=_; rw[hg,MI g hg r,K.one_mul]
theorem aDs (ds:List Int) (st:Q→S) (l:List (A×Q)):mM K ewG (mQ K lfG npG ds (K.one,l.map fun x=>(x.1,x.2,st x.2))).1 (mQ K lfG npG ds (K.one,l.map fun x=>(x.1,x.2,st x.2))).2 =
  dZ K (l.map fun x=>K.mul (yL K lfG npG x.1 x.2 ds (K.one,st x.2)).1 (ewG x.1 x.2 (yL K lfG npG x.1 x.2 ds (K.one,st x.2)).2)):=by
 have h:=Mi K lfG npG ds (l.map fun x=>(x,(K.one,st x.2)));rw[List.map_map,MI K ((fun x:(A×Q)×(R×S)=>x.2.1) ∘ fun x=>(x,(K.one,st x.2))) (fun x=>rfl),List.map_map,List.map_map,List.map_map]at h;have e:l.map (wG ∘ fun x:A×Q=>(x,(K.one,st x.2)))=l.map fun x=>(x.1,x.2,st x.2):=rfl
 rw[e]at h;rw[h,Ch,List.map_map,MJ];rfl
end
def lf (a:Fq×Fq) (q:Q2×Q2) (d:Int) (p:J2):aV :=
 if d=1 then aD.mul (xK p a) (tL (cN F2 p) q a)else if d = -1 then aD.mul (xK p a) (tL (cN F2 p) (q.1,F2.neg q.2) a)else xK p a
def np (q:Q2×Q2) (d:Int) (p:J2):J2:=if d=1 then iL (cN F2 p) q else if d = -1 then iL (cN F2 p) (q.1,F2.neg q.2)else cN F2 p
def ew (a:Fq×Fq) (q:Q2×Q2) (p:J2):aV:=aD.mul (tL p (iH q) a) (tL (iL p (iH q)) (NK (iH (iH q))) a)
theorem aPT (a:Fq×Fq) (q:Q2×Q2) (d:Int) (s:aV×J2):mst a q d s=aDj aD lf np a q d s:=by
 unfold mst aDj lf np
 by_cases h1:d=1
 ·simp only[if_pos h1,aD.mul_assoc]
 ·by_cases h2:d = -1
  ·simp only[if_neg h1,if_pos h2,aD.mul_assoc]
  ·simp only[if_neg h1,if_neg h2]
theorem aDk (a:Fq×Fq) (q:Q2×Q2):∀(ds:List Int) (s:aV×J2),DM a q ds s=yL aD lf np a q ds s
 | [],s=>rfl
 | d::ds,s=>by
  show DM a q ds (mst a q d s)=yL aD lf np a q ds (aDj aD lf np a q d s);rw[aPT,aDk a q ds]
theorem aVl (a:Fq×Fq) (q:Q2×Q2):aD.mul (yL aD lf np a q uU (aD.one,(q.1,q.2,F2.one))).1 (ew a q (yL aD lf np a q uU (aD.one,(q.1,q.2,F2.one))).2)=mil a q:=by
 unfold mil;rw[←aDk];generalize DM a q uU (aD.one,(q.1,q.2,F2.one))=s;unfold ew;exact (aD.mul_assoc _ _ _).symm
def bW (x:(Fq×Fq)×(Q2×Q2)):Wk:=(x.1,x.2,(x.2.1,x.2.2,F2.one))
def yO (l:List ((Fq×Fq)×(Q2×Q2))):aV:=mM aD ew (mQ aD lf np uU (aD.one,l.map bW)).1 (mQ aD lf np uU (aD.one,l.map bW)).2
theorem Bf (l:List ((Fq×Fq)×(Q2×Q2))):yO l=dZ aD (l.map fun x=>mil x.1 x.2):=by
 refine (aDs aD lf np ew uU (fun q=>(q.1,q.2,F2.one)) l).trans (congrArg (dZ aD) (List.map_congr_left fun x _ => ?_));exact aVl x.1 x.2
def gFN:kI
 | [.v (.im (.int .i64 (.ofNat 1))),.v (.fl [a])]=>match vp a with
  | some (p,x)=>some (p,.many [.fl (e1 (F1.neg x)),.im (.int .i64 0)])
  | none=>none
 | _=>none
theorem aQR:∀cs pre r,gFN cs=some (pre,r)→aZ pre→∀(args:List Value) (w:World),bU w cs args→Good prog 138 r args w:=by
 intro cs pre r hg hp args w ha;unfold gFN at hg;split at hg
 ·rename_i a;split at hg
  ·rename_i p x hx;cases hg;obtain⟨n,e1,rfl,hn⟩:=UV hx hp
   match args,ha with
   | [t,v],ha =>
    have h0:t=.int .i64 1:=ha.1;have h1:v=.agg (aA [a]).toArray:=ha.2.1;rw[e1]at h1;subst h0; subst h1;have e:(0+FP.M-wv n)%FP.M=(F1.neg (m1 n)).1:=by
     show _=(0+FP.M-wv n%FP.M)%FP.M;rw[Nat.mod_eq_of_lt hn]
    refine (Qk 1 FP oV _ _ _ _ (cQ n) hn w).mono ?_
    rintro e' w' ⟨s0,s1,s2,s3,rfl,hs,hv,hb⟩
    have hv:aC s0 s1 s2 s3=(F1.neg (m1 n)).1:=hv.trans e;obtain⟨rfl,rfl,rfl,rfl⟩:=pW hs (CT (F1.neg (m1 n)).2) hv;exact⟨rfl,hb⟩
   | [],ha=>exact ha.elim
   | [_],ha=>exact ha.2.elim
   | _::_::_::_,ha=>exact ha.2.2.elim
  ·cases hg
 ·cases hg
def aQS:kI
 | [.v (.im (.int .i64 (.ofNat 1))),.s l n m,.s l' n' m']=>bif Nat.beq n n'&&Nat.ble n 6 then (match ZZ n l,ZZ n' l' with
  | some x,some y=>some ([],.many [.fl (e1 (rJ x y)),.im (.int .i64 0)])
  | _,_=>none)else none
 | _=>none
theorem aKs:∀cs pre r,aQS cs=some (pre,r)→aZ pre→∀(args:List Value) (w:World),bU w cs args→Good prog 105 r args w:=by
 intro cs pre r hg hp args w ha;unfold aQS at hg;split at hg
 ·rename_i l n m l' n' m';cases hb:(Nat.beq n n'&&Nat.ble n 6)<;>rw[hb]at hg
  ·cases hg
  ·simp only[cond_true]at hg;split at hg
   ·rename_i x y hx hy;cases hg;rw[Bool.and_eq_true]at hb;cases Nat.eq_of_beq_eq_true hb.1;have h6:=Nat.le_of_ble_eq_true hb.2
    match args,ha with
    | [t,v,u],ha =>
     have h0:t=.int .i64 1:=ha.1;subst h0;obtain⟨_,⟨b,o,rfl,h1,h2⟩,⟨b',o',rfl,h3,h4⟩,_⟩:=ha;have l1:=(uA hx).1;have l2:=(uA hy).1;refine (Qq 1 FP oV _ _ n m n m' (lw x) (lw y) rfl (by omega) (fun k hk=>by rw[NO]; exact Fin.isLt _) (fun k hk=>by rw[NO]; exact Fin.isLt _) w (RO hx h6 h1 h2) (RO hy h6 h3 h4)).mono ?_
     rintro e' w' ⟨s0,s1,s2,s3,rfl,hs,hv,hb⟩
     have hv:aC s0 s1 s2 s3=(rJ x y).1:=by rw[hv,Ck x y (by omega),l1]
     obtain⟨rfl,rfl,rfl,rfl⟩:=pW hs (CT (rJ x y).2) hv;exact⟨rfl,hb⟩
    | [],ha=>exact ha.elim
    | [_],ha=>exact ha.2.elim
    | [_,_],ha=>exact ha.2.2.elim
    | _::_::_::_::_,ha=>exact ha.2.2.2.elim
   ·cases hg
 ·cases hg
theorem aNq (x:Q2):F2.sub F2.zero x=F2.neg x:=F2.zero_add _
theorem Zl (y:N2):xE 66 [.v (.fl (q2 y))]=some ([],.one (.fl (e2 (F2.sub F2.zero (m2 y))))):=by kernel_rfl
def Ko:Tab:=xE.add 66 (g1 CD fun y=>([],.one (.fl (e2 (F2.neg y)))))
theorem Nm:TabOk prog Ko:=uE.add func66 (by kernel_rfl) (by kernel_rfl) (mG (op:=fun y=>([],.one (.fl (e2 (F2.neg y))))) eE fun y hp args w ha=>by
 have h:=(uE _ _ _ _ (Zl y) trivial).2 args w ha;rw[aNq]at h;exact h)
theorem aAD (x:N2):bP prog Ko qN (fun _=>true) f103 40 [.v (.fl (q2 x))]=some ([],.one (.fl (e2 (F2.mul (m2 x) dM)))):=by kernel_rfl
def aNj:Tab:=Ko.add 103 (g1 CD fun x=>([],.one (.fl (e2 (F2.mul x dM)))))
theorem aPE:TabOk prog aNj:=Nm.add func103 (by kernel_rfl) (by kernel_rfl) (mG eE fun x hp args w ha=>aI aG Nm aO func103 (aAD x) hp ha)
theorem Tt (x:vJ):bP prog (eO true) qN (fun _=>true) f30 40 [.v (.fl (vZ x))]=some ([],.one (.fl (aQ (aD.mul (hJ x) (hJ x))))):=by kernel_rfl
def aNk:Tab:=aNj.add 30 (g1 Eh fun x=>([],.one (.fl (aQ (aD.mul x x)))))
theorem aPF:TabOk prog aNk:=aPE.add func30 (by kernel_rfl) (by kernel_rfl) (mG xO fun x hp args w ha=>aI aG (dS true) aO func30 (Tt x) hp ha)
def aGe:Tab:=(aNk.add 138 gFN).add 105 aQS
theorem aCv:TabOk prog aGe:=(aPF.add func138 (by kernel_rfl) (by kernel_rfl) aQR).add func105 (by kernel_rfl) (by kernel_rfl) aKs
def wq (T:Tab):Nat→Cfg:=fun _=>⟨fun _=>T,fun _=>true,fun _=>none⟩
theorem PZ (x:Q2):aU prog (qG prog) (wq aGe) f107 40 [.v (.fl (e2 x))]=some ([],.one (.fl (e2 (F2.mul x x)))):=by kernel_rfl
def aSz:Tab:=aGe.add 107 (g1 LK fun x=>([],.one (.fl (e2 (F2.mul x x)))))
theorem aLW:TabOk prog aSz:=aCv.add func107 (by kernel_rfl) (by kernel_rfl) (bJ gE fun x hp args w ha=>aB aG (fun _ _=>aCv) (aJ _) func107 (PZ x) trivial ha)
theorem QA (x:Q2):aU prog (qG prog) (wq aSz) f108 40 [.v (.fl (e2 x))]=some ([],.one (.fl (e2 (F2.add x x)))):=by kernel_rfl
def aSy:Tab:=aSz.add 108 (g1 LK fun x=>([],.one (.fl (e2 (F2.add x x)))))
theorem aLV:TabOk prog aSy:=aLW.add func108 (by kernel_rfl) (by kernel_rfl) (bJ gE fun x hp args w ha=>aB aG (fun _ _=>aLW) (aJ _) func108 (QA x) trivial ha)
theorem PY (x:Q2):aU prog (qG prog) (wq aSy) f106 40 [.v (.fl (e2 x))]=some ([],.one (.fl (e2 (F2.add (F2.add x x) x)))):=by kernel_rfl
def aSx:Tab:=aSy.add 106 (g1 LK fun x=>([],.one (.fl (e2 (F2.add (F2.add x x) x)))))
theorem aLU:TabOk prog aSx:=aLV.add func106 (by kernel_rfl) (by kernel_rfl) (bJ gE fun x hp args w ha=>aB aG (fun _ _=>aLV) (aJ _) func106 (PY x) trivial ha)
theorem VX (x:Q2) (k:Fq):aU prog (qG prog) (wq aSx) f144 40 [.v (.fl (e2 x)),.v (.fl (e1 k))]=some ([],.one (.fl (e2 (qH x k)))):=by kernel_rfl
def aLr:Tab:=aSx.add 144 (g2 LK Mp fun x k=>([],.one (.fl (e2 (qH x k)))))
theorem aCu:TabOk prog aLr:=aLU.add func144 (by kernel_rfl) (by kernel_rfl) (fS gE lY fun x k hp args w ha=>aB aG (fun _ _=>aLU) (aJ _) func144 (VX x k) trivial ha)
def oZ (x:aV):List At:=[.f x.1.1.1,.f x.1.1.2,.f x.2.1.1,.f x.2.1.2,.f x.1.2.1.1,.f x.1.2.1.2,.f x.2.2.1.1,.f x.2.2.1.2,.f x.1.2.2.1,.f x.1.2.2.2,.f x.2.2.2.1,.f x.2.2.2.2]
def aIt:List At→Option aV|[.f a,.f b,.f c,.f d,.f e,.f f,.f g,.f h,.f i,.f j,.f k,.f l]=>some (((a,b),(e,f),(i,j)),((c,d),(g,h),(k,l)))|_=>none
theorem Mm:Rd aIt oZ:=fun l x h=>by unfold aIt at h; split at h<;>cases h; rfl
theorem aHC (x:aV):aU prog (qG prog) (wq aLr) f32 60 [.v (.fl (aQ x))]=some ([],.one (.fl (oZ x))):=by kernel_rfl
theorem aAE (x:aV):aU prog (qG prog) (wq aLr) f33 60 [.v (.fl (oZ x))]=some ([],.one (.fl (aQ x))):=by kernel_rfl
def aNi:Tab:=aLr.add 32 (g1 qO fun x=>([],.one (.fl (oZ x))))
theorem aPD:TabOk prog aNi:=aCu.add func32 (by kernel_rfl) (by kernel_rfl) (bJ eW fun x hp args w ha=>aB aG (fun _ _=>aCu) (aJ _) func32 (aHC x) trivial ha)
def aLq:Tab:=aNi.add 33 (g1 aIt fun x=>([],.one (.fl (aQ x))))
theorem aCs:TabOk prog aLq:=aPD.add func33 (by kernel_rfl) (by kernel_rfl) (bJ Mm fun x hp args w ha=>aB aG (fun _ _=>aCu) (aJ _) func33 (aAE x) trivial ha)
def EJ (l:Q6):aV:=((l.1,F2.zero,F2.zero),(l.2.1,l.2.2,F2.zero))
def lnR (F S H:Q2) (a:Fq×Fq):Q6:=(qH F a.2,qH S (F1.neg a.1),H)
theorem aAx (x:Q2) (k:Fq):qH x k=F2.mul x (i2 k):=by
 show (F1.mul x.1 k,F1.mul x.2 k)=(F1.add (F1.mul x.1 k) (F1.mul (F1.neg F1.one) (F1.mul x.2 F1.zero)),F1.add (F1.mul x.1 F1.zero) (F1.mul x.2 k));rw[F1.mul_zero,F1.mul_zero,F1.mul_zero,F1.add_zero,F1.zero_add]
theorem aMv (F S H:Q2) (a:Fq×Fq):EJ (lnR F S H a)=Yz F S H a:=by
 unfold EJ lnR Yz;rw[aAx,aAx]
def gTh:kI
 | [.v (.fl [.f a,.f b,.c _]),.v (.fl l1),.v (.fl l2),.v (.fl l3)]=>match LK l1,LK l2,LK l3 with
  | some F,some S,some H=>some ([],.one (.fl (e6 (lnR F S H (a,b)))))
  | _,_,_=>none
 | _=>none
theorem WB (a b:Fq) (v:Value) (F S H:Q2):aU prog (qG prog) (wq aLq) f110 60 [.v (.fl [.f a,.f b,.c v]),.v (.fl (e2 F)),.v (.fl (e2 S)),.v (.fl (e2 H))]=some ([],.one (.fl (e6 (lnR F S H (a,b))))):=by kernel_rfl
theorem aQA:∀cs pre r,gTh cs=some (pre,r)→aZ pre→∀(args:List Value) (w:World),bU w cs args→Good prog 110 r args w:=by
 intro cs pre r hg hp args w ha;unfold gTh at hg;split at hg
 ·rename_i a b v l1 l2 l3;split at hg
  ·rename_i F S H h1 h2 h3;cases hg;refine aB aG (fun _ _=>aCs) (aJ _) func110 (WB a b v F S H) trivial ?_
   match args,ha with
   | [w1,w2,w3,w4],ha =>
    refine⟨ha.1,?_,?_,?_,trivial⟩
    ·show w2=.agg (aA (e2 F)).toArray;rw[←gE _ _ h1]; exact ha.2.1
    ·show w3=.agg (aA (e2 S)).toArray;rw[←gE _ _ h2]; exact ha.2.2.1
    ·show w4=.agg (aA (e2 H)).toArray;rw[←gE _ _ h3]; exact ha.2.2.2.1
   | [],ha=>exact ha.elim
   | [_],ha=>exact ha.2.elim
   | [_,_],ha=>exact ha.2.2.elim
   | [_,_,_],ha=>exact ha.2.2.2.elim
   | _::_::_::_::_::_,ha=>exact ha.2.2.2.2.elim
  ·cases hg
 ·cases hg
def rwS (l:Q6):List Fq:=[l.1.1,F1.neg l.1.2,l.2.1.1,F1.neg l.2.1.2,l.2.2.1,F1.neg l.2.2.2]
def rwC (l:Q6):List Fq:=[l.1.2,l.1.1,l.2.1.2,l.2.1.1,l.2.2.2,l.2.2.1]
theorem Tu (l:Q6):aU prog (qG prog) (wq aLq) f104 80 [.v (.fl (e6 l))]=some ([],.many [.fl ((rwS l).map .f),.fl ((rwC l).map .f)]):=by kernel_rfl
def aNh:Tab:=aLq.add 110 gTh
theorem aPC:TabOk prog aNh:=aCs.add func110 (by kernel_rfl) (by kernel_rfl) aQA
def aSw:Tab:=aNh.add 104 (g1 Wc fun l=>([],.many [.fl ((rwS l).map .f),.fl ((rwC l).map .f)]))
theorem aLT:TabOk prog aSw:=aPC.add func104 (by kernel_rfl) (by kernel_rfl) (bJ nE fun l hp args w ha=>aB aG (fun _ _=>aCs) (aJ _) func104 (Tu l) trivial ha)
def rD (l:Q6) (c0 c1 c2:Q2):Q2:=(rJ (rwS l) [c0.1,c0.2,c1.1,c1.2,c2.1,c2.2],rJ (rwC l) [c0.1,c0.2,c1.1,c1.2,c2.1,c2.2])
def Dv (x:aV) (l:Q6):aV:=((rD l x.1.1 (F2.mul x.2.2.2 dM) (F2.mul x.2.2.1 dM),rD l x.1.2.1 x.2.1 (F2.mul x.2.2.2 dM),rD l x.1.2.2 x.2.2.1 x.2.1),(rD l x.2.1 x.1.1 (F2.mul x.1.2.2 dM),rD l x.2.2.1 x.1.2.1 x.1.1,rD l x.2.2.2 x.1.2.2 x.1.2.1))
theorem aUt (l:Q6) (c0 c1 c2:Q2):rD l c0 c1 c2=F2.add (F2.add (F2.mul l.1 c0) (F2.mul l.2.1 c1)) (F2.mul l.2.2 c2):=by
 refine Prod.ext ?_ ?_
 ·show F1.add (F1.add (F1.add (F1.add (F1.add (F1.mul l.1.1 c0.1) (F1.mul (F1.neg l.1.2) c0.2)) (F1.mul l.2.1.1 c1.1)) (F1.mul (F1.neg l.2.1.2) c1.2)) (F1.mul l.2.2.1 c2.1)) (F1.mul (F1.neg l.2.2.2) c2.2)=F1.add (F1.add (F1.add (F1.mul l.1.1 c0.1) (F1.mul (F1.neg F1.one) (F1.mul l.1.2 c0.2))) (F1.add (F1.mul l.2.1.1 c1.1) (F1.mul (F1.neg F1.one) (F1.mul l.2.1.2 c1.2)))) (F1.add (F1.mul l.2.2.1 c2.1) (F1.mul (F1.neg F1.one) (F1.mul l.2.2.2 c2.2)));exact aE F1 (aW F1 [l.1.1,l.1.2,l.2.1.1,l.2.1.2,l.2.2.1,l.2.2.2,c0.1,c0.2,c1.1,c1.2,c2.1,c2.2]) (Z0*Z6+(-Z1)*Z7+Z2*Z8+(-Z3)*Z9+Z4*Z10+(-Z5)*Z11) (Z0*Z6+(-RE.one)*(Z1*Z7)+(Z2*Z8+(-RE.one)*(Z3*Z9))+(Z4*Z10+(-RE.one)*(Z5*Z11))) (by kernel_rfl)
 ·show F1.add (F1.add (F1.add (F1.add (F1.add (F1.mul l.1.2 c0.1) (F1.mul l.1.1 c0.2)) (F1.mul l.2.1.2 c1.1)) (F1.mul l.2.1.1 c1.2)) (F1.mul l.2.2.2 c2.1)) (F1.mul l.2.2.1 c2.2)=F1.add (F1.add (F1.add (F1.mul l.1.1 c0.2) (F1.mul l.1.2 c0.1)) (F1.add (F1.mul l.2.1.1 c1.2) (F1.mul l.2.1.2 c1.1))) (F1.add (F1.mul l.2.2.1 c2.2) (F1.mul l.2.2.2 c2.1));exact aE F1 (aW F1 [l.1.1,l.1.2,l.2.1.1,l.2.1.2,l.2.2.1,l.2.2.2,c0.1,c0.2,c1.1,c1.2,c2.1,c2.2]) (Z1*Z6+Z0*Z7+Z3*Z8+Z2*Z9+Z5*Z10+Z4*Z11) (Z0*Z7+Z1*Z6+(Z2*Z9+Z3*Z8)+(Z4*Z11+Z5*Z10)) (by kernel_rfl)
section
variable {R:Type} (K:CR R)
theorem tz0 (x0 x1 x2 x3 x4 x5 l0 l1 l3 t:R):(K.add (K.add (K.mul l0 x0) (K.mul l1 (K.mul x5 t))) (K.mul l3 (K.mul x3 t)))=(K.add (K.add (K.mul x0 l0) (K.mul t (K.add (K.mul x2 K.zero) (K.mul x4 K.zero)))) (K.mul (K.add (K.add (K.mul x1 K.zero) (K.mul x3 l3)) (K.mul x5 l1)) t)) :=
 aE K (aW K [x0,x1,x2,x3,x4,x5,l0,l1,l3,t]) (Z6*Z0+Z7*(Z5*Z9)+Z8*(Z3*Z9)) (Z0*Z6+Z9*(Z2*RE.zero+Z4*RE.zero)+(Z1*RE.zero+Z3*Z8+Z5*Z7)*Z9) (by kernel_rfl)
theorem tz1 (x0 x1 x2 x3 x4 x5 l0 l1 l3 t:R):(K.add (K.add (K.mul l0 x2) (K.mul l1 x1)) (K.mul l3 (K.mul x5 t)))=(K.add (K.add (K.add (K.mul x0 K.zero) (K.mul x2 l0)) (K.mul t (K.mul x4 K.zero))) (K.add (K.mul x1 l1) (K.mul t (K.add (K.mul x3 K.zero) (K.mul x5 l3))))) :=
 aE K (aW K [x0,x1,x2,x3,x4,x5,l0,l1,l3,t]) (Z6*Z2+Z7*Z1+Z8*(Z5*Z9)) (Z0*RE.zero+Z2*Z6+Z9*(Z4*RE.zero)+(Z1*Z7+Z9*(Z3*RE.zero+Z5*Z8))) (by kernel_rfl)
theorem tz2 (x0 x1 x2 x3 x4 x5 l0 l1 l3 t:R):(K.add (K.add (K.mul l0 x4) (K.mul l1 x3)) (K.mul l3 x1))=(K.add (K.add (K.add (K.mul x0 K.zero) (K.mul x2 K.zero)) (K.mul x4 l0)) (K.add (K.add (K.mul x1 l3) (K.mul x3 l1)) (K.mul t (K.mul x5 K.zero)))) :=
 aE K (aW K [x0,x1,x2,x3,x4,x5,l0,l1,l3,t]) (Z6*Z4+Z7*Z3+Z8*Z1) (Z0*RE.zero+Z2*RE.zero+Z4*Z6+(Z1*Z8+Z3*Z7+Z9*(Z5*RE.zero))) (by kernel_rfl)
theorem tz3 (x0 x1 x2 x3 x4 x5 l0 l1 l3 t:R):(K.add (K.add (K.mul l0 x1) (K.mul l1 x0)) (K.mul l3 (K.mul x4 t)))=(K.add (K.add (K.mul x0 l1) (K.mul t (K.add (K.mul x2 K.zero) (K.mul x4 l3)))) (K.add (K.mul x1 l0) (K.mul t (K.add (K.mul x3 K.zero) (K.mul x5 K.zero))))) :=
 aE K (aW K [x0,x1,x2,x3,x4,x5,l0,l1,l3,t]) (Z6*Z1+Z7*Z0+Z8*(Z4*Z9)) (Z0*Z7+Z9*(Z2*RE.zero+Z4*Z8)+(Z1*Z6+Z9*(Z3*RE.zero+Z5*RE.zero))) (by kernel_rfl)
theorem tz4 (x0 x1 x2 x3 x4 x5 l0 l1 l3 t:R):(K.add (K.add (K.mul l0 x3) (K.mul l1 x2)) (K.mul l3 x0))=(K.add (K.add (K.add (K.mul x0 l3) (K.mul x2 l1)) (K.mul t (K.mul x4 K.zero))) (K.add (K.add (K.mul x1 K.zero) (K.mul x3 l0)) (K.mul t (K.mul x5 K.zero)))) :=
 aE K (aW K [x0,x1,x2,x3,x4,x5,l0,l1,l3,t]) (Z6*Z3+Z7*Z2+Z8*Z0) (Z0*Z8+Z2*Z7+Z9*(Z4*RE.zero)+(Z1*RE.zero+Z3*Z6+Z9*(Z5*RE.zero))) (by kernel_rfl)
theorem tz5 (x0 x1 x2 x3 x4 x5 l0 l1 l3 t:R):(K.add (K.add (K.mul l0 x5) (K.mul l1 x4)) (K.mul l3 x2))=(K.add (K.add (K.add (K.mul x0 K.zero) (K.mul x2 l3)) (K.mul x4 l1)) (K.add (K.add (K.mul x1 K.zero) (K.mul x3 K.zero)) (K.mul x5 l0))) :=
 aE K (aW K [x0,x1,x2,x3,x4,x5,l0,l1,l3,t]) (Z6*Z5+Z7*Z4+Z8*Z2) (Z0*RE.zero+Z2*Z8+Z4*Z7+(Z1*RE.zero+Z3*RE.zero+Z5*Z6)) (by kernel_rfl)
end
theorem aAf (x:aV) (l:Q6):Dv x l=aD.mul x (EJ l):=by
 obtain⟨⟨x0,x2,x4⟩,x1,x3,x5⟩:=x;obtain⟨l0,l1,l3⟩:=l;rw[oJ];unfold Dv EJ;dsimp only;simp only[aUt];rw[tz0 F2 x0 x1 x2 x3 x4 x5 l0 l1 l3 dM,tz1 F2 x0 x1 x2 x3 x4 x5 l0 l1 l3 dM,tz2 F2 x0 x1 x2 x3 x4 x5 l0 l1 l3 dM,tz3 F2 x0 x1 x2 x3 x4 x5 l0 l1 l3 dM,tz4 F2 x0 x1 x2 x3 x4 x5 l0 l1 l3 dM,tz5 F2 x0 x1 x2 x3 x4 x5 l0 l1 l3 dM]
theorem Ej (x:aV) (l:Q6):aU prog (qG prog) (wq aSw) f64 100 [.v (.fl (oZ x)),.v (.fl (e6 l))]=some ([],.one (.fl (oZ (Dv x l)))):=by kernel_rfl
def Kn:Tab:=aSw.add 64 (g2 aIt Wc fun x l=>([],.one (.fl (oZ (aD.mul x (EJ l))))))
theorem MP:TabOk prog Kn:=aLT.add func64 (by kernel_rfl) (by kernel_rfl) (fS Mm nE fun x l hp args w ha=>by
 have h:=aB aG (fun _ _=>aLT) (aJ _) func64 (Ej x l) trivial (args:=args) (w:=w) ha;rw[aAf]at h;exact h)
section
variable {R:Type} (K:CR R)
def aAa (x y:R):R:=K.sub (K.mul (K.add (K.add (K.mul x x) (K.mul x x)) (K.mul x x)) (K.add (K.add (K.mul x x) (K.mul x x)) (K.mul x x))) (K.add (K.add (K.mul x (K.add (K.mul y y) (K.mul y y))) (K.mul x (K.add (K.mul y y) (K.mul y y)))) (K.add (K.mul x (K.add (K.mul y y) (K.mul y y))) (K.mul x (K.add (K.mul y y) (K.mul y y)))))
def aHa (x y:R):R:=K.sub (K.mul (K.add (K.add (K.mul x x) (K.mul x x)) (K.mul x x)) (K.sub (K.add (K.mul x (K.add (K.mul y y) (K.mul y y))) (K.mul x (K.add (K.mul y y) (K.mul y y)))) (aAa K x y))) (K.add (K.mul (K.add (K.mul y y) (K.mul y y)) (K.add (K.mul y y) (K.mul y y))) (K.mul (K.add (K.mul y y) (K.mul y y)) (K.add (K.mul y y) (K.mul y y))))
theorem aGZ (x y z:R):(aAa K x y,aHa K x y,K.add (K.mul y z) (K.mul y z))=cN K (x,y,z):=by
 have e1:K.add (K.mul x (K.add (K.mul y y) (K.mul y y))) (K.mul x (K.add (K.mul y y) (K.mul y y)))=dBa K (x,y,z):=(K.mul_add _ _ _).symm;have e2:aAa K x y=dX K (x,y,z):=by
  unfold aAa;rw[e1];rfl
 unfold cN;refine Prod.ext e2 (Prod.ext ?_ (K.add_mul _ _ _).symm);show aHa K x y=dY K (x,y,z);have e3:∀t:R,K.add (K.mul t t) (K.mul t t)=K.mul (K.add t t) t:=fun t=>(K.add_mul _ _ _).symm
 unfold aHa;rw[e1,e2,e3 (K.add (K.mul y y) (K.mul y y))];rfl
end
def Lx (x y:Q2):Q2:=aAa F2 x y
def tnY (x y:Q2):Q2:=aHa F2 x y
def tnZ (y z:Q2):Q2:=F2.add (F2.mul y z) (F2.mul y z)
theorem aNP (x y z:Q2):(Lx x y,tnY x y,tnZ y z)=cN F2 (x,y,z):=aGZ F2 x y z
def tnL (x y z:Q2) (a:Fq×Fq):Q6:=lnR (tF x y z) (tS x y z) (tH x y z) a
def KT (a:Fq×Fq):List At:=[.f a.1,.f a.2,.c (.bool false)]
def kF (q:Q2×Q2):List At:=[.f q.1.1,.f q.1.2,.f q.2.1,.f q.2.2,.c (.bool false)]
def CZ (l:List (Nat×List At)):Nat→Option (List At):=assoc l
theorem aHD (b N o:Nat) (l L1 L2 L3:List At) (x y z:Q2) (a:Fq×Fq) :
  Jq prog (qPt prog (CZ [(16,e2 x),(21,e2 y),(26,e2 z),(42,KT a),(75,e2 (Lx x y))]) (CZ [(67,L1),(84,L2),(89,L3)]) Lm) (wq Kn) f65 60 b N o l [] =
   some ([gS l (o+26+0) 8=some (e2 x),gS l (o+26+8) 8=some (e2 y),gS l (o+26+16) 8=some (e2 z),gS l (o+0) 9=some (KT a),put l (o+26+0) (e2 (Lx x y))=some L1,gS L1 (o+26+0) 8=some (e2 (Lx x y)),put L1 (o+26+8) (e2 (tnY x y))=some L2,put L2 (o+26+16) (e2 (tnZ y z))=some L3],.one (.fl (e6 (tnL x y z a))),L3,b,N):=by kernel_rfl
theorem Tq (Ws:List Wk) (j:Nat) (a b:Wk):(Ws.set j a).set j b=Ws.set j b:=List.set_set _
theorem mV {Ws:List Wk} {j:Nat} {W:Wk} (h:Ws[j]?=some W) (V:Wk):(Ws.set j V)[j]?=some V:=by
 have:=(List.getElem?_eq_some_iff.1 h).1;simp[this]
theorem Tg {Ws:List Wk} {j:Nat} {W:Wk} (h:Ws[j]?=some W):DC prog 65 (rows Ws) (50*j) [] (.one (.fl (e6 (tnL W.2.2.1 W.2.2.2.1 W.2.2.2.2 W.1)))) (rows (Ws.set j (W.1,W.2.1,cN F2 W.2.2))):=by
 obtain⟨a,q,x,y,z⟩:=W;intro w b hO;rw[show cN F2 (x,y,z)=_ from (aNP x y z).symm];have p1:put (rows Ws) (50*j+(26+0)) (e2 (Lx x y))=some (rows (Ws.set j (a,q,Lx x y,y,z))):=pL h rfl;have p2:put (rows (Ws.set j (a,q,Lx x y,y,z))) (50*j+(26+8)) (e2 (tnY x y))=some (rows (Ws.set j (a,q,Lx x y,tnY x y,z))):=by
  have:=pL (o:=26+8) (v:=e2 (tnY x y)) (W':=(a,q,Lx x y,tnY x y,z)) (mV h (a,q,Lx x y,y,z)) rfl
  rwa [Tq]at this
 have p3:put (rows (Ws.set j (a,q,Lx x y,tnY x y,z))) (50*j+(26+16)) (e2 (tnZ y z))=some (rows (Ws.set j (a,q,Lx x y,tnY x y,tnZ y z))):=by
  have:=pL (o:=26+16) (v:=e2 (tnZ y z)) (W':=(a,q,Lx x y,tnY x y,tnZ y z)) (mV h (a,q,Lx x y,tnY x y,z)) rfl
  rwa [Tq]at this
 exact nL (ts:=[]) aG (fun _ _=>MP.w _ _) (oP (eV _) _ _) func65 (aHD b w.heap.size (50*j) _ _ _ _ x y z a)
  ⟨gJ (o:=26+0) h rfl,gJ (o:=26+8) h rfl,gJ (o:=26+16) h rfl,gJ (o:=0) h rfl,p1,gJ (o:=26+0) (mV h _) rfl,p2,p3,trivial⟩ hO
def chL (p:J2) (q:Q2×Q2) (a:Fq×Fq):Q6:=lnR (Za p.1 p.2.2 q.1) (tM p.2.1 p.2.2 q.2) (F2.sub (F2.mul (tM p.2.1 p.2.2 q.2) q.1) (F2.mul (Za p.1 p.2.2 q.1) q.2)) a
theorem aIa (b N o:Nat) (l L1 L2 L3:List At) (x y z u v:Q2) (a:Fq×Fq) :
  Jq prog (qPt prog (CZ [(20,e2 x),(25,e2 y),(30,e2 z),(53,KT a),(92,e2 (sX F2 x (rW x z u) (tM y z v)))]) (CZ [(84,L1),(101,L2),(106,L3)]) Lm) (wq Kn) f67 60 b N o l [.fl (kF (u,v))] =
   some ([gS l (o+26+0) 8=some (e2 x),gS l (o+26+8) 8=some (e2 y),gS l (o+26+16) 8=some (e2 z),gS l (o+0) 9=some (KT a),put l (o+26+0) (e2 (sX F2 x (rW x z u) (tM y z v)))=some L1,gS L1 (o+26+0) 8=some (e2 (sX F2 x (rW x z u) (tM y z v))),put L1 (o+26+8) (e2 (sY F2 x y (rW x z u) (tM y z v)))=some L2,put L2 (o+26+16) (e2 (F2.mul z (rW x z u)))=some L3],.one (.fl (e6 (chL (x,y,z) (u,v) a))),L3,b,N):=by kernel_rfl
theorem OM {Ws:List Wk} {j:Nat} {W:Wk} (h:Ws[j]?=some W) (q':Q2×Q2):DC prog 67 (rows Ws) (50*j) [.agg (aA (kF q')).toArray] (.one (.fl (e6 (chL W.2.2 q' W.1)))) (rows (Ws.set j (W.1,W.2.1,iL W.2.2 q'))):=by
 obtain⟨a,q,x,y,z⟩:=W;obtain⟨u,v⟩:=q';intro w b hO;show Calls _ _ _ _ (Wr b w _ (rows (Ws.set j (a,q,sX F2 x (rW x z u) (tM y z v),sY F2 x y (rW x z u) (tM y z v),F2.mul z (rW x z u)))));have p1:put (rows Ws) (50*j+(26+0)) (e2 (sX F2 x (rW x z u) (tM y z v)))=some (rows (Ws.set j (a,q,sX F2 x (rW x z u) (tM y z v),y,z))):=pL h rfl;have p2:put (rows (Ws.set j (a,q,sX F2 x (rW x z u) (tM y z v),y,z))) (50*j+(26+8)) (e2 (sY F2 x y (rW x z u) (tM y z v)))=some (rows (Ws.set j (a,q,sX F2 x (rW x z u) (tM y z v),sY F2 x y (rW x z u) (tM y z v),z))):=by
  have:=pL (o:=26+8) (v:=e2 (sY F2 x y (rW x z u) (tM y z v))) (W':=(a,q,sX F2 x (rW x z u) (tM y z v),sY F2 x y (rW x z u) (tM y z v),z)) (mV h (a,q,sX F2 x (rW x z u) (tM y z v),y,z)) rfl
  rwa [Tq]at this
 have p3:put (rows (Ws.set j (a,q,sX F2 x (rW x z u) (tM y z v),sY F2 x y (rW x z u) (tM y z v),z))) (50*j+(26+16)) (e2 (F2.mul z (rW x z u)))=some (rows (Ws.set j (a,q,sX F2 x (rW x z u) (tM y z v),sY F2 x y (rW x z u) (tM y z v),F2.mul z (rW x z u)))):=by
  have:=pL (o:=26+16) (v:=e2 (F2.mul z (rW x z u))) (W':=(a,q,sX F2 x (rW x z u) (tM y z v),sY F2 x y (rW x z u) (tM y z v),F2.mul z (rW x z u))) (mV h (a,q,sX F2 x (rW x z u) (tM y z v),sY F2 x y (rW x z u) (tM y z v),z)) rfl
  rwa [Tq]at this
 exact nL (ts:=[.fl (kF (u,v))]) aG (fun _ _=>MP.w _ _) (oP (eV _) _ _) func67 (aIa b w.heap.size (50*j) _ _ _ _ x y z u v a)
  ⟨gJ (o:=26+0) h rfl,gJ (o:=26+8) h rfl,gJ (o:=26+16) h rfl,gJ (o:=0) h rfl,p1,gJ (o:=26+0) (mV h _) rfl,p2,p3,trivial⟩ hO
def T5s (l0 l1 l2:List At) (o:Nat) (r1 r2:RV) (m:List At):Tab5:=(Lm.add 65 (pe0 l0 o r1 l1)).add 67 (pe1 l1 o m r2 l2)
theorem Ll {Ws:List Wk} {j:Nat} {W:Wk} (h:Ws[j]?=some W) (q':Q2×Q2) :
  PtOk prog (T5s (rows Ws) (rows (Ws.set j (W.1,W.2.1,cN F2 W.2.2))) (rows (Ws.set j (W.1,W.2.1,iL (cN F2 W.2.2) q'))) (50*j) (.one (.fl (e6 (tnL W.2.2.1 W.2.2.2.1 W.2.2.2.2 W.1)))) (.one (.fl (e6 (chL (cN F2 W.2.2) q' W.1)))) (kF q')):=by
 have h2:=OM (mV h (W.1,W.2.1,cN F2 W.2.2)) q';rw[Tq]at h2;exact ((eV _).add func65 (by kernel_rfl) (by kernel_rfl) (aPh (Tg h))).add func67 (by kernel_rfl) (by kernel_rfl) (Id h2)
theorem Uf (b N o:Nat) (l l1 l2 m:List At) (f:aV) (x y:Q6) :
  Jq prog (qPt prog (CZ []) (CZ []) (T5s l l1 l2 o (.one (.fl (e6 x))) (.one (.fl (e6 y))) m)) (wq Kn) f31 60 b N o l [.fl (oZ f),.im (.int .i64 0)] =
   some ([l=l,o=o],.one (.fl (oZ (aD.mul f (EJ x)))),l1,b,N):=by kernel_rfl
theorem Ue (b N o:Nat) (l l1 l2:List At) (f:aV) (x y:Q6) (q:Q2×Q2) :
  Jq prog (qPt prog (CZ [(17,kF q)]) (CZ []) (T5s l l1 l2 o (.one (.fl (e6 x))) (.one (.fl (e6 y))) (kF q))) (wq Kn) f31 60 b N o l [.fl (oZ f),.im (.int .i64 1)] =
   some ([l=l,o=o,gS l1 (o+9) 17=some (kF q),l1=l1,o=o,aA (kF q)=aA (kF q)],.one (.fl (oZ (aD.mul (aD.mul f (EJ x)) (EJ y)))),l2,b,N):=by kernel_rfl
theorem Ud (b N o:Nat) (l l1 l2:List At) (f:aV) (x y:Q6) (q:Q2×Q2) :
  Jq prog (qPt prog (CZ [(17,kF q)]) (CZ []) (T5s l l1 l2 o (.one (.fl (e6 x))) (.one (.fl (e6 y))) (kF (q.1,F2.neg q.2)))) (wq Kn) f31 60 b N o l [.fl (oZ f),.im (.int .i64 (-1))] =
   some ([l=l,o=o,gS l1 (o+9) 17=some (kF q),l1=l1,o=o,aA (kF (q.1,F2.neg q.2))=aA (kF (q.1,F2.neg q.2))],.one (.fl (oZ (aD.mul (aD.mul f (EJ x)) (EJ y)))),l2,b,N):=by kernel_rfl
theorem aTC (x y z:Q2) (a:Fq×Fq):EJ (tnL x y z a)=xK (x,y,z) a:=aMv _ _ _ _
theorem Ry (p:J2) (q:Q2×Q2) (a:Fq×Fq):EJ (chL p q a)=tL p q a:=aMv _ _ _ _
theorem aZe (a:Fq×Fq) (q:Q2×Q2) (p:J2):lf a q 0 p=xK p a:=by unfold lf; rw[if_neg (by decide),if_neg (by decide)]
theorem aZd (a:Fq×Fq) (q:Q2×Q2) (p:J2):lf a q 1 p=aD.mul (xK p a) (tL (cN F2 p) q a):=by unfold lf; rw[if_pos rfl]
theorem aZc (a:Fq×Fq) (q:Q2×Q2) (p:J2):lf a q (-1) p=aD.mul (xK p a) (tL (cN F2 p) (q.1,F2.neg q.2) a):=by unfold lf; rw[if_neg (by decide),if_pos rfl]
theorem aYX (q:Q2×Q2) (p:J2):np q 0 p=cN F2 p:=by unfold np; rw[if_neg (by decide),if_neg (by decide)]
theorem aYW (q:Q2×Q2) (p:J2):np q 1 p=iL (cN F2 p) q:=by unfold np; rw[if_pos rfl]
theorem aYV (q:Q2×Q2) (p:J2):np q (-1) p=iL (cN F2 p) (q.1,F2.neg q.2):=by unfold np; rw[if_neg (by decide),if_pos rfl]
theorem Ea {Ws:List Wk} {j:Nat} {W:Wk} (h:Ws[j]?=some W) (f:aV) (d:Int) (hd:d=0∨d=1∨d = -1) :
  DC prog 31 (rows Ws) (50*j) [.agg (aA (oZ f)).toArray,.int .i64 d] (.one (.fl (oZ (aD.mul f (lf W.1 W.2.1 d W.2.2))))) (rows (Ws.set j (stG np d W))):=by
 intro w b hO;have hs:=gJ (o:=9) (n:=17) (s:=kF W.2.1) (mV h (W.1,W.2.1,cN F2 W.2.2)) rfl;have et:EJ (tnL W.2.2.1 W.2.2.2.1 W.2.2.2.2 W.1)=xK W.2.2 W.1:=aTC _ _ _ _;unfold stG
 rcases hd with rfl|rfl|rfl
 ·rw[aZe,aYX,←et];exact nL (ts:=[.fl (oZ f),.im (.int .i64 0)]) aG (fun _ _=>MP.w _ _) (oP (Ll h W.2.1) _ _) func31 (Uf b w.heap.size (50*j) _ _ _ _ f _ _) ⟨rfl,rfl,trivial⟩ hO
 ·rw[aZd,aYW,←et,←Ry,←aD.mul_assoc];exact nL (ts:=[.fl (oZ f),.im (.int .i64 1)]) aG (fun _ _=>MP.w _ _) (oP (Ll h W.2.1) _ _) func31 (Ue b w.heap.size (50*j) _ _ _ f _ _ W.2.1) ⟨rfl,rfl,hs,rfl,rfl,rfl,trivial⟩ hO
 ·rw[aZc,aYV,←et,←Ry,←aD.mul_assoc];exact nL (ts:=[.fl (oZ f),.im (.int .i64 (-1))]) aG (fun _ _=>MP.w _ _) (oP (Ll h (W.2.1.1,F2.neg W.2.1.2)) _ _) func31 (Ud b w.heap.size (50*j) _ _ _ f _ _ W.2.1) ⟨rfl,rfl,hs,rfl,rfl,rfl,trivial⟩ hO
def aIu:List At→Option (Q2×Q2)|[.f a,.f b,.f c,.f d,.c (.bool false)]=>some ((a,b),(c,d))|_=>none
theorem Mn:Rd aIu kF:=fun l x h=>by unfold aIu at h; split at h<;>cases h; rfl
theorem aEB (q:Q2×Q2):aA (kF q)=aA (cJ (MA (some q))):=rfl
theorem aFz {q:Q2×Q2} {args:List Value} {w:World} (ha:bU w [.v (.fl (kF q))] args):bU w [.v (.fl (cJ (MA (some q))))] args:=by
 match args,ha with
 | [v],ha =>
  refine⟨?_,trivial⟩;show v=.agg (aA (cJ (MA (some q)))).toArray;rw[←aEB];exact ha.1
 | [],ha=>exact ha.elim
 | _::_::_,ha=>exact ha.2.elim
theorem aNs (q:Q2×Q2) (h:On F2 dE (some q)) (args:List Value) (w:World) (ha:bU w [.v (.fl (kF q))] args):Good prog 68 (.many [.fl (kF (iH q)),.im (.int .i64 0)]) args w:=by
 have:=aBz (MA (some q)) args w (aFz ha);rw[show eM (MA (some q))=_ from aTG ⟨some q,h⟩]at this;exact this
theorem aNt (q:Q2×Q2) (h:On F2 dE (some q)) (args:List Value) (w:World) (ha:bU w [.v (.fl (kF q))] args):Good prog 69 (.many [.fl (kF (NK q)),.im (.int .i64 0)]) args w:=by
 have:=(Aq 69 [.v (.fl (cJ (MA (some q))))] _ _ rfl trivial).2 args w (aFz ha);rw[show uX (MA (some q))=_ from tN2 ⟨some q,h⟩]at this;exact this
def oPs (q:Q2×Q2):List Prop×RV:=([On F2 dE (some q)],.many [.fl (kF (iH q)),.im (.int .i64 0)])
def oNg (q:Q2×Q2):List Prop×RV:=([On F2 dE (some q)],.many [.fl (kF (NK q)),.im (.int .i64 0)])
def aNg:Tab:=Kn.add 68 (g1 aIu oPs)
theorem aPB:TabOk prog aNg:=MP.add func68 (by kernel_rfl) (by kernel_rfl) (bJ (op:=oPs) Mn fun q hp args w ha=>aNs q hp.1 args w ha)
def Yp:Tab:=aNg.add 69 (g1 aIu oNg)
theorem Ab:TabOk prog Yp:=aPB.add func69 (by kernel_rfl) (by kernel_rfl) (bJ (op:=oNg) Mn fun q hp args w ha=>aNt q hp.1 args w ha)
def oW:Code:=(f34.body).getD .skip
def enN:Nat:=f34.ntmps
def aRp (b N o:Nat) (l:List At) (f:aV):List Fact:=[.slot 0 (.pt 0 o),.row 0 true l,.at 0 b,.at enN N,.slot 3 (.pt 3 0),.row 3 true (oZ f),.slot 4 (.pt 4 0),.row 4 true (oZ aD.zero)]
def Yd (b N o:Nat) (l:List At) (f:aV) (q:Q2×Q2):List Fact:=[.slot 0 (.pt 0 o),.row 0 true l,.at 0 b,.at enN N,.slot 3 (.pt 3 0),.row 3 true (oZ f),.slot 4 (.pt 4 0),.row 4 true (oZ aD.zero),.slot 5 (.pt 5 0),.row 5 true (kF q)]
def Yc (b N:Nat) (l:List At) (f:aV):List Fact:=[.slot 4 (.pt 4 0),.row 4 true (oZ f),.row 0 true l,.at 0 b,.at enN N]
def T5c (l0 l1:List At) (o:Nat) (r:RV) (m:List At):Tab5:=Lm.add 67 (pe1 l0 o m r l1)
theorem aGu {Ws:List Wk} {j:Nat} {W:Wk} (h:Ws[j]?=some W) (q':Q2×Q2):PtOk prog (T5c (rows Ws) (rows (Ws.set j (W.1,W.2.1,iL W.2.2 q'))) (50*j) (.one (.fl (e6 (chL W.2.2 q' W.1)))) (kF q')) :=
 (eV _).add func67 (by kernel_rfl) (by kernel_rfl) (Id (OM h q'))
theorem aWD (b N o:Nat) (l:List At) (f:aV):bE prog (qPt prog (CZ []) (CZ []) Lm) enN (wq Yp) 40 (cA oW) (aSm enN b N o l [.fl (oZ f)]) (aRp b N o l f)=some ([],.nrm,aRp b N o l f):=by kernel_rfl
theorem aWC (b N o:Nat) (l:List At) (f:aV) (q:Q2×Q2):bE prog (qPt prog (CZ [(11,kF q)]) (CZ []) Lm) enN (wq Yp) 40 (cA (cB oW)) (aRp b N o l f) (Yd b N o l f (iH q))=some ([gS l (o+9) 17=some (kF q),On F2 dE (some q)],.nrm,Yd b N o l f (iH q)):=by kernel_rfl
theorem aWB (b N o:Nat) (l l1:List At) (f:aV) (q:Q2×Q2) (x:Q6):bE prog (qPt prog (CZ []) (CZ []) (T5c l l1 o (.one (.fl (e6 x))) (kF q))) enN (wq Yp) 40 (cA (cB (cB oW))) (Yd b N o l f q) (Yd b N o l1 (aD.mul f (EJ x)) q)=some ([l=l,o=o,aA (kF q)=aA (kF q)],.nrm,Yd b N o l1 (aD.mul f (EJ x)) q):=by kernel_rfl
theorem aWA (b N o:Nat) (l l1:List At) (f:aV) (q:Q2×Q2) (x:Q6):bE prog (qPt prog (CZ []) (CZ []) (T5c l l1 o (.one (.fl (e6 x))) (kF (NK (iH q))))) enN (wq Yp) 40 (cB (cB (cB oW))) (Yd b N o l f q) (Yc b N l1 (aD.mul f (EJ x)))=some ([On F2 dE (some q),On F2 dE (some (iH q)),l=l,o=o,aA (kF (NK (iH q)))=aA (kF (NK (iH q)))],.rt,Yc b N l1 (aD.mul f (EJ x))):=by kernel_rfl
theorem aKH:oW=.seq (cA oW) (.seq (cA (cB oW)) (.seq (cA (cB (cB oW))) (cB (cB (cB oW))))):=by kernel_rfl
theorem aBA {q:Q2×Q2} (h:On F2 dE (some q)):On F2 dE (some (iH q)):=(pA ⟨some q,h⟩).2
def enW (W:Wk):Wk:=(W.1,W.2.1,iL (iL W.2.2 (iH W.2.1)) (NK (iH (iH W.2.1))))
theorem aRn {b:Nat} {w w':World} {a:Act} {l:List At} {f:aV} (hA:Holds enN b w (Yc b w.heap.size l f) a w'):bodyPost prog f34 (Wr b w (.one (.fl (oZ f))) l) .ret a w':=by
 refine pY (l:=[.fl (oZ f)]) (r:=.one (.fl (oZ f))) (by kernel_rfl) (by kernel_rfl) hA ⟨rfl,?_⟩;exact hA.wrc (l:=l) (by simp[Yc]) (by simp[Yc]) (by simp[Yc])
theorem aKG {b o:Nat} {w:World} {l0 l1 l2:List At} {f:aV} {q:Q2×Q2} {x y:Q6} (hO:Own w b l0) (hs:gS l0 (o+9) 17=some (kF q)) (hq:On F2 dE (some q))
  (t1:PtOk prog (T5c l0 l1 o (.one (.fl (e6 x))) (kF (iH q)))) (t2:PtOk prog (T5c l1 l2 o (.one (.fl (e6 y))) (kF (NK (iH (iH q)))))) :
  Calls prog 34 (rU b o::[TV.fl (oZ f)].map TV.den).toArray w (Wr b w (.one (.fl (oZ (aD.mul (aD.mul f (EJ x)) (EJ y))))) l2):=by
 refine NY (ts:=[.fl (oZ f)]) func34 (c:=oW) rfl hO (Nat.le_of_ble_eq_true (by kernel_rfl)) fun a w1 hA => ?_
 rw[aKH];refine wp_seq (aF aG (fun _ _=>Ab.w _ _) (oP (eV _) _ _) (aWD b w.heap.size o l0 f) trivial hA fun a w2 hA => ?_);refine wp_seq (aF aG (fun _ _=>Ab.w _ _) (oP (eV _) _ _) (aWC b w.heap.size o l0 f q) ⟨hs,hq,trivial⟩ hA fun a w3 hA => ?_);refine wp_seq (aF aG (fun _ _=>Ab.w _ _) (oP t1 _ _) (aWB b w.heap.size o l0 l1 f (iH q) x) ⟨rfl,rfl,rfl,trivial⟩ hA fun a w4 hA => ?_);have q1:=aBA hq;have q2:=aBA q1;generalize iH q=q' at hA t2 q1 q2 ⊢;refine aF aG (fun _ _=>Ab.w _ _) (oP t2 _ _) (aWA b w.heap.size o l1 l2 (aD.mul f (EJ x)) q' y) ⟨q1,q2,rfl,rfl,rfl,trivial⟩ hA fun a w5 hA => ?_
 exact aRn hA
theorem aJL {f x y z w:aV} (h1:x=z) (h2:y=w):aD.mul (aD.mul f x) y=aD.mul f (aD.mul z w):=by
 subst h1; subst h2;exact aD.mul_assoc _ _ _
theorem aWu (a:Fq×Fq) (q:Q2×Q2) (p:J2):ew a q p=aD.mul (tL p (iH q) a) (tL (iL p (iH q)) (NK (iH (iH q))) a):=by
 unfold ew
 with_reducible rfl
theorem aZP (f:aV) (a:Fq×Fq) (q:Q2×Q2) (p:J2):aD.mul (aD.mul f (EJ (chL p (iH q) a))) (EJ (chL (iL p (iH q)) (NK (iH (iH q))) a))=aD.mul f (ew a q p) :=
 (aJL (Ry p (iH q) a) (Ry (iL p (iH q)) (NK (iH (iH q))) a)).trans (congrArg (aD.mul f) (aWu a q p).symm)
theorem aES {Ws:List Wk} {j:Nat} {a:Fq×Fq} {q:Q2×Q2} {p:J2} (h:Ws[j]?=some (a,q,p)) (f g:aV) (hg:aD.mul (aD.mul f (EJ (chL p (iH q) a))) (EJ (chL (iL p (iH q)) (NK (iH (iH q))) a))=g) (hq:On F2 dE (some q)) :
  DC prog 34 (rows Ws) (50*j) [.agg (aA (oZ f)).toArray] (.one (.fl (oZ g))) (rows (Ws.set j (a,q,iL (iL p (iH q)) (NK (iH (iH q)))))):=by
 subst hg;intro w b hO;have hs:=gJ (o:=9) (n:=17) (s:=kF q) h rfl;have t1:PtOk prog (T5c (rows Ws) (rows (Ws.set j (a,q,iL p (iH q)))) (50*j) (.one (.fl (e6 (chL p (iH q) a)))) (kF (iH q))):=aGu h (iH q);have t2:PtOk prog (T5c (rows (Ws.set j (a,q,iL p (iH q)))) (rows ((Ws.set j (a,q,iL p (iH q))).set j (a,q,iL (iL p (iH q)) (NK (iH (iH q)))))) (50*j) (.one (.fl (e6 (chL (iL p (iH q)) (NK (iH (iH q))) a)))) (kF (NK (iH (iH q))))):=aGu (mV h (a,q,iL p (iH q))) (NK (iH (iH q)));rw[Tq Ws j (a,q,iL p (iH q)) (a,q,iL (iL p (iH q)) (NK (iH (iH q))))]at t2;exact aKG (f:=f) hO hs hq t1 t2
theorem Yb {Ws:List Wk} {j:Nat} {a:Fq×Fq} {q:Q2×Q2} {p:J2} (h:Ws[j]?=some (a,q,p)) (f:aV) (hq:On F2 dE (some q)) :
  DC prog 34 (rows Ws) (50*j) [.agg (aA (oZ f)).toArray] (.one (.fl (oZ (aD.mul f (ew a q p))))) (rows (Ws.set j (enW (a,q,p)))) :=
 aES h f _ (aZP f a q p) hq
def aNm (c:Bool):Tab:=(Dc c).add 194 Bu
theorem aPI (c:Bool):TabOk prog (aNm c):=(Wy c).add func194 (by kernel_rfl) (by kernel_rfl) aDz
def aNn (c:Bool):Tab:=(aNm c).add 62 SJ
theorem aPJ (c:Bool):TabOk prog (aNn c):=(aPI c).add func62 (by kernel_rfl) (by kernel_rfl) aFJ
theorem Xo (k:Int) (h0 : -1000<k) (h1:k<1000):IntKind.i64.wrap k=k:=IntWalk.i64_in _ (by omega)
theorem bAs:Rdv LI q1 (fun n=>n):=fun l n h=>⟨n,gD l n h,rfl⟩
end Go.Proofs.YtjkpglhlmknciaaGreat.Ex
namespace Go.Proofs.YtjkpglhlmknciaaGreat.R1
open Go.Proofs.Tryz
open Go.RowKit
theorem readyB_at {ops:Array Oper} {got:Nat→Bool} {i:Nat} {o:Oper} {e:Edge} (h:vX .any ops got i=true) (ho:ops[i]?=some o) (he:e∈o.after) (hb:Region.binds .any e=true):got e.on=true:=by
 unfold vX at h;rw[ho]at h;have:=(Array.all_eq_true_iff_forall_mem.1 h) e he;simpa[hb]using this
def HalfV (A:Nat) (t:Value):Prop:=∃x0 x1 x2 x3 x4 x5 x6 x7:Nat,t=.agg #[.int .u64 x0,.int .u64 x1,.int .u64 x2,.int .u64 x3,.int .u64 x4,.int .u64 x5,.int .u64 x6,.int .u64 x7]∧Yy x0 x1 x2 x3 x4 x5 x6 x7∧Hid (vO x0 x1 x2 x3 x4 x5 x6 x7=A)
def FreshZ (wr u:World) (t:Value):Prop:=∃p,t=.pointer (some ⟨p,0,none⟩)∧wr.heap.size≤p∧p<u.heap.size∧RowIs u p 8 (fun _=>0)
theorem FreshZ.grow {wr u u':World} {t:Value} (h:FreshZ wr u t) (hb:Below u.heap.size u u'):FreshZ wr u' t:=by
 obtain⟨p,e,h1,h2,r⟩:=h;exact⟨p,e,h1,Nat.lt_of_lt_of_le h2 hb.size,r.below hb h2⟩
structure RI (got:Nat→Bool) (wr:World) (a0 a1 a2 a3 b0 b1 b2 b3:Nat) (t6 t7 s0 s1 s2 s3:Value) (u:World):Prop where
 below:Below wr.heap.size wr u
 g0:got 0=true→s0=.agg #[.int .u64 a0,.int .u64 a1,.int .u64 a2,.int .u64 a3]
 g1:got 1=true→HalfV (aC a0 a1 a2 a3) s1
 g2:got 2=true→s2=.agg #[.int .u64 b0,.int .u64 b1,.int .u64 b2,.int .u64 b3]
 g3:got 3=true→HalfV (aC b0 b1 b2 b3) s3
 g4:got 4=true→FreshZ wr u t6
 g5:got 5=true→FreshZ wr u t7
 g45:got 4=true→got 5=true→t6≠t7
section
variable {got:Nat→Bool} {wr u u':World} {a0 a1 a2 a3 b0 b1 b2 b3:Nat} {t6 t7 s0 s1 s2 s3:Value}
theorem RI.start (wr:World) (a0 a1 a2 a3 b0 b1 b2 b3:Nat):RI (fun _=>false) wr a0 a1 a2 a3 b0 b1 b2 b3 undef undef undef undef undef undef wr.drew :=
 ⟨(Below.refl _ _).drew,fun h=>Bool.noConfusion h,fun h=>Bool.noConfusion h,fun h=>Bool.noConfusion h,fun h=>Bool.noConfusion h,fun h=>Bool.noConfusion h,fun h=>Bool.noConfusion h,fun h=>Bool.noConfusion h⟩
theorem RI.op0 (h:RI got wr a0 a1 a2 a3 b0 b1 b2 b3 t6 t7 s0 s1 s2 s3 u):RI (fun j=>j==0||got j) wr a0 a1 a2 a3 b0 b1 b2 b3 t6 t7 (.agg #[.int .u64 a0,.int .u64 a1,.int .u64 a2,.int .u64 a3]) s1 s2 s3 u :=
 ⟨h.below,fun _=>rfl,fun e=>h.g1 (by simpa using e),fun e=>h.g2 (by simpa using e),fun e=>h.g3 (by simpa using e),fun e=>h.g4 (by simpa using e),fun e=>h.g5 (by simpa using e),fun e f=>h.g45 (by simpa using e) (by simpa using f)⟩
theorem RI.op2 (h:RI got wr a0 a1 a2 a3 b0 b1 b2 b3 t6 t7 s0 s1 s2 s3 u):RI (fun j=>j==2||got j) wr a0 a1 a2 a3 b0 b1 b2 b3 t6 t7 s0 s1 (.agg #[.int .u64 b0,.int .u64 b1,.int .u64 b2,.int .u64 b3]) s3 u :=
 ⟨h.below,fun e=>h.g0 (by simpa using e),fun e=>h.g1 (by simpa using e),fun _=>rfl,fun e=>h.g3 (by simpa using e),fun e=>h.g4 (by simpa using e),fun e=>h.g5 (by simpa using e),fun e f=>h.g45 (by simpa using e) (by simpa using f)⟩
theorem RI.op1 (h:RI got wr a0 a1 a2 a3 b0 b1 b2 b3 t6 t7 s0 s1 s2 s3 u) {x:Value} (hx:HalfV (aC a0 a1 a2 a3) x):RI (fun j=>j==1||got j) wr a0 a1 a2 a3 b0 b1 b2 b3 t6 t7 s0 x s2 s3 u :=
 ⟨h.below,fun e=>h.g0 (by simpa using e),fun _=>hx,fun e=>h.g2 (by simpa using e),fun e=>h.g3 (by simpa using e),fun e=>h.g4 (by simpa using e),fun e=>h.g5 (by simpa using e),fun e f=>h.g45 (by simpa using e) (by simpa using f)⟩
theorem RI.op3 (h:RI got wr a0 a1 a2 a3 b0 b1 b2 b3 t6 t7 s0 s1 s2 s3 u) {x:Value} (hx:HalfV (aC b0 b1 b2 b3) x):RI (fun j=>j==3||got j) wr a0 a1 a2 a3 b0 b1 b2 b3 t6 t7 s0 s1 s2 x u :=
 ⟨h.below,fun e=>h.g0 (by simpa using e),fun e=>h.g1 (by simpa using e),fun e=>h.g2 (by simpa using e),fun _=>hx,fun e=>h.g4 (by simpa using e),fun e=>h.g5 (by simpa using e),fun e f=>h.g45 (by simpa using e) (by simpa using f)⟩
theorem RI.grow (h:RI got wr a0 a1 a2 a3 b0 b1 b2 b3 t6 t7 s0 s1 s2 s3 u) (hb:Below u.heap.size u u'):RI got wr a0 a1 a2 a3 b0 b1 b2 b3 t6 t7 s0 s1 s2 s3 u' :=
 ⟨h.below.trans (hb.mono h.below.size),h.g0,h.g1,h.g2,h.g3,fun e=>(h.g4 e).grow hb,fun e=>(h.g5 e).grow hb,h.g45⟩
theorem fresh_new (wr u:World) (hs:wr.heap.size≤u.heap.size) (t:TypeId):FreshZ wr (u.alloc (.cells #[.int .u64 0,.int .u64 0,.int .u64 0,.int .u64 0,.int .u64 0,.int .u64 0,.int .u64 0,.int .u64 0] t)) (.pointer (some ⟨u.heap.size,0,none⟩)) :=
 ⟨_,rfl,hs,by simp,by
  intro k hk;refine⟨?_,World.frozen?_alloc_new _ _ _ _⟩;rw[World.cell?_alloc_new]
  match k,hk with
  | 0,_|1,_|2,_|3,_|4,_|5,_|6,_|7,_=>rfl⟩
theorem below_alloc (u:World) (o:Obj):Below u.heap.size u (u.alloc o):=(Below.refl _ _).alloc (Nat.le_refl _) o
theorem fresh_ne {wr u:World} {t:Value} (h:FreshZ wr u t):t ≠ .pointer (some ⟨u.heap.size,0,none⟩):=by
 obtain⟨p,rfl,_,h2,_⟩:=h;intro e;injection e with e;injection e with e;injection e with e;omega
theorem RI.op4 (h:RI got wr a0 a1 a2 a3 b0 b1 b2 b3 t6 t7 s0 s1 s2 s3 u) (t:TypeId):RI (fun j=>j==4||got j) wr a0 a1 a2 a3 b0 b1 b2 b3 (.pointer (some ⟨u.heap.size,0,none⟩)) t7 s0 s1 s2 s3 (u.alloc (.cells #[.int .u64 0,.int .u64 0,.int .u64 0,.int .u64 0,.int .u64 0,.int .u64 0,.int .u64 0,.int .u64 0] t)) :=
 ⟨h.below.alloc h.below.size _,fun e=>h.g0 (by simpa using e),fun e=>h.g1 (by simpa using e),fun e=>h.g2 (by simpa using e),fun e=>h.g3 (by simpa using e),
  fun _=>fresh_new wr u h.below.size t,fun e=>(h.g5 (by simpa using e)).grow (below_alloc _ _),fun _ f=>(fresh_ne (h.g5 (by simpa using f))).symm⟩
theorem RI.op5 (h:RI got wr a0 a1 a2 a3 b0 b1 b2 b3 t6 t7 s0 s1 s2 s3 u) (t:TypeId):RI (fun j=>j==5||got j) wr a0 a1 a2 a3 b0 b1 b2 b3 t6 (.pointer (some ⟨u.heap.size,0,none⟩)) s0 s1 s2 s3 (u.alloc (.cells #[.int .u64 0,.int .u64 0,.int .u64 0,.int .u64 0,.int .u64 0,.int .u64 0,.int .u64 0,.int .u64 0] t)) :=
 ⟨h.below.alloc h.below.size _,fun e=>h.g0 (by simpa using e),fun e=>h.g1 (by simpa using e),fun e=>h.g2 (by simpa using e),fun e=>h.g3 (by simpa using e),
  fun e=>(h.g4 (by simpa using e)).grow (below_alloc _ _),fun _=>fresh_new wr u h.below.size t,fun e _=>fresh_ne (h.g4 (by simpa using e))⟩
theorem RI.all (h:RI got wr a0 a1 a2 a3 b0 b1 b2 b3 t6 t7 s0 s1 s2 s3 u) (hg:∀j,j<6→got j=true) :
  ∃p q x0 x1 x2 x3 x4 x5 x6 x7 y0 y1 y2 y3 y4 y5 y6 y7:Nat,t6=.pointer (some ⟨p,0,none⟩)∧t7=.pointer (some ⟨q,0,none⟩) ∧
   s1=.agg #[.int .u64 x0,.int .u64 x1,.int .u64 x2,.int .u64 x3,.int .u64 x4,.int .u64 x5,.int .u64 x6,.int .u64 x7]∧s3=.agg #[.int .u64 y0,.int .u64 y1,.int .u64 y2,.int .u64 y3,.int .u64 y4,.int .u64 y5,.int .u64 y6,.int .u64 y7] ∧
   Yy x0 x1 x2 x3 x4 x5 x6 x7∧Yy y0 y1 y2 y3 y4 y5 y6 y7∧Hid (vO x0 x1 x2 x3 x4 x5 x6 x7=aC a0 a1 a2 a3)∧Hid (vO y0 y1 y2 y3 y4 y5 y6 y7=aC b0 b1 b2 b3) ∧
   wr.heap.size≤p∧wr.heap.size≤q∧p<u.heap.size∧q<u.heap.size∧¬p=q∧RowIs u p 8 (fun _=>0)∧RowIs u q 8 (fun _=>0)∧Below wr.heap.size wr u:=by
 obtain⟨x0,x1,x2,x3,x4,x5,x6,x7,e1,hx,ex⟩:=h.g1 (hg 1 (by omega));obtain⟨y0,y1,y2,y3,y4,y5,y6,y7,e2,hy,ey⟩:=h.g3 (hg 3 (by omega));obtain⟨p,e3,lp,up,rp⟩:=h.g4 (hg 4 (by omega));obtain⟨q,e4,lq,uq,rq⟩:=h.g5 (hg 5 (by omega));refine⟨p,q,x0,x1,x2,x3,x4,x5,x6,x7,y0,y1,y2,y3,y4,y5,y6,y7,e3,e4,e1,e2,hx,hy,ex,ey,lp,lq,up,uq,fun e => ?_,rp,rq,h.below⟩;subst e;exact h.g45 (hg 4 (by omega)) (hg 5 (by omega)) (e3.trans e4.symm)
end
structure TwoH (wr u:World) (p q:Nat) (X Y:Nat→Nat) (A B:Nat):Prop where
 below:Below wr.heap.size wr u
 lp:wr.heap.size≤p
 lq:wr.heap.size≤q
 up:p<u.heap.size
 uq:q<u.heap.size
 ne:¬p=q
 rowX:RowIs u p 8 X
 rowY:RowIs u q 8 Y
 ltX:∀k,X k<4294967296
 ltY:∀k,Y k<4294967296
 eX:tot 4294967296 X 8=A
 eY:tot 4294967296 Y 8=B
def set8 (w:World) (b:Nat) (d0 d1 d2 d3 d4 d5 d6 d7:Nat):World :=
 (((((((w.setCell ⟨b,0,none⟩ (.int .u64 d0)).setCell ⟨b,1,none⟩ (.int .u64 d1)).setCell ⟨b,2,none⟩ (.int .u64 d2)).setCell ⟨b,3,none⟩ (.int .u64 d3)).setCell ⟨b,4,none⟩ (.int .u64 d4)).setCell ⟨b,5,none⟩ (.int .u64 d5)).setCell ⟨b,6,none⟩ (.int .u64 d6)).setCell ⟨b,7,none⟩ (.int .u64 d7)
theorem RowIs.ext {w:World} {b n:Nat} {P R:Nat→Nat} (h:RowIs w b n P) (e:∀k,k<n→P k=R k):RowIs w b n R:=fun k hk=>⟨by rw[←e k hk]; exact h.cell hk,h.free hk⟩
theorem RowIs.set8 {w:World} {b:Nat} {P:Nat→Nat} (h:RowIs w b 8 P) (d0 d1 d2 d3 d4 d5 d6 d7:Nat):RowIs (Go.Proofs.YtjkpglhlmknciaaGreat.set8 w b d0 d1 d2 d3 d4 d5 d6 d7) b 8 (fG [d0,d1,d2,d3,d4,d5,d6,d7]):=by
 have r:=(((((((h.set (show 0<8 by omega) (v:=d0)).set (show 1<8 by omega) (v:=d1)).set (show 2<8 by omega) (v:=d2)).set (show 3<8 by omega) (v:=d3)).set (show 4<8 by omega) (v:=d4)).set (show 5<8 by omega) (v:=d5)).set (show 6<8 by omega) (v:=d6)).set (show 7<8 by omega) (v:=d7);unfold Go.Proofs.YtjkpglhlmknciaaGreat.set8;refine r.ext fun k hk => ?_
 match k,hk with
 | 0,_|1,_|2,_|3,_|4,_|5,_|6,_|7,_=>rfl
theorem RowIs.set8_other {w:World} {b c n:Nat} {P:Nat→Nat} (h:RowIs w b n P) (hc:c≠b) (d0 d1 d2 d3 d4 d5 d6 d7:Nat):RowIs (Go.Proofs.YtjkpglhlmknciaaGreat.set8 w c d0 d1 d2 d3 d4 d5 d6 d7) b n P :=
 (((((((h.other hc _).other hc _).other hc _).other hc _).other hc _).other hc _).other hc _).other hc _
theorem below_set8 {B:Nat} {w w':World} {b:Nat} (h:Below B w w') (hb:B≤b) (d0 d1 d2 d3 d4 d5 d6 d7:Nat):Below B w (set8 w' b d0 d1 d2 d3 d4 d5 d6 d7) :=
 (((((((h.setCell (p:=⟨b,0,none⟩) hb _).setCell (p:=⟨b,1,none⟩) hb _).setCell (p:=⟨b,2,none⟩) hb _).setCell (p:=⟨b,3,none⟩) hb _).setCell (p:=⟨b,4,none⟩) hb _).setCell (p:=⟨b,5,none⟩) hb _).setCell (p:=⟨b,6,none⟩) hb _).setCell (p:=⟨b,7,none⟩) hb _
theorem size_set8 (w:World) (b d0 d1 d2 d3 d4 d5 d6 d7:Nat):(set8 w b d0 d1 d2 d3 d4 d5 d6 d7).heap.size=w.heap.size:=by
 unfold set8; simp only[World.size_setCell]
theorem fnOf8_lt {x0 x1 x2 x3 x4 x5 x6 x7:Nat} (h:Yy x0 x1 x2 x3 x4 x5 x6 x7) (k:Nat):fG [x0,x1,x2,x3,x4,x5,x6,x7] k<4294967296:=by
 obtain⟨h0,h1,h2,h3,h4,h5,h6,h7⟩:=h;unfold fG
 match k with
 | 0=>exact h0
 | 1=>exact h1
 | 2=>exact h2
 | 3=>exact h3
 | 4=>exact h4
 | 5=>exact h5
 | 6=>exact h6
 | 7=>exact h7
 | k+8=>simp
theorem val8_tot (P:Nat→Nat):vO (P 0) (P 1) (P 2) (P 3) (P 4) (P 5) (P 6) (P 7)=tot 4294967296 P 8:=by
 unfold vO;simp only[tot];omega
theorem TwoH.store {wr u:World} {p q A B x0 x1 x2 x3 x4 x5 x6 x7 y0 y1 y2 y3 y4 y5 y6 y7:Nat} (hx:Yy x0 x1 x2 x3 x4 x5 x6 x7) (hy:Yy y0 y1 y2 y3 y4 y5 y6 y7) (ex:Hid (vO x0 x1 x2 x3 x4 x5 x6 x7=A)) (ey:Hid (vO y0 y1 y2 y3 y4 y5 y6 y7=B))
  (lp:wr.heap.size≤p) (lq:wr.heap.size≤q) (up:p<u.heap.size) (uq:q<u.heap.size) (hpq:¬p=q) (rp:RowIs u p 8 (fun _=>0)) (rq:RowIs u q 8 (fun _=>0)) (hbl:Below wr.heap.size wr u) :
  TwoH wr (set8 (set8 u p x0 x1 x2 x3 x4 x5 x6 x7) q y0 y1 y2 y3 y4 y5 y6 y7) p q (fG [x0,x1,x2,x3,x4,x5,x6,x7]) (fG [y0,y1,y2,y3,y4,y5,y6,y7]) A B :=
 ⟨below_set8 (below_set8 hbl lp _ _ _ _ _ _ _ _) lq _ _ _ _ _ _ _ _,lp,lq,by rw[size_set8,size_set8]; exact up,by rw[size_set8,size_set8]; exact uq,hpq,
  (rp.set8 _ _ _ _ _ _ _ _).set8_other (fun e=>hpq e.symm) _ _ _ _ _ _ _ _,(rq.set8_other hpq _ _ _ _ _ _ _ _).set8 _ _ _ _ _ _ _ _,fnOf8_lt hx,fnOf8_lt hy,
  (val8_tot (fG [x0,x1,x2,x3,x4,x5,x6,x7])).symm.trans ex.out,(val8_tot (fG [y0,y1,y2,y3,y4,y5,y6,y7])).symm.trans ey.out⟩
structure RW (w wr:World) (p q o r n:Nat) (X Y P:Nat→Nat):Prop where
 below:Below w.heap.size w wr
 lo:w.heap.size≤o
 uo:o<wr.heap.size
 op:¬o=p
 oq:¬o=q
 or:¬o=r
 rowX:RowIs wr p 8 X
 rowY:RowIs wr q 8 Y
 rowH:∃H,RowIs wr r 4 H
 ur:r<wr.heap.size
 rowP:RowIs wr o n P
 lt:∀k,P k<4294967296
theorem RW.set {w wr:World} {p q o r n:Nat} {X Y P:Nat→Nat} (h:RW w wr p q o r n X Y P) {k d:Nat} (hk:k<n) (hd:d<4294967296) :
  RW w (wr.setCell ⟨o,k,none⟩ (.int .u64 (d:Nat))) p q o r n X Y (fW P k d) :=
 ⟨h.below.setCell (p:=⟨o,k,none⟩) h.lo _,h.lo,by rw[World.size_setCell]; exact h.uo,h.op,h.oq,h.or,h.rowX.other h.op _,h.rowY.other h.oq _,
  h.rowH.elim fun H x=>⟨H,x.other h.or _⟩,by rw[World.size_setCell]; exact h.ur,h.rowP.set hk,fun x=>by unfold fW; split; exact hd; exact h.lt x⟩
theorem RW.drewN {w wr:World} {p q o r n:Nat} {X Y P:Nat→Nat} (h:RW w wr p q o r n X Y P) (m:Nat):RW w (wr.drewN m) p q o r n X Y P :=
 ⟨h.below.trans (bD _ _ _),h.lo,h.uo,h.op,h.oq,h.or,h.rowX,h.rowY,h.rowH,h.ur,h.rowP,h.lt⟩
end Go.Proofs.YtjkpglhlmknciaaGreat.R1
namespace Go.Proofs.YtjkpglhlmknciaaGreat.Ex
open Go.Proofs.Tryz
open Go.RowKit
def Tab.or (T U:Tab):Tab:=fun f cs=>match T f cs with|some r=>some r|none=>U f cs
theorem TabOk.or {P:Program} {T U:Tab} (h:TabOk P T) (k:TabOk P U):TabOk P (T.or U):=by
 intro f cs pre r hg hp;unfold Tab.or at hg;split at hg
 ·rename_i x hx;cases hg;exact h f cs pre r hx hp
 ·exact k f cs pre r hg hp
theorem Holds.same {nt base:Nat} {w0:World} {A A':List Fact} {a:Act} {w:World} (h:Holds nt base w0 A a w) (hs:∀φ∈A',φ∈A∨∃k o l l',φ=.row k o l'∧.row k o l∈A∧aA l=aA l'):Holds nt base w0 A' a w:=by
 obtain⟨β,h1,h2,h3,gt⟩:=h.facts;have hr:∀k o l,Fact.row k o l∈A'→∃m,Fact.row k o m∈A:=fun k o l hk=>by
  rcases hs _ hk with h3|⟨k1,o,m,m',e,h3,h4⟩
  ·exact⟨l,h3⟩
  ·cases e;exact⟨m,h3⟩
 refine⟨h.defers,h.size,h.below,h.heap,β,fun φ hφ => ?_,fun k k' ow l l' hk hk' hne => ?_,fun k l hk=>(hr k true l hk).elim fun m hm=>h3 k m hm,gt⟩
 ·rcases hs φ hφ with h3|⟨k,o,l,l',rfl,h3,h4⟩
  ·exact h1 φ h3
  ·have:=h1 _ h3;simp only[Fact.ok]at this ⊢;rw[←h4];exact this
 ·obtain⟨m,hm⟩:=hr k true l hk;obtain⟨m',hm'⟩:=hr k' ow l' hk';exact h2 k k' ow m m' hm hm' hne
def aGt (c:Bool):Tab:=(aNn c).or (TZ c)
theorem aCH (c:Bool):TabOk prog (aGt c):=(aPJ c).or (Al c)
theorem QE (c:Bool) (x:vJ):bP prog (aGt c) qN (fun _=>true) f30 40 [.v (.fl (vZ x))]=some ([],.one (.fl (aQ (aD.mul (hJ x) (hJ x))))):=by kernel_rfl
def xD (c:Bool):Tab:=(aGt c).add 30 (g1 Eh (fun x=>([],.one (.fl (aQ (aD.mul x x))))))
theorem CJ (c:Bool):TabOk prog (xD c):=(aCH c).add func30 (by kernel_rfl) (by kernel_rfl) (mG xO fun x hp args w ha=>aI aG (aCH c) aO func30 (QE c x) hp ha)
theorem Fw (c:Bool):bP prog (xD c) qN (fun _=>true) f9 40 []=some ([],.one (.fl (aQ aD.one))):=by kernel_rfl
def Db (c:Bool):Tab:=(xD c).add 9 (g0 (.one (.fl (aQ aD.one))))
theorem Wx (c:Bool):TabOk prog (Db c):=(CJ c).add func9 (by kernel_rfl) (by kernel_rfl) (lO fun w=>aI aG (CJ c) aO func9 (Fw c) trivial (args:=[]) trivial)
def Cz (c:Bool):Tab:=(Db c).add 79 Bu
theorem Wv (c:Bool):TabOk prog (Cz c):=(Wx c).add func79 (by kernel_rfl) (by kernel_rfl) Mk
def Da (c:Bool):Tab:=(Cz c).add 81 SJ
theorem Ww (c:Bool):TabOk prog (Da c):=(Wv c).add func81 (by kernel_rfl) (by kernel_rfl) Mq
def aEp:kI
 | [.v (.im (.int .i64 (.ofNat 1)))]=>some ([],.one (.fl (q1 FP.M)))
 | _=>none
theorem aPU:∀cs pre r,aEp cs=some (pre,r)→aZ pre→∀(args:List Value) (w:World),bU w cs args→Good prog 73 r args w:=by
 intro cs pre r hg hp args w ha;unfold aEp at hg;split at hg
 ·cases hg
  match args,ha with
  | [v],ha =>
   have h1:v=.int .i64 1:=ha.1;subst h1;exact (jH 1 FP oV w).mono fun e w' h=>h
  | [],ha=>exact ha.elim
  | _::_::_,ha=>exact ha.2.elim
 ·cases hg
def tR (c:Bool):Tab:=(Da c).add 73 aEp
theorem yF (c:Bool):TabOk prog (tR c):=(Ww c).add func73 (by kernel_rfl) (by kernel_rfl) aPU
def rowR (x:vJ):Nat→List At
 | 0=>vZ x
 | i+1=>aQ (fK (i+1) (hJ x))
end Go.Proofs.YtjkpglhlmknciaaGreat.Ex
