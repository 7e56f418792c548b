/- Pc12 -/
import Derived.Deep.DeepCutAuto
import Derived.LoopTactic
import Derived.Deep.LoopGhost
import Derived.RegionTactic
import Derived.Deep.RegionWith
import Derived.StillTail
import Derived.KernelRfl
import Derived.Test.YtglgakbkdjhojaaGreatPc11
import Derived.Test.YtglgakbkdjhojaaGreatPc02
import Derived.Test.YtglgakbkdjhojaaGreatPc07
import Derived.Test.YtglgakbkdjhojaaGreatPc06
import Derived.Test.YtglgakbkdjhojaaGreatPc05
import Derived.Test.YtglgakbkdjhojaaGreatPc08
import Derived.Test.YtglgakbkdjhojaaGreatPc04
import Derived.Test.YtglgakbkdjhojaaGreatProg
set_option maxRecDepth 100000
set_option linter.unusedVariables false
set_option linter.unusedSimpArgs false
noncomputable section
namespace Go.Proofs.YtglgakbkdjhojaaGreat.Ex
open Go.Proofs.Tryz
theorem Cyc.neg {G V:Type} {A:AG G} {B:AG V} {c:G→G→V} (C:Cyc A B c) (g h:G):c (A.neg g) (A.neg h)=B.neg (c g h):=by
 have e:=congrArg Prod.snd ((mP C).neg_add (eB B g) (eB B h));have e:B.neg (B.add (B.add B.zero B.zero) (c g h))=B.add (B.add (B.neg B.zero) (B.neg B.zero)) (c (A.neg g) (A.neg h)):=e;rw[B.zadd,B.zadd,B.negz,B.zadd,B.zadd]at e;exact e.symm
theorem GT:cU aC.one=aC.one:=by decide
theorem aBu {a:aM} (h:a≠aC.zero):cU a≠aC.zero:=fun e=>by
 have t:=congrArg cU (jI h);rw[nJ,e,aC.zero_mul,GT]at t;exact jJ.1 t.symm
theorem aWp {a:aM} (h:a≠aC.zero):kI (cU a)=cU (kI a):=RP (aBu h) (by rw[←nJ,jI h,GT])
theorem aAB (x:aM) (m n:Nat):bH aC (bH aC x m) n=bH aC (bH aC x n) m:=by rw[←dQ,←dQ,Nat.mul_comm]
theorem aXx (a:aM):cE (cU a)=cU (cE a):=by rw[JL,JL,oE,oE,aAB]
theorem aFQ (a:aM):cM (cU a)=cU (cM a):=by rw[xE,xE,oE,oE,aAB]
theorem aWB (a:aM):hX (cU a)=cU (hX a):=by rw[CK,CK,oE,oE,aAB]
theorem aQr {a:aM} (h:a≠aC.zero):jW (cU a)=cU (jW a):=by
 unfold jW eZ;rw[aWp h,aXx,←nJ,aFQ,←nJ,aWB]
def fv (v:Vq):Vq:=⟨cU v.1,aBu v.2⟩
theorem IW (v:Vq):(fv v).1=cU v.1:=rfl
theorem aMo {z:aM} (h:z≠aC.zero):fv (lv z)=lv (cU z):=Subtype.ext (by rw[IW,cW h,cW (aBu h),aQr h])
theorem oK:fv vg.zero=vg.zero:=Subtype.ext (by rw[IW,FA,GT])
theorem Xf (v:Vq):∀n,(vg.ns n v).1=bH aC v.1 n
 | 0=>rfl
 | n+1=>by
  show (vg.add (vg.ns n v) v).1=aC.mul (bH aC v.1 n) v.1;rw[lV,Xf v n]
def sN:Nat:=zN+2
def mN:Nat:=(sN+FP.M+FP.M*FP.M*FP.M-FP.M*FP.M)/Go.Proofs.YtglgakbkdjhojaaGreat.FR.M
theorem aUV:sN+FP.M+FP.M*FP.M*FP.M=FP.M*FP.M+Go.Proofs.YtglgakbkdjhojaaGreat.FR.M*mN:=by kernel_rfl
theorem aFM {x:aM} (h:bH aC x Go.Proofs.YtglgakbkdjhojaaGreat.FR.M=aC.one):aC.mul (aC.mul (bH aC x sN) (cU x)) (cU (cU (cU x)))=cU (cU x):=by
 have e2:cU (cU x)=bH aC x (FP.M*FP.M):=by rw[oE,oE,←dQ]
 have e3:cU (cU (cU x))=bH aC x (FP.M*FP.M*FP.M):=by rw[e2,oE,←dQ]
 rw[e3,e2,oE x,←cJ,←cJ,aUV,cJ,dQ aC x Go.Proofs.YtglgakbkdjhojaaGreat.FR.M,h,mK,aC.mul_comm,aC.one_mul]
def rOf (v:Vq):Prop:=bH aC v.1 Go.Proofs.YtglgakbkdjhojaaGreat.FR.M=aC.one
theorem aDy {v:Vq} (h:rOf v):vg.add (vg.add (vg.ns sN v) (fv v)) (fv (fv (fv v)))=fv (fv v):=Subtype.ext (by
 rw[lV,lV,Xf,IW,IW,IW];exact aFM h)
theorem pE:rOf vg.zero:=by
 unfold rOf;rw[FA,mK]
theorem aAu (z:aM):rOf (lv z):=by
 by_cases h:z=aC.zero
 ·unfold lv;rw[dif_pos h];exact pE
 ·unfold rOf;rw[cW h];exact aWA (Nz (aLR h))
def Cb:Pt Fq→Pt Q2→Pt Q2→Vq
 | none,_,_=>vg.zero
 | some a,t,t'=>cv a t t'
theorem nR (t t':Pt Q2):Cb none t t'=vg.zero:=rfl
theorem iP (a:Fq×Fq) (t t':Pt Q2):Cb (some a) t t'=cv a t t':=rfl
def CV (P:C1) (T T':C2):Vq:=Cb P.1 T.1 T'.1
theorem bAC:Cyc aY.grp vg (fun T T'=>Cb none T.1 T'.1) where
 coc T T' T'':=by rw[nR,nR,nR,nR]
 comm T T':=by rw[nR,nR]
 zl T:=by rw[nR]
 opp T:=by rw[nR]
theorem bAB {a:Fq×Fq} (h:On F1 (fm 3) (some a)):Cyc aY.grp vg (fun T T'=>Cb (some a) T.1 T'.1) where
 coc T T' T'':=by
  rw[iP,iP,iP,iP,nM,nM];exact aSf h T.2 T'.2 T''.2
 comm T T':=by
  rw[iP,iP];exact Oi h T.2 T'.2
 zl T:=by
  rw[iP,show (aY.grp.zero:C2).1=none from rfl];exact Bd h T.1
 opp T:=by
  rw[iP,show (aY.grp.neg T).1=MB F2 T.1 from rfl];exact aSe h T.1
theorem bAA:∀{p:Pt Fq},On F1 (fm 3) p→Cyc aY.grp vg (fun T T'=>Cb p T.1 T'.1)
 | none,_=>bAC
 | some a,h=>bAB h
theorem aEg {a:Fq×Fq} (h:On F1 (fm 3) (some a)) {q:Pt Q2} (hq:On F2 dK q):cv a q none=vg.zero:=by
 rw[Oi h hq (show On F2 dK none from trivial),Bd h]
theorem aEh {a:Fq×Fq} (h:On F1 (fm 3) (some a)) {t t':Q2×Q2} (hn:t.1=t'.1∧F2.add t.2 t'.2=F2.zero):cv a (some t) (some t')=vg.zero:=AM (Gp h hn)
theorem aMx (a:Fq):aJ (i2 a)=i2 a:=Prod.ext rfl (bK F1)
theorem aMw (a:Q2):aJ (F2.neg a)=F2.neg (aJ a):=rfl
theorem Nu:Hi=F2.one:=by decide
theorem aWW:JB=kE:=by decide
theorem aWU:CL=iZ:=by decide
theorem aMr:Nt=nL:=by decide
theorem aVL (m d:Q2) (a b:Fq):cU (lT m d a b)=lT (F2.mul (aJ m) JB) (F2.mul (aJ d) Nt) a b:=by
 show ((F2.mul (aJ (i2 b)) Hi,F2.mul (aJ F2.zero) CL,F2.mul (aJ F2.zero) Ns),(F2.mul (aJ (F2.neg (F2.mul m (i2 a)))) JB,F2.mul (aJ (F2.neg d)) Nt,F2.mul (aJ F2.zero) fb5))=lT _ _ _ _;have e:F2.mul (F2.mul (aJ m) (i2 a)) JB=F2.mul (F2.mul (aJ m) JB) (i2 a):=by rw[F2.mul_assoc,F2.mul_comm (i2 a),←F2.mul_assoc]
 simp only[yU,F2.zero_mul,aMx,Nu,F2.mul_one,aMw,SY,F2.neg_mul,e];rfl
theorem aVM (n c:Fq) (x y:Q2):cU (lP n c x y)=lP n c (F2.mul (aJ x) CL) (F2.mul (aJ y) Nt):=by
 show ((F2.mul (aJ (F2.neg (i2 c))) Hi,F2.mul (aJ (F2.neg (F2.mul (i2 n) x))) CL,F2.mul (aJ F2.zero) Ns),(F2.mul (aJ F2.zero) JB,F2.mul (aJ y) Nt,F2.mul (aJ F2.zero) fb5))=lP _ _ _ _;simp only[yU,F2.zero_mul,aMx,Nu,F2.mul_one,aMw,SY,F2.neg_mul,F2.mul_assoc];rfl
theorem BS (p:Q2×Q2):LF (some p)=some (F2.mul (aJ p.1) iZ,F2.mul (aJ p.2) nL):=rfl
theorem aOD {t:Pt Q2} (h:On F2 dK t):On F2 dK (LF t):=by rw[sP]; exact aKY LR aY h
theorem aHC {t t':Pt Q2} (h:On F2 dK t) (h':On F2 dK t'):LF (hZ F2 dV t t')=hZ F2 dV (LF t) (LF t'):=by
 rw[sP,sP,sP];exact Xl LR aY h h'
theorem aQR {R:Type} (K:CR R) (Y M X k:R):K.sub (K.mul Y (K.mul (K.mul k k) k)) (K.mul (K.mul M k) (K.mul X (K.mul k k)))=K.mul (K.sub Y (K.mul M X)) (K.mul (K.mul k k) k) :=
 aE K (aU K [Y,M,X,k]) (Z0*(Z3*Z3*Z3)-Z1*Z3*(Z2*(Z3*Z3))) ((Z0-Z1*Z2)*(Z3*Z3*Z3)) (by kernel_rfl)
theorem aQQ (m:Q2) (t:Q2×Q2):hgt F2 (F2.mul (aJ m) kE) (F2.mul (aJ t.1) iZ,F2.mul (aJ t.2) nL)=F2.mul (aJ (hgt F2 m t)) nL:=by
 have e:aJ (hgt F2 m t)=F2.sub (aJ t.2) (F2.mul (aJ m) (aJ t.1)):=by
  unfold hgt;rw[LR.sub,SY]
 rw[e,←Gq,←EE];exact aQR F2 (aJ t.2) (aJ m) (aJ t.1) kE
theorem aQx {t t':Q2×Q2} (ht:On F2 dK (some t)) (ht':On F2 dK (some t')) (hn:¬(t.1=t'.1∧F2.add t.2 t'.2=F2.zero)) (a:Fq×Fq) :
  lnT (F2.mul (aJ t.1) iZ,F2.mul (aJ t.2) nL) (F2.mul (aJ t'.1) iZ,F2.mul (aJ t'.2) nL) a=cU (lnT t t' a):=by
 have hs:=VA LR aY (x1:=t.1) (y1:=t.2) (x2:=t'.1) (y2:=t'.2) ht ht' hn;rw[Gq,EE]at hs;rw[oQ,oQ,aVL];dsimp only;rw[hs,aQQ,aWW,aMr]
theorem aSg {p:Pt Fq} {t t':Pt Q2} (hp:On F1 (fm 3) p) (ht:On F2 dK t) (ht':On F2 dK t'):Cb p (LF t) (LF t')=fv (Cb p t t'):=by
 match p,t,t' with
 | none,_,_=>rw[nR,nR,oK]
 | some a,none,_=>rw[iP,iP,show LF none=none from rfl,Bd hp,Bd hp,oK]
 | some a,some t,none=>rw[iP,iP,show LF none=none from rfl,aEg hp (aOD ht),aEg hp ht,oK]
 | some a,some t,some t' =>
  rw[iP,iP]
  by_cases hn:t.1=t'.1∧F2.add t.2 t'.2=F2.zero
  ·rw[aEh hp hn,oK,BS,BS];refine aEh hp ⟨?_,?_⟩
   ·dsimp only;rw[hn.1]
   ·dsimp only;rw[←F2.add_mul,←aEx,hn.2,yU,F2.zero_mul]
  ·have h3:=aHC ht ht';rw[jD hn,BS,BS,BS]at h3;have hn':=DX (by rw[←h3]; exact Option.some_ne_none _);rw[BS,BS,yS hp hn,yS hp hn',aMo (wN (gV hp)),aQx ht ht' hn]
theorem aQq {p p' s:Pt Fq} {t:Pt Q2} (ht:On F2 dK t):KN p p' s (LF t)=fv (KN p p' s t):=by
 match p,p',s,t with
 | none,_,_,_=>rw[CG,CG,oK]
 | some p,none,_,_=>rw[CF,CF,oK]
 | some p,some q,none,_=>rw[CE,CE,oK]
 | some p,some q,some s,none=>rw[show LF none=none from rfl,NF,oK]
 | some p,some q,some s,some t =>
  rw[BS,CD,CD,aMo (AO (lZ ht)),wO,wO,aVM,aWU,aMr]
theorem Gk {p:Pt Fq} (hp:On F1 (fm 3) p) {t t':Q2×Q2} (hn:¬(t.1=t'.1∧F2.add t.2 t'.2=F2.zero)):Gl (some t) (some t') p=Cb p (some t) (some t'):=by
 match p with
 | none=>rw[ZW,nR]
 | some a=>rw[NE,iP,yS hp hn]
theorem Hp {p:Pt Fq} (hp:On F1 (fm 3) p) (t:Pt Q2):Cb p none t=vg.zero:=by
 match p with
 | none=>rw[nR]
 | some a=>rw[iP,Bd hp]
theorem Ho {p:Pt Fq} (hp:On F1 (fm 3) p) {t:Pt Q2} (ht:On F2 dK t):Cb p t none=vg.zero:=by
 match p with
 | none=>rw[nR]
 | some a=>rw[iP,aEg hp ht]
theorem Hq {p:Pt Fq} (hp:On F1 (fm 3) p) {t t':Q2×Q2} (hn:t.1=t'.1∧F2.add t.2 t'.2=F2.zero):Cb p (some t) (some t')=vg.zero:=by
 match p with
 | none=>rw[nR]
 | some a=>rw[iP,aEh hp hn]
theorem aPl {R:Type} {K:CR R} {t t':R×R} (hn:t.1=t'.1∧K.add t.2 t'.2=K.zero):t'=(t.1,K.neg t.2):=Prod.ext hn.1.symm (by
 apply K.add_cancel (a:=t.2);rw[hn.2,K.add_neg])
theorem aQP {p p':Pt Fq} {t t':Pt Q2} (hp:On F1 (fm 3) p) (hp':On F1 (fm 3) p') (ht:On F2 dK t) (ht':On F2 dK t') :
  vg.add (vg.add (Cb p t t') (Cb p' t t')) (KN p p' (hZ F1 cT p p') (hZ F2 dV t t'))=vg.add (Cb (hZ F1 cT p p') t t') (vg.add (KN p p' (hZ F1 cT p p') t) (KN p p' (hZ F1 cT p p') t')):=by
 have hs:=hp.add iO hp'
 match t,t' with
 | none,t'=>rw[Hp hp,Hp hp',Hp hs,NF,Bw,vg.zadd,vg.zadd,vg.zadd,show hZ F2 dV none t'=t' from rfl]
 | some t,none=>rw[Ho hp ht,Ho hp' ht,Ho hs ht,NF,Bw,vg.zadd,vg.addz,vg.zadd,show hZ F2 dV (some t) none=some t from rfl]
 | some t,some t' =>
  by_cases hn:t.1=t'.1∧F2.add t.2 t'.2=F2.zero
  ·rw[kO hn,Hq hp hn,Hq hp' hn,Hq hs hn,NF,Bw,Bw,aPl hn,←Ff,Ms hp hp' rfl ht,Bw]
  ·have r:=Nf hp hp' ht ht' (Option.some_ne_none _) (Option.some_ne_none _) (by rw[jD hn]; exact Option.some_ne_none _);rw[Gk hp hn,Gk hp' hn,Gk hs hn]at r;exact r
theorem aHB:GHom aY.grp aY.grp qC:=⟨Km⟩
def kJ (Q:C2):Prop:=aY.grp.ns oX Q=aY.grp.zero
def kN:Nat:=(sN+cI+cI*(cI*cI)-cI*cI)/oX
theorem aWo:sN+cI+cI*(cI*cI)=cI*cI+oX*kN:=by kernel_rfl
theorem aCQ {Q:C2} (h:kJ Q):tot aY.grp sN Q (qC Q) (qC (qC Q))=aY.grp.neg (qC (qC (qC Q))):=by
 have e:=(Gv Q).2 h;have e2:qC (qC Q)=aY.grp.ns (cI*cI) Q:=by rw[←e,GG,←e,aY.grp.ns_mul]
 have e3:qC (qC (qC Q))=aY.grp.ns (cI*(cI*cI)) Q:=by
  rw[e2,GG,←e];rw[aY.grp.ns_mul cI _ (cI*cI),aY.grp.ns_mul cI _ cI]
 refine OS ?_;rw[e3,e2,←e,←aY.grp.ns_add,←aY.grp.ns_add,aWo,aY.grp.ns_add,aY.grp.ns_mul oX,show aY.grp.ns oX Q=aY.grp.zero from h,aY.grp.ns_zero,aY.grp.addz]
theorem aJf {Q Q':C2} (h:kJ Q) (h':kJ Q'):kJ (aY.grp.add Q Q'):=by
 unfold kJ at h h' ⊢;rw[aY.grp.ns_sum,h,h',aY.grp.zadd]
theorem AS {Q:C2} (h:kJ Q):∀n,kJ (aY.grp.ns n Q)
 | 0=>aY.grp.ns_zero oX
 | n+1=>aJf (AS h n) h
theorem aOA {p:Pt Fq} (t t':Pt Q2):rOf (Cb p t t'):=by
 match p with
 | none=>rw[nR]; exact pE
 | some a=>rw[iP]; exact aAu _
theorem aHu (p p' s:Pt Fq) (t:Pt Q2):rOf (KN p p' s t):=by
 match p,p',s,t with
 | none,_,_,_=>rw[CG]; exact pE
 | some p,none,_,_=>rw[CF]; exact pE
 | some p,some q,none,_=>rw[CE]; exact pE
 | some p,some q,some s,none=>rw[NF]; exact pE
 | some p,some q,some s,some t=>rw[CD]; exact aAu _
theorem Vs (P:C1):Cyc aY.grp vg (CV P):=by
 unfold CV;exact bAA P.2
theorem aTR (P:C1) (g k:C2):CV P (qC g) (qC k)=fv (CV P g k):=by
 unfold CV;exact aSg P.2 g.2 k.2
theorem bAN (P:C1) (g k:C2):rOf (CV P g k):=by
 unfold CV;exact aOA _ _
theorem aTN (P P':C1) (g k:C2):vg.add (vg.add (CV P g k) (CV P' g k)) (HV P P' (aY.grp.add g k))=vg.add (CV (iO.grp.add P P') g k) (vg.add (HV P P' g) (HV P P' k)):=by
 unfold HV CV;rw[Aj,nM];exact aQP P.2 P'.2 g.2 k.2
theorem aTL (P P':C1) (g:C2):HV P P' (qC g)=fv (HV P P' g):=by
 unfold HV;exact aQq g.2
theorem bAK (P P':C1) (g:C2):rOf (HV P P' g):=by
 unfold HV;exact aHu _ _ _ _
def rM (P:C1) (Q:C2):Vq:=(fin (Vs P) sN qC Q).2
section
variable {G V:Type} {A:AG G} {B:AG V}
theorem aRJ {c:G→G→V} (C:Cyc A B c) {s:Nat} {ψ:G→G} {φ:V→V} (hψ:GHom A A ψ) (hc:∀g h,c (ψ g) (ψ h)=φ (c g h)) (hv:∀g h,B.add (B.add (B.ns s (c g h)) (φ (c g h))) (φ (φ (φ (c g h))))=φ (φ (c g h)))
  {P:G→Prop} (hP:∀Q,P Q→tot A s Q (ψ Q) (ψ (ψ Q))=A.neg (ψ (ψ (ψ Q)))):∀Q Q',P Q→P Q'→(fin C s ψ (A.add Q Q')).2=B.add (fin C s ψ Q).2 (fin C s ψ Q').2 :=
 fun Q Q' h h'=>(Vf C hψ hc C.neg (hv Q Q') (hP Q h) (hP Q' h')).symm
theorem aRK {c1 c2 c3:G→G→V} (C1:Cyc A B c1) (C2:Cyc A B c2) (C3:Cyc A B c3) {h:G→V} (hh:∀g k,B.add (B.add (c1 g k) (c2 g k)) (h (A.add g k))=B.add (c3 g k) (B.add (h g) (h k)))
  {s:Nat} {ψ:G→G} {φ:V→V} (hψ:∀g,h (ψ g)=φ (h g)) (hn:∀g,h (A.neg g)=B.neg (h g)) (hv:∀g,B.add (B.add (B.ns s (h g)) (φ (h g))) (φ (φ (φ (h g))))=φ (φ (h g)))
  {P:G→Prop} (hP:∀Q,P Q→tot A s Q (ψ Q) (ψ (ψ Q))=A.neg (ψ (ψ (ψ Q)))):∀Q,P Q→(fin C3 s ψ Q).2=B.add (fin C1 s ψ Q).2 (fin C2 s ψ Q).2 :=
 fun Q q=>(Vg C1 C2 C3 hh hψ hn (hv Q) (hP Q q)).symm
end
theorem aTQ (P:C1) (g k:C2):vg.add (vg.add (vg.ns sN (CV P g k)) (fv (CV P g k))) (fv (fv (fv (CV P g k))))=fv (fv (CV P g k)):=aDy (bAN P g k)
theorem aTK (P P':C1) (g:C2):vg.add (vg.add (vg.ns sN (HV P P' g)) (fv (HV P P' g))) (fv (fv (fv (HV P P' g))))=fv (fv (HV P P' g)):=aDy (bAK P P' g)
theorem aMG (P:C1) {Q Q':C2} (h:kJ Q) (h':kJ Q'):rM P (aY.grp.add Q Q')=vg.add (rM P Q) (rM P Q') :=
 aRJ (Vs P) aHB (aTR P) (aTQ P) (P:=kJ) (fun Q=>aCQ) Q Q' h h'
theorem aMH (P P':C1) {Q:C2} (h:kJ Q):rM (iO.grp.add P P') Q=vg.add (rM P Q) (rM P' Q) :=
 aRK (Vs P) (Vs P') (Vs (iO.grp.add P P')) (h:=HV P P') (aTN P P') (aTL P P') (aTM P P') (aTK P P') (P:=kJ) (fun Q=>aCQ) Q h
theorem aES {Q:C2} (h:kJ Q):rM iO.grp.zero Q=vg.zero:=by
 have e:=aMH iO.grp.zero iO.grp.zero h;rw[iO.grp.zadd]at e;apply vg.cancel (a:=rM iO.grp.zero Q);rw[←e,vg.addz]
theorem Jk:kJ aY.grp.zero:=aY.grp.ns_zero oX
theorem aER (P:C1):rM P aY.grp.zero=vg.zero:=by
 have e:=aMG P Jk Jk;rw[aY.grp.zadd]at e;apply vg.cancel (a:=rM P aY.grp.zero);rw[←e,vg.addz]
theorem aEQ (P:C1) {Q:C2} (h:kJ Q):∀m,rM (iO.grp.ns m P) Q=vg.ns m (rM P Q)
 | 0=>aES h
 | m+1=>by
  show rM (iO.grp.add (iO.grp.ns m P) P) Q=vg.add (vg.ns m (rM P Q)) (rM P Q);rw[aMH _ _ h,aEQ P h m]
theorem aEP (P:C1) {Q:C2} (h:kJ Q):∀m,rM P (aY.grp.ns m Q)=vg.ns m (rM P Q)
 | 0=>aER P
 | m+1=>by
  show rM P (aY.grp.add (aY.grp.ns m Q) Q)=vg.add (vg.ns m (rM P Q)) (rM P Q);rw[aMG P (AS h m) h,aEP P h m]
theorem aKw (P:C1) {Q:C2} (h:kJ Q) (m n:Nat):rM (iO.grp.ns m P) (aY.grp.ns n Q)=vg.ns (n*m) (rM P Q):=by
 rw[aEQ P (AS h n),aEP P h,vg.ns_mul]
structure Walks (f:aM) (p:J2) (T:C2) (F:Vq):Prop where
 ne:f≠aC.zero
 val:lv f=F
 tells:fT F2 dV p=T.1
 fin:T.1≠none
theorem Walks.z {f:aM} {p:J2} {T:C2} {F:Vq} (w:Walks f p T F):p.2.2≠F2.zero:=fun e=>w.fin (by rw[←w.tells]; exact dJ e)
theorem Walks.on {f:aM} {p:J2} {T:C2} {F:Vq} (w:Walks f p T F):On F2 dK (fT F2 dV p):=by rw[w.tells]; exact T.2
theorem RD {a b:aM} (ha:a≠aC.zero) (hb:b≠aC.zero):lv (aC.mul a b)=vg.add (lv a) (lv b):=Subtype.ext (by
 rw[lV,cW ha,cW hb,cW (nY ha hb),dF ha hb])
theorem Walks.sq {f:aM} {p:J2} {T:C2} {F:Vq} (w:Walks f p T F):Walks (aC.mul f f) p T (vg.add F F):=⟨nY w.ne w.ne,by rw[RD w.ne w.ne,w.val],w.tells,w.fin⟩
def xF (p:J2) (a:Fq×Fq):aM:=Wj (tF p.1 p.2.1 p.2.2) (tS p.1 p.2.1 p.2.2) (tH p.1 p.2.1 p.2.2) a
def tM (p:J2) (q:Q2×Q2) (a:Fq×Fq):aM:=Wj (Wm p.1 p.2.2 q.1) (tO p.2.1 p.2.2 q.2) (F2.sub (F2.mul (tO p.2.1 p.2.2 q.2) q.1) (F2.mul (Wm p.1 p.2.2 q.1) q.2)) a
def gU (p:J2) (q:Q2×Q2):J2:=(sX F2 p.1 (rZ p.1 p.2.2 q.1) (tO p.2.1 p.2.2 q.2),sY F2 p.1 p.2.1 (rZ p.1 p.2.2 q.1) (tO p.2.1 p.2.2 q.2),F2.mul p.2.2 (rZ p.1 p.2.2 q.1))
theorem aCK (p:J2) (q:Q2×Q2):IR F2 p (q.1,q.2,F2.one)=gU p q:=by
 unfold IR gU CJ Ag EF CI rZ tO;simp only[F2.mul_one]
theorem aYa {P:C1} {a:Fq×Fq} (h:P.1=some a) (T T':C2):CV P T T'=cv a T.1 T'.1:=by
 unfold CV;rw[h,iP]
theorem Walks.tan {P:C1} {a:Fq×Fq} (h:P.1=some a) {f:aM} {p:J2} {T:C2} {F:Vq} (w:Walks f p T F) (h2:(aY.grp.add T T).1≠none):Walks (aC.mul f (xF p a)) (cK F2 p) (aY.grp.add T T) (vg.add F (CV P T T)):=by
 have ha:On F1 (fm 3) (some a):=by rw[←h]; exact P.2
 have t:xF p a≠aC.zero∧lv (xF p a)=cv a (fT F2 dV p) (fT F2 dV p):=aNR ha (x:=p.1) (y:=p.2.1) (z:=p.2.2) w.z w.on;refine⟨nY w.ne t.1,?_,?_,h2⟩
 ·rw[aYa h,←w.tells];rw[RD w.ne t.1,w.val,t.2]
 ·rw[RL aY w.on,w.tells,nM]
theorem aOr {x y x' y':Q2} (h:On F2 dK (some (x,y))) (h':On F2 dK (some (x',y'))) (e:x=x'):(x',y')=(x,y)∨(x',y')=(x,F2.neg y):=by
 subst e
 by_cases hy:y=y'
 ·exact Or.inl (by rw[hy])
 ·refine Or.inr (Prod.ext rfl ?_);have h1:F2.mul y y=F2.add (F2.mul x (F2.mul x x)) dK:=h;have h2:F2.mul y' y'=F2.add (F2.mul x (F2.mul x x)) dK:=h';have s:=FO aY (h1.trans h2.symm) hy;apply F2.add_cancel (a:=y);show F2.add y y'=F2.add y (F2.neg y);rw[s,F2.add_neg]
theorem Walks.cho {P:C1} {a:Fq×Fq} (h:P.1=some a) {f:aM} {p:J2} {T Q:C2} {q:Q2×Q2} (hq:Q.1=some q) {F:Vq} (w:Walks f p T F) (h1:T≠Q) (h2:(aY.grp.add T Q).1≠none) :
  Walks (aC.mul f (tM p q a)) (gU p q) (aY.grp.add T Q) (vg.add F (CV P T Q)):=by
 have ha:On F1 (fm 3) (some a):=by rw[←h]; exact P.2
 have hqo:On F2 dK (some (q.1,q.2)):=by have:=Q.2; rw[hq]at this; exact this
 have hA:rZ p.1 p.2.2 q.1≠F2.zero:=fun e=>by
  have ej:=dT (K:=F2) (inv:=dV) (p:=p) w.z;have hi:F2.mul p.2.2 (dV p.2.2)=F2.one:=aY.F.inv p.2.2 w.z;rw[w.tells]at ej;have ho:=T.2;rw[ej]at ho;have ex:q.1=F2.mul p.1 (F2.mul (dV p.2.2) (dV p.2.2)):=by
   have e1:F2.mul q.1 (F2.mul p.2.2 p.2.2)=p.1:=iM e;rw[←e1];have e2:=aMy (x:=q.1) (z:=dV p.2.2) (i:=p.2.2) (by rw[F2.mul_comm]; exact hi);exact e2.symm
  rcases aOr ho hqo ex.symm with s|s
  ·exact h1 (Subtype.ext (by rw[ej,hq]; exact congrArg some s.symm))
  ·refine h2 ?_;rw[nM,ej,hq];refine kO ⟨?_,?_⟩
   ·exact (congrArg Prod.fst s).symm
   ·show F2.add _ q.2=F2.zero;rw[show q.2=_ from congrArg Prod.snd s];exact F2.add_neg _
 have t:tM p q a≠aC.zero∧lv (tM p q a)=cv a (fT F2 dV p) (some q):=aSA ha (x:=p.1) (y:=p.2.1) (z:=p.2.2) (u:=q.1) (v:=q.2) w.z w.on hqo hA;refine⟨nY w.ne t.1,?_,?_,h2⟩
 ·rw[aYa h,←w.tells,hq];rw[RD w.ne t.1,w.val,t.2]
 ·have o:=aY.jto_one q.1 q.2;have j:=My aY (p:=p) (q:=(q.1,q.2,F2.one)) w.on (by rw[o]; exact hqo) w.z aY.F.ne (fun k=>hA (by
   have k1:=k.1;unfold CJ EF at k1;simp only[F2.mul_one]at k1;exact k1))
  rw[aCK,o,w.tells]at j;rw[nM,hq];exact j
theorem aHE:∀q,q∈[oX]→dW q:=fun q hq=>by
 have e:q=oX:=by simpa using hq
 rw[e];exact aAF
theorem Ky:0<oX:=of_decide_eq_true (by kernel_rfl)
theorem aQj {Q:C2} (h:kJ Q) (m:Nat):aY.grp.ns m Q=aY.grp.ns (m%oX) Q:=by
 conv=>lhs; rw[←Nat.mod_add_div m oX]
 rw[aY.grp.ns_add,aY.grp.ns_mul,show aY.grp.ns oX Q=aY.grp.zero from h,aY.grp.ns_zero,aY.grp.addz]
theorem Gf (Q:C2):aY.grp.ns 1 Q=Q:=aY.grp.zadd Q
theorem aBo:oX/oX=1:=Nat.div_self Ky
theorem aCe {Q:C2} (h:kJ Q) (h0:Q≠aY.grp.zero) {m:Nat} (hm:m%oX≠0):aY.grp.ns m Q≠aY.grp.zero:=by
 rw[aQj h];refine aY.grp.exact (N:=oX) (l:=[oX]) (Nat.mul_one oX) aHE h (fun q hq => ?_) _ (Nat.pos_of_ne_zero hm) (Nat.mod_lt _ Ky);have e:q=oX:=by simpa using hq
 rw[e,aBo,Gf];exact h0
def okc (m k:Nat):Bool:=decide ((m+k)%oX≠0)&&decide ((m+k*(oX-1))%oX≠0)
theorem QE {T:C2} (h:T≠aY.grp.zero):T.1≠none:=fun e=>h (Subtype.ext e)
theorem aIw {Q:C2} (h:kJ Q) (h0:Q≠aY.grp.zero) {m k:Nat} (o:okc m k=true):(aY.grp.add (aY.grp.ns m Q) (aY.grp.ns k Q)).1≠none:=by
 rw[←aY.grp.ns_add];unfold okc at o;rw[Bool.and_eq_true]at o;exact QE (aCe h h0 (of_decide_eq_true o.1))
theorem aPk:1+(oX-1)=oX:=by kernel_rfl
theorem Mg {Q:C2} (h:kJ Q):aY.grp.ns (oX-1) Q=aY.grp.neg Q:=by
 apply aY.grp.cancel (a:=Q);rw[aY.grp.addn]
 conv=>lhs; rw[←Gf Q]
 rw[Gf Q];have e:=aY.grp.ns_add 1 Q (oX-1);rw[aPk,Gf,show aY.grp.ns oX Q=aY.grp.zero from h]at e;exact e.symm
theorem aPR {Q:C2} (h:kJ Q) (h0:Q≠aY.grp.zero) {m k:Nat} (o:okc m k=true):aY.grp.ns m Q≠aY.grp.ns k Q:=fun e=>by
 unfold okc at o;rw[Bool.and_eq_true]at o;refine aCe h h0 (of_decide_eq_true o.2) ?_;rw[aY.grp.ns_add,e,aY.grp.ns_mul,Mg (AS h k),aY.grp.addn]
theorem Walks.cho_n {P:C1} {a:Fq×Fq} (h:P.1=some a) {f:aM} {p:J2} {Q R:C2} {q:Q2×Q2} {F:Vq} (hG:kJ Q) (h0:Q≠aY.grp.zero) {m k:Nat} (hk:aY.grp.ns k Q=R) (hq:R.1=some q)
  (w:Walks f p (aY.grp.ns m Q) F) (o:okc m k=true):Walks (aC.mul f (tM p q a)) (gU p q) (aY.grp.add (aY.grp.ns m Q) R) (vg.add F (CV P (aY.grp.ns m Q) R)):=by
 subst hk;exact w.cho h hq (aPR hG h0 o) (aIw hG h0 o)
def mst (a:Fq×Fq) (q:Q2×Q2) (d:Int) (s:aM×J2):aM×J2 :=
 if d=1 then (aC.mul (aC.mul (aC.mul s.1 s.1) (xF s.2 a)) (tM (cK F2 s.2) q a),gU (cK F2 s.2) q)
 else if d = -1 then (aC.mul (aC.mul (aC.mul s.1 s.1) (xF s.2 a)) (tM (cK F2 s.2) (q.1,F2.neg q.2) a),gU (cK F2 s.2) (q.1,F2.neg q.2))
 else (aC.mul (aC.mul s.1 s.1) (xF s.2 a),cK F2 s.2)
def AK (a:Fq×Fq) (q:Q2×Q2):List Int→aM×J2→aM×J2
 | [],s=>s
 | d::ds,s=>AK a q ds (mst a q d s)
def nxt (d:Int) (m:Nat):Nat:=if d=1 then m+m+1 else if d = -1 then m+m+(oX-1)else m+m
def Jo (d:Int) (m:Nat):Bool:=decide ((m+m)%oX≠0)&&(if d=1 then okc (m+m) 1 else if d = -1 then okc (m+m) (oX-1)else true)
def aFI:List Int→Nat→Bool
 | [],_=>true
 | d::ds,m=>Jo d m&&aFI ds (nxt d m)
def aCg:List Int→Nat→Nat
 | [],m=>m
 | d::ds,m=>aCg ds (nxt d m)
theorem aQo {P:C1} {a:Fq×Fq} (h:P.1=some a) {Q:C2} {q:Q2×Q2} (hq:Q.1=some q) (hG:kJ Q) (h0:Q≠aY.grp.zero) {d:Int} {m:Nat} {s:aM×J2} {F:Vq} (w:Walks s.1 s.2 (aY.grp.ns m Q) F) (o:Jo d m=true) :
  Walks (mst a q d s).1 (mst a q d s).2 (aY.grp.ns (nxt d m) Q) (stF aY.grp vg (CV P) Q d F (aY.grp.ns m Q))∧Wi aY.grp Q d (aY.grp.ns m Q)=aY.grp.ns (nxt d m) Q:=by
 unfold Jo at o;rw[Bool.and_eq_true]at o;have hd:aY.grp.add (aY.grp.ns m Q) (aY.grp.ns m Q)=aY.grp.ns (m+m) Q:=(aY.grp.ns_add m Q m).symm;have w2:=w.sq.tan h (by rw[hd]; exact QE (aCe hG h0 (of_decide_eq_true o.1)));rw[hd]at w2;unfold mst nxt stF Wi
 by_cases h1:d=1
 ·simp only[if_pos h1]at o ⊢;have w3:=w2.cho_n h hG h0 (Gf Q) hq o.2;rw[hd];have e:aY.grp.ns (m+m+1) Q=aY.grp.add (aY.grp.ns (m+m) Q) Q:=rfl;rw[e];exact⟨w3,rfl⟩
 ·simp only[if_neg h1]at o ⊢
  by_cases h2:d = -1
  ·simp only[if_pos h2]at o ⊢;have hq':(aY.grp.neg Q).1=some (q.1,F2.neg q.2):=by
    show MB F2 Q.1=_;rw[hq];rfl
   have w3:=w2.cho_n h hG h0 (Mg hG) hq' o.2;rw[hd];have e:aY.grp.ns (m+m+(oX-1)) Q=aY.grp.add (aY.grp.ns (m+m) Q) (aY.grp.neg Q):=by rw[aY.grp.ns_add,Mg hG]
   rw[e];exact⟨w3,rfl⟩
  ·simp only[if_neg h2]at o ⊢;exact⟨w2,hd⟩
theorem Ml {P:C1} {a:Fq×Fq} (h:P.1=some a) {Q:C2} {q:Q2×Q2} (hq:Q.1=some q) (hG:kJ Q) (h0:Q≠aY.grp.zero):∀(ds:List Int) (m:Nat) (s:aM×J2) (F:Vq),Walks s.1 s.2 (aY.grp.ns m Q) F→aFI ds m=true →
  Walks (AK a q ds s).1 (AK a q ds s).2 (aY.grp.ns (aCg ds m) Q) (aAj aY.grp vg (CV P) Q ds F (aY.grp.ns m Q))∧zS aY.grp Q ds (aY.grp.ns m Q)=aY.grp.ns (aCg ds m) Q
 | [],m,s,F,w,_=>⟨w,rfl⟩
 | d::ds,m,s,F,w,o=>by
  have o:(Jo d m&&aFI ds (nxt d m))=true:=o;rw[Bool.and_eq_true]at o;have r:=aQo h hq hG h0 w o.1;have r2:=Ml h hq hG h0 ds (nxt d m) (mst a q d s) _ r.1 o.2;show Walks (AK a q ds (mst a q d s)).1 (AK a q ds (mst a q d s)).2 (aY.grp.ns (aCg ds (nxt d m)) Q) (aAj aY.grp vg (CV P) Q ds (stF aY.grp vg (CV P) Q d F (aY.grp.ns m Q)) (Wi aY.grp Q d (aY.grp.ns m Q)))∧zS aY.grp Q ds (Wi aY.grp Q d (aY.grp.ns m Q))=_;rw[r.2];exact r2
def uL:List Int:=[0,-1,0,1,0,0,0,-1,0,-1,0,0,0,-1,0,1,0,-1,0,0,-1,0,0,0,0,0,1,0,0,-1,0,1,0,0,-1,0,0,0,0,-1,0,1,0,0,0,-1,0,-1,0,0,1,0,0,0,-1,0,0,-1,0,1,0,1,0,0,0]
theorem bAx:hdg uL 1=(sN:Int):=by kernel_rfl
theorem aSa:aFI uL 1=true:=by kernel_rfl
def aDS:Nat:=aCg uL 1
theorem aXf:okc aDS cI=true:=by kernel_rfl
theorem aXe:okc (aDS+cI) (cI*cI*(oX-1))=true:=by kernel_rfl
def gS (q:Q2×Q2):Q2×Q2:=(F2.mul (aJ q.1) iZ,F2.mul (aJ q.2) nL)
def NB (q:Q2×Q2):Q2×Q2:=(q.1,F2.neg q.2)
def mil (a:Fq×Fq) (q:Q2×Q2):aM :=
 aC.mul (aC.mul (AK a q uL (aC.one,(q.1,q.2,F2.one))).1 (tM (AK a q uL (aC.one,(q.1,q.2,F2.one))).2 (gS q) a)) (tM (gU (AK a q uL (aC.one,(q.1,q.2,F2.one))).2 (gS q)) (NB (gS (gS q))) a)
theorem Mp {P:C1} {a:Fq×Fq} (h:P.1=some a) {Q:C2} {q:Q2×Q2} (hq:Q.1=some q) (hG:kJ Q):mil a q≠aC.zero∧lv (mil a q)=rM P Q:=by
 have h0:Q≠aY.grp.zero:=fun e=>by rw[e]at hq; exact absurd (show (none:Pt Q2)=some q from hq) (by intro z; cases z)
 have w0:Walks aC.one (q.1,q.2,F2.one) (aY.grp.ns 1 Q) vg.zero:=by
  rw[Gf];exact⟨jJ.1,AM ⟨jJ.1,yJ⟩,by rw[hq]; exact aY.jto_one q.1 q.2,QE h0⟩
 have r:=Ml h hq hG h0 uL 1 (aC.one,(q.1,q.2,F2.one)) vg.zero w0 aSa;rw[Gf]at r;unfold mil;generalize AK a q uL (aC.one,(q.1,q.2,F2.one))=s at r ⊢;obtain⟨w,rT⟩:=r;have e1:(qC Q).1=some (gS q):=by
  show LF Q.1=_;rw[hq];rfl
 have e2:(aY.grp.neg (qC (qC Q))).1=some (NB (gS (gS q))):=by
  show MB F2 (LF (qC Q).1)=_;rw[e1];rfl
 have k1:aY.grp.ns cI Q=qC Q:=(Gv Q).2 hG;have k2:aY.grp.ns (cI*cI*(oX-1)) Q=aY.grp.neg (qC (qC Q)):=by
  rw[aY.grp.ns_mul,Mg (AS hG _),aY.grp.ns_mul,k1,←GG,k1]
 have w1:=w.cho_n h hG h0 k1 e1 aXf;have e3:aY.grp.add (aY.grp.ns aDS Q) (qC Q)=aY.grp.ns (aDS+cI) Q:=by rw[aY.grp.ns_add,k1]
 have w1':Walks _ _ (aY.grp.add (aY.grp.ns aDS Q) (qC Q)) _:=w1;rw[e3]at w1';have w2:=w1'.cho_n h hG h0 k2 e2 aXe;refine⟨w2.ne,?_⟩;rw[w2.val];have f:=congrArg Prod.snd (aGN (Vs P) Q bAx qC);unfold rM;rw[f,rT,←e3];rfl
open Go.RowKit
theorem At.pos (a:At):0<a.sz:=by cases a<;>simp[At.sz]
theorem Oe (l:List At):dp l 0=some l:=by cases l<;>rfl
theorem aGa (l:List At):tk l 0=some []:=by cases l<;>rfl
theorem EH:∀(x y:List At) (m:Nat),dp (x++y) (cO x+m)=dp y m
 | [],y,m=>by show dp y (0+m)=_; rw[Nat.zero_add]
 | a::x,y,m=>by
  have h:=a.pos;have e:∀n,dp (a::(x++y)) n=(bif Nat.beq n 0 then some (a::(x++y))else bif Nat.ble a.sz n then dp (x++y) (n-a.sz)else none):=fun _=>rfl
  show dp (a::(x++y)) (a.sz+cO x+m)=_;rw[e];have e1:Nat.beq (a.sz+cO x+m) 0=false:=by cases hb:Nat.beq (a.sz+cO x+m) 0; rfl; have:=Nat.eq_of_beq_eq_true hb; omega
  have e2:Nat.ble a.sz (a.sz+cO x+m)=true:=Nat.ble_eq_true_of_le (by omega);rw[e1,e2,show a.sz+cO x+m-a.sz=cO x+m by omega];exact EH x y m
theorem Js:∀(x y:List At) (m:Nat) (t:List At),tk y m=some t→tk (x++y) (cO x+m)=some (x++t)
 | [],y,m,t,h=>by show tk y (0+m)=_; rw[Nat.zero_add]; exact h
 | a::x,y,m,t,h=>by
  have hp:=a.pos;show tk (a::(x++y)) (a.sz+cO x+m)=_;unfold tk;have e1:Nat.beq (a.sz+cO x+m) 0=false:=by cases hb:Nat.beq (a.sz+cO x+m) 0; rfl; have:=Nat.eq_of_beq_eq_true hb; omega
  have e2:Nat.ble a.sz (a.sz+cO x+m)=true:=Nat.ble_eq_true_of_le (by omega);rw[e1,e2,show a.sz+cO x+m-a.sz=cO x+m by omega];show (tk (x++y) (cO x+m)).map (a :: ·)=_;rw[Js x y m t h];rfl
theorem EI:∀(x y:List At) (n:Nat) (r:List At),dp x n=some r→dp (x++y) n=some (r++y)
 | [],y,n,r,h=>by
  unfold dp at h;cases hb:Nat.beq n 0<;>rw[hb]at h
  ·cases h
  ·cases h;rw[Nat.eq_of_beq_eq_true hb];exact Oe y
 | a::x,y,n,r,h=>by
  unfold dp at h;show dp (a::(x++y)) n=_;unfold dp;cases hb:Nat.beq n 0<;>rw[hb]at h
  ·cases hs:Nat.ble a.sz n<;>rw[hs]at h
   ·cases h
   ·exact EI x y _ r h
  ·cases h; rfl
theorem PA:∀(x y:List At) (n:Nat) (t:List At),tk x n=some t→tk (x++y) n=some t
 | [],y,n,t,h=>by
  unfold tk at h;cases hb:Nat.beq n 0<;>rw[hb]at h
  ·cases h
  ·cases h;rw[Nat.eq_of_beq_eq_true hb];exact aGa y
 | a::x,y,n,t,h=>by
  unfold tk at h;show tk (a::(x++y)) n=_;unfold tk;cases hb:Nat.beq n 0<;>rw[hb]at h
  ·cases hs:Nat.ble a.sz n<;>rw[hs]at h
   ·cases h
   ·have h:(tk x (n-a.sz)).map (a :: ·)=some t:=h;cases hr:tk x (n-a.sz)with
    | none=>rw[hr]at h; cases h
    | some t' =>
     rw[hr]at h;show (tk (x++y) (n-a.sz)).map (a :: ·)=_;rw[PA x y _ _ hr];exact h
  ·cases h; rfl
abbrev Wk:=(Fq×Fq)×(Q2×Q2)×J2
def wA (W:Wk):List At:=[.f W.1.1,.f W.1.2,.c (.bool false),.f W.2.1.1.1,.f W.2.1.1.2,.f W.2.1.2.1,.f W.2.1.2.2,.c (.bool false),.f W.2.2.1.1,.f W.2.2.1.2,.f W.2.2.2.1.1,.f W.2.2.2.1.2,.f W.2.2.2.2.1,.f W.2.2.2.2.2]
def rows:List Wk→List At
 | []=>[]
 | W::r=>wA W++rows r
theorem xO:∀(a b:List Wk),rows (a++b)=rows a++rows b
 | [],b=>rfl
 | W::a,b=>by show wA W++rows (a++b)=(wA W++rows a)++rows b; rw[xO a b,List.append_assoc]
theorem PT:∀Ws:List Wk,cO (rows Ws)=50*Ws.length
 | []=>rfl
 | W::r=>by
  show cO (wA W++rows r)=_;rw[wQ,PT r,List.length_cons];show 50+_=_;omega
theorem Ke {Ws:List Wk} {j:Nat} {W:Wk} (h:Ws[j]?=some W):∃a b,Ws=a++W::b∧a.length=j:=by
 obtain⟨hlt,he⟩:=List.getElem?_eq_some_iff.1 h;exact⟨Ws.take j,Ws.drop (j+1),by rw[←he,List.getElem_cons_drop hlt,List.take_append_drop],by rw[List.length_take]; omega⟩
theorem fL {Ws:List Wk} {j o n:Nat} {W:Wk} {s:List At} (h:Ws[j]?=some W) (hs:fP (wA W) o n=some s):fP (rows Ws) (50*j+o) n=some s:=by
 obtain⟨a,b,rfl,rfl⟩:=Ke h;rw[xO,←PT];show fP (rows a++(wA W++rows b)) _ n=_;unfold fP at hs ⊢;rw[EH];cases hd:dp (wA W) o with
 | none=>rw[hd]at hs; cases hs
 | some r =>
  rw[hd]at hs;rw[EI _ _ _ _ hd];exact PA _ _ _ _ hs
theorem pF {Ws:List Wk} {j o:Nat} {W W':Wk} {v:List At} (h:Ws[j]?=some W) (hs:put (wA W) o v=some (wA W')):put (rows Ws) (50*j+o) v=some (rows (Ws.set j W')):=by
 obtain⟨a,b,rfl,rfl⟩:=Ke h;rw[xO,←PT];have e:(a++W::b).set a.length W'=a++W'::b:=by simp
 rw[e,xO];show put (rows a++(wA W++rows b)) _ v=some (rows a++(wA W'++rows b));unfold put at hs ⊢;cases ht:tk (wA W) o with
 | none=>rw[ht]at hs; cases hs
 | some t =>
  cases hd:dp (wA W) o with
  | none=>rw[ht,hd]at hs; cases hs
  | some r =>
   rw[ht,hd]at hs;simp only at hs;cases hr:dp r (cO v)with
   | none=>rw[hr]at hs; cases hs
   | some s =>
    rw[hr]at hs;rw[Js _ _ _ _ (PA _ (rows b) _ _ ht),EH,EI _ (rows b) _ _ hd];simp only;rw[EI _ (rows b) _ _ hr];simp only[Option.some.injEq]at hs ⊢;rw[←hs];simp only[List.append_assoc]
section
variable {R A Q S:Type} (K:CR R) (lfG:A→Q→Int→S→R) (npG:Q→Int→S→S) (ewG:A→Q→S→R)
def jH (d:Int):R→List (A×Q×S)→R
 | f,[]=>f
 | f,W::r=>jH d (K.mul f (lfG W.1 W.2.1 d W.2.2)) r
def Yn (d:Int) (W:A×Q×S):A×Q×S:=(W.1,W.2.1,npG W.2.1 d W.2.2)
def mJ:List Int→R×List (A×Q×S)→R×List (A×Q×S)
 | [],s=>s
 | d::ds,s=>mJ ds (jH K lfG d (K.mul s.1 s.1) s.2,s.2.map (Yn npG d))
def mE:R→List (A×Q×S)→R
 | f,[]=>f
 | f,W::r=>mE (K.mul f (ewG W.1 W.2.1 W.2.2)) r
def dS:List R→R
 | []=>K.one
 | x::r=>K.mul x (dS r)
def aCl (a:A) (q:Q) (d:Int) (s:R×S):R×S:=(K.mul (K.mul s.1 s.1) (lfG a q d s.2),npG q d s.2)
def yH (a:A) (q:Q):List Int→R×S→R×S
 | [],s=>s
 | d::ds,s=>yH a q ds (aCl K lfG npG a q d s)
def wG (x:(A×Q)×(R×S)):A×Q×S:=(x.1.1,x.1.2,x.2.2)
def sxG (d:Int) (x:(A×Q)×(R×S)):(A×Q)×(R×S):=(x.1,aCl K lfG npG x.1.1 x.1.2 d x.2)
theorem NG (d:Int):∀(l:List ((A×Q)×(R×S))) (f:R),jH K lfG d f (l.map wG)=K.mul f (dS K (l.map fun x=>lfG x.1.1 x.1.2 d x.2.2))
 | [],f=>(K.mul_one f).symm
 | x::r,f=>by
  show jH K lfG d (K.mul f (lfG x.1.1 x.1.2 d x.2.2)) (r.map wG)=K.mul f (K.mul (lfG x.1.1 x.1.2 d x.2.2) _);rw[NG d r,K.mul_assoc]
theorem aHi (z y P L:R):K.mul (K.mul (K.mul z z) y) (K.mul (K.mul P P) L)=K.mul (K.mul (K.mul z P) (K.mul z P)) (K.mul y L) :=
 aE K (aU K [z,y,P,L]) (Z0*Z0*Z1*(Z2*Z2*Z3)) (Z0*Z2*(Z0*Z2)*(Z1*Z3)) (by kernel_rfl)
theorem aHj (a b c d:R):K.mul (K.mul a c) (K.mul b d)=K.mul (K.mul a b) (K.mul c d) :=
 aE K (aU K [a,b,c,d]) (Z0*Z2*(Z1*Z3)) (Z0*Z1*(Z2*Z3)) (by kernel_rfl)
theorem GH (d:Int):∀l:List ((A×Q)×(R×S)),dS K ((l.map (sxG K lfG npG d)).map fun x=>x.2.1)=K.mul (K.mul (dS K (l.map fun x=>x.2.1)) (dS K (l.map fun x=>x.2.1))) (dS K (l.map fun x=>lfG x.1.1 x.1.2 d x.2.2))
 | []=>by show K.one=K.mul (K.mul K.one K.one) K.one; rw[K.mul_one,K.mul_one]
 | x::r=>by
  show K.mul (K.mul (K.mul x.2.1 x.2.1) (lfG x.1.1 x.1.2 d x.2.2)) (dS K ((r.map (sxG K lfG npG d)).map fun x=>x.2.1))=K.mul (K.mul (K.mul x.2.1 (dS K (r.map fun x=>x.2.1))) (K.mul x.2.1 (dS K (r.map fun x=>x.2.1)))) (K.mul (lfG x.1.1 x.1.2 d x.2.2) (dS K (r.map fun x=>lfG x.1.1 x.1.2 d x.2.2)));rw[GH d r];exact aHi K _ _ _ _
theorem Kd:∀(ds:List Int) (l:List ((A×Q)×(R×S))),mJ K lfG npG ds (dS K (l.map fun x=>x.2.1),l.map wG)=(dS K (l.map fun x=>(yH K lfG npG x.1.1 x.1.2 ds x.2).1),l.map fun x=>(x.1.1,x.1.2,(yH K lfG npG x.1.1 x.1.2 ds x.2).2))
 | [],l=>rfl
 | d::ds,l=>by
  show mJ K lfG npG ds (jH K lfG d (K.mul (dS K (l.map fun x=>x.2.1)) (dS K (l.map fun x=>x.2.1))) (l.map wG),(l.map wG).map (Yn npG d))=_;have h:=Kd ds (l.map (sxG K lfG npG d));rw[GH]at h;rw[NG];have e:(l.map wG).map (Yn npG d)=(l.map (sxG K lfG npG d)).map wG:=by
   rw[List.map_map,List.map_map];rfl
  rw[e,h,List.map_map,List.map_map];rfl
theorem Ay:∀(l:List (A×Q×S)) (f:R),mE K ewG f l=K.mul f (dS K (l.map fun W=>ewG W.1 W.2.1 W.2.2))
 | [],f=>(K.mul_one f).symm
 | W::r,f=>by
  show mE K ewG (K.mul f (ewG W.1 W.2.1 W.2.2)) r=K.mul f (K.mul (ewG W.1 W.2.1 W.2.2) _);rw[Ay r,K.mul_assoc]
theorem ME {α:Type} (g h:α→R):∀l:List α,K.mul (dS K (l.map g)) (dS K (l.map h))=dS K (l.map fun x=>K.mul (g x) (h x))
 | []=>K.one_mul _
 | x::r=>by
  show K.mul (K.mul (g x) (dS K (r.map g))) (K.mul (h x) (dS K (r.map h)))=K.mul (K.mul (g x) (h x)) _;rw[←ME g h r];exact aHj K _ _ _ _
theorem MD {α:Type} (g:α→R) (hg:∀x,g x=K.one):∀l:List α,dS K (l.map g)=K.one
 | []=>rfl
 | x::r=>by show K.mul (g x) (dS K (r.map g))=_; rw[hg,MD g hg r,K.one_mul]
theorem aCs (ds:List Int) (st:Q→S) (l:List (A×Q)):mE K ewG (mJ K lfG npG ds (K.one,l.map fun x=>(x.1,x.2,st x.2))).1 (mJ K lfG npG ds (K.one,l.map fun x=>(x.1,x.2,st x.2))).2 =
  dS K (l.map fun x=>K.mul (yH K lfG npG x.1 x.2 ds (K.one,st x.2)).1 (ewG x.1 x.2 (yH K lfG npG x.1 x.2 ds (K.one,st x.2)).2)):=by
 have h:=Kd K lfG npG ds (l.map fun x=>(x,(K.one,st x.2)));rw[List.map_map,MD K ((fun x:(A×Q)×(R×S)=>x.2.1) ∘ fun x=>(x,(K.one,st x.2))) (fun x=>rfl),List.map_map,List.map_map,List.map_map]at h;have e:l.map (wG ∘ fun x:A×Q=>(x,(K.one,st x.2)))=l.map fun x=>(x.1,x.2,st x.2):=rfl
 rw[e]at h;rw[h,Ay,List.map_map,ME];rfl
end
def lf (a:Fq×Fq) (q:Q2×Q2) (d:Int) (p:J2):aM :=
 if d=1 then aC.mul (xF p a) (tM (cK F2 p) q a)else if d = -1 then aC.mul (xF p a) (tM (cK F2 p) (q.1,F2.neg q.2) a)else xF p a
def np (q:Q2×Q2) (d:Int) (p:J2):J2:=if d=1 then gU (cK F2 p) q else if d = -1 then gU (cK F2 p) (q.1,F2.neg q.2)else cK F2 p
def ew (a:Fq×Fq) (q:Q2×Q2) (p:J2):aM:=aC.mul (tM p (gS q) a) (tM (gU p (gS q)) (NB (gS (gS q))) a)
theorem aQp (a:Fq×Fq) (q:Q2×Q2) (d:Int) (s:aM×J2):mst a q d s=aCl aC lf np a q d s:=by
 unfold mst aCl lf np
 by_cases h1:d=1
 ·simp only[if_pos h1,aC.mul_assoc]
 ·by_cases h2:d = -1
  ·simp only[if_neg h1,if_pos h2,aC.mul_assoc]
  ·simp only[if_neg h1,if_neg h2]
theorem aCm (a:Fq×Fq) (q:Q2×Q2):∀(ds:List Int) (s:aM×J2),AK a q ds s=yH aC lf np a q ds s
 | [],s=>rfl
 | d::ds,s=>by
  show AK a q ds (mst a q d s)=yH aC lf np a q ds (aCl aC lf np a q d s);rw[aQp,aCm a q ds]
theorem aWe (a:Fq×Fq) (q:Q2×Q2):aC.mul (yH aC lf np a q uL (aC.one,(q.1,q.2,F2.one))).1 (ew a q (yH aC lf np a q uL (aC.one,(q.1,q.2,F2.one))).2)=mil a q:=by
 unfold mil;rw[←aCm];generalize AK a q uL (aC.one,(q.1,q.2,F2.one))=s;unfold ew;exact (aC.mul_assoc _ _ _).symm
def bW (x:(Fq×Fq)×(Q2×Q2)):Wk:=(x.1,x.2,(x.2.1,x.2.2,F2.one))
def yK (l:List ((Fq×Fq)×(Q2×Q2))):aM:=mE aC ew (mJ aC lf np uL (aC.one,l.map bW)).1 (mJ aC lf np uL (aC.one,l.map bW)).2
theorem Aa (l:List ((Fq×Fq)×(Q2×Q2))):yK l=dS aC (l.map fun x=>mil x.1 x.2):=by
 refine (aCs aC lf np ew uL (fun q=>(q.1,q.2,F2.one)) l).trans (congrArg (dS aC) (List.map_congr_left fun x _ => ?_));exact aWe x.1 x.2
def gFN:jV
 | [.v (.im (.int .i64 (.ofNat 1))),.v (.fl [a])]=>match vp a with
  | some (p,x)=>some (p,.many [.fl (e1 (F1.neg x)),.im (.int .i64 0)])
  | none=>none
 | _=>none
theorem aRq:∀cs pre r,gFN cs=some (pre,r)→aZ pre→∀(args:List Value) (w:World),bQ w cs args→Good prog 23 r args w:=by
 intro cs pre r hg hp args w ha;unfold gFN at hg;split at hg
 ·rename_i a;split at hg
  ·rename_i p x hx;cases hg;obtain⟨n,e1,rfl,hn⟩:=UV hx hp
   match args,ha with
   | [t,v],ha =>
    have h0:t=.int .i64 1:=ha.1;have h1:v=.agg (aA [a]).toArray:=ha.2.1;rw[e1]at h1;subst h0; subst h1;have e:(0+FP.M-wv n)%FP.M=(F1.neg (m1 n)).1:=by
     show _=(0+FP.M-wv n%FP.M)%FP.M;rw[Nat.mod_eq_of_lt hn]
    refine (SD 1 FP tG _ _ _ _ (dE n) hn w).mono ?_
    rintro e' w' ⟨s0,s1,s2,s3,rfl,hs,hv,hb⟩
    have hv:aG s0 s1 s2 s3=(F1.neg (m1 n)).1:=hv.trans e;obtain⟨rfl,rfl,rfl,rfl⟩:=lM hs (rY (F1.neg (m1 n)).2) hv;exact⟨rfl,hb⟩
   | [],ha=>exact ha.elim
   | [_],ha=>exact ha.2.elim
   | _::_::_::_,ha=>exact ha.2.2.elim
  ·cases hg
 ·cases hg
def aRt:jV
 | [.v (.im (.int .i64 (.ofNat 1))),.s l n m,.s l' n' m']=>bif Nat.beq n n'&&Nat.ble n 6 then (match YY n l,YY n' l' with
  | some x,some y=>some ([],.many [.fl (e1 (rL x y)),.im (.int .i64 0)])
  | _,_=>none)else none
 | _=>none
theorem aJC:∀cs pre r,aRt cs=some (pre,r)→aZ pre→∀(args:List Value) (w:World),bQ w cs args→Good prog 21 r args w:=by
 intro cs pre r hg hp args w ha;unfold aRt at hg;split at hg
 ·rename_i l n m l' n' m';cases hb:(Nat.beq n n'&&Nat.ble n 6)<;>rw[hb]at hg
  ·cases hg
  ·simp only[cond_true]at hg;split at hg
   ·rename_i x y hx hy;cases hg;rw[Bool.and_eq_true]at hb;cases Nat.eq_of_beq_eq_true hb.1;have h6:=Nat.le_of_ble_eq_true hb.2
    match args,ha with
    | [t,v,u],ha =>
     have h0:t=.int .i64 1:=ha.1;subst h0;obtain⟨_,⟨b,o,rfl,h1,h2⟩,⟨b',o',rfl,h3,h4⟩,_⟩:=ha;have l1:=(uC hx).1;have l2:=(uC hy).1;refine (EG 1 FP tG _ _ n m n m' (lw x) (lw y) rfl (by omega) (fun k hk=>by rw[ND]; exact Fin.isLt _) (fun k hk=>by rw[ND]; exact Fin.isLt _) w (RC hx h6 h1 h2) (RC hy h6 h3 h4)).mono ?_
     rintro e' w' ⟨s0,s1,s2,s3,rfl,hs,hv,hb⟩
     have hv:aG s0 s1 s2 s3=(rL x y).1:=by rw[hv,Bc x y (by omega),l1]
     obtain⟨rfl,rfl,rfl,rfl⟩:=lM hs (rY (rL x y).2) hv;exact⟨rfl,hb⟩
    | [],ha=>exact ha.elim
    | [_],ha=>exact ha.2.elim
    | [_,_],ha=>exact ha.2.2.elim
    | _::_::_::_::_,ha=>exact ha.2.2.2.elim
   ·cases hg
 ·cases hg
theorem aNd (x:Q2):F2.sub F2.zero x=F2.neg x:=F2.zero_add _
theorem Xb (y:N2):xB 171 [.v (.fl (q2 y))]=some ([],.one (.fl (e2 (F2.sub F2.zero (m2 y))))):=by kernel_rfl
def Id:Tab:=xB.add 171 (g1 LY fun y=>([],.one (.fl (e2 (F2.neg y)))))
theorem Le:TabOk prog Id:=uE.ad func171 (kK (op:=fun y=>([],.one (.fl (e2 (F2.neg y))))) fR fun y hp args w ha=>by
 have h:=(uE _ _ _ _ (Xb y) trivial).2 args w ha;rw[aNd]at h;exact h)
theorem Yy (x:N2):bN prog Id qN (fun _=>true) f208 40 [.v (.fl (q2 x))]=some ([],.one (.fl (e2 (F2.mul (m2 x) dG)))):=by kernel_rfl
def aMU:Tab:=Id.add 208 (g1 LY fun x=>([],.one (.fl (e2 (F2.mul x dG)))))
theorem aPY:TabOk prog aMU:=Le.ad func208 (kK fR fun x hp args w ha=>aH aF Le aL func208 (Yy x) hp ha)
theorem Qt (x:tR):bN prog (eE true) qN (fun _=>true) f114 40 [.v (.fl (uA x))]=some ([],.one (.fl (aN (aC.mul (gC x) (gC x))))):=by kernel_rfl
def aMV:Tab:=aMU.add 114 (g1 VW fun x=>([],.one (.fl (aN (aC.mul x x)))))
theorem aPZ:TabOk prog aMV:=aPY.ad func114 (kK tX fun x hp args w ha=>aH aF (dM true) aL func114 (Qt x) hp ha)
def aFh:Tab:=(aMV.add 23 gFN).add 21 aRt
theorem aBz:TabOk prog aFh:=(aPZ.ad func23 aRq).ad func21 aJC
def wq (T:Tab):Nat→Cfg:=fun _=>⟨fun _=>T,fun _=>true,fun _=>none⟩
theorem PN (x:Q2):aT prog (qG prog) (wq aFh) f211 40 [.v (.fl (e2 x))]=some ([],.one (.fl (e2 (F2.mul x x)))):=by kernel_rfl
def aTA:Tab:=aFh.add 211 (g1 LE fun x=>([],.one (.fl (e2 (F2.mul x x)))))
theorem aLH:TabOk prog aTA:=aBz.ad func211 (bM fK fun x hp args w ha=>aB aF (fun _ _=>aBz) (aK _) func211 (PN x) trivial ha)
theorem PO (x:Q2):aT prog (qG prog) (wq aTA) f212 40 [.v (.fl (e2 x))]=some ([],.one (.fl (e2 (F2.add x x)))):=by kernel_rfl
def aTz:Tab:=aTA.add 212 (g1 LE fun x=>([],.one (.fl (e2 (F2.add x x)))))
theorem aLG:TabOk prog aTz:=aLH.ad func212 (bM fK fun x hp args w ha=>aB aF (fun _ _=>aLH) (aK _) func212 (PO x) trivial ha)
theorem PM (x:Q2):aT prog (qG prog) (wq aTz) f210 40 [.v (.fl (e2 x))]=some ([],.one (.fl (e2 (F2.add (F2.add x x) x)))):=by kernel_rfl
def aTy:Tab:=aTz.add 210 (g1 LE fun x=>([],.one (.fl (e2 (F2.add (F2.add x x) x)))))
theorem aLF:TabOk prog aTy:=aLG.ad func210 (bM fK fun x hp args w ha=>aB aF (fun _ _=>aLG) (aK _) func210 (PM x) trivial ha)
theorem VX (x:Q2) (k:Fq):aT prog (qG prog) (wq aTy) f248 40 [.v (.fl (e2 x)),.v (.fl (e1 k))]=some ([],.one (.fl (e2 (qB x k)))):=by kernel_rfl
def aKJ:Tab:=aTy.add 248 (g2 LE Ki fun x k=>([],.one (.fl (e2 (qB x k)))))
theorem aBy:TabOk prog aKJ:=aLF.ad func248 (fC fK lW fun x k hp args w ha=>aB aF (fun _ _=>aLF) (aK _) func248 (VX x k) trivial ha)
def oV (x:aM):List At:=[.f x.1.1.1,.f x.1.1.2,.f x.2.1.1,.f x.2.1.2,.f x.1.2.1.1,.f x.1.2.1.2,.f x.2.2.1.1,.f x.2.2.1.2,.f x.1.2.2.1,.f x.1.2.2.2,.f x.2.2.2.1,.f x.2.2.2.2]
def aHq:List At→Option aM|[.f a,.f b,.f c,.f d,.f e,.f f,.f g,.f h,.f i,.f j,.f k,.f l]=>some (((a,b),(e,f),(i,j)),((c,d),(g,h),(k,l)))|_=>none
theorem Kf:Rd aHq oV:=fun l x h=>by unfold aHq at h; split at h<;>cases h; rfl
theorem aGy (x:aM):aT prog (qG prog) (wq aKJ) f116 60 [.v (.fl (aN x))]=some ([],.one (.fl (oV x))):=by kernel_rfl
theorem Yz (x:aM):aT prog (qG prog) (wq aKJ) f117 60 [.v (.fl (oV x))]=some ([],.one (.fl (aN x))):=by kernel_rfl
def aMT:Tab:=aKJ.add 116 (g1 qQ fun x=>([],.one (.fl (oV x))))
theorem aPX:TabOk prog aMT:=aBy.ad func116 (bM eF fun x hp args w ha=>aB aF (fun _ _=>aBy) (aK _) func116 (aGy x) trivial ha)
def aKI:Tab:=aMT.add 117 (g1 aHq fun x=>([],.one (.fl (aN x))))
theorem aBx:TabOk prog aKI:=aPX.ad func117 (bM Kf fun x hp args w ha=>aB aF (fun _ _=>aBy) (aK _) func117 (Yz x) trivial ha)
def EB (l:Q6):aM:=((l.1,F2.zero,F2.zero),(l.2.1,l.2.2,F2.zero))
def lnR (F S H:Q2) (a:Fq×Fq):Q6:=(qB F a.2,qB S (F1.neg a.1),H)
theorem Yr (x:Q2) (k:Fq):qB x k=F2.mul x (i2 k):=by
 show (F1.mul x.1 k,F1.mul x.2 k)=(F1.add (F1.mul x.1 k) (F1.mul (F1.neg F1.one) (F1.mul x.2 F1.zero)),F1.add (F1.mul x.1 F1.zero) (F1.mul x.2 k));rw[F1.mul_zero,F1.mul_zero,F1.mul_zero,F1.add_zero,F1.zero_add]
theorem aMd (F S H:Q2) (a:Fq×Fq):EB (lnR F S H a)=Wj F S H a:=by
 unfold EB lnR Wj;rw[Yr,Yr]
def gTh:jV
 | [.v (.fl [.f a,.f b,.c _]),.v (.fl l1),.v (.fl l2),.v (.fl l3)]=>match LE l1,LE l2,LE l3 with
  | some F,some S,some H=>some ([],.one (.fl (e6 (lnR F S H (a,b)))))
  | _,_,_=>none
 | _=>none
theorem WE (a b:Fq) (v:Value) (F S H:Q2):aT prog (qG prog) (wq aKI) f214 60 [.v (.fl [.f a,.f b,.c v]),.v (.fl (e2 F)),.v (.fl (e2 S)),.v (.fl (e2 H))]=some ([],.one (.fl (e6 (lnR F S H (a,b))))):=by kernel_rfl
theorem aQY:∀cs pre r,gTh cs=some (pre,r)→aZ pre→∀(args:List Value) (w:World),bQ w cs args→Good prog 214 r args w:=by
 intro cs pre r hg hp args w ha;unfold gTh at hg;split at hg
 ·rename_i a b v l1 l2 l3;split at hg
  ·rename_i F S H h1 h2 h3;cases hg;refine aB aF (fun _ _=>aBx) (aK _) func214 (WE a b v F S H) trivial ?_
   match args,ha with
   | [w1,w2,w3,w4],ha =>
    refine⟨ha.1,?_,?_,?_,trivial⟩
    ·show w2=.agg (aA (e2 F)).toArray;rw[←fK _ _ h1]; exact ha.2.1
    ·show w3=.agg (aA (e2 S)).toArray;rw[←fK _ _ h2]; exact ha.2.2.1
    ·show w4=.agg (aA (e2 H)).toArray;rw[←fK _ _ h3]; exact ha.2.2.2.1
   | [],ha=>exact ha.elim
   | [_],ha=>exact ha.2.elim
   | [_,_],ha=>exact ha.2.2.elim
   | [_,_,_],ha=>exact ha.2.2.2.elim
   | _::_::_::_::_::_,ha=>exact ha.2.2.2.2.elim
  ·cases hg
 ·cases hg
def rwS (l:Q6):List Fq:=[l.1.1,F1.neg l.1.2,l.2.1.1,F1.neg l.2.1.2,l.2.2.1,F1.neg l.2.2.2]
def rwC (l:Q6):List Fq:=[l.1.2,l.1.1,l.2.1.2,l.2.1.1,l.2.2.2,l.2.2.1]
theorem Qu (l:Q6):aT prog (qG prog) (wq aKI) f209 80 [.v (.fl (e6 l))]=some ([],.many [.fl ((rwS l).map .f),.fl ((rwC l).map .f)]):=by kernel_rfl
def aMS:Tab:=aKI.add 214 gTh
theorem aPW:TabOk prog aMS:=aBx.ad func214 aQY
def aTx:Tab:=aMS.add 209 (g1 Ts fun l=>([],.many [.fl ((rwS l).map .f),.fl ((rwC l).map .f)]))
theorem aLE:TabOk prog aTx:=aPW.ad func209 (bM nE fun l hp args w ha=>aB aF (fun _ _=>aBx) (aK _) func209 (Qu l) trivial ha)
def rD (l:Q6) (c0 c1 c2:Q2):Q2:=(rL (rwS l) [c0.1,c0.2,c1.1,c1.2,c2.1,c2.2],rL (rwC l) [c0.1,c0.2,c1.1,c1.2,c2.1,c2.2])
def Cm (x:aM) (l:Q6):aM:=((rD l x.1.1 (F2.mul x.2.2.2 dG) (F2.mul x.2.2.1 dG),rD l x.1.2.1 x.2.1 (F2.mul x.2.2.2 dG),rD l x.1.2.2 x.2.2.1 x.2.1),(rD l x.2.1 x.1.1 (F2.mul x.1.2.2 dG),rD l x.2.2.1 x.1.2.1 x.1.1,rD l x.2.2.2 x.1.2.2 x.1.2.1))
theorem aVp (l:Q6) (c0 c1 c2:Q2):rD l c0 c1 c2=F2.add (F2.add (F2.mul l.1 c0) (F2.mul l.2.1 c1)) (F2.mul l.2.2 c2):=by
 refine Prod.ext ?_ ?_
 ·show F1.add (F1.add (F1.add (F1.add (F1.add (F1.mul l.1.1 c0.1) (F1.mul (F1.neg l.1.2) c0.2)) (F1.mul l.2.1.1 c1.1)) (F1.mul (F1.neg l.2.1.2) c1.2)) (F1.mul l.2.2.1 c2.1)) (F1.mul (F1.neg l.2.2.2) c2.2)=F1.add (F1.add (F1.add (F1.mul l.1.1 c0.1) (F1.mul (F1.neg F1.one) (F1.mul l.1.2 c0.2))) (F1.add (F1.mul l.2.1.1 c1.1) (F1.mul (F1.neg F1.one) (F1.mul l.2.1.2 c1.2)))) (F1.add (F1.mul l.2.2.1 c2.1) (F1.mul (F1.neg F1.one) (F1.mul l.2.2.2 c2.2)));exact aE F1 (aU F1 [l.1.1,l.1.2,l.2.1.1,l.2.1.2,l.2.2.1,l.2.2.2,c0.1,c0.2,c1.1,c1.2,c2.1,c2.2]) (Z0*Z6+(-Z1)*Z7+Z2*Z8+(-Z3)*Z9+Z4*Z10+(-Z5)*Z11) (Z0*Z6+(-RE.one)*(Z1*Z7)+(Z2*Z8+(-RE.one)*(Z3*Z9))+(Z4*Z10+(-RE.one)*(Z5*Z11))) (by kernel_rfl)
 ·show F1.add (F1.add (F1.add (F1.add (F1.add (F1.mul l.1.2 c0.1) (F1.mul l.1.1 c0.2)) (F1.mul l.2.1.2 c1.1)) (F1.mul l.2.1.1 c1.2)) (F1.mul l.2.2.2 c2.1)) (F1.mul l.2.2.1 c2.2)=F1.add (F1.add (F1.add (F1.mul l.1.1 c0.2) (F1.mul l.1.2 c0.1)) (F1.add (F1.mul l.2.1.1 c1.2) (F1.mul l.2.1.2 c1.1))) (F1.add (F1.mul l.2.2.1 c2.2) (F1.mul l.2.2.2 c2.1));exact aE F1 (aU F1 [l.1.1,l.1.2,l.2.1.1,l.2.1.2,l.2.2.1,l.2.2.2,c0.1,c0.2,c1.1,c1.2,c2.1,c2.2]) (Z1*Z6+Z0*Z7+Z3*Z8+Z2*Z9+Z5*Z10+Z4*Z11) (Z0*Z7+Z1*Z6+(Z2*Z9+Z3*Z8)+(Z4*Z11+Z5*Z10)) (by kernel_rfl)
section
variable {R:Type} (K:CR R)
theorem tz0 (x0 x1 x2 x3 x4 x5 l0 l1 l3 t:R):(K.add (K.add (K.mul l0 x0) (K.mul l1 (K.mul x5 t))) (K.mul l3 (K.mul x3 t)))=(K.add (K.add (K.mul x0 l0) (K.mul t (K.add (K.mul x2 K.zero) (K.mul x4 K.zero)))) (K.mul (K.add (K.add (K.mul x1 K.zero) (K.mul x3 l3)) (K.mul x5 l1)) t)) :=
 aE K (aU K [x0,x1,x2,x3,x4,x5,l0,l1,l3,t]) (Z6*Z0+Z7*(Z5*Z9)+Z8*(Z3*Z9)) (Z0*Z6+Z9*(Z2*RE.zero+Z4*RE.zero)+(Z1*RE.zero+Z3*Z8+Z5*Z7)*Z9) (by kernel_rfl)
theorem tz1 (x0 x1 x2 x3 x4 x5 l0 l1 l3 t:R):(K.add (K.add (K.mul l0 x2) (K.mul l1 x1)) (K.mul l3 (K.mul x5 t)))=(K.add (K.add (K.add (K.mul x0 K.zero) (K.mul x2 l0)) (K.mul t (K.mul x4 K.zero))) (K.add (K.mul x1 l1) (K.mul t (K.add (K.mul x3 K.zero) (K.mul x5 l3))))) :=
 aE K (aU K [x0,x1,x2,x3,x4,x5,l0,l1,l3,t]) (Z6*Z2+Z7*Z1+Z8*(Z5*Z9)) (Z0*RE.zero+Z2*Z6+Z9*(Z4*RE.zero)+(Z1*Z7+Z9*(Z3*RE.zero+Z5*Z8))) (by kernel_rfl)
theorem tz2 (x0 x1 x2 x3 x4 x5 l0 l1 l3 t:R):(K.add (K.add (K.mul l0 x4) (K.mul l1 x3)) (K.mul l3 x1))=(K.add (K.add (K.add (K.mul x0 K.zero) (K.mul x2 K.zero)) (K.mul x4 l0)) (K.add (K.add (K.mul x1 l3) (K.mul x3 l1)) (K.mul t (K.mul x5 K.zero)))) :=
 aE K (aU K [x0,x1,x2,x3,x4,x5,l0,l1,l3,t]) (Z6*Z4+Z7*Z3+Z8*Z1) (Z0*RE.zero+Z2*RE.zero+Z4*Z6+(Z1*Z8+Z3*Z7+Z9*(Z5*RE.zero))) (by kernel_rfl)
theorem tz3 (x0 x1 x2 x3 x4 x5 l0 l1 l3 t:R):(K.add (K.add (K.mul l0 x1) (K.mul l1 x0)) (K.mul l3 (K.mul x4 t)))=(K.add (K.add (K.mul x0 l1) (K.mul t (K.add (K.mul x2 K.zero) (K.mul x4 l3)))) (K.add (K.mul x1 l0) (K.mul t (K.add (K.mul x3 K.zero) (K.mul x5 K.zero))))) :=
 aE K (aU K [x0,x1,x2,x3,x4,x5,l0,l1,l3,t]) (Z6*Z1+Z7*Z0+Z8*(Z4*Z9)) (Z0*Z7+Z9*(Z2*RE.zero+Z4*Z8)+(Z1*Z6+Z9*(Z3*RE.zero+Z5*RE.zero))) (by kernel_rfl)
theorem tz4 (x0 x1 x2 x3 x4 x5 l0 l1 l3 t:R):(K.add (K.add (K.mul l0 x3) (K.mul l1 x2)) (K.mul l3 x0))=(K.add (K.add (K.add (K.mul x0 l3) (K.mul x2 l1)) (K.mul t (K.mul x4 K.zero))) (K.add (K.add (K.mul x1 K.zero) (K.mul x3 l0)) (K.mul t (K.mul x5 K.zero)))) :=
 aE K (aU K [x0,x1,x2,x3,x4,x5,l0,l1,l3,t]) (Z6*Z3+Z7*Z2+Z8*Z0) (Z0*Z8+Z2*Z7+Z9*(Z4*RE.zero)+(Z1*RE.zero+Z3*Z6+Z9*(Z5*RE.zero))) (by kernel_rfl)
theorem tz5 (x0 x1 x2 x3 x4 x5 l0 l1 l3 t:R):(K.add (K.add (K.mul l0 x5) (K.mul l1 x4)) (K.mul l3 x2))=(K.add (K.add (K.add (K.mul x0 K.zero) (K.mul x2 l3)) (K.mul x4 l1)) (K.add (K.add (K.mul x1 K.zero) (K.mul x3 K.zero)) (K.mul x5 l0))) :=
 aE K (aU K [x0,x1,x2,x3,x4,x5,l0,l1,l3,t]) (Z6*Z5+Z7*Z4+Z8*Z2) (Z0*RE.zero+Z2*Z8+Z4*Z7+(Z1*RE.zero+Z3*RE.zero+Z5*Z6)) (by kernel_rfl)
end
theorem Xz (x:aM) (l:Q6):Cm x l=aC.mul x (EB l):=by
 obtain⟨⟨x0,x2,x4⟩,x1,x3,x5⟩:=x;obtain⟨l0,l1,l3⟩:=l;rw[oJ];unfold Cm EB;dsimp only;simp only[aVp];rw[tz0 F2 x0 x1 x2 x3 x4 x5 l0 l1 l3 dG,tz1 F2 x0 x1 x2 x3 x4 x5 l0 l1 l3 dG,tz2 F2 x0 x1 x2 x3 x4 x5 l0 l1 l3 dG,tz3 F2 x0 x1 x2 x3 x4 x5 l0 l1 l3 dG,tz4 F2 x0 x1 x2 x3 x4 x5 l0 l1 l3 dG,tz5 F2 x0 x1 x2 x3 x4 x5 l0 l1 l3 dG]
theorem Cy (x:aM) (l:Q6):aT prog (qG prog) (wq aTx) f169 100 [.v (.fl (oV x)),.v (.fl (e6 l))]=some ([],.one (.fl (oV (Cm x l)))):=by kernel_rfl
def Ic:Tab:=aTx.add 169 (g2 aHq Ts fun x l=>([],.one (.fl (oV (aC.mul x (EB l))))))
theorem MK:TabOk prog Ic:=aLE.ad func169 (fC Kf nE fun x l hp args w ha=>by
 have h:=aB aF (fun _ _=>aLE) (aK _) func169 (Cy x l) trivial (args:=args) (w:=w) ha;rw[Xz]at h;exact h)
section
variable {R:Type} (K:CR R)
def Xu (x y:R):R:=K.sub (K.mul (K.add (K.add (K.mul x x) (K.mul x x)) (K.mul x x)) (K.add (K.add (K.mul x x) (K.mul x x)) (K.mul x x))) (K.add (K.add (K.mul x (K.add (K.mul y y) (K.mul y y))) (K.mul x (K.add (K.mul y y) (K.mul y y)))) (K.add (K.mul x (K.add (K.mul y y) (K.mul y y))) (K.mul x (K.add (K.mul y y) (K.mul y y)))))
def aFY (x y:R):R:=K.sub (K.mul (K.add (K.add (K.mul x x) (K.mul x x)) (K.mul x x)) (K.sub (K.add (K.mul x (K.add (K.mul y y) (K.mul y y))) (K.mul x (K.add (K.mul y y) (K.mul y y)))) (Xu K x y))) (K.add (K.mul (K.add (K.mul y y) (K.mul y y)) (K.add (K.mul y y) (K.mul y y))) (K.mul (K.add (K.mul y y) (K.mul y y)) (K.add (K.mul y y) (K.mul y y))))
theorem aFX (x y z:R):(Xu K x y,aFY K x y,K.add (K.mul y z) (K.mul y z))=cK K (x,y,z):=by
 have e1:K.add (K.mul x (K.add (K.mul y y) (K.mul y y))) (K.mul x (K.add (K.mul y y) (K.mul y y)))=dBa K (x,y,z):=(K.mul_add _ _ _).symm;have e2:Xu K x y=dX K (x,y,z):=by
  unfold Xu;rw[e1];rfl
 unfold cK;refine Prod.ext e2 (Prod.ext ?_ (K.add_mul _ _ _).symm);show aFY K x y=dY K (x,y,z);have e3:∀t:R,K.add (K.mul t t) (K.mul t t)=K.mul (K.add t t) t:=fun t=>(K.add_mul _ _ _).symm
 unfold aFY;rw[e1,e2,e3 (K.add (K.mul y y) (K.mul y y))];rfl
end
def Jr (x y:Q2):Q2:=Xu F2 x y
def tnY (x y:Q2):Q2:=aFY F2 x y
def tnZ (y z:Q2):Q2:=F2.add (F2.mul y z) (F2.mul y z)
theorem aNN (x y z:Q2):(Jr x y,tnY x y,tnZ y z)=cK F2 (x,y,z):=aFX F2 x y z
def tnL (x y z:Q2) (a:Fq×Fq):Q6:=lnR (tF x y z) (tS x y z) (tH x y z) a
def KO (a:Fq×Fq):List At:=[.f a.1,.f a.2,.c (.bool false)]
def jS (q:Q2×Q2):List At:=[.f q.1.1,.f q.1.2,.f q.2.1,.f q.2.2,.c (.bool false)]
def CP (l:List (Nat×List At)):Nat→Option (List At):=assoc l
theorem aGz (b N o:Nat) (l L1 L2 L3:List At) (x y z:Q2) (a:Fq×Fq) :
  Hf prog (qPt prog (CP [(16,e2 x),(21,e2 y),(26,e2 z),(42,KO a),(75,e2 (Jr x y))]) (CP [(67,L1),(84,L2),(89,L3)]) Pm) (wq Ic) f170 60 b N o l [] =
   some ([fP l (o+26+0) 8=some (e2 x),fP l (o+26+8) 8=some (e2 y),fP l (o+26+16) 8=some (e2 z),fP l (o+0) 9=some (KO a),put l (o+26+0) (e2 (Jr x y))=some L1,fP L1 (o+26+0) 8=some (e2 (Jr x y)),put L1 (o+26+8) (e2 (tnY x y))=some L2,put L2 (o+26+16) (e2 (tnZ y z))=some L3],.one (.fl (e6 (tnL x y z a))),L3,b,N):=by kernel_rfl
theorem Qr (Ws:List Wk) (j:Nat) (a b:Wk):(Ws.set j a).set j b=Ws.set j b:=List.set_set _
theorem mQ {Ws:List Wk} {j:Nat} {W:Wk} (h:Ws[j]?=some W) (V:Wk):(Ws.set j V)[j]?=some V:=by
 have:=(List.getElem?_eq_some_iff.1 h).1;simp[this]
theorem Qe {Ws:List Wk} {j:Nat} {W:Wk} (h:Ws[j]?=some W):CU prog 170 (rows Ws) (50*j) [] (.one (.fl (e6 (tnL W.2.2.1 W.2.2.2.1 W.2.2.2.2 W.1)))) (rows (Ws.set j (W.1,W.2.1,cK F2 W.2.2))):=by
 obtain⟨a,q,x,y,z⟩:=W;intro w b hO;rw[show cK F2 (x,y,z)=_ from (aNN x y z).symm];have p1:put (rows Ws) (50*j+(26+0)) (e2 (Jr x y))=some (rows (Ws.set j (a,q,Jr x y,y,z))):=pF h rfl;have p2:put (rows (Ws.set j (a,q,Jr x y,y,z))) (50*j+(26+8)) (e2 (tnY x y))=some (rows (Ws.set j (a,q,Jr x y,tnY x y,z))):=by
  have:=pF (o:=26+8) (v:=e2 (tnY x y)) (W':=(a,q,Jr x y,tnY x y,z)) (mQ h (a,q,Jr x y,y,z)) rfl
  rwa [Qr]at this
 have p3:put (rows (Ws.set j (a,q,Jr x y,tnY x y,z))) (50*j+(26+16)) (e2 (tnZ y z))=some (rows (Ws.set j (a,q,Jr x y,tnY x y,tnZ y z))):=by
  have:=pF (o:=26+16) (v:=e2 (tnZ y z)) (W':=(a,q,Jr x y,tnY x y,tnZ y z)) (mQ h (a,q,Jr x y,tnY x y,z)) rfl
  rwa [Qr]at this
 exact nO (ts:=[]) aF (fun _ _=>MK.w _ _) (oN (eH _) _ _) func170 (aGz b w.heap.size (50*j) _ _ _ _ x y z a)
  ⟨fL (o:=26+0) h rfl,fL (o:=26+8) h rfl,fL (o:=26+16) h rfl,fL (o:=0) h rfl,p1,fL (o:=26+0) (mQ h _) rfl,p2,p3,trivial⟩ hO
def chL (p:J2) (q:Q2×Q2) (a:Fq×Fq):Q6:=lnR (Wm p.1 p.2.2 q.1) (tO p.2.1 p.2.2 q.2) (F2.sub (F2.mul (tO p.2.1 p.2.2 q.2) q.1) (F2.mul (Wm p.1 p.2.2 q.1) q.2)) a
theorem aGS (b N o:Nat) (l L1 L2 L3:List At) (x y z u v:Q2) (a:Fq×Fq) :
  Hf prog (qPt prog (CP [(20,e2 x),(25,e2 y),(30,e2 z),(53,KO a),(92,e2 (sX F2 x (rZ x z u) (tO y z v)))]) (CP [(84,L1),(101,L2),(106,L3)]) Pm) (wq Ic) f172 60 b N o l [.fl (jS (u,v))] =
   some ([fP l (o+26+0) 8=some (e2 x),fP l (o+26+8) 8=some (e2 y),fP l (o+26+16) 8=some (e2 z),fP l (o+0) 9=some (KO a),put l (o+26+0) (e2 (sX F2 x (rZ x z u) (tO y z v)))=some L1,fP L1 (o+26+0) 8=some (e2 (sX F2 x (rZ x z u) (tO y z v))),put L1 (o+26+8) (e2 (sY F2 x y (rZ x z u) (tO y z v)))=some L2,put L2 (o+26+16) (e2 (F2.mul z (rZ x z u)))=some L3],.one (.fl (e6 (chL (x,y,z) (u,v) a))),L3,b,N):=by kernel_rfl
theorem OC {Ws:List Wk} {j:Nat} {W:Wk} (h:Ws[j]?=some W) (q':Q2×Q2):CU prog 172 (rows Ws) (50*j) [.agg (aA (jS q')).toArray] (.one (.fl (e6 (chL W.2.2 q' W.1)))) (rows (Ws.set j (W.1,W.2.1,gU W.2.2 q'))):=by
 obtain⟨a,q,x,y,z⟩:=W;obtain⟨u,v⟩:=q';intro w b hO;show Calls _ _ _ _ (Wr b w _ (rows (Ws.set j (a,q,sX F2 x (rZ x z u) (tO y z v),sY F2 x y (rZ x z u) (tO y z v),F2.mul z (rZ x z u)))));have p1:put (rows Ws) (50*j+(26+0)) (e2 (sX F2 x (rZ x z u) (tO y z v)))=some (rows (Ws.set j (a,q,sX F2 x (rZ x z u) (tO y z v),y,z))):=pF h rfl;have p2:put (rows (Ws.set j (a,q,sX F2 x (rZ x z u) (tO y z v),y,z))) (50*j+(26+8)) (e2 (sY F2 x y (rZ x z u) (tO y z v)))=some (rows (Ws.set j (a,q,sX F2 x (rZ x z u) (tO y z v),sY F2 x y (rZ x z u) (tO y z v),z))):=by
  have:=pF (o:=26+8) (v:=e2 (sY F2 x y (rZ x z u) (tO y z v))) (W':=(a,q,sX F2 x (rZ x z u) (tO y z v),sY F2 x y (rZ x z u) (tO y z v),z)) (mQ h (a,q,sX F2 x (rZ x z u) (tO y z v),y,z)) rfl
  rwa [Qr]at this
 have p3:put (rows (Ws.set j (a,q,sX F2 x (rZ x z u) (tO y z v),sY F2 x y (rZ x z u) (tO y z v),z))) (50*j+(26+16)) (e2 (F2.mul z (rZ x z u)))=some (rows (Ws.set j (a,q,sX F2 x (rZ x z u) (tO y z v),sY F2 x y (rZ x z u) (tO y z v),F2.mul z (rZ x z u)))):=by
  have:=pF (o:=26+16) (v:=e2 (F2.mul z (rZ x z u))) (W':=(a,q,sX F2 x (rZ x z u) (tO y z v),sY F2 x y (rZ x z u) (tO y z v),F2.mul z (rZ x z u))) (mQ h (a,q,sX F2 x (rZ x z u) (tO y z v),sY F2 x y (rZ x z u) (tO y z v),z)) rfl
  rwa [Qr]at this
 exact nO (ts:=[.fl (jS (u,v))]) aF (fun _ _=>MK.w _ _) (oN (eH _) _ _) func172 (aGS b w.heap.size (50*j) _ _ _ _ x y z u v a)
  ⟨fL (o:=26+0) h rfl,fL (o:=26+8) h rfl,fL (o:=26+16) h rfl,fL (o:=0) h rfl,p1,fL (o:=26+0) (mQ h _) rfl,p2,p3,trivial⟩ hO
def T5s (l0 l1 l2:List At) (o:Nat) (r1 r2:RV) (m:List At):Tab5:=(Pm.add 170 (pe0 l0 o r1 l1)).add 172 (pe1 l1 o m r2 l2)
theorem Jf {Ws:List Wk} {j:Nat} {W:Wk} (h:Ws[j]?=some W) (q':Q2×Q2) :
  PtOk prog (T5s (rows Ws) (rows (Ws.set j (W.1,W.2.1,cK F2 W.2.2))) (rows (Ws.set j (W.1,W.2.1,gU (cK F2 W.2.2) q'))) (50*j) (.one (.fl (e6 (tnL W.2.2.1 W.2.2.2.1 W.2.2.2.2 W.1)))) (.one (.fl (e6 (chL (cK F2 W.2.2) q' W.1)))) (jS q')):=by
 have h2:=OC (mQ h (W.1,W.2.1,cK F2 W.2.2)) q';rw[Qr]at h2;exact ((eH _).ad func170 (aOT (Qe h))).ad func172 (Fs h2)
theorem Rs (b N o:Nat) (l l1 l2 m:List At) (f:aM) (x y:Q6) :
  Hf prog (qPt prog (CP []) (CP []) (T5s l l1 l2 o (.one (.fl (e6 x))) (.one (.fl (e6 y))) m)) (wq Ic) f115 60 b N o l [.fl (oV f),.im (.int .i64 0)] =
   some ([l=l,o=o],.one (.fl (oV (aC.mul f (EB x)))),l1,b,N):=by kernel_rfl
theorem Rq (b N o:Nat) (l l1 l2:List At) (f:aM) (x y:Q6) (q:Q2×Q2) :
  Hf prog (qPt prog (CP [(17,jS q)]) (CP []) (T5s l l1 l2 o (.one (.fl (e6 x))) (.one (.fl (e6 y))) (jS q))) (wq Ic) f115 60 b N o l [.fl (oV f),.im (.int .i64 1)] =
   some ([l=l,o=o,fP l1 (o+9) 17=some (jS q),l1=l1,o=o,aA (jS q)=aA (jS q)],.one (.fl (oV (aC.mul (aC.mul f (EB x)) (EB y)))),l2,b,N):=by kernel_rfl
theorem Rm (b N o:Nat) (l l1 l2:List At) (f:aM) (x y:Q6) (q:Q2×Q2) :
  Hf prog (qPt prog (CP [(17,jS q)]) (CP []) (T5s l l1 l2 o (.one (.fl (e6 x))) (.one (.fl (e6 y))) (jS (q.1,F2.neg q.2)))) (wq Ic) f115 60 b N o l [.fl (oV f),.im (.int .i64 (-1))] =
   some ([l=l,o=o,fP l1 (o+9) 17=some (jS q),l1=l1,o=o,aA (jS (q.1,F2.neg q.2))=aA (jS (q.1,F2.neg q.2))],.one (.fl (oV (aC.mul (aC.mul f (EB x)) (EB y)))),l2,b,N):=by kernel_rfl
theorem aUC (x y z:Q2) (a:Fq×Fq):EB (tnL x y z a)=xF (x,y,z) a:=aMd _ _ _ _
theorem Ox (p:J2) (q:Q2×Q2) (a:Fq×Fq):EB (chL p q a)=tM p q a:=aMd _ _ _ _
theorem aZT (a:Fq×Fq) (q:Q2×Q2) (p:J2):lf a q 0 p=xF p a:=by unfold lf; rw[if_neg (by decide),if_neg (by decide)]
theorem aZS (a:Fq×Fq) (q:Q2×Q2) (p:J2):lf a q 1 p=aC.mul (xF p a) (tM (cK F2 p) q a):=by unfold lf; rw[if_pos rfl]
theorem aZR (a:Fq×Fq) (q:Q2×Q2) (p:J2):lf a q (-1) p=aC.mul (xF p a) (tM (cK F2 p) (q.1,F2.neg q.2) a):=by unfold lf; rw[if_neg (by decide),if_pos rfl]
theorem aZL (q:Q2×Q2) (p:J2):np q 0 p=cK F2 p:=by unfold np; rw[if_neg (by decide),if_neg (by decide)]
theorem aZK (q:Q2×Q2) (p:J2):np q 1 p=gU (cK F2 p) q:=by unfold np; rw[if_pos rfl]
theorem aZJ (q:Q2×Q2) (p:J2):np q (-1) p=gU (cK F2 p) (q.1,F2.neg q.2):=by unfold np; rw[if_neg (by decide),if_pos rfl]
theorem Cr {Ws:List Wk} {j:Nat} {W:Wk} (h:Ws[j]?=some W) (f:aM) (d:Int) (hd:d=0∨d=1∨d = -1) :
  CU prog 115 (rows Ws) (50*j) [.agg (aA (oV f)).toArray,.int .i64 d] (.one (.fl (oV (aC.mul f (lf W.1 W.2.1 d W.2.2))))) (rows (Ws.set j (Yn np d W))):=by
 intro w b hO;have hs:=fL (o:=9) (n:=17) (s:=jS W.2.1) (mQ h (W.1,W.2.1,cK F2 W.2.2)) rfl;have et:EB (tnL W.2.2.1 W.2.2.2.1 W.2.2.2.2 W.1)=xF W.2.2 W.1:=aUC _ _ _ _;unfold Yn
 rcases hd with rfl|rfl|rfl
 ·rw[aZT,aZL,←et];exact nO (ts:=[.fl (oV f),.im (.int .i64 0)]) aF (fun _ _=>MK.w _ _) (oN (Jf h W.2.1) _ _) func115 (Rs b w.heap.size (50*j) _ _ _ _ f _ _) ⟨rfl,rfl,trivial⟩ hO
 ·rw[aZS,aZK,←et,←Ox,←aC.mul_assoc];exact nO (ts:=[.fl (oV f),.im (.int .i64 1)]) aF (fun _ _=>MK.w _ _) (oN (Jf h W.2.1) _ _) func115 (Rq b w.heap.size (50*j) _ _ _ f _ _ W.2.1) ⟨rfl,rfl,hs,rfl,rfl,rfl,trivial⟩ hO
 ·rw[aZR,aZJ,←et,←Ox,←aC.mul_assoc];exact nO (ts:=[.fl (oV f),.im (.int .i64 (-1))]) aF (fun _ _=>MK.w _ _) (oN (Jf h (W.2.1.1,F2.neg W.2.1.2)) _ _) func115 (Rm b w.heap.size (50*j) _ _ _ f _ _ W.2.1) ⟨rfl,rfl,hs,rfl,rfl,rfl,trivial⟩ hO
def aHr:List At→Option (Q2×Q2)|[.f a,.f b,.f c,.f d,.c (.bool false)]=>some ((a,b),(c,d))|_=>none
theorem Kg:Rd aHr jS:=fun l x h=>by unfold aHr at h; split at h<;>cases h; rfl
theorem aDw (q:Q2×Q2):aA (jS q)=aA (jU (KJ (some q))):=rfl
theorem aEA {q:Q2×Q2} {args:List Value} {w:World} (ha:bQ w [.v (.fl (jS q))] args):bQ w [.v (.fl (jU (KJ (some q))))] args:=by
 match args,ha with
 | [v],ha =>
  refine⟨?_,trivial⟩;show v=.agg (aA (jU (KJ (some q)))).toArray;rw[←aDw];exact ha.1
 | [],ha=>exact ha.elim
 | _::_::_,ha=>exact ha.2.elim
theorem aNg (q:Q2×Q2) (h:On F2 dK (some q)) (args:List Value) (w:World) (ha:bQ w [.v (.fl (jS q))] args):Good prog 173 (.many [.fl (jS (gS q)),.im (.int .i64 0)]) args w:=by
 have:=aAD (KJ (some q)) args w (aEA ha);rw[show fS (KJ (some q))=_ from aUG ⟨some q,h⟩]at this;exact this
theorem aNh (q:Q2×Q2) (h:On F2 dK (some q)) (args:List Value) (w:World) (ha:bQ w [.v (.fl (jS q))] args):Good prog 174 (.many [.fl (jS (NB q)),.im (.int .i64 0)]) args w:=by
 have:=(ZO 174 [.v (.fl (jU (KJ (some q))))] _ _ rfl trivial).2 args w (aEA ha);rw[show vD (KJ (some q))=_ from tN2 ⟨some q,h⟩]at this;exact this
def oPs (q:Q2×Q2):List Prop×RV:=([On F2 dK (some q)],.many [.fl (jS (gS q)),.im (.int .i64 0)])
def oNg (q:Q2×Q2):List Prop×RV:=([On F2 dK (some q)],.many [.fl (jS (NB q)),.im (.int .i64 0)])
def aMR:Tab:=Ic.add 173 (g1 aHr oPs)
theorem aPV:TabOk prog aMR:=MK.ad func173 (bM (op:=oPs) Kg fun q hp args w ha=>aNg q hp.1 args w ha)
def Wf:Tab:=aMR.add 174 (g1 aHr oNg)
theorem ZB:TabOk prog Wf:=aPV.ad func174 (bM (op:=oNg) Kg fun q hp args w ha=>aNh q hp.1 args w ha)
def oS:Code:=(f118.body).getD .skip
def enN:Nat:=f118.ntmps
def aRU (b N o:Nat) (l:List At) (f:aM):List Fact:=[.slot 0 (.pt 0 o),.row 0 true l,.at 0 b,.at enN N,.slot 3 (.pt 3 0),.row 3 true (oV f),.slot 4 (.pt 4 0),.row 4 true (oV aC.zero)]
def Vo (b N o:Nat) (l:List At) (f:aM) (q:Q2×Q2):List Fact:=[.slot 0 (.pt 0 o),.row 0 true l,.at 0 b,.at enN N,.slot 3 (.pt 3 0),.row 3 true (oV f),.slot 4 (.pt 4 0),.row 4 true (oV aC.zero),.slot 5 (.pt 5 0),.row 5 true (jS q)]
def Vn (b N:Nat) (l:List At) (f:aM):List Fact:=[.slot 4 (.pt 4 0),.row 4 true (oV f),.row 0 true l,.at 0 b,.at enN N]
def T5c (l0 l1:List At) (o:Nat) (r:RV) (m:List At):Tab5:=Pm.add 172 (pe1 l0 o m r l1)
theorem aFt {Ws:List Wk} {j:Nat} {W:Wk} (h:Ws[j]?=some W) (q':Q2×Q2):PtOk prog (T5c (rows Ws) (rows (Ws.set j (W.1,W.2.1,gU W.2.2 q'))) (50*j) (.one (.fl (e6 (chL W.2.2 q' W.1)))) (jS q')) :=
 (eH _).ad func172 (Fs (OC h q'))
theorem aXj (b N o:Nat) (l:List At) (f:aM):aX prog (qPt prog (CP []) (CP []) Pm) enN (wq Wf) 40 (cA oS) (aTe enN b N o l [.fl (oV f)]) (aRU b N o l f)=some ([],.nrm,aRU b N o l f):=by kernel_rfl
theorem aXi (b N o:Nat) (l:List At) (f:aM) (q:Q2×Q2):aX prog (qPt prog (CP [(11,jS q)]) (CP []) Pm) enN (wq Wf) 40 (cA (cB oS)) (aRU b N o l f) (Vo b N o l f (gS q))=some ([fP l (o+9) 17=some (jS q),On F2 dK (some q)],.nrm,Vo b N o l f (gS q)):=by kernel_rfl
theorem aXh (b N o:Nat) (l l1:List At) (f:aM) (q:Q2×Q2) (x:Q6):aX prog (qPt prog (CP []) (CP []) (T5c l l1 o (.one (.fl (e6 x))) (jS q))) enN (wq Wf) 40 (cA (cB (cB oS))) (Vo b N o l f q) (Vo b N o l1 (aC.mul f (EB x)) q)=some ([l=l,o=o,aA (jS q)=aA (jS q)],.nrm,Vo b N o l1 (aC.mul f (EB x)) q):=by kernel_rfl
theorem aXg (b N o:Nat) (l l1:List At) (f:aM) (q:Q2×Q2) (x:Q6):aX prog (qPt prog (CP []) (CP []) (T5c l l1 o (.one (.fl (e6 x))) (jS (NB (gS q))))) enN (wq Wf) 40 (cB (cB (cB oS))) (Vo b N o l f q) (Vn b N l1 (aC.mul f (EB x)))=some ([On F2 dK (some q),On F2 dK (some (gS q)),l=l,o=o,aA (jS (NB (gS q)))=aA (jS (NB (gS q)))],.rt,Vn b N l1 (aC.mul f (EB x))):=by kernel_rfl
theorem aJU:oS=.seq (cA oS) (.seq (cA (cB oS)) (.seq (cA (cB (cB oS))) (cB (cB (cB oS))))):=by kernel_rfl
theorem aAE {q:Q2×Q2} (h:On F2 dK (some q)):On F2 dK (some (gS q)):=(qC ⟨some q,h⟩).2
def enW (W:Wk):Wk:=(W.1,W.2.1,gU (gU W.2.2 (gS W.2.1)) (NB (gS (gS W.2.1))))
theorem aRS {b:Nat} {w w':World} {a:Act} {l:List At} {f:aM} (hA:Holds enN b w (Vn b w.heap.size l f) a w'):bodyPost prog f118 (Wr b w (.one (.fl (oV f))) l) .ret a w':=by
 refine pQ (l:=[.fl (oV f)]) (r:=.one (.fl (oV f))) (by kernel_rfl) (by kernel_rfl) hA ⟨rfl,?_⟩;exact hA.wrc (l:=l) (by simp[Vn]) (by simp[Vn]) (by simp[Vn])
theorem aJT {b o:Nat} {w:World} {l0 l1 l2:List At} {f:aM} {q:Q2×Q2} {x y:Q6} (hO:Own w b l0) (hs:fP l0 (o+9) 17=some (jS q)) (hq:On F2 dK (some q))
  (t1:PtOk prog (T5c l0 l1 o (.one (.fl (e6 x))) (jS (gS q)))) (t2:PtOk prog (T5c l1 l2 o (.one (.fl (e6 y))) (jS (NB (gS (gS q)))))) :
  Calls prog 118 (iG b o::[TV.fl (oV f)].map TV.den).toArray w (Wr b w (.one (.fl (oV (aC.mul (aC.mul f (EB x)) (EB y))))) l2):=by
 refine NM (ts:=[.fl (oV f)]) func118 (c:=oS) rfl hO (Nat.le_of_ble_eq_true (by kernel_rfl)) fun a w1 hA => ?_
 rw[aJU];refine wp_seq (aD aF (fun _ _=>ZB.w _ _) (oN (eH _) _ _) (aXj b w.heap.size o l0 f) trivial hA fun a w2 hA => ?_);refine wp_seq (aD aF (fun _ _=>ZB.w _ _) (oN (eH _) _ _) (aXi b w.heap.size o l0 f q) ⟨hs,hq,trivial⟩ hA fun a w3 hA => ?_);refine wp_seq (aD aF (fun _ _=>ZB.w _ _) (oN t1 _ _) (aXh b w.heap.size o l0 l1 f (gS q) x) ⟨rfl,rfl,rfl,trivial⟩ hA fun a w4 hA => ?_);have q1:=aAE hq;have q2:=aAE q1;generalize gS q=q' at hA t2 q1 q2 ⊢;refine aD aF (fun _ _=>ZB.w _ _) (oN t2 _ _) (aXg b w.heap.size o l1 l2 (aC.mul f (EB x)) q' y) ⟨q1,q2,rfl,rfl,rfl,trivial⟩ hA fun a w5 hA => ?_
 exact aRS hA
theorem aIO {f x y z w:aM} (h1:x=z) (h2:y=w):aC.mul (aC.mul f x) y=aC.mul f (aC.mul z w):=by
 subst h1; subst h2;exact aC.mul_assoc _ _ _
theorem aXc (a:Fq×Fq) (q:Q2×Q2) (p:J2):ew a q p=aC.mul (tM p (gS q) a) (tM (gU p (gS q)) (NB (gS (gS q))) a):=by
 unfold ew
 with_reducible rfl
theorem bAq (f:aM) (a:Fq×Fq) (q:Q2×Q2) (p:J2):aC.mul (aC.mul f (EB (chL p (gS q) a))) (EB (chL (gU p (gS q)) (NB (gS (gS q))) a))=aC.mul f (ew a q p) :=
 (aIO (Ox p (gS q) a) (Ox (gU p (gS q)) (NB (gS (gS q))) a)).trans (congrArg (aC.mul f) (aXc a q p).symm)
theorem aDQ {Ws:List Wk} {j:Nat} {a:Fq×Fq} {q:Q2×Q2} {p:J2} (h:Ws[j]?=some (a,q,p)) (f g:aM) (hg:aC.mul (aC.mul f (EB (chL p (gS q) a))) (EB (chL (gU p (gS q)) (NB (gS (gS q))) a))=g) (hq:On F2 dK (some q)) :
  CU prog 118 (rows Ws) (50*j) [.agg (aA (oV f)).toArray] (.one (.fl (oV g))) (rows (Ws.set j (a,q,gU (gU p (gS q)) (NB (gS (gS q)))))):=by
 subst hg;intro w b hO;have hs:=fL (o:=9) (n:=17) (s:=jS q) h rfl;have t1:PtOk prog (T5c (rows Ws) (rows (Ws.set j (a,q,gU p (gS q)))) (50*j) (.one (.fl (e6 (chL p (gS q) a)))) (jS (gS q))):=aFt h (gS q);have t2:PtOk prog (T5c (rows (Ws.set j (a,q,gU p (gS q)))) (rows ((Ws.set j (a,q,gU p (gS q))).set j (a,q,gU (gU p (gS q)) (NB (gS (gS q)))))) (50*j) (.one (.fl (e6 (chL (gU p (gS q)) (NB (gS (gS q))) a)))) (jS (NB (gS (gS q))))):=aFt (mQ h (a,q,gU p (gS q))) (NB (gS (gS q)));rw[Qr Ws j (a,q,gU p (gS q)) (a,q,gU (gU p (gS q)) (NB (gS (gS q))))]at t2;exact aJT (f:=f) hO hs hq t1 t2
theorem Vm {Ws:List Wk} {j:Nat} {a:Fq×Fq} {q:Q2×Q2} {p:J2} (h:Ws[j]?=some (a,q,p)) (f:aM) (hq:On F2 dK (some q)) :
  CU prog 118 (rows Ws) (50*j) [.agg (aA (oV f)).toArray] (.one (.fl (oV (aC.mul f (ew a q p))))) (rows (Ws.set j (enW (a,q,p)))) :=
 aDQ h f _ (bAq f a q p) hq
def aMZ (c:Bool):Tab:=(Bu c).add 260 aJz
theorem aQd (c:Bool):TabOk prog (aMZ c):=(Uj c).ad func260 aCz
def aNa (c:Bool):Tab:=(aMZ c).add 167 aDr
theorem aQe (c:Bool):TabOk prog (aNa c):=(aQd c).ad func167 aEM
theorem Uz (k:Int) (h0 : -1000<k) (h1:k<1000):IntKind.i64.wrap k=k:=IntWalk.i64_in _ (by omega)
theorem bAV:Rdv LD q1 (fun n=>n):=fun l n h=>⟨n,fJ l n h,rfl⟩
def Tab.or (T U:Tab):Tab:=fun f cs=>match T f cs with|some r=>some r|none=>U f cs
theorem TabOk.or {P:Program} {T U:Tab} (h:TabOk P T) (k:TabOk P U):TabOk P (T.or U):=by
 intro f cs pre r hg hp;unfold Tab.or at hg;split at hg
 ·rename_i x hx;cases hg;exact h f cs pre r hx hp
 ·exact k f cs pre r hg hp
theorem Holds.same {nt base:Nat} {w0:World} {A A':List Fact} {a:Act} {w:World} (h:Holds nt base w0 A a w) (hs:∀φ∈A',φ∈A∨∃k o l l',φ=.row k o l'∧.row k o l∈A∧aA l=aA l'):Holds nt base w0 A' a w:=by
 obtain⟨β,h1,h2,h3,gt⟩:=h.facts;have hr:∀k l,Fact.row k true l∈A'→∃m,Fact.row k true m∈A:=fun k l hk=>by
  rcases hs _ hk with h3|⟨k1,o,m,m',e,h3,h4⟩
  ·exact⟨l,h3⟩
  ·cases e;exact⟨m,h3⟩
 refine⟨h.defers,h.size,h.below,h.heap,β,fun φ hφ => ?_,fun k k' l l' hk hk' hne => ?_,fun k l hk=>(hr k l hk).elim fun m hm=>h3 k m hm,gt⟩
 ·rcases hs φ hφ with h3|⟨k,o,l,l',rfl,h3,h4⟩
  ·exact h1 φ h3
  ·have:=h1 _ h3;simp only[Fact.ok]at this ⊢;rw[←h4];exact this
 ·obtain⟨m,hm⟩:=hr k l hk;obtain⟨m',hm'⟩:=hr k' l' hk';exact h2 k k' m m' hm hm' hne
def aFs (c:Bool):Tab:=(aNa c).or (BQ c)
theorem aBM (c:Bool):TabOk prog (aFs c):=(aQe c).or (Ly c)
theorem PS (c:Bool) (x:tR):bN prog (aFs c) qN (fun _=>true) f114 40 [.v (.fl (uA x))]=some ([],.one (.fl (aN (aC.mul (gC x) (gC x))))):=by kernel_rfl
def xA (c:Bool):Tab:=(aFs c).add 114 (g1 VW (fun x=>([],.one (.fl (aN (aC.mul x x))))))
theorem BZ (c:Bool):TabOk prog (xA c):=(aBM c).ad func114 (kK tX fun x hp args w ha=>aH aF (aBM c) aL func114 (PS c x) hp ha)
def rowR (x:tR):Nat→List At
 | 0=>uA x
 | i+1=>aN (eC (i+1) (gC x))
def e4 (x:Q4):List At:=[.f x.1.1,.f x.1.2,.f x.2.1,.f x.2.2]
def Tt:List At→Option Q4|[.f a,.f b,.f c,.f d]=>some ((a,b),(c,d))|_=>none
theorem nF:Rd Tt e4:=fun l x h=>by unfold Tt at h; split at h<;>cases h; rfl
def g3 {α γ δ:Type} (rd:List At→Option α) (rd':List At→Option γ) (rd'':List At→Option δ) (op:α→γ→δ→List Prop×RV):jV
 | [.v (.fl l),.v (.fl m),.v (.fl n)]=>match rd l,rd' m,rd'' n with|some x,some y,some z=>some (op x y z)|_,_,_=>none
 | _=>none
theorem aWL {P:Program} {f:FuncId} {α γ δ:Type} {rd:List At→Option α} {en:α→List At} {rd':List At→Option γ} {en':γ→List At} {rd'':List At→Option δ} {en'':δ→List At} (hr:Rd rd en) (hr':Rd rd' en') (hr'':Rd rd'' en'') {op:α→γ→δ→List Prop×RV}
  (h:∀x y z,aZ (op x y z).1→∀args w,bQ w [.v (.fl (en x)),.v (.fl (en' y)),.v (.fl (en'' z))] args→Good P f (op x y z).2 args w) :
  ∀cs pre r,g3 rd rd' rd'' op cs=some (pre,r)→aZ pre→∀(args:List Value) (w:World),bQ w cs args→Good P f r args w:=by
 intro cs pre r hg hp args w ha;unfold g3 at hg;split at hg
 ·rename_i l m n;split at hg
  ·rename_i x y z hx hy hz;have e:op x y z=(pre,r):=by simpa using hg
   have:=h x y z (by rw[e]; exact hp) args w (by
    match args,ha with
    | [v,u,s],ha =>
     refine⟨?_,?_,?_,trivial⟩
     ·show v=.agg (aA (en x)).toArray;rw[←hr l x hx];exact ha.1
     ·show u=.agg (aA (en' y)).toArray;rw[←hr' m y hy];exact ha.2.1
     ·show s=.agg (aA (en'' z)).toArray;rw[←hr'' n z hz];exact ha.2.2.1
    | [],ha=>exact ha.elim
    | [_],ha=>exact ha.2.elim
    | [_,_],ha=>exact ha.2.2.elim
    | _::_::_::_::_,ha=>exact ha.2.2.2.elim)
   rw[e]at this;exact this
  ·cases hg
 ·cases hg
theorem Hl {a b:Q4} (h:aA (e4 a)=aA (e4 b)):a=b:=by
 have:=yP [a.1.1,a.1.2,a.2.1,a.2.2] [b.1.1,b.1.2,b.2.1,b.2.2] h;simp only[List.cons.injEq,and_true]at this;exact Prod.ext (Prod.ext this.1 this.2.1) (Prod.ext this.2.2.1 this.2.2.2)
theorem Ob {a b:aM} (h:aA (aN a)=aA (aN b)):a=b:=by
 have:=yP [a.1.1.1,a.1.1.2,a.1.2.1.1,a.1.2.1.2,a.1.2.2.1,a.1.2.2.2,a.2.1.1,a.2.1.2,a.2.2.1.1,a.2.2.1.2,a.2.2.2.1,a.2.2.2.2] [b.1.1.1,b.1.1.2,b.1.2.1.1,b.1.2.1.2,b.1.2.2.1,b.1.2.2.2,b.2.1.1,b.2.1.2,b.2.2.1.1,b.2.2.1.2,b.2.2.2.1,b.2.2.2.2] h;simp only[List.cons.injEq,and_true]at this;obtain⟨h0,h1,h2,h3,h4,h5,h6,h7,h8,h9,h10,h11⟩:=this;exact Prod.ext (Prod.ext (Prod.ext h0 h1) (Prod.ext (Prod.ext h2 h3) (Prod.ext h4 h5))) (Prod.ext (Prod.ext h6 h7) (Prod.ext (Prod.ext h8 h9) (Prod.ext h10 h11)))
theorem Sj (c:Bool) (x:aM):bN prog (xA c) qN (fun _=>true) f131 60 [.v (.fl (aN x))]=some ([],.many [.fl (e4 (fX x)),.fl (e4 (fY x)),.fl (e4 (fZ x))]):=by kernel_rfl
def UH (c:Bool):Tab:=(xA c).add 131 (g1 qQ fun x=>([],.many [.fl (e4 (fX x)),.fl (e4 (fY x)),.fl (e4 (fZ x))]))
theorem ZN (c:Bool):TabOk prog (UH c):=(BZ c).ad func131 (bM eF fun x hp args w ha=>aH aF (BZ c) aL func131 (Sj c x) hp ha)
theorem XE (c:Bool) (x:Q4) (y:Q4):bN prog (UH c) qN (fun _=>true) f132 60 [.v (.fl (e4 x)),.v (.fl (e4 y))]=some ([],.one (.fl (e4 ((F2.add (F2.mul x.1 y.1) (F2.mul x.2 (F2.mul y.2 dG)),F2.add (F2.mul x.1 y.2) (F2.mul x.2 y.1)))))):=by kernel_rfl
theorem XW (x:Q4) (y:Q4):F4.mul x y=(F2.add (F2.mul x.1 y.1) (F2.mul x.2 (F2.mul y.2 dG)),F2.add (F2.mul x.1 y.2) (F2.mul x.2 y.1)):=by
 refine Prod.ext ?_ rfl;exact aE F2 (aU F2 [x.1,x.2,y.1,y.2,dG]) (Z0*Z2+Z4*(Z1*Z3)) (Z0*Z2+Z1*(Z3*Z4)) (by decide)
def BN (c:Bool):Tab:=(UH c).add 132 (g2 Tt Tt fun x y=>([],.one (.fl (e4 (F4.mul x y)))))
theorem HQ (c:Bool):TabOk prog (BN c):=(ZN c).ad func132 (fC nF nF fun x y hp args w ha=>by show Good _ _ (.one (.fl (e4 (F4.mul x y)))) _ _; rw[XW]; exact aH aF (ZN c) aL func132 (XE c x y) hp ha)
theorem aGO (c:Bool) (x:Q4):bN prog (BN c) qN (fun _=>true) f133 60 [.v (.fl (e4 x))]=some ([],.one (.fl (e4 (s4 x)))):=by kernel_rfl
def aFp (c:Bool):Tab:=(BN c).add 133 (g1 Tt fun x=>([],.one (.fl (e4 (s4 x)))))
theorem aBE (c:Bool):TabOk prog (aFp c):=(HQ c).ad func133 (bM nF fun x hp args w ha=>aH aF (HQ c) aL func133 (aGO c x) hp ha)
theorem XF (c:Bool) (x:Q4) (y:Q4):bN prog (aFp c) qN (fun _=>true) f134 60 [.v (.fl (e4 x)),.v (.fl (e4 y))]=some ([],.one (.fl (e4 (F4.sub x y)))):=by kernel_rfl
def BO (c:Bool):Tab:=(aFp c).add 134 (g2 Tt Tt fun x y=>([],.one (.fl (e4 (F4.sub x y)))))
theorem HU (c:Bool):TabOk prog (BO c):=(aBE c).ad func134 (fC nF nF fun x y hp args w ha=>aH aF (aBE c) aL func134 (XF c x y) hp ha)
theorem Er (c:Bool) (x:Q4):bN prog (BO c) qN (fun _=>true) f135 60 [.v (.fl (e4 x))]=some ([],.one (.fl (e4 (OB x)))):=by kernel_rfl
def KF (c:Bool):Tab:=(BO c).add 135 (g1 Tt fun x=>([],.one (.fl (e4 (OB x)))))
theorem MY (c:Bool):TabOk prog (KF c):=(HU c).ad func135 (bM nF fun x hp args w ha=>aH aF (HU c) aL func135 (Er c x) hp ha)
theorem PR (c:Bool) (x:Q4) (y:Q4):bN prog (KF c) qN (fun _=>true) f137 60 [.v (.fl (e4 x)),.v (.fl (e4 y))]=some ([],.one (.fl (e4 (Xo x y)))):=by kernel_rfl
def wZ (c:Bool):Tab:=(KF c).add 137 (g2 Tt Tt fun x y=>([],.one (.fl (e4 (Xo x y)))))
theorem BY (c:Bool):TabOk prog (wZ c):=(MY c).ad func137 (fC nF nF fun x y hp args w ha=>aH aF (MY c) aL func137 (PR c x y) hp ha)
theorem WV (c:Bool) (x y z:Q4):bN prog (wZ c) qN (fun _=>true) f136 60 [.v (.fl (e4 x)),.v (.fl (e4 y)),.v (.fl (e4 z))]=some ([],.one (.fl (aN (aCJ x y z)))):=by kernel_rfl
def kL (c:Bool):Tab:=(wZ c).add 136 (g3 Tt Tt Tt fun x y z=>([],.one (.fl (aN (aCJ x y z)))))
theorem kF (c:Bool):TabOk prog (kL c):=(BY c).ad func136 (aWL nF nF nF fun x y z hp args w ha=>aH aF (BY c) aL func136 (WV c x y z) hp ha)
theorem XG (c:Bool) (x:aM):bN prog (kL c) (qG prog) (fun s=>bif Nat.beq s 35 then true else bif Nat.beq s 44 then true else bif Nat.beq s 54 then true else bif Nat.beq s 61 then false else true) f68 60 [.v (.fl (aN x))]=some ([aA (e4 (F4.sub (F4.mul (fX x) (fX x)) (s4 (F4.mul (fY x) (fZ x)))))=aA (e4 (OB (fX x))),aA (e4 (F4.sub (F4.mul (fX x) (fY x)) (s4 (F4.mul (fZ x) (fZ x)))))=aA (e4 (OB (fY x))),aA (e4 (F4.sub (F4.mul (fY x) (fY x)) (F4.mul (fX x) (fZ x))))=aA (e4 (OB (fZ x))),aA (aN x)≠aA (aN aC.zero)],.many [.fl (aN (aUH x)),.im (.bool true)]):=by kernel_rfl
theorem XK (c:Bool) (x:aM):bN prog (kL c) (qG prog) (fun s=>bif Nat.beq s 35 then false else bif Nat.beq s 44 then true else bif Nat.beq s 54 then true else bif Nat.beq s 61 then false else true) f68 60 [.v (.fl (aN x))]=some ([aA (e4 (F4.sub (F4.mul (fX x) (fX x)) (s4 (F4.mul (fY x) (fZ x)))))≠aA (e4 (OB (fX x)))],.many [.fl (aN aC.zero),.im (.bool false)]):=by kernel_rfl
theorem XJ (c:Bool) (x:aM):bN prog (kL c) (qG prog) (fun s=>bif Nat.beq s 35 then true else bif Nat.beq s 44 then false else bif Nat.beq s 54 then true else bif Nat.beq s 61 then false else true) f68 60 [.v (.fl (aN x))]=some ([aA (e4 (F4.sub (F4.mul (fX x) (fX x)) (s4 (F4.mul (fY x) (fZ x)))))=aA (e4 (OB (fX x))),aA (e4 (F4.sub (F4.mul (fX x) (fY x)) (s4 (F4.mul (fZ x) (fZ x)))))≠aA (e4 (OB (fY x)))],.many [.fl (aN aC.zero),.im (.bool false)]):=by kernel_rfl
theorem XI (c:Bool) (x:aM):bN prog (kL c) (qG prog) (fun s=>bif Nat.beq s 35 then true else bif Nat.beq s 44 then true else bif Nat.beq s 54 then false else bif Nat.beq s 61 then false else true) f68 60 [.v (.fl (aN x))]=some ([aA (e4 (F4.sub (F4.mul (fX x) (fX x)) (s4 (F4.mul (fY x) (fZ x)))))=aA (e4 (OB (fX x))),aA (e4 (F4.sub (F4.mul (fX x) (fY x)) (s4 (F4.mul (fZ x) (fZ x)))))=aA (e4 (OB (fY x))),aA (e4 (F4.sub (F4.mul (fY x) (fY x)) (F4.mul (fX x) (fZ x))))≠aA (e4 (OB (fZ x)))],.many [.fl (aN aC.zero),.im (.bool false)]):=by kernel_rfl
theorem XH (c:Bool) (x:aM):bN prog (kL c) (qG prog) (fun s=>bif Nat.beq s 35 then true else bif Nat.beq s 44 then true else bif Nat.beq s 54 then true else bif Nat.beq s 61 then true else true) f68 60 [.v (.fl (aN x))]=some ([aA (e4 (F4.sub (F4.mul (fX x) (fX x)) (s4 (F4.mul (fY x) (fZ x)))))=aA (e4 (OB (fX x))),aA (e4 (F4.sub (F4.mul (fX x) (fY x)) (s4 (F4.mul (fZ x) (fZ x)))))=aA (e4 (OB (fY x))),aA (e4 (F4.sub (F4.mul (fY x) (fY x)) (F4.mul (fX x) (fZ x))))=aA (e4 (OB (fZ x))),aA (aN x)=aA (aN aC.zero)],.many [.fl (aN aC.zero),.im (.bool false)]):=by kernel_rfl
def aQg (c:Bool) (x:aM):List Prop×RV:=bif c then ([oY x],.many [.fl (aN (aC.mul x x)),.im (.bool true)])else ([¬oY x],.many [.fl (aN aC.zero),.im (.bool false)])
theorem aIF (c:Bool) (x:aM) (hp:aZ (aQg c x).1) (args:List Value) (w:World) (ha:bQ w [.v (.fl (aN x))] args):Good prog 68 (aQg c x).2 args w:=by
 cases c
 ·have hn:¬oY x:=hp.1;unfold oY at hn;rw[Oh]at hn
  by_cases h1:aCT x
  ·by_cases h2:aCS x
   ·by_cases h3:aCR x
    ·have hz:x=aC.zero:=Classical.byContradiction fun e=>hn ⟨e,h1,h2,h3⟩
     exact aH aF (kF false) (aK _) func68 (XH false x) ⟨congrArg (fun t=>aA (e4 t)) h1,congrArg (fun t=>aA (e4 t)) h2,congrArg (fun t=>aA (e4 t)) h3,congrArg (fun t=>aA (aN t)) hz,trivial⟩ ha
    ·exact aH aF (kF false) (aK _) func68 (XI false x) ⟨congrArg (fun t=>aA (e4 t)) h1,congrArg (fun t=>aA (e4 t)) h2,fun e=>h3 (Hl e),trivial⟩ ha
   ·exact aH aF (kF false) (aK _) func68 (XJ false x) ⟨congrArg (fun t=>aA (e4 t)) h1,fun e=>h2 (Hl e),trivial⟩ ha
  ·exact aH aF (kF false) (aK _) func68 (XK false x) ⟨fun e=>h1 (Hl e),trivial⟩ ha
 ·have hn:oY x:=hp.1;unfold oY at hn;rw[Oh]at hn;obtain⟨hz,h1,h2,h3⟩:=hn;show Good _ _ (.many [.fl (aN (aC.mul x x)),.im (.bool true)]) _ _;rw[←aNW x ⟨h1,h2,h3⟩];exact aH aF (kF true) (aK _) func68 (XG true x) ⟨congrArg (fun t=>aA (e4 t)) h1,congrArg (fun t=>aA (e4 t)) h2,congrArg (fun t=>aA (e4 t)) h3,fun e=>hz (Ob e),trivial⟩ ha
def ES (c:Bool):Tab:=(kL c).add 68 (g1 qQ (aQg c))
theorem HZ (c:Bool):TabOk prog (ES c):=(kF c).ad func68 (bM eF (aIF c))
def aQi (c:Bool) (x:aM):List Prop×RV:=bif c then ([oY x],.many [.fl (aN (aC.mul x x)),.im (.int .i64 0)])else ([¬oY x],.many [.fl (aN aC.zero),.im (.int .i64 42)])
theorem zQ (x:tR):bN prog (ES true) qN (fun _=>true) f207 40 [.v (.fl (uA x))]=some ([oY (gC x)],.many [.fl (aN (aC.mul (gC x) (gC x))),.im (.int .i64 0)]):=by kernel_rfl
theorem xM (x:tR):bN prog (ES false) qN (fun _=>true) f207 40 [.v (.fl (uA x))]=some ([¬oY (gC x)],.many [.fl (aN aC.zero),.im (.int .i64 42)]):=by kernel_rfl
theorem aIH (c:Bool) (x:tR) (hp:aZ (aQi c (gC x)).1) (args:List Value) (w:World) (ha:bQ w [.v (.fl (uA x))] args):Good prog 207 (aQi c (gC x)).2 args w:=by
 cases c
 ·exact aH aF (HZ false) aL func207 (xM x) hp ha
 ·exact aH aF (HZ true) aL func207 (zQ x) hp ha
def uS (c:Bool):Tab:=(ES c).add 207 (g1 VW (aQi c))
theorem wJ (c:Bool):TabOk prog (uS c):=(HZ c).ad func207 (kK tX (aIH c))
def aQh (c:Bool) (x:aM):List Prop×RV:=bif c then ([oY x],.one (.im (.bool true)))else ([¬oY x],.one (.im (.bool false)))
theorem zP (x:tR):bN prog (uS true) qN (fun _=>true) f27 40 [.v (.fl (uA x))]=some ([oY (gC x)],.one (.im (.bool true))):=by kernel_rfl
theorem xL (x:tR):bN prog (uS false) qN (fun _=>true) f27 40 [.v (.fl (uA x))]=some ([¬oY (gC x)],.one (.im (.bool false))):=by kernel_rfl
theorem aIG (c:Bool) (x:tR) (hp:aZ (aQh c (gC x)).1) (args:List Value) (w:World) (ha:bQ w [.v (.fl (uA x))] args):Good prog 27 (aQh c (gC x)).2 args w:=by
 cases c
 ·exact aH aF (wJ false) aL func27 (xL x) hp ha
 ·exact aH aF (wJ true) aL func27 (zP x) hp ha
def kM (c:Bool):Tab:=(uS c).add 27 (g1 VW (aQh c))
theorem gF (c:Bool):TabOk prog (kM c):=(wJ c).ad func27 (kK tX (aIG c))
theorem aWq (y:aM):eC (bR 2).toNat y=cM y:=by rw[show (bR 2).toNat=2 by decide,RQ]
def OA (b:Nat):Value:=.func (.func 182) #[] #[.pointer (some ⟨b,0,none⟩)]
def zK:Code:=(f138.body).getD .skip
def c0:Nat→Cfg:=fun _=>⟨fun _=>kM true,fun _=>true,fun _=>none⟩
theorem aUJ (x:aM):aX prog qN f138.ntmps c0 40 (cA zK) (lS 0 [.v (.fl (aN x))]) [.slot 1 (.pt 1 0),.row 1 true (aN x)]=some ([],.nrm,[.slot 1 (.pt 1 0),.row 1 true (aN x)]):=by kernel_rfl
theorem aUI (x:aM) (b:Nat):aX prog qN f138.ntmps c0 40 (cB zK) [.at 1 b,.slot 1 (.pt 1 0),.row 1 true (aN x)] [.slot 2 (.im (OA b)),.row 1 true (aN x),.at 1 b]=some ([],.rt,[.slot 2 (.im (OA b)),.row 1 true (aN x),.at 1 b]):=by kernel_rfl
theorem aGr:zK=.seq (cA zK) (cB zK):=by kernel_rfl
theorem KW (x:aM) (args:List Value) (w:World) (ha:bQ w [.v (.fl (aN x))] args):Calls prog 138 args.toArray w (fun e w'=>∃b,e=.returned (OA b)∧Below w.heap.size w w'∧w.heap.size≤b∧b<w'.heap.size∧w'.rangeAt b 0 (aA (aN x))∧∀j,w'.frozen? ⟨b,j,none⟩=false):=by
 refine dU func138 (c:=zK) rfl ha (Nat.le_of_ble_eq_true (by kernel_rfl)) fun a w' hA => ?_
 rw[aGr];refine wp_seq (bD aF (fun _ _=>gF true) aL (aUJ x) trivial hA fun a w' hA => ?_);obtain⟨b,hA⟩:=hA.at (k:=1) (l:=aN x) (by simp);refine bD aF (fun _ _=>gF true) aL (aUI x b) trivial hA fun a w' hA => ?_
 refine pQ (l:=[.im (OA b)]) (r:=.one (.im (OA b))) (by kernel_rfl) (by kernel_rfl) hA ?_;obtain⟨β,g1,g2⟩:=hA.facts;obtain⟨e1,e2,e3,_⟩:=g1 (.row 1 true (aN x)) (by simp);obtain⟨e4,e5,e6⟩:=e3 rfl;obtain⟨e7,e8⟩:=g1 (.at 1 b) (by simp);rw[e7]at e1 e2 e4 e6;rw[e8]at e2;exact⟨b,rfl,hA.below,e4,e1,e2,e6⟩
def oM:Code:=(f182.body).getD .skip
def jA:Code:=qD (qD (cB (cA (cB oM))))
def qF0 (k:Nat) (b:Nat):List Fact:=[.slot 0 (.im (iI k)),.slot 1 (.im (iG b 0)),.slot 3 (.pt 3 0),.row 3 true (aN aC.zero)]
def qF (k i:Nat) (b:Nat):List Fact:=[.slot 1 (.im (iG b 0)),.slot 3 (.pt 3 0),.row 3 true (aN aC.zero),.slot 4 (.im (iI k)),.slot 5 (.im (iI i))]
def c1 (n:Nat→Option Value):Nat→Cfg:=fun _=>⟨fun _=>kM true,fun _=>true,n⟩
theorem aVr (k b:Nat):aX prog qN f182.ntmps c0 40 (cA oM) (lS 0 [.v (.im (iI k)),.v (.im (iG b 0))]) (qF0 k b)=some ([],.nrm,qF0 k b):=by kernel_rfl
theorem aVq (k b:Nat):aX prog qN f182.ntmps c0 40 (cA (cA (cB oM))) (qF0 k b) (qF k 0 b)=some ([],.nrm,qF k 0 b):=by kernel_rfl
theorem aVs (k i b:Nat) (c:Bool):aX prog qN f182.ntmps (c1 (fun s=>bif Nat.beq s 6 then some (.bool c)else none)) 40 (cA jA) (qF k i b) (.slot 6 (.im (.bool c))::qF k i b)=some ([aI .lss .i64 (Int.ofNat i) (Int.ofNat k)=some (.bool c)],.nrm,.slot 6 (.im (.bool c))::qF k i b):=by kernel_rfl
theorem aVt (k i b:Nat):aX prog qN f182.ntmps c0 40 (cA (cB jA)) (.slot 6 (.im (.bool true))::qF k i b) (qF k i b)=some ([],.nrm,qF k i b):=by kernel_rfl
theorem aVu (k i b:Nat):aX prog qN f182.ntmps c0 40 (cA (cB jA)) (.slot 6 (.im (.bool false))::qF k i b) (qF k i b)=some ([],.ex 0,qF k i b):=by kernel_rfl
def Yo (u:aM) (b:Nat):Ext:={ Ext.none with ld:=fun s=>bif Nat.beq s 7 then some (aN u)else bif Nat.beq s 10 then some (aN u)else none,old:=fun b' o l=>b'=b∧o=0∧l=aN u }
def oSq (x:aM):List Prop×RV:=([oY x],.one (.fl (aN (aC.mul x x))))
theorem WK (x:tR):bN prog (kM true) qN (fun _=>true) f164 40 [.v (.fl (uA x))]=some ([oY (gC x)],.one (.fl (aN (aC.mul (gC x) (gC x))))):=by kernel_rfl
def Wg:Tab:=(kM true).add 164 (g1 qQ oSq)
theorem ZG:TabOk prog Wg:=(gF true).ad func164 (bM eF fun x hp args w ha=>by
 have h:=aH aF (gF true) aL func164 (WK (lJ x)) (by rw[fH]; exact hp) (args:=args) (w:=w) (by
  match args,ha with
  | [v],ha=>exact⟨ha.1,trivial⟩
  | [],ha=>exact ha.elim
  | _::_::_,ha=>exact ha.2.elim)
 rw[fH]at h;exact h)
def cq:Nat→Cfg:=fun _=>⟨fun _=>Wg,fun _=>true,fun _=>none⟩
theorem aYX (k i b:Nat) (u:aM):sC prog { qG prog with x:=Yo u b } f182.ntmps (cq 0) ((cN (qD (cA (cB (cB jA))))).extract 0 2) (qF k i b) (.slot 8 (.fl (aN (aC.mul u u)))::qF k i b)=some ([b=b∧0=0∧aN u=aN u,cO (aN u)=48,oY u],.slot 8 (.fl (aN (aC.mul u u)))::qF k i b):=by kernel_rfl
theorem aYY (k i b:Nat):aX prog qN f182.ntmps (c1 (fun s=>bif Nat.beq s 9 then some (iI (i+1))else none)) 40 (cB (cB (cB jA))) (qF k i b) (qF k (i+1) b)=some ([aI .add .i64 (Int.ofNat i) 1=some (iI (i+1))],.nrm,qF k (i+1) b):=by kernel_rfl
theorem aYZ (k b:Nat) (u:aM):aX prog { qG prog with x:=Yo u b } f182.ntmps c0 40 (cB (cB oM)) (qF k k b) [.slot 3 (.pt 3 0),.row 3 true (aN u)]=some ([b=b∧0=0∧aN u=aN u,cO (aN u)=48],.rt,[.slot 3 (.pt 3 0),.row 3 true (aN u)]):=by kernel_rfl
theorem aHx:oM=.seq (cA oM) (.seq (.seq (cA (cA (cB oM))) (.block 0 (.loop jA))) (cB (cB oM))):=by kernel_rfl
theorem XX:jA=.seq (cA jA) (.seq (cA (cB jA)) (.seq (.block 1 (.region 3 (cN (qD (cA (cB (cB jA))))) false)) (cB (cB (cB jA))))):=by kernel_rfl
structure St (w:World) (b:Nat) (A:List Fact) (u:aM) (a:Act) (wi:World):Prop where
 hold:Holds f182.ntmps w.heap.size wi A a wi
 wr:WrAt w wi b []
 rng:wi.rangeAt b 0 (aA (aN u))
theorem St.step {w:World} {b:Nat} (hb:b<w.heap.size) {A L:List Fact} {u:aM} {a a2:Act} {wi w2:World} (h:St w b A u a wi) (h2:Holds f182.ntmps w.heap.size wi L a2 w2):St w b L u a2 w2 :=
 ⟨h2.now,h.wr.below hb h2.below,iQ h2.below hb h.rng⟩
theorem aJX (x:aM):(aN x).all cOk=true:=by kernel_rfl
theorem BC (x:aM):cO (aN x)=48:=by kernel_rfl
theorem aOB (x:aM) (i:Nat):aC.mul (bH aC x (2^i)) (bH aC x (2^i))=bH aC x (2^(i+1)):=by
 rw[←cJ];congr 1;rw[Nat.pow_succ]; omega
theorem aAx (k:Nat) (hk:k<4611686018427387904) (x:aM) (hx:oY x) (b:Nat) (w:World) (hb:b<w.heap.size) (hr:w.rangeAt b 0 (aA (aN x))) (hf:∀j,w.frozen? ⟨b,j,none⟩=false) :
  Calls prog 182 #[iI k,iG b 0] w (fun e w'=>e=.returned (.agg (aA (aN (bH aC x (2^k)))).toArray)∧WrAt w w' b []∧w'.rangeAt b 0 (aA (aN (bH aC x (2^k))))):=by
 have hT:∀(n d:Nat) (wi:World),TabOkW prog (kM true) w.heap.size wi:=fun _ _ wi=>(gF true).w _ _
 have hTq:∀(d:Nat) (wi:World),TabOkW prog Wg w.heap.size wi:=fun _ wi=>ZG.w _ _
 have hq:∀wi:World,cS prog qN w.heap.size wi:=fun wi=>aL.w _ _
 have hqo:∀(u:aM) (wi:World),wi.rangeAt b 0 (aA (aN u))→cS prog { qG prog with x:=Yo u b } w.heap.size wi:=fun u wi h=>Nw rfl rfl rfl fun b' o l e=>by
  obtain⟨rfl,rfl,rfl⟩:=e;exact⟨hb,h⟩
 refine dU func182 (c:=oM) rfl (args:=[iI k,iG b 0]) (cs:=[.v (.im (iI k)),.v (.im (iG b 0))]) ⟨rfl,rfl,trivial⟩ (Nat.le_of_ble_eq_true (by kernel_rfl)) fun a w' hA => ?_
 have S:St w b _ x a w':=⟨hA.now,(WrAt.refl w b).below hb hA.below,iQ hA.below hb hr⟩;clear hA;rw[aHx];refine wp_seq (aD aF (fun n d=>hT n d _) (hq _) (aVr k b) trivial S.hold fun a w2 hA => ?_);replace S:=S.step hb hA;clear hA;refine wp_seq (wp_seq (aD aF (fun n d=>hT n d _) (hq _) (aVq k b) trivial S.hold fun a w3 hA => ?_));replace S:=S.step hb hA;clear hA;refine wp_block ?_;refine pP (fun i a wi=>St w b (qF k i b) (bH aC x (2^i)) a wi) k (fun i hi a wi S R hR => ?_) (fun a wi S R => ?_) (by rw[Nat.pow_zero,MA]; exact S)
 ·rw[XX];refine wp_seq (aD aF (fun n d=>(gF true).w _ _) (hq _) (aVs k i b true) ⟨bY hi,trivial⟩ S.hold fun a w4 hA => ?_);replace S:=S.step hb hA;clear hA;refine wp_seq (aD aF (fun n d=>hT n d _) (hq _) (aVt k i b) trivial S.hold fun a w5 hA => ?_);replace S:=S.step hb hA;clear hA;refine wp_seq (wp_block (tT (l:=List.range' 0 ((cN (qD (cA (cB (cB jA))))).extract 0 2).size++(2::[])) (by kernel_rfl) ?_));refine cH (c:=cq 0) (fun d=>hTq d _) (hqo _ _ S.rng) (aYX k i b _) ⟨⟨rfl,rfl,rfl⟩,BC _,IU hx _,trivial⟩ (by kernel_rfl) S.hold fun a w6 hA => ?_
  replace S:=S.step hb hA;clear hA;have h8:=S.hold.slotF (s:=8) (l:=aN (aC.mul (bH aC x (2^i)) (bH aC x (2^i)))) (by simp);have h1:=S.hold.slot (s:=1) (v:=iG b 0) (by simp[qF]);obtain⟨o,ho,hoo,hod,hog⟩:∃o,(cN (qD (cA (cB (cB jA)))))[2]?=some o∧o.op=.store 42 (.tmp 1) (.tmp 8)∧o.dst=none∧o.guard=none:=⟨_,rfl,rfl,rfl,rfl⟩
  refine mS ho hog (Qj (b:=b) (n:=48) (p:=aN (aC.mul (bH aC x (2^i)) (bH aC x (2^i)))) (l:=aA (aN (bH aC x (2^i)))) hoo hod (by simp[Act.eval,h1,iG]) (by simp[Act.eval,h8]) (by kernel_rfl) (BC _) (aJX _) S.rng (by rw[aR,BC]) (fun j=>by rw[S.wr.frozen]; exact hf j) ?_);have S2:St w b (.slot 8 (.fl (aN (aC.mul (bH aC x (2^i)) (bH aC x (2^i)))))::qF k i b) (bH aC x (2^(i+1))) a (w6.setCells b 0 (aA (aN (aC.mul (bH aC x (2^i)) (bH aC x (2^i)))))) :=
   ⟨S.hold.setOld (by kernel_rfl) hb 0 _,S.wr.set 0 _,by rw[←aOB]; exact Tu S.rng (by rw[aR,aR,BC,BC])⟩
  show (cB (cB (cB jA))).wp _ _ _ _;refine aD aF (fun n d=>hT n d _) (hq _) (aYY k i b) ⟨lI (k:=1) (by omega),trivial⟩ (S2.hold.sub fun φ h=>List.mem_cons_of_mem _ h) fun a w7 hA => ?_
  exact hR _ _ (S2.step hb hA)
 ·rw[XX];refine wp_seq (aD aF (fun n d=>(gF true).w _ _) (hq _) (aVs k k b false) ⟨eO (Nat.le_refl _),trivial⟩ S.hold fun a w4 hA => ?_);replace S:=S.step hb hA;clear hA;refine wp_seq (aD aF (fun n d=>hT n d _) (hq _) (aVu k k b) trivial S.hold fun a w5 hA => ?_);replace S:=S.step hb hA;clear hA;show (cB (cB oM)).wp _ _ _ _;refine aD aF (fun n d=>hT n d _) (hqo _ _ S.rng) (aYZ k b _) ⟨⟨rfl,rfl,rfl⟩,BC _,trivial⟩ S.hold fun a w6 hA => ?_
  have S2:=S.step hb hA;exact pQ (l:=[.fl (aN (bH aC x (2^k)))]) (r:=.one (.fl (aN (bH aC x (2^k))))) (by kernel_rfl) (by kernel_rfl) hA ⟨rfl,S2.wr,S2.rng⟩
end Go.Proofs.YtglgakbkdjhojaaGreat.Ex
