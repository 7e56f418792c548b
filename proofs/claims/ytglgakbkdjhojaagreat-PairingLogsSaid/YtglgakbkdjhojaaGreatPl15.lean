/- Pl15 -/
import Derived.Deep.RegionWith
import Derived.Test.YtglgakbkdjhojaaGreatPl14
import Derived.Test.YtglgakbkdjhojaaGreatPl02
import Derived.Test.YtglgakbkdjhojaaGreatPl07
import Derived.Test.YtglgakbkdjhojaaGreatPl06
import Derived.Test.YtglgakbkdjhojaaGreatPl10
import Derived.Test.YtglgakbkdjhojaaGreatPl08
import Derived.Test.YtglgakbkdjhojaaGreatPl09
import Derived.Test.YtglgakbkdjhojaaGreatPl12
import Derived.Test.YtglgakbkdjhojaaGreatPl05
import Derived.Test.YtglgakbkdjhojaaGreatProg
set_option maxRecDepth 100000
set_option linter.unusedVariables false
set_option linter.unusedSimpArgs false
noncomputable section
namespace Go.Proofs.YtglgakbkdjhojaaGreat.Ex
open Go.Proofs.Tryz
theorem aNj:GHom bE.grp bE.grp sF:=⟨Td⟩
def nI (Q:C2):Prop:=bE.grp.ns qS Q=bE.grp.zero
def kN:Nat:=(sN+cU+cU*(cU*cU)-cU*cU)/qS
theorem bCL:sN+cU+cU*(cU*cU)=cU*cU+qS*kN:=by kernel_rfl
theorem aIe {Q:C2} (h:nI Q):tot bE.grp sN Q (sF Q) (sF (sF Q))=bE.grp.neg (sF (sF (sF Q))):=by
 have e:=(Oq Q).2 h;have e2:sF (sF Q)=bE.grp.ns (cU*cU) Q:=by rw[←e,JZ,←e,bE.grp.ns_mul]
 have e3:sF (sF (sF Q))=bE.grp.ns (cU*(cU*cU)) Q:=by
  rw[e2,JZ,←e];rw[bE.grp.ns_mul cU _ (cU*cU),bE.grp.ns_mul cU _ cU]
 refine SJ ?_;rw[e3,e2,←e,←bE.grp.ns_add,←bE.grp.ns_add,bCL,bE.grp.ns_add,bE.grp.ns_mul qS,show bE.grp.ns qS Q=bE.grp.zero from h,bE.grp.ns_zero,bE.grp.addz]
theorem aOK {Q Q':C2} (h:nI Q) (h':nI Q'):nI (bE.grp.add Q Q'):=by
 unfold nI at h h' ⊢;rw[bE.grp.ns_sum,h,h',bE.grp.zadd]
theorem DG {Q:C2} (h:nI Q):∀n,nI (bE.grp.ns n Q)
 | 0=>bE.grp.ns_zero qS
 | n+1=>aOK (DG h n) h
theorem aUM {p:Pt Fq} (t t':Pt Q2):rOf (Ig p t t'):=by
 match p with
 | none=>rw[oV]; exact rE
 | some a=>rw[jY]; exact aFx _
theorem aNc (p p' s:Pt Fq) (t:Pt Q2):rOf (NW p p' s t):=by
 match p,p',s,t with
 | none,_,_,_=>rw[ES]; exact rE
 | some p,none,_,_=>rw[ER]; exact rE
 | some p,some q,none,_=>rw[EP]; exact rE
 | some p,some q,some s,none=>rw[QO]; exact rE
 | some p,some q,some s,some t=>rw[EO]; exact aFx _
theorem aCG (P:C1):Cyc bE.grp vg (CV P):=by
 unfold CV;exact bGV P.2
theorem bAg (P:C1) (g k:C2):CV P (sF g) (sF k)=fv (CV P g k):=by
 unfold CV;exact aYx P.2 g.2 k.2
theorem bHh (P:C1) (g k:C2):rOf (CV P g k):=by
 unfold CV;exact aUM _ _
theorem bAc (P P':C1) (g k:C2):vg.add (vg.add (CV P g k) (CV P' g k)) (HV P P' (bE.grp.add g k))=vg.add (CV (iL.grp.add P P') g k) (vg.add (HV P P' g) (HV P P' k)):=by
 unfold HV CV;rw[Gf,oQ];exact aXg P.2 P'.2 g.2 k.2
theorem bAa (P P':C1) (g:C2):HV P P' (sF g)=fv (HV P P' g):=by
 unfold HV;exact aWF g.2
theorem bHe (P P':C1) (g:C2):rOf (HV P P' g):=by
 unfold HV;exact aNc _ _ _ _
def wW (P:C1) (Q:C2):Vq:=(fin (aCG P) sN sF Q).2
section
variable {G V:Type} {A:AG G} {B:AG V}
theorem aYa {c:G→G→V} (C:Cyc A B c) {s:Nat} {ψ:G→G} {φ:V→V} (hψ:GHom A A ψ) (hc:∀g h,c (ψ g) (ψ h)=φ (c g h)) (hv:∀g h,B.add (B.add (B.ns s (c g h)) (φ (c g h))) (φ (φ (φ (c g h))))=φ (φ (c g h)))
  {P:G→Prop} (hP:∀Q,P Q→tot A s Q (ψ Q) (ψ (ψ Q))=A.neg (ψ (ψ (ψ Q)))):∀Q Q',P Q→P Q'→(fin C s ψ (A.add Q Q')).2=B.add (fin C s ψ Q).2 (fin C s ψ Q').2 :=
 fun Q Q' h h'=>(aCw C hψ hc C.neg (hv Q Q') (hP Q h) (hP Q' h')).symm
theorem aYb {c1 c2 c3:G→G→V} (C1:Cyc A B c1) (C2:Cyc A B c2) (C3:Cyc A B c3) {h:G→V} (hh:∀g k,B.add (B.add (c1 g k) (c2 g k)) (h (A.add g k))=B.add (c3 g k) (B.add (h g) (h k)))
  {s:Nat} {ψ:G→G} {φ:V→V} (hψ:∀g,h (ψ g)=φ (h g)) (hn:∀g,h (A.neg g)=B.neg (h g)) (hv:∀g,B.add (B.add (B.ns s (h g)) (φ (h g))) (φ (φ (φ (h g))))=φ (φ (h g)))
  {P:G→Prop} (hP:∀Q,P Q→tot A s Q (ψ Q) (ψ (ψ Q))=A.neg (ψ (ψ (ψ Q)))):∀Q,P Q→(fin C3 s ψ Q).2=B.add (fin C1 s ψ Q).2 (fin C2 s ψ Q).2 :=
 fun Q q=>(aCx C1 C2 C3 hh hψ hn (hv Q) (hP Q q)).symm
end
theorem bAf (P:C1) (g k:C2):vg.add (vg.add (vg.ns sN (CV P g k)) (fv (CV P g k))) (fv (fv (fv (CV P g k))))=fv (fv (CV P g k)):=aIO (bHh P g k)
theorem aZZ (P P':C1) (g:C2):vg.add (vg.add (vg.ns sN (HV P P' g)) (fv (HV P P' g))) (fv (fv (fv (HV P P' g))))=fv (fv (HV P P' g)):=aIO (bHe P P' g)
theorem aSm (P:C1) {Q Q':C2} (h:nI Q) (h':nI Q'):wW P (bE.grp.add Q Q')=vg.add (wW P Q) (wW P Q') :=
 aYa (aCG P) aNj (bAg P) (bAf P) (P:=nI) (fun Q=>aIe) Q Q' h h'
theorem aSn (P P':C1) {Q:C2} (h:nI Q):wW (iL.grp.add P P') Q=vg.add (wW P Q) (wW P' Q) :=
 aYb (aCG P) (aCG P') (aCG (iL.grp.add P P')) (h:=HV P P') (bAc P P') (bAa P P') (bAb P P') (aZZ P P') (P:=nI) (fun Q=>aIe) Q h
theorem aKk {Q:C2} (h:nI Q):wW iL.grp.zero Q=vg.zero:=by
 have e:=aSn iL.grp.zero iL.grp.zero h;rw[iL.grp.zadd]at e;apply vg.cancel (a:=wW iL.grp.zero Q);rw[←e,vg.addz]
theorem Rs:nI bE.grp.zero:=bE.grp.ns_zero qS
theorem aKj (P:C1):wW P bE.grp.zero=vg.zero:=by
 have e:=aSm P Rs Rs;rw[bE.grp.zadd]at e;apply vg.cancel (a:=wW P bE.grp.zero);rw[←e,vg.addz]
theorem aKi (P:C1) {Q:C2} (h:nI Q):∀m,wW (iL.grp.ns m P) Q=vg.ns m (wW P Q)
 | 0=>aKk h
 | m+1=>by
  show wW (iL.grp.add (iL.grp.ns m P) P) Q=vg.add (vg.ns m (wW P Q)) (wW P Q);rw[aSn _ _ h,aKi P h m]
theorem aKh (P:C1) {Q:C2} (h:nI Q):∀m,wW P (bE.grp.ns m Q)=vg.ns m (wW P Q)
 | 0=>aKj P
 | m+1=>by
  show wW P (bE.grp.add (bE.grp.ns m Q) Q)=vg.add (vg.ns m (wW P Q)) (wW P Q);rw[aSm P (DG h m) h,aKh P h m]
theorem aQc (P:C1) {Q:C2} (h:nI Q) (m n:Nat):wW (iL.grp.ns m P) (bE.grp.ns n Q)=vg.ns (n*m) (wW P Q):=by
 rw[aKi P (DG h n),aKh P h,vg.ns_mul]
structure Walks (f:aQ) (p:J2) (T:C2) (F:Vq):Prop where
 ne:f≠aF.zero
 val:lv f=F
 tells:fQ F2 eD p=T.1
 fin:T.1≠none
theorem Walks.z {f:aQ} {p:J2} {T:C2} {F:Vq} (w:Walks f p T F):p.2.2≠F2.zero:=fun e=>w.fin (by rw[←w.tells]; exact dB e)
theorem Walks.on {f:aQ} {p:J2} {T:C2} {F:Vq} (w:Walks f p T F):On F2 dO (fQ F2 eD p):=by rw[w.tells]; exact T.2
theorem VA {a b:aQ} (ha:a≠aF.zero) (hb:b≠aF.zero):lv (aF.mul a b)=vg.add (lv a) (lv b):=Subtype.ext (by
 rw[mY,dK ha,dK hb,dK (pF ha hb),dZ ha hb])
theorem Walks.sq {f:aQ} {p:J2} {T:C2} {F:Vq} (w:Walks f p T F):Walks (aF.mul f f) p T (vg.add F F):=⟨pF w.ne w.ne,by rw[VA w.ne w.ne,w.val],w.tells,w.fin⟩
def zG (p:J2) (a:Fq×Fq):aQ:=lnJ (tF p.1 p.2.1 p.2.2) (tS p.1 p.2.1 p.2.2) (tH p.1 p.2.1 p.2.2) a
def vK (p:J2) (q:Q2×Q2) (a:Fq×Fq):aQ:=lnJ (chN p.1 p.2.2 q.1) (vL p.2.1 p.2.2 q.2) (F2.sub (F2.mul (vL p.2.1 p.2.2 q.2) q.1) (F2.mul (chN p.1 p.2.2 q.1) q.2)) a
def iZ (p:J2) (q:Q2×Q2):J2:=(sX F2 p.1 (tT p.1 p.2.2 q.1) (vL p.2.1 p.2.2 q.2),sY F2 p.1 p.2.1 (tT p.1 p.2.2 q.1) (vL p.2.1 p.2.2 q.2),F2.mul p.2.2 (tT p.1 p.2.2 q.1))
theorem aHY (p:J2) (q:Q2×Q2):DE F2 p (q.1,q.2,F2.one)=iZ p q:=by
 unfold DE iZ tR LQ GW EU tT vL;simp only[F2.mul_one]
theorem bEp {P:C1} {a:Fq×Fq} (h:P.1=some a) (T T':C2):CV P T T'=cv a T.1 T'.1:=by
 unfold CV;rw[h,jY]
theorem Walks.tan {P:C1} {a:Fq×Fq} (h:P.1=some a) {f:aQ} {p:J2} {T:C2} {F:Vq} (w:Walks f p T F) (h2:(bE.grp.add T T).1≠none):Walks (aF.mul f (zG p a)) (bX F2 p) (bE.grp.add T T) (vg.add F (CV P T T)):=by
 have ha:On F1 (fm 3) (some a):=by rw[←h]; exact P.2
 have t:zG p a≠aF.zero∧lv (zG p a)=cv a (fQ F2 eD p) (fQ F2 eD p):=aTY ha (x:=p.1) (y:=p.2.1) (z:=p.2.2) w.z w.on;refine⟨pF w.ne t.1,?_,?_,h2⟩
 ·rw[bEp h,←w.tells];rw[VA w.ne t.1,w.val,t.2]
 ·rw[VJ bE w.on,w.tells,oQ]
theorem aUy {x y x' y':Q2} (h:On F2 dO (some (x,y))) (h':On F2 dO (some (x',y'))) (e:x=x'):(x',y')=(x,y)∨(x',y')=(x,F2.neg y):=by
 subst e
 by_cases hy:y=y'
 ·exact Or.inl (by rw[hy])
 ·refine Or.inr (Prod.ext rfl ?_);have h1:F2.mul y y=F2.add (F2.mul x (F2.mul x x)) dO:=h;have h2:F2.mul y' y'=F2.add (F2.mul x (F2.mul x x)) dO:=h';have s:=JI bE (h1.trans h2.symm) hy;apply F2.add_cancel (a:=y);show F2.add y y'=F2.add y (F2.neg y);rw[s,F2.add_neg]
theorem Walks.cho {P:C1} {a:Fq×Fq} (h:P.1=some a) {f:aQ} {p:J2} {T Q:C2} {q:Q2×Q2} (hq:Q.1=some q) {F:Vq} (w:Walks f p T F) (h1:T≠Q) (h2:(bE.grp.add T Q).1≠none) :
  Walks (aF.mul f (vK p q a)) (iZ p q) (bE.grp.add T Q) (vg.add F (CV P T Q)):=by
 have ha:On F1 (fm 3) (some a):=by rw[←h]; exact P.2
 have hqo:On F2 dO (some (q.1,q.2)):=by have:=Q.2; rw[hq]at this; exact this
 have hA:tT p.1 p.2.2 q.1≠F2.zero:=fun e=>by
  have ej:=dR (K:=F2) (inv:=eD) (p:=p) w.z;have hi:F2.mul p.2.2 (eD p.2.2)=F2.one:=bE.F.inv p.2.2 w.z;rw[w.tells]at ej;have ho:=T.2;rw[ej]at ho;have ex:q.1=F2.mul p.1 (F2.mul (eD p.2.2) (eD p.2.2)):=by
   have e1:F2.mul q.1 (F2.mul p.2.2 p.2.2)=p.1:=jV e;rw[←e1];have e2:=aSf (x:=q.1) (z:=eD p.2.2) (i:=p.2.2) (by rw[F2.mul_comm]; exact hi);exact e2.symm
  rcases aUy ho hqo ex.symm with s|s
  ·exact h1 (Subtype.ext (by rw[ej,hq]; exact congrArg some s.symm))
  ·refine h2 ?_;rw[oQ,ej,hq];refine mD ⟨?_,?_⟩
   ·exact (congrArg Prod.fst s).symm
   ·show F2.add _ q.2=F2.zero;rw[show q.2=_ from congrArg Prod.snd s];exact F2.add_neg _
 have t:vK p q a≠aF.zero∧lv (vK p q a)=cv a (fQ F2 eD p) (some q):=aYV ha (x:=p.1) (y:=p.2.1) (z:=p.2.2) (u:=q.1) (v:=q.2) w.z w.on hqo hA;refine⟨pF w.ne t.1,?_,?_,h2⟩
 ·rw[bEp h,←w.tells,hq];rw[VA w.ne t.1,w.val,t.2]
 ·have o:=bE.jto_one q.1 q.2;have j:=Vx bE (p:=p) (q:=(q.1,q.2,F2.one)) w.on (by rw[o]; exact hqo) w.z bE.F.ne (fun k=>hA (by
   have k1:=k.1;unfold tR GW at k1;simp only[F2.mul_one]at k1;exact k1))
  rw[aHY,o,w.tells]at j;rw[oQ,hq];exact j
theorem aNl:∀q,q∈[qS]→fH q:=fun q hq=>by
 have e:q=qS:=by simpa using hq
 rw[e];exact aQN
theorem Tn:0<qS:=of_decide_eq_true (by kernel_rfl)
theorem aWx {Q:C2} (h:nI Q) (m:Nat):bE.grp.ns m Q=bE.grp.ns (m%qS) Q:=by
 conv=>lhs; rw[←Nat.mod_add_div m qS]
 rw[bE.grp.ns_add,bE.grp.ns_mul,show bE.grp.ns qS Q=bE.grp.zero from h,bE.grp.ns_zero,bE.grp.addz]
theorem Nw (Q:C2):bE.grp.ns 1 Q=Q:=bE.grp.zadd Q
theorem aGq:qS/qS=1:=Nat.div_self Tn
theorem aHp {Q:C2} (h:nI Q) (h0:Q≠bE.grp.zero) {m:Nat} (hm:m%qS≠0):bE.grp.ns m Q≠bE.grp.zero:=by
 rw[aWx h];refine bE.grp.exact (N:=qS) (l:=[qS]) (Nat.mul_one qS) aNl h (fun q hq => ?_) _ (Nat.pos_of_ne_zero hm) (Nat.mod_lt _ Tn);have e:q=qS:=by simpa using hq
 rw[e,aGq,Nw];exact h0
def okc (m k:Nat):Bool:=decide ((m+k)%qS≠0)&&decide ((m+k*(qS-1))%qS≠0)
theorem TY {T:C2} (h:T≠bE.grp.zero):T.1≠none:=fun e=>h (Subtype.ext e)
theorem aOc {Q:C2} (h:nI Q) (h0:Q≠bE.grp.zero) {m k:Nat} (o:okc m k=true):(bE.grp.add (bE.grp.ns m Q) (bE.grp.ns k Q)).1≠none:=by
 rw[←bE.grp.ns_add];unfold okc at o;rw[Bool.and_eq_true]at o;exact TY (aHp h h0 (of_decide_eq_true o.1))
theorem aVu:1+(qS-1)=qS:=by kernel_rfl
theorem Vd {Q:C2} (h:nI Q):bE.grp.ns (qS-1) Q=bE.grp.neg Q:=by
 apply bE.grp.cancel (a:=Q);rw[bE.grp.addn]
 conv=>lhs; rw[←Nw Q]
 rw[Nw Q];have e:=bE.grp.ns_add 1 Q (qS-1);rw[aVu,Nw,show bE.grp.ns qS Q=bE.grp.zero from h]at e;exact e.symm
theorem aWc {Q:C2} (h:nI Q) (h0:Q≠bE.grp.zero) {m k:Nat} (o:okc m k=true):bE.grp.ns m Q≠bE.grp.ns k Q:=fun e=>by
 unfold okc at o;rw[Bool.and_eq_true]at o;refine aHp h h0 (of_decide_eq_true o.2) ?_;rw[bE.grp.ns_add,e,bE.grp.ns_mul,Vd (DG h k),bE.grp.addn]
theorem Walks.cho_n {P:C1} {a:Fq×Fq} (h:P.1=some a) {f:aQ} {p:J2} {Q R:C2} {q:Q2×Q2} {F:Vq} (hG:nI Q) (h0:Q≠bE.grp.zero) {m k:Nat} (hk:bE.grp.ns k Q=R) (hq:R.1=some q)
  (w:Walks f p (bE.grp.ns m Q) F) (o:okc m k=true):Walks (aF.mul f (vK p q a)) (iZ p q) (bE.grp.add (bE.grp.ns m Q) R) (vg.add F (CV P (bE.grp.ns m Q) R)):=by
 subst hk;exact w.cho h hq (aWc hG h0 o) (aOc hG h0 o)
def mst (a:Fq×Fq) (q:Q2×Q2) (d:Int) (s:aQ×J2):aQ×J2 :=
 if d=1 then (aF.mul (aF.mul (aF.mul s.1 s.1) (zG s.2 a)) (vK (bX F2 s.2) q a),iZ (bX F2 s.2) q)
 else if d = -1 then (aF.mul (aF.mul (aF.mul s.1 s.1) (zG s.2 a)) (vK (bX F2 s.2) (q.1,F2.neg q.2) a),iZ (bX F2 s.2) (q.1,F2.neg q.2))
 else (aF.mul (aF.mul s.1 s.1) (zG s.2 a),bX F2 s.2)
def CX (a:Fq×Fq) (q:Q2×Q2):List Int→aQ×J2→aQ×J2
 | [],s=>s
 | d::ds,s=>CX a q ds (mst a q d s)
def nxt (d:Int) (m:Nat):Nat:=if d=1 then m+m+1 else if d = -1 then m+m+(qS-1)else m+m
def Rx (d:Int) (m:Nat):Bool:=decide ((m+m)%qS≠0)&&(if d=1 then okc (m+m) 1 else if d = -1 then okc (m+m) (qS-1)else true)
def aLh:List Int→Nat→Bool
 | [],_=>true
 | d::ds,m=>Rx d m&&aLh ds (nxt d m)
def aHq:List Int→Nat→Nat
 | [],m=>m
 | d::ds,m=>aHq ds (nxt d m)
theorem aWC {P:C1} {a:Fq×Fq} (h:P.1=some a) {Q:C2} {q:Q2×Q2} (hq:Q.1=some q) (hG:nI Q) (h0:Q≠bE.grp.zero) {d:Int} {m:Nat} {s:aQ×J2} {F:Vq} (w:Walks s.1 s.2 (bE.grp.ns m Q) F) (o:Rx d m=true) :
  Walks (mst a q d s).1 (mst a q d s).2 (bE.grp.ns (nxt d m) Q) (stF bE.grp vg (CV P) Q d F (bE.grp.ns m Q))∧stp bE.grp Q d (bE.grp.ns m Q)=bE.grp.ns (nxt d m) Q:=by
 unfold Rx at o;rw[Bool.and_eq_true]at o;have hd:bE.grp.add (bE.grp.ns m Q) (bE.grp.ns m Q)=bE.grp.ns (m+m) Q:=(bE.grp.ns_add m Q m).symm;have w2:=w.sq.tan h (by rw[hd]; exact TY (aHp hG h0 (of_decide_eq_true o.1)));rw[hd]at w2;unfold mst nxt stF stp
 by_cases h1:d=1
 ·simp only[if_pos h1]at o ⊢;have w3:=w2.cho_n h hG h0 (Nw Q) hq o.2;rw[hd];have e:bE.grp.ns (m+m+1) Q=bE.grp.add (bE.grp.ns (m+m) Q) Q:=rfl;rw[e];exact⟨w3,rfl⟩
 ·simp only[if_neg h1]at o ⊢
  by_cases h2:d = -1
  ·simp only[if_pos h2]at o ⊢;have hq':(bE.grp.neg Q).1=some (q.1,F2.neg q.2):=by
    show PI F2 Q.1=_;rw[hq];rfl
   have w3:=w2.cho_n h hG h0 (Vd hG) hq' o.2;rw[hd];have e:bE.grp.ns (m+m+(qS-1)) Q=bE.grp.add (bE.grp.ns (m+m) Q) (bE.grp.neg Q):=by rw[bE.grp.ns_add,Vd hG]
   rw[e];exact⟨w3,rfl⟩
  ·simp only[if_neg h2]at o ⊢;exact⟨w2,hd⟩
theorem Vi {P:C1} {a:Fq×Fq} (h:P.1=some a) {Q:C2} {q:Q2×Q2} (hq:Q.1=some q) (hG:nI Q) (h0:Q≠bE.grp.zero):∀(ds:List Int) (m:Nat) (s:aQ×J2) (F:Vq),Walks s.1 s.2 (bE.grp.ns m Q) F→aLh ds m=true →
  Walks (CX a q ds s).1 (CX a q ds s).2 (bE.grp.ns (aHq ds m) Q) (aFj bE.grp vg (CV P) Q ds F (bE.grp.ns m Q))∧CD bE.grp Q ds (bE.grp.ns m Q)=bE.grp.ns (aHq ds m) Q
 | [],m,s,F,w,_=>⟨w,rfl⟩
 | d::ds,m,s,F,w,o=>by
  have o:(Rx d m&&aLh ds (nxt d m))=true:=o;rw[Bool.and_eq_true]at o;have r:=aWC h hq hG h0 w o.1;have r2:=Vi h hq hG h0 ds (nxt d m) (mst a q d s) _ r.1 o.2;show Walks (CX a q ds (mst a q d s)).1 (CX a q ds (mst a q d s)).2 (bE.grp.ns (aHq ds (nxt d m)) Q) (aFj bE.grp vg (CV P) Q ds (stF bE.grp vg (CV P) Q d F (bE.grp.ns m Q)) (stp bE.grp Q d (bE.grp.ns m Q)))∧CD bE.grp Q ds (stp bE.grp Q d (bE.grp.ns m Q))=_;rw[r.2];exact r2
def wR:List Int:=[0,-1,0,1,0,0,0,-1,0,-1,0,0,0,-1,0,1,0,-1,0,0,-1,0,0,0,0,0,1,0,0,-1,0,1,0,0,-1,0,0,0,0,-1,0,1,0,0,0,-1,0,-1,0,0,1,0,0,0,-1,0,0,-1,0,1,0,1,0,0,0]
theorem bGT:hdg wR 1=(sN:Int):=by kernel_rfl
theorem aYq:aLh wR 1=true:=by kernel_rfl
def aJi:Nat:=aHq wR 1
theorem bDB:okc aJi cU=true:=by kernel_rfl
theorem bDA:okc (aJi+cU) (cU*cU*(qS-1))=true:=by kernel_rfl
def iU (q:Q2×Q2):Q2×Q2:=(F2.mul (aL q.1) kL,F2.mul (aL q.2) oP)
def QK (q:Q2×Q2):Q2×Q2:=(q.1,F2.neg q.2)
def mil (a:Fq×Fq) (q:Q2×Q2):aQ :=
 aF.mul (aF.mul (CX a q wR (aF.one,(q.1,q.2,F2.one))).1 (vK (CX a q wR (aF.one,(q.1,q.2,F2.one))).2 (iU q) a)) (vK (iZ (CX a q wR (aF.one,(q.1,q.2,F2.one))).2 (iU q)) (QK (iU (iU q))) a)
theorem Vn {P:C1} {a:Fq×Fq} (h:P.1=some a) {Q:C2} {q:Q2×Q2} (hq:Q.1=some q) (hG:nI Q):mil a q≠aF.zero∧lv (mil a q)=wW P Q:=by
 have h0:Q≠bE.grp.zero:=fun e=>by rw[e]at hq; exact absurd (show (none:Pt Q2)=some q from hq) (by intro z; cases z)
 have w0:Walks aF.one (q.1,q.2,F2.one) (bE.grp.ns 1 Q) vg.zero:=by
  rw[Nw];exact⟨lK.1,CZ ⟨lK.1,GT⟩,by rw[hq]; exact bE.jto_one q.1 q.2,TY h0⟩
 have r:=Vi h hq hG h0 wR 1 (aF.one,(q.1,q.2,F2.one)) vg.zero w0 aYq;rw[Nw]at r;unfold mil;generalize CX a q wR (aF.one,(q.1,q.2,F2.one))=s at r ⊢;obtain⟨w,rT⟩:=r;have e1:(sF Q).1=some (iU q):=by
  show ON Q.1=_;rw[hq];rfl
 have e2:(bE.grp.neg (sF (sF Q))).1=some (QK (iU (iU q))):=by
  show PI F2 (ON (sF Q).1)=_;rw[e1];rfl
 have k1:bE.grp.ns cU Q=sF Q:=(Oq Q).2 hG;have k2:bE.grp.ns (cU*cU*(qS-1)) Q=bE.grp.neg (sF (sF Q)):=by
  rw[bE.grp.ns_mul,Vd (DG hG _),bE.grp.ns_mul,k1,←JZ,k1]
 have w1:=w.cho_n h hG h0 k1 e1 bDB;have e3:bE.grp.add (bE.grp.ns aJi Q) (sF Q)=bE.grp.ns (aJi+cU) Q:=by rw[bE.grp.ns_add,k1]
 have w1':Walks _ _ (bE.grp.add (bE.grp.ns aJi Q) (sF Q)) _:=w1;rw[e3]at w1';have w2:=w1'.cho_n h hG h0 k2 e2 bDA;refine⟨w2.ne,?_⟩;rw[w2.val];have f:=congrArg Prod.snd (aMu (aCG P) Q bGT sF);unfold wW;rw[f,rT,←e3];rfl
open Go.RowKit
theorem At.pos (a:At):0<a.sz:=by cases a<;>simp[At.sz]
theorem Xg (l:List At):dp l 0=some l:=by cases l<;>rfl
theorem aLH (l:List At):tk l 0=some []:=by cases l<;>rfl
theorem GZ:∀(x y:List At) (m:Nat),dp (x++y) (dF x+m)=dp y m
 | [],y,m=>by show dp y (0+m)=_; rw[Nat.zero_add]
 | a::x,y,m=>by
  have h:=a.pos;have e:∀n,dp (a::(x++y)) n=(bif Nat.beq n 0 then some (a::(x++y))else bif Nat.ble a.sz n then dp (x++y) (n-a.sz)else none):=fun _=>rfl
  show dp (a::(x++y)) (a.sz+dF x+m)=_;rw[e];have e1:Nat.beq (a.sz+dF x+m) 0=false:=by cases hb:Nat.beq (a.sz+dF x+m) 0; rfl; have:=Nat.eq_of_beq_eq_true hb; omega
  have e2:Nat.ble a.sz (a.sz+dF x+m)=true:=Nat.ble_eq_true_of_le (by omega);rw[e1,e2,show a.sz+dF x+m-a.sz=dF x+m by omega];exact GZ x y m
theorem Sd:∀(x y:List At) (m:Nat) (t:List At),tk y m=some t→tk (x++y) (dF x+m)=some (x++t)
 | [],y,m,t,h=>by show tk y (0+m)=_; rw[Nat.zero_add]; exact h
 | a::x,y,m,t,h=>by
  have hp:=a.pos;show tk (a::(x++y)) (a.sz+dF x+m)=_;unfold tk;have e1:Nat.beq (a.sz+dF x+m) 0=false:=by cases hb:Nat.beq (a.sz+dF x+m) 0; rfl; have:=Nat.eq_of_beq_eq_true hb; omega
  have e2:Nat.ble a.sz (a.sz+dF x+m)=true:=Nat.ble_eq_true_of_le (by omega);rw[e1,e2,show a.sz+dF x+m-a.sz=dF x+m by omega];show (tk (x++y) (dF x+m)).map (a :: ·)=_;rw[Sd x y m t h];rfl
theorem IC:∀(x y:List At) (n:Nat) (r:List At),dp x n=some r→dp (x++y) n=some (r++y)
 | [],y,n,r,h=>by
  unfold dp at h;cases hb:Nat.beq n 0<;>rw[hb]at h
  ·cases h
  ·cases h;rw[Nat.eq_of_beq_eq_true hb];exact Xg y
 | a::x,y,n,r,h=>by
  unfold dp at h;show dp (a::(x++y)) n=_;unfold dp;cases hb:Nat.beq n 0<;>rw[hb]at h
  ·cases hs:Nat.ble a.sz n<;>rw[hs]at h
   ·cases h
   ·exact IC x y _ r h
  ·cases h; rfl
theorem SQ:∀(x y:List At) (n:Nat) (t:List At),tk x n=some t→tk (x++y) n=some t
 | [],y,n,t,h=>by
  unfold tk at h;cases hb:Nat.beq n 0<;>rw[hb]at h
  ·cases h
  ·cases h;rw[Nat.eq_of_beq_eq_true hb];exact aLH y
 | a::x,y,n,t,h=>by
  unfold tk at h;show tk (a::(x++y)) n=_;unfold tk;cases hb:Nat.beq n 0<;>rw[hb]at h
  ·cases hs:Nat.ble a.sz n<;>rw[hs]at h
   ·cases h
   ·have h:(tk x (n-a.sz)).map (a :: ·)=some t:=h;cases hr:tk x (n-a.sz)with
    | none=>rw[hr]at h; cases h
    | some t' =>
     rw[hr]at h;show (tk (x++y) (n-a.sz)).map (a :: ·)=_;rw[SQ x y _ _ hr];exact h
  ·cases h; rfl
abbrev Wk:=(Fq×Fq)×(Q2×Q2)×J2
def wA (W:Wk):List At:=[.f W.1.1,.f W.1.2,.c (.bool false),.f W.2.1.1.1,.f W.2.1.1.2,.f W.2.1.2.1,.f W.2.1.2.2,.c (.bool false),.f W.2.2.1.1,.f W.2.2.1.2,.f W.2.2.2.1.1,.f W.2.2.2.1.2,.f W.2.2.2.2.1,.f W.2.2.2.2.2]
def rows:List Wk→List At
 | []=>[]
 | W::r=>wA W++rows r
theorem zR:∀(a b:List Wk),rows (a++b)=rows a++rows b
 | [],b=>rfl
 | W::a,b=>by show wA W++rows (a++b)=(wA W++rows a)++rows b; rw[zR a b,List.append_assoc]
theorem TL:∀Ws:List Wk,dF (rows Ws)=50*Ws.length
 | []=>rfl
 | W::r=>by
  show dF (wA W++rows r)=_;rw[yN,TL r,List.length_cons];show 50+_=_;omega
theorem Sp {Ws:List Wk} {j:Nat} {W:Wk} (h:Ws[j]?=some W):∃a b,Ws=a++W::b∧a.length=j:=by
 obtain⟨hlt,he⟩:=List.getElem?_eq_some_iff.1 h;exact⟨Ws.take j,Ws.drop (j+1),by rw[←he,List.getElem_cons_drop hlt,List.take_append_drop],by rw[List.length_take]; omega⟩
theorem gP {Ws:List Wk} {j o n:Nat} {W:Wk} {s:List At} (h:Ws[j]?=some W) (hs:gU (wA W) o n=some s):gU (rows Ws) (50*j+o) n=some s:=by
 obtain⟨a,b,rfl,rfl⟩:=Sp h;rw[zR,←TL];show gU (rows a++(wA W++rows b)) _ n=_;unfold gU at hs ⊢;rw[GZ];cases hd:dp (wA W) o with
 | none=>rw[hd]at hs; cases hs
 | some r =>
  rw[hd]at hs;rw[IC _ _ _ _ hd];exact SQ _ _ _ _ hs
theorem rI {Ws:List Wk} {j o:Nat} {W W':Wk} {v:List At} (h:Ws[j]?=some W) (hs:put (wA W) o v=some (wA W')):put (rows Ws) (50*j+o) v=some (rows (Ws.set j W')):=by
 obtain⟨a,b,rfl,rfl⟩:=Sp h;rw[zR,←TL];have e:(a++W::b).set a.length W'=a++W'::b:=by simp
 rw[e,zR];show put (rows a++(wA W++rows b)) _ v=some (rows a++(wA W'++rows b));unfold put at hs ⊢;cases ht:tk (wA W) o with
 | none=>rw[ht]at hs; cases hs
 | some t =>
  cases hd:dp (wA W) o with
  | none=>rw[ht,hd]at hs; cases hs
  | some r =>
   rw[ht,hd]at hs;simp only at hs;cases hr:dp r (dF v)with
   | none=>rw[hr]at hs; cases hs
   | some s =>
    rw[hr]at hs;rw[Sd _ _ _ _ (SQ _ (rows b) _ _ ht),GZ,IC _ (rows b) _ _ hd];simp only;rw[IC _ (rows b) _ _ hr];simp only[Option.some.injEq]at hs ⊢;rw[←hs];simp only[List.append_assoc]
section
variable {R A Q S:Type} (K:CR R) (lfG:A→Q→Int→S→R) (npG:Q→Int→S→S) (ewG:A→Q→S→R)
def kT (d:Int):R→List (A×Q×S)→R
 | f,[]=>f
 | f,W::r=>kT d (K.mul f (lfG W.1 W.2.1 d W.2.2)) r
def stG (d:Int) (W:A×Q×S):A×Q×S:=(W.1,W.2.1,npG W.2.1 d W.2.2)
def nO:List Int→R×List (A×Q×S)→R×List (A×Q×S)
 | [],s=>s
 | d::ds,s=>nO ds (kT K lfG d (K.mul s.1 s.1) s.2,s.2.map (stG npG d))
def nK:R→List (A×Q×S)→R
 | f,[]=>f
 | f,W::r=>nK (K.mul f (ewG W.1 W.2.1 W.2.2)) r
def fC:List R→R
 | []=>K.one
 | x::r=>K.mul x (fC r)
def aHv (a:A) (q:Q) (d:Int) (s:R×S):R×S:=(K.mul (K.mul s.1 s.1) (lfG a q d s.2),npG q d s.2)
def AP (a:A) (q:Q):List Int→R×S→R×S
 | [],s=>s
 | d::ds,s=>AP a q ds (aHv K lfG npG a q d s)
def wG (x:(A×Q)×(R×S)):A×Q×S:=(x.1.1,x.1.2,x.2.2)
def sxG (d:Int) (x:(A×Q)×(R×S)):(A×Q)×(R×S):=(x.1,aHv K lfG npG x.1.1 x.1.2 d x.2)
theorem QQ (d:Int):∀(l:List ((A×Q)×(R×S))) (f:R),kT K lfG d f (l.map wG)=K.mul f (fC K (l.map fun x=>lfG x.1.1 x.1.2 d x.2.2))
 | [],f=>(K.mul_one f).symm
 | x::r,f=>by
  show kT K lfG d (K.mul f (lfG x.1.1 x.1.2 d x.2.2)) (r.map wG)=K.mul f (K.mul (lfG x.1.1 x.1.2 d x.2.2) _);rw[QQ d r,K.mul_assoc]
theorem aMI (z y P L:R):K.mul (K.mul (K.mul z z) y) (K.mul (K.mul P P) L)=K.mul (K.mul (K.mul z P) (K.mul z P)) (K.mul y L) :=
 aG K (aV K [z,y,P,L]) (Z0*Z0*Z1*(Z2*Z2*Z3)) (Z0*Z2*(Z0*Z2)*(Z1*Z3)) (by kernel_rfl)
theorem aMJ (a b c d:R):K.mul (K.mul a c) (K.mul b d)=K.mul (K.mul a b) (K.mul c d) :=
 aG K (aV K [a,b,c,d]) (Z0*Z2*(Z1*Z3)) (Z0*Z1*(Z2*Z3)) (by kernel_rfl)
theorem KA (d:Int):∀l:List ((A×Q)×(R×S)),fC K ((l.map (sxG K lfG npG d)).map fun x=>x.2.1)=K.mul (K.mul (fC K (l.map fun x=>x.2.1)) (fC K (l.map fun x=>x.2.1))) (fC K (l.map fun x=>lfG x.1.1 x.1.2 d x.2.2))
 | []=>by show K.one=K.mul (K.mul K.one K.one) K.one; rw[K.mul_one,K.mul_one]
 | x::r=>by
  show K.mul (K.mul (K.mul x.2.1 x.2.1) (lfG x.1.1 x.1.2 d x.2.2)) (fC K ((r.map (sxG K lfG npG d)).map fun x=>x.2.1))=K.mul (K.mul (K.mul x.2.1 (fC K (r.map fun x=>x.2.1))) (K.mul x.2.1 (fC K (r.map fun x=>x.2.1)))) (K.mul (lfG x.1.1 x.1.2 d x.2.2) (fC K (r.map fun x=>lfG x.1.1 x.1.2 d x.2.2)));rw[KA d r];exact aMI K _ _ _ _
theorem So:∀(ds:List Int) (l:List ((A×Q)×(R×S))),nO K lfG npG ds (fC K (l.map fun x=>x.2.1),l.map wG)=(fC K (l.map fun x=>(AP K lfG npG x.1.1 x.1.2 ds x.2).1),l.map fun x=>(x.1.1,x.1.2,(AP K lfG npG x.1.1 x.1.2 ds x.2).2))
 | [],l=>rfl
 | d::ds,l=>by
  show nO K lfG npG ds (kT K lfG d (K.mul (fC K (l.map fun x=>x.2.1)) (fC K (l.map fun x=>x.2.1))) (l.map wG),(l.map wG).map (stG npG d))=_;have h:=So ds (l.map (sxG K lfG npG d));rw[KA]at h;rw[QQ];have e:(l.map wG).map (stG npG d)=(l.map (sxG K lfG npG d)).map wG:=by
   rw[List.map_map,List.map_map];rfl
  rw[e,h,List.map_map,List.map_map];rfl
theorem Gw:∀(l:List (A×Q×S)) (f:R),nK K ewG f l=K.mul f (fC K (l.map fun W=>ewG W.1 W.2.1 W.2.2))
 | [],f=>(K.mul_one f).symm
 | W::r,f=>by
  show nK K ewG (K.mul f (ewG W.1 W.2.1 W.2.2)) r=K.mul f (K.mul (ewG W.1 W.2.1 W.2.2) _);rw[Gw r,K.mul_assoc]
theorem PM {α:Type} (g h:α→R):∀l:List α,K.mul (fC K (l.map g)) (fC K (l.map h))=fC K (l.map fun x=>K.mul (g x) (h x))
 | []=>K.one_mul _
 | x::r=>by
  show K.mul (K.mul (g x) (fC K (r.map g))) (K.mul (h x) (fC K (r.map h)))=K.mul (K.mul (g x) (h x)) _;rw[←PM g h r];exact aMJ K _ _ _ _
theorem PK {α:Type} (g:α→R) (hg:∀x,g x=K.one):∀l:List α,fC K (l.map g)=K.one
 | []=>rfl
 | x::r=>by show K.mul (g x) (fC K (r.map g))=_; rw[hg,PK g hg r,K.one_mul]
theorem aHE (ds:List Int) (st:Q→S) (l:List (A×Q)):nK K ewG (nO K lfG npG ds (K.one,l.map fun x=>(x.1,x.2,st x.2))).1 (nO K lfG npG ds (K.one,l.map fun x=>(x.1,x.2,st x.2))).2 =
  fC K (l.map fun x=>K.mul (AP K lfG npG x.1 x.2 ds (K.one,st x.2)).1 (ewG x.1 x.2 (AP K lfG npG x.1 x.2 ds (K.one,st x.2)).2)):=by
 have h:=So K lfG npG ds (l.map fun x=>(x,(K.one,st x.2)));rw[List.map_map,PK K ((fun x:(A×Q)×(R×S)=>x.2.1) ∘ fun x=>(x,(K.one,st x.2))) (fun x=>rfl),List.map_map,List.map_map,List.map_map]at h;have e:l.map (wG ∘ fun x:A×Q=>(x,(K.one,st x.2)))=l.map fun x=>(x.1,x.2,st x.2):=rfl
 rw[e]at h;rw[h,Gw,List.map_map,PM];rfl
end
def lf (a:Fq×Fq) (q:Q2×Q2) (d:Int) (p:J2):aQ :=
 if d=1 then aF.mul (zG p a) (vK (bX F2 p) q a)else if d = -1 then aF.mul (zG p a) (vK (bX F2 p) (q.1,F2.neg q.2) a)else zG p a
def np (q:Q2×Q2) (d:Int) (p:J2):J2:=if d=1 then iZ (bX F2 p) q else if d = -1 then iZ (bX F2 p) (q.1,F2.neg q.2)else bX F2 p
def ew (a:Fq×Fq) (q:Q2×Q2) (p:J2):aQ:=aF.mul (vK p (iU q) a) (vK (iZ p (iU q)) (QK (iU (iU q))) a)
theorem aWD (a:Fq×Fq) (q:Q2×Q2) (d:Int) (s:aQ×J2):mst a q d s=aHv aF lf np a q d s:=by
 unfold mst aHv lf np
 by_cases h1:d=1
 ·simp only[if_pos h1,aF.mul_assoc]
 ·by_cases h2:d = -1
  ·simp only[if_neg h1,if_pos h2,aF.mul_assoc]
  ·simp only[if_neg h1,if_neg h2]
theorem aHw (a:Fq×Fq) (q:Q2×Q2):∀(ds:List Int) (s:aQ×J2),CX a q ds s=AP aF lf np a q ds s
 | [],s=>rfl
 | d::ds,s=>by
  show CX a q ds (mst a q d s)=AP aF lf np a q ds (aHv aF lf np a q d s);rw[aWD,aHw a q ds]
theorem bCy (a:Fq×Fq) (q:Q2×Q2):aF.mul (AP aF lf np a q wR (aF.one,(q.1,q.2,F2.one))).1 (ew a q (AP aF lf np a q wR (aF.one,(q.1,q.2,F2.one))).2)=mil a q:=by
 unfold mil;rw[←aHw];generalize CX a q wR (aF.one,(q.1,q.2,F2.one))=s;unfold ew;exact (aF.mul_assoc _ _ _).symm
def bW (x:(Fq×Fq)×(Q2×Q2)):Wk:=(x.1,x.2,(x.2.1,x.2.2,F2.one))
def AR (l:List ((Fq×Fq)×(Q2×Q2))):aQ:=nK aF ew (nO aF lf np wR (aF.one,l.map bW)).1 (nO aF lf np wR (aF.one,l.map bW)).2
theorem Fx (l:List ((Fq×Fq)×(Q2×Q2))):AR l=fC aF (l.map fun x=>mil x.1 x.2):=by
 refine (aHE aF lf np ew wR (fun q=>(q.1,q.2,F2.one)) l).trans (congrArg (fC aF) (List.map_congr_left fun x _ => ?_));exact bCy x.1 x.2
def gFN:kC
 | [.v (.im (.int .i64 (.ofNat 1))),.v (.fl [a])]=>match vp a with
  | some (p,x)=>some (p,.many [.fl (e1 (F1.neg x)),.im (.int .i64 0)])
  | none=>none
 | _=>none
theorem aXJ:∀cs pre r,gFN cs=some (pre,r)→bC pre→∀(args:List Value) (w:World),bZ w cs args→Good prog 23 r args w:=by
 intro cs pre r hg hp args w ha;unfold gFN at hg;split at hg
 ·rename_i a;split at hg
  ·rename_i p x hx;cases hg;obtain⟨n,e1,rfl,hn⟩:=YU hx hp
   match args,ha with
   | [t,v],ha =>
    have h0:t=.int .i64 1:=ha.1;have h1:v=.agg (aA [a]).toArray:=ha.2.1;rw[e1]at h1;subst h0; subst h1;have e:(0+FP.M-wv n)%FP.M=(F1.neg (m1 n)).1:=by
     show _=(0+FP.M-wv n%FP.M)%FP.M;rw[Nat.mod_eq_of_lt hn]
    refine (Wm 1 FP oT _ _ _ _ (cM n) hn w).mono ?_
    rintro e' w' ⟨s0,s1,s2,s3,rfl,hs,hv,hb⟩
    have hv:aC s0 s1 s2 s3=(F1.neg (m1 n)).1:=hv.trans e;obtain⟨rfl,rfl,rfl,rfl⟩:=oR hs (xN (F1.neg (m1 n)).2) hv;exact⟨rfl,hb⟩
   | [],ha=>exact ha.elim
   | [_],ha=>exact ha.2.elim
   | _::_::_::_,ha=>exact ha.2.2.elim
  ·cases hg
 ·cases hg
def aXK:kC
 | [.v (.im (.int .i64 (.ofNat 1))),.s l n m,.s l' n' m']=>bif Nat.beq n n'&&Nat.ble n 6 then (match Ej n l,Ej n' l' with
  | some x,some y=>some ([],.many [.fl (e1 (tD x y)),.im (.int .i64 0)])
  | _,_=>none)else none
 | _=>none
theorem aPe:∀cs pre r,aXK cs=some (pre,r)→bC pre→∀(args:List Value) (w:World),bZ w cs args→Good prog 21 r args w:=by
 intro cs pre r hg hp args w ha;unfold aXK at hg;split at hg
 ·rename_i l n m l' n' m';cases hb:(Nat.beq n n'&&Nat.ble n 6)<;>rw[hb]at hg
  ·cases hg
  ·simp only[cond_true]at hg;split at hg
   ·rename_i x y hx hy;cases hg;rw[Bool.and_eq_true]at hb;cases Nat.eq_of_beq_eq_true hb.1;have h6:=Nat.le_of_ble_eq_true hb.2
    match args,ha with
    | [t,v,u],ha =>
     have h0:t=.int .i64 1:=ha.1;subst h0;obtain⟨_,⟨b,o,rfl,h1,h2⟩,⟨b',o',rfl,h3,h4⟩,_⟩:=ha;have l1:=(wC hx).1;have l2:=(wC hy).1;refine (Wu 1 FP oT _ _ n m n m' (lw x) (lw y) rfl (by omega) (fun k hk=>by rw[QM]; exact Fin.isLt _) (fun k hk=>by rw[QM]; exact Fin.isLt _) w (UZ hx h6 h1 h2) (UZ hy h6 h3 h4)).mono ?_
     rintro e' w' ⟨s0,s1,s2,s3,rfl,hs,hv,hb⟩
     have hv:aC s0 s1 s2 s3=(tD x y).1:=by rw[hv,Ha x y (by omega),l1]
     obtain⟨rfl,rfl,rfl,rfl⟩:=oR hs (xN (tD x y).2) hv;exact⟨rfl,hb⟩
    | [],ha=>exact ha.elim
    | [_],ha=>exact ha.2.elim
    | [_,_],ha=>exact ha.2.2.elim
    | _::_::_::_::_,ha=>exact ha.2.2.2.elim
   ·cases hg
 ·cases hg
theorem aSN (x:Q2):F2.sub F2.zero x=F2.neg x:=F2.zero_add _
theorem aDs (y:N2):zA 171 [.v (.fl (q2 y))]=some ([],.one (.fl (e2 (F2.sub F2.zero (m2 y))))):=by kernel_rfl
def Qe:Tab:=zA.add 171 (g1 zL fun y=>([],.one (.fl (e2 (F2.neg y)))))
theorem Tu:TabOk prog Qe:=wK.ad func171 (gZ (op:=fun y=>([],.one (.fl (e2 (F2.neg y))))) dU fun y hp args w ha=>by
 have h:=(wK _ _ _ _ (aDs y) trivial).2 args w ha;rw[aSN]at h;exact h)
theorem aEu (x:N2):bM prog Qe qN (fun _=>true) f208 40 [.v (.fl (q2 x))]=some ([],.one (.fl (e2 (F2.mul (m2 x) dJ)))):=by kernel_rfl
def aSB:Tab:=Qe.add 208 (g1 zL fun x=>([],.one (.fl (e2 (F2.mul x dJ)))))
theorem aWj:TabOk prog aSB:=Tu.ad func208 (gZ dU fun x hp args w ha=>aH aE Tu aM func208 (aEu x) hp ha)
theorem aAi (x:mX):bM prog (fJ true) qN (fun _=>true) f114 40 [.v (.fl (rH x))]=some ([],.one (.fl (aP (aF.mul (gB x) (gB x))))):=by kernel_rfl
def aSC:Tab:=aSB.add 114 (g1 FJ fun x=>([],.one (.fl (aP (aF.mul x x)))))
theorem aWk:TabOk prog aSC:=aWj.ad func114 (gZ mB fun x hp args w ha=>aH aE (eK true) aM func114 (aAi x) hp ha)
def aKC:Tab:=(aSC.add 23 gFN).add 21 aXK
theorem aGD:TabOk prog aKC:=(aWk.ad func23 aXJ).ad func21 aPe
def wq (T:Tab):Nat→Cfg:=fun _=>⟨fun _=>T,fun _=>true,fun _=>none⟩
theorem TD (x:Q2):aO prog (qG prog) (wq aKC) f211 40 [.v (.fl (e2 x))]=some ([],.one (.fl (e2 (F2.mul x x)))):=by kernel_rfl
def aZR:Tab:=aKC.add 211 (g1 OM fun x=>([],.one (.fl (e2 (F2.mul x x)))))
theorem aRo:TabOk prog aZR:=aGD.ad func211 (bP gM fun x hp args w ha=>aB aE (fun _ _=>aGD) (aJ _) func211 (TD x) trivial ha)
theorem TE (x:Q2):aO prog (qG prog) (wq aZR) f212 40 [.v (.fl (e2 x))]=some ([],.one (.fl (e2 (F2.add x x)))):=by kernel_rfl
def aZQ:Tab:=aZR.add 212 (g1 OM fun x=>([],.one (.fl (e2 (F2.add x x)))))
theorem aRn:TabOk prog aZQ:=aRo.ad func212 (bP gM fun x hp args w ha=>aB aE (fun _ _=>aRo) (aJ _) func212 (TE x) trivial ha)
theorem TC (x:Q2):aO prog (qG prog) (wq aZQ) f210 40 [.v (.fl (e2 x))]=some ([],.one (.fl (e2 (F2.add (F2.add x x) x)))):=by kernel_rfl
def aZP:Tab:=aZQ.add 210 (g1 OM fun x=>([],.one (.fl (e2 (F2.add (F2.add x x) x)))))
theorem aRm:TabOk prog aZP:=aRn.ad func210 (bP gM fun x hp args w ha=>aB aE (fun _ _=>aRn) (aJ _) func210 (TC x) trivial ha)
theorem ZV (x:Q2) (k:Fq):aO prog (qG prog) (wq aZP) f248 40 [.v (.fl (e2 x)),.v (.fl (e1 k))]=some ([],.one (.fl (e2 (qY x k)))):=by kernel_rfl
def aQp:Tab:=aZP.add 248 (g2 OM Sy fun x k=>([],.one (.fl (e2 (qY x k)))))
theorem aGC:TabOk prog aQp:=aRm.ad func248 (dS gM nB fun x k hp args w ha=>aB aE (fun _ _=>aRm) (aJ _) func248 (ZV x k) trivial ha)
def qO (x:aQ):List At:=[.f x.1.1.1,.f x.1.1.2,.f x.2.1.1,.f x.2.1.2,.f x.1.2.1.1,.f x.1.2.1.2,.f x.2.2.1.1,.f x.2.2.1.2,.f x.1.2.2.1,.f x.1.2.2.2,.f x.2.2.2.1,.f x.2.2.2.2]
def aMP:List At→Option aQ|[.f a,.f b,.f c,.f d,.f e,.f f,.f g,.f h,.f i,.f j,.f k,.f l]=>some (((a,b),(e,f),(i,j)),((c,d),(g,h),(k,l)))|_=>none
theorem Sv:Rd aMP qO:=fun l x h=>by unfold aMP at h; split at h<;>cases h; rfl
theorem aMe (x:aQ):aO prog (qG prog) (wq aQp) f116 60 [.v (.fl (aP x))]=some ([],.one (.fl (qO x))):=by kernel_rfl
theorem aEv (x:aQ):aO prog (qG prog) (wq aQp) f117 60 [.v (.fl (qO x))]=some ([],.one (.fl (aP x))):=by kernel_rfl
def aSA:Tab:=aQp.add 116 (g1 sO fun x=>([],.one (.fl (qO x))))
theorem aWi:TabOk prog aSA:=aGC.ad func116 (bP fK fun x hp args w ha=>aB aE (fun _ _=>aGC) (aJ _) func116 (aMe x) trivial ha)
def aQo:Tab:=aSA.add 117 (g1 aMP fun x=>([],.one (.fl (aP x))))
theorem aGB:TabOk prog aQo:=aWi.ad func117 (bP Sv fun x hp args w ha=>aB aE (fun _ _=>aGC) (aJ _) func117 (aEv x) trivial ha)
def GU (l:Q6):aQ:=((l.1,F2.zero,F2.zero),(l.2.1,l.2.2,F2.zero))
def lnR (F S H:Q2) (a:Fq×Fq):Q6:=(qY F a.2,qY S (F1.neg a.1),H)
theorem aEo (x:Q2) (k:Fq):qY x k=F2.mul x (i2 k):=by
 show (F1.mul x.1 k,F1.mul x.2 k)=(F1.add (F1.mul x.1 k) (F1.mul (F1.neg F1.one) (F1.mul x.2 F1.zero)),F1.add (F1.mul x.1 F1.zero) (F1.mul x.2 k));rw[F1.mul_zero,F1.mul_zero,F1.mul_zero,F1.add_zero,F1.zero_add]
theorem aRJ (F S H:Q2) (a:Fq×Fq):GU (lnR F S H a)=lnJ F S H a:=by
 unfold GU lnR lnJ;rw[aEo,aEo]
def gTh:kC
 | [.v (.fl [.f a,.f b,.c _]),.v (.fl l1),.v (.fl l2),.v (.fl l3)]=>match OM l1,OM l2,OM l3 with
  | some F,some S,some H=>some ([],.one (.fl (e6 (lnR F S H (a,b)))))
  | _,_,_=>none
 | _=>none
theorem Ac (a b:Fq) (v:Value) (F S H:Q2):aO prog (qG prog) (wq aQo) f214 60 [.v (.fl [.f a,.f b,.c v]),.v (.fl (e2 F)),.v (.fl (e2 S)),.v (.fl (e2 H))]=some ([],.one (.fl (e6 (lnR F S H (a,b))))):=by kernel_rfl
theorem aXp:∀cs pre r,gTh cs=some (pre,r)→bC pre→∀(args:List Value) (w:World),bZ w cs args→Good prog 214 r args w:=by
 intro cs pre r hg hp args w ha;unfold gTh at hg;split at hg
 ·rename_i a b v l1 l2 l3;split at hg
  ·rename_i F S H h1 h2 h3;cases hg;refine aB aE (fun _ _=>aGB) (aJ _) func214 (Ac a b v F S H) trivial ?_
   match args,ha with
   | [w1,w2,w3,w4],ha =>
    refine⟨ha.1,?_,?_,?_,trivial⟩
    ·show w2=.agg (aA (e2 F)).toArray;rw[←gM _ _ h1]; exact ha.2.1
    ·show w3=.agg (aA (e2 S)).toArray;rw[←gM _ _ h2]; exact ha.2.2.1
    ·show w4=.agg (aA (e2 H)).toArray;rw[←gM _ _ h3]; exact ha.2.2.2.1
   | [],ha=>exact ha.elim
   | [_],ha=>exact ha.2.elim
   | [_,_],ha=>exact ha.2.2.elim
   | [_,_,_],ha=>exact ha.2.2.2.elim
   | _::_::_::_::_::_,ha=>exact ha.2.2.2.2.elim
  ·cases hg
 ·cases hg
def rwS (l:Q6):List Fq:=[l.1.1,F1.neg l.1.2,l.2.1.1,F1.neg l.2.1.2,l.2.2.1,F1.neg l.2.2.2]
def rwC (l:Q6):List Fq:=[l.1.2,l.1.1,l.2.1.2,l.2.1.1,l.2.2.2,l.2.2.1]
theorem aAj (l:Q6):aO prog (qG prog) (wq aQo) f209 80 [.v (.fl (e6 l))]=some ([],.many [.fl ((rwS l).map .f),.fl ((rwC l).map .f)]):=by kernel_rfl
def aSz:Tab:=aQo.add 214 gTh
theorem aWh:TabOk prog aSz:=aGB.ad func214 aXp
def aZO:Tab:=aSz.add 209 (g1 rd6 fun l=>([],.many [.fl ((rwS l).map .f),.fl ((rwC l).map .f)]))
theorem aRl:TabOk prog aZO:=aWh.ad func209 (bP oH fun l hp args w ha=>aB aE (fun _ _=>aGB) (aJ _) func209 (aAj l) trivial ha)
def rD (l:Q6) (c0 c1 c2:Q2):Q2:=(tD (rwS l) [c0.1,c0.2,c1.1,c1.2,c2.1,c2.2],tD (rwC l) [c0.1,c0.2,c1.1,c1.2,c2.1,c2.2])
def Iw (x:aQ) (l:Q6):aQ:=((rD l x.1.1 (F2.mul x.2.2.2 dJ) (F2.mul x.2.2.1 dJ),rD l x.1.2.1 x.2.1 (F2.mul x.2.2.2 dJ),rD l x.1.2.2 x.2.2.1 x.2.1),(rD l x.2.1 x.1.1 (F2.mul x.1.2.2 dJ),rD l x.2.2.1 x.1.2.1 x.1.1,rD l x.2.2.2 x.1.2.2 x.1.2.1))
theorem bBK (l:Q6) (c0 c1 c2:Q2):rD l c0 c1 c2=F2.add (F2.add (F2.mul l.1 c0) (F2.mul l.2.1 c1)) (F2.mul l.2.2 c2):=by
 refine Prod.ext ?_ ?_
 ·show F1.add (F1.add (F1.add (F1.add (F1.add (F1.mul l.1.1 c0.1) (F1.mul (F1.neg l.1.2) c0.2)) (F1.mul l.2.1.1 c1.1)) (F1.mul (F1.neg l.2.1.2) c1.2)) (F1.mul l.2.2.1 c2.1)) (F1.mul (F1.neg l.2.2.2) c2.2)=F1.add (F1.add (F1.add (F1.mul l.1.1 c0.1) (F1.mul (F1.neg F1.one) (F1.mul l.1.2 c0.2))) (F1.add (F1.mul l.2.1.1 c1.1) (F1.mul (F1.neg F1.one) (F1.mul l.2.1.2 c1.2)))) (F1.add (F1.mul l.2.2.1 c2.1) (F1.mul (F1.neg F1.one) (F1.mul l.2.2.2 c2.2)));exact aG F1 (aV F1 [l.1.1,l.1.2,l.2.1.1,l.2.1.2,l.2.2.1,l.2.2.2,c0.1,c0.2,c1.1,c1.2,c2.1,c2.2]) (Z0*Z6+(-Z1)*Z7+Z2*Z8+(-Z3)*Z9+Z4*Z10+(-Z5)*Z11) (Z0*Z6+(-RE.one)*(Z1*Z7)+(Z2*Z8+(-RE.one)*(Z3*Z9))+(Z4*Z10+(-RE.one)*(Z5*Z11))) (by kernel_rfl)
 ·show F1.add (F1.add (F1.add (F1.add (F1.add (F1.mul l.1.2 c0.1) (F1.mul l.1.1 c0.2)) (F1.mul l.2.1.2 c1.1)) (F1.mul l.2.1.1 c1.2)) (F1.mul l.2.2.2 c2.1)) (F1.mul l.2.2.1 c2.2)=F1.add (F1.add (F1.add (F1.mul l.1.1 c0.2) (F1.mul l.1.2 c0.1)) (F1.add (F1.mul l.2.1.1 c1.2) (F1.mul l.2.1.2 c1.1))) (F1.add (F1.mul l.2.2.1 c2.2) (F1.mul l.2.2.2 c2.1));exact aG F1 (aV F1 [l.1.1,l.1.2,l.2.1.1,l.2.1.2,l.2.2.1,l.2.2.2,c0.1,c0.2,c1.1,c1.2,c2.1,c2.2]) (Z1*Z6+Z0*Z7+Z3*Z8+Z2*Z9+Z5*Z10+Z4*Z11) (Z0*Z7+Z1*Z6+(Z2*Z9+Z3*Z8)+(Z4*Z11+Z5*Z10)) (by kernel_rfl)
section
variable {R:Type} (K:CR R)
theorem tz0 (x0 x1 x2 x3 x4 x5 l0 l1 l3 t:R):(K.add (K.add (K.mul l0 x0) (K.mul l1 (K.mul x5 t))) (K.mul l3 (K.mul x3 t)))=(K.add (K.add (K.mul x0 l0) (K.mul t (K.add (K.mul x2 K.zero) (K.mul x4 K.zero)))) (K.mul (K.add (K.add (K.mul x1 K.zero) (K.mul x3 l3)) (K.mul x5 l1)) t)) :=
 aG K (aV K [x0,x1,x2,x3,x4,x5,l0,l1,l3,t]) (Z6*Z0+Z7*(Z5*Z9)+Z8*(Z3*Z9)) (Z0*Z6+Z9*(Z2*RE.zero+Z4*RE.zero)+(Z1*RE.zero+Z3*Z8+Z5*Z7)*Z9) (by kernel_rfl)
theorem tz1 (x0 x1 x2 x3 x4 x5 l0 l1 l3 t:R):(K.add (K.add (K.mul l0 x2) (K.mul l1 x1)) (K.mul l3 (K.mul x5 t)))=(K.add (K.add (K.add (K.mul x0 K.zero) (K.mul x2 l0)) (K.mul t (K.mul x4 K.zero))) (K.add (K.mul x1 l1) (K.mul t (K.add (K.mul x3 K.zero) (K.mul x5 l3))))) :=
 aG K (aV K [x0,x1,x2,x3,x4,x5,l0,l1,l3,t]) (Z6*Z2+Z7*Z1+Z8*(Z5*Z9)) (Z0*RE.zero+Z2*Z6+Z9*(Z4*RE.zero)+(Z1*Z7+Z9*(Z3*RE.zero+Z5*Z8))) (by kernel_rfl)
theorem tz2 (x0 x1 x2 x3 x4 x5 l0 l1 l3 t:R):(K.add (K.add (K.mul l0 x4) (K.mul l1 x3)) (K.mul l3 x1))=(K.add (K.add (K.add (K.mul x0 K.zero) (K.mul x2 K.zero)) (K.mul x4 l0)) (K.add (K.add (K.mul x1 l3) (K.mul x3 l1)) (K.mul t (K.mul x5 K.zero)))) :=
 aG K (aV K [x0,x1,x2,x3,x4,x5,l0,l1,l3,t]) (Z6*Z4+Z7*Z3+Z8*Z1) (Z0*RE.zero+Z2*RE.zero+Z4*Z6+(Z1*Z8+Z3*Z7+Z9*(Z5*RE.zero))) (by kernel_rfl)
theorem tz3 (x0 x1 x2 x3 x4 x5 l0 l1 l3 t:R):(K.add (K.add (K.mul l0 x1) (K.mul l1 x0)) (K.mul l3 (K.mul x4 t)))=(K.add (K.add (K.mul x0 l1) (K.mul t (K.add (K.mul x2 K.zero) (K.mul x4 l3)))) (K.add (K.mul x1 l0) (K.mul t (K.add (K.mul x3 K.zero) (K.mul x5 K.zero))))) :=
 aG K (aV K [x0,x1,x2,x3,x4,x5,l0,l1,l3,t]) (Z6*Z1+Z7*Z0+Z8*(Z4*Z9)) (Z0*Z7+Z9*(Z2*RE.zero+Z4*Z8)+(Z1*Z6+Z9*(Z3*RE.zero+Z5*RE.zero))) (by kernel_rfl)
theorem tz4 (x0 x1 x2 x3 x4 x5 l0 l1 l3 t:R):(K.add (K.add (K.mul l0 x3) (K.mul l1 x2)) (K.mul l3 x0))=(K.add (K.add (K.add (K.mul x0 l3) (K.mul x2 l1)) (K.mul t (K.mul x4 K.zero))) (K.add (K.add (K.mul x1 K.zero) (K.mul x3 l0)) (K.mul t (K.mul x5 K.zero)))) :=
 aG K (aV K [x0,x1,x2,x3,x4,x5,l0,l1,l3,t]) (Z6*Z3+Z7*Z2+Z8*Z0) (Z0*Z8+Z2*Z7+Z9*(Z4*RE.zero)+(Z1*RE.zero+Z3*Z6+Z9*(Z5*RE.zero))) (by kernel_rfl)
theorem tz5 (x0 x1 x2 x3 x4 x5 l0 l1 l3 t:R):(K.add (K.add (K.mul l0 x5) (K.mul l1 x4)) (K.mul l3 x2))=(K.add (K.add (K.add (K.mul x0 K.zero) (K.mul x2 l3)) (K.mul x4 l1)) (K.add (K.add (K.mul x1 K.zero) (K.mul x3 K.zero)) (K.mul x5 l0))) :=
 aG K (aV K [x0,x1,x2,x3,x4,x5,l0,l1,l3,t]) (Z6*Z5+Z7*Z4+Z8*Z2) (Z0*RE.zero+Z2*Z8+Z4*Z7+(Z1*RE.zero+Z3*RE.zero+Z5*Z6)) (by kernel_rfl)
end
theorem aDW (x:aQ) (l:Q6):Iw x l=aF.mul x (GU l):=by
 obtain⟨⟨x0,x2,x4⟩,x1,x3,x5⟩:=x;obtain⟨l0,l1,l3⟩:=l;rw[pQ];unfold Iw GU;dsimp only;simp only[bBK];rw[tz0 F2 x0 x1 x2 x3 x4 x5 l0 l1 l3 dJ,tz1 F2 x0 x1 x2 x3 x4 x5 l0 l1 l3 dJ,tz2 F2 x0 x1 x2 x3 x4 x5 l0 l1 l3 dJ,tz3 F2 x0 x1 x2 x3 x4 x5 l0 l1 l3 dJ,tz4 F2 x0 x1 x2 x3 x4 x5 l0 l1 l3 dJ,tz5 F2 x0 x1 x2 x3 x4 x5 l0 l1 l3 dJ]
theorem Jk (x:aQ) (l:Q6):aO prog (qG prog) (wq aZO) f169 100 [.v (.fl (qO x)),.v (.fl (e6 l))]=some ([],.one (.fl (qO (Iw x l)))):=by kernel_rfl
def Qd:Tab:=aZO.add 169 (g2 aMP rd6 fun x l=>([],.one (.fl (qO (aF.mul x (GU l))))))
theorem PR:TabOk prog Qd:=aRl.ad func169 (dS Sv oH fun x l hp args w ha=>by
 have h:=aB aE (fun _ _=>aRl) (aJ _) func169 (Jk x l) trivial (args:=args) (w:=w) ha;rw[aDW]at h;exact h)
section
variable {R:Type} (K:CR R)
def aDN (x y:R):R:=K.sub (K.mul (K.add (K.add (K.mul x x) (K.mul x x)) (K.mul x x)) (K.add (K.add (K.mul x x) (K.mul x x)) (K.mul x x))) (K.add (K.add (K.mul x (K.add (K.mul y y) (K.mul y y))) (K.mul x (K.add (K.mul y y) (K.mul y y)))) (K.add (K.mul x (K.add (K.mul y y) (K.mul y y))) (K.mul x (K.add (K.mul y y) (K.mul y y)))))
def aLz (x y:R):R:=K.sub (K.mul (K.add (K.add (K.mul x x) (K.mul x x)) (K.mul x x)) (K.sub (K.add (K.mul x (K.add (K.mul y y) (K.mul y y))) (K.mul x (K.add (K.mul y y) (K.mul y y)))) (aDN K x y))) (K.add (K.mul (K.add (K.mul y y) (K.mul y y)) (K.add (K.mul y y) (K.mul y y))) (K.mul (K.add (K.mul y y) (K.mul y y)) (K.add (K.mul y y) (K.mul y y))))
theorem aLy (x y z:R):(aDN K x y,aLz K x y,K.add (K.mul y z) (K.mul y z))=bX K (x,y,z):=by
 have e1:K.add (K.mul x (K.add (K.mul y y) (K.mul y y))) (K.mul x (K.add (K.mul y y) (K.mul y y)))=dBa K (x,y,z):=(K.mul_add _ _ _).symm;have e2:aDN K x y=dX K (x,y,z):=by
  unfold aDN;rw[e1];rfl
 unfold bX;refine Prod.ext e2 (Prod.ext ?_ (K.add_mul _ _ _).symm);show aLz K x y=dY K (x,y,z);have e3:∀t:R,K.add (K.mul t t) (K.mul t t)=K.mul (K.add t t) t:=fun t=>(K.add_mul _ _ _).symm
 unfold aLz;rw[e1,e2,e3 (K.add (K.mul y y) (K.mul y y))];rfl
end
def Sc (x y:Q2):Q2:=aDN F2 x y
def tnY (x y:Q2):Q2:=aLz F2 x y
def tnZ (y z:Q2):Q2:=F2.add (F2.mul y z) (F2.mul y z)
theorem aTK (x y z:Q2):(Sc x y,tnY x y,tnZ y z)=bX F2 (x,y,z):=aLy F2 x y z
def tnL (x y z:Q2) (a:Fq×Fq):Q6:=lnR (tF x y z) (tS x y z) (tH x y z) a
def NX (a:Fq×Fq):List At:=[.f a.1,.f a.2,.c (.bool false)]
def lI (q:Q2×Q2):List At:=[.f q.1.1,.f q.1.2,.f q.2.1,.f q.2.2,.c (.bool false)]
def FE (l:List (Nat×List At)):Nat→Option (List At):=assoc l
theorem aMf (b N o:Nat) (l L1 L2 L3:List At) (x y z:Q2) (a:Fq×Fq) :
  Pc prog (qPt prog (FE [(16,e2 x),(21,e2 y),(26,e2 z),(42,NX a),(75,e2 (Sc x y))]) (FE [(67,L1),(84,L2),(89,L3)]) Yt) (wq Qd) f170 60 b N o l [] =
   some ([gU l (o+26+0) 8=some (e2 x),gU l (o+26+8) 8=some (e2 y),gU l (o+26+16) 8=some (e2 z),gU l (o+0) 9=some (NX a),put l (o+26+0) (e2 (Sc x y))=some L1,gU L1 (o+26+0) 8=some (e2 (Sc x y)),put L1 (o+26+8) (e2 (tnY x y))=some L2,put L2 (o+26+16) (e2 (tnZ y z))=some L3],.one (.fl (e6 (tnL x y z a))),L3,b,N):=by kernel_rfl
theorem aAd (Ws:List Wk) (j:Nat) (a b:Wk):(Ws.set j a).set j b=Ws.set j b:=List.set_set _
theorem nT {Ws:List Wk} {j:Nat} {W:Wk} (h:Ws[j]?=some W) (V:Wk):(Ws.set j V)[j]?=some V:=by
 have:=(List.getElem?_eq_some_iff.1 h).1;simp[this]
theorem Zq {Ws:List Wk} {j:Nat} {W:Wk} (h:Ws[j]?=some W):FH prog 170 (rows Ws) (50*j) [] (.one (.fl (e6 (tnL W.2.2.1 W.2.2.2.1 W.2.2.2.2 W.1)))) (rows (Ws.set j (W.1,W.2.1,bX F2 W.2.2))):=by
 obtain⟨a,q,x,y,z⟩:=W;intro w b hO;rw[show bX F2 (x,y,z)=_ from (aTK x y z).symm];have p1:put (rows Ws) (50*j+(26+0)) (e2 (Sc x y))=some (rows (Ws.set j (a,q,Sc x y,y,z))):=rI h rfl;have p2:put (rows (Ws.set j (a,q,Sc x y,y,z))) (50*j+(26+8)) (e2 (tnY x y))=some (rows (Ws.set j (a,q,Sc x y,tnY x y,z))):=by
  have:=rI (o:=26+8) (v:=e2 (tnY x y)) (W':=(a,q,Sc x y,tnY x y,z)) (nT h (a,q,Sc x y,y,z)) rfl
  rwa [aAd]at this
 have p3:put (rows (Ws.set j (a,q,Sc x y,tnY x y,z))) (50*j+(26+16)) (e2 (tnZ y z))=some (rows (Ws.set j (a,q,Sc x y,tnY x y,tnZ y z))):=by
  have:=rI (o:=26+16) (v:=e2 (tnZ y z)) (W':=(a,q,Sc x y,tnY x y,tnZ y z)) (nT h (a,q,Sc x y,tnY x y,z)) rfl
  rwa [aAd]at this
 exact oS (ts:=[]) aE (fun _ _=>PR.w _ _) (pY (fM _) _ _) func170 (aMf b w.heap.size (50*j) _ _ _ _ x y z a)
  ⟨gP (o:=26+0) h rfl,gP (o:=26+8) h rfl,gP (o:=26+16) h rfl,gP (o:=0) h rfl,p1,gP (o:=26+0) (nT h _) rfl,p2,p3,trivial⟩ hO
def chL (p:J2) (q:Q2×Q2) (a:Fq×Fq):Q6:=lnR (chN p.1 p.2.2 q.1) (vL p.2.1 p.2.2 q.2) (F2.sub (F2.mul (vL p.2.1 p.2.2 q.2) q.1) (F2.mul (chN p.1 p.2.2 q.1) q.2)) a
theorem aMw (b N o:Nat) (l L1 L2 L3:List At) (x y z u v:Q2) (a:Fq×Fq) :
  Pc prog (qPt prog (FE [(20,e2 x),(25,e2 y),(30,e2 z),(53,NX a),(92,e2 (sX F2 x (tT x z u) (vL y z v)))]) (FE [(84,L1),(101,L2),(106,L3)]) Yt) (wq Qd) f172 60 b N o l [.fl (lI (u,v))] =
   some ([gU l (o+26+0) 8=some (e2 x),gU l (o+26+8) 8=some (e2 y),gU l (o+26+16) 8=some (e2 z),gU l (o+0) 9=some (NX a),put l (o+26+0) (e2 (sX F2 x (tT x z u) (vL y z v)))=some L1,gU L1 (o+26+0) 8=some (e2 (sX F2 x (tT x z u) (vL y z v))),put L1 (o+26+8) (e2 (sY F2 x y (tT x z u) (vL y z v)))=some L2,put L2 (o+26+16) (e2 (F2.mul z (tT x z u)))=some L3],.one (.fl (e6 (chL (x,y,z) (u,v) a))),L3,b,N):=by kernel_rfl
theorem RQ {Ws:List Wk} {j:Nat} {W:Wk} (h:Ws[j]?=some W) (q':Q2×Q2):FH prog 172 (rows Ws) (50*j) [.agg (aA (lI q')).toArray] (.one (.fl (e6 (chL W.2.2 q' W.1)))) (rows (Ws.set j (W.1,W.2.1,iZ W.2.2 q'))):=by
 obtain⟨a,q,x,y,z⟩:=W;obtain⟨u,v⟩:=q';intro w b hO;show Calls _ _ _ _ (Wr b w _ (rows (Ws.set j (a,q,sX F2 x (tT x z u) (vL y z v),sY F2 x y (tT x z u) (vL y z v),F2.mul z (tT x z u)))));have p1:put (rows Ws) (50*j+(26+0)) (e2 (sX F2 x (tT x z u) (vL y z v)))=some (rows (Ws.set j (a,q,sX F2 x (tT x z u) (vL y z v),y,z))):=rI h rfl;have p2:put (rows (Ws.set j (a,q,sX F2 x (tT x z u) (vL y z v),y,z))) (50*j+(26+8)) (e2 (sY F2 x y (tT x z u) (vL y z v)))=some (rows (Ws.set j (a,q,sX F2 x (tT x z u) (vL y z v),sY F2 x y (tT x z u) (vL y z v),z))):=by
  have:=rI (o:=26+8) (v:=e2 (sY F2 x y (tT x z u) (vL y z v))) (W':=(a,q,sX F2 x (tT x z u) (vL y z v),sY F2 x y (tT x z u) (vL y z v),z)) (nT h (a,q,sX F2 x (tT x z u) (vL y z v),y,z)) rfl
  rwa [aAd]at this
 have p3:put (rows (Ws.set j (a,q,sX F2 x (tT x z u) (vL y z v),sY F2 x y (tT x z u) (vL y z v),z))) (50*j+(26+16)) (e2 (F2.mul z (tT x z u)))=some (rows (Ws.set j (a,q,sX F2 x (tT x z u) (vL y z v),sY F2 x y (tT x z u) (vL y z v),F2.mul z (tT x z u)))):=by
  have:=rI (o:=26+16) (v:=e2 (F2.mul z (tT x z u))) (W':=(a,q,sX F2 x (tT x z u) (vL y z v),sY F2 x y (tT x z u) (vL y z v),F2.mul z (tT x z u))) (nT h (a,q,sX F2 x (tT x z u) (vL y z v),sY F2 x y (tT x z u) (vL y z v),z)) rfl
  rwa [aAd]at this
 exact oS (ts:=[.fl (lI (u,v))]) aE (fun _ _=>PR.w _ _) (pY (fM _) _ _) func172 (aMw b w.heap.size (50*j) _ _ _ _ x y z u v a)
  ⟨gP (o:=26+0) h rfl,gP (o:=26+8) h rfl,gP (o:=26+16) h rfl,gP (o:=0) h rfl,p1,gP (o:=26+0) (nT h _) rfl,p2,p3,trivial⟩ hO
def T5s (l0 l1 l2:List At) (o:Nat) (r1 r2:RV) (m:List At):Tab5:=(Yt.add 170 (pe0 l0 o r1 l1)).add 172 (pe1 l1 o m r2 l2)
theorem Rl {Ws:List Wk} {j:Nat} {W:Wk} (h:Ws[j]?=some W) (q':Q2×Q2) :
  PtOk prog (T5s (rows Ws) (rows (Ws.set j (W.1,W.2.1,bX F2 W.2.2))) (rows (Ws.set j (W.1,W.2.1,iZ (bX F2 W.2.2) q'))) (50*j) (.one (.fl (e6 (tnL W.2.2.1 W.2.2.2.1 W.2.2.2.2 W.1)))) (.one (.fl (e6 (chL (bX F2 W.2.2) q' W.1)))) (lI q')):=by
 have h2:=RQ (nT h (W.1,W.2.1,bX F2 W.2.2)) q';rw[aAd]at h2;exact ((fM _).ad func170 (aVd (Zq h))).ad func172 (Nh h2)
theorem aAA (b N o:Nat) (l l1 l2 m:List At) (f:aQ) (x y:Q6) :
  Pc prog (qPt prog (FE []) (FE []) (T5s l l1 l2 o (.one (.fl (e6 x))) (.one (.fl (e6 y))) m)) (wq Qd) f115 60 b N o l [.fl (qO f),.im (.int .i64 0)] =
   some ([l=l,o=o],.one (.fl (qO (aF.mul f (GU x)))),l1,b,N):=by kernel_rfl
theorem aAz (b N o:Nat) (l l1 l2:List At) (f:aQ) (x y:Q6) (q:Q2×Q2) :
  Pc prog (qPt prog (FE [(17,lI q)]) (FE []) (T5s l l1 l2 o (.one (.fl (e6 x))) (.one (.fl (e6 y))) (lI q))) (wq Qd) f115 60 b N o l [.fl (qO f),.im (.int .i64 1)] =
   some ([l=l,o=o,gU l1 (o+9) 17=some (lI q),l1=l1,o=o,aA (lI q)=aA (lI q)],.one (.fl (qO (aF.mul (aF.mul f (GU x)) (GU y)))),l2,b,N):=by kernel_rfl
theorem aAy (b N o:Nat) (l l1 l2:List At) (f:aQ) (x y:Q6) (q:Q2×Q2) :
  Pc prog (qPt prog (FE [(17,lI q)]) (FE []) (T5s l l1 l2 o (.one (.fl (e6 x))) (.one (.fl (e6 y))) (lI (q.1,F2.neg q.2)))) (wq Qd) f115 60 b N o l [.fl (qO f),.im (.int .i64 (-1))] =
   some ([l=l,o=o,gU l1 (o+9) 17=some (lI q),l1=l1,o=o,aA (lI (q.1,F2.neg q.2))=aA (lI (q.1,F2.neg q.2))],.one (.fl (qO (aF.mul (aF.mul f (GU x)) (GU y)))),l2,b,N):=by kernel_rfl
theorem bAP (x y z:Q2) (a:Fq×Fq):GU (tnL x y z a)=zG (x,y,z) a:=aRJ _ _ _ _
theorem Xt (p:J2) (q:Q2×Q2) (a:Fq×Fq):GU (chL p q a)=vK p q a:=aRJ _ _ _ _
theorem bGn (a:Fq×Fq) (q:Q2×Q2) (p:J2):lf a q 0 p=zG p a:=by unfold lf; rw[if_neg (by decide),if_neg (by decide)]
theorem bGm (a:Fq×Fq) (q:Q2×Q2) (p:J2):lf a q 1 p=aF.mul (zG p a) (vK (bX F2 p) q a):=by unfold lf; rw[if_pos rfl]
theorem bGl (a:Fq×Fq) (q:Q2×Q2) (p:J2):lf a q (-1) p=aF.mul (zG p a) (vK (bX F2 p) (q.1,F2.neg q.2) a):=by unfold lf; rw[if_neg (by decide),if_pos rfl]
theorem bGg (q:Q2×Q2) (p:J2):np q 0 p=bX F2 p:=by unfold np; rw[if_neg (by decide),if_neg (by decide)]
theorem bGf (q:Q2×Q2) (p:J2):np q 1 p=iZ (bX F2 p) q:=by unfold np; rw[if_pos rfl]
theorem bGe (q:Q2×Q2) (p:J2):np q (-1) p=iZ (bX F2 p) (q.1,F2.neg q.2):=by unfold np; rw[if_neg (by decide),if_pos rfl]
theorem Jb {Ws:List Wk} {j:Nat} {W:Wk} (h:Ws[j]?=some W) (f:aQ) (d:Int) (hd:d=0∨d=1∨d = -1) :
  FH prog 115 (rows Ws) (50*j) [.agg (aA (qO f)).toArray,.int .i64 d] (.one (.fl (qO (aF.mul f (lf W.1 W.2.1 d W.2.2))))) (rows (Ws.set j (stG np d W))):=by
 intro w b hO;have hs:=gP (o:=9) (n:=17) (s:=lI W.2.1) (nT h (W.1,W.2.1,bX F2 W.2.2)) rfl;have et:GU (tnL W.2.2.1 W.2.2.2.1 W.2.2.2.2 W.1)=zG W.2.2 W.1:=bAP _ _ _ _;unfold stG
 rcases hd with rfl|rfl|rfl
 ·rw[bGn,bGg,←et];exact oS (ts:=[.fl (qO f),.im (.int .i64 0)]) aE (fun _ _=>PR.w _ _) (pY (Rl h W.2.1) _ _) func115 (aAA b w.heap.size (50*j) _ _ _ _ f _ _) ⟨rfl,rfl,trivial⟩ hO
 ·rw[bGm,bGf,←et,←Xt,←aF.mul_assoc];exact oS (ts:=[.fl (qO f),.im (.int .i64 1)]) aE (fun _ _=>PR.w _ _) (pY (Rl h W.2.1) _ _) func115 (aAz b w.heap.size (50*j) _ _ _ f _ _ W.2.1) ⟨rfl,rfl,hs,rfl,rfl,rfl,trivial⟩ hO
 ·rw[bGl,bGe,←et,←Xt,←aF.mul_assoc];exact oS (ts:=[.fl (qO f),.im (.int .i64 (-1))]) aE (fun _ _=>PR.w _ _) (pY (Rl h (W.2.1.1,F2.neg W.2.1.2)) _ _) func115 (aAy b w.heap.size (50*j) _ _ _ f _ _ W.2.1) ⟨rfl,rfl,hs,rfl,rfl,rfl,trivial⟩ hO
def aMQ:List At→Option (Q2×Q2)|[.f a,.f b,.f c,.f d,.c (.bool false)]=>some ((a,b),(c,d))|_=>none
theorem Sw:Rd aMQ lI:=fun l x h=>by unfold aMQ at h; split at h<;>cases h; rfl
theorem aIM (q:Q2×Q2):aA (lI q)=aA (gN (NT (some q))):=rfl
theorem aJQ {q:Q2×Q2} {args:List Value} {w:World} (ha:bZ w [.v (.fl (lI q))] args):bZ w [.v (.fl (gN (NT (some q))))] args:=by
 match args,ha with
 | [v],ha =>
  refine⟨?_,trivial⟩;show v=.agg (aA (gN (NT (some q)))).toArray;rw[←aIM];exact ha.1
 | [],ha=>exact ha.elim
 | _::_::_,ha=>exact ha.2.elim
theorem aSY (q:Q2×Q2) (h:On F2 dO (some q)) (args:List Value) (w:World) (ha:bZ w [.v (.fl (lI q))] args):Good prog 173 (.many [.fl (lI (iU q)),.im (.int .i64 0)]) args w:=by
 have:=aFG (NT (some q)) args w (aJQ ha);rw[show gW (NT (some q))=_ from bAT ⟨some q,h⟩]at this;exact this
theorem aSZ (q:Q2×Q2) (h:On F2 dO (some q)) (args:List Value) (w:World) (ha:bZ w [.v (.fl (lI q))] args):Good prog 174 (.many [.fl (lI (QK q)),.im (.int .i64 0)]) args w:=by
 have:=(Fh 174 [.v (.fl (gN (NT (some q))))] _ _ rfl trivial).2 args w (aJQ ha);rw[show xJ (NT (some q))=_ from tN2 ⟨some q,h⟩]at this;exact this
def oPs (q:Q2×Q2):List Prop×RV:=([On F2 dO (some q)],.many [.fl (lI (iU q)),.im (.int .i64 0)])
def oNg (q:Q2×Q2):List Prop×RV:=([On F2 dO (some q)],.many [.fl (lI (QK q)),.im (.int .i64 0)])
def aSy:Tab:=Qd.add 173 (g1 aMQ oPs)
theorem aWg:TabOk prog aSy:=PR.ad func173 (bP (op:=oPs) Sw fun q hp args w ha=>aSY q hp.1 args w ha)
def aCT:Tab:=aSy.add 174 (g1 aMQ oNg)
theorem El:TabOk prog aCT:=aWg.ad func174 (bP (op:=oNg) Sw fun q hp args w ha=>aSZ q hp.1 args w ha)
def qK:Code:=(f118.body).getD .skip
def enN:Nat:=f118.ntmps
def aYk (b N o:Nat) (l:List At) (f:aQ):List Fact:=[.slot 0 (.pt 0 o),.row 0 true l,.at 0 b,.at enN N,.slot 3 (.pt 3 0),.row 3 true (qO f),.slot 4 (.pt 4 0),.row 4 true (qO aF.zero)]
def aCD (b N o:Nat) (l:List At) (f:aQ) (q:Q2×Q2):List Fact:=[.slot 0 (.pt 0 o),.row 0 true l,.at 0 b,.at enN N,.slot 3 (.pt 3 0),.row 3 true (qO f),.slot 4 (.pt 4 0),.row 4 true (qO aF.zero),.slot 5 (.pt 5 0),.row 5 true (lI q)]
def aCC (b N:Nat) (l:List At) (f:aQ):List Fact:=[.slot 4 (.pt 4 0),.row 4 true (qO f),.row 0 true l,.at 0 b,.at enN N]
def T5c (l0 l1:List At) (o:Nat) (r:RV) (m:List At):Tab5:=Yt.add 172 (pe1 l0 o m r l1)
theorem aKR {Ws:List Wk} {j:Nat} {W:Wk} (h:Ws[j]?=some W) (q':Q2×Q2):PtOk prog (T5c (rows Ws) (rows (Ws.set j (W.1,W.2.1,iZ W.2.2 q'))) (50*j) (.one (.fl (e6 (chL W.2.2 q' W.1)))) (lI q')) :=
 (fM _).ad func172 (Nh (RQ h q'))
theorem bDF (b N o:Nat) (l:List At) (f:aQ):aU prog (qPt prog (FE []) (FE []) Yt) enN (wq aCT) 40 (cA qK) (aZw enN b N o l [.fl (qO f)]) (aYk b N o l f)=some ([],.nrm,aYk b N o l f):=by kernel_rfl
theorem bDE (b N o:Nat) (l:List At) (f:aQ) (q:Q2×Q2):aU prog (qPt prog (FE [(11,lI q)]) (FE []) Yt) enN (wq aCT) 40 (cA (cB qK)) (aYk b N o l f) (aCD b N o l f (iU q))=some ([gU l (o+9) 17=some (lI q),On F2 dO (some q)],.nrm,aCD b N o l f (iU q)):=by kernel_rfl
theorem bDD (b N o:Nat) (l l1:List At) (f:aQ) (q:Q2×Q2) (x:Q6):aU prog (qPt prog (FE []) (FE []) (T5c l l1 o (.one (.fl (e6 x))) (lI q))) enN (wq aCT) 40 (cA (cB (cB qK))) (aCD b N o l f q) (aCD b N o l1 (aF.mul f (GU x)) q)=some ([l=l,o=o,aA (lI q)=aA (lI q)],.nrm,aCD b N o l1 (aF.mul f (GU x)) q):=by kernel_rfl
theorem bDC (b N o:Nat) (l l1:List At) (f:aQ) (q:Q2×Q2) (x:Q6):aU prog (qPt prog (FE []) (FE []) (T5c l l1 o (.one (.fl (e6 x))) (lI (QK (iU q))))) enN (wq aCT) 40 (cB (cB (cB qK))) (aCD b N o l f q) (aCC b N l1 (aF.mul f (GU x)))=some ([On F2 dO (some q),On F2 dO (some (iU q)),l=l,o=o,aA (lI (QK (iU q)))=aA (lI (QK (iU q)))],.rt,aCC b N l1 (aF.mul f (GU x))):=by kernel_rfl
theorem aPw:qK=.seq (cA qK) (.seq (cA (cB qK)) (.seq (cA (cB (cB qK))) (cB (cB (cB qK))))):=by kernel_rfl
theorem aFH {q:Q2×Q2} (h:On F2 dO (some q)):On F2 dO (some (iU q)):=(sF ⟨some q,h⟩).2
def enW (W:Wk):Wk:=(W.1,W.2.1,iZ (iZ W.2.2 (iU W.2.1)) (QK (iU (iU W.2.1))))
theorem aYi {b:Nat} {w w':World} {a:Act} {l:List At} {f:aQ} (hA:Holds enN b w (aCC b w.heap.size l f) a w'):bodyPost prog f118 (Wr b w (.one (.fl (qO f))) l) .ret a w':=by
 refine rY (l:=[.fl (qO f)]) (r:=.one (.fl (qO f))) (by kernel_rfl) (by kernel_rfl) hA ⟨rfl,?_⟩;exact hA.wrc (l:=l) (by simp[aCC]) (by simp[aCC]) (by simp[aCC])
theorem aPv {b o:Nat} {w:World} {l0 l1 l2:List At} {f:aQ} {q:Q2×Q2} {x y:Q6} (hO:Own w b l0) (hs:gU l0 (o+9) 17=some (lI q)) (hq:On F2 dO (some q))
  (t1:PtOk prog (T5c l0 l1 o (.one (.fl (e6 x))) (lI (iU q)))) (t2:PtOk prog (T5c l1 l2 o (.one (.fl (e6 y))) (lI (QK (iU (iU q)))))) :
  Calls prog 118 (jP b o::[TV.fl (qO f)].map TV.den).toArray w (Wr b w (.one (.fl (qO (aF.mul (aF.mul f (GU x)) (GU y))))) l2):=by
 refine QX (ts:=[.fl (qO f)]) func118 (c:=qK) rfl hO (Nat.le_of_ble_eq_true (by kernel_rfl)) fun a w1 hA => ?_
 rw[aPw];refine wp_seq (aD aE (fun _ _=>El.w _ _) (pY (fM _) _ _) (bDF b w.heap.size o l0 f) trivial hA fun a w2 hA => ?_);refine wp_seq (aD aE (fun _ _=>El.w _ _) (pY (fM _) _ _) (bDE b w.heap.size o l0 f q) ⟨hs,hq,trivial⟩ hA fun a w3 hA => ?_);refine wp_seq (aD aE (fun _ _=>El.w _ _) (pY t1 _ _) (bDD b w.heap.size o l0 l1 f (iU q) x) ⟨rfl,rfl,rfl,trivial⟩ hA fun a w4 hA => ?_);have q1:=aFH hq;have q2:=aFH q1;generalize iU q=q' at hA t2 q1 q2 ⊢;refine aD aE (fun _ _=>El.w _ _) (pY t2 _ _) (bDC b w.heap.size o l1 l2 (aF.mul f (GU x)) q' y) ⟨q1,q2,rfl,rfl,rfl,trivial⟩ hA fun a w5 hA => ?_
 exact aYi hA
theorem aOv {f x y z w:aQ} (h1:x=z) (h2:y=w):aF.mul (aF.mul f x) y=aF.mul f (aF.mul z w):=by
 subst h1; subst h2;exact aF.mul_assoc _ _ _
theorem bDy (a:Fq×Fq) (q:Q2×Q2) (p:J2):ew a q p=aF.mul (vK p (iU q) a) (vK (iZ p (iU q)) (QK (iU (iU q))) a):=by
 unfold ew
 with_reducible rfl
theorem bGM (f:aQ) (a:Fq×Fq) (q:Q2×Q2) (p:J2):aF.mul (aF.mul f (GU (chL p (iU q) a))) (GU (chL (iZ p (iU q)) (QK (iU (iU q))) a))=aF.mul f (ew a q p) :=
 (aOv (Xt p (iU q) a) (Xt (iZ p (iU q)) (QK (iU (iU q))) a)).trans (congrArg (aF.mul f) (bDy a q p).symm)
theorem aJg {Ws:List Wk} {j:Nat} {a:Fq×Fq} {q:Q2×Q2} {p:J2} (h:Ws[j]?=some (a,q,p)) (f g:aQ) (hg:aF.mul (aF.mul f (GU (chL p (iU q) a))) (GU (chL (iZ p (iU q)) (QK (iU (iU q))) a))=g) (hq:On F2 dO (some q)) :
  FH prog 118 (rows Ws) (50*j) [.agg (aA (qO f)).toArray] (.one (.fl (qO g))) (rows (Ws.set j (a,q,iZ (iZ p (iU q)) (QK (iU (iU q)))))):=by
 subst hg;intro w b hO;have hs:=gP (o:=9) (n:=17) (s:=lI q) h rfl;have t1:PtOk prog (T5c (rows Ws) (rows (Ws.set j (a,q,iZ p (iU q)))) (50*j) (.one (.fl (e6 (chL p (iU q) a)))) (lI (iU q))):=aKR h (iU q);have t2:PtOk prog (T5c (rows (Ws.set j (a,q,iZ p (iU q)))) (rows ((Ws.set j (a,q,iZ p (iU q))).set j (a,q,iZ (iZ p (iU q)) (QK (iU (iU q)))))) (50*j) (.one (.fl (e6 (chL (iZ p (iU q)) (QK (iU (iU q))) a)))) (lI (QK (iU (iU q))))):=aKR (nT h (a,q,iZ p (iU q))) (QK (iU (iU q)));rw[aAd Ws j (a,q,iZ p (iU q)) (a,q,iZ (iZ p (iU q)) (QK (iU (iU q))))]at t2;exact aPv (f:=f) hO hs hq t1 t2
theorem aCB {Ws:List Wk} {j:Nat} {a:Fq×Fq} {q:Q2×Q2} {p:J2} (h:Ws[j]?=some (a,q,p)) (f:aQ) (hq:On F2 dO (some q)) :
  FH prog 118 (rows Ws) (50*j) [.agg (aA (qO f)).toArray] (.one (.fl (qO (aF.mul f (ew a q p))))) (rows (Ws.set j (enW (a,q,p)))) :=
 aJg h f _ (bGM f a q p) hq
def aSI (c:Bool):Tab:=(Hy c).add 260 Gi
theorem aWq (c:Bool):TabOk prog (aSI c):=(aBZ c).ad func260 aHM
def aSJ (c:Bool):Tab:=(aSI c).add 167 VZ
theorem aWr (c:Bool):TabOk prog (aSJ c):=(aWq c).ad func167 aKc
theorem DJ (k:Int) (h0 : -1000<k) (h1:k<1000):IntKind.i64.wrap k=k:=IntWalk.i64_in _ (by omega)
theorem aRX (v:Nat) (b:Bool) (h:v=if b then 1 else 0):aI .eql .i64 (v:Nat) 1=some (.bool b):=by
 subst h;cases b<;>rfl
theorem aDH (n i:Nat) (h:i<aS n):wv n/2^(aS n-(i+1))=2*(wv n/2^(aS n-i))+dD (wv n) (aS n-1-i):=by
 have e:aS n-i=(aS n-(i+1))+1:=by omega
 have e2:aS n-1-i=aS n-(i+1):=by omega
 unfold dD;rw[e,e2,Nat.pow_succ,←Nat.div_div_eq_div_mul];omega
theorem aQI:Rdv vZ q1 (fun n=>n):=fun l n h=>⟨n,dG l n h,rfl⟩
end Go.Proofs.YtglgakbkdjhojaaGreat.Ex
namespace Go.Proofs.YtglgakbkdjhojaaGreat.R1
open Go.Proofs.Tryz
open Go.RowKit
theorem readyB_at {ops:Array Oper} {got:Nat→Bool} {i:Nat} {o:Oper} {e:Edge} (h:xZ .any ops got i=true) (ho:ops[i]?=some o) (he:e∈o.after) (hb:Region.binds .any e=true):got e.on=true:=by
 unfold xZ at h;rw[ho]at h;have:=(Array.all_eq_true_iff_forall_mem.1 h) e he;simpa[hb]using this
def HalfV (A:Nat) (t:Value):Prop:=∃x0 x1 x2 x3 x4 x5 x6 x7:Nat,t=.agg #[.int .u64 x0,.int .u64 x1,.int .u64 x2,.int .u64 x3,.int .u64 x4,.int .u64 x5,.int .u64 x6,.int .u64 x7]∧ok8 x0 x1 x2 x3 x4 x5 x6 x7∧Hid (xU x0 x1 x2 x3 x4 x5 x6 x7=A)
def FreshZ (wr u:World) (t:Value):Prop:=∃p,t=.pointer (some ⟨p,0,none⟩)∧wr.heap.size≤p∧p<u.heap.size∧RowIs u p 8 (fun _=>0)
theorem FreshZ.grow {wr u u':World} {t:Value} (h:FreshZ wr u t) (hb:Below u.heap.size u u'):FreshZ wr u' t:=by
 obtain⟨p,e,h1,h2,r⟩:=h;exact⟨p,e,h1,Nat.lt_of_lt_of_le h2 hb.size,r.below hb h2⟩
structure RI (got:Nat→Bool) (wr:World) (a0 a1 a2 a3 b0 b1 b2 b3:Nat) (t6 t7 s0 s1 s2 s3:Value) (u:World):Prop where
 below:Below wr.heap.size wr u
 g0:got 0=true→s0=.agg #[.int .u64 a0,.int .u64 a1,.int .u64 a2,.int .u64 a3]
 g1:got 1=true→HalfV (aC a0 a1 a2 a3) s1
 g2:got 2=true→s2=.agg #[.int .u64 b0,.int .u64 b1,.int .u64 b2,.int .u64 b3]
 g3:got 3=true→HalfV (aC b0 b1 b2 b3) s3
 g4:got 4=true→FreshZ wr u t6
 g5:got 5=true→FreshZ wr u t7
 g45:got 4=true→got 5=true→t6≠t7
section
variable {got:Nat→Bool} {wr u u':World} {a0 a1 a2 a3 b0 b1 b2 b3:Nat} {t6 t7 s0 s1 s2 s3:Value}
theorem RI.start (wr:World) (a0 a1 a2 a3 b0 b1 b2 b3:Nat):RI (fun _=>false) wr a0 a1 a2 a3 b0 b1 b2 b3 undef undef undef undef undef undef wr.drew :=
 ⟨(Below.refl _ _).drew,fun h=>Bool.noConfusion h,fun h=>Bool.noConfusion h,fun h=>Bool.noConfusion h,fun h=>Bool.noConfusion h,fun h=>Bool.noConfusion h,fun h=>Bool.noConfusion h,fun h=>Bool.noConfusion h⟩
theorem RI.op0 (h:RI got wr a0 a1 a2 a3 b0 b1 b2 b3 t6 t7 s0 s1 s2 s3 u):RI (fun j=>j==0||got j) wr a0 a1 a2 a3 b0 b1 b2 b3 t6 t7 (.agg #[.int .u64 a0,.int .u64 a1,.int .u64 a2,.int .u64 a3]) s1 s2 s3 u :=
 ⟨h.below,fun _=>rfl,fun e=>h.g1 (by simpa using e),fun e=>h.g2 (by simpa using e),fun e=>h.g3 (by simpa using e),fun e=>h.g4 (by simpa using e),fun e=>h.g5 (by simpa using e),fun e f=>h.g45 (by simpa using e) (by simpa using f)⟩
theorem RI.op2 (h:RI got wr a0 a1 a2 a3 b0 b1 b2 b3 t6 t7 s0 s1 s2 s3 u):RI (fun j=>j==2||got j) wr a0 a1 a2 a3 b0 b1 b2 b3 t6 t7 s0 s1 (.agg #[.int .u64 b0,.int .u64 b1,.int .u64 b2,.int .u64 b3]) s3 u :=
 ⟨h.below,fun e=>h.g0 (by simpa using e),fun e=>h.g1 (by simpa using e),fun _=>rfl,fun e=>h.g3 (by simpa using e),fun e=>h.g4 (by simpa using e),fun e=>h.g5 (by simpa using e),fun e f=>h.g45 (by simpa using e) (by simpa using f)⟩
theorem RI.op1 (h:RI got wr a0 a1 a2 a3 b0 b1 b2 b3 t6 t7 s0 s1 s2 s3 u) {x:Value} (hx:HalfV (aC a0 a1 a2 a3) x):RI (fun j=>j==1||got j) wr a0 a1 a2 a3 b0 b1 b2 b3 t6 t7 s0 x s2 s3 u :=
 ⟨h.below,fun e=>h.g0 (by simpa using e),fun _=>hx,fun e=>h.g2 (by simpa using e),fun e=>h.g3 (by simpa using e),fun e=>h.g4 (by simpa using e),fun e=>h.g5 (by simpa using e),fun e f=>h.g45 (by simpa using e) (by simpa using f)⟩
theorem RI.op3 (h:RI got wr a0 a1 a2 a3 b0 b1 b2 b3 t6 t7 s0 s1 s2 s3 u) {x:Value} (hx:HalfV (aC b0 b1 b2 b3) x):RI (fun j=>j==3||got j) wr a0 a1 a2 a3 b0 b1 b2 b3 t6 t7 s0 s1 s2 x u :=
 ⟨h.below,fun e=>h.g0 (by simpa using e),fun e=>h.g1 (by simpa using e),fun e=>h.g2 (by simpa using e),fun _=>hx,fun e=>h.g4 (by simpa using e),fun e=>h.g5 (by simpa using e),fun e f=>h.g45 (by simpa using e) (by simpa using f)⟩
theorem RI.grow (h:RI got wr a0 a1 a2 a3 b0 b1 b2 b3 t6 t7 s0 s1 s2 s3 u) (hb:Below u.heap.size u u'):RI got wr a0 a1 a2 a3 b0 b1 b2 b3 t6 t7 s0 s1 s2 s3 u' :=
 ⟨h.below.trans (hb.mono h.below.size),h.g0,h.g1,h.g2,h.g3,fun e=>(h.g4 e).grow hb,fun e=>(h.g5 e).grow hb,h.g45⟩
theorem fresh_new (wr u:World) (hs:wr.heap.size≤u.heap.size) (t:TypeId):FreshZ wr (u.alloc (.cells #[.int .u64 0,.int .u64 0,.int .u64 0,.int .u64 0,.int .u64 0,.int .u64 0,.int .u64 0,.int .u64 0] t)) (.pointer (some ⟨u.heap.size,0,none⟩)) :=
 ⟨_,rfl,hs,by simp,by
  intro k hk;refine⟨?_,World.frozen?_alloc_new _ _ _ _⟩;rw[World.cell?_alloc_new]
  match k,hk with
  | 0,_|1,_|2,_|3,_|4,_|5,_|6,_|7,_=>rfl⟩
theorem below_alloc (u:World) (o:Obj):Below u.heap.size u (u.alloc o):=(Below.refl _ _).alloc (Nat.le_refl _) o
theorem fresh_ne {wr u:World} {t:Value} (h:FreshZ wr u t):t ≠ .pointer (some ⟨u.heap.size,0,none⟩):=by
 obtain⟨p,rfl,_,h2,_⟩:=h;intro e;injection e with e;injection e with e;injection e with e;omega
theorem RI.op4 (h:RI got wr a0 a1 a2 a3 b0 b1 b2 b3 t6 t7 s0 s1 s2 s3 u) (t:TypeId):RI (fun j=>j==4||got j) wr a0 a1 a2 a3 b0 b1 b2 b3 (.pointer (some ⟨u.heap.size,0,none⟩)) t7 s0 s1 s2 s3 (u.alloc (.cells #[.int .u64 0,.int .u64 0,.int .u64 0,.int .u64 0,.int .u64 0,.int .u64 0,.int .u64 0,.int .u64 0] t)) :=
 ⟨h.below.alloc h.below.size _,fun e=>h.g0 (by simpa using e),fun e=>h.g1 (by simpa using e),fun e=>h.g2 (by simpa using e),fun e=>h.g3 (by simpa using e),
  fun _=>fresh_new wr u h.below.size t,fun e=>(h.g5 (by simpa using e)).grow (below_alloc _ _),fun _ f=>(fresh_ne (h.g5 (by simpa using f))).symm⟩
theorem RI.op5 (h:RI got wr a0 a1 a2 a3 b0 b1 b2 b3 t6 t7 s0 s1 s2 s3 u) (t:TypeId):RI (fun j=>j==5||got j) wr a0 a1 a2 a3 b0 b1 b2 b3 t6 (.pointer (some ⟨u.heap.size,0,none⟩)) s0 s1 s2 s3 (u.alloc (.cells #[.int .u64 0,.int .u64 0,.int .u64 0,.int .u64 0,.int .u64 0,.int .u64 0,.int .u64 0,.int .u64 0] t)) :=
 ⟨h.below.alloc h.below.size _,fun e=>h.g0 (by simpa using e),fun e=>h.g1 (by simpa using e),fun e=>h.g2 (by simpa using e),fun e=>h.g3 (by simpa using e),
  fun e=>(h.g4 (by simpa using e)).grow (below_alloc _ _),fun _=>fresh_new wr u h.below.size t,fun e _=>fresh_ne (h.g4 (by simpa using e))⟩
theorem RI.all (h:RI got wr a0 a1 a2 a3 b0 b1 b2 b3 t6 t7 s0 s1 s2 s3 u) (hg:∀j,j<6→got j=true) :
  ∃p q x0 x1 x2 x3 x4 x5 x6 x7 y0 y1 y2 y3 y4 y5 y6 y7:Nat,t6=.pointer (some ⟨p,0,none⟩)∧t7=.pointer (some ⟨q,0,none⟩) ∧
   s1=.agg #[.int .u64 x0,.int .u64 x1,.int .u64 x2,.int .u64 x3,.int .u64 x4,.int .u64 x5,.int .u64 x6,.int .u64 x7]∧s3=.agg #[.int .u64 y0,.int .u64 y1,.int .u64 y2,.int .u64 y3,.int .u64 y4,.int .u64 y5,.int .u64 y6,.int .u64 y7] ∧
   ok8 x0 x1 x2 x3 x4 x5 x6 x7∧ok8 y0 y1 y2 y3 y4 y5 y6 y7∧Hid (xU x0 x1 x2 x3 x4 x5 x6 x7=aC a0 a1 a2 a3)∧Hid (xU y0 y1 y2 y3 y4 y5 y6 y7=aC b0 b1 b2 b3) ∧
   wr.heap.size≤p∧wr.heap.size≤q∧p<u.heap.size∧q<u.heap.size∧¬p=q∧RowIs u p 8 (fun _=>0)∧RowIs u q 8 (fun _=>0)∧Below wr.heap.size wr u:=by
 obtain⟨x0,x1,x2,x3,x4,x5,x6,x7,e1,hx,ex⟩:=h.g1 (hg 1 (by omega));obtain⟨y0,y1,y2,y3,y4,y5,y6,y7,e2,hy,ey⟩:=h.g3 (hg 3 (by omega));obtain⟨p,e3,lp,up,rp⟩:=h.g4 (hg 4 (by omega));obtain⟨q,e4,lq,uq,rq⟩:=h.g5 (hg 5 (by omega));refine⟨p,q,x0,x1,x2,x3,x4,x5,x6,x7,y0,y1,y2,y3,y4,y5,y6,y7,e3,e4,e1,e2,hx,hy,ex,ey,lp,lq,up,uq,fun e => ?_,rp,rq,h.below⟩;subst e;exact h.g45 (hg 4 (by omega)) (hg 5 (by omega)) (e3.trans e4.symm)
end
structure TwoH (wr u:World) (p q:Nat) (X Y:Nat→Nat) (A B:Nat):Prop where
 below:Below wr.heap.size wr u
 lp:wr.heap.size≤p
 lq:wr.heap.size≤q
 up:p<u.heap.size
 uq:q<u.heap.size
 ne:¬p=q
 rowX:RowIs u p 8 X
 rowY:RowIs u q 8 Y
 ltX:∀k,X k<4294967296
 ltY:∀k,Y k<4294967296
 eX:tot 4294967296 X 8=A
 eY:tot 4294967296 Y 8=B
def set8 (w:World) (b:Nat) (d0 d1 d2 d3 d4 d5 d6 d7:Nat):World :=
 (((((((w.setCell ⟨b,0,none⟩ (.int .u64 d0)).setCell ⟨b,1,none⟩ (.int .u64 d1)).setCell ⟨b,2,none⟩ (.int .u64 d2)).setCell ⟨b,3,none⟩ (.int .u64 d3)).setCell ⟨b,4,none⟩ (.int .u64 d4)).setCell ⟨b,5,none⟩ (.int .u64 d5)).setCell ⟨b,6,none⟩ (.int .u64 d6)).setCell ⟨b,7,none⟩ (.int .u64 d7)
theorem RowIs.ext {w:World} {b n:Nat} {P R:Nat→Nat} (h:RowIs w b n P) (e:∀k,k<n→P k=R k):RowIs w b n R:=fun k hk=>⟨by rw[←e k hk]; exact h.cell hk,h.free hk⟩
theorem RowIs.set8 {w:World} {b:Nat} {P:Nat→Nat} (h:RowIs w b 8 P) (d0 d1 d2 d3 d4 d5 d6 d7:Nat):RowIs (Go.Proofs.YtglgakbkdjhojaaGreat.set8 w b d0 d1 d2 d3 d4 d5 d6 d7) b 8 (fL [d0,d1,d2,d3,d4,d5,d6,d7]):=by
 have r:=(((((((h.set (show 0<8 by omega) (v:=d0)).set (show 1<8 by omega) (v:=d1)).set (show 2<8 by omega) (v:=d2)).set (show 3<8 by omega) (v:=d3)).set (show 4<8 by omega) (v:=d4)).set (show 5<8 by omega) (v:=d5)).set (show 6<8 by omega) (v:=d6)).set (show 7<8 by omega) (v:=d7);unfold Go.Proofs.YtglgakbkdjhojaaGreat.set8;refine r.ext fun k hk => ?_
 match k,hk with
 | 0,_|1,_|2,_|3,_|4,_|5,_|6,_|7,_=>rfl
theorem RowIs.set8_other {w:World} {b c n:Nat} {P:Nat→Nat} (h:RowIs w b n P) (hc:c≠b) (d0 d1 d2 d3 d4 d5 d6 d7:Nat):RowIs (Go.Proofs.YtglgakbkdjhojaaGreat.set8 w c d0 d1 d2 d3 d4 d5 d6 d7) b n P :=
 (((((((h.other hc _).other hc _).other hc _).other hc _).other hc _).other hc _).other hc _).other hc _
theorem below_set8 {B:Nat} {w w':World} {b:Nat} (h:Below B w w') (hb:B≤b) (d0 d1 d2 d3 d4 d5 d6 d7:Nat):Below B w (set8 w' b d0 d1 d2 d3 d4 d5 d6 d7) :=
 (((((((h.setCell (p:=⟨b,0,none⟩) hb _).setCell (p:=⟨b,1,none⟩) hb _).setCell (p:=⟨b,2,none⟩) hb _).setCell (p:=⟨b,3,none⟩) hb _).setCell (p:=⟨b,4,none⟩) hb _).setCell (p:=⟨b,5,none⟩) hb _).setCell (p:=⟨b,6,none⟩) hb _).setCell (p:=⟨b,7,none⟩) hb _
theorem size_set8 (w:World) (b d0 d1 d2 d3 d4 d5 d6 d7:Nat):(set8 w b d0 d1 d2 d3 d4 d5 d6 d7).heap.size=w.heap.size:=by
 unfold set8; simp only[World.size_setCell]
theorem fnOf8_lt {x0 x1 x2 x3 x4 x5 x6 x7:Nat} (h:ok8 x0 x1 x2 x3 x4 x5 x6 x7) (k:Nat):fL [x0,x1,x2,x3,x4,x5,x6,x7] k<4294967296:=by
 obtain⟨h0,h1,h2,h3,h4,h5,h6,h7⟩:=h;unfold fL
 match k with
 | 0=>exact h0
 | 1=>exact h1
 | 2=>exact h2
 | 3=>exact h3
 | 4=>exact h4
 | 5=>exact h5
 | 6=>exact h6
 | 7=>exact h7
 | k+8=>simp
theorem val8_tot (P:Nat→Nat):xU (P 0) (P 1) (P 2) (P 3) (P 4) (P 5) (P 6) (P 7)=tot 4294967296 P 8:=by
 unfold xU;simp only[tot];omega
theorem TwoH.store {wr u:World} {p q A B x0 x1 x2 x3 x4 x5 x6 x7 y0 y1 y2 y3 y4 y5 y6 y7:Nat} (hx:ok8 x0 x1 x2 x3 x4 x5 x6 x7) (hy:ok8 y0 y1 y2 y3 y4 y5 y6 y7) (ex:Hid (xU x0 x1 x2 x3 x4 x5 x6 x7=A)) (ey:Hid (xU y0 y1 y2 y3 y4 y5 y6 y7=B))
  (lp:wr.heap.size≤p) (lq:wr.heap.size≤q) (up:p<u.heap.size) (uq:q<u.heap.size) (hpq:¬p=q) (rp:RowIs u p 8 (fun _=>0)) (rq:RowIs u q 8 (fun _=>0)) (hbl:Below wr.heap.size wr u) :
  TwoH wr (set8 (set8 u p x0 x1 x2 x3 x4 x5 x6 x7) q y0 y1 y2 y3 y4 y5 y6 y7) p q (fL [x0,x1,x2,x3,x4,x5,x6,x7]) (fL [y0,y1,y2,y3,y4,y5,y6,y7]) A B :=
 ⟨below_set8 (below_set8 hbl lp _ _ _ _ _ _ _ _) lq _ _ _ _ _ _ _ _,lp,lq,by rw[size_set8,size_set8]; exact up,by rw[size_set8,size_set8]; exact uq,hpq,
  (rp.set8 _ _ _ _ _ _ _ _).set8_other (fun e=>hpq e.symm) _ _ _ _ _ _ _ _,(rq.set8_other hpq _ _ _ _ _ _ _ _).set8 _ _ _ _ _ _ _ _,fnOf8_lt hx,fnOf8_lt hy,
  (val8_tot (fL [x0,x1,x2,x3,x4,x5,x6,x7])).symm.trans ex.out,(val8_tot (fL [y0,y1,y2,y3,y4,y5,y6,y7])).symm.trans ey.out⟩
structure RW (w wr:World) (p q o r n:Nat) (X Y P:Nat→Nat):Prop where
 below:Below w.heap.size w wr
 lo:w.heap.size≤o
 uo:o<wr.heap.size
 op:¬o=p
 oq:¬o=q
 or:¬o=r
 rowX:RowIs wr p 8 X
 rowY:RowIs wr q 8 Y
 rowH:∃H,RowIs wr r 4 H
 ur:r<wr.heap.size
 rowP:RowIs wr o n P
 lt:∀k,P k<4294967296
theorem RW.set {w wr:World} {p q o r n:Nat} {X Y P:Nat→Nat} (h:RW w wr p q o r n X Y P) {k d:Nat} (hk:k<n) (hd:d<4294967296) :
  RW w (wr.setCell ⟨o,k,none⟩ (.int .u64 (d:Nat))) p q o r n X Y (gI P k d) :=
 ⟨h.below.setCell (p:=⟨o,k,none⟩) h.lo _,h.lo,by rw[World.size_setCell]; exact h.uo,h.op,h.oq,h.or,h.rowX.other h.op _,h.rowY.other h.oq _,
  h.rowH.elim fun H x=>⟨H,x.other h.or _⟩,by rw[World.size_setCell]; exact h.ur,h.rowP.set hk,fun x=>by unfold gI; split; exact hd; exact h.lt x⟩
theorem RW.drewN {w wr:World} {p q o r n:Nat} {X Y P:Nat→Nat} (h:RW w wr p q o r n X Y P) (m:Nat):RW w (wr.drewN m) p q o r n X Y P :=
 ⟨h.below.trans (bG _ _ _),h.lo,h.uo,h.op,h.oq,h.or,h.rowX,h.rowY,h.rowH,h.ur,h.rowP,h.lt⟩
end Go.Proofs.YtglgakbkdjhojaaGreat.R1
namespace Go.Proofs.YtglgakbkdjhojaaGreat.Ex
open Go.Proofs.Tryz
open Go.RowKit
def Tab.or (T U:Tab):Tab:=fun f cs=>match T f cs with|some r=>some r|none=>U f cs
theorem TabOk.or {P:Program} {T U:Tab} (h:TabOk P T) (k:TabOk P U):TabOk P (T.or U):=by
 intro f cs pre r hg hp;unfold Tab.or at hg;split at hg
 ·rename_i x hx;cases hg;exact h f cs pre r hx hp
 ·exact k f cs pre r hg hp
theorem Holds.same {nt base:Nat} {w0:World} {A A':List Fact} {a:Act} {w:World} (h:Holds nt base w0 A a w) (hs:∀φ∈A',φ∈A∨∃k o l l',φ=.row k o l'∧.row k o l∈A∧aA l=aA l'):Holds nt base w0 A' a w:=by
 obtain⟨β,h1,h2,h3,gt⟩:=h.facts;have hr:∀k l,Fact.row k true l∈A'→∃m,Fact.row k true m∈A:=fun k l hk=>by
  rcases hs _ hk with h3|⟨k1,o,m,m',e,h3,h4⟩
  ·exact⟨l,h3⟩
  ·cases e;exact⟨m,h3⟩
 refine⟨h.defers,h.size,h.below,h.heap,β,fun φ hφ => ?_,fun k k' l l' hk hk' hne => ?_,fun k l hk=>(hr k l hk).elim fun m hm=>h3 k m hm,gt⟩
 ·rcases hs φ hφ with h3|⟨k,o,l,l',rfl,h3,h4⟩
  ·exact h1 φ h3
  ·have:=h1 _ h3;simp only[Fact.ok]at this ⊢;rw[←h4];exact this
 ·obtain⟨m,hm⟩:=hr k l hk;obtain⟨m',hm'⟩:=hr k' l' hk';exact h2 k k' m m' hm hm' hne
def aKQ (c:Bool):Tab:=(aSJ c).or (aSD c)
theorem aGV (c:Bool):TabOk prog (aKQ c):=(aWr c).or (aWl c)
theorem TK (c:Bool) (x:mX):bM prog (aKQ c) qN (fun _=>true) f114 40 [.v (.fl (rH x))]=some ([],.one (.fl (aP (aF.mul (gB x) (gB x))))):=by kernel_rfl
def yZ (c:Bool):Tab:=(aKQ c).add 114 (g1 FJ (fun x=>([],.one (.fl (aP (aF.mul x x))))))
theorem EL (c:Bool):TabOk prog (yZ c):=(aGV c).ad func114 (gZ mB fun x hp args w ha=>aH aE (aGV c) aM func114 (TK c x) hp ha)
theorem Kw (c:Bool):bM prog (yZ c) qN (fun _=>true) f94 40 []=some ([],.one (.fl (aP aF.one))):=by kernel_rfl
def NF (c:Bool):Tab:=(yZ c).add 94 (g0 (.one (.fl (aP aF.one))))
theorem QA (c:Bool):TabOk prog (NF c):=(EL c).ad func94 (gT fun w=>aH aE (EL c) aM func94 (Kw c) trivial (args:=[]) trivial)
theorem Kx (c:Bool) (x:mX) (y:mX):bM prog (NF c) qN (fun _=>true) f95 40 [.v (.fl (rH x)),.v (.fl (rH y))]=some ([],.one (.fl (aP (aF.mul (gB x) (gB y))))):=by kernel_rfl
def Hv (c:Bool):Tab:=(NF c).add 95 (g2 FJ FJ (fun x y=>([],.one (.fl (aP (aF.mul x y))))))
theorem aBY (c:Bool):TabOk prog (Hv c):=(QA c).ad func95 (gF mB mB fun x y hp args w ha=>aH aE (QA c) aM func95 (Kx c x y) hp ha)
def Hs (c:Bool):Tab:=(Hv c).add 82 Gi
theorem aBV (c:Bool):TabOk prog (Hs c):=(aBY c).ad func82 Sq
def Ht (c:Bool):Tab:=(Hs c).add 84 VZ
theorem aBW (c:Bool):TabOk prog (Ht c):=(aBV c).ad func84 Sz
def OX (L i:Nat):Int:=if i<L then Int.ofNat (L-1-i)else -1
theorem aYC {L i:Nat} (h:i<L):OX L i=Int.ofNat (L-1-i):=if_pos h
theorem aPL (L:Nat):OX L L = -1:=if_neg (Nat.lt_irrefl _)
theorem Xr {L i:Nat} (h:i≤L):OX L i=(L:Int)-1-i:=by
 unfold OX;split
 ·show ((L-1-i:Nat):Int)=_; omega
 ·omega
theorem He {L i:Nat} (h:i<L) (hL:L≤256):aI .sub .i64 (Int.ofNat (L-1-i)) 1=some (.int .i64 (OX L (i+1))):=by
 show some (Value.int .i64 (IntKind.i64.wrap (((L-1-i:Nat):Int)-1)))=_;rw[DJ _ (by omega) (by omega),Xr (show i+1≤L by omega)];congr 2; omega
theorem aCJ {L:Nat} (hL:L≤256):aI .sub .i64 (L:Nat) 1=some (.int .i64 (OX L 0)):=by
 show some (Value.int .i64 (IntKind.i64.wrap ((L:Int)-1)))=_;rw[DJ _ (by omega) (by omega),Xr (Nat.zero_le L)];congr 2; omega
def aIC:kC
 | [.v (.im (.int .i64 (.ofNat 1)))]=>some ([],.one (.fl (q1 FP.M)))
 | _=>none
theorem aWE:∀cs pre r,aIC cs=some (pre,r)→bC pre→∀(args:List Value) (w:World),bZ w cs args→Good prog 74 r args w:=by
 intro cs pre r hg hp args w ha;unfold aIC at hg;split at hg
 ·cases hg
  match args,ha with
  | [v],ha =>
   have h1:v=.int .i64 1:=ha.1;subst h1;exact (iM 1 FP oT w).mono fun e w' h=>h
  | [],ha=>exact ha.elim
  | _::_::_,ha=>exact ha.2.elim
 ·cases hg
def vN (c:Bool):Tab:=(Ht c).add 74 aIC
theorem AJ (c:Bool):TabOk prog (vN c):=(aBW c).ad func74 aWE
def rowR (x:mX):Nat→List At
 | 0=>rH x
 | i+1=>aP (fE (i+1) (gB x))
end Go.Proofs.YtglgakbkdjhojaaGreat.Ex
