/- Ea12 -/
import Derived.Laws.BitsAllLaws
import Derived.Laws.AppendOwn
import Derived.Laws.OwnMore
import Derived.Deep.LoopGhost
import Derived.Shelf.Spec.TrailingZeros
import Derived.Laws.ComplexArith
import Derived.StillTail
import Derived.RegionTactic
import Derived.KernelRfl
import Derived.LoopTactic
import Derived.Deep.DeepCutAuto
import Derived.Outline
import Derived.Test.YtpbljiejmfahcaaGreatDoorEa11
import Derived.Test.YtpbljiejmfahcaaGreatDoorEa08
import Derived.Test.YtpbljiejmfahcaaGreatDoorEa04
import Derived.Test.YtpbljiejmfahcaaGreatDoorEa10
import Derived.Test.YtpbljiejmfahcaaGreatDoorEa05
import Derived.Test.YtpbljiejmfahcaaGreatDoorEa00
import Derived.Test.YtpbljiejmfahcaaGreatDoorEa02
import Derived.Test.YtpbljiejmfahcaaGreatDoorEa03
import Derived.Test.YtpbljiejmfahcaaGreatDoorEa07
import Derived.Test.YtpbljiejmfahcaaGreatDoorProg
set_option maxRecDepth 100000
set_option linter.unusedVariables false
set_option linter.unusedSimpArgs false
set_option linter.unnecessarySimpa false
noncomputable section
namespace Go.Proofs.YtpbljiejmfahcaaGreatDoor.Ex
open Go.Proofs.Tryz
open Go.RowKit
theorem aCT (x y m:Nat):bZ prog (qG prog) (fun n=>⟨fun _=>CI true true,fun _=>true,fun _=>none⟩) f45 60 [.s [.q x,.q y] 1 m]=some ([x<aF,y<aF,nR x y=true,x<RM,y<RM,decide (CL x y)=true],.one (.im (.bool true))):=by kernel_rfl
theorem aCU (x y m:Nat):bZ prog (qG prog) (fun n=>⟨fun _=>CI true false,fun _=>true,fun _=>none⟩) f45 60 [.s [.q x,.q y] 1 m]=some ([x<aF,y<aF,nR x y=true,x<RM,y<RM,decide (CL x y)=false],.one (.im (.bool false))):=by kernel_rfl
theorem aCV (x y m:Nat):bZ prog (qG prog) (fun n=>⟨fun _=>CI false false,fun _=>true,fun _=>none⟩) f45 60 [.s [.q x,.q y] 1 m]=some ([x<aF,y<aF,nR x y=false],.one (.im (.bool false))):=by kernel_rfl
theorem aCO (x y u v m:Nat):bZ prog (qG prog) (fun n=>⟨fun _=>CI true true,fun _=>true,fun _=>none⟩) f45 60 [.s [.q x,.q y,.q u,.q v] 2 m]=some ([x<aF,y<aF,nR x y=true,x<RM,y<RM,decide (CL x y)=true,u<aF,v<aF,nR u v=true,u<RM,v<RM,decide (CL u v)=true],.one (.im (.bool true))):=by kernel_rfl
theorem aCR (x y u v m:Nat):bZ prog (qG prog) (fun n=>⟨fun _=>CI true false,fun _=>true,fun _=>none⟩) f45 60 [.s [.q x,.q y,.q u,.q v] 2 m]=some ([x<aF,y<aF,nR x y=true,x<RM,y<RM,decide (CL x y)=false],.one (.im (.bool false))):=by kernel_rfl
theorem aCS (x y u v m:Nat):bZ prog (qG prog) (fun n=>⟨fun _=>CI false false,fun _=>true,fun _=>none⟩) f45 60 [.s [.q x,.q y,.q u,.q v] 2 m]=some ([x<aF,y<aF,nR x y=false],.one (.im (.bool false))):=by kernel_rfl
theorem aCP (x y u v m:Nat):bZ prog (qG prog) (fun n=>⟨fun _=>CI true (Nat.blt 47 n),fun _=>true,fun _=>none⟩) f45 60 [.s [.q x,.q y,.q u,.q v] 2 m]=some ([x<aF,y<aF,nR x y=true,x<RM,y<RM,decide (CL x y)=true,u<aF,v<aF,nR u v=true,u<RM,v<RM,decide (CL u v)=false],.one (.im (.bool false))):=by kernel_rfl
theorem aCQ (x y u v m:Nat):bZ prog (qG prog) (fun n=>⟨fun _=>CI (Nat.blt 47 n) true,fun _=>true,fun _=>none⟩) f45 60 [.s [.q x,.q y,.q u,.q v] 2 m]=some ([x<aF,y<aF,nR x y=true,x<RM,y<RM,decide (CL x y)=true,u<aF,v<aF,nR u v=false],.one (.im (.bool false))):=by kernel_rfl
def iY (x y:Nat):Bool:=decide (OnJ x y)
theorem yJ {x y:Nat} (h:OnJ x y):iY x y=true:=decide_eq_true h
theorem oG {x y:Nat}:iY x y=true↔OnJ x y:=⟨of_decide_eq_true,decide_eq_true⟩
theorem sN (x y:Nat):(iY x y=true∧nR x y=true∧x<RM∧y<RM∧decide (CL x y)=true)∨(iY x y=false∧nR x y=true∧x<RM∧y<RM∧decide (CL x y)=false)∨(iY x y=false∧nR x y=false):=by
 by_cases h:x<RM∧y<RM
 ·by_cases k:CL x y
  ·exact Or.inl ⟨decide_eq_true ⟨h,k⟩,decide_eq_true h,h.1,h.2,decide_eq_true k⟩
  ·exact Or.inr (Or.inl ⟨decide_eq_false fun q=>k q.2,decide_eq_true h,h.1,h.2,decide_eq_false k⟩)
 ·exact Or.inr (Or.inr ⟨decide_eq_false fun q=>h q.1,decide_eq_false h⟩)
theorem TY (x y m:Nat) (hx:x<aF) (hy:y<aF) (args:List Value) (w:World) (ha:cD w [.s [.q x,.q y] 1 m] args):bD prog 45 (.one (.im (.bool (iY x y)))) args w:=by
 rcases sN x y with⟨e,h1,h2,h3,h4⟩|⟨e,h1,h2,h3,h4⟩|⟨e,h1⟩
 ·rw[e];exact aP aI (fun _ _=>tH _ _) (aW _) func45 (aCT x y m) ⟨hx,hy,h1,h2,h3,h4,trivial⟩ ha
 ·rw[e];exact aP aI (fun _ _=>tH _ _) (aW _) func45 (aCU x y m) ⟨hx,hy,h1,h2,h3,h4,trivial⟩ ha
 ·rw[e];exact aP aI (fun _ _=>tH _ _) (aW _) func45 (aCV x y m) ⟨hx,hy,h1,trivial⟩ ha
theorem TX (x y u v m:Nat) (hx:x<aF) (hy:y<aF) (hu:u<aF) (hv:v<aF) (args:List Value) (w:World) (ha:cD w [.s [.q x,.q y,.q u,.q v] 2 m] args):bD prog 45 (.one (.im (.bool (iY x y&&iY u v)))) args w:=by
 rcases sN x y with⟨e,h1,h2,h3,h4⟩|⟨e,h1,h2,h3,h4⟩|⟨e,h1⟩
 ·rw[e,Bool.true_and]
  rcases sN u v with⟨e',k1,k2,k3,k4⟩|⟨e',k1,k2,k3,k4⟩|⟨e',k1⟩
  ·rw[e'];exact aP aI (fun _ _=>tH _ _) (aW _) func45 (aCO x y u v m) ⟨hx,hy,h1,h2,h3,h4,hu,hv,k1,k2,k3,k4,trivial⟩ ha
  ·rw[e'];exact aP aI (fun _ _=>tH _ _) (aW _) func45 (aCP x y u v m) ⟨hx,hy,h1,h2,h3,h4,hu,hv,k1,k2,k3,k4,trivial⟩ ha
  ·rw[e'];exact aP aI (fun _ _=>tH _ _) (aW _) func45 (aCQ x y u v m) ⟨hx,hy,h1,h2,h3,h4,hu,hv,k1,trivial⟩ ha
 ·rw[e,Bool.false_and];exact aP aI (fun _ _=>tH _ _) (aW _) func45 (aCR x y u v m) ⟨hx,hy,h1,h2,h3,h4,trivial⟩ ha
 ·rw[e,Bool.false_and];exact aP aI (fun _ _=>tH _ _) (aW _) func45 (aCS x y u v m) ⟨hx,hy,h1,trivial⟩ ha
def aCq (b:Bool):List Nat→List Prop×RV
 | [x,y]=>([x<aF,y<aF,iY x y=b],.one (.im (.bool b)))
 | _=>([False],.one (.im (.bool b)))
def aCp (b:Bool):List Nat→List Prop×RV
 | [x,y,u,v]=>([x<aF,y<aF,u<aF,v<aF,(iY x y&&iY u v)=b],.one (.im (.bool b)))
 | _=>([False],.one (.im (.bool b)))
theorem aBk (b:Bool):∀cs pre r,Mm 1 (aCq b) cs=some (pre,r)→aT pre→∀(args:List Value) (w:World),cD w cs args→bD prog 45 r args w :=
 LK fun x m hp args w ha=>by
  match x,hp,ha with
  | [x,y],hp,ha =>
   have h:=TY x y m hp.1 hp.2.1 args w ha;rw[hp.2.2.1]at h;exact h
  | [],hp,_=>exact hp.1.elim
  | [_],hp,_=>exact hp.1.elim
  | _::_::_::_,hp,_=>exact hp.1.elim
theorem aBj (b:Bool):∀cs pre r,Mm 2 (aCp b) cs=some (pre,r)→aT pre→∀(args:List Value) (w:World),cD w cs args→bD prog 45 r args w :=
 LK fun x m hp args w ha=>by
  match x,hp,ha with
  | [x,y,u,v],hp,ha =>
   have h:=TX x y u v m hp.1 hp.2.1 hp.2.2.1 hp.2.2.2.1 args w ha;rw[hp.2.2.2.2.1]at h;exact h
  | [],hp,_=>exact hp.1.elim
  | [_],hp,_=>exact hp.1.elim
  | [_,_],hp,_=>exact hp.1.elim
  | [_,_,_],hp,_=>exact hp.1.elim
  | _::_::_::_::_::_,hp,_=>exact hp.1.elim
def QF (b:Bool):Tab:=oV.add 45 (Mm 1 (aCq b))
theorem KJ (b:Bool):TabOk prog (QF b):=jL.add func45 (by kernel_rfl) (by kernel_rfl) (aBk b)
def Da (b:Bool):Tab:=oV.add 45 (Mm 2 (aCp b))
theorem YB (b:Bool):TabOk prog (Da b):=jL.add func45 (by kernel_rfl) (by kernel_rfl) (aBj b)
def CG (p q:NP):NP:=tld (yO (p.1,p.2,1) (q.1,q.2,1))
def kT (p:NP):NP:=(oC 0 p.1,p.2)
abbrev UQ:List At:=[.f ⟨0,cS⟩,.f ⟨0,cS⟩]
abbrev w2 (p:NP):Prop:=p.1<aF∧p.2<aF
def wH (p:NP) (e:Int):RV:=.many [.fl [.q p.1,.q p.2],.im (.int .i64 e)]
theorem aCW (p q:NP):bZ prog (qG prog) (fun n=>⟨fun _=>Da false,fun _=>true,fun _=>none⟩) f50 60 [.v (.fl [.q p.1,.q p.2]),.v (.fl [.q q.1,.q q.2])]=some ([p.1<aF,p.2<aF,q.1<aF,q.2<aF,(iY p.1 p.2&&iY q.1 q.2)=false],.many [.fl UQ,.im (.int .i64 41)]):=by kernel_rfl
theorem Yz (p:NP):bZ prog (qG prog) (fun n=>⟨fun _=>QF false,fun _=>true,fun _=>none⟩) f49 60 [.v (.fl [.q p.1,.q p.2])]=some ([p.1<aF,p.2<aF,iY p.1 p.2=false],.many [.fl UQ,.im (.int .i64 41)]):=by kernel_rfl
theorem Yy (p:NP):bZ prog (qG prog) (fun n=>⟨fun _=>QF true,fun _=>true,fun _=>none⟩) f49 60 [.v (.fl [.q p.1,.q p.2])]=some ([p.1<aF,p.2<aF,iY p.1 p.2=true,p.1<RM],wH (kT p) 0):=by kernel_rfl
theorem Uq (p q:NP):bZ prog (qG prog) (fun n=>⟨fun _=>Da true,fun _=>true,fun _=>none⟩) f50 60 [.v (.fl [.q p.1,.q p.2]),.v (.fl [.q q.1,.q q.2])]=some ([p.1<aF,p.2<aF,q.1<aF,q.2<aF,(iY p.1 p.2&&iY q.1 q.2)=true,p.1<RM,p.2<RM,1<RM,q.1<RM,q.2<RM,1<RM,(yO (p.1,p.2,1) (q.1,q.2,1)).1<RM,(yO (p.1,p.2,1) (q.1,q.2,1)).2.1<RM,(yO (p.1,p.2,1) (q.1,q.2,1)).2.2<RM,(yO (p.1,p.2,1) (q.1,q.2,1)).2.2≠0],wH (CG p q) 0):=by kernel_rfl
def cj (P:JP):NP:=(P.1.1.1,P.1.2.1)
theorem kH (P:JP):OnJ (cj P).1 (cj P).2:=P.on
theorem GD (P:JP):jp (kH P)=P:=Zr P _
theorem QD {p q:NP} (hp:OnJ p.1 p.2) (hq:OnJ q.1 q.2):CG p q=cj (eO.grp.add (jp hp) (jp hq)):=((lV hp).pl (lV hq)).tld
theorem OZ {p:NP} (hp:OnJ p.1 p.2):kT p=cj (eO.grp.neg (jp hp)):=by
 refine Prod.ext ?_ (Zq hp).symm;show oC 0 p.1=(0+RM-(iU p.1).1)%RM;rw[lK hp.1.1];rfl
theorem OnJ.w {x y:Nat} (h:OnJ x y):x<aF∧y<aF:=⟨kO h.1.1,kO h.1.2⟩
theorem ND (p q:NP) (hp:w2 p) (hq:w2 q) (args:List Value) (w:World) (ha:cD w [.v (.fl (q2 p)),.v (.fl (q2 q))] args):bD prog 50 (if (iY p.1 p.2&&iY q.1 q.2)=true then wH (CG p q) 0 else wH (0,0) 41) args w:=by
 cases h:(iY p.1 p.2&&iY q.1 q.2)
 ·exact aP aI (fun _ _=>YB _) (aW _) func50 (aCW p q) ⟨hp.1,hp.2,hq.1,hq.2,h,trivial⟩ ha
 ·have h':=h;rw[Bool.and_eq_true]at h';have h1:=oG.1 h'.1;have h2:=oG.1 h'.2;exact aP aI (fun _ _=>YB _) (aW _) func50 (Uq p q) ⟨hp.1,hp.2,hq.1,hq.2,h,h1.1.1,h1.1.2,fF,h2.1.1,h2.1.2,fF,aK _ _,aK _ _,aK _ _,((lV h1).pl (lV h2)).nz,trivial⟩ ha
theorem KQ (p:NP) (hp:w2 p) (args:List Value) (w:World) (ha:cD w [.v (.fl (q2 p))] args):bD prog 49 (if iY p.1 p.2=true then wH (kT p) 0 else wH (0,0) 41) args w:=by
 cases h:iY p.1 p.2
 ·exact aP aI (fun _ _=>KJ _) (aW _) func49 (Yz p) ⟨hp.1,hp.2,h,trivial⟩ ha
 ·exact aP aI (fun _ _=>KJ _) (aW _) func49 (Yy p) ⟨hp.1,hp.2,h,(oG.1 h).1.1,trivial⟩ ha
def gNx (a b c:NJ):gE
 | [.v (.fl l),.v (.fl m)]=>some ([aA l=aA (q3 a),aA m=aA (q3 b)],.one (.fl (q3 c)))
 | _=>none
def UH (p:NJ):Prop:=p.1<RM∧p.2.1<RM∧p.2.2<RM
theorem aBb {a b c:NJ} (ha:UH a) (hb:UH b) (hc:c=yO a b):∀cs pre r,gNx a b c cs=some (pre,r)→aT pre→∀(args:List Value) (w:World),cD w cs args→bD prog 80 r args w:=by
 intro cs pre r hg hp args w h;unfold gNx at hg;split at hg
 ·rename_i l m;cases hg
  match args,h with
  | [v,u],h =>
   have h1:v=.agg (aA l).toArray:=h.1;have h2:u=.agg (aA m).toArray:=h.2.1;rw[hp.1]at h1;rw[hp.2.1]at h2;subst h1; subst h2; subst hc;exact cG aI tI (aW _) func80 (GB a b) (⟨ha.2.2,hb.2.2,ha.1,hb.1,ha.2.1,hb.2.1,(aK _ _),(aK _ _),(aK _ _),(aK _ _),(aK _ _),(aK _ _),(aK _ _),(aK _ _),ha.1,ha.2.1,hb.1,hb.2.1,(cR _ _),(cR _ _),(aK _ _),(aK _ _),(dZ _ _),(aK _ _),(aK _ _),(dZ _ _),(aK _ _),(dZ _ _),(aK _ _),(cR _ _),(aK _ _),(aK _ _),(aK _ _),(aK _ _),(dZ _ _),(dZ _ _),(cR _ _),trivial⟩) (args:=[_,_]) ⟨rfl,rfl,trivial⟩
  | [],h=>exact h.elim
  | [_],h=>exact h.2.elim
  | _::_::_::_,h=>exact h.2.2.elim
 ·cases hg
def gNd (a c:NJ):gE
 | [.v (.fl l)]=>some ([aA l=aA (q3 a)],.one (.fl (q3 c)))
 | _=>none
theorem aFo {a c:NJ} (ha:UH a) (hc:c=ZR a):∀cs pre r,gNd a c cs=some (pre,r)→aT pre→∀(args:List Value) (w:World),cD w cs args→bD prog 78 r args w:=by
 intro cs pre r hg hp args w h;unfold gNd at hg;split at hg
 ·rename_i l;cases hg
  match args,h with
  | [v],h =>
   have h1:v=.agg (aA l).toArray:=h.1;rw[hp.1]at h1;subst h1; subst hc;exact cG aI tI (aW _) func78 (vT a) (⟨ha.1,ha.2.1,ha.2.2,ha.1,ha.2.1,(cR _ _),(aK _ _),(aK _ _),(dZ _ _),(aK _ _),(aK _ _),(aK _ _),(aK _ _),(aK _ _),(aK _ _),(cR _ _),(cR _ _),(dZ _ _),(dZ _ _),(aK _ _),(aK _ _),(cR _ _),(dZ _ _),(cR _ _),(dZ _ _),trivial⟩) (args:=[_]) ⟨rfl,trivial⟩
  | [],h=>exact h.elim
  | _::_::_,h=>exact h.2.elim
 ·cases hg
end Go.Proofs.YtpbljiejmfahcaaGreatDoor.Ex
namespace Go.Proofs.YtpbljiejmfahcaaGreatDoor
open Go.Proofs.Tryz
open Go.RowKit
def FwPost (x:Nat) (w:World) (e:Ending) (w':World):Prop:=e=.returned (.agg #[.int .u64 (fw x 0:Nat),.int .u64 (fw x 1:Nat),.int .u64 (fw x 2:Nat),.int .u64 (fw x 3:Nat)])∧Below w.heap.size w w'
theorem FwPost.of {x:Nat} {w:World} {e:Ending} {w':World} (hx:x<FP.M) (h:jQ x w e w'):FwPost x w e w':=by
 obtain⟨s0,s1,s2,s3,rfl,hs,hv,hb⟩:=h;obtain⟨rfl,rfl,rfl,rfl⟩:=jN hs (aAL hx) hv;exact⟨rfl,hb⟩
end Go.Proofs.YtpbljiejmfahcaaGreatDoor
namespace Go.Proofs.YtpbljiejmfahcaaGreatDoor.Ex
open Go.Proofs.Tryz
open Go.RowKit
theorem aCL {l:List At} {args:List Value} {w:World} (h:cD w [.v (.fl l)] args):args=[.agg (aA l).toArray]:=by
 match args,h with
 | [v],h=>rw[show v=_ from h.1]; rfl
 | [],h=>exact h.elim
 | _::_::_,h=>exact h.2.elim
def lw (x:List Fq) (k i:Nat):Nat:=fw ((x[k]?).getD F1.zero).1 i
def qY (n:Nat):Nat:=if wv n=0 then 0 else Nat.log2 (wv n)+1
theorem AY (n:Nat):LenIs (wv n) (qY n):=by
 unfold qY
 by_cases h:wv n=0
 ·rw[if_pos h,h]; exact⟨by decide,fun h=>by cases h⟩
 ·rw[if_neg h];exact⟨Nat.lt_log2_self,fun _=>by rw[Nat.add_sub_cancel]; exact Nat.log2_self_le h⟩
theorem Lp (n:Nat):wv n<2^256:=by
 obtain⟨h0,h1,h2,h3⟩:=fH n;unfold wv aC;have:(2:Nat)^256=115792089237316195423570985008687907853269984665640564039457584007913129639936:=by decide
 omega
theorem PB (n:Nat):qY n≤256:=by
 rcases Nat.lt_or_ge 256 (qY n)with h|h
 ·have h1:=(AY n).2 (by omega);have h2:=Nat.pow_le_pow_right (show 0<2 by omega) (show 256≤qY n-1 by omega);have:=Lp n;omega
 ·exact h
def Sd:gE
 | [.v (.fl l)]=>match uC l with
  | some n=>some ([],.one (.im (.int .i64 (qY n:Nat))))
  | none=>none
 | _=>none
theorem Qz:∀cs pre r,Sd cs=some (pre,r)→aT pre→∀(args:List Value) (w:World),cD w cs args→bD prog 77 r args w:=by
 intro cs pre r hg hp args w ha;unfold Sd at hg;split at hg
 ·rename_i l;split at hg
  ·rename_i n hn;cases hg;rw[aCL ha,eE l _ hn];refine (sQ _ _ _ _ (fH n) w).mono ?_
   rintro e w' ⟨L,rfl,_,h,hbl⟩
   cases h.uniq (AY n);exact⟨rfl,hbl⟩
  ·cases hg
 ·cases hg
def Rw:gE
 | [.v (.fl l),.v (.im (.int .i64 (.ofNat k)))]=>match uC l with
  | some n=>some ([k<9223372036854775808],.one (.fl (q1 (wv n/2^k))))
  | none=>none
 | _=>none
theorem Ou:∀cs pre r,Rw cs=some (pre,r)→aT pre→∀(args:List Value) (w:World),cD w cs args→bD prog 79 r args w:=by
 intro cs pre r hg hp args w ha;unfold Rw at hg;split at hg
 ·rename_i l k;split at hg
  ·rename_i n hn;cases hg
   match args,ha with
   | [v,u],ha =>
    have h1:v=.agg (aA l).toArray:=ha.1;have h2:u=.int .i64 (Int.ofNat k):=ha.2.1;rw[eE l _ hn]at h1;subst h1; subst h2;have hk:k<9223372036854775808:=hp.1;refine (oA _ _ _ _ (Int.ofNat k) (fH n) (by simp) (by simp; omega) w).mono ?_
    rintro e w' ⟨s0,s1,s2,s3,rfl,hs,hv,hb⟩
    have hlt:wv n/2^k<115792089237316195423570985008687907853269984665640564039457584007913129639936:=by
     refine Nat.lt_of_le_of_lt (Nat.div_le_self _ _) ?_;have:=Lp n;have e:(2:Nat)^256=115792089237316195423570985008687907853269984665640564039457584007913129639936:=by decide
     omega
    obtain⟨rfl,rfl,rfl,rfl⟩:=jN hs hlt hv;exact⟨rfl,hb⟩
   | [],ha=>exact ha.elim
   | [_],ha=>exact ha.2.elim
   | _::_::_::_,ha=>exact ha.2.2.elim
  ·cases hg
 ·cases hg
def mt (p:NJ):Nat→NJ
 | 0=>(0,1,1)
 | k+1=>yO (mt p k) p
theorem Mg (p:NJ):∀k,UH (mt p k)
 | 0=>⟨fW,fF,fF⟩
 | k+1=>⟨aK _ _,aK _ _,aK _ _⟩
def Hr (p:NJ):List At:=[.q (mt p 0).1,.q (mt p 0).2.1,.q (mt p 0).2.2,.q (mt p 1).1,.q (mt p 1).2.1,.q (mt p 1).2.2,.q (mt p 2).1,.q (mt p 2).2.1,.q (mt p 2).2.2,.q (mt p 3).1,.q (mt p 3).2.1,.q (mt p 3).2.2,.q (mt p 4).1,.q (mt p 4).2.1,.q (mt p 4).2.2,.q (mt p 5).1,.q (mt p 5).2.1,.q (mt p 5).2.2,.q (mt p 6).1,.q (mt p 6).2.1,.q (mt p 6).2.2,.q (mt p 7).1,.q (mt p 7).2.1,.q (mt p 7).2.2,.q (mt p 8).1,.q (mt p 8).2.1,.q (mt p 8).2.2,.q (mt p 9).1,.q (mt p 9).2.1,.q (mt p 9).2.2,.q (mt p 10).1,.q (mt p 10).2.1,.q (mt p 10).2.2,.q (mt p 11).1,.q (mt p 11).2.1,.q (mt p 11).2.2,.q (mt p 12).1,.q (mt p 12).2.1,.q (mt p 12).2.2,.q (mt p 13).1,.q (mt p 13).2.1,.q (mt p 13).2.2,.q (mt p 14).1,.q (mt p 14).2.1,.q (mt p 14).2.2,.q (mt p 15).1,.q (mt p 15).2.1,.q (mt p 15).2.2]
def aDa (p:NJ) (n:Nat):Tab:=oV.add 80 (gNx (mt p (49-n)) p (mt p (49-n+1)))
theorem Yq {p:NJ} (h:UH p) (n:Nat):TabOk prog (aDa p n):=jL.add func80 (by kernel_rfl) (by kernel_rfl) (aBb (Mg p _) h rfl)
theorem Qv (p:NJ):bZ prog (qG prog) (fun n=>⟨fun _=>aDa p n,fun _=>true,fun _=>none⟩) f75 60 [.v (.fl (q3 p))]=some ([aA (q3 (mt p 0))=aA (q3 (mt p 0)),aA (q3 p)=aA (q3 p),aA (q3 (mt p 1))=aA (q3 (mt p 1)),aA (q3 p)=aA (q3 p),aA (q3 (mt p 2))=aA (q3 (mt p 2)),aA (q3 p)=aA (q3 p),aA (q3 (mt p 3))=aA (q3 (mt p 3)),aA (q3 p)=aA (q3 p),aA (q3 (mt p 4))=aA (q3 (mt p 4)),aA (q3 p)=aA (q3 p),aA (q3 (mt p 5))=aA (q3 (mt p 5)),aA (q3 p)=aA (q3 p),aA (q3 (mt p 6))=aA (q3 (mt p 6)),aA (q3 p)=aA (q3 p),aA (q3 (mt p 7))=aA (q3 (mt p 7)),aA (q3 p)=aA (q3 p),aA (q3 (mt p 8))=aA (q3 (mt p 8)),aA (q3 p)=aA (q3 p),aA (q3 (mt p 9))=aA (q3 (mt p 9)),aA (q3 p)=aA (q3 p),aA (q3 (mt p 10))=aA (q3 (mt p 10)),aA (q3 p)=aA (q3 p),aA (q3 (mt p 11))=aA (q3 (mt p 11)),aA (q3 p)=aA (q3 p),aA (q3 (mt p 12))=aA (q3 (mt p 12)),aA (q3 p)=aA (q3 p),aA (q3 (mt p 13))=aA (q3 (mt p 13)),aA (q3 p)=aA (q3 p),aA (q3 (mt p 14))=aA (q3 (mt p 14)),aA (q3 p)=aA (q3 p)],.one (.fl (Hr p))):=by kernel_rfl
def gMu:gE:=g1 Fw fun p=>([p.1<RM,p.2.1<RM,p.2.2<RM],.one (.fl (Hr p)))
theorem aFp:∀cs pre r,gMu cs=some (pre,r)→aT pre→∀(args:List Value) (w:World),cD w cs args→bD prog 75 r args w :=
 mH (op:=fun p=>([p.1<RM,p.2.1<RM,p.2.2<RM],.one (.fl (Hr p)))) pE fun p h args w ha=>aP aI (fun n _=>Yq ⟨h.1,h.2.1,h.2.2.1⟩ n) (aW _) func75 (Qv p) ⟨rfl,rfl,rfl,rfl,rfl,rfl,rfl,rfl,rfl,rfl,rfl,rfl,rfl,rfl,rfl,rfl,rfl,rfl,rfl,rfl,rfl,rfl,rfl,rfl,rfl,rfl,rfl,rfl,rfl,rfl,trivial⟩ ha
def Lc:Tab:=((oV.add 75 gMu).add 77 Sd).add 79 Rw
theorem Mc:TabOk prog Lc:=((jL.add func75 (by kernel_rfl) (by kernel_rfl) aFp).add func77 (by kernel_rfl) (by kernel_rfl) Qz).add func79 (by kernel_rfl) (by kernel_rfl) Ou
def fO:Code:=(f47.body).getD .skip
def JC:Code:=kD (kD (cB (cA (cB (cB (cB (cB fO)))))))
theorem El:fO=.seq (cA fO) (.seq (cA (cB fO)) (.seq (cA (cB (cB fO))) (.seq (cA (cB (cB (cB fO)))) (.seq (.seq (cA (cA (cB (cB (cB (cB fO)))))) (.block 0 (.loop JC))) (cB (cB (cB (cB (cB fO))))))))):=by kernel_rfl
def aDM:List At:=[.f ⟨0,cS⟩,.f ⟨0,cS⟩,.f ⟨0,cS⟩]
def tiA (p:NJ) (n:Nat):List Fact:=[.slot 2 (.pt 2 0),.row 2 true (q3 p),.slot 3 (.pt 3 0),.row 3 true [.q n],.slot 4 (.pt 4 0),.row 4 true aDM]
def tiB (p:NJ) (n:Nat):List Fact:=tiA p n++[.slot 5 (.pt 5 0),.row 5 true (Hr p)]
def tiC (p:NJ) (n:Nat) (s:NJ):List Fact:=tiB p n++[.slot 6 (.pt 6 0),.row 6 true (q3 s)]
def tiD (p:NJ) (n PL:Nat) (s:NJ):List Fact:=tiC p n s++[.slot 7 (.im (iI PL))]
def VO (p:NJ) (n PL i:Nat) (s:NJ):List Fact:=tiD p n PL s++[.slot 20 (.im (iI PL)),.slot 21 (.im (iI i))]
def Od (num:Nat→Option Value) (_:Nat):Cfg:=⟨fun _=>Lc,fun _=>true,num⟩
def dk (s:NJ):Nat→NJ
 | 0=>s
 | j+1=>ZR (dk s j)
theorem Mq {s:NJ} (h:UH s):∀j,UH (dk s j)
 | 0=>h
 | j+1=>⟨aK _ _,aK _ _,aK _ _⟩
def Nc (p s:NJ) (k m:Nat):Tab:=(Lc.add 78 (gNd (dk s (46-m)) (dk s (46-m+1)))).add 80 (gNx (dk s 4) (mt p k) (yO (dk s 4) (mt p k)))
theorem Qq {p s:NJ} (hs:UH s) (k m:Nat):TabOk prog (Nc p s k m):=(Mc.add func78 (by kernel_rfl) (by kernel_rfl) (aFo (Mq hs _) rfl)).add func80 (by kernel_rfl) (by kernel_rfl) (aBb (Mq hs _) (Mg p _) rfl)
def rdC (p s:NJ) (PL i k m:Nat):Cfg:=⟨fun _=>Nc p s k m,fun _=>true,assoc [(22,.bool true),(30,iI (PL-1)),(32,iI (PL-1-i)),(35,iI ((PL-1-i)*4)),(38,.int .u64 (Int.ofNat k)),(44,iI (i+1))]⟩
def Vi (s:NJ):Prop:=aA (q3 s)=aA (q3 s)
def tiP (p s:NJ) (n PL i k:Nat):List Prop:=[aN .lss .i64 (Int.ofNat i) (Int.ofNat PL)=some (.bool true),Vi s,Vi (dk s 1),Vi (dk s 2),Vi (dk s 3),aN .sub .i64 (Int.ofNat PL) 1=some (iI (PL-1)),aN .sub .i64 (Int.ofNat (PL-1)) (Int.ofNat i)=some (iI (PL-1-i)),aN .mul .i64 (Int.ofNat (PL-1-i)) 4=some (iI ((PL-1-i)*4)),(PL-1-i)*4<9223372036854775808,aN .rem .u64 (fw (wv n/2^((PL-1-i)*4)) 0:Nat) 16=some (.int .u64 (Int.ofNat k)),Int.ofNat k=Int.ofNat k,k<16,Vi (dk s 4),Vi (mt p k),aN .add .i64 (Int.ofNat i) 1=some (iI (i+1))]
theorem Ws (w:World) (p s:NJ) (n PL i:Nat):∀k,k<16→bE prog { qG prog with x:=xO w (assoc [(41,k)]) (fun _=>none) (fun _=>none) } f47.ntmps (rdC p s PL i k) 60 JC (VO p n PL i s) (VO p n PL (i+1) (yO (dk s 4) (mt p k)))=some (tiP p s n PL i k,.nrm,VO p n PL (i+1) (yO (dk s 4) (mt p k)))
 | 0,_=>by kernel_rfl
 | 1,_=>by kernel_rfl
 | 2,_=>by kernel_rfl
 | 3,_=>by kernel_rfl
 | 4,_=>by kernel_rfl
 | 5,_=>by kernel_rfl
 | 6,_=>by kernel_rfl
 | 7,_=>by kernel_rfl
 | 8,_=>by kernel_rfl
 | 9,_=>by kernel_rfl
 | 10,_=>by kernel_rfl
 | 11,_=>by kernel_rfl
 | 12,_=>by kernel_rfl
 | 13,_=>by kernel_rfl
 | 14,_=>by kernel_rfl
 | 15,_=>by kernel_rfl
 | k+16,h=>absurd h (by omega)
theorem Wq (p:NJ) (n:Nat):bE prog (qG prog) f47.ntmps (Od fun _=>none) 40 (cA fO) (fT 0 [.v (.fl (q3 p)),.v (.fl [.q n])]) (tiA p n)=some ([],.nrm,tiA p n):=by kernel_rfl
theorem Wp (p:NJ) (n:Nat):bE prog (qG prog) f47.ntmps (Od fun _=>none) 40 (cA (cB fO)) (tiA p n) (tiB p n)=some ([p.1<RM,p.2.1<RM,p.2.2<RM],.nrm,tiB p n):=by kernel_rfl
theorem Wo (p:NJ) (n:Nat):bE prog (qG prog) f47.ntmps (Od fun _=>none) 40 (cA (cB (cB fO))) (tiB p n) (tiC p n (0,1,1))=some ([],.nrm,tiC p n (0,1,1)):=by kernel_rfl
theorem Wn (p:NJ) (n PL:Nat):bE prog (qG prog) f47.ntmps (Od (assoc [(17,iI (qY n+4)),(18,iI (qY n+4-1)),(19,iI PL)])) 40 (cA (cB (cB (cB fO)))) (tiC p n (0,1,1)) (tiD p n PL (0,1,1))=some ([aN .add .i64 (qY n:Nat) 4=some (iI (qY n+4)),aN .sub .i64 (Int.ofNat (qY n+4)) 1=some (iI (qY n+4-1)),aN .quo .i64 (Int.ofNat (qY n+4-1)) 4=some (iI PL)],.nrm,tiD p n PL (0,1,1)):=by kernel_rfl
theorem Wm (p:NJ) (n PL:Nat):bE prog (qG prog) f47.ntmps (Od fun _=>none) 40 (cA (cA (cB (cB (cB (cB fO)))))) (tiD p n PL (0,1,1)) (VO p n PL 0 (0,1,1))=some ([],.nrm,VO p n PL 0 (0,1,1)):=by kernel_rfl
theorem Oc (p:NJ) (n PL i:Nat) (s:NJ):bE prog (qG prog) f47.ntmps (Od (assoc [(22,.bool false)])) 60 JC (VO p n PL i s) (VO p n PL i s)=some ([aN .lss .i64 (Int.ofNat i) (Int.ofNat PL)=some (.bool false)],.ex 0,VO p n PL i s):=by kernel_rfl
theorem Ek (p:NJ) (n PL i:Nat) (s:NJ):bE prog (qG prog) f47.ntmps (Od fun _=>none) 40 (cB (cB (cB (cB (cB fO))))) (VO p n PL i s) [.slot 4 (.pt 4 0),.row 4 true (q3 s)]=some ([],.rt,[.slot 4 (.pt 4 0),.row 4 true (q3 s)]):=by kernel_rfl
def Vm (n pl:Nat):Nat:=fw (wv n/2^(pl*4)) 0%16
def Uz (p:NJ) (n PL:Nat):Nat→NJ
 | 0=>(0,1,1)
 | i+1=>yO (dk (Uz p n PL i) 4) (mt p (Vm n (PL-1-i)))
theorem Ol (p:NJ) (n PL:Nat):∀i,UH (Uz p n PL i)
 | 0=>⟨fW,fF,fF⟩
 | i+1=>⟨aK _ _,aK _ _,aK _ _⟩
theorem Hl {x:Nat} (h:x<18446744073709551616):aN .rem .u64 (x:Nat) 16=some (.int .u64 (Int.ofNat (x%16))):=by
 show (if (16:Int)=0 then none else some (Value.int .u64 ((Int.ofNat x).tmod 16)))=_;rw[if_neg (by decide)];rfl
def vF (n:Nat):Nat:=(qY n+3)/4
theorem Qb (n:Nat):vF n≤64:=by
 have:=PB n;unfold vF;omega
def xE (p:NJ) (n:Nat):NJ:=Uz p n (vF n) (vF n)
theorem zR (p:NJ) (n:Nat) (hp:UH p) (args:List Value) (w0:World) (ha:cD w0 [.v (.fl (q3 p)),.v (.fl [.q n])] args):bD prog 47 (.one (.fl (q3 (xE p n)))) args w0:=by
 have hG:bO prog (qG prog) w0.heap.size w0:=(aW _).w _ _;have hT:∀n d:Nat,TabOkW prog Lc w0.heap.size w0:=fun _ _=>Mc.w _ _
 refine cQ func47 (c:=fO) rfl ha (Nat.le_of_ble_eq_true (by kernel_rfl)) fun a w' hA => ?_
 have hl:=PB n;have hPL:=Qb n;rw[El];refine wp_seq (aB aI hT hG (Wq p n) trivial hA fun a w' hA => ?_);refine wp_seq (aB aI hT hG (Wp p n) ⟨hp.1,hp.2.1,hp.2.2,trivial⟩ hA fun a w' hA => ?_);refine wp_seq (aB aI hT hG (Wo p n) trivial hA fun a w' hA => ?_);refine wp_seq (aB aI hT hG (Wn p n (vF n)) ⟨gM (k:=4) (by omega),qT (k:=1) (by omega) (by omega),YC (k:=4) (by omega) (by omega),trivial⟩ hA fun a w' hA => ?_);refine wp_seq (wp_seq (aB aI hT hG (Wm p n (vF n)) trivial hA fun a w' hA => ?_));refine wp_block ?_;refine kE aI (fun i=>VO p n (vF n) i (Uz p n (vF n) i)) (vF n) (fun i hi => ?_) (.ex 0) (by simp) (VO p n (vF n) (vF n) (xE p n)) ⟨_,_,_,_,hG,hT,Oc p n (vF n) (vF n) _,dS (Nat.le_refl _),trivial⟩ hA fun a w hA => ?_
 ·exact⟨_,_,_,_,eK w0 _ _ _,fun m _=>(Qq (p:=p) (Ol p n (vF n) i) (Vm n (vF n-1-i)) m).w _ _,Ws w0 p (Uz p n (vF n) i) n (vF n) i (Vm n (vF n-1-i)) (Nat.mod_lt _ (by decide)),fB hi,rfl,rfl,rfl,rfl,qT (k:=1) (by omega) (by omega),qT (by omega) (by omega),Me (k:=4) (by omega),by omega,Hl (fH _).1,rfl,Nat.mod_lt _ (by decide),rfl,rfl,gM (k:=1) (by omega),trivial⟩
 ·show (cB (cB (cB (cB (cB fO))))).wp _ _ _ _;exact aB aI hT hG (Ek p n (vF n) (vF n) _) trivial hA fun a w' hA=>rK (l:=[.fl (q3 (xE p n))]) (r:=.one (.fl (q3 (xE p n)))) (by kernel_rfl) (by kernel_rfl) hA
theorem JRep.lt {p:NJ} {P:JP} (h:JRep p P):UH p:=⟨h.x,h.y,h.z⟩
theorem YP {p:NJ} {P:JP} (h:JRep p P):∀k,JRep (mt p k) (eO.grp.ns k P)
 | 0=>KZ
 | k+1=>(YP h k).pl h
theorem Ti {s:NJ} {P:JP} {m:Nat} (h:JRep s (eO.grp.ns m P)):JRep (dk s 4) (eO.grp.ns (16*m) P):=by
 have h4:=h.db.db.db.db;rw[←eO.grp.ns_add,←eO.grp.ns_add,←eO.grp.ns_add,←eO.grp.ns_add,show m+m+(m+m)+(m+m+(m+m))+(m+m+(m+m)+(m+m+(m+m)))=16*m by omega]at h4;exact h4
theorem fw0 (x:Nat):fw x 0=x%18446744073709551616:=by
 unfold fw;rw[Nat.pow_zero,Nat.div_one]
theorem NX {p:NJ} {P:JP} (h:JRep p P) (n PL:Nat) (hn:wv n<2^(4*PL)):∀i,i≤PL→JRep (Uz p n PL i) (eO.grp.ns (wv n/2^(4*(PL-i))) P)
 | 0,_=>by
  rw[Nat.sub_zero,Nat.div_eq_of_lt hn];exact KZ
 | i+1,hi=>by
  have ih:=(Ti (NX h n PL hn i (by omega))).pl (YP h (Vm n (PL-1-i)));rw[←eO.grp.ns_add]at ih;have e1:Vm n (PL-1-i)=wv n/2^(4*(PL-(i+1)))%16:=by
   unfold Vm;rw[fw0,show (PL-1-i)*4=4*(PL-(i+1)) by omega];omega
  have e2:wv n/2^(4*(PL-i))=wv n/2^(4*(PL-(i+1)))/16:=by
   rw[show 4*(PL-i)=4*(PL-(i+1))+4 by omega,Nat.pow_add,←Nat.div_div_eq_div_mul]
  rw[e1,e2]at ih;rw[show wv n/2^(4*(PL-(i+1)))=16*(wv n/2^(4*(PL-(i+1)))/16)+wv n/2^(4*(PL-(i+1)))%16 by omega];rw[←e1]at ih ⊢;exact ih
theorem uB {p:NJ} {P:JP} (h:JRep p P) (n:Nat):JRep (xE p n) (eO.grp.ns (wv n) P):=by
 have h1:=NX h n (vF n) (Nat.lt_of_lt_of_le (AY n).1 (Nat.pow_le_pow_right (by decide) (by unfold vF; omega))) (vF n) (Nat.le_refl _);rw[Nat.sub_self,Nat.mul_zero,Nat.pow_zero,Nat.div_one]at h1;exact h1
def mY (p:NP) (n:Nat):NP:=tld (xE (p.1,p.2,1) n)
theorem AX {p:NP} (hp:OnJ p.1 p.2) (n:Nat):mY p n=cj (eO.grp.ns (wv n) (jp hp)):=(uB (lV hp) n).tld
def gTi:gE:=g2 Fw uC fun p n=>([p.1<RM,p.2.1<RM,p.2.2<RM],.one (.fl (q3 (xE p n))))
theorem aFd:∀cs pre r,gTi cs=some (pre,r)→aT pre→∀(args:List Value) (w:World),cD w cs args→bD prog 47 r args w :=
 GG (op:=fun p n=>([p.1<RM,p.2.1<RM,p.2.2<RM],.one (.fl (q3 (xE p n))))) pE eE fun p n h args w ha=>zR p n ⟨h.1,h.2.1,h.2.2.1⟩ args w ha
theorem aAf (p:NJ):bZ prog (qG prog) (fun n=>⟨fun _=>oV,fun _=>true,fun _=>none⟩) f48 60 [.v (.fl (q3 p))]=some ([aA [At.q p.1]=aA [At.f ⟨0,cS⟩],aA [At.q p.2.1]=aA [At.q p.2.2]],.one (.im (.bool true))):=by kernel_rfl
theorem aAh (p:NJ):bZ prog (qG prog) (fun n=>⟨fun _=>oV,fun s=>Nat.beq s 6,fun _=>none⟩) f48 60 [.v (.fl (q3 p))]=some ([aA [At.q p.1]=aA [At.f ⟨0,cS⟩],aA [At.q p.2.1]≠aA [At.q p.2.2]],.one (.im (.bool false))):=by kernel_rfl
theorem aAg (p:NJ):bZ prog (qG prog) (fun n=>⟨fun _=>oV,fun _=>false,fun _=>none⟩) f48 60 [.v (.fl (q3 p))]=some ([aA [At.q p.1]≠aA [At.f ⟨0,cS⟩]],.one (.im (.bool false))):=by kernel_rfl
theorem LB (p:NJ) (hp:UH p) (args:List Value) (w:World) (ha:cD w [.v (.fl (q3 p))] args):bD prog 48 (.one (.im (.bool (oT p)))) args w:=by
 by_cases h1:p.1=0
 ·by_cases h2:p.2.1=p.2.2
  ·rw[show oT p=true by unfold oT; rw[Bool.and_eq_true]; exact⟨by rw[h1]; rfl,by rw[h2]; exact Nat.beq_refl _⟩];exact aP aI (fun _ _=>jL) (aW _) func48 (aAf p) ⟨by rw[h1]; rfl,by rw[h2],trivial⟩ ha
  ·rw[show oT p=false by unfold oT; rw[Bool.and_eq_false_iff]; exact Or.inr (Bool.eq_false_iff.2 fun q=>h2 (Nat.eq_of_beq_eq_true q))];exact aP aI (fun _ _=>jL) (aW _) func48 (aAh p) ⟨by rw[h1]; rfl,fun e=>h2 (flq hp.2.1 hp.2.2 e),trivial⟩ ha
 ·rw[show oT p=false by unfold oT; rw[Bool.and_eq_false_iff]; exact Or.inl (Bool.eq_false_iff.2 fun q=>h1 (Nat.eq_of_beq_eq_true q))];exact aP aI (fun _ _=>jL) (aW _) func48 (aAg p) ⟨fun e=>h1 (flq hp.1 fW e),trivial⟩ ha
def aAI (b:Bool):gE:=g1 Fw fun p=>([p.1<RM,p.2.1<RM,p.2.2<RM,oT p=b],.one (.im (.bool b)))
theorem aBe (b:Bool):∀cs pre r,aAI b cs=some (pre,r)→aT pre→∀(args:List Value) (w:World),cD w cs args→bD prog 48 r args w :=
 mH (op:=fun p=>([p.1<RM,p.2.1<RM,p.2.2<RM,oT p=b],.one (.im (.bool b)))) pE fun p h args w ha=>by
  have h':=LB p ⟨h.1,h.2.1,h.2.2.1⟩ args w ha;rw[h.2.2.2.1]at h';exact h'
theorem Zn:lJ<FP.M:=of_decide_eq_true (by kernel_rfl)
theorem aCK:bX<FP.M:=of_decide_eq_true (by kernel_rfl)
theorem aCJ:bY<FP.M:=of_decide_eq_true (by kernel_rfl)
theorem Fo:bZ prog (qG prog) (fun n=>⟨fun _=>oV,fun _=>true,fun _=>none⟩) f44 60 []=some ([],.one (.fl [.f ⟨lJ,Zn⟩])):=by kernel_rfl
theorem WN:bZ prog (qG prog) (fun n=>⟨fun _=>oV,fun _=>true,fun _=>none⟩) f34 60 []=some ([],.one (.fl [.f ⟨bX,aCK⟩,.f ⟨bY,aCJ⟩])):=by kernel_rfl
theorem XU:aA [At.f ⟨lJ,Zn⟩]=aA [At.q lJ]:=rfl
theorem TQ:aA [At.f ⟨bX,aCK⟩,.f ⟨bY,aCJ⟩]=aA [At.q bX,.q bY]:=rfl
theorem pK (w:World):bD prog 44 (.one (.fl [.q lJ])) [] w:=by
 have h:=aP aI (fun _ _=>jL) (aW _) func44 Fo trivial (w:=w) (args:=[]) trivial;unfold bD;rw[show RV.den (.one (.fl [.q lJ]))=Value.agg (aA [At.q lJ]).toArray from rfl,←XU];exact h
theorem IJ (w:World):bD prog 34 (.one (.fl [.q bX,.q bY])) [] w:=by
 have h:=aP aI (fun _ _=>jL) (aW _) func34 WN trivial (w:=w) (args:=[]) trivial;unfold bD;rw[show RV.den (.one (.fl [.q bX,.q bY]))=Value.agg (aA [At.q bX,.q bY]).toArray from rfl,←TQ];exact h
def zH (b c:Bool):Tab:=(((QF b).add 47 gTi).add 48 (aAI c)).add 44 (g0 (.one (.fl [.q lJ])))
theorem vL (b c:Bool):TabOk prog (zH b c):=(((KJ b).add func47 (by kernel_rfl) (by kernel_rfl) aFd).add func48 (by kernel_rfl) (by kernel_rfl) (aBe c)).add func44 (by kernel_rfl) (by kernel_rfl) (wC pK)
theorem Zb (p:NP) (n:Nat):bZ prog (qG prog) (fun n=>⟨fun _=>zH false true,fun _=>true,fun _=>none⟩) f33 60 [.v (.fl [.q p.1,.q p.2]),.v (.fl [.q n])]=some ([p.1<aF,p.2<aF,iY p.1 p.2=false],.many [.fl UQ,.im (.int .i64 41)]):=by kernel_rfl
theorem Za (p:NP) (n:Nat):bZ prog (qG prog) (fun n=>⟨fun _=>zH true true,fun _=>true,fun _=>none⟩) f33 60 [.v (.fl [.q p.1,.q p.2]),.v (.fl [.q n])]=some ([p.1<aF,p.2<aF,iY p.1 p.2=true,p.1<RM,p.2<RM,1<RM,(xE (p.1,p.2,1) n).1<RM,(xE (p.1,p.2,1) n).2.1<RM,(xE (p.1,p.2,1) n).2.2<RM,(xE (p.1,p.2,1) n).2.2≠0],wH (mY p n) 0):=by kernel_rfl
theorem aCj (p:NP):bZ prog (qG prog) (fun n=>⟨fun _=>zH false true,fun _=>true,fun _=>none⟩) f29 60 [.v (.fl [.q p.1,.q p.2])]=some ([p.1<aF,p.2<aF,iY p.1 p.2=false],.one (.im (.int .i64 41))):=by kernel_rfl
theorem aCh (p:NP):bZ prog (qG prog) (fun n=>⟨fun _=>zH true true,fun _=>true,fun _=>none⟩) f29 60 [.v (.fl [.q p.1,.q p.2])]=some ([p.1<aF,p.2<aF,iY p.1 p.2=true,p.1<RM,p.2<RM,1<RM,(xE (p.1,p.2,1) lJ).1<RM,(xE (p.1,p.2,1) lJ).2.1<RM,(xE (p.1,p.2,1) lJ).2.2<RM,oT (xE (p.1,p.2,1) lJ)=true],.one (.im (.int .i64 0))):=by kernel_rfl
theorem aCi (p:NP):bZ prog (qG prog) (fun n=>⟨fun _=>zH true false,fun _=>true,fun _=>none⟩) f29 60 [.v (.fl [.q p.1,.q p.2])]=some ([p.1<aF,p.2<aF,iY p.1 p.2=true,p.1<RM,p.2<RM,1<RM,(xE (p.1,p.2,1) lJ).1<RM,(xE (p.1,p.2,1) lJ).2.1<RM,(xE (p.1,p.2,1) lJ).2.2<RM,oT (xE (p.1,p.2,1) lJ)=false],.one (.im (.int .i64 111))):=by kernel_rfl
theorem KT (p:NP) (n:Nat) (hp:w2 p) (args:List Value) (w:World) (ha:cD w [.v (.fl (q2 p)),.v (.fl (q1 n))] args):bD prog 33 (if iY p.1 p.2=true then wH (mY p n) 0 else wH (0,0) 41) args w:=by
 cases h:iY p.1 p.2
 ·exact aP aI (fun _ _=>vL _ _) (aW _) func33 (Zb p n) ⟨hp.1,hp.2,h,trivial⟩ ha
 ·have h1:=oG.1 h;have hr:=uB (lV h1) n;exact aP aI (fun _ _=>vL _ _) (aW _) func33 (Za p n) ⟨hp.1,hp.2,h,h1.1.1,h1.1.2,fF,hr.x,hr.y,hr.z,hr.nz,trivial⟩ ha
def fS (p:NP):Int:=if iY p.1 p.2=true then (if oT (xE (p.1,p.2,1) lJ)=true then 0 else 111)else 41
theorem wV (p:NP) (hp:w2 p) (args:List Value) (w:World) (ha:cD w [.v (.fl (q2 p))] args):bD prog 29 (.one (.im (.int .i64 (fS p)))) args w:=by
 unfold fS;cases h:iY p.1 p.2
 ·exact aP aI (fun _ _=>vL _ _) (aW _) func29 (aCj p) ⟨hp.1,hp.2,h,trivial⟩ ha
 ·have h1:=oG.1 h;have hr:=uB (lV h1) lJ;rw[if_pos rfl];cases h2:oT (xE (p.1,p.2,1) lJ)
  ·exact aP aI (fun _ _=>vL _ _) (aW _) func29 (aCi p) ⟨hp.1,hp.2,h,h1.1.1,h1.1.2,fF,hr.x,hr.y,hr.z,h2,trivial⟩ ha
  ·exact aP aI (fun _ _=>vL _ _) (aW _) func29 (aCh p) ⟨hp.1,hp.2,h,h1.1.1,h1.1.2,fF,hr.x,hr.y,hr.z,h2,trivial⟩ ha
theorem Vy:wv lJ=lJ:=by kernel_rfl
theorem Kp {p:NP} (h:OnJ p.1 p.2):fS p=if eO.grp.ns lJ (jp h)=eO.grp.zero then 0 else 111:=by
 unfold fS;rw[if_pos (yJ h)];have hr:=uB (lV h) lJ;rw[Vy]at hr
 by_cases e:eO.grp.ns lJ (jp h)=eO.grp.zero
 ·rw[if_pos e,if_pos ((vV hr).2 e)]
 ·rw[if_neg e,if_neg fun q=>e ((vV hr).1 q)]
theorem Cc {p:NP} (h:¬OnJ p.1 p.2):fS p=41:=by
 unfold fS;rw[if_neg fun q=>h (oG.1 q)]
theorem Ty {P Q:JP} (h:cj P=cj Q):P=Q:=Subtype.ext (Prod.ext (Fin.ext (congrArg Prod.fst h)) (Fin.ext (congrArg Prod.snd h)))
def b8 (n k:Nat):At:=.c (.int .u8 (Int.ofNat (gZ n k)))
def bl (n:Nat):List At:=[b8 n 0,b8 n 1,b8 n 2,b8 n 3,b8 n 4,b8 n 5,b8 n 6,b8 n 7,b8 n 8,b8 n 9,b8 n 10,b8 n 11,b8 n 12,b8 n 13,b8 n 14,b8 n 15,b8 n 16,b8 n 17,b8 n 18,b8 n 19,b8 n 20,b8 n 21,b8 n 22,b8 n 23,b8 n 24,b8 n 25,b8 n 26,b8 n 27,b8 n 28,b8 n 29,b8 n 30,b8 n 31]
def gBy:List CA→Option (List Prop×FS)
 | [.v (.fl l)]=>match uC l with
  | some n=>some ([],⟨bl (wv n),32,0,0,false,[],[]⟩)
  | none=>none
 | _=>none
def B3:Tab3:=Dg.add 25 gBy
def x3 (T:Tab3) (T4:Tab4) (gen:Nat→Option Value) (mks:Nat→Option (Nat×List At)):Ext:={ Ext.none with T3:=T,T4:=T4,gen:=gen,mks:=mks }
def WA:List (Nat×TV)→List Fact
 | []=>[]
 | (s,t)::r=>.slot s t.av::WA r
theorem nZ:∀{l:List (Nat×TV)} {φ:Fact},φ∈WA l→∃x∈l,φ=.slot x.1 x.2.av
 | x::r,φ,h=>by
  rcases List.mem_cons.1 h with rfl|h
  ·exact⟨x,List.mem_cons_self,rfl⟩
  ·obtain⟨y,h1,h2⟩:=nZ h;exact⟨y,List.mem_cons_of_mem _ h1,h2⟩
theorem Holds.fresh {nt base:Nat} {w0:World} {A:List Fact} {a:Act} {w:World} (h:Holds nt base w0 A a w) (l:List (Nat×TV)) (hl:∀x∈l,a.tmps[x.1]?=some x.2.den):Holds nt w.heap.size w (WA l) a w:=by
 refine⟨h.defers,h.size,Below.refl _ _,Nat.le_refl _,fun _=>(w.heap.size,0,0),fun φ hφ => ?_,fun k k' o' l1 l2 h1 => ?_,fun k l1 h1 => ?_,Nat.le_refl _,fun p h1 h2=>⟨rfl,rfl⟩,Shape.refl _⟩
 ·obtain⟨x,hx,rfl⟩:=nZ hφ;show a.tmps[x.1]?=_;rw[TV.av_den];exact hl x hx
 ·obtain⟨x,_,e⟩:=nZ h1; cases e
 ·obtain⟨x,_,e⟩:=nZ h1; cases e
theorem FR.ok.older {r:FR} {w w1 w2:World} {e:Ending} (h:r.ok w1 e w2) (hb:Below w.heap.size w w1):r.ok w e w2:=by
 obtain⟨b,h1,h2,h3,h4⟩:=h;exact⟨b,h1,hb.trans (h2.mono hb.size),Nat.le_trans hb.size h3,h4⟩
def hd (vs:Nat→Value) (j:Nat):List At:=[.c (vs j)]
def HV (w:World) (v:Value) (K:Nat) (vs:Nat→Value):Prop:=∃b o m,v=.slice (some ⟨b,o,none⟩) K m∧b<w.heap.size∧w.rangeAt b o (aA (bP (hd vs) 0 K))
def Ov (K:Nat) (Ns:Nat→Nat):Prop:=∀j,j<K→Ns j≤65536
def Uj (K:Nat) (Ns:Nat→Nat) (fs:Nat→Nat→Nat):Prop:=∀j,j<K→oU (Ns j) (fs j)
instance (K:Nat) (Ns:Nat→Nat):Decidable (Ov K Ns):=Nat.decidableBallLT K fun j _=>Ns j≤65536
instance (K:Nat) (Ns:Nat→Nat) (fs:Nat→Nat→Nat):Decidable (Uj K Ns fs):=Nat.decidableBallLT K fun j _=>oU (Ns j) (fs j)
def iG (f:Nat→Nat) (i x:Nat) (j:Nat):Nat:=if j=i then x else f j
structure FQ where
 l:List At
 n:Nat
 l':List At
 n':Nat
def FQ.ok (r:FQ) (w:World) (e:Ending) (w':World):Prop:=∃b b',e=.returned (.tuple #[aV b 0 r.n r.n,aV b' 0 r.n' r.n'])∧Below w.heap.size w w'∧(w.heap.size≤b∧b<w'.heap.size∧w'.rangeAt b 0 (aA r.l)∧∀j,w'.frozen? ⟨b,j,none⟩=false)∧(w.heap.size≤b'∧b'<w'.heap.size∧w'.rangeAt b' 0 (aA r.l')∧∀j,w'.frozen? ⟨b',j,none⟩=false)∧b≠b'
theorem FQ.ok.older {r:FQ} {w w1 w2:World} {e:Ending} (h:r.ok w1 e w2) (hb:Below w.heap.size w w1):r.ok w e w2:=by
 obtain⟨b,b',h1,h2,h3,h4,h5⟩:=h;exact⟨b,b',h1,hb.trans (h2.mono hb.size),⟨Nat.le_trans hb.size h3.1,h3.2⟩,⟨Nat.le_trans hb.size h4.1,h4.2⟩,h5⟩
theorem LV.from {w:World} {b o N m i:Nat} {f:Nat→Nat} (hb:b<w.heap.size) (hr:w.rangeAt b o (aA (bP (el f) 0 N))) (hi:i≤N) (hm:N≤m) (h256:∀j,j<N→f j<aF):LV w (aV b (if m=i then o else o+i*4) (N-i) (m-i)) (N-i) (fun j=>f (i+j)):=by
 refine⟨_,_,rfl,by omega,fun j hj=>h256 _ (by omega),fun h => ?_⟩;rw[if_neg (by omega)];refine⟨b,o+i*4,rfl,hb,?_⟩;have e:bP (el f) 0 N=bP (el f) 0 i++bP (el (fun j=>f (i+j))) 0 (N-i):=by
  have key:∀(n s:Nat),bP (el f) (i+s) n=bP (el (fun j=>f (i+j))) s n:=fun n=>by
   induction n with
   | zero=>intro s; rfl
   | succ n ih =>
    intro s;show el f (i+s)++bP (el f) (i+s+1) n=_;rw[Nat.add_assoc,ih (s+1)];rfl
  have sp:∀(i n s:Nat),i≤n→bP (el f) s n=bP (el f) s i++bP (el f) (s+i) (n-i):=fun i=>by
   induction i with
   | zero=>intro n s _; rfl
   | succ i ih =>
    intro n s h;obtain⟨n,rfl⟩:∃k,n=k+1:=⟨n-1,by omega⟩
    show el f s++bP (el f) (s+1) n=(el f s++bP (el f) (s+1) i)++_;rw[ih n (s+1) (by omega),List.append_assoc,show s+1+i=s+(i+1) by omega,show n+1-(i+1)=n-i by omega]
  rw[sp i N 0 hi,Nat.zero_add,←key (N-i) 0,Nat.add_zero]
 intro j u hj;have h2:=hr (i*4+j) u (by
  rw[e,aJ,List.getElem?_append_right (by rw[aL,fJ (c:=4) fun _=>rfl]; omega),aL,fJ (c:=4) fun _=>rfl,Nat.add_sub_cancel_left];exact hj)
 rwa [←Nat.add_assoc]at h2
theorem LV.one {w:World} {b x:Nat} (h:oldOf w b 0 [.q x]) (hx:x<aF):LV w (aV b 0 1 1) 1 (fun _=>x) :=
 ⟨_,_,rfl,Nat.le_refl _,fun _ _=>hx,fun _=>⟨b,0,rfl,h.1,h.2⟩⟩
def bj (f:Nat→Nat):List At:=[.c (.int .u8 (Int.ofNat (f 0))),.c (.int .u8 (Int.ofNat (f 1))),.c (.int .u8 (Int.ofNat (f 2))),.c (.int .u8 (Int.ofNat (f 3))),.c (.int .u8 (Int.ofNat (f 4))),.c (.int .u8 (Int.ofNat (f 5))),.c (.int .u8 (Int.ofNat (f 6))),.c (.int .u8 (Int.ofNat (f 7))),.c (.int .u8 (Int.ofNat (f 8))),.c (.int .u8 (Int.ofNat (f 9))),.c (.int .u8 (Int.ofNat (f 10))),.c (.int .u8 (Int.ofNat (f 11))),.c (.int .u8 (Int.ofNat (f 12))),.c (.int .u8 (Int.ofNat (f 13))),.c (.int .u8 (Int.ofNat (f 14))),.c (.int .u8 (Int.ofNat (f 15))),.c (.int .u8 (Int.ofNat (f 16))),.c (.int .u8 (Int.ofNat (f 17))),.c (.int .u8 (Int.ofNat (f 18))),.c (.int .u8 (Int.ofNat (f 19))),.c (.int .u8 (Int.ofNat (f 20))),.c (.int .u8 (Int.ofNat (f 21))),.c (.int .u8 (Int.ofNat (f 22))),.c (.int .u8 (Int.ofNat (f 23))),.c (.int .u8 (Int.ofNat (f 24))),.c (.int .u8 (Int.ofNat (f 25))),.c (.int .u8 (Int.ofNat (f 26))),.c (.int .u8 (Int.ofNat (f 27))),.c (.int .u8 (Int.ofNat (f 28))),.c (.int .u8 (Int.ofNat (f 29))),.c (.int .u8 (Int.ofNat (f 30))),.c (.int .u8 (Int.ofNat (f 31)))]
def Sb:gE
 | [.v (.im v)]=>some ([],.one (.im v))
 | _=>none
def JS (b:Bool) (p:NP):RV:=bif b then wH p 0 else wH (0,0) 41
def aAJ (b:Bool):gE:=g2 Lw Lw fun p q=>([p.1<aF,p.2<aF,q.1<aF,q.2<aF,(iY p.1 p.2&&iY q.1 q.2)=b],JS b (CG p q))
def aAG (b:Bool):gE:=g1 Lw fun p=>([p.1<aF,p.2<aF,iY p.1 p.2=b],JS b (kT p))
def aAH (b:Bool):gE:=g2 Lw uC fun p n=>([p.1<aF,p.2<aF,iY p.1 p.2=b],JS b (mY p n))
def Si (c:Int):gE:=g1 Lw fun p=>([p.1<aF,p.2<aF,fS p=c],.one (.im (.int .i64 c)))
theorem AK {b:Bool} {c:Bool} {p:NP} (h:c=b):(if c=true then wH p 0 else wH (0,0) 41)=JS b p:=by
 subst h; cases c<;>rfl
theorem Jk {f:FuncId} (h:∀(p q:NP),w2 p→w2 q→∀(args:List Value) (w:World),cD w [.v (.fl (q2 p)),.v (.fl (q2 q))] args→bD prog f (if (iY p.1 p.2&&iY q.1 q.2)=true then wH (CG p q) 0 else wH (0,0) 41) args w) (b:Bool):∀cs pre r,aAJ b cs=some (pre,r)→aT pre→∀(args:List Value) (w:World),cD w cs args→bD prog f r args w :=
 GG (op:=fun p q=>([p.1<aF,p.2<aF,q.1<aF,q.2<aF,(iY p.1 p.2&&iY q.1 q.2)=b],JS b (CG p q))) sD sD fun p q hp args w ha=>by
  have:=h p q ⟨hp.1,hp.2.1⟩ ⟨hp.2.2.1,hp.2.2.2.1⟩ args w ha;rw[AK hp.2.2.2.2.1]at this;exact this
theorem Jb {f:FuncId} (h:∀(p:NP),w2 p→∀(args:List Value) (w:World),cD w [.v (.fl (q2 p))] args→bD prog f (if iY p.1 p.2=true then wH (kT p) 0 else wH (0,0) 41) args w) (b:Bool):∀cs pre r,aAG b cs=some (pre,r)→aT pre→∀(args:List Value) (w:World),cD w cs args→bD prog f r args w :=
 mH (op:=fun p=>([p.1<aF,p.2<aF,iY p.1 p.2=b],JS b (kT p))) sD fun p hp args w ha=>by
  have:=h p ⟨hp.1,hp.2.1⟩ args w ha;rw[AK hp.2.2.1]at this;exact this
theorem Je {f:FuncId} (h:∀(p:NP) (n:Nat),w2 p→∀(args:List Value) (w:World),cD w [.v (.fl (q2 p)),.v (.fl (q1 n))] args→bD prog f (if iY p.1 p.2=true then wH (mY p n) 0 else wH (0,0) 41) args w) (b:Bool):∀cs pre r,aAH b cs=some (pre,r)→aT pre→∀(args:List Value) (w:World),cD w cs args→bD prog f r args w :=
 GG (op:=fun p n=>([p.1<aF,p.2<aF,iY p.1 p.2=b],JS b (mY p n))) sD eE fun p n hp args w ha=>by
  have:=h p n ⟨hp.1,hp.2.1⟩ args w ha;rw[AK hp.2.2.1]at this;exact this
theorem PJ {f:FuncId} (h:∀(p:NP),w2 p→∀(args:List Value) (w:World),cD w [.v (.fl (q2 p))] args→bD prog f (.one (.im (.int .i64 (fS p)))) args w) (c:Int):∀cs pre r,Si c cs=some (pre,r)→aT pre→∀(args:List Value) (w:World),cD w cs args→bD prog f r args w :=
 mH (op:=fun p=>([p.1<aF,p.2<aF,fS p=c],.one (.im (.int .i64 c)))) sD fun p hp args w ha=>by
  have:=h p ⟨hp.1,hp.2.1⟩ args w ha;rw[hp.2.2.1]at this;exact this
theorem aCX (P Q:JP):CG (cj P) (cj Q)=cj (eO.grp.add P Q):=by
 rw[QD (kH P) (kH Q),GD,GD]
theorem aEu (P:JP):kT (cj P)=cj (eO.grp.neg P):=by
 rw[OZ (kH P),GD]
theorem aEx (P:JP) (n:Nat):mY (cj P) n=cj (eO.grp.ns (wv n) P):=by
 rw[AX (kH P),GD]
theorem Holds.anew {nt base:Nat} {w0:World} {A:List Fact} {a:Act} {w:World} (h:Holds nt base w0 A a w) {w':World} (hb:Below base w0 w') (hs:Shape w w') (hh:base≤w'.heap.size) {d k b n:Nat} {l:List At} (hd:d<nt) (h1:base≤b) (h2:b<w'.heap.size) (h3:w'.rangeAt b 0 (aA l)) (h4:∀j,w'.frozen? ⟨b,j,none⟩=false) (hk:k≠nt) :
  Holds nt base w0 [.slot d (.sl k 0 n n),.row k true l] (a.put (some d) (aV b 0 n n)) w':=by
 obtain⟨β,g1,g2,g3,gt⟩:=h.facts;refine⟨by rw[jJ]; exact h.defers,by rw[aG]; exact h.size,hb,hh,fun j=>if j=nt then (0,0,0)else (b,0,0),fun φ hφ => ?_,fun k1 k2 o2 l1 l2 q1 q2 hne => ?_,fun k1 l1 q1=>Or.inr ?_,?_,fun p p1 p2 => ?_,gt.shape.trans hs⟩
 ·simp only[List.mem_cons,List.not_mem_nil,or_false]at hφ
  rcases hφ with rfl|rfl
  ·show (a.put (some d) _).tmps[d]?=_;rw[aY _ _ _ (by rw[h.size]; exact hd)];simp[AV.den,hk,aV]
  ·refine⟨by simp[hk,h2],?_,fun _=>⟨by simp[hk,h1],by simp[hk],fun j=>by simp[hk,h4]⟩,fun h=>by cases h⟩;show w'.rangeAt (if k=nt then ((0,0,0):Bk)else (b,0,0)).1 (if k=nt then ((0,0,0):Bk)else (b,0,0)).2.1 _;rw[if_neg hk]; exact h3
 ·simp only[List.mem_cons,List.not_mem_nil,or_false,reduceCtorEq,false_or]at q1 q2;cases q1; cases q2; exact (hne rfl).elim
 ·show (if nt=nt then ((0,0,0):Bk)else (b,0,0)).1≤_;rw[if_pos rfl]; exact Nat.zero_le _
 ·show (if nt=nt then ((0,0,0):Bk)else (b,0,0)).1≤_;rw[if_pos rfl]; exact Nat.zero_le _
 ·exfalso;have h2:p.block<(if nt=nt then ((0,0,0):Bk)else (b,0,0)).1:=p2;rw[if_pos rfl]at h2;exact absurd h2 (Nat.not_lt_zero _)
def u3 (n:Nat):Value:=.int .u32 (Int.ofNat n)
def FL (z:Int) (b:Nat):Prop:=∃(s:Bool) (k:Nat),Ieee.double.read b=.number s (z.natAbs*2^k) (-(k:Int))∧(z=0∨s=decide (z<0))
theorem Tp:Ieee.double.signWeight=2^63:=by decide
theorem PR:Ieee.double.binade=2^52:=by decide
theorem PQ:Ieee.double.infRung=2047*2^52:=by decide
theorem MH:Ieee.double.leastPlace = -1074:=by decide
theorem QV (s:Bool) {e m:Nat} (he:e<2046) (hm:m<2^52):Ieee.double.read (Ieee.double.word s ((e+1)*2^52+m))=.number s (2^52+m) (-1074+(e:Int)):=by
 have h1:(e+1)*2^52+m<2^63:=by omega
 unfold Ieee.Format.read Ieee.Format.word;simp only[Tp,PR,PQ,MH];have h2:(if s=true then 2^63+((e+1)*2^52+m)else (e+1)*2^52+m)%2^63=(e+1)*2^52+m:=by cases s<;>simp<;>omega
 have h3:((if s=true then 2^63+((e+1)*2^52+m)else (e+1)*2^52+m)/2^63%2==1)=s:=by cases s<;>simp<;>omega
 rw[h2,h3,if_neg (by omega),if_pos (by omega)];have h4:((e+1)*2^52+m)%2^52=m:=by omega
 have h5:((e+1)*2^52+m)/2^52-1=e:=by omega
 rw[h4,h5]
theorem QU (s:Bool):Ieee.double.read (Ieee.double.word s 0)=.number s 0 (-1074):=by
 cases s<;>decide
theorem FL.write {s:Bool} {z:Int} {k:Nat} (hz:z.natAbs<2^53) (hs:z=0∨s=decide (z<0)):FL z (Ieee.double.write (.number s (z.natAbs*2^k) (-(k:Int)))):=by
 by_cases h0:z=0
 ·subst h0;refine⟨s,1074,?_,Or.inl rfl⟩;show Ieee.double.read (Ieee.double.nearest s (0*2^k) _)=_;unfold Ieee.Format.nearest;rw[Nat.zero_mul,if_pos rfl,QU];have e:∀n:Nat,(0:Int).natAbs*n=0:=fun n=>Nat.zero_mul n
  rw[e]<;>rfl
 ·have hn:z.natAbs≠0:=by omega
  obtain⟨L,hL1,hL2⟩:∃L,2^L≤z.natAbs∧z.natAbs<2^(L+1):=⟨z.natAbs.log2,Nat.log2_self_le hn,Nat.lt_log2_self⟩
  have hL:L≤52:=by
   rcases Nat.lt_or_ge 52 L with h|h
   ·have:=Nat.pow_le_pow_right (n:=2) (by omega) (show 53≤L by omega);omega
   ·exact h
  have hpos:z.natAbs*2^k≠0:=Nat.mul_ne_zero hn (Nat.pos_iff_ne_zero.1 (Nat.two_pow_pos k));have hlog:(z.natAbs*2^k).log2=L+k:=by
   refine (Nat.log2_eq_iff hpos).2 ⟨?_,?_⟩
   ·rw[Nat.pow_add]; exact Nat.mul_le_mul_right _ hL1
   ·rw[show L+k+1=(L+1)+k by omega,Nat.pow_add]; exact (Nat.mul_lt_mul_right (Nat.two_pow_pos k)).2 hL2
  have hkept:Ieee.Toward.even.cut s ((z.natAbs*2^k) <<< (-(k:Int)-((L:Int)-52)).toNat) (((L:Int)-52) - -(k:Int)).toNat=z.natAbs*2^(52-L):=by
   rcases Nat.lt_or_ge (52-L) k with h|h
   ·
    have e1:(-(k:Int)-((L:Int)-52)).toNat=0:=by omega
    have e2:(((L:Int)-52) - -(k:Int)).toNat=k-(52-L):=by omega
    rw[e1,e2,Nat.shiftLeft_zero];have e3:z.natAbs*2^k=z.natAbs*2^(52-L)*2^(k-(52-L)):=by rw[Nat.mul_assoc,←Nat.pow_add,show 52-L+(k-(52-L))=k by omega]
    unfold Ieee.Toward.cut;have e4:min (k-(52-L)) ((z.natAbs*2^k).log2+2)=k-(52-L):=by rw[hlog]; omega
    simp only[e4,Nat.one_shiftLeft];have e5:z.natAbs*2^k/2^(k-(52-L))=z.natAbs*2^(52-L):=by rw[e3,Nat.mul_div_cancel _ (Nat.two_pow_pos _)]
    have e6:z.natAbs*2^k%2^(k-(52-L))=0:=by rw[e3,Nat.mul_mod_left]
    rw[e5,e6];have hg:=Nat.two_pow_pos (k-(52-L));have e7:decide (2^(k-(52-L))<2*0)=false:=decide_eq_false (by omega);have e8:(2^(k-(52-L))==2*0)=false:=by rw[beq_eq_false_iff_ne]; omega
    rw[e7,e8];rfl
   ·have e1:(-(k:Int)-((L:Int)-52)).toNat=52-L-k:=by omega
    have e2:(((L:Int)-52) - -(k:Int)).toNat=0:=by omega
    rw[e1,e2,Nat.shiftLeft_eq,Nat.mul_assoc,←Nat.pow_add,show k+(52-L-k)=52-L by omega];unfold Ieee.Toward.cut;simp[Nat.mod_one]
  have hk1:2^52≤z.natAbs*2^(52-L):=by
   have:=Nat.mul_le_mul_right (2^(52-L)) hL1
   rwa [←Nat.pow_add,show L+(52-L)=52 by omega]at this
  have hk2:z.natAbs*2^(52-L)<2^53:=by
   have:=(Nat.mul_lt_mul_right (Nat.two_pow_pos (52-L))).2 hL2
   rwa [←Nat.pow_add,show L+1+(52-L)=53 by omega]at this
  refine⟨s,52-L,?_,Or.inr (hs.resolve_left h0)⟩;show Ieee.double.read (Ieee.double.nearest s (z.natAbs*2^k) (-(k:Int)))=_;unfold Ieee.Format.nearest;rw[if_neg hpos];have hfb:((Ieee.double.fractionBits:Nat):Int)=52:=rfl;have elast:max (-(k:Int)+((z.natAbs*2^k).log2:Int)-(Ieee.double.fractionBits:Int)) Ieee.double.leastPlace=(L:Int)-52:=by
   rw[hlog,hfb,MH]; omega
  simp only[elast];rw[hkept,MH,PR,PQ];generalize z.natAbs*2^(52-L)=K at hk1 hk2 ⊢;have e9:((L:Int)-52 - -1074).toNat=L+1022:=by omega
  rw[e9];have hB:(2:Nat)^53=2*2^52:=by rw[Nat.pow_succ,Nat.mul_comm]
  rw[hB]at hk2;have hr:=QV s (e:=L+1022) (m:=K-2^52) (by omega);generalize (2:Nat)^52=B at hk1 hk2 hr ⊢;have hr:=hr (by omega);have e12:(L+1022)*B≤1074*B:=Nat.mul_le_mul_right _ (by omega);have e13:(L+1022)*B+K≤2047*B:=by omega
  have e14:(L+1022+1)*B=(L+1022)*B+B:=by rw[Nat.add_mul _ 1,Nat.one_mul]
  have e10:min ((L+1022)*B+K) (2047*B)=(L+1022+1)*B+(K-B):=by rw[Nat.min_eq_left e13,e14]; omega
  rw[e10,hr];have e11:B+(K-B)=K:=by omega
  rw[e11];congr 1;omega
theorem yA {s:Bool} {z:Int} {k K:Nat} (hk:k≤K) (hs:z=0∨s=decide (z<0)):Ieee.signed s (z.natAbs*2^k) (K-k)=z*(2^K:Nat):=by
 have e:(z.natAbs*2^k) <<< (K-k)=z.natAbs*2^K:=by rw[Nat.shiftLeft_eq,Nat.mul_assoc,←Nat.pow_add,show k+(K-k)=K by omega]
 unfold Ieee.signed;rw[e];generalize 2^K=B
 rcases hs with rfl|rfl
 ·cases s<;>simp
 ·by_cases h:z<0
  ·rw[decide_eq_true h,if_pos rfl];have:((z.natAbs*B:Nat):Int) = -z*(B:Int):=by rw[Int.natCast_mul,show ((z.natAbs:Nat):Int) = -z by omega]
   rw[this,Int.neg_mul,Int.neg_neg]
  ·rw[decide_eq_false h,if_neg (by simp)];rw[Int.natCast_mul,show ((z.natAbs:Nat):Int)=z by omega]
theorem FL.sum {z y:Int} {s t:Bool} {k l:Nat} (hs:z=0∨s=decide (z<0)) (ht:y=0∨t=decide (y<0)) (hb:(z+y).natAbs<2^53):∃d,Ieee.Datum.sum (.number s (z.natAbs*2^k) (-(k:Int))) (.number t (y.natAbs*2^l) (-(l:Int)))=some d∧FL (z+y) (Ieee.double.write d):=by
 have ebase:min (-(k:Int)) (-(l:Int)) = -((max k l:Nat):Int):=by omega
 have e1:(-(k:Int) - -((max k l:Nat):Int)).toNat=max k l-k:=by omega
 have e2:(-(l:Int) - -((max k l:Nat):Int)).toNat=max k l-l:=by omega
 refine⟨_,rfl,?_⟩;simp only[ebase,e1,e2,yA (Nat.le_max_left k l) hs,yA (Nat.le_max_right k l) ht];rw[←Int.add_mul];have hp:0<2^(max k l):=Nat.two_pow_pos _;have ea:((z+y)*((2^(max k l):Nat):Int)).natAbs=(z+y).natAbs*2^(max k l):=by rw[Int.natAbs_mul,Int.natAbs_natCast]
 rw[ea];refine FL.write hb ?_
 by_cases h0:z+y=0
 ·exact Or.inl h0
 ·right;have hB:(0:Int)<((2^(max k l):Nat):Int):=by omega
  have hne:(z+y)*((2^(max k l):Nat):Int)≠0:=Int.mul_ne_zero h0 (by omega);rw[if_neg hne];congr 1;exact propext ⟨fun h=>by
   rcases (show z+y<0∨0≤z+y by omega)with q|q
   ·exact q
   ·exact absurd h (Int.not_lt.2 (Int.mul_nonneg q (Int.le_of_lt hB))),fun h=>Int.mul_neg_of_neg_of_pos h hB⟩
theorem FL.add {z y:Int} {a b:Nat} (h1:FL z a) (h2:FL y b) (hb:(z+y).natAbs<2^53):∃r,floatBits .add .f64 a b=some r∧FL (z+y) r:=by
 obtain⟨s,k,e1,hs⟩:=h1;obtain⟨t,l,e2,ht⟩:=h2;obtain⟨d,hd,hf⟩:=FL.sum (k:=k) (l:=l) hs ht hb;refine⟨_,?_,hf⟩;show ((Ieee.double.read a).sum (Ieee.double.read b)).map Ieee.double.write=_;rw[e1,e2,hd];rfl
theorem FL.sub {z y:Int} {a b:Nat} (h1:FL z a) (h2:FL y b) (hb:(z-y).natAbs<2^53):∃r,floatBits .sub .f64 a b=some r∧FL (z-y) r:=by
 obtain⟨s,k,e1,hs⟩:=h1;obtain⟨t,l,e2,ht⟩:=h2;have ht2 : -y=0∨(!t)=decide (-y<0):=by
  by_cases h0:y=0
  ·left; omega
  ·right;rw[ht.resolve_left h0]
   by_cases h:y<0
   ·rw[decide_eq_true h,decide_eq_false (by omega)]; rfl
   ·rw[decide_eq_false h,decide_eq_true (by omega)]; rfl
 obtain⟨d,hd,hf⟩:=FL.sum (k:=k) (l:=l) hs ht2 (by rw[←Int.sub_eq_add_neg]; exact hb);rw[←Int.sub_eq_add_neg]at hf;refine⟨_,?_,hf⟩;show ((Ieee.double.read a).sum (Ieee.double.read b).opposite).map Ieee.double.write=_;rw[e1,e2];rw[Int.natAbs_neg]at hd;show (Ieee.Datum.sum _ (.number (!t) _ _)).map Ieee.double.write=_;rw[hd];rfl
theorem FL.mul {z y:Int} {a b:Nat} (h1:FL z a) (h2:FL y b) (hb:(z*y).natAbs<2^53):∃r,floatBits .mul .f64 a b=some r∧FL (z*y) r:=by
 obtain⟨s,k,e1,hs⟩:=h1;obtain⟨t,l,e2,ht⟩:=h2;refine⟨Ieee.double.write (.number (s ^^ t) ((z*y).natAbs*2^(k+l)) (-((k+l:Nat):Int))),?_,FL.write hb ?_⟩
 ·show ((Ieee.double.read a).product (Ieee.double.read b)).map Ieee.double.write=_;rw[e1,e2];show some (Ieee.double.write (.number (s ^^ t) (z.natAbs*2^k*(y.natAbs*2^l)) (-(k:Int) + -(l:Int))))=_;have e3:z.natAbs*2^k*(y.natAbs*2^l)=(z*y).natAbs*2^(k+l):=by rw[Int.natAbs_mul,Nat.pow_add,Nat.mul_mul_mul_comm]
  have e4 : -(k:Int) + -(l:Int) = -((k+l:Nat):Int):=by omega
  rw[e3,e4]
 ·by_cases h0:z=0
  ·left; rw[h0,Int.zero_mul]
  ·by_cases h3:y=0
   ·left; rw[h3,Int.mul_zero]
   ·right;rw[hs.resolve_left h0,ht.resolve_left h3]
    rcases (show z<0∨0≤z by omega)with q|q<;>rcases (show y<0∨0≤y by omega)with q'|q'
    ·rw[decide_eq_true q,decide_eq_true q',decide_eq_false (Int.not_lt.2 (Int.le_of_lt (Int.mul_pos_of_neg_of_neg q q')))]; rfl
    ·rw[decide_eq_true q,decide_eq_false (Int.not_lt.2 q'),decide_eq_true (Int.mul_neg_of_neg_of_pos q (by omega))]; rfl
    ·rw[decide_eq_false (Int.not_lt.2 q),decide_eq_true q',decide_eq_true (Int.mul_neg_of_pos_of_neg (by omega) q')]; rfl
    ·rw[decide_eq_false (Int.not_lt.2 q),decide_eq_false (Int.not_lt.2 q'),decide_eq_false (Int.not_lt.2 (Int.mul_nonneg q q'))]; rfl
theorem FL.ofInt {z:Int} (hz:z.natAbs<2^53):FL z (floatOfInt .f64 z):=by
 have:=FL.write (s:=decide (z<0)) (z:=z) (k:=0) hz (Or.inr rfl);rw[Nat.pow_zero,Nat.mul_one]at this;exact this
def iV (z:Int):Value:=.int .i64 z
def x4 (X:Nat→Int):List At:=[.c (iV (X 0)),.c (iV (X 1)),.c (iV (X 2)),.c (iV (X 3))]
def z4:Nat→Int:=fun _=>0
def aDY (X:Nat→Int):Prop:=∀k,k<4 → -1099511627776≤X k∧X k≤1099511627776
instance (X:Nat→Int):Decidable (aDY X):=Nat.decidableBallLT 4 fun k _ => -1099511627776≤X k∧X k≤1099511627776
theorem LV.take {w:World} {p:Option Addr} {N m T:Nat} {f:Nat→Nat} (h:LV w (.slice p N m) N f) (hT:T≤N):LV w (.slice p T m) T f:=by
 obtain⟨p',m',e,h2,h3,h4⟩:=h;cases e;refine⟨p,m,rfl,Nat.le_trans hT h2,fun j hj=>h3 j (by omega),fun h0 => ?_⟩;obtain⟨b,o,e,hb,hr⟩:=h4 (by omega);refine⟨b,o,e,hb,fun j x hj=>hr j x ?_⟩;have key:∀(i n s:Nat),i≤n→bP (el f) s n=bP (el f) s i++bP (el f) (s+i) (n-i):=fun i=>by
  induction i with
  | zero=>intro n s _; rfl
  | succ i ih =>
   intro n s h;obtain⟨n,rfl⟩:∃k,n=k+1:=⟨n-1,by omega⟩
   show el f s++bP (el f) (s+1) n=(el f s++bP (el f) (s+1) i)++_;rw[ih n (s+1) (by omega),List.append_assoc,show s+1+i=s+(i+1) by omega,show n+1-(i+1)=n-i by omega]
 rw[key T N 0 hT,aJ,List.getElem?_append_left (List.getElem?_eq_some_iff.1 hj).1];exact hj
end Go.Proofs.YtpbljiejmfahcaaGreatDoor.Ex
namespace Go.Proofs.YtpbljiejmfahcaaGreatDoor
open Go.Proofs.Tryz
open Go.RowKit
def lI (a0 a1 a2 a3 a4 a5 a6 a7:Nat):Nat:=a0+4294967296*(a1+4294967296*(a2+4294967296*(a3+4294967296*(a4+4294967296*(a5+4294967296*(a6+4294967296*a7))))))
def RR (a0 a1 a2 a3 a4 a5 a6 a7:Nat):Prop:=a0<4294967296∧a1<4294967296∧a2<4294967296∧a3<4294967296∧a4<4294967296∧a5<4294967296∧a6<4294967296∧a7<4294967296
theorem rM {a:Nat} (ha:a<18446744073709551616):∃l h:Nat,bits .and .u64 (a:Int) 4294967295=(l:Int)∧(a:Int)/4294967296=(h:Int)∧l<4294967296∧h<4294967296∧Hid (l+4294967296*h=a):=by
 obtain⟨h,l,e1,e2,h1,h2,e⟩:=BS ha;exact⟨l,h,e2,e1,h2,h1,Lib.hid (by omega)⟩
def NM (A:Nat) (w:World) (e:Ending) (w':World):Prop :=
 ∃h0 h1 h2 h3 h4 h5 h6 h7:Nat,e=.returned (.agg #[.int .u64 h0,.int .u64 h1,.int .u64 h2,.int .u64 h3,.int .u64 h4,.int .u64 h5,.int .u64 h6,.int .u64 h7])∧RR h0 h1 h2 h3 h4 h5 h6 h7∧Hid (lI h0 h1 h2 h3 h4 h5 h6 h7=A)∧Below w.heap.size w w'
theorem uI {l h:Nat} (hl:l<4294967296) (hh:h<4294967296):∃u s:Nat,(h:Int)*4294967296=(u:Int)∧bits .or .u64 (l:Int) (u:Int)=(s:Int)∧u<18446744073709551616∧s<18446744073709551616∧Hid (s=l+4294967296*h):=by
 obtain⟨s,e,hs,f⟩:=nH (k:=32) (lo:=l) (up:=h*4294967296) (by omega) (by omega) (Lib.hid (by omega)) (Lib.hid ⟨h,by omega⟩);have:=f.out;exact⟨h*4294967296,s,by omega,e,by omega,hs,Lib.hid (by omega)⟩
set_option maxHeartbeats 1000000 in
theorem pM (h0 h1 h2 h3 h4 h5 h6 h7:Nat) (hh:RR h0 h1 h2 h3 h4 h5 h6 h7) (g o c:Nat) (w:World)
  (c0:w.cell? ⟨g,o,none⟩=some (.int .u64 h0)) (c1:w.cell? ⟨g,o+1,none⟩=some (.int .u64 h1)) (c2:w.cell? ⟨g,o+2,none⟩=some (.int .u64 h2)) (c3:w.cell? ⟨g,o+3,none⟩=some (.int .u64 h3))
  (c4:w.cell? ⟨g,o+4,none⟩=some (.int .u64 h4)) (c5:w.cell? ⟨g,o+5,none⟩=some (.int .u64 h5)) (c6:w.cell? ⟨g,o+6,none⟩=some (.int .u64 h6)) (c7:w.cell? ⟨g,o+7,none⟩=some (.int .u64 h7)) (hg:g<w.heap.size) :
  Calls prog 107 #[.slice (some ⟨g,o,none⟩) 8 c] w (cJ (fun v=>v=lI h0 h1 h2 h3 h4 h5 h6 h7) w):=by
 obtain⟨k0,k1,k2,k3,k4,k5,k6,k7⟩:=hh;obtain⟨u0,s0,p0,q0,a0,b0,e0⟩:=uI k0 k1;obtain⟨u1,s1,p1,q1,a1,b1,e1⟩:=uI k2 k3;obtain⟨u2,s2,p2,q2,a2,b2,e2⟩:=uI k4 k5;obtain⟨u3,s3,p3,q3,a3,b3,e3⟩:=uI k6 k7
 go_enter func107,ntmps107
 go_wp2_with fail;refine wp_loop_rounds 5 ?_;rw[rounds_succ];go_wp2_with fail
 go_region
 go_wp2_with fail;rw[rounds_succ];go_wp2_with fail
 go_region
 go_wp2_with fail;rw[rounds_succ];go_wp2_with fail
 go_region
 go_wp2_with fail;rw[rounds_succ];go_wp2_with fail
 go_region
 go_wp2_with fail;rw[rounds_succ];go_wp2_with fail;refine bodyPost_ret (v:=.agg #[.int .u64 s0,.int .u64 s1,.int .u64 s2,.int .u64 s3]) (by simp[results,results107,go_sem]) rfl ?_;refine⟨s0,s1,s2,s3,rfl,⟨b0,b1,b2,b3⟩,?_,?_⟩
 ·have:=e0.out; have:=e1.out; have:=e2.out; have:=e3.out;unfold aC lI; omega
 repeat (first|exact Below.refl _ _|refine Below.drew ?_|refine Below.alloc ?_ (by first|(simp; done)|(simp; omega)) _)
section
variable {P:Program} {ops:Array Oper} {Q:Exit→Act→World→Prop} {md:Region.Mode}
def Mx (md:Region.Mode) (ops:Array Oper) (n:Nat):Bool :=
 (List.range n).all fun i=>match ops[i]? with
  | some o=>o.after.all fun e => !Region.binds md e||decide (e.on<i)
  | none=>false
def pG (md:Region.Mode) (ops:Array Oper) (got:Nat→Bool) (i:Nat):Bool :=
 match ops[i]? with
  | some o=>o.after.all fun e => !Region.binds md e||got e.on
  | none=>false
def gR (listed:Array Bool):Nat→Nat
 | 0=>0
 | n+1=>gR listed n+if listed.getD n false=true then 0 else 1
theorem jT (listed:Array Bool) (n:Nat):gR listed (n+1)=gR listed n+if listed.getD n false=true then 0 else 1:=rfl
theorem uN {listed:Array Bool} {i:Nat} (hi:i<listed.size) (h:listed.getD i false=false):∀n,gR (listed.setIfInBounds i true) n+(if i<n then 1 else 0)=gR listed n
 | 0=>by simp[gR]
 | n+1=>by
  have ih:=uN hi h n;rw[jT,jT]
  by_cases e:i=n
  ·subst e;have h1:(listed.setIfInBounds i true).getD i false=true:=by simp[hi]
   rw[h1,h];simp at ih ⊢;omega
  ·rw[getD_set_ne false e]
   by_cases h2:i<n
   ·rw[if_pos h2]at ih; rw[if_pos (show i<n+1 by omega)]; omega
   ·rw[if_neg h2]at ih; rw[if_neg (show ¬i<n+1 by omega)]; omega
theorem mN {listed:Array Bool}:∀{n:Nat},gR listed n=0→∀j,j<n→listed.getD j false=true
 | 0,_,j,hj=>by omega
 | n+1,h,j,hj=>by
  rw[jT]at h
  by_cases e:listed.getD n false=true
  ·rw[if_pos e]at h
   rcases Nat.lt_or_ge j n with h1|h1
   ·exact mN (by omega) j h1
   ·obtain rfl:j=n:=by omega
    exact e
  ·rw[if_neg e]at h; omega
theorem mO {listed:Array Bool}:∀{n:Nat},0<gR listed n→∃j,j<n∧listed.getD j false=false∧∀k,k<j→listed.getD k false=true
 | 0,h=>by unfold gR at h; omega
 | n+1,h=>by
  rcases Nat.eq_zero_or_pos (gR listed n)with h0|h0
  ·unfold gR at h;rw[h0]at h;refine⟨n,by omega,?_,mN h0⟩;cases e:listed.getD n false with
   | true=>rw[e]at h; simp at h
   | false=>rfl
  ·obtain⟨j,hj,h1,h2⟩:=mO h0;exact⟨j,by omega,h1,h2⟩
def kU (n m:Nat):Array Bool:=Array.replicate n true++Array.replicate (m-n) false
theorem pY {n:Nat} {Inv:(Nat→Bool)→Act→World→Prop} {l:List Oper} (hl:ops=l.toArray) (hn:n<ops.size)
  (hs:Region.sinkB md ops n=true) (hc:Region.chainB md ops n=true) (hb:Mx md ops n=true) (hq:Region.seqB md ops (ops.size-n) n (kU n ops.size)=true)
  (step:∀(got:Nat→Bool) b u i,i<n→got i=false→pG md ops got i=true→Inv got b u→wpOp P ops Q i (Inv (fun j=>j==i||got j)) b u)
  (tail:∀got b u,(∀j,j<n→got j=true)→Inv got b u→wpList P ops Q (l.drop n) b u) :
  ∀(m:Nat) (listed:Array Bool) (b:Act) (u:World),HeadInv md ops n listed→gR listed n=m→Inv (fun j=>listed.getD j false) b u→wpAny P md ops Q (m+(ops.size-n)) listed b u
 | 0,listed,b,u,inv,hm,h=>by
  have hall:=mN hm;have he:listed=kU n ops.size:=by
   refine Array.ext (by simp[kU,inv.size]; omega) fun j h1 h2 => ?_
   rcases Nat.lt_or_ge j n with hj|hj
   ·have:=hall j hj;simp[h1]at this;rw[this];simp[kU,hj]
   ·have:=inv.tail j hj (by rw[←inv.size]; exact h1);simp[h1]at this;rw[this];simp[kU,hj]
  subst he;have hlen:(l.drop n).length=ops.size-n:=by subst hl; simp
  rw[Nat.zero_add,←hlen];exact wpAny_of_seq (l.drop n) n _ b u (fun j=>by subst hl; simp[List.getElem?_drop]) (by rw[hlen]; exact hq) (tail _ b u hall h)
 | m+1,listed,b,u,inv,hm,h=>by
  rw[show m+1+(ops.size-n)=m+(ops.size-n)+1 by omega];refine⟨fun h0 => ?_,fun i hi => ?_⟩
  ·obtain⟨j,hj,h1,h2⟩:=mO (n:=n) (listed:=listed) (by omega);have hjr:j∈Region.ready md ops listed:=by
    have hbj:=List.all_eq_true.1 hb j (List.mem_range.2 hj);cases ho:ops[j]? with
    | none=>rw[ho]at hbj; cases hbj
    | some o =>
     rw[ho]at hbj;refine mem_ready.2 ⟨getD_in (by rw[inv.size]; omega) h1,o,ho,fun e he hbi=>h2 _ ?_⟩;have:=(Array.all_eq_true_iff_forall_mem.1 hbj) e he;simp[hbi]at this;exact this
   rw[h0]at hjr; cases hjr
  ·obtain⟨hun,o,ho,hall⟩:=mem_ready.1 hi;have hin:i<n:=by
    rcases Nat.lt_or_ge i n with h'|h'
    ·exact h'
    ·obtain⟨j,hj,h1,h2⟩:=mO (n:=n) (listed:=listed) (by omega);exact absurd hi (tail_waits hs hc hn inv _ j rfl hj (getD_in (by rw[inv.size]; omega) h1) i h')
   have his:i<listed.size:=by rw[inv.size]; omega
   have hun':=getD_both hun;refine wpOp_mono (fun b' u' h' => ?_) (step _ b u i hin hun' (by
    unfold pG;rw[ho];refine Array.all_eq_true_iff_forall_mem.2 fun e he => ?_
    cases hbi:Region.binds md e with
    | false=>rfl
    | true=>simpa[hbi]using hall e he hbi) h)
   refine pY hl hn hs hc hb hq step tail m _ b' u' (inv.set hi hin) ?_ ?_
   ·have:=uN his hun' n;rw[if_pos hin]at this; omega
   ·have hf:(fun j=>(listed.setIfInBounds i true).getD j false)=fun j=>j==i||listed.getD j false:=by
     funext j
     by_cases e:j=i
     ·subst e; simp[his]
     ·rw[getD_set_ne false (Ne.symm e)]; simp[e]
    rw[hf]; exact h'
theorem uO (k:Nat):∀n,gR (Array.replicate k false) n=n
 | 0=>rfl
 | n+1=>by rw[jT,uO k n,getD_replicate_false]; simp
theorem tF (n:Nat) (Inv:(Nat→Bool)→Act→World→Prop) {id:Nat} {a:Act} {w:World} {l:List Oper} (hm:P.follows .mixedOrders=true) (hn:n<l.length)
  (hs:Region.sinkB .any l.toArray n=true) (hc:Region.chainB .any l.toArray n=true) (hb:Mx .any l.toArray n=true) (hq:Region.seqB .any l.toArray (l.toArray.size-n) n (kU n l.toArray.size)=true)
  (start:Inv (fun _=>false) a w.drew)
  (step:∀(got:Nat→Bool) b u i,i<n→got i=false→pG .any l.toArray got i=true→Inv got b u→wpOp P l.toArray Q i (Inv (fun j=>j==i||got j)) b u)
  (tail:∀got b u,(∀j,j<n→got j=true)→Inv got b u→wpList P l.toArray Q (l.drop n) b u):(Code.region id l.toArray true).wp P Q a w:=by
 have hn':n<l.toArray.size:=by simpa using hn
 have inv0:HeadInv .any l.toArray n (Array.replicate l.toArray.size false) :=
  ⟨by simp,fun j oj _ hl=>(by rw[getD_replicate_false]at hl; cases hl),fun t _ ht=>getD_in (by simpa using ht) (getD_replicate_false _ _)⟩
 refine wp_region_any hm ?_;have hf:(fun j=>(Array.replicate l.toArray.size false).getD j false)=fun _:Nat=>false:=by funext j; exact getD_replicate_false _ _
 have H:=pY (md:=.any) rfl hn' hs hc hb hq step tail n _ a w.drew inv0 (uO _ n) (by rw[hf]; exact start);rw[show n+(l.toArray.size-n)=l.toArray.size by omega]at H;exact H
end
structure QW (w wr:World) (A B P:Nat→Nat):Prop where
 below:Below w.heap.size w wr
 size:w.heap.size+1+1+1<wr.heap.size
 rowA:RowIs wr w.heap.size 4 A
 rowB:RowIs wr (w.heap.size+1) 4 B
 rowR:RowIs wr (w.heap.size+1+1) 4 (fun _=>0)
 rowP:RowIs wr (w.heap.size+1+1+1) 4 P
theorem QW.set {w wr:World} {A B P:Nat→Nat} (h:QW w wr A B P) {k d:Nat} (hk:k<4):QW w (wr.setCell ⟨w.heap.size+1+1+1,k,none⟩ (.int .u64 (d:Nat))) A B (iG P k d) :=
 ⟨h.below.setCell (p:=⟨w.heap.size+1+1+1,k,none⟩) (by simp; omega) _,by rw[World.size_setCell]; exact h.size,h.rowA.other (by omega) _,h.rowB.other (by omega) _,h.rowR.other (by omega) _,h.rowP.set hk⟩
theorem QW.drewN {w wr:World} {A B P:Nat→Nat} (h:QW w wr A B P) (n:Nat):QW w (wr.drewN n) A B P:=⟨h.below.trans (bI _ _ _),h.size,h.rowA,h.rowB,h.rowR,h.rowP⟩
theorem QW.start (w:World) (a0 a1 a2 a3 b0 b1 b2 b3:Nat) (t:TypeId):QW w ((((w.alloc (.cells #[.int .u64 a0,.int .u64 a1,.int .u64 a2,.int .u64 a3] t)).alloc (.cells #[.int .u64 b0,.int .u64 b1,.int .u64 b2,.int .u64 b3] t)).alloc (.cells #[.int .u64 0,.int .u64 0,.int .u64 0,.int .u64 0] t)).alloc (.cells #[.int .u64 0,.int .u64 0,.int .u64 0,.int .u64 0] t)) (dL [a0,a1,a2,a3]) (dL [b0,b1,b2,b3]) (fun _=>0):=by
 refine⟨?_,by simp,?_,?_,?_,?_⟩
 ·repeat (first|exact Below.refl _ _|refine Below.alloc ?_ (by first|(simp; done)|(simp; omega)) _)
 ·exact RowIs.mk4 (by simp[go_sem]) (by simp[go_sem]) (by simp[go_sem]) (by simp[go_sem]) (fun k=>by simp[go_sem])
 ·exact RowIs.mk4 (by simp[go_sem]) (by simp[go_sem]) (by simp[go_sem]) (by simp[go_sem]) (fun k=>by simp[go_sem])
 ·intro k hk
  match k,hk with
  | 0,_|1,_|2,_|3,_=>exact⟨by simp[go_sem],by simp[go_sem]⟩
 ·intro k hk
  match k,hk with
  | 0,_|1,_|2,_|3,_=>exact⟨by simp[go_sem],by simp[go_sem]⟩
theorem readyB_at {ops:Array Oper} {got:Nat→Bool} {i:Nat} {o:Oper} {e:Edge} (h:pG .any ops got i=true) (ho:ops[i]?=some o) (he:e∈o.after) (hb:Region.binds .any e=true):got e.on=true:=by
 unfold pG at h;rw[ho]at h;have:=(Array.all_eq_true_iff_forall_mem.1 h) e he;simpa[hb]using this
def HalfV (A:Nat) (t:Value):Prop:=∃x0 x1 x2 x3 x4 x5 x6 x7:Nat,t=.agg #[.int .u64 x0,.int .u64 x1,.int .u64 x2,.int .u64 x3,.int .u64 x4,.int .u64 x5,.int .u64 x6,.int .u64 x7]∧RR x0 x1 x2 x3 x4 x5 x6 x7∧Hid (lI x0 x1 x2 x3 x4 x5 x6 x7=A)
def FreshZ (wr u:World) (t:Value):Prop:=∃p,t=.pointer (some ⟨p,0,none⟩)∧wr.heap.size≤p∧p<u.heap.size∧RowIs u p 8 (fun _=>0)
theorem FreshZ.grow {wr u u':World} {t:Value} (h:FreshZ wr u t) (hb:Below u.heap.size u u'):FreshZ wr u' t:=by
 obtain⟨p,e,h1,h2,r⟩:=h;exact⟨p,e,h1,Nat.lt_of_lt_of_le h2 hb.size,r.below hb h2⟩
theorem fresh_new (wr u:World) (hs:wr.heap.size≤u.heap.size) (t:TypeId):FreshZ wr (u.alloc (.cells #[.int .u64 0,.int .u64 0,.int .u64 0,.int .u64 0,.int .u64 0,.int .u64 0,.int .u64 0,.int .u64 0] t)) (.pointer (some ⟨u.heap.size,0,none⟩)) :=
 ⟨_,rfl,hs,by simp,by
  intro k hk;refine⟨?_,World.frozen?_alloc_new _ _ _ _⟩;rw[World.cell?_alloc_new]
  match k,hk with
  | 0,_|1,_|2,_|3,_|4,_|5,_|6,_|7,_=>rfl⟩
theorem below_alloc (u:World) (o:Obj):Below u.heap.size u (u.alloc o):=(Below.refl _ _).alloc (Nat.le_refl _) o
theorem fresh_ne {wr u:World} {t:Value} (h:FreshZ wr u t):t ≠ .pointer (some ⟨u.heap.size,0,none⟩):=by
 obtain⟨p,rfl,_,h2,_⟩:=h;intro e;injection e with e;injection e with e;injection e with e;omega
def set8 (w:World) (b:Nat) (d0 d1 d2 d3 d4 d5 d6 d7:Nat):World :=
 (((((((w.setCell ⟨b,0,none⟩ (.int .u64 d0)).setCell ⟨b,1,none⟩ (.int .u64 d1)).setCell ⟨b,2,none⟩ (.int .u64 d2)).setCell ⟨b,3,none⟩ (.int .u64 d3)).setCell ⟨b,4,none⟩ (.int .u64 d4)).setCell ⟨b,5,none⟩ (.int .u64 d5)).setCell ⟨b,6,none⟩ (.int .u64 d6)).setCell ⟨b,7,none⟩ (.int .u64 d7)
theorem RowIs.ext {w:World} {b n:Nat} {P R:Nat→Nat} (h:RowIs w b n P) (e:∀k,k<n→P k=R k):RowIs w b n R:=fun k hk=>⟨by rw[←e k hk]; exact h.cell hk,h.free hk⟩
theorem RowIs.set8 {w:World} {b:Nat} {P:Nat→Nat} (h:RowIs w b 8 P) (d0 d1 d2 d3 d4 d5 d6 d7:Nat):RowIs (Go.Proofs.YtpbljiejmfahcaaGreatDoor.set8 w b d0 d1 d2 d3 d4 d5 d6 d7) b 8 (dL [d0,d1,d2,d3,d4,d5,d6,d7]):=by
 have r:=(((((((h.set (show 0<8 by omega) (v:=d0)).set (show 1<8 by omega) (v:=d1)).set (show 2<8 by omega) (v:=d2)).set (show 3<8 by omega) (v:=d3)).set (show 4<8 by omega) (v:=d4)).set (show 5<8 by omega) (v:=d5)).set (show 6<8 by omega) (v:=d6)).set (show 7<8 by omega) (v:=d7);unfold Go.Proofs.YtpbljiejmfahcaaGreatDoor.set8;refine r.ext fun k hk => ?_
 match k,hk with
 | 0,_|1,_|2,_|3,_|4,_|5,_|6,_|7,_=>rfl
theorem RowIs.set8_other {w:World} {b c n:Nat} {P:Nat→Nat} (h:RowIs w b n P) (hc:c≠b) (d0 d1 d2 d3 d4 d5 d6 d7:Nat):RowIs (Go.Proofs.YtpbljiejmfahcaaGreatDoor.set8 w c d0 d1 d2 d3 d4 d5 d6 d7) b n P :=
 (((((((h.other hc _).other hc _).other hc _).other hc _).other hc _).other hc _).other hc _).other hc _
theorem below_set8 {B:Nat} {w w':World} {b:Nat} (h:Below B w w') (hb:B≤b) (d0 d1 d2 d3 d4 d5 d6 d7:Nat):Below B w (set8 w' b d0 d1 d2 d3 d4 d5 d6 d7) :=
 (((((((h.setCell (p:=⟨b,0,none⟩) hb _).setCell (p:=⟨b,1,none⟩) hb _).setCell (p:=⟨b,2,none⟩) hb _).setCell (p:=⟨b,3,none⟩) hb _).setCell (p:=⟨b,4,none⟩) hb _).setCell (p:=⟨b,5,none⟩) hb _).setCell (p:=⟨b,6,none⟩) hb _).setCell (p:=⟨b,7,none⟩) hb _
theorem size_set8 (w:World) (b d0 d1 d2 d3 d4 d5 d6 d7:Nat):(set8 w b d0 d1 d2 d3 d4 d5 d6 d7).heap.size=w.heap.size:=by
 unfold set8; simp only[World.size_setCell]
theorem fnOf8_lt {x0 x1 x2 x3 x4 x5 x6 x7:Nat} (h:RR x0 x1 x2 x3 x4 x5 x6 x7) (k:Nat):dL [x0,x1,x2,x3,x4,x5,x6,x7] k<4294967296:=by
 obtain⟨h0,h1,h2,h3,h4,h5,h6,h7⟩:=h;unfold dL
 match k with
 | 0=>exact h0
 | 1=>exact h1
 | 2=>exact h2
 | 3=>exact h3
 | 4=>exact h4
 | 5=>exact h5
 | 6=>exact h6
 | 7=>exact h7
 | k+8=>simp
theorem val8_tot (P:Nat→Nat):lI (P 0) (P 1) (P 2) (P 3) (P 4) (P 5) (P 6) (P 7)=eR 4294967296 P 8:=by
 unfold lI;simp only[eR];omega
structure R3 (got:Nat→Bool) (wr:World) (f:Int) (F:FC) (a0 a1 a2 a3 b0 b1 b2 b3:Nat) (t7 t8 t9 s21 s22 s23 s24 s25 s26 s27:Value) (u:World):Prop where
 below:Below wr.heap.size wr u
 g0:got 0=true→s21=.agg #[.int .u64 a0,.int .u64 a1,.int .u64 a2,.int .u64 a3]
 g1:got 1=true→HalfV (aC a0 a1 a2 a3) s22
 g2:got 2=true→s23=.agg #[.int .u64 b0,.int .u64 b1,.int .u64 b2,.int .u64 b3]
 g3:got 3=true→HalfV (aC b0 b1 b2 b3) s24
 g4:got 4=true→s25=.int .i64 f
 g5:got 5=true→s26=.agg #[.int .u64 F.m0,.int .u64 F.m1,.int .u64 F.m2,.int .u64 F.m3]
 g6:got 6=true→HalfV F.M s27
 g7:got 7=true→FreshZ wr u t7
 g8:got 8=true→FreshZ wr u t8
 g9:got 9=true→FreshZ wr u t9
 n78:got 7=true→got 8=true→t7≠t8
 n79:got 7=true→got 9=true→t7≠t9
 n89:got 8=true→got 9=true→t8≠t9
section
variable {got:Nat→Bool} {wr u u':World} {f:Int} {F:FC} {a0 a1 a2 a3 b0 b1 b2 b3:Nat} {t7 t8 t9 s21 s22 s23 s24 s25 s26 s27:Value}
theorem R3.start (wr:World) (f:Int) (F:FC) (a0 a1 a2 a3 b0 b1 b2 b3:Nat):R3 (fun _=>false) wr f F a0 a1 a2 a3 b0 b1 b2 b3 undef undef undef undef undef undef undef undef undef undef wr.drew :=
 ⟨(Below.refl _ _).drew,fun h=>Bool.noConfusion h,fun h=>Bool.noConfusion h,fun h=>Bool.noConfusion h,fun h=>Bool.noConfusion h,fun h=>Bool.noConfusion h,fun h=>Bool.noConfusion h,fun h=>Bool.noConfusion h,fun h=>Bool.noConfusion h,fun h=>Bool.noConfusion h,fun h=>Bool.noConfusion h,fun h=>Bool.noConfusion h,fun h=>Bool.noConfusion h,fun h=>Bool.noConfusion h⟩
theorem R3.op0 (h:R3 got wr f F a0 a1 a2 a3 b0 b1 b2 b3 t7 t8 t9 s21 s22 s23 s24 s25 s26 s27 u):R3 (fun j=>j==0||got j) wr f F a0 a1 a2 a3 b0 b1 b2 b3 t7 t8 t9 (.agg #[.int .u64 a0,.int .u64 a1,.int .u64 a2,.int .u64 a3]) s22 s23 s24 s25 s26 s27 u :=
 ⟨h.below,fun _=>rfl,fun e=>h.g1 (by simpa using e),fun e=>h.g2 (by simpa using e),fun e=>h.g3 (by simpa using e),fun e=>h.g4 (by simpa using e),fun e=>h.g5 (by simpa using e),fun e=>h.g6 (by simpa using e),fun e=>h.g7 (by simpa using e),fun e=>h.g8 (by simpa using e),fun e=>h.g9 (by simpa using e),fun e e'=>h.n78 (by simpa using e) (by simpa using e'),fun e e'=>h.n79 (by simpa using e) (by simpa using e'),fun e e'=>h.n89 (by simpa using e) (by simpa using e')⟩
theorem R3.op1 (h:R3 got wr f F a0 a1 a2 a3 b0 b1 b2 b3 t7 t8 t9 s21 s22 s23 s24 s25 s26 s27 u) {x:Value} (hx:HalfV (aC a0 a1 a2 a3) x):R3 (fun j=>j==1||got j) wr f F a0 a1 a2 a3 b0 b1 b2 b3 t7 t8 t9 s21 x s23 s24 s25 s26 s27 u :=
 ⟨h.below,fun e=>h.g0 (by simpa using e),fun _=>hx,fun e=>h.g2 (by simpa using e),fun e=>h.g3 (by simpa using e),fun e=>h.g4 (by simpa using e),fun e=>h.g5 (by simpa using e),fun e=>h.g6 (by simpa using e),fun e=>h.g7 (by simpa using e),fun e=>h.g8 (by simpa using e),fun e=>h.g9 (by simpa using e),fun e e'=>h.n78 (by simpa using e) (by simpa using e'),fun e e'=>h.n79 (by simpa using e) (by simpa using e'),fun e e'=>h.n89 (by simpa using e) (by simpa using e')⟩
theorem R3.op2 (h:R3 got wr f F a0 a1 a2 a3 b0 b1 b2 b3 t7 t8 t9 s21 s22 s23 s24 s25 s26 s27 u):R3 (fun j=>j==2||got j) wr f F a0 a1 a2 a3 b0 b1 b2 b3 t7 t8 t9 s21 s22 (.agg #[.int .u64 b0,.int .u64 b1,.int .u64 b2,.int .u64 b3]) s24 s25 s26 s27 u :=
 ⟨h.below,fun e=>h.g0 (by simpa using e),fun e=>h.g1 (by simpa using e),fun _=>rfl,fun e=>h.g3 (by simpa using e),fun e=>h.g4 (by simpa using e),fun e=>h.g5 (by simpa using e),fun e=>h.g6 (by simpa using e),fun e=>h.g7 (by simpa using e),fun e=>h.g8 (by simpa using e),fun e=>h.g9 (by simpa using e),fun e e'=>h.n78 (by simpa using e) (by simpa using e'),fun e e'=>h.n79 (by simpa using e) (by simpa using e'),fun e e'=>h.n89 (by simpa using e) (by simpa using e')⟩
theorem R3.op3 (h:R3 got wr f F a0 a1 a2 a3 b0 b1 b2 b3 t7 t8 t9 s21 s22 s23 s24 s25 s26 s27 u) {x:Value} (hx:HalfV (aC b0 b1 b2 b3) x):R3 (fun j=>j==3||got j) wr f F a0 a1 a2 a3 b0 b1 b2 b3 t7 t8 t9 s21 s22 s23 x s25 s26 s27 u :=
 ⟨h.below,fun e=>h.g0 (by simpa using e),fun e=>h.g1 (by simpa using e),fun e=>h.g2 (by simpa using e),fun _=>hx,fun e=>h.g4 (by simpa using e),fun e=>h.g5 (by simpa using e),fun e=>h.g6 (by simpa using e),fun e=>h.g7 (by simpa using e),fun e=>h.g8 (by simpa using e),fun e=>h.g9 (by simpa using e),fun e e'=>h.n78 (by simpa using e) (by simpa using e'),fun e e'=>h.n79 (by simpa using e) (by simpa using e'),fun e e'=>h.n89 (by simpa using e) (by simpa using e')⟩
theorem R3.op4 (h:R3 got wr f F a0 a1 a2 a3 b0 b1 b2 b3 t7 t8 t9 s21 s22 s23 s24 s25 s26 s27 u):R3 (fun j=>j==4||got j) wr f F a0 a1 a2 a3 b0 b1 b2 b3 t7 t8 t9 s21 s22 s23 s24 (.int .i64 f) s26 s27 u :=
 ⟨h.below,fun e=>h.g0 (by simpa using e),fun e=>h.g1 (by simpa using e),fun e=>h.g2 (by simpa using e),fun e=>h.g3 (by simpa using e),fun _=>rfl,fun e=>h.g5 (by simpa using e),fun e=>h.g6 (by simpa using e),fun e=>h.g7 (by simpa using e),fun e=>h.g8 (by simpa using e),fun e=>h.g9 (by simpa using e),fun e e'=>h.n78 (by simpa using e) (by simpa using e'),fun e e'=>h.n79 (by simpa using e) (by simpa using e'),fun e e'=>h.n89 (by simpa using e) (by simpa using e')⟩
theorem R3.op5 (h:R3 got wr f F a0 a1 a2 a3 b0 b1 b2 b3 t7 t8 t9 s21 s22 s23 s24 s25 s26 s27 u):R3 (fun j=>j==5||got j) wr f F a0 a1 a2 a3 b0 b1 b2 b3 t7 t8 t9 s21 s22 s23 s24 s25 (.agg #[.int .u64 F.m0,.int .u64 F.m1,.int .u64 F.m2,.int .u64 F.m3]) s27 u :=
 ⟨h.below,fun e=>h.g0 (by simpa using e),fun e=>h.g1 (by simpa using e),fun e=>h.g2 (by simpa using e),fun e=>h.g3 (by simpa using e),fun e=>h.g4 (by simpa using e),fun _=>rfl,fun e=>h.g6 (by simpa using e),fun e=>h.g7 (by simpa using e),fun e=>h.g8 (by simpa using e),fun e=>h.g9 (by simpa using e),fun e e'=>h.n78 (by simpa using e) (by simpa using e'),fun e e'=>h.n79 (by simpa using e) (by simpa using e'),fun e e'=>h.n89 (by simpa using e) (by simpa using e')⟩
theorem R3.grow (h:R3 got wr f F a0 a1 a2 a3 b0 b1 b2 b3 t7 t8 t9 s21 s22 s23 s24 s25 s26 s27 u) (hb:Below u.heap.size u u'):R3 got wr f F a0 a1 a2 a3 b0 b1 b2 b3 t7 t8 t9 s21 s22 s23 s24 s25 s26 s27 u' :=
 ⟨h.below.trans (hb.mono h.below.size),h.g0,h.g1,h.g2,h.g3,h.g4,h.g5,h.g6,fun e=>(h.g7 e).grow hb,fun e=>(h.g8 e).grow hb,fun e=>(h.g9 e).grow hb,h.n78,h.n79,h.n89⟩
end
structure ThreeH (wr u:World) (p q r:Nat) (X Y Z:Nat→Nat) (A B M:Nat):Prop where
 below:Below wr.heap.size wr u
 lp:wr.heap.size≤p
 lq:wr.heap.size≤q
 lr:wr.heap.size≤r
 up:p<u.heap.size
 uq:q<u.heap.size
 ur:r<u.heap.size
 pq:p≠q
 pr:p≠r
 qr:q≠r
 rowX:RowIs u p 8 X
 rowY:RowIs u q 8 Y
 rowZ:RowIs u r 8 Z
 ltX:∀k,X k<4294967296
 ltY:∀k,Y k<4294967296
 ltZ:∀k,Z k<4294967296
 eX:eR 4294967296 X 8=A
 eY:eR 4294967296 Y 8=B
 eZ:eR 4294967296 Z 8=M
theorem ThreeH.store {wr u:World} {p q r A B M x0 x1 x2 x3 x4 x5 x6 x7 y0 y1 y2 y3 y4 y5 y6 y7 z0 z1 z2 z3 z4 z5 z6 z7:Nat} (hx:RR x0 x1 x2 x3 x4 x5 x6 x7) (hy:RR y0 y1 y2 y3 y4 y5 y6 y7) (hz:RR z0 z1 z2 z3 z4 z5 z6 z7) (ex:Hid (lI x0 x1 x2 x3 x4 x5 x6 x7=A)) (ey:Hid (lI y0 y1 y2 y3 y4 y5 y6 y7=B)) (ez:Hid (lI z0 z1 z2 z3 z4 z5 z6 z7=M))
  (lp:wr.heap.size≤p) (lq:wr.heap.size≤q) (lr:wr.heap.size≤r) (up:p<u.heap.size) (uq:q<u.heap.size) (ur:r<u.heap.size) (pq:p≠q) (pr:p≠r) (qr:q≠r) (rp:RowIs u p 8 (fun _=>0)) (rq:RowIs u q 8 (fun _=>0)) (rr:RowIs u r 8 (fun _=>0)) (hbl:Below wr.heap.size wr u) :
  ThreeH wr (set8 (set8 (set8 u p x0 x1 x2 x3 x4 x5 x6 x7) q y0 y1 y2 y3 y4 y5 y6 y7) r z0 z1 z2 z3 z4 z5 z6 z7) p q r (dL [x0,x1,x2,x3,x4,x5,x6,x7]) (dL [y0,y1,y2,y3,y4,y5,y6,y7]) (dL [z0,z1,z2,z3,z4,z5,z6,z7]) A B M :=
 ⟨below_set8 (below_set8 (below_set8 hbl lp _ _ _ _ _ _ _ _) lq _ _ _ _ _ _ _ _) lr _ _ _ _ _ _ _ _,lp,lq,lr,by rw[size_set8,size_set8,size_set8]; exact up,by rw[size_set8,size_set8,size_set8]; exact uq,by rw[size_set8,size_set8,size_set8]; exact ur,pq,pr,qr,
  ((rp.set8 _ _ _ _ _ _ _ _).set8_other (fun e=>pq e.symm) _ _ _ _ _ _ _ _).set8_other (fun e=>pr e.symm) _ _ _ _ _ _ _ _,((rq.set8_other pq _ _ _ _ _ _ _ _).set8 _ _ _ _ _ _ _ _).set8_other (fun e=>qr e.symm) _ _ _ _ _ _ _ _,((rr.set8_other pr _ _ _ _ _ _ _ _).set8_other qr _ _ _ _ _ _ _ _).set8 _ _ _ _ _ _ _ _,fnOf8_lt hx,fnOf8_lt hy,fnOf8_lt hz,
  (val8_tot (dL [x0,x1,x2,x3,x4,x5,x6,x7])).symm.trans ex.out,(val8_tot (dL [y0,y1,y2,y3,y4,y5,y6,y7])).symm.trans ey.out,(val8_tot (dL [z0,z1,z2,z3,z4,z5,z6,z7])).symm.trans ez.out⟩
structure MT (w wr:World) (p q r t:Nat) (X Y Z P:Nat→Nat):Prop where
 below:Below w.heap.size w wr
 res:Row4 wr (w.heap.size+1+1) 0 0 0 0
 rowX:RowIs wr p 8 X
 rowY:RowIs wr q 8 Y
 rowZ:RowIs wr r 8 Z
 rowP:RowIs wr t 10 P
 lt:∀k,P k<4294967296
section
variable {w wr:World} {p q r t:Nat} {X Y Z P:Nat→Nat}
theorem MT.set (h:MT w wr p q r t X Y Z P) (h2:w.heap.size+1+1<t) (pt:p<t) (qt:q<t) (rt:r<t) {k d:Nat} (hk:k<10) (hd:d<4294967296) :
  MT w (wr.setCell ⟨t,k,none⟩ (.int .u64 (d:Nat))) p q r t X Y Z (iG P k d) :=
 ⟨h.below.setCell (p:=⟨t,k,none⟩) (by show w.heap.size≤t; omega) _,h.res.other (by omega) _,h.rowX.other (by omega) _,h.rowY.other (by omega) _,h.rowZ.other (by omega) _,h.rowP.set hk,
  fun j=>by unfold iG; split; exact hd; exact h.lt j⟩
theorem MT.drewN (h:MT w wr p q r t X Y Z P) (n:Nat):MT w (wr.drewN n) p q r t X Y Z P:=⟨h.below.trans (bI _ _ _),h.res.drewN n,h.rowX,h.rowY,h.rowZ,h.rowP,h.lt⟩
end
structure OW (w wr:World) (t o:Nat) (P O:Nat→Nat):Prop where
 below:Below w.heap.size w wr
 res:Row4 wr (w.heap.size+1+1) 0 0 0 0
 rowP:RowIs wr t 10 P
 rowO:RowIs wr o 4 O
 lo:o<wr.heap.size
theorem OW.drewN {w wr:World} {t o:Nat} {P O:Nat→Nat} (h:OW w wr t o P O) (n:Nat):OW w (wr.drewN n) t o P O:=⟨h.below.trans (bI _ _ _),h.res.drewN n,h.rowP,h.rowO,h.lo⟩
theorem OW.set {w wr:World} {t o:Nat} {P O:Nat→Nat} (h:OW w wr t o P O) (h2:w.heap.size+1+1<t) (ht:t<o) {k d:Nat} (hk:k<4):OW w (wr.setCell ⟨o,k,none⟩ (.int .u64 (d:Nat))) t o P (iG O k d) :=
 ⟨h.below.setCell (p:=⟨o,k,none⟩) (by show w.heap.size≤o; omega) _,h.res.other (by omega) _,h.rowP.other (by omega) _,h.rowO.set hk,by rw[World.size_setCell]; exact h.lo⟩
end Go.Proofs.YtpbljiejmfahcaaGreatDoor
namespace Go.Proofs.YtpbljiejmfahcaaGreatDoor.Ex
open Go.Proofs.Tryz
open Go.RowKit
def LW (w:World) (v:Value) (N:Nat) (f:Nat→Nat):Prop:=∃p m,v=.slice p N m∧(∀j,j<N→f j<aF)∧(0<N→∃b o,p=some ⟨b,o,none⟩∧b<w.heap.size∧w.rangeAt b o (aA (bP (el f) 0 N)))
theorem LV.lw {w:World} {v:Value} {N:Nat} {f:Nat→Nat} (h:LV w v N f):LW w v N f:=by
 obtain⟨p,m,h1,_,h3,h4⟩:=h;exact⟨p,m,h1,h3,h4⟩
def aCN (N:Nat) (f:Nat→Nat) (M:Nat) (g:Nat→Nat):Prop:=N=M∧∀j,j<N→f j=g j
instance (N:Nat) (f:Nat→Nat) (M:Nat) (g:Nat→Nat):Decidable (aCN N f M g):=@instDecidableAnd _ _ _ (Nat.decidableBallLT N fun j _=>f j=g j)
end Go.Proofs.YtpbljiejmfahcaaGreatDoor.Ex
namespace Go.Proofs.YtpbljiejmfahcaaGreatDoor
open Go.Proofs.Tryz
theorem Gf:dO 967:=aQ 967 31 (by decide) (by decide) (by kernel_rfl)
theorem XA:dO 4139:=aQ 4139 64 (by decide) (by decide) (by kernel_rfl)
theorem Gn:dO 349:=aQ 349 18 (by decide) (by decide) (by kernel_rfl)
theorem RC:dO 43189:=aQ 43189 207 (by decide) (by decide) (by kernel_rfl)
theorem XF:dO 2837:=aQ 2837 53 (by decide) (by decide) (by kernel_rfl)
theorem DT:Root 295049 3:=by
 refine bH (l:=[2,2,2,13,2837]) (by kernel_rfl) fun q hq => ?_
 simp only[List.mem_cons,List.not_mem_nil,or_false]at hq
 rcases hq with rfl|rfl|rfl|rfl|rfl
 ·exact aZ
 ·exact aZ
 ·exact aZ
 ·exact vB
 ·exact XF
theorem JZ:dO 295049:=DT.prm
theorem sF:Root 25485742523 2:=by
 refine bH (l:=[2,43189,295049]) (by kernel_rfl) fun q hq => ?_
 simp only[List.mem_cons,List.not_mem_nil,or_false]at hq
 rcases hq with rfl|rfl|rfl
 ·exact aZ
 ·exact RC
 ·exact JZ
theorem tV:dO 25485742523:=sF.prm
theorem kN:Root 202795150404015601 7:=by
 refine bH (l:=[2,2,2,2,3,5,5,19,349,25485742523]) (by kernel_rfl) fun q hq => ?_
 simp only[List.mem_cons,List.not_mem_nil,or_false]at hq
 rcases hq with rfl|rfl|rfl|rfl|rfl|rfl|rfl|rfl|rfl|rfl
 ·exact aZ
 ·exact aZ
 ·exact aZ
 ·exact aZ
 ·exact fG
 ·exact iR
 ·exact iR
 ·exact sI
 ·exact Gn
 ·exact tV
theorem lR:dO 202795150404015601:=kN.prm
theorem jI:Root 431548080059745198929 3:=by
 refine bH (l:=[2,2,2,2,7,19,202795150404015601]) (by kernel_rfl) fun q hq => ?_
 simp only[List.mem_cons,List.not_mem_nil,or_false]at hq
 rcases hq with rfl|rfl|rfl|rfl|rfl|rfl|rfl
 ·exact aZ
 ·exact aZ
 ·exact aZ
 ·exact aZ
 ·exact vA
 ·exact sI
 ·exact lR
theorem jR:dO 431548080059745198929:=jI.prm
theorem gO:Root 32151195060611136810608359 3:=by
 refine bH (l:=[2,3,3,4139,431548080059745198929]) (by kernel_rfl) fun q hq => ?_
 simp only[List.mem_cons,List.not_mem_nil,or_false]at hq
 rcases hq with rfl|rfl|rfl|rfl|rfl
 ·exact aZ
 ·exact fG
 ·exact fG
 ·exact XA
 ·exact jR
theorem gV:dO 32151195060611136810608359:=gO.prm
theorem WY:dO 6323:=aQ 6323 79 (by decide) (by decide) (by kernel_rfl)
theorem Gr:dO 257:=aQ 257 16 (by decide) (by decide) (by kernel_rfl)
theorem DR:Root 336157 2:=by
 refine bH (l:=[2,2,3,109,257]) (by kernel_rfl) fun q hq => ?_
 simp only[List.mem_cons,List.not_mem_nil,or_false]at hq
 rcases hq with rfl|rfl|rfl|rfl|rfl
 ·exact aZ
 ·exact aZ
 ·exact fG
 ·exact OM
 ·exact Gr
theorem JX:dO 336157:=DR.prm
theorem RF:dO 33409:=aQ 33409 182 (by decide) (by decide) (by kernel_rfl)
theorem Pn:dO 23:=aQ 23 4 (by decide) (by decide) (by kernel_rfl)
theorem Gk:dO 521:=aQ 521 22 (by decide) (by decide) (by kernel_rfl)
theorem RG:dO 27743:=aQ 27743 166 (by decide) (by decide) (by kernel_rfl)
theorem Gt:dO 139:=aQ 139 11 (by decide) (by decide) (by kernel_rfl)
theorem DV:Root 128437 5:=by
 refine bH (l:=[2,2,3,7,11,139]) (by kernel_rfl) fun q hq => ?_
 simp only[List.mem_cons,List.not_mem_nil,or_false]at hq
 rcases hq with rfl|rfl|rfl|rfl|rfl|rfl
 ·exact aZ
 ·exact aZ
 ·exact fG
 ·exact vA
 ·exact sJ
 ·exact Gt
theorem KB:dO 128437:=DV.prm
theorem DQ:Root 513749 2:=by
 refine bH (l:=[2,2,128437]) (by kernel_rfl) fun q hq => ?_
 simp only[List.mem_cons,List.not_mem_nil,or_false]at hq
 rcases hq with rfl|rfl|rfl
 ·exact aZ
 ·exact aZ
 ·exact KB
theorem JW:dO 513749:=DQ.prm
theorem XI:dO 1061:=aQ 1061 32 (by decide) (by decide) (by kernel_rfl)
theorem xJ:Root 10206821 2:=by
 refine bH (l:=[2,2,5,13,37,1061]) (by kernel_rfl) fun q hq => ?_
 simp only[List.mem_cons,List.not_mem_nil,or_false]at hq
 rcases hq with rfl|rfl|rfl|rfl|rfl|rfl
 ·exact aZ
 ·exact aZ
 ·exact iR
 ·exact vB
 ·exact XB
 ·exact XI
theorem AP:dO 10206821:=xJ.prm
theorem xH:Root 81654569 3:=by
 refine bH (l:=[2,2,2,10206821]) (by kernel_rfl) fun q hq => ?_
 simp only[List.mem_cons,List.not_mem_nil,or_false]at hq
 rcases hq with rfl|rfl|rfl|rfl
 ·exact aZ
 ·exact aZ
 ·exact aZ
 ·exact AP
theorem AO:dO 81654569:=xH.prm
theorem iM:Root 27892051421815855583579 2:=by
 refine bH (l:=[2,23,521,27743,513749,81654569]) (by kernel_rfl) fun q hq => ?_
 simp only[List.mem_cons,List.not_mem_nil,or_false]at hq
 rcases hq with rfl|rfl|rfl|rfl|rfl|rfl
 ·exact aZ
 ·exact Pn
 ·exact Gk
 ·exact RG
 ·exact JW
 ·exact AO
theorem iX:dO 27892051421815855583579:=iM.prm
theorem gG:Root 1863691091902891838383581623 5:=by
 refine bH (l:=[2,33409,27892051421815855583579]) (by kernel_rfl) fun q hq => ?_
 simp only[List.mem_cons,List.not_mem_nil,or_false]at hq
 rcases hq with rfl|rfl|rfl
 ·exact aZ
 ·exact RF
 ·exact iX
theorem gJ:dO 1863691091902891838383581623:=gG.prm
theorem dQ:Root 178259130663561045147472537592047227885001 14:=by
 refine bH (l:=[2,2,2,3,3,5,5,5,5,6323,336157,1863691091902891838383581623]) (by kernel_rfl) fun q hq => ?_
 simp only[List.mem_cons,List.not_mem_nil,or_false]at hq
 rcases hq with rfl|rfl|rfl|rfl|rfl|rfl|rfl|rfl|rfl|rfl|rfl|rfl
 ·exact aZ
 ·exact aZ
 ·exact aZ
 ·exact fG
 ·exact fG
 ·exact iR
 ·exact iR
 ·exact iR
 ·exact iR
 ·exact WY
 ·exact JX
 ·exact gJ
theorem eI:dO 178259130663561045147472537592047227885001:=dQ.prm
theorem bV:Root 2736030358979909402780800718157159386076813972158567259200215660948447373041 31:=by
 refine bH (l:=[2,2,2,2,3,5,11,11,17,967,32151195060611136810608359,178259130663561045147472537592047227885001]) (by kernel_rfl) fun q hq => ?_
 simp only[List.mem_cons,List.not_mem_nil,or_false]at hq
 rcases hq with rfl|rfl|rfl|rfl|rfl|rfl|rfl|rfl|rfl|rfl|rfl|rfl
 ·exact aZ
 ·exact aZ
 ·exact aZ
 ·exact aZ
 ·exact fG
 ·exact iR
 ·exact sJ
 ·exact sJ
 ·exact XG
 ·exact Gf
 ·exact gV
 ·exact eI
theorem bW:dO 2736030358979909402780800718157159386076813972158567259200215660948447373041:=bV.prm
end Go.Proofs.YtpbljiejmfahcaaGreatDoor
namespace Go.Proofs.YtpbljiejmfahcaaGreatDoor.Ex
open Go.Proofs.Tryz
open Go.RowKit
namespace AG
variable {G:Type} (A:AG G)
end AG
def l4:Nat:=10944121435919637611123202872628637544307255888634269036800862643793789492164
open Go.RowKit
def pN (n:Nat):NP:=mY (bX,bY) n
theorem XS (n:Nat):pN n=cj (eO.grp.ns (wv n) (jp xW)):=AX (p:=(bX,bY)) xW n
theorem lT (n:Nat):fS (pN n)=0:=by
 rw[XS,Kp (kH _),GD,if_pos];rw[←eO.grp.ns_mul,Nat.mul_comm,eO.grp.ns_mul,show eO.grp.ns lJ (jp xW)=eO.grp.zero from PY,eO.grp.ns_zero]
theorem qR (n:Nat):OnJ (pN n).1 (pN n).2:=by rw[XS]; exact kH _
end Go.Proofs.YtpbljiejmfahcaaGreatDoor.Ex
namespace Go.Proofs.YtpbljiejmfahcaaGreatDoor
open Go.Proofs.Tryz
open Go.RowKit
def nI (c:UInt8):Bool:=decide (48≤c.toNat∧c.toNat≤57)
def PH:List UInt8→Bool
 | []=>false
 | c::_=>decide (c.toNat≠48)
def oR (l:List UInt8):Bool:=l.all nI&&(decide (l=[48])||PH l)
theorem qV {l:List UInt8} {k:Nat} (hk:k<l.length) (h:nI l[k]=false):oR l=false:=by
 unfold oR;have:l.all nI=false:=by
  rw[List.all_eq_false];exact⟨l[k],List.getElem_mem hk,by simp[h]⟩
 rw[this]; rfl
theorem YF {l:List UInt8} (h:∀k (hk:k<l.length),nI l[k]=true):oR l=(decide (l=[48])||PH l):=by
 unfold oR;have:l.all nI=true:=by
  rw[List.all_eq_true];intro x hx;obtain⟨k,hk,rfl⟩:=List.getElem_of_mem hx;exact h k hk
 rw[this]; rfl
theorem yR (l:List UInt8) (h:0<l.length):PH l=decide (l[0].toNat≠48):=by
 match l,h with
 | c::t,_=>rfl
def qU (v:Nat) (c:UInt8):Nat:=v*10+(c.toNat-48)
def cI (l:List UInt8):Nat:=l.foldl qU 0
theorem Jm (l:List UInt8):∀v,v≤l.foldl qU v:=by
 induction l with
 | nil=>intro v; exact Nat.le_refl _
 | cons c t ih=>intro v; exact Nat.le_trans (by unfold qU; omega) (ih (qU v c))
theorem jY (l:List UInt8) (k:Nat):cI (l.take k)≤cI l:=by
 have h:cI l=(l.drop k).foldl qU (cI (l.take k)):=by
  unfold cI;rw[←List.foldl_append,List.take_append_drop]
 rw[h]; exact Jm _ _
theorem tJ {l:List UInt8} {k:Nat} (h:k<l.length):cI (l.take (k+1))=cI (l.take k)*10+(l[k].toNat-48):=by
 rw[List.take_succ_eq_append_getElem h];unfold cI;rw[List.foldl_append];rfl
def eJ (l:List UInt8):Nat×Nat :=
 if oR l=false then (0,11)else if 78<l.length then (0,4)else if 115792089237316195423570985008687907853269984665640564039457584007913129639936≤cI l then (0,4)else (cI l,0)
theorem lS {l:List UInt8} (h:oR l=false):eJ l=(0,11):=by unfold eJ; rw[if_pos h]
theorem tG {l:List UInt8} (h:oR l=true) (h2:78<l.length):eJ l=(0,4):=by unfold eJ; rw[if_neg (by simp[h]),if_pos h2]
theorem vG {l:List UInt8} (h:oR l=true) (h2:¬ 78<l.length) (h3:115792089237316195423570985008687907853269984665640564039457584007913129639936≤cI l):eJ l=(0,4):=by unfold eJ; rw[if_neg (by simp[h]),if_neg h2,if_pos h3]
theorem yH {l:List UInt8} (h:oR l=true) (h2:¬ 78<l.length) (h3:cI l<115792089237316195423570985008687907853269984665640564039457584007913129639936):eJ l=(cI l,0):=by unfold eJ; rw[if_neg (by simp[h]),if_neg h2,if_neg (by omega)]
theorem FH {l:List UInt8} (h:oR l=true) {k:Nat} (hk:k<l.length):48≤l[k].toNat∧l[k].toNat≤57:=by
 unfold oR at h;rw[Bool.and_eq_true]at h;have:=List.all_eq_true.1 h.1 _ (List.getElem_mem hk);unfold nI at this;exact of_decide_eq_true this
set_option maxHeartbeats 1000000 in
theorem iC (a0 a1 a2 a3:Nat) (ha:cC a0 a1 a2 a3) (w:World) :
  Calls prog 106 #[.agg #[.int .u64 a0,.int .u64 a1,.int .u64 a2,.int .u64 a3]] w (NM (aC a0 a1 a2 a3) w):=by
 obtain⟨h0,h1,d0,d1,b0,b1,e0⟩:=rM ha.1;obtain⟨h2,h3,d2,d3,b2,b3,e1⟩:=rM ha.2.1;obtain⟨h4,h5,d4,d5,b4,b5,e2⟩:=rM ha.2.2.1;obtain⟨h6,h7,d6,d7,b6,b7,e3⟩:=rM ha.2.2.2
 go_enter func106,ntmps106
 go_wp2_with fail;refine wp_loop_rounds 5 ?_;rw[rounds_succ];go_wp2_with fail;rw[rounds_succ];go_wp2_with fail;rw[rounds_succ];go_wp2_with fail;rw[rounds_succ];go_wp2_with fail;rw[rounds_succ];go_wp2_with fail;refine bodyPost_ret (v:=.agg #[.int .u64 h0,.int .u64 h1,.int .u64 h2,.int .u64 h3,.int .u64 h4,.int .u64 h5,.int .u64 h6,.int .u64 h7]) (by simp[results,results106,go_sem]) rfl ?_;refine⟨h0,h1,h2,h3,h4,h5,h6,h7,rfl,⟨b0,b1,b2,b3,b4,b5,b6,b7⟩,?_,?_⟩
 ·have:=e0.out; have:=e1.out; have:=e2.out; have:=e3.out;exact Lib.hid (by unfold aC lI; omega)
 repeat (first|exact Below.refl _ _|refine Below.drew ?_|refine Below.alloc ?_ (by first|(simp; done)|(simp; omega)) _)
end Go.Proofs.YtpbljiejmfahcaaGreatDoor
