/- Eo12 -/
import Derived.Laws.BitsAllLaws
import Derived.Shelf.Spec.TrailingZeros
import Derived.Laws.ComplexArith
import Derived.StillTail
import Derived.RegionTactic
import Derived.KernelRfl
import Derived.LoopTactic
import Derived.Deep.DeepCutAuto
import Derived.Test.YtpjlhhpjpnacmaaGreatDoorEo11
import Derived.Test.YtpjlhhpjpnacmaaGreatDoorEo08
import Derived.Test.YtpjlhhpjpnacmaaGreatDoorEo05
import Derived.Test.YtpjlhhpjpnacmaaGreatDoorEo10
import Derived.Test.YtpjlhhpjpnacmaaGreatDoorEo00
import Derived.Test.YtpjlhhpjpnacmaaGreatDoorEo02
import Derived.Test.YtpjlhhpjpnacmaaGreatDoorEo04
import Derived.Test.YtpjlhhpjpnacmaaGreatDoorEo03
import Derived.Test.YtpjlhhpjpnacmaaGreatDoorProg
set_option maxRecDepth 100000
set_option linter.unusedVariables false
set_option linter.unusedSimpArgs false
set_option linter.unnecessarySimpa false
noncomputable section
namespace Go.Proofs.YtpjlhhpjpnacmaaGreatDoor.Ex
open Go.Proofs.Tryz
open Go.RowKit
theorem aEo (x y m:Nat):cR prog (qG prog) (fun n=>⟨fun _=>BO true true,fun _=>true,fun _=>none⟩) f73 60 [.s [.q x,.q y] 1 m]=some ([x<aH,y<aH,nE x y=true,x<RM,y<RM,decide (BQ x y)=true],.one (.im (.bool true))):=by kernel_rfl
theorem aEp (x y m:Nat):cR prog (qG prog) (fun n=>⟨fun _=>BO true false,fun _=>true,fun _=>none⟩) f73 60 [.s [.q x,.q y] 1 m]=some ([x<aH,y<aH,nE x y=true,x<RM,y<RM,decide (BQ x y)=false],.one (.im (.bool false))):=by kernel_rfl
theorem aEq (x y m:Nat):cR prog (qG prog) (fun n=>⟨fun _=>BO false false,fun _=>true,fun _=>none⟩) f73 60 [.s [.q x,.q y] 1 m]=some ([x<aH,y<aH,nE x y=false],.one (.im (.bool false))):=by kernel_rfl
theorem aEj (x y u v m:Nat):cR prog (qG prog) (fun n=>⟨fun _=>BO true true,fun _=>true,fun _=>none⟩) f73 60 [.s [.q x,.q y,.q u,.q v] 2 m]=some ([x<aH,y<aH,nE x y=true,x<RM,y<RM,decide (BQ x y)=true,u<aH,v<aH,nE u v=true,u<RM,v<RM,decide (BQ u v)=true],.one (.im (.bool true))):=by kernel_rfl
theorem aEm (x y u v m:Nat):cR prog (qG prog) (fun n=>⟨fun _=>BO true false,fun _=>true,fun _=>none⟩) f73 60 [.s [.q x,.q y,.q u,.q v] 2 m]=some ([x<aH,y<aH,nE x y=true,x<RM,y<RM,decide (BQ x y)=false],.one (.im (.bool false))):=by kernel_rfl
theorem aEn (x y u v m:Nat):cR prog (qG prog) (fun n=>⟨fun _=>BO false false,fun _=>true,fun _=>none⟩) f73 60 [.s [.q x,.q y,.q u,.q v] 2 m]=some ([x<aH,y<aH,nE x y=false],.one (.im (.bool false))):=by kernel_rfl
theorem aEk (x y u v m:Nat):cR prog (qG prog) (fun n=>⟨fun _=>BO true (Nat.blt 47 n),fun _=>true,fun _=>none⟩) f73 60 [.s [.q x,.q y,.q u,.q v] 2 m]=some ([x<aH,y<aH,nE x y=true,x<RM,y<RM,decide (BQ x y)=true,u<aH,v<aH,nE u v=true,u<RM,v<RM,decide (BQ u v)=false],.one (.im (.bool false))):=by kernel_rfl
theorem aEl (x y u v m:Nat):cR prog (qG prog) (fun n=>⟨fun _=>BO (Nat.blt 47 n) true,fun _=>true,fun _=>none⟩) f73 60 [.s [.q x,.q y,.q u,.q v] 2 m]=some ([x<aH,y<aH,nE x y=true,x<RM,y<RM,decide (BQ x y)=true,u<aH,v<aH,nE u v=false],.one (.im (.bool false))):=by kernel_rfl
def jM (x y:Nat):Bool:=decide (OnJ x y)
theorem Nk {x y:Nat} (h:OnJ x y):jM x y=true:=decide_eq_true h
theorem nQ {x y:Nat}:jM x y=true↔OnJ x y:=⟨of_decide_eq_true,decide_eq_true⟩
theorem sF (x y:Nat):(jM x y=true∧nE x y=true∧x<RM∧y<RM∧decide (BQ x y)=true)∨(jM x y=false∧nE x y=true∧x<RM∧y<RM∧decide (BQ x y)=false)∨(jM x y=false∧nE x y=false):=by
 by_cases h:x<RM∧y<RM
 ·by_cases k:BQ x y
  ·exact Or.inl ⟨decide_eq_true ⟨h,k⟩,decide_eq_true h,h.1,h.2,decide_eq_true k⟩
  ·exact Or.inr (Or.inl ⟨decide_eq_false fun q=>k q.2,decide_eq_true h,h.1,h.2,decide_eq_false k⟩)
 ·exact Or.inr (Or.inr ⟨decide_eq_false fun q=>h q.1,decide_eq_false h⟩)
theorem TD (x y m:Nat) (hx:x<aH) (hy:y<aH) (args:List Value) (w:World) (ha:cT w [.s [.q x,.q y] 1 m] args):bM prog 73 (.one (.im (.bool (jM x y)))) args w:=by
 rcases sF x y with⟨e,h1,h2,h3,h4⟩|⟨e,h1,h2,h3,h4⟩|⟨e,h1⟩
 ·rw[e];exact aV aI (fun _ _=>sX _ _) (aW _) func73 (aEo x y m) ⟨hx,hy,h1,h2,h3,h4,trivial⟩ ha
 ·rw[e];exact aV aI (fun _ _=>sX _ _) (aW _) func73 (aEp x y m) ⟨hx,hy,h1,h2,h3,h4,trivial⟩ ha
 ·rw[e];exact aV aI (fun _ _=>sX _ _) (aW _) func73 (aEq x y m) ⟨hx,hy,h1,trivial⟩ ha
theorem TC (x y u v m:Nat) (hx:x<aH) (hy:y<aH) (hu:u<aH) (hv:v<aH) (args:List Value) (w:World) (ha:cT w [.s [.q x,.q y,.q u,.q v] 2 m] args):bM prog 73 (.one (.im (.bool (jM x y&&jM u v)))) args w:=by
 rcases sF x y with⟨e,h1,h2,h3,h4⟩|⟨e,h1,h2,h3,h4⟩|⟨e,h1⟩
 ·rw[e,Bool.true_and]
  rcases sF u v with⟨e',k1,k2,k3,k4⟩|⟨e',k1,k2,k3,k4⟩|⟨e',k1⟩
  ·rw[e'];exact aV aI (fun _ _=>sX _ _) (aW _) func73 (aEj x y u v m) ⟨hx,hy,h1,h2,h3,h4,hu,hv,k1,k2,k3,k4,trivial⟩ ha
  ·rw[e'];exact aV aI (fun _ _=>sX _ _) (aW _) func73 (aEk x y u v m) ⟨hx,hy,h1,h2,h3,h4,hu,hv,k1,k2,k3,k4,trivial⟩ ha
  ·rw[e'];exact aV aI (fun _ _=>sX _ _) (aW _) func73 (aEl x y u v m) ⟨hx,hy,h1,h2,h3,h4,hu,hv,k1,trivial⟩ ha
 ·rw[e,Bool.false_and];exact aV aI (fun _ _=>sX _ _) (aW _) func73 (aEm x y u v m) ⟨hx,hy,h1,h2,h3,h4,trivial⟩ ha
 ·rw[e,Bool.false_and];exact aV aI (fun _ _=>sX _ _) (aW _) func73 (aEn x y u v m) ⟨hx,hy,h1,trivial⟩ ha
def aDM (b:Bool):List Nat→List Prop×RV
 | [x,y]=>([x<aH,y<aH,jM x y=b],.one (.im (.bool b)))
 | _=>([False],.one (.im (.bool b)))
def aDL (b:Bool):List Nat→List Prop×RV
 | [x,y,u,v]=>([x<aH,y<aH,u<aH,v<aH,(jM x y&&jM u v)=b],.one (.im (.bool b)))
 | _=>([False],.one (.im (.bool b)))
theorem aCB (b:Bool):∀cs pre r,Oa 1 (aDM b) cs=some (pre,r)→bC pre→∀(args:List Value) (w:World),cT w cs args→bM prog 73 r args w :=
 KL fun x m hp args w ha=>by
  match x,hp,ha with
  | [x,y],hp,ha =>
   have h:=TD x y m hp.1 hp.2.1 args w ha;rw[hp.2.2.1]at h;exact h
  | [],hp,_=>exact hp.1.elim
  | [_],hp,_=>exact hp.1.elim
  | _::_::_::_,hp,_=>exact hp.1.elim
theorem aCA (b:Bool):∀cs pre r,Oa 2 (aDL b) cs=some (pre,r)→bC pre→∀(args:List Value) (w:World),cT w cs args→bM prog 73 r args w :=
 KL fun x m hp args w ha=>by
  match x,hp,ha with
  | [x,y,u,v],hp,ha =>
   have h:=TC x y u v m hp.1 hp.2.1 hp.2.2.1 hp.2.2.2.1 args w ha;rw[hp.2.2.2.2.1]at h;exact h
  | [],hp,_=>exact hp.1.elim
  | [_],hp,_=>exact hp.1.elim
  | [_,_],hp,_=>exact hp.1.elim
  | [_,_,_],hp,_=>exact hp.1.elim
  | _::_::_::_::_::_,hp,_=>exact hp.1.elim
def PH (b:Bool):Tab:=nH.add 73 (Oa 1 (aDM b))
theorem JK (b:Bool):TabOk prog (PH b):=iL.add func73 (by kernel_rfl) (by kernel_rfl) (aCB b)
def Da (b:Bool):Tab:=nH.add 73 (Oa 2 (aDL b))
theorem XN (b:Bool):TabOk prog (Da b):=iL.add func73 (by kernel_rfl) (by kernel_rfl) (aCA b)
def Ct (p q:NP):NP:=tld (xY (p.1,p.2,1) (q.1,q.2,1))
def XY (p:NP):NP:=(oE 0 p.1,p.2)
abbrev UD:List At:=[.f ⟨0,dC⟩,.f ⟨0,dC⟩]
abbrev w2 (p:NP):Prop:=p.1<aH∧p.2<aH
def vR (p:NP) (e:Int):RV:=.many [.fl [.q p.1,.q p.2],.im (.int .i64 e)]
theorem aEr (p q:NP):cR prog (qG prog) (fun n=>⟨fun _=>Da false,fun _=>true,fun _=>none⟩) f78 60 [.v (.fl [.q p.1,.q p.2]),.v (.fl [.q q.1,.q q.2])]=some ([p.1<aH,p.2<aH,q.1<aH,q.2<aH,(jM p.1 p.2&&jM q.1 q.2)=false],.many [.fl UD,.im (.int .i64 41)]):=by kernel_rfl
theorem aAP (p:NP):cR prog (qG prog) (fun n=>⟨fun _=>PH false,fun _=>true,fun _=>none⟩) f77 60 [.v (.fl [.q p.1,.q p.2])]=some ([p.1<aH,p.2<aH,jM p.1 p.2=false],.many [.fl UD,.im (.int .i64 41)]):=by kernel_rfl
theorem aAO (p:NP):cR prog (qG prog) (fun n=>⟨fun _=>PH true,fun _=>true,fun _=>none⟩) f77 60 [.v (.fl [.q p.1,.q p.2])]=some ([p.1<aH,p.2<aH,jM p.1 p.2=true,p.1<RM],vR (XY p) 0):=by kernel_rfl
theorem Wx (p q:NP):cR prog (qG prog) (fun n=>⟨fun _=>Da true,fun _=>true,fun _=>none⟩) f78 60 [.v (.fl [.q p.1,.q p.2]),.v (.fl [.q q.1,.q q.2])]=some ([p.1<aH,p.2<aH,q.1<aH,q.2<aH,(jM p.1 p.2&&jM q.1 q.2)=true,p.1<RM,p.2<RM,1<RM,q.1<RM,q.2<RM,1<RM,(xY (p.1,p.2,1) (q.1,q.2,1)).1<RM,(xY (p.1,p.2,1) (q.1,q.2,1)).2.1<RM,(xY (p.1,p.2,1) (q.1,q.2,1)).2.2<RM,(xY (p.1,p.2,1) (q.1,q.2,1)).2.2≠0],vR (Ct p q) 0):=by kernel_rfl
def cj (P:JP):NP:=(P.1.1.1,P.1.2.1)
theorem LO (P:JP):OnJ (cj P).1 (cj P).2:=P.on
theorem aBh (P:JP):jp (LO P)=P:=aBg P _
theorem OnJ.w {x y:Nat} (h:OnJ x y):x<aH∧y<aH:=⟨kF h.1.1,kF h.1.2⟩
theorem MG (p q:NP) (hp:w2 p) (hq:w2 q) (args:List Value) (w:World) (ha:cT w [.v (.fl (q2 p)),.v (.fl (q2 q))] args):bM prog 78 (if (jM p.1 p.2&&jM q.1 q.2)=true then vR (Ct p q) 0 else vR (0,0) 41) args w:=by
 cases h:(jM p.1 p.2&&jM q.1 q.2)
 ·exact aV aI (fun _ _=>XN _) (aW _) func78 (aEr p q) ⟨hp.1,hp.2,hq.1,hq.2,h,trivial⟩ ha
 ·have h':=h;rw[Bool.and_eq_true]at h';have h1:=nQ.1 h'.1;have h2:=nQ.1 h'.2;exact aV aI (fun _ _=>XN _) (aW _) func78 (Wx p q) ⟨hp.1,hp.2,hq.1,hq.2,h,h1.1.1,h1.1.2,fI,h2.1.1,h2.1.2,fI,aO _ _,aO _ _,aO _ _,((oZ h1).pl (oZ h2)).nz,trivial⟩ ha
theorem JQ (p:NP) (hp:w2 p) (args:List Value) (w:World) (ha:cT w [.v (.fl (q2 p))] args):bM prog 77 (if jM p.1 p.2=true then vR (XY p) 0 else vR (0,0) 41) args w:=by
 cases h:jM p.1 p.2
 ·exact aV aI (fun _ _=>JK _) (aW _) func77 (aAP p) ⟨hp.1,hp.2,h,trivial⟩ ha
 ·exact aV aI (fun _ _=>JK _) (aW _) func77 (aAO p) ⟨hp.1,hp.2,h,(nQ.1 h).1.1,trivial⟩ ha
def gNx (a b c:NJ):gL
 | [.v (.fl l),.v (.fl m)]=>some ([aA l=aA (q3 a),aA m=aA (q3 b)],.one (.fl (q3 c)))
 | _=>none
def TP (p:NJ):Prop:=p.1<RM∧p.2.1<RM∧p.2.2<RM
theorem aCt {a b c:NJ} (ha:TP a) (hb:TP b) (hc:c=xY a b):∀cs pre r,gNx a b c cs=some (pre,r)→bC pre→∀(args:List Value) (w:World),cT w cs args→bM prog 117 r args w:=by
 intro cs pre r hg hp args w h;unfold gNx at hg;split at hg
 ·rename_i l m;cases hg
  match args,h with
  | [v,u],h =>
   have h1:v=.agg (aA l).toArray:=h.1;have h2:u=.agg (aA m).toArray:=h.2.1;rw[hp.1]at h1;rw[hp.2.1]at h2;subst h1; subst h2; subst hc;exact cJ aI sY (aW _) func117 (EZ a b) (⟨ha.2.2,hb.2.2,ha.1,hb.1,ha.2.1,hb.2.1,(aO _ _),(aO _ _),(aO _ _),(aO _ _),(aO _ _),(aO _ _),(aO _ _),(aO _ _),ha.1,ha.2.1,hb.1,hb.2.1,(dB _ _),(dB _ _),(aO _ _),(aO _ _),(eI _ _),(aO _ _),(aO _ _),(eI _ _),(aO _ _),(eI _ _),(aO _ _),(dB _ _),(aO _ _),(aO _ _),(aO _ _),(aO _ _),(eI _ _),(eI _ _),(dB _ _),trivial⟩) (args:=[_,_]) ⟨rfl,rfl,trivial⟩
  | [],h=>exact h.elim
  | [_],h=>exact h.2.elim
  | _::_::_::_,h=>exact h.2.2.elim
 ·cases hg
def gNd (a c:NJ):gL
 | [.v (.fl l)]=>some ([aA l=aA (q3 a)],.one (.fl (q3 c)))
 | _=>none
theorem aGO {a c:NJ} (ha:TP a) (hc:c=ZF a):∀cs pre r,gNd a c cs=some (pre,r)→bC pre→∀(args:List Value) (w:World),cT w cs args→bM prog 115 r args w:=by
 intro cs pre r hg hp args w h;unfold gNd at hg;split at hg
 ·rename_i l;cases hg
  match args,h with
  | [v],h =>
   have h1:v=.agg (aA l).toArray:=h.1;rw[hp.1]at h1;subst h1; subst hc;exact cJ aI sY (aW _) func115 (vG a) (⟨ha.1,ha.2.1,ha.2.2,ha.1,ha.2.1,(dB _ _),(aO _ _),(aO _ _),(eI _ _),(aO _ _),(aO _ _),(aO _ _),(aO _ _),(aO _ _),(aO _ _),(dB _ _),(dB _ _),(eI _ _),(eI _ _),(aO _ _),(aO _ _),(dB _ _),(eI _ _),(dB _ _),(eI _ _),trivial⟩) (args:=[_]) ⟨rfl,trivial⟩
  | [],h=>exact h.elim
  | _::_::_,h=>exact h.2.elim
 ·cases hg
end Go.Proofs.YtpjlhhpjpnacmaaGreatDoor.Ex
namespace Go.Proofs.YtpjlhhpjpnacmaaGreatDoor
open Go.Proofs.Tryz
open Go.RowKit
def FwPost (x:Nat) (w:World) (e:Ending) (w':World):Prop:=e=.returned (.agg #[.int .u64 (fw x 0:Nat),.int .u64 (fw x 1:Nat),.int .u64 (fw x 2:Nat),.int .u64 (fw x 3:Nat)])∧Below w.heap.size w w'
theorem FwPost.of {x:Nat} {w:World} {e:Ending} {w':World} (hx:x<FP.M) (h:jK x w e w'):FwPost x w e w':=by
 obtain⟨s0,s1,s2,s3,rfl,hs,hv,hb⟩:=h;obtain⟨rfl,rfl,rfl,rfl⟩:=jF hs (aBZ hx) hv;exact⟨rfl,hb⟩
end Go.Proofs.YtpjlhhpjpnacmaaGreatDoor
namespace Go.Proofs.YtpjlhhpjpnacmaaGreatDoor.Ex
open Go.Proofs.Tryz
open Go.RowKit
theorem aEh {l:List At} {args:List Value} {w:World} (h:cT w [.v (.fl l)] args):args=[.agg (aA l).toArray]:=by
 match args,h with
 | [v],h=>rw[show v=_ from h.1]; rfl
 | [],h=>exact h.elim
 | _::_::_,h=>exact h.2.elim
def lw (x:List Fq) (k i:Nat):Nat:=fw ((x[k]?).getD F1.zero).1 i
def qM (n:Nat):Nat:=if wv n=0 then 0 else Nat.log2 (wv n)+1
theorem AL (n:Nat):LenIs (wv n) (qM n):=by
 unfold qM
 by_cases h:wv n=0
 ·rw[if_pos h,h]; exact⟨by decide,fun h=>by cases h⟩
 ·rw[if_neg h];exact⟨Nat.lt_log2_self,fun _=>by rw[Nat.add_sub_cancel]; exact Nat.log2_self_le h⟩
theorem Mw (n:Nat):wv n<2^256:=by
 obtain⟨h0,h1,h2,h3⟩:=eR n;unfold wv aC;have:(2:Nat)^256=115792089237316195423570985008687907853269984665640564039457584007913129639936:=by decide
 omega
theorem OB (n:Nat):qM n≤256:=by
 rcases Nat.lt_or_ge 256 (qM n)with h|h
 ·have h1:=(AL n).2 (by omega);have h2:=Nat.pow_le_pow_right (show 0<2 by omega) (show 256≤qM n-1 by omega);have:=Mw n;omega
 ·exact h
def Tx:gL
 | [.v (.fl l)]=>match rW l with
  | some n=>some ([],.one (.im (.int .i64 (qM n:Nat))))
  | none=>none
 | _=>none
theorem Sz:∀cs pre r,Tx cs=some (pre,r)→bC pre→∀(args:List Value) (w:World),cT w cs args→bM prog 114 r args w:=by
 intro cs pre r hg hp args w ha;unfold Tx at hg;split at hg
 ·rename_i l;split at hg
  ·rename_i n hn;cases hg;rw[aEh ha,dO l _ hn];refine (sI _ _ _ _ (eR n) w).mono ?_
   rintro e w' ⟨L,rfl,_,h,hbl⟩
   cases h.uniq (AL n);exact⟨rfl,hbl⟩
  ·cases hg
 ·cases hg
def Tq:gL
 | [.v (.fl l),.v (.im (.int .i64 (.ofNat k)))]=>match rW l with
  | some n=>some ([k<9223372036854775808],.one (.fl (q1 (wv n/2^k))))
  | none=>none
 | _=>none
theorem Qi:∀cs pre r,Tq cs=some (pre,r)→bC pre→∀(args:List Value) (w:World),cT w cs args→bM prog 116 r args w:=by
 intro cs pre r hg hp args w ha;unfold Tq at hg;split at hg
 ·rename_i l k;split at hg
  ·rename_i n hn;cases hg
   match args,ha with
   | [v,u],ha =>
    have h1:v=.agg (aA l).toArray:=ha.1;have h2:u=.int .i64 (Int.ofNat k):=ha.2.1;rw[dO l _ hn]at h1;subst h1; subst h2;have hk:k<9223372036854775808:=hp.1;refine (nM _ _ _ _ (Int.ofNat k) (eR n) (by simp) (by simp; omega) w).mono ?_
    rintro e w' ⟨s0,s1,s2,s3,rfl,hs,hv,hb⟩
    have hlt:wv n/2^k<115792089237316195423570985008687907853269984665640564039457584007913129639936:=by
     refine Nat.lt_of_le_of_lt (Nat.div_le_self _ _) ?_;have:=Mw n;have e:(2:Nat)^256=115792089237316195423570985008687907853269984665640564039457584007913129639936:=by decide
     omega
    obtain⟨rfl,rfl,rfl,rfl⟩:=jF hs hlt hv;exact⟨rfl,hb⟩
   | [],ha=>exact ha.elim
   | [_],ha=>exact ha.2.elim
   | _::_::_::_,ha=>exact ha.2.2.elim
  ·cases hg
 ·cases hg
def mt (p:NJ):Nat→NJ
 | 0=>(0,1,1)
 | k+1=>xY (mt p k) p
theorem Nq (p:NJ):∀k,TP (mt p k)
 | 0=>⟨fY,fI,fI⟩
 | k+1=>⟨aO _ _,aO _ _,aO _ _⟩
def Hn (p:NJ):List At:=[.q (mt p 0).1,.q (mt p 0).2.1,.q (mt p 0).2.2,.q (mt p 1).1,.q (mt p 1).2.1,.q (mt p 1).2.2,.q (mt p 2).1,.q (mt p 2).2.1,.q (mt p 2).2.2,.q (mt p 3).1,.q (mt p 3).2.1,.q (mt p 3).2.2,.q (mt p 4).1,.q (mt p 4).2.1,.q (mt p 4).2.2,.q (mt p 5).1,.q (mt p 5).2.1,.q (mt p 5).2.2,.q (mt p 6).1,.q (mt p 6).2.1,.q (mt p 6).2.2,.q (mt p 7).1,.q (mt p 7).2.1,.q (mt p 7).2.2,.q (mt p 8).1,.q (mt p 8).2.1,.q (mt p 8).2.2,.q (mt p 9).1,.q (mt p 9).2.1,.q (mt p 9).2.2,.q (mt p 10).1,.q (mt p 10).2.1,.q (mt p 10).2.2,.q (mt p 11).1,.q (mt p 11).2.1,.q (mt p 11).2.2,.q (mt p 12).1,.q (mt p 12).2.1,.q (mt p 12).2.2,.q (mt p 13).1,.q (mt p 13).2.1,.q (mt p 13).2.2,.q (mt p 14).1,.q (mt p 14).2.1,.q (mt p 14).2.2,.q (mt p 15).1,.q (mt p 15).2.1,.q (mt p 15).2.2]
def aEu (p:NJ) (n:Nat):Tab:=nH.add 117 (gNx (mt p (49-n)) p (mt p (49-n+1)))
theorem aAE {p:NJ} (h:TP p) (n:Nat):TabOk prog (aEu p n):=iL.add func117 (by kernel_rfl) (by kernel_rfl) (aCt (Nq p _) h rfl)
theorem Sv (p:NJ):cR prog (qG prog) (fun n=>⟨fun _=>aEu p n,fun _=>true,fun _=>none⟩) f112 60 [.v (.fl (q3 p))]=some ([aA (q3 (mt p 0))=aA (q3 (mt p 0)),aA (q3 p)=aA (q3 p),aA (q3 (mt p 1))=aA (q3 (mt p 1)),aA (q3 p)=aA (q3 p),aA (q3 (mt p 2))=aA (q3 (mt p 2)),aA (q3 p)=aA (q3 p),aA (q3 (mt p 3))=aA (q3 (mt p 3)),aA (q3 p)=aA (q3 p),aA (q3 (mt p 4))=aA (q3 (mt p 4)),aA (q3 p)=aA (q3 p),aA (q3 (mt p 5))=aA (q3 (mt p 5)),aA (q3 p)=aA (q3 p),aA (q3 (mt p 6))=aA (q3 (mt p 6)),aA (q3 p)=aA (q3 p),aA (q3 (mt p 7))=aA (q3 (mt p 7)),aA (q3 p)=aA (q3 p),aA (q3 (mt p 8))=aA (q3 (mt p 8)),aA (q3 p)=aA (q3 p),aA (q3 (mt p 9))=aA (q3 (mt p 9)),aA (q3 p)=aA (q3 p),aA (q3 (mt p 10))=aA (q3 (mt p 10)),aA (q3 p)=aA (q3 p),aA (q3 (mt p 11))=aA (q3 (mt p 11)),aA (q3 p)=aA (q3 p),aA (q3 (mt p 12))=aA (q3 (mt p 12)),aA (q3 p)=aA (q3 p),aA (q3 (mt p 13))=aA (q3 (mt p 13)),aA (q3 p)=aA (q3 p),aA (q3 (mt p 14))=aA (q3 (mt p 14)),aA (q3 p)=aA (q3 p)],.one (.fl (Hn p))):=by kernel_rfl
def gMu:gL:=g1 Ft fun p=>([p.1<RM,p.2.1<RM,p.2.2<RM],.one (.fl (Hn p)))
theorem aGP:∀cs pre r,gMu cs=some (pre,r)→bC pre→∀(args:List Value) (w:World),cT w cs args→bM prog 112 r args w :=
 kN (op:=fun p=>([p.1<RM,p.2.1<RM,p.2.2<RM],.one (.fl (Hn p)))) oQ fun p h args w ha=>aV aI (fun n _=>aAE ⟨h.1,h.2.1,h.2.2.1⟩ n) (aW _) func112 (Sv p) ⟨rfl,rfl,rfl,rfl,rfl,rfl,rfl,rfl,rfl,rfl,rfl,rfl,rfl,rfl,rfl,rfl,rfl,rfl,rfl,rfl,rfl,rfl,rfl,rfl,rfl,rfl,rfl,rfl,rfl,rfl,trivial⟩ ha
def Mh:Tab:=((nH.add 112 gMu).add 114 Tx).add 116 Tq
theorem Nl:TabOk prog Mh:=((iL.add func112 (by kernel_rfl) (by kernel_rfl) aGP).add func114 (by kernel_rfl) (by kernel_rfl) Sz).add func116 (by kernel_rfl) (by kernel_rfl) Qi
def fR:Code:=(f75.body).getD .skip
def IE:Code:=iR (iR (cB (cA (cB (cB (cB (cB fR)))))))
theorem Eg:fR=.seq (cA fR) (.seq (cA (cB fR)) (.seq (cA (cB (cB fR))) (.seq (cA (cB (cB (cB fR)))) (.seq (.seq (cA (cA (cB (cB (cB (cB fR)))))) (.block 0 (.loop IE))) (cB (cB (cB (cB (cB fR))))))))):=by kernel_rfl
def aFj:List At:=[.f ⟨0,dC⟩,.f ⟨0,dC⟩,.f ⟨0,dC⟩]
def tiA (p:NJ) (n:Nat):List Fact:=[.slot 2 (.pt 2 0),.row 2 true (q3 p),.slot 3 (.pt 3 0),.row 3 true [.q n],.slot 4 (.pt 4 0),.row 4 true aFj]
def tiB (p:NJ) (n:Nat):List Fact:=tiA p n++[.slot 5 (.pt 5 0),.row 5 true (Hn p)]
def tiC (p:NJ) (n:Nat) (s:NJ):List Fact:=tiB p n++[.slot 6 (.pt 6 0),.row 6 true (q3 s)]
def tiD (p:NJ) (n PL:Nat) (s:NJ):List Fact:=tiC p n s++[.slot 7 (.im (iI PL))]
def VB (p:NJ) (n PL i:Nat) (s:NJ):List Fact:=tiD p n PL s++[.slot 20 (.im (iI PL)),.slot 21 (.im (iI i))]
def Px (num:Nat→Option Value) (_:Nat):Cfg:=⟨fun _=>Mh,fun _=>true,num⟩
def dk (s:NJ):Nat→NJ
 | 0=>s
 | j+1=>ZF (dk s j)
theorem Oh {s:NJ} (h:TP s):∀j,TP (dk s j)
 | 0=>h
 | j+1=>⟨aO _ _,aO _ _,aO _ _⟩
def Oy (p s:NJ) (k m:Nat):Tab:=(Mh.add 115 (gNd (dk s (46-m)) (dk s (46-m+1)))).add 117 (gNx (dk s 4) (mt p k) (xY (dk s 4) (mt p k)))
theorem So {p s:NJ} (hs:TP s) (k m:Nat):TabOk prog (Oy p s k m):=(Nl.add func115 (by kernel_rfl) (by kernel_rfl) (aGO (Oh hs _) rfl)).add func117 (by kernel_rfl) (by kernel_rfl) (aCt (Oh hs _) (Nq p _) rfl)
def rdC (p s:NJ) (PL i k m:Nat):Cfg:=⟨fun _=>Oy p s k m,fun _=>true,assoc [(22,.bool true),(30,iI (PL-1)),(32,iI (PL-1-i)),(35,iI ((PL-1-i)*4)),(38,.int .u64 (Int.ofNat k)),(44,iI (i+1))]⟩
def Xu (s:NJ):Prop:=aA (q3 s)=aA (q3 s)
def tiP (p s:NJ) (n PL i k:Nat):List Prop:=[aJ .lss .i64 (Int.ofNat i) (Int.ofNat PL)=some (.bool true),Xu s,Xu (dk s 1),Xu (dk s 2),Xu (dk s 3),aJ .sub .i64 (Int.ofNat PL) 1=some (iI (PL-1)),aJ .sub .i64 (Int.ofNat (PL-1)) (Int.ofNat i)=some (iI (PL-1-i)),aJ .mul .i64 (Int.ofNat (PL-1-i)) 4=some (iI ((PL-1-i)*4)),(PL-1-i)*4<9223372036854775808,aJ .rem .u64 (fw (wv n/2^((PL-1-i)*4)) 0:Nat) 16=some (.int .u64 (Int.ofNat k)),Int.ofNat k=Int.ofNat k,k<16,Xu (dk s 4),Xu (mt p k),aJ .add .i64 (Int.ofNat i) 1=some (iI (i+1))]
theorem Zh (w:World) (p s:NJ) (n PL i:Nat):∀k,k<16→aX prog { qG prog with x:=xO w (assoc [(41,k)]) (fun _=>none) (fun _=>none) } f75.ntmps (rdC p s PL i k) 60 IE (VB p n PL i s) (VB p n PL (i+1) (xY (dk s 4) (mt p k)))=some (tiP p s n PL i k,.nrm,VB p n PL (i+1) (xY (dk s 4) (mt p k)))
 | 0,_=>by kernel_rfl
 | 1,_=>by kernel_rfl
 | 2,_=>by kernel_rfl
 | 3,_=>by kernel_rfl
 | 4,_=>by kernel_rfl
 | 5,_=>by kernel_rfl
 | 6,_=>by kernel_rfl
 | 7,_=>by kernel_rfl
 | 8,_=>by kernel_rfl
 | 9,_=>by kernel_rfl
 | 10,_=>by kernel_rfl
 | 11,_=>by kernel_rfl
 | 12,_=>by kernel_rfl
 | 13,_=>by kernel_rfl
 | 14,_=>by kernel_rfl
 | 15,_=>by kernel_rfl
 | k+16,h=>absurd h (by omega)
theorem Zg (p:NJ) (n:Nat):aX prog (qG prog) f75.ntmps (Px fun _=>none) 40 (cA fR) (fD 0 [.v (.fl (q3 p)),.v (.fl [.q n])]) (tiA p n)=some ([],.nrm,tiA p n):=by kernel_rfl
theorem Zf (p:NJ) (n:Nat):aX prog (qG prog) f75.ntmps (Px fun _=>none) 40 (cA (cB fR)) (tiA p n) (tiB p n)=some ([p.1<RM,p.2.1<RM,p.2.2<RM],.nrm,tiB p n):=by kernel_rfl
theorem Ze (p:NJ) (n:Nat):aX prog (qG prog) f75.ntmps (Px fun _=>none) 40 (cA (cB (cB fR))) (tiB p n) (tiC p n (0,1,1))=some ([],.nrm,tiC p n (0,1,1)):=by kernel_rfl
theorem Zd (p:NJ) (n PL:Nat):aX prog (qG prog) f75.ntmps (Px (assoc [(17,iI (qM n+4)),(18,iI (qM n+4-1)),(19,iI PL)])) 40 (cA (cB (cB (cB fR)))) (tiC p n (0,1,1)) (tiD p n PL (0,1,1))=some ([aJ .add .i64 (qM n:Nat) 4=some (iI (qM n+4)),aJ .sub .i64 (Int.ofNat (qM n+4)) 1=some (iI (qM n+4-1)),aJ .quo .i64 (Int.ofNat (qM n+4-1)) 4=some (iI PL)],.nrm,tiD p n PL (0,1,1)):=by kernel_rfl
theorem Zc (p:NJ) (n PL:Nat):aX prog (qG prog) f75.ntmps (Px fun _=>none) 40 (cA (cA (cB (cB (cB (cB fR)))))) (tiD p n PL (0,1,1)) (VB p n PL 0 (0,1,1))=some ([],.nrm,VB p n PL 0 (0,1,1)):=by kernel_rfl
theorem Pw (p:NJ) (n PL i:Nat) (s:NJ):aX prog (qG prog) f75.ntmps (Px (assoc [(22,.bool false)])) 60 IE (VB p n PL i s) (VB p n PL i s)=some ([aJ .lss .i64 (Int.ofNat i) (Int.ofNat PL)=some (.bool false)],.ex 0,VB p n PL i s):=by kernel_rfl
theorem Ef (p:NJ) (n PL i:Nat) (s:NJ):aX prog (qG prog) f75.ntmps (Px fun _=>none) 40 (cB (cB (cB (cB (cB fR))))) (VB p n PL i s) [.slot 4 (.pt 4 0),.row 4 true (q3 s)]=some ([],.rt,[.slot 4 (.pt 4 0),.row 4 true (q3 s)]):=by kernel_rfl
def Xz (n pl:Nat):Nat:=fw (wv n/2^(pl*4)) 0%16
def Xj (p:NJ) (n PL:Nat):Nat→NJ
 | 0=>(0,1,1)
 | i+1=>xY (dk (Xj p n PL i) 4) (mt p (Xz n (PL-1-i)))
theorem Qd (p:NJ) (n PL:Nat):∀i,TP (Xj p n PL i)
 | 0=>⟨fY,fI,fI⟩
 | i+1=>⟨aO _ _,aO _ _,aO _ _⟩
theorem Hh {x:Nat} (h:x<18446744073709551616):aJ .rem .u64 (x:Nat) 16=some (.int .u64 (Int.ofNat (x%16))):=by
 show (if (16:Int)=0 then none else some (Value.int .u64 ((Int.ofNat x).tmod 16)))=_;rw[if_neg (by decide)];rfl
def uT (n:Nat):Nat:=(qM n+3)/4
theorem Rw (n:Nat):uT n≤64:=by
 have:=OB n;unfold uT;omega
def wQ (p:NJ) (n:Nat):NJ:=Xj p n (uT n) (uT n)
theorem zG (p:NJ) (n:Nat) (hp:TP p) (args:List Value) (w0:World) (ha:cT w0 [.v (.fl (q3 p)),.v (.fl [.q n])] args):bM prog 75 (.one (.fl (q3 (wQ p n)))) args w0:=by
 have hG:bO prog (qG prog) w0.heap.size w0:=(aW _).w _ _;have hT:∀n d:Nat,TabOkW prog Mh w0.heap.size w0:=fun _ _=>Nl.w _ _
 refine cH func75 (c:=fR) rfl ha (Nat.le_of_ble_eq_true (by kernel_rfl)) fun a w' hA => ?_
 have hl:=OB n;have hPL:=Rw n;rw[Eg];refine wp_seq (aB aI hT hG (Zg p n) trivial hA fun a w' hA => ?_);refine wp_seq (aB aI hT hG (Zf p n) ⟨hp.1,hp.2.1,hp.2.2,trivial⟩ hA fun a w' hA => ?_);refine wp_seq (aB aI hT hG (Ze p n) trivial hA fun a w' hA => ?_);refine wp_seq (aB aI hT hG (Zd p n (uT n)) ⟨fU (k:=4) (by omega),mL (k:=1) (by omega) (by omega),XO (k:=4) (by omega) (by omega),trivial⟩ hA fun a w' hA => ?_);refine wp_seq (wp_seq (aB aI hT hG (Zc p n (uT n)) trivial hA fun a w' hA => ?_));refine wp_block ?_;refine jD aI (fun i=>VB p n (uT n) i (Xj p n (uT n) i)) (uT n) (fun i hi => ?_) (.ex 0) (by simp) (VB p n (uT n) (uT n) (wQ p n)) ⟨_,_,_,_,hG,hT,Pw p n (uT n) (uT n) _,dD (Nat.le_refl _),trivial⟩ hA fun a w hA => ?_
 ·exact⟨_,_,_,_,dN w0 _ _ _,fun m _=>(So (p:=p) (Qd p n (uT n) i) (Xz n (uT n-1-i)) m).w _ _,Zh w0 p (Xj p n (uT n) i) n (uT n) i (Xz n (uT n-1-i)) (Nat.mod_lt _ (by decide)),eO hi,rfl,rfl,rfl,rfl,mL (k:=1) (by omega) (by omega),mL (by omega) (by omega),Nn (k:=4) (by omega),by omega,Hh (eR _).1,rfl,Nat.mod_lt _ (by decide),rfl,rfl,fU (k:=1) (by omega),trivial⟩
 ·show (cB (cB (cB (cB (cB fR))))).wp _ _ _ _;exact aB aI hT hG (Ef p n (uT n) (uT n) _) trivial hA fun a w' hA=>qU (l:=[.fl (q3 (wQ p n))]) (r:=.one (.fl (q3 (wQ p n)))) (by kernel_rfl) (by kernel_rfl) hA
theorem JRep.lt {p:NJ} {P:JP} (h:JRep p P):TP p:=⟨h.x,h.y,h.z⟩
theorem YC {p:NJ} {P:JP} (h:JRep p P):∀k,JRep (mt p k) (lU.grp.ns k P)
 | 0=>JY
 | k+1=>(YC h k).pl h
theorem Vg {s:NJ} {P:JP} {m:Nat} (h:JRep s (lU.grp.ns m P)):JRep (dk s 4) (lU.grp.ns (16*m) P):=by
 have h4:=h.db.db.db.db;rw[←lU.grp.ns_add,←lU.grp.ns_add,←lU.grp.ns_add,←lU.grp.ns_add,show m+m+(m+m)+(m+m+(m+m))+(m+m+(m+m)+(m+m+(m+m)))=16*m by omega]at h4;exact h4
theorem fw0 (x:Nat):fw x 0=x%18446744073709551616:=by
 unfold fw;rw[Nat.pow_zero,Nat.div_one]
theorem NB {p:NJ} {P:JP} (h:JRep p P) (n PL:Nat) (hn:wv n<2^(4*PL)):∀i,i≤PL→JRep (Xj p n PL i) (lU.grp.ns (wv n/2^(4*(PL-i))) P)
 | 0,_=>by
  rw[Nat.sub_zero,Nat.div_eq_of_lt hn];exact JY
 | i+1,hi=>by
  have ih:=(Vg (NB h n PL hn i (by omega))).pl (YC h (Xz n (PL-1-i)));rw[←lU.grp.ns_add]at ih;have e1:Xz n (PL-1-i)=wv n/2^(4*(PL-(i+1)))%16:=by
   unfold Xz;rw[fw0,show (PL-1-i)*4=4*(PL-(i+1)) by omega];omega
  have e2:wv n/2^(4*(PL-i))=wv n/2^(4*(PL-(i+1)))/16:=by
   rw[show 4*(PL-i)=4*(PL-(i+1))+4 by omega,Nat.pow_add,←Nat.div_div_eq_div_mul]
  rw[e1,e2]at ih;rw[show wv n/2^(4*(PL-(i+1)))=16*(wv n/2^(4*(PL-(i+1)))/16)+wv n/2^(4*(PL-(i+1)))%16 by omega];rw[←e1]at ih ⊢;exact ih
theorem tT {p:NJ} {P:JP} (h:JRep p P) (n:Nat):JRep (wQ p n) (lU.grp.ns (wv n) P):=by
 have h1:=NB h n (uT n) (Nat.lt_of_lt_of_le (AL n).1 (Nat.pow_le_pow_right (by decide) (by unfold uT; omega))) (uT n) (Nat.le_refl _);rw[Nat.sub_self,Nat.mul_zero,Nat.pow_zero,Nat.div_one]at h1;exact h1
def JS (p:NP) (n:Nat):NP:=tld (wQ (p.1,p.2,1) n)
theorem Hl {p:NP} (hp:OnJ p.1 p.2) (n:Nat):JS p n=cj (lU.grp.ns (wv n) (jp hp)):=(tT (oZ hp) n).tld
def gTi:gL:=g2 Ft rW fun p n=>([p.1<RM,p.2.1<RM,p.2.2<RM],.one (.fl (q3 (wQ p n))))
theorem aGC:∀cs pre r,gTi cs=some (pre,r)→bC pre→∀(args:List Value) (w:World),cT w cs args→bM prog 75 r args w :=
 FG (op:=fun p n=>([p.1<RM,p.2.1<RM,p.2.2<RM],.one (.fl (q3 (wQ p n))))) oQ dO fun p n h args w ha=>zG p n ⟨h.1,h.2.1,h.2.2.1⟩ args w ha
theorem aBu (p:NJ):cR prog (qG prog) (fun n=>⟨fun _=>nH,fun _=>true,fun _=>none⟩) f76 60 [.v (.fl (q3 p))]=some ([aA [At.q p.1]=aA [At.f ⟨0,dC⟩],aA [At.q p.2.1]=aA [At.q p.2.2]],.one (.im (.bool true))):=by kernel_rfl
theorem aBw (p:NJ):cR prog (qG prog) (fun n=>⟨fun _=>nH,fun s=>Nat.beq s 6,fun _=>none⟩) f76 60 [.v (.fl (q3 p))]=some ([aA [At.q p.1]=aA [At.f ⟨0,dC⟩],aA [At.q p.2.1]≠aA [At.q p.2.2]],.one (.im (.bool false))):=by kernel_rfl
theorem aBv (p:NJ):cR prog (qG prog) (fun n=>⟨fun _=>nH,fun _=>false,fun _=>none⟩) f76 60 [.v (.fl (q3 p))]=some ([aA [At.q p.1]≠aA [At.f ⟨0,dC⟩]],.one (.im (.bool false))):=by kernel_rfl
theorem KA (p:NJ) (hp:TP p) (args:List Value) (w:World) (ha:cT w [.v (.fl (q3 p))] args):bM prog 76 (.one (.im (.bool (oH p)))) args w:=by
 by_cases h1:p.1=0
 ·by_cases h2:p.2.1=p.2.2
  ·rw[show oH p=true by unfold oH; rw[Bool.and_eq_true]; exact⟨by rw[h1]; rfl,by rw[h2]; exact Nat.beq_refl _⟩];exact aV aI (fun _ _=>iL) (aW _) func76 (aBu p) ⟨by rw[h1]; rfl,by rw[h2],trivial⟩ ha
  ·rw[show oH p=false by unfold oH; rw[Bool.and_eq_false_iff]; exact Or.inr (Bool.eq_false_iff.2 fun q=>h2 (Nat.eq_of_beq_eq_true q))];exact aV aI (fun _ _=>iL) (aW _) func76 (aBw p) ⟨by rw[h1]; rfl,fun e=>h2 (flq hp.2.1 hp.2.2 e),trivial⟩ ha
 ·rw[show oH p=false by unfold oH; rw[Bool.and_eq_false_iff]; exact Or.inl (Bool.eq_false_iff.2 fun q=>h1 (Nat.eq_of_beq_eq_true q))];exact aV aI (fun _ _=>iL) (aW _) func76 (aBv p) ⟨fun e=>h1 (flq hp.1 fY e),trivial⟩ ha
def aBW (b:Bool):gL:=g1 Ft fun p=>([p.1<RM,p.2.1<RM,p.2.2<RM,oH p=b],.one (.im (.bool b)))
theorem aCv (b:Bool):∀cs pre r,aBW b cs=some (pre,r)→bC pre→∀(args:List Value) (w:World),cT w cs args→bM prog 76 r args w :=
 kN (op:=fun p=>([p.1<RM,p.2.1<RM,p.2.2<RM,oH p=b],.one (.im (.bool b)))) oQ fun p h args w ha=>by
  have h':=KA p ⟨h.1,h.2.1,h.2.2.1⟩ args w ha;rw[h.2.2.2.1]at h';exact h'
theorem aBd:lJ<FP.M:=of_decide_eq_true (by kernel_rfl)
theorem aEg:bX<FP.M:=of_decide_eq_true (by kernel_rfl)
theorem aEf:bY<FP.M:=of_decide_eq_true (by kernel_rfl)
theorem Fk:cR prog (qG prog) (fun n=>⟨fun _=>nH,fun _=>true,fun _=>none⟩) f72 60 []=some ([],.one (.fl [.f ⟨lJ,aBd⟩])):=by kernel_rfl
theorem WB:cR prog (qG prog) (fun n=>⟨fun _=>nH,fun _=>true,fun _=>none⟩) f62 60 []=some ([],.one (.fl [.f ⟨bX,aEg⟩,.f ⟨bY,aEf⟩])):=by kernel_rfl
theorem XE:aA [At.f ⟨lJ,aBd⟩]=aA [At.q lJ]:=rfl
theorem SW:aA [At.f ⟨bX,aEg⟩,.f ⟨bY,aEf⟩]=aA [At.q bX,.q bY]:=rfl
theorem oW (w:World):bM prog 72 (.one (.fl [.q lJ])) [] w:=by
 have h:=aV aI (fun _ _=>iL) (aW _) func72 Fk trivial (w:=w) (args:=[]) trivial;unfold bM;rw[show RV.den (.one (.fl [.q lJ]))=Value.agg (aA [At.q lJ]).toArray from rfl,←XE];exact h
theorem GL (w:World):bM prog 62 (.one (.fl [.q bX,.q bY])) [] w:=by
 have h:=aV aI (fun _ _=>iL) (aW _) func62 WB trivial (w:=w) (args:=[]) trivial;unfold bM;rw[show RV.den (.one (.fl [.q bX,.q bY]))=Value.agg (aA [At.q bX,.q bY]).toArray from rfl,←SW];exact h
def yX (b c:Bool):Tab:=(((PH b).add 75 gTi).add 76 (aBW c)).add 72 (g0 (.one (.fl [.q lJ])))
theorem uY (b c:Bool):TabOk prog (yX b c):=(((JK b).add func75 (by kernel_rfl) (by kernel_rfl) aGC).add func76 (by kernel_rfl) (by kernel_rfl) (aCv c)).add func72 (by kernel_rfl) (by kernel_rfl) (tD oW)
theorem aAR (p:NP) (n:Nat):cR prog (qG prog) (fun n=>⟨fun _=>yX false true,fun _=>true,fun _=>none⟩) f61 60 [.v (.fl [.q p.1,.q p.2]),.v (.fl [.q n])]=some ([p.1<aH,p.2<aH,jM p.1 p.2=false],.many [.fl UD,.im (.int .i64 41)]):=by kernel_rfl
theorem aAQ (p:NP) (n:Nat):cR prog (qG prog) (fun n=>⟨fun _=>yX true true,fun _=>true,fun _=>none⟩) f61 60 [.v (.fl [.q p.1,.q p.2]),.v (.fl [.q n])]=some ([p.1<aH,p.2<aH,jM p.1 p.2=true,p.1<RM,p.2<RM,1<RM,(wQ (p.1,p.2,1) n).1<RM,(wQ (p.1,p.2,1) n).2.1<RM,(wQ (p.1,p.2,1) n).2.2<RM,(wQ (p.1,p.2,1) n).2.2≠0],vR (JS p n) 0):=by kernel_rfl
theorem aDD (p:NP):cR prog (qG prog) (fun n=>⟨fun _=>yX false true,fun _=>true,fun _=>none⟩) f41 60 [.v (.fl [.q p.1,.q p.2])]=some ([p.1<aH,p.2<aH,jM p.1 p.2=false],.one (.im (.int .i64 41))):=by kernel_rfl
theorem aDB (p:NP):cR prog (qG prog) (fun n=>⟨fun _=>yX true true,fun _=>true,fun _=>none⟩) f41 60 [.v (.fl [.q p.1,.q p.2])]=some ([p.1<aH,p.2<aH,jM p.1 p.2=true,p.1<RM,p.2<RM,1<RM,(wQ (p.1,p.2,1) lJ).1<RM,(wQ (p.1,p.2,1) lJ).2.1<RM,(wQ (p.1,p.2,1) lJ).2.2<RM,oH (wQ (p.1,p.2,1) lJ)=true],.one (.im (.int .i64 0))):=by kernel_rfl
theorem aDC (p:NP):cR prog (qG prog) (fun n=>⟨fun _=>yX true false,fun _=>true,fun _=>none⟩) f41 60 [.v (.fl [.q p.1,.q p.2])]=some ([p.1<aH,p.2<aH,jM p.1 p.2=true,p.1<RM,p.2<RM,1<RM,(wQ (p.1,p.2,1) lJ).1<RM,(wQ (p.1,p.2,1) lJ).2.1<RM,(wQ (p.1,p.2,1) lJ).2.2<RM,oH (wQ (p.1,p.2,1) lJ)=false],.one (.im (.int .i64 111))):=by kernel_rfl
theorem JR (p:NP) (n:Nat) (hp:w2 p) (args:List Value) (w:World) (ha:cT w [.v (.fl (q2 p)),.v (.fl (q1 n))] args):bM prog 61 (if jM p.1 p.2=true then vR (JS p n) 0 else vR (0,0) 41) args w:=by
 cases h:jM p.1 p.2
 ·exact aV aI (fun _ _=>uY _ _) (aW _) func61 (aAR p n) ⟨hp.1,hp.2,h,trivial⟩ ha
 ·have h1:=nQ.1 h;have hr:=tT (oZ h1) n;exact aV aI (fun _ _=>uY _ _) (aW _) func61 (aAQ p n) ⟨hp.1,hp.2,h,h1.1.1,h1.1.2,fI,hr.x,hr.y,hr.z,hr.nz,trivial⟩ ha
def kR (p:NP):Int:=if jM p.1 p.2=true then (if oH (wQ (p.1,p.2,1) lJ)=true then 0 else 111)else 41
theorem wD (p:NP) (hp:w2 p) (args:List Value) (w:World) (ha:cT w [.v (.fl (q2 p))] args):bM prog 41 (.one (.im (.int .i64 (kR p)))) args w:=by
 unfold kR;cases h:jM p.1 p.2
 ·exact aV aI (fun _ _=>uY _ _) (aW _) func41 (aDD p) ⟨hp.1,hp.2,h,trivial⟩ ha
 ·have h1:=nQ.1 h;have hr:=tT (oZ h1) lJ;rw[if_pos rfl];cases h2:oH (wQ (p.1,p.2,1) lJ)
  ·exact aV aI (fun _ _=>uY _ _) (aW _) func41 (aDC p) ⟨hp.1,hp.2,h,h1.1.1,h1.1.2,fI,hr.x,hr.y,hr.z,h2,trivial⟩ ha
  ·exact aV aI (fun _ _=>uY _ _) (aW _) func41 (aDB p) ⟨hp.1,hp.2,h,h1.1.1,h1.1.2,fI,hr.x,hr.y,hr.z,h2,trivial⟩ ha
theorem Yn:wv lJ=lJ:=by kernel_rfl
theorem Lh {p:NP} (h:OnJ p.1 p.2):kR p=if lU.grp.ns lJ (jp h)=lU.grp.zero then 0 else 111:=by
 unfold kR;rw[if_pos (Nk h)];have hr:=tT (oZ h) lJ;rw[Yn]at hr
 by_cases e:lU.grp.ns lJ (jp h)=lU.grp.zero
 ·rw[if_pos e,if_pos ((vI hr).2 e)]
 ·rw[if_neg e,if_neg fun q=>e ((vI hr).1 q)]
theorem Bo {p:NP} (h:¬OnJ p.1 p.2):kR p=41:=by
 unfold kR;rw[if_neg fun q=>h (nQ.1 q)]
def b8 (n k:Nat):At:=.c (.int .u8 (Int.ofNat (bT n k)))
def bl (n:Nat):List At:=[b8 n 0,b8 n 1,b8 n 2,b8 n 3,b8 n 4,b8 n 5,b8 n 6,b8 n 7,b8 n 8,b8 n 9,b8 n 10,b8 n 11,b8 n 12,b8 n 13,b8 n 14,b8 n 15,b8 n 16,b8 n 17,b8 n 18,b8 n 19,b8 n 20,b8 n 21,b8 n 22,b8 n 23,b8 n 24,b8 n 25,b8 n 26,b8 n 27,b8 n 28,b8 n 29,b8 n 30,b8 n 31]
def gBy:List CA→Option (List Prop×FS)
 | [.v (.fl l)]=>match rW l with
  | some n=>some ([],⟨bl (wv n),32,0,0,false,[],[]⟩)
  | none=>none
 | _=>none
def B3:Tab3:=TM.add 37 gBy
def x3 (T:Tab3) (T4:Tab4) (gen:Nat→Option Value) (mks:Nat→Option (Nat×List At)):Ext:={ Ext.none with T3:=T,T4:=T4,gen:=gen,mks:=mks }
def Bin (op:BinOp) (t:Nat) (x y:Operand) (v u r:Value):Prop:=∀w:World,(do eqGuard op t x y v u; binOp op t v u:Sem Value).run prog w=.ok r w
theorem Wn {t:Nat} {x y:Operand} {a b:Nat} (ha:a<256) (hb:b<256):Bin .or t x y (.int .u8 (Int.ofNat a)) (.int .u8 (Int.ofNat b)) (.int .u8 (Int.ofNat (a ||| b))):=fun w=>by
 have h:=u8_or_nat a b ha hb;simp only[Int.ofNat_eq_natCast];exact congrArg (fun z=>Result.ok (Value.int .u8 z) w) h
def VN:List (Nat×TV)→List Fact
 | []=>[]
 | (s,t)::r=>.slot s t.av::VN r
theorem nL:∀{l:List (Nat×TV)} {φ:Fact},φ∈VN l→∃x∈l,φ=.slot x.1 x.2.av
 | x::r,φ,h=>by
  rcases List.mem_cons.1 h with rfl|h
  ·exact⟨x,List.mem_cons_self,rfl⟩
  ·obtain⟨y,h1,h2⟩:=nL h;exact⟨y,List.mem_cons_of_mem _ h1,h2⟩
theorem Holds.fresh {nt base:Nat} {w0:World} {A:List Fact} {a:Act} {w:World} (h:Holds nt base w0 A a w) (l:List (Nat×TV)) (hl:∀x∈l,a.tmps[x.1]?=some x.2.den):Holds nt w.heap.size w (VN l) a w:=by
 refine⟨h.defers,h.size,Below.refl _ _,Nat.le_refl _,fun _=>(w.heap.size,0,0),fun φ hφ => ?_,fun k k' o' l1 l2 h1 => ?_,fun k l1 h1 => ?_,Nat.le_refl _,fun p h1 h2=>⟨rfl,rfl⟩,Shape.refl _⟩
 ·obtain⟨x,hx,rfl⟩:=nL hφ;show a.tmps[x.1]?=_;rw[TV.av_den];exact hl x hx
 ·obtain⟨x,_,e⟩:=nL h1; cases e
 ·obtain⟨x,_,e⟩:=nL h1; cases e
theorem FR.ok.older {r:FR} {w w1 w2:World} {e:Ending} (h:r.ok w1 e w2) (hb:Below w.heap.size w w1):r.ok w e w2:=by
 obtain⟨b,h1,h2,h3,h4⟩:=h;exact⟨b,h1,hb.trans (h2.mono hb.size),Nat.le_trans hb.size h3,h4⟩
def hd (vs:Nat→Value) (j:Nat):List At:=[.c (vs j)]
def HV (w:World) (v:Value) (K:Nat) (vs:Nat→Value):Prop:=∃b o m,v=.slice (some ⟨b,o,none⟩) K m∧b<w.heap.size∧w.rangeAt b o (aA (bV (hd vs) 0 K))
def Qj (K:Nat) (Ns:Nat→Nat):Prop:=∀j,j<K→Ns j≤65536
def Wq (K:Nat) (Ns:Nat→Nat) (fs:Nat→Nat→Nat):Prop:=∀j,j<K→oI (Ns j) (fs j)
instance (K:Nat) (Ns:Nat→Nat):Decidable (Qj K Ns):=Nat.decidableBallLT K fun j _=>Ns j≤65536
instance (K:Nat) (Ns:Nat→Nat) (fs:Nat→Nat→Nat):Decidable (Wq K Ns fs):=Nat.decidableBallLT K fun j _=>oI (Ns j) (fs j)
def gY (f:Nat→Nat) (i x:Nat) (j:Nat):Nat:=if j=i then x else f j
structure FQ where
 l:List At
 n:Nat
 l':List At
 n':Nat
def FQ.ok (r:FQ) (w:World) (e:Ending) (w':World):Prop:=∃b b',e=.returned (.tuple #[aK b 0 r.n r.n,aK b' 0 r.n' r.n'])∧Below w.heap.size w w'∧(w.heap.size≤b∧b<w'.heap.size∧w'.rangeAt b 0 (aA r.l)∧∀j,w'.frozen? ⟨b,j,none⟩=false)∧(w.heap.size≤b'∧b'<w'.heap.size∧w'.rangeAt b' 0 (aA r.l')∧∀j,w'.frozen? ⟨b',j,none⟩=false)∧b≠b'
theorem FQ.ok.older {r:FQ} {w w1 w2:World} {e:Ending} (h:r.ok w1 e w2) (hb:Below w.heap.size w w1):r.ok w e w2:=by
 obtain⟨b,b',h1,h2,h3,h4,h5⟩:=h;exact⟨b,b',h1,hb.trans (h2.mono hb.size),⟨Nat.le_trans hb.size h3.1,h3.2⟩,⟨Nat.le_trans hb.size h4.1,h4.2⟩,h5⟩
theorem LV.from {w:World} {b o N m i:Nat} {f:Nat→Nat} (hb:b<w.heap.size) (hr:w.rangeAt b o (aA (bV (el f) 0 N))) (hi:i≤N) (hm:N≤m) (h256:∀j,j<N→f j<aH):LV w (aK b (if m=i then o else o+i*4) (N-i) (m-i)) (N-i) (fun j=>f (i+j)):=by
 refine⟨_,_,rfl,by omega,fun j hj=>h256 _ (by omega),fun h => ?_⟩;rw[if_neg (by omega)];refine⟨b,o+i*4,rfl,hb,?_⟩;have e:bV (el f) 0 N=bV (el f) 0 i++bV (el (fun j=>f (i+j))) 0 (N-i):=by
  have key:∀(n s:Nat),bV (el f) (i+s) n=bV (el (fun j=>f (i+j))) s n:=fun n=>by
   induction n with
   | zero=>intro s; rfl
   | succ n ih =>
    intro s;show el f (i+s)++bV (el f) (i+s+1) n=_;rw[Nat.add_assoc,ih (s+1)];rfl
  have sp:∀(i n s:Nat),i≤n→bV (el f) s n=bV (el f) s i++bV (el f) (s+i) (n-i):=fun i=>by
   induction i with
   | zero=>intro n s _; rfl
   | succ i ih =>
    intro n s h;obtain⟨n,rfl⟩:∃k,n=k+1:=⟨n-1,by omega⟩
    show el f s++bV (el f) (s+1) n=(el f s++bV (el f) (s+1) i)++_;rw[ih n (s+1) (by omega),List.append_assoc,show s+1+i=s+(i+1) by omega,show n+1-(i+1)=n-i by omega]
  rw[sp i N 0 hi,Nat.zero_add,←key (N-i) 0,Nat.add_zero]
 intro j u hj;have h2:=hr (i*4+j) u (by
  rw[e,aM,List.getElem?_append_right (by rw[aN,fM (c:=4) fun _=>rfl]; omega),aN,fM (c:=4) fun _=>rfl,Nat.add_sub_cancel_left];exact hj)
 rwa [←Nat.add_assoc]at h2
theorem LV.one {w:World} {b x:Nat} (h:oldOf w b 0 [.q x]) (hx:x<aH):LV w (aK b 0 1 1) 1 (fun _=>x) :=
 ⟨_,_,rfl,Nat.le_refl _,fun _ _=>hx,fun _=>⟨b,0,rfl,h.1,h.2⟩⟩
def PB:Nat→List AV→List Fact
 | _,[]=>[]
 | i,v::r=>.slot i v::PB (i+1) r
theorem GN {base:Nat} {β:Nat→Bk} (a:Act) (w:World):∀(xs:List AV) (i:Nat),(∀j v,xs[j]?=some v→a.tmps[i+j]?=some (v.den β))→∀φ∈PB i xs,φ.ok base β a w
 | [],i,_,φ,h=>by cases h
 | t::r,i,ha,φ,h=>by
  rcases List.mem_cons.1 h with rfl|h
  ·exact ha 0 t rfl
  ·exact GN a w r (i+1) (fun j u hj=>by have:=ha (j+1) u (by simpa using hj); rwa [show i+(j+1)=i+1+j by omega]at this) φ h
theorem yU:∀(xs:List AV) (i:Nat) (k:Nat) (o:Bool) (l:List At),Fact.row k o l∈PB i xs→False
 | [],i,k,o,l,h=>by cases h
 | t::r,i,k,o,l,h=>by
  rcases List.mem_cons.1 h with h|h
  ·cases h
  ·exact yU r (i+1) k o l h
def Cl (nt b N:Nat) (l:List At) (xs:List AV):List Fact:=.row 0 true l :: .at 0 b :: .at nt N::PB 0 xs
section
variable {P:Program} {w:World} {R:Ending→World→Prop}
theorem RK {f:FuncId} {fn:Func} (hf:P.funcs[f]?=some fn) {c:Code} (hb:fn.body=some c) {b:Nat} {l:List At} {xs:List AV} {vs:List Value} (hx:∀β:Nat→Bk,β 0=(b,0,0)→xs.map (AV.den β)=vs) (hO:Own w b l) (hn:xs.length≤fn.ntmps) (h0n:0<fn.ntmps)
  (h:∀a w',Holds fn.ntmps b w (Cl fn.ntmps b w.heap.size l xs) a w'→c.wp P (bodyPost P fn R) a w'):Calls P f vs.toArray w R:=by
 refine calls_of_wp hf hb (h _ _ ?_);have hlen:vs.length=xs.length:=by rw[←hx (fun _=>(b,0,0)) rfl,List.length_map]
 have hg:∀j u,vs[j]?=some u→(vs.toArray++Array.replicate (fn.ntmps-vs.toArray.size) undef)[j]?=some u:=fun j u hj=>by
  have hlt:=(List.getElem?_eq_some_iff.1 hj).1;rw[Array.getElem?_append_left (by simpa using hlt)];simpa using hj
 have hz:(fun k=>if k=fn.ntmps then ((w.heap.size,0,0):Bk)else (b,0,0)) 0=(b,0,0):=if_neg (by omega);have hz2:(fun k=>if k=fn.ntmps then ((w.heap.size,0,0):Bk)else (b,0,0)) fn.ntmps=(w.heap.size,0,0):=if_pos rfl;generalize (fun k=>if k=fn.ntmps then ((w.heap.size,0,0):Bk)else (b,0,0))=β at hz hz2;have h0:∀k o l0,Fact.row k o l0∈Cl fn.ntmps b w.heap.size l xs→k=0∧o=true:=fun k o l0 hk=>by
  simp only[Cl,List.mem_cons,reduceCtorEq,false_or]at hk
  rcases hk with hk|hk
  ·cases hk; exact⟨rfl,rfl⟩
  ·exact (yU xs 0 k o l0 hk).elim
 refine⟨rfl,by simp; omega,Below.refl _ _,Nat.le_of_lt hO.lt,β,fun φ hφ => ?_,fun k k' o' l1 l2 h1 h2 hne => ?_,fun k l1 h1=>Or.inl ?_,by rw[hz2]; exact Nat.le_refl _,fun p q1 q2=>⟨rfl,rfl⟩,Shape.refl _⟩
 ·simp only[Cl,List.mem_cons]at hφ
  rcases hφ with rfl|rfl|rfl|hφ
  ·exact⟨by rw[hz]; exact hO.lt,by rw[hz]; exact hO.row,fun _=>⟨by rw[hz]; exact Nat.le_refl _,by rw[hz],by rw[hz]; exact hO.free⟩,fun h=>by cases h⟩
  ·exact⟨by rw[hz],by rw[hz]⟩
  ·exact⟨by rw[hz2],by rw[hz2]⟩
  ·refine GN _ _ xs 0 (fun j v hj => ?_) φ hφ;rw[Nat.zero_add];exact hg j _ (by rw[←hx β hz,List.getElem?_map,hj]; rfl)
 ·exact (hne ((h0 k true l1 h1).1.trans (h0 k' o' l2 h2).1.symm)).elim
 ·rw[(h0 k true l1 h1).1,hz]
end
def bj (f:Nat→Nat):List At:=[.c (.int .u8 (Int.ofNat (f 0))),.c (.int .u8 (Int.ofNat (f 1))),.c (.int .u8 (Int.ofNat (f 2))),.c (.int .u8 (Int.ofNat (f 3))),.c (.int .u8 (Int.ofNat (f 4))),.c (.int .u8 (Int.ofNat (f 5))),.c (.int .u8 (Int.ofNat (f 6))),.c (.int .u8 (Int.ofNat (f 7))),.c (.int .u8 (Int.ofNat (f 8))),.c (.int .u8 (Int.ofNat (f 9))),.c (.int .u8 (Int.ofNat (f 10))),.c (.int .u8 (Int.ofNat (f 11))),.c (.int .u8 (Int.ofNat (f 12))),.c (.int .u8 (Int.ofNat (f 13))),.c (.int .u8 (Int.ofNat (f 14))),.c (.int .u8 (Int.ofNat (f 15))),.c (.int .u8 (Int.ofNat (f 16))),.c (.int .u8 (Int.ofNat (f 17))),.c (.int .u8 (Int.ofNat (f 18))),.c (.int .u8 (Int.ofNat (f 19))),.c (.int .u8 (Int.ofNat (f 20))),.c (.int .u8 (Int.ofNat (f 21))),.c (.int .u8 (Int.ofNat (f 22))),.c (.int .u8 (Int.ofNat (f 23))),.c (.int .u8 (Int.ofNat (f 24))),.c (.int .u8 (Int.ofNat (f 25))),.c (.int .u8 (Int.ofNat (f 26))),.c (.int .u8 (Int.ofNat (f 27))),.c (.int .u8 (Int.ofNat (f 28))),.c (.int .u8 (Int.ofNat (f 29))),.c (.int .u8 (Int.ofNat (f 30))),.c (.int .u8 (Int.ofNat (f 31)))]
def rT (f:Nat→Nat):Nat→Nat:=fun k=>f (31-k)
def WA:Code:=(f66.body).getD .skip
theorem Qm (f:Nat→Nat) (b N m:Nat):aX prog (qG prog) f66.ntmps (fun _=>⟨fun _=>T0,fun _=>true,fun _=>none⟩) 80 WA (Cl f66.ntmps b N (bj f) [.sl 0 0 32 m]) [.row 0 true (bj (rT f)),.at 0 b,.at f66.ntmps N]=some ([],.nrm,[.row 0 true (bj (rT f)),.at 0 b,.at f66.ntmps N]):=by kernel_rfl
theorem VZ {w:World} {b:Nat} {f:Nat→Nat} (m:Nat) (hO:Own w b (bj f)):Calls prog 66 #[aK b 0 32 m] w (Cv b w (.many []) (bj (rT f))):=by
 have hG:bO prog (qG prog) b w:=(aW _).w _ _;have hT:∀n d:Nat,TabOkW prog T0 b w:=fun _ _=>(bU _).w _ _
 refine RK func66 (xs:=[.sl 0 0 32 m]) (vs:=[aK b 0 32 m]) (c:=WA) rfl (fun β e0=>by simp[AV.den,e0,aK]) hO (Nat.le_of_ble_eq_true (by kernel_rfl)) (by decide) fun a w' hA => ?_
 refine aB aI hT hG (Qm f b w.heap.size m) trivial hA fun a w1 hA => ?_
 obtain⟨q1,q2⟩:=hA.wrc (List.mem_of_getElem? (i:=0) rfl) (List.mem_of_getElem? (i:=1) rfl) (List.mem_of_getElem? (i:=2) rfl);have hres:(results f66 a.tmps).run prog w1=.ok (.tuple #[]) w1:=by
  show ((f66.results.mapM (tM a.tmps)) >>= fun vs=>pure (if h:vs.size=1 then vs[0]else .tuple vs):Sem Value).run prog w1=_;have hr:f66.results = #[]:=rfl;rw[hr];simp
 exact⟨hA.defers,.tuple #[],hres,rfl,q1,q2⟩
def gRv (f:Nat→Nat) (b:Nat) (row:List At):List CB→Option (List Prop×RV×List At)
 | [.sl o n m]=>some ([o=0,n=32,aA row=aA (bj f)],.many [],bj (rT f))
 | _=>none
def B6 (f:Nat→Nat):Tab6:=Dd.add 66 (gRv f)
theorem aEF (f:Nat→Nat):PbOk prog (B6 f):=(wO _).add func66 (by kernel_rfl) (by kernel_rfl) fun b row cs pre r l hg hp args w h1 h2 h3 h4=>by
 unfold gRv at hg;split at hg
 ·rename_i o n m;cases hg;obtain⟨rfl,rfl,hr,_⟩:=hp
  match args,h4 with
  | [v],h4 =>
   have e:v=aK b 0 32 m:=h4.1;subst e;exact VZ m ⟨h1,hr▸h2,h3⟩
  | [],h4=>exact h4.elim
  | _::_::_,h4=>exact h4.2.elim
 ·cases hg
end Go.Proofs.YtpjlhhpjpnacmaaGreatDoor.Ex
namespace Go.Proofs.YtpjlhhpjpnacmaaGreatDoor
open Go.Proofs.Tryz
open Go.RowKit
def Mu (A:Nat) (w:World) (e:Ending) (w':World):Prop :=
 ∃b:Nat,e=.returned (.tuple #[.slice (some ⟨b,0,none⟩) 32 32,.int .i64 0])∧w.heap.size≤b∧b<w'.heap.size∧RowB w' b 32 (bT A)∧Below w.heap.size w w'∧∀j,w'.frozen? ⟨b,j,none⟩=false
set_option maxHeartbeats 2000000 in
theorem KV (f:Int) (F:FC) (hf:FieldIs f F) (a0 a1 a2 a3:Nat) (ha:cC a0 a1 a2 a3) (la:aC a0 a1 a2 a3<F.M) (w:World) :
  Calls prog 65 #[.int .i64 f,.agg #[.int .u64 a0,.int .u64 a1,.int .u64 a2,.int .u64 a3]] w (Mu (aC a0 a1 a2 a3) w):=by
 go_enter func65,ntmps65
 go_wp2_with fail;refine (fB f F hf _).mono ?_
 rintro e w1 ⟨rfl,hbl⟩
 have M1:=((Mem.nil w).new (w.heap.size) a0 a1 a2 a3 27 (by simp)).on hbl;clear hbl;have z0:w.heap.size<w1.heap.size:=M1.lt (c0:=a0) (c1:=a1) (c2:=a2) (c3:=a3) (by simp);have HM:=Lib.hid (M1.on ((Below.refl _ _).alloc (Nat.le_refl _) (.cells #[.int .u64 F.m0,.int .u64 F.m1,.int .u64 F.m2,.int .u64 F.m3,.int .u64 F.inv,.int .u64 F.s0,.int .u64 F.s1,.int .u64 F.s2,.int .u64 F.s3] 157)));have KK:=Lib.hid (KIs.new w1 F 157);have kr:=M1.row (b:=w.heap.size) (c0:=a0) (c1:=a1) (c2:=a2) (c3:=a3) (by simp);have x0:=kr.c0; have x1:=kr.c1; have x2:=kr.c2; have x3:=kr.c3;clear kr;have xl:=M1.lt (b:=w.heap.size) (c0:=a0) (c1:=a1) (c2:=a2) (c3:=a3) (by simp);go_wp2_with fail;refine (dQ F hf.ok w1.heap.size a0 a1 a2 a3 ha _ KK.out).mono ?_
 rintro e w2 ⟨he,hbl⟩
 rw[show FB (aC a0 a1 a2 a3) F.M=true from decide_eq_true la]at he;subst he;have HM':=Lib.hid (HM.out.on hbl);have KK':=Lib.hid (KK.out.same hbl);have zk:=KK'.out.lt;clear HM KK hbl M1;have HM:=HM';have KK:=KK';clear HM' KK';clear x0 x1 x2 x3 xl zk;have kr:=HM.out.row (b:=w.heap.size) (c0:=a0) (c1:=a1) (c2:=a2) (c3:=a3) (by simp);have x0:=kr.c0; have x1:=kr.c1; have x2:=kr.c2; have x3:=kr.c3;clear kr;have xl:=HM.out.lt (b:=w.heap.size) (c0:=a0) (c1:=a1) (c2:=a2) (c3:=a3) (by simp);go_wp2_with fail;have hsz:w.heap.size≤w2.heap.size:=HM.out.1.size;refine (rJ a0 a1 a2 a3 ha _).mono ?_
 rintro e w4 ⟨bb,rfl,h1,h2,h3,hbl,hff⟩
 have HF:=Lib.hid hff;clear hff;have H3:=Lib.hid h3;clear h3;have HM':=Lib.hid (HM.out.on hbl);have KK':=Lib.hid (KK.out.same hbl);have zk:=KK'.out.lt;clear HM KK hbl;have HM:=HM';have KK:=KK';clear HM' KK';clear x0 x1 x2 x3 xl zk;go_wp2_with fail
 go_ret2
 exact⟨bb,rfl,by omega,h2,H3.out,HM.out.1,HF.out⟩
namespace Ex
theorem OZ (f:Nat→Nat):∀k,k<32→(aA (bj f))[k]?=some (.int .u8 (Int.ofNat (f k)))
 | 0,_=>by kernel_rfl
 | 1,_=>by kernel_rfl
 | 2,_=>by kernel_rfl
 | 3,_=>by kernel_rfl
 | 4,_=>by kernel_rfl
 | 5,_=>by kernel_rfl
 | 6,_=>by kernel_rfl
 | 7,_=>by kernel_rfl
 | 8,_=>by kernel_rfl
 | 9,_=>by kernel_rfl
 | 10,_=>by kernel_rfl
 | 11,_=>by kernel_rfl
 | 12,_=>by kernel_rfl
 | 13,_=>by kernel_rfl
 | 14,_=>by kernel_rfl
 | 15,_=>by kernel_rfl
 | 16,_=>by kernel_rfl
 | 17,_=>by kernel_rfl
 | 18,_=>by kernel_rfl
 | 19,_=>by kernel_rfl
 | 20,_=>by kernel_rfl
 | 21,_=>by kernel_rfl
 | 22,_=>by kernel_rfl
 | 23,_=>by kernel_rfl
 | 24,_=>by kernel_rfl
 | 25,_=>by kernel_rfl
 | 26,_=>by kernel_rfl
 | 27,_=>by kernel_rfl
 | 28,_=>by kernel_rfl
 | 29,_=>by kernel_rfl
 | 30,_=>by kernel_rfl
 | 31,_=>by kernel_rfl
 | k+32,h=>absurd h (by omega)
theorem Cf {w:World} {b:Nat} {f:Nat→Nat} (h:∀k,k<32→w.cell? ⟨b,k,none⟩=some (.int .u8 (f k:Nat))):w.rangeAt b 0 (aA (bj f)):=fun j v hj=>by
 have hlt:j<32:=by
  have h1:=(List.getElem?_eq_some_iff.1 hj).1
  rwa [aN,show dJ (bj f)=32 by kernel_rfl]at h1
 rw[Nat.zero_add,h j hlt,←hj,OZ f j hlt];rfl
def Tz:List CA→Option (List Prop×FR)
 | [.v (.im (.int .i64 2)),.v (.fl l)]=>match rW l with
  | some x=>some ([x<RM],⟨bj (bT x),32,32,[.im (.int .i64 0)]⟩)
  | none=>none
 | _=>none
theorem Jq:∀cs pre r,Tz cs=some (pre,r)→bC pre→∀(args:List Value) (w:World),cT w cs args→Calls prog 65 args.toArray w (fun e w'=>r.ok w e w'):=by
 intro cs pre r hg hp args w ha;unfold Tz at hg;split at hg
 ·rename_i l;split at hg
  ·rename_i x hx;cases hg
   match args,ha with
   | [t,v],ha =>
    have h1:t=.int .i64 2:=ha.1;have h2:v=.agg (aA l).toArray:=ha.2.1;rw[dO l x hx]at h2;subst h1; subst h2;refine (KV 2 _ xE _ _ _ _ (eR x) (by rw[vN hp.1]; exact hp.1) w).mono ?_
    rintro e w' ⟨b,rfl,h1,h2,h3,h4,h5⟩
    rw[vN hp.1]at h3;exact⟨b,rfl,h4,h1,h2,Cf fun k hk=>(h3 k hk).1,h5⟩
   | [],ha=>exact ha.elim
   | [_],ha=>exact ha.2.elim
   | _::_::_::_,ha=>exact ha.2.2.elim
  ·cases hg
 ·cases hg
def FB2:Tab2:=UA.add 65 Tz
theorem Xi:FrOk prog FB2:=(Xh _).add func65 (by kernel_rfl) (by kernel_rfl) Jq
end Ex
end Go.Proofs.YtpjlhhpjpnacmaaGreatDoor
namespace Go.Proofs.YtpjlhhpjpnacmaaGreatDoor.Ex
open Go.Proofs.Tryz
open Go.RowKit
def Tv:gL
 | [.v (.im v)]=>some ([],.one (.im v))
 | _=>none
def IV (b:Bool) (p:NP):RV:=bif b then vR p 0 else vR (0,0) 41
def aBX (b:Bool):gL:=g2 Nd Nd fun p q=>([p.1<aH,p.2<aH,q.1<aH,q.2<aH,(jM p.1 p.2&&jM q.1 q.2)=b],IV b (Ct p q))
def aBU (b:Bool):gL:=g1 Nd fun p=>([p.1<aH,p.2<aH,jM p.1 p.2=b],IV b (XY p))
def aBV (b:Bool):gL:=g2 Nd rW fun p n=>([p.1<aH,p.2<aH,jM p.1 p.2=b],IV b (JS p n))
def Uf (c:Int):gL:=g1 Nd fun p=>([p.1<aH,p.2<aH,kR p=c],.one (.im (.int .i64 c)))
theorem zZ {b:Bool} {c:Bool} {p:NP} (h:c=b):(if c=true then vR p 0 else vR (0,0) 41)=IV b p:=by
 subst h; cases c<;>rfl
theorem Jv {f:FuncId} (h:∀(p q:NP),w2 p→w2 q→∀(args:List Value) (w:World),cT w [.v (.fl (q2 p)),.v (.fl (q2 q))] args→bM prog f (if (jM p.1 p.2&&jM q.1 q.2)=true then vR (Ct p q) 0 else vR (0,0) 41) args w) (b:Bool):∀cs pre r,aBX b cs=some (pre,r)→bC pre→∀(args:List Value) (w:World),cT w cs args→bM prog f r args w :=
 FG (op:=fun p q=>([p.1<aH,p.2<aH,q.1<aH,q.2<aH,(jM p.1 p.2&&jM q.1 q.2)=b],IV b (Ct p q))) rV rV fun p q hp args w ha=>by
  have:=h p q ⟨hp.1,hp.2.1⟩ ⟨hp.2.2.1,hp.2.2.2.1⟩ args w ha;rw[zZ hp.2.2.2.2.1]at this;exact this
theorem Jm {f:FuncId} (h:∀(p:NP),w2 p→∀(args:List Value) (w:World),cT w [.v (.fl (q2 p))] args→bM prog f (if jM p.1 p.2=true then vR (XY p) 0 else vR (0,0) 41) args w) (b:Bool):∀cs pre r,aBU b cs=some (pre,r)→bC pre→∀(args:List Value) (w:World),cT w cs args→bM prog f r args w :=
 kN (op:=fun p=>([p.1<aH,p.2<aH,jM p.1 p.2=b],IV b (XY p))) rV fun p hp args w ha=>by
  have:=h p ⟨hp.1,hp.2.1⟩ args w ha;rw[zZ hp.2.2.1]at this;exact this
theorem Jo {f:FuncId} (h:∀(p:NP) (n:Nat),w2 p→∀(args:List Value) (w:World),cT w [.v (.fl (q2 p)),.v (.fl (q1 n))] args→bM prog f (if jM p.1 p.2=true then vR (JS p n) 0 else vR (0,0) 41) args w) (b:Bool):∀cs pre r,aBV b cs=some (pre,r)→bC pre→∀(args:List Value) (w:World),cT w cs args→bM prog f r args w :=
 FG (op:=fun p n=>([p.1<aH,p.2<aH,jM p.1 p.2=b],IV b (JS p n))) rV dO fun p n hp args w ha=>by
  have:=h p n ⟨hp.1,hp.2.1⟩ args w ha;rw[zZ hp.2.2.1]at this;exact this
theorem OL {f:FuncId} (h:∀(p:NP),w2 p→∀(args:List Value) (w:World),cT w [.v (.fl (q2 p))] args→bM prog f (.one (.im (.int .i64 (kR p)))) args w) (c:Int):∀cs pre r,Uf c cs=some (pre,r)→bC pre→∀(args:List Value) (w:World),cT w cs args→bM prog f r args w :=
 kN (op:=fun p=>([p.1<aH,p.2<aH,kR p=c],.one (.im (.int .i64 c)))) rV fun p hp args w ha=>by
  have:=h p ⟨hp.1,hp.2.1⟩ args w ha;rw[hp.2.2.1]at this;exact this
def gLw (c:Bool):gL
 | [.v (.im (.int .i64 2)),.v (.fl l)]=>match rW l with
  | some x=>some ([x<RM,tR RM x=c],.many [.im (.bool c),.im (.int .i64 0)])
  | none=>none
 | _=>none
theorem aGQ (c:Bool):∀cs pre r,gLw c cs=some (pre,r)→bC pre→∀(args:List Value) (w:World),cT w cs args→bM prog 99 r args w:=by
 intro cs pre r hg hp args w ha;unfold gLw at hg;split at hg
 ·rename_i l;split at hg
  ·rename_i x hx;cases hg
   match args,ha with
   | [t,v],ha =>
    have h1:t=.int .i64 2:=ha.1;have h2:v=.agg (aA l).toArray:=ha.2.1;rw[dO l x hx]at h2;subst h1; subst h2;have h:=RR 2 _ xE _ _ _ _ (eR x) (by rw[vN hp.1]; exact hp.1) w;rw[vN hp.1,hp.2.1]at h;exact h
   | [],ha=>exact ha.elim
   | [_],ha=>exact ha.2.elim
   | _::_::_::_,ha=>exact ha.2.2.elim
  ·cases hg
 ·cases hg
def aEv (c:Bool):Tab:=T0.add 99 (gLw c)
theorem aAF (c:Bool):TabOk prog (aEv c):=(bU _).add func99 (by kernel_rfl) (by kernel_rfl) (aGQ c)
theorem Tk (c:Bool) (x:Nat):mA prog (aEv c) (qG prog) (fun _=>true) f67 40 [.v (.fl [.q x])]=some ([x<RM,tR RM x=c],.one (.im (.bool c))):=by kernel_rfl
def gIl (c:Bool):gL:=g1 rW fun x=>([x<RM,tR RM x=c],.one (.im (.bool c)))
theorem aGS (c:Bool):∀cs pre r,gIl c cs=some (pre,r)→bC pre→∀(args:List Value) (w:World),cT w cs args→bM prog 67 r args w :=
 kN (op:=fun x=>([x<RM,tR RM x=c],.one (.im (.bool c)))) dO fun x h args w ha=>cJ aI (aAF c) (aW _) func67 (Tk c x) h ha
def aEx (k:Int) (c:Bool):Tab:=(nH.add 41 (Uf k)).add 67 (gIl c)
theorem aAH (k:Int) (c:Bool):TabOk prog (aEx k c):=(iL.add func41 (by kernel_rfl) (by kernel_rfl) (OL wD k)).add func67 (by kernel_rfl) (by kernel_rfl) (aGS c)
def xBy (f:Nat→Nat) (ky:Nat→Option Nat) (gen:Nat→Option Value):Ext:={ Ext.none with ky:=ky,gen:=gen,T2:=FB2,T3:=TM,T4:=Cw,T5:=jY,T6:=B6 f }
theorem GY (f:Nat→Nat) (ky:Nat→Option Nat) (gen:Nat→Option Value) (w:World):bO prog (qY prog (xBy f ky gen)) w.heap.size w:=Zy Xi (fun _ _ _ h=>h.elim) (Xg _) (MK _) (jJ _) (aEF f)
def eT:Code:=(f35.body).getD .skip
theorem Ce:eT=.seq (cA eT) (.seq (cA (cB eT)) (.seq (cA (cB (cB eT))) (.seq (cA (cB (cB (cB eT)))) (.seq (cA (cB (cB (cB (cB eT))))) (cB (cB (cB (cB (cB eT))))))))):=by kernel_rfl
def Yc (p:NP):List Fact:=[.slot 1 (.pt 1 0),.row 1 true [.q p.1,.q p.2]]
def SQ (p:NP) (f:Nat→Nat):List Fact:=[.slot 1 (.pt 1 0),.row 1 true [.q p.1,.q p.2],.slot 5 (.sl 15 0 32 32),.row 15 true (bj f)]
def Oo (c:Bool) (_:Nat):Cfg:=⟨fun _=>aEx 0 c,fun _=>true,fun _=>none⟩
theorem Wh (p:NP) (c:Bool):aX prog (qG prog) f35.ntmps (Oo c) 60 (cA eT) (fD 0 [.v (.fl [.q p.1,.q p.2])]) (Yc p)=some ([],.nrm,Yc p):=by kernel_rfl
theorem Wg (p:NP) (c:Bool):aX prog (qG prog) f35.ntmps (Oo c) 60 (cA (cB eT)) (Yc p) (Yc p)=some ([p.1<aH,p.2<aH,kR p=0],.nrm,Yc p):=by kernel_rfl
theorem Wf (p:NP) (c:Bool) (f:Nat→Nat):aX prog (qY prog (xBy f (fun _=>none) (fun _=>none))) f35.ntmps (Oo c) 60 (cA (cB (cB eT))) (Yc p) (SQ p (bT p.2))=some ([p.2<RM],.nrm,SQ p (bT p.2)):=by kernel_rfl
theorem We (p:NP) (c:Bool) (f:Nat→Nat) (b:Nat):aX prog (qY prog (xBy f (assoc [(19,15)]) (fun _=>none))) f35.ntmps (Oo c) 60 (cA (cB (cB (cB eT)))) (.at 15 b::SQ p f) (SQ p (rT f))=some ([0=0,32=32,aA (bj f)=aA (bj f)],.nrm,SQ p (rT f)):=by kernel_rfl
def Gz (f:Nat→Nat):Nat→Nat:=fun k=>bif Nat.beq k 31 then f 31 ||| 128 else f k
theorem Wc (p:NP) (f:Nat→Nat):aX prog (qG prog) f35.ntmps (Oo true) 60 (cA (cB (cB (cB (cB eT))))) (SQ p f) (SQ p f)=some ([p.1<RM,tR RM p.1=true],.nrm,SQ p f):=by kernel_rfl
theorem Wd (p:NP) (f:Nat→Nat):aX prog (qY prog (xBy f (fun _=>none) (assoc [(27,.int .u8 (Int.ofNat (f 31 ||| 128)))]))) f35.ntmps (Oo false) 60 (cA (cB (cB (cB (cB eT))))) (SQ p f) (SQ p (Gz f))=some ([p.1<RM,tR RM p.1=false,Bin .or 5 (.tmp 26) (.const (.int .u8 128)) (.int .u8 (Int.ofNat (f 31))) (.int .u8 (Int.ofNat 128)) (.int .u8 (Int.ofNat (f 31 ||| 128)))],.nrm,SQ p (Gz f)):=by kernel_rfl
theorem Cd (p:NP) (c:Bool) (f:Nat→Nat):aX prog (qG prog) f35.ntmps (Oo c) 60 (cB (cB (cB (cB (cB eT))))) (SQ p f) [.slot 2 (.sl 15 0 32 32),.row 15 true (bj f),.slot 3 (.im (.int .i64 0))]=some ([],.rt,[.slot 2 (.sl 15 0 32 32),.row 15 true (bj f),.slot 3 (.im (.int .i64 0))]):=by kernel_rfl
def xH (p:NP):Nat→Nat:=bif tR RM p.1 then rT (bT p.2)else Gz (rT (bT p.2))
theorem LT (A k:Nat):bT A k<256:=Nat.mod_lt _ (by decide)
theorem SP (p:NP) (hp:OnJ p.1 p.2) (h0:kR p=0) (args:List Value) (w:World) (ha:cT w [.v (.fl [.q p.1,.q p.2])] args):Calls prog 35 args.toArray w (fun e w'=>FR.ok ⟨bj (xH p),32,32,[.im (.int .i64 0)]⟩ w e w'):=by
 have hG:bO prog (qG prog) w.heap.size w:=(aW _).w _ _;have hT:∀c (n d:Nat),TabOkW prog ((Oo c n).T d) w.heap.size w:=fun c _ _=>(aAH 0 c).w _ _
 refine cH func35 (c:=eT) rfl ha (Nat.le_of_ble_eq_true (by kernel_rfl)) fun a w' hA => ?_
 rw[Ce];refine wp_seq (aB aI (hT true) hG (Wh p true) trivial hA fun a w' hA => ?_);refine wp_seq (aB aI (hT true) hG (Wg p true) ⟨hp.w.1,hp.w.2,h0,trivial⟩ hA fun a w' hA => ?_);refine wp_seq (aB aI (hT true) (GY (bT p.2) _ _ w) (Wf p true (bT p.2)) ⟨hp.1.2,trivial⟩ hA fun a w' hA => ?_);obtain⟨b,hA⟩:=hA.at (k:=15) (l:=bj (bT p.2)) (by simp[SQ]);refine wp_seq (aB aI (hT true) (GY (bT p.2) _ _ w) (We p true (bT p.2) b) ⟨rfl,rfl,rfl,trivial⟩ hA fun a w' hA => ?_);unfold xH;cases hl:tR RM p.1
 ·refine wp_seq (aB aI (hT false) (GY (rT (bT p.2)) _ _ w) (Wd p (rT (bT p.2))) ⟨hp.1.1,hl,Wn (LT _ _) (by decide),trivial⟩ hA fun a w' hA => ?_);exact aB aI (hT false) hG (Cd p false _) trivial hA fun a w' hA=>yD (r:=⟨bj (Gz (rT (bT p.2))),32,32,[.im (.int .i64 0)]⟩) (by kernel_rfl) hA
 ·refine wp_seq (aB aI (hT true) hG (Wc p (rT (bT p.2))) ⟨hp.1.1,hl,trivial⟩ hA fun a w' hA => ?_);exact aB aI (hT true) hG (Cd p true _) trivial hA fun a w' hA=>yD (r:=⟨bj (rT (bT p.2)),32,32,[.im (.int .i64 0)]⟩) (by kernel_rfl) hA
theorem Yx:Ye prog 25=some (5,1,1):=by kernel_rfl
theorem Holds.anew {nt base:Nat} {w0:World} {A:List Fact} {a:Act} {w:World} (h:Holds nt base w0 A a w) {w':World} (hb:Below base w0 w') (hs:Shape w w') (hh:base≤w'.heap.size) {d k b n:Nat} {l:List At} (hd:d<nt) (h1:base≤b) (h2:b<w'.heap.size) (h3:w'.rangeAt b 0 (aA l)) (h4:∀j,w'.frozen? ⟨b,j,none⟩=false) (hk:k≠nt) :
  Holds nt base w0 [.slot d (.sl k 0 n n),.row k true l] (a.put (some d) (aK b 0 n n)) w':=by
 obtain⟨β,g1,g2,g3,gt⟩:=h.facts;refine⟨by rw[jA]; exact h.defers,by rw[aF]; exact h.size,hb,hh,fun j=>if j=nt then (0,0,0)else (b,0,0),fun φ hφ => ?_,fun k1 k2 o2 l1 l2 q1 q2 hne => ?_,fun k1 l1 q1=>Or.inr ?_,?_,fun p p1 p2 => ?_,gt.shape.trans hs⟩
 ·simp only[List.mem_cons,List.not_mem_nil,or_false]at hφ
  rcases hφ with rfl|rfl
  ·show (a.put (some d) _).tmps[d]?=_;rw[aT _ _ _ (by rw[h.size]; exact hd)];simp[AV.den,hk,aK]
  ·refine⟨by simp[hk,h2],?_,fun _=>⟨by simp[hk,h1],by simp[hk],fun j=>by simp[hk,h4]⟩,fun h=>by cases h⟩;show w'.rangeAt (if k=nt then ((0,0,0):Bk)else (b,0,0)).1 (if k=nt then ((0,0,0):Bk)else (b,0,0)).2.1 _;rw[if_neg hk]; exact h3
 ·simp only[List.mem_cons,List.not_mem_nil,or_false,reduceCtorEq,false_or]at q1 q2;cases q1; cases q2; exact (hne rfl).elim
 ·show (if nt=nt then ((0,0,0):Bk)else (b,0,0)).1≤_;rw[if_pos rfl]; exact Nat.zero_le _
 ·show (if nt=nt then ((0,0,0):Bk)else (b,0,0)).1≤_;rw[if_pos rfl]; exact Nat.zero_le _
 ·exfalso;have h2:p.block<(if nt=nt then ((0,0,0):Bk)else (b,0,0)).1:=p2;rw[if_pos rfl]at h2;exact absurd h2 (Nat.not_lt_zero _)
def u3 (n:Nat):Value:=.int .u32 (Int.ofNat n)
def FL (z:Int) (b:Nat):Prop:=∃(s:Bool) (k:Nat),Ieee.double.read b=.number s (z.natAbs*2^k) (-(k:Int))∧(z=0∨s=decide (z<0))
theorem Vn:Ieee.double.signWeight=2^63:=by decide
theorem OS:Ieee.double.binade=2^52:=by decide
theorem OR:Ieee.double.infRung=2047*2^52:=by decide
theorem LH:Ieee.double.leastPlace = -1074:=by decide
theorem QA (s:Bool) {e m:Nat} (he:e<2046) (hm:m<2^52):Ieee.double.read (Ieee.double.word s ((e+1)*2^52+m))=.number s (2^52+m) (-1074+(e:Int)):=by
 have h1:(e+1)*2^52+m<2^63:=by omega
 unfold Ieee.Format.read Ieee.Format.word;simp only[Vn,OS,OR,LH];have h2:(if s=true then 2^63+((e+1)*2^52+m)else (e+1)*2^52+m)%2^63=(e+1)*2^52+m:=by cases s<;>simp<;>omega
 have h3:((if s=true then 2^63+((e+1)*2^52+m)else (e+1)*2^52+m)/2^63%2==1)=s:=by cases s<;>simp<;>omega
 rw[h2,h3,if_neg (by omega),if_pos (by omega)];have h4:((e+1)*2^52+m)%2^52=m:=by omega
 have h5:((e+1)*2^52+m)/2^52-1=e:=by omega
 rw[h4,h5]
theorem PZ (s:Bool):Ieee.double.read (Ieee.double.word s 0)=.number s 0 (-1074):=by
 cases s<;>decide
theorem FL.write {s:Bool} {z:Int} {k:Nat} (hz:z.natAbs<2^53) (hs:z=0∨s=decide (z<0)):FL z (Ieee.double.write (.number s (z.natAbs*2^k) (-(k:Int)))):=by
 by_cases h0:z=0
 ·subst h0;refine⟨s,1074,?_,Or.inl rfl⟩;show Ieee.double.read (Ieee.double.nearest s (0*2^k) _)=_;unfold Ieee.Format.nearest;rw[Nat.zero_mul,if_pos rfl,PZ];have e:∀n:Nat,(0:Int).natAbs*n=0:=fun n=>Nat.zero_mul n
  rw[e]<;>rfl
 ·have hn:z.natAbs≠0:=by omega
  obtain⟨L,hL1,hL2⟩:∃L,2^L≤z.natAbs∧z.natAbs<2^(L+1):=⟨z.natAbs.log2,Nat.log2_self_le hn,Nat.lt_log2_self⟩
  have hL:L≤52:=by
   rcases Nat.lt_or_ge 52 L with h|h
   ·have:=Nat.pow_le_pow_right (n:=2) (by omega) (show 53≤L by omega);omega
   ·exact h
  have hpos:z.natAbs*2^k≠0:=Nat.mul_ne_zero hn (Nat.pos_iff_ne_zero.1 (Nat.two_pow_pos k));have hlog:(z.natAbs*2^k).log2=L+k:=by
   refine (Nat.log2_eq_iff hpos).2 ⟨?_,?_⟩
   ·rw[Nat.pow_add]; exact Nat.mul_le_mul_right _ hL1
   ·rw[show L+k+1=(L+1)+k by omega,Nat.pow_add]; exact (Nat.mul_lt_mul_right (Nat.two_pow_pos k)).2 hL2
  have hkept:Ieee.Toward.even.cut s ((z.natAbs*2^k) <<< (-(k:Int)-((L:Int)-52)).toNat) (((L:Int)-52) - -(k:Int)).toNat=z.natAbs*2^(52-L):=by
   rcases Nat.lt_or_ge (52-L) k with h|h
   ·
    have e1:(-(k:Int)-((L:Int)-52)).toNat=0:=by omega
    have e2:(((L:Int)-52) - -(k:Int)).toNat=k-(52-L):=by omega
    rw[e1,e2,Nat.shiftLeft_zero];have e3:z.natAbs*2^k=z.natAbs*2^(52-L)*2^(k-(52-L)):=by rw[Nat.mul_assoc,←Nat.pow_add,show 52-L+(k-(52-L))=k by omega]
    unfold Ieee.Toward.cut;have e4:min (k-(52-L)) ((z.natAbs*2^k).log2+2)=k-(52-L):=by rw[hlog]; omega
    simp only[e4,Nat.one_shiftLeft];have e5:z.natAbs*2^k/2^(k-(52-L))=z.natAbs*2^(52-L):=by rw[e3,Nat.mul_div_cancel _ (Nat.two_pow_pos _)]
    have e6:z.natAbs*2^k%2^(k-(52-L))=0:=by rw[e3,Nat.mul_mod_left]
    rw[e5,e6];have hg:=Nat.two_pow_pos (k-(52-L));have e7:decide (2^(k-(52-L))<2*0)=false:=decide_eq_false (by omega);have e8:(2^(k-(52-L))==2*0)=false:=by rw[beq_eq_false_iff_ne]; omega
    rw[e7,e8];rfl
   ·have e1:(-(k:Int)-((L:Int)-52)).toNat=52-L-k:=by omega
    have e2:(((L:Int)-52) - -(k:Int)).toNat=0:=by omega
    rw[e1,e2,Nat.shiftLeft_eq,Nat.mul_assoc,←Nat.pow_add,show k+(52-L-k)=52-L by omega];unfold Ieee.Toward.cut;simp[Nat.mod_one]
  have hk1:2^52≤z.natAbs*2^(52-L):=by
   have:=Nat.mul_le_mul_right (2^(52-L)) hL1
   rwa [←Nat.pow_add,show L+(52-L)=52 by omega]at this
  have hk2:z.natAbs*2^(52-L)<2^53:=by
   have:=(Nat.mul_lt_mul_right (Nat.two_pow_pos (52-L))).2 hL2
   rwa [←Nat.pow_add,show L+1+(52-L)=53 by omega]at this
  refine⟨s,52-L,?_,Or.inr (hs.resolve_left h0)⟩;show Ieee.double.read (Ieee.double.nearest s (z.natAbs*2^k) (-(k:Int)))=_;unfold Ieee.Format.nearest;rw[if_neg hpos];have hfb:((Ieee.double.fractionBits:Nat):Int)=52:=rfl;have elast:max (-(k:Int)+((z.natAbs*2^k).log2:Int)-(Ieee.double.fractionBits:Int)) Ieee.double.leastPlace=(L:Int)-52:=by
   rw[hlog,hfb,LH]; omega
  simp only[elast];rw[hkept,LH,OS,OR];generalize z.natAbs*2^(52-L)=K at hk1 hk2 ⊢;have e9:((L:Int)-52 - -1074).toNat=L+1022:=by omega
  rw[e9];have hB:(2:Nat)^53=2*2^52:=by rw[Nat.pow_succ,Nat.mul_comm]
  rw[hB]at hk2;have hr:=QA s (e:=L+1022) (m:=K-2^52) (by omega);generalize (2:Nat)^52=B at hk1 hk2 hr ⊢;have hr:=hr (by omega);have e12:(L+1022)*B≤1074*B:=Nat.mul_le_mul_right _ (by omega);have e13:(L+1022)*B+K≤2047*B:=by omega
  have e14:(L+1022+1)*B=(L+1022)*B+B:=by rw[Nat.add_mul _ 1,Nat.one_mul]
  have e10:min ((L+1022)*B+K) (2047*B)=(L+1022+1)*B+(K-B):=by rw[Nat.min_eq_left e13,e14]; omega
  rw[e10,hr];have e11:B+(K-B)=K:=by omega
  rw[e11];congr 1;omega
theorem xL {s:Bool} {z:Int} {k K:Nat} (hk:k≤K) (hs:z=0∨s=decide (z<0)):Ieee.signed s (z.natAbs*2^k) (K-k)=z*(2^K:Nat):=by
 have e:(z.natAbs*2^k) <<< (K-k)=z.natAbs*2^K:=by rw[Nat.shiftLeft_eq,Nat.mul_assoc,←Nat.pow_add,show k+(K-k)=K by omega]
 unfold Ieee.signed;rw[e];generalize 2^K=B
 rcases hs with rfl|rfl
 ·cases s<;>simp
 ·by_cases h:z<0
  ·rw[decide_eq_true h,if_pos rfl];have:((z.natAbs*B:Nat):Int) = -z*(B:Int):=by rw[Int.natCast_mul,show ((z.natAbs:Nat):Int) = -z by omega]
   rw[this,Int.neg_mul,Int.neg_neg]
  ·rw[decide_eq_false h,if_neg (by simp)];rw[Int.natCast_mul,show ((z.natAbs:Nat):Int)=z by omega]
theorem FL.sum {z y:Int} {s t:Bool} {k l:Nat} (hs:z=0∨s=decide (z<0)) (ht:y=0∨t=decide (y<0)) (hb:(z+y).natAbs<2^53):∃d,Ieee.Datum.sum (.number s (z.natAbs*2^k) (-(k:Int))) (.number t (y.natAbs*2^l) (-(l:Int)))=some d∧FL (z+y) (Ieee.double.write d):=by
 have ebase:min (-(k:Int)) (-(l:Int)) = -((max k l:Nat):Int):=by omega
 have e1:(-(k:Int) - -((max k l:Nat):Int)).toNat=max k l-k:=by omega
 have e2:(-(l:Int) - -((max k l:Nat):Int)).toNat=max k l-l:=by omega
 refine⟨_,rfl,?_⟩;simp only[ebase,e1,e2,xL (Nat.le_max_left k l) hs,xL (Nat.le_max_right k l) ht];rw[←Int.add_mul];have hp:0<2^(max k l):=Nat.two_pow_pos _;have ea:((z+y)*((2^(max k l):Nat):Int)).natAbs=(z+y).natAbs*2^(max k l):=by rw[Int.natAbs_mul,Int.natAbs_natCast]
 rw[ea];refine FL.write hb ?_
 by_cases h0:z+y=0
 ·exact Or.inl h0
 ·right;have hB:(0:Int)<((2^(max k l):Nat):Int):=by omega
  have hne:(z+y)*((2^(max k l):Nat):Int)≠0:=Int.mul_ne_zero h0 (by omega);rw[if_neg hne];congr 1;exact propext ⟨fun h=>by
   rcases (show z+y<0∨0≤z+y by omega)with q|q
   ·exact q
   ·exact absurd h (Int.not_lt.2 (Int.mul_nonneg q (Int.le_of_lt hB))),fun h=>Int.mul_neg_of_neg_of_pos h hB⟩
theorem FL.add {z y:Int} {a b:Nat} (h1:FL z a) (h2:FL y b) (hb:(z+y).natAbs<2^53):∃r,floatBits .add .f64 a b=some r∧FL (z+y) r:=by
 obtain⟨s,k,e1,hs⟩:=h1;obtain⟨t,l,e2,ht⟩:=h2;obtain⟨d,hd,hf⟩:=FL.sum (k:=k) (l:=l) hs ht hb;refine⟨_,?_,hf⟩;show ((Ieee.double.read a).sum (Ieee.double.read b)).map Ieee.double.write=_;rw[e1,e2,hd];rfl
theorem FL.sub {z y:Int} {a b:Nat} (h1:FL z a) (h2:FL y b) (hb:(z-y).natAbs<2^53):∃r,floatBits .sub .f64 a b=some r∧FL (z-y) r:=by
 obtain⟨s,k,e1,hs⟩:=h1;obtain⟨t,l,e2,ht⟩:=h2;have ht2 : -y=0∨(!t)=decide (-y<0):=by
  by_cases h0:y=0
  ·left; omega
  ·right;rw[ht.resolve_left h0]
   by_cases h:y<0
   ·rw[decide_eq_true h,decide_eq_false (by omega)]; rfl
   ·rw[decide_eq_false h,decide_eq_true (by omega)]; rfl
 obtain⟨d,hd,hf⟩:=FL.sum (k:=k) (l:=l) hs ht2 (by rw[←Int.sub_eq_add_neg]; exact hb);rw[←Int.sub_eq_add_neg]at hf;refine⟨_,?_,hf⟩;show ((Ieee.double.read a).sum (Ieee.double.read b).opposite).map Ieee.double.write=_;rw[e1,e2];rw[Int.natAbs_neg]at hd;show (Ieee.Datum.sum _ (.number (!t) _ _)).map Ieee.double.write=_;rw[hd];rfl
theorem FL.mul {z y:Int} {a b:Nat} (h1:FL z a) (h2:FL y b) (hb:(z*y).natAbs<2^53):∃r,floatBits .mul .f64 a b=some r∧FL (z*y) r:=by
 obtain⟨s,k,e1,hs⟩:=h1;obtain⟨t,l,e2,ht⟩:=h2;refine⟨Ieee.double.write (.number (s ^^ t) ((z*y).natAbs*2^(k+l)) (-((k+l:Nat):Int))),?_,FL.write hb ?_⟩
 ·show ((Ieee.double.read a).product (Ieee.double.read b)).map Ieee.double.write=_;rw[e1,e2];show some (Ieee.double.write (.number (s ^^ t) (z.natAbs*2^k*(y.natAbs*2^l)) (-(k:Int) + -(l:Int))))=_;have e3:z.natAbs*2^k*(y.natAbs*2^l)=(z*y).natAbs*2^(k+l):=by rw[Int.natAbs_mul,Nat.pow_add,Nat.mul_mul_mul_comm]
  have e4 : -(k:Int) + -(l:Int) = -((k+l:Nat):Int):=by omega
  rw[e3,e4]
 ·by_cases h0:z=0
  ·left; rw[h0,Int.zero_mul]
  ·by_cases h3:y=0
   ·left; rw[h3,Int.mul_zero]
   ·right;rw[hs.resolve_left h0,ht.resolve_left h3]
    rcases (show z<0∨0≤z by omega)with q|q<;>rcases (show y<0∨0≤y by omega)with q'|q'
    ·rw[decide_eq_true q,decide_eq_true q',decide_eq_false (Int.not_lt.2 (Int.le_of_lt (Int.mul_pos_of_neg_of_neg q q')))]; rfl
    ·rw[decide_eq_true q,decide_eq_false (Int.not_lt.2 q'),decide_eq_true (Int.mul_neg_of_neg_of_pos q (by omega))]; rfl
    ·rw[decide_eq_false (Int.not_lt.2 q),decide_eq_true q',decide_eq_true (Int.mul_neg_of_pos_of_neg (by omega) q')]; rfl
    ·rw[decide_eq_false (Int.not_lt.2 q),decide_eq_false (Int.not_lt.2 q'),decide_eq_false (Int.not_lt.2 (Int.mul_nonneg q q'))]; rfl
theorem FL.ofInt {z:Int} (hz:z.natAbs<2^53):FL z (floatOfInt .f64 z):=by
 have:=FL.write (s:=decide (z<0)) (z:=z) (k:=0) hz (Or.inr rfl);rw[Nat.pow_zero,Nat.mul_one]at this;exact this
def iV (z:Int):Value:=.int .i64 z
def x4 (X:Nat→Int):List At:=[.c (iV (X 0)),.c (iV (X 1)),.c (iV (X 2)),.c (iV (X 3))]
def z4:Nat→Int:=fun _=>0
def aFr (X:Nat→Int):Prop:=∀k,k<4 → -1099511627776≤X k∧X k≤1099511627776
instance (X:Nat→Int):Decidable (aFr X):=Nat.decidableBallLT 4 fun k _ => -1099511627776≤X k∧X k≤1099511627776
theorem LV.take {w:World} {p:Option Addr} {N m T:Nat} {f:Nat→Nat} (h:LV w (.slice p N m) N f) (hT:T≤N):LV w (.slice p T m) T f:=by
 obtain⟨p',m',e,h2,h3,h4⟩:=h;cases e;refine⟨p,m,rfl,Nat.le_trans hT h2,fun j hj=>h3 j (by omega),fun h0 => ?_⟩;obtain⟨b,o,e,hb,hr⟩:=h4 (by omega);refine⟨b,o,e,hb,fun j x hj=>hr j x ?_⟩;have key:∀(i n s:Nat),i≤n→bV (el f) s n=bV (el f) s i++bV (el f) (s+i) (n-i):=fun i=>by
  induction i with
  | zero=>intro n s _; rfl
  | succ i ih =>
   intro n s h;obtain⟨n,rfl⟩:∃k,n=k+1:=⟨n-1,by omega⟩
   show el f s++bV (el f) (s+1) n=(el f s++bV (el f) (s+1) i)++_;rw[ih n (s+1) (by omega),List.append_assoc,show s+1+i=s+(i+1) by omega,show n+1-(i+1)=n-i by omega]
 rw[key T N 0 hT,aM,List.getElem?_append_left (List.getElem?_eq_some_iff.1 hj).1];exact hj
end Go.Proofs.YtpjlhhpjpnacmaaGreatDoor.Ex
namespace Go.Proofs.YtpjlhhpjpnacmaaGreatDoor
open Go.Proofs.Tryz
open Go.RowKit
def kU (a0 a1 a2 a3 a4 a5 a6 a7:Nat):Nat:=a0+4294967296*(a1+4294967296*(a2+4294967296*(a3+4294967296*(a4+4294967296*(a5+4294967296*(a6+4294967296*a7))))))
def QO (a0 a1 a2 a3 a4 a5 a6 a7:Nat):Prop:=a0<4294967296∧a1<4294967296∧a2<4294967296∧a3<4294967296∧a4<4294967296∧a5<4294967296∧a6<4294967296∧a7<4294967296
theorem qV {a:Nat} (ha:a<18446744073709551616):∃l h:Nat,bits .and .u64 (a:Int) 4294967295=(l:Int)∧(a:Int)/4294967296=(h:Int)∧l<4294967296∧h<4294967296∧Hid (l+4294967296*h=a):=by
 obtain⟨h,l,e1,e2,h1,h2,e⟩:=BA ha;exact⟨l,h,e2,e1,h2,h1,Lib.hid (by omega)⟩
def MN (A:Nat) (w:World) (e:Ending) (w':World):Prop :=
 ∃h0 h1 h2 h3 h4 h5 h6 h7:Nat,e=.returned (.agg #[.int .u64 h0,.int .u64 h1,.int .u64 h2,.int .u64 h3,.int .u64 h4,.int .u64 h5,.int .u64 h6,.int .u64 h7])∧QO h0 h1 h2 h3 h4 h5 h6 h7∧Hid (kU h0 h1 h2 h3 h4 h5 h6 h7=A)∧Below w.heap.size w w'
theorem tY {l h:Nat} (hl:l<4294967296) (hh:h<4294967296):∃u s:Nat,(h:Int)*4294967296=(u:Int)∧bits .or .u64 (l:Int) (u:Int)=(s:Int)∧u<18446744073709551616∧s<18446744073709551616∧Hid (s=l+4294967296*h):=by
 obtain⟨s,e,hs,f⟩:=mS (k:=32) (lo:=l) (up:=h*4294967296) (by omega) (by omega) (Lib.hid (by omega)) (Lib.hid ⟨h,by omega⟩);have:=f.out;exact⟨h*4294967296,s,by omega,e,by omega,hs,Lib.hid (by omega)⟩
set_option maxHeartbeats 1000000 in
theorem pA (h0 h1 h2 h3 h4 h5 h6 h7:Nat) (hh:QO h0 h1 h2 h3 h4 h5 h6 h7) (g o c:Nat) (w:World)
  (c0:w.cell? ⟨g,o,none⟩=some (.int .u64 h0)) (c1:w.cell? ⟨g,o+1,none⟩=some (.int .u64 h1)) (c2:w.cell? ⟨g,o+2,none⟩=some (.int .u64 h2)) (c3:w.cell? ⟨g,o+3,none⟩=some (.int .u64 h3))
  (c4:w.cell? ⟨g,o+4,none⟩=some (.int .u64 h4)) (c5:w.cell? ⟨g,o+5,none⟩=some (.int .u64 h5)) (c6:w.cell? ⟨g,o+6,none⟩=some (.int .u64 h6)) (c7:w.cell? ⟨g,o+7,none⟩=some (.int .u64 h7)) (hg:g<w.heap.size) :
  Calls prog 185 #[.slice (some ⟨g,o,none⟩) 8 c] w (cS (fun v=>v=kU h0 h1 h2 h3 h4 h5 h6 h7) w):=by
 obtain⟨k0,k1,k2,k3,k4,k5,k6,k7⟩:=hh;obtain⟨u0,s0,p0,q0,a0,b0,e0⟩:=tY k0 k1;obtain⟨u1,s1,p1,q1,a1,b1,e1⟩:=tY k2 k3;obtain⟨u2,s2,p2,q2,a2,b2,e2⟩:=tY k4 k5;obtain⟨u3,s3,p3,q3,a3,b3,e3⟩:=tY k6 k7
 go_enter func185,ntmps185
 go_wp2_with fail;refine wp_loop_rounds 5 ?_;rw[rounds_succ];go_wp2_with fail
 go_region
 go_wp2_with fail;rw[rounds_succ];go_wp2_with fail
 go_region
 go_wp2_with fail;rw[rounds_succ];go_wp2_with fail
 go_region
 go_wp2_with fail;rw[rounds_succ];go_wp2_with fail
 go_region
 go_wp2_with fail;rw[rounds_succ];go_wp2_with fail;refine bodyPost_ret (v:=.agg #[.int .u64 s0,.int .u64 s1,.int .u64 s2,.int .u64 s3]) (by simp[results,results185,go_sem]) rfl ?_;refine⟨s0,s1,s2,s3,rfl,⟨b0,b1,b2,b3⟩,?_,?_⟩
 ·have:=e0.out; have:=e1.out; have:=e2.out; have:=e3.out;unfold aC kU; omega
 repeat (first|exact Below.refl _ _|refine Below.drew ?_|refine Below.alloc ?_ (by first|(simp; done)|(simp; omega)) _)
section
variable {P:Program} {ops:Array Oper} {Q:Exit→Act→World→Prop} {md:Region.Mode}
def Ot (md:Region.Mode) (ops:Array Oper) (n:Nat):Bool :=
 (List.range n).all fun i=>match ops[i]? with
  | some o=>o.after.all fun e => !Region.binds md e||decide (e.on<i)
  | none=>false
def oS (md:Region.Mode) (ops:Array Oper) (got:Nat→Bool) (i:Nat):Bool :=
 match ops[i]? with
  | some o=>o.after.all fun e => !Region.binds md e||got e.on
  | none=>false
def gP (listed:Array Bool):Nat→Nat
 | 0=>0
 | n+1=>gP listed n+if listed.getD n false=true then 0 else 1
theorem jO (listed:Array Bool) (n:Nat):gP listed (n+1)=gP listed n+if listed.getD n false=true then 0 else 1:=rfl
theorem uD {listed:Array Bool} {i:Nat} (hi:i<listed.size) (h:listed.getD i false=false):∀n,gP (listed.setIfInBounds i true) n+(if i<n then 1 else 0)=gP listed n
 | 0=>by simp[gP]
 | n+1=>by
  have ih:=uD hi h n;rw[jO,jO]
  by_cases e:i=n
  ·subst e;have h1:(listed.setIfInBounds i true).getD i false=true:=by simp[hi]
   rw[h1,h];simp at ih ⊢;omega
  ·rw[getD_set_ne false e]
   by_cases h2:i<n
   ·rw[if_pos h2]at ih; rw[if_pos (show i<n+1 by omega)]; omega
   ·rw[if_neg h2]at ih; rw[if_neg (show ¬i<n+1 by omega)]; omega
theorem mC {listed:Array Bool}:∀{n:Nat},gP listed n=0→∀j,j<n→listed.getD j false=true
 | 0,_,j,hj=>by omega
 | n+1,h,j,hj=>by
  rw[jO]at h
  by_cases e:listed.getD n false=true
  ·rw[if_pos e]at h
   rcases Nat.lt_or_ge j n with h1|h1
   ·exact mC (by omega) j h1
   ·obtain rfl:j=n:=by omega
    exact e
  ·rw[if_neg e]at h; omega
theorem mD {listed:Array Bool}:∀{n:Nat},0<gP listed n→∃j,j<n∧listed.getD j false=false∧∀k,k<j→listed.getD k false=true
 | 0,h=>by unfold gP at h; omega
 | n+1,h=>by
  rcases Nat.eq_zero_or_pos (gP listed n)with h0|h0
  ·unfold gP at h;rw[h0]at h;refine⟨n,by omega,?_,mC h0⟩;cases e:listed.getD n false with
   | true=>rw[e]at h; simp at h
   | false=>rfl
  ·obtain⟨j,hj,h1,h2⟩:=mD h0;exact⟨j,by omega,h1,h2⟩
def kL (n m:Nat):Array Bool:=Array.replicate n true++Array.replicate (m-n) false
theorem pL {n:Nat} {Inv:(Nat→Bool)→Act→World→Prop} {l:List Oper} (hl:ops=l.toArray) (hn:n<ops.size)
  (hs:Region.sinkB md ops n=true) (hc:Region.chainB md ops n=true) (hb:Ot md ops n=true) (hq:Region.seqB md ops (ops.size-n) n (kL n ops.size)=true)
  (step:∀(got:Nat→Bool) b u i,i<n→got i=false→oS md ops got i=true→Inv got b u→wpOp P ops Q i (Inv (fun j=>j==i||got j)) b u)
  (tail:∀got b u,(∀j,j<n→got j=true)→Inv got b u→wpList P ops Q (l.drop n) b u) :
  ∀(m:Nat) (listed:Array Bool) (b:Act) (u:World),HeadInv md ops n listed→gP listed n=m→Inv (fun j=>listed.getD j false) b u→wpAny P md ops Q (m+(ops.size-n)) listed b u
 | 0,listed,b,u,inv,hm,h=>by
  have hall:=mC hm;have he:listed=kL n ops.size:=by
   refine Array.ext (by simp[kL,inv.size]; omega) fun j h1 h2 => ?_
   rcases Nat.lt_or_ge j n with hj|hj
   ·have:=hall j hj;simp[h1]at this;rw[this];simp[kL,hj]
   ·have:=inv.tail j hj (by rw[←inv.size]; exact h1);simp[h1]at this;rw[this];simp[kL,hj]
  subst he;have hlen:(l.drop n).length=ops.size-n:=by subst hl; simp
  rw[Nat.zero_add,←hlen];exact wpAny_of_seq (l.drop n) n _ b u (fun j=>by subst hl; simp[List.getElem?_drop]) (by rw[hlen]; exact hq) (tail _ b u hall h)
 | m+1,listed,b,u,inv,hm,h=>by
  rw[show m+1+(ops.size-n)=m+(ops.size-n)+1 by omega];refine⟨fun h0 => ?_,fun i hi => ?_⟩
  ·obtain⟨j,hj,h1,h2⟩:=mD (n:=n) (listed:=listed) (by omega);have hjr:j∈Region.ready md ops listed:=by
    have hbj:=List.all_eq_true.1 hb j (List.mem_range.2 hj);cases ho:ops[j]? with
    | none=>rw[ho]at hbj; cases hbj
    | some o =>
     rw[ho]at hbj;refine mem_ready.2 ⟨getD_in (by rw[inv.size]; omega) h1,o,ho,fun e he hbi=>h2 _ ?_⟩;have:=(Array.all_eq_true_iff_forall_mem.1 hbj) e he;simp[hbi]at this;exact this
   rw[h0]at hjr; cases hjr
  ·obtain⟨hun,o,ho,hall⟩:=mem_ready.1 hi;have hin:i<n:=by
    rcases Nat.lt_or_ge i n with h'|h'
    ·exact h'
    ·obtain⟨j,hj,h1,h2⟩:=mD (n:=n) (listed:=listed) (by omega);exact absurd hi (tail_waits hs hc hn inv _ j rfl hj (getD_in (by rw[inv.size]; omega) h1) i h')
   have his:i<listed.size:=by rw[inv.size]; omega
   have hun':=getD_both hun;refine wpOp_mono (fun b' u' h' => ?_) (step _ b u i hin hun' (by
    unfold oS;rw[ho];refine Array.all_eq_true_iff_forall_mem.2 fun e he => ?_
    cases hbi:Region.binds md e with
    | false=>rfl
    | true=>simpa[hbi]using hall e he hbi) h)
   refine pL hl hn hs hc hb hq step tail m _ b' u' (inv.set hi hin) ?_ ?_
   ·have:=uD his hun' n;rw[if_pos hin]at this; omega
   ·have hf:(fun j=>(listed.setIfInBounds i true).getD j false)=fun j=>j==i||listed.getD j false:=by
     funext j
     by_cases e:j=i
     ·subst e; simp[his]
     ·rw[getD_set_ne false (Ne.symm e)]; simp[e]
    rw[hf]; exact h'
theorem uE (k:Nat):∀n,gP (Array.replicate k false) n=n
 | 0=>rfl
 | n+1=>by rw[jO,uE k n,getD_replicate_false]; simp
theorem sU (n:Nat) (Inv:(Nat→Bool)→Act→World→Prop) {id:Nat} {a:Act} {w:World} {l:List Oper} (hm:P.follows .mixedOrders=true) (hn:n<l.length)
  (hs:Region.sinkB .any l.toArray n=true) (hc:Region.chainB .any l.toArray n=true) (hb:Ot .any l.toArray n=true) (hq:Region.seqB .any l.toArray (l.toArray.size-n) n (kL n l.toArray.size)=true)
  (start:Inv (fun _=>false) a w.drew)
  (step:∀(got:Nat→Bool) b u i,i<n→got i=false→oS .any l.toArray got i=true→Inv got b u→wpOp P l.toArray Q i (Inv (fun j=>j==i||got j)) b u)
  (tail:∀got b u,(∀j,j<n→got j=true)→Inv got b u→wpList P l.toArray Q (l.drop n) b u):(Code.region id l.toArray true).wp P Q a w:=by
 have hn':n<l.toArray.size:=by simpa using hn
 have inv0:HeadInv .any l.toArray n (Array.replicate l.toArray.size false) :=
  ⟨by simp,fun j oj _ hl=>(by rw[getD_replicate_false]at hl; cases hl),fun t _ ht=>getD_in (by simpa using ht) (getD_replicate_false _ _)⟩
 refine wp_region_any hm ?_;have hf:(fun j=>(Array.replicate l.toArray.size false).getD j false)=fun _:Nat=>false:=by funext j; exact getD_replicate_false _ _
 have H:=pL (md:=.any) rfl hn' hs hc hb hq step tail n _ a w.drew inv0 (uE _ n) (by rw[hf]; exact start);rw[show n+(l.toArray.size-n)=l.toArray.size by omega]at H;exact H
end
structure QW (w wr:World) (A B P:Nat→Nat):Prop where
 below:Below w.heap.size w wr
 size:w.heap.size+1+1+1<wr.heap.size
 rowA:RowIs wr w.heap.size 4 A
 rowB:RowIs wr (w.heap.size+1) 4 B
 rowR:RowIs wr (w.heap.size+1+1) 4 (fun _=>0)
 rowP:RowIs wr (w.heap.size+1+1+1) 4 P
theorem QW.set {w wr:World} {A B P:Nat→Nat} (h:QW w wr A B P) {k d:Nat} (hk:k<4):QW w (wr.setCell ⟨w.heap.size+1+1+1,k,none⟩ (.int .u64 (d:Nat))) A B (gY P k d) :=
 ⟨h.below.setCell (p:=⟨w.heap.size+1+1+1,k,none⟩) (by simp; omega) _,by rw[World.size_setCell]; exact h.size,h.rowA.other (by omega) _,h.rowB.other (by omega) _,h.rowR.other (by omega) _,h.rowP.set hk⟩
theorem QW.drewN {w wr:World} {A B P:Nat→Nat} (h:QW w wr A B P) (n:Nat):QW w (wr.drewN n) A B P:=⟨h.below.trans (bK _ _ _),h.size,h.rowA,h.rowB,h.rowR,h.rowP⟩
theorem QW.start (w:World) (a0 a1 a2 a3 b0 b1 b2 b3:Nat) (t:TypeId):QW w ((((w.alloc (.cells #[.int .u64 a0,.int .u64 a1,.int .u64 a2,.int .u64 a3] t)).alloc (.cells #[.int .u64 b0,.int .u64 b1,.int .u64 b2,.int .u64 b3] t)).alloc (.cells #[.int .u64 0,.int .u64 0,.int .u64 0,.int .u64 0] t)).alloc (.cells #[.int .u64 0,.int .u64 0,.int .u64 0,.int .u64 0] t)) (dU [a0,a1,a2,a3]) (dU [b0,b1,b2,b3]) (fun _=>0):=by
 refine⟨?_,by simp,?_,?_,?_,?_⟩
 ·repeat (first|exact Below.refl _ _|refine Below.alloc ?_ (by first|(simp; done)|(simp; omega)) _)
 ·exact RowIs.mk4 (by simp[go_sem]) (by simp[go_sem]) (by simp[go_sem]) (by simp[go_sem]) (fun k=>by simp[go_sem])
 ·exact RowIs.mk4 (by simp[go_sem]) (by simp[go_sem]) (by simp[go_sem]) (by simp[go_sem]) (fun k=>by simp[go_sem])
 ·intro k hk
  match k,hk with
  | 0,_|1,_|2,_|3,_=>exact⟨by simp[go_sem],by simp[go_sem]⟩
 ·intro k hk
  match k,hk with
  | 0,_|1,_|2,_|3,_=>exact⟨by simp[go_sem],by simp[go_sem]⟩
theorem readyB_at {ops:Array Oper} {got:Nat→Bool} {i:Nat} {o:Oper} {e:Edge} (h:oS .any ops got i=true) (ho:ops[i]?=some o) (he:e∈o.after) (hb:Region.binds .any e=true):got e.on=true:=by
 unfold oS at h;rw[ho]at h;have:=(Array.all_eq_true_iff_forall_mem.1 h) e he;simpa[hb]using this
def HalfV (A:Nat) (t:Value):Prop:=∃x0 x1 x2 x3 x4 x5 x6 x7:Nat,t=.agg #[.int .u64 x0,.int .u64 x1,.int .u64 x2,.int .u64 x3,.int .u64 x4,.int .u64 x5,.int .u64 x6,.int .u64 x7]∧QO x0 x1 x2 x3 x4 x5 x6 x7∧Hid (kU x0 x1 x2 x3 x4 x5 x6 x7=A)
def FreshZ (wr u:World) (t:Value):Prop:=∃p,t=.pointer (some ⟨p,0,none⟩)∧wr.heap.size≤p∧p<u.heap.size∧RowIs u p 8 (fun _=>0)
theorem FreshZ.grow {wr u u':World} {t:Value} (h:FreshZ wr u t) (hb:Below u.heap.size u u'):FreshZ wr u' t:=by
 obtain⟨p,e,h1,h2,r⟩:=h;exact⟨p,e,h1,Nat.lt_of_lt_of_le h2 hb.size,r.below hb h2⟩
theorem fresh_new (wr u:World) (hs:wr.heap.size≤u.heap.size) (t:TypeId):FreshZ wr (u.alloc (.cells #[.int .u64 0,.int .u64 0,.int .u64 0,.int .u64 0,.int .u64 0,.int .u64 0,.int .u64 0,.int .u64 0] t)) (.pointer (some ⟨u.heap.size,0,none⟩)) :=
 ⟨_,rfl,hs,by simp,by
  intro k hk;refine⟨?_,World.frozen?_alloc_new _ _ _ _⟩;rw[World.cell?_alloc_new]
  match k,hk with
  | 0,_|1,_|2,_|3,_|4,_|5,_|6,_|7,_=>rfl⟩
theorem below_alloc (u:World) (o:Obj):Below u.heap.size u (u.alloc o):=(Below.refl _ _).alloc (Nat.le_refl _) o
theorem fresh_ne {wr u:World} {t:Value} (h:FreshZ wr u t):t ≠ .pointer (some ⟨u.heap.size,0,none⟩):=by
 obtain⟨p,rfl,_,h2,_⟩:=h;intro e;injection e with e;injection e with e;injection e with e;omega
def set8 (w:World) (b:Nat) (d0 d1 d2 d3 d4 d5 d6 d7:Nat):World :=
 (((((((w.setCell ⟨b,0,none⟩ (.int .u64 d0)).setCell ⟨b,1,none⟩ (.int .u64 d1)).setCell ⟨b,2,none⟩ (.int .u64 d2)).setCell ⟨b,3,none⟩ (.int .u64 d3)).setCell ⟨b,4,none⟩ (.int .u64 d4)).setCell ⟨b,5,none⟩ (.int .u64 d5)).setCell ⟨b,6,none⟩ (.int .u64 d6)).setCell ⟨b,7,none⟩ (.int .u64 d7)
theorem RowIs.ext {w:World} {b n:Nat} {P R:Nat→Nat} (h:RowIs w b n P) (e:∀k,k<n→P k=R k):RowIs w b n R:=fun k hk=>⟨by rw[←e k hk]; exact h.cell hk,h.free hk⟩
theorem RowIs.set8 {w:World} {b:Nat} {P:Nat→Nat} (h:RowIs w b 8 P) (d0 d1 d2 d3 d4 d5 d6 d7:Nat):RowIs (Go.Proofs.YtpjlhhpjpnacmaaGreatDoor.set8 w b d0 d1 d2 d3 d4 d5 d6 d7) b 8 (dU [d0,d1,d2,d3,d4,d5,d6,d7]):=by
 have r:=(((((((h.set (show 0<8 by omega) (v:=d0)).set (show 1<8 by omega) (v:=d1)).set (show 2<8 by omega) (v:=d2)).set (show 3<8 by omega) (v:=d3)).set (show 4<8 by omega) (v:=d4)).set (show 5<8 by omega) (v:=d5)).set (show 6<8 by omega) (v:=d6)).set (show 7<8 by omega) (v:=d7);unfold Go.Proofs.YtpjlhhpjpnacmaaGreatDoor.set8;refine r.ext fun k hk => ?_
 match k,hk with
 | 0,_|1,_|2,_|3,_|4,_|5,_|6,_|7,_=>rfl
theorem RowIs.set8_other {w:World} {b c n:Nat} {P:Nat→Nat} (h:RowIs w b n P) (hc:c≠b) (d0 d1 d2 d3 d4 d5 d6 d7:Nat):RowIs (Go.Proofs.YtpjlhhpjpnacmaaGreatDoor.set8 w c d0 d1 d2 d3 d4 d5 d6 d7) b n P :=
 (((((((h.other hc _).other hc _).other hc _).other hc _).other hc _).other hc _).other hc _).other hc _
theorem below_set8 {B:Nat} {w w':World} {b:Nat} (h:Below B w w') (hb:B≤b) (d0 d1 d2 d3 d4 d5 d6 d7:Nat):Below B w (set8 w' b d0 d1 d2 d3 d4 d5 d6 d7) :=
 (((((((h.setCell (p:=⟨b,0,none⟩) hb _).setCell (p:=⟨b,1,none⟩) hb _).setCell (p:=⟨b,2,none⟩) hb _).setCell (p:=⟨b,3,none⟩) hb _).setCell (p:=⟨b,4,none⟩) hb _).setCell (p:=⟨b,5,none⟩) hb _).setCell (p:=⟨b,6,none⟩) hb _).setCell (p:=⟨b,7,none⟩) hb _
theorem size_set8 (w:World) (b d0 d1 d2 d3 d4 d5 d6 d7:Nat):(set8 w b d0 d1 d2 d3 d4 d5 d6 d7).heap.size=w.heap.size:=by
 unfold set8; simp only[World.size_setCell]
theorem fnOf8_lt {x0 x1 x2 x3 x4 x5 x6 x7:Nat} (h:QO x0 x1 x2 x3 x4 x5 x6 x7) (k:Nat):dU [x0,x1,x2,x3,x4,x5,x6,x7] k<4294967296:=by
 obtain⟨h0,h1,h2,h3,h4,h5,h6,h7⟩:=h;unfold dU
 match k with
 | 0=>exact h0
 | 1=>exact h1
 | 2=>exact h2
 | 3=>exact h3
 | 4=>exact h4
 | 5=>exact h5
 | 6=>exact h6
 | 7=>exact h7
 | k+8=>simp
theorem val8_tot (P:Nat→Nat):kU (P 0) (P 1) (P 2) (P 3) (P 4) (P 5) (P 6) (P 7)=eP 4294967296 P 8:=by
 unfold kU;simp only[eP];omega
structure R3 (got:Nat→Bool) (wr:World) (f:Int) (F:FC) (a0 a1 a2 a3 b0 b1 b2 b3:Nat) (t7 t8 t9 s21 s22 s23 s24 s25 s26 s27:Value) (u:World):Prop where
 below:Below wr.heap.size wr u
 g0:got 0=true→s21=.agg #[.int .u64 a0,.int .u64 a1,.int .u64 a2,.int .u64 a3]
 g1:got 1=true→HalfV (aC a0 a1 a2 a3) s22
 g2:got 2=true→s23=.agg #[.int .u64 b0,.int .u64 b1,.int .u64 b2,.int .u64 b3]
 g3:got 3=true→HalfV (aC b0 b1 b2 b3) s24
 g4:got 4=true→s25=.int .i64 f
 g5:got 5=true→s26=.agg #[.int .u64 F.m0,.int .u64 F.m1,.int .u64 F.m2,.int .u64 F.m3]
 g6:got 6=true→HalfV F.M s27
 g7:got 7=true→FreshZ wr u t7
 g8:got 8=true→FreshZ wr u t8
 g9:got 9=true→FreshZ wr u t9
 n78:got 7=true→got 8=true→t7≠t8
 n79:got 7=true→got 9=true→t7≠t9
 n89:got 8=true→got 9=true→t8≠t9
section
variable {got:Nat→Bool} {wr u u':World} {f:Int} {F:FC} {a0 a1 a2 a3 b0 b1 b2 b3:Nat} {t7 t8 t9 s21 s22 s23 s24 s25 s26 s27:Value}
theorem R3.start (wr:World) (f:Int) (F:FC) (a0 a1 a2 a3 b0 b1 b2 b3:Nat):R3 (fun _=>false) wr f F a0 a1 a2 a3 b0 b1 b2 b3 undef undef undef undef undef undef undef undef undef undef wr.drew :=
 ⟨(Below.refl _ _).drew,fun h=>Bool.noConfusion h,fun h=>Bool.noConfusion h,fun h=>Bool.noConfusion h,fun h=>Bool.noConfusion h,fun h=>Bool.noConfusion h,fun h=>Bool.noConfusion h,fun h=>Bool.noConfusion h,fun h=>Bool.noConfusion h,fun h=>Bool.noConfusion h,fun h=>Bool.noConfusion h,fun h=>Bool.noConfusion h,fun h=>Bool.noConfusion h,fun h=>Bool.noConfusion h⟩
theorem R3.op0 (h:R3 got wr f F a0 a1 a2 a3 b0 b1 b2 b3 t7 t8 t9 s21 s22 s23 s24 s25 s26 s27 u):R3 (fun j=>j==0||got j) wr f F a0 a1 a2 a3 b0 b1 b2 b3 t7 t8 t9 (.agg #[.int .u64 a0,.int .u64 a1,.int .u64 a2,.int .u64 a3]) s22 s23 s24 s25 s26 s27 u :=
 ⟨h.below,fun _=>rfl,fun e=>h.g1 (by simpa using e),fun e=>h.g2 (by simpa using e),fun e=>h.g3 (by simpa using e),fun e=>h.g4 (by simpa using e),fun e=>h.g5 (by simpa using e),fun e=>h.g6 (by simpa using e),fun e=>h.g7 (by simpa using e),fun e=>h.g8 (by simpa using e),fun e=>h.g9 (by simpa using e),fun e e'=>h.n78 (by simpa using e) (by simpa using e'),fun e e'=>h.n79 (by simpa using e) (by simpa using e'),fun e e'=>h.n89 (by simpa using e) (by simpa using e')⟩
theorem R3.op1 (h:R3 got wr f F a0 a1 a2 a3 b0 b1 b2 b3 t7 t8 t9 s21 s22 s23 s24 s25 s26 s27 u) {x:Value} (hx:HalfV (aC a0 a1 a2 a3) x):R3 (fun j=>j==1||got j) wr f F a0 a1 a2 a3 b0 b1 b2 b3 t7 t8 t9 s21 x s23 s24 s25 s26 s27 u :=
 ⟨h.below,fun e=>h.g0 (by simpa using e),fun _=>hx,fun e=>h.g2 (by simpa using e),fun e=>h.g3 (by simpa using e),fun e=>h.g4 (by simpa using e),fun e=>h.g5 (by simpa using e),fun e=>h.g6 (by simpa using e),fun e=>h.g7 (by simpa using e),fun e=>h.g8 (by simpa using e),fun e=>h.g9 (by simpa using e),fun e e'=>h.n78 (by simpa using e) (by simpa using e'),fun e e'=>h.n79 (by simpa using e) (by simpa using e'),fun e e'=>h.n89 (by simpa using e) (by simpa using e')⟩
theorem R3.op2 (h:R3 got wr f F a0 a1 a2 a3 b0 b1 b2 b3 t7 t8 t9 s21 s22 s23 s24 s25 s26 s27 u):R3 (fun j=>j==2||got j) wr f F a0 a1 a2 a3 b0 b1 b2 b3 t7 t8 t9 s21 s22 (.agg #[.int .u64 b0,.int .u64 b1,.int .u64 b2,.int .u64 b3]) s24 s25 s26 s27 u :=
 ⟨h.below,fun e=>h.g0 (by simpa using e),fun e=>h.g1 (by simpa using e),fun _=>rfl,fun e=>h.g3 (by simpa using e),fun e=>h.g4 (by simpa using e),fun e=>h.g5 (by simpa using e),fun e=>h.g6 (by simpa using e),fun e=>h.g7 (by simpa using e),fun e=>h.g8 (by simpa using e),fun e=>h.g9 (by simpa using e),fun e e'=>h.n78 (by simpa using e) (by simpa using e'),fun e e'=>h.n79 (by simpa using e) (by simpa using e'),fun e e'=>h.n89 (by simpa using e) (by simpa using e')⟩
theorem R3.op3 (h:R3 got wr f F a0 a1 a2 a3 b0 b1 b2 b3 t7 t8 t9 s21 s22 s23 s24 s25 s26 s27 u) {x:Value} (hx:HalfV (aC b0 b1 b2 b3) x):R3 (fun j=>j==3||got j) wr f F a0 a1 a2 a3 b0 b1 b2 b3 t7 t8 t9 s21 s22 s23 x s25 s26 s27 u :=
 ⟨h.below,fun e=>h.g0 (by simpa using e),fun e=>h.g1 (by simpa using e),fun e=>h.g2 (by simpa using e),fun _=>hx,fun e=>h.g4 (by simpa using e),fun e=>h.g5 (by simpa using e),fun e=>h.g6 (by simpa using e),fun e=>h.g7 (by simpa using e),fun e=>h.g8 (by simpa using e),fun e=>h.g9 (by simpa using e),fun e e'=>h.n78 (by simpa using e) (by simpa using e'),fun e e'=>h.n79 (by simpa using e) (by simpa using e'),fun e e'=>h.n89 (by simpa using e) (by simpa using e')⟩
theorem R3.op4 (h:R3 got wr f F a0 a1 a2 a3 b0 b1 b2 b3 t7 t8 t9 s21 s22 s23 s24 s25 s26 s27 u):R3 (fun j=>j==4||got j) wr f F a0 a1 a2 a3 b0 b1 b2 b3 t7 t8 t9 s21 s22 s23 s24 (.int .i64 f) s26 s27 u :=
 ⟨h.below,fun e=>h.g0 (by simpa using e),fun e=>h.g1 (by simpa using e),fun e=>h.g2 (by simpa using e),fun e=>h.g3 (by simpa using e),fun _=>rfl,fun e=>h.g5 (by simpa using e),fun e=>h.g6 (by simpa using e),fun e=>h.g7 (by simpa using e),fun e=>h.g8 (by simpa using e),fun e=>h.g9 (by simpa using e),fun e e'=>h.n78 (by simpa using e) (by simpa using e'),fun e e'=>h.n79 (by simpa using e) (by simpa using e'),fun e e'=>h.n89 (by simpa using e) (by simpa using e')⟩
theorem R3.op5 (h:R3 got wr f F a0 a1 a2 a3 b0 b1 b2 b3 t7 t8 t9 s21 s22 s23 s24 s25 s26 s27 u):R3 (fun j=>j==5||got j) wr f F a0 a1 a2 a3 b0 b1 b2 b3 t7 t8 t9 s21 s22 s23 s24 s25 (.agg #[.int .u64 F.m0,.int .u64 F.m1,.int .u64 F.m2,.int .u64 F.m3]) s27 u :=
 ⟨h.below,fun e=>h.g0 (by simpa using e),fun e=>h.g1 (by simpa using e),fun e=>h.g2 (by simpa using e),fun e=>h.g3 (by simpa using e),fun e=>h.g4 (by simpa using e),fun _=>rfl,fun e=>h.g6 (by simpa using e),fun e=>h.g7 (by simpa using e),fun e=>h.g8 (by simpa using e),fun e=>h.g9 (by simpa using e),fun e e'=>h.n78 (by simpa using e) (by simpa using e'),fun e e'=>h.n79 (by simpa using e) (by simpa using e'),fun e e'=>h.n89 (by simpa using e) (by simpa using e')⟩
theorem R3.grow (h:R3 got wr f F a0 a1 a2 a3 b0 b1 b2 b3 t7 t8 t9 s21 s22 s23 s24 s25 s26 s27 u) (hb:Below u.heap.size u u'):R3 got wr f F a0 a1 a2 a3 b0 b1 b2 b3 t7 t8 t9 s21 s22 s23 s24 s25 s26 s27 u' :=
 ⟨h.below.trans (hb.mono h.below.size),h.g0,h.g1,h.g2,h.g3,h.g4,h.g5,h.g6,fun e=>(h.g7 e).grow hb,fun e=>(h.g8 e).grow hb,fun e=>(h.g9 e).grow hb,h.n78,h.n79,h.n89⟩
end
structure ThreeH (wr u:World) (p q r:Nat) (X Y Z:Nat→Nat) (A B M:Nat):Prop where
 below:Below wr.heap.size wr u
 lp:wr.heap.size≤p
 lq:wr.heap.size≤q
 lr:wr.heap.size≤r
 up:p<u.heap.size
 uq:q<u.heap.size
 ur:r<u.heap.size
 pq:p≠q
 pr:p≠r
 qr:q≠r
 rowX:RowIs u p 8 X
 rowY:RowIs u q 8 Y
 rowZ:RowIs u r 8 Z
 ltX:∀k,X k<4294967296
 ltY:∀k,Y k<4294967296
 ltZ:∀k,Z k<4294967296
 eX:eP 4294967296 X 8=A
 eY:eP 4294967296 Y 8=B
 eZ:eP 4294967296 Z 8=M
theorem ThreeH.store {wr u:World} {p q r A B M x0 x1 x2 x3 x4 x5 x6 x7 y0 y1 y2 y3 y4 y5 y6 y7 z0 z1 z2 z3 z4 z5 z6 z7:Nat} (hx:QO x0 x1 x2 x3 x4 x5 x6 x7) (hy:QO y0 y1 y2 y3 y4 y5 y6 y7) (hz:QO z0 z1 z2 z3 z4 z5 z6 z7) (ex:Hid (kU x0 x1 x2 x3 x4 x5 x6 x7=A)) (ey:Hid (kU y0 y1 y2 y3 y4 y5 y6 y7=B)) (ez:Hid (kU z0 z1 z2 z3 z4 z5 z6 z7=M))
  (lp:wr.heap.size≤p) (lq:wr.heap.size≤q) (lr:wr.heap.size≤r) (up:p<u.heap.size) (uq:q<u.heap.size) (ur:r<u.heap.size) (pq:p≠q) (pr:p≠r) (qr:q≠r) (rp:RowIs u p 8 (fun _=>0)) (rq:RowIs u q 8 (fun _=>0)) (rr:RowIs u r 8 (fun _=>0)) (hbl:Below wr.heap.size wr u) :
  ThreeH wr (set8 (set8 (set8 u p x0 x1 x2 x3 x4 x5 x6 x7) q y0 y1 y2 y3 y4 y5 y6 y7) r z0 z1 z2 z3 z4 z5 z6 z7) p q r (dU [x0,x1,x2,x3,x4,x5,x6,x7]) (dU [y0,y1,y2,y3,y4,y5,y6,y7]) (dU [z0,z1,z2,z3,z4,z5,z6,z7]) A B M :=
 ⟨below_set8 (below_set8 (below_set8 hbl lp _ _ _ _ _ _ _ _) lq _ _ _ _ _ _ _ _) lr _ _ _ _ _ _ _ _,lp,lq,lr,by rw[size_set8,size_set8,size_set8]; exact up,by rw[size_set8,size_set8,size_set8]; exact uq,by rw[size_set8,size_set8,size_set8]; exact ur,pq,pr,qr,
  ((rp.set8 _ _ _ _ _ _ _ _).set8_other (fun e=>pq e.symm) _ _ _ _ _ _ _ _).set8_other (fun e=>pr e.symm) _ _ _ _ _ _ _ _,((rq.set8_other pq _ _ _ _ _ _ _ _).set8 _ _ _ _ _ _ _ _).set8_other (fun e=>qr e.symm) _ _ _ _ _ _ _ _,((rr.set8_other pr _ _ _ _ _ _ _ _).set8_other qr _ _ _ _ _ _ _ _).set8 _ _ _ _ _ _ _ _,fnOf8_lt hx,fnOf8_lt hy,fnOf8_lt hz,
  (val8_tot (dU [x0,x1,x2,x3,x4,x5,x6,x7])).symm.trans ex.out,(val8_tot (dU [y0,y1,y2,y3,y4,y5,y6,y7])).symm.trans ey.out,(val8_tot (dU [z0,z1,z2,z3,z4,z5,z6,z7])).symm.trans ez.out⟩
structure MT (w wr:World) (p q r t:Nat) (X Y Z P:Nat→Nat):Prop where
 below:Below w.heap.size w wr
 res:Row4 wr (w.heap.size+1+1) 0 0 0 0
 rowX:RowIs wr p 8 X
 rowY:RowIs wr q 8 Y
 rowZ:RowIs wr r 8 Z
 rowP:RowIs wr t 10 P
 lt:∀k,P k<4294967296
section
variable {w wr:World} {p q r t:Nat} {X Y Z P:Nat→Nat}
theorem MT.set (h:MT w wr p q r t X Y Z P) (h2:w.heap.size+1+1<t) (pt:p<t) (qt:q<t) (rt:r<t) {k d:Nat} (hk:k<10) (hd:d<4294967296) :
  MT w (wr.setCell ⟨t,k,none⟩ (.int .u64 (d:Nat))) p q r t X Y Z (gY P k d) :=
 ⟨h.below.setCell (p:=⟨t,k,none⟩) (by show w.heap.size≤t; omega) _,h.res.other (by omega) _,h.rowX.other (by omega) _,h.rowY.other (by omega) _,h.rowZ.other (by omega) _,h.rowP.set hk,
  fun j=>by unfold gY; split; exact hd; exact h.lt j⟩
theorem MT.drewN (h:MT w wr p q r t X Y Z P) (n:Nat):MT w (wr.drewN n) p q r t X Y Z P:=⟨h.below.trans (bK _ _ _),h.res.drewN n,h.rowX,h.rowY,h.rowZ,h.rowP,h.lt⟩
end
structure OW (w wr:World) (t o:Nat) (P O:Nat→Nat):Prop where
 below:Below w.heap.size w wr
 res:Row4 wr (w.heap.size+1+1) 0 0 0 0
 rowP:RowIs wr t 10 P
 rowO:RowIs wr o 4 O
 lo:o<wr.heap.size
theorem OW.drewN {w wr:World} {t o:Nat} {P O:Nat→Nat} (h:OW w wr t o P O) (n:Nat):OW w (wr.drewN n) t o P O:=⟨h.below.trans (bK _ _ _),h.res.drewN n,h.rowP,h.rowO,h.lo⟩
theorem OW.set {w wr:World} {t o:Nat} {P O:Nat→Nat} (h:OW w wr t o P O) (h2:w.heap.size+1+1<t) (ht:t<o) {k d:Nat} (hk:k<4):OW w (wr.setCell ⟨o,k,none⟩ (.int .u64 (d:Nat))) t o P (gY O k d) :=
 ⟨h.below.setCell (p:=⟨o,k,none⟩) (by show w.heap.size≤o; omega) _,h.res.other (by omega) _,h.rowP.other (by omega) _,h.rowO.set hk,by rw[World.size_setCell]; exact h.lo⟩
end Go.Proofs.YtpjlhhpjpnacmaaGreatDoor
