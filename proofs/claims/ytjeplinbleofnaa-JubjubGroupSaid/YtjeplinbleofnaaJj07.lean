/- Jj07 -/
import Derived.Laws.MakeOwn
import Derived.Deep.RegionHeld3
import Derived.Deep.DeepCutAuto
import Derived.RegionTactic
import Derived.Deep.LoopGhost
import Derived.StillTail
import Derived.KernelRfl
import Derived.LoopTactic
import Derived.Test.YtjeplinbleofnaaJj06
import Derived.Test.YtjeplinbleofnaaJj05
import Derived.Test.YtjeplinbleofnaaJj01
import Derived.Test.YtjeplinbleofnaaJj04
import Derived.Test.YtjeplinbleofnaaProg
set_option maxRecDepth 100000
set_option linter.unusedVariables false
set_option linter.unusedSimpArgs false
set_option linter.unnecessarySimpa false
noncomputable section
namespace Go.Proofs.Ytjeplinbleofnaa.Ex
open Go.Proofs.Try
open Go.RowKit
theorem ZX {w:World} {l l':List At} {n m:Nat} {args:List Value} (e:aB l=aB l') (h:cE w [.s l n m] args):cE w [.s l' n m] args:=by
 match args,h with
 | [v],h =>
  obtain⟨⟨b,o,rfl,hb,hr⟩,_⟩:=h;exact⟨⟨b,o,rfl,hb,e▸hr⟩,trivial⟩
 | [],h=>exact h.elim
 | _::_::_,h=>exact h.2.elim
def RQ (k:Nat) (c:List Nat→List Prop×RV):kH
 | [.s l n m]=>bif Nat.beq n k then (match zG l with|some x=>some (c x)|none=>none)else none
 | _=>none
theorem zO {f:FuncId} {k:Nat} {c:List Nat→List Prop×RV} (h:∀x m,aU (c x).1→∀args w,cE w [.s (x.map .q) k m] args→bC prog f (c x).2 args w) :
  ∀cs pre r,RQ k c cs=some (pre,r)→aU pre→∀(args:List Value) (w:World),cE w cs args→bC prog f r args w:=by
 intro cs pre r hg hp args w ha;unfold RQ at hg;split at hg
 ·rename_i l n m;cases hb:Nat.beq n k<;>rw[hb]at hg
  ·cases hg
  ·cases Nat.eq_of_beq_eq_true hb;simp only[cond_true]at hg;split at hg
   ·rename_i x hx;have e:c x=(pre,r):=by simpa using hg
    have:=h x m (by rw[e]; exact hp) args w (ZX (lY hx) ha);rw[e]at this;exact this
   ·cases hg
 ·cases hg
def jV (x y:Nat):Bool:=decide (x<RM∧y<RM)
theorem EV (x y m:Nat):bM prog (qG prog) (fun _=>⟨fun _=>kK,fun _=>true,assoc [(13,.bool false)]⟩) f56 60 [.s [.q x,.q y] 2 m]=some ([x<aC,bJ .neq .i64 (LI x) 0=some (.bool false),y<aC,bJ .neq .i64 (LI y) 0=some (.bool false)],.one (.im (.bool true))):=by kernel_rfl
theorem EX (x y m:Nat):bM prog (qG prog) (fun _=>⟨fun _=>kK,fun _=>true,assoc [(13,.bool true)]⟩) f56 60 [.s [.q x,.q y] 2 m]=some ([x<aC,bJ .neq .i64 (LI x) 0=some (.bool true)],.one (.im (.bool false))):=by kernel_rfl
theorem EW (x y m:Nat):bM prog (qG prog) (fun n=>⟨fun _=>kK,fun _=>true,assoc [(13,.bool (Nat.blt n 48))]⟩) f56 60 [.s [.q x,.q y] 2 m]=some ([x<aC,bJ .neq .i64 (LI x) 0=some (.bool false),y<aC,bJ .neq .i64 (LI y) 0=some (.bool true)],.one (.im (.bool false))):=by kernel_rfl
theorem EY (x y m:Nat) (hx:x<aC) (hy:y<aC) (args:List Value) (w:World) (ha:cE w [.s [.q x,.q y] 2 m] args):bC prog 56 (.one (.im (.bool (jV x y)))) args w:=by
 unfold jV
 by_cases h1:x<RM
 ·by_cases h2:y<RM
  ·rw[decide_eq_true ⟨h1,h2⟩];exact aF aZ (fun _ _=>fW) (aS _) func56 (EV x y m) ⟨hx,AJ h1,hy,AJ h2,trivial⟩ ha
  ·rw[decide_eq_false (fun h=>h2 h.2)];exact aF aZ (fun _ _=>fW) (aS _) func56 (EW x y m) ⟨hx,AJ h1,hy,CG h2,trivial⟩ ha
 ·rw[decide_eq_false (fun h=>h1 h.1)];exact aF aZ (fun _ _=>fW) (aS _) func56 (EX x y m) ⟨hx,CG h1,trivial⟩ ha
def ZZ (b:Bool):List Nat→List Prop×RV
 | [x,y]=>([x<aC,y<aC,jV x y=b],.one (.im (.bool b)))
 | _=>([False],.one (.im (.bool b)))
theorem ZI (b:Bool):∀cs pre r,RQ 2 (ZZ b) cs=some (pre,r)→aU pre→∀(args:List Value) (w:World),cE w cs args→bC prog 56 r args w :=
 zO fun x m hp args w ha=>by
  match x,hp,ha with
  | [x,y],hp,ha =>
   have h:=EY x y m hp.1 hp.2.1 args w ha;rw[hp.2.2.1]at h;exact h
  | [],hp,_=>exact hp.1.elim
  | [_],hp,_=>exact hp.1.elim
  | _::_::_::_,hp,_=>exact hp.1.elim
theorem XN (x y:Nat):bM prog (qG prog) (fun _=>⟨fun _=>kK,fun _=>true,fun _=>none⟩) f57 60 [.v (.fl [.q x]),.v (.fl [.q y])]=some ([x<RM,y<RM,aJ x x<RM,aJ 168700 (aJ x x)<RM,aJ y y<RM,1<18446744073709551616,aJ x x<RM,aJ y y<RM,aJ (aJ x x) (aJ y y)<RM,1<RM,aJ 168696 (aJ (aJ x x) (aJ y y))<RM,aB [At.q (dM (aJ 168700 (aJ x x)) (aJ y y))]=aB [At.q (dM 1 (aJ 168696 (aJ (aJ x x) (aJ y y))))]],.one (.im (.bool true))):=by kernel_rfl
theorem XO (x y:Nat):bM prog (qG prog) (fun _=>⟨fun _=>kK,fun _=>false,fun _=>none⟩) f57 60 [.v (.fl [.q x]),.v (.fl [.q y])]=some ([x<RM,y<RM,aJ x x<RM,aJ 168700 (aJ x x)<RM,aJ y y<RM,1<18446744073709551616,aJ x x<RM,aJ y y<RM,aJ (aJ x x) (aJ y y)<RM,1<RM,aJ 168696 (aJ (aJ x x) (aJ y y))<RM,aB [At.q (dM (aJ 168700 (aJ x x)) (aJ y y))]≠aB [At.q (dM 1 (aJ 168696 (aJ (aJ x x) (aJ y y))))]],.one (.im (.bool false))):=by kernel_rfl
theorem WC {a b:Nat} (ha:a<RM) (hb:b<RM) (h:aB [At.q a]=aB [At.q b]):a=b:=by
 have h:[Value.int .u64 (fw a 0:Nat),.int .u64 (fw a 1:Nat),.int .u64 (fw a 2:Nat),.int .u64 (fw a 3:Nat)]=[Value.int .u64 (fw b 0:Nat),.int .u64 (fw b 1:Nat),.int .u64 (fw b 2:Nat),.int .u64 (fw b 3:Nat)]:=h;simp only[List.cons.injEq,Value.int.injEq,true_and,and_true,Int.natCast_inj]at h;rw[←nG ha,←nG hb,h.1,h.2.1,h.2.2.1,h.2.2.2]
theorem DR (x y:Nat) (hx:x<RM) (hy:y<RM) (args:List Value) (w:World) (ha:cE w [.v (.fl [.q x]),.v (.fl [.q y])] args):bC prog 57 (.one (.im (.bool (decide (rO x y))))) args w:=by
 by_cases h:rO x y
 ·rw[decide_eq_true h];exact aF aZ (fun _ _=>fW) (aS _) func57 (XN x y) ⟨hx,hy,aD _ _,aD _ _,aD _ _,by decide,aD _ _,aD _ _,aD _ _,cI,aD _ _,by rw[h],trivial⟩ ha
 ·rw[decide_eq_false h];exact aF aZ (fun _ _=>fW) (aS _) func57 (XO x y) ⟨hx,hy,aD _ _,aD _ _,aD _ _,by decide,aD _ _,aD _ _,aD _ _,cI,aD _ _,fun e=>h (WC (bP _ _) (bP _ _) e),trivial⟩ ha
def UW (b:Bool):kH
 | [.v (.fl l),.v (.fl m)]=>match oK l,oK m with|some x,some y=>some ([x<RM,y<RM,decide (rO x y)=b],.one (.im (.bool b)))|_,_=>none
 | _=>none
theorem ZD (b:Bool):∀cs pre r,UW b cs=some (pre,r)→aU pre→∀(args:List Value) (w:World),cE w cs args→bC prog 57 r args w:=by
 intro cs pre r hg hp args w ha;unfold UW at hg;split at hg
 ·rename_i l m;split at hg
  ·rename_i x y hx hy;cases hg;have h:=DR x y hp.1 hp.2.1 args w (by
    match args,ha with
    | [v,u],ha =>
     refine⟨?_,?_,trivial⟩
     ·show v=.agg (aB (q1 x)).toArray;rw[←cJ l x hx]; exact ha.1
     ·show u=.agg (aB (q1 y)).toArray;rw[←cJ m y hy]; exact ha.2.1
    | [],ha=>exact ha.elim
    | [_],ha=>exact ha.2.elim
    | _::_::_::_,ha=>exact ha.2.2.elim)
   rw[hp.2.2.1]at h;exact h
  ·cases hg
 ·cases hg
def uG (b c:Bool):Tab:=(kK.add 56 (RQ 2 (ZZ b))).add 57 (UW c)
theorem nN (b c:Bool):TabOk prog (uG b c):=(fW.ad func56 (ZI b)).ad func57 (ZD c)
theorem Al (x y m:Nat):bM prog (qG prog) (fun n=>⟨fun _=>uG true true,fun _=>true,fun _=>none⟩) f29 60 [.s [.q x,.q y] 1 m]=some ([x<aC,y<aC,jV x y=true,x<RM,y<RM,decide (rO x y)=true],.one (.im (.bool true))):=by kernel_rfl
theorem Am (x y m:Nat):bM prog (qG prog) (fun n=>⟨fun _=>uG true false,fun _=>true,fun _=>none⟩) f29 60 [.s [.q x,.q y] 1 m]=some ([x<aC,y<aC,jV x y=true,x<RM,y<RM,decide (rO x y)=false],.one (.im (.bool false))):=by kernel_rfl
theorem An (x y m:Nat):bM prog (qG prog) (fun n=>⟨fun _=>uG false false,fun _=>true,fun _=>none⟩) f29 60 [.s [.q x,.q y] 1 m]=some ([x<aC,y<aC,jV x y=false],.one (.im (.bool false))):=by kernel_rfl
theorem Ag (x y u v m:Nat):bM prog (qG prog) (fun n=>⟨fun _=>uG true true,fun _=>true,fun _=>none⟩) f29 60 [.s [.q x,.q y,.q u,.q v] 2 m]=some ([x<aC,y<aC,jV x y=true,x<RM,y<RM,decide (rO x y)=true,u<aC,v<aC,jV u v=true,u<RM,v<RM,decide (rO u v)=true],.one (.im (.bool true))):=by kernel_rfl
theorem Aj (x y u v m:Nat):bM prog (qG prog) (fun n=>⟨fun _=>uG true false,fun _=>true,fun _=>none⟩) f29 60 [.s [.q x,.q y,.q u,.q v] 2 m]=some ([x<aC,y<aC,jV x y=true,x<RM,y<RM,decide (rO x y)=false],.one (.im (.bool false))):=by kernel_rfl
theorem Ak (x y u v m:Nat):bM prog (qG prog) (fun n=>⟨fun _=>uG false false,fun _=>true,fun _=>none⟩) f29 60 [.s [.q x,.q y,.q u,.q v] 2 m]=some ([x<aC,y<aC,jV x y=false],.one (.im (.bool false))):=by kernel_rfl
theorem Ah (x y u v m:Nat):bM prog (qG prog) (fun n=>⟨fun _=>uG true (Nat.blt 47 n),fun _=>true,fun _=>none⟩) f29 60 [.s [.q x,.q y,.q u,.q v] 2 m]=some ([x<aC,y<aC,jV x y=true,x<RM,y<RM,decide (rO x y)=true,u<aC,v<aC,jV u v=true,u<RM,v<RM,decide (rO u v)=false],.one (.im (.bool false))):=by kernel_rfl
theorem Ai (x y u v m:Nat):bM prog (qG prog) (fun n=>⟨fun _=>uG (Nat.blt 47 n) true,fun _=>true,fun _=>none⟩) f29 60 [.s [.q x,.q y,.q u,.q v] 2 m]=some ([x<aC,y<aC,jV x y=true,x<RM,y<RM,decide (rO x y)=true,u<aC,v<aC,jV u v=false],.one (.im (.bool false))):=by kernel_rfl
def bG (x y:Nat):Bool:=decide (OnJ x y)
theorem wH {x y:Nat} (h:OnJ x y):bG x y=true:=decide_eq_true h
theorem dF {x y:Nat}:bG x y=true↔OnJ x y:=⟨of_decide_eq_true,decide_eq_true⟩
theorem mZ (x y:Nat):(bG x y=true∧jV x y=true∧x<RM∧y<RM∧decide (rO x y)=true)∨(bG x y=false∧jV x y=true∧x<RM∧y<RM∧decide (rO x y)=false)∨(bG x y=false∧jV x y=false):=by
 by_cases h:x<RM∧y<RM
 ·by_cases k:rO x y
  ·exact Or.inl ⟨decide_eq_true ⟨h,k⟩,decide_eq_true h,h.1,h.2,decide_eq_true k⟩
  ·exact Or.inr (Or.inl ⟨decide_eq_false fun q=>k q.2,decide_eq_true h,h.1,h.2,decide_eq_false k⟩)
 ·exact Or.inr (Or.inr ⟨decide_eq_false fun q=>h q.1,decide_eq_false h⟩)
theorem FG (x y m:Nat) (hx:x<aC) (hy:y<aC) (args:List Value) (w:World) (ha:cE w [.s [.q x,.q y] 1 m] args):bC prog 29 (.one (.im (.bool (bG x y)))) args w:=by
 rcases mZ x y with⟨e,h1,h2,h3,h4⟩|⟨e,h1,h2,h3,h4⟩|⟨e,h1⟩
 ·rw[e];exact aF aZ (fun _ _=>nN _ _) (aS _) func29 (Al x y m) ⟨hx,hy,h1,h2,h3,h4,trivial⟩ ha
 ·rw[e];exact aF aZ (fun _ _=>nN _ _) (aS _) func29 (Am x y m) ⟨hx,hy,h1,h2,h3,h4,trivial⟩ ha
 ·rw[e];exact aF aZ (fun _ _=>nN _ _) (aS _) func29 (An x y m) ⟨hx,hy,h1,trivial⟩ ha
theorem FF (x y u v m:Nat) (hx:x<aC) (hy:y<aC) (hu:u<aC) (hv:v<aC) (args:List Value) (w:World) (ha:cE w [.s [.q x,.q y,.q u,.q v] 2 m] args):bC prog 29 (.one (.im (.bool (bG x y&&bG u v)))) args w:=by
 rcases mZ x y with⟨e,h1,h2,h3,h4⟩|⟨e,h1,h2,h3,h4⟩|⟨e,h1⟩
 ·rw[e,Bool.true_and]
  rcases mZ u v with⟨e',k1,k2,k3,k4⟩|⟨e',k1,k2,k3,k4⟩|⟨e',k1⟩
  ·rw[e'];exact aF aZ (fun _ _=>nN _ _) (aS _) func29 (Ag x y u v m) ⟨hx,hy,h1,h2,h3,h4,hu,hv,k1,k2,k3,k4,trivial⟩ ha
  ·rw[e'];exact aF aZ (fun _ _=>nN _ _) (aS _) func29 (Ah x y u v m) ⟨hx,hy,h1,h2,h3,h4,hu,hv,k1,k2,k3,k4,trivial⟩ ha
  ·rw[e'];exact aF aZ (fun _ _=>nN _ _) (aS _) func29 (Ai x y u v m) ⟨hx,hy,h1,h2,h3,h4,hu,hv,k1,trivial⟩ ha
 ·rw[e,Bool.false_and];exact aF aZ (fun _ _=>nN _ _) (aS _) func29 (Aj x y u v m) ⟨hx,hy,h1,h2,h3,h4,trivial⟩ ha
 ·rw[e,Bool.false_and];exact aF aZ (fun _ _=>nN _ _) (aS _) func29 (Ak x y u v m) ⟨hx,hy,h1,trivial⟩ ha
def Ab (b:Bool):List Nat→List Prop×RV
 | [x,y]=>([x<aC,y<aC,bG x y=b],.one (.im (.bool b)))
 | _=>([False],.one (.im (.bool b)))
def Aa (b:Bool):List Nat→List Prop×RV
 | [x,y,u,v]=>([x<aC,y<aC,u<aC,v<aC,(bG x y&&bG u v)=b],.one (.im (.bool b)))
 | _=>([False],.one (.im (.bool b)))
theorem ZK (b:Bool):∀cs pre r,RQ 1 (Ab b) cs=some (pre,r)→aU pre→∀(args:List Value) (w:World),cE w cs args→bC prog 29 r args w :=
 zO fun x m hp args w ha=>by
  match x,hp,ha with
  | [x,y],hp,ha =>
   have h:=FG x y m hp.1 hp.2.1 args w ha;rw[hp.2.2.1]at h;exact h
  | [],hp,_=>exact hp.1.elim
  | [_],hp,_=>exact hp.1.elim
  | _::_::_::_,hp,_=>exact hp.1.elim
theorem ZJ (b:Bool):∀cs pre r,RQ 2 (Aa b) cs=some (pre,r)→aU pre→∀(args:List Value) (w:World),cE w cs args→bC prog 29 r args w :=
 zO fun x m hp args w ha=>by
  match x,hp,ha with
  | [x,y,u,v],hp,ha =>
   have h:=FF x y u v m hp.1 hp.2.1 hp.2.2.1 hp.2.2.2.1 args w ha;rw[hp.2.2.2.2.1]at h;exact h
  | [],hp,_=>exact hp.1.elim
  | [_],hp,_=>exact hp.1.elim
  | [_,_],hp,_=>exact hp.1.elim
  | [_,_,_],hp,_=>exact hp.1.elim
  | _::_::_::_::_::_,hp,_=>exact hp.1.elim
def xQ (b:Bool):Tab:=kK.add 29 (RQ 1 (Ab b))
theorem tJ (b:Bool):TabOk prog (xQ b):=fW.ad func29 (ZK b)
def MA (b:Bool):Tab:=kK.add 29 (RQ 2 (Aa b))
theorem IZ (b:Bool):TabOk prog (MA b):=fW.ad func29 (ZJ b)
def cN (p q:NP):NP:=tld (gG (p.1,p.2,1) (q.1,q.2,1))
def fX (p:NP):NP:=(eO 0 p.1,p.2)
abbrev xV:List At:=[.f ⟨0,eI⟩,.f ⟨0,eI⟩]
abbrev w2 (p:NP):Prop:=p.1<aC∧p.2<aC
def mL (p:NP) (e:Int):RV:=.many [.fl [.q p.1,.q p.2],.im (.int .i64 e)]
theorem UD (p:NP) (b:Bool):bM prog (qG prog) (fun n=>⟨fun _=>xQ b,fun _=>true,fun _=>none⟩) f13 60 [.v (.fl [.q p.1,.q p.2])]=some ([p.1<aC,p.2<aC,bG p.1 p.2=b],.one (.im (.bool b))):=by kernel_rfl
theorem Ao (p q:NP):bM prog (qG prog) (fun n=>⟨fun _=>MA false,fun _=>true,fun _=>none⟩) f7 60 [.v (.fl [.q p.1,.q p.2]),.v (.fl [.q q.1,.q q.2])]=some ([p.1<aC,p.2<aC,q.1<aC,q.2<aC,(bG p.1 p.2&&bG q.1 q.2)=false],.many [.fl xV,.im (.int .i64 41)]):=by kernel_rfl
theorem XU (p:NP):bM prog (qG prog) (fun n=>⟨fun _=>xQ false,fun _=>true,fun _=>none⟩) f9 60 [.v (.fl [.q p.1,.q p.2])]=some ([p.1<aC,p.2<aC,bG p.1 p.2=false],.many [.fl xV,.im (.int .i64 41)]):=by kernel_rfl
theorem XT (p:NP):bM prog (qG prog) (fun n=>⟨fun _=>xQ true,fun _=>true,fun _=>none⟩) f9 60 [.v (.fl [.q p.1,.q p.2])]=some ([p.1<aC,p.2<aC,bG p.1 p.2=true,p.1<RM],mL (fX p) 0):=by kernel_rfl
theorem VS (p q:NP):bM prog (qG prog) (fun n=>⟨fun _=>MA true,fun _=>true,fun _=>none⟩) f7 60 [.v (.fl [.q p.1,.q p.2]),.v (.fl [.q q.1,.q q.2])]=some ([p.1<aC,p.2<aC,q.1<aC,q.2<aC,(bG p.1 p.2&&bG q.1 q.2)=true,p.1<RM,p.2<RM,1<RM,q.1<RM,q.2<RM,1<RM,(gG (p.1,p.2,1) (q.1,q.2,1)).1<RM,(gG (p.1,p.2,1) (q.1,q.2,1)).2.1<RM,(gG (p.1,p.2,1) (q.1,q.2,1)).2.2<RM,(gG (p.1,p.2,1) (q.1,q.2,1)).2.2≠0],mL (cN p q) 0):=by kernel_rfl
def cj (P:JP):NP:=(P.1.1.1,P.1.2.1)
theorem lG (P:JP):OnJ (cj P).1 (cj P).2:=P.on
theorem BR (P:JP):jp (lG P)=P:=YE P _
theorem ZR {p:NP} (h:OnJ p.1 p.2):cj (jp h)=p:=Prod.ext (Cp h) (YD h)
theorem QN {p q:NP} (hp:OnJ p.1 p.2) (hq:OnJ q.1 q.2):cN p q=cj (dC.grp.add (jp hp) (jp hq)):=((dS hp).pl (dS hq)).tld
theorem OR {p:NP} (hp:OnJ p.1 p.2):fX p=cj (dC.grp.neg (jp hp)):=by
 refine Prod.ext ?_ (YD hp).symm;show eO 0 p.1=(0+RM-(fK p.1).1)%RM;rw[iC hp.1.1];rfl
theorem OnJ.w {x y:Nat} (h:OnJ x y):x<aC∧y<aC:=⟨pB h.1.1,pB h.1.2⟩
theorem qL (p q:NP) (hp:w2 p) (hq:w2 q) (args:List Value) (w:World) (ha:cE w [.v (.fl (q2 p)),.v (.fl (q2 q))] args):bC prog 7 (if (bG p.1 p.2&&bG q.1 q.2)=true then mL (cN p q) 0 else mL (0,0) 41) args w:=by
 cases h:(bG p.1 p.2&&bG q.1 q.2)
 ·exact aF aZ (fun _ _=>IZ _) (aS _) func7 (Ao p q) ⟨hp.1,hp.2,hq.1,hq.2,h,trivial⟩ ha
 ·have h':=h;rw[Bool.and_eq_true]at h';have h1:=dF.1 h'.1;have h2:=dF.1 h'.2;exact aF aZ (fun _ _=>IZ _) (aS _) func7 (VS p q) ⟨hp.1,hp.2,hq.1,hq.2,h,h1.1.1,h1.1.2,cI,h2.1.1,h2.1.2,cI,aD _ _,aD _ _,aD _ _,((dS h1).pl (dS h2)).nz,trivial⟩ ha
theorem pM (p:NP) (hp:w2 p) (args:List Value) (w:World) (ha:cE w [.v (.fl (q2 p))] args):bC prog 9 (if bG p.1 p.2=true then mL (fX p) 0 else mL (0,0) 41) args w:=by
 cases h:bG p.1 p.2
 ·exact aF aZ (fun _ _=>tJ _) (aS _) func9 (XU p) ⟨hp.1,hp.2,h,trivial⟩ ha
 ·exact aF aZ (fun _ _=>tJ _) (aS _) func9 (XT p) ⟨hp.1,hp.2,h,(dF.1 h).1.1,trivial⟩ ha
theorem mX (p:NP) (hp:w2 p) (args:List Value) (w:World) (ha:cE w [.v (.fl (q2 p))] args):bC prog 13 (.one (.im (.bool (bG p.1 p.2)))) args w :=
 aF aZ (fun _ _=>tJ _) (aS _) func13 (UD p _) ⟨hp.1,hp.2,rfl,trivial⟩ ha
def Bi (a b c:NJ):kH
 | [.v (.fl l),.v (.fl m)]=>some ([aB l=aB (q3 a),aB m=aB (q3 b)],.one (.fl (q3 c)))
 | _=>none
def DX (p:NJ):Prop:=p.1<RM∧p.2.1<RM∧p.2.2<RM
theorem ZE {a b c:NJ} (ha:DX a) (hb:DX b) (hc:c=gG a b):∀cs pre r,Bi a b c cs=some (pre,r)→aU pre→∀(args:List Value) (w:World),cE w cs args→bC prog 31 r args w:=by
 intro cs pre r hg hp args w h;unfold Bi at hg;split at hg
 ·rename_i l m;cases hg
  match args,h with
  | [v,u],h =>
   have h1:v=.agg (aB l).toArray:=h.1;have h2:u=.agg (aB m).toArray:=h.2.1;rw[hp.1]at h1;rw[hp.2.1]at h2;subst h1; subst h2; subst hc;exact bK aZ nO (aS _) func31 (wT a b) (⟨ha.2.2,hb.2.2,ha.1,hb.1,ha.2.1,hb.2.1,(aD _ _),(aD _ _),(aD _ _),(aD _ _),(aD _ _),(aD _ _),(aD _ _),(aD _ _),ha.1,ha.2.1,hb.1,hb.2.1,(bP _ _),(bP _ _),(aD _ _),(aD _ _),(cC _ _),(aD _ _),(aD _ _),(cC _ _),(aD _ _),(cC _ _),(aD _ _),(bP _ _),(aD _ _),(aD _ _),(aD _ _),(aD _ _),(cC _ _),(cC _ _),(bP _ _),trivial⟩) (args:=[_,_]) ⟨rfl,rfl,trivial⟩
  | [],h=>exact h.elim
  | [_],h=>exact h.2.elim
  | _::_::_::_,h=>exact h.2.2.elim
 ·cases hg
def Cs (a c:NJ):kH
 | [.v (.fl l)]=>some ([aB l=aB (q3 a)],.one (.fl (q3 c)))
 | _=>none
theorem Cy {a c:NJ} (ha:DX a) (hc:c=JV a):∀cs pre r,Cs a c cs=some (pre,r)→aU pre→∀(args:List Value) (w:World),cE w cs args→bC prog 69 r args w:=by
 intro cs pre r hg hp args w h;unfold Cs at hg;split at hg
 ·rename_i l;cases hg
  match args,h with
  | [v],h =>
   have h1:v=.agg (aB l).toArray:=h.1;rw[hp.1]at h1;subst h1; subst hc;exact bK aZ nO (aS _) func69 (pR a) (⟨ha.1,ha.2.1,ha.2.2,ha.1,ha.2.1,(bP _ _),(aD _ _),(aD _ _),(cC _ _),(aD _ _),(aD _ _),(aD _ _),(aD _ _),(aD _ _),(aD _ _),(bP _ _),(bP _ _),(cC _ _),(cC _ _),(aD _ _),(aD _ _),(bP _ _),(cC _ _),(bP _ _),(cC _ _),trivial⟩) (args:=[_]) ⟨rfl,trivial⟩
  | [],h=>exact h.elim
  | _::_::_,h=>exact h.2.elim
 ·cases hg
end Go.Proofs.Ytjeplinbleofnaa.Ex
namespace Go.Proofs.Ytjeplinbleofnaa
open Go.Proofs.Try
open Go.ChangeShapes Go.WideShapes Go.ChangeAt Go.RowKit
def LAt (w:World) (g off len:Nat) (A:Nat→Nat→Nat):Prop:=∀k,k<len →
 w.cell? ⟨g,off+k*4,none⟩=some (.int .u64 (A k 0))∧w.cell? ⟨g,off+k*4+1,none⟩=some (.int .u64 (A k 1)) ∧
 w.cell? ⟨g,off+k*4+2,none⟩=some (.int .u64 (A k 2))∧w.cell? ⟨g,off+k*4+3,none⟩=some (.int .u64 (A k 3))
def Fi (len:Nat) (A:Nat→Nat→Nat):Prop:=∀k,k<len→bH (A k 0) (A k 1) (A k 2) (A k 3)
theorem LAt.same {w w':World} {g off len:Nat} {A:Nat→Nat→Nat} {B:Nat} (h:LAt w g off len A) (hg:0<len→g<B) (hb:Below B w w'):LAt w' g off len A :=
 fun k hk=>have hg:=hg (Nat.lt_of_le_of_lt (Nat.zero_le _) hk); ⟨(hb.cell (p:=⟨g,off+k*4,none⟩) hg).trans (h k hk).1,(hb.cell (p:=⟨g,off+k*4+1,none⟩) hg).trans (h k hk).2.1,
  (hb.cell (p:=⟨g,off+k*4+2,none⟩) hg).trans (h k hk).2.2.1,(hb.cell (p:=⟨g,off+k*4+3,none⟩) hg).trans (h k hk).2.2.2⟩
open Go.RowKit
def FIs (W:World) (o:Option Addr) (len:Nat) (A:Nat→Nat→Nat):Prop:=len*32≤140737488351232∧Fi len A∧(0<len→∃g off,o=some ⟨g,off,none⟩∧g<W.heap.size∧LAt W g off len A)
theorem FIs.on {W w:World} {o:Option Addr} {len:Nat} {A:Nat→Nat→Nat} (h:FIs W o len A) (hb:Below W.heap.size W w):FIs w o len A:=by
 refine⟨h.1,h.2.1,fun hl => ?_⟩;obtain⟨g,off,e,hg,hc⟩:=h.2.2 hl;exact⟨g,off,e,Nat.lt_of_lt_of_le hg hb.size,hc.same (fun _=>hg) hb⟩
structure MR (w wr:World) (g9 g10:Nat) (h0 h1 h2 h3 l0 l1 l2 l3 b0 b1 b2 b3 r0 r1 r2 r3:Nat):Prop where
 below:Below w.heap.size w wr
 lo:w.heap.size+1+1+1<g9
 mid:g9<g10
 size:g10<wr.heap.size
 rowH:Row4 wr w.heap.size h0 h1 h2 h3
 rowL:Row4 wr (w.heap.size+1) l0 l1 l2 l3
 rowB:Row4 wr g9 b0 b1 b2 b3
 rowR:Row4 wr g10 r0 r1 r2 r3
 rowO:Row4 wr (w.heap.size+1+1+1) 0 0 0 0
theorem MR.on {w wr w':World} {g9 g10:Nat} {h0 h1 h2 h3 l0 l1 l2 l3 b0 b1 b2 b3 r0 r1 r2 r3:Nat} (m:MR w wr g9 g10 h0 h1 h2 h3 l0 l1 l2 l3 b0 b1 b2 b3 r0 r1 r2 r3) (hb:Below wr.heap.size wr w'):MR w w' g9 g10 h0 h1 h2 h3 l0 l1 l2 l3 b0 b1 b2 b3 r0 r1 r2 r3 :=
 ⟨m.below.trans (hb.mono m.below.size),m.lo,m.mid,Nat.lt_of_lt_of_le m.size hb.size,m.rowH.below hb (by have:=m.lo; have:=m.mid; have:=m.size; omega),m.rowL.below hb (by have:=m.lo; have:=m.mid; have:=m.size; omega),
  m.rowB.below hb (by have:=m.mid; have:=m.size; omega),m.rowR.below hb m.size,m.rowO.below hb (by have:=m.lo; have:=m.mid; have:=m.size; omega)⟩
theorem MR.drewN {w wr:World} {g9 g10:Nat} {h0 h1 h2 h3 l0 l1 l2 l3 b0 b1 b2 b3 r0 r1 r2 r3:Nat} (m:MR w wr g9 g10 h0 h1 h2 h3 l0 l1 l2 l3 b0 b1 b2 b3 r0 r1 r2 r3) (n:Nat):MR w (wr.drewN n) g9 g10 h0 h1 h2 h3 l0 l1 l2 l3 b0 b1 b2 b3 r0 r1 r2 r3:=m.on (aP _ _ n)
theorem MR.put {w wr:World} {g9 g10:Nat} {h0 h1 h2 h3 l0 l1 l2 l3 b0 b1 b2 b3 r0 r1 r2 r3:Nat} (m:MR w wr g9 g10 h0 h1 h2 h3 l0 l1 l2 l3 b0 b1 b2 b3 r0 r1 r2 r3) (s0 s1 s2 s3:Nat):MR w (set4 wr g10 s0 s1 s2 s3) g9 g10 h0 h1 h2 h3 l0 l1 l2 l3 b0 b1 b2 b3 s0 s1 s2 s3 :=
 ⟨aV m.below (by have:=m.lo; have:=m.mid; omega) _ _ _ _,m.lo,m.mid,by unfold set4; simp only[World.size_setCell]; exact m.size,m.rowH.set4_other (by have:=m.lo; have:=m.mid; omega) _ _ _ _,m.rowL.set4_other (by have:=m.lo; have:=m.mid; omega) _ _ _ _,
  m.rowB.set4_other (by have:=m.mid; omega) _ _ _ _,m.rowR.set4 _ _ _ _,m.rowO.set4_other (by have:=m.lo; have:=m.mid; omega) _ _ _ _⟩
def CN (n:Nat) (w:World) (e:Ending) (w':World):Prop :=
 ∃s0 s1 s2 s3:Nat,e=.returned (.agg #[.int .u64 s0,.int .u64 s1,.int .u64 s2,.int .u64 s3])∧bH s0 s1 s2 s3∧aA s0 s1 s2 s3=n∧Below w.heap.size w w'
theorem Bt (a0 a1 a2 a3 j s:Nat) (hj:j<4):∃s0 s1 s2 s3:Nat,cH (bV [a0,a1,a2,a3]) j s=bV [s0,s1,s2,s3]∧[Value.int .u64 a0,.int .u64 a1,.int .u64 a2,.int .u64 a3].set j (.int .u64 s)=[.int .u64 s0,.int .u64 s1,.int .u64 s2,.int .u64 s3]:=by
 match j,hj with
 | 0,_=>exact⟨s,a1,a2,a3,by funext k; unfold cH bV; match k with|0|1|2|3=>rfl|k+4=>simp,rfl⟩
 | 1,_=>exact⟨a0,s,a2,a3,by funext k; unfold cH bV; match k with|0|1|2|3=>rfl|k+4=>simp,rfl⟩
 | 2,_=>exact⟨a0,a1,s,a3,by funext k; unfold cH bV; match k with|0|1|2|3=>rfl|k+4=>simp,rfl⟩
 | 3,_=>exact⟨a0,a1,a2,s,by funext k; unfold cH bV; match k with|0|1|2|3=>rfl|k+4=>simp,rfl⟩
set_option maxHeartbeats 1000000 in
theorem DD (a0 a1 a2 a3 i:Nat) (ha:bH a0 a1 a2 a3) (hi:i<256) (h0:bU (aA a0 a1 a2 a3) i=0) (w:World) :
  Calls prog 50 #[.agg #[.int .u64 a0,.int .u64 a1,.int .u64 a2,.int .u64 a3],.int .i64 i] w (CN (aA a0 a1 a2 a3+2^i) w):=by
 obtain⟨j,k,q,r,hj,hk,e⟩:=BW hi;have hc:=lX w 27 a0 a1 a2 a3 j hj;have hx:=nH ha j;obtain⟨t,s,e1,e2,ht,hs,es⟩:=VC hx hk ((uC ha hj hk e.out).trans h0);have hW:=nH ha;obtain⟨s0,s1,s2,s3,eu,el⟩:=Bt a0 a1 a2 a3 j s hj;have HV:Hid (aA s0 s1 s2 s3=aA a0 a1 a2 a3+2^i):=Lib.hid (by
  rw[sO,sO a0,←eu,es.out,uM hj,←e.out])
 have HO:Hid (bH s0 s1 s2 s3):=Lib.hid (by
  have hl:∀m,bV [s0,s1,s2,s3] m<18446744073709551616:=fun m=>by
   rw[←eu]; unfold cH; split
   ·exact hs
   ·exact hW m
  exact⟨hl 0,hl 1,hl 2,hl 3⟩)
 clear eu es hW h0;have hg:(#[Value.int .u64 a0,.int .u64 a1,.int .u64 a2,.int .u64 a3]:Array Value)[j]'(by simp; omega)=.int .u64 (bV [a0,a1,a2,a3] j:Nat):=by
  match j,hj with
  | 0,_|1,_|2,_|3,_=>rfl
 generalize bV [a0,a1,a2,a3] j=x at hc hx e1 e2 hg;clear hc;have Hj:=Lib.hid hj
 go_enter func50,ntmps50
 go_wp2_with fail
 go_region
 go_wp2_with fail;refine bodyPost_ret (v:=.agg #[.int .u64 s0,.int .u64 s1,.int .u64 s2,.int .u64 s3]) (by simp[results,results50,go_sem, *]) rfl ?_;exact⟨s0,s1,s2,s3,rfl,HO.out,HV.out,(((Below.refl _ _).alloc (Nat.le_refl _) _).alloc (by simp) _).drew⟩
def RowB (w:World) (b n:Nat) (P:Nat→Nat):Prop:=∀k,k<n→w.cell? ⟨b,k,none⟩=some (.int .u8 (P k:Nat))∧w.frozen? ⟨b,k,none⟩=false
theorem RowB.below {w w':World} {b n:Nat} {P:Nat→Nat} (h:RowB w b n P) {B:Nat} (hb:Below B w w') (hB:b<B):RowB w' b n P:=fun k hk =>
 ⟨(hb.cell (p:=⟨b,k,none⟩) hB).trans (h k hk).1,(hb.frozen (p:=⟨b,k,none⟩) hB).trans (h k hk).2⟩
theorem RowB.set {w:World} {b n i v:Nat} {P:Nat→Nat} (h:RowB w b n P) (hi:i<n):RowB (w.setCell ⟨b,i,none⟩ (.int .u8 (v:Nat))) b n (cH P i v):=by
 intro k hk;refine⟨?_,by rw[World.frozen?_setCell]; exact (h k hk).2⟩;unfold cH
 by_cases e:k=i
 ·subst e; rw[if_pos rfl]; exact World.cell?_setCell_same (h:=(h k hk).1) ..
 ·rw[if_neg e,World.cell?_setCell_other (h:=fun he=>e (by simpa using (congrArg Addr.off he).symm)) ..]; exact (h k hk).1
theorem RowB.other {w:World} {b n i:Nat} {P:Nat→Nat} (h:RowB w b n P) {c:Nat} (hc:c≠b) (x:Value):RowB (w.setCell ⟨c,i,none⟩ x) b n P:=by
 intro k hk;exact⟨by rw[World.cell?_setCell_other (h:=fun he=>hc (by simpa using congrArg Addr.block he)) ..]; exact (h k hk).1,by rw[World.frozen?_setCell]; exact (h k hk).2⟩
theorem RowB.drewN {w:World} {b n:Nat} {P:Nat→Nat} (h:RowB w b n P) (m:Nat):RowB (w.drewN m) b n P:=h
theorem RowB.ext {w:World} {b n:Nat} {P R:Nat→Nat} (h:RowB w b n P) (e:∀k,k<n→P k=R k):RowB w b n R:=fun k hk=>⟨by rw[←e k hk]; exact (h k hk).1,(h k hk).2⟩
def jX (P:Nat→Nat→Prop) (w:World) (e:Ending) (w':World):Prop :=
 ∃s0 s1 s2 s3 c:Nat,e=.returned (.tuple #[.agg #[.int .u64 s0,.int .u64 s1,.int .u64 s2,.int .u64 s3],.int .i64 c])∧bH s0 s1 s2 s3∧P (aA s0 s1 s2 s3) c∧Below w.heap.size w w'
def FwPost (x:Nat) (w:World) (e:Ending) (w':World):Prop:=e=.returned (.agg #[.int .u64 (fw x 0:Nat),.int .u64 (fw x 1:Nat),.int .u64 (fw x 2:Nat),.int .u64 (fw x 3:Nat)])∧Below w.heap.size w w'
theorem FwPost.of {x:Nat} {w:World} {e:Ending} {w':World} (hx:x<FP.M) (h:dK x w e w'):FwPost x w e w':=by
 obtain⟨s0,s1,s2,s3,rfl,hs,hv,hb⟩:=h;obtain⟨rfl,rfl,rfl,rfl⟩:=gN hs (YS hx) hv;exact⟨rfl,hb⟩
end Go.Proofs.Ytjeplinbleofnaa
namespace Go.Proofs.Ytjeplinbleofnaa.Ex
open Go.Proofs.Try
open Go.RowKit
theorem RY {l:List At} {args:List Value} {w:World} (h:cE w [.v (.fl l)] args):args=[.agg (aB l).toArray]:=by
 match args,h with
 | [v],h=>rw[show v=_ from h.1]; rfl
 | [],h=>exact h.elim
 | _::_::_,h=>exact h.2.elim
def bL (n:Nat):Nat:=if wv n=0 then 0 else Nat.log2 (wv n)+1
theorem lZ (n:Nat):LenIs (wv n) (bL n):=by
 unfold bL
 by_cases h:wv n=0
 ·rw[if_pos h,h]; exact⟨by decide,fun h=>by cases h⟩
 ·rw[if_neg h];exact⟨Nat.lt_log2_self,fun _=>by rw[Nat.add_sub_cancel]; exact Nat.log2_self_le h⟩
theorem AR (n:Nat):wv n<2^256:=by
 obtain⟨h0,h1,h2,h3⟩:=cR n;unfold wv aA;have:(2:Nat)^256=115792089237316195423570985008687907853269984665640564039457584007913129639936:=by decide
 omega
theorem tN (n:Nat):bL n≤256:=by
 rcases Nat.lt_or_ge 256 (bL n)with h|h
 ·have h1:=(lZ n).2 (by omega);have h2:=Nat.pow_le_pow_right (show 0<2 by omega) (show 256≤bL n-1 by omega);have:=AR n;omega
 ·exact h
def EL:kH
 | [.v (.fl l)]=>match oK l with
  | some n=>some ([],.one (.im (.int .i64 (bL n:Nat))))
  | none=>none
 | _=>none
theorem UN:∀cs pre r,EL cs=some (pre,r)→aU pre→∀(args:List Value) (w:World),cE w cs args→bC prog 68 r args w:=by
 intro cs pre r hg hp args w ha;unfold EL at hg;split at hg
 ·rename_i l;split at hg
  ·rename_i n hn;cases hg;rw[RY ha,cJ l _ hn];refine (rT _ _ _ _ (cR n) w).mono ?_
   rintro e w' ⟨L,rfl,_,h,hbl⟩
   cases h.uniq (lZ n);exact⟨rfl,hbl⟩
  ·cases hg
 ·cases hg
def VA:kH
 | [.v (.fl l),.v (.im (.int .i64 (.ofNat i)))]=>match oK l with
  | some n=>some ([i<256],.one (.im (.int .i64 (bU (wv n) i:Nat))))
  | none=>none
 | _=>none
def UT:kH
 | [.v (.fl l),.v (.im (.int .i64 (.ofNat k)))]=>match oK l with
  | some n=>some ([k<9223372036854775808],.one (.fl (q1 (wv n/2^k))))
  | none=>none
 | _=>none
theorem SN:∀cs pre r,UT cs=some (pre,r)→aU pre→∀(args:List Value) (w:World),cE w cs args→bC prog 70 r args w:=by
 intro cs pre r hg hp args w ha;unfold UT at hg;split at hg
 ·rename_i l k;split at hg
  ·rename_i n hn;cases hg
   match args,ha with
   | [v,u],ha =>
    have h1:v=.agg (aB l).toArray:=ha.1;have h2:u=.int .i64 (Int.ofNat k):=ha.2.1;rw[cJ l _ hn]at h1;subst h1; subst h2;have hk:k<9223372036854775808:=hp.1;refine (CW _ _ _ _ (Int.ofNat k) (cR n) (by simp) (by simp; omega) w).mono ?_
    rintro e w' ⟨s0,s1,s2,s3,rfl,hs,hv,hb⟩
    have hlt:wv n/2^k<115792089237316195423570985008687907853269984665640564039457584007913129639936:=by
     refine Nat.lt_of_le_of_lt (Nat.div_le_self _ _) ?_;have:=AR n;have e:(2:Nat)^256=115792089237316195423570985008687907853269984665640564039457584007913129639936:=by decide
     omega
    obtain⟨rfl,rfl,rfl,rfl⟩:=gN hs hlt hv;exact⟨rfl,hb⟩
   | [],ha=>exact ha.elim
   | [_],ha=>exact ha.2.elim
   | _::_::_::_,ha=>exact ha.2.2.elim
  ·cases hg
 ·cases hg
def mt (p:NJ):Nat→NJ
 | 0=>(0,1,1)
 | k+1=>gG (mt p k) p
theorem RH (p:NJ):∀k,DX (mt p k)
 | 0=>⟨eG,cI,cI⟩
 | k+1=>⟨aD _ _,aD _ _,aD _ _⟩
def OU (p:NJ):List At:=[.q (mt p 0).1,.q (mt p 0).2.1,.q (mt p 0).2.2,.q (mt p 1).1,.q (mt p 1).2.1,.q (mt p 1).2.2,.q (mt p 2).1,.q (mt p 2).2.1,.q (mt p 2).2.2,.q (mt p 3).1,.q (mt p 3).2.1,.q (mt p 3).2.2,.q (mt p 4).1,.q (mt p 4).2.1,.q (mt p 4).2.2,.q (mt p 5).1,.q (mt p 5).2.1,.q (mt p 5).2.2,.q (mt p 6).1,.q (mt p 6).2.1,.q (mt p 6).2.2,.q (mt p 7).1,.q (mt p 7).2.1,.q (mt p 7).2.2,.q (mt p 8).1,.q (mt p 8).2.1,.q (mt p 8).2.2,.q (mt p 9).1,.q (mt p 9).2.1,.q (mt p 9).2.2,.q (mt p 10).1,.q (mt p 10).2.1,.q (mt p 10).2.2,.q (mt p 11).1,.q (mt p 11).2.1,.q (mt p 11).2.2,.q (mt p 12).1,.q (mt p 12).2.1,.q (mt p 12).2.2,.q (mt p 13).1,.q (mt p 13).2.1,.q (mt p 13).2.2,.q (mt p 14).1,.q (mt p 14).2.1,.q (mt p 14).2.2,.q (mt p 15).1,.q (mt p 15).2.1,.q (mt p 15).2.2]
def Aq (p:NJ) (n:Nat):Tab:=kK.add 31 (Bi (mt p (49-n)) p (mt p (49-n+1)))
theorem XP {p:NJ} (h:DX p) (n:Nat):TabOk prog (Aq p n):=fW.ad func31 (ZE (RH p _) h rfl)
theorem UJ (p:NJ):bM prog (qG prog) (fun n=>⟨fun _=>Aq p n,fun _=>true,fun _=>none⟩) f67 60 [.v (.fl (q3 p))]=some ([aB (q3 (mt p 0))=aB (q3 (mt p 0)),aB (q3 p)=aB (q3 p),aB (q3 (mt p 1))=aB (q3 (mt p 1)),aB (q3 p)=aB (q3 p),aB (q3 (mt p 2))=aB (q3 (mt p 2)),aB (q3 p)=aB (q3 p),aB (q3 (mt p 3))=aB (q3 (mt p 3)),aB (q3 p)=aB (q3 p),aB (q3 (mt p 4))=aB (q3 (mt p 4)),aB (q3 p)=aB (q3 p),aB (q3 (mt p 5))=aB (q3 (mt p 5)),aB (q3 p)=aB (q3 p),aB (q3 (mt p 6))=aB (q3 (mt p 6)),aB (q3 p)=aB (q3 p),aB (q3 (mt p 7))=aB (q3 (mt p 7)),aB (q3 p)=aB (q3 p),aB (q3 (mt p 8))=aB (q3 (mt p 8)),aB (q3 p)=aB (q3 p),aB (q3 (mt p 9))=aB (q3 (mt p 9)),aB (q3 p)=aB (q3 p),aB (q3 (mt p 10))=aB (q3 (mt p 10)),aB (q3 p)=aB (q3 p),aB (q3 (mt p 11))=aB (q3 (mt p 11)),aB (q3 p)=aB (q3 p),aB (q3 (mt p 12))=aB (q3 (mt p 12)),aB (q3 p)=aB (q3 p),aB (q3 (mt p 13))=aB (q3 (mt p 13)),aB (q3 p)=aB (q3 p),aB (q3 (mt p 14))=aB (q3 (mt p 14)),aB (q3 p)=aB (q3 p)],.one (.fl (OU p))):=by kernel_rfl
def Dt:kH:=g1 FM fun p=>([p.1<RM,p.2.1<RM,p.2.2<RM],.one (.fl (OU p)))
theorem Cz:∀cs pre r,Dt cs=some (pre,r)→aU pre→∀(args:List Value) (w:World),cE w cs args→bC prog 67 r args w :=
 jO (op:=fun p=>([p.1<RM,p.2.1<RM,p.2.2<RM],.one (.fl (OU p)))) gP fun p h args w ha=>aF aZ (fun n _=>XP ⟨h.1,h.2.1,h.2.2.1⟩ n) (aS _) func67 (UJ p) ⟨rfl,rfl,rfl,rfl,rfl,rfl,rfl,rfl,rfl,rfl,rfl,rfl,rfl,rfl,rfl,rfl,rfl,rfl,rfl,rfl,rfl,rfl,rfl,rfl,rfl,rfl,rfl,rfl,rfl,rfl,trivial⟩ ha
def QO:Tab:=((kK.add 67 Dt).add 68 EL).add 70 UT
theorem RC:TabOk prog QO:=((fW.ad func67 Cz).ad func68 UN).ad func70 SN
def dQ:Code:=(f38.body).getD .skip
def yA:Code:=Bn (Bn (cB (cA (cB (cB (cB (cB dQ)))))))
theorem MH:dQ=.seq (cA dQ) (.seq (cA (cB dQ)) (.seq (cA (cB (cB dQ))) (.seq (cA (cB (cB (cB dQ)))) (.seq (.seq (cA (cA (cB (cB (cB (cB dQ)))))) (.block 0 (.loop yA))) (cB (cB (cB (cB (cB dQ))))))))):=by kernel_rfl
def Bq:List At:=[.f ⟨0,eI⟩,.f ⟨0,eI⟩,.f ⟨0,eI⟩]
def Bb (p:NJ) (n:Nat):List Fact:=[.slot 2 (.pt 2 0),.row 2 true (q3 p),.slot 3 (.pt 3 0),.row 3 true [.q n],.slot 4 (.pt 4 0),.row 4 true Bq]
def Ba (p:NJ) (n:Nat):List Fact:=Bb p n++[.slot 5 (.pt 5 0),.row 5 true (OU p)]
def Az (p:NJ) (n:Nat) (s:NJ):List Fact:=Ba p n++[.slot 6 (.pt 6 0),.row 6 true (q3 s)]
def Ay (p:NJ) (n PL:Nat) (s:NJ):List Fact:=Az p n s++[.slot 7 (.im (iI PL))]
def GF (p:NJ) (n PL i:Nat) (s:NJ):List Fact:=Ay p n PL s++[.slot 20 (.im (iI PL)),.slot 21 (.im (iI i))]
def SH (num:Nat→Option Value) (_:Nat):Cfg:=⟨fun _=>QO,fun _=>true,num⟩
def dk (s:NJ):Nat→NJ
 | 0=>s
 | j+1=>JV (dk s j)
theorem RS {s:NJ} (h:DX s):∀j,DX (dk s j)
 | 0=>h
 | j+1=>⟨aD _ _,aD _ _,aD _ _⟩
def SB (p s:NJ) (k m:Nat):Tab:=(QO.add 69 (Cs (dk s (46-m)) (dk s (46-m+1)))).add 31 (Bi (dk s 4) (mt p k) (gG (dk s 4) (mt p k)))
theorem UG {p s:NJ} (hs:DX s) (k m:Nat):TabOk prog (SB p s k m):=(RC.ad func69 (Cy (RS hs _) rfl)).ad func31 (ZE (RS hs _) (RH p _) rfl)
def Fa (p s:NJ) (PL i k m:Nat):Cfg:=⟨fun _=>SB p s k m,fun _=>true,assoc [(22,.bool true),(30,iI (PL-1)),(32,iI (PL-1-i)),(35,iI ((PL-1-i)*4)),(38,.int .u64 (Int.ofNat k)),(44,iI (i+1))]⟩
def WB (s:NJ):Prop:=aB (q3 s)=aB (q3 s)
def Ez (p s:NJ) (n PL i k:Nat):List Prop:=[bJ .lss .i64 (Int.ofNat i) (Int.ofNat PL)=some (.bool true),WB s,WB (dk s 1),WB (dk s 2),WB (dk s 3),bJ .sub .i64 (Int.ofNat PL) 1=some (iI (PL-1)),bJ .sub .i64 (Int.ofNat (PL-1)) (Int.ofNat i)=some (iI (PL-1-i)),bJ .mul .i64 (Int.ofNat (PL-1-i)) 4=some (iI ((PL-1-i)*4)),(PL-1-i)*4<9223372036854775808,bJ .rem .u64 (fw (wv n/2^((PL-1-i)*4)) 0:Nat) 16=some (.int .u64 (Int.ofNat k)),Int.ofNat k=Int.ofNat k,k<16,WB (dk s 4),WB (mt p k),bJ .add .i64 (Int.ofNat i) 1=some (iI (i+1))]
theorem WR (w:World) (p s:NJ) (n PL i:Nat):∀k,k<16→iF prog { qG prog with x:=xO w (assoc [(41,k)]) (fun _=>none) (fun _=>none) } f38.ntmps (Fa p s PL i k) 60 yA (GF p n PL i s) (GF p n PL (i+1) (gG (dk s 4) (mt p k)))=some (Ez p s n PL i k,.nrm,GF p n PL (i+1) (gG (dk s 4) (mt p k)))
 | 0,_=>by kernel_rfl
 | 1,_=>by kernel_rfl
 | 2,_=>by kernel_rfl
 | 3,_=>by kernel_rfl
 | 4,_=>by kernel_rfl
 | 5,_=>by kernel_rfl
 | 6,_=>by kernel_rfl
 | 7,_=>by kernel_rfl
 | 8,_=>by kernel_rfl
 | 9,_=>by kernel_rfl
 | 10,_=>by kernel_rfl
 | 11,_=>by kernel_rfl
 | 12,_=>by kernel_rfl
 | 13,_=>by kernel_rfl
 | 14,_=>by kernel_rfl
 | 15,_=>by kernel_rfl
 | k+16,h=>absurd h (by omega)
theorem WQ (p:NJ) (n:Nat):iF prog (qG prog) f38.ntmps (SH fun _=>none) 40 (cA dQ) (oH 0 [.v (.fl (q3 p)),.v (.fl [.q n])]) (Bb p n)=some ([],.nrm,Bb p n):=by kernel_rfl
theorem WP (p:NJ) (n:Nat):iF prog (qG prog) f38.ntmps (SH fun _=>none) 40 (cA (cB dQ)) (Bb p n) (Ba p n)=some ([p.1<RM,p.2.1<RM,p.2.2<RM],.nrm,Ba p n):=by kernel_rfl
theorem WO (p:NJ) (n:Nat):iF prog (qG prog) f38.ntmps (SH fun _=>none) 40 (cA (cB (cB dQ))) (Ba p n) (Az p n (0,1,1))=some ([],.nrm,Az p n (0,1,1)):=by kernel_rfl
theorem WN (p:NJ) (n PL:Nat):iF prog (qG prog) f38.ntmps (SH (assoc [(17,iI (bL n+4)),(18,iI (bL n+4-1)),(19,iI PL)])) 40 (cA (cB (cB (cB dQ)))) (Az p n (0,1,1)) (Ay p n PL (0,1,1))=some ([bJ .add .i64 (bL n:Nat) 4=some (iI (bL n+4)),bJ .sub .i64 (Int.ofNat (bL n+4)) 1=some (iI (bL n+4-1)),bJ .quo .i64 (Int.ofNat (bL n+4-1)) 4=some (iI PL)],.nrm,Ay p n PL (0,1,1)):=by kernel_rfl
theorem WM (p:NJ) (n PL:Nat):iF prog (qG prog) f38.ntmps (SH fun _=>none) 40 (cA (cA (cB (cB (cB (cB dQ)))))) (Ay p n PL (0,1,1)) (GF p n PL 0 (0,1,1))=some ([],.nrm,GF p n PL 0 (0,1,1)):=by kernel_rfl
theorem SG (p:NJ) (n PL i:Nat) (s:NJ):iF prog (qG prog) f38.ntmps (SH (assoc [(22,.bool false)])) 60 yA (GF p n PL i s) (GF p n PL i s)=some ([bJ .lss .i64 (Int.ofNat i) (Int.ofNat PL)=some (.bool false)],.ex 0,GF p n PL i s):=by kernel_rfl
theorem MG (p:NJ) (n PL i:Nat) (s:NJ):iF prog (qG prog) f38.ntmps (SH fun _=>none) 40 (cB (cB (cB (cB (cB dQ))))) (GF p n PL i s) [.slot 4 (.pt 4 0),.row 4 true (q3 s)]=some ([],.rt,[.slot 4 (.pt 4 0),.row 4 true (q3 s)]):=by kernel_rfl
def WE (n pl:Nat):Nat:=fw (wv n/2^(pl*4)) 0%16
def VX (p:NJ) (n PL:Nat):Nat→NJ
 | 0=>(0,1,1)
 | i+1=>gG (dk (VX p n PL i) 4) (mt p (WE n (PL-1-i)))
theorem SK (p:NJ) (n PL:Nat):∀i,DX (VX p n PL i)
 | 0=>⟨eG,cI,cI⟩
 | i+1=>⟨aD _ _,aD _ _,aD _ _⟩
theorem OM {x:Nat} (h:x<18446744073709551616):bJ .rem .u64 (x:Nat) 16=some (.int .u64 (Int.ofNat (x%16))):=by
 show (if (16:Int)=0 then none else some (Value.int .u64 ((Int.ofNat x).tmod 16)))=_;rw[if_neg (by decide)];rfl
def pG (n:Nat):Nat:=(bL n+3)/4
theorem TW (n:Nat):pG n≤64:=by
 have:=tN n;unfold pG;omega
def qO (p:NJ) (n:Nat):NJ:=VX p n (pG n) (pG n)
theorem sP (p:NJ) (n:Nat) (hp:DX p) (args:List Value) (w0:World) (ha:cE w0 [.v (.fl (q3 p)),.v (.fl [.q n])] args):bC prog 38 (.one (.fl (q3 (qO p n)))) args w0:=by
 have hG:iW prog (qG prog) w0.heap.size w0:=(aS _).w _ _;have hT:∀n d:Nat,TabOkW prog QO w0.heap.size w0:=fun _ _=>RC.w _ _
 refine wZ func38 (c:=dQ) rfl ha (Nat.le_of_ble_eq_true (by kernel_rfl)) fun a w' hA => ?_
 have hl:=tN n;have hPL:=TW n;rw[MH];refine wp_seq (bT aZ hT hG (WQ p n) trivial hA fun a w' hA => ?_);refine wp_seq (bT aZ hT hG (WP p n) ⟨hp.1,hp.2.1,hp.2.2,trivial⟩ hA fun a w' hA => ?_);refine wp_seq (bT aZ hT hG (WO p n) trivial hA fun a w' hA => ?_);refine wp_seq (bT aZ hT hG (WN p n (pG n)) ⟨RG (k:=4) (by omega),wL (k:=1) (by omega) (by omega),XR (k:=4) (by omega) (by omega),trivial⟩ hA fun a w' hA => ?_);refine wp_seq (wp_seq (bT aZ hT hG (WM p n (pG n)) trivial hA fun a w' hA => ?_));refine wp_block ?_;refine JL aZ (fun i=>GF p n (pG n) i (VX p n (pG n) i)) (pG n) (fun i hi => ?_) (.ex 0) (by simp) (GF p n (pG n) (pG n) (qO p n)) ⟨_,_,_,_,hG,hT,SG p n (pG n) (pG n) _,OO (Nat.le_refl _),trivial⟩ hA fun a w hA => ?_
 ·exact⟨_,_,_,_,QT w0 _ _ _,fun m _=>(UG (p:=p) (SK p n (pG n) i) (WE n (pG n-1-i)) m).w _ _,WR w0 p (VX p n (pG n) i) n (pG n) i (WE n (pG n-1-i)) (Nat.mod_lt _ (by decide)),ON hi,rfl,rfl,rfl,rfl,wL (k:=1) (by omega) (by omega),wL (by omega) (by omega),XS (k:=4) (by omega),by omega,OM (cR _).1,rfl,Nat.mod_lt _ (by decide),rfl,rfl,RG (k:=1) (by omega),trivial⟩
 ·show (cB (cB (cB (cB (cB dQ))))).wp _ _ _ _;exact bT aZ hT hG (MG p n (pG n) (pG n) _) trivial hA fun a w' hA=>wY (l:=[.fl (q3 (qO p n))]) (r:=.one (.fl (q3 (qO p n)))) (by kernel_rfl) (by kernel_rfl) hA
theorem JRep.lt {p:NJ} {P:JP} (h:JRep p P):DX p:=⟨h.x,h.y,h.z⟩
theorem JF {p:NJ} {P:JP} (h:JRep p P):∀k,JRep (mt p k) (dC.grp.ns k P)
 | 0=>tP
 | k+1=>(JF h k).pl h
theorem VH {s:NJ} {P:JP} {m:Nat} (h:JRep s (dC.grp.ns m P)):JRep (dk s 4) (dC.grp.ns (16*m) P):=by
 have h4:=h.db.db.db.db;rw[←dC.grp.ns_add,←dC.grp.ns_add,←dC.grp.ns_add,←dC.grp.ns_add,show m+m+(m+m)+(m+m+(m+m))+(m+m+(m+m)+(m+m+(m+m)))=16*m by omega]at h4;exact h4
theorem Du (x:Nat):fw x 0=x%18446744073709551616:=by
 unfold fw;rw[Nat.pow_zero,Nat.div_one]
theorem AX {p:NJ} {P:JP} (h:JRep p P) (n PL:Nat) (hn:wv n<2^(4*PL)):∀i,i≤PL→JRep (VX p n PL i) (dC.grp.ns (wv n/2^(4*(PL-i))) P)
 | 0,_=>by
  rw[Nat.sub_zero,Nat.div_eq_of_lt hn];exact tP
 | i+1,hi=>by
  have ih:=(VH (AX h n PL hn i (by omega))).pl (JF h (WE n (PL-1-i)));rw[←dC.grp.ns_add]at ih;have e1:WE n (PL-1-i)=wv n/2^(4*(PL-(i+1)))%16:=by
   unfold WE;rw[Du,show (PL-1-i)*4=4*(PL-(i+1)) by omega];omega
  have e2:wv n/2^(4*(PL-i))=wv n/2^(4*(PL-(i+1)))/16:=by
   rw[show 4*(PL-i)=4*(PL-(i+1))+4 by omega,Nat.pow_add,←Nat.div_div_eq_div_mul]
  rw[e1,e2]at ih;rw[show wv n/2^(4*(PL-(i+1)))=16*(wv n/2^(4*(PL-(i+1)))/16)+wv n/2^(4*(PL-(i+1)))%16 by omega];rw[←e1]at ih ⊢;exact ih
theorem oJ {p:NJ} {P:JP} (h:JRep p P) (n:Nat):JRep (qO p n) (dC.grp.ns (wv n) P):=by
 have h1:=AX h n (pG n) (Nat.lt_of_lt_of_le (lZ n).1 (Nat.pow_le_pow_right (by decide) (by unfold pG; omega))) (pG n) (Nat.le_refl _);rw[Nat.sub_self,Nat.mul_zero,Nat.pow_zero,Nat.div_one]at h1;exact h1
def cL (p:NP) (n:Nat):NP:=tld (qO (p.1,p.2,1) n)
theorem oN {p:NP} (hp:OnJ p.1 p.2) (n:Nat):cL p n=cj (dC.grp.ns (wv n) (jp hp)):=(oJ (dS hp) n).tld
def Ds:kH:=g2 FM oK fun p n=>([p.1<RM,p.2.1<RM,p.2.2<RM],.one (.fl (q3 (qO p n))))
theorem Cw:∀cs pre r,Ds cs=some (pre,r)→aU pre→∀(args:List Value) (w:World),cE w cs args→bC prog 38 r args w :=
 pU (op:=fun p n=>([p.1<RM,p.2.1<RM,p.2.2<RM],.one (.fl (q3 (qO p n))))) gP cJ fun p n h args w ha=>sP p n ⟨h.1,h.2.1,h.2.2.1⟩ args w ha
theorem YF (p:NJ):bM prog (qG prog) (fun n=>⟨fun _=>kK,fun _=>true,fun _=>none⟩) f43 60 [.v (.fl (q3 p))]=some ([aB [At.q p.1]=aB [At.f ⟨0,eI⟩],aB [At.q p.2.1]=aB [At.q p.2.2]],.one (.im (.bool true))):=by kernel_rfl
theorem YH (p:NJ):bM prog (qG prog) (fun n=>⟨fun _=>kK,fun s=>Nat.beq s 6,fun _=>none⟩) f43 60 [.v (.fl (q3 p))]=some ([aB [At.q p.1]=aB [At.f ⟨0,eI⟩],aB [At.q p.2.1]≠aB [At.q p.2.2]],.one (.im (.bool false))):=by kernel_rfl
theorem YG (p:NJ):bM prog (qG prog) (fun n=>⟨fun _=>kK,fun _=>false,fun _=>none⟩) f43 60 [.v (.fl (q3 p))]=some ([aB [At.q p.1]≠aB [At.f ⟨0,eI⟩]],.one (.im (.bool false))):=by kernel_rfl
theorem zM (p:NJ) (hp:DX p) (args:List Value) (w:World) (ha:cE w [.v (.fl (q3 p))] args):bC prog 43 (.one (.im (.bool (hU p)))) args w:=by
 by_cases h1:p.1=0
 ·by_cases h2:p.2.1=p.2.2
  ·rw[show hU p=true by unfold hU; rw[Bool.and_eq_true]; exact⟨by rw[h1]; rfl,by rw[h2]; exact Nat.beq_refl _⟩];exact aF aZ (fun _ _=>fW) (aS _) func43 (YF p) ⟨by rw[h1]; rfl,by rw[h2],trivial⟩ ha
  ·rw[show hU p=false by unfold hU; rw[Bool.and_eq_false_iff]; exact Or.inr (Bool.eq_false_iff.2 fun q=>h2 (Nat.eq_of_beq_eq_true q))];exact aF aZ (fun _ _=>fW) (aS _) func43 (YH p) ⟨by rw[h1]; rfl,fun e=>h2 (WC hp.2.1 hp.2.2 e),trivial⟩ ha
 ·rw[show hU p=false by unfold hU; rw[Bool.and_eq_false_iff]; exact Or.inl (Bool.eq_false_iff.2 fun q=>h1 (Nat.eq_of_beq_eq_true q))];exact aF aZ (fun _ _=>fW) (aS _) func43 (YG p) ⟨fun e=>h1 (WC hp.1 eG e),trivial⟩ ha
def YM (b:Bool):kH:=g1 FM fun p=>([p.1<RM,p.2.1<RM,p.2.2<RM,hU p=b],.one (.im (.bool b)))
theorem ZG (b:Bool):∀cs pre r,YM b cs=some (pre,r)→aU pre→∀(args:List Value) (w:World),cE w cs args→bC prog 43 r args w :=
 jO (op:=fun p=>([p.1<RM,p.2.1<RM,p.2.2<RM,hU p=b],.one (.im (.bool b)))) gP fun p h args w ha=>by
  have h':=zM p ⟨h.1,h.2.1,h.2.2.1⟩ args w ha;rw[h.2.2.2.1]at h';exact h'
theorem YA:lJ<FP.M:=of_decide_eq_true (by kernel_rfl)
theorem Af:bX<FP.M:=of_decide_eq_true (by kernel_rfl)
theorem Ae:bY<FP.M:=of_decide_eq_true (by kernel_rfl)
theorem MV:bM prog (qG prog) (fun n=>⟨fun _=>kK,fun _=>true,fun _=>none⟩) f20 60 []=some ([],.one (.fl [.f ⟨lJ,YA⟩])):=by kernel_rfl
theorem GR:bM prog (qG prog) (fun n=>⟨fun _=>kK,fun _=>true,fun _=>none⟩) f18 60 []=some ([],.one (.fl [.f ⟨bX,Af⟩,.f ⟨bY,Ae⟩])):=by kernel_rfl
theorem IQ:aB [At.f ⟨lJ,YA⟩]=aB [At.q lJ]:=rfl
theorem EZ:aB [At.f ⟨bX,Af⟩,.f ⟨bY,Ae⟩]=aB [At.q bX,.q bY]:=rfl
theorem kV (w:World):bC prog 20 (.one (.fl [.q lJ])) [] w:=by
 have h:=aF aZ (fun _ _=>fW) (aS _) func20 MV trivial (w:=w) (args:=[]) trivial;unfold bC;rw[show RV.den (.one (.fl [.q lJ]))=Value.agg (aB [At.q lJ]).toArray from rfl,←IQ];exact h
theorem nW (w:World):bC prog 18 (.one (.fl [.q bX,.q bY])) [] w:=by
 have h:=aF aZ (fun _ _=>fW) (aS _) func18 GR trivial (w:=w) (args:=[]) trivial;unfold bC;rw[show RV.den (.one (.fl [.q bX,.q bY]))=Value.agg (aB [At.q bX,.q bY]).toArray from rfl,←EZ];exact h
def sJ (b c:Bool):Tab:=(((xQ b).add 38 Ds).add 43 (YM c)).add 20 (g0 (.one (.fl [.q lJ])))
theorem pK (b c:Bool):TabOk prog (sJ b c):=(((tJ b).ad func38 Cw).ad func43 (ZG c)).ad func20 (fZ kV)
theorem XW (p:NP) (n:Nat):bM prog (qG prog) (fun n=>⟨fun _=>sJ false true,fun _=>true,fun _=>none⟩) f11 60 [.v (.fl [.q p.1,.q p.2]),.v (.fl [.q n])]=some ([p.1<aC,p.2<aC,bG p.1 p.2=false],.many [.fl xV,.im (.int .i64 41)]):=by kernel_rfl
theorem XV (p:NP) (n:Nat):bM prog (qG prog) (fun n=>⟨fun _=>sJ true true,fun _=>true,fun _=>none⟩) f11 60 [.v (.fl [.q p.1,.q p.2]),.v (.fl [.q n])]=some ([p.1<aC,p.2<aC,bG p.1 p.2=true,p.1<RM,p.2<RM,1<RM,(qO (p.1,p.2,1) n).1<RM,(qO (p.1,p.2,1) n).2.1<RM,(qO (p.1,p.2,1) n).2.2<RM,(qO (p.1,p.2,1) n).2.2≠0],mL (cL p n) 0):=by kernel_rfl
theorem ZU (p:NP):bM prog (qG prog) (fun n=>⟨fun _=>sJ false true,fun _=>true,fun _=>none⟩) f16 60 [.v (.fl [.q p.1,.q p.2])]=some ([p.1<aC,p.2<aC,bG p.1 p.2=false],.one (.im (.int .i64 41))):=by kernel_rfl
theorem ZS (p:NP):bM prog (qG prog) (fun n=>⟨fun _=>sJ true true,fun _=>true,fun _=>none⟩) f16 60 [.v (.fl [.q p.1,.q p.2])]=some ([p.1<aC,p.2<aC,bG p.1 p.2=true,p.1<RM,p.2<RM,1<RM,(qO (p.1,p.2,1) lJ).1<RM,(qO (p.1,p.2,1) lJ).2.1<RM,(qO (p.1,p.2,1) lJ).2.2<RM,hU (qO (p.1,p.2,1) lJ)=true],.one (.im (.int .i64 0))):=by kernel_rfl
theorem ZT (p:NP):bM prog (qG prog) (fun n=>⟨fun _=>sJ true false,fun _=>true,fun _=>none⟩) f16 60 [.v (.fl [.q p.1,.q p.2])]=some ([p.1<aC,p.2<aC,bG p.1 p.2=true,p.1<RM,p.2<RM,1<RM,(qO (p.1,p.2,1) lJ).1<RM,(qO (p.1,p.2,1) lJ).2.1<RM,(qO (p.1,p.2,1) lJ).2.2<RM,hU (qO (p.1,p.2,1) lJ)=false],.one (.im (.int .i64 111))):=by kernel_rfl
theorem kX (p:NP) (n:Nat) (hp:w2 p) (args:List Value) (w:World) (ha:cE w [.v (.fl (q2 p)),.v (.fl (q1 n))] args):bC prog 11 (if bG p.1 p.2=true then mL (cL p n) 0 else mL (0,0) 41) args w:=by
 cases h:bG p.1 p.2
 ·exact aF aZ (fun _ _=>pK _ _) (aS _) func11 (XW p n) ⟨hp.1,hp.2,h,trivial⟩ ha
 ·have h1:=dF.1 h;have hr:=oJ (dS h1) n;exact aF aZ (fun _ _=>pK _ _) (aS _) func11 (XV p n) ⟨hp.1,hp.2,h,h1.1.1,h1.1.2,cI,hr.x,hr.y,hr.z,hr.nz,trivial⟩ ha
def gC (p:NP):Int:=if bG p.1 p.2=true then (if hU (qO (p.1,p.2,1) lJ)=true then 0 else 111)else 41
theorem qH (p:NP) (hp:w2 p) (args:List Value) (w:World) (ha:cE w [.v (.fl (q2 p))] args):bC prog 16 (.one (.im (.int .i64 (gC p)))) args w:=by
 unfold gC;cases h:bG p.1 p.2
 ·exact aF aZ (fun _ _=>pK _ _) (aS _) func16 (ZU p) ⟨hp.1,hp.2,h,trivial⟩ ha
 ·have h1:=dF.1 h;have hr:=oJ (dS h1) lJ;rw[if_pos rfl];cases h2:hU (qO (p.1,p.2,1) lJ)
  ·exact aF aZ (fun _ _=>pK _ _) (aS _) func16 (ZT p) ⟨hp.1,hp.2,h,h1.1.1,h1.1.2,cI,hr.x,hr.y,hr.z,h2,trivial⟩ ha
  ·exact aF aZ (fun _ _=>pK _ _) (aS _) func16 (ZS p) ⟨hp.1,hp.2,h,h1.1.1,h1.1.2,cI,hr.x,hr.y,hr.z,h2,trivial⟩ ha
theorem FW:wv lJ=lJ:=by kernel_rfl
theorem uA {p:NP} (h:OnJ p.1 p.2):gC p=if dC.grp.ns lJ (jp h)=dC.grp.zero then 0 else 111:=by
 unfold gC;rw[if_pos (wH h)];have hr:=oJ (dS h) lJ;rw[FW]at hr
 by_cases e:dC.grp.ns lJ (jp h)=dC.grp.zero
 ·rw[if_pos e,if_pos ((fY hr).2 e)]
 ·rw[if_neg e,if_neg fun q=>e ((fY hr).1 q)]
theorem LJ {p:NP} (h:¬OnJ p.1 p.2):gC p=41:=by
 unfold gC;rw[if_neg fun q=>h (dF.1 q)]
theorem qF:cj dC.grp.zero=(0,1):=rfl
theorem YT {a b c d:Nat} (ha:a<RM) (hb:b<RM) (hc:c<RM) (hd:d<RM):aB [At.q a,.q b]=aB [At.q c,.q d]↔a=c∧b=d:=by
 constructor
 ·intro h;have h:aB [At.q a]++aB [At.q b]=aB [At.q c]++aB [At.q d]:=h;obtain⟨h1,h2⟩:=List.append_inj h rfl;exact⟨WC ha hc h1,WC hb hd h2⟩
 ·rintro⟨rfl,rfl⟩; rfl
theorem nU (P:JP):(cj P).1<RM∧(cj P).2<RM:=⟨P.1.1.2,P.1.2.2⟩
theorem VN {P Q:JP} (h:cj P=cj Q):P=Q:=Subtype.ext (Prod.ext (Fin.ext (congrArg Prod.fst h)) (Fin.ext (congrArg Prod.snd h)))
theorem QE {P Q:JP}:aB [At.q (cj P).1,.q (cj P).2]=aB [At.q (cj Q).1,.q (cj Q).2]↔P=Q :=
 ⟨fun h=>VN (Prod.ext ((YT (nU P).1 (nU P).2 (nU Q).1 (nU Q).2).1 h).1 ((YT (nU P).1 (nU P).2 (nU Q).1 (nU Q).2).1 h).2),fun h=>by rw[h]⟩
def KB:kH
 | [.v (.im v)]=>some ([],.one (.im v))
 | _=>none
theorem SO (v:Value):bM prog (qG prog) (fun _=>⟨fun _=>T0,fun _=>true,fun _=>none⟩) f15 60 [.v (.im v)]=some ([],.one (.im v)):=by kernel_rfl
theorem VG:∀cs pre r,KB cs=some (pre,r)→aU pre→∀(args:List Value) (w:World),cE w cs args→bC prog 15 r args w:=by
 intro cs pre r hg hp args w ha;unfold KB at hg;split at hg
 ·rename_i v;cases hg;exact aF aZ (fun _ _=>sL _) (aS prog) func15 (SO v) trivial ha
 ·cases hg
def yQ (b:Bool) (p:NP):RV:=bif b then mL p 0 else mL (0,0) 41
def PO (b:Bool):kH:=g2 FN FN fun p q=>([p.1<aC,p.2<aC,q.1<aC,q.2<aC,(bG p.1 p.2&&bG q.1 q.2)=b],yQ b (cN p q))
def PK (b:Bool):kH:=g1 FN fun p=>([p.1<aC,p.2<aC,bG p.1 p.2=b],yQ b (fX p))
def KC (b:Bool):kH:=g2 FN oK fun p n=>([p.1<aC,p.2<aC,bG p.1 p.2=b],yQ b (cL p n))
def EK (b:Bool):kH:=g1 FN fun p=>([p.1<aC,p.2<aC,bG p.1 p.2=b],.one (.im (.bool b)))
def PN (c:Int):kH:=g1 FN fun p=>([p.1<aC,p.2<aC,gC p=c],.one (.im (.int .i64 c)))
theorem tC {b:Bool} {c:Bool} {p:NP} (h:c=b):(if c=true then mL p 0 else mL (0,0) 41)=yQ b p:=by
 subst h; cases c<;>rfl
theorem tW {f:FuncId} (h:∀(p q:NP),w2 p→w2 q→∀(args:List Value) (w:World),cE w [.v (.fl (q2 p)),.v (.fl (q2 q))] args→bC prog f (if (bG p.1 p.2&&bG q.1 q.2)=true then mL (cN p q) 0 else mL (0,0) 41) args w) (b:Bool):∀cs pre r,PO b cs=some (pre,r)→aU pre→∀(args:List Value) (w:World),cE w cs args→bC prog f r args w :=
 pU (op:=fun p q=>([p.1<aC,p.2<aC,q.1<aC,q.2<aC,(bG p.1 p.2&&bG q.1 q.2)=b],yQ b (cN p q))) gQ gQ fun p q hp args w ha=>by
  have:=h p q ⟨hp.1,hp.2.1⟩ ⟨hp.2.2.1,hp.2.2.2.1⟩ args w ha;rw[tC hp.2.2.2.2.1]at this;exact this
theorem tT {f:FuncId} (h:∀(p:NP),w2 p→∀(args:List Value) (w:World),cE w [.v (.fl (q2 p))] args→bC prog f (if bG p.1 p.2=true then mL (fX p) 0 else mL (0,0) 41) args w) (b:Bool):∀cs pre r,PK b cs=some (pre,r)→aU pre→∀(args:List Value) (w:World),cE w cs args→bC prog f r args w :=
 jO (op:=fun p=>([p.1<aC,p.2<aC,bG p.1 p.2=b],yQ b (fX p))) gQ fun p hp args w ha=>by
  have:=h p ⟨hp.1,hp.2.1⟩ args w ha;rw[tC hp.2.2.1]at this;exact this
theorem oP {f:FuncId} (h:∀(p:NP) (n:Nat),w2 p→∀(args:List Value) (w:World),cE w [.v (.fl (q2 p)),.v (.fl (q1 n))] args→bC prog f (if bG p.1 p.2=true then mL (cL p n) 0 else mL (0,0) 41) args w) (b:Bool):∀cs pre r,KC b cs=some (pre,r)→aU pre→∀(args:List Value) (w:World),cE w cs args→bC prog f r args w :=
 pU (op:=fun p n=>([p.1<aC,p.2<aC,bG p.1 p.2=b],yQ b (cL p n))) gQ cJ fun p n hp args w ha=>by
  have:=h p n ⟨hp.1,hp.2.1⟩ args w ha;rw[tC hp.2.2.1]at this;exact this
theorem mD {f:FuncId} (h:∀(p:NP),w2 p→∀(args:List Value) (w:World),cE w [.v (.fl (q2 p))] args→bC prog f (.one (.im (.bool (bG p.1 p.2)))) args w) (b:Bool):∀cs pre r,EK b cs=some (pre,r)→aU pre→∀(args:List Value) (w:World),cE w cs args→bC prog f r args w :=
 jO (op:=fun p=>([p.1<aC,p.2<aC,bG p.1 p.2=b],.one (.im (.bool b)))) gQ fun p hp args w ha=>by
  have:=h p ⟨hp.1,hp.2.1⟩ args w ha;rw[hp.2.2.1]at this;exact this
theorem tV {f:FuncId} (h:∀(p:NP),w2 p→∀(args:List Value) (w:World),cE w [.v (.fl (q2 p))] args→bC prog f (.one (.im (.int .i64 (gC p)))) args w) (c:Int):∀cs pre r,PN c cs=some (pre,r)→aU pre→∀(args:List Value) (w:World),cE w cs args→bC prog f r args w :=
 jO (op:=fun p=>([p.1<aC,p.2<aC,gC p=c],.one (.im (.int .i64 c)))) gQ fun p hp args w ha=>by
  have:=h p ⟨hp.1,hp.2.1⟩ args w ha;rw[hp.2.2.1]at this;exact this
def Ar (b:Bool) (c:Int):Tab:=(((((((T0.add 15 KB).add 18 (g0 (.one (.fl [.q bX,.q bY])))).add 20 (g0 (.one (.fl [.q lJ])))).add 23 (g0 (.one (.fl [.q 0,.q 1])))).add 11 (KC b)).add 16 (PN c)).add 13 (EK b))
theorem XQ (b:Bool) (c:Int):TabOk prog (Ar b c):=((((((((sL _).ad func15 VG).ad func18 (fZ nW)).ad func20 (fZ kV)).ad func23 (fZ nE)).ad func11 (oP kX b)).ad func16 (tV qH c)).ad func13 (mD mX b))
def Dm (n:Nat):Cfg:=⟨fun s=>Ar (!Nat.beq s 36) (bif Nat.beq s 13 then 111 else 0),fun _=>true,fun _=>none⟩
theorem VQ:bM prog (qG prog) Dm f22 80 []=some ([bX<aC,bY<aC,bG bX bY=true,0<aC,mY<aC,gC (0,mY)=111,bX<aC,bY<aC,gC (bX,bY)=0,aB [At.q (cL (bX,bY) lJ).1,.q (cL (bX,bY) lJ).2]=aB [At.q 0,.q 1],1<aC,1<aC,bG 1 1=false],.one (.im (.bool true))):=by kernel_rfl
theorem Dk:gC (0,mY)=111:=by
 rw[uA (p:=(0,mY)) OY,if_neg XY]
theorem Dl:gC (bX,bY)=0:=by
 rw[uA (p:=(bX,bY)) uD];exact if_pos RX
theorem Di:cL (bX,bY) lJ=(0,1):=by
 rw[oN (p:=(bX,bY)) uD,FW];exact (congrArg cj RX).trans qF
theorem Dj:bG 1 1=false:=by kernel_rfl
theorem xN (w:World):bC prog 22 (.one (.im (.bool true))) [] w :=
 aF aZ (fun _ _=>XQ _ _) (aS _) func22 VQ ⟨(OnJ.w uD).1,(OnJ.w uD).2,wH uD,by decide,(OnJ.w OY).2,Dk,(OnJ.w uD).1,(OnJ.w uD).2,Dl,by rw[Di],by decide,by decide,Dj,trivial⟩ (args:=[]) trivial
theorem qY (P Q:JP):cN (cj P) (cj Q)=cj (dC.grp.add P Q):=by
 rw[QN (lG P) (lG Q),BR,BR]
theorem Ca (P:JP):fX (cj P)=cj (dC.grp.neg P):=by
 rw[OR (lG P),BR]
theorem Cc (P:JP) (n:Nat):cL (cj P) n=cj (dC.grp.ns (wv n) P):=by
 rw[oN (lG P),BR]
theorem fQ (P:JP):(cj P).1<aC∧(cj P).2<aC:=(lG P).w
theorem FO (P:JP):bG (cj P).1 (cj P).2=true:=wH (lG P)
theorem VM (P Q:JP):(bG (cj P).1 (cj P).2&&bG (cj Q).1 (cj Q).2)=true:=by rw[FO,FO]; rfl
theorem CH {p:NP} (h:OnJ p.1 p.2):∃P,p=cj P:=⟨jp h,(ZR h).symm⟩
end Go.Proofs.Ytjeplinbleofnaa.Ex
namespace Go.Proofs.Ytjeplinbleofnaa
open Go.Proofs.Try
open Go.RowKit
def gV (a0 a1 a2 a3 a4 a5 a6 a7:Nat):Nat:=a0+4294967296*(a1+4294967296*(a2+4294967296*(a3+4294967296*(a4+4294967296*(a5+4294967296*(a6+4294967296*a7))))))
def DS (a0 a1 a2 a3 a4 a5 a6 a7:Nat):Prop:=a0<4294967296∧a1<4294967296∧a2<4294967296∧a3<4294967296∧a4<4294967296∧a5<4294967296∧a6<4294967296∧a7<4294967296
theorem dO {a:Nat} (ha:a<18446744073709551616):∃l h:Nat,bits .and .u64 (a:Int) 4294967295=(l:Int)∧(a:Int)/4294967296=(h:Int)∧l<4294967296∧h<4294967296∧Hid (l+4294967296*h=a):=by
 obtain⟨h,l,e1,e2,h1,h2,e⟩:=PZ ha;exact⟨l,h,e2,e1,h2,h1,Lib.hid (by omega)⟩
def qN (A:Nat) (w:World) (e:Ending) (w':World):Prop :=
 ∃h0 h1 h2 h3 h4 h5 h6 h7:Nat,e=.returned (.agg #[.int .u64 h0,.int .u64 h1,.int .u64 h2,.int .u64 h3,.int .u64 h4,.int .u64 h5,.int .u64 h6,.int .u64 h7])∧DS h0 h1 h2 h3 h4 h5 h6 h7∧Hid (gV h0 h1 h2 h3 h4 h5 h6 h7=A)∧Below w.heap.size w w'
set_option maxHeartbeats 1000000 in
theorem iO (a0 a1 a2 a3:Nat) (ha:bH a0 a1 a2 a3) (w:World) :
  Calls prog 113 #[.agg #[.int .u64 a0,.int .u64 a1,.int .u64 a2,.int .u64 a3]] w (qN (aA a0 a1 a2 a3) w):=by
 obtain⟨h0,h1,d0,d1,b0,b1,e0⟩:=dO ha.1;obtain⟨h2,h3,d2,d3,b2,b3,e1⟩:=dO ha.2.1;obtain⟨h4,h5,d4,d5,b4,b5,e2⟩:=dO ha.2.2.1;obtain⟨h6,h7,d6,d7,b6,b7,e3⟩:=dO ha.2.2.2
 go_enter func113,ntmps113
 go_wp2_with fail;refine wp_loop_rounds 5 ?_;rw[rounds_succ];go_wp2_with fail;rw[rounds_succ];go_wp2_with fail;rw[rounds_succ];go_wp2_with fail;rw[rounds_succ];go_wp2_with fail;rw[rounds_succ];go_wp2_with fail;refine bodyPost_ret (v:=.agg #[.int .u64 h0,.int .u64 h1,.int .u64 h2,.int .u64 h3,.int .u64 h4,.int .u64 h5,.int .u64 h6,.int .u64 h7]) (by simp[results,results113,go_sem]) rfl ?_;refine⟨h0,h1,h2,h3,h4,h5,h6,h7,rfl,⟨b0,b1,b2,b3,b4,b5,b6,b7⟩,?_,?_⟩
 ·have:=e0.out; have:=e1.out; have:=e2.out; have:=e3.out;exact Lib.hid (by unfold aA gV; omega)
 repeat (first|exact Below.refl _ _|refine Below.drew ?_|refine Below.alloc ?_ (by first|(simp; done)|(simp; omega)) _)
theorem mE {l h:Nat} (hl:l<4294967296) (hh:h<4294967296):∃u s:Nat,(h:Int)*4294967296=(u:Int)∧bits .or .u64 (l:Int) (u:Int)=(s:Int)∧u<18446744073709551616∧s<18446744073709551616∧Hid (s=l+4294967296*h):=by
 obtain⟨s,e,hs,f⟩:=lF (k:=32) (lo:=l) (up:=h*4294967296) (by omega) (by omega) (Lib.hid (by omega)) (Lib.hid ⟨h,by omega⟩);have:=f.out;exact⟨h*4294967296,s,by omega,e,by omega,hs,Lib.hid (by omega)⟩
set_option maxHeartbeats 1000000 in
theorem kZ (h0 h1 h2 h3 h4 h5 h6 h7:Nat) (hh:DS h0 h1 h2 h3 h4 h5 h6 h7) (g o c:Nat) (w:World)
  (c0:w.cell? ⟨g,o,none⟩=some (.int .u64 h0)) (c1:w.cell? ⟨g,o+1,none⟩=some (.int .u64 h1)) (c2:w.cell? ⟨g,o+2,none⟩=some (.int .u64 h2)) (c3:w.cell? ⟨g,o+3,none⟩=some (.int .u64 h3))
  (c4:w.cell? ⟨g,o+4,none⟩=some (.int .u64 h4)) (c5:w.cell? ⟨g,o+5,none⟩=some (.int .u64 h5)) (c6:w.cell? ⟨g,o+6,none⟩=some (.int .u64 h6)) (c7:w.cell? ⟨g,o+7,none⟩=some (.int .u64 h7)) (hg:g<w.heap.size) :
  Calls prog 48 #[.slice (some ⟨g,o,none⟩) 8 c] w (fD (fun v=>v=gV h0 h1 h2 h3 h4 h5 h6 h7) w):=by
 obtain⟨k0,k1,k2,k3,k4,k5,k6,k7⟩:=hh;obtain⟨u0,s0,p0,q0,a0,b0,e0⟩:=mE k0 k1;obtain⟨u1,s1,p1,q1,a1,b1,e1⟩:=mE k2 k3;obtain⟨u2,s2,p2,q2,a2,b2,e2⟩:=mE k4 k5;obtain⟨u3,s3,p3,q3,a3,b3,e3⟩:=mE k6 k7
 go_enter func48,ntmps48
 go_wp2_with fail;refine wp_loop_rounds 5 ?_;rw[rounds_succ];go_wp2_with fail
 go_region
 go_wp2_with fail;rw[rounds_succ];go_wp2_with fail
 go_region
 go_wp2_with fail;rw[rounds_succ];go_wp2_with fail
 go_region
 go_wp2_with fail;rw[rounds_succ];go_wp2_with fail
 go_region
 go_wp2_with fail;rw[rounds_succ];go_wp2_with fail;refine bodyPost_ret (v:=.agg #[.int .u64 s0,.int .u64 s1,.int .u64 s2,.int .u64 s3]) (by simp[results,results48,go_sem]) rfl ?_;refine⟨s0,s1,s2,s3,rfl,⟨b0,b1,b2,b3⟩,?_,?_⟩
 ·have:=e0.out; have:=e1.out; have:=e2.out; have:=e3.out;unfold aA gV; omega
 repeat (first|exact Below.refl _ _|refine Below.drew ?_|refine Below.alloc ?_ (by first|(simp; done)|(simp; omega)) _)
section
variable {P:Program} {ops:Array Oper} {Q:Exit→Act→World→Prop} {md:Region.Mode}
def RU (md:Region.Mode) (ops:Array Oper) (n:Nat):Bool :=
 (List.range n).all fun i=>match ops[i]? with
  | some o=>o.after.all fun e => !Region.binds md e||decide (e.on<i)
  | none=>false
def kS (md:Region.Mode) (ops:Array Oper) (got:Nat→Bool) (i:Nat):Bool :=
 match ops[i]? with
  | some o=>o.after.all fun e => !Region.binds md e||got e.on
  | none=>false
def eN (listed:Array Bool):Nat→Nat
 | 0=>0
 | n+1=>eN listed n+if listed.getD n false=true then 0 else 1
theorem gI (listed:Array Bool) (n:Nat):eN listed (n+1)=eN listed n+if listed.getD n false=true then 0 else 1:=rfl
theorem oU {listed:Array Bool} {i:Nat} (hi:i<listed.size) (h:listed.getD i false=false):∀n,eN (listed.setIfInBounds i true) n+(if i<n then 1 else 0)=eN listed n
 | 0=>by simp[eN]
 | n+1=>by
  have ih:=oU hi h n;rw[gI,gI]
  by_cases e:i=n
  ·subst e;have h1:(listed.setIfInBounds i true).getD i false=true:=by simp[hi]
   rw[h1,h];simp at ih ⊢;omega
  ·rw[getD_set_ne false e]
   by_cases h2:i<n
   ·rw[if_pos h2]at ih; rw[if_pos (show i<n+1 by omega)]; omega
   ·rw[if_neg h2]at ih; rw[if_neg (show ¬i<n+1 by omega)]; omega
theorem jB {listed:Array Bool}:∀{n:Nat},eN listed n=0→∀j,j<n→listed.getD j false=true
 | 0,_,j,hj=>by omega
 | n+1,h,j,hj=>by
  rw[gI]at h
  by_cases e:listed.getD n false=true
  ·rw[if_pos e]at h
   rcases Nat.lt_or_ge j n with h1|h1
   ·exact jB (by omega) j h1
   ·obtain rfl:j=n:=by omega
    exact e
  ·rw[if_neg e]at h; omega
theorem jC {listed:Array Bool}:∀{n:Nat},0<eN listed n→∃j,j<n∧listed.getD j false=false∧∀k,k<j→listed.getD k false=true
 | 0,h=>by unfold eN at h; omega
 | n+1,h=>by
  rcases Nat.eq_zero_or_pos (eN listed n)with h0|h0
  ·unfold eN at h;rw[h0]at h;refine⟨n,by omega,?_,jB h0⟩;cases e:listed.getD n false with
   | true=>rw[e]at h; simp at h
   | false=>rfl
  ·obtain⟨j,hj,h1,h2⟩:=jC h0;exact⟨j,by omega,h1,h2⟩
def hZ (n m:Nat):Array Bool:=Array.replicate n true++Array.replicate (m-n) false
theorem lM {n:Nat} {Inv:(Nat→Bool)→Act→World→Prop} {l:List Oper} (hl:ops=l.toArray) (hn:n<ops.size)
  (hs:Region.sinkB md ops n=true) (hc:Region.chainB md ops n=true) (hb:RU md ops n=true) (hq:Region.seqB md ops (ops.size-n) n (hZ n ops.size)=true)
  (step:∀(got:Nat→Bool) b u i,i<n→got i=false→kS md ops got i=true→Inv got b u→wpOp P ops Q i (Inv (fun j=>j==i||got j)) b u)
  (tail:∀got b u,(∀j,j<n→got j=true)→Inv got b u→wpList P ops Q (l.drop n) b u) :
  ∀(m:Nat) (listed:Array Bool) (b:Act) (u:World),HeadInv md ops n listed→eN listed n=m→Inv (fun j=>listed.getD j false) b u→wpAny P md ops Q (m+(ops.size-n)) listed b u
 | 0,listed,b,u,inv,hm,h=>by
  have hall:=jB hm;have he:listed=hZ n ops.size:=by
   refine Array.ext (by simp[hZ,inv.size]; omega) fun j h1 h2 => ?_
   rcases Nat.lt_or_ge j n with hj|hj
   ·have:=hall j hj;simp[h1]at this;rw[this];simp[hZ,hj]
   ·have:=inv.tail j hj (by rw[←inv.size]; exact h1);simp[h1]at this;rw[this];simp[hZ,hj]
  subst he;have hlen:(l.drop n).length=ops.size-n:=by subst hl; simp
  rw[Nat.zero_add,←hlen];exact wpAny_of_seq (l.drop n) n _ b u (fun j=>by subst hl; simp[List.getElem?_drop]) (by rw[hlen]; exact hq) (tail _ b u hall h)
 | m+1,listed,b,u,inv,hm,h=>by
  rw[show m+1+(ops.size-n)=m+(ops.size-n)+1 by omega];refine⟨fun h0 => ?_,fun i hi => ?_⟩
  ·obtain⟨j,hj,h1,h2⟩:=jC (n:=n) (listed:=listed) (by omega);have hjr:j∈Region.ready md ops listed:=by
    have hbj:=List.all_eq_true.1 hb j (List.mem_range.2 hj);cases ho:ops[j]? with
    | none=>rw[ho]at hbj; cases hbj
    | some o =>
     rw[ho]at hbj;refine mem_ready.2 ⟨getD_in (by rw[inv.size]; omega) h1,o,ho,fun e he hbi=>h2 _ ?_⟩;have:=(Array.all_eq_true_iff_forall_mem.1 hbj) e he;simp[hbi]at this;exact this
   rw[h0]at hjr; cases hjr
  ·obtain⟨hun,o,ho,hall⟩:=mem_ready.1 hi;have hin:i<n:=by
    rcases Nat.lt_or_ge i n with h'|h'
    ·exact h'
    ·obtain⟨j,hj,h1,h2⟩:=jC (n:=n) (listed:=listed) (by omega);exact absurd hi (tail_waits hs hc hn inv _ j rfl hj (getD_in (by rw[inv.size]; omega) h1) i h')
   have his:i<listed.size:=by rw[inv.size]; omega
   have hun':=getD_both hun;refine wpOp_mono (fun b' u' h' => ?_) (step _ b u i hin hun' (by
    unfold kS;rw[ho];refine Array.all_eq_true_iff_forall_mem.2 fun e he => ?_
    cases hbi:Region.binds md e with
    | false=>rfl
    | true=>simpa[hbi]using hall e he hbi) h)
   refine lM hl hn hs hc hb hq step tail m _ b' u' (inv.set hi hin) ?_ ?_
   ·have:=oU his hun' n;rw[if_pos hin]at this; omega
   ·have hf:(fun j=>(listed.setIfInBounds i true).getD j false)=fun j=>j==i||listed.getD j false:=by
     funext j
     by_cases e:j=i
     ·subst e; simp[his]
     ·rw[getD_set_ne false (Ne.symm e)]; simp[e]
    rw[hf]; exact h'
theorem oV (k:Nat):∀n,eN (Array.replicate k false) n=n
 | 0=>rfl
 | n+1=>by rw[gI,oV k n,getD_replicate_false]; simp
theorem jH (n:Nat) (Inv:(Nat→Bool)→Act→World→Prop) {id:Nat} {a:Act} {w:World} {l:List Oper} (hm:P.follows .mixedOrders=true) (hn:n<l.length)
  (hs:Region.sinkB .any l.toArray n=true) (hc:Region.chainB .any l.toArray n=true) (hb:RU .any l.toArray n=true) (hq:Region.seqB .any l.toArray (l.toArray.size-n) n (hZ n l.toArray.size)=true)
  (start:Inv (fun _=>false) a w.drew)
  (step:∀(got:Nat→Bool) b u i,i<n→got i=false→kS .any l.toArray got i=true→Inv got b u→wpOp P l.toArray Q i (Inv (fun j=>j==i||got j)) b u)
  (tail:∀got b u,(∀j,j<n→got j=true)→Inv got b u→wpList P l.toArray Q (l.drop n) b u):(Code.region id l.toArray true).wp P Q a w:=by
 have hn':n<l.toArray.size:=by simpa using hn
 have inv0:HeadInv .any l.toArray n (Array.replicate l.toArray.size false) :=
  ⟨by simp,fun j oj _ hl=>(by rw[getD_replicate_false]at hl; cases hl),fun t _ ht=>getD_in (by simpa using ht) (getD_replicate_false _ _)⟩
 refine wp_region_any hm ?_;have hf:(fun j=>(Array.replicate l.toArray.size false).getD j false)=fun _:Nat=>false:=by funext j; exact getD_replicate_false _ _
 have H:=lM (md:=.any) rfl hn' hs hc hb hq step tail n _ a w.drew inv0 (oV _ n) (by rw[hf]; exact start);rw[show n+(l.toArray.size-n)=l.toArray.size by omega]at H;exact H
end
structure QW (w wr:World) (A B P:Nat→Nat):Prop where
 below:Below w.heap.size w wr
 size:w.heap.size+1+1+1<wr.heap.size
 rowA:RowIs wr w.heap.size 4 A
 rowB:RowIs wr (w.heap.size+1) 4 B
 rowR:RowIs wr (w.heap.size+1+1) 4 (fun _=>0)
 rowP:RowIs wr (w.heap.size+1+1+1) 4 P
theorem QW.set {w wr:World} {A B P:Nat→Nat} (h:QW w wr A B P) {k d:Nat} (hk:k<4):QW w (wr.setCell ⟨w.heap.size+1+1+1,k,none⟩ (.int .u64 (d:Nat))) A B (cH P k d) :=
 ⟨h.below.setCell (p:=⟨w.heap.size+1+1+1,k,none⟩) (by simp; omega) _,by rw[World.size_setCell]; exact h.size,h.rowA.other (by omega) _,h.rowB.other (by omega) _,h.rowR.other (by omega) _,h.rowP.set hk⟩
theorem QW.drewN {w wr:World} {A B P:Nat→Nat} (h:QW w wr A B P) (n:Nat):QW w (wr.drewN n) A B P:=⟨h.below.trans (aP _ _ _),h.size,h.rowA,h.rowB,h.rowR,h.rowP⟩
theorem QW.start (w:World) (a0 a1 a2 a3 b0 b1 b2 b3:Nat) (t:TypeId):QW w ((((w.alloc (.cells #[.int .u64 a0,.int .u64 a1,.int .u64 a2,.int .u64 a3] t)).alloc (.cells #[.int .u64 b0,.int .u64 b1,.int .u64 b2,.int .u64 b3] t)).alloc (.cells #[.int .u64 0,.int .u64 0,.int .u64 0,.int .u64 0] t)).alloc (.cells #[.int .u64 0,.int .u64 0,.int .u64 0,.int .u64 0] t)) (bV [a0,a1,a2,a3]) (bV [b0,b1,b2,b3]) (fun _=>0):=by
 refine⟨?_,by simp,?_,?_,?_,?_⟩
 ·repeat (first|exact Below.refl _ _|refine Below.alloc ?_ (by first|(simp; done)|(simp; omega)) _)
 ·exact RowIs.mk4 (by simp[go_sem]) (by simp[go_sem]) (by simp[go_sem]) (by simp[go_sem]) (fun k=>by simp[go_sem])
 ·exact RowIs.mk4 (by simp[go_sem]) (by simp[go_sem]) (by simp[go_sem]) (by simp[go_sem]) (fun k=>by simp[go_sem])
 ·intro k hk
  match k,hk with
  | 0,_|1,_|2,_|3,_=>exact⟨by simp[go_sem],by simp[go_sem]⟩
 ·intro k hk
  match k,hk with
  | 0,_|1,_|2,_|3,_=>exact⟨by simp[go_sem],by simp[go_sem]⟩
theorem mW {A B P:Nat→Nat} {k c t d:Nat} (h:bO 18446744073709551616 P k+c*18446744073709551616^k=bO 18446744073709551616 A k+bO 18446744073709551616 B k) (e:t+18446744073709551616*d=A k+B k+c):bO 18446744073709551616 (cH P k t) (k+1)+d*18446744073709551616^(k+1)=bO 18446744073709551616 A (k+1)+bO 18446744073709551616 B (k+1):=by
 rw[aX,aX,aX,cU 18446744073709551616 P k t k (Nat.le_refl _),Nat.pow_succ];have hu:cH P k t k=t:=by unfold cH; rw[if_pos rfl]
 rw[hu];have e':t*18446744073709551616^k+d*(18446744073709551616^k*18446744073709551616)=A k*18446744073709551616^k+B k*18446744073709551616^k+c*18446744073709551616^k:=by
  rw[←Nat.add_mul,←Nat.add_mul,←e,Nat.add_mul];congr 1;rw[Nat.mul_comm (18446744073709551616^k) 18446744073709551616,←Nat.mul_assoc,Nat.mul_comm d 18446744073709551616]
 omega
theorem iM {A B P:Nat→Nat} {k c t d:Nat} (h:bO 18446744073709551616 P k+bO 18446744073709551616 B k=bO 18446744073709551616 A k+c*18446744073709551616^k) (e:t+B k+c=A k+18446744073709551616*d):bO 18446744073709551616 (cH P k t) (k+1)+bO 18446744073709551616 B (k+1)=bO 18446744073709551616 A (k+1)+d*18446744073709551616^(k+1):=by
 rw[aX,aX,aX,cU 18446744073709551616 P k t k (Nat.le_refl _),Nat.pow_succ];have hu:cH P k t k=t:=by unfold cH; rw[if_pos rfl]
 rw[hu];have e':t*18446744073709551616^k+B k*18446744073709551616^k+c*18446744073709551616^k=A k*18446744073709551616^k+d*(18446744073709551616^k*18446744073709551616):=by
  rw[←Nat.add_mul,←Nat.add_mul,e,Nat.add_mul];congr 1;rw[Nat.mul_comm (18446744073709551616^k) 18446744073709551616,←Nat.mul_assoc,Nat.mul_comm d 18446744073709551616]
 omega
theorem ME (l:List Nat) (a0 a1 a2 a3:Nat) (h:l=[a0,a1,a2,a3]):bO 18446744073709551616 (bV l) 4=aA a0 a1 a2 a3:=by subst h; rw[←jA]; rfl
theorem nV {B:Nat} {w w':World} {b:Nat} (h:Below B w w') (hb:B≤b) (d0 d1 d2 d3:Value):Below B w ((((w'.setCell ⟨b,0,none⟩ d0).setCell ⟨b,1,none⟩ d1).setCell ⟨b,2,none⟩ d2).setCell ⟨b,3,none⟩ d3) :=
 (((h.setCell (p:=⟨b,0,none⟩) hb _).setCell (p:=⟨b,1,none⟩) hb _).setCell (p:=⟨b,2,none⟩) hb _).setCell (p:=⟨b,3,none⟩) hb _
set_option maxHeartbeats 2000000 in
theorem eS (a0 a1 a2 a3 b0 b1 b2 b3:Nat) (ha:bH a0 a1 a2 a3) (hb:bH b0 b1 b2 b3) (w:World) :
  Calls prog 97 #[.agg #[.int .u64 a0,.int .u64 a1,.int .u64 a2,.int .u64 a3],.agg #[.int .u64 b0,.int .u64 b1,.int .u64 b2,.int .u64 b3]] w (CP (aA a0 a1 a2 a3) (aA b0 b1 b2 b3) w):=by
 have hAl:=jQ ha;have hBl:=jQ hb;have HTA:=Lib.hid (ME [a0,a1,a2,a3] a0 a1 a2 a3 rfl);have HTB:=Lib.hid (ME [b0,b1,b2,b3] b0 b1 b2 b3 rfl);have HQ:=Lib.hid (QW.start w a0 a1 a2 a3 b0 b1 b2 b3 27);generalize bV [a0,a1,a2,a3]=A at *;generalize bV [b0,b1,b2,b3]=B at *;have HAl:=Lib.hid hAl; have HBl:=Lib.hid hBl;clear hAl hBl
 go_enter func97,ntmps97
 go_wp2_with fail
 go_loopw [7,8] (fun cv i wr=>∃(k c:Nat) (P:Nat→Nat),k≤4∧c≤1∧i=.int .i64 k∧cv=.int .u64 c∧QW w wr A B P∧Hid ((∀j,P j<18446744073709551616)∧bO 18446744073709551616 P k+c*18446744073709551616^k=bO 18446744073709551616 A k+bO 18446744073709551616 B k)) (fun _ i _=>4-(intOf i).toNat)
 case atStart=>exact⟨0,0,fun _=>0,by omega,by omega,rfl,rfl,HQ.out,Lib.hid ⟨fun _=>by show 0<_; omega,by simp[bO]⟩⟩
 case round =>
  obtain⟨k,c,P,hk,hc,rfl,rfl,m,mo⟩:=hrel
  by_cases hlt:k<4
  ·have ca:=m.rowA.cell hlt;have cb:=m.rowB.cell hlt;have cp:=m.rowP.cell hlt;have fp:=m.rowP.free hlt;have bA:=HAl.out k;have bB:=HBl.out k;have M:=Lib.hid m;clear m;obtain⟨s,es,bs,hs⟩:∃s:Nat,IntKind.u64.wrap ((A k:Int)+(B k:Int))=(s:Int)∧s<18446744073709551616∧Hid (s=(A k+B k)%18446744073709551616):=⟨(A k+B k)%18446744073709551616,by rw[←Int.natCast_add]; exact iB _,by omega,Lib.hid rfl⟩
   obtain⟨t,et,bt,ht⟩:∃t:Nat,IntKind.u64.wrap ((s:Int)+(c:Int))=(t:Int)∧t<18446744073709551616∧Hid (t=(s+c)%18446744073709551616):=⟨(s+c)%18446744073709551616,by rw[←Int.natCast_add]; exact iB _,by omega,Lib.hid rfl⟩
   by_cases h1:s<A k
   ·have t1:decide (s<A k)=true:=decide_eq_true (by omega);have hn:¬t<s:=by have:=hs.out; have:=ht.out; omega
    have t2:decide (t<s)=false:=decide_eq_false (by omega);have HE:=Lib.hid (show t+18446744073709551616*1=A k+B k+c by have:=hs.out; have:=ht.out; omega);clear h1 hn hs ht;go_wp2_with fail
    go_quiet (fail)
    go_wp2_with fail
    go_roundw
    case rel=>exact⟨k+1,1,cH P k t,by omega,by omega,by go_num,rfl,(M.out.drewN _).set hlt,Lib.hid ⟨fun j=>by unfold cH; split; exact bt; exact mo.out.1 j,mW mo.out.2 HE.out⟩⟩
    case measure=>simp[intOf]; omega
   ·have t1:decide (s<A k)=false:=decide_eq_false (by omega)
    by_cases h2:t<s
    ·have t2:decide (t<s)=true:=decide_eq_true (by omega);have HE:=Lib.hid (show t+18446744073709551616*1=A k+B k+c by have:=hs.out; have:=ht.out; omega);clear h1 h2 hs ht;go_wp2_with fail
     go_quiet (fail)
     go_wp2_with fail
     go_roundw
     case rel=>exact⟨k+1,1,cH P k t,by omega,by omega,by go_num,rfl,(M.out.drewN _).set hlt,Lib.hid ⟨fun j=>by unfold cH; split; exact bt; exact mo.out.1 j,mW mo.out.2 HE.out⟩⟩
     case measure=>simp[intOf]; omega
    ·have t2:decide (t<s)=false:=decide_eq_false (by omega);have HE:=Lib.hid (show t+18446744073709551616*0=A k+B k+c by have:=hs.out; have:=ht.out; omega);clear h1 h2 hs ht;go_wp2_with fail
     go_quiet (fail)
     go_wp2_with fail
     go_roundw
     case rel=>exact⟨k+1,0,cH P k t,by omega,by omega,by go_num,rfl,(M.out.drewN _).set hlt,Lib.hid ⟨fun j=>by unfold cH; split; exact bt; exact mo.out.1 j,mW mo.out.2 HE.out⟩⟩
     case measure=>simp[intOf]; omega
  ·obtain rfl:k=4:=by omega
   have c0:=m.rowP.cell (show 0<4 by omega); have c1:=m.rowP.cell (show 1<4 by omega); have c2:=m.rowP.cell (show 2<4 by omega); have c3:=m.rowP.cell (show 3<4 by omega);have r0:=m.rowR.cell (show 0<4 by omega); have r1:=m.rowR.cell (show 1<4 by omega); have r2:=m.rowR.cell (show 2<4 by omega); have r3:=m.rowR.cell (show 3<4 by omega);have s0:=m.rowR.free (show 0<4 by omega); have s1:=m.rowR.free (show 1<4 by omega); have s2:=m.rowR.free (show 2<4 by omega); have s3:=m.rowR.free (show 3<4 by omega);have hz:=m.size;have HB:=Lib.hid m.below;clear m;go_wp2_with fail;refine bodyPost_ret (v:=.tuple #[.agg #[.int .u64 (P 0:Nat),.int .u64 (P 1:Nat),.int .u64 (P 2:Nat),.int .u64 (P 3:Nat)],.int .u64 (c:Nat)]) (by simp[results,results97,go_sem, *]) rfl ?_;refine⟨P 0,P 1,P 2,P 3,c,rfl,⟨mo.out.1 0,mo.out.1 1,mo.out.1 2,mo.out.1 3⟩,hc,?_,nV HB.out (by omega) _ _ _ _⟩;have h:=mo.out.2;rw[HTA.out,HTB.out,←jA P,show (18446744073709551616:Nat)^4=115792089237316195423570985008687907853269984665640564039457584007913129639936 by rfl]at h;omega
set_option maxHeartbeats 2000000 in
theorem dL (a0 a1 a2 a3 b0 b1 b2 b3:Nat) (ha:bH a0 a1 a2 a3) (hb:bH b0 b1 b2 b3) (w:World) :
  Calls prog 91 #[.agg #[.int .u64 a0,.int .u64 a1,.int .u64 a2,.int .u64 a3],.agg #[.int .u64 b0,.int .u64 b1,.int .u64 b2,.int .u64 b3]] w (CM (aA a0 a1 a2 a3) (aA b0 b1 b2 b3) w):=by
 have hAl:=jQ ha;have hBl:=jQ hb;have HTA:=Lib.hid (ME [a0,a1,a2,a3] a0 a1 a2 a3 rfl);have HTB:=Lib.hid (ME [b0,b1,b2,b3] b0 b1 b2 b3 rfl);have HQ:=Lib.hid (QW.start w a0 a1 a2 a3 b0 b1 b2 b3 27);generalize bV [a0,a1,a2,a3]=A at *;generalize bV [b0,b1,b2,b3]=B at *;have HAl:=Lib.hid hAl; have HBl:=Lib.hid hBl;clear hAl hBl
 go_enter func91,ntmps91
 go_wp2_with fail
 go_loopw [7,8] (fun cv i wr=>∃(k c:Nat) (P:Nat→Nat),k≤4∧c≤1∧i=.int .i64 k∧cv=.int .u64 c∧QW w wr A B P∧Hid ((∀j,P j<18446744073709551616)∧bO 18446744073709551616 P k+bO 18446744073709551616 B k=bO 18446744073709551616 A k+c*18446744073709551616^k)) (fun _ i _=>4-(intOf i).toNat)
 case atStart=>exact⟨0,0,fun _=>0,by omega,by omega,rfl,rfl,HQ.out,Lib.hid ⟨fun _=>by show 0<_; omega,by simp[bO]⟩⟩
 case round =>
  obtain⟨k,c,P,hk,hc,rfl,rfl,m,mo⟩:=hrel
  by_cases hlt:k<4
  ·have ca:=m.rowA.cell hlt;have cb:=m.rowB.cell hlt;have cp:=m.rowP.cell hlt;have fp:=m.rowP.free hlt;have bA:=HAl.out k;have bB:=HBl.out k;have M:=Lib.hid m;clear m;obtain⟨s,es,bs,hs⟩:∃s:Nat,IntKind.u64.wrap ((A k:Int)-(B k:Int))=(s:Int)∧s<18446744073709551616∧Hid (s=(A k+18446744073709551616-B k)%18446744073709551616):=⟨(A k+18446744073709551616-B k)%18446744073709551616,by rw[IntKind.wrap_u64]; omega,by omega,Lib.hid rfl⟩
   obtain⟨t,et,bt,ht⟩:∃t:Nat,IntKind.u64.wrap ((s:Int)-(c:Int))=(t:Int)∧t<18446744073709551616∧Hid (t=(s+18446744073709551616-c)%18446744073709551616):=⟨(s+18446744073709551616-c)%18446744073709551616,by rw[IntKind.wrap_u64]; omega,by omega,Lib.hid rfl⟩
   have hs':=hs.out;have ht':=ht.out;clear hs ht
   by_cases h1:A k<B k
   ·have t1:decide (A k<B k)=true:=decide_eq_true h1;have HE:=Lib.hid (show t+B k+c=A k+18446744073709551616*1 by omega);clear h1 hs' ht';go_wp2_with fail
    go_quiet (fail)
    go_wp2_with fail
    go_region
    go_wp2_with fail
    go_roundw
    case rel=>exact⟨k+1,1,cH P k t,by omega,by omega,by go_num,rfl,(M.out.drewN _).set hlt,Lib.hid ⟨fun j=>by unfold cH; split; exact bt; exact mo.out.1 j,iM mo.out.2 HE.out⟩⟩
    case measure=>simp[intOf]; omega
   ·have t1:decide (A k<B k)=false:=decide_eq_false h1
    by_cases h2:A k=B k
    ·have t2:((A k:Int)==(B k:Int))=true:=by simp; omega
     rcases (show c=0∨c=1 by omega)with rfl|rfl
     ·obtain rfl:s=t:=by omega
      clear et;have HE:=Lib.hid (show s+B k+0=A k+18446744073709551616*0 by omega);clear h1 h2 hs' ht';go_wp2_with fail
      go_quiet (fail)
      go_wp2_with fail
      go_region
      go_wp2_with fail
      go_roundw
      case rel=>exact⟨k+1,0,cH P k s,by omega,by omega,by go_num,rfl,(M.out.drewN _).set hlt,Lib.hid ⟨fun j=>by unfold cH; split; exact bs; exact mo.out.1 j,iM mo.out.2 HE.out⟩⟩
      case measure=>simp[intOf]; omega
     ·have et2:IntKind.u64.wrap ((s:Int)-1)=(t:Int):=et;clear et;have HE:=Lib.hid (show t+B k+1=A k+18446744073709551616*1 by omega);clear h1 h2 hs' ht';go_wp2_with fail
      go_quiet (fail)
      go_wp2_with fail
      go_region
      go_wp2_with fail
      go_roundw
      case rel=>exact⟨k+1,1,cH P k t,by omega,by omega,by go_num,rfl,(M.out.drewN _).set hlt,Lib.hid ⟨fun j=>by unfold cH; split; exact bt; exact mo.out.1 j,iM mo.out.2 HE.out⟩⟩
      case measure=>simp[intOf]; omega
    ·have t2:((A k:Int)==(B k:Int))=false:=by simp; omega
     have HE:=Lib.hid (show t+B k+c=A k+18446744073709551616*0 by omega);clear h1 h2 hs' ht';go_wp2_with fail
     go_quiet (fail)
     go_wp2_with fail
     go_region
     go_wp2_with fail
     go_roundw
     case rel=>exact⟨k+1,0,cH P k t,by omega,by omega,by go_num,rfl,(M.out.drewN _).set hlt,Lib.hid ⟨fun j=>by unfold cH; split; exact bt; exact mo.out.1 j,iM mo.out.2 HE.out⟩⟩
     case measure=>simp[intOf]; omega
  ·obtain rfl:k=4:=by omega
   have c0:=m.rowP.cell (show 0<4 by omega); have c1:=m.rowP.cell (show 1<4 by omega); have c2:=m.rowP.cell (show 2<4 by omega); have c3:=m.rowP.cell (show 3<4 by omega);have r0:=m.rowR.cell (show 0<4 by omega); have r1:=m.rowR.cell (show 1<4 by omega); have r2:=m.rowR.cell (show 2<4 by omega); have r3:=m.rowR.cell (show 3<4 by omega);have s0:=m.rowR.free (show 0<4 by omega); have s1:=m.rowR.free (show 1<4 by omega); have s2:=m.rowR.free (show 2<4 by omega); have s3:=m.rowR.free (show 3<4 by omega);have hz:=m.size;have HB:=Lib.hid m.below;clear m;go_wp2_with fail;refine bodyPost_ret (v:=.tuple #[.agg #[.int .u64 (P 0:Nat),.int .u64 (P 1:Nat),.int .u64 (P 2:Nat),.int .u64 (P 3:Nat)],.int .u64 (c:Nat)]) (by simp[results,results91,go_sem, *]) rfl ?_;refine⟨P 0,P 1,P 2,P 3,c,rfl,⟨mo.out.1 0,mo.out.1 1,mo.out.1 2,mo.out.1 3⟩,hc,?_,nV HB.out (by omega) _ _ _ _⟩;have h:=mo.out.2;rw[HTA.out,HTB.out,←jA P,show (18446744073709551616:Nat)^4=115792089237316195423570985008687907853269984665640564039457584007913129639936 by rfl]at h;omega
theorem NF (a0 a1 a2 a3 b0 b1 b2 b3:Nat) (ha:bH a0 a1 a2 a3) (hb:bH b0 b1 b2 b3) (e3:a3<b3) (w:World) :
  Calls prog 72 #[.agg #[.int .u64 a0,.int .u64 a1,.int .u64 a2,.int .u64 a3],.agg #[.int .u64 b0,.int .u64 b1,.int .u64 b2,.int .u64 b3]] w fun e w'=>e=.returned (.int .i64 (cG (aA a0 a1 a2 a3) (aA b0 b1 b2 b3)))∧Below w.heap.size w w':=by
 have hfin:cG (aA a0 a1 a2 a3) (aA b0 b1 b2 b3) = -1:=by
  obtain⟨p0,p1,p2,p3⟩:=ha; obtain⟨q0,q1,q2,q3⟩:=hb; unfold cG aA;rw[if_neg (by omega),if_pos (by omega)]
 rw[hfin];clear hfin;have l3:decide (a3<b3)=true:=decide_eq_true (by omega);clear e3
 go_enter func72,ntmps72
 go_wp2_with fail;refine wp_loop_rounds 5 ?_;rw[rounds_succ];go_wp2_with fail
 go_quiet (fail)
 go_wp2_with fail;go_ret;exact⟨rfl,by repeat (first|exact Below.refl _ _|refine Below.trans ?_ (aP _ _ _)|refine Below.drew ?_|refine Below.alloc ?_ (by first|(simp; done)|(simp; omega)) _)⟩
theorem NK (a0 a1 a2 a3 b0 b1 b2 b3:Nat) (ha:bH a0 a1 a2 a3) (hb:bH b0 b1 b2 b3) (e3:b3<a3) (w:World) :
  Calls prog 72 #[.agg #[.int .u64 a0,.int .u64 a1,.int .u64 a2,.int .u64 a3],.agg #[.int .u64 b0,.int .u64 b1,.int .u64 b2,.int .u64 b3]] w fun e w'=>e=.returned (.int .i64 (cG (aA a0 a1 a2 a3) (aA b0 b1 b2 b3)))∧Below w.heap.size w w':=by
 have hfin:cG (aA a0 a1 a2 a3) (aA b0 b1 b2 b3)=1:=by
  obtain⟨p0,p1,p2,p3⟩:=ha; obtain⟨q0,q1,q2,q3⟩:=hb; unfold cG aA;rw[if_neg (by omega),if_neg (by omega)]
 rw[hfin];clear hfin;have l3:decide (a3<b3)=false:=decide_eq_false (by omega);have g3:decide (b3<a3)=true:=decide_eq_true (by omega);clear e3
 go_enter func72,ntmps72
 go_wp2_with fail;refine wp_loop_rounds 5 ?_;rw[rounds_succ];go_wp2_with fail
 go_quiet (fail)
 go_wp2_with fail
 go_quiet (fail)
 go_wp2_with fail;go_ret;exact⟨rfl,by repeat (first|exact Below.refl _ _|refine Below.trans ?_ (aP _ _ _)|refine Below.drew ?_|refine Below.alloc ?_ (by first|(simp; done)|(simp; omega)) _)⟩
theorem NG (a0 a1 a2 a3 b0 b1 b2 b3:Nat) (ha:bH a0 a1 a2 a3) (hb:bH b0 b1 b2 b3) (e3:a3=b3) (e2:a2<b2) (w:World) :
  Calls prog 72 #[.agg #[.int .u64 a0,.int .u64 a1,.int .u64 a2,.int .u64 a3],.agg #[.int .u64 b0,.int .u64 b1,.int .u64 b2,.int .u64 b3]] w fun e w'=>e=.returned (.int .i64 (cG (aA a0 a1 a2 a3) (aA b0 b1 b2 b3)))∧Below w.heap.size w w':=by
 have hfin:cG (aA a0 a1 a2 a3) (aA b0 b1 b2 b3) = -1:=by
  obtain⟨p0,p1,p2,p3⟩:=ha; obtain⟨q0,q1,q2,q3⟩:=hb; unfold cG aA;rw[if_neg (by omega),if_pos (by omega)]
 rw[hfin];clear hfin;have l3:decide (a3<b3)=false:=decide_eq_false (by omega);have g3:decide (b3<a3)=false:=decide_eq_false (by omega);clear e3;have l2:decide (a2<b2)=true:=decide_eq_true (by omega);clear e2
 go_enter func72,ntmps72
 go_wp2_with fail;refine wp_loop_rounds 5 ?_;rw[rounds_succ];go_wp2_with fail
 go_quiet (fail)
 go_wp2_with fail
 go_quiet (fail)
 go_wp2_with fail;rw[rounds_succ];go_wp2_with fail
 go_quiet (fail)
 go_wp2_with fail;go_ret;exact⟨rfl,by repeat (first|exact Below.refl _ _|refine Below.trans ?_ (aP _ _ _)|refine Below.drew ?_|refine Below.alloc ?_ (by first|(simp; done)|(simp; omega)) _)⟩
theorem NL (a0 a1 a2 a3 b0 b1 b2 b3:Nat) (ha:bH a0 a1 a2 a3) (hb:bH b0 b1 b2 b3) (e3:a3=b3) (e2:b2<a2) (w:World) :
  Calls prog 72 #[.agg #[.int .u64 a0,.int .u64 a1,.int .u64 a2,.int .u64 a3],.agg #[.int .u64 b0,.int .u64 b1,.int .u64 b2,.int .u64 b3]] w fun e w'=>e=.returned (.int .i64 (cG (aA a0 a1 a2 a3) (aA b0 b1 b2 b3)))∧Below w.heap.size w w':=by
 have hfin:cG (aA a0 a1 a2 a3) (aA b0 b1 b2 b3)=1:=by
  obtain⟨p0,p1,p2,p3⟩:=ha; obtain⟨q0,q1,q2,q3⟩:=hb; unfold cG aA;rw[if_neg (by omega),if_neg (by omega)]
 rw[hfin];clear hfin;have l3:decide (a3<b3)=false:=decide_eq_false (by omega);have g3:decide (b3<a3)=false:=decide_eq_false (by omega);clear e3;have l2:decide (a2<b2)=false:=decide_eq_false (by omega);have g2:decide (b2<a2)=true:=decide_eq_true (by omega);clear e2
 go_enter func72,ntmps72
 go_wp2_with fail;refine wp_loop_rounds 5 ?_;rw[rounds_succ];go_wp2_with fail
 go_quiet (fail)
 go_wp2_with fail
 go_quiet (fail)
 go_wp2_with fail;rw[rounds_succ];go_wp2_with fail
 go_quiet (fail)
 go_wp2_with fail
 go_quiet (fail)
 go_wp2_with fail;go_ret;exact⟨rfl,by repeat (first|exact Below.refl _ _|refine Below.trans ?_ (aP _ _ _)|refine Below.drew ?_|refine Below.alloc ?_ (by first|(simp; done)|(simp; omega)) _)⟩
theorem NH (a0 a1 a2 a3 b0 b1 b2 b3:Nat) (ha:bH a0 a1 a2 a3) (hb:bH b0 b1 b2 b3) (e3:a3=b3) (e2:a2=b2) (e1:a1<b1) (w:World) :
  Calls prog 72 #[.agg #[.int .u64 a0,.int .u64 a1,.int .u64 a2,.int .u64 a3],.agg #[.int .u64 b0,.int .u64 b1,.int .u64 b2,.int .u64 b3]] w fun e w'=>e=.returned (.int .i64 (cG (aA a0 a1 a2 a3) (aA b0 b1 b2 b3)))∧Below w.heap.size w w':=by
 have hfin:cG (aA a0 a1 a2 a3) (aA b0 b1 b2 b3) = -1:=by
  obtain⟨p0,p1,p2,p3⟩:=ha; obtain⟨q0,q1,q2,q3⟩:=hb; unfold cG aA;rw[if_neg (by omega),if_pos (by omega)]
 rw[hfin];clear hfin;have l3:decide (a3<b3)=false:=decide_eq_false (by omega);have g3:decide (b3<a3)=false:=decide_eq_false (by omega);clear e3;have l2:decide (a2<b2)=false:=decide_eq_false (by omega);have g2:decide (b2<a2)=false:=decide_eq_false (by omega);clear e2;have l1:decide (a1<b1)=true:=decide_eq_true (by omega);clear e1
 go_enter func72,ntmps72
 go_wp2_with fail;refine wp_loop_rounds 5 ?_;rw[rounds_succ];go_wp2_with fail
 go_quiet (fail)
 go_wp2_with fail
 go_quiet (fail)
 go_wp2_with fail;rw[rounds_succ];go_wp2_with fail
 go_quiet (fail)
 go_wp2_with fail
 go_quiet (fail)
 go_wp2_with fail;rw[rounds_succ];go_wp2_with fail
 go_quiet (fail)
 go_wp2_with fail;go_ret;exact⟨rfl,by repeat (first|exact Below.refl _ _|refine Below.trans ?_ (aP _ _ _)|refine Below.drew ?_|refine Below.alloc ?_ (by first|(simp; done)|(simp; omega)) _)⟩
theorem NM (a0 a1 a2 a3 b0 b1 b2 b3:Nat) (ha:bH a0 a1 a2 a3) (hb:bH b0 b1 b2 b3) (e3:a3=b3) (e2:a2=b2) (e1:b1<a1) (w:World) :
  Calls prog 72 #[.agg #[.int .u64 a0,.int .u64 a1,.int .u64 a2,.int .u64 a3],.agg #[.int .u64 b0,.int .u64 b1,.int .u64 b2,.int .u64 b3]] w fun e w'=>e=.returned (.int .i64 (cG (aA a0 a1 a2 a3) (aA b0 b1 b2 b3)))∧Below w.heap.size w w':=by
 have hfin:cG (aA a0 a1 a2 a3) (aA b0 b1 b2 b3)=1:=by
  obtain⟨p0,p1,p2,p3⟩:=ha; obtain⟨q0,q1,q2,q3⟩:=hb; unfold cG aA;rw[if_neg (by omega),if_neg (by omega)]
 rw[hfin];clear hfin;have l3:decide (a3<b3)=false:=decide_eq_false (by omega);have g3:decide (b3<a3)=false:=decide_eq_false (by omega);clear e3;have l2:decide (a2<b2)=false:=decide_eq_false (by omega);have g2:decide (b2<a2)=false:=decide_eq_false (by omega);clear e2;have l1:decide (a1<b1)=false:=decide_eq_false (by omega);have g1:decide (b1<a1)=true:=decide_eq_true (by omega);clear e1
 go_enter func72,ntmps72
 go_wp2_with fail;refine wp_loop_rounds 5 ?_;rw[rounds_succ];go_wp2_with fail
 go_quiet (fail)
 go_wp2_with fail
 go_quiet (fail)
 go_wp2_with fail;rw[rounds_succ];go_wp2_with fail
 go_quiet (fail)
 go_wp2_with fail
 go_quiet (fail)
 go_wp2_with fail;rw[rounds_succ];go_wp2_with fail
 go_quiet (fail)
 go_wp2_with fail
 go_quiet (fail)
 go_wp2_with fail;go_ret;exact⟨rfl,by repeat (first|exact Below.refl _ _|refine Below.trans ?_ (aP _ _ _)|refine Below.drew ?_|refine Below.alloc ?_ (by first|(simp; done)|(simp; omega)) _)⟩
theorem NI (a0 a1 a2 a3 b0 b1 b2 b3:Nat) (ha:bH a0 a1 a2 a3) (hb:bH b0 b1 b2 b3) (e3:a3=b3) (e2:a2=b2) (e1:a1=b1) (e0:a0<b0) (w:World) :
  Calls prog 72 #[.agg #[.int .u64 a0,.int .u64 a1,.int .u64 a2,.int .u64 a3],.agg #[.int .u64 b0,.int .u64 b1,.int .u64 b2,.int .u64 b3]] w fun e w'=>e=.returned (.int .i64 (cG (aA a0 a1 a2 a3) (aA b0 b1 b2 b3)))∧Below w.heap.size w w':=by
 have hfin:cG (aA a0 a1 a2 a3) (aA b0 b1 b2 b3) = -1:=by
  obtain⟨p0,p1,p2,p3⟩:=ha; obtain⟨q0,q1,q2,q3⟩:=hb; unfold cG aA;rw[if_neg (by omega),if_pos (by omega)]
 rw[hfin];clear hfin;have l3:decide (a3<b3)=false:=decide_eq_false (by omega);have g3:decide (b3<a3)=false:=decide_eq_false (by omega);clear e3;have l2:decide (a2<b2)=false:=decide_eq_false (by omega);have g2:decide (b2<a2)=false:=decide_eq_false (by omega);clear e2;have l1:decide (a1<b1)=false:=decide_eq_false (by omega);have g1:decide (b1<a1)=false:=decide_eq_false (by omega);clear e1;have l0:decide (a0<b0)=true:=decide_eq_true (by omega);clear e0
 go_enter func72,ntmps72
 go_wp2_with fail;refine wp_loop_rounds 5 ?_;rw[rounds_succ];go_wp2_with fail
 go_quiet (fail)
 go_wp2_with fail
 go_quiet (fail)
 go_wp2_with fail;rw[rounds_succ];go_wp2_with fail
 go_quiet (fail)
 go_wp2_with fail
 go_quiet (fail)
 go_wp2_with fail;rw[rounds_succ];go_wp2_with fail
 go_quiet (fail)
 go_wp2_with fail
 go_quiet (fail)
 go_wp2_with fail;rw[rounds_succ];go_wp2_with fail
 go_quiet (fail)
 go_wp2_with fail;go_ret;exact⟨rfl,by repeat (first|exact Below.refl _ _|refine Below.trans ?_ (aP _ _ _)|refine Below.drew ?_|refine Below.alloc ?_ (by first|(simp; done)|(simp; omega)) _)⟩
theorem NN (a0 a1 a2 a3 b0 b1 b2 b3:Nat) (ha:bH a0 a1 a2 a3) (hb:bH b0 b1 b2 b3) (e3:a3=b3) (e2:a2=b2) (e1:a1=b1) (e0:b0<a0) (w:World) :
  Calls prog 72 #[.agg #[.int .u64 a0,.int .u64 a1,.int .u64 a2,.int .u64 a3],.agg #[.int .u64 b0,.int .u64 b1,.int .u64 b2,.int .u64 b3]] w fun e w'=>e=.returned (.int .i64 (cG (aA a0 a1 a2 a3) (aA b0 b1 b2 b3)))∧Below w.heap.size w w':=by
 have hfin:cG (aA a0 a1 a2 a3) (aA b0 b1 b2 b3)=1:=by
  obtain⟨p0,p1,p2,p3⟩:=ha; obtain⟨q0,q1,q2,q3⟩:=hb; unfold cG aA;rw[if_neg (by omega),if_neg (by omega)]
 rw[hfin];clear hfin;have l3:decide (a3<b3)=false:=decide_eq_false (by omega);have g3:decide (b3<a3)=false:=decide_eq_false (by omega);clear e3;have l2:decide (a2<b2)=false:=decide_eq_false (by omega);have g2:decide (b2<a2)=false:=decide_eq_false (by omega);clear e2;have l1:decide (a1<b1)=false:=decide_eq_false (by omega);have g1:decide (b1<a1)=false:=decide_eq_false (by omega);clear e1;have l0:decide (a0<b0)=false:=decide_eq_false (by omega);have g0:decide (b0<a0)=true:=decide_eq_true (by omega);clear e0
 go_enter func72,ntmps72
 go_wp2_with fail;refine wp_loop_rounds 5 ?_;rw[rounds_succ];go_wp2_with fail
 go_quiet (fail)
 go_wp2_with fail
 go_quiet (fail)
 go_wp2_with fail;rw[rounds_succ];go_wp2_with fail
 go_quiet (fail)
 go_wp2_with fail
 go_quiet (fail)
 go_wp2_with fail;rw[rounds_succ];go_wp2_with fail
 go_quiet (fail)
 go_wp2_with fail
 go_quiet (fail)
 go_wp2_with fail;rw[rounds_succ];go_wp2_with fail
 go_quiet (fail)
 go_wp2_with fail
 go_quiet (fail)
 go_wp2_with fail;go_ret;exact⟨rfl,by repeat (first|exact Below.refl _ _|refine Below.trans ?_ (aP _ _ _)|refine Below.drew ?_|refine Below.alloc ?_ (by first|(simp; done)|(simp; omega)) _)⟩
theorem TI (a0 a1 a2 a3 b0 b1 b2 b3:Nat) (ha:bH a0 a1 a2 a3) (hb:bH b0 b1 b2 b3) (e3:a3=b3) (e2:a2=b2) (e1:a1=b1) (e0:a0=b0) (w:World) :
  Calls prog 72 #[.agg #[.int .u64 a0,.int .u64 a1,.int .u64 a2,.int .u64 a3],.agg #[.int .u64 b0,.int .u64 b1,.int .u64 b2,.int .u64 b3]] w fun e w'=>e=.returned (.int .i64 (cG (aA a0 a1 a2 a3) (aA b0 b1 b2 b3)))∧Below w.heap.size w w':=by
 have hfin:cG (aA a0 a1 a2 a3) (aA b0 b1 b2 b3)=0:=by
  obtain⟨p0,p1,p2,p3⟩:=ha; obtain⟨q0,q1,q2,q3⟩:=hb; unfold cG aA;rw[if_pos (by omega)]
 rw[hfin];clear hfin;have l3:decide (a3<b3)=false:=decide_eq_false (by omega);have g3:decide (b3<a3)=false:=decide_eq_false (by omega);clear e3;have l2:decide (a2<b2)=false:=decide_eq_false (by omega);have g2:decide (b2<a2)=false:=decide_eq_false (by omega);clear e2;have l1:decide (a1<b1)=false:=decide_eq_false (by omega);have g1:decide (b1<a1)=false:=decide_eq_false (by omega);clear e1;have l0:decide (a0<b0)=false:=decide_eq_false (by omega);have g0:decide (b0<a0)=false:=decide_eq_false (by omega);clear e0
 go_enter func72,ntmps72
 go_wp2_with fail;refine wp_loop_rounds 5 ?_;rw[rounds_succ];go_wp2_with fail
 go_quiet (fail)
 go_wp2_with fail
 go_quiet (fail)
 go_wp2_with fail;rw[rounds_succ];go_wp2_with fail
 go_quiet (fail)
 go_wp2_with fail
 go_quiet (fail)
 go_wp2_with fail;rw[rounds_succ];go_wp2_with fail
 go_quiet (fail)
 go_wp2_with fail
 go_quiet (fail)
 go_wp2_with fail;rw[rounds_succ];go_wp2_with fail
 go_quiet (fail)
 go_wp2_with fail
 go_quiet (fail)
 go_wp2_with fail;rw[rounds_succ];go_wp2_with fail;go_ret;exact⟨rfl,by repeat (first|exact Below.refl _ _|refine Below.trans ?_ (aP _ _ _)|refine Below.drew ?_|refine Below.alloc ?_ (by first|(simp; done)|(simp; omega)) _)⟩
theorem lQ (a0 a1 a2 a3 b0 b1 b2 b3:Nat) (ha:bH a0 a1 a2 a3) (hb:bH b0 b1 b2 b3) (w:World) :
  Calls prog 72 #[.agg #[.int .u64 a0,.int .u64 a1,.int .u64 a2,.int .u64 a3],.agg #[.int .u64 b0,.int .u64 b1,.int .u64 b2,.int .u64 b3]] w fun e w'=>e=.returned (.int .i64 (cG (aA a0 a1 a2 a3) (aA b0 b1 b2 b3)))∧Below w.heap.size w w':=by
 rcases Nat.lt_trichotomy a3 b3 with e3|e3|e3
 ·exact NF a0 a1 a2 a3 b0 b1 b2 b3 ha hb e3 w
 ·rcases Nat.lt_trichotomy a2 b2 with e2|e2|e2
  ·exact NG a0 a1 a2 a3 b0 b1 b2 b3 ha hb e3 e2 w
  ·rcases Nat.lt_trichotomy a1 b1 with e1|e1|e1
   ·exact NH a0 a1 a2 a3 b0 b1 b2 b3 ha hb e3 e2 e1 w
   ·rcases Nat.lt_trichotomy a0 b0 with e0|e0|e0
    ·exact NI a0 a1 a2 a3 b0 b1 b2 b3 ha hb e3 e2 e1 e0 w
    ·exact TI a0 a1 a2 a3 b0 b1 b2 b3 ha hb e3 e2 e1 e0 w
    ·exact NN a0 a1 a2 a3 b0 b1 b2 b3 ha hb e3 e2 e1 e0 w
   ·exact NM a0 a1 a2 a3 b0 b1 b2 b3 ha hb e3 e2 e1 w
  ·exact NL a0 a1 a2 a3 b0 b1 b2 b3 ha hb e3 e2 w
 ·exact NK a0 a1 a2 a3 b0 b1 b2 b3 ha hb e3 w
theorem QB {A B:Nat} (h:A<B):cG A B = -1:=by unfold cG; rw[if_neg (by omega),if_pos h]
theorem QC {A B:Nat} (h:¬A<B):decide (0≤cG A B)=true:=by
 unfold cG
 by_cases q:A=B
 ·rw[if_pos q]; rfl
 ·rw[if_neg q,if_neg h]; rfl
set_option maxHeartbeats 2000000 in
theorem cM (f:Int) (F:FC) (hf:FieldIs f F) (a0 a1 a2 a3:Nat) (ha:bH a0 a1 a2 a3) (w:World) :
  Calls prog 90 #[.int .i64 f,.agg #[.int .u64 a0,.int .u64 a1,.int .u64 a2,.int .u64 a3]] w (dK (aA a0 a1 a2 a3%F.M) w):=by
 have hpos:=hf.ok.pos
 go_enter func90,ntmps90
 go_wp2_with fail;have HM:=Lib.hid (((Mem.nil w).new (w.heap.size) a0 a1 a2 a3 27 (by simp)).new (w.heap.size+1) 0 0 0 0 27 (by simp));refine (fN f F hf _).mono ?_
 rintro e w1 ⟨rfl,hbl⟩
 have HM':=Lib.hid (HM.out.on hbl);clear HM hbl;have HM:=HM';clear HM';have hz1:w.heap.size+1<w1.heap.size:=HM.out.lt (b:=w.heap.size+1) (c0:=0) (c1:=0) (c2:=0) (c3:=0) (by simp);have HM':=Lib.hid ((HM.out.new w1.heap.size F.m0 F.m1 F.m2 F.m3 27 rfl).sub (rs':=[(w.heap.size,a0,a1,a2,a3),(w1.heap.size,F.m0,F.m1,F.m2,F.m3),(w.heap.size+1,0,0,0,0)]) (by simp));clear HM;have HM:=HM';clear HM';go_wp2_with fail
 go_loopg [8] (aA a0 a1 a2 a3/F.M) (fun k t wr=>∃v0 v1 v2 v3:Nat,bH v0 v1 v2 v3∧Hid (aA v0 v1 v2 v3/F.M=k∧aA v0 v1 v2 v3%F.M=aA a0 a1 a2 a3%F.M)∧Hid (Mem w wr [(w.heap.size,v0,v1,v2,v3),(w1.heap.size,F.m0,F.m1,F.m2,F.m3),(w.heap.size+1,0,0,0,0)]))
 case atStart=>exact⟨a0,a1,a2,a3,ha,Lib.hid ⟨rfl,rfl⟩,HM⟩
 case round =>
  clear HM;obtain⟨v0,v1,v2,v3,hv,HV,HM⟩:=hrel;have kr:=HM.out.row (b:=w.heap.size) (c0:=v0) (c1:=v1) (c2:=v2) (c3:=v3) (by simp);have x0:=kr.c0; have x1:=kr.c1; have x2:=kr.c2; have x3:=kr.c3;clear kr;have xl:=HM.out.lt (b:=w.heap.size) (c0:=v0) (c1:=v1) (c2:=v2) (c3:=v3) (by simp);have kr:=HM.out.row (b:=w1.heap.size) (c0:=F.m0) (c1:=F.m1) (c2:=F.m2) (c3:=F.m3) (by simp);have u0:=kr.c0; have u1:=kr.c1; have u2:=kr.c2; have u3:=kr.c3;clear kr;have ul:=HM.out.lt (b:=w1.heap.size) (c0:=F.m0) (c1:=F.m1) (c2:=F.m2) (c3:=F.m3) (by simp);go_wp2_with fail;refine (lQ v0 v1 v2 v3 F.m0 F.m1 F.m2 F.m3 hv hf.ok.okm _).mono ?_
  rintro e w2 ⟨he,hbl⟩
  have HM':=Lib.hid (HM.out.on hbl);clear HM hbl;have HM:=HM';clear HM';clear x0 x1 x2 x3 xl u0 u1 u2 u3 ul
  by_cases hlt:aA v0 v1 v2 v3<F.M
  ·rw[show cG (aA v0 v1 v2 v3) (aA F.m0 F.m1 F.m2 F.m3) = -1 from QB hlt]at he;subst he;have kr:=HM.out.row (b:=w.heap.size) (c0:=v0) (c1:=v1) (c2:=v2) (c3:=v3) (by simp);have x0:=kr.c0; have x1:=kr.c1; have x2:=kr.c2; have x3:=kr.c3;clear kr;have xl:=HM.out.lt (b:=w.heap.size) (c0:=v0) (c1:=v1) (c2:=v2) (c3:=v3) (by simp);have kr:=HM.out.row (b:=w.heap.size+1) (c0:=0) (c1:=0) (c2:=0) (c3:=0) (by simp);have y0:=kr.c0; have y1:=kr.c1; have y2:=kr.c2; have y3:=kr.c3; have yf:=kr.fr;clear kr;have yl:=HM.out.lt (b:=w.heap.size+1) (c0:=0) (c1:=0) (c2:=0) (c3:=0) (by simp);have HE:=Lib.hid (show aA v0 v1 v2 v3=aA a0 a1 a2 a3%F.M by rw[←HV.out.2,Nat.mod_eq_of_lt hlt]);clear HV hlt;go_wp2_with fail;refine bodyPost_ret (v:=.agg #[.int .u64 v0,.int .u64 v1,.int .u64 v2,.int .u64 v3]) (by simp[results,results90,go_sem, *]) rfl ?_;refine⟨_,_,_,_,rfl,hv,HE.out,?_⟩;exact aV HM.out.1 (by omega) _ _ _ _
  ·obtain⟨k,rfl⟩:∃k,gk=k+1:=⟨gk-1,by have h:=HV.out.1; have:=Nat.div_pos (show F.M≤aA v0 v1 v2 v3 by omega) hpos; omega⟩
   have HT:decide (0≤cG (aA v0 v1 v2 v3) (aA F.m0 F.m1 F.m2 F.m3))=true:=QC hlt;generalize cG (aA v0 v1 v2 v3) (aA F.m0 F.m1 F.m2 F.m3)=cc at *;subst he;have kr:=HM.out.row (b:=w.heap.size) (c0:=v0) (c1:=v1) (c2:=v2) (c3:=v3) (by simp);have x0:=kr.c0; have x1:=kr.c1; have x2:=kr.c2; have x3:=kr.c3;clear kr;have xl:=HM.out.lt (b:=w.heap.size) (c0:=v0) (c1:=v1) (c2:=v2) (c3:=v3) (by simp);have kr:=HM.out.row (b:=w1.heap.size) (c0:=F.m0) (c1:=F.m1) (c2:=F.m2) (c3:=F.m3) (by simp);have u0:=kr.c0; have u1:=kr.c1; have u2:=kr.c2; have u3:=kr.c3;clear kr;have ul:=HM.out.lt (b:=w1.heap.size) (c0:=F.m0) (c1:=F.m1) (c2:=F.m2) (c3:=F.m3) (by simp);have Hlt:=Lib.hid hlt;clear hlt;go_wp2_with fail;refine (dL v0 v1 v2 v3 F.m0 F.m1 F.m2 F.m3 hv hf.ok.okm _).mono ?_
   rintro e w3 ⟨s0,s1,s2,s3,c,rfl,hs,hc,he,hbl⟩
   have HE:=Lib.hid (show aA s0 s1 s2 s3+F.M=aA v0 v1 v2 v3 by have:=bW hs; have:=bW hv; have:=Hlt.out; have hM:aA F.m0 F.m1 F.m2 F.m3=F.M:=rfl; rw[hM]at he; omega);clear he;have HM':=Lib.hid (HM.out.on hbl);clear HM hbl;have HM:=HM';clear HM';clear x0 x1 x2 x3 xl u0 u1 u2 u3 ul;have kr:=HM.out.row (b:=w.heap.size) (c0:=v0) (c1:=v1) (c2:=v2) (c3:=v3) (by simp);have x0:=kr.c0; have x1:=kr.c1; have x2:=kr.c2; have x3:=kr.c3; have xf:=kr.fr;clear kr;have xl:=HM.out.lt (b:=w.heap.size) (c0:=v0) (c1:=v1) (c2:=v2) (c3:=v3) (by simp);have HM':=Lib.hid (HM.out.put s0 s1 s2 s3 (by omega) (by intro r hr; simp at hr; rcases hr with rfl|rfl<;>simp<;>omega));clear HM;go_wp2_with fail
   go_roundg k
   case rel=>exact⟨s0,s1,s2,s3,hs,Lib.hid (by
     have h:=HV.out;rw[←HE.out,Nat.add_mod_right,Nat.add_div_right _ hpos]at h;exact⟨by omega,h.2⟩),HM'⟩
   case measure=>omega
end Go.Proofs.Ytjeplinbleofnaa
