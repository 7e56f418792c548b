/- Po11 -/
import Derived.ProofKit
import Derived.LaidMore
import Derived.OpenShut
import Derived.Stop.Joined
import Derived.Carry
import Derived.RowKit
import Derived.ChangeSame
import Derived.JoinedOf
import Derived.JoinedAt
import Derived.Laws.IdiomArrays
import Derived.Deep.Strs
import Derived.Deep.Slices
import Derived.SizedLaws
import Derived.Lib.LaidTab
import Derived.MakeChecks
import Derived.Test.YtpbljiejmfahcaaDoorPo09
import Derived.Test.YtpbljiejmfahcaaDoorPo10
import Derived.Test.YtpbljiejmfahcaaDoorRows
import Derived.Test.YtpbljiejmfahcaaDoorPo03
import Derived.Test.YtpbljiejmfahcaaDoorPo02
import Derived.Test.YtpbljiejmfahcaaDoorPo06
import Derived.Test.YtpbljiejmfahcaaDoorProg
set_option maxRecDepth 100000
set_option linter.unusedVariables false
set_option linter.unusedSimpArgs false
set_option linter.unnecessarySimpa false
noncomputable section
namespace Go.Proofs.YtpbljiejmfahcaaDoor.Ex
open Go.Proofs.Tryd
open Go.RowKit
def pqV:List Nat:=[9366589365528007062458382371456048540463265143434233763409184157833743815132,17638118610608954611059259592866859649148429930610506599630098997384684887764,11815201102546204230970143366718580827430718778017064477325603053014826414060,14174265942205175496631274390626226851769519197237974873020109628464700561788,7843030790835533461963578155299368297453426025640726560422300925992337392424,16679470292236580916720041228269942597126463026604268074791023829548603529529,7399758573942571417686596716545953806025838671493346201629133903812111964188,6970384995131667944619937154269814132463027530332498209107285855290163785650,6426475440477819557638729020210550161065888867822862304926424896113817300651]
theorem Nv:JU 9 (CU 3 2 1)=some pqV:=by kernel_rfl
def Wu (i:Nat):Nat:=pqV.getD i 0
theorem YV:tY 3 2 1 Wu:=by
 have h:=Nv;rw[BO 9 (xS 3 2 1)]at h;obtain⟨sq,h0,h1⟩:=BN 9 _ _ h;exact⟨100,sq,h0,h1⟩
def PM (wd:Nat) (f:Nat→Nat) (j:Nat):Nat:=hU (fun q=>Ld.getD (wd+(j+q)) 0) f wd
def rQ (xs:Nat→Nat) (wd fl pt:Nat):Nat→(Nat→Nat)→Nat→Nat
 | 0,f=>f
 | r+1,f=>PM wd (mO (rz wd fl pt r) (eK xs wd r (rQ xs wd fl pt r f)))
theorem AD {xs:Nat→Nat} {wd fl pt:Nat} (h2:2≤wd) (h8:wd≤8) (f:Nat→Nat):∀r q,q<wd→bO xs wd fl pt r f q=rQ xs wd fl pt r f q
 | 0,q,hq=>rfl
 | r+1,q,hq=>by
  show jH wd (mO _ (eK xs wd r (bO xs wd fl pt r f))) q=PM wd (mO _ (eK xs wd r (rQ xs wd fl pt r f))) q;unfold jH PM;rw[sU (b:=fun k=>Ld.getD (wd+(q+k)) 0) wd fun k hk=>JG (by omega) (by omega)];refine jC wd fun k hk => ?_
  have e:eK xs wd r (bO xs wd fl pt r f) k=eK xs wd r (rQ xs wd fl pt r f) k:=by
   unfold eK;rw[AD h2 h8 f r k hk]
  show (if k<_ then BG (eK xs wd r (bO xs wd fl pt r f) k)else eK xs wd r (bO xs wd fl pt r f) k)=if k<_ then BG (eK xs wd r (rQ xs wd fl pt r f) k)else eK xs wd r (rQ xs wd fl pt r f) k
  rw[e]
def Uf:Nat:=bO Wu 3 2 1 3 (pX 1 2) 1
theorem Kq:rQ Wu 3 2 1 3 (pX 1 2) 1=4909546689239489709091846541675808164823451355317873504230550435168670308840:=by kernel_rfl
theorem Kp:Uf≠0:=by
 unfold Uf;rw[AD (by decide) (by decide) _ 3 1 (by decide),Kq];decide
theorem Holds.soSlQ {nt base:Nat} {w0:World} {A:List Fact} {a:Act} {w:World} (h:Holds nt base w0 A a w) {s k n:Nat} {l:List At} (h1:Fact.slot s (.so k n)∈A) (h2:Fact.row k true l∈A):∃cap,Holds nt base w0 (.slot s (.sl k 0 n cap)::A) a w:=by
 obtain⟨β,g1,g2,g3⟩:=h.facts;have e1:=g1 _ h1;have up:∀k1 o1 l1,Fact.row k1 o1 l1∈(Fact.slot s (.sl k 0 n (β k).2.2)::A)→Fact.row k1 o1 l1∈A:=fun k1 o1 l1 e=>by
  rcases List.mem_cons.1 e with e|e
  ·cases e
  ·exact e
 refine⟨(β k).2.2,h.defers,h.size,h.below,h.heap,β,fun φ hφ => ?_,fun k1 k2 o2 l1 l2 q1 q2=>g2 k1 k2 o2 l1 l2 (up _ _ _ q1) (up _ _ _ q2),fun k1 l1 e=>g3.1 k1 l1 (up _ _ _ e),g3.2⟩
 rcases List.mem_cons.1 hφ with rfl|hφ
 ·exact e1
 ·exact g1 φ hφ
def Rm (a b c:Int) (R:FS):List CA→Option (List Prop×FS)
 | [.v (.fl l)]=>some ([aB l=aB (rZ a b c)],R)
 | _=>none
def ST (a b c:Int) (x y:Nat) (R:RV):kE
 | [.v (.fl l),.v (.fl l1),.v (.fl l2)]=>some ([aB l=aB (rZ a b c),aB l1=aB [At.q x],aB l2=aB [At.q y]],R)
 | _=>none
theorem xH {w:World} {a b c:Int} {x y:Nat} {R:RV} (h:bU prog 12 R [.agg (aB (rZ a b c)).toArray,.agg (aB [At.q x]).toArray,.agg (aB [At.q y]).toArray] w):∀cs pre r,ST a b c x y R cs=some (pre,r)→aW pre→∀(args:List Value),dV w cs args→bU prog 12 r args w:=by
 intro cs pre r hg hp args ha;unfold ST at hg;split at hg
 ·cases hg
  match args,ha with
  | [u,v,z],ha =>
   have e1:u=.agg (aB _).toArray:=ha.1;have e2:v=.agg (aB _).toArray:=ha.2.1;have e3:z=.agg (aB _).toArray:=ha.2.2.1;obtain⟨h1,h2,h3,_⟩:=hp;rw[h1]at e1;rw[h2]at e2;rw[h3]at e3;subst e1; subst e2; subst e3;exact h
  | [],ha=>exact ha.elim
  | [_],ha=>exact ha.2.elim
  | [_,_],ha=>exact ha.2.2.elim
  | _::_::_::_::_,ha=>exact ha.2.2.2.elim
 ·cases hg
def Ba (a b c:Int) (k:Int):kE
 | [.v (.fl l)]=>some ([aB l=aB (rZ a b c)],.one (.im (.int .i64 k)))
 | _=>none
theorem JN {a b c k:Int} (h:FZ a b c k):∀cs pre r,Ba a b c k cs=some (pre,r)→aW pre→∀(args:List Value) (w:World),dV w cs args→bU prog 17 r args w:=by
 intro cs pre r hg hp args w ha;unfold Ba at hg;split at hg
 ·cases hg
  match args,ha with
  | [u],ha =>
   have e1:u=.agg (aB _).toArray:=ha.1;rw[hp.1]at e1;subst e1;exact h _ _ ⟨rfl,trivial⟩
  | [],ha=>exact ha.elim
  | _::_::_,ha=>exact ha.2.elim
 ·cases hg
def Ay (x:Nat) (R:RV):kE
 | [.v (.im v),.v (.fl l)]=>some ([v=.int .i64 2,aB l=aB [At.q x]],R)
 | _=>none
theorem JM {f:FuncId} {x:Nat} {R:RV} (h:∀w,bU prog f R [.int .i64 2,.agg (aB [At.q x]).toArray] w):∀cs pre r,Ay x R cs=some (pre,r)→aW pre→∀(args:List Value) (w:World),dV w cs args→bU prog f r args w:=by
 intro cs pre r hg hp args w ha;unfold Ay at hg;split at hg
 ·cases hg
  match args,ha with
  | [v,u],ha =>
   have e1:v=_:=ha.1;have e2:u=.agg (aB _).toArray:=ha.2.1;obtain⟨h1,h2,_⟩:=hp;rw[h1]at e1;rw[h2]at e2;subst e1; subst e2;exact h w
  | [],ha=>exact ha.elim
  | [_],ha=>exact ha.2.elim
  | _::_::_::_,ha=>exact ha.2.2.elim
 ·cases hg
def MD:kE
 | [.v (.im v)]=>some ([],.one (.im v))
 | _=>none
theorem XR (v:Value):eM prog (qG prog) (fun _=>⟨fun _=>T0,fun _=>true,fun _=>none⟩) f8 60 [.v (.im v)]=some ([],.one (.im v)):=by kernel_rfl
theorem TQ:∀cs pre r,MD cs=some (pre,r)→aW pre→∀(args:List Value) (w:World),dV w cs args→bU prog 8 r args w:=by
 intro cs pre r hg hp args w ha;unfold MD at hg;split at hg
 ·cases hg;exact aV aH (fun _ _=>(bH _).w _ _) ((bM _).w _ _) func8 (XR _) trivial ha
 ·cases hg
def mxR:FS:=⟨aG (el (nS 2)) 0 4,4,34,4,false,[],[.im (.int .i64 0)]⟩
def VL (s:Nat):Tab:=(((T0.add 16 (Ay 2 (.many [.fl [.q (LF 2)],.im (.int .i64 0)]))).add 8 MD).add 17 (bif Nat.beq s 25 then Ba 3 8 57 0 else Ba 3 7 0 91)).add 12 (ST 3 2 1 1 2 (.many [.fl [.q Uf],.im (.int .i64 0)]))
def Lc:Ext:={ Ext.none with idx:=aD [(49,0)],ld:=aD [(50,[.q (LF 2)])],T2:=KS,T3:=pO.add 14 (Rm 2 2 0 mxR),T4:=KJ,T5:=iA,T6:=KQ }
def eT:Code:=(f6.body).getD .skip
noncomputable abbrev Zz:Func:=f6
theorem Ko:Zz.ntmps=59:=by kernel_rfl
theorem VB:eT=.seq (cA eT) (.seq (cA (cB eT)) (.seq (cA (cB (cB eT))) (.seq (cA (cB (cB (cB eT)))) (cB (cB (cB (cB eT))))))):=by kernel_rfl
def NG (n:Nat):Cfg:=⟨VL,fun s=>Nat.beq s 52,aD [(39,.int .i64 0)]⟩
def VD:List Fact:=[.slot 1 (.so 9 4),.row 9 true (aG (el (nS 2)) 0 4),.slot 2 (.im (.int .i64 0))]
def aAa (cap:Nat):List Fact:=[.slot 1 (.sl 9 0 4 cap),.row 9 true (aG (el (nS 2)) 0 4),.slot 2 (.im (.int .i64 0))]
def Cm (cap:Nat):List Fact:=.slot 3 (.pt 3 0) :: .row 3 true [.q (LF 2)]::aAa cap
def VC (cap:Nat):List Fact:=.slot 5 (.pt 5 0) :: .row 5 true [.q Uf] :: .slot 6 (.im (.int .i64 0))::Cm cap
theorem Kn:aJ prog { qG prog with x:=Lc } 59 NG 60 (cA eT) [] []=some ([],.nrm,[]):=by kernel_rfl
theorem Km:aJ prog { qG prog with x:=Lc } 59 NG 60 (cA (cB eT)) [] VD=some ([aB (rZ 2 2 0)=aB (rZ 2 2 0)],.nrm,VD):=by kernel_rfl
theorem Kl (cap:Nat):aJ prog { qG prog with x:=Lc } 59 NG 60 (cA (cB (cB eT))) (.slot 1 (.sl 9 0 4 cap)::VD) (Cm cap)=some ([Value.int .i64 2=.int .i64 2,aB [At.q 2]=aB [At.q 2]],.nrm,Cm cap):=by kernel_rfl
theorem Kk (cap:Nat):aJ prog { qG prog with x:=Lc } 59 NG 60 (cA (cB (cB (cB eT)))) (Cm cap) (VC cap)=some ([aB (rZ 3 2 1)=aB (rZ 3 2 1),aB [At.q 1]=aB [At.q 1],aB [At.q 2]=aB [At.q 2]],.nrm,VC cap):=by kernel_rfl
theorem Kj (cap:Nat):aJ prog { qG prog with x:=Lc } 59 NG 60 (cB (cB (cB (cB eT)))) (VC cap) [.slot 0 (.im (.bool true))]=some ([aB (rZ 3 8 57)=aB (rZ 3 8 57),aB (rZ 3 7 0)=aB (rZ 3 7 0),aF .add .i64 0 0=some (.int .i64 0),(0:Int)=Int.ofNat 0,0<4,pY (aG (el (nS 2)) 0 4) (0+0*4) 4=some [.q (LF 2)],aB [At.q (LF 2)]=aB [At.q (LF 2)],aB [At.q Uf]≠aB [At.f ⟨0,fM⟩]],.rt,[.slot 0 (.im (.bool true))]):=by kernel_rfl
theorem Ak (x:Nat):inv x=LF x:=by
 unfold inv LF;rw[Nat.one_mul]
theorem Hg {w:World} (hD:Dbj w) (s:Nat):TabOkW prog (VL s) w.heap.size w:=by
 unfold VL;refine TabOkW.add ((((((bH _).add func16 (by kernel_rfl) (by kernel_rfl) (JM fun w=>Fz 2 ⟨by decide,by decide,trivial⟩ w)).add func8 (by kernel_rfl) (by kernel_rfl) TQ).add func17 (by kernel_rfl) (by kernel_rfl) ?_)).w _ _) func12 (by kernel_rfl) (by kernel_rfl) (fun w' hw=>xH ?_)
 ·cases Nat.beq s 25
  ·refine JN ?_
   rcases oB 3 7 0 with⟨wd,fl,pt,ea,eb,ec,hr⟩|hb
   ·have:=hr.ev;omega
   ·exact hb
  ·exact JN fun args w ha=>gJ (wd:=3) (fl:=8) (pt:=57) ⟨by decide,by decide,by decide,by decide,by decide,by decide⟩ args w ha
 ·exact uA (wd:=3) (fl:=2) (pt:=1) ⟨by decide,by decide,by decide,by decide,by decide,by decide⟩ (by decide) (by decide) (by decide) YV (hD.on hD.lt hw)
theorem qI (w:World):bD prog { qG prog with x:=Lc } w.heap.size w :=
 ⟨(bM _).1,eF (fun b o l h=>h.elim) (fun w' _=>FrAt.none _ _) (fun w' hw=>(FsAt.none _ _).add func14 (by kernel_rfl) (by kernel_rfl) (fun cs pre r hg hp args ha=>by
  unfold Rm at hg;split at hg
  ·cases hg
   match args,ha with
   | [u],ha =>
    have e:u=.agg (aB _).toArray:=ha.1;rw[hp.1]at e;subst e;refine (AQ (wd:=2) (fl:=2) (pt:=0) ⟨by decide,by decide,by decide,by decide,by decide,by decide⟩).mono ?_
    rintro e w2 ⟨b,cap,rfl,hc,hb,hge,ho⟩
    exact⟨b,cap,rfl,hb,hge,ho.lt,ho.row,ho.free,(fun h=>nomatch h)⟩
   | [],ha=>exact ha.elim
   | _::_::_,ha=>exact ha.2.elim
  ·cases hg))⟩
theorem oF {w:World} (hD:Dbj w):bU prog 6 (.one (.im (.bool true))) [] w:=by
 have hnt:f6.ntmps=59:=Ko;have hT:∀n d,TabOkW prog ((NG n).T d) w.heap.size w:=fun n d=>Hg hD d
 refine bP func6 (cs:=[]) (args:=[]) (c:=eT) rfl trivial (Nat.le_of_ble_eq_true (by kernel_rfl)) fun a w1 hA => ?_
 rw[hnt]at hA;rw[VB];refine wp_seq (aA aH hT (qI w) Kn trivial hA fun a w1 hA => ?_);refine wp_seq (aA aH hT (qI w) Km ⟨rfl,trivial⟩ hA fun a w1 hA => ?_);obtain⟨cap,hA⟩:=hA.soSlQ (s:=1) (k:=9) (n:=4) (l:=aG (el (nS 2)) 0 4) (by simp[VD]) (by simp[VD]);refine wp_seq (aA aH hT (qI w) (Kl cap) ⟨rfl,rfl,trivial⟩ hA fun a w1 hA => ?_);refine wp_seq (aA aH hT (qI w) (Kk cap) ⟨rfl,rfl,rfl,trivial⟩ hA fun a w1 hA => ?_);refine aA aH hT (qI w) (Kj cap) ⟨rfl,rfl,rfl,rfl,by decide,?_,rfl,fun e => ?_,trivial⟩ hA fun a w1 hA => ?_
 ·have h:=jE (h:=nS 2) (n:=4) (j:=0) (by decide);rw[show nS 2 0=LF 2 from Ak 2]at h;exact h
 ·exact Kp ((GT (dP (IG _ _ _)) (by decide)).1 e)
 ·have hH:Holds f6.ntmps w.heap.size w [.slot 0 (.im (.bool true))] a w1:=by rw[hnt]; exact hA
  exact gT (l:=[.im (.bool true)]) (r:=.one (.im (.bool true))) (by kernel_rfl) (by kernel_rfl) hH
def WC (wd fl pt:Nat):Nat→Nat:=Classical.choose (JX wd fl pt)
theorem vP (wd fl pt:Nat):tY wd fl pt (WC wd fl pt):=Classical.choose_spec (JX wd fl pt)
theorem QJ {w:World} {v:Value} {N:Nat} {f:Nat→Nat} (a b c:Int) (hv:LV w v N f) (hD:Dbj w):∃(n:Nat) (g:Nat→Nat) (k:Int),Calls prog 7 [.agg (aB (rZ a b c)).toArray,v].toArray w (PrF w n g k)∧n≤8 ∧
  ((k≠0∧n=0)∨(k=0∧∃wd fl pt:Nat,a=wd∧b=fl∧c=pt∧RdOk wd fl pt∧N=wd∧n=wd∧gY N f∧g=bO (WC wd fl pt) wd fl pt (fl+pt) f)):=by
 rcases Oo a b c hv hD with⟨k,hk,h⟩|⟨wd,fl,pt,rfl,rfl,rfl,hr,hN,hf,h⟩
 ·exact⟨0,_,k,h,by omega,Or.inl ⟨hk,rfl⟩⟩
 ·exact⟨wd,_,0,h _ (vP wd fl pt),hr.w8,Or.inr ⟨rfl,wd,fl,pt,rfl,rfl,rfl,hr,hN,rfl,hf,rfl⟩⟩
def SfIs (w:World) (u u':Value) (b:Bool):Prop:=∃n g n' g',LWQ w u n g∧LWQ w u' n' g'∧n≤4611686018427387904∧decide (lK n g n' g')=b
theorem SfIs.on {w w':World} {u u':Value} {b:Bool} (h:SfIs w u u' b) (hb:Below w.heap.size w w'):SfIs w' u u' b:=by
 obtain⟨n,g,n',g',h1,h2,h3⟩:=h;exact⟨n,g,n',g',h1.on hb,h2.on hb,h3⟩
def Ar (w:World) (b:Bool):kE
 | [.v (.im u),.v (.im u')]=>some ([SfIs w u u' b],.one (.im (.bool b)))
 | _=>none
theorem Aq {w w':World} (b:Bool) (hb:Below w.heap.size w w'):∀cs pre r,Ar w b cs=some (pre,r)→aW pre→∀(args:List Value),dV w' cs args→bU prog 9 r args w':=by
 intro cs pre r hg hp args ha;unfold Ar at hg;split at hg
 ·cases hg;obtain⟨n,g,n',g',h1,h2,h3,h4⟩:=hp.1.on hb
  match args,ha with
  | [a1,a2],ha =>
   have e1:a1=_:=ha.1;have e2:a2=_:=ha.2.1;subst e1; subst e2;have h:=oH h1 h2 h3;rw[h4]at h;exact h
  | [],ha=>exact ha.elim
  | [_],ha=>exact ha.2.elim
  | _::_::_::_,ha=>exact ha.2.2.elim
 ·cases hg
def Pg (w:World) (b:Bool) (num:Nat→Option Value) (_:Nat):Cfg:=⟨fun _=>((T0.add 6 (g0 (.one (.im (.bool true))))).add 8 MD).add 9 (Ar w b),fun _=>true,num⟩
theorem wW {w:World} (hD:Dbj w) (b:Bool) (num:Nat→Option Value) (n d:Nat):TabOkW prog ((Pg w b num n).T d) w.heap.size w:=by
 show TabOkW prog (((T0.add 6 (g0 (.one (.im (.bool true))))).add 8 MD).add 9 (Ar w b)) w.heap.size w;refine TabOkW.add (TabOkW.add (TabOkW.add ((bH _).w _ _) func6 (by kernel_rfl) (by kernel_rfl) fun w' hw => ?_) func8 (by kernel_rfl) (by kernel_rfl) fun w' _ cs pre r h1 h2 args ha=>TQ cs pre r h1 h2 args w' ha) func9 (by kernel_rfl) (by kernel_rfl) fun w' hw=>Aq b hw
 intro cs pre r hg hp args ha;unfold g0 at hg;split at hg
 ·cases hg
  match args,ha with
  | [],ha=>exact oF (hD.on hD.lt hw)
  | _::_,ha=>exact ha.elim
 ·cases hg
def dL:Code:=(f3.body).getD .skip
def Ux:Code:=cB (cB (cB (cB dL)))
theorem ZQ:dL=.seq (cA dL) (.seq (cA (cB dL)) (.seq (.region 3 (aE (cA (cB (cB dL)))) false) (.seq (.region 4 (aE (cA (cB (cB (cB dL))))) false) Ux))):=by kernel_rfl
def VT (va vb:Value) (xa xb xc:Int):List Fact:=[.slot 1 (.im va),.slot 2 (.im vb),.slot 3 (.pt 3 0),.row 3 true (rZ xa xb xc)]
theorem Oy (va vb:Value) (xa xb xc:Int):aJ prog (qG prog) f3.ntmps (fun _=>tC T0 fun _=>none) 60 (cA dL) (eO 0 [.v (.fl (rZ xa xb xc)),.v (.im va),.v (.im vb)]) (VT va vb xa xb xc)=some ([],.nrm,VT va vb xa xb xc):=by kernel_rfl
theorem Ox (w:World) (va vb:Value) (xa xb xc:Int):aJ prog (qG prog) f3.ntmps (Pg w true fun _=>none) 60 (cA (cB dL)) (VT va vb xa xb xc) (VT va vb xa xb xc)=some ([],.nrm,VT va vb xa xb xc):=by kernel_rfl
theorem Pf (W:World) (va:Value) (vb:Value) (xa:Int) (xb:Int) (xc:Int) (rb:Nat):cS prog { qG prog with x:=xO W (fun _=>none) (aD [(14,(rZ xa xb xc))]) (fun _=>none) } f3.ntmps (tC T0 fun _=>none) ((aE (cA (cB (cB dL)))).extract 0 2) [.slot 1 (.im va),.slot 2 (.im vb),.slot 3 (.im (ptV rb 0))] [.slot 14 (.fl (rZ xa xb xc)),.slot 15 (.im va),.slot 1 (.im va),.slot 2 (.im vb),.slot 3 (.im (ptV rb 0))]=some ([oldOf W rb 0 (rZ xa xb xc),bW (rZ xa xb xc)=3],[.slot 14 (.fl (rZ xa xb xc)),.slot 15 (.im va),.slot 1 (.im va),.slot 2 (.im vb),.slot 3 (.im (ptV rb 0))]):=by kernel_rfl
theorem Pe (va:Value) (vb:Value) (xa:Int) (xb:Int) (xc:Int) (rb:Nat) (p1:Option Addr) (n1:Nat) (m1:Nat) (k1:Int):cS prog (qG prog) f3.ntmps (tC T0 fun _=>none) ((aE (cA (cB (cB dL)))).extract 3 8) [.slot 16 (.tu [.im (.slice p1 n1 m1),.im (.int .i64 k1)]),.slot 16 (.im (.tuple #[(.slice p1 n1 m1),(.int .i64 k1)])),.slot 1 (.im va),.slot 2 (.im vb),.slot 3 (.im (ptV rb 0))] [.slot 1 (.im va),.slot 2 (.im vb),.slot 3 (.im (ptV rb 0)),.slot 7 (.im (.slice p1 n1 m1)),.slot 8 (.im (.int .i64 k1))]=some ([],[.slot 1 (.im va),.slot 2 (.im vb),.slot 3 (.im (ptV rb 0)),.slot 7 (.im (.slice p1 n1 m1)),.slot 8 (.im (.int .i64 k1))]):=by kernel_rfl
theorem Pd (W:World) (va:Value) (vb:Value) (xa:Int) (xb:Int) (xc:Int) (rb:Nat) (p1:Option Addr) (n1:Nat) (m1:Nat) (k1:Int):cS prog { qG prog with x:=xO W (fun _=>none) (aD [(20,(rZ xa xb xc))]) (fun _=>none) } f3.ntmps (tC T0 fun _=>none) ((aE (cA (cB (cB (cB dL))))).extract 0 2) [.slot 1 (.im va),.slot 2 (.im vb),.slot 3 (.im (ptV rb 0)),.slot 7 (.im (.slice p1 n1 m1)),.slot 8 (.im (.int .i64 k1))] [.slot 20 (.fl (rZ xa xb xc)),.slot 21 (.im vb),.slot 1 (.im va),.slot 2 (.im vb),.slot 3 (.im (ptV rb 0)),.slot 7 (.im (.slice p1 n1 m1)),.slot 8 (.im (.int .i64 k1))]=some ([oldOf W rb 0 (rZ xa xb xc),bW (rZ xa xb xc)=3],[.slot 20 (.fl (rZ xa xb xc)),.slot 21 (.im vb),.slot 1 (.im va),.slot 2 (.im vb),.slot 3 (.im (ptV rb 0)),.slot 7 (.im (.slice p1 n1 m1)),.slot 8 (.im (.int .i64 k1))]):=by kernel_rfl
theorem Pc (va:Value) (vb:Value) (xa:Int) (xb:Int) (xc:Int) (rb:Nat) (p1:Option Addr) (n1:Nat) (m1:Nat) (k1:Int) (p2:Option Addr) (n2:Nat) (m2:Nat) (k2:Int):cS prog (qG prog) f3.ntmps (tC T0 fun _=>none) ((aE (cA (cB (cB (cB dL))))).extract 3 8) [.slot 22 (.tu [.im (.slice p2 n2 m2),.im (.int .i64 k2)]),.slot 22 (.im (.tuple #[(.slice p2 n2 m2),(.int .i64 k2)])),.slot 1 (.im va),.slot 2 (.im vb),.slot 3 (.im (ptV rb 0)),.slot 7 (.im (.slice p1 n1 m1)),.slot 8 (.im (.int .i64 k1))] [.slot 1 (.im va),.slot 2 (.im vb),.slot 3 (.im (ptV rb 0)),.slot 7 (.im (.slice p1 n1 m1)),.slot 8 (.im (.int .i64 k1)),.slot 9 (.im (.slice p2 n2 m2)),.slot 10 (.im (.int .i64 k2))]=some ([],[.slot 1 (.im va),.slot 2 (.im vb),.slot 3 (.im (ptV rb 0)),.slot 7 (.im (.slice p1 n1 m1)),.slot 8 (.im (.int .i64 k1)),.slot 9 (.im (.slice p2 n2 m2)),.slot 10 (.im (.int .i64 k2))]):=by kernel_rfl
theorem Pb (w:World) (va vb:Value) (xa xb xc:Int) (rb:Nat) (p1:Option Addr) (n1 m1:Nat) (k1:Int) (p2:Option Addr) (n2 m2:Nat) (k2:Int):aJ prog (qG prog) f3.ntmps (Pg w true (aD [(27,.bool true),(35,.bool true)])) 60 Ux [.slot 1 (.im va),.slot 2 (.im vb),.slot 3 (.im (ptV rb 0)),.slot 7 (.im (.slice p1 n1 m1)),.slot 8 (.im (.int .i64 k1)),.slot 9 (.im (.slice p2 n2 m2)),.slot 10 (.im (.int .i64 k2))] [.slot 6 (.im (.bool true))]=some ([aF .neq .i64 k1 0=some (.bool true),aF .eql .i64 (Int.ofNat n1) 0=some (.bool true)],.rt,[.slot 6 (.im (.bool true))]):=by kernel_rfl
theorem Pa (w:World) (va vb:Value) (xa xb xc:Int) (rb:Nat) (p1:Option Addr) (n1 m1:Nat) (k1:Int) (p2:Option Addr) (n2 m2:Nat) (k2:Int):aJ prog (qG prog) f3.ntmps (Pg w true (aD [(27,.bool false),(31,.bool true),(35,.bool false),(39,.bool true)])) 60 Ux [.slot 1 (.im va),.slot 2 (.im vb),.slot 3 (.im (ptV rb 0)),.slot 7 (.im (.slice p1 n1 m1)),.slot 8 (.im (.int .i64 k1)),.slot 9 (.im (.slice p2 n2 m2)),.slot 10 (.im (.int .i64 k2))] [.slot 6 (.im (.bool true))]=some ([aF .neq .i64 k1 0=some (.bool false),aF .neq .i64 k2 0=some (.bool true),aF .eql .i64 (Int.ofNat n1) 0=some (.bool false),aF .eql .i64 (Int.ofNat n2) 0=some (.bool true)],.rt,[.slot 6 (.im (.bool true))]):=by kernel_rfl
theorem Oz (w:World) (z:Bool) (va vb:Value) (xa xb xc:Int) (rb:Nat) (p1:Option Addr) (n1 m1:Nat) (k1:Int) (p2:Option Addr) (n2 m2:Nat) (k2:Int):aJ prog (qG prog) f3.ntmps (Pg w z (aD [(27,.bool false),(31,.bool false),(47,.bool true)])) 60 Ux [.slot 1 (.im va),.slot 2 (.im vb),.slot 3 (.im (ptV rb 0)),.slot 7 (.im (.slice p1 n1 m1)),.slot 8 (.im (.int .i64 k1)),.slot 9 (.im (.slice p2 n2 m2)),.slot 10 (.im (.int .i64 k2))] [.slot 6 (.im (.bool (z==z)))]=some ([aF .neq .i64 k1 0=some (.bool false),aF .neq .i64 k2 0=some (.bool false),SfIs w va vb z,SfIs w (.slice p1 n1 m1) (.slice p2 n2 m2) z],.rt,[.slot 6 (.im (.bool (z==z)))]):=by kernel_rfl
theorem rW {k:Int} (h:k≠0):aF .neq .i64 k 0=some (.bool true):=by
 show some (Value.bool (k != 0))=_;rw[bne_iff_ne.2 h]
theorem Jd {n:Nat} {z:Bool} (h:decide (n=0)=z):aF .eql .i64 (Int.ofNat n) 0=some (.bool z):=by
 show some (Value.bool (Int.ofNat n==0))=_;rw[←h];congr 2
 by_cases e:n=0
 ·subst e; rfl
 ·rw[decide_eq_false e,beq_eq_false_iff_ne];intro q;exact e (Int.ofNat.inj q)
theorem zY {w0:World} {va vb:Value} {N M:Nat} {f g:Nat→Nat} (xa xb xc:Int) (hva:LV w0 va N f) (hvb:LV w0 vb M g) (hN:N≤4611686018427387904) (hDj:Dbj w0):Calls prog 3 #[.agg (aB (rZ xa xb xc)).toArray,va,vb] w0 (fun e w'=>e=.returned (.bool true)∧Below w0.heap.size w0 w'):=by
 have hG:∀base w,bD prog (qG prog) base w:=fun _ _=>(bM _).w _ _
 have hT:∀base w,∀d:Nat,TabOkW prog T0 base w:=fun _ _ _=>(bH _).w _ _
 refine bP func3 (cs:=[.v (.fl (rZ xa xb xc)),.v (.im va),.v (.im vb)]) (args:=[.agg (aB (rZ xa xb xc)).toArray,va,vb]) (c:=dL) rfl ⟨rfl,rfl,rfl,trivial⟩ (Nat.le_of_ble_eq_true (by kernel_rfl)) fun a1 w1 hA => ?_
 rw[ZQ];refine wp_seq (aA aH (fun _ d=>hT _ _ d) (hG _ _) (Oy va vb xa xb xc) trivial hA fun a1 w1 hA => ?_);refine wp_seq (aA aH (fun n d=>wW hDj true _ n d) (hG _ _) (Ox w0 va vb xa xb xc) trivial hA fun a1 W9 hA => ?_);obtain⟨rb,hA⟩:=hA.at (k:=3) (l:=rZ xa xb xc) (by simp[VT]);have o3:oldOf W9 rb 0 (rZ xa xb xc):=hA.old (k:=3) (by simp[VT]) (by simp);have B0:=hA.below;have hS:=hA.freshQ [(1,.im va),(2,.im vb),(3,.im (ptV rb 0))] (fun x hx=>by
  simp only[List.mem_cons,List.not_mem_nil,or_false]at hx
  rcases hx with rfl|rfl|rfl
  ·exact hA.slot (v:=va) (by simp[VT])
  ·exact hA.slot (v:=vb) (by simp[VT])
  ·exact hA.ptS (s:=3) (k:=3) (o:=0) (by simp[VT]) (by simp))
 have hva:=hva.on B0;have hvb:=hvb.on B0;have hD1:=hDj.on hDj.lt B0;clear hA;have hA:=hS;clear hS;show (Code.seq _ _).wp _ _ _ _;refine wp_seq (bI (l:=List.range' 0 ((aE (cA (cB (cB dL)))).extract 0 2).size++(2::(List.range' 3 ((aE (cA (cB (cB dL)))).extract 3 8).size++[]))) (by kernel_rfl) ?_);refine aK (c:=(tC T0 fun _=>none)) (hT _ _) (bX W9 _ _ _) (Pf W9 va vb xa xb xc rb) ⟨o3,rfl,trivial⟩ (by kernel_rfl) hA fun a w hA => ?_
 obtain⟨o,ho,⟨ts,hoo⟩,hod,hog⟩:∃o,(aE (cA (cB (cB dL))))[2]?=some o∧(∃ts,o.op=.call ⟨.value (.func 7),#[.tmp 14,.tmp 15],ts⟩)∧o.dst=some 16∧o.guard=none:=⟨_,rfl,⟨_,rfl⟩,rfl,rfl⟩
 obtain⟨n1,g1,k1,hc1,hle1,hx1⟩:=QJ xa xb xc (hva.on hA.below) (hD1.on hD1.lt hA.below);refine CE hA ho hoo hod hog (Nat.le_of_ble_eq_true (by kernel_rfl)) (vs:=[.agg (aB (rZ xa xb xc)).toArray,va]) rfl (ks:=[1,2,3]) (keep:=[(1,.im va),(2,.im vb),(3,.im (ptV rb 0))]) rfl rfl (bG func7 (by kernel_rfl) (by kernel_rfl)) (hc1) fun e W1 hW => ?_
 obtain⟨p1,m1,rfl,hb,q1,q2,q3,q4⟩:=hW;refine⟨_,rfl,fun a hF => ?_⟩;have hF:Holds f3.ntmps W1.heap.size W1 [.slot 16 (.im (.tuple #[(.slice p1 n1 m1),(.int .i64 k1)])),.slot 1 (.im va),.slot 2 (.im vb),.slot 3 (.im (ptV rb 0))] a W1:=hF;have hF:=hF.imTuQ (s:=16) (l:=[.im (.slice p1 n1 m1),.im (.int .i64 k1)]) (List.mem_of_getElem? (i:=0) rfl) rfl;have C1:Below W9.heap.size W9 W1:=hA.below.trans (hb.mono hA.below.size);have B1:Below w0.heap.size w0 W1:=B0.trans (C1.mono B0.size);have o3:=oldOf.go C1 (Nat.le_refl _) o3;have hva:=hva.on C1;have hvb:=hvb.on C1;have hD2:=hD1.on hD1.lt C1;have l1:LV W1 (.slice p1 n1 m1) n1 g1:=FrL.lv (w0:=w) ⟨p1,m1,rfl,q1,q2,q3,q4⟩;clear q1 q2 q3 q4;clear hA;refine aK (c:=(tC T0 fun _=>none)) (hT _ _) (hG _ _) (Pe va vb xa xb xc rb p1 n1 m1 k1) trivial (by kernel_rfl) hF fun a w hA => ?_
 clear hF;show (Code.seq _ _).wp _ _ _ _;refine wp_seq (bI (l:=List.range' 0 ((aE (cA (cB (cB (cB dL))))).extract 0 2).size++(2::(List.range' 3 ((aE (cA (cB (cB (cB dL))))).extract 3 8).size++[]))) (by kernel_rfl) ?_);refine aK (c:=(tC T0 fun _=>none)) (hT _ _) (bX W1 _ _ _) (Pd W1 va vb xa xb xc rb p1 n1 m1 k1) ⟨o3,rfl,trivial⟩ (by kernel_rfl) hA fun a w hA => ?_
 obtain⟨o,ho,⟨ts,hoo⟩,hod,hog⟩:∃o,(aE (cA (cB (cB (cB dL)))))[2]?=some o∧(∃ts,o.op=.call ⟨.value (.func 7),#[.tmp 20,.tmp 21],ts⟩)∧o.dst=some 22∧o.guard=none:=⟨_,rfl,⟨_,rfl⟩,rfl,rfl⟩
 obtain⟨n2,g2,k2,hc2,hle2,hx2⟩:=QJ xa xb xc (hvb.on hA.below) (hD2.on hD2.lt hA.below);refine CE hA ho hoo hod hog (Nat.le_of_ble_eq_true (by kernel_rfl)) (vs:=[.agg (aB (rZ xa xb xc)).toArray,vb]) rfl (ks:=[1,2,3,7,8]) (keep:=[(1,.im va),(2,.im vb),(3,.im (ptV rb 0)),(7,.im (.slice p1 n1 m1)),(8,.im (.int .i64 k1))]) rfl rfl (bG func7 (by kernel_rfl) (by kernel_rfl)) (hc2) fun e W2 hW => ?_
 obtain⟨p2,m2,rfl,hb,q1,q2,q3,q4⟩:=hW;refine⟨_,rfl,fun a hF => ?_⟩;have hF:Holds f3.ntmps W2.heap.size W2 [.slot 22 (.im (.tuple #[(.slice p2 n2 m2),(.int .i64 k2)])),.slot 1 (.im va),.slot 2 (.im vb),.slot 3 (.im (ptV rb 0)),.slot 7 (.im (.slice p1 n1 m1)),.slot 8 (.im (.int .i64 k1))] a W2:=hF;have hF:=hF.imTuQ (s:=22) (l:=[.im (.slice p2 n2 m2),.im (.int .i64 k2)]) (List.mem_of_getElem? (i:=0) rfl) rfl;have C2:Below W1.heap.size W1 W2:=hA.below.trans (hb.mono hA.below.size);have B2:Below w0.heap.size w0 W2:=B1.trans (C2.mono B1.size);have o3:=oldOf.go C2 (Nat.le_refl _) o3;have hva:=hva.on C2;have hvb:=hvb.on C2;have l1:=l1.on C2;have hD3:=hD2.on hD2.lt C2;have l2:LV W2 (.slice p2 n2 m2) n2 g2:=FrL.lv (w0:=w) ⟨p2,m2,rfl,q1,q2,q3,q4⟩;clear q1 q2 q3 q4;clear hA;refine aK (c:=(tC T0 fun _=>none)) (hT _ _) (hG _ _) (Pc va vb xa xb xc rb p1 n1 m1 k1 p2 n2 m2 k2) trivial (by kernel_rfl) hF fun a w hA => ?_
 clear hF;have fin:∀{a w},Holds f3.ntmps W2.heap.size W2 [.slot 6 (.im (.bool true))] a w→bodyPost prog f3 (fun e w'=>e=.returned (.bool true)∧Below w0.heap.size w0 w') .ret a w:=fun hA=>bR (l:=[.im (.bool true)]) (r:=.one (.im (.bool true))) (by kernel_rfl) (by kernel_rfl) hA ⟨rfl,B2.trans (hA.below.mono B2.size)⟩
 rcases hx1 with⟨hk1,hn1⟩|⟨hk1,wd,fl,pt,ea,eb,ec,hr,hN1,hn1,hfR,hg1⟩
 ·subst hn1;exact aA aH (fun n d=>wW hD3 true _ n d) (hG _ _) (Pb W2 va vb xa xb xc rb p1 0 m1 k1 p2 n2 m2 k2) ⟨rW hk1,Jd (decide_eq_true rfl),trivial⟩ hA fun a w hA=>fin hA
 ·subst hk1
  rcases hx2 with⟨hk2,hn2⟩|⟨hk2,wd',fl',pt',e1,e2,e3,hr',hN2,hn2,hgR,hg2⟩
  ·subst hn2;exact aA aH (fun n d=>wW hD3 true _ n d) (hG _ _) (Pa W2 va vb xa xb xc rb p1 _ m1 0 p2 0 m2 k2) ⟨rfl,rW hk2,Jd (decide_eq_false (by have:=hr.w2; omega)),Jd (decide_eq_true rfl),trivial⟩ hA fun a w hA=>fin hA
  ·subst hk2;obtain rfl:wd=wd':=Int.ofNat.inj (ea.symm.trans e1);obtain rfl:fl=fl':=Int.ofNat.inj (eb.symm.trans e2);obtain rfl:pt=pt':=Int.ofNat.inj (ec.symm.trans e3);subst hN1; subst hN2; subst hn1; subst hn2;refine aA aH (fun n d=>wW hD3 _ _ n d) (hG _ _) (Oz W2 _ va vb xa xb xc rb p1 _ m1 0 p2 _ m2 0) ⟨rfl,rfl,⟨_,_,_,_,hva.lwQ,hvb.lwQ,hN,rfl⟩,⟨_,_,_,_,l1.lwQ,l2.lwQ,by have:=hr.w8; omega,?_⟩,trivial⟩ hA fun a w hA=>fin (by rw[beq_self_eq_true]at hA; exact hA)
   rw[hg1,hg2];refine decide_eq_decide.2 ⟨fun h=>⟨rfl,fun j hj => ?_⟩,fun h=>⟨rfl,fun j hj=>rO h.2 _ j hj⟩⟩;exact AC hr.w2 hr.w8 hfR hgR (fl+pt) h.2 j hj
end Go.Proofs.YtpbljiejmfahcaaDoor.Ex
namespace Go.Proofs.YtpbljiejmfahcaaDoor
open Go.Proofs.Tryd
open Go.ChangeShapes Go.WideShapes Go.ChangeAt Go.RowKit
theorem own:ownKnob prog.godebug=none:=by kernel_rfl
theorem lX:laidOutB prog=true:=by kernel_rfl
theorem KU:prog.cellsOf 32=1:=by kernel_rfl
theorem Pz {α:Type} (l:List α) (h:(⟨l⟩:Array α).size=4):∃a b c d,l=[a,b,c,d]:=by
 match l,h with
 | [a,b,c,d],_=>exact⟨a,b,c,d,rfl⟩
theorem fD {n:Int} (h:(Lit.int .u64 n).wf=true):∃k:Nat,n=(k:Int)∧k<18446744073709551616:=by
 obtain⟨h1,h2⟩:=bounds_u64 h;obtain⟨k,rfl⟩:=Int.eq_ofNat_of_zero_le h1;exact⟨k,rfl,by omega⟩
end Go.Proofs.YtpbljiejmfahcaaDoor
namespace Go.Proofs.YtpbljiejmfahcaaDoor.Ex
open Go.Proofs.Tryd
open Go.Deep Go.ChangeShapes Go.WideShapes Go.ChangeAt Go.RowKit
theorem Ks {P:Program} {W:World} {base:Nat} {t:TypeId} {fs:Array Field} {v:Value} (ht:P.underlying t=some (.struct fs)) (h:Value.okWide P W .any base t v):∃cs,v=.agg cs:=by
 obtain⟨cs,rfl,_⟩:∃cs,v=.agg cs∧cs.size=P.cellsOf t∧Row.okWide P W .any base t cs:=by
  simpa[Value.okWide,ht]using h
 exact⟨cs,rfl⟩
section
variable {H:Type} {enc:TypeId×Value→H} {W:World}
end
end Go.Proofs.YtpbljiejmfahcaaDoor.Ex
namespace Go.Proofs.YtpbljiejmfahcaaDoor
open Go.Proofs.Tryd
open Go.ChangeShapes Go.WideShapes Go.ChangeAt Go.RowKit
theorem uY:prog.cellsOf 34=4:=by kernel_rfl
theorem CY:prog.cellsOf 32=1:=by kernel_rfl
theorem Id (cs:List Value) (h:cs.length=4):∃c0 c1 c2 c3,cs=[c0,c1,c2,c3]:=by
 match cs,h with
 | [c0,c1,c2,c3],_=>exact⟨c0,c1,c2,c3,rfl⟩
theorem QS {H:Type} {enc:TypeId×Value→H} {W:World} {o:Option Addr} {len cap:Nat} {d:DataW H} {ps:List MemPlace} (h:DataW.Trod enc prog W 0 (fun _=>true) true 24 (.slice o len cap) d ps) (hl:∀x∈ps,x.block<W.heap.size) :
  len≤9223372036854775807∧(len=0∨(0<len∧∃g off A,o=some ⟨g,off,none⟩∧g<W.heap.size∧Um len A∧LAt W g off len A)):=by
 obtain⟨fuel,hf⟩:=h
 rcases DataW.trod_slice underlying24 hf with⟨hcs,_⟩|⟨a,len',cap',elems,rest,n,_,hcs,hx,hb,hlc,hm,hlen,hel,_⟩
 ·simp[Value.cells]at hcs;obtain⟨rfl,rfl,rfl⟩:=hcs;exact⟨by omega,Or.inl rfl⟩
 ·simp[Value.cells]at hcs;obtain⟨rfl,rfl,rfl⟩:=hcs;refine⟨by unfold maxLen at hm; omega,?_⟩
  by_cases h0:len=0
  ·exact Or.inl h0
  right;refine⟨by omega,?_⟩;rw[uY]at hel;have each:∀i,i<len→∃q:Nat×Nat×Nat×Nat,bY q.1 q.2.1 q.2.2.1 q.2.2.2∧W.cell? (a.add (i*4))=some (.int .u64 q.1)∧W.cell? (a.add (i*4+1))=some (.int .u64 q.2.1)∧W.cell? (a.add (i*4+2))=some (.int .u64 q.2.2.1)∧W.cell? (a.add (i*4+3))=some (.int .u64 q.2.2.2):=by
   intro i hi;have e1:=hel i hi;rw[List.getElem?_eq_getElem (by omega),Option.bind_eq_some_iff]at e1;obtain⟨cs',h1,h2⟩:=e1;obtain⟨_,hlen',hcell⟩:=World.cells?_some h1;obtain⟨c0,c1,c2,c3,rfl⟩:=Id cs' hlen';obtain⟨y0,y1,y2,y3,m,_,hy0,hy1,hy2,hy3⟩:=trod_array4 underlying34 CY h2;obtain⟨x0,e0,_,w0⟩:=DataW.trod_int underlying32 hy0;obtain⟨x1,e1,_,w1⟩:=DataW.trod_int underlying32 hy1;obtain⟨x2,e2,_,w2⟩:=DataW.trod_int underlying32 hy2;obtain⟨x3,e3,_,w3⟩:=DataW.trod_int underlying32 hy3;simp at e0 e1 e2 e3;subst e0 e1 e2 e3;obtain⟨a0,rfl,k0⟩:=fD w0;obtain⟨a1,rfl,k1⟩:=fD w1;obtain⟨a2,rfl,k2⟩:=fD w2;obtain⟨a3,rfl,k3⟩:=fD w3;have g0:=hcell 0 (by omega);have g1:=hcell 1 (by omega);have g2:=hcell 2 (by omega);have g3:=hcell 3 (by omega);rw[Go.Deep.add_add]at g0 g1 g2 g3;exact⟨(a0,a1,a2,a3),⟨k0,k1,k2,k3⟩,by simpa using g0,by simpa using g1,by simpa using g2,by simpa using g3⟩
  obtain⟨g,off,spot⟩:=a;obtain⟨q0,_,hq0,_⟩:=each 0 (by omega);have hspot:spot=none:=by simpa[Addr.add]using World.cell?_spot hq0
  subst hspot;have hg:g<W.heap.size:=hl (.cell g off) (by
   have:=congrArg Prod.snd hx;simp only at this;rw[this];refine List.mem_append_left _ (MemPlace.mem_row.2 ⟨0,?_,by simp⟩);rw[uY,hlen];omega)
  have each':∀i,∃q:Nat×Nat×Nat×Nat,i<len→bY q.1 q.2.1 q.2.2.1 q.2.2.2∧W.cell? ⟨g,off+i*4,none⟩=some (.int .u64 q.1)∧W.cell? ⟨g,off+i*4+1,none⟩=some (.int .u64 q.2.1)∧W.cell? ⟨g,off+i*4+2,none⟩=some (.int .u64 q.2.2.1)∧W.cell? ⟨g,off+i*4+3,none⟩=some (.int .u64 q.2.2.2):=fun i=>by
   by_cases hi:i<len
   ·obtain⟨q,hq⟩:=each i hi;refine⟨q,fun _ => ?_⟩;simp only[add_plain]at hq;simpa[Nat.add_assoc]using hq
   ·exact⟨(0,0,0,0),fun h=>absurd h hi⟩
  refine⟨g,off,fun i j=>match j with|0=>(Classical.choose (each' i)).1|1=>(Classical.choose (each' i)).2.1|2=>(Classical.choose (each' i)).2.2.1|_=>(Classical.choose (each' i)).2.2.2,rfl,hg,fun k hk=>(Classical.choose_spec (each' k) hk).1,fun k hk=>(Classical.choose_spec (each' k) hk).2⟩
open Go.Deep Go.ChangeShapes Go.WideShapes Go.ChangeAt Go.RowKit
def eS:List (String×DataW Unit):=[("math/bits.deBruijn64tab",Rows.laid_math_bits_deBruijn64tab)]
theorem sW (os:Os) (args:Array Value):laidMetH prog eS ((World.doorLaid prog 400 os).forCall (fun _ _=>0) ⟨#[],args,[]⟩).memory :=
 laidMetH_of_parts3 (fuel:=8) (laidMet_of_run' 8 (by kernel_rfl) (by kernel_rfl)) (by kernel_rfl) (by kernel_rfl)
theorem TY:prog.globalNamed "math/bits.deBruijn64tab" = some 0:=by kernel_rfl
theorem Jn:(prog.globals[0]?).map (·.type)=some 111:=by kernel_rfl
theorem TX:(Rows.laid_math_bits_deBruijn64tab:DataW Unit)=Lib.tabData .u8 (Lib.deBruijn64tab.map Int.ofNat):=by kernel_rfl
theorem MO:prog.cellsOf 111=64:=by kernel_rfl
theorem Jm:prog.cellsOf 5=1:=by kernel_rfl
theorem MN:(eS.all fun x=>x.2.handleName?.isNone)=true:=by kernel_rfl
theorem lC {W:World} (h:laidMetH prog eS W):Ex.Dbj W:=by
 rw[MakeChecks.laidMetH_plain _ _ _ MN]at h;have h2:laidMet prog [("math/bits.deBruijn64tab",Rows.laid_math_bits_deBruijn64tab)] W:=h;rw[TX]at h2;have h3:=Lib.tabIs_of_head (g:=0) TY Jn underlying111 underlying5 Jm MO h2;intro j hj;have h4:=h3.cell TY j (by rw[List.length_map]; exact hj);rw[h4,List.getD_eq_getElem?_getD,List.getElem?_map,List.getD_eq_getElem?_getD,List.getElem?_eq_getElem hj];rfl
namespace Ex
theorem Kr {P:Program} {W:World} {base:Nat} {t n e:TypeId} {v:Value} (ht:P.underlying t=some (.array n e)) (h:Value.okWide P W .any base t v):∃cs,v=.agg cs∧cs.size=P.cellsOf t:=by
 obtain⟨cs,rfl,hs,_⟩:∃cs,v=.agg cs∧cs.size=P.cellsOf t∧Row.okWide P W .any base t cs:=by
  simpa[Value.okWide,ht]using h
 exact⟨cs,rfl,hs⟩
section
variable {H:Type} {enc:TypeId×Value→H} {W:World}
theorem IP {base:Nat} {v:Value} {d:DataW H} {ps:List MemPlace} {pt:Array TypeId} {args:Array Value} (hval:∀(j:Nat) t v,pt[j]?=some t→args[j]?=some v→Value.okWide prog W .any base t v) (j:Nat) (hj:pt[j]?=some 34) (ha:args[j]?=some v)
  (h:DataW.Trod enc prog W 0 (fun _=>true) true 34 v d ps):∃x:Nat,x<cU∧v=.agg (aB [At.q x]).toArray:=by
 obtain⟨⟨l⟩,rfl,hs⟩:=Kr (t:=34) underlying34 (hval j 34 v hj ha);rw[show prog.cellsOf 34=4 by kernel_rfl]at hs;obtain⟨fuel,h⟩:=h;obtain⟨c0,c1,c2,c3,rfl⟩:=Pz l hs;obtain⟨y0,y1,y2,y3,m,hx,hy0,hy1,hy2,hy3⟩:=trod_array4 underlying34 KU h;obtain⟨x0,e0,rfl,w0⟩:=DataW.trod_int underlying32 hy0;obtain⟨x1,e1,rfl,w1⟩:=DataW.trod_int underlying32 hy1;obtain⟨x2,e2,rfl,w2⟩:=DataW.trod_int underlying32 hy2;obtain⟨x3,e3,rfl,w3⟩:=DataW.trod_int underlying32 hy3;simp at e0 e1 e2 e3;obtain⟨a0,rfl,k0⟩:=fD w0;obtain⟨a1,rfl,k1⟩:=fD w1;obtain⟨a2,rfl,k2⟩:=fD w2;obtain⟨a3,rfl,k3⟩:=fD w3;subst e0 e1 e2 e3;have hv:aC a0 a1 a2 a3<115792089237316195423570985008687907853269984665640564039457584007913129639936:=by unfold aC; omega
 obtain⟨q0,q1',q2',q3⟩:=nX ⟨k0,k1,k2,k3⟩ hv rfl;refine⟨aC a0 a1 a2 a3,hv,?_⟩;show _=Value.agg (w4 (aC a0 a1 a2 a3)++[]).toArray;unfold w4;rw[←q0,←q1',←q2',←q3];rfl
end
theorem FT:prog.bytesOf 34=32:=by kernel_rfl
theorem rE {W:World} {g:Nat} {A:Nat→Nat→Nat}:∀(n s off:Nat),(∀k,s≤k→k<s+n→bY (A k 0) (A k 1) (A k 2) (A k 3)) →
  (∀k,s≤k→k<s+n→W.cell? ⟨g,off+k*4,none⟩=some (.int .u64 (A k 0))∧W.cell? ⟨g,off+k*4+1,none⟩=some (.int .u64 (A k 1))∧W.cell? ⟨g,off+k*4+2,none⟩=some (.int .u64 (A k 2))∧W.cell? ⟨g,off+k*4+3,none⟩=some (.int .u64 (A k 3))) →
  W.rangeAt g (off+s*4) (aB (aG (el fun k=>aC (A k 0) (A k 1) (A k 2) (A k 3)) s n))
 | 0,s,off,_,_=>fun j v hj=>by simp[aG,aB]at hj
 | n+1,s,off,h1,h2=>fun j v hj=>by
  have ih:=rE (g:=g) (W:=W) (A:=A) n (s+1) off (fun k a b=>h1 k (by omega) (by omega)) (fun k a b=>h2 k (by omega) (by omega));have hj:(aB (el (fun k=>aC (A k 0) (A k 1) (A k 2) (A k 3)) s++aG (el fun k=>aC (A k 0) (A k 1) (A k 2) (A k 3)) (s+1) n))[j]?=some v:=hj;rw[aL]at hj;have ok:=h1 s (Nat.le_refl _) (by omega);obtain⟨c0,c1,c2,c3⟩:=h2 s (Nat.le_refl _) (by omega);have hv:aC (A s 0) (A s 1) (A s 2) (A s 3)<cU:=by obtain⟨k0,k1,k2,k3⟩:=ok; show _<115792089237316195423570985008687907853269984665640564039457584007913129639936; unfold aC; omega
  obtain⟨q0,q1,q2,q3⟩:=nX ok hv rfl;have e4:(aB (el (fun k=>aC (A k 0) (A k 1) (A k 2) (A k 3)) s))=[.int .u64 (A s 0),.int .u64 (A s 1),.int .u64 (A s 2),.int .u64 (A s 3)]:=by
   show w4 (aC (A s 0) (A s 1) (A s 2) (A s 3))++[]=_;unfold w4;rw[←q0,←q1,←q2,←q3];rfl
  rw[e4]at hj
  match j,hj with
  | 0,hj=>cases hj; exact c0
  | 1,hj=>cases hj; exact c1
  | 2,hj=>cases hj; exact c2
  | 3,hj=>cases hj; exact c3
  | j+4,hj =>
   have:=ih j v hj;rw[show off+s*4+(j+4)=off+(s+1)*4+j by omega];exact this
theorem oQ {H:Type} {enc:TypeId×Value→H} {W:World} {o:Option Addr} {len cap:Nat} {d:DataW H} {ps:List MemPlace} (h:DataW.Trod enc prog W 0 (fun _=>true) true 24 (.slice o len cap) d ps) (hl:∀x∈ps,x.block<W.heap.size)
  (hsz:∀elems spare,d=.slice elems spare→(elems.length+spare.length)*prog.bytesOf 34≤reachBytes) :
  ∃f,LV W (.slice o len cap) len f∧(o=none→cap=0)∧len*32≤140737488351232:=by
 have hop:=(QS h hl).2;obtain⟨fuel,hf⟩:=h;have hlen:len*32≤140737488351232∧len≤cap∧(o=none→cap=0):=by
  rcases DataW.trod_slice underlying24 hf with⟨hcs,_⟩|⟨a,len',cap',elems,rest,n,_,hcs,hx,hb,hlc,hm,hlen,hel,_⟩
  ·simp[Value.cells]at hcs;obtain⟨rfl,rfl,rfl⟩:=hcs;exact⟨by omega,Nat.le_refl _,fun _=>rfl⟩
  ·simp[Value.cells]at hcs;obtain⟨rfl,rfl,rfl⟩:=hcs;have hs:=hsz _ _ (congrArg Prod.fst hx);rw[FT]at hs;simp only[List.length_map,reachBytes]at hs;exact⟨by omega,hlc,fun h=>by cases h⟩
 rcases hop with h0|⟨h0,g,off,A,rfl,hg,hA,hc⟩
 ·subst h0;exact⟨fun _=>0,⟨_,_,rfl,Nat.zero_le _,fun j hj=>by omega,fun h=>by omega⟩,hlen.2.2,by omega⟩
 ·refine⟨fun k=>aC (A k 0) (A k 1) (A k 2) (A k 3),⟨_,_,rfl,hlen.2.1,fun j hj => ?_,fun _=>⟨g,off,rfl,hg,?_⟩⟩,hlen.2.2,by omega⟩
  ·obtain⟨k0,k1,k2,k3⟩:=hA j hj;show aC _ _ _ _<115792089237316195423570985008687907853269984665640564039457584007913129639936;unfold aC; omega
  ·have:=rE (W:=W) (g:=g) (A:=A) len 0 off (fun k _ b=>hA k (by omega)) (fun k _ b=>hc k (by omega));rw[Nat.zero_mul,Nat.add_zero]at this;exact this
section
variable {H:Type} {enc:TypeId×Value→H} {W:World}
theorem Zv:prog.cellsOf 23=3:=by kernel_rfl
theorem Tp:prog.cellsOf 3=1:=by kernel_rfl
theorem Ie (l:List Value) (h:l.length=3):∃a b c,l=[a,b,c]:=by
 match l,h with
 | [a,b,c],_=>exact⟨a,b,c,rfl⟩
theorem wV {base:Nat} {v:Value} {d:DataW H} {ps:List MemPlace} {pt:Array TypeId} {args:Array Value} (hval:∀(j:Nat) t v,pt[j]?=some t→args[j]?=some v→Value.okWide prog W .any base t v) (j:Nat) (hj:pt[j]?=some 23) (ha:args[j]?=some v)
  (h:DataW.Trod enc prog W 0 (fun _=>true) true 23 v d ps):∃a b c:Int,v=.agg (aB (rZ a b c)).toArray:=by
 have hv:=hval j 23 v hj ha;obtain⟨cs,rfl⟩:=Ks (t:=23) underlying23 hv;obtain⟨fuel,hf⟩:=h;obtain⟨l⟩:=cs;have hf:DataW.trod enc prog W 0 (fun _=>true) true fuel 23 l=some (d,ps):=hf;obtain⟨y0,y1,y2,n,_,hl,h0,h1,h2⟩:=trod_struct3 underlying23 hf;rw[Zv]at hl;obtain⟨c0,c1,c2,rfl⟩:=Ie l hl;simp only[Tp]at h0 h1 h2;obtain⟨x0,e0,_,_⟩:=DataW.trod_int underlying3 h0;obtain⟨x1,e1,_,_⟩:=DataW.trod_int underlying3 h1;obtain⟨x2,e2,_,_⟩:=DataW.trod_int underlying3 h2;simp at e0 e1 e2;subst e0 e1 e2;exact⟨x0,x1,x2,rfl⟩
end
end Ex
open Go.ChangeShapes Go.WideShapes Go.ChangeAt Go.RowKit
theorem wR (os:Os) (started:os.Started) (H:Type) (enc:TypeId×Value→H) :
  ReturnsInHanded {} checked os 3 .any (fun w args=>(Rows.poseidonOneSpec.pre enc prog f3 [] false w args∧laidMetH prog eS w)∧sizedMet enc prog f3 (OpenSpec.ofChange Rows.poseidonOneSpec) false w args)
   (Rows.poseidonOneSpec.post enc prog f3 false true false false):=by
 refine returnsInHanded_of_change_and (C:=checked) (X:=fun w _=>laidMetH prog eS w) (fun _ _ _ hh h=>h.of_heap hh) own started (by kernel_rfl) func3
  (ChangeSpec.witness_shaped (enc:=enc) (C:=checked) (os:=os) (X:=fun w _=>laidMetH prog eS w) false (World.doorLaid prog 400 os) #[.agg #[.int .i64 0,.int .i64 0,.int .i64 0],.slice none 0 0,.slice none 0 0] 8 rfl (World.shaped_of_RefB (by kernel_rfl) (by kernel_rfl)) (by kernel_rfl) (by kernel_rfl) (by kernel_rfl) (sW os _)) ?_
 intro W base args ds gs before hval0 hW _ hsz0 hL _;have hDj:Ex.Dbj W:=lC hL;have hval:∀(j:Nat) t v,f3.params[j]?=some t→args[j]?=some v→Value.okWide prog W .any base t v:=hval0
 have hW':=hW;obtain⟨p,q,hA0,hV,rfl,_,_⟩:=hW;have hA:DataW.TrodAll enc prog W 0 (fun _=>true) true f3.params.toList args.toList ds p:=hA0;have hsz:(DataW.weightsEach prog (f3.params.toList++Rows.poseidonOneSpec.plain.varTypes prog) (ds++gs)).all (· ≤ reachBytes)=true:=hsz0;rw[params3]at hA hval hsz;obtain⟨v0,v1,v2,d0,d1,d2,p0,p1,p2,rfl,rfl,rfl,h0,h1,h2⟩:=trodAll_three hA;obtain⟨rfl,rfl⟩:=trodVars_none hV;obtain⟨xa0,xb0,xc0,rfl⟩:=Ex.wV hval 0 rfl rfl h0;obtain⟨bo1,bn1,bc1,rfl⟩:=okWide_slice underlying24 (hval 1 _ _ rfl rfl);obtain⟨bo2,bn2,bc2,rfl⟩:=okWide_slice underlying24 (hval 2 _ _ rfl rfl);clear hA0 hval0;simp only[List.append_nil]at hW';have l0:∀x∈p0,x.block<W.heap.size:=fun x hx=>hW'.lt x (by simp[hx])
 have l1:∀x∈p1,x.block<W.heap.size:=fun x hx=>hW'.lt x (by simp[hx])
 have l2:∀x∈p2,x.block<W.heap.size:=fun x hx=>hW'.lt x (by simp[hx])
 obtain⟨f1,lv1,nz1,sz1⟩:=Ex.oQ h1 l1 (fun elems spare e=>sized_slice hsz (j:=1) (t:=24) (e:=34) rfl (by rw[e]; rfl) underlying24);obtain⟨f2,lv2,nz2,sz2⟩:=Ex.oQ h2 l2 (fun elems spare e=>sized_slice hsz (j:=2) (t:=24) (e:=34) rfl (by rw[e]; rfl) underlying24);refine Calls.mono (Ex.zY xa0 xb0 xc0 lv1 lv2 (by omega) hDj) fun e W' ⟨he,hbl⟩ => ?_
 subst he;have kR:∀{v d ps},DataW.Trod enc prog W 0 (fun _=>true) true 23 v d ps→(∀x∈ps,x.block<W.heap.size)→DataW.Trod enc prog W' 0 (fun b=>decide (b<W.heap.size)) true 23 v d ps :=
  fun h l=>Below.trod lX (by kernel_rfl) (of_decide_eq_true (by kernel_rfl)) h hbl l
 have kV:∀{v d ps},DataW.Trod enc prog W 0 (fun _=>true) true 24 v d ps→(∀x∈ps,x.block<W.heap.size)→DataW.Trod enc prog W' 0 (fun b=>decide (b<W.heap.size)) true 24 v d ps :=
  fun h l=>Below.trod lX (by kernel_rfl) (of_decide_eq_true (by kernel_rfl)) h hbl l
 exact⟨_,rfl,⟨_,_,_,[],_,[],hW',trodAll_mk1 (shut_bool underlying4 _),trodAll_mk3 (kR h0 l0) (kV h1 l1) (kV h2 l2),rfl,hbl.frame _,fun h=>by cases h⟩⟩
theorem pH:Rows.PoseidonOneSaid :=
 OpenClaim.holds_of_wide 3 f3 rfl rfl rfl rfl rfl rfl rfl ⟨rfl,rfl,rfl,rfl,rfl⟩ rfl rfl rfl rfl rfl (by kernel_rfl) func3 (by kernel_rfl)
  (of_decide_eq_true (by kernel_rfl)) (by unfold Func.isWrapper; first|(rw[if_pos (by decide +kernel)]; kernel_rfl)|(rw[if_neg (by decide +kernel)]; exact⟨rfl,rfl⟩))
  (fun os started H enc _=>wR os started H enc)
end Go.Proofs.YtpbljiejmfahcaaDoor
