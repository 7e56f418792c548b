/- Po13 -/
import Derived.Test.YtpbljiejmfahcaaDoorPo11
import Derived.Test.YtpbljiejmfahcaaDoorProg
set_option maxRecDepth 100000
set_option linter.unusedVariables false
set_option linter.unusedSimpArgs false
set_option linter.unnecessarySimpa false
noncomputable section
namespace Go.Proofs.YtpbljiejmfahcaaDoor.Ex
open Go.Proofs.Tryd
open Go.RowKit
theorem Yq (a b c:Int) (v:Value):eM prog (qG prog) (fun _=>tC (Ug 91) (fun _=>none)) f10 60 [.v (.fl (rZ a b c)),.v (.im v)]=some ([FZ a b c 91],.many [.fl zC,.im (.int .i64 91)]):=by kernel_rfl
theorem Yp (a b c:Int) (p:Option Addr) (n m:Nat):eM prog (qG prog) (fun _=>tC (TpF (.slice p n m)) (aD [(15,.bool false)])) f10 60 [.v (.fl (rZ a b c)),.v (.im (.slice p n m))]=some ([FZ a b c 0,aF .gtr .i64 (Int.ofNat n) 4096=some (.bool false),Value.slice p n m=.slice p n m],.many [.fl zC,.im (.int .i64 21)]):=by kernel_rfl
def xV (idx:Nat→Option Nat) (ld st:Nat→Option (List At)) (gen:Nat→Option Value) (mks:Nat→Option (Nat×List At)) (T3:Tab3):Ext:={ Ext.none with idx:=idx,ld:=ld,st:=st,gen:=gen,mks:=mks,T2:=KS,T3:=T3,T4:=KJ,T5:=iA,T6:=KQ }
theorem GQ {idx:Nat→Option Nat} {ld st:Nat→Option (List At)} {gen:Nat→Option Value} {mks:Nat→Option (Nat×List At)} {T3:Tab3} {base:Nat} {w:World} (h3:∀w',Below base w w'→FsAt prog T3 w'):bD prog { qG prog with x:=xV idx ld st gen mks T3 } base w :=
 ⟨(bM _).1,eF (fun b o l h=>h.elim) (fun w' _=>FrAt.none _ _) h3⟩
def Ve (a b c:Int) (R:RV):kE
 | [.v (.fl l),.v (.im (.slice none 0 0))]=>some ([aB l=aB (rZ a b c)],R)
 | _=>none
theorem SX {w:World} {a b c:Int} {R:RV} (h:bU prog 10 R [.agg (aB (rZ a b c)).toArray,.slice none 0 0] w):∀cs pre r,Ve a b c R cs=some (pre,r)→aW pre→∀(args:List Value),dV w cs args→bU prog 10 r args w:=by
 intro cs pre r hg hp args ha;unfold Ve at hg;split at hg
 ·cases hg
  match args,ha with
  | [u,v],ha =>
   have e1:u=.agg (aB _).toArray:=ha.1;have e2:v=_:=ha.2.1;rw[hp.1]at e1;subst e1; subst e2;exact h
  | [],ha=>exact ha.elim
  | [_],ha=>exact ha.2.elim
  | _::_::_::_,ha=>exact ha.2.2.elim
 ·cases hg
def Vd (a b c:Int) (x:Nat) (R:RV):kE
 | [.v (.fl l),.s l2 1 1]=>some ([aB l=aB (rZ a b c),aB l2=aB [At.q x]],R)
 | _=>none
theorem SW {w:World} {a b c:Int} {x:Nat} {R:RV} (h:∀b' o,LV w (.slice (some ⟨b',o,none⟩) 1 1) 1 (fun _=>x)→bU prog 10 R [.agg (aB (rZ a b c)).toArray,.slice (some ⟨b',o,none⟩) 1 1] w) (hx:x<cU):∀cs pre r,Vd a b c x R cs=some (pre,r)→aW pre→∀(args:List Value),dV w cs args→bU prog 10 r args w:=by
 intro cs pre r hg hp args ha;unfold Vd at hg;split at hg
 ·cases hg
  match args,ha with
  | [u,v],ha =>
   have e1:u=.agg (aB _).toArray:=ha.1;have hv:LV w v 1 (fun _=>x):=LV.ofS (N:=1) (f:=fun _=>x) ha.2.1 hp.2.1 rfl (Nat.le_refl _) (fun _ _=>hx);obtain⟨b',o,e2,_⟩:=ha.2.1;rw[hp.1]at e1;subst e1; subst e2;exact h _ _ hv
  | [],ha=>exact ha.elim
  | [_],ha=>exact ha.2.elim
  | _::_::_::_,ha=>exact ha.2.2.elim
 ·cases hg
def MC (a b c:Int) (N:Nat) (f:Nat→Nat) (R:FS):List CA→Option (List Prop×FS)
 | [.v (.fl r),.s l n m]=>some ([aB r=aB (rZ a b c),aB l=aB (aG (el f) 0 N),n=N,N≤m],R)
 | _=>none
def Ow (wd fl pt:Nat) (xs f:Nat→Nat):FS:=⟨aG (el (bO xs wd fl pt (fl+pt) f)) 0 wd,wd,34,4,false,[],[.im (.int .i64 0)]⟩
theorem Av {w:World} {wd fl pt:Nat} {xs f:Nat→Nat} (hr:RdOk wd fl pt) (hf:∀q,q<wd→f q<RM) (hc:tY wd fl pt xs) (hD:Dbj w):FsAt prog (pO.add 7 (MC wd fl pt wd f (Ow wd fl pt xs f))) w :=
 (FsAt.none _ _).add func7 (by kernel_rfl) (by kernel_rfl) (fun cs pre r hg hp args ha=>by
  unfold MC at hg;split at hg
  ·cases hg
   match args,ha with
   | [u,v],ha =>
    have e1:u=.agg (aB _).toArray:=ha.1;obtain⟨h1,h2,h3,h4,_⟩:=hp;have hv:LV w v wd f:=LV.ofS ha.2.1 h2 h3 h4 (fun j hj=>dP (hf j hj));rw[h1]at e1;subst e1;refine (QK hr hv rfl hf hD xs hc).mono ?_
    rintro e w' ⟨p,m,rfl,hb,hm,_,_,h6⟩
    have:=hr.w2;obtain⟨b,rfl,hge,ho⟩:=h6 (by omega);exact⟨b,m,rfl,hb,hge,ho.lt,ho.row,ho.free,(fun h=>nomatch h)⟩
   | [],ha=>exact ha.elim
   | [_],ha=>exact ha.2.elim
   | _::_::_::_,ha=>exact ha.2.2.elim
  ·cases hg)
def yR (g:kE):Tab:=((T0.add 6 (g0 (.one (.im (.bool true))))).add 8 MD).add 10 g
def Fd (g g2:kE):Tab:=(yR g).add 12 g2
def Fc (x:Nat):Tab:=T0.add 11 (Ay x (.one (.im (.bool (decide (x<RM))))))
theorem KF {w:World} (hD:Dbj w):∀cs pre r,g0 (.one (.im (.bool true))) cs=some (pre,r)→aW pre→∀(args:List Value),dV w cs args→bU prog 6 r args w:=by
 intro cs pre r hg hp args ha;unfold g0 at hg;split at hg
 ·cases hg
  match args,ha with
  | [],ha=>exact oF hD
  | _::_,ha=>exact ha.elim
 ·cases hg
theorem qP {w:World} {g:kE} (hD:Dbj w) (h:∀w',Below w.heap.size w w'→∀cs pre r,g cs=some (pre,r)→aW pre→∀(args:List Value),dV w' cs args→bU prog 10 r args w'):TabOkW prog (yR g) w.heap.size w :=
 TabOkW.add (TabOkW.add (TabOkW.add ((bH _).w _ _) func6 (by kernel_rfl) (by kernel_rfl) fun w' hw=>KF (hD.on hD.lt hw)) func8 (by kernel_rfl) (by kernel_rfl) fun w' _ cs pre r h1 h2 args ha=>TQ cs pre r h1 h2 args w' ha) func10 (by kernel_rfl) (by kernel_rfl) h
theorem fX {w:World} (hD:Dbj w):TabOkW prog (yR fun _=>none) w.heap.size w:=qP hD fun _ _ _ _ _ h=>nomatch h
theorem IC {w:World} {g2:kE} (hD:Dbj w) (h:∀w',Below w.heap.size w w'→∀cs pre r,g2 cs=some (pre,r)→aW pre→∀(args:List Value),dV w' cs args→bU prog 12 r args w'):TabOkW prog (Fd (fun _=>none) g2) w.heap.size w :=
 TabOkW.add (fX hD) func12 (by kernel_rfl) (by kernel_rfl) h
theorem XD {w:World} {x:Nat} (hx:x<cU) {base:Nat}:TabOkW prog (Fc x) base w :=
 ((bH _).add func11 (by kernel_rfl) (by kernel_rfl) (JM fun w=>Ga x ⟨hx,trivial⟩ w)).w _ _
noncomputable abbrev sgF:Func:=f4
theorem Mq:sgF.ntmps=142:=by kernel_rfl
def qQ:Code:=(f4.body).getD .skip
def Fk:Code:=cB qQ
def Fj:Code:=cB Fk
def Fi:Code:=cB Fj
def Fh:Code:=cB Fi
def Fg:Code:=cB Fh
def Ff:Code:=cB Fg
def XF:Code:=cB Ff
def XE:Code:=cB XF
def Fe:Code:=cB XE
def PC:Code:=cB Fe
def PB:Code:=cB PC
def IE:Code:=cB PB
def ID:Code:=cB IE
def PA:Code:=cB ID
def OZ:Code:=cB PA
def Db:Code:=cB OZ
theorem XC:qQ=(.seq (cA qQ) (.seq (cA Fk) (.seq (cA Fj) (.seq (cA Fi) (.seq (cA Fh) (.seq (cA Fg) (.seq (cA Ff) (.seq (cA XF) (.seq (cA XE) (.seq (cA Fe) (.seq (cA PC) (.seq (cA PB) (.seq (cA IE) (.seq (cA ID) (.seq (cA PA) (.seq (cA OZ) Db)))))))))))))))):=by kernel_rfl
def LC (wd fl pt x y:Nat):List Fact:=[.slot 3 (.pt 3 0),.row 3 true (rR wd fl pt),.slot 4 (.pt 4 0),.row 4 true [.q x],.slot 5 (.pt 5 0),.row 5 true [.q y]]
def iF (Z:List At) (wd fl pt x y:Nat):List Fact:=.slot 9 (.sl 31 0 wd wd) :: .row 31 true Z::LC wd fl pt x y
def kB (s:Nat) (H:Nat) (A:List Fact):List Fact:=.slot s (.pt s 0) :: .row s true [.q H] :: .slot (s+1) (.im (.int .i64 0))::A
def DO (k wd:Nat) (L:List At) (A:List Fact):List Fact:=.slot 10 (.so k wd) :: .row k true L :: .slot 11 (.im (.int .i64 0))::A
def tM (T:Tab) (num:Nat→Option Value) (_:Nat):Cfg:=⟨fun _=>T,fun _=>true,num⟩
theorem Wb (a b c k:Int) (x y:Nat):eM prog (qG prog) (tM (yR (Ve a b c (.many [.fl zC,.im (.int .i64 k)]))) (aD [(25,.bool true)])) f4 60 [.v (.fl (rZ a b c)),.v (.fl [.q x]),.v (.fl [.q y])]=some ([aB (rZ a b c)=aB (rZ a b c),aF .neq .i64 k 0=some (.bool true),aB [At.f ⟨0,fM⟩]=aB [At.f ⟨0,fM⟩]],.one (.im (.bool true))):=by kernel_rfl
theorem Wl (wd fl pt x y:Nat):aJ prog (qG prog) 142 (tM T0 fun _=>none) 60 (cA qQ) (eO 0 [.v (.fl (rR wd fl pt)),.v (.fl [.q x]),.v (.fl [.q y])]) (LC wd fl pt x y)=some ([],.nrm,LC wd fl pt x y):=by kernel_rfl
theorem Wk (wd fl pt x y:Nat):aJ prog (qG prog) 142 (tM (yR fun _=>none) fun _=>none) 60 (cA Fk) (LC wd fl pt x y) (LC wd fl pt x y)=some ([],.nrm,LC wd fl pt x y):=by kernel_rfl
theorem Wj (wd fl pt x y:Nat) (H:Nat):aJ prog (qG prog) 142 (tM (yR (Ve wd fl pt (.many [.fl [.q H],.im (.int .i64 0)]))) fun _=>none) 60 (cA Fj) (LC wd fl pt x y) (kB 7 H (LC wd fl pt x y))=some ([aB (rR wd fl pt)=aB (rZ wd fl pt)],.nrm,kB 7 H (LC wd fl pt x y)):=by kernel_rfl
theorem Wi (wd fl pt x y:Nat) (H:Nat):aJ prog (qG prog) 142 (tM (yR fun _=>none) fun _=>none) 60 (cA Fi) (kB 7 H (LC wd fl pt x y)) (kB 7 H (LC wd fl pt x y))=some ([],.nrm,kB 7 H (LC wd fl pt x y)):=by kernel_rfl
theorem Wh (wd fl pt x y:Nat) (H:Nat):aJ prog { qG prog with x:=xV (fun _=>none) (fun _=>none) (fun _=>none) (aD [(30,iI wd)]) (aD [(31,(wd,iR wd))]) (pO) } 142 (tM T0 fun _=>none) 60 (cA Fh) (kB 7 H (LC wd fl pt x y)) (kB 7 H (iF (iR wd) wd fl pt x y))=some ([cellAt (rR wd fl pt) (0+0)=some (iI wd),∃e,∀w:World,(Instr.makeSlice 24 (iI wd) (iI wd)).run prog w=.ok (.slice (some ⟨w.heap.size,0,none⟩) wd wd) (w.alloc (.cells (aB (iR wd)).toArray e))],.nrm,kB 7 H (iF (iR wd) wd fl pt x y)):=by kernel_rfl
theorem Wg (wd fl pt x y:Nat) (H:Nat) (Z:List At) (xs f:Nat→Nat):aJ prog { qG prog with x:=xV (fun _=>none) (fun _=>none) (fun _=>none) (fun _=>none) (fun _=>none) (pO.add 7 (MC wd fl pt wd f (Ow wd fl pt xs f))) } 142 (tM T0 fun _=>none) 60 (cA Fg) (kB 7 H (iF Z wd fl pt x y)) (DO 35 wd (aG (el (bO xs wd fl pt (fl+pt) f)) 0 wd) (kB 7 H (iF Z wd fl pt x y)))=some ([aB (rR wd fl pt)=aB (rZ wd fl pt),aB Z=aB (aG (el f) 0 wd),wd=wd,wd≤wd],.nrm,DO 35 wd (aG (el (bO xs wd fl pt (fl+pt) f)) 0 wd) (kB 7 H (iF Z wd fl pt x y))):=by kernel_rfl
theorem Wf (wd fl pt x y:Nat) (H c:Nat) (L Z:List At):aJ prog { qG prog with x:=xV (aD [(50,1)]) (aD [(51,[.q H])]) (fun _=>none) (fun _=>none) (fun _=>none) (pO) } 142 (tM (yR fun _=>none) (aD [(46,.bool false)])) 60 (cA Ff) (.slot 10 (.sl 35 0 wd c)::DO 35 wd L (kB 7 H (iF Z wd fl pt x y))) (iF Z wd fl pt x y)=some ([aF .neq .i64 (Int.ofNat wd) (Int.ofNat wd)=some (.bool false),(1:Int)=Int.ofNat 1,1<wd,pY L (0+1*4) 4=some [.q H],aB [At.q H]=aB [At.q H]],.nrm,iF Z wd fl pt x y):=by kernel_rfl
theorem We (wd fl pt x y:Nat) (Z:List At) (H:Nat):aJ prog (qG prog) 142 (tM (yR (Vd wd fl pt x (.many [.fl [.q H],.im (.int .i64 0)]))) fun _=>none) 60 (cA XF) (iF Z wd fl pt x y) (kB 12 H (iF Z wd fl pt x y))=some ([aB (rR wd fl pt)=aB (rZ wd fl pt),aB [At.q x]=aB [At.q x]],.nrm,kB 12 H (iF Z wd fl pt x y)):=by kernel_rfl
theorem Ms (wd fl pt x y:Nat) (Z:List At) (k:Int):aJ prog (qG prog) 142 (tM (yR (Vd wd fl pt x (.many [.fl zC,.im (.int .i64 k)]))) fun _=>none) 60 (cA XF) (iF Z wd fl pt x y) (.slot 13 (.im (.int .i64 k))::iF Z wd fl pt x y)=some ([aB (rR wd fl pt)=aB (rZ wd fl pt),aB [At.q x]=aB [At.q x]],.nrm,.slot 13 (.im (.int .i64 k))::iF Z wd fl pt x y):=by kernel_rfl
theorem Wd (wd fl pt x y:Nat) (Z:List At) (H:Nat):aJ prog (qG prog) 142 (tM (yR fun _=>none) fun _=>none) 60 (cA XE) (kB 12 H (iF Z wd fl pt x y)) (kB 12 H (iF Z wd fl pt x y))=some ([],.nrm,kB 12 H (iF Z wd fl pt x y)):=by kernel_rfl
theorem Mr (wd fl pt x y:Nat) (Z:List At) (k:Int):aJ prog (qG prog) 142 (fun n=>⟨fun s=>bif Nat.beq s 66 then Fc x else yR fun _=>none,fun _=>true,aD [(64,.bool true)]⟩) 60 (cA XE) (.slot 13 (.im (.int .i64 k))::iF Z wd fl pt x y) ([.slot 6 (.im (.bool (!decide (x<RM))))])=some ([aF .neq .i64 k 0=some (.bool true),Value.int .i64 2=.int .i64 2,aB [At.q x]=aB [At.q x]],.rt,[.slot 6 (.im (.bool (!decide (x<RM))))]):=by kernel_rfl
theorem Wc (wd fl pt x y:Nat) (H:Nat) (Z Z1 Z2:List At):aJ prog { qG prog with x:=xV (aD [(72,0),(73,1)]) (fun _=>none) (aD [(72,Z1),(73,Z2)]) (fun _=>none) (fun _=>none) (pO) } 142 (tM T0 fun _=>none) 60 (cA Fe) (kB 12 H (iF Z wd fl pt x y)) (kB 12 H (iF Z2 wd fl pt x y))=some ([(0:Int)=Int.ofNat 0,0<wd,put Z (0+0*4) [At.f ⟨1,by decide⟩]=some Z1,(1:Int)=Int.ofNat 1,1<wd,put Z1 (0+1*4) [.q x]=some Z2],.nrm,kB 12 H (iF Z2 wd fl pt x y)):=by kernel_rfl
theorem Mz (wd fl pt x y:Nat) (H:Nat) (Z:List At) (xs f:Nat→Nat):aJ prog { qG prog with x:=xV (fun _=>none) (fun _=>none) (fun _=>none) (fun _=>none) (fun _=>none) (pO.add 7 (MC wd fl pt wd f (Ow wd fl pt xs f))) } 142 (tM T0 fun _=>none) 60 (cA PC) (kB 12 H (iF Z wd fl pt x y)) (DO 77 wd (aG (el (bO xs wd fl pt (fl+pt) f)) 0 wd) (kB 12 H (iF Z wd fl pt x y)))=some ([aB (rR wd fl pt)=aB (rZ wd fl pt),aB Z=aB (aG (el f) 0 wd),wd=wd,wd≤wd],.nrm,DO 77 wd (aG (el (bO xs wd fl pt (fl+pt) f)) 0 wd) (kB 12 H (iF Z wd fl pt x y))):=by kernel_rfl
theorem My (wd fl pt x y:Nat) (H c:Nat) (L Z:List At):aJ prog { qG prog with x:=xV (aD [(92,1)]) (aD [(93,[.q H])]) (fun _=>none) (fun _=>none) (fun _=>none) (pO) } 142 (tM (yR fun _=>none) (aD [(88,.bool false)])) 60 (cA PB) (.slot 10 (.sl 77 0 wd c)::DO 77 wd L (kB 12 H (iF Z wd fl pt x y))) (iF Z wd fl pt x y)=some ([aF .neq .i64 (Int.ofNat wd) (Int.ofNat wd)=some (.bool false),(1:Int)=Int.ofNat 1,1<wd,pY L (0+1*4) 4=some [.q H],aB [At.q H]=aB [At.q H]],.nrm,iF Z wd fl pt x y):=by kernel_rfl
theorem Mx (wd fl pt x y:Nat) (Z:List At) (H:Nat):aJ prog (qG prog) 142 (tM (Fd (fun _=>none) (ST wd fl pt x y (.many [.fl [.q H],.im (.int .i64 0)]))) fun _=>none) 60 (cA IE) (iF Z wd fl pt x y) (kB 14 H (iF Z wd fl pt x y))=some ([aB (rR wd fl pt)=aB (rZ wd fl pt),aB [At.q x]=aB [At.q x],aB [At.q y]=aB [At.q y]],.nrm,kB 14 H (iF Z wd fl pt x y)):=by kernel_rfl
theorem Fb (wd fl pt x y:Nat) (Z:List At) (k:Int):aJ prog (qG prog) 142 (tM (Fd (fun _=>none) (ST wd fl pt x y (.many [.fl zC,.im (.int .i64 k)]))) fun _=>none) 60 (cA IE) (iF Z wd fl pt x y) (.slot 14 (.pt 14 0) :: .row 14 true zC :: .slot 15 (.im (.int .i64 k))::iF Z wd fl pt x y)=some ([aB (rR wd fl pt)=aB (rZ wd fl pt),aB [At.q x]=aB [At.q x],aB [At.q y]=aB [At.q y]],.nrm,.slot 14 (.pt 14 0) :: .row 14 true zC :: .slot 15 (.im (.int .i64 k))::iF Z wd fl pt x y):=by kernel_rfl
theorem Mw (wd fl pt x y:Nat) (Z:List At) (H:Nat):aJ prog (qG prog) 142 (tM (yR fun _=>none) fun _=>none) 60 (cA ID) (kB 14 H (iF Z wd fl pt x y)) (kB 14 H (iF Z wd fl pt x y))=some ([],.nrm,kB 14 H (iF Z wd fl pt x y)):=by kernel_rfl
theorem Fa (wd fl pt x y:Nat) (Z:List At) (k:Int):aJ prog (qG prog) 142 (tM (yR fun _=>none) (aD [(106,.bool true)])) 60 (cA ID) (.slot 14 (.pt 14 0) :: .row 14 true zC :: .slot 15 (.im (.int .i64 k))::iF Z wd fl pt x y) ([.slot 6 (.im (.bool true))])=some ([aF .neq .i64 k 0=some (.bool true),aB [At.f ⟨0,fM⟩]=aB [At.f ⟨0,fM⟩]],.rt,[.slot 6 (.im (.bool true))]):=by kernel_rfl
theorem Mv (wd fl pt x y:Nat) (H:Nat) (Z Z1 Z2 Z3:List At):aJ prog { qG prog with x:=xV (aD [(116,0),(117,1),(118,2)]) (fun _=>none) (aD [(116,Z1),(117,Z2),(118,Z3)]) (fun _=>none) (fun _=>none) (pO) } 142 (tM T0 fun _=>none) 60 (cA PA) (kB 14 H (iF Z wd fl pt x y)) (kB 14 H (iF Z3 wd fl pt x y))=some ([(0:Int)=Int.ofNat 0,0<wd,put Z (0+0*4) [At.f ⟨0,fM⟩]=some Z1,(1:Int)=Int.ofNat 1,1<wd,put Z1 (0+1*4) [.q x]=some Z2,(2:Int)=Int.ofNat 2,2<wd,put Z2 (0+2*4) [.q y]=some Z3],.nrm,kB 14 H (iF Z3 wd fl pt x y)):=by kernel_rfl
theorem Mu (wd fl pt x y:Nat) (H:Nat) (Z:List At) (xs f:Nat→Nat):aJ prog { qG prog with x:=xV (fun _=>none) (fun _=>none) (fun _=>none) (fun _=>none) (fun _=>none) (pO.add 7 (MC wd fl pt wd f (Ow wd fl pt xs f))) } 142 (tM T0 fun _=>none) 60 (cA OZ) (kB 14 H (iF Z wd fl pt x y)) (DO 122 wd (aG (el (bO xs wd fl pt (fl+pt) f)) 0 wd) (kB 14 H (iF Z wd fl pt x y)))=some ([aB (rR wd fl pt)=aB (rZ wd fl pt),aB Z=aB (aG (el f) 0 wd),wd=wd,wd≤wd],.nrm,DO 122 wd (aG (el (bO xs wd fl pt (fl+pt) f)) 0 wd) (kB 14 H (iF Z wd fl pt x y))):=by kernel_rfl
theorem Mt (wd fl pt x y:Nat) (H c:Nat) (L Z:List At):aJ prog { qG prog with x:=xV (aD [(137,1)]) (aD [(138,[.q H])]) (fun _=>none) (fun _=>none) (fun _=>none) (pO) } 142 (tM (yR fun _=>none) (aD [(133,.bool true)])) 60 (Db) (.slot 10 (.sl 122 0 wd c)::DO 122 wd L (kB 14 H (iF Z wd fl pt x y))) ([.slot 6 (.im (.bool true))])=some ([aF .eql .i64 (Int.ofNat wd) (Int.ofNat wd)=some (.bool true),(1:Int)=Int.ofNat 1,1<wd,pY L (0+1*4) 4=some [.q H],aB [At.q H]=aB [At.q H]],.rt,[.slot 6 (.im (.bool true))]):=by kernel_rfl
theorem KV (a b c:Int) {x y:Nat} (hx:x<cU) (hy:y<cU):(∃k:Int,k≠0∧∀w:World,bU prog 12 (.many [.fl zC,.im (.int .i64 k)]) [.agg (aB (rZ a b c)).toArray,.agg (aB [At.q x]).toArray,.agg (aB [At.q y]).toArray] w) ∨
  ∃wd fl pt:Nat,a=wd∧b=fl∧c=pt∧RdOk wd fl pt∧3≤wd∧x<RM∧y<RM:=by
 have hG:∀w:World,bD prog (qG prog) w.heap.size w:=fun w=>(bM _).w _ _
 rcases oB a b c with⟨wd,fl,pt,ea,eb,ec,hr⟩|hb
 ·have hck:FZ a b c 0:=fun args w ha=>by
   rw[ea,eb,ec]at ha;exact gJ hr args w ha
  by_cases hxy:x<RM∧y<RM
  ·by_cases h3:3≤wd
   ·exact Or.inr ⟨wd,fl,pt,ea,eb,ec,hr,h3,hxy.1,hxy.2⟩
   ·exact Or.inl ⟨91,by decide,fun w=>aV aH (fun _ _=>GK 0 x y true) (hG w) func12 (Vs a b c x y) ⟨hck,rfl,hx,hy,decide_eq_true hxy,sB (decide_eq_true (by omega)),trivial⟩ (args:=[.agg (aB (rZ a b c)).toArray,.agg (aB [At.q x]).toArray,.agg (aB [At.q y]).toArray]) ⟨rfl,rfl,rfl,trivial⟩⟩
  ·exact Or.inl ⟨21,by decide,fun w=>aV aH (fun _ _=>GK 0 x y false) (hG w) func12 (Vt a b c x y) ⟨hck,rfl,hx,hy,decide_eq_false hxy,trivial⟩ (args:=[.agg (aB (rZ a b c)).toArray,.agg (aB [At.q x]).toArray,.agg (aB [At.q y]).toArray]) ⟨rfl,rfl,rfl,trivial⟩⟩
 ·exact Or.inl ⟨91,by decide,fun w=>aV aH (fun _ _=>GK 91 x y true) (hG w) func12 (Vu a b c x y) ⟨hb,trivial⟩ (args:=[.agg (aB (rZ a b c)).toArray,.agg (aB [At.q x]).toArray,.agg (aB [At.q y]).toArray]) ⟨rfl,rfl,rfl,trivial⟩⟩
def cZ (s n:Nat):List At:=aG (fun _=>[.q 0]) s n
theorem WB (wd:Nat):iR wd=aG (el OX) 0 wd:=vG (fun _=>rfl) 0 wd
def Wm (k:Nat):List At:=.f ⟨1,by decide⟩ :: .q 0::cZ 2 k
def Fr (x k:Nat):List At:=.f ⟨1,by decide⟩ :: .q x::cZ 2 k
theorem Nu (k:Nat):put (iR (k+2)) (0+0*4) [.f ⟨1,by decide⟩]=some (Wm k):=rfl
theorem Nt (x k:Nat):put (Wm k) (0+1*4) [.q x]=some (Fr x k):=jI [.f ⟨1,by decide⟩] [.q 0] (cZ 2 k) [.q x] rfl rfl
theorem JT {g:Nat→Nat} (s n:Nat) (h:∀j,s≤j→g j=0):cZ s n=aG (el g) s n:=by
 have:aG (el fun _=>0) s n=aG (el g) s n:=eQ n s fun q _=>(h _ (by omega)).symm
 exact this
theorem OV (x k:Nat):aB (Fr x k)=aB (aG (el (LB x)) 0 (k+2)):=by
 unfold Fr;rw[JT (g:=LB x) 2 k fun j hj=>by unfold LB; rw[if_neg (by omega),if_neg (by omega)]];rfl
def Le (x k:Nat):List At:=.f ⟨0,fM⟩ :: .q x :: .q 0::cZ 3 k
def Nc (x y k:Nat):List At:=.f ⟨0,fM⟩ :: .q x :: .q y::cZ 3 k
theorem Ns (x k:Nat):put (Fr x (k+1)) (0+0*4) [.f ⟨0,fM⟩]=some (Le x k):=rfl
theorem Nr (x k:Nat):put (Le x k) (0+1*4) [.q x]=some (Le x k):=jI [.f ⟨0,fM⟩] [.q x] (.q 0::cZ 3 k) [.q x] rfl rfl
theorem Nq (x y k:Nat):put (Le x k) (0+2*4) [.q y]=some (Nc x y k):=jI [.f ⟨0,fM⟩,.q x] [.q 0] (cZ 3 k) [.q y] rfl rfl
theorem OU (x y k:Nat):aB (Nc x y k)=aB (aG (el (pX x y)) 0 (k+1+2)):=by
 unfold Nc;rw[JT (g:=pX x y) 3 k fun j hj=>by unfold pX; rw[if_neg (by omega),if_neg (by omega)]];rfl
theorem Eu {x:Nat} (hx:x<RM) (q:Nat):LB x q<RM:=by
 unfold LB;split
 ·decide
 ·split
  ·exact hx
  ·exact fQ
theorem Et {x y:Nat} (hx:x<RM) (hy:y<RM) (q:Nat):pX x y q<RM:=by
 unfold pX;split
 ·exact hx
 ·split
  ·exact hy
  ·exact fQ
theorem vX {w0:World} {x y:Nat} (a b c:Int) (hx:x<cU) (hy:y<cU) (hDj:Dbj w0):Calls prog 4 #[.agg (aB (rZ a b c)).toArray,.agg (aB [At.q x]).toArray,.agg (aB [At.q y]).toArray] w0 (fun e w'=>e=.returned (.bool true)∧Below w0.heap.size w0 w'):=by
 have hG:∀base w,bD prog (qG prog) base w:=fun _ _=>(bM _).w _ _
 rcases oB a b c with⟨wd,fl,pt,ea,eb,ec,hr⟩|hb
 rotate_left
 ·exact aV aH (fun _ _=>qP hDj fun w' hw=>SX (aV aH (fun _ _=>(pF 91).w _ _) (hG _ _) func10 (Yq a b c (.slice none 0 0)) ⟨hb,trivial⟩ (args:=[.agg (aB (rZ a b c)).toArray,.slice none 0 0]) ⟨rfl,rfl,trivial⟩)) (hG _ _) func4 (Wb a b c 91 x y) ⟨rfl,rW (by decide),rfl,trivial⟩ (args:=[.agg (aB (rZ a b c)).toArray,.agg (aB [At.q x]).toArray,.agg (aB [At.q y]).toArray]) ⟨rfl,rfl,rfl,trivial⟩
 subst ea eb ec;obtain⟨k,rfl⟩:∃k,wd=k+2:=⟨wd-2,by have:=hr.w2; omega⟩
 have hw8:=hr.w8;have hc:=vP (k+2) fl pt;generalize WC (k+2) fl pt=xs at hc;obtain⟨fu,sq,h0,hxs⟩:=id hc;have hck:FZ ((k+2:Nat):Int) fl pt 0:=fun args w ha=>gJ hr args w ha
 have hTN:∀n d:Nat,TabOkW prog T0 w0.heap.size w0:=fun _ _=>(bH _).w _ _
 have hX0:∀idx ld st gen mks,bD prog { qG prog with x:=xV idx ld st gen mks pO } w0.heap.size w0:=fun _ _ _ _ _=>GQ fun w' _=>FsAt.none _ _
 have hXP:∀(f:Nat→Nat),(∀q,q<k+2→f q<RM)→bD prog { qG prog with x:=xV (fun _=>none) (fun _=>none) (fun _=>none) (fun _=>none) (fun _=>none) (pO.add 7 (MC ((k+2:Nat):Int) fl pt (k+2) f (Ow (k+2) fl pt xs f))) } w0.heap.size w0:=fun f hf=>GQ fun w' hw=>Av hr hf hc (hDj.on hDj.lt hw)
 have hnt:f4.ntmps=142:=Mq;refine bP func4 (cs:=[.v (.fl (rR (k+2) fl pt)),.v (.fl [.q x]),.v (.fl [.q y])]) (args:=[.agg (aB (rR (k+2) fl pt)).toArray,.agg (aB [At.q x]).toArray,.agg (aB [At.q y]).toArray]) (c:=qQ) rfl ⟨rfl,rfl,rfl,trivial⟩ (Nat.le_of_ble_eq_true (by kernel_rfl)) fun a w hA => ?_
 rw[hnt]at hA;rw[XC];have fin:∀{a w},Holds 142 w0.heap.size w0 [.slot 6 (.im (.bool true))] a w→bodyPost prog f4 (fun e w'=>e=.returned (.bool true)∧Below w0.heap.size w0 w') .ret a w:=fun hA=>bR (l:=[.im (.bool true)]) (r:=.one (.im (.bool true))) (by kernel_rfl) (by kernel_rfl) hA ⟨rfl,hA.below⟩
 refine wp_seq (aA aH hTN (hG _ _) (Wl (k+2) fl pt x y) trivial hA fun a w hA => ?_);refine wp_seq (aA aH (fun _ _=>fX hDj) (hG _ _) (Wk (k+2) fl pt x y) trivial hA fun a w hA => ?_);refine wp_seq (aA aH (fun _ _=>qP hDj fun w' hw=>SX (by
  have:=uT hr (p:=none) (m:=0) (N:=0) (f:=OX) (Or.inl ⟨rfl,rfl⟩) (LV.nil w' OX) (fun q hq=>absurd hq (Nat.not_lt_zero q)) (by omega) h0 hxs (hDj.on hDj.lt hw);rw[Qs]at this;exact this)) (hG _ _) (Wj (k+2) fl pt x y (bO xs (k+2) fl pt (fl+pt) OX 1)) ⟨rfl,trivial⟩ hA fun a w hA => ?_)
 refine wp_seq (aA aH (fun _ _=>fX hDj) (hG _ _) (Wi (k+2) fl pt x y _) trivial hA fun a w hA => ?_);refine wp_seq (aA aH hTN (hX0 _ _ _ _ _) (Wh (k+2) fl pt x y _) ⟨rfl,uQ (t:=24) (e:=34) (z:=[.q 0]) (v:=.int .u64 0) (n:=4) (by8:=32) (by kernel_rfl) (by kernel_rfl) rfl lQ (by omega) (by omega) (by omega),trivial⟩ hA fun a w hA => ?_);refine wp_seq (aA aH hTN (hXP OX fun _ _=>fQ) (Wg (k+2) fl pt x y _ (iR (k+2)) xs OX) ⟨rfl,by rw[WB],rfl,Nat.le_refl _,trivial⟩ hA fun a w hA => ?_);obtain⟨c1,hA⟩:=hA.soSlQ (s:=10) (k:=35) (n:=k+2) (l:=aG (el (bO xs (k+2) fl pt (fl+pt) OX)) 0 (k+2)) (by simp[DO]) (by simp[DO]);refine wp_seq (aA aH (fun _ _=>fX hDj) (hX0 _ _ _ _ _) (Wf (k+2) fl pt x y _ c1 _ _) ⟨wZ (k+2),rfl,by omega,jE (h:=bO xs (k+2) fl pt (fl+pt) OX) (n:=k+2) (j:=1) (by omega),rfl,trivial⟩ hA fun a w hA => ?_)
 by_cases hxR:x<RM
 rotate_left
 ·have hk:¬gY 1 (fun _=>x):=fun h=>hxR (h 0 (by decide))
  refine wp_seq (aA aH (fun _ _=>qP hDj fun w' hw=>SW (fun b' o hv=>aV aH (fun _ _=>GL hv hk (by decide)) (hG _ _) func10 (Yp _ _ _ _ 1 1) ⟨hck,sO (k:=4096) (by decide),rfl,trivial⟩ (args:=[.agg (aB (rZ ((k+2:Nat):Int) fl pt)).toArray,.slice (some ⟨b',o,none⟩) 1 1]) ⟨rfl,rfl,trivial⟩) hx) (hG _ _) (Ms (k+2) fl pt x y _ 21) ⟨rfl,rfl,trivial⟩ hA fun a w hA => ?_);refine wp_seq (aA aH (fun n d => ?_) (hG _ _) (Mr (k+2) fl pt x y _ 21) ⟨rW (by decide),rfl,rfl,trivial⟩ hA fun a w hA => ?_)
  ·show TabOkW prog (bif Nat.beq d 66 then Fc x else yR fun _=>none) _ _;cases Nat.beq d 66
   ·exact fX hDj
   ·exact XD hx
  ·rw[decide_eq_false hxR]at hA;exact fin hA
 refine wp_seq (aA aH (fun _ _=>qP hDj fun w' hw=>SW (fun b' o hv=>by
  have:=uT hr (Or.inr ⟨b',o,rfl⟩) hv (fun q _=>hxR) (by decide) h0 hxs (hDj.on hDj.lt hw);rw[Qr xs _ _ _ _ (by omega) hxR]at this;exact this) hx) (hG _ _) (We (k+2) fl pt x y _ (bO xs (k+2) fl pt (fl+pt) (LB x) 1)) ⟨rfl,rfl,trivial⟩ hA fun a w hA => ?_)
 refine wp_seq (aA aH (fun _ _=>fX hDj) (hG _ _) (Wd (k+2) fl pt x y _ _) trivial hA fun a w hA => ?_);refine wp_seq (aA aH hTN (hX0 _ _ _ _ _) (Wc (k+2) fl pt x y _ (iR (k+2)) (Wm k) (Fr x k)) ⟨rfl,by omega,Nu k,rfl,by omega,Nt x k,trivial⟩ hA fun a w hA => ?_);refine wp_seq (aA aH hTN (hXP (LB x) fun q _=>Eu hxR q) (Mz (k+2) fl pt x y _ (Fr x k) xs (LB x)) ⟨rfl,OV x k,rfl,Nat.le_refl _,trivial⟩ hA fun a w hA => ?_);obtain⟨c2,hA⟩:=hA.soSlQ (s:=10) (k:=77) (n:=k+2) (l:=aG (el (bO xs (k+2) fl pt (fl+pt) (LB x))) 0 (k+2)) (by simp[DO]) (by simp[DO]);refine wp_seq (aA aH (fun _ _=>fX hDj) (hX0 _ _ _ _ _) (My (k+2) fl pt x y _ c2 _ _) ⟨wZ (k+2),rfl,by omega,jE (h:=bO xs (k+2) fl pt (fl+pt) (LB x)) (n:=k+2) (j:=1) (by omega),rfl,trivial⟩ hA fun a w hA => ?_)
 rcases KV ((k+2:Nat):Int) fl pt hx hy with⟨ke,hke,hbad⟩|⟨wd',fl',pt',e1,e2,e3,_,h3,_,hyR⟩
 ·refine wp_seq (aA aH (fun _ _=>IC hDj fun w' hw=>xH (hbad w')) (hG _ _) (Fb (k+2) fl pt x y _ ke) ⟨rfl,rfl,rfl,trivial⟩ hA fun a w hA => ?_);exact wp_seq (aA aH (fun _ _=>fX hDj) (hG _ _) (Fa (k+2) fl pt x y _ ke) ⟨rW hke,rfl,trivial⟩ hA fun a w hA=>fin hA)
 ·have h3:3≤k+2:=by omega
  obtain⟨k',rfl⟩:∃k',k=k'+1:=⟨k-1,by omega⟩
  refine wp_seq (aA aH (fun _ _=>IC hDj fun w' hw=>xH (uA hr h3 hxR hyR hc (hDj.on hDj.lt hw))) (hG _ _) (Mx (k'+1+2) fl pt x y _ (bO xs (k'+1+2) fl pt (fl+pt) (pX x y) 1)) ⟨rfl,rfl,rfl,trivial⟩ hA fun a w hA => ?_);refine wp_seq (aA aH (fun _ _=>fX hDj) (hG _ _) (Mw (k'+1+2) fl pt x y _ _) trivial hA fun a w hA => ?_);refine wp_seq (aA aH hTN (hX0 _ _ _ _ _) (Mv (k'+1+2) fl pt x y _ (Fr x (k'+1)) (Le x k') (Le x k') (Nc x y k')) ⟨rfl,by omega,Ns x k',rfl,by omega,Nr x k',rfl,by omega,Nq x y k',trivial⟩ hA fun a w hA => ?_);refine wp_seq (aA aH hTN (hXP (pX x y) fun q _=>Et hxR hyR q) (Mu (k'+1+2) fl pt x y _ (Nc x y k') xs (pX x y)) ⟨rfl,OU x y k',rfl,Nat.le_refl _,trivial⟩ hA fun a w hA => ?_);obtain⟨c3,hA⟩:=hA.soSlQ (s:=10) (k:=122) (n:=k'+1+2) (l:=aG (el (bO xs (k'+1+2) fl pt (fl+pt) (pX x y))) 0 (k'+1+2)) (by simp[DO]) (by simp[DO]);have hE:aF .eql .i64 (Int.ofNat (k'+1+2)) (Int.ofNat (k'+1+2))=some (.bool true):=by
   show some (Value.bool (Int.ofNat (k'+1+2)==Int.ofNat (k'+1+2)))=_;rw[beq_self_eq_true]
  exact aA aH (fun _ _=>fX hDj) (hX0 _ _ _ _ _) (Mt (k'+1+2) fl pt x y _ c3 _ _) ⟨hE,rfl,by omega,jE (h:=bO xs (k'+1+2) fl pt (fl+pt) (pX x y)) (n:=k'+1+2) (j:=1) (by omega),rfl,trivial⟩ hA fun a w hA=>fin hA
end Go.Proofs.YtpbljiejmfahcaaDoor.Ex
namespace Go.Proofs.YtpbljiejmfahcaaDoor
open Go.Proofs.Tryd
open Go.ChangeShapes Go.WideShapes Go.ChangeAt Go.RowKit
theorem pW (os:Os) (started:os.Started) (H:Type) (enc:TypeId×Value→H) :
  ReturnsInHanded {} checked os 4 .any (fun w args=>(Rows.poseidonSpongeSpec.pre enc prog f4 [] false w args∧laidMetH prog eS w)∧sizedMet enc prog f4 (OpenSpec.ofChange Rows.poseidonSpongeSpec) false w args)
   (Rows.poseidonSpongeSpec.post enc prog f4 false true false false):=by
 refine returnsInHanded_of_change_and (C:=checked) (X:=fun w _=>laidMetH prog eS w) (fun _ _ _ hh h=>h.of_heap hh) own started (by kernel_rfl) func4
  (ChangeSpec.witness_shaped (enc:=enc) (C:=checked) (os:=os) (X:=fun w _=>laidMetH prog eS w) false (World.doorLaid prog 400 os) #[.agg #[.int .i64 0,.int .i64 0,.int .i64 0],.agg #[.int .u64 0,.int .u64 0,.int .u64 0,.int .u64 0],.agg #[.int .u64 0,.int .u64 0,.int .u64 0,.int .u64 0]] 8 rfl (World.shaped_of_RefB (by kernel_rfl) (by kernel_rfl)) (by kernel_rfl) (by kernel_rfl) (by kernel_rfl) (sW os _)) ?_
 intro W base args ds gs before hval0 hW _ hsz0 hL _;have hDj:Ex.Dbj W:=lC hL;have hval:∀(j:Nat) t v,f4.params[j]?=some t→args[j]?=some v→Value.okWide prog W .any base t v:=hval0
 have hW':=hW;obtain⟨p,q,hA0,hV,rfl,_,_⟩:=hW;have hA:DataW.TrodAll enc prog W 0 (fun _=>true) true f4.params.toList args.toList ds p:=hA0;have hsz:(DataW.weightsEach prog (f4.params.toList++Rows.poseidonSpongeSpec.plain.varTypes prog) (ds++gs)).all (· ≤ reachBytes)=true:=hsz0;rw[params4]at hA hval hsz;obtain⟨v0,v1,v2,d0,d1,d2,p0,p1,p2,rfl,rfl,rfl,h0,h1,h2⟩:=trodAll_three hA;obtain⟨rfl,rfl⟩:=trodVars_none hV;obtain⟨xa0,xb0,xc0,rfl⟩:=Ex.wV hval 0 rfl rfl h0;obtain⟨y1,g1,rfl⟩:=Ex.IP hval 1 rfl rfl h1;obtain⟨y2,g2,rfl⟩:=Ex.IP hval 2 rfl rfl h2;clear hA0 hval0;simp only[List.append_nil]at hW';have l0:∀x∈p0,x.block<W.heap.size:=fun x hx=>hW'.lt x (by simp[hx])
 have l1:∀x∈p1,x.block<W.heap.size:=fun x hx=>hW'.lt x (by simp[hx])
 have l2:∀x∈p2,x.block<W.heap.size:=fun x hx=>hW'.lt x (by simp[hx])
 refine Calls.mono (Ex.vX xa0 xb0 xc0 g1 g2 hDj) fun e W' ⟨he,hbl⟩ => ?_
 subst he;have kP:∀{v d ps},DataW.Trod enc prog W 0 (fun _=>true) true 34 v d ps→(∀x∈ps,x.block<W.heap.size)→DataW.Trod enc prog W' 0 (fun b=>decide (b<W.heap.size)) true 34 v d ps :=
  fun h l=>Below.trod lX (by kernel_rfl) (of_decide_eq_true (by kernel_rfl)) h hbl l
 have kR:∀{v d ps},DataW.Trod enc prog W 0 (fun _=>true) true 23 v d ps→(∀x∈ps,x.block<W.heap.size)→DataW.Trod enc prog W' 0 (fun b=>decide (b<W.heap.size)) true 23 v d ps :=
  fun h l=>Below.trod lX (by kernel_rfl) (of_decide_eq_true (by kernel_rfl)) h hbl l
 exact⟨_,rfl,⟨_,_,_,[],_,[],hW',trodAll_mk1 (shut_bool underlying4 _),trodAll_mk3 (kR h0 l0) (kP h1 l1) (kP h2 l2),rfl,hbl.frame _,fun h=>by cases h⟩⟩
theorem kS:Rows.PoseidonSpongeSaid :=
 OpenClaim.holds_of_wide 4 f4 rfl rfl rfl rfl rfl rfl rfl ⟨rfl,rfl,rfl,rfl,rfl⟩ rfl rfl rfl rfl rfl (by kernel_rfl) func4 (by kernel_rfl)
  (of_decide_eq_true (by kernel_rfl)) (by unfold Func.isWrapper; first|(rw[if_pos (by decide +kernel)]; kernel_rfl)|(rw[if_neg (by decide +kernel)]; exact⟨rfl,rfl⟩))
  (fun os started H enc _=>pW os started H enc)
end Go.Proofs.YtpbljiejmfahcaaDoor
