/- Pt15 -/
import Derived.Test.YtjjnbgoepbiojaaPt13
import Derived.Test.YtjjnbgoepbiojaaProg
set_option maxRecDepth 100000
set_option linter.unusedVariables false
set_option linter.unusedSimpArgs false
set_option linter.unnecessarySimpa false
noncomputable section
namespace Go.Proofs.Ytjjnbgoepbiojaa.Ex
open Go.Proofs.Try
open Go.RowKit
def RP (v:Value) (N:Nat) (f:Nat→Nat):List CA→Option (List Prop×FR)
 | [.v (.im u),.v (.im (.int .i64 (.ofNat log))),.v (.fl xL)]=>match jQ xL with
  | some x=>some ([u=v,x<aT,oT N f (Int.ofNat log) x=0],⟨aR (el (mW N f log x)) 0 (2^log),2^log,2^log,[.im (.int .i64 0)]⟩)
  | none=>none
 | _=>none
theorem RO {w:World} {v:Value} {N:Nat} {f:Nat→Nat} (hv:LV w v N f) (hN:N≤2305843009213693952):∀cs pre r,RP v N f cs=some (pre,r)→aQ pre→∀(args:List Value),cF w cs args→Calls prog 9 args.toArray w (fun e w'=>r.ok w e w'):=by
 intro cs pre r hg hp args ha;unfold RP at hg;split at hg
 ·rename_i u log xL;split at hg
  ·rename_i x hx;cases hg
   match args,ha with
   | [a1,a2,a3],ha =>
    have h1:a1=u:=ha.1;have h2:a2=iI log:=ha.2.1;have h3:a3=.agg (aB xL).toArray:=ha.2.2.1;rw[bL xL x hx]at h3;subst h1;subst h2;subst h3;obtain⟨p1,p2,p3,_⟩:=hp;subst p1;exact (lJ hv hN p2).2 p3
   | [],ha=>exact ha.elim
   | [_],ha=>exact ha.2.elim
   | [_,_],ha=>exact ha.2.2.elim
   | _::_::_::_::_,ha=>exact ha.2.2.2.elim
  ·cases hg
 ·cases hg
def Je (v:Value) (N:Nat) (f:Nat→Nat):iR
 | [.v (.im u),.v (.im (.int .i64 z)),.v (.fl xL)]=>match jQ xL with
  | some x=>some ([u=v,x<aT,oT N f z x≠0],.many [.im (.slice none 0 0),.im (.int .i64 (oT N f z x))])
  | none=>none
 | _=>none
theorem ZC {w:World} {v:Value} {N:Nat} {f:Nat→Nat} (hv:LV w v N f) (hN:N≤2305843009213693952):∀cs pre r,Je v N f cs=some (pre,r)→aQ pre→∀(args:List Value),cF w cs args→Good prog 9 r args w:=by
 intro cs pre r hg hp args ha;unfold Je at hg;split at hg
 ·rename_i u z xL;split at hg
  ·rename_i x hx;cases hg
   match args,ha with
   | [a1,a2,a3],ha =>
    have h1:a1=u:=ha.1;have h2:a2=iV z:=ha.2.1;have h3:a3=.agg (aB xL).toArray:=ha.2.2.1;rw[bL xL x hx]at h3;subst h1;subst h2;subst h3;obtain⟨p1,p2,p3,_⟩:=hp;subst p1;exact (lJ hv hN p2).1 p3
   | [],ha=>exact ha.elim
   | [_],ha=>exact ha.2.elim
   | [_,_],ha=>exact ha.2.2.elim
   | _::_::_::_::_,ha=>exact ha.2.2.2.elim
  ·cases hg
 ·cases hg
def Km (N:Nat) (f:Nat→Nat):List CA→Option (List Prop×FR)
 | [.s ul un um,.v (.im (.int .i64 (.ofNat log))),.v (.fl xL)]=>match jQ xL with
  | some x=>some ([aB ul=aB (aR (el f) 0 N),un=N,N≤um,∀j,j<N→f j<aT,N≤2305843009213693952,x<aT,qN N f (Int.ofNat log) x=0],⟨aR (el (jE N f log x)) 0 (aF (jE N f log x) N),aF (jE N f log x) N,aF (jE N f log x) N,[.im (.int .i64 0)]⟩)
  | none=>none
 | _=>none
theorem Ab {w:World} {N:Nat} {f:Nat→Nat}:∀cs pre r,Km N f cs=some (pre,r)→aQ pre→∀(args:List Value),cF w cs args→Calls prog 11 args.toArray w (fun e w'=>r.ok w e w'):=by
 intro cs pre r hg hp args ha;unfold Km at hg;split at hg
 ·rename_i ul un um log xL;split at hg
  ·rename_i x hx;cases hg
   match args,ha with
   | [a1,a2,a3],ha =>
    have h1:=ha.1;have h2:a2=iI log:=ha.2.1;have h3:a3=.agg (aB xL).toArray:=ha.2.2.1;rw[bL xL x hx]at h3;subst h2;subst h3;obtain⟨p1,p2,p3,p4,p5,p6,p7,_⟩:=hp;exact (uF (LV.ofS h1 p1 p2 p3 p4) p5 p6).2 p7
   | [],ha=>exact ha.elim
   | [_],ha=>exact ha.2.elim
   | [_,_],ha=>exact ha.2.2.elim
   | _::_::_::_::_,ha=>exact ha.2.2.2.elim
  ·cases hg
 ·cases hg
def Ko (v:Value) (N:Nat) (f:Nat→Nat):iR
 | [.s [.c u] un um]=>some ([u=v,un=1],.one (.im (.int .i64 (GF N f))))
 | _=>none
theorem Ac {w:World} {v:Value} {N:Nat} {f:Nat→Nat} (hv:LV w v N f) (hN:N≤4611686018427387904):∀cs pre r,Ko v N f cs=some (pre,r)→aQ pre→∀(args:List Value),cF w cs args→Good prog 51 r args w:=by
 intro cs pre r hg hp args ha;unfold Ko at hg;split at hg
 ·rename_i u un um;cases hg
  match args,ha with
  | [a1],ha =>
   have h1:=ha.1;obtain⟨p1,p2,_⟩:=hp;subst p1; subst p2;obtain⟨b,o,rfl,hb,hr⟩:=h1;rw[←Bj];exact uG (vs:=fun _=>u) ⟨b,o,um,rfl,hb,hr⟩ (fun j hj=>hv) (by omega) (fun j hj=>by omega)
  | [],ha=>exact ha.elim
  | _::_::_,ha=>exact ha.2.elim
 ·cases hg
def Jh (v:Value) (N:Nat) (f:Nat→Nat):List CA→Option (List Prop×FR)
 | [.v (.im u)]=>some ([u=v,N≤131072],⟨aR (el f) 0 (aF f N),aF f N,aF f N,[]⟩)
 | _=>none
theorem ZF {w:World} {v:Value} {N:Nat} {f:Nat→Nat} (hv:LV w v N f):∀cs pre r,Jh v N f cs=some (pre,r)→aQ pre→∀(args:List Value),cF w cs args→Calls prog 44 args.toArray w (fun e w'=>r.ok w e w'):=by
 intro cs pre r hg hp args ha;unfold Jh at hg;split at hg
 ·rename_i u;cases hg
  match args,ha with
  | [a1],ha =>
   have h1:a1=u:=ha.1;subst h1;obtain⟨p1,p2,_⟩:=hp;subst p1;exact sC hv p2
  | [],ha=>exact ha.elim
  | _::_::_,ha=>exact ha.2.elim
 ·cases hg
def Yo (v:Value) (N:Nat) (f:Nat→Nat) (num:Nat→Option Value) (_:Nat):Cfg:=⟨fun _=>dW.add 51 (Ko v N f),fun _=>true,num⟩
theorem VU (p:Option Addr) (N m:Nat) (f:Nat→Nat):eU prog (qG prog) (Yo (.slice p N m) N f (aE [(9,.bool true)])) f26 60 [.v (.im (.slice p N m))]=some ([Value.slice p N m=.slice p N m,1=1,aD .neq .i64 (GF N f) 0=some (.bool true)],.many [.im (.slice none 0 0),.im (.int .i64 (GF N f))]):=by kernel_rfl
theorem VT (p:Option Addr) (N m:Nat) (f:Nat→Nat):Ag prog { qG prog with x:=ND (rG.add 44 (Jh (.slice p N m) N f)) } (Yo (.slice p N m) N f (aE [(9,.bool false)])) f26 60 [.v (.im (.slice p N m))]=some ([Value.slice p N m=.slice p N m,1=1,aD .neq .i64 (GF N f) 0=some (.bool false),Value.slice p N m=.slice p N m,N≤131072],⟨aR (el f) 0 (aF f N),aF f N,aF f N,[.im (.int .i64 0)]⟩):=by kernel_rfl
theorem NM {w0:World} {v:Value} {N:Nat} {f:Nat→Nat} (hv:LV w0 v N f) (hN:N≤4611686018427387904) :
  (GF N f≠0→Good prog 26 (.many [.im (.slice none 0 0),.im (.int .i64 (GF N f))]) [v] w0) ∧
  (GF N f=0→Calls prog 26 #[v] w0 (fun e w'=>FR.ok ⟨aR (el f) 0 (aF f N),aF f N,aF f N,[.im (.int .i64 0)]⟩ w0 e w')):=by
 obtain⟨p,m,rfl,_⟩:=id hv;have hT:∀num,∀n d:Nat,TabOkW prog ((Yo (.slice p N m) N f num n).T d) w0.heap.size w0:=fun _ _ _=>TabOkW.add (bG.w _ _) func51 (by kernel_rfl) (by kernel_rfl) fun w hw=>Ac (hv.on hw) hN
 refine⟨fun h => ?_,fun h => ?_⟩
 ·exact bQ aG (hT _) ((aY _).w _ _) func26 (VU p N m f) ⟨rfl,rfl,tG h,trivial⟩ (args:=[.slice p N m]) ⟨rfl,trivial⟩
 ·exact tT aG (hT _) (jG fun w' hw=>(FrAt.none _ _).add func44 (by kernel_rfl) (by kernel_rfl) (ZF (hv.on hw))) func26 (VT p N m f) ⟨rfl,rfl,by rw[h]; rfl,rfl,by have:=(Ln h).1; omega,trivial⟩ (args:=[.slice p N m]) ⟨rfl,trivial⟩
def Ji (v:Value) (N:Nat) (f:Nat→Nat):List CA→Option (List Prop×FR)
 | [.v (.im u)]=>some ([u=v,GF N f=0],⟨aR (el f) 0 (aF f N),aF f N,aF f N,[.im (.int .i64 0)]⟩)
 | _=>none
theorem ZG {w:World} {v:Value} {N:Nat} {f:Nat→Nat} (hv:LV w v N f) (hN:N≤4611686018427387904):∀cs pre r,Ji v N f cs=some (pre,r)→aQ pre→∀(args:List Value),cF w cs args→Calls prog 26 args.toArray w (fun e w'=>r.ok w e w'):=by
 intro cs pre r hg hp args ha;unfold Ji at hg;split at hg
 ·rename_i u;cases hg
  match args,ha with
  | [a1],ha =>
   have h1:a1=u:=ha.1;subst h1;obtain⟨p1,p2,_⟩:=hp;subst p1;exact (NM hv hN).2 p2
  | [],ha=>exact ha.elim
  | _::_::_,ha=>exact ha.2.elim
 ·cases hg
def Js (N:Nat) (f:Nat→Nat) (M:Nat) (g:Nat→Nat):iR
 | [.s ul un um,.s tl tn tm]=>some ([aB ul=aB (aR (el f) 0 N),un=N,∀j,j<N→f j<aT,aB tl=aB (aR (el g) 0 M),tn=M,∀j,j<M→g j<aT,N≤4611686018427387904,jF N f M g],.one (.im (.bool true)))
 | _=>none
theorem ZO {w:World} {N:Nat} {f:Nat→Nat} {M:Nat} {g:Nat→Nat}:∀cs pre r,Js N f M g cs=some (pre,r)→aQ pre→∀(args:List Value),cF w cs args→Good prog 13 r args w:=by
 intro cs pre r hg hp args ha;unfold Js at hg;split at hg
 ·rename_i ul un um tl tn tm;cases hg
  match args,ha with
  | [a1,a2],ha =>
   have h1:=ha.1;have h2:=ha.2.1;obtain⟨p1,p2,p3,p4,p5,p6,p7,p8,_⟩:=hp;have h:=sK (rV (c:=.s ul un um) h1 rfl ⟨p1,p2,p3,trivial⟩) (rV (c:=.s tl tn tm) h2 rfl ⟨p4,p5,p6,trivial⟩) p7;rw[decide_eq_true p8]at h;exact h
  | [],ha=>exact ha.elim
  | [_],ha=>exact ha.2.elim
  | _::_::_::_,ha=>exact ha.2.2.elim
 ·cases hg
def Kg (N:Nat) (f:Nat→Nat):iR
 | [.s ul un um,.v (.fl xL)]=>match jQ xL with
  | some x=>some ([aB ul=aB (aR (el f) 0 N),un=N,N≤um,∀j,j<N→f j<aT,N≤4611686018427387904,x<aT,fH N f x=0],.many [.fl [.q (eO x N f N)],.im (.int .i64 0)])
  | none=>none
 | _=>none
theorem ZZ {w:World} {N:Nat} {f:Nat→Nat}:∀cs pre r,Kg N f cs=some (pre,r)→aQ pre→∀(args:List Value),cF w cs args→Good prog 27 r args w:=by
 intro cs pre r hg hp args ha;unfold Kg at hg;split at hg
 ·rename_i ul un um xL;split at hg
  ·rename_i x hx;cases hg
   match args,ha with
   | [a1,a2],ha =>
    have h1:=ha.1;have h2:a2=.agg (aB xL).toArray:=ha.2.1;rw[bL xL x hx]at h2;subst h2;obtain⟨p1,p2,p3,p4,p5,p6,p7,_⟩:=hp;exact (uB (LV.ofS h1 p1 p2 p3 p4) p5 p6).2 p7
   | [],ha=>exact ha.elim
   | [_],ha=>exact ha.2.elim
   | _::_::_::_,ha=>exact ha.2.2.elim
  ·cases hg
 ·cases hg
def Ki (v:Value) (N:Nat) (f:Nat→Nat):iR
 | [.v (.im u),.v (.fl xL)]=>match jQ xL with
  | some x=>some ([u=v,x<aT,fH N f x≠0],.many [.fl iD,.im (.int .i64 (fH N f x))])
  | none=>none
 | _=>none
theorem Aa {w:World} {v:Value} {N:Nat} {f:Nat→Nat} (hv:LV w v N f) (hN:N≤4611686018427387904):∀cs pre r,Ki v N f cs=some (pre,r)→aQ pre→∀(args:List Value),cF w cs args→Good prog 27 r args w:=by
 intro cs pre r hg hp args ha;unfold Ki at hg;split at hg
 ·rename_i u xL;split at hg
  ·rename_i x hx;cases hg
   match args,ha with
   | [a1,a2],ha =>
    have h1:a1=u:=ha.1;have h2:a2=.agg (aB xL).toArray:=ha.2.1;rw[bL xL x hx]at h2;subst h1;subst h2;obtain⟨p1,p2,p3,_⟩:=hp;subst p1;exact (uB hv hN p2).1 p3
   | [],ha=>exact ha.elim
   | [_],ha=>exact ha.2.elim
   | _::_::_::_,ha=>exact ha.2.2.elim
  ·cases hg
 ·cases hg
def Wl:Code:=(f6.body).getD .skip
def bk1:Code:=cB Wl
def Yd:Code:=cB bk1
def Yc:Code:=cB Yd
def Wk:Code:=cB Yc
def Lz:Code:=cB Wk
def Mx:Code:=cB Lz
def Yb:Code:=cB Mx
def Mw:Code:=cB Yb
theorem Bu:Wl=.seq (cA Wl) (.seq (cA bk1) (.seq (cA Yd) (.seq (cA Yc) (.seq (cA Wk) (.seq (cA Lz) (.seq (cA Mx) (.seq (cA Yb) (.seq (cA Mw) (cB Mw))))))))):=by kernel_rfl
def Ly:List Fact:=[.slot 10 (.im (.bool true))]
def zE (v:Value) (z:Int) (s x y:Nat):List Fact:=[.slot 0 (.im v),.slot 1 (.im (iV z)),.slot 7 (.pt 7 0),.row 7 true [.q s],.slot 8 (.pt 8 0),.row 8 true [.q x],.slot 9 (.pt 9 0),.row 9 true [.q y]]
theorem Wa (v:Value) (z:Int) (s x y:Nat):aH prog (qG prog) f6.ntmps (qF fun _=>none) 60 (cA Wl) (eF 0 [.v (.im v),.v (.im (iV z)),.v (.fl [.q s]),.v (.fl [.q x]),.v (.fl [.q y])]) (zE v z s x y)=some ([],.nrm,zE v z s x y):=by kernel_rfl
theorem Vz (v:Value) (z:Int) (s x y:Nat):aH prog (qG prog) f6.ntmps (qF fun _=>none) 60 (cA bk1) (zE v z s x y) (zE v z s x y)=some ([],.nrm,zE v z s x y):=by kernel_rfl
def Ya (v:Value) (N:Nat) (f:Nat→Nat) (n:Nat) (g:Nat→Nat) (m:Nat) (h:Nat→Nat) (num:Nat→Option Value) (_:Nat):Cfg:=⟨fun _=>(CZ.add 9 (Je v N f)).add 13 (Js n g m h),fun _=>true,num⟩
def aAQ (v:Value) (N:Nat) (f:Nat→Nat) (M:Nat) (g:Nat→Nat):Tab2:=(rG.add 11 (Km M g)).add 26 (Ji v N f)
theorem Wg (v:Value) (N:Nat) (f:Nat→Nat) (z:Int) (s x y:Nat):aH prog (qG prog) f6.ntmps (Ya v N f 0 f 0 f fun _=>none) 60 (cA Yd) (zE v z s x y) (.slot 12 (.im (iV (oT N f z s)))::zE v z s x y)=some ([v=v,s<aT,oT N f z s≠0],.nrm,.slot 12 (.im (iV (oT N f z s)))::zE v z s x y):=by kernel_rfl
theorem We (v:Value) (N:Nat) (f:Nat→Nat) (z e:Int) (s x y:Nat):aH prog (qG prog) f6.ntmps (Ya v N f 0 f 0 f (aE [(36,.bool false)])) 60 (cA Yc) (.slot 12 (.im (iV e))::zE v z s x y) (zE v z s x y)=some ([aD .eql .i64 e 0=some (.bool false)],.nrm,zE v z s x y):=by kernel_rfl
def bkB (v:Value) (log s x y n:Nat) (l:List At):List Fact:=.slot 11 (.sl 31 0 n n) :: .row 31 true l :: .slot 12 (.im (iV 0))::zE v (Int.ofNat log) s x y
def aAP (v:Value) (N:Nat) (f:Nat→Nat):Tab2:=rG.add 9 (RP v N f)
theorem Wf (v:Value) (N:Nat) (f:Nat→Nat) (log s x y:Nat):aH prog { qG prog with x:=ND (aAP v N f) } f6.ntmps (qF fun _=>none) 60 (cA Yd) (zE v (Int.ofNat log) s x y) (bkB v log s x y (2^log) (aR (el (mW N f log s)) 0 (2^log)))=some ([v=v,s<aT,oT N f (Int.ofNat log) s=0],.nrm,bkB v log s x y (2^log) (aR (el (mW N f log s)) 0 (2^log))):=by kernel_rfl
theorem Wd (v:Value) (N:Nat) (f g:Nat→Nat) (log s x y:Nat):aH prog { qG prog with x:=ND (aAQ v N f (2^log) g) } f6.ntmps (Ya v N f (aF (jE (2^log) g log s) (2^log)) (jE (2^log) g log s) (aF f N) f (aE [(51,.bool false),(56,.bool false)])) 60 (cA Yc) (bkB v log s x y (2^log) (aR (el g) 0 (2^log))) (zE v (Int.ofNat log) s x y) =
  some ([aB (aR (el g) 0 (2^log))=aB (aR (el g) 0 (2^log)),2^log=2^log,2^log≤2^log,∀j,j<2^log→g j<aT,2^log≤2305843009213693952,s<aT,qN (2^log) g (Int.ofNat log) s=0,v=v,GF N f=0,aD .neq .i64 0 0=some (.bool false),
   aB (aR (el (jE (2^log) g log s)) 0 (aF (jE (2^log) g log s) (2^log)))=aB (aR (el (jE (2^log) g log s)) 0 (aF (jE (2^log) g log s) (2^log))),aF (jE (2^log) g log s) (2^log)=aF (jE (2^log) g log s) (2^log),∀j,j<aF (jE (2^log) g log s) (2^log)→jE (2^log) g log s j<aT,
   aB (aR (el f) 0 (aF f N))=aB (aR (el f) 0 (aF f N)),aF f N=aF f N,∀j,j<aF f N→f j<aT,aF (jE (2^log) g log s) (2^log)≤4611686018427387904,jF (aF (jE (2^log) g log s) (2^log)) (jE (2^log) g log s) (aF f N) f,Value.bool (!true)=.bool false],.nrm,zE v (Int.ofNat log) s x y):=by kernel_rfl
def Xx (v:Value) (y:Nat) (e:Int):List Fact:=[.slot 19 (.im (iV e)),.slot 0 (.im v),.slot 9 (.pt 9 0),.row 9 true [.q y]]
def Xz (v:Value) (N:Nat) (f:Nat→Nat) (num:Nat→Option Value) (_:Nat):Cfg:=⟨fun _=>(CZ.add 16 (ZX v N f)).add 27 (Ki v N f),fun _=>true,num⟩
theorem Wc (v:Value) (N:Nat) (f:Nat→Nat) (z:Int) (s x y:Nat):aH prog (qG prog) f6.ntmps (Xz v N f fun _=>none) 60 (cA Wk) (zE v z s x y) (Xx v y (fH N f x))=some ([v=v,x<aT,fH N f x≠0],.nrm,Xx v y (fH N f x)):=by kernel_rfl
def El (e1 e2:Int):List Fact:=[.slot 19 (.im (iV e1)),.slot 21 (.im (iV e2))]
theorem By (v:Value) (N:Nat) (f:Nat→Nat) (y:Nat) (e:Int):aH prog (qG prog) f6.ntmps (Xz v N f fun _=>none) 60 (cA Lz) (Xx v y e) (El e (fH N f y))=some ([v=v,y<aT,fH N f y≠0],.nrm,El e (fH N f y)):=by kernel_rfl
theorem Bx (v:Value) (N:Nat) (f:Nat→Nat) (y:Nat) (e:Int):aH prog (qG prog) f6.ntmps (YI v N f fun _=>none) 60 (cA Lz) (Xx v y e) (El e 0)=some ([v=v,y<aT,fH N f y=0],.nrm,El e 0):=by kernel_rfl
theorem TD (e1 e2:Int):aH prog (qG prog) f6.ntmps (qF (aE [(73,.bool true)])) 60 (cA Mx) (El e1 e2) Ly=some ([aD .neq .i64 e1 0=some (.bool true)],.rt,Ly):=by kernel_rfl
theorem Lx (e2:Int):aH prog (qG prog) f6.ntmps (qF (aE [(73,.bool false),(77,.bool true)])) 60 (cA Mx) (El 0 e2) Ly=some ([aD .neq .i64 0 0=some (.bool false),aD .neq .i64 e2 0=some (.bool true)],.rt,Ly):=by kernel_rfl
def Xy (v:Value) (x y n r:Nat) (l:List At):List Fact:=[.slot 17 (.sl 61 0 n n),.row 61 true l,.slot 18 (.pt 18 0),.row 18 true [.q r],.slot 19 (.im (iV 0)),.slot 0 (.im v),.slot 8 (.pt 8 0),.row 8 true [.q x],.slot 9 (.pt 9 0),.row 9 true [.q y]]
theorem Wb (v:Value) (N:Nat) (f:Nat→Nat) (z:Int) (s x y:Nat):aH prog { qG prog with x:=ND (rG.add 16 (ZW v N f)) } f6.ntmps (qF fun _=>none) 60 (cA Wk) (zE v z s x y) (Xy v x y (rL x (aF f N) f) (QO x (aF f N) f) (aR (el (tK x (aF f N) f)) 0 (rL x (aF f N) f)))=some ([v=v,x<aT,fH N f x=0],.nrm,Xy v x y (rL x (aF f N) f) (QO x (aF f N) f) (aR (el (tK x (aF f N) f)) 0 (rL x (aF f N) f))):=by kernel_rfl
theorem Bw (v:Value) (N:Nat) (f:Nat→Nat) (x y n r:Nat) (l:List At):aH prog (qG prog) f6.ntmps (Xz v N f fun _=>none) 60 (cA Lz) (Xy v x y n r l) (El 0 (fH N f y))=some ([v=v,y<aT,fH N f y≠0],.nrm,El 0 (fH N f y)):=by kernel_rfl
def Mv (x y n r t:Nat) (l:List At):List Fact:=[.slot 17 (.sl 61 0 n n),.row 61 true l,.slot 18 (.pt 18 0),.row 18 true [.q r],.slot 20 (.pt 20 0),.row 20 true [.q t],.slot 8 (.pt 8 0),.row 8 true [.q x],.slot 9 (.pt 9 0),.row 9 true [.q y]]
theorem Bv (v:Value) (N:Nat) (f:Nat→Nat) (x y n r:Nat) (l:List At):aH prog (qG prog) f6.ntmps (YI v N f fun _=>none) 60 (cA Lz) (Xy v x y n r l) (.slot 19 (.im (iV 0)) :: .slot 21 (.im (iV 0))::Mv x y n r (eO y N f N) l)=some ([v=v,y<aT,fH N f y=0],.nrm,.slot 19 (.im (iV 0)) :: .slot 21 (.im (iV 0))::Mv x y n r (eO y N f N) l):=by kernel_rfl
theorem Lw (x y n r t:Nat) (l:List At):aH prog (qG prog) f6.ntmps (qF (aE [(73,.bool false),(77,.bool false)])) 60 (cA Mx) (.slot 19 (.im (iV 0)) :: .slot 21 (.im (iV 0))::Mv x y n r t l) (Mv x y n r t l)=some ([aD .neq .i64 0 0=some (.bool false),aD .neq .i64 0 0=some (.bool false)],.nrm,Mv x y n r t l):=by kernel_rfl
def bkI (x y r t q:Nat):List Fact:=[.slot 18 (.pt 18 0),.row 18 true [.q r],.slot 20 (.pt 20 0),.row 20 true [.q t],.slot 22 (.pt 22 0),.row 22 true [.q q],.slot 8 (.pt 8 0),.row 8 true [.q x],.slot 9 (.pt 9 0),.row 9 true [.q y]]
def bkE (n:Nat) (g:Nat→Nat) (_:Nat):Cfg:=⟨fun _=>CZ.add 27 (Kg n g),fun _=>true,fun _=>none⟩
theorem Wj (x y n r t:Nat) (g:Nat→Nat):aH prog (qG prog) f6.ntmps (bkE n g) 60 (cA Yb) (Mv x y n r t (aR (el g) 0 n)) (bkI x y r t (eO y n g n))=some ([aB (aR (el g) 0 n)=aB (aR (el g) 0 n),n=n,n≤n,∀j,j<n→g j<aT,n≤4611686018427387904,y<aT,fH n g y=0],.nrm,bkI x y r t (eO y n g n)):=by kernel_rfl
def bkJ (r t q d:Nat):List Fact:=[.slot 18 (.pt 18 0),.row 18 true [.q r],.slot 20 (.pt 20 0),.row 20 true [.q t],.slot 22 (.pt 22 0),.row 22 true [.q q],.slot 24 (.pt 24 0),.row 24 true [.q d]]
theorem Wi (x y r t q:Nat):aH prog (qG prog) f6.ntmps (qF fun _=>none) 60 (cA Mw) (bkI x y r t q) (bkJ r t q (lV y x))=some ([y<RM,x<RM],.nrm,bkJ r t q (lV y x)):=by kernel_rfl
theorem Wh (r t q d:Nat):aH prog (qG prog) f6.ntmps (qF fun _=>none) 60 (cB Mw) (bkJ r t q d) Ly=some ([q<RM,d<RM,cS q d<RM,r<RM,aB [.q t]=aB [.q (jB (cS q d) r)]],.rt,Ly):=by kernel_rfl
theorem YW {x N:Nat} {f g:Nat→Nat} (h:∀j,j<N→f j=g j):eO x N f N=eO x N g N:=by
 refine iW (fF _ _ _ _) (fF _ _ _ _) ?_;rw[hJ,hJ];exact jS KR _ fun i hi=>by rw[h i hi]
theorem GM {N log s:Nat} {f:Nat→Nat} (h:oT N f (Int.ofNat log) s=0):qN (2^log) (mW N f log s) (Int.ofNat log) s=0∧jF (aF (jE (2^log) (mW N f log s) log s) (2^log)) (jE (2^log) (mW N f log s) log s) (aF f N) f∧(∀j,j<2^log→mW N f log s j<RM)∧N≤65536∧bT N f∧log≤16∧(∀j,jE (2^log) (mW N f log s) log s j<RM):=by
 have hc:gX N f (Int.ofNat log) s=0∧aF f N≤2^log:=by
  unfold oT at h
  by_cases he:gX N f (Int.ofNat log) s=0
  ·rw[if_neg (fun q=>q he)]at h
   by_cases hL:aF f N≤2^(Int.ofNat log).toNat
   ·exact⟨he,hL⟩
   ·rw[if_neg hL]at h; cases h
  ·rw[if_pos he]at h; exact absurd h he
 obtain⟨q1,q2,q3,q4,log',q5,e⟩:=iN hc.1;have e:log=log':=Int.ofNat.inj e;subst e;have hT:=hc.2;have hle:=cC f N;have hv:∀j,j<2^log→mW N f log s j=mT (aF f N) f (cJ log) s j:=fun j hj=>NI q5 hT q3 hj
 have hvl:∀j,j<2^log→mW N f log s j<RM:=fun j hj=>by rw[hv j hj]; exact fF _ _ _ _
 have hfT:bT (aF f N) f:=fun j hj=>q2 j (by omega)
 have hb:∀j,j<2^log→jE (2^log) (mW N f log s) log s j=nZ f (aF f N) j:=fun j hj=>by
  rw[SR q5 hvl hj,←Bz hfT hT q5 q3 q4 hj];unfold lG;rw[YW hv]
 have hp2:2^log≤65536:=Nat.pow_le_pow_right (n:=2) (by omega) q5;have hcl:∀j,jE (2^log) (mW N f log s) log s j<RM:=fun j=>cL _ _
 have htl:aF (jE (2^log) (mW N f log s) log s) (2^log)=aF f N:=by
  rw[nE (2^log) hb];refine vD hT (fun j h1 h2 => ?_) fun h0 => ?_
  ·unfold nZ; rw[if_neg (by omega)]
  ·unfold nZ;rw[if_pos (by omega)];exact iC f N h0
 refine⟨?_,⟨?_,fun j hj => ?_⟩,hvl,q1,q2,q5,hcl⟩
 ·have hcc:gX (2^log) (mW N f log s) (Int.ofNat log) s=0:=by
   have hd:eD (Int.ofNat log) 16=true:=jL.2 ⟨Int.natCast_nonneg _,by show (log:Int)≤16; omega⟩;have hk:fH (2^log) (mW N f log s) s=0:=by
    unfold fH;rw[if_pos hp2,if_pos ⟨hvl,q3⟩]
   unfold gX;rw[hk,if_neg (fun q=>q rfl),if_neg (by rw[hd]; decide),if_neg q4]
  unfold qN;rw[hcc,if_neg (fun q=>q rfl),if_pos (show 2^log=2^(Int.ofNat log).toNat from rfl)]
 ·exact htl
 ·have hj2:j<2^log:=Nat.lt_of_lt_of_le hj (cC _ _);rw[hb j hj2];unfold nZ;rw[if_pos (by omega)]
theorem GL {w0:World} {v:Value} {N s x y:Nat} {f:Nat→Nat} (z:Int) (hv:LV w0 v N f) (hN:N≤2305843009213693952) (hs:s<aT) (hx:x<aT) (hy:y<aT):Good prog 6 (.one (.im (.bool true))) [v,iV z,.agg (aB [At.q s]).toArray,.agg (aB [At.q x]).toArray,.agg (aB [At.q y]).toArray] w0:=by
 have hT:∀(base:Nat) (w:World) (n d:Nat),TabOkW prog CZ base w:=fun _ _ _ _=>tD.w _ _
 have hG:bH prog (qG prog) w0.heap.size w0:=(aY _).w _ _;obtain⟨p0,m0,rfl,hm0,h256,hmem⟩:=id hv;have hD:∀num,∀n d:Nat,TabOkW prog ((Xz (.slice p0 N m0) N f num n).T d) w0.heap.size w0:=fun _ _ _=>TabOkW.add (TabOkW.add (tD.w _ _) func16 (by kernel_rfl) (by kernel_rfl) fun w hw=>JF (hv.on hw) (by omega)) func27 (by kernel_rfl) (by kernel_rfl) fun w hw=>Aa (hv.on hw) (by omega)
 have hE:∀num,∀n d:Nat,TabOkW prog ((YI (.slice p0 N m0) N f num n).T d) w0.heap.size w0:=fun _ _ _=>TabOkW.add (tD.w _ _) func27 (by kernel_rfl) (by kernel_rfl) fun w hw=>JH (hv.on hw) (by omega)
 have hC:∀n g m h num,∀k d:Nat,TabOkW prog ((Ya (.slice p0 N m0) N f n g m h num k).T d) w0.heap.size w0:=fun _ _ _ _ _ _ _=>TabOkW.add (TabOkW.add (tD.w _ _) func9 (by kernel_rfl) (by kernel_rfl) fun w hw=>ZC (hv.on hw) hN) func13 (by kernel_rfl) (by kernel_rfl) fun w hw=>ZO
 have out:∀{a:Act} {w:World},Holds f6.ntmps w0.heap.size w0 Ly a w→bodyPost prog f6 (fun e w'=>e=.returned (RV.den (.one (.im (.bool true))))∧Below w0.heap.size w0 w') .ret a w:=fun hA=>aW (l:=[.im (.bool true)]) (r:=.one (.im (.bool true))) (by kernel_rfl) (by kernel_rfl) hA
 refine bJ func6 (cs:=[.v (.im (.slice p0 N m0)),.v (.im (iV z)),.v (.fl [.q s]),.v (.fl [.q x]),.v (.fl [.q y])]) (args:=[.slice p0 N m0,iV z,.agg (aB [At.q s]).toArray,.agg (aB [At.q x]).toArray,.agg (aB [At.q y]).toArray]) (c:=Wl) rfl ⟨rfl,rfl,rfl,rfl,rfl,trivial⟩ (Nat.le_of_ble_eq_true (by kernel_rfl)) fun a w hA => ?_
 rw[Bu];refine wp_seq (aA aG (hT _ _) hG (Wa _ z s x y) trivial hA fun a w hA => ?_);refine wp_seq (aA aG (hT _ _) hG (Vz _ z s x y) trivial hA fun a w hA => ?_);have rest:∀{a:Act} {w:World},Holds f6.ntmps w0.heap.size w0 (zE (.slice p0 N m0) z s x y) a w→(Code.seq (cA Wk) (.seq (cA Lz) (.seq (cA Mx) (.seq (cA Yb) (.seq (cA Mw) (cB Mw)))))).wp prog (bodyPost prog f6 (fun e w'=>e=.returned (RV.den (.one (.im (.bool true))))∧Below w0.heap.size w0 w')) a w:=fun hA=>by
  by_cases h1:fH N f x=0
  ·obtain⟨q1,q2,q3⟩:=uH h1;obtain⟨s1,s2,s3⟩:=IS (x:=x) q2;have hl:=cC (rE x N f N) N;refine wp_seq (aA aG (hT _ _) (jG fun w' hw=>(FrAt.none _ _).add func16 (by kernel_rfl) (by kernel_rfl) (JE (hv.on hw) (by omega))) (Wb _ N f z s x y) ⟨rfl,hx,h1,trivial⟩ hA fun a w hA => ?_)
   by_cases h2:fH N f y=0
   ·obtain⟨_,_,q4⟩:=uH h2;refine wp_seq (aA aG (hE _) hG (Bv _ N f x y _ _ _) ⟨rfl,hy,h2,trivial⟩ hA fun a w hA => ?_);refine wp_seq (aA aG (hT _ _) hG (Lw x y _ _ _ _) ⟨rfl,rfl,trivial⟩ hA fun a w hA => ?_);rw[s3,show aR (el (tK x (aF f N) f)) 0 (rL x (aF f N) f)=aR (el (rE x N f N)) 0 (rL x (aF f N) f)from yV _ 0 fun j hj=>by rw[Nat.zero_add]; exact s2 j hj,s1]at hA;have hck:fH (aF (rE x N f N) N) (rE x N f N) y=0:=by
     unfold fH;rw[if_pos (by omega),if_pos ⟨fun j _=>FK _ _ _ _ _,q4⟩]
    refine wp_seq (aA aG (fun _ _=>TabOkW.add (tD.w _ _) func27 (by kernel_rfl) (by kernel_rfl) fun w hw=>ZZ) hG (Wj x y (aF (rE x N f N) N) (eO x N f N) (eO y N f N) (rE x N f N)) ⟨rfl,rfl,Nat.le_refl _,fun j _=>eQ (FK _ _ _ _ _),by omega,hy,hck,trivial⟩ hA fun a w hA => ?_);refine wp_seq (aA aG (hT _ _) hG (Wi x y _ _ _) ⟨q4,q3,trivial⟩ hA fun a w hA => ?_);exact aA aG (hT _ _) hG (Wh (eO x N f N) (eO y N f N) (eO y (aF (rE x N f N) N) (rE x N f N) (aF (rE x N f N) N)) (lV y x)) ⟨fF _ _ _ _,iK _ _,cL _ _,fF _ _ _ _,by rw[←YL q3],trivial⟩ hA fun a w hA=>out hA
   ·refine wp_seq (aA aG (hD _) hG (Bw _ N f x y _ _ _) ⟨rfl,hy,h2,trivial⟩ hA fun a w hA => ?_);exact wp_seq (aA aG (hT _ _) hG (Lx _) ⟨rfl,tG h2,trivial⟩ hA fun a w hA=>out hA)
  ·refine wp_seq (aA aG (hD _) hG (Wc _ N f z s x y) ⟨rfl,hx,h1,trivial⟩ hA fun a w hA => ?_)
   by_cases h2:fH N f y=0
   ·refine wp_seq (aA aG (hE _) hG (Bx _ N f y _) ⟨rfl,hy,h2,trivial⟩ hA fun a w hA => ?_);exact wp_seq (aA aG (hT _ _) hG (TD _ _) ⟨tG h1,trivial⟩ hA fun a w hA=>out hA)
   ·refine wp_seq (aA aG (hD _) hG (By _ N f y _) ⟨rfl,hy,h2,trivial⟩ hA fun a w hA => ?_);exact wp_seq (aA aG (hT _ _) hG (TD _ _) ⟨tG h1,trivial⟩ hA fun a w hA=>out hA)
 by_cases h0:oT N f z s=0
 ·obtain⟨log,rfl⟩:∃log:Nat,z=Int.ofNat log:=by
   unfold oT at h0
   by_cases he:gX N f z s=0
   ·obtain⟨_,_,_,_,log,_,e⟩:=iN he;exact⟨log,e⟩
   ·rw[if_pos he]at h0; exact absurd h0 he
  obtain⟨b1,b2,b3,b4,b5,b6,b7⟩:=GM h0;have hp2:2^log≤65536:=Nat.pow_le_pow_right (n:=2) (by omega) b6;have ht:=cC (jE (2^log) (mW N f log s) log s) (2^log);have hck:GF N f=0:=by
   unfold GF;rw[if_pos b4,if_pos b5]
  refine wp_seq (aA aG (hT _ _) (jG fun w' hw=>(FrAt.none _ _).add func9 (by kernel_rfl) (by kernel_rfl) (RO (hv.on hw) hN)) (Wf _ N f log s x y) ⟨rfl,hs,h0,trivial⟩ hA fun a w hA => ?_);refine wp_seq (aA aG (hC _ _ _ _ _) (jG fun w' hw=>((FrAt.none _ _).add func11 (by kernel_rfl) (by kernel_rfl) Ab).add func26 (by kernel_rfl) (by kernel_rfl) (ZG (hv.on hw) (by omega))) (Wd _ N f (mW N f log s) log s x y) ⟨rfl,rfl,Nat.le_refl _,fun j hj=>eQ (b3 j hj),by omega,hs,b1,rfl,hck,rfl,rfl,rfl,fun j _=>eQ (b7 j),rfl,rfl,fun j hj=>h256 j (Nat.lt_of_lt_of_le hj (cC f N)),by omega,b2,rfl,trivial⟩ hA fun a w hA => ?_);exact rest hA
 ·refine wp_seq (aA aG (hC 0 f 0 f _) hG (Wg _ N f z s x y) ⟨rfl,hs,h0,trivial⟩ hA fun a w hA => ?_);refine wp_seq (aA aG (hC 0 f 0 f _) hG (We _ N f z _ s x y) ⟨Kw h0,trivial⟩ hA fun a w hA => ?_);exact rest hA
end Go.Proofs.Ytjjnbgoepbiojaa.Ex
