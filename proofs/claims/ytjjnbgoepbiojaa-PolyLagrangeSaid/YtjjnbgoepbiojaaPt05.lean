/- Pt05 -/
import Derived.Test.YtjjnbgoepbiojaaPt04
import Derived.Test.YtjjnbgoepbiojaaPt03
import Derived.Test.YtjjnbgoepbiojaaProg
set_option maxRecDepth 100000
set_option linter.unusedVariables false
set_option linter.unusedSimpArgs false
set_option linter.unnecessarySimpa false
noncomputable section
namespace Go.Proofs.Ytjjnbgoepbiojaa.Ex
open Go.Proofs.Try
open Go.RowKit
def qK (id:Nat) (caps:List Value):Value:=.func (.func id) #[] caps.toArray
def TB (v:Value) (Z:List At) (N i:Nat):List Fact:=[.slot 1 (.im v),.slot 5 (.sl 8 0 N N),.row 8 true Z,.slot 10 (.im (iI N)),.slot 11 (.im (iI i))]
def eL:Code:=(f67.body).getD .skip
def uK:Code:=gH (gH (cB (cA (cB (cB eL)))))
theorem JW:eL=.seq (cA eL) (.seq (cA (cB eL)) (.seq (.seq (cA (cA (cB (cB eL)))) (.block 0 (.loop uK))) (cB (cB (cB eL))))):=by kernel_rfl
theorem Vs (v:Value) (N:Nat):aH prog (qG prog) f67.ntmps (cG fun _=>none) 40 (cA eL) (eF 0 [.v (.im (iI N)),.v (.im v)]) [.slot 0 (.im (iI N)),.slot 1 (.im v)]=some ([],.nrm,[.slot 0 (.im (iI N)),.slot 1 (.im v)]):=by kernel_rfl
def xM (d N:Nat) (Z:List At):Ext:={ Ext.none with mks:=aE [(d,(N,Z))],T2:=rG,T3:=KG,T4:=KB,T5:=KE,T6:=KF }
theorem Cr (d N:Nat) (Z:List At) (base:Nat) (w:World):bH prog { qG prog with x:=xM d N Z } base w :=
 ⟨(aY _).1,fL (fun b o l h=>h.elim) (fun w' _=>FrAt.none _ _) (fun w' _=>FsAt.none _ _)⟩
theorem Vr (v:Value) (N:Nat) (Z:List At):aH prog { qG prog with x:=xM 8 N Z } f67.ntmps (cG fun _=>none) 40 (cA (cB eL)) [.slot 0 (.im (iI N)),.slot 1 (.im v)] [.slot 1 (.im v),.slot 5 (.sl 8 0 N N),.row 8 true Z]=some ([∃e,∀w:World,(Instr.makeSlice 22 (iI N) (iI N)).run prog w=.ok (.slice (some ⟨w.heap.size,0,none⟩) N N) (w.alloc (.cells (aB Z).toArray e))],.nrm,[.slot 1 (.im v),.slot 5 (.sl 8 0 N N),.row 8 true Z]):=by kernel_rfl
theorem Vq (v:Value) (N:Nat) (Z:List At):aH prog (qG prog) f67.ntmps (cG fun _=>none) 40 (cA (cA (cB (cB eL)))) [.slot 1 (.im v),.slot 5 (.sl 8 0 N N),.row 8 true Z] (TB v Z N 0)=some ([],.nrm,TB v Z N 0):=by kernel_rfl
def Me (id:Nat) (caps:List Value) (i x:Nat):Tab:=fun f' cs=>some ([f'=id,cs=.v (.im (iI i))::caps.map fun v=>.v (.im v)],.one (.fl [.q x]))
def xS (d i:Nat) (Z:List At):Ext:={ Ext.none with idx:=aE [(d,i)],st:=aE [(d,Z)],T2:=rG,T3:=KG,T4:=KB,T5:=KE,T6:=KF }
theorem Nc (d i:Nat) (Z:List At) (base:Nat) (w:World):bH prog { qG prog with x:=xS d i Z } base w :=
 ⟨(aY _).1,fL (fun b o l h=>h.elim) (fun w' _=>FrAt.none _ _) (fun w' _=>FsAt.none _ _)⟩
theorem Vt (id:Nat) (caps:List Value) (Z Z':List At) (N i x:Nat):aH prog { qG prog with x:=xS 19 i Z' } f67.ntmps (fun _=>⟨fun _=>Me id caps i x,fun _=>true,aE [(12,.bool true),(20,iI (i+1))]⟩) 60 uK (TB (qK id caps) Z N i) (TB (qK id caps) Z' N (i+1))=some ([aD .lss .i64 (Int.ofNat i) (Int.ofNat N)=some (.bool true),id=id,CA.v (.im (iI i))::(caps.map fun v=>CA.v (.im v))=CA.v (.im (iI i))::(caps.map fun v=>CA.v (.im v)),Int.ofNat i=Int.ofNat i,i<N,put Z (0+i*4) [.q x]=some Z',aD .add .i64 (Int.ofNat i) 1=some (iI (i+1))],.nrm,TB (qK id caps) Z' N (i+1)):=by kernel_rfl
theorem Ls (v:Value) (Z:List At) (N i:Nat):aH prog (qG prog) f67.ntmps (cG (aE [(12,.bool false)])) 40 uK (TB v Z N i) (TB v Z N i)=some ([aD .lss .i64 (Int.ofNat i) (Int.ofNat N)=some (.bool false)],.ex 0,TB v Z N i):=by kernel_rfl
theorem Br (v:Value) (Z:List At) (N i:Nat):aH prog (qG prog) f67.ntmps (cG fun _=>none) 40 (cB (cB (cB eL))) (TB v Z N i) [.slot 4 (.sl 8 0 N N),.row 8 true Z]=some ([],.rt,[.slot 4 (.sl 8 0 N N),.row 8 true Z]):=by kernel_rfl
theorem CI:uQ (aB [At.q 0]) (.int .u64 0):=by unfold uQ; kernel_rfl
def TU (id:Nat):Prop:=∀args w,(callFunc id args).run prog w=.ok (.enter id args) w
theorem JV {w:World}:∀{caps vs:List Value},cF w (caps.map fun v=>.v (.im v)) vs→vs=caps
 | [],[],_=>rfl
 | [],_::_,h=>h.elim
 | _::_,[],h=>h.elim
 | c::cs,u::us,h=>by
  have h3:u=c:=h.1;rw[h3,JV h.2]
theorem Cj {w:World} {id:Nat} {caps:List Value} {i x:Nat} (hA:TU id) (h:Good prog id (.one (.fl [.q x])) (iI i::caps) w):CY prog (Me id caps i x) w:=by
 intro f cs pre r hg hp;unfold Me at hg;cases hg;obtain⟨rfl,rfl,_⟩:=hp;refine⟨hA,fun args ha => ?_⟩;have e:args=iI i::caps:=by
  match args,ha with
  | v::vs,ha =>
   have h1:v=iI i:=ha.1;subst h1;rw[JV ha.2]
  | [],ha=>exact ha.elim
 rw[e];exact h
theorem SZ {w0:World} {id:Nat} {caps:List Value} {N:Nat} {f:Nat→Nat} (hN:N≤131072) (hA:TU id) (hC:∀i,i<N→∀w',Below w0.heap.size w0 w'→Good prog id (.one (.fl [.q (f i)])) (iI i::caps) w') :
  Calls prog 67 #[iI N,qK id caps] w0 (fun e w'=>FR.ok ⟨aR (el f) 0 N,N,N,[]⟩ w0 e w'):=by
 have hG:bH prog (qG prog) w0.heap.size w0:=(aY _).w _ _;have hT:∀n d:Nat,TabOkW prog dW w0.heap.size w0:=fun _ _=>bG.w _ _
 refine bJ func67 (cs:=[.v (.im (iI N)),.v (.im (qK id caps))]) (args:=[iI N,qK id caps]) (c:=eL) rfl ⟨rfl,rfl,trivial⟩ (Nat.le_of_ble_eq_true (by kernel_rfl)) fun a w' hA' => ?_
 rw[JW];refine wp_seq (aA aG hT hG (Vs _ _) trivial hA' fun a w' hA' => ?_);refine wp_seq (aA aG hT (Cr 8 N (aR (fun _=>[.q 0]) 0 N) _ _) (Vr _ N (aR (fun _=>[.q 0]) 0 N)) ⟨Dj (t:=22) (e:=25) (z:=[.q 0]) (v:=.int .u64 0) (n:=4) (by8:=32) (by kernel_rfl) (by kernel_rfl) rfl CI (by omega) (by omega) (by omega),trivial⟩ hA' fun a w' hA' => ?_);refine wp_seq (wp_seq (aA aG hT hG (Vq _ _ _) trivial hA' fun a w' hA' => ?_));refine wp_block ?_;rw[←QX (el f)]at hA';refine cE aG (fun i=>TB (qK id caps) (tL (el f) [.q 0] N i) N i) N (fun i hi => ?_) (.ex 0) (by simp) (TB (qK id caps) (aR (el f) 0 N) N N) ?_ hA' fun a w hA' => ?_
 ·exact⟨_,_,_,_,Nc 19 i (tL (el f) [.q 0] N (i+1)) _ _,fun _ _ w' hw=>Cj hA (hC i hi w' hw),Vt id caps _ _ N i (f i),bV hi,rfl,rfl,rfl,hi,AR (f:=el f) (c:=4) (fun _=>rfl) rfl hi (Nat.zero_add _),eT (k:=1) (by omega),trivial⟩
 ·rw[←QV (el f) [.q 0] N];exact⟨_,_,_,_,hG,hT,Ls _ _ N N,dI (Nat.le_refl _),trivial⟩
 ·show (cB (cB (cB eL))).wp _ _ _ _;exact aA aG hT hG (Br _ _ N N) trivial hA' fun a w' hA=>fA (r:=⟨aR (el f) 0 N,N,N,[]⟩) (by kernel_rfl) hA
def oD:List (Nat×TV)→List Fact
 | []=>[]
 | (s,t)::r=>.slot s t.av::oD r
theorem gC:∀{l:List (Nat×TV)} {φ:Fact},φ∈oD l→∃x∈l,φ=.slot x.1 x.2.av
 | x::r,φ,h=>by
  rcases List.mem_cons.1 h with rfl|h
  ·exact⟨x,List.mem_cons_self,rfl⟩
  ·obtain⟨y,h1,h2⟩:=gC h;exact⟨y,List.mem_cons_of_mem _ h1,h2⟩
theorem Holds.fresh {nt base:Nat} {w0:World} {A:List Fact} {a:Act} {w:World} (h:Holds nt base w0 A a w) (l:List (Nat×TV)) (hl:∀x∈l,a.tmps[x.1]?=some x.2.den):Holds nt w.heap.size w (oD l) a w:=by
 refine⟨h.defers,h.size,Below.refl _ _,Nat.le_refl _,fun _=>(w.heap.size,0,0),fun φ hφ => ?_,fun k k' o' l1 l2 h1 => ?_,fun k l1 h1 => ?_,Nat.le_refl _,fun p h1 h2=>⟨rfl,rfl⟩,Shape.refl _⟩
 ·obtain⟨x,hx,rfl⟩:=gC hφ;show a.tmps[x.1]?=_;rw[TV.av_den];exact hl x hx
 ·obtain⟨x,_,e⟩:=gC h1; cases e
 ·obtain⟨x,_,e⟩:=gC h1; cases e
theorem Holds.ptr {nt base:Nat} {w0:World} {A:List Fact} {a:Act} {w:World} (h:Holds nt base w0 A a w) {s k b:Nat} (h1:Fact.slot s (.pt k 0)∈A) (h2:Fact.at k b∈A):a.tmps[s]?=some (bZ b 0):=by
 obtain⟨β,g1,g2⟩:=h.facts;have e1:=g1 _ h1;have e2:=g1 _ h2;simp only[Fact.ok,AV.den]at e1 e2;rw[e1,e2.1,e2.2];rfl
theorem FR.ok.older {r:FR} {w w1 w2:World} {e:Ending} (h:r.ok w1 e w2) (hb:Below w.heap.size w w1):r.ok w e w2:=by
 obtain⟨b,h1,h2,h3,h4⟩:=h;exact⟨b,h1,hb.trans (h2.mono hb.size),Nat.le_trans hb.size h3,h4⟩
def oX:Code:=(f44.body).getD .skip
theorem UQ:oX=.seq (cA oX) (cB oX):=by kernel_rfl
theorem Nx (v:Value) (p:Option Addr) (N m:Nat) (h:v=.slice p N m):aH prog (qG prog) f44.ntmps (cG fun _=>none) 40 (cA oX) (eF 0 [.v (.im (.slice p N m))]) [.slot 1 (.pt 1 0),.row 1 true [.c (.slice p N m)]]=some ([],.nrm,[.slot 1 (.pt 1 0),.row 1 true [.c (.slice p N m)]]):=by kernel_rfl
def RQ (v:Value) (T:Nat):iR
 | [.v (.im u)]=>some ([u=v],.one (.im (iI T)))
 | _=>none
def RR (id:Nat) (caps:List Value) (N:Nat) (f:Nat→Nat):List CA→Option (List Prop×FR)
 | [.v (.im n),.v (.im g)]=>some ([n=iI N,g=qK id caps],⟨aR (el f) 0 N,N,N,[]⟩)
 | _=>none
theorem JD {w:World} {v:Value} {N:Nat} {f:Nat→Nat} (hv:LV w v N f) (hN:N≤2305843009213693952):∀cs pre r,RQ v (aF f N) cs=some (pre,r)→aQ pre→∀(args:List Value),cF w cs args→Good prog 33 r args w:=by
 intro cs pre r hg hp args ha;unfold RQ at hg;split at hg
 ·cases hg
  match args,ha with
  | [u],ha =>
   have h1:u=_:=ha.1;have h2:=hp.1;subst h1;subst h2;exact QN hv hN
  | [],ha=>exact ha.elim
  | _::_::_,ha=>exact ha.2.elim
 ·cases hg
theorem yJ {w:World} {id:Nat} {caps:List Value} {N:Nat} {f:Nat→Nat} (hN:N≤131072) (hA:TU id) (hC:∀i,i<N→∀w',Below w.heap.size w w'→Good prog id (.one (.fl [.q (f i)])) (iI i::caps) w') :
  ∀cs pre r,RR id caps N f cs=some (pre,r)→aQ pre→∀(args:List Value),cF w cs args→Calls prog 67 args.toArray w (fun e w'=>r.ok w e w'):=by
 intro cs pre r hg hp args ha;unfold RR at hg;split at hg
 ·cases hg
  match args,ha with
  | [u,t],ha =>
   have h1:u=_:=ha.1;have h2:t=_:=ha.2.1;subst h1; subst h2;have e1:=hp.1;have e2:=hp.2.1;subst e1; subst e2;exact SZ hN hA hC
  | [],ha=>exact ha.elim
  | [_],ha=>exact ha.2.elim
  | _::_::_::_,ha=>exact ha.2.2.elim
 ·cases hg
theorem VS (w:World) (b o N m i x bx:Nat):eU prog { qG prog with x:=xO w (aE [(6,i)]) (aE [(7,[.q x])]) (aE [(4,aZ b o N m)]) } (cG fun _=>none) f78 40 [.v (.im (iI i)),.v (.im (bZ bx 0))]=some ([oldOf w bx 0 [.c (aZ b o N m)],Int.ofNat i=Int.ofNat i,i<N,oldOf w b (o+i*4) [.q x],cR [.q x]=4],.one (.fl [.q x])):=by kernel_rfl
theorem KJ {w:World} {b o N m i bx:Nat} {f:Nat→Nat} (hi:i<N) (hb:b<w.heap.size) (hr:w.rangeAt b o (aB (aR (el f) 0 N))) (hx:oldOf w bx 0 [.c (aZ b o N m)]):Good prog 78 (.one (.fl [.q (f i)])) [iI i,bZ bx 0] w :=
 bQ aG (fun _ _=>bG.w _ _) (cW w _ _ _) func78 (VS w b o N m i (f i) bx) ⟨hx,rfl,hi,dU hb hr hi,rfl,trivial⟩ (args:=[iI i,bZ bx 0]) ⟨rfl,rfl,trivial⟩
def xB (w:World) (gen:Nat→Option Value) (T2:Tab2):Ext:={ Ext.none with gen:=gen,old:=oldOf w,T2:=T2,T3:=KG,T4:=KB,T5:=KE,T6:=KF }
theorem GT {w:World} {gen:Nat→Option Value} {T2:Tab2} (h:∀w',Below w.heap.size w w'→FrAt prog T2 w'):bH prog { qG prog with x:=xB w gen T2 } w.heap.size w :=
 ⟨(aY _).1,fL (fun b o l h=>h) h (fun w' _=>FsAt.none _ _)⟩
theorem Nw (w:World) (v:Value) (T N bx:Nat) (f:Nat→Nat):aH prog { qG prog with x:=xB w (aE [(3,v)]) (rG.add 67 (RR 78 [bZ bx 0] T f)) } f44.ntmps (fun _=>⟨fun _=>dW.add 33 (RQ v T),fun _=>true,fun _=>none⟩) 40 (cB oX) (oD [(1,.im (bZ bx 0))]) [.slot 2 (.sl 6 0 T T),.row 6 true (aR (el f) 0 T)]=some ([oldOf w bx 0 [.c v],v=v,iI T=iI T,qK 78 [bZ bx 0]=qK 78 [bZ bx 0]],.rt,[.slot 2 (.sl 6 0 T T),.row 6 true (aR (el f) 0 T)]):=by kernel_rfl
theorem cH {P:Program} {fn:Func} {R R':Ending→World→Prop} {a:Act} {w:World} (h:bodyPost P fn R .ret a w) (hR:∀e w,R e w→R' e w):bodyPost P fn R' .ret a w:=by
 obtain⟨h1,v,h2,h3⟩:=h;exact⟨h1,v,h2,hR _ _ h3⟩
theorem sC {w0:World} {v:Value} {N:Nat} {f:Nat→Nat} (hv:LV w0 v N f) (hN:N≤131072):Calls prog 44 #[v] w0 (fun e w'=>FR.ok ⟨aR (el f) 0 (aF f N),aF f N,aF f N,[]⟩ w0 e w'):=by
 obtain⟨p,m,rfl,hm,h256,hmem⟩:=id hv;have hG:bH prog (qG prog) w0.heap.size w0:=(aY _).w _ _;have hT:∀n d:Nat,TabOkW prog dW w0.heap.size w0:=fun _ _=>bG.w _ _
 refine bJ func44 (cs:=[.v (.im (.slice p N m))]) (args:=[.slice p N m]) (c:=oX) rfl ⟨rfl,trivial⟩ (Nat.le_of_ble_eq_true (by kernel_rfl)) fun a w1 hA => ?_
 rw[UQ];refine wp_seq (aA aG hT hG (Nx _ p N m rfl) trivial hA fun a w1 hA => ?_);obtain⟨bx,hB⟩:=hA.at (k:=1) (l:=[.c (.slice p N m)]) (by simp);have hold:oldOf w1 bx 0 [.c (.slice p N m)]:=hB.old (k:=1) (by simp) (by simp);have hF:=hB.fresh [(1,.im (bZ bx 0))] (fun x hx=>by
  cases List.mem_singleton.1 hx;exact hB.ptr (s:=1) (k:=1) (by simp) (by simp))
 have hlv:=hv.on hA.below;have hle:=cC f N;refine aA aG (fun _ _ w' hw => ?_) (GT fun w' hw => ?_) (Nw w1 (.slice p N m) (aF f N) N bx f) ⟨hold,rfl,rfl,rfl,trivial⟩ hF fun a w2 hA2 => ?_
 ·exact TabOkW.add (base:=w1.heap.size) (w0:=w1) (bG.w _ _) func33 (by kernel_rfl) (by kernel_rfl) (fun w hw=>JD (hlv.on hw) (by omega)) w' hw
 ·refine (FrAt.none _ _).add func67 (by kernel_rfl) (by kernel_rfl) (yJ (by omega) (fun args w=>bK func78 (by kernel_rfl) (by kernel_rfl) args w) fun i hi w3 hw3 => ?_);obtain⟨b,o,rfl,hb,hr⟩:=hmem (by omega);have hb3:=(hA.below.trans ((hw.trans (hw3.mono hw.size)).mono hA.below.size));have ho:=hold.1;exact KJ (by omega) (Nat.lt_of_lt_of_le hb hb3.size) (cI hb3 hb hr) (oldOf.go (hw.trans (hw3.mono hw.size)) (Nat.le_refl _) hold)
 ·exact cH (fA (r:=⟨aR (el f) 0 (aF f N),aF f N,aF f N,[]⟩) (by kernel_rfl) hA2) fun e w h=>h.older hA.below
def hd (vs:Nat→Value) (j:Nat):List At:=[.c (vs j)]
def HV (w:World) (v:Value) (K:Nat) (vs:Nat→Value):Prop:=∃b o m,v=.slice (some ⟨b,o,none⟩) K m∧b<w.heap.size∧w.rangeAt b o (aB (aR (hd vs) 0 K))
theorem kI {w:World} {b o N i:Nat} {f:Nat→Value} (hb:b<w.heap.size) (hr:w.rangeAt b o (aB (aR (hd f) 0 N))) (hi:i<N):oldOf w b (o+i*1) [.c (f i)] :=
 ⟨hb,vP (f:=hd f) (c:=1) (fun _=>rfl) hi hr⟩
def RS (v:Value) (N:Nat) (f:Nat→Nat):iR
 | [.v (.im u)]=>some ([u=v],.one (.im (.bool (decide (bT N f)))))
 | _=>none
theorem Af {w:World} {v:Value} {N:Nat} {f:Nat→Nat} (hv:LV w v N f) (hN:N≤4611686018427387904):∀cs pre r,RS v N f cs=some (pre,r)→aQ pre→∀(args:List Value),cF w cs args→Good prog 81 r args w:=by
 intro cs pre r hg hp args ha;unfold RS at hg;split at hg
 ·cases hg
  match args,ha with
  | [u],ha =>
   have h1:u=_:=ha.1;have h2:=hp.1;subst h1;subst h2;exact TN hv hN
  | [],ha=>exact ha.elim
  | _::_::_,ha=>exact ha.2.elim
 ·cases hg
def GI (v:Value) (K i:Nat):List Fact:=[.slot 0 (.im v),.slot 7 (.im v),.slot 8 (.im (iI K)),.slot 9 (.im (iI i))]
def GH (v:Value) (K i:Nat):List Fact:=[.slot 17 (.im v),.slot 18 (.im (iI K)),.slot 19 (.im (iI i))]
def gG:Code:=(f51.body).getD .skip
def oR:Code:=gH (gH (cB (cA (cB gG))))
def oQ:Code:=gH (gH (cB (cA (cB (cB gG)))))
theorem Bh:gG=.seq (cA gG) (.seq (.seq (cA (cA (cB gG))) (.block 0 (.loop oR))) (.seq (.seq (cA (cA (cB (cB gG)))) (.block 2 (.loop oQ))) (cB (cB (cB gG))))):=by kernel_rfl
theorem Vb (v:Value):aH prog (qG prog) f51.ntmps (cG fun _=>none) 40 (cA gG) (eF 0 [.v (.im v)]) [.slot 0 (.im v)]=some ([],.nrm,[.slot 0 (.im v)]):=by kernel_rfl
theorem Va (p:Option Addr) (N m:Nat):aH prog (qG prog) f51.ntmps (cG fun _=>none) 40 (cA (cA (cB gG))) [.slot 0 (.im (.slice p N m))] (GI (.slice p N m) N 0)=some ([],.nrm,GI (.slice p N m) N 0):=by kernel_rfl
theorem Vc (w:World) (b o K m i:Nat) (p:Option Addr) (n' m':Nat):aH prog { qG prog with x:=xO w (aE [(11,i)]) (fun _=>none) (aE [(12,.slice p n' m')]) } f51.ntmps (cG (aE [(10,.bool true),(15,.bool false),(16,iI (i+1))])) 40 oR (GI (aZ b o K m) K i) (GI (aZ b o K m) K (i+1))=some ([aD .lss .i64 (Int.ofNat i) (Int.ofNat K)=some (.bool true),Int.ofNat i=Int.ofNat i,i<K,oldOf w b (o+i*1) [.c (.slice p n' m')],aD .gtr .i64 (Int.ofNat n') 65536=some (.bool false),aD .add .i64 (Int.ofNat i) 1=some (iI (i+1))],.nrm,GI (aZ b o K m) K (i+1)):=by kernel_rfl
theorem Vd (w:World) (b o K m i:Nat) (p:Option Addr) (n' m':Nat):aH prog { qG prog with x:=xO w (aE [(11,i)]) (fun _=>none) (aE [(12,.slice p n' m')]) } f51.ntmps (cG (aE [(10,.bool true),(15,.bool true)])) 40 oR (GI (aZ b o K m) K i) [.slot 2 (.im (.int .i64 72))]=some ([aD .lss .i64 (Int.ofNat i) (Int.ofNat K)=some (.bool true),Int.ofNat i=Int.ofNat i,i<K,oldOf w b (o+i*1) [.c (.slice p n' m')],aD .gtr .i64 (Int.ofNat n') 65536=some (.bool true)],.rt,[.slot 2 (.im (.int .i64 72))]):=by kernel_rfl
theorem Lj (v:Value) (K i:Nat):aH prog (qG prog) f51.ntmps (cG (aE [(10,.bool false)])) 40 oR (GI v K i) (GI v K i)=some ([aD .lss .i64 (Int.ofNat i) (Int.ofNat K)=some (.bool false)],.ex 0,GI v K i):=by kernel_rfl
theorem Uz (p:Option Addr) (N m i:Nat):aH prog (qG prog) f51.ntmps (cG fun _=>none) 40 (cA (cA (cB (cB gG)))) (GI (.slice p N m) N i) (GH (.slice p N m) N 0)=some ([],.nrm,GH (.slice p N m) N 0):=by kernel_rfl
theorem Lh (w:World) (b o K m i:Nat) (u:Value) (N:Nat) (f:Nat→Nat):aH prog { qG prog with x:=xO w (aE [(21,i)]) (fun _=>none) (aE [(22,u)]) } f51.ntmps (fun _=>⟨fun _=>dW.add 81 (RS u N f),fun _=>true,aE [(20,.bool true),(25,.bool false),(26,iI (i+1))]⟩) 40 oQ (GH (aZ b o K m) K i) (GH (aZ b o K m) K (i+1))=some ([aD .lss .i64 (Int.ofNat i) (Int.ofNat K)=some (.bool true),Int.ofNat i=Int.ofNat i,i<K,oldOf w b (o+i*1) [.c u],u=u,Value.bool (!decide (bT N f))=.bool false,aD .add .i64 (Int.ofNat i) 1=some (iI (i+1))],.nrm,GH (aZ b o K m) K (i+1)):=by kernel_rfl
theorem Lk (w:World) (b o K m i:Nat) (u:Value) (N:Nat) (f:Nat→Nat):aH prog { qG prog with x:=xO w (aE [(21,i)]) (fun _=>none) (aE [(22,u)]) } f51.ntmps (fun _=>⟨fun _=>dW.add 81 (RS u N f),fun _=>true,aE [(20,.bool true),(25,.bool true)]⟩) 40 oQ (GH (aZ b o K m) K i) [.slot 2 (.im (.int .i64 21))]=some ([aD .lss .i64 (Int.ofNat i) (Int.ofNat K)=some (.bool true),Int.ofNat i=Int.ofNat i,i<K,oldOf w b (o+i*1) [.c u],u=u,Value.bool (!decide (bT N f))=.bool true],.rt,[.slot 2 (.im (.int .i64 21))]):=by kernel_rfl
theorem Bg (v:Value) (K i:Nat):aH prog (qG prog) f51.ntmps (cG (aE [(20,.bool false)])) 40 oQ (GH v K i) (GH v K i)=some ([aD .lss .i64 (Int.ofNat i) (Int.ofNat K)=some (.bool false)],.ex 2,GH v K i):=by kernel_rfl
theorem Bf (v:Value) (K i:Nat):aH prog (qG prog) f51.ntmps (cG fun _=>none) 40 (cB (cB (cB gG))) (GH v K i) [.slot 2 (.im (.int .i64 0))]=some ([],.rt,[.slot 2 (.im (.int .i64 0))]):=by kernel_rfl
def kD (K:Nat) (Ns:Nat→Nat):Prop:=∀j,j<K→Ns j≤65536
def kO (K:Nat) (Ns:Nat→Nat) (fs:Nat→Nat→Nat):Prop:=∀j,j<K→bT (Ns j) (fs j)
instance (K:Nat) (Ns:Nat→Nat):Decidable (kD K Ns):=Nat.decidableBallLT K fun j _=>Ns j≤65536
instance (K:Nat) (Ns:Nat→Nat) (fs:Nat→Nat→Nat):Decidable (kO K Ns fs):=Nat.decidableBallLT K fun j _=>bT (Ns j) (fs j)
def Eh (K:Nat) (Ns:Nat→Nat) (fs:Nat→Nat→Nat):Int:=if kD K Ns then (if kO K Ns fs then 0 else 21)else 72
theorem Dw {n:Nat} (h:n≤65536):aD .gtr .i64 (Int.ofNat n) 65536=some (.bool false):=by
 have:=@oJ n 65536;rw[decide_eq_false (by omega)]at this;exact this
theorem Dv {n:Nat} (h:¬n≤65536):aD .gtr .i64 (Int.ofNat n) 65536=some (.bool true):=by
 have:=@oJ n 65536;rw[decide_eq_true (by omega)]at this;exact this
theorem uG {w0:World} {v:Value} {K:Nat} {vs:Nat→Value} {Ns:Nat→Nat} {fs:Nat→Nat→Nat} (hh:HV w0 v K vs) (hl:∀j,j<K→LV w0 (vs j) (Ns j) (fs j)) (hK:K≤64) (hB:∀j,j<K→Ns j≤4611686018427387904):Good prog 51 (.one (.im (.int .i64 (Eh K Ns fs)))) [v] w0:=by
 obtain⟨b,o,m,rfl,hb,hr⟩:=hh;have hG:bH prog (qG prog) w0.heap.size w0:=(aY _).w _ _;have hT:∀n d:Nat,TabOkW prog dW w0.heap.size w0:=fun _ _=>bG.w _ _
 have hT2:∀i,i<K→∀n d:Nat,TabOkW prog (dW.add 81 (RS (vs i) (Ns i) (fs i))) w0.heap.size w0:=fun i hi _ _=>TabOkW.add (bG.w _ _) func81 (by kernel_rfl) (by kernel_rfl) (fun w hw=>Af ((hl i hi).on hw) (hB i hi))
 refine bJ func51 (cs:=[.v (.im (aZ b o K m))]) (args:=[aZ b o K m]) (c:=gG) rfl ⟨rfl,trivial⟩ (Nat.le_of_ble_eq_true (by kernel_rfl)) fun a w' hA => ?_
 rw[Bh];refine wp_seq (aA aG hT hG (Vb _) trivial hA fun a w' hA => ?_);refine wp_seq (wp_seq (aA aG hT hG (Va _ K m) trivial hA fun a w' hA => ?_));refine wp_block ?_;have step:∀i,i<K→Ns i≤65536→Ok prog w0.heap.size w0 f51.ntmps oR (GI (aZ b o K m) K i) .nrm (GI (aZ b o K m) K (i+1)):=fun i hi hs=>by
  obtain⟨p,m',e,_⟩:=hl i hi;have ho:=kI hb hr hi;rw[e]at ho;exact⟨_,_,_,_,cW w0 _ _ _,hT,Vc w0 b o K m i p (Ns i) m',bV hi,rfl,hi,ho,Dw hs,eT (k:=1) (by omega),trivial⟩
 unfold Eh
 by_cases hs:kD K Ns
 ·rw[if_pos hs];refine cE aG (fun i=>GI (aZ b o K m) K i) K (fun i hi=>step i hi (hs i hi)) (.ex 0) (by simp) (GI (aZ b o K m) K K) ⟨_,_,_,_,hG,hT,Lj _ K K,dI (Nat.le_refl _),trivial⟩ hA fun a w hA => ?_
  refine wp_seq (wp_seq (aA aG hT hG (Uz _ K m K) trivial hA fun a w' hA => ?_));refine wp_block ?_;have step2:∀i,i<K→bT (Ns i) (fs i)→Ok prog w0.heap.size w0 f51.ntmps oQ (GH (aZ b o K m) K i) .nrm (GH (aZ b o K m) K (i+1)):=fun i hi hs =>
   ⟨_,_,_,_,cW w0 _ _ _,hT2 i hi,Lh w0 b o K m i (vs i) (Ns i) (fs i),bV hi,rfl,hi,kI hb hr hi,rfl,by rw[decide_eq_true hs]; rfl,eT (k:=1) (by omega),trivial⟩
  by_cases hl2:kO K Ns fs
  ·rw[if_pos hl2];refine cE aG (fun i=>GH (aZ b o K m) K i) K (fun i hi=>step2 i hi (hl2 i hi)) (.ex 2) (by simp) (GH (aZ b o K m) K K) ⟨_,_,_,_,hG,hT,Bg _ K K,dI (Nat.le_refl _),trivial⟩ hA fun a w hA => ?_
   show (cB (cB (cB gG))).wp _ _ _ _;exact aA aG hT hG (Bf _ K K) trivial hA fun a w' hA=>aW (l:=[.im (.int .i64 0)]) (r:=.one (.im (.int .i64 0))) (by kernel_rfl) (by kernel_rfl) hA
  ·rw[if_neg hl2];obtain⟨j,hj,h1,h2⟩:=eH (p:=fun j=>bT (Ns j) (fs j)) hl2;refine cE aG (fun i=>GH (aZ b o K m) K i) j (fun i hi=>step2 i (by omega) (h1 i hi)) .rt (by simp) [.slot 2 (.im (.int .i64 21))] ⟨_,_,_,_,cW w0 _ _ _,hT2 j hj,Lk w0 b o K m j (vs j) (Ns j) (fs j),bV hj,rfl,hj,kI hb hr hj,rfl,by rw[decide_eq_false h2]; rfl,trivial⟩ hA fun a w hA => ?_
   exact aW (l:=[.im (.int .i64 21)]) (r:=.one (.im (.int .i64 21))) (by kernel_rfl) (by kernel_rfl) hA
 ·rw[if_neg hs];obtain⟨j,hj,h1,h2⟩:=eH (p:=fun j=>Ns j≤65536) hs;obtain⟨p,m',e,_⟩:=hl j hj;have ho:=kI hb hr hj;rw[e]at ho;refine cE aG (fun i=>GI (aZ b o K m) K i) j (fun i hi=>step i (by omega) (h1 i hi)) .rt (by simp) [.slot 2 (.im (.int .i64 72))] ⟨_,_,_,_,cW w0 _ _ _,hT,Vd w0 b o K m j p (Ns j) m',bV hj,rfl,hj,ho,Dv h2,trivial⟩ hA fun a w hA => ?_
  exact aW (l:=[.im (.int .i64 72)]) (r:=.one (.im (.int .i64 72))) (by kernel_rfl) (by kernel_rfl) hA
def cN (f:Nat→Nat) (i x:Nat) (j:Nat):Nat:=if j=i then x else f j
theorem GG {f g:Nat→List At}:∀(n s:Nat),(∀j,s≤j→j<s+n→f j=g j)→aR f s n=aR g s n
 | 0,s,h=>rfl
 | n+1,s,h=>by
  show f s++aR f (s+1) n=g s++aR g (s+1) n;rw[h s (Nat.le_refl _) (by omega),GG n (s+1) fun j h1 h2=>h j (by omega) (by omega)]
theorem Up {f g:Nat→Nat} {n:Nat} (h:∀j,j<n→f j=g j):aR (el f) 0 n=aR (el g) 0 n:=GG n 0 fun j _ hj=>by unfold el; rw[h j (by omega)]
theorem PH {f:Nat→Nat} {N i x:Nat} (hi:i<N):put (aR (el f) 0 N) (0+i*4) [.q x]=some (aR (el (cN f i x)) 0 N):=by
 rw[mR (el f) i N 0 hi,mR (el (cN f i x)) i N 0 hi,IG (aR (el f) 0 i) (el f (0+i)) (aR (el f) (0+i+1) (N-i-1)) [.q x] (by rw[gA (c:=4) fun _=>rfl,Nat.zero_add]) rfl];congr 1;have h1:aR (el f) 0 i=aR (el (cN f i x)) 0 i:=Up fun j hj=>by unfold cN; rw[if_neg (by omega)]
 have h2:aR (el f) (0+i+1) (N-i-1)=aR (el (cN f i x)) (0+i+1) (N-i-1):=GG _ _ fun j hj _=>by unfold el cN; rw[if_neg (by omega)]
 rw[h1,h2];unfold el cN;rw[if_pos (Nat.zero_add i)]
theorem OF {f:Nat→Nat} {N i:Nat} (hi:i<N):sL (aR (el f) 0 N) (0+i*4) 4=some [.q (f i)]:=wY (f:=el f) (c:=4) (fun _=>rfl) hi (Nat.zero_add _)
def xA (idx:Nat→Option Nat) (ld st:Nat→Option (List At)) (gen:Nat→Option Value):Ext:={ Ext.none with idx:=idx,ld:=ld,st:=st,gen:=gen,T2:=rG,T3:=KG,T4:=KB,T5:=KE,T6:=KF }
theorem GU (idx:Nat→Option Nat) (ld st:Nat→Option (List At)) (gen:Nat→Option Value) (base:Nat) (w:World):bH prog { qG prog with x:=xA idx ld st gen } base w :=
 ⟨(aY _).1,fL (fun b o l h=>h.elim) (fun w' _=>FrAt.none _ _) (fun w' _=>FsAt.none _ _)⟩
theorem BR {a b:Int} (h1 : -9223372036854775808≤a-b) (h2:a-b<9223372036854775808):aD .sub .i64 a b=some (.int .i64 (a-b)):=by
 show some (Value.int .i64 (IntKind.i64.wrap (a-b)))=_;rw[IntKind.wrap_i64,Int.emod_eq_of_lt (by omega) (by omega)];congr 2;omega
def iM:Code:=(f52.body).getD .skip
def GA:Code:=gH (gH (cB (cA (cB (cB iM)))))
theorem Az:iM=.seq (cA iM) (.seq (cA (cB iM)) (.seq (.seq (cA (cA (cB (cB iM)))) (.block 0 (.loop GA))) (cB (cB (cB iM))))):=by kernel_rfl
def dvA (v:Value) (n c:Nat):List Fact:=[.slot 0 (.im v),.slot 1 (.im (iI n)),.slot 5 (.pt 5 0),.row 5 true [.q c]]
def Xv (n c:Nat) (Z:List At) (L:Nat):List Fact:=[.slot 1 (.im (iI n)),.slot 5 (.pt 5 0),.row 5 true [.q c],.slot 8 (.sl 12 0 L L),.row 12 true Z]
def CJ (n c:Nat) (Z:List At) (L:Nat) (z:Int):List Fact:=[.slot 1 (.im (iI n)),.slot 5 (.pt 5 0),.row 5 true [.q c],.slot 8 (.sl 12 0 L L),.row 12 true Z,.slot 9 (.im (.int .i64 z))]
theorem Us (v:Value) (n c:Nat):aH prog (qG prog) f52.ntmps (cG fun _=>none) 40 (cA iM) (eF 0 [.v (.im v),.v (.im (iI n)),.v (.fl [.q c])]) (dvA v n c)=some ([],.nrm,dvA v n c):=by kernel_rfl
def xZ:Value→Nat
 | .slice _ n _=>n
 | _=>0
def Jg (w:World) (F:Value→Nat→Nat):List CA→Option (List Prop×FR)
 | [.v (.im u)]=>some ([LV w u (xZ u) (F u),xZ u≤131072],⟨aR (el (F u)) 0 (aF (F u) (xZ u)),aF (F u) (xZ u),aF (F u) (xZ u),[]⟩)
 | _=>none
theorem ZE {w w':World} {F:Value→Nat→Nat} (hb:Below w.heap.size w w'):∀cs pre r,Jg w F cs=some (pre,r)→aQ pre→∀(args:List Value),cF w' cs args→Calls prog 44 args.toArray w' (fun e w2=>r.ok w' e w2):=by
 intro cs pre r hg hp args ha;unfold Jg at hg;split at hg
 ·cases hg
  match args,ha with
  | [u],ha =>
   have h1:u=_:=ha.1;subst h1;exact sC (hp.1.on hb) hp.2.1
  | [],ha=>exact ha.elim
  | _::_::_,ha=>exact ha.2.elim
 ·cases hg
def Cl (w:World) (F:Value→Nat→Nat):Tab2:=rG.add 44 (Jg w F)
theorem KC {w w':World} {F:Value→Nat→Nat} (hb:Below w.heap.size w w'):FrAt prog (Cl w F) w':=(FrAt.none _ _).add func44 (by kernel_rfl) (by kernel_rfl) (ZE hb)
theorem Ur (w:World) (F:Value→Nat→Nat) (v:Value) (n c:Nat):aH prog { qG prog with x:=xB w (fun _=>none) (Cl w F) } f52.ntmps (cG fun _=>none) 40 (cA (cB iM)) (dvA v n c) (Xv n c (aR (el (F v)) 0 (aF (F v) (xZ v))) (aF (F v) (xZ v)))=some ([LV w v (xZ v) (F v),xZ v≤131072],.nrm,Xv n c (aR (el (F v)) 0 (aF (F v) (xZ v))) (aF (F v) (xZ v))):=by kernel_rfl
theorem Uq (n c L:Nat) (Z:List At) (y z:Int):aH prog (qG prog) f52.ntmps (cG (aE [(16,.int .i64 y),(17,.int .i64 z)])) 40 (cA (cA (cB (cB iM)))) (Xv n c Z L) (CJ n c Z L z)=some ([aD .sub .i64 (Int.ofNat L) (Int.ofNat n)=some (.int .i64 y),aD .sub .i64 y 1=some (.int .i64 z)],.nrm,CJ n c Z L z):=by kernel_rfl
theorem Ut (n c L:Nat) (Z Z':List At) (i x y:Nat) (z:Int):aH prog { qG prog with x:=xA (aE [(26,i),(33,i+n),(37,i)]) (aE [(27,[.q x]),(34,[.q y])]) (aE [(37,Z')]) (fun _=>none) } f52.ntmps (cG (aE [(19,.bool true),(32,iI (i+n)),(21,.int .i64 z)])) 60 GA (CJ n c Z L (Int.ofNat i)) (CJ n c Z' L z)=some ([aD .geq .i64 (Int.ofNat i) 0=some (.bool true),Int.ofNat i=Int.ofNat i,i<L,sL Z (0+i*4) 4=some [.q x],aD .add .i64 (Int.ofNat i) (Int.ofNat n)=some (iI (i+n)),Int.ofNat (i+n)=Int.ofNat (i+n),i+n<L,sL Z (0+(i+n)*4) 4=some [.q y],c<RM,y<RM,x<RM,cS c y<RM,Int.ofNat i=Int.ofNat i,i<L,put Z (0+i*4) [.q (jB x (cS c y))]=some Z',aD .sub .i64 (Int.ofNat i) 1=some (.int .i64 z)],.nrm,CJ n c Z' L z):=by kernel_rfl
theorem Kx (n c L:Nat) (Z:List At) (z:Int):aH prog (qG prog) f52.ntmps (cG (aE [(19,.bool false)])) 60 GA (CJ n c Z L z) (CJ n c Z L z)=some ([aD .geq .i64 z 0=some (.bool false)],.ex 0,CJ n c Z L z):=by kernel_rfl
theorem Ax (w:World) (F:Value→Nat→Nat) (b n L dN:Nat) (u:Value):aH prog { qG prog with x:=xB w (aE [(44,u)]) (Cl w F) } f52.ntmps (cG (aE [(41,iI dN)])) 60 (cB (cB (cB iM))) (oD [(1,.im (iI n)),(8,.im (aZ b 0 L L))]) [.slot 6 (.sl 45 0 (aF (F u) (xZ u)) (aF (F u) (xZ u))),.row 45 true (aR (el (F u)) 0 (aF (F u) (xZ u))),.slot 7 (.sl 49 0 (aF (F (aZ b 0 dN L)) dN) (aF (F (aZ b 0 dN L)) dN)),.row 49 true (aR (el (F (aZ b 0 dN L))) 0 (aF (F (aZ b 0 dN L)) dN))] =
  some ([Value.int .i64 (if Int.ofNat L<Int.ofNat n then Int.ofNat L else Int.ofNat n)=iI dN,∀w:World,(Instr.sliceAt 22 (aZ b 0 L L) (some (iI dN)) none none).run prog w=.ok u w,LV w u (xZ u) (F u),xZ u≤131072,dN≤L,LV w (aZ b 0 dN L) dN (F (aZ b 0 dN L)),dN≤131072],.rt,[.slot 6 (.sl 45 0 (aF (F u) (xZ u)) (aF (F u) (xZ u))),.row 45 true (aR (el (F u)) 0 (aF (F u) (xZ u))),.slot 7 (.sl 49 0 (aF (F (aZ b 0 dN L)) dN) (aF (F (aZ b 0 dN L)) dN)),.row 49 true (aR (el (F (aZ b 0 dN L))) 0 (aF (F (aZ b 0 dN L)) dN))]):=by kernel_rfl
structure FQ where
 l:List At
 n:Nat
 l':List At
 n':Nat
def FQ.ok (r:FQ) (w:World) (e:Ending) (w':World):Prop:=∃b b',e=.returned (.tuple #[aZ b 0 r.n r.n,aZ b' 0 r.n' r.n'])∧Below w.heap.size w w'∧(w.heap.size≤b∧b<w'.heap.size∧w'.rangeAt b 0 (aB r.l)∧∀j,w'.frozen? ⟨b,j,none⟩=false)∧(w.heap.size≤b'∧b'<w'.heap.size∧w'.rangeAt b' 0 (aB r.l')∧∀j,w'.frozen? ⟨b',j,none⟩=false)∧b≠b'
theorem FQ.ok.older {r:FQ} {w w1 w2:World} {e:Ending} (h:r.ok w1 e w2) (hb:Below w.heap.size w w1):r.ok w e w2:=by
 obtain⟨b,b',h1,h2,h3,h4,h5⟩:=h;exact⟨b,b',h1,hb.trans (h2.mono hb.size),⟨Nat.le_trans hb.size h3.1,h3.2⟩,⟨Nat.le_trans hb.size h4.1,h4.2⟩,h5⟩
theorem MC {P:Program} {fn:Func} {A:List Fact} {w:World} {s s' k k' n n':Nat} {l l':List At} (hr:fn.results = #[.tmp s,.tmp s']) {a:Act} {w':World} (hA:Holds fn.ntmps w.heap.size w A a w')
  (h1:Fact.slot s (.sl k 0 n n)∈A) (h2:Fact.row k true l∈A) (h3:Fact.slot s' (.sl k' 0 n' n')∈A) (h4:Fact.row k' true l'∈A) (hk:k≠k'):bodyPost P fn (fun e w'=>FQ.ok ⟨l,n,l',n'⟩ w e w') .ret a w':=by
 obtain⟨β,hok,hinj,_⟩:=hA.facts;obtain⟨g1,g2,g3,_⟩:=hok _ h2;obtain⟨g4,g5,g6⟩:=g3 rfl;obtain⟨j1,j2,j3,_⟩:=hok _ h4;obtain⟨j4,j5,j6⟩:=j3 rfl;have e1:=hok _ h1;have e2:=hok _ h3;simp only[Fact.ok,AV.den]at e1 e2;rw[g5]at e1 g2;rw[j5]at e2 j2;have hres:(results fn a.tmps).run P w'=.ok (.tuple #[aZ (β k).1 0 n n,aZ (β k').1 0 n' n']) w':=by
  show ((fn.results.mapM (hZ a.tmps)) >>= fun vs=>pure (if h:vs.size=1 then vs[0]else .tuple vs):Sem Value).run P w'=_;have q1:(hZ a.tmps (.tmp s)).run P w'=.ok (aZ (β k).1 0 n n) w':=by
   show (pure (a.tmps.getD s undef):Sem Value).run P w'=_;rw[show a.tmps.getD s undef=aZ (β k).1 0 n n by simp[e1,aZ]]; rfl
  have q2:(hZ a.tmps (.tmp s')).run P w'=.ok (aZ (β k').1 0 n' n') w':=by
   show (pure (a.tmps.getD s' undef):Sem Value).run P w'=_;rw[show a.tmps.getD s' undef=aZ (β k').1 0 n' n' by simp[e2,aZ]]; rfl
  have hm:(List.toArray <$> fn.results.toList.mapM (hZ a.tmps)).run P w'=.ok [aZ (β k).1 0 n n,aZ (β k').1 0 n' n'].toArray w':=by
   rw[hr];simp[List.mapM_cons,q1,q2]
  rw[Array.mapM_eq_mapM_toList,Sem.run_bind,hm,Result.andThen_ok,Sem.run_pure];rw[dif_neg (by simp)]
 exact⟨hA.defers,_,hres,(β k).1,(β k').1,rfl,hA.below,⟨g4,g1,g2,g6⟩,⟨j4,j1,j2,j6⟩,hinj k k' true l l' h2 h4 hk⟩
def rP (n c L:Nat) (f:Nat→Nat):Nat→Nat→Nat
 | 0=>f
 | p+1=>cN (rP n c L f p) (L-n-1-p) (jB (rP n c L f p (L-n-1-p)) (cS c (rP n c L f p (L-n-1-p+n))))
theorem yQ {n c L:Nat} {f:Nat→Nat} (h:bT L f):∀p,bT L (rP n c L f p)
 | 0=>h
 | p+1=>fun j hj=>by
  unfold rP cN;split
  ·exact nM _ _
  ·exact yQ h p j hj
theorem Ds {i:Nat}:aD .geq .i64 (Int.ofNat i) 0=some (.bool true):=by
 show some (Value.bool (decide (Int.ofNat i≥0)))=_;rw[decide_eq_true (show Int.ofNat i≥0 from Int.natCast_nonneg i)]
theorem RF {z:Int} (h:z<0):aD .geq .i64 z 0=some (.bool false):=by
 show some (Value.bool (decide (z≥0)))=_;rw[decide_eq_false (by omega)]
theorem GW:prog.underlying 22=some (.slice 25):=by kernel_rfl
theorem OD:dL prog 25=some 4:=by kernel_rfl
theorem VF {b o n m i:Nat} (h:i≤n) (hm:n≤m) (w:World):(Instr.sliceAt 22 (aZ b o n m) (some (iI i)) none none).run prog w=.ok (aZ b (if m=i then o else o+i*4) (n-i) (m-i)) w:=by
 by_cases e:m=i
 ·rw[if_pos e];simp[Instr.sliceAt,Instr.slice,aZ,iI,run_underlying GW,Instr.sliceBounds,Instr.sliceBound,asIntOf,bC OD,h,e]
 ·rw[if_neg e];simp[Instr.sliceAt,Instr.slice,aZ,iI,run_underlying GW,Instr.sliceBounds,Instr.sliceBound,asIntOf,bC OD,h,e,Addr.add_mid]
theorem LV.from {w:World} {b o N m i:Nat} {f:Nat→Nat} (hb:b<w.heap.size) (hr:w.rangeAt b o (aB (aR (el f) 0 N))) (hi:i≤N) (hm:N≤m) (h256:∀j,j<N→f j<aT):LV w (aZ b (if m=i then o else o+i*4) (N-i) (m-i)) (N-i) (fun j=>f (i+j)):=by
 refine⟨_,_,rfl,by omega,fun j hj=>h256 _ (by omega),fun h => ?_⟩;rw[if_neg (by omega)];refine⟨b,o+i*4,rfl,hb,?_⟩;have e:aR (el f) 0 N=aR (el f) 0 i++aR (el (fun j=>f (i+j))) 0 (N-i):=by
  have key:∀(n s:Nat),aR (el f) (i+s) n=aR (el (fun j=>f (i+j))) s n:=fun n=>by
   induction n with
   | zero=>intro s; rfl
   | succ n ih =>
    intro s;show el f (i+s)++aR (el f) (i+s+1) n=_;rw[Nat.add_assoc,ih (s+1)];rfl
  have sp:∀(i n s:Nat),i≤n→aR (el f) s n=aR (el f) s i++aR (el f) (s+i) (n-i):=fun i=>by
   induction i with
   | zero=>intro n s _; rfl
   | succ i ih =>
    intro n s h;obtain⟨n,rfl⟩:∃k,n=k+1:=⟨n-1,by omega⟩
    show el f s++aR (el f) (s+1) n=(el f s++aR (el f) (s+1) i)++_;rw[ih n (s+1) (by omega),List.append_assoc,show s+1+i=s+(i+1) by omega,show n+1-(i+1)=n-i by omega]
  rw[sp i N 0 hi,Nat.zero_add,←key (N-i) 0,Nat.add_zero]
 intro j u hj;have h2:=hr (i*4+j) u (by
  rw[e,aM,List.getElem?_append_right (by rw[aP,gA (c:=4) fun _=>rfl]; omega),aP,gA (c:=4) fun _=>rfl,Nat.add_sub_cancel_left];exact hj)
 rwa [←Nat.add_assoc]at h2
theorem SM {w0:World} {v:Value} {N n c:Nat} {f:Nat→Nat} (hv:LV w0 v N f) (hN:N≤131072) (hf:bT N f) (hn1:1≤n) (hn2:n≤1099511627776) (hc:c<RM) :
  Calls prog 52 #[v,iI n,.agg (aB [At.q c]).toArray] w0 (fun e w'=>FQ.ok ⟨aR (el fun j=>rP n c (aF f N) f (aF f N-n) (min n (aF f N)+j)) 0 (aF (fun j=>rP n c (aF f N) f (aF f N-n) (min n (aF f N)+j)) (aF f N-min n (aF f N))),aF (fun j=>rP n c (aF f N) f (aF f N-n) (min n (aF f N)+j)) (aF f N-min n (aF f N)),aR (el (rP n c (aF f N) f (aF f N-n))) 0 (aF (rP n c (aF f N) f (aF f N-n)) (min n (aF f N))),aF (rP n c (aF f N) f (aF f N-n)) (min n (aF f N))⟩ w0 e w'):=by
 have hG:bH prog (qG prog) w0.heap.size w0:=(aY _).w _ _;have hT:∀n d:Nat,TabOkW prog dW w0.heap.size w0:=fun _ _=>bG.w _ _
 obtain⟨p0,m0,rfl,hm0,h256,hmem⟩:=id hv;refine bJ func52 (cs:=[.v (.im (.slice p0 N m0)),.v (.im (iI n)),.v (.fl [.q c])]) (args:=[.slice p0 N m0,iI n,.agg (aB [At.q c]).toArray]) (c:=iM) rfl ⟨rfl,rfl,rfl,trivial⟩ (Nat.le_of_ble_eq_true (by kernel_rfl)) fun a w' hA => ?_
 rw[Az];refine wp_seq (aA aG hT hG (Us _ n c) trivial hA fun a w' hA => ?_);refine wp_seq (aA aG hT (GT (w:=w0) (T2:=Cl w0 fun _=>f) fun w' hw=>KC hw) (Ur w0 (fun _=>f) (.slice p0 N m0) n c) ⟨hv,hN,trivial⟩ hA fun a w' hA => ?_);change Holds _ _ _ (Xv n c (aR (el f) 0 (aF f N)) (aF f N)) a w' at hA;have hle:=cC f N;have hfL:bT (aF f N) f:=fun j hj=>hf j (by omega)
 generalize aF f N=L at hA hle hfL ⊢;refine wp_seq (wp_seq (aA aG hT hG (Uq n c L (aR (el f) 0 L) ((L:Int)-n) ((L:Int)-n-1)) ⟨BR (by show _≤(L:Int)-(n:Int); omega) (by show (L:Int)-(n:Int)<_; omega),BR (by omega) (by omega),trivial⟩ hA fun a w' hA => ?_));refine wp_block ?_;refine cE aG (fun p=>CJ n c (aR (el (rP n c L f p)) 0 L) L ((L:Int)-n-1-p)) (L-n) (fun p hp => ?_) (.ex 0) (by simp) (CJ n c (aR (el (rP n c L f (L-n))) 0 L) L ((L:Int)-n-1-(L-n:Nat))) ?_ (by
  have e:((L:Int)-n-1-(0:Nat))=(L:Int)-n-1:=by omega
  show Holds _ _ _ (CJ n c (aR (el f) 0 L) L ((L:Int)-n-1-(0:Nat))) _ _;rw[e];exact hA) fun a w1 hA => ?_
 ·have hz:((L:Int)-n-1-p)=Int.ofNat (L-n-1-p):=by show _=((L-n-1-p:Nat):Int); omega
  have hz2:((L:Int)-n-1-(p+1:Nat))=Int.ofNat (L-n-1-p)-1:=by show _=((L-n-1-p:Nat):Int)-1; omega
  have hi1:L-n-1-p<L:=by omega
  have hi2:L-n-1-p+n<L:=by omega
  have hi3:L-n-1-p+n<9223372036854775808:=by omega
  show Ok _ _ _ _ _ (CJ n c _ L ((L:Int)-n-1-p)) _ (CJ n c (aR (el (cN (rP n c L f p) (L-n-1-p) (jB (rP n c L f p (L-n-1-p)) (cS c (rP n c L f p (L-n-1-p+n)))))) 0 L) L ((L:Int)-n-1-(p+1:Nat)));rw[hz,hz2];have hlt:=yQ (n:=n) (c:=c) hfL p;have hs1 : -9223372036854775808≤Int.ofNat (L-n-1-p)-1:=by show _≤((L-n-1-p:Nat):Int)-1; omega
  have hs2:Int.ofNat (L-n-1-p)-1<9223372036854775808:=by show ((L-n-1-p:Nat):Int)-1<_; omega
  exact⟨_,_,_,_,GU _ _ _ _ _ _,hT,Ut n c L _ _ (L-n-1-p) (rP n c L f p (L-n-1-p)) (rP n c L f p (L-n-1-p+n)) _,Ds,rfl,hi1,OF hi1,eT hi3,rfl,hi2,OF hi2,hc,hlt _ hi2,hlt _ hi1,cL _ _,rfl,hi1,PH hi1,BR hs1 hs2,trivial⟩
 ·exact⟨_,_,_,_,hG,hT,Kx n c L _ _,RF (by omega),trivial⟩
 have hlt:=yQ (n:=n) (c:=c) hfL (L-n);generalize rP n c L f (L-n)=G at hA hlt ⊢;obtain⟨b,hB⟩:=hA.at (k:=12) (l:=aR (el G) 0 L) (by simp[CJ]);have hold:oldOf w1 b 0 (aR (el G) 0 L):=hB.old (k:=12) (by simp[CJ]) (by simp);have h8:=(hB.im (s:=8) (k:=12) (o:=0) (n:=L) (m:=L) (b:=b) (by simp[CJ]) (by simp)).slot (s:=8) (v:=aZ b 0 L L) (by simp);have h1:=hB.slot (s:=1) (v:=iI n) (by simp[CJ]);have hF:=hB.fresh [(1,.im (iI n)),(8,.im (aZ b 0 L L))] (fun x hx=>by
  simp only[List.mem_cons,List.not_mem_nil,or_false]at hx
  rcases hx with rfl|rfl
  ·exact h1
  ·exact h8)
 have hmin:(if (Int.ofNat L)<(Int.ofNat n)then (Int.ofNat L)else (Int.ofNat n))=Int.ofNat (min n L):=by
  by_cases h:L<n
  ·rw[if_pos (by show (L:Int)<(n:Int); omega),Nat.min_eq_right (by omega)]
  ·rw[if_neg (by show ¬(L:Int)<(n:Int); omega),Nat.min_eq_left (by omega)]
 have hlow:min n L≤L:=Nat.min_le_right _ _;generalize min n L=dN at hmin hlow ⊢;have h256G:∀j,j<L→G j<aT:=fun j hj=>eQ (hlt j hj)
 have hu:LV w1 (aZ b (if L=dN then 0 else 0+dN*4) (L-dN) (L-dN)) (L-dN) (fun j=>G (dN+j)):=LV.from hold.1 hold.2 hlow (Nat.le_refl _) h256G
 have hv2:LV w1 (aZ b 0 dN L) dN G:=⟨_,_,rfl,hlow,fun j hj=>h256G j (by omega),fun h=>⟨b,0,rfl,hold.1,fun j x hj=>hold.2 j x (by
  have sp:aR (el G) 0 L=aR (el G) 0 dN++aR (el G) (0+dN) (L-dN):=by
   have key:∀(i n s:Nat),i≤n→aR (el G) s n=aR (el G) s i++aR (el G) (s+i) (n-i):=fun i=>by
    induction i with
    | zero=>intro n s _; rfl
    | succ i ih =>
     intro n s h;obtain⟨n,rfl⟩:∃k,n=k+1:=⟨n-1,by omega⟩
     show el G s++aR (el G) (s+1) n=(el G s++aR (el G) (s+1) i)++_;rw[ih n (s+1) (by omega),List.append_assoc,show s+1+i=s+(i+1) by omega,show n+1-(i+1)=n-i by omega]
   exact key dN L 0 hlow
  rw[sp,aM,List.getElem?_append_left (List.getElem?_eq_some_iff.1 hj).1];exact hj)⟩⟩
 have hmd:∃F:Value→Nat→Nat,LV w1 (aZ b (if L=dN then 0 else 0+dN*4) (L-dN) (L-dN)) (L-dN) (F (aZ b (if L=dN then 0 else 0+dN*4) (L-dN) (L-dN)))∧F (aZ b 0 dN L)=G ∧
   (F (aZ b (if L=dN then 0 else 0+dN*4) (L-dN) (L-dN))=(fun j=>G (dN+j))∨L-dN=0):=by
  classical
  refine⟨fun x=>if x=aZ b 0 dN L then G else fun j=>G (dN+j),?_,if_pos rfl,?_⟩
  ·by_cases e:aZ b (if L=dN then 0 else 0+dN*4) (L-dN) (L-dN)=aZ b 0 dN L
   ·have e3:L-dN=dN∧L-dN=L:=by
     unfold aZ at e;injection e with _ e1 e2;exact⟨e1,e2⟩
    have e4:L-dN=0:=by omega
    rw[e4];refine⟨_,_,rfl,Nat.le_refl _,fun j hj=>by omega,fun h=>by omega⟩
   ·show LV _ _ _ (if _ then _ else _);rw[if_neg e]; exact hu
  ·by_cases e:aZ b (if L=dN then 0 else 0+dN*4) (L-dN) (L-dN)=aZ b 0 dN L
   ·have e3:L-dN=dN∧L-dN=L:=by
     unfold aZ at e;injection e with _ e1 e2;exact⟨e1,e2⟩
    right; omega
   ·left; exact if_neg e
 obtain⟨F,hFu,hFv,hFe⟩:=hmd;refine aA aG (fun _ _=>bG.w _ _) (GT fun w' hw=>KC hw) (Ax w1 F b n L dN _) ⟨congrArg _ hmin,fun w=>VF hlow (Nat.le_refl _) w,hFu,by show L-dN≤_; omega,hlow,by rw[hFv]; exact hv2,by omega,trivial⟩ hF fun a w2 hA2 => ?_
 rw[hFv]at hA2;have hq:∀(K:Nat→Nat),(K=(fun j=>G (dN+j))∨L-dN=0)→aR (el K) 0 (aF K (L-dN))=aR (el fun j=>G (dN+j)) 0 (aF (fun j=>G (dN+j)) (L-dN))∧aF K (L-dN)=aF (fun j=>G (dN+j)) (L-dN):=fun K h=>by
  rcases h with rfl|h
  ·exact⟨rfl,rfl⟩
  ·rw[h]; exact⟨rfl,rfl⟩
 obtain⟨q1,q2⟩:=hq _ hFe;have h:=MC (P:=prog) (fn:=f52) rfl hA2 (s:=6) (s':=7) (k:=45) (k':=49) (List.mem_cons_self) (List.mem_cons_of_mem _ List.mem_cons_self) (List.mem_cons_of_mem _ (List.mem_cons_of_mem _ List.mem_cons_self)) (List.mem_cons_of_mem _ (List.mem_cons_of_mem _ (List.mem_cons_of_mem _ List.mem_cons_self))) (by omega);refine cH h fun e w h => ?_
 have h2:=h.older hA.below;change FQ.ok ⟨aR (el (F _)) 0 (aF (F _) (L-dN)),aF (F _) (L-dN),_,_⟩ _ _ _ at h2;rw[q1,q2]at h2;exact h2
def oK (k:Nat):Fact→Bool
 | .slot _ v => !(gZ v.key k)
 | .row k1 _ _ => !(Nat.beq k1 k)
 | .at k1 _ => !(Nat.beq k1 k)
 | .app k1 _ _ _ => !(Nat.beq k1 k)
theorem BH {base k:Nat} {β β':Nat→Bk} (hβ:∀j,j≠k→β' j=β j) {a:Act} {w:World} {φ:Fact} (h:φ.ok base β a w) (hn:oK k φ=true):φ.ok base β' a w:=by
 cases φ with
 | slot s v =>
  show a.tmps[s]?=_;rw[AV.den_eq v fun j hj=>hβ j fun e=>by
   subst e;simp[oK,cM.2 hj]at hn]
  exact h
 | row k1 o l =>
  have e:β' k1=β k1:=hβ k1 fun e=>by subst e; simp[oK]at hn
  simp only[Fact.ok]at h ⊢;rw[e]; exact h
 | «at» k1 b =>
  have e:β' k1=β k1:=hβ k1 fun e=>by subst e; simp[oK]at hn
  simp only[Fact.ok]at h ⊢;rw[e]; exact h
 | app k1 e1 s1 n1 =>
  have e:β' k1=β k1:=hβ k1 fun e=>by subst e; simp[oK]at hn
  simp only[Fact.ok]at h ⊢;rw[e]; exact h
theorem Holds.toSl {nt base:Nat} {w0:World} {A:List Fact} {a:Act} {w:World} (h:Holds nt base w0 A a w) {s k b n m:Nat} (h1:Fact.slot s (.im (aZ b 0 n m))∈A) (h2:Fact.at k b∈A):Holds nt base w0 (.slot s (.sl k 0 n m)::A) a w:=by
 obtain⟨β,g1,g2,g3⟩:=h.facts;have e1:=g1 _ h1;have e2:=g1 _ h2;simp only[Fact.ok]at e1 e2;have up:∀k1 o1 l1,Fact.row k1 o1 l1∈(Fact.slot s (.sl k 0 n m)::A)→Fact.row k1 o1 l1∈A:=fun k1 o1 l1 e=>by
  rcases List.mem_cons.1 e with e|e
  ·cases e
  ·exact e
 refine⟨h.defers,h.size,h.below,h.heap,β,fun φ hφ => ?_,fun k1 k2 o2 l1 l2 q1 q2=>g2 k1 k2 o2 l1 l2 (up _ _ _ q1) (up _ _ _ q2),fun k1 l1 e=>g3.1 k1 l1 (up _ _ _ e),g3.2⟩
 rcases List.mem_cons.1 hφ with rfl|hφ
 ·show a.tmps[s]?=_;rw[e1];simp[AV.den,e2,aZ]
 ·exact g1 φ hφ
theorem Holds.put2 {nt:Nat} {w0:World} {A:List Fact} {a:Act} {w:World} (h:Holds nt w0.heap.size w0 A a w) {r:FQ} {w':World} {e:Ending} (hr:r.ok w e w') {d k k':Nat} (hd:d<nt) (hA:A.all (fun φ => !(gW (some d) none φ))=true) (hk:A.all (oK k)=true) (hk':A.all (oK k')=true) (hkk:k≠k') (hn:k≠nt) (hn':k'≠nt) :
  ∃b b',e=.returned (.tuple #[aZ b 0 r.n r.n,aZ b' 0 r.n' r.n'])∧Holds nt w0.heap.size w0 (.row k' true r.l' :: .at k' b' :: .row k true r.l :: .at k b :: .slot d (.tu [.im (aZ b 0 r.n r.n),.im (aZ b' 0 r.n' r.n')])::A) (a.put (some d) (.tuple #[aZ b 0 r.n r.n,aZ b' 0 r.n' r.n'])) w':=by
 obtain⟨b,b',rfl,hb,⟨h1,h2,h3,h4⟩,⟨j1,j2,j3,j4⟩,hne⟩:=hr;refine⟨b,b',rfl,?_⟩;obtain⟨β,g1,g2,g3,gt⟩:=h.facts;have hW:w0.heap.size≤w.heap.size:=h.below.size;have P:=mN (base:=w0.heap.size) (β:=β) (a:=a) (w:=w) (w':=w') (M:=A) (.tu [.im (aZ b 0 r.n r.n),.im (aZ b' 0 r.n' r.n')]) (d:=d) (by rw[h.size]; exact hd) h.heap hb;rw[List.all_eq_true]at hA hk hk';obtain⟨β',e0,e1,e2⟩:∃β':Nat→Bk,β' k=(b,0,0)∧β' k'=(b',0,0)∧∀j,j≠k→j≠k'→β' j=β j:=by
  refine⟨fun j=>if j=k then (b,0,0)else if j=k' then (b',0,0)else β j,if_pos rfl,?_,fun j q1 q2 => ?_⟩
  ·show (if k'=k then _ else if k'=k' then _ else _)=_;rw[if_neg (Ne.symm hkk),if_pos rfl]
  ·show (if j=k then _ else if j=k' then _ else _)=_;rw[if_neg q1,if_neg q2]
 have hold:∀φ∈A,φ.ok w0.heap.size β' (a.put (some d) (.tuple #[aZ b 0 r.n r.n,aZ b' 0 r.n' r.n'])) w':=fun φ hφ=>by
  have c:=keep P (g1 φ hφ) (by simpa using hA φ hφ) fun kk k1 dH l q=>by cases q
  have c2:=BH (β':=fun j=>if j=k then (b,0,0)else β j) (k:=k) (fun j hj=>if_neg hj) c (hk φ hφ);exact BH (β':=β') (k:=k') (fun j hj=>by
   by_cases q:j=k
   ·subst q; rw[e0]; exact (if_pos rfl).symm
   ·rw[e2 j q hj]; exact (if_neg q).symm) c2 (hk' φ hφ)
 have hkA:∀k1 o1 l1,Fact.row k1 o1 l1∈A→k1≠k∧k1≠k':=fun k1 o1 l1 hr=>⟨fun e=>by subst e; have:=hk _ hr; simp[oK]at this,fun e=>by subst e; have:=hk' _ hr; simp[oK]at this⟩
 have hlt:∀k1 o1 l1,Fact.row k1 o1 l1∈A→(β' k1).1<w.heap.size∧β' k1=β k1:=fun k1 o1 l1 hr=>by
  obtain⟨q1,q2⟩:=hkA _ _ _ hr;rw[e2 k1 q1 q2];exact⟨(g1 _ hr).1,rfl⟩
 have ent:β' nt=β nt:=e2 nt (Ne.symm hn) (Ne.symm hn');refine⟨by rw[eS]; exact h.defers,by rw[dM]; exact h.size,h.below.trans (hb.mono hW),Nat.le_trans h.heap hb.size,β',fun φ hφ => ?_,fun k1 k2 o2 l1 l2 q1 q2 hne2 => ?_,fun k1 l1 q1 => ?_,by rw[ent]; exact Nat.le_trans gt.size hb.size,fun p p1 p2 => ?_,gt.shape.trans (Shape.below hb)⟩
 ·simp only[List.mem_cons]at hφ
  rcases hφ with rfl|rfl|rfl|rfl|rfl|hφ
  ·exact⟨by rw[e1]; exact j2,by rw[e1]; exact j3,fun _=>⟨by rw[e1]; exact Nat.le_trans hW j1,by rw[e1],by rw[e1]; exact j4⟩,fun h=>by cases h⟩
  ·exact⟨by rw[e1],by rw[e1]⟩
  ·exact⟨by rw[e0]; exact h2,by rw[e0]; exact h3,fun _=>⟨by rw[e0]; exact Nat.le_trans hW h1,by rw[e0],by rw[e0]; exact h4⟩,fun h=>by cases h⟩
  ·exact⟨by rw[e0],by rw[e0]⟩
  ·exact eW _ _ _ (by rw[h.size]; exact hd)
  ·exact hold φ hφ
 ·simp only[List.mem_cons,reduceCtorEq,false_or]at q1 q2
  rcases q1 with q1|q1|q1
  ·cases q1
   rcases q2 with q2|q2|q2
   ·cases q2; exact (hne2 rfl).elim
   ·cases q2; rw[e0,e1]; exact fun e=>hne e.symm
   ·rw[e1]; have:=(hlt _ _ _ q2).1; show b'≠_; omega
  ·cases q1
   rcases q2 with q2|q2|q2
   ·cases q2; rw[e0,e1]; exact hne
   ·cases q2; exact (hne2 rfl).elim
   ·rw[e0]; have:=(hlt _ _ _ q2).1; show b≠_; omega
  ·rcases q2 with q2|q2|q2
   ·cases q2; rw[e1]; have:=(hlt _ _ _ q1).1; show _≠b'; omega
   ·cases q2; rw[e0]; have:=(hlt _ _ _ q1).1; show _≠b; omega
   ·rw[(hlt _ _ _ q1).2,(hlt _ _ _ q2).2];exact g2 k1 k2 o2 l1 l2 q1 q2 hne2
 ·rw[ent];simp only[List.mem_cons,reduceCtorEq,false_or]at q1
  rcases q1 with q1|q1|q1
  ·cases q1; rw[e1]; exact Or.inr (Nat.le_trans gt.size j1)
  ·cases q1; rw[e0]; exact Or.inr (Nat.le_trans gt.size h1)
  ·rw[(hlt _ _ _ q1).2];exact g3 k1 l1 q1
 ·rw[ent]at p2;have q:=Nat.lt_of_lt_of_le p2 gt.size;have:=gt.mem p p1 p2;exact⟨(hb.cell q).trans this.1,(hb.frozen q).trans this.2⟩
def UG {α:Type} (a b:α) (j:Nat):α:=if j=0 then a else b
def fH (N:Nat) (f:Nat→Nat) (x:Nat):Int:=if N≤65536 then (if bT N f∧x<RM then 0 else 21)else 72
theorem Lm (N:Nat) (f:Nat→Nat) (x:Nat):Eh 2 (UG N 1) (UG f fun _=>x)=fH N f x:=by
 have e1:kD 2 (UG N 1)↔N≤65536:=⟨fun h=>h 0 (by omega),fun h j hj=>by
  by_cases e:j=0
  ·rw[e]; exact h
  ·unfold UG; rw[if_neg e]; omega⟩
 have e2:kO 2 (UG N 1) (UG f fun _=>x)↔(bT N f∧x<RM):=⟨fun h=>⟨h 0 (by omega),h 1 (by omega) 0 (show 0<1 by omega)⟩,fun h j hj=>by
  by_cases e:j=0
  ·rw[e]; exact h.1
  ·unfold UG; rw[if_neg e,if_neg e]; exact fun _ _=>h.2⟩
 unfold Eh fH;simp only[e1,e2]
theorem uH {N:Nat} {f:Nat→Nat} {x:Nat} (h:fH N f x=0):N≤65536∧bT N f∧x<RM:=by
 unfold fH at h;split at h
 ·rename_i h1;split at h
  ·rename_i h2; exact⟨h1,h2⟩
  ·cases h
 ·cases h
theorem LV.one {w:World} {b x:Nat} (h:oldOf w b 0 [.q x]) (hx:x<aT):LV w (aZ b 0 1 1) 1 (fun _=>x) :=
 ⟨_,_,rfl,Nat.le_refl _,fun _ _=>hx,fun _=>⟨b,0,rfl,h.1,h.2⟩⟩
theorem CL {w:World} {v:Value} {N x b b2:Nat} {f:Nat→Nat} (hv:LV w v N f) (hN:N≤4611686018427387904) (hx:x<aT) (h1:oldOf w b 0 [.q x]) (h2:oldOf w b2 0 [.c v,.c (aZ b 0 1 1)]):Good prog 51 (.one (.im (.int .i64 (fH N f x)))) [aZ b2 0 2 2] w:=by
 rw[←Lm];refine uG (vs:=UG v (aZ b 0 1 1)) ⟨b2,0,2,rfl,h2.1,h2.2⟩ (fun j hj => ?_) (by omega) fun j hj => ?_
 ·by_cases e:j=0
  ·rw[e]; exact hv
  ·unfold UG; rw[if_neg e,if_neg e,if_neg e]; exact LV.one h1 hx
 ·by_cases e:j=0
  ·rw[e]; exact hN
  ·unfold UG; rw[if_neg e]; omega
def Kp (N:Nat) (f:Nat→Nat):iR
 | [.s l n m,.v (.im (.int .i64 (.ofNat i)))]=>some ([aB l=aB (aR (el f) 0 N),n=N,N≤m,∀j,j<N→f j<aT],.one (.fl [.q (nZ f N i)]))
 | _=>none
theorem Ad {N:Nat} {f:Nat→Nat}:∀cs pre r,Kp N f cs=some (pre,r)→aQ pre→∀(args:List Value) (w:World),cF w cs args→Good prog 53 r args w:=by
 intro cs pre r hg hp args w ha;unfold Kp at hg;split at hg
 ·rename_i l n m i;cases hg
  match args,ha with
  | [u,t],ha =>
   have h1:t=iI i:=ha.2.1;subst h1;exact CS (LV.ofS ha.1 hp.1 hp.2.1 hp.2.2.1 hp.2.2.2.1)
  | [],ha=>exact ha.elim
  | [_],ha=>exact ha.2.elim
  | _::_::_::_,ha=>exact ha.2.2.elim
 ·cases hg
def cQ:Code:=(f16.body).getD .skip
theorem YN:cQ=.seq (cA cQ) (.seq (.seq (.region 1 (aO (cA (cA (cB cQ)))) false) (cB (cA (cB cQ)))) (.seq (.region 4 (aO (cA (cB (cB cQ)))) false) (cB (cB (cB cQ))))):=by kernel_rfl
def IT (v:Value) (x:Nat):List Fact:=[.slot 0 (.im v),.slot 3 (.pt 3 0),.row 3 true [.q x],.slot 5 (.pt 5 0),.row 5 true [.f ⟨0,cY⟩]]
def Sn (v:Value) (x:Nat):List Fact:=.slot 10 (.im v) :: .slot 12 (.sl 12 0 1 1) :: .row 12 true [.q x]::IT v x
def Dm (v:Value) (x b:Nat):List Fact:=.slot 13 (.sl 13 0 2 2) :: .row 13 true [.c v,.c (aZ b 0 1 1)] :: .row 12 true [.q x] :: .at 12 b::IT v x
def bX:Cfg:=⟨fun _=>dW,fun _=>true,fun _=>none⟩
theorem Sj (v:Value) (x:Nat):aH prog (qG prog) f16.ntmps (cG fun _=>none) 40 (cA cQ) (eF 0 [.v (.im v),.v (.fl [.q x])]) (IT v x)=some ([],.nrm,IT v x):=by kernel_rfl
theorem Si (p:Option Addr) (N m x:Nat):dR prog (qG prog) f16.ntmps bX ((aO (cA (cA (cB cQ)))).extract 0 3) (IT (.slice p N m) x) (Sn (.slice p N m) x)=some ([],Sn (.slice p N m) x):=by kernel_rfl
theorem Sh (p:Option Addr) (N m x b:Nat):dR prog (qG prog) f16.ntmps bX ((aO (cA (cA (cB cQ)))).extract 3 4) (.slot 12 (.im (aZ b 0 1 1)) :: .at 12 b::Sn (.slice p N m) x) (Dm (.slice p N m) x b)=some ([],Dm (.slice p N m) x b):=by kernel_rfl
theorem Sg (v:Value) (x b:Nat) (e:Int):dR prog (qG prog) f16.ntmps bX ((aO (cA (cA (cB cQ)))).extract 5 6) (.slot 14 (.im (.int .i64 e))::Dm v x b) (.slot 7 (.im (.int .i64 e))::IT v x)=some ([],.slot 7 (.im (.int .i64 e))::IT v x):=by kernel_rfl
theorem Iq (v:Value) (x:Nat) (e:Int):aH prog (qG prog) f16.ntmps (cG (aE [(16,.bool true)])) 40 (cB (cA (cB cQ))) (.slot 7 (.im (.int .i64 e))::IT v x) [.slot 4 (.im (.slice none 0 0)),.slot 5 (.pt 5 0),.row 5 true [.f ⟨0,cY⟩],.slot 6 (.im (.int .i64 e))]=some ([aD .neq .i64 e 0=some (.bool true)],.rt,[.slot 4 (.im (.slice none 0 0)),.slot 5 (.pt 5 0),.row 5 true [.f ⟨0,cY⟩],.slot 6 (.im (.int .i64 e))]):=by kernel_rfl
theorem YM (v:Value) (x:Nat):aH prog (qG prog) f16.ntmps (cG fun _=>none) 40 (cB (cA (cB cQ))) (.slot 7 (.im (.int .i64 0))::IT v x) (IT v x)=some ([],.nrm,IT v x):=by kernel_rfl
def Sm (v:Value) (x:Nat):List Fact:=.slot 20 (.im v) :: .slot 21 (.fl [.q x])::IT v x
theorem Sf (v:Value) (x:Nat):dR prog (qG prog) f16.ntmps bX ((aO (cA (cB (cB cQ)))).extract 0 2) (IT v x) (Sm v x)=some ([],Sm v x):=by kernel_rfl
def liE (b b' n n':Nat) (l l':List At):List Fact:=[.slot 8 (.im (aZ b 0 n n)),.slot 9 (.im (aZ b' 0 n' n')),.row 1000 true l,.at 1000 b,.row 1001 true l',.at 1001 b',.slot 5 (.pt 5 0),.row 5 true [.f ⟨0,cY⟩]]
theorem Se (v:Value) (x b b' n n':Nat) (l l':List At):dR prog (qG prog) f16.ntmps bX ((aO (cA (cB (cB cQ)))).extract 3 8) (.row 1001 true l' :: .at 1001 b' :: .row 1000 true l :: .at 1000 b :: .slot 22 (.tu [.im (aZ b 0 n n),.im (aZ b' 0 n' n')])::Sm v x) (liE b b' n n' l l')=some ([],liE b b' n n' l l'):=by kernel_rfl
def liZ (n e:Nat) (l:List At):List Fact:=[.slot 4 (.sl 1000 0 n n),.row 1000 true l,.slot 5 (.pt 5 0),.row 5 true [.q e],.slot 6 (.im (.int .i64 0))]
theorem Sd (b b' n n':Nat) (l l':List At) (f:Nat→Nat):aH prog (qG prog) f16.ntmps (fun _=>⟨fun _=>dW.add 53 (Kp n' f),fun _=>true,fun _=>none⟩) 40 (cB (cB (cB cQ))) (.slot 8 (.sl 1000 0 n n) :: .slot 9 (.sl 1001 0 n' n')::liE b b' n n' l l') (liZ n (nZ f n' 0) l)=some ([aB l'=aB (aR (el f) 0 n'),n'=n',n'≤n',∀j,j<n'→f j<aT],.rt,liZ n (nZ f n' 0) l):=by kernel_rfl
theorem tG {c:Int} (h:c≠0):aD .neq .i64 c 0=some (.bool true):=by
 show some (Value.bool (c != 0))=_;rw[bne_iff_ne.2 h]
def UF (x L:Nat) (f:Nat→Nat):Nat→Nat:=rP 1 x L f (L-1)
def tK (x L:Nat) (f:Nat→Nat) (j:Nat):Nat:=UF x L f (min 1 L+j)
def rL (x L:Nat) (f:Nat→Nat):Nat:=aF (tK x L f) (L-min 1 L)
def QO (x L:Nat) (f:Nat→Nat):Nat:=nZ (UF x L f) (aF (UF x L f) (min 1 L)) 0
theorem kH {A:List Fact} {d:Nat} (h:A.all (fun φ => !(gW (some d) none φ))=true):∀φ∈A,gW (some d) none φ=false:=fun φ hφ=>by
 rw[List.all_eq_true]at h;simpa using h φ hφ
theorem tJ {w0:World} {v:Value} {N x:Nat} {f:Nat→Nat} (hv:LV w0 v N f) (hN:N≤4611686018427387904) (hx:x<aT) :
  (fH N f x≠0→Good prog 16 (.many [.im (.slice none 0 0),.fl [.f ⟨0,cY⟩],.im (.int .i64 (fH N f x))]) [v,.agg (aB [At.q x]).toArray] w0) ∧
  (fH N f x=0→Calls prog 16 #[v,.agg (aB [At.q x]).toArray] w0 (fun e w'=>FR.ok ⟨aR (el (tK x (aF f N) f)) 0 (rL x (aF f N) f),rL x (aF f N) f,rL x (aF f N) f,[.fl [.q (QO x (aF f N) f)],.im (.int .i64 0)]⟩ w0 e w')):=by
 have hG:bH prog (qG prog) w0.heap.size w0:=(aY _).w _ _;have hT:∀n d:Nat,TabOkW prog dW w0.heap.size w0:=fun _ _=>bG.w _ _
 obtain⟨p0,m0,rfl,hm0,h256,hmem⟩:=id hv;have first:∀R:Ending→World→Prop,(∀a w,Holds f16.ntmps w0.heap.size w0 (.slot 7 (.im (.int .i64 (fH N f x)))::IT (.slice p0 N m0) x) a w→(cB (cA (cB cQ))).wp prog (fun e a w=>match e with | .normal=>(Code.seq (.region 4 (aO (cA (cB (cB cQ)))) false) (cB (cB (cB cQ)))).wp prog (bodyPost prog f16 R) a w|e=>bodyPost prog f16 R e a w) a w) →
   Calls prog 16 #[.slice p0 N m0,.agg (aB [At.q x]).toArray] w0 R:=fun R hR=>by
  refine bJ func16 (cs:=[.v (.im (.slice p0 N m0)),.v (.fl [.q x])]) (args:=[.slice p0 N m0,.agg (aB [At.q x]).toArray]) (c:=cQ) rfl ⟨rfl,rfl,trivial⟩ (Nat.le_of_ble_eq_true (by kernel_rfl)) fun a w1 hA => ?_
  rw[YN];refine wp_seq (aA aG hT hG (Sj _ x) trivial hA fun a w1 hA => ?_);refine wp_seq (wp_seq (cD (l:=List.range' 0 ((aO (cA (cA (cB cQ)))).extract 0 3).size++(List.range' 3 ((aO (cA (cA (cB cQ)))).extract 3 4).size++(4::(List.range' 5 ((aO (cA (cA (cB cQ)))).extract 5 6).size++[])))) (by kernel_rfl) ?_));refine aL (c:=bX) (hT 0) hG (Si p0 N m0 x) trivial (by kernel_rfl) hA fun a w1 hA => ?_
  obtain⟨b,hA⟩:=hA.at (k:=12) (l:=[.q x]) (by simp[Sn]);have hA:=hA.im (s:=12) (k:=12) (o:=0) (n:=1) (m:=1) (b:=b) (by simp[Sn]) (by simp);refine aL (c:=bX) (hT 0) hG (Sh p0 N m0 x b) trivial (by kernel_rfl) hA fun a w1 hA => ?_
  obtain⟨b2,hB⟩:=hA.at (k:=13) (l:=[.c (.slice p0 N m0),.c (aZ b 0 1 1)]) (by simp[Dm]);have h13:=(hB.im (s:=13) (k:=13) (o:=0) (n:=2) (m:=2) (b:=b2) (by simp[Dm]) (by simp)).slot (s:=13) (v:=aZ b2 0 2 2) (by simp);have o1:oldOf w1 b 0 [.q x]:=hA.old (k:=12) (by simp[Dm]) (by simp[Dm]);have o2:oldOf w1 b2 0 [.c (.slice p0 N m0),.c (aZ b 0 1 1)]:=hB.old (k:=13) (by simp[Dm]) (by simp);obtain⟨o,ho,hoo,hod,hog⟩:∃o,(aO (cA (cA (cB cQ))))[4]?=some o∧(∃ts,o.op=.call ⟨.value (.func 51),#[.tmp 13],ts⟩)∧o.dst=some 14∧o.guard=none:=⟨_,rfl,⟨_,rfl⟩,rfl,rfl⟩
  obtain⟨ts,hoo⟩:=hoo;refine dJ ho hog (iE hoo (vs:=[aZ b2 0 2 2]) (by simp[Act.eval,h13]) (fun args=>bK func51 (by kernel_rfl) (by kernel_rfl) args _) (CL (hv.on hA.below) hN hx o1 o2) fun w2 hb => ?_);rw[hod];have hA:=hA.put hb (d:=14) (Nat.le_of_ble_eq_true (by kernel_rfl)) (.im (.int .i64 (fH N f x))) (kH (by kernel_rfl));refine aL (c:=bX) (hT 0) hG (Sg _ x b _) trivial (by kernel_rfl) hA fun a w1 hA => ?_
  exact Code.wp_mono (fun e a w h=>by cases e<;>exact h) (hR a w1 hA)
 refine⟨fun he=>first _ fun a w hA => ?_,fun he=>first _ fun a w hA => ?_⟩
 ·exact aA aG hT hG (Iq _ x _) ⟨tG he,trivial⟩ hA fun a w' hA=>aW (l:=[.im (.slice none 0 0),.fl [.f ⟨0,cY⟩],.im (.int .i64 (fH N f x))]) (r:=.many [.im (.slice none 0 0),.fl [.f ⟨0,cY⟩],.im (.int .i64 (fH N f x))]) (by kernel_rfl) (by kernel_rfl) hA
 ·rw[he]at hA;obtain⟨hN2,hf,hxr⟩:=uH he;refine aA aG hT hG (YM _ x) trivial hA fun a w1 hA => ?_
  show (Code.seq _ _).wp _ _ _ _;refine wp_seq (cD (l:=List.range' 0 ((aO (cA (cB (cB cQ)))).extract 0 2).size++(2::(List.range' 3 ((aO (cA (cB (cB cQ)))).extract 3 8).size++[]))) (by kernel_rfl) ?_);refine aL (c:=bX) (hT 0) hG (Sf _ x) trivial (by kernel_rfl) hA fun a w1 hA => ?_
  have h20:=hA.slot (s:=20) (v:=.slice p0 N m0) (by simp[Sm]);have h21:=hA.slotF (s:=21) (l:=[.q x]) (by simp[Sm]);obtain⟨o,ho,hoo,hod,hog⟩:∃o,(aO (cA (cB (cB cQ))))[2]?=some o∧(∃ts,o.op=.call ⟨.value (.func 52),#[.tmp 20,.const (iI 1),.tmp 21],ts⟩)∧o.dst=some 22∧o.guard=none:=⟨_,rfl,⟨_,rfl⟩,rfl,rfl⟩
  obtain⟨ts,hoo⟩:=hoo;refine dJ ho hog (nC hoo (vs:=[.slice p0 N m0,iI 1,.agg (aB [At.q x]).toArray]) (by simp[Act.eval,h20,h21]) (fun args=>bK func52 (by kernel_rfl) (by kernel_rfl) args _) (SM (hv.on hA.below) (by omega) hf (Nat.le_refl 1) (by omega) hxr) fun e w2 hr => ?_);obtain⟨b,b',rfl,hB⟩:=hA.put2 hr (d:=22) (k:=1000) (k':=1001) (Nat.le_of_ble_eq_true (by kernel_rfl)) (by kernel_rfl) (by kernel_rfl) (by kernel_rfl) (by omega) (by decide) (by decide);refine⟨_,rfl,?_⟩;rw[hod];refine aL (c:=bX) (hT 0) hG (Se _ x b b' _ _ _ _) trivial (by kernel_rfl) hB fun a w3 hA => ?_
  have hA:=hA.toSl (s:=9) (k:=1001) (b:=b') (List.mem_of_getElem? (i:=1) rfl) (List.mem_of_getElem? (i:=5) rfl);have hA:=hA.toSl (s:=8) (k:=1000) (b:=b) (List.mem_of_getElem? (i:=1) rfl) (List.mem_of_getElem? (i:=4) rfl);have hlt:=yQ (n:=1) (c:=x) (L:=aF f N) (f:=f) (fun j hj=>hf j (Nat.lt_of_lt_of_le hj (cC f N))) (aF f N-1);have hn':aF (UF x (aF f N) f) (min 1 (aF f N))≤aF f N:=Nat.le_trans (cC _ _) (Nat.min_le_right _ _);exact aA aG (fun _ _=>TabOkW.add (bG.w _ _) func53 (by kernel_rfl) (by kernel_rfl) fun w hw cs pre r h1 h2 args ha=>Ad cs pre r h1 h2 args w ha) hG (Sd b b' _ _ _ _ (UF x (aF f N) f)) ⟨rfl,rfl,Nat.le_refl _,fun j hj=>eQ (hlt j (by show j<_; exact Nat.lt_of_lt_of_le hj hn')),trivial⟩ hA fun a w4 hA=>fA (r:=⟨aR (el (tK x (aF f N) f)) 0 (rL x (aF f N) f),rL x (aF f N) f,rL x (aF f N) f,[.fl [.q (QO x (aF f N) f)],.im (.int .i64 0)]⟩) (by kernel_rfl) hA
structure Own (w:World) (b:Nat) (l:List At):Prop where
 lt:b<w.heap.size
 row:w.rangeAt b 0 (aB l)
 free:∀j,w.frozen? ⟨b,j,none⟩=false
theorem Holds.wrc {nt b:Nat} {w w':World} {A:List Fact} {a:Act} (h:Holds nt b w A a w') {l:List At} (h1:Fact.row 0 true l∈A) (h2:Fact.at 0 b∈A) (h3:Fact.at nt w.heap.size∈A):WrC w w' b∧w'.rangeAt b 0 (aB l):=by
 obtain⟨β,g1,g2,g3,gt⟩:=h.facts;obtain⟨e1,e2,e4,_⟩:=g1 _ h1;obtain⟨e5,e6,e7⟩:=e4 rfl;have e3:=g1 _ h2;have e8:=g1 _ h3;simp only[Fact.ok]at e3 e8;rw[e6]at e2;rw[e3.1]at e2;refine⟨⟨h.below,fun p hp hne => ?_,gt.shape,fun j => ?_⟩,e2⟩
 ·rcases Nat.lt_or_ge p.block b with q|q
  ·exact⟨h.below.cell q,h.below.frozen q⟩
  ·exact gt.mem p (by omega) (by rw[e8.1]; exact hp)
 ·have:=e7 j
  rwa [e3.1]at this
section
variable {P:Program} {w:World} {R:Ending→World→Prop}
end
def CT:Nat→List AV→List Fact
 | _,[]=>[]
 | i,v::r=>.slot i v::CT (i+1) r
theorem uN {base:Nat} {β:Nat→Bk} (a:Act) (w:World):∀(xs:List AV) (i:Nat),(∀j v,xs[j]?=some v→a.tmps[i+j]?=some (v.den β))→∀φ∈CT i xs,φ.ok base β a w
 | [],i,_,φ,h=>by cases h
 | t::r,i,ha,φ,h=>by
  rcases List.mem_cons.1 h with rfl|h
  ·exact ha 0 t rfl
  ·exact uN a w r (i+1) (fun j u hj=>by have:=ha (j+1) u (by simpa using hj); rwa [show i+(j+1)=i+1+j by omega]at this) φ h
theorem pV:∀(xs:List AV) (i:Nat) (k:Nat) (o:Bool) (l:List At),Fact.row k o l∈CT i xs→False
 | [],i,k,o,l,h=>by cases h
 | t::r,i,k,o,l,h=>by
  rcases List.mem_cons.1 h with h|h
  ·cases h
  ·exact pV r (i+1) k o l h
def ML (nt b N:Nat) (l:List At) (xs:List AV):List Fact:=.row 0 true l :: .at 0 b :: .at nt N::CT 0 xs
section
variable {P:Program} {w:World} {R:Ending→World→Prop}
theorem wB {f:FuncId} {fn:Func} (hf:P.funcs[f]?=some fn) {c:Code} (hb:fn.body=some c) {b:Nat} {l:List At} {xs:List AV} {vs:List Value} (hx:∀β:Nat→Bk,β 0=(b,0,0)→xs.map (AV.den β)=vs) (hO:Own w b l) (hn:xs.length≤fn.ntmps) (h0n:0<fn.ntmps)
  (h:∀a w',Holds fn.ntmps b w (ML fn.ntmps b w.heap.size l xs) a w'→c.wp P (bodyPost P fn R) a w'):Calls P f vs.toArray w R:=by
 refine calls_of_wp hf hb (h _ _ ?_);have hlen:vs.length=xs.length:=by rw[←hx (fun _=>(b,0,0)) rfl,List.length_map]
 have hg:∀j u,vs[j]?=some u→(vs.toArray++Array.replicate (fn.ntmps-vs.toArray.size) undef)[j]?=some u:=fun j u hj=>by
  have hlt:=(List.getElem?_eq_some_iff.1 hj).1;rw[Array.getElem?_append_left (by simpa using hlt)];simpa using hj
 have hz:(fun k=>if k=fn.ntmps then ((w.heap.size,0,0):Bk)else (b,0,0)) 0=(b,0,0):=if_neg (by omega);have hz2:(fun k=>if k=fn.ntmps then ((w.heap.size,0,0):Bk)else (b,0,0)) fn.ntmps=(w.heap.size,0,0):=if_pos rfl;generalize (fun k=>if k=fn.ntmps then ((w.heap.size,0,0):Bk)else (b,0,0))=β at hz hz2;have h0:∀k o l0,Fact.row k o l0∈ML fn.ntmps b w.heap.size l xs→k=0∧o=true:=fun k o l0 hk=>by
  simp only[ML,List.mem_cons,reduceCtorEq,false_or]at hk
  rcases hk with hk|hk
  ·cases hk; exact⟨rfl,rfl⟩
  ·exact (pV xs 0 k o l0 hk).elim
 refine⟨rfl,by simp; omega,Below.refl _ _,Nat.le_of_lt hO.lt,β,fun φ hφ => ?_,fun k k' o' l1 l2 h1 h2 hne => ?_,fun k l1 h1=>Or.inl ?_,by rw[hz2]; exact Nat.le_refl _,fun p q1 q2=>⟨rfl,rfl⟩,Shape.refl _⟩
 ·simp only[ML,List.mem_cons]at hφ
  rcases hφ with rfl|rfl|rfl|hφ
  ·exact⟨by rw[hz]; exact hO.lt,by rw[hz]; exact hO.row,fun _=>⟨by rw[hz]; exact Nat.le_refl _,by rw[hz],by rw[hz]; exact hO.free⟩,fun h=>by cases h⟩
  ·exact⟨by rw[hz],by rw[hz]⟩
  ·exact⟨by rw[hz2],by rw[hz2]⟩
  ·refine uN _ _ xs 0 (fun j v hj => ?_) φ hφ;rw[Nat.zero_add];exact hg j _ (by rw[←hx β hz,List.getElem?_map,hj]; rfl)
 ·exact (hne ((h0 k true l1 h1).1.trans (h0 k' o' l2 h2).1.symm)).elim
 ·rw[(h0 k true l1 h1).1,hz]
end
def Kr (P:Program) (q:EqT) (C:Nat→Cfg) (fn:Func) (n b N:Nat) (l:List At) (xs:List AV):Option (List Prop×RV×List At×Nat×Nat) :=
 match fn.body with
 | some c=>bif Nat.ble xs.length fn.ntmps&&Nat.blt 0 fn.ntmps then (match run P q fn.ntmps C n c (ML fn.ntmps b N l xs)with
   | some (ps,.rt,A)=>match kR P A fn.results.toList,cX A 0,nW A 0,nW A fn.ntmps with
    | some x,some (true,L),some b',some N'=>match rv x with|some r=>some (ps,r,L,b',N')|none=>none
    | _,_,_,_=>none
   | _=>none)else none
 | none=>none
theorem FV {P:Program} {q:EqT} {C:Nat→Cfg} {w:World} {b:Nat} (hm:P.follows .mixedOrders=true) (hT:∀n d,TabOkW P ((C n).T d) b w) (hq:bH P q b w) {f:FuncId} {fn:Func} (hf:P.funcs[f]?=some fn) {n:Nat} {l L:List At} {xs:List AV} {vs:List Value} {ps:List Prop} {r:RV}
  (h:Kr P q C fn n b w.heap.size l xs=some (ps,r,L,b,w.heap.size)) (hps:aQ ps) (hx:∀β:Nat→Bk,β 0=(b,0,0)→xs.map (AV.den β)=vs) (hO:Own w b l):Calls P f vs.toArray w (uP b w r L):=by
 unfold Kr at h;split at h
 ·rename_i c hb;cases hle:(Nat.ble xs.length fn.ntmps&&Nat.blt 0 fn.ntmps)<;>rw[hle]at h
  ·cases h
  ·rw[Bool.and_eq_true]at hle;simp only[cond_true]at h;split at h
   ·rename_i ps' A hrun;split at h
    ·rename_i x L' b' N' hx' hrow hb' hN';split at h
     ·rename_i r' hr;cases h;refine wB hf hb hx hO (Nat.le_of_ble_eq_true hle.1) (by simpa using hle.2) fun a w' hH=>(dA (P:=P) (q:=q) (nt:=fn.ntmps) (C:=C) hm hT hq n c _ A ps .rt a w' _ hrun hps hH fun a w' hA => ?_).1
      exact MB hx' hr hA ⟨rfl,hA.wrc (aX hrow) (dO hb') (dO hN')⟩
     ·cases h
    ·cases h
   ·cases h
 ·cases h
def Xf (P:Program) (T:Tab6) (w:World):Prop:=∀f b row cs pre r l,T f b row cs=some (pre,r,l)→aQ pre→(∀args w,(callFunc f args).run P w=.ok (.enter f args) w) ∧
 ∀(args:List Value),b<w.heap.size→w.rangeAt b 0 (aB row)→(∀q,w.frozen? ⟨b,q,none⟩=false)→CBs w b cs args→Calls P f args.toArray w (uP b w r l)
theorem As {P:Program} {x:Ext} {base:Nat} {w:World} (ho:∀b o l,x.old b o l→b<base∧w.rangeAt b o (aB l)) (h2:∀w',Below base w w'→FrAt P x.T2 w') (h3:∀w',Below base w w'→FsAt P x.T3 w') (h6:∀w',Below base w w'→Xf P x.T6 w') (h4:WrOk P x.T4:=by exact TO _) (h5:PtOk P x.T5:=by exact TS _):ExtOk P x base w:=fun w' hb =>
 ⟨fun b o l h=>cI hb (ho b o l h).1 (ho b o l h).2,h2 w' hb,h3 w' hb,fun f cs pre j l hg hp=>⟨(h4 f cs pre j l hg hp).1,fun args ha=>(h4 f cs pre j l hg hp).2 args w' ha⟩,fun f cs pre j r l hg hp=>⟨(h5 f cs pre j r l hg hp).1,fun args ha=>(h5 f cs pre j r l hg hp).2 args w' ha⟩,h6 w' hb⟩
def xOb (base:Nat) (w:World) (ld:Nat→Option (List At)):Ext:={ Ext.none with ld:=ld,old:=fun b o l=>b<base∧w.rangeAt b o (aB l),T2:=rG,T3:=KG,T4:=KB,T5:=KE,T6:=KF }
theorem Et (base:Nat) (w:World) (ld:Nat→Option (List At)):bH prog { qG prog with x:=xOb base w ld } base w :=
 ⟨(aY _).1,fL (fun b o l h=>h) (fun w' _=>FrAt.none _ _) (fun w' _=>FsAt.none _ _)⟩
theorem WH (w:World) (b N bb i x y:Nat):Kr prog { qG prog with x:=xOb b w (aE [(8,[.q y])]) } (cG fun _=>none) f89 40 b N [.q x] [.im (iI i),.pt 0 0,.im (bZ bb 0)]=some ([bb<b∧w.rangeAt bb 0 (aB [.q y]),cR [.q y]=4,x<RM,y<RM],.one (.fl [.q x]),[.q (cS x y)],b,N):=by kernel_rfl
theorem LC {w:World} {b bb i x y:Nat} (hO:Own w b [.q x]) (hb:bb<b) (hr:w.rangeAt bb 0 (aB [At.q y])) (hx:x<RM) (hy:y<RM):Calls prog 89 #[iI i,bZ b 0,bZ bb 0] w (uP b w (.one (.fl [.q x])) [.q (cS x y)]) :=
 FV aG (fun _ _=>bG.w _ _) (Et b w _) func89 (WH w b w.heap.size bb i x y) ⟨⟨hb,hr⟩,rfl,hx,hy,trivial⟩ (vs:=[iI i,bZ b 0,bZ bb 0]) (fun β h=>by simp[AV.den,h,bZ]) hO
def gPw (bb y:Nat) (b:Nat) (row:List At):List CB→Option (List Prop×RV×List At)
 | [.v (.im (.int .i64 (.ofNat i))),.pt o,.v (.im u)]=>match row with
  | [.q x]=>some ([o=0,u=bZ bb 0,x<RM,bb<b],.one (.fl [.q x]),[.q (cS x y)])
  | _=>none
 | _=>none
def Mf (bb y:Nat):Tab6:=KF.add 89 (gPw bb y)
theorem Ck {w w':World} {base bb y:Nat} (hb:bb<base) (hr:w.rangeAt bb 0 (aB [At.q y])) (hy:y<RM) (hw:Below base w w'):Xf prog (Mf bb y) w':=by
 intro f b row cs pre r l hg hp;unfold Mf Tab6.add at hg;cases hq:Nat.beq f 89<;>rw[hq]at hg
 ·cases hg
 ·cases Nat.eq_of_beq_eq_true hq;refine⟨fun args w=>bK func89 (by kernel_rfl) (by kernel_rfl) args w,fun args h1 h2 h3 h4 => ?_⟩;simp only[cond_true]at hg;unfold gPw at hg;split at hg
  ·rename_i i o u;split at hg
   ·rename_i x;cases hg;obtain⟨rfl,rfl,hx,hbb,_⟩:=hp
    match args,h4 with
    | [v1,v2,v3],h4 =>
     obtain⟨e1,e2,e3,_⟩:=h4;have e1:v1=iI i:=e1;have e2:v2=bZ b 0:=e2;have e3:v3=bZ bb 0:=e3;subst e1; subst e2; subst e3;exact LC ⟨h1,h2,h3⟩ hbb (cI hw hb hr) hx hy
    | [],h4=>exact h4.elim
    | [_],h4=>exact h4.2.elim
    | [_,_],h4=>exact h4.2.2.elim
    | _::_::_::_::_,h4=>exact h4.2.2.2.elim
   ·cases hg
  ·cases hg
def TA (b N0:Nat) (v:Value) (S Z:List At) (N i:Nat):List Fact:=[.row 0 true S,.at 0 b,.at f67.ntmps N0,.slot 1 (.im v),.slot 5 (.sl 8 0 N N),.row 8 true Z,.slot 10 (.im (iI N)),.slot 11 (.im (iI i))]
def Lu (b N0:Nat) (v:Value) (S:List At) (N:Nat):List Fact:=[.row 0 true S,.at 0 b,.at f67.ntmps N0,.slot 0 (.im (iI N)),.slot 1 (.im v)]
def Lt (b N0:Nat) (v:Value) (S Z:List At) (N:Nat):List Fact:=[.row 0 true S,.at 0 b,.at f67.ntmps N0,.slot 1 (.im v),.slot 5 (.sl 8 0 N N),.row 8 true Z]
theorem Vx (b N0:Nat) (v:Value) (S:List At) (N:Nat):aH prog (qG prog) f67.ntmps (cG fun _=>none) 40 (cA eL) (ML f67.ntmps b N0 S [.im (iI N),.im v]) (Lu b N0 v S N)=some ([],.nrm,Lu b N0 v S N):=by kernel_rfl
theorem Vw (b N0:Nat) (v:Value) (S Z:List At) (N:Nat):aH prog { qG prog with x:=xM 8 N Z } f67.ntmps (cG fun _=>none) 40 (cA (cB eL)) (Lu b N0 v S N) (Lt b N0 v S Z N)=some ([∃e,∀w:World,(Instr.makeSlice 22 (iI N) (iI N)).run prog w=.ok (.slice (some ⟨w.heap.size,0,none⟩) N N) (w.alloc (.cells (aB Z).toArray e))],.nrm,Lt b N0 v S Z N):=by kernel_rfl
theorem Vv (b N0:Nat) (v:Value) (S Z:List At) (N:Nat):aH prog (qG prog) f67.ntmps (cG fun _=>none) 40 (cA (cA (cB (cB eL)))) (Lt b N0 v S Z N) (TA b N0 v S Z N 0)=some ([],.nrm,TA b N0 v S Z N 0):=by kernel_rfl
def xP (bb y d i:Nat) (Z:List At):Ext:={ Ext.none with idx:=aE [(18,0),(d,i)],st:=aE [(d,Z)],ky:=aE [(18,0)],T2:=rG,T3:=KG,T4:=KB,T5:=KE,T6:=Mf bb y }
theorem Nd {w:World} {b bb y d i:Nat} {Z:List At} (hb:bb<b) (hr:w.rangeAt bb 0 (aB [At.q y])) (hy:y<RM):bH prog { qG prog with x:=xP bb y d i Z } b w :=
 ⟨(aY _).1,As (fun b o l h=>h.elim) (fun w' _=>FrAt.none _ _) (fun w' _=>FsAt.none _ _) (fun w' hw=>Ck hb hr hy hw)⟩
theorem Vy (b N0 bb y:Nat) (Z Z':List At) (N i x:Nat):aH prog { qG prog with x:=xP bb y 19 i Z' } f67.ntmps (cG (aE [(12,.bool true),(20,iI (i+1))])) 60 uK (TA b N0 (qK 89 [bZ b 0,bZ bb 0]) [.q x] Z N i) (TA b N0 (qK 89 [bZ b 0,bZ bb 0]) [.q (cS x y)] Z' N (i+1))=some ([aD .lss .i64 (Int.ofNat i) (Int.ofNat N)=some (.bool true),b=b,0=0,bZ bb 0=bZ bb 0,x<RM,bb<b,Int.ofNat i=Int.ofNat i,i<N,put Z (0+i*4) [.q x]=some Z',aD .add .i64 (Int.ofNat i) 1=some (iI (i+1))],.nrm,TA b N0 (qK 89 [bZ b 0,bZ bb 0]) [.q (cS x y)] Z' N (i+1)):=by kernel_rfl
theorem Lv (b N0:Nat) (v:Value) (S Z:List At) (N i:Nat):aH prog (qG prog) f67.ntmps (cG (aE [(12,.bool false)])) 40 uK (TA b N0 v S Z N i) (TA b N0 v S Z N i)=some ([aD .lss .i64 (Int.ofNat i) (Int.ofNat N)=some (.bool false)],.ex 0,TA b N0 v S Z N i):=by kernel_rfl
def Vu (b N0:Nat) (S Z:List At) (N:Nat):List Fact:=[.row 0 true S,.at 0 b,.at f67.ntmps N0,.slot 4 (.sl 8 0 N N),.row 8 true Z]
theorem Bs (b N0:Nat) (v:Value) (S Z:List At) (N i:Nat):aH prog (qG prog) f67.ntmps (cG fun _=>none) 40 (cB (cB (cB eL))) (TA b N0 v S Z N i) (Vu b N0 S Z N)=some ([],.rt,Vu b N0 S Z N):=by kernel_rfl
def fE (x y:Nat):Nat→Nat
 | 0=>x
 | i+1=>cS (fE x y i) y
theorem pK {x y:Nat} (h:x<RM):∀i,fE x y i<RM
 | 0=>h
 | i+1=>cL _ _
def FW (b:Nat) (w:World) (n:Nat) (l S:List At) (e:Ending) (w':World):Prop:=∃b2,e=.returned (aZ b2 0 n n)∧WrC w w' b∧w'.rangeAt b 0 (aB S)∧w.heap.size≤b2∧b2<w'.heap.size∧w'.rangeAt b2 0 (aB l)∧∀j,w'.frozen? ⟨b2,j,none⟩=false
theorem MA {P:Program} {fn:Func} {A:List Fact} {w:World} {b s k n:Nat} {l S:List At} (hr:fn.results = #[.tmp s]) {a:Act} {w':World} (hA:Holds fn.ntmps b w A a w') (h0:Fact.row 0 true S∈A) (h1:Fact.at 0 b∈A) (h2:Fact.at fn.ntmps w.heap.size∈A) (h3:Fact.slot s (.sl k 0 n n)∈A) (h4:Fact.row k true l∈A) (hk:k≠0) :
  bodyPost P fn (FW b w n l S) .ret a w':=by
 obtain⟨q1,q2⟩:=hA.wrc h0 h1 h2;obtain⟨β,hok,hinj,hown,_⟩:=hA.facts;obtain⟨g1,g2,g3,_⟩:=hok _ h4;obtain⟨g4,g5,g6⟩:=g3 rfl;have e1:=hok _ h3;have e2:=hok _ h1;have e3:=hok _ h2;simp only[Fact.ok,AV.den]at e1 e2 e3;rw[g5]at e1 g2;have hne:=hinj k 0 true l S h4 h0 hk;rw[e2.1]at hne;have hge:w.heap.size≤(β k).1:=by
  rcases hown k l h4 with e|e
  ·exact absurd e hne
  ·rw[e3.1]at e; exact e
 have hres:(results fn a.tmps).run P w'=.ok (aZ (β k).1 0 n n) w':=by
  show ((fn.results.mapM (hZ a.tmps)) >>= fun vs=>pure (if h:vs.size=1 then vs[0]else .tuple vs):Sem Value).run P w'=_;have q1:(hZ a.tmps (.tmp s)).run P w'=.ok (aZ (β k).1 0 n n) w':=by
   show (pure (a.tmps.getD s undef):Sem Value).run P w'=_;rw[show a.tmps.getD s undef=aZ (β k).1 0 n n by simp[e1,aZ]]; rfl
  have hm:(List.toArray <$> fn.results.toList.mapM (hZ a.tmps)).run P w'=.ok [aZ (β k).1 0 n n].toArray w':=by
   rw[hr];simp[List.mapM_cons,q1]
  rw[Array.mapM_eq_mapM_toList,Sem.run_bind,hm,Result.andThen_ok,Sem.run_pure];rfl
 exact⟨hA.defers,_,hres,(β k).1,rfl,q1,q2,hge,g1,g2,g6⟩
theorem TC {w0:World} {b bb N x y:Nat} (hN:N≤131072) (hO:Own w0 b [.q x]) (hb:bb<b) (hr:w0.rangeAt bb 0 (aB [At.q y])) (hx:x<RM) (hy:y<RM) :
  Calls prog 67 #[iI N,qK 89 [bZ b 0,bZ bb 0]] w0 (FW b w0 N (aR (el (fE x y)) 0 N) [.q (fE x y N)]):=by
 have hG:bH prog (qG prog) b w0:=(aY _).w _ _;have hT:∀n d:Nat,TabOkW prog dW b w0:=fun _ _=>bG.w _ _
 refine wB func67 (xs:=[.im (iI N),.im (qK 89 [bZ b 0,bZ bb 0])]) (vs:=[iI N,qK 89 [bZ b 0,bZ bb 0]]) (c:=eL) rfl (fun β _=>rfl) hO (Nat.le_of_ble_eq_true (by kernel_rfl)) (by decide) fun a w' hA' => ?_
 rw[JW];refine wp_seq (aA aG hT hG (Vx b _ _ _ N) trivial hA' fun a w' hA' => ?_);refine wp_seq (aA aG hT (Cr 8 N (aR (fun _=>[.q 0]) 0 N) _ _) (Vw b _ _ _ (aR (fun _=>[.q 0]) 0 N) N) ⟨Dj (t:=22) (e:=25) (z:=[.q 0]) (v:=.int .u64 0) (n:=4) (by8:=32) (by kernel_rfl) (by kernel_rfl) rfl CI (by omega) (by omega) (by omega),trivial⟩ hA' fun a w' hA' => ?_);refine wp_seq (wp_seq (aA aG hT hG (Vv b _ _ _ _ N) trivial hA' fun a w' hA' => ?_));refine wp_block ?_;rw[←QX (el (fE x y))]at hA';refine cE aG (fun i=>TA b w0.heap.size (qK 89 [bZ b 0,bZ bb 0]) [.q (fE x y i)] (tL (el (fE x y)) [.q 0] N i) N i) N (fun i hi => ?_) (.ex 0) (by simp) (TA b w0.heap.size (qK 89 [bZ b 0,bZ bb 0]) [.q (fE x y N)] (aR (el (fE x y)) 0 N) N N) ?_ hA' fun a w' hA' => ?_
 ·exact⟨_,_,_,_,Nd (i:=i) (Z:=tL (el (fE x y)) [.q 0] N (i+1)) hb hr hy,hT,Vy b _ bb y _ _ N i (fE x y i),bV hi,rfl,rfl,rfl,pK hx i,hb,rfl,hi,AR (f:=el (fE x y)) (c:=4) (fun _=>rfl) rfl hi (Nat.zero_add _),eT (k:=1) (by omega),trivial⟩
 ·rw[←QV (el (fE x y)) [.q 0] N];exact⟨_,_,_,_,hG,hT,Lv b _ _ _ _ N N,dI (Nat.le_refl _),trivial⟩
 ·show (cB (cB (cB eL))).wp _ _ _ _;exact aA aG hT hG (Bs b _ _ _ _ N N) trivial hA' fun a w' hA=>MA rfl hA (List.mem_of_getElem? (i:=0) rfl) (List.mem_of_getElem? (i:=1) rfl) (List.mem_of_getElem? (i:=2) rfl) (List.mem_of_getElem? (i:=3) rfl) (List.mem_of_getElem? (i:=4) rfl) (by omega)
theorem Holds.anew {nt base:Nat} {w0:World} {A:List Fact} {a:Act} {w:World} (h:Holds nt base w0 A a w) {w':World} (hb:Below base w0 w') (hs:Shape w w') (hh:base≤w'.heap.size) {d k b n:Nat} {l:List At} (hd:d<nt) (h1:base≤b) (h2:b<w'.heap.size) (h3:w'.rangeAt b 0 (aB l)) (h4:∀j,w'.frozen? ⟨b,j,none⟩=false) (hk:k≠nt) :
  Holds nt base w0 [.slot d (.sl k 0 n n),.row k true l] (a.put (some d) (aZ b 0 n n)) w':=by
 obtain⟨β,g1,g2,g3,gt⟩:=h.facts;refine⟨by rw[eS]; exact h.defers,by rw[dM]; exact h.size,hb,hh,fun j=>if j=nt then (0,0,0)else (b,0,0),fun φ hφ => ?_,fun k1 k2 o2 l1 l2 q1 q2 hne => ?_,fun k1 l1 q1=>Or.inr ?_,?_,fun p p1 p2 => ?_,gt.shape.trans hs⟩
 ·simp only[List.mem_cons,List.not_mem_nil,or_false]at hφ
  rcases hφ with rfl|rfl
  ·show (a.put (some d) _).tmps[d]?=_;rw[eW _ _ _ (by rw[h.size]; exact hd)];simp[AV.den,hk,aZ]
  ·refine⟨by simp[hk,h2],?_,fun _=>⟨by simp[hk,h1],by simp[hk],fun j=>by simp[hk,h4]⟩,fun h=>by cases h⟩;show w'.rangeAt (if k=nt then ((0,0,0):Bk)else (b,0,0)).1 (if k=nt then ((0,0,0):Bk)else (b,0,0)).2.1 _;rw[if_neg hk]; exact h3
 ·simp only[List.mem_cons,List.not_mem_nil,or_false,reduceCtorEq,false_or]at q1 q2;cases q1; cases q2; exact (hne rfl).elim
 ·show (if nt=nt then ((0,0,0):Bk)else (b,0,0)).1≤_;rw[if_pos rfl]; exact Nat.zero_le _
 ·show (if nt=nt then ((0,0,0):Bk)else (b,0,0)).1≤_;rw[if_pos rfl]; exact Nat.zero_le _
 ·exfalso;have h2:p.block<(if nt=nt then ((0,0,0):Bk)else (b,0,0)).1:=p2;rw[if_pos rfl]at h2;exact absurd h2 (Nat.not_lt_zero _)
def gU:Code:=(f70.body).getD .skip
theorem XQ:gU=.seq (cA gU) (.seq (cA (cB gU)) (.seq (.region 2 (aO (cA (cB (cB gU)))) false) .ret)):=by kernel_rfl
def LB (x y N:Nat):List Fact:=[.slot 2 (.im (iI N)),.slot 3 (.pt 3 0),.row 3 true [.q x],.slot 4 (.pt 4 0),.row 4 true [.q y]]
theorem Qv (x y N:Nat):aH prog (qG prog) f70.ntmps (cG fun _=>none) 40 (cA gU) (eF 0 [.v (.fl [.q x]),.v (.fl [.q y]),.v (.im (iI N))]) (LB x y N)=some ([],.nrm,LB x y N):=by kernel_rfl
def Xi (x N b4:Nat):List Fact:=[.slot 2 (.im (iI N)),.slot 4 (.im (bZ b4 0)),.slot 7 (.pt 7 0),.row 7 true [.q x]]
theorem Qu (w:World) (x N b3 b4:Nat):aH prog { qG prog with x:=xO w (fun _=>none) (aE [(8,[.q x])]) (fun _=>none) } f70.ntmps (cG fun _=>none) 40 (cA (cB gU)) (oD [(2,.im (iI N)),(3,.im (bZ b3 0)),(4,.im (bZ b4 0))]) (Xi x N b4)=some ([oldOf w b3 0 [.q x],cR [.q x]=4],.nrm,Xi x N b4):=by kernel_rfl
def Mk (x N b4 b7:Nat):List Fact:=[.slot 9 (.im (iI N)),.slot 10 (.im (qK 89 [bZ b7 0,bZ b4 0])),.at 7 b7,.row 7 true [.q x]]
theorem Qt (x N b4 b7:Nat):dR prog (qG prog) f70.ntmps bX ((aO (cA (cB (cB gU)))).extract 0 2) (.at 7 b7::Xi x N b4) (Mk x N b4 b7)=some ([],Mk x N b4 b7):=by kernel_rfl
theorem Qs (N:Nat) (l:List At):dR prog (qG prog) f70.ntmps bX ((aO (cA (cB (cB gU)))).extract 3 4) [.slot 11 (.sl 1000 0 N N),.row 1000 true l] [.slot 6 (.sl 1000 0 N N),.row 1000 true l]=some ([],[.slot 6 (.sl 1000 0 N N),.row 1000 true l]):=by kernel_rfl
theorem LA {w0:World} {N x y:Nat} (hN:N≤131072) (hx:x<RM) (hy:y<RM) :
  Calls prog 70 #[.agg (aB [At.q x]).toArray,.agg (aB [At.q y]).toArray,iI N] w0 (fun e w'=>FR.ok ⟨aR (el (fE x y)) 0 N,N,N,[]⟩ w0 e w'):=by
 have hG:bH prog (qG prog) w0.heap.size w0:=(aY _).w _ _;have hT:∀n d:Nat,TabOkW prog dW w0.heap.size w0:=fun _ _=>bG.w _ _
 refine bJ func70 (cs:=[.v (.fl [.q x]),.v (.fl [.q y]),.v (.im (iI N))]) (args:=[.agg (aB [At.q x]).toArray,.agg (aB [At.q y]).toArray,iI N]) (c:=gU) rfl ⟨rfl,rfl,rfl,trivial⟩ (Nat.le_of_ble_eq_true (by kernel_rfl)) fun a w1 hA => ?_
 rw[XQ];refine wp_seq (aA aG hT hG (Qv x y N) trivial hA fun a w1 hA => ?_);obtain⟨b3,hA⟩:=hA.at (k:=3) (l:=[.q x]) (by simp[LB]);obtain⟨b4,hA⟩:=hA.at (k:=4) (l:=[.q y]) (by simp[LB]);have o3:oldOf w1 b3 0 [.q x]:=hA.old (k:=3) (by simp[LB]) (by simp[LB]);have o4:oldOf w1 b4 0 [.q y]:=hA.old (k:=4) (by simp[LB]) (by simp[LB]);have hF:=hA.fresh [(2,.im (iI N)),(3,.im (bZ b3 0)),(4,.im (bZ b4 0))] (fun z hz=>by
  simp only[List.mem_cons,List.not_mem_nil,or_false]at hz
  rcases hz with rfl|rfl|rfl
  ·exact hA.slot (v:=iI N) (by simp[LB])
  ·exact hA.ptr (s:=3) (k:=3) (by simp[LB]) (by simp[LB])
  ·exact hA.ptr (s:=4) (k:=4) (by simp[LB]) (by simp[LB]))
 have hb1:=hA.below;clear hA;refine wp_seq (aA aG (fun _ _=>bG.w _ _) (cW w1 _ _ _) (Qu w1 x N b3 b4) ⟨o3,rfl,trivial⟩ hF fun a w2 hA => ?_);obtain⟨b7,hA⟩:=hA.at (k:=7) (l:=[.q x]) (by simp[Xi]);refine wp_seq (cD (l:=List.range' 0 ((aO (cA (cB (cB gU)))).extract 0 2).size++(2::(List.range' 3 ((aO (cA (cB (cB gU)))).extract 3 4).size++[]))) (by kernel_rfl) ?_);refine aL (c:=bX) (fun _=>bG.w _ _) ((aY _).w _ _) (Qt x N b4 b7) trivial (by kernel_rfl) hA fun a w3 hA => ?_
 have h9:=hA.slot (s:=9) (v:=iI N) (by simp[Mk]);have h10:=hA.slot (s:=10) (v:=qK 89 [bZ b7 0,bZ b4 0]) (by simp[Mk]);obtain⟨hO,hge⟩:Own w3 b7 [.q x]∧w1.heap.size≤b7:=by
  obtain⟨β,g1,_⟩:=hA.facts;obtain⟨q1,q2,q3,_⟩:=g1 (.row 7 true [.q x]) (by simp[Mk]);obtain⟨q4,q5,q6⟩:=q3 rfl;obtain⟨q7,q8⟩:=g1 (.at 7 b7) (by simp[Mk]);rw[q7]at q1 q2 q4;rw[q5]at q2;exact⟨⟨q1,q2,fun j=>by rw[←q7]; exact q6 j⟩,q4⟩
 have hlt4:b4<b7:=Nat.lt_of_lt_of_le o4.1 hge;obtain⟨o,ho,hoo,hod,hog⟩:∃o,(aO (cA (cB (cB gU))))[2]?=some o∧(∃ts,o.op=.call ⟨.value (.func 67),#[.tmp 9,.tmp 10],ts⟩)∧o.dst=some 11∧o.guard=none:=⟨_,rfl,⟨_,rfl⟩,rfl,rfl⟩
 obtain⟨ts,hoo⟩:=hoo;refine dJ ho hog (nC hoo (vs:=[iI N,qK 89 [bZ b7 0,bZ b4 0]]) (by simp[Act.eval,h9,h10]) (fun args=>bK func67 (by kernel_rfl) (by kernel_rfl) args _) (TC hN hO hlt4 (cI hA.below o4.1 o4.2) hx hy) fun e w4 hr => ?_);obtain⟨b2,rfl,hw,_,r2,r3,r4,r5⟩:=hr;refine⟨_,rfl,?_⟩;rw[hod];have hge2:w1.heap.size≤b2:=Nat.le_trans hA.below.size r2;have hA:=hA.anew (d:=11) (k:=1000) (n:=N) (hA.below.trans (hw.below.mono hge)) hw.shape (Nat.le_trans hge2 (Nat.le_of_lt r3)) (by decide) hge2 r3 r4 r5 (by decide);refine aL (c:=bX) (fun _=>bG.w _ _) ((aY _).w _ _) (Qs N _) trivial (by kernel_rfl) hA fun a w5 hA => ?_
 exact wp_ret (cH (fA (r:=⟨aR (el (fE x y)) 0 N,N,N,[]⟩) (by kernel_rfl) hA) fun e w h=>h.older hb1)
def ZT:List CA→Option (List Prop×FR)
 | [.v (.fl l),.v (.fl m),.v (.im (.int .i64 (.ofNat n)))]=>match jQ l,jQ m with
  | some x,some y=>some ([x<RM,y<RM,n≤131072],⟨aR (el (fE x y)) 0 n,n,n,[]⟩)
  | _,_=>none
 | _=>none
theorem JB:∀cs pre r,ZT cs=some (pre,r)→aQ pre→∀(args:List Value) (w:World),cF w cs args→Calls prog 70 args.toArray w (fun e w'=>r.ok w e w'):=by
 intro cs pre r hg hp args w ha;unfold ZT at hg;split at hg
 ·rename_i l m n;split at hg
  ·rename_i x y hx hy;cases hg
   match args,ha with
   | [u,v,t],ha =>
    obtain⟨h1,h2,h3,_⟩:=ha;have h1:u=.agg (aB l).toArray:=h1;have h2:v=.agg (aB m).toArray:=h2;have h3:t=iI n:=h3;rw[bL l x hx]at h1;rw[bL m y hy]at h2;subst h1; subst h2; subst h3;exact LA hp.2.2.1 hp.1 hp.2.1
   | [],ha=>exact ha.elim
   | [_],ha=>exact ha.2.elim
   | [_,_],ha=>exact ha.2.2.elim
   | _::_::_::_::_,ha=>exact ha.2.2.2.elim
  ·cases hg
 ·cases hg
def DA (f:Nat→Nat) (x y i:Nat):Nat:=cS (f i) (fE x y i)
theorem VR (w:World) (b o N m i x y b3 b7 b12:Nat):eU prog { qG prog with x:=xO w (aE [(7,i),(11,i)]) (aE [(8,[.q x]),(12,[.q y])]) (aE [(5,aZ b o N m),(9,aZ b12 0 N N)]) } (cG fun _=>none) f72 60 [.v (.im (iI i)),.v (.im (bZ b3 0)),.v (.im (bZ b7 0))]=some ([oldOf w b3 0 [.c (aZ b o N m)],Int.ofNat i=Int.ofNat i,i<N,oldOf w b (o+i*4) [.q x],cR [.q x]=4,oldOf w b7 0 [.c (aZ b12 0 N N)],Int.ofNat i=Int.ofNat i,i<N,oldOf w b12 (0+i*4) [.q y],cR [.q y]=4,x<RM,y<RM],.one (.fl [.q (cS x y)])):=by kernel_rfl
def iF:Code:=(f35.body).getD .skip
theorem UJ:iF=.seq (cA iF) (.seq (.region 1 (aO (cA (cB iF))) false) (cB (cB iF))):=by kernel_rfl
def Yi (v:Value) (x y:Nat):List Fact:=[.slot 3 (.pt 3 0),.row 3 true [.c v],.slot 4 (.pt 4 0),.row 4 true [.q x],.slot 5 (.pt 5 0),.row 5 true [.q y]]
theorem Nj (p:Option Addr) (N m x y:Nat):aH prog (qG prog) f35.ntmps (cG fun _=>none) 40 (cA iF) (eF 0 [.v (.im (.slice p N m)),.v (.fl [.q x]),.v (.fl [.q y])]) (Yi (.slice p N m) x y)=some ([],.nrm,Yi (.slice p N m) x y):=by kernel_rfl
def Nk (v:Value) (N:Nat) (l:List At):List Fact:=[.slot 3 (.pt 3 0),.row 3 true [.c v],.slot 12 (.sl 12 0 N N),.row 12 true l]
def Xd:Tab2:=rG.add 70 ZT
theorem Cm (w:World):FrAt prog Xd w:=(FrAt.none _ _).add func70 (by kernel_rfl) (by kernel_rfl) fun cs pre r h1 h2 args ha=>JB cs pre r h1 h2 args w ha
def ND (T2:Tab2):Ext:={ Ext.none with T2:=T2,T3:=KG,T4:=KB,T5:=KE,T6:=KF }
theorem jG {base:Nat} {w:World} {T2:Tab2} (h:∀w',Below base w w'→FrAt prog T2 w'):bH prog { qG prog with x:=ND T2 } base w :=
 ⟨(aY _).1,fL (fun b o l h=>h.elim) h (fun w' _=>FsAt.none _ _)⟩
theorem Ni (p:Option Addr) (N m x y:Nat):dR prog { qG prog with x:=ND Xd } f35.ntmps bX ((aO (cA (cB iF))).extract 0 5) (Yi (.slice p N m) x y) (Nk (.slice p N m) N (aR (el (fE x y)) 0 N))=some ([x<RM,y<RM,N≤131072],Nk (.slice p N m) N (aR (el (fE x y)) 0 N)):=by kernel_rfl
def TX (v:Value) (N b12:Nat) (l:List At):List Fact:=[.at 12 b12,.slot 3 (.pt 3 0),.row 3 true [.c v],.row 12 true l,.slot 7 (.pt 7 0),.row 7 true [.c (aZ b12 0 N N)]]
theorem Nh (v:Value) (N b12:Nat) (l:List At):dR prog (qG prog) f35.ntmps bX ((aO (cA (cB iF))).extract 5 7) (.slot 12 (.im (aZ b12 0 N N)) :: .at 12 b12::Nk v N l) (TX v N b12 l)=some ([],TX v N b12 l):=by kernel_rfl
theorem Ng (w:World) (p:Option Addr) (N m b3 b7:Nat) (g:Nat→Nat):aH prog { qG prog with x:=xB w (aE [(13,.slice p N m)]) (rG.add 67 (RR 72 [bZ b3 0,bZ b7 0] N g)) } f35.ntmps (cG fun _=>none) 40 (cB (cB iF)) (oD [(3,.im (bZ b3 0)),(7,.im (bZ b7 0))]) [.slot 6 (.sl 16 0 N N),.row 16 true (aR (el g) 0 N)]=some ([oldOf w b3 0 [.c (.slice p N m)],iI N=iI N,qK 72 [bZ b3 0,bZ b7 0]=qK 72 [bZ b3 0,bZ b7 0]],.rt,[.slot 6 (.sl 16 0 N N),.row 16 true (aR (el g) 0 N)]):=by kernel_rfl
theorem zF {w0:World} {v:Value} {N x y:Nat} {f:Nat→Nat} (hv:LV w0 v N f) (hN:N≤131072) (hf:bT N f) (hx:x<RM) (hy:y<RM) :
  Calls prog 35 #[v,.agg (aB [At.q x]).toArray,.agg (aB [At.q y]).toArray] w0 (fun e w'=>FR.ok ⟨aR (el (DA f x y)) 0 N,N,N,[]⟩ w0 e w'):=by
 have hG:bH prog (qG prog) w0.heap.size w0:=(aY _).w _ _;have hT:∀n d:Nat,TabOkW prog dW w0.heap.size w0:=fun _ _=>bG.w _ _
 obtain⟨p,m,rfl,hm,h256,hmem⟩:=id hv;refine bJ func35 (cs:=[.v (.im (.slice p N m)),.v (.fl [.q x]),.v (.fl [.q y])]) (args:=[.slice p N m,.agg (aB [At.q x]).toArray,.agg (aB [At.q y]).toArray]) (c:=iF) rfl ⟨rfl,rfl,rfl,trivial⟩ (Nat.le_of_ble_eq_true (by kernel_rfl)) fun a w1 hA => ?_
 rw[UJ];refine wp_seq (aA aG hT hG (Nj p N m x y) trivial hA fun a w1 hA => ?_);refine wp_seq (cD (l:=List.range' 0 ((aO (cA (cB iF))).extract 0 5).size++(List.range' 5 ((aO (cA (cB iF))).extract 5 7).size++[])) (by kernel_rfl) ?_);refine aL (c:=bX) (hT 0) (jG fun w' _=>Cm w') (Ni p N m x y) ⟨hx,hy,hN,trivial⟩ (by kernel_rfl) hA fun a w1 hA => ?_
 obtain⟨b12,hA⟩:=hA.at (k:=12) (l:=aR (el (fE x y)) 0 N) (by simp[Nk]);have hA:=hA.im (s:=12) (k:=12) (o:=0) (n:=N) (m:=N) (b:=b12) (by simp[Nk]) (by simp);refine aL (c:=bX) (hT 0) hG (Nh _ N b12 _) trivial (by kernel_rfl) hA fun a w2 hA => ?_
 have o12:oldOf w2 b12 0 (aR (el (fE x y)) 0 N):=hA.old (k:=12) (by simp[TX]) (by simp[TX]);obtain⟨b3,hA⟩:=hA.at (k:=3) (l:=[.c (.slice p N m)]) (by simp[TX]);obtain⟨b7,hA⟩:=hA.at (k:=7) (l:=[.c (aZ b12 0 N N)]) (by simp[TX]);have o3:oldOf w2 b3 0 [.c (.slice p N m)]:=hA.old (k:=3) (by simp[TX]) (by simp);have o7:oldOf w2 b7 0 [.c (aZ b12 0 N N)]:=hA.old (k:=7) (by simp[TX]) (by simp);have hF:=hA.fresh [(3,.im (bZ b3 0)),(7,.im (bZ b7 0))] (fun z hz=>by
  simp only[List.mem_cons,List.not_mem_nil,or_false]at hz
  rcases hz with rfl|rfl
  ·exact hA.ptr (s:=3) (k:=3) (by simp[TX]) (by simp)
  ·exact hA.ptr (s:=7) (k:=7) (by simp[TX]) (by simp))
 refine aA aG (fun _ _=>bG.w _ _) (GT fun w3 hw => ?_) (Ng w2 p N m b3 b7 (DA f x y)) ⟨o3,rfl,rfl,trivial⟩ hF fun a w4 hA2 => ?_
 ·refine (FrAt.none _ _).add func67 (by kernel_rfl) (by kernel_rfl) (yJ hN (fun args w=>bK func72 (by kernel_rfl) (by kernel_rfl) args w) fun i hi w5 hw5 => ?_);obtain⟨b,o,rfl,hb,hr⟩:=hmem (by omega);have hw25:=hw.trans (hw5.mono hw.size);have hb5:=hA.below.trans (hw25.mono hA.below.size);have q3:=oldOf.go hw25 (Nat.le_refl _) o3;have q7:=oldOf.go hw25 (Nat.le_refl _) o7;have Zm:=oldOf.go hw25 (Nat.le_refl _) o12;exact bQ aG (fun _ _=>bG.w _ _) (cW w5 _ _ _) func72 (VR w5 b o N m i (f i) (fE x y i) b3 b7 b12) ⟨q3,rfl,hi,dU (Nat.lt_of_lt_of_le hb hb5.size) (cI hb5 hb hr) hi,rfl,q7,rfl,hi,dU Zm.1 Zm.2 hi,rfl,hf i hi,pK hx i,trivial⟩ (args:=[iI i,bZ b3 0,bZ b7 0]) ⟨rfl,rfl,rfl,trivial⟩
 ·exact cH (fA (r:=⟨aR (el (DA f x y)) 0 N,N,N,[]⟩) (by kernel_rfl) hA2) fun e w h=>h.older hA.below
def TH (nt b N:Nat) (l lt:List At) (xs:List AV):List Fact:=.row 0 true l :: .at 0 b :: .at nt N :: .row 1 false lt::CT 0 xs
theorem MD {P:Program} {w:World} {R:Ending→World→Prop} {f:FuncId} {fn:Func} (hf:P.funcs[f]?=some fn) {c:Code} (hb:fn.body=some c) {b bt ot:Nat} {l lt:List At} {xs:List AV} {vs:List Value} (hx:∀β:Nat→Bk,β 0=(b,0,0)→β 1=(bt,ot,0)→xs.map (AV.den β)=vs) (hO:Own w b l) (hbt:bt<w.heap.size) (hrt:w.rangeAt bt ot (aB lt)) (hne:bt≠b) (hn:xs.length≤fn.ntmps) (h0n:1<fn.ntmps)
  (h:∀a w',Holds fn.ntmps b w (TH fn.ntmps b w.heap.size l lt xs) a w'→c.wp P (bodyPost P fn R) a w'):Calls P f vs.toArray w R:=by
 refine calls_of_wp hf hb (h _ _ ?_);have hlen:vs.length=xs.length:=by rw[←hx (fun j=>if j=0 then (b,0,0)else (bt,ot,0)) rfl rfl,List.length_map]
 have hg:∀j u,vs[j]?=some u→(vs.toArray++Array.replicate (fn.ntmps-vs.toArray.size) undef)[j]?=some u:=fun j u hj=>by
  have hlt:=(List.getElem?_eq_some_iff.1 hj).1;rw[Array.getElem?_append_left (by simpa using hlt)];simpa using hj
 obtain⟨β,hz,hz1,hz2⟩:∃β:Nat→Bk,β 0=(b,0,0)∧β 1=(bt,ot,0)∧β fn.ntmps=(w.heap.size,0,0) :=
  ⟨fun k=>if k=fn.ntmps then (w.heap.size,0,0)else if k=1 then (bt,ot,0)else (b,0,0),by simp; omega,by simp; omega,by simp⟩
 have h0:∀k o l0,Fact.row k o l0∈TH fn.ntmps b w.heap.size l lt xs→(k=0∧o=true)∨(k=1∧o=false):=fun k o l0 hk=>by
  simp only[TH,List.mem_cons,reduceCtorEq,false_or]at hk
  rcases hk with hk|hk|hk
  ·cases hk; exact Or.inl ⟨rfl,rfl⟩
  ·cases hk; exact Or.inr ⟨rfl,rfl⟩
  ·exact (pV xs 0 k o l0 hk).elim
 refine⟨rfl,by simp; omega,Below.refl _ _,Nat.le_of_lt hO.lt,β,fun φ hφ => ?_,fun k k' o' l1 l2 h1 h2 hne2 => ?_,fun k l1 h1=>Or.inl ?_,by rw[hz2]; exact Nat.le_refl _,fun p q1 q2=>⟨rfl,rfl⟩,Shape.refl _⟩
 ·simp only[TH,List.mem_cons]at hφ
  rcases hφ with rfl|rfl|rfl|rfl|hφ
  ·exact⟨by rw[hz]; exact hO.lt,by rw[hz]; exact hO.row,fun _=>⟨by rw[hz]; exact Nat.le_refl _,by rw[hz],by rw[hz]; exact hO.free⟩,fun h=>by cases h⟩
  ·exact⟨by rw[hz],by rw[hz]⟩
  ·exact⟨by rw[hz2],by rw[hz2]⟩
  ·exact⟨by rw[hz1]; exact hbt,by rw[hz1]; exact hrt,fun h=>(by cases h),fun _=>trivial⟩
  ·refine uN _ _ xs 0 (fun j v hj => ?_) φ hφ;rw[Nat.zero_add];exact hg j _ (by rw[←hx β hz hz1,List.getElem?_map,hj]; rfl)
 ·rcases h0 k true l1 h1 with⟨rfl,_⟩|⟨_,e⟩
  ·rcases h0 k' o' l2 h2 with⟨rfl,_⟩|⟨rfl,_⟩
   ·exact (hne2 rfl).elim
   ·rw[hz,hz1]; exact Ne.symm hne
  ·cases e
 ·rcases h0 k true l1 h1 with⟨rfl,_⟩|⟨_,e⟩
  ·rw[hz]
  ·cases e
def lF (f:Nat→Nat) (lo hi step:Nat) (tw:Nat→Nat):Nat→Nat→Nat
 | 0=>f
 | j+1=>cN (cN (lF f lo hi step tw j) (lo+j) (jB (lF f lo hi step tw j (lo+j)) (cS (lF f lo hi step tw j (hi+j)) (tw (j*step))))) (hi+j) (lV (lF f lo hi step tw j (lo+j)) (cS (lF f lo hi step tw j (hi+j)) (tw (j*step))))
theorem GC {N lo hi step:Nat} {f tw:Nat→Nat} (h:bT N f):∀j,bT N (lF f lo hi step tw j)
 | 0=>h
 | j+1=>fun i hi2=>by
  unfold lF cN;split
  ·exact iK _ _
  ·split
   ·exact nM _ _
   ·exact GC h j i hi2
def uE:Code:=(f71.body).getD .skip
def GD:Code:=gH (gH (cB uE))
theorem Ba:uE=.seq (cA uE) (.block 0 (.loop GD)):=by kernel_rfl
def UH (b N0:Nat) (Z lt:List At) (o1 o2 h c1 c2 T step j:Nat):List Fact:=[.row 0 true Z,.at 0 b,.at f71.ntmps N0,.row 1 false lt,.slot 0 (.sl 0 o1 h c1),.slot 1 (.sl 0 o2 h c2),.slot 2 (.sl 1 0 T T),.slot 3 (.im (iI step)),.slot 11 (.im (iI h)),.slot 12 (.im (iI j))]
theorem Uv (b N0:Nat) (Z lt:List At) (o1 o2 h c1 c2 T step:Nat):aH prog (qG prog) f71.ntmps (cG fun _=>none) 40 (cA uE) (TH f71.ntmps b N0 Z lt [.sl 0 o1 h c1,.sl 0 o2 h c2,.sl 1 0 T T,.im (iI step)]) (UH b N0 Z lt o1 o2 h c1 c2 T step 0)=some ([],.nrm,UH b N0 Z lt o1 o2 h c1 c2 T step 0):=by kernel_rfl
theorem Uw (b N0:Nat) (Z Z1 Z2 lt:List At) (o1 o2 h c1 c2 T step j x y t:Nat):aH prog { qG prog with x:=xA (aE [(17,j),(23,j*step),(32,j),(38,j),(42,j),(43,j)]) (aE [(18,[.q y]),(24,[.q t]),(33,[.q x]),(39,[.q x])]) (aE [(42,Z1),(43,Z2)]) (fun _=>none) } f71.ntmps (cG (aE [(13,.bool true),(22,iI (j*step)),(44,iI (j+1))])) 60 GD (UH b N0 Z lt o1 o2 h c1 c2 T step j) (UH b N0 Z2 lt o1 o2 h c1 c2 T step (j+1)) =
  some ([aD .lss .i64 (Int.ofNat j) (Int.ofNat h)=some (.bool true),Int.ofNat j=Int.ofNat j,j<h,sL Z (o2+j*4) 4=some [.q y],aD .mul .i64 (Int.ofNat j) (Int.ofNat step)=some (iI (j*step)),Int.ofNat (j*step)=Int.ofNat (j*step),j*step<T,sL lt (0+j*step*4) 4=some [.q t],y<RM,t<RM,Int.ofNat j=Int.ofNat j,j<h,sL Z (o1+j*4) 4=some [.q x],x<RM,cS y t<RM,Int.ofNat j=Int.ofNat j,j<h,sL Z (o1+j*4) 4=some [.q x],x<RM,cS y t<RM,Int.ofNat j=Int.ofNat j,j<h,put Z (o1+j*4) [.q (jB x (cS y t))]=some Z1,Int.ofNat j=Int.ofNat j,j<h,put Z1 (o2+j*4) [.q (lV x (cS y t))]=some Z2,aD .add .i64 (Int.ofNat j) 1=some (iI (j+1))],.nrm,UH b N0 Z2 lt o1 o2 h c1 c2 T step (j+1)):=by kernel_rfl
theorem Lc (b N0:Nat) (Z lt:List At) (o1 o2 h c1 c2 T step j:Nat):aH prog (qG prog) f71.ntmps (cG (aE [(13,.bool false)])) 60 GD (UH b N0 Z lt o1 o2 h c1 c2 T step j) (UH b N0 Z lt o1 o2 h c1 c2 T step j)=some ([aD .lss .i64 (Int.ofNat j) (Int.ofNat h)=some (.bool false)],.ex 0,UH b N0 Z lt o1 o2 h c1 c2 T step j):=by kernel_rfl
theorem wZ {f:Nat→Nat} {N i o:Nat} (hi:i<N) (ho:o=i*4):sL (aR (el f) 0 N) o 4=some [.q (f i)]:=wY (f:=el f) (c:=4) (fun _=>rfl) hi ho
theorem PI {f:Nat→Nat} {N i o x:Nat} (hi:i<N) (ho:o=i*4):put (aR (el f) 0 N) o [.q x]=some (aR (el (cN f i x)) 0 N):=by
 have:=PH (f:=f) (x:=x) hi;rw[Nat.zero_add,←ho]at this;exact this
theorem nD {f:Nat→Nat} {i j x:Nat} (h:j≠i):cN f i x j=f j:=if_neg h
theorem SQ {w:World} {b bt ot N lo h c1 c2 step T:Nat} {f tw:Nat→Nat} (hO:Own w b (aR (el f) 0 N)) (hbt:bt<w.heap.size) (hrt:w.rangeAt bt ot (aB (aR (el tw) 0 T))) (hne:bt≠b) (hN:lo+h+h≤N) (hN2:N≤131072) (hf:bT N f) (htw:bT T tw) (hst:∀j,j<h→j*step<T) (hT:T≤131072) :
  Calls prog 71 #[aZ b (lo*4) h c1,aZ b ((lo+h)*4) h c2,aZ bt ot T T,iI step] w (uP b w (.many []) (aR (el (lF f lo (lo+h) step tw h)) 0 N)):=by
 have hG:bH prog (qG prog) b w:=(aY _).w _ _;have hTb:∀n d:Nat,TabOkW prog dW b w:=fun _ _=>bG.w _ _
 refine MD func71 (xs:=[.sl 0 (lo*4) h c1,.sl 0 ((lo+h)*4) h c2,.sl 1 0 T T,.im (iI step)]) (vs:=[aZ b (lo*4) h c1,aZ b ((lo+h)*4) h c2,aZ bt ot T T,iI step]) (bt:=bt) (ot:=ot) (c:=uE) rfl (fun β e0 e1=>by simp[AV.den,e0,e1,aZ]) hO hbt hrt hne (Nat.le_of_ble_eq_true (by kernel_rfl)) (by decide) fun a w' hA => ?_
 rw[Ba];refine wp_seq (aA aG hTb hG (Uv b _ _ _ _ _ h c1 c2 T step) trivial hA fun a w' hA => ?_);refine wp_block ?_;refine cE aG (fun j=>UH b w.heap.size (aR (el (lF f lo (lo+h) step tw j)) 0 N) (aR (el tw) 0 T) (lo*4) ((lo+h)*4) h c1 c2 T step j) h (fun j hj => ?_) (.ex 0) (by simp) (UH b w.heap.size (aR (el (lF f lo (lo+h) step tw h)) 0 N) (aR (el tw) 0 T) (lo*4) ((lo+h)*4) h c1 c2 T step h) ⟨_,_,_,_,hG,hTb,Lc b _ _ _ _ _ h c1 c2 T step h,dI (Nat.le_refl _),trivial⟩ hA fun a w1 hA => ?_
 ·have hlt:=GC (N:=N) (lo:=lo) (hi:=lo+h) (step:=step) (tw:=tw) hf j;have h1:lo+j<N:=by omega
  have h2:lo+h+j<N:=by omega
  have h3:=hst j hj;have hu:=nD (f:=lF f lo (lo+h) step tw j) (i:=lo+j) (x:=jB (lF f lo (lo+h) step tw j (lo+j)) (cS (lF f lo (lo+h) step tw j (lo+h+j)) (tw (j*step)))) (j:=lo+h+j) (by omega);exact⟨_,_,_,_,GU _ _ _ _ _ _,hTb,Uw b _ _ (aR (el (cN (lF f lo (lo+h) step tw j) (lo+j) (jB (lF f lo (lo+h) step tw j (lo+j)) (cS (lF f lo (lo+h) step tw j (lo+h+j)) (tw (j*step)))))) 0 N) _ _ (lo*4) ((lo+h)*4) h c1 c2 T step j (lF f lo (lo+h) step tw j (lo+j)) (lF f lo (lo+h) step tw j (lo+h+j)) (tw (j*step)),
   bV hj,rfl,hj,wZ h2 (by omega),IK (by omega),rfl,h3,wZ h3 (Nat.zero_add _),hlt _ h2,htw _ h3,rfl,hj,wZ h1 (by omega),hlt _ h1,cL _ _,rfl,hj,wZ h1 (by omega),hlt _ h1,cL _ _,rfl,hj,PI h1 (by omega),rfl,hj,PI h2 (by omega),eT (k:=1) (by omega),trivial⟩
 ·obtain⟨q1,q2⟩:=hA.wrc (List.mem_of_getElem? (i:=0) rfl) (List.mem_of_getElem? (i:=1) rfl) (List.mem_of_getElem? (i:=2) rfl);have hres:(results f71 a.tmps).run prog w1=.ok (.tuple #[]) w1:=by
   show ((f71.results.mapM (hZ a.tmps)) >>= fun vs=>pure (if h:vs.size=1 then vs[0]else .tuple vs):Sem Value).run prog w1=_;have hr:f71.results = #[]:=rfl;rw[hr];simp
  exact⟨hA.defers,.tuple #[],hres,rfl,q1,q2⟩
end Go.Proofs.Ytjjnbgoepbiojaa.Ex
