/- Pb05 -/
import Derived.Shelf.Spec.TrailingZeros
import Derived.Test.YtiginhbnaloghaaPb04
import Derived.Test.YtiginhbnaloghaaPb03
import Derived.Test.YtiginhbnaloghaaProg
set_option maxRecDepth 100000
set_option linter.unusedVariables false
set_option linter.unusedSimpArgs false
set_option linter.unnecessarySimpa false
noncomputable section
namespace Go.Proofs.Ytiginhbnaloghaa.Ex
open Go.Proofs.Try
open Go.RowKit
def hd (vs:Nat→Value) (j:Nat):List At:=[.c (vs j)]
def HV (w:World) (v:Value) (K:Nat) (vs:Nat→Value):Prop:=∃b o m,v=.slice (some ⟨b,o,none⟩) K m∧b<w.heap.size∧w.rangeAt b o (aC (aV (hd vs) 0 K))
theorem rG {w:World} {b o N i:Nat} {f:Nat→Value} (hb:b<w.heap.size) (hr:w.rangeAt b o (aC (aV (hd f) 0 N))) (hi:i<N):oldOf w b (o+i*1) [.c (f i)] :=
 ⟨hb,pS (f:=hd f) (c:=1) (fun _=>rfl) hi hr⟩
def GI (v:Value) (N:Nat) (f:Nat→Nat):jN
 | [.v (.im u)]=>some ([u=v],.one (.im (.bool (decide (dD N f)))))
 | _=>none
theorem NL {w:World} {v:Value} {N:Nat} {f:Nat→Nat} (hv:LV w v N f) (hN:N≤4611686018427387904):∀cs pre r,GI v N f cs=some (pre,r)→aO pre→∀(args:List Value),cG w cs args→Good prog 81 r args w:=by
 intro cs pre r hg hp args ha;unfold GI at hg;split at hg
 ·cases hg
  match args,ha with
  | [u],ha =>
   have h1:u=_:=ha.1;have h2:=hp.1;subst h1;subst h2;exact IW hv hN
  | [],ha=>exact ha.elim
  | _::_::_,ha=>exact ha.2.elim
 ·cases hg
def xT (v:Value) (K i:Nat):List Fact:=[.slot 0 (.im v),.slot 7 (.im v),.slot 8 (.im (iI K)),.slot 9 (.im (iI i))]
def xR (v:Value) (K i:Nat):List Fact:=[.slot 17 (.im v),.slot 18 (.im (iI K)),.slot 19 (.im (iI i))]
def eJ:Code:=(f51.body).getD .skip
def kT:Code:=jM (jM (cB (cA (cB eJ))))
def kS:Code:=jM (jM (cB (cA (cB (cB eJ)))))
theorem OJ:eJ=.seq (cA eJ) (.seq (.seq (cA (cA (cB eJ))) (.block 0 (.loop kT))) (.seq (.seq (cA (cA (cB (cB eJ)))) (.block 2 (.loop kS))) (cB (cB (cB eJ))))):=by kernel_rfl
theorem Av (v:Value):aM prog (qG prog) f51.ntmps (bW fun _=>none) 40 (cA eJ) (eK 0 [.v (.im v)]) [.slot 0 (.im v)]=some ([],.nrm,[.slot 0 (.im v)]):=by kernel_rfl
theorem Au (p:Option Addr) (N m:Nat):aM prog (qG prog) f51.ntmps (bW fun _=>none) 40 (cA (cA (cB eJ))) [.slot 0 (.im (.slice p N m))] (xT (.slice p N m) N 0)=some ([],.nrm,xT (.slice p N m) N 0):=by kernel_rfl
theorem Aw (w:World) (b o K m i:Nat) (p:Option Addr) (n' m':Nat):aM prog { qG prog with x:=xO w (aE [(11,i)]) (fun _=>none) (aE [(12,.slice p n' m')]) } f51.ntmps (bW (aE [(10,.bool true),(15,.bool false),(16,iI (i+1))])) 40 kT (xT (aZ b o K m) K i) (xT (aZ b o K m) K (i+1))=some ([aD .lss .i64 (Int.ofNat i) (Int.ofNat K)=some (.bool true),Int.ofNat i=Int.ofNat i,i<K,oldOf w b (o+i*1) [.c (.slice p n' m')],aD .gtr .i64 (Int.ofNat n') 65536=some (.bool false),aD .add .i64 (Int.ofNat i) 1=some (iI (i+1))],.nrm,xT (aZ b o K m) K (i+1)):=by kernel_rfl
theorem Ax (w:World) (b o K m i:Nat) (p:Option Addr) (n' m':Nat):aM prog { qG prog with x:=xO w (aE [(11,i)]) (fun _=>none) (aE [(12,.slice p n' m')]) } f51.ntmps (bW (aE [(10,.bool true),(15,.bool true)])) 40 kT (xT (aZ b o K m) K i) [.slot 2 (.im (.int .i64 72))]=some ([aD .lss .i64 (Int.ofNat i) (Int.ofNat K)=some (.bool true),Int.ofNat i=Int.ofNat i,i<K,oldOf w b (o+i*1) [.c (.slice p n' m')],aD .gtr .i64 (Int.ofNat n') 65536=some (.bool true)],.rt,[.slot 2 (.im (.int .i64 72))]):=by kernel_rfl
theorem UR (v:Value) (K i:Nat):aM prog (qG prog) f51.ntmps (bW (aE [(10,.bool false)])) 40 kT (xT v K i) (xT v K i)=some ([aD .lss .i64 (Int.ofNat i) (Int.ofNat K)=some (.bool false)],.ex 0,xT v K i):=by kernel_rfl
theorem As (p:Option Addr) (N m i:Nat):aM prog (qG prog) f51.ntmps (bW fun _=>none) 40 (cA (cA (cB (cB eJ)))) (xT (.slice p N m) N i) (xR (.slice p N m) N 0)=some ([],.nrm,xR (.slice p N m) N 0):=by kernel_rfl
theorem UQ (w:World) (b o K m i:Nat) (u:Value) (N:Nat) (f:Nat→Nat):aM prog { qG prog with x:=xO w (aE [(21,i)]) (fun _=>none) (aE [(22,u)]) } f51.ntmps (fun _=>⟨fun _=>dO.add 81 (GI u N f),fun _=>true,aE [(20,.bool true),(25,.bool false),(26,iI (i+1))]⟩) 40 kS (xR (aZ b o K m) K i) (xR (aZ b o K m) K (i+1))=some ([aD .lss .i64 (Int.ofNat i) (Int.ofNat K)=some (.bool true),Int.ofNat i=Int.ofNat i,i<K,oldOf w b (o+i*1) [.c u],u=u,Value.bool (!decide (dD N f))=.bool false,aD .add .i64 (Int.ofNat i) 1=some (iI (i+1))],.nrm,xR (aZ b o K m) K (i+1)):=by kernel_rfl
theorem US (w:World) (b o K m i:Nat) (u:Value) (N:Nat) (f:Nat→Nat):aM prog { qG prog with x:=xO w (aE [(21,i)]) (fun _=>none) (aE [(22,u)]) } f51.ntmps (fun _=>⟨fun _=>dO.add 81 (GI u N f),fun _=>true,aE [(20,.bool true),(25,.bool true)]⟩) 40 kS (xR (aZ b o K m) K i) [.slot 2 (.im (.int .i64 21))]=some ([aD .lss .i64 (Int.ofNat i) (Int.ofNat K)=some (.bool true),Int.ofNat i=Int.ofNat i,i<K,oldOf w b (o+i*1) [.c u],u=u,Value.bool (!decide (dD N f))=.bool true],.rt,[.slot 2 (.im (.int .i64 21))]):=by kernel_rfl
theorem OI (v:Value) (K i:Nat):aM prog (qG prog) f51.ntmps (bW (aE [(20,.bool false)])) 40 kS (xR v K i) (xR v K i)=some ([aD .lss .i64 (Int.ofNat i) (Int.ofNat K)=some (.bool false)],.ex 2,xR v K i):=by kernel_rfl
theorem OH (v:Value) (K i:Nat):aM prog (qG prog) f51.ntmps (bW fun _=>none) 40 (cB (cB (cB eJ))) (xR v K i) [.slot 2 (.im (.int .i64 0))]=some ([],.rt,[.slot 2 (.im (.int .i64 0))]):=by kernel_rfl
def nL (K:Nat) (Ns:Nat→Nat):Prop:=∀j,j<K→Ns j≤65536
def oV (K:Nat) (Ns:Nat→Nat) (fs:Nat→Nat→Nat):Prop:=∀j,j<K→dD (Ns j) (fs j)
instance (K:Nat) (Ns:Nat→Nat):Decidable (nL K Ns):=Nat.decidableBallLT K fun j _=>Ns j≤65536
instance (K:Nat) (Ns:Nat→Nat) (fs:Nat→Nat→Nat):Decidable (oV K Ns fs):=Nat.decidableBallLT K fun j _=>dD (Ns j) (fs j)
def VX (K:Nat) (Ns:Nat→Nat) (fs:Nat→Nat→Nat):Int:=if nL K Ns then (if oV K Ns fs then 0 else 21)else 72
theorem ZO {n:Nat} (h:n≤65536):aD .gtr .i64 (Int.ofNat n) 65536=some (.bool false):=by
 have:=@nW n 65536;rw[decide_eq_false (by omega)]at this;exact this
theorem ZN {n:Nat} (h:¬n≤65536):aD .gtr .i64 (Int.ofNat n) 65536=some (.bool true):=by
 have:=@nW n 65536;rw[decide_eq_true (by omega)]at this;exact this
theorem uK {w0:World} {v:Value} {K:Nat} {vs:Nat→Value} {Ns:Nat→Nat} {fs:Nat→Nat→Nat} (hh:HV w0 v K vs) (hl:∀j,j<K→LV w0 (vs j) (Ns j) (fs j)) (hK:K≤64) (hB:∀j,j<K→Ns j≤4611686018427387904):Good prog 51 (.one (.im (.int .i64 (VX K Ns fs)))) [v] w0:=by
 obtain⟨b,o,m,rfl,hb,hr⟩:=hh;have hG:bH prog (qG prog) w0.heap.size w0:=(aW _).w _ _;have hT:∀n d:Nat,TabOkW prog dO w0.heap.size w0:=fun _ _=>bD.w _ _
 have hT2:∀i,i<K→∀n d:Nat,TabOkW prog (dO.add 81 (GI (vs i) (Ns i) (fs i))) w0.heap.size w0:=fun i hi _ _=>TabOkW.add (bD.w _ _) func81 (by kernel_rfl) (by kernel_rfl) (fun w hw=>NL ((hl i hi).on hw) (hB i hi))
 refine bP func51 (cs:=[.v (.im (aZ b o K m))]) (args:=[aZ b o K m]) (c:=eJ) rfl ⟨rfl,trivial⟩ (Nat.le_of_ble_eq_true (by kernel_rfl)) fun a w' hA => ?_
 rw[OJ];refine wp_seq (aA aK hT hG (Av _) trivial hA fun a w' hA => ?_);refine wp_seq (wp_seq (aA aK hT hG (Au _ K m) trivial hA fun a w' hA => ?_));refine wp_block ?_;have step:∀i,i<K→Ns i≤65536→Ok prog w0.heap.size w0 f51.ntmps kT (xT (aZ b o K m) K i) .nrm (xT (aZ b o K m) K (i+1)):=fun i hi hs=>by
  obtain⟨p,m',e,_⟩:=hl i hi;have ho:=rG hb hr hi;rw[e]at ho;exact⟨_,_,_,_,fK w0 _ _ _,hT,Aw w0 b o K m i p (Ns i) m',cZ hi,rfl,hi,ho,ZO hs,fF (k:=1) (by omega),trivial⟩
 unfold VX
 by_cases hs:nL K Ns
 ·rw[if_pos hs];refine dA aK (fun i=>xT (aZ b o K m) K i) K (fun i hi=>step i hi (hs i hi)) (.ex 0) (by simp) (xT (aZ b o K m) K K) ⟨_,_,_,_,hG,hT,UR _ K K,dZ (Nat.le_refl _),trivial⟩ hA fun a w hA => ?_
  refine wp_seq (wp_seq (aA aK hT hG (As _ K m K) trivial hA fun a w' hA => ?_));refine wp_block ?_;have step2:∀i,i<K→dD (Ns i) (fs i)→Ok prog w0.heap.size w0 f51.ntmps kS (xR (aZ b o K m) K i) .nrm (xR (aZ b o K m) K (i+1)):=fun i hi hs =>
   ⟨_,_,_,_,fK w0 _ _ _,hT2 i hi,UQ w0 b o K m i (vs i) (Ns i) (fs i),cZ hi,rfl,hi,rG hb hr hi,rfl,by rw[decide_eq_true hs]; rfl,fF (k:=1) (by omega),trivial⟩
  by_cases hl2:oV K Ns fs
  ·rw[if_pos hl2];refine dA aK (fun i=>xR (aZ b o K m) K i) K (fun i hi=>step2 i hi (hl2 i hi)) (.ex 2) (by simp) (xR (aZ b o K m) K K) ⟨_,_,_,_,hG,hT,OI _ K K,dZ (Nat.le_refl _),trivial⟩ hA fun a w hA => ?_
   show (cB (cB (cB eJ))).wp _ _ _ _;exact aA aK hT hG (OH _ K K) trivial hA fun a w' hA=>aY (l:=[.im (.int .i64 0)]) (r:=.one (.im (.int .i64 0))) (by kernel_rfl) (by kernel_rfl) hA
  ·rw[if_neg hl2];obtain⟨j,hj,h1,h2⟩:=fI (p:=fun j=>dD (Ns j) (fs j)) hl2;refine dA aK (fun i=>xR (aZ b o K m) K i) j (fun i hi=>step2 i (by omega) (h1 i hi)) .rt (by simp) [.slot 2 (.im (.int .i64 21))] ⟨_,_,_,_,fK w0 _ _ _,hT2 j hj,US w0 b o K m j (vs j) (Ns j) (fs j),cZ hj,rfl,hj,rG hb hr hj,rfl,by rw[decide_eq_false h2]; rfl,trivial⟩ hA fun a w hA => ?_
   exact aY (l:=[.im (.int .i64 21)]) (r:=.one (.im (.int .i64 21))) (by kernel_rfl) (by kernel_rfl) hA
 ·rw[if_neg hs];obtain⟨j,hj,h1,h2⟩:=fI (p:=fun j=>Ns j≤65536) hs;obtain⟨p,m',e,_⟩:=hl j hj;have ho:=rG hb hr hj;rw[e]at ho;refine dA aK (fun i=>xT (aZ b o K m) K i) j (fun i hi=>step i (by omega) (h1 i hi)) .rt (by simp) [.slot 2 (.im (.int .i64 72))] ⟨_,_,_,_,fK w0 _ _ _,hT,Ax w0 b o K m j p (Ns j) m',cZ hj,rfl,hj,ho,ZN h2,trivial⟩ hA fun a w hA => ?_
  exact aY (l:=[.im (.int .i64 72)]) (r:=.one (.im (.int .i64 72))) (by kernel_rfl) (by kernel_rfl) hA
def cF (f:Nat→Nat) (i x:Nat) (j:Nat):Nat:=if j=i then x else f j
theorem xQ {f g:Nat→List At}:∀(n s:Nat),(∀j,s≤j→j<s+n→f j=g j)→aV f s n=aV g s n
 | 0,s,h=>rfl
 | n+1,s,h=>by
  show f s++aV f (s+1) n=g s++aV g (s+1) n;rw[h s (Nat.le_refl _) (by omega),xQ n (s+1) fun j h1 h2=>h j (by omega) (by omega)]
theorem Ak {f g:Nat→Nat} {n:Nat} (h:∀j,j<n→f j=g j):aV (el f) 0 n=aV (el g) 0 n:=xQ n 0 fun j _ hj=>by unfold el; rw[h j (by omega)]
theorem EM {f:Nat→Nat} {N i x:Nat} (hi:i<N):put (aV (el f) 0 N) (0+i*4) [.q x]=some (aV (el (cF f i x)) 0 N):=by
 rw[jK (el f) i N 0 hi,jK (el (cF f i x)) i N 0 hi,yN (aV (el f) 0 i) (el f (0+i)) (aV (el f) (0+i+1) (N-i-1)) [.q x] (by rw[fS (c:=4) fun _=>rfl,Nat.zero_add]) rfl];congr 1;have h1:aV (el f) 0 i=aV (el (cF f i x)) 0 i:=Ak fun j hj=>by unfold cF; rw[if_neg (by omega)]
 have h2:aV (el f) (0+i+1) (N-i-1)=aV (el (cF f i x)) (0+i+1) (N-i-1):=xQ _ _ fun j hj _=>by unfold el cF; rw[if_neg (by omega)]
 rw[h1,h2];unfold el cF;rw[if_pos (Nat.zero_add i)]
theorem DS {f:Nat→Nat} {N i:Nat} (hi:i<N):pE (aV (el f) 0 N) (0+i*4) 4=some [.q (f i)]:=qQ (f:=el f) (c:=4) (fun _=>rfl) hi (Nat.zero_add _)
def xA (idx:Nat→Option Nat) (ld st:Nat→Option (List At)) (gen:Nat→Option Value):Ext:={ Ext.none with idx:=idx,ld:=ld,st:=st,gen:=gen,T2:=vD,T3:=CL,T4:=CI,T5:=CJ,T6:=CK }
theorem yD (idx:Nat→Option Nat) (ld st:Nat→Option (List At)) (gen:Nat→Option Value) (base:Nat) (w:World):bH prog { qG prog with x:=xA idx ld st gen } base w :=
 ⟨(aW _).1,eN (fun b o l h=>h.elim) (fun w' _=>FrAt.none _ _) (fun w' _=>FsAt.none _ _)⟩
theorem GE {a b:Int} (h1 : -9223372036854775808≤a-b) (h2:a-b<9223372036854775808):aD .sub .i64 a b=some (.int .i64 (a-b)):=by
 show some (Value.int .i64 (IntKind.i64.wrap (a-b)))=_;rw[IntKind.wrap_i64,Int.emod_eq_of_lt (by omega) (by omega)];congr 2;omega
def fR:Code:=(f52.body).getD .skip
def xI:Code:=jM (jM (cB (cA (cB (cB fR)))))
theorem OD:fR=.seq (cA fR) (.seq (cA (cB fR)) (.seq (.seq (cA (cA (cB (cB fR)))) (.block 0 (.loop xI))) (cB (cB (cB fR))))):=by kernel_rfl
def Ej (v:Value) (n c:Nat):List Fact:=[.slot 0 (.im v),.slot 1 (.im (iI n)),.slot 5 (.pt 5 0),.row 5 true [.q c]]
def Cq (n c:Nat) (Z:List At) (L:Nat):List Fact:=[.slot 1 (.im (iI n)),.slot 5 (.pt 5 0),.row 5 true [.q c],.slot 8 (.sl 12 0 L L),.row 12 true Z]
def uI (n c:Nat) (Z:List At) (L:Nat) (z:Int):List Fact:=[.slot 1 (.im (iI n)),.slot 5 (.pt 5 0),.row 5 true [.q c],.slot 8 (.sl 12 0 L L),.row 12 true Z,.slot 9 (.im (.int .i64 z))]
theorem An (v:Value) (n c:Nat):aM prog (qG prog) f52.ntmps (bW fun _=>none) 40 (cA fR) (eK 0 [.v (.im v),.v (.im (iI n)),.v (.fl [.q c])]) (Ej v n c)=some ([],.nrm,Ej v n c):=by kernel_rfl
def rJ:Value→Nat
 | .slice _ n _=>n
 | _=>0
def TG (w:World) (F:Value→Nat→Nat):List CA→Option (List Prop×FR)
 | [.v (.im u)]=>some ([LV w u (rJ u) (F u),rJ u≤131072],⟨aV (el (F u)) 0 (aQ (F u) (rJ u)),aQ (F u) (rJ u),aQ (F u) (rJ u),[]⟩)
 | _=>none
theorem MV {w w':World} {F:Value→Nat→Nat} (hb:Below w.heap.size w w'):∀cs pre r,TG w F cs=some (pre,r)→aO pre→∀(args:List Value),cG w' cs args→Calls prog 44 args.toArray w' (fun e w2=>r.ok w' e w2):=by
 intro cs pre r hg hp args ha;unfold TG at hg;split at hg
 ·cases hg
  match args,ha with
  | [u],ha =>
   have h1:u=_:=ha.1;subst h1;exact CY (hp.1.on hb) hp.2.1
  | [],ha=>exact ha.elim
  | _::_::_,ha=>exact ha.2.elim
 ·cases hg
def PF (w:World) (F:Value→Nat→Nat):Tab2:=vD.add 44 (TG w F)
theorem zY {w w':World} {F:Value→Nat→Nat} (hb:Below w.heap.size w w'):FrAt prog (PF w F) w':=(FrAt.none _ _).add func44 (by kernel_rfl) (by kernel_rfl) (MV hb)
theorem Am (w:World) (F:Value→Nat→Nat) (v:Value) (n c:Nat):aM prog { qG prog with x:=xB w (fun _=>none) (PF w F) } f52.ntmps (bW fun _=>none) 40 (cA (cB fR)) (Ej v n c) (Cq n c (aV (el (F v)) 0 (aQ (F v) (rJ v))) (aQ (F v) (rJ v)))=some ([LV w v (rJ v) (F v),rJ v≤131072],.nrm,Cq n c (aV (el (F v)) 0 (aQ (F v) (rJ v))) (aQ (F v) (rJ v))):=by kernel_rfl
theorem Al (n c L:Nat) (Z:List At) (y z:Int):aM prog (qG prog) f52.ntmps (bW (aE [(16,.int .i64 y),(17,.int .i64 z)])) 40 (cA (cA (cB (cB fR)))) (Cq n c Z L) (uI n c Z L z)=some ([aD .sub .i64 (Int.ofNat L) (Int.ofNat n)=some (.int .i64 y),aD .sub .i64 y 1=some (.int .i64 z)],.nrm,uI n c Z L z):=by kernel_rfl
theorem Ao (n c L:Nat) (Z Z':List At) (i x y:Nat) (z:Int):aM prog { qG prog with x:=xA (aE [(26,i),(33,i+n),(37,i)]) (aE [(27,[.q x]),(34,[.q y])]) (aE [(37,Z')]) (fun _=>none) } f52.ntmps (bW (aE [(19,.bool true),(32,iI (i+n)),(21,.int .i64 z)])) 60 xI (uI n c Z L (Int.ofNat i)) (uI n c Z' L z)=some ([aD .geq .i64 (Int.ofNat i) 0=some (.bool true),Int.ofNat i=Int.ofNat i,i<L,pE Z (0+i*4) 4=some [.q x],aD .add .i64 (Int.ofNat i) (Int.ofNat n)=some (iI (i+n)),Int.ofNat (i+n)=Int.ofNat (i+n),i+n<L,pE Z (0+(i+n)*4) 4=some [.q y],c<RM,y<RM,x<RM,gH c y<RM,Int.ofNat i=Int.ofNat i,i<L,put Z (0+i*4) [.q (yM x (gH c y))]=some Z',aD .sub .i64 (Int.ofNat i) 1=some (.int .i64 z)],.nrm,uI n c Z' L z):=by kernel_rfl
theorem UK (n c L:Nat) (Z:List At) (z:Int):aM prog (qG prog) f52.ntmps (bW (aE [(19,.bool false)])) 60 xI (uI n c Z L z) (uI n c Z L z)=some ([aD .geq .i64 z 0=some (.bool false)],.ex 0,uI n c Z L z):=by kernel_rfl
theorem OB (w:World) (F:Value→Nat→Nat) (b n L cJ:Nat) (u:Value):aM prog { qG prog with x:=xB w (aE [(44,u)]) (PF w F) } f52.ntmps (bW (aE [(41,iI cJ)])) 60 (cB (cB (cB fR))) (mC [(1,.im (iI n)),(8,.im (aZ b 0 L L))]) [.slot 6 (.sl 45 0 (aQ (F u) (rJ u)) (aQ (F u) (rJ u))),.row 45 true (aV (el (F u)) 0 (aQ (F u) (rJ u))),.slot 7 (.sl 49 0 (aQ (F (aZ b 0 cJ L)) cJ) (aQ (F (aZ b 0 cJ L)) cJ)),.row 49 true (aV (el (F (aZ b 0 cJ L))) 0 (aQ (F (aZ b 0 cJ L)) cJ))] =
  some ([Value.int .i64 (if Int.ofNat L<Int.ofNat n then Int.ofNat L else Int.ofNat n)=iI cJ,∀w:World,(Instr.sliceAt 22 (aZ b 0 L L) (some (iI cJ)) none none).run prog w=.ok u w,LV w u (rJ u) (F u),rJ u≤131072,cJ≤L,LV w (aZ b 0 cJ L) cJ (F (aZ b 0 cJ L)),cJ≤131072],.rt,[.slot 6 (.sl 45 0 (aQ (F u) (rJ u)) (aQ (F u) (rJ u))),.row 45 true (aV (el (F u)) 0 (aQ (F u) (rJ u))),.slot 7 (.sl 49 0 (aQ (F (aZ b 0 cJ L)) cJ) (aQ (F (aZ b 0 cJ L)) cJ)),.row 49 true (aV (el (F (aZ b 0 cJ L))) 0 (aQ (F (aZ b 0 cJ L)) cJ))]):=by kernel_rfl
structure FQ where
 l:List At
 n:Nat
 l':List At
 n':Nat
def FQ.ok (r:FQ) (w:World) (e:Ending) (w':World):Prop:=∃b b',e=.returned (.tuple #[aZ b 0 r.n r.n,aZ b' 0 r.n' r.n'])∧Below w.heap.size w w'∧(w.heap.size≤b∧b<w'.heap.size∧w'.rangeAt b 0 (aC r.l)∧∀j,w'.frozen? ⟨b,j,none⟩=false)∧(w.heap.size≤b'∧b'<w'.heap.size∧w'.rangeAt b' 0 (aC r.l')∧∀j,w'.frozen? ⟨b',j,none⟩=false)∧b≠b'
theorem FQ.ok.older {r:FQ} {w w1 w2:World} {e:Ending} (h:r.ok w1 e w2) (hb:Below w.heap.size w w1):r.ok w e w2:=by
 obtain⟨b,b',h1,h2,h3,h4,h5⟩:=h;exact⟨b,b',h1,hb.trans (h2.mono hb.size),⟨Nat.le_trans hb.size h3.1,h3.2⟩,⟨Nat.le_trans hb.size h4.1,h4.2⟩,h5⟩
theorem BO {P:Program} {fn:Func} {A:List Fact} {w:World} {s s' k k' n n':Nat} {l l':List At} (hr:fn.results = #[.tmp s,.tmp s']) {a:Act} {w':World} (hA:Holds fn.ntmps w.heap.size w A a w')
  (h1:Fact.slot s (.sl k 0 n n)∈A) (h2:Fact.row k true l∈A) (h3:Fact.slot s' (.sl k' 0 n' n')∈A) (h4:Fact.row k' true l'∈A) (hk:k≠k'):bodyPost P fn (fun e w'=>FQ.ok ⟨l,n,l',n'⟩ w e w') .ret a w':=by
 obtain⟨β,hok,hinj,_⟩:=hA.facts;obtain⟨g1,g2,g3,_⟩:=hok _ h2;obtain⟨g4,g5,g6⟩:=g3 rfl;obtain⟨j1,j2,j3,_⟩:=hok _ h4;obtain⟨j4,j5,j6⟩:=j3 rfl;have e1:=hok _ h1;have e2:=hok _ h3;simp only[Fact.ok,AV.den]at e1 e2;rw[g5]at e1 g2;rw[j5]at e2 j2;have hres:(results fn a.tmps).run P w'=.ok (.tuple #[aZ (β k).1 0 n n,aZ (β k').1 0 n' n']) w':=by
  show ((fn.results.mapM (gW a.tmps)) >>= fun vs=>pure (if h:vs.size=1 then vs[0]else .tuple vs):Sem Value).run P w'=_;have q1:(gW a.tmps (.tmp s)).run P w'=.ok (aZ (β k).1 0 n n) w':=by
   show (pure (a.tmps.getD s undef):Sem Value).run P w'=_;rw[show a.tmps.getD s undef=aZ (β k).1 0 n n by simp[e1,aZ]]; rfl
  have q2:(gW a.tmps (.tmp s')).run P w'=.ok (aZ (β k').1 0 n' n') w':=by
   show (pure (a.tmps.getD s' undef):Sem Value).run P w'=_;rw[show a.tmps.getD s' undef=aZ (β k').1 0 n' n' by simp[e2,aZ]]; rfl
  have hm:(List.toArray <$> fn.results.toList.mapM (gW a.tmps)).run P w'=.ok [aZ (β k).1 0 n n,aZ (β k').1 0 n' n'].toArray w':=by
   rw[hr];simp[List.mapM_cons,q1,q2]
  rw[Array.mapM_eq_mapM_toList,Sem.run_bind,hm,Result.andThen_ok,Sem.run_pure];rw[dif_neg (by simp)]
 exact⟨hA.defers,_,hres,(β k).1,(β k').1,rfl,hA.below,⟨g4,g1,g2,g6⟩,⟨j4,j1,j2,j6⟩,hinj k k' true l l' h2 h4 hk⟩
def qF (n c L:Nat) (f:Nat→Nat):Nat→Nat→Nat
 | 0=>f
 | p+1=>cF (qF n c L f p) (L-n-1-p) (yM (qF n c L f p (L-n-1-p)) (gH c (qF n c L f p (L-n-1-p+n))))
theorem rV {n c L:Nat} {f:Nat→Nat} (h:dD L f):∀p,dD L (qF n c L f p)
 | 0=>h
 | p+1=>fun j hj=>by
  unfold qF cF;split
  ·exact qZ _ _
  ·exact rV h p j hj
theorem ZL {i:Nat}:aD .geq .i64 (Int.ofNat i) 0=some (.bool true):=by
 show some (Value.bool (decide (Int.ofNat i≥0)))=_;rw[decide_eq_true (show Int.ofNat i≥0 from Int.natCast_nonneg i)]
theorem TC {z:Int} (h:z<0):aD .geq .i64 z 0=some (.bool false):=by
 show some (Value.bool (decide (z≥0)))=_;rw[decide_eq_false (by omega)]
theorem yF:prog.underlying 22=some (.slice 25):=by kernel_rfl
theorem DP:cI prog 25=some 4:=by kernel_rfl
theorem KA {b o n m i:Nat} (h:i≤n) (hm:n≤m) (w:World):(Instr.sliceAt 22 (aZ b o n m) (some (iI i)) none none).run prog w=.ok (aZ b (if m=i then o else o+i*4) (n-i) (m-i)) w:=by
 by_cases e:m=i
 ·rw[if_pos e];simp[Instr.sliceAt,Instr.slice,aZ,iI,run_underlying yF,Instr.sliceBounds,Instr.sliceBound,asIntOf,aT DP,h,e]
 ·rw[if_neg e];simp[Instr.sliceAt,Instr.slice,aZ,iI,run_underlying yF,Instr.sliceBounds,Instr.sliceBound,asIntOf,aT DP,h,e,Addr.add_mid]
theorem LV.from {w:World} {b o N m i:Nat} {f:Nat→Nat} (hb:b<w.heap.size) (hr:w.rangeAt b o (aC (aV (el f) 0 N))) (hi:i≤N) (hm:N≤m) (h256:∀j,j<N→f j<bI):LV w (aZ b (if m=i then o else o+i*4) (N-i) (m-i)) (N-i) (fun j=>f (i+j)):=by
 refine⟨_,_,rfl,by omega,fun j hj=>h256 _ (by omega),fun h => ?_⟩;rw[if_neg (by omega)];refine⟨b,o+i*4,rfl,hb,?_⟩;have e:aV (el f) 0 N=aV (el f) 0 i++aV (el (fun j=>f (i+j))) 0 (N-i):=by
  have key:∀(n s:Nat),aV (el f) (i+s) n=aV (el (fun j=>f (i+j))) s n:=fun n=>by
   induction n with
   | zero=>intro s; rfl
   | succ n ih =>
    intro s;show el f (i+s)++aV (el f) (i+s+1) n=_;rw[Nat.add_assoc,ih (s+1)];rfl
  have sp:∀(i n s:Nat),i≤n→aV (el f) s n=aV (el f) s i++aV (el f) (s+i) (n-i):=fun i=>by
   induction i with
   | zero=>intro n s _; rfl
   | succ i ih =>
    intro n s h;obtain⟨n,rfl⟩:∃k,n=k+1:=⟨n-1,by omega⟩
    show el f s++aV (el f) (s+1) n=(el f s++aV (el f) (s+1) i)++_;rw[ih n (s+1) (by omega),List.append_assoc,show s+1+i=s+(i+1) by omega,show n+1-(i+1)=n-i by omega]
  rw[sp i N 0 hi,Nat.zero_add,←key (N-i) 0,Nat.add_zero]
 intro j u hj;have h2:=hr (i*4+j) u (by
  rw[e,aL,List.getElem?_append_right (by rw[aJ,fS (c:=4) fun _=>rfl]; omega),aJ,fS (c:=4) fun _=>rfl,Nat.add_sub_cancel_left];exact hj)
 rwa [←Nat.add_assoc]at h2
theorem GZ {w0:World} {v:Value} {N n c:Nat} {f:Nat→Nat} (hv:LV w0 v N f) (hN:N≤131072) (hf:dD N f) (hn1:1≤n) (hn2:n≤1099511627776) (hc:c<RM) :
  Calls prog 52 #[v,iI n,.agg (aC [At.q c]).toArray] w0 (fun e w'=>FQ.ok ⟨aV (el fun j=>qF n c (aQ f N) f (aQ f N-n) (min n (aQ f N)+j)) 0 (aQ (fun j=>qF n c (aQ f N) f (aQ f N-n) (min n (aQ f N)+j)) (aQ f N-min n (aQ f N))),aQ (fun j=>qF n c (aQ f N) f (aQ f N-n) (min n (aQ f N)+j)) (aQ f N-min n (aQ f N)),aV (el (qF n c (aQ f N) f (aQ f N-n))) 0 (aQ (qF n c (aQ f N) f (aQ f N-n)) (min n (aQ f N))),aQ (qF n c (aQ f N) f (aQ f N-n)) (min n (aQ f N))⟩ w0 e w'):=by
 have hG:bH prog (qG prog) w0.heap.size w0:=(aW _).w _ _;have hT:∀n d:Nat,TabOkW prog dO w0.heap.size w0:=fun _ _=>bD.w _ _
 obtain⟨p0,m0,rfl,hm0,h256,hmem⟩:=id hv;refine bP func52 (cs:=[.v (.im (.slice p0 N m0)),.v (.im (iI n)),.v (.fl [.q c])]) (args:=[.slice p0 N m0,iI n,.agg (aC [At.q c]).toArray]) (c:=fR) rfl ⟨rfl,rfl,rfl,trivial⟩ (Nat.le_of_ble_eq_true (by kernel_rfl)) fun a w' hA => ?_
 rw[OD];refine wp_seq (aA aK hT hG (An _ n c) trivial hA fun a w' hA => ?_);refine wp_seq (aA aK hT (yC (w:=w0) (T2:=PF w0 fun _=>f) fun w' hw=>zY hw) (Am w0 (fun _=>f) (.slice p0 N m0) n c) ⟨hv,hN,trivial⟩ hA fun a w' hA => ?_);change Holds _ _ _ (Cq n c (aV (el f) 0 (aQ f N)) (aQ f N)) a w' at hA;have hle:=gS f N;have hfL:dD (aQ f N) f:=fun j hj=>hf j (by omega)
 generalize aQ f N=L at hA hle hfL ⊢;refine wp_seq (wp_seq (aA aK hT hG (Al n c L (aV (el f) 0 L) ((L:Int)-n) ((L:Int)-n-1)) ⟨GE (by show _≤(L:Int)-(n:Int); omega) (by show (L:Int)-(n:Int)<_; omega),GE (by omega) (by omega),trivial⟩ hA fun a w' hA => ?_));refine wp_block ?_;refine dA aK (fun p=>uI n c (aV (el (qF n c L f p)) 0 L) L ((L:Int)-n-1-p)) (L-n) (fun p hp => ?_) (.ex 0) (by simp) (uI n c (aV (el (qF n c L f (L-n))) 0 L) L ((L:Int)-n-1-(L-n:Nat))) ?_ (by
  have e:((L:Int)-n-1-(0:Nat))=(L:Int)-n-1:=by omega
  show Holds _ _ _ (uI n c (aV (el f) 0 L) L ((L:Int)-n-1-(0:Nat))) _ _;rw[e];exact hA) fun a w1 hA => ?_
 ·have hz:((L:Int)-n-1-p)=Int.ofNat (L-n-1-p):=by show _=((L-n-1-p:Nat):Int); omega
  have hz2:((L:Int)-n-1-(p+1:Nat))=Int.ofNat (L-n-1-p)-1:=by show _=((L-n-1-p:Nat):Int)-1; omega
  have hi1:L-n-1-p<L:=by omega
  have hi2:L-n-1-p+n<L:=by omega
  have hi3:L-n-1-p+n<9223372036854775808:=by omega
  show Ok _ _ _ _ _ (uI n c _ L ((L:Int)-n-1-p)) _ (uI n c (aV (el (cF (qF n c L f p) (L-n-1-p) (yM (qF n c L f p (L-n-1-p)) (gH c (qF n c L f p (L-n-1-p+n)))))) 0 L) L ((L:Int)-n-1-(p+1:Nat)));rw[hz,hz2];have hlt:=rV (n:=n) (c:=c) hfL p;have hs1 : -9223372036854775808≤Int.ofNat (L-n-1-p)-1:=by show _≤((L-n-1-p:Nat):Int)-1; omega
  have hs2:Int.ofNat (L-n-1-p)-1<9223372036854775808:=by show ((L-n-1-p:Nat):Int)-1<_; omega
  exact⟨_,_,_,_,yD _ _ _ _ _ _,hT,Ao n c L _ _ (L-n-1-p) (qF n c L f p (L-n-1-p)) (qF n c L f p (L-n-1-p+n)) _,ZL,rfl,hi1,DS hi1,fF hi3,rfl,hi2,DS hi2,hc,hlt _ hi2,hlt _ hi1,eU _ _,rfl,hi1,EM hi1,GE hs1 hs2,trivial⟩
 ·exact⟨_,_,_,_,hG,hT,UK n c L _ _,TC (by omega),trivial⟩
 have hlt:=rV (n:=n) (c:=c) hfL (L-n);generalize qF n c L f (L-n)=G at hA hlt ⊢;obtain⟨b,hB⟩:=hA.at (k:=12) (l:=aV (el G) 0 L) (by simp[uI]);have hold:oldOf w1 b 0 (aV (el G) 0 L):=hB.old (k:=12) (by simp[uI]) (by simp);have h8:=(hB.im (s:=8) (k:=12) (o:=0) (n:=L) (m:=L) (b:=b) (by simp[uI]) (by simp)).slot (s:=8) (v:=aZ b 0 L L) (by simp);have h1:=hB.slot (s:=1) (v:=iI n) (by simp[uI]);have hF:=hB.fresh [(1,.im (iI n)),(8,.im (aZ b 0 L L))] (fun x hx=>by
  simp only[List.mem_cons,List.not_mem_nil,or_false]at hx
  rcases hx with rfl|rfl
  ·exact h1
  ·exact h8)
 have hmin:(if (Int.ofNat L)<(Int.ofNat n)then (Int.ofNat L)else (Int.ofNat n))=Int.ofNat (min n L):=by
  by_cases h:L<n
  ·rw[if_pos (by show (L:Int)<(n:Int); omega),Nat.min_eq_right (by omega)]
  ·rw[if_neg (by show ¬(L:Int)<(n:Int); omega),Nat.min_eq_left (by omega)]
 have hlow:min n L≤L:=Nat.min_le_right _ _;generalize min n L=cJ at hmin hlow ⊢;have h256G:∀j,j<L→G j<bI:=fun j hj=>gK (hlt j hj)
 have hu:LV w1 (aZ b (if L=cJ then 0 else 0+cJ*4) (L-cJ) (L-cJ)) (L-cJ) (fun j=>G (cJ+j)):=LV.from hold.1 hold.2 hlow (Nat.le_refl _) h256G
 have hv2:LV w1 (aZ b 0 cJ L) cJ G:=⟨_,_,rfl,hlow,fun j hj=>h256G j (by omega),fun h=>⟨b,0,rfl,hold.1,fun j x hj=>hold.2 j x (by
  have sp:aV (el G) 0 L=aV (el G) 0 cJ++aV (el G) (0+cJ) (L-cJ):=by
   have key:∀(i n s:Nat),i≤n→aV (el G) s n=aV (el G) s i++aV (el G) (s+i) (n-i):=fun i=>by
    induction i with
    | zero=>intro n s _; rfl
    | succ i ih =>
     intro n s h;obtain⟨n,rfl⟩:∃k,n=k+1:=⟨n-1,by omega⟩
     show el G s++aV (el G) (s+1) n=(el G s++aV (el G) (s+1) i)++_;rw[ih n (s+1) (by omega),List.append_assoc,show s+1+i=s+(i+1) by omega,show n+1-(i+1)=n-i by omega]
   exact key cJ L 0 hlow
  rw[sp,aL,List.getElem?_append_left (List.getElem?_eq_some_iff.1 hj).1];exact hj)⟩⟩
 have hmd:∃F:Value→Nat→Nat,LV w1 (aZ b (if L=cJ then 0 else 0+cJ*4) (L-cJ) (L-cJ)) (L-cJ) (F (aZ b (if L=cJ then 0 else 0+cJ*4) (L-cJ) (L-cJ)))∧F (aZ b 0 cJ L)=G ∧
   (F (aZ b (if L=cJ then 0 else 0+cJ*4) (L-cJ) (L-cJ))=(fun j=>G (cJ+j))∨L-cJ=0):=by
  classical
  refine⟨fun x=>if x=aZ b 0 cJ L then G else fun j=>G (cJ+j),?_,if_pos rfl,?_⟩
  ·by_cases e:aZ b (if L=cJ then 0 else 0+cJ*4) (L-cJ) (L-cJ)=aZ b 0 cJ L
   ·have e3:L-cJ=cJ∧L-cJ=L:=by
     unfold aZ at e;injection e with _ e1 e2;exact⟨e1,e2⟩
    have e4:L-cJ=0:=by omega
    rw[e4];refine⟨_,_,rfl,Nat.le_refl _,fun j hj=>by omega,fun h=>by omega⟩
   ·show LV _ _ _ (if _ then _ else _);rw[if_neg e]; exact hu
  ·by_cases e:aZ b (if L=cJ then 0 else 0+cJ*4) (L-cJ) (L-cJ)=aZ b 0 cJ L
   ·have e3:L-cJ=cJ∧L-cJ=L:=by
     unfold aZ at e;injection e with _ e1 e2;exact⟨e1,e2⟩
    right; omega
   ·left; exact if_neg e
 obtain⟨F,hFu,hFv,hFe⟩:=hmd;refine aA aK (fun _ _=>bD.w _ _) (yC fun w' hw=>zY hw) (OB w1 F b n L cJ _) ⟨congrArg _ hmin,fun w=>KA hlow (Nat.le_refl _) w,hFu,by show L-cJ≤_; omega,hlow,by rw[hFv]; exact hv2,by omega,trivial⟩ hF fun a w2 hA2 => ?_
 rw[hFv]at hA2;have hq:∀(K:Nat→Nat),(K=(fun j=>G (cJ+j))∨L-cJ=0)→aV (el K) 0 (aQ K (L-cJ))=aV (el fun j=>G (cJ+j)) 0 (aQ (fun j=>G (cJ+j)) (L-cJ))∧aQ K (L-cJ)=aQ (fun j=>G (cJ+j)) (L-cJ):=fun K h=>by
  rcases h with rfl|h
  ·exact⟨rfl,rfl⟩
  ·rw[h]; exact⟨rfl,rfl⟩
 obtain⟨q1,q2⟩:=hq _ hFe;have h:=BO (P:=prog) (fn:=f52) rfl hA2 (s:=6) (s':=7) (k:=45) (k':=49) (List.mem_cons_self) (List.mem_cons_of_mem _ List.mem_cons_self) (List.mem_cons_of_mem _ (List.mem_cons_of_mem _ List.mem_cons_self)) (List.mem_cons_of_mem _ (List.mem_cons_of_mem _ (List.mem_cons_of_mem _ List.mem_cons_self))) (by omega);refine eR h fun e w h => ?_
 have h2:=h.older hA.below;change FQ.ok ⟨aV (el (F _)) 0 (aQ (F _) (L-cJ)),aQ (F _) (L-cJ),_,_⟩ _ _ _ at h2;rw[q1,q2]at h2;exact h2
def kM (k:Nat):Fact→Bool
 | .slot _ v => !(fE v.key k)
 | .row k1 _ _ => !(Nat.beq k1 k)
 | .at k1 _ => !(Nat.beq k1 k)
 | .app k1 _ _ _ => !(Nat.beq k1 k)
theorem tR {base k:Nat} {β β':Nat→Bk} (hβ:∀j,j≠k→β' j=β j) {a:Act} {w:World} {φ:Fact} (h:φ.ok base β a w) (hn:kM k φ=true):φ.ok base β' a w:=by
 cases φ with
 | slot s v =>
  show a.tmps[s]?=_;rw[AV.den_eq v fun j hj=>hβ j fun e=>by
   subst e;simp[kM,bR.2 hj]at hn]
  exact h
 | row k1 o l =>
  have e:β' k1=β k1:=hβ k1 fun e=>by subst e; simp[kM]at hn
  simp only[Fact.ok]at h ⊢;rw[e]; exact h
 | «at» k1 b =>
  have e:β' k1=β k1:=hβ k1 fun e=>by subst e; simp[kM]at hn
  simp only[Fact.ok]at h ⊢;rw[e]; exact h
 | app k1 e1 s1 n1 =>
  have e:β' k1=β k1:=hβ k1 fun e=>by subst e; simp[kM]at hn
  simp only[Fact.ok]at h ⊢;rw[e]; exact h
theorem Holds.toSl {nt base:Nat} {w0:World} {A:List Fact} {a:Act} {w:World} (h:Holds nt base w0 A a w) {s k b n m:Nat} (h1:Fact.slot s (.im (aZ b 0 n m))∈A) (h2:Fact.at k b∈A):Holds nt base w0 (.slot s (.sl k 0 n m)::A) a w:=by
 obtain⟨β,g1,g2,g3⟩:=h.facts;have e1:=g1 _ h1;have e2:=g1 _ h2;simp only[Fact.ok]at e1 e2;have up:∀k1 o1 l1,Fact.row k1 o1 l1∈(Fact.slot s (.sl k 0 n m)::A)→Fact.row k1 o1 l1∈A:=fun k1 o1 l1 e=>by
  rcases List.mem_cons.1 e with e|e
  ·cases e
  ·exact e
 refine⟨h.defers,h.size,h.below,h.heap,β,fun φ hφ => ?_,fun k1 k2 o2 l1 l2 q1 q2=>g2 k1 k2 o2 l1 l2 (up _ _ _ q1) (up _ _ _ q2),fun k1 l1 e=>g3.1 k1 l1 (up _ _ _ e),g3.2⟩
 rcases List.mem_cons.1 hφ with rfl|hφ
 ·show a.tmps[s]?=_;rw[e1];simp[AV.den,e2,aZ]
 ·exact g1 φ hφ
theorem Holds.put2 {nt:Nat} {w0:World} {A:List Fact} {a:Act} {w:World} (h:Holds nt w0.heap.size w0 A a w) {r:FQ} {w':World} {e:Ending} (hr:r.ok w e w') {d k k':Nat} (hd:d<nt) (hA:A.all (fun φ => !(fA (some d) none φ))=true) (hk:A.all (kM k)=true) (hk':A.all (kM k')=true) (hkk:k≠k') (hn:k≠nt) (hn':k'≠nt) :
  ∃b b',e=.returned (.tuple #[aZ b 0 r.n r.n,aZ b' 0 r.n' r.n'])∧Holds nt w0.heap.size w0 (.row k' true r.l' :: .at k' b' :: .row k true r.l :: .at k b :: .slot d (.tu [.im (aZ b 0 r.n r.n),.im (aZ b' 0 r.n' r.n')])::A) (a.put (some d) (.tuple #[aZ b 0 r.n r.n,aZ b' 0 r.n' r.n'])) w':=by
 obtain⟨b,b',rfl,hb,⟨h1,h2,h3,h4⟩,⟨j1,j2,j3,j4⟩,hne⟩:=hr;refine⟨b,b',rfl,?_⟩;obtain⟨β,g1,g2,g3,gt⟩:=h.facts;have hW:w0.heap.size≤w.heap.size:=h.below.size;have P:=jG (base:=w0.heap.size) (β:=β) (a:=a) (w:=w) (w':=w') (M:=A) (.tu [.im (aZ b 0 r.n r.n),.im (aZ b' 0 r.n' r.n')]) (d:=d) (by rw[h.size]; exact hd) h.heap hb;rw[List.all_eq_true]at hA hk hk';obtain⟨β',e0,e1,e2⟩:∃β':Nat→Bk,β' k=(b,0,0)∧β' k'=(b',0,0)∧∀j,j≠k→j≠k'→β' j=β j:=by
  refine⟨fun j=>if j=k then (b,0,0)else if j=k' then (b',0,0)else β j,if_pos rfl,?_,fun j q1 q2 => ?_⟩
  ·show (if k'=k then _ else if k'=k' then _ else _)=_;rw[if_neg (Ne.symm hkk),if_pos rfl]
  ·show (if j=k then _ else if j=k' then _ else _)=_;rw[if_neg q1,if_neg q2]
 have hold:∀φ∈A,φ.ok w0.heap.size β' (a.put (some d) (.tuple #[aZ b 0 r.n r.n,aZ b' 0 r.n' r.n'])) w':=fun φ hφ=>by
  have c:=MR P (g1 φ hφ) (by simpa using hA φ hφ) fun kk k1 mV l q=>by cases q
  have c2:=tR (β':=fun j=>if j=k then (b,0,0)else β j) (k:=k) (fun j hj=>if_neg hj) c (hk φ hφ);exact tR (β':=β') (k:=k') (fun j hj=>by
   by_cases q:j=k
   ·subst q; rw[e0]; exact (if_pos rfl).symm
   ·rw[e2 j q hj]; exact (if_neg q).symm) c2 (hk' φ hφ)
 have hkA:∀k1 o1 l1,Fact.row k1 o1 l1∈A→k1≠k∧k1≠k':=fun k1 o1 l1 hr=>⟨fun e=>by subst e; have:=hk _ hr; simp[kM]at this,fun e=>by subst e; have:=hk' _ hr; simp[kM]at this⟩
 have hlt:∀k1 o1 l1,Fact.row k1 o1 l1∈A→(β' k1).1<w.heap.size∧β' k1=β k1:=fun k1 o1 l1 hr=>by
  obtain⟨q1,q2⟩:=hkA _ _ _ hr;rw[e2 k1 q1 q2];exact⟨(g1 _ hr).1,rfl⟩
 have ent:β' nt=β nt:=e2 nt (Ne.symm hn) (Ne.symm hn');refine⟨by rw[eH]; exact h.defers,by rw[dB]; exact h.size,h.below.trans (hb.mono hW),Nat.le_trans h.heap hb.size,β',fun φ hφ => ?_,fun k1 k2 o2 l1 l2 q1 q2 hne2 => ?_,fun k1 l1 q1 => ?_,by rw[ent]; exact Nat.le_trans gt.size hb.size,fun p p1 p2 => ?_,gt.shape.trans (Shape.below hb)⟩
 ·simp only[List.mem_cons]at hφ
  rcases hφ with rfl|rfl|rfl|rfl|rfl|hφ
  ·exact⟨by rw[e1]; exact j2,by rw[e1]; exact j3,fun _=>⟨by rw[e1]; exact Nat.le_trans hW j1,by rw[e1],by rw[e1]; exact j4⟩,fun h=>by cases h⟩
  ·exact⟨by rw[e1],by rw[e1]⟩
  ·exact⟨by rw[e0]; exact h2,by rw[e0]; exact h3,fun _=>⟨by rw[e0]; exact Nat.le_trans hW h1,by rw[e0],by rw[e0]; exact h4⟩,fun h=>by cases h⟩
  ·exact⟨by rw[e0],by rw[e0]⟩
  ·exact dY _ _ _ (by rw[h.size]; exact hd)
  ·exact hold φ hφ
 ·simp only[List.mem_cons,reduceCtorEq,false_or]at q1 q2
  rcases q1 with q1|q1|q1
  ·cases q1
   rcases q2 with q2|q2|q2
   ·cases q2; exact (hne2 rfl).elim
   ·cases q2; rw[e0,e1]; exact fun e=>hne e.symm
   ·rw[e1]; have:=(hlt _ _ _ q2).1; show b'≠_; omega
  ·cases q1
   rcases q2 with q2|q2|q2
   ·cases q2; rw[e0,e1]; exact hne
   ·cases q2; exact (hne2 rfl).elim
   ·rw[e0]; have:=(hlt _ _ _ q2).1; show b≠_; omega
  ·rcases q2 with q2|q2|q2
   ·cases q2; rw[e1]; have:=(hlt _ _ _ q1).1; show _≠b'; omega
   ·cases q2; rw[e0]; have:=(hlt _ _ _ q1).1; show _≠b; omega
   ·rw[(hlt _ _ _ q1).2,(hlt _ _ _ q2).2];exact g2 k1 k2 o2 l1 l2 q1 q2 hne2
 ·rw[ent];simp only[List.mem_cons,reduceCtorEq,false_or]at q1
  rcases q1 with q1|q1|q1
  ·cases q1; rw[e1]; exact Or.inr (Nat.le_trans gt.size j1)
  ·cases q1; rw[e0]; exact Or.inr (Nat.le_trans gt.size h1)
  ·rw[(hlt _ _ _ q1).2];exact g3 k1 l1 q1
 ·rw[ent]at p2;have q:=Nat.lt_of_lt_of_le p2 gt.size;have:=gt.mem p p1 p2;exact⟨(hb.cell q).trans this.1,(hb.frozen q).trans this.2⟩
def JH {α:Type} (a b:α) (j:Nat):α:=if j=0 then a else b
def pM (N:Nat) (f:Nat→Nat) (x:Nat):Int:=if N≤65536 then (if dD N f∧x<RM then 0 else 21)else 72
theorem UU (N:Nat) (f:Nat→Nat) (x:Nat):VX 2 (JH N 1) (JH f fun _=>x)=pM N f x:=by
 have e1:nL 2 (JH N 1)↔N≤65536:=⟨fun h=>h 0 (by omega),fun h j hj=>by
  by_cases e:j=0
  ·rw[e]; exact h
  ·unfold JH; rw[if_neg e]; omega⟩
 have e2:oV 2 (JH N 1) (JH f fun _=>x)↔(dD N f∧x<RM):=⟨fun h=>⟨h 0 (by omega),h 1 (by omega) 0 (show 0<1 by omega)⟩,fun h j hj=>by
  by_cases e:j=0
  ·rw[e]; exact h.1
  ·unfold JH; rw[if_neg e,if_neg e]; exact fun _ _=>h.2⟩
 unfold VX pM;simp only[e1,e2]
theorem ID {N:Nat} {f:Nat→Nat} {x:Nat} (h:pM N f x=0):N≤65536∧dD N f∧x<RM:=by
 unfold pM at h;split at h
 ·rename_i h1;split at h
  ·rename_i h2; exact⟨h1,h2⟩
  ·cases h
 ·cases h
theorem LV.one {w:World} {b x:Nat} (h:oldOf w b 0 [.q x]) (hx:x<bI):LV w (aZ b 0 1 1) 1 (fun _=>x) :=
 ⟨_,_,rfl,Nat.le_refl _,fun _ _=>hx,fun _=>⟨b,0,rfl,h.1,h.2⟩⟩
theorem uL {w:World} {v:Value} {N x b b2:Nat} {f:Nat→Nat} (hv:LV w v N f) (hN:N≤4611686018427387904) (hx:x<bI) (h1:oldOf w b 0 [.q x]) (h2:oldOf w b2 0 [.c v,.c (aZ b 0 1 1)]):Good prog 51 (.one (.im (.int .i64 (pM N f x)))) [aZ b2 0 2 2] w:=by
 rw[←UU];refine uK (vs:=JH v (aZ b 0 1 1)) ⟨b2,0,2,rfl,h2.1,h2.2⟩ (fun j hj => ?_) (by omega) fun j hj => ?_
 ·by_cases e:j=0
  ·rw[e]; exact hv
  ·unfold JH; rw[if_neg e,if_neg e,if_neg e]; exact LV.one h1 hx
 ·by_cases e:j=0
  ·rw[e]; exact hN
  ·unfold JH; rw[if_neg e]; omega
def UB (N:Nat) (f:Nat→Nat):jN
 | [.s l n m,.v (.im (.int .i64 (.ofNat i)))]=>some ([aC l=aC (aV (el f) 0 N),n=N,N≤m,∀j,j<N→f j<bI],.one (.fl [.q (EW f N i)]))
 | _=>none
theorem NJ {N:Nat} {f:Nat→Nat}:∀cs pre r,UB N f cs=some (pre,r)→aO pre→∀(args:List Value) (w:World),cG w cs args→Good prog 53 r args w:=by
 intro cs pre r hg hp args w ha;unfold UB at hg;split at hg
 ·rename_i l n m i;cases hg
  match args,ha with
  | [u,t],ha =>
   have h1:t=iI i:=ha.2.1;subst h1;exact uR (LV.ofS ha.1 hp.1 hp.2.1 hp.2.2.1 hp.2.2.2.1)
  | [],ha=>exact ha.elim
  | [_],ha=>exact ha.2.elim
  | _::_::_::_,ha=>exact ha.2.2.elim
 ·cases hg
def bV:Code:=(f16.body).getD .skip
theorem MN:bV=.seq (cA bV) (.seq (.seq (.region 1 (bJ (cA (cA (cB bV)))) false) (cB (cA (cB bV)))) (.seq (.region 4 (bJ (cA (cB (cB bV)))) false) (cB (cB (cB bV))))):=by kernel_rfl
def yW (v:Value) (x:Nat):List Fact:=[.slot 0 (.im v),.slot 3 (.pt 3 0),.row 3 true [.q x],.slot 5 (.pt 5 0),.row 5 true [.f ⟨0,cS⟩]]
def ZB (v:Value) (x:Nat):List Fact:=.slot 10 (.im v) :: .slot 12 (.sl 12 0 1 1) :: .row 12 true [.q x]::yW v x
def QE (v:Value) (x b:Nat):List Fact:=.slot 13 (.sl 13 0 2 2) :: .row 13 true [.c v,.c (aZ b 0 1 1)] :: .row 12 true [.q x] :: .at 12 b::yW v x
def dX:Cfg:=⟨fun _=>dO,fun _=>true,fun _=>none⟩
theorem YV (v:Value) (x:Nat):aM prog (qG prog) f16.ntmps (bW fun _=>none) 40 (cA bV) (eK 0 [.v (.im v),.v (.fl [.q x])]) (yW v x)=some ([],.nrm,yW v x):=by kernel_rfl
theorem YU (p:Option Addr) (N m x:Nat):iG prog (qG prog) f16.ntmps dX ((bJ (cA (cA (cB bV)))).extract 0 3) (yW (.slice p N m) x) (ZB (.slice p N m) x)=some ([],ZB (.slice p N m) x):=by kernel_rfl
theorem YT (p:Option Addr) (N m x b:Nat):iG prog (qG prog) f16.ntmps dX ((bJ (cA (cA (cB bV)))).extract 3 4) (.slot 12 (.im (aZ b 0 1 1)) :: .at 12 b::ZB (.slice p N m) x) (QE (.slice p N m) x b)=some ([],QE (.slice p N m) x b):=by kernel_rfl
theorem YS (v:Value) (x b:Nat) (e:Int):iG prog (qG prog) f16.ntmps dX ((bJ (cA (cA (cB bV)))).extract 5 6) (.slot 14 (.im (.int .i64 e))::QE v x b) (.slot 7 (.im (.int .i64 e))::yW v x)=some ([],.slot 7 (.im (.int .i64 e))::yW v x):=by kernel_rfl
theorem SV (v:Value) (x:Nat) (e:Int):aM prog (qG prog) f16.ntmps (bW (aE [(16,.bool true)])) 40 (cB (cA (cB bV))) (.slot 7 (.im (.int .i64 e))::yW v x) [.slot 4 (.im (.slice none 0 0)),.slot 5 (.pt 5 0),.row 5 true [.f ⟨0,cS⟩],.slot 6 (.im (.int .i64 e))]=some ([aD .neq .i64 e 0=some (.bool true)],.rt,[.slot 4 (.im (.slice none 0 0)),.slot 5 (.pt 5 0),.row 5 true [.f ⟨0,cS⟩],.slot 6 (.im (.int .i64 e))]):=by kernel_rfl
theorem MM (v:Value) (x:Nat):aM prog (qG prog) f16.ntmps (bW fun _=>none) 40 (cB (cA (cB bV))) (.slot 7 (.im (.int .i64 0))::yW v x) (yW v x)=some ([],.nrm,yW v x):=by kernel_rfl
def ZA (v:Value) (x:Nat):List Fact:=.slot 20 (.im v) :: .slot 21 (.fl [.q x])::yW v x
theorem YR (v:Value) (x:Nat):iG prog (qG prog) f16.ntmps dX ((bJ (cA (cB (cB bV)))).extract 0 2) (yW v x) (ZA v x)=some ([],ZA v x):=by kernel_rfl
def Dv (b b' n n':Nat) (l l':List At):List Fact:=[.slot 8 (.im (aZ b 0 n n)),.slot 9 (.im (aZ b' 0 n' n')),.row 1000 true l,.at 1000 b,.row 1001 true l',.at 1001 b',.slot 5 (.pt 5 0),.row 5 true [.f ⟨0,cS⟩]]
theorem YQ (v:Value) (x b b' n n':Nat) (l l':List At):iG prog (qG prog) f16.ntmps dX ((bJ (cA (cB (cB bV)))).extract 3 8) (.row 1001 true l' :: .at 1001 b' :: .row 1000 true l :: .at 1000 b :: .slot 22 (.tu [.im (aZ b 0 n n),.im (aZ b' 0 n' n')])::ZA v x) (Dv b b' n n' l l')=some ([],Dv b b' n n' l l'):=by kernel_rfl
def Fd (n e:Nat) (l:List At):List Fact:=[.slot 4 (.sl 1000 0 n n),.row 1000 true l,.slot 5 (.pt 5 0),.row 5 true [.q e],.slot 6 (.im (.int .i64 0))]
theorem YP (b b' n n':Nat) (l l':List At) (f:Nat→Nat):aM prog (qG prog) f16.ntmps (fun _=>⟨fun _=>dO.add 53 (UB n' f),fun _=>true,fun _=>none⟩) 40 (cB (cB (cB bV))) (.slot 8 (.sl 1000 0 n n) :: .slot 9 (.sl 1001 0 n' n')::Dv b b' n n' l l') (Fd n (EW f n' 0) l)=some ([aC l'=aC (aV (el f) 0 n'),n'=n',n'≤n',∀j,j<n'→f j<bI],.rt,Fd n (EW f n' 0) l):=by kernel_rfl
theorem SS {c:Int} (h:c≠0):aD .neq .i64 c 0=some (.bool true):=by
 show some (Value.bool (c != 0))=_;rw[bne_iff_ne.2 h]
def YZ (x L:Nat) (f:Nat→Nat):Nat→Nat:=qF 1 x L f (L-1)
def wS (x L:Nat) (f:Nat→Nat) (j:Nat):Nat:=YZ x L f (min 1 L+j)
def JG (x L:Nat) (f:Nat→Nat):Nat:=aQ (wS x L f) (L-min 1 L)
def YW (x L:Nat) (f:Nat→Nat):Nat:=EW (YZ x L f) (aQ (YZ x L f) (min 1 L)) 0
theorem rC {A:List Fact} {d:Nat} (h:A.all (fun φ => !(fA (some d) none φ))=true):∀φ∈A,fA (some d) none φ=false:=fun φ hφ=>by
 rw[List.all_eq_true]at h;simpa using h φ hφ
theorem FM {w0:World} {v:Value} {N x:Nat} {f:Nat→Nat} (hv:LV w0 v N f) (hN:N≤4611686018427387904) (hx:x<bI) :
  (pM N f x≠0→Good prog 16 (.many [.im (.slice none 0 0),.fl [.f ⟨0,cS⟩],.im (.int .i64 (pM N f x))]) [v,.agg (aC [At.q x]).toArray] w0) ∧
  (pM N f x=0→Calls prog 16 #[v,.agg (aC [At.q x]).toArray] w0 (fun e w'=>FR.ok ⟨aV (el (wS x (aQ f N) f)) 0 (JG x (aQ f N) f),JG x (aQ f N) f,JG x (aQ f N) f,[.fl [.q (YW x (aQ f N) f)],.im (.int .i64 0)]⟩ w0 e w')):=by
 have hG:bH prog (qG prog) w0.heap.size w0:=(aW _).w _ _;have hT:∀n d:Nat,TabOkW prog dO w0.heap.size w0:=fun _ _=>bD.w _ _
 obtain⟨p0,m0,rfl,hm0,h256,hmem⟩:=id hv;have first:∀R:Ending→World→Prop,(∀a w,Holds f16.ntmps w0.heap.size w0 (.slot 7 (.im (.int .i64 (pM N f x)))::yW (.slice p0 N m0) x) a w→(cB (cA (cB bV))).wp prog (fun e a w=>match e with | .normal=>(Code.seq (.region 4 (bJ (cA (cB (cB bV)))) false) (cB (cB (cB bV)))).wp prog (bodyPost prog f16 R) a w|e=>bodyPost prog f16 R e a w) a w) →
   Calls prog 16 #[.slice p0 N m0,.agg (aC [At.q x]).toArray] w0 R:=fun R hR=>by
  refine bP func16 (cs:=[.v (.im (.slice p0 N m0)),.v (.fl [.q x])]) (args:=[.slice p0 N m0,.agg (aC [At.q x]).toArray]) (c:=bV) rfl ⟨rfl,rfl,trivial⟩ (Nat.le_of_ble_eq_true (by kernel_rfl)) fun a w1 hA => ?_
  rw[MN];refine wp_seq (aA aK hT hG (YV _ x) trivial hA fun a w1 hA => ?_);refine wp_seq (wp_seq (fH (l:=List.range' 0 ((bJ (cA (cA (cB bV)))).extract 0 3).size++(List.range' 3 ((bJ (cA (cA (cB bV)))).extract 3 4).size++(4::(List.range' 5 ((bJ (cA (cA (cB bV)))).extract 5 6).size++[])))) (by kernel_rfl) ?_));refine bG (c:=dX) (hT 0) hG (YU p0 N m0 x) trivial (by kernel_rfl) hA fun a w1 hA => ?_
  obtain⟨b,hA⟩:=hA.at (k:=12) (l:=[.q x]) (by simp[ZB]);have hA:=hA.im (s:=12) (k:=12) (o:=0) (n:=1) (m:=1) (b:=b) (by simp[ZB]) (by simp);refine bG (c:=dX) (hT 0) hG (YT p0 N m0 x b) trivial (by kernel_rfl) hA fun a w1 hA => ?_
  obtain⟨b2,hB⟩:=hA.at (k:=13) (l:=[.c (.slice p0 N m0),.c (aZ b 0 1 1)]) (by simp[QE]);have h13:=(hB.im (s:=13) (k:=13) (o:=0) (n:=2) (m:=2) (b:=b2) (by simp[QE]) (by simp)).slot (s:=13) (v:=aZ b2 0 2 2) (by simp);have o1:oldOf w1 b 0 [.q x]:=hA.old (k:=12) (by simp[QE]) (by simp[QE]);have o2:oldOf w1 b2 0 [.c (.slice p0 N m0),.c (aZ b 0 1 1)]:=hB.old (k:=13) (by simp[QE]) (by simp);obtain⟨o,ho,hoo,hod,hog⟩:∃o,(bJ (cA (cA (cB bV))))[4]?=some o∧(∃ts,o.op=.call ⟨.value (.func 51),#[.tmp 13],ts⟩)∧o.dst=some 14∧o.guard=none:=⟨_,rfl,⟨_,rfl⟩,rfl,rfl⟩
  obtain⟨ts,hoo⟩:=hoo;refine gI ho hog (jS hoo (vs:=[aZ b2 0 2 2]) (by simp[Act.eval,h13]) (fun args=>bQ func51 (by kernel_rfl) (by kernel_rfl) args _) (uL (hv.on hA.below) hN hx o1 o2) fun w2 hb => ?_);rw[hod];have hA:=hA.put hb (d:=14) (Nat.le_of_ble_eq_true (by kernel_rfl)) (.im (.int .i64 (pM N f x))) (rC (by kernel_rfl));refine bG (c:=dX) (hT 0) hG (YS _ x b _) trivial (by kernel_rfl) hA fun a w1 hA => ?_
  exact Code.wp_mono (fun e a w h=>by cases e<;>exact h) (hR a w1 hA)
 refine⟨fun he=>first _ fun a w hA => ?_,fun he=>first _ fun a w hA => ?_⟩
 ·exact aA aK hT hG (SV _ x _) ⟨SS he,trivial⟩ hA fun a w' hA=>aY (l:=[.im (.slice none 0 0),.fl [.f ⟨0,cS⟩],.im (.int .i64 (pM N f x))]) (r:=.many [.im (.slice none 0 0),.fl [.f ⟨0,cS⟩],.im (.int .i64 (pM N f x))]) (by kernel_rfl) (by kernel_rfl) hA
 ·rw[he]at hA;obtain⟨hN2,hf,hxr⟩:=ID he;refine aA aK hT hG (MM _ x) trivial hA fun a w1 hA => ?_
  show (Code.seq _ _).wp _ _ _ _;refine wp_seq (fH (l:=List.range' 0 ((bJ (cA (cB (cB bV)))).extract 0 2).size++(2::(List.range' 3 ((bJ (cA (cB (cB bV)))).extract 3 8).size++[]))) (by kernel_rfl) ?_);refine bG (c:=dX) (hT 0) hG (YR _ x) trivial (by kernel_rfl) hA fun a w1 hA => ?_
  have h20:=hA.slot (s:=20) (v:=.slice p0 N m0) (by simp[ZA]);have h21:=hA.slotF (s:=21) (l:=[.q x]) (by simp[ZA]);obtain⟨o,ho,hoo,hod,hog⟩:∃o,(bJ (cA (cB (cB bV))))[2]?=some o∧(∃ts,o.op=.call ⟨.value (.func 52),#[.tmp 20,.const (iI 1),.tmp 21],ts⟩)∧o.dst=some 22∧o.guard=none:=⟨_,rfl,⟨_,rfl⟩,rfl,rfl⟩
  obtain⟨ts,hoo⟩:=hoo;refine gI ho hog (nC hoo (vs:=[.slice p0 N m0,iI 1,.agg (aC [At.q x]).toArray]) (by simp[Act.eval,h20,h21]) (fun args=>bQ func52 (by kernel_rfl) (by kernel_rfl) args _) (GZ (hv.on hA.below) (by omega) hf (Nat.le_refl 1) (by omega) hxr) fun e w2 hr => ?_);obtain⟨b,b',rfl,hB⟩:=hA.put2 hr (d:=22) (k:=1000) (k':=1001) (Nat.le_of_ble_eq_true (by kernel_rfl)) (by kernel_rfl) (by kernel_rfl) (by kernel_rfl) (by omega) (by decide) (by decide);refine⟨_,rfl,?_⟩;rw[hod];refine bG (c:=dX) (hT 0) hG (YQ _ x b b' _ _ _ _) trivial (by kernel_rfl) hB fun a w3 hA => ?_
  have hA:=hA.toSl (s:=9) (k:=1001) (b:=b') (List.mem_of_getElem? (i:=1) rfl) (List.mem_of_getElem? (i:=5) rfl);have hA:=hA.toSl (s:=8) (k:=1000) (b:=b) (List.mem_of_getElem? (i:=1) rfl) (List.mem_of_getElem? (i:=4) rfl);have hlt:=rV (n:=1) (c:=x) (L:=aQ f N) (f:=f) (fun j hj=>hf j (Nat.lt_of_lt_of_le hj (gS f N))) (aQ f N-1);have hn':aQ (YZ x (aQ f N) f) (min 1 (aQ f N))≤aQ f N:=Nat.le_trans (gS _ _) (Nat.min_le_right _ _);exact aA aK (fun _ _=>TabOkW.add (bD.w _ _) func53 (by kernel_rfl) (by kernel_rfl) fun w hw cs pre r h1 h2 args ha=>NJ cs pre r h1 h2 args w ha) hG (YP b b' _ _ _ _ (YZ x (aQ f N) f)) ⟨rfl,rfl,Nat.le_refl _,fun j hj=>gK (hlt j (by show j<_; exact Nat.lt_of_lt_of_le hj hn')),trivial⟩ hA fun a w4 hA=>eI (r:=⟨aV (el (wS x (aQ f N) f)) 0 (JG x (aQ f N) f),JG x (aQ f N) f,JG x (aQ f N) f,[.fl [.q (YW x (aQ f N) f)],.im (.int .i64 0)]⟩) (by kernel_rfl) hA
structure Own (w:World) (b:Nat) (l:List At):Prop where
 lt:b<w.heap.size
 row:w.rangeAt b 0 (aC l)
 free:∀j,w.frozen? ⟨b,j,none⟩=false
theorem Holds.wrc {nt b:Nat} {w w':World} {A:List Fact} {a:Act} (h:Holds nt b w A a w') {l:List At} (h1:Fact.row 0 true l∈A) (h2:Fact.at 0 b∈A) (h3:Fact.at nt w.heap.size∈A):WrC w w' b∧w'.rangeAt b 0 (aC l):=by
 obtain⟨β,g1,g2,g3,gt⟩:=h.facts;obtain⟨e1,e2,e4,_⟩:=g1 _ h1;obtain⟨e5,e6,e7⟩:=e4 rfl;have e3:=g1 _ h2;have e8:=g1 _ h3;simp only[Fact.ok]at e3 e8;rw[e6]at e2;rw[e3.1]at e2;refine⟨⟨h.below,fun p hp hne => ?_,gt.shape,fun j => ?_⟩,e2⟩
 ·rcases Nat.lt_or_ge p.block b with q|q
  ·exact⟨h.below.cell q,h.below.frozen q⟩
  ·exact gt.mem p (by omega) (by rw[e8.1]; exact hp)
 ·have:=e7 j
  rwa [e3.1]at this
section
variable {P:Program} {w:World} {R:Ending→World→Prop}
end
def uS:Nat→List AV→List Fact
 | _,[]=>[]
 | i,v::r=>.slot i v::uS (i+1) r
theorem oW {base:Nat} {β:Nat→Bk} (a:Act) (w:World):∀(xs:List AV) (i:Nat),(∀j v,xs[j]?=some v→a.tmps[i+j]?=some (v.den β))→∀φ∈uS i xs,φ.ok base β a w
 | [],i,_,φ,h=>by cases h
 | t::r,i,ha,φ,h=>by
  rcases List.mem_cons.1 h with rfl|h
  ·exact ha 0 t rfl
  ·exact oW a w r (i+1) (fun j u hj=>by have:=ha (j+1) u (by simpa using hj); rwa [show i+(j+1)=i+1+j by omega]at this) φ h
theorem lZ:∀(xs:List AV) (i:Nat) (k:Nat) (o:Bool) (l:List At),Fact.row k o l∈uS i xs→False
 | [],i,k,o,l,h=>by cases h
 | t::r,i,k,o,l,h=>by
  rcases List.mem_cons.1 h with h|h
  ·cases h
  ·exact lZ r (i+1) k o l h
def BT (nt b N:Nat) (l:List At) (xs:List AV):List Fact:=.row 0 true l :: .at 0 b :: .at nt N::uS 0 xs
section
variable {P:Program} {w:World} {R:Ending→World→Prop}
theorem pY {f:FuncId} {fn:Func} (hf:P.funcs[f]?=some fn) {c:Code} (hb:fn.body=some c) {b:Nat} {l:List At} {xs:List AV} {vs:List Value} (hx:∀β:Nat→Bk,β 0=(b,0,0)→xs.map (AV.den β)=vs) (hO:Own w b l) (hn:xs.length≤fn.ntmps) (h0n:0<fn.ntmps)
  (h:∀a w',Holds fn.ntmps b w (BT fn.ntmps b w.heap.size l xs) a w'→c.wp P (bodyPost P fn R) a w'):Calls P f vs.toArray w R:=by
 refine calls_of_wp hf hb (h _ _ ?_);have hlen:vs.length=xs.length:=by rw[←hx (fun _=>(b,0,0)) rfl,List.length_map]
 have hg:∀j u,vs[j]?=some u→(vs.toArray++Array.replicate (fn.ntmps-vs.toArray.size) undef)[j]?=some u:=fun j u hj=>by
  have hlt:=(List.getElem?_eq_some_iff.1 hj).1;rw[Array.getElem?_append_left (by simpa using hlt)];simpa using hj
 have hz:(fun k=>if k=fn.ntmps then ((w.heap.size,0,0):Bk)else (b,0,0)) 0=(b,0,0):=if_neg (by omega);have hz2:(fun k=>if k=fn.ntmps then ((w.heap.size,0,0):Bk)else (b,0,0)) fn.ntmps=(w.heap.size,0,0):=if_pos rfl;generalize (fun k=>if k=fn.ntmps then ((w.heap.size,0,0):Bk)else (b,0,0))=β at hz hz2;have h0:∀k o l0,Fact.row k o l0∈BT fn.ntmps b w.heap.size l xs→k=0∧o=true:=fun k o l0 hk=>by
  simp only[BT,List.mem_cons,reduceCtorEq,false_or]at hk
  rcases hk with hk|hk
  ·cases hk; exact⟨rfl,rfl⟩
  ·exact (lZ xs 0 k o l0 hk).elim
 refine⟨rfl,by simp; omega,Below.refl _ _,Nat.le_of_lt hO.lt,β,fun φ hφ => ?_,fun k k' o' l1 l2 h1 h2 hne => ?_,fun k l1 h1=>Or.inl ?_,by rw[hz2]; exact Nat.le_refl _,fun p q1 q2=>⟨rfl,rfl⟩,Shape.refl _⟩
 ·simp only[BT,List.mem_cons]at hφ
  rcases hφ with rfl|rfl|rfl|hφ
  ·exact⟨by rw[hz]; exact hO.lt,by rw[hz]; exact hO.row,fun _=>⟨by rw[hz]; exact Nat.le_refl _,by rw[hz],by rw[hz]; exact hO.free⟩,fun h=>by cases h⟩
  ·exact⟨by rw[hz],by rw[hz]⟩
  ·exact⟨by rw[hz2],by rw[hz2]⟩
  ·refine oW _ _ xs 0 (fun j v hj => ?_) φ hφ;rw[Nat.zero_add];exact hg j _ (by rw[←hx β hz,List.getElem?_map,hj]; rfl)
 ·exact (hne ((h0 k true l1 h1).1.trans (h0 k' o' l2 h2).1.symm)).elim
 ·rw[(h0 k true l1 h1).1,hz]
end
def UD (P:Program) (q:EqT) (C:Nat→Cfg) (fn:Func) (n b N:Nat) (l:List At) (xs:List AV):Option (List Prop×RV×List At×Nat×Nat) :=
 match fn.body with
 | some c=>bif Nat.ble xs.length fn.ntmps&&Nat.blt 0 fn.ntmps then (match run P q fn.ntmps C n c (BT fn.ntmps b N l xs)with
   | some (ps,.rt,A)=>match kJ P A fn.results.toList,cQ A 0,lY A 0,lY A fn.ntmps with
    | some x,some (true,L),some b',some N'=>match rv x with|some r=>some (ps,r,L,b',N')|none=>none
    | _,_,_,_=>none
   | _=>none)else none
 | none=>none
theorem xD {P:Program} {q:EqT} {C:Nat→Cfg} {w:World} {b:Nat} (hm:P.follows .mixedOrders=true) (hT:∀n d,TabOkW P ((C n).T d) b w) (hq:bH P q b w) {f:FuncId} {fn:Func} (hf:P.funcs[f]?=some fn) {n:Nat} {l L:List At} {xs:List AV} {vs:List Value} {ps:List Prop} {r:RV}
  (h:UD P q C fn n b w.heap.size l xs=some (ps,r,L,b,w.heap.size)) (hps:aO ps) (hx:∀β:Nat→Bk,β 0=(b,0,0)→xs.map (AV.den β)=vs) (hO:Own w b l):Calls P f vs.toArray w (oY b w r L):=by
 unfold UD at h;split at h
 ·rename_i c hb;cases hle:(Nat.ble xs.length fn.ntmps&&Nat.blt 0 fn.ntmps)<;>rw[hle]at h
  ·cases h
  ·rw[Bool.and_eq_true]at hle;simp only[cond_true]at h;split at h
   ·rename_i ps' A hrun;split at h
    ·rename_i x L' b' N' hx' hrow hb' hN';split at h
     ·rename_i r' hr;cases h;refine pY hf hb hx hO (Nat.le_of_ble_eq_true hle.1) (by simpa using hle.2) fun a w' hH=>(cH (P:=P) (q:=q) (nt:=fn.ntmps) (C:=C) hm hT hq n c _ A ps .rt a w' _ hrun hps hH fun a w' hA => ?_).1
      exact BN hx' hr hA ⟨rfl,hA.wrc (aS hrow) (dC hb') (dC hN')⟩
     ·cases h
    ·cases h
   ·cases h
 ·cases h
def Ce (P:Program) (T:Tab6) (w:World):Prop:=∀f b row cs pre r l,T f b row cs=some (pre,r,l)→aO pre→(∀args w,(callFunc f args).run P w=.ok (.enter f args) w) ∧
 ∀(args:List Value),b<w.heap.size→w.rangeAt b 0 (aC row)→(∀q,w.frozen? ⟨b,q,none⟩=false)→CBs w b cs args→Calls P f args.toArray w (oY b w r l)
theorem NX {P:Program} {x:Ext} {base:Nat} {w:World} (ho:∀b o l,x.old b o l→b<base∧w.rangeAt b o (aC l)) (h2:∀w',Below base w w'→FrAt P x.T2 w') (h3:∀w',Below base w w'→FsAt P x.T3 w') (h6:∀w',Below base w w'→Ce P x.T6 w') (h4:WrOk P x.T4:=by exact IX _) (h5:PtOk P x.T5:=by exact IZ _):ExtOk P x base w:=fun w' hb =>
 ⟨fun b o l h=>cX hb (ho b o l h).1 (ho b o l h).2,h2 w' hb,h3 w' hb,fun f cs pre j l hg hp=>⟨(h4 f cs pre j l hg hp).1,fun args ha=>(h4 f cs pre j l hg hp).2 args w' ha⟩,fun f cs pre j r l hg hp=>⟨(h5 f cs pre j r l hg hp).1,fun args ha=>(h5 f cs pre j r l hg hp).2 args w' ha⟩,h6 w' hb⟩
def Ey (base:Nat) (w:World) (ld:Nat→Option (List At)):Ext:={ Ext.none with ld:=ld,old:=fun b o l=>b<base∧w.rangeAt b o (aC l),T2:=vD,T3:=CL,T4:=CI,T5:=CJ,T6:=CK }
theorem QT (base:Nat) (w:World) (ld:Nat→Option (List At)):bH prog { qG prog with x:=Ey base w ld } base w :=
 ⟨(aW _).1,eN (fun b o l h=>h) (fun w' _=>FrAt.none _ _) (fun w' _=>FsAt.none _ _)⟩
theorem KV (w:World) (b N bb i x y:Nat):UD prog { qG prog with x:=Ey b w (aE [(8,[.q y])]) } (bW fun _=>none) f89 40 b N [.q x] [.im (iI i),.pt 0 0,.im (cU bb 0)]=some ([bb<b∧w.rangeAt bb 0 (aC [.q y]),cN [.q y]=4,x<RM,y<RM],.one (.fl [.q x]),[.q (gH x y)],b,N):=by kernel_rfl
theorem AU {w:World} {b bb i x y:Nat} (hO:Own w b [.q x]) (hb:bb<b) (hr:w.rangeAt bb 0 (aC [At.q y])) (hx:x<RM) (hy:y<RM):Calls prog 89 #[iI i,cU b 0,cU bb 0] w (oY b w (.one (.fl [.q x])) [.q (gH x y)]) :=
 xD aK (fun _ _=>bD.w _ _) (QT b w _) func89 (KV w b w.heap.size bb i x y) ⟨⟨hb,hr⟩,rfl,hx,hy,trivial⟩ (vs:=[iI i,cU b 0,cU bb 0]) (fun β h=>by simp[AV.den,h,cU]) hO
def Fe (bb y:Nat) (b:Nat) (row:List At):List CB→Option (List Prop×RV×List At)
 | [.v (.im (.int .i64 (.ofNat i))),.pt o,.v (.im u)]=>match row with
  | [.q x]=>some ([o=0,u=cU bb 0,x<RM,bb<b],.one (.fl [.q x]),[.q (gH x y)])
  | _=>none
 | _=>none
def VJ (bb y:Nat):Tab6:=CK.add 89 (Fe bb y)
theorem PE {w w':World} {base bb y:Nat} (hb:bb<base) (hr:w.rangeAt bb 0 (aC [At.q y])) (hy:y<RM) (hw:Below base w w'):Ce prog (VJ bb y) w':=by
 intro f b row cs pre r l hg hp;unfold VJ Tab6.add at hg;cases hq:Nat.beq f 89<;>rw[hq]at hg
 ·cases hg
 ·cases Nat.eq_of_beq_eq_true hq;refine⟨fun args w=>bQ func89 (by kernel_rfl) (by kernel_rfl) args w,fun args h1 h2 h3 h4 => ?_⟩;simp only[cond_true]at hg;unfold Fe at hg;split at hg
  ·rename_i i o u;split at hg
   ·rename_i x;cases hg;obtain⟨rfl,rfl,hx,hbb,_⟩:=hp
    match args,h4 with
    | [v1,v2,v3],h4 =>
     obtain⟨e1,e2,e3,_⟩:=h4;have e1:v1=iI i:=e1;have e2:v2=cU b 0:=e2;have e3:v3=cU bb 0:=e3;subst e1; subst e2; subst e3;exact AU ⟨h1,h2,h3⟩ hbb (cX hw hb hr) hx hy
    | [],h4=>exact h4.elim
    | [_],h4=>exact h4.2.elim
    | [_,_],h4=>exact h4.2.2.elim
    | _::_::_::_::_,h4=>exact h4.2.2.2.elim
   ·cases hg
  ·cases hg
def IL (b N0:Nat) (v:Value) (S Z:List At) (N i:Nat):List Fact:=[.row 0 true S,.at 0 b,.at f67.ntmps N0,.slot 1 (.im v),.slot 5 (.sl 8 0 N N),.row 8 true Z,.slot 10 (.im (iI N)),.slot 11 (.im (iI i))]
def VB (b N0:Nat) (v:Value) (S:List At) (N:Nat):List Fact:=[.row 0 true S,.at 0 b,.at f67.ntmps N0,.slot 0 (.im (iI N)),.slot 1 (.im v)]
def VA (b N0:Nat) (v:Value) (S Z:List At) (N:Nat):List Fact:=[.row 0 true S,.at 0 b,.at f67.ntmps N0,.slot 1 (.im v),.slot 5 (.sl 8 0 N N),.row 8 true Z]
theorem Bm (b N0:Nat) (v:Value) (S:List At) (N:Nat):aM prog (qG prog) f67.ntmps (bW fun _=>none) 40 (cA dF) (BT f67.ntmps b N0 S [.im (iI N),.im v]) (VB b N0 v S N)=some ([],.nrm,VB b N0 v S N):=by kernel_rfl
theorem Bl (b N0:Nat) (v:Value) (S Z:List At) (N:Nat):aM prog { qG prog with x:=xM 8 N Z } f67.ntmps (bW fun _=>none) 40 (cA (cB dF)) (VB b N0 v S N) (VA b N0 v S Z N)=some ([∃e,∀w:World,(Instr.makeSlice 22 (iI N) (iI N)).run prog w=.ok (.slice (some ⟨w.heap.size,0,none⟩) N N) (w.alloc (.cells (aC Z).toArray e))],.nrm,VA b N0 v S Z N):=by kernel_rfl
theorem Bj (b N0:Nat) (v:Value) (S Z:List At) (N:Nat):aM prog (qG prog) f67.ntmps (bW fun _=>none) 40 (cA (cA (cB (cB dF)))) (VA b N0 v S Z N) (IL b N0 v S Z N 0)=some ([],.nrm,IL b N0 v S Z N 0):=by kernel_rfl
def xP (bb y d i:Nat) (Z:List At):Ext:={ Ext.none with idx:=aE [(18,0),(d,i)],st:=aE [(d,Z)],ky:=aE [(18,0)],T2:=vD,T3:=CL,T4:=CI,T5:=CJ,T6:=VJ bb y }
theorem WE {w:World} {b bb y d i:Nat} {Z:List At} (hb:bb<b) (hr:w.rangeAt bb 0 (aC [At.q y])) (hy:y<RM):bH prog { qG prog with x:=xP bb y d i Z } b w :=
 ⟨(aW _).1,NX (fun b o l h=>h.elim) (fun w' _=>FrAt.none _ _) (fun w' _=>FsAt.none _ _) (fun w' hw=>PE hb hr hy hw)⟩
theorem Bn (b N0 bb y:Nat) (Z Z':List At) (N i x:Nat):aM prog { qG prog with x:=xP bb y 19 i Z' } f67.ntmps (bW (aE [(12,.bool true),(20,iI (i+1))])) 60 oT (IL b N0 (mL 89 [cU b 0,cU bb 0]) [.q x] Z N i) (IL b N0 (mL 89 [cU b 0,cU bb 0]) [.q (gH x y)] Z' N (i+1))=some ([aD .lss .i64 (Int.ofNat i) (Int.ofNat N)=some (.bool true),b=b,0=0,cU bb 0=cU bb 0,x<RM,bb<b,Int.ofNat i=Int.ofNat i,i<N,put Z (0+i*4) [.q x]=some Z',aD .add .i64 (Int.ofNat i) 1=some (iI (i+1))],.nrm,IL b N0 (mL 89 [cU b 0,cU bb 0]) [.q (gH x y)] Z' N (i+1)):=by kernel_rfl
theorem VC (b N0:Nat) (v:Value) (S Z:List At) (N i:Nat):aM prog (qG prog) f67.ntmps (bW (aE [(12,.bool false)])) 40 oT (IL b N0 v S Z N i) (IL b N0 v S Z N i)=some ([aD .lss .i64 (Int.ofNat i) (Int.ofNat N)=some (.bool false)],.ex 0,IL b N0 v S Z N i):=by kernel_rfl
def Bi (b N0:Nat) (S Z:List At) (N:Nat):List Fact:=[.row 0 true S,.at 0 b,.at f67.ntmps N0,.slot 4 (.sl 8 0 N N),.row 8 true Z]
theorem OR (b N0:Nat) (v:Value) (S Z:List At) (N i:Nat):aM prog (qG prog) f67.ntmps (bW fun _=>none) 40 (cB (cB (cB dF))) (IL b N0 v S Z N i) (Bi b N0 S Z N)=some ([],.rt,Bi b N0 S Z N):=by kernel_rfl
def gX (x y:Nat):Nat→Nat
 | 0=>x
 | i+1=>gH (gX x y i) y
theorem wD {x y:Nat} (h:x<RM):∀i,gX x y i<RM
 | 0=>h
 | i+1=>eU _ _
def FW (b:Nat) (w:World) (n:Nat) (l S:List At) (e:Ending) (w':World):Prop:=∃b2,e=.returned (aZ b2 0 n n)∧WrC w w' b∧w'.rangeAt b 0 (aC S)∧w.heap.size≤b2∧b2<w'.heap.size∧w'.rangeAt b2 0 (aC l)∧∀j,w'.frozen? ⟨b2,j,none⟩=false
theorem BM {P:Program} {fn:Func} {A:List Fact} {w:World} {b s k n:Nat} {l S:List At} (hr:fn.results = #[.tmp s]) {a:Act} {w':World} (hA:Holds fn.ntmps b w A a w') (h0:Fact.row 0 true S∈A) (h1:Fact.at 0 b∈A) (h2:Fact.at fn.ntmps w.heap.size∈A) (h3:Fact.slot s (.sl k 0 n n)∈A) (h4:Fact.row k true l∈A) (hk:k≠0) :
  bodyPost P fn (FW b w n l S) .ret a w':=by
 obtain⟨q1,q2⟩:=hA.wrc h0 h1 h2;obtain⟨β,hok,hinj,hown,_⟩:=hA.facts;obtain⟨g1,g2,g3,_⟩:=hok _ h4;obtain⟨g4,g5,g6⟩:=g3 rfl;have e1:=hok _ h3;have e2:=hok _ h1;have e3:=hok _ h2;simp only[Fact.ok,AV.den]at e1 e2 e3;rw[g5]at e1 g2;have hne:=hinj k 0 true l S h4 h0 hk;rw[e2.1]at hne;have hge:w.heap.size≤(β k).1:=by
  rcases hown k l h4 with e|e
  ·exact absurd e hne
  ·rw[e3.1]at e; exact e
 have hres:(results fn a.tmps).run P w'=.ok (aZ (β k).1 0 n n) w':=by
  show ((fn.results.mapM (gW a.tmps)) >>= fun vs=>pure (if h:vs.size=1 then vs[0]else .tuple vs):Sem Value).run P w'=_;have q1:(gW a.tmps (.tmp s)).run P w'=.ok (aZ (β k).1 0 n n) w':=by
   show (pure (a.tmps.getD s undef):Sem Value).run P w'=_;rw[show a.tmps.getD s undef=aZ (β k).1 0 n n by simp[e1,aZ]]; rfl
  have hm:(List.toArray <$> fn.results.toList.mapM (gW a.tmps)).run P w'=.ok [aZ (β k).1 0 n n].toArray w':=by
   rw[hr];simp[List.mapM_cons,q1]
  rw[Array.mapM_eq_mapM_toList,Sem.run_bind,hm,Result.andThen_ok,Sem.run_pure];rfl
 exact⟨hA.defers,_,hres,(β k).1,rfl,q1,q2,hge,g1,g2,g6⟩
theorem IN {w0:World} {b bb N x y:Nat} (hN:N≤131072) (hO:Own w0 b [.q x]) (hb:bb<b) (hr:w0.rangeAt bb 0 (aC [At.q y])) (hx:x<RM) (hy:y<RM) :
  Calls prog 67 #[iI N,mL 89 [cU b 0,cU bb 0]] w0 (FW b w0 N (aV (el (gX x y)) 0 N) [.q (gX x y N)]):=by
 have hG:bH prog (qG prog) b w0:=(aW _).w _ _;have hT:∀n d:Nat,TabOkW prog dO b w0:=fun _ _=>bD.w _ _
 refine pY func67 (xs:=[.im (iI N),.im (mL 89 [cU b 0,cU bb 0])]) (vs:=[iI N,mL 89 [cU b 0,cU bb 0]]) (c:=dF) rfl (fun β _=>rfl) hO (Nat.le_of_ble_eq_true (by kernel_rfl)) (by decide) fun a w' hA' => ?_
 rw[zS];refine wp_seq (aA aK hT hG (Bm b _ _ _ N) trivial hA' fun a w' hA' => ?_);refine wp_seq (aA aK hT (PL 8 N (aV (fun _=>[.q 0]) 0 N) _ _) (Bl b _ _ _ (aV (fun _=>[.q 0]) 0 N) N) ⟨QC (t:=22) (e:=25) (z:=[.q 0]) (v:=.int .u64 0) (n:=4) (by8:=32) (by kernel_rfl) (by kernel_rfl) rfl uH (by omega) (by omega) (by omega),trivial⟩ hA' fun a w' hA' => ?_);refine wp_seq (wp_seq (aA aK hT hG (Bj b _ _ _ _ N) trivial hA' fun a w' hA' => ?_));refine wp_block ?_;rw[←FX (el (gX x y))]at hA';refine dA aK (fun i=>IL b w0.heap.size (mL 89 [cU b 0,cU bb 0]) [.q (gX x y i)] (nZ (el (gX x y)) [.q 0] N i) N i) N (fun i hi => ?_) (.ex 0) (by simp) (IL b w0.heap.size (mL 89 [cU b 0,cU bb 0]) [.q (gX x y N)] (aV (el (gX x y)) 0 N) N N) ?_ hA' fun a w' hA' => ?_
 ·exact⟨_,_,_,_,WE (i:=i) (Z:=nZ (el (gX x y)) [.q 0] N (i+1)) hb hr hy,hT,Bn b _ bb y _ _ N i (gX x y i),cZ hi,rfl,rfl,rfl,wD hx i,hb,rfl,hi,tF (f:=el (gX x y)) (c:=4) (fun _=>rfl) rfl hi (Nat.zero_add _),fF (k:=1) (by omega),trivial⟩
 ·rw[←FV (el (gX x y)) [.q 0] N];exact⟨_,_,_,_,hG,hT,VC b _ _ _ _ N N,dZ (Nat.le_refl _),trivial⟩
 ·show (cB (cB (cB dF))).wp _ _ _ _;exact aA aK hT hG (OR b _ _ _ _ N N) trivial hA' fun a w' hA=>BM rfl hA (List.mem_of_getElem? (i:=0) rfl) (List.mem_of_getElem? (i:=1) rfl) (List.mem_of_getElem? (i:=2) rfl) (List.mem_of_getElem? (i:=3) rfl) (List.mem_of_getElem? (i:=4) rfl) (by omega)
theorem Holds.anew {nt base:Nat} {w0:World} {A:List Fact} {a:Act} {w:World} (h:Holds nt base w0 A a w) {w':World} (hb:Below base w0 w') (hs:Shape w w') (hh:base≤w'.heap.size) {d k b n:Nat} {l:List At} (hd:d<nt) (h1:base≤b) (h2:b<w'.heap.size) (h3:w'.rangeAt b 0 (aC l)) (h4:∀j,w'.frozen? ⟨b,j,none⟩=false) (hk:k≠nt) :
  Holds nt base w0 [.slot d (.sl k 0 n n),.row k true l] (a.put (some d) (aZ b 0 n n)) w':=by
 obtain⟨β,g1,g2,g3,gt⟩:=h.facts;refine⟨by rw[eH]; exact h.defers,by rw[dB]; exact h.size,hb,hh,fun j=>if j=nt then (0,0,0)else (b,0,0),fun φ hφ => ?_,fun k1 k2 o2 l1 l2 q1 q2 hne => ?_,fun k1 l1 q1=>Or.inr ?_,?_,fun p p1 p2 => ?_,gt.shape.trans hs⟩
 ·simp only[List.mem_cons,List.not_mem_nil,or_false]at hφ
  rcases hφ with rfl|rfl
  ·show (a.put (some d) _).tmps[d]?=_;rw[dY _ _ _ (by rw[h.size]; exact hd)];simp[AV.den,hk,aZ]
  ·refine⟨by simp[hk,h2],?_,fun _=>⟨by simp[hk,h1],by simp[hk],fun j=>by simp[hk,h4]⟩,fun h=>by cases h⟩;show w'.rangeAt (if k=nt then ((0,0,0):Bk)else (b,0,0)).1 (if k=nt then ((0,0,0):Bk)else (b,0,0)).2.1 _;rw[if_neg hk]; exact h3
 ·simp only[List.mem_cons,List.not_mem_nil,or_false,reduceCtorEq,false_or]at q1 q2;cases q1; cases q2; exact (hne rfl).elim
 ·show (if nt=nt then ((0,0,0):Bk)else (b,0,0)).1≤_;rw[if_pos rfl]; exact Nat.zero_le _
 ·show (if nt=nt then ((0,0,0):Bk)else (b,0,0)).1≤_;rw[if_pos rfl]; exact Nat.zero_le _
 ·exfalso;have h2:p.block<(if nt=nt then ((0,0,0):Bk)else (b,0,0)).1:=p2;rw[if_pos rfl]at h2;exact absurd h2 (Nat.not_lt_zero _)
def eV:Code:=(f70.body).getD .skip
theorem LR:eV=.seq (cA eV) (.seq (cA (cB eV)) (.seq (.region 2 (bJ (cA (cB (cB eV)))) false) .ret)):=by kernel_rfl
def AT (x y N:Nat):List Fact:=[.slot 2 (.im (iI N)),.slot 3 (.pt 3 0),.row 3 true [.q x],.slot 4 (.pt 4 0),.row 4 true [.q y]]
theorem YE (x y N:Nat):aM prog (qG prog) f70.ntmps (bW fun _=>none) 40 (cA eV) (eK 0 [.v (.fl [.q x]),.v (.fl [.q y]),.v (.im (iI N))]) (AT x y N)=some ([],.nrm,AT x y N):=by kernel_rfl
def Cj (x N b4:Nat):List Fact:=[.slot 2 (.im (iI N)),.slot 4 (.im (cU b4 0)),.slot 7 (.pt 7 0),.row 7 true [.q x]]
theorem YD (w:World) (x N b3 b4:Nat):aM prog { qG prog with x:=xO w (fun _=>none) (aE [(8,[.q x])]) (fun _=>none) } f70.ntmps (bW fun _=>none) 40 (cA (cB eV)) (mC [(2,.im (iI N)),(3,.im (cU b3 0)),(4,.im (cU b4 0))]) (Cj x N b4)=some ([oldOf w b3 0 [.q x],cN [.q x]=4],.nrm,Cj x N b4):=by kernel_rfl
def VP (x N b4 b7:Nat):List Fact:=[.slot 9 (.im (iI N)),.slot 10 (.im (mL 89 [cU b7 0,cU b4 0])),.at 7 b7,.row 7 true [.q x]]
theorem YC (x N b4 b7:Nat):iG prog (qG prog) f70.ntmps dX ((bJ (cA (cB (cB eV)))).extract 0 2) (.at 7 b7::Cj x N b4) (VP x N b4 b7)=some ([],VP x N b4 b7):=by kernel_rfl
theorem YB (N:Nat) (l:List At):iG prog (qG prog) f70.ntmps dX ((bJ (cA (cB (cB eV)))).extract 3 4) [.slot 11 (.sl 1000 0 N N),.row 1000 true l] [.slot 6 (.sl 1000 0 N N),.row 1000 true l]=some ([],[.slot 6 (.sl 1000 0 N N),.row 1000 true l]):=by kernel_rfl
theorem AS {w0:World} {N x y:Nat} (hN:N≤131072) (hx:x<RM) (hy:y<RM) :
  Calls prog 70 #[.agg (aC [At.q x]).toArray,.agg (aC [At.q y]).toArray,iI N] w0 (fun e w'=>FR.ok ⟨aV (el (gX x y)) 0 N,N,N,[]⟩ w0 e w'):=by
 have hG:bH prog (qG prog) w0.heap.size w0:=(aW _).w _ _;have hT:∀n d:Nat,TabOkW prog dO w0.heap.size w0:=fun _ _=>bD.w _ _
 refine bP func70 (cs:=[.v (.fl [.q x]),.v (.fl [.q y]),.v (.im (iI N))]) (args:=[.agg (aC [At.q x]).toArray,.agg (aC [At.q y]).toArray,iI N]) (c:=eV) rfl ⟨rfl,rfl,rfl,trivial⟩ (Nat.le_of_ble_eq_true (by kernel_rfl)) fun a w1 hA => ?_
 rw[LR];refine wp_seq (aA aK hT hG (YE x y N) trivial hA fun a w1 hA => ?_);obtain⟨b3,hA⟩:=hA.at (k:=3) (l:=[.q x]) (by simp[AT]);obtain⟨b4,hA⟩:=hA.at (k:=4) (l:=[.q y]) (by simp[AT]);have o3:oldOf w1 b3 0 [.q x]:=hA.old (k:=3) (by simp[AT]) (by simp[AT]);have o4:oldOf w1 b4 0 [.q y]:=hA.old (k:=4) (by simp[AT]) (by simp[AT]);have hF:=hA.fresh [(2,.im (iI N)),(3,.im (cU b3 0)),(4,.im (cU b4 0))] (fun z hz=>by
  simp only[List.mem_cons,List.not_mem_nil,or_false]at hz
  rcases hz with rfl|rfl|rfl
  ·exact hA.slot (v:=iI N) (by simp[AT])
  ·exact hA.ptr (s:=3) (k:=3) (by simp[AT]) (by simp[AT])
  ·exact hA.ptr (s:=4) (k:=4) (by simp[AT]) (by simp[AT]))
 have hb1:=hA.below;clear hA;refine wp_seq (aA aK (fun _ _=>bD.w _ _) (fK w1 _ _ _) (YD w1 x N b3 b4) ⟨o3,rfl,trivial⟩ hF fun a w2 hA => ?_);obtain⟨b7,hA⟩:=hA.at (k:=7) (l:=[.q x]) (by simp[Cj]);refine wp_seq (fH (l:=List.range' 0 ((bJ (cA (cB (cB eV)))).extract 0 2).size++(2::(List.range' 3 ((bJ (cA (cB (cB eV)))).extract 3 4).size++[]))) (by kernel_rfl) ?_);refine bG (c:=dX) (fun _=>bD.w _ _) ((aW _).w _ _) (YC x N b4 b7) trivial (by kernel_rfl) hA fun a w3 hA => ?_
 have h9:=hA.slot (s:=9) (v:=iI N) (by simp[VP]);have h10:=hA.slot (s:=10) (v:=mL 89 [cU b7 0,cU b4 0]) (by simp[VP]);obtain⟨hO,hge⟩:Own w3 b7 [.q x]∧w1.heap.size≤b7:=by
  obtain⟨β,g1,_⟩:=hA.facts;obtain⟨q1,q2,q3,_⟩:=g1 (.row 7 true [.q x]) (by simp[VP]);obtain⟨q4,q5,q6⟩:=q3 rfl;obtain⟨q7,q8⟩:=g1 (.at 7 b7) (by simp[VP]);rw[q7]at q1 q2 q4;rw[q5]at q2;exact⟨⟨q1,q2,fun j=>by rw[←q7]; exact q6 j⟩,q4⟩
 have hlt4:b4<b7:=Nat.lt_of_lt_of_le o4.1 hge;obtain⟨o,ho,hoo,hod,hog⟩:∃o,(bJ (cA (cB (cB eV))))[2]?=some o∧(∃ts,o.op=.call ⟨.value (.func 67),#[.tmp 9,.tmp 10],ts⟩)∧o.dst=some 11∧o.guard=none:=⟨_,rfl,⟨_,rfl⟩,rfl,rfl⟩
 obtain⟨ts,hoo⟩:=hoo;refine gI ho hog (nC hoo (vs:=[iI N,mL 89 [cU b7 0,cU b4 0]]) (by simp[Act.eval,h9,h10]) (fun args=>bQ func67 (by kernel_rfl) (by kernel_rfl) args _) (IN hN hO hlt4 (cX hA.below o4.1 o4.2) hx hy) fun e w4 hr => ?_);obtain⟨b2,rfl,hw,_,r2,r3,r4,r5⟩:=hr;refine⟨_,rfl,?_⟩;rw[hod];have hge2:w1.heap.size≤b2:=Nat.le_trans hA.below.size r2;have hA:=hA.anew (d:=11) (k:=1000) (n:=N) (hA.below.trans (hw.below.mono hge)) hw.shape (Nat.le_trans hge2 (Nat.le_of_lt r3)) (by decide) hge2 r3 r4 r5 (by decide);refine bG (c:=dX) (fun _=>bD.w _ _) ((aW _).w _ _) (YB N _) trivial (by kernel_rfl) hA fun a w5 hA => ?_
 exact wp_ret (eR (eI (r:=⟨aV (el (gX x y)) 0 N,N,N,[]⟩) (by kernel_rfl) hA) fun e w h=>h.older hb1)
def ND:List CA→Option (List Prop×FR)
 | [.v (.fl l),.v (.fl m),.v (.im (.int .i64 (.ofNat n)))]=>match kV l,kV m with
  | some x,some y=>some ([x<RM,y<RM,n≤131072],⟨aV (el (gX x y)) 0 n,n,n,[]⟩)
  | _,_=>none
 | _=>none
theorem zC:∀cs pre r,ND cs=some (pre,r)→aO pre→∀(args:List Value) (w:World),cG w cs args→Calls prog 70 args.toArray w (fun e w'=>r.ok w e w'):=by
 intro cs pre r hg hp args w ha;unfold ND at hg;split at hg
 ·rename_i l m n;split at hg
  ·rename_i x y hx hy;cases hg
   match args,ha with
   | [u,v,t],ha =>
    obtain⟨h1,h2,h3,_⟩:=ha;have h1:u=.agg (aC l).toArray:=h1;have h2:v=.agg (aC m).toArray:=h2;have h3:t=iI n:=h3;rw[bU l x hx]at h1;rw[bU m y hy]at h2;subst h1; subst h2; subst h3;exact AS hp.2.2.1 hp.1 hp.2.1
   | [],ha=>exact ha.elim
   | [_],ha=>exact ha.2.elim
   | [_,_],ha=>exact ha.2.2.elim
   | _::_::_::_::_,ha=>exact ha.2.2.2.elim
  ·cases hg
 ·cases hg
def CC (f:Nat→Nat) (x y i:Nat):Nat:=gH (f i) (gX x y i)
theorem KG (w:World) (b o N m i x y b3 b7 b12:Nat):eC prog { qG prog with x:=xO w (aE [(7,i),(11,i)]) (aE [(8,[.q x]),(12,[.q y])]) (aE [(5,aZ b o N m),(9,aZ b12 0 N N)]) } (bW fun _=>none) f72 60 [.v (.im (iI i)),.v (.im (cU b3 0)),.v (.im (cU b7 0))]=some ([oldOf w b3 0 [.c (aZ b o N m)],Int.ofNat i=Int.ofNat i,i<N,oldOf w b (o+i*4) [.q x],cN [.q x]=4,oldOf w b7 0 [.c (aZ b12 0 N N)],Int.ofNat i=Int.ofNat i,i<N,oldOf w b12 (0+i*4) [.q y],cN [.q y]=4,x<RM,y<RM],.one (.fl [.q (gH x y)])):=by kernel_rfl
def fL:Code:=(f35.body).getD .skip
theorem JK:fL=.seq (cA fL) (.seq (.region 1 (bJ (cA (cB fL))) false) (cB (cB fL))):=by kernel_rfl
def Cw (v:Value) (x y:Nat):List Fact:=[.slot 3 (.pt 3 0),.row 3 true [.c v],.slot 4 (.pt 4 0),.row 4 true [.q x],.slot 5 (.pt 5 0),.row 5 true [.q y]]
theorem WI (p:Option Addr) (N m x y:Nat):aM prog (qG prog) f35.ntmps (bW fun _=>none) 40 (cA fL) (eK 0 [.v (.im (.slice p N m)),.v (.fl [.q x]),.v (.fl [.q y])]) (Cw (.slice p N m) x y)=some ([],.nrm,Cw (.slice p N m) x y):=by kernel_rfl
def WJ (v:Value) (N:Nat) (l:List At):List Fact:=[.slot 3 (.pt 3 0),.row 3 true [.c v],.slot 12 (.sl 12 0 N N),.row 12 true l]
def Cc:Tab2:=vD.add 70 ND
theorem PG (w:World):FrAt prog Cc w:=(FrAt.none _ _).add func70 (by kernel_rfl) (by kernel_rfl) fun cs pre r h1 h2 args ha=>zC cs pre r h1 h2 args w ha
def Ch (T2:Tab2):Ext:={ Ext.none with T2:=T2,T3:=CL,T4:=CI,T5:=CJ,T6:=CK }
theorem vE {base:Nat} {w:World} {T2:Tab2} (h:∀w',Below base w w'→FrAt prog T2 w'):bH prog { qG prog with x:=Ch T2 } base w :=
 ⟨(aW _).1,eN (fun b o l h=>h.elim) h (fun w' _=>FsAt.none _ _)⟩
theorem WH (p:Option Addr) (N m x y:Nat):iG prog { qG prog with x:=Ch Cc } f35.ntmps dX ((bJ (cA (cB fL))).extract 0 5) (Cw (.slice p N m) x y) (WJ (.slice p N m) N (aV (el (gX x y)) 0 N))=some ([x<RM,y<RM,N≤131072],WJ (.slice p N m) N (aV (el (gX x y)) 0 N)):=by kernel_rfl
def JD (v:Value) (N b12:Nat) (l:List At):List Fact:=[.at 12 b12,.slot 3 (.pt 3 0),.row 3 true [.c v],.row 12 true l,.slot 7 (.pt 7 0),.row 7 true [.c (aZ b12 0 N N)]]
theorem WG (v:Value) (N b12:Nat) (l:List At):iG prog (qG prog) f35.ntmps dX ((bJ (cA (cB fL))).extract 5 7) (.slot 12 (.im (aZ b12 0 N N)) :: .at 12 b12::WJ v N l) (JD v N b12 l)=some ([],JD v N b12 l):=by kernel_rfl
theorem WF (w:World) (p:Option Addr) (N m b3 b7:Nat) (g:Nat→Nat):aM prog { qG prog with x:=xB w (aE [(13,.slice p N m)]) (vD.add 67 (GH 72 [cU b3 0,cU b7 0] N g)) } f35.ntmps (bW fun _=>none) 40 (cB (cB fL)) (mC [(3,.im (cU b3 0)),(7,.im (cU b7 0))]) [.slot 6 (.sl 16 0 N N),.row 16 true (aV (el g) 0 N)]=some ([oldOf w b3 0 [.c (.slice p N m)],iI N=iI N,mL 72 [cU b3 0,cU b7 0]=mL 72 [cU b3 0,cU b7 0]],.rt,[.slot 6 (.sl 16 0 N N),.row 16 true (aV (el g) 0 N)]):=by kernel_rfl
theorem CQ {w0:World} {v:Value} {N x y:Nat} {f:Nat→Nat} (hv:LV w0 v N f) (hN:N≤131072) (hf:dD N f) (hx:x<RM) (hy:y<RM) :
  Calls prog 35 #[v,.agg (aC [At.q x]).toArray,.agg (aC [At.q y]).toArray] w0 (fun e w'=>FR.ok ⟨aV (el (CC f x y)) 0 N,N,N,[]⟩ w0 e w'):=by
 have hG:bH prog (qG prog) w0.heap.size w0:=(aW _).w _ _;have hT:∀n d:Nat,TabOkW prog dO w0.heap.size w0:=fun _ _=>bD.w _ _
 obtain⟨p,m,rfl,hm,h256,hmem⟩:=id hv;refine bP func35 (cs:=[.v (.im (.slice p N m)),.v (.fl [.q x]),.v (.fl [.q y])]) (args:=[.slice p N m,.agg (aC [At.q x]).toArray,.agg (aC [At.q y]).toArray]) (c:=fL) rfl ⟨rfl,rfl,rfl,trivial⟩ (Nat.le_of_ble_eq_true (by kernel_rfl)) fun a w1 hA => ?_
 rw[JK];refine wp_seq (aA aK hT hG (WI p N m x y) trivial hA fun a w1 hA => ?_);refine wp_seq (fH (l:=List.range' 0 ((bJ (cA (cB fL))).extract 0 5).size++(List.range' 5 ((bJ (cA (cB fL))).extract 5 7).size++[])) (by kernel_rfl) ?_);refine bG (c:=dX) (hT 0) (vE fun w' _=>PG w') (WH p N m x y) ⟨hx,hy,hN,trivial⟩ (by kernel_rfl) hA fun a w1 hA => ?_
 obtain⟨b12,hA⟩:=hA.at (k:=12) (l:=aV (el (gX x y)) 0 N) (by simp[WJ]);have hA:=hA.im (s:=12) (k:=12) (o:=0) (n:=N) (m:=N) (b:=b12) (by simp[WJ]) (by simp);refine bG (c:=dX) (hT 0) hG (WG _ N b12 _) trivial (by kernel_rfl) hA fun a w2 hA => ?_
 have o12:oldOf w2 b12 0 (aV (el (gX x y)) 0 N):=hA.old (k:=12) (by simp[JD]) (by simp[JD]);obtain⟨b3,hA⟩:=hA.at (k:=3) (l:=[.c (.slice p N m)]) (by simp[JD]);obtain⟨b7,hA⟩:=hA.at (k:=7) (l:=[.c (aZ b12 0 N N)]) (by simp[JD]);have o3:oldOf w2 b3 0 [.c (.slice p N m)]:=hA.old (k:=3) (by simp[JD]) (by simp);have o7:oldOf w2 b7 0 [.c (aZ b12 0 N N)]:=hA.old (k:=7) (by simp[JD]) (by simp);have hF:=hA.fresh [(3,.im (cU b3 0)),(7,.im (cU b7 0))] (fun z hz=>by
  simp only[List.mem_cons,List.not_mem_nil,or_false]at hz
  rcases hz with rfl|rfl
  ·exact hA.ptr (s:=3) (k:=3) (by simp[JD]) (by simp)
  ·exact hA.ptr (s:=7) (k:=7) (by simp[JD]) (by simp))
 refine aA aK (fun _ _=>bD.w _ _) (yC fun w3 hw => ?_) (WF w2 p N m b3 b7 (CC f x y)) ⟨o3,rfl,rfl,trivial⟩ hF fun a w4 hA2 => ?_
 ·refine (FrAt.none _ _).add func67 (by kernel_rfl) (by kernel_rfl) (rP hN (fun args w=>bQ func72 (by kernel_rfl) (by kernel_rfl) args w) fun i hi w5 hw5 => ?_);obtain⟨b,o,rfl,hb,hr⟩:=hmem (by omega);have hw25:=hw.trans (hw5.mono hw.size);have hb5:=hA.below.trans (hw25.mono hA.below.size);have q3:=oldOf.go hw25 (Nat.le_refl _) o3;have q7:=oldOf.go hw25 (Nat.le_refl _) o7;have Dr:=oldOf.go hw25 (Nat.le_refl _) o12;exact bM aK (fun _ _=>bD.w _ _) (fK w5 _ _ _) func72 (KG w5 b o N m i (f i) (gX x y i) b3 b7 b12) ⟨q3,rfl,hi,eW (Nat.lt_of_lt_of_le hb hb5.size) (cX hb5 hb hr) hi,rfl,q7,rfl,hi,eW Dr.1 Dr.2 hi,rfl,hf i hi,wD hx i,trivial⟩ (args:=[iI i,cU b3 0,cU b7 0]) ⟨rfl,rfl,rfl,trivial⟩
 ·exact eR (eI (r:=⟨aV (el (CC f x y)) 0 N,N,N,[]⟩) (by kernel_rfl) hA2) fun e w h=>h.older hA.below
def IR (nt b N:Nat) (l lt:List At) (xs:List AV):List Fact:=.row 0 true l :: .at 0 b :: .at nt N :: .row 1 false lt::uS 0 xs
theorem BP {P:Program} {w:World} {R:Ending→World→Prop} {f:FuncId} {fn:Func} (hf:P.funcs[f]?=some fn) {c:Code} (hb:fn.body=some c) {b bt ot:Nat} {l lt:List At} {xs:List AV} {vs:List Value} (hx:∀β:Nat→Bk,β 0=(b,0,0)→β 1=(bt,ot,0)→xs.map (AV.den β)=vs) (hO:Own w b l) (hbt:bt<w.heap.size) (hrt:w.rangeAt bt ot (aC lt)) (hne:bt≠b) (hn:xs.length≤fn.ntmps) (h0n:1<fn.ntmps)
  (h:∀a w',Holds fn.ntmps b w (IR fn.ntmps b w.heap.size l lt xs) a w'→c.wp P (bodyPost P fn R) a w'):Calls P f vs.toArray w R:=by
 refine calls_of_wp hf hb (h _ _ ?_);have hlen:vs.length=xs.length:=by rw[←hx (fun j=>if j=0 then (b,0,0)else (bt,ot,0)) rfl rfl,List.length_map]
 have hg:∀j u,vs[j]?=some u→(vs.toArray++Array.replicate (fn.ntmps-vs.toArray.size) undef)[j]?=some u:=fun j u hj=>by
  have hlt:=(List.getElem?_eq_some_iff.1 hj).1;rw[Array.getElem?_append_left (by simpa using hlt)];simpa using hj
 obtain⟨β,hz,hz1,hz2⟩:∃β:Nat→Bk,β 0=(b,0,0)∧β 1=(bt,ot,0)∧β fn.ntmps=(w.heap.size,0,0) :=
  ⟨fun k=>if k=fn.ntmps then (w.heap.size,0,0)else if k=1 then (bt,ot,0)else (b,0,0),by simp; omega,by simp; omega,by simp⟩
 have h0:∀k o l0,Fact.row k o l0∈IR fn.ntmps b w.heap.size l lt xs→(k=0∧o=true)∨(k=1∧o=false):=fun k o l0 hk=>by
  simp only[IR,List.mem_cons,reduceCtorEq,false_or]at hk
  rcases hk with hk|hk|hk
  ·cases hk; exact Or.inl ⟨rfl,rfl⟩
  ·cases hk; exact Or.inr ⟨rfl,rfl⟩
  ·exact (lZ xs 0 k o l0 hk).elim
 refine⟨rfl,by simp; omega,Below.refl _ _,Nat.le_of_lt hO.lt,β,fun φ hφ => ?_,fun k k' o' l1 l2 h1 h2 hne2 => ?_,fun k l1 h1=>Or.inl ?_,by rw[hz2]; exact Nat.le_refl _,fun p q1 q2=>⟨rfl,rfl⟩,Shape.refl _⟩
 ·simp only[IR,List.mem_cons]at hφ
  rcases hφ with rfl|rfl|rfl|rfl|hφ
  ·exact⟨by rw[hz]; exact hO.lt,by rw[hz]; exact hO.row,fun _=>⟨by rw[hz]; exact Nat.le_refl _,by rw[hz],by rw[hz]; exact hO.free⟩,fun h=>by cases h⟩
  ·exact⟨by rw[hz],by rw[hz]⟩
  ·exact⟨by rw[hz2],by rw[hz2]⟩
  ·exact⟨by rw[hz1]; exact hbt,by rw[hz1]; exact hrt,fun h=>(by cases h),fun _=>trivial⟩
  ·refine oW _ _ xs 0 (fun j v hj => ?_) φ hφ;rw[Nat.zero_add];exact hg j _ (by rw[←hx β hz hz1,List.getElem?_map,hj]; rfl)
 ·rcases h0 k true l1 h1 with⟨rfl,_⟩|⟨_,e⟩
  ·rcases h0 k' o' l2 h2 with⟨rfl,_⟩|⟨rfl,_⟩
   ·exact (hne2 rfl).elim
   ·rw[hz,hz1]; exact Ne.symm hne
  ·cases e
 ·rcases h0 k true l1 h1 with⟨rfl,_⟩|⟨_,e⟩
  ·rw[hz]
  ·cases e
def oQ (f:Nat→Nat) (lo hi step:Nat) (tw:Nat→Nat):Nat→Nat→Nat
 | 0=>f
 | j+1=>cF (cF (oQ f lo hi step tw j) (lo+j) (yM (oQ f lo hi step tw j (lo+j)) (gH (oQ f lo hi step tw j (hi+j)) (tw (j*step))))) (hi+j) (lH (oQ f lo hi step tw j (lo+j)) (gH (oQ f lo hi step tw j (hi+j)) (tw (j*step))))
theorem xK {N lo hi step:Nat} {f tw:Nat→Nat} (h:dD N f):∀j,dD N (oQ f lo hi step tw j)
 | 0=>h
 | j+1=>fun i hi2=>by
  unfold oQ cF;split
  ·exact gU _ _
  ·split
   ·exact qZ _ _
   ·exact xK h j i hi2
def oR:Code:=(f71.body).getD .skip
def xL:Code:=jM (jM (cB oR))
theorem OE:oR=.seq (cA oR) (.block 0 (.loop xL)):=by kernel_rfl
def JI (b N0:Nat) (Z lt:List At) (o1 o2 h c1 c2 T step j:Nat):List Fact:=[.row 0 true Z,.at 0 b,.at f71.ntmps N0,.row 1 false lt,.slot 0 (.sl 0 o1 h c1),.slot 1 (.sl 0 o2 h c2),.slot 2 (.sl 1 0 T T),.slot 3 (.im (iI step)),.slot 11 (.im (iI h)),.slot 12 (.im (iI j))]
theorem Aq (b N0:Nat) (Z lt:List At) (o1 o2 h c1 c2 T step:Nat):aM prog (qG prog) f71.ntmps (bW fun _=>none) 40 (cA oR) (IR f71.ntmps b N0 Z lt [.sl 0 o1 h c1,.sl 0 o2 h c2,.sl 1 0 T T,.im (iI step)]) (JI b N0 Z lt o1 o2 h c1 c2 T step 0)=some ([],.nrm,JI b N0 Z lt o1 o2 h c1 c2 T step 0):=by kernel_rfl
theorem Ar (b N0:Nat) (Z Z1 Z2 lt:List At) (o1 o2 h c1 c2 T step j x y t:Nat):aM prog { qG prog with x:=xA (aE [(17,j),(23,j*step),(32,j),(38,j),(42,j),(43,j)]) (aE [(18,[.q y]),(24,[.q t]),(33,[.q x]),(39,[.q x])]) (aE [(42,Z1),(43,Z2)]) (fun _=>none) } f71.ntmps (bW (aE [(13,.bool true),(22,iI (j*step)),(44,iI (j+1))])) 60 xL (JI b N0 Z lt o1 o2 h c1 c2 T step j) (JI b N0 Z2 lt o1 o2 h c1 c2 T step (j+1)) =
  some ([aD .lss .i64 (Int.ofNat j) (Int.ofNat h)=some (.bool true),Int.ofNat j=Int.ofNat j,j<h,pE Z (o2+j*4) 4=some [.q y],aD .mul .i64 (Int.ofNat j) (Int.ofNat step)=some (iI (j*step)),Int.ofNat (j*step)=Int.ofNat (j*step),j*step<T,pE lt (0+j*step*4) 4=some [.q t],y<RM,t<RM,Int.ofNat j=Int.ofNat j,j<h,pE Z (o1+j*4) 4=some [.q x],x<RM,gH y t<RM,Int.ofNat j=Int.ofNat j,j<h,pE Z (o1+j*4) 4=some [.q x],x<RM,gH y t<RM,Int.ofNat j=Int.ofNat j,j<h,put Z (o1+j*4) [.q (yM x (gH y t))]=some Z1,Int.ofNat j=Int.ofNat j,j<h,put Z1 (o2+j*4) [.q (lH x (gH y t))]=some Z2,aD .add .i64 (Int.ofNat j) 1=some (iI (j+1))],.nrm,JI b N0 Z2 lt o1 o2 h c1 c2 T step (j+1)):=by kernel_rfl
theorem UP (b N0:Nat) (Z lt:List At) (o1 o2 h c1 c2 T step j:Nat):aM prog (qG prog) f71.ntmps (bW (aE [(13,.bool false)])) 60 xL (JI b N0 Z lt o1 o2 h c1 c2 T step j) (JI b N0 Z lt o1 o2 h c1 c2 T step j)=some ([aD .lss .i64 (Int.ofNat j) (Int.ofNat h)=some (.bool false)],.ex 0,JI b N0 Z lt o1 o2 h c1 c2 T step j):=by kernel_rfl
theorem qR {f:Nat→Nat} {N i o:Nat} (hi:i<N) (ho:o=i*4):pE (aV (el f) 0 N) o 4=some [.q (f i)]:=qQ (f:=el f) (c:=4) (fun _=>rfl) hi ho
theorem EN {f:Nat→Nat} {N i o x:Nat} (hi:i<N) (ho:o=i*4):put (aV (el f) 0 N) o [.q x]=some (aV (el (cF f i x)) 0 N):=by
 have:=EM (f:=f) (x:=x) hi;rw[Nat.zero_add,←ho]at this;exact this
theorem RA {f:Nat→Nat} {i j x:Nat} (h:j≠i):cF f i x j=f j:=if_neg h
theorem IC {w:World} {b bt ot N lo h c1 c2 step T:Nat} {f tw:Nat→Nat} (hO:Own w b (aV (el f) 0 N)) (hbt:bt<w.heap.size) (hrt:w.rangeAt bt ot (aC (aV (el tw) 0 T))) (hne:bt≠b) (hN:lo+h+h≤N) (hN2:N≤131072) (hf:dD N f) (htw:dD T tw) (hst:∀j,j<h→j*step<T) (hT:T≤131072) :
  Calls prog 71 #[aZ b (lo*4) h c1,aZ b ((lo+h)*4) h c2,aZ bt ot T T,iI step] w (oY b w (.many []) (aV (el (oQ f lo (lo+h) step tw h)) 0 N)):=by
 have hG:bH prog (qG prog) b w:=(aW _).w _ _;have hTb:∀n d:Nat,TabOkW prog dO b w:=fun _ _=>bD.w _ _
 refine BP func71 (xs:=[.sl 0 (lo*4) h c1,.sl 0 ((lo+h)*4) h c2,.sl 1 0 T T,.im (iI step)]) (vs:=[aZ b (lo*4) h c1,aZ b ((lo+h)*4) h c2,aZ bt ot T T,iI step]) (bt:=bt) (ot:=ot) (c:=oR) rfl (fun β e0 e1=>by simp[AV.den,e0,e1,aZ]) hO hbt hrt hne (Nat.le_of_ble_eq_true (by kernel_rfl)) (by decide) fun a w' hA => ?_
 rw[OE];refine wp_seq (aA aK hTb hG (Aq b _ _ _ _ _ h c1 c2 T step) trivial hA fun a w' hA => ?_);refine wp_block ?_;refine dA aK (fun j=>JI b w.heap.size (aV (el (oQ f lo (lo+h) step tw j)) 0 N) (aV (el tw) 0 T) (lo*4) ((lo+h)*4) h c1 c2 T step j) h (fun j hj => ?_) (.ex 0) (by simp) (JI b w.heap.size (aV (el (oQ f lo (lo+h) step tw h)) 0 N) (aV (el tw) 0 T) (lo*4) ((lo+h)*4) h c1 c2 T step h) ⟨_,_,_,_,hG,hTb,UP b _ _ _ _ _ h c1 c2 T step h,dZ (Nat.le_refl _),trivial⟩ hA fun a w1 hA => ?_
 ·have hlt:=xK (N:=N) (lo:=lo) (hi:=lo+h) (step:=step) (tw:=tw) hf j;have h1:lo+j<N:=by omega
  have h2:lo+h+j<N:=by omega
  have h3:=hst j hj;have hu:=RA (f:=oQ f lo (lo+h) step tw j) (i:=lo+j) (x:=yM (oQ f lo (lo+h) step tw j (lo+j)) (gH (oQ f lo (lo+h) step tw j (lo+h+j)) (tw (j*step)))) (j:=lo+h+j) (by omega);exact⟨_,_,_,_,yD _ _ _ _ _ _,hTb,Ar b _ _ (aV (el (cF (oQ f lo (lo+h) step tw j) (lo+j) (yM (oQ f lo (lo+h) step tw j (lo+j)) (gH (oQ f lo (lo+h) step tw j (lo+h+j)) (tw (j*step)))))) 0 N) _ _ (lo*4) ((lo+h)*4) h c1 c2 T step j (oQ f lo (lo+h) step tw j (lo+j)) (oQ f lo (lo+h) step tw j (lo+h+j)) (tw (j*step)),
   cZ hj,rfl,hj,qR h2 (by omega),yQ (by omega),rfl,h3,qR h3 (Nat.zero_add _),hlt _ h2,htw _ h3,rfl,hj,qR h1 (by omega),hlt _ h1,eU _ _,rfl,hj,qR h1 (by omega),hlt _ h1,eU _ _,rfl,hj,EN h1 (by omega),rfl,hj,EN h2 (by omega),fF (k:=1) (by omega),trivial⟩
 ·obtain⟨q1,q2⟩:=hA.wrc (List.mem_of_getElem? (i:=0) rfl) (List.mem_of_getElem? (i:=1) rfl) (List.mem_of_getElem? (i:=2) rfl);have hres:(results f71 a.tmps).run prog w1=.ok (.tuple #[]) w1:=by
   show ((f71.results.mapM (gW a.tmps)) >>= fun vs=>pure (if h:vs.size=1 then vs[0]else .tuple vs):Sem Value).run prog w1=_;have hr:f71.results = #[]:=rfl;rw[hr];simp
  exact⟨hA.defers,.tuple #[],hres,rfl,q1,q2⟩
def cO (op:BinOp) (t:Nat) (x y:Operand) (v u r:Value):Prop:=∀w:World,(do eqGuard op t x y v u; binOp op t v u:Sem Value).run prog w=.ok r w
def u3 (n:Nat):Value:=.int .u32 (Int.ofNat n)
theorem uP (a b:Nat) (ha:a<4294967296) (hb:b<4294967296):bits .or .u32 (a:Int) (b:Int)=((a ||| b:Nat):Int):=by
 have hx:a ||| b<2^32:=Nat.or_lt_two_pow (by omega) (by omega)
 have h1:(BitVec.ofInt 32 (a:Int)).toNat=a:=by
  rw[BitVec.ofInt_natCast,BitVec.toNat_ofNat]; exact Nat.mod_eq_of_lt (by omega)
 have h2:(BitVec.ofInt 32 (b:Int)).toNat=b:=by
  rw[BitVec.ofInt_natCast,BitVec.toNat_ofNat]; exact Nat.mod_eq_of_lt (by omega)
 show IntKind.u32.wrap ((BitVec.ofInt 32 (a:Int) ||| BitVec.ofInt 32 (b:Int)).toNat:Int)=_;rw[BitVec.toNat_or,h1,h2];have e:IntKind.u32.wrap ((a ||| b:Nat):Int)=((a ||| b:Nat):Int):=by
  unfold IntKind.wrap;simp[IntKind.signed,IntKind.bits];omega
 exact e
theorem iO (t:Nat) (x y:Operand) {a b:Nat} (ha:a<4294967296) (hb:b<4294967296):cO .and t x y (u3 a) (u3 b) (u3 (a &&& b)):=fun w=>by
 have h:=bits_and_u32_nat a b ha hb;simp[eqGuard,binOp,go_sem,u3];exact h
theorem sK (t:Nat) (x y:Operand) {a b:Nat} (ha:a<4294967296) (hb:b<4294967296):cO .or t x y (u3 a) (u3 b) (u3 (a ||| b)):=fun w=>by
 have h:=uP a b ha hb;simp[eqGuard,binOp,go_sem,u3];exact h
theorem nI (t:Nat) (x y:Operand) (a:Nat) {k:Nat} (hk:k≤32):cO .shr t x y (u3 a) (.int .u64 (Int.ofNat k)) (u3 (a/2^k)):=fun w=>by
 simp[eqGuard,binOp,go_sem,u3,Nat.min_eq_left hk]
theorem nK (t:Nat) (x y:Operand) (a:Nat) {k:Nat} (hk:k≤32):cO .shl t x y (u3 a) (.int .u64 (Int.ofNat k)) (u3 (a*2^k%4294967296)):=fun w=>by
 simp[eqGuard,binOp,go_sem,u3,IntKind.wrap,IntKind.signed,IntKind.bits,Nat.min_eq_left hk]
def dH (k m x:Nat):Nat:=(x/2^k &&& m) ||| ((x &&& m)*2^k%4294967296)
def sZ (x:Nat):Nat:=(dH 8 16711935 x/2^16) ||| (dH 8 16711935 x*2^16%4294967296)
def AM (x:Nat):Nat:=sZ (dH 4 252645135 (dH 2 858993459 (dH 1 1431655765 x)))
theorem iR {k m x:Nat} (hx:x<4294967296):dH k m x<4294967296:=by
 unfold dH;have h1:x/2^k &&& m<2^32:=Nat.lt_of_le_of_lt Nat.and_le_left (Nat.lt_of_le_of_lt (Nat.div_le_self _ _) (by omega));exact Nat.or_lt_two_pow (n:=32) h1 (by omega)
theorem LG {x:Nat} (hx:x<4294967296):sZ x<4294967296:=by
 unfold sZ;exact Nat.or_lt_two_pow (n:=32) (Nat.lt_of_le_of_lt (Nat.div_le_self _ _) (iR hx)) (by omega)
theorem LF {x:Nat} (hx:x<4294967296):AM x<4294967296:=LG (iR (iR (iR hx)))
def xG (gen:Nat→Option Value):Ext:={ Ext.none with gen:=gen,T2:=vD,T3:=CL,T4:=CI,T5:=CJ,T6:=CK }
theorem fC (gen:Nat→Option Value) (base:Nat) (w:World):bH prog { qG prog with x:=xG gen } base w :=
 ⟨(aW _).1,eN (fun b o l h=>h.elim) (fun w' _=>FrAt.none _ _) (fun w' _=>FsAt.none _ _)⟩
theorem DV (x:Nat):eC prog { qG prog with x:=xG (aE [(4,u3 (x/2^8)),(5,u3 (x/2^8 &&& 16711935)),(7,u3 (x &&& 16711935)),(8,u3 ((x &&& 16711935)*2^8%4294967296)),(9,u3 (dH 8 16711935 x)),(11,u3 ((dH 8 16711935 x)/2^16)),(13,u3 ((dH 8 16711935 x)*2^16%4294967296)),(14,u3 (sZ x))]) } (bW fun _=>none) f88 60 [.v (.im (u3 x))]=some ([cO .shr 97 (.tmp 3) (.const (.int .u64 8)) (u3 x) (.int .u64 (Int.ofNat 8)) (u3 (x/2^8)),cO .and 97 (.tmp 4) (.const (.int .u32 16711935)) (u3 (x/2^8)) (u3 16711935) (u3 (x/2^8 &&& 16711935)),cO .and 97 (.tmp 6) (.const (.int .u32 16711935)) (u3 x) (u3 16711935) (u3 (x &&& 16711935)),cO .shl 97 (.tmp 7) (.const (.int .u64 8)) (u3 (x &&& 16711935)) (.int .u64 (Int.ofNat 8)) (u3 ((x &&& 16711935)*2^8%4294967296)),cO .or 97 (.tmp 5) (.tmp 8) (u3 (x/2^8 &&& 16711935)) (u3 ((x &&& 16711935)*2^8%4294967296)) (u3 (dH 8 16711935 x)),cO .shr 97 (.tmp 10) (.const (.int .u64 16)) (u3 (dH 8 16711935 x)) (.int .u64 (Int.ofNat 16)) (u3 ((dH 8 16711935 x)/2^16)),cO .shl 97 (.tmp 12) (.const (.int .u64 16)) (u3 (dH 8 16711935 x)) (.int .u64 (Int.ofNat 16)) (u3 ((dH 8 16711935 x)*2^16%4294967296)),cO .or 97 (.tmp 11) (.tmp 13) (u3 ((dH 8 16711935 x)/2^16)) (u3 ((dH 8 16711935 x)*2^16%4294967296)) (u3 (sZ x))],.one (.im (u3 (sZ x)))):=by kernel_rfl
theorem mZ {a m:Nat} (ha:a<4294967296):a &&& m<4294967296:=Nat.lt_of_le_of_lt Nat.and_le_left ha
theorem fG {a k:Nat} (ha:a<4294967296):a/2^k<4294967296:=Nat.lt_of_le_of_lt (Nat.div_le_self _ _) ha
theorem kN (a:Nat):a%4294967296<4294967296:=Nat.mod_lt _ (by omega)
theorem wB {x:Nat} (hx:x<4294967296) (args:List Value) (w:World) (ha:cG w [.v (.im (u3 x))] args):Good prog 88 (.one (.im (u3 (sZ x)))) args w :=
 bM aK (fun _ _=>bD.w _ _) (fC _ _ _) func88 (DV x) ⟨nI _ _ _ _ (by omega),iO _ _ _ (fG hx) (by omega),iO _ _ _ hx (by omega),nK _ _ _ _ (by omega),sK _ _ _ (mZ (fG hx)) (kN _),nI _ _ _ _ (by omega),nK _ _ _ _ (by omega),sK _ _ _ (fG (iR hx)) (kN _),trivial⟩ ha
def TM:jN
 | [.v (.im (.int .u32 (.ofNat x)))]=>some ([x<4294967296],.one (.im (u3 (sZ x))))
 | _=>none
theorem NB:∀cs pre r,TM cs=some (pre,r)→aO pre→∀(args:List Value) (w:World),cG w cs args→Good prog 88 r args w:=by
 intro cs pre r hg hp args w ha;unfold TM at hg;split at hg
 ·cases hg;exact wB hp.1 args w ha
 ·cases hg
def Ca:Tab:=dO.add 88 TM
theorem YH:TabOk prog Ca:=bD.add func88 (by kernel_rfl) (by kernel_rfl) NB
theorem DU (x:Nat):eC prog { qG prog with x:=xG (aE [(4,u3 (x/2^1)),(5,u3 (x/2^1 &&& 1431655765)),(7,u3 (x &&& 1431655765)),(8,u3 ((x &&& 1431655765)*2^1%4294967296)),(9,u3 (dH 1 1431655765 x)),(11,u3 ((dH 1 1431655765 x)/2^2)),(12,u3 ((dH 1 1431655765 x)/2^2 &&& 858993459)),(14,u3 ((dH 1 1431655765 x) &&& 858993459)),(15,u3 (((dH 1 1431655765 x) &&& 858993459)*2^2%4294967296)),(16,u3 (dH 2 858993459 (dH 1 1431655765 x))),(18,u3 ((dH 2 858993459 (dH 1 1431655765 x))/2^4)),(19,u3 ((dH 2 858993459 (dH 1 1431655765 x))/2^4 &&& 252645135)),(21,u3 ((dH 2 858993459 (dH 1 1431655765 x)) &&& 252645135)),(22,u3 (((dH 2 858993459 (dH 1 1431655765 x)) &&& 252645135)*2^4%4294967296)),(23,u3 (dH 4 252645135 (dH 2 858993459 (dH 1 1431655765 x))))]) } (fun _=>⟨fun _=>Ca,fun _=>true,fun _=>none⟩) f69 60 [.v (.im (u3 x))]=some ([cO .shr 97 (.tmp 3) (.const (.int .u64 1)) (u3 x) (.int .u64 (Int.ofNat 1)) (u3 (x/2^1)),cO .and 97 (.tmp 4) (.const (.int .u32 1431655765)) (u3 (x/2^1)) (u3 1431655765) (u3 (x/2^1 &&& 1431655765)),cO .and 97 (.tmp 6) (.const (.int .u32 1431655765)) (u3 x) (u3 1431655765) (u3 (x &&& 1431655765)),cO .shl 97 (.tmp 7) (.const (.int .u64 1)) (u3 (x &&& 1431655765)) (.int .u64 (Int.ofNat 1)) (u3 ((x &&& 1431655765)*2^1%4294967296)),cO .or 97 (.tmp 5) (.tmp 8) (u3 (x/2^1 &&& 1431655765)) (u3 ((x &&& 1431655765)*2^1%4294967296)) (u3 (dH 1 1431655765 x)),cO .shr 97 (.tmp 10) (.const (.int .u64 2)) (u3 (dH 1 1431655765 x)) (.int .u64 (Int.ofNat 2)) (u3 ((dH 1 1431655765 x)/2^2)),cO .and 97 (.tmp 11) (.const (.int .u32 858993459)) (u3 ((dH 1 1431655765 x)/2^2)) (u3 858993459) (u3 ((dH 1 1431655765 x)/2^2 &&& 858993459)),cO .and 97 (.tmp 13) (.const (.int .u32 858993459)) (u3 (dH 1 1431655765 x)) (u3 858993459) (u3 ((dH 1 1431655765 x) &&& 858993459)),cO .shl 97 (.tmp 14) (.const (.int .u64 2)) (u3 ((dH 1 1431655765 x) &&& 858993459)) (.int .u64 (Int.ofNat 2)) (u3 (((dH 1 1431655765 x) &&& 858993459)*2^2%4294967296)),cO .or 97 (.tmp 12) (.tmp 15) (u3 ((dH 1 1431655765 x)/2^2 &&& 858993459)) (u3 (((dH 1 1431655765 x) &&& 858993459)*2^2%4294967296)) (u3 (dH 2 858993459 (dH 1 1431655765 x))),cO .shr 97 (.tmp 17) (.const (.int .u64 4)) (u3 (dH 2 858993459 (dH 1 1431655765 x))) (.int .u64 (Int.ofNat 4)) (u3 ((dH 2 858993459 (dH 1 1431655765 x))/2^4)),cO .and 97 (.tmp 18) (.const (.int .u32 252645135)) (u3 ((dH 2 858993459 (dH 1 1431655765 x))/2^4)) (u3 252645135) (u3 ((dH 2 858993459 (dH 1 1431655765 x))/2^4 &&& 252645135)),cO .and 97 (.tmp 20) (.const (.int .u32 252645135)) (u3 (dH 2 858993459 (dH 1 1431655765 x))) (u3 252645135) (u3 ((dH 2 858993459 (dH 1 1431655765 x)) &&& 252645135)),cO .shl 97 (.tmp 21) (.const (.int .u64 4)) (u3 ((dH 2 858993459 (dH 1 1431655765 x)) &&& 252645135)) (.int .u64 (Int.ofNat 4)) (u3 (((dH 2 858993459 (dH 1 1431655765 x)) &&& 252645135)*2^4%4294967296)),cO .or 97 (.tmp 19) (.tmp 22) (u3 ((dH 2 858993459 (dH 1 1431655765 x))/2^4 &&& 252645135)) (u3 (((dH 2 858993459 (dH 1 1431655765 x)) &&& 252645135)*2^4%4294967296)) (u3 (dH 4 252645135 (dH 2 858993459 (dH 1 1431655765 x)))),(dH 4 252645135 (dH 2 858993459 (dH 1 1431655765 x)))<4294967296],.one (.im (u3 (AM x)))):=by kernel_rfl
theorem wA {x:Nat} (hx:x<4294967296) (args:List Value) (w:World) (ha:cG w [.v (.im (u3 x))] args):Good prog 69 (.one (.im (u3 (AM x)))) args w:=by
 have h1:=iR (k:=1) (m:=1431655765) hx;have h2:=iR (k:=2) (m:=858993459) h1;exact bM aK (fun _ _=>YH.w _ _) (fC _ _ _) func69 (DU x) ⟨nI _ _ _ _ (by omega),iO _ _ _ (fG hx) (by omega),iO _ _ _ hx (by omega),nK _ _ _ _ (by omega),sK _ _ _ (mZ (fG hx)) (kN _),
  nI _ _ _ _ (by omega),iO _ _ _ (fG h1) (by omega),iO _ _ _ h1 (by omega),nK _ _ _ _ (by omega),sK _ _ _ (mZ (fG h1)) (kN _),
  nI _ _ _ _ (by omega),iO _ _ _ (fG h2) (by omega),iO _ _ _ h2 (by omega),nK _ _ _ _ (by omega),sK _ _ _ (mZ (fG h2)) (kN _),iR h2,trivial⟩ ha
def TL:jN
 | [.v (.im (.int .u32 (.ofNat x)))]=>some ([x<4294967296],.one (.im (u3 (AM x))))
 | _=>none
theorem NA:∀cs pre r,TL cs=some (pre,r)→aO pre→∀(args:List Value) (w:World),cG w cs args→Good prog 69 r args w:=by
 intro cs pre r hg hp args w ha;unfold TL at hg;split at hg
 ·cases hg;exact wA hp.1 args w ha
 ·cases hg
def Bz:Tab:=dO.add 69 TL
theorem YG:TabOk prog Bz:=bD.add func69 (by kernel_rfl) (by kernel_rfl) NA
end Go.Proofs.Ytiginhbnaloghaa.Ex
