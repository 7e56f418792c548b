/- Pr06 -/
import Derived.Shelf.Spec.TrailingZeros
import Derived.Test.YtjjnbgoepbiojaaGreatPr05
import Derived.Test.YtjjnbgoepbiojaaGreatPr03
import Derived.Test.YtjjnbgoepbiojaaGreatProg
set_option maxRecDepth 100000
set_option linter.unusedVariables false
set_option linter.unusedSimpArgs false
set_option linter.unnecessarySimpa false
noncomputable section
namespace Go.Proofs.YtjjnbgoepbiojaaGreat.Ex
open Go.Proofs.Tryz
open Go.RowKit
def cN (f:Nat→Nat) (i x:Nat) (j:Nat):Nat:=if j=i then x else f j
theorem FH {f g:Nat→List At}:∀(n s:Nat),(∀j,s≤j→j<s+n→f j=g j)→aP f s n=aP g s n
 | 0,s,h=>rfl
 | n+1,s,h=>by
  show f s++aP f (s+1) n=g s++aP g (s+1) n;rw[h s (Nat.le_refl _) (by omega),FH n (s+1) fun j h1 h2=>h j (by omega) (by omega)]
theorem Ug {f g:Nat→Nat} {n:Nat} (h:∀j,j<n→f j=g j):aP (el f) 0 n=aP (el g) 0 n:=FH n 0 fun j _ hj=>by unfold el; rw[h j (by omega)]
theorem DT {f:Nat→Nat} {N i x:Nat} (hi:i<N):put (aP (el f) 0 N) (0+i*4) [.q x]=some (aP (el (cN f i x)) 0 N):=by
 rw[mI (el f) i N 0 hi,mI (el (cN f i x)) i N 0 hi,GR (aP (el f) 0 i) (el f (0+i)) (aP (el f) (0+i+1) (N-i-1)) [.q x] (by rw[dM (c:=4) fun _=>rfl,Nat.zero_add]) rfl];congr 1;have h1:aP (el f) 0 i=aP (el (cN f i x)) 0 i:=Ug fun j hj=>by unfold cN; rw[if_neg (by omega)]
 have h2:aP (el f) (0+i+1) (N-i-1)=aP (el (cN f i x)) (0+i+1) (N-i-1):=FH _ _ fun j hj _=>by unfold el cN; rw[if_neg (by omega)]
 rw[h1,h2];unfold el cN;rw[if_pos (Nat.zero_add i)]
theorem DA {f:Nat→Nat} {N i:Nat} (hi:i<N):qP (aP (el f) 0 N) (0+i*4) 4=some [.q (f i)]:=wB (f:=el f) (c:=4) (fun _=>rfl) hi (Nat.zero_add _)
def xA (idx:Nat→Option Nat) (ld st:Nat→Option (List At)) (gen:Nat→Option Value):Ext:={ Ext.none with idx:=idx,ld:=ld,st:=st,gen:=gen,T2:=lY,T3:=vR,T4:=CH,T5:=CI,T6:=CJ }
theorem FZ (idx:Nat→Option Nat) (ld st:Nat→Option (List At)) (gen:Nat→Option Value) (base:Nat) (w:World):bO prog { qG prog with x:=xA idx ld st gen } base w :=
 ⟨(bE _).1,eJ (fun b o l h=>h.elim) (fun w' _=>FrAt.none _ _) (fun w' _=>FsAt.none _ _)⟩
theorem tC {a b:Int} (h1 : -9223372036854775808≤a-b) (h2:a-b<9223372036854775808):aC .sub .i64 a b=some (.int .i64 (a-b)):=by
 show some (Value.int .i64 (IntKind.i64.wrap (a-b)))=_;rw[IntKind.wrap_i64,Int.emod_eq_of_lt (by omega) (by omega)];congr 2;omega
def iK:Code:=(f56.body).getD .skip
def FB:Code:=fY (fY (cB (cA (cB (cB iK)))))
theorem Bm:iK=.seq (cA iK) (.seq (cA (cB iK)) (.seq (.seq (cA (cA (cB (cB iK)))) (.block 0 (.loop FB))) (cB (cB (cB iK))))):=by kernel_rfl
def Zx (v:Value) (n c:Nat):List Fact:=[.slot 0 (.im v),.slot 1 (.im (iI n)),.slot 5 (.pt 5 0),.row 5 true [.q c]]
def Xf (n c:Nat) (Z:List At) (L:Nat):List Fact:=[.slot 1 (.im (iI n)),.slot 5 (.pt 5 0),.row 5 true [.q c],.slot 8 (.sl 12 0 L L),.row 12 true Z]
def BF (n c:Nat) (Z:List At) (L:Nat) (z:Int):List Fact:=[.slot 1 (.im (iI n)),.slot 5 (.pt 5 0),.row 5 true [.q c],.slot 8 (.sl 12 0 L L),.row 12 true Z,.slot 9 (.im (.int .i64 z))]
theorem Uj (v:Value) (n c:Nat):aH prog (qG prog) f56.ntmps (cF fun _=>none) 40 (cA iK) (dX 0 [.v (.im v),.v (.im (iI n)),.v (.fl [.q c])]) (Zx v n c)=some ([],.nrm,Zx v n c):=by kernel_rfl
def wR:Value→Nat
 | .slice _ n _=>n
 | _=>0
def Iu (w:World) (F:Value→Nat→Nat):List CA→Option (List Prop×FR)
 | [.v (.im u)]=>some ([LV w u (wR u) (F u),wR u≤131072],⟨aP (el (F u)) 0 (aF (F u) (wR u)),aF (F u) (wR u),aF (F u) (wR u),[]⟩)
 | _=>none
theorem ZM {w w':World} {F:Value→Nat→Nat} (hb:Below w.heap.size w w'):∀cs pre r,Iu w F cs=some (pre,r)→aR pre→∀(args:List Value),cO w' cs args→Calls prog 29 args.toArray w' (fun e w2=>r.ok w' e w2):=by
 intro cs pre r hg hp args ha;unfold Iu at hg;split at hg
 ·cases hg
  match args,ha with
  | [u],ha =>
   have h1:u=_:=ha.1;subst h1;exact rK (hp.1.on hb) hp.2.1
  | [],ha=>exact ha.elim
  | _::_::_,ha=>exact ha.2.elim
 ·cases hg
def Cr (w:World) (F:Value→Nat→Nat):Tab2:=lY.add 29 (Iu w F)
theorem JJ {w w':World} {F:Value→Nat→Nat} (hb:Below w.heap.size w w'):FrAt prog (Cr w F) w':=(FrAt.none _ _).add func29 (by kernel_rfl) (by kernel_rfl) (ZM hb)
theorem Ui (w:World) (F:Value→Nat→Nat) (v:Value) (n c:Nat):aH prog { qG prog with x:=xB w (fun _=>none) (Cr w F) } f56.ntmps (cF fun _=>none) 40 (cA (cB iK)) (Zx v n c) (Xf n c (aP (el (F v)) 0 (aF (F v) (wR v))) (aF (F v) (wR v)))=some ([LV w v (wR v) (F v),wR v≤131072],.nrm,Xf n c (aP (el (F v)) 0 (aF (F v) (wR v))) (aF (F v) (wR v))):=by kernel_rfl
theorem Uh (n c L:Nat) (Z:List At) (y z:Int):aH prog (qG prog) f56.ntmps (cF (aE [(16,.int .i64 y),(17,.int .i64 z)])) 40 (cA (cA (cB (cB iK)))) (Xf n c Z L) (BF n c Z L z)=some ([aC .sub .i64 (Int.ofNat L) (Int.ofNat n)=some (.int .i64 y),aC .sub .i64 y 1=some (.int .i64 z)],.nrm,BF n c Z L z):=by kernel_rfl
theorem Uk (n c L:Nat) (Z Z':List At) (i x y:Nat) (z:Int):aH prog { qG prog with x:=xA (aE [(26,i),(33,i+n),(37,i)]) (aE [(27,[.q x]),(34,[.q y])]) (aE [(37,Z')]) (fun _=>none) } f56.ntmps (cF (aE [(19,.bool true),(32,iI (i+n)),(21,.int .i64 z)])) 60 FB (BF n c Z L (Int.ofNat i)) (BF n c Z' L z)=some ([aC .geq .i64 (Int.ofNat i) 0=some (.bool true),Int.ofNat i=Int.ofNat i,i<L,qP Z (0+i*4) 4=some [.q x],aC .add .i64 (Int.ofNat i) (Int.ofNat n)=some (iI (i+n)),Int.ofNat (i+n)=Int.ofNat (i+n),i+n<L,qP Z (0+(i+n)*4) 4=some [.q y],c<RM,y<RM,x<RM,dF c y<RM,Int.ofNat i=Int.ofNat i,i<L,put Z (0+i*4) [.q (dH x (dF c y))]=some Z',aC .sub .i64 (Int.ofNat i) 1=some (.int .i64 z)],.nrm,BF n c Z' L z):=by kernel_rfl
theorem Kn (n c L:Nat) (Z:List At) (z:Int):aH prog (qG prog) f56.ntmps (cF (aE [(19,.bool false)])) 60 FB (BF n c Z L z) (BF n c Z L z)=some ([aC .geq .i64 z 0=some (.bool false)],.ex 0,BF n c Z L z):=by kernel_rfl
theorem Bj (w:World) (F:Value→Nat→Nat) (b n L dL:Nat) (u:Value):aH prog { qG prog with x:=xB w (aE [(44,u)]) (Cr w F) } f56.ntmps (cF (aE [(41,iI dL)])) 60 (cB (cB (cB iK))) (kX [(1,.im (iI n)),(8,.im (aS b 0 L L))]) [.slot 6 (.sl 45 0 (aF (F u) (wR u)) (aF (F u) (wR u))),.row 45 true (aP (el (F u)) 0 (aF (F u) (wR u))),.slot 7 (.sl 49 0 (aF (F (aS b 0 dL L)) dL) (aF (F (aS b 0 dL L)) dL)),.row 49 true (aP (el (F (aS b 0 dL L))) 0 (aF (F (aS b 0 dL L)) dL))] =
  some ([Value.int .i64 (if Int.ofNat L<Int.ofNat n then Int.ofNat L else Int.ofNat n)=iI dL,∀w:World,(Instr.sliceAt 22 (aS b 0 L L) (some (iI dL)) none none).run prog w=.ok u w,LV w u (wR u) (F u),wR u≤131072,dL≤L,LV w (aS b 0 dL L) dL (F (aS b 0 dL L)),dL≤131072],.rt,[.slot 6 (.sl 45 0 (aF (F u) (wR u)) (aF (F u) (wR u))),.row 45 true (aP (el (F u)) 0 (aF (F u) (wR u))),.slot 7 (.sl 49 0 (aF (F (aS b 0 dL L)) dL) (aF (F (aS b 0 dL L)) dL)),.row 49 true (aP (el (F (aS b 0 dL L))) 0 (aF (F (aS b 0 dL L)) dL))]):=by kernel_rfl
structure FQ where
 l:List At
 n:Nat
 l':List At
 n':Nat
def FQ.ok (r:FQ) (w:World) (e:Ending) (w':World):Prop:=∃b b',e=.returned (.tuple #[aS b 0 r.n r.n,aS b' 0 r.n' r.n'])∧Below w.heap.size w w'∧(w.heap.size≤b∧b<w'.heap.size∧w'.rangeAt b 0 (aB r.l)∧∀j,w'.frozen? ⟨b,j,none⟩=false)∧(w.heap.size≤b'∧b'<w'.heap.size∧w'.rangeAt b' 0 (aB r.l')∧∀j,w'.frozen? ⟨b',j,none⟩=false)∧b≠b'
theorem FQ.ok.older {r:FQ} {w w1 w2:World} {e:Ending} (h:r.ok w1 e w2) (hb:Below w.heap.size w w1):r.ok w e w2:=by
 obtain⟨b,b',h1,h2,h3,h4,h5⟩:=h;exact⟨b,b',h1,hb.trans (h2.mono hb.size),⟨Nat.le_trans hb.size h3.1,h3.2⟩,⟨Nat.le_trans hb.size h4.1,h4.2⟩,h5⟩
theorem LH {P:Program} {fn:Func} {A:List Fact} {w:World} {s s' k k' n n':Nat} {l l':List At} (hr:fn.results = #[.tmp s,.tmp s']) {a:Act} {w':World} (hA:Holds fn.ntmps w.heap.size w A a w')
  (h1:Fact.slot s (.sl k 0 n n)∈A) (h2:Fact.row k true l∈A) (h3:Fact.slot s' (.sl k' 0 n' n')∈A) (h4:Fact.row k' true l'∈A) (hk:k≠k'):bodyPost P fn (fun e w'=>FQ.ok ⟨l,n,l',n'⟩ w e w') .ret a w':=by
 obtain⟨β,hok,hinj,_⟩:=hA.facts;obtain⟨g1,g2,g3,_⟩:=hok _ h2;obtain⟨g4,g5,g6⟩:=g3 rfl;obtain⟨j1,j2,j3,_⟩:=hok _ h4;obtain⟨j4,j5,j6⟩:=j3 rfl;have e1:=hok _ h1;have e2:=hok _ h3;simp only[Fact.ok,AV.den]at e1 e2;rw[g5]at e1 g2;rw[j5]at e2 j2;have hres:(results fn a.tmps).run P w'=.ok (.tuple #[aS (β k).1 0 n n,aS (β k').1 0 n' n']) w':=by
  show ((fn.results.mapM (hU a.tmps)) >>= fun vs=>pure (if h:vs.size=1 then vs[0]else .tuple vs):Sem Value).run P w'=_;have q1:(hU a.tmps (.tmp s)).run P w'=.ok (aS (β k).1 0 n n) w':=by
   show (pure (a.tmps.getD s undef):Sem Value).run P w'=_;rw[show a.tmps.getD s undef=aS (β k).1 0 n n by simp[e1,aS]]; rfl
  have q2:(hU a.tmps (.tmp s')).run P w'=.ok (aS (β k').1 0 n' n') w':=by
   show (pure (a.tmps.getD s' undef):Sem Value).run P w'=_;rw[show a.tmps.getD s' undef=aS (β k').1 0 n' n' by simp[e2,aS]]; rfl
  have hm:(List.toArray <$> fn.results.toList.mapM (hU a.tmps)).run P w'=.ok [aS (β k).1 0 n n,aS (β k').1 0 n' n'].toArray w':=by
   rw[hr];simp[List.mapM_cons,q1,q2]
  rw[Array.mapM_eq_mapM_toList,Sem.run_bind,hm,Result.andThen_ok,Sem.run_pure];rw[dif_neg (by simp)]
 exact⟨hA.defers,_,hres,(β k).1,(β k').1,rfl,hA.below,⟨g4,g1,g2,g6⟩,⟨j4,j1,j2,j6⟩,hinj k k' true l l' h2 h4 hk⟩
def qV (n c L:Nat) (f:Nat→Nat):Nat→Nat→Nat
 | 0=>f
 | p+1=>cN (qV n c L f p) (L-n-1-p) (dH (qV n c L f p (L-n-1-p)) (dF c (qV n c L f p (L-n-1-p+n))))
theorem xV {n c L:Nat} {f:Nat→Nat} (h:bD L f):∀p,bD L (qV n c L f p)
 | 0=>h
 | p+1=>fun j hj=>by
  unfold qV cN;split
  ·exact gT _ _
  ·exact xV h p j hj
theorem Dv {i:Nat}:aC .geq .i64 (Int.ofNat i) 0=some (.bool true):=by
 show some (Value.bool (decide (Int.ofNat i≥0)))=_;rw[decide_eq_true (show Int.ofNat i≥0 from Int.natCast_nonneg i)]
theorem RF {z:Int} (h:z<0):aC .geq .i64 z 0=some (.bool false):=by
 show some (Value.bool (decide (z≥0)))=_;rw[decide_eq_false (by omega)]
theorem GB:prog.underlying 22=some (.slice 25):=by kernel_rfl
theorem NW:dG prog 25=some 4:=by kernel_rfl
theorem VY {b o n m i:Nat} (h:i≤n) (hm:n≤m) (w:World):(Instr.sliceAt 22 (aS b o n m) (some (iI i)) none none).run prog w=.ok (aS b (if m=i then o else o+i*4) (n-i) (m-i)) w:=by
 by_cases e:m=i
 ·rw[if_pos e];simp[Instr.sliceAt,Instr.slice,aS,iI,run_underlying GB,Instr.sliceBounds,Instr.sliceBound,asIntOf,bG NW,h,e]
 ·rw[if_neg e];simp[Instr.sliceAt,Instr.slice,aS,iI,run_underlying GB,Instr.sliceBounds,Instr.sliceBound,asIntOf,bG NW,h,e,Addr.add_mid]
theorem LV.from {w:World} {b o N m i:Nat} {f:Nat→Nat} (hb:b<w.heap.size) (hr:w.rangeAt b o (aB (aP (el f) 0 N))) (hi:i≤N) (hm:N≤m) (h256:∀j,j<N→f j<bQ):LV w (aS b (if m=i then o else o+i*4) (N-i) (m-i)) (N-i) (fun j=>f (i+j)):=by
 refine⟨_,_,rfl,by omega,fun j hj=>h256 _ (by omega),fun h => ?_⟩;rw[if_neg (by omega)];refine⟨b,o+i*4,rfl,hb,?_⟩;have e:aP (el f) 0 N=aP (el f) 0 i++aP (el (fun j=>f (i+j))) 0 (N-i):=by
  have key:∀(n s:Nat),aP (el f) (i+s) n=aP (el (fun j=>f (i+j))) s n:=fun n=>by
   induction n with
   | zero=>intro s; rfl
   | succ n ih =>
    intro s;show el f (i+s)++aP (el f) (i+s+1) n=_;rw[Nat.add_assoc,ih (s+1)];rfl
  have sp:∀(i n s:Nat),i≤n→aP (el f) s n=aP (el f) s i++aP (el f) (s+i) (n-i):=fun i=>by
   induction i with
   | zero=>intro n s _; rfl
   | succ i ih =>
    intro n s h;obtain⟨n,rfl⟩:∃k,n=k+1:=⟨n-1,by omega⟩
    show el f s++aP (el f) (s+1) n=(el f s++aP (el f) (s+1) i)++_;rw[ih n (s+1) (by omega),List.append_assoc,show s+1+i=s+(i+1) by omega,show n+1-(i+1)=n-i by omega]
  rw[sp i N 0 hi,Nat.zero_add,←key (N-i) 0,Nat.add_zero]
 intro j u hj;have h2:=hr (i*4+j) u (by
  rw[e,aN,List.getElem?_append_right (by rw[aQ,dM (c:=4) fun _=>rfl]; omega),aQ,dM (c:=4) fun _=>rfl,Nat.add_sub_cancel_left];exact hj)
 rwa [←Nat.add_assoc]at h2
theorem SZ {w0:World} {v:Value} {N n c:Nat} {f:Nat→Nat} (hv:LV w0 v N f) (hN:N≤131072) (hf:bD N f) (hn1:1≤n) (hn2:n≤1099511627776) (hc:c<RM) :
  Calls prog 56 #[v,iI n,.agg (aB [At.q c]).toArray] w0 (fun e w'=>FQ.ok ⟨aP (el fun j=>qV n c (aF f N) f (aF f N-n) (min n (aF f N)+j)) 0 (aF (fun j=>qV n c (aF f N) f (aF f N-n) (min n (aF f N)+j)) (aF f N-min n (aF f N))),aF (fun j=>qV n c (aF f N) f (aF f N-n) (min n (aF f N)+j)) (aF f N-min n (aF f N)),aP (el (qV n c (aF f N) f (aF f N-n))) 0 (aF (qV n c (aF f N) f (aF f N-n)) (min n (aF f N))),aF (qV n c (aF f N) f (aF f N-n)) (min n (aF f N))⟩ w0 e w'):=by
 have hG:bO prog (qG prog) w0.heap.size w0:=(bE _).w _ _;have hT:∀n d:Nat,TabOkW prog dB w0.heap.size w0:=fun _ _=>aY.w _ _
 obtain⟨p0,m0,rfl,hm0,h256,hmem⟩:=id hv;refine bP func56 (cs:=[.v (.im (.slice p0 N m0)),.v (.im (iI n)),.v (.fl [.q c])]) (args:=[.slice p0 N m0,iI n,.agg (aB [At.q c]).toArray]) (c:=iK) rfl ⟨rfl,rfl,rfl,trivial⟩ (Nat.le_of_ble_eq_true (by kernel_rfl)) fun a w' hA => ?_
 rw[Bm];refine wp_seq (aA aG hT hG (Uj _ n c) trivial hA fun a w' hA => ?_);refine wp_seq (aA aG hT (nJ (w:=w0) (T2:=Cr w0 fun _=>f) fun w' hw=>JJ hw) (Ui w0 (fun _=>f) (.slice p0 N m0) n c) ⟨hv,hN,trivial⟩ hA fun a w' hA => ?_);change Holds _ _ _ (Xf n c (aP (el f) 0 (aF f N)) (aF f N)) a w' at hA;have hle:=cI f N;have hfL:bD (aF f N) f:=fun j hj=>hf j (by omega)
 generalize aF f N=L at hA hle hfL ⊢;refine wp_seq (wp_seq (aA aG hT hG (Uh n c L (aP (el f) 0 L) ((L:Int)-n) ((L:Int)-n-1)) ⟨tC (by show _≤(L:Int)-(n:Int); omega) (by show (L:Int)-(n:Int)<_; omega),tC (by omega) (by omega),trivial⟩ hA fun a w' hA => ?_));refine wp_block ?_;refine cH aG (fun p=>BF n c (aP (el (qV n c L f p)) 0 L) L ((L:Int)-n-1-p)) (L-n) (fun p hp => ?_) (.ex 0) (by simp) (BF n c (aP (el (qV n c L f (L-n))) 0 L) L ((L:Int)-n-1-(L-n:Nat))) ?_ (by
  have e:((L:Int)-n-1-(0:Nat))=(L:Int)-n-1:=by omega
  show Holds _ _ _ (BF n c (aP (el f) 0 L) L ((L:Int)-n-1-(0:Nat))) _ _;rw[e];exact hA) fun a w1 hA => ?_
 ·have hz:((L:Int)-n-1-p)=Int.ofNat (L-n-1-p):=by show _=((L-n-1-p:Nat):Int); omega
  have hz2:((L:Int)-n-1-(p+1:Nat))=Int.ofNat (L-n-1-p)-1:=by show _=((L-n-1-p:Nat):Int)-1; omega
  have hi1:L-n-1-p<L:=by omega
  have hi2:L-n-1-p+n<L:=by omega
  have hi3:L-n-1-p+n<9223372036854775808:=by omega
  show Ok _ _ _ _ _ (BF n c _ L ((L:Int)-n-1-p)) _ (BF n c (aP (el (cN (qV n c L f p) (L-n-1-p) (dH (qV n c L f p (L-n-1-p)) (dF c (qV n c L f p (L-n-1-p+n)))))) 0 L) L ((L:Int)-n-1-(p+1:Nat)));rw[hz,hz2];have hlt:=xV (n:=n) (c:=c) hfL p;have hs1 : -9223372036854775808≤Int.ofNat (L-n-1-p)-1:=by show _≤((L-n-1-p:Nat):Int)-1; omega
  have hs2:Int.ofNat (L-n-1-p)-1<9223372036854775808:=by show ((L-n-1-p:Nat):Int)-1<_; omega
  exact⟨_,_,_,_,FZ _ _ _ _ _ _,hT,Uk n c L _ _ (L-n-1-p) (qV n c L f p (L-n-1-p)) (qV n c L f p (L-n-1-p+n)) _,Dv,rfl,hi1,DA hi1,cX hi3,rfl,hi2,DA hi2,hc,hlt _ hi2,hlt _ hi1,eB _ _,rfl,hi1,DT hi1,tC hs1 hs2,trivial⟩
 ·exact⟨_,_,_,_,hG,hT,Kn n c L _ _,RF (by omega),trivial⟩
 have hlt:=xV (n:=n) (c:=c) hfL (L-n);generalize qV n c L f (L-n)=G at hA hlt ⊢;obtain⟨b,hB⟩:=hA.at (k:=12) (l:=aP (el G) 0 L) (by simp[BF]);have hold:oldOf w1 b 0 (aP (el G) 0 L):=hB.old (k:=12) (by simp[BF]) (by simp);have h8:=(hB.im (s:=8) (k:=12) (o:=0) (n:=L) (m:=L) (b:=b) (by simp[BF]) (by simp)).slot (s:=8) (v:=aS b 0 L L) (by simp);have h1:=hB.slot (s:=1) (v:=iI n) (by simp[BF]);have hF:=hB.fresh [(1,.im (iI n)),(8,.im (aS b 0 L L))] (fun x hx=>by
  simp only[List.mem_cons,List.not_mem_nil,or_false]at hx
  rcases hx with rfl|rfl
  ·exact h1
  ·exact h8)
 have hmin:(if (Int.ofNat L)<(Int.ofNat n)then (Int.ofNat L)else (Int.ofNat n))=Int.ofNat (min n L):=by
  by_cases h:L<n
  ·rw[if_pos (by show (L:Int)<(n:Int); omega),Nat.min_eq_right (by omega)]
  ·rw[if_neg (by show ¬(L:Int)<(n:Int); omega),Nat.min_eq_left (by omega)]
 have hlow:min n L≤L:=Nat.min_le_right _ _;generalize min n L=dL at hmin hlow ⊢;have h256G:∀j,j<L→G j<bQ:=fun j hj=>dW (hlt j hj)
 have hu:LV w1 (aS b (if L=dL then 0 else 0+dL*4) (L-dL) (L-dL)) (L-dL) (fun j=>G (dL+j)):=LV.from hold.1 hold.2 hlow (Nat.le_refl _) h256G
 have hv2:LV w1 (aS b 0 dL L) dL G:=⟨_,_,rfl,hlow,fun j hj=>h256G j (by omega),fun h=>⟨b,0,rfl,hold.1,fun j x hj=>hold.2 j x (by
  have sp:aP (el G) 0 L=aP (el G) 0 dL++aP (el G) (0+dL) (L-dL):=by
   have key:∀(i n s:Nat),i≤n→aP (el G) s n=aP (el G) s i++aP (el G) (s+i) (n-i):=fun i=>by
    induction i with
    | zero=>intro n s _; rfl
    | succ i ih =>
     intro n s h;obtain⟨n,rfl⟩:∃k,n=k+1:=⟨n-1,by omega⟩
     show el G s++aP (el G) (s+1) n=(el G s++aP (el G) (s+1) i)++_;rw[ih n (s+1) (by omega),List.append_assoc,show s+1+i=s+(i+1) by omega,show n+1-(i+1)=n-i by omega]
   exact key dL L 0 hlow
  rw[sp,aN,List.getElem?_append_left (List.getElem?_eq_some_iff.1 hj).1];exact hj)⟩⟩
 have hmd:∃F:Value→Nat→Nat,LV w1 (aS b (if L=dL then 0 else 0+dL*4) (L-dL) (L-dL)) (L-dL) (F (aS b (if L=dL then 0 else 0+dL*4) (L-dL) (L-dL)))∧F (aS b 0 dL L)=G ∧
   (F (aS b (if L=dL then 0 else 0+dL*4) (L-dL) (L-dL))=(fun j=>G (dL+j))∨L-dL=0):=by
  classical
  refine⟨fun x=>if x=aS b 0 dL L then G else fun j=>G (dL+j),?_,if_pos rfl,?_⟩
  ·by_cases e:aS b (if L=dL then 0 else 0+dL*4) (L-dL) (L-dL)=aS b 0 dL L
   ·have e3:L-dL=dL∧L-dL=L:=by
     unfold aS at e;injection e with _ e1 e2;exact⟨e1,e2⟩
    have e4:L-dL=0:=by omega
    rw[e4];refine⟨_,_,rfl,Nat.le_refl _,fun j hj=>by omega,fun h=>by omega⟩
   ·show LV _ _ _ (if _ then _ else _);rw[if_neg e]; exact hu
  ·by_cases e:aS b (if L=dL then 0 else 0+dL*4) (L-dL) (L-dL)=aS b 0 dL L
   ·have e3:L-dL=dL∧L-dL=L:=by
     unfold aS at e;injection e with _ e1 e2;exact⟨e1,e2⟩
    right; omega
   ·left; exact if_neg e
 obtain⟨F,hFu,hFv,hFe⟩:=hmd;refine aA aG (fun _ _=>aY.w _ _) (nJ fun w' hw=>JJ hw) (Bj w1 F b n L dL _) ⟨congrArg _ hmin,fun w=>VY hlow (Nat.le_refl _) w,hFu,by show L-dL≤_; omega,hlow,by rw[hFv]; exact hv2,by omega,trivial⟩ hF fun a w2 hA2 => ?_
 rw[hFv]at hA2;have hq:∀(K:Nat→Nat),(K=(fun j=>G (dL+j))∨L-dL=0)→aP (el K) 0 (aF K (L-dL))=aP (el fun j=>G (dL+j)) 0 (aF (fun j=>G (dL+j)) (L-dL))∧aF K (L-dL)=aF (fun j=>G (dL+j)) (L-dL):=fun K h=>by
  rcases h with rfl|h
  ·exact⟨rfl,rfl⟩
  ·rw[h]; exact⟨rfl,rfl⟩
 obtain⟨q1,q2⟩:=hq _ hFe;have h:=LH (P:=prog) (fn:=f56) rfl hA2 (s:=6) (s':=7) (k:=45) (k':=49) (List.mem_cons_self) (List.mem_cons_of_mem _ List.mem_cons_self) (List.mem_cons_of_mem _ (List.mem_cons_of_mem _ List.mem_cons_self)) (List.mem_cons_of_mem _ (List.mem_cons_of_mem _ (List.mem_cons_of_mem _ List.mem_cons_self))) (by omega);refine aX h fun e w h => ?_
 have h2:=h.older hA.below;change FQ.ok ⟨aP (el (F _)) 0 (aF (F _) (L-dL)),aF (F _) (L-dL),_,_⟩ _ _ _ at h2;rw[q1,q2]at h2;exact h2
def nW (k:Nat):Fact→Bool
 | .slot _ v => !(gZ v.key k)
 | .row k1 _ _ => !(Nat.beq k1 k)
 | .at k1 _ => !(Nat.beq k1 k)
 | .app k1 _ _ _ => !(Nat.beq k1 k)
theorem AJ {base k:Nat} {β β':Nat→Bk} (hβ:∀j,j≠k→β' j=β j) {a:Act} {w:World} {φ:Fact} (h:φ.ok base β a w) (hn:nW k φ=true):φ.ok base β' a w:=by
 cases φ with
 | slot s v =>
  show a.tmps[s]?=_;rw[AV.den_eq v fun j hj=>hβ j fun e=>by
   subst e;simp[nW,cQ.2 hj]at hn]
  exact h
 | row k1 o l =>
  have e:β' k1=β k1:=hβ k1 fun e=>by subst e; simp[nW]at hn
  simp only[Fact.ok]at h ⊢;rw[e]; exact h
 | «at» k1 b =>
  have e:β' k1=β k1:=hβ k1 fun e=>by subst e; simp[nW]at hn
  simp only[Fact.ok]at h ⊢;rw[e]; exact h
 | app k1 e1 s1 n1 =>
  have e:β' k1=β k1:=hβ k1 fun e=>by subst e; simp[nW]at hn
  simp only[Fact.ok]at h ⊢;rw[e]; exact h
theorem Holds.toSl {nt base:Nat} {w0:World} {A:List Fact} {a:Act} {w:World} (h:Holds nt base w0 A a w) {s k b n m:Nat} (h1:Fact.slot s (.im (aS b 0 n m))∈A) (h2:Fact.at k b∈A):Holds nt base w0 (.slot s (.sl k 0 n m)::A) a w:=by
 obtain⟨β,g1,g2,g3⟩:=h.facts;have e1:=g1 _ h1;have e2:=g1 _ h2;simp only[Fact.ok]at e1 e2;have up:∀k1 o1 l1,Fact.row k1 o1 l1∈(Fact.slot s (.sl k 0 n m)::A)→Fact.row k1 o1 l1∈A:=fun k1 o1 l1 e=>by
  rcases List.mem_cons.1 e with e|e
  ·cases e
  ·exact e
 refine⟨h.defers,h.size,h.below,h.heap,β,fun φ hφ => ?_,fun k1 k2 o2 l1 l2 q1 q2=>g2 k1 k2 o2 l1 l2 (up _ _ _ q1) (up _ _ _ q2),fun k1 l1 e=>g3.1 k1 l1 (up _ _ _ e),g3.2⟩
 rcases List.mem_cons.1 hφ with rfl|hφ
 ·show a.tmps[s]?=_;rw[e1];simp[AV.den,e2,aS]
 ·exact g1 φ hφ
theorem Holds.put2 {nt:Nat} {w0:World} {A:List Fact} {a:Act} {w:World} (h:Holds nt w0.heap.size w0 A a w) {r:FQ} {w':World} {e:Ending} (hr:r.ok w e w') {d k k':Nat} (hd:d<nt) (hA:A.all (fun φ => !(gW (some d) none φ))=true) (hk:A.all (nW k)=true) (hk':A.all (nW k')=true) (hkk:k≠k') (hn:k≠nt) (hn':k'≠nt) :
  ∃b b',e=.returned (.tuple #[aS b 0 r.n r.n,aS b' 0 r.n' r.n'])∧Holds nt w0.heap.size w0 (.row k' true r.l' :: .at k' b' :: .row k true r.l :: .at k b :: .slot d (.tu [.im (aS b 0 r.n r.n),.im (aS b' 0 r.n' r.n')])::A) (a.put (some d) (.tuple #[aS b 0 r.n r.n,aS b' 0 r.n' r.n'])) w':=by
 obtain⟨b,b',rfl,hb,⟨h1,h2,h3,h4⟩,⟨j1,j2,j3,j4⟩,hne⟩:=hr;refine⟨b,b',rfl,?_⟩;obtain⟨β,g1,g2,g3,gt⟩:=h.facts;have hW:w0.heap.size≤w.heap.size:=h.below.size;have P:=mG (base:=w0.heap.size) (β:=β) (a:=a) (w:=w) (w':=w') (M:=A) (.tu [.im (aS b 0 r.n r.n),.im (aS b' 0 r.n' r.n')]) (d:=d) (by rw[h.size]; exact hd) h.heap hb;rw[List.all_eq_true]at hA hk hk';obtain⟨β',e0,e1,e2⟩:∃β':Nat→Bk,β' k=(b,0,0)∧β' k'=(b',0,0)∧∀j,j≠k→j≠k'→β' j=β j:=by
  refine⟨fun j=>if j=k then (b,0,0)else if j=k' then (b',0,0)else β j,if_pos rfl,?_,fun j q1 q2 => ?_⟩
  ·show (if k'=k then _ else if k'=k' then _ else _)=_;rw[if_neg (Ne.symm hkk),if_pos rfl]
  ·show (if j=k then _ else if j=k' then _ else _)=_;rw[if_neg q1,if_neg q2]
 have hold:∀φ∈A,φ.ok w0.heap.size β' (a.put (some d) (.tuple #[aS b 0 r.n r.n,aS b' 0 r.n' r.n'])) w':=fun φ hφ=>by
  have c:=keep P (g1 φ hφ) (by simpa using hA φ hφ) fun kk k1 bJ l q=>by cases q
  have c2:=AJ (β':=fun j=>if j=k then (b,0,0)else β j) (k:=k) (fun j hj=>if_neg hj) c (hk φ hφ);exact AJ (β':=β') (k:=k') (fun j hj=>by
   by_cases q:j=k
   ·subst q; rw[e0]; exact (if_pos rfl).symm
   ·rw[e2 j q hj]; exact (if_neg q).symm) c2 (hk' φ hφ)
 have hkA:∀k1 o1 l1,Fact.row k1 o1 l1∈A→k1≠k∧k1≠k':=fun k1 o1 l1 hr=>⟨fun e=>by subst e; have:=hk _ hr; simp[nW]at this,fun e=>by subst e; have:=hk' _ hr; simp[nW]at this⟩
 have hlt:∀k1 o1 l1,Fact.row k1 o1 l1∈A→(β' k1).1<w.heap.size∧β' k1=β k1:=fun k1 o1 l1 hr=>by
  obtain⟨q1,q2⟩:=hkA _ _ _ hr;rw[e2 k1 q1 q2];exact⟨(g1 _ hr).1,rfl⟩
 have ent:β' nt=β nt:=e2 nt (Ne.symm hn) (Ne.symm hn');refine⟨by rw[eO]; exact h.defers,by rw[dK]; exact h.size,h.below.trans (hb.mono hW),Nat.le_trans h.heap hb.size,β',fun φ hφ => ?_,fun k1 k2 o2 l1 l2 q1 q2 hne2 => ?_,fun k1 l1 q1 => ?_,by rw[ent]; exact Nat.le_trans gt.size hb.size,fun p p1 p2 => ?_,gt.shape.trans (Shape.below hb)⟩
 ·simp only[List.mem_cons]at hφ
  rcases hφ with rfl|rfl|rfl|rfl|rfl|hφ
  ·exact⟨by rw[e1]; exact j2,by rw[e1]; exact j3,fun _=>⟨by rw[e1]; exact Nat.le_trans hW j1,by rw[e1],by rw[e1]; exact j4⟩,fun h=>by cases h⟩
  ·exact⟨by rw[e1],by rw[e1]⟩
  ·exact⟨by rw[e0]; exact h2,by rw[e0]; exact h3,fun _=>⟨by rw[e0]; exact Nat.le_trans hW h1,by rw[e0],by rw[e0]; exact h4⟩,fun h=>by cases h⟩
  ·exact⟨by rw[e0],by rw[e0]⟩
  ·exact eT _ _ _ (by rw[h.size]; exact hd)
  ·exact hold φ hφ
 ·simp only[List.mem_cons,reduceCtorEq,false_or]at q1 q2
  rcases q1 with q1|q1|q1
  ·cases q1
   rcases q2 with q2|q2|q2
   ·cases q2; exact (hne2 rfl).elim
   ·cases q2; rw[e0,e1]; exact fun e=>hne e.symm
   ·rw[e1]; have:=(hlt _ _ _ q2).1; show b'≠_; omega
  ·cases q1
   rcases q2 with q2|q2|q2
   ·cases q2; rw[e0,e1]; exact hne
   ·cases q2; exact (hne2 rfl).elim
   ·rw[e0]; have:=(hlt _ _ _ q2).1; show b≠_; omega
  ·rcases q2 with q2|q2|q2
   ·cases q2; rw[e1]; have:=(hlt _ _ _ q1).1; show _≠b'; omega
   ·cases q2; rw[e0]; have:=(hlt _ _ _ q1).1; show _≠b; omega
   ·rw[(hlt _ _ _ q1).2,(hlt _ _ _ q2).2];exact g2 k1 k2 o2 l1 l2 q1 q2 hne2
 ·rw[ent];simp only[List.mem_cons,reduceCtorEq,false_or]at q1
  rcases q1 with q1|q1|q1
  ·cases q1; rw[e1]; exact Or.inr (Nat.le_trans gt.size j1)
  ·cases q1; rw[e0]; exact Or.inr (Nat.le_trans gt.size h1)
  ·rw[(hlt _ _ _ q1).2];exact g3 k1 l1 q1
 ·rw[ent]at p2;have q:=Nat.lt_of_lt_of_le p2 gt.size;have:=gt.mem p p1 p2;exact⟨(hb.cell q).trans this.1,(hb.frozen q).trans this.2⟩
def qL {α:Type} (a b:α) (j:Nat):α:=if j=0 then a else b
def fB (N:Nat) (f:Nat→Nat) (x:Nat):Int:=if N≤65536 then (if bD N f∧x<RM then 0 else 21)else 72
theorem Ky (N:Nat) (f:Nat→Nat) (x:Nat):Bx 2 (qL N 1) (qL f fun _=>x)=fB N f x:=by
 have e1:jB 2 (qL N 1)↔N≤65536:=⟨fun h=>h 0 (by omega),fun h j hj=>by
  by_cases e:j=0
  ·rw[e]; exact h
  ·unfold qL; rw[if_neg e]; omega⟩
 have e2:jH 2 (qL N 1) (qL f fun _=>x)↔(bD N f∧x<RM):=⟨fun h=>⟨h 0 (by omega),h 1 (by omega) 0 (show 0<1 by omega)⟩,fun h j hj=>by
  by_cases e:j=0
  ·rw[e]; exact h.1
  ·unfold qL; rw[if_neg e,if_neg e]; exact fun _ _=>h.2⟩
 unfold Bx fB;simp only[e1,e2]
theorem pJ {N:Nat} {f:Nat→Nat} {x:Nat} (h:fB N f x=0):N≤65536∧bD N f∧x<RM:=by
 unfold fB at h;split at h
 ·rename_i h1;split at h
  ·rename_i h2; exact⟨h1,h2⟩
  ·cases h
 ·cases h
theorem LV.one {w:World} {b x:Nat} (h:oldOf w b 0 [.q x]) (hx:x<bQ):LV w (aS b 0 1 1) 1 (fun _=>x) :=
 ⟨_,_,rfl,Nat.le_refl _,fun _ _=>hx,fun _=>⟨b,0,rfl,h.1,h.2⟩⟩
theorem tS {w:World} {v:Value} {N x b b2:Nat} {f:Nat→Nat} (hv:LV w v N f) (hN:N≤4611686018427387904) (hx:x<bQ) (h1:oldOf w b 0 [.q x]) (h2:oldOf w b2 0 [.c v,.c (aS b 0 1 1)]):bI prog 28 (.one (.im (.int .i64 (fB N f x)))) [aS b2 0 2 2] w:=by
 rw[←Ky];refine tQ (vs:=qL v (aS b 0 1 1)) ⟨b2,0,2,rfl,h2.1,h2.2⟩ (fun j hj => ?_) (by omega) fun j hj => ?_
 ·by_cases e:j=0
  ·rw[e]; exact hv
  ·unfold qL; rw[if_neg e,if_neg e,if_neg e]; exact LV.one h1 hx
 ·by_cases e:j=0
  ·rw[e]; exact hN
  ·unfold qL; rw[if_neg e]; omega
def Kg (N:Nat) (f:Nat→Nat):iP
 | [.s l n m,.v (.im (.int .i64 (.ofNat i)))]=>some ([aB l=aB (aP (el f) 0 N),n=N,N≤m,∀j,j<N→f j<bQ],.one (.fl [.q (aU f N i)]))
 | _=>none
theorem Aq {N:Nat} {f:Nat→Nat}:∀cs pre r,Kg N f cs=some (pre,r)→aR pre→∀(args:List Value) (w:World),cO w cs args→bI prog 42 r args w:=by
 intro cs pre r hg hp args w ha;unfold Kg at hg;split at hg
 ·rename_i l n m i;cases hg
  match args,ha with
  | [u,t],ha =>
   have h1:t=iI i:=ha.2.1;subst h1;exact BQ (LV.ofS ha.1 hp.1 hp.2.1 hp.2.2.1 hp.2.2.2.1)
  | [],ha=>exact ha.elim
  | [_],ha=>exact ha.2.elim
  | _::_::_::_,ha=>exact ha.2.2.elim
 ·cases hg
def cU:Code:=(f36.body).getD .skip
theorem ZE:cU=.seq (cA cU) (.seq (.seq (.region 1 (aK (cA (cA (cB cU)))) false) (cB (cA (cB cU)))) (.seq (.region 4 (aK (cA (cB (cB cU)))) false) (cB (cB (cB cU))))):=by kernel_rfl
def ID (v:Value) (x:Nat):List Fact:=[.slot 0 (.im v),.slot 3 (.pt 3 0),.row 3 true [.q x],.slot 5 (.pt 5 0),.row 5 true [.f ⟨0,dP⟩]]
def Sj (v:Value) (x:Nat):List Fact:=.slot 10 (.im v) :: .slot 12 (.sl 12 0 1 1) :: .row 12 true [.q x]::ID v x
def Dq (v:Value) (x b:Nat):List Fact:=.slot 13 (.sl 13 0 2 2) :: .row 13 true [.c v,.c (aS b 0 1 1)] :: .row 12 true [.q x] :: .at 12 b::ID v x
def bL:Cfg:=⟨fun _=>dB,fun _=>true,fun _=>none⟩
theorem Sf (v:Value) (x:Nat):aH prog (qG prog) f36.ntmps (cF fun _=>none) 40 (cA cU) (dX 0 [.v (.im v),.v (.fl [.q x])]) (ID v x)=some ([],.nrm,ID v x):=by kernel_rfl
theorem Se (p:Option Addr) (N m x:Nat):cP prog (qG prog) f36.ntmps bL ((aK (cA (cA (cB cU)))).extract 0 3) (ID (.slice p N m) x) (Sj (.slice p N m) x)=some ([],Sj (.slice p N m) x):=by kernel_rfl
theorem Sd (p:Option Addr) (N m x b:Nat):cP prog (qG prog) f36.ntmps bL ((aK (cA (cA (cB cU)))).extract 3 4) (.slot 12 (.im (aS b 0 1 1)) :: .at 12 b::Sj (.slice p N m) x) (Dq (.slice p N m) x b)=some ([],Dq (.slice p N m) x b):=by kernel_rfl
theorem Sc (v:Value) (x b:Nat) (e:Int):cP prog (qG prog) f36.ntmps bL ((aK (cA (cA (cB cU)))).extract 5 6) (.slot 14 (.im (.int .i64 e))::Dq v x b) (.slot 7 (.im (.int .i64 e))::ID v x)=some ([],.slot 7 (.im (.int .i64 e))::ID v x):=by kernel_rfl
theorem If (v:Value) (x:Nat) (e:Int):aH prog (qG prog) f36.ntmps (cF (aE [(16,.bool true)])) 40 (cB (cA (cB cU))) (.slot 7 (.im (.int .i64 e))::ID v x) [.slot 4 (.im (.slice none 0 0)),.slot 5 (.pt 5 0),.row 5 true [.f ⟨0,dP⟩],.slot 6 (.im (.int .i64 e))]=some ([aC .neq .i64 e 0=some (.bool true)],.rt,[.slot 4 (.im (.slice none 0 0)),.slot 5 (.pt 5 0),.row 5 true [.f ⟨0,dP⟩],.slot 6 (.im (.int .i64 e))]):=by kernel_rfl
theorem ZD (v:Value) (x:Nat):aH prog (qG prog) f36.ntmps (cF fun _=>none) 40 (cB (cA (cB cU))) (.slot 7 (.im (.int .i64 0))::ID v x) (ID v x)=some ([],.nrm,ID v x):=by kernel_rfl
def Si (v:Value) (x:Nat):List Fact:=.slot 20 (.im v) :: .slot 21 (.fl [.q x])::ID v x
theorem Sb (v:Value) (x:Nat):cP prog (qG prog) f36.ntmps bL ((aK (cA (cB (cB cU)))).extract 0 2) (ID v x) (Si v x)=some ([],Si v x):=by kernel_rfl
def Zj (b b' n n':Nat) (l l':List At):List Fact:=[.slot 8 (.im (aS b 0 n n)),.slot 9 (.im (aS b' 0 n' n')),.row 1000 true l,.at 1000 b,.row 1001 true l',.at 1001 b',.slot 5 (.pt 5 0),.row 5 true [.f ⟨0,dP⟩]]
theorem Sa (v:Value) (x b b' n n':Nat) (l l':List At):cP prog (qG prog) f36.ntmps bL ((aK (cA (cB (cB cU)))).extract 3 8) (.row 1001 true l' :: .at 1001 b' :: .row 1000 true l :: .at 1000 b :: .slot 22 (.tu [.im (aS b 0 n n),.im (aS b' 0 n' n')])::Si v x) (Zj b b' n n' l l')=some ([],Zj b b' n n' l l'):=by kernel_rfl
def liZ (n e:Nat) (l:List At):List Fact:=[.slot 4 (.sl 1000 0 n n),.row 1000 true l,.slot 5 (.pt 5 0),.row 5 true [.q e],.slot 6 (.im (.int .i64 0))]
theorem Rz (b b' n n':Nat) (l l':List At) (f:Nat→Nat):aH prog (qG prog) f36.ntmps (fun _=>⟨fun _=>dB.add 42 (Kg n' f),fun _=>true,fun _=>none⟩) 40 (cB (cB (cB cU))) (.slot 8 (.sl 1000 0 n n) :: .slot 9 (.sl 1001 0 n' n')::Zj b b' n n' l l') (liZ n (aU f n' 0) l)=some ([aB l'=aB (aP (el f) 0 n'),n'=n',n'≤n',∀j,j<n'→f j<bQ],.rt,liZ n (aU f n' 0) l):=by kernel_rfl
theorem pB {c:Int} (h:c≠0):aC .neq .i64 c 0=some (.bool true):=by
 show some (Value.bool (c != 0))=_;rw[bne_iff_ne.2 h]
def UV (x L:Nat) (f:Nat→Nat):Nat→Nat:=qV 1 x L f (L-1)
def vE (x L:Nat) (f:Nat→Nat) (j:Nat):Nat:=UV x L f (min 1 L+j)
def yF (x L:Nat) (f:Nat→Nat):Nat:=aF (vE x L f) (L-min 1 L)
def ZF (x L:Nat) (f:Nat→Nat):Nat:=aU (UV x L f) (aF (UV x L f) (min 1 L)) 0
theorem nT {A:List Fact} {d:Nat} (h:A.all (fun φ => !(gW (some d) none φ))=true):∀φ∈A,gW (some d) none φ=false:=fun φ hφ=>by
 rw[List.all_eq_true]at h;simpa using h φ hφ
theorem sU {w0:World} {v:Value} {N x:Nat} {f:Nat→Nat} (hv:LV w0 v N f) (hN:N≤4611686018427387904) (hx:x<bQ) :
  (fB N f x≠0→bI prog 36 (.many [.im (.slice none 0 0),.fl [.f ⟨0,dP⟩],.im (.int .i64 (fB N f x))]) [v,.agg (aB [At.q x]).toArray] w0) ∧
  (fB N f x=0→Calls prog 36 #[v,.agg (aB [At.q x]).toArray] w0 (fun e w'=>FR.ok ⟨aP (el (vE x (aF f N) f)) 0 (yF x (aF f N) f),yF x (aF f N) f,yF x (aF f N) f,[.fl [.q (ZF x (aF f N) f)],.im (.int .i64 0)]⟩ w0 e w')):=by
 have hG:bO prog (qG prog) w0.heap.size w0:=(bE _).w _ _;have hT:∀n d:Nat,TabOkW prog dB w0.heap.size w0:=fun _ _=>aY.w _ _
 obtain⟨p0,m0,rfl,hm0,h256,hmem⟩:=id hv;have first:∀R:Ending→World→Prop,(∀a w,Holds f36.ntmps w0.heap.size w0 (.slot 7 (.im (.int .i64 (fB N f x)))::ID (.slice p0 N m0) x) a w→(cB (cA (cB cU))).wp prog (fun e a w=>match e with | .normal=>(Code.seq (.region 4 (aK (cA (cB (cB cU)))) false) (cB (cB (cB cU)))).wp prog (bodyPost prog f36 R) a w|e=>bodyPost prog f36 R e a w) a w) →
   Calls prog 36 #[.slice p0 N m0,.agg (aB [At.q x]).toArray] w0 R:=fun R hR=>by
  refine bP func36 (cs:=[.v (.im (.slice p0 N m0)),.v (.fl [.q x])]) (args:=[.slice p0 N m0,.agg (aB [At.q x]).toArray]) (c:=cU) rfl ⟨rfl,rfl,trivial⟩ (Nat.le_of_ble_eq_true (by kernel_rfl)) fun a w1 hA => ?_
  rw[ZE];refine wp_seq (aA aG hT hG (Sf _ x) trivial hA fun a w1 hA => ?_);refine wp_seq (wp_seq (bV (l:=List.range' 0 ((aK (cA (cA (cB cU)))).extract 0 3).size++(List.range' 3 ((aK (cA (cA (cB cU)))).extract 3 4).size++(4::(List.range' 5 ((aK (cA (cA (cB cU)))).extract 5 6).size++[])))) (by kernel_rfl) ?_));refine aI (c:=bL) (hT 0) hG (Se p0 N m0 x) trivial (by kernel_rfl) hA fun a w1 hA => ?_
  obtain⟨b,hA⟩:=hA.at (k:=12) (l:=[.q x]) (by simp[Sj]);have hA:=hA.im (s:=12) (k:=12) (o:=0) (n:=1) (m:=1) (b:=b) (by simp[Sj]) (by simp);refine aI (c:=bL) (hT 0) hG (Sd p0 N m0 x b) trivial (by kernel_rfl) hA fun a w1 hA => ?_
  obtain⟨b2,hB⟩:=hA.at (k:=13) (l:=[.c (.slice p0 N m0),.c (aS b 0 1 1)]) (by simp[Dq]);have h13:=(hB.im (s:=13) (k:=13) (o:=0) (n:=2) (m:=2) (b:=b2) (by simp[Dq]) (by simp)).slot (s:=13) (v:=aS b2 0 2 2) (by simp);have o1:oldOf w1 b 0 [.q x]:=hA.old (k:=12) (by simp[Dq]) (by simp[Dq]);have o2:oldOf w1 b2 0 [.c (.slice p0 N m0),.c (aS b 0 1 1)]:=hB.old (k:=13) (by simp[Dq]) (by simp);obtain⟨o,ho,hoo,hod,hog⟩:∃o,(aK (cA (cA (cB cU))))[4]?=some o∧(∃ts,o.op=.call ⟨.value (.func 28),#[.tmp 13],ts⟩)∧o.dst=some 14∧o.guard=none:=⟨_,rfl,⟨_,rfl⟩,rfl,rfl⟩
  obtain⟨ts,hoo⟩:=hoo;refine eD ho hog (mU hoo (vs:=[aS b2 0 2 2]) (by simp[Act.eval,h13]) (fun args=>bF func28 (by kernel_rfl) (by kernel_rfl) args _) (tS (hv.on hA.below) hN hx o1 o2) fun w2 hb => ?_);rw[hod];have hA:=hA.put hb (d:=14) (Nat.le_of_ble_eq_true (by kernel_rfl)) (.im (.int .i64 (fB N f x))) (nT (by kernel_rfl));refine aI (c:=bL) (hT 0) hG (Sc _ x b _) trivial (by kernel_rfl) hA fun a w1 hA => ?_
  exact Code.wp_mono (fun e a w h=>by cases e<;>exact h) (hR a w1 hA)
 refine⟨fun he=>first _ fun a w hA => ?_,fun he=>first _ fun a w hA => ?_⟩
 ·exact aA aG hT hG (If _ x _) ⟨pB he,trivial⟩ hA fun a w' hA=>bH (l:=[.im (.slice none 0 0),.fl [.f ⟨0,dP⟩],.im (.int .i64 (fB N f x))]) (r:=.many [.im (.slice none 0 0),.fl [.f ⟨0,dP⟩],.im (.int .i64 (fB N f x))]) (by kernel_rfl) (by kernel_rfl) hA
 ·rw[he]at hA;obtain⟨hN2,hf,hxr⟩:=pJ he;refine aA aG hT hG (ZD _ x) trivial hA fun a w1 hA => ?_
  show (Code.seq _ _).wp _ _ _ _;refine wp_seq (bV (l:=List.range' 0 ((aK (cA (cB (cB cU)))).extract 0 2).size++(2::(List.range' 3 ((aK (cA (cB (cB cU)))).extract 3 8).size++[]))) (by kernel_rfl) ?_);refine aI (c:=bL) (hT 0) hG (Sb _ x) trivial (by kernel_rfl) hA fun a w1 hA => ?_
  have h20:=hA.slot (s:=20) (v:=.slice p0 N m0) (by simp[Si]);have h21:=hA.slotF (s:=21) (l:=[.q x]) (by simp[Si]);obtain⟨o,ho,hoo,hod,hog⟩:∃o,(aK (cA (cB (cB cU))))[2]?=some o∧(∃ts,o.op=.call ⟨.value (.func 56),#[.tmp 20,.const (iI 1),.tmp 21],ts⟩)∧o.dst=some 22∧o.guard=none:=⟨_,rfl,⟨_,rfl⟩,rfl,rfl⟩
  obtain⟨ts,hoo⟩:=hoo;refine eD ho hog (mT hoo (vs:=[.slice p0 N m0,iI 1,.agg (aB [At.q x]).toArray]) (by simp[Act.eval,h20,h21]) (fun args=>bF func56 (by kernel_rfl) (by kernel_rfl) args _) (SZ (hv.on hA.below) (by omega) hf (Nat.le_refl 1) (by omega) hxr) fun e w2 hr => ?_);obtain⟨b,b',rfl,hB⟩:=hA.put2 hr (d:=22) (k:=1000) (k':=1001) (Nat.le_of_ble_eq_true (by kernel_rfl)) (by kernel_rfl) (by kernel_rfl) (by kernel_rfl) (by omega) (by decide) (by decide);refine⟨_,rfl,?_⟩;rw[hod];refine aI (c:=bL) (hT 0) hG (Sa _ x b b' _ _ _ _) trivial (by kernel_rfl) hB fun a w3 hA => ?_
  have hA:=hA.toSl (s:=9) (k:=1001) (b:=b') (List.mem_of_getElem? (i:=1) rfl) (List.mem_of_getElem? (i:=5) rfl);have hA:=hA.toSl (s:=8) (k:=1000) (b:=b) (List.mem_of_getElem? (i:=1) rfl) (List.mem_of_getElem? (i:=4) rfl);have hlt:=xV (n:=1) (c:=x) (L:=aF f N) (f:=f) (fun j hj=>hf j (Nat.lt_of_lt_of_le hj (cI f N))) (aF f N-1);have hn':aF (UV x (aF f N) f) (min 1 (aF f N))≤aF f N:=Nat.le_trans (cI _ _) (Nat.min_le_right _ _);exact aA aG (fun _ _=>TabOkW.add (aY.w _ _) func42 (by kernel_rfl) (by kernel_rfl) fun w hw cs pre r h1 h2 args ha=>Aq cs pre r h1 h2 args w ha) hG (Rz b b' _ _ _ _ (UV x (aF f N) f)) ⟨rfl,rfl,Nat.le_refl _,fun j hj=>dW (hlt j (by show j<_; exact Nat.lt_of_lt_of_le hj hn')),trivial⟩ hA fun a w4 hA=>dE (r:=⟨aP (el (vE x (aF f N) f)) 0 (yF x (aF f N) f),yF x (aF f N) f,yF x (aF f N) f,[.fl [.q (ZF x (aF f N) f)],.im (.int .i64 0)]⟩) (by kernel_rfl) hA
structure Own (w:World) (b:Nat) (l:List At):Prop where
 lt:b<w.heap.size
 row:w.rangeAt b 0 (aB l)
 free:∀j,w.frozen? ⟨b,j,none⟩=false
theorem Holds.wrc {nt b:Nat} {w w':World} {A:List Fact} {a:Act} (h:Holds nt b w A a w') {l:List At} (h1:Fact.row 0 true l∈A) (h2:Fact.at 0 b∈A) (h3:Fact.at nt w.heap.size∈A):WrC w w' b∧w'.rangeAt b 0 (aB l):=by
 obtain⟨β,g1,g2,g3,gt⟩:=h.facts;obtain⟨e1,e2,e4,_⟩:=g1 _ h1;obtain⟨e5,e6,e7⟩:=e4 rfl;have e3:=g1 _ h2;have e8:=g1 _ h3;simp only[Fact.ok]at e3 e8;rw[e6]at e2;rw[e3.1]at e2;refine⟨⟨h.below,fun p hp hne => ?_,gt.shape,fun j => ?_⟩,e2⟩
 ·rcases Nat.lt_or_ge p.block b with q|q
  ·exact⟨h.below.cell q,h.below.frozen q⟩
  ·exact gt.mem p (by omega) (by rw[e8.1]; exact hp)
 ·have:=e7 j
  rwa [e3.1]at this
section
variable {P:Program} {w:World} {R:Ending→World→Prop}
end
def BR:Nat→List AV→List Fact
 | _,[]=>[]
 | i,v::r=>.slot i v::BR (i+1) r
theorem tW {base:Nat} {β:Nat→Bk} (a:Act) (w:World):∀(xs:List AV) (i:Nat),(∀j v,xs[j]?=some v→a.tmps[i+j]?=some (v.den β))→∀φ∈BR i xs,φ.ok base β a w
 | [],i,_,φ,h=>by cases h
 | t::r,i,ha,φ,h=>by
  rcases List.mem_cons.1 h with rfl|h
  ·exact ha 0 t rfl
  ·exact tW a w r (i+1) (fun j u hj=>by have:=ha (j+1) u (by simpa using hj); rwa [show i+(j+1)=i+1+j by omega]at this) φ h
theorem pM:∀(xs:List AV) (i:Nat) (k:Nat) (o:Bool) (l:List At),Fact.row k o l∈BR i xs→False
 | [],i,k,o,l,h=>by cases h
 | t::r,i,k,o,l,h=>by
  rcases List.mem_cons.1 h with h|h
  ·cases h
  ·exact pM r (i+1) k o l h
def MA (nt b N:Nat) (l:List At) (xs:List AV):List Fact:=.row 0 true l :: .at 0 b :: .at nt N::BR 0 xs
section
variable {P:Program} {w:World} {R:Ending→World→Prop}
theorem vG {f:FuncId} {fn:Func} (hf:P.funcs[f]?=some fn) {c:Code} (hb:fn.body=some c) {b:Nat} {l:List At} {xs:List AV} {vs:List Value} (hx:∀β:Nat→Bk,β 0=(b,0,0)→xs.map (AV.den β)=vs) (hO:Own w b l) (hn:xs.length≤fn.ntmps) (h0n:0<fn.ntmps)
  (h:∀a w',Holds fn.ntmps b w (MA fn.ntmps b w.heap.size l xs) a w'→c.wp P (bodyPost P fn R) a w'):Calls P f vs.toArray w R:=by
 refine calls_of_wp hf hb (h _ _ ?_);have hlen:vs.length=xs.length:=by rw[←hx (fun _=>(b,0,0)) rfl,List.length_map]
 have hg:∀j u,vs[j]?=some u→(vs.toArray++Array.replicate (fn.ntmps-vs.toArray.size) undef)[j]?=some u:=fun j u hj=>by
  have hlt:=(List.getElem?_eq_some_iff.1 hj).1;rw[Array.getElem?_append_left (by simpa using hlt)];simpa using hj
 have hz:(fun k=>if k=fn.ntmps then ((w.heap.size,0,0):Bk)else (b,0,0)) 0=(b,0,0):=if_neg (by omega);have hz2:(fun k=>if k=fn.ntmps then ((w.heap.size,0,0):Bk)else (b,0,0)) fn.ntmps=(w.heap.size,0,0):=if_pos rfl;generalize (fun k=>if k=fn.ntmps then ((w.heap.size,0,0):Bk)else (b,0,0))=β at hz hz2;have h0:∀k o l0,Fact.row k o l0∈MA fn.ntmps b w.heap.size l xs→k=0∧o=true:=fun k o l0 hk=>by
  simp only[MA,List.mem_cons,reduceCtorEq,false_or]at hk
  rcases hk with hk|hk
  ·cases hk; exact⟨rfl,rfl⟩
  ·exact (pM xs 0 k o l0 hk).elim
 refine⟨rfl,by simp; omega,Below.refl _ _,Nat.le_of_lt hO.lt,β,fun φ hφ => ?_,fun k k' o' l1 l2 h1 h2 hne => ?_,fun k l1 h1=>Or.inl ?_,by rw[hz2]; exact Nat.le_refl _,fun p q1 q2=>⟨rfl,rfl⟩,Shape.refl _⟩
 ·simp only[MA,List.mem_cons]at hφ
  rcases hφ with rfl|rfl|rfl|hφ
  ·exact⟨by rw[hz]; exact hO.lt,by rw[hz]; exact hO.row,fun _=>⟨by rw[hz]; exact Nat.le_refl _,by rw[hz],by rw[hz]; exact hO.free⟩,fun h=>by cases h⟩
  ·exact⟨by rw[hz],by rw[hz]⟩
  ·exact⟨by rw[hz2],by rw[hz2]⟩
  ·refine tW _ _ xs 0 (fun j v hj => ?_) φ hφ;rw[Nat.zero_add];exact hg j _ (by rw[←hx β hz,List.getElem?_map,hj]; rfl)
 ·exact (hne ((h0 k true l1 h1).1.trans (h0 k' o' l2 h2).1.symm)).elim
 ·rw[(h0 k true l1 h1).1,hz]
end
def Kh (P:Program) (q:EqT) (C:Nat→Cfg) (fn:Func) (n b N:Nat) (l:List At) (xs:List AV):Option (List Prop×RV×List At×Nat×Nat) :=
 match fn.body with
 | some c=>bif Nat.ble xs.length fn.ntmps&&Nat.blt 0 fn.ntmps then (match run P q fn.ntmps C n c (MA fn.ntmps b N l xs)with
   | some (ps,.rt,A)=>match kH P A fn.results.toList,dA A 0,nG A 0,nG A fn.ntmps with
    | some x,some (true,L),some b',some N'=>match rv x with|some r=>some (ps,r,L,b',N')|none=>none
    | _,_,_,_=>none
   | _=>none)else none
 | none=>none
theorem EX {P:Program} {q:EqT} {C:Nat→Cfg} {w:World} {b:Nat} (hm:P.follows .mixedOrders=true) (hT:∀n d,TabOkW P ((C n).T d) b w) (hq:bO P q b w) {f:FuncId} {fn:Func} (hf:P.funcs[f]?=some fn) {n:Nat} {l L:List At} {xs:List AV} {vs:List Value} {ps:List Prop} {r:RV}
  (h:Kh P q C fn n b w.heap.size l xs=some (ps,r,L,b,w.heap.size)) (hps:aR ps) (hx:∀β:Nat→Bk,β 0=(b,0,0)→xs.map (AV.den β)=vs) (hO:Own w b l):Calls P f vs.toArray w (tY b w r L):=by
 unfold Kh at h;split at h
 ·rename_i c hb;cases hle:(Nat.ble xs.length fn.ntmps&&Nat.blt 0 fn.ntmps)<;>rw[hle]at h
  ·cases h
  ·rw[Bool.and_eq_true]at hle;simp only[cond_true]at h;split at h
   ·rename_i ps' A hrun;split at h
    ·rename_i x L' b' N' hx' hrow hb' hN';split at h
     ·rename_i r' hr;cases h;refine vG hf hb hx hO (Nat.le_of_ble_eq_true hle.1) (by simpa using hle.2) fun a w' hH=>(dD (P:=P) (q:=q) (nt:=fn.ntmps) (C:=C) hm hT hq n c _ A ps .rt a w' _ hrun hps hH fun a w' hA => ?_).1
      exact LG hx' hr hA ⟨rfl,hA.wrc (aZ hrow) (dN hb') (dN hN')⟩
     ·cases h
    ·cases h
   ·cases h
 ·cases h
def Ws (P:Program) (T:Tab6) (w:World):Prop:=∀f b row cs pre r l,T f b row cs=some (pre,r,l)→aR pre→(∀args w,(callFunc f args).run P w=.ok (.enter f args) w) ∧
 ∀(args:List Value),b<w.heap.size→w.rangeAt b 0 (aB row)→(∀q,w.frozen? ⟨b,q,none⟩=false)→CBs w b cs args→Calls P f args.toArray w (tY b w r l)
theorem Bg {P:Program} {x:Ext} {base:Nat} {w:World} (ho:∀b o l,x.old b o l→b<base∧w.rangeAt b o (aB l)) (h2:∀w',Below base w w'→FrAt P x.T2 w') (h3:∀w',Below base w w'→FsAt P x.T3 w') (h6:∀w',Below base w w'→Ws P x.T6 w') (h4:WrOk P x.T4:=by exact UL _) (h5:PtOk P x.T5:=by exact UN _):ExtOk P x base w:=fun w' hb =>
 ⟨fun b o l h=>dC hb (ho b o l h).1 (ho b o l h).2,h2 w' hb,h3 w' hb,fun f cs pre j l hg hp=>⟨(h4 f cs pre j l hg hp).1,fun args ha=>(h4 f cs pre j l hg hp).2 args w' ha⟩,fun f cs pre j r l hg hp=>⟨(h5 f cs pre j r l hg hp).1,fun args ha=>(h5 f cs pre j r l hg hp).2 args w' ha⟩,h6 w' hb⟩
def xOb (base:Nat) (w:World) (ld:Nat→Option (List At)):Ext:={ Ext.none with ld:=ld,old:=fun b o l=>b<base∧w.rangeAt b o (aB l),T2:=lY,T3:=vR,T4:=CH,T5:=CI,T6:=CJ }
theorem Er (base:Nat) (w:World) (ld:Nat→Option (List At)):bO prog { qG prog with x:=xOb base w ld } base w :=
 ⟨(bE _).1,eJ (fun b o l h=>h) (fun w' _=>FrAt.none _ _) (fun w' _=>FsAt.none _ _)⟩
theorem WR (w:World) (b N bb i x y:Nat):Kh prog { qG prog with x:=xOb b w (aE [(8,[.q y])]) } (cF fun _=>none) f102 40 b N [.q x] [.im (iI i),.pt 0 0,.im (aT bb 0)]=some ([bb<b∧w.rangeAt bb 0 (aB [.q y]),cL [.q y]=4,x<RM,y<RM],.one (.fl [.q x]),[.q (dF x y)],b,N):=by kernel_rfl
theorem KG {w:World} {b bb i x y:Nat} (hO:Own w b [.q x]) (hb:bb<b) (hr:w.rangeAt bb 0 (aB [At.q y])) (hx:x<RM) (hy:y<RM):Calls prog 102 #[iI i,aT b 0,aT bb 0] w (tY b w (.one (.fl [.q x])) [.q (dF x y)]) :=
 EX aG (fun _ _=>aY.w _ _) (Er b w _) func102 (WR w b w.heap.size bb i x y) ⟨⟨hb,hr⟩,rfl,hx,hy,trivial⟩ (vs:=[iI i,aT b 0,aT bb 0]) (fun β h=>by simp[AV.den,h,aT]) hO
def gPw (bb y:Nat) (b:Nat) (row:List At):List CB→Option (List Prop×RV×List At)
 | [.v (.im (.int .i64 (.ofNat i))),.pt o,.v (.im u)]=>match row with
  | [.q x]=>some ([o=0,u=aT bb 0,x<RM,bb<b],.one (.fl [.q x]),[.q (dF x y)])
  | _=>none
 | _=>none
def Lq (bb y:Nat):Tab6:=CJ.add 102 (gPw bb y)
theorem Cq {w w':World} {base bb y:Nat} (hb:bb<base) (hr:w.rangeAt bb 0 (aB [At.q y])) (hy:y<RM) (hw:Below base w w'):Ws prog (Lq bb y) w':=by
 intro f b row cs pre r l hg hp;unfold Lq Tab6.add at hg;cases hq:Nat.beq f 102<;>rw[hq]at hg
 ·cases hg
 ·cases Nat.eq_of_beq_eq_true hq;refine⟨fun args w=>bF func102 (by kernel_rfl) (by kernel_rfl) args w,fun args h1 h2 h3 h4 => ?_⟩;simp only[cond_true]at hg;unfold gPw at hg;split at hg
  ·rename_i i o u;split at hg
   ·rename_i x;cases hg;obtain⟨rfl,rfl,hx,hbb,_⟩:=hp
    match args,h4 with
    | [v1,v2,v3],h4 =>
     obtain⟨e1,e2,e3,_⟩:=h4;have e1:v1=iI i:=e1;have e2:v2=aT b 0:=e2;have e3:v3=aT bb 0:=e3;subst e1; subst e2; subst e3;exact KG ⟨h1,h2,h3⟩ hbb (dC hw hb hr) hx hy
    | [],h4=>exact h4.elim
    | [_],h4=>exact h4.2.elim
    | [_,_],h4=>exact h4.2.2.elim
    | _::_::_::_::_,h4=>exact h4.2.2.2.elim
   ·cases hg
  ·cases hg
def TR (b N0:Nat) (v:Value) (S Z:List At) (N i:Nat):List Fact:=[.row 0 true S,.at 0 b,.at f30.ntmps N0,.slot 1 (.im v),.slot 5 (.sl 8 0 N N),.row 8 true Z,.slot 10 (.im (iI N)),.slot 11 (.im (iI i))]
def Lf (b N0:Nat) (v:Value) (S:List At) (N:Nat):List Fact:=[.row 0 true S,.at 0 b,.at f30.ntmps N0,.slot 0 (.im (iI N)),.slot 1 (.im v)]
def Le (b N0:Nat) (v:Value) (S Z:List At) (N:Nat):List Fact:=[.row 0 true S,.at 0 b,.at f30.ntmps N0,.slot 1 (.im v),.slot 5 (.sl 8 0 N N),.row 8 true Z]
theorem Vn (b N0:Nat) (v:Value) (S:List At) (N:Nat):aH prog (qG prog) f30.ntmps (cF fun _=>none) 40 (cA eF) (MA f30.ntmps b N0 S [.im (iI N),.im v]) (Lf b N0 v S N)=some ([],.nrm,Lf b N0 v S N):=by kernel_rfl
theorem Vm (b N0:Nat) (v:Value) (S Z:List At) (N:Nat):aH prog { qG prog with x:=xM 8 N Z } f30.ntmps (cF fun _=>none) 40 (cA (cB eF)) (Lf b N0 v S N) (Le b N0 v S Z N)=some ([∃e,∀w:World,(Instr.makeSlice 22 (iI N) (iI N)).run prog w=.ok (.slice (some ⟨w.heap.size,0,none⟩) N N) (w.alloc (.cells (aB Z).toArray e))],.nrm,Le b N0 v S Z N):=by kernel_rfl
theorem Vl (b N0:Nat) (v:Value) (S Z:List At) (N:Nat):aH prog (qG prog) f30.ntmps (cF fun _=>none) 40 (cA (cA (cB (cB eF)))) (Le b N0 v S Z N) (TR b N0 v S Z N 0)=some ([],.nrm,TR b N0 v S Z N 0):=by kernel_rfl
def xP (bb y d i:Nat) (Z:List At):Ext:={ Ext.none with idx:=aE [(18,0),(d,i)],st:=aE [(d,Z)],ky:=aE [(18,0)],T2:=lY,T3:=vR,T4:=CH,T5:=CI,T6:=Lq bb y }
theorem Mn {w:World} {b bb y d i:Nat} {Z:List At} (hb:bb<b) (hr:w.rangeAt bb 0 (aB [At.q y])) (hy:y<RM):bO prog { qG prog with x:=xP bb y d i Z } b w :=
 ⟨(bE _).1,Bg (fun b o l h=>h.elim) (fun w' _=>FrAt.none _ _) (fun w' _=>FsAt.none _ _) (fun w' hw=>Cq hb hr hy hw)⟩
theorem Vo (b N0 bb y:Nat) (Z Z':List At) (N i x:Nat):aH prog { qG prog with x:=xP bb y 19 i Z' } f30.ntmps (cF (aE [(12,.bool true),(20,iI (i+1))])) 60 tU (TR b N0 (fG 102 [aT b 0,aT bb 0]) [.q x] Z N i) (TR b N0 (fG 102 [aT b 0,aT bb 0]) [.q (dF x y)] Z' N (i+1))=some ([aC .lss .i64 (Int.ofNat i) (Int.ofNat N)=some (.bool true),b=b,0=0,aT bb 0=aT bb 0,x<RM,bb<b,Int.ofNat i=Int.ofNat i,i<N,put Z (0+i*4) [.q x]=some Z',aC .add .i64 (Int.ofNat i) 1=some (iI (i+1))],.nrm,TR b N0 (fG 102 [aT b 0,aT bb 0]) [.q (dF x y)] Z' N (i+1)):=by kernel_rfl
theorem Lg (b N0:Nat) (v:Value) (S Z:List At) (N i:Nat):aH prog (qG prog) f30.ntmps (cF (aE [(12,.bool false)])) 40 tU (TR b N0 v S Z N i) (TR b N0 v S Z N i)=some ([aC .lss .i64 (Int.ofNat i) (Int.ofNat N)=some (.bool false)],.ex 0,TR b N0 v S Z N i):=by kernel_rfl
def Vk (b N0:Nat) (S Z:List At) (N:Nat):List Fact:=[.row 0 true S,.at 0 b,.at f30.ntmps N0,.slot 4 (.sl 8 0 N N),.row 8 true Z]
theorem Cg (b N0:Nat) (v:Value) (S Z:List At) (N i:Nat):aH prog (qG prog) f30.ntmps (cF fun _=>none) 40 (cB (cB (cB eF))) (TR b N0 v S Z N i) (Vk b N0 S Z N)=some ([],.rt,Vk b N0 S Z N):=by kernel_rfl
def gN (x y:Nat):Nat→Nat
 | 0=>x
 | i+1=>dF (gN x y i) y
theorem DR {x y:Nat} (h:x<RM):∀i,gN x y i<RM
 | 0=>h
 | i+1=>eB _ _
def FW (b:Nat) (w:World) (n:Nat) (l S:List At) (e:Ending) (w':World):Prop:=∃b2,e=.returned (aS b2 0 n n)∧WrC w w' b∧w'.rangeAt b 0 (aB S)∧w.heap.size≤b2∧b2<w'.heap.size∧w'.rangeAt b2 0 (aB l)∧∀j,w'.frozen? ⟨b2,j,none⟩=false
theorem LF {P:Program} {fn:Func} {A:List Fact} {w:World} {b s k n:Nat} {l S:List At} (hr:fn.results = #[.tmp s]) {a:Act} {w':World} (hA:Holds fn.ntmps b w A a w') (h0:Fact.row 0 true S∈A) (h1:Fact.at 0 b∈A) (h2:Fact.at fn.ntmps w.heap.size∈A) (h3:Fact.slot s (.sl k 0 n n)∈A) (h4:Fact.row k true l∈A) (hk:k≠0) :
  bodyPost P fn (FW b w n l S) .ret a w':=by
 obtain⟨q1,q2⟩:=hA.wrc h0 h1 h2;obtain⟨β,hok,hinj,hown,_⟩:=hA.facts;obtain⟨g1,g2,g3,_⟩:=hok _ h4;obtain⟨g4,g5,g6⟩:=g3 rfl;have e1:=hok _ h3;have e2:=hok _ h1;have e3:=hok _ h2;simp only[Fact.ok,AV.den]at e1 e2 e3;rw[g5]at e1 g2;have hne:=hinj k 0 true l S h4 h0 hk;rw[e2.1]at hne;have hge:w.heap.size≤(β k).1:=by
  rcases hown k l h4 with e|e
  ·exact absurd e hne
  ·rw[e3.1]at e; exact e
 have hres:(results fn a.tmps).run P w'=.ok (aS (β k).1 0 n n) w':=by
  show ((fn.results.mapM (hU a.tmps)) >>= fun vs=>pure (if h:vs.size=1 then vs[0]else .tuple vs):Sem Value).run P w'=_;have q1:(hU a.tmps (.tmp s)).run P w'=.ok (aS (β k).1 0 n n) w':=by
   show (pure (a.tmps.getD s undef):Sem Value).run P w'=_;rw[show a.tmps.getD s undef=aS (β k).1 0 n n by simp[e1,aS]]; rfl
  have hm:(List.toArray <$> fn.results.toList.mapM (hU a.tmps)).run P w'=.ok [aS (β k).1 0 n n].toArray w':=by
   rw[hr];simp[List.mapM_cons,q1]
  rw[Array.mapM_eq_mapM_toList,Sem.run_bind,hm,Result.andThen_ok,Sem.run_pure];rfl
 exact⟨hA.defers,_,hres,(β k).1,rfl,q1,q2,hge,g1,g2,g6⟩
theorem TT {w0:World} {b bb N x y:Nat} (hN:N≤131072) (hO:Own w0 b [.q x]) (hb:bb<b) (hr:w0.rangeAt bb 0 (aB [At.q y])) (hx:x<RM) (hy:y<RM) :
  Calls prog 30 #[iI N,fG 102 [aT b 0,aT bb 0]] w0 (FW b w0 N (aP (el (gN x y)) 0 N) [.q (gN x y N)]):=by
 have hG:bO prog (qG prog) b w0:=(bE _).w _ _;have hT:∀n d:Nat,TabOkW prog dB b w0:=fun _ _=>aY.w _ _
 refine vG func30 (xs:=[.im (iI N),.im (fG 102 [aT b 0,aT bb 0])]) (vs:=[iI N,fG 102 [aT b 0,aT bb 0]]) (c:=eF) rfl (fun β _=>rfl) hO (Nat.le_of_ble_eq_true (by kernel_rfl)) (by decide) fun a w' hA' => ?_
 rw[JD];refine wp_seq (aA aG hT hG (Vn b _ _ _ N) trivial hA' fun a w' hA' => ?_);refine wp_seq (aA aG hT (MQ 8 N (aP (fun _=>[.q 0]) 0 N) _ _) (Vm b _ _ _ (aP (fun _=>[.q 0]) 0 N) N) ⟨QQ (t:=22) (e:=25) (z:=[.q 0]) (v:=.int .u64 0) (n:=4) (by8:=32) (by kernel_rfl) (by kernel_rfl) rfl tM (by omega) (by omega) (by omega),trivial⟩ hA' fun a w' hA' => ?_);refine wp_seq (wp_seq (aA aG hT hG (Vl b _ _ _ _ N) trivial hA' fun a w' hA' => ?_));refine wp_block ?_;rw[←RA (el (gN x y))]at hA';refine cH aG (fun i=>TR b w0.heap.size (fG 102 [aT b 0,aT bb 0]) [.q (gN x y i)] (sV (el (gN x y)) [.q 0] N i) N i) N (fun i hi => ?_) (.ex 0) (by simp) (TR b w0.heap.size (fG 102 [aT b 0,aT bb 0]) [.q (gN x y N)] (aP (el (gN x y)) 0 N) N N) ?_ hA' fun a w' hA' => ?_
 ·exact⟨_,_,_,_,Mn (i:=i) (Z:=sV (el (gN x y)) [.q 0] N (i+1)) hb hr hy,hT,Vo b _ bb y _ _ N i (gN x y i),bK hi,rfl,rfl,rfl,DR hx i,hb,rfl,hi,zS (f:=el (gN x y)) (c:=4) (fun _=>rfl) rfl hi (Nat.zero_add _),cX (k:=1) (by omega),trivial⟩
 ·rw[←QZ (el (gN x y)) [.q 0] N];exact⟨_,_,_,_,hG,hT,Lg b _ _ _ _ N N,bU (Nat.le_refl _),trivial⟩
 ·show (cB (cB (cB eF))).wp _ _ _ _;exact aA aG hT hG (Cg b _ _ _ _ N N) trivial hA' fun a w' hA=>LF rfl hA (List.mem_of_getElem? (i:=0) rfl) (List.mem_of_getElem? (i:=1) rfl) (List.mem_of_getElem? (i:=2) rfl) (List.mem_of_getElem? (i:=3) rfl) (List.mem_of_getElem? (i:=4) rfl) (by omega)
theorem Holds.anew {nt base:Nat} {w0:World} {A:List Fact} {a:Act} {w:World} (h:Holds nt base w0 A a w) {w':World} (hb:Below base w0 w') (hs:Shape w w') (hh:base≤w'.heap.size) {d k b n:Nat} {l:List At} (hd:d<nt) (h1:base≤b) (h2:b<w'.heap.size) (h3:w'.rangeAt b 0 (aB l)) (h4:∀j,w'.frozen? ⟨b,j,none⟩=false) (hk:k≠nt) :
  Holds nt base w0 [.slot d (.sl k 0 n n),.row k true l] (a.put (some d) (aS b 0 n n)) w':=by
 obtain⟨β,g1,g2,g3,gt⟩:=h.facts;refine⟨by rw[eO]; exact h.defers,by rw[dK]; exact h.size,hb,hh,fun j=>if j=nt then (0,0,0)else (b,0,0),fun φ hφ => ?_,fun k1 k2 o2 l1 l2 q1 q2 hne => ?_,fun k1 l1 q1=>Or.inr ?_,?_,fun p p1 p2 => ?_,gt.shape.trans hs⟩
 ·simp only[List.mem_cons,List.not_mem_nil,or_false]at hφ
  rcases hφ with rfl|rfl
  ·show (a.put (some d) _).tmps[d]?=_;rw[eT _ _ _ (by rw[h.size]; exact hd)];simp[AV.den,hk,aS]
  ·refine⟨by simp[hk,h2],?_,fun _=>⟨by simp[hk,h1],by simp[hk],fun j=>by simp[hk,h4]⟩,fun h=>by cases h⟩;show w'.rangeAt (if k=nt then ((0,0,0):Bk)else (b,0,0)).1 (if k=nt then ((0,0,0):Bk)else (b,0,0)).2.1 _;rw[if_neg hk]; exact h3
 ·simp only[List.mem_cons,List.not_mem_nil,or_false,reduceCtorEq,false_or]at q1 q2;cases q1; cases q2; exact (hne rfl).elim
 ·show (if nt=nt then ((0,0,0):Bk)else (b,0,0)).1≤_;rw[if_pos rfl]; exact Nat.zero_le _
 ·show (if nt=nt then ((0,0,0):Bk)else (b,0,0)).1≤_;rw[if_pos rfl]; exact Nat.zero_le _
 ·exfalso;have h2:p.block<(if nt=nt then ((0,0,0):Bk)else (b,0,0)).1:=p2;rw[if_pos rfl]at h2;exact absurd h2 (Nat.not_lt_zero _)
def gU:Code:=(f84.body).getD .skip
theorem YB:gU=.seq (cA gU) (.seq (cA (cB gU)) (.seq (.region 2 (aK (cA (cB (cB gU)))) false) .ret)):=by kernel_rfl
def KF (x y N:Nat):List Fact:=[.slot 2 (.im (iI N)),.slot 3 (.pt 3 0),.row 3 true [.q x],.slot 4 (.pt 4 0),.row 4 true [.q y]]
theorem Qe (x y N:Nat):aH prog (qG prog) f84.ntmps (cF fun _=>none) 40 (cA gU) (dX 0 [.v (.fl [.q x]),.v (.fl [.q y]),.v (.im (iI N))]) (KF x y N)=some ([],.nrm,KF x y N):=by kernel_rfl
def Wx (x N b4:Nat):List Fact:=[.slot 2 (.im (iI N)),.slot 4 (.im (aT b4 0)),.slot 7 (.pt 7 0),.row 7 true [.q x]]
theorem Qd (w:World) (x N b3 b4:Nat):aH prog { qG prog with x:=xO w (fun _=>none) (aE [(8,[.q x])]) (fun _=>none) } f84.ntmps (cF fun _=>none) 40 (cA (cB gU)) (kX [(2,.im (iI N)),(3,.im (aT b3 0)),(4,.im (aT b4 0))]) (Wx x N b4)=some ([oldOf w b3 0 [.q x],cL [.q x]=4],.nrm,Wx x N b4):=by kernel_rfl
def Lw (x N b4 b7:Nat):List Fact:=[.slot 9 (.im (iI N)),.slot 10 (.im (fG 102 [aT b7 0,aT b4 0])),.at 7 b7,.row 7 true [.q x]]
theorem Qc (x N b4 b7:Nat):cP prog (qG prog) f84.ntmps bL ((aK (cA (cB (cB gU)))).extract 0 2) (.at 7 b7::Wx x N b4) (Lw x N b4 b7)=some ([],Lw x N b4 b7):=by kernel_rfl
theorem Qb (N:Nat) (l:List At):cP prog (qG prog) f84.ntmps bL ((aK (cA (cB (cB gU)))).extract 3 4) [.slot 11 (.sl 1000 0 N N),.row 1000 true l] [.slot 6 (.sl 1000 0 N N),.row 1000 true l]=some ([],[.slot 6 (.sl 1000 0 N N),.row 1000 true l]):=by kernel_rfl
theorem KE {w0:World} {N x y:Nat} (hN:N≤131072) (hx:x<RM) (hy:y<RM) :
  Calls prog 84 #[.agg (aB [At.q x]).toArray,.agg (aB [At.q y]).toArray,iI N] w0 (fun e w'=>FR.ok ⟨aP (el (gN x y)) 0 N,N,N,[]⟩ w0 e w'):=by
 have hG:bO prog (qG prog) w0.heap.size w0:=(bE _).w _ _;have hT:∀n d:Nat,TabOkW prog dB w0.heap.size w0:=fun _ _=>aY.w _ _
 refine bP func84 (cs:=[.v (.fl [.q x]),.v (.fl [.q y]),.v (.im (iI N))]) (args:=[.agg (aB [At.q x]).toArray,.agg (aB [At.q y]).toArray,iI N]) (c:=gU) rfl ⟨rfl,rfl,rfl,trivial⟩ (Nat.le_of_ble_eq_true (by kernel_rfl)) fun a w1 hA => ?_
 rw[YB];refine wp_seq (aA aG hT hG (Qe x y N) trivial hA fun a w1 hA => ?_);obtain⟨b3,hA⟩:=hA.at (k:=3) (l:=[.q x]) (by simp[KF]);obtain⟨b4,hA⟩:=hA.at (k:=4) (l:=[.q y]) (by simp[KF]);have o3:oldOf w1 b3 0 [.q x]:=hA.old (k:=3) (by simp[KF]) (by simp[KF]);have o4:oldOf w1 b4 0 [.q y]:=hA.old (k:=4) (by simp[KF]) (by simp[KF]);have hF:=hA.fresh [(2,.im (iI N)),(3,.im (aT b3 0)),(4,.im (aT b4 0))] (fun z hz=>by
  simp only[List.mem_cons,List.not_mem_nil,or_false]at hz
  rcases hz with rfl|rfl|rfl
  ·exact hA.slot (v:=iI N) (by simp[KF])
  ·exact hA.ptr (s:=3) (k:=3) (by simp[KF]) (by simp[KF])
  ·exact hA.ptr (s:=4) (k:=4) (by simp[KF]) (by simp[KF]))
 have hb1:=hA.below;clear hA;refine wp_seq (aA aG (fun _ _=>aY.w _ _) (cE w1 _ _ _) (Qd w1 x N b3 b4) ⟨o3,rfl,trivial⟩ hF fun a w2 hA => ?_);obtain⟨b7,hA⟩:=hA.at (k:=7) (l:=[.q x]) (by simp[Wx]);refine wp_seq (bV (l:=List.range' 0 ((aK (cA (cB (cB gU)))).extract 0 2).size++(2::(List.range' 3 ((aK (cA (cB (cB gU)))).extract 3 4).size++[]))) (by kernel_rfl) ?_);refine aI (c:=bL) (fun _=>aY.w _ _) ((bE _).w _ _) (Qc x N b4 b7) trivial (by kernel_rfl) hA fun a w3 hA => ?_
 have h9:=hA.slot (s:=9) (v:=iI N) (by simp[Lw]);have h10:=hA.slot (s:=10) (v:=fG 102 [aT b7 0,aT b4 0]) (by simp[Lw]);obtain⟨hO,hge⟩:Own w3 b7 [.q x]∧w1.heap.size≤b7:=by
  obtain⟨β,g1,_⟩:=hA.facts;obtain⟨q1,q2,q3,_⟩:=g1 (.row 7 true [.q x]) (by simp[Lw]);obtain⟨q4,q5,q6⟩:=q3 rfl;obtain⟨q7,q8⟩:=g1 (.at 7 b7) (by simp[Lw]);rw[q7]at q1 q2 q4;rw[q5]at q2;exact⟨⟨q1,q2,fun j=>by rw[←q7]; exact q6 j⟩,q4⟩
 have hlt4:b4<b7:=Nat.lt_of_lt_of_le o4.1 hge;obtain⟨o,ho,hoo,hod,hog⟩:∃o,(aK (cA (cB (cB gU))))[2]?=some o∧(∃ts,o.op=.call ⟨.value (.func 30),#[.tmp 9,.tmp 10],ts⟩)∧o.dst=some 11∧o.guard=none:=⟨_,rfl,⟨_,rfl⟩,rfl,rfl⟩
 obtain⟨ts,hoo⟩:=hoo;refine eD ho hog (mT hoo (vs:=[iI N,fG 102 [aT b7 0,aT b4 0]]) (by simp[Act.eval,h9,h10]) (fun args=>bF func30 (by kernel_rfl) (by kernel_rfl) args _) (TT hN hO hlt4 (dC hA.below o4.1 o4.2) hx hy) fun e w4 hr => ?_);obtain⟨b2,rfl,hw,_,r2,r3,r4,r5⟩:=hr;refine⟨_,rfl,?_⟩;rw[hod];have hge2:w1.heap.size≤b2:=Nat.le_trans hA.below.size r2;have hA:=hA.anew (d:=11) (k:=1000) (n:=N) (hA.below.trans (hw.below.mono hge)) hw.shape (Nat.le_trans hge2 (Nat.le_of_lt r3)) (by decide) hge2 r3 r4 r5 (by decide);refine aI (c:=bL) (fun _=>aY.w _ _) ((bE _).w _ _) (Qb N _) trivial (by kernel_rfl) hA fun a w5 hA => ?_
 exact wp_ret (aX (dE (r:=⟨aP (el (gN x y)) 0 N,N,N,[]⟩) (by kernel_rfl) hA) fun e w h=>h.older hb1)
def ZY:List CA→Option (List Prop×FR)
 | [.v (.fl l),.v (.fl m),.v (.im (.int .i64 (.ofNat n)))]=>match lH l,lH m with
  | some x,some y=>some ([x<RM,y<RM,n≤131072],⟨aP (el (gN x y)) 0 n,n,n,[]⟩)
  | _,_=>none
 | _=>none
theorem IM:∀cs pre r,ZY cs=some (pre,r)→aR pre→∀(args:List Value) (w:World),cO w cs args→Calls prog 84 args.toArray w (fun e w'=>r.ok w e w'):=by
 intro cs pre r hg hp args w ha;unfold ZY at hg;split at hg
 ·rename_i l m n;split at hg
  ·rename_i x y hx hy;cases hg
   match args,ha with
   | [u,v,t],ha =>
    obtain⟨h1,h2,h3,_⟩:=ha;have h1:u=.agg (aB l).toArray:=h1;have h2:v=.agg (aB m).toArray:=h2;have h3:t=iI n:=h3;rw[cG l x hx]at h1;rw[cG m y hy]at h2;subst h1; subst h2; subst h3;exact KE hp.2.2.1 hp.1 hp.2.1
   | [],ha=>exact ha.elim
   | [_],ha=>exact ha.2.elim
   | [_,_],ha=>exact ha.2.2.elim
   | _::_::_::_::_,ha=>exact ha.2.2.2.elim
  ·cases hg
 ·cases hg
def oH (f:Nat→Nat) (x y i:Nat):Nat:=dF (f i) (gN x y i)
theorem WH (w:World) (b o N m i x y b3 b7 b12:Nat):fH prog { qG prog with x:=xO w (aE [(7,i),(11,i)]) (aE [(8,[.q x]),(12,[.q y])]) (aE [(5,aS b o N m),(9,aS b12 0 N N)]) } (cF fun _=>none) f86 60 [.v (.im (iI i)),.v (.im (aT b3 0)),.v (.im (aT b7 0))]=some ([oldOf w b3 0 [.c (aS b o N m)],Int.ofNat i=Int.ofNat i,i<N,oldOf w b (o+i*4) [.q x],cL [.q x]=4,oldOf w b7 0 [.c (aS b12 0 N N)],Int.ofNat i=Int.ofNat i,i<N,oldOf w b12 (0+i*4) [.q y],cL [.q y]=4,x<RM,y<RM],.one (.fl [.q (dF x y)])):=by kernel_rfl
def iC:Code:=(f59.body).getD .skip
theorem VC:iC=.seq (cA iC) (.seq (.region 1 (aK (cA (cB iC))) false) (cB (cB iC))):=by kernel_rfl
def Xn (v:Value) (x y:Nat):List Fact:=[.slot 3 (.pt 3 0),.row 3 true [.c v],.slot 4 (.pt 4 0),.row 4 true [.q x],.slot 5 (.pt 5 0),.row 5 true [.q y]]
theorem Mr (p:Option Addr) (N m x y:Nat):aH prog (qG prog) f59.ntmps (cF fun _=>none) 40 (cA iC) (dX 0 [.v (.im (.slice p N m)),.v (.fl [.q x]),.v (.fl [.q y])]) (Xn (.slice p N m) x y)=some ([],.nrm,Xn (.slice p N m) x y):=by kernel_rfl
def Ms (v:Value) (N:Nat) (l:List At):List Fact:=[.slot 3 (.pt 3 0),.row 3 true [.c v],.slot 12 (.sl 12 0 N N),.row 12 true l]
def Wq:Tab2:=lY.add 84 ZY
theorem Cs (w:World):FrAt prog Wq w:=(FrAt.none _ _).add func84 (by kernel_rfl) (by kernel_rfl) fun cs pre r h1 h2 args ha=>IM cs pre r h1 h2 args w ha
def FY (T2:Tab2):Ext:={ Ext.none with T2:=T2,T3:=vR,T4:=CH,T5:=CI,T6:=CJ }
theorem fS {base:Nat} {w:World} {T2:Tab2} (h:∀w',Below base w w'→FrAt prog T2 w'):bO prog { qG prog with x:=FY T2 } base w :=
 ⟨(bE _).1,eJ (fun b o l h=>h.elim) h (fun w' _=>FsAt.none _ _)⟩
theorem Mq (p:Option Addr) (N m x y:Nat):cP prog { qG prog with x:=FY Wq } f59.ntmps bL ((aK (cA (cB iC))).extract 0 5) (Xn (.slice p N m) x y) (Ms (.slice p N m) N (aP (el (gN x y)) 0 N))=some ([x<RM,y<RM,N≤131072],Ms (.slice p N m) N (aP (el (gN x y)) 0 N)):=by kernel_rfl
def UR (v:Value) (N b12:Nat) (l:List At):List Fact:=[.at 12 b12,.slot 3 (.pt 3 0),.row 3 true [.c v],.row 12 true l,.slot 7 (.pt 7 0),.row 7 true [.c (aS b12 0 N N)]]
theorem Mp (v:Value) (N b12:Nat) (l:List At):cP prog (qG prog) f59.ntmps bL ((aK (cA (cB iC))).extract 5 7) (.slot 12 (.im (aS b12 0 N N)) :: .at 12 b12::Ms v N l) (UR v N b12 l)=some ([],UR v N b12 l):=by kernel_rfl
theorem Mo (w:World) (p:Option Addr) (N m b3 b7:Nat) (g:Nat→Nat):aH prog { qG prog with x:=xB w (aE [(13,.slice p N m)]) (lY.add 30 (uL 86 [aT b3 0,aT b7 0] N g)) } f59.ntmps (cF fun _=>none) 40 (cB (cB iC)) (kX [(3,.im (aT b3 0)),(7,.im (aT b7 0))]) [.slot 6 (.sl 16 0 N N),.row 16 true (aP (el g) 0 N)]=some ([oldOf w b3 0 [.c (.slice p N m)],iI N=iI N,fG 86 [aT b3 0,aT b7 0]=fG 86 [aT b3 0,aT b7 0]],.rt,[.slot 6 (.sl 16 0 N N),.row 16 true (aP (el g) 0 N)]):=by kernel_rfl
theorem yH {w0:World} {v:Value} {N x y:Nat} {f:Nat→Nat} (hv:LV w0 v N f) (hN:N≤131072) (hf:bD N f) (hx:x<RM) (hy:y<RM) :
  Calls prog 59 #[v,.agg (aB [At.q x]).toArray,.agg (aB [At.q y]).toArray] w0 (fun e w'=>FR.ok ⟨aP (el (oH f x y)) 0 N,N,N,[]⟩ w0 e w'):=by
 have hG:bO prog (qG prog) w0.heap.size w0:=(bE _).w _ _;have hT:∀n d:Nat,TabOkW prog dB w0.heap.size w0:=fun _ _=>aY.w _ _
 obtain⟨p,m,rfl,hm,h256,hmem⟩:=id hv;refine bP func59 (cs:=[.v (.im (.slice p N m)),.v (.fl [.q x]),.v (.fl [.q y])]) (args:=[.slice p N m,.agg (aB [At.q x]).toArray,.agg (aB [At.q y]).toArray]) (c:=iC) rfl ⟨rfl,rfl,rfl,trivial⟩ (Nat.le_of_ble_eq_true (by kernel_rfl)) fun a w1 hA => ?_
 rw[VC];refine wp_seq (aA aG hT hG (Mr p N m x y) trivial hA fun a w1 hA => ?_);refine wp_seq (bV (l:=List.range' 0 ((aK (cA (cB iC))).extract 0 5).size++(List.range' 5 ((aK (cA (cB iC))).extract 5 7).size++[])) (by kernel_rfl) ?_);refine aI (c:=bL) (hT 0) (fS fun w' _=>Cs w') (Mq p N m x y) ⟨hx,hy,hN,trivial⟩ (by kernel_rfl) hA fun a w1 hA => ?_
 obtain⟨b12,hA⟩:=hA.at (k:=12) (l:=aP (el (gN x y)) 0 N) (by simp[Ms]);have hA:=hA.im (s:=12) (k:=12) (o:=0) (n:=N) (m:=N) (b:=b12) (by simp[Ms]) (by simp);refine aI (c:=bL) (hT 0) hG (Mp _ N b12 _) trivial (by kernel_rfl) hA fun a w2 hA => ?_
 have o12:oldOf w2 b12 0 (aP (el (gN x y)) 0 N):=hA.old (k:=12) (by simp[UR]) (by simp[UR]);obtain⟨b3,hA⟩:=hA.at (k:=3) (l:=[.c (.slice p N m)]) (by simp[UR]);obtain⟨b7,hA⟩:=hA.at (k:=7) (l:=[.c (aS b12 0 N N)]) (by simp[UR]);have o3:oldOf w2 b3 0 [.c (.slice p N m)]:=hA.old (k:=3) (by simp[UR]) (by simp);have o7:oldOf w2 b7 0 [.c (aS b12 0 N N)]:=hA.old (k:=7) (by simp[UR]) (by simp);have hF:=hA.fresh [(3,.im (aT b3 0)),(7,.im (aT b7 0))] (fun z hz=>by
  simp only[List.mem_cons,List.not_mem_nil,or_false]at hz
  rcases hz with rfl|rfl
  ·exact hA.ptr (s:=3) (k:=3) (by simp[UR]) (by simp)
  ·exact hA.ptr (s:=7) (k:=7) (by simp[UR]) (by simp))
 refine aA aG (fun _ _=>aY.w _ _) (nJ fun w3 hw => ?_) (Mo w2 p N m b3 b7 (oH f x y)) ⟨o3,rfl,rfl,trivial⟩ hF fun a w4 hA2 => ?_
 ·refine (FrAt.none _ _).add func30 (by kernel_rfl) (by kernel_rfl) (iY hN (fun args w=>bF func86 (by kernel_rfl) (by kernel_rfl) args w) fun i hi w5 hw5 => ?_);obtain⟨b,o,rfl,hb,hr⟩:=hmem (by omega);have hw25:=hw.trans (hw5.mono hw.size);have hb5:=hA.below.trans (hw25.mono hA.below.size);have q3:=oldOf.go hw25 (Nat.le_refl _) o3;have q7:=oldOf.go hw25 (Nat.le_refl _) o7;have Yv:=oldOf.go hw25 (Nat.le_refl _) o12;exact bC aG (fun _ _=>aY.w _ _) (cE w5 _ _ _) func86 (WH w5 b o N m i (f i) (gN x y i) b3 b7 b12) ⟨q3,rfl,hi,cJ (Nat.lt_of_lt_of_le hb hb5.size) (dC hb5 hb hr) hi,rfl,q7,rfl,hi,cJ Yv.1 Yv.2 hi,rfl,hf i hi,DR hx i,trivial⟩ (args:=[iI i,aT b3 0,aT b7 0]) ⟨rfl,rfl,rfl,trivial⟩
 ·exact aX (dE (r:=⟨aP (el (oH f x y)) 0 N,N,N,[]⟩) (by kernel_rfl) hA2) fun e w h=>h.older hA.below
def UB (nt b N:Nat) (l lt:List At) (xs:List AV):List Fact:=.row 0 true l :: .at 0 b :: .at nt N :: .row 1 false lt::BR 0 xs
theorem LI {P:Program} {w:World} {R:Ending→World→Prop} {f:FuncId} {fn:Func} (hf:P.funcs[f]?=some fn) {c:Code} (hb:fn.body=some c) {b bt ot:Nat} {l lt:List At} {xs:List AV} {vs:List Value} (hx:∀β:Nat→Bk,β 0=(b,0,0)→β 1=(bt,ot,0)→xs.map (AV.den β)=vs) (hO:Own w b l) (hbt:bt<w.heap.size) (hrt:w.rangeAt bt ot (aB lt)) (hne:bt≠b) (hn:xs.length≤fn.ntmps) (h0n:1<fn.ntmps)
  (h:∀a w',Holds fn.ntmps b w (UB fn.ntmps b w.heap.size l lt xs) a w'→c.wp P (bodyPost P fn R) a w'):Calls P f vs.toArray w R:=by
 refine calls_of_wp hf hb (h _ _ ?_);have hlen:vs.length=xs.length:=by rw[←hx (fun j=>if j=0 then (b,0,0)else (bt,ot,0)) rfl rfl,List.length_map]
 have hg:∀j u,vs[j]?=some u→(vs.toArray++Array.replicate (fn.ntmps-vs.toArray.size) undef)[j]?=some u:=fun j u hj=>by
  have hlt:=(List.getElem?_eq_some_iff.1 hj).1;rw[Array.getElem?_append_left (by simpa using hlt)];simpa using hj
 obtain⟨β,hz,hz1,hz2⟩:∃β:Nat→Bk,β 0=(b,0,0)∧β 1=(bt,ot,0)∧β fn.ntmps=(w.heap.size,0,0) :=
  ⟨fun k=>if k=fn.ntmps then (w.heap.size,0,0)else if k=1 then (bt,ot,0)else (b,0,0),by simp; omega,by simp; omega,by simp⟩
 have h0:∀k o l0,Fact.row k o l0∈UB fn.ntmps b w.heap.size l lt xs→(k=0∧o=true)∨(k=1∧o=false):=fun k o l0 hk=>by
  simp only[UB,List.mem_cons,reduceCtorEq,false_or]at hk
  rcases hk with hk|hk|hk
  ·cases hk; exact Or.inl ⟨rfl,rfl⟩
  ·cases hk; exact Or.inr ⟨rfl,rfl⟩
  ·exact (pM xs 0 k o l0 hk).elim
 refine⟨rfl,by simp; omega,Below.refl _ _,Nat.le_of_lt hO.lt,β,fun φ hφ => ?_,fun k k' o' l1 l2 h1 h2 hne2 => ?_,fun k l1 h1=>Or.inl ?_,by rw[hz2]; exact Nat.le_refl _,fun p q1 q2=>⟨rfl,rfl⟩,Shape.refl _⟩
 ·simp only[UB,List.mem_cons]at hφ
  rcases hφ with rfl|rfl|rfl|rfl|hφ
  ·exact⟨by rw[hz]; exact hO.lt,by rw[hz]; exact hO.row,fun _=>⟨by rw[hz]; exact Nat.le_refl _,by rw[hz],by rw[hz]; exact hO.free⟩,fun h=>by cases h⟩
  ·exact⟨by rw[hz],by rw[hz]⟩
  ·exact⟨by rw[hz2],by rw[hz2]⟩
  ·exact⟨by rw[hz1]; exact hbt,by rw[hz1]; exact hrt,fun h=>(by cases h),fun _=>trivial⟩
  ·refine tW _ _ xs 0 (fun j v hj => ?_) φ hφ;rw[Nat.zero_add];exact hg j _ (by rw[←hx β hz hz1,List.getElem?_map,hj]; rfl)
 ·rcases h0 k true l1 h1 with⟨rfl,_⟩|⟨_,e⟩
  ·rcases h0 k' o' l2 h2 with⟨rfl,_⟩|⟨rfl,_⟩
   ·exact (hne2 rfl).elim
   ·rw[hz,hz1]; exact Ne.symm hne
  ·cases e
 ·rcases h0 k true l1 h1 with⟨rfl,_⟩|⟨_,e⟩
  ·rw[hz]
  ·cases e
def kO (f:Nat→Nat) (lo hi step:Nat) (tw:Nat→Nat):Nat→Nat→Nat
 | 0=>f
 | j+1=>cN (cN (kO f lo hi step tw j) (lo+j) (dH (kO f lo hi step tw j (lo+j)) (dF (kO f lo hi step tw j (hi+j)) (tw (j*step))))) (hi+j) (fD (kO f lo hi step tw j (lo+j)) (dF (kO f lo hi step tw j (hi+j)) (tw (j*step))))
theorem FE {N lo hi step:Nat} {f tw:Nat→Nat} (h:bD N f):∀j,bD N (kO f lo hi step tw j)
 | 0=>h
 | j+1=>fun i hi2=>by
  unfold kO cN;split
  ·exact lG _ _
  ·split
   ·exact gT _ _
   ·exact FE h j i hi2
def tP:Code:=(f85.body).getD .skip
def FF:Code:=fY (fY (cB tP))
theorem Bo:tP=.seq (cA tP) (.block 0 (.loop FF)):=by kernel_rfl
def UW (b N0:Nat) (Z lt:List At) (o1 o2 h c1 c2 T step j:Nat):List Fact:=[.row 0 true Z,.at 0 b,.at f85.ntmps N0,.row 1 false lt,.slot 0 (.sl 0 o1 h c1),.slot 1 (.sl 0 o2 h c2),.slot 2 (.sl 1 0 T T),.slot 3 (.im (iI step)),.slot 11 (.im (iI h)),.slot 12 (.im (iI j))]
theorem Um (b N0:Nat) (Z lt:List At) (o1 o2 h c1 c2 T step:Nat):aH prog (qG prog) f85.ntmps (cF fun _=>none) 40 (cA tP) (UB f85.ntmps b N0 Z lt [.sl 0 o1 h c1,.sl 0 o2 h c2,.sl 1 0 T T,.im (iI step)]) (UW b N0 Z lt o1 o2 h c1 c2 T step 0)=some ([],.nrm,UW b N0 Z lt o1 o2 h c1 c2 T step 0):=by kernel_rfl
theorem Uo (b N0:Nat) (Z Z1 Z2 lt:List At) (o1 o2 h c1 c2 T step j x y t:Nat):aH prog { qG prog with x:=xA (aE [(17,j),(23,j*step),(32,j),(38,j),(42,j),(43,j)]) (aE [(18,[.q y]),(24,[.q t]),(33,[.q x]),(39,[.q x])]) (aE [(42,Z1),(43,Z2)]) (fun _=>none) } f85.ntmps (cF (aE [(13,.bool true),(22,iI (j*step)),(44,iI (j+1))])) 60 FF (UW b N0 Z lt o1 o2 h c1 c2 T step j) (UW b N0 Z2 lt o1 o2 h c1 c2 T step (j+1)) =
  some ([aC .lss .i64 (Int.ofNat j) (Int.ofNat h)=some (.bool true),Int.ofNat j=Int.ofNat j,j<h,qP Z (o2+j*4) 4=some [.q y],aC .mul .i64 (Int.ofNat j) (Int.ofNat step)=some (iI (j*step)),Int.ofNat (j*step)=Int.ofNat (j*step),j*step<T,qP lt (0+j*step*4) 4=some [.q t],y<RM,t<RM,Int.ofNat j=Int.ofNat j,j<h,qP Z (o1+j*4) 4=some [.q x],x<RM,dF y t<RM,Int.ofNat j=Int.ofNat j,j<h,qP Z (o1+j*4) 4=some [.q x],x<RM,dF y t<RM,Int.ofNat j=Int.ofNat j,j<h,put Z (o1+j*4) [.q (dH x (dF y t))]=some Z1,Int.ofNat j=Int.ofNat j,j<h,put Z1 (o2+j*4) [.q (fD x (dF y t))]=some Z2,aC .add .i64 (Int.ofNat j) 1=some (iI (j+1))],.nrm,UW b N0 Z2 lt o1 o2 h c1 c2 T step (j+1)):=by kernel_rfl
theorem Ks (b N0:Nat) (Z lt:List At) (o1 o2 h c1 c2 T step j:Nat):aH prog (qG prog) f85.ntmps (cF (aE [(13,.bool false)])) 60 FF (UW b N0 Z lt o1 o2 h c1 c2 T step j) (UW b N0 Z lt o1 o2 h c1 c2 T step j)=some ([aC .lss .i64 (Int.ofNat j) (Int.ofNat h)=some (.bool false)],.ex 0,UW b N0 Z lt o1 o2 h c1 c2 T step j):=by kernel_rfl
theorem wC {f:Nat→Nat} {N i o:Nat} (hi:i<N) (ho:o=i*4):qP (aP (el f) 0 N) o 4=some [.q (f i)]:=wB (f:=el f) (c:=4) (fun _=>rfl) hi ho
theorem PM {f:Nat→Nat} {N i o x:Nat} (hi:i<N) (ho:o=i*4):put (aP (el f) 0 N) o [.q x]=some (aP (el (cN f i x)) 0 N):=by
 have:=DT (f:=f) (x:=x) hi;rw[Nat.zero_add,←ho]at this;exact this
theorem mV {f:Nat→Nat} {i j x:Nat} (h:j≠i):cN f i x j=f j:=if_neg h
theorem TH {w:World} {b bt ot N lo h c1 c2 step T:Nat} {f tw:Nat→Nat} (hO:Own w b (aP (el f) 0 N)) (hbt:bt<w.heap.size) (hrt:w.rangeAt bt ot (aB (aP (el tw) 0 T))) (hne:bt≠b) (hN:lo+h+h≤N) (hN2:N≤131072) (hf:bD N f) (htw:bD T tw) (hst:∀j,j<h→j*step<T) (hT:T≤131072) :
  Calls prog 85 #[aS b (lo*4) h c1,aS b ((lo+h)*4) h c2,aS bt ot T T,iI step] w (tY b w (.many []) (aP (el (kO f lo (lo+h) step tw h)) 0 N)):=by
 have hG:bO prog (qG prog) b w:=(bE _).w _ _;have hTb:∀n d:Nat,TabOkW prog dB b w:=fun _ _=>aY.w _ _
 refine LI func85 (xs:=[.sl 0 (lo*4) h c1,.sl 0 ((lo+h)*4) h c2,.sl 1 0 T T,.im (iI step)]) (vs:=[aS b (lo*4) h c1,aS b ((lo+h)*4) h c2,aS bt ot T T,iI step]) (bt:=bt) (ot:=ot) (c:=tP) rfl (fun β e0 e1=>by simp[AV.den,e0,e1,aS]) hO hbt hrt hne (Nat.le_of_ble_eq_true (by kernel_rfl)) (by decide) fun a w' hA => ?_
 rw[Bo];refine wp_seq (aA aG hTb hG (Um b _ _ _ _ _ h c1 c2 T step) trivial hA fun a w' hA => ?_);refine wp_block ?_;refine cH aG (fun j=>UW b w.heap.size (aP (el (kO f lo (lo+h) step tw j)) 0 N) (aP (el tw) 0 T) (lo*4) ((lo+h)*4) h c1 c2 T step j) h (fun j hj => ?_) (.ex 0) (by simp) (UW b w.heap.size (aP (el (kO f lo (lo+h) step tw h)) 0 N) (aP (el tw) 0 T) (lo*4) ((lo+h)*4) h c1 c2 T step h) ⟨_,_,_,_,hG,hTb,Ks b _ _ _ _ _ h c1 c2 T step h,bU (Nat.le_refl _),trivial⟩ hA fun a w1 hA => ?_
 ·have hlt:=FE (N:=N) (lo:=lo) (hi:=lo+h) (step:=step) (tw:=tw) hf j;have h1:lo+j<N:=by omega
  have h2:lo+h+j<N:=by omega
  have h3:=hst j hj;have hu:=mV (f:=kO f lo (lo+h) step tw j) (i:=lo+j) (x:=dH (kO f lo (lo+h) step tw j (lo+j)) (dF (kO f lo (lo+h) step tw j (lo+h+j)) (tw (j*step)))) (j:=lo+h+j) (by omega);exact⟨_,_,_,_,FZ _ _ _ _ _ _,hTb,Uo b _ _ (aP (el (cN (kO f lo (lo+h) step tw j) (lo+j) (dH (kO f lo (lo+h) step tw j (lo+j)) (dF (kO f lo (lo+h) step tw j (lo+h+j)) (tw (j*step)))))) 0 N) _ _ (lo*4) ((lo+h)*4) h c1 c2 T step j (kO f lo (lo+h) step tw j (lo+j)) (kO f lo (lo+h) step tw j (lo+h+j)) (tw (j*step)),
   bK hj,rfl,hj,wC h2 (by omega),GV (by omega),rfl,h3,wC h3 (Nat.zero_add _),hlt _ h2,htw _ h3,rfl,hj,wC h1 (by omega),hlt _ h1,eB _ _,rfl,hj,wC h1 (by omega),hlt _ h1,eB _ _,rfl,hj,PM h1 (by omega),rfl,hj,PM h2 (by omega),cX (k:=1) (by omega),trivial⟩
 ·obtain⟨q1,q2⟩:=hA.wrc (List.mem_of_getElem? (i:=0) rfl) (List.mem_of_getElem? (i:=1) rfl) (List.mem_of_getElem? (i:=2) rfl);have hres:(results f85 a.tmps).run prog w1=.ok (.tuple #[]) w1:=by
   show ((f85.results.mapM (hU a.tmps)) >>= fun vs=>pure (if h:vs.size=1 then vs[0]else .tuple vs):Sem Value).run prog w1=_;have hr:f85.results = #[]:=rfl;rw[hr];simp
  exact⟨hA.defers,.tuple #[],hres,rfl,q1,q2⟩
def dY (op:BinOp) (t:Nat) (x y:Operand) (v u r:Value):Prop:=∀w:World,(do eqGuard op t x y v u; binOp op t v u:Sem Value).run prog w=.ok r w
def u3 (n:Nat):Value:=.int .u32 (Int.ofNat n)
theorem BO (a b:Nat) (ha:a<4294967296) (hb:b<4294967296):bits .or .u32 (a:Int) (b:Int)=((a ||| b:Nat):Int):=by
 have hx:a ||| b<2^32:=Nat.or_lt_two_pow (by omega) (by omega)
 have h1:(BitVec.ofInt 32 (a:Int)).toNat=a:=by
  rw[BitVec.ofInt_natCast,BitVec.toNat_ofNat]; exact Nat.mod_eq_of_lt (by omega)
 have h2:(BitVec.ofInt 32 (b:Int)).toNat=b:=by
  rw[BitVec.ofInt_natCast,BitVec.toNat_ofNat]; exact Nat.mod_eq_of_lt (by omega)
 show IntKind.u32.wrap ((BitVec.ofInt 32 (a:Int) ||| BitVec.ofInt 32 (b:Int)).toNat:Int)=_;rw[BitVec.toNat_or,h1,h2];have e:IntKind.u32.wrap ((a ||| b:Nat):Int)=((a ||| b:Nat):Int):=by
  unfold IntKind.wrap;simp[IntKind.signed,IntKind.bits];omega
 exact e
theorem kW (t:Nat) (x y:Operand) {a b:Nat} (ha:a<4294967296) (hb:b<4294967296):dY .and t x y (u3 a) (u3 b) (u3 (a &&& b)):=fun w=>by
 have h:=bits_and_u32_nat a b ha hb;simp[eqGuard,binOp,go_sem,u3];exact h
theorem yW (t:Nat) (x y:Operand) {a b:Nat} (ha:a<4294967296) (hb:b<4294967296):dY .or t x y (u3 a) (u3 b) (u3 (a ||| b)):=fun w=>by
 have h:=BO a b ha hb;simp[eqGuard,binOp,go_sem,u3];exact h
theorem rP (t:Nat) (x y:Operand) (a:Nat) {k:Nat} (hk:k≤32):dY .shr t x y (u3 a) (.int .u64 (Int.ofNat k)) (u3 (a/2^k)):=fun w=>by
 simp[eqGuard,binOp,go_sem,u3,Nat.min_eq_left hk]
theorem rQ (t:Nat) (x y:Operand) (a:Nat) {k:Nat} (hk:k≤32):dY .shl t x y (u3 a) (.int .u64 (Int.ofNat k)) (u3 (a*2^k%4294967296)):=fun w=>by
 simp[eqGuard,binOp,go_sem,u3,IntKind.wrap,IntKind.signed,IntKind.bits,Nat.min_eq_left hk]
def eC (k m x:Nat):Nat:=(x/2^k &&& m) ||| ((x &&& m)*2^k%4294967296)
def qE (x:Nat):Nat:=(eC 8 16711935 x/2^16) ||| (eC 8 16711935 x*2^16%4294967296)
def mY (x:Nat):Nat:=qE (eC 4 252645135 (eC 2 858993459 (eC 1 1431655765 x)))
theorem lE {k m x:Nat} (hx:x<4294967296):eC k m x<4294967296:=by
 unfold eC;have h1:x/2^k &&& m<2^32:=Nat.lt_of_le_of_lt Nat.and_le_left (Nat.lt_of_le_of_lt (Nat.div_le_self _ _) (by omega));exact Nat.or_lt_two_pow (n:=32) h1 (by omega)
theorem XP {x:Nat} (hx:x<4294967296):qE x<4294967296:=by
 unfold qE;exact Nat.or_lt_two_pow (n:=32) (Nat.lt_of_le_of_lt (Nat.div_le_self _ _) (lE hx)) (by omega)
theorem XN {x:Nat} (hx:x<4294967296):mY x<4294967296:=XP (lE (lE (lE hx)))
def xG (gen:Nat→Option Value):Ext:={ Ext.none with gen:=gen,T2:=lY,T3:=vR,T4:=CH,T5:=CI,T6:=CJ }
theorem mL (gen:Nat→Option Value) (base:Nat) (w:World):bO prog { qG prog with x:=xG gen } base w :=
 ⟨(bE _).1,eJ (fun b o l h=>h.elim) (fun w' _=>FrAt.none _ _) (fun w' _=>FsAt.none _ _)⟩
theorem OC (x:Nat):fH prog { qG prog with x:=xG (aE [(4,u3 (x/2^8)),(5,u3 (x/2^8 &&& 16711935)),(7,u3 (x &&& 16711935)),(8,u3 ((x &&& 16711935)*2^8%4294967296)),(9,u3 (eC 8 16711935 x)),(11,u3 ((eC 8 16711935 x)/2^16)),(13,u3 ((eC 8 16711935 x)*2^16%4294967296)),(14,u3 (qE x))]) } (cF fun _=>none) f101 60 [.v (.im (u3 x))]=some ([dY .shr 100 (.tmp 3) (.const (.int .u64 8)) (u3 x) (.int .u64 (Int.ofNat 8)) (u3 (x/2^8)),dY .and 100 (.tmp 4) (.const (.int .u32 16711935)) (u3 (x/2^8)) (u3 16711935) (u3 (x/2^8 &&& 16711935)),dY .and 100 (.tmp 6) (.const (.int .u32 16711935)) (u3 x) (u3 16711935) (u3 (x &&& 16711935)),dY .shl 100 (.tmp 7) (.const (.int .u64 8)) (u3 (x &&& 16711935)) (.int .u64 (Int.ofNat 8)) (u3 ((x &&& 16711935)*2^8%4294967296)),dY .or 100 (.tmp 5) (.tmp 8) (u3 (x/2^8 &&& 16711935)) (u3 ((x &&& 16711935)*2^8%4294967296)) (u3 (eC 8 16711935 x)),dY .shr 100 (.tmp 10) (.const (.int .u64 16)) (u3 (eC 8 16711935 x)) (.int .u64 (Int.ofNat 16)) (u3 ((eC 8 16711935 x)/2^16)),dY .shl 100 (.tmp 12) (.const (.int .u64 16)) (u3 (eC 8 16711935 x)) (.int .u64 (Int.ofNat 16)) (u3 ((eC 8 16711935 x)*2^16%4294967296)),dY .or 100 (.tmp 11) (.tmp 13) (u3 ((eC 8 16711935 x)/2^16)) (u3 ((eC 8 16711935 x)*2^16%4294967296)) (u3 (qE x))],.one (.im (u3 (qE x)))):=by kernel_rfl
theorem rE {a m:Nat} (ha:a<4294967296):a &&& m<4294967296:=Nat.lt_of_le_of_lt Nat.and_le_left ha
theorem iA {a k:Nat} (ha:a<4294967296):a/2^k<4294967296:=Nat.lt_of_le_of_lt (Nat.div_le_self _ _) ha
theorem nX (a:Nat):a%4294967296<4294967296:=Nat.mod_lt _ (by omega)
theorem DQ {x:Nat} (hx:x<4294967296) (args:List Value) (w:World) (ha:cO w [.v (.im (u3 x))] args):bI prog 101 (.one (.im (u3 (qE x)))) args w :=
 bC aG (fun _ _=>aY.w _ _) (mL _ _ _) func101 (OC x) ⟨rP _ _ _ _ (by omega),kW _ _ _ (iA hx) (by omega),kW _ _ _ hx (by omega),rQ _ _ _ _ (by omega),yW _ _ _ (rE (iA hx)) (nX _),rP _ _ _ _ (by omega),rQ _ _ _ _ (by omega),yW _ _ _ (iA (lE hx)) (nX _),trivial⟩ ha
def Jg:iP
 | [.v (.im (.int .u32 (.ofNat x)))]=>some ([x<4294967296],.one (.im (u3 (qE x))))
 | _=>none
theorem ZX:∀cs pre r,Jg cs=some (pre,r)→aR pre→∀(args:List Value) (w:World),cO w cs args→bI prog 101 r args w:=by
 intro cs pre r hg hp args w ha;unfold Jg at hg;split at hg
 ·cases hg;exact DQ hp.1 args w ha
 ·cases hg
def Wp:Tab:=dB.add 101 Jg
theorem Qi:TabOk prog Wp:=aY.add func101 (by kernel_rfl) (by kernel_rfl) ZX
theorem OB (x:Nat):fH prog { qG prog with x:=xG (aE [(4,u3 (x/2^1)),(5,u3 (x/2^1 &&& 1431655765)),(7,u3 (x &&& 1431655765)),(8,u3 ((x &&& 1431655765)*2^1%4294967296)),(9,u3 (eC 1 1431655765 x)),(11,u3 ((eC 1 1431655765 x)/2^2)),(12,u3 ((eC 1 1431655765 x)/2^2 &&& 858993459)),(14,u3 ((eC 1 1431655765 x) &&& 858993459)),(15,u3 (((eC 1 1431655765 x) &&& 858993459)*2^2%4294967296)),(16,u3 (eC 2 858993459 (eC 1 1431655765 x))),(18,u3 ((eC 2 858993459 (eC 1 1431655765 x))/2^4)),(19,u3 ((eC 2 858993459 (eC 1 1431655765 x))/2^4 &&& 252645135)),(21,u3 ((eC 2 858993459 (eC 1 1431655765 x)) &&& 252645135)),(22,u3 (((eC 2 858993459 (eC 1 1431655765 x)) &&& 252645135)*2^4%4294967296)),(23,u3 (eC 4 252645135 (eC 2 858993459 (eC 1 1431655765 x))))]) } (fun _=>⟨fun _=>Wp,fun _=>true,fun _=>none⟩) f83 60 [.v (.im (u3 x))]=some ([dY .shr 100 (.tmp 3) (.const (.int .u64 1)) (u3 x) (.int .u64 (Int.ofNat 1)) (u3 (x/2^1)),dY .and 100 (.tmp 4) (.const (.int .u32 1431655765)) (u3 (x/2^1)) (u3 1431655765) (u3 (x/2^1 &&& 1431655765)),dY .and 100 (.tmp 6) (.const (.int .u32 1431655765)) (u3 x) (u3 1431655765) (u3 (x &&& 1431655765)),dY .shl 100 (.tmp 7) (.const (.int .u64 1)) (u3 (x &&& 1431655765)) (.int .u64 (Int.ofNat 1)) (u3 ((x &&& 1431655765)*2^1%4294967296)),dY .or 100 (.tmp 5) (.tmp 8) (u3 (x/2^1 &&& 1431655765)) (u3 ((x &&& 1431655765)*2^1%4294967296)) (u3 (eC 1 1431655765 x)),dY .shr 100 (.tmp 10) (.const (.int .u64 2)) (u3 (eC 1 1431655765 x)) (.int .u64 (Int.ofNat 2)) (u3 ((eC 1 1431655765 x)/2^2)),dY .and 100 (.tmp 11) (.const (.int .u32 858993459)) (u3 ((eC 1 1431655765 x)/2^2)) (u3 858993459) (u3 ((eC 1 1431655765 x)/2^2 &&& 858993459)),dY .and 100 (.tmp 13) (.const (.int .u32 858993459)) (u3 (eC 1 1431655765 x)) (u3 858993459) (u3 ((eC 1 1431655765 x) &&& 858993459)),dY .shl 100 (.tmp 14) (.const (.int .u64 2)) (u3 ((eC 1 1431655765 x) &&& 858993459)) (.int .u64 (Int.ofNat 2)) (u3 (((eC 1 1431655765 x) &&& 858993459)*2^2%4294967296)),dY .or 100 (.tmp 12) (.tmp 15) (u3 ((eC 1 1431655765 x)/2^2 &&& 858993459)) (u3 (((eC 1 1431655765 x) &&& 858993459)*2^2%4294967296)) (u3 (eC 2 858993459 (eC 1 1431655765 x))),dY .shr 100 (.tmp 17) (.const (.int .u64 4)) (u3 (eC 2 858993459 (eC 1 1431655765 x))) (.int .u64 (Int.ofNat 4)) (u3 ((eC 2 858993459 (eC 1 1431655765 x))/2^4)),dY .and 100 (.tmp 18) (.const (.int .u32 252645135)) (u3 ((eC 2 858993459 (eC 1 1431655765 x))/2^4)) (u3 252645135) (u3 ((eC 2 858993459 (eC 1 1431655765 x))/2^4 &&& 252645135)),dY .and 100 (.tmp 20) (.const (.int .u32 252645135)) (u3 (eC 2 858993459 (eC 1 1431655765 x))) (u3 252645135) (u3 ((eC 2 858993459 (eC 1 1431655765 x)) &&& 252645135)),dY .shl 100 (.tmp 21) (.const (.int .u64 4)) (u3 ((eC 2 858993459 (eC 1 1431655765 x)) &&& 252645135)) (.int .u64 (Int.ofNat 4)) (u3 (((eC 2 858993459 (eC 1 1431655765 x)) &&& 252645135)*2^4%4294967296)),dY .or 100 (.tmp 19) (.tmp 22) (u3 ((eC 2 858993459 (eC 1 1431655765 x))/2^4 &&& 252645135)) (u3 (((eC 2 858993459 (eC 1 1431655765 x)) &&& 252645135)*2^4%4294967296)) (u3 (eC 4 252645135 (eC 2 858993459 (eC 1 1431655765 x)))),(eC 4 252645135 (eC 2 858993459 (eC 1 1431655765 x)))<4294967296],.one (.im (u3 (mY x)))):=by kernel_rfl
theorem DP {x:Nat} (hx:x<4294967296) (args:List Value) (w:World) (ha:cO w [.v (.im (u3 x))] args):bI prog 83 (.one (.im (u3 (mY x)))) args w:=by
 have h1:=lE (k:=1) (m:=1431655765) hx;have h2:=lE (k:=2) (m:=858993459) h1;exact bC aG (fun _ _=>Qi.w _ _) (mL _ _ _) func83 (OB x) ⟨rP _ _ _ _ (by omega),kW _ _ _ (iA hx) (by omega),kW _ _ _ hx (by omega),rQ _ _ _ _ (by omega),yW _ _ _ (rE (iA hx)) (nX _),
  rP _ _ _ _ (by omega),kW _ _ _ (iA h1) (by omega),kW _ _ _ h1 (by omega),rQ _ _ _ _ (by omega),yW _ _ _ (rE (iA h1)) (nX _),
  rP _ _ _ _ (by omega),kW _ _ _ (iA h2) (by omega),kW _ _ _ h2 (by omega),rQ _ _ _ _ (by omega),yW _ _ _ (rE (iA h2)) (nX _),lE h2,trivial⟩ ha
def Jf:iP
 | [.v (.im (.int .u32 (.ofNat x)))]=>some ([x<4294967296],.one (.im (u3 (mY x))))
 | _=>none
theorem ZW:∀cs pre r,Jf cs=some (pre,r)→aR pre→∀(args:List Value) (w:World),cO w cs args→bI prog 83 r args w:=by
 intro cs pre r hg hp args w ha;unfold Jf at hg;split at hg
 ·cases hg;exact DP hp.1 args w ha
 ·cases hg
def Wo:Tab:=dB.add 83 Jf
theorem Qh:TabOk prog Wo:=aY.add func83 (by kernel_rfl) (by kernel_rfl) ZW
def DB (log i:Nat):Nat:=mY i/2^(32-log)
def SC (v:Value) (N:Nat) (f:Nat→Nat):iP
 | [.v (.im u),.v (.im (.int .i64 (.ofNat i)))]=>some ([u=v],.one (.fl [.q (aU f N i)]))
 | _=>none
theorem xJ {w:World} {v:Value} {N:Nat} {f:Nat→Nat} (hv:LV w v N f):∀cs pre r,SC v N f cs=some (pre,r)→aR pre→∀(args:List Value),cO w cs args→bI prog 42 r args w:=by
 intro cs pre r hg hp args ha;unfold SC at hg;split at hg
 ·cases hg
  match args,ha with
  | [u,t],ha =>
   have h1:u=_:=ha.1;have h2:t=_:=ha.2.1;have h3:=hp.1;subst h1; subst h2; subst h3;exact BQ hv
  | [],ha=>exact ha.elim
  | [_],ha=>exact ha.2.elim
  | _::_::_::_,ha=>exact ha.2.2.elim
 ·cases hg
theorem WL (w:World) (v:Value) (N i log b3 b4:Nat) (f:Nat→Nat):fH prog { qG prog with x:=xO w (fun _=>none) (fun _=>none) (aE [(5,v),(7,u3 i),(9,iI log),(11,u3 (DB log i)),(12,iI (DB log i))]) } (fun _=>⟨fun _=>Wo.add 42 (SC v N f),fun _=>true,aE [(10,iI (32-log))]⟩) f82 60 [.v (.im (iI i)),.v (.im (aT b3 0)),.v (.im (aT b4 0))]=some ([oldOf w b3 0 [.c v],∀w:World,(convert 3 100 (iI i)).run prog w=.ok (u3 i) w,i<4294967296,oldOf w b4 0 [.c (iI log)],aC .sub .i64 32 (Int.ofNat log)=some (iI (32-log)),dY .shr 100 (.tmp 8) (.tmp 10) (u3 (mY i)) (iI (32-log)) (u3 (DB log i)),∀w:World,(convert 100 3 (u3 (DB log i))).run prog w=.ok (iI (DB log i)) w,v=v],.one (.fl [.q (aU f N (DB log i))])):=by kernel_rfl
theorem Kq {i:Nat} (h:i<4294967296) (w:World):(convert 3 100 (iI i)).run prog w=.ok (u3 i) w:=by
 have e:(i:Int)%4294967296=i:=by omega
 simp[convert,go_sem,u3,iI,IntKind.wrap,IntKind.signed,IntKind.bits,e]
theorem Kr {i:Nat} (h:i<4294967296) (w:World):(convert 100 3 (u3 i)).run prog w=.ok (iI i) w:=by
 have e:IntKind.i64.wrap (i:Int)=i:=kC (by omega);simp[convert,go_sem,u3,iI,e]
theorem VT (t:Nat) (x y:Operand) (a:Nat) {k:Nat} (hk:k≤32):dY .shr t x y (u3 a) (iI k) (u3 (a/2^k)):=fun w=>by
 simp[eqGuard,binOp,go_sem,u3,iI,Nat.min_eq_left hk]
theorem JQ {w:World} {v:Value} {N i log b3 b4:Nat} {f:Nat→Nat} (hv:LV w v N f) (hi:i<4294967296) (hl:log≤32) (o3:oldOf w b3 0 [.c v]) (o4:oldOf w b4 0 [.c (iI log)]):bI prog 82 (.one (.fl [.q (aU f N (DB log i))])) [iI i,aT b3 0,aT b4 0] w :=
 bC aG (fun _ _=>TabOkW.add (Qh.w _ _) func42 (by kernel_rfl) (by kernel_rfl) fun w' hw=>xJ (hv.on hw)) (cE w _ _ _) func82 (WL w v N i log b3 b4 f) ⟨o3,Kq hi,hi,o4,pS (i:=32) hl (by omega),VT _ _ _ _ (by omega),Kr (Nat.lt_of_le_of_lt (Nat.div_le_self _ _) (XN hi)),rfl,trivial⟩ (args:=[iI i,aT b3 0,aT b4 0]) ⟨rfl,rfl,rfl,trivial⟩
def yD (F:Nat→Nat) (half step:Nat) (tw:Nat→Nat):Nat→Nat→Nat
 | 0=>F
 | k+1=>kO (yD F half step tw k) (2*half*k) (2*half*k+half) step tw half
def uM (F:Nat→Nat) (n:Nat) (tw:Nat→Nat):Nat→Nat→Nat
 | 0=>F
 | s+1=>yD (uM F n tw s) (2^s) (n/2/2^s) tw (n/2/2^s)
theorem CZ {N half step:Nat} {F tw:Nat→Nat} (h:bD N F):∀k,bD N (yD F half step tw k)
 | 0=>h
 | k+1=>FE (CZ h k) _
theorem pF {N n:Nat} {F tw:Nat→Nat} (h:bD N F):∀s,bD N (uM F n tw s)
 | 0=>h
 | s+1=>CZ (pF h s) _
def fC:Code:=(f58.body).getD .skip
def kF:Code:=fY (fY (cB (cA (cB (cB (cB (cB fC)))))))
def Fe:Code:=fY (fY (cB (fY (cA (cB kF)))))
theorem VN:fC=.seq (cA fC) (.seq (cA (cB fC)) (.seq (cA (cB (cB fC))) (.seq (cA (cB (cB (cB fC)))) (.seq (.seq (cA (cA (cB (cB (cB (cB fC)))))) (.block 0 (.loop kF))) (cB (cB (cB (cB (cB fC))))))))):=by kernel_rfl
theorem NH:kF=.seq (cA kF) (.seq (.block 1 (.seq (cA (fY (cA (cB kF)))) (.block 2 (.loop Fe)))) (cB (cB kF))):=by kernel_rfl
def GK (v:Value) (log x:Nat):List Fact:=[.slot 3 (.pt 3 0),.row 3 true [.c v],.slot 4 (.pt 4 0),.row 4 true [.c (iI log)],.slot 5 (.pt 5 0),.row 5 true [.q x]]
theorem Np (p:Option Addr) (N m log x:Nat):aH prog (qG prog) f58.ntmps (cF fun _=>none) 40 (cA fC) (dX 0 [.v (.im (.slice p N m)),.v (.im (iI log)),.v (.fl [.q x])]) (GK (.slice p N m) log x)=some ([],.nrm,GK (.slice p N m) log x):=by kernel_rfl
theorem No (v:Value) (log x n:Nat):aH prog { qG prog with x:=xG (aE [(13,iI n)]) } f58.ntmps (cF fun _=>none) 40 (cA (cB fC)) (GK v log x) (.slot 7 (.im (iI n))::GK v log x)=some ([dY .shl 3 (.const (iI 1)) (.tmp 12) (iI 1) (iI log) (iI n)],.nrm,.slot 7 (.im (iI n))::GK v log x):=by kernel_rfl
def Lr (b3 b4 n:Nat) (g:Nat→Nat):Tab2:=(lY.add 30 (uL 82 [aT b3 0,aT b4 0] n g)).add 84 ZY
def Xl (w:World) (ld:Nat→Option (List At)) (T2:Tab2):Ext:={ Ext.none with ld:=ld,old:=oldOf w,T2:=T2,T3:=vR,T4:=CH,T5:=CI,T6:=CJ }
theorem MP {w:World} {ld:Nat→Option (List At)} {T2:Tab2} (h:∀w',Below w.heap.size w w'→FrAt prog T2 w'):bO prog { qG prog with x:=Xl w ld T2 } w.heap.size w :=
 ⟨(bE _).1,eJ (fun b o l h=>h) h (fun w' _=>FsAt.none _ _)⟩
def Yb (b5 n:Nat) (Z:List At):List Fact:=[.slot 5 (.im (aT b5 0)),.slot 7 (.im (iI n)),.slot 8 (.sl 16 0 n n),.row 16 true Z]
theorem Nn (w:World) (b3 b4 b5 n:Nat) (g:Nat→Nat):aH prog { qG prog with x:=Xl w (fun _=>none) (Lr b3 b4 n g) } f58.ntmps (cF fun _=>none) 40 (cA (cB (cB fC))) (kX [(3,.im (aT b3 0)),(4,.im (aT b4 0)),(5,.im (aT b5 0)),(7,.im (iI n))]) (Yb b5 n (aP (el g) 0 n))=some ([iI n=iI n,fG 82 [aT b3 0,aT b4 0]=fG 82 [aT b3 0,aT b4 0]],.nrm,Yb b5 n (aP (el g) 0 n)):=by kernel_rfl
def Ff (n h:Nat) (Z tw:List At):List Fact:=[.slot 7 (.im (iI n)),.slot 8 (.sl 16 0 n n),.row 16 true Z,.slot 9 (.sl 21 0 h h),.row 21 true tw]
theorem Nm (w:World) (b3 b4 b5 n h x:Nat) (g:Nat→Nat) (Z:List At):aH prog { qG prog with x:=Xl w (aE [(18,[.q x])]) (Lr b3 b4 n g) } f58.ntmps (cF (aE [(20,iI h)])) 40 (cA (cB (cB (cB fC)))) (Yb b5 n Z) (Ff n h Z (aP (el (gN 1 x)) 0 h))=some ([oldOf w b5 0 [.q x],cL [.q x]=4,aC .quo .i64 (Int.ofNat n) 2=some (iI h),1<RM,x<RM,h≤131072],.nrm,Ff n h Z (aP (el (gN 1 x)) 0 h)):=by kernel_rfl
def Zs (F tw:Nat→Nat) (N T lo h st:Nat) (_:Nat) (row:List At):List CB→Option (List Prop×RV×List At)
 | [.sl o1 n1 _,.sl o2 n2 _,.r lt n m,.v (.im (.int .i64 (.ofNat s)))]=>some ([aB row=aB (aP (el F) 0 N),lt=aP (el tw) 0 T,o1=lo*4,n1=h,o2=(lo+h)*4,n2=h,n=T,m=T,s=st],.many [],aP (el (kO F lo (lo+h) st tw h)) 0 N)
 | _=>none
theorem Jy {F tw:Nat→Nat} {N T lo h st:Nat} (hN:lo+h+h≤N) (hN2:N≤131072) (hf:bD N F) (htw:bD T tw) (hst:∀j,j<h→j*st<T) (hT:T≤131072):∀b row cs pre r l,Zs F tw N T lo h st b row cs=some (pre,r,l)→aR pre→∀(args:List Value) (w:World),b<w.heap.size→w.rangeAt b 0 (aB row)→(∀q,w.frozen? ⟨b,q,none⟩=false)→CBs w b cs args→Calls prog 85 args.toArray w (tY b w r l):=by
 intro b row cs pre r l hg hp args w h1 h2 h3 h4;unfold Zs at hg;split at hg
 ·cases hg;obtain⟨e1,rfl,rfl,rfl,rfl,rfl,rfl,rfl,rfl,_⟩:=hp
  match args,h4 with
  | [v1,v2,v3,v4],h4 =>
   obtain⟨q1,q2,⟨b',o,rfl,q3,q4,q5⟩,q6,_⟩:=h4;have q1:v1=aS b _ _ _:=q1;have q2:v2=aS b _ _ _:=q2;have q6:v4=iI _:=q6;subst q1; subst q2; subst q6;rw[e1]at h2;exact TH ⟨h1,h2,h3⟩ q3 q5 q4 hN hN2 hf htw hst hT
  | [],h4=>exact h4.elim
  | [_],h4=>exact h4.2.elim
  | [_,_],h4=>exact h4.2.2.elim
  | [_,_,_],h4=>exact h4.2.2.2.elim
  | _::_::_::_::_::_,h4=>exact h4.2.2.2.2.elim
 ·cases hg
def oL (n h bl bt:Nat) (Z tw:List At) (half:Nat):List Fact:=[.slot 7 (.im (iI n)),.slot 8 (.sl 16 0 n n),.row 16 true Z,.at 16 bl,.slot 9 (.sl 21 0 h h),.row 21 true tw,.at 21 bt,.slot 10 (.im (iI half))]
theorem Nl (n h bl bt:Nat) (Z tw:List At):aH prog (qG prog) f58.ntmps (cF fun _=>none) 40 (cA (cA (cB (cB (cB (cB fC)))))) (.at 21 bt :: .at 16 bl::Ff n h Z tw) (oL n h bl bt Z tw 1)=some ([],.nrm,oL n h bl bt Z tw 1):=by kernel_rfl
theorem Xy (n h bl bt:Nat) (Z tw:List At) (half:Nat):aH prog (qG prog) f58.ntmps (cF (aE [(24,.bool true)])) 40 (cA kF) (oL n h bl bt Z tw half) (oL n h bl bt Z tw half)=some ([aC .lss .i64 (Int.ofNat half) (Int.ofNat n)=some (.bool true)],.nrm,oL n h bl bt Z tw half):=by kernel_rfl
theorem Xw (n h bl bt:Nat) (Z tw:List At) (half:Nat):aH prog (qG prog) f58.ntmps (cF (aE [(24,.bool false)])) 40 (cA kF) (oL n h bl bt Z tw half) (oL n h bl bt Z tw half)=some ([aC .lss .i64 (Int.ofNat half) (Int.ofNat n)=some (.bool false)],.ex 0,oL n h bl bt Z tw half):=by kernel_rfl
theorem Xz (n h bl bt:Nat) (Z tw:List At) (half:Nat):aH prog (qG prog) f58.ntmps (cF fun _=>none) 40 (cA (fY (cA (cB kF)))) (oL n h bl bt Z tw half) (.slot 11 (.im (iI 0))::oL n h bl bt Z tw half)=some ([],.nrm,.slot 11 (.im (iI 0))::oL n h bl bt Z tw half):=by kernel_rfl
theorem Ya (n h bl bt:Nat) (Z tw:List At) (half tG:Nat):aH prog (qG prog) f58.ntmps (cF (aE [(26,iI (half*2))])) 40 (cB (cB kF)) (.slot 11 (.im (iI tG))::oL n h bl bt Z tw half) (oL n h bl bt Z tw (half*2))=some ([aC .mul .i64 (Int.ofNat half) 2=some (iI (half*2))],.nrm,oL n h bl bt Z tw (half*2)):=by kernel_rfl
theorem Xv (n h bl bt:Nat) (Z tw:List At) (half:Nat):aH prog (qG prog) f58.ntmps (cF fun _=>none) 40 (cB (cB (cB (cB (cB fC))))) (oL n h bl bt Z tw half) [.slot 6 (.sl 16 0 n n),.row 16 true Z]=some ([],.rt,[.slot 6 (.sl 16 0 n n),.row 16 true Z]):=by kernel_rfl
theorem Xx (n h bl bt:Nat) (Z tw:List At) (half tG:Nat):aH prog (qG prog) f58.ntmps (cF (aE [(29,.bool false)])) 40 Fe (.slot 11 (.im (iI tG))::oL n h bl bt Z tw half) (.slot 11 (.im (iI tG))::oL n h bl bt Z tw half)=some ([aC .lss .i64 (Int.ofNat tG) (Int.ofNat n)=some (.bool false)],.ex 2,.slot 11 (.im (iI tG))::oL n h bl bt Z tw half):=by kernel_rfl
def xCr (T6:Tab6):Ext:={ Ext.none with ky:=aE [(54,16)],T2:=lY,T3:=vR,T4:=CH,T5:=CI,T6:=T6 }
theorem Et {T6:Tab6} (h:PbOk prog T6) (base:Nat) (w:World):bO prog { qG prog with x:=xCr T6 } base w :=
 ⟨(bE _).1,eJ (fun b o l h=>h.elim) (fun w' _=>FrAt.none _ _) (fun w' _=>FsAt.none _ _) (h6:=h)⟩
def aAn (F tw:Nat→Nat) (N T lo h st:Nat):Tab6:=CJ.add 85 (Zs F tw N T lo h st)
theorem Nq (n h bl bt half fr st:Nat) (F tw:Nat→Nat):aH prog { qG prog with x:=xCr (aAn F tw n h fr half st) } f58.ntmps (cF (aE [(29,.bool true),(38,iI (fr+half)),(43,iI (fr+half)),(46,iI (2*half)),(47,iI (fr+2*half)),(51,iI h),(53,iI st),(32,iI (2*half)),(33,iI (fr+2*half))])) 60 Fe (.slot 11 (.im (iI fr))::oL n h bl bt (aP (el F) 0 n) (aP (el tw) 0 h) half) (.slot 11 (.im (iI (fr+2*half)))::oL n h bl bt (aP (el (kO F fr (fr+half) st tw half)) 0 n) (aP (el tw) 0 h) half) =
  some ([aC .lss .i64 (Int.ofNat fr) (Int.ofNat n)=some (.bool true),aC .add .i64 (Int.ofNat fr) (Int.ofNat half)=some (iI (fr+half)),fr≤fr+half,fr+half≤n,fr<n,aC .add .i64 (Int.ofNat fr) (Int.ofNat half)=some (iI (fr+half)),aC .mul .i64 2 (Int.ofNat half)=some (iI (2*half)),aC .add .i64 (Int.ofNat fr) (Int.ofNat (2*half))=some (iI (fr+2*half)),fr+half≤fr+2*half,fr+2*half≤n,fr+half<n,aC .quo .i64 (Int.ofNat n) 2=some (iI h),aC .quo .i64 (Int.ofNat h) (Int.ofNat half)=some (iI st),bt≠bl,aB (aP (el F) 0 n)=aB (aP (el F) 0 n),aP (el tw) 0 h=aP (el tw) 0 h,0+fr*4=fr*4,fr+half-fr=half,0+(fr+half)*4=(fr+half)*4,fr+2*half-(fr+half)=half,h=h,h=h,st=st,aC .mul .i64 2 (Int.ofNat half)=some (iI (2*half)),aC .add .i64 (Int.ofNat fr) (Int.ofNat (2*half))=some (iI (fr+2*half))],.nrm,.slot 11 (.im (iI (fr+2*half)))::oL n h bl bt (aP (el (kO F fr (fr+half) st tw half)) 0 n) (aP (el tw) 0 h) half):=by kernel_rfl
end Go.Proofs.YtjjnbgoepbiojaaGreat.Ex
