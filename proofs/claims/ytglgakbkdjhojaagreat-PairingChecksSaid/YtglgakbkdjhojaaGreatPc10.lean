/- Pc10 -/
import Derived.KernelRfl
import Derived.LoopTactic
import Derived.Deep.LoopGhost
import Derived.RegionTactic
import Derived.Test.YtglgakbkdjhojaaGreatPc09
import Derived.Test.YtglgakbkdjhojaaGreatPc08
import Derived.Test.YtglgakbkdjhojaaGreatPc06
import Derived.Test.YtglgakbkdjhojaaGreatPc03
import Derived.Test.YtglgakbkdjhojaaGreatProg
set_option maxRecDepth 100000
set_option linter.unusedVariables false
set_option linter.unusedSimpArgs false
noncomputable section
namespace Go.Proofs.YtglgakbkdjhojaaGreat.Ex
open Go.Proofs.Tryz
open Go.RowKit
theorem FrOk.ad {P:Program} {T:Tab2} (hT:FrOk P T) {f:Nat} {fn:Func} (hf:P.funcs[f]?=some fn) {g:List CA→Option (List Prop×FR)}
 (h:∀cs pre r,g cs=some (pre,r)→aZ pre→∀(args:List Value) (w:World),bQ w cs args→Calls P f args.toArray w (fun e w'=>r.ok w e w')) (hn:(fn.name == "runtime.NumGoroutine")=false:=by kernel_rfl) (hb:fn.body.isNone=false:=by kernel_rfl):FrOk P (T.add f g):=hT.add hf hn hb h
def jM (p:nW):Int×J1:=SX p.1 p.2.1 p.2.2
def iY (ps:Nat→nW):Nat→Int
 | 0=>0
 | i+1=>if iY ps i≠0 then iY ps i else (jM (ps i)).1
theorem SI {ps:Nat→nW}:∀{N:Nat},iY ps N=0→∀j,j<N→(jM (ps j)).1=0
 | N+1,h,j,hj=>by
  unfold iY at h
  by_cases h0:iY ps N=0
  ·rw[if_neg (fun q=>q h0)]at h
   by_cases e:j=N
   ·rw[e]; exact h
   ·exact SI h0 j (by omega)
  ·rw[if_pos h0]at h; exact (h0 h).elim
theorem Av {ps:Nat→nW}:∀{N:Nat},iY ps N≠0→∃j,j<N∧(∀k,k<j→(jM (ps k)).1=0)∧(jM (ps j)).1≠0∧iY ps N=(jM (ps j)).1
 | 0,h=>(h rfl).elim
 | N+1,h=>by
  unfold iY at h ⊢
  by_cases h0:iY ps N=0
  ·rw[if_neg (fun q=>q h0)]at h ⊢;exact⟨N,by omega,fun k hk=>SI h0 k hk,h,rfl⟩
  ·rw[if_pos h0];obtain⟨j,h1,h2,h3,h4⟩:=Av h0;exact⟨j,by omega,h2,h3,h4⟩
def DG (ps:Nat→nW) (j:Nat):J1:=(jM (ps j)).2
def uY (LG Z:List At) (N N' i:Nat):List Fact:=[.slot 1 (.sl 1 0 N N'),.row 1 false LG,.slot 2 (.pt 2 0),.row 2 true gH,.slot 6 (.sl 12 0 N N),.row 12 true Z,.slot 14 (.im (iI N)),.slot 15 (.im (iI i))]
def aTi (LG:List At) (N N':Nat):List Fact:=[.slot 1 (.sl 1 0 N N'),.row 1 false LG,.slot 2 (.pt 2 0),.row 2 true gH]
def aTg (LG Z:List At) (N N':Nat):List Fact:=[.slot 1 (.sl 1 0 N N'),.row 1 false LG,.slot 2 (.pt 2 0),.row 2 true gH,.slot 6 (.sl 12 0 N N),.row 12 true Z]
def gQ:Code:=(f101.body).getD .skip
def uP:Code:=qD (qD (cB (cA (cB (cB gQ)))))
theorem aFd:gQ=.seq (cA gQ) (.seq (cA (cB gQ)) (.seq (.seq (cA (cA (cB (cB gQ)))) (.block 0 (.loop uP))) (cB (cB (cB gQ))))):=by kernel_rfl
def BH (num:Nat→Option Value) (_:Nat):Cfg:=⟨fun _=>jP,fun _=>true,num⟩
theorem aTq (LG:List At) (N N':Nat):aX prog (qG prog) f101.ntmps (BH fun _=>none) 40 (cA gQ) (lS 0 [.v (.fl gH),.s LG N N']) (aTi LG N N')=some ([],.nrm,aTi LG N N'):=by kernel_rfl
def aMK (N:Nat) (Z:List At):Ext:={ UR (fun _ _ _=>False)with mks:=assoc [(12,(N,Z))] }
theorem aTp (LG Z:List At) (N N':Nat):aX prog (qX prog (aMK N Z)) f101.ntmps (BH fun _=>none) 40 (cA (cB gQ)) (aTi LG N N') (aTg LG Z N N')=some ([∃e,∀w:World,(Instr.makeSlice 161 (iI N) (iI N)).run prog w=.ok (.slice (some ⟨w.heap.size,0,none⟩) N N) (w.alloc (.cells (aA Z).toArray e))],.nrm,aTg LG Z N N'):=by kernel_rfl
theorem aTo (LG Z:List At) (N N':Nat):aX prog (qG prog) f101.ntmps (BH fun _=>none) 40 (cA (cA (cB (cB gQ)))) (aTg LG Z N N') (uY LG Z N N' 0)=some ([],.nrm,uY LG Z N N' 0):=by kernel_rfl
def aKC (i:Nat) (p:nW) (Z':List At):Ext:={ UR (fun _ _ _=>False)with idx:=assoc [(23,i),(34,i)],ld:=assoc [(24,rX p)],st:=assoc [(34,Z')] }
theorem aTr (LG Z Z':List At) (N N' i:Nat) (p:nW):aX prog (qX prog (aKC i p Z')) f101.ntmps (BH (assoc [(16,.bool true),(29,.bool false),(35,iI (i+1))])) 60 uP (uY LG Z N N' i) (uY LG Z' N N' (i+1))=some ([aI .lss .i64 (Int.ofNat i) (Int.ofNat N)=some (.bool true),Int.ofNat i=Int.ofNat i,i<N,fP LG (0+i*9) 9=some (rX p),aI .neq .i64 (jM p).1 0=some (.bool false),Int.ofNat i=Int.ofNat i,i<N,put Z (0+i*12) (bJ (jM p).2)=some Z',aI .add .i64 (Int.ofNat i) 1=some (iI (i+1))],.nrm,uY LG Z' N N' (i+1)):=by kernel_rfl
theorem aTs (LG Z:List At) (N N' i:Nat) (p:nW):aX prog (qX prog (aKC i p Z)) f101.ntmps (BH (assoc [(16,.bool true),(29,.bool true)])) 60 uP (uY LG Z N N' i) [.slot 4 (.im (.slice none 0 0)),.slot 5 (.im (.int .i64 (jM p).1))]=some ([aI .lss .i64 (Int.ofNat i) (Int.ofNat N)=some (.bool true),Int.ofNat i=Int.ofNat i,i<N,fP LG (0+i*9) 9=some (rX p),aI .neq .i64 (jM p).1 0=some (.bool true)],.rt,[.slot 4 (.im (.slice none 0 0)),.slot 5 (.im (.int .i64 (jM p).1))]):=by kernel_rfl
theorem aKE (LG Z:List At) (N N' i:Nat):aX prog (qG prog) f101.ntmps (BH (assoc [(16,.bool false)])) 40 uP (uY LG Z N N' i) (uY LG Z N N' i)=some ([aI .lss .i64 (Int.ofNat i) (Int.ofNat N)=some (.bool false)],.ex 0,uY LG Z N N' i):=by kernel_rfl
theorem aFb (LG Z:List At) (N N' i:Nat):aX prog (qG prog) f101.ntmps (BH fun _=>none) 40 (cB (cB (cB gQ))) (uY LG Z N N' i) [.slot 4 (.sl 12 0 N N),.row 12 true Z,.slot 5 (.im (.int .i64 0))]=some ([],.rt,[.slot 4 (.sl 12 0 N N),.row 12 true Z,.slot 5 (.im (.int .i64 0))]):=by kernel_rfl
theorem aDV:tQ (aA (bJ vA)) (.int .u64 0):=by unfold tQ; kernel_rfl
theorem OI {w0:World} {args:List Value} {N N':Nat} {ps:Nat→nW} (ha:bQ w0 [.v (.fl gH),.s (cG (fun j=>rX (ps j)) 0 N) N N'] args) (hN2:N≤65536) {R:Ending→World→Prop}
  (h:∀a w,Holds f101.ntmps w0.heap.size w0 (uY (cG (fun j=>rX (ps j)) 0 N) (nK (fun j=>bJ (DG ps j)) (bJ vA) N 0) N N' 0) a w→(Code.loop uP).wp prog (fun e a w=>match e with | .exit 0=>(cB (cB (cB gQ))).wp prog (bodyPost prog f101 R) a w | .ret=>bodyPost prog f101 R .ret a w|_=>False) a w):Calls prog 101 args.toArray w0 R:=by
 have hG:cS prog (qG prog) w0.heap.size w0:=(aK _).w _ _;have hT:∀n d:Nat,TabOkW prog jP w0.heap.size w0:=fun _ _=>iC.w _ _
 refine dU func101 (c:=gQ) rfl ha (Nat.le_of_ble_eq_true (by kernel_rfl)) fun a w' hA => ?_
 rw[aFd];refine wp_seq (aD aF hT hG (aTq _ N N') trivial hA fun a w' hA => ?_);refine wp_seq (aD aF hT (oC (x:=aMK N (cG (fun _=>bJ vA) 0 N)) (jR _) fun _ _ _ h=>h.elim) (aTp _ (cG (fun _=>bJ vA) 0 N) N N') ⟨Mq (t:=161) (e:=165) (z:=bJ vA) (v:=.int .u64 0) (n:=12) (by8:=96) (by kernel_rfl) (by kernel_rfl) rfl aDV (by omega) (by omega) (by omega),trivial⟩ hA fun a w' hA => ?_);refine wp_seq (wp_seq (aD aF hT hG (aTo _ _ N N') trivial hA fun a w' hA => ?_));refine wp_block ?_;rw[←RI (fun j=>bJ (DG ps j))]at hA;refine Code.wp_mono (fun e a w h => ?_) (h a w' hA);cases e with
 | exit id =>
  cases id with
  | zero=>exact h
  | succ k=>exact h.elim
 | ret=>exact h
 | _=>exact h.elim
theorem Bs {w0:World} {N N':Nat} {ps:Nat→nW} {i:Nat} (hi:i<N) (hN2:N≤65536) (h:(jM (ps i)).1=0):Ok prog w0.heap.size w0 f101.ntmps uP (uY (cG (fun j=>rX (ps j)) 0 N) (nK (fun j=>bJ (DG ps j)) (bJ vA) N i) N N' i) .nrm (uY (cG (fun j=>rX (ps j)) 0 N) (nK (fun j=>bJ (DG ps j)) (bJ vA) N (i+1)) N N' (i+1)) :=
 ⟨_,_,_,_,oC (x:=aKC i (ps i) _) (jR _) (fun _ _ _ h=>h.elim),fun _ _=>iC.w _ _,aTr _ _ (nK (fun j=>bJ (DG ps j)) (bJ vA) N (i+1)) N N' i (ps i),bY hi,rfl,hi,mI (f:=fun j=>rX (ps j)) (c:=9) (fun j=>rfl) hi (Nat.zero_add _),IG h,rfl,hi,xU (f:=fun j=>bJ (DG ps j)) (c:=12) (fun j=>rfl) rfl hi (Nat.zero_add _),lI (k:=1) (by omega),trivial⟩
theorem aFc {w0:World} {args:List Value} {N N':Nat} {ps:Nat→nW} (ha:bQ w0 [.v (.fl gH),.s (cG (fun j=>rX (ps j)) 0 N) N N'] args) (hN2:N≤65536) (h:iY ps N=0):Calls prog 101 args.toArray w0 (fun e w'=>FR.ok ⟨cG (fun j=>bJ (DG ps j)) 0 N,N,N,[.im (.int .i64 0)]⟩ w0 e w'):=by
 have hG:cS prog (qG prog) w0.heap.size w0:=(aK _).w _ _;have hT:∀n d:Nat,TabOkW prog jP w0.heap.size w0:=fun _ _=>iC.w _ _
 refine OI ha hN2 fun a w hA => ?_
 refine kH aF (fun i=>uY (cG (fun j=>rX (ps j)) 0 N) (nK (fun j=>bJ (DG ps j)) (bJ vA) N i) N N' i) N (fun i hi=>Bs hi hN2 (SI h i hi)) (.ex 0) (by simp) (uY (cG (fun j=>rX (ps j)) 0 N) (cG (fun j=>bJ (DG ps j)) 0 N) N N' N) ?_ hA fun a w hA => ?_
 ·rw[←RH (fun j=>bJ (DG ps j)) (bJ vA) N];exact⟨_,_,_,_,hG,hT,aKE _ _ N N' N,eO (Nat.le_refl _),trivial⟩
 ·show (cB (cB (cB gQ))).wp _ _ _ _;exact aD aF hT hG (aFb _ _ N N' N) trivial hA fun a w' hA=>NK (r:=⟨cG (fun j=>bJ (DG ps j)) 0 N,N,N,[.im (.int .i64 0)]⟩) (by kernel_rfl) hA
theorem aFe {w0:World} {args:List Value} {N N':Nat} {ps:Nat→nW} (ha:bQ w0 [.v (.fl gH),.s (cG (fun j=>rX (ps j)) 0 N) N N'] args) (hN2:N≤65536) (h:iY ps N≠0):Good prog 101 (.many [.im (.slice none 0 0),.im (.int .i64 (iY ps N))]) args w0:=by
 have hG:cS prog (qG prog) w0.heap.size w0:=(aK _).w _ _;have hT:∀n d:Nat,TabOkW prog jP w0.heap.size w0:=fun _ _=>iC.w _ _
 obtain⟨j,hj,h1,h2,h3⟩:=Av h;rw[h3];refine OI ha hN2 fun a w hA => ?_
 refine kH aF (fun i=>uY (cG (fun j=>rX (ps j)) 0 N) (nK (fun j=>bJ (DG ps j)) (bJ vA) N i) N N' i) j (fun i hi=>Bs (by omega) hN2 (h1 i hi)) .rt (by simp) [.slot 4 (.im (.slice none 0 0)),.slot 5 (.im (.int .i64 (jM (ps j)).1))] ?_ hA fun a w hA => ?_
 ·exact⟨_,_,_,_,oC (x:=aKC j (ps j) _) (jR _) (fun _ _ _ h=>h.elim),fun _ _=>iC.w _ _,aTs _ _ N N' j (ps j),bY hj,rfl,hj,mI (f:=fun j=>rX (ps j)) (c:=9) (fun j=>rfl) hj (Nat.zero_add _),vJ h2,trivial⟩
 ·exact eV (l:=[.im (.slice none 0 0),.im (.int .i64 (jM (ps j)).1)]) (r:=.many [.im (.slice none 0 0),.im (.int .i64 (jM (ps j)).1)]) (by kernel_rfl) (by kernel_rfl) hA
def OV (pt:Nat→J1):Nat→J1
 | 0=>vA
 | i+1=>eD F1 (OV pt i) (pt i)
def FH (L:List At) (N N' i:Nat) (s:J1):List Fact:=[.row 0 false L,.slot 2 (.pt 2 0),.row 2 true (bJ vA),.slot 3 (.pt 3 0),.row 3 true (bJ s),.slot 6 (.sl 0 0 N N'),.slot 7 (.im (iI N)),.slot 8 (.im (iI i))]
def hJ:Code:=(f102.body).getD .skip
def OY:Code:=qD (qD (cB (cA (cB (cB hJ)))))
theorem Xt:hJ=.seq (cA hJ) (.seq (cA (cB hJ)) (.seq (.seq (cA (cA (cB (cB hJ)))) (.block 0 (.loop OY))) (cB (cB (cB hJ))))):=by kernel_rfl
def aNE (L:List At) (N N':Nat):List Fact:=[.slot 0 (.sl 0 0 N N'),.row 0 false L,.slot 2 (.pt 2 0),.row 2 true (bJ vA)]
def aNC (L:List At) (N N':Nat):List Fact:=[.slot 0 (.sl 0 0 N N'),.row 0 false L,.slot 2 (.pt 2 0),.row 2 true (bJ vA),.slot 3 (.pt 3 0),.row 3 true (bJ vA)]
theorem aNL (L:List At) (N N':Nat):aX prog (qG prog) f102.ntmps (BH fun _=>none) 40 (cA hJ) (lS 0 [.s L N N']) (aNE L N N')=some ([],.nrm,aNE L N N'):=by kernel_rfl
theorem aNK (L:List At) (N N':Nat):aX prog (qG prog) f102.ntmps (BH fun _=>none) 40 (cA (cB hJ)) (aNE L N N') (aNC L N N')=some ([],.nrm,aNC L N N'):=by kernel_rfl
theorem aNJ (L:List At) (N N':Nat):aX prog (qG prog) f102.ntmps (BH fun _=>none) 40 (cA (cA (cB (cB hJ)))) (aNC L N N') (FH L N N' 0 vA)=some ([],.nrm,FH L N N' 0 vA):=by kernel_rfl
def aUB (i:Nat) (p:J1):Ext:={ UR (fun _ _ _=>False)with idx:=assoc [(10,i)],ld:=assoc [(11,bJ p)] }
theorem aNM (L:List At) (N N' i:Nat) (s p:J1):aX prog (qX prog (aUB i p)) f102.ntmps (BH (assoc [(9,.bool true),(15,iI (i+1))])) 40 OY (FH L N N' i s) (FH L N N' (i+1) (eD F1 s p))=some ([aI .lss .i64 (Int.ofNat i) (Int.ofNat N)=some (.bool true),Int.ofNat i=Int.ofNat i,i<N,fP L (0+i*12) 12=some (bJ p),aI .add .i64 (Int.ofNat i) 1=some (iI (i+1))],.nrm,FH L N N' (i+1) (eD F1 s p)):=by kernel_rfl
theorem aFW (L:List At) (N N' i:Nat) (s:J1):aX prog (qG prog) f102.ntmps (BH (assoc [(9,.bool false)])) 40 OY (FH L N N' i s) (FH L N N' i s)=some ([aI .lss .i64 (Int.ofNat i) (Int.ofNat N)=some (.bool false)],.ex 0,FH L N N' i s):=by kernel_rfl
theorem Xs (L:List At) (N N' i:Nat) (s:J1):aX prog (qG prog) f102.ntmps (BH fun _=>none) 40 (cB (cB (cB hJ))) (FH L N N' i s) [.slot 2 (.pt 2 0),.row 2 true (bJ s)]=some ([],.rt,[.slot 2 (.pt 2 0),.row 2 true (bJ s)]):=by kernel_rfl
theorem Pz {w0:World} {args:List Value} {N N':Nat} {pt:Nat→J1} (ha:bQ w0 [.s (cG (fun j=>bJ (pt j)) 0 N) N N'] args) (hN2:N≤65536):Good prog 102 (.one (.fl (bJ (OV pt N)))) args w0:=by
 have hG:cS prog (qG prog) w0.heap.size w0:=(aK _).w _ _;have hT:∀n d:Nat,TabOkW prog jP w0.heap.size w0:=fun _ _=>iC.w _ _
 refine dU func102 (c:=hJ) rfl ha (Nat.le_of_ble_eq_true (by kernel_rfl)) fun a w' hA => ?_
 rw[Xt];refine wp_seq (aD aF hT hG (aNL _ N N') trivial hA fun a w' hA => ?_);refine wp_seq (aD aF hT hG (aNK _ N N') trivial hA fun a w' hA => ?_);refine wp_seq (wp_seq (aD aF hT hG (aNJ _ N N') trivial hA fun a w' hA => ?_));refine wp_block ?_;refine kH aF (fun i=>FH (cG (fun j=>bJ (pt j)) 0 N) N N' i (OV pt i)) N (fun i hi => ?_) (.ex 0) (by simp) (FH (cG (fun j=>bJ (pt j)) 0 N) N N' N (OV pt N)) ?_ hA fun a w' hA => ?_
 ·exact⟨_,_,_,_,oC (x:=aUB i (pt i)) (jR _) (fun _ _ _ h=>h.elim),hT,aNM _ N N' i _ (pt i),bY hi,rfl,hi,mI (f:=fun j=>bJ (pt j)) (c:=12) (fun j=>rfl) hi (Nat.zero_add _),lI (k:=1) (by omega),trivial⟩
 ·exact⟨_,_,_,_,hG,hT,aFW _ N N' N _,eO (Nat.le_refl _),trivial⟩
 ·show (cB (cB (cB hJ))).wp _ _ _ _;exact aD aF hT hG (Xs _ N N' N _) trivial hA fun a w' hA=>eV (l:=[.fl (bJ (OV pt N))]) (r:=.one (.fl (bJ (OV pt N)))) (by kernel_rfl) (by kernel_rfl) hA
def FL (pt:Nat→J1) (x:Nat→Nat) (N:Nat):J1:=Uh (fun p=>NW pt x p N) (mV x N/4+1) (mV x N/4+1)
def aRz (pt:Nat→J1) (x:Nat→Nat) (N:Nat):jV
 | [.s LP n1 n2,.s LX n3 n4]=>some ([aA LP=aA (cG (fun j=>bJ (pt j)) 0 N),aA LX=aA (cG (fun j=>[.q (x j)]) 0 N),n1=N,n3=N,N≤65536],.one (.fl (bJ (FL pt x N))))
 | _=>none
theorem aJI {w:World} {pt:Nat→J1} {x:Nat→Nat} {N:Nat}:∀cs pre r,aRz pt x N cs=some (pre,r)→aZ pre→∀(args:List Value),bQ w cs args→Good prog 191 r args w:=by
 intro cs pre r hg hq args ha;unfold aRz at hg;split at hg
 ·rename_i LP n1 n2 LX n3 n4;cases hg;obtain⟨h1,h2,rfl,rfl,h5,_⟩:=hq
  match args,ha with
  | [u,v],ha =>
   obtain⟨b1,o1,e1,hb1,hr1⟩:=ha.1;obtain⟨b2,o2,e2,hb2,hr2⟩:=ha.2.1;subst e1; subst e2;refine Wa h1 ⟨hb1,hr1⟩ (fun j hj=>⟨hb2,?_⟩) (Nat.le_refl _) h5 (by omega);rw[h2]at hr2;exact mT (f:=fun j=>[At.q (x j)]) (c:=4) (fun _=>rfl) hj hr2
  | [],ha=>exact ha.elim
  | [_],ha=>exact ha.2.elim
  | _::_::_::_,ha=>exact ha.2.2.elim
 ·cases hg
theorem aGK (LP LX:List At) (n1 n2 n3 n4 N:Nat) (pt:Nat→J1) (x:Nat→Nat):aT prog (qG prog) (fun _=>⟨fun _=>(jP).add 191 (aRz pt x N),fun _=>true,assoc [(7,.bool true)]⟩) f152 40 [.s LP n1 n2,.s LX n3 n4]=some ([aI .lss .i64 (Int.ofNat n1) 32=some (.bool true),aA LP=aA (cG (fun j=>bJ (pt j)) 0 N),aA LX=aA (cG (fun j=>[.q (x j)]) 0 N),n1=N,n3=N,N≤65536],.one (.fl (bJ (FL pt x N)))):=by kernel_rfl
def aRm (pt:Nat→J1) (x:Nat→Nat) (N:Nat):jV
 | [.s LP n1 n2,.s LX n3 n4]=>some ([aA LP=aA (cG (fun j=>bJ (pt j)) 0 N),aA LX=aA (cG (fun j=>[.q (x j)]) 0 N),n1=N,n3=N,N<32],.one (.fl (bJ (FL pt x N))))
 | _=>none
theorem aJw {w:World} {pt:Nat→J1} {x:Nat→Nat} {N:Nat}:∀cs pre r,aRm pt x N cs=some (pre,r)→aZ pre→∀(args:List Value),bQ w cs args→Good prog 152 r args w:=by
 intro cs pre r hg hq args ha;unfold aRm at hg;split at hg
 ·rename_i LP n1 n2 LX n3 n4;cases hg;obtain⟨h1,h2,h3,h4,h5,_⟩:=hq;exact bE aF (fun _ _=>TabOkW.add (iC.w _ _) func191 (by kernel_rfl) (by kernel_rfl) fun w hw=>aJI) ((aK prog).w _ _) func152 (aGK LP LX n1 n2 n3 n4 N pt x) ⟨by rw[h3]; exact bY (n:=32) h5,h1,h2,h3,h4,by omega,trivial⟩ ha
 ·cases hg
def aRB (ps:Nat→nW) (N:Nat):List CA→Option (List Prop×FR)
 | [.v (.fl l),.s L n1 n2]=>some ([aA l=aA gH,aA L=aA (cG (fun j=>rX (ps j)) 0 N),n1=N,N≤65536,iY ps N=0],⟨cG (fun j=>bJ (DG ps j)) 0 N,N,N,[.im (.int .i64 0)]⟩)
 | _=>none
def aJM (ps:Nat→nW) (N:Nat):jV
 | [.v (.fl l),.s L n1 n2]=>some ([aA l=aA gH,aA L=aA (cG (fun j=>rX (ps j)) 0 N),n1=N,N≤65536,iY ps N≠0],.many [.im (.slice none 0 0),.im (.int .i64 (iY ps N))])
 | _=>none
theorem TJ {w:World} {ps:Nat→nW} {N n1 n2:Nat} {l L:List At} (h1:aA l=aA gH) (h2:aA L=aA (cG (fun j=>rX (ps j)) 0 N)) {args:List Value} (ha:bQ w [.v (.fl l),.s L n1 n2] args):bQ w [.v (.fl gH),.s (cG (fun j=>rX (ps j)) 0 N) n1 n2] args:=by
 match args,ha with
 | [u,v],ha =>
  obtain⟨b,o,e,hb,hr⟩:=ha.2.1;refine⟨?_,⟨b,o,e,hb,by rw[←h2]; exact hr⟩,trivial⟩;show u=.agg (aA gH).toArray;rw[←h1]; exact ha.1
 | [],ha=>exact ha.elim
 | [_],ha=>exact ha.2.elim
 | _::_::_::_,ha=>exact ha.2.2.elim
theorem aJK {ps:Nat→nW} {N:Nat}:∀cs pre r,aRB ps N cs=some (pre,r)→aZ pre→∀(args:List Value) (w:World),bQ w cs args→Calls prog 101 args.toArray w (fun e w'=>r.ok w e w'):=by
 intro cs pre r hg hq args w ha;unfold aRB at hg;split at hg
 ·cases hg;obtain⟨h1,h2,rfl,h4,h5,_⟩:=hq;exact aFc (TJ h1 h2 ha) h4 h5
 ·cases hg
theorem Ni {ps:Nat→nW} {N:Nat}:∀cs pre r,aJM ps N cs=some (pre,r)→aZ pre→∀(args:List Value) (w:World),bQ w cs args→Good prog 101 r args w:=by
 intro cs pre r hg hq args w ha;unfold aJM at hg;split at hg
 ·cases hg;obtain⟨h1,h2,rfl,h4,h5,_⟩:=hq;exact aFe (TJ h1 h2 ha) h4 h5
 ·cases hg
def aQX (pt:Nat→J1) (N:Nat):jV
 | [.s L n1 n2]=>some ([aA L=aA (cG (fun j=>bJ (pt j)) 0 N),n1=N,N≤65536],.one (.fl (bJ (OV pt N))))
 | _=>none
theorem aJm {pt:Nat→J1} {N:Nat}:∀cs pre r,aQX pt N cs=some (pre,r)→aZ pre→∀(args:List Value) (w:World),bQ w cs args→Good prog 102 r args w:=by
 intro cs pre r hg hq args w ha;unfold aQX at hg;split at hg
 ·rename_i L n1 n2;cases hg;obtain⟨h1,rfl,h3,_⟩:=hq;refine Pz (N':=n2) ?_ h3
  match args,ha with
  | [u],ha =>
   obtain⟨b,o,e,hb,hr⟩:=ha.1;exact⟨⟨b,o,e,hb,by rw[←h1]; exact hr⟩,trivial⟩
  | [],ha=>exact ha.elim
  | _::_::_,ha=>exact ha.2.elim
 ·cases hg
def aNf (ps:Nat→nW) (N:Nat):Ext:={ UR (fun _ _ _=>False)with T2:=Fr0.add 101 (aRB ps N) }
theorem Jn (ps:Nat→nW) (N:Nat) (w:World):cS prog (qX prog (aNf ps N)) w.heap.size w:=oC ((jR _).ad func101 aJK) fun _ _ _ h=>h.elim
theorem Sf (LG LX:List At) (N n2 n n4:Nat) (ps:Nat→nW):aT prog (qG prog) (fun _=>⟨fun _=>(jP).add 101 (aJM ps N),fun _=>true,assoc [(15,.bool false),(19,.bool false),(29,.bool true)]⟩) f96 60 [.v (.fl gH),.s LG N n2,.s LX n n4]=some ([aI .neq .i64 (Int.ofNat N) (Int.ofNat n)=some (.bool false),aI .gtr .i64 (Int.ofNat N) 65536=some (.bool false),aA gH=aA gH,aA LG=aA (cG (fun j=>rX (ps j)) 0 N),N=N,N≤65536,iY ps N≠0,aI .neq .i64 (iY ps N) 0=some (.bool true)],.many [.fl (cV (some (F1.zero,F1.zero))),.im (.int .i64 (iY ps N))]):=by kernel_rfl
theorem Se (LG LX:List At) (N n2 n n4:Nat) (ps:Nat→nW) (x:Nat→Nat):aT prog (qX prog (aNf ps N)) (fun _=>⟨fun _=>(jP).add 152 (aRm (DG ps) x N),fun _=>true,assoc [(15,.bool false),(19,.bool false)]⟩) f96 60 [.v (.fl gH),.s LG N n2,.s LX n n4]=some ([aI .neq .i64 (Int.ofNat N) (Int.ofNat n)=some (.bool false),aI .gtr .i64 (Int.ofNat N) 65536=some (.bool false),aA gH=aA gH,aA LG=aA (cG (fun j=>rX (ps j)) 0 N),N=N,N≤65536,iY ps N=0,aA (cG (fun j=>bJ (DG ps j)) 0 N)=aA (cG (fun j=>bJ (DG ps j)) 0 N),aA LX=aA (cG (fun j=>[.q (x j)]) 0 N),N=N,n=N,N<32],.many [.fl (cV (fT F1 cT (FL (DG ps) x N))),.im (.int .i64 0)]):=by kernel_rfl
theorem Rl (LG:List At) (N n2:Nat) (ps:Nat→nW):aT prog (qG prog) (fun _=>⟨fun _=>(jP).add 101 (aJM ps N),fun _=>true,assoc [(11,.bool false),(20,.bool true)]⟩) f48 60 [.v (.fl gH),.s LG N n2]=some ([aI .gtr .i64 (Int.ofNat N) 65536=some (.bool false),aA gH=aA gH,aA LG=aA (cG (fun j=>rX (ps j)) 0 N),N=N,N≤65536,iY ps N≠0,aI .neq .i64 (iY ps N) 0=some (.bool true)],.many [.fl (cV (some (F1.zero,F1.zero))),.im (.int .i64 (iY ps N))]):=by kernel_rfl
theorem Rk (LG:List At) (N n2:Nat) (ps:Nat→nW):aT prog (qX prog (aNf ps N)) (fun _=>⟨fun _=>(jP).add 102 (aQX (DG ps) N),fun _=>true,assoc [(11,.bool false)]⟩) f48 60 [.v (.fl gH),.s LG N n2]=some ([aI .gtr .i64 (Int.ofNat N) 65536=some (.bool false),aA gH=aA gH,aA LG=aA (cG (fun j=>rX (ps j)) 0 N),N=N,N≤65536,iY ps N=0,aA (cG (fun j=>bJ (DG ps j)) 0 N)=aA (cG (fun j=>bJ (DG ps j)) 0 N),N=N,N≤65536],.many [.fl (cV (fT F1 cT (OV (DG ps) N))),.im (.int .i64 0)]):=by kernel_rfl
def pD (ps:Nat→nW) (x:Nat→Nat) (N:Nat):Pt Fq×Int:=if iY ps N≠0 then (some (F1.zero,F1.zero),iY ps N)else (fT F1 cT (FL (DG ps) x N),0)
theorem Uq {w0:World} {args:List Value} {LG LX:List At} {N n2 n4:Nat} {ps:Nat→nW} {x:Nat→Nat} (h1:aA LG=aA (cG (fun j=>rX (ps j)) 0 N)) (h2:aA LX=aA (cG (fun j=>[.q (x j)]) 0 N)) (hN:N<32) (ha:bQ w0 [.v (.fl gH),.s LG N n2,.s LX N n4] args):Good prog 96 (.many [.fl (cV (pD ps x N).1),.im (.int .i64 (pD ps x N).2)]) args w0:=by
 have g1:aI .neq .i64 (Int.ofNat N) (Int.ofNat N)=some (.bool false):=by rw[aBN,decide_eq_false (by simp)]
 have g2:aI .gtr .i64 (Int.ofNat N) 65536=some (.bool false):=by
  have:=CB (i:=N) (n:=65536);rw[decide_eq_false (by omega)]at this;exact this
 unfold pD
 by_cases h:iY ps N=0
 ·rw[if_neg (fun q=>q h)];exact bE aF (fun _ _=>TabOkW.add (iC.w _ _) func152 (by kernel_rfl) (by kernel_rfl) fun w hw=>aJw) (Jn ps N w0) func96 (Se LG LX N n2 N n4 ps x) ⟨g1,g2,rfl,h1,rfl,by omega,h,rfl,h2,rfl,rfl,hN,trivial⟩ ha
 ·rw[if_pos h];exact bE aF (fun _ _=>(iC.ad func101 Ni).w _ _) ((aK prog).w _ _) func96 (Sf LG LX N n2 N n4 ps) ⟨g1,g2,rfl,h1,rfl,by omega,h,vJ h,trivial⟩ ha
def xR (ps:Nat→nW) (N:Nat):Pt Fq×Int:=if iY ps N≠0 then (some (F1.zero,F1.zero),iY ps N)else (fT F1 cT (OV (DG ps) N),0)
theorem Qi {w0:World} {args:List Value} {LG:List At} {N n2:Nat} {ps:Nat→nW} (h1:aA LG=aA (cG (fun j=>rX (ps j)) 0 N)) (hN:N≤65536) (ha:bQ w0 [.v (.fl gH),.s LG N n2] args):Good prog 48 (.many [.fl (cV (xR ps N).1),.im (.int .i64 (xR ps N).2)]) args w0:=by
 have g2:aI .gtr .i64 (Int.ofNat N) 65536=some (.bool false):=by
  have:=CB (i:=N) (n:=65536);rw[decide_eq_false (by omega)]at this;exact this
 unfold xR
 by_cases h:iY ps N=0
 ·rw[if_neg (fun q=>q h)];exact bE aF (fun _ _=>(iC.ad func102 aJm).w _ _) (Jn ps N w0) func48 (Rk LG N n2 ps) ⟨g2,rfl,h1,rfl,hN,h,rfl,rfl,hN,trivial⟩ ha
 ·rw[if_pos h];exact bE aF (fun _ _=>(iC.ad func101 Ni).w _ _) ((aK prog).w _ _) func48 (Rl LG N n2 ps) ⟨g2,rfl,h1,rfl,hN,h,vJ h,trivial⟩ ha
def fO (p:jQ):Int×J2:=sF p.1 p.2.1 p.2.2
def iX (ps:Nat→jQ):Nat→Int
 | 0=>0
 | i+1=>if iX ps i≠0 then iX ps i else (fO (ps i)).1
theorem SH {ps:Nat→jQ}:∀{N:Nat},iX ps N=0→∀j,j<N→(fO (ps j)).1=0
 | N+1,h,j,hj=>by
  unfold iX at h
  by_cases h0:iX ps N=0
  ·rw[if_neg (fun q=>q h0)]at h
   by_cases e:j=N
   ·rw[e]; exact h
   ·exact SH h0 j (by omega)
  ·rw[if_pos h0]at h; exact (h0 h).elim
theorem Au {ps:Nat→jQ}:∀{N:Nat},iX ps N≠0→∃j,j<N∧(∀k,k<j→(fO (ps k)).1=0)∧(fO (ps j)).1≠0∧iX ps N=(fO (ps j)).1
 | 0,h=>(h rfl).elim
 | N+1,h=>by
  unfold iX at h ⊢
  by_cases h0:iX ps N=0
  ·rw[if_neg (fun q=>q h0)]at h ⊢;exact⟨N,by omega,fun k hk=>SH h0 k hk,h,rfl⟩
  ·rw[if_pos h0];obtain⟨j,h1,h2,h3,h4⟩:=Au h0;exact⟨j,by omega,h2,h3,h4⟩
def DF (ps:Nat→jQ) (j:Nat):J2:=(fO (ps j)).2
def uX (LG Z:List At) (N N' i:Nat):List Fact:=[.slot 1 (.sl 1 0 N N'),.row 1 false LG,.slot 2 (.pt 2 0),.row 2 true fE,.slot 6 (.sl 12 0 N N),.row 12 true Z,.slot 14 (.im (iI N)),.slot 15 (.im (iI i))]
def aTh (LG:List At) (N N':Nat):List Fact:=[.slot 1 (.sl 1 0 N N'),.row 1 false LG,.slot 2 (.pt 2 0),.row 2 true fE]
def aTf (LG Z:List At) (N N':Nat):List Fact:=[.slot 1 (.sl 1 0 N N'),.row 1 false LG,.slot 2 (.pt 2 0),.row 2 true fE,.slot 6 (.sl 12 0 N N),.row 12 true Z]
def gP:Code:=(f105.body).getD .skip
def uO:Code:=qD (qD (cB (cA (cB (cB gP)))))
theorem aEZ:gP=.seq (cA gP) (.seq (cA (cB gP)) (.seq (.seq (cA (cA (cB (cB gP)))) (.block 0 (.loop uO))) (cB (cB (cB gP))))):=by kernel_rfl
def BG (num:Nat→Option Value) (_:Nat):Cfg:=⟨fun _=>jO,fun _=>true,num⟩
theorem aTl (LG:List At) (N N':Nat):aX prog (qG prog) f105.ntmps (BG fun _=>none) 40 (cA gP) (lS 0 [.v (.fl fE),.s LG N N']) (aTh LG N N')=some ([],.nrm,aTh LG N N'):=by kernel_rfl
def aMJ (N:Nat) (Z:List At):Ext:={ UR (fun _ _ _=>False)with mks:=assoc [(12,(N,Z))] }
theorem aTk (LG Z:List At) (N N':Nat):aX prog (qX prog (aMJ N Z)) f105.ntmps (BG fun _=>none) 40 (cA (cB gP)) (aTh LG N N') (aTf LG Z N N')=some ([∃e,∀w:World,(Instr.makeSlice 167 (iI N) (iI N)).run prog w=.ok (.slice (some ⟨w.heap.size,0,none⟩) N N) (w.alloc (.cells (aA Z).toArray e))],.nrm,aTf LG Z N N'):=by kernel_rfl
theorem aTj (LG Z:List At) (N N':Nat):aX prog (qG prog) f105.ntmps (BG fun _=>none) 40 (cA (cA (cB (cB gP)))) (aTf LG Z N N') (uX LG Z N N' 0)=some ([],.nrm,uX LG Z N N' 0):=by kernel_rfl
def aKB (i:Nat) (p:jQ) (Z':List At):Ext:={ UR (fun _ _ _=>False)with idx:=assoc [(23,i),(34,i)],ld:=assoc [(24,jU p)],st:=assoc [(34,Z')] }
theorem aTm (LG Z Z':List At) (N N' i:Nat) (p:jQ):aX prog (qX prog (aKB i p Z')) f105.ntmps (BG (assoc [(16,.bool true),(29,.bool false),(35,iI (i+1))])) 60 uO (uX LG Z N N' i) (uX LG Z' N N' (i+1))=some ([aI .lss .i64 (Int.ofNat i) (Int.ofNat N)=some (.bool true),Int.ofNat i=Int.ofNat i,i<N,fP LG (0+i*17) 17=some (jU p),aI .neq .i64 (fO p).1 0=some (.bool false),Int.ofNat i=Int.ofNat i,i<N,put Z (0+i*24) (bI (fO p).2)=some Z',aI .add .i64 (Int.ofNat i) 1=some (iI (i+1))],.nrm,uX LG Z' N N' (i+1)):=by kernel_rfl
theorem aTn (LG Z:List At) (N N' i:Nat) (p:jQ):aX prog (qX prog (aKB i p Z)) f105.ntmps (BG (assoc [(16,.bool true),(29,.bool true)])) 60 uO (uX LG Z N N' i) [.slot 4 (.im (.slice none 0 0)),.slot 5 (.im (.int .i64 (fO p).1))]=some ([aI .lss .i64 (Int.ofNat i) (Int.ofNat N)=some (.bool true),Int.ofNat i=Int.ofNat i,i<N,fP LG (0+i*17) 17=some (jU p),aI .neq .i64 (fO p).1 0=some (.bool true)],.rt,[.slot 4 (.im (.slice none 0 0)),.slot 5 (.im (.int .i64 (fO p).1))]):=by kernel_rfl
theorem aKD (LG Z:List At) (N N' i:Nat):aX prog (qG prog) f105.ntmps (BG (assoc [(16,.bool false)])) 40 uO (uX LG Z N N' i) (uX LG Z N N' i)=some ([aI .lss .i64 (Int.ofNat i) (Int.ofNat N)=some (.bool false)],.ex 0,uX LG Z N N' i):=by kernel_rfl
theorem aEX (LG Z:List At) (N N' i:Nat):aX prog (qG prog) f105.ntmps (BG fun _=>none) 40 (cB (cB (cB gP))) (uX LG Z N N' i) [.slot 4 (.sl 12 0 N N),.row 12 true Z,.slot 5 (.im (.int .i64 0))]=some ([],.rt,[.slot 4 (.sl 12 0 N N),.row 12 true Z,.slot 5 (.im (.int .i64 0))]):=by kernel_rfl
theorem aDU:tQ (aA (bI uZ)) (.int .u64 0):=by unfold tQ; kernel_rfl
theorem OH {w0:World} {args:List Value} {N N':Nat} {ps:Nat→jQ} (ha:bQ w0 [.v (.fl fE),.s (cG (fun j=>jU (ps j)) 0 N) N N'] args) (hN2:N≤65536) {R:Ending→World→Prop}
  (h:∀a w,Holds f105.ntmps w0.heap.size w0 (uX (cG (fun j=>jU (ps j)) 0 N) (nK (fun j=>bI (DF ps j)) (bI uZ) N 0) N N' 0) a w→(Code.loop uO).wp prog (fun e a w=>match e with | .exit 0=>(cB (cB (cB gP))).wp prog (bodyPost prog f105 R) a w | .ret=>bodyPost prog f105 R .ret a w|_=>False) a w):Calls prog 105 args.toArray w0 R:=by
 have hG:cS prog (qG prog) w0.heap.size w0:=(aK _).w _ _;have hT:∀n d:Nat,TabOkW prog jO w0.heap.size w0:=fun _ _=>iA.w _ _
 refine dU func105 (c:=gP) rfl ha (Nat.le_of_ble_eq_true (by kernel_rfl)) fun a w' hA => ?_
 rw[aEZ];refine wp_seq (aD aF hT hG (aTl _ N N') trivial hA fun a w' hA => ?_);refine wp_seq (aD aF hT (oC (x:=aMJ N (cG (fun _=>bI uZ) 0 N)) (jR _) fun _ _ _ h=>h.elim) (aTk _ (cG (fun _=>bI uZ) 0 N) N N') ⟨Mq (t:=167) (e:=171) (z:=bI uZ) (v:=.int .u64 0) (n:=24) (by8:=192) (by kernel_rfl) (by kernel_rfl) rfl aDU (by omega) (by omega) (by omega),trivial⟩ hA fun a w' hA => ?_);refine wp_seq (wp_seq (aD aF hT hG (aTj _ _ N N') trivial hA fun a w' hA => ?_));refine wp_block ?_;rw[←RI (fun j=>bI (DF ps j))]at hA;refine Code.wp_mono (fun e a w h => ?_) (h a w' hA);cases e with
 | exit id =>
  cases id with
  | zero=>exact h
  | succ k=>exact h.elim
 | ret=>exact h
 | _=>exact h.elim
theorem Br {w0:World} {N N':Nat} {ps:Nat→jQ} {i:Nat} (hi:i<N) (hN2:N≤65536) (h:(fO (ps i)).1=0):Ok prog w0.heap.size w0 f105.ntmps uO (uX (cG (fun j=>jU (ps j)) 0 N) (nK (fun j=>bI (DF ps j)) (bI uZ) N i) N N' i) .nrm (uX (cG (fun j=>jU (ps j)) 0 N) (nK (fun j=>bI (DF ps j)) (bI uZ) N (i+1)) N N' (i+1)) :=
 ⟨_,_,_,_,oC (x:=aKB i (ps i) _) (jR _) (fun _ _ _ h=>h.elim),fun _ _=>iA.w _ _,aTm _ _ (nK (fun j=>bI (DF ps j)) (bI uZ) N (i+1)) N N' i (ps i),bY hi,rfl,hi,mI (f:=fun j=>jU (ps j)) (c:=17) (fun j=>rfl) hi (Nat.zero_add _),IG h,rfl,hi,xU (f:=fun j=>bI (DF ps j)) (c:=24) (fun j=>rfl) rfl hi (Nat.zero_add _),lI (k:=1) (by omega),trivial⟩
theorem aEY {w0:World} {args:List Value} {N N':Nat} {ps:Nat→jQ} (ha:bQ w0 [.v (.fl fE),.s (cG (fun j=>jU (ps j)) 0 N) N N'] args) (hN2:N≤65536) (h:iX ps N=0):Calls prog 105 args.toArray w0 (fun e w'=>FR.ok ⟨cG (fun j=>bI (DF ps j)) 0 N,N,N,[.im (.int .i64 0)]⟩ w0 e w'):=by
 have hG:cS prog (qG prog) w0.heap.size w0:=(aK _).w _ _;have hT:∀n d:Nat,TabOkW prog jO w0.heap.size w0:=fun _ _=>iA.w _ _
 refine OH ha hN2 fun a w hA => ?_
 refine kH aF (fun i=>uX (cG (fun j=>jU (ps j)) 0 N) (nK (fun j=>bI (DF ps j)) (bI uZ) N i) N N' i) N (fun i hi=>Br hi hN2 (SH h i hi)) (.ex 0) (by simp) (uX (cG (fun j=>jU (ps j)) 0 N) (cG (fun j=>bI (DF ps j)) 0 N) N N' N) ?_ hA fun a w hA => ?_
 ·rw[←RH (fun j=>bI (DF ps j)) (bI uZ) N];exact⟨_,_,_,_,hG,hT,aKD _ _ N N' N,eO (Nat.le_refl _),trivial⟩
 ·show (cB (cB (cB gP))).wp _ _ _ _;exact aD aF hT hG (aEX _ _ N N' N) trivial hA fun a w' hA=>NK (r:=⟨cG (fun j=>bI (DF ps j)) 0 N,N,N,[.im (.int .i64 0)]⟩) (by kernel_rfl) hA
theorem aFa {w0:World} {args:List Value} {N N':Nat} {ps:Nat→jQ} (ha:bQ w0 [.v (.fl fE),.s (cG (fun j=>jU (ps j)) 0 N) N N'] args) (hN2:N≤65536) (h:iX ps N≠0):Good prog 105 (.many [.im (.slice none 0 0),.im (.int .i64 (iX ps N))]) args w0:=by
 have hG:cS prog (qG prog) w0.heap.size w0:=(aK _).w _ _;have hT:∀n d:Nat,TabOkW prog jO w0.heap.size w0:=fun _ _=>iA.w _ _
 obtain⟨j,hj,h1,h2,h3⟩:=Au h;rw[h3];refine OH ha hN2 fun a w hA => ?_
 refine kH aF (fun i=>uX (cG (fun j=>jU (ps j)) 0 N) (nK (fun j=>bI (DF ps j)) (bI uZ) N i) N N' i) j (fun i hi=>Br (by omega) hN2 (h1 i hi)) .rt (by simp) [.slot 4 (.im (.slice none 0 0)),.slot 5 (.im (.int .i64 (fO (ps j)).1))] ?_ hA fun a w hA => ?_
 ·exact⟨_,_,_,_,oC (x:=aKB j (ps j) _) (jR _) (fun _ _ _ h=>h.elim),fun _ _=>iA.w _ _,aTn _ _ N N' j (ps j),bY hj,rfl,hj,mI (f:=fun j=>jU (ps j)) (c:=17) (fun j=>rfl) hj (Nat.zero_add _),vJ h2,trivial⟩
 ·exact eV (l:=[.im (.slice none 0 0),.im (.int .i64 (fO (ps j)).1)]) (r:=.many [.im (.slice none 0 0),.im (.int .i64 (fO (ps j)).1)]) (by kernel_rfl) (by kernel_rfl) hA
def OU (pt:Nat→J2):Nat→J2
 | 0=>uZ
 | i+1=>eD F2 (OU pt i) (pt i)
def FG (L:List At) (N N' i:Nat) (s:J2):List Fact:=[.row 0 false L,.slot 2 (.pt 2 0),.row 2 true (bI uZ),.slot 3 (.pt 3 0),.row 3 true (bI s),.slot 6 (.sl 0 0 N N'),.slot 7 (.im (iI N)),.slot 8 (.im (iI i))]
def gZ:Code:=(f106.body).getD .skip
def OX:Code:=qD (qD (cB (cA (cB (cB gZ)))))
theorem Xr:gZ=.seq (cA gZ) (.seq (cA (cB gZ)) (.seq (.seq (cA (cA (cB (cB gZ)))) (.block 0 (.loop OX))) (cB (cB (cB gZ))))):=by kernel_rfl
def aND (L:List At) (N N':Nat):List Fact:=[.slot 0 (.sl 0 0 N N'),.row 0 false L,.slot 2 (.pt 2 0),.row 2 true (bI uZ)]
def aNB (L:List At) (N N':Nat):List Fact:=[.slot 0 (.sl 0 0 N N'),.row 0 false L,.slot 2 (.pt 2 0),.row 2 true (bI uZ),.slot 3 (.pt 3 0),.row 3 true (bI uZ)]
theorem aNH (L:List At) (N N':Nat):aX prog (qG prog) f106.ntmps (BG fun _=>none) 40 (cA gZ) (lS 0 [.s L N N']) (aND L N N')=some ([],.nrm,aND L N N'):=by kernel_rfl
theorem aNG (L:List At) (N N':Nat):aX prog (qG prog) f106.ntmps (BG fun _=>none) 40 (cA (cB gZ)) (aND L N N') (aNB L N N')=some ([],.nrm,aNB L N N'):=by kernel_rfl
theorem aNF (L:List At) (N N':Nat):aX prog (qG prog) f106.ntmps (BG fun _=>none) 40 (cA (cA (cB (cB gZ)))) (aNB L N N') (FG L N N' 0 uZ)=some ([],.nrm,FG L N N' 0 uZ):=by kernel_rfl
def aUA (i:Nat) (p:J2):Ext:={ UR (fun _ _ _=>False)with idx:=assoc [(10,i)],ld:=assoc [(11,bI p)] }
theorem aNI (L:List At) (N N' i:Nat) (s p:J2):aX prog (qX prog (aUA i p)) f106.ntmps (BG (assoc [(9,.bool true),(15,iI (i+1))])) 40 OX (FG L N N' i s) (FG L N N' (i+1) (eD F2 s p))=some ([aI .lss .i64 (Int.ofNat i) (Int.ofNat N)=some (.bool true),Int.ofNat i=Int.ofNat i,i<N,fP L (0+i*24) 24=some (bI p),aI .add .i64 (Int.ofNat i) 1=some (iI (i+1))],.nrm,FG L N N' (i+1) (eD F2 s p)):=by kernel_rfl
theorem aFV (L:List At) (N N' i:Nat) (s:J2):aX prog (qG prog) f106.ntmps (BG (assoc [(9,.bool false)])) 40 OX (FG L N N' i s) (FG L N N' i s)=some ([aI .lss .i64 (Int.ofNat i) (Int.ofNat N)=some (.bool false)],.ex 0,FG L N N' i s):=by kernel_rfl
theorem Xq (L:List At) (N N' i:Nat) (s:J2):aX prog (qG prog) f106.ntmps (BG fun _=>none) 40 (cB (cB (cB gZ))) (FG L N N' i s) [.slot 2 (.pt 2 0),.row 2 true (bI s)]=some ([],.rt,[.slot 2 (.pt 2 0),.row 2 true (bI s)]):=by kernel_rfl
theorem Py {w0:World} {args:List Value} {N N':Nat} {pt:Nat→J2} (ha:bQ w0 [.s (cG (fun j=>bI (pt j)) 0 N) N N'] args) (hN2:N≤65536):Good prog 106 (.one (.fl (bI (OU pt N)))) args w0:=by
 have hG:cS prog (qG prog) w0.heap.size w0:=(aK _).w _ _;have hT:∀n d:Nat,TabOkW prog jO w0.heap.size w0:=fun _ _=>iA.w _ _
 refine dU func106 (c:=gZ) rfl ha (Nat.le_of_ble_eq_true (by kernel_rfl)) fun a w' hA => ?_
 rw[Xr];refine wp_seq (aD aF hT hG (aNH _ N N') trivial hA fun a w' hA => ?_);refine wp_seq (aD aF hT hG (aNG _ N N') trivial hA fun a w' hA => ?_);refine wp_seq (wp_seq (aD aF hT hG (aNF _ N N') trivial hA fun a w' hA => ?_));refine wp_block ?_;refine kH aF (fun i=>FG (cG (fun j=>bI (pt j)) 0 N) N N' i (OU pt i)) N (fun i hi => ?_) (.ex 0) (by simp) (FG (cG (fun j=>bI (pt j)) 0 N) N N' N (OU pt N)) ?_ hA fun a w' hA => ?_
 ·exact⟨_,_,_,_,oC (x:=aUA i (pt i)) (jR _) (fun _ _ _ h=>h.elim),hT,aNI _ N N' i _ (pt i),bY hi,rfl,hi,mI (f:=fun j=>bI (pt j)) (c:=24) (fun j=>rfl) hi (Nat.zero_add _),lI (k:=1) (by omega),trivial⟩
 ·exact⟨_,_,_,_,hG,hT,aFV _ N N' N _,eO (Nat.le_refl _),trivial⟩
 ·show (cB (cB (cB gZ))).wp _ _ _ _;exact aD aF hT hG (Xq _ N N' N _) trivial hA fun a w' hA=>eV (l:=[.fl (bI (OU pt N))]) (r:=.one (.fl (bI (OU pt N)))) (by kernel_rfl) (by kernel_rfl) hA
def FK (pt:Nat→J2) (x:Nat→Nat) (N:Nat):J2:=Uf (fun p=>NV pt x p N) (mV x N/4+1) (mV x N/4+1)
def aRy (pt:Nat→J2) (x:Nat→Nat) (N:Nat):jV
 | [.s LP n1 n2,.s LX n3 n4]=>some ([aA LP=aA (cG (fun j=>bI (pt j)) 0 N),aA LX=aA (cG (fun j=>[.q (x j)]) 0 N),n1=N,n3=N,N≤65536],.one (.fl (bI (FK pt x N))))
 | _=>none
theorem aJH {w:World} {pt:Nat→J2} {x:Nat→Nat} {N:Nat}:∀cs pre r,aRy pt x N cs=some (pre,r)→aZ pre→∀(args:List Value),bQ w cs args→Good prog 193 r args w:=by
 intro cs pre r hg hq args ha;unfold aRy at hg;split at hg
 ·rename_i LP n1 n2 LX n3 n4;cases hg;obtain⟨h1,h2,rfl,rfl,h5,_⟩:=hq
  match args,ha with
  | [u,v],ha =>
   obtain⟨b1,o1,e1,hb1,hr1⟩:=ha.1;obtain⟨b2,o2,e2,hb2,hr2⟩:=ha.2.1;subst e1; subst e2;refine Vz h1 ⟨hb1,hr1⟩ (fun j hj=>⟨hb2,?_⟩) (Nat.le_refl _) h5 (by omega);rw[h2]at hr2;exact mT (f:=fun j=>[At.q (x j)]) (c:=4) (fun _=>rfl) hj hr2
  | [],ha=>exact ha.elim
  | [_],ha=>exact ha.2.elim
  | _::_::_::_,ha=>exact ha.2.2.elim
 ·cases hg
theorem aGJ (LP LX:List At) (n1 n2 n3 n4 N:Nat) (pt:Nat→J2) (x:Nat→Nat):aT prog (qG prog) (fun _=>⟨fun _=>(jO).add 193 (aRy pt x N),fun _=>true,assoc [(7,.bool true)]⟩) f153 40 [.s LP n1 n2,.s LX n3 n4]=some ([aI .lss .i64 (Int.ofNat n1) 32=some (.bool true),aA LP=aA (cG (fun j=>bI (pt j)) 0 N),aA LX=aA (cG (fun j=>[.q (x j)]) 0 N),n1=N,n3=N,N≤65536],.one (.fl (bI (FK pt x N)))):=by kernel_rfl
def aRl (pt:Nat→J2) (x:Nat→Nat) (N:Nat):jV
 | [.s LP n1 n2,.s LX n3 n4]=>some ([aA LP=aA (cG (fun j=>bI (pt j)) 0 N),aA LX=aA (cG (fun j=>[.q (x j)]) 0 N),n1=N,n3=N,N<32],.one (.fl (bI (FK pt x N))))
 | _=>none
theorem aJv {w:World} {pt:Nat→J2} {x:Nat→Nat} {N:Nat}:∀cs pre r,aRl pt x N cs=some (pre,r)→aZ pre→∀(args:List Value),bQ w cs args→Good prog 153 r args w:=by
 intro cs pre r hg hq args ha;unfold aRl at hg;split at hg
 ·rename_i LP n1 n2 LX n3 n4;cases hg;obtain⟨h1,h2,h3,h4,h5,_⟩:=hq;exact bE aF (fun _ _=>TabOkW.add (iA.w _ _) func193 (by kernel_rfl) (by kernel_rfl) fun w hw=>aJH) ((aK prog).w _ _) func153 (aGJ LP LX n1 n2 n3 n4 N pt x) ⟨by rw[h3]; exact bY (n:=32) h5,h1,h2,h3,h4,by omega,trivial⟩ ha
 ·cases hg
def aRA (ps:Nat→jQ) (N:Nat):List CA→Option (List Prop×FR)
 | [.v (.fl l),.s L n1 n2]=>some ([aA l=aA fE,aA L=aA (cG (fun j=>jU (ps j)) 0 N),n1=N,N≤65536,iX ps N=0],⟨cG (fun j=>bI (DF ps j)) 0 N,N,N,[.im (.int .i64 0)]⟩)
 | _=>none
def aJL (ps:Nat→jQ) (N:Nat):jV
 | [.v (.fl l),.s L n1 n2]=>some ([aA l=aA fE,aA L=aA (cG (fun j=>jU (ps j)) 0 N),n1=N,N≤65536,iX ps N≠0],.many [.im (.slice none 0 0),.im (.int .i64 (iX ps N))])
 | _=>none
theorem TH {w:World} {ps:Nat→jQ} {N n1 n2:Nat} {l L:List At} (h1:aA l=aA fE) (h2:aA L=aA (cG (fun j=>jU (ps j)) 0 N)) {args:List Value} (ha:bQ w [.v (.fl l),.s L n1 n2] args):bQ w [.v (.fl fE),.s (cG (fun j=>jU (ps j)) 0 N) n1 n2] args:=by
 match args,ha with
 | [u,v],ha =>
  obtain⟨b,o,e,hb,hr⟩:=ha.2.1;refine⟨?_,⟨b,o,e,hb,by rw[←h2]; exact hr⟩,trivial⟩;show u=.agg (aA fE).toArray;rw[←h1]; exact ha.1
 | [],ha=>exact ha.elim
 | [_],ha=>exact ha.2.elim
 | _::_::_::_,ha=>exact ha.2.2.elim
theorem aJJ {ps:Nat→jQ} {N:Nat}:∀cs pre r,aRA ps N cs=some (pre,r)→aZ pre→∀(args:List Value) (w:World),bQ w cs args→Calls prog 105 args.toArray w (fun e w'=>r.ok w e w'):=by
 intro cs pre r hg hq args w ha;unfold aRA at hg;split at hg
 ·cases hg;obtain⟨h1,h2,rfl,h4,h5,_⟩:=hq;exact aEY (TH h1 h2 ha) h4 h5
 ·cases hg
theorem Nh {ps:Nat→jQ} {N:Nat}:∀cs pre r,aJL ps N cs=some (pre,r)→aZ pre→∀(args:List Value) (w:World),bQ w cs args→Good prog 105 r args w:=by
 intro cs pre r hg hq args w ha;unfold aJL at hg;split at hg
 ·cases hg;obtain⟨h1,h2,rfl,h4,h5,_⟩:=hq;exact aFa (TH h1 h2 ha) h4 h5
 ·cases hg
def aQW (pt:Nat→J2) (N:Nat):jV
 | [.s L n1 n2]=>some ([aA L=aA (cG (fun j=>bI (pt j)) 0 N),n1=N,N≤65536],.one (.fl (bI (OU pt N))))
 | _=>none
theorem aJl {pt:Nat→J2} {N:Nat}:∀cs pre r,aQW pt N cs=some (pre,r)→aZ pre→∀(args:List Value) (w:World),bQ w cs args→Good prog 106 r args w:=by
 intro cs pre r hg hq args w ha;unfold aQW at hg;split at hg
 ·rename_i L n1 n2;cases hg;obtain⟨h1,rfl,h3,_⟩:=hq;refine Py (N':=n2) ?_ h3
  match args,ha with
  | [u],ha =>
   obtain⟨b,o,e,hb,hr⟩:=ha.1;exact⟨⟨b,o,e,hb,by rw[←h1]; exact hr⟩,trivial⟩
  | [],ha=>exact ha.elim
  | _::_::_,ha=>exact ha.2.elim
 ·cases hg
def aNe (ps:Nat→jQ) (N:Nat):Ext:={ UR (fun _ _ _=>False)with T2:=Fr0.add 105 (aRA ps N) }
theorem Jm (ps:Nat→jQ) (N:Nat) (w:World):cS prog (qX prog (aNe ps N)) w.heap.size w:=oC ((jR _).ad func105 aJJ) fun _ _ _ h=>h.elim
theorem Sd (LG LX:List At) (N n2 n n4:Nat) (ps:Nat→jQ):aT prog (qG prog) (fun _=>⟨fun _=>(jO).add 105 (aJL ps N),fun _=>true,assoc [(15,.bool false),(19,.bool false),(29,.bool true)]⟩) f98 60 [.v (.fl fE),.s LG N n2,.s LX n n4]=some ([aI .neq .i64 (Int.ofNat N) (Int.ofNat n)=some (.bool false),aI .gtr .i64 (Int.ofNat N) 65536=some (.bool false),aA fE=aA fE,aA LG=aA (cG (fun j=>jU (ps j)) 0 N),N=N,N≤65536,iX ps N≠0,aI .neq .i64 (iX ps N) 0=some (.bool true)],.many [.fl (cD (some (F2.zero,F2.zero))),.im (.int .i64 (iX ps N))]):=by kernel_rfl
theorem Sc (LG LX:List At) (N n2 n n4:Nat) (ps:Nat→jQ) (x:Nat→Nat):aT prog (qX prog (aNe ps N)) (fun _=>⟨fun _=>(jO).add 153 (aRl (DF ps) x N),fun _=>true,assoc [(15,.bool false),(19,.bool false)]⟩) f98 60 [.v (.fl fE),.s LG N n2,.s LX n n4]=some ([aI .neq .i64 (Int.ofNat N) (Int.ofNat n)=some (.bool false),aI .gtr .i64 (Int.ofNat N) 65536=some (.bool false),aA fE=aA fE,aA LG=aA (cG (fun j=>jU (ps j)) 0 N),N=N,N≤65536,iX ps N=0,aA (cG (fun j=>bI (DF ps j)) 0 N)=aA (cG (fun j=>bI (DF ps j)) 0 N),aA LX=aA (cG (fun j=>[.q (x j)]) 0 N),N=N,n=N,N<32],.many [.fl (cD (fT F2 dV (FK (DF ps) x N))),.im (.int .i64 0)]):=by kernel_rfl
theorem Rj (LG:List At) (N n2:Nat) (ps:Nat→jQ):aT prog (qG prog) (fun _=>⟨fun _=>(jO).add 105 (aJL ps N),fun _=>true,assoc [(11,.bool false),(20,.bool true)]⟩) f50 60 [.v (.fl fE),.s LG N n2]=some ([aI .gtr .i64 (Int.ofNat N) 65536=some (.bool false),aA fE=aA fE,aA LG=aA (cG (fun j=>jU (ps j)) 0 N),N=N,N≤65536,iX ps N≠0,aI .neq .i64 (iX ps N) 0=some (.bool true)],.many [.fl (cD (some (F2.zero,F2.zero))),.im (.int .i64 (iX ps N))]):=by kernel_rfl
theorem Rh (LG:List At) (N n2:Nat) (ps:Nat→jQ):aT prog (qX prog (aNe ps N)) (fun _=>⟨fun _=>(jO).add 106 (aQW (DF ps) N),fun _=>true,assoc [(11,.bool false)]⟩) f50 60 [.v (.fl fE),.s LG N n2]=some ([aI .gtr .i64 (Int.ofNat N) 65536=some (.bool false),aA fE=aA fE,aA LG=aA (cG (fun j=>jU (ps j)) 0 N),N=N,N≤65536,iX ps N=0,aA (cG (fun j=>bI (DF ps j)) 0 N)=aA (cG (fun j=>bI (DF ps j)) 0 N),N=N,N≤65536],.many [.fl (cD (fT F2 dV (OU (DF ps) N))),.im (.int .i64 0)]):=by kernel_rfl
def kV (ps:Nat→jQ) (x:Nat→Nat) (N:Nat):Pt Q2×Int:=if iX ps N≠0 then (some (F2.zero,F2.zero),iX ps N)else (fT F2 dV (FK (DF ps) x N),0)
theorem Up {w0:World} {args:List Value} {LG LX:List At} {N n2 n4:Nat} {ps:Nat→jQ} {x:Nat→Nat} (h1:aA LG=aA (cG (fun j=>jU (ps j)) 0 N)) (h2:aA LX=aA (cG (fun j=>[.q (x j)]) 0 N)) (hN:N<32) (ha:bQ w0 [.v (.fl fE),.s LG N n2,.s LX N n4] args):Good prog 98 (.many [.fl (cD (kV ps x N).1),.im (.int .i64 (kV ps x N).2)]) args w0:=by
 have g1:aI .neq .i64 (Int.ofNat N) (Int.ofNat N)=some (.bool false):=by rw[aBN,decide_eq_false (by simp)]
 have g2:aI .gtr .i64 (Int.ofNat N) 65536=some (.bool false):=by
  have:=CB (i:=N) (n:=65536);rw[decide_eq_false (by omega)]at this;exact this
 unfold kV
 by_cases h:iX ps N=0
 ·rw[if_neg (fun q=>q h)];exact bE aF (fun _ _=>TabOkW.add (iA.w _ _) func153 (by kernel_rfl) (by kernel_rfl) fun w hw=>aJv) (Jm ps N w0) func98 (Sc LG LX N n2 N n4 ps x) ⟨g1,g2,rfl,h1,rfl,by omega,h,rfl,h2,rfl,rfl,hN,trivial⟩ ha
 ·rw[if_pos h];exact bE aF (fun _ _=>(iA.ad func105 Nh).w _ _) ((aK prog).w _ _) func98 (Sd LG LX N n2 N n4 ps) ⟨g1,g2,rfl,h1,rfl,by omega,h,vJ h,trivial⟩ ha
def xQ (ps:Nat→jQ) (N:Nat):Pt Q2×Int:=if iX ps N≠0 then (some (F2.zero,F2.zero),iX ps N)else (fT F2 dV (OU (DF ps) N),0)
theorem Qh {w0:World} {args:List Value} {LG:List At} {N n2:Nat} {ps:Nat→jQ} (h1:aA LG=aA (cG (fun j=>jU (ps j)) 0 N)) (hN:N≤65536) (ha:bQ w0 [.v (.fl fE),.s LG N n2] args):Good prog 50 (.many [.fl (cD (xQ ps N).1),.im (.int .i64 (xQ ps N).2)]) args w0:=by
 have g2:aI .gtr .i64 (Int.ofNat N) 65536=some (.bool false):=by
  have:=CB (i:=N) (n:=65536);rw[decide_eq_false (by omega)]at this;exact this
 unfold xQ
 by_cases h:iX ps N=0
 ·rw[if_neg (fun q=>q h)];exact bE aF (fun _ _=>(iA.ad func106 aJl).w _ _) (Jm ps N w0) func50 (Rh LG N n2 ps) ⟨g2,rfl,h1,rfl,hN,h,rfl,rfl,hN,trivial⟩ ha
 ·rw[if_pos h];exact bE aF (fun _ _=>(iA.ad func105 Nh).w _ _) ((aK prog).w _ _) func50 (Rj LG N n2 ps) ⟨g2,rfl,h1,rfl,hN,h,vJ h,trivial⟩ ha
def p2 {A:Type} (p q:A):Nat→A|0=>p|_+1=>q
def p3 {A:Type} (p q r:A):Nat→A|0=>p|1=>q|_+2=>r
def aRb (ps:Nat→nW) (N:Nat):jV
 | [.v (.fl l),.s L n1 n2]=>some ([aA l=aA gH,aA L=aA (cG (fun j=>rX (ps j)) 0 N),n1=N,N≤65536],.many [.fl (cV (xR ps N).1),.im (.int .i64 (xR ps N).2)])
 | _=>none
theorem aJo {ps:Nat→nW} {N:Nat}:∀cs pre r,aRb ps N cs=some (pre,r)→aZ pre→∀(args:List Value) (w:World),bQ w cs args→Good prog 48 r args w:=by
 intro cs pre r hg hq args w ha;unfold aRb at hg;split at hg
 ·cases hg;obtain⟨h1,h2,rfl,h4,_⟩:=hq;exact Qi rfl h4 (TJ h1 h2 ha)
 ·cases hg
def aRo (ps:Nat→nW) (x:Nat→Nat) (N:Nat):jV
 | [.v (.fl l),.s L n1 n2,.s X n3 n4]=>some ([aA l=aA gH,aA L=aA (cG (fun j=>rX (ps j)) 0 N),aA X=aA (cG (fun j=>[.q (x j)]) 0 N),n1=N,n3=N,N<32],.many [.fl (cV (pD ps x N).1),.im (.int .i64 (pD ps x N).2)])
 | _=>none
theorem aJy {ps:Nat→nW} {x:Nat→Nat} {N:Nat}:∀cs pre r,aRo ps x N cs=some (pre,r)→aZ pre→∀(args:List Value) (w:World),bQ w cs args→Good prog 96 r args w:=by
 intro cs pre r hg hq args w ha;unfold aRo at hg;split at hg
 ·rename_i l L n1 n2 X n3 n4;cases hg;obtain⟨h1,h2,h3,rfl,rfl,h6,_⟩:=hq;refine Uq (LG:=L) (LX:=X) (n2:=n2) (n4:=n4) h2 h3 h6 ?_
  match args,ha with
  | [u,v,t],ha =>
   refine⟨?_,ha.2.1,ha.2.2.1,trivial⟩;show u=.agg (aA gH).toArray;rw[←h1]; exact ha.1
  | [],ha=>exact ha.elim
  | [_],ha=>exact ha.2.elim
  | [_,_],ha=>exact ha.2.2.elim
  | _::_::_::_::_,ha=>exact ha.2.2.2.elim
 ·cases hg
theorem Td (p q:nW):aT prog (qG prog) (fun _=>⟨fun s=>(rR true).add 48 (aRb (p2 p q) 2),fun s=>true,fun _=>none⟩) f18 60 [.v (.fl (rX p)),.v (.fl (rX q))]=some ([aA gH=aA gH,aA (rX p++rX q)=aA (cG (fun j=>rX (p2 p q j)) 0 2),2=2,2≤65536],.many [.fl (cV (xR (p2 p q) 2).1),.im (.int .i64 (xR (p2 p q) 2).2)]):=by kernel_rfl
theorem Tb (p:nW) (n:Nat):aT prog (qG prog) (fun _=>⟨fun s=>(rR true).add 96 (aRo (fun _=>p) (fun _=>n) 1),fun s=>true,fun _=>none⟩) f44 60 [.v (.fl (rX p)),.v (.fl [.q n])]=some ([aA gH=aA gH,aA (rX p)=aA (cG (fun j=>rX p) 0 1),aA [.q n]=aA (cG (fun j=>[At.q n]) 0 1),1=1,1=1,1<32],.many [.fl (cV (pD (fun _=>p) (fun _=>n) 1).1),.im (.int .i64 (pD (fun _=>p) (fun _=>n) 1).2)]):=by kernel_rfl
def Pj:Tab:=(rR true).add 18 (g2 rg1 rg1 fun p q=>([],.many [.fl (cV (xR (p2 p q) 2).1),.im (.int .i64 (xR (p2 p q) 2).2)]))
theorem aBL:TabOk prog Pj:=(oH true).ad func18 (fC GD GD fun p q hp args w ha=>aB aF (fun _ s=>(oH true).ad func48 aJo) (aK prog) func18 (Td p q) ⟨rfl,rfl,rfl,by omega,trivial⟩ ha)
def Ph:Tab:=(Pj).add 44 (g2 rg1 LD fun p n=>([],.many [.fl (cV (pD (fun _=>p) (fun _=>n) 1).1),.im (.int .i64 (pD (fun _=>p) (fun _=>n) 1).2)]))
theorem aBJ:TabOk prog Ph:=(aBL).ad func44 (fC GD fJ fun p n hp args w ha=>aB aF (fun _ s=>(oH true).ad func96 aJy) (aK prog) func44 (Tb p n) ⟨rfl,rfl,rfl,rfl,rfl,by omega,trivial⟩ ha)
def aRa (ps:Nat→jQ) (N:Nat):jV
 | [.v (.fl l),.s L n1 n2]=>some ([aA l=aA fE,aA L=aA (cG (fun j=>jU (ps j)) 0 N),n1=N,N≤65536],.many [.fl (cD (xQ ps N).1),.im (.int .i64 (xQ ps N).2)])
 | _=>none
theorem aJn {ps:Nat→jQ} {N:Nat}:∀cs pre r,aRa ps N cs=some (pre,r)→aZ pre→∀(args:List Value) (w:World),bQ w cs args→Good prog 50 r args w:=by
 intro cs pre r hg hq args w ha;unfold aRa at hg;split at hg
 ·cases hg;obtain⟨h1,h2,rfl,h4,_⟩:=hq;exact Qh rfl h4 (TH h1 h2 ha)
 ·cases hg
def aRn (ps:Nat→jQ) (x:Nat→Nat) (N:Nat):jV
 | [.v (.fl l),.s L n1 n2,.s X n3 n4]=>some ([aA l=aA fE,aA L=aA (cG (fun j=>jU (ps j)) 0 N),aA X=aA (cG (fun j=>[.q (x j)]) 0 N),n1=N,n3=N,N<32],.many [.fl (cD (kV ps x N).1),.im (.int .i64 (kV ps x N).2)])
 | _=>none
theorem aJx {ps:Nat→jQ} {x:Nat→Nat} {N:Nat}:∀cs pre r,aRn ps x N cs=some (pre,r)→aZ pre→∀(args:List Value) (w:World),bQ w cs args→Good prog 98 r args w:=by
 intro cs pre r hg hq args w ha;unfold aRn at hg;split at hg
 ·rename_i l L n1 n2 X n3 n4;cases hg;obtain⟨h1,h2,h3,rfl,rfl,h6,_⟩:=hq;refine Up (LG:=L) (LX:=X) (n2:=n2) (n4:=n4) h2 h3 h6 ?_
  match args,ha with
  | [u,v,t],ha =>
   refine⟨?_,ha.2.1,ha.2.2.1,trivial⟩;show u=.agg (aA fE).toArray;rw[←h1]; exact ha.1
  | [],ha=>exact ha.elim
  | [_],ha=>exact ha.2.elim
  | [_,_],ha=>exact ha.2.2.elim
  | _::_::_::_::_,ha=>exact ha.2.2.2.elim
 ·cases hg
theorem Tc (p q:jQ):aT prog (qG prog) (fun _=>⟨fun s=>(rR true).add 50 (aRa (p2 p q) 2),fun s=>true,fun _=>none⟩) f19 60 [.v (.fl (jU p)),.v (.fl (jU q))]=some ([aA fE=aA fE,aA (jU p++jU q)=aA (cG (fun j=>jU (p2 p q j)) 0 2),2=2,2≤65536],.many [.fl (cD (xQ (p2 p q) 2).1),.im (.int .i64 (xQ (p2 p q) 2).2)]):=by kernel_rfl
theorem Ta (p:jQ) (n:Nat):aT prog (qG prog) (fun _=>⟨fun s=>(rR true).add 98 (aRn (fun _=>p) (fun _=>n) 1),fun s=>true,fun _=>none⟩) f46 60 [.v (.fl (jU p)),.v (.fl [.q n])]=some ([aA fE=aA fE,aA (jU p)=aA (cG (fun j=>jU p) 0 1),aA [.q n]=aA (cG (fun j=>[At.q n]) 0 1),1=1,1=1,1<32],.many [.fl (cD (kV (fun _=>p) (fun _=>n) 1).1),.im (.int .i64 (kV (fun _=>p) (fun _=>n) 1).2)]):=by kernel_rfl
def vD (p:jQ):Pt Q2×Int:=if (sF p.1 p.2.1 p.2.2).1≠0 then ((some (F2.zero,F2.zero)),(sF p.1 p.2.1 p.2.2).1)else (fT F2 dV (tD F2 (sF p.1 p.2.1 p.2.2).2),0)
def aRk:jV
 | [.v (.fl l),.v (.fl m)]=>match rg2 m with
  | some p=>some ([aA l=aA fE],.many [.fl (cD (vD p).1),.im (.int .i64 (vD p).2)])
  | none=>none
 | _=>none
theorem aJu:∀cs pre r,aRk cs=some (pre,r)→aZ pre→∀(args:List Value) (w:World),bQ w cs args→Good prog 218 r args w:=by
 intro cs pre r hg hq args w ha;unfold aRk at hg;split at hg
 ·rename_i l m;split at hg
  ·rename_i p hp;cases hg;obtain⟨h1,_⟩:=hq;have hb:bQ w [.v (.fl fE),.v (.fl (jU p))] args:=by
    match args,ha with
    | [u,v],ha =>
     refine⟨?_,?_,trivial⟩
     ·show u=.agg (aA fE).toArray;rw[←h1]; exact ha.1
     ·show v=.agg (aA (jU p)).toArray;rw[←qO m p hp]; exact ha.2.1
    | [],ha=>exact ha.elim
    | [_],ha=>exact ha.2.elim
    | _::_::_::_,ha=>exact ha.2.2.elim
   unfold vD
   by_cases h:(sF p.1 p.2.1 p.2.2).1=0
   ·rw[if_neg (fun q=>q h)];exact aB aF (fun _ s=>oH _) (aK prog) func218 (XB true p) ⟨IG h,trivial⟩ hb
   ·rw[if_pos h];exact aB aF (fun _ s=>oH _) (aK prog) func218 (XA true p) ⟨vJ h,trivial⟩ hb
  ·cases hg
 ·cases hg
theorem Sz (p:jQ):aT prog (qG prog) (fun _=>⟨fun s=>(rR true).add 218 aRk,fun s=>true,fun _=>none⟩) f174 60 [.v (.fl (jU p))]=some ([aA fE=aA fE],.many [.fl (cD (vD p).1),.im (.int .i64 (vD p).2)]):=by kernel_rfl
def Pi:Tab:=(Ph).add 19 (g2 rg2 rg2 fun p q=>([],.many [.fl (cD (xQ (p2 p q) 2).1),.im (.int .i64 (xQ (p2 p q) 2).2)]))
theorem aBK:TabOk prog Pi:=(aBJ).ad func19 (fC qO qO fun p q hp args w ha=>aB aF (fun _ s=>(oH true).ad func50 aJn) (aK prog) func19 (Tc p q) ⟨rfl,rfl,rfl,by omega,trivial⟩ ha)
def Pg:Tab:=(Pi).add 46 (g2 rg2 LD fun p n=>([],.many [.fl (cD (kV (fun _=>p) (fun _=>n) 1).1),.im (.int .i64 (kV (fun _=>p) (fun _=>n) 1).2)]))
theorem aBI:TabOk prog Pg:=(aBK).ad func46 (fC qO fJ fun p n hp args w ha=>aB aF (fun _ s=>(oH true).ad func98 aJx) (aK prog) func46 (Ta p n) ⟨rfl,rfl,rfl,rfl,rfl,by omega,trivial⟩ ha)
def Pf:Tab:=(Pg).add 174 (g1 rg2 fun p=>([],.many [.fl (cD (vD p).1),.im (.int .i64 (vD p).2)]))
theorem ZO:TabOk prog Pf:=(aBI).ad func174 (bM qO fun p hp args w ha=>aB aF (fun _ s=>(oH true).ad func218 aJu) (aK prog) func174 (Sz p) ⟨rfl,trivial⟩ ha)
open Classical
section
variable {R:Type} {K:CR R} {inv:R→R} {b:R}
def Rp (E:EC K inv b) (p:Jc R) (P:{p:Pt R // On K b p}):Prop:=fT K inv p=P.1
theorem Rp.on {E:EC K inv b} {p:Jc R} {P:{p:Pt R // On K b p}} (h:Rp E p P):On K b (fT K inv p):=by
 rw[show fT K inv p=P.1 from h]; exact P.2
theorem Rp.plus {E:EC K inv b} {p q:Jc R} {P Q:{p:Pt R // On K b p}} (h:Rp E p P) (g:Rp E q Q):Rp E (eD K p q) (E.grp.add P Q):=by
 show fT K inv (eD K p q)=hZ K inv P.1 Q.1;rw[Ah E h.on g.on,show fT K inv p=P.1 from h,show fT K inv q=Q.1 from g]
theorem Rp.rplus {E:EC K inv b} {p q:Jc R} {P Q:{p:Pt R // On K b p}} (h:Rp E p P) (g:Rp E q Q):Rp E (rplus K p q) (E.grp.add P Q):=by
 show fT K inv (Ex.rplus K p q)=hZ K inv P.1 Q.1;rw[Uu E h.on g.on,show fT K inv p=P.1 from h,show fT K inv q=Q.1 from g]
theorem Rp.dbl {E:EC K inv b} {p:Jc R} {P:{p:Pt R // On K b p}} (h:Rp E p P):Rp E (cK K p) (E.grp.add P P):=by
 show fT K inv (cK K p)=hZ K inv P.1 P.1;rw[RL E h.on,show fT K inv p=P.1 from h]
theorem Rp.neg {E:EC K inv b} {p:Jc R} {P:{p:Pt R // On K b p}} (h:Rp E p P):Rp E (tD K p) (E.grp.neg P):=by
 show fT K inv (tD K p)=MB K P.1;rw[aIZ,show fT K inv p=P.1 from h]
theorem Rp.zero {E:EC K inv b} {p:Jc R} (h:p.2.2=K.zero):Rp E p E.grp.zero:=dJ h
theorem EC.inv_one (E:EC K inv b):inv K.one=K.one:=by
 have:=E.F.inv K.one E.F.ne
 rwa [K.one_mul]at this
theorem EC.jto_one (E:EC K inv b) (x y:R):fT K inv (x,y,K.one)=some (x,y):=by
 rw[dT (p:=(x,y,K.one)) E.F.ne];refine congrArg some (Prod.ext ?_ ?_)
 ·show K.mul x (K.mul (inv K.one) (inv K.one))=x;rw[E.inv_one,K.one_mul,K.mul_one]
 ·show K.mul y (K.mul (K.mul (inv K.one) (inv K.one)) (inv K.one))=y;rw[E.inv_one,K.one_mul,K.one_mul,K.mul_one]
end
namespace AG
variable {G:Type} (A:AG G)
theorem ns_one (g:G):A.ns 1 g=g:=A.zadd g
end AG
open Go.RowKit
open Classical
theorem ZS (c:Nat) (hc:c<FP.M) (h0:c≠0) (hv:c^sV%FP.M≠1) (n:Fq):F1.mul n (F1.mul n n)≠fm c:=fun h=>by
 have hv':n.1^3%FP.M=c:=by
  have:=congrArg Fin.val h;have e:n.1*(n.1*n.1%FP.M)%FP.M=c%FP.M:=this;rw[Nat.mul_mod_mod,←Nat.mul_assoc,show n.1*n.1*n.1=n.1^3 by rw[Nat.pow_succ,Nat.pow_two]]at e;rw[e]; exact Nat.mod_eq_of_lt hc
 have h1:0<n.1:=by
  rcases Nat.eq_zero_or_pos n.1 with h1|h1
  ·rw[h1]at hv';exact (h0 hv'.symm).elim
  ·exact h1
 have:=Vh h1 n.2;rw[←VJ,Nat.pow_mul,Nat.pow_mod,hv']at this;exact hv this
theorem aXs:3^sV%FP.M≠1:=by
 rw[←BV FP.M 256 3 sV (by decide)];exact of_decide_eq_true (by kernel_rfl)
def nb2:Nat:=21087453498479301738505683583845423561061080261299122796980902361914303298513
theorem aXr:nb2^sV%FP.M≠1:=by
 rw[←BV FP.M 256 nb2 sV (by decide)];exact of_decide_eq_true (by kernel_rfl)
theorem aWb:sE dK=fm nb2:=by decide
section
variable {R:Type} (K:CR R)
theorem Oj {x b:R} (h:K.add (K.mul x (K.mul x x)) b=K.zero):K.mul (K.neg x) (K.mul (K.neg x) (K.neg x))=b:=by
 have e:K.mul (K.neg x) (K.mul (K.neg x) (K.neg x))=K.add (K.neg (K.add (K.mul x (K.mul x x)) b)) b:=aE K (aU K [x,b]) ((-Z0)*((-Z0)*(-Z0))) (-(Z0*(Z0*Z0)+Z1)+Z1) (by decide);rw[e,h];have z:K.neg K.zero=K.zero:=by have:=K.neg_add K.zero; rwa [K.add_zero]at this
 rw[z,K.zero_add]
end
theorem iO:EC F1 cT (fm 3) where
 F:=⟨Pn,fun x h=>yQ h⟩
 two:=fun h=>absurd (congrArg Fin.val h) (by decide)
 odd:=fun x h=>ZS 3 (by decide) (by decide) aXs _ (Oj F1 h)
theorem aY:EC F2 dV dK where
 F:=⟨AY.1,fun x h=>UL fun e=>h (pO e)⟩
 two:=fun h=>absurd (congrArg (fun x:Q2=>x.1.1) h) (by decide)
 odd:=fun x h=>by
  have h1:=congrArg sE (Oj F2 h);rw[yF,yF,aWb]at h1;exact ZS nb2 (by decide) (by decide) aXr _ h1
theorem aNk (x:Nat):wv x%18446744073709551616=fw x 0:=by
 obtain⟨h0,h1,h2,h3⟩:=dE x;unfold wv aG;omega
theorem uN (x p:Nat):mB x p=pY (yW (wv x) p):=by
 have e:mA x p=yW (wv x) p:=by
  unfold mA yW
  by_cases h:p=0
  ·rw[if_pos h,if_pos h];unfold Jy;have:=aNk x;omega
  ·rw[if_neg h,if_neg h];generalize wv x/2^(p*4-1)=y;show y/18446744073709551616^0%18446744073709551616%32=y%32;rw[Nat.pow_zero,Nat.div_one];omega
 unfold mB pY;rw[e]
abbrev C1:={p:Pt Fq // On F1 (fm 3) p}
theorem RN {p:J1} {g:C1} (h:Rp iO p g):∀k,Rp iO (LL p k) (iO.grp.ns k g)
 | 0=>Rp.zero rfl
 | k+1=>(RN h k).plus h
theorem Xx {p:J1} {g:C1} (h:Rp iO p g):∀d:Int,Rp iO (Qb p d) (iO.grp.zs d g)
 | .ofNat 0=>Rp.zero rfl
 | .ofNat (k+1)=>RN h (k+1)
 | .negSucc k=>(RN h (k+1)).neg
theorem Oo {pt:Nat→J1} {g:Nat→C1} {N:Nat} (h:∀j,j<N→Rp iO (pt j) (g j)) (x:Nat→Nat) (p:Nat):∀n,n≤N→Rp iO (NW pt x p n) (iO.grp.sm g (fun j=>pY (yW (wv (x j)) p)) n)
 | 0,_=>Rp.zero rfl
 | n+1,hn=>by
  have h2:=Xx (h n (by omega)) (mB (x n) p);rw[uN]at h2;have h1:=Oo h x p n (by omega);have:=h1.plus h2;rw[←uN]at this;show Rp iO _ (iO.grp.add _ (iO.grp.zs (pY (yW (wv (x n)) p)) (g n)));rw[←uN];exact this
theorem Kx {D:Nat→J1} {g:Nat→C1} {N PL:Nat} {x:Nat→Nat} (h:∀p,Rp iO (D p) (iO.grp.sm g (fun j=>pY (yW (wv (x j)) p)) N)):∀k,Rp iO (Uh D PL k) (iO.grp.sm g (fun j=>Va (wv (x j)) PL k) N)
 | 0=>by
  show Rp iO _ (iO.grp.sm g (fun _=>0) N);rw[iO.grp.sm_zero];exact Rp.zero rfl
 | k+1=>by
  have h1:=(Kx (PL:=PL) h k).dbl.dbl.dbl.dbl.plus (h (PL-1-k));rw[iO.grp.sm_two,iO.grp.sm_two,iO.grp.sm_two,iO.grp.sm_two,←iO.grp.sm_add]at h1;rw[iO.grp.sm_congr (d:=fun j=>Va (wv (x j)) PL (k+1)) (fun j _=>by show _=16*Va (wv (x j)) PL k+_; omega)]at h1;exact h1
theorem Qg {pt:Nat→J1} {g:Nat→C1} {N:Nat} (h:∀j,j<N→Rp iO (pt j) (g j)) (x:Nat→Nat):Rp iO (FL pt x N) (iO.grp.sm g (fun j=>(wv (x j):Int)) N):=by
 have h1:=Kx (PL:=mV x N/4+1) (fun p=>Oo h x p N (Nat.le_refl _)) (mV x N/4+1);rw[iO.grp.sm_congr (d:=fun j=>(wv (x j):Int)) (fun j hj=>Ng _ _ (Nat.lt_of_lt_of_le (ED (x j)).1 (Nat.pow_le_pow_right (by omega) (by have:=Gi x N j hj; omega))) (by omega))]at h1;exact h1
def af1 (p:nW):Pt Fq:=bif p.2.2 then none else some (m1 p.1,m1 p.2.1)
theorem aEw {p:nW} (h:(jM p).1=0):fT F1 cT (jM p).2=af1 p∧On F1 (fm 3) (af1 p):=by
 obtain⟨x,y,b⟩:=p;have e:=SW x y b;show fT F1 cT (SX x y b).2=_∧_;have h':(SX x y b).1=0:=h;cases b with
 | true =>
  rw[if_pos rfl]at e;refine⟨?_,trivial⟩;have:(SX x y true).2.2.2=F1.zero:=by
   rw[e];split<;>rfl
  exact dJ this
 | false =>
  rw[if_neg (by simp)]at e
  by_cases hb:¬(KQ x∧KQ y)
  ·rw[if_pos hb]at e;rw[e]at h'; cases h'
  ·rw[if_neg hb]at e
   by_cases hy:F1.mul (m1 y) (m1 y)=F1.add (F1.mul (F1.mul (m1 x) (m1 x)) (m1 x)) (fm 3)
   ·rw[if_pos hy]at e;rw[e];refine⟨iO.jto_one _ _,?_⟩;show F1.mul (m1 y) (m1 y)=F1.add (F1.mul (m1 x) (F1.mul (m1 x) (m1 x))) (fm 3);rw[hy,F1.mul_comm (m1 x) (F1.mul (m1 x) (m1 x))]
   ·rw[if_neg hy]at e;rw[e]at h'; cases h'
def cp1 (p:nW):C1:=if h:(jM p).1=0 then ⟨af1 p,(aEw h).2⟩else iO.grp.zero
theorem SQ {p:nW} (h:(jM p).1=0):(cp1 p).1=af1 p:=by unfold cp1; rw[dif_pos h]
theorem aKg {p:nW} (h:(jM p).1=0):Rp iO (jM p).2 (cp1 p):=(aEw h).1.trans (SQ h).symm
theorem aHo (p:nW) (n:Nat):pD (fun _=>p) (fun _=>n) 1=if (jM p).1≠0 then ((some (F1.zero,F1.zero)),(jM p).1)else ((iO.grp.ns (wv n) (cp1 p)).1,0):=by
 have e1:iY (fun _=>p) 1=(jM p).1:=if_neg (fun h=>h rfl);unfold pD;rw[e1]
 by_cases h1:(jM p).1=0
 ·simp only[h1,ne_eq,not_true_eq_false,not_false_eq_true,if_true,if_false];have hr:=Qg (pt:=DG (fun _=>p)) (g:=fun _=>cp1 p) (N:=1) (fun j hj=>aKg h1) (fun _=>n);have hr':fT F1 cT (FL (DG (fun _=>p)) (fun _=>n) 1)=(iO.grp.add iO.grp.zero (iO.grp.ns (wv n) (cp1 p))).1:=hr;rw[iO.grp.zadd]at hr';rw[hr']
 ·simp only[h1,ne_eq,not_true_eq_false,not_false_eq_true,if_true,if_false]
abbrev C2:={p:Pt Q2 // On F2 dK p}
theorem RM {p:J2} {g:C2} (h:Rp aY p g):∀k,Rp aY (LK p k) (aY.grp.ns k g)
 | 0=>Rp.zero rfl
 | k+1=>(RM h k).plus h
theorem Xw {p:J2} {g:C2} (h:Rp aY p g):∀d:Int,Rp aY (Qa p d) (aY.grp.zs d g)
 | .ofNat 0=>Rp.zero rfl
 | .ofNat (k+1)=>RM h (k+1)
 | .negSucc k=>(RM h (k+1)).neg
theorem Om {pt:Nat→J2} {g:Nat→C2} {N:Nat} (h:∀j,j<N→Rp aY (pt j) (g j)) (x:Nat→Nat) (p:Nat):∀n,n≤N→Rp aY (NV pt x p n) (aY.grp.sm g (fun j=>pY (yW (wv (x j)) p)) n)
 | 0,_=>Rp.zero rfl
 | n+1,hn=>by
  have h2:=Xw (h n (by omega)) (mB (x n) p);rw[uN]at h2;have h1:=Om h x p n (by omega);have:=h1.plus h2;rw[←uN]at this;show Rp aY _ (aY.grp.add _ (aY.grp.zs (pY (yW (wv (x n)) p)) (g n)));rw[←uN];exact this
theorem Kw {D:Nat→J2} {g:Nat→C2} {N PL:Nat} {x:Nat→Nat} (h:∀p,Rp aY (D p) (aY.grp.sm g (fun j=>pY (yW (wv (x j)) p)) N)):∀k,Rp aY (Uf D PL k) (aY.grp.sm g (fun j=>Va (wv (x j)) PL k) N)
 | 0=>by
  show Rp aY _ (aY.grp.sm g (fun _=>0) N);rw[aY.grp.sm_zero];exact Rp.zero rfl
 | k+1=>by
  have h1:=(Kw (PL:=PL) h k).dbl.dbl.dbl.dbl.plus (h (PL-1-k));rw[aY.grp.sm_two,aY.grp.sm_two,aY.grp.sm_two,aY.grp.sm_two,←aY.grp.sm_add]at h1;rw[aY.grp.sm_congr (d:=fun j=>Va (wv (x j)) PL (k+1)) (fun j _=>by show _=16*Va (wv (x j)) PL k+_; omega)]at h1;exact h1
theorem Qf {pt:Nat→J2} {g:Nat→C2} {N:Nat} (h:∀j,j<N→Rp aY (pt j) (g j)) (x:Nat→Nat):Rp aY (FK pt x N) (aY.grp.sm g (fun j=>(wv (x j):Int)) N):=by
 have h1:=Kw (PL:=mV x N/4+1) (fun p=>Om h x p N (Nat.le_refl _)) (mV x N/4+1);rw[aY.grp.sm_congr (d:=fun j=>(wv (x j):Int)) (fun j hj=>Ng _ _ (Nat.lt_of_lt_of_le (ED (x j)).1 (Nat.pow_le_pow_right (by omega) (by have:=Gi x N j hj; omega))) (by omega))]at h1;exact h1
def af2 (p:jQ):Pt Q2:=bif p.2.2 then none else some (m2 p.1,m2 p.2.1)
theorem aEt {p:jQ} (h:(fO p).1=0):fT F2 dV (fO p).2=af2 p∧On F2 dK (af2 p):=by
 obtain⟨x,y,b⟩:=p;have e:=JK x y b;show fT F2 dV (sF x y b).2=_∧_;have h':(sF x y b).1=0:=h;cases b with
 | true =>
  rw[if_pos rfl]at e;refine⟨?_,trivial⟩;have:(sF x y true).2.2.2=F2.zero:=by
   rw[e];split<;>rfl
  exact dJ this
 | false =>
  rw[if_neg (by simp)]at e
  by_cases hb:¬(KP x∧KP y)
  ·rw[if_pos hb]at e;rw[e]at h'; cases h'
  ·rw[if_neg hb]at e
   by_cases hy:F2.mul (m2 y) (m2 y)=F2.add (F2.mul (F2.mul (m2 x) (m2 x)) (m2 x)) dK
   ·rw[if_pos hy]at e;rw[e];refine⟨aY.jto_one _ _,?_⟩;show F2.mul (m2 y) (m2 y)=F2.add (F2.mul (m2 x) (F2.mul (m2 x) (m2 x))) dK;rw[hy,F2.mul_comm (m2 x) (F2.mul (m2 x) (m2 x))]
   ·rw[if_neg hy]at e;rw[e]at h'; cases h'
def Wl (p:jQ):C2:=if h:(fO p).1=0 then ⟨af2 p,(aEt h).2⟩else aY.grp.zero
theorem JF {p:jQ} (h:(fO p).1=0):(Wl p).1=af2 p:=by unfold Wl; rw[dif_pos h]
theorem Ou {p:jQ} (h:(fO p).1=0):Rp aY (fO p).2 (Wl p):=(aEt h).1.trans (JF h).symm
theorem aHn (p:jQ) (n:Nat):kV (fun _=>p) (fun _=>n) 1=if (fO p).1≠0 then ((some (F2.zero,F2.zero)),(fO p).1)else ((aY.grp.ns (wv n) (Wl p)).1,0):=by
 have e1:iX (fun _=>p) 1=(fO p).1:=if_neg (fun h=>h rfl);unfold kV;rw[e1]
 by_cases h1:(fO p).1=0
 ·simp only[h1,ne_eq,not_true_eq_false,not_false_eq_true,if_true,if_false];have hr:=Qf (pt:=DF (fun _=>p)) (g:=fun _=>Wl p) (N:=1) (fun j hj=>Ou h1) (fun _=>n);have hr':fT F2 dV (FK (DF (fun _=>p)) (fun _=>n) 1)=(aY.grp.add aY.grp.zero (aY.grp.ns (wv n) (Wl p))).1:=hr;rw[aY.grp.zadd]at hr';rw[hr']
 ·simp only[h1,ne_eq,not_true_eq_false,not_false_eq_true,if_true,if_false]
theorem aHm (p:jQ):vD p=if (fO p).1≠0 then ((some (F2.zero,F2.zero)),(fO p).1)else ((aY.grp.neg (Wl p)).1,0):=by
 show (if (fO p).1≠0 then ((some (F2.zero,F2.zero)),(fO p).1)else (fT F2 dV (tD F2 (fO p).2),0))=_
 by_cases h1:(fO p).1=0
 ·simp only[h1,ne_eq,not_true_eq_false,not_false_eq_true,if_true,if_false];rw[show fT F2 dV (tD F2 (fO p).2)=_ from (Ou h1).neg]
 ·simp only[h1,ne_eq,not_true_eq_false,not_false_eq_true,if_true,if_false]
structure Chd {R:Type} (K:CR R) (b:R) (p q s:R×R) (n c:R):Prop where
 cub:Cub K b p.1 q.1 s.1 n c
 l1:p.2=K.add (K.mul n p.1) c
 l2:q.2=K.add (K.mul n q.1) c
 l3:K.neg s.2=K.add (K.mul n s.1) c
def hgt {R:Type} (K:CR R) (n:R) (p:R×R):R:=K.sub p.2 (K.mul n p.1)
section
variable {R:Type} {K:CR R} {inv:R→R} {b:R}
theorem TA (E:EC K inv b) {p q:R×R} (hp:On K b (some p)) (hq:On K b (some q)) (hn:¬(p.1=q.1∧K.add p.2 q.2=K.zero)) :
  ∃s,hZ K inv (some p) (some q)=some s∧Chd K b p q s (dH K inv p.1 p.2 q.1 q.2) (hgt K (dH K inv p.1 p.2 q.1 q.2) p):=by
 have S:=xI E hp hq hn;refine⟨_,jD hn,?_⟩;generalize dH K inv p.1 p.2 q.1 q.2=l at S ⊢;refine⟨aSh hp S,?_,?_,?_⟩
 ·exact aE K (aU K [p.2,l,p.1]) (.v 0) (Z1*Z2+(Z0-Z1*Z2)) (by kernel_rfl)
 ·exact S.h1.trans (aE K (aU K [p.2,l,q.1,p.1]) (Z0+Z1*(Z2-Z3)) (Z1*Z2+(Z0-Z1*Z3)) (by kernel_rfl))
 ·exact aE K (aU K [p.2,l,sx K l p.1 q.1,p.1]) (-(Z1*(Z3-Z2)-Z0)) (Z1*Z2+(Z0-Z1*Z3)) (by kernel_rfl)
theorem aYT {A1 A2 A3 A3' h1 h2 h3 h3':R} (r:K.mul A1 (K.mul A2 A3')=K.mul h1 (K.mul h2 h3')) (u:K.mul A3 A3'=K.one) (w:K.mul h3 h3'=K.one):K.mul (K.mul A1 A2) h3=K.mul A3 (K.mul h1 h2) :=
 Bf (K:=K) (c1:=K.mul A3 h3) (c2:=K.neg (K.mul (K.mul A1 A2) h3)) (c3:=K.mul A3 (K.mul h1 h2)) r u w (aE K (aU K [A1,A2,A3,A3',h1,h2,h3,h3'])
  (Z0*Z1*Z6-Z2*(Z4*Z5))
  (Z2*Z6*(Z0*(Z1*Z3)-Z4*(Z5*Z7))+(-(Z0*Z1*Z6))*(Z2*Z3-RE.one)+Z2*(Z4*Z5)*(Z6*Z7-RE.one)) (by kernel_rfl))
end
theorem aNX:3^GN%FP.M≠1:=by
 rw[←BV FP.M 256 3 GN (by decide)];exact of_decide_eq_true (by kernel_rfl)
theorem aQk (n:Fq):F1.mul n n≠fm 3:=fun h=>by
 have hv:n.1^2%FP.M=3:=by
  have:=congrArg Fin.val h;have e:n.1*n.1%FP.M=3%FP.M:=this;rw[Nat.pow_two,e]; decide
 have h0:0<n.1:=by
  rcases Nat.eq_zero_or_pos n.1 with h0|h0
  ·rw[h0]at hv; exact absurd hv (by decide)
  ·exact h0
 have:=Vh h0 n.2;rw[←RU,Nat.pow_mul,Nat.pow_mod,hv]at this;exact aNX this
theorem oR {p:Fq×Fq} (h:On F1 (fm 3) (some p)):p.1≠F1.zero:=fun e=>by
 have h':F1.mul p.2 p.2=F1.add (F1.mul p.1 (F1.mul p.1 p.1)) (fm 3):=h;rw[e,F1.zero_mul,F1.zero_add]at h';exact aQk _ h'
theorem gV {p:Fq×Fq} (h:On F1 (fm 3) (some p)):p.2≠F1.zero:=iO.y_ne h
theorem lZ {p:Q2×Q2} (h:On F2 dK (some p)):p.2≠F2.zero:=aY.y_ne h
theorem aMg {a:aM} (h:a≠aC.zero):kI a≠aC.zero:=fun e=>by
 have t:=jI h;rw[e,aC.mul_zero]at t;exact jJ.1 t.symm
theorem aQt {a:aM} (h:a≠aC.zero):jW a≠aC.zero:=fun e=>by
 have t:=dF h (aMg h);rw[jI h,yJ,e,aC.zero_mul]at t;exact jJ.1 t
abbrev Vq:={z:aM // z≠aC.zero}
def vg:AG Vq where
 add a b:=⟨aC.mul a.1 b.1,nY a.2 b.2⟩
 neg a:=⟨kI a.1,aMg a.2⟩
 zero:=⟨aC.one,jJ.1⟩
 assoc a b c:=Subtype.ext (aC.mul_assoc _ _ _)
 comm a b:=Subtype.ext (aC.mul_comm _ _)
 zadd a:=Subtype.ext (aC.one_mul _)
 nadd a:=Subtype.ext ((aC.mul_comm _ _).trans (jI a.2))
open Classical in
def lv (z:aM):Vq:=if h:z=aC.zero then vg.zero else ⟨jW z,aQt h⟩
theorem cW {z:aM} (h:z≠aC.zero):(lv z).1=jW z:=by unfold lv; rw[dif_neg h]
def lnT (t t':Q2×Q2) (a:Fq×Fq):aM:=lT (dH F2 dV t.1 t.2 t'.1 t'.2) (hgt F2 (dH F2 dV t.1 t.2 t'.1 t'.2) t) a.1 a.2
def lnP (p q:Fq×Fq) (t:Q2×Q2):aM:=lP (dH F1 cT p.1 p.2 q.1 q.2) (hgt F1 (dH F1 cT p.1 p.2 q.1 q.2) p) t.1 t.2
def Gl:Pt Q2→Pt Q2→Pt Fq→Vq
 | some t,some t',some a=>lv (lnT t t' a)
 | _,_,_=>vg.zero
def KN:Pt Fq→Pt Fq→Pt Fq→Pt Q2→Vq
 | some p,some q,some _,some t=>lv (lnP p q t)
 | _,_,_,_=>vg.zero
def LV (P:C1) (T T':C2):Vq:=Gl T.1 T'.1 P.1
def HV (P P':C1) (T:C2):Vq:=KN P.1 P'.1 (iO.grp.add P P').1 T.1
def okT (T T':C2):Prop:=T.1≠none∧T'.1≠none∧(aY.grp.add T T').1≠none
theorem Bw:vg.add vg.zero vg.zero=vg.zero:=vg.zadd _
theorem CG (p' s:Pt Fq) (t:Pt Q2):KN none p' s t=vg.zero:=by simp only[KN]
theorem CF (p s:Pt Fq) (t:Pt Q2):KN p none s t=vg.zero:=by cases p<;>simp only[KN]
theorem CE (p p':Pt Fq) (t:Pt Q2):KN p p' none t=vg.zero:=by cases p<;>cases p'<;>simp only[KN]
theorem NF (p p' s:Pt Fq):KN p p' s none=vg.zero:=by cases p<;>cases p'<;>cases s<;>simp only[KN]
theorem ZW (t t':Pt Q2):Gl t t' none=vg.zero:=by cases t<;>cases t'<;>simp only[Gl]
theorem aMb (t':Pt Q2) (a:Pt Fq):Gl none t' a=vg.zero:=by simp only[Gl]
theorem aMa (t:Pt Q2) (a:Pt Fq):Gl t none a=vg.zero:=by cases t<;>simp only[Gl]
theorem wN {t t':Q2×Q2} {a:Fq×Fq} (h:a.2≠F1.zero):lnT t t' a≠aC.zero:=rW h
theorem AO {p q:Fq×Fq} {t:Q2×Q2} (h:t.2≠F2.zero):lnP p q t≠aC.zero:=tC h
theorem CD (p q s:Fq×Fq) (t:Q2×Q2):KN (some p) (some q) (some s) (some t)=lv (lnP p q t):=by simp only[KN]
theorem NE (t t':Q2×Q2) (a:Fq×Fq):Gl (some t) (some t') (some a)=lv (lnT t t' a):=by simp only[Gl]
theorem lV (a b:Vq):(vg.add a b).1=aC.mul a.1 b.1:=rfl
theorem FA:vg.zero.1=aC.one:=rfl
theorem oQ (t t':Q2×Q2) (a:Fq×Fq):lnT t t' a=lT (dH F2 dV t.1 t.2 t'.1 t'.2) (hgt F2 (dH F2 dV t.1 t.2 t'.1 t'.2) t) a.1 a.2:=rfl
theorem wO (p q:Fq×Fq) (t:Q2×Q2):lnP p q t=lP (dH F1 cT p.1 p.2 q.1 q.2) (hgt F1 (dH F1 cT p.1 p.2 q.1 q.2) p) t.1 t.2:=rfl
theorem Aj (P P':C1):(iO.grp.add P P').1=hZ F1 cT P.1 P'.1:=rfl
theorem nM (P P':C2):(aY.grp.add P P').1=hZ F2 dV P.1 P'.1:=rfl
theorem Ff (t:Q2×Q2):MB F2 (some t)=some (t.1,F2.neg t.2):=rfl
theorem aOC (t:Fq×Fq):MB F1 (some t)=some (t.1,F1.neg t.2):=rfl
theorem DX {R:Type} {K:CR R} {inv:R→R} {p q:R×R} (h:hZ K inv (some p) (some q)≠none):¬(p.1=q.1∧K.add p.2 q.2=K.zero):=fun e=>h (kO e)
theorem Ms {p p' s:Pt Fq} {t:Pt Q2} (hp:On F1 (fm 3) p) (hp':On F1 (fm 3) p') (hs:hZ F1 cT p p'=s) (ht:On F2 dK t):vg.add (KN p p' s t) (KN p p' s (MB F2 t))=vg.zero:=by
 match p,p',s,t with
 | none,_,_,_=>rw[CG,CG,Bw]
 | some p,none,_,_=>rw[CF,CF,Bw]
 | some p,some q,none,_=>rw[CE,CE,Bw]
 | some p,some q,some s,none=>rw[show MB F2 (none:Pt Q2)=none from rfl,NF,Bw]
 | some p,some q,some s,some t =>
  obtain⟨s',e1,C⟩:=TA iO hp hp' (DX (by rw[hs]; exact Option.some_ne_none _));have e2:s'=s:=by rw[hs]at e1; exact (Option.some.inj e1).symm
  subst e2;have hs':On F1 (fm 3) (some s'):=by rw[←hs]; exact hp.add iO hp'
  refine Subtype.ext ?_;rw[Ff,CD,CD,lV,FA];have hy':F2.neg t.2≠F2.zero:=fun e=>lZ ht (by rw[←F2.neg_neg t.2,e,wK])
  rw[cW (AO (lZ ht)),cW (AO (t:=(t.1,F2.neg t.2)) hy')];have r:=ZX C.cub (x:=t.1) (y:=t.2) ht (lZ ht) (oR hp) (oR hp') (oR hs');rw[wO,wO];dsimp only;exact r
theorem aTM (P P':C1) (T:C2):HV P P' (aY.grp.neg T)=vg.neg (HV P P' T):=by
 refine vg.cancel (a:=HV P P' T) ?_;rw[vg.addn];exact Ms P.2 P'.2 rfl T.2
theorem aIR {t t':Pt Q2} {a:Pt Fq} (ht:On F2 dK t) (ht':On F2 dK t') (hn:hZ F2 dV t t'≠none) (ha:On F1 (fm 3) a):vg.add (Gl t t' a) (Gl t t' (MB F1 a))=vg.zero:=by
 match t,t',a with
 | none,_,_=>rw[aMb,aMb,Bw]
 | some t,none,_=>rw[aMa,aMa,Bw]
 | some t,some t',none=>rw[show MB F1 (none:Pt Fq)=none from rfl,ZW,Bw]
 | some t,some t',some a =>
  obtain⟨u,e1,C⟩:=TA aY ht ht' (DX hn);refine Subtype.ext ?_;rw[aOC,NE,NE,lV,FA];have hy':F1.neg a.2≠F1.zero:=fun e=>gV ha (by rw[←F1.neg_neg a.2,e,bK])
  rw[cW (wN (gV ha)),cW (wN (a:=(a.1,F1.neg a.2)) hy')];have r:=Mt C.cub (a:=a.1) (b:=a.2) ha (gV ha) (oR ha);rw[oQ,oQ];dsimp only;exact r
theorem Nf {p p':Pt Fq} {t t':Pt Q2} (hp:On F1 (fm 3) p) (hp':On F1 (fm 3) p') (ht:On F2 dK t) (ht':On F2 dK t') (h1:t≠none) (h2:t'≠none) (h3:hZ F2 dV t t'≠none) :
  vg.add (vg.add (Gl t t' p) (Gl t t' p')) (KN p p' (hZ F1 cT p p') (hZ F2 dV t t'))=vg.add (Gl t t' (hZ F1 cT p p')) (vg.add (KN p p' (hZ F1 cT p p') t) (KN p p' (hZ F1 cT p p') t')):=by
 match p,p',t,t' with
 | _,_,none,_=>exact absurd rfl h1
 | _,_,some _,none=>exact absurd rfl h2
 | none,p',some t,some t'=>rw[CG,CG,CG,ZW,vg.zadd,Bw,show hZ F1 cT none p'=p' from rfl]
 | some p,none,some t,some t'=>rw[CF,CF,CF,ZW,vg.addz,Bw,show hZ F1 cT (some p) none=some p from rfl]
 | some p,some q,some t,some t' =>
  obtain⟨u,e1,D⟩:=TA aY ht ht' (DX h3);have hu:On F2 dK (some u):=by rw[←e1]; exact ht.add aY ht'
  by_cases hn:p.1=q.1∧F1.add p.2 q.2=F1.zero
  ·rw[kO hn,CE,CE,CE,ZW,Bw,vg.addz,Bw];have e:q=(p.1,F1.neg p.2):=Prod.ext hn.1.symm (by
    have h:=congrArg (fun z=>F1.add (F1.neg p.2) z) hn.2;simp only[←F1.add_assoc,F1.add_zero]at h;rw[F1.add_comm (F1.neg p.2) p.2,F1.add_neg,F1.zero_add]at h;exact h)
   rw[e];exact aIR ht ht' h3 hp
  ·obtain⟨s,e2,C⟩:=TA iO hp hp' hn;have hs:On F1 (fm 3) (some s):=by rw[←e2]; exact hp.add iO hp'
   rw[e1,e2];refine Subtype.ext ?_;rw[NE,NE,NE,CD,CD,CD,lV,lV,lV,lV];rw[cW (wN (gV hp)),cW (wN (gV hp')),cW (wN (gV hs)),cW (AO (lZ ht)),cW (AO (lZ ht')),cW (AO (lZ hu))];have hy1:F1.neg s.2≠F1.zero:=fun e=>gV hs (by rw[←F1.neg_neg s.2,e,bK])
   have hy2:F2.neg u.2≠F2.zero:=fun e=>lZ hu (by rw[←F2.neg_neg u.2,e,wK])
   have r1:=Us C.cub D.cub C.l1 C.l2 C.l3 D.l1 D.l2 D.l3 (gV hp) (gV hp') hy1 (lZ ht) (lZ ht') hy2;have r2:=Mt D.cub (a:=s.1) (b:=s.2) hs (gV hs) (oR hs);have r3:=ZX C.cub (x:=u.1) (y:=u.2) hu (lZ hu) (oR hp) (oR hp') (oR hs);have r:=aYT r1 r2 r3;rw[oQ,oQ,oQ,wO,wO,wO];exact r
theorem hrel (P P':C1) (T T':C2) (ho:okT T T'):vg.add (vg.add (LV P T T') (LV P' T T')) (HV P P' (aY.grp.add T T'))=vg.add (LV (iO.grp.add P P') T T') (vg.add (HV P P' T) (HV P P' T')):=by
 unfold LV HV;rw[Aj,nM];exact Nf P.2 P'.2 T.2 T'.2 ho.1 ho.2.1 ho.2.2
section
variable {A:Type} {K:CR A} {X Y:A}
def Eqw (K:CR A) (a b:A) (S T:A→Prop):Prop:=(∀s,S s→∃t,T t∧K.mul a s=K.mul b t)∧(∀t,T t→∃s,S s∧K.mul a s=K.mul b t)
theorem Eqw.refl (a:A) (S:A→Prop):Eqw K a a S S:=⟨fun s h=>⟨s,h,rfl⟩,fun s h=>⟨s,h,rfl⟩⟩
theorem Eqw.symm {a b:A} {S T:A→Prop} (h:Eqw K a b S T):Eqw K b a T S :=
 ⟨fun t ht=>by obtain⟨s,hs,e⟩:=h.2 t ht; exact⟨s,hs,e.symm⟩,fun s hs=>by obtain⟨t,ht,e⟩:=h.1 s hs; exact⟨t,ht,e.symm⟩⟩
theorem Eqw.trans {a b c d:A} {S T U:A→Prop} (h:Eqw K a b S T) (g:Eqw K c d T U):Eqw K (K.mul c a) (K.mul b d) S U:=by
 have key:∀s t u,K.mul a s=K.mul b t→K.mul c t=K.mul d u→K.mul (K.mul c a) s=K.mul (K.mul b d) u:=fun s t u e f=>by
  rw[K.mul_assoc,e,K.mul_left_comm,f,K.mul_assoc]
 refine⟨fun s hs => ?_,fun u hu => ?_⟩
 ·obtain⟨t,ht,e⟩:=h.1 s hs;obtain⟨u,hu,f⟩:=g.1 t ht;exact⟨u,hu,key s t u e f⟩
 ·obtain⟨t,ht,f⟩:=g.2 u hu;obtain⟨s,hs,e⟩:=h.2 t ht;exact⟨s,hs,key s t u e f⟩
theorem Eqw.op {a b:A} {S T:A→Prop} (x y:A) (h:Eqw K a b S T):Eqw K a b (op K X Y x y S) (op K X Y x y T):=by
 obtain⟨h1,h2⟩:=h;refine⟨?_,?_⟩
 ·rintro z ⟨s,s2,hs,hs2,rfl⟩
  obtain⟨t,ht,e⟩:=h1 s hs;obtain⟨t2,ht2,f⟩:=h1 s2 hs2;exact⟨_,⟨t,t2,ht,ht2,rfl⟩,yB e f⟩
 ·rintro z ⟨t,t2,ht,ht2,rfl⟩
  obtain⟨s,hs,e⟩:=h2 t ht;obtain⟨s2,hs2,f⟩:=h2 t2 ht2;exact⟨_,⟨s,s2,hs,hs2,rfl⟩,yB e f⟩
theorem aIi {b x y k:A} (hY:K.mul Y Y=K.add (K.mul X (K.mul X X)) b) (hy:K.mul y y=K.add (K.mul x (K.mul x x)) b) (hk:K.mul k (K.add y y)=K.one) {S:A→Prop} (h:Idl K S):Eqw K K.one (K.sub X x) (op K X Y x y (op K X Y x (K.neg y) S)) S:=by
 refine⟨?_,?_⟩
 ·rintro _ ⟨_,_,⟨a,bb,ha,hb,rfl⟩,⟨c,d,hc,hd,rfl⟩,rfl⟩
  refine⟨(K.add (K.add (K.add (K.mul (K.sub X x) a) (K.mul (K.sub Y (K.neg y)) bb)) (K.mul (K.sub Y y) c)) (K.mul (K.add (K.add (K.mul X X) (K.mul x X)) (K.mul x x)) d)),h.add _ _ (h.add _ _ (h.add _ _ (h.mul _ _ ha) (h.mul _ _ hb)) (h.mul _ _ hc)) (h.mul _ _ hd),?_⟩;rw[K.one_mul];exact jX (K:=K) (c1:=d) (c2:=(K.neg d)) hY hy (aE K (aU K [X,x,a,Y,y,bb,c,d,b]) ((Z0-Z1)*((Z0-Z1)*Z2+(Z3-(-Z4))*Z5)+(Z3-Z4)*((Z0-Z1)*Z6+(Z3-(-Z4))*Z7)-(Z0-Z1)*((Z0-Z1)*Z2+(Z3-(-Z4))*Z5+(Z3-Z4)*Z6+(Z0*Z0+Z1*Z0+Z1*Z1)*Z7)) (Z7*(Z3*Z3-(Z0*(Z0*Z0)+Z8))+(-Z7)*(Z4*Z4-(Z1*(Z1*Z1)+Z8))) (by kernel_rfl))
 ·intro t ht;refine⟨_,⟨_,_,⟨_,_,h.mul t K.zero ht,h.mul t k ht,rfl⟩,⟨_,_,h.mul t (K.neg k) ht,h.mul t K.zero ht,rfl⟩,rfl⟩,?_⟩;rw[K.one_mul];exact gT (K:=K) (c1:=(K.mul (K.sub X x) t)) hk (aE K (aU K [X,x,t,Y,y,k]) ((Z0-Z1)*((Z0-Z1)*(RE.zero*Z2)+(Z3-(-Z4))*(Z5*Z2))+(Z3-Z4)*((Z0-Z1)*((-Z5)*Z2)+(Z3-(-Z4))*(RE.zero*Z2))-(Z0-Z1)*Z2) ((Z0-Z1)*Z2*(Z5*(Z4+Z4)-RE.one)) (by kernel_rfl))
theorem aIh {b x1 y1 x2 l:A} (hY:K.mul Y Y=K.add (K.mul X (K.mul X X)) b) (H2:(K.mul l (K.add y1 (K.add y1 (K.mul l (K.sub x2 x1)))))=(K.add (K.add (K.mul x1 x1) (K.mul x1 x2)) (K.mul x2 x2))) (H3:(K.mul y1 y1)=(K.add (K.mul x1 (K.mul x1 x1)) b)) (hk:(∃k,K.mul k (K.add y1 (K.add y1 (K.mul l (K.sub x2 x1))))=K.one)∨(∃k,K.mul k (K.sub x2 x1)=K.one)) {S:A→Prop} (h:Idl K S):Eqw K (K.sub X (K.sub (K.sub (K.mul l l) x1) x2)) (K.sub (K.sub Y y1) (K.mul l (K.sub X x1))) (op K X Y x1 y1 (op K X Y x2 (K.add y1 (K.mul l (K.sub x2 x1))) S)) (op K X Y (K.sub (K.sub (K.mul l l) x1) x2) (K.sub (K.mul l (K.sub x1 (K.sub (K.sub (K.mul l l) x1) x2))) y1) S):=by
 have HC:=NH (X:=X) (Y:=Y) hY H2 H3;refine⟨?_,?_⟩
 ·rintro _ ⟨_,_,⟨a,bb,ha,hb,rfl⟩,⟨c,d,hc,hd,rfl⟩,rfl⟩
  exact⟨_,⟨(K.add (K.add (K.add (K.mul l a) (K.mul (K.add (K.sub X x1) (K.mul l l)) bb)) (K.mul (K.add (K.sub X x2) (K.mul l l)) c)) (K.mul (K.add (K.add (K.add (K.sub (K.sub Y y1) (K.mul l (K.sub X x1))) (K.mul l (K.sub X x1))) (K.mul l (K.sub X x2))) (K.mul l (K.mul l l))) d)),(K.add (K.add (K.add a (K.mul l bb)) (K.mul l c)) (K.mul (K.mul l l) d)),h.add _ _ (h.add _ _ (h.add _ _ (h.mul _ _ ha) (h.mul _ _ hb)) (h.mul _ _ hc)) (h.mul _ _ hd),h.add _ _ (h.add _ _ (h.add _ _ ha (h.mul _ _ hb)) (h.mul _ _ hc)) (h.mul _ _ hd),rfl⟩,gT (K:=K) (c1:=(K.add (K.add (K.add a (K.mul l bb)) (K.mul l c)) (K.mul (K.mul l l) d))) HC (aE K (aU K [X,l,x1,x2,a,Y,y1,bb,c,d]) ((Z0-(Z1*Z1-Z2-Z3))*((Z0-Z2)*((Z0-Z3)*Z4+(Z5-(Z6+Z1*(Z3-Z2)))*Z7)+(Z5-Z6)*((Z0-Z3)*Z8+(Z5-(Z6+Z1*(Z3-Z2)))*Z9))-(Z5-Z6-Z1*(Z0-Z2))*((Z0-(Z1*Z1-Z2-Z3))*(Z1*Z4+(Z0-Z2+Z1*Z1)*Z7+(Z0-Z3+Z1*Z1)*Z8+(Z5-Z6-Z1*(Z0-Z2)+Z1*(Z0-Z2)+Z1*(Z0-Z3)+Z1*(Z1*Z1))*Z9)+(Z5-(Z1*(Z2-(Z1*Z1-Z2-Z3))-Z6))*(Z4+Z1*Z7+Z1*Z8+Z1*Z1*Z9))) ((Z4+Z1*Z7+Z1*Z8+Z1*Z1*Z9)*((Z0-Z2)*((Z0-Z3)*(Z0-(Z1*Z1-Z2-Z3)))-(Z5-Z6-Z1*(Z0-Z2))*(Z5-(Z1*(Z2-(Z1*Z1-Z2-Z3))-Z6)+Z1*(Z0-(Z1*Z1-Z2-Z3))))) (by kernel_rfl))⟩
 ·rintro _ ⟨u,w,hu,hw,rfl⟩
  have hg:S (K.sub u (K.mul l w)):=h.sub hu (h.mul _ _ hw);have e0:K.mul (K.sub (K.sub Y y1) (K.mul l (K.sub X x1))) (K.add (K.mul (K.sub X (K.sub (K.sub (K.mul l l) x1) x2)) u) (K.mul (K.sub Y (K.sub (K.mul l (K.sub x1 (K.sub (K.sub (K.mul l l) x1) x2))) y1)) w))=K.mul (K.sub X (K.sub (K.sub (K.mul l l) x1) x2)) (K.add (K.mul (K.sub (K.sub Y y1) (K.mul l (K.sub X x1))) (K.sub u (K.mul l w))) (K.mul (K.sub X x1) (K.mul (K.sub X x2) w))) :=
   gT (K:=K) (c1:=(K.neg w)) HC (aE K (aU K [Y,y1,l,X,x1,x2,u,w]) ((Z0-Z1-Z2*(Z3-Z4))*((Z3-(Z2*Z2-Z4-Z5))*Z6+(Z0-(Z2*(Z4-(Z2*Z2-Z4-Z5))-Z1))*Z7)-(Z3-(Z2*Z2-Z4-Z5))*((Z0-Z1-Z2*(Z3-Z4))*(Z6-Z2*Z7)+(Z3-Z4)*((Z3-Z5)*Z7))) ((-Z7)*((Z3-Z4)*((Z3-Z5)*(Z3-(Z2*Z2-Z4-Z5)))-(Z0-Z1-Z2*(Z3-Z4))*(Z0-(Z2*(Z4-(Z2*Z2-Z4-Z5))-Z1)+Z2*(Z3-(Z2*Z2-Z4-Z5))))) (by kernel_rfl))
  generalize hge:(K.sub u (K.mul l w))=g at hg e0;rw[e0]
  rcases hk with⟨k,hk⟩|⟨k,hk⟩
  ·refine⟨_,⟨_,_,⟨_,_,h.add _ _ (h.mul g (K.mul k (K.add (K.add X x1) x2)) hg) hw,h.mul g K.zero hg,rfl⟩,⟨_,_,h.mul g K.zero hg,h.mul g (K.neg k) hg,rfl⟩,rfl⟩,congrArg (K.mul _) ?_⟩;exact aEl (K:=K) (c1:=(K.mul (K.sub (K.sub Y y1) (K.mul l (K.sub X x1))) g)) (c2:=(K.neg (K.mul k g))) (c3:=(K.mul k g)) (c4:=(K.mul (K.mul k g) (K.sub X x1))) hk hY H3 H2 (aE K (aU K [X,x1,x2,k,g,w,Y,y1,l,b]) ((Z0-Z1)*((Z0-Z2)*(Z3*(Z0+Z1+Z2)*Z4+Z5)+(Z6-(Z7+Z8*(Z2-Z1)))*(RE.zero*Z4))+(Z6-Z7)*((Z0-Z2)*(RE.zero*Z4)+(Z6-(Z7+Z8*(Z2-Z1)))*((-Z3)*Z4))-((Z6-Z7-Z8*(Z0-Z1))*Z4+(Z0-Z1)*((Z0-Z2)*Z5))) ((Z6-Z7-Z8*(Z0-Z1))*Z4*(Z3*(Z7+(Z7+Z8*(Z2-Z1)))-RE.one)+(-(Z3*Z4))*(Z6*Z6-(Z0*(Z0*Z0)+Z9))+Z3*Z4*(Z7*Z7-(Z1*(Z1*Z1)+Z9))+Z3*Z4*(Z0-Z1)*(Z8*(Z7+(Z7+Z8*(Z2-Z1)))-(Z1*Z1+Z1*Z2+Z2*Z2))) (by kernel_rfl))
  ·refine⟨_,⟨_,_,⟨_,_,hw,h.mul g k hg,rfl⟩,⟨_,_,h.mul g (K.neg k) hg,h.mul g K.zero hg,rfl⟩,rfl⟩,congrArg (K.mul _) ?_⟩;exact gT (K:=K) (c1:=(K.mul (K.sub (K.sub Y y1) (K.mul l (K.sub X x1))) g)) hk (aE K (aU K [X,x1,x2,w,Y,y1,l,k,g]) ((Z0-Z1)*((Z0-Z2)*Z3+(Z4-(Z5+Z6*(Z2-Z1)))*(Z7*Z8))+(Z4-Z5)*((Z0-Z2)*((-Z7)*Z8)+(Z4-(Z5+Z6*(Z2-Z1)))*(RE.zero*Z8))-((Z4-Z5-Z6*(Z0-Z1))*Z8+(Z0-Z1)*((Z0-Z2)*Z3))) ((Z4-Z5-Z6*(Z0-Z1))*Z8*(Z7*(Z2-Z1)-RE.one)) (by kernel_rfl))
theorem aFO (D:Dom K) {v0 vW vR vS l1 l2 m1 m2 la t s:A} (h:K.mul (K.mul v0 (K.mul (K.mul (K.mul vW vR) (K.mul l1 l2)) la)) K.one=K.mul (K.mul (K.mul v0 (K.mul (K.mul vW vS) (K.mul m1 m2))) la) t)
  (h':K.mul (K.mul v0 (K.mul (K.mul (K.mul vW vR) (K.mul l1 l2)) la)) s=K.mul (K.mul (K.mul v0 (K.mul (K.mul vW vS) (K.mul m1 m2))) la) K.one)
  (h0:v0≠K.zero) (hW:vW≠K.zero) (hS:vS≠K.zero) (hm1:m1≠K.zero) (hm2:m2≠K.zero) (hla:la≠K.zero):K.mul t s=K.one∧K.mul vR (K.mul l1 l2)=K.mul t (K.mul vS (K.mul m1 m2)):=by
 have hb:K.mul (K.mul v0 (K.mul (K.mul vW vS) (K.mul m1 m2))) la≠K.zero:=D.2 _ _ (D.2 _ _ h0 (D.2 _ _ (D.2 _ _ hW hS) (D.2 _ _ hm1 hm2))) hla;refine⟨?_,?_⟩
 ·rw[K.mul_one]at h;rw[h,K.mul_assoc]at h';exact nQ D hb h'
 ·have hk:K.mul (K.mul v0 vW) la≠K.zero:=D.2 _ _ (D.2 _ _ h0 hW) hla;refine nQ D hk ?_;have e1:K.mul (K.mul (K.mul v0 vW) la) (K.mul vR (K.mul l1 l2))=K.mul (K.mul v0 (K.mul (K.mul (K.mul vW vR) (K.mul l1 l2)) la)) K.one:=aE K (aU K [v0,vW,la,vR,l1,l2]) (Z0*Z1*Z2*(Z3*(Z4*Z5))) (Z0*(Z1*Z3*(Z4*Z5)*Z2)*RE.one) (by kernel_rfl);have e2:K.mul (K.mul (K.mul v0 (K.mul (K.mul vW vS) (K.mul m1 m2))) la) t=K.mul (K.mul (K.mul v0 vW) la) (K.mul t (K.mul vS (K.mul m1 m2))):=aE K (aU K [v0,vW,la,vS,m1,m2,t]) (Z0*(Z1*Z3*(Z4*Z5))*Z2*Z6) (Z0*Z1*Z2*(Z6*(Z3*(Z4*Z5)))) (by kernel_rfl);exact e1.trans (h.trans e2)
end
section
variable {R:Type} {K:CR R} {inv:R→R} {b:R}
theorem Eqw.opP {a c:Pol K×Pol K} {S T:Pol K×Pol K→Prop} (h:Eqw (bZ K b) a c S T) (p:Pt R):Eqw (bZ K b) a c (opP K b p S) (opP K b p T):=by
 cases p with
 | none=>exact h
 | some p=>exact h.op _ _
def ver (K:CR R) (b:R):Pt R→Pol K×Pol K
 | none=>(bZ K b).one
 | some p=>(bZ K b).sub cX (cc p.1)
open Classical in
def Ca (K:CR R) (inv:R→R) (b:R):Pt R→Pt R→Pol K×Pol K
 | none,q=>ver K b q
 | some p,none=>ver K b (some p)
 | some p,some q=>if p.1=q.1∧K.add p.2 q.2=K.zero then (bZ K b).sub cX (cc p.1)else (bZ K b).sub ((bZ K b).sub cY (cc p.2)) ((bZ K b).mul (cc (dH K inv p.1 p.2 q.1 q.2)) ((bZ K b).sub cX (cc p.1)))
theorem RG {p q:R×R} (h:p.1=q.1∧K.add p.2 q.2=K.zero):Ca K inv b (some p) (some q)=(bZ K b).sub cX (cc p.1):=if_pos h
theorem RF {p q:R×R} (h:¬(p.1=q.1∧K.add p.2 q.2=K.zero)):Ca K inv b (some p) (some q)=(bZ K b).sub ((bZ K b).sub cY (cc p.2)) ((bZ K b).mul (cc (dH K inv p.1 p.2 q.1 q.2)) ((bZ K b).sub cX (cc p.1))):=if_neg h
theorem vQ (E:EC K inv b):∀p:Pt R,ver K b p≠(bZ K b).zero
 | none=>(jL (K:=K) b E.F).1
 | some p=>aKH E.F _
theorem IK (E:EC K inv b):∀p q:Pt R,Ca K inv b p q≠(bZ K b).zero
 | none,q=>vQ E q
 | some p,none=>vQ E (some p)
 | some p,some q=>by
  by_cases h:p.1=q.1∧K.add p.2 q.2=K.zero
  ·rw[RG h]; exact aKH E.F _
  ·rw[RF h]; exact aDT E.F _ _ _
theorem lG (E:EC K inv b) {S:Pol K×Pol K→Prop} (hS:Idl (bZ K b) S):∀{p q:Pt R},On K b p→On K b q→Eqw (bZ K b) (ver K b (hZ K inv p q)) (Ca K inv b p q) (opP K b p (opP K b q S)) (opP K b (hZ K inv p q) S)
 | none,_,_,_=>Eqw.refl _ _
 | some _,none,_,_=>Eqw.refl _ _
 | some ⟨x1,y1⟩,some ⟨x2,y2⟩,hp,hq=>by
  by_cases hn:x1=x2∧K.add y1 y2=K.zero
  ·rw[kO hn,RG hn];obtain⟨rfl,hy⟩:=hn;have e:y2=K.neg y1:=by
    apply K.add_cancel (a:=y1);rw[hy,K.add_neg]
   subst e;show Eqw (bZ K b) (bZ K b).one ((bZ K b).sub cX (cc x1)) (op (bZ K b) cX cY (cc x1) (cc y1) (op (bZ K b) cX cY (cc x1) (cc (K.neg y1)) S)) S;have h0:=E.F.inv _ (E.dbl_ne (E.y_ne hp));rw[Ht b];refine aIi (b:=cc b) (k:=cc (inv (K.add y1 y1))) (aKn b) ?_ ?_ hS
   ·rw[←fW,←fW,←fW,←iK];exact congrArg cc hp
   ·rw[←iK,←fW,K.mul_comm,h0];rfl
  ·rw[jD hn,RF hn];have h:=xI E hp hq hn;dsimp only at h ⊢;generalize dH K inv x1 y1 x2 y2=l at h;obtain⟨h1,h2,hk⟩:=h;subst h1;show Eqw (bZ K b) ((bZ K b).sub cX (cc (sx K l x1 x2))) ((bZ K b).sub ((bZ K b).sub cY (cc y1)) ((bZ K b).mul (cc l) ((bZ K b).sub cX (cc x1)))) (op (bZ K b) cX cY (cc x1) (cc y1) (op (bZ K b) cX cY (cc x2) (cc (K.add y1 (K.mul l (K.sub x2 x1)))) S)) (op (bZ K b) cX cY (cc (sx K l x1 x2)) (cc (sy K l x1 y1 x2)) S);unfold sy sx;simp only[iK b,fW b,oU b];refine aIh (b:=cc b) (aKn b) ?_ ?_ ?_ hS
   ·have:=congrArg (cc (K:=K)) h2;simpa only[iK b,fW b,oU b]using this
   ·have:=congrArg (cc (K:=K)) hp;simpa only[iK b,fW b,oU b]using this
   ·rcases hk with⟨k,hk⟩|⟨k,hk⟩
    ·refine Or.inl ⟨cc k,?_⟩;have:=congrArg (cc (K:=K)) hk;simpa only[iK b,fW b,oU b,TC b]using this
    ·refine Or.inr ⟨cc k,?_⟩;have:=congrArg (cc (K:=K)) hk;simpa only[iK b,fW b,oU b,TC b]using this
theorem Mh (F:FD K inv) (f:Pol K×Pol K) (h:f≠(bZ K b).zero):∃d,dg (nrm b f) d∧((f.2=aW.zero∧∃n,dg f.1 n∧d=n+n)∨3≤d):=by
 have hq:dg (qP b:Pol K) 3:=aMv F b
 by_cases h2:f.2=aW.zero
 ·have h1:f.1≠aW.zero:=fun e=>h (Prod.ext e h2)
  obtain⟨n,hn⟩:=JE _ h1;refine⟨n+n,?_,Or.inl ⟨h2,n,hn,rfl⟩⟩;unfold nrm;rw[h2,aW.mul_zero,aW.mul_zero];show dg (aW.add _ (aW.neg aW.zero)) _;rw[bK,aW.add_zero];exact iJ F hn hn
 ·obtain⟨m,hm⟩:=JE _ h2;have hr:=iJ F hq (iJ F hm hm)
  by_cases h1:f.1=aW.zero
  ·refine⟨3+(m+m),?_,Or.inr (by omega)⟩;unfold nrm;rw[h1,aW.mul_zero];show dg (aW.add _ _) _;rw[aW.zero_add];exact SO hr
  ·obtain⟨n,hn⟩:=JE _ h1;have hl:=iJ F hn hn;have hr':=SO hr
   rcases Nat.lt_or_ge (n+n) (3+(m+m))with q|q
   ·refine⟨3+(m+m),?_,Or.inr (by omega)⟩;show dg (aW.add _ _) _;rw[aW.add_comm];exact tK hr' fun i hi=>hl.2 i (by omega)
   ·refine⟨n+n,?_,Or.inr (by omega)⟩;exact tK hl fun i hi=>hr'.2 i (by omega)
theorem Jq (F:FD K inv) {t s:Pol K×Pol K} (h:(bZ K b).mul t s=(bZ K b).one):∃c,c≠K.zero∧t=cc c:=by
 have D:=jL (K:=K) b F;have ht:t≠(bZ K b).zero:=fun e=>by rw[e,(bZ K b).zero_mul]at h; exact D.1 h.symm
 have hs:s≠(bZ K b).zero:=fun e=>by rw[e,(bZ K b).mul_zero]at h; exact D.1 h.symm
 obtain⟨d1,g1,k1⟩:=Mh (b:=b) F t ht;obtain⟨d2,g2,_⟩:=Mh (b:=b) F s hs;have g:=iJ F g1 g2;rw[←QX,h]at g;have o:dg (nrm b (bZ K b).one:Pol K) 0:=by
  have e:(nrm b (bZ K b).one:Pol K)=aW.one:=by
   show aW.sub (aW.mul aW.one aW.one) (aW.mul (qP b) (aW.mul aW.zero aW.zero))=_;rw[aW.mul_one,aW.mul_zero,aW.mul_zero];show aW.add _ (aW.neg aW.zero)=_;rw[bK,aW.add_zero]
  rw[e];exact⟨F.ne,fun i hi=>by cases i with|zero=>omega|succ i=>rfl⟩
 have hd:=aEc o g
 rcases k1 with⟨z,n,hn,e⟩|q
 ·have hn0:n=0:=by omega
  subst hn0;refine⟨t.1.1 0,hn.1,Prod.ext (Pol.ext fun i => ?_) z⟩;cases i with
  | zero=>rfl
  | succ i=>exact hn.2 _ (by omega)
 ·omega
theorem aXv (E:EC K inv b) {p q r:Pt R} (hp:On K b p) (hq:On K b q) (hr:On K b r):∃c,c≠K.zero ∧
  (bZ K b).mul (ver K b (hZ K inv q r)) ((bZ K b).mul (Ca K inv b p q) (Ca K inv b (hZ K inv p q) r))=(bZ K b).mul (cc c) ((bZ K b).mul (ver K b (hZ K inv p q)) ((bZ K b).mul (Ca K inv b q r) (Ca K inv b p (hZ K inv q r)))):=by
 have D:=jL (K:=K) b E.F;have hu:=kU (bZ K b);have hS:=hp.add E hq;have hR:=hq.add E hr;have hW:=hS.add E hr;have e1:=lG E (La hu r) hp hq;have e2:=lG E hu hS hr;have e3:=(lG E hu hq hr).opP p;have e4:=lG E hu hp hR;rw[←MC E hp hq hr]at e4;have f:=(e1.trans e2).symm.trans (e3.trans e4);have n:=lG E hu hW.neg hW;rw[DQ]at n;have k:=(n.symm.trans (f.opP (MB K (hZ K inv (hZ K inv p q) r)))).trans n;obtain⟨t,_,h1⟩:=k.1 (bZ K b).one trivial;obtain⟨s,_,h2⟩:=k.2 (bZ K b).one trivial;have u:=aFO D h1 h2 (vQ E _) (vQ E _) (vQ E _) (IK E _ _) (IK E _ _) (IK E _ _);obtain⟨c,hc,e⟩:=Jq (b:=b) E.F u.1;refine⟨c,hc,?_⟩;rw[←e];exact u.2
end
end Go.Proofs.YtglgakbkdjhojaaGreat.Ex
