/- Pl12 -/
import Derived.KernelRfl
import Derived.LoopTactic
import Derived.Deep.LoopGhost
import Derived.RegionTactic
import Derived.Test.YtglgakbkdjhojaaGreatPl11
import Derived.Test.YtglgakbkdjhojaaGreatPl06
import Derived.Test.YtglgakbkdjhojaaGreatPl10
import Derived.Test.YtglgakbkdjhojaaGreatProg
set_option maxRecDepth 100000
set_option linter.unusedVariables false
set_option linter.unusedSimpArgs false
noncomputable section
namespace Go.Proofs.YtglgakbkdjhojaaGreat.Ex
open Go.Proofs.Tryz
open Go.RowKit
theorem FrOk.ad {P:Program} {T:Tab2} (hT:FrOk P T) {f:Nat} {fn:Func} (hf:P.funcs[f]?=some fn) {g:List CA→Option (List Prop×FR)}
 (h:∀cs pre r,g cs=some (pre,r)→bC pre→∀(args:List Value) (w:World),bZ w cs args→Calls P f args.toArray w (fun e w'=>r.ok w e w')) (hn:(fn.name == "runtime.NumGoroutine")=false:=by kernel_rfl) (hb:fn.body.isNone=false:=by kernel_rfl):FrOk P (T.add f g):=hT.add hf hn hb h
def iH (p:lJ):Int×J1:=BD p.1 p.2.1 p.2.2
def kJ (ps:Nat→lJ):Nat→Int
 | 0=>0
 | i+1=>if kJ ps i≠0 then kJ ps i else (iH (ps i)).1
theorem WE {ps:Nat→lJ}:∀{N:Nat},kJ ps N=0→∀j,j<N→(iH (ps j)).1=0
 | N+1,h,j,hj=>by
  unfold kJ at h
  by_cases h0:kJ ps N=0
  ·rw[if_neg (fun q=>q h0)]at h
   by_cases e:j=N
   ·rw[e]; exact h
   ·exact WE h0 j (by omega)
  ·rw[if_pos h0]at h; exact (h0 h).elim
theorem Gs {ps:Nat→lJ}:∀{N:Nat},kJ ps N≠0→∃j,j<N∧(∀k,k<j→(iH (ps k)).1=0)∧(iH (ps j)).1≠0∧kJ ps N=(iH (ps j)).1
 | 0,h=>(h rfl).elim
 | N+1,h=>by
  unfold kJ at h ⊢
  by_cases h0:kJ ps N=0
  ·rw[if_neg (fun q=>q h0)]at h ⊢;exact⟨N,by omega,fun k hk=>WE h0 k hk,h,rfl⟩
  ·rw[if_pos h0];obtain⟨j,h1,h2,h3,h4⟩:=Gs h0;exact⟨j,by omega,h2,h3,h4⟩
def FX (ps:Nat→lJ) (j:Nat):J1:=(iH (ps j)).2
def xG (LG Z:List At) (N N' i:Nat):List Fact:=[.slot 1 (.sl 1 0 N N'),.row 1 false LG,.slot 2 (.pt 2 0),.row 2 true iG,.slot 6 (.sl 12 0 N N),.row 12 true Z,.slot 14 (.im (iI N)),.slot 15 (.im (iI i))]
def aZA (LG:List At) (N N':Nat):List Fact:=[.slot 1 (.sl 1 0 N N'),.row 1 false LG,.slot 2 (.pt 2 0),.row 2 true iG]
def aZy (LG Z:List At) (N N':Nat):List Fact:=[.slot 1 (.sl 1 0 N N'),.row 1 false LG,.slot 2 (.pt 2 0),.row 2 true iG,.slot 6 (.sl 12 0 N N),.row 12 true Z]
def iS:Code:=(f101.body).getD .skip
def wY:Code:=pC (pC (cB (cA (cB (cB iS)))))
theorem aKx:iS=.seq (cA iS) (.seq (cA (cB iS)) (.seq (.seq (cA (cA (cB (cB iS)))) (.block 0 (.loop wY))) (cB (cB (cB iS))))):=by kernel_rfl
def DU (num:Nat→Option Value) (_:Nat):Cfg:=⟨fun _=>lG,fun _=>true,num⟩
theorem aZI (LG:List At) (N N':Nat):aU prog (qG prog) f101.ntmps (DU fun _=>none) 40 (cA iS) (lC 0 [.v (.fl iG),.s LG N N']) (aZA LG N N')=some ([],.nrm,aZA LG N N'):=by kernel_rfl
def aSq (N:Nat) (Z:List At):Ext:={ YR (fun _ _ _=>False)with mks:=assoc [(12,(N,Z))] }
theorem aZH (LG Z:List At) (N N':Nat):aU prog (qX prog (aSq N Z)) f101.ntmps (DU fun _=>none) 40 (cA (cB iS)) (aZA LG N N') (aZy LG Z N N')=some ([∃e,∀w:World,(Instr.makeSlice 161 (iI N) (iI N)).run prog w=.ok (.slice (some ⟨w.heap.size,0,none⟩) N N) (w.alloc (.cells (aA Z).toArray e))],.nrm,aZy LG Z N N'):=by kernel_rfl
theorem aZG (LG Z:List At) (N N':Nat):aU prog (qG prog) f101.ntmps (DU fun _=>none) 40 (cA (cA (cB (cB iS)))) (aZy LG Z N N') (xG LG Z N N' 0)=some ([],.nrm,xG LG Z N N' 0):=by kernel_rfl
def aQi (i:Nat) (p:lJ) (Z':List At):Ext:={ YR (fun _ _ _=>False)with idx:=assoc [(23,i),(34,i)],ld:=assoc [(24,kK p)],st:=assoc [(34,Z')] }
theorem aZJ (LG Z Z':List At) (N N' i:Nat) (p:lJ):aU prog (qX prog (aQi i p Z')) f101.ntmps (DU (assoc [(16,.bool true),(29,.bool false),(35,iI (i+1))])) 60 wY (xG LG Z N N' i) (xG LG Z' N N' (i+1))=some ([aI .lss .i64 (Int.ofNat i) (Int.ofNat N)=some (.bool true),Int.ofNat i=Int.ofNat i,i<N,gU LG (0+i*9) 9=some (kK p),aI .neq .i64 (iH p).1 0=some (.bool false),Int.ofNat i=Int.ofNat i,i<N,put Z (0+i*12) (bK (iH p).2)=some Z',aI .add .i64 (Int.ofNat i) 1=some (iI (i+1))],.nrm,xG LG Z' N N' (i+1)):=by kernel_rfl
theorem aZK (LG Z:List At) (N N' i:Nat) (p:lJ):aU prog (qX prog (aQi i p Z)) f101.ntmps (DU (assoc [(16,.bool true),(29,.bool true)])) 60 wY (xG LG Z N N' i) [.slot 4 (.im (.slice none 0 0)),.slot 5 (.im (.int .i64 (iH p).1))]=some ([aI .lss .i64 (Int.ofNat i) (Int.ofNat N)=some (.bool true),Int.ofNat i=Int.ofNat i,i<N,gU LG (0+i*9) 9=some (kK p),aI .neq .i64 (iH p).1 0=some (.bool true)],.rt,[.slot 4 (.im (.slice none 0 0)),.slot 5 (.im (.int .i64 (iH p).1))]):=by kernel_rfl
theorem aQk (LG Z:List At) (N N' i:Nat):aU prog (qG prog) f101.ntmps (DU (assoc [(16,.bool false)])) 40 wY (xG LG Z N N' i) (xG LG Z N N' i)=some ([aI .lss .i64 (Int.ofNat i) (Int.ofNat N)=some (.bool false)],.ex 0,xG LG Z N N' i):=by kernel_rfl
theorem aKv (LG Z:List At) (N N' i:Nat):aU prog (qG prog) f101.ntmps (DU fun _=>none) 40 (cB (cB (cB iS))) (xG LG Z N N' i) [.slot 4 (.sl 12 0 N N),.row 12 true Z,.slot 5 (.im (.int .i64 0))]=some ([],.rt,[.slot 4 (.sl 12 0 N N),.row 12 true Z,.slot 5 (.im (.int .i64 0))]):=by kernel_rfl
theorem aJl:vO (aA (bK uB)) (.int .u64 0):=by unfold vO; kernel_rfl
theorem SA {w0:World} {args:List Value} {N N':Nat} {ps:Nat→lJ} (ha:bZ w0 [.v (.fl iG),.s (cQ (fun j=>kK (ps j)) 0 N) N N'] args) (hN2:N≤65536) {R:Ending→World→Prop}
  (h:∀a w,Holds f101.ntmps w0.heap.size w0 (xG (cQ (fun j=>kK (ps j)) 0 N) (oO (fun j=>bK (FX ps j)) (bK uB) N 0) N N' 0) a w→(Code.loop wY).wp prog (fun e a w=>match e with | .exit 0=>(cB (cB (cB iS))).wp prog (bodyPost prog f101 R) a w | .ret=>bodyPost prog f101 R .ret a w|_=>False) a w):Calls prog 101 args.toArray w0 R:=by
 have hG:cV prog (qG prog) w0.heap.size w0:=(aJ _).w _ _;have hT:∀n d:Nat,TabOkW prog lG w0.heap.size w0:=fun _ _=>jK.w _ _
 refine dL func101 (c:=iS) rfl ha (Nat.le_of_ble_eq_true (by kernel_rfl)) fun a w' hA => ?_
 rw[aKx];refine wp_seq (aD aE hT hG (aZI _ N N') trivial hA fun a w' hA => ?_);refine wp_seq (aD aE hT (pK (x:=aSq N (cQ (fun _=>bK uB) 0 N)) (lH _) fun _ _ _ h=>h.elim) (aZH _ (cQ (fun _=>bK uB) 0 N) N N') ⟨Vo (t:=161) (e:=165) (z:=bK uB) (v:=.int .u64 0) (n:=12) (by8:=96) (by kernel_rfl) (by kernel_rfl) rfl aJl (by omega) (by omega) (by omega),trivial⟩ hA fun a w' hA => ?_);refine wp_seq (wp_seq (aD aE hT hG (aZG _ _ N N') trivial hA fun a w' hA => ?_));refine wp_block ?_;rw[←VF (fun j=>bK (FX ps j))]at hA;refine Code.wp_mono (fun e a w h => ?_) (h a w' hA);cases e with
 | exit id =>
  cases id with
  | zero=>exact h
  | succ k=>exact h.elim
 | ret=>exact h
 | _=>exact h.elim
theorem Hr {w0:World} {N N':Nat} {ps:Nat→lJ} {i:Nat} (hi:i<N) (hN2:N≤65536) (h:(iH (ps i)).1=0):Ok prog w0.heap.size w0 f101.ntmps wY (xG (cQ (fun j=>kK (ps j)) 0 N) (oO (fun j=>bK (FX ps j)) (bK uB) N i) N N' i) .nrm (xG (cQ (fun j=>kK (ps j)) 0 N) (oO (fun j=>bK (FX ps j)) (bK uB) N (i+1)) N N' (i+1)) :=
 ⟨_,_,_,_,pK (x:=aQi i (ps i) _) (lH _) (fun _ _ _ h=>h.elim),fun _ _=>jK.w _ _,aZJ _ _ (oO (fun j=>bK (FX ps j)) (bK uB) N (i+1)) N N' i (ps i),cJ hi,rfl,hi,nN (f:=fun j=>kK (ps j)) (c:=9) (fun j=>rfl) hi (Nat.zero_add _),AN h,rfl,hi,zY (f:=fun j=>bK (FX ps j)) (c:=12) (fun j=>rfl) rfl hi (Nat.zero_add _),mO (k:=1) (by omega),trivial⟩
theorem aKw {w0:World} {args:List Value} {N N':Nat} {ps:Nat→lJ} (ha:bZ w0 [.v (.fl iG),.s (cQ (fun j=>kK (ps j)) 0 N) N N'] args) (hN2:N≤65536) (h:kJ ps N=0):Calls prog 101 args.toArray w0 (fun e w'=>FR.ok ⟨cQ (fun j=>bK (FX ps j)) 0 N,N,N,[.im (.int .i64 0)]⟩ w0 e w'):=by
 have hG:cV prog (qG prog) w0.heap.size w0:=(aJ _).w _ _;have hT:∀n d:Nat,TabOkW prog lG w0.heap.size w0:=fun _ _=>jK.w _ _
 refine SA ha hN2 fun a w hA => ?_
 refine jR aE (fun i=>xG (cQ (fun j=>kK (ps j)) 0 N) (oO (fun j=>bK (FX ps j)) (bK uB) N i) N N' i) N (fun i hi=>Hr hi hN2 (WE h i hi)) (.ex 0) (by simp) (xG (cQ (fun j=>kK (ps j)) 0 N) (cQ (fun j=>bK (FX ps j)) 0 N) N N' N) ?_ hA fun a w hA => ?_
 ·rw[←VE (fun j=>bK (FX ps j)) (bK uB) N];exact⟨_,_,_,_,hG,hT,aQk _ _ N N' N,fP (Nat.le_refl _),trivial⟩
 ·show (cB (cB (cB iS))).wp _ _ _ _;exact aD aE hT hG (aKv _ _ N N' N) trivial hA fun a w' hA=>QU (r:=⟨cQ (fun j=>bK (FX ps j)) 0 N,N,N,[.im (.int .i64 0)]⟩) (by kernel_rfl) hA
theorem aKy {w0:World} {args:List Value} {N N':Nat} {ps:Nat→lJ} (ha:bZ w0 [.v (.fl iG),.s (cQ (fun j=>kK (ps j)) 0 N) N N'] args) (hN2:N≤65536) (h:kJ ps N≠0):Good prog 101 (.many [.im (.slice none 0 0),.im (.int .i64 (kJ ps N))]) args w0:=by
 have hG:cV prog (qG prog) w0.heap.size w0:=(aJ _).w _ _;have hT:∀n d:Nat,TabOkW prog lG w0.heap.size w0:=fun _ _=>jK.w _ _
 obtain⟨j,hj,h1,h2,h3⟩:=Gs h;rw[h3];refine SA ha hN2 fun a w hA => ?_
 refine jR aE (fun i=>xG (cQ (fun j=>kK (ps j)) 0 N) (oO (fun j=>bK (FX ps j)) (bK uB) N i) N N' i) j (fun i hi=>Hr (by omega) hN2 (h1 i hi)) .rt (by simp) [.slot 4 (.im (.slice none 0 0)),.slot 5 (.im (.int .i64 (iH (ps j)).1))] ?_ hA fun a w hA => ?_
 ·exact⟨_,_,_,_,pK (x:=aQi j (ps j) _) (lH _) (fun _ _ _ h=>h.elim),fun _ _=>jK.w _ _,aZK _ _ N N' j (ps j),cJ hj,rfl,hj,nN (f:=fun j=>kK (ps j)) (c:=9) (fun j=>rfl) hj (Nat.zero_add _),tP h2,trivial⟩
 ·exact eF (l:=[.im (.slice none 0 0),.im (.int .i64 (iH (ps j)).1)]) (r:=.many [.im (.slice none 0 0),.im (.int .i64 (iH (ps j)).1)]) (by kernel_rfl) (by kernel_rfl) hA
def SM (pt:Nat→J1):Nat→J1
 | 0=>uB
 | i+1=>fI F1 (SM pt i) (pt i)
def JB (L:List At) (N N' i:Nat) (s:J1):List Fact:=[.row 0 false L,.slot 2 (.pt 2 0),.row 2 true (bK uB),.slot 3 (.pt 3 0),.row 3 true (bK s),.slot 6 (.sl 0 0 N N'),.slot 7 (.im (iI N)),.slot 8 (.im (iI i))]
def jF:Code:=(f102.body).getD .skip
def SO:Code:=pC (pC (cB (cA (cB (cB jF)))))
theorem aDM:jF=.seq (cA jF) (.seq (cA (cB jF)) (.seq (.seq (cA (cA (cB (cB jF)))) (.block 0 (.loop SO))) (cB (cB (cB jF))))):=by kernel_rfl
def aTB (L:List At) (N N':Nat):List Fact:=[.slot 0 (.sl 0 0 N N'),.row 0 false L,.slot 2 (.pt 2 0),.row 2 true (bK uB)]
def aTz (L:List At) (N N':Nat):List Fact:=[.slot 0 (.sl 0 0 N N'),.row 0 false L,.slot 2 (.pt 2 0),.row 2 true (bK uB),.slot 3 (.pt 3 0),.row 3 true (bK uB)]
theorem aTI (L:List At) (N N':Nat):aU prog (qG prog) f102.ntmps (DU fun _=>none) 40 (cA jF) (lC 0 [.s L N N']) (aTB L N N')=some ([],.nrm,aTB L N N'):=by kernel_rfl
theorem aTH (L:List At) (N N':Nat):aU prog (qG prog) f102.ntmps (DU fun _=>none) 40 (cA (cB jF)) (aTB L N N') (aTz L N N')=some ([],.nrm,aTz L N N'):=by kernel_rfl
theorem aTG (L:List At) (N N':Nat):aU prog (qG prog) f102.ntmps (DU fun _=>none) 40 (cA (cA (cB (cB jF)))) (aTz L N N') (JB L N N' 0 uB)=some ([],.nrm,JB L N N' 0 uB):=by kernel_rfl
def bAO (i:Nat) (p:J1):Ext:={ YR (fun _ _ _=>False)with idx:=assoc [(10,i)],ld:=assoc [(11,bK p)] }
theorem aTJ (L:List At) (N N' i:Nat) (s p:J1):aU prog (qX prog (bAO i p)) f102.ntmps (DU (assoc [(9,.bool true),(15,iI (i+1))])) 40 SO (JB L N N' i s) (JB L N N' (i+1) (fI F1 s p))=some ([aI .lss .i64 (Int.ofNat i) (Int.ofNat N)=some (.bool true),Int.ofNat i=Int.ofNat i,i<N,gU L (0+i*12) 12=some (bK p),aI .add .i64 (Int.ofNat i) 1=some (iI (i+1))],.nrm,JB L N N' (i+1) (fI F1 s p)):=by kernel_rfl
theorem aLx (L:List At) (N N' i:Nat) (s:J1):aU prog (qG prog) f102.ntmps (DU (assoc [(9,.bool false)])) 40 SO (JB L N N' i s) (JB L N N' i s)=some ([aI .lss .i64 (Int.ofNat i) (Int.ofNat N)=some (.bool false)],.ex 0,JB L N N' i s):=by kernel_rfl
theorem aDL (L:List At) (N N' i:Nat) (s:J1):aU prog (qG prog) f102.ntmps (DU fun _=>none) 40 (cB (cB (cB jF))) (JB L N N' i s) [.slot 2 (.pt 2 0),.row 2 true (bK s)]=some ([],.rt,[.slot 2 (.pt 2 0),.row 2 true (bK s)]):=by kernel_rfl
theorem Zj {w0:World} {args:List Value} {N N':Nat} {pt:Nat→J1} (ha:bZ w0 [.s (cQ (fun j=>bK (pt j)) 0 N) N N'] args) (hN2:N≤65536):Good prog 102 (.one (.fl (bK (SM pt N)))) args w0:=by
 have hG:cV prog (qG prog) w0.heap.size w0:=(aJ _).w _ _;have hT:∀n d:Nat,TabOkW prog lG w0.heap.size w0:=fun _ _=>jK.w _ _
 refine dL func102 (c:=jF) rfl ha (Nat.le_of_ble_eq_true (by kernel_rfl)) fun a w' hA => ?_
 rw[aDM];refine wp_seq (aD aE hT hG (aTI _ N N') trivial hA fun a w' hA => ?_);refine wp_seq (aD aE hT hG (aTH _ N N') trivial hA fun a w' hA => ?_);refine wp_seq (wp_seq (aD aE hT hG (aTG _ N N') trivial hA fun a w' hA => ?_));refine wp_block ?_;refine jR aE (fun i=>JB (cQ (fun j=>bK (pt j)) 0 N) N N' i (SM pt i)) N (fun i hi => ?_) (.ex 0) (by simp) (JB (cQ (fun j=>bK (pt j)) 0 N) N N' N (SM pt N)) ?_ hA fun a w' hA => ?_
 ·exact⟨_,_,_,_,pK (x:=bAO i (pt i)) (lH _) (fun _ _ _ h=>h.elim),hT,aTJ _ N N' i _ (pt i),cJ hi,rfl,hi,nN (f:=fun j=>bK (pt j)) (c:=12) (fun j=>rfl) hi (Nat.zero_add _),mO (k:=1) (by omega),trivial⟩
 ·exact⟨_,_,_,_,hG,hT,aLx _ N N' N _,fP (Nat.le_refl _),trivial⟩
 ·show (cB (cB (cB jF))).wp _ _ _ _;exact aD aE hT hG (aDL _ N N' N _) trivial hA fun a w' hA=>eF (l:=[.fl (bK (SM pt N))]) (r:=.one (.fl (bK (SM pt N)))) (by kernel_rfl) (by kernel_rfl) hA
def JF (pt:Nat→J1) (x:Nat→Nat) (N:Nat):J1:=ov1 (fun p=>RK pt x p N) (nY x N/4+1) (nY x N/4+1)
def aXP (pt:Nat→J1) (x:Nat→Nat) (N:Nat):kC
 | [.s LP n1 n2,.s LX n3 n4]=>some ([aA LP=aA (cQ (fun j=>bK (pt j)) 0 N),aA LX=aA (cQ (fun j=>[.q (x j)]) 0 N),n1=N,n3=N,N≤65536],.one (.fl (bK (JF pt x N))))
 | _=>none
theorem aPj {w:World} {pt:Nat→J1} {x:Nat→Nat} {N:Nat}:∀cs pre r,aXP pt x N cs=some (pre,r)→bC pre→∀(args:List Value),bZ w cs args→Good prog 191 r args w:=by
 intro cs pre r hg hq args ha;unfold aXP at hg;split at hg
 ·rename_i LP n1 n2 LX n3 n4;cases hg;obtain⟨h1,h2,rfl,rfl,h5,_⟩:=hq
  match args,ha with
  | [u,v],ha =>
   obtain⟨b1,o1,e1,hb1,hr1⟩:=ha.1;obtain⟨b2,o2,e2,hb2,hr2⟩:=ha.2.1;subst e1; subst e2;refine aCO h1 ⟨hb1,hr1⟩ (fun j hj=>⟨hb2,?_⟩) (Nat.le_refl _) h5 (by omega);rw[h2]at hr2;exact nW (f:=fun j=>[At.q (x j)]) (c:=4) (fun _=>rfl) hj hr2
  | [],ha=>exact ha.elim
  | [_],ha=>exact ha.2.elim
  | _::_::_::_,ha=>exact ha.2.2.elim
 ·cases hg
theorem aMr (LP LX:List At) (n1 n2 n3 n4 N:Nat) (pt:Nat→J1) (x:Nat→Nat):aO prog (qG prog) (fun _=>⟨fun _=>(lG).add 191 (aXP pt x N),fun _=>true,assoc [(7,.bool true)]⟩) f152 40 [.s LP n1 n2,.s LX n3 n4]=some ([aI .lss .i64 (Int.ofNat n1) 32=some (.bool true),aA LP=aA (cQ (fun j=>bK (pt j)) 0 N),aA LX=aA (cQ (fun j=>[.q (x j)]) 0 N),n1=N,n3=N,N≤65536],.one (.fl (bK (JF pt x N)))):=by kernel_rfl
def aXE (pt:Nat→J1) (x:Nat→Nat) (N:Nat):kC
 | [.s LP n1 n2,.s LX n3 n4]=>some ([aA LP=aA (cQ (fun j=>bK (pt j)) 0 N),aA LX=aA (cQ (fun j=>[.q (x j)]) 0 N),n1=N,n3=N,N<32],.one (.fl (bK (JF pt x N))))
 | _=>none
theorem aPb {w:World} {pt:Nat→J1} {x:Nat→Nat} {N:Nat}:∀cs pre r,aXE pt x N cs=some (pre,r)→bC pre→∀(args:List Value),bZ w cs args→Good prog 152 r args w:=by
 intro cs pre r hg hq args ha;unfold aXE at hg;split at hg
 ·rename_i LP n1 n2 LX n3 n4;cases hg;obtain⟨h1,h2,h3,h4,h5,_⟩:=hq;exact bQ aE (fun _ _=>TabOkW.add (jK.w _ _) func191 (by kernel_rfl) (by kernel_rfl) fun w hw=>aPj) ((aJ prog).w _ _) func152 (aMr LP LX n1 n2 n3 n4 N pt x) ⟨by rw[h3]; exact cJ (n:=32) h5,h1,h2,h3,h4,by omega,trivial⟩ ha
 ·cases hg
def aXS (ps:Nat→lJ) (N:Nat):List CA→Option (List Prop×FR)
 | [.v (.fl l),.s L n1 n2]=>some ([aA l=aA iG,aA L=aA (cQ (fun j=>kK (ps j)) 0 N),n1=N,N≤65536,kJ ps N=0],⟨cQ (fun j=>bK (FX ps j)) 0 N,N,N,[.im (.int .i64 0)]⟩)
 | _=>none
def aPn (ps:Nat→lJ) (N:Nat):kC
 | [.v (.fl l),.s L n1 n2]=>some ([aA l=aA iG,aA L=aA (cQ (fun j=>kK (ps j)) 0 N),n1=N,N≤65536,kJ ps N≠0],.many [.im (.slice none 0 0),.im (.int .i64 (kJ ps N))])
 | _=>none
theorem WX {w:World} {ps:Nat→lJ} {N n1 n2:Nat} {l L:List At} (h1:aA l=aA iG) (h2:aA L=aA (cQ (fun j=>kK (ps j)) 0 N)) {args:List Value} (ha:bZ w [.v (.fl l),.s L n1 n2] args):bZ w [.v (.fl iG),.s (cQ (fun j=>kK (ps j)) 0 N) n1 n2] args:=by
 match args,ha with
 | [u,v],ha =>
  obtain⟨b,o,e,hb,hr⟩:=ha.2.1;refine⟨?_,⟨b,o,e,hb,by rw[←h2]; exact hr⟩,trivial⟩;show u=.agg (aA iG).toArray;rw[←h1]; exact ha.1
 | [],ha=>exact ha.elim
 | [_],ha=>exact ha.2.elim
 | _::_::_::_,ha=>exact ha.2.2.elim
theorem aPl {ps:Nat→lJ} {N:Nat}:∀cs pre r,aXS ps N cs=some (pre,r)→bC pre→∀(args:List Value) (w:World),bZ w cs args→Calls prog 101 args.toArray w (fun e w'=>r.ok w e w'):=by
 intro cs pre r hg hq args w ha;unfold aXS at hg;split at hg
 ·cases hg;obtain⟨h1,h2,rfl,h4,h5,_⟩:=hq;exact aKw (WX h1 h2 ha) h4 h5
 ·cases hg
theorem Wg {ps:Nat→lJ} {N:Nat}:∀cs pre r,aPn ps N cs=some (pre,r)→bC pre→∀(args:List Value) (w:World),bZ w cs args→Good prog 101 r args w:=by
 intro cs pre r hg hq args w ha;unfold aPn at hg;split at hg
 ·cases hg;obtain⟨h1,h2,rfl,h4,h5,_⟩:=hq;exact aKy (WX h1 h2 ha) h4 h5
 ·cases hg
def aXo (pt:Nat→J1) (N:Nat):kC
 | [.s L n1 n2]=>some ([aA L=aA (cQ (fun j=>bK (pt j)) 0 N),n1=N,N≤65536],.one (.fl (bK (SM pt N))))
 | _=>none
theorem aOR {pt:Nat→J1} {N:Nat}:∀cs pre r,aXo pt N cs=some (pre,r)→bC pre→∀(args:List Value) (w:World),bZ w cs args→Good prog 102 r args w:=by
 intro cs pre r hg hq args w ha;unfold aXo at hg;split at hg
 ·rename_i L n1 n2;cases hg;obtain⟨h1,rfl,h3,_⟩:=hq;refine Zj (N':=n2) ?_ h3
  match args,ha with
  | [u],ha =>
   obtain⟨b,o,e,hb,hr⟩:=ha.1;exact⟨⟨b,o,e,hb,by rw[←h1]; exact hr⟩,trivial⟩
  | [],ha=>exact ha.elim
  | _::_::_,ha=>exact ha.2.elim
 ·cases hg
def aSP (ps:Nat→lJ) (N:Nat):Ext:={ YR (fun _ _ _=>False)with T2:=Fr0.add 101 (aXS ps N) }
theorem Rv (ps:Nat→lJ) (N:Nat) (w:World):cV prog (qX prog (aSP ps N)) w.heap.size w:=pK ((lH _).ad func101 aPl) fun _ _ _ h=>h.elim
theorem aAS (LG LX:List At) (N n2 n n4:Nat) (ps:Nat→lJ):aO prog (qG prog) (fun _=>⟨fun _=>(lG).add 101 (aPn ps N),fun _=>true,assoc [(15,.bool false),(19,.bool false),(29,.bool true)]⟩) f96 60 [.v (.fl iG),.s LG N n2,.s LX n n4]=some ([aI .neq .i64 (Int.ofNat N) (Int.ofNat n)=some (.bool false),aI .gtr .i64 (Int.ofNat N) 65536=some (.bool false),aA iG=aA iG,aA LG=aA (cQ (fun j=>kK (ps j)) 0 N),N=N,N≤65536,kJ ps N≠0,aI .neq .i64 (kJ ps N) 0=some (.bool true)],.many [.fl (gH (some (F1.zero,F1.zero))),.im (.int .i64 (kJ ps N))]):=by kernel_rfl
theorem aAR (LG LX:List At) (N n2 n n4:Nat) (ps:Nat→lJ) (x:Nat→Nat):aO prog (qX prog (aSP ps N)) (fun _=>⟨fun _=>(lG).add 152 (aXE (FX ps) x N),fun _=>true,assoc [(15,.bool false),(19,.bool false)]⟩) f96 60 [.v (.fl iG),.s LG N n2,.s LX n n4]=some ([aI .neq .i64 (Int.ofNat N) (Int.ofNat n)=some (.bool false),aI .gtr .i64 (Int.ofNat N) 65536=some (.bool false),aA iG=aA iG,aA LG=aA (cQ (fun j=>kK (ps j)) 0 N),N=N,N≤65536,kJ ps N=0,aA (cQ (fun j=>bK (FX ps j)) 0 N)=aA (cQ (fun j=>bK (FX ps j)) 0 N),aA LX=aA (cQ (fun j=>[.q (x j)]) 0 N),N=N,n=N,N<32],.many [.fl (gH (fQ F1 cF (JF (FX ps) x N))),.im (.int .i64 0)]):=by kernel_rfl
theorem aAx (LG:List At) (N n2:Nat) (ps:Nat→lJ):aO prog (qG prog) (fun _=>⟨fun _=>(lG).add 101 (aPn ps N),fun _=>true,assoc [(11,.bool false),(20,.bool true)]⟩) f48 60 [.v (.fl iG),.s LG N n2]=some ([aI .gtr .i64 (Int.ofNat N) 65536=some (.bool false),aA iG=aA iG,aA LG=aA (cQ (fun j=>kK (ps j)) 0 N),N=N,N≤65536,kJ ps N≠0,aI .neq .i64 (kJ ps N) 0=some (.bool true)],.many [.fl (gH (some (F1.zero,F1.zero))),.im (.int .i64 (kJ ps N))]):=by kernel_rfl
theorem aAw (LG:List At) (N n2:Nat) (ps:Nat→lJ):aO prog (qX prog (aSP ps N)) (fun _=>⟨fun _=>(lG).add 102 (aXo (FX ps) N),fun _=>true,assoc [(11,.bool false)]⟩) f48 60 [.v (.fl iG),.s LG N n2]=some ([aI .gtr .i64 (Int.ofNat N) 65536=some (.bool false),aA iG=aA iG,aA LG=aA (cQ (fun j=>kK (ps j)) 0 N),N=N,N≤65536,kJ ps N=0,aA (cQ (fun j=>bK (FX ps j)) 0 N)=aA (cQ (fun j=>bK (FX ps j)) 0 N),N=N,N≤65536],.many [.fl (gH (fQ F1 cF (SM (FX ps) N))),.im (.int .i64 0)]):=by kernel_rfl
def rC (ps:Nat→lJ) (x:Nat→Nat) (N:Nat):Pt Fq×Int:=if kJ ps N≠0 then (some (F1.zero,F1.zero),kJ ps N)else (fQ F1 cF (JF (FX ps) x N),0)
theorem aCj {w0:World} {args:List Value} {LG LX:List At} {N n2 n4:Nat} {ps:Nat→lJ} {x:Nat→Nat} (h1:aA LG=aA (cQ (fun j=>kK (ps j)) 0 N)) (h2:aA LX=aA (cQ (fun j=>[.q (x j)]) 0 N)) (hN:N<32) (ha:bZ w0 [.v (.fl iG),.s LG N n2,.s LX N n4] args):Good prog 96 (.many [.fl (gH (rC ps x N).1),.im (.int .i64 (rC ps x N).2)]) args w0:=by
 have g1:aI .neq .i64 (Int.ofNat N) (Int.ofNat N)=some (.bool false):=by rw[aGZ,decide_eq_false (by simp)]
 have g2:aI .gtr .i64 (Int.ofNat N) 65536=some (.bool false):=by
  have:=EM (i:=N) (n:=65536);rw[decide_eq_false (by omega)]at this;exact this
 unfold rC
 by_cases h:kJ ps N=0
 ·rw[if_neg (fun q=>q h)];exact bQ aE (fun _ _=>TabOkW.add (jK.w _ _) func152 (by kernel_rfl) (by kernel_rfl) fun w hw=>aPb) (Rv ps N w0) func96 (aAR LG LX N n2 N n4 ps x) ⟨g1,g2,rfl,h1,rfl,by omega,h,rfl,h2,rfl,rfl,hN,trivial⟩ ha
 ·rw[if_pos h];exact bQ aE (fun _ _=>(jK.ad func101 Wg).w _ _) ((aJ prog).w _ _) func96 (aAS LG LX N n2 N n4 ps) ⟨g1,g2,rfl,h1,rfl,by omega,h,tP h,trivial⟩ ha
def zU (ps:Nat→lJ) (N:Nat):Pt Fq×Int:=if kJ ps N≠0 then (some (F1.zero,F1.zero),kJ ps N)else (fQ F1 cF (SM (FX ps) N),0)
theorem Zu {w0:World} {args:List Value} {LG:List At} {N n2:Nat} {ps:Nat→lJ} (h1:aA LG=aA (cQ (fun j=>kK (ps j)) 0 N)) (hN:N≤65536) (ha:bZ w0 [.v (.fl iG),.s LG N n2] args):Good prog 48 (.many [.fl (gH (zU ps N).1),.im (.int .i64 (zU ps N).2)]) args w0:=by
 have g2:aI .gtr .i64 (Int.ofNat N) 65536=some (.bool false):=by
  have:=EM (i:=N) (n:=65536);rw[decide_eq_false (by omega)]at this;exact this
 unfold zU
 by_cases h:kJ ps N=0
 ·rw[if_neg (fun q=>q h)];exact bQ aE (fun _ _=>(jK.ad func102 aOR).w _ _) (Rv ps N w0) func48 (aAw LG N n2 ps) ⟨g2,rfl,h1,rfl,hN,h,rfl,rfl,hN,trivial⟩ ha
 ·rw[if_pos h];exact bQ aE (fun _ _=>(jK.ad func101 Wg).w _ _) ((aJ prog).w _ _) func48 (aAx LG N n2 ps) ⟨g2,rfl,h1,rfl,hN,h,tP h,trivial⟩ ha
def fR (p:iK):Int×J2:=pB p.1 p.2.1 p.2.2
def kI (ps:Nat→iK):Nat→Int
 | 0=>0
 | i+1=>if kI ps i≠0 then kI ps i else (fR (ps i)).1
theorem WD {ps:Nat→iK}:∀{N:Nat},kI ps N=0→∀j,j<N→(fR (ps j)).1=0
 | N+1,h,j,hj=>by
  unfold kI at h
  by_cases h0:kI ps N=0
  ·rw[if_neg (fun q=>q h0)]at h
   by_cases e:j=N
   ·rw[e]; exact h
   ·exact WD h0 j (by omega)
  ·rw[if_pos h0]at h; exact (h0 h).elim
theorem Gr {ps:Nat→iK}:∀{N:Nat},kI ps N≠0→∃j,j<N∧(∀k,k<j→(fR (ps k)).1=0)∧(fR (ps j)).1≠0∧kI ps N=(fR (ps j)).1
 | 0,h=>(h rfl).elim
 | N+1,h=>by
  unfold kI at h ⊢
  by_cases h0:kI ps N=0
  ·rw[if_neg (fun q=>q h0)]at h ⊢;exact⟨N,by omega,fun k hk=>WD h0 k hk,h,rfl⟩
  ·rw[if_pos h0];obtain⟨j,h1,h2,h3,h4⟩:=Gr h0;exact⟨j,by omega,h2,h3,h4⟩
def FW (ps:Nat→iK) (j:Nat):J2:=(fR (ps j)).2
def xF (LG Z:List At) (N N' i:Nat):List Fact:=[.slot 1 (.sl 1 0 N N'),.row 1 false LG,.slot 2 (.pt 2 0),.row 2 true gA,.slot 6 (.sl 12 0 N N),.row 12 true Z,.slot 14 (.im (iI N)),.slot 15 (.im (iI i))]
def aZz (LG:List At) (N N':Nat):List Fact:=[.slot 1 (.sl 1 0 N N'),.row 1 false LG,.slot 2 (.pt 2 0),.row 2 true gA]
def aZx (LG Z:List At) (N N':Nat):List Fact:=[.slot 1 (.sl 1 0 N N'),.row 1 false LG,.slot 2 (.pt 2 0),.row 2 true gA,.slot 6 (.sl 12 0 N N),.row 12 true Z]
def iR:Code:=(f105.body).getD .skip
def wX:Code:=pC (pC (cB (cA (cB (cB iR)))))
theorem aKt:iR=.seq (cA iR) (.seq (cA (cB iR)) (.seq (.seq (cA (cA (cB (cB iR)))) (.block 0 (.loop wX))) (cB (cB (cB iR))))):=by kernel_rfl
def DT (num:Nat→Option Value) (_:Nat):Cfg:=⟨fun _=>lD,fun _=>true,num⟩
theorem aZD (LG:List At) (N N':Nat):aU prog (qG prog) f105.ntmps (DT fun _=>none) 40 (cA iR) (lC 0 [.v (.fl gA),.s LG N N']) (aZz LG N N')=some ([],.nrm,aZz LG N N'):=by kernel_rfl
def aSp (N:Nat) (Z:List At):Ext:={ YR (fun _ _ _=>False)with mks:=assoc [(12,(N,Z))] }
theorem aZC (LG Z:List At) (N N':Nat):aU prog (qX prog (aSp N Z)) f105.ntmps (DT fun _=>none) 40 (cA (cB iR)) (aZz LG N N') (aZx LG Z N N')=some ([∃e,∀w:World,(Instr.makeSlice 167 (iI N) (iI N)).run prog w=.ok (.slice (some ⟨w.heap.size,0,none⟩) N N) (w.alloc (.cells (aA Z).toArray e))],.nrm,aZx LG Z N N'):=by kernel_rfl
theorem aZB (LG Z:List At) (N N':Nat):aU prog (qG prog) f105.ntmps (DT fun _=>none) 40 (cA (cA (cB (cB iR)))) (aZx LG Z N N') (xF LG Z N N' 0)=some ([],.nrm,xF LG Z N N' 0):=by kernel_rfl
def aQh (i:Nat) (p:iK) (Z':List At):Ext:={ YR (fun _ _ _=>False)with idx:=assoc [(23,i),(34,i)],ld:=assoc [(24,gN p)],st:=assoc [(34,Z')] }
theorem aZE (LG Z Z':List At) (N N' i:Nat) (p:iK):aU prog (qX prog (aQh i p Z')) f105.ntmps (DT (assoc [(16,.bool true),(29,.bool false),(35,iI (i+1))])) 60 wX (xF LG Z N N' i) (xF LG Z' N N' (i+1))=some ([aI .lss .i64 (Int.ofNat i) (Int.ofNat N)=some (.bool true),Int.ofNat i=Int.ofNat i,i<N,gU LG (0+i*17) 17=some (gN p),aI .neq .i64 (fR p).1 0=some (.bool false),Int.ofNat i=Int.ofNat i,i<N,put Z (0+i*24) (bJ (fR p).2)=some Z',aI .add .i64 (Int.ofNat i) 1=some (iI (i+1))],.nrm,xF LG Z' N N' (i+1)):=by kernel_rfl
theorem aZF (LG Z:List At) (N N' i:Nat) (p:iK):aU prog (qX prog (aQh i p Z)) f105.ntmps (DT (assoc [(16,.bool true),(29,.bool true)])) 60 wX (xF LG Z N N' i) [.slot 4 (.im (.slice none 0 0)),.slot 5 (.im (.int .i64 (fR p).1))]=some ([aI .lss .i64 (Int.ofNat i) (Int.ofNat N)=some (.bool true),Int.ofNat i=Int.ofNat i,i<N,gU LG (0+i*17) 17=some (gN p),aI .neq .i64 (fR p).1 0=some (.bool true)],.rt,[.slot 4 (.im (.slice none 0 0)),.slot 5 (.im (.int .i64 (fR p).1))]):=by kernel_rfl
theorem aQj (LG Z:List At) (N N' i:Nat):aU prog (qG prog) f105.ntmps (DT (assoc [(16,.bool false)])) 40 wX (xF LG Z N N' i) (xF LG Z N N' i)=some ([aI .lss .i64 (Int.ofNat i) (Int.ofNat N)=some (.bool false)],.ex 0,xF LG Z N N' i):=by kernel_rfl
theorem aKr (LG Z:List At) (N N' i:Nat):aU prog (qG prog) f105.ntmps (DT fun _=>none) 40 (cB (cB (cB iR))) (xF LG Z N N' i) [.slot 4 (.sl 12 0 N N),.row 12 true Z,.slot 5 (.im (.int .i64 0))]=some ([],.rt,[.slot 4 (.sl 12 0 N N),.row 12 true Z,.slot 5 (.im (.int .i64 0))]):=by kernel_rfl
theorem aJk:vO (aA (bJ uA)) (.int .u64 0):=by unfold vO; kernel_rfl
theorem RZ {w0:World} {args:List Value} {N N':Nat} {ps:Nat→iK} (ha:bZ w0 [.v (.fl gA),.s (cQ (fun j=>gN (ps j)) 0 N) N N'] args) (hN2:N≤65536) {R:Ending→World→Prop}
  (h:∀a w,Holds f105.ntmps w0.heap.size w0 (xF (cQ (fun j=>gN (ps j)) 0 N) (oO (fun j=>bJ (FW ps j)) (bJ uA) N 0) N N' 0) a w→(Code.loop wX).wp prog (fun e a w=>match e with | .exit 0=>(cB (cB (cB iR))).wp prog (bodyPost prog f105 R) a w | .ret=>bodyPost prog f105 R .ret a w|_=>False) a w):Calls prog 105 args.toArray w0 R:=by
 have hG:cV prog (qG prog) w0.heap.size w0:=(aJ _).w _ _;have hT:∀n d:Nat,TabOkW prog lD w0.heap.size w0:=fun _ _=>jJ.w _ _
 refine dL func105 (c:=iR) rfl ha (Nat.le_of_ble_eq_true (by kernel_rfl)) fun a w' hA => ?_
 rw[aKt];refine wp_seq (aD aE hT hG (aZD _ N N') trivial hA fun a w' hA => ?_);refine wp_seq (aD aE hT (pK (x:=aSp N (cQ (fun _=>bJ uA) 0 N)) (lH _) fun _ _ _ h=>h.elim) (aZC _ (cQ (fun _=>bJ uA) 0 N) N N') ⟨Vo (t:=167) (e:=171) (z:=bJ uA) (v:=.int .u64 0) (n:=24) (by8:=192) (by kernel_rfl) (by kernel_rfl) rfl aJk (by omega) (by omega) (by omega),trivial⟩ hA fun a w' hA => ?_);refine wp_seq (wp_seq (aD aE hT hG (aZB _ _ N N') trivial hA fun a w' hA => ?_));refine wp_block ?_;rw[←VF (fun j=>bJ (FW ps j))]at hA;refine Code.wp_mono (fun e a w h => ?_) (h a w' hA);cases e with
 | exit id =>
  cases id with
  | zero=>exact h
  | succ k=>exact h.elim
 | ret=>exact h
 | _=>exact h.elim
theorem Hq {w0:World} {N N':Nat} {ps:Nat→iK} {i:Nat} (hi:i<N) (hN2:N≤65536) (h:(fR (ps i)).1=0):Ok prog w0.heap.size w0 f105.ntmps wX (xF (cQ (fun j=>gN (ps j)) 0 N) (oO (fun j=>bJ (FW ps j)) (bJ uA) N i) N N' i) .nrm (xF (cQ (fun j=>gN (ps j)) 0 N) (oO (fun j=>bJ (FW ps j)) (bJ uA) N (i+1)) N N' (i+1)) :=
 ⟨_,_,_,_,pK (x:=aQh i (ps i) _) (lH _) (fun _ _ _ h=>h.elim),fun _ _=>jJ.w _ _,aZE _ _ (oO (fun j=>bJ (FW ps j)) (bJ uA) N (i+1)) N N' i (ps i),cJ hi,rfl,hi,nN (f:=fun j=>gN (ps j)) (c:=17) (fun j=>rfl) hi (Nat.zero_add _),AN h,rfl,hi,zY (f:=fun j=>bJ (FW ps j)) (c:=24) (fun j=>rfl) rfl hi (Nat.zero_add _),mO (k:=1) (by omega),trivial⟩
theorem aKs {w0:World} {args:List Value} {N N':Nat} {ps:Nat→iK} (ha:bZ w0 [.v (.fl gA),.s (cQ (fun j=>gN (ps j)) 0 N) N N'] args) (hN2:N≤65536) (h:kI ps N=0):Calls prog 105 args.toArray w0 (fun e w'=>FR.ok ⟨cQ (fun j=>bJ (FW ps j)) 0 N,N,N,[.im (.int .i64 0)]⟩ w0 e w'):=by
 have hG:cV prog (qG prog) w0.heap.size w0:=(aJ _).w _ _;have hT:∀n d:Nat,TabOkW prog lD w0.heap.size w0:=fun _ _=>jJ.w _ _
 refine RZ ha hN2 fun a w hA => ?_
 refine jR aE (fun i=>xF (cQ (fun j=>gN (ps j)) 0 N) (oO (fun j=>bJ (FW ps j)) (bJ uA) N i) N N' i) N (fun i hi=>Hq hi hN2 (WD h i hi)) (.ex 0) (by simp) (xF (cQ (fun j=>gN (ps j)) 0 N) (cQ (fun j=>bJ (FW ps j)) 0 N) N N' N) ?_ hA fun a w hA => ?_
 ·rw[←VE (fun j=>bJ (FW ps j)) (bJ uA) N];exact⟨_,_,_,_,hG,hT,aQj _ _ N N' N,fP (Nat.le_refl _),trivial⟩
 ·show (cB (cB (cB iR))).wp _ _ _ _;exact aD aE hT hG (aKr _ _ N N' N) trivial hA fun a w' hA=>QU (r:=⟨cQ (fun j=>bJ (FW ps j)) 0 N,N,N,[.im (.int .i64 0)]⟩) (by kernel_rfl) hA
theorem aKu {w0:World} {args:List Value} {N N':Nat} {ps:Nat→iK} (ha:bZ w0 [.v (.fl gA),.s (cQ (fun j=>gN (ps j)) 0 N) N N'] args) (hN2:N≤65536) (h:kI ps N≠0):Good prog 105 (.many [.im (.slice none 0 0),.im (.int .i64 (kI ps N))]) args w0:=by
 have hG:cV prog (qG prog) w0.heap.size w0:=(aJ _).w _ _;have hT:∀n d:Nat,TabOkW prog lD w0.heap.size w0:=fun _ _=>jJ.w _ _
 obtain⟨j,hj,h1,h2,h3⟩:=Gr h;rw[h3];refine RZ ha hN2 fun a w hA => ?_
 refine jR aE (fun i=>xF (cQ (fun j=>gN (ps j)) 0 N) (oO (fun j=>bJ (FW ps j)) (bJ uA) N i) N N' i) j (fun i hi=>Hq (by omega) hN2 (h1 i hi)) .rt (by simp) [.slot 4 (.im (.slice none 0 0)),.slot 5 (.im (.int .i64 (fR (ps j)).1))] ?_ hA fun a w hA => ?_
 ·exact⟨_,_,_,_,pK (x:=aQh j (ps j) _) (lH _) (fun _ _ _ h=>h.elim),fun _ _=>jJ.w _ _,aZF _ _ N N' j (ps j),cJ hj,rfl,hj,nN (f:=fun j=>gN (ps j)) (c:=17) (fun j=>rfl) hj (Nat.zero_add _),tP h2,trivial⟩
 ·exact eF (l:=[.im (.slice none 0 0),.im (.int .i64 (fR (ps j)).1)]) (r:=.many [.im (.slice none 0 0),.im (.int .i64 (fR (ps j)).1)]) (by kernel_rfl) (by kernel_rfl) hA
def SL (pt:Nat→J2):Nat→J2
 | 0=>uA
 | i+1=>fI F2 (SL pt i) (pt i)
def JA (L:List At) (N N' i:Nat) (s:J2):List Fact:=[.row 0 false L,.slot 2 (.pt 2 0),.row 2 true (bJ uA),.slot 3 (.pt 3 0),.row 3 true (bJ s),.slot 6 (.sl 0 0 N N'),.slot 7 (.im (iI N)),.slot 8 (.im (iI i))]
def jE:Code:=(f106.body).getD .skip
def SN:Code:=pC (pC (cB (cA (cB (cB jE)))))
theorem aDK:jE=.seq (cA jE) (.seq (cA (cB jE)) (.seq (.seq (cA (cA (cB (cB jE)))) (.block 0 (.loop SN))) (cB (cB (cB jE))))):=by kernel_rfl
def aTA (L:List At) (N N':Nat):List Fact:=[.slot 0 (.sl 0 0 N N'),.row 0 false L,.slot 2 (.pt 2 0),.row 2 true (bJ uA)]
def aTy (L:List At) (N N':Nat):List Fact:=[.slot 0 (.sl 0 0 N N'),.row 0 false L,.slot 2 (.pt 2 0),.row 2 true (bJ uA),.slot 3 (.pt 3 0),.row 3 true (bJ uA)]
theorem aTE (L:List At) (N N':Nat):aU prog (qG prog) f106.ntmps (DT fun _=>none) 40 (cA jE) (lC 0 [.s L N N']) (aTA L N N')=some ([],.nrm,aTA L N N'):=by kernel_rfl
theorem aTD (L:List At) (N N':Nat):aU prog (qG prog) f106.ntmps (DT fun _=>none) 40 (cA (cB jE)) (aTA L N N') (aTy L N N')=some ([],.nrm,aTy L N N'):=by kernel_rfl
theorem aTC (L:List At) (N N':Nat):aU prog (qG prog) f106.ntmps (DT fun _=>none) 40 (cA (cA (cB (cB jE)))) (aTy L N N') (JA L N N' 0 uA)=some ([],.nrm,JA L N N' 0 uA):=by kernel_rfl
def bAN (i:Nat) (p:J2):Ext:={ YR (fun _ _ _=>False)with idx:=assoc [(10,i)],ld:=assoc [(11,bJ p)] }
theorem aTF (L:List At) (N N' i:Nat) (s p:J2):aU prog (qX prog (bAN i p)) f106.ntmps (DT (assoc [(9,.bool true),(15,iI (i+1))])) 40 SN (JA L N N' i s) (JA L N N' (i+1) (fI F2 s p))=some ([aI .lss .i64 (Int.ofNat i) (Int.ofNat N)=some (.bool true),Int.ofNat i=Int.ofNat i,i<N,gU L (0+i*24) 24=some (bJ p),aI .add .i64 (Int.ofNat i) 1=some (iI (i+1))],.nrm,JA L N N' (i+1) (fI F2 s p)):=by kernel_rfl
theorem aLw (L:List At) (N N' i:Nat) (s:J2):aU prog (qG prog) f106.ntmps (DT (assoc [(9,.bool false)])) 40 SN (JA L N N' i s) (JA L N N' i s)=some ([aI .lss .i64 (Int.ofNat i) (Int.ofNat N)=some (.bool false)],.ex 0,JA L N N' i s):=by kernel_rfl
theorem aDJ (L:List At) (N N' i:Nat) (s:J2):aU prog (qG prog) f106.ntmps (DT fun _=>none) 40 (cB (cB (cB jE))) (JA L N N' i s) [.slot 2 (.pt 2 0),.row 2 true (bJ s)]=some ([],.rt,[.slot 2 (.pt 2 0),.row 2 true (bJ s)]):=by kernel_rfl
theorem Zh {w0:World} {args:List Value} {N N':Nat} {pt:Nat→J2} (ha:bZ w0 [.s (cQ (fun j=>bJ (pt j)) 0 N) N N'] args) (hN2:N≤65536):Good prog 106 (.one (.fl (bJ (SL pt N)))) args w0:=by
 have hG:cV prog (qG prog) w0.heap.size w0:=(aJ _).w _ _;have hT:∀n d:Nat,TabOkW prog lD w0.heap.size w0:=fun _ _=>jJ.w _ _
 refine dL func106 (c:=jE) rfl ha (Nat.le_of_ble_eq_true (by kernel_rfl)) fun a w' hA => ?_
 rw[aDK];refine wp_seq (aD aE hT hG (aTE _ N N') trivial hA fun a w' hA => ?_);refine wp_seq (aD aE hT hG (aTD _ N N') trivial hA fun a w' hA => ?_);refine wp_seq (wp_seq (aD aE hT hG (aTC _ N N') trivial hA fun a w' hA => ?_));refine wp_block ?_;refine jR aE (fun i=>JA (cQ (fun j=>bJ (pt j)) 0 N) N N' i (SL pt i)) N (fun i hi => ?_) (.ex 0) (by simp) (JA (cQ (fun j=>bJ (pt j)) 0 N) N N' N (SL pt N)) ?_ hA fun a w' hA => ?_
 ·exact⟨_,_,_,_,pK (x:=bAN i (pt i)) (lH _) (fun _ _ _ h=>h.elim),hT,aTF _ N N' i _ (pt i),cJ hi,rfl,hi,nN (f:=fun j=>bJ (pt j)) (c:=24) (fun j=>rfl) hi (Nat.zero_add _),mO (k:=1) (by omega),trivial⟩
 ·exact⟨_,_,_,_,hG,hT,aLw _ N N' N _,fP (Nat.le_refl _),trivial⟩
 ·show (cB (cB (cB jE))).wp _ _ _ _;exact aD aE hT hG (aDJ _ N N' N _) trivial hA fun a w' hA=>eF (l:=[.fl (bJ (SL pt N))]) (r:=.one (.fl (bJ (SL pt N)))) (by kernel_rfl) (by kernel_rfl) hA
def JE (pt:Nat→J2) (x:Nat→Nat) (N:Nat):J2:=ov2 (fun p=>RJ pt x p N) (nY x N/4+1) (nY x N/4+1)
def aXO (pt:Nat→J2) (x:Nat→Nat) (N:Nat):kC
 | [.s LP n1 n2,.s LX n3 n4]=>some ([aA LP=aA (cQ (fun j=>bJ (pt j)) 0 N),aA LX=aA (cQ (fun j=>[.q (x j)]) 0 N),n1=N,n3=N,N≤65536],.one (.fl (bJ (JE pt x N))))
 | _=>none
theorem aPi {w:World} {pt:Nat→J2} {x:Nat→Nat} {N:Nat}:∀cs pre r,aXO pt x N cs=some (pre,r)→bC pre→∀(args:List Value),bZ w cs args→Good prog 193 r args w:=by
 intro cs pre r hg hq args ha;unfold aXO at hg;split at hg
 ·rename_i LP n1 n2 LX n3 n4;cases hg;obtain⟨h1,h2,rfl,rfl,h5,_⟩:=hq
  match args,ha with
  | [u,v],ha =>
   obtain⟨b1,o1,e1,hb1,hr1⟩:=ha.1;obtain⟨b2,o2,e2,hb2,hr2⟩:=ha.2.1;subst e1; subst e2;refine aCN h1 ⟨hb1,hr1⟩ (fun j hj=>⟨hb2,?_⟩) (Nat.le_refl _) h5 (by omega);rw[h2]at hr2;exact nW (f:=fun j=>[At.q (x j)]) (c:=4) (fun _=>rfl) hj hr2
  | [],ha=>exact ha.elim
  | [_],ha=>exact ha.2.elim
  | _::_::_::_,ha=>exact ha.2.2.elim
 ·cases hg
theorem aMq (LP LX:List At) (n1 n2 n3 n4 N:Nat) (pt:Nat→J2) (x:Nat→Nat):aO prog (qG prog) (fun _=>⟨fun _=>(lD).add 193 (aXO pt x N),fun _=>true,assoc [(7,.bool true)]⟩) f153 40 [.s LP n1 n2,.s LX n3 n4]=some ([aI .lss .i64 (Int.ofNat n1) 32=some (.bool true),aA LP=aA (cQ (fun j=>bJ (pt j)) 0 N),aA LX=aA (cQ (fun j=>[.q (x j)]) 0 N),n1=N,n3=N,N≤65536],.one (.fl (bJ (JE pt x N)))):=by kernel_rfl
def aXD (pt:Nat→J2) (x:Nat→Nat) (N:Nat):kC
 | [.s LP n1 n2,.s LX n3 n4]=>some ([aA LP=aA (cQ (fun j=>bJ (pt j)) 0 N),aA LX=aA (cQ (fun j=>[.q (x j)]) 0 N),n1=N,n3=N,N<32],.one (.fl (bJ (JE pt x N))))
 | _=>none
theorem aPa {w:World} {pt:Nat→J2} {x:Nat→Nat} {N:Nat}:∀cs pre r,aXD pt x N cs=some (pre,r)→bC pre→∀(args:List Value),bZ w cs args→Good prog 153 r args w:=by
 intro cs pre r hg hq args ha;unfold aXD at hg;split at hg
 ·rename_i LP n1 n2 LX n3 n4;cases hg;obtain⟨h1,h2,h3,h4,h5,_⟩:=hq;exact bQ aE (fun _ _=>TabOkW.add (jJ.w _ _) func193 (by kernel_rfl) (by kernel_rfl) fun w hw=>aPi) ((aJ prog).w _ _) func153 (aMq LP LX n1 n2 n3 n4 N pt x) ⟨by rw[h3]; exact cJ (n:=32) h5,h1,h2,h3,h4,by omega,trivial⟩ ha
 ·cases hg
def aXR (ps:Nat→iK) (N:Nat):List CA→Option (List Prop×FR)
 | [.v (.fl l),.s L n1 n2]=>some ([aA l=aA gA,aA L=aA (cQ (fun j=>gN (ps j)) 0 N),n1=N,N≤65536,kI ps N=0],⟨cQ (fun j=>bJ (FW ps j)) 0 N,N,N,[.im (.int .i64 0)]⟩)
 | _=>none
def aPm (ps:Nat→iK) (N:Nat):kC
 | [.v (.fl l),.s L n1 n2]=>some ([aA l=aA gA,aA L=aA (cQ (fun j=>gN (ps j)) 0 N),n1=N,N≤65536,kI ps N≠0],.many [.im (.slice none 0 0),.im (.int .i64 (kI ps N))])
 | _=>none
theorem WW {w:World} {ps:Nat→iK} {N n1 n2:Nat} {l L:List At} (h1:aA l=aA gA) (h2:aA L=aA (cQ (fun j=>gN (ps j)) 0 N)) {args:List Value} (ha:bZ w [.v (.fl l),.s L n1 n2] args):bZ w [.v (.fl gA),.s (cQ (fun j=>gN (ps j)) 0 N) n1 n2] args:=by
 match args,ha with
 | [u,v],ha =>
  obtain⟨b,o,e,hb,hr⟩:=ha.2.1;refine⟨?_,⟨b,o,e,hb,by rw[←h2]; exact hr⟩,trivial⟩;show u=.agg (aA gA).toArray;rw[←h1]; exact ha.1
 | [],ha=>exact ha.elim
 | [_],ha=>exact ha.2.elim
 | _::_::_::_,ha=>exact ha.2.2.elim
theorem aPk {ps:Nat→iK} {N:Nat}:∀cs pre r,aXR ps N cs=some (pre,r)→bC pre→∀(args:List Value) (w:World),bZ w cs args→Calls prog 105 args.toArray w (fun e w'=>r.ok w e w'):=by
 intro cs pre r hg hq args w ha;unfold aXR at hg;split at hg
 ·cases hg;obtain⟨h1,h2,rfl,h4,h5,_⟩:=hq;exact aKs (WW h1 h2 ha) h4 h5
 ·cases hg
theorem Wf {ps:Nat→iK} {N:Nat}:∀cs pre r,aPm ps N cs=some (pre,r)→bC pre→∀(args:List Value) (w:World),bZ w cs args→Good prog 105 r args w:=by
 intro cs pre r hg hq args w ha;unfold aPm at hg;split at hg
 ·cases hg;obtain⟨h1,h2,rfl,h4,h5,_⟩:=hq;exact aKu (WW h1 h2 ha) h4 h5
 ·cases hg
def aXn (pt:Nat→J2) (N:Nat):kC
 | [.s L n1 n2]=>some ([aA L=aA (cQ (fun j=>bJ (pt j)) 0 N),n1=N,N≤65536],.one (.fl (bJ (SL pt N))))
 | _=>none
theorem aOQ {pt:Nat→J2} {N:Nat}:∀cs pre r,aXn pt N cs=some (pre,r)→bC pre→∀(args:List Value) (w:World),bZ w cs args→Good prog 106 r args w:=by
 intro cs pre r hg hq args w ha;unfold aXn at hg;split at hg
 ·rename_i L n1 n2;cases hg;obtain⟨h1,rfl,h3,_⟩:=hq;refine Zh (N':=n2) ?_ h3
  match args,ha with
  | [u],ha =>
   obtain⟨b,o,e,hb,hr⟩:=ha.1;exact⟨⟨b,o,e,hb,by rw[←h1]; exact hr⟩,trivial⟩
  | [],ha=>exact ha.elim
  | _::_::_,ha=>exact ha.2.elim
 ·cases hg
def aSO (ps:Nat→iK) (N:Nat):Ext:={ YR (fun _ _ _=>False)with T2:=Fr0.add 105 (aXR ps N) }
theorem Ru (ps:Nat→iK) (N:Nat) (w:World):cV prog (qX prog (aSO ps N)) w.heap.size w:=pK ((lH _).ad func105 aPk) fun _ _ _ h=>h.elim
theorem aAQ (LG LX:List At) (N n2 n n4:Nat) (ps:Nat→iK):aO prog (qG prog) (fun _=>⟨fun _=>(lD).add 105 (aPm ps N),fun _=>true,assoc [(15,.bool false),(19,.bool false),(29,.bool true)]⟩) f98 60 [.v (.fl gA),.s LG N n2,.s LX n n4]=some ([aI .neq .i64 (Int.ofNat N) (Int.ofNat n)=some (.bool false),aI .gtr .i64 (Int.ofNat N) 65536=some (.bool false),aA gA=aA gA,aA LG=aA (cQ (fun j=>gN (ps j)) 0 N),N=N,N≤65536,kI ps N≠0,aI .neq .i64 (kI ps N) 0=some (.bool true)],.many [.fl (eI (some (F2.zero,F2.zero))),.im (.int .i64 (kI ps N))]):=by kernel_rfl
theorem aAP (LG LX:List At) (N n2 n n4:Nat) (ps:Nat→iK) (x:Nat→Nat):aO prog (qX prog (aSO ps N)) (fun _=>⟨fun _=>(lD).add 153 (aXD (FW ps) x N),fun _=>true,assoc [(15,.bool false),(19,.bool false)]⟩) f98 60 [.v (.fl gA),.s LG N n2,.s LX n n4]=some ([aI .neq .i64 (Int.ofNat N) (Int.ofNat n)=some (.bool false),aI .gtr .i64 (Int.ofNat N) 65536=some (.bool false),aA gA=aA gA,aA LG=aA (cQ (fun j=>gN (ps j)) 0 N),N=N,N≤65536,kI ps N=0,aA (cQ (fun j=>bJ (FW ps j)) 0 N)=aA (cQ (fun j=>bJ (FW ps j)) 0 N),aA LX=aA (cQ (fun j=>[.q (x j)]) 0 N),N=N,n=N,N<32],.many [.fl (eI (fQ F2 eD (JE (FW ps) x N))),.im (.int .i64 0)]):=by kernel_rfl
theorem aAv (LG:List At) (N n2:Nat) (ps:Nat→iK):aO prog (qG prog) (fun _=>⟨fun _=>(lD).add 105 (aPm ps N),fun _=>true,assoc [(11,.bool false),(20,.bool true)]⟩) f50 60 [.v (.fl gA),.s LG N n2]=some ([aI .gtr .i64 (Int.ofNat N) 65536=some (.bool false),aA gA=aA gA,aA LG=aA (cQ (fun j=>gN (ps j)) 0 N),N=N,N≤65536,kI ps N≠0,aI .neq .i64 (kI ps N) 0=some (.bool true)],.many [.fl (eI (some (F2.zero,F2.zero))),.im (.int .i64 (kI ps N))]):=by kernel_rfl
theorem aAu (LG:List At) (N n2:Nat) (ps:Nat→iK):aO prog (qX prog (aSO ps N)) (fun _=>⟨fun _=>(lD).add 106 (aXn (FW ps) N),fun _=>true,assoc [(11,.bool false)]⟩) f50 60 [.v (.fl gA),.s LG N n2]=some ([aI .gtr .i64 (Int.ofNat N) 65536=some (.bool false),aA gA=aA gA,aA LG=aA (cQ (fun j=>gN (ps j)) 0 N),N=N,N≤65536,kI ps N=0,aA (cQ (fun j=>bJ (FW ps j)) 0 N)=aA (cQ (fun j=>bJ (FW ps j)) 0 N),N=N,N≤65536],.many [.fl (eI (fQ F2 eD (SL (FW ps) N))),.im (.int .i64 0)]):=by kernel_rfl
def mI (ps:Nat→iK) (x:Nat→Nat) (N:Nat):Pt Q2×Int:=if kI ps N≠0 then (some (F2.zero,F2.zero),kI ps N)else (fQ F2 eD (JE (FW ps) x N),0)
theorem aCi {w0:World} {args:List Value} {LG LX:List At} {N n2 n4:Nat} {ps:Nat→iK} {x:Nat→Nat} (h1:aA LG=aA (cQ (fun j=>gN (ps j)) 0 N)) (h2:aA LX=aA (cQ (fun j=>[.q (x j)]) 0 N)) (hN:N<32) (ha:bZ w0 [.v (.fl gA),.s LG N n2,.s LX N n4] args):Good prog 98 (.many [.fl (eI (mI ps x N).1),.im (.int .i64 (mI ps x N).2)]) args w0:=by
 have g1:aI .neq .i64 (Int.ofNat N) (Int.ofNat N)=some (.bool false):=by rw[aGZ,decide_eq_false (by simp)]
 have g2:aI .gtr .i64 (Int.ofNat N) 65536=some (.bool false):=by
  have:=EM (i:=N) (n:=65536);rw[decide_eq_false (by omega)]at this;exact this
 unfold mI
 by_cases h:kI ps N=0
 ·rw[if_neg (fun q=>q h)];exact bQ aE (fun _ _=>TabOkW.add (jJ.w _ _) func153 (by kernel_rfl) (by kernel_rfl) fun w hw=>aPa) (Ru ps N w0) func98 (aAP LG LX N n2 N n4 ps x) ⟨g1,g2,rfl,h1,rfl,by omega,h,rfl,h2,rfl,rfl,hN,trivial⟩ ha
 ·rw[if_pos h];exact bQ aE (fun _ _=>(jJ.ad func105 Wf).w _ _) ((aJ prog).w _ _) func98 (aAQ LG LX N n2 N n4 ps) ⟨g1,g2,rfl,h1,rfl,by omega,h,tP h,trivial⟩ ha
def zT (ps:Nat→iK) (N:Nat):Pt Q2×Int:=if kI ps N≠0 then (some (F2.zero,F2.zero),kI ps N)else (fQ F2 eD (SL (FW ps) N),0)
theorem Zt {w0:World} {args:List Value} {LG:List At} {N n2:Nat} {ps:Nat→iK} (h1:aA LG=aA (cQ (fun j=>gN (ps j)) 0 N)) (hN:N≤65536) (ha:bZ w0 [.v (.fl gA),.s LG N n2] args):Good prog 50 (.many [.fl (eI (zT ps N).1),.im (.int .i64 (zT ps N).2)]) args w0:=by
 have g2:aI .gtr .i64 (Int.ofNat N) 65536=some (.bool false):=by
  have:=EM (i:=N) (n:=65536);rw[decide_eq_false (by omega)]at this;exact this
 unfold zT
 by_cases h:kI ps N=0
 ·rw[if_neg (fun q=>q h)];exact bQ aE (fun _ _=>(jJ.ad func106 aOQ).w _ _) (Ru ps N w0) func50 (aAu LG N n2 ps) ⟨g2,rfl,h1,rfl,hN,h,rfl,rfl,hN,trivial⟩ ha
 ·rw[if_pos h];exact bQ aE (fun _ _=>(jJ.ad func105 Wf).w _ _) ((aJ prog).w _ _) func50 (aAv LG N n2 ps) ⟨g2,rfl,h1,rfl,hN,h,tP h,trivial⟩ ha
def p2 {A:Type} (p q:A):Nat→A|0=>p|_+1=>q
def p3 {A:Type} (p q r:A):Nat→A|0=>p|1=>q|_+2=>r
def aXs (ps:Nat→lJ) (N:Nat):kC
 | [.v (.fl l),.s L n1 n2]=>some ([aA l=aA iG,aA L=aA (cQ (fun j=>kK (ps j)) 0 N),n1=N,N≤65536],.many [.fl (gH (zU ps N).1),.im (.int .i64 (zU ps N).2)])
 | _=>none
theorem aOT {ps:Nat→lJ} {N:Nat}:∀cs pre r,aXs ps N cs=some (pre,r)→bC pre→∀(args:List Value) (w:World),bZ w cs args→Good prog 48 r args w:=by
 intro cs pre r hg hq args w ha;unfold aXs at hg;split at hg
 ·cases hg;obtain⟨h1,h2,rfl,h4,_⟩:=hq;exact Zu rfl h4 (WX h1 h2 ha)
 ·cases hg
def aXH (ps:Nat→lJ) (x:Nat→Nat) (N:Nat):kC
 | [.v (.fl l),.s L n1 n2,.s X n3 n4]=>some ([aA l=aA iG,aA L=aA (cQ (fun j=>kK (ps j)) 0 N),aA X=aA (cQ (fun j=>[.q (x j)]) 0 N),n1=N,n3=N,N<32],.many [.fl (gH (rC ps x N).1),.im (.int .i64 (rC ps x N).2)])
 | _=>none
theorem aPd {ps:Nat→lJ} {x:Nat→Nat} {N:Nat}:∀cs pre r,aXH ps x N cs=some (pre,r)→bC pre→∀(args:List Value) (w:World),bZ w cs args→Good prog 96 r args w:=by
 intro cs pre r hg hq args w ha;unfold aXH at hg;split at hg
 ·rename_i l L n1 n2 X n3 n4;cases hg;obtain⟨h1,h2,h3,rfl,rfl,h6,_⟩:=hq;refine aCj (LG:=L) (LX:=X) (n2:=n2) (n4:=n4) h2 h3 h6 ?_
  match args,ha with
  | [u,v,t],ha =>
   refine⟨?_,ha.2.1,ha.2.2.1,trivial⟩;show u=.agg (aA iG).toArray;rw[←h1]; exact ha.1
  | [],ha=>exact ha.elim
  | [_],ha=>exact ha.2.elim
  | [_,_],ha=>exact ha.2.2.elim
  | _::_::_::_::_,ha=>exact ha.2.2.2.elim
 ·cases hg
theorem aBp (p q:lJ):aO prog (qG prog) (fun _=>⟨fun s=>(tL true).add 48 (aXs (p2 p q) 2),fun s=>true,fun _=>none⟩) f18 60 [.v (.fl (kK p)),.v (.fl (kK q))]=some ([aA iG=aA iG,aA (kK p++kK q)=aA (cQ (fun j=>kK (p2 p q j)) 0 2),2=2,2≤65536],.many [.fl (gH (zU (p2 p q) 2).1),.im (.int .i64 (zU (p2 p q) 2).2)]):=by kernel_rfl
theorem aBn (p:lJ) (n:Nat):aO prog (qG prog) (fun _=>⟨fun s=>(tL true).add 96 (aXH (fun _=>p) (fun _=>n) 1),fun s=>true,fun _=>none⟩) f44 60 [.v (.fl (kK p)),.v (.fl [.q n])]=some ([aA iG=aA iG,aA (kK p)=aA (cQ (fun j=>kK p) 0 1),aA [.q n]=aA (cQ (fun j=>[At.q n]) 0 1),1=1,1=1,1<32],.many [.fl (gH (rC (fun _=>p) (fun _=>n) 1).1),.im (.int .i64 (rC (fun _=>p) (fun _=>n) 1).2)]):=by kernel_rfl
def Yn:Tab:=(tL true).add 18 (g2 rg1 rg1 fun p q=>([],.many [.fl (gH (zU (p2 p q) 2).1),.im (.int .i64 (zU (p2 p q) 2).2)]))
theorem aGT:TabOk prog Yn:=(pO true).ad func18 (dS sM sM fun p q hp args w ha=>aB aE (fun _ s=>(pO true).ad func48 aOT) (aJ prog) func18 (aBp p q) ⟨rfl,rfl,rfl,by omega,trivial⟩ ha)
def Yl:Tab:=(Yn).add 44 (g2 rg1 vZ fun p n=>([],.many [.fl (gH (rC (fun _=>p) (fun _=>n) 1).1),.im (.int .i64 (rC (fun _=>p) (fun _=>n) 1).2)]))
theorem aGR:TabOk prog Yl:=(aGT).ad func44 (dS sM dG fun p n hp args w ha=>aB aE (fun _ s=>(pO true).ad func96 aPd) (aJ prog) func44 (aBn p n) ⟨rfl,rfl,rfl,rfl,rfl,by omega,trivial⟩ ha)
def aXr (ps:Nat→iK) (N:Nat):kC
 | [.v (.fl l),.s L n1 n2]=>some ([aA l=aA gA,aA L=aA (cQ (fun j=>gN (ps j)) 0 N),n1=N,N≤65536],.many [.fl (eI (zT ps N).1),.im (.int .i64 (zT ps N).2)])
 | _=>none
theorem aOS {ps:Nat→iK} {N:Nat}:∀cs pre r,aXr ps N cs=some (pre,r)→bC pre→∀(args:List Value) (w:World),bZ w cs args→Good prog 50 r args w:=by
 intro cs pre r hg hq args w ha;unfold aXr at hg;split at hg
 ·cases hg;obtain⟨h1,h2,rfl,h4,_⟩:=hq;exact Zt rfl h4 (WW h1 h2 ha)
 ·cases hg
def aXG (ps:Nat→iK) (x:Nat→Nat) (N:Nat):kC
 | [.v (.fl l),.s L n1 n2,.s X n3 n4]=>some ([aA l=aA gA,aA L=aA (cQ (fun j=>gN (ps j)) 0 N),aA X=aA (cQ (fun j=>[.q (x j)]) 0 N),n1=N,n3=N,N<32],.many [.fl (eI (mI ps x N).1),.im (.int .i64 (mI ps x N).2)])
 | _=>none
theorem aPc {ps:Nat→iK} {x:Nat→Nat} {N:Nat}:∀cs pre r,aXG ps x N cs=some (pre,r)→bC pre→∀(args:List Value) (w:World),bZ w cs args→Good prog 98 r args w:=by
 intro cs pre r hg hq args w ha;unfold aXG at hg;split at hg
 ·rename_i l L n1 n2 X n3 n4;cases hg;obtain⟨h1,h2,h3,rfl,rfl,h6,_⟩:=hq;refine aCi (LG:=L) (LX:=X) (n2:=n2) (n4:=n4) h2 h3 h6 ?_
  match args,ha with
  | [u,v,t],ha =>
   refine⟨?_,ha.2.1,ha.2.2.1,trivial⟩;show u=.agg (aA gA).toArray;rw[←h1]; exact ha.1
  | [],ha=>exact ha.elim
  | [_],ha=>exact ha.2.elim
  | [_,_],ha=>exact ha.2.2.elim
  | _::_::_::_::_,ha=>exact ha.2.2.2.elim
 ·cases hg
theorem aBo (p q:iK):aO prog (qG prog) (fun _=>⟨fun s=>(tL true).add 50 (aXr (p2 p q) 2),fun s=>true,fun _=>none⟩) f19 60 [.v (.fl (gN p)),.v (.fl (gN q))]=some ([aA gA=aA gA,aA (gN p++gN q)=aA (cQ (fun j=>gN (p2 p q j)) 0 2),2=2,2≤65536],.many [.fl (eI (zT (p2 p q) 2).1),.im (.int .i64 (zT (p2 p q) 2).2)]):=by kernel_rfl
theorem aBm (p:iK) (n:Nat):aO prog (qG prog) (fun _=>⟨fun s=>(tL true).add 98 (aXG (fun _=>p) (fun _=>n) 1),fun s=>true,fun _=>none⟩) f46 60 [.v (.fl (gN p)),.v (.fl [.q n])]=some ([aA gA=aA gA,aA (gN p)=aA (cQ (fun j=>gN p) 0 1),aA [.q n]=aA (cQ (fun j=>[At.q n]) 0 1),1=1,1=1,1<32],.many [.fl (eI (mI (fun _=>p) (fun _=>n) 1).1),.im (.int .i64 (mI (fun _=>p) (fun _=>n) 1).2)]):=by kernel_rfl
def xJ (p:iK):Pt Q2×Int:=if (pB p.1 p.2.1 p.2.2).1≠0 then ((some (F2.zero,F2.zero)),(pB p.1 p.2.1 p.2.2).1)else (fQ F2 eD (vA F2 (pB p.1 p.2.1 p.2.2).2),0)
def aXB:kC
 | [.v (.fl l),.v (.fl m)]=>match Mo m with
  | some p=>some ([aA l=aA gA],.many [.fl (eI (xJ p).1),.im (.int .i64 (xJ p).2)])
  | none=>none
 | _=>none
theorem aOY:∀cs pre r,aXB cs=some (pre,r)→bC pre→∀(args:List Value) (w:World),bZ w cs args→Good prog 218 r args w:=by
 intro cs pre r hg hq args w ha;unfold aXB at hg;split at hg
 ·rename_i l m;split at hg
  ·rename_i p hp;cases hg;obtain⟨h1,_⟩:=hq;have hb:bZ w [.v (.fl gA),.v (.fl (gN p))] args:=by
    match args,ha with
    | [u,v],ha =>
     refine⟨?_,?_,trivial⟩
     ·show u=.agg (aA gA).toArray;rw[←h1]; exact ha.1
     ·show v=.agg (aA (gN p)).toArray;rw[←lV m p hp]; exact ha.2.1
    | [],ha=>exact ha.elim
    | [_],ha=>exact ha.2.elim
    | _::_::_::_,ha=>exact ha.2.2.elim
   unfold xJ
   by_cases h:(pB p.1 p.2.1 p.2.2).1=0
   ·rw[if_neg (fun q=>q h)];exact aB aE (fun _ s=>pO _) (aJ prog) func218 (Cd true p) ⟨AN h,trivial⟩ hb
   ·rw[if_pos h];exact aB aE (fun _ s=>pO _) (aJ prog) func218 (Cc true p) ⟨tP h,trivial⟩ hb
  ·cases hg
 ·cases hg
theorem aBl (p:iK):aO prog (qG prog) (fun _=>⟨fun s=>(tL true).add 218 aXB,fun s=>true,fun _=>none⟩) f174 60 [.v (.fl (gN p))]=some ([aA gA=aA gA],.many [.fl (eI (xJ p).1),.im (.int .i64 (xJ p).2)]):=by kernel_rfl
def Ym:Tab:=(Yl).add 19 (g2 Mo Mo fun p q=>([],.many [.fl (eI (zT (p2 p q) 2).1),.im (.int .i64 (zT (p2 p q) 2).2)]))
theorem aGS:TabOk prog Ym:=(aGR).ad func19 (dS lV lV fun p q hp args w ha=>aB aE (fun _ s=>(pO true).ad func50 aOS) (aJ prog) func19 (aBo p q) ⟨rfl,rfl,rfl,by omega,trivial⟩ ha)
def Yk:Tab:=(Ym).add 46 (g2 Mo vZ fun p n=>([],.many [.fl (eI (mI (fun _=>p) (fun _=>n) 1).1),.im (.int .i64 (mI (fun _=>p) (fun _=>n) 1).2)]))
theorem aGQ:TabOk prog Yk:=(aGS).ad func46 (dS lV dG fun p n hp args w ha=>aB aE (fun _ s=>(pO true).ad func98 aPc) (aJ prog) func46 (aBm p n) ⟨rfl,rfl,rfl,rfl,rfl,by omega,trivial⟩ ha)
def Yj:Tab:=(Yk).add 174 (g1 Mo fun p=>([],.many [.fl (eI (xJ p).1),.im (.int .i64 (xJ p).2)]))
theorem Fh:TabOk prog Yj:=(aGQ).ad func174 (bP lV fun p hp args w ha=>aB aE (fun _ s=>(pO true).ad func218 aOY) (aJ prog) func174 (aBl p) ⟨rfl,trivial⟩ ha)
def aXF:kC
 | [.v (.im (.int .i64 (.ofNat 1)))]=>some ([],.one (.fl (q1 FP.M)))
 | [.v (.im (.int .i64 (.ofNat 2)))]=>some ([],.one (.fl (q1 Go.Proofs.YtglgakbkdjhojaaGreat.FR.M)))
 | _=>none
theorem aMG:∀cs pre r,aXF cs=some (pre,r)→bC pre→∀(args:List Value) (w:World),bZ w cs args→Good prog 74 r args w:=by
 intro cs pre r hg hp args w ha;unfold aXF at hg;split at hg
 ·cases hg
  match args,ha with
  | [v],ha =>
   have h1:v=.int .i64 1:=ha.1;subst h1;exact (iM 1 FP (Or.inl ⟨rfl,rfl⟩) w).mono fun e w' h=>h
  | [],ha=>exact ha.elim
  | _::_::_,ha=>exact ha.2.elim
 ·cases hg
  match args,ha with
  | [v],ha =>
   have h1:v=.int .i64 2:=ha.1;subst h1;exact (iM 2 Go.Proofs.YtglgakbkdjhojaaGreat.FR (Or.inr ⟨rfl,rfl⟩) w).mono fun e w' h=>h
  | [],ha=>exact ha.elim
  | _::_::_,ha=>exact ha.2.elim
 ·cases hg
def tU (n:Nat):Bool:=GX (wv n) FP.M
def aXQ:kC
 | [.v (.im (.int .i64 (.ofNat 1))),.v (.fl l)]=>match vZ l with
  | some n=>some ([],.one (.im (.bool (tU n))))
  | none=>none
 | _=>none
theorem aKg:∀cs pre r,aXQ cs=some (pre,r)→bC pre→∀(args:List Value) (w:World),bZ w cs args→Good prog 79 r args w:=by
 intro cs pre r hg hp args w ha;unfold aXQ at hg;split at hg
 ·rename_i l;split at hg
  ·rename_i n hn;cases hg
   match args,ha with
   | [v,u],ha =>
    have h1:v=.int .i64 1:=ha.1;have h2:u=.agg (aA l).toArray:=ha.2.1;rw[dG l _ hn]at h2;subst h1; subst h2;exact TT 1 FP (Or.inl ⟨rfl,rfl⟩) _ _ _ _ (cM n) w
   | [],ha=>exact ha.elim
   | [_],ha=>exact ha.2.elim
   | _::_::_::_,ha=>exact ha.2.2.elim
  ·cases hg
 ·cases hg
def gRN:kC
 | [.v (.im (.int .i64 (.ofNat 1))),.v (.fl l)]=>match OG l with
  | some x=>some ([],.one (.fl (e1 (F1.neg x))))
  | none=>none
 | _=>none
theorem aXx:∀cs pre r,gRN cs=some (pre,r)→bC pre→∀(args:List Value) (w:World),bZ w cs args→Good prog 226 r args w:=by
 intro cs pre r hg hp args w ha;unfold gRN at hg;split at hg
 ·rename_i l;split at hg
  ·rename_i x hx;obtain⟨a,e1,rfl⟩:=gL l x hx;cases hg
   match args,ha with
   | [v,u],ha =>
    have h1:v=.int .i64 1:=ha.1;have h2:u=.agg (aA l).toArray:=ha.2.1;rw[e1]at h2;subst h1; subst h2;refine (JX 1 FP (Or.inl ⟨rfl,rfl⟩) _ _ _ _ (cM a) w).mono fun e w' h => ?_
    exact FwPost.of (Nat.mod_lt _ fV) h
   | [],ha=>exact ha.elim
   | [_],ha=>exact ha.2.elim
   | _::_::_::_,ha=>exact ha.2.2.elim
  ·cases hg
 ·cases hg
def Yo:Tab:=(Yj).add 74 aXF
theorem aGX:TabOk prog Yo:=(Fh).ad func74 aMG
def Yp:Tab:=(Yo).add 79 aXQ
theorem aGY:TabOk prog Yp:=(aGX).ad func79 aKg
def YG:Tab:=(Yp).add 226 gRN
theorem Fi:TabOk prog YG:=(aGY).ad func226 aXx
theorem Lc (x y:Nat):aO prog (qG prog) (fun _=>⟨fun s=>YG,fun s=>true,fun _=>none⟩) f81 60 [.v (.fl (q1 x)),.v (.fl (q1 y))]=some ([],.one (.fl (e1 (F1.add (m1 x) (m1 y))))):=by kernel_rfl
def NJ:Tab:=(YG).add 81 (g2 OG OG (fun x y=>([],.one (.fl (e1 (F1.add x y))))))
theorem QE:TabOk prog NJ:=(Fi).ad func81 (gF gL gL fun x y hp args w ha=>aB aE (fun _ s=>Fi) (aJ prog) func81 (Lc x y) trivial ha)
theorem Kz (x y:Nat):aO prog (qG prog) (fun _=>⟨fun s=>NJ,fun s=>true,fun _=>none⟩) f142 60 [.v (.fl (q1 x)),.v (.fl (q1 y))]=some ([],.one (.fl (e1 (F1.sub (m1 x) (m1 y))))):=by kernel_rfl
def NH:Tab:=(NJ).add 142 (g2 OG OG (fun x y=>([],.one (.fl (e1 (F1.sub x y))))))
theorem QC:TabOk prog NH:=(QE).ad func142 (gF gL gL fun x y hp args w ha=>aB aE (fun _ s=>QE) (aJ prog) func142 (Kz x y) trivial ha)
theorem La (x y:Nat):aO prog (qG prog) (fun _=>⟨fun s=>NH,fun s=>true,fun _=>none⟩) f80 60 [.v (.fl (q1 x)),.v (.fl (q1 y))]=some ([],.one (.fl (e1 (F1.mul (m1 x) (m1 y))))):=by kernel_rfl
def NI:Tab:=(NH).add 80 (g2 OG OG (fun x y=>([],.one (.fl (e1 (F1.mul x y))))))
theorem QD:TabOk prog NI:=(QC).ad func80 (gF gL gL fun x y hp args w ha=>aB aE (fun _ s=>QC) (aJ prog) func80 (La x y) trivial ha)
theorem Lb (x:Nat):aO prog (qG prog) (fun _=>⟨fun s=>NI,fun s=>true,fun _=>none⟩) f86 60 [.v (.fl (q1 x))]=some ([m1 x≠F1.zero],.many [.fl (e1 (cF (m1 x))),.im (.int .i64 0)]):=by kernel_rfl
def BM:Tab:=(NI).add 86 (g1 OG (fun x=>([x≠F1.zero],.many [.fl (e1 (cF x)),.im (.int .i64 0)])))
theorem CQ:TabOk prog BM:=(QD).ad func86 (gZ gL fun x hp args w ha=>aB aE (fun _ s=>QD) (aJ prog) func86 (Lb x) hp ha)
theorem aAg (x y:Nat):aO prog (qG prog) (fun _=>⟨fun s=>BM,fun s=>true,fun _=>none⟩) f34 60 [.v (.fl (kK (x,y,true)))]=some ([],.one (.fl (bK (F1.one,F1.one,F1.zero)))):=by kernel_rfl
theorem aAh (x y:Nat):aO prog (qG prog) (fun _=>⟨fun s=>BM,fun s=>true,fun _=>none⟩) f34 60 [.v (.fl (kK (x,y,false)))]=some ([],.one (.fl (q1 x++(q1 y++e1 F1.one)))):=by kernel_rfl
def wd1 (p:lJ):J1:=bif p.2.2 then (F1.one,F1.one,F1.zero)else (m1 p.1,m1 p.2.1,F1.one)
theorem aTc (p:lJ) (hp:p.2.2=false→wV p.1∧wV p.2.1) (args:List Value) (w:World) (ha:bZ w [.v (.fl (kK p))] args):Good prog 34 (.one (.fl (bK (wd1 p)))) args w:=by
 obtain⟨x,y,b⟩:=p;cases b with
 | true=>exact aB aE (fun _ s=>CQ) (aJ prog) func34 (aAg x y) trivial ha
 | false =>
  obtain⟨hx,hy⟩:=hp rfl;refine Good.congr (r:=.one (.fl (q1 x++(q1 y++e1 F1.one)))) (aB aE (fun _ s=>CQ) (aJ prog) func34 (aAh x y) trivial ha) ?_;have e:aA (q1 x++(q1 y++e1 F1.one))=aA (bK (m1 x,m1 y,F1.one)):=by
   rw[aT,aT,Xw hx,Xw hy];rfl
  show Value.agg (aA _).toArray=.agg (aA _).toArray;rw[e];rfl
def Yd:Tab:=(BM).add 34 (g1 rg1 fun p=>([p.2.2=false→wV p.1∧wV p.2.1],.one (.fl (bK (wd1 p)))))
theorem No:TabOk prog Yd:=(CQ).ad func34 (bP sM fun p hp args w ha=>aTc p hp.1 args w ha)
theorem Kd (p:J1):aO prog (qG prog) (fun _=>⟨fun s=>Yd,fun s=>true,fun _=>none⟩) f36 60 [.v (.fl (bK p))]=some ([aA (e1 p.2.2)=aA (e1 F1.zero)],.one (.fl (gH none))):=by kernel_rfl
theorem Ke (p:J1):aO prog (qG prog) (fun _=>⟨fun s=>Yd,fun s=>false,fun _=>none⟩) f36 60 [.v (.fl (bK p))]=some ([aA (e1 p.2.2)≠aA (e1 F1.zero),p.2.2≠F1.zero],.one (.fl (gH (some (F1.mul p.1 (F1.mul (cF p.2.2) (cF p.2.2)),F1.mul p.2.1 (F1.mul (F1.mul (cF p.2.2) (cF p.2.2)) (cF p.2.2))))))):=by kernel_rfl
theorem aMA (p:J1) (args:List Value) (w:World) (ha:bZ w [.v (.fl (bK p))] args):Good prog 36 (.one (.fl (gH (fQ F1 cF p)))) args w:=by
 by_cases h:p.2.2=F1.zero
 ·rw[dB h];exact aB aE (fun _ s=>No) (aJ prog) func36 (Kd p) ⟨by rw[h],trivial⟩ ha
 ·rw[dR h];exact aB aE (fun _ s=>No) (aJ prog) func36 (Ke p) ⟨eC h,h,trivial⟩ ha
def Qm:Tab:=(Yd).add 36 (g1 YP fun p=>([],.one (.fl (gH (fQ F1 cF p)))))
theorem Ue:TabOk prog Qm:=(No).ad func36 (bP iX fun p hp args w ha=>aMA p args w ha)
section
variable {R:Type} (K:CR R)
def rdS (p:Jc R):R:=K.add (K.add (K.mul p.1 (K.mul p.2.1 p.2.1)) (K.mul p.1 (K.mul p.2.1 p.2.1))) (K.add (K.mul p.1 (K.mul p.2.1 p.2.1)) (K.mul p.1 (K.mul p.2.1 p.2.1)))
def rdM (p:Jc R):R:=K.add (K.mul p.1 p.1) (K.add (K.mul p.1 p.1) (K.mul p.1 p.1))
def rdX (p:Jc R):R:=K.sub (K.mul (rdM K p) (rdM K p)) (K.add (rdS K p) (rdS K p))
def rdF (p:Jc R):R:=K.mul (K.mul p.2.1 p.2.1) (K.mul p.2.1 p.2.1)
def bBq (p:Jc R):R:=K.add (rdF K p) (rdF K p)
def bBp (p:Jc R):R:=K.add (bBq K p) (bBq K p)
def bBo (p:Jc R):R:=K.add (bBp K p) (bBp K p)
def aMO (p:Jc R):Jc R:=(rdX K p,K.sub (K.mul (rdM K p) (K.sub (rdS K p) (rdX K p))) (bBo K p),K.mul (K.add p.2.1 p.2.1) p.2.2)
theorem aUH (p:Jc R):rdM K p=dSl K p:=(K.add_assoc _ _ _).symm
theorem aUG (p:Jc R):rdS K p=dBa K p :=
 aG K (aV K [p.1,p.2.1]) (Z0*(Z1*Z1)+Z0*(Z1*Z1)+(Z0*(Z1*Z1)+Z0*(Z1*Z1))) (Z0*(Z1*Z1+Z1*Z1+(Z1*Z1+Z1*Z1))) (by decide)
theorem aUI (p:Jc R):bBo K p=K.mul (dFo K p) (dTw K p) :=
 aG K (aV K [p.2.1]) (Z0*Z0*(Z0*Z0)+Z0*Z0*(Z0*Z0)+(Z0*Z0*(Z0*Z0)+Z0*Z0*(Z0*Z0))+(Z0*Z0*(Z0*Z0)+Z0*Z0*(Z0*Z0)+(Z0*Z0*(Z0*Z0)+Z0*Z0*(Z0*Z0)))) ((Z0*Z0+Z0*Z0+(Z0*Z0+Z0*Z0))*(Z0*Z0+Z0*Z0)) (by decide)
theorem Su (p:Jc R):aMO K p=bX K p:=by
 unfold aMO bX dX dY rdX;rw[aUH,aUG,aUI];rfl
end
theorem aEJ (p:J1):aO prog (qG prog) (fun _=>⟨fun s=>Qm,fun s=>true,fun _=>none⟩) f83 80 [.v (.fl (bK p))]=some ([],.one (.fl (bK (aMO F1 p)))):=by kernel_rfl
def yX:Tab:=(Qm).add 83 (g1 YP fun p=>([],.one (.fl (bK (bX F1 p)))))
theorem wJ:TabOk prog yX:=(Ue).ad func83 (bP iX fun p hp args w ha=>by rw[←Su]; exact aB aE (fun _ s=>Ue) (aJ prog) func83 (aEJ p) trivial ha)
theorem Ko (p q:J1):aO prog (qG prog) (fun _=>⟨fun s=>yX,fun s=>true,fun _=>none⟩) f85 100 [.v (.fl (bK p)),.v (.fl (bK q))]=some ([aA (e1 (p.2.2))=aA (e1 F1.zero)],.one (.fl (bK q))):=by kernel_rfl
theorem Kn (p q:J1):aO prog (qG prog) (fun _=>⟨fun s=>yX,fun s => !(Nat.beq s 20),fun _=>none⟩) f85 100 [.v (.fl (bK p)),.v (.fl (bK q))]=some ([aA (e1 (p.2.2))≠aA (e1 F1.zero),aA (e1 (q.2.2))=aA (e1 F1.zero)],.one (.fl (bK p))):=by kernel_rfl
theorem Km (p q:J1):aO prog (qG prog) (fun _=>⟨fun s=>yX,fun s => !(Nat.beq s 20||Nat.beq s 25),fun _=>none⟩) f85 100 [.v (.fl (bK p)),.v (.fl (bK q))]=some ([aA (e1 (p.2.2))≠aA (e1 F1.zero),aA (e1 (q.2.2))≠aA (e1 F1.zero),aA (e1 (tR F1 p q))=aA (e1 F1.zero),aA (e1 (LQ F1 p q))=aA (e1 F1.zero)],.one (.fl (bK (bX F1 p)))):=by kernel_rfl
theorem Kl (p q:J1):aO prog (qG prog) (fun _=>⟨fun s=>yX,fun s => !(Nat.beq s 20||Nat.beq s 25||Nat.beq s 71),fun _=>none⟩) f85 100 [.v (.fl (bK p)),.v (.fl (bK q))]=some ([aA (e1 (p.2.2))≠aA (e1 F1.zero),aA (e1 (q.2.2))≠aA (e1 F1.zero),aA (e1 (tR F1 p q))=aA (e1 F1.zero),aA (e1 (LQ F1 p q))≠aA (e1 F1.zero),aA (e1 (tR F1 p q))=aA (e1 F1.zero)],.one (.fl (bK (F1.one,F1.one,F1.zero)))):=by kernel_rfl
theorem Kk (p q:J1):aO prog (qG prog) (fun _=>⟨fun s=>yX,fun s=>false,fun _=>none⟩) f85 100 [.v (.fl (bK p)),.v (.fl (bK q))]=some ([aA (e1 (p.2.2))≠aA (e1 F1.zero),aA (e1 (q.2.2))≠aA (e1 F1.zero),aA (e1 (tR F1 p q))≠aA (e1 F1.zero),aA (e1 (tR F1 p q))≠aA (e1 F1.zero)],.one (.fl (bK (DE F1 p q)))):=by kernel_rfl
theorem aMC (p q:J1) (args:List Value) (w:World) (ha:bZ w [.v (.fl (bK p)),.v (.fl (bK q))] args):Good prog 85 (.one (.fl (bK (rplus F1 p q)))) args w:=by
 unfold rplus
 by_cases h1:p.2.2=F1.zero
 ·rw[if_pos h1];exact aB aE (fun _ s=>wJ) (aJ prog) func85 (Ko p q) ⟨by rw[h1],trivial⟩ ha
 ·rw[if_neg h1]
  by_cases h2:q.2.2=F1.zero
  ·rw[if_pos h2];exact aB aE (fun _ s=>wJ) (aJ prog) func85 (Kn p q) ⟨eC h1,by rw[h2],trivial⟩ ha
  ·rw[if_neg h2]
   by_cases h3:tR F1 p q=F1.zero
   ·by_cases h4:LQ F1 p q=F1.zero
    ·rw[if_pos ⟨h3,h4⟩];exact aB aE (fun _ s=>wJ) (aJ prog) func85 (Km p q) ⟨eC h1,eC h2,by rw[h3],by rw[h4],trivial⟩ ha
    ·rw[if_neg (fun h=>h4 h.2),if_pos h3];exact aB aE (fun _ s=>wJ) (aJ prog) func85 (Kl p q) ⟨eC h1,eC h2,by rw[h3],eC h4,by rw[h3],trivial⟩ ha
   ·rw[if_neg (fun h=>h3 h.1),if_neg h3];exact aB aE (fun _ s=>wJ) (aJ prog) func85 (Kk p q) ⟨eC h1,eC h2,eC h3,eC h3,trivial⟩ ha
def XM:Tab:=(yX).add 85 (g2 YP YP fun p q=>([],.one (.fl (bK (rplus F1 p q)))))
theorem UM:TabOk prog XM:=(wJ).ad func85 (dS iX iX fun p q hp args w ha=>aMC p q args w ha)
theorem aAe (x y:N2):aO prog (qG prog) (fun _=>⟨fun s=>XM,fun s=>true,fun _=>none⟩) f38 60 [.v (.fl (gN (x,y,true)))]=some ([],.one (.fl (bJ (F2.one,F2.one,F2.zero)))):=by kernel_rfl
theorem aAf (x y:N2):aO prog (qG prog) (fun _=>⟨fun s=>XM,fun s=>true,fun _=>none⟩) f38 60 [.v (.fl (gN (x,y,false)))]=some ([],.one (.fl (q2 x++(q2 y++e2 F2.one)))):=by kernel_rfl
def wd2 (p:iK):J2:=bif p.2.2 then (F2.one,F2.one,F2.zero)else (m2 p.1,m2 p.2.1,F2.one)
theorem aTa (p:iK) (hp:p.2.2=false→tZ p.1∧tZ p.2.1) (args:List Value) (w:World) (ha:bZ w [.v (.fl (gN p))] args):Good prog 38 (.one (.fl (bJ (wd2 p)))) args w:=by
 obtain⟨x,y,b⟩:=p;cases b with
 | true=>exact aB aE (fun _ s=>UM) (aJ prog) func38 (aAe x y) trivial ha
 | false =>
  obtain⟨hx,hy⟩:=hp rfl;refine Good.congr (r:=.one (.fl (q2 x++(q2 y++e2 F2.one)))) (aB aE (fun _ s=>UM) (aJ prog) func38 (aAf x y) trivial ha) ?_;have e:aA (q2 x++(q2 y++e2 F2.one))=aA (bJ (m2 x,m2 y,F2.one)):=by
   rw[aT,aT,Xv hx,Xv hy];rfl
  show Value.agg (aA _).toArray=.agg (aA _).toArray;rw[e];rfl
def Yc:Tab:=(XM).add 38 (g1 Mo fun p=>([p.2.2=false→tZ p.1∧tZ p.2.1],.one (.fl (bJ (wd2 p)))))
theorem Nn:TabOk prog Yc:=(UM).ad func38 (bP lV fun p hp args w ha=>aTa p hp.1 args w ha)
theorem Kb (p:J2):aO prog (qG prog) (fun _=>⟨fun s=>Yc,fun s=>true,fun _=>none⟩) f40 60 [.v (.fl (bJ p))]=some ([aA (e2 p.2.2)=aA (e2 F2.zero)],.one (.fl (eI none))):=by kernel_rfl
theorem Kc (p:J2):aO prog (qG prog) (fun _=>⟨fun s=>Yc,fun s=>false,fun _=>none⟩) f40 60 [.v (.fl (bJ p))]=some ([aA (e2 p.2.2)≠aA (e2 F2.zero),qC p.2.2≠F1.zero],.one (.fl (eI (some (F2.mul p.1 (F2.mul (Cx p.2.2) (Cx p.2.2)),F2.mul p.2.1 (F2.mul (F2.mul (Cx p.2.2) (Cx p.2.2)) (Cx p.2.2))))))):=by kernel_rfl
theorem aMz (p:J2) (args:List Value) (w:World) (ha:bZ w [.v (.fl (bJ p))] args):Good prog 40 (.one (.fl (eI (fQ F2 eD p)))) args w:=by
 by_cases h:p.2.2=F2.zero
 ·rw[dB h];exact aB aE (fun _ s=>Nn) (aJ prog) func40 (Kb p) ⟨by rw[h],trivial⟩ ha
 ·rw[dR h];rw[←aMH];exact aB aE (fun _ s=>Nn) (aJ prog) func40 (Kc p) ⟨dC h,fun q=>h (oN q),trivial⟩ ha
def Ql:Tab:=(Yc).add 40 (g1 YO fun p=>([],.one (.fl (eI (fQ F2 eD p)))))
theorem Ud:TabOk prog Ql:=(Nn).ad func40 (bP iW fun p hp args w ha=>aMz p args w ha)
theorem aEI (p:J2):aO prog (qG prog) (fun _=>⟨fun s=>Ql,fun s=>true,fun _=>none⟩) f91 80 [.v (.fl (bJ p))]=some ([],.one (.fl (bJ (aMO F2 p)))):=by kernel_rfl
def yW:Tab:=(Ql).add 91 (g1 YO fun p=>([],.one (.fl (bJ (bX F2 p)))))
theorem wH:TabOk prog yW:=(Ud).ad func91 (bP iW fun p hp args w ha=>by rw[←Su]; exact aB aE (fun _ s=>Ud) (aJ prog) func91 (aEI p) trivial ha)
theorem Kj (p q:J2):aO prog (qG prog) (fun _=>⟨fun s=>yW,fun s=>true,fun _=>none⟩) f92 100 [.v (.fl (bJ p)),.v (.fl (bJ q))]=some ([aA (e2 (p.2.2))=aA (e2 F2.zero)],.one (.fl (bJ q))):=by kernel_rfl
theorem Ki (p q:J2):aO prog (qG prog) (fun _=>⟨fun s=>yW,fun s => !(Nat.beq s 20),fun _=>none⟩) f92 100 [.v (.fl (bJ p)),.v (.fl (bJ q))]=some ([aA (e2 (p.2.2))≠aA (e2 F2.zero),aA (e2 (q.2.2))=aA (e2 F2.zero)],.one (.fl (bJ p))):=by kernel_rfl
theorem Kh (p q:J2):aO prog (qG prog) (fun _=>⟨fun s=>yW,fun s => !(Nat.beq s 20||Nat.beq s 25),fun _=>none⟩) f92 100 [.v (.fl (bJ p)),.v (.fl (bJ q))]=some ([aA (e2 (p.2.2))≠aA (e2 F2.zero),aA (e2 (q.2.2))≠aA (e2 F2.zero),aA (e2 (tR F2 p q))=aA (e2 F2.zero),aA (e2 (LQ F2 p q))=aA (e2 F2.zero)],.one (.fl (bJ (bX F2 p)))):=by kernel_rfl
theorem Kg (p q:J2):aO prog (qG prog) (fun _=>⟨fun s=>yW,fun s => !(Nat.beq s 20||Nat.beq s 25||Nat.beq s 71),fun _=>none⟩) f92 100 [.v (.fl (bJ p)),.v (.fl (bJ q))]=some ([aA (e2 (p.2.2))≠aA (e2 F2.zero),aA (e2 (q.2.2))≠aA (e2 F2.zero),aA (e2 (tR F2 p q))=aA (e2 F2.zero),aA (e2 (LQ F2 p q))≠aA (e2 F2.zero),aA (e2 (tR F2 p q))=aA (e2 F2.zero)],.one (.fl (bJ (F2.one,F2.one,F2.zero)))):=by kernel_rfl
theorem Kf (p q:J2):aO prog (qG prog) (fun _=>⟨fun s=>yW,fun s=>false,fun _=>none⟩) f92 100 [.v (.fl (bJ p)),.v (.fl (bJ q))]=some ([aA (e2 (p.2.2))≠aA (e2 F2.zero),aA (e2 (q.2.2))≠aA (e2 F2.zero),aA (e2 (tR F2 p q))≠aA (e2 F2.zero),aA (e2 (tR F2 p q))≠aA (e2 F2.zero)],.one (.fl (bJ (DE F2 p q)))):=by kernel_rfl
theorem aMB (p q:J2) (args:List Value) (w:World) (ha:bZ w [.v (.fl (bJ p)),.v (.fl (bJ q))] args):Good prog 92 (.one (.fl (bJ (rplus F2 p q)))) args w:=by
 unfold rplus
 by_cases h1:p.2.2=F2.zero
 ·rw[if_pos h1];exact aB aE (fun _ s=>wH) (aJ prog) func92 (Kj p q) ⟨by rw[h1],trivial⟩ ha
 ·rw[if_neg h1]
  by_cases h2:q.2.2=F2.zero
  ·rw[if_pos h2];exact aB aE (fun _ s=>wH) (aJ prog) func92 (Ki p q) ⟨dC h1,by rw[h2],trivial⟩ ha
  ·rw[if_neg h2]
   by_cases h3:tR F2 p q=F2.zero
   ·by_cases h4:LQ F2 p q=F2.zero
    ·rw[if_pos ⟨h3,h4⟩];exact aB aE (fun _ s=>wH) (aJ prog) func92 (Kh p q) ⟨dC h1,dC h2,by rw[h3],by rw[h4],trivial⟩ ha
    ·rw[if_neg (fun h=>h4 h.2),if_pos h3];exact aB aE (fun _ s=>wH) (aJ prog) func92 (Kg p q) ⟨dC h1,dC h2,by rw[h3],dC h4,by rw[h3],trivial⟩ ha
   ·rw[if_neg (fun h=>h3 h.1),if_neg h3];exact aB aE (fun _ s=>wH) (aJ prog) func92 (Kf p q) ⟨dC h1,dC h2,dC h3,dC h3,trivial⟩ ha
def aKE:Tab:=(yW).add 92 (g2 YO YO fun p q=>([],.one (.fl (bJ (rplus F2 p q)))))
theorem aOe:TabOk prog aKE:=(wH).ad func92 (dS iW iW fun p q hp args w ha=>aMB p q args w ha)
end Go.Proofs.YtglgakbkdjhojaaGreat.Ex
namespace Go.Proofs.YtglgakbkdjhojaaGreat.R1
open Go.Proofs.Tryz
open Go.RowKit
theorem len_down {A m:Nat} (h:A<2^(m+1)) (hb:dD A m=0):A<2^m:=by
 unfold dD at hb;have h1:A/2^m<2:=by rw[Nat.div_lt_iff_lt_mul (Nat.pow_pos (by omega)),Nat.mul_comm,←Nat.pow_succ]; exact h
 have h2:A/2^m=0:=by generalize A/2^m=q at h1 hb; omega
 have h3:=Nat.div_add_mod A (2^m);have h4:=Nat.mod_lt A (show 0<2^m from Nat.pow_pos (by omega));rw[h2]at h3; omega
theorem len_is {A m:Nat} (h:A<2^(m+1)) (hb:dD A m=1):LenIs A (m+1):=by
 refine⟨h,fun _ => ?_⟩;unfold dD at hb;have h1:1≤A/2^m:=by
  rcases Nat.eq_zero_or_pos (A/2^m)with e|e
  ·rw[e]at hb; omega
  ·exact e
 exact (Nat.one_le_div_iff (Nat.pow_pos (by omega))).1 h1
def LenP (A:Nat) (w:World) (e:Ending) (w':World):Prop :=
 ∃L:Nat,e=.returned (.int .i64 L)∧L≤256∧LenIs A L∧Below w.heap.size w w'
theorem refLen_calls (a0 a1 a2 a3:Nat) (ha:bY a0 a1 a2 a3) (w:World) :
  Calls prog 82 #[.agg #[.int .u64 a0,.int .u64 a1,.int .u64 a2,.int .u64 a3]] w (LenP (aC a0 a1 a2 a3) w):=by
 have h256:aC a0 a1 a2 a3<2^256:=by have:=bO ha; simpa using this
 have HB:=Lib.hid (fun i h (w:World)=>PG a0 a1 a2 a3 i ha h w);generalize hA:aC a0 a1 a2 a3=A at *;have H256:=Lib.hid h256;clear h256 hA
 go_enter func82,ntmps82
 go_wp2_with fail
 go_loopw [3] (fun i wr=>∃n:Int,-1≤n∧n≤255∧i=.int .i64 n∧Hid (A<2^(n+1).toNat)∧Mem w wr [(w.heap.size,a0,a1,a2,a3)]) (fun i _=>(intOf i+1).toNat)
 case atStart=>exact⟨255,by omega,by omega,rfl,H256,(Mem.nil w).new w.heap.size a0 a1 a2 a3 24 rfl⟩
 case round =>
  obtain⟨n,h1,h2,rfl,hA,m⟩:=hrel;have M:=Lib.hid m;obtain⟨lt_a,c0,c1,c2,c3,cf⟩:=m.get (b:=w.heap.size) (c0:=a0) (c1:=a1) (c2:=a2) (c3:=a3) (by simp);clear m
  by_cases h0:0≤n
  ·obtain⟨i,rfl⟩:=Int.eq_ofNat_of_zero_le h0;have hA':=Lib.hid (show A<2^(i+1)from hA.out);clear hA
   rcases kZ A i with hb|hb
   ·have hB:=HB.out i (by omega);rw[hb]at hB;have HN:=Lib.hid (len_down hA'.out hb);clear hb hA';go_wp2_with fail;refine (hB _).mono ?_
    rintro e w1 ⟨rfl,hbl⟩
    have M':=M.out.on hbl;clear hbl;go_wp2_with fail
    go_roundw
    case rel=>exact⟨(i:Int)-1,by omega,by omega,by first|rfl|go_num,Lib.hid (by rw[show ((i:Int)-1+1).toNat=i by omega]; exact HN.out),M'⟩
    case measure=>first|(simp[intOf]; done)|(simp[intOf]; omega)
   ·have hB:=HB.out i (by omega);rw[hb]at hB;have HN:=Lib.hid (len_is hA'.out hb);clear hb hA';go_wp2_with fail;refine (hB _).mono ?_
    rintro e w1 ⟨rfl,hbl⟩
    have M':=M.out.on hbl;clear hbl;go_wp2_with fail;go_ret;exact⟨i+1,rfl,by omega,HN.out,M'.1⟩
  ·obtain rfl:n = -1:=by omega
   go_wp2_with fail;go_ret;exact⟨0,rfl,by omega,⟨hA.out,fun h=>absurd h (by omega)⟩,M.out.1⟩
end Go.Proofs.YtglgakbkdjhojaaGreat.R1
namespace Go.Proofs.YtglgakbkdjhojaaGreat.Ex
open Go.Proofs.Tryz
open Go.RowKit
theorem Sq:∀cs pre r,Gi cs=some (pre,r)→bC pre→∀(args:List Value) (w:World),bZ w cs args→Good prog 82 r args w:=by
 intro cs pre r hg hp args w ha;unfold Gi at hg;split at hg
 ·rename_i l;split at hg
  ·rename_i n hn;cases hg;rw[BH ha,dG l _ hn];refine (R1.refLen_calls _ _ _ _ (cM n) w).mono ?_
   rintro e w' ⟨L,rfl,_,h,hbl⟩
   cases h.uniq (pR n);exact⟨rfl,hbl⟩
  ·cases hg
 ·cases hg
theorem Sz:∀cs pre r,VZ cs=some (pre,r)→bC pre→∀(args:List Value) (w:World),bZ w cs args→Good prog 84 r args w:=by
 intro cs pre r hg hp args w ha;unfold VZ at hg;split at hg
 ·rename_i l i;split at hg
  ·rename_i n hn;cases hg
   match args,ha with
   | [v,u],ha =>
    have h1:v=.agg (aA l).toArray:=ha.1;have h2:u=.int .i64 (Int.ofNat i):=ha.2.1;rw[dG l _ hn]at h1;subst h1; subst h2;exact PG _ _ _ _ i (cM n) hp.1 w
   | [],ha=>exact ha.elim
   | [_],ha=>exact ha.2.elim
   | _::_::_::_,ha=>exact ha.2.2.elim
  ·cases hg
 ·cases hg
end Go.Proofs.YtglgakbkdjhojaaGreat.Ex
