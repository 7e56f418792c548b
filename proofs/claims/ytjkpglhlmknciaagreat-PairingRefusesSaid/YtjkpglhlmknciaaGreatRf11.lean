/- Rf11 -/
import Derived.LoopTactic
import Derived.Deep.LoopGhost
import Derived.RegionTactic
import Derived.Test.YtjkpglhlmknciaaGreatRf10
import Derived.Test.YtjkpglhlmknciaaGreatRf02
import Derived.Test.YtjkpglhlmknciaaGreatRf06
import Derived.Test.YtjkpglhlmknciaaGreatProg
set_option maxRecDepth 100000
set_option linter.unusedVariables false
set_option linter.unusedSimpArgs false
set_option linter.unnecessarySimpa false
noncomputable section
namespace Go.Proofs.YtjkpglhlmknciaaGreat.Ex
open Go.Proofs.Tryz
open Go.RowKit
theorem UT {P:Program} {id:Nat} {ops:Array Oper} {l:List Nat} (hl:List.range ops.size=l) {Q:Exit→Act→World→Prop} {a:Act} {w:World} (h:wpOps P ops Q l a w):(Code.region id ops false).wp P Q a w:=wp_region (by rw[hl]; exact h)
def zL:J2:=(F2.zero,F2.zero,F2.zero)
def vQ (p:J2):List At:=bI (LQ p 1)++(bI (LQ p 2)++(bI (LQ p 3)++(bI (LQ p 4)++(bI (LQ p 5)++(bI (LQ p 6)++(bI (LQ p 7)++(bI (LQ p 8))))))))
def zT2:List At:=bI zL++(bI zL++(bI zL++(bI zL++(bI zL++(bI zL++(bI zL++(bI zL)))))))
theorem Lz (p:J2):cF (vQ p)=192:=by kernel_rfl
theorem Zf:cF zT2=192:=by kernel_rfl
def uW (p:J2) (k:Nat):List At:=bI (LQ p (k+1))
theorem aAh (p:J2):vQ p=fM (uW p) 0 8:=by
 show vQ p=uW p 0++(uW p 1++(uW p 2++(uW p 3++(uW p 4++(uW p 5++(uW p 6++(uW p 7++[])))))));rw[List.append_nil];rfl
theorem aAF (p:J2):aU prog (qG prog) (fun _=>⟨fun s=>lW true,fun s=>true,fun _=>none⟩) f184 200 [.v (.fl (bI p))]=some ([],.one (.fl (vQ p))):=by kernel_rfl
def nV:Tab:=(lW true).add 184 (g1 YQ fun p=>([],.one (.fl (vQ p))))
theorem mT:TabOk prog nV:=(sV true).add func184 (by kernel_rfl) (by kernel_rfl) (bJ iX fun p hp args w ha=>aB aG (fun _ s=>sV _) (aJ prog) func184 (aAF p) trivial ha)
def dU:Code:=(f176.body).getD .skip
def TG:Code:=vG (vG (cB (cA (cB (cB dU)))))
theorem aFG:dU=.seq (cA dU) (.seq (.region 1 (eI (cA (cB dU))) false) (.seq (.seq (cA (cA (cB (cB dU)))) (.block 0 (.loop TG))) (.seq (cA (cB (cB (cB dU)))) (.seq (.region 8 (eI (cA (cB (cB (cB (cB dU)))))) false) .ret)))):=by kernel_rfl
def aRW (LP:List At) (N N':Nat) (vn:Value):List Fact:=[.slot 0 (.sl 0 0 N N'),.row 0 false LP,.slot 1 (.im vn),.slot 4 (.pt 4 0),.row 4 true (bI zL)]
def aFF (LP Z:List At) (N N':Nat) (vn:Value):List Fact:=[.slot 0 (.sl 0 0 N N'),.row 0 false LP,.slot 1 (.im vn),.slot 4 (.pt 4 0),.row 4 true (bI zL),.slot 11 (.sl 11 0 N N),.row 11 true Z,.slot 5 (.pt 5 0),.row 5 true [.c (.slice none 0 0)]]
def aRV (LP Z:List At) (N N' b:Nat) (vn:Value):List Fact:=[.at 11 b,.slot 0 (.sl 0 0 N N'),.row 0 false LP,.slot 1 (.im vn),.slot 4 (.pt 4 0),.row 4 true (bI zL),.row 11 true Z,.slot 5 (.pt 5 0),.row 5 true [.c (dG b 0 N N)]]
def JT (LP Z:List At) (N N' b:Nat) (vn:Value) (i:Nat):List Fact:=[.at 11 b,.slot 0 (.sl 0 0 N N'),.row 0 false LP,.slot 1 (.im vn),.slot 4 (.pt 4 0),.row 4 true (bI zL),.row 11 true Z,.slot 5 (.pt 5 0),.row 5 true [.c (dG b 0 N N)],.slot 12 (.sl 0 0 N N'),.slot 13 (.im (iI N)),.slot 14 (.im (iI i))]
def aFE (Z:List At) (N b bn on n m:Nat):List Fact:=[.at 11 b,.slot 4 (.pt 4 0),.row 4 true (bI zL),.row 11 true Z,.slot 5 (.pt 5 0),.row 5 true [.c (dG b 0 N N)],.slot 8 (.pt 8 0),.row 8 true (iE bn on n m)]
def DQ (Z:List At) (N b b5 b8 bn on n m:Nat):List Fact:=[.at 5 b5,.at 8 b8,.at 11 b,.slot 4 (.pt 4 0),.row 4 true (bI zL),.row 11 true Z,.row 5 true [.c (dG b 0 N N)],.row 8 true (iE bn on n m),.slot 27 (.fl (iE bn on n m)),.slot 28 (.im (JM b5 b8))]
def aFD (num:Nat→Option Value) (_:Nat):Cfg:=⟨fun _=>nV,fun _=>true,num⟩
def CX:Cfg:=⟨fun _=>nV,fun _=>true,fun _=>none⟩
theorem aSd (LP:List At) (N N':Nat) (vn:Value):bE prog (qG prog) f176.ntmps (aFD fun _=>none) 40 (cA dU) (nU 0 [.s LP N N',.v (.im vn)]) (aRW LP N N' vn)=some ([],.nrm,aRW LP N N' vn):=by kernel_rfl
def aMV (N:Nat) (Z:List At):Ext:={ xt0 (fun _ _ _=>False)with mks:=assoc [(11,(N,Z))] }
theorem aSc (LP Z:List At) (N N':Nat) (vn:Value):xU prog (qX prog (aMV N Z)) f176.ntmps CX ((eI (cA (cB dU))).extract 0 4) (aRW LP N N' vn) (aFF LP Z N N' vn)=some ([∃e,∀w:World,(Instr.makeSlice 220 (iI N) (iI N)).run prog w=.ok (.slice (some ⟨w.heap.size,0,none⟩) N N) (w.alloc (.cells (aA Z).toArray e))],aFF LP Z N N' vn):=by kernel_rfl
theorem aSb (LP Z:List At) (N N' b:Nat) (vn:Value):xU prog (qG prog) f176.ntmps CX ((eI (cA (cB dU))).extract 4 5) (.slot 11 (.im (dG b 0 N N)) :: .at 11 b::aFF LP Z N N' vn) (aRV LP Z N N' b vn)=some ([],aRV LP Z N N' b vn):=by kernel_rfl
theorem aSa (LP Z:List At) (N N' b:Nat) (vn:Value):bE prog (qG prog) f176.ntmps (aFD fun _=>none) 40 (cA (cA (cB (cB dU)))) (aRV LP Z N N' b vn) (JT LP Z N N' b vn 0)=some ([],.nrm,JT LP Z N N' b vn 0):=by kernel_rfl
def aWX (N b i:Nat) (p:J2) (Z':List At):Ext:={ xt0 (fun _ _ _=>False)with idx:=assoc [(17,i),(23,i)],ld:=assoc [(18,bI p)],st:=assoc [(23,Z')],gen:=assoc [(19,dG b 0 N N)],ky:=assoc [(19,11)] }
theorem aSe (LP Z Z':List At) (N N' b:Nat) (vn:Value) (i:Nat) (p:J2):bE prog (qX prog (aWX N b i p Z')) f176.ntmps (aFD (assoc [(15,.bool true),(24,iI (i+1))])) 40 TG (JT LP Z N N' b vn i) (JT LP Z' N N' b vn (i+1))=some ([aH .lss .i64 (Int.ofNat i) (Int.ofNat N)=some (.bool true),Int.ofNat i=Int.ofNat i,i<N,gS LP (0+i*24) 24=some (bI p),cellAt [.c (dG b 0 N N)] 0=some (dG b 0 N N),b=b,Int.ofNat i=Int.ofNat i,i<N,put Z (0+i*192) (vQ p)=some Z',aH .add .i64 (Int.ofNat i) 1=some (iI (i+1))],.nrm,JT LP Z' N N' b vn (i+1)):=by kernel_rfl
theorem aLd (LP Z:List At) (N N' b:Nat) (vn:Value) (i:Nat):bE prog (qG prog) f176.ntmps (aFD (assoc [(15,.bool false)])) 40 TG (JT LP Z N N' b vn i) (JT LP Z N N' b vn i)=some ([aH .lss .i64 (Int.ofNat i) (Int.ofNat N)=some (.bool false)],.ex 0,JT LP Z N N' b vn i):=by kernel_rfl
theorem aRZ (LP Z:List At) (N N' b bn on n m i:Nat):bE prog (qG prog) f176.ntmps (aFD fun _=>none) 40 (cA (cB (cB (cB dU)))) (JT LP Z N N' b (dG bn on n m) i) (aFE Z N b bn on n m)=some ([],.nrm,aFE Z N b bn on n m):=by kernel_rfl
theorem aRY (Z:List At) (N b b5 b8 bn on n m:Nat):xU prog (qG prog) f176.ntmps CX ((eI (cA (cB (cB (cB (cB dU)))))).extract 0 2) (.at 8 b8 :: .at 5 b5::aFE Z N b bn on n m) (DQ Z N b b5 b8 bn on n m)=some ([],DQ Z N b b5 b8 bn on n m):=by kernel_rfl
theorem aRX (Z:List At) (N b b5 b8 bn on n m:Nat) (r:J2):xU prog (qG prog) f176.ntmps CX ((eI (cA (cB (cB (cB (cB dU)))))).extract 3 4) (.slot 29 (.fl (bI r))::DQ Z N b b5 b8 bn on n m) [.slot 4 (.pt 4 0),.row 4 true (bI r)]=some ([],[.slot 4 (.pt 4 0),.row 4 true (bI r)]):=by kernel_rfl
theorem Zg:BY (aA zT2) (.int .u64 0):=by unfold BY; kernel_rfl
theorem aLc {w:World} {b N i k:Nat} {pt:Nat→J2} (h:oldOf w b 0 (fM (fun j=>vQ (pt j)) 0 N)) (hi:i<N) (hk:k<8):oldOf w b (i*192+k*24) (bI (LQ (pt i) (k+1))):=by
 refine⟨h.1,?_⟩;have h1:w.rangeAt b (0+i*192) (aA (vQ (pt i))):=pJ (f:=fun j=>vQ (pt j)) (c:=192) (fun j=>Lz (pt j)) hi h.2;rw[aAh,Nat.zero_add]at h1;exact pJ (f:=uW (pt i)) (c:=24) (fun j=>rfl) hk h1
theorem Yl {w0:World} {gb go N N' bn on n m:Nat} {x:Nat→Nat} {pt:Nat→J2} {LP:List At} (hLP:aA LP=aA (fM (fun j=>bI (pt j)) 0 N)) (hP:oldOf w0 gb go LP) (hx:∀i,i<n→oldOf w0 bn (on+i*4) [.q (x i)]) (hN:N≤n) (hN2:N≤65536) (hn:n<4611686018427387904):Calls prog 176 #[dG gb go N N',dG bn on n m] w0 (fun e w'=>e=.returned (.agg (aA (bI (Wo (fun p=>OG pt x p N) (uQ x n/4+1) (uQ x n/4+1)))).toArray)∧Below w0.heap.size w0 w'):=by
 have hG:dC prog (qG prog) w0.heap.size w0:=(aJ _).w _ _;have hT:∀n d:Nat,TabOkW prog nV w0.heap.size w0:=fun _ _=>mT.w _ _
 have hXF:∀x:Ext,x.T2=Fr0→(∀b o l,¬x.old b o l)→dC prog (qX prog x) w0.heap.size w0:=fun x h2 h3=>GH (h2▸xF _) fun b o l h=>(h3 b o l h).elim
 have hP':oldOf w0 gb go (fM (fun j=>bI (pt j)) 0 N):=⟨hP.1,by rw[←hLP]; exact hP.2⟩;clear hP hLP;refine fT func176 (c:=dU) rfl (args:=[dG gb go N N',dG bn on n m]) (cs:=[.s (fM (fun j=>bI (pt j)) 0 N) N N',.v (.im (dG bn on n m))]) ⟨⟨gb,go,rfl,hP'.1,hP'.2⟩,rfl,trivial⟩ (Nat.le_of_ble_eq_true (by kernel_rfl)) fun a w' hA => ?_
 rw[aFG];refine wp_seq (aF aG hT hG (aSd _ N N' _) trivial hA fun a w' hA => ?_);refine wp_seq (UT (l:=List.range' 0 ((eI (cA (cB dU))).extract 0 4).size++(List.range' 4 ((eI (cA (cB dU))).extract 4 5).size++[])) (by kernel_rfl) ?_);refine dO (c:=CX) (hT 0) (hXF (aMV N (fM (fun _=>zT2) 0 N)) rfl fun _ _ _ h=>h) (aSc _ _ N N' _) ⟨?_,trivial⟩ (by kernel_rfl) hA fun a w' hA => ?_
 ·exact aMp (t:=220) (e:=222) (z:=zT2) (v:=.int .u64 0) (n:=192) (by8:=1536) (by kernel_rfl) (by kernel_rfl) Zf Zg (by omega) (by omega) (by omega)
 obtain⟨b,hA⟩:=hA.at (k:=11) (l:=fM (fun _=>zT2) 0 N) (by simp[aFF]);have hA:=hA.im (s:=11) (k:=11) (o:=0) (n:=N) (m:=N) (b:=b) (by simp[aFF]) (by simp);refine dO (c:=CX) (hT 0) hG (aSb _ _ N N' b _) trivial (by kernel_rfl) hA fun a w' hA => ?_
 refine wp_seq (wp_seq (aF aG hT hG (aSa _ _ N N' b _) trivial hA fun a w' hA => ?_));refine wp_block ?_;refine mD aG (fun i=>JT (fM (fun j=>bI (pt j)) 0 N) (wO (fun j=>vQ (pt j)) zT2 N i) N N' b (dG bn on n m) i) N (fun i hi => ?_) (.ex 0) (by simp) (JT (fM (fun j=>bI (pt j)) 0 N) (fM (fun j=>vQ (pt j)) 0 N) N N' b (dG bn on n m) N) ?_ (by rw[aDE]; exact hA) fun a w' hA => ?_
 ·exact⟨_,_,_,_,hXF (aWX N b i (pt i) _) rfl (fun _ _ _ h=>h),hT,aSe _ _ (wO (fun j=>vQ (pt j)) zT2 N (i+1)) N N' b _ i (pt i),cK hi,rfl,hi,DW (f:=fun j=>bI (pt j)) (c:=24) (fun j=>rfl) hi (Nat.zero_add _),rfl,rfl,rfl,hi,ZA (f:=fun j=>vQ (pt j)) (c:=192) (fun j=>Lz (pt j)) Zf hi (Nat.zero_add _),pR (k:=1) (by omega),trivial⟩
 ·rw[←aDD (fun j=>vQ (pt j)) zT2 N];exact⟨_,_,_,_,hG,hT,aLd _ _ N N' b _ N,gQ (Nat.le_refl _),trivial⟩
 refine wp_seq (aF aG hT hG (aRZ _ _ N N' b bn on n m N) trivial hA fun a w' hA => ?_);obtain⟨b5,hA⟩:=hA.at (k:=5) (l:=[.c (dG b 0 N N)]) (by simp[aFE]);obtain⟨b8,hA⟩:=hA.at (k:=8) (l:=iE bn on n m) (by simp[aFE]);refine wp_seq (UT (l:=List.range' 0 ((eI (cA (cB (cB (cB (cB dU)))))).extract 0 2).size++(2::(List.range' 3 ((eI (cA (cB (cB (cB (cB dU)))))).extract 3 4).size++[]))) (by kernel_rfl) ?_);refine dO (c:=CX) (hT 0) hG (aRY _ N b b5 b8 bn on n m) trivial (by kernel_rfl) hA fun a w' hA => ?_
 have hM:ClMem2 w' b5 b8 b N bn on n m x pt:=by
  refine⟨hA.old (k:=5) (by simp[DQ]) (by simp[DQ]),hA.old (k:=8) (by simp[DQ]) (by simp[DQ]),fun i hi=>(hx i hi).on hA.below (base:=0),fun i hi k hk => ?_⟩;exact aLc (hA.old (k:=11) (by simp[DQ]) (by simp[DQ])) hi hk
 have h27:=hA.slotF (s:=27) (l:=iE bn on n m) (by simp[DQ]);have h28:=hA.slot (s:=28) (v:=JM b5 b8) (by simp[DQ]);obtain⟨o,ho,hoo,hod,hog⟩:∃o,(eI (cA (cB (cB (cB (cB dU))))))[2]?=some o∧(∃ts,o.op=.call ⟨.value (.func 185),#[.tmp 27,.tmp 28],ts⟩)∧o.dst=some 29∧o.guard=none:=⟨_,rfl,⟨_,rfl⟩,rfl,rfl⟩
 obtain⟨ts,hoo⟩:=hoo;refine pE ho hog (Dm hoo (vs:=[.agg (aA (iE bn on n m)).toArray,JM b5 b8]) (by simp[Act.eval,h27,h28]) (fV func185 (by kernel_rfl) (by kernel_rfl) · _) (Wn hM hN hn) fun w'' hb => ?_);rw[hod];have hA:=hA.put hb (d:=29) (Nat.le_of_ble_eq_true (by kernel_rfl)) (.fl (bI (Wo (fun p=>OG pt x p N) (uQ x n/4+1) (uQ x n/4+1)))) (by
  have:(DQ (fM (fun j=>vQ (pt j)) 0 N) N b b5 b8 bn on n m).all (fun φ => !(mI (some 29) none φ))=true:=by kernel_rfl
  intro φ hφ;rw[List.all_eq_true]at this;simpa using this φ hφ)
 refine dO (c:=CX) (hT 0) hG (aRX _ N b b5 b8 bn on n m _) trivial (by kernel_rfl) hA fun a w' hA => ?_
 exact wp_ret (gZ (l:=[.fl (bI (Wo (fun p=>OG pt x p N) (uQ x n/4+1) (uQ x n/4+1)))]) (r:=.one (.fl (bI (Wo (fun p=>OG pt x p N) (uQ x n/4+1) (uQ x n/4+1))))) (by kernel_rfl) (by kernel_rfl) hA)
def Yj (p:iU):Int×J1:=zO p.1 p.2.1 p.2.2
def fO (p:cZ):Int×J2:=iN p.1 p.2.1 p.2.2
def nN (ps:Nat→cZ):Nat→Int
 | 0=>0
 | i+1=>if nN ps i≠0 then nN ps i else (fO (ps i)).1
theorem SM {ps:Nat→cZ}:∀{N:Nat},nN ps N=0→∀j,j<N→(fO (ps j)).1=0
 | N+1,h,j,hj=>by
  unfold nN at h
  by_cases h0:nN ps N=0
  ·rw[if_neg (fun q=>q h0)]at h
   by_cases e:j=N
   ·rw[e]; exact h
   ·exact SM h0 j (by omega)
  ·rw[if_pos h0]at h; exact (h0 h).elim
theorem Cd {ps:Nat→cZ}:∀{N:Nat},nN ps N≠0→∃j,j<N∧(∀k,k<j→(fO (ps k)).1=0)∧(fO (ps j)).1≠0∧nN ps N=(fO (ps j)).1
 | 0,h=>(h rfl).elim
 | N+1,h=>by
  unfold nN at h ⊢
  by_cases h0:nN ps N=0
  ·rw[if_neg (fun q=>q h0)]at h ⊢;exact⟨N,by omega,fun k hk=>SM h0 k hk,h,rfl⟩
  ·rw[if_pos h0];obtain⟨j,h1,h2,h3,h4⟩:=Cd h0;exact⟨j,by omega,h2,h3,h4⟩
def MN (ps:Nat→cZ) (j:Nat):J2:=(fO (ps j)).2
def uV (LG Z:List At) (N N' i:Nat):List Fact:=[.slot 1 (.sl 1 0 N N'),.row 1 false LG,.slot 2 (.pt 2 0),.row 2 true iO,.slot 6 (.sl 12 0 N N),.row 12 true Z,.slot 14 (.im (iI N)),.slot 15 (.im (iI i))]
def aSo (LG:List At) (N N':Nat):List Fact:=[.slot 1 (.sl 1 0 N N'),.row 1 false LG,.slot 2 (.pt 2 0),.row 2 true iO]
def aSn (LG Z:List At) (N N':Nat):List Fact:=[.slot 1 (.sl 1 0 N N'),.row 1 false LG,.slot 2 (.pt 2 0),.row 2 true iO,.slot 6 (.sl 12 0 N N),.row 12 true Z]
def iG:Code:=(f153.body).getD .skip
def uM:Code:=vG (vG (cB (cA (cB (cB iG)))))
theorem aFX:iG=.seq (cA iG) (.seq (cA (cB iG)) (.seq (.seq (cA (cA (cB (cB iG)))) (.block 0 (.loop uM))) (cB (cB (cB iG))))):=by kernel_rfl
def Kk (num:Nat→Option Value) (_:Nat):Cfg:=⟨fun _=>nV,fun _=>true,num⟩
theorem aSr (LG:List At) (N N':Nat):bE prog (qG prog) f153.ntmps (Kk fun _=>none) 40 (cA iG) (nU 0 [.v (.fl iO),.s LG N N']) (aSo LG N N')=some ([],.nrm,aSo LG N N'):=by kernel_rfl
def aNa (N:Nat) (Z:List At):Ext:={ xt0 (fun _ _ _=>False)with mks:=assoc [(12,(N,Z))] }
theorem aSq (LG Z:List At) (N N':Nat):bE prog (qX prog (aNa N Z)) f153.ntmps (Kk fun _=>none) 40 (cA (cB iG)) (aSo LG N N') (aSn LG Z N N')=some ([∃e,∀w:World,(Instr.makeSlice 193 (iI N) (iI N)).run prog w=.ok (.slice (some ⟨w.heap.size,0,none⟩) N N) (w.alloc (.cells (aA Z).toArray e))],.nrm,aSn LG Z N N'):=by kernel_rfl
theorem aSp (LG Z:List At) (N N':Nat):bE prog (qG prog) f153.ntmps (Kk fun _=>none) 40 (cA (cA (cB (cB iG)))) (aSn LG Z N N') (uV LG Z N N' 0)=some ([],.nrm,uV LG Z N N' 0):=by kernel_rfl
def aLl (i:Nat) (p:cZ) (Z':List At):Ext:={ xt0 (fun _ _ _=>False)with idx:=assoc [(23,i),(34,i)],ld:=assoc [(24,cJ p)],st:=assoc [(34,Z')] }
theorem aSs (LG Z Z':List At) (N N' i:Nat) (p:cZ):bE prog (qX prog (aLl i p Z')) f153.ntmps (Kk (assoc [(16,.bool true),(29,.bool false),(35,iI (i+1))])) 60 uM (uV LG Z N N' i) (uV LG Z' N N' (i+1))=some ([aH .lss .i64 (Int.ofNat i) (Int.ofNat N)=some (.bool true),Int.ofNat i=Int.ofNat i,i<N,gS LG (0+i*17) 17=some (cJ p),aH .neq .i64 (fO p).1 0=some (.bool false),Int.ofNat i=Int.ofNat i,i<N,put Z (0+i*24) (bI (fO p).2)=some Z',aH .add .i64 (Int.ofNat i) 1=some (iI (i+1))],.nrm,uV LG Z' N N' (i+1)):=by kernel_rfl
theorem aSt (LG Z:List At) (N N' i:Nat) (p:cZ):bE prog (qX prog (aLl i p Z)) f153.ntmps (Kk (assoc [(16,.bool true),(29,.bool true)])) 60 uM (uV LG Z N N' i) [.slot 4 (.im (.slice none 0 0)),.slot 5 (.im (.int .i64 (fO p).1))]=some ([aH .lss .i64 (Int.ofNat i) (Int.ofNat N)=some (.bool true),Int.ofNat i=Int.ofNat i,i<N,gS LG (0+i*17) 17=some (cJ p),aH .neq .i64 (fO p).1 0=some (.bool true)],.rt,[.slot 4 (.im (.slice none 0 0)),.slot 5 (.im (.int .i64 (fO p).1))]):=by kernel_rfl
theorem aLm (LG Z:List At) (N N' i:Nat):bE prog (qG prog) f153.ntmps (Kk (assoc [(16,.bool false)])) 40 uM (uV LG Z N N' i) (uV LG Z N N' i)=some ([aH .lss .i64 (Int.ofNat i) (Int.ofNat N)=some (.bool false)],.ex 0,uV LG Z N N' i):=by kernel_rfl
theorem aFV (LG Z:List At) (N N' i:Nat):bE prog (qG prog) f153.ntmps (Kk fun _=>none) 40 (cB (cB (cB iG))) (uV LG Z N N' i) [.slot 4 (.sl 12 0 N N),.row 12 true Z,.slot 5 (.im (.int .i64 0))]=some ([],.rt,[.slot 4 (.sl 12 0 N N),.row 12 true Z,.slot 5 (.im (.int .i64 0))]):=by kernel_rfl
theorem aEW:BY (aA (bI zL)) (.int .u64 0):=by unfold BY; kernel_rfl
theorem OU {w0:World} {args:List Value} {N N':Nat} {ps:Nat→cZ} (ha:bU w0 [.v (.fl iO),.s (fM (fun j=>cJ (ps j)) 0 N) N N'] args) (hN2:N≤65536) {R:Ending→World→Prop}
  (h:∀a w,Holds f153.ntmps w0.heap.size w0 (uV (fM (fun j=>cJ (ps j)) 0 N) (wO (fun j=>bI (MN ps j)) (bI zL) N 0) N N' 0) a w→(Code.loop uM).wp prog (fun e a w=>match e with | .exit 0=>(cB (cB (cB iG))).wp prog (bodyPost prog f153 R) a w | .ret=>bodyPost prog f153 R .ret a w|_=>False) a w):Calls prog 153 args.toArray w0 R:=by
 have hG:dC prog (qG prog) w0.heap.size w0:=(aJ _).w _ _;have hT:∀n d:Nat,TabOkW prog nV w0.heap.size w0:=fun _ _=>mT.w _ _
 refine fT func153 (c:=iG) rfl ha (Nat.le_of_ble_eq_true (by kernel_rfl)) fun a w' hA => ?_
 rw[aFX];refine wp_seq (aF aG hT hG (aSr _ N N') trivial hA fun a w' hA => ?_);refine wp_seq (aF aG hT (GH (x:=aNa N (fM (fun _=>bI zL) 0 N)) (xF _) fun _ _ _ h=>h.elim) (aSq _ (fM (fun _=>bI zL) 0 N) N N') ⟨aMp (t:=193) (e:=122) (z:=bI zL) (v:=.int .u64 0) (n:=24) (by8:=192) (by kernel_rfl) (by kernel_rfl) rfl aEW (by omega) (by omega) (by omega),trivial⟩ hA fun a w' hA => ?_);refine wp_seq (wp_seq (aF aG hT hG (aSp _ _ N N') trivial hA fun a w' hA => ?_));refine wp_block ?_;rw[←aDE (fun j=>bI (MN ps j))]at hA;refine Code.wp_mono (fun e a w h => ?_) (h a w' hA);cases e with
 | exit id =>
  cases id with
  | zero=>exact h
  | succ k=>exact h.elim
 | ret=>exact h
 | _=>exact h.elim
theorem Cy {w0:World} {N N':Nat} {ps:Nat→cZ} {i:Nat} (hi:i<N) (hN2:N≤65536) (h:(fO (ps i)).1=0):Ok prog w0.heap.size w0 f153.ntmps uM (uV (fM (fun j=>cJ (ps j)) 0 N) (wO (fun j=>bI (MN ps j)) (bI zL) N i) N N' i) .nrm (uV (fM (fun j=>cJ (ps j)) 0 N) (wO (fun j=>bI (MN ps j)) (bI zL) N (i+1)) N N' (i+1)) :=
 ⟨_,_,_,_,GH (x:=aLl i (ps i) _) (xF _) (fun _ _ _ h=>h.elim),fun _ _=>mT.w _ _,aSs _ _ (wO (fun j=>bI (MN ps j)) (bI zL) N (i+1)) N N' i (ps i),cK hi,rfl,hi,DW (f:=fun j=>cJ (ps j)) (c:=17) (fun j=>rfl) hi (Nat.zero_add _),NM h,rfl,hi,ZA (f:=fun j=>bI (MN ps j)) (c:=24) (fun j=>rfl) rfl hi (Nat.zero_add _),pR (k:=1) (by omega),trivial⟩
theorem aFW {w0:World} {args:List Value} {N N':Nat} {ps:Nat→cZ} (ha:bU w0 [.v (.fl iO),.s (fM (fun j=>cJ (ps j)) 0 N) N N'] args) (hN2:N≤65536) (h:nN ps N=0):Calls prog 153 args.toArray w0 (fun e w'=>FR.ok ⟨fM (fun j=>bI (MN ps j)) 0 N,N,N,[.im (.int .i64 0)]⟩ w0 e w'):=by
 have hG:dC prog (qG prog) w0.heap.size w0:=(aJ _).w _ _;have hT:∀n d:Nat,TabOkW prog nV w0.heap.size w0:=fun _ _=>mT.w _ _
 refine OU ha hN2 fun a w hA => ?_
 refine mD aG (fun i=>uV (fM (fun j=>cJ (ps j)) 0 N) (wO (fun j=>bI (MN ps j)) (bI zL) N i) N N' i) N (fun i hi=>Cy hi hN2 (SM h i hi)) (.ex 0) (by simp) (uV (fM (fun j=>cJ (ps j)) 0 N) (fM (fun j=>bI (MN ps j)) 0 N) N N' N) ?_ hA fun a w hA => ?_
 ·rw[←aDD (fun j=>bI (MN ps j)) (bI zL) N];exact⟨_,_,_,_,hG,hT,aLm _ _ N N' N,gQ (Nat.le_refl _),trivial⟩
 ·show (cB (cB (cB iG))).wp _ _ _ _;exact aF aG hT hG (aFV _ _ N N' N) trivial hA fun a w' hA=>Xs (r:=⟨fM (fun j=>bI (MN ps j)) 0 N,N,N,[.im (.int .i64 0)]⟩) (by kernel_rfl) hA
theorem aFY {w0:World} {args:List Value} {N N':Nat} {ps:Nat→cZ} (ha:bU w0 [.v (.fl iO),.s (fM (fun j=>cJ (ps j)) 0 N) N N'] args) (hN2:N≤65536) (h:nN ps N≠0):Good prog 153 (.many [.im (.slice none 0 0),.im (.int .i64 (nN ps N))]) args w0:=by
 have hG:dC prog (qG prog) w0.heap.size w0:=(aJ _).w _ _;have hT:∀n d:Nat,TabOkW prog nV w0.heap.size w0:=fun _ _=>mT.w _ _
 obtain⟨j,hj,h1,h2,h3⟩:=Cd h;rw[h3];refine OU ha hN2 fun a w hA => ?_
 refine mD aG (fun i=>uV (fM (fun j=>cJ (ps j)) 0 N) (wO (fun j=>bI (MN ps j)) (bI zL) N i) N N' i) j (fun i hi=>Cy (by omega) hN2 (h1 i hi)) .rt (by simp) [.slot 4 (.im (.slice none 0 0)),.slot 5 (.im (.int .i64 (fO (ps j)).1))] ?_ hA fun a w hA => ?_
 ·exact⟨_,_,_,_,GH (x:=aLl j (ps j) _) (xF _) (fun _ _ _ h=>h.elim),fun _ _=>mT.w _ _,aSt _ _ N N' j (ps j),cK hj,rfl,hj,DW (f:=fun j=>cJ (ps j)) (c:=17) (fun j=>rfl) hj (Nat.zero_add _),NL h2,trivial⟩
 ·exact gZ (l:=[.im (.slice none 0 0),.im (.int .i64 (fO (ps j)).1)]) (r:=.many [.im (.slice none 0 0),.im (.int .i64 (fO (ps j)).1)]) (by kernel_rfl) (by kernel_rfl) hA
def FK (pt:Nat→J2) (x:Nat→Nat) (N:Nat):J2:=Wo (fun p=>OG pt x p N) (uQ x N/4+1) (uQ x N/4+1)
def aQW (pt:Nat→J2) (x:Nat→Nat) (N:Nat):kI
 | [.s LP n1 n2,.s LX n3 n4]=>some ([aA LP=aA (fM (fun j=>bI (pt j)) 0 N),aA LX=aA (fM (fun j=>[.q (x j)]) 0 N),n1=N,n3=N,N≤65536],.one (.fl (bI (FK pt x N))))
 | _=>none
theorem aKw {w:World} {pt:Nat→J2} {x:Nat→Nat} {N:Nat}:∀cs pre r,aQW pt x N cs=some (pre,r)→aZ pre→∀(args:List Value),bU w cs args→Good prog 176 r args w:=by
 intro cs pre r hg hq args ha;unfold aQW at hg;split at hg
 ·rename_i LP n1 n2 LX n3 n4;cases hg;obtain⟨h1,h2,rfl,rfl,h5,_⟩:=hq
  match args,ha with
  | [u,v],ha =>
   obtain⟨b1,o1,e1,hb1,hr1⟩:=ha.1;obtain⟨b2,o2,e2,hb2,hr2⟩:=ha.2.1;subst e1; subst e2;refine Yl h1 ⟨hb1,hr1⟩ (fun j hj=>⟨hb2,?_⟩) (Nat.le_refl _) h5 (by omega);rw[h2]at hr2;exact pJ (f:=fun j=>[At.q (x j)]) (c:=4) (fun _=>rfl) hj hr2
  | [],ha=>exact ha.elim
  | [_],ha=>exact ha.2.elim
  | _::_::_::_,ha=>exact ha.2.2.elim
 ·cases hg
theorem aHN (LP LX:List At) (n1 n2 n3 n4 N:Nat) (pt:Nat→J2) (x:Nat→Nat):aU prog (qG prog) (fun _=>⟨fun _=>(nV).add 176 (aQW pt x N),fun _=>true,assoc [(7,.bool true)]⟩) f154 40 [.s LP n1 n2,.s LX n3 n4]=some ([aH .lss .i64 (Int.ofNat n1) 32=some (.bool true),aA LP=aA (fM (fun j=>bI (pt j)) 0 N),aA LX=aA (fM (fun j=>[.q (x j)]) 0 N),n1=N,n3=N,N≤65536],.one (.fl (bI (FK pt x N)))):=by kernel_rfl
def aQK (pt:Nat→J2) (x:Nat→Nat) (N:Nat):kI
 | [.s LP n1 n2,.s LX n3 n4]=>some ([aA LP=aA (fM (fun j=>bI (pt j)) 0 N),aA LX=aA (fM (fun j=>[.q (x j)]) 0 N),n1=N,n3=N,N<32],.one (.fl (bI (FK pt x N))))
 | _=>none
theorem aKp {w:World} {pt:Nat→J2} {x:Nat→Nat} {N:Nat}:∀cs pre r,aQK pt x N cs=some (pre,r)→aZ pre→∀(args:List Value),bU w cs args→Good prog 154 r args w:=by
 intro cs pre r hg hq args ha;unfold aQK at hg;split at hg
 ·rename_i LP n1 n2 LX n3 n4;cases hg;obtain⟨h1,h2,h3,h4,h5,_⟩:=hq;exact bX aG (fun _ _=>TabOkW.add (mT.w _ _) func176 (by kernel_rfl) (by kernel_rfl) fun w hw=>aKw) ((aJ prog).w _ _) func154 (aHN LP LX n1 n2 n3 n4 N pt x) ⟨by rw[h3]; exact cK (n:=32) h5,h1,h2,h3,h4,by omega,trivial⟩ ha
 ·cases hg
def aQZ (ps:Nat→cZ) (N:Nat):List CA→Option (List Prop×FR)
 | [.v (.fl l),.s L n1 n2]=>some ([aA l=aA iO,aA L=aA (fM (fun j=>cJ (ps j)) 0 N),n1=N,N≤65536,nN ps N=0],⟨fM (fun j=>bI (MN ps j)) 0 N,N,N,[.im (.int .i64 0)]⟩)
 | _=>none
def aRa (ps:Nat→cZ) (N:Nat):kI
 | [.v (.fl l),.s L n1 n2]=>some ([aA l=aA iO,aA L=aA (fM (fun j=>cJ (ps j)) 0 N),n1=N,N≤65536,nN ps N≠0],.many [.im (.slice none 0 0),.im (.int .i64 (nN ps N))])
 | _=>none
theorem Sg {w:World} {ps:Nat→cZ} {N n1 n2:Nat} {l L:List At} (h1:aA l=aA iO) (h2:aA L=aA (fM (fun j=>cJ (ps j)) 0 N)) {args:List Value} (ha:bU w [.v (.fl l),.s L n1 n2] args):bU w [.v (.fl iO),.s (fM (fun j=>cJ (ps j)) 0 N) n1 n2] args:=by
 match args,ha with
 | [u,v],ha =>
  obtain⟨b,o,e,hb,hr⟩:=ha.2.1;refine⟨?_,⟨b,o,e,hb,by rw[←h2]; exact hr⟩,trivial⟩;show u=.agg (aA iO).toArray;rw[←h1]; exact ha.1
 | [],ha=>exact ha.elim
 | [_],ha=>exact ha.2.elim
 | _::_::_::_,ha=>exact ha.2.2.elim
theorem aKx {ps:Nat→cZ} {N:Nat}:∀cs pre r,aQZ ps N cs=some (pre,r)→aZ pre→∀(args:List Value) (w:World),bU w cs args→Calls prog 153 args.toArray w (fun e w'=>r.ok w e w'):=by
 intro cs pre r hg hq args w ha;unfold aQZ at hg;split at hg
 ·cases hg;obtain⟨h1,h2,rfl,h4,h5,_⟩:=hq;exact aFW (Sg h1 h2 ha) h4 h5
 ·cases hg
theorem aKy {ps:Nat→cZ} {N:Nat}:∀cs pre r,aRa ps N cs=some (pre,r)→aZ pre→∀(args:List Value) (w:World),bU w cs args→Good prog 153 r args w:=by
 intro cs pre r hg hq args w ha;unfold aRa at hg;split at hg
 ·cases hg;obtain⟨h1,h2,rfl,h4,h5,_⟩:=hq;exact aFY (Sg h1 h2 ha) h4 h5
 ·cases hg
def aTn (ps:Nat→cZ) (N:Nat):Ext:={ xt0 (fun _ _ _=>False)with T2:=Fr0.add 153 (aQZ ps N) }
theorem aGJ (ps:Nat→cZ) (N:Nat) (w:World):dC prog (qX prog (aTn ps N)) w.heap.size w:=GH ((xF _).add func153 (by kernel_rfl) (by kernel_rfl) aKx) fun _ _ _ h=>h.elim
theorem Us (LG LX:List At) (N n2 n n4:Nat) (ps:Nat→cZ):aU prog (qG prog) (fun _=>⟨fun _=>(nV).add 153 (aRa ps N),fun _=>true,assoc [(15,.bool false),(19,.bool false),(29,.bool true)]⟩) f129 60 [.v (.fl iO),.s LG N n2,.s LX n n4]=some ([aH .neq .i64 (Int.ofNat N) (Int.ofNat n)=some (.bool false),aH .gtr .i64 (Int.ofNat N) 65536=some (.bool false),aA iO=aA iO,aA LG=aA (fM (fun j=>cJ (ps j)) 0 N),N=N,N≤65536,nN ps N≠0,aH .neq .i64 (nN ps N) 0=some (.bool true)],.many [.fl (gI (some (F2.zero,F2.zero))),.im (.int .i64 (nN ps N))]):=by kernel_rfl
theorem Ur (LG LX:List At) (N n2 n n4:Nat) (ps:Nat→cZ) (x:Nat→Nat):aU prog (qX prog (aTn ps N)) (fun _=>⟨fun _=>(nV).add 154 (aQK (MN ps) x N),fun _=>true,assoc [(15,.bool false),(19,.bool false)]⟩) f129 60 [.v (.fl iO),.s LG N n2,.s LX n n4]=some ([aH .neq .i64 (Int.ofNat N) (Int.ofNat n)=some (.bool false),aH .gtr .i64 (Int.ofNat N) 65536=some (.bool false),aA iO=aA iO,aA LG=aA (fM (fun j=>cJ (ps j)) 0 N),N=N,N≤65536,nN ps N=0,aA (fM (fun j=>bI (MN ps j)) 0 N)=aA (fM (fun j=>bI (MN ps j)) 0 N),aA LX=aA (fM (fun j=>[.q (x j)]) 0 N),N=N,n=N,N<32],.many [.fl (gI (iA F2 dW (FK (MN ps) x N))),.im (.int .i64 0)]):=by kernel_rfl
def kG (ps:Nat→cZ) (x:Nat→Nat) (N:Nat):Pt Q2×Int:=if nN ps N≠0 then (some (F2.zero,F2.zero),nN ps N)else (iA F2 dW (FK (MN ps) x N),0)
theorem Xf {w0:World} {args:List Value} {LG LX:List At} {N n2 n4:Nat} {ps:Nat→cZ} {x:Nat→Nat} (h1:aA LG=aA (fM (fun j=>cJ (ps j)) 0 N)) (h2:aA LX=aA (fM (fun j=>[.q (x j)]) 0 N)) (hN:N<32) (ha:bU w0 [.v (.fl iO),.s LG N n2,.s LX N n4] args):Good prog 129 (.many [.fl (gI (kG ps x N).1),.im (.int .i64 (kG ps x N).2)]) args w0:=by
 have g1:aH .neq .i64 (Int.ofNat N) (Int.ofNat N)=some (.bool false):=by rw[Ou,decide_eq_false (by simp)]
 have g2:aH .gtr .i64 (Int.ofNat N) 65536=some (.bool false):=by
  have:=NJ (i:=N) (n:=65536);rw[decide_eq_false (by omega)]at this;exact this
 unfold kG
 by_cases h:nN ps N=0
 ·rw[if_neg (fun q=>q h)];exact bX aG (fun _ _=>TabOkW.add (mT.w _ _) func154 (by kernel_rfl) (by kernel_rfl) fun w hw=>aKp) (aGJ ps N w0) func129 (Ur LG LX N n2 N n4 ps x) ⟨g1,g2,rfl,h1,rfl,by omega,h,rfl,h2,rfl,rfl,hN,trivial⟩ ha
 ·rw[if_pos h];exact bX aG (fun _ _=>(mT.add func153 (by kernel_rfl) (by kernel_rfl) aKy).w _ _) ((aJ prog).w _ _) func129 (Us LG LX N n2 N n4 ps) ⟨g1,g2,rfl,h1,rfl,by omega,h,NL h,trivial⟩ ha
def p2 {A:Type} (p q:A):Nat→A|0=>p|_+1=>q
def p3 {A:Type} (p q r:A):Nat→A|0=>p|1=>q|_+2=>r
def aQM (ps:Nat→cZ) (x:Nat→Nat) (N:Nat):kI
 | [.v (.fl l),.s L n1 n2,.s X n3 n4]=>some ([aA l=aA iO,aA L=aA (fM (fun j=>cJ (ps j)) 0 N),aA X=aA (fM (fun j=>[.q (x j)]) 0 N),n1=N,n3=N,N<32],.many [.fl (gI (kG ps x N).1),.im (.int .i64 (kG ps x N).2)])
 | _=>none
theorem aKq {ps:Nat→cZ} {x:Nat→Nat} {N:Nat}:∀cs pre r,aQM ps x N cs=some (pre,r)→aZ pre→∀(args:List Value) (w:World),bU w cs args→Good prog 129 r args w:=by
 intro cs pre r hg hq args w ha;unfold aQM at hg;split at hg
 ·rename_i l L n1 n2 X n3 n4;cases hg;obtain⟨h1,h2,h3,rfl,rfl,h6,_⟩:=hq;refine Xf (LG:=L) (LX:=X) (n2:=n2) (n4:=n4) h2 h3 h6 ?_
  match args,ha with
  | [u,v,t],ha =>
   refine⟨?_,ha.2.1,ha.2.2.1,trivial⟩;show u=.agg (aA iO).toArray;rw[←h1]; exact ha.1
  | [],ha=>exact ha.elim
  | [_],ha=>exact ha.2.elim
  | [_,_],ha=>exact ha.2.2.elim
  | _::_::_::_::_,ha=>exact ha.2.2.2.elim
 ·cases hg
theorem Vm (p:cZ) (n:Nat):aU prog (qG prog) (fun _=>⟨fun s=>(BV true).add 129 (aQM (fun _=>p) (fun _=>n) 1),fun s=>true,fun _=>none⟩) f88 60 [.v (.fl (cJ p)),.v (.fl [.q n])]=some ([aA iO=aA iO,aA (cJ p)=aA (fM (fun j=>cJ p) 0 1),aA [.q n]=aA (fM (fun j=>[At.q n]) 0 1),1=1,1=1,1<32],.many [.fl (gI (kG (fun _=>p) (fun _=>n) 1).1),.im (.int .i64 (kG (fun _=>p) (fun _=>n) 1).2)]):=by kernel_rfl
def uX (p:cZ):Pt Q2×Int:=if (iN p.1 p.2.1 p.2.2).1≠0 then ((some (F2.zero,F2.zero)),(iN p.1 p.2.1 p.2.2).1)else (iA F2 dW (BE F2 (iN p.1 p.2.1 p.2.2).2),0)
def aQI:kI
 | [.v (.fl l),.v (.fl m)]=>match Dg m with
  | some p=>some ([aA l=aA iO],.many [.fl (gI (uX p).1),.im (.int .i64 (uX p).2)])
  | none=>none
 | _=>none
theorem aKo:∀cs pre r,aQI cs=some (pre,r)→aZ pre→∀(args:List Value) (w:World),bU w cs args→Good prog 117 r args w:=by
 intro cs pre r hg hq args w ha;unfold aQI at hg;split at hg
 ·rename_i l m;split at hg
  ·rename_i p hp;cases hg;obtain⟨h1,_⟩:=hq;have hb:bU w [.v (.fl iO),.v (.fl (cJ p))] args:=by
    match args,ha with
    | [u,v],ha =>
     refine⟨?_,?_,trivial⟩
     ·show u=.agg (aA iO).toArray;rw[←h1]; exact ha.1
     ·show v=.agg (aA (cJ p)).toArray;rw[←iY m p hp]; exact ha.2.1
    | [],ha=>exact ha.elim
    | [_],ha=>exact ha.2.elim
    | _::_::_::_,ha=>exact ha.2.2.elim
   unfold uX
   by_cases h:(iN p.1 p.2.1 p.2.2).1=0
   ·rw[if_neg (fun q=>q h)];exact aB aG (fun _ s=>yI _) (aJ prog) func117 (XW true p) ⟨NM h,trivial⟩ hb
   ·rw[if_pos h];exact aB aG (fun _ s=>yI _) (aJ prog) func117 (XV true p) ⟨NL h,trivial⟩ hb
  ·cases hg
 ·cases hg
theorem Vl (p:cZ):aU prog (qG prog) (fun _=>⟨fun s=>(BV true).add 117 aQI,fun s=>true,fun _=>none⟩) f69 60 [.v (.fl (cJ p))]=some ([aA iO=aA iO],.many [.fl (gI (uX p).1),.im (.int .i64 (uX p).2)]):=by kernel_rfl
def Sn:Tab:=((BV true)).add 88 (g2 Dg LI fun p n=>([],.many [.fl (gI (kG (fun _=>p) (fun _=>n) 1).1),.im (.int .i64 (kG (fun _=>p) (fun _=>n) 1).2)]))
theorem aCF:TabOk prog Sn:=((yI true)).add func88 (by kernel_rfl) (by kernel_rfl) (fS iY gD fun p n hp args w ha=>aB aG (fun _ s=>(yI true).add func129 (by kernel_rfl) (by kernel_rfl) aKq) (aJ prog) func88 (Vm p n) ⟨rfl,rfl,rfl,rfl,rfl,by omega,trivial⟩ ha)
def Sm:Tab:=(Sn).add 69 (g1 Dg fun p=>([],.many [.fl (gI (uX p).1),.im (.int .i64 (uX p).2)]))
theorem Aq:TabOk prog Sm:=(aCF).add func69 (by kernel_rfl) (by kernel_rfl) (bJ iY fun p hp args w ha=>aB aG (fun _ s=>(yI true).add func117 (by kernel_rfl) (by kernel_rfl) aKo) (aJ prog) func69 (Vl p) ⟨rfl,trivial⟩ ha)
def aQL:kI
 | [.v (.im (.int .i64 (.ofNat 1)))]=>some ([],.one (.fl (q1 FP.M)))
 | [.v (.im (.int .i64 (.ofNat 2)))]=>some ([],.one (.fl (q1 Go.Proofs.YtjkpglhlmknciaaGreat.FR.M)))
 | _=>none
theorem aIj:∀cs pre r,aQL cs=some (pre,r)→aZ pre→∀(args:List Value) (w:World),bU w cs args→Good prog 73 r args w:=by
 intro cs pre r hg hp args w ha;unfold aQL at hg;split at hg
 ·cases hg
  match args,ha with
  | [v],ha =>
   have h1:v=.int .i64 1:=ha.1;subst h1;exact (jH 1 FP (Or.inl ⟨rfl,rfl⟩) w).mono fun e w' h=>h
  | [],ha=>exact ha.elim
  | _::_::_,ha=>exact ha.2.elim
 ·cases hg
  match args,ha with
  | [v],ha =>
   have h1:v=.int .i64 2:=ha.1;subst h1;exact (jH 2 Go.Proofs.YtjkpglhlmknciaaGreat.FR (Or.inr ⟨rfl,rfl⟩) w).mono fun e w' h=>h
  | [],ha=>exact ha.elim
  | _::_::_,ha=>exact ha.2.elim
 ·cases hg
def rX (n:Nat):Bool:=EM (wv n) FP.M
def aQX:kI
 | [.v (.im (.int .i64 (.ofNat 1))),.v (.fl l)]=>match LI l with
  | some n=>some ([],.one (.im (.bool (rX n))))
  | none=>none
 | _=>none
theorem aFP:∀cs pre r,aQX cs=some (pre,r)→aZ pre→∀(args:List Value) (w:World),bU w cs args→Good prog 37 r args w:=by
 intro cs pre r hg hp args w ha;unfold aQX at hg;split at hg
 ·rename_i l;split at hg
  ·rename_i n hn;cases hg
   match args,ha with
   | [v,u],ha =>
    have h1:v=.int .i64 1:=ha.1;have h2:u=.agg (aA l).toArray:=ha.2.1;rw[gD l _ hn]at h2;subst h1; subst h2;exact QO 1 FP (Or.inl ⟨rfl,rfl⟩) _ _ _ _ (cQ n) w
   | [],ha=>exact ha.elim
   | [_],ha=>exact ha.2.elim
   | _::_::_::_,ha=>exact ha.2.2.elim
  ·cases hg
 ·cases hg
def gRN:kI
 | [.v (.im (.int .i64 (.ofNat 1))),.v (.fl l)]=>match VW l with
  | some x=>some ([],.one (.fl (e1 (F1.neg x))))
  | none=>none
 | _=>none
theorem aQF:∀cs pre r,gRN cs=some (pre,r)→aZ pre→∀(args:List Value) (w:World),bU w cs args→Good prog 152 r args w:=by
 intro cs pre r hg hp args w ha;unfold gRN at hg;split at hg
 ·rename_i l;split at hg
  ·rename_i x hx;obtain⟨a,e1,rfl⟩:=iV l x hx;cases hg
   match args,ha with
   | [v,u],ha =>
    have h1:v=.int .i64 1:=ha.1;have h2:u=.agg (aA l).toArray:=ha.2.1;rw[e1]at h2;subst h1; subst h2;refine (GE 1 FP (Or.inl ⟨rfl,rfl⟩) _ _ _ _ (cQ a) w).mono fun e w' h => ?_
    exact FwPost.of (Nat.mod_lt _ gF) h
   | [],ha=>exact ha.elim
   | [_],ha=>exact ha.2.elim
   | _::_::_::_,ha=>exact ha.2.2.elim
  ·cases hg
 ·cases hg
def So:Tab:=(Sm).add 73 aQL
theorem aCJ:TabOk prog So:=(Aq).add func73 (by kernel_rfl) (by kernel_rfl) aIj
def Sp:Tab:=(So).add 37 aQX
theorem aCK:TabOk prog Sp:=(aCJ).add func37 (by kernel_rfl) (by kernel_rfl) aFP
def UI:Tab:=(Sp).add 152 gRN
theorem Ar:TabOk prog UI:=(aCK).add func152 (by kernel_rfl) (by kernel_rfl) aQF
theorem Fy (x y:Nat):aU prog (qG prog) (fun _=>⟨fun s=>UI,fun s=>true,fun _=>none⟩) f39 60 [.v (.fl (q1 x)),.v (.fl (q1 y))]=some ([],.one (.fl (e1 (F1.add (m1 x) (m1 y))))):=by kernel_rfl
def KF:Tab:=(UI).add 39 (g2 VW VW (fun x y=>([],.one (.fl (e1 (F1.add x y))))))
theorem NC:TabOk prog KF:=(Ar).add func39 (by kernel_rfl) (by kernel_rfl) (jZ iV iV fun x y hp args w ha=>aB aG (fun _ s=>Ar) (aJ prog) func39 (Fy x y) trivial ha)
theorem Fx (x y:Nat):aU prog (qG prog) (fun _=>⟨fun s=>KF,fun s=>true,fun _=>none⟩) f38 60 [.v (.fl (q1 x)),.v (.fl (q1 y))]=some ([],.one (.fl (e1 (F1.mul (m1 x) (m1 y))))):=by kernel_rfl
def zH:Tab:=(KF).add 38 (g2 VW VW (fun x y=>([],.one (.fl (e1 (F1.mul x y))))))
theorem AQ:TabOk prog zH:=(NC).add func38 (by kernel_rfl) (by kernel_rfl) (jZ iV iV fun x y hp args w ha=>aB aG (fun _ s=>NC) (aJ prog) func38 (Fx x y) trivial ha)
section
variable {R:Type} (K:CR R)
def rdS (p:Jc R):R:=K.add (K.add (K.mul p.1 (K.mul p.2.1 p.2.1)) (K.mul p.1 (K.mul p.2.1 p.2.1))) (K.add (K.mul p.1 (K.mul p.2.1 p.2.1)) (K.mul p.1 (K.mul p.2.1 p.2.1)))
def rdM (p:Jc R):R:=K.add (K.mul p.1 p.1) (K.add (K.mul p.1 p.1) (K.mul p.1 p.1))
def rdX (p:Jc R):R:=K.sub (K.mul (rdM K p) (rdM K p)) (K.add (rdS K p) (rdS K p))
def rdF (p:Jc R):R:=K.mul (K.mul p.2.1 p.2.1) (K.mul p.2.1 p.2.1)
def aUa (p:Jc R):R:=K.add (rdF K p) (rdF K p)
def aTZ (p:Jc R):R:=K.add (aUa K p) (aUa K p)
def aTY (p:Jc R):R:=K.add (aTZ K p) (aTZ K p)
def aOG (p:Jc R):Jc R:=(rdX K p,K.sub (K.mul (rdM K p) (K.sub (rdS K p) (rdX K p))) (aTY K p),K.mul (K.add p.2.1 p.2.1) p.2.2)
theorem aOI (p:Jc R):rdM K p=dSl K p:=(K.add_assoc _ _ _).symm
theorem aOH (p:Jc R):rdS K p=dBa K p :=
 aE K (aW K [p.1,p.2.1]) (Z0*(Z1*Z1)+Z0*(Z1*Z1)+(Z0*(Z1*Z1)+Z0*(Z1*Z1))) (Z0*(Z1*Z1+Z1*Z1+(Z1*Z1+Z1*Z1))) (by decide)
theorem aOJ (p:Jc R):aTY K p=K.mul (dFo K p) (dTw K p) :=
 aE K (aW K [p.2.1]) (Z0*Z0*(Z0*Z0)+Z0*Z0*(Z0*Z0)+(Z0*Z0*(Z0*Z0)+Z0*Z0*(Z0*Z0))+(Z0*Z0*(Z0*Z0)+Z0*Z0*(Z0*Z0)+(Z0*Z0*(Z0*Z0)+Z0*Z0*(Z0*Z0)))) ((Z0*Z0+Z0*Z0+(Z0*Z0+Z0*Z0))*(Z0*Z0+Z0*Z0)) (by decide)
theorem aIs (p:Jc R):aOG K p=cN K p:=by
 unfold aOG cN dX dY rdX;rw[aOI,aOH,aOJ];rfl
end
theorem Tr (x y:N2):aU prog (qG prog) (fun _=>⟨fun s=>zH,fun s=>true,fun _=>none⟩) f44 60 [.v (.fl (cJ (x,y,true)))]=some ([],.one (.fl (bI (F2.one,F2.one,F2.zero)))):=by kernel_rfl
theorem Ts (x y:N2):aU prog (qG prog) (fun _=>⟨fun s=>zH,fun s=>true,fun _=>none⟩) f44 60 [.v (.fl (cJ (x,y,false)))]=some ([],.one (.fl (q2 x++(q2 y++e2 F2.one)))):=by kernel_rfl
def wd2 (p:cZ):J2:=bif p.2.2 then (F2.one,F2.one,F2.zero)else (m2 p.1,m2 p.2.1,F2.one)
theorem aNu (p:cZ) (hp:p.2.2=false→rM p.1∧rM p.2.1) (args:List Value) (w:World) (ha:bU w [.v (.fl (cJ p))] args):Good prog 44 (.one (.fl (bI (wd2 p)))) args w:=by
 obtain⟨x,y,b⟩:=p;cases b with
 | true=>exact aB aG (fun _ s=>AQ) (aJ prog) func44 (Tr x y) trivial ha
 | false =>
  obtain⟨hx,hy⟩:=hp rfl;refine Good.congr (r:=.one (.fl (q2 x++(q2 y++e2 F2.one)))) (aB aG (fun _ s=>AQ) (aJ prog) func44 (Ts x y) trivial ha) ?_;have e:aA (q2 x++(q2 y++e2 F2.one))=aA (bI (m2 x,m2 y,F2.one)):=by
   rw[aP,aP,Sa hx,Sa hy];rfl
  show Value.agg (aA _).toArray=.agg (aA _).toArray;rw[e];rfl
def aGd:Tab:=(zH).add 44 (g1 Dg fun p=>([p.2.2=false→rM p.1∧rM p.2.1],.one (.fl (bI (wd2 p)))))
theorem aCt:TabOk prog aGd:=(AQ).add func44 (by kernel_rfl) (by kernel_rfl) (bJ iY fun p hp args w ha=>aNu p hp.1 args w ha)
theorem aAQ (p:J2):aU prog (qG prog) (fun _=>⟨fun s=>aGd,fun s=>true,fun _=>none⟩) f80 80 [.v (.fl (bI p))]=some ([],.one (.fl (bI (aOG F2 p)))):=by kernel_rfl
def xA:Tab:=(aGd).add 80 (g1 YQ fun p=>([],.one (.fl (bI (cN F2 p)))))
theorem uC:TabOk prog xA:=(aCt).add func80 (by kernel_rfl) (by kernel_rfl) (bJ iX fun p hp args w ha=>by rw[←aIs]; exact aB aG (fun _ s=>aCt) (aJ prog) func80 (aAQ p) trivial ha)
theorem Fh (p q:J2):aU prog (qG prog) (fun _=>⟨fun s=>xA,fun s=>true,fun _=>none⟩) f82 100 [.v (.fl (bI p)),.v (.fl (bI q))]=some ([aA (e2 (p.2.2))=aA (e2 F2.zero)],.one (.fl (bI q))):=by kernel_rfl
theorem Fg (p q:J2):aU prog (qG prog) (fun _=>⟨fun s=>xA,fun s => !(Nat.beq s 20),fun _=>none⟩) f82 100 [.v (.fl (bI p)),.v (.fl (bI q))]=some ([aA (e2 (p.2.2))≠aA (e2 F2.zero),aA (e2 (q.2.2))=aA (e2 F2.zero)],.one (.fl (bI p))):=by kernel_rfl
theorem Ff (p q:J2):aU prog (qG prog) (fun _=>⟨fun s=>xA,fun s => !(Nat.beq s 20||Nat.beq s 25),fun _=>none⟩) f82 100 [.v (.fl (bI p)),.v (.fl (bI q))]=some ([aA (e2 (p.2.2))≠aA (e2 F2.zero),aA (e2 (q.2.2))≠aA (e2 F2.zero),aA (e2 (vC F2 p q))=aA (e2 F2.zero),aA (e2 (NW F2 p q))=aA (e2 F2.zero)],.one (.fl (bI (cN F2 p)))):=by kernel_rfl
theorem Fe (p q:J2):aU prog (qG prog) (fun _=>⟨fun s=>xA,fun s => !(Nat.beq s 20||Nat.beq s 25||Nat.beq s 71),fun _=>none⟩) f82 100 [.v (.fl (bI p)),.v (.fl (bI q))]=some ([aA (e2 (p.2.2))≠aA (e2 F2.zero),aA (e2 (q.2.2))≠aA (e2 F2.zero),aA (e2 (vC F2 p q))=aA (e2 F2.zero),aA (e2 (NW F2 p q))≠aA (e2 F2.zero),aA (e2 (vC F2 p q))=aA (e2 F2.zero)],.one (.fl (bI (F2.one,F2.one,F2.zero)))):=by kernel_rfl
theorem Fd (p q:J2):aU prog (qG prog) (fun _=>⟨fun s=>xA,fun s=>false,fun _=>none⟩) f82 100 [.v (.fl (bI p)),.v (.fl (bI q))]=some ([aA (e2 (p.2.2))≠aA (e2 F2.zero),aA (e2 (q.2.2))≠aA (e2 F2.zero),aA (e2 (vC F2 p q))≠aA (e2 F2.zero),aA (e2 (vC F2 p q))≠aA (e2 F2.zero)],.one (.fl (bI (DN F2 p q)))):=by kernel_rfl
theorem aIf (p q:J2) (args:List Value) (w:World) (ha:bU w [.v (.fl (bI p)),.v (.fl (bI q))] args):Good prog 82 (.one (.fl (bI (rplus F2 p q)))) args w:=by
 unfold rplus
 by_cases h1:p.2.2=F2.zero
 ·rw[if_pos h1];exact aB aG (fun _ s=>uC) (aJ prog) func82 (Fh p q) ⟨by rw[h1],trivial⟩ ha
 ·rw[if_neg h1]
  by_cases h2:q.2.2=F2.zero
  ·rw[if_pos h2];exact aB aG (fun _ s=>uC) (aJ prog) func82 (Fg p q) ⟨cS h1,by rw[h2],trivial⟩ ha
  ·rw[if_neg h2]
   by_cases h3:vC F2 p q=F2.zero
   ·by_cases h4:NW F2 p q=F2.zero
    ·rw[if_pos ⟨h3,h4⟩];exact aB aG (fun _ s=>uC) (aJ prog) func82 (Ff p q) ⟨cS h1,cS h2,by rw[h3],by rw[h4],trivial⟩ ha
    ·rw[if_neg (fun h=>h4 h.2),if_pos h3];exact aB aG (fun _ s=>uC) (aJ prog) func82 (Fe p q) ⟨cS h1,cS h2,by rw[h3],cS h4,by rw[h3],trivial⟩ ha
   ·rw[if_neg (fun h=>h3 h.1),if_neg h3];exact aB aG (fun _ s=>uC) (aJ prog) func82 (Fd p q) ⟨cS h1,cS h2,cS h3,cS h3,trivial⟩ ha
def aGh:Tab:=(xA).add 82 (g2 YQ YQ fun p q=>([],.one (.fl (bI (rplus F2 p q)))))
theorem aJw:TabOk prog aGh:=(uC).add func82 (by kernel_rfl) (by kernel_rfl) (fS iX iX fun p q hp args w ha=>aIf p q args w ha)
end Go.Proofs.YtjkpglhlmknciaaGreat.Ex
namespace Go.Proofs.YtjkpglhlmknciaaGreat.R1
open Go.Proofs.Tryz
open Go.RowKit
theorem len_down {A m:Nat} (h:A<2^(m+1)) (hb:gA A m=0):A<2^m:=by
 unfold gA at hb;have h1:A/2^m<2:=by rw[Nat.div_lt_iff_lt_mul (Nat.pow_pos (by omega)),Nat.mul_comm,←Nat.pow_succ]; exact h
 have h2:A/2^m=0:=by generalize A/2^m=q at h1 hb; omega
 have h3:=Nat.div_add_mod A (2^m);have h4:=Nat.mod_lt A (show 0<2^m from Nat.pow_pos (by omega));rw[h2]at h3; omega
theorem len_is {A m:Nat} (h:A<2^(m+1)) (hb:gA A m=1):LenIs A (m+1):=by
 refine⟨h,fun _ => ?_⟩;unfold gA at hb;have h1:1≤A/2^m:=by
  rcases Nat.eq_zero_or_pos (A/2^m)with e|e
  ·rw[e]at hb; omega
  ·exact e
 exact (Nat.one_le_div_iff (Nat.pow_pos (by omega))).1 h1
def LenP (A:Nat) (w:World) (e:Ending) (w':World):Prop :=
 ∃L:Nat,e=.returned (.int .i64 L)∧L≤256∧LenIs A L∧Below w.heap.size w w'
theorem refLen_calls (a0 a1 a2 a3:Nat) (ha:bV a0 a1 a2 a3) (w:World) :
  Calls prog 79 #[.agg #[.int .u64 a0,.int .u64 a1,.int .u64 a2,.int .u64 a3]] w (LenP (aC a0 a1 a2 a3) w):=by
 have h256:aC a0 a1 a2 a3<2^256:=by have:=bK ha; simpa using this
 have HB:=Lib.hid (fun i h (w:World)=>ME a0 a1 a2 a3 i ha h w);generalize hA:aC a0 a1 a2 a3=A at *;have H256:=Lib.hid h256;clear h256 hA
 go_enter func79,ntmps79
 go_wp2_with fail
 go_loopw [3] (fun i wr=>∃n:Int,-1≤n∧n≤255∧i=.int .i64 n∧Hid (A<2^(n+1).toNat)∧Mem w wr [(w.heap.size,a0,a1,a2,a3)]) (fun i _=>(intOf i+1).toNat)
 case atStart=>exact⟨255,by omega,by omega,rfl,H256,(Mem.nil w).new w.heap.size a0 a1 a2 a3 67 rfl⟩
 case round =>
  obtain⟨n,h1,h2,rfl,hA,m⟩:=hrel;have M:=Lib.hid m;obtain⟨lt_a,c0,c1,c2,c3,cf⟩:=m.get (b:=w.heap.size) (c0:=a0) (c1:=a1) (c2:=a2) (c3:=a3) (by simp);clear m
  by_cases h0:0≤n
  ·obtain⟨i,rfl⟩:=Int.eq_ofNat_of_zero_le h0;have hA':=Lib.hid (show A<2^(i+1)from hA.out);clear hA
   rcases tO A i with hb|hb
   ·have hB:=HB.out i (by omega);rw[hb]at hB;have HN:=Lib.hid (len_down hA'.out hb);clear hb hA';go_wp2_with fail;refine (hB _).mono ?_
    rintro e w1 ⟨rfl,hbl⟩
    have M':=M.out.on hbl;clear hbl;go_wp2_with fail
    go_roundw
    case rel=>exact⟨(i:Int)-1,by omega,by omega,by first|rfl|go_num,Lib.hid (by rw[show ((i:Int)-1+1).toNat=i by omega]; exact HN.out),M'⟩
    case measure=>first|(simp[intOf]; done)|(simp[intOf]; omega)
   ·have hB:=HB.out i (by omega);rw[hb]at hB;have HN:=Lib.hid (len_is hA'.out hb);clear hb hA';go_wp2_with fail;refine (hB _).mono ?_
    rintro e w1 ⟨rfl,hbl⟩
    have M':=M.out.on hbl;clear hbl;go_wp2_with fail;go_ret;exact⟨i+1,rfl,by omega,HN.out,M'.1⟩
  ·obtain rfl:n = -1:=by omega
   go_wp2_with fail;go_ret;exact⟨0,rfl,by omega,⟨hA.out,fun h=>absurd h (by omega)⟩,M.out.1⟩
end Go.Proofs.YtjkpglhlmknciaaGreat.R1
namespace Go.Proofs.YtjkpglhlmknciaaGreat.Ex
open Go.Proofs.Tryz
open Go.RowKit
theorem Mk:∀cs pre r,Bu cs=some (pre,r)→aZ pre→∀(args:List Value) (w:World),bU w cs args→Good prog 79 r args w:=by
 intro cs pre r hg hp args w ha;unfold Bu at hg;split at hg
 ·rename_i l;split at hg
  ·rename_i n hn;cases hg;rw[DA ha,gD l _ hn];refine (R1.refLen_calls _ _ _ _ (cQ n) w).mono ?_
   rintro e w' ⟨L,rfl,_,h,hbl⟩
   cases h.uniq (yP n);exact⟨rfl,hbl⟩
  ·cases hg
 ·cases hg
theorem Mq:∀cs pre r,SJ cs=some (pre,r)→aZ pre→∀(args:List Value) (w:World),bU w cs args→Good prog 81 r args w:=by
 intro cs pre r hg hp args w ha;unfold SJ at hg;split at hg
 ·rename_i l i;split at hg
  ·rename_i n hn;cases hg
   match args,ha with
   | [v,u],ha =>
    have h1:v=.agg (aA l).toArray:=ha.1;have h2:u=.int .i64 (Int.ofNat i):=ha.2.1;rw[gD l _ hn]at h1;subst h1; subst h2;exact ME _ _ _ _ i (cQ n) hp.1 w
   | [],ha=>exact ha.elim
   | [_],ha=>exact ha.2.elim
   | _::_::_::_,ha=>exact ha.2.2.elim
  ·cases hg
 ·cases hg
def lN (c:Bool):kI
 | [.v (.im (.int .i64 (.ofNat 1))),.v (.fl l)]=>match LI l with
  | some n=>some ([rX n=c],.one (.im (.bool c)))
  | none=>none
 | _=>none
theorem gG (c:Bool):∀cs pre r,lN c cs=some (pre,r)→aZ pre→∀(args:List Value) (w:World),bU w cs args→Good prog 37 r args w:=by
 intro cs pre r hg hp args w ha;unfold lN at hg;split at hg
 ·rename_i l;split at hg
  ·rename_i n hn;cases hg;have h:=aFP [.v (.im (.int .i64 (.ofNat 1))),.v (.fl l)] [] (.one (.im (.bool (rX n)))) (by show (match LI l with|some n=>some ([],RV.one (.im (.bool (rX n))))|none=>none)=_; rw[hn]) trivial args w ha;rw[hp.1]at h;exact h
  ·cases hg
 ·cases hg
theorem lS {n:Nat}:rX n=true↔wv n<FP.M:=by unfold rX EM; exact decide_eq_true_iff
theorem OQ {n:Nat}:rX n=false↔¬wv n<FP.M:=by unfold rX EM; exact decide_eq_false_iff_not
def jO (x:N2):Bool:=rX x.1&&rX x.2
def Sl:Tab:=(aGh).add 79 Bu
theorem aCz:TabOk prog Sl:=(aJw).add func79 (by kernel_rfl) (by kernel_rfl) Mk
def zI:Tab:=(Sl).add 81 SJ
theorem yG:TabOk prog zI:=(aCz).add func81 (by kernel_rfl) (by kernel_rfl) Mq
theorem Gz (x:N2):aU prog (qG prog) (fun _=>⟨fun s=>(zI).add 37 (lN (bif Nat.beq s 5 then true else true)),fun s=>true,fun _=>none⟩) f40 60 [.v (.fl (q2 x))]=some ([rX x.1=true,rX x.2=true],.one (.im (.bool true))):=by kernel_rfl
theorem Ha (x:N2):aU prog (qG prog) (fun _=>⟨fun s=>(zI).add 37 (lN (bif Nat.beq s 5 then true else false)),fun s=>true,fun _=>none⟩) f40 60 [.v (.fl (q2 x))]=some ([rX x.1=true,rX x.2=false],.one (.im (.bool false))):=by kernel_rfl
theorem Vn (x:N2):aU prog (qG prog) (fun _=>⟨fun s=>(zI).add 37 (lN (bif Nat.beq s 5 then false else true)),fun s=>true,fun _=>none⟩) f40 60 [.v (.fl (q2 x))]=some ([rX x.1=false],.one (.im (.bool false))):=by kernel_rfl
theorem aFH (c:Bool) (x:N2) (hp:jO x=c) (args:List Value) (w:World) (ha:bU w [.v (.fl (q2 x))] args):Good prog 40 (.one (.im (.bool c))) args w:=by
 unfold jO at hp;cases h1:rX x.1 with
 | false =>
  rw[h1]at hp;subst hp;exact aB aG (fun _ s=>(yG).add func37 (by kernel_rfl) (by kernel_rfl) (gG _)) (aJ prog) func40 (Vn x) ⟨h1,trivial⟩ ha
 | true =>
  cases h2:rX x.2 with
  | false =>
   rw[h1,h2]at hp;subst hp;exact aB aG (fun _ s=>(yG).add func37 (by kernel_rfl) (by kernel_rfl) (gG _)) (aJ prog) func40 (Ha x) ⟨h1,h2,trivial⟩ ha
  | true =>
   rw[h1,h2]at hp;subst hp;exact aB aG (fun _ s=>(yG).add func37 (by kernel_rfl) (by kernel_rfl) (gG _)) (aJ prog) func40 (Gz x) ⟨h1,h2,trivial⟩ ha
def aGs:Tab:=(zI).add 40 (g1 Yw fun x=>([jO x=true],.one (.im (.bool true))))
theorem aCG:TabOk prog aGs:=(yG).add func40 (by kernel_rfl) (by kernel_rfl) (bJ oM fun x hp args w ha=>aFH true x hp.1 args w ha)
theorem aHJ  : aU prog (qG prog) (fun _=>⟨fun s=>aGs,fun s=>true,fun _=>none⟩) f43 60 []=some ([],.one (.fl (e2 dE))):=by kernel_rfl
def lV:Tab:=(aGs).add 43 (g0 (.one (.fl (e2 dE))))
theorem iK:TabOk prog lV:=(aCG).add func43 (by kernel_rfl) (by kernel_rfl) (lO fun w=>aB aG (fun _ s=>aCG) (aJ prog) func43 aHJ trivial (args:=[]) trivial)
def vI (L k:Nat):Value:=if k<L then iI (L-1-k)else .int .i64 (-1)
theorem aXU {L:Nat} (h:L≤256):aH .sub .i64 (Int.ofNat L) 1=some (vI L 0):=by
 unfold vI;cases L with
 | zero=>rfl
 | succ n =>
  rw[if_pos (by omega)];exact CK (k:=1) (i:=n+1) (by omega) (by omega)
theorem aTy {L k:Nat} (h:L≤256) (hk:k<L):aH .sub .i64 (Int.ofNat (L-1-k)) 1=some (vI L (k+1)):=by
 unfold vI
 by_cases e:k+1<L
 ·rw[if_pos e,←Nat.sub_sub (L-1) k 1];exact CK (k:=1) (by omega) (by omega)
 ·rw[if_neg e,show L-1-k=0 by omega];rfl
theorem aCL (n:Nat):aH .geq .i64 (Int.ofNat n) 0=some (.bool true):=by
 show some (Value.bool (decide ((0:Int)≤Int.ofNat n)))=_;rw[decide_eq_true (show (0:Int)≤Int.ofNat n from Int.natCast_nonneg n)]
theorem aMJ {c:Int} (h:c=0):aH .eql .i64 c 0=some (.bool true):=by rw[h]; rfl
theorem aWw {c:Int} (h:c≠0):aH .eql .i64 c 0=some (.bool false):=by
 show some (Value.bool (c==0))=_;rw[beq_eq_false_iff_ne.2 h]
theorem Fo (x y:Nat):aU prog (qG prog) (fun _=>⟨fun s=>lV,fun s=>false,fun _=>none⟩) f17 60 [.v (.fl (eK (x,y,true)))]=some ([aA (q1 x)≠aA (e1 F1.zero)],.one (.im (.int .i64 44))):=by kernel_rfl
theorem Fm (x y:Nat):aU prog (qG prog) (fun _=>⟨fun s=>lV,fun s=>Nat.beq s 7,fun _=>none⟩) f17 60 [.v (.fl (eK (x,y,true)))]=some ([aA (q1 x)=aA (e1 F1.zero),aA (q1 y)≠aA (e1 F1.zero)],.one (.im (.int .i64 44))):=by kernel_rfl
theorem Fl (x y:Nat):aU prog (qG prog) (fun _=>⟨fun s=>lV,fun s=>true,fun _=>none⟩) f17 60 [.v (.fl (eK (x,y,true)))]=some ([aA (q1 x)=aA (e1 F1.zero),aA (q1 y)=aA (e1 F1.zero)],.one (.im (.int .i64 0))):=by kernel_rfl
theorem XE (x y:Nat):aU prog (qG prog) (fun _=>⟨fun s=>(lV).add 37 (lN (bif Nat.beq s 27 then false else true)),fun s=>false,fun _=>none⟩) f17 60 [.v (.fl (eK (x,y,false)))]=some ([aA (q1 x)≠aA (e1 F1.zero),rX x=false],.one (.im (.int .i64 21))):=by kernel_rfl
theorem XB (x y:Nat):aU prog (qG prog) (fun _=>⟨fun s=>(lV).add 37 (lN (bif Nat.beq s 27 then true else false)),fun s=>false,fun _=>none⟩) f17 60 [.v (.fl (eK (x,y,false)))]=some ([aA (q1 x)≠aA (e1 F1.zero),rX x=true,rX y=false],.one (.im (.int .i64 21))):=by kernel_rfl
theorem WY (x y:Nat):aU prog (qG prog) (fun _=>⟨fun s=>(lV).add 37 (lN (bif Nat.beq s 27 then true else true)),fun s=>false,fun _=>none⟩) f17 80 [.v (.fl (eK (x,y,false)))]=some ([aA (q1 x)≠aA (e1 F1.zero),rX x=true,rX y=true,aA (e1 (F1.mul (m1 y) (m1 y)))≠aA (e1 (F1.add (F1.mul (m1 x) (F1.mul (m1 x) (m1 x))) (fm 3)))],.one (.im (.int .i64 41))):=by kernel_rfl
theorem WV (x y:Nat):aU prog (qG prog) (fun _=>⟨fun s=>(lV).add 37 (lN (bif Nat.beq s 27 then true else true)),fun s=>false||Nat.beq s 51,fun _=>none⟩) f17 80 [.v (.fl (eK (x,y,false)))]=some ([aA (q1 x)≠aA (e1 F1.zero),rX x=true,rX y=true,aA (e1 (F1.mul (m1 y) (m1 y)))=aA (e1 (F1.add (F1.mul (m1 x) (F1.mul (m1 x) (m1 x))) (fm 3)))],.one (.im (.int .i64 0))):=by kernel_rfl
theorem XD (x y:Nat):aU prog (qG prog) (fun _=>⟨fun s=>(lV).add 37 (lN (bif Nat.beq s 27 then false else true)),fun s=>Nat.beq s 7,fun _=>none⟩) f17 60 [.v (.fl (eK (x,y,false)))]=some ([aA (q1 x)=aA (e1 F1.zero),aA (q1 y)≠aA (e1 F1.zero),rX x=false],.one (.im (.int .i64 21))):=by kernel_rfl
theorem XA (x y:Nat):aU prog (qG prog) (fun _=>⟨fun s=>(lV).add 37 (lN (bif Nat.beq s 27 then true else false)),fun s=>Nat.beq s 7,fun _=>none⟩) f17 60 [.v (.fl (eK (x,y,false)))]=some ([aA (q1 x)=aA (e1 F1.zero),aA (q1 y)≠aA (e1 F1.zero),rX x=true,rX y=false],.one (.im (.int .i64 21))):=by kernel_rfl
theorem WX (x y:Nat):aU prog (qG prog) (fun _=>⟨fun s=>(lV).add 37 (lN (bif Nat.beq s 27 then true else true)),fun s=>Nat.beq s 7,fun _=>none⟩) f17 80 [.v (.fl (eK (x,y,false)))]=some ([aA (q1 x)=aA (e1 F1.zero),aA (q1 y)≠aA (e1 F1.zero),rX x=true,rX y=true,aA (e1 (F1.mul (m1 y) (m1 y)))≠aA (e1 (F1.add (F1.mul (m1 x) (F1.mul (m1 x) (m1 x))) (fm 3)))],.one (.im (.int .i64 41))):=by kernel_rfl
theorem WU (x y:Nat):aU prog (qG prog) (fun _=>⟨fun s=>(lV).add 37 (lN (bif Nat.beq s 27 then true else true)),fun s=>Nat.beq s 7||Nat.beq s 51,fun _=>none⟩) f17 80 [.v (.fl (eK (x,y,false)))]=some ([aA (q1 x)=aA (e1 F1.zero),aA (q1 y)≠aA (e1 F1.zero),rX x=true,rX y=true,aA (e1 (F1.mul (m1 y) (m1 y)))=aA (e1 (F1.add (F1.mul (m1 x) (F1.mul (m1 x) (m1 x))) (fm 3)))],.one (.im (.int .i64 0))):=by kernel_rfl
theorem XC (x y:Nat):aU prog (qG prog) (fun _=>⟨fun s=>(lV).add 37 (lN (bif Nat.beq s 27 then false else true)),fun s=>Nat.beq s 7||Nat.beq s 12,fun _=>none⟩) f17 60 [.v (.fl (eK (x,y,false)))]=some ([aA (q1 x)=aA (e1 F1.zero),aA (q1 y)=aA (e1 F1.zero),rX x=false],.one (.im (.int .i64 21))):=by kernel_rfl
theorem WZ (x y:Nat):aU prog (qG prog) (fun _=>⟨fun s=>(lV).add 37 (lN (bif Nat.beq s 27 then true else false)),fun s=>Nat.beq s 7||Nat.beq s 12,fun _=>none⟩) f17 60 [.v (.fl (eK (x,y,false)))]=some ([aA (q1 x)=aA (e1 F1.zero),aA (q1 y)=aA (e1 F1.zero),rX x=true,rX y=false],.one (.im (.int .i64 21))):=by kernel_rfl
theorem WW (x y:Nat):aU prog (qG prog) (fun _=>⟨fun s=>(lV).add 37 (lN (bif Nat.beq s 27 then true else true)),fun s=>Nat.beq s 7||Nat.beq s 12,fun _=>none⟩) f17 80 [.v (.fl (eK (x,y,false)))]=some ([aA (q1 x)=aA (e1 F1.zero),aA (q1 y)=aA (e1 F1.zero),rX x=true,rX y=true,aA (e1 (F1.mul (m1 y) (m1 y)))≠aA (e1 (F1.add (F1.mul (m1 x) (F1.mul (m1 x) (m1 x))) (fm 3)))],.one (.im (.int .i64 41))):=by kernel_rfl
theorem WT (x y:Nat):aU prog (qG prog) (fun _=>⟨fun s=>(lV).add 37 (lN (bif Nat.beq s 27 then true else true)),fun s=>Nat.beq s 7||Nat.beq s 12||Nat.beq s 51,fun _=>none⟩) f17 80 [.v (.fl (eK (x,y,false)))]=some ([aA (q1 x)=aA (e1 F1.zero),aA (q1 y)=aA (e1 F1.zero),rX x=true,rX y=true,aA (e1 (F1.mul (m1 y) (m1 y)))=aA (e1 (F1.add (F1.mul (m1 x) (F1.mul (m1 x) (m1 x))) (fm 3)))],.one (.im (.int .i64 0))):=by kernel_rfl
theorem aIi (p:iU) (args:List Value) (w:World) (ha:bU w [.v (.fl (eK p))] args):Good prog 17 (.one (.im (.int .i64 (zO p.1 p.2.1 p.2.2).1))) args w:=by
 obtain⟨x,y,b⟩:=p;show Good _ _ (.one (.im (.int .i64 (zO x y b).1))) _ _;rw[JO];cases b with
 | true =>
  rw[if_pos rfl]
  by_cases hx:Dd x
  ·by_cases hy:Dd y
   ·rw[if_pos ⟨hx,hy⟩];exact aB aG (fun _ s=>iK) (aJ prog) func17 (Fl x y) ⟨cW.2 hx,cW.2 hy,trivial⟩ ha
   ·rw[if_neg (fun h=>hy h.2)];exact aB aG (fun _ s=>iK) (aJ prog) func17 (Fm x y) ⟨cW.2 hx,fun h=>hy (cW.1 h),trivial⟩ ha
  ·rw[if_neg (fun h=>hx h.1)];exact aB aG (fun _ s=>iK) (aJ prog) func17 (Fo x y) ⟨fun h=>hx (cW.1 h),trivial⟩ ha
 | false =>
  rw[if_neg (by simp)]
  by_cases hx:ET x
  ·by_cases hy:ET y
   ·rw[if_neg (fun h=>h ⟨hx,hy⟩)]
    by_cases h:F1.mul (m1 y) (m1 y)=F1.add (F1.mul (F1.mul (m1 x) (m1 x)) (m1 x)) (fm 3)
    ·rw[if_pos h];have h':F1.mul (m1 y) (m1 y)=F1.add (F1.mul (m1 x) (F1.mul (m1 x) (m1 x))) (fm 3):=by rw[h,F1.mul_comm (m1 x) (F1.mul (m1 x) (m1 x))]
     by_cases hx0:Dd x
     ·by_cases hy0:Dd y
      ·exact aB aG (fun _ s=>(iK).add func37 (by kernel_rfl) (by kernel_rfl) (gG _)) (aJ prog) func17 (WT x y) ⟨cW.2 hx0,cW.2 hy0,(lS.2 hx),(lS.2 hy),by rw[h'],trivial⟩ ha
      ·exact aB aG (fun _ s=>(iK).add func37 (by kernel_rfl) (by kernel_rfl) (gG _)) (aJ prog) func17 (WU x y) ⟨cW.2 hx0,fun h=>hy0 (cW.1 h),(lS.2 hx),(lS.2 hy),by rw[h'],trivial⟩ ha
     ·exact aB aG (fun _ s=>(iK).add func37 (by kernel_rfl) (by kernel_rfl) (gG _)) (aJ prog) func17 (WV x y) ⟨fun h=>hx0 (cW.1 h),(lS.2 hx),(lS.2 hy),by rw[h'],trivial⟩ ha
    ·rw[if_neg h];have h':F1.mul (m1 y) (m1 y)≠F1.add (F1.mul (m1 x) (F1.mul (m1 x) (m1 x))) (fm 3):=by rw[F1.mul_comm (m1 x) (F1.mul (m1 x) (m1 x))]; exact h
     by_cases hx0:Dd x
     ·by_cases hy0:Dd y
      ·exact aB aG (fun _ s=>(iK).add func37 (by kernel_rfl) (by kernel_rfl) (gG _)) (aJ prog) func17 (WW x y) ⟨cW.2 hx0,cW.2 hy0,(lS.2 hx),(lS.2 hy),mW h',trivial⟩ ha
      ·exact aB aG (fun _ s=>(iK).add func37 (by kernel_rfl) (by kernel_rfl) (gG _)) (aJ prog) func17 (WX x y) ⟨cW.2 hx0,fun h=>hy0 (cW.1 h),(lS.2 hx),(lS.2 hy),mW h',trivial⟩ ha
     ·exact aB aG (fun _ s=>(iK).add func37 (by kernel_rfl) (by kernel_rfl) (gG _)) (aJ prog) func17 (WY x y) ⟨fun h=>hx0 (cW.1 h),(lS.2 hx),(lS.2 hy),mW h',trivial⟩ ha
   ·rw[if_pos (fun h=>hy h.2)]
    by_cases hx0:Dd x
    ·by_cases hy0:Dd y
     ·exact aB aG (fun _ s=>(iK).add func37 (by kernel_rfl) (by kernel_rfl) (gG _)) (aJ prog) func17 (WZ x y) ⟨cW.2 hx0,cW.2 hy0,(lS.2 hx),(OQ.2 hy),trivial⟩ ha
     ·exact aB aG (fun _ s=>(iK).add func37 (by kernel_rfl) (by kernel_rfl) (gG _)) (aJ prog) func17 (XA x y) ⟨cW.2 hx0,fun h=>hy0 (cW.1 h),(lS.2 hx),(OQ.2 hy),trivial⟩ ha
    ·exact aB aG (fun _ s=>(iK).add func37 (by kernel_rfl) (by kernel_rfl) (gG _)) (aJ prog) func17 (XB x y) ⟨fun h=>hx0 (cW.1 h),(lS.2 hx),(OQ.2 hy),trivial⟩ ha
  ·rw[if_pos (fun h=>hx h.1)]
   by_cases hx0:Dd x
   ·by_cases hy0:Dd y
    ·exact aB aG (fun _ s=>(iK).add func37 (by kernel_rfl) (by kernel_rfl) (gG _)) (aJ prog) func17 (XC x y) ⟨cW.2 hx0,cW.2 hy0,(OQ.2 hx),trivial⟩ ha
    ·exact aB aG (fun _ s=>(iK).add func37 (by kernel_rfl) (by kernel_rfl) (gG _)) (aJ prog) func17 (XD x y) ⟨cW.2 hx0,fun h=>hy0 (cW.1 h),(OQ.2 hx),trivial⟩ ha
   ·exact aB aG (fun _ s=>(iK).add func37 (by kernel_rfl) (by kernel_rfl) (gG _)) (aJ prog) func17 (XE x y) ⟨fun h=>hx0 (cW.1 h),(OQ.2 hx),trivial⟩ ha
def gH:Tab:=(lV).add 17 (g1 rg1 fun p=>([],.one (.im (.int .i64 (zO p.1 p.2.1 p.2.2).1))))
theorem fA:TabOk prog gH:=(iK).add func17 (by kernel_rfl) (by kernel_rfl) (bJ AF fun p hp args w ha=>aIi p args w ha)
def BI (c:Bool):kI:=g1 Yw fun x=>([jO x=c],.one (.im (.bool c)))
theorem iS (c:Bool):∀cs pre r,BI c cs=some (pre,r)→aZ pre→∀(args:List Value) (w:World),bU w cs args→Good prog 40 r args w:=bJ (op:=fun x=>([jO x=c],.one (.im (.bool c)))) oM fun x hp args w ha=>aFH c x hp.1 args w ha
theorem Fk (x y:N2):aU prog (qG prog) (fun _=>⟨fun s=>gH,fun s=>false,fun _=>none⟩) f18 60 [.v (.fl (cJ (x,y,true)))]=some ([aA (q2 x)≠aA (e2 F2.zero)],.one (.im (.int .i64 44))):=by kernel_rfl
theorem Fj (x y:N2):aU prog (qG prog) (fun _=>⟨fun s=>gH,fun s=>Nat.beq s 7,fun _=>none⟩) f18 60 [.v (.fl (cJ (x,y,true)))]=some ([aA (q2 x)=aA (e2 F2.zero),aA (q2 y)≠aA (e2 F2.zero)],.one (.im (.int .i64 44))):=by kernel_rfl
theorem Fi (x y:N2):aU prog (qG prog) (fun _=>⟨fun s=>gH,fun s=>true,fun _=>none⟩) f18 60 [.v (.fl (cJ (x,y,true)))]=some ([aA (q2 x)=aA (e2 F2.zero),aA (q2 y)=aA (e2 F2.zero)],.one (.im (.int .i64 0))):=by kernel_rfl
theorem WS (x y:N2):aU prog (qG prog) (fun _=>⟨fun s=>(gH).add 40 (BI (bif Nat.beq s 27 then false else true)),fun s=>false,fun _=>none⟩) f18 60 [.v (.fl (cJ (x,y,false)))]=some ([aA (q2 x)≠aA (e2 F2.zero),jO x=false],.one (.im (.int .i64 21))):=by kernel_rfl
theorem WP (x y:N2):aU prog (qG prog) (fun _=>⟨fun s=>(gH).add 40 (BI (bif Nat.beq s 27 then true else false)),fun s=>false,fun _=>none⟩) f18 60 [.v (.fl (cJ (x,y,false)))]=some ([aA (q2 x)≠aA (e2 F2.zero),jO x=true,jO y=false],.one (.im (.int .i64 21))):=by kernel_rfl
theorem WM (x y:N2):aU prog (qG prog) (fun _=>⟨fun s=>(gH).add 40 (BI (bif Nat.beq s 27 then true else true)),fun s=>false,fun _=>none⟩) f18 80 [.v (.fl (cJ (x,y,false)))]=some ([aA (q2 x)≠aA (e2 F2.zero),jO x=true,jO y=true,aA (e2 (F2.mul (m2 y) (m2 y)))≠aA (e2 (F2.add (F2.mul (m2 x) (F2.mul (m2 x) (m2 x))) dE))],.one (.im (.int .i64 41))):=by kernel_rfl
theorem WJ (x y:N2):aU prog (qG prog) (fun _=>⟨fun s=>(gH).add 40 (BI (bif Nat.beq s 27 then true else true)),fun s=>false||Nat.beq s 51,fun _=>none⟩) f18 80 [.v (.fl (cJ (x,y,false)))]=some ([aA (q2 x)≠aA (e2 F2.zero),jO x=true,jO y=true,aA (e2 (F2.mul (m2 y) (m2 y)))=aA (e2 (F2.add (F2.mul (m2 x) (F2.mul (m2 x) (m2 x))) dE))],.one (.im (.int .i64 0))):=by kernel_rfl
theorem WR (x y:N2):aU prog (qG prog) (fun _=>⟨fun s=>(gH).add 40 (BI (bif Nat.beq s 27 then false else true)),fun s=>Nat.beq s 7,fun _=>none⟩) f18 60 [.v (.fl (cJ (x,y,false)))]=some ([aA (q2 x)=aA (e2 F2.zero),aA (q2 y)≠aA (e2 F2.zero),jO x=false],.one (.im (.int .i64 21))):=by kernel_rfl
theorem WO (x y:N2):aU prog (qG prog) (fun _=>⟨fun s=>(gH).add 40 (BI (bif Nat.beq s 27 then true else false)),fun s=>Nat.beq s 7,fun _=>none⟩) f18 60 [.v (.fl (cJ (x,y,false)))]=some ([aA (q2 x)=aA (e2 F2.zero),aA (q2 y)≠aA (e2 F2.zero),jO x=true,jO y=false],.one (.im (.int .i64 21))):=by kernel_rfl
theorem WL (x y:N2):aU prog (qG prog) (fun _=>⟨fun s=>(gH).add 40 (BI (bif Nat.beq s 27 then true else true)),fun s=>Nat.beq s 7,fun _=>none⟩) f18 80 [.v (.fl (cJ (x,y,false)))]=some ([aA (q2 x)=aA (e2 F2.zero),aA (q2 y)≠aA (e2 F2.zero),jO x=true,jO y=true,aA (e2 (F2.mul (m2 y) (m2 y)))≠aA (e2 (F2.add (F2.mul (m2 x) (F2.mul (m2 x) (m2 x))) dE))],.one (.im (.int .i64 41))):=by kernel_rfl
theorem WI (x y:N2):aU prog (qG prog) (fun _=>⟨fun s=>(gH).add 40 (BI (bif Nat.beq s 27 then true else true)),fun s=>Nat.beq s 7||Nat.beq s 51,fun _=>none⟩) f18 80 [.v (.fl (cJ (x,y,false)))]=some ([aA (q2 x)=aA (e2 F2.zero),aA (q2 y)≠aA (e2 F2.zero),jO x=true,jO y=true,aA (e2 (F2.mul (m2 y) (m2 y)))=aA (e2 (F2.add (F2.mul (m2 x) (F2.mul (m2 x) (m2 x))) dE))],.one (.im (.int .i64 0))):=by kernel_rfl
theorem WQ (x y:N2):aU prog (qG prog) (fun _=>⟨fun s=>(gH).add 40 (BI (bif Nat.beq s 27 then false else true)),fun s=>Nat.beq s 7||Nat.beq s 12,fun _=>none⟩) f18 60 [.v (.fl (cJ (x,y,false)))]=some ([aA (q2 x)=aA (e2 F2.zero),aA (q2 y)=aA (e2 F2.zero),jO x=false],.one (.im (.int .i64 21))):=by kernel_rfl
theorem WN (x y:N2):aU prog (qG prog) (fun _=>⟨fun s=>(gH).add 40 (BI (bif Nat.beq s 27 then true else false)),fun s=>Nat.beq s 7||Nat.beq s 12,fun _=>none⟩) f18 60 [.v (.fl (cJ (x,y,false)))]=some ([aA (q2 x)=aA (e2 F2.zero),aA (q2 y)=aA (e2 F2.zero),jO x=true,jO y=false],.one (.im (.int .i64 21))):=by kernel_rfl
theorem WK (x y:N2):aU prog (qG prog) (fun _=>⟨fun s=>(gH).add 40 (BI (bif Nat.beq s 27 then true else true)),fun s=>Nat.beq s 7||Nat.beq s 12,fun _=>none⟩) f18 80 [.v (.fl (cJ (x,y,false)))]=some ([aA (q2 x)=aA (e2 F2.zero),aA (q2 y)=aA (e2 F2.zero),jO x=true,jO y=true,aA (e2 (F2.mul (m2 y) (m2 y)))≠aA (e2 (F2.add (F2.mul (m2 x) (F2.mul (m2 x) (m2 x))) dE))],.one (.im (.int .i64 41))):=by kernel_rfl
theorem WH (x y:N2):aU prog (qG prog) (fun _=>⟨fun s=>(gH).add 40 (BI (bif Nat.beq s 27 then true else true)),fun s=>Nat.beq s 7||Nat.beq s 12||Nat.beq s 51,fun _=>none⟩) f18 80 [.v (.fl (cJ (x,y,false)))]=some ([aA (q2 x)=aA (e2 F2.zero),aA (q2 y)=aA (e2 F2.zero),jO x=true,jO y=true,aA (e2 (F2.mul (m2 y) (m2 y)))=aA (e2 (F2.add (F2.mul (m2 x) (F2.mul (m2 x) (m2 x))) dE))],.one (.im (.int .i64 0))):=by kernel_rfl
theorem mO {x:N2}:jO x=true↔rM x:=by
 unfold jO rM;rw[Bool.and_eq_true,lS,lS]
theorem OR {x:N2}:jO x=false↔¬rM x:=by
 rw[←mO];cases jO x<;>simp
theorem aIh (p:cZ) (args:List Value) (w:World) (ha:bU w [.v (.fl (cJ p))] args):Good prog 18 (.one (.im (.int .i64 (iN p.1 p.2.1 p.2.2).1))) args w:=by
 obtain⟨x,y,b⟩:=p;show Good _ _ (.one (.im (.int .i64 (iN x y b).1))) _ _;rw[wT];cases b with
 | true =>
  rw[if_pos rfl]
  by_cases hx:KW x
  ·by_cases hy:KW y
   ·rw[if_pos ⟨hx,hy⟩];exact aB aG (fun _ s=>fA) (aJ prog) func18 (Fi x y) ⟨cG.2 hx,cG.2 hy,trivial⟩ ha
   ·rw[if_neg (fun h=>hy h.2)];exact aB aG (fun _ s=>fA) (aJ prog) func18 (Fj x y) ⟨cG.2 hx,fun h=>hy (cG.1 h),trivial⟩ ha
  ·rw[if_neg (fun h=>hx h.1)];exact aB aG (fun _ s=>fA) (aJ prog) func18 (Fk x y) ⟨fun h=>hx (cG.1 h),trivial⟩ ha
 | false =>
  rw[if_neg (by simp)]
  by_cases hx:rM x
  ·by_cases hy:rM y
   ·rw[if_neg (fun h=>h ⟨hx,hy⟩)]
    by_cases h:F2.mul (m2 y) (m2 y)=F2.add (F2.mul (F2.mul (m2 x) (m2 x)) (m2 x)) dE
    ·rw[if_pos h];have h':F2.mul (m2 y) (m2 y)=F2.add (F2.mul (m2 x) (F2.mul (m2 x) (m2 x))) dE:=by rw[h,F2.mul_comm (m2 x) (F2.mul (m2 x) (m2 x))]
     by_cases hx0:KW x
     ·by_cases hy0:KW y
      ·exact aB aG (fun _ s=>(fA).add func40 (by kernel_rfl) (by kernel_rfl) (iS _)) (aJ prog) func18 (WH x y) ⟨cG.2 hx0,cG.2 hy0,(mO.2 hx),(mO.2 hy),by rw[h'],trivial⟩ ha
      ·exact aB aG (fun _ s=>(fA).add func40 (by kernel_rfl) (by kernel_rfl) (iS _)) (aJ prog) func18 (WI x y) ⟨cG.2 hx0,fun h=>hy0 (cG.1 h),(mO.2 hx),(mO.2 hy),by rw[h'],trivial⟩ ha
     ·exact aB aG (fun _ s=>(fA).add func40 (by kernel_rfl) (by kernel_rfl) (iS _)) (aJ prog) func18 (WJ x y) ⟨fun h=>hx0 (cG.1 h),(mO.2 hx),(mO.2 hy),by rw[h'],trivial⟩ ha
    ·rw[if_neg h];have h':F2.mul (m2 y) (m2 y)≠F2.add (F2.mul (m2 x) (F2.mul (m2 x) (m2 x))) dE:=by rw[F2.mul_comm (m2 x) (F2.mul (m2 x) (m2 x))]; exact h
     by_cases hx0:KW x
     ·by_cases hy0:KW y
      ·exact aB aG (fun _ s=>(fA).add func40 (by kernel_rfl) (by kernel_rfl) (iS _)) (aJ prog) func18 (WK x y) ⟨cG.2 hx0,cG.2 hy0,(mO.2 hx),(mO.2 hy),cS h',trivial⟩ ha
      ·exact aB aG (fun _ s=>(fA).add func40 (by kernel_rfl) (by kernel_rfl) (iS _)) (aJ prog) func18 (WL x y) ⟨cG.2 hx0,fun h=>hy0 (cG.1 h),(mO.2 hx),(mO.2 hy),cS h',trivial⟩ ha
     ·exact aB aG (fun _ s=>(fA).add func40 (by kernel_rfl) (by kernel_rfl) (iS _)) (aJ prog) func18 (WM x y) ⟨fun h=>hx0 (cG.1 h),(mO.2 hx),(mO.2 hy),cS h',trivial⟩ ha
   ·rw[if_pos (fun h=>hy h.2)]
    by_cases hx0:KW x
    ·by_cases hy0:KW y
     ·exact aB aG (fun _ s=>(fA).add func40 (by kernel_rfl) (by kernel_rfl) (iS _)) (aJ prog) func18 (WN x y) ⟨cG.2 hx0,cG.2 hy0,(mO.2 hx),(OR.2 hy),trivial⟩ ha
     ·exact aB aG (fun _ s=>(fA).add func40 (by kernel_rfl) (by kernel_rfl) (iS _)) (aJ prog) func18 (WO x y) ⟨cG.2 hx0,fun h=>hy0 (cG.1 h),(mO.2 hx),(OR.2 hy),trivial⟩ ha
    ·exact aB aG (fun _ s=>(fA).add func40 (by kernel_rfl) (by kernel_rfl) (iS _)) (aJ prog) func18 (WP x y) ⟨fun h=>hx0 (cG.1 h),(mO.2 hx),(OR.2 hy),trivial⟩ ha
  ·rw[if_pos (fun h=>hx h.1)]
   by_cases hx0:KW x
   ·by_cases hy0:KW y
    ·exact aB aG (fun _ s=>(fA).add func40 (by kernel_rfl) (by kernel_rfl) (iS _)) (aJ prog) func18 (WQ x y) ⟨cG.2 hx0,cG.2 hy0,(OR.2 hx),trivial⟩ ha
    ·exact aB aG (fun _ s=>(fA).add func40 (by kernel_rfl) (by kernel_rfl) (iS _)) (aJ prog) func18 (WR x y) ⟨cG.2 hx0,fun h=>hy0 (cG.1 h),(OR.2 hx),trivial⟩ ha
   ·exact aB aG (fun _ s=>(fA).add func40 (by kernel_rfl) (by kernel_rfl) (iS _)) (aJ prog) func18 (WS x y) ⟨fun h=>hx0 (cG.1 h),(OR.2 hx),trivial⟩ ha
def TT:Tab:=(gH).add 18 (g1 Dg fun p=>([],.one (.im (.int .i64 (iN p.1 p.2.1 p.2.2).1))))
theorem Nu:TabOk prog TT:=(fA).add func18 (by kernel_rfl) (by kernel_rfl) (bJ iY fun p hp args w ha=>aIh p args w ha)
def lG (a:J2) (n L:Nat):Nat→J2
 | 0=>(F2.one,F2.one,F2.zero)
 | k+1=>if gA (wv n) (L-1-k)=1 then rplus F2 (cN F2 (lG a n L k)) a else cN F2 (lG a n L k)
def sH (a:J2) (n:Nat) (v:Value) (c:J2):List Fact:=[.slot 2 (.pt 2 0),.row 2 true (bI a),.slot 3 (.pt 3 0),.row 3 true [.q n],.slot 4 (.pt 4 0),.row 4 true (bI zL),.slot 5 (.pt 5 0),.row 5 true (bI c),.slot 6 (.im v)]
def aNS (a:J2) (n:Nat):List Fact:=[.slot 2 (.pt 2 0),.row 2 true (bI a),.slot 3 (.pt 3 0),.row 3 true [.q n],.slot 4 (.pt 4 0),.row 4 true (bI zL)]
def aNR (a:J2) (n:Nat) (c:J2):List Fact:=[.slot 2 (.pt 2 0),.row 2 true (bI a),.slot 3 (.pt 3 0),.row 3 true [.q n],.slot 4 (.pt 4 0),.row 4 true (bI zL),.slot 5 (.pt 5 0),.row 5 true (bI c)]
def Du (num:Nat→Option Value) (_:Nat):Cfg:=⟨fun _=>TT,fun _=>true,num⟩
def iP:Code:=(f45.body).getD .skip
def DV:Code:=vG (vG (cB (cA (cB (cB iP)))))
theorem aAd:iP=.seq (cA iP) (.seq (cA (cB iP)) (.seq (.seq (cA (cA (cB (cB iP)))) (.block 0 (.loop DV))) (cB (cB (cB iP))))):=by kernel_rfl
theorem aNV (a:J2) (n:Nat):bE prog (qG prog) f45.ntmps (Du fun _=>none) 60 (cA iP) (nU 0 [.v (.fl (bI a)),.v (.fl [.q n])]) (aNS a n)=some ([],.nrm,(aNS a n)):=by kernel_rfl
theorem aNU (a:J2) (n:Nat):bE prog (qG prog) f45.ntmps (Du fun _=>none) 60 (cA (cB iP)) (aNS a n) (aNR a n (F2.one,F2.one,F2.zero))=some ([],.nrm,(aNR a n (F2.one,F2.one,F2.zero))):=by kernel_rfl
theorem aNT (a c:J2) (n:Nat) (v:Value):bE prog (qG prog) f45.ntmps (Du (assoc [(14,v)])) 60 (cA (cA (cB (cB iP)))) (aNR a n c) (sH a n v c)=some ([aH .sub .i64 (Int.ofNat (cC n)) 1=some v],.nrm,(sH a n v c)):=by kernel_rfl
theorem aHc (a c:J2) (n j:Nat) (v:Value):bE prog (qG prog) f45.ntmps (Du (assoc [(16,.bool true),(24,.bool true),(18,v)])) 60 DV (sH a n (iI j) c) (sH a n v (rplus F2 (cN F2 c) a))=some ([aH .geq .i64 (Int.ofNat j) 0=some (.bool true),j<256,aH .eql .i64 (Int.ofNat (gA (wv n) j)) 1=some (.bool true),aH .sub .i64 (Int.ofNat j) 1=some v],.nrm,(sH a n v (rplus F2 (cN F2 c) a))):=by kernel_rfl
theorem aHd (a c:J2) (n j:Nat) (v:Value):bE prog (qG prog) f45.ntmps (Du (assoc [(16,.bool true),(24,.bool false),(18,v)])) 60 DV (sH a n (iI j) c) (sH a n v (cN F2 c))=some ([aH .geq .i64 (Int.ofNat j) 0=some (.bool true),j<256,aH .eql .i64 (Int.ofNat (gA (wv n) j)) 1=some (.bool false),aH .sub .i64 (Int.ofNat j) 1=some v],.nrm,(sH a n v (cN F2 c))):=by kernel_rfl
theorem aHe (a c:J2) (n:Nat):bE prog (qG prog) f45.ntmps (Du (fun _=>none)) 60 DV (sH a n (.int .i64 (-1)) c) (sH a n (.int .i64 (-1)) c)=some ([],(.ex 0),(sH a n (.int .i64 (-1)) c)):=by kernel_rfl
theorem aAc (a c:J2) (n:Nat) (v:Value):bE prog (qG prog) f45.ntmps (Du fun _=>none) 60 (cB (cB (cB iP))) (sH a n v c) [.slot 4 (.pt 4 0),.row 4 true (bI c)]=some ([],.rt,[.slot 4 (.pt 4 0),.row 4 true (bI c)]):=by kernel_rfl
theorem Tf (a:J2) (n:Nat) (args:List Value) (w0:World) (ha:bU w0 [.v (.fl (bI a)),.v (.fl [.q n])] args):Good prog 45 (.one (.fl (bI (lG a n (cC n) (cC n))))) args w0:=by
 have hG:dC prog (qG prog) w0.heap.size w0:=(aJ _).w _ _;have hT:∀n d:Nat,TabOkW prog (TT) w0.heap.size w0:=fun _ _=>(Nu).w _ _
 have hL:=Pk n;refine fT func45 (c:=iP) rfl ha (Nat.le_of_ble_eq_true (by kernel_rfl)) fun b w' hA => ?_
 rw[aAd];refine wp_seq (aF aG hT hG (aNV a n) trivial hA fun b w' hA => ?_);refine wp_seq (aF aG hT hG (aNU a n) trivial hA fun b w' hA => ?_);refine wp_seq (wp_seq (aF aG hT hG (aNT a _ n (vI (cC n) 0)) ⟨aXU hL,trivial⟩ hA fun b w' hA => ?_));refine wp_block ?_;refine mD aG (fun k=>sH a n (vI (cC n) k) (lG a n (cC n) k)) (cC n) (fun k hk => ?_) (.ex 0) (by simp) (sH a n (.int .i64 (-1)) (lG a n (cC n) (cC n))) ?_ hA fun b w' hA => ?_
 ·have e0:vI (cC n) k=iI (cC n-1-k):=if_pos hk;show Ok _ _ _ _ _ (sH a n (vI (cC n) k) (lG a n (cC n) k)) _ (sH a n (vI (cC n) (k+1)) (lG a n (cC n) (k+1)));rw[e0]
  by_cases h:gA (wv n) (cC n-1-k)=1
  ·rw[show lG a n (cC n) (k+1)=rplus F2 (cN F2 (lG a n (cC n) k)) a from if_pos h];exact⟨_,_,_,_,hG,hT,aHc a (lG a n (cC n) k) n (cC n-1-k) (vI (cC n) (k+1)),aCL _,by omega,by rw[AR,decide_eq_true h],aTy hL hk,trivial⟩
  ·rw[show lG a n (cC n) (k+1)=cN F2 (lG a n (cC n) k)from if_neg h];exact⟨_,_,_,_,hG,hT,aHd a (lG a n (cC n) k) n (cC n-1-k) (vI (cC n) (k+1)),aCL _,by omega,by rw[AR,decide_eq_false h],aTy hL hk,trivial⟩
 ·show Ok _ _ _ _ _ (sH a n (vI (cC n) (cC n)) _) _ _;rw[show vI (cC n) (cC n)=.int .i64 (-1)from if_neg (Nat.lt_irrefl _)];exact⟨_,_,_,_,hG,hT,aHe a _ n,trivial⟩
 ·show (cB (cB (cB iP))).wp _ _ _ _;exact aF aG hT hG (aAc a _ n _) trivial hA fun b w' hA=>gZ (l:=[.fl (bI (lG a n (cC n) (cC n)))]) (r:=.one (.fl (bI (lG a n (cC n) (cC n))))) (by kernel_rfl) (by kernel_rfl) hA
def aGg:Tab:=(TT).add 45 (g2 YQ LI fun a n=>([],.one (.fl (bI (lG a n (cC n) (cC n))))))
theorem aJv:TabOk prog aGg:=(Nu).add func45 (by kernel_rfl) (by kernel_rfl) (fS iX gD fun a n hp args w ha=>Tf a n args w ha)
theorem aFr {p:cZ} (h:(iN p.1 p.2.1 p.2.2).1=0):p.2.2=false→rM p.1∧rM p.2.1:=fun hb=>by
 rw[wT,hb,if_neg (by simp)]at h
 by_cases hb:rM p.1∧rM p.2.1
 ·exact hb
 ·rw[if_pos hb]at h;cases h
open Classical
section
variable {R:Type} {K:CR R} {inv:R→R} {b:R}
def Rp (E:EC K inv b) (p:Jc R) (P:{p:Pt R // On K b p}):Prop:=iA K inv p=P.1
theorem Rp.on {E:EC K inv b} {p:Jc R} {P:{p:Pt R // On K b p}} (h:Rp E p P):On K b (iA K inv p):=by
 rw[show iA K inv p=P.1 from h]; exact P.2
theorem Rp.plus {E:EC K inv b} {p q:Jc R} {P Q:{p:Pt R // On K b p}} (h:Rp E p P) (g:Rp E q Q):Rp E (jX K p q) (E.grp.add P Q):=by
 show iA K inv (jX K p q)=iR K inv P.1 Q.1;rw[Bm E h.on g.on,show iA K inv p=P.1 from h,show iA K inv q=Q.1 from g]
theorem Rp.rplus {E:EC K inv b} {p q:Jc R} {P Q:{p:Pt R // On K b p}} (h:Rp E p P) (g:Rp E q Q):Rp E (rplus K p q) (E.grp.add P Q):=by
 show iA K inv (Ex.rplus K p q)=iR K inv P.1 Q.1;rw[Xj E h.on g.on,show iA K inv p=P.1 from h,show iA K inv q=Q.1 from g]
theorem Rp.dbl {E:EC K inv b} {p:Jc R} {P:{p:Pt R // On K b p}} (h:Rp E p P):Rp E (cN K p) (E.grp.add P P):=by
 show iA K inv (cN K p)=iR K inv P.1 P.1;rw[RU E h.on,show iA K inv p=P.1 from h]
theorem Rp.neg {E:EC K inv b} {p:Jc R} {P:{p:Pt R // On K b p}} (h:Rp E p P):Rp E (BE K p) (E.grp.neg P):=by
 show iA K inv (BE K p)=MG K P.1;rw[aJV,show iA K inv p=P.1 from h]
theorem Rp.zero {E:EC K inv b} {p:Jc R} (h:p.2.2=K.zero):Rp E p E.grp.zero:=dP h
theorem EC.inv_one (E:EC K inv b):inv K.one=K.one:=by
 have:=E.F.inv K.one E.F.ne
 rwa [K.one_mul]at this
theorem EC.jto_one (E:EC K inv b) (x y:R):iA K inv (x,y,K.one)=some (x,y):=by
 rw[eC (p:=(x,y,K.one)) E.F.ne];refine congrArg some (Prod.ext ?_ ?_)
 ·show K.mul x (K.mul (inv K.one) (inv K.one))=x;rw[E.inv_one,K.one_mul,K.mul_one]
 ·show K.mul y (K.mul (K.mul (inv K.one) (inv K.one)) (inv K.one))=y;rw[E.inv_one,K.one_mul,K.one_mul,K.mul_one]
end
namespace AG
variable {G:Type} (A:AG G)
end AG
open Go.RowKit
open Classical
theorem Aw (c:Nat) (hc:c<FP.M) (h0:c≠0) (hv:c^sU%FP.M≠1) (n:Fq):F1.mul n (F1.mul n n)≠fm c:=fun h=>by
 have hv':n.1^3%FP.M=c:=by
  have:=congrArg Fin.val h;have e:n.1*(n.1*n.1%FP.M)%FP.M=c%FP.M:=this;rw[Nat.mul_mod_mod,←Nat.mul_assoc,show n.1*n.1*n.1=n.1^3 by rw[Nat.pow_succ,Nat.pow_two]]at e;rw[e]; exact Nat.mod_eq_of_lt hc
 have h1:0<n.1:=by
  rcases Nat.eq_zero_or_pos n.1 with h1|h1
  ·rw[h1]at hv';exact (h0 hv'.symm).elim
  ·exact h1
 have:=Xx h1 n.2;rw[←VK,Nat.pow_mul,Nat.pow_mod,hv']at this;exact hv this
theorem aWL:3^sU%FP.M≠1:=by
 rw[←CF FP.M 256 3 sU (by decide)];exact of_decide_eq_true (by kernel_rfl)
def nb2:Nat:=21087453498479301738505683583845423561061080261299122796980902361914303298513
theorem aWK:nb2^sU%FP.M≠1:=by
 rw[←CF FP.M 256 nb2 sU (by decide)];exact of_decide_eq_true (by kernel_rfl)
theorem aVh:sC dE=fm nb2:=by decide
section
variable {R:Type} (K:CR R)
theorem Rk {x b:R} (h:K.add (K.mul x (K.mul x x)) b=K.zero):K.mul (K.neg x) (K.mul (K.neg x) (K.neg x))=b:=by
 have e:K.mul (K.neg x) (K.mul (K.neg x) (K.neg x))=K.add (K.neg (K.add (K.mul x (K.mul x x)) b)) b:=aE K (aW K [x,b]) ((-Z0)*((-Z0)*(-Z0))) (-(Z0*(Z0*Z0)+Z1)+Z1) (by decide);rw[e,h];have z:K.neg K.zero=K.zero:=by have:=K.neg_add K.zero; rwa [K.add_zero]at this
 rw[z,K.zero_add]
end
theorem SO:EC F1 iC (fm 3) where
 F:=⟨aGx,fun x h=>JE h⟩
 two:=fun h=>absurd (congrArg Fin.val h) (by decide)
 odd:=fun x h=>Aw 3 (by decide) (by decide) aWL _ (Rk F1 h)
theorem bC:EC F2 dW dE where
 F:=⟨BJ.1,fun x h=>UM fun e=>h (pT e)⟩
 two:=fun h=>absurd (congrArg (fun x:Q2=>x.1.1) h) (by decide)
 odd:=fun x h=>by
  have h1:=congrArg sC (Rk F2 h);rw[yJ,yJ,aVh]at h1;exact Aw nb2 (by decide) (by decide) aWK _ h1
theorem aNy (x:Nat):wv x%18446744073709551616=fw x 0:=by
 obtain⟨h0,h1,h2,h3⟩:=cQ x;unfold wv aC;omega
theorem SS (x p:Nat):rK x p=vH (JS (wv x) p):=by
 have e:mH x p=JS (wv x) p:=by
  unfold mH JS
  by_cases h:p=0
  ·rw[if_pos h,if_pos h];unfold Md;have:=aNy x;omega
  ·rw[if_neg h,if_neg h];generalize wv x/2^(p*4-1)=y;show y/18446744073709551616^0%18446744073709551616%32=y%32;rw[Nat.pow_zero,Nat.div_one];omega
 unfold rK vH;rw[e]
abbrev C1:={p:Pt Fq // On F1 (fm 3) p}
def af1 (p:iU):Pt Fq:=bif p.2.2 then none else some (m1 p.1,m1 p.2.1)
theorem aRR {p:iU} (h:(Yj p).1=0):iA F1 iC (Yj p).2=af1 p∧On F1 (fm 3) (af1 p):=by
 obtain⟨x,y,b⟩:=p;have e:=JO x y b;show iA F1 iC (zO x y b).2=_∧_;have h':(zO x y b).1=0:=h;cases b with
 | true =>
  rw[if_pos rfl]at e;refine⟨?_,trivial⟩;have:(zO x y true).2.2.2=F1.zero:=by
   rw[e];split<;>rfl
  exact dP this
 | false =>
  rw[if_neg (by simp)]at e
  by_cases hb:¬(ET x∧ET y)
  ·rw[if_pos hb]at e;rw[e]at h'; cases h'
  ·rw[if_neg hb]at e
   by_cases hy:F1.mul (m1 y) (m1 y)=F1.add (F1.mul (F1.mul (m1 x) (m1 x)) (m1 x)) (fm 3)
   ·rw[if_pos hy]at e;rw[e];refine⟨SO.jto_one _ _,?_⟩;show F1.mul (m1 y) (m1 y)=F1.add (F1.mul (m1 x) (F1.mul (m1 x) (m1 x))) (fm 3);rw[hy,F1.mul_comm (m1 x) (F1.mul (m1 x) (m1 x))]
   ·rw[if_neg hy]at e;rw[e]at h'; cases h'
def cp1 (p:iU):C1:=if h:(Yj p).1=0 then ⟨af1 p,(aRR h).2⟩else SO.grp.zero
abbrev C2:={p:Pt Q2 // On F2 dE p}
theorem RX {p:J2} {g:C2} (h:Rp bC p g):∀k,Rp bC (LQ p k) (bC.grp.ns k g)
 | 0=>Rp.zero rfl
 | k+1=>(RX h k).plus h
theorem aAb {p:J2} {g:C2} (h:Rp bC p g):∀d:Int,Rp bC (Td p d) (bC.grp.zs d g)
 | .ofNat 0=>Rp.zero rfl
 | .ofNat (k+1)=>RX h (k+1)
 | .negSucc k=>(RX h (k+1)).neg
theorem Rm {pt:Nat→J2} {g:Nat→C2} {N:Nat} (h:∀j,j<N→Rp bC (pt j) (g j)) (x:Nat→Nat) (p:Nat):∀n,n≤N→Rp bC (OG pt x p n) (bC.grp.sm g (fun j=>vH (JS (wv (x j)) p)) n)
 | 0,_=>Rp.zero rfl
 | n+1,hn=>by
  have h2:=aAb (h n (by omega)) (rK (x n) p);rw[SS]at h2;have h1:=Rm h x p n (by omega);have:=h1.plus h2;rw[←SS]at this;show Rp bC _ (bC.grp.add _ (bC.grp.zs (vH (JS (wv (x n)) p)) (g n)));rw[←SS];exact this
theorem Nd {D:Nat→J2} {g:Nat→C2} {N PL:Nat} {x:Nat→Nat} (h:∀p,Rp bC (D p) (bC.grp.sm g (fun j=>vH (JS (wv (x j)) p)) N)):∀k,Rp bC (Wo D PL k) (bC.grp.sm g (fun j=>hor (wv (x j)) PL k) N)
 | 0=>by
  show Rp bC _ (bC.grp.sm g (fun _=>0) N);rw[bC.grp.sm_zero];exact Rp.zero rfl
 | k+1=>by
  have h1:=(Nd (PL:=PL) h k).dbl.dbl.dbl.dbl.plus (h (PL-1-k));rw[bC.grp.sm_two,bC.grp.sm_two,bC.grp.sm_two,bC.grp.sm_two,←bC.grp.sm_add]at h1;rw[bC.grp.sm_congr (d:=fun j=>hor (wv (x j)) PL (k+1)) (fun j _=>by show _=16*hor (wv (x j)) PL k+_; omega)]at h1;exact h1
theorem Th {pt:Nat→J2} {g:Nat→C2} {N:Nat} (h:∀j,j<N→Rp bC (pt j) (g j)) (x:Nat→Nat):Rp bC (FK pt x N) (bC.grp.sm g (fun j=>(wv (x j):Int)) N):=by
 have h1:=Nd (PL:=uQ x N/4+1) (fun p=>Rm h x p N (Nat.le_refl _)) (uQ x N/4+1);rw[bC.grp.sm_congr (d:=fun j=>(wv (x j):Int)) (fun j hj=>aKh _ _ (Nat.lt_of_lt_of_le (yP (x j)).1 (Nat.pow_le_pow_right (by omega) (by have:=aDf x N j hj; omega))) (by omega))]at h1;exact h1
theorem YI {a:J2} {g:C2} (h:Rp bC a g) (n:Nat):∀k,k≤cC n→Rp bC (lG a n (cC n) k) (bC.grp.ns (wv n/2^(cC n-k)) g)
 | 0,_=>by
  rw[Nat.sub_zero,Nat.div_eq_of_lt (yP n).1];exact Rp.zero rfl
 | k+1,hk=>by
  have ih:=YI h n k (by omega);have e:wv n/2^(cC n-k)=wv n/2^(cC n-(k+1))/2:=by
   rw[show cC n-k=(cC n-(k+1))+1 by omega,Nat.pow_add,←Nat.div_div_eq_div_mul]
  have e2:gA (wv n) (cC n-1-k)=wv n/2^(cC n-(k+1))%2:=by
   unfold gA;rw[show cC n-1-k=cC n-(k+1) by omega]
  rw[e]at ih;generalize wv n/2^(cC n-(k+1))=y at ih e2 ⊢;have h2:=ih.dbl;rw[←bC.grp.ns_add]at h2
  by_cases hb:gA (wv n) (cC n-1-k)=1
  ·rw[show lG a n (cC n) (k+1)=rplus F2 (cN F2 (lG a n (cC n) k)) a from if_pos hb];have h3:=h2.rplus h;rw[show y=y/2+y/2+1 by omega];exact h3
  ·rw[show lG a n (cC n) (k+1)=cN F2 (lG a n (cC n) k)from if_neg hb];have hb0:=tO (wv n) (cC n-1-k);rw[show y=y/2+y/2 by omega];exact h2
def af2 (p:cZ):Pt Q2:=bif p.2.2 then none else some (m2 p.1,m2 p.2.1)
theorem aFs {p:cZ} (h:(fO p).1=0):iA F2 dW (fO p).2=af2 p∧On F2 dE (af2 p):=by
 obtain⟨x,y,b⟩:=p;have e:=wT x y b;show iA F2 dW (iN x y b).2=_∧_;have h':(iN x y b).1=0:=h;cases b with
 | true =>
  rw[if_pos rfl]at e;refine⟨?_,trivial⟩;have:(iN x y true).2.2.2=F2.zero:=by
   rw[e];split<;>rfl
  exact dP this
 | false =>
  rw[if_neg (by simp)]at e
  by_cases hb:¬(rM x∧rM y)
  ·rw[if_pos hb]at e;rw[e]at h'; cases h'
  ·rw[if_neg hb]at e
   by_cases hy:F2.mul (m2 y) (m2 y)=F2.add (F2.mul (F2.mul (m2 x) (m2 x)) (m2 x)) dE
   ·rw[if_pos hy]at e;rw[e];refine⟨bC.jto_one _ _,?_⟩;show F2.mul (m2 y) (m2 y)=F2.add (F2.mul (m2 x) (F2.mul (m2 x) (m2 x))) dE;rw[hy,F2.mul_comm (m2 x) (F2.mul (m2 x) (m2 x))]
   ·rw[if_neg hy]at e;rw[e]at h'; cases h'
theorem aNv (p:cZ):iA F2 dW (wd2 p)=af2 p:=by
 obtain⟨x,y,b⟩:=p;cases b with
 | true=>exact dP rfl
 | false=>exact bC.jto_one _ _
def UQ (p:cZ):C2:=if h:(fO p).1=0 then ⟨af2 p,(aFs h).2⟩else bC.grp.zero
theorem SW {p:cZ} (h:(fO p).1=0):(UQ p).1=af2 p:=by unfold UQ; rw[dif_pos h]
theorem Rt {p:cZ} (h:(fO p).1=0):Rp bC (fO p).2 (UQ p):=(aFs h).1.trans (SW h).symm
theorem aRE {p:cZ} (h:(fO p).1=0):Rp bC (wd2 p) (UQ p):=(aNv p).trans (SW h).symm
theorem Ml (p:cZ) (n:Nat):kG (fun _=>p) (fun _=>n) 1=if (fO p).1≠0 then ((some (F2.zero,F2.zero)),(fO p).1)else ((bC.grp.ns (wv n) (UQ p)).1,0):=by
 have e1:nN (fun _=>p) 1=(fO p).1:=if_neg (fun h=>h rfl);unfold kG;rw[e1]
 by_cases h1:(fO p).1=0
 ·simp only[h1,ne_eq,not_true_eq_false,not_false_eq_true,if_true,if_false];have hr:=Th (pt:=MN (fun _=>p)) (g:=fun _=>UQ p) (N:=1) (fun j hj=>Rt h1) (fun _=>n);have hr':iA F2 dW (FK (MN (fun _=>p)) (fun _=>n) 1)=(bC.grp.add bC.grp.zero (bC.grp.ns (wv n) (UQ p))).1:=hr;rw[bC.grp.zadd]at hr';rw[hr']
 ·simp only[h1,ne_eq,not_true_eq_false,not_false_eq_true,if_true,if_false]
theorem aIq (p:cZ):uX p=if (fO p).1≠0 then ((some (F2.zero,F2.zero)),(fO p).1)else ((bC.grp.neg (UQ p)).1,0):=by
 show (if (fO p).1≠0 then ((some (F2.zero,F2.zero)),(fO p).1)else (iA F2 dW (BE F2 (fO p).2),0))=_
 by_cases h1:(fO p).1=0
 ·simp only[h1,ne_eq,not_true_eq_false,not_false_eq_true,if_true,if_false];rw[show iA F2 dW (BE F2 (fO p).2)=_ from (Rt h1).neg]
 ·simp only[h1,ne_eq,not_true_eq_false,not_false_eq_true,if_true,if_false]
structure Chd {R:Type} (K:CR R) (b:R) (p q s:R×R) (n c:R):Prop where
 cub:Cub K b p.1 q.1 s.1 n c
 l1:p.2=K.add (K.mul n p.1) c
 l2:q.2=K.add (K.mul n q.1) c
 l3:K.neg s.2=K.add (K.mul n s.1) c
def hgt {R:Type} (K:CR R) (n:R) (p:R×R):R:=K.sub p.2 (K.mul n p.1)
section
variable {R:Type} {K:CR R} {inv:R→R} {b:R}
theorem TC (E:EC K inv b) {p q:R×R} (hp:On K b (some p)) (hq:On K b (some q)) (hn:¬(p.1=q.1∧K.add p.2 q.2=K.zero)) :
  ∃s,iR K inv (some p) (some q)=some s∧Chd K b p q s (dN K inv p.1 p.2 q.1 q.2) (hgt K (dN K inv p.1 p.2 q.1 q.2) p):=by
 have S:=xN E hp hq hn;refine⟨_,jU hn,?_⟩;generalize dN K inv p.1 p.2 q.1 q.2=l at S ⊢;refine⟨aRD hp S,?_,?_,?_⟩
 ·exact aE K (aW K [p.2,l,p.1]) (.v 0) (Z1*Z2+(Z0-Z1*Z2)) (by kernel_rfl)
 ·exact S.h1.trans (aE K (aW K [p.2,l,q.1,p.1]) (Z0+Z1*(Z2-Z3)) (Z1*Z2+(Z0-Z1*Z3)) (by kernel_rfl))
 ·exact aE K (aW K [p.2,l,sx K l p.1 q.1,p.1]) (-(Z1*(Z3-Z2)-Z0)) (Z1*Z2+(Z0-Z1*Z3)) (by kernel_rfl)
theorem aYj {A1 A2 A3 A3' h1 h2 h3 h3':R} (r:K.mul A1 (K.mul A2 A3')=K.mul h1 (K.mul h2 h3')) (u:K.mul A3 A3'=K.one) (w:K.mul h3 h3'=K.one):K.mul (K.mul A1 A2) h3=K.mul A3 (K.mul h1 h2) :=
 Co (K:=K) (c1:=K.mul A3 h3) (c2:=K.neg (K.mul (K.mul A1 A2) h3)) (c3:=K.mul A3 (K.mul h1 h2)) r u w (aE K (aW K [A1,A2,A3,A3',h1,h2,h3,h3'])
  (Z0*Z1*Z6-Z2*(Z4*Z5))
  (Z2*Z6*(Z0*(Z1*Z3)-Z4*(Z5*Z7))+(-(Z0*Z1*Z6))*(Z2*Z3-RE.one)+Z2*(Z4*Z5)*(Z6*Z7-RE.one)) (by kernel_rfl))
end
theorem aOf:3^GQ%FP.M≠1:=by
 rw[←CF FP.M 256 3 GQ (by decide)];exact of_decide_eq_true (by kernel_rfl)
theorem aPO (n:Fq):F1.mul n n≠fm 3:=fun h=>by
 have hv:n.1^2%FP.M=3:=by
  have:=congrArg Fin.val h;have e:n.1*n.1%FP.M=3%FP.M:=this;rw[Nat.pow_two,e]; decide
 have h0:0<n.1:=by
  rcases Nat.eq_zero_or_pos n.1 with h0|h0
  ·rw[h0]at hv; exact absurd hv (by decide)
  ·exact h0
 have:=Xx h0 n.2;rw[←SE,Nat.pow_mul,Nat.pow_mod,hv]at this;exact aOf this
theorem oU {p:Fq×Fq} (h:On F1 (fm 3) (some p)):p.1≠F1.zero:=fun e=>by
 have h':F1.mul p.2 p.2=F1.add (F1.mul p.1 (F1.mul p.1 p.1)) (fm 3):=h;rw[e,F1.zero_mul,F1.zero_add]at h';exact aPO _ h'
theorem iM {p:Fq×Fq} (h:On F1 (fm 3) (some p)):p.2≠F1.zero:=SO.y_ne h
theorem mF {p:Q2×Q2} (h:On F2 dE (some p)):p.2≠F2.zero:=bC.y_ne h
theorem aMy {a:aV} (h:a≠aD.zero):mE a≠aD.zero:=fun e=>by
 have t:=jY h;rw[e,aD.mul_zero]at t;exact jJ.1 t.symm
theorem aPX {a:aV} (h:a≠aD.zero):mC a≠aD.zero:=fun e=>by
 have t:=dL h (aMy h);rw[jY h,yN,e,aD.zero_mul]at t;exact jJ.1 t
abbrev Vq:={z:aV // z≠aD.zero}
def vg:AG Vq where
 add a b:=⟨aD.mul a.1 b.1,nY a.2 b.2⟩
 neg a:=⟨mE a.1,aMy a.2⟩
 zero:=⟨aD.one,jJ.1⟩
 assoc a b c:=Subtype.ext (aD.mul_assoc _ _ _)
 comm a b:=Subtype.ext (aD.mul_comm _ _)
 zadd a:=Subtype.ext (aD.one_mul _)
 nadd a:=Subtype.ext ((aD.mul_comm _ _).trans (jY a.2))
open Classical in
def lv (z:aV):Vq:=if h:z=aD.zero then vg.zero else ⟨mC z,aPX h⟩
theorem dD {z:aV} (h:z≠aD.zero):(lv z).1=mC z:=by unfold lv; rw[dif_neg h]
def lnT (t t':Q2×Q2) (a:Fq×Fq):aV:=lT (dN F2 dW t.1 t.2 t'.1 t'.2) (hgt F2 (dN F2 dW t.1 t.2 t'.1 t'.2) t) a.1 a.2
def lnP (p q:Fq×Fq) (t:Q2×Q2):aV:=lP (dN F1 iC p.1 p.2 q.1 q.2) (hgt F1 (dN F1 iC p.1 p.2 q.1 q.2) p) t.1 t.2
def Iv:Pt Q2→Pt Q2→Pt Fq→Vq
 | some t,some t',some a=>lv (lnT t t' a)
 | _,_,_=>vg.zero
def KR:Pt Fq→Pt Fq→Pt Fq→Pt Q2→Vq
 | some p,some q,some _,some t=>lv (lnP p q t)
 | _,_,_,_=>vg.zero
def LV (P:C1) (T T':C2):Vq:=Iv T.1 T'.1 P.1
def HV (P P':C1) (T:C2):Vq:=KR P.1 P'.1 (SO.grp.add P P').1 T.1
def okT (T T':C2):Prop:=T.1≠none∧T'.1≠none∧(bC.grp.add T T').1≠none
theorem De:vg.add vg.zero vg.zero=vg.zero:=vg.zadd _
theorem CP (p' s:Pt Fq) (t:Pt Q2):KR none p' s t=vg.zero:=by simp only[KR]
theorem CO (p s:Pt Fq) (t:Pt Q2):KR p none s t=vg.zero:=by cases p<;>simp only[KR]
theorem CN (p p':Pt Fq) (t:Pt Q2):KR p p' none t=vg.zero:=by cases p<;>cases p'<;>simp only[KR]
theorem NQ (p p' s:Pt Fq):KR p p' s none=vg.zero:=by cases p<;>cases p'<;>cases s<;>simp only[KR]
theorem Bc (t t':Pt Q2):Iv t t' none=vg.zero:=by cases t<;>cases t'<;>simp only[Iv]
theorem aMt (t':Pt Q2) (a:Pt Fq):Iv none t' a=vg.zero:=by simp only[Iv]
theorem aMs (t:Pt Q2) (a:Pt Fq):Iv t none a=vg.zero:=by cases t<;>simp only[Iv]
theorem wM {t t':Q2×Q2} {a:Fq×Fq} (h:a.2≠F1.zero):lnT t t' a≠aD.zero:=rV h
theorem BA {p q:Fq×Fq} {t:Q2×Q2} (h:t.2≠F2.zero):lnP p q t≠aD.zero:=tB h
theorem CM (p q s:Fq×Fq) (t:Q2×Q2):KR (some p) (some q) (some s) (some t)=lv (lnP p q t):=by simp only[KR]
theorem NP (t t':Q2×Q2) (a:Fq×Fq):Iv (some t) (some t') (some a)=lv (lnT t t' a):=by simp only[Iv]
theorem lX (a b:Vq):(vg.add a b).1=aD.mul a.1 b.1:=rfl
theorem FB:vg.zero.1=aD.one:=rfl
theorem oS (t t':Q2×Q2) (a:Fq×Fq):lnT t t' a=lT (dN F2 dW t.1 t.2 t'.1 t'.2) (hgt F2 (dN F2 dW t.1 t.2 t'.1 t'.2) t) a.1 a.2:=rfl
theorem wN (p q:Fq×Fq) (t:Q2×Q2):lnP p q t=lP (dN F1 iC p.1 p.2 q.1 q.2) (hgt F1 (dN F1 iC p.1 p.2 q.1 q.2) p) t.1 t.2:=rfl
theorem Br (P P':C1):(SO.grp.add P P').1=iR F1 iC P.1 P'.1:=rfl
theorem nK (P P':C2):(bC.grp.add P P').1=iR F2 dW P.1 P'.1:=rfl
theorem Hs (t:Q2×Q2):MG F2 (some t)=some (t.1,F2.neg t.2):=rfl
theorem aOS (t:Fq×Fq):MG F1 (some t)=some (t.1,F1.neg t.2):=rfl
theorem EG {R:Type} {K:CR R} {inv:R→R} {p q:R×R} (h:iR K inv (some p) (some q)≠none):¬(p.1=q.1∧K.add p.2 q.2=K.zero):=fun e=>h (kW e)
theorem Ph {p p' s:Pt Fq} {t:Pt Q2} (hp:On F1 (fm 3) p) (hp':On F1 (fm 3) p') (hs:iR F1 iC p p'=s) (ht:On F2 dE t):vg.add (KR p p' s t) (KR p p' s (MG F2 t))=vg.zero:=by
 match p,p',s,t with
 | none,_,_,_=>rw[CP,CP,De]
 | some p,none,_,_=>rw[CO,CO,De]
 | some p,some q,none,_=>rw[CN,CN,De]
 | some p,some q,some s,none=>rw[show MG F2 (none:Pt Q2)=none from rfl,NQ,De]
 | some p,some q,some s,some t =>
  obtain⟨s',e1,C⟩:=TC SO hp hp' (EG (by rw[hs]; exact Option.some_ne_none _));have e2:s'=s:=by rw[hs]at e1; exact (Option.some.inj e1).symm
  subst e2;have hs':On F1 (fm 3) (some s'):=by rw[←hs]; exact hp.add SO hp'
  refine Subtype.ext ?_;rw[Hs,CM,CM,lX,FB];have hy':F2.neg t.2≠F2.zero:=fun e=>mF ht (by rw[←F2.neg_neg t.2,e,wJ])
  rw[dD (BA (mF ht)),dD (BA (t:=(t.1,F2.neg t.2)) hy')];have r:=Bd C.cub (x:=t.1) (y:=t.2) ht (mF ht) (oU hp) (oU hp') (oU hs');rw[wN,wN];dsimp only;exact r
theorem aSL (P P':C1) (T:C2):HV P P' (bC.grp.neg T)=vg.neg (HV P P' T):=by
 refine vg.cancel (a:=HV P P' T) ?_;rw[vg.addn];exact Ph P.2 P'.2 rfl T.2
theorem aJQ {t t':Pt Q2} {a:Pt Fq} (ht:On F2 dE t) (ht':On F2 dE t') (hn:iR F2 dW t t'≠none) (ha:On F1 (fm 3) a):vg.add (Iv t t' a) (Iv t t' (MG F1 a))=vg.zero:=by
 match t,t',a with
 | none,_,_=>rw[aMt,aMt,De]
 | some t,none,_=>rw[aMs,aMs,De]
 | some t,some t',none=>rw[show MG F1 (none:Pt Fq)=none from rfl,Bc,De]
 | some t,some t',some a =>
  obtain⟨u,e1,C⟩:=TC bC ht ht' (EG hn);refine Subtype.ext ?_;rw[aOS,NP,NP,lX,FB];have hy':F1.neg a.2≠F1.zero:=fun e=>iM ha (by rw[←F1.neg_neg a.2,e,bQ])
  rw[dD (wM (iM ha)),dD (wM (a:=(a.1,F1.neg a.2)) hy')];have r:=Pi C.cub (a:=a.1) (b:=a.2) ha (iM ha) (oU ha);rw[oS,oS];dsimp only;exact r
theorem Qb {p p':Pt Fq} {t t':Pt Q2} (hp:On F1 (fm 3) p) (hp':On F1 (fm 3) p') (ht:On F2 dE t) (ht':On F2 dE t') (h1:t≠none) (h2:t'≠none) (h3:iR F2 dW t t'≠none) :
  vg.add (vg.add (Iv t t' p) (Iv t t' p')) (KR p p' (iR F1 iC p p') (iR F2 dW t t'))=vg.add (Iv t t' (iR F1 iC p p')) (vg.add (KR p p' (iR F1 iC p p') t) (KR p p' (iR F1 iC p p') t')):=by
 match p,p',t,t' with
 | _,_,none,_=>exact absurd rfl h1
 | _,_,some _,none=>exact absurd rfl h2
 | none,p',some t,some t'=>rw[CP,CP,CP,Bc,vg.zadd,De,show iR F1 iC none p'=p' from rfl]
 | some p,none,some t,some t'=>rw[CO,CO,CO,Bc,vg.addz,De,show iR F1 iC (some p) none=some p from rfl]
 | some p,some q,some t,some t' =>
  obtain⟨u,e1,D⟩:=TC bC ht ht' (EG h3);have hu:On F2 dE (some u):=by rw[←e1]; exact ht.add bC ht'
  by_cases hn:p.1=q.1∧F1.add p.2 q.2=F1.zero
  ·rw[kW hn,CN,CN,CN,Bc,De,vg.addz,De];have e:q=(p.1,F1.neg p.2):=Prod.ext hn.1.symm (by
    have h:=congrArg (fun z=>F1.add (F1.neg p.2) z) hn.2;simp only[←F1.add_assoc,F1.add_zero]at h;rw[F1.add_comm (F1.neg p.2) p.2,F1.add_neg,F1.zero_add]at h;exact h)
   rw[e];exact aJQ ht ht' h3 hp
  ·obtain⟨s,e2,C⟩:=TC SO hp hp' hn;have hs:On F1 (fm 3) (some s):=by rw[←e2]; exact hp.add SO hp'
   rw[e1,e2];refine Subtype.ext ?_;rw[NP,NP,NP,CM,CM,CM,lX,lX,lX,lX];rw[dD (wM (iM hp)),dD (wM (iM hp')),dD (wM (iM hs)),dD (BA (mF ht)),dD (BA (mF ht')),dD (BA (mF hu))];have hy1:F1.neg s.2≠F1.zero:=fun e=>iM hs (by rw[←F1.neg_neg s.2,e,bQ])
   have hy2:F2.neg u.2≠F2.zero:=fun e=>mF hu (by rw[←F2.neg_neg u.2,e,wJ])
   have r1:=Xh C.cub D.cub C.l1 C.l2 C.l3 D.l1 D.l2 D.l3 (iM hp) (iM hp') hy1 (mF ht) (mF ht') hy2;have r2:=Pi D.cub (a:=s.1) (b:=s.2) hs (iM hs) (oU hs);have r3:=Bd C.cub (x:=u.1) (y:=u.2) hu (mF hu) (oU hp) (oU hp') (oU hs);have r:=aYj r1 r2 r3;rw[oS,oS,oS,wN,wN,wN];exact r
theorem hrel (P P':C1) (T T':C2) (ho:okT T T'):vg.add (vg.add (LV P T T') (LV P' T T')) (HV P P' (bC.grp.add T T'))=vg.add (LV (SO.grp.add P P') T T') (vg.add (HV P P' T) (HV P P' T')):=by
 unfold LV HV;rw[Br,nK];exact Qb P.2 P'.2 T.2 T'.2 ho.1 ho.2.1 ho.2.2
end Go.Proofs.YtjkpglhlmknciaaGreat.Ex
