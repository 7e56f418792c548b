/- Pl11 -/
import Derived.Test.YtglgakbkdjhojaaGreatPl10
import Derived.Test.YtglgakbkdjhojaaGreatPl02
import Derived.Test.YtglgakbkdjhojaaGreatProg
set_option maxRecDepth 100000
set_option linter.unusedVariables false
set_option linter.unusedSimpArgs false
noncomputable section
namespace Go.Proofs.YtglgakbkdjhojaaGreat.Ex
open Go.Proofs.Tryz
open Go.RowKit
def YR (old:Nat→Nat→List At→Prop):Ext:={ idx:=fun _=>none,ld:=fun _=>none,st:=fun _=>none,gen:=fun _=>none,mks:=fun _=>none,ky:=fun _=>none,old:=old,T2:=Fr0 }
theorem uC {x:Ext} {w:World} (h:x.old=oldOf w) (h2:x.T2=Fr0):cV prog (qX prog x) w.heap.size w:=pK (h2▸lH _) fun _ _ _ q=>h▸q
def nY (x:Nat→Nat):Nat→Nat
 | 0=>0
 | i+1=>if aS (x i)>nY x i then aS (x i)else nY x i
theorem UX (x:Nat→Nat):∀i,nY x i≤256
 | 0=>Nat.zero_le _
 | i+1=>by
  have:=UX x i;have:=AS (x i);unfold nY;split<;>omega
theorem Nz (x:Nat→Nat):∀n i,i<n→aS (x i)≤nY x n
 | n+1,i,h=>by
  unfold nY
  by_cases e:i=n
  ·subst e; split<;>omega
  ·have:=Nz x n i (by omega);split<;>omega
def plX (old:Nat→Nat→List At→Prop) (x i:Nat):Ext:={ YR old with idx:=assoc [(11,i)],ld:=assoc [(12,[At.q x])] }
def plF (b o n m i mx:Nat):List Fact:=[.slot 1 (.pt 1 0),.row 1 true (fA b o n m),.slot 3 (.im (iI mx)),.slot 7 (.im (lQ b o n m)),.slot 8 (.im (iI n)),.slot 9 (.im (iI i))]
def Ie (num:Nat→Option Value) (_:Nat):Cfg:=⟨fun _=>gJ true,fun _=>true,num⟩
def nC:Code:=(f253.body).getD .skip
def Nf:Code:=pC (pC (cB (cA (cB (cB nC)))))
theorem aNF:nC=.seq (cA nC) (.seq (cA (cB nC)) (.seq (.seq (cA (cA (cB (cB nC)))) (.block 0 (.loop Nf))) (cB (cB (cB nC))))):=by kernel_rfl
def plA (b o n m:Nat):List Fact:=[.slot 1 (.pt 1 0),.row 1 true (fA b o n m)]
def plB (b o n m:Nat):List Fact:=[.slot 1 (.pt 1 0),.row 1 true (fA b o n m),.slot 3 (.im (iI 0))]
theorem bBX (b o n m:Nat):aU prog (qG prog) f253.ntmps (Ie fun _=>none) 40 (cA nC) (lC 0 [.v (.fl (fA b o n m))]) (plA b o n m)=some ([],.nrm,plA b o n m):=by kernel_rfl
theorem bBW (b o n m:Nat):aU prog (qG prog) f253.ntmps (Ie fun _=>none) 40 (cA (cB nC)) (plA b o n m) (plB b o n m)=some ([],.nrm,plB b o n m):=by kernel_rfl
theorem bBV (b o n m:Nat):aU prog (qG prog) f253.ntmps (Ie fun _=>none) 40 (cA (cA (cB (cB nC)))) (plB b o n m) (plF b o n m 0 0)=some ([],.nrm,plF b o n m 0 0):=by kernel_rfl
theorem bBY (old:Nat→Nat→List At→Prop) (b o n m i mx mx' x:Nat):aU prog (qX prog (plX old x i)) f253.ntmps (Ie (assoc [(10,.bool true),(16,iI mx'),(17,iI (i+1))])) 40 Nf (plF b o n m i mx) (plF b o n m (i+1) mx')=some ([aI .lss .i64 (Int.ofNat i) (Int.ofNat n)=some (.bool true),Int.ofNat i=Int.ofNat i,i<n,old b (o+i*4) [.q x],dF [At.q x]=4,Value.int .i64 (if (Int.ofNat (aS x))>(Int.ofNat mx)then Int.ofNat (aS x)else Int.ofNat mx)=iI mx',aI .add .i64 (Int.ofNat i) 1=some (iI (i+1))],.nrm,plF b o n m (i+1) mx'):=by kernel_rfl
theorem aUY (b o n m i mx:Nat):aU prog (qG prog) f253.ntmps (Ie (assoc [(10,.bool false)])) 40 Nf (plF b o n m i mx) (plF b o n m i mx)=some ([aI .lss .i64 (Int.ofNat i) (Int.ofNat n)=some (.bool false)],.ex 0,plF b o n m i mx):=by kernel_rfl
theorem aNE (b o n m i mx:Nat):aU prog (qG prog) f253.ntmps (Ie (assoc [(21,iI (mx/4)),(22,iI (mx/4+1))])) 40 (cB (cB (cB nC))) (plF b o n m i mx) [.slot 2 (.im (iI (mx/4+1)))]=some ([aI .quo .i64 (Int.ofNat mx) (Int.ofNat 4)=some (iI (mx/4)),aI .add .i64 (Int.ofNat (mx/4)) 1=some (iI (mx/4+1))],.rt,[.slot 2 (.im (iI (mx/4+1)))]):=by kernel_rfl
theorem AD {w0:World} (b o n m:Nat) (x:Nat→Nat) (hx:∀i,i<n→oldOf w0 b (o+i*4) [.q (x i)]) (hn:n<4611686018427387904):Calls prog 253 #[.agg (aA (fA b o n m)).toArray] w0 (fun e w'=>e=.returned (iI (nY x n/4+1))∧Below w0.heap.size w0 w'):=by
 have hG:cV prog (qG prog) w0.heap.size w0:=(aJ _).w _ _;have hT:∀n d:Nat,TabOkW prog (gJ true) w0.heap.size w0:=fun _ _=>(kS true).w _ _
 refine dL func253 (c:=nC) rfl (args:=[.agg (aA (fA b o n m)).toArray]) (cs:=[.v (.fl (fA b o n m))]) ⟨rfl,trivial⟩ (Nat.le_of_ble_eq_true (by kernel_rfl)) fun a w' hA => ?_
 rw[aNF];refine wp_seq (aD aE hT hG (bBX b o n m) trivial hA fun a w' hA => ?_);refine wp_seq (aD aE hT hG (bBW b o n m) trivial hA fun a w' hA => ?_);refine wp_seq (wp_seq (aD aE hT hG (bBV b o n m) trivial hA fun a w' hA => ?_));refine wp_block ?_;refine jR aE (fun i=>plF b o n m i (nY x i)) n (fun i hi => ?_) (.ex 0) (by simp) (plF b o n m n (nY x n)) ?_ hA fun a w' hA => ?_
 ·refine⟨_,_,_,_,uC (x:=plX (oldOf w0) (x i) i) rfl rfl,hT,bBY (oldOf w0) b o n m i (nY x i) (nY x (i+1)) (x i),cJ hi,rfl,hi,hx i hi,rfl,?_,mO (k:=1) (by omega),trivial⟩;show Value.int .i64 (if ((aS (x i):Nat):Int)>((nY x i:Nat):Int)then ((aS (x i):Nat):Int)else ((nY x i:Nat):Int))=.int .i64 ((nY x (i+1):Nat):Int);rw[nY]
  by_cases h:aS (x i)>nY x i
  ·rw[if_pos h,if_pos (by omega)]
  ·rw[if_neg h,if_neg (by omega)]
 ·exact⟨_,_,_,_,hG,hT,aUY b o n m n _,fP (Nat.le_refl _),trivial⟩
 ·have:=UX x n;show (cB (cB (cB nC))).wp _ _ _ _;exact aD aE hT hG (aNE b o n m n _) ⟨aRq (by omega) (by omega),mO (k:=1) (by omega),trivial⟩ hA fun a w' hA=>eF (l:=[.im (iI (nY x n/4+1))]) (r:=.one (.im (iI (nY x n/4+1)))) (by kernel_rfl) (by kernel_rfl) hA
def OS (p:J1):Nat→J1
 | 0=>(F1.zero,F1.zero,F1.zero)
 | k+1=>fI F1 (OS p k) p
def Zl (p:J1):Int→J1
 | .ofNat 0=>(F1.zero,F1.zero,F1.zero)
 | .ofNat (k+1)=>OS p (k+1)
 | .negSucc k=>vA F1 (OS p (k+1))
def Zn (old:Nat→Nat→List At→Prop) (k:Nat) (h:Int) (q:J1):Ext:={ YR old with idx:=assoc [(12,k),(22,k)],ld:=assoc [(13,bK q),(23,bK q)],gen:=assoc [(19,.int .i64 h)] }
theorem aAq (old:Nat→Nat→List At→Prop) (b off k:Nat) (g h:Int) (q:J1):aO prog (qX prog (Zn old k h q)) (fun _=>⟨fun s=>gJ true,fun s=>true,assoc [(7,.bool true),(10,iI k)]⟩) f233 80 [.v (.im (jP b off)),.v (.im (.int .i64 g))]=some ([aI .gtr .i64 g 0=some (.bool true),aI .sub .i64 g 1=some (iI k),Int.ofNat k=Int.ofNat k,k<8,old b (off+k*12) (bK q),dF (bK q)=12],.one (.fl (bK q))):=by kernel_rfl
theorem aAr (old:Nat→Nat→List At→Prop) (b off k:Nat) (g h:Int) (q:J1):aO prog (qX prog (Zn old k h q)) (fun _=>⟨fun s=>gJ true,fun s=>true,assoc [(7,.bool false),(16,.bool true),(20,iI k)]⟩) f233 80 [.v (.im (jP b off)),.v (.im (.int .i64 g))]=some ([aI .gtr .i64 g 0=some (.bool false),aI .lss .i64 g 0=some (.bool true),(∀W:World,(Op.unary .neg (.int .i64 g)).run prog W=.ok (.int .i64 h) W),aI .sub .i64 h 1=some (iI k),Int.ofNat k=Int.ofNat k,k<8,old b (off+k*12) (bK q),dF (bK q)=12],.one (.fl (bK (vA F1 q)))):=by kernel_rfl
theorem aAp (old:Nat→Nat→List At→Prop) (b off k:Nat) (g h:Int) (q:J1):aO prog (qX prog (Zn old k h q)) (fun _=>⟨fun s=>gJ true,fun s=>true,assoc [(7,.bool false),(16,.bool false)]⟩) f233 80 [.v (.im (jP b off)),.v (.im (.int .i64 g))]=some ([aI .gtr .i64 g 0=some (.bool false),aI .lss .i64 g 0=some (.bool false)],.one (.fl (bK (F1.zero,F1.zero,F1.zero)))):=by kernel_rfl
theorem It {w0:World} (b off:Nat) (g:Int) (p:J1) (hp:∀k,k<8→oldOf w0 b (off+k*12) (bK (OS p (k+1)))) (h1 : -8≤g) (h2:g≤8):Calls prog 233 #[jP b off,.int .i64 g] w0 (fun e w'=>e=.returned (.agg (aA (bK (Zl p g))).toArray)∧Below w0.heap.size w0 w'):=by
 have hT:∀n d:Nat,TabOkW prog (gJ true) w0.heap.size w0:=fun _ _=>(kS true).w _ _
 have ha:bZ w0 [.v (.im (jP b off)),.v (.im (.int .i64 g))] [jP b off,.int .i64 g]:=⟨rfl,rfl,trivial⟩
 match g,h1,h2,ha with
 | .ofNat 0,_,_,ha=>exact bQ aE hT (uC (x:=Zn (oldOf w0) 0 0 (F1.zero,F1.zero,F1.zero)) rfl rfl) func233 (aAp (oldOf w0) b off 0 _ 0 (F1.zero,F1.zero,F1.zero)) ⟨rfl,rfl,trivial⟩ ha
 | .ofNat (k+1),_,h2,ha =>
  have hk:k<8:=by have h2':((k+1:Nat):Int)≤8:=h2; omega
  exact bQ aE hT (uC (x:=Zn (oldOf w0) k 0 (OS p (k+1))) rfl rfl) func233 (aAq (oldOf w0) b off k _ 0 (OS p (k+1))) ⟨by rw[show (0:Int)=Int.ofNat 0 from rfl,EM,decide_eq_true (by omega)],tO (k:=1) (by omega) (by omega),rfl,hk,hp k hk,rfl,trivial⟩ ha
 | .negSucc k,h1,_,ha =>
  have hk:k<8:=by have h1' : -8 ≤ -((k:Int)+1):=h1; omega
  refine bQ aE hT (uC (x:=Zn (oldOf w0) k (Int.ofNat (k+1)) (OS p (k+1))) rfl rfl) func233 (aAr (oldOf w0) b off k _ (Int.ofNat (k+1)) (OS p (k+1))) ⟨?_,?_,?_,tO (k:=1) (by omega) (by omega),rfl,hk,hp k hk,rfl,trivial⟩ ha
  ·show some (Value.bool (decide (Int.negSucc k>0)))=_;rw[decide_eq_false (by omega)]
  ·show some (Value.bool (decide (Int.negSucc k<0)))=_;rw[decide_eq_true (by omega)]
  ·intro W;have e:IntKind.i64.wrap (0-Int.negSucc k)=Int.ofNat (k+1):=by rw[IntKind.wrap_i64]; show _=((k+1:Nat):Int); omega
   show (Op.intArith .sub .i64 0 (Int.negSucc k)).run prog W=_;simp only[Op.intArith,Sem.run_pure,e]
def aIy (bT i:Nat) (p:J1):kC
 | [.v (.im (.pointer (some ⟨b',off,.none⟩))),.v (.im (.int .i64 g))]=>some ([b'=bT,off=i*96,-8≤g,g≤8],.one (.fl (bK (Zl p g))))
 | _=>none
theorem aIx {w:World} {bT i:Nat} {p:J1} (hp:∀k,k<8→oldOf w bT (i*96+k*12) (bK (OS p (k+1)))):∀cs pre r,aIy bT i p cs=some (pre,r)→bC pre→∀(args:List Value),bZ w cs args→Good prog 233 r args w:=by
 intro cs pre r hg hq args ha;unfold aIy at hg;split at hg
 ·rename_i b' off g;cases hg;obtain⟨rfl,rfl,h1,h2,_⟩:=hq
  match args,ha with
  | [u,v],ha =>
   have e1:u=jP b' (i*96):=ha.1;have e2:v=.int .i64 g:=ha.2.1;subst e1; subst e2;exact It b' _ g p hp h1 h2
  | [],ha=>exact ha.elim
  | [_],ha=>exact ha.2.elim
  | _::_::_::_,ha=>exact ha.2.2.elim
 ·cases hg
def RK (pt:Nat→J1) (x:Nat→Nat) (p:Nat):Nat→J1
 | 0=>(F1.zero,F1.zero,F1.zero)
 | i+1=>fI F1 (RK pt x p i) (Zl (pt i) (nG (x i) p))
def aPP (old:Nat→Nat→List At→Prop) (bT N b o n m i:Nat):Ext:={ YR old with idx:=assoc [(15,i)],ld:=assoc [(16,fA b o n m)],gen:=assoc [(7,lQ bT 0 N N),(13,lQ bT 0 N N)] }
def ML (pl bt bd N i:Nat) (c:J1):List Fact:=[.slot 0 (.im (iI pl)),.slot 1 (.im (jP bt 0)),.slot 2 (.im (jP bd 0)),.slot 4 (.pt 4 0),.row 4 true (bK (F1.zero,F1.zero,F1.zero)),.slot 5 (.pt 5 0),.row 5 true (bK c),.slot 8 (.im (iI N)),.slot 9 (.im (iI i))]
def bGZ (bT b o n m:Nat) (x:Nat→Nat) (i:Nat) (p:J1):Tab:=((gJ true).add 234 (gAt b o n m x)).add 233 (aIy bT i p)
def jN:Code:=(f232.body).getD .skip
def WP:Code:=pC (pC (cB (cA (cB (cB jN)))))
theorem aJG:jN=.seq (cA jN) (.seq (cA (cB jN)) (.seq (.seq (cA (cA (cB (cB jN)))) (.block 0 (.loop WP))) (cB (cB (cB jN))))):=by kernel_rfl
def aYG (pl bt bd:Nat):List Fact:=[.slot 0 (.im (iI pl)),.slot 1 (.im (jP bt 0)),.slot 2 (.im (jP bd 0)),.slot 4 (.pt 4 0),.row 4 true (bK (F1.zero,F1.zero,F1.zero))]
def aYE (pl bt bd:Nat):List Fact:=[.slot 0 (.im (iI pl)),.slot 1 (.im (jP bt 0)),.slot 2 (.im (jP bd 0)),.slot 4 (.pt 4 0),.row 4 true (bK (F1.zero,F1.zero,F1.zero)),.slot 5 (.pt 5 0),.row 5 true (bK (F1.zero,F1.zero,F1.zero))]
theorem aYN (pl bt bd:Nat):aU prog (qG prog) f232.ntmps (Ie fun _=>none) 40 (cA jN) (lC 0 [.v (.im (iI pl)),.v (.im (jP bt 0)),.v (.im (jP bd 0))]) (aYG pl bt bd)=some ([],.nrm,aYG pl bt bd):=by kernel_rfl
theorem aYM (pl bt bd:Nat):aU prog (qG prog) f232.ntmps (Ie fun _=>none) 40 (cA (cB jN)) (aYG pl bt bd) (aYE pl bt bd)=some ([],.nrm,aYE pl bt bd):=by kernel_rfl
theorem aYL (old:Nat→Nat→List At→Prop) (pl bt bd bT N b o n m:Nat):aU prog (qX prog (aPP old bT N b o n m 0)) f232.ntmps (Ie fun _=>none) 40 (cA (cA (cB (cB jN)))) (aYE pl bt bd) (ML pl bt bd N 0 (F1.zero,F1.zero,F1.zero))=some ([old bt 0 [.c (lQ bT 0 N N)]],.nrm,ML pl bt bd N 0 (F1.zero,F1.zero,F1.zero)):=by kernel_rfl
theorem aYO (old:Nat→Nat→List At→Prop) (pl bt bd bT N b o n m i:Nat) (x:Nat→Nat) (p c:J1):aU prog (qX prog (aPP old bT N b o n m i)) f232.ntmps (fun _=>⟨fun _=>bGZ bT b o n m x i p,fun _=>true,assoc [(10,.bool true),(22,iI (i+1))]⟩) 40 WP (ML pl bt bd N i c) (ML pl bt bd N (i+1) (fI F1 c (Zl p (nG (x i) pl))))=some ([aI .lss .i64 (Int.ofNat i) (Int.ofNat N)=some (.bool true),old bt 0 [.c (lQ bT 0 N N)],Int.ofNat i=Int.ofNat i,i<N,old bd 0 (fA b o n m),dF (fA b o n m)=2,b=b,o=o,n=n,m=m,i<n,pl<1152921504606846976,bT=bT,0+i*96=i*96,-8≤nG (x i) pl,nG (x i) pl≤8,aI .add .i64 (Int.ofNat i) 1=some (iI (i+1))],.nrm,ML pl bt bd N (i+1) (fI F1 c (Zl p (nG (x i) pl)))):=by kernel_rfl
theorem aPR (pl bt bd N i:Nat) (c:J1):aU prog (qG prog) f232.ntmps (Ie (assoc [(10,.bool false)])) 40 WP (ML pl bt bd N i c) (ML pl bt bd N i c)=some ([aI .lss .i64 (Int.ofNat i) (Int.ofNat N)=some (.bool false)],.ex 0,ML pl bt bd N i c):=by kernel_rfl
theorem aJF (pl bt bd N i:Nat) (c:J1):aU prog (qG prog) f232.ntmps (Ie fun _=>none) 40 (cB (cB (cB jN))) (ML pl bt bd N i c) [.slot 4 (.pt 4 0),.row 4 true (bK c)]=some ([],.rt,[.slot 4 (.pt 4 0),.row 4 true (bK c)]):=by kernel_rfl
theorem IE (x p:Nat) : -8≤nG x p∧nG x p≤8:=by
 have:=Xf x p;unfold nG;split<;>omega
structure ClMem1 (w:World) (bt bd bT N b o n m:Nat) (x:Nat→Nat) (pt:Nat→J1):Prop where
 t:oldOf w bt 0 [.c (lQ bT 0 N N)]
 d:oldOf w bd 0 (fA b o n m)
 x:∀i,i<n→oldOf w b (o+i*4) [.q (x i)]
 p:∀i,i<N→∀k,k<8→oldOf w bT (i*96+k*12) (bK (OS (pt i) (k+1)))
theorem oldOf.on {base:Nat} {w w':World} (hb:Below w.heap.size w w') {b o:Nat} {l:List At} (h:oldOf w b o l):oldOf w' b o l:=⟨Nat.lt_of_lt_of_le h.1 hb.size,jZ hb h.1 h.2⟩
theorem ClMem1.on {w w':World} (hb:Below w.heap.size w w') {bt bd bT N b o n m:Nat} {x:Nat→Nat} {pt:Nat→J1} (h:ClMem1 w bt bd bT N b o n m x pt):ClMem1 w' bt bd bT N b o n m x pt :=
 ⟨h.t.on hb (base:=0),h.d.on hb (base:=0),fun i hi=>(h.x i hi).on hb (base:=0),fun i hi k hk=>(h.p i hi k hk).on hb (base:=0)⟩
theorem aCL {w0:World} {bt bd bT N b o n m:Nat} {x:Nat→Nat} {pt:Nat→J1} (h:ClMem1 w0 bt bd bT N b o n m x pt) (hN:N≤n) (hn:n<4611686018427387904) {pl:Nat} (hpl:pl<1152921504606846976):Calls prog 232 #[iI pl,jP bt 0,jP bd 0] w0 (fun e w'=>e=.returned (.agg (aA (bK (RK pt x pl N))).toArray)∧Below w0.heap.size w0 w'):=by
 have hG:cV prog (qG prog) w0.heap.size w0:=(aJ _).w _ _;have hT:∀n d:Nat,TabOkW prog (gJ true) w0.heap.size w0:=fun _ _=>(kS true).w _ _
 refine dL func232 (c:=jN) rfl (args:=[iI pl,jP bt 0,jP bd 0]) (cs:=[.v (.im (iI pl)),.v (.im (jP bt 0)),.v (.im (jP bd 0))]) ⟨rfl,rfl,rfl,trivial⟩ (Nat.le_of_ble_eq_true (by kernel_rfl)) fun a w' hA => ?_
 rw[aJG];refine wp_seq (aD aE hT hG (aYN pl bt bd) trivial hA fun a w' hA => ?_);refine wp_seq (aD aE hT hG (aYM pl bt bd) trivial hA fun a w' hA => ?_);refine wp_seq (wp_seq (aD aE hT (uC (x:=aPP (oldOf w0) bT N b o n m 0) rfl rfl) (aYL (oldOf w0) pl bt bd bT N b o n m) ⟨h.t,trivial⟩ hA fun a w' hA => ?_));refine wp_block ?_;refine jR aE (fun i=>ML pl bt bd N i (RK pt x pl i)) N (fun i hi => ?_) (.ex 0) (by simp) (ML pl bt bd N N (RK pt x pl N)) ?_ hA fun a w' hA => ?_
 ·refine⟨_,_,_,_,uC (x:=aPP (oldOf w0) bT N b o n m i) rfl rfl,fun _ _ => ?_,aYO (oldOf w0) pl bt bd bT N b o n m i x (pt i) (RK pt x pl i),cJ hi,h.t,rfl,hi,h.d,rfl,rfl,rfl,rfl,rfl,by omega,hpl,rfl,by omega,(IE _ _).1,(IE _ _).2,mO (k:=1) (by omega),trivial⟩;refine TabOkW.add (TabOkW.add ((kS true).w _ _) func234 (by kernel_rfl) (by kernel_rfl) fun w hw => ?_) func233 (by kernel_rfl) (by kernel_rfl) fun w hw => ?_
  ·exact aII fun j hj=>(h.x j hj).on hw (base:=0)
  ·exact aIx fun k hk=>(h.p i hi k hk).on hw (base:=0)
 ·exact⟨_,_,_,_,hG,hT,aPR pl bt bd N N _,fP (Nat.le_refl _),trivial⟩
 ·show (cB (cB (cB jN))).wp _ _ _ _;exact aD aE hT hG (aJF pl bt bd N N _) trivial hA fun a w' hA=>eF (l:=[.fl (bK (RK pt x pl N))]) (r:=.one (.fl (bK (RK pt x pl N)))) (by kernel_rfl) (by kernel_rfl) hA
def ov1 (D:Nat→J1) (PL:Nat):Nat→J1
 | 0=>(F1.zero,F1.zero,F1.zero)
 | i+1=>fI F1 (bX F1 (bX F1 (bX F1 (bX F1 (ov1 D PL i))))) (D (PL-1-i))
def MJ (bt bd:Nat):Value:=.func (.func 232) #[] #[jP bt 0,jP bd 0]
def KJ (bt bd b o n m PL i:Nat) (c:J1):List Fact:=[.slot 1 (.im (MJ bt bd)),.slot 2 (.pt 2 0),.row 2 true (fA b o n m),.slot 4 (.pt 4 0),.row 4 true (bK (F1.zero,F1.zero,F1.zero)),.slot 5 (.pt 5 0),.row 5 true (bK c),.slot 6 (.im (iI PL)),.slot 10 (.im (iI PL)),.slot 11 (.im (iI i))]
def bDg (bt bd:Nat) (D:Nat→J1):kC
 | [.v (.im (.int .i64 (.ofNat p))),.v (.im (.pointer (some ⟨b1,0,.none⟩))),.v (.im (.pointer (some ⟨b2,0,.none⟩)))]=>some ([b1=bt,b2=bd,p<1152921504606846976],.one (.fl (bK (D p))))
 | _=>none
def gPl (b o n m PL:Nat):kC
 | [.v (.fl [.c (.slice (some ⟨b',o',.none⟩) n' m'),.c (.int .i64 (.ofNat 4))])]=>some ([b'=b,o'=o,n'=n,m'=m],.one (.im (iI PL)))
 | _=>none
def bFU (bt bd b o n m PL:Nat) (D:Nat→J1):Tab:=((gJ true).add 253 (gPl b o n m PL)).add 232 (bDg bt bd D)
def iA:Code:=(f231.body).getD .skip
def UF:Code:=pC (pC (cB (cA (cB (cB (cB iA))))))
theorem aGo:iA=.seq (cA iA) (.seq (cA (cB iA)) (.seq (cA (cB (cB iA))) (.seq (.seq (cA (cA (cB (cB (cB iA))))) (.block 0 (.loop UF))) (cB (cB (cB (cB iA))))))):=by kernel_rfl
def Eg (bt bd b o n m PL:Nat) (D:Nat→J1) (num:Nat→Option Value) (_:Nat):Cfg:=⟨fun _=>bFU bt bd b o n m PL D,fun _=>true,num⟩
def aVj (bt bd b o n m:Nat):List Fact:=[.slot 1 (.im (MJ bt bd)),.slot 2 (.pt 2 0),.row 2 true (fA b o n m),.slot 4 (.pt 4 0),.row 4 true (bK (F1.zero,F1.zero,F1.zero))]
def aVh (bt bd b o n m:Nat):List Fact:=[.slot 1 (.im (MJ bt bd)),.slot 2 (.pt 2 0),.row 2 true (fA b o n m),.slot 4 (.pt 4 0),.row 4 true (bK (F1.zero,F1.zero,F1.zero)),.slot 5 (.pt 5 0),.row 5 true (bK (F1.zero,F1.zero,F1.zero))]
def aGk (bt bd b o n m PL:Nat):List Fact:=[.slot 1 (.im (MJ bt bd)),.slot 2 (.pt 2 0),.row 2 true (fA b o n m),.slot 4 (.pt 4 0),.row 4 true (bK (F1.zero,F1.zero,F1.zero)),.slot 5 (.pt 5 0),.row 5 true (bK (F1.zero,F1.zero,F1.zero)),.slot 6 (.im (iI PL))]
theorem aVs (bt bd b o n m PL:Nat) (D:Nat→J1):aU prog (qG prog) f231.ntmps (Eg bt bd b o n m PL D fun _=>none) 40 (cA iA) (lC 0 [.v (.fl (fA b o n m)),.v (.im (MJ bt bd))]) (aVj bt bd b o n m)=some ([],.nrm,aVj bt bd b o n m):=by kernel_rfl
theorem aVr (bt bd b o n m PL:Nat) (D:Nat→J1):aU prog (qG prog) f231.ntmps (Eg bt bd b o n m PL D fun _=>none) 40 (cA (cB iA)) (aVj bt bd b o n m) (aVh bt bd b o n m)=some ([],.nrm,aVh bt bd b o n m):=by kernel_rfl
theorem aVq (bt bd b o n m PL:Nat) (D:Nat→J1):aU prog (qG prog) f231.ntmps (Eg bt bd b o n m PL D fun _=>none) 40 (cA (cB (cB iA))) (aVh bt bd b o n m) (aGk bt bd b o n m PL)=some ([b=b,o=o,n=n,m=m],.nrm,aGk bt bd b o n m PL):=by kernel_rfl
theorem aVp (bt bd b o n m PL:Nat) (D:Nat→J1):aU prog (qG prog) f231.ntmps (Eg bt bd b o n m PL D fun _=>none) 40 (cA (cA (cB (cB (cB iA))))) (aGk bt bd b o n m PL) (KJ bt bd b o n m PL 0 (F1.zero,F1.zero,F1.zero))=some ([],.nrm,KJ bt bd b o n m PL 0 (F1.zero,F1.zero,F1.zero)):=by kernel_rfl
theorem aVt (bt bd b o n m PL i:Nat) (D:Nat→J1) (c:J1):aU prog (qG prog) f231.ntmps (Eg bt bd b o n m PL D (assoc [(12,.bool true),(24,iI (PL-1)),(26,iI (PL-1-i)),(29,iI (i+1))])) 60 UF (KJ bt bd b o n m PL i c) (KJ bt bd b o n m PL (i+1) (fI F1 (bX F1 (bX F1 (bX F1 (bX F1 c)))) (D (PL-1-i))))=some ([aI .lss .i64 (Int.ofNat i) (Int.ofNat PL)=some (.bool true),aI .sub .i64 (Int.ofNat PL) 1=some (iI (PL-1)),aI .sub .i64 (Int.ofNat (PL-1)) (Int.ofNat i)=some (iI (PL-1-i)),bt=bt,bd=bd,PL-1-i<1152921504606846976,aI .add .i64 (Int.ofNat i) 1=some (iI (i+1))],.nrm,KJ bt bd b o n m PL (i+1) (fI F1 (bX F1 (bX F1 (bX F1 (bX F1 c)))) (D (PL-1-i)))):=by kernel_rfl
theorem aNJ (bt bd b o n m PL i:Nat) (D:Nat→J1) (c:J1):aU prog (qG prog) f231.ntmps (Eg bt bd b o n m PL D (assoc [(12,.bool false)])) 40 UF (KJ bt bd b o n m PL i c) (KJ bt bd b o n m PL i c)=some ([aI .lss .i64 (Int.ofNat i) (Int.ofNat PL)=some (.bool false)],.ex 0,KJ bt bd b o n m PL i c):=by kernel_rfl
theorem aGn (bt bd b o n m PL i:Nat) (D:Nat→J1) (c:J1):aU prog (qG prog) f231.ntmps (Eg bt bd b o n m PL D fun _=>none) 40 (cB (cB (cB (cB iA)))) (KJ bt bd b o n m PL i c) [.slot 4 (.pt 4 0),.row 4 true (bK c)]=some ([],.rt,[.slot 4 (.pt 4 0),.row 4 true (bK c)]):=by kernel_rfl
theorem aBR {w0:World} {bt bd bT N b o n m:Nat} {x:Nat→Nat} {pt:Nat→J1} (h:ClMem1 w0 bt bd bT N b o n m x pt) (hN:N≤n) (hn:n<4611686018427387904):Calls prog 231 #[.agg (aA (fA b o n m)).toArray,MJ bt bd] w0 (fun e w'=>e=.returned (.agg (aA (bK (ov1 (fun p=>RK pt x p N) (nY x n/4+1) (nY x n/4+1)))).toArray)∧Below w0.heap.size w0 w'):=by
 have hG:cV prog (qG prog) w0.heap.size w0:=(aJ _).w _ _;have hL:=UX x n;generalize hPL:nY x n/4+1=PL;have hPL':PL<1000:=by omega
 have hT:∀num,∀n' d:Nat,TabOkW prog ((Eg bt bd b o n m PL (fun p=>RK pt x p N) num n').T d) w0.heap.size w0:=fun num _ _=>by
  refine TabOkW.add (TabOkW.add ((kS true).w _ _) func253 (by kernel_rfl) (by kernel_rfl) fun w hw cs pre r hg hq args ha => ?_) func232 (by kernel_rfl) (by kernel_rfl) fun w hw cs pre r hg hq args ha => ?_
  ·unfold gPl at hg;split at hg
   ·cases hg;obtain⟨rfl,rfl,rfl,rfl,_⟩:=hq;rw[BH ha,←hPL];exact AD _ _ _ _ x (fun j hj=>(h.x j hj).on hw (base:=0)) hn
   ·cases hg
  ·unfold bDg at hg;split at hg
   ·rename_i p b1 b2;cases hg;obtain⟨rfl,rfl,hp,_⟩:=hq
    match args,ha with
    | [u,v,t],ha =>
     have e1:u=iI p:=ha.1;have e2:v=jP b1 0:=ha.2.1;have e3:t=jP b2 0:=ha.2.2.1;subst e1; subst e2; subst e3;exact aCL (h.on hw) hN hn hp
    | [],ha=>exact ha.elim
    | [_],ha=>exact ha.2.elim
    | [_,_],ha=>exact ha.2.2.elim
    | _::_::_::_::_,ha=>exact ha.2.2.2.elim
   ·cases hg
 refine dL func231 (c:=iA) rfl (args:=[.agg (aA (fA b o n m)).toArray,MJ bt bd]) (cs:=[.v (.fl (fA b o n m)),.v (.im (MJ bt bd))]) ⟨rfl,rfl,trivial⟩ (Nat.le_of_ble_eq_true (by kernel_rfl)) fun a w' hA => ?_
 rw[aGo];refine wp_seq (aD aE (hT _) hG (aVs bt bd b o n m PL _) trivial hA fun a w' hA => ?_);refine wp_seq (aD aE (hT _) hG (aVr bt bd b o n m PL _) trivial hA fun a w' hA => ?_);refine wp_seq (aD aE (hT _) hG (aVq bt bd b o n m PL _) ⟨rfl,rfl,rfl,rfl,trivial⟩ hA fun a w' hA => ?_);refine wp_seq (wp_seq (aD aE (hT _) hG (aVp bt bd b o n m PL _) trivial hA fun a w' hA => ?_));refine wp_block ?_;refine jR aE (fun i=>KJ bt bd b o n m PL i (ov1 (fun p=>RK pt x p N) PL i)) PL (fun i hi => ?_) (.ex 0) (by simp) (KJ bt bd b o n m PL PL (ov1 (fun p=>RK pt x p N) PL PL)) ?_ hA fun a w' hA => ?_
 ·exact⟨_,_,_,_,hG,hT _,aVt bt bd b o n m PL i _ (ov1 (fun p=>RK pt x p N) PL i),cJ hi,tO (k:=1) (by omega) (by omega),tO (by omega) (by omega),rfl,rfl,by omega,mO (k:=1) (by omega),trivial⟩
 ·exact⟨_,_,_,_,hG,hT _,aNJ bt bd b o n m PL PL _ _,fP (Nat.le_refl _),trivial⟩
 ·show (cB (cB (cB (cB iA)))).wp _ _ _ _;exact aD aE (hT _) hG (aGn bt bd b o n m PL PL _ _) trivial hA fun a w' hA=>eF (l:=[.fl (bK (ov1 (fun p=>RK pt x p N) PL PL))]) (r:=.one (.fl (bK (ov1 (fun p=>RK pt x p N) PL PL)))) (by kernel_rfl) (by kernel_rfl) hA
def OR (p:J2):Nat→J2
 | 0=>(F2.zero,F2.zero,F2.zero)
 | k+1=>fI F2 (OR p k) p
def Zk (p:J2):Int→J2
 | .ofNat 0=>(F2.zero,F2.zero,F2.zero)
 | .ofNat (k+1)=>OR p (k+1)
 | .negSucc k=>vA F2 (OR p (k+1))
def Zm (old:Nat→Nat→List At→Prop) (k:Nat) (h:Int) (q:J2):Ext:={ YR old with idx:=assoc [(12,k),(22,k)],ld:=assoc [(13,bJ q),(23,bJ q)],gen:=assoc [(19,.int .i64 h)] }
theorem aAn (old:Nat→Nat→List At→Prop) (b off k:Nat) (g h:Int) (q:J2):aO prog (qX prog (Zm old k h q)) (fun _=>⟨fun s=>gJ true,fun s=>true,assoc [(7,.bool true),(10,iI k)]⟩) f242 80 [.v (.im (jP b off)),.v (.im (.int .i64 g))]=some ([aI .gtr .i64 g 0=some (.bool true),aI .sub .i64 g 1=some (iI k),Int.ofNat k=Int.ofNat k,k<8,old b (off+k*24) (bJ q),dF (bJ q)=24],.one (.fl (bJ q))):=by kernel_rfl
theorem aAo (old:Nat→Nat→List At→Prop) (b off k:Nat) (g h:Int) (q:J2):aO prog (qX prog (Zm old k h q)) (fun _=>⟨fun s=>gJ true,fun s=>true,assoc [(7,.bool false),(16,.bool true),(20,iI k)]⟩) f242 80 [.v (.im (jP b off)),.v (.im (.int .i64 g))]=some ([aI .gtr .i64 g 0=some (.bool false),aI .lss .i64 g 0=some (.bool true),(∀W:World,(Op.unary .neg (.int .i64 g)).run prog W=.ok (.int .i64 h) W),aI .sub .i64 h 1=some (iI k),Int.ofNat k=Int.ofNat k,k<8,old b (off+k*24) (bJ q),dF (bJ q)=24],.one (.fl (bJ (vA F2 q)))):=by kernel_rfl
theorem aAm (old:Nat→Nat→List At→Prop) (b off k:Nat) (g h:Int) (q:J2):aO prog (qX prog (Zm old k h q)) (fun _=>⟨fun s=>gJ true,fun s=>true,assoc [(7,.bool false),(16,.bool false)]⟩) f242 80 [.v (.im (jP b off)),.v (.im (.int .i64 g))]=some ([aI .gtr .i64 g 0=some (.bool false),aI .lss .i64 g 0=some (.bool false)],.one (.fl (bJ (F2.zero,F2.zero,F2.zero)))):=by kernel_rfl
theorem Ir {w0:World} (b off:Nat) (g:Int) (p:J2) (hp:∀k,k<8→oldOf w0 b (off+k*24) (bJ (OR p (k+1)))) (h1 : -8≤g) (h2:g≤8):Calls prog 242 #[jP b off,.int .i64 g] w0 (fun e w'=>e=.returned (.agg (aA (bJ (Zk p g))).toArray)∧Below w0.heap.size w0 w'):=by
 have hT:∀n d:Nat,TabOkW prog (gJ true) w0.heap.size w0:=fun _ _=>(kS true).w _ _
 have ha:bZ w0 [.v (.im (jP b off)),.v (.im (.int .i64 g))] [jP b off,.int .i64 g]:=⟨rfl,rfl,trivial⟩
 match g,h1,h2,ha with
 | .ofNat 0,_,_,ha=>exact bQ aE hT (uC (x:=Zm (oldOf w0) 0 0 (F2.zero,F2.zero,F2.zero)) rfl rfl) func242 (aAm (oldOf w0) b off 0 _ 0 (F2.zero,F2.zero,F2.zero)) ⟨rfl,rfl,trivial⟩ ha
 | .ofNat (k+1),_,h2,ha =>
  have hk:k<8:=by have h2':((k+1:Nat):Int)≤8:=h2; omega
  exact bQ aE hT (uC (x:=Zm (oldOf w0) k 0 (OR p (k+1))) rfl rfl) func242 (aAn (oldOf w0) b off k _ 0 (OR p (k+1))) ⟨by rw[show (0:Int)=Int.ofNat 0 from rfl,EM,decide_eq_true (by omega)],tO (k:=1) (by omega) (by omega),rfl,hk,hp k hk,rfl,trivial⟩ ha
 | .negSucc k,h1,_,ha =>
  have hk:k<8:=by have h1' : -8 ≤ -((k:Int)+1):=h1; omega
  refine bQ aE hT (uC (x:=Zm (oldOf w0) k (Int.ofNat (k+1)) (OR p (k+1))) rfl rfl) func242 (aAo (oldOf w0) b off k _ (Int.ofNat (k+1)) (OR p (k+1))) ⟨?_,?_,?_,tO (k:=1) (by omega) (by omega),rfl,hk,hp k hk,rfl,trivial⟩ ha
  ·show some (Value.bool (decide (Int.negSucc k>0)))=_;rw[decide_eq_false (by omega)]
  ·show some (Value.bool (decide (Int.negSucc k<0)))=_;rw[decide_eq_true (by omega)]
  ·intro W;have e:IntKind.i64.wrap (0-Int.negSucc k)=Int.ofNat (k+1):=by rw[IntKind.wrap_i64]; show _=((k+1:Nat):Int); omega
   show (Op.intArith .sub .i64 0 (Int.negSucc k)).run prog W=_;simp only[Op.intArith,Sem.run_pure,e]
def aIw (bT i:Nat) (p:J2):kC
 | [.v (.im (.pointer (some ⟨b',off,.none⟩))),.v (.im (.int .i64 g))]=>some ([b'=bT,off=i*192,-8≤g,g≤8],.one (.fl (bJ (Zk p g))))
 | _=>none
theorem aIv {w:World} {bT i:Nat} {p:J2} (hp:∀k,k<8→oldOf w bT (i*192+k*24) (bJ (OR p (k+1)))):∀cs pre r,aIw bT i p cs=some (pre,r)→bC pre→∀(args:List Value),bZ w cs args→Good prog 242 r args w:=by
 intro cs pre r hg hq args ha;unfold aIw at hg;split at hg
 ·rename_i b' off g;cases hg;obtain⟨rfl,rfl,h1,h2,_⟩:=hq
  match args,ha with
  | [u,v],ha =>
   have e1:u=jP b' (i*192):=ha.1;have e2:v=.int .i64 g:=ha.2.1;subst e1; subst e2;exact Ir b' _ g p hp h1 h2
  | [],ha=>exact ha.elim
  | [_],ha=>exact ha.2.elim
  | _::_::_::_,ha=>exact ha.2.2.elim
 ·cases hg
def RJ (pt:Nat→J2) (x:Nat→Nat) (p:Nat):Nat→J2
 | 0=>(F2.zero,F2.zero,F2.zero)
 | i+1=>fI F2 (RJ pt x p i) (Zk (pt i) (nG (x i) p))
def aPO (old:Nat→Nat→List At→Prop) (bT N b o n m i:Nat):Ext:={ YR old with idx:=assoc [(15,i)],ld:=assoc [(16,fA b o n m)],gen:=assoc [(7,lQ bT 0 N N),(13,lQ bT 0 N N)] }
def MK (pl bt bd N i:Nat) (c:J2):List Fact:=[.slot 0 (.im (iI pl)),.slot 1 (.im (jP bt 0)),.slot 2 (.im (jP bd 0)),.slot 4 (.pt 4 0),.row 4 true (bJ (F2.zero,F2.zero,F2.zero)),.slot 5 (.pt 5 0),.row 5 true (bJ c),.slot 8 (.im (iI N)),.slot 9 (.im (iI i))]
def bGY (bT b o n m:Nat) (x:Nat→Nat) (i:Nat) (p:J2):Tab:=((gJ true).add 234 (gAt b o n m x)).add 242 (aIw bT i p)
def jM:Code:=(f241.body).getD .skip
def WO:Code:=pC (pC (cB (cA (cB (cB jM)))))
theorem aJE:jM=.seq (cA jM) (.seq (cA (cB jM)) (.seq (.seq (cA (cA (cB (cB jM)))) (.block 0 (.loop WO))) (cB (cB (cB jM))))):=by kernel_rfl
def aYF (pl bt bd:Nat):List Fact:=[.slot 0 (.im (iI pl)),.slot 1 (.im (jP bt 0)),.slot 2 (.im (jP bd 0)),.slot 4 (.pt 4 0),.row 4 true (bJ (F2.zero,F2.zero,F2.zero))]
def aYD (pl bt bd:Nat):List Fact:=[.slot 0 (.im (iI pl)),.slot 1 (.im (jP bt 0)),.slot 2 (.im (jP bd 0)),.slot 4 (.pt 4 0),.row 4 true (bJ (F2.zero,F2.zero,F2.zero)),.slot 5 (.pt 5 0),.row 5 true (bJ (F2.zero,F2.zero,F2.zero))]
theorem aYJ (pl bt bd:Nat):aU prog (qG prog) f241.ntmps (Ie fun _=>none) 40 (cA jM) (lC 0 [.v (.im (iI pl)),.v (.im (jP bt 0)),.v (.im (jP bd 0))]) (aYF pl bt bd)=some ([],.nrm,aYF pl bt bd):=by kernel_rfl
theorem aYI (pl bt bd:Nat):aU prog (qG prog) f241.ntmps (Ie fun _=>none) 40 (cA (cB jM)) (aYF pl bt bd) (aYD pl bt bd)=some ([],.nrm,aYD pl bt bd):=by kernel_rfl
theorem aYH (old:Nat→Nat→List At→Prop) (pl bt bd bT N b o n m:Nat):aU prog (qX prog (aPO old bT N b o n m 0)) f241.ntmps (Ie fun _=>none) 40 (cA (cA (cB (cB jM)))) (aYD pl bt bd) (MK pl bt bd N 0 (F2.zero,F2.zero,F2.zero))=some ([old bt 0 [.c (lQ bT 0 N N)]],.nrm,MK pl bt bd N 0 (F2.zero,F2.zero,F2.zero)):=by kernel_rfl
theorem aYK (old:Nat→Nat→List At→Prop) (pl bt bd bT N b o n m i:Nat) (x:Nat→Nat) (p c:J2):aU prog (qX prog (aPO old bT N b o n m i)) f241.ntmps (fun _=>⟨fun _=>bGY bT b o n m x i p,fun _=>true,assoc [(10,.bool true),(22,iI (i+1))]⟩) 40 WO (MK pl bt bd N i c) (MK pl bt bd N (i+1) (fI F2 c (Zk p (nG (x i) pl))))=some ([aI .lss .i64 (Int.ofNat i) (Int.ofNat N)=some (.bool true),old bt 0 [.c (lQ bT 0 N N)],Int.ofNat i=Int.ofNat i,i<N,old bd 0 (fA b o n m),dF (fA b o n m)=2,b=b,o=o,n=n,m=m,i<n,pl<1152921504606846976,bT=bT,0+i*192=i*192,-8≤nG (x i) pl,nG (x i) pl≤8,aI .add .i64 (Int.ofNat i) 1=some (iI (i+1))],.nrm,MK pl bt bd N (i+1) (fI F2 c (Zk p (nG (x i) pl)))):=by kernel_rfl
theorem aPQ (pl bt bd N i:Nat) (c:J2):aU prog (qG prog) f241.ntmps (Ie (assoc [(10,.bool false)])) 40 WO (MK pl bt bd N i c) (MK pl bt bd N i c)=some ([aI .lss .i64 (Int.ofNat i) (Int.ofNat N)=some (.bool false)],.ex 0,MK pl bt bd N i c):=by kernel_rfl
theorem aJD (pl bt bd N i:Nat) (c:J2):aU prog (qG prog) f241.ntmps (Ie fun _=>none) 40 (cB (cB (cB jM))) (MK pl bt bd N i c) [.slot 4 (.pt 4 0),.row 4 true (bJ c)]=some ([],.rt,[.slot 4 (.pt 4 0),.row 4 true (bJ c)]):=by kernel_rfl
structure ClMem2 (w:World) (bt bd bT N b o n m:Nat) (x:Nat→Nat) (pt:Nat→J2):Prop where
 t:oldOf w bt 0 [.c (lQ bT 0 N N)]
 d:oldOf w bd 0 (fA b o n m)
 x:∀i,i<n→oldOf w b (o+i*4) [.q (x i)]
 p:∀i,i<N→∀k,k<8→oldOf w bT (i*192+k*24) (bJ (OR (pt i) (k+1)))
theorem ClMem2.on {w w':World} (hb:Below w.heap.size w w') {bt bd bT N b o n m:Nat} {x:Nat→Nat} {pt:Nat→J2} (h:ClMem2 w bt bd bT N b o n m x pt):ClMem2 w' bt bd bT N b o n m x pt :=
 ⟨h.t.on hb (base:=0),h.d.on hb (base:=0),fun i hi=>(h.x i hi).on hb (base:=0),fun i hi k hk=>(h.p i hi k hk).on hb (base:=0)⟩
theorem aCK {w0:World} {bt bd bT N b o n m:Nat} {x:Nat→Nat} {pt:Nat→J2} (h:ClMem2 w0 bt bd bT N b o n m x pt) (hN:N≤n) (hn:n<4611686018427387904) {pl:Nat} (hpl:pl<1152921504606846976):Calls prog 241 #[iI pl,jP bt 0,jP bd 0] w0 (fun e w'=>e=.returned (.agg (aA (bJ (RJ pt x pl N))).toArray)∧Below w0.heap.size w0 w'):=by
 have hG:cV prog (qG prog) w0.heap.size w0:=(aJ _).w _ _;have hT:∀n d:Nat,TabOkW prog (gJ true) w0.heap.size w0:=fun _ _=>(kS true).w _ _
 refine dL func241 (c:=jM) rfl (args:=[iI pl,jP bt 0,jP bd 0]) (cs:=[.v (.im (iI pl)),.v (.im (jP bt 0)),.v (.im (jP bd 0))]) ⟨rfl,rfl,rfl,trivial⟩ (Nat.le_of_ble_eq_true (by kernel_rfl)) fun a w' hA => ?_
 rw[aJE];refine wp_seq (aD aE hT hG (aYJ pl bt bd) trivial hA fun a w' hA => ?_);refine wp_seq (aD aE hT hG (aYI pl bt bd) trivial hA fun a w' hA => ?_);refine wp_seq (wp_seq (aD aE hT (uC (x:=aPO (oldOf w0) bT N b o n m 0) rfl rfl) (aYH (oldOf w0) pl bt bd bT N b o n m) ⟨h.t,trivial⟩ hA fun a w' hA => ?_));refine wp_block ?_;refine jR aE (fun i=>MK pl bt bd N i (RJ pt x pl i)) N (fun i hi => ?_) (.ex 0) (by simp) (MK pl bt bd N N (RJ pt x pl N)) ?_ hA fun a w' hA => ?_
 ·refine⟨_,_,_,_,uC (x:=aPO (oldOf w0) bT N b o n m i) rfl rfl,fun _ _ => ?_,aYK (oldOf w0) pl bt bd bT N b o n m i x (pt i) (RJ pt x pl i),cJ hi,h.t,rfl,hi,h.d,rfl,rfl,rfl,rfl,rfl,by omega,hpl,rfl,by omega,(IE _ _).1,(IE _ _).2,mO (k:=1) (by omega),trivial⟩;refine TabOkW.add (TabOkW.add ((kS true).w _ _) func234 (by kernel_rfl) (by kernel_rfl) fun w hw => ?_) func242 (by kernel_rfl) (by kernel_rfl) fun w hw => ?_
  ·exact aII fun j hj=>(h.x j hj).on hw (base:=0)
  ·exact aIv fun k hk=>(h.p i hi k hk).on hw (base:=0)
 ·exact⟨_,_,_,_,hG,hT,aPQ pl bt bd N N _,fP (Nat.le_refl _),trivial⟩
 ·show (cB (cB (cB jM))).wp _ _ _ _;exact aD aE hT hG (aJD pl bt bd N N _) trivial hA fun a w' hA=>eF (l:=[.fl (bJ (RJ pt x pl N))]) (r:=.one (.fl (bJ (RJ pt x pl N)))) (by kernel_rfl) (by kernel_rfl) hA
def ov2 (D:Nat→J2) (PL:Nat):Nat→J2
 | 0=>(F2.zero,F2.zero,F2.zero)
 | i+1=>fI F2 (bX F2 (bX F2 (bX F2 (bX F2 (ov2 D PL i))))) (D (PL-1-i))
def MI (bt bd:Nat):Value:=.func (.func 241) #[] #[jP bt 0,jP bd 0]
def KH (bt bd b o n m PL i:Nat) (c:J2):List Fact:=[.slot 1 (.im (MI bt bd)),.slot 2 (.pt 2 0),.row 2 true (fA b o n m),.slot 4 (.pt 4 0),.row 4 true (bJ (F2.zero,F2.zero,F2.zero)),.slot 5 (.pt 5 0),.row 5 true (bJ c),.slot 6 (.im (iI PL)),.slot 10 (.im (iI PL)),.slot 11 (.im (iI i))]
def bDf (bt bd:Nat) (D:Nat→J2):kC
 | [.v (.im (.int .i64 (.ofNat p))),.v (.im (.pointer (some ⟨b1,0,.none⟩))),.v (.im (.pointer (some ⟨b2,0,.none⟩)))]=>some ([b1=bt,b2=bd,p<1152921504606846976],.one (.fl (bJ (D p))))
 | _=>none
def bFT (bt bd b o n m PL:Nat) (D:Nat→J2):Tab:=((gJ true).add 253 (gPl b o n m PL)).add 241 (bDf bt bd D)
def hZ:Code:=(f240.body).getD .skip
def UE:Code:=pC (pC (cB (cA (cB (cB (cB hZ))))))
theorem aGm:hZ=.seq (cA hZ) (.seq (cA (cB hZ)) (.seq (cA (cB (cB hZ))) (.seq (.seq (cA (cA (cB (cB (cB hZ))))) (.block 0 (.loop UE))) (cB (cB (cB (cB hZ))))))):=by kernel_rfl
def Ef (bt bd b o n m PL:Nat) (D:Nat→J2) (num:Nat→Option Value) (_:Nat):Cfg:=⟨fun _=>bFT bt bd b o n m PL D,fun _=>true,num⟩
def aVi (bt bd b o n m:Nat):List Fact:=[.slot 1 (.im (MI bt bd)),.slot 2 (.pt 2 0),.row 2 true (fA b o n m),.slot 4 (.pt 4 0),.row 4 true (bJ (F2.zero,F2.zero,F2.zero))]
def aVg (bt bd b o n m:Nat):List Fact:=[.slot 1 (.im (MI bt bd)),.slot 2 (.pt 2 0),.row 2 true (fA b o n m),.slot 4 (.pt 4 0),.row 4 true (bJ (F2.zero,F2.zero,F2.zero)),.slot 5 (.pt 5 0),.row 5 true (bJ (F2.zero,F2.zero,F2.zero))]
def aGj (bt bd b o n m PL:Nat):List Fact:=[.slot 1 (.im (MI bt bd)),.slot 2 (.pt 2 0),.row 2 true (fA b o n m),.slot 4 (.pt 4 0),.row 4 true (bJ (F2.zero,F2.zero,F2.zero)),.slot 5 (.pt 5 0),.row 5 true (bJ (F2.zero,F2.zero,F2.zero)),.slot 6 (.im (iI PL))]
theorem aVn (bt bd b o n m PL:Nat) (D:Nat→J2):aU prog (qG prog) f240.ntmps (Ef bt bd b o n m PL D fun _=>none) 40 (cA hZ) (lC 0 [.v (.fl (fA b o n m)),.v (.im (MI bt bd))]) (aVi bt bd b o n m)=some ([],.nrm,aVi bt bd b o n m):=by kernel_rfl
theorem aVm (bt bd b o n m PL:Nat) (D:Nat→J2):aU prog (qG prog) f240.ntmps (Ef bt bd b o n m PL D fun _=>none) 40 (cA (cB hZ)) (aVi bt bd b o n m) (aVg bt bd b o n m)=some ([],.nrm,aVg bt bd b o n m):=by kernel_rfl
theorem aVl (bt bd b o n m PL:Nat) (D:Nat→J2):aU prog (qG prog) f240.ntmps (Ef bt bd b o n m PL D fun _=>none) 40 (cA (cB (cB hZ))) (aVg bt bd b o n m) (aGj bt bd b o n m PL)=some ([b=b,o=o,n=n,m=m],.nrm,aGj bt bd b o n m PL):=by kernel_rfl
theorem aVk (bt bd b o n m PL:Nat) (D:Nat→J2):aU prog (qG prog) f240.ntmps (Ef bt bd b o n m PL D fun _=>none) 40 (cA (cA (cB (cB (cB hZ))))) (aGj bt bd b o n m PL) (KH bt bd b o n m PL 0 (F2.zero,F2.zero,F2.zero))=some ([],.nrm,KH bt bd b o n m PL 0 (F2.zero,F2.zero,F2.zero)):=by kernel_rfl
theorem aVo (bt bd b o n m PL i:Nat) (D:Nat→J2) (c:J2):aU prog (qG prog) f240.ntmps (Ef bt bd b o n m PL D (assoc [(12,.bool true),(24,iI (PL-1)),(26,iI (PL-1-i)),(29,iI (i+1))])) 60 UE (KH bt bd b o n m PL i c) (KH bt bd b o n m PL (i+1) (fI F2 (bX F2 (bX F2 (bX F2 (bX F2 c)))) (D (PL-1-i))))=some ([aI .lss .i64 (Int.ofNat i) (Int.ofNat PL)=some (.bool true),aI .sub .i64 (Int.ofNat PL) 1=some (iI (PL-1)),aI .sub .i64 (Int.ofNat (PL-1)) (Int.ofNat i)=some (iI (PL-1-i)),bt=bt,bd=bd,PL-1-i<1152921504606846976,aI .add .i64 (Int.ofNat i) 1=some (iI (i+1))],.nrm,KH bt bd b o n m PL (i+1) (fI F2 (bX F2 (bX F2 (bX F2 (bX F2 c)))) (D (PL-1-i)))):=by kernel_rfl
theorem aNI (bt bd b o n m PL i:Nat) (D:Nat→J2) (c:J2):aU prog (qG prog) f240.ntmps (Ef bt bd b o n m PL D (assoc [(12,.bool false)])) 40 UE (KH bt bd b o n m PL i c) (KH bt bd b o n m PL i c)=some ([aI .lss .i64 (Int.ofNat i) (Int.ofNat PL)=some (.bool false)],.ex 0,KH bt bd b o n m PL i c):=by kernel_rfl
theorem aGl (bt bd b o n m PL i:Nat) (D:Nat→J2) (c:J2):aU prog (qG prog) f240.ntmps (Ef bt bd b o n m PL D fun _=>none) 40 (cB (cB (cB (cB hZ)))) (KH bt bd b o n m PL i c) [.slot 4 (.pt 4 0),.row 4 true (bJ c)]=some ([],.rt,[.slot 4 (.pt 4 0),.row 4 true (bJ c)]):=by kernel_rfl
theorem aBP {w0:World} {bt bd bT N b o n m:Nat} {x:Nat→Nat} {pt:Nat→J2} (h:ClMem2 w0 bt bd bT N b o n m x pt) (hN:N≤n) (hn:n<4611686018427387904):Calls prog 240 #[.agg (aA (fA b o n m)).toArray,MI bt bd] w0 (fun e w'=>e=.returned (.agg (aA (bJ (ov2 (fun p=>RJ pt x p N) (nY x n/4+1) (nY x n/4+1)))).toArray)∧Below w0.heap.size w0 w'):=by
 have hG:cV prog (qG prog) w0.heap.size w0:=(aJ _).w _ _;have hL:=UX x n;generalize hPL:nY x n/4+1=PL;have hPL':PL<1000:=by omega
 have hT:∀num,∀n' d:Nat,TabOkW prog ((Ef bt bd b o n m PL (fun p=>RJ pt x p N) num n').T d) w0.heap.size w0:=fun num _ _=>by
  refine TabOkW.add (TabOkW.add ((kS true).w _ _) func253 (by kernel_rfl) (by kernel_rfl) fun w hw cs pre r hg hq args ha => ?_) func241 (by kernel_rfl) (by kernel_rfl) fun w hw cs pre r hg hq args ha => ?_
  ·unfold gPl at hg;split at hg
   ·cases hg;obtain⟨rfl,rfl,rfl,rfl,_⟩:=hq;rw[BH ha,←hPL];exact AD _ _ _ _ x (fun j hj=>(h.x j hj).on hw (base:=0)) hn
   ·cases hg
  ·unfold bDf at hg;split at hg
   ·rename_i p b1 b2;cases hg;obtain⟨rfl,rfl,hp,_⟩:=hq
    match args,ha with
    | [u,v,t],ha =>
     have e1:u=iI p:=ha.1;have e2:v=jP b1 0:=ha.2.1;have e3:t=jP b2 0:=ha.2.2.1;subst e1; subst e2; subst e3;exact aCK (h.on hw) hN hn hp
    | [],ha=>exact ha.elim
    | [_],ha=>exact ha.2.elim
    | [_,_],ha=>exact ha.2.2.elim
    | _::_::_::_::_,ha=>exact ha.2.2.2.elim
   ·cases hg
 refine dL func240 (c:=hZ) rfl (args:=[.agg (aA (fA b o n m)).toArray,MI bt bd]) (cs:=[.v (.fl (fA b o n m)),.v (.im (MI bt bd))]) ⟨rfl,rfl,trivial⟩ (Nat.le_of_ble_eq_true (by kernel_rfl)) fun a w' hA => ?_
 rw[aGm];refine wp_seq (aD aE (hT _) hG (aVn bt bd b o n m PL _) trivial hA fun a w' hA => ?_);refine wp_seq (aD aE (hT _) hG (aVm bt bd b o n m PL _) trivial hA fun a w' hA => ?_);refine wp_seq (aD aE (hT _) hG (aVl bt bd b o n m PL _) ⟨rfl,rfl,rfl,rfl,trivial⟩ hA fun a w' hA => ?_);refine wp_seq (wp_seq (aD aE (hT _) hG (aVk bt bd b o n m PL _) trivial hA fun a w' hA => ?_));refine wp_block ?_;refine jR aE (fun i=>KH bt bd b o n m PL i (ov2 (fun p=>RJ pt x p N) PL i)) PL (fun i hi => ?_) (.ex 0) (by simp) (KH bt bd b o n m PL PL (ov2 (fun p=>RJ pt x p N) PL PL)) ?_ hA fun a w' hA => ?_
 ·exact⟨_,_,_,_,hG,hT _,aVo bt bd b o n m PL i _ (ov2 (fun p=>RJ pt x p N) PL i),cJ hi,tO (k:=1) (by omega) (by omega),tO (by omega) (by omega),rfl,rfl,by omega,mO (k:=1) (by omega),trivial⟩
 ·exact⟨_,_,_,_,hG,hT _,aNI bt bd b o n m PL PL _ _,fP (Nat.le_refl _),trivial⟩
 ·show (cB (cB (cB (cB hZ)))).wp _ _ _ _;exact aD aE (hT _) hG (aGl bt bd b o n m PL PL _ _) trivial hA fun a w' hA=>eF (l:=[.fl (bJ (ov2 (fun p=>RJ pt x p N) PL PL))]) (r:=.one (.fl (bJ (ov2 (fun p=>RJ pt x p N) PL PL)))) (by kernel_rfl) (by kernel_rfl) hA
theorem zB {P:Program} {id:Nat} {ops:Array Oper} {l:List Nat} (hl:List.range ops.size=l) {Q:Exit→Act→World→Prop} {a:Act} {w:World} (h:wpOps P ops Q l a w):(Code.region id ops false).wp P Q a w:=wp_region (by rw[hl]; exact h)
def uB:J1:=(F1.zero,F1.zero,F1.zero)
def xW (p:J1):List At:=bK (OS p 1)++(bK (OS p 2)++(bK (OS p 3)++(bK (OS p 4)++(bK (OS p 5)++(bK (OS p 6)++(bK (OS p 7)++(bK (OS p 8))))))))
def zT1:List At:=bK uB++(bK uB++(bK uB++(bK uB++(bK uB++(bK uB++(bK uB++(bK uB)))))))
theorem Sf (p:J1):dF (xW p)=96:=by kernel_rfl
theorem aDk:dF zT1=96:=by kernel_rfl
def xI (p:J1) (k:Nat):List At:=bK (OS p (k+1))
theorem aDZ (p:J1):xW p=cQ (xI p) 0 8:=by
 show xW p=xI p 0++(xI p 1++(xI p 2++(xI p 3++(xI p 4++(xI p 5++(xI p 6++(xI p 7++[])))))));rw[List.append_nil];rfl
theorem aEx (p:J1):aO prog (qG prog) (fun _=>⟨fun s=>gJ true,fun s=>true,fun _=>none⟩) f230 200 [.v (.fl (bK p))]=some ([],.one (.fl (xW p))):=by kernel_rfl
def lG:Tab:=(gJ true).add 230 (g1 YP fun p=>([],.one (.fl (xW p))))
theorem jK:TabOk prog lG:=(kS true).ad func230 (bP iX fun p hp args w ha=>aB aE (fun _ s=>kS _) (aJ prog) func230 (aEx p) trivial ha)
def eV:Code:=(f191.body).getD .skip
def WV:Code:=pC (pC (cB (cA (cB (cB eV)))))
theorem aKa:eV=.seq (cA eV) (.seq (.region 1 (cZ (cA (cB eV))) false) (.seq (.seq (cA (cA (cB (cB eV)))) (.block 0 (.loop WV))) (.seq (cA (cB (cB (cB eV)))) (.seq (.region 8 (cZ (cA (cB (cB (cB (cB eV)))))) false) .ret)))):=by kernel_rfl
def aZa (LP:List At) (N N':Nat) (vn:Value):List Fact:=[.slot 0 (.sl 0 0 N N'),.row 0 false LP,.slot 1 (.im vn),.slot 4 (.pt 4 0),.row 4 true (bK uB)]
def aJY (LP Z:List At) (N N':Nat) (vn:Value):List Fact:=[.slot 0 (.sl 0 0 N N'),.row 0 false LP,.slot 1 (.im vn),.slot 4 (.pt 4 0),.row 4 true (bK uB),.slot 11 (.sl 11 0 N N),.row 11 true Z,.slot 5 (.pt 5 0),.row 5 true [.c (.slice none 0 0)]]
def aYY (LP Z:List At) (N N' b:Nat) (vn:Value):List Fact:=[.at 11 b,.slot 0 (.sl 0 0 N N'),.row 0 false LP,.slot 1 (.im vn),.slot 4 (.pt 4 0),.row 4 true (bK uB),.row 11 true Z,.slot 5 (.pt 5 0),.row 5 true [.c (lQ b 0 N N)]]
def MQ (LP Z:List At) (N N' b:Nat) (vn:Value) (i:Nat):List Fact:=[.at 11 b,.slot 0 (.sl 0 0 N N'),.row 0 false LP,.slot 1 (.im vn),.slot 4 (.pt 4 0),.row 4 true (bK uB),.row 11 true Z,.slot 5 (.pt 5 0),.row 5 true [.c (lQ b 0 N N)],.slot 12 (.sl 0 0 N N'),.slot 13 (.im (iI N)),.slot 14 (.im (iI i))]
def aJW (Z:List At) (N b bn on n m:Nat):List Fact:=[.at 11 b,.slot 4 (.pt 4 0),.row 4 true (bK uB),.row 11 true Z,.slot 5 (.pt 5 0),.row 5 true [.c (lQ b 0 N N)],.slot 8 (.pt 8 0),.row 8 true (fA bn on n m)]
def GC (Z:List At) (N b b5 b8 bn on n m:Nat):List Fact:=[.at 5 b5,.at 8 b8,.at 11 b,.slot 4 (.pt 4 0),.row 4 true (bK uB),.row 11 true Z,.row 5 true [.c (lQ b 0 N N)],.row 8 true (fA bn on n m),.slot 27 (.fl (fA bn on n m)),.slot 28 (.im (MJ b5 b8))]
def aJU (num:Nat→Option Value) (_:Nat):Cfg:=⟨fun _=>lG,fun _=>true,num⟩
def FA:Cfg:=⟨fun _=>lG,fun _=>true,fun _=>none⟩
theorem aZp (LP:List At) (N N':Nat) (vn:Value):aU prog (qG prog) f191.ntmps (aJU fun _=>none) 40 (cA eV) (lC 0 [.s LP N N',.v (.im vn)]) (aZa LP N N' vn)=some ([],.nrm,aZa LP N N' vn):=by kernel_rfl
def aSj (N:Nat) (Z:List At):Ext:={ YR (fun _ _ _=>False)with mks:=assoc [(11,(N,Z))] }
theorem aZo (LP Z:List At) (N N':Nat) (vn:Value):tX prog (qX prog (aSj N Z)) f191.ntmps FA ((cZ (cA (cB eV))).extract 0 4) (aZa LP N N' vn) (aJY LP Z N N' vn)=some ([∃e,∀w:World,(Instr.makeSlice 266 (iI N) (iI N)).run prog w=.ok (.slice (some ⟨w.heap.size,0,none⟩) N N) (w.alloc (.cells (aA Z).toArray e))],aJY LP Z N N' vn):=by kernel_rfl
theorem aZn (LP Z:List At) (N N' b:Nat) (vn:Value):tX prog (qG prog) f191.ntmps FA ((cZ (cA (cB eV))).extract 4 5) (.slot 11 (.im (lQ b 0 N N)) :: .at 11 b::aJY LP Z N N' vn) (aYY LP Z N N' b vn)=some ([],aYY LP Z N N' b vn):=by kernel_rfl
theorem aZm (LP Z:List At) (N N' b:Nat) (vn:Value):aU prog (qG prog) f191.ntmps (aJU fun _=>none) 40 (cA (cA (cB (cB eV)))) (aYY LP Z N N' b vn) (MQ LP Z N N' b vn 0)=some ([],.nrm,MQ LP Z N N' b vn 0):=by kernel_rfl
def bEc (N b i:Nat) (p:J1) (Z':List At):Ext:={ YR (fun _ _ _=>False)with idx:=assoc [(17,i),(23,i)],ld:=assoc [(18,bK p)],st:=assoc [(23,Z')],gen:=assoc [(19,lQ b 0 N N)],ky:=assoc [(19,11)] }
theorem aZq (LP Z Z':List At) (N N' b:Nat) (vn:Value) (i:Nat) (p:J1):aU prog (qX prog (bEc N b i p Z')) f191.ntmps (aJU (assoc [(15,.bool true),(24,iI (i+1))])) 40 WV (MQ LP Z N N' b vn i) (MQ LP Z' N N' b vn (i+1))=some ([aI .lss .i64 (Int.ofNat i) (Int.ofNat N)=some (.bool true),Int.ofNat i=Int.ofNat i,i<N,gU LP (0+i*12) 12=some (bK p),cellAt [.c (lQ b 0 N N)] 0=some (lQ b 0 N N),b=b,Int.ofNat i=Int.ofNat i,i<N,put Z (0+i*96) (xW p)=some Z',aI .add .i64 (Int.ofNat i) 1=some (iI (i+1))],.nrm,MQ LP Z' N N' b vn (i+1)):=by kernel_rfl
theorem aPX (LP Z:List At) (N N' b:Nat) (vn:Value) (i:Nat):aU prog (qG prog) f191.ntmps (aJU (assoc [(15,.bool false)])) 40 WV (MQ LP Z N N' b vn i) (MQ LP Z N N' b vn i)=some ([aI .lss .i64 (Int.ofNat i) (Int.ofNat N)=some (.bool false)],.ex 0,MQ LP Z N N' b vn i):=by kernel_rfl
theorem aZl (LP Z:List At) (N N' b bn on n m i:Nat):aU prog (qG prog) f191.ntmps (aJU fun _=>none) 40 (cA (cB (cB (cB eV)))) (MQ LP Z N N' b (lQ bn on n m) i) (aJW Z N b bn on n m)=some ([],.nrm,aJW Z N b bn on n m):=by kernel_rfl
theorem aZk (Z:List At) (N b b5 b8 bn on n m:Nat):tX prog (qG prog) f191.ntmps FA ((cZ (cA (cB (cB (cB (cB eV)))))).extract 0 2) (.at 8 b8 :: .at 5 b5::aJW Z N b bn on n m) (GC Z N b b5 b8 bn on n m)=some ([],GC Z N b b5 b8 bn on n m):=by kernel_rfl
theorem aZj (Z:List At) (N b b5 b8 bn on n m:Nat) (r:J1):tX prog (qG prog) f191.ntmps FA ((cZ (cA (cB (cB (cB (cB eV)))))).extract 3 4) (.slot 29 (.fl (bK r))::GC Z N b b5 b8 bn on n m) [.slot 4 (.pt 4 0),.row 4 true (bK r)]=some ([],[.slot 4 (.pt 4 0),.row 4 true (bK r)]):=by kernel_rfl
theorem aDl:vO (aA zT1) (.int .u64 0):=by unfold vO; kernel_rfl
theorem aPW {w:World} {b N i k:Nat} {pt:Nat→J1} (h:oldOf w b 0 (cQ (fun j=>xW (pt j)) 0 N)) (hi:i<N) (hk:k<8):oldOf w b (i*96+k*12) (bK (OS (pt i) (k+1))):=by
 refine⟨h.1,?_⟩;have h1:w.rangeAt b (0+i*96) (aA (xW (pt i))):=nW (f:=fun j=>xW (pt j)) (c:=96) (fun j=>Sf (pt j)) hi h.2;rw[aDZ,Nat.zero_add]at h1;exact nW (f:=xI (pt i)) (c:=12) (fun j=>rfl) hk h1
theorem aCO {w0:World} {gb go N N' bn on n m:Nat} {x:Nat→Nat} {pt:Nat→J1} {LP:List At} (hLP:aA LP=aA (cQ (fun j=>bK (pt j)) 0 N)) (hP:oldOf w0 gb go LP) (hx:∀i,i<n→oldOf w0 bn (on+i*4) [.q (x i)]) (hN:N≤n) (hN2:N≤65536) (hn:n<4611686018427387904):Calls prog 191 #[lQ gb go N N',lQ bn on n m] w0 (fun e w'=>e=.returned (.agg (aA (bK (ov1 (fun p=>RK pt x p N) (nY x n/4+1) (nY x n/4+1)))).toArray)∧Below w0.heap.size w0 w'):=by
 have hG:cV prog (qG prog) w0.heap.size w0:=(aJ _).w _ _;have hT:∀n d:Nat,TabOkW prog lG w0.heap.size w0:=fun _ _=>jK.w _ _
 have hXF:∀x:Ext,x.T2=Fr0→(∀b o l,¬x.old b o l)→cV prog (qX prog x) w0.heap.size w0:=fun x h2 h3=>pK (h2▸lH _) fun b o l h=>(h3 b o l h).elim
 have hP':oldOf w0 gb go (cQ (fun j=>bK (pt j)) 0 N):=⟨hP.1,by rw[←hLP]; exact hP.2⟩;clear hP hLP;refine dL func191 (c:=eV) rfl (args:=[lQ gb go N N',lQ bn on n m]) (cs:=[.s (cQ (fun j=>bK (pt j)) 0 N) N N',.v (.im (lQ bn on n m))]) ⟨⟨gb,go,rfl,hP'.1,hP'.2⟩,rfl,trivial⟩ (Nat.le_of_ble_eq_true (by kernel_rfl)) fun a w' hA => ?_
 rw[aKa];refine wp_seq (aD aE hT hG (aZp _ N N' _) trivial hA fun a w' hA => ?_);refine wp_seq (zB (l:=List.range' 0 ((cZ (cA (cB eV))).extract 0 4).size++(List.range' 4 ((cZ (cA (cB eV))).extract 4 5).size++[])) (by kernel_rfl) ?_);refine cT (c:=FA) (hT 0) (hXF (aSj N (cQ (fun _=>zT1) 0 N)) rfl fun _ _ _ h=>h) (aZo _ _ N N' _) ⟨?_,trivial⟩ (by kernel_rfl) hA fun a w' hA => ?_
 ·exact Vo (t:=266) (e:=268) (z:=zT1) (v:=.int .u64 0) (n:=96) (by8:=768) (by kernel_rfl) (by kernel_rfl) aDk aDl (by omega) (by omega) (by omega)
 obtain⟨b,hA⟩:=hA.at (k:=11) (l:=cQ (fun _=>zT1) 0 N) (by simp[aJY]);have hA:=hA.im (s:=11) (k:=11) (o:=0) (n:=N) (m:=N) (b:=b) (by simp[aJY]) (by simp);refine cT (c:=FA) (hT 0) hG (aZn _ _ N N' b _) trivial (by kernel_rfl) hA fun a w' hA => ?_
 refine wp_seq (wp_seq (aD aE hT hG (aZm _ _ N N' b _) trivial hA fun a w' hA => ?_));refine wp_block ?_;refine jR aE (fun i=>MQ (cQ (fun j=>bK (pt j)) 0 N) (oO (fun j=>xW (pt j)) zT1 N i) N N' b (lQ bn on n m) i) N (fun i hi => ?_) (.ex 0) (by simp) (MQ (cQ (fun j=>bK (pt j)) 0 N) (cQ (fun j=>xW (pt j)) 0 N) N N' b (lQ bn on n m) N) ?_ (by rw[VF]; exact hA) fun a w' hA => ?_
 ·exact⟨_,_,_,_,hXF (bEc N b i (pt i) _) rfl (fun _ _ _ h=>h),hT,aZq _ _ (oO (fun j=>xW (pt j)) zT1 N (i+1)) N N' b _ i (pt i),cJ hi,rfl,hi,nN (f:=fun j=>bK (pt j)) (c:=12) (fun j=>rfl) hi (Nat.zero_add _),rfl,rfl,rfl,hi,zY (f:=fun j=>xW (pt j)) (c:=96) (fun j=>Sf (pt j)) aDk hi (Nat.zero_add _),mO (k:=1) (by omega),trivial⟩
 ·rw[←VE (fun j=>xW (pt j)) zT1 N];exact⟨_,_,_,_,hG,hT,aPX _ _ N N' b _ N,fP (Nat.le_refl _),trivial⟩
 refine wp_seq (aD aE hT hG (aZl _ _ N N' b bn on n m N) trivial hA fun a w' hA => ?_);obtain⟨b5,hA⟩:=hA.at (k:=5) (l:=[.c (lQ b 0 N N)]) (by simp[aJW]);obtain⟨b8,hA⟩:=hA.at (k:=8) (l:=fA bn on n m) (by simp[aJW]);refine wp_seq (zB (l:=List.range' 0 ((cZ (cA (cB (cB (cB (cB eV)))))).extract 0 2).size++(2::(List.range' 3 ((cZ (cA (cB (cB (cB (cB eV)))))).extract 3 4).size++[]))) (by kernel_rfl) ?_);refine cT (c:=FA) (hT 0) hG (aZk _ N b b5 b8 bn on n m) trivial (by kernel_rfl) hA fun a w' hA => ?_
 have hM:ClMem1 w' b5 b8 b N bn on n m x pt:=by
  refine⟨hA.old (k:=5) (by simp[GC]) (by simp[GC]),hA.old (k:=8) (by simp[GC]) (by simp[GC]),fun i hi=>(hx i hi).on hA.below (base:=0),fun i hi k hk => ?_⟩;exact aPW (hA.old (k:=11) (by simp[GC]) (by simp[GC])) hi hk
 have h27:=hA.slotF (s:=27) (l:=fA bn on n m) (by simp[GC]);have h28:=hA.slot (s:=28) (v:=MJ b5 b8) (by simp[GC]);obtain⟨o,ho,hoo,hod,hog⟩:∃o,(cZ (cA (cB (cB (cB (cB eV))))))[2]?=some o∧(∃ts,o.op=.call ⟨.value (.func 231),#[.tmp 27,.tmp 28],ts⟩)∧o.dst=some 29∧o.guard=none:=⟨_,rfl,⟨_,rfl⟩,rfl,rfl⟩
 obtain⟨ts,hoo⟩:=hoo;refine nV ho hog (IT hoo (vs:=[.agg (aA (fA bn on n m)).toArray,MJ b5 b8]) (by simp[Act.eval,h27,h28]) (iJ func231 (by kernel_rfl) (by kernel_rfl) · _) (aBR hM hN hn) fun w'' hb => ?_);rw[hod];have hA:=hA.put hb (d:=29) (Nat.le_of_ble_eq_true (by kernel_rfl)) (.fl (bK (ov1 (fun p=>RK pt x p N) (nY x n/4+1) (nY x n/4+1)))) (by
  have:(GC (cQ (fun j=>xW (pt j)) 0 N) N b b5 b8 bn on n m).all (fun φ => !(mS (some 29) none φ))=true:=by kernel_rfl
  intro φ hφ;rw[List.all_eq_true]at this;simpa using this φ hφ)
 refine cT (c:=FA) (hT 0) hG (aZj _ N b b5 b8 bn on n m _) trivial (by kernel_rfl) hA fun a w' hA => ?_
 exact wp_ret (eF (l:=[.fl (bK (ov1 (fun p=>RK pt x p N) (nY x n/4+1) (nY x n/4+1)))]) (r:=.one (.fl (bK (ov1 (fun p=>RK pt x p N) (nY x n/4+1) (nY x n/4+1))))) (by kernel_rfl) (by kernel_rfl) hA)
def uA:J2:=(F2.zero,F2.zero,F2.zero)
def xV (p:J2):List At:=bJ (OR p 1)++(bJ (OR p 2)++(bJ (OR p 3)++(bJ (OR p 4)++(bJ (OR p 5)++(bJ (OR p 6)++(bJ (OR p 7)++(bJ (OR p 8))))))))
def zT2:List At:=bJ uA++(bJ uA++(bJ uA++(bJ uA++(bJ uA++(bJ uA++(bJ uA++(bJ uA)))))))
theorem Se (p:J2):dF (xV p)=192:=by kernel_rfl
theorem aDi:dF zT2=192:=by kernel_rfl
def xH (p:J2) (k:Nat):List At:=bJ (OR p (k+1))
theorem aDY (p:J2):xV p=cQ (xH p) 0 8:=by
 show xV p=xH p 0++(xH p 1++(xH p 2++(xH p 3++(xH p 4++(xH p 5++(xH p 6++(xH p 7++[])))))));rw[List.append_nil];rfl
theorem aEw (p:J2):aO prog (qG prog) (fun _=>⟨fun s=>gJ true,fun s=>true,fun _=>none⟩) f239 200 [.v (.fl (bJ p))]=some ([],.one (.fl (xV p))):=by kernel_rfl
def lD:Tab:=(gJ true).add 239 (g1 YO fun p=>([],.one (.fl (xV p))))
theorem jJ:TabOk prog lD:=(kS true).ad func239 (bP iW fun p hp args w ha=>aB aE (fun _ s=>kS _) (aJ prog) func239 (aEw p) trivial ha)
def eO:Code:=(f193.body).getD .skip
def WU:Code:=pC (pC (cB (cA (cB (cB eO)))))
theorem aJZ:eO=.seq (cA eO) (.seq (.region 1 (cZ (cA (cB eO))) false) (.seq (.seq (cA (cA (cB (cB eO)))) (.block 0 (.loop WU))) (.seq (cA (cB (cB (cB eO)))) (.seq (.region 8 (cZ (cA (cB (cB (cB (cB eO)))))) false) .ret)))):=by kernel_rfl
def aYZ (LP:List At) (N N':Nat) (vn:Value):List Fact:=[.slot 0 (.sl 0 0 N N'),.row 0 false LP,.slot 1 (.im vn),.slot 4 (.pt 4 0),.row 4 true (bJ uA)]
def aJX (LP Z:List At) (N N':Nat) (vn:Value):List Fact:=[.slot 0 (.sl 0 0 N N'),.row 0 false LP,.slot 1 (.im vn),.slot 4 (.pt 4 0),.row 4 true (bJ uA),.slot 11 (.sl 11 0 N N),.row 11 true Z,.slot 5 (.pt 5 0),.row 5 true [.c (.slice none 0 0)]]
def aYX (LP Z:List At) (N N' b:Nat) (vn:Value):List Fact:=[.at 11 b,.slot 0 (.sl 0 0 N N'),.row 0 false LP,.slot 1 (.im vn),.slot 4 (.pt 4 0),.row 4 true (bJ uA),.row 11 true Z,.slot 5 (.pt 5 0),.row 5 true [.c (lQ b 0 N N)]]
def MP (LP Z:List At) (N N' b:Nat) (vn:Value) (i:Nat):List Fact:=[.at 11 b,.slot 0 (.sl 0 0 N N'),.row 0 false LP,.slot 1 (.im vn),.slot 4 (.pt 4 0),.row 4 true (bJ uA),.row 11 true Z,.slot 5 (.pt 5 0),.row 5 true [.c (lQ b 0 N N)],.slot 12 (.sl 0 0 N N'),.slot 13 (.im (iI N)),.slot 14 (.im (iI i))]
def aJV (Z:List At) (N b bn on n m:Nat):List Fact:=[.at 11 b,.slot 4 (.pt 4 0),.row 4 true (bJ uA),.row 11 true Z,.slot 5 (.pt 5 0),.row 5 true [.c (lQ b 0 N N)],.slot 8 (.pt 8 0),.row 8 true (fA bn on n m)]
def GB (Z:List At) (N b b5 b8 bn on n m:Nat):List Fact:=[.at 5 b5,.at 8 b8,.at 11 b,.slot 4 (.pt 4 0),.row 4 true (bJ uA),.row 11 true Z,.row 5 true [.c (lQ b 0 N N)],.row 8 true (fA bn on n m),.slot 27 (.fl (fA bn on n m)),.slot 28 (.im (MI b5 b8))]
def aJT (num:Nat→Option Value) (_:Nat):Cfg:=⟨fun _=>lD,fun _=>true,num⟩
def EZ:Cfg:=⟨fun _=>lD,fun _=>true,fun _=>none⟩
theorem aZh (LP:List At) (N N':Nat) (vn:Value):aU prog (qG prog) f193.ntmps (aJT fun _=>none) 40 (cA eO) (lC 0 [.s LP N N',.v (.im vn)]) (aYZ LP N N' vn)=some ([],.nrm,aYZ LP N N' vn):=by kernel_rfl
def aSi (N:Nat) (Z:List At):Ext:={ YR (fun _ _ _=>False)with mks:=assoc [(11,(N,Z))] }
theorem aZg (LP Z:List At) (N N':Nat) (vn:Value):tX prog (qX prog (aSi N Z)) f193.ntmps EZ ((cZ (cA (cB eO))).extract 0 4) (aYZ LP N N' vn) (aJX LP Z N N' vn)=some ([∃e,∀w:World,(Instr.makeSlice 277 (iI N) (iI N)).run prog w=.ok (.slice (some ⟨w.heap.size,0,none⟩) N N) (w.alloc (.cells (aA Z).toArray e))],aJX LP Z N N' vn):=by kernel_rfl
theorem aZf (LP Z:List At) (N N' b:Nat) (vn:Value):tX prog (qG prog) f193.ntmps EZ ((cZ (cA (cB eO))).extract 4 5) (.slot 11 (.im (lQ b 0 N N)) :: .at 11 b::aJX LP Z N N' vn) (aYX LP Z N N' b vn)=some ([],aYX LP Z N N' b vn):=by kernel_rfl
theorem aZe (LP Z:List At) (N N' b:Nat) (vn:Value):aU prog (qG prog) f193.ntmps (aJT fun _=>none) 40 (cA (cA (cB (cB eO)))) (aYX LP Z N N' b vn) (MP LP Z N N' b vn 0)=some ([],.nrm,MP LP Z N N' b vn 0):=by kernel_rfl
def bEb (N b i:Nat) (p:J2) (Z':List At):Ext:={ YR (fun _ _ _=>False)with idx:=assoc [(17,i),(23,i)],ld:=assoc [(18,bJ p)],st:=assoc [(23,Z')],gen:=assoc [(19,lQ b 0 N N)],ky:=assoc [(19,11)] }
theorem aZi (LP Z Z':List At) (N N' b:Nat) (vn:Value) (i:Nat) (p:J2):aU prog (qX prog (bEb N b i p Z')) f193.ntmps (aJT (assoc [(15,.bool true),(24,iI (i+1))])) 40 WU (MP LP Z N N' b vn i) (MP LP Z' N N' b vn (i+1))=some ([aI .lss .i64 (Int.ofNat i) (Int.ofNat N)=some (.bool true),Int.ofNat i=Int.ofNat i,i<N,gU LP (0+i*24) 24=some (bJ p),cellAt [.c (lQ b 0 N N)] 0=some (lQ b 0 N N),b=b,Int.ofNat i=Int.ofNat i,i<N,put Z (0+i*192) (xV p)=some Z',aI .add .i64 (Int.ofNat i) 1=some (iI (i+1))],.nrm,MP LP Z' N N' b vn (i+1)):=by kernel_rfl
theorem aPV (LP Z:List At) (N N' b:Nat) (vn:Value) (i:Nat):aU prog (qG prog) f193.ntmps (aJT (assoc [(15,.bool false)])) 40 WU (MP LP Z N N' b vn i) (MP LP Z N N' b vn i)=some ([aI .lss .i64 (Int.ofNat i) (Int.ofNat N)=some (.bool false)],.ex 0,MP LP Z N N' b vn i):=by kernel_rfl
theorem aZd (LP Z:List At) (N N' b bn on n m i:Nat):aU prog (qG prog) f193.ntmps (aJT fun _=>none) 40 (cA (cB (cB (cB eO)))) (MP LP Z N N' b (lQ bn on n m) i) (aJV Z N b bn on n m)=some ([],.nrm,aJV Z N b bn on n m):=by kernel_rfl
theorem aZc (Z:List At) (N b b5 b8 bn on n m:Nat):tX prog (qG prog) f193.ntmps EZ ((cZ (cA (cB (cB (cB (cB eO)))))).extract 0 2) (.at 8 b8 :: .at 5 b5::aJV Z N b bn on n m) (GB Z N b b5 b8 bn on n m)=some ([],GB Z N b b5 b8 bn on n m):=by kernel_rfl
theorem aZb (Z:List At) (N b b5 b8 bn on n m:Nat) (r:J2):tX prog (qG prog) f193.ntmps EZ ((cZ (cA (cB (cB (cB (cB eO)))))).extract 3 4) (.slot 29 (.fl (bJ r))::GB Z N b b5 b8 bn on n m) [.slot 4 (.pt 4 0),.row 4 true (bJ r)]=some ([],[.slot 4 (.pt 4 0),.row 4 true (bJ r)]):=by kernel_rfl
theorem aDj:vO (aA zT2) (.int .u64 0):=by unfold vO; kernel_rfl
theorem aPU {w:World} {b N i k:Nat} {pt:Nat→J2} (h:oldOf w b 0 (cQ (fun j=>xV (pt j)) 0 N)) (hi:i<N) (hk:k<8):oldOf w b (i*192+k*24) (bJ (OR (pt i) (k+1))):=by
 refine⟨h.1,?_⟩;have h1:w.rangeAt b (0+i*192) (aA (xV (pt i))):=nW (f:=fun j=>xV (pt j)) (c:=192) (fun j=>Se (pt j)) hi h.2;rw[aDY,Nat.zero_add]at h1;exact nW (f:=xH (pt i)) (c:=24) (fun j=>rfl) hk h1
theorem aCN {w0:World} {gb go N N' bn on n m:Nat} {x:Nat→Nat} {pt:Nat→J2} {LP:List At} (hLP:aA LP=aA (cQ (fun j=>bJ (pt j)) 0 N)) (hP:oldOf w0 gb go LP) (hx:∀i,i<n→oldOf w0 bn (on+i*4) [.q (x i)]) (hN:N≤n) (hN2:N≤65536) (hn:n<4611686018427387904):Calls prog 193 #[lQ gb go N N',lQ bn on n m] w0 (fun e w'=>e=.returned (.agg (aA (bJ (ov2 (fun p=>RJ pt x p N) (nY x n/4+1) (nY x n/4+1)))).toArray)∧Below w0.heap.size w0 w'):=by
 have hG:cV prog (qG prog) w0.heap.size w0:=(aJ _).w _ _;have hT:∀n d:Nat,TabOkW prog lD w0.heap.size w0:=fun _ _=>jJ.w _ _
 have hXF:∀x:Ext,x.T2=Fr0→(∀b o l,¬x.old b o l)→cV prog (qX prog x) w0.heap.size w0:=fun x h2 h3=>pK (h2▸lH _) fun b o l h=>(h3 b o l h).elim
 have hP':oldOf w0 gb go (cQ (fun j=>bJ (pt j)) 0 N):=⟨hP.1,by rw[←hLP]; exact hP.2⟩;clear hP hLP;refine dL func193 (c:=eO) rfl (args:=[lQ gb go N N',lQ bn on n m]) (cs:=[.s (cQ (fun j=>bJ (pt j)) 0 N) N N',.v (.im (lQ bn on n m))]) ⟨⟨gb,go,rfl,hP'.1,hP'.2⟩,rfl,trivial⟩ (Nat.le_of_ble_eq_true (by kernel_rfl)) fun a w' hA => ?_
 rw[aJZ];refine wp_seq (aD aE hT hG (aZh _ N N' _) trivial hA fun a w' hA => ?_);refine wp_seq (zB (l:=List.range' 0 ((cZ (cA (cB eO))).extract 0 4).size++(List.range' 4 ((cZ (cA (cB eO))).extract 4 5).size++[])) (by kernel_rfl) ?_);refine cT (c:=EZ) (hT 0) (hXF (aSi N (cQ (fun _=>zT2) 0 N)) rfl fun _ _ _ h=>h) (aZg _ _ N N' _) ⟨?_,trivial⟩ (by kernel_rfl) hA fun a w' hA => ?_
 ·exact Vo (t:=277) (e:=279) (z:=zT2) (v:=.int .u64 0) (n:=192) (by8:=1536) (by kernel_rfl) (by kernel_rfl) aDi aDj (by omega) (by omega) (by omega)
 obtain⟨b,hA⟩:=hA.at (k:=11) (l:=cQ (fun _=>zT2) 0 N) (by simp[aJX]);have hA:=hA.im (s:=11) (k:=11) (o:=0) (n:=N) (m:=N) (b:=b) (by simp[aJX]) (by simp);refine cT (c:=EZ) (hT 0) hG (aZf _ _ N N' b _) trivial (by kernel_rfl) hA fun a w' hA => ?_
 refine wp_seq (wp_seq (aD aE hT hG (aZe _ _ N N' b _) trivial hA fun a w' hA => ?_));refine wp_block ?_;refine jR aE (fun i=>MP (cQ (fun j=>bJ (pt j)) 0 N) (oO (fun j=>xV (pt j)) zT2 N i) N N' b (lQ bn on n m) i) N (fun i hi => ?_) (.ex 0) (by simp) (MP (cQ (fun j=>bJ (pt j)) 0 N) (cQ (fun j=>xV (pt j)) 0 N) N N' b (lQ bn on n m) N) ?_ (by rw[VF]; exact hA) fun a w' hA => ?_
 ·exact⟨_,_,_,_,hXF (bEb N b i (pt i) _) rfl (fun _ _ _ h=>h),hT,aZi _ _ (oO (fun j=>xV (pt j)) zT2 N (i+1)) N N' b _ i (pt i),cJ hi,rfl,hi,nN (f:=fun j=>bJ (pt j)) (c:=24) (fun j=>rfl) hi (Nat.zero_add _),rfl,rfl,rfl,hi,zY (f:=fun j=>xV (pt j)) (c:=192) (fun j=>Se (pt j)) aDi hi (Nat.zero_add _),mO (k:=1) (by omega),trivial⟩
 ·rw[←VE (fun j=>xV (pt j)) zT2 N];exact⟨_,_,_,_,hG,hT,aPV _ _ N N' b _ N,fP (Nat.le_refl _),trivial⟩
 refine wp_seq (aD aE hT hG (aZd _ _ N N' b bn on n m N) trivial hA fun a w' hA => ?_);obtain⟨b5,hA⟩:=hA.at (k:=5) (l:=[.c (lQ b 0 N N)]) (by simp[aJV]);obtain⟨b8,hA⟩:=hA.at (k:=8) (l:=fA bn on n m) (by simp[aJV]);refine wp_seq (zB (l:=List.range' 0 ((cZ (cA (cB (cB (cB (cB eO)))))).extract 0 2).size++(2::(List.range' 3 ((cZ (cA (cB (cB (cB (cB eO)))))).extract 3 4).size++[]))) (by kernel_rfl) ?_);refine cT (c:=EZ) (hT 0) hG (aZc _ N b b5 b8 bn on n m) trivial (by kernel_rfl) hA fun a w' hA => ?_
 have hM:ClMem2 w' b5 b8 b N bn on n m x pt:=by
  refine⟨hA.old (k:=5) (by simp[GB]) (by simp[GB]),hA.old (k:=8) (by simp[GB]) (by simp[GB]),fun i hi=>(hx i hi).on hA.below (base:=0),fun i hi k hk => ?_⟩;exact aPU (hA.old (k:=11) (by simp[GB]) (by simp[GB])) hi hk
 have h27:=hA.slotF (s:=27) (l:=fA bn on n m) (by simp[GB]);have h28:=hA.slot (s:=28) (v:=MI b5 b8) (by simp[GB]);obtain⟨o,ho,hoo,hod,hog⟩:∃o,(cZ (cA (cB (cB (cB (cB eO))))))[2]?=some o∧(∃ts,o.op=.call ⟨.value (.func 240),#[.tmp 27,.tmp 28],ts⟩)∧o.dst=some 29∧o.guard=none:=⟨_,rfl,⟨_,rfl⟩,rfl,rfl⟩
 obtain⟨ts,hoo⟩:=hoo;refine nV ho hog (IT hoo (vs:=[.agg (aA (fA bn on n m)).toArray,MI b5 b8]) (by simp[Act.eval,h27,h28]) (iJ func240 (by kernel_rfl) (by kernel_rfl) · _) (aBP hM hN hn) fun w'' hb => ?_);rw[hod];have hA:=hA.put hb (d:=29) (Nat.le_of_ble_eq_true (by kernel_rfl)) (.fl (bJ (ov2 (fun p=>RJ pt x p N) (nY x n/4+1) (nY x n/4+1)))) (by
  have:(GB (cQ (fun j=>xV (pt j)) 0 N) N b b5 b8 bn on n m).all (fun φ => !(mS (some 29) none φ))=true:=by kernel_rfl
  intro φ hφ;rw[List.all_eq_true]at this;simpa using this φ hφ)
 refine cT (c:=EZ) (hT 0) hG (aZb _ N b b5 b8 bn on n m _) trivial (by kernel_rfl) hA fun a w' hA => ?_
 exact wp_ret (eF (l:=[.fl (bJ (ov2 (fun p=>RJ pt x p N) (nY x n/4+1) (nY x n/4+1)))]) (r:=.one (.fl (bJ (ov2 (fun p=>RJ pt x p N) (nY x n/4+1) (nY x n/4+1))))) (by kernel_rfl) (by kernel_rfl) hA)
end Go.Proofs.YtglgakbkdjhojaaGreat.Ex
