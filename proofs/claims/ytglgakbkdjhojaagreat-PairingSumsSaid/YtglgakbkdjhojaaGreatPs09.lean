/- Ps09 -/
import Derived.Test.YtglgakbkdjhojaaGreatPs08
import Derived.Test.YtglgakbkdjhojaaGreatPs02
import Derived.Test.YtglgakbkdjhojaaGreatProg
set_option maxRecDepth 100000
set_option linter.unusedVariables false
set_option linter.unusedSimpArgs false
noncomputable section
namespace Go.Proofs.YtglgakbkdjhojaaGreat.Ex
open Go.Proofs.Tryz
open Go.RowKit
def TO (old : Nat → Nat → List At → Prop) : Ext:={ idx:=fun _ => none,ld:=fun _ => none,st:=fun _ => none,gen:=fun _ => none,mks:=fun _ => none,ky:=fun _ => none,old:=old,T2:=Fr0 }
theorem rM {x : Ext} {w : World} (h : x.old = oldOf w) (h2 : x.T2 = Fr0) : cN prog (qX prog x) w.heap.size w:=nM (h2 ▸ jL _) fun _ _ _ q => h ▸ q
def mD (x : Nat → Nat) : Nat → Nat
 | 0 => 0
 | i + 1 => if xM (x i) > mD x i then xM (x i) else mD x i
theorem QA (x : Nat → Nat) : ∀ i,mD x i ≤ 256
 | 0 => Nat.zero_le _
 | i + 1 => by
  have:=QA x i;have:=aHQ (x i);unfold mD;split <;> omega
theorem Fg (x : Nat → Nat) : ∀ n i,i < n → xM (x i) ≤ mD x n
 | n + 1,i,h => by
  unfold mD
  by_cases e : i = n
  ·subst e; split <;> omega
  ·have:=Fg x n i (by omega);split <;> omega
def plX (old : Nat → Nat → List At → Prop) (x i : Nat) : Ext:={ TO old with idx:=assoc [(11,i)],ld:=assoc [(12,[At.q x])] }
def plF (b o n m i mx : Nat) : List Fact:=[.slot 1 (.pt 1 0),.row 1 true (dO b o n m),.slot 3 (.im (iI mx)),.slot 7 (.im (jR b o n m)),.slot 8 (.im (iI n)),.slot 9 (.im (iI i))]
def Aw (num : Nat → Option Value) (_ : Nat) : Cfg:=⟨fun _ => fH true,fun _ => true,num⟩
def lG : Code:=(f253.body).getD .skip
def Ei : Code:=pO (pO (cB (cA (cB (cB lG)))))
theorem aGT : lG = .seq (cA lG) (.seq (cA (cB lG)) (.seq (.seq (cA (cA (cB (cB lG)))) (.block 0 (.loop Ei))) (cB (cB (cB lG))))):=by kernel_rfl
def plA (b o n m : Nat) : List Fact:=[.slot 1 (.pt 1 0),.row 1 true (dO b o n m)]
def plB (b o n m : Nat) : List Fact:=[.slot 1 (.pt 1 0),.row 1 true (dO b o n m),.slot 3 (.im (iI 0))]
theorem aUa (b o n m : Nat) : aY prog (qG prog) f253.ntmps (Aw fun _ => none) 40 (cA lG) (kV 0 [.v (.fl (dO b o n m))]) (plA b o n m) = some ([],.nrm,plA b o n m):=by kernel_rfl
theorem aTZ (b o n m : Nat) : aY prog (qG prog) f253.ntmps (Aw fun _ => none) 40 (cA (cB lG)) (plA b o n m) (plB b o n m) = some ([],.nrm,plB b o n m):=by kernel_rfl
theorem aTY (b o n m : Nat) : aY prog (qG prog) f253.ntmps (Aw fun _ => none) 40 (cA (cA (cB (cB lG)))) (plB b o n m) (plF b o n m 0 0) = some ([],.nrm,plF b o n m 0 0):=by kernel_rfl
theorem aUb (old : Nat → Nat → List At → Prop) (b o n m i mx mx' x : Nat) : aY prog (qX prog (plX old x i)) f253.ntmps (Aw (assoc [(10,.bool true),(16,iI mx'),(17,iI (i + 1))])) 40 Ei (plF b o n m i mx) (plF b o n m (i + 1) mx') = some ([aI .lss .i64 (Int.ofNat i) (Int.ofNat n) = some (.bool true),Int.ofNat i = Int.ofNat i,i < n,old b (o + i * 4) [.q x],cS [At.q x] = 4,Value.int .i64 (if (Int.ofNat (xM x)) > (Int.ofNat mx) then Int.ofNat (xM x) else Int.ofNat mx) = iI mx',aI .add .i64 (Int.ofNat i) 1 = some (iI (i + 1))],.nrm,plF b o n m (i + 1) mx'):=by kernel_rfl
theorem aNv (b o n m i mx : Nat) : aY prog (qG prog) f253.ntmps (Aw (assoc [(10,.bool false)])) 40 Ei (plF b o n m i mx) (plF b o n m i mx) = some ([aI .lss .i64 (Int.ofNat i) (Int.ofNat n) = some (.bool false)],.ex 0,plF b o n m i mx):=by kernel_rfl
theorem aGS (b o n m i mx : Nat) : aY prog (qG prog) f253.ntmps (Aw (assoc [(21,iI (mx / 4)),(22,iI (mx / 4 + 1))])) 40 (cB (cB (cB lG))) (plF b o n m i mx) [.slot 2 (.im (iI (mx / 4 + 1)))] = some ([aI .quo .i64 (Int.ofNat mx) (Int.ofNat 4) = some (iI (mx / 4)),aI .add .i64 (Int.ofNat (mx / 4)) 1 = some (iI (mx / 4 + 1))],.rt,[.slot 2 (.im (iI (mx / 4 + 1)))]):=by kernel_rfl
theorem xB {w0 : World} (b o n m : Nat) (x : Nat → Nat) (hx : ∀ i,i < n → oldOf w0 b (o + i * 4) [.q (x i)]) (hn : n < 4611686018427387904) : Calls prog 253 #[.agg (aA (dO b o n m)).toArray] w0 (fun e w' => e = .returned (iI (mD x n / 4 + 1)) ∧ Below w0.heap.size w0 w'):=by
 have hG : cN prog (qG prog) w0.heap.size w0:=(aK _).w _ _;have hT : ∀ n d : Nat,TabOkW prog (fH true) w0.heap.size w0:=fun _ _ => (jE true).w _ _
 refine dS func253 (c:=lG) rfl (args:=[.agg (aA (dO b o n m)).toArray]) (cs:=[.v (.fl (dO b o n m))]) ⟨rfl,trivial⟩ (Nat.le_of_ble_eq_true (by kernel_rfl)) fun a w' hA => ?_
 rw [aGT];refine wp_seq (aC aG hT hG (aUa b o n m) trivial hA fun a w' hA => ?_);refine wp_seq (aC aG hT hG (aTZ b o n m) trivial hA fun a w' hA => ?_);refine wp_seq (wp_seq (aC aG hT hG (aTY b o n m) trivial hA fun a w' hA => ?_));refine wp_block ?_;refine jV aG (fun i => plF b o n m i (mD x i)) n (fun i hi => ?_) (.ex 0) (by simp) (plF b o n m n (mD x n)) ?_ hA fun a w' hA => ?_
 ·refine ⟨_,_,_,_,rM (x:=plX (oldOf w0) (x i) i) rfl rfl,hT,aUb (oldOf w0) b o n m i (mD x i) (mD x (i + 1)) (x i),bX hi,rfl,hi,hx i hi,rfl,?_,kQ (k:=1) (by omega),trivial⟩;show Value.int .i64 (if ((xM (x i) : Nat) : Int) > ((mD x i : Nat) : Int) then ((xM (x i) : Nat) : Int) else ((mD x i : Nat) : Int)) = .int .i64 ((mD x (i + 1) : Nat) : Int);rw [mD]
  by_cases h : xM (x i) > mD x i
  ·rw [if_pos h,if_pos (by omega)]
  ·rw [if_neg h,if_neg (by omega)]
 ·exact ⟨_,_,_,_,hG,hT,aNv b o n m n _,eI (Nat.le_refl _),trivial⟩
 ·have:=QA x n;show (cB (cB (cB lG))).wp _ _ _ _;exact aC aG hT hG (aGS b o n m n _) ⟨aKx (by omega) (by omega),kQ (k:=1) (by omega),trivial⟩ hA fun a w' hA => eJ (l:=[.im (iI (mD x n / 4 + 1))]) (r:=.one (.im (iI (mD x n / 4 + 1)))) (by kernel_rfl) (by kernel_rfl) hA
def KJ (p : J1) : Nat → J1
 | 0 => (F1.zero,F1.zero,F1.zero)
 | k + 1 => dZ F1 (KJ p k) p
def Ow (p : J1) : Int → J1
 | .ofNat 0 => (F1.zero,F1.zero,F1.zero)
 | .ofNat (k + 1) => KJ p (k + 1)
 | .negSucc k => sG F1 (KJ p (k + 1))
def Oy (old : Nat → Nat → List At → Prop) (k : Nat) (h : Int) (q : J1) : Ext:={ TO old with idx:=assoc [(12,k),(22,k)],ld:=assoc [(13,bH q),(23,bH q)],gen:=assoc [(19,.int .i64 h)] }
theorem Py (old : Nat → Nat → List At → Prop) (b off k : Nat) (g h : Int) (q : J1) : aX prog (qX prog (Oy old k h q)) (fun _ => ⟨fun s => fH true,fun s => true,assoc [(7,.bool true),(10,iI k)]⟩) f233 80 [.v (.im (iG b off)),.v (.im (.int .i64 g))] = some ([aI .gtr .i64 g 0 = some (.bool true),aI .sub .i64 g 1 = some (iI k),Int.ofNat k = Int.ofNat k,k < 8,old b (off + k * 12) (bH q),cS (bH q) = 12],.one (.fl (bH q))):=by kernel_rfl
theorem Pz (old : Nat → Nat → List At → Prop) (b off k : Nat) (g h : Int) (q : J1) : aX prog (qX prog (Oy old k h q)) (fun _ => ⟨fun s => fH true,fun s => true,assoc [(7,.bool false),(16,.bool true),(20,iI k)]⟩) f233 80 [.v (.im (iG b off)),.v (.im (.int .i64 g))] = some ([aI .gtr .i64 g 0 = some (.bool false),aI .lss .i64 g 0 = some (.bool true),(∀ W : World,(Op.unary .neg (.int .i64 g)).run prog W = .ok (.int .i64 h) W),aI .sub .i64 h 1 = some (iI k),Int.ofNat k = Int.ofNat k,k < 8,old b (off + k * 12) (bH q),cS (bH q) = 12],.one (.fl (bH (sG F1 q)))):=by kernel_rfl
theorem Px (old : Nat → Nat → List At → Prop) (b off k : Nat) (g h : Int) (q : J1) : aX prog (qX prog (Oy old k h q)) (fun _ => ⟨fun s => fH true,fun s => true,assoc [(7,.bool false),(16,.bool false)]⟩) f233 80 [.v (.im (iG b off)),.v (.im (.int .i64 g))] = some ([aI .gtr .i64 g 0 = some (.bool false),aI .lss .i64 g 0 = some (.bool false)],.one (.fl (bH (F1.zero,F1.zero,F1.zero)))):=by kernel_rfl
theorem Bg {w0 : World} (b off : Nat) (g : Int) (p : J1) (hp : ∀ k,k < 8 → oldOf w0 b (off + k * 12) (bH (KJ p (k + 1)))) (h1 : -8 ≤ g) (h2 : g ≤ 8) : Calls prog 233 #[iG b off,.int .i64 g] w0 (fun e w' => e = .returned (.agg (aA (bH (Ow p g))).toArray) ∧ Below w0.heap.size w0 w'):=by
 have hT : ∀ n d : Nat,TabOkW prog (fH true) w0.heap.size w0:=fun _ _ => (jE true).w _ _
 have ha : bR w0 [.v (.im (iG b off)),.v (.im (.int .i64 g))] [iG b off,.int .i64 g]:=⟨rfl,rfl,trivial⟩
 match g,h1,h2,ha with
 | .ofNat 0,_,_,ha => exact bD aG hT (rM (x:=Oy (oldOf w0) 0 0 (F1.zero,F1.zero,F1.zero)) rfl rfl) func233 (Px (oldOf w0) b off 0 _ 0 (F1.zero,F1.zero,F1.zero)) ⟨rfl,rfl,trivial⟩ ha
 | .ofNat (k + 1),_,h2,ha =>
  have hk : k < 8:=by have h2' : ((k + 1 : Nat) : Int) ≤ 8:=h2; omega
  exact bD aG hT (rM (x:=Oy (oldOf w0) k 0 (KJ p (k + 1))) rfl rfl) func233 (Py (oldOf w0) b off k _ 0 (KJ p (k + 1))) ⟨by rw [show (0 : Int) = Int.ofNat 0 from rfl,BB,decide_eq_true (by omega)],uK (k:=1) (by omega) (by omega),rfl,hk,hp k hk,rfl,trivial⟩ ha
 | .negSucc k,h1,_,ha =>
  have hk : k < 8:=by have h1' : -8 ≤ -((k : Int) + 1):=h1; omega
  refine bD aG hT (rM (x:=Oy (oldOf w0) k (Int.ofNat (k + 1)) (KJ p (k + 1))) rfl rfl) func233 (Pz (oldOf w0) b off k _ (Int.ofNat (k + 1)) (KJ p (k + 1))) ⟨?_,?_,?_,uK (k:=1) (by omega) (by omega),rfl,hk,hp k hk,rfl,trivial⟩ ha
  ·show some (Value.bool (decide (Int.negSucc k > 0))) = _;rw [decide_eq_false (by omega)]
  ·show some (Value.bool (decide (Int.negSucc k < 0))) = _;rw [decide_eq_true (by omega)]
  ·intro W;have e : IntKind.i64.wrap (0 - Int.negSucc k) = Int.ofNat (k + 1):=by rw [IntKind.wrap_i64]; show _ = ((k + 1 : Nat) : Int); omega
   show (Op.intArith .sub .i64 0 (Int.negSucc k)).run prog W = _;simp only [Op.intArith,Sem.run_pure,e]
def aCz (bT i : Nat) (p : J1) : kZ
 | [.v (.im (.pointer (some ⟨b',off,.none⟩))),.v (.im (.int .i64 g))] => some ([b' = bT,off = i * 96,-8 ≤ g,g ≤ 8],.one (.fl (bH (Ow p g))))
 | _ => none
theorem aCy {w : World} {bT i : Nat} {p : J1} (hp : ∀ k,k < 8 → oldOf w bT (i * 96 + k * 12) (bH (KJ p (k + 1)))) : ∀ cs pre r,aCz bT i p cs = some (pre,r) → aZ pre → ∀ (args : List Value),bR w cs args → Good prog 233 r args w:=by
 intro cs pre r hg hq args ha;unfold aCz at hg;split at hg
 ·rename_i b' off g;cases hg;obtain ⟨rfl,rfl,h1,h2,_⟩:=hq
  match args,ha with
  | [u,v],ha =>
   have e1 : u = iG b' (i * 96):=ha.1;have e2 : v = .int .i64 g:=ha.2.1;subst e1; subst e2;exact Bg b' _ g p hp h1 h2
  | [],ha => exact ha.elim
  | [_],ha => exact ha.2.elim
  | _ :: _ :: _ :: _,ha => exact ha.2.2.elim
 ·cases hg
def MY (pt : Nat → J1) (x : Nat → Nat) (p : Nat) : Nat → J1
 | 0 => (F1.zero,F1.zero,F1.zero)
 | i + 1 => dZ F1 (MY pt x p i) (Ow (pt i) (lL (x i) p))
def aIX (old : Nat → Nat → List At → Prop) (bT N b o n m i : Nat) : Ext:={ TO old with idx:=assoc [(15,i)],ld:=assoc [(16,dO b o n m)],gen:=assoc [(7,jR bT 0 N N),(13,jR bT 0 N N)] }
def IK (pl bt bd N i : Nat) (c : J1) : List Fact:=[.slot 0 (.im (iI pl)),.slot 1 (.im (iG bt 0)),.slot 2 (.im (iG bd 0)),.slot 4 (.pt 4 0),.row 4 true (bH (F1.zero,F1.zero,F1.zero)),.slot 5 (.pt 5 0),.row 5 true (bH c),.slot 8 (.im (iI N)),.slot 9 (.im (iI i))]
def aYR (bT b o n m : Nat) (x : Nat → Nat) (i : Nat) (p : J1) : Tab:=((fH true).add 234 (gAt b o n m x)).add 233 (aCz bT i p)
def iE : Code:=(f232.body).getD .skip
def RU : Code:=pO (pO (cB (cA (cB (cB iE)))))
theorem aDF : iE = .seq (cA iE) (.seq (cA (cB iE)) (.seq (.seq (cA (cA (cB (cB iE)))) (.block 0 (.loop RU))) (cB (cB (cB iE))))):=by kernel_rfl
def aQK (pl bt bd : Nat) : List Fact:=[.slot 0 (.im (iI pl)),.slot 1 (.im (iG bt 0)),.slot 2 (.im (iG bd 0)),.slot 4 (.pt 4 0),.row 4 true (bH (F1.zero,F1.zero,F1.zero))]
def aQI (pl bt bd : Nat) : List Fact:=[.slot 0 (.im (iI pl)),.slot 1 (.im (iG bt 0)),.slot 2 (.im (iG bd 0)),.slot 4 (.pt 4 0),.row 4 true (bH (F1.zero,F1.zero,F1.zero)),.slot 5 (.pt 5 0),.row 5 true (bH (F1.zero,F1.zero,F1.zero))]
theorem aQR (pl bt bd : Nat) : aY prog (qG prog) f232.ntmps (Aw fun _ => none) 40 (cA iE) (kV 0 [.v (.im (iI pl)),.v (.im (iG bt 0)),.v (.im (iG bd 0))]) (aQK pl bt bd) = some ([],.nrm,aQK pl bt bd):=by kernel_rfl
theorem aQQ (pl bt bd : Nat) : aY prog (qG prog) f232.ntmps (Aw fun _ => none) 40 (cA (cB iE)) (aQK pl bt bd) (aQI pl bt bd) = some ([],.nrm,aQI pl bt bd):=by kernel_rfl
theorem aQP (old : Nat → Nat → List At → Prop) (pl bt bd bT N b o n m : Nat) : aY prog (qX prog (aIX old bT N b o n m 0)) f232.ntmps (Aw fun _ => none) 40 (cA (cA (cB (cB iE)))) (aQI pl bt bd) (IK pl bt bd N 0 (F1.zero,F1.zero,F1.zero)) = some ([old bt 0 [.c (jR bT 0 N N)]],.nrm,IK pl bt bd N 0 (F1.zero,F1.zero,F1.zero)):=by kernel_rfl
theorem aQS (old : Nat → Nat → List At → Prop) (pl bt bd bT N b o n m i : Nat) (x : Nat → Nat) (p c : J1) : aY prog (qX prog (aIX old bT N b o n m i)) f232.ntmps (fun _ => ⟨fun _ => aYR bT b o n m x i p,fun _ => true,assoc [(10,.bool true),(22,iI (i + 1))]⟩) 40 RU (IK pl bt bd N i c) (IK pl bt bd N (i + 1) (dZ F1 c (Ow p (lL (x i) pl)))) = some ([aI .lss .i64 (Int.ofNat i) (Int.ofNat N) = some (.bool true),old bt 0 [.c (jR bT 0 N N)],Int.ofNat i = Int.ofNat i,i < N,old bd 0 (dO b o n m),cS (dO b o n m) = 2,b = b,o = o,n = n,m = m,i < n,pl < 1152921504606846976,bT = bT,0 + i * 96 = i * 96,-8 ≤ lL (x i) pl,lL (x i) pl ≤ 8,aI .add .i64 (Int.ofNat i) 1 = some (iI (i + 1))],.nrm,IK pl bt bd N (i + 1) (dZ F1 c (Ow p (lL (x i) pl)))):=by kernel_rfl
theorem aIZ (pl bt bd N i : Nat) (c : J1) : aY prog (qG prog) f232.ntmps (Aw (assoc [(10,.bool false)])) 40 RU (IK pl bt bd N i c) (IK pl bt bd N i c) = some ([aI .lss .i64 (Int.ofNat i) (Int.ofNat N) = some (.bool false)],.ex 0,IK pl bt bd N i c):=by kernel_rfl
theorem aDE (pl bt bd N i : Nat) (c : J1) : aY prog (qG prog) f232.ntmps (Aw fun _ => none) 40 (cB (cB (cB iE))) (IK pl bt bd N i c) [.slot 4 (.pt 4 0),.row 4 true (bH c)] = some ([],.rt,[.slot 4 (.pt 4 0),.row 4 true (bH c)]):=by kernel_rfl
theorem DK (x p : Nat) : -8 ≤ lL x p ∧ lL x p ≤ 8:=by
 have:=My x p;unfold lL;split <;> omega
structure ClMem1 (w : World) (bt bd bT N b o n m : Nat) (x : Nat → Nat) (pt : Nat → J1) : Prop where
 t : oldOf w bt 0 [.c (jR bT 0 N N)]
 d : oldOf w bd 0 (dO b o n m)
 x : ∀ i,i < n → oldOf w b (o + i * 4) [.q (x i)]
 p : ∀ i,i < N → ∀ k,k < 8 → oldOf w bT (i * 96 + k * 12) (bH (KJ (pt i) (k + 1)))
theorem oldOf.on {base : Nat} {w w' : World} (hb : Below w.heap.size w w') {b o : Nat} {l : List At} (h : oldOf w b o l) : oldOf w' b o l:=⟨Nat.lt_of_lt_of_le h.1 hb.size,iR hb h.1 h.2⟩
theorem ClMem1.on {w w' : World} (hb : Below w.heap.size w w') {bt bd bT N b o n m : Nat} {x : Nat → Nat} {pt : Nat → J1} (h : ClMem1 w bt bd bT N b o n m x pt) : ClMem1 w' bt bd bT N b o n m x pt :=
 ⟨h.t.on hb (base:=0),h.d.on hb (base:=0),fun i hi => (h.x i hi).on hb (base:=0),fun i hi k hk => (h.p i hi k hk).on hb (base:=0)⟩
theorem Us {w0 : World} {bt bd bT N b o n m : Nat} {x : Nat → Nat} {pt : Nat → J1} (h : ClMem1 w0 bt bd bT N b o n m x pt) (hN : N ≤ n) (hn : n < 4611686018427387904) {pl : Nat} (hpl : pl < 1152921504606846976) : Calls prog 232 #[iI pl,iG bt 0,iG bd 0] w0 (fun e w' => e = .returned (.agg (aA (bH (MY pt x pl N))).toArray) ∧ Below w0.heap.size w0 w'):=by
 have hG : cN prog (qG prog) w0.heap.size w0:=(aK _).w _ _;have hT : ∀ n d : Nat,TabOkW prog (fH true) w0.heap.size w0:=fun _ _ => (jE true).w _ _
 refine dS func232 (c:=iE) rfl (args:=[iI pl,iG bt 0,iG bd 0]) (cs:=[.v (.im (iI pl)),.v (.im (iG bt 0)),.v (.im (iG bd 0))]) ⟨rfl,rfl,rfl,trivial⟩ (Nat.le_of_ble_eq_true (by kernel_rfl)) fun a w' hA => ?_
 rw [aDF];refine wp_seq (aC aG hT hG (aQR pl bt bd) trivial hA fun a w' hA => ?_);refine wp_seq (aC aG hT hG (aQQ pl bt bd) trivial hA fun a w' hA => ?_);refine wp_seq (wp_seq (aC aG hT (rM (x:=aIX (oldOf w0) bT N b o n m 0) rfl rfl) (aQP (oldOf w0) pl bt bd bT N b o n m) ⟨h.t,trivial⟩ hA fun a w' hA => ?_));refine wp_block ?_;refine jV aG (fun i => IK pl bt bd N i (MY pt x pl i)) N (fun i hi => ?_) (.ex 0) (by simp) (IK pl bt bd N N (MY pt x pl N)) ?_ hA fun a w' hA => ?_
 ·refine ⟨_,_,_,_,rM (x:=aIX (oldOf w0) bT N b o n m i) rfl rfl,fun _ _ => ?_,aQS (oldOf w0) pl bt bd bT N b o n m i x (pt i) (MY pt x pl i),bX hi,h.t,rfl,hi,h.d,rfl,rfl,rfl,rfl,rfl,by omega,hpl,rfl,by omega,(DK _ _).1,(DK _ _).2,kQ (k:=1) (by omega),trivial⟩;refine TabOkW.add (TabOkW.add ((jE true).w _ _) func234 (by kernel_rfl) (by kernel_rfl) fun w hw => ?_) func233 (by kernel_rfl) (by kernel_rfl) fun w hw => ?_
  ·exact aCI fun j hj => (h.x j hj).on hw (base:=0)
  ·exact aCy fun k hk => (h.p i hi k hk).on hw (base:=0)
 ·exact ⟨_,_,_,_,hG,hT,aIZ pl bt bd N N _,eI (Nat.le_refl _),trivial⟩
 ·show (cB (cB (cB iE))).wp _ _ _ _;exact aC aG hT hG (aDE pl bt bd N N _) trivial hA fun a w' hA => eJ (l:=[.fl (bH (MY pt x pl N))]) (r:=.one (.fl (bH (MY pt x pl N)))) (by kernel_rfl) (by kernel_rfl) hA
def Tg (D : Nat → J1) (PL : Nat) : Nat → J1
 | 0 => (F1.zero,F1.zero,F1.zero)
 | i + 1 => dZ F1 (cH F1 (cH F1 (cH F1 (cH F1 (Tg D PL i))))) (D (PL - 1 - i))
def II (bt bd : Nat) : Value:=.func (.func 232) #[] #[iG bt 0,iG bd 0]
def FO (bt bd b o n m PL i : Nat) (c : J1) : List Fact:=[.slot 1 (.im (II bt bd)),.slot 2 (.pt 2 0),.row 2 true (dO b o n m),.slot 4 (.pt 4 0),.row 4 true (bH (F1.zero,F1.zero,F1.zero)),.slot 5 (.pt 5 0),.row 5 true (bH c),.slot 6 (.im (iI PL)),.slot 10 (.im (iI PL)),.slot 11 (.im (iI i))]
def aVf (bt bd : Nat) (D : Nat → J1) : kZ
 | [.v (.im (.int .i64 (.ofNat p))),.v (.im (.pointer (some ⟨b1,0,.none⟩))),.v (.im (.pointer (some ⟨b2,0,.none⟩)))] => some ([b1 = bt,b2 = bd,p < 1152921504606846976],.one (.fl (bH (D p))))
 | _ => none
def gPl (b o n m PL : Nat) : kZ
 | [.v (.fl [.c (.slice (some ⟨b',o',.none⟩) n' m'),.c (.int .i64 (.ofNat 4))])] => some ([b' = b,o' = o,n' = n,m' = m],.one (.im (iI PL)))
 | _ => none
def aXN (bt bd b o n m PL : Nat) (D : Nat → J1) : Tab:=((fH true).add 253 (gPl b o n m PL)).add 232 (aVf bt bd D)
def fV : Code:=(f231.body).getD .skip
def PN : Code:=pO (pO (cB (cA (cB (cB (cB fV))))))
theorem aAD : fV = .seq (cA fV) (.seq (cA (cB fV)) (.seq (cA (cB (cB fV))) (.seq (.seq (cA (cA (cB (cB (cB fV))))) (.block 0 (.loop PN))) (cB (cB (cB (cB fV))))))):=by kernel_rfl
def XU (bt bd b o n m PL : Nat) (D : Nat → J1) (num : Nat → Option Value) (_ : Nat) : Cfg:=⟨fun _ => aXN bt bd b o n m PL D,fun _ => true,num⟩
def aNG (bt bd b o n m : Nat) : List Fact:=[.slot 1 (.im (II bt bd)),.slot 2 (.pt 2 0),.row 2 true (dO b o n m),.slot 4 (.pt 4 0),.row 4 true (bH (F1.zero,F1.zero,F1.zero))]
def aNE (bt bd b o n m : Nat) : List Fact:=[.slot 1 (.im (II bt bd)),.slot 2 (.pt 2 0),.row 2 true (dO b o n m),.slot 4 (.pt 4 0),.row 4 true (bH (F1.zero,F1.zero,F1.zero)),.slot 5 (.pt 5 0),.row 5 true (bH (F1.zero,F1.zero,F1.zero))]
def aAz (bt bd b o n m PL : Nat) : List Fact:=[.slot 1 (.im (II bt bd)),.slot 2 (.pt 2 0),.row 2 true (dO b o n m),.slot 4 (.pt 4 0),.row 4 true (bH (F1.zero,F1.zero,F1.zero)),.slot 5 (.pt 5 0),.row 5 true (bH (F1.zero,F1.zero,F1.zero)),.slot 6 (.im (iI PL))]
theorem aNP (bt bd b o n m PL : Nat) (D : Nat → J1) : aY prog (qG prog) f231.ntmps (XU bt bd b o n m PL D fun _ => none) 40 (cA fV) (kV 0 [.v (.fl (dO b o n m)),.v (.im (II bt bd))]) (aNG bt bd b o n m) = some ([],.nrm,aNG bt bd b o n m):=by kernel_rfl
theorem aNO (bt bd b o n m PL : Nat) (D : Nat → J1) : aY prog (qG prog) f231.ntmps (XU bt bd b o n m PL D fun _ => none) 40 (cA (cB fV)) (aNG bt bd b o n m) (aNE bt bd b o n m) = some ([],.nrm,aNE bt bd b o n m):=by kernel_rfl
theorem aNN (bt bd b o n m PL : Nat) (D : Nat → J1) : aY prog (qG prog) f231.ntmps (XU bt bd b o n m PL D fun _ => none) 40 (cA (cB (cB fV))) (aNE bt bd b o n m) (aAz bt bd b o n m PL) = some ([b = b,o = o,n = n,m = m],.nrm,aAz bt bd b o n m PL):=by kernel_rfl
theorem aNM (bt bd b o n m PL : Nat) (D : Nat → J1) : aY prog (qG prog) f231.ntmps (XU bt bd b o n m PL D fun _ => none) 40 (cA (cA (cB (cB (cB fV))))) (aAz bt bd b o n m PL) (FO bt bd b o n m PL 0 (F1.zero,F1.zero,F1.zero)) = some ([],.nrm,FO bt bd b o n m PL 0 (F1.zero,F1.zero,F1.zero)):=by kernel_rfl
theorem aNQ (bt bd b o n m PL i : Nat) (D : Nat → J1) (c : J1) : aY prog (qG prog) f231.ntmps (XU bt bd b o n m PL D (assoc [(12,.bool true),(24,iI (PL - 1)),(26,iI (PL - 1 - i)),(29,iI (i + 1))])) 60 PN (FO bt bd b o n m PL i c) (FO bt bd b o n m PL (i + 1) (dZ F1 (cH F1 (cH F1 (cH F1 (cH F1 c)))) (D (PL - 1 - i)))) = some ([aI .lss .i64 (Int.ofNat i) (Int.ofNat PL) = some (.bool true),aI .sub .i64 (Int.ofNat PL) 1 = some (iI (PL - 1)),aI .sub .i64 (Int.ofNat (PL - 1)) (Int.ofNat i) = some (iI (PL - 1 - i)),bt = bt,bd = bd,PL - 1 - i < 1152921504606846976,aI .add .i64 (Int.ofNat i) 1 = some (iI (i + 1))],.nrm,FO bt bd b o n m PL (i + 1) (dZ F1 (cH F1 (cH F1 (cH F1 (cH F1 c)))) (D (PL - 1 - i)))):=by kernel_rfl
theorem aGX (bt bd b o n m PL i : Nat) (D : Nat → J1) (c : J1) : aY prog (qG prog) f231.ntmps (XU bt bd b o n m PL D (assoc [(12,.bool false)])) 40 PN (FO bt bd b o n m PL i c) (FO bt bd b o n m PL i c) = some ([aI .lss .i64 (Int.ofNat i) (Int.ofNat PL) = some (.bool false)],.ex 0,FO bt bd b o n m PL i c):=by kernel_rfl
theorem aAC (bt bd b o n m PL i : Nat) (D : Nat → J1) (c : J1) : aY prog (qG prog) f231.ntmps (XU bt bd b o n m PL D fun _ => none) 40 (cB (cB (cB (cB fV)))) (FO bt bd b o n m PL i c) [.slot 4 (.pt 4 0),.row 4 true (bH c)] = some ([],.rt,[.slot 4 (.pt 4 0),.row 4 true (bH c)]):=by kernel_rfl
theorem Tf {w0 : World} {bt bd bT N b o n m : Nat} {x : Nat → Nat} {pt : Nat → J1} (h : ClMem1 w0 bt bd bT N b o n m x pt) (hN : N ≤ n) (hn : n < 4611686018427387904) : Calls prog 231 #[.agg (aA (dO b o n m)).toArray,II bt bd] w0 (fun e w' => e = .returned (.agg (aA (bH (Tg (fun p => MY pt x p N) (mD x n / 4 + 1) (mD x n / 4 + 1)))).toArray) ∧ Below w0.heap.size w0 w'):=by
 have hG : cN prog (qG prog) w0.heap.size w0:=(aK _).w _ _;have hL:=QA x n;generalize hPL : mD x n / 4 + 1 = PL;have hPL' : PL < 1000:=by omega
 have hT : ∀ num,∀ n' d : Nat,TabOkW prog ((XU bt bd b o n m PL (fun p => MY pt x p N) num n').T d) w0.heap.size w0:=fun num _ _ => by
  refine TabOkW.add (TabOkW.add ((jE true).w _ _) func253 (by kernel_rfl) (by kernel_rfl) fun w hw cs pre r hg hq args ha => ?_) func232 (by kernel_rfl) (by kernel_rfl) fun w hw cs pre r hg hq args ha => ?_
  ·unfold gPl at hg;split at hg
   ·cases hg;obtain ⟨rfl,rfl,rfl,rfl,_⟩:=hq;rw [BR ha,← hPL];exact xB _ _ _ _ x (fun j hj => (h.x j hj).on hw (base:=0)) hn
   ·cases hg
  ·unfold aVf at hg;split at hg
   ·rename_i p b1 b2;cases hg;obtain ⟨rfl,rfl,hp,_⟩:=hq
    match args,ha with
    | [u,v,t],ha =>
     have e1 : u = iI p:=ha.1;have e2 : v = iG b1 0:=ha.2.1;have e3 : t = iG b2 0:=ha.2.2.1;subst e1; subst e2; subst e3;exact Us (h.on hw) hN hn hp
    | [],ha => exact ha.elim
    | [_],ha => exact ha.2.elim
    | [_,_],ha => exact ha.2.2.elim
    | _ :: _ :: _ :: _ :: _,ha => exact ha.2.2.2.elim
   ·cases hg
 refine dS func231 (c:=fV) rfl (args:=[.agg (aA (dO b o n m)).toArray,II bt bd]) (cs:=[.v (.fl (dO b o n m)),.v (.im (II bt bd))]) ⟨rfl,rfl,trivial⟩ (Nat.le_of_ble_eq_true (by kernel_rfl)) fun a w' hA => ?_
 rw [aAD];refine wp_seq (aC aG (hT _) hG (aNP bt bd b o n m PL _) trivial hA fun a w' hA => ?_);refine wp_seq (aC aG (hT _) hG (aNO bt bd b o n m PL _) trivial hA fun a w' hA => ?_);refine wp_seq (aC aG (hT _) hG (aNN bt bd b o n m PL _) ⟨rfl,rfl,rfl,rfl,trivial⟩ hA fun a w' hA => ?_);refine wp_seq (wp_seq (aC aG (hT _) hG (aNM bt bd b o n m PL _) trivial hA fun a w' hA => ?_));refine wp_block ?_;refine jV aG (fun i => FO bt bd b o n m PL i (Tg (fun p => MY pt x p N) PL i)) PL (fun i hi => ?_) (.ex 0) (by simp) (FO bt bd b o n m PL PL (Tg (fun p => MY pt x p N) PL PL)) ?_ hA fun a w' hA => ?_
 ·exact ⟨_,_,_,_,hG,hT _,aNQ bt bd b o n m PL i _ (Tg (fun p => MY pt x p N) PL i),bX hi,uK (k:=1) (by omega) (by omega),uK (by omega) (by omega),rfl,rfl,by omega,kQ (k:=1) (by omega),trivial⟩
 ·exact ⟨_,_,_,_,hG,hT _,aGX bt bd b o n m PL PL _ _,eI (Nat.le_refl _),trivial⟩
 ·show (cB (cB (cB (cB fV)))).wp _ _ _ _;exact aC aG (hT _) hG (aAC bt bd b o n m PL PL _ _) trivial hA fun a w' hA => eJ (l:=[.fl (bH (Tg (fun p => MY pt x p N) PL PL))]) (r:=.one (.fl (bH (Tg (fun p => MY pt x p N) PL PL)))) (by kernel_rfl) (by kernel_rfl) hA
def KH (p : J2) : Nat → J2
 | 0 => (F2.zero,F2.zero,F2.zero)
 | k + 1 => dZ F2 (KH p k) p
def Ov (p : J2) : Int → J2
 | .ofNat 0 => (F2.zero,F2.zero,F2.zero)
 | .ofNat (k + 1) => KH p (k + 1)
 | .negSucc k => sG F2 (KH p (k + 1))
def Ox (old : Nat → Nat → List At → Prop) (k : Nat) (h : Int) (q : J2) : Ext:={ TO old with idx:=assoc [(12,k),(22,k)],ld:=assoc [(13,bG q),(23,bG q)],gen:=assoc [(19,.int .i64 h)] }
theorem Pv (old : Nat → Nat → List At → Prop) (b off k : Nat) (g h : Int) (q : J2) : aX prog (qX prog (Ox old k h q)) (fun _ => ⟨fun s => fH true,fun s => true,assoc [(7,.bool true),(10,iI k)]⟩) f242 80 [.v (.im (iG b off)),.v (.im (.int .i64 g))] = some ([aI .gtr .i64 g 0 = some (.bool true),aI .sub .i64 g 1 = some (iI k),Int.ofNat k = Int.ofNat k,k < 8,old b (off + k * 24) (bG q),cS (bG q) = 24],.one (.fl (bG q))):=by kernel_rfl
theorem Pw (old : Nat → Nat → List At → Prop) (b off k : Nat) (g h : Int) (q : J2) : aX prog (qX prog (Ox old k h q)) (fun _ => ⟨fun s => fH true,fun s => true,assoc [(7,.bool false),(16,.bool true),(20,iI k)]⟩) f242 80 [.v (.im (iG b off)),.v (.im (.int .i64 g))] = some ([aI .gtr .i64 g 0 = some (.bool false),aI .lss .i64 g 0 = some (.bool true),(∀ W : World,(Op.unary .neg (.int .i64 g)).run prog W = .ok (.int .i64 h) W),aI .sub .i64 h 1 = some (iI k),Int.ofNat k = Int.ofNat k,k < 8,old b (off + k * 24) (bG q),cS (bG q) = 24],.one (.fl (bG (sG F2 q)))):=by kernel_rfl
theorem Pu (old : Nat → Nat → List At → Prop) (b off k : Nat) (g h : Int) (q : J2) : aX prog (qX prog (Ox old k h q)) (fun _ => ⟨fun s => fH true,fun s => true,assoc [(7,.bool false),(16,.bool false)]⟩) f242 80 [.v (.im (iG b off)),.v (.im (.int .i64 g))] = some ([aI .gtr .i64 g 0 = some (.bool false),aI .lss .i64 g 0 = some (.bool false)],.one (.fl (bG (F2.zero,F2.zero,F2.zero)))):=by kernel_rfl
theorem Bf {w0 : World} (b off : Nat) (g : Int) (p : J2) (hp : ∀ k,k < 8 → oldOf w0 b (off + k * 24) (bG (KH p (k + 1)))) (h1 : -8 ≤ g) (h2 : g ≤ 8) : Calls prog 242 #[iG b off,.int .i64 g] w0 (fun e w' => e = .returned (.agg (aA (bG (Ov p g))).toArray) ∧ Below w0.heap.size w0 w'):=by
 have hT : ∀ n d : Nat,TabOkW prog (fH true) w0.heap.size w0:=fun _ _ => (jE true).w _ _
 have ha : bR w0 [.v (.im (iG b off)),.v (.im (.int .i64 g))] [iG b off,.int .i64 g]:=⟨rfl,rfl,trivial⟩
 match g,h1,h2,ha with
 | .ofNat 0,_,_,ha => exact bD aG hT (rM (x:=Ox (oldOf w0) 0 0 (F2.zero,F2.zero,F2.zero)) rfl rfl) func242 (Pu (oldOf w0) b off 0 _ 0 (F2.zero,F2.zero,F2.zero)) ⟨rfl,rfl,trivial⟩ ha
 | .ofNat (k + 1),_,h2,ha =>
  have hk : k < 8:=by have h2' : ((k + 1 : Nat) : Int) ≤ 8:=h2; omega
  exact bD aG hT (rM (x:=Ox (oldOf w0) k 0 (KH p (k + 1))) rfl rfl) func242 (Pv (oldOf w0) b off k _ 0 (KH p (k + 1))) ⟨by rw [show (0 : Int) = Int.ofNat 0 from rfl,BB,decide_eq_true (by omega)],uK (k:=1) (by omega) (by omega),rfl,hk,hp k hk,rfl,trivial⟩ ha
 | .negSucc k,h1,_,ha =>
  have hk : k < 8:=by have h1' : -8 ≤ -((k : Int) + 1):=h1; omega
  refine bD aG hT (rM (x:=Ox (oldOf w0) k (Int.ofNat (k + 1)) (KH p (k + 1))) rfl rfl) func242 (Pw (oldOf w0) b off k _ (Int.ofNat (k + 1)) (KH p (k + 1))) ⟨?_,?_,?_,uK (k:=1) (by omega) (by omega),rfl,hk,hp k hk,rfl,trivial⟩ ha
  ·show some (Value.bool (decide (Int.negSucc k > 0))) = _;rw [decide_eq_false (by omega)]
  ·show some (Value.bool (decide (Int.negSucc k < 0))) = _;rw [decide_eq_true (by omega)]
  ·intro W;have e : IntKind.i64.wrap (0 - Int.negSucc k) = Int.ofNat (k + 1):=by rw [IntKind.wrap_i64]; show _ = ((k + 1 : Nat) : Int); omega
   show (Op.intArith .sub .i64 0 (Int.negSucc k)).run prog W = _;simp only [Op.intArith,Sem.run_pure,e]
def aCx (bT i : Nat) (p : J2) : kZ
 | [.v (.im (.pointer (some ⟨b',off,.none⟩))),.v (.im (.int .i64 g))] => some ([b' = bT,off = i * 192,-8 ≤ g,g ≤ 8],.one (.fl (bG (Ov p g))))
 | _ => none
theorem aCw {w : World} {bT i : Nat} {p : J2} (hp : ∀ k,k < 8 → oldOf w bT (i * 192 + k * 24) (bG (KH p (k + 1)))) : ∀ cs pre r,aCx bT i p cs = some (pre,r) → aZ pre → ∀ (args : List Value),bR w cs args → Good prog 242 r args w:=by
 intro cs pre r hg hq args ha;unfold aCx at hg;split at hg
 ·rename_i b' off g;cases hg;obtain ⟨rfl,rfl,h1,h2,_⟩:=hq
  match args,ha with
  | [u,v],ha =>
   have e1 : u = iG b' (i * 192):=ha.1;have e2 : v = .int .i64 g:=ha.2.1;subst e1; subst e2;exact Bf b' _ g p hp h1 h2
  | [],ha => exact ha.elim
  | [_],ha => exact ha.2.elim
  | _ :: _ :: _ :: _,ha => exact ha.2.2.elim
 ·cases hg
def MX (pt : Nat → J2) (x : Nat → Nat) (p : Nat) : Nat → J2
 | 0 => (F2.zero,F2.zero,F2.zero)
 | i + 1 => dZ F2 (MX pt x p i) (Ov (pt i) (lL (x i) p))
def aIW (old : Nat → Nat → List At → Prop) (bT N b o n m i : Nat) : Ext:={ TO old with idx:=assoc [(15,i)],ld:=assoc [(16,dO b o n m)],gen:=assoc [(7,jR bT 0 N N),(13,jR bT 0 N N)] }
def IJ (pl bt bd N i : Nat) (c : J2) : List Fact:=[.slot 0 (.im (iI pl)),.slot 1 (.im (iG bt 0)),.slot 2 (.im (iG bd 0)),.slot 4 (.pt 4 0),.row 4 true (bG (F2.zero,F2.zero,F2.zero)),.slot 5 (.pt 5 0),.row 5 true (bG c),.slot 8 (.im (iI N)),.slot 9 (.im (iI i))]
def aYQ (bT b o n m : Nat) (x : Nat → Nat) (i : Nat) (p : J2) : Tab:=((fH true).add 234 (gAt b o n m x)).add 242 (aCx bT i p)
def iD : Code:=(f241.body).getD .skip
def RT : Code:=pO (pO (cB (cA (cB (cB iD)))))
theorem aDD : iD = .seq (cA iD) (.seq (cA (cB iD)) (.seq (.seq (cA (cA (cB (cB iD)))) (.block 0 (.loop RT))) (cB (cB (cB iD))))):=by kernel_rfl
def aQJ (pl bt bd : Nat) : List Fact:=[.slot 0 (.im (iI pl)),.slot 1 (.im (iG bt 0)),.slot 2 (.im (iG bd 0)),.slot 4 (.pt 4 0),.row 4 true (bG (F2.zero,F2.zero,F2.zero))]
def aQH (pl bt bd : Nat) : List Fact:=[.slot 0 (.im (iI pl)),.slot 1 (.im (iG bt 0)),.slot 2 (.im (iG bd 0)),.slot 4 (.pt 4 0),.row 4 true (bG (F2.zero,F2.zero,F2.zero)),.slot 5 (.pt 5 0),.row 5 true (bG (F2.zero,F2.zero,F2.zero))]
theorem aQN (pl bt bd : Nat) : aY prog (qG prog) f241.ntmps (Aw fun _ => none) 40 (cA iD) (kV 0 [.v (.im (iI pl)),.v (.im (iG bt 0)),.v (.im (iG bd 0))]) (aQJ pl bt bd) = some ([],.nrm,aQJ pl bt bd):=by kernel_rfl
theorem aQM (pl bt bd : Nat) : aY prog (qG prog) f241.ntmps (Aw fun _ => none) 40 (cA (cB iD)) (aQJ pl bt bd) (aQH pl bt bd) = some ([],.nrm,aQH pl bt bd):=by kernel_rfl
theorem aQL (old : Nat → Nat → List At → Prop) (pl bt bd bT N b o n m : Nat) : aY prog (qX prog (aIW old bT N b o n m 0)) f241.ntmps (Aw fun _ => none) 40 (cA (cA (cB (cB iD)))) (aQH pl bt bd) (IJ pl bt bd N 0 (F2.zero,F2.zero,F2.zero)) = some ([old bt 0 [.c (jR bT 0 N N)]],.nrm,IJ pl bt bd N 0 (F2.zero,F2.zero,F2.zero)):=by kernel_rfl
theorem aQO (old : Nat → Nat → List At → Prop) (pl bt bd bT N b o n m i : Nat) (x : Nat → Nat) (p c : J2) : aY prog (qX prog (aIW old bT N b o n m i)) f241.ntmps (fun _ => ⟨fun _ => aYQ bT b o n m x i p,fun _ => true,assoc [(10,.bool true),(22,iI (i + 1))]⟩) 40 RT (IJ pl bt bd N i c) (IJ pl bt bd N (i + 1) (dZ F2 c (Ov p (lL (x i) pl)))) = some ([aI .lss .i64 (Int.ofNat i) (Int.ofNat N) = some (.bool true),old bt 0 [.c (jR bT 0 N N)],Int.ofNat i = Int.ofNat i,i < N,old bd 0 (dO b o n m),cS (dO b o n m) = 2,b = b,o = o,n = n,m = m,i < n,pl < 1152921504606846976,bT = bT,0 + i * 192 = i * 192,-8 ≤ lL (x i) pl,lL (x i) pl ≤ 8,aI .add .i64 (Int.ofNat i) 1 = some (iI (i + 1))],.nrm,IJ pl bt bd N (i + 1) (dZ F2 c (Ov p (lL (x i) pl)))):=by kernel_rfl
theorem aIY (pl bt bd N i : Nat) (c : J2) : aY prog (qG prog) f241.ntmps (Aw (assoc [(10,.bool false)])) 40 RT (IJ pl bt bd N i c) (IJ pl bt bd N i c) = some ([aI .lss .i64 (Int.ofNat i) (Int.ofNat N) = some (.bool false)],.ex 0,IJ pl bt bd N i c):=by kernel_rfl
theorem aDC (pl bt bd N i : Nat) (c : J2) : aY prog (qG prog) f241.ntmps (Aw fun _ => none) 40 (cB (cB (cB iD))) (IJ pl bt bd N i c) [.slot 4 (.pt 4 0),.row 4 true (bG c)] = some ([],.rt,[.slot 4 (.pt 4 0),.row 4 true (bG c)]):=by kernel_rfl
structure ClMem2 (w : World) (bt bd bT N b o n m : Nat) (x : Nat → Nat) (pt : Nat → J2) : Prop where
 t : oldOf w bt 0 [.c (jR bT 0 N N)]
 d : oldOf w bd 0 (dO b o n m)
 x : ∀ i,i < n → oldOf w b (o + i * 4) [.q (x i)]
 p : ∀ i,i < N → ∀ k,k < 8 → oldOf w bT (i * 192 + k * 24) (bG (KH (pt i) (k + 1)))
theorem ClMem2.on {w w' : World} (hb : Below w.heap.size w w') {bt bd bT N b o n m : Nat} {x : Nat → Nat} {pt : Nat → J2} (h : ClMem2 w bt bd bT N b o n m x pt) : ClMem2 w' bt bd bT N b o n m x pt :=
 ⟨h.t.on hb (base:=0),h.d.on hb (base:=0),fun i hi => (h.x i hi).on hb (base:=0),fun i hi k hk => (h.p i hi k hk).on hb (base:=0)⟩
theorem Ur {w0 : World} {bt bd bT N b o n m : Nat} {x : Nat → Nat} {pt : Nat → J2} (h : ClMem2 w0 bt bd bT N b o n m x pt) (hN : N ≤ n) (hn : n < 4611686018427387904) {pl : Nat} (hpl : pl < 1152921504606846976) : Calls prog 241 #[iI pl,iG bt 0,iG bd 0] w0 (fun e w' => e = .returned (.agg (aA (bG (MX pt x pl N))).toArray) ∧ Below w0.heap.size w0 w'):=by
 have hG : cN prog (qG prog) w0.heap.size w0:=(aK _).w _ _;have hT : ∀ n d : Nat,TabOkW prog (fH true) w0.heap.size w0:=fun _ _ => (jE true).w _ _
 refine dS func241 (c:=iD) rfl (args:=[iI pl,iG bt 0,iG bd 0]) (cs:=[.v (.im (iI pl)),.v (.im (iG bt 0)),.v (.im (iG bd 0))]) ⟨rfl,rfl,rfl,trivial⟩ (Nat.le_of_ble_eq_true (by kernel_rfl)) fun a w' hA => ?_
 rw [aDD];refine wp_seq (aC aG hT hG (aQN pl bt bd) trivial hA fun a w' hA => ?_);refine wp_seq (aC aG hT hG (aQM pl bt bd) trivial hA fun a w' hA => ?_);refine wp_seq (wp_seq (aC aG hT (rM (x:=aIW (oldOf w0) bT N b o n m 0) rfl rfl) (aQL (oldOf w0) pl bt bd bT N b o n m) ⟨h.t,trivial⟩ hA fun a w' hA => ?_));refine wp_block ?_;refine jV aG (fun i => IJ pl bt bd N i (MX pt x pl i)) N (fun i hi => ?_) (.ex 0) (by simp) (IJ pl bt bd N N (MX pt x pl N)) ?_ hA fun a w' hA => ?_
 ·refine ⟨_,_,_,_,rM (x:=aIW (oldOf w0) bT N b o n m i) rfl rfl,fun _ _ => ?_,aQO (oldOf w0) pl bt bd bT N b o n m i x (pt i) (MX pt x pl i),bX hi,h.t,rfl,hi,h.d,rfl,rfl,rfl,rfl,rfl,by omega,hpl,rfl,by omega,(DK _ _).1,(DK _ _).2,kQ (k:=1) (by omega),trivial⟩;refine TabOkW.add (TabOkW.add ((jE true).w _ _) func234 (by kernel_rfl) (by kernel_rfl) fun w hw => ?_) func242 (by kernel_rfl) (by kernel_rfl) fun w hw => ?_
  ·exact aCI fun j hj => (h.x j hj).on hw (base:=0)
  ·exact aCw fun k hk => (h.p i hi k hk).on hw (base:=0)
 ·exact ⟨_,_,_,_,hG,hT,aIY pl bt bd N N _,eI (Nat.le_refl _),trivial⟩
 ·show (cB (cB (cB iD))).wp _ _ _ _;exact aC aG hT hG (aDC pl bt bd N N _) trivial hA fun a w' hA => eJ (l:=[.fl (bG (MX pt x pl N))]) (r:=.one (.fl (bG (MX pt x pl N)))) (by kernel_rfl) (by kernel_rfl) hA
def Te (D : Nat → J2) (PL : Nat) : Nat → J2
 | 0 => (F2.zero,F2.zero,F2.zero)
 | i + 1 => dZ F2 (cH F2 (cH F2 (cH F2 (cH F2 (Te D PL i))))) (D (PL - 1 - i))
def IH (bt bd : Nat) : Value:=.func (.func 241) #[] #[iG bt 0,iG bd 0]
def FN (bt bd b o n m PL i : Nat) (c : J2) : List Fact:=[.slot 1 (.im (IH bt bd)),.slot 2 (.pt 2 0),.row 2 true (dO b o n m),.slot 4 (.pt 4 0),.row 4 true (bG (F2.zero,F2.zero,F2.zero)),.slot 5 (.pt 5 0),.row 5 true (bG c),.slot 6 (.im (iI PL)),.slot 10 (.im (iI PL)),.slot 11 (.im (iI i))]
def aVe (bt bd : Nat) (D : Nat → J2) : kZ
 | [.v (.im (.int .i64 (.ofNat p))),.v (.im (.pointer (some ⟨b1,0,.none⟩))),.v (.im (.pointer (some ⟨b2,0,.none⟩)))] => some ([b1 = bt,b2 = bd,p < 1152921504606846976],.one (.fl (bG (D p))))
 | _ => none
def aXM (bt bd b o n m PL : Nat) (D : Nat → J2) : Tab:=((fH true).add 253 (gPl b o n m PL)).add 241 (aVe bt bd D)
def fU : Code:=(f240.body).getD .skip
def PM : Code:=pO (pO (cB (cA (cB (cB (cB fU))))))
theorem aAB : fU = .seq (cA fU) (.seq (cA (cB fU)) (.seq (cA (cB (cB fU))) (.seq (.seq (cA (cA (cB (cB (cB fU))))) (.block 0 (.loop PM))) (cB (cB (cB (cB fU))))))):=by kernel_rfl
def XT (bt bd b o n m PL : Nat) (D : Nat → J2) (num : Nat → Option Value) (_ : Nat) : Cfg:=⟨fun _ => aXM bt bd b o n m PL D,fun _ => true,num⟩
def aNF (bt bd b o n m : Nat) : List Fact:=[.slot 1 (.im (IH bt bd)),.slot 2 (.pt 2 0),.row 2 true (dO b o n m),.slot 4 (.pt 4 0),.row 4 true (bG (F2.zero,F2.zero,F2.zero))]
def aND (bt bd b o n m : Nat) : List Fact:=[.slot 1 (.im (IH bt bd)),.slot 2 (.pt 2 0),.row 2 true (dO b o n m),.slot 4 (.pt 4 0),.row 4 true (bG (F2.zero,F2.zero,F2.zero)),.slot 5 (.pt 5 0),.row 5 true (bG (F2.zero,F2.zero,F2.zero))]
def aAy (bt bd b o n m PL : Nat) : List Fact:=[.slot 1 (.im (IH bt bd)),.slot 2 (.pt 2 0),.row 2 true (dO b o n m),.slot 4 (.pt 4 0),.row 4 true (bG (F2.zero,F2.zero,F2.zero)),.slot 5 (.pt 5 0),.row 5 true (bG (F2.zero,F2.zero,F2.zero)),.slot 6 (.im (iI PL))]
theorem aNK (bt bd b o n m PL : Nat) (D : Nat → J2) : aY prog (qG prog) f240.ntmps (XT bt bd b o n m PL D fun _ => none) 40 (cA fU) (kV 0 [.v (.fl (dO b o n m)),.v (.im (IH bt bd))]) (aNF bt bd b o n m) = some ([],.nrm,aNF bt bd b o n m):=by kernel_rfl
theorem aNJ (bt bd b o n m PL : Nat) (D : Nat → J2) : aY prog (qG prog) f240.ntmps (XT bt bd b o n m PL D fun _ => none) 40 (cA (cB fU)) (aNF bt bd b o n m) (aND bt bd b o n m) = some ([],.nrm,aND bt bd b o n m):=by kernel_rfl
theorem aNI (bt bd b o n m PL : Nat) (D : Nat → J2) : aY prog (qG prog) f240.ntmps (XT bt bd b o n m PL D fun _ => none) 40 (cA (cB (cB fU))) (aND bt bd b o n m) (aAy bt bd b o n m PL) = some ([b = b,o = o,n = n,m = m],.nrm,aAy bt bd b o n m PL):=by kernel_rfl
theorem aNH (bt bd b o n m PL : Nat) (D : Nat → J2) : aY prog (qG prog) f240.ntmps (XT bt bd b o n m PL D fun _ => none) 40 (cA (cA (cB (cB (cB fU))))) (aAy bt bd b o n m PL) (FN bt bd b o n m PL 0 (F2.zero,F2.zero,F2.zero)) = some ([],.nrm,FN bt bd b o n m PL 0 (F2.zero,F2.zero,F2.zero)):=by kernel_rfl
theorem aNL (bt bd b o n m PL i : Nat) (D : Nat → J2) (c : J2) : aY prog (qG prog) f240.ntmps (XT bt bd b o n m PL D (assoc [(12,.bool true),(24,iI (PL - 1)),(26,iI (PL - 1 - i)),(29,iI (i + 1))])) 60 PM (FN bt bd b o n m PL i c) (FN bt bd b o n m PL (i + 1) (dZ F2 (cH F2 (cH F2 (cH F2 (cH F2 c)))) (D (PL - 1 - i)))) = some ([aI .lss .i64 (Int.ofNat i) (Int.ofNat PL) = some (.bool true),aI .sub .i64 (Int.ofNat PL) 1 = some (iI (PL - 1)),aI .sub .i64 (Int.ofNat (PL - 1)) (Int.ofNat i) = some (iI (PL - 1 - i)),bt = bt,bd = bd,PL - 1 - i < 1152921504606846976,aI .add .i64 (Int.ofNat i) 1 = some (iI (i + 1))],.nrm,FN bt bd b o n m PL (i + 1) (dZ F2 (cH F2 (cH F2 (cH F2 (cH F2 c)))) (D (PL - 1 - i)))):=by kernel_rfl
theorem aGW (bt bd b o n m PL i : Nat) (D : Nat → J2) (c : J2) : aY prog (qG prog) f240.ntmps (XT bt bd b o n m PL D (assoc [(12,.bool false)])) 40 PM (FN bt bd b o n m PL i c) (FN bt bd b o n m PL i c) = some ([aI .lss .i64 (Int.ofNat i) (Int.ofNat PL) = some (.bool false)],.ex 0,FN bt bd b o n m PL i c):=by kernel_rfl
theorem aAA (bt bd b o n m PL i : Nat) (D : Nat → J2) (c : J2) : aY prog (qG prog) f240.ntmps (XT bt bd b o n m PL D fun _ => none) 40 (cB (cB (cB (cB fU)))) (FN bt bd b o n m PL i c) [.slot 4 (.pt 4 0),.row 4 true (bG c)] = some ([],.rt,[.slot 4 (.pt 4 0),.row 4 true (bG c)]):=by kernel_rfl
theorem Td {w0 : World} {bt bd bT N b o n m : Nat} {x : Nat → Nat} {pt : Nat → J2} (h : ClMem2 w0 bt bd bT N b o n m x pt) (hN : N ≤ n) (hn : n < 4611686018427387904) : Calls prog 240 #[.agg (aA (dO b o n m)).toArray,IH bt bd] w0 (fun e w' => e = .returned (.agg (aA (bG (Te (fun p => MX pt x p N) (mD x n / 4 + 1) (mD x n / 4 + 1)))).toArray) ∧ Below w0.heap.size w0 w'):=by
 have hG : cN prog (qG prog) w0.heap.size w0:=(aK _).w _ _;have hL:=QA x n;generalize hPL : mD x n / 4 + 1 = PL;have hPL' : PL < 1000:=by omega
 have hT : ∀ num,∀ n' d : Nat,TabOkW prog ((XT bt bd b o n m PL (fun p => MX pt x p N) num n').T d) w0.heap.size w0:=fun num _ _ => by
  refine TabOkW.add (TabOkW.add ((jE true).w _ _) func253 (by kernel_rfl) (by kernel_rfl) fun w hw cs pre r hg hq args ha => ?_) func241 (by kernel_rfl) (by kernel_rfl) fun w hw cs pre r hg hq args ha => ?_
  ·unfold gPl at hg;split at hg
   ·cases hg;obtain ⟨rfl,rfl,rfl,rfl,_⟩:=hq;rw [BR ha,← hPL];exact xB _ _ _ _ x (fun j hj => (h.x j hj).on hw (base:=0)) hn
   ·cases hg
  ·unfold aVe at hg;split at hg
   ·rename_i p b1 b2;cases hg;obtain ⟨rfl,rfl,hp,_⟩:=hq
    match args,ha with
    | [u,v,t],ha =>
     have e1 : u = iI p:=ha.1;have e2 : v = iG b1 0:=ha.2.1;have e3 : t = iG b2 0:=ha.2.2.1;subst e1; subst e2; subst e3;exact Ur (h.on hw) hN hn hp
    | [],ha => exact ha.elim
    | [_],ha => exact ha.2.elim
    | [_,_],ha => exact ha.2.2.elim
    | _ :: _ :: _ :: _ :: _,ha => exact ha.2.2.2.elim
   ·cases hg
 refine dS func240 (c:=fU) rfl (args:=[.agg (aA (dO b o n m)).toArray,IH bt bd]) (cs:=[.v (.fl (dO b o n m)),.v (.im (IH bt bd))]) ⟨rfl,rfl,trivial⟩ (Nat.le_of_ble_eq_true (by kernel_rfl)) fun a w' hA => ?_
 rw [aAB];refine wp_seq (aC aG (hT _) hG (aNK bt bd b o n m PL _) trivial hA fun a w' hA => ?_);refine wp_seq (aC aG (hT _) hG (aNJ bt bd b o n m PL _) trivial hA fun a w' hA => ?_);refine wp_seq (aC aG (hT _) hG (aNI bt bd b o n m PL _) ⟨rfl,rfl,rfl,rfl,trivial⟩ hA fun a w' hA => ?_);refine wp_seq (wp_seq (aC aG (hT _) hG (aNH bt bd b o n m PL _) trivial hA fun a w' hA => ?_));refine wp_block ?_;refine jV aG (fun i => FN bt bd b o n m PL i (Te (fun p => MX pt x p N) PL i)) PL (fun i hi => ?_) (.ex 0) (by simp) (FN bt bd b o n m PL PL (Te (fun p => MX pt x p N) PL PL)) ?_ hA fun a w' hA => ?_
 ·exact ⟨_,_,_,_,hG,hT _,aNL bt bd b o n m PL i _ (Te (fun p => MX pt x p N) PL i),bX hi,uK (k:=1) (by omega) (by omega),uK (by omega) (by omega),rfl,rfl,by omega,kQ (k:=1) (by omega),trivial⟩
 ·exact ⟨_,_,_,_,hG,hT _,aGW bt bd b o n m PL PL _ _,eI (Nat.le_refl _),trivial⟩
 ·show (cB (cB (cB (cB fU)))).wp _ _ _ _;exact aC aG (hT _) hG (aAA bt bd b o n m PL PL _ _) trivial hA fun a w' hA => eJ (l:=[.fl (bG (Te (fun p => MX pt x p N) PL PL))]) (r:=.one (.fl (bG (Te (fun p => MX pt x p N) PL PL)))) (by kernel_rfl) (by kernel_rfl) hA
theorem vZ {P : Program} {id : Nat} {ops : Array Oper} {l : List Nat} (hl : List.range ops.size = l) {Q : Exit → Act → World → Prop} {a : Act} {w : World} (h : wpOps P ops Q l a w) : (Code.region id ops false).wp P Q a w:=wp_region (by rw [hl]; exact h)
def uC : J1:=(F1.zero,F1.zero,F1.zero)
def uU (p : J1) : List At:=bH (KJ p 1) ++ (bH (KJ p 2) ++ (bH (KJ p 3) ++ (bH (KJ p 4) ++ (bH (KJ p 5) ++ (bH (KJ p 6) ++ (bH (KJ p 7) ++ (bH (KJ p 8))))))))
def zT1 : List At:=bH uC ++ (bH uC ++ (bH uC ++ (bH uC ++ (bH uC ++ (bH uC ++ (bH uC ++ (bH uC)))))))
theorem Ir (p : J1) : cS (uU p) = 96:=by kernel_rfl
theorem Vo : cS zT1 = 96:=by kernel_rfl
def uE (p : J1) (k : Nat) : List At:=bH (KJ p (k + 1))
theorem Ww (p : J1) : uU p = cD (uE p) 0 8:=by
 show uU p = uE p 0 ++ (uE p 1 ++ (uE p 2 ++ (uE p 3 ++ (uE p 4 ++ (uE p 5 ++ (uE p 6 ++ (uE p 7 ++ [])))))));rw [List.append_nil];rfl
theorem Xw (p : J1) : aX prog (qG prog) (fun _ => ⟨fun s => fH true,fun s => true,fun _ => none⟩) f230 200 [.v (.fl (bH p))] = some ([],.one (.fl (uU p))):=by kernel_rfl
def jK : Tab:=(fH true).add 230 (g1 Sl fun p => ([],.one (.fl (uU p))))
theorem iC : TabOk prog jK:=(jE true).ad func230 (bJ mO fun p hp args w ha => aB aG (fun _ s => jE _) (aK prog) func230 (Xw p) trivial ha)
def dN : Code:=(f191.body).getD .skip
def SE : Code:=pO (pO (cB (cA (cB (cB dN)))))
theorem aDZ : dN = .seq (cA dN) (.seq (.region 1 (cK (cA (cB dN))) false) (.seq (.seq (cA (cA (cB (cB dN)))) (.block 0 (.loop SE))) (.seq (cA (cB (cB (cB dN)))) (.seq (.region 8 (cK (cA (cB (cB (cB (cB dN)))))) false) .ret)))):=by kernel_rfl
def aRd (LP : List At) (N N' : Nat) (vn : Value) : List Fact:=[.slot 0 (.sl 0 0 N N'),.row 0 false LP,.slot 1 (.im vn),.slot 4 (.pt 4 0),.row 4 true (bH uC)]
def aDX (LP Z : List At) (N N' : Nat) (vn : Value) : List Fact:=[.slot 0 (.sl 0 0 N N'),.row 0 false LP,.slot 1 (.im vn),.slot 4 (.pt 4 0),.row 4 true (bH uC),.slot 11 (.sl 11 0 N N),.row 11 true Z,.slot 5 (.pt 5 0),.row 5 true [.c (.slice none 0 0)]]
def aRb (LP Z : List At) (N N' b : Nat) (vn : Value) : List Fact:=[.at 11 b,.slot 0 (.sl 0 0 N N'),.row 0 false LP,.slot 1 (.im vn),.slot 4 (.pt 4 0),.row 4 true (bH uC),.row 11 true Z,.slot 5 (.pt 5 0),.row 5 true [.c (jR b 0 N N)]]
def IR (LP Z : List At) (N N' b : Nat) (vn : Value) (i : Nat) : List Fact:=[.at 11 b,.slot 0 (.sl 0 0 N N'),.row 0 false LP,.slot 1 (.im vn),.slot 4 (.pt 4 0),.row 4 true (bH uC),.row 11 true Z,.slot 5 (.pt 5 0),.row 5 true [.c (jR b 0 N N)],.slot 12 (.sl 0 0 N N'),.slot 13 (.im (iI N)),.slot 14 (.im (iI i))]
def aDV (Z : List At) (N b bn on n m : Nat) : List Fact:=[.at 11 b,.slot 4 (.pt 4 0),.row 4 true (bH uC),.row 11 true Z,.slot 5 (.pt 5 0),.row 5 true [.c (jR b 0 N N)],.slot 8 (.pt 8 0),.row 8 true (dO bn on n m)]
def CK (Z : List At) (N b b5 b8 bn on n m : Nat) : List Fact:=[.at 5 b5,.at 8 b8,.at 11 b,.slot 4 (.pt 4 0),.row 4 true (bH uC),.row 11 true Z,.row 5 true [.c (jR b 0 N N)],.row 8 true (dO bn on n m),.slot 27 (.fl (dO bn on n m)),.slot 28 (.im (II b5 b8))]
def aDT (num : Nat → Option Value) (_ : Nat) : Cfg:=⟨fun _ => jK,fun _ => true,num⟩
def BP : Cfg:=⟨fun _ => jK,fun _ => true,fun _ => none⟩
theorem aRs (LP : List At) (N N' : Nat) (vn : Value) : aY prog (qG prog) f191.ntmps (aDT fun _ => none) 40 (cA dN) (kV 0 [.s LP N N',.v (.im vn)]) (aRd LP N N' vn) = some ([],.nrm,aRd LP N N' vn):=by kernel_rfl
def aLn (N : Nat) (Z : List At) : Ext:={ TO (fun _ _ _ => False) with mks:=assoc [(11,(N,Z))] }
theorem aRr (LP Z : List At) (N N' : Nat) (vn : Value) : rI prog (qX prog (aLn N Z)) f191.ntmps BP ((cK (cA (cB dN))).extract 0 4) (aRd LP N N' vn) (aDX LP Z N N' vn) = some ([∃ e,∀ w : World,(Instr.makeSlice 266 (iI N) (iI N)).run prog w = .ok (.slice (some ⟨w.heap.size,0,none⟩) N N) (w.alloc (.cells (aA Z).toArray e))],aDX LP Z N N' vn):=by kernel_rfl
theorem aRq (LP Z : List At) (N N' b : Nat) (vn : Value) : rI prog (qG prog) f191.ntmps BP ((cK (cA (cB dN))).extract 4 5) (.slot 11 (.im (jR b 0 N N)) :: .at 11 b :: aDX LP Z N N' vn) (aRb LP Z N N' b vn) = some ([],aRb LP Z N N' b vn):=by kernel_rfl
theorem aRp (LP Z : List At) (N N' b : Nat) (vn : Value) : aY prog (qG prog) f191.ntmps (aDT fun _ => none) 40 (cA (cA (cB (cB dN)))) (aRb LP Z N N' b vn) (IR LP Z N N' b vn 0) = some ([],.nrm,IR LP Z N N' b vn 0):=by kernel_rfl
def aWa (N b i : Nat) (p : J1) (Z' : List At) : Ext:={ TO (fun _ _ _ => False) with idx:=assoc [(17,i),(23,i)],ld:=assoc [(18,bH p)],st:=assoc [(23,Z')],gen:=assoc [(19,jR b 0 N N)],ky:=assoc [(19,11)] }
theorem aRt (LP Z Z' : List At) (N N' b : Nat) (vn : Value) (i : Nat) (p : J1) : aY prog (qX prog (aWa N b i p Z')) f191.ntmps (aDT (assoc [(15,.bool true),(24,iI (i + 1))])) 40 SE (IR LP Z N N' b vn i) (IR LP Z' N N' b vn (i + 1)) = some ([aI .lss .i64 (Int.ofNat i) (Int.ofNat N) = some (.bool true),Int.ofNat i = Int.ofNat i,i < N,fN LP (0 + i * 12) 12 = some (bH p),cellAt [.c (jR b 0 N N)] 0 = some (jR b 0 N N),b = b,Int.ofNat i = Int.ofNat i,i < N,put Z (0 + i * 96) (uU p) = some Z',aI .add .i64 (Int.ofNat i) 1 = some (iI (i + 1))],.nrm,IR LP Z' N N' b vn (i + 1)):=by kernel_rfl
theorem aJf (LP Z : List At) (N N' b : Nat) (vn : Value) (i : Nat) : aY prog (qG prog) f191.ntmps (aDT (assoc [(15,.bool false)])) 40 SE (IR LP Z N N' b vn i) (IR LP Z N N' b vn i) = some ([aI .lss .i64 (Int.ofNat i) (Int.ofNat N) = some (.bool false)],.ex 0,IR LP Z N N' b vn i):=by kernel_rfl
theorem aRo (LP Z : List At) (N N' b bn on n m i : Nat) : aY prog (qG prog) f191.ntmps (aDT fun _ => none) 40 (cA (cB (cB (cB dN)))) (IR LP Z N N' b (jR bn on n m) i) (aDV Z N b bn on n m) = some ([],.nrm,aDV Z N b bn on n m):=by kernel_rfl
theorem aRn (Z : List At) (N b b5 b8 bn on n m : Nat) : rI prog (qG prog) f191.ntmps BP ((cK (cA (cB (cB (cB (cB dN)))))).extract 0 2) (.at 8 b8 :: .at 5 b5 :: aDV Z N b bn on n m) (CK Z N b b5 b8 bn on n m) = some ([],CK Z N b b5 b8 bn on n m):=by kernel_rfl
theorem aRm (Z : List At) (N b b5 b8 bn on n m : Nat) (r : J1) : rI prog (qG prog) f191.ntmps BP ((cK (cA (cB (cB (cB (cB dN)))))).extract 3 4) (.slot 29 (.fl (bH r)) :: CK Z N b b5 b8 bn on n m) [.slot 4 (.pt 4 0),.row 4 true (bH r)] = some ([],[.slot 4 (.pt 4 0),.row 4 true (bH r)]):=by kernel_rfl
theorem Vp : sR (aA zT1) (.int .u64 0):=by unfold sR; kernel_rfl
theorem aJe {w : World} {b N i k : Nat} {pt : Nat → J1} (h : oldOf w b 0 (cD (fun j => uU (pt j)) 0 N)) (hi : i < N) (hk : k < 8) : oldOf w b (i * 96 + k * 12) (bH (KJ (pt i) (k + 1))):=by
 refine ⟨h.1,?_⟩;have h1 : w.rangeAt b (0 + i * 96) (aA (uU (pt i))):=mB (f:=fun j => uU (pt j)) (c:=96) (fun j => Ir (pt j)) hi h.2;rw [Ww,Nat.zero_add] at h1;exact mB (f:=uE (pt i)) (c:=12) (fun j => rfl) hk h1
theorem Uv {w0 : World} {gb go N N' bn on n m : Nat} {x : Nat → Nat} {pt : Nat → J1} {LP : List At} (hLP : aA LP = aA (cD (fun j => bH (pt j)) 0 N)) (hP : oldOf w0 gb go LP) (hx : ∀ i,i < n → oldOf w0 bn (on + i * 4) [.q (x i)]) (hN : N ≤ n) (hN2 : N ≤ 65536) (hn : n < 4611686018427387904) : Calls prog 191 #[jR gb go N N',jR bn on n m] w0 (fun e w' => e = .returned (.agg (aA (bH (Tg (fun p => MY pt x p N) (mD x n / 4 + 1) (mD x n / 4 + 1)))).toArray) ∧ Below w0.heap.size w0 w'):=by
 have hG : cN prog (qG prog) w0.heap.size w0:=(aK _).w _ _;have hT : ∀ n d : Nat,TabOkW prog jK w0.heap.size w0:=fun _ _ => iC.w _ _
 have hXF : ∀ x : Ext,x.T2 = Fr0 → (∀ b o l,¬ x.old b o l) → cN prog (qX prog x) w0.heap.size w0:=fun x h2 h3 => nM (h2 ▸ jL _) fun b o l h => (h3 b o l h).elim
 have hP' : oldOf w0 gb go (cD (fun j => bH (pt j)) 0 N):=⟨hP.1,by rw [← hLP]; exact hP.2⟩;clear hP hLP;refine dS func191 (c:=dN) rfl (args:=[jR gb go N N',jR bn on n m]) (cs:=[.s (cD (fun j => bH (pt j)) 0 N) N N',.v (.im (jR bn on n m))]) ⟨⟨gb,go,rfl,hP'.1,hP'.2⟩,rfl,trivial⟩ (Nat.le_of_ble_eq_true (by kernel_rfl)) fun a w' hA => ?_
 rw [aDZ];refine wp_seq (aC aG hT hG (aRs _ N N' _) trivial hA fun a w' hA => ?_);refine wp_seq (vZ (l:=List.range' 0 ((cK (cA (cB dN))).extract 0 4).size ++ (List.range' 4 ((cK (cA (cB dN))).extract 4 5).size ++ [])) (by kernel_rfl) ?_);refine cF (c:=BP) (hT 0) (hXF (aLn N (cD (fun _ => zT1) 0 N)) rfl fun _ _ _ h => h) (aRr _ _ N N' _) ⟨?_,trivial⟩ (by kernel_rfl) hA fun a w' hA => ?_
 ·exact Lm (t:=266) (e:=268) (z:=zT1) (v:=.int .u64 0) (n:=96) (by8:=768) (by kernel_rfl) (by kernel_rfl) Vo Vp (by omega) (by omega) (by omega)
 obtain ⟨b,hA⟩:=hA.at (k:=11) (l:=cD (fun _ => zT1) 0 N) (by simp [aDX]);have hA:=hA.im (s:=11) (k:=11) (o:=0) (n:=N) (m:=N) (b:=b) (by simp [aDX]) (by simp);refine cF (c:=BP) (hT 0) hG (aRq _ _ N N' b _) trivial (by kernel_rfl) hA fun a w' hA => ?_
 refine wp_seq (wp_seq (aC aG hT hG (aRp _ _ N N' b _) trivial hA fun a w' hA => ?_));refine wp_block ?_;refine jV aG (fun i => IR (cD (fun j => bH (pt j)) 0 N) (mW (fun j => uU (pt j)) zT1 N i) N N' b (jR bn on n m) i) N (fun i hi => ?_) (.ex 0) (by simp) (IR (cD (fun j => bH (pt j)) 0 N) (cD (fun j => uU (pt j)) 0 N) N N' b (jR bn on n m) N) ?_ (by rw [QH]; exact hA) fun a w' hA => ?_
 ·exact ⟨_,_,_,_,hXF (aWa N b i (pt i) _) rfl (fun _ _ _ h => h),hT,aRt _ _ (mW (fun j => uU (pt j)) zT1 N (i + 1)) N N' b _ i (pt i),bX hi,rfl,hi,lS (f:=fun j => bH (pt j)) (c:=12) (fun j => rfl) hi (Nat.zero_add _),rfl,rfl,rfl,hi,wW (f:=fun j => uU (pt j)) (c:=96) (fun j => Ir (pt j)) Vo hi (Nat.zero_add _),kQ (k:=1) (by omega),trivial⟩
 ·rw [← QG (fun j => uU (pt j)) zT1 N];exact ⟨_,_,_,_,hG,hT,aJf _ _ N N' b _ N,eI (Nat.le_refl _),trivial⟩
 refine wp_seq (aC aG hT hG (aRo _ _ N N' b bn on n m N) trivial hA fun a w' hA => ?_);obtain ⟨b5,hA⟩:=hA.at (k:=5) (l:=[.c (jR b 0 N N)]) (by simp [aDV]);obtain ⟨b8,hA⟩:=hA.at (k:=8) (l:=dO bn on n m) (by simp [aDV]);refine wp_seq (vZ (l:=List.range' 0 ((cK (cA (cB (cB (cB (cB dN)))))).extract 0 2).size ++ (2 :: (List.range' 3 ((cK (cA (cB (cB (cB (cB dN)))))).extract 3 4).size ++ []))) (by kernel_rfl) ?_);refine cF (c:=BP) (hT 0) hG (aRn _ N b b5 b8 bn on n m) trivial (by kernel_rfl) hA fun a w' hA => ?_
 have hM : ClMem1 w' b5 b8 b N bn on n m x pt:=by
  refine ⟨hA.old (k:=5) (by simp [CK]) (by simp [CK]),hA.old (k:=8) (by simp [CK]) (by simp [CK]),fun i hi => (hx i hi).on hA.below (base:=0),fun i hi k hk => ?_⟩;exact aJe (hA.old (k:=11) (by simp [CK]) (by simp [CK])) hi hk
 have h27:=hA.slotF (s:=27) (l:=dO bn on n m) (by simp [CK]);have h28:=hA.slot (s:=28) (v:=II b5 b8) (by simp [CK]);obtain ⟨o,ho,hoo,hod,hog⟩ : ∃ o,(cK (cA (cB (cB (cB (cB dN))))))[2]? = some o ∧ (∃ ts,o.op = .call ⟨.value (.func 231),#[.tmp 27,.tmp 28],ts⟩) ∧ o.dst = some 29 ∧ o.guard = none:=⟨_,rfl,⟨_,rfl⟩,rfl,rfl⟩
 obtain ⟨ts,hoo⟩:=hoo;refine mA ho hog (DY hoo (vs:=[.agg (aA (dO bn on n m)).toArray,II b5 b8]) (by simp [Act.eval,h27,h28]) (gF func231 (by kernel_rfl) (by kernel_rfl) · _) (Tf hM hN hn) fun w'' hb => ?_);rw [hod];have hA:=hA.put hb (d:=29) (Nat.le_of_ble_eq_true (by kernel_rfl)) (.fl (bH (Tg (fun p => MY pt x p N) (mD x n / 4 + 1) (mD x n / 4 + 1)))) (by
  have : (CK (cD (fun j => uU (pt j)) 0 N) N b b5 b8 bn on n m).all (fun φ => !(kT (some 29) none φ)) = true:=by kernel_rfl
  intro φ hφ;rw [List.all_eq_true] at this;simpa using this φ hφ)
 refine cF (c:=BP) (hT 0) hG (aRm _ N b b5 b8 bn on n m _) trivial (by kernel_rfl) hA fun a w' hA => ?_
 exact wp_ret (eJ (l:=[.fl (bH (Tg (fun p => MY pt x p N) (mD x n / 4 + 1) (mD x n / 4 + 1)))]) (r:=.one (.fl (bH (Tg (fun p => MY pt x p N) (mD x n / 4 + 1) (mD x n / 4 + 1))))) (by kernel_rfl) (by kernel_rfl) hA)
def uB : J2:=(F2.zero,F2.zero,F2.zero)
def uT (p : J2) : List At:=bG (KH p 1) ++ (bG (KH p 2) ++ (bG (KH p 3) ++ (bG (KH p 4) ++ (bG (KH p 5) ++ (bG (KH p 6) ++ (bG (KH p 7) ++ (bG (KH p 8))))))))
def zT2 : List At:=bG uB ++ (bG uB ++ (bG uB ++ (bG uB ++ (bG uB ++ (bG uB ++ (bG uB ++ (bG uB)))))))
theorem Iq (p : J2) : cS (uT p) = 192:=by kernel_rfl
theorem Vm : cS zT2 = 192:=by kernel_rfl
def uD (p : J2) (k : Nat) : List At:=bG (KH p (k + 1))
theorem Wv (p : J2) : uT p = cD (uD p) 0 8:=by
 show uT p = uD p 0 ++ (uD p 1 ++ (uD p 2 ++ (uD p 3 ++ (uD p 4 ++ (uD p 5 ++ (uD p 6 ++ (uD p 7 ++ [])))))));rw [List.append_nil];rfl
theorem Xv (p : J2) : aX prog (qG prog) (fun _ => ⟨fun s => fH true,fun s => true,fun _ => none⟩) f239 200 [.v (.fl (bG p))] = some ([],.one (.fl (uT p))):=by kernel_rfl
def jJ : Tab:=(fH true).add 239 (g1 Sk fun p => ([],.one (.fl (uT p))))
theorem iA : TabOk prog jJ:=(jE true).ad func239 (bJ mM fun p hp args w ha => aB aG (fun _ s => jE _) (aK prog) func239 (Xv p) trivial ha)
def dM : Code:=(f193.body).getD .skip
def SD : Code:=pO (pO (cB (cA (cB (cB dM)))))
theorem aDY : dM = .seq (cA dM) (.seq (.region 1 (cK (cA (cB dM))) false) (.seq (.seq (cA (cA (cB (cB dM)))) (.block 0 (.loop SD))) (.seq (cA (cB (cB (cB dM)))) (.seq (.region 8 (cK (cA (cB (cB (cB (cB dM)))))) false) .ret)))):=by kernel_rfl
def aRc (LP : List At) (N N' : Nat) (vn : Value) : List Fact:=[.slot 0 (.sl 0 0 N N'),.row 0 false LP,.slot 1 (.im vn),.slot 4 (.pt 4 0),.row 4 true (bG uB)]
def aDW (LP Z : List At) (N N' : Nat) (vn : Value) : List Fact:=[.slot 0 (.sl 0 0 N N'),.row 0 false LP,.slot 1 (.im vn),.slot 4 (.pt 4 0),.row 4 true (bG uB),.slot 11 (.sl 11 0 N N),.row 11 true Z,.slot 5 (.pt 5 0),.row 5 true [.c (.slice none 0 0)]]
def aRa (LP Z : List At) (N N' b : Nat) (vn : Value) : List Fact:=[.at 11 b,.slot 0 (.sl 0 0 N N'),.row 0 false LP,.slot 1 (.im vn),.slot 4 (.pt 4 0),.row 4 true (bG uB),.row 11 true Z,.slot 5 (.pt 5 0),.row 5 true [.c (jR b 0 N N)]]
def IQ (LP Z : List At) (N N' b : Nat) (vn : Value) (i : Nat) : List Fact:=[.at 11 b,.slot 0 (.sl 0 0 N N'),.row 0 false LP,.slot 1 (.im vn),.slot 4 (.pt 4 0),.row 4 true (bG uB),.row 11 true Z,.slot 5 (.pt 5 0),.row 5 true [.c (jR b 0 N N)],.slot 12 (.sl 0 0 N N'),.slot 13 (.im (iI N)),.slot 14 (.im (iI i))]
def aDU (Z : List At) (N b bn on n m : Nat) : List Fact:=[.at 11 b,.slot 4 (.pt 4 0),.row 4 true (bG uB),.row 11 true Z,.slot 5 (.pt 5 0),.row 5 true [.c (jR b 0 N N)],.slot 8 (.pt 8 0),.row 8 true (dO bn on n m)]
def CJ (Z : List At) (N b b5 b8 bn on n m : Nat) : List Fact:=[.at 5 b5,.at 8 b8,.at 11 b,.slot 4 (.pt 4 0),.row 4 true (bG uB),.row 11 true Z,.row 5 true [.c (jR b 0 N N)],.row 8 true (dO bn on n m),.slot 27 (.fl (dO bn on n m)),.slot 28 (.im (IH b5 b8))]
def aDS (num : Nat → Option Value) (_ : Nat) : Cfg:=⟨fun _ => jJ,fun _ => true,num⟩
def BO : Cfg:=⟨fun _ => jJ,fun _ => true,fun _ => none⟩
theorem aRk (LP : List At) (N N' : Nat) (vn : Value) : aY prog (qG prog) f193.ntmps (aDS fun _ => none) 40 (cA dM) (kV 0 [.s LP N N',.v (.im vn)]) (aRc LP N N' vn) = some ([],.nrm,aRc LP N N' vn):=by kernel_rfl
def aLm (N : Nat) (Z : List At) : Ext:={ TO (fun _ _ _ => False) with mks:=assoc [(11,(N,Z))] }
theorem aRj (LP Z : List At) (N N' : Nat) (vn : Value) : rI prog (qX prog (aLm N Z)) f193.ntmps BO ((cK (cA (cB dM))).extract 0 4) (aRc LP N N' vn) (aDW LP Z N N' vn) = some ([∃ e,∀ w : World,(Instr.makeSlice 277 (iI N) (iI N)).run prog w = .ok (.slice (some ⟨w.heap.size,0,none⟩) N N) (w.alloc (.cells (aA Z).toArray e))],aDW LP Z N N' vn):=by kernel_rfl
theorem aRi (LP Z : List At) (N N' b : Nat) (vn : Value) : rI prog (qG prog) f193.ntmps BO ((cK (cA (cB dM))).extract 4 5) (.slot 11 (.im (jR b 0 N N)) :: .at 11 b :: aDW LP Z N N' vn) (aRa LP Z N N' b vn) = some ([],aRa LP Z N N' b vn):=by kernel_rfl
theorem aRh (LP Z : List At) (N N' b : Nat) (vn : Value) : aY prog (qG prog) f193.ntmps (aDS fun _ => none) 40 (cA (cA (cB (cB dM)))) (aRa LP Z N N' b vn) (IQ LP Z N N' b vn 0) = some ([],.nrm,IQ LP Z N N' b vn 0):=by kernel_rfl
def aVZ (N b i : Nat) (p : J2) (Z' : List At) : Ext:={ TO (fun _ _ _ => False) with idx:=assoc [(17,i),(23,i)],ld:=assoc [(18,bG p)],st:=assoc [(23,Z')],gen:=assoc [(19,jR b 0 N N)],ky:=assoc [(19,11)] }
theorem aRl (LP Z Z' : List At) (N N' b : Nat) (vn : Value) (i : Nat) (p : J2) : aY prog (qX prog (aVZ N b i p Z')) f193.ntmps (aDS (assoc [(15,.bool true),(24,iI (i + 1))])) 40 SD (IQ LP Z N N' b vn i) (IQ LP Z' N N' b vn (i + 1)) = some ([aI .lss .i64 (Int.ofNat i) (Int.ofNat N) = some (.bool true),Int.ofNat i = Int.ofNat i,i < N,fN LP (0 + i * 24) 24 = some (bG p),cellAt [.c (jR b 0 N N)] 0 = some (jR b 0 N N),b = b,Int.ofNat i = Int.ofNat i,i < N,put Z (0 + i * 192) (uT p) = some Z',aI .add .i64 (Int.ofNat i) 1 = some (iI (i + 1))],.nrm,IQ LP Z' N N' b vn (i + 1)):=by kernel_rfl
theorem aJd (LP Z : List At) (N N' b : Nat) (vn : Value) (i : Nat) : aY prog (qG prog) f193.ntmps (aDS (assoc [(15,.bool false)])) 40 SD (IQ LP Z N N' b vn i) (IQ LP Z N N' b vn i) = some ([aI .lss .i64 (Int.ofNat i) (Int.ofNat N) = some (.bool false)],.ex 0,IQ LP Z N N' b vn i):=by kernel_rfl
theorem aRg (LP Z : List At) (N N' b bn on n m i : Nat) : aY prog (qG prog) f193.ntmps (aDS fun _ => none) 40 (cA (cB (cB (cB dM)))) (IQ LP Z N N' b (jR bn on n m) i) (aDU Z N b bn on n m) = some ([],.nrm,aDU Z N b bn on n m):=by kernel_rfl
theorem aRf (Z : List At) (N b b5 b8 bn on n m : Nat) : rI prog (qG prog) f193.ntmps BO ((cK (cA (cB (cB (cB (cB dM)))))).extract 0 2) (.at 8 b8 :: .at 5 b5 :: aDU Z N b bn on n m) (CJ Z N b b5 b8 bn on n m) = some ([],CJ Z N b b5 b8 bn on n m):=by kernel_rfl
theorem aRe (Z : List At) (N b b5 b8 bn on n m : Nat) (r : J2) : rI prog (qG prog) f193.ntmps BO ((cK (cA (cB (cB (cB (cB dM)))))).extract 3 4) (.slot 29 (.fl (bG r)) :: CJ Z N b b5 b8 bn on n m) [.slot 4 (.pt 4 0),.row 4 true (bG r)] = some ([],[.slot 4 (.pt 4 0),.row 4 true (bG r)]):=by kernel_rfl
theorem Vn : sR (aA zT2) (.int .u64 0):=by unfold sR; kernel_rfl
theorem aJc {w : World} {b N i k : Nat} {pt : Nat → J2} (h : oldOf w b 0 (cD (fun j => uT (pt j)) 0 N)) (hi : i < N) (hk : k < 8) : oldOf w b (i * 192 + k * 24) (bG (KH (pt i) (k + 1))):=by
 refine ⟨h.1,?_⟩;have h1 : w.rangeAt b (0 + i * 192) (aA (uT (pt i))):=mB (f:=fun j => uT (pt j)) (c:=192) (fun j => Iq (pt j)) hi h.2;rw [Wv,Nat.zero_add] at h1;exact mB (f:=uD (pt i)) (c:=24) (fun j => rfl) hk h1
theorem Uu {w0 : World} {gb go N N' bn on n m : Nat} {x : Nat → Nat} {pt : Nat → J2} {LP : List At} (hLP : aA LP = aA (cD (fun j => bG (pt j)) 0 N)) (hP : oldOf w0 gb go LP) (hx : ∀ i,i < n → oldOf w0 bn (on + i * 4) [.q (x i)]) (hN : N ≤ n) (hN2 : N ≤ 65536) (hn : n < 4611686018427387904) : Calls prog 193 #[jR gb go N N',jR bn on n m] w0 (fun e w' => e = .returned (.agg (aA (bG (Te (fun p => MX pt x p N) (mD x n / 4 + 1) (mD x n / 4 + 1)))).toArray) ∧ Below w0.heap.size w0 w'):=by
 have hG : cN prog (qG prog) w0.heap.size w0:=(aK _).w _ _;have hT : ∀ n d : Nat,TabOkW prog jJ w0.heap.size w0:=fun _ _ => iA.w _ _
 have hXF : ∀ x : Ext,x.T2 = Fr0 → (∀ b o l,¬ x.old b o l) → cN prog (qX prog x) w0.heap.size w0:=fun x h2 h3 => nM (h2 ▸ jL _) fun b o l h => (h3 b o l h).elim
 have hP' : oldOf w0 gb go (cD (fun j => bG (pt j)) 0 N):=⟨hP.1,by rw [← hLP]; exact hP.2⟩;clear hP hLP;refine dS func193 (c:=dM) rfl (args:=[jR gb go N N',jR bn on n m]) (cs:=[.s (cD (fun j => bG (pt j)) 0 N) N N',.v (.im (jR bn on n m))]) ⟨⟨gb,go,rfl,hP'.1,hP'.2⟩,rfl,trivial⟩ (Nat.le_of_ble_eq_true (by kernel_rfl)) fun a w' hA => ?_
 rw [aDY];refine wp_seq (aC aG hT hG (aRk _ N N' _) trivial hA fun a w' hA => ?_);refine wp_seq (vZ (l:=List.range' 0 ((cK (cA (cB dM))).extract 0 4).size ++ (List.range' 4 ((cK (cA (cB dM))).extract 4 5).size ++ [])) (by kernel_rfl) ?_);refine cF (c:=BO) (hT 0) (hXF (aLm N (cD (fun _ => zT2) 0 N)) rfl fun _ _ _ h => h) (aRj _ _ N N' _) ⟨?_,trivial⟩ (by kernel_rfl) hA fun a w' hA => ?_
 ·exact Lm (t:=277) (e:=279) (z:=zT2) (v:=.int .u64 0) (n:=192) (by8:=1536) (by kernel_rfl) (by kernel_rfl) Vm Vn (by omega) (by omega) (by omega)
 obtain ⟨b,hA⟩:=hA.at (k:=11) (l:=cD (fun _ => zT2) 0 N) (by simp [aDW]);have hA:=hA.im (s:=11) (k:=11) (o:=0) (n:=N) (m:=N) (b:=b) (by simp [aDW]) (by simp);refine cF (c:=BO) (hT 0) hG (aRi _ _ N N' b _) trivial (by kernel_rfl) hA fun a w' hA => ?_
 refine wp_seq (wp_seq (aC aG hT hG (aRh _ _ N N' b _) trivial hA fun a w' hA => ?_));refine wp_block ?_;refine jV aG (fun i => IQ (cD (fun j => bG (pt j)) 0 N) (mW (fun j => uT (pt j)) zT2 N i) N N' b (jR bn on n m) i) N (fun i hi => ?_) (.ex 0) (by simp) (IQ (cD (fun j => bG (pt j)) 0 N) (cD (fun j => uT (pt j)) 0 N) N N' b (jR bn on n m) N) ?_ (by rw [QH]; exact hA) fun a w' hA => ?_
 ·exact ⟨_,_,_,_,hXF (aVZ N b i (pt i) _) rfl (fun _ _ _ h => h),hT,aRl _ _ (mW (fun j => uT (pt j)) zT2 N (i + 1)) N N' b _ i (pt i),bX hi,rfl,hi,lS (f:=fun j => bG (pt j)) (c:=24) (fun j => rfl) hi (Nat.zero_add _),rfl,rfl,rfl,hi,wW (f:=fun j => uT (pt j)) (c:=192) (fun j => Iq (pt j)) Vm hi (Nat.zero_add _),kQ (k:=1) (by omega),trivial⟩
 ·rw [← QG (fun j => uT (pt j)) zT2 N];exact ⟨_,_,_,_,hG,hT,aJd _ _ N N' b _ N,eI (Nat.le_refl _),trivial⟩
 refine wp_seq (aC aG hT hG (aRg _ _ N N' b bn on n m N) trivial hA fun a w' hA => ?_);obtain ⟨b5,hA⟩:=hA.at (k:=5) (l:=[.c (jR b 0 N N)]) (by simp [aDU]);obtain ⟨b8,hA⟩:=hA.at (k:=8) (l:=dO bn on n m) (by simp [aDU]);refine wp_seq (vZ (l:=List.range' 0 ((cK (cA (cB (cB (cB (cB dM)))))).extract 0 2).size ++ (2 :: (List.range' 3 ((cK (cA (cB (cB (cB (cB dM)))))).extract 3 4).size ++ []))) (by kernel_rfl) ?_);refine cF (c:=BO) (hT 0) hG (aRf _ N b b5 b8 bn on n m) trivial (by kernel_rfl) hA fun a w' hA => ?_
 have hM : ClMem2 w' b5 b8 b N bn on n m x pt:=by
  refine ⟨hA.old (k:=5) (by simp [CJ]) (by simp [CJ]),hA.old (k:=8) (by simp [CJ]) (by simp [CJ]),fun i hi => (hx i hi).on hA.below (base:=0),fun i hi k hk => ?_⟩;exact aJc (hA.old (k:=11) (by simp [CJ]) (by simp [CJ])) hi hk
 have h27:=hA.slotF (s:=27) (l:=dO bn on n m) (by simp [CJ]);have h28:=hA.slot (s:=28) (v:=IH b5 b8) (by simp [CJ]);obtain ⟨o,ho,hoo,hod,hog⟩ : ∃ o,(cK (cA (cB (cB (cB (cB dM))))))[2]? = some o ∧ (∃ ts,o.op = .call ⟨.value (.func 240),#[.tmp 27,.tmp 28],ts⟩) ∧ o.dst = some 29 ∧ o.guard = none:=⟨_,rfl,⟨_,rfl⟩,rfl,rfl⟩
 obtain ⟨ts,hoo⟩:=hoo;refine mA ho hog (DY hoo (vs:=[.agg (aA (dO bn on n m)).toArray,IH b5 b8]) (by simp [Act.eval,h27,h28]) (gF func240 (by kernel_rfl) (by kernel_rfl) · _) (Td hM hN hn) fun w'' hb => ?_);rw [hod];have hA:=hA.put hb (d:=29) (Nat.le_of_ble_eq_true (by kernel_rfl)) (.fl (bG (Te (fun p => MX pt x p N) (mD x n / 4 + 1) (mD x n / 4 + 1)))) (by
  have : (CJ (cD (fun j => uT (pt j)) 0 N) N b b5 b8 bn on n m).all (fun φ => !(kT (some 29) none φ)) = true:=by kernel_rfl
  intro φ hφ;rw [List.all_eq_true] at this;simpa using this φ hφ)
 refine cF (c:=BO) (hT 0) hG (aRe _ N b b5 b8 bn on n m _) trivial (by kernel_rfl) hA fun a w' hA => ?_
 exact wp_ret (eJ (l:=[.fl (bG (Te (fun p => MX pt x p N) (mD x n / 4 + 1) (mD x n / 4 + 1)))]) (r:=.one (.fl (bG (Te (fun p => MX pt x p N) (mD x n / 4 + 1) (mD x n / 4 + 1))))) (by kernel_rfl) (by kernel_rfl) hA)
end Go.Proofs.YtglgakbkdjhojaaGreat.Ex
