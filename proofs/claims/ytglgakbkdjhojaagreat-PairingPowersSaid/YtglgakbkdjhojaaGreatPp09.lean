/- Pp09 -/
import Derived.Test.YtglgakbkdjhojaaGreatPp08
import Derived.Test.YtglgakbkdjhojaaGreatPp02
import Derived.Test.YtglgakbkdjhojaaGreatProg
set_option maxRecDepth 100000
set_option linter.unusedVariables false
set_option linter.unusedSimpArgs false
noncomputable section
namespace Go.Proofs.YtglgakbkdjhojaaGreat.Ex
open Go.Proofs.Tryz
open Go.RowKit
def TA (old : Nat → Nat → List At → Prop) : Ext:={ idx:=fun _ => none,ld:=fun _ => none,st:=fun _ => none,gen:=fun _ => none,mks:=fun _ => none,ky:=fun _ => none,old:=old,T2:=Fr0 }
theorem rN {x : Ext} {w : World} (h : x.old = oldOf w) (h2 : x.T2 = Fr0) : cK prog (qX prog x) w.heap.size w:=nR (h2 ▸ jQ _) fun _ _ _ q => h ▸ q
def mJ (x : Nat → Nat) : Nat → Nat
 | 0 => 0
 | i + 1 => if xN (x i) > mJ x i then xN (x i) else mJ x i
theorem PT (x : Nat → Nat) : ∀ i,mJ x i ≤ 256
 | 0 => Nat.zero_le _
 | i + 1 => by
  have:=PT x i;have:=aHG (x i);unfold mJ;split <;> omega
theorem Es (x : Nat → Nat) : ∀ n i,i < n → xN (x i) ≤ mJ x n
 | n + 1,i,h => by
  unfold mJ
  by_cases e : i = n
  ·subst e; split <;> omega
  ·have:=Es x n i (by omega);split <;> omega
def plX (old : Nat → Nat → List At → Prop) (x i : Nat) : Ext:={ TA old with idx:=assoc [(11,i)],ld:=assoc [(12,[At.q x])] }
def plF (b o n m i mx : Nat) : List Fact:=[.slot 1 (.pt 1 0),.row 1 true (dP b o n m),.slot 3 (.im (iI mx)),.slot 7 (.im (jW b o n m)),.slot 8 (.im (iI n)),.slot 9 (.im (iI i))]
def An (num : Nat → Option Value) (_ : Nat) : Cfg:=⟨fun _ => fI true,fun _ => true,num⟩
def lH : Code:=(f253.body).getD .skip
def Dz : Code:=pS (pS (cB (cA (cB (cB lH)))))
theorem aGS : lH = .seq (cA lH) (.seq (cA (cB lH)) (.seq (.seq (cA (cA (cB (cB lH)))) (.block 0 (.loop Dz))) (cB (cB (cB lH))))):=by kernel_rfl
def plA (b o n m : Nat) : List Fact:=[.slot 1 (.pt 1 0),.row 1 true (dP b o n m)]
def plB (b o n m : Nat) : List Fact:=[.slot 1 (.pt 1 0),.row 1 true (dP b o n m),.slot 3 (.im (iI 0))]
theorem aTh (b o n m : Nat) : aX prog (qG prog) f253.ntmps (An fun _ => none) 40 (cA lH) (kZ 0 [.v (.fl (dP b o n m))]) (plA b o n m) = some ([],.nrm,plA b o n m):=by kernel_rfl
theorem aTg (b o n m : Nat) : aX prog (qG prog) f253.ntmps (An fun _ => none) 40 (cA (cB lH)) (plA b o n m) (plB b o n m) = some ([],.nrm,plB b o n m):=by kernel_rfl
theorem aTf (b o n m : Nat) : aX prog (qG prog) f253.ntmps (An fun _ => none) 40 (cA (cA (cB (cB lH)))) (plB b o n m) (plF b o n m 0 0) = some ([],.nrm,plF b o n m 0 0):=by kernel_rfl
theorem aTi (old : Nat → Nat → List At → Prop) (b o n m i mx mx' x : Nat) : aX prog (qX prog (plX old x i)) f253.ntmps (An (assoc [(10,.bool true),(16,iI mx'),(17,iI (i + 1))])) 40 Dz (plF b o n m i mx) (plF b o n m (i + 1) mx') = some ([aI .lss .i64 (Int.ofNat i) (Int.ofNat n) = some (.bool true),Int.ofNat i = Int.ofNat i,i < n,old b (o + i * 4) [.q x],cS [At.q x] = 4,Value.int .i64 (if (Int.ofNat (xN x)) > (Int.ofNat mx) then Int.ofNat (xN x) else Int.ofNat mx) = iI mx',aI .add .i64 (Int.ofNat i) 1 = some (iI (i + 1))],.nrm,plF b o n m (i + 1) mx'):=by kernel_rfl
theorem aMZ (b o n m i mx : Nat) : aX prog (qG prog) f253.ntmps (An (assoc [(10,.bool false)])) 40 Dz (plF b o n m i mx) (plF b o n m i mx) = some ([aI .lss .i64 (Int.ofNat i) (Int.ofNat n) = some (.bool false)],.ex 0,plF b o n m i mx):=by kernel_rfl
theorem aGR (b o n m i mx : Nat) : aX prog (qG prog) f253.ntmps (An (assoc [(21,iI (mx / 4)),(22,iI (mx / 4 + 1))])) 40 (cB (cB (cB lH))) (plF b o n m i mx) [.slot 2 (.im (iI (mx / 4 + 1)))] = some ([aI .quo .i64 (Int.ofNat mx) (Int.ofNat 4) = some (iI (mx / 4)),aI .add .i64 (Int.ofNat (mx / 4)) 1 = some (iI (mx / 4 + 1))],.rt,[.slot 2 (.im (iI (mx / 4 + 1)))]):=by kernel_rfl
theorem xC {w0 : World} (b o n m : Nat) (x : Nat → Nat) (hx : ∀ i,i < n → oldOf w0 b (o + i * 4) [.q (x i)]) (hn : n < 4611686018427387904) : Calls prog 253 #[.agg (aA (dP b o n m)).toArray] w0 (fun e w' => e = .returned (iI (mJ x n / 4 + 1)) ∧ Below w0.heap.size w0 w'):=by
 have hG : cK prog (qG prog) w0.heap.size w0:=(aK _).w _ _;have hT : ∀ n d : Nat,TabOkW prog (fI true) w0.heap.size w0:=fun _ _ => (jF true).w _ _
 refine dS func253 (c:=lH) rfl (args:=[.agg (aA (dP b o n m)).toArray]) (cs:=[.v (.fl (dP b o n m))]) ⟨rfl,trivial⟩ (Nat.le_of_ble_eq_true (by kernel_rfl)) fun a w' hA => ?_
 rw [aGS];refine wp_seq (aC aG hT hG (aTh b o n m) trivial hA fun a w' hA => ?_);refine wp_seq (aC aG hT hG (aTg b o n m) trivial hA fun a w' hA => ?_);refine wp_seq (wp_seq (aC aG hT hG (aTf b o n m) trivial hA fun a w' hA => ?_));refine wp_block ?_;refine kB aG (fun i => plF b o n m i (mJ x i)) n (fun i hi => ?_) (.ex 0) (by simp) (plF b o n m n (mJ x n)) ?_ hA fun a w' hA => ?_
 ·refine ⟨_,_,_,_,rN (x:=plX (oldOf w0) (x i) i) rfl rfl,hT,aTi (oldOf w0) b o n m i (mJ x i) (mJ x (i + 1)) (x i),bX hi,rfl,hi,hx i hi,rfl,?_,kS (k:=1) (by omega),trivial⟩;show Value.int .i64 (if ((xN (x i) : Nat) : Int) > ((mJ x i : Nat) : Int) then ((xN (x i) : Nat) : Int) else ((mJ x i : Nat) : Int)) = .int .i64 ((mJ x (i + 1) : Nat) : Int);rw [mJ]
  by_cases h : xN (x i) > mJ x i
  ·rw [if_pos h,if_pos (by omega)]
  ·rw [if_neg h,if_neg (by omega)]
 ·exact ⟨_,_,_,_,hG,hT,aMZ b o n m n _,eI (Nat.le_refl _),trivial⟩
 ·have:=PT x n;show (cB (cB (cB lH))).wp _ _ _ _;exact aC aG hT hG (aGR b o n m n _) ⟨aJX (by omega) (by omega),kS (k:=1) (by omega),trivial⟩ hA fun a w' hA => eK (l:=[.im (iI (mJ x n / 4 + 1))]) (r:=.one (.im (iI (mJ x n / 4 + 1)))) (by kernel_rfl) (by kernel_rfl) hA
def KC (p : J1) : Nat → J1
 | 0 => (F1.zero,F1.zero,F1.zero)
 | k + 1 => dW F1 (KC p k) p
def Oi (p : J1) : Int → J1
 | .ofNat 0 => (F1.zero,F1.zero,F1.zero)
 | .ofNat (k + 1) => KC p (k + 1)
 | .negSucc k => sI F1 (KC p (k + 1))
def Ol (old : Nat → Nat → List At → Prop) (k : Nat) (h : Int) (q : J1) : Ext:={ TA old with idx:=assoc [(12,k),(22,k)],ld:=assoc [(13,bJ q),(23,bJ q)],gen:=assoc [(19,.int .i64 h)] }
theorem Pm (old : Nat → Nat → List At → Prop) (b off k : Nat) (g h : Int) (q : J1) : aW prog (qX prog (Ol old k h q)) (fun _ => ⟨fun s => fI true,fun s => true,assoc [(7,.bool true),(10,iI k)]⟩) f233 80 [.v (.im (iE b off)),.v (.im (.int .i64 g))] = some ([aI .gtr .i64 g 0 = some (.bool true),aI .sub .i64 g 1 = some (iI k),Int.ofNat k = Int.ofNat k,k < 8,old b (off + k * 12) (bJ q),cS (bJ q) = 12],.one (.fl (bJ q))):=by kernel_rfl
theorem Pn (old : Nat → Nat → List At → Prop) (b off k : Nat) (g h : Int) (q : J1) : aW prog (qX prog (Ol old k h q)) (fun _ => ⟨fun s => fI true,fun s => true,assoc [(7,.bool false),(16,.bool true),(20,iI k)]⟩) f233 80 [.v (.im (iE b off)),.v (.im (.int .i64 g))] = some ([aI .gtr .i64 g 0 = some (.bool false),aI .lss .i64 g 0 = some (.bool true),(∀ W : World,(Op.unary .neg (.int .i64 g)).run prog W = .ok (.int .i64 h) W),aI .sub .i64 h 1 = some (iI k),Int.ofNat k = Int.ofNat k,k < 8,old b (off + k * 12) (bJ q),cS (bJ q) = 12],.one (.fl (bJ (sI F1 q)))):=by kernel_rfl
theorem Pl (old : Nat → Nat → List At → Prop) (b off k : Nat) (g h : Int) (q : J1) : aW prog (qX prog (Ol old k h q)) (fun _ => ⟨fun s => fI true,fun s => true,assoc [(7,.bool false),(16,.bool false)]⟩) f233 80 [.v (.im (iE b off)),.v (.im (.int .i64 g))] = some ([aI .gtr .i64 g 0 = some (.bool false),aI .lss .i64 g 0 = some (.bool false)],.one (.fl (bJ (F1.zero,F1.zero,F1.zero)))):=by kernel_rfl
theorem Bb {w0 : World} (b off : Nat) (g : Int) (p : J1) (hp : ∀ k,k < 8 → oldOf w0 b (off + k * 12) (bJ (KC p (k + 1)))) (h1 : -8 ≤ g) (h2 : g ≤ 8) : Calls prog 233 #[iE b off,.int .i64 g] w0 (fun e w' => e = .returned (.agg (aA (bJ (Oi p g))).toArray) ∧ Below w0.heap.size w0 w'):=by
 have hT : ∀ n d : Nat,TabOkW prog (fI true) w0.heap.size w0:=fun _ _ => (jF true).w _ _
 have ha : bR w0 [.v (.im (iE b off)),.v (.im (.int .i64 g))] [iE b off,.int .i64 g]:=⟨rfl,rfl,trivial⟩
 match g,h1,h2,ha with
 | .ofNat 0,_,_,ha => exact bE aG hT (rN (x:=Ol (oldOf w0) 0 0 (F1.zero,F1.zero,F1.zero)) rfl rfl) func233 (Pl (oldOf w0) b off 0 _ 0 (F1.zero,F1.zero,F1.zero)) ⟨rfl,rfl,trivial⟩ ha
 | .ofNat (k + 1),_,h2,ha =>
  have hk : k < 8:=by have h2' : ((k + 1 : Nat) : Int) ≤ 8:=h2; omega
  exact bE aG hT (rN (x:=Ol (oldOf w0) k 0 (KC p (k + 1))) rfl rfl) func233 (Pm (oldOf w0) b off k _ 0 (KC p (k + 1))) ⟨by rw [show (0 : Int) = Int.ofNat 0 from rfl,AW,decide_eq_true (by omega)],uK (k:=1) (by omega) (by omega),rfl,hk,hp k hk,rfl,trivial⟩ ha
 | .negSucc k,h1,_,ha =>
  have hk : k < 8:=by have h1' : -8 ≤ -((k : Int) + 1):=h1; omega
  refine bE aG hT (rN (x:=Ol (oldOf w0) k (Int.ofNat (k + 1)) (KC p (k + 1))) rfl rfl) func233 (Pn (oldOf w0) b off k _ (Int.ofNat (k + 1)) (KC p (k + 1))) ⟨?_,?_,?_,uK (k:=1) (by omega) (by omega),rfl,hk,hp k hk,rfl,trivial⟩ ha
  ·show some (Value.bool (decide (Int.negSucc k > 0))) = _;rw [decide_eq_false (by omega)]
  ·show some (Value.bool (decide (Int.negSucc k < 0))) = _;rw [decide_eq_true (by omega)]
  ·intro W;have e : IntKind.i64.wrap (0 - Int.negSucc k) = Int.ofNat (k + 1):=by rw [IntKind.wrap_i64]; show _ = ((k + 1 : Nat) : Int); omega
   show (Op.intArith .sub .i64 0 (Int.negSucc k)).run prog W = _;simp only [Op.intArith,Sem.run_pure,e]
def aCp (bT i : Nat) (p : J1) : lO
 | [.v (.im (.pointer (some ⟨b',off,.none⟩))),.v (.im (.int .i64 g))] => some ([b' = bT,off = i * 96,-8 ≤ g,g ≤ 8],.one (.fl (bJ (Oi p g))))
 | _ => none
theorem aCo {w : World} {bT i : Nat} {p : J1} (hp : ∀ k,k < 8 → oldOf w bT (i * 96 + k * 12) (bJ (KC p (k + 1)))) : ∀ cs pre r,aCp bT i p cs = some (pre,r) → aY pre → ∀ (args : List Value),bR w cs args → Good prog 233 r args w:=by
 intro cs pre r hg hq args ha;unfold aCp at hg;split at hg
 ·rename_i b' off g;cases hg;obtain ⟨rfl,rfl,h1,h2,_⟩:=hq
  match args,ha with
  | [u,v],ha =>
   have e1 : u = iE b' (i * 96):=ha.1;have e2 : v = .int .i64 g:=ha.2.1;subst e1; subst e2;exact Bb b' _ g p hp h1 h2
  | [],ha => exact ha.elim
  | [_],ha => exact ha.2.elim
  | _ :: _ :: _ :: _,ha => exact ha.2.2.elim
 ·cases hg
def MO (pt : Nat → J1) (x : Nat → Nat) (p : Nat) : Nat → J1
 | 0 => (F1.zero,F1.zero,F1.zero)
 | i + 1 => dW F1 (MO pt x p i) (Oi (pt i) (lN (x i) p))
def aIN (old : Nat → Nat → List At → Prop) (bT N b o n m i : Nat) : Ext:={ TA old with idx:=assoc [(15,i)],ld:=assoc [(16,dP b o n m)],gen:=assoc [(7,jW bT 0 N N),(13,jW bT 0 N N)] }
def IC (pl bt bd N i : Nat) (c : J1) : List Fact:=[.slot 0 (.im (iI pl)),.slot 1 (.im (iE bt 0)),.slot 2 (.im (iE bd 0)),.slot 4 (.pt 4 0),.row 4 true (bJ (F1.zero,F1.zero,F1.zero)),.slot 5 (.pt 5 0),.row 5 true (bJ c),.slot 8 (.im (iI N)),.slot 9 (.im (iI i))]
def aYi (bT b o n m : Nat) (x : Nat → Nat) (i : Nat) (p : J1) : Tab:=((fI true).add 234 (gAt b o n m x)).add 233 (aCp bT i p)
def iC : Code:=(f232.body).getD .skip
def RI : Code:=pS (pS (cB (cA (cB (cB iC)))))
theorem aDu : iC = .seq (cA iC) (.seq (cA (cB iC)) (.seq (.seq (cA (cA (cB (cB iC)))) (.block 0 (.loop RI))) (cB (cB (cB iC))))):=by kernel_rfl
def aPS (pl bt bd : Nat) : List Fact:=[.slot 0 (.im (iI pl)),.slot 1 (.im (iE bt 0)),.slot 2 (.im (iE bd 0)),.slot 4 (.pt 4 0),.row 4 true (bJ (F1.zero,F1.zero,F1.zero))]
def aPQ (pl bt bd : Nat) : List Fact:=[.slot 0 (.im (iI pl)),.slot 1 (.im (iE bt 0)),.slot 2 (.im (iE bd 0)),.slot 4 (.pt 4 0),.row 4 true (bJ (F1.zero,F1.zero,F1.zero)),.slot 5 (.pt 5 0),.row 5 true (bJ (F1.zero,F1.zero,F1.zero))]
theorem aPZ (pl bt bd : Nat) : aX prog (qG prog) f232.ntmps (An fun _ => none) 40 (cA iC) (kZ 0 [.v (.im (iI pl)),.v (.im (iE bt 0)),.v (.im (iE bd 0))]) (aPS pl bt bd) = some ([],.nrm,aPS pl bt bd):=by kernel_rfl
theorem aPY (pl bt bd : Nat) : aX prog (qG prog) f232.ntmps (An fun _ => none) 40 (cA (cB iC)) (aPS pl bt bd) (aPQ pl bt bd) = some ([],.nrm,aPQ pl bt bd):=by kernel_rfl
theorem aPX (old : Nat → Nat → List At → Prop) (pl bt bd bT N b o n m : Nat) : aX prog (qX prog (aIN old bT N b o n m 0)) f232.ntmps (An fun _ => none) 40 (cA (cA (cB (cB iC)))) (aPQ pl bt bd) (IC pl bt bd N 0 (F1.zero,F1.zero,F1.zero)) = some ([old bt 0 [.c (jW bT 0 N N)]],.nrm,IC pl bt bd N 0 (F1.zero,F1.zero,F1.zero)):=by kernel_rfl
theorem aQa (old : Nat → Nat → List At → Prop) (pl bt bd bT N b o n m i : Nat) (x : Nat → Nat) (p c : J1) : aX prog (qX prog (aIN old bT N b o n m i)) f232.ntmps (fun _ => ⟨fun _ => aYi bT b o n m x i p,fun _ => true,assoc [(10,.bool true),(22,iI (i + 1))]⟩) 40 RI (IC pl bt bd N i c) (IC pl bt bd N (i + 1) (dW F1 c (Oi p (lN (x i) pl)))) = some ([aI .lss .i64 (Int.ofNat i) (Int.ofNat N) = some (.bool true),old bt 0 [.c (jW bT 0 N N)],Int.ofNat i = Int.ofNat i,i < N,old bd 0 (dP b o n m),cS (dP b o n m) = 2,b = b,o = o,n = n,m = m,i < n,pl < 1152921504606846976,bT = bT,0 + i * 96 = i * 96,-8 ≤ lN (x i) pl,lN (x i) pl ≤ 8,aI .add .i64 (Int.ofNat i) 1 = some (iI (i + 1))],.nrm,IC pl bt bd N (i + 1) (dW F1 c (Oi p (lN (x i) pl)))):=by kernel_rfl
theorem aIP (pl bt bd N i : Nat) (c : J1) : aX prog (qG prog) f232.ntmps (An (assoc [(10,.bool false)])) 40 RI (IC pl bt bd N i c) (IC pl bt bd N i c) = some ([aI .lss .i64 (Int.ofNat i) (Int.ofNat N) = some (.bool false)],.ex 0,IC pl bt bd N i c):=by kernel_rfl
theorem aDt (pl bt bd N i : Nat) (c : J1) : aX prog (qG prog) f232.ntmps (An fun _ => none) 40 (cB (cB (cB iC))) (IC pl bt bd N i c) [.slot 4 (.pt 4 0),.row 4 true (bJ c)] = some ([],.rt,[.slot 4 (.pt 4 0),.row 4 true (bJ c)]):=by kernel_rfl
theorem DG (x p : Nat) : -8 ≤ lN x p ∧ lN x p ≤ 8:=by
 have:=Mq x p;unfold lN;split <;> omega
structure ClMem1 (w : World) (bt bd bT N b o n m : Nat) (x : Nat → Nat) (pt : Nat → J1) : Prop where
 t : oldOf w bt 0 [.c (jW bT 0 N N)]
 d : oldOf w bd 0 (dP b o n m)
 x : ∀ i,i < n → oldOf w b (o + i * 4) [.q (x i)]
 p : ∀ i,i < N → ∀ k,k < 8 → oldOf w bT (i * 96 + k * 12) (bJ (KC (pt i) (k + 1)))
theorem oldOf.on {base : Nat} {w w' : World} (hb : Below w.heap.size w w') {b o : Nat} {l : List At} (h : oldOf w b o l) : oldOf w' b o l:=⟨Nat.lt_of_lt_of_le h.1 hb.size,iQ hb h.1 h.2⟩
theorem ClMem1.on {w w' : World} (hb : Below w.heap.size w w') {bt bd bT N b o n m : Nat} {x : Nat → Nat} {pt : Nat → J1} (h : ClMem1 w bt bd bT N b o n m x pt) : ClMem1 w' bt bd bT N b o n m x pt :=
 ⟨h.t.on hb (base:=0),h.d.on hb (base:=0),fun i hi => (h.x i hi).on hb (base:=0),fun i hi k hk => (h.p i hi k hk).on hb (base:=0)⟩
theorem Uc {w0 : World} {bt bd bT N b o n m : Nat} {x : Nat → Nat} {pt : Nat → J1} (h : ClMem1 w0 bt bd bT N b o n m x pt) (hN : N ≤ n) (hn : n < 4611686018427387904) {pl : Nat} (hpl : pl < 1152921504606846976) : Calls prog 232 #[iI pl,iE bt 0,iE bd 0] w0 (fun e w' => e = .returned (.agg (aA (bJ (MO pt x pl N))).toArray) ∧ Below w0.heap.size w0 w'):=by
 have hG : cK prog (qG prog) w0.heap.size w0:=(aK _).w _ _;have hT : ∀ n d : Nat,TabOkW prog (fI true) w0.heap.size w0:=fun _ _ => (jF true).w _ _
 refine dS func232 (c:=iC) rfl (args:=[iI pl,iE bt 0,iE bd 0]) (cs:=[.v (.im (iI pl)),.v (.im (iE bt 0)),.v (.im (iE bd 0))]) ⟨rfl,rfl,rfl,trivial⟩ (Nat.le_of_ble_eq_true (by kernel_rfl)) fun a w' hA => ?_
 rw [aDu];refine wp_seq (aC aG hT hG (aPZ pl bt bd) trivial hA fun a w' hA => ?_);refine wp_seq (aC aG hT hG (aPY pl bt bd) trivial hA fun a w' hA => ?_);refine wp_seq (wp_seq (aC aG hT (rN (x:=aIN (oldOf w0) bT N b o n m 0) rfl rfl) (aPX (oldOf w0) pl bt bd bT N b o n m) ⟨h.t,trivial⟩ hA fun a w' hA => ?_));refine wp_block ?_;refine kB aG (fun i => IC pl bt bd N i (MO pt x pl i)) N (fun i hi => ?_) (.ex 0) (by simp) (IC pl bt bd N N (MO pt x pl N)) ?_ hA fun a w' hA => ?_
 ·refine ⟨_,_,_,_,rN (x:=aIN (oldOf w0) bT N b o n m i) rfl rfl,fun _ _ => ?_,aQa (oldOf w0) pl bt bd bT N b o n m i x (pt i) (MO pt x pl i),bX hi,h.t,rfl,hi,h.d,rfl,rfl,rfl,rfl,rfl,by omega,hpl,rfl,by omega,(DG _ _).1,(DG _ _).2,kS (k:=1) (by omega),trivial⟩;refine TabOkW.add (TabOkW.add ((jF true).w _ _) func234 (by kernel_rfl) (by kernel_rfl) fun w hw => ?_) func233 (by kernel_rfl) (by kernel_rfl) fun w hw => ?_
  ·exact aCx fun j hj => (h.x j hj).on hw (base:=0)
  ·exact aCo fun k hk => (h.p i hi k hk).on hw (base:=0)
 ·exact ⟨_,_,_,_,hG,hT,aIP pl bt bd N N _,eI (Nat.le_refl _),trivial⟩
 ·show (cB (cB (cB iC))).wp _ _ _ _;exact aC aG hT hG (aDt pl bt bd N N _) trivial hA fun a w' hA => eK (l:=[.fl (bJ (MO pt x pl N))]) (r:=.one (.fl (bJ (MO pt x pl N)))) (by kernel_rfl) (by kernel_rfl) hA
def Sr (D : Nat → J1) (PL : Nat) : Nat → J1
 | 0 => (F1.zero,F1.zero,F1.zero)
 | i + 1 => dW F1 (cG F1 (cG F1 (cG F1 (cG F1 (Sr D PL i))))) (D (PL - 1 - i))
def HU (bt bd : Nat) : Value:=.func (.func 232) #[] #[iE bt 0,iE bd 0]
def FK (bt bd b o n m PL i : Nat) (c : J1) : List Fact:=[.slot 1 (.im (HU bt bd)),.slot 2 (.pt 2 0),.row 2 true (dP b o n m),.slot 4 (.pt 4 0),.row 4 true (bJ (F1.zero,F1.zero,F1.zero)),.slot 5 (.pt 5 0),.row 5 true (bJ c),.slot 6 (.im (iI PL)),.slot 10 (.im (iI PL)),.slot 11 (.im (iI i))]
def aUp (bt bd : Nat) (D : Nat → J1) : lO
 | [.v (.im (.int .i64 (.ofNat p))),.v (.im (.pointer (some ⟨b1,0,.none⟩))),.v (.im (.pointer (some ⟨b2,0,.none⟩)))] => some ([b1 = bt,b2 = bd,p < 1152921504606846976],.one (.fl (bJ (D p))))
 | _ => none
def gPl (b o n m PL : Nat) : lO
 | [.v (.fl [.c (.slice (some ⟨b',o',.none⟩) n' m'),.c (.int .i64 (.ofNat 4))])] => some ([b' = b,o' = o,n' = n,m' = m],.one (.im (iI PL)))
 | _ => none
def aXf (bt bd b o n m PL : Nat) (D : Nat → J1) : Tab:=((fI true).add 253 (gPl b o n m PL)).add 232 (aUp bt bd D)
def gA : Code:=(f231.body).getD .skip
def PF : Code:=pS (pS (cB (cA (cB (cB (cB gA))))))
theorem aAv : gA = .seq (cA gA) (.seq (cA (cB gA)) (.seq (cA (cB (cB gA))) (.seq (.seq (cA (cA (cB (cB (cB gA))))) (.block 0 (.loop PF))) (cB (cB (cB (cB gA))))))):=by kernel_rfl
def XL (bt bd b o n m PL : Nat) (D : Nat → J1) (num : Nat → Option Value) (_ : Nat) : Cfg:=⟨fun _ => aXf bt bd b o n m PL D,fun _ => true,num⟩
def aNk (bt bd b o n m : Nat) : List Fact:=[.slot 1 (.im (HU bt bd)),.slot 2 (.pt 2 0),.row 2 true (dP b o n m),.slot 4 (.pt 4 0),.row 4 true (bJ (F1.zero,F1.zero,F1.zero))]
def aNi (bt bd b o n m : Nat) : List Fact:=[.slot 1 (.im (HU bt bd)),.slot 2 (.pt 2 0),.row 2 true (dP b o n m),.slot 4 (.pt 4 0),.row 4 true (bJ (F1.zero,F1.zero,F1.zero)),.slot 5 (.pt 5 0),.row 5 true (bJ (F1.zero,F1.zero,F1.zero))]
def aAr (bt bd b o n m PL : Nat) : List Fact:=[.slot 1 (.im (HU bt bd)),.slot 2 (.pt 2 0),.row 2 true (dP b o n m),.slot 4 (.pt 4 0),.row 4 true (bJ (F1.zero,F1.zero,F1.zero)),.slot 5 (.pt 5 0),.row 5 true (bJ (F1.zero,F1.zero,F1.zero)),.slot 6 (.im (iI PL))]
theorem aNt (bt bd b o n m PL : Nat) (D : Nat → J1) : aX prog (qG prog) f231.ntmps (XL bt bd b o n m PL D fun _ => none) 40 (cA gA) (kZ 0 [.v (.fl (dP b o n m)),.v (.im (HU bt bd))]) (aNk bt bd b o n m) = some ([],.nrm,aNk bt bd b o n m):=by kernel_rfl
theorem aNs (bt bd b o n m PL : Nat) (D : Nat → J1) : aX prog (qG prog) f231.ntmps (XL bt bd b o n m PL D fun _ => none) 40 (cA (cB gA)) (aNk bt bd b o n m) (aNi bt bd b o n m) = some ([],.nrm,aNi bt bd b o n m):=by kernel_rfl
theorem aNr (bt bd b o n m PL : Nat) (D : Nat → J1) : aX prog (qG prog) f231.ntmps (XL bt bd b o n m PL D fun _ => none) 40 (cA (cB (cB gA))) (aNi bt bd b o n m) (aAr bt bd b o n m PL) = some ([b = b,o = o,n = n,m = m],.nrm,aAr bt bd b o n m PL):=by kernel_rfl
theorem aNq (bt bd b o n m PL : Nat) (D : Nat → J1) : aX prog (qG prog) f231.ntmps (XL bt bd b o n m PL D fun _ => none) 40 (cA (cA (cB (cB (cB gA))))) (aAr bt bd b o n m PL) (FK bt bd b o n m PL 0 (F1.zero,F1.zero,F1.zero)) = some ([],.nrm,FK bt bd b o n m PL 0 (F1.zero,F1.zero,F1.zero)):=by kernel_rfl
theorem aNu (bt bd b o n m PL i : Nat) (D : Nat → J1) (c : J1) : aX prog (qG prog) f231.ntmps (XL bt bd b o n m PL D (assoc [(12,.bool true),(24,iI (PL - 1)),(26,iI (PL - 1 - i)),(29,iI (i + 1))])) 60 PF (FK bt bd b o n m PL i c) (FK bt bd b o n m PL (i + 1) (dW F1 (cG F1 (cG F1 (cG F1 (cG F1 c)))) (D (PL - 1 - i)))) = some ([aI .lss .i64 (Int.ofNat i) (Int.ofNat PL) = some (.bool true),aI .sub .i64 (Int.ofNat PL) 1 = some (iI (PL - 1)),aI .sub .i64 (Int.ofNat (PL - 1)) (Int.ofNat i) = some (iI (PL - 1 - i)),bt = bt,bd = bd,PL - 1 - i < 1152921504606846976,aI .add .i64 (Int.ofNat i) 1 = some (iI (i + 1))],.nrm,FK bt bd b o n m PL (i + 1) (dW F1 (cG F1 (cG F1 (cG F1 (cG F1 c)))) (D (PL - 1 - i)))):=by kernel_rfl
theorem aGW (bt bd b o n m PL i : Nat) (D : Nat → J1) (c : J1) : aX prog (qG prog) f231.ntmps (XL bt bd b o n m PL D (assoc [(12,.bool false)])) 40 PF (FK bt bd b o n m PL i c) (FK bt bd b o n m PL i c) = some ([aI .lss .i64 (Int.ofNat i) (Int.ofNat PL) = some (.bool false)],.ex 0,FK bt bd b o n m PL i c):=by kernel_rfl
theorem aAu (bt bd b o n m PL i : Nat) (D : Nat → J1) (c : J1) : aX prog (qG prog) f231.ntmps (XL bt bd b o n m PL D fun _ => none) 40 (cB (cB (cB (cB gA)))) (FK bt bd b o n m PL i c) [.slot 4 (.pt 4 0),.row 4 true (bJ c)] = some ([],.rt,[.slot 4 (.pt 4 0),.row 4 true (bJ c)]):=by kernel_rfl
theorem Sq {w0 : World} {bt bd bT N b o n m : Nat} {x : Nat → Nat} {pt : Nat → J1} (h : ClMem1 w0 bt bd bT N b o n m x pt) (hN : N ≤ n) (hn : n < 4611686018427387904) : Calls prog 231 #[.agg (aA (dP b o n m)).toArray,HU bt bd] w0 (fun e w' => e = .returned (.agg (aA (bJ (Sr (fun p => MO pt x p N) (mJ x n / 4 + 1) (mJ x n / 4 + 1)))).toArray) ∧ Below w0.heap.size w0 w'):=by
 have hG : cK prog (qG prog) w0.heap.size w0:=(aK _).w _ _;have hL:=PT x n;generalize hPL : mJ x n / 4 + 1 = PL;have hPL' : PL < 1000:=by omega
 have hT : ∀ num,∀ n' d : Nat,TabOkW prog ((XL bt bd b o n m PL (fun p => MO pt x p N) num n').T d) w0.heap.size w0:=fun num _ _ => by
  refine TabOkW.add (TabOkW.add ((jF true).w _ _) func253 (by kernel_rfl) (by kernel_rfl) fun w hw cs pre r hg hq args ha => ?_) func232 (by kernel_rfl) (by kernel_rfl) fun w hw cs pre r hg hq args ha => ?_
  ·unfold gPl at hg;split at hg
   ·cases hg;obtain ⟨rfl,rfl,rfl,rfl,_⟩:=hq;rw [BM ha,← hPL];exact xC _ _ _ _ x (fun j hj => (h.x j hj).on hw (base:=0)) hn
   ·cases hg
  ·unfold aUp at hg;split at hg
   ·rename_i p b1 b2;cases hg;obtain ⟨rfl,rfl,hp,_⟩:=hq
    match args,ha with
    | [u,v,t],ha =>
     have e1 : u = iI p:=ha.1;have e2 : v = iE b1 0:=ha.2.1;have e3 : t = iE b2 0:=ha.2.2.1;subst e1; subst e2; subst e3;exact Uc (h.on hw) hN hn hp
    | [],ha => exact ha.elim
    | [_],ha => exact ha.2.elim
    | [_,_],ha => exact ha.2.2.elim
    | _ :: _ :: _ :: _ :: _,ha => exact ha.2.2.2.elim
   ·cases hg
 refine dS func231 (c:=gA) rfl (args:=[.agg (aA (dP b o n m)).toArray,HU bt bd]) (cs:=[.v (.fl (dP b o n m)),.v (.im (HU bt bd))]) ⟨rfl,rfl,trivial⟩ (Nat.le_of_ble_eq_true (by kernel_rfl)) fun a w' hA => ?_
 rw [aAv];refine wp_seq (aC aG (hT _) hG (aNt bt bd b o n m PL _) trivial hA fun a w' hA => ?_);refine wp_seq (aC aG (hT _) hG (aNs bt bd b o n m PL _) trivial hA fun a w' hA => ?_);refine wp_seq (aC aG (hT _) hG (aNr bt bd b o n m PL _) ⟨rfl,rfl,rfl,rfl,trivial⟩ hA fun a w' hA => ?_);refine wp_seq (wp_seq (aC aG (hT _) hG (aNq bt bd b o n m PL _) trivial hA fun a w' hA => ?_));refine wp_block ?_;refine kB aG (fun i => FK bt bd b o n m PL i (Sr (fun p => MO pt x p N) PL i)) PL (fun i hi => ?_) (.ex 0) (by simp) (FK bt bd b o n m PL PL (Sr (fun p => MO pt x p N) PL PL)) ?_ hA fun a w' hA => ?_
 ·exact ⟨_,_,_,_,hG,hT _,aNu bt bd b o n m PL i _ (Sr (fun p => MO pt x p N) PL i),bX hi,uK (k:=1) (by omega) (by omega),uK (by omega) (by omega),rfl,rfl,by omega,kS (k:=1) (by omega),trivial⟩
 ·exact ⟨_,_,_,_,hG,hT _,aGW bt bd b o n m PL PL _ _,eI (Nat.le_refl _),trivial⟩
 ·show (cB (cB (cB (cB gA)))).wp _ _ _ _;exact aC aG (hT _) hG (aAu bt bd b o n m PL PL _ _) trivial hA fun a w' hA => eK (l:=[.fl (bJ (Sr (fun p => MO pt x p N) PL PL))]) (r:=.one (.fl (bJ (Sr (fun p => MO pt x p N) PL PL)))) (by kernel_rfl) (by kernel_rfl) hA
def KB (p : J2) : Nat → J2
 | 0 => (F2.zero,F2.zero,F2.zero)
 | k + 1 => dW F2 (KB p k) p
def Oh (p : J2) : Int → J2
 | .ofNat 0 => (F2.zero,F2.zero,F2.zero)
 | .ofNat (k + 1) => KB p (k + 1)
 | .negSucc k => sI F2 (KB p (k + 1))
def Oj (old : Nat → Nat → List At → Prop) (k : Nat) (h : Int) (q : J2) : Ext:={ TA old with idx:=assoc [(12,k),(22,k)],ld:=assoc [(13,bI q),(23,bI q)],gen:=assoc [(19,.int .i64 h)] }
theorem Pj (old : Nat → Nat → List At → Prop) (b off k : Nat) (g h : Int) (q : J2) : aW prog (qX prog (Oj old k h q)) (fun _ => ⟨fun s => fI true,fun s => true,assoc [(7,.bool true),(10,iI k)]⟩) f242 80 [.v (.im (iE b off)),.v (.im (.int .i64 g))] = some ([aI .gtr .i64 g 0 = some (.bool true),aI .sub .i64 g 1 = some (iI k),Int.ofNat k = Int.ofNat k,k < 8,old b (off + k * 24) (bI q),cS (bI q) = 24],.one (.fl (bI q))):=by kernel_rfl
theorem Pk (old : Nat → Nat → List At → Prop) (b off k : Nat) (g h : Int) (q : J2) : aW prog (qX prog (Oj old k h q)) (fun _ => ⟨fun s => fI true,fun s => true,assoc [(7,.bool false),(16,.bool true),(20,iI k)]⟩) f242 80 [.v (.im (iE b off)),.v (.im (.int .i64 g))] = some ([aI .gtr .i64 g 0 = some (.bool false),aI .lss .i64 g 0 = some (.bool true),(∀ W : World,(Op.unary .neg (.int .i64 g)).run prog W = .ok (.int .i64 h) W),aI .sub .i64 h 1 = some (iI k),Int.ofNat k = Int.ofNat k,k < 8,old b (off + k * 24) (bI q),cS (bI q) = 24],.one (.fl (bI (sI F2 q)))):=by kernel_rfl
theorem Pi (old : Nat → Nat → List At → Prop) (b off k : Nat) (g h : Int) (q : J2) : aW prog (qX prog (Oj old k h q)) (fun _ => ⟨fun s => fI true,fun s => true,assoc [(7,.bool false),(16,.bool false)]⟩) f242 80 [.v (.im (iE b off)),.v (.im (.int .i64 g))] = some ([aI .gtr .i64 g 0 = some (.bool false),aI .lss .i64 g 0 = some (.bool false)],.one (.fl (bI (F2.zero,F2.zero,F2.zero)))):=by kernel_rfl
theorem Ba {w0 : World} (b off : Nat) (g : Int) (p : J2) (hp : ∀ k,k < 8 → oldOf w0 b (off + k * 24) (bI (KB p (k + 1)))) (h1 : -8 ≤ g) (h2 : g ≤ 8) : Calls prog 242 #[iE b off,.int .i64 g] w0 (fun e w' => e = .returned (.agg (aA (bI (Oh p g))).toArray) ∧ Below w0.heap.size w0 w'):=by
 have hT : ∀ n d : Nat,TabOkW prog (fI true) w0.heap.size w0:=fun _ _ => (jF true).w _ _
 have ha : bR w0 [.v (.im (iE b off)),.v (.im (.int .i64 g))] [iE b off,.int .i64 g]:=⟨rfl,rfl,trivial⟩
 match g,h1,h2,ha with
 | .ofNat 0,_,_,ha => exact bE aG hT (rN (x:=Oj (oldOf w0) 0 0 (F2.zero,F2.zero,F2.zero)) rfl rfl) func242 (Pi (oldOf w0) b off 0 _ 0 (F2.zero,F2.zero,F2.zero)) ⟨rfl,rfl,trivial⟩ ha
 | .ofNat (k + 1),_,h2,ha =>
  have hk : k < 8:=by have h2' : ((k + 1 : Nat) : Int) ≤ 8:=h2; omega
  exact bE aG hT (rN (x:=Oj (oldOf w0) k 0 (KB p (k + 1))) rfl rfl) func242 (Pj (oldOf w0) b off k _ 0 (KB p (k + 1))) ⟨by rw [show (0 : Int) = Int.ofNat 0 from rfl,AW,decide_eq_true (by omega)],uK (k:=1) (by omega) (by omega),rfl,hk,hp k hk,rfl,trivial⟩ ha
 | .negSucc k,h1,_,ha =>
  have hk : k < 8:=by have h1' : -8 ≤ -((k : Int) + 1):=h1; omega
  refine bE aG hT (rN (x:=Oj (oldOf w0) k (Int.ofNat (k + 1)) (KB p (k + 1))) rfl rfl) func242 (Pk (oldOf w0) b off k _ (Int.ofNat (k + 1)) (KB p (k + 1))) ⟨?_,?_,?_,uK (k:=1) (by omega) (by omega),rfl,hk,hp k hk,rfl,trivial⟩ ha
  ·show some (Value.bool (decide (Int.negSucc k > 0))) = _;rw [decide_eq_false (by omega)]
  ·show some (Value.bool (decide (Int.negSucc k < 0))) = _;rw [decide_eq_true (by omega)]
  ·intro W;have e : IntKind.i64.wrap (0 - Int.negSucc k) = Int.ofNat (k + 1):=by rw [IntKind.wrap_i64]; show _ = ((k + 1 : Nat) : Int); omega
   show (Op.intArith .sub .i64 0 (Int.negSucc k)).run prog W = _;simp only [Op.intArith,Sem.run_pure,e]
def aCn (bT i : Nat) (p : J2) : lO
 | [.v (.im (.pointer (some ⟨b',off,.none⟩))),.v (.im (.int .i64 g))] => some ([b' = bT,off = i * 192,-8 ≤ g,g ≤ 8],.one (.fl (bI (Oh p g))))
 | _ => none
theorem aCm {w : World} {bT i : Nat} {p : J2} (hp : ∀ k,k < 8 → oldOf w bT (i * 192 + k * 24) (bI (KB p (k + 1)))) : ∀ cs pre r,aCn bT i p cs = some (pre,r) → aY pre → ∀ (args : List Value),bR w cs args → Good prog 242 r args w:=by
 intro cs pre r hg hq args ha;unfold aCn at hg;split at hg
 ·rename_i b' off g;cases hg;obtain ⟨rfl,rfl,h1,h2,_⟩:=hq
  match args,ha with
  | [u,v],ha =>
   have e1 : u = iE b' (i * 192):=ha.1;have e2 : v = .int .i64 g:=ha.2.1;subst e1; subst e2;exact Ba b' _ g p hp h1 h2
  | [],ha => exact ha.elim
  | [_],ha => exact ha.2.elim
  | _ :: _ :: _ :: _,ha => exact ha.2.2.elim
 ·cases hg
def MN (pt : Nat → J2) (x : Nat → Nat) (p : Nat) : Nat → J2
 | 0 => (F2.zero,F2.zero,F2.zero)
 | i + 1 => dW F2 (MN pt x p i) (Oh (pt i) (lN (x i) p))
def aIM (old : Nat → Nat → List At → Prop) (bT N b o n m i : Nat) : Ext:={ TA old with idx:=assoc [(15,i)],ld:=assoc [(16,dP b o n m)],gen:=assoc [(7,jW bT 0 N N),(13,jW bT 0 N N)] }
def HZ (pl bt bd N i : Nat) (c : J2) : List Fact:=[.slot 0 (.im (iI pl)),.slot 1 (.im (iE bt 0)),.slot 2 (.im (iE bd 0)),.slot 4 (.pt 4 0),.row 4 true (bI (F2.zero,F2.zero,F2.zero)),.slot 5 (.pt 5 0),.row 5 true (bI c),.slot 8 (.im (iI N)),.slot 9 (.im (iI i))]
def aYh (bT b o n m : Nat) (x : Nat → Nat) (i : Nat) (p : J2) : Tab:=((fI true).add 234 (gAt b o n m x)).add 242 (aCn bT i p)
def iA : Code:=(f241.body).getD .skip
def RH : Code:=pS (pS (cB (cA (cB (cB iA)))))
theorem aDs : iA = .seq (cA iA) (.seq (cA (cB iA)) (.seq (.seq (cA (cA (cB (cB iA)))) (.block 0 (.loop RH))) (cB (cB (cB iA))))):=by kernel_rfl
def aPR (pl bt bd : Nat) : List Fact:=[.slot 0 (.im (iI pl)),.slot 1 (.im (iE bt 0)),.slot 2 (.im (iE bd 0)),.slot 4 (.pt 4 0),.row 4 true (bI (F2.zero,F2.zero,F2.zero))]
def aPP (pl bt bd : Nat) : List Fact:=[.slot 0 (.im (iI pl)),.slot 1 (.im (iE bt 0)),.slot 2 (.im (iE bd 0)),.slot 4 (.pt 4 0),.row 4 true (bI (F2.zero,F2.zero,F2.zero)),.slot 5 (.pt 5 0),.row 5 true (bI (F2.zero,F2.zero,F2.zero))]
theorem aPV (pl bt bd : Nat) : aX prog (qG prog) f241.ntmps (An fun _ => none) 40 (cA iA) (kZ 0 [.v (.im (iI pl)),.v (.im (iE bt 0)),.v (.im (iE bd 0))]) (aPR pl bt bd) = some ([],.nrm,aPR pl bt bd):=by kernel_rfl
theorem aPU (pl bt bd : Nat) : aX prog (qG prog) f241.ntmps (An fun _ => none) 40 (cA (cB iA)) (aPR pl bt bd) (aPP pl bt bd) = some ([],.nrm,aPP pl bt bd):=by kernel_rfl
theorem aPT (old : Nat → Nat → List At → Prop) (pl bt bd bT N b o n m : Nat) : aX prog (qX prog (aIM old bT N b o n m 0)) f241.ntmps (An fun _ => none) 40 (cA (cA (cB (cB iA)))) (aPP pl bt bd) (HZ pl bt bd N 0 (F2.zero,F2.zero,F2.zero)) = some ([old bt 0 [.c (jW bT 0 N N)]],.nrm,HZ pl bt bd N 0 (F2.zero,F2.zero,F2.zero)):=by kernel_rfl
theorem aPW (old : Nat → Nat → List At → Prop) (pl bt bd bT N b o n m i : Nat) (x : Nat → Nat) (p c : J2) : aX prog (qX prog (aIM old bT N b o n m i)) f241.ntmps (fun _ => ⟨fun _ => aYh bT b o n m x i p,fun _ => true,assoc [(10,.bool true),(22,iI (i + 1))]⟩) 40 RH (HZ pl bt bd N i c) (HZ pl bt bd N (i + 1) (dW F2 c (Oh p (lN (x i) pl)))) = some ([aI .lss .i64 (Int.ofNat i) (Int.ofNat N) = some (.bool true),old bt 0 [.c (jW bT 0 N N)],Int.ofNat i = Int.ofNat i,i < N,old bd 0 (dP b o n m),cS (dP b o n m) = 2,b = b,o = o,n = n,m = m,i < n,pl < 1152921504606846976,bT = bT,0 + i * 192 = i * 192,-8 ≤ lN (x i) pl,lN (x i) pl ≤ 8,aI .add .i64 (Int.ofNat i) 1 = some (iI (i + 1))],.nrm,HZ pl bt bd N (i + 1) (dW F2 c (Oh p (lN (x i) pl)))):=by kernel_rfl
theorem aIO (pl bt bd N i : Nat) (c : J2) : aX prog (qG prog) f241.ntmps (An (assoc [(10,.bool false)])) 40 RH (HZ pl bt bd N i c) (HZ pl bt bd N i c) = some ([aI .lss .i64 (Int.ofNat i) (Int.ofNat N) = some (.bool false)],.ex 0,HZ pl bt bd N i c):=by kernel_rfl
theorem aDr (pl bt bd N i : Nat) (c : J2) : aX prog (qG prog) f241.ntmps (An fun _ => none) 40 (cB (cB (cB iA))) (HZ pl bt bd N i c) [.slot 4 (.pt 4 0),.row 4 true (bI c)] = some ([],.rt,[.slot 4 (.pt 4 0),.row 4 true (bI c)]):=by kernel_rfl
structure ClMem2 (w : World) (bt bd bT N b o n m : Nat) (x : Nat → Nat) (pt : Nat → J2) : Prop where
 t : oldOf w bt 0 [.c (jW bT 0 N N)]
 d : oldOf w bd 0 (dP b o n m)
 x : ∀ i,i < n → oldOf w b (o + i * 4) [.q (x i)]
 p : ∀ i,i < N → ∀ k,k < 8 → oldOf w bT (i * 192 + k * 24) (bI (KB (pt i) (k + 1)))
theorem ClMem2.on {w w' : World} (hb : Below w.heap.size w w') {bt bd bT N b o n m : Nat} {x : Nat → Nat} {pt : Nat → J2} (h : ClMem2 w bt bd bT N b o n m x pt) : ClMem2 w' bt bd bT N b o n m x pt :=
 ⟨h.t.on hb (base:=0),h.d.on hb (base:=0),fun i hi => (h.x i hi).on hb (base:=0),fun i hi k hk => (h.p i hi k hk).on hb (base:=0)⟩
theorem Ub {w0 : World} {bt bd bT N b o n m : Nat} {x : Nat → Nat} {pt : Nat → J2} (h : ClMem2 w0 bt bd bT N b o n m x pt) (hN : N ≤ n) (hn : n < 4611686018427387904) {pl : Nat} (hpl : pl < 1152921504606846976) : Calls prog 241 #[iI pl,iE bt 0,iE bd 0] w0 (fun e w' => e = .returned (.agg (aA (bI (MN pt x pl N))).toArray) ∧ Below w0.heap.size w0 w'):=by
 have hG : cK prog (qG prog) w0.heap.size w0:=(aK _).w _ _;have hT : ∀ n d : Nat,TabOkW prog (fI true) w0.heap.size w0:=fun _ _ => (jF true).w _ _
 refine dS func241 (c:=iA) rfl (args:=[iI pl,iE bt 0,iE bd 0]) (cs:=[.v (.im (iI pl)),.v (.im (iE bt 0)),.v (.im (iE bd 0))]) ⟨rfl,rfl,rfl,trivial⟩ (Nat.le_of_ble_eq_true (by kernel_rfl)) fun a w' hA => ?_
 rw [aDs];refine wp_seq (aC aG hT hG (aPV pl bt bd) trivial hA fun a w' hA => ?_);refine wp_seq (aC aG hT hG (aPU pl bt bd) trivial hA fun a w' hA => ?_);refine wp_seq (wp_seq (aC aG hT (rN (x:=aIM (oldOf w0) bT N b o n m 0) rfl rfl) (aPT (oldOf w0) pl bt bd bT N b o n m) ⟨h.t,trivial⟩ hA fun a w' hA => ?_));refine wp_block ?_;refine kB aG (fun i => HZ pl bt bd N i (MN pt x pl i)) N (fun i hi => ?_) (.ex 0) (by simp) (HZ pl bt bd N N (MN pt x pl N)) ?_ hA fun a w' hA => ?_
 ·refine ⟨_,_,_,_,rN (x:=aIM (oldOf w0) bT N b o n m i) rfl rfl,fun _ _ => ?_,aPW (oldOf w0) pl bt bd bT N b o n m i x (pt i) (MN pt x pl i),bX hi,h.t,rfl,hi,h.d,rfl,rfl,rfl,rfl,rfl,by omega,hpl,rfl,by omega,(DG _ _).1,(DG _ _).2,kS (k:=1) (by omega),trivial⟩;refine TabOkW.add (TabOkW.add ((jF true).w _ _) func234 (by kernel_rfl) (by kernel_rfl) fun w hw => ?_) func242 (by kernel_rfl) (by kernel_rfl) fun w hw => ?_
  ·exact aCx fun j hj => (h.x j hj).on hw (base:=0)
  ·exact aCm fun k hk => (h.p i hi k hk).on hw (base:=0)
 ·exact ⟨_,_,_,_,hG,hT,aIO pl bt bd N N _,eI (Nat.le_refl _),trivial⟩
 ·show (cB (cB (cB iA))).wp _ _ _ _;exact aC aG hT hG (aDr pl bt bd N N _) trivial hA fun a w' hA => eK (l:=[.fl (bI (MN pt x pl N))]) (r:=.one (.fl (bI (MN pt x pl N)))) (by kernel_rfl) (by kernel_rfl) hA
def Sp (D : Nat → J2) (PL : Nat) : Nat → J2
 | 0 => (F2.zero,F2.zero,F2.zero)
 | i + 1 => dW F2 (cG F2 (cG F2 (cG F2 (cG F2 (Sp D PL i))))) (D (PL - 1 - i))
def HQ (bt bd : Nat) : Value:=.func (.func 241) #[] #[iE bt 0,iE bd 0]
def FJ (bt bd b o n m PL i : Nat) (c : J2) : List Fact:=[.slot 1 (.im (HQ bt bd)),.slot 2 (.pt 2 0),.row 2 true (dP b o n m),.slot 4 (.pt 4 0),.row 4 true (bI (F2.zero,F2.zero,F2.zero)),.slot 5 (.pt 5 0),.row 5 true (bI c),.slot 6 (.im (iI PL)),.slot 10 (.im (iI PL)),.slot 11 (.im (iI i))]
def aUo (bt bd : Nat) (D : Nat → J2) : lO
 | [.v (.im (.int .i64 (.ofNat p))),.v (.im (.pointer (some ⟨b1,0,.none⟩))),.v (.im (.pointer (some ⟨b2,0,.none⟩)))] => some ([b1 = bt,b2 = bd,p < 1152921504606846976],.one (.fl (bI (D p))))
 | _ => none
def aXe (bt bd b o n m PL : Nat) (D : Nat → J2) : Tab:=((fI true).add 253 (gPl b o n m PL)).add 241 (aUo bt bd D)
def fW : Code:=(f240.body).getD .skip
def PE : Code:=pS (pS (cB (cA (cB (cB (cB fW))))))
theorem aAt : fW = .seq (cA fW) (.seq (cA (cB fW)) (.seq (cA (cB (cB fW))) (.seq (.seq (cA (cA (cB (cB (cB fW))))) (.block 0 (.loop PE))) (cB (cB (cB (cB fW))))))):=by kernel_rfl
def XK (bt bd b o n m PL : Nat) (D : Nat → J2) (num : Nat → Option Value) (_ : Nat) : Cfg:=⟨fun _ => aXe bt bd b o n m PL D,fun _ => true,num⟩
def aNj (bt bd b o n m : Nat) : List Fact:=[.slot 1 (.im (HQ bt bd)),.slot 2 (.pt 2 0),.row 2 true (dP b o n m),.slot 4 (.pt 4 0),.row 4 true (bI (F2.zero,F2.zero,F2.zero))]
def aNh (bt bd b o n m : Nat) : List Fact:=[.slot 1 (.im (HQ bt bd)),.slot 2 (.pt 2 0),.row 2 true (dP b o n m),.slot 4 (.pt 4 0),.row 4 true (bI (F2.zero,F2.zero,F2.zero)),.slot 5 (.pt 5 0),.row 5 true (bI (F2.zero,F2.zero,F2.zero))]
def aAq (bt bd b o n m PL : Nat) : List Fact:=[.slot 1 (.im (HQ bt bd)),.slot 2 (.pt 2 0),.row 2 true (dP b o n m),.slot 4 (.pt 4 0),.row 4 true (bI (F2.zero,F2.zero,F2.zero)),.slot 5 (.pt 5 0),.row 5 true (bI (F2.zero,F2.zero,F2.zero)),.slot 6 (.im (iI PL))]
theorem aNo (bt bd b o n m PL : Nat) (D : Nat → J2) : aX prog (qG prog) f240.ntmps (XK bt bd b o n m PL D fun _ => none) 40 (cA fW) (kZ 0 [.v (.fl (dP b o n m)),.v (.im (HQ bt bd))]) (aNj bt bd b o n m) = some ([],.nrm,aNj bt bd b o n m):=by kernel_rfl
theorem aNn (bt bd b o n m PL : Nat) (D : Nat → J2) : aX prog (qG prog) f240.ntmps (XK bt bd b o n m PL D fun _ => none) 40 (cA (cB fW)) (aNj bt bd b o n m) (aNh bt bd b o n m) = some ([],.nrm,aNh bt bd b o n m):=by kernel_rfl
theorem aNm (bt bd b o n m PL : Nat) (D : Nat → J2) : aX prog (qG prog) f240.ntmps (XK bt bd b o n m PL D fun _ => none) 40 (cA (cB (cB fW))) (aNh bt bd b o n m) (aAq bt bd b o n m PL) = some ([b = b,o = o,n = n,m = m],.nrm,aAq bt bd b o n m PL):=by kernel_rfl
theorem aNl (bt bd b o n m PL : Nat) (D : Nat → J2) : aX prog (qG prog) f240.ntmps (XK bt bd b o n m PL D fun _ => none) 40 (cA (cA (cB (cB (cB fW))))) (aAq bt bd b o n m PL) (FJ bt bd b o n m PL 0 (F2.zero,F2.zero,F2.zero)) = some ([],.nrm,FJ bt bd b o n m PL 0 (F2.zero,F2.zero,F2.zero)):=by kernel_rfl
theorem aNp (bt bd b o n m PL i : Nat) (D : Nat → J2) (c : J2) : aX prog (qG prog) f240.ntmps (XK bt bd b o n m PL D (assoc [(12,.bool true),(24,iI (PL - 1)),(26,iI (PL - 1 - i)),(29,iI (i + 1))])) 60 PE (FJ bt bd b o n m PL i c) (FJ bt bd b o n m PL (i + 1) (dW F2 (cG F2 (cG F2 (cG F2 (cG F2 c)))) (D (PL - 1 - i)))) = some ([aI .lss .i64 (Int.ofNat i) (Int.ofNat PL) = some (.bool true),aI .sub .i64 (Int.ofNat PL) 1 = some (iI (PL - 1)),aI .sub .i64 (Int.ofNat (PL - 1)) (Int.ofNat i) = some (iI (PL - 1 - i)),bt = bt,bd = bd,PL - 1 - i < 1152921504606846976,aI .add .i64 (Int.ofNat i) 1 = some (iI (i + 1))],.nrm,FJ bt bd b o n m PL (i + 1) (dW F2 (cG F2 (cG F2 (cG F2 (cG F2 c)))) (D (PL - 1 - i)))):=by kernel_rfl
theorem aGV (bt bd b o n m PL i : Nat) (D : Nat → J2) (c : J2) : aX prog (qG prog) f240.ntmps (XK bt bd b o n m PL D (assoc [(12,.bool false)])) 40 PE (FJ bt bd b o n m PL i c) (FJ bt bd b o n m PL i c) = some ([aI .lss .i64 (Int.ofNat i) (Int.ofNat PL) = some (.bool false)],.ex 0,FJ bt bd b o n m PL i c):=by kernel_rfl
theorem aAs (bt bd b o n m PL i : Nat) (D : Nat → J2) (c : J2) : aX prog (qG prog) f240.ntmps (XK bt bd b o n m PL D fun _ => none) 40 (cB (cB (cB (cB fW)))) (FJ bt bd b o n m PL i c) [.slot 4 (.pt 4 0),.row 4 true (bI c)] = some ([],.rt,[.slot 4 (.pt 4 0),.row 4 true (bI c)]):=by kernel_rfl
theorem So {w0 : World} {bt bd bT N b o n m : Nat} {x : Nat → Nat} {pt : Nat → J2} (h : ClMem2 w0 bt bd bT N b o n m x pt) (hN : N ≤ n) (hn : n < 4611686018427387904) : Calls prog 240 #[.agg (aA (dP b o n m)).toArray,HQ bt bd] w0 (fun e w' => e = .returned (.agg (aA (bI (Sp (fun p => MN pt x p N) (mJ x n / 4 + 1) (mJ x n / 4 + 1)))).toArray) ∧ Below w0.heap.size w0 w'):=by
 have hG : cK prog (qG prog) w0.heap.size w0:=(aK _).w _ _;have hL:=PT x n;generalize hPL : mJ x n / 4 + 1 = PL;have hPL' : PL < 1000:=by omega
 have hT : ∀ num,∀ n' d : Nat,TabOkW prog ((XK bt bd b o n m PL (fun p => MN pt x p N) num n').T d) w0.heap.size w0:=fun num _ _ => by
  refine TabOkW.add (TabOkW.add ((jF true).w _ _) func253 (by kernel_rfl) (by kernel_rfl) fun w hw cs pre r hg hq args ha => ?_) func241 (by kernel_rfl) (by kernel_rfl) fun w hw cs pre r hg hq args ha => ?_
  ·unfold gPl at hg;split at hg
   ·cases hg;obtain ⟨rfl,rfl,rfl,rfl,_⟩:=hq;rw [BM ha,← hPL];exact xC _ _ _ _ x (fun j hj => (h.x j hj).on hw (base:=0)) hn
   ·cases hg
  ·unfold aUo at hg;split at hg
   ·rename_i p b1 b2;cases hg;obtain ⟨rfl,rfl,hp,_⟩:=hq
    match args,ha with
    | [u,v,t],ha =>
     have e1 : u = iI p:=ha.1;have e2 : v = iE b1 0:=ha.2.1;have e3 : t = iE b2 0:=ha.2.2.1;subst e1; subst e2; subst e3;exact Ub (h.on hw) hN hn hp
    | [],ha => exact ha.elim
    | [_],ha => exact ha.2.elim
    | [_,_],ha => exact ha.2.2.elim
    | _ :: _ :: _ :: _ :: _,ha => exact ha.2.2.2.elim
   ·cases hg
 refine dS func240 (c:=fW) rfl (args:=[.agg (aA (dP b o n m)).toArray,HQ bt bd]) (cs:=[.v (.fl (dP b o n m)),.v (.im (HQ bt bd))]) ⟨rfl,rfl,trivial⟩ (Nat.le_of_ble_eq_true (by kernel_rfl)) fun a w' hA => ?_
 rw [aAt];refine wp_seq (aC aG (hT _) hG (aNo bt bd b o n m PL _) trivial hA fun a w' hA => ?_);refine wp_seq (aC aG (hT _) hG (aNn bt bd b o n m PL _) trivial hA fun a w' hA => ?_);refine wp_seq (aC aG (hT _) hG (aNm bt bd b o n m PL _) ⟨rfl,rfl,rfl,rfl,trivial⟩ hA fun a w' hA => ?_);refine wp_seq (wp_seq (aC aG (hT _) hG (aNl bt bd b o n m PL _) trivial hA fun a w' hA => ?_));refine wp_block ?_;refine kB aG (fun i => FJ bt bd b o n m PL i (Sp (fun p => MN pt x p N) PL i)) PL (fun i hi => ?_) (.ex 0) (by simp) (FJ bt bd b o n m PL PL (Sp (fun p => MN pt x p N) PL PL)) ?_ hA fun a w' hA => ?_
 ·exact ⟨_,_,_,_,hG,hT _,aNp bt bd b o n m PL i _ (Sp (fun p => MN pt x p N) PL i),bX hi,uK (k:=1) (by omega) (by omega),uK (by omega) (by omega),rfl,rfl,by omega,kS (k:=1) (by omega),trivial⟩
 ·exact ⟨_,_,_,_,hG,hT _,aGV bt bd b o n m PL PL _ _,eI (Nat.le_refl _),trivial⟩
 ·show (cB (cB (cB (cB fW)))).wp _ _ _ _;exact aC aG (hT _) hG (aAs bt bd b o n m PL PL _ _) trivial hA fun a w' hA => eK (l:=[.fl (bI (Sp (fun p => MN pt x p N) PL PL))]) (r:=.one (.fl (bI (Sp (fun p => MN pt x p N) PL PL)))) (by kernel_rfl) (by kernel_rfl) hA
theorem vZ {P : Program} {id : Nat} {ops : Array Oper} {l : List Nat} (hl : List.range ops.size = l) {Q : Exit → Act → World → Prop} {a : Act} {w : World} (h : wpOps P ops Q l a w) : (Code.region id ops false).wp P Q a w:=wp_region (by rw [hl]; exact h)
def uC : J1:=(F1.zero,F1.zero,F1.zero)
def uT (p : J1) : List At:=bJ (KC p 1) ++ (bJ (KC p 2) ++ (bJ (KC p 3) ++ (bJ (KC p 4) ++ (bJ (KC p 5) ++ (bJ (KC p 6) ++ (bJ (KC p 7) ++ (bJ (KC p 8))))))))
def zT1 : List At:=bJ uC ++ (bJ uC ++ (bJ uC ++ (bJ uC ++ (bJ uC ++ (bJ uC ++ (bJ uC ++ (bJ uC)))))))
theorem Ig (p : J1) : cS (uT p) = 96:=by kernel_rfl
theorem Uy : cS zT1 = 96:=by kernel_rfl
def uE (p : J1) (k : Nat) : List At:=bJ (KC p (k + 1))
theorem We (p : J1) : uT p = cD (uE p) 0 8:=by
 show uT p = uE p 0 ++ (uE p 1 ++ (uE p 2 ++ (uE p 3 ++ (uE p 4 ++ (uE p 5 ++ (uE p 6 ++ (uE p 7 ++ [])))))));rw [List.append_nil];rfl
theorem Xg (p : J1) : aW prog (qG prog) (fun _ => ⟨fun s => fI true,fun s => true,fun _ => none⟩) f230 200 [.v (.fl (bJ p))] = some ([],.one (.fl (uT p))):=by kernel_rfl
def jO : Tab:=(fI true).add 230 (g1 Sa fun p => ([],.one (.fl (uT p))))
theorem hZ : TabOk prog jO:=(jF true).ad func230 (bC mR fun p hp args w ha => aB aG (fun _ s => jF _) (aK prog) func230 (Xg p) trivial ha)
def dN : Code:=(f191.body).getD .skip
def RR : Code:=pS (pS (cB (cA (cB (cB dN)))))
theorem aDP : dN = .seq (cA dN) (.seq (.region 1 (cJ (cA (cB dN))) false) (.seq (.seq (cA (cA (cB (cB dN)))) (.block 0 (.loop RR))) (.seq (cA (cB (cB (cB dN)))) (.seq (.region 8 (cJ (cA (cB (cB (cB (cB dN)))))) false) .ret)))):=by kernel_rfl
def aQk (LP : List At) (N N' : Nat) (vn : Value) : List Fact:=[.slot 0 (.sl 0 0 N N'),.row 0 false LP,.slot 1 (.im vn),.slot 4 (.pt 4 0),.row 4 true (bJ uC)]
def aDN (LP Z : List At) (N N' : Nat) (vn : Value) : List Fact:=[.slot 0 (.sl 0 0 N N'),.row 0 false LP,.slot 1 (.im vn),.slot 4 (.pt 4 0),.row 4 true (bJ uC),.slot 11 (.sl 11 0 N N),.row 11 true Z,.slot 5 (.pt 5 0),.row 5 true [.c (.slice none 0 0)]]
def aQi (LP Z : List At) (N N' b : Nat) (vn : Value) : List Fact:=[.at 11 b,.slot 0 (.sl 0 0 N N'),.row 0 false LP,.slot 1 (.im vn),.slot 4 (.pt 4 0),.row 4 true (bJ uC),.row 11 true Z,.slot 5 (.pt 5 0),.row 5 true [.c (jW b 0 N N)]]
def IJ (LP Z : List At) (N N' b : Nat) (vn : Value) (i : Nat) : List Fact:=[.at 11 b,.slot 0 (.sl 0 0 N N'),.row 0 false LP,.slot 1 (.im vn),.slot 4 (.pt 4 0),.row 4 true (bJ uC),.row 11 true Z,.slot 5 (.pt 5 0),.row 5 true [.c (jW b 0 N N)],.slot 12 (.sl 0 0 N N'),.slot 13 (.im (iI N)),.slot 14 (.im (iI i))]
def aDL (Z : List At) (N b bn on n m : Nat) : List Fact:=[.at 11 b,.slot 4 (.pt 4 0),.row 4 true (bJ uC),.row 11 true Z,.slot 5 (.pt 5 0),.row 5 true [.c (jW b 0 N N)],.slot 8 (.pt 8 0),.row 8 true (dP bn on n m)]
def CH (Z : List At) (N b b5 b8 bn on n m : Nat) : List Fact:=[.at 5 b5,.at 8 b8,.at 11 b,.slot 4 (.pt 4 0),.row 4 true (bJ uC),.row 11 true Z,.row 5 true [.c (jW b 0 N N)],.row 8 true (dP bn on n m),.slot 27 (.fl (dP bn on n m)),.slot 28 (.im (HU b5 b8))]
def aDJ (num : Nat → Option Value) (_ : Nat) : Cfg:=⟨fun _ => jO,fun _ => true,num⟩
def BK : Cfg:=⟨fun _ => jO,fun _ => true,fun _ => none⟩
theorem aQz (LP : List At) (N N' : Nat) (vn : Value) : aX prog (qG prog) f191.ntmps (aDJ fun _ => none) 40 (cA dN) (kZ 0 [.s LP N N',.v (.im vn)]) (aQk LP N N' vn) = some ([],.nrm,aQk LP N N' vn):=by kernel_rfl
def aKO (N : Nat) (Z : List At) : Ext:={ TA (fun _ _ _ => False) with mks:=assoc [(11,(N,Z))] }
theorem aQy (LP Z : List At) (N N' : Nat) (vn : Value) : rJ prog (qX prog (aKO N Z)) f191.ntmps BK ((cJ (cA (cB dN))).extract 0 4) (aQk LP N N' vn) (aDN LP Z N N' vn) = some ([∃ e,∀ w : World,(Instr.makeSlice 266 (iI N) (iI N)).run prog w = .ok (.slice (some ⟨w.heap.size,0,none⟩) N N) (w.alloc (.cells (aA Z).toArray e))],aDN LP Z N N' vn):=by kernel_rfl
theorem aQx (LP Z : List At) (N N' b : Nat) (vn : Value) : rJ prog (qG prog) f191.ntmps BK ((cJ (cA (cB dN))).extract 4 5) (.slot 11 (.im (jW b 0 N N)) :: .at 11 b :: aDN LP Z N N' vn) (aQi LP Z N N' b vn) = some ([],aQi LP Z N N' b vn):=by kernel_rfl
theorem aQw (LP Z : List At) (N N' b : Nat) (vn : Value) : aX prog (qG prog) f191.ntmps (aDJ fun _ => none) 40 (cA (cA (cB (cB dN)))) (aQi LP Z N N' b vn) (IJ LP Z N N' b vn 0) = some ([],.nrm,IJ LP Z N N' b vn 0):=by kernel_rfl
def aVj (N b i : Nat) (p : J1) (Z' : List At) : Ext:={ TA (fun _ _ _ => False) with idx:=assoc [(17,i),(23,i)],ld:=assoc [(18,bJ p)],st:=assoc [(23,Z')],gen:=assoc [(19,jW b 0 N N)],ky:=assoc [(19,11)] }
theorem aQA (LP Z Z' : List At) (N N' b : Nat) (vn : Value) (i : Nat) (p : J1) : aX prog (qX prog (aVj N b i p Z')) f191.ntmps (aDJ (assoc [(15,.bool true),(24,iI (i + 1))])) 40 RR (IJ LP Z N N' b vn i) (IJ LP Z' N N' b vn (i + 1)) = some ([aI .lss .i64 (Int.ofNat i) (Int.ofNat N) = some (.bool true),Int.ofNat i = Int.ofNat i,i < N,fO LP (0 + i * 12) 12 = some (bJ p),cellAt [.c (jW b 0 N N)] 0 = some (jW b 0 N N),b = b,Int.ofNat i = Int.ofNat i,i < N,put Z (0 + i * 96) (uT p) = some Z',aI .add .i64 (Int.ofNat i) 1 = some (iI (i + 1))],.nrm,IJ LP Z' N N' b vn (i + 1)):=by kernel_rfl
theorem aIV (LP Z : List At) (N N' b : Nat) (vn : Value) (i : Nat) : aX prog (qG prog) f191.ntmps (aDJ (assoc [(15,.bool false)])) 40 RR (IJ LP Z N N' b vn i) (IJ LP Z N N' b vn i) = some ([aI .lss .i64 (Int.ofNat i) (Int.ofNat N) = some (.bool false)],.ex 0,IJ LP Z N N' b vn i):=by kernel_rfl
theorem aQv (LP Z : List At) (N N' b bn on n m i : Nat) : aX prog (qG prog) f191.ntmps (aDJ fun _ => none) 40 (cA (cB (cB (cB dN)))) (IJ LP Z N N' b (jW bn on n m) i) (aDL Z N b bn on n m) = some ([],.nrm,aDL Z N b bn on n m):=by kernel_rfl
theorem aQu (Z : List At) (N b b5 b8 bn on n m : Nat) : rJ prog (qG prog) f191.ntmps BK ((cJ (cA (cB (cB (cB (cB dN)))))).extract 0 2) (.at 8 b8 :: .at 5 b5 :: aDL Z N b bn on n m) (CH Z N b b5 b8 bn on n m) = some ([],CH Z N b b5 b8 bn on n m):=by kernel_rfl
theorem aQt (Z : List At) (N b b5 b8 bn on n m : Nat) (r : J1) : rJ prog (qG prog) f191.ntmps BK ((cJ (cA (cB (cB (cB (cB dN)))))).extract 3 4) (.slot 29 (.fl (bJ r)) :: CH Z N b b5 b8 bn on n m) [.slot 4 (.pt 4 0),.row 4 true (bJ r)] = some ([],[.slot 4 (.pt 4 0),.row 4 true (bJ r)]):=by kernel_rfl
theorem Uz : sT (aA zT1) (.int .u64 0):=by unfold sT; kernel_rfl
theorem aIU {w : World} {b N i k : Nat} {pt : Nat → J1} (h : oldOf w b 0 (cD (fun j => uT (pt j)) 0 N)) (hi : i < N) (hk : k < 8) : oldOf w b (i * 96 + k * 12) (bJ (KC (pt i) (k + 1))):=by
 refine ⟨h.1,?_⟩;have h1 : w.rangeAt b (0 + i * 96) (aA (uT (pt i))):=mH (f:=fun j => uT (pt j)) (c:=96) (fun j => Ig (pt j)) hi h.2;rw [We,Nat.zero_add] at h1;exact mH (f:=uE (pt i)) (c:=12) (fun j => rfl) hk h1
theorem Uf {w0 : World} {gb go N N' bn on n m : Nat} {x : Nat → Nat} {pt : Nat → J1} {LP : List At} (hLP : aA LP = aA (cD (fun j => bJ (pt j)) 0 N)) (hP : oldOf w0 gb go LP) (hx : ∀ i,i < n → oldOf w0 bn (on + i * 4) [.q (x i)]) (hN : N ≤ n) (hN2 : N ≤ 65536) (hn : n < 4611686018427387904) : Calls prog 191 #[jW gb go N N',jW bn on n m] w0 (fun e w' => e = .returned (.agg (aA (bJ (Sr (fun p => MO pt x p N) (mJ x n / 4 + 1) (mJ x n / 4 + 1)))).toArray) ∧ Below w0.heap.size w0 w'):=by
 have hG : cK prog (qG prog) w0.heap.size w0:=(aK _).w _ _;have hT : ∀ n d : Nat,TabOkW prog jO w0.heap.size w0:=fun _ _ => hZ.w _ _
 have hXF : ∀ x : Ext,x.T2 = Fr0 → (∀ b o l,¬ x.old b o l) → cK prog (qX prog x) w0.heap.size w0:=fun x h2 h3 => nR (h2 ▸ jQ _) fun b o l h => (h3 b o l h).elim
 have hP' : oldOf w0 gb go (cD (fun j => bJ (pt j)) 0 N):=⟨hP.1,by rw [← hLP]; exact hP.2⟩;clear hP hLP;refine dS func191 (c:=dN) rfl (args:=[jW gb go N N',jW bn on n m]) (cs:=[.s (cD (fun j => bJ (pt j)) 0 N) N N',.v (.im (jW bn on n m))]) ⟨⟨gb,go,rfl,hP'.1,hP'.2⟩,rfl,trivial⟩ (Nat.le_of_ble_eq_true (by kernel_rfl)) fun a w' hA => ?_
 rw [aDP];refine wp_seq (aC aG hT hG (aQz _ N N' _) trivial hA fun a w' hA => ?_);refine wp_seq (vZ (l:=List.range' 0 ((cJ (cA (cB dN))).extract 0 4).size ++ (List.range' 4 ((cJ (cA (cB dN))).extract 4 5).size ++ [])) (by kernel_rfl) ?_);refine cE (c:=BK) (hT 0) (hXF (aKO N (cD (fun _ => zT1) 0 N)) rfl fun _ _ _ h => h) (aQy _ _ N N' _) ⟨?_,trivial⟩ (by kernel_rfl) hA fun a w' hA => ?_
 ·exact Kz (t:=266) (e:=268) (z:=zT1) (v:=.int .u64 0) (n:=96) (by8:=768) (by kernel_rfl) (by kernel_rfl) Uy Uz (by omega) (by omega) (by omega)
 obtain ⟨b,hA⟩:=hA.at (k:=11) (l:=cD (fun _ => zT1) 0 N) (by simp [aDN]);have hA:=hA.im (s:=11) (k:=11) (o:=0) (n:=N) (m:=N) (b:=b) (by simp [aDN]) (by simp);refine cE (c:=BK) (hT 0) hG (aQx _ _ N N' b _) trivial (by kernel_rfl) hA fun a w' hA => ?_
 refine wp_seq (wp_seq (aC aG hT hG (aQw _ _ N N' b _) trivial hA fun a w' hA => ?_));refine wp_block ?_;refine kB aG (fun i => IJ (cD (fun j => bJ (pt j)) 0 N) (nB (fun j => uT (pt j)) zT1 N i) N N' b (jW bn on n m) i) N (fun i hi => ?_) (.ex 0) (by simp) (IJ (cD (fun j => bJ (pt j)) 0 N) (cD (fun j => uT (pt j)) 0 N) N N' b (jW bn on n m) N) ?_ (by rw [QA]; exact hA) fun a w' hA => ?_
 ·exact ⟨_,_,_,_,hXF (aVj N b i (pt i) _) rfl (fun _ _ _ h => h),hT,aQA _ _ (nB (fun j => uT (pt j)) zT1 N (i + 1)) N N' b _ i (pt i),bX hi,rfl,hi,lX (f:=fun j => bJ (pt j)) (c:=12) (fun j => rfl) hi (Nat.zero_add _),rfl,rfl,rfl,hi,wX (f:=fun j => uT (pt j)) (c:=96) (fun j => Ig (pt j)) Uy hi (Nat.zero_add _),kS (k:=1) (by omega),trivial⟩
 ·rw [← PZ (fun j => uT (pt j)) zT1 N];exact ⟨_,_,_,_,hG,hT,aIV _ _ N N' b _ N,eI (Nat.le_refl _),trivial⟩
 refine wp_seq (aC aG hT hG (aQv _ _ N N' b bn on n m N) trivial hA fun a w' hA => ?_);obtain ⟨b5,hA⟩:=hA.at (k:=5) (l:=[.c (jW b 0 N N)]) (by simp [aDL]);obtain ⟨b8,hA⟩:=hA.at (k:=8) (l:=dP bn on n m) (by simp [aDL]);refine wp_seq (vZ (l:=List.range' 0 ((cJ (cA (cB (cB (cB (cB dN)))))).extract 0 2).size ++ (2 :: (List.range' 3 ((cJ (cA (cB (cB (cB (cB dN)))))).extract 3 4).size ++ []))) (by kernel_rfl) ?_);refine cE (c:=BK) (hT 0) hG (aQu _ N b b5 b8 bn on n m) trivial (by kernel_rfl) hA fun a w' hA => ?_
 have hM : ClMem1 w' b5 b8 b N bn on n m x pt:=by
  refine ⟨hA.old (k:=5) (by simp [CH]) (by simp [CH]),hA.old (k:=8) (by simp [CH]) (by simp [CH]),fun i hi => (hx i hi).on hA.below (base:=0),fun i hi k hk => ?_⟩;exact aIU (hA.old (k:=11) (by simp [CH]) (by simp [CH])) hi hk
 have h27:=hA.slotF (s:=27) (l:=dP bn on n m) (by simp [CH]);have h28:=hA.slot (s:=28) (v:=HU b5 b8) (by simp [CH]);obtain ⟨o,ho,hoo,hod,hog⟩ : ∃ o,(cJ (cA (cB (cB (cB (cB dN))))))[2]? = some o ∧ (∃ ts,o.op = .call ⟨.value (.func 231),#[.tmp 27,.tmp 28],ts⟩) ∧ o.dst = some 29 ∧ o.guard = none:=⟨_,rfl,⟨_,rfl⟩,rfl,rfl⟩
 obtain ⟨ts,hoo⟩:=hoo;refine mG ho hog (DT hoo (vs:=[.agg (aA (dP bn on n m)).toArray,HU b5 b8]) (by simp [Act.eval,h27,h28]) (gI func231 (by kernel_rfl) (by kernel_rfl) · _) (Sq hM hN hn) fun w'' hb => ?_);rw [hod];have hA:=hA.put hb (d:=29) (Nat.le_of_ble_eq_true (by kernel_rfl)) (.fl (bJ (Sr (fun p => MO pt x p N) (mJ x n / 4 + 1) (mJ x n / 4 + 1)))) (by
  have : (CH (cD (fun j => uT (pt j)) 0 N) N b b5 b8 bn on n m).all (fun φ => !(kV (some 29) none φ)) = true:=by kernel_rfl
  intro φ hφ;rw [List.all_eq_true] at this;simpa using this φ hφ)
 refine cE (c:=BK) (hT 0) hG (aQt _ N b b5 b8 bn on n m _) trivial (by kernel_rfl) hA fun a w' hA => ?_
 exact wp_ret (eK (l:=[.fl (bJ (Sr (fun p => MO pt x p N) (mJ x n / 4 + 1) (mJ x n / 4 + 1)))]) (r:=.one (.fl (bJ (Sr (fun p => MO pt x p N) (mJ x n / 4 + 1) (mJ x n / 4 + 1))))) (by kernel_rfl) (by kernel_rfl) hA)
def uB : J2:=(F2.zero,F2.zero,F2.zero)
def uS (p : J2) : List At:=bI (KB p 1) ++ (bI (KB p 2) ++ (bI (KB p 3) ++ (bI (KB p 4) ++ (bI (KB p 5) ++ (bI (KB p 6) ++ (bI (KB p 7) ++ (bI (KB p 8))))))))
def zT2 : List At:=bI uB ++ (bI uB ++ (bI uB ++ (bI uB ++ (bI uB ++ (bI uB ++ (bI uB ++ (bI uB)))))))
theorem If (p : J2) : cS (uS p) = 192:=by kernel_rfl
theorem Uw : cS zT2 = 192:=by kernel_rfl
def uD (p : J2) (k : Nat) : List At:=bI (KB p (k + 1))
theorem Wd (p : J2) : uS p = cD (uD p) 0 8:=by
 show uS p = uD p 0 ++ (uD p 1 ++ (uD p 2 ++ (uD p 3 ++ (uD p 4 ++ (uD p 5 ++ (uD p 6 ++ (uD p 7 ++ [])))))));rw [List.append_nil];rfl
theorem Xf (p : J2) : aW prog (qG prog) (fun _ => ⟨fun s => fI true,fun s => true,fun _ => none⟩) f239 200 [.v (.fl (bI p))] = some ([],.one (.fl (uS p))):=by kernel_rfl
def jN : Tab:=(fI true).add 239 (g1 Rz fun p => ([],.one (.fl (uS p))))
theorem hJ : TabOk prog jN:=(jF true).ad func239 (bC mQ fun p hp args w ha => aB aG (fun _ s => jF _) (aK prog) func239 (Xf p) trivial ha)
def dM : Code:=(f193.body).getD .skip
def RQ : Code:=pS (pS (cB (cA (cB (cB dM)))))
theorem aDO : dM = .seq (cA dM) (.seq (.region 1 (cJ (cA (cB dM))) false) (.seq (.seq (cA (cA (cB (cB dM)))) (.block 0 (.loop RQ))) (.seq (cA (cB (cB (cB dM)))) (.seq (.region 8 (cJ (cA (cB (cB (cB (cB dM)))))) false) .ret)))):=by kernel_rfl
def aQj (LP : List At) (N N' : Nat) (vn : Value) : List Fact:=[.slot 0 (.sl 0 0 N N'),.row 0 false LP,.slot 1 (.im vn),.slot 4 (.pt 4 0),.row 4 true (bI uB)]
def aDM (LP Z : List At) (N N' : Nat) (vn : Value) : List Fact:=[.slot 0 (.sl 0 0 N N'),.row 0 false LP,.slot 1 (.im vn),.slot 4 (.pt 4 0),.row 4 true (bI uB),.slot 11 (.sl 11 0 N N),.row 11 true Z,.slot 5 (.pt 5 0),.row 5 true [.c (.slice none 0 0)]]
def aQh (LP Z : List At) (N N' b : Nat) (vn : Value) : List Fact:=[.at 11 b,.slot 0 (.sl 0 0 N N'),.row 0 false LP,.slot 1 (.im vn),.slot 4 (.pt 4 0),.row 4 true (bI uB),.row 11 true Z,.slot 5 (.pt 5 0),.row 5 true [.c (jW b 0 N N)]]
def II (LP Z : List At) (N N' b : Nat) (vn : Value) (i : Nat) : List Fact:=[.at 11 b,.slot 0 (.sl 0 0 N N'),.row 0 false LP,.slot 1 (.im vn),.slot 4 (.pt 4 0),.row 4 true (bI uB),.row 11 true Z,.slot 5 (.pt 5 0),.row 5 true [.c (jW b 0 N N)],.slot 12 (.sl 0 0 N N'),.slot 13 (.im (iI N)),.slot 14 (.im (iI i))]
def aDK (Z : List At) (N b bn on n m : Nat) : List Fact:=[.at 11 b,.slot 4 (.pt 4 0),.row 4 true (bI uB),.row 11 true Z,.slot 5 (.pt 5 0),.row 5 true [.c (jW b 0 N N)],.slot 8 (.pt 8 0),.row 8 true (dP bn on n m)]
def CG (Z : List At) (N b b5 b8 bn on n m : Nat) : List Fact:=[.at 5 b5,.at 8 b8,.at 11 b,.slot 4 (.pt 4 0),.row 4 true (bI uB),.row 11 true Z,.row 5 true [.c (jW b 0 N N)],.row 8 true (dP bn on n m),.slot 27 (.fl (dP bn on n m)),.slot 28 (.im (HQ b5 b8))]
def aDI (num : Nat → Option Value) (_ : Nat) : Cfg:=⟨fun _ => jN,fun _ => true,num⟩
def BJ : Cfg:=⟨fun _ => jN,fun _ => true,fun _ => none⟩
theorem aQr (LP : List At) (N N' : Nat) (vn : Value) : aX prog (qG prog) f193.ntmps (aDI fun _ => none) 40 (cA dM) (kZ 0 [.s LP N N',.v (.im vn)]) (aQj LP N N' vn) = some ([],.nrm,aQj LP N N' vn):=by kernel_rfl
def aKN (N : Nat) (Z : List At) : Ext:={ TA (fun _ _ _ => False) with mks:=assoc [(11,(N,Z))] }
theorem aQq (LP Z : List At) (N N' : Nat) (vn : Value) : rJ prog (qX prog (aKN N Z)) f193.ntmps BJ ((cJ (cA (cB dM))).extract 0 4) (aQj LP N N' vn) (aDM LP Z N N' vn) = some ([∃ e,∀ w : World,(Instr.makeSlice 277 (iI N) (iI N)).run prog w = .ok (.slice (some ⟨w.heap.size,0,none⟩) N N) (w.alloc (.cells (aA Z).toArray e))],aDM LP Z N N' vn):=by kernel_rfl
theorem aQp (LP Z : List At) (N N' b : Nat) (vn : Value) : rJ prog (qG prog) f193.ntmps BJ ((cJ (cA (cB dM))).extract 4 5) (.slot 11 (.im (jW b 0 N N)) :: .at 11 b :: aDM LP Z N N' vn) (aQh LP Z N N' b vn) = some ([],aQh LP Z N N' b vn):=by kernel_rfl
theorem aQo (LP Z : List At) (N N' b : Nat) (vn : Value) : aX prog (qG prog) f193.ntmps (aDI fun _ => none) 40 (cA (cA (cB (cB dM)))) (aQh LP Z N N' b vn) (II LP Z N N' b vn 0) = some ([],.nrm,II LP Z N N' b vn 0):=by kernel_rfl
def aVi (N b i : Nat) (p : J2) (Z' : List At) : Ext:={ TA (fun _ _ _ => False) with idx:=assoc [(17,i),(23,i)],ld:=assoc [(18,bI p)],st:=assoc [(23,Z')],gen:=assoc [(19,jW b 0 N N)],ky:=assoc [(19,11)] }
theorem aQs (LP Z Z' : List At) (N N' b : Nat) (vn : Value) (i : Nat) (p : J2) : aX prog (qX prog (aVi N b i p Z')) f193.ntmps (aDI (assoc [(15,.bool true),(24,iI (i + 1))])) 40 RQ (II LP Z N N' b vn i) (II LP Z' N N' b vn (i + 1)) = some ([aI .lss .i64 (Int.ofNat i) (Int.ofNat N) = some (.bool true),Int.ofNat i = Int.ofNat i,i < N,fO LP (0 + i * 24) 24 = some (bI p),cellAt [.c (jW b 0 N N)] 0 = some (jW b 0 N N),b = b,Int.ofNat i = Int.ofNat i,i < N,put Z (0 + i * 192) (uS p) = some Z',aI .add .i64 (Int.ofNat i) 1 = some (iI (i + 1))],.nrm,II LP Z' N N' b vn (i + 1)):=by kernel_rfl
theorem aIT (LP Z : List At) (N N' b : Nat) (vn : Value) (i : Nat) : aX prog (qG prog) f193.ntmps (aDI (assoc [(15,.bool false)])) 40 RQ (II LP Z N N' b vn i) (II LP Z N N' b vn i) = some ([aI .lss .i64 (Int.ofNat i) (Int.ofNat N) = some (.bool false)],.ex 0,II LP Z N N' b vn i):=by kernel_rfl
theorem aQn (LP Z : List At) (N N' b bn on n m i : Nat) : aX prog (qG prog) f193.ntmps (aDI fun _ => none) 40 (cA (cB (cB (cB dM)))) (II LP Z N N' b (jW bn on n m) i) (aDK Z N b bn on n m) = some ([],.nrm,aDK Z N b bn on n m):=by kernel_rfl
theorem aQm (Z : List At) (N b b5 b8 bn on n m : Nat) : rJ prog (qG prog) f193.ntmps BJ ((cJ (cA (cB (cB (cB (cB dM)))))).extract 0 2) (.at 8 b8 :: .at 5 b5 :: aDK Z N b bn on n m) (CG Z N b b5 b8 bn on n m) = some ([],CG Z N b b5 b8 bn on n m):=by kernel_rfl
theorem aQl (Z : List At) (N b b5 b8 bn on n m : Nat) (r : J2) : rJ prog (qG prog) f193.ntmps BJ ((cJ (cA (cB (cB (cB (cB dM)))))).extract 3 4) (.slot 29 (.fl (bI r)) :: CG Z N b b5 b8 bn on n m) [.slot 4 (.pt 4 0),.row 4 true (bI r)] = some ([],[.slot 4 (.pt 4 0),.row 4 true (bI r)]):=by kernel_rfl
theorem Ux : sT (aA zT2) (.int .u64 0):=by unfold sT; kernel_rfl
theorem aIS {w : World} {b N i k : Nat} {pt : Nat → J2} (h : oldOf w b 0 (cD (fun j => uS (pt j)) 0 N)) (hi : i < N) (hk : k < 8) : oldOf w b (i * 192 + k * 24) (bI (KB (pt i) (k + 1))):=by
 refine ⟨h.1,?_⟩;have h1 : w.rangeAt b (0 + i * 192) (aA (uS (pt i))):=mH (f:=fun j => uS (pt j)) (c:=192) (fun j => If (pt j)) hi h.2;rw [Wd,Nat.zero_add] at h1;exact mH (f:=uD (pt i)) (c:=24) (fun j => rfl) hk h1
theorem Ue {w0 : World} {gb go N N' bn on n m : Nat} {x : Nat → Nat} {pt : Nat → J2} {LP : List At} (hLP : aA LP = aA (cD (fun j => bI (pt j)) 0 N)) (hP : oldOf w0 gb go LP) (hx : ∀ i,i < n → oldOf w0 bn (on + i * 4) [.q (x i)]) (hN : N ≤ n) (hN2 : N ≤ 65536) (hn : n < 4611686018427387904) : Calls prog 193 #[jW gb go N N',jW bn on n m] w0 (fun e w' => e = .returned (.agg (aA (bI (Sp (fun p => MN pt x p N) (mJ x n / 4 + 1) (mJ x n / 4 + 1)))).toArray) ∧ Below w0.heap.size w0 w'):=by
 have hG : cK prog (qG prog) w0.heap.size w0:=(aK _).w _ _;have hT : ∀ n d : Nat,TabOkW prog jN w0.heap.size w0:=fun _ _ => hJ.w _ _
 have hXF : ∀ x : Ext,x.T2 = Fr0 → (∀ b o l,¬ x.old b o l) → cK prog (qX prog x) w0.heap.size w0:=fun x h2 h3 => nR (h2 ▸ jQ _) fun b o l h => (h3 b o l h).elim
 have hP' : oldOf w0 gb go (cD (fun j => bI (pt j)) 0 N):=⟨hP.1,by rw [← hLP]; exact hP.2⟩;clear hP hLP;refine dS func193 (c:=dM) rfl (args:=[jW gb go N N',jW bn on n m]) (cs:=[.s (cD (fun j => bI (pt j)) 0 N) N N',.v (.im (jW bn on n m))]) ⟨⟨gb,go,rfl,hP'.1,hP'.2⟩,rfl,trivial⟩ (Nat.le_of_ble_eq_true (by kernel_rfl)) fun a w' hA => ?_
 rw [aDO];refine wp_seq (aC aG hT hG (aQr _ N N' _) trivial hA fun a w' hA => ?_);refine wp_seq (vZ (l:=List.range' 0 ((cJ (cA (cB dM))).extract 0 4).size ++ (List.range' 4 ((cJ (cA (cB dM))).extract 4 5).size ++ [])) (by kernel_rfl) ?_);refine cE (c:=BJ) (hT 0) (hXF (aKN N (cD (fun _ => zT2) 0 N)) rfl fun _ _ _ h => h) (aQq _ _ N N' _) ⟨?_,trivial⟩ (by kernel_rfl) hA fun a w' hA => ?_
 ·exact Kz (t:=277) (e:=279) (z:=zT2) (v:=.int .u64 0) (n:=192) (by8:=1536) (by kernel_rfl) (by kernel_rfl) Uw Ux (by omega) (by omega) (by omega)
 obtain ⟨b,hA⟩:=hA.at (k:=11) (l:=cD (fun _ => zT2) 0 N) (by simp [aDM]);have hA:=hA.im (s:=11) (k:=11) (o:=0) (n:=N) (m:=N) (b:=b) (by simp [aDM]) (by simp);refine cE (c:=BJ) (hT 0) hG (aQp _ _ N N' b _) trivial (by kernel_rfl) hA fun a w' hA => ?_
 refine wp_seq (wp_seq (aC aG hT hG (aQo _ _ N N' b _) trivial hA fun a w' hA => ?_));refine wp_block ?_;refine kB aG (fun i => II (cD (fun j => bI (pt j)) 0 N) (nB (fun j => uS (pt j)) zT2 N i) N N' b (jW bn on n m) i) N (fun i hi => ?_) (.ex 0) (by simp) (II (cD (fun j => bI (pt j)) 0 N) (cD (fun j => uS (pt j)) 0 N) N N' b (jW bn on n m) N) ?_ (by rw [QA]; exact hA) fun a w' hA => ?_
 ·exact ⟨_,_,_,_,hXF (aVi N b i (pt i) _) rfl (fun _ _ _ h => h),hT,aQs _ _ (nB (fun j => uS (pt j)) zT2 N (i + 1)) N N' b _ i (pt i),bX hi,rfl,hi,lX (f:=fun j => bI (pt j)) (c:=24) (fun j => rfl) hi (Nat.zero_add _),rfl,rfl,rfl,hi,wX (f:=fun j => uS (pt j)) (c:=192) (fun j => If (pt j)) Uw hi (Nat.zero_add _),kS (k:=1) (by omega),trivial⟩
 ·rw [← PZ (fun j => uS (pt j)) zT2 N];exact ⟨_,_,_,_,hG,hT,aIT _ _ N N' b _ N,eI (Nat.le_refl _),trivial⟩
 refine wp_seq (aC aG hT hG (aQn _ _ N N' b bn on n m N) trivial hA fun a w' hA => ?_);obtain ⟨b5,hA⟩:=hA.at (k:=5) (l:=[.c (jW b 0 N N)]) (by simp [aDK]);obtain ⟨b8,hA⟩:=hA.at (k:=8) (l:=dP bn on n m) (by simp [aDK]);refine wp_seq (vZ (l:=List.range' 0 ((cJ (cA (cB (cB (cB (cB dM)))))).extract 0 2).size ++ (2 :: (List.range' 3 ((cJ (cA (cB (cB (cB (cB dM)))))).extract 3 4).size ++ []))) (by kernel_rfl) ?_);refine cE (c:=BJ) (hT 0) hG (aQm _ N b b5 b8 bn on n m) trivial (by kernel_rfl) hA fun a w' hA => ?_
 have hM : ClMem2 w' b5 b8 b N bn on n m x pt:=by
  refine ⟨hA.old (k:=5) (by simp [CG]) (by simp [CG]),hA.old (k:=8) (by simp [CG]) (by simp [CG]),fun i hi => (hx i hi).on hA.below (base:=0),fun i hi k hk => ?_⟩;exact aIS (hA.old (k:=11) (by simp [CG]) (by simp [CG])) hi hk
 have h27:=hA.slotF (s:=27) (l:=dP bn on n m) (by simp [CG]);have h28:=hA.slot (s:=28) (v:=HQ b5 b8) (by simp [CG]);obtain ⟨o,ho,hoo,hod,hog⟩ : ∃ o,(cJ (cA (cB (cB (cB (cB dM))))))[2]? = some o ∧ (∃ ts,o.op = .call ⟨.value (.func 240),#[.tmp 27,.tmp 28],ts⟩) ∧ o.dst = some 29 ∧ o.guard = none:=⟨_,rfl,⟨_,rfl⟩,rfl,rfl⟩
 obtain ⟨ts,hoo⟩:=hoo;refine mG ho hog (DT hoo (vs:=[.agg (aA (dP bn on n m)).toArray,HQ b5 b8]) (by simp [Act.eval,h27,h28]) (gI func240 (by kernel_rfl) (by kernel_rfl) · _) (So hM hN hn) fun w'' hb => ?_);rw [hod];have hA:=hA.put hb (d:=29) (Nat.le_of_ble_eq_true (by kernel_rfl)) (.fl (bI (Sp (fun p => MN pt x p N) (mJ x n / 4 + 1) (mJ x n / 4 + 1)))) (by
  have : (CG (cD (fun j => uS (pt j)) 0 N) N b b5 b8 bn on n m).all (fun φ => !(kV (some 29) none φ)) = true:=by kernel_rfl
  intro φ hφ;rw [List.all_eq_true] at this;simpa using this φ hφ)
 refine cE (c:=BJ) (hT 0) hG (aQl _ N b b5 b8 bn on n m _) trivial (by kernel_rfl) hA fun a w' hA => ?_
 exact wp_ret (eK (l:=[.fl (bI (Sp (fun p => MN pt x p N) (mJ x n / 4 + 1) (mJ x n / 4 + 1)))]) (r:=.one (.fl (bI (Sp (fun p => MN pt x p N) (mJ x n / 4 + 1) (mJ x n / 4 + 1))))) (by kernel_rfl) (by kernel_rfl) hA)
end Go.Proofs.YtglgakbkdjhojaaGreat.Ex
