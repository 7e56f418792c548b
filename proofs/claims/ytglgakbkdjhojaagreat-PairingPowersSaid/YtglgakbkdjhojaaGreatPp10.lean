/- Pp10 -/
import Derived.KernelRfl
import Derived.LoopTactic
import Derived.Deep.LoopGhost
import Derived.RegionTactic
import Derived.Test.YtglgakbkdjhojaaGreatPp09
import Derived.Test.YtglgakbkdjhojaaGreatPp08
import Derived.Test.YtglgakbkdjhojaaGreatPp06
import Derived.Test.YtglgakbkdjhojaaGreatPp05
import Derived.Test.YtglgakbkdjhojaaGreatPp03
import Derived.Test.YtglgakbkdjhojaaGreatProg
set_option maxRecDepth 100000
set_option linter.unusedVariables false
set_option linter.unusedSimpArgs false
noncomputable section
namespace Go.Proofs.YtglgakbkdjhojaaGreat.Ex
open Go.Proofs.Tryz
open Go.RowKit
theorem FrOk.ad {P : Program} {T : Tab2} (hT : FrOk P T) {f : Nat} {fn : Func} (hf : P.funcs[f]? = some fn) {g : List CA → Option (List Prop × FR)}
 (h : ∀ cs pre r,g cs = some (pre,r) → aY pre → ∀ (args : List Value) (w : World),bR w cs args → Calls P f args.toArray w (fun e w' => r.ok w e w')) (hn : (fn.name == "runtime.NumGoroutine") = false:=by kernel_rfl) (hb : fn.body.isNone = false:=by kernel_rfl) : FrOk P (T.add f g):=hT.add hf hn hb h
def jL (p : nM) : Int × J1:=RK p.1 p.2.1 p.2.2
def iX (ps : Nat → nM) : Nat → Int
 | 0 => 0
 | i + 1 => if iX ps i ≠ 0 then iX ps i else (jL (ps i)).1
theorem QU {ps : Nat → nM} : ∀ {N : Nat},iX ps N = 0 → ∀ j,j < N → (jL (ps j)).1 = 0
 | N + 1,h,j,hj => by
  unfold iX at h
  by_cases h0 : iX ps N = 0
  ·rw [if_neg (fun q => q h0)] at h
   by_cases e : j = N
   ·rw [e]; exact h
   ·exact QU h0 j (by omega)
  ·rw [if_pos h0] at h; exact (h0 h).elim
theorem ZL {ps : Nat → nM} : ∀ {N : Nat},iX ps N ≠ 0 → ∃ j,j < N ∧ (∀ k,k < j → (jL (ps k)).1 = 0) ∧ (jL (ps j)).1 ≠ 0 ∧ iX ps N = (jL (ps j)).1
 | 0,h => (h rfl).elim
 | N + 1,h => by
  unfold iX at h ⊢
  by_cases h0 : iX ps N = 0
  ·rw [if_neg (fun q => q h0)] at h ⊢;exact ⟨N,by omega,fun k hk => QU h0 k hk,h,rfl⟩
  ·rw [if_pos h0];obtain ⟨j,h1,h2,h3,h4⟩:=ZL h0;exact ⟨j,by omega,h2,h3,h4⟩
def CC (ps : Nat → nM) (j : Nat) : J1:=(jL (ps j)).2
def uA (LG Z : List At) (N N' i : Nat) : List Fact:=[.slot 1 (.sl 1 0 N N'),.row 1 false LG,.slot 2 (.pt 2 0),.row 2 true gH,.slot 6 (.sl 12 0 N N),.row 12 true Z,.slot 14 (.im (iI N)),.slot 15 (.im (iI i))]
def aQN (LG : List At) (N N' : Nat) : List Fact:=[.slot 1 (.sl 1 0 N N'),.row 1 false LG,.slot 2 (.pt 2 0),.row 2 true gH]
def aQL (LG Z : List At) (N N' : Nat) : List Fact:=[.slot 1 (.sl 1 0 N N'),.row 1 false LG,.slot 2 (.pt 2 0),.row 2 true gH,.slot 6 (.sl 12 0 N N),.row 12 true Z]
def gN : Code:=(f101.body).getD .skip
def tQ : Code:=pS (pS (cB (cA (cB (cB gN)))))
theorem aEe : gN = .seq (cA gN) (.seq (cA (cB gN)) (.seq (.seq (cA (cA (cB (cB gN)))) (.block 0 (.loop tQ))) (cB (cB (cB gN))))):=by kernel_rfl
def AC (num : Nat → Option Value) (_ : Nat) : Cfg:=⟨fun _ => jO,fun _ => true,num⟩
theorem aQV (LG : List At) (N N' : Nat) : aX prog (qG prog) f101.ntmps (AC fun _ => none) 40 (cA gN) (kZ 0 [.v (.fl gH),.s LG N N']) (aQN LG N N') = some ([],.nrm,aQN LG N N'):=by kernel_rfl
def aKU (N : Nat) (Z : List At) : Ext:={ TA (fun _ _ _ => False) with mks:=assoc [(12,(N,Z))] }
theorem aQU (LG Z : List At) (N N' : Nat) : aX prog (qX prog (aKU N Z)) f101.ntmps (AC fun _ => none) 40 (cA (cB gN)) (aQN LG N N') (aQL LG Z N N') = some ([∃ e,∀ w : World,(Instr.makeSlice 161 (iI N) (iI N)).run prog w = .ok (.slice (some ⟨w.heap.size,0,none⟩) N N) (w.alloc (.cells (aA Z).toArray e))],.nrm,aQL LG Z N N'):=by kernel_rfl
theorem aQT (LG Z : List At) (N N' : Nat) : aX prog (qG prog) f101.ntmps (AC fun _ => none) 40 (cA (cA (cB (cB gN)))) (aQL LG Z N N') (uA LG Z N N' 0) = some ([],.nrm,uA LG Z N N' 0):=by kernel_rfl
def aJf (i : Nat) (p : nM) (Z' : List At) : Ext:={ TA (fun _ _ _ => False) with idx:=assoc [(23,i),(34,i)],ld:=assoc [(24,rC p)],st:=assoc [(34,Z')] }
theorem aQW (LG Z Z' : List At) (N N' i : Nat) (p : nM) : aX prog (qX prog (aJf i p Z')) f101.ntmps (AC (assoc [(16,.bool true),(29,.bool false),(35,iI (i + 1))])) 60 tQ (uA LG Z N N' i) (uA LG Z' N N' (i + 1)) = some ([aI .lss .i64 (Int.ofNat i) (Int.ofNat N) = some (.bool true),Int.ofNat i = Int.ofNat i,i < N,fO LG (0 + i * 9) 9 = some (rC p),aI .neq .i64 (jL p).1 0 = some (.bool false),Int.ofNat i = Int.ofNat i,i < N,put Z (0 + i * 12) (bJ (jL p).2) = some Z',aI .add .i64 (Int.ofNat i) 1 = some (iI (i + 1))],.nrm,uA LG Z' N N' (i + 1)):=by kernel_rfl
theorem aQX (LG Z : List At) (N N' i : Nat) (p : nM) : aX prog (qX prog (aJf i p Z)) f101.ntmps (AC (assoc [(16,.bool true),(29,.bool true)])) 60 tQ (uA LG Z N N' i) [.slot 4 (.im (.slice none 0 0)),.slot 5 (.im (.int .i64 (jL p).1))] = some ([aI .lss .i64 (Int.ofNat i) (Int.ofNat N) = some (.bool true),Int.ofNat i = Int.ofNat i,i < N,fO LG (0 + i * 9) 9 = some (rC p),aI .neq .i64 (jL p).1 0 = some (.bool true)],.rt,[.slot 4 (.im (.slice none 0 0)),.slot 5 (.im (.int .i64 (jL p).1))]):=by kernel_rfl
theorem aJh (LG Z : List At) (N N' i : Nat) : aX prog (qG prog) f101.ntmps (AC (assoc [(16,.bool false)])) 40 tQ (uA LG Z N N' i) (uA LG Z N N' i) = some ([aI .lss .i64 (Int.ofNat i) (Int.ofNat N) = some (.bool false)],.ex 0,uA LG Z N N' i):=by kernel_rfl
theorem aEc (LG Z : List At) (N N' i : Nat) : aX prog (qG prog) f101.ntmps (AC fun _ => none) 40 (cB (cB (cB gN))) (uA LG Z N N' i) [.slot 4 (.sl 12 0 N N),.row 12 true Z,.slot 5 (.im (.int .i64 0))] = some ([],.rt,[.slot 4 (.sl 12 0 N N),.row 12 true Z,.slot 5 (.im (.int .i64 0))]):=by kernel_rfl
theorem aCY : sT (aA (bJ uC)) (.int .u64 0):=by unfold sT; kernel_rfl
theorem ND {w0 : World} {args : List Value} {N N' : Nat} {ps : Nat → nM} (ha : bR w0 [.v (.fl gH),.s (cD (fun j => rC (ps j)) 0 N) N N'] args) (hN2 : N ≤ 65536) {R : Ending → World → Prop}
  (h : ∀ a w,Holds f101.ntmps w0.heap.size w0 (uA (cD (fun j => rC (ps j)) 0 N) (nB (fun j => bJ (CC ps j)) (bJ uC) N 0) N N' 0) a w → (Code.loop tQ).wp prog (fun e a w => match e with | .exit 0 => (cB (cB (cB gN))).wp prog (bodyPost prog f101 R) a w | .ret => bodyPost prog f101 R .ret a w | _ => False) a w) : Calls prog 101 args.toArray w0 R:=by
 have hG : cK prog (qG prog) w0.heap.size w0:=(aK _).w _ _;have hT : ∀ n d : Nat,TabOkW prog jO w0.heap.size w0:=fun _ _ => hZ.w _ _
 refine dS func101 (c:=gN) rfl ha (Nat.le_of_ble_eq_true (by kernel_rfl)) fun a w' hA => ?_
 rw [aEe];refine wp_seq (aC aG hT hG (aQV _ N N') trivial hA fun a w' hA => ?_);refine wp_seq (aC aG hT (nR (x:=aKU N (cD (fun _ => bJ uC) 0 N)) (jQ _) fun _ _ _ h => h.elim) (aQU _ (cD (fun _ => bJ uC) 0 N) N N') ⟨Kz (t:=161) (e:=165) (z:=bJ uC) (v:=.int .u64 0) (n:=12) (by8:=96) (by kernel_rfl) (by kernel_rfl) rfl aCY (by omega) (by omega) (by omega),trivial⟩ hA fun a w' hA => ?_);refine wp_seq (wp_seq (aC aG hT hG (aQT _ _ N N') trivial hA fun a w' hA => ?_));refine wp_block ?_;rw [← QA (fun j => bJ (CC ps j))] at hA;refine Code.wp_mono (fun e a w h => ?_) (h a w' hA);cases e with
 | exit id =>
  cases id with
  | zero => exact h
  | succ k => exact h.elim
 | ret => exact h
 | _ => exact h.elim
theorem Ah {w0 : World} {N N' : Nat} {ps : Nat → nM} {i : Nat} (hi : i < N) (hN2 : N ≤ 65536) (h : (jL (ps i)).1 = 0) : Ok prog w0.heap.size w0 f101.ntmps tQ (uA (cD (fun j => rC (ps j)) 0 N) (nB (fun j => bJ (CC ps j)) (bJ uC) N i) N N' i) .nrm (uA (cD (fun j => rC (ps j)) 0 N) (nB (fun j => bJ (CC ps j)) (bJ uC) N (i + 1)) N N' (i + 1)) :=
 ⟨_,_,_,_,nR (x:=aJf i (ps i) _) (jQ _) (fun _ _ _ h => h.elim),fun _ _ => hZ.w _ _,aQW _ _ (nB (fun j => bJ (CC ps j)) (bJ uC) N (i + 1)) N N' i (ps i),bX hi,rfl,hi,lX (f:=fun j => rC (ps j)) (c:=9) (fun j => rfl) hi (Nat.zero_add _),GE h,rfl,hi,wX (f:=fun j => bJ (CC ps j)) (c:=12) (fun j => rfl) rfl hi (Nat.zero_add _),kS (k:=1) (by omega),trivial⟩
theorem aEd {w0 : World} {args : List Value} {N N' : Nat} {ps : Nat → nM} (ha : bR w0 [.v (.fl gH),.s (cD (fun j => rC (ps j)) 0 N) N N'] args) (hN2 : N ≤ 65536) (h : iX ps N = 0) : Calls prog 101 args.toArray w0 (fun e w' => FR.ok ⟨cD (fun j => bJ (CC ps j)) 0 N,N,N,[.im (.int .i64 0)]⟩ w0 e w'):=by
 have hG : cK prog (qG prog) w0.heap.size w0:=(aK _).w _ _;have hT : ∀ n d : Nat,TabOkW prog jO w0.heap.size w0:=fun _ _ => hZ.w _ _
 refine ND ha hN2 fun a w hA => ?_
 refine kB aG (fun i => uA (cD (fun j => rC (ps j)) 0 N) (nB (fun j => bJ (CC ps j)) (bJ uC) N i) N N' i) N (fun i hi => Ah hi hN2 (QU h i hi)) (.ex 0) (by simp) (uA (cD (fun j => rC (ps j)) 0 N) (cD (fun j => bJ (CC ps j)) 0 N) N N' N) ?_ hA fun a w hA => ?_
 ·rw [← PZ (fun j => bJ (CC ps j)) (bJ uC) N];exact ⟨_,_,_,_,hG,hT,aJh _ _ N N' N,eI (Nat.le_refl _),trivial⟩
 ·show (cB (cB (cB gN))).wp _ _ _ _;exact aC aG hT hG (aEc _ _ N N' N) trivial hA fun a w' hA => MD (r:=⟨cD (fun j => bJ (CC ps j)) 0 N,N,N,[.im (.int .i64 0)]⟩) (by kernel_rfl) hA
theorem aEf {w0 : World} {args : List Value} {N N' : Nat} {ps : Nat → nM} (ha : bR w0 [.v (.fl gH),.s (cD (fun j => rC (ps j)) 0 N) N N'] args) (hN2 : N ≤ 65536) (h : iX ps N ≠ 0) : Good prog 101 (.many [.im (.slice none 0 0),.im (.int .i64 (iX ps N))]) args w0:=by
 have hG : cK prog (qG prog) w0.heap.size w0:=(aK _).w _ _;have hT : ∀ n d : Nat,TabOkW prog jO w0.heap.size w0:=fun _ _ => hZ.w _ _
 obtain ⟨j,hj,h1,h2,h3⟩:=ZL h;rw [h3];refine ND ha hN2 fun a w hA => ?_
 refine kB aG (fun i => uA (cD (fun j => rC (ps j)) 0 N) (nB (fun j => bJ (CC ps j)) (bJ uC) N i) N N' i) j (fun i hi => Ah (by omega) hN2 (h1 i hi)) .rt (by simp) [.slot 4 (.im (.slice none 0 0)),.slot 5 (.im (.int .i64 (jL (ps j)).1))] ?_ hA fun a w hA => ?_
 ·exact ⟨_,_,_,_,nR (x:=aJf j (ps j) _) (jQ _) (fun _ _ _ h => h.elim),fun _ _ => hZ.w _ _,aQX _ _ N N' j (ps j),bX hj,rfl,hj,lX (f:=fun j => rC (ps j)) (c:=9) (fun j => rfl) hj (Nat.zero_add _),uL h2,trivial⟩
 ·exact eK (l:=[.im (.slice none 0 0),.im (.int .i64 (jL (ps j)).1)]) (r:=.many [.im (.slice none 0 0),.im (.int .i64 (jL (ps j)).1)]) (by kernel_rfl) (by kernel_rfl) hA
def NQ (pt : Nat → J1) : Nat → J1
 | 0 => uC
 | i + 1 => dW F1 (NQ pt i) (pt i)
def DZ (L : List At) (N N' i : Nat) (s : J1) : List Fact:=[.row 0 false L,.slot 2 (.pt 2 0),.row 2 true (bJ uC),.slot 3 (.pt 3 0),.row 3 true (bJ s),.slot 6 (.sl 0 0 N N'),.slot 7 (.im (iI N)),.slot 8 (.im (iI i))]
def gY : Code:=(f102.body).getD .skip
def NS : Code:=pS (pS (cB (cA (cB (cB gY)))))
theorem Vv : gY = .seq (cA gY) (.seq (cA (cB gY)) (.seq (.seq (cA (cA (cB (cB gY)))) (.block 0 (.loop NS))) (cB (cB (cB gY))))):=by kernel_rfl
def aLP (L : List At) (N N' : Nat) : List Fact:=[.slot 0 (.sl 0 0 N N'),.row 0 false L,.slot 2 (.pt 2 0),.row 2 true (bJ uC)]
def aLN (L : List At) (N N' : Nat) : List Fact:=[.slot 0 (.sl 0 0 N N'),.row 0 false L,.slot 2 (.pt 2 0),.row 2 true (bJ uC),.slot 3 (.pt 3 0),.row 3 true (bJ uC)]
theorem aLW (L : List At) (N N' : Nat) : aX prog (qG prog) f102.ntmps (AC fun _ => none) 40 (cA gY) (kZ 0 [.s L N N']) (aLP L N N') = some ([],.nrm,aLP L N N'):=by kernel_rfl
theorem aLV (L : List At) (N N' : Nat) : aX prog (qG prog) f102.ntmps (AC fun _ => none) 40 (cA (cB gY)) (aLP L N N') (aLN L N N') = some ([],.nrm,aLN L N N'):=by kernel_rfl
theorem aLU (L : List At) (N N' : Nat) : aX prog (qG prog) f102.ntmps (AC fun _ => none) 40 (cA (cA (cB (cB gY)))) (aLN L N N') (DZ L N N' 0 uC) = some ([],.nrm,DZ L N N' 0 uC):=by kernel_rfl
def aSi (i : Nat) (p : J1) : Ext:={ TA (fun _ _ _ => False) with idx:=assoc [(10,i)],ld:=assoc [(11,bJ p)] }
theorem aLX (L : List At) (N N' i : Nat) (s p : J1) : aX prog (qX prog (aSi i p)) f102.ntmps (AC (assoc [(9,.bool true),(15,iI (i + 1))])) 40 NS (DZ L N N' i s) (DZ L N N' (i + 1) (dW F1 s p)) = some ([aI .lss .i64 (Int.ofNat i) (Int.ofNat N) = some (.bool true),Int.ofNat i = Int.ofNat i,i < N,fO L (0 + i * 12) 12 = some (bJ p),aI .add .i64 (Int.ofNat i) 1 = some (iI (i + 1))],.nrm,DZ L N N' (i + 1) (dW F1 s p)):=by kernel_rfl
theorem aEY (L : List At) (N N' i : Nat) (s : J1) : aX prog (qG prog) f102.ntmps (AC (assoc [(9,.bool false)])) 40 NS (DZ L N N' i s) (DZ L N N' i s) = some ([aI .lss .i64 (Int.ofNat i) (Int.ofNat N) = some (.bool false)],.ex 0,DZ L N N' i s):=by kernel_rfl
theorem Vu (L : List At) (N N' i : Nat) (s : J1) : aX prog (qG prog) f102.ntmps (AC fun _ => none) 40 (cB (cB (cB gY))) (DZ L N N' i s) [.slot 2 (.pt 2 0),.row 2 true (bJ s)] = some ([],.rt,[.slot 2 (.pt 2 0),.row 2 true (bJ s)]):=by kernel_rfl
theorem Og {w0 : World} {args : List Value} {N N' : Nat} {pt : Nat → J1} (ha : bR w0 [.s (cD (fun j => bJ (pt j)) 0 N) N N'] args) (hN2 : N ≤ 65536) : Good prog 102 (.one (.fl (bJ (NQ pt N)))) args w0:=by
 have hG : cK prog (qG prog) w0.heap.size w0:=(aK _).w _ _;have hT : ∀ n d : Nat,TabOkW prog jO w0.heap.size w0:=fun _ _ => hZ.w _ _
 refine dS func102 (c:=gY) rfl ha (Nat.le_of_ble_eq_true (by kernel_rfl)) fun a w' hA => ?_
 rw [Vv];refine wp_seq (aC aG hT hG (aLW _ N N') trivial hA fun a w' hA => ?_);refine wp_seq (aC aG hT hG (aLV _ N N') trivial hA fun a w' hA => ?_);refine wp_seq (wp_seq (aC aG hT hG (aLU _ N N') trivial hA fun a w' hA => ?_));refine wp_block ?_;refine kB aG (fun i => DZ (cD (fun j => bJ (pt j)) 0 N) N N' i (NQ pt i)) N (fun i hi => ?_) (.ex 0) (by simp) (DZ (cD (fun j => bJ (pt j)) 0 N) N N' N (NQ pt N)) ?_ hA fun a w' hA => ?_
 ·exact ⟨_,_,_,_,nR (x:=aSi i (pt i)) (jQ _) (fun _ _ _ h => h.elim),hT,aLX _ N N' i _ (pt i),bX hi,rfl,hi,lX (f:=fun j => bJ (pt j)) (c:=12) (fun j => rfl) hi (Nat.zero_add _),kS (k:=1) (by omega),trivial⟩
 ·exact ⟨_,_,_,_,hG,hT,aEY _ N N' N _,eI (Nat.le_refl _),trivial⟩
 ·show (cB (cB (cB gY))).wp _ _ _ _;exact aC aG hT hG (Vu _ N N' N _) trivial hA fun a w' hA => eK (l:=[.fl (bJ (NQ pt N))]) (r:=.one (.fl (bJ (NQ pt N)))) (by kernel_rfl) (by kernel_rfl) hA
def EF (pt : Nat → J1) (x : Nat → Nat) (N : Nat) : J1:=Sr (fun p => MO pt x p N) (mJ x N / 4 + 1) (mJ x N / 4 + 1)
def aPd (pt : Nat → J1) (x : Nat → Nat) (N : Nat) : lO
 | [.s LP n1 n2,.s LX n3 n4] => some ([aA LP = aA (cD (fun j => bJ (pt j)) 0 N),aA LX = aA (cD (fun j => [.q (x j)]) 0 N),n1 = N,n3 = N,N ≤ 65536],.one (.fl (bJ (EF pt x N))))
 | _ => none
theorem aIm {w : World} {pt : Nat → J1} {x : Nat → Nat} {N : Nat} : ∀ cs pre r,aPd pt x N cs = some (pre,r) → aY pre → ∀ (args : List Value),bR w cs args → Good prog 191 r args w:=by
 intro cs pre r hg hq args ha;unfold aPd at hg;split at hg
 ·rename_i LP n1 n2 LX n3 n4;cases hg;obtain ⟨h1,h2,rfl,rfl,h5,_⟩:=hq
  match args,ha with
  | [u,v],ha =>
   obtain ⟨b1,o1,e1,hb1,hr1⟩:=ha.1;obtain ⟨b2,o2,e2,hb2,hr2⟩:=ha.2.1;subst e1; subst e2;refine Uf h1 ⟨hb1,hr1⟩ (fun j hj => ⟨hb2,?_⟩) (Nat.le_refl _) h5 (by omega);rw [h2] at hr2;exact mH (f:=fun j => [At.q (x j)]) (c:=4) (fun _ => rfl) hj hr2
  | [],ha => exact ha.elim
  | [_],ha => exact ha.2.elim
  | _ :: _ :: _ :: _,ha => exact ha.2.2.elim
 ·cases hg
theorem aFK (LP LX : List At) (n1 n2 n3 n4 N : Nat) (pt : Nat → J1) (x : Nat → Nat) : aW prog (qG prog) (fun _ => ⟨fun _ => (jO).add 191 (aPd pt x N),fun _ => true,assoc [(7,.bool true)]⟩) f152 40 [.s LP n1 n2,.s LX n3 n4] = some ([aI .lss .i64 (Int.ofNat n1) 32 = some (.bool true),aA LP = aA (cD (fun j => bJ (pt j)) 0 N),aA LX = aA (cD (fun j => [.q (x j)]) 0 N),n1 = N,n3 = N,N ≤ 65536],.one (.fl (bJ (EF pt x N)))):=by kernel_rfl
def aOU (pt : Nat → J1) (x : Nat → Nat) (N : Nat) : lO
 | [.s LP n1 n2,.s LX n3 n4] => some ([aA LP = aA (cD (fun j => bJ (pt j)) 0 N),aA LX = aA (cD (fun j => [.q (x j)]) 0 N),n1 = N,n3 = N,N < 32],.one (.fl (bJ (EF pt x N))))
 | _ => none
theorem aId {w : World} {pt : Nat → J1} {x : Nat → Nat} {N : Nat} : ∀ cs pre r,aOU pt x N cs = some (pre,r) → aY pre → ∀ (args : List Value),bR w cs args → Good prog 152 r args w:=by
 intro cs pre r hg hq args ha;unfold aOU at hg;split at hg
 ·rename_i LP n1 n2 LX n3 n4;cases hg;obtain ⟨h1,h2,h3,h4,h5,_⟩:=hq;exact bE aG (fun _ _ => TabOkW.add (hZ.w _ _) func191 (by kernel_rfl) (by kernel_rfl) fun w hw => aIm) ((aK prog).w _ _) func152 (aFK LP LX n1 n2 n3 n4 N pt x) ⟨by rw [h3]; exact bX (n:=32) h5,h1,h2,h3,h4,by omega,trivial⟩ ha
 ·cases hg
def aPf (ps : Nat → nM) (N : Nat) : List CA → Option (List Prop × FR)
 | [.v (.fl l),.s L n1 n2] => some ([aA l = aA gH,aA L = aA (cD (fun j => rC (ps j)) 0 N),n1 = N,N ≤ 65536,iX ps N = 0],⟨cD (fun j => bJ (CC ps j)) 0 N,N,N,[.im (.int .i64 0)]⟩)
 | _ => none
def aIq (ps : Nat → nM) (N : Nat) : lO
 | [.v (.fl l),.s L n1 n2] => some ([aA l = aA gH,aA L = aA (cD (fun j => rC (ps j)) 0 N),n1 = N,N ≤ 65536,iX ps N ≠ 0],.many [.im (.slice none 0 0),.im (.int .i64 (iX ps N))])
 | _ => none
theorem RW {w : World} {ps : Nat → nM} {N n1 n2 : Nat} {l L : List At} (h1 : aA l = aA gH) (h2 : aA L = aA (cD (fun j => rC (ps j)) 0 N)) {args : List Value} (ha : bR w [.v (.fl l),.s L n1 n2] args) : bR w [.v (.fl gH),.s (cD (fun j => rC (ps j)) 0 N) n1 n2] args:=by
 match args,ha with
 | [u,v],ha =>
  obtain ⟨b,o,e,hb,hr⟩:=ha.2.1;refine ⟨?_,⟨b,o,e,hb,by rw [← h2]; exact hr⟩,trivial⟩;show u = .agg (aA gH).toArray;rw [← h1]; exact ha.1
 | [],ha => exact ha.elim
 | [_],ha => exact ha.2.elim
 | _ :: _ :: _ :: _,ha => exact ha.2.2.elim
theorem aIo {ps : Nat → nM} {N : Nat} : ∀ cs pre r,aPf ps N cs = some (pre,r) → aY pre → ∀ (args : List Value) (w : World),bR w cs args → Calls prog 101 args.toArray w (fun e w' => r.ok w e w'):=by
 intro cs pre r hg hq args w ha;unfold aPf at hg;split at hg
 ·cases hg;obtain ⟨h1,h2,rfl,h4,h5,_⟩:=hq;exact aEd (RW h1 h2 ha) h4 h5
 ·cases hg
theorem Lu {ps : Nat → nM} {N : Nat} : ∀ cs pre r,aIq ps N cs = some (pre,r) → aY pre → ∀ (args : List Value) (w : World),bR w cs args → Good prog 101 r args w:=by
 intro cs pre r hg hq args w ha;unfold aIq at hg;split at hg
 ·cases hg;obtain ⟨h1,h2,rfl,h4,h5,_⟩:=hq;exact aEf (RW h1 h2 ha) h4 h5
 ·cases hg
def aOI (pt : Nat → J1) (N : Nat) : lO
 | [.s L n1 n2] => some ([aA L = aA (cD (fun j => bJ (pt j)) 0 N),n1 = N,N ≤ 65536],.one (.fl (bJ (NQ pt N))))
 | _ => none
theorem aHV {pt : Nat → J1} {N : Nat} : ∀ cs pre r,aOI pt N cs = some (pre,r) → aY pre → ∀ (args : List Value) (w : World),bR w cs args → Good prog 102 r args w:=by
 intro cs pre r hg hq args w ha;unfold aOI at hg;split at hg
 ·rename_i L n1 n2;cases hg;obtain ⟨h1,rfl,h3,_⟩:=hq;refine Og (N':=n2) ?_ h3
  match args,ha with
  | [u],ha =>
   obtain ⟨b,o,e,hb,hr⟩:=ha.1;exact ⟨⟨b,o,e,hb,by rw [← h1]; exact hr⟩,trivial⟩
  | [],ha => exact ha.elim
  | _ :: _ :: _,ha => exact ha.2.elim
 ·cases hg
def aLq (ps : Nat → nM) (N : Nat) : Ext:={ TA (fun _ _ _ => False) with T2:=Fr0.add 101 (aPf ps N) }
theorem Hz (ps : Nat → nM) (N : Nat) (w : World) : cK prog (qX prog (aLq ps N)) w.heap.size w:=nR ((jQ _).ad func101 aIo) fun _ _ _ h => h.elim
theorem Qk (LG LX : List At) (N n2 n n4 : Nat) (ps : Nat → nM) : aW prog (qG prog) (fun _ => ⟨fun _ => (jO).add 101 (aIq ps N),fun _ => true,assoc [(15,.bool false),(19,.bool false),(29,.bool true)]⟩) f96 60 [.v (.fl gH),.s LG N n2,.s LX n n4] = some ([aI .neq .i64 (Int.ofNat N) (Int.ofNat n) = some (.bool false),aI .gtr .i64 (Int.ofNat N) 65536 = some (.bool false),aA gH = aA gH,aA LG = aA (cD (fun j => rC (ps j)) 0 N),N = N,N ≤ 65536,iX ps N ≠ 0,aI .neq .i64 (iX ps N) 0 = some (.bool true)],.many [.fl (gC (some (F1.zero,F1.zero))),.im (.int .i64 (iX ps N))]):=by kernel_rfl
theorem Qj (LG LX : List At) (N n2 n n4 : Nat) (ps : Nat → nM) (x : Nat → Nat) : aW prog (qX prog (aLq ps N)) (fun _ => ⟨fun _ => (jO).add 152 (aOU (CC ps) x N),fun _ => true,assoc [(15,.bool false),(19,.bool false)]⟩) f96 60 [.v (.fl gH),.s LG N n2,.s LX n n4] = some ([aI .neq .i64 (Int.ofNat N) (Int.ofNat n) = some (.bool false),aI .gtr .i64 (Int.ofNat N) 65536 = some (.bool false),aA gH = aA gH,aA LG = aA (cD (fun j => rC (ps j)) 0 N),N = N,N ≤ 65536,iX ps N = 0,aA (cD (fun j => bJ (CC ps j)) 0 N) = aA (cD (fun j => bJ (CC ps j)) 0 N),aA LX = aA (cD (fun j => [.q (x j)]) 0 N),N = N,n = N,N < 32],.many [.fl (gC (fT F1 cO (EF (CC ps) x N))),.im (.int .i64 0)]):=by kernel_rfl
theorem Pw (LG : List At) (N n2 : Nat) (ps : Nat → nM) : aW prog (qG prog) (fun _ => ⟨fun _ => (jO).add 101 (aIq ps N),fun _ => true,assoc [(11,.bool false),(20,.bool true)]⟩) f48 60 [.v (.fl gH),.s LG N n2] = some ([aI .gtr .i64 (Int.ofNat N) 65536 = some (.bool false),aA gH = aA gH,aA LG = aA (cD (fun j => rC (ps j)) 0 N),N = N,N ≤ 65536,iX ps N ≠ 0,aI .neq .i64 (iX ps N) 0 = some (.bool true)],.many [.fl (gC (some (F1.zero,F1.zero))),.im (.int .i64 (iX ps N))]):=by kernel_rfl
theorem Pv (LG : List At) (N n2 : Nat) (ps : Nat → nM) : aW prog (qX prog (aLq ps N)) (fun _ => ⟨fun _ => (jO).add 102 (aOI (CC ps) N),fun _ => true,assoc [(11,.bool false)]⟩) f48 60 [.v (.fl gH),.s LG N n2] = some ([aI .gtr .i64 (Int.ofNat N) 65536 = some (.bool false),aA gH = aA gH,aA LG = aA (cD (fun j => rC (ps j)) 0 N),N = N,N ≤ 65536,iX ps N = 0,aA (cD (fun j => bJ (CC ps j)) 0 N) = aA (cD (fun j => bJ (CC ps j)) 0 N),N = N,N ≤ 65536],.many [.fl (gC (fT F1 cO (NQ (CC ps) N))),.im (.int .i64 0)]):=by kernel_rfl
def oV (ps : Nat → nM) (x : Nat → Nat) (N : Nat) : Pt Fq × Int:=if iX ps N ≠ 0 then (some (F1.zero,F1.zero),iX ps N) else (fT F1 cO (EF (CC ps) x N),0)
theorem Ta {w0 : World} {args : List Value} {LG LX : List At} {N n2 n4 : Nat} {ps : Nat → nM} {x : Nat → Nat} (h1 : aA LG = aA (cD (fun j => rC (ps j)) 0 N)) (h2 : aA LX = aA (cD (fun j => [.q (x j)]) 0 N)) (hN : N < 32) (ha : bR w0 [.v (.fl gH),.s LG N n2,.s LX N n4] args) : Good prog 96 (.many [.fl (gC (oV ps x N).1),.im (.int .i64 (oV ps x N).2)]) args w0:=by
 have g1 : aI .neq .i64 (Int.ofNat N) (Int.ofNat N) = some (.bool false):=by rw [aAV,decide_eq_false (by simp)]
 have g2 : aI .gtr .i64 (Int.ofNat N) 65536 = some (.bool false):=by
  have:=AW (i:=N) (n:=65536);rw [decide_eq_false (by omega)] at this;exact this
 unfold oV
 by_cases h : iX ps N = 0
 ·rw [if_neg (fun q => q h)];exact bE aG (fun _ _ => TabOkW.add (hZ.w _ _) func152 (by kernel_rfl) (by kernel_rfl) fun w hw => aId) (Hz ps N w0) func96 (Qj LG LX N n2 N n4 ps x) ⟨g1,g2,rfl,h1,rfl,by omega,h,rfl,h2,rfl,rfl,hN,trivial⟩ ha
 ·rw [if_pos h];exact bE aG (fun _ _ => (hZ.ad func101 Lu).w _ _) ((aK prog).w _ _) func96 (Qk LG LX N n2 N n4 ps) ⟨g1,g2,rfl,h1,rfl,by omega,h,uL h,trivial⟩ ha
def wU (ps : Nat → nM) (N : Nat) : Pt Fq × Int:=if iX ps N ≠ 0 then (some (F1.zero,F1.zero),iX ps N) else (fT F1 cO (NQ (CC ps) N),0)
theorem Ou {w0 : World} {args : List Value} {LG : List At} {N n2 : Nat} {ps : Nat → nM} (h1 : aA LG = aA (cD (fun j => rC (ps j)) 0 N)) (hN : N ≤ 65536) (ha : bR w0 [.v (.fl gH),.s LG N n2] args) : Good prog 48 (.many [.fl (gC (wU ps N).1),.im (.int .i64 (wU ps N).2)]) args w0:=by
 have g2 : aI .gtr .i64 (Int.ofNat N) 65536 = some (.bool false):=by
  have:=AW (i:=N) (n:=65536);rw [decide_eq_false (by omega)] at this;exact this
 unfold wU
 by_cases h : iX ps N = 0
 ·rw [if_neg (fun q => q h)];exact bE aG (fun _ _ => (hZ.ad func102 aHV).w _ _) (Hz ps N w0) func48 (Pv LG N n2 ps) ⟨g2,rfl,h1,rfl,hN,h,rfl,rfl,hN,trivial⟩ ha
 ·rw [if_pos h];exact bE aG (fun _ _ => (hZ.ad func101 Lu).w _ _) ((aK prog).w _ _) func48 (Pw LG N n2 ps) ⟨g2,rfl,h1,rfl,hN,h,uL h,trivial⟩ ha
def fN (p : jP) : Int × J2:=rM p.1 p.2.1 p.2.2
def iW (ps : Nat → jP) : Nat → Int
 | 0 => 0
 | i + 1 => if iW ps i ≠ 0 then iW ps i else (fN (ps i)).1
theorem QT {ps : Nat → jP} : ∀ {N : Nat},iW ps N = 0 → ∀ j,j < N → (fN (ps j)).1 = 0
 | N + 1,h,j,hj => by
  unfold iW at h
  by_cases h0 : iW ps N = 0
  ·rw [if_neg (fun q => q h0)] at h
   by_cases e : j = N
   ·rw [e]; exact h
   ·exact QT h0 j (by omega)
  ·rw [if_pos h0] at h; exact (h0 h).elim
theorem ZK {ps : Nat → jP} : ∀ {N : Nat},iW ps N ≠ 0 → ∃ j,j < N ∧ (∀ k,k < j → (fN (ps k)).1 = 0) ∧ (fN (ps j)).1 ≠ 0 ∧ iW ps N = (fN (ps j)).1
 | 0,h => (h rfl).elim
 | N + 1,h => by
  unfold iW at h ⊢
  by_cases h0 : iW ps N = 0
  ·rw [if_neg (fun q => q h0)] at h ⊢;exact ⟨N,by omega,fun k hk => QT h0 k hk,h,rfl⟩
  ·rw [if_pos h0];obtain ⟨j,h1,h2,h3,h4⟩:=ZK h0;exact ⟨j,by omega,h2,h3,h4⟩
def CB (ps : Nat → jP) (j : Nat) : J2:=(fN (ps j)).2
def tZ (LG Z : List At) (N N' i : Nat) : List Fact:=[.slot 1 (.sl 1 0 N N'),.row 1 false LG,.slot 2 (.pt 2 0),.row 2 true fE,.slot 6 (.sl 12 0 N N),.row 12 true Z,.slot 14 (.im (iI N)),.slot 15 (.im (iI i))]
def aQM (LG : List At) (N N' : Nat) : List Fact:=[.slot 1 (.sl 1 0 N N'),.row 1 false LG,.slot 2 (.pt 2 0),.row 2 true fE]
def aQK (LG Z : List At) (N N' : Nat) : List Fact:=[.slot 1 (.sl 1 0 N N'),.row 1 false LG,.slot 2 (.pt 2 0),.row 2 true fE,.slot 6 (.sl 12 0 N N),.row 12 true Z]
def gM : Code:=(f105.body).getD .skip
def tP : Code:=pS (pS (cB (cA (cB (cB gM)))))
theorem aEa : gM = .seq (cA gM) (.seq (cA (cB gM)) (.seq (.seq (cA (cA (cB (cB gM)))) (.block 0 (.loop tP))) (cB (cB (cB gM))))):=by kernel_rfl
def AB (num : Nat → Option Value) (_ : Nat) : Cfg:=⟨fun _ => jN,fun _ => true,num⟩
theorem aQQ (LG : List At) (N N' : Nat) : aX prog (qG prog) f105.ntmps (AB fun _ => none) 40 (cA gM) (kZ 0 [.v (.fl fE),.s LG N N']) (aQM LG N N') = some ([],.nrm,aQM LG N N'):=by kernel_rfl
def aKT (N : Nat) (Z : List At) : Ext:={ TA (fun _ _ _ => False) with mks:=assoc [(12,(N,Z))] }
theorem aQP (LG Z : List At) (N N' : Nat) : aX prog (qX prog (aKT N Z)) f105.ntmps (AB fun _ => none) 40 (cA (cB gM)) (aQM LG N N') (aQK LG Z N N') = some ([∃ e,∀ w : World,(Instr.makeSlice 167 (iI N) (iI N)).run prog w = .ok (.slice (some ⟨w.heap.size,0,none⟩) N N) (w.alloc (.cells (aA Z).toArray e))],.nrm,aQK LG Z N N'):=by kernel_rfl
theorem aQO (LG Z : List At) (N N' : Nat) : aX prog (qG prog) f105.ntmps (AB fun _ => none) 40 (cA (cA (cB (cB gM)))) (aQK LG Z N N') (tZ LG Z N N' 0) = some ([],.nrm,tZ LG Z N N' 0):=by kernel_rfl
def aJe (i : Nat) (p : jP) (Z' : List At) : Ext:={ TA (fun _ _ _ => False) with idx:=assoc [(23,i),(34,i)],ld:=assoc [(24,jS p)],st:=assoc [(34,Z')] }
theorem aQR (LG Z Z' : List At) (N N' i : Nat) (p : jP) : aX prog (qX prog (aJe i p Z')) f105.ntmps (AB (assoc [(16,.bool true),(29,.bool false),(35,iI (i + 1))])) 60 tP (tZ LG Z N N' i) (tZ LG Z' N N' (i + 1)) = some ([aI .lss .i64 (Int.ofNat i) (Int.ofNat N) = some (.bool true),Int.ofNat i = Int.ofNat i,i < N,fO LG (0 + i * 17) 17 = some (jS p),aI .neq .i64 (fN p).1 0 = some (.bool false),Int.ofNat i = Int.ofNat i,i < N,put Z (0 + i * 24) (bI (fN p).2) = some Z',aI .add .i64 (Int.ofNat i) 1 = some (iI (i + 1))],.nrm,tZ LG Z' N N' (i + 1)):=by kernel_rfl
theorem aQS (LG Z : List At) (N N' i : Nat) (p : jP) : aX prog (qX prog (aJe i p Z)) f105.ntmps (AB (assoc [(16,.bool true),(29,.bool true)])) 60 tP (tZ LG Z N N' i) [.slot 4 (.im (.slice none 0 0)),.slot 5 (.im (.int .i64 (fN p).1))] = some ([aI .lss .i64 (Int.ofNat i) (Int.ofNat N) = some (.bool true),Int.ofNat i = Int.ofNat i,i < N,fO LG (0 + i * 17) 17 = some (jS p),aI .neq .i64 (fN p).1 0 = some (.bool true)],.rt,[.slot 4 (.im (.slice none 0 0)),.slot 5 (.im (.int .i64 (fN p).1))]):=by kernel_rfl
theorem aJg (LG Z : List At) (N N' i : Nat) : aX prog (qG prog) f105.ntmps (AB (assoc [(16,.bool false)])) 40 tP (tZ LG Z N N' i) (tZ LG Z N N' i) = some ([aI .lss .i64 (Int.ofNat i) (Int.ofNat N) = some (.bool false)],.ex 0,tZ LG Z N N' i):=by kernel_rfl
theorem aDY (LG Z : List At) (N N' i : Nat) : aX prog (qG prog) f105.ntmps (AB fun _ => none) 40 (cB (cB (cB gM))) (tZ LG Z N N' i) [.slot 4 (.sl 12 0 N N),.row 12 true Z,.slot 5 (.im (.int .i64 0))] = some ([],.rt,[.slot 4 (.sl 12 0 N N),.row 12 true Z,.slot 5 (.im (.int .i64 0))]):=by kernel_rfl
theorem aCX : sT (aA (bI uB)) (.int .u64 0):=by unfold sT; kernel_rfl
theorem NC {w0 : World} {args : List Value} {N N' : Nat} {ps : Nat → jP} (ha : bR w0 [.v (.fl fE),.s (cD (fun j => jS (ps j)) 0 N) N N'] args) (hN2 : N ≤ 65536) {R : Ending → World → Prop}
  (h : ∀ a w,Holds f105.ntmps w0.heap.size w0 (tZ (cD (fun j => jS (ps j)) 0 N) (nB (fun j => bI (CB ps j)) (bI uB) N 0) N N' 0) a w → (Code.loop tP).wp prog (fun e a w => match e with | .exit 0 => (cB (cB (cB gM))).wp prog (bodyPost prog f105 R) a w | .ret => bodyPost prog f105 R .ret a w | _ => False) a w) : Calls prog 105 args.toArray w0 R:=by
 have hG : cK prog (qG prog) w0.heap.size w0:=(aK _).w _ _;have hT : ∀ n d : Nat,TabOkW prog jN w0.heap.size w0:=fun _ _ => hJ.w _ _
 refine dS func105 (c:=gM) rfl ha (Nat.le_of_ble_eq_true (by kernel_rfl)) fun a w' hA => ?_
 rw [aEa];refine wp_seq (aC aG hT hG (aQQ _ N N') trivial hA fun a w' hA => ?_);refine wp_seq (aC aG hT (nR (x:=aKT N (cD (fun _ => bI uB) 0 N)) (jQ _) fun _ _ _ h => h.elim) (aQP _ (cD (fun _ => bI uB) 0 N) N N') ⟨Kz (t:=167) (e:=171) (z:=bI uB) (v:=.int .u64 0) (n:=24) (by8:=192) (by kernel_rfl) (by kernel_rfl) rfl aCX (by omega) (by omega) (by omega),trivial⟩ hA fun a w' hA => ?_);refine wp_seq (wp_seq (aC aG hT hG (aQO _ _ N N') trivial hA fun a w' hA => ?_));refine wp_block ?_;rw [← QA (fun j => bI (CB ps j))] at hA;refine Code.wp_mono (fun e a w h => ?_) (h a w' hA);cases e with
 | exit id =>
  cases id with
  | zero => exact h
  | succ k => exact h.elim
 | ret => exact h
 | _ => exact h.elim
theorem Ag {w0 : World} {N N' : Nat} {ps : Nat → jP} {i : Nat} (hi : i < N) (hN2 : N ≤ 65536) (h : (fN (ps i)).1 = 0) : Ok prog w0.heap.size w0 f105.ntmps tP (tZ (cD (fun j => jS (ps j)) 0 N) (nB (fun j => bI (CB ps j)) (bI uB) N i) N N' i) .nrm (tZ (cD (fun j => jS (ps j)) 0 N) (nB (fun j => bI (CB ps j)) (bI uB) N (i + 1)) N N' (i + 1)) :=
 ⟨_,_,_,_,nR (x:=aJe i (ps i) _) (jQ _) (fun _ _ _ h => h.elim),fun _ _ => hJ.w _ _,aQR _ _ (nB (fun j => bI (CB ps j)) (bI uB) N (i + 1)) N N' i (ps i),bX hi,rfl,hi,lX (f:=fun j => jS (ps j)) (c:=17) (fun j => rfl) hi (Nat.zero_add _),GE h,rfl,hi,wX (f:=fun j => bI (CB ps j)) (c:=24) (fun j => rfl) rfl hi (Nat.zero_add _),kS (k:=1) (by omega),trivial⟩
theorem aDZ {w0 : World} {args : List Value} {N N' : Nat} {ps : Nat → jP} (ha : bR w0 [.v (.fl fE),.s (cD (fun j => jS (ps j)) 0 N) N N'] args) (hN2 : N ≤ 65536) (h : iW ps N = 0) : Calls prog 105 args.toArray w0 (fun e w' => FR.ok ⟨cD (fun j => bI (CB ps j)) 0 N,N,N,[.im (.int .i64 0)]⟩ w0 e w'):=by
 have hG : cK prog (qG prog) w0.heap.size w0:=(aK _).w _ _;have hT : ∀ n d : Nat,TabOkW prog jN w0.heap.size w0:=fun _ _ => hJ.w _ _
 refine NC ha hN2 fun a w hA => ?_
 refine kB aG (fun i => tZ (cD (fun j => jS (ps j)) 0 N) (nB (fun j => bI (CB ps j)) (bI uB) N i) N N' i) N (fun i hi => Ag hi hN2 (QT h i hi)) (.ex 0) (by simp) (tZ (cD (fun j => jS (ps j)) 0 N) (cD (fun j => bI (CB ps j)) 0 N) N N' N) ?_ hA fun a w hA => ?_
 ·rw [← PZ (fun j => bI (CB ps j)) (bI uB) N];exact ⟨_,_,_,_,hG,hT,aJg _ _ N N' N,eI (Nat.le_refl _),trivial⟩
 ·show (cB (cB (cB gM))).wp _ _ _ _;exact aC aG hT hG (aDY _ _ N N' N) trivial hA fun a w' hA => MD (r:=⟨cD (fun j => bI (CB ps j)) 0 N,N,N,[.im (.int .i64 0)]⟩) (by kernel_rfl) hA
theorem aEb {w0 : World} {args : List Value} {N N' : Nat} {ps : Nat → jP} (ha : bR w0 [.v (.fl fE),.s (cD (fun j => jS (ps j)) 0 N) N N'] args) (hN2 : N ≤ 65536) (h : iW ps N ≠ 0) : Good prog 105 (.many [.im (.slice none 0 0),.im (.int .i64 (iW ps N))]) args w0:=by
 have hG : cK prog (qG prog) w0.heap.size w0:=(aK _).w _ _;have hT : ∀ n d : Nat,TabOkW prog jN w0.heap.size w0:=fun _ _ => hJ.w _ _
 obtain ⟨j,hj,h1,h2,h3⟩:=ZK h;rw [h3];refine NC ha hN2 fun a w hA => ?_
 refine kB aG (fun i => tZ (cD (fun j => jS (ps j)) 0 N) (nB (fun j => bI (CB ps j)) (bI uB) N i) N N' i) j (fun i hi => Ag (by omega) hN2 (h1 i hi)) .rt (by simp) [.slot 4 (.im (.slice none 0 0)),.slot 5 (.im (.int .i64 (fN (ps j)).1))] ?_ hA fun a w hA => ?_
 ·exact ⟨_,_,_,_,nR (x:=aJe j (ps j) _) (jQ _) (fun _ _ _ h => h.elim),fun _ _ => hJ.w _ _,aQS _ _ N N' j (ps j),bX hj,rfl,hj,lX (f:=fun j => jS (ps j)) (c:=17) (fun j => rfl) hj (Nat.zero_add _),uL h2,trivial⟩
 ·exact eK (l:=[.im (.slice none 0 0),.im (.int .i64 (fN (ps j)).1)]) (r:=.many [.im (.slice none 0 0),.im (.int .i64 (fN (ps j)).1)]) (by kernel_rfl) (by kernel_rfl) hA
def NP (pt : Nat → J2) : Nat → J2
 | 0 => uB
 | i + 1 => dW F2 (NP pt i) (pt i)
def DY (L : List At) (N N' i : Nat) (s : J2) : List Fact:=[.row 0 false L,.slot 2 (.pt 2 0),.row 2 true (bI uB),.slot 3 (.pt 3 0),.row 3 true (bI s),.slot 6 (.sl 0 0 N N'),.slot 7 (.im (iI N)),.slot 8 (.im (iI i))]
def gW : Code:=(f106.body).getD .skip
def NR : Code:=pS (pS (cB (cA (cB (cB gW)))))
theorem Vt : gW = .seq (cA gW) (.seq (cA (cB gW)) (.seq (.seq (cA (cA (cB (cB gW)))) (.block 0 (.loop NR))) (cB (cB (cB gW))))):=by kernel_rfl
def aLO (L : List At) (N N' : Nat) : List Fact:=[.slot 0 (.sl 0 0 N N'),.row 0 false L,.slot 2 (.pt 2 0),.row 2 true (bI uB)]
def aLM (L : List At) (N N' : Nat) : List Fact:=[.slot 0 (.sl 0 0 N N'),.row 0 false L,.slot 2 (.pt 2 0),.row 2 true (bI uB),.slot 3 (.pt 3 0),.row 3 true (bI uB)]
theorem aLS (L : List At) (N N' : Nat) : aX prog (qG prog) f106.ntmps (AB fun _ => none) 40 (cA gW) (kZ 0 [.s L N N']) (aLO L N N') = some ([],.nrm,aLO L N N'):=by kernel_rfl
theorem aLR (L : List At) (N N' : Nat) : aX prog (qG prog) f106.ntmps (AB fun _ => none) 40 (cA (cB gW)) (aLO L N N') (aLM L N N') = some ([],.nrm,aLM L N N'):=by kernel_rfl
theorem aLQ (L : List At) (N N' : Nat) : aX prog (qG prog) f106.ntmps (AB fun _ => none) 40 (cA (cA (cB (cB gW)))) (aLM L N N') (DY L N N' 0 uB) = some ([],.nrm,DY L N N' 0 uB):=by kernel_rfl
def aSh (i : Nat) (p : J2) : Ext:={ TA (fun _ _ _ => False) with idx:=assoc [(10,i)],ld:=assoc [(11,bI p)] }
theorem aLT (L : List At) (N N' i : Nat) (s p : J2) : aX prog (qX prog (aSh i p)) f106.ntmps (AB (assoc [(9,.bool true),(15,iI (i + 1))])) 40 NR (DY L N N' i s) (DY L N N' (i + 1) (dW F2 s p)) = some ([aI .lss .i64 (Int.ofNat i) (Int.ofNat N) = some (.bool true),Int.ofNat i = Int.ofNat i,i < N,fO L (0 + i * 24) 24 = some (bI p),aI .add .i64 (Int.ofNat i) 1 = some (iI (i + 1))],.nrm,DY L N N' (i + 1) (dW F2 s p)):=by kernel_rfl
theorem aEX (L : List At) (N N' i : Nat) (s : J2) : aX prog (qG prog) f106.ntmps (AB (assoc [(9,.bool false)])) 40 NR (DY L N N' i s) (DY L N N' i s) = some ([aI .lss .i64 (Int.ofNat i) (Int.ofNat N) = some (.bool false)],.ex 0,DY L N N' i s):=by kernel_rfl
theorem Vs (L : List At) (N N' i : Nat) (s : J2) : aX prog (qG prog) f106.ntmps (AB fun _ => none) 40 (cB (cB (cB gW))) (DY L N N' i s) [.slot 2 (.pt 2 0),.row 2 true (bI s)] = some ([],.rt,[.slot 2 (.pt 2 0),.row 2 true (bI s)]):=by kernel_rfl
theorem Oe {w0 : World} {args : List Value} {N N' : Nat} {pt : Nat → J2} (ha : bR w0 [.s (cD (fun j => bI (pt j)) 0 N) N N'] args) (hN2 : N ≤ 65536) : Good prog 106 (.one (.fl (bI (NP pt N)))) args w0:=by
 have hG : cK prog (qG prog) w0.heap.size w0:=(aK _).w _ _;have hT : ∀ n d : Nat,TabOkW prog jN w0.heap.size w0:=fun _ _ => hJ.w _ _
 refine dS func106 (c:=gW) rfl ha (Nat.le_of_ble_eq_true (by kernel_rfl)) fun a w' hA => ?_
 rw [Vt];refine wp_seq (aC aG hT hG (aLS _ N N') trivial hA fun a w' hA => ?_);refine wp_seq (aC aG hT hG (aLR _ N N') trivial hA fun a w' hA => ?_);refine wp_seq (wp_seq (aC aG hT hG (aLQ _ N N') trivial hA fun a w' hA => ?_));refine wp_block ?_;refine kB aG (fun i => DY (cD (fun j => bI (pt j)) 0 N) N N' i (NP pt i)) N (fun i hi => ?_) (.ex 0) (by simp) (DY (cD (fun j => bI (pt j)) 0 N) N N' N (NP pt N)) ?_ hA fun a w' hA => ?_
 ·exact ⟨_,_,_,_,nR (x:=aSh i (pt i)) (jQ _) (fun _ _ _ h => h.elim),hT,aLT _ N N' i _ (pt i),bX hi,rfl,hi,lX (f:=fun j => bI (pt j)) (c:=24) (fun j => rfl) hi (Nat.zero_add _),kS (k:=1) (by omega),trivial⟩
 ·exact ⟨_,_,_,_,hG,hT,aEX _ N N' N _,eI (Nat.le_refl _),trivial⟩
 ·show (cB (cB (cB gW))).wp _ _ _ _;exact aC aG hT hG (Vs _ N N' N _) trivial hA fun a w' hA => eK (l:=[.fl (bI (NP pt N))]) (r:=.one (.fl (bI (NP pt N)))) (by kernel_rfl) (by kernel_rfl) hA
def EE (pt : Nat → J2) (x : Nat → Nat) (N : Nat) : J2:=Sp (fun p => MN pt x p N) (mJ x N / 4 + 1) (mJ x N / 4 + 1)
def aPc (pt : Nat → J2) (x : Nat → Nat) (N : Nat) : lO
 | [.s LP n1 n2,.s LX n3 n4] => some ([aA LP = aA (cD (fun j => bI (pt j)) 0 N),aA LX = aA (cD (fun j => [.q (x j)]) 0 N),n1 = N,n3 = N,N ≤ 65536],.one (.fl (bI (EE pt x N))))
 | _ => none
theorem aIl {w : World} {pt : Nat → J2} {x : Nat → Nat} {N : Nat} : ∀ cs pre r,aPc pt x N cs = some (pre,r) → aY pre → ∀ (args : List Value),bR w cs args → Good prog 193 r args w:=by
 intro cs pre r hg hq args ha;unfold aPc at hg;split at hg
 ·rename_i LP n1 n2 LX n3 n4;cases hg;obtain ⟨h1,h2,rfl,rfl,h5,_⟩:=hq
  match args,ha with
  | [u,v],ha =>
   obtain ⟨b1,o1,e1,hb1,hr1⟩:=ha.1;obtain ⟨b2,o2,e2,hb2,hr2⟩:=ha.2.1;subst e1; subst e2;refine Ue h1 ⟨hb1,hr1⟩ (fun j hj => ⟨hb2,?_⟩) (Nat.le_refl _) h5 (by omega);rw [h2] at hr2;exact mH (f:=fun j => [At.q (x j)]) (c:=4) (fun _ => rfl) hj hr2
  | [],ha => exact ha.elim
  | [_],ha => exact ha.2.elim
  | _ :: _ :: _ :: _,ha => exact ha.2.2.elim
 ·cases hg
theorem aFJ (LP LX : List At) (n1 n2 n3 n4 N : Nat) (pt : Nat → J2) (x : Nat → Nat) : aW prog (qG prog) (fun _ => ⟨fun _ => (jN).add 193 (aPc pt x N),fun _ => true,assoc [(7,.bool true)]⟩) f153 40 [.s LP n1 n2,.s LX n3 n4] = some ([aI .lss .i64 (Int.ofNat n1) 32 = some (.bool true),aA LP = aA (cD (fun j => bI (pt j)) 0 N),aA LX = aA (cD (fun j => [.q (x j)]) 0 N),n1 = N,n3 = N,N ≤ 65536],.one (.fl (bI (EE pt x N)))):=by kernel_rfl
def aOT (pt : Nat → J2) (x : Nat → Nat) (N : Nat) : lO
 | [.s LP n1 n2,.s LX n3 n4] => some ([aA LP = aA (cD (fun j => bI (pt j)) 0 N),aA LX = aA (cD (fun j => [.q (x j)]) 0 N),n1 = N,n3 = N,N < 32],.one (.fl (bI (EE pt x N))))
 | _ => none
theorem aIc {w : World} {pt : Nat → J2} {x : Nat → Nat} {N : Nat} : ∀ cs pre r,aOT pt x N cs = some (pre,r) → aY pre → ∀ (args : List Value),bR w cs args → Good prog 153 r args w:=by
 intro cs pre r hg hq args ha;unfold aOT at hg;split at hg
 ·rename_i LP n1 n2 LX n3 n4;cases hg;obtain ⟨h1,h2,h3,h4,h5,_⟩:=hq;exact bE aG (fun _ _ => TabOkW.add (hJ.w _ _) func193 (by kernel_rfl) (by kernel_rfl) fun w hw => aIl) ((aK prog).w _ _) func153 (aFJ LP LX n1 n2 n3 n4 N pt x) ⟨by rw [h3]; exact bX (n:=32) h5,h1,h2,h3,h4,by omega,trivial⟩ ha
 ·cases hg
def aPe (ps : Nat → jP) (N : Nat) : List CA → Option (List Prop × FR)
 | [.v (.fl l),.s L n1 n2] => some ([aA l = aA fE,aA L = aA (cD (fun j => jS (ps j)) 0 N),n1 = N,N ≤ 65536,iW ps N = 0],⟨cD (fun j => bI (CB ps j)) 0 N,N,N,[.im (.int .i64 0)]⟩)
 | _ => none
def aIp (ps : Nat → jP) (N : Nat) : lO
 | [.v (.fl l),.s L n1 n2] => some ([aA l = aA fE,aA L = aA (cD (fun j => jS (ps j)) 0 N),n1 = N,N ≤ 65536,iW ps N ≠ 0],.many [.im (.slice none 0 0),.im (.int .i64 (iW ps N))])
 | _ => none
theorem RU {w : World} {ps : Nat → jP} {N n1 n2 : Nat} {l L : List At} (h1 : aA l = aA fE) (h2 : aA L = aA (cD (fun j => jS (ps j)) 0 N)) {args : List Value} (ha : bR w [.v (.fl l),.s L n1 n2] args) : bR w [.v (.fl fE),.s (cD (fun j => jS (ps j)) 0 N) n1 n2] args:=by
 match args,ha with
 | [u,v],ha =>
  obtain ⟨b,o,e,hb,hr⟩:=ha.2.1;refine ⟨?_,⟨b,o,e,hb,by rw [← h2]; exact hr⟩,trivial⟩;show u = .agg (aA fE).toArray;rw [← h1]; exact ha.1
 | [],ha => exact ha.elim
 | [_],ha => exact ha.2.elim
 | _ :: _ :: _ :: _,ha => exact ha.2.2.elim
theorem aIn {ps : Nat → jP} {N : Nat} : ∀ cs pre r,aPe ps N cs = some (pre,r) → aY pre → ∀ (args : List Value) (w : World),bR w cs args → Calls prog 105 args.toArray w (fun e w' => r.ok w e w'):=by
 intro cs pre r hg hq args w ha;unfold aPe at hg;split at hg
 ·cases hg;obtain ⟨h1,h2,rfl,h4,h5,_⟩:=hq;exact aDZ (RU h1 h2 ha) h4 h5
 ·cases hg
theorem Lt {ps : Nat → jP} {N : Nat} : ∀ cs pre r,aIp ps N cs = some (pre,r) → aY pre → ∀ (args : List Value) (w : World),bR w cs args → Good prog 105 r args w:=by
 intro cs pre r hg hq args w ha;unfold aIp at hg;split at hg
 ·cases hg;obtain ⟨h1,h2,rfl,h4,h5,_⟩:=hq;exact aEb (RU h1 h2 ha) h4 h5
 ·cases hg
def aOH (pt : Nat → J2) (N : Nat) : lO
 | [.s L n1 n2] => some ([aA L = aA (cD (fun j => bI (pt j)) 0 N),n1 = N,N ≤ 65536],.one (.fl (bI (NP pt N))))
 | _ => none
theorem aHU {pt : Nat → J2} {N : Nat} : ∀ cs pre r,aOH pt N cs = some (pre,r) → aY pre → ∀ (args : List Value) (w : World),bR w cs args → Good prog 106 r args w:=by
 intro cs pre r hg hq args w ha;unfold aOH at hg;split at hg
 ·rename_i L n1 n2;cases hg;obtain ⟨h1,rfl,h3,_⟩:=hq;refine Oe (N':=n2) ?_ h3
  match args,ha with
  | [u],ha =>
   obtain ⟨b,o,e,hb,hr⟩:=ha.1;exact ⟨⟨b,o,e,hb,by rw [← h1]; exact hr⟩,trivial⟩
  | [],ha => exact ha.elim
  | _ :: _ :: _,ha => exact ha.2.elim
 ·cases hg
def aLp (ps : Nat → jP) (N : Nat) : Ext:={ TA (fun _ _ _ => False) with T2:=Fr0.add 105 (aPe ps N) }
theorem Hy (ps : Nat → jP) (N : Nat) (w : World) : cK prog (qX prog (aLp ps N)) w.heap.size w:=nR ((jQ _).ad func105 aIn) fun _ _ _ h => h.elim
theorem Qi (LG LX : List At) (N n2 n n4 : Nat) (ps : Nat → jP) : aW prog (qG prog) (fun _ => ⟨fun _ => (jN).add 105 (aIp ps N),fun _ => true,assoc [(15,.bool false),(19,.bool false),(29,.bool true)]⟩) f98 60 [.v (.fl fE),.s LG N n2,.s LX n n4] = some ([aI .neq .i64 (Int.ofNat N) (Int.ofNat n) = some (.bool false),aI .gtr .i64 (Int.ofNat N) 65536 = some (.bool false),aA fE = aA fE,aA LG = aA (cD (fun j => jS (ps j)) 0 N),N = N,N ≤ 65536,iW ps N ≠ 0,aI .neq .i64 (iW ps N) 0 = some (.bool true)],.many [.fl (eC (some (F2.zero,F2.zero))),.im (.int .i64 (iW ps N))]):=by kernel_rfl
theorem Qh (LG LX : List At) (N n2 n n4 : Nat) (ps : Nat → jP) (x : Nat → Nat) : aW prog (qX prog (aLp ps N)) (fun _ => ⟨fun _ => (jN).add 153 (aOT (CB ps) x N),fun _ => true,assoc [(15,.bool false),(19,.bool false)]⟩) f98 60 [.v (.fl fE),.s LG N n2,.s LX n n4] = some ([aI .neq .i64 (Int.ofNat N) (Int.ofNat n) = some (.bool false),aI .gtr .i64 (Int.ofNat N) 65536 = some (.bool false),aA fE = aA fE,aA LG = aA (cD (fun j => jS (ps j)) 0 N),N = N,N ≤ 65536,iW ps N = 0,aA (cD (fun j => bI (CB ps j)) 0 N) = aA (cD (fun j => bI (CB ps j)) 0 N),aA LX = aA (cD (fun j => [.q (x j)]) 0 N),N = N,n = N,N < 32],.many [.fl (eC (fT F2 dT (EE (CB ps) x N))),.im (.int .i64 0)]):=by kernel_rfl
theorem Pu (LG : List At) (N n2 : Nat) (ps : Nat → jP) : aW prog (qG prog) (fun _ => ⟨fun _ => (jN).add 105 (aIp ps N),fun _ => true,assoc [(11,.bool false),(20,.bool true)]⟩) f50 60 [.v (.fl fE),.s LG N n2] = some ([aI .gtr .i64 (Int.ofNat N) 65536 = some (.bool false),aA fE = aA fE,aA LG = aA (cD (fun j => jS (ps j)) 0 N),N = N,N ≤ 65536,iW ps N ≠ 0,aI .neq .i64 (iW ps N) 0 = some (.bool true)],.many [.fl (eC (some (F2.zero,F2.zero))),.im (.int .i64 (iW ps N))]):=by kernel_rfl
theorem Pr (LG : List At) (N n2 : Nat) (ps : Nat → jP) : aW prog (qX prog (aLp ps N)) (fun _ => ⟨fun _ => (jN).add 106 (aOH (CB ps) N),fun _ => true,assoc [(11,.bool false)]⟩) f50 60 [.v (.fl fE),.s LG N n2] = some ([aI .gtr .i64 (Int.ofNat N) 65536 = some (.bool false),aA fE = aA fE,aA LG = aA (cD (fun j => jS (ps j)) 0 N),N = N,N ≤ 65536,iW ps N = 0,aA (cD (fun j => bI (CB ps j)) 0 N) = aA (cD (fun j => bI (CB ps j)) 0 N),N = N,N ≤ 65536],.many [.fl (eC (fT F2 dT (NP (CB ps) N))),.im (.int .i64 0)]):=by kernel_rfl
def lS (ps : Nat → jP) (x : Nat → Nat) (N : Nat) : Pt Q2 × Int:=if iW ps N ≠ 0 then (some (F2.zero,F2.zero),iW ps N) else (fT F2 dT (EE (CB ps) x N),0)
theorem Sz {w0 : World} {args : List Value} {LG LX : List At} {N n2 n4 : Nat} {ps : Nat → jP} {x : Nat → Nat} (h1 : aA LG = aA (cD (fun j => jS (ps j)) 0 N)) (h2 : aA LX = aA (cD (fun j => [.q (x j)]) 0 N)) (hN : N < 32) (ha : bR w0 [.v (.fl fE),.s LG N n2,.s LX N n4] args) : Good prog 98 (.many [.fl (eC (lS ps x N).1),.im (.int .i64 (lS ps x N).2)]) args w0:=by
 have g1 : aI .neq .i64 (Int.ofNat N) (Int.ofNat N) = some (.bool false):=by rw [aAV,decide_eq_false (by simp)]
 have g2 : aI .gtr .i64 (Int.ofNat N) 65536 = some (.bool false):=by
  have:=AW (i:=N) (n:=65536);rw [decide_eq_false (by omega)] at this;exact this
 unfold lS
 by_cases h : iW ps N = 0
 ·rw [if_neg (fun q => q h)];exact bE aG (fun _ _ => TabOkW.add (hJ.w _ _) func153 (by kernel_rfl) (by kernel_rfl) fun w hw => aIc) (Hy ps N w0) func98 (Qh LG LX N n2 N n4 ps x) ⟨g1,g2,rfl,h1,rfl,by omega,h,rfl,h2,rfl,rfl,hN,trivial⟩ ha
 ·rw [if_pos h];exact bE aG (fun _ _ => (hJ.ad func105 Lt).w _ _) ((aK prog).w _ _) func98 (Qi LG LX N n2 N n4 ps) ⟨g1,g2,rfl,h1,rfl,by omega,h,uL h,trivial⟩ ha
def wT (ps : Nat → jP) (N : Nat) : Pt Q2 × Int:=if iW ps N ≠ 0 then (some (F2.zero,F2.zero),iW ps N) else (fT F2 dT (NP (CB ps) N),0)
theorem Ot {w0 : World} {args : List Value} {LG : List At} {N n2 : Nat} {ps : Nat → jP} (h1 : aA LG = aA (cD (fun j => jS (ps j)) 0 N)) (hN : N ≤ 65536) (ha : bR w0 [.v (.fl fE),.s LG N n2] args) : Good prog 50 (.many [.fl (eC (wT ps N).1),.im (.int .i64 (wT ps N).2)]) args w0:=by
 have g2 : aI .gtr .i64 (Int.ofNat N) 65536 = some (.bool false):=by
  have:=AW (i:=N) (n:=65536);rw [decide_eq_false (by omega)] at this;exact this
 unfold wT
 by_cases h : iW ps N = 0
 ·rw [if_neg (fun q => q h)];exact bE aG (fun _ _ => (hJ.ad func106 aHU).w _ _) (Hy ps N w0) func50 (Pr LG N n2 ps) ⟨g2,rfl,h1,rfl,hN,h,rfl,rfl,hN,trivial⟩ ha
 ·rw [if_pos h];exact bE aG (fun _ _ => (hJ.ad func105 Lt).w _ _) ((aK prog).w _ _) func50 (Pu LG N n2 ps) ⟨g2,rfl,h1,rfl,hN,h,uL h,trivial⟩ ha
def p2 {A : Type} (p q : A) : Nat → A | 0 => p | _ + 1 => q
def p3 {A : Type} (p q r : A) : Nat → A | 0 => p | 1 => q | _ + 2 => r
def aOM (ps : Nat → nM) (N : Nat) : lO
 | [.v (.fl l),.s L n1 n2] => some ([aA l = aA gH,aA L = aA (cD (fun j => rC (ps j)) 0 N),n1 = N,N ≤ 65536],.many [.fl (gC (wU ps N).1),.im (.int .i64 (wU ps N).2)])
 | _ => none
theorem aHX {ps : Nat → nM} {N : Nat} : ∀ cs pre r,aOM ps N cs = some (pre,r) → aY pre → ∀ (args : List Value) (w : World),bR w cs args → Good prog 48 r args w:=by
 intro cs pre r hg hq args w ha;unfold aOM at hg;split at hg
 ·cases hg;obtain ⟨h1,h2,rfl,h4,_⟩:=hq;exact Ou rfl h4 (RW h1 h2 ha)
 ·cases hg
def aOW (ps : Nat → nM) (x : Nat → Nat) (N : Nat) : lO
 | [.v (.fl l),.s L n1 n2,.s X n3 n4] => some ([aA l = aA gH,aA L = aA (cD (fun j => rC (ps j)) 0 N),aA X = aA (cD (fun j => [.q (x j)]) 0 N),n1 = N,n3 = N,N < 32],.many [.fl (gC (oV ps x N).1),.im (.int .i64 (oV ps x N).2)])
 | _ => none
theorem aIf {ps : Nat → nM} {x : Nat → Nat} {N : Nat} : ∀ cs pre r,aOW ps x N cs = some (pre,r) → aY pre → ∀ (args : List Value) (w : World),bR w cs args → Good prog 96 r args w:=by
 intro cs pre r hg hq args w ha;unfold aOW at hg;split at hg
 ·rename_i l L n1 n2 X n3 n4;cases hg;obtain ⟨h1,h2,h3,rfl,rfl,h6,_⟩:=hq;refine Ta (LG:=L) (LX:=X) (n2:=n2) (n4:=n4) h2 h3 h6 ?_
  match args,ha with
  | [u,v,t],ha =>
   refine ⟨?_,ha.2.1,ha.2.2.1,trivial⟩;show u = .agg (aA gH).toArray;rw [← h1]; exact ha.1
  | [],ha => exact ha.elim
  | [_],ha => exact ha.2.elim
  | [_,_],ha => exact ha.2.2.elim
  | _ :: _ :: _ :: _ :: _,ha => exact ha.2.2.2.elim
 ·cases hg
theorem Rl (p q : nM) : aW prog (qG prog) (fun _ => ⟨fun s => (qW true).add 48 (aOM (p2 p q) 2),fun s => true,fun _ => none⟩) f18 60 [.v (.fl (rC p)),.v (.fl (rC q))] = some ([aA gH = aA gH,aA (rC p ++ rC q) = aA (cD (fun j => rC (p2 p q j)) 0 2),2 = 2,2 ≤ 65536],.many [.fl (gC (wU (p2 p q) 2).1),.im (.int .i64 (wU (p2 p q) 2).2)]):=by kernel_rfl
theorem Rj (p : nM) (n : Nat) : aW prog (qG prog) (fun _ => ⟨fun s => (qW true).add 96 (aOW (fun _ => p) (fun _ => n) 1),fun s => true,fun _ => none⟩) f44 60 [.v (.fl (rC p)),.v (.fl [.q n])] = some ([aA gH = aA gH,aA (rC p) = aA (cD (fun j => rC p) 0 1),aA [.q n] = aA (cD (fun j => [At.q n]) 0 1),1 = 1,1 = 1,1 < 32],.many [.fl (gC (oV (fun _ => p) (fun _ => n) 1).1),.im (.int .i64 (oV (fun _ => p) (fun _ => n) 1).2)]):=by kernel_rfl
def Ns : Tab:=(qW true).add 18 (g2 rg1 rg1 fun p q => ([],.many [.fl (gC (wU (p2 p q) 2).1),.im (.int .i64 (wU (p2 p q) 2).2)]))
theorem aAT : TabOk prog Ns:=(nW true).ad func18 (fB EW EW fun p q hp args w ha => aB aG (fun _ s => (nW true).ad func48 aHX) (aK prog) func18 (Rl p q) ⟨rfl,rfl,rfl,by omega,trivial⟩ ha)
def Nq : Tab:=(Ns).add 44 (g2 rg1 ON fun p n => ([],.many [.fl (gC (oV (fun _ => p) (fun _ => n) 1).1),.im (.int .i64 (oV (fun _ => p) (fun _ => n) 1).2)]))
theorem aAR : TabOk prog Nq:=(aAT).ad func44 (fB EW gD fun p n hp args w ha => aB aG (fun _ s => (nW true).ad func96 aIf) (aK prog) func44 (Rj p n) ⟨rfl,rfl,rfl,rfl,rfl,by omega,trivial⟩ ha)
def aOL (ps : Nat → jP) (N : Nat) : lO
 | [.v (.fl l),.s L n1 n2] => some ([aA l = aA fE,aA L = aA (cD (fun j => jS (ps j)) 0 N),n1 = N,N ≤ 65536],.many [.fl (eC (wT ps N).1),.im (.int .i64 (wT ps N).2)])
 | _ => none
theorem aHW {ps : Nat → jP} {N : Nat} : ∀ cs pre r,aOL ps N cs = some (pre,r) → aY pre → ∀ (args : List Value) (w : World),bR w cs args → Good prog 50 r args w:=by
 intro cs pre r hg hq args w ha;unfold aOL at hg;split at hg
 ·cases hg;obtain ⟨h1,h2,rfl,h4,_⟩:=hq;exact Ot rfl h4 (RU h1 h2 ha)
 ·cases hg
def aOV (ps : Nat → jP) (x : Nat → Nat) (N : Nat) : lO
 | [.v (.fl l),.s L n1 n2,.s X n3 n4] => some ([aA l = aA fE,aA L = aA (cD (fun j => jS (ps j)) 0 N),aA X = aA (cD (fun j => [.q (x j)]) 0 N),n1 = N,n3 = N,N < 32],.many [.fl (eC (lS ps x N).1),.im (.int .i64 (lS ps x N).2)])
 | _ => none
theorem aIe {ps : Nat → jP} {x : Nat → Nat} {N : Nat} : ∀ cs pre r,aOV ps x N cs = some (pre,r) → aY pre → ∀ (args : List Value) (w : World),bR w cs args → Good prog 98 r args w:=by
 intro cs pre r hg hq args w ha;unfold aOV at hg;split at hg
 ·rename_i l L n1 n2 X n3 n4;cases hg;obtain ⟨h1,h2,h3,rfl,rfl,h6,_⟩:=hq;refine Sz (LG:=L) (LX:=X) (n2:=n2) (n4:=n4) h2 h3 h6 ?_
  match args,ha with
  | [u,v,t],ha =>
   refine ⟨?_,ha.2.1,ha.2.2.1,trivial⟩;show u = .agg (aA fE).toArray;rw [← h1]; exact ha.1
  | [],ha => exact ha.elim
  | [_],ha => exact ha.2.elim
  | [_,_],ha => exact ha.2.2.elim
  | _ :: _ :: _ :: _ :: _,ha => exact ha.2.2.2.elim
 ·cases hg
theorem Rk (p q : jP) : aW prog (qG prog) (fun _ => ⟨fun s => (qW true).add 50 (aOL (p2 p q) 2),fun s => true,fun _ => none⟩) f19 60 [.v (.fl (jS p)),.v (.fl (jS q))] = some ([aA fE = aA fE,aA (jS p ++ jS q) = aA (cD (fun j => jS (p2 p q j)) 0 2),2 = 2,2 ≤ 65536],.many [.fl (eC (wT (p2 p q) 2).1),.im (.int .i64 (wT (p2 p q) 2).2)]):=by kernel_rfl
theorem Rh (p : jP) (n : Nat) : aW prog (qG prog) (fun _ => ⟨fun s => (qW true).add 98 (aOV (fun _ => p) (fun _ => n) 1),fun s => true,fun _ => none⟩) f46 60 [.v (.fl (jS p)),.v (.fl [.q n])] = some ([aA fE = aA fE,aA (jS p) = aA (cD (fun j => jS p) 0 1),aA [.q n] = aA (cD (fun j => [At.q n]) 0 1),1 = 1,1 = 1,1 < 32],.many [.fl (eC (lS (fun _ => p) (fun _ => n) 1).1),.im (.int .i64 (lS (fun _ => p) (fun _ => n) 1).2)]):=by kernel_rfl
def uF (p : jP) : Pt Q2 × Int:=if (rM p.1 p.2.1 p.2.2).1 ≠ 0 then ((some (F2.zero,F2.zero)),(rM p.1 p.2.1 p.2.2).1) else (fT F2 dT (sI F2 (rM p.1 p.2.1 p.2.2).2),0)
def aOS : lO
 | [.v (.fl l),.v (.fl m)] => match Yv m with
  | some p => some ([aA l = aA fE],.many [.fl (eC (uF p).1),.im (.int .i64 (uF p).2)])
  | none => none
 | _ => none
theorem aIb : ∀ cs pre r,aOS cs = some (pre,r) → aY pre → ∀ (args : List Value) (w : World),bR w cs args → Good prog 218 r args w:=by
 intro cs pre r hg hq args w ha;unfold aOS at hg;split at hg
 ·rename_i l m;split at hg
  ·rename_i p hp;cases hg;obtain ⟨h1,_⟩:=hq;have hb : bR w [.v (.fl fE),.v (.fl (jS p))] args:=by
    match args,ha with
    | [u,v],ha =>
     refine ⟨?_,?_,trivial⟩
     ·show u = .agg (aA fE).toArray;rw [← h1]; exact ha.1
     ·show v = .agg (aA (jS p)).toArray;rw [← qA m p hp]; exact ha.2.1
    | [],ha => exact ha.elim
    | [_],ha => exact ha.2.elim
    | _ :: _ :: _ :: _,ha => exact ha.2.2.elim
   unfold uF
   by_cases h : (rM p.1 p.2.1 p.2.2).1 = 0
   ·rw [if_neg (fun q => q h)];exact aB aG (fun _ s => nW _) (aK prog) func218 (VM true p) ⟨GE h,trivial⟩ hb
   ·rw [if_pos h];exact aB aG (fun _ s => nW _) (aK prog) func218 (VL true p) ⟨uL h,trivial⟩ hb
  ·cases hg
 ·cases hg
theorem Rg (p : jP) : aW prog (qG prog) (fun _ => ⟨fun s => (qW true).add 218 aOS,fun s => true,fun _ => none⟩) f174 60 [.v (.fl (jS p))] = some ([aA fE = aA fE],.many [.fl (eC (uF p).1),.im (.int .i64 (uF p).2)]):=by kernel_rfl
def Nr : Tab:=(Nq).add 19 (g2 Yv Yv fun p q => ([],.many [.fl (eC (wT (p2 p q) 2).1),.im (.int .i64 (wT (p2 p q) 2).2)]))
theorem aAS : TabOk prog Nr:=(aAR).ad func19 (fB qA qA fun p q hp args w ha => aB aG (fun _ s => (nW true).ad func50 aHW) (aK prog) func19 (Rk p q) ⟨rfl,rfl,rfl,by omega,trivial⟩ ha)
def Np : Tab:=(Nr).add 46 (g2 Yv ON fun p n => ([],.many [.fl (eC (lS (fun _ => p) (fun _ => n) 1).1),.im (.int .i64 (lS (fun _ => p) (fun _ => n) 1).2)]))
theorem aAQ : TabOk prog Np:=(aAS).ad func46 (fB qA gD fun p n hp args w ha => aB aG (fun _ s => (nW true).ad func98 aIe) (aK prog) func46 (Rh p n) ⟨rfl,rfl,rfl,rfl,rfl,by omega,trivial⟩ ha)
def No : Tab:=(Np).add 174 (g1 Yv fun p => ([],.many [.fl (eC (uF p).1),.im (.int .i64 (uF p).2)]))
theorem YB : TabOk prog No:=(aAQ).ad func174 (bC qA fun p hp args w ha => aB aG (fun _ s => (nW true).ad func218 aIb) (aK prog) func174 (Rg p) ⟨rfl,trivial⟩ ha)
open Classical
section
variable {R : Type} {K : CR R} {inv : R → R} {b : R}
def Rp (E : EC K inv b) (p : Jc R) (P : {p : Pt R // On K b p}) : Prop:=fT K inv p = P.1
theorem Rp.on {E : EC K inv b} {p : Jc R} {P : {p : Pt R // On K b p}} (h : Rp E p P) : On K b (fT K inv p):=by
 rw [show fT K inv p = P.1 from h]; exact P.2
theorem Rp.plus {E : EC K inv b} {p q : Jc R} {P Q : {p : Pt R // On K b p}} (h : Rp E p P) (g : Rp E q Q) : Rp E (dW K p q) (E.grp.add P Q):=by
 show fT K inv (dW K p q) = gZ K inv P.1 Q.1;rw [YV E h.on g.on,show fT K inv p = P.1 from h,show fT K inv q = Q.1 from g]
theorem Rp.rplus {E : EC K inv b} {p q : Jc R} {P Q : {p : Pt R // On K b p}} (h : Rp E p P) (g : Rp E q Q) : Rp E (rplus K p q) (E.grp.add P Q):=by
 show fT K inv (Ex.rplus K p q) = gZ K inv P.1 Q.1;rw [Te E h.on g.on,show fT K inv p = P.1 from h,show fT K inv q = Q.1 from g]
theorem Rp.dbl {E : EC K inv b} {p : Jc R} {P : {p : Pt R // On K b p}} (h : Rp E p P) : Rp E (cG K p) (E.grp.add P P):=by
 show fT K inv (cG K p) = gZ K inv P.1 P.1;rw [QD E h.on,show fT K inv p = P.1 from h]
theorem Rp.neg {E : EC K inv b} {p : Jc R} {P : {p : Pt R // On K b p}} (h : Rp E p P) : Rp E (sI K p) (E.grp.neg P):=by
 show fT K inv (sI K p) = KR K P.1;rw [aHI,show fT K inv p = P.1 from h]
theorem Rp.zero {E : EC K inv b} {p : Jc R} (h : p.2.2 = K.zero) : Rp E p E.grp.zero:=dE h
theorem EC.inv_one (E : EC K inv b) : inv K.one = K.one:=by
 have:=E.F.inv K.one E.F.ne
 rwa [K.one_mul] at this
theorem EC.jto_one (E : EC K inv b) (x y : R) : fT K inv (x,y,K.one) = some (x,y):=by
 rw [dR (p:=(x,y,K.one)) E.F.ne];refine congrArg some (Prod.ext ?_ ?_)
 ·show K.mul x (K.mul (inv K.one) (inv K.one)) = x;rw [E.inv_one,K.one_mul,K.mul_one]
 ·show K.mul y (K.mul (K.mul (inv K.one) (inv K.one)) (inv K.one)) = y;rw [E.inv_one,K.one_mul,K.one_mul,K.mul_one]
end
namespace AG
variable {G : Type} (A : AG G)
end AG
open Go.RowKit
open Classical
theorem YG (c : Nat) (hc : c < FP.M) (h0 : c ≠ 0) (hv : c ^ sD % FP.M ≠ 1) (n : Fq) : F1.mul n (F1.mul n n) ≠ fm c:=fun h => by
 have hv' : n.1 ^ 3 % FP.M = c:=by
  have:=congrArg Fin.val h;have e : n.1 * (n.1 * n.1 % FP.M) % FP.M = c % FP.M:=this;rw [Nat.mul_mod_mod,← Nat.mul_assoc,show n.1 * n.1 * n.1 = n.1 ^ 3 by rw [Nat.pow_succ,Nat.pow_two]] at e;rw [e]; exact Nat.mod_eq_of_lt hc
 have h1 : 0 < n.1:=by
  rcases Nat.eq_zero_or_pos n.1 with h1 | h1
  ·rw [h1] at hv';exact (h0 hv'.symm).elim
  ·exact h1
 have:=Tq h1 n.2;rw [← TT,Nat.pow_mul,Nat.pow_mod,hv'] at this;exact hv this
theorem aUW : 3 ^ sD % FP.M ≠ 1:=by
 rw [← AP FP.M 256 3 sD (by decide)];exact of_decide_eq_true (by kernel_rfl)
def nb2 : Nat:=21087453498479301738505683583845423561061080261299122796980902361914303298513
theorem aUV : nb2 ^ sD % FP.M ≠ 1:=by
 rw [← AP FP.M 256 nb2 sD (by decide)];exact of_decide_eq_true (by kernel_rfl)
theorem aTH : rL dF = fm nb2:=by decide
section
variable {R : Type} (K : CR R)
theorem Mv {x b : R} (h : K.add (K.mul x (K.mul x x)) b = K.zero) : K.mul (K.neg x) (K.mul (K.neg x) (K.neg x)) = b:=by
 have e : K.mul (K.neg x) (K.mul (K.neg x) (K.neg x)) = K.add (K.neg (K.add (K.mul x (K.mul x x)) b)) b:=aE K (aR K [x,b]) (.mul (.neg (.v 0)) (.mul (.neg (.v 0)) (.neg (.v 0)))) (.add (.neg (.add (.mul (.v 0) (.mul (.v 0) (.v 0))) (.v 1))) (.v 1)) (by decide);rw [e,h];have z : K.neg K.zero = K.zero:=by have:=K.neg_add K.zero; rwa [K.add_zero] at this
 rw [z,K.zero_add]
end
theorem iY : EC F1 cO (fm 3) where
 F:=⟨Nx,fun x h => xS h⟩
 two:=fun h => absurd (congrArg Fin.val h) (by decide)
 odd:=fun x h => YG 3 (by decide) (by decide) aUW _ (Mv F1 h)
theorem aZ : EC F2 dT dF where
 F:=⟨zT.1,fun x h => ST fun e => h (pH e)⟩
 two:=fun h => absurd (congrArg (fun x : Q2 => x.1.1) h) (by decide)
 odd:=fun x h => by
  have h1:=congrArg rL (Mv F2 h);rw [xI,xI,aTH] at h1;exact YG nb2 (by decide) (by decide) aUV _ h1
theorem aLv (x : Nat) : wv x % 18446744073709551616 = fw x 0:=by
 obtain ⟨h0,h1,h2,h3⟩:=dL x;unfold wv aF;omega
theorem tO (x p : Nat) : lN x p = pO (xZ (wv x) p):=by
 have e : lM x p = xZ (wv x) p:=by
  unfold lM xZ
  by_cases h : p = 0
  ·rw [if_pos h,if_pos h];unfold Ik;have:=aLv x;omega
  ·rw [if_neg h,if_neg h];generalize wv x / 2 ^ (p * 4 - 1) = y;show y / 18446744073709551616 ^ 0 % 18446744073709551616 % 32 = y % 32;rw [Nat.pow_zero,Nat.div_one];omega
 unfold lN pO;rw [e]
abbrev C1:={p : Pt Fq // On F1 (fm 3) p}
theorem QF {p : J1} {g : C1} (h : Rp iY p g) : ∀ k,Rp iY (KC p k) (iY.grp.ns k g)
 | 0 => Rp.zero rfl
 | k + 1 => (QF h k).plus h
theorem Vz {p : J1} {g : C1} (h : Rp iY p g) : ∀ d : Int,Rp iY (Oi p d) (iY.grp.zs d g)
 | .ofNat 0 => Rp.zero rfl
 | .ofNat (k + 1) => QF h (k + 1)
 | .negSucc k => (QF h (k + 1)).neg
theorem My {pt : Nat → J1} {g : Nat → C1} {N : Nat} (h : ∀ j,j < N → Rp iY (pt j) (g j)) (x : Nat → Nat) (p : Nat) : ∀ n,n ≤ N → Rp iY (MO pt x p n) (iY.grp.sm g (fun j => pO (xZ (wv (x j)) p)) n)
 | 0,_ => Rp.zero rfl
 | n + 1,hn => by
  have h2:=Vz (h n (by omega)) (lN (x n) p);rw [tO] at h2;have h1:=My h x p n (by omega);have:=h1.plus h2;rw [← tO] at this;show Rp iY _ (iY.grp.add _ (iY.grp.zs (pO (xZ (wv (x n)) p)) (g n)));rw [← tO];exact this
theorem Jj {D : Nat → J1} {g : Nat → C1} {N PL : Nat} {x : Nat → Nat} (h : ∀ p,Rp iY (D p) (iY.grp.sm g (fun j => pO (xZ (wv (x j)) p)) N)) : ∀ k,Rp iY (Sr D PL k) (iY.grp.sm g (fun j => Tj (wv (x j)) PL k) N)
 | 0 => by
  show Rp iY _ (iY.grp.sm g (fun _ => 0) N);rw [iY.grp.sm_zero];exact Rp.zero rfl
 | k + 1 => by
  have h1:=(Jj (PL:=PL) h k).dbl.dbl.dbl.dbl.plus (h (PL - 1 - k));rw [iY.grp.sm_two,iY.grp.sm_two,iY.grp.sm_two,iY.grp.sm_two,← iY.grp.sm_add] at h1;rw [iY.grp.sm_congr (d:=fun j => Tj (wv (x j)) PL (k + 1)) (fun j _ => by show _ = 16 * Tj (wv (x j)) PL k + _; omega)] at h1;exact h1
theorem Oq {pt : Nat → J1} {g : Nat → C1} {N : Nat} (h : ∀ j,j < N → Rp iY (pt j) (g j)) (x : Nat → Nat) : Rp iY (EF pt x N) (iY.grp.sm g (fun j => (wv (x j) : Int)) N):=by
 have h1:=Jj (PL:=mJ x N / 4 + 1) (fun p => My h x p N (Nat.le_refl _)) (mJ x N / 4 + 1);rw [iY.grp.sm_congr (d:=fun j => (wv (x j) : Int)) (fun j hj => Lq _ _ (Nat.lt_of_lt_of_le (DA (x j)).1 (Nat.pow_le_pow_right (by omega) (by have:=Es x N j hj; omega))) (by omega))] at h1;exact h1
def af1 (p : nM) : Pt Fq:=bif p.2.2 then none else some (m1 p.1,m1 p.2.1)
theorem aDA {p : nM} (h : (jL p).1 = 0) : fT F1 cO (jL p).2 = af1 p ∧ On F1 (fm 3) (af1 p):=by
 obtain ⟨x,y,b⟩:=p;have e:=RJ x y b;show fT F1 cO (RK x y b).2 = _ ∧ _;have h' : (RK x y b).1 = 0:=h;cases b with
 | true =>
  rw [if_pos rfl] at e;refine ⟨?_,trivial⟩;have : (RK x y true).2.2.2 = F1.zero:=by
   rw [e];split <;> rfl
  exact dE this
 | false =>
  rw [if_neg (by simp)] at e
  by_cases hb : ¬ (JJ x ∧ JJ y)
  ·rw [if_pos hb] at e;rw [e] at h'; cases h'
  ·rw [if_neg hb] at e
   by_cases hy : F1.mul (m1 y) (m1 y) = F1.add (F1.mul (F1.mul (m1 x) (m1 x)) (m1 x)) (fm 3)
   ·rw [if_pos hy] at e;rw [e];refine ⟨iY.jto_one _ _,?_⟩;show F1.mul (m1 y) (m1 y) = F1.add (F1.mul (m1 x) (F1.mul (m1 x) (m1 x))) (fm 3);rw [hy,F1.mul_comm (m1 x) (F1.mul (m1 x) (m1 x))]
   ·rw [if_neg hy] at e;rw [e] at h'; cases h'
def cp1 (p : nM) : C1:=if h : (jL p).1 = 0 then ⟨af1 p,(aDA h).2⟩ else iY.grp.zero
theorem Ge {p : nM} (h : (jL p).1 = 0) : (cp1 p).1 = af1 p:=by unfold cp1; rw [dif_pos h]
theorem aIK {p : nM} (h : (jL p).1 = 0) : Rp iY (jL p).2 (cp1 p):=(aDA h).1.trans (Ge h).symm
theorem aGk (p : nM) (n : Nat) : oV (fun _ => p) (fun _ => n) 1 = if (jL p).1 ≠ 0 then ((some (F1.zero,F1.zero)),(jL p).1) else ((iY.grp.ns (wv n) (cp1 p)).1,0):=by
 have e1 : iX (fun _ => p) 1 = (jL p).1:=if_neg (fun h => h rfl);unfold oV;rw [e1]
 by_cases h1 : (jL p).1 = 0
 ·simp only [h1,ne_eq,not_true_eq_false,not_false_eq_true,if_true,if_false];have hr:=Oq (pt:=CC (fun _ => p)) (g:=fun _ => cp1 p) (N:=1) (fun j hj => aIK h1) (fun _ => n);have hr' : fT F1 cO (EF (CC (fun _ => p)) (fun _ => n) 1) = (iY.grp.add iY.grp.zero (iY.grp.ns (wv n) (cp1 p))).1:=hr;rw [iY.grp.zadd] at hr';rw [hr']
 ·simp only [h1,ne_eq,not_true_eq_false,not_false_eq_true,if_true,if_false]
abbrev C2:={p : Pt Q2 // On F2 dF p}
theorem QE {p : J2} {g : C2} (h : Rp aZ p g) : ∀ k,Rp aZ (KB p k) (aZ.grp.ns k g)
 | 0 => Rp.zero rfl
 | k + 1 => (QE h k).plus h
theorem Vy {p : J2} {g : C2} (h : Rp aZ p g) : ∀ d : Int,Rp aZ (Oh p d) (aZ.grp.zs d g)
 | .ofNat 0 => Rp.zero rfl
 | .ofNat (k + 1) => QE h (k + 1)
 | .negSucc k => (QE h (k + 1)).neg
theorem Mx {pt : Nat → J2} {g : Nat → C2} {N : Nat} (h : ∀ j,j < N → Rp aZ (pt j) (g j)) (x : Nat → Nat) (p : Nat) : ∀ n,n ≤ N → Rp aZ (MN pt x p n) (aZ.grp.sm g (fun j => pO (xZ (wv (x j)) p)) n)
 | 0,_ => Rp.zero rfl
 | n + 1,hn => by
  have h2:=Vy (h n (by omega)) (lN (x n) p);rw [tO] at h2;have h1:=Mx h x p n (by omega);have:=h1.plus h2;rw [← tO] at this;show Rp aZ _ (aZ.grp.add _ (aZ.grp.zs (pO (xZ (wv (x n)) p)) (g n)));rw [← tO];exact this
theorem Ji {D : Nat → J2} {g : Nat → C2} {N PL : Nat} {x : Nat → Nat} (h : ∀ p,Rp aZ (D p) (aZ.grp.sm g (fun j => pO (xZ (wv (x j)) p)) N)) : ∀ k,Rp aZ (Sp D PL k) (aZ.grp.sm g (fun j => Tj (wv (x j)) PL k) N)
 | 0 => by
  show Rp aZ _ (aZ.grp.sm g (fun _ => 0) N);rw [aZ.grp.sm_zero];exact Rp.zero rfl
 | k + 1 => by
  have h1:=(Ji (PL:=PL) h k).dbl.dbl.dbl.dbl.plus (h (PL - 1 - k));rw [aZ.grp.sm_two,aZ.grp.sm_two,aZ.grp.sm_two,aZ.grp.sm_two,← aZ.grp.sm_add] at h1;rw [aZ.grp.sm_congr (d:=fun j => Tj (wv (x j)) PL (k + 1)) (fun j _ => by show _ = 16 * Tj (wv (x j)) PL k + _; omega)] at h1;exact h1
theorem Oo {pt : Nat → J2} {g : Nat → C2} {N : Nat} (h : ∀ j,j < N → Rp aZ (pt j) (g j)) (x : Nat → Nat) : Rp aZ (EE pt x N) (aZ.grp.sm g (fun j => (wv (x j) : Int)) N):=by
 have h1:=Ji (PL:=mJ x N / 4 + 1) (fun p => Mx h x p N (Nat.le_refl _)) (mJ x N / 4 + 1);rw [aZ.grp.sm_congr (d:=fun j => (wv (x j) : Int)) (fun j hj => Lq _ _ (Nat.lt_of_lt_of_le (DA (x j)).1 (Nat.pow_le_pow_right (by omega) (by have:=Es x N j hj; omega))) (by omega))] at h1;exact h1
def af2 (p : jP) : Pt Q2:=bif p.2.2 then none else some (m2 p.1,m2 p.2.1)
theorem aDx {p : jP} (h : (fN p).1 = 0) : fT F2 dT (fN p).2 = af2 p ∧ On F2 dF (af2 p):=by
 obtain ⟨x,y,b⟩:=p;have e:=ID x y b;show fT F2 dT (rM x y b).2 = _ ∧ _;have h' : (rM x y b).1 = 0:=h;cases b with
 | true =>
  rw [if_pos rfl] at e;refine ⟨?_,trivial⟩;have : (rM x y true).2.2.2 = F2.zero:=by
   rw [e];split <;> rfl
  exact dE this
 | false =>
  rw [if_neg (by simp)] at e
  by_cases hb : ¬ (JI x ∧ JI y)
  ·rw [if_pos hb] at e;rw [e] at h'; cases h'
  ·rw [if_neg hb] at e
   by_cases hy : F2.mul (m2 y) (m2 y) = F2.add (F2.mul (F2.mul (m2 x) (m2 x)) (m2 x)) dF
   ·rw [if_pos hy] at e;rw [e];refine ⟨aZ.jto_one _ _,?_⟩;show F2.mul (m2 y) (m2 y) = F2.add (F2.mul (m2 x) (F2.mul (m2 x) (m2 x))) dF;rw [hy,F2.mul_comm (m2 x) (F2.mul (m2 x) (m2 x))]
   ·rw [if_neg hy] at e;rw [e] at h'; cases h'
def cp2 (p : jP) : C2:=if h : (fN p).1 = 0 then ⟨af2 p,(aDx h).2⟩ else aZ.grp.zero
theorem RC {p : jP} (h : (fN p).1 = 0) : (cp2 p).1 = af2 p:=by unfold cp2; rw [dif_pos h]
theorem Nb {p : jP} (h : (fN p).1 = 0) : Rp aZ (fN p).2 (cp2 p):=(aDx h).1.trans (RC h).symm
theorem aGj (p : jP) (n : Nat) : lS (fun _ => p) (fun _ => n) 1 = if (fN p).1 ≠ 0 then ((some (F2.zero,F2.zero)),(fN p).1) else ((aZ.grp.ns (wv n) (cp2 p)).1,0):=by
 have e1 : iW (fun _ => p) 1 = (fN p).1:=if_neg (fun h => h rfl);unfold lS;rw [e1]
 by_cases h1 : (fN p).1 = 0
 ·simp only [h1,ne_eq,not_true_eq_false,not_false_eq_true,if_true,if_false];have hr:=Oo (pt:=CB (fun _ => p)) (g:=fun _ => cp2 p) (N:=1) (fun j hj => Nb h1) (fun _ => n);have hr' : fT F2 dT (EE (CB (fun _ => p)) (fun _ => n) 1) = (aZ.grp.add aZ.grp.zero (aZ.grp.ns (wv n) (cp2 p))).1:=hr;rw [aZ.grp.zadd] at hr';rw [hr']
 ·simp only [h1,ne_eq,not_true_eq_false,not_false_eq_true,if_true,if_false]
theorem aGi (p : jP) : uF p = if (fN p).1 ≠ 0 then ((some (F2.zero,F2.zero)),(fN p).1) else ((aZ.grp.neg (cp2 p)).1,0):=by
 show (if (fN p).1 ≠ 0 then ((some (F2.zero,F2.zero)),(fN p).1) else (fT F2 dT (sI F2 (fN p).2),0)) = _
 by_cases h1 : (fN p).1 = 0
 ·simp only [h1,ne_eq,not_true_eq_false,not_false_eq_true,if_true,if_false];rw [show fT F2 dT (sI F2 (fN p).2) = _ from (Nb h1).neg]
 ·simp only [h1,ne_eq,not_true_eq_false,not_false_eq_true,if_true,if_false]
structure Chd {R : Type} (K : CR R) (b : R) (p q s : R × R) (n c : R) : Prop where
 cub : Cub K b p.1 q.1 s.1 n c
 l1 : p.2 = K.add (K.mul n p.1) c
 l2 : q.2 = K.add (K.mul n q.1) c
 l3 : K.neg s.2 = K.add (K.mul n s.1) c
def hgt {R : Type} (K : CR R) (n : R) (p : R × R) : R:=K.sub p.2 (K.mul n p.1)
section
variable {R : Type} {K : CR R} {inv : R → R} {b : R}
theorem RM (E : EC K inv b) {p q : R × R} (hp : On K b (some p)) (hq : On K b (some q)) (hn : ¬ (p.1 = q.1 ∧ K.add p.2 q.2 = K.zero)) :
  ∃ s,gZ K inv (some p) (some q) = some s ∧ Chd K b p q s (dD K inv p.1 p.2 q.1 q.2) (hgt K (dD K inv p.1 p.2 q.1 q.2) p):=by
 have S:=wK E hp hq hn;refine ⟨_,jD hn,?_⟩;generalize dD K inv p.1 p.2 q.1 q.2 = l at S ⊢;refine ⟨aPM hp S,?_,?_,?_⟩
 ·exact aE K (aR K [p.2,l,p.1]) (.v 0) (.add (.mul (.v 1) (.v 2)) (.add (.v 0) (.neg (.mul (.v 1) (.v 2))))) (by kernel_rfl)
 ·exact S.h1.trans (aE K (aR K [p.2,l,q.1,p.1]) (.add (.v 0) (.mul (.v 1) (.add (.v 2) (.neg (.v 3))))) (.add (.mul (.v 1) (.v 2)) (.add (.v 0) (.neg (.mul (.v 1) (.v 3))))) (by kernel_rfl))
 ·exact aE K (aR K [p.2,l,sx K l p.1 q.1,p.1]) (.neg (.add (.mul (.v 1) (.add (.v 3) (.neg (.v 2)))) (.neg (.v 0)))) (.add (.mul (.v 1) (.v 2)) (.add (.v 0) (.neg (.mul (.v 1) (.v 3))))) (by kernel_rfl)
theorem aWv {A1 A2 A3 A3' h1 h2 h3 h3' : R} (r : K.mul A1 (K.mul A2 A3') = K.mul h1 (K.mul h2 h3')) (u : K.mul A3 A3' = K.one) (w : K.mul h3 h3' = K.one) : K.mul (K.mul A1 A2) h3 = K.mul A3 (K.mul h1 h2) :=
 ZV (K:=K) (c1:=K.mul A3 h3) (c2:=K.neg (K.mul (K.mul A1 A2) h3)) (c3:=K.mul A3 (K.mul h1 h2)) r u w (aE K (aR K [A1,A2,A3,A3',h1,h2,h3,h3'])
  (.add (.mul (.mul (.v 0) (.v 1)) (.v 6)) (.neg (.mul (.v 2) (.mul (.v 4) (.v 5)))))
  (.add (.add (.mul (.mul (.v 2) (.v 6)) (.add (.mul (.v 0) (.mul (.v 1) (.v 3))) (.neg (.mul (.v 4) (.mul (.v 5) (.v 7)))))) (.mul (.neg (.mul (.mul (.v 0) (.v 1)) (.v 6))) (.add (.mul (.v 2) (.v 3)) (.neg .one)))) (.mul (.mul (.v 2) (.mul (.v 4) (.v 5))) (.add (.mul (.v 6) (.v 7)) (.neg .one)))) (by kernel_rfl))
end
theorem aMi : 3 ^ FI % FP.M ≠ 1:=by
 rw [← AP FP.M 256 3 FI (by decide)];exact of_decide_eq_true (by kernel_rfl)
theorem aNX (n : Fq) : F1.mul n n ≠ fm 3:=fun h => by
 have hv : n.1 ^ 2 % FP.M = 3:=by
  have:=congrArg Fin.val h;have e : n.1 * n.1 % FP.M = 3 % FP.M:=this;rw [Nat.pow_two,e]; decide
 have h0 : 0 < n.1:=by
  rcases Nat.eq_zero_or_pos n.1 with h0 | h0
  ·rw [h0] at hv; exact absurd hv (by decide)
  ·exact h0
 have:=Tq h0 n.2;rw [← QM,Nat.pow_mul,Nat.pow_mod,hv] at this;exact aMi this
theorem oK {p : Fq × Fq} (h : On F1 (fm 3) (some p)) : p.1 ≠ F1.zero:=fun e => by
 have h' : F1.mul p.2 p.2 = F1.add (F1.mul p.1 (F1.mul p.1 p.1)) (fm 3):=h;rw [e,F1.zero_mul,F1.zero_add] at h';exact aNX _ h'
theorem gT {p : Fq × Fq} (h : On F1 (fm 3) (some p)) : p.2 ≠ F1.zero:=iY.y_ne h
theorem lL {p : Q2 × Q2} (h : On F2 dF (some p)) : p.2 ≠ F2.zero:=aZ.y_ne h
theorem aKu {a : aN} (h : a ≠ aD.zero) : lJ a ≠ aD.zero:=fun e => by
 have t:=jH h;rw [e,aD.mul_zero] at t;exact jT.1 t.symm
theorem aBx {a : aN} (h : a ≠ aD.zero) : iO a ≠ aD.zero:=fun e => by
 have t:=cV h (aKu h);rw [jH h,CY,e,aD.zero_mul] at t;exact jT.1 t
abbrev Vq:={z : aN // z ≠ aD.zero}
def vg : AG Vq where
 add a b:=⟨aD.mul a.1 b.1,nA a.2 b.2⟩
 neg a:=⟨lJ a.1,aKu a.2⟩
 zero:=⟨aD.one,jT.1⟩
 assoc a b c:=Subtype.ext (aD.mul_assoc _ _ _)
 comm a b:=Subtype.ext (aD.mul_comm _ _)
 zadd a:=Subtype.ext (aD.one_mul _)
 nadd a:=Subtype.ext ((aD.mul_comm _ _).trans (jH a.2))
open Classical in
def lv (z : aN) : Vq:=if h : z = aD.zero then vg.zero else ⟨iO z,aBx h⟩
theorem cU {z : aN} (h : z ≠ aD.zero) : (lv z).1 = iO z:=by unfold lv; rw [dif_neg h]
def lnT (t t' : Q2 × Q2) (a : Fq × Fq) : aN:=lT (dD F2 dT t.1 t.2 t'.1 t'.2) (hgt F2 (dD F2 dT t.1 t.2 t'.1 t'.2) t) a.1 a.2
def lnP (p q : Fq × Fq) (t : Q2 × Q2) : aN:=lP (dD F1 cO p.1 p.2 q.1 q.2) (hgt F1 (dD F1 cO p.1 p.2 q.1 q.2) p) t.1 t.2
def Ev : Pt Q2 → Pt Q2 → Pt Fq → Vq
 | some t,some t',some a => lv (lnT t t' a)
 | _,_,_ => vg.zero
def JF : Pt Fq → Pt Fq → Pt Fq → Pt Q2 → Vq
 | some p,some q,some _,some t => lv (lnP p q t)
 | _,_,_,_ => vg.zero
def LV (P : C1) (T T' : C2) : Vq:=Ev T.1 T'.1 P.1
def HV (P P' : C1) (T : C2) : Vq:=JF P.1 P'.1 (iY.grp.add P P').1 T.1
def okT (T T' : C2) : Prop:=T.1 ≠ none ∧ T'.1 ≠ none ∧ (aZ.grp.add T T').1 ≠ none
theorem Ak : vg.add vg.zero vg.zero = vg.zero:=vg.zadd _
theorem BB (p' s : Pt Fq) (t : Pt Q2) : JF none p' s t = vg.zero:=by simp only [JF]
theorem BA (p s : Pt Fq) (t : Pt Q2) : JF p none s t = vg.zero:=by cases p <;> simp only [JF]
theorem AZ (p p' : Pt Fq) (t : Pt Q2) : JF p p' none t = vg.zero:=by cases p <;> cases p' <;> simp only [JF]
theorem LY (p p' s : Pt Fq) : JF p p' s none = vg.zero:=by cases p <;> cases p' <;> cases s <;> simp only [JF]
theorem YK (t t' : Pt Q2) : Ev t t' none = vg.zero:=by cases t <;> cases t' <;> simp only [Ev]
theorem aKo (t' : Pt Q2) (a : Pt Fq) : Ev none t' a = vg.zero:=by simp only [Ev]
theorem aKn (t : Pt Q2) (a : Pt Fq) : Ev t none a = vg.zero:=by cases t <;> simp only [Ev]
theorem vD {t t' : Q2 × Q2} {a : Fq × Fq} (h : a.2 ≠ F1.zero) : lnT t t' a ≠ aD.zero:=qZ h
theorem zM {p q : Fq × Fq} {t : Q2 × Q2} (h : t.2 ≠ F2.zero) : lnP p q t ≠ aD.zero:=sH h
theorem AY (p q s : Fq × Fq) (t : Q2 × Q2) : JF (some p) (some q) (some s) (some t) = lv (lnP p q t):=by simp only [JF]
theorem LU (t t' : Q2 × Q2) (a : Fq × Fq) : Ev (some t) (some t') (some a) = lv (lnT t t' a):=by simp only [Ev]
theorem lD (a b : Vq) : (vg.add a b).1 = aD.mul a.1 b.1:=rfl
theorem DU : vg.zero.1 = aD.one:=rfl
theorem oI (t t' : Q2 × Q2) (a : Fq × Fq) : lnT t t' a = lT (dD F2 dT t.1 t.2 t'.1 t'.2) (hgt F2 (dD F2 dT t.1 t.2 t'.1 t'.2) t) a.1 a.2:=rfl
theorem vF (p q : Fq × Fq) (t : Q2 × Q2) : lnP p q t = lP (dD F1 cO p.1 p.2 q.1 q.2) (hgt F1 (dD F1 cO p.1 p.2 q.1 q.2) p) t.1 t.2:=rfl
theorem YX (P P' : C1) : (iY.grp.add P P').1 = gZ F1 cO P.1 P'.1:=rfl
theorem nD (P P' : C2) : (aZ.grp.add P P').1 = gZ F2 dT P.1 P'.1:=rfl
theorem Dr (t : Q2 × Q2) : KR F2 (some t) = some (t.1,F2.neg t.2):=rfl
theorem aMP (t : Fq × Fq) : KR F1 (some t) = some (t.1,F1.neg t.2):=rfl
theorem CU {R : Type} {K : CR R} {inv : R → R} {p q : R × R} (h : gZ K inv (some p) (some q) ≠ none) : ¬ (p.1 = q.1 ∧ K.add p.2 q.2 = K.zero):=fun e => h (kG e)
theorem Lb {p p' s : Pt Fq} {t : Pt Q2} (hp : On F1 (fm 3) p) (hp' : On F1 (fm 3) p') (hs : gZ F1 cO p p' = s) (ht : On F2 dF t) : vg.add (JF p p' s t) (JF p p' s (KR F2 t)) = vg.zero:=by
 match p,p',s,t with
 | none,_,_,_ => rw [BB,BB,Ak]
 | some p,none,_,_ => rw [BA,BA,Ak]
 | some p,some q,none,_ => rw [AZ,AZ,Ak]
 | some p,some q,some s,none => rw [show KR F2 (none : Pt Q2) = none from rfl,LY,Ak]
 | some p,some q,some s,some t =>
  obtain ⟨s',e1,C⟩:=RM iY hp hp' (CU (by rw [hs]; exact Option.some_ne_none _));have e2 : s' = s:=by rw [hs] at e1; exact (Option.some.inj e1).symm
  subst e2;have hs' : On F1 (fm 3) (some s'):=by rw [← hs]; exact hp.add iY hp'
  refine Subtype.ext ?_;rw [Dr,AY,AY,lD,DU];have hy' : F2.neg t.2 ≠ F2.zero:=fun e => lL ht (by rw [← F2.neg_neg t.2,e,vB])
  rw [cU (zM (lL ht)),cU (zM (t:=(t.1,F2.neg t.2)) hy')];have r:=YL C.cub (x:=t.1) (y:=t.2) ht (lL ht) (oK hp) (oK hp') (oK hs');rw [vF,vF];dsimp only;exact r
theorem aRu (P P' : C1) (T : C2) : HV P P' (aZ.grp.neg T) = vg.neg (HV P P' T):=by
 refine vg.cancel (a:=HV P P' T) ?_;rw [vg.addn];exact Lb P.2 P'.2 rfl T.2
theorem aHB {t t' : Pt Q2} {a : Pt Fq} (ht : On F2 dF t) (ht' : On F2 dF t') (hn : gZ F2 dT t t' ≠ none) (ha : On F1 (fm 3) a) : vg.add (Ev t t' a) (Ev t t' (KR F1 a)) = vg.zero:=by
 match t,t',a with
 | none,_,_ => rw [aKo,aKo,Ak]
 | some t,none,_ => rw [aKn,aKn,Ak]
 | some t,some t',none => rw [show KR F1 (none : Pt Fq) = none from rfl,YK,Ak]
 | some t,some t',some a =>
  obtain ⟨u,e1,C⟩:=RM aZ ht ht' (CU hn);refine Subtype.ext ?_;rw [aMP,LU,LU,lD,DU];have hy' : F1.neg a.2 ≠ F1.zero:=fun e => gT ha (by rw [← F1.neg_neg a.2,e,bK])
  rw [cU (vD (gT ha)),cU (vD (a:=(a.1,F1.neg a.2)) hy')];have r:=Lc C.cub (a:=a.1) (b:=a.2) ha (gT ha) (oK ha);rw [oI,oI];dsimp only;exact r
theorem Lp {p p' : Pt Fq} {t t' : Pt Q2} (hp : On F1 (fm 3) p) (hp' : On F1 (fm 3) p') (ht : On F2 dF t) (ht' : On F2 dF t') (h1 : t ≠ none) (h2 : t' ≠ none) (h3 : gZ F2 dT t t' ≠ none) :
  vg.add (vg.add (Ev t t' p) (Ev t t' p')) (JF p p' (gZ F1 cO p p') (gZ F2 dT t t')) = vg.add (Ev t t' (gZ F1 cO p p')) (vg.add (JF p p' (gZ F1 cO p p') t) (JF p p' (gZ F1 cO p p') t')):=by
 match p,p',t,t' with
 | _,_,none,_ => exact absurd rfl h1
 | _,_,some _,none => exact absurd rfl h2
 | none,p',some t,some t' => rw [BB,BB,BB,YK,vg.zadd,Ak,show gZ F1 cO none p' = p' from rfl]
 | some p,none,some t,some t' => rw [BA,BA,BA,YK,vg.addz,Ak,show gZ F1 cO (some p) none = some p from rfl]
 | some p,some q,some t,some t' =>
  obtain ⟨u,e1,D⟩:=RM aZ ht ht' (CU h3);have hu : On F2 dF (some u):=by rw [← e1]; exact ht.add aZ ht'
  by_cases hn : p.1 = q.1 ∧ F1.add p.2 q.2 = F1.zero
  ·rw [kG hn,AZ,AZ,AZ,YK,Ak,vg.addz,Ak];have e : q = (p.1,F1.neg p.2):=Prod.ext hn.1.symm (by
    have h:=congrArg (fun z => F1.add (F1.neg p.2) z) hn.2;simp only [← F1.add_assoc,F1.add_zero] at h;rw [F1.add_comm (F1.neg p.2) p.2,F1.add_neg,F1.zero_add] at h;exact h)
   rw [e];exact aHB ht ht' h3 hp
  ·obtain ⟨s,e2,C⟩:=RM iY hp hp' hn;have hs : On F1 (fm 3) (some s):=by rw [← e2]; exact hp.add iY hp'
   rw [e1,e2];refine Subtype.ext ?_;rw [LU,LU,LU,AY,AY,AY,lD,lD,lD,lD];rw [cU (vD (gT hp)),cU (vD (gT hp')),cU (vD (gT hs)),cU (zM (lL ht)),cU (zM (lL ht')),cU (zM (lL hu))];have hy1 : F1.neg s.2 ≠ F1.zero:=fun e => gT hs (by rw [← F1.neg_neg s.2,e,bK])
   have hy2 : F2.neg u.2 ≠ F2.zero:=fun e => lL hu (by rw [← F2.neg_neg u.2,e,vB])
   have r1:=Tc C.cub D.cub C.l1 C.l2 C.l3 D.l1 D.l2 D.l3 (gT hp) (gT hp') hy1 (lL ht) (lL ht') hy2;have r2:=Lc D.cub (a:=s.1) (b:=s.2) hs (gT hs) (oK hs);have r3:=YL C.cub (x:=u.1) (y:=u.2) hu (lL hu) (oK hp) (oK hp') (oK hs);have r:=aWv r1 r2 r3;rw [oI,oI,oI,vF,vF,vF];exact r
theorem KD (P P' : C1) (T T' : C2) (ho : okT T T') : vg.add (vg.add (LV P T T') (LV P' T T')) (HV P P' (aZ.grp.add T T')) = vg.add (LV (iY.grp.add P P') T T') (vg.add (HV P P' T) (HV P P' T')):=by
 unfold LV HV;rw [YX,nD];exact Lp P.2 P'.2 T.2 T'.2 ho.1 ho.2.1 ho.2.2
section
variable {A : Type} {K : CR A} {X Y : A}
def Eqw (K : CR A) (a b : A) (S T : A → Prop) : Prop:=(∀ s,S s → ∃ t,T t ∧ K.mul a s = K.mul b t) ∧ (∀ t,T t → ∃ s,S s ∧ K.mul a s = K.mul b t)
theorem Eqw.refl (a : A) (S : A → Prop) : Eqw K a a S S:=⟨fun s h => ⟨s,h,rfl⟩,fun s h => ⟨s,h,rfl⟩⟩
theorem Eqw.symm {a b : A} {S T : A → Prop} (h : Eqw K a b S T) : Eqw K b a T S :=
 ⟨fun t ht => by obtain ⟨s,hs,e⟩:=h.2 t ht; exact ⟨s,hs,e.symm⟩,fun s hs => by obtain ⟨t,ht,e⟩:=h.1 s hs; exact ⟨t,ht,e.symm⟩⟩
theorem Eqw.trans {a b c d : A} {S T U : A → Prop} (h : Eqw K a b S T) (g : Eqw K c d T U) : Eqw K (K.mul c a) (K.mul b d) S U:=by
 have key : ∀ s t u,K.mul a s = K.mul b t → K.mul c t = K.mul d u → K.mul (K.mul c a) s = K.mul (K.mul b d) u:=fun s t u e f => by
  rw [K.mul_assoc,e,K.mul_left_comm,f,K.mul_assoc]
 refine ⟨fun s hs => ?_,fun u hu => ?_⟩
 ·obtain ⟨t,ht,e⟩:=h.1 s hs;obtain ⟨u,hu,f⟩:=g.1 t ht;exact ⟨u,hu,key s t u e f⟩
 ·obtain ⟨t,ht,f⟩:=g.2 u hu;obtain ⟨s,hs,e⟩:=h.2 t ht;exact ⟨s,hs,key s t u e f⟩
theorem Eqw.op {a b : A} {S T : A → Prop} (x y : A) (h : Eqw K a b S T) : Eqw K a b (op K X Y x y S) (op K X Y x y T):=by
 obtain ⟨h1,h2⟩:=h;refine ⟨?_,?_⟩
 ·rintro z ⟨s,s2,hs,hs2,rfl⟩
  obtain ⟨t,ht,e⟩:=h1 s hs;obtain ⟨t2,ht2,f⟩:=h1 s2 hs2;exact ⟨_,⟨t,t2,ht,ht2,rfl⟩,xE e f⟩
 ·rintro z ⟨t,t2,ht,ht2,rfl⟩
  obtain ⟨s,hs,e⟩:=h2 t ht;obtain ⟨s2,hs2,f⟩:=h2 t2 ht2;exact ⟨_,⟨s,s2,hs,hs2,rfl⟩,xE e f⟩
theorem aHb {b x y k : A} (hY : K.mul Y Y = K.add (K.mul X (K.mul X X)) b) (hy : K.mul y y = K.add (K.mul x (K.mul x x)) b) (hk : K.mul k (K.add y y) = K.one) {S : A → Prop} (h : Idl K S) : Eqw K K.one (K.sub X x) (op K X Y x y (op K X Y x (K.neg y) S)) S:=by
 refine ⟨?_,?_⟩
 ·rintro _ ⟨_,_,⟨a,bb,ha,hb,rfl⟩,⟨c,d,hc,hd,rfl⟩,rfl⟩
  refine ⟨(K.add (K.add (K.add (K.mul (K.sub X x) a) (K.mul (K.sub Y (K.neg y)) bb)) (K.mul (K.sub Y y) c)) (K.mul (K.add (K.add (K.mul X X) (K.mul x X)) (K.mul x x)) d)),h.add _ _ (h.add _ _ (h.add _ _ (h.mul _ _ ha) (h.mul _ _ hb)) (h.mul _ _ hc)) (h.mul _ _ hd),?_⟩;rw [K.one_mul];exact jU (K:=K) (c1:=d) (c2:=(K.neg d)) hY hy (aE K (aR K [X,x,a,Y,y,bb,c,d,b]) (.add (.add (.mul (.add (.v 0) (.neg (.v 1))) (.add (.mul (.add (.v 0) (.neg (.v 1))) (.v 2)) (.mul (.add (.v 3) (.neg (.neg (.v 4)))) (.v 5)))) (.mul (.add (.v 3) (.neg (.v 4))) (.add (.mul (.add (.v 0) (.neg (.v 1))) (.v 6)) (.mul (.add (.v 3) (.neg (.neg (.v 4)))) (.v 7))))) (.neg (.mul (.add (.v 0) (.neg (.v 1))) (.add (.add (.add (.mul (.add (.v 0) (.neg (.v 1))) (.v 2)) (.mul (.add (.v 3) (.neg (.neg (.v 4)))) (.v 5))) (.mul (.add (.v 3) (.neg (.v 4))) (.v 6))) (.mul (.add (.add (.mul (.v 0) (.v 0)) (.mul (.v 1) (.v 0))) (.mul (.v 1) (.v 1))) (.v 7)))))) (.add (.mul (.v 7) (.add (.mul (.v 3) (.v 3)) (.neg (.add (.mul (.v 0) (.mul (.v 0) (.v 0))) (.v 8))))) (.mul (.neg (.v 7)) (.add (.mul (.v 4) (.v 4)) (.neg (.add (.mul (.v 1) (.mul (.v 1) (.v 1))) (.v 8)))))) (by kernel_rfl))
 ·intro t ht;refine ⟨_,⟨_,_,⟨_,_,h.mul t K.zero ht,h.mul t k ht,rfl⟩,⟨_,_,h.mul t (K.neg k) ht,h.mul t K.zero ht,rfl⟩,rfl⟩,?_⟩;rw [K.one_mul];exact gQ (K:=K) (c1:=(K.mul (K.sub X x) t)) hk (aE K (aR K [X,x,t,Y,y,k]) (.add (.add (.mul (.add (.v 0) (.neg (.v 1))) (.add (.mul (.add (.v 0) (.neg (.v 1))) (.mul .zero (.v 2))) (.mul (.add (.v 3) (.neg (.neg (.v 4)))) (.mul (.v 5) (.v 2))))) (.mul (.add (.v 3) (.neg (.v 4))) (.add (.mul (.add (.v 0) (.neg (.v 1))) (.mul (.neg (.v 5)) (.v 2))) (.mul (.add (.v 3) (.neg (.neg (.v 4)))) (.mul .zero (.v 2)))))) (.neg (.mul (.add (.v 0) (.neg (.v 1))) (.v 2)))) (.mul (.mul (.add (.v 0) (.neg (.v 1))) (.v 2)) (.add (.mul (.v 5) (.add (.v 4) (.v 4))) (.neg .one))) (by kernel_rfl))
theorem aHa {b x1 y1 x2 l : A} (hY : K.mul Y Y = K.add (K.mul X (K.mul X X)) b) (H2 : (K.mul l (K.add y1 (K.add y1 (K.mul l (K.sub x2 x1))))) = (K.add (K.add (K.mul x1 x1) (K.mul x1 x2)) (K.mul x2 x2))) (H3 : (K.mul y1 y1) = (K.add (K.mul x1 (K.mul x1 x1)) b)) (hk : (∃ k,K.mul k (K.add y1 (K.add y1 (K.mul l (K.sub x2 x1)))) = K.one) ∨ (∃ k,K.mul k (K.sub x2 x1) = K.one)) {S : A → Prop} (h : Idl K S) : Eqw K (K.sub X (K.sub (K.sub (K.mul l l) x1) x2)) (K.sub (K.sub Y y1) (K.mul l (K.sub X x1))) (op K X Y x1 y1 (op K X Y x2 (K.add y1 (K.mul l (K.sub x2 x1))) S)) (op K X Y (K.sub (K.sub (K.mul l l) x1) x2) (K.sub (K.mul l (K.sub x1 (K.sub (K.sub (K.mul l l) x1) x2))) y1) S):=by
 have HC:=MA (X:=X) (Y:=Y) hY H2 H3;refine ⟨?_,?_⟩
 ·rintro _ ⟨_,_,⟨a,bb,ha,hb,rfl⟩,⟨c,d,hc,hd,rfl⟩,rfl⟩
  exact ⟨_,⟨(K.add (K.add (K.add (K.mul l a) (K.mul (K.add (K.sub X x1) (K.mul l l)) bb)) (K.mul (K.add (K.sub X x2) (K.mul l l)) c)) (K.mul (K.add (K.add (K.add (K.sub (K.sub Y y1) (K.mul l (K.sub X x1))) (K.mul l (K.sub X x1))) (K.mul l (K.sub X x2))) (K.mul l (K.mul l l))) d)),(K.add (K.add (K.add a (K.mul l bb)) (K.mul l c)) (K.mul (K.mul l l) d)),h.add _ _ (h.add _ _ (h.add _ _ (h.mul _ _ ha) (h.mul _ _ hb)) (h.mul _ _ hc)) (h.mul _ _ hd),h.add _ _ (h.add _ _ (h.add _ _ ha (h.mul _ _ hb)) (h.mul _ _ hc)) (h.mul _ _ hd),rfl⟩,gQ (K:=K) (c1:=(K.add (K.add (K.add a (K.mul l bb)) (K.mul l c)) (K.mul (K.mul l l) d))) HC (aE K (aR K [X,l,x1,x2,a,Y,y1,bb,c,d]) (.add (.mul (.add (.v 0) (.neg (.add (.add (.mul (.v 1) (.v 1)) (.neg (.v 2))) (.neg (.v 3))))) (.add (.mul (.add (.v 0) (.neg (.v 2))) (.add (.mul (.add (.v 0) (.neg (.v 3))) (.v 4)) (.mul (.add (.v 5) (.neg (.add (.v 6) (.mul (.v 1) (.add (.v 3) (.neg (.v 2))))))) (.v 7)))) (.mul (.add (.v 5) (.neg (.v 6))) (.add (.mul (.add (.v 0) (.neg (.v 3))) (.v 8)) (.mul (.add (.v 5) (.neg (.add (.v 6) (.mul (.v 1) (.add (.v 3) (.neg (.v 2))))))) (.v 9)))))) (.neg (.mul (.add (.add (.v 5) (.neg (.v 6))) (.neg (.mul (.v 1) (.add (.v 0) (.neg (.v 2)))))) (.add (.mul (.add (.v 0) (.neg (.add (.add (.mul (.v 1) (.v 1)) (.neg (.v 2))) (.neg (.v 3))))) (.add (.add (.add (.mul (.v 1) (.v 4)) (.mul (.add (.add (.v 0) (.neg (.v 2))) (.mul (.v 1) (.v 1))) (.v 7))) (.mul (.add (.add (.v 0) (.neg (.v 3))) (.mul (.v 1) (.v 1))) (.v 8))) (.mul (.add (.add (.add (.add (.add (.v 5) (.neg (.v 6))) (.neg (.mul (.v 1) (.add (.v 0) (.neg (.v 2)))))) (.mul (.v 1) (.add (.v 0) (.neg (.v 2))))) (.mul (.v 1) (.add (.v 0) (.neg (.v 3))))) (.mul (.v 1) (.mul (.v 1) (.v 1)))) (.v 9)))) (.mul (.add (.v 5) (.neg (.add (.mul (.v 1) (.add (.v 2) (.neg (.add (.add (.mul (.v 1) (.v 1)) (.neg (.v 2))) (.neg (.v 3)))))) (.neg (.v 6))))) (.add (.add (.add (.v 4) (.mul (.v 1) (.v 7))) (.mul (.v 1) (.v 8))) (.mul (.mul (.v 1) (.v 1)) (.v 9)))))))) (.mul (.add (.add (.add (.v 4) (.mul (.v 1) (.v 7))) (.mul (.v 1) (.v 8))) (.mul (.mul (.v 1) (.v 1)) (.v 9))) (.add (.mul (.add (.v 0) (.neg (.v 2))) (.mul (.add (.v 0) (.neg (.v 3))) (.add (.v 0) (.neg (.add (.add (.mul (.v 1) (.v 1)) (.neg (.v 2))) (.neg (.v 3))))))) (.neg (.mul (.add (.add (.v 5) (.neg (.v 6))) (.neg (.mul (.v 1) (.add (.v 0) (.neg (.v 2)))))) (.add (.add (.v 5) (.neg (.add (.mul (.v 1) (.add (.v 2) (.neg (.add (.add (.mul (.v 1) (.v 1)) (.neg (.v 2))) (.neg (.v 3)))))) (.neg (.v 6))))) (.mul (.v 1) (.add (.v 0) (.neg (.add (.add (.mul (.v 1) (.v 1)) (.neg (.v 2))) (.neg (.v 3))))))))))) (by kernel_rfl))⟩
 ·rintro _ ⟨u,w,hu,hw,rfl⟩
  have hg : S (K.sub u (K.mul l w)):=h.sub hu (h.mul _ _ hw);have e0 : K.mul (K.sub (K.sub Y y1) (K.mul l (K.sub X x1))) (K.add (K.mul (K.sub X (K.sub (K.sub (K.mul l l) x1) x2)) u) (K.mul (K.sub Y (K.sub (K.mul l (K.sub x1 (K.sub (K.sub (K.mul l l) x1) x2))) y1)) w)) = K.mul (K.sub X (K.sub (K.sub (K.mul l l) x1) x2)) (K.add (K.mul (K.sub (K.sub Y y1) (K.mul l (K.sub X x1))) (K.sub u (K.mul l w))) (K.mul (K.sub X x1) (K.mul (K.sub X x2) w))) :=
   gQ (K:=K) (c1:=(K.neg w)) HC (aE K (aR K [Y,y1,l,X,x1,x2,u,w]) (.add (.mul (.add (.add (.v 0) (.neg (.v 1))) (.neg (.mul (.v 2) (.add (.v 3) (.neg (.v 4)))))) (.add (.mul (.add (.v 3) (.neg (.add (.add (.mul (.v 2) (.v 2)) (.neg (.v 4))) (.neg (.v 5))))) (.v 6)) (.mul (.add (.v 0) (.neg (.add (.mul (.v 2) (.add (.v 4) (.neg (.add (.add (.mul (.v 2) (.v 2)) (.neg (.v 4))) (.neg (.v 5)))))) (.neg (.v 1))))) (.v 7)))) (.neg (.mul (.add (.v 3) (.neg (.add (.add (.mul (.v 2) (.v 2)) (.neg (.v 4))) (.neg (.v 5))))) (.add (.mul (.add (.add (.v 0) (.neg (.v 1))) (.neg (.mul (.v 2) (.add (.v 3) (.neg (.v 4)))))) (.add (.v 6) (.neg (.mul (.v 2) (.v 7))))) (.mul (.add (.v 3) (.neg (.v 4))) (.mul (.add (.v 3) (.neg (.v 5))) (.v 7))))))) (.mul (.neg (.v 7)) (.add (.mul (.add (.v 3) (.neg (.v 4))) (.mul (.add (.v 3) (.neg (.v 5))) (.add (.v 3) (.neg (.add (.add (.mul (.v 2) (.v 2)) (.neg (.v 4))) (.neg (.v 5))))))) (.neg (.mul (.add (.add (.v 0) (.neg (.v 1))) (.neg (.mul (.v 2) (.add (.v 3) (.neg (.v 4)))))) (.add (.add (.v 0) (.neg (.add (.mul (.v 2) (.add (.v 4) (.neg (.add (.add (.mul (.v 2) (.v 2)) (.neg (.v 4))) (.neg (.v 5)))))) (.neg (.v 1))))) (.mul (.v 2) (.add (.v 3) (.neg (.add (.add (.mul (.v 2) (.v 2)) (.neg (.v 4))) (.neg (.v 5))))))))))) (by kernel_rfl))
  generalize hge : (K.sub u (K.mul l w)) = g at hg e0;rw [e0]
  rcases hk with ⟨k,hk⟩ | ⟨k,hk⟩
  ·refine ⟨_,⟨_,_,⟨_,_,h.add _ _ (h.mul g (K.mul k (K.add (K.add X x1) x2)) hg) hw,h.mul g K.zero hg,rfl⟩,⟨_,_,h.mul g K.zero hg,h.mul g (K.neg k) hg,rfl⟩,rfl⟩,congrArg (K.mul _) ?_⟩;exact aDp (K:=K) (c1:=(K.mul (K.sub (K.sub Y y1) (K.mul l (K.sub X x1))) g)) (c2:=(K.neg (K.mul k g))) (c3:=(K.mul k g)) (c4:=(K.mul (K.mul k g) (K.sub X x1))) hk hY H3 H2 (aE K (aR K [X,x1,x2,k,g,w,Y,y1,l,b]) (.add (.add (.mul (.add (.v 0) (.neg (.v 1))) (.add (.mul (.add (.v 0) (.neg (.v 2))) (.add (.mul (.mul (.v 3) (.add (.add (.v 0) (.v 1)) (.v 2))) (.v 4)) (.v 5))) (.mul (.add (.v 6) (.neg (.add (.v 7) (.mul (.v 8) (.add (.v 2) (.neg (.v 1))))))) (.mul .zero (.v 4))))) (.mul (.add (.v 6) (.neg (.v 7))) (.add (.mul (.add (.v 0) (.neg (.v 2))) (.mul .zero (.v 4))) (.mul (.add (.v 6) (.neg (.add (.v 7) (.mul (.v 8) (.add (.v 2) (.neg (.v 1))))))) (.mul (.neg (.v 3)) (.v 4)))))) (.neg (.add (.mul (.add (.add (.v 6) (.neg (.v 7))) (.neg (.mul (.v 8) (.add (.v 0) (.neg (.v 1)))))) (.v 4)) (.mul (.add (.v 0) (.neg (.v 1))) (.mul (.add (.v 0) (.neg (.v 2))) (.v 5)))))) (.add (.add (.add (.mul (.mul (.add (.add (.v 6) (.neg (.v 7))) (.neg (.mul (.v 8) (.add (.v 0) (.neg (.v 1)))))) (.v 4)) (.add (.mul (.v 3) (.add (.v 7) (.add (.v 7) (.mul (.v 8) (.add (.v 2) (.neg (.v 1))))))) (.neg .one))) (.mul (.neg (.mul (.v 3) (.v 4))) (.add (.mul (.v 6) (.v 6)) (.neg (.add (.mul (.v 0) (.mul (.v 0) (.v 0))) (.v 9)))))) (.mul (.mul (.v 3) (.v 4)) (.add (.mul (.v 7) (.v 7)) (.neg (.add (.mul (.v 1) (.mul (.v 1) (.v 1))) (.v 9)))))) (.mul (.mul (.mul (.v 3) (.v 4)) (.add (.v 0) (.neg (.v 1)))) (.add (.mul (.v 8) (.add (.v 7) (.add (.v 7) (.mul (.v 8) (.add (.v 2) (.neg (.v 1))))))) (.neg (.add (.add (.mul (.v 1) (.v 1)) (.mul (.v 1) (.v 2))) (.mul (.v 2) (.v 2))))))) (by kernel_rfl))
  ·refine ⟨_,⟨_,_,⟨_,_,hw,h.mul g k hg,rfl⟩,⟨_,_,h.mul g (K.neg k) hg,h.mul g K.zero hg,rfl⟩,rfl⟩,congrArg (K.mul _) ?_⟩;exact gQ (K:=K) (c1:=(K.mul (K.sub (K.sub Y y1) (K.mul l (K.sub X x1))) g)) hk (aE K (aR K [X,x1,x2,w,Y,y1,l,k,g]) (.add (.add (.mul (.add (.v 0) (.neg (.v 1))) (.add (.mul (.add (.v 0) (.neg (.v 2))) (.v 3)) (.mul (.add (.v 4) (.neg (.add (.v 5) (.mul (.v 6) (.add (.v 2) (.neg (.v 1))))))) (.mul (.v 7) (.v 8))))) (.mul (.add (.v 4) (.neg (.v 5))) (.add (.mul (.add (.v 0) (.neg (.v 2))) (.mul (.neg (.v 7)) (.v 8))) (.mul (.add (.v 4) (.neg (.add (.v 5) (.mul (.v 6) (.add (.v 2) (.neg (.v 1))))))) (.mul .zero (.v 8)))))) (.neg (.add (.mul (.add (.add (.v 4) (.neg (.v 5))) (.neg (.mul (.v 6) (.add (.v 0) (.neg (.v 1)))))) (.v 8)) (.mul (.add (.v 0) (.neg (.v 1))) (.mul (.add (.v 0) (.neg (.v 2))) (.v 3)))))) (.mul (.mul (.add (.add (.v 4) (.neg (.v 5))) (.neg (.mul (.v 6) (.add (.v 0) (.neg (.v 1)))))) (.v 8)) (.add (.mul (.v 7) (.add (.v 2) (.neg (.v 1)))) (.neg .one))) (by kernel_rfl))
theorem aEQ (D : Dom K) {v0 vW vR vS l1 l2 m1 m2 la t s : A} (h : K.mul (K.mul v0 (K.mul (K.mul (K.mul vW vR) (K.mul l1 l2)) la)) K.one = K.mul (K.mul (K.mul v0 (K.mul (K.mul vW vS) (K.mul m1 m2))) la) t)
  (h' : K.mul (K.mul v0 (K.mul (K.mul (K.mul vW vR) (K.mul l1 l2)) la)) s = K.mul (K.mul (K.mul v0 (K.mul (K.mul vW vS) (K.mul m1 m2))) la) K.one)
  (h0 : v0 ≠ K.zero) (hW : vW ≠ K.zero) (hS : vS ≠ K.zero) (hm1 : m1 ≠ K.zero) (hm2 : m2 ≠ K.zero) (hla : la ≠ K.zero) : K.mul t s = K.one ∧ K.mul vR (K.mul l1 l2) = K.mul t (K.mul vS (K.mul m1 m2)):=by
 have hb : K.mul (K.mul v0 (K.mul (K.mul vW vS) (K.mul m1 m2))) la ≠ K.zero:=D.2 _ _ (D.2 _ _ h0 (D.2 _ _ (D.2 _ _ hW hS) (D.2 _ _ hm1 hm2))) hla;refine ⟨?_,?_⟩
 ·rw [K.mul_one] at h;rw [h,K.mul_assoc] at h';exact nG D hb h'
 ·have hk : K.mul (K.mul v0 vW) la ≠ K.zero:=D.2 _ _ (D.2 _ _ h0 hW) hla;refine nG D hk ?_;have e1 : K.mul (K.mul (K.mul v0 vW) la) (K.mul vR (K.mul l1 l2)) = K.mul (K.mul v0 (K.mul (K.mul (K.mul vW vR) (K.mul l1 l2)) la)) K.one:=aE K (aR K [v0,vW,la,vR,l1,l2]) (.mul (.mul (.mul (.v 0) (.v 1)) (.v 2)) (.mul (.v 3) (.mul (.v 4) (.v 5)))) (.mul (.mul (.v 0) (.mul (.mul (.mul (.v 1) (.v 3)) (.mul (.v 4) (.v 5))) (.v 2))) .one) (by kernel_rfl);have e2 : K.mul (K.mul (K.mul v0 (K.mul (K.mul vW vS) (K.mul m1 m2))) la) t = K.mul (K.mul (K.mul v0 vW) la) (K.mul t (K.mul vS (K.mul m1 m2))):=aE K (aR K [v0,vW,la,vS,m1,m2,t]) (.mul (.mul (.mul (.v 0) (.mul (.mul (.v 1) (.v 3)) (.mul (.v 4) (.v 5)))) (.v 2)) (.v 6)) (.mul (.mul (.mul (.v 0) (.v 1)) (.v 2)) (.mul (.v 6) (.mul (.v 3) (.mul (.v 4) (.v 5))))) (by kernel_rfl);exact e1.trans (h.trans e2)
end
section
variable {R : Type} {K : CR R} {inv : R → R} {b : R}
theorem Eqw.opP {a c : Pol K × Pol K} {S T : Pol K × Pol K → Prop} (h : Eqw (bY K b) a c S T) (p : Pt R) : Eqw (bY K b) a c (opP K b p S) (opP K b p T):=by
 cases p with
 | none => exact h
 | some p => exact h.op _ _
def ver (K : CR R) (b : R) : Pt R → Pol K × Pol K
 | none => (bY K b).one
 | some p => (bY K b).sub cX (cc p.1)
open Classical in
def Ao (K : CR R) (inv : R → R) (b : R) : Pt R → Pt R → Pol K × Pol K
 | none,q => ver K b q
 | some p,none => ver K b (some p)
 | some p,some q => if p.1 = q.1 ∧ K.add p.2 q.2 = K.zero then (bY K b).sub cX (cc p.1) else (bY K b).sub ((bY K b).sub cY (cc p.2)) ((bY K b).mul (cc (dD K inv p.1 p.2 q.1 q.2)) ((bY K b).sub cX (cc p.1)))
theorem PY {p q : R × R} (h : p.1 = q.1 ∧ K.add p.2 q.2 = K.zero) : Ao K inv b (some p) (some q) = (bY K b).sub cX (cc p.1):=if_pos h
theorem PX {p q : R × R} (h : ¬ (p.1 = q.1 ∧ K.add p.2 q.2 = K.zero)) : Ao K inv b (some p) (some q) = (bY K b).sub ((bY K b).sub cY (cc p.2)) ((bY K b).mul (cc (dD K inv p.1 p.2 q.1 q.2)) ((bY K b).sub cX (cc p.1))):=if_neg h
theorem uQ (E : EC K inv b) : ∀ p : Pt R,ver K b p ≠ (bY K b).zero
 | none => (jK (K:=K) b E.F).1
 | some p => aJk E.F _
theorem GI (E : EC K inv b) : ∀ p q : Pt R,Ao K inv b p q ≠ (bY K b).zero
 | none,q => uQ E q
 | some p,none => uQ E (some p)
 | some p,some q => by
  by_cases h : p.1 = q.1 ∧ K.add p.2 q.2 = K.zero
  ·rw [PY h]; exact aJk E.F _
  ·rw [PX h]; exact aCW E.F _ _ _
theorem kQ (E : EC K inv b) {S : Pol K × Pol K → Prop} (hS : Idl (bY K b) S) : ∀ {p q : Pt R},On K b p → On K b q → Eqw (bY K b) (ver K b (gZ K inv p q)) (Ao K inv b p q) (opP K b p (opP K b q S)) (opP K b (gZ K inv p q) S)
 | none,_,_,_ => Eqw.refl _ _
 | some _,none,_,_ => Eqw.refl _ _
 | some ⟨x1,y1⟩,some ⟨x2,y2⟩,hp,hq => by
  by_cases hn : x1 = x2 ∧ K.add y1 y2 = K.zero
  ·rw [kG hn,PY hn];obtain ⟨rfl,hy⟩:=hn;have e : y2 = K.neg y1:=by
    apply K.add_cancel (a:=y1);rw [hy,K.add_neg]
   subst e;show Eqw (bY K b) (bY K b).one ((bY K b).sub cX (cc x1)) (op (bY K b) cX cY (cc x1) (cc y1) (op (bY K b) cX cY (cc x1) (cc (K.neg y1)) S)) S;have h0:=E.F.inv _ (E.dbl_ne (E.y_ne hp));rw [Gh b];refine aHb (b:=cc b) (k:=cc (inv (K.add y1 y1))) (aIR b) ?_ ?_ hS
   ·rw [← fV,← fV,← fV,← iJ];exact congrArg cc hp
   ·rw [← iJ,← fV,K.mul_comm,h0];rfl
  ·rw [jD hn,PX hn];have h:=wK E hp hq hn;dsimp only at h ⊢;generalize dD K inv x1 y1 x2 y2 = l at h;obtain ⟨h1,h2,hk⟩:=h;subst h1;show Eqw (bY K b) ((bY K b).sub cX (cc (sx K l x1 x2))) ((bY K b).sub ((bY K b).sub cY (cc y1)) ((bY K b).mul (cc l) ((bY K b).sub cX (cc x1)))) (op (bY K b) cX cY (cc x1) (cc y1) (op (bY K b) cX cY (cc x2) (cc (K.add y1 (K.mul l (K.sub x2 x1)))) S)) (op (bY K b) cX cY (cc (sx K l x1 x2)) (cc (sy K l x1 y1 x2)) S);unfold sy sx;simp only [iJ b,fV b,oN b];refine aHa (b:=cc b) (aIR b) ?_ ?_ ?_ hS
   ·have:=congrArg (cc (K:=K)) h2;simpa only [iJ b,fV b,oN b] using this
   ·have:=congrArg (cc (K:=K)) hp;simpa only [iJ b,fV b,oN b] using this
   ·rcases hk with ⟨k,hk⟩ | ⟨k,hk⟩
    ·refine Or.inl ⟨cc k,?_⟩;have:=congrArg (cc (K:=K)) hk;simpa only [iJ b,fV b,oN b,RO b] using this
    ·refine Or.inr ⟨cc k,?_⟩;have:=congrArg (cc (K:=K)) hk;simpa only [iJ b,fV b,oN b,RO b] using this
theorem Kr (F : FD K inv) (f : Pol K × Pol K) (h : f ≠ (bY K b).zero) : ∃ d,dg (nrm b f) d ∧ ((f.2 = aV.zero ∧ ∃ n,dg f.1 n ∧ d = n + n) ∨ 3 ≤ d):=by
 have hq : dg (qP b : Pol K) 3:=aKH F b
 by_cases h2 : f.2 = aV.zero
 ·have h1 : f.1 ≠ aV.zero:=fun e => h (Prod.ext e h2)
  obtain ⟨n,hn⟩:=GZ _ h1;refine ⟨n + n,?_,Or.inl ⟨h2,n,hn,rfl⟩⟩;unfold nrm;rw [h2,aV.mul_zero,aV.mul_zero];show dg (aV.add _ (aV.neg aV.zero)) _;rw [bK,aV.add_zero];exact iH F hn hn
 ·obtain ⟨m,hm⟩:=GZ _ h2;have hr:=iH F hq (iH F hm hm)
  by_cases h1 : f.1 = aV.zero
  ·refine ⟨3 + (m + m),?_,Or.inr (by omega)⟩;unfold nrm;rw [h1,aV.mul_zero];show dg (aV.add _ _) _;rw [aV.zero_add];exact RA hr
  ·obtain ⟨n,hn⟩:=GZ _ h1;have hl:=iH F hn hn;have hr':=RA hr
   rcases Nat.lt_or_ge (n + n) (3 + (m + m)) with q | q
   ·refine ⟨3 + (m + m),?_,Or.inr (by omega)⟩;show dg (aV.add _ _) _;rw [aV.add_comm];exact sO hr' fun i hi => hl.2 i (by omega)
   ·refine ⟨n + n,?_,Or.inr (by omega)⟩;exact sO hl fun i hi => hr'.2 i (by omega)
theorem Ic (F : FD K inv) {t s : Pol K × Pol K} (h : (bY K b).mul t s = (bY K b).one) : ∃ c,c ≠ K.zero ∧ t = cc c:=by
 have D:=jK (K:=K) b F;have ht : t ≠ (bY K b).zero:=fun e => by rw [e,(bY K b).zero_mul] at h; exact D.1 h.symm
 have hs : s ≠ (bY K b).zero:=fun e => by rw [e,(bY K b).mul_zero] at h; exact D.1 h.symm
 obtain ⟨d1,g1,k1⟩:=Kr (b:=b) F t ht;obtain ⟨d2,g2,_⟩:=Kr (b:=b) F s hs;have g:=iH F g1 g2;rw [← PQ,h] at g;have o : dg (nrm b (bY K b).one : Pol K) 0:=by
  have e : (nrm b (bY K b).one : Pol K) = aV.one:=by
   show aV.sub (aV.mul aV.one aV.one) (aV.mul (qP b) (aV.mul aV.zero aV.zero)) = _;rw [aV.mul_one,aV.mul_zero,aV.mul_zero];show aV.add _ (aV.neg aV.zero) = _;rw [bK,aV.add_zero]
  rw [e];exact ⟨F.ne,fun i hi => by cases i with | zero => omega | succ i => rfl⟩
 have hd:=aDf o g
 rcases k1 with ⟨z,n,hn,e⟩ | q
 ·have hn0 : n = 0:=by omega
  subst hn0;refine ⟨t.1.1 0,hn.1,Prod.ext (Pol.ext fun i => ?_) z⟩;cases i with
  | zero => rfl
  | succ i => exact hn.2 _ (by omega)
 ·omega
theorem aUZ (E : EC K inv b) {p q r : Pt R} (hp : On K b p) (hq : On K b q) (hr : On K b r) : ∃ c,c ≠ K.zero ∧
  (bY K b).mul (ver K b (gZ K inv q r)) ((bY K b).mul (Ao K inv b p q) (Ao K inv b (gZ K inv p q) r)) = (bY K b).mul (cc c) ((bY K b).mul (ver K b (gZ K inv p q)) ((bY K b).mul (Ao K inv b q r) (Ao K inv b p (gZ K inv q r)))):=by
 have D:=jK (K:=K) b E.F;have hu:=kL (bY K b);have hS:=hp.add E hq;have hR:=hq.add E hr;have hW:=hS.add E hr;have e1:=kQ E (Jm hu r) hp hq;have e2:=kQ E hu hS hr;have e3:=(kQ E hu hq hr).opP p;have e4:=kQ E hu hp hR;rw [← KT E hp hq hr] at e4;have f:=(e1.trans e2).symm.trans (e3.trans e4);have n:=kQ E hu hW.neg hW;rw [CM] at n;have k:=(n.symm.trans (f.opP (KR K (gZ K inv (gZ K inv p q) r)))).trans n;obtain ⟨t,_,h1⟩:=k.1 (bY K b).one trivial;obtain ⟨s,_,h2⟩:=k.2 (bY K b).one trivial;have u:=aEQ D h1 h2 (uQ E _) (uQ E _) (uQ E _) (GI E _ _) (GI E _ _) (GI E _ _);obtain ⟨c,hc,e⟩:=Ic (b:=b) E.F u.1;refine ⟨c,hc,?_⟩;rw [← e];exact u.2
end
end Go.Proofs.YtglgakbkdjhojaaGreat.Ex
