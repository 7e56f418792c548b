/- Ps10 -/
import Derived.KernelRfl
import Derived.LoopTactic
import Derived.Deep.LoopGhost
import Derived.RegionTactic
import Derived.Test.YtglgakbkdjhojaaGreatPs09
import Derived.Test.YtglgakbkdjhojaaGreatPs08
import Derived.Test.YtglgakbkdjhojaaGreatPs06
import Derived.Test.YtglgakbkdjhojaaGreatPs05
import Derived.Test.YtglgakbkdjhojaaGreatPs03
import Derived.Test.YtglgakbkdjhojaaGreatProg
set_option maxRecDepth 100000
set_option linter.unusedVariables false
set_option linter.unusedSimpArgs false
noncomputable section
namespace Go.Proofs.YtglgakbkdjhojaaGreat.Ex
open Go.Proofs.Tryz
open Go.RowKit
theorem FrOk.ad {P : Program} {T : Tab2} (hT : FrOk P T) {f : Nat} {fn : Func} (hf : P.funcs[f]? = some fn) {g : List CA → Option (List Prop × FR)}
 (h : ∀ cs pre r,g cs = some (pre,r) → aZ pre → ∀ (args : List Value) (w : World),bR w cs args → Calls P f args.toArray w (fun e w' => r.ok w e w')) (hn : (fn.name == "runtime.NumGoroutine") = false:=by kernel_rfl) (hb : fn.body.isNone = false:=by kernel_rfl) : FrOk P (T.add f g):=hT.add hf hn hb h
def iL (p : mI) : Int × J1:=RX p.1 p.2.1 p.2.2
def gV (ps : Nat → mI) : Nat → Int
 | 0 => 0
 | i + 1 => if gV ps i ≠ 0 then gV ps i else (iL (ps i)).1
theorem RH {ps : Nat → mI} : ∀ {N : Nat},gV ps N = 0 → ∀ j,j < N → (iL (ps j)).1 = 0
 | N + 1,h,j,hj => by
  unfold gV at h
  by_cases h0 : gV ps N = 0
  ·rw [if_neg (fun q => q h0)] at h
   by_cases e : j = N
   ·rw [e]; exact h
   ·exact RH h0 j (by omega)
  ·rw [if_pos h0] at h; exact (h0 h).elim
theorem ZS {ps : Nat → mI} : ∀ {N : Nat},gV ps N ≠ 0 → ∃ j,j < N ∧ (∀ k,k < j → (iL (ps k)).1 = 0) ∧ (iL (ps j)).1 ≠ 0 ∧ gV ps N = (iL (ps j)).1
 | 0,h => (h rfl).elim
 | N + 1,h => by
  unfold gV at h ⊢
  by_cases h0 : gV ps N = 0
  ·rw [if_neg (fun q => q h0)] at h ⊢;exact ⟨N,by omega,fun k hk => RH h0 k hk,h,rfl⟩
  ·rw [if_pos h0];obtain ⟨j,h1,h2,h3,h4⟩:=ZS h0;exact ⟨j,by omega,h2,h3,h4⟩
def AW (ps : Nat → mI) (j : Nat) : J1:=(iL (ps j)).2
def uA (LG Z : List At) (N N' i : Nat) : List Fact:=[.slot 1 (.sl 1 0 N N'),.row 1 false LG,.slot 2 (.pt 2 0),.row 2 true gE,.slot 6 (.sl 12 0 N N),.row 12 true Z,.slot 14 (.im (iI N)),.slot 15 (.im (iI i))]
def aRG (LG : List At) (N N' : Nat) : List Fact:=[.slot 1 (.sl 1 0 N N'),.row 1 false LG,.slot 2 (.pt 2 0),.row 2 true gE]
def aRE (LG Z : List At) (N N' : Nat) : List Fact:=[.slot 1 (.sl 1 0 N N'),.row 1 false LG,.slot 2 (.pt 2 0),.row 2 true gE,.slot 6 (.sl 12 0 N N),.row 12 true Z]
def gM : Code:=(f101.body).getD .skip
def tT : Code:=pO (pO (cB (cA (cB (cB gM)))))
theorem aEp : gM = .seq (cA gM) (.seq (cA (cB gM)) (.seq (.seq (cA (cA (cB (cB gM)))) (.block 0 (.loop tT))) (cB (cB (cB gM))))):=by kernel_rfl
def AH (num : Nat → Option Value) (_ : Nat) : Cfg:=⟨fun _ => jK,fun _ => true,num⟩
theorem aRO (LG : List At) (N N' : Nat) : aY prog (qG prog) f101.ntmps (AH fun _ => none) 40 (cA gM) (kV 0 [.v (.fl gE),.s LG N N']) (aRG LG N N') = some ([],.nrm,aRG LG N N'):=by kernel_rfl
def aLv (N : Nat) (Z : List At) : Ext:={ TO (fun _ _ _ => False) with mks:=assoc [(12,(N,Z))] }
theorem aRN (LG Z : List At) (N N' : Nat) : aY prog (qX prog (aLv N Z)) f101.ntmps (AH fun _ => none) 40 (cA (cB gM)) (aRG LG N N') (aRE LG Z N N') = some ([∃ e,∀ w : World,(Instr.makeSlice 161 (iI N) (iI N)).run prog w = .ok (.slice (some ⟨w.heap.size,0,none⟩) N N) (w.alloc (.cells (aA Z).toArray e))],.nrm,aRE LG Z N N'):=by kernel_rfl
theorem aRM (LG Z : List At) (N N' : Nat) : aY prog (qG prog) f101.ntmps (AH fun _ => none) 40 (cA (cA (cB (cB gM)))) (aRE LG Z N N') (uA LG Z N N' 0) = some ([],.nrm,uA LG Z N N' 0):=by kernel_rfl
def aJo (i : Nat) (p : mI) (Z' : List At) : Ext:={ TO (fun _ _ _ => False) with idx:=assoc [(23,i),(34,i)],ld:=assoc [(24,qZ p)],st:=assoc [(34,Z')] }
theorem aRP (LG Z Z' : List At) (N N' i : Nat) (p : mI) : aY prog (qX prog (aJo i p Z')) f101.ntmps (AH (assoc [(16,.bool true),(29,.bool false),(35,iI (i + 1))])) 60 tT (uA LG Z N N' i) (uA LG Z' N N' (i + 1)) = some ([aI .lss .i64 (Int.ofNat i) (Int.ofNat N) = some (.bool true),Int.ofNat i = Int.ofNat i,i < N,fN LG (0 + i * 9) 9 = some (qZ p),aI .neq .i64 (iL p).1 0 = some (.bool false),Int.ofNat i = Int.ofNat i,i < N,put Z (0 + i * 12) (bH (iL p).2) = some Z',aI .add .i64 (Int.ofNat i) 1 = some (iI (i + 1))],.nrm,uA LG Z' N N' (i + 1)):=by kernel_rfl
theorem aRQ (LG Z : List At) (N N' i : Nat) (p : mI) : aY prog (qX prog (aJo i p Z)) f101.ntmps (AH (assoc [(16,.bool true),(29,.bool true)])) 60 tT (uA LG Z N N' i) [.slot 4 (.im (.slice none 0 0)),.slot 5 (.im (.int .i64 (iL p).1))] = some ([aI .lss .i64 (Int.ofNat i) (Int.ofNat N) = some (.bool true),Int.ofNat i = Int.ofNat i,i < N,fN LG (0 + i * 9) 9 = some (qZ p),aI .neq .i64 (iL p).1 0 = some (.bool true)],.rt,[.slot 4 (.im (.slice none 0 0)),.slot 5 (.im (.int .i64 (iL p).1))]):=by kernel_rfl
theorem aJq (LG Z : List At) (N N' i : Nat) : aY prog (qG prog) f101.ntmps (AH (assoc [(16,.bool false)])) 40 tT (uA LG Z N N' i) (uA LG Z N N' i) = some ([aI .lss .i64 (Int.ofNat i) (Int.ofNat N) = some (.bool false)],.ex 0,uA LG Z N N' i):=by kernel_rfl
theorem aEn (LG Z : List At) (N N' i : Nat) : aY prog (qG prog) f101.ntmps (AH fun _ => none) 40 (cB (cB (cB gM))) (uA LG Z N N' i) [.slot 4 (.sl 12 0 N N),.row 12 true Z,.slot 5 (.im (.int .i64 0))] = some ([],.rt,[.slot 4 (.sl 12 0 N N),.row 12 true Z,.slot 5 (.im (.int .i64 0))]):=by kernel_rfl
theorem aDk : sR (aA (bH uC)) (.int .u64 0):=by unfold sR; kernel_rfl
theorem NK {w0 : World} {args : List Value} {N N' : Nat} {ps : Nat → mI} (ha : bR w0 [.v (.fl gE),.s (cD (fun j => qZ (ps j)) 0 N) N N'] args) (hN2 : N ≤ 65536) {R : Ending → World → Prop}
  (h : ∀ a w,Holds f101.ntmps w0.heap.size w0 (uA (cD (fun j => qZ (ps j)) 0 N) (mW (fun j => bH (AW ps j)) (bH uC) N 0) N N' 0) a w → (Code.loop tT).wp prog (fun e a w => match e with | .exit 0 => (cB (cB (cB gM))).wp prog (bodyPost prog f101 R) a w | .ret => bodyPost prog f101 R .ret a w | _ => False) a w) : Calls prog 101 args.toArray w0 R:=by
 have hG : cN prog (qG prog) w0.heap.size w0:=(aK _).w _ _;have hT : ∀ n d : Nat,TabOkW prog jK w0.heap.size w0:=fun _ _ => iC.w _ _
 refine dS func101 (c:=gM) rfl ha (Nat.le_of_ble_eq_true (by kernel_rfl)) fun a w' hA => ?_
 rw [aEp];refine wp_seq (aC aG hT hG (aRO _ N N') trivial hA fun a w' hA => ?_);refine wp_seq (aC aG hT (nM (x:=aLv N (cD (fun _ => bH uC) 0 N)) (jL _) fun _ _ _ h => h.elim) (aRN _ (cD (fun _ => bH uC) 0 N) N N') ⟨Lm (t:=161) (e:=165) (z:=bH uC) (v:=.int .u64 0) (n:=12) (by8:=96) (by kernel_rfl) (by kernel_rfl) rfl aDk (by omega) (by omega) (by omega),trivial⟩ hA fun a w' hA => ?_);refine wp_seq (wp_seq (aC aG hT hG (aRM _ _ N N') trivial hA fun a w' hA => ?_));refine wp_block ?_;rw [← QH (fun j => bH (AW ps j))] at hA;refine Code.wp_mono (fun e a w h => ?_) (h a w' hA);cases e with
 | exit id =>
  cases id with
  | zero => exact h
  | succ k => exact h.elim
 | ret => exact h
 | _ => exact h.elim
theorem Ao {w0 : World} {N N' : Nat} {ps : Nat → mI} {i : Nat} (hi : i < N) (hN2 : N ≤ 65536) (h : (iL (ps i)).1 = 0) : Ok prog w0.heap.size w0 f101.ntmps tT (uA (cD (fun j => qZ (ps j)) 0 N) (mW (fun j => bH (AW ps j)) (bH uC) N i) N N' i) .nrm (uA (cD (fun j => qZ (ps j)) 0 N) (mW (fun j => bH (AW ps j)) (bH uC) N (i + 1)) N N' (i + 1)) :=
 ⟨_,_,_,_,nM (x:=aJo i (ps i) _) (jL _) (fun _ _ _ h => h.elim),fun _ _ => iC.w _ _,aRP _ _ (mW (fun j => bH (AW ps j)) (bH uC) N (i + 1)) N N' i (ps i),bX hi,rfl,hi,lS (f:=fun j => qZ (ps j)) (c:=9) (fun j => rfl) hi (Nat.zero_add _),GJ h,rfl,hi,wW (f:=fun j => bH (AW ps j)) (c:=12) (fun j => rfl) rfl hi (Nat.zero_add _),kQ (k:=1) (by omega),trivial⟩
theorem aEo {w0 : World} {args : List Value} {N N' : Nat} {ps : Nat → mI} (ha : bR w0 [.v (.fl gE),.s (cD (fun j => qZ (ps j)) 0 N) N N'] args) (hN2 : N ≤ 65536) (h : gV ps N = 0) : Calls prog 101 args.toArray w0 (fun e w' => FR.ok ⟨cD (fun j => bH (AW ps j)) 0 N,N,N,[.im (.int .i64 0)]⟩ w0 e w'):=by
 have hG : cN prog (qG prog) w0.heap.size w0:=(aK _).w _ _;have hT : ∀ n d : Nat,TabOkW prog jK w0.heap.size w0:=fun _ _ => iC.w _ _
 refine NK ha hN2 fun a w hA => ?_
 refine jV aG (fun i => uA (cD (fun j => qZ (ps j)) 0 N) (mW (fun j => bH (AW ps j)) (bH uC) N i) N N' i) N (fun i hi => Ao hi hN2 (RH h i hi)) (.ex 0) (by simp) (uA (cD (fun j => qZ (ps j)) 0 N) (cD (fun j => bH (AW ps j)) 0 N) N N' N) ?_ hA fun a w hA => ?_
 ·rw [← QG (fun j => bH (AW ps j)) (bH uC) N];exact ⟨_,_,_,_,hG,hT,aJq _ _ N N' N,eI (Nat.le_refl _),trivial⟩
 ·show (cB (cB (cB gM))).wp _ _ _ _;exact aC aG hT hG (aEn _ _ N N' N) trivial hA fun a w' hA => MI (r:=⟨cD (fun j => bH (AW ps j)) 0 N,N,N,[.im (.int .i64 0)]⟩) (by kernel_rfl) hA
theorem aEq {w0 : World} {args : List Value} {N N' : Nat} {ps : Nat → mI} (ha : bR w0 [.v (.fl gE),.s (cD (fun j => qZ (ps j)) 0 N) N N'] args) (hN2 : N ≤ 65536) (h : gV ps N ≠ 0) : Good prog 101 (.many [.im (.slice none 0 0),.im (.int .i64 (gV ps N))]) args w0:=by
 have hG : cN prog (qG prog) w0.heap.size w0:=(aK _).w _ _;have hT : ∀ n d : Nat,TabOkW prog jK w0.heap.size w0:=fun _ _ => iC.w _ _
 obtain ⟨j,hj,h1,h2,h3⟩:=ZS h;rw [h3];refine NK ha hN2 fun a w hA => ?_
 refine jV aG (fun i => uA (cD (fun j => qZ (ps j)) 0 N) (mW (fun j => bH (AW ps j)) (bH uC) N i) N N' i) j (fun i hi => Ao (by omega) hN2 (h1 i hi)) .rt (by simp) [.slot 4 (.im (.slice none 0 0)),.slot 5 (.im (.int .i64 (iL (ps j)).1))] ?_ hA fun a w hA => ?_
 ·exact ⟨_,_,_,_,nM (x:=aJo j (ps j) _) (jL _) (fun _ _ _ h => h.elim),fun _ _ => iC.w _ _,aRQ _ _ N N' j (ps j),bX hj,rfl,hj,lS (f:=fun j => qZ (ps j)) (c:=9) (fun j => rfl) hj (Nat.zero_add _),uL h2,trivial⟩
 ·exact eJ (l:=[.im (.slice none 0 0),.im (.int .i64 (iL (ps j)).1)]) (r:=.many [.im (.slice none 0 0),.im (.int .i64 (iL (ps j)).1)]) (by kernel_rfl) (by kernel_rfl) hA
def EG (pt : Nat → J1) : Nat → J1
 | 0 => uC
 | i + 1 => dZ F1 (EG pt i) (pt i)
def EI (L : List At) (N N' i : Nat) (s : J1) : List Fact:=[.row 0 false L,.slot 2 (.pt 2 0),.row 2 true (bH uC),.slot 3 (.pt 3 0),.row 3 true (bH s),.slot 6 (.sl 0 0 N N'),.slot 7 (.im (iI N)),.slot 8 (.im (iI i))]
def gZ : Code:=(f102.body).getD .skip
def NZ : Code:=pO (pO (cB (cA (cB (cB gZ)))))
theorem Wm : gZ = .seq (cA gZ) (.seq (cA (cB gZ)) (.seq (.seq (cA (cA (cB (cB gZ)))) (.block 0 (.loop NZ))) (cB (cB (cB gZ))))):=by kernel_rfl
def aMn (L : List At) (N N' : Nat) : List Fact:=[.slot 0 (.sl 0 0 N N'),.row 0 false L,.slot 2 (.pt 2 0),.row 2 true (bH uC)]
def aMl (L : List At) (N N' : Nat) : List Fact:=[.slot 0 (.sl 0 0 N N'),.row 0 false L,.slot 2 (.pt 2 0),.row 2 true (bH uC),.slot 3 (.pt 3 0),.row 3 true (bH uC)]
theorem aMu (L : List At) (N N' : Nat) : aY prog (qG prog) f102.ntmps (AH fun _ => none) 40 (cA gZ) (kV 0 [.s L N N']) (aMn L N N') = some ([],.nrm,aMn L N N'):=by kernel_rfl
theorem aMt (L : List At) (N N' : Nat) : aY prog (qG prog) f102.ntmps (AH fun _ => none) 40 (cA (cB gZ)) (aMn L N N') (aMl L N N') = some ([],.nrm,aMl L N N'):=by kernel_rfl
theorem aMs (L : List At) (N N' : Nat) : aY prog (qG prog) f102.ntmps (AH fun _ => none) 40 (cA (cA (cB (cB gZ)))) (aMl L N N') (EI L N N' 0 uC) = some ([],.nrm,EI L N N' 0 uC):=by kernel_rfl
def aSZ (i : Nat) (p : J1) : Ext:={ TO (fun _ _ _ => False) with idx:=assoc [(10,i)],ld:=assoc [(11,bH p)] }
theorem aMv (L : List At) (N N' i : Nat) (s p : J1) : aY prog (qX prog (aSZ i p)) f102.ntmps (AH (assoc [(9,.bool true),(15,iI (i + 1))])) 40 NZ (EI L N N' i s) (EI L N N' (i + 1) (dZ F1 s p)) = some ([aI .lss .i64 (Int.ofNat i) (Int.ofNat N) = some (.bool true),Int.ofNat i = Int.ofNat i,i < N,fN L (0 + i * 12) 12 = some (bH p),aI .add .i64 (Int.ofNat i) 1 = some (iI (i + 1))],.nrm,EI L N N' (i + 1) (dZ F1 s p)):=by kernel_rfl
theorem aFi (L : List At) (N N' i : Nat) (s : J1) : aY prog (qG prog) f102.ntmps (AH (assoc [(9,.bool false)])) 40 NZ (EI L N N' i s) (EI L N N' i s) = some ([aI .lss .i64 (Int.ofNat i) (Int.ofNat N) = some (.bool false)],.ex 0,EI L N N' i s):=by kernel_rfl
theorem Wl (L : List At) (N N' i : Nat) (s : J1) : aY prog (qG prog) f102.ntmps (AH fun _ => none) 40 (cB (cB (cB gZ))) (EI L N N' i s) [.slot 2 (.pt 2 0),.row 2 true (bH s)] = some ([],.rt,[.slot 2 (.pt 2 0),.row 2 true (bH s)]):=by kernel_rfl
theorem Ou {w0 : World} {args : List Value} {N N' : Nat} {pt : Nat → J1} (ha : bR w0 [.s (cD (fun j => bH (pt j)) 0 N) N N'] args) (hN2 : N ≤ 65536) : Good prog 102 (.one (.fl (bH (EG pt N)))) args w0:=by
 have hG : cN prog (qG prog) w0.heap.size w0:=(aK _).w _ _;have hT : ∀ n d : Nat,TabOkW prog jK w0.heap.size w0:=fun _ _ => iC.w _ _
 refine dS func102 (c:=gZ) rfl ha (Nat.le_of_ble_eq_true (by kernel_rfl)) fun a w' hA => ?_
 rw [Wm];refine wp_seq (aC aG hT hG (aMu _ N N') trivial hA fun a w' hA => ?_);refine wp_seq (aC aG hT hG (aMt _ N N') trivial hA fun a w' hA => ?_);refine wp_seq (wp_seq (aC aG hT hG (aMs _ N N') trivial hA fun a w' hA => ?_));refine wp_block ?_;refine jV aG (fun i => EI (cD (fun j => bH (pt j)) 0 N) N N' i (EG pt i)) N (fun i hi => ?_) (.ex 0) (by simp) (EI (cD (fun j => bH (pt j)) 0 N) N N' N (EG pt N)) ?_ hA fun a w' hA => ?_
 ·exact ⟨_,_,_,_,nM (x:=aSZ i (pt i)) (jL _) (fun _ _ _ h => h.elim),hT,aMv _ N N' i _ (pt i),bX hi,rfl,hi,lS (f:=fun j => bH (pt j)) (c:=12) (fun j => rfl) hi (Nat.zero_add _),kQ (k:=1) (by omega),trivial⟩
 ·exact ⟨_,_,_,_,hG,hT,aFi _ N N' N _,eI (Nat.le_refl _),trivial⟩
 ·show (cB (cB (cB gZ))).wp _ _ _ _;exact aC aG hT hG (Wl _ N N' N _) trivial hA fun a w' hA => eJ (l:=[.fl (bH (EG pt N))]) (r:=.one (.fl (bH (EG pt N)))) (by kernel_rfl) (by kernel_rfl) hA
def EL (pt : Nat → J1) (x : Nat → Nat) (N : Nat) : J1:=Tg (fun p => MY pt x p N) (mD x N / 4 + 1) (mD x N / 4 + 1)
def aPX (pt : Nat → J1) (x : Nat → Nat) (N : Nat) : kZ
 | [.s LP n1 n2,.s LX n3 n4] => some ([aA LP = aA (cD (fun j => bH (pt j)) 0 N),aA LX = aA (cD (fun j => [.q (x j)]) 0 N),n1 = N,n3 = N,N ≤ 65536],.one (.fl (bH (EL pt x N))))
 | _ => none
theorem aIw {w : World} {pt : Nat → J1} {x : Nat → Nat} {N : Nat} : ∀ cs pre r,aPX pt x N cs = some (pre,r) → aZ pre → ∀ (args : List Value),bR w cs args → Good prog 191 r args w:=by
 intro cs pre r hg hq args ha;unfold aPX at hg;split at hg
 ·rename_i LP n1 n2 LX n3 n4;cases hg;obtain ⟨h1,h2,rfl,rfl,h5,_⟩:=hq
  match args,ha with
  | [u,v],ha =>
   obtain ⟨b1,o1,e1,hb1,hr1⟩:=ha.1;obtain ⟨b2,o2,e2,hb2,hr2⟩:=ha.2.1;subst e1; subst e2;refine Uv h1 ⟨hb1,hr1⟩ (fun j hj => ⟨hb2,?_⟩) (Nat.le_refl _) h5 (by omega);rw [h2] at hr2;exact mB (f:=fun j => [At.q (x j)]) (c:=4) (fun _ => rfl) hj hr2
  | [],ha => exact ha.elim
  | [_],ha => exact ha.2.elim
  | _ :: _ :: _ :: _,ha => exact ha.2.2.elim
 ·cases hg
theorem aFW (LP LX : List At) (n1 n2 n3 n4 N : Nat) (pt : Nat → J1) (x : Nat → Nat) : aX prog (qG prog) (fun _ => ⟨fun _ => (jK).add 191 (aPX pt x N),fun _ => true,assoc [(7,.bool true)]⟩) f152 40 [.s LP n1 n2,.s LX n3 n4] = some ([aI .lss .i64 (Int.ofNat n1) 32 = some (.bool true),aA LP = aA (cD (fun j => bH (pt j)) 0 N),aA LX = aA (cD (fun j => [.q (x j)]) 0 N),n1 = N,n3 = N,N ≤ 65536],.one (.fl (bH (EL pt x N)))):=by kernel_rfl
def aPN (pt : Nat → J1) (x : Nat → Nat) (N : Nat) : kZ
 | [.s LP n1 n2,.s LX n3 n4] => some ([aA LP = aA (cD (fun j => bH (pt j)) 0 N),aA LX = aA (cD (fun j => [.q (x j)]) 0 N),n1 = N,n3 = N,N < 32],.one (.fl (bH (EL pt x N))))
 | _ => none
theorem aIn {w : World} {pt : Nat → J1} {x : Nat → Nat} {N : Nat} : ∀ cs pre r,aPN pt x N cs = some (pre,r) → aZ pre → ∀ (args : List Value),bR w cs args → Good prog 152 r args w:=by
 intro cs pre r hg hq args ha;unfold aPN at hg;split at hg
 ·rename_i LP n1 n2 LX n3 n4;cases hg;obtain ⟨h1,h2,h3,h4,h5,_⟩:=hq;exact bD aG (fun _ _ => TabOkW.add (iC.w _ _) func191 (by kernel_rfl) (by kernel_rfl) fun w hw => aIw) ((aK prog).w _ _) func152 (aFW LP LX n1 n2 n3 n4 N pt x) ⟨by rw [h3]; exact bX (n:=32) h5,h1,h2,h3,h4,by omega,trivial⟩ ha
 ·cases hg
def aPZ (ps : Nat → mI) (N : Nat) : List CA → Option (List Prop × FR)
 | [.v (.fl l),.s L n1 n2] => some ([aA l = aA gE,aA L = aA (cD (fun j => qZ (ps j)) 0 N),n1 = N,N ≤ 65536,gV ps N = 0],⟨cD (fun j => bH (AW ps j)) 0 N,N,N,[.im (.int .i64 0)]⟩)
 | _ => none
def aIA (ps : Nat → mI) (N : Nat) : kZ
 | [.v (.fl l),.s L n1 n2] => some ([aA l = aA gE,aA L = aA (cD (fun j => qZ (ps j)) 0 N),n1 = N,N ≤ 65536,gV ps N ≠ 0],.many [.im (.slice none 0 0),.im (.int .i64 (gV ps N))])
 | _ => none
theorem SG {w : World} {ps : Nat → mI} {N n1 n2 : Nat} {l L : List At} (h1 : aA l = aA gE) (h2 : aA L = aA (cD (fun j => qZ (ps j)) 0 N)) {args : List Value} (ha : bR w [.v (.fl l),.s L n1 n2] args) : bR w [.v (.fl gE),.s (cD (fun j => qZ (ps j)) 0 N) n1 n2] args:=by
 match args,ha with
 | [u,v],ha =>
  obtain ⟨b,o,e,hb,hr⟩:=ha.2.1;refine ⟨?_,⟨b,o,e,hb,by rw [← h2]; exact hr⟩,trivial⟩;show u = .agg (aA gE).toArray;rw [← h1]; exact ha.1
 | [],ha => exact ha.elim
 | [_],ha => exact ha.2.elim
 | _ :: _ :: _ :: _,ha => exact ha.2.2.elim
theorem aIy {ps : Nat → mI} {N : Nat} : ∀ cs pre r,aPZ ps N cs = some (pre,r) → aZ pre → ∀ (args : List Value) (w : World),bR w cs args → Calls prog 101 args.toArray w (fun e w' => r.ok w e w'):=by
 intro cs pre r hg hq args w ha;unfold aPZ at hg;split at hg
 ·cases hg;obtain ⟨h1,h2,rfl,h4,h5,_⟩:=hq;exact aEo (SG h1 h2 ha) h4 h5
 ·cases hg
theorem Me {ps : Nat → mI} {N : Nat} : ∀ cs pre r,aIA ps N cs = some (pre,r) → aZ pre → ∀ (args : List Value) (w : World),bR w cs args → Good prog 101 r args w:=by
 intro cs pre r hg hq args w ha;unfold aIA at hg;split at hg
 ·cases hg;obtain ⟨h1,h2,rfl,h4,h5,_⟩:=hq;exact aEq (SG h1 h2 ha) h4 h5
 ·cases hg
def aPA (pt : Nat → J1) (N : Nat) : kZ
 | [.s L n1 n2] => some ([aA L = aA (cD (fun j => bH (pt j)) 0 N),n1 = N,N ≤ 65536],.one (.fl (bH (EG pt N))))
 | _ => none
theorem aIf {pt : Nat → J1} {N : Nat} : ∀ cs pre r,aPA pt N cs = some (pre,r) → aZ pre → ∀ (args : List Value) (w : World),bR w cs args → Good prog 102 r args w:=by
 intro cs pre r hg hq args w ha;unfold aPA at hg;split at hg
 ·rename_i L n1 n2;cases hg;obtain ⟨h1,rfl,h3,_⟩:=hq;refine Ou (N':=n2) ?_ h3
  match args,ha with
  | [u],ha =>
   obtain ⟨b,o,e,hb,hr⟩:=ha.1;exact ⟨⟨b,o,e,hb,by rw [← h1]; exact hr⟩,trivial⟩
  | [],ha => exact ha.elim
  | _ :: _ :: _,ha => exact ha.2.elim
 ·cases hg
def aLO (ps : Nat → mI) (N : Nat) : Ext:={ TO (fun _ _ _ => False) with T2:=Fr0.add 101 (aPZ ps N) }
theorem Ij (ps : Nat → mI) (N : Nat) (w : World) : cN prog (qX prog (aLO ps N)) w.heap.size w:=nM ((jL _).ad func101 aIy) fun _ _ _ h => h.elim
theorem Qw (LG LX : List At) (N n2 n n4 : Nat) (ps : Nat → mI) : aX prog (qG prog) (fun _ => ⟨fun _ => (jK).add 101 (aIA ps N),fun _ => true,assoc [(15,.bool false),(19,.bool false),(29,.bool true)]⟩) f96 60 [.v (.fl gE),.s LG N n2,.s LX n n4] = some ([aI .neq .i64 (Int.ofNat N) (Int.ofNat n) = some (.bool false),aI .gtr .i64 (Int.ofNat N) 65536 = some (.bool false),aA gE = aA gE,aA LG = aA (cD (fun j => qZ (ps j)) 0 N),N = N,N ≤ 65536,gV ps N ≠ 0,aI .neq .i64 (gV ps N) 0 = some (.bool true)],.many [.fl (fB (some (F1.zero,F1.zero))),.im (.int .i64 (gV ps N))]):=by kernel_rfl
theorem Qv (LG LX : List At) (N n2 n n4 : Nat) (ps : Nat → mI) (x : Nat → Nat) : aX prog (qX prog (aLO ps N)) (fun _ => ⟨fun _ => (jK).add 152 (aPN (AW ps) x N),fun _ => true,assoc [(15,.bool false),(19,.bool false)]⟩) f96 60 [.v (.fl gE),.s LG N n2,.s LX n n4] = some ([aI .neq .i64 (Int.ofNat N) (Int.ofNat n) = some (.bool false),aI .gtr .i64 (Int.ofNat N) 65536 = some (.bool false),aA gE = aA gE,aA LG = aA (cD (fun j => qZ (ps j)) 0 N),N = N,N ≤ 65536,gV ps N = 0,aA (cD (fun j => bH (AW ps j)) 0 N) = aA (cD (fun j => bH (AW ps j)) 0 N),aA LX = aA (cD (fun j => [.q (x j)]) 0 N),N = N,n = N,N < 32],.many [.fl (fB (fM F1 cM (EL (AW ps) x N))),.im (.int .i64 0)]):=by kernel_rfl
theorem Qf (LG : List At) (N n2 : Nat) (ps : Nat → mI) : aX prog (qG prog) (fun _ => ⟨fun _ => (jK).add 101 (aIA ps N),fun _ => true,assoc [(11,.bool false),(20,.bool true)]⟩) f48 60 [.v (.fl gE),.s LG N n2] = some ([aI .gtr .i64 (Int.ofNat N) 65536 = some (.bool false),aA gE = aA gE,aA LG = aA (cD (fun j => qZ (ps j)) 0 N),N = N,N ≤ 65536,gV ps N ≠ 0,aI .neq .i64 (gV ps N) 0 = some (.bool true)],.many [.fl (fB (some (F1.zero,F1.zero))),.im (.int .i64 (gV ps N))]):=by kernel_rfl
theorem Qe (LG : List At) (N n2 : Nat) (ps : Nat → mI) : aX prog (qX prog (aLO ps N)) (fun _ => ⟨fun _ => (jK).add 102 (aPA (AW ps) N),fun _ => true,assoc [(11,.bool false)]⟩) f48 60 [.v (.fl gE),.s LG N n2] = some ([aI .gtr .i64 (Int.ofNat N) 65536 = some (.bool false),aA gE = aA gE,aA LG = aA (cD (fun j => qZ (ps j)) 0 N),N = N,N ≤ 65536,gV ps N = 0,aA (cD (fun j => bH (AW ps j)) 0 N) = aA (cD (fun j => bH (AW ps j)) 0 N),N = N,N ≤ 65536],.many [.fl (fB (fM F1 cM (EG (AW ps) N))),.im (.int .i64 0)]):=by kernel_rfl
def oP (ps : Nat → mI) (x : Nat → Nat) (N : Nat) : Pt Fq × Int:=if gV ps N ≠ 0 then (some (F1.zero,F1.zero),gV ps N) else (fM F1 cM (EL (AW ps) x N),0)
theorem To {w0 : World} {args : List Value} {LG LX : List At} {N n2 n4 : Nat} {ps : Nat → mI} {x : Nat → Nat} (h1 : aA LG = aA (cD (fun j => qZ (ps j)) 0 N)) (h2 : aA LX = aA (cD (fun j => [.q (x j)]) 0 N)) (hN : N < 32) (ha : bR w0 [.v (.fl gE),.s LG N n2,.s LX N n4] args) : Good prog 96 (.many [.fl (fB (oP ps x N).1),.im (.int .i64 (oP ps x N).2)]) args w0:=by
 have g1 : aI .neq .i64 (Int.ofNat N) (Int.ofNat N) = some (.bool false):=by rw [aBc,decide_eq_false (by simp)]
 have g2 : aI .gtr .i64 (Int.ofNat N) 65536 = some (.bool false):=by
  have:=BB (i:=N) (n:=65536);rw [decide_eq_false (by omega)] at this;exact this
 unfold oP
 by_cases h : gV ps N = 0
 ·rw [if_neg (fun q => q h)];exact bD aG (fun _ _ => TabOkW.add (iC.w _ _) func152 (by kernel_rfl) (by kernel_rfl) fun w hw => aIn) (Ij ps N w0) func96 (Qv LG LX N n2 N n4 ps x) ⟨g1,g2,rfl,h1,rfl,by omega,h,rfl,h2,rfl,rfl,hN,trivial⟩ ha
 ·rw [if_pos h];exact bD aG (fun _ _ => (iC.ad func101 Me).w _ _) ((aK prog).w _ _) func96 (Qw LG LX N n2 N n4 ps) ⟨g1,g2,rfl,h1,rfl,by omega,h,uL h,trivial⟩ ha
def oO (ps : Nat → mI) (N : Nat) : Pt Fq × Int:=if gV ps N ≠ 0 then (some (F1.zero,F1.zero),gV ps N) else (fM F1 cM (EG (AW ps) N),0)
theorem Pd {w0 : World} {args : List Value} {LG : List At} {N n2 : Nat} {ps : Nat → mI} (h1 : aA LG = aA (cD (fun j => qZ (ps j)) 0 N)) (hN : N ≤ 65536) (ha : bR w0 [.v (.fl gE),.s LG N n2] args) : Good prog 48 (.many [.fl (fB (oO ps N).1),.im (.int .i64 (oO ps N).2)]) args w0:=by
 have g2 : aI .gtr .i64 (Int.ofNat N) 65536 = some (.bool false):=by
  have:=BB (i:=N) (n:=65536);rw [decide_eq_false (by omega)] at this;exact this
 unfold oO
 by_cases h : gV ps N = 0
 ·rw [if_neg (fun q => q h)];exact bD aG (fun _ _ => (iC.ad func102 aIf).w _ _) (Ij ps N w0) func48 (Qe LG N n2 ps) ⟨g2,rfl,h1,rfl,hN,h,rfl,rfl,hN,trivial⟩ ha
 ·rw [if_pos h];exact bD aG (fun _ _ => (iC.ad func101 Me).w _ _) ((aK prog).w _ _) func48 (Qf LG N n2 ps) ⟨g2,rfl,h1,rfl,hN,h,uL h,trivial⟩ ha
def fG (p : iX) : Int × J2:=rL p.1 p.2.1 p.2.2
def gU (ps : Nat → iX) : Nat → Int
 | 0 => 0
 | i + 1 => if gU ps i ≠ 0 then gU ps i else (fG (ps i)).1
theorem RG {ps : Nat → iX} : ∀ {N : Nat},gU ps N = 0 → ∀ j,j < N → (fG (ps j)).1 = 0
 | N + 1,h,j,hj => by
  unfold gU at h
  by_cases h0 : gU ps N = 0
  ·rw [if_neg (fun q => q h0)] at h
   by_cases e : j = N
   ·rw [e]; exact h
   ·exact RG h0 j (by omega)
  ·rw [if_pos h0] at h; exact (h0 h).elim
theorem ZR {ps : Nat → iX} : ∀ {N : Nat},gU ps N ≠ 0 → ∃ j,j < N ∧ (∀ k,k < j → (fG (ps k)).1 = 0) ∧ (fG (ps j)).1 ≠ 0 ∧ gU ps N = (fG (ps j)).1
 | 0,h => (h rfl).elim
 | N + 1,h => by
  unfold gU at h ⊢
  by_cases h0 : gU ps N = 0
  ·rw [if_neg (fun q => q h0)] at h ⊢;exact ⟨N,by omega,fun k hk => RG h0 k hk,h,rfl⟩
  ·rw [if_pos h0];obtain ⟨j,h1,h2,h3,h4⟩:=ZR h0;exact ⟨j,by omega,h2,h3,h4⟩
def AU (ps : Nat → iX) (j : Nat) : J2:=(fG (ps j)).2
def tZ (LG Z : List At) (N N' i : Nat) : List Fact:=[.slot 1 (.sl 1 0 N N'),.row 1 false LG,.slot 2 (.pt 2 0),.row 2 true fA,.slot 6 (.sl 12 0 N N),.row 12 true Z,.slot 14 (.im (iI N)),.slot 15 (.im (iI i))]
def aRF (LG : List At) (N N' : Nat) : List Fact:=[.slot 1 (.sl 1 0 N N'),.row 1 false LG,.slot 2 (.pt 2 0),.row 2 true fA]
def aRD (LG Z : List At) (N N' : Nat) : List Fact:=[.slot 1 (.sl 1 0 N N'),.row 1 false LG,.slot 2 (.pt 2 0),.row 2 true fA,.slot 6 (.sl 12 0 N N),.row 12 true Z]
def gL : Code:=(f105.body).getD .skip
def tR : Code:=pO (pO (cB (cA (cB (cB gL)))))
theorem aEl : gL = .seq (cA gL) (.seq (cA (cB gL)) (.seq (.seq (cA (cA (cB (cB gL)))) (.block 0 (.loop tR))) (cB (cB (cB gL))))):=by kernel_rfl
def AF (num : Nat → Option Value) (_ : Nat) : Cfg:=⟨fun _ => jJ,fun _ => true,num⟩
theorem aRJ (LG : List At) (N N' : Nat) : aY prog (qG prog) f105.ntmps (AF fun _ => none) 40 (cA gL) (kV 0 [.v (.fl fA),.s LG N N']) (aRF LG N N') = some ([],.nrm,aRF LG N N'):=by kernel_rfl
def aLu (N : Nat) (Z : List At) : Ext:={ TO (fun _ _ _ => False) with mks:=assoc [(12,(N,Z))] }
theorem aRI (LG Z : List At) (N N' : Nat) : aY prog (qX prog (aLu N Z)) f105.ntmps (AF fun _ => none) 40 (cA (cB gL)) (aRF LG N N') (aRD LG Z N N') = some ([∃ e,∀ w : World,(Instr.makeSlice 167 (iI N) (iI N)).run prog w = .ok (.slice (some ⟨w.heap.size,0,none⟩) N N) (w.alloc (.cells (aA Z).toArray e))],.nrm,aRD LG Z N N'):=by kernel_rfl
theorem aRH (LG Z : List At) (N N' : Nat) : aY prog (qG prog) f105.ntmps (AF fun _ => none) 40 (cA (cA (cB (cB gL)))) (aRD LG Z N N') (tZ LG Z N N' 0) = some ([],.nrm,tZ LG Z N N' 0):=by kernel_rfl
def aJn (i : Nat) (p : iX) (Z' : List At) : Ext:={ TO (fun _ _ _ => False) with idx:=assoc [(23,i),(34,i)],ld:=assoc [(24,jN p)],st:=assoc [(34,Z')] }
theorem aRK (LG Z Z' : List At) (N N' i : Nat) (p : iX) : aY prog (qX prog (aJn i p Z')) f105.ntmps (AF (assoc [(16,.bool true),(29,.bool false),(35,iI (i + 1))])) 60 tR (tZ LG Z N N' i) (tZ LG Z' N N' (i + 1)) = some ([aI .lss .i64 (Int.ofNat i) (Int.ofNat N) = some (.bool true),Int.ofNat i = Int.ofNat i,i < N,fN LG (0 + i * 17) 17 = some (jN p),aI .neq .i64 (fG p).1 0 = some (.bool false),Int.ofNat i = Int.ofNat i,i < N,put Z (0 + i * 24) (bG (fG p).2) = some Z',aI .add .i64 (Int.ofNat i) 1 = some (iI (i + 1))],.nrm,tZ LG Z' N N' (i + 1)):=by kernel_rfl
theorem aRL (LG Z : List At) (N N' i : Nat) (p : iX) : aY prog (qX prog (aJn i p Z)) f105.ntmps (AF (assoc [(16,.bool true),(29,.bool true)])) 60 tR (tZ LG Z N N' i) [.slot 4 (.im (.slice none 0 0)),.slot 5 (.im (.int .i64 (fG p).1))] = some ([aI .lss .i64 (Int.ofNat i) (Int.ofNat N) = some (.bool true),Int.ofNat i = Int.ofNat i,i < N,fN LG (0 + i * 17) 17 = some (jN p),aI .neq .i64 (fG p).1 0 = some (.bool true)],.rt,[.slot 4 (.im (.slice none 0 0)),.slot 5 (.im (.int .i64 (fG p).1))]):=by kernel_rfl
theorem aJp (LG Z : List At) (N N' i : Nat) : aY prog (qG prog) f105.ntmps (AF (assoc [(16,.bool false)])) 40 tR (tZ LG Z N N' i) (tZ LG Z N N' i) = some ([aI .lss .i64 (Int.ofNat i) (Int.ofNat N) = some (.bool false)],.ex 0,tZ LG Z N N' i):=by kernel_rfl
theorem aEj (LG Z : List At) (N N' i : Nat) : aY prog (qG prog) f105.ntmps (AF fun _ => none) 40 (cB (cB (cB gL))) (tZ LG Z N N' i) [.slot 4 (.sl 12 0 N N),.row 12 true Z,.slot 5 (.im (.int .i64 0))] = some ([],.rt,[.slot 4 (.sl 12 0 N N),.row 12 true Z,.slot 5 (.im (.int .i64 0))]):=by kernel_rfl
theorem aDj : sR (aA (bG uB)) (.int .u64 0):=by unfold sR; kernel_rfl
theorem NJ {w0 : World} {args : List Value} {N N' : Nat} {ps : Nat → iX} (ha : bR w0 [.v (.fl fA),.s (cD (fun j => jN (ps j)) 0 N) N N'] args) (hN2 : N ≤ 65536) {R : Ending → World → Prop}
  (h : ∀ a w,Holds f105.ntmps w0.heap.size w0 (tZ (cD (fun j => jN (ps j)) 0 N) (mW (fun j => bG (AU ps j)) (bG uB) N 0) N N' 0) a w → (Code.loop tR).wp prog (fun e a w => match e with | .exit 0 => (cB (cB (cB gL))).wp prog (bodyPost prog f105 R) a w | .ret => bodyPost prog f105 R .ret a w | _ => False) a w) : Calls prog 105 args.toArray w0 R:=by
 have hG : cN prog (qG prog) w0.heap.size w0:=(aK _).w _ _;have hT : ∀ n d : Nat,TabOkW prog jJ w0.heap.size w0:=fun _ _ => iA.w _ _
 refine dS func105 (c:=gL) rfl ha (Nat.le_of_ble_eq_true (by kernel_rfl)) fun a w' hA => ?_
 rw [aEl];refine wp_seq (aC aG hT hG (aRJ _ N N') trivial hA fun a w' hA => ?_);refine wp_seq (aC aG hT (nM (x:=aLu N (cD (fun _ => bG uB) 0 N)) (jL _) fun _ _ _ h => h.elim) (aRI _ (cD (fun _ => bG uB) 0 N) N N') ⟨Lm (t:=167) (e:=171) (z:=bG uB) (v:=.int .u64 0) (n:=24) (by8:=192) (by kernel_rfl) (by kernel_rfl) rfl aDj (by omega) (by omega) (by omega),trivial⟩ hA fun a w' hA => ?_);refine wp_seq (wp_seq (aC aG hT hG (aRH _ _ N N') trivial hA fun a w' hA => ?_));refine wp_block ?_;rw [← QH (fun j => bG (AU ps j))] at hA;refine Code.wp_mono (fun e a w h => ?_) (h a w' hA);cases e with
 | exit id =>
  cases id with
  | zero => exact h
  | succ k => exact h.elim
 | ret => exact h
 | _ => exact h.elim
theorem An {w0 : World} {N N' : Nat} {ps : Nat → iX} {i : Nat} (hi : i < N) (hN2 : N ≤ 65536) (h : (fG (ps i)).1 = 0) : Ok prog w0.heap.size w0 f105.ntmps tR (tZ (cD (fun j => jN (ps j)) 0 N) (mW (fun j => bG (AU ps j)) (bG uB) N i) N N' i) .nrm (tZ (cD (fun j => jN (ps j)) 0 N) (mW (fun j => bG (AU ps j)) (bG uB) N (i + 1)) N N' (i + 1)) :=
 ⟨_,_,_,_,nM (x:=aJn i (ps i) _) (jL _) (fun _ _ _ h => h.elim),fun _ _ => iA.w _ _,aRK _ _ (mW (fun j => bG (AU ps j)) (bG uB) N (i + 1)) N N' i (ps i),bX hi,rfl,hi,lS (f:=fun j => jN (ps j)) (c:=17) (fun j => rfl) hi (Nat.zero_add _),GJ h,rfl,hi,wW (f:=fun j => bG (AU ps j)) (c:=24) (fun j => rfl) rfl hi (Nat.zero_add _),kQ (k:=1) (by omega),trivial⟩
theorem aEk {w0 : World} {args : List Value} {N N' : Nat} {ps : Nat → iX} (ha : bR w0 [.v (.fl fA),.s (cD (fun j => jN (ps j)) 0 N) N N'] args) (hN2 : N ≤ 65536) (h : gU ps N = 0) : Calls prog 105 args.toArray w0 (fun e w' => FR.ok ⟨cD (fun j => bG (AU ps j)) 0 N,N,N,[.im (.int .i64 0)]⟩ w0 e w'):=by
 have hG : cN prog (qG prog) w0.heap.size w0:=(aK _).w _ _;have hT : ∀ n d : Nat,TabOkW prog jJ w0.heap.size w0:=fun _ _ => iA.w _ _
 refine NJ ha hN2 fun a w hA => ?_
 refine jV aG (fun i => tZ (cD (fun j => jN (ps j)) 0 N) (mW (fun j => bG (AU ps j)) (bG uB) N i) N N' i) N (fun i hi => An hi hN2 (RG h i hi)) (.ex 0) (by simp) (tZ (cD (fun j => jN (ps j)) 0 N) (cD (fun j => bG (AU ps j)) 0 N) N N' N) ?_ hA fun a w hA => ?_
 ·rw [← QG (fun j => bG (AU ps j)) (bG uB) N];exact ⟨_,_,_,_,hG,hT,aJp _ _ N N' N,eI (Nat.le_refl _),trivial⟩
 ·show (cB (cB (cB gL))).wp _ _ _ _;exact aC aG hT hG (aEj _ _ N N' N) trivial hA fun a w' hA => MI (r:=⟨cD (fun j => bG (AU ps j)) 0 N,N,N,[.im (.int .i64 0)]⟩) (by kernel_rfl) hA
theorem aEm {w0 : World} {args : List Value} {N N' : Nat} {ps : Nat → iX} (ha : bR w0 [.v (.fl fA),.s (cD (fun j => jN (ps j)) 0 N) N N'] args) (hN2 : N ≤ 65536) (h : gU ps N ≠ 0) : Good prog 105 (.many [.im (.slice none 0 0),.im (.int .i64 (gU ps N))]) args w0:=by
 have hG : cN prog (qG prog) w0.heap.size w0:=(aK _).w _ _;have hT : ∀ n d : Nat,TabOkW prog jJ w0.heap.size w0:=fun _ _ => iA.w _ _
 obtain ⟨j,hj,h1,h2,h3⟩:=ZR h;rw [h3];refine NJ ha hN2 fun a w hA => ?_
 refine jV aG (fun i => tZ (cD (fun j => jN (ps j)) 0 N) (mW (fun j => bG (AU ps j)) (bG uB) N i) N N' i) j (fun i hi => An (by omega) hN2 (h1 i hi)) .rt (by simp) [.slot 4 (.im (.slice none 0 0)),.slot 5 (.im (.int .i64 (fG (ps j)).1))] ?_ hA fun a w hA => ?_
 ·exact ⟨_,_,_,_,nM (x:=aJn j (ps j) _) (jL _) (fun _ _ _ h => h.elim),fun _ _ => iA.w _ _,aRL _ _ N N' j (ps j),bX hj,rfl,hj,lS (f:=fun j => jN (ps j)) (c:=17) (fun j => rfl) hj (Nat.zero_add _),uL h2,trivial⟩
 ·exact eJ (l:=[.im (.slice none 0 0),.im (.int .i64 (fG (ps j)).1)]) (r:=.many [.im (.slice none 0 0),.im (.int .i64 (fG (ps j)).1)]) (by kernel_rfl) (by kernel_rfl) hA
def EF (pt : Nat → J2) : Nat → J2
 | 0 => uB
 | i + 1 => dZ F2 (EF pt i) (pt i)
def EH (L : List At) (N N' i : Nat) (s : J2) : List Fact:=[.row 0 false L,.slot 2 (.pt 2 0),.row 2 true (bG uB),.slot 3 (.pt 3 0),.row 3 true (bG s),.slot 6 (.sl 0 0 N N'),.slot 7 (.im (iI N)),.slot 8 (.im (iI i))]
def gY : Code:=(f106.body).getD .skip
def NY : Code:=pO (pO (cB (cA (cB (cB gY)))))
theorem Wj : gY = .seq (cA gY) (.seq (cA (cB gY)) (.seq (.seq (cA (cA (cB (cB gY)))) (.block 0 (.loop NY))) (cB (cB (cB gY))))):=by kernel_rfl
def aMm (L : List At) (N N' : Nat) : List Fact:=[.slot 0 (.sl 0 0 N N'),.row 0 false L,.slot 2 (.pt 2 0),.row 2 true (bG uB)]
def aMk (L : List At) (N N' : Nat) : List Fact:=[.slot 0 (.sl 0 0 N N'),.row 0 false L,.slot 2 (.pt 2 0),.row 2 true (bG uB),.slot 3 (.pt 3 0),.row 3 true (bG uB)]
theorem aMq (L : List At) (N N' : Nat) : aY prog (qG prog) f106.ntmps (AF fun _ => none) 40 (cA gY) (kV 0 [.s L N N']) (aMm L N N') = some ([],.nrm,aMm L N N'):=by kernel_rfl
theorem aMp (L : List At) (N N' : Nat) : aY prog (qG prog) f106.ntmps (AF fun _ => none) 40 (cA (cB gY)) (aMm L N N') (aMk L N N') = some ([],.nrm,aMk L N N'):=by kernel_rfl
theorem aMo (L : List At) (N N' : Nat) : aY prog (qG prog) f106.ntmps (AF fun _ => none) 40 (cA (cA (cB (cB gY)))) (aMk L N N') (EH L N N' 0 uB) = some ([],.nrm,EH L N N' 0 uB):=by kernel_rfl
def aSY (i : Nat) (p : J2) : Ext:={ TO (fun _ _ _ => False) with idx:=assoc [(10,i)],ld:=assoc [(11,bG p)] }
theorem aMr (L : List At) (N N' i : Nat) (s p : J2) : aY prog (qX prog (aSY i p)) f106.ntmps (AF (assoc [(9,.bool true),(15,iI (i + 1))])) 40 NY (EH L N N' i s) (EH L N N' (i + 1) (dZ F2 s p)) = some ([aI .lss .i64 (Int.ofNat i) (Int.ofNat N) = some (.bool true),Int.ofNat i = Int.ofNat i,i < N,fN L (0 + i * 24) 24 = some (bG p),aI .add .i64 (Int.ofNat i) 1 = some (iI (i + 1))],.nrm,EH L N N' (i + 1) (dZ F2 s p)):=by kernel_rfl
theorem aFh (L : List At) (N N' i : Nat) (s : J2) : aY prog (qG prog) f106.ntmps (AF (assoc [(9,.bool false)])) 40 NY (EH L N N' i s) (EH L N N' i s) = some ([aI .lss .i64 (Int.ofNat i) (Int.ofNat N) = some (.bool false)],.ex 0,EH L N N' i s):=by kernel_rfl
theorem Wi (L : List At) (N N' i : Nat) (s : J2) : aY prog (qG prog) f106.ntmps (AF fun _ => none) 40 (cB (cB (cB gY))) (EH L N N' i s) [.slot 2 (.pt 2 0),.row 2 true (bG s)] = some ([],.rt,[.slot 2 (.pt 2 0),.row 2 true (bG s)]):=by kernel_rfl
theorem Ot {w0 : World} {args : List Value} {N N' : Nat} {pt : Nat → J2} (ha : bR w0 [.s (cD (fun j => bG (pt j)) 0 N) N N'] args) (hN2 : N ≤ 65536) : Good prog 106 (.one (.fl (bG (EF pt N)))) args w0:=by
 have hG : cN prog (qG prog) w0.heap.size w0:=(aK _).w _ _;have hT : ∀ n d : Nat,TabOkW prog jJ w0.heap.size w0:=fun _ _ => iA.w _ _
 refine dS func106 (c:=gY) rfl ha (Nat.le_of_ble_eq_true (by kernel_rfl)) fun a w' hA => ?_
 rw [Wj];refine wp_seq (aC aG hT hG (aMq _ N N') trivial hA fun a w' hA => ?_);refine wp_seq (aC aG hT hG (aMp _ N N') trivial hA fun a w' hA => ?_);refine wp_seq (wp_seq (aC aG hT hG (aMo _ N N') trivial hA fun a w' hA => ?_));refine wp_block ?_;refine jV aG (fun i => EH (cD (fun j => bG (pt j)) 0 N) N N' i (EF pt i)) N (fun i hi => ?_) (.ex 0) (by simp) (EH (cD (fun j => bG (pt j)) 0 N) N N' N (EF pt N)) ?_ hA fun a w' hA => ?_
 ·exact ⟨_,_,_,_,nM (x:=aSY i (pt i)) (jL _) (fun _ _ _ h => h.elim),hT,aMr _ N N' i _ (pt i),bX hi,rfl,hi,lS (f:=fun j => bG (pt j)) (c:=24) (fun j => rfl) hi (Nat.zero_add _),kQ (k:=1) (by omega),trivial⟩
 ·exact ⟨_,_,_,_,hG,hT,aFh _ N N' N _,eI (Nat.le_refl _),trivial⟩
 ·show (cB (cB (cB gY))).wp _ _ _ _;exact aC aG hT hG (Wi _ N N' N _) trivial hA fun a w' hA => eJ (l:=[.fl (bG (EF pt N))]) (r:=.one (.fl (bG (EF pt N)))) (by kernel_rfl) (by kernel_rfl) hA
def EK (pt : Nat → J2) (x : Nat → Nat) (N : Nat) : J2:=Te (fun p => MX pt x p N) (mD x N / 4 + 1) (mD x N / 4 + 1)
def aPW (pt : Nat → J2) (x : Nat → Nat) (N : Nat) : kZ
 | [.s LP n1 n2,.s LX n3 n4] => some ([aA LP = aA (cD (fun j => bG (pt j)) 0 N),aA LX = aA (cD (fun j => [.q (x j)]) 0 N),n1 = N,n3 = N,N ≤ 65536],.one (.fl (bG (EK pt x N))))
 | _ => none
theorem aIv {w : World} {pt : Nat → J2} {x : Nat → Nat} {N : Nat} : ∀ cs pre r,aPW pt x N cs = some (pre,r) → aZ pre → ∀ (args : List Value),bR w cs args → Good prog 193 r args w:=by
 intro cs pre r hg hq args ha;unfold aPW at hg;split at hg
 ·rename_i LP n1 n2 LX n3 n4;cases hg;obtain ⟨h1,h2,rfl,rfl,h5,_⟩:=hq
  match args,ha with
  | [u,v],ha =>
   obtain ⟨b1,o1,e1,hb1,hr1⟩:=ha.1;obtain ⟨b2,o2,e2,hb2,hr2⟩:=ha.2.1;subst e1; subst e2;refine Uu h1 ⟨hb1,hr1⟩ (fun j hj => ⟨hb2,?_⟩) (Nat.le_refl _) h5 (by omega);rw [h2] at hr2;exact mB (f:=fun j => [At.q (x j)]) (c:=4) (fun _ => rfl) hj hr2
  | [],ha => exact ha.elim
  | [_],ha => exact ha.2.elim
  | _ :: _ :: _ :: _,ha => exact ha.2.2.elim
 ·cases hg
theorem aFV (LP LX : List At) (n1 n2 n3 n4 N : Nat) (pt : Nat → J2) (x : Nat → Nat) : aX prog (qG prog) (fun _ => ⟨fun _ => (jJ).add 193 (aPW pt x N),fun _ => true,assoc [(7,.bool true)]⟩) f153 40 [.s LP n1 n2,.s LX n3 n4] = some ([aI .lss .i64 (Int.ofNat n1) 32 = some (.bool true),aA LP = aA (cD (fun j => bG (pt j)) 0 N),aA LX = aA (cD (fun j => [.q (x j)]) 0 N),n1 = N,n3 = N,N ≤ 65536],.one (.fl (bG (EK pt x N)))):=by kernel_rfl
def aPM (pt : Nat → J2) (x : Nat → Nat) (N : Nat) : kZ
 | [.s LP n1 n2,.s LX n3 n4] => some ([aA LP = aA (cD (fun j => bG (pt j)) 0 N),aA LX = aA (cD (fun j => [.q (x j)]) 0 N),n1 = N,n3 = N,N < 32],.one (.fl (bG (EK pt x N))))
 | _ => none
theorem aIm {w : World} {pt : Nat → J2} {x : Nat → Nat} {N : Nat} : ∀ cs pre r,aPM pt x N cs = some (pre,r) → aZ pre → ∀ (args : List Value),bR w cs args → Good prog 153 r args w:=by
 intro cs pre r hg hq args ha;unfold aPM at hg;split at hg
 ·rename_i LP n1 n2 LX n3 n4;cases hg;obtain ⟨h1,h2,h3,h4,h5,_⟩:=hq;exact bD aG (fun _ _ => TabOkW.add (iA.w _ _) func193 (by kernel_rfl) (by kernel_rfl) fun w hw => aIv) ((aK prog).w _ _) func153 (aFV LP LX n1 n2 n3 n4 N pt x) ⟨by rw [h3]; exact bX (n:=32) h5,h1,h2,h3,h4,by omega,trivial⟩ ha
 ·cases hg
def aPY (ps : Nat → iX) (N : Nat) : List CA → Option (List Prop × FR)
 | [.v (.fl l),.s L n1 n2] => some ([aA l = aA fA,aA L = aA (cD (fun j => jN (ps j)) 0 N),n1 = N,N ≤ 65536,gU ps N = 0],⟨cD (fun j => bG (AU ps j)) 0 N,N,N,[.im (.int .i64 0)]⟩)
 | _ => none
def aIz (ps : Nat → iX) (N : Nat) : kZ
 | [.v (.fl l),.s L n1 n2] => some ([aA l = aA fA,aA L = aA (cD (fun j => jN (ps j)) 0 N),n1 = N,N ≤ 65536,gU ps N ≠ 0],.many [.im (.slice none 0 0),.im (.int .i64 (gU ps N))])
 | _ => none
theorem SF {w : World} {ps : Nat → iX} {N n1 n2 : Nat} {l L : List At} (h1 : aA l = aA fA) (h2 : aA L = aA (cD (fun j => jN (ps j)) 0 N)) {args : List Value} (ha : bR w [.v (.fl l),.s L n1 n2] args) : bR w [.v (.fl fA),.s (cD (fun j => jN (ps j)) 0 N) n1 n2] args:=by
 match args,ha with
 | [u,v],ha =>
  obtain ⟨b,o,e,hb,hr⟩:=ha.2.1;refine ⟨?_,⟨b,o,e,hb,by rw [← h2]; exact hr⟩,trivial⟩;show u = .agg (aA fA).toArray;rw [← h1]; exact ha.1
 | [],ha => exact ha.elim
 | [_],ha => exact ha.2.elim
 | _ :: _ :: _ :: _,ha => exact ha.2.2.elim
theorem aIx {ps : Nat → iX} {N : Nat} : ∀ cs pre r,aPY ps N cs = some (pre,r) → aZ pre → ∀ (args : List Value) (w : World),bR w cs args → Calls prog 105 args.toArray w (fun e w' => r.ok w e w'):=by
 intro cs pre r hg hq args w ha;unfold aPY at hg;split at hg
 ·cases hg;obtain ⟨h1,h2,rfl,h4,h5,_⟩:=hq;exact aEk (SF h1 h2 ha) h4 h5
 ·cases hg
theorem Md {ps : Nat → iX} {N : Nat} : ∀ cs pre r,aIz ps N cs = some (pre,r) → aZ pre → ∀ (args : List Value) (w : World),bR w cs args → Good prog 105 r args w:=by
 intro cs pre r hg hq args w ha;unfold aIz at hg;split at hg
 ·cases hg;obtain ⟨h1,h2,rfl,h4,h5,_⟩:=hq;exact aEm (SF h1 h2 ha) h4 h5
 ·cases hg
def aPz (pt : Nat → J2) (N : Nat) : kZ
 | [.s L n1 n2] => some ([aA L = aA (cD (fun j => bG (pt j)) 0 N),n1 = N,N ≤ 65536],.one (.fl (bG (EF pt N))))
 | _ => none
theorem aIe {pt : Nat → J2} {N : Nat} : ∀ cs pre r,aPz pt N cs = some (pre,r) → aZ pre → ∀ (args : List Value) (w : World),bR w cs args → Good prog 106 r args w:=by
 intro cs pre r hg hq args w ha;unfold aPz at hg;split at hg
 ·rename_i L n1 n2;cases hg;obtain ⟨h1,rfl,h3,_⟩:=hq;refine Ot (N':=n2) ?_ h3
  match args,ha with
  | [u],ha =>
   obtain ⟨b,o,e,hb,hr⟩:=ha.1;exact ⟨⟨b,o,e,hb,by rw [← h1]; exact hr⟩,trivial⟩
  | [],ha => exact ha.elim
  | _ :: _ :: _,ha => exact ha.2.elim
 ·cases hg
def aLN (ps : Nat → iX) (N : Nat) : Ext:={ TO (fun _ _ _ => False) with T2:=Fr0.add 105 (aPY ps N) }
theorem Ii (ps : Nat → iX) (N : Nat) (w : World) : cN prog (qX prog (aLN ps N)) w.heap.size w:=nM ((jL _).ad func105 aIx) fun _ _ _ h => h.elim
theorem Qu (LG LX : List At) (N n2 n n4 : Nat) (ps : Nat → iX) : aX prog (qG prog) (fun _ => ⟨fun _ => (jJ).add 105 (aIz ps N),fun _ => true,assoc [(15,.bool false),(19,.bool false),(29,.bool true)]⟩) f98 60 [.v (.fl fA),.s LG N n2,.s LX n n4] = some ([aI .neq .i64 (Int.ofNat N) (Int.ofNat n) = some (.bool false),aI .gtr .i64 (Int.ofNat N) 65536 = some (.bool false),aA fA = aA fA,aA LG = aA (cD (fun j => jN (ps j)) 0 N),N = N,N ≤ 65536,gU ps N ≠ 0,aI .neq .i64 (gU ps N) 0 = some (.bool true)],.many [.fl (dF (some (F2.zero,F2.zero))),.im (.int .i64 (gU ps N))]):=by kernel_rfl
theorem Qt (LG LX : List At) (N n2 n n4 : Nat) (ps : Nat → iX) (x : Nat → Nat) : aX prog (qX prog (aLN ps N)) (fun _ => ⟨fun _ => (jJ).add 153 (aPM (AU ps) x N),fun _ => true,assoc [(15,.bool false),(19,.bool false)]⟩) f98 60 [.v (.fl fA),.s LG N n2,.s LX n n4] = some ([aI .neq .i64 (Int.ofNat N) (Int.ofNat n) = some (.bool false),aI .gtr .i64 (Int.ofNat N) 65536 = some (.bool false),aA fA = aA fA,aA LG = aA (cD (fun j => jN (ps j)) 0 N),N = N,N ≤ 65536,gU ps N = 0,aA (cD (fun j => bG (AU ps j)) 0 N) = aA (cD (fun j => bG (AU ps j)) 0 N),aA LX = aA (cD (fun j => [.q (x j)]) 0 N),N = N,n = N,N < 32],.many [.fl (dF (fM F2 dR (EK (AU ps) x N))),.im (.int .i64 0)]):=by kernel_rfl
theorem Qd (LG : List At) (N n2 : Nat) (ps : Nat → iX) : aX prog (qG prog) (fun _ => ⟨fun _ => (jJ).add 105 (aIz ps N),fun _ => true,assoc [(11,.bool false),(20,.bool true)]⟩) f50 60 [.v (.fl fA),.s LG N n2] = some ([aI .gtr .i64 (Int.ofNat N) 65536 = some (.bool false),aA fA = aA fA,aA LG = aA (cD (fun j => jN (ps j)) 0 N),N = N,N ≤ 65536,gU ps N ≠ 0,aI .neq .i64 (gU ps N) 0 = some (.bool true)],.many [.fl (dF (some (F2.zero,F2.zero))),.im (.int .i64 (gU ps N))]):=by kernel_rfl
theorem Qc (LG : List At) (N n2 : Nat) (ps : Nat → iX) : aX prog (qX prog (aLN ps N)) (fun _ => ⟨fun _ => (jJ).add 106 (aPz (AU ps) N),fun _ => true,assoc [(11,.bool false)]⟩) f50 60 [.v (.fl fA),.s LG N n2] = some ([aI .gtr .i64 (Int.ofNat N) 65536 = some (.bool false),aA fA = aA fA,aA LG = aA (cD (fun j => jN (ps j)) 0 N),N = N,N ≤ 65536,gU ps N = 0,aA (cD (fun j => bG (AU ps j)) 0 N) = aA (cD (fun j => bG (AU ps j)) 0 N),N = N,N ≤ 65536],.many [.fl (dF (fM F2 dR (EF (AU ps) N))),.im (.int .i64 0)]):=by kernel_rfl
def kJ (ps : Nat → iX) (x : Nat → Nat) (N : Nat) : Pt Q2 × Int:=if gU ps N ≠ 0 then (some (F2.zero,F2.zero),gU ps N) else (fM F2 dR (EK (AU ps) x N),0)
theorem Tn {w0 : World} {args : List Value} {LG LX : List At} {N n2 n4 : Nat} {ps : Nat → iX} {x : Nat → Nat} (h1 : aA LG = aA (cD (fun j => jN (ps j)) 0 N)) (h2 : aA LX = aA (cD (fun j => [.q (x j)]) 0 N)) (hN : N < 32) (ha : bR w0 [.v (.fl fA),.s LG N n2,.s LX N n4] args) : Good prog 98 (.many [.fl (dF (kJ ps x N).1),.im (.int .i64 (kJ ps x N).2)]) args w0:=by
 have g1 : aI .neq .i64 (Int.ofNat N) (Int.ofNat N) = some (.bool false):=by rw [aBc,decide_eq_false (by simp)]
 have g2 : aI .gtr .i64 (Int.ofNat N) 65536 = some (.bool false):=by
  have:=BB (i:=N) (n:=65536);rw [decide_eq_false (by omega)] at this;exact this
 unfold kJ
 by_cases h : gU ps N = 0
 ·rw [if_neg (fun q => q h)];exact bD aG (fun _ _ => TabOkW.add (iA.w _ _) func153 (by kernel_rfl) (by kernel_rfl) fun w hw => aIm) (Ii ps N w0) func98 (Qt LG LX N n2 N n4 ps x) ⟨g1,g2,rfl,h1,rfl,by omega,h,rfl,h2,rfl,rfl,hN,trivial⟩ ha
 ·rw [if_pos h];exact bD aG (fun _ _ => (iA.ad func105 Md).w _ _) ((aK prog).w _ _) func98 (Qu LG LX N n2 N n4 ps) ⟨g1,g2,rfl,h1,rfl,by omega,h,uL h,trivial⟩ ha
def oN (ps : Nat → iX) (N : Nat) : Pt Q2 × Int:=if gU ps N ≠ 0 then (some (F2.zero,F2.zero),gU ps N) else (fM F2 dR (EF (AU ps) N),0)
theorem Pc {w0 : World} {args : List Value} {LG : List At} {N n2 : Nat} {ps : Nat → iX} (h1 : aA LG = aA (cD (fun j => jN (ps j)) 0 N)) (hN : N ≤ 65536) (ha : bR w0 [.v (.fl fA),.s LG N n2] args) : Good prog 50 (.many [.fl (dF (oN ps N).1),.im (.int .i64 (oN ps N).2)]) args w0:=by
 have g2 : aI .gtr .i64 (Int.ofNat N) 65536 = some (.bool false):=by
  have:=BB (i:=N) (n:=65536);rw [decide_eq_false (by omega)] at this;exact this
 unfold oN
 by_cases h : gU ps N = 0
 ·rw [if_neg (fun q => q h)];exact bD aG (fun _ _ => (iA.ad func106 aIe).w _ _) (Ii ps N w0) func50 (Qc LG N n2 ps) ⟨g2,rfl,h1,rfl,hN,h,rfl,rfl,hN,trivial⟩ ha
 ·rw [if_pos h];exact bD aG (fun _ _ => (iA.ad func105 Md).w _ _) ((aK prog).w _ _) func50 (Qd LG N n2 ps) ⟨g2,rfl,h1,rfl,hN,h,uL h,trivial⟩ ha
def p2 {A : Type} (p q : A) : Nat → A | 0 => p | _ + 1 => q
def p3 {A : Type} (p q r : A) : Nat → A | 0 => p | 1 => q | _ + 2 => r
def aPE (ps : Nat → mI) (N : Nat) : kZ
 | [.v (.fl l),.s L n1 n2] => some ([aA l = aA gE,aA L = aA (cD (fun j => qZ (ps j)) 0 N),n1 = N,N ≤ 65536],.many [.fl (fB (oO ps N).1),.im (.int .i64 (oO ps N).2)])
 | _ => none
theorem aIh {ps : Nat → mI} {N : Nat} : ∀ cs pre r,aPE ps N cs = some (pre,r) → aZ pre → ∀ (args : List Value) (w : World),bR w cs args → Good prog 48 r args w:=by
 intro cs pre r hg hq args w ha;unfold aPE at hg;split at hg
 ·cases hg;obtain ⟨h1,h2,rfl,h4,_⟩:=hq;exact Pd rfl h4 (SG h1 h2 ha)
 ·cases hg
def aPP (ps : Nat → mI) (x : Nat → Nat) (N : Nat) : kZ
 | [.v (.fl l),.s L n1 n2,.s X n3 n4] => some ([aA l = aA gE,aA L = aA (cD (fun j => qZ (ps j)) 0 N),aA X = aA (cD (fun j => [.q (x j)]) 0 N),n1 = N,n3 = N,N < 32],.many [.fl (fB (oP ps x N).1),.im (.int .i64 (oP ps x N).2)])
 | _ => none
theorem aIp {ps : Nat → mI} {x : Nat → Nat} {N : Nat} : ∀ cs pre r,aPP ps x N cs = some (pre,r) → aZ pre → ∀ (args : List Value) (w : World),bR w cs args → Good prog 96 r args w:=by
 intro cs pre r hg hq args w ha;unfold aPP at hg;split at hg
 ·rename_i l L n1 n2 X n3 n4;cases hg;obtain ⟨h1,h2,h3,rfl,rfl,h6,_⟩:=hq;refine To (LG:=L) (LX:=X) (n2:=n2) (n4:=n4) h2 h3 h6 ?_
  match args,ha with
  | [u,v,t],ha =>
   refine ⟨?_,ha.2.1,ha.2.2.1,trivial⟩;show u = .agg (aA gE).toArray;rw [← h1]; exact ha.1
  | [],ha => exact ha.elim
  | [_],ha => exact ha.2.elim
  | [_,_],ha => exact ha.2.2.elim
  | _ :: _ :: _ :: _ :: _,ha => exact ha.2.2.2.elim
 ·cases hg
theorem Sa (p q : mI) : aX prog (qG prog) (fun _ => ⟨fun s => (qV true).add 48 (aPE (p2 p q) 2),fun s => true,fun _ => none⟩) f18 60 [.v (.fl (qZ p)),.v (.fl (qZ q))] = some ([aA gE = aA gE,aA (qZ p ++ qZ q) = aA (cD (fun j => qZ (p2 p q j)) 0 2),2 = 2,2 ≤ 65536],.many [.fl (fB (oO (p2 p q) 2).1),.im (.int .i64 (oO (p2 p q) 2).2)]):=by kernel_rfl
theorem Ry (p : mI) (n : Nat) : aX prog (qG prog) (fun _ => ⟨fun s => (qV true).add 96 (aPP (fun _ => p) (fun _ => n) 1),fun s => true,fun _ => none⟩) f44 60 [.v (.fl (qZ p)),.v (.fl [.q n])] = some ([aA gE = aA gE,aA (qZ p) = aA (cD (fun j => qZ p) 0 1),aA [.q n] = aA (cD (fun j => [At.q n]) 0 1),1 = 1,1 = 1,1 < 32],.many [.fl (fB (oP (fun _ => p) (fun _ => n) 1).1),.im (.int .i64 (oP (fun _ => p) (fun _ => n) 1).2)]):=by kernel_rfl
def Nz : Tab:=(qV true).add 18 (g2 rg1 rg1 fun p q => ([],.many [.fl (fB (oO (p2 p q) 2).1),.im (.int .i64 (oO (p2 p q) 2).2)]))
theorem aBa : TabOk prog Nz:=(nR true).ad func18 (eV FA FA fun p q hp args w ha => aB aG (fun _ s => (nR true).ad func48 aIh) (aK prog) func18 (Sa p q) ⟨rfl,rfl,rfl,by omega,trivial⟩ ha)
def Nx : Tab:=(Nz).add 44 (g2 rg1 KW fun p n => ([],.many [.fl (fB (oP (fun _ => p) (fun _ => n) 1).1),.im (.int .i64 (oP (fun _ => p) (fun _ => n) 1).2)]))
theorem aAY : TabOk prog Nx:=(aBa).ad func44 (eV FA fQ fun p n hp args w ha => aB aG (fun _ s => (nR true).ad func96 aIp) (aK prog) func44 (Ry p n) ⟨rfl,rfl,rfl,rfl,rfl,by omega,trivial⟩ ha)
def aPD (ps : Nat → iX) (N : Nat) : kZ
 | [.v (.fl l),.s L n1 n2] => some ([aA l = aA fA,aA L = aA (cD (fun j => jN (ps j)) 0 N),n1 = N,N ≤ 65536],.many [.fl (dF (oN ps N).1),.im (.int .i64 (oN ps N).2)])
 | _ => none
theorem aIg {ps : Nat → iX} {N : Nat} : ∀ cs pre r,aPD ps N cs = some (pre,r) → aZ pre → ∀ (args : List Value) (w : World),bR w cs args → Good prog 50 r args w:=by
 intro cs pre r hg hq args w ha;unfold aPD at hg;split at hg
 ·cases hg;obtain ⟨h1,h2,rfl,h4,_⟩:=hq;exact Pc rfl h4 (SF h1 h2 ha)
 ·cases hg
def aPO (ps : Nat → iX) (x : Nat → Nat) (N : Nat) : kZ
 | [.v (.fl l),.s L n1 n2,.s X n3 n4] => some ([aA l = aA fA,aA L = aA (cD (fun j => jN (ps j)) 0 N),aA X = aA (cD (fun j => [.q (x j)]) 0 N),n1 = N,n3 = N,N < 32],.many [.fl (dF (kJ ps x N).1),.im (.int .i64 (kJ ps x N).2)])
 | _ => none
theorem aIo {ps : Nat → iX} {x : Nat → Nat} {N : Nat} : ∀ cs pre r,aPO ps x N cs = some (pre,r) → aZ pre → ∀ (args : List Value) (w : World),bR w cs args → Good prog 98 r args w:=by
 intro cs pre r hg hq args w ha;unfold aPO at hg;split at hg
 ·rename_i l L n1 n2 X n3 n4;cases hg;obtain ⟨h1,h2,h3,rfl,rfl,h6,_⟩:=hq;refine Tn (LG:=L) (LX:=X) (n2:=n2) (n4:=n4) h2 h3 h6 ?_
  match args,ha with
  | [u,v,t],ha =>
   refine ⟨?_,ha.2.1,ha.2.2.1,trivial⟩;show u = .agg (aA fA).toArray;rw [← h1]; exact ha.1
  | [],ha => exact ha.elim
  | [_],ha => exact ha.2.elim
  | [_,_],ha => exact ha.2.2.elim
  | _ :: _ :: _ :: _ :: _,ha => exact ha.2.2.2.elim
 ·cases hg
theorem Rz (p q : iX) : aX prog (qG prog) (fun _ => ⟨fun s => (qV true).add 50 (aPD (p2 p q) 2),fun s => true,fun _ => none⟩) f19 60 [.v (.fl (jN p)),.v (.fl (jN q))] = some ([aA fA = aA fA,aA (jN p ++ jN q) = aA (cD (fun j => jN (p2 p q j)) 0 2),2 = 2,2 ≤ 65536],.many [.fl (dF (oN (p2 p q) 2).1),.im (.int .i64 (oN (p2 p q) 2).2)]):=by kernel_rfl
theorem Rx (p : iX) (n : Nat) : aX prog (qG prog) (fun _ => ⟨fun s => (qV true).add 98 (aPO (fun _ => p) (fun _ => n) 1),fun s => true,fun _ => none⟩) f46 60 [.v (.fl (jN p)),.v (.fl [.q n])] = some ([aA fA = aA fA,aA (jN p) = aA (cD (fun j => jN p) 0 1),aA [.q n] = aA (cD (fun j => [At.q n]) 0 1),1 = 1,1 = 1,1 < 32],.many [.fl (dF (kJ (fun _ => p) (fun _ => n) 1).1),.im (.int .i64 (kJ (fun _ => p) (fun _ => n) 1).2)]):=by kernel_rfl
def uF (p : iX) : Pt Q2 × Int:=if (rL p.1 p.2.1 p.2.2).1 ≠ 0 then ((some (F2.zero,F2.zero)),(rL p.1 p.2.1 p.2.2).1) else (fM F2 dR (sG F2 (rL p.1 p.2.1 p.2.2).2),0)
def aPL : kZ
 | [.v (.fl l),.v (.fl m)] => match Zh m with
  | some p => some ([aA l = aA fA],.many [.fl (dF (uF p).1),.im (.int .i64 (uF p).2)])
  | none => none
 | _ => none
theorem aIl : ∀ cs pre r,aPL cs = some (pre,r) → aZ pre → ∀ (args : List Value) (w : World),bR w cs args → Good prog 218 r args w:=by
 intro cs pre r hg hq args w ha;unfold aPL at hg;split at hg
 ·rename_i l m;split at hg
  ·rename_i p hp;cases hg;obtain ⟨h1,_⟩:=hq;have hb : bR w [.v (.fl fA),.v (.fl (jN p))] args:=by
    match args,ha with
    | [u,v],ha =>
     refine ⟨?_,?_,trivial⟩
     ·show u = .agg (aA fA).toArray;rw [← h1]; exact ha.1
     ·show v = .agg (aA (jN p)).toArray;rw [← pU m p hp]; exact ha.2.1
    | [],ha => exact ha.elim
    | [_],ha => exact ha.2.elim
    | _ :: _ :: _ :: _,ha => exact ha.2.2.elim
   unfold uF
   by_cases h : (rL p.1 p.2.1 p.2.2).1 = 0
   ·rw [if_neg (fun q => q h)];exact aB aG (fun _ s => nR _) (aK prog) func218 (WA true p) ⟨GJ h,trivial⟩ hb
   ·rw [if_pos h];exact aB aG (fun _ s => nR _) (aK prog) func218 (VZ true p) ⟨uL h,trivial⟩ hb
  ·cases hg
 ·cases hg
theorem Rw (p : iX) : aX prog (qG prog) (fun _ => ⟨fun s => (qV true).add 218 aPL,fun s => true,fun _ => none⟩) f174 60 [.v (.fl (jN p))] = some ([aA fA = aA fA],.many [.fl (dF (uF p).1),.im (.int .i64 (uF p).2)]):=by kernel_rfl
def Ny : Tab:=(Nx).add 19 (g2 Zh Zh fun p q => ([],.many [.fl (dF (oN (p2 p q) 2).1),.im (.int .i64 (oN (p2 p q) 2).2)]))
theorem aAZ : TabOk prog Ny:=(aAY).ad func19 (eV pU pU fun p q hp args w ha => aB aG (fun _ s => (nR true).ad func50 aIg) (aK prog) func19 (Rz p q) ⟨rfl,rfl,rfl,by omega,trivial⟩ ha)
def Nw : Tab:=(Ny).add 46 (g2 Zh KW fun p n => ([],.many [.fl (dF (kJ (fun _ => p) (fun _ => n) 1).1),.im (.int .i64 (kJ (fun _ => p) (fun _ => n) 1).2)]))
theorem aAX : TabOk prog Nw:=(aAZ).ad func46 (eV pU fQ fun p n hp args w ha => aB aG (fun _ s => (nR true).ad func98 aIo) (aK prog) func46 (Rx p n) ⟨rfl,rfl,rfl,rfl,rfl,by omega,trivial⟩ ha)
def Nv : Tab:=(Nw).add 174 (g1 Zh fun p => ([],.many [.fl (dF (uF p).1),.im (.int .i64 (uF p).2)]))
theorem YN : TabOk prog Nv:=(aAX).ad func174 (bJ pU fun p hp args w ha => aB aG (fun _ s => (nR true).ad func218 aIl) (aK prog) func174 (Rw p) ⟨rfl,trivial⟩ ha)
open Classical
section
variable {R : Type} {K : CR R} {inv : R → R} {b : R}
def Rp (E : EC K inv b) (p : Jc R) (P : {p : Pt R // On K b p}) : Prop:=fM K inv p = P.1
theorem Rp.on {E : EC K inv b} {p : Jc R} {P : {p : Pt R // On K b p}} (h : Rp E p P) : On K b (fM K inv p):=by
 rw [show fM K inv p = P.1 from h]; exact P.2
theorem Rp.plus {E : EC K inv b} {p q : Jc R} {P Q : {p : Pt R // On K b p}} (h : Rp E p P) (g : Rp E q Q) : Rp E (dZ K p q) (E.grp.add P Q):=by
 show fM K inv (dZ K p q) = hJ K inv P.1 Q.1;rw [ZF E h.on g.on,show fM K inv p = P.1 from h,show fM K inv q = Q.1 from g]
theorem Rp.rplus {E : EC K inv b} {p q : Jc R} {P Q : {p : Pt R // On K b p}} (h : Rp E p P) (g : Rp E q Q) : Rp E (rplus K p q) (E.grp.add P Q):=by
 show fM K inv (Ex.rplus K p q) = hJ K inv P.1 Q.1;rw [Ts E h.on g.on,show fM K inv p = P.1 from h,show fM K inv q = Q.1 from g]
theorem Rp.dbl {E : EC K inv b} {p : Jc R} {P : {p : Pt R // On K b p}} (h : Rp E p P) : Rp E (cH K p) (E.grp.add P P):=by
 show fM K inv (cH K p) = hJ K inv P.1 P.1;rw [QK E h.on,show fM K inv p = P.1 from h]
theorem Rp.neg {E : EC K inv b} {p : Jc R} {P : {p : Pt R // On K b p}} (h : Rp E p P) : Rp E (sG K p) (E.grp.neg P):=by
 show fM K inv (sG K p) = KY K P.1;rw [aHT,show fM K inv p = P.1 from h]
theorem Rp.zero {E : EC K inv b} {p : Jc R} (h : p.2.2 = K.zero) : Rp E p E.grp.zero:=dE h
theorem EC.inv_one (E : EC K inv b) : inv K.one = K.one:=by
 have:=E.F.inv K.one E.F.ne
 rwa [K.one_mul] at this
theorem EC.jto_one (E : EC K inv b) (x y : R) : fM K inv (x,y,K.one) = some (x,y):=by
 rw [dQ (p:=(x,y,K.one)) E.F.ne];refine congrArg some (Prod.ext ?_ ?_)
 ·show K.mul x (K.mul (inv K.one) (inv K.one)) = x;rw [E.inv_one,K.one_mul,K.mul_one]
 ·show K.mul y (K.mul (K.mul (inv K.one) (inv K.one)) (inv K.one)) = y;rw [E.inv_one,K.one_mul,K.one_mul,K.mul_one]
end
namespace AG
variable {G : Type} (A : AG G)
def tt (P : Nat → G) : Nat → G
 | 0 => A.zero
 | n + 1 => A.add (tt P n) (P n)
end AG
open Go.RowKit
open Classical
theorem YR (c : Nat) (hc : c < FP.M) (h0 : c ≠ 0) (hv : c ^ sB % FP.M ≠ 1) (n : Fq) : F1.mul n (F1.mul n n) ≠ fm c:=fun h => by
 have hv' : n.1 ^ 3 % FP.M = c:=by
  have:=congrArg Fin.val h;have e : n.1 * (n.1 * n.1 % FP.M) % FP.M = c % FP.M:=this;rw [Nat.mul_mod_mod,← Nat.mul_assoc,show n.1 * n.1 * n.1 = n.1 ^ 3 by rw [Nat.pow_succ,Nat.pow_two]] at e;rw [e]; exact Nat.mod_eq_of_lt hc
 have h1 : 0 < n.1:=by
  rcases Nat.eq_zero_or_pos n.1 with h1 | h1
  ·rw [h1] at hv';exact (h0 hv'.symm).elim
  ·exact h1
 have:=Uf h1 n.2;rw [← UJ,Nat.pow_mul,Nat.pow_mod,hv'] at this;exact hv this
theorem aVN : 3 ^ sB % FP.M ≠ 1:=by
 rw [← AT FP.M 256 3 sB (by decide)];exact of_decide_eq_true (by kernel_rfl)
def nb2 : Nat:=21087453498479301738505683583845423561061080261299122796980902361914303298513
theorem aVM : nb2 ^ sB % FP.M ≠ 1:=by
 rw [← AT FP.M 256 nb2 sB (by decide)];exact of_decide_eq_true (by kernel_rfl)
theorem aUy : rK dG = fm nb2:=by decide
section
variable {R : Type} (K : CR R)
theorem Nd {x b : R} (h : K.add (K.mul x (K.mul x x)) b = K.zero) : K.mul (K.neg x) (K.mul (K.neg x) (K.neg x)) = b:=by
 have e : K.mul (K.neg x) (K.mul (K.neg x) (K.neg x)) = K.add (K.neg (K.add (K.mul x (K.mul x x)) b)) b:=aE K (aQ K [x,b]) (.mul (.neg (.v 0)) (.mul (.neg (.v 0)) (.neg (.v 0)))) (.add (.neg (.add (.mul (.v 0) (.mul (.v 0) (.v 0))) (.v 1))) (.v 1)) (by decide);rw [e,h];have z : K.neg K.zero = K.zero:=by have:=K.neg_add K.zero; rwa [K.add_zero] at this
 rw [z,K.zero_add]
end
theorem gK : EC F1 cM (fm 3) where
 F:=⟨Oe,fun x h => xR h⟩
 two:=fun h => absurd (congrArg Fin.val h) (by decide)
 odd:=fun x h => YR 3 (by decide) (by decide) aVN _ (Nd F1 h)
theorem aW : EC F2 dR dG where
 F:=⟨zX.1,fun x h => TH fun e => h (pB e)⟩
 two:=fun h => absurd (congrArg (fun x : Q2 => x.1.1) h) (by decide)
 odd:=fun x h => by
  have h1:=congrArg rK (Nd F2 h);rw [xH,xH,aUy] at h1;exact YR nb2 (by decide) (by decide) aVM _ h1
theorem aLT (x : Nat) : wv x % 18446744073709551616 = fw x 0:=by
 obtain ⟨h0,h1,h2,h3⟩:=dL x;unfold wv aF;omega
theorem tQ (x p : Nat) : lL x p = pJ (xY (wv x) p):=by
 have e : lK x p = xY (wv x) p:=by
  unfold lK xY
  by_cases h : p = 0
  ·rw [if_pos h,if_pos h];unfold Iw;have:=aLT x;omega
  ·rw [if_neg h,if_neg h];generalize wv x / 2 ^ (p * 4 - 1) = y;show y / 18446744073709551616 ^ 0 % 18446744073709551616 % 32 = y % 32;rw [Nat.pow_zero,Nat.div_one];omega
 unfold lL pJ;rw [e]
abbrev C1:={p : Pt Fq // On F1 (fm 3) p}
theorem QM {p : J1} {g : C1} (h : Rp gK p g) : ∀ k,Rp gK (KJ p k) (gK.grp.ns k g)
 | 0 => Rp.zero rfl
 | k + 1 => (QM h k).plus h
theorem Wp {p : J1} {g : C1} (h : Rp gK p g) : ∀ d : Int,Rp gK (Ow p d) (gK.grp.zs d g)
 | .ofNat 0 => Rp.zero rfl
 | .ofNat (k + 1) => QM h (k + 1)
 | .negSucc k => (QM h (k + 1)).neg
theorem Nh {pt : Nat → J1} {g : Nat → C1} {N : Nat} (h : ∀ j,j < N → Rp gK (pt j) (g j)) (x : Nat → Nat) (p : Nat) : ∀ n,n ≤ N → Rp gK (MY pt x p n) (gK.grp.sm g (fun j => pJ (xY (wv (x j)) p)) n)
 | 0,_ => Rp.zero rfl
 | n + 1,hn => by
  have h2:=Wp (h n (by omega)) (lL (x n) p);rw [tQ] at h2;have h1:=Nh h x p n (by omega);have:=h1.plus h2;rw [← tQ] at this;show Rp gK _ (gK.grp.add _ (gK.grp.zs (pJ (xY (wv (x n)) p)) (g n)));rw [← tQ];exact this
theorem Ju {D : Nat → J1} {g : Nat → C1} {N PL : Nat} {x : Nat → Nat} (h : ∀ p,Rp gK (D p) (gK.grp.sm g (fun j => pJ (xY (wv (x j)) p)) N)) : ∀ k,Rp gK (Tg D PL k) (gK.grp.sm g (fun j => Ty (wv (x j)) PL k) N)
 | 0 => by
  show Rp gK _ (gK.grp.sm g (fun _ => 0) N);rw [gK.grp.sm_zero];exact Rp.zero rfl
 | k + 1 => by
  have h1:=(Ju (PL:=PL) h k).dbl.dbl.dbl.dbl.plus (h (PL - 1 - k));rw [gK.grp.sm_two,gK.grp.sm_two,gK.grp.sm_two,gK.grp.sm_two,← gK.grp.sm_add] at h1;rw [gK.grp.sm_congr (d:=fun j => Ty (wv (x j)) PL (k + 1)) (fun j _ => by show _ = 16 * Ty (wv (x j)) PL k + _; omega)] at h1;exact h1
theorem Pb {pt : Nat → J1} {g : Nat → C1} {N : Nat} (h : ∀ j,j < N → Rp gK (pt j) (g j)) (x : Nat → Nat) : Rp gK (EL pt x N) (gK.grp.sm g (fun j => (wv (x j) : Int)) N):=by
 have h1:=Ju (PL:=mD x N / 4 + 1) (fun p => Nh h x p N (Nat.le_refl _)) (mD x N / 4 + 1);rw [gK.grp.sm_congr (d:=fun j => (wv (x j) : Int)) (fun j hj => Mc _ _ (Nat.lt_of_lt_of_le (DD (x j)).1 (Nat.pow_le_pow_right (by omega) (by have:=Fg x N j hj; omega))) (by omega))] at h1;exact h1
theorem UF {pt : Nat → J1} {g : Nat → C1} : ∀ {N : Nat},(∀ j,j < N → Rp gK (pt j) (g j)) → Rp gK (EG pt N) (gK.grp.tt g N)
 | 0,_ => Rp.zero rfl
 | N + 1,h => (UF fun j hj => h j (by omega)).plus (h N (by omega))
def af1 (p : mI) : Pt Fq:=bif p.2.2 then none else some (m1 p.1,m1 p.2.1)
theorem aDL {p : mI} (h : (iL p).1 = 0) : fM F1 cM (iL p).2 = af1 p ∧ On F1 (fm 3) (af1 p):=by
 obtain ⟨x,y,b⟩:=p;have e:=RW x y b;show fM F1 cM (RX x y b).2 = _ ∧ _;have h' : (RX x y b).1 = 0:=h;cases b with
 | true =>
  rw [if_pos rfl] at e;refine ⟨?_,trivial⟩;have : (RX x y true).2.2.2 = F1.zero:=by
   rw [e];split <;> rfl
  exact dE this
 | false =>
  rw [if_neg (by simp)] at e
  by_cases hb : ¬ (JQ x ∧ JQ y)
  ·rw [if_pos hb] at e;rw [e] at h'; cases h'
  ·rw [if_neg hb] at e
   by_cases hy : F1.mul (m1 y) (m1 y) = F1.add (F1.mul (F1.mul (m1 x) (m1 x)) (m1 x)) (fm 3)
   ·rw [if_pos hy] at e;rw [e];refine ⟨gK.jto_one _ _,?_⟩;show F1.mul (m1 y) (m1 y) = F1.add (F1.mul (m1 x) (F1.mul (m1 x) (m1 x))) (fm 3);rw [hy,F1.mul_comm (m1 x) (F1.mul (m1 x) (m1 x))]
   ·rw [if_neg hy] at e;rw [e] at h'; cases h'
def cp1 (p : mI) : C1:=if h : (iL p).1 = 0 then ⟨af1 p,(aDL h).2⟩ else gK.grp.zero
theorem RP {p : mI} (h : (iL p).1 = 0) : (cp1 p).1 = af1 p:=by unfold cp1; rw [dif_pos h]
theorem Nk {p : mI} (h : (iL p).1 = 0) : Rp gK (iL p).2 (cp1 p):=(aDL h).1.trans (RP h).symm
theorem aGl (p : mI) (n : Nat) : oP (fun _ => p) (fun _ => n) 1 = if (iL p).1 ≠ 0 then ((some (F1.zero,F1.zero)),(iL p).1) else ((gK.grp.ns (wv n) (cp1 p)).1,0):=by
 have e1 : gV (fun _ => p) 1 = (iL p).1:=if_neg (fun h => h rfl);unfold oP;rw [e1]
 by_cases h1 : (iL p).1 = 0
 ·simp only [h1,ne_eq,not_true_eq_false,not_false_eq_true,if_true,if_false];have hr:=Pb (pt:=AW (fun _ => p)) (g:=fun _ => cp1 p) (N:=1) (fun j hj => Nk h1) (fun _ => n);have hr' : fM F1 cM (EL (AW (fun _ => p)) (fun _ => n) 1) = (gK.grp.add gK.grp.zero (gK.grp.ns (wv n) (cp1 p))).1:=hr;rw [gK.grp.zadd] at hr';rw [hr']
 ·simp only [h1,ne_eq,not_true_eq_false,not_false_eq_true,if_true,if_false]
abbrev C2:={p : Pt Q2 // On F2 dG p}
theorem QL {p : J2} {g : C2} (h : Rp aW p g) : ∀ k,Rp aW (KH p k) (aW.grp.ns k g)
 | 0 => Rp.zero rfl
 | k + 1 => (QL h k).plus h
theorem Wo {p : J2} {g : C2} (h : Rp aW p g) : ∀ d : Int,Rp aW (Ov p d) (aW.grp.zs d g)
 | .ofNat 0 => Rp.zero rfl
 | .ofNat (k + 1) => QL h (k + 1)
 | .negSucc k => (QL h (k + 1)).neg
theorem Ng {pt : Nat → J2} {g : Nat → C2} {N : Nat} (h : ∀ j,j < N → Rp aW (pt j) (g j)) (x : Nat → Nat) (p : Nat) : ∀ n,n ≤ N → Rp aW (MX pt x p n) (aW.grp.sm g (fun j => pJ (xY (wv (x j)) p)) n)
 | 0,_ => Rp.zero rfl
 | n + 1,hn => by
  have h2:=Wo (h n (by omega)) (lL (x n) p);rw [tQ] at h2;have h1:=Ng h x p n (by omega);have:=h1.plus h2;rw [← tQ] at this;show Rp aW _ (aW.grp.add _ (aW.grp.zs (pJ (xY (wv (x n)) p)) (g n)));rw [← tQ];exact this
theorem Jt {D : Nat → J2} {g : Nat → C2} {N PL : Nat} {x : Nat → Nat} (h : ∀ p,Rp aW (D p) (aW.grp.sm g (fun j => pJ (xY (wv (x j)) p)) N)) : ∀ k,Rp aW (Te D PL k) (aW.grp.sm g (fun j => Ty (wv (x j)) PL k) N)
 | 0 => by
  show Rp aW _ (aW.grp.sm g (fun _ => 0) N);rw [aW.grp.sm_zero];exact Rp.zero rfl
 | k + 1 => by
  have h1:=(Jt (PL:=PL) h k).dbl.dbl.dbl.dbl.plus (h (PL - 1 - k));rw [aW.grp.sm_two,aW.grp.sm_two,aW.grp.sm_two,aW.grp.sm_two,← aW.grp.sm_add] at h1;rw [aW.grp.sm_congr (d:=fun j => Ty (wv (x j)) PL (k + 1)) (fun j _ => by show _ = 16 * Ty (wv (x j)) PL k + _; omega)] at h1;exact h1
theorem Pa {pt : Nat → J2} {g : Nat → C2} {N : Nat} (h : ∀ j,j < N → Rp aW (pt j) (g j)) (x : Nat → Nat) : Rp aW (EK pt x N) (aW.grp.sm g (fun j => (wv (x j) : Int)) N):=by
 have h1:=Jt (PL:=mD x N / 4 + 1) (fun p => Ng h x p N (Nat.le_refl _)) (mD x N / 4 + 1);rw [aW.grp.sm_congr (d:=fun j => (wv (x j) : Int)) (fun j hj => Mc _ _ (Nat.lt_of_lt_of_le (DD (x j)).1 (Nat.pow_le_pow_right (by omega) (by have:=Fg x N j hj; omega))) (by omega))] at h1;exact h1
theorem UE {pt : Nat → J2} {g : Nat → C2} : ∀ {N : Nat},(∀ j,j < N → Rp aW (pt j) (g j)) → Rp aW (EF pt N) (aW.grp.tt g N)
 | 0,_ => Rp.zero rfl
 | N + 1,h => (UE fun j hj => h j (by omega)).plus (h N (by omega))
def af2 (p : iX) : Pt Q2:=bif p.2.2 then none else some (m2 p.1,m2 p.2.1)
theorem aDI {p : iX} (h : (fG p).1 = 0) : fM F2 dR (fG p).2 = af2 p ∧ On F2 dG (af2 p):=by
 obtain ⟨x,y,b⟩:=p;have e:=IL x y b;show fM F2 dR (rL x y b).2 = _ ∧ _;have h' : (rL x y b).1 = 0:=h;cases b with
 | true =>
  rw [if_pos rfl] at e;refine ⟨?_,trivial⟩;have : (rL x y true).2.2.2 = F2.zero:=by
   rw [e];split <;> rfl
  exact dE this
 | false =>
  rw [if_neg (by simp)] at e
  by_cases hb : ¬ (JP x ∧ JP y)
  ·rw [if_pos hb] at e;rw [e] at h'; cases h'
  ·rw [if_neg hb] at e
   by_cases hy : F2.mul (m2 y) (m2 y) = F2.add (F2.mul (F2.mul (m2 x) (m2 x)) (m2 x)) dG
   ·rw [if_pos hy] at e;rw [e];refine ⟨aW.jto_one _ _,?_⟩;show F2.mul (m2 y) (m2 y) = F2.add (F2.mul (m2 x) (F2.mul (m2 x) (m2 x))) dG;rw [hy,F2.mul_comm (m2 x) (F2.mul (m2 x) (m2 x))]
   ·rw [if_neg hy] at e;rw [e] at h'; cases h'
def Up (p : iX) : C2:=if h : (fG p).1 = 0 then ⟨af2 p,(aDI h).2⟩ else aW.grp.zero
theorem IG {p : iX} (h : (fG p).1 = 0) : (Up p).1 = af2 p:=by unfold Up; rw [dif_pos h]
theorem RO {p : iX} (h : (fG p).1 = 0) : Rp aW (fG p).2 (Up p):=(aDI h).1.trans (IG h).symm
theorem aGk (p : iX) (n : Nat) : kJ (fun _ => p) (fun _ => n) 1 = if (fG p).1 ≠ 0 then ((some (F2.zero,F2.zero)),(fG p).1) else ((aW.grp.ns (wv n) (Up p)).1,0):=by
 have e1 : gU (fun _ => p) 1 = (fG p).1:=if_neg (fun h => h rfl);unfold kJ;rw [e1]
 by_cases h1 : (fG p).1 = 0
 ·simp only [h1,ne_eq,not_true_eq_false,not_false_eq_true,if_true,if_false];have hr:=Pa (pt:=AU (fun _ => p)) (g:=fun _ => Up p) (N:=1) (fun j hj => RO h1) (fun _ => n);have hr' : fM F2 dR (EK (AU (fun _ => p)) (fun _ => n) 1) = (aW.grp.add aW.grp.zero (aW.grp.ns (wv n) (Up p))).1:=hr;rw [aW.grp.zadd] at hr';rw [hr']
 ·simp only [h1,ne_eq,not_true_eq_false,not_false_eq_true,if_true,if_false]
theorem aGj (p : iX) : uF p = if (fG p).1 ≠ 0 then ((some (F2.zero,F2.zero)),(fG p).1) else ((aW.grp.neg (Up p)).1,0):=by
 show (if (fG p).1 ≠ 0 then ((some (F2.zero,F2.zero)),(fG p).1) else (fM F2 dR (sG F2 (fG p).2),0)) = _
 by_cases h1 : (fG p).1 = 0
 ·simp only [h1,ne_eq,not_true_eq_false,not_false_eq_true,if_true,if_false];rw [show fM F2 dR (sG F2 (fG p).2) = _ from (RO h1).neg]
 ·simp only [h1,ne_eq,not_true_eq_false,not_false_eq_true,if_true,if_false]
structure Chd {R : Type} (K : CR R) (b : R) (p q s : R × R) (n c : R) : Prop where
 cub : Cub K b p.1 q.1 s.1 n c
 l1 : p.2 = K.add (K.mul n p.1) c
 l2 : q.2 = K.add (K.mul n q.1) c
 l3 : K.neg s.2 = K.add (K.mul n s.1) c
def hgt {R : Type} (K : CR R) (n : R) (p : R × R) : R:=K.sub p.2 (K.mul n p.1)
section
variable {R : Type} {K : CR R} {inv : R → R} {b : R}
theorem RZ (E : EC K inv b) {p q : R × R} (hp : On K b (some p)) (hq : On K b (some q)) (hn : ¬ (p.1 = q.1 ∧ K.add p.2 q.2 = K.zero)) :
  ∃ s,hJ K inv (some p) (some q) = some s ∧ Chd K b p q s (dD K inv p.1 p.2 q.1 q.2) (hgt K (dD K inv p.1 p.2 q.1 q.2) p):=by
 have S:=wK E hp hq hn;refine ⟨_,jC hn,?_⟩;generalize dD K inv p.1 p.2 q.1 q.2 = l at S ⊢;refine ⟨aQF hp S,?_,?_,?_⟩
 ·exact aE K (aQ K [p.2,l,p.1]) (.v 0) (.add (.mul (.v 1) (.v 2)) (.add (.v 0) (.neg (.mul (.v 1) (.v 2))))) (by kernel_rfl)
 ·exact S.h1.trans (aE K (aQ K [p.2,l,q.1,p.1]) (.add (.v 0) (.mul (.v 1) (.add (.v 2) (.neg (.v 3))))) (.add (.mul (.v 1) (.v 2)) (.add (.v 0) (.neg (.mul (.v 1) (.v 3))))) (by kernel_rfl))
 ·exact aE K (aQ K [p.2,l,sx K l p.1 q.1,p.1]) (.neg (.add (.mul (.v 1) (.add (.v 3) (.neg (.v 2)))) (.neg (.v 0)))) (.add (.mul (.v 1) (.v 2)) (.add (.v 0) (.neg (.mul (.v 1) (.v 3))))) (by kernel_rfl)
theorem aXf {A1 A2 A3 A3' h1 h2 h3 h3' : R} (r : K.mul A1 (K.mul A2 A3') = K.mul h1 (K.mul h2 h3')) (u : K.mul A3 A3' = K.one) (w : K.mul h3 h3' = K.one) : K.mul (K.mul A1 A2) h3 = K.mul A3 (K.mul h1 h2) :=
 Ac (K:=K) (c1:=K.mul A3 h3) (c2:=K.neg (K.mul (K.mul A1 A2) h3)) (c3:=K.mul A3 (K.mul h1 h2)) r u w (aE K (aQ K [A1,A2,A3,A3',h1,h2,h3,h3'])
  (.add (.mul (.mul (.v 0) (.v 1)) (.v 6)) (.neg (.mul (.v 2) (.mul (.v 4) (.v 5)))))
  (.add (.add (.mul (.mul (.v 2) (.v 6)) (.add (.mul (.v 0) (.mul (.v 1) (.v 3))) (.neg (.mul (.v 4) (.mul (.v 5) (.v 7)))))) (.mul (.neg (.mul (.mul (.v 0) (.v 1)) (.v 6))) (.add (.mul (.v 2) (.v 3)) (.neg .one)))) (.mul (.mul (.v 2) (.mul (.v 4) (.v 5))) (.add (.mul (.v 6) (.v 7)) (.neg .one)))) (by kernel_rfl))
end
theorem aMG : 3 ^ FM % FP.M ≠ 1:=by
 rw [← AT FP.M 256 3 FM (by decide)];exact of_decide_eq_true (by kernel_rfl)
theorem aOP (n : Fq) : F1.mul n n ≠ fm 3:=fun h => by
 have hv : n.1 ^ 2 % FP.M = 3:=by
  have:=congrArg Fin.val h;have e : n.1 * n.1 % FP.M = 3 % FP.M:=this;rw [Nat.pow_two,e]; decide
 have h0 : 0 < n.1:=by
  rcases Nat.eq_zero_or_pos n.1 with h0 | h0
  ·rw [h0] at hv; exact absurd hv (by decide)
  ·exact h0
 have:=Uf h0 n.2;rw [← QU,Nat.pow_mul,Nat.pow_mod,hv] at this;exact aMG this
theorem oC {p : Fq × Fq} (h : On F1 (fm 3) (some p)) : p.1 ≠ F1.zero:=fun e => by
 have h' : F1.mul p.2 p.2 = F1.add (F1.mul p.1 (F1.mul p.1 p.1)) (fm 3):=h;rw [e,F1.zero_mul,F1.zero_add] at h';exact aOP _ h'
theorem gS {p : Fq × Fq} (h : On F1 (fm 3) (some p)) : p.2 ≠ F1.zero:=gK.y_ne h
theorem lJ {p : Q2 × Q2} (h : On F2 dG (some p)) : p.2 ≠ F2.zero:=aW.y_ne h
theorem aKT {a : aM} (h : a ≠ aD.zero) : jW a ≠ aD.zero:=fun e => by
 have t:=jG h;rw [e,aD.mul_zero] at t;exact jO.1 t.symm
theorem aOY {a : aM} (h : a ≠ aD.zero) : kD a ≠ aD.zero:=fun e => by
 have t:=dB h (aKT h);rw [jG h,DB,e,aD.zero_mul] at t;exact jO.1 t
abbrev Vq:={z : aM // z ≠ aD.zero}
def vg : AG Vq where
 add a b:=⟨aD.mul a.1 b.1,nI a.2 b.2⟩
 neg a:=⟨jW a.1,aKT a.2⟩
 zero:=⟨aD.one,jO.1⟩
 assoc a b c:=Subtype.ext (aD.mul_assoc _ _ _)
 comm a b:=Subtype.ext (aD.mul_comm _ _)
 zadd a:=Subtype.ext (aD.one_mul _)
 nadd a:=Subtype.ext ((aD.mul_comm _ _).trans (jG a.2))
open Classical in
def lv (z : aM) : Vq:=if h : z = aD.zero then vg.zero else ⟨kD z,aOY h⟩
theorem cT {z : aM} (h : z ≠ aD.zero) : (lv z).1 = kD z:=by unfold lv; rw [dif_neg h]
def lnT (t t' : Q2 × Q2) (a : Fq × Fq) : aM:=lT (dD F2 dR t.1 t.2 t'.1 t'.2) (hgt F2 (dD F2 dR t.1 t.2 t'.1 t'.2) t) a.1 a.2
def lnP (p q : Fq × Fq) (t : Q2 × Q2) : aM:=lP (dD F1 cM p.1 p.2 q.1 q.2) (hgt F1 (dD F1 cM p.1 p.2 q.1 q.2) p) t.1 t.2
def Fj : Pt Q2 → Pt Q2 → Pt Fq → Vq
 | some t,some t',some a => lv (lnT t t' a)
 | _,_,_ => vg.zero
def JM : Pt Fq → Pt Fq → Pt Fq → Pt Q2 → Vq
 | some p,some q,some _,some t => lv (lnP p q t)
 | _,_,_,_ => vg.zero
def LV (P : C1) (T T' : C2) : Vq:=Fj T.1 T'.1 P.1
def HV (P P' : C1) (T : C2) : Vq:=JM P.1 P'.1 (gK.grp.add P P').1 T.1
def okT (T T' : C2) : Prop:=T.1 ≠ none ∧ T'.1 ≠ none ∧ (aW.grp.add T T').1 ≠ none
theorem Ar : vg.add vg.zero vg.zero = vg.zero:=vg.zadd _
theorem BG (p' s : Pt Fq) (t : Pt Q2) : JM none p' s t = vg.zero:=by simp only [JM]
theorem BF (p s : Pt Fq) (t : Pt Q2) : JM p none s t = vg.zero:=by cases p <;> simp only [JM]
theorem BE (p p' : Pt Fq) (t : Pt Q2) : JM p p' none t = vg.zero:=by cases p <;> cases p' <;> simp only [JM]
theorem MD (p p' s : Pt Fq) : JM p p' s none = vg.zero:=by cases p <;> cases p' <;> cases s <;> simp only [JM]
theorem YV (t t' : Pt Q2) : Fj t t' none = vg.zero:=by cases t <;> cases t' <;> simp only [Fj]
theorem aKO (t' : Pt Q2) (a : Pt Fq) : Fj none t' a = vg.zero:=by simp only [Fj]
theorem aKN (t : Pt Q2) (a : Pt Fq) : Fj t none a = vg.zero:=by cases t <;> simp only [Fj]
theorem vI {t t' : Q2 × Q2} {a : Fq × Fq} (h : a.2 ≠ F1.zero) : lnT t t' a ≠ aD.zero:=qY h
theorem zP {p q : Fq × Fq} {t : Q2 × Q2} (h : t.2 ≠ F2.zero) : lnP p q t ≠ aD.zero:=sF h
theorem BD (p q s : Fq × Fq) (t : Q2 × Q2) : JM (some p) (some q) (some s) (some t) = lv (lnP p q t):=by simp only [JM]
theorem MC (t t' : Q2 × Q2) (a : Fq × Fq) : Fj (some t) (some t') (some a) = lv (lnT t t' a):=by simp only [Fj]
theorem lC (a b : Vq) : (vg.add a b).1 = aD.mul a.1 b.1:=rfl
theorem DZ : vg.zero.1 = aD.one:=rfl
theorem oB (t t' : Q2 × Q2) (a : Fq × Fq) : lnT t t' a = lT (dD F2 dR t.1 t.2 t'.1 t'.2) (hgt F2 (dD F2 dR t.1 t.2 t'.1 t'.2) t) a.1 a.2:=rfl
theorem vJ (p q : Fq × Fq) (t : Q2 × Q2) : lnP p q t = lP (dD F1 cM p.1 p.2 q.1 q.2) (hgt F1 (dD F1 cM p.1 p.2 q.1 q.2) p) t.1 t.2:=rfl
theorem ZH (P P' : C1) : (gK.grp.add P P').1 = hJ F1 cM P.1 P'.1:=rfl
theorem mY (P P' : C2) : (aW.grp.add P P').1 = hJ F2 dR P.1 P'.1:=rfl
theorem Ea (t : Q2 × Q2) : KY F2 (some t) = some (t.1,F2.neg t.2):=rfl
theorem aNl (t : Fq × Fq) : KY F1 (some t) = some (t.1,F1.neg t.2):=rfl
theorem CY {R : Type} {K : CR R} {inv : R → R} {p q : R × R} (h : hJ K inv (some p) (some q) ≠ none) : ¬ (p.1 = q.1 ∧ K.add p.2 q.2 = K.zero):=fun e => h (kB e)
theorem Lo {p p' s : Pt Fq} {t : Pt Q2} (hp : On F1 (fm 3) p) (hp' : On F1 (fm 3) p') (hs : hJ F1 cM p p' = s) (ht : On F2 dG t) : vg.add (JM p p' s t) (JM p p' s (KY F2 t)) = vg.zero:=by
 match p,p',s,t with
 | none,_,_,_ => rw [BG,BG,Ar]
 | some p,none,_,_ => rw [BF,BF,Ar]
 | some p,some q,none,_ => rw [BE,BE,Ar]
 | some p,some q,some s,none => rw [show KY F2 (none : Pt Q2) = none from rfl,MD,Ar]
 | some p,some q,some s,some t =>
  obtain ⟨s',e1,C⟩:=RZ gK hp hp' (CY (by rw [hs]; exact Option.some_ne_none _));have e2 : s' = s:=by rw [hs] at e1; exact (Option.some.inj e1).symm
  subst e2;have hs' : On F1 (fm 3) (some s'):=by rw [← hs]; exact hp.add gK hp'
  refine Subtype.ext ?_;rw [Ea,BD,BD,lC,DZ];have hy' : F2.neg t.2 ≠ F2.zero:=fun e => lJ ht (by rw [← F2.neg_neg t.2,e,vG])
  rw [cT (zP (lJ ht)),cT (zP (t:=(t.1,F2.neg t.2)) hy')];have r:=YW C.cub (x:=t.1) (y:=t.2) ht (lJ ht) (oC hp) (oC hp') (oC hs');rw [vJ,vJ];dsimp only;exact r
theorem aSk (P P' : C1) (T : C2) : HV P P' (aW.grp.neg T) = vg.neg (HV P P' T):=by
 refine vg.cancel (a:=HV P P' T) ?_;rw [vg.addn];exact Lo P.2 P'.2 rfl T.2
theorem aHL {t t' : Pt Q2} {a : Pt Fq} (ht : On F2 dG t) (ht' : On F2 dG t') (hn : hJ F2 dR t t' ≠ none) (ha : On F1 (fm 3) a) : vg.add (Fj t t' a) (Fj t t' (KY F1 a)) = vg.zero:=by
 match t,t',a with
 | none,_,_ => rw [aKO,aKO,Ar]
 | some t,none,_ => rw [aKN,aKN,Ar]
 | some t,some t',none => rw [show KY F1 (none : Pt Fq) = none from rfl,YV,Ar]
 | some t,some t',some a =>
  obtain ⟨u,e1,C⟩:=RZ aW ht ht' (CY hn);refine Subtype.ext ?_;rw [aNl,MC,MC,lC,DZ];have hy' : F1.neg a.2 ≠ F1.zero:=fun e => gS ha (by rw [← F1.neg_neg a.2,e,bI])
  rw [cT (vI (gS ha)),cT (vI (a:=(a.1,F1.neg a.2)) hy')];have r:=Lp C.cub (a:=a.1) (b:=a.2) ha (gS ha) (oC ha);rw [oB,oB];dsimp only;exact r
theorem Mb {p p' : Pt Fq} {t t' : Pt Q2} (hp : On F1 (fm 3) p) (hp' : On F1 (fm 3) p') (ht : On F2 dG t) (ht' : On F2 dG t') (h1 : t ≠ none) (h2 : t' ≠ none) (h3 : hJ F2 dR t t' ≠ none) :
  vg.add (vg.add (Fj t t' p) (Fj t t' p')) (JM p p' (hJ F1 cM p p') (hJ F2 dR t t')) = vg.add (Fj t t' (hJ F1 cM p p')) (vg.add (JM p p' (hJ F1 cM p p') t) (JM p p' (hJ F1 cM p p') t')):=by
 match p,p',t,t' with
 | _,_,none,_ => exact absurd rfl h1
 | _,_,some _,none => exact absurd rfl h2
 | none,p',some t,some t' => rw [BG,BG,BG,YV,vg.zadd,Ar,show hJ F1 cM none p' = p' from rfl]
 | some p,none,some t,some t' => rw [BF,BF,BF,YV,vg.addz,Ar,show hJ F1 cM (some p) none = some p from rfl]
 | some p,some q,some t,some t' =>
  obtain ⟨u,e1,D⟩:=RZ aW ht ht' (CY h3);have hu : On F2 dG (some u):=by rw [← e1]; exact ht.add aW ht'
  by_cases hn : p.1 = q.1 ∧ F1.add p.2 q.2 = F1.zero
  ·rw [kB hn,BE,BE,BE,YV,Ar,vg.addz,Ar];have e : q = (p.1,F1.neg p.2):=Prod.ext hn.1.symm (by
    have h:=congrArg (fun z => F1.add (F1.neg p.2) z) hn.2;simp only [← F1.add_assoc,F1.add_zero] at h;rw [F1.add_comm (F1.neg p.2) p.2,F1.add_neg,F1.zero_add] at h;exact h)
   rw [e];exact aHL ht ht' h3 hp
  ·obtain ⟨s,e2,C⟩:=RZ gK hp hp' hn;have hs : On F1 (fm 3) (some s):=by rw [← e2]; exact hp.add gK hp'
   rw [e1,e2];refine Subtype.ext ?_;rw [MC,MC,MC,BD,BD,BD,lC,lC,lC,lC];rw [cT (vI (gS hp)),cT (vI (gS hp')),cT (vI (gS hs)),cT (zP (lJ ht)),cT (zP (lJ ht')),cT (zP (lJ hu))];have hy1 : F1.neg s.2 ≠ F1.zero:=fun e => gS hs (by rw [← F1.neg_neg s.2,e,bI])
   have hy2 : F2.neg u.2 ≠ F2.zero:=fun e => lJ hu (by rw [← F2.neg_neg u.2,e,vG])
   have r1:=Tq C.cub D.cub C.l1 C.l2 C.l3 D.l1 D.l2 D.l3 (gS hp) (gS hp') hy1 (lJ ht) (lJ ht') hy2;have r2:=Lp D.cub (a:=s.1) (b:=s.2) hs (gS hs) (oC hs);have r3:=YW C.cub (x:=u.1) (y:=u.2) hu (lJ hu) (oC hp) (oC hp') (oC hs);have r:=aXf r1 r2 r3;rw [oB,oB,oB,vJ,vJ,vJ];exact r
theorem hrel (P P' : C1) (T T' : C2) (ho : okT T T') : vg.add (vg.add (LV P T T') (LV P' T T')) (HV P P' (aW.grp.add T T')) = vg.add (LV (gK.grp.add P P') T T') (vg.add (HV P P' T) (HV P P' T')):=by
 unfold LV HV;rw [ZH,mY];exact Mb P.2 P'.2 T.2 T'.2 ho.1 ho.2.1 ho.2.2
section
variable {A : Type} {K : CR A} {X Y : A}
def Eqw (K : CR A) (a b : A) (S T : A → Prop) : Prop:=(∀ s,S s → ∃ t,T t ∧ K.mul a s = K.mul b t) ∧ (∀ t,T t → ∃ s,S s ∧ K.mul a s = K.mul b t)
theorem Eqw.refl (a : A) (S : A → Prop) : Eqw K a a S S:=⟨fun s h => ⟨s,h,rfl⟩,fun s h => ⟨s,h,rfl⟩⟩
theorem Eqw.symm {a b : A} {S T : A → Prop} (h : Eqw K a b S T) : Eqw K b a T S :=
 ⟨fun t ht => by obtain ⟨s,hs,e⟩:=h.2 t ht; exact ⟨s,hs,e.symm⟩,fun s hs => by obtain ⟨t,ht,e⟩:=h.1 s hs; exact ⟨t,ht,e.symm⟩⟩
theorem Eqw.trans {a b c d : A} {S T U : A → Prop} (h : Eqw K a b S T) (g : Eqw K c d T U) : Eqw K (K.mul c a) (K.mul b d) S U:=by
 have key : ∀ s t u,K.mul a s = K.mul b t → K.mul c t = K.mul d u → K.mul (K.mul c a) s = K.mul (K.mul b d) u:=fun s t u e f => by
  rw [K.mul_assoc,e,K.mul_left_comm,f,K.mul_assoc]
 refine ⟨fun s hs => ?_,fun u hu => ?_⟩
 ·obtain ⟨t,ht,e⟩:=h.1 s hs;obtain ⟨u,hu,f⟩:=g.1 t ht;exact ⟨u,hu,key s t u e f⟩
 ·obtain ⟨t,ht,f⟩:=g.2 u hu;obtain ⟨s,hs,e⟩:=h.2 t ht;exact ⟨s,hs,key s t u e f⟩
theorem Eqw.op {a b : A} {S T : A → Prop} (x y : A) (h : Eqw K a b S T) : Eqw K a b (op K X Y x y S) (op K X Y x y T):=by
 obtain ⟨h1,h2⟩:=h;refine ⟨?_,?_⟩
 ·rintro z ⟨s,s2,hs,hs2,rfl⟩
  obtain ⟨t,ht,e⟩:=h1 s hs;obtain ⟨t2,ht2,f⟩:=h1 s2 hs2;exact ⟨_,⟨t,t2,ht,ht2,rfl⟩,xD e f⟩
 ·rintro z ⟨t,t2,ht,ht2,rfl⟩
  obtain ⟨s,hs,e⟩:=h2 t ht;obtain ⟨s2,hs2,f⟩:=h2 t2 ht2;exact ⟨_,⟨s,s2,hs,hs2,rfl⟩,xD e f⟩
theorem aHc {b x y k : A} (hY : K.mul Y Y = K.add (K.mul X (K.mul X X)) b) (hy : K.mul y y = K.add (K.mul x (K.mul x x)) b) (hk : K.mul k (K.add y y) = K.one) {S : A → Prop} (h : Idl K S) : Eqw K K.one (K.sub X x) (op K X Y x y (op K X Y x (K.neg y) S)) S:=by
 refine ⟨?_,?_⟩
 ·rintro _ ⟨_,_,⟨a,bb,ha,hb,rfl⟩,⟨c,d,hc,hd,rfl⟩,rfl⟩
  refine ⟨(K.add (K.add (K.add (K.mul (K.sub X x) a) (K.mul (K.sub Y (K.neg y)) bb)) (K.mul (K.sub Y y) c)) (K.mul (K.add (K.add (K.mul X X) (K.mul x X)) (K.mul x x)) d)),h.add _ _ (h.add _ _ (h.add _ _ (h.mul _ _ ha) (h.mul _ _ hb)) (h.mul _ _ hc)) (h.mul _ _ hd),?_⟩;rw [K.one_mul];exact jP (K:=K) (c1:=d) (c2:=(K.neg d)) hY hy (aE K (aQ K [X,x,a,Y,y,bb,c,d,b]) (.add (.add (.mul (.add (.v 0) (.neg (.v 1))) (.add (.mul (.add (.v 0) (.neg (.v 1))) (.v 2)) (.mul (.add (.v 3) (.neg (.neg (.v 4)))) (.v 5)))) (.mul (.add (.v 3) (.neg (.v 4))) (.add (.mul (.add (.v 0) (.neg (.v 1))) (.v 6)) (.mul (.add (.v 3) (.neg (.neg (.v 4)))) (.v 7))))) (.neg (.mul (.add (.v 0) (.neg (.v 1))) (.add (.add (.add (.mul (.add (.v 0) (.neg (.v 1))) (.v 2)) (.mul (.add (.v 3) (.neg (.neg (.v 4)))) (.v 5))) (.mul (.add (.v 3) (.neg (.v 4))) (.v 6))) (.mul (.add (.add (.mul (.v 0) (.v 0)) (.mul (.v 1) (.v 0))) (.mul (.v 1) (.v 1))) (.v 7)))))) (.add (.mul (.v 7) (.add (.mul (.v 3) (.v 3)) (.neg (.add (.mul (.v 0) (.mul (.v 0) (.v 0))) (.v 8))))) (.mul (.neg (.v 7)) (.add (.mul (.v 4) (.v 4)) (.neg (.add (.mul (.v 1) (.mul (.v 1) (.v 1))) (.v 8)))))) (by kernel_rfl))
 ·intro t ht;refine ⟨_,⟨_,_,⟨_,_,h.mul t K.zero ht,h.mul t k ht,rfl⟩,⟨_,_,h.mul t (K.neg k) ht,h.mul t K.zero ht,rfl⟩,rfl⟩,?_⟩;rw [K.one_mul];exact gQ (K:=K) (c1:=(K.mul (K.sub X x) t)) hk (aE K (aQ K [X,x,t,Y,y,k]) (.add (.add (.mul (.add (.v 0) (.neg (.v 1))) (.add (.mul (.add (.v 0) (.neg (.v 1))) (.mul .zero (.v 2))) (.mul (.add (.v 3) (.neg (.neg (.v 4)))) (.mul (.v 5) (.v 2))))) (.mul (.add (.v 3) (.neg (.v 4))) (.add (.mul (.add (.v 0) (.neg (.v 1))) (.mul (.neg (.v 5)) (.v 2))) (.mul (.add (.v 3) (.neg (.neg (.v 4)))) (.mul .zero (.v 2)))))) (.neg (.mul (.add (.v 0) (.neg (.v 1))) (.v 2)))) (.mul (.mul (.add (.v 0) (.neg (.v 1))) (.v 2)) (.add (.mul (.v 5) (.add (.v 4) (.v 4))) (.neg .one))) (by kernel_rfl))
theorem aHb {b x1 y1 x2 l : A} (hY : K.mul Y Y = K.add (K.mul X (K.mul X X)) b) (H2 : (K.mul l (K.add y1 (K.add y1 (K.mul l (K.sub x2 x1))))) = (K.add (K.add (K.mul x1 x1) (K.mul x1 x2)) (K.mul x2 x2))) (H3 : (K.mul y1 y1) = (K.add (K.mul x1 (K.mul x1 x1)) b)) (hk : (∃ k,K.mul k (K.add y1 (K.add y1 (K.mul l (K.sub x2 x1)))) = K.one) ∨ (∃ k,K.mul k (K.sub x2 x1) = K.one)) {S : A → Prop} (h : Idl K S) : Eqw K (K.sub X (K.sub (K.sub (K.mul l l) x1) x2)) (K.sub (K.sub Y y1) (K.mul l (K.sub X x1))) (op K X Y x1 y1 (op K X Y x2 (K.add y1 (K.mul l (K.sub x2 x1))) S)) (op K X Y (K.sub (K.sub (K.mul l l) x1) x2) (K.sub (K.mul l (K.sub x1 (K.sub (K.sub (K.mul l l) x1) x2))) y1) S):=by
 have HC:=MF (X:=X) (Y:=Y) hY H2 H3;refine ⟨?_,?_⟩
 ·rintro _ ⟨_,_,⟨a,bb,ha,hb,rfl⟩,⟨c,d,hc,hd,rfl⟩,rfl⟩
  exact ⟨_,⟨(K.add (K.add (K.add (K.mul l a) (K.mul (K.add (K.sub X x1) (K.mul l l)) bb)) (K.mul (K.add (K.sub X x2) (K.mul l l)) c)) (K.mul (K.add (K.add (K.add (K.sub (K.sub Y y1) (K.mul l (K.sub X x1))) (K.mul l (K.sub X x1))) (K.mul l (K.sub X x2))) (K.mul l (K.mul l l))) d)),(K.add (K.add (K.add a (K.mul l bb)) (K.mul l c)) (K.mul (K.mul l l) d)),h.add _ _ (h.add _ _ (h.add _ _ (h.mul _ _ ha) (h.mul _ _ hb)) (h.mul _ _ hc)) (h.mul _ _ hd),h.add _ _ (h.add _ _ (h.add _ _ ha (h.mul _ _ hb)) (h.mul _ _ hc)) (h.mul _ _ hd),rfl⟩,gQ (K:=K) (c1:=(K.add (K.add (K.add a (K.mul l bb)) (K.mul l c)) (K.mul (K.mul l l) d))) HC (aE K (aQ K [X,l,x1,x2,a,Y,y1,bb,c,d]) (.add (.mul (.add (.v 0) (.neg (.add (.add (.mul (.v 1) (.v 1)) (.neg (.v 2))) (.neg (.v 3))))) (.add (.mul (.add (.v 0) (.neg (.v 2))) (.add (.mul (.add (.v 0) (.neg (.v 3))) (.v 4)) (.mul (.add (.v 5) (.neg (.add (.v 6) (.mul (.v 1) (.add (.v 3) (.neg (.v 2))))))) (.v 7)))) (.mul (.add (.v 5) (.neg (.v 6))) (.add (.mul (.add (.v 0) (.neg (.v 3))) (.v 8)) (.mul (.add (.v 5) (.neg (.add (.v 6) (.mul (.v 1) (.add (.v 3) (.neg (.v 2))))))) (.v 9)))))) (.neg (.mul (.add (.add (.v 5) (.neg (.v 6))) (.neg (.mul (.v 1) (.add (.v 0) (.neg (.v 2)))))) (.add (.mul (.add (.v 0) (.neg (.add (.add (.mul (.v 1) (.v 1)) (.neg (.v 2))) (.neg (.v 3))))) (.add (.add (.add (.mul (.v 1) (.v 4)) (.mul (.add (.add (.v 0) (.neg (.v 2))) (.mul (.v 1) (.v 1))) (.v 7))) (.mul (.add (.add (.v 0) (.neg (.v 3))) (.mul (.v 1) (.v 1))) (.v 8))) (.mul (.add (.add (.add (.add (.add (.v 5) (.neg (.v 6))) (.neg (.mul (.v 1) (.add (.v 0) (.neg (.v 2)))))) (.mul (.v 1) (.add (.v 0) (.neg (.v 2))))) (.mul (.v 1) (.add (.v 0) (.neg (.v 3))))) (.mul (.v 1) (.mul (.v 1) (.v 1)))) (.v 9)))) (.mul (.add (.v 5) (.neg (.add (.mul (.v 1) (.add (.v 2) (.neg (.add (.add (.mul (.v 1) (.v 1)) (.neg (.v 2))) (.neg (.v 3)))))) (.neg (.v 6))))) (.add (.add (.add (.v 4) (.mul (.v 1) (.v 7))) (.mul (.v 1) (.v 8))) (.mul (.mul (.v 1) (.v 1)) (.v 9)))))))) (.mul (.add (.add (.add (.v 4) (.mul (.v 1) (.v 7))) (.mul (.v 1) (.v 8))) (.mul (.mul (.v 1) (.v 1)) (.v 9))) (.add (.mul (.add (.v 0) (.neg (.v 2))) (.mul (.add (.v 0) (.neg (.v 3))) (.add (.v 0) (.neg (.add (.add (.mul (.v 1) (.v 1)) (.neg (.v 2))) (.neg (.v 3))))))) (.neg (.mul (.add (.add (.v 5) (.neg (.v 6))) (.neg (.mul (.v 1) (.add (.v 0) (.neg (.v 2)))))) (.add (.add (.v 5) (.neg (.add (.mul (.v 1) (.add (.v 2) (.neg (.add (.add (.mul (.v 1) (.v 1)) (.neg (.v 2))) (.neg (.v 3)))))) (.neg (.v 6))))) (.mul (.v 1) (.add (.v 0) (.neg (.add (.add (.mul (.v 1) (.v 1)) (.neg (.v 2))) (.neg (.v 3))))))))))) (by kernel_rfl))⟩
 ·rintro _ ⟨u,w,hu,hw,rfl⟩
  have hg : S (K.sub u (K.mul l w)):=h.sub hu (h.mul _ _ hw);have e0 : K.mul (K.sub (K.sub Y y1) (K.mul l (K.sub X x1))) (K.add (K.mul (K.sub X (K.sub (K.sub (K.mul l l) x1) x2)) u) (K.mul (K.sub Y (K.sub (K.mul l (K.sub x1 (K.sub (K.sub (K.mul l l) x1) x2))) y1)) w)) = K.mul (K.sub X (K.sub (K.sub (K.mul l l) x1) x2)) (K.add (K.mul (K.sub (K.sub Y y1) (K.mul l (K.sub X x1))) (K.sub u (K.mul l w))) (K.mul (K.sub X x1) (K.mul (K.sub X x2) w))) :=
   gQ (K:=K) (c1:=(K.neg w)) HC (aE K (aQ K [Y,y1,l,X,x1,x2,u,w]) (.add (.mul (.add (.add (.v 0) (.neg (.v 1))) (.neg (.mul (.v 2) (.add (.v 3) (.neg (.v 4)))))) (.add (.mul (.add (.v 3) (.neg (.add (.add (.mul (.v 2) (.v 2)) (.neg (.v 4))) (.neg (.v 5))))) (.v 6)) (.mul (.add (.v 0) (.neg (.add (.mul (.v 2) (.add (.v 4) (.neg (.add (.add (.mul (.v 2) (.v 2)) (.neg (.v 4))) (.neg (.v 5)))))) (.neg (.v 1))))) (.v 7)))) (.neg (.mul (.add (.v 3) (.neg (.add (.add (.mul (.v 2) (.v 2)) (.neg (.v 4))) (.neg (.v 5))))) (.add (.mul (.add (.add (.v 0) (.neg (.v 1))) (.neg (.mul (.v 2) (.add (.v 3) (.neg (.v 4)))))) (.add (.v 6) (.neg (.mul (.v 2) (.v 7))))) (.mul (.add (.v 3) (.neg (.v 4))) (.mul (.add (.v 3) (.neg (.v 5))) (.v 7))))))) (.mul (.neg (.v 7)) (.add (.mul (.add (.v 3) (.neg (.v 4))) (.mul (.add (.v 3) (.neg (.v 5))) (.add (.v 3) (.neg (.add (.add (.mul (.v 2) (.v 2)) (.neg (.v 4))) (.neg (.v 5))))))) (.neg (.mul (.add (.add (.v 0) (.neg (.v 1))) (.neg (.mul (.v 2) (.add (.v 3) (.neg (.v 4)))))) (.add (.add (.v 0) (.neg (.add (.mul (.v 2) (.add (.v 4) (.neg (.add (.add (.mul (.v 2) (.v 2)) (.neg (.v 4))) (.neg (.v 5)))))) (.neg (.v 1))))) (.mul (.v 2) (.add (.v 3) (.neg (.add (.add (.mul (.v 2) (.v 2)) (.neg (.v 4))) (.neg (.v 5))))))))))) (by kernel_rfl))
  generalize hge : (K.sub u (K.mul l w)) = g at hg e0;rw [e0]
  rcases hk with ⟨k,hk⟩ | ⟨k,hk⟩
  ·refine ⟨_,⟨_,_,⟨_,_,h.add _ _ (h.mul g (K.mul k (K.add (K.add X x1) x2)) hg) hw,h.mul g K.zero hg,rfl⟩,⟨_,_,h.mul g K.zero hg,h.mul g (K.neg k) hg,rfl⟩,rfl⟩,congrArg (K.mul _) ?_⟩;exact aDA (K:=K) (c1:=(K.mul (K.sub (K.sub Y y1) (K.mul l (K.sub X x1))) g)) (c2:=(K.neg (K.mul k g))) (c3:=(K.mul k g)) (c4:=(K.mul (K.mul k g) (K.sub X x1))) hk hY H3 H2 (aE K (aQ K [X,x1,x2,k,g,w,Y,y1,l,b]) (.add (.add (.mul (.add (.v 0) (.neg (.v 1))) (.add (.mul (.add (.v 0) (.neg (.v 2))) (.add (.mul (.mul (.v 3) (.add (.add (.v 0) (.v 1)) (.v 2))) (.v 4)) (.v 5))) (.mul (.add (.v 6) (.neg (.add (.v 7) (.mul (.v 8) (.add (.v 2) (.neg (.v 1))))))) (.mul .zero (.v 4))))) (.mul (.add (.v 6) (.neg (.v 7))) (.add (.mul (.add (.v 0) (.neg (.v 2))) (.mul .zero (.v 4))) (.mul (.add (.v 6) (.neg (.add (.v 7) (.mul (.v 8) (.add (.v 2) (.neg (.v 1))))))) (.mul (.neg (.v 3)) (.v 4)))))) (.neg (.add (.mul (.add (.add (.v 6) (.neg (.v 7))) (.neg (.mul (.v 8) (.add (.v 0) (.neg (.v 1)))))) (.v 4)) (.mul (.add (.v 0) (.neg (.v 1))) (.mul (.add (.v 0) (.neg (.v 2))) (.v 5)))))) (.add (.add (.add (.mul (.mul (.add (.add (.v 6) (.neg (.v 7))) (.neg (.mul (.v 8) (.add (.v 0) (.neg (.v 1)))))) (.v 4)) (.add (.mul (.v 3) (.add (.v 7) (.add (.v 7) (.mul (.v 8) (.add (.v 2) (.neg (.v 1))))))) (.neg .one))) (.mul (.neg (.mul (.v 3) (.v 4))) (.add (.mul (.v 6) (.v 6)) (.neg (.add (.mul (.v 0) (.mul (.v 0) (.v 0))) (.v 9)))))) (.mul (.mul (.v 3) (.v 4)) (.add (.mul (.v 7) (.v 7)) (.neg (.add (.mul (.v 1) (.mul (.v 1) (.v 1))) (.v 9)))))) (.mul (.mul (.mul (.v 3) (.v 4)) (.add (.v 0) (.neg (.v 1)))) (.add (.mul (.v 8) (.add (.v 7) (.add (.v 7) (.mul (.v 8) (.add (.v 2) (.neg (.v 1))))))) (.neg (.add (.add (.mul (.v 1) (.v 1)) (.mul (.v 1) (.v 2))) (.mul (.v 2) (.v 2))))))) (by kernel_rfl))
  ·refine ⟨_,⟨_,_,⟨_,_,hw,h.mul g k hg,rfl⟩,⟨_,_,h.mul g (K.neg k) hg,h.mul g K.zero hg,rfl⟩,rfl⟩,congrArg (K.mul _) ?_⟩;exact gQ (K:=K) (c1:=(K.mul (K.sub (K.sub Y y1) (K.mul l (K.sub X x1))) g)) hk (aE K (aQ K [X,x1,x2,w,Y,y1,l,k,g]) (.add (.add (.mul (.add (.v 0) (.neg (.v 1))) (.add (.mul (.add (.v 0) (.neg (.v 2))) (.v 3)) (.mul (.add (.v 4) (.neg (.add (.v 5) (.mul (.v 6) (.add (.v 2) (.neg (.v 1))))))) (.mul (.v 7) (.v 8))))) (.mul (.add (.v 4) (.neg (.v 5))) (.add (.mul (.add (.v 0) (.neg (.v 2))) (.mul (.neg (.v 7)) (.v 8))) (.mul (.add (.v 4) (.neg (.add (.v 5) (.mul (.v 6) (.add (.v 2) (.neg (.v 1))))))) (.mul .zero (.v 8)))))) (.neg (.add (.mul (.add (.add (.v 4) (.neg (.v 5))) (.neg (.mul (.v 6) (.add (.v 0) (.neg (.v 1)))))) (.v 8)) (.mul (.add (.v 0) (.neg (.v 1))) (.mul (.add (.v 0) (.neg (.v 2))) (.v 3)))))) (.mul (.mul (.add (.add (.v 4) (.neg (.v 5))) (.neg (.mul (.v 6) (.add (.v 0) (.neg (.v 1)))))) (.v 8)) (.add (.mul (.v 7) (.add (.v 2) (.neg (.v 1)))) (.neg .one))) (by kernel_rfl))
theorem aFa (D : Dom K) {v0 vW vR vS l1 l2 m1 m2 la t s : A} (h : K.mul (K.mul v0 (K.mul (K.mul (K.mul vW vR) (K.mul l1 l2)) la)) K.one = K.mul (K.mul (K.mul v0 (K.mul (K.mul vW vS) (K.mul m1 m2))) la) t)
  (h' : K.mul (K.mul v0 (K.mul (K.mul (K.mul vW vR) (K.mul l1 l2)) la)) s = K.mul (K.mul (K.mul v0 (K.mul (K.mul vW vS) (K.mul m1 m2))) la) K.one)
  (h0 : v0 ≠ K.zero) (hW : vW ≠ K.zero) (hS : vS ≠ K.zero) (hm1 : m1 ≠ K.zero) (hm2 : m2 ≠ K.zero) (hla : la ≠ K.zero) : K.mul t s = K.one ∧ K.mul vR (K.mul l1 l2) = K.mul t (K.mul vS (K.mul m1 m2)):=by
 have hb : K.mul (K.mul v0 (K.mul (K.mul vW vS) (K.mul m1 m2))) la ≠ K.zero:=D.2 _ _ (D.2 _ _ h0 (D.2 _ _ (D.2 _ _ hW hS) (D.2 _ _ hm1 hm2))) hla;refine ⟨?_,?_⟩
 ·rw [K.mul_one] at h;rw [h,K.mul_assoc] at h';exact nB D hb h'
 ·have hk : K.mul (K.mul v0 vW) la ≠ K.zero:=D.2 _ _ (D.2 _ _ h0 hW) hla;refine nB D hk ?_;have e1 : K.mul (K.mul (K.mul v0 vW) la) (K.mul vR (K.mul l1 l2)) = K.mul (K.mul v0 (K.mul (K.mul (K.mul vW vR) (K.mul l1 l2)) la)) K.one:=aE K (aQ K [v0,vW,la,vR,l1,l2]) (.mul (.mul (.mul (.v 0) (.v 1)) (.v 2)) (.mul (.v 3) (.mul (.v 4) (.v 5)))) (.mul (.mul (.v 0) (.mul (.mul (.mul (.v 1) (.v 3)) (.mul (.v 4) (.v 5))) (.v 2))) .one) (by kernel_rfl);have e2 : K.mul (K.mul (K.mul v0 (K.mul (K.mul vW vS) (K.mul m1 m2))) la) t = K.mul (K.mul (K.mul v0 vW) la) (K.mul t (K.mul vS (K.mul m1 m2))):=aE K (aQ K [v0,vW,la,vS,m1,m2,t]) (.mul (.mul (.mul (.v 0) (.mul (.mul (.v 1) (.v 3)) (.mul (.v 4) (.v 5)))) (.v 2)) (.v 6)) (.mul (.mul (.mul (.v 0) (.v 1)) (.v 2)) (.mul (.v 6) (.mul (.v 3) (.mul (.v 4) (.v 5))))) (by kernel_rfl);exact e1.trans (h.trans e2)
end
section
variable {R : Type} {K : CR R} {inv : R → R} {b : R}
theorem Eqw.opP {a c : Pol K × Pol K} {S T : Pol K × Pol K → Prop} (h : Eqw (bY K b) a c S T) (p : Pt R) : Eqw (bY K b) a c (opP K b p S) (opP K b p T):=by
 cases p with
 | none => exact h
 | some p => exact h.op _ _
def ver (K : CR R) (b : R) : Pt R → Pol K × Pol K
 | none => (bY K b).one
 | some p => (bY K b).sub cX (cc p.1)
open Classical in
def Ax (K : CR R) (inv : R → R) (b : R) : Pt R → Pt R → Pol K × Pol K
 | none,q => ver K b q
 | some p,none => ver K b (some p)
 | some p,some q => if p.1 = q.1 ∧ K.add p.2 q.2 = K.zero then (bY K b).sub cX (cc p.1) else (bY K b).sub ((bY K b).sub cY (cc p.2)) ((bY K b).mul (cc (dD K inv p.1 p.2 q.1 q.2)) ((bY K b).sub cX (cc p.1)))
theorem QF {p q : R × R} (h : p.1 = q.1 ∧ K.add p.2 q.2 = K.zero) : Ax K inv b (some p) (some q) = (bY K b).sub cX (cc p.1):=if_pos h
theorem QE {p q : R × R} (h : ¬ (p.1 = q.1 ∧ K.add p.2 q.2 = K.zero)) : Ax K inv b (some p) (some q) = (bY K b).sub ((bY K b).sub cY (cc p.2)) ((bY K b).mul (cc (dD K inv p.1 p.2 q.1 q.2)) ((bY K b).sub cX (cc p.1))):=if_neg h
theorem uR (E : EC K inv b) : ∀ p : Pt R,ver K b p ≠ (bY K b).zero
 | none => (jH (K:=K) b E.F).1
 | some p => aJu E.F _
theorem GN (E : EC K inv b) : ∀ p q : Pt R,Ax K inv b p q ≠ (bY K b).zero
 | none,q => uR E q
 | some p,none => uR E (some p)
 | some p,some q => by
  by_cases h : p.1 = q.1 ∧ K.add p.2 q.2 = K.zero
  ·rw [QF h]; exact aJu E.F _
  ·rw [QE h]; exact aDi E.F _ _ _
theorem kO (E : EC K inv b) {S : Pol K × Pol K → Prop} (hS : Idl (bY K b) S) : ∀ {p q : Pt R},On K b p → On K b q → Eqw (bY K b) (ver K b (hJ K inv p q)) (Ax K inv b p q) (opP K b p (opP K b q S)) (opP K b (hJ K inv p q) S)
 | none,_,_,_ => Eqw.refl _ _
 | some _,none,_,_ => Eqw.refl _ _
 | some ⟨x1,y1⟩,some ⟨x2,y2⟩,hp,hq => by
  by_cases hn : x1 = x2 ∧ K.add y1 y2 = K.zero
  ·rw [kB hn,QF hn];obtain ⟨rfl,hy⟩:=hn;have e : y2 = K.neg y1:=by
    apply K.add_cancel (a:=y1);rw [hy,K.add_neg]
   subst e;show Eqw (bY K b) (bY K b).one ((bY K b).sub cX (cc x1)) (op (bY K b) cX cY (cc x1) (cc y1) (op (bY K b) cX cY (cc x1) (cc (K.neg y1)) S)) S;have h0:=E.F.inv _ (E.dbl_ne (E.y_ne hp));rw [Gt b];refine aHc (b:=cc b) (k:=cc (inv (K.add y1 y1))) (aJb b) ?_ ?_ hS
   ·rw [← fT,← fT,← fT,← iM];exact congrArg cc hp
   ·rw [← iM,← fT,K.mul_comm,h0];rfl
  ·rw [jC hn,QE hn];have h:=wK E hp hq hn;dsimp only at h ⊢;generalize dD K inv x1 y1 x2 y2 = l at h;obtain ⟨h1,h2,hk⟩:=h;subst h1;show Eqw (bY K b) ((bY K b).sub cX (cc (sx K l x1 x2))) ((bY K b).sub ((bY K b).sub cY (cc y1)) ((bY K b).mul (cc l) ((bY K b).sub cX (cc x1)))) (op (bY K b) cX cY (cc x1) (cc y1) (op (bY K b) cX cY (cc x2) (cc (K.add y1 (K.mul l (K.sub x2 x1)))) S)) (op (bY K b) cX cY (cc (sx K l x1 x2)) (cc (sy K l x1 y1 x2)) S);unfold sy sx;simp only [iM b,fT b,oF b];refine aHb (b:=cc b) (aJb b) ?_ ?_ ?_ hS
   ·have:=congrArg (cc (K:=K)) h2;simpa only [iM b,fT b,oF b] using this
   ·have:=congrArg (cc (K:=K)) hp;simpa only [iM b,fT b,oF b] using this
   ·rcases hk with ⟨k,hk⟩ | ⟨k,hk⟩
    ·refine Or.inl ⟨cc k,?_⟩;have:=congrArg (cc (K:=K)) hk;simpa only [iM b,fT b,oF b,SB b] using this
    ·refine Or.inr ⟨cc k,?_⟩;have:=congrArg (cc (K:=K)) hk;simpa only [iM b,fT b,oF b,SB b] using this
theorem Ld (F : FD K inv) (f : Pol K × Pol K) (h : f ≠ (bY K b).zero) : ∃ d,dg (nrm b f) d ∧ ((f.2 = aV.zero ∧ ∃ n,dg f.1 n ∧ d = n + n) ∨ 3 ≤ d):=by
 have hq : dg (qP b : Pol K) 3:=aLg F b
 by_cases h2 : f.2 = aV.zero
 ·have h1 : f.1 ≠ aV.zero:=fun e => h (Prod.ext e h2)
  obtain ⟨n,hn⟩:=IF _ h1;refine ⟨n + n,?_,Or.inl ⟨h2,n,hn,rfl⟩⟩;unfold nrm;rw [h2,aV.mul_zero,aV.mul_zero];show dg (aV.add _ (aV.neg aV.zero)) _;rw [bI,aV.add_zero];exact iK F hn hn
 ·obtain ⟨m,hm⟩:=IF _ h2;have hr:=iK F hq (iK F hm hm)
  by_cases h1 : f.1 = aV.zero
  ·refine ⟨3 + (m + m),?_,Or.inr (by omega)⟩;unfold nrm;rw [h1,aV.mul_zero];show dg (aV.add _ _) _;rw [aV.zero_add];exact RM hr
  ·obtain ⟨n,hn⟩:=IF _ h1;have hl:=iK F hn hn;have hr':=RM hr
   rcases Nat.lt_or_ge (n + n) (3 + (m + m)) with q | q
   ·refine ⟨3 + (m + m),?_,Or.inr (by omega)⟩;show dg (aV.add _ _) _;rw [aV.add_comm];exact sL hr' fun i hi => hl.2 i (by omega)
   ·refine ⟨n + n,?_,Or.inr (by omega)⟩;exact sL hl fun i hi => hr'.2 i (by omega)
theorem Im (F : FD K inv) {t s : Pol K × Pol K} (h : (bY K b).mul t s = (bY K b).one) : ∃ c,c ≠ K.zero ∧ t = cc c:=by
 have D:=jH (K:=K) b F;have ht : t ≠ (bY K b).zero:=fun e => by rw [e,(bY K b).zero_mul] at h; exact D.1 h.symm
 have hs : s ≠ (bY K b).zero:=fun e => by rw [e,(bY K b).mul_zero] at h; exact D.1 h.symm
 obtain ⟨d1,g1,k1⟩:=Ld (b:=b) F t ht;obtain ⟨d2,g2,_⟩:=Ld (b:=b) F s hs;have g:=iK F g1 g2;rw [← PX,h] at g;have o : dg (nrm b (bY K b).one : Pol K) 0:=by
  have e : (nrm b (bY K b).one : Pol K) = aV.one:=by
   show aV.sub (aV.mul aV.one aV.one) (aV.mul (qP b) (aV.mul aV.zero aV.zero)) = _;rw [aV.mul_one,aV.mul_zero,aV.mul_zero];show aV.add _ (aV.neg aV.zero) = _;rw [bI,aV.add_zero]
  rw [e];exact ⟨F.ne,fun i hi => by cases i with | zero => omega | succ i => rfl⟩
 have hd:=aDr o g
 rcases k1 with ⟨z,n,hn,e⟩ | q
 ·have hn0 : n = 0:=by omega
  subst hn0;refine ⟨t.1.1 0,hn.1,Prod.ext (Pol.ext fun i => ?_) z⟩;cases i with
  | zero => rfl
  | succ i => exact hn.2 _ (by omega)
 ·omega
theorem aVQ (E : EC K inv b) {p q r : Pt R} (hp : On K b p) (hq : On K b q) (hr : On K b r) : ∃ c,c ≠ K.zero ∧
  (bY K b).mul (ver K b (hJ K inv q r)) ((bY K b).mul (Ax K inv b p q) (Ax K inv b (hJ K inv p q) r)) = (bY K b).mul (cc c) ((bY K b).mul (ver K b (hJ K inv p q)) ((bY K b).mul (Ax K inv b q r) (Ax K inv b p (hJ K inv q r)))):=by
 have D:=jH (K:=K) b E.F;have hu:=kI (bY K b);have hS:=hp.add E hq;have hR:=hq.add E hr;have hW:=hS.add E hr;have e1:=kO E (Jx hu r) hp hq;have e2:=kO E hu hS hr;have e3:=(kO E hu hq hr).opP p;have e4:=kO E hu hp hR;rw [← KZ E hp hq hr] at e4;have f:=(e1.trans e2).symm.trans (e3.trans e4);have n:=kO E hu hW.neg hW;rw [CP] at n;have k:=(n.symm.trans (f.opP (KY K (hJ K inv (hJ K inv p q) r)))).trans n;obtain ⟨t,_,h1⟩:=k.1 (bY K b).one trivial;obtain ⟨s,_,h2⟩:=k.2 (bY K b).one trivial;have u:=aFa D h1 h2 (uR E _) (uR E _) (uR E _) (GN E _ _) (GN E _ _) (GN E _ _);obtain ⟨c,hc,e⟩:=Im (b:=b) E.F u.1;refine ⟨c,hc,?_⟩;rw [← e];exact u.2
end
end Go.Proofs.YtglgakbkdjhojaaGreat.Ex
