/- Pk10 -/
import Derived.KernelRfl
import Derived.LoopTactic
import Derived.Deep.LoopGhost
import Derived.RegionTactic
import Derived.Deep.DeepCutAuto
import Derived.Test.YtfnkbmlmgnadmaaGreatPk09
import Derived.Test.YtfnkbmlmgnadmaaGreatPk06
import Derived.Test.YtfnkbmlmgnadmaaGreatPk00
import Derived.Test.YtfnkbmlmgnadmaaGreatPk08
import Derived.Test.YtfnkbmlmgnadmaaGreatPk07
import Derived.Test.YtfnkbmlmgnadmaaGreatPk03
import Derived.Test.YtfnkbmlmgnadmaaGreatPk04
set_option maxRecDepth 100000
set_option linter.unusedVariables false
set_option linter.unusedSimpArgs false
noncomputable section
namespace Go.Proofs.YtfnkbmlmgnadmaaGreat.Ex
open Go.Proofs.Tryz
open Go.RowKit
theorem FrOk.ad {P : Program} {T : Tab2} (hT : FrOk P T) {f : Nat} {fn : Func} (hf : P.funcs[f]? = some fn) {g : List CA → Option (List Prop × FR)}
 (h : ∀ cs pre r,g cs = some (pre,r) → aL pre → ∀ (args : List Value) (w : World),bD w cs args → Calls P f args.toArray w (fun e w' => r.ok w e w')) (hn : (fn.name == "runtime.NumGoroutine") = false:=by kernel_rfl) (hb : fn.body.isNone = false:=by kernel_rfl) : FrOk P (T.add f g):=hT.add hf hn hb h
def dT (p : bY) : Int × J2:=fM p.1 p.2.1 p.2.2
def iT (ps : Nat → bY) : Nat → Int
 | 0 => 0
 | i + 1 => if iT ps i ≠ 0 then iT ps i else (dT (ps i)).1
theorem EI {ps : Nat → bY} : ∀ {N : Nat},iT ps N = 0 → ∀ j,j < N → (dT (ps j)).1 = 0
 | N + 1,h,j,hj => by
  unfold iT at h
  by_cases h0 : iT ps N = 0
  ·rw [if_neg (fun q => q h0)] at h
   by_cases e : j = N
   ·rw [e]; exact h
   ·exact EI h0 j (by omega)
  ·rw [if_pos h0] at h; exact (h0 h).elim
theorem MG {ps : Nat → bY} : ∀ {N : Nat},iT ps N ≠ 0 → ∃ j,j < N ∧ (∀ k,k < j → (dT (ps k)).1 = 0) ∧ (dT (ps j)).1 ≠ 0 ∧ iT ps N = (dT (ps j)).1
 | 0,h => (h rfl).elim
 | N + 1,h => by
  unfold iT at h ⊢
  by_cases h0 : iT ps N = 0
  ·rw [if_neg (fun q => q h0)] at h ⊢;exact ⟨N,by omega,fun k hk => EI h0 k hk,h,rfl⟩
  ·rw [if_pos h0];obtain ⟨j,h1,h2,h3,h4⟩:=MG h0;exact ⟨j,by omega,h2,h3,h4⟩
def zQ (ps : Nat → bY) (j : Nat) : J2:=(dT (ps j)).2
def nH (LG Z : List At) (N N' i : Nat) : List Fact:=[.slot 1 (.sl 1 0 N N'),.row 1 false LG,.slot 2 (.pt 2 0),.row 2 true gW,.slot 6 (.sl 12 0 N N),.row 12 true Z,.slot 14 (.im (iI N)),.slot 15 (.im (iI i))]
def aDJ (LG : List At) (N N' : Nat) : List Fact:=[.slot 1 (.sl 1 0 N N'),.row 1 false LG,.slot 2 (.pt 2 0),.row 2 true gW]
def aDI (LG Z : List At) (N N' : Nat) : List Fact:=[.slot 1 (.sl 1 0 N N'),.row 1 false LG,.slot 2 (.pt 2 0),.row 2 true gW,.slot 6 (.sl 12 0 N N),.row 12 true Z]
def eK : Code:=(f132.body).getD .skip
def mY : Code:=Pg (Pg (cB (cA (cB (cB eK)))))
theorem Nx : eK = .seq (cA eK) (.seq (cA (cB eK)) (.seq (.seq (cA (cA (cB (cB eK)))) (.block 0 (.loop mY))) (cB (cB (cB eK))))):=by kernel_rfl
def SF (num : Nat → Option Value) (_ : Nat) : Cfg:=⟨fun _ => iX,fun _ => true,num⟩
theorem aDM (LG : List At) (N N' : Nat) : bQ prog (qG prog) f132.ntmps (SF fun _ => none) 40 (cA eK) (lM 0 [.v (.fl gW),.s LG N N']) (aDJ LG N N') = some ([],.nrm,aDJ LG N N'):=by kernel_rfl
def Zh (N : Nat) (Z : List At) : Ext:={ Xj (fun _ _ _ => False) with mks:=assoc [(12,(N,Z))] }
theorem aDL (LG Z : List At) (N N' : Nat) : bQ prog (qX prog (Zh N Z)) f132.ntmps (SF fun _ => none) 40 (cA (cB eK)) (aDJ LG N N') (aDI LG Z N N') = some ([∃ e,∀ w : World,(Instr.makeSlice 173 (iI N) (iI N)).run prog w = .ok (.slice (some ⟨w.heap.size,0,none⟩) N N) (w.alloc (.cells (aA Z).toArray e))],.nrm,aDI LG Z N N'):=by kernel_rfl
theorem aDK (LG Z : List At) (N N' : Nat) : bQ prog (qG prog) f132.ntmps (SF fun _ => none) 40 (cA (cA (cB (cB eK)))) (aDI LG Z N N') (nH LG Z N N' 0) = some ([],.nrm,nH LG Z N N' 0):=by kernel_rfl
def Wu (i : Nat) (p : bY) (Z' : List At) : Ext:={ Xj (fun _ _ _ => False) with idx:=assoc [(23,i),(34,i)],ld:=assoc [(24,cS p)],st:=assoc [(34,Z')] }
theorem aDN (LG Z Z' : List At) (N N' i : Nat) (p : bY) : bQ prog (qX prog (Wu i p Z')) f132.ntmps (SF (assoc [(16,.bool true),(29,.bool false),(35,iI (i + 1))])) 60 mY (nH LG Z N N' i) (nH LG Z' N N' (i + 1)) = some ([aP .lss .i64 (Int.ofNat i) (Int.ofNat N) = some (.bool true),Int.ofNat i = Int.ofNat i,i < N,NE LG (0 + i * 17) 17 = some (cS p),aP .neq .i64 (dT p).1 0 = some (.bool false),Int.ofNat i = Int.ofNat i,i < N,put Z (0 + i * 24) (bG (dT p).2) = some Z',aP .add .i64 (Int.ofNat i) 1 = some (iI (i + 1))],.nrm,nH LG Z' N N' (i + 1)):=by kernel_rfl
theorem aDO (LG Z : List At) (N N' i : Nat) (p : bY) : bQ prog (qX prog (Wu i p Z)) f132.ntmps (SF (assoc [(16,.bool true),(29,.bool true)])) 60 mY (nH LG Z N N' i) [.slot 4 (.im (.slice none 0 0)),.slot 5 (.im (.int .i64 (dT p).1))] = some ([aP .lss .i64 (Int.ofNat i) (Int.ofNat N) = some (.bool true),Int.ofNat i = Int.ofNat i,i < N,NE LG (0 + i * 17) 17 = some (cS p),aP .neq .i64 (dT p).1 0 = some (.bool true)],.rt,[.slot 4 (.im (.slice none 0 0)),.slot 5 (.im (.int .i64 (dT p).1))]):=by kernel_rfl
theorem Wv (LG Z : List At) (N N' i : Nat) : bQ prog (qG prog) f132.ntmps (SF (assoc [(16,.bool false)])) 40 mY (nH LG Z N N' i) (nH LG Z N N' i) = some ([aP .lss .i64 (Int.ofNat i) (Int.ofNat N) = some (.bool false)],.ex 0,nH LG Z N N' i):=by kernel_rfl
theorem Nv (LG Z : List At) (N N' i : Nat) : bQ prog (qG prog) f132.ntmps (SF fun _ => none) 40 (cB (cB (cB eK))) (nH LG Z N N' i) [.slot 4 (.sl 12 0 N N),.row 12 true Z,.slot 5 (.im (.int .i64 0))] = some ([],.rt,[.slot 4 (.sl 12 0 N N),.row 12 true Z,.slot 5 (.im (.int .i64 0))]):=by kernel_rfl
theorem Ly : sD (aA (bG sZ)) (.int .u64 0):=by unfold sD; kernel_rfl
theorem BB {w0 : World} {args : List Value} {N N' : Nat} {ps : Nat → bY} (ha : bD w0 [.v (.fl gW),.s (dN (fun j => cS (ps j)) 0 N) N N'] args) (hN2 : N ≤ 65536) {R : Ending → World → Prop}
  (h : ∀ a w,Holds f132.ntmps w0.heap.size w0 (nH (dN (fun j => cS (ps j)) 0 N) (oB (fun j => bG (zQ ps j)) (bG sZ) N 0) N N' 0) a w → (Code.loop mY).wp prog (fun e a w => match e with | .exit 0 => (cB (cB (cB eK))).wp prog (bodyPost prog f132 R) a w | .ret => bodyPost prog f132 R .ret a w | _ => False) a w) : Calls prog 132 args.toArray w0 R:=by
 have hG : bU prog (qG prog) w0.heap.size w0:=(aK _).w _ _;have hT : ∀ n d : Nat,TabOkW prog iX w0.heap.size w0:=fun _ _ => iA.w _ _
 refine fK func132 (c:=eK) rfl ha (Nat.le_of_ble_eq_true (by kernel_rfl)) fun a w' hA => ?_
 rw [Nx];refine wp_seq (aE aG hT hG (aDM _ N N') trivial hA fun a w' hA => ?_);refine wp_seq (aE aG hT (vM (x:=Zh N (dN (fun _ => bG sZ) 0 N)) (mQ _) fun _ _ _ h => h.elim) (aDL _ (dN (fun _ => bG sZ) 0 N) N N') ⟨KY (t:=173) (e:=86) (z:=bG sZ) (v:=.int .u64 0) (n:=24) (by8:=192) (by kernel_rfl) (by kernel_rfl) rfl Ly (by omega) (by omega) (by omega),trivial⟩ hA fun a w' hA => ?_);refine wp_seq (wp_seq (aE aG hT hG (aDK _ _ N N') trivial hA fun a w' hA => ?_));refine wp_block ?_;rw [← Ka (fun j => bG (zQ ps j))] at hA;refine Code.wp_mono (fun e a w h => ?_) (h a w' hA);cases e with
 | exit id =>
  cases id with
  | zero => exact h
  | succ k => exact h.elim
 | ret => exact h
 | _ => exact h.elim
theorem MY {w0 : World} {N N' : Nat} {ps : Nat → bY} {i : Nat} (hi : i < N) (hN2 : N ≤ 65536) (h : (dT (ps i)).1 = 0) : Ok prog w0.heap.size w0 f132.ntmps mY (nH (dN (fun j => cS (ps j)) 0 N) (oB (fun j => bG (zQ ps j)) (bG sZ) N i) N N' i) .nrm (nH (dN (fun j => cS (ps j)) 0 N) (oB (fun j => bG (zQ ps j)) (bG sZ) N (i + 1)) N N' (i + 1)) :=
 ⟨_,_,_,_,vM (x:=Wu i (ps i) _) (mQ _) (fun _ _ _ h => h.elim),fun _ _ => iA.w _ _,aDN _ _ (oB (fun j => bG (zQ ps j)) (bG sZ) N (i + 1)) N N' i (ps i),kW hi,rfl,hi,tM (f:=fun j => cS (ps j)) (c:=17) (fun j => rfl) hi (Nat.zero_add _),KU h,rfl,hi,JJ (f:=fun j => bG (zQ ps j)) (c:=24) (fun j => rfl) rfl hi (Nat.zero_add _),AD (k:=1) (by omega),trivial⟩
theorem Nw {w0 : World} {args : List Value} {N N' : Nat} {ps : Nat → bY} (ha : bD w0 [.v (.fl gW),.s (dN (fun j => cS (ps j)) 0 N) N N'] args) (hN2 : N ≤ 65536) (h : iT ps N = 0) : Calls prog 132 args.toArray w0 (fun e w' => FR.ok ⟨dN (fun j => bG (zQ ps j)) 0 N,N,N,[.im (.int .i64 0)]⟩ w0 e w'):=by
 have hG : bU prog (qG prog) w0.heap.size w0:=(aK _).w _ _;have hT : ∀ n d : Nat,TabOkW prog iX w0.heap.size w0:=fun _ _ => iA.w _ _
 refine BB ha hN2 fun a w hA => ?_
 refine rL aG (fun i => nH (dN (fun j => cS (ps j)) 0 N) (oB (fun j => bG (zQ ps j)) (bG sZ) N i) N N' i) N (fun i hi => MY hi hN2 (EI h i hi)) (.ex 0) (by simp) (nH (dN (fun j => cS (ps j)) 0 N) (dN (fun j => bG (zQ ps j)) 0 N) N N' N) ?_ hA fun a w hA => ?_
 ·rw [← Jz (fun j => bG (zQ ps j)) (bG sZ) N];exact ⟨_,_,_,_,hG,hT,Wv _ _ N N' N,pD (Nat.le_refl _),trivial⟩
 ·show (cB (cB (cB eK))).wp _ _ _ _;exact aE aG hT hG (Nv _ _ N N' N) trivial hA fun a w' hA => Ce (r:=⟨dN (fun j => bG (zQ ps j)) 0 N,N,N,[.im (.int .i64 0)]⟩) (by kernel_rfl) hA
theorem Ny {w0 : World} {args : List Value} {N N' : Nat} {ps : Nat → bY} (ha : bD w0 [.v (.fl gW),.s (dN (fun j => cS (ps j)) 0 N) N N'] args) (hN2 : N ≤ 65536) (h : iT ps N ≠ 0) : Good prog 132 (.many [.im (.slice none 0 0),.im (.int .i64 (iT ps N))]) args w0:=by
 have hG : bU prog (qG prog) w0.heap.size w0:=(aK _).w _ _;have hT : ∀ n d : Nat,TabOkW prog iX w0.heap.size w0:=fun _ _ => iA.w _ _
 obtain ⟨j,hj,h1,h2,h3⟩:=MG h;rw [h3];refine BB ha hN2 fun a w hA => ?_
 refine rL aG (fun i => nH (dN (fun j => cS (ps j)) 0 N) (oB (fun j => bG (zQ ps j)) (bG sZ) N i) N N' i) j (fun i hi => MY (by omega) hN2 (h1 i hi)) .rt (by simp) [.slot 4 (.im (.slice none 0 0)),.slot 5 (.im (.int .i64 (dT (ps j)).1))] ?_ hA fun a w hA => ?_
 ·exact ⟨_,_,_,_,vM (x:=Wu j (ps j) _) (mQ _) (fun _ _ _ h => h.elim),fun _ _ => iA.w _ _,aDO _ _ N N' j (ps j),kW hj,rfl,hj,tM (f:=fun j => cS (ps j)) (c:=17) (fun j => rfl) hj (Nat.zero_add _),KT h2,trivial⟩
 ·exact eV (l:=[.im (.slice none 0 0),.im (.int .i64 (dT (ps j)).1)]) (r:=.many [.im (.slice none 0 0),.im (.int .i64 (dT (ps j)).1)]) (by kernel_rfl) (by kernel_rfl) hA
def uZ (pt : Nat → J2) (x : Nat → Nat) (N : Nat) : J2:=Bg (fun p => AT pt x p N) (nE x N / 4 + 1) (nE x N / 4 + 1)
def aBY (pt : Nat → J2) (x : Nat → Nat) (N : Nat) : gE
 | [.s LP n1 n2,.s LX n3 n4] => some ([aA LP = aA (dN (fun j => bG (pt j)) 0 N),aA LX = aA (dN (fun j => [.q (x j)]) 0 N),n1 = N,n3 = N,N ≤ 65536],.one (.fl (bG (uZ pt x N))))
 | _ => none
theorem Ve {w : World} {pt : Nat → J2} {x : Nat → Nat} {N : Nat} : ∀ cs pre r,aBY pt x N cs = some (pre,r) → aL pre → ∀ (args : List Value),bD w cs args → Good prog 160 r args w:=by
 intro cs pre r hg hq args ha;unfold aBY at hg;split at hg
 ·rename_i LP n1 n2 LX n3 n4;cases hg;obtain ⟨h1,h2,rfl,rfl,h5,_⟩:=hq
  match args,ha with
  | [u,v],ha =>
   obtain ⟨b1,o1,e1,hb1,hr1⟩:=ha.1;obtain ⟨b2,o2,e2,hb2,hr2⟩:=ha.2.1;subst e1; subst e2;refine Cn h1 ⟨hb1,hr1⟩ (fun j hj => ⟨hb2,?_⟩) (Nat.le_refl _) h5 (by omega);rw [h2] at hr2;exact qV (f:=fun j => [At.q (x j)]) (c:=4) (fun _ => rfl) hj hr2
  | [],ha => exact ha.elim
  | [_],ha => exact ha.2.elim
  | _ :: _ :: _ :: _,ha => exact ha.2.2.elim
 ·cases hg
theorem Rg (LP LX : List At) (n1 n2 n3 n4 N : Nat) (pt : Nat → J2) (x : Nat → Nat) : aU prog (qG prog) (fun _ => ⟨fun _ => (iX).add 160 (aBY pt x N),fun _ => true,assoc [(7,.bool true)]⟩) f133 40 [.s LP n1 n2,.s LX n3 n4] = some ([aP .lss .i64 (Int.ofNat n1) 32 = some (.bool true),aA LP = aA (dN (fun j => bG (pt j)) 0 N),aA LX = aA (dN (fun j => [.q (x j)]) 0 N),n1 = N,n3 = N,N ≤ 65536],.one (.fl (bG (uZ pt x N)))):=by kernel_rfl
def aBN (pt : Nat → J2) (x : Nat → Nat) (N : Nat) : gE
 | [.s LP n1 n2,.s LX n3 n4] => some ([aA LP = aA (dN (fun j => bG (pt j)) 0 N),aA LX = aA (dN (fun j => [.q (x j)]) 0 N),n1 = N,n3 = N,N < 32],.one (.fl (bG (uZ pt x N))))
 | _ => none
theorem Uy {w : World} {pt : Nat → J2} {x : Nat → Nat} {N : Nat} : ∀ cs pre r,aBN pt x N cs = some (pre,r) → aL pre → ∀ (args : List Value),bD w cs args → Good prog 133 r args w:=by
 intro cs pre r hg hq args ha;unfold aBN at hg;split at hg
 ·rename_i LP n1 n2 LX n3 n4;cases hg;obtain ⟨h1,h2,h3,h4,h5,_⟩:=hq;exact bA aG (fun _ _ => TabOkW.add (iA.w _ _) func160 (by kernel_rfl) (by kernel_rfl) fun w hw => Ve) ((aK prog).w _ _) func133 (Rg LP LX n1 n2 n3 n4 N pt x) ⟨by rw [h3]; exact kW (n:=32) h5,h1,h2,h3,h4,by omega,trivial⟩ ha
 ·cases hg
def aCd (ps : Nat → bY) (N : Nat) : List CA → Option (List Prop × FR)
 | [.v (.fl l),.s L n1 n2] => some ([aA l = aA gW,aA L = aA (dN (fun j => cS (ps j)) 0 N),n1 = N,N ≤ 65536,iT ps N = 0],⟨dN (fun j => bG (zQ ps j)) 0 N,N,N,[.im (.int .i64 0)]⟩)
 | _ => none
def aCe (ps : Nat → bY) (N : Nat) : gE
 | [.v (.fl l),.s L n1 n2] => some ([aA l = aA gW,aA L = aA (dN (fun j => cS (ps j)) 0 N),n1 = N,N ≤ 65536,iT ps N ≠ 0],.many [.im (.slice none 0 0),.im (.int .i64 (iT ps N))])
 | _ => none
theorem XU {w : World} {ps : Nat → bY} {N n1 n2 : Nat} {l L : List At} (h1 : aA l = aA gW) (h2 : aA L = aA (dN (fun j => cS (ps j)) 0 N)) {args : List Value} (ha : bD w [.v (.fl l),.s L n1 n2] args) : bD w [.v (.fl gW),.s (dN (fun j => cS (ps j)) 0 N) n1 n2] args:=by
 match args,ha with
 | [u,v],ha =>
  obtain ⟨b,o,e,hb,hr⟩:=ha.2.1;refine ⟨?_,⟨b,o,e,hb,by rw [← h2]; exact hr⟩,trivial⟩;show u = .agg (aA gW).toArray;rw [← h1]; exact ha.1
 | [],ha => exact ha.elim
 | [_],ha => exact ha.2.elim
 | _ :: _ :: _ :: _,ha => exact ha.2.2.elim
theorem Vg {ps : Nat → bY} {N : Nat} : ∀ cs pre r,aCd ps N cs = some (pre,r) → aL pre → ∀ (args : List Value) (w : World),bD w cs args → Calls prog 132 args.toArray w (fun e w' => r.ok w e w'):=by
 intro cs pre r hg hq args w ha;unfold aCd at hg;split at hg
 ·cases hg;obtain ⟨h1,h2,rfl,h4,h5,_⟩:=hq;exact Nw (XU h1 h2 ha) h4 h5
 ·cases hg
theorem Vh {ps : Nat → bY} {N : Nat} : ∀ cs pre r,aCe ps N cs = some (pre,r) → aL pre → ∀ (args : List Value) (w : World),bD w cs args → Good prog 132 r args w:=by
 intro cs pre r hg hq args w ha;unfold aCe at hg;split at hg
 ·cases hg;obtain ⟨h1,h2,rfl,h4,h5,_⟩:=hq;exact Ny (XU h1 h2 ha) h4 h5
 ·cases hg
def aEp (ps : Nat → bY) (N : Nat) : Ext:={ Xj (fun _ _ _ => False) with T2:=Fr0.add 132 (aCd ps N) }
theorem Pk (ps : Nat → bY) (N : Nat) (w : World) : bU prog (qX prog (aEp ps N)) w.heap.size w:=vM ((mQ _).ad func132 Vg) fun _ _ _ h => h.elim
theorem ZI (LG LX : List At) (N n2 n n4 : Nat) (ps : Nat → bY) : aU prog (qG prog) (fun _ => ⟨fun _ => (iX).add 132 (aCe ps N),fun _ => true,assoc [(15,.bool false),(19,.bool false),(29,.bool true)]⟩) f94 60 [.v (.fl gW),.s LG N n2,.s LX n n4] = some ([aP .neq .i64 (Int.ofNat N) (Int.ofNat n) = some (.bool false),aP .gtr .i64 (Int.ofNat N) 65536 = some (.bool false),aA gW = aA gW,aA LG = aA (dN (fun j => cS (ps j)) 0 N),N = N,N ≤ 65536,iT ps N ≠ 0,aP .neq .i64 (iT ps N) 0 = some (.bool true)],.many [.fl (yI (some (F2.zero,F2.zero))),.im (.int .i64 (iT ps N))]):=by kernel_rfl
theorem ZH (LG LX : List At) (N n2 n n4 : Nat) (ps : Nat → bY) (x : Nat → Nat) : aU prog (qX prog (aEp ps N)) (fun _ => ⟨fun _ => (iX).add 133 (aBN (zQ ps) x N),fun _ => true,assoc [(15,.bool false),(19,.bool false)]⟩) f94 60 [.v (.fl gW),.s LG N n2,.s LX n n4] = some ([aP .neq .i64 (Int.ofNat N) (Int.ofNat n) = some (.bool false),aP .gtr .i64 (Int.ofNat N) 65536 = some (.bool false),aA gW = aA gW,aA LG = aA (dN (fun j => cS (ps j)) 0 N),N = N,N ≤ 65536,iT ps N = 0,aA (dN (fun j => bG (zQ ps j)) 0 N) = aA (dN (fun j => bG (zQ ps j)) 0 N),aA LX = aA (dN (fun j => [.q (x j)]) 0 N),N = N,n = N,N < 32],.many [.fl (yI (gC F2 iZ (uZ (zQ ps) x N))),.im (.int .i64 0)]):=by kernel_rfl
def fO (ps : Nat → bY) (x : Nat → Nat) (N : Nat) : Pt Q2 × Int:=if iT ps N ≠ 0 then (some (F2.zero,F2.zero),iT ps N) else (gC F2 iZ (uZ (zQ ps) x N),0)
theorem Bp {w0 : World} {args : List Value} {LG LX : List At} {N n2 n4 : Nat} {ps : Nat → bY} {x : Nat → Nat} (h1 : aA LG = aA (dN (fun j => cS (ps j)) 0 N)) (h2 : aA LX = aA (dN (fun j => [.q (x j)]) 0 N)) (hN : N < 32) (ha : bD w0 [.v (.fl gW),.s LG N n2,.s LX N n4] args) : Good prog 94 (.many [.fl (yI (fO ps x N).1),.im (.int .i64 (fO ps x N).2)]) args w0:=by
 have g1 : aP .neq .i64 (Int.ofNat N) (Int.ofNat N) = some (.bool false):=by rw [aEZ,decide_eq_false (by simp)]
 have g2 : aP .gtr .i64 (Int.ofNat N) 65536 = some (.bool false):=by
  have:=Io (i:=N) (n:=65536);rw [decide_eq_false (by omega)] at this;exact this
 unfold fO
 by_cases h : iT ps N = 0
 ·rw [if_neg (fun q => q h)];exact bA aG (fun _ _ => TabOkW.add (iA.w _ _) func133 (by kernel_rfl) (by kernel_rfl) fun w hw => Uy) (Pk ps N w0) func94 (ZH LG LX N n2 N n4 ps x) ⟨g1,g2,rfl,h1,rfl,by omega,h,rfl,h2,rfl,rfl,hN,trivial⟩ ha
 ·rw [if_pos h];exact bA aG (fun _ _ => (iA.ad func132 Vh).w _ _) ((aK prog).w _ _) func94 (ZI LG LX N n2 N n4 ps) ⟨g1,g2,rfl,h1,rfl,by omega,h,KT h,trivial⟩ ha
def p2 {A : Type} (p q : A) : Nat → A | 0 => p | _ + 1 => q
def p3 {A : Type} (p q r : A) : Nat → A | 0 => p | 1 => q | _ + 2 => r
def aBO (ps : Nat → bY) (x : Nat → Nat) (N : Nat) : gE
 | [.v (.fl l),.s L n1 n2,.s X n3 n4] => some ([aA l = aA gW,aA L = aA (dN (fun j => cS (ps j)) 0 N),aA X = aA (dN (fun j => [.q (x j)]) 0 N),n1 = N,n3 = N,N < 32],.many [.fl (yI (fO ps x N).1),.im (.int .i64 (fO ps x N).2)])
 | _ => none
theorem Uz {ps : Nat → bY} {x : Nat → Nat} {N : Nat} : ∀ cs pre r,aBO ps x N cs = some (pre,r) → aL pre → ∀ (args : List Value) (w : World),bD w cs args → Good prog 94 r args w:=by
 intro cs pre r hg hq args w ha;unfold aBO at hg;split at hg
 ·rename_i l L n1 n2 X n3 n4;cases hg;obtain ⟨h1,h2,h3,rfl,rfl,h6,_⟩:=hq;refine Bp (LG:=L) (LX:=X) (n2:=n2) (n4:=n4) h2 h3 h6 ?_
  match args,ha with
  | [u,v,t],ha =>
   refine ⟨?_,ha.2.1,ha.2.2.1,trivial⟩;show u = .agg (aA gW).toArray;rw [← h1]; exact ha.1
  | [],ha => exact ha.elim
  | [_],ha => exact ha.2.elim
  | [_,_],ha => exact ha.2.2.elim
  | _ :: _ :: _ :: _ :: _,ha => exact ha.2.2.2.elim
 ·cases hg
theorem Ag (p : bY) (n : Nat) : aU prog (qG prog) (fun _ => ⟨fun s => (SR true).add 94 (aBO (fun _ => p) (fun _ => n) 1),fun s => true,fun _ => none⟩) f56 60 [.v (.fl (cS p)),.v (.fl [.q n])] = some ([aA gW = aA gW,aA (cS p) = aA (dN (fun j => cS p) 0 1),aA [.q n] = aA (dN (fun j => [At.q n]) 0 1),1 = 1,1 = 1,1 < 32],.many [.fl (yI (fO (fun _ => p) (fun _ => n) 1).1),.im (.int .i64 (fO (fun _ => p) (fun _ => n) 1).2)]):=by kernel_rfl
def mZ : Tab:=((SR true)).add 56 (g2 As PT fun p n => ([],.many [.fl (yI (fO (fun _ => p) (fun _ => n) 1).1),.im (.int .i64 (fO (fun _ => p) (fun _ => n) 1).2)]))
theorem lZ : TabOk prog mZ:=((VD true)).ad func56 (iQ iN fU fun p n hp args w ha => aD aG (fun _ s => (VD true).ad func94 Uz) (aK prog) func56 (Ag p n) ⟨rfl,rfl,rfl,rfl,rfl,by omega,trivial⟩ ha)
section
variable {R : Type} (K : CR R)
end
def Zu (p : bY) : J2:=bif p.2.2 then (F2.one,F2.one,F2.zero) else (m2 p.1,m2 p.2.1,F2.one)
theorem EP {p : dU} (h : (cV p.1 p.2.1 p.2.2).1 = 0) : p.2.2 = false → nG p.1 ∧ nG p.2.1:=fun hb => by
 rw [jS,hb,if_neg (by simp)] at h
 by_cases hb : nG p.1 ∧ nG p.2.1
 ·exact hb
 ·rw [if_pos hb] at h;cases h
def CC (a : J2) (n L : Nat) : Nat → J2
 | 0 => (F2.one,F2.one,F2.zero)
 | k + 1 => if iW (wv n) (L - 1 - k) = 1 then rplus F2 (eN F2 (CC a n L k)) a else eN F2 (CC a n L k)
namespace AG
variable {G : Type} (A : AG G)
theorem addz (a : G) : A.add a A.zero = a:=by rw [A.comm,A.zadd]
theorem addn (a : G) : A.add a (A.neg a) = A.zero:=by rw [A.comm,A.nadd]
theorem left_comm (a b c : G) : A.add a (A.add b c) = A.add b (A.add a c):=by rw [← A.assoc,A.comm a b,A.assoc]
theorem cancel {a b c : G} (h : A.add a b = A.add a c) : b = c:=by
 have:=congrArg (A.add (A.neg a)) h
 rwa [← A.assoc,← A.assoc,A.nadd,A.zadd,A.zadd] at this
theorem neg_add (a b : G) : A.neg (A.add a b) = A.add (A.neg a) (A.neg b):=by
 apply A.cancel (a:=A.add a b);rw [A.addn,A.assoc,A.left_comm b,A.addn,A.addz,A.addn]
theorem add4 (a b c d : G) : A.add (A.add a b) (A.add c d) = A.add (A.add a c) (A.add b d):=by
 rw [A.assoc,A.left_comm b,← A.assoc]
def ns : Nat → G → G
 | 0,_ => A.zero
 | n + 1,g => A.add (ns n g) g
theorem ns_add (m : Nat) (g : G) : ∀ n,A.ns (m + n) g = A.add (A.ns m g) (A.ns n g)
 | 0 => (A.addz _).symm
 | n + 1 => by show A.add (A.ns (m + n) g) g = A.add _ (A.add _ _); rw [ns_add m g n,A.assoc]
theorem ns_zero : ∀ n,A.ns n A.zero = A.zero
 | 0 => rfl
 | n + 1 => by show A.add (A.ns n _) _ = _; rw [ns_zero n,A.zadd]
theorem ns_mul (m : Nat) (g : G) : ∀ n,A.ns (m * n) g = A.ns n (A.ns m g)
 | 0 => rfl
 | n + 1 => by rw [Nat.mul_add,Nat.mul_one,ns_add,ns_mul m g n]; rfl
def zs : Int → G → G
 | .ofNat n,g => A.ns n g
 | .negSucc n,g => A.neg (A.ns (n + 1) g)
theorem zs_sub (m n : Nat) (g : G) : A.zs (Int.subNatNat m n) g = A.add (A.ns m g) (A.neg (A.ns n g)):=by
 unfold Int.subNatNat;split
 ·rename_i h;have : m = n + (m - n):=by omega
  show A.ns (m - n) g = _
  conv => rhs; rw [this,ns_add]
  rw [A.comm (A.ns n g),A.assoc,A.addn,A.addz]
 ·rename_i k h;have : n = m + (k + 1):=by omega
  show A.neg (A.ns (k + 1) g) = _;rw [this,ns_add A m g (k + 1),A.neg_add (A.ns m g),← A.assoc,A.addn,A.zadd]
theorem zs_add (g : G) (a b : Int) : A.zs (a + b) g = A.add (A.zs a g) (A.zs b g):=by
 cases a with
 | ofNat m =>
  cases b with
  | ofNat n => exact A.ns_add m g n
  | negSucc n => exact A.zs_sub m (n + 1) g
 | negSucc m =>
  cases b with
  | ofNat n => show A.zs (Int.subNatNat n (m + 1)) g = _; rw [zs_sub,A.comm]; rfl
  | negSucc n =>
   show A.neg (A.ns (m + n + 1 + 1) g) = A.add (A.neg (A.ns (m + 1) g)) (A.neg (A.ns (n + 1) g));rw [← A.neg_add,← ns_add,show m + 1 + (n + 1) = m + n + 1 + 1 by omega]
def sm (P : Nat → G) (c : Nat → Int) : Nat → G
 | 0 => A.zero
 | n + 1 => A.add (sm P c n) (A.zs (c n) (P n))
theorem sm_add (P : Nat → G) (c d : Nat → Int) : ∀ n,A.sm P (fun i => c i + d i) n = A.add (A.sm P c n) (A.sm P d n)
 | 0 => (A.zadd _).symm
 | n + 1 => by show A.add (A.sm P _ n) (A.zs (c n + d n) (P n)) = A.add (A.add _ _) (A.add _ _); rw [sm_add P c d n,zs_add,A.add4]
theorem sm_congr {P : Nat → G} {c d : Nat → Int} : ∀ {n},(∀ i,i < n → c i = d i) → A.sm P c n = A.sm P d n
 | 0,_ => rfl
 | n + 1,h => by show A.add _ (A.zs (c n) _) = A.add _ (A.zs (d n) _); rw [sm_congr fun i hi => h i (by omega),h n (by omega)]
theorem sm_zero (P : Nat → G) : ∀ n,A.sm P (fun _ => 0) n = A.zero
 | 0 => rfl
 | n + 1 => by show A.add (A.sm P _ n) A.zero = _; rw [sm_zero P n,A.zadd]
theorem sm_two (P : Nat → G) (c : Nat → Int) (n : Nat) : A.add (A.sm P c n) (A.sm P c n) = A.sm P (fun i => 2 * c i) n:=by
 rw [← sm_add];exact A.sm_congr fun i _ => by omega
end AG
def nR (w : Nat) : Int:=((w + 1) / 2 : Nat) - (if 16 ≤ w then 16 else 0 : Int)
def xH (x p : Nat) : Nat:=(if p = 0 then x * 2 else x / 2 ^ (p * 4 - 1)) % 32
def jK (x PL : Nat) : Nat → Int
 | 0 => 0
 | i + 1 => 16 * jK x PL i + nR (xH x (PL - 1 - i))
theorem Kn (x PL : Nat) (h : x < 2 ^ (4 * PL - 1)) (h0 : 0 < PL) : ∀ i,i < PL → jK x PL i = ((x / 2 ^ (4 * (PL - i)) + x / 2 ^ (4 * (PL - i) - 1) % 2 : Nat) : Int)
 | 0,_ => by
  have h1 : x / 2 ^ (4 * PL - 1) = 0:=Nat.div_eq_of_lt h;have h2 : x / 2 ^ (4 * PL) = 0:=Nat.div_eq_of_lt (Nat.lt_of_lt_of_le h (Nat.pow_le_pow_right (by omega) (by omega)));show (0 : Int) = ((x / 2 ^ (4 * (PL - 0)) + x / 2 ^ (4 * (PL - 0) - 1) % 2 : Nat) : Int);rw [Nat.sub_zero,h1,h2]; rfl
 | i + 1,hi => by
  have ih:=Kn x PL h h0 i (by omega);show 16 * jK x PL i + nR (xH x (PL - 1 - i)) = _;rw [ih];have hp : PL - 1 - i ≠ 0:=by omega
  have e1 : 4 * (PL - i) = (4 * (PL - (i + 1)) - 1) + 5:=by omega
  have e2 : 4 * (PL - i) - 1 = (4 * (PL - (i + 1)) - 1) + 4:=by omega
  have e3 : 4 * (PL - (i + 1)) = (4 * (PL - (i + 1)) - 1) + 1:=by omega
  have e4 : (PL - 1 - i) * 4 - 1 = 4 * (PL - (i + 1)) - 1:=by omega
  unfold nR xH;rw [if_neg hp,e1,e4];rw [show (4 * (PL - (i + 1)) - 1) + 5 - 1 = (4 * (PL - (i + 1)) - 1) + 4 by omega];have e5 : x / 2 ^ (4 * (PL - (i + 1))) = x / 2 ^ (4 * (PL - (i + 1)) - 1) / 2:=by
   conv => lhs; rw [e3]
   rw [Nat.pow_add,← Nat.div_div_eq_div_mul]
  rw [e5,Nat.pow_add,Nat.pow_add,← Nat.div_div_eq_div_mul,← Nat.div_div_eq_div_mul];generalize x / 2 ^ (4 * (PL - (i + 1)) - 1) = a;show 16 * ((a / 32 + a / 16 % 2 : Nat) : Int) + (((a % 32 + 1) / 2 : Nat) - (if 16 ≤ a % 32 then 16 else 0 : Int)) = ((a / 2 + a % 2 : Nat) : Int);split <;> omega
theorem Ur (x PL : Nat) (h : x < 2 ^ (4 * PL - 1)) (h0 : 0 < PL) : jK x PL PL = x:=by
 obtain ⟨k,rfl⟩ : ∃ k,PL = k + 1:=⟨PL - 1,by omega⟩
 show 16 * jK x (k + 1) k + nR (xH x (k + 1 - 1 - k)) = _;rw [Kn x (k + 1) h h0 k (by omega),show k + 1 - 1 - k = 0 by omega,show k + 1 - k = 1 by omega];unfold nR xH;rw [if_pos rfl];show 16 * ((x / 16 + x / 8 % 2 : Nat) : Int) + (((x * 2 % 32 + 1) / 2 : Nat) - (if 16 ≤ x * 2 % 32 then 16 else 0 : Int)) = (x : Int);split <;> omega
open Classical
section
variable {R : Type} {K : CR R} {inv : R → R} {b : R}
def Rp (E : EC K inv b) (p : Jc R) (P : {p : Pt R // On K b p}) : Prop:=gC K inv p = P.1
theorem Rp.on {E : EC K inv b} {p : Jc R} {P : {p : Pt R // On K b p}} (h : Rp E p P) : On K b (gC K inv p):=by
 rw [show gC K inv p = P.1 from h]; exact P.2
theorem Rp.plus {E : EC K inv b} {p q : Jc R} {P Q : {p : Pt R // On K b p}} (h : Rp E p P) (g : Rp E q Q) : Rp E (fJ K p q) (E.grp.add P Q):=by
 show gC K inv (fJ K p q) = sL K inv P.1 Q.1;rw [LH E h.on g.on,show gC K inv p = P.1 from h,show gC K inv q = Q.1 from g]
theorem Rp.rplus {E : EC K inv b} {p q : Jc R} {P Q : {p : Pt R // On K b p}} (h : Rp E p P) (g : Rp E q Q) : Rp E (rplus K p q) (E.grp.add P Q):=by
 show gC K inv (Ex.rplus K p q) = sL K inv P.1 Q.1;rw [Bv E h.on g.on,show gC K inv p = P.1 from h,show gC K inv q = Q.1 from g]
theorem Rp.dbl {E : EC K inv b} {p : Jc R} {P : {p : Pt R // On K b p}} (h : Rp E p P) : Rp E (eN K p) (E.grp.add P P):=by
 show gC K inv (eN K p) = sL K inv P.1 P.1;rw [WD E h.on,show gC K inv p = P.1 from h]
theorem Rp.neg {E : EC K inv b} {p : Jc R} {P : {p : Pt R // On K b p}} (h : Rp E p P) : Rp E (DU K p) (E.grp.neg P):=by
 show gC K inv (DU K p) = Yd K P.1;rw [Ul,show gC K inv p = P.1 from h]
theorem Rp.zero {E : EC K inv b} {p : Jc R} (h : p.2.2 = K.zero) : Rp E p E.grp.zero:=cQ h
theorem EC.inv_one (E : EC K inv b) : inv K.one = K.one:=by
 have:=E.F.inv K.one E.F.ne
 rwa [K.one_mul] at this
theorem EC.jto_one (E : EC K inv b) (x y : R) : gC K inv (x,y,K.one) = some (x,y):=by
 rw [dF (p:=(x,y,K.one)) E.F.ne];refine congrArg some (Prod.ext ?_ ?_)
 ·show K.mul x (K.mul (inv K.one) (inv K.one)) = x;rw [E.inv_one,K.one_mul,K.mul_one]
 ·show K.mul y (K.mul (K.mul (inv K.one) (inv K.one)) (inv K.one)) = y;rw [E.inv_one,K.one_mul,K.one_mul,K.mul_one]
end
namespace AG
variable {G : Type} (A : AG G)
end AG
open Go.RowKit
open Classical
theorem KR (c : Nat) (hc : c < FP.M) (h0 : c ≠ 0) (hv : c ^ rD % FP.M ≠ 1) (n : Fq) : F1.mul n (F1.mul n n) ≠ fm c:=fun h => by
 have hv' : n.1 ^ 3 % FP.M = c:=by
  have:=congrArg Fin.val h;have e : n.1 * (n.1 * n.1 % FP.M) % FP.M = c % FP.M:=this;rw [Nat.mul_mod_mod,← Nat.mul_assoc,show n.1 * n.1 * n.1 = n.1 ^ 3 by rw [Nat.pow_succ,Nat.pow_two]] at e;rw [e]; exact Nat.mod_eq_of_lt hc
 have h1 : 0 < n.1:=by
  rcases Nat.eq_zero_or_pos n.1 with h1 | h1
  ·rw [h1] at hv';exact (h0 hv'.symm).elim
  ·exact h1
 have:=aFG h1 n.2;rw [← Dz,Nat.pow_mul,Nat.pow_mod,hv'] at this;exact hv this
theorem aFT : 3 ^ rD % FP.M ≠ 1:=by
 rw [← zP FP.M 256 3 rD (by decide)];exact of_decide_eq_true (by kernel_rfl)
def nb2 : Nat:=21087453498479301738505683583845423561061080261299122796980902361914303298513
theorem aFS : nb2 ^ rD % FP.M ≠ 1:=by
 rw [← zP FP.M 256 nb2 rD (by decide)];exact of_decide_eq_true (by kernel_rfl)
theorem aFf : iE qD = fm nb2:=by decide
section
variable {R : Type} (K : CR R)
theorem XC {x b : R} (h : K.add (K.mul x (K.mul x x)) b = K.zero) : K.mul (K.neg x) (K.mul (K.neg x) (K.neg x)) = b:=by
 have e : K.mul (K.neg x) (K.mul (K.neg x) (K.neg x)) = K.add (K.neg (K.add (K.mul x (K.mul x x)) b)) b:=aN K (bX K [x,b]) (.mul (.neg (.v 0)) (.mul (.neg (.v 0)) (.neg (.v 0)))) (.add (.neg (.add (.mul (.v 0) (.mul (.v 0) (.v 0))) (.v 1))) (.v 1)) (by decide);rw [e,h];have z : K.neg K.zero = K.zero:=by have:=K.neg_add K.zero; rwa [K.add_zero] at this
 rw [z,K.zero_add]
end
theorem ec1 : EC F1 gY (fm 3) where
 F:=⟨XZ,fun x h => mH h⟩
 two:=fun h => absurd (congrArg Fin.val h) (by decide)
 odd:=fun x h => KR 3 (by decide) (by decide) aFT _ (XC F1 h)
theorem cC : EC F2 iZ qD where
 F:=⟨aCh.1,fun x h => TG fun e => h (pE e)⟩
 two:=fun h => absurd (congrArg (fun x : Q2 => x.1.1) h) (by decide)
 odd:=fun x h => by
  have h1:=congrArg iE (XC F2 h);rw [DH,DH,aFf] at h1;exact KR nb2 (by decide) (by decide) aFS _ h1
theorem Zv (x : Nat) : wv x % 18446744073709551616 = fw x 0:=by
 obtain ⟨h0,h1,h2,h3⟩:=bR x;unfold wv aC;omega
theorem EL (x p : Nat) : kZ x p = nR (xH (wv x) p):=by
 have e : gZ x p = xH (wv x) p:=by
  unfold gZ xH
  by_cases h : p = 0
  ·rw [if_pos h,if_pos h];unfold TZ;have:=Zv x;omega
  ·rw [if_neg h,if_neg h];generalize wv x / 2 ^ (p * 4 - 1) = y;show y / 18446744073709551616 ^ 0 % 18446744073709551616 % 32 = y % 32;rw [Nat.pow_zero,Nat.div_one];omega
 unfold kZ nR;rw [e]
abbrev C2:={p : Pt Q2 // On F2 qD p}
theorem DR {p : J2} {g : C2} (h : Rp cC p g) : ∀ k,Rp cC (zA p k) (cC.grp.ns k g)
 | 0 => Rp.zero rfl
 | k + 1 => (DR h k).plus h
theorem Dw {p : J2} {g : C2} (h : Rp cC p g) : ∀ d : Int,Rp cC (YL p d) (cC.grp.zs d g)
 | .ofNat 0 => Rp.zero rfl
 | .ofNat (k + 1) => DR h (k + 1)
 | .negSucc k => (DR h (k + 1)).neg
theorem XD {pt : Nat → J2} {g : Nat → C2} {N : Nat} (h : ∀ j,j < N → Rp cC (pt j) (g j)) (x : Nat → Nat) (p : Nat) : ∀ n,n ≤ N → Rp cC (AT pt x p n) (cC.grp.sm g (fun j => nR (xH (wv (x j)) p)) n)
 | 0,_ => Rp.zero rfl
 | n + 1,hn => by
  have h2:=Dw (h n (by omega)) (kZ (x n) p);rw [EL] at h2;have h1:=XD h x p n (by omega);have:=h1.plus h2;rw [← EL] at this;show Rp cC _ (cC.grp.add _ (cC.grp.zs (nR (xH (wv (x n)) p)) (g n)));rw [← EL];exact this
theorem UR {D : Nat → J2} {g : Nat → C2} {N PL : Nat} {x : Nat → Nat} (h : ∀ p,Rp cC (D p) (cC.grp.sm g (fun j => nR (xH (wv (x j)) p)) N)) : ∀ k,Rp cC (Bg D PL k) (cC.grp.sm g (fun j => jK (wv (x j)) PL k) N)
 | 0 => by
  show Rp cC _ (cC.grp.sm g (fun _ => 0) N);rw [cC.grp.sm_zero];exact Rp.zero rfl
 | k + 1 => by
  have h1:=(UR (PL:=PL) h k).dbl.dbl.dbl.dbl.plus (h (PL - 1 - k));rw [cC.grp.sm_two,cC.grp.sm_two,cC.grp.sm_two,cC.grp.sm_two,← cC.grp.sm_add] at h1;rw [cC.grp.sm_congr (d:=fun j => jK (wv (x j)) PL (k + 1)) (fun j _ => by show _ = 16 * jK (wv (x j)) PL k + _; omega)] at h1;exact h1
theorem YN {pt : Nat → J2} {g : Nat → C2} {N : Nat} (h : ∀ j,j < N → Rp cC (pt j) (g j)) (x : Nat → Nat) : Rp cC (uZ pt x N) (cC.grp.sm g (fun j => (wv (x j) : Int)) N):=by
 have h1:=UR (PL:=nE x N / 4 + 1) (fun p => XD h x p N (Nat.le_refl _)) (nE x N / 4 + 1);rw [cC.grp.sm_congr (d:=fun j => (wv (x j) : Int)) (fun j hj => Ur _ _ (Nat.lt_of_lt_of_le (uA (x j)).1 (Nat.pow_le_pow_right (by omega) (by have:=Jj x N j hj; omega))) (by omega))] at h1;exact h1
theorem IX {a : J2} {g : C2} (h : Rp cC a g) (n : Nat) : ∀ k,k ≤ dQ n → Rp cC (CC a n (dQ n) k) (cC.grp.ns (wv n / 2 ^ (dQ n - k)) g)
 | 0,_ => by
  rw [Nat.sub_zero,Nat.div_eq_of_lt (uA n).1];exact Rp.zero rfl
 | k + 1,hk => by
  have ih:=IX h n k (by omega);have e : wv n / 2 ^ (dQ n - k) = wv n / 2 ^ (dQ n - (k + 1)) / 2:=by
   rw [show dQ n - k = (dQ n - (k + 1)) + 1 by omega,Nat.pow_add,← Nat.div_div_eq_div_mul]
  have e2 : iW (wv n) (dQ n - 1 - k) = wv n / 2 ^ (dQ n - (k + 1)) % 2:=by
   unfold iW;rw [show dQ n - 1 - k = dQ n - (k + 1) by omega]
  rw [e] at ih;generalize wv n / 2 ^ (dQ n - (k + 1)) = y at ih e2 ⊢;have h2:=ih.dbl;rw [← cC.grp.ns_add] at h2
  by_cases hb : iW (wv n) (dQ n - 1 - k) = 1
  ·rw [show CC a n (dQ n) (k + 1) = rplus F2 (eN F2 (CC a n (dQ n) k)) a from if_pos hb];have h3:=h2.rplus h;rw [show y = y / 2 + y / 2 + 1 by omega];exact h3
  ·rw [show CC a n (dQ n) (k + 1) = eN F2 (CC a n (dQ n) k) from if_neg hb];have hb0:=xJ (wv n) (dQ n - 1 - k);rw [show y = y / 2 + y / 2 by omega];exact h2
def Ph (p : bY) : Pt Q2:=bif p.2.2 then none else some (m2 p.1,m2 p.2.1)
theorem Mq {p : bY} (h : (dT p).1 = 0) : gC F2 iZ (dT p).2 = Ph p ∧ On F2 qD (Ph p):=by
 obtain ⟨x,y,b⟩:=p;have e:=iV x y b;show gC F2 iZ (fM x y b).2 = _ ∧ _;have h' : (fM x y b).1 = 0:=h;cases b with
 | true =>
  rw [if_pos rfl] at e;refine ⟨?_,trivial⟩;have : (fM x y true).2.2.2 = F2.zero:=by
   rw [e];split <;> rfl
  exact cQ this
 | false =>
  rw [if_neg (by simp)] at e
  by_cases hb : ¬ (iH x ∧ iH y)
  ·rw [if_pos hb] at e;rw [e] at h'; cases h'
  ·rw [if_neg hb] at e
   by_cases hy : F2.mul (m2 y) (m2 y) = F2.add (F2.mul (F2.mul (m2 x) (m2 x)) (m2 x)) qD
   ·rw [if_pos hy] at e;rw [e];refine ⟨cC.jto_one _ _,?_⟩;show F2.mul (m2 y) (m2 y) = F2.add (F2.mul (m2 x) (F2.mul (m2 x) (m2 x))) qD;rw [hy,F2.mul_comm (m2 x) (F2.mul (m2 x) (m2 x))]
   ·rw [if_neg hy] at e;rw [e] at h'; cases h'
theorem Zt (p : bY) : gC F2 iZ (Zu p) = Ph p:=by
 obtain ⟨x,y,b⟩:=p;cases b with
 | true => exact cQ rfl
 | false => exact cC.jto_one _ _
def sS (p : bY) : C2:=if h : (dT p).1 = 0 then ⟨Ph p,(Mq h).2⟩ else cC.grp.zero
theorem rV {p : bY} (h : (dT p).1 = 0) : (sS p).1 = Ph p:=by unfold sS; rw [dif_pos h]
theorem Vx {p : bY} (h : (dT p).1 = 0) : Rp cC (dT p).2 (sS p):=(Mq h).1.trans (rV h).symm
theorem aCv {p : bY} (h : (dT p).1 = 0) : Rp cC (Zu p) (sS p):=(Zt p).trans (rV h).symm
theorem UG (p : bY) (n : Nat) : fO (fun _ => p) (fun _ => n) 1 = if (dT p).1 ≠ 0 then ((some (F2.zero,F2.zero)),(dT p).1) else ((cC.grp.ns (wv n) (sS p)).1,0):=by
 have e1 : iT (fun _ => p) 1 = (dT p).1:=if_neg (fun h => h rfl);unfold fO;rw [e1]
 by_cases h1 : (dT p).1 = 0
 ·simp only [h1,ne_eq,not_true_eq_false,not_false_eq_true,if_true,if_false];have hr:=YN (pt:=zQ (fun _ => p)) (g:=fun _ => sS p) (N:=1) (fun j hj => Vx h1) (fun _ => n);have hr' : gC F2 iZ (uZ (zQ (fun _ => p)) (fun _ => n) 1) = (cC.grp.add cC.grp.zero (cC.grp.ns (wv n) (sS p))).1:=hr;rw [cC.grp.zadd] at hr';rw [hr']
 ·simp only [h1,ne_eq,not_true_eq_false,not_false_eq_true,if_true,if_false]
def gCk (k : Bool) : gE:=g1 Xx fun p => bif k then ([(cV p.1 p.2.1 p.2.2).1 = 0],.one (.im (.int .i64 0))) else ([],.one (.im (.int .i64 (cV p.1 p.2.1 p.2.2).1)))
theorem Li {f : FuncId} (h : ∀ (p : dU) (args : List Value) (w : World),bD w [.v (.fl (fA p))] args → Good prog f (.one (.im (.int .i64 (cV p.1 p.2.1 p.2.2).1))) args w) (k : Bool) :
  ∀ cs pre r,gCk k cs = some (pre,r) → aL pre → ∀ (args : List Value) (w : World),bD w cs args → Good prog f r args w :=
 cM qT fun p hp args w ha => by
  cases k
  ·exact h p args w ha
  ·have e : (cV p.1 p.2.1 p.2.2).1 = 0:=hp.1;have:=h p args w ha;rw [e] at this;exact this
theorem Rf (p : dU) : aU prog (qG prog) (fun _ => ⟨fun _ => mZ,fun _ => true,fun _ => none⟩) f45 60 [.v (.fl (fA p))] = some ([],.one (.im (.int .i64 (cV p.1 p.2.1 p.2.2).1))):=by kernel_rfl
theorem Hr (p : dU) (args : List Value) (w : World) (ha : bD w [.v (.fl (fA p))] args) : Good prog 45 (.one (.im (.int .i64 (cV p.1 p.2.1 p.2.2).1))) args w :=
 aD aG (fun _ _ => lZ) (aK prog) func45 (Rf p) trivial ha
def gLq (c : Bool) : gE
 | [.v (.im (.int .i64 (.ofNat 1))),.v (.fl l)] => match PT l with
  | some n => some ([wv n < FP.M,dA FP.M (wv n) = c],.many [.im (.bool c),.im (.int .i64 0)])
  | none => none
 | _ => none
theorem aBP (c : Bool) : ∀ cs pre r,gLq c cs = some (pre,r) → aL pre → ∀ (args : List Value) (w : World),bD w cs args → Good prog 80 r args w:=by
 intro cs pre r hg hp args w ha;unfold gLq at hg;split at hg
 ·rename_i l;split at hg
  ·rename_i n hn;cases hg
   match args,ha with
   | [v,u],ha =>
    have h1 : v = .int .i64 1:=ha.1;have h2 : u = .agg (aA l).toArray:=ha.2.1;rw [fU l _ hn] at h2;subst h1; subst h2;have h:=AK 1 FP fW _ _ _ _ (bR n) hp.1 w;refine h.mono ?_
    rintro e w' ⟨rfl,hb⟩
    refine ⟨?_,hb⟩;have e2 : dA FP.M (aC (fw n 0) (fw n 1) (fw n 2) (fw n 3)) = c:=hp.2.1;rw [e2];rfl
   | [],ha => exact ha.elim
   | [_],ha => exact ha.2.elim
   | _ :: _ :: _ :: _,ha => exact ha.2.2.elim
  ·cases hg
 ·cases hg
def aDS (c : Bool) : Tab:=mZ.add 80 (gLq c)
theorem Yh (c : Bool) : TabOk prog (aDS c):=lZ.ad func80 (aBP c)
theorem Rh (c : Bool) (n : Nat) : aU prog (qG prog) (fun _ => ⟨fun _ => aDS c,fun _ => true,fun _ => none⟩) f46 60 [.v (.fl (q1 n))] = some ([wv n < FP.M,dA FP.M (wv n) = c],.one (.im (.bool c))):=by kernel_rfl
def XW (c : Bool) : Tab:=(aDS c).add 46 (g1 PT fun n => ([wv n < FP.M,dA FP.M (wv n) = c],.one (.im (.bool c))))
theorem QO (c : Bool) : TabOk prog (XW c):=(Yh c).ad func46 (cM (op:=fun n => ([wv n < FP.M,dA FP.M (wv n) = c],.one (.im (.bool c)))) fU fun n hp args w ha => aD aG (fun _ _ => Yh c) (aK prog) func46 (Rh c n) hp ha)
def gSm : gE
 | [.v (.im (.bool i)),.v (.im (.bool l))] => some ([],.one (.im (.int .u8 (bif i then 1 else bif l then 2 else 3))))
 | _ => none
theorem aAy (i l : Bool) : aU prog (qG prog) (fun _ => ⟨fun _ => T0,fun _ => true,fun _ => none⟩) f22 60 [.v (.im (.bool i)),.v (.im (.bool l))] = some ([],.one (.im (.int .u8 (bif i then 1 else bif l then 2 else 3)))):=by cases i <;> cases l <;> kernel_rfl
theorem Ku : ∀ cs pre r,gSm cs = some (pre,r) → aL pre → ∀ (args : List Value) (w : World),bD w cs args → Good prog 22 r args w:=by
 intro cs pre r hg hp args w ha;unfold gSm at hg;split at hg
 ·rename_i i l;cases hg;exact aD aG (fun _ _ => eW _) (aK prog) func22 (aAy i l) trivial ha
 ·cases hg
def gLm : gE
 | [.v (.im (.bool i))] => some ([],.one (.im (.int .u8 (bif i then 1 else 0))))
 | _ => none
theorem aAA (i : Bool) : aU prog (qG prog) (fun _ => ⟨fun _ => T0,fun _ => true,fun _ => none⟩) f25 60 [.v (.im (.bool i))] = some ([],.one (.im (.int .u8 (bif i then 1 else 0)))):=by cases i <;> kernel_rfl
theorem Lb : ∀ cs pre r,gLm cs = some (pre,r) → aL pre → ∀ (args : List Value) (w : World),bD w cs args → Good prog 25 r args w:=by
 intro cs pre r hg hp args w ha;unfold gLm at hg;split at hg
 ·rename_i i;cases hg;exact aD aG (fun _ _ => eW _) (aK prog) func25 (aAA i) trivial ha
 ·cases hg
def SN (k c : Bool) : Tab:=(((XW c).add 45 (gCk k)).add 22 gSm).add 25 gLm
theorem zX (k c : Bool) : TabOk prog (SN k c):=(((QO c).ad func45 (Li Hr k)).ad func22 Ku).ad func25 Lb
theorem jF (w : World) : bU prog (qY prog (x3 L3 W4 (fun _ => none) (fun _ => none))) w.heap.size w:=lG aGA aGv w
def dM (T : Tab) : Nat → Cfg:=fun _ => ⟨fun _ => T,fun _ => true,fun _ => none⟩
def z8 : Nat → List At
 | 0 => []
 | n + 1 => .c (.int .u8 0) :: z8 n
def Mk (N : Nat) : Prop:=∃ e,∀ w : World,(Instr.makeSlice 29 (.int .i64 N) (.int .i64 N)).run prog w = .ok (.slice (some ⟨w.heap.size,0,none⟩) N N) (w.alloc (.cells (aA (z8 N)).toArray e))
theorem Dc : ∀ (s n : Nat),dN (fun _ => [At.c (.int .u8 0)]) s n = z8 n
 | _,0 => rfl
 | s,n + 1 => congrArg (At.c (.int .u8 0) :: ·) (Dc (s + 1) n)
theorem aFj (N : Nat) (h : N < 1000) : Mk N:=by
 have h1:=KY (P:=prog) (t:=29) (e:=5) (z:=[At.c (.int .u8 0)]) (v:=.int .u8 0) (N:=N) (n:=1) (by8:=1) (by kernel_rfl) (by kernel_rfl) rfl rfl (by omega) (by omega) (by omega);rw [Dc] at h1;exact h1
def Tn (x y : Nat) (i : Bool) : List Prop × RV:=([aP .neq .i64 (cV x y i).1 0 = some (.bool true)],.many [.im (.slice none 0 0),.im (.int .i64 (cV x y i).1)])
def Pf (T : Tab) (s : Nat) : Nat → Cfg:=fun _ => ⟨fun _ => T,fun _ => true,fun n => bif Nat.beq n s then some (.bool true) else none⟩
theorem OT (x y : Nat) (i : Bool) : aU prog (qG prog) (Pf (SN false true) 8) f18 60 [.v (.fl (fA (x,y,i)))] = some (Tn x y i):=by kernel_rfl
theorem OU (x y : Nat) (i : Bool) : aU prog (qG prog) (Pf (SN false true) 8) f19 60 [.v (.fl (fA (x,y,i)))] = some (Tn x y i):=by kernel_rfl
theorem Fg (x y : Nat) (c : Bool) : iR prog (qY prog (x3 L3 W4 (fun _ => none) (fun _ => none))) (dM (SN true c)) f18 80 [.v (.fl (fA (x,y,true)))] = some ([(cV x y true).1 = 0,wv y < FP.M,dA FP.M (wv y) = c,1 < 4],⟨bm (wv x) 1,32,5,1,true,[],[.im (.int .i64 0)]⟩):=by kernel_rfl
theorem Fh (x y : Nat) (c : Bool) : iR prog (qY prog (x3 L3 W4 (fun _ => none) (fun _ => none))) (dM (SN true c)) f18 80 [.v (.fl (fA (x,y,false)))] = some ([(cV x y false).1 = 0,wv y < FP.M,dA FP.M (wv y) = c,(bif c then 2 else 3) < 4],⟨bm (wv x) (bif c then 2 else 3),32,5,1,true,[],[.im (.int .i64 0)]⟩):=by cases c <;> kernel_rfl
theorem Fi (x y : Nat) : iR prog (qY prog (x3 L3 W4 (fun _ => none) (fun _ => none))) (dM (SN true true)) f19 80 [.v (.fl (fA (x,y,true)))] = some ([(cV x y true).1 = 0,1 < 4],⟨bm (wv x) 1 ++ bl (wv y),64,5,1,true,[],[.im (.int .i64 0)]⟩):=by kernel_rfl
theorem Fj (x y : Nat) : iR prog (qY prog (x3 L3 W4 (fun _ => none) (fun _ => none))) (dM (SN true true)) f19 80 [.v (.fl (fA (x,y,false)))] = some ([(cV x y false).1 = 0,0 < 4],⟨bm (wv x) 0 ++ bl (wv y),64,5,1,true,[],[.im (.int .i64 0)]⟩):=by kernel_rfl
def nK (c i : Bool) : Nat:=bif i then 1 else bif c then 2 else 3
theorem FS.ok.weak {r : FS} {w : World} {e : Ending} {w' : World} (h : r.ok w e w') {l : List At} (hl : aA l = aA r.l) : (⟨l,r.n,0,0,false,r.ante,r.post⟩ : FS).ok w e w':=by
 obtain ⟨b,cap,h1,h2,h3,h4,h5,h6,_⟩:=h;exact ⟨b,cap,h1,h2,h3,h4,by rw [hl]; exact h5,h6,fun h => by cases h⟩
def QQ (c : Bool) (p : dU) : List Prop:=[(cV p.1 p.2.1 p.2.2).1 = 0,wv p.2.1 < FP.M,dA FP.M (wv p.2.1) = c]
theorem wM {x y : Nat} (h : (cV x y true).1 = 0) : wv x = 0 ∧ wv y = 0:=by
 rw [jS,if_pos rfl] at h
 by_cases hz : NH x ∧ NH y
 ·exact hz
 ·rw [if_neg hz] at h; cases h
theorem AB {p : dU} (h : (cV p.1 p.2.1 p.2.2).1 = 0) : aL (QQ (dA FP.M (wv p.2.1)) p):=by
 refine ⟨h,?_,rfl,trivial⟩;obtain ⟨x,y,i⟩:=p;cases i
 ·exact (EP h rfl).2
 ·show wv y < FP.M;rw [(wM h).2]; exact bW
theorem Xu (c : Bool) : (bif c then 2 else 3) < 4:=by cases c <;> decide
theorem Ni {x y : Nat} {i : Bool} (h : (cV x y i).1 ≠ 0) : aP .neq .i64 (cV x y i).1 0 = some (.bool true):=by
 show some (Value.bool ((cV x y i).1 != 0)) = _;rw [bne_iff_ne.2 h]
theorem aDC {f : FuncId} {fn : Func} (hf : prog.funcs[f]? = some fn) {T : Tab} (hT : TabOk prog T) {s n : Nat} (p : dU) (h : aU prog (qG prog) (Pf T s) fn n [.v (.fl (fA (p.1,p.2.1,p.2.2)))] = some (Tn p.1 p.2.1 p.2.2)) (h0 : (cV p.1 p.2.1 p.2.2).1 ≠ 0) (args : List Value) (w : World) (ha : bD w [.v (.fl (fA p))] args) :
  Good prog f (.many [.im (.slice none 0 0),.im (.int .i64 (cV p.1 p.2.1 p.2.2).1)]) args w:=aD aG (fun _ _ => hT) (aK prog) hf h ⟨Ni h0,trivial⟩ ha
def gFS (pre : dU → List Prop) (o : dU → FS) : List CA → Option (List Prop × FS)
 | [.v (.fl l)] => match Xx l with
  | some p => some (pre p,o p)
  | none => none
 | _ => none
theorem RG {f : FuncId} {pre : dU → List Prop} {o : dU → FS} (h : ∀ p,aL (pre p) → ∀ (args : List Value) (w : World),bD w [.v (.fl (fA p))] args → Calls prog f args.toArray w (fun e w' => (o p).ok w e w')) :
  ∀ cs ps r,gFS pre o cs = some (ps,r) → aL ps → ∀ (args : List Value) (w : World),bD w cs args → Calls prog f args.toArray w (fun e w' => r.ok w e w'):=by
 intro cs ps r hg hp args w ha;unfold gFS at hg;split at hg
 ·rename_i l;split at hg
  ·rename_i p hn;cases hg;refine h p hp args w ?_;rw [sV ha,qT l _ hn];exact ⟨rfl,trivial⟩
  ·cases hg
 ·cases hg
def u8? : At → Option Nat
 | .c (.int .u8 (.ofNat b)) => some b
 | _ => none
def lN : List At → Option (List Nat)
 | [] => some []
 | a :: r => match u8? a,lN r with | some x,some l => some (x :: l) | _,_ => none
theorem xE : ∀ {l : List At} {L : List Nat},lN l = some L → ∀ k,k < L.length → (aA l)[k]? = some (.int .u8 (Int.ofNat (L.getD k 0)))
 | [],L,h,k,hk => by cases h; exact absurd hk (by simp)
 | a :: r,L,h,k,hk => by
  unfold lN at h;split at h
  ·rename_i x l' h1 h2;cases h;have ha : a.cells = [.int .u8 (Int.ofNat x)]:=by
    unfold u8? at h1;split at h1
    ·cases h1; rfl
    ·cases h1
   show (a.cells ++ aA r)[k]? = _;rw [ha];cases k with
   | zero => rfl
   | succ k => exact xE h2 k (by simpa using hk)
  ·cases h
def L8 (L : List Nat) : Prop:=L.length = 32 ∧ ∀ k,L.getD k 0 < 256
def hv (L : List Nat) : Nat:=Go.Proofs.YtfnkbmlmgnadmaaGreat.jK (fun k => L.getD k 0) 0 32
def wl (N : Nat) : List At:=[.c (.int .u64 (Int.ofNat (fw N 0))),.c (.int .u64 (Int.ofNat (fw N 1))),.c (.int .u64 (Int.ofNat (fw N 2))),.c (.int .u64 (Int.ofNat (fw N 3)))]
def gRd : gE
 | [c] => match Jw c with
  | some (l,32) => (match lN l with | some L => some ([L8 (L.take 32)],.many [.fl (wl (hv (L.take 32))),.im (.int .i64 0)]) | none => none)
  | _ => none
 | _ => none
theorem Kl {L : List Nat} (h : L8 L) : hv L < 115792089237316195423570985008687907853269984665640564039457584007913129639936:=by
 have:=RC (B:=fun k => L.getD k 0) h.2 0 32;exact Nat.lt_of_lt_of_le this (by decide)
theorem Uh {c : CA} {l : List At} {n : Nat} (h : Jw c = some (l,n)) {w : World} {v : Value} (hc : c.ok w v) : ∃ b o m,v = .slice (some ⟨b,o,none⟩) n m ∧ b < w.heap.size ∧ w.rangeAt b o (aA l):=by
 cases c with
 | v x => cases h
 | s l' n' m =>
  cases h;obtain ⟨b,o,e,hb,hr⟩:=hc;exact ⟨b,o,m,e,hb,hr⟩
 | so l' n' =>
  cases h;obtain ⟨b,o,m,e,hb,hr⟩:=hc;exact ⟨b,o,m,e,hb,hr⟩
theorem aBK : ∀ cs pre r,gRd cs = some (pre,r) → aL pre → ∀ (args : List Value) (w : World),bD w cs args → Good prog 61 r args w:=by
 intro cs pre r hg hp args w ha;unfold gRd at hg;split at hg
 ·rename_i c;split at hg
  ·rename_i l hl;split at hg
   ·rename_i L hL;cases hg;have h8 : L8 (L.take 32):=hp.1;have hle : 32 ≤ L.length:=by have:=h8.1; rw [List.length_take] at this; omega
    have htk : ∀ k,k < 32 → (L.take 32).getD k 0 = L.getD k 0:=fun k hk => by rw [List.getD_eq_getElem?_getD,List.getElem?_take,if_pos hk,← List.getD_eq_getElem?_getD]
    match args,ha with
    | [v],ha =>
     obtain ⟨b,o,m,rfl,hb,hr⟩:=Uh hl (by have:=ha; cases c <;> exact this.1);have h:=Rx b o m (fun k => (L.take 32).getD k 0) h8.2 w hb fun k hk => hr k _ (by have h:=xE hL k (by omega); rw [← htk k hk] at h; exact h)
     refine h.mono ?_
     rintro e w' ⟨s0,s1,s2,s3,c',rfl,hs,⟨h1,rfl⟩,hbl⟩
     obtain ⟨rfl,rfl,rfl,rfl⟩:=fG hs (Kl h8) h1;exact ⟨rfl,hbl⟩
    | [],ha => cases c <;> exact ha.elim
    | _ :: _ :: _,ha => cases c <;> exact ha.2.elim
   ·cases hg
  ·cases hg
 ·cases hg
def bL (B : Nat → Nat) : List At:=[.c (.int .u8 (Int.ofNat (B 0))),.c (.int .u8 (Int.ofNat (B 1))),.c (.int .u8 (Int.ofNat (B 2))),.c (.int .u8 (Int.ofNat (B 3))),.c (.int .u8 (Int.ofNat (B 4))),.c (.int .u8 (Int.ofNat (B 5))),.c (.int .u8 (Int.ofNat (B 6))),.c (.int .u8 (Int.ofNat (B 7))),.c (.int .u8 (Int.ofNat (B 8))),.c (.int .u8 (Int.ofNat (B 9))),.c (.int .u8 (Int.ofNat (B 10))),.c (.int .u8 (Int.ofNat (B 11))),.c (.int .u8 (Int.ofNat (B 12))),.c (.int .u8 (Int.ofNat (B 13))),.c (.int .u8 (Int.ofNat (B 14))),.c (.int .u8 (Int.ofNat (B 15))),.c (.int .u8 (Int.ofNat (B 16))),.c (.int .u8 (Int.ofNat (B 17))),.c (.int .u8 (Int.ofNat (B 18))),.c (.int .u8 (Int.ofNat (B 19))),.c (.int .u8 (Int.ofNat (B 20))),.c (.int .u8 (Int.ofNat (B 21))),.c (.int .u8 (Int.ofNat (B 22))),.c (.int .u8 (Int.ofNat (B 23))),.c (.int .u8 (Int.ofNat (B 24))),.c (.int .u8 (Int.ofNat (B 25))),.c (.int .u8 (Int.ofNat (B 26))),.c (.int .u8 (Int.ofNat (B 27))),.c (.int .u8 (Int.ofNat (B 28))),.c (.int .u8 (Int.ofNat (B 29))),.c (.int .u8 (Int.ofNat (B 30))),.c (.int .u8 (Int.ofNat (B 31)))]
def bN (B : Nat → Nat) : List Nat:=[B 0,B 1,B 2,B 3,B 4,B 5,B 6,B 7,B 8,B 9,B 10,B 11,B 12,B 13,B 14,B 15,B 16,B 17,B 18,B 19,B 20,B 21,B 22,B 23,B 24,B 25,B 26,B 27,B 28,B 29,B 30,B 31]
def wO : gE
 | [.v (.im (.int .u8 (.ofNat m)))] => bif Nat.blt m 4 then some ([],.one (.im (.bool (Nat.beq m 2 || Nat.beq m 3)))) else none
 | _ => none
theorem OE : aU prog (qG prog) (fun _ => ⟨fun _ => T0,fun _ => true,fun _ => none⟩) f33 60 [.v (.im (.int .u8 0))] = some ([],.one (.im (.bool false))):=by kernel_rfl
theorem OD : aU prog (qG prog) (fun _ => ⟨fun _ => T0,fun _ => true,fun _ => none⟩) f33 60 [.v (.im (.int .u8 1))] = some ([],.one (.im (.bool false))):=by kernel_rfl
theorem OC : aU prog (qG prog) (fun _ => ⟨fun _ => T0,fun _ => true,fun _ => none⟩) f33 60 [.v (.im (.int .u8 2))] = some ([],.one (.im (.bool true))):=by kernel_rfl
theorem OB : aU prog (qG prog) (fun _ => ⟨fun _ => T0,fun _ => true,fun _ => none⟩) f33 60 [.v (.im (.int .u8 3))] = some ([],.one (.im (.bool true))):=by kernel_rfl
theorem rU : ∀ cs pre r,wO cs = some (pre,r) → aL pre → ∀ (args : List Value) (w : World),bD w cs args → Good prog 33 r args w:=by
 intro cs pre r hg hp args w ha;unfold wO at hg;split at hg
 ·rename_i m
  match m,hg with
  | 0,hg => cases hg; exact aD aG (fun _ _ => eW _) (aK prog) func33 OE trivial ha
  | 1,hg => cases hg; exact aD aG (fun _ _ => eW _) (aK prog) func33 OD trivial ha
  | 2,hg => cases hg; exact aD aG (fun _ _ => eW _) (aK prog) func33 OC trivial ha
  | 3,hg => cases hg; exact aD aG (fun _ _ => eW _) (aK prog) func33 OB trivial ha
  | m + 4,hg =>
   have hb : Nat.blt (m + 4) 4 = false:=Bool.eq_false_iff.2 fun h => absurd (Nat.le_of_ble_eq_true h) (by omega)
   rw [hb] at hg;cases hg
 ·cases hg
def pY : Tab:=(T0.add 61 gRd).add 33 wO
theorem kC : TabOk prog pY:=((eW _).ad func61 aBK).ad func33 rU
def xT (a m : Nat) : Ext:=x3 TD FQ (assoc [(33,.int .u8 (Int.ofNat m)),(84,.int .u64 (Int.ofNat (4 * a % 18446744073709551616))),(85,.int .u64 (Int.ofNat (a % 4611686018427387904)))]) (fun i => bif Nat.beq i 54 then some (2,[.q 0,.q 0]) else none)
theorem sE (a m : Nat) (w : World) : bU prog (qY prog (xT a m)) w.heap.size w:=lG (hJ _) (fZ _) w
def Cr : Prop:=∃ e,∀ w : World,(Instr.makeSlice 61 (.int .i64 2) (.int .i64 2)).run prog w = .ok (.slice (some ⟨w.heap.size,0,none⟩) 2 2) (w.alloc (.cells (aA [.q 0,.q 0]).toArray e))
theorem pF : Cr :=
 KY (P:=prog) (t:=61) (e:=24) (z:=[.q 0]) (v:=.int .u64 0) (N:=2) (n:=4) (by8:=32) (by kernel_rfl) (by kernel_rfl) rfl (show aA [At.q 0] = List.replicate (aA [At.q 0]).length (Value.int .u64 0) from by kernel_rfl) (by omega) (by omega) (by omega)
theorem Qt (B : Nat → Nat) (c : Nat) : iR prog (qY prog (xT (fw (hv (bN B)) 3) 1)) (dM pY) f32 100 [.s (bL B) 32 c,.v (.im (.int .i64 1))] = some ([lO .shr 5 (.tmp 32) (.const (.int .u64 6)) (.int .u8 (Int.ofNat (B 0))) (.int .u64 6) (.int .u8 (Int.ofNat 1)),Cr,0 ≤ 32,32 ≤ c,0 < c,L8 (bN B),lO .shl 22 (.tmp 83) (.const (.int .u64 2)) (.int .u64 (Int.ofNat (fw (hv (bN B)) 3))) (.int .u64 2) (.int .u64 (Int.ofNat (4 * fw (hv (bN B)) 3 % 18446744073709551616))),lO .shr 22 (.tmp 84) (.const (.int .u64 2)) (.int .u64 (Int.ofNat (4 * fw (hv (bN B)) 3 % 18446744073709551616))) (.int .u64 2) (.int .u64 (Int.ofNat (fw (hv (bN B)) 3 % 4611686018427387904)))],⟨[.c (.int .u64 (Int.ofNat (fw (hv (bN B)) 0))),.c (.int .u64 (Int.ofNat (fw (hv (bN B)) 1))),.c (.int .u64 (Int.ofNat (fw (hv (bN B)) 2))),.c (.int .u64 (Int.ofNat (fw (hv (bN B)) 3 % 4611686018427387904))),.q 0],2,0,0,false,[.im (.int .u8 (Int.ofNat 1))],[.im (.int .i64 0)]⟩):=by kernel_rfl
theorem Qs (B : Nat → Nat) (c : Nat) : iR prog (qY prog (xT (fw (hv (bN B)) 3) 2)) (dM pY) f32 100 [.s (bL B) 32 c,.v (.im (.int .i64 1))] = some ([lO .shr 5 (.tmp 32) (.const (.int .u64 6)) (.int .u8 (Int.ofNat (B 0))) (.int .u64 6) (.int .u8 (Int.ofNat 2)),Cr,0 ≤ 32,32 ≤ c,0 < c,L8 (bN B),lO .shl 22 (.tmp 83) (.const (.int .u64 2)) (.int .u64 (Int.ofNat (fw (hv (bN B)) 3))) (.int .u64 2) (.int .u64 (Int.ofNat (4 * fw (hv (bN B)) 3 % 18446744073709551616))),lO .shr 22 (.tmp 84) (.const (.int .u64 2)) (.int .u64 (Int.ofNat (4 * fw (hv (bN B)) 3 % 18446744073709551616))) (.int .u64 2) (.int .u64 (Int.ofNat (fw (hv (bN B)) 3 % 4611686018427387904)))],⟨[.c (.int .u64 (Int.ofNat (fw (hv (bN B)) 0))),.c (.int .u64 (Int.ofNat (fw (hv (bN B)) 1))),.c (.int .u64 (Int.ofNat (fw (hv (bN B)) 2))),.c (.int .u64 (Int.ofNat (fw (hv (bN B)) 3 % 4611686018427387904))),.q 0],2,0,0,false,[.im (.int .u8 (Int.ofNat 2))],[.im (.int .i64 0)]⟩):=by kernel_rfl
theorem Qr (B : Nat → Nat) (c : Nat) : iR prog (qY prog (xT (fw (hv (bN B)) 3) 3)) (dM pY) f32 100 [.s (bL B) 32 c,.v (.im (.int .i64 1))] = some ([lO .shr 5 (.tmp 32) (.const (.int .u64 6)) (.int .u8 (Int.ofNat (B 0))) (.int .u64 6) (.int .u8 (Int.ofNat 3)),Cr,0 ≤ 32,32 ≤ c,0 < c,L8 (bN B),lO .shl 22 (.tmp 83) (.const (.int .u64 2)) (.int .u64 (Int.ofNat (fw (hv (bN B)) 3))) (.int .u64 2) (.int .u64 (Int.ofNat (4 * fw (hv (bN B)) 3 % 18446744073709551616))),lO .shr 22 (.tmp 84) (.const (.int .u64 2)) (.int .u64 (Int.ofNat (4 * fw (hv (bN B)) 3 % 18446744073709551616))) (.int .u64 2) (.int .u64 (Int.ofNat (fw (hv (bN B)) 3 % 4611686018427387904)))],⟨[.c (.int .u64 (Int.ofNat (fw (hv (bN B)) 0))),.c (.int .u64 (Int.ofNat (fw (hv (bN B)) 1))),.c (.int .u64 (Int.ofNat (fw (hv (bN B)) 2))),.c (.int .u64 (Int.ofNat (fw (hv (bN B)) 3 % 4611686018427387904))),.q 0],2,0,0,false,[.im (.int .u8 (Int.ofNat 3))],[.im (.int .i64 0)]⟩):=by kernel_rfl
theorem Qu (B : Nat → Nat) (c : Nat) : aU prog (qY prog (xT (fw (hv (bN B)) 3) 0)) (dM pY) f32 100 [.s (bL B) 32 c,.v (.im (.int .i64 1))] = some ([lO .shr 5 (.tmp 32) (.const (.int .u64 6)) (.int .u8 (Int.ofNat (B 0))) (.int .u64 6) (.int .u8 (Int.ofNat 0))],.many [.im (.int .u8 0),.im (.slice none 0 0),.im (.int .i64 44)]):=by kernel_rfl
def xv (N : Nat) : Nat:=N % 28948022309329048855892746252171976963317496166410141009864396001978282409984
theorem BR (N : Nat) : aA [.c (.int .u64 (Int.ofNat (fw N 0))),.c (.int .u64 (Int.ofNat (fw N 1))),.c (.int .u64 (Int.ofNat (fw N 2))),.c (.int .u64 (Int.ofNat (fw N 3 % 4611686018427387904))),.q 0] = aA [.q (xv N),.q 0]:=by
 have h0 : fw N 0 = fw (xv N) 0:=by
  show N / 1 % 18446744073709551616 = N % 28948022309329048855892746252171976963317496166410141009864396001978282409984 / 1 % 18446744073709551616;omega
 have h1 : fw N 1 = fw (xv N) 1:=by
  show N / 18446744073709551616 % 18446744073709551616 = N % 28948022309329048855892746252171976963317496166410141009864396001978282409984 / 18446744073709551616 % 18446744073709551616;omega
 have h2 : fw N 2 = fw (xv N) 2:=by
  show N / 340282366920938463463374607431768211456 % 18446744073709551616 = N % 28948022309329048855892746252171976963317496166410141009864396001978282409984 / 340282366920938463463374607431768211456 % 18446744073709551616;omega
 have h3 : fw N 3 % 4611686018427387904 = fw (xv N) 3:=by
  show N / 6277101735386680763835789423207666416102355444464034512896 % 18446744073709551616 % 4611686018427387904 = N % 28948022309329048855892746252171976963317496166410141009864396001978282409984 / 6277101735386680763835789423207666416102355444464034512896 % 18446744073709551616;omega
 rw [h0,h1,h2,h3];rfl
theorem kO {t : Nat} {x y : Operand} {a : Nat} (ha : a < 18446744073709551616) : lO .shl t x y (.int .u64 (Int.ofNat a)) (.int .u64 2) (.int .u64 (Int.ofNat (4 * a % 18446744073709551616))):=fun w => by
 simp only [Int.ofNat_eq_natCast];simp [eqGuard,binOp,go_sem];rw [show ∀ z : Int,IntKind.u64.wrap z = z % 18446744073709551616 from fun _ => rfl];omega
theorem kN {t : Nat} {x y : Operand} {a : Nat} (ha : a < 18446744073709551616) : lO .shr t x y (.int .u64 (Int.ofNat (4 * a % 18446744073709551616))) (.int .u64 2) (.int .u64 (Int.ofNat (a % 4611686018427387904))):=fun w => by
 simp only [Int.ofNat_eq_natCast];simp [eqGuard,binOp,go_sem];omega
theorem sG {R : Type} (K : CR R) {a b : R} (h : K.sub a b = K.zero) : a = b:=by
 have h1 : K.add (K.add a (K.neg b)) b = b:=by
  rw [show K.add a (K.neg b) = K.zero from h,K.zero_add]
 rw [K.add_assoc,K.neg_add,K.add_zero] at h1;exact h1
theorem fT {R : Type} (K : CR R) (a : R) : K.sub a a = K.zero:=K.add_neg a
set_option maxRecDepth 10000
theorem Gh {R : Type} (K : CR R) (a b n h k X : R) : (K.mul (K.mul (K.mul b h) k) (K.mul (K.mul b h) k)) = (K.add (K.add (K.add (K.add (K.sub (K.mul X X) a) (K.mul (K.mul (K.sub (K.mul X X) a) (K.add (K.mul X k) K.one)) (K.sub (K.mul X k) K.one))) (K.mul (K.neg (K.mul (K.mul k k) (K.sub (K.add (K.mul X X) (K.mul (K.add a n) h)) (K.add (K.mul a h) (K.mul a h))))) (K.sub (K.mul X X) (K.mul (K.add a n) h)))) (K.mul (K.neg (K.mul (K.mul (K.mul k k) a) (K.mul X X))) (K.sub (K.add h h) K.one))) (K.mul (K.neg (K.mul (K.mul h h) (K.mul k k))) (K.sub (K.mul n n) (K.add (K.mul a a) (K.mul b b))))) :=
 aN K (bX K [a,b,n,h,k,X]) (.mul (.mul (.mul (.v 1) (.v 3)) (.v 4)) (.mul (.mul (.v 1) (.v 3)) (.v 4))) (.add (.add (.add (.add (.add (.mul (.v 5) (.v 5)) (.neg (.v 0))) (.mul (.mul (.add (.mul (.v 5) (.v 5)) (.neg (.v 0))) (.add (.mul (.v 5) (.v 4)) .one)) (.add (.mul (.v 5) (.v 4)) (.neg .one)))) (.mul (.neg (.mul (.mul (.v 4) (.v 4)) (.add (.add (.mul (.v 5) (.v 5)) (.mul (.add (.v 0) (.v 2)) (.v 3))) (.neg (.add (.mul (.v 0) (.v 3)) (.mul (.v 0) (.v 3))))))) (.add (.mul (.v 5) (.v 5)) (.neg (.mul (.add (.v 0) (.v 2)) (.v 3)))))) (.mul (.neg (.mul (.mul (.mul (.v 4) (.v 4)) (.v 0)) (.mul (.v 5) (.v 5)))) (.add (.add (.v 3) (.v 3)) (.neg .one)))) (.mul (.neg (.mul (.mul (.v 3) (.v 3)) (.mul (.v 4) (.v 4)))) (.add (.mul (.v 2) (.v 2)) (.neg (.add (.mul (.v 0) (.v 0)) (.mul (.v 1) (.v 1))))))) (by decide)
theorem Gg {R : Type} (K : CR R) (a b n h k X : R) : (K.add (K.mul X (K.mul (K.mul b h) k)) (K.mul (K.mul (K.mul b h) k) X)) = (K.add (K.add b (K.mul (K.mul b (K.mul X k)) (K.sub (K.add h h) K.one))) (K.mul b (K.sub (K.mul X k) K.one))) :=
 aN K (bX K [a,b,n,h,k,X]) (.add (.mul (.v 5) (.mul (.mul (.v 1) (.v 3)) (.v 4))) (.mul (.mul (.mul (.v 1) (.v 3)) (.v 4)) (.v 5))) (.add (.add (.v 1) (.mul (.mul (.v 1) (.mul (.v 5) (.v 4))) (.add (.add (.v 3) (.v 3)) (.neg .one)))) (.mul (.v 1) (.add (.mul (.v 5) (.v 4)) (.neg .one)))) (by decide)
theorem Gf {R : Type} (K : CR R) (a b n h k X : R) : (K.mul (K.mul (K.add a n) h) (K.mul (K.sub a n) h)) = (K.add (K.neg (K.mul (K.mul b h) (K.mul b h))) (K.mul (K.neg (K.mul h h)) (K.sub (K.mul n n) (K.add (K.mul a a) (K.mul b b))))) :=
 aN K (bX K [a,b,n,h,k,X]) (.mul (.mul (.add (.v 0) (.v 2)) (.v 3)) (.mul (.add (.v 0) (.neg (.v 2))) (.v 3))) (.add (.neg (.mul (.mul (.v 1) (.v 3)) (.mul (.v 1) (.v 3)))) (.mul (.neg (.mul (.v 3) (.v 3))) (.add (.mul (.v 2) (.v 2)) (.neg (.add (.mul (.v 0) (.v 0)) (.mul (.v 1) (.v 1))))))) (by decide)
theorem Ge {R : Type} (K : CR R) {a b n h k X : R} (g1 : K.mul X X = K.mul (K.add a n) h) (g2 : K.mul n n = K.add (K.mul a a) (K.mul b b)) (g3 : K.add h h = K.one) (g4 : K.mul X k = K.one) :
  K.mul (K.mul (K.mul b h) k) (K.mul (K.mul b h) k) = K.sub (K.mul X X) a ∧ K.add (K.mul X (K.mul (K.mul b h) k)) (K.mul (K.mul (K.mul b h) k) X) = b:=by
 have d1:=fT K (K.mul (K.add a n) h);have z1 : K.sub (K.mul X X) (K.mul (K.add a n) h) = K.zero:=by rw [g1]; exact fT K _
 have z2 : K.sub (K.mul n n) (K.add (K.mul a a) (K.mul b b)) = K.zero:=by rw [g2]; exact fT K _
 have z3 : K.sub (K.add h h) K.one = K.zero:=by rw [g3]; exact fT K _
 have z4 : K.sub (K.mul X k) K.one = K.zero:=by rw [g4]; exact fT K _
 constructor
 ·rw [Gh K a b n h k X,z1,z2,z3,z4];simp only [K.mul_zero,K.add_zero]
 ·rw [Gg K a b n h k X,z3,z4];simp only [K.mul_zero,K.add_zero]
theorem Ap {R : Type} (K : CR R) {a b n h : R} (g2 : K.mul n n = K.add (K.mul a a) (K.mul b b)) : K.mul (K.mul (K.add a n) h) (K.mul (K.sub a n) h) = K.neg (K.mul (K.mul b h) (K.mul b h)):=by
 have z2 : K.sub (K.mul n n) (K.add (K.mul a a) (K.mul b b)) = K.zero:=by rw [g2]; exact fT K _
 rw [Gf K a b n h n n,z2,K.mul_zero,K.add_zero]
theorem Xr {R : Type} {K : CR R} (hF : Fld K) {a b : R} (h : K.mul a a = K.mul b b) : a = b ∨ a = K.neg b:=by
 have h1 : K.mul (K.sub a b) (K.add a b) = K.zero:=by
  have : K.mul (K.sub a b) (K.add a b) = K.sub (K.mul a a) (K.mul b b) :=
   aN K (bX K [a,b]) (.mul (.add (.v 0) (.neg (.v 1))) (.add (.v 0) (.v 1))) (.add (.mul (.v 0) (.v 0)) (.neg (.mul (.v 1) (.v 1)))) (by decide)
  rw [this,h,fT]
 by_cases h2 : K.sub a b = K.zero
 ·exact Or.inl (sG K h2)
 ·refine Or.inr ?_;have h3:=hF.zd h1 h2;refine sG K ?_;show K.add a (K.neg (K.neg b)) = K.zero;rw [K.neg_neg];exact h3
theorem Vr : bH 5694840236247301970 7340967054546858659 7931984006246061591 871749566700742666 ∧ aC 5694840236247301970 7340967054546858659 7931984006246061591 871749566700742666 + aC 5694840236247301970 7340967054546858659 7931984006246061591 871749566700742666 = FP.M / 2 + 1:=⟨by unfold bH; decide,by kernel_rfl⟩
theorem Aq {A : Nat} (h : A ^ (FP.M / 2) % FP.M = 1 ∨ A = 0) : A ^ aC 5694840236247301970 7340967054546858659 7931984006246061591 871749566700742666 % FP.M * (A ^ aC 5694840236247301970 7340967054546858659 7931984006246061591 871749566700742666 % FP.M) % FP.M = A % FP.M:=by
 rw [← Nat.mul_mod,← Nat.pow_add,Vr.2,Nat.pow_succ,Nat.mul_mod]
 rcases h with h | h
 ·rw [h,Nat.one_mul,Nat.mod_mod]
 ·subst h; rw [Nat.zero_mod,Nat.mul_zero,Nat.zero_mod]
def dV (x : Fq) : Prop:=∃ V : Fq,F1.mul V V = x
def eR (x : Fq) : Bool:=dA FP.M x.1
theorem hM : FP.M = 21888242871839275222246405745257275088696311157297823662689037894645226208583:=by decide
theorem Jg (x : Fq) : (F1.neg x).1 = (0 + FP.M - x.1) % FP.M:=rfl
theorem tX {x : Fq} (h : x.1 ≠ 0) : (F1.neg x).1 = FP.M - x.1:=by
 have:=x.2;rw [Jg,Nat.zero_add,Nat.mod_eq_of_lt (by omega)]
theorem tZ {x : Fq} (h : x.1 ≠ 0) : eR x = true ↔ x.1 ≤ FP.M - x.1:=by
 have:=x.2;unfold eR dA;rw [decide_eq_true_iff,Nat.zero_add,Nat.mod_eq_of_lt (show FP.M - x.1 < FP.M by omega)]
theorem wC : eR F1.zero = true:=by
 unfold eR dA;exact decide_eq_true (Nat.zero_le _)
theorem uG {x : Fq} (h : x.1 = 0) : x = F1.zero:=Fin.ext h
theorem Js (x : Fq) : eR x = true ∨ eR (F1.neg x) = true:=by
 by_cases h : x.1 = 0
 ·rw [uG h]; exact Or.inl wC
 ·have h2:=x.2;have hn : (F1.neg x).1 ≠ 0:=by rw [tX h]; omega
  rw [tZ h,tZ hn,tX h];omega
theorem pG {x : Fq} (h : eR x = true) (h' : eR (F1.neg x) = true) : x = F1.zero:=by
 by_cases h0 : x.1 = 0
 ·exact uG h0
 ·have h2:=x.2;have hn : (F1.neg x).1 ≠ 0:=by rw [tX h0]; omega
  rw [tZ h0] at h;rw [tZ hn,tX h0] at h';have:=hM;omega
theorem mV {x : Fq} (h : eR x = false) : eR (F1.neg x) = true:=(Js x).resolve_left (by rw [h]; simp)
theorem uC (x : Fq) : dV x ↔ nF FP.M x.1 ≠ -1:=by
 constructor
 ·rintro ⟨V,rfl⟩
  show nF FP.M (V.1 * V.1 % FP.M) ≠ -1;unfold nF
  by_cases h : V.1 = 0
  ·rw [h,Nat.zero_mul,Nat.zero_mod,if_pos rfl]; decide
  ·split
   ·decide
   ·rw [if_pos (aBq EE (by decide) (by omega) V.2)]; decide
 ·intro h;have hs : x.1 ^ (FP.M / 2) % FP.M = 1 ∨ x.1 = 0:=by
   unfold nF at h
   by_cases h0 : x.1 = 0
   ·exact Or.inr h0
   ·rw [if_neg h0] at h
    by_cases h1 : x.1 ^ (FP.M / 2) % FP.M = 1
    ·exact Or.inl h1
    ·rw [if_neg h1] at h; exact absurd rfl h
  refine ⟨⟨x.1 ^ aC 5694840236247301970 7340967054546858659 7931984006246061591 871749566700742666 % FP.M,Nat.mod_lt _ bW⟩,Fin.ext ?_⟩;exact (Aq hs).trans (Nat.mod_eq_of_lt x.2)
theorem DG (x : Fq) : ¬ dV x ↔ nF FP.M x.1 = -1:=by rw [uC]; exact Decidable.not_not
theorem aFr (a b : Fq) : nF FP.M (F1.mul a b).1 = nF FP.M a.1 * nF FP.M b.1:=Ui EE (by decide) (by decide) a.2 b.2
theorem Kf {a b : Fq} (ha : ¬ dV a) (hb : ¬ dV b) : dV (F1.mul a b):=by
 rw [DG] at ha hb;rw [uC,aFr,ha,hb];decide
theorem Tr : ¬ dV (F1.neg F1.one):=fun ⟨V,h⟩ => QT V h
theorem KV (x : Fq) : F1.mul (F1.neg F1.one) x = F1.neg x:=by rw [F1.neg_mul,F1.one_mul]
theorem DV {x : Fq} (h : ¬ dV x) : dV (F1.neg x):=by rw [← KV]; exact Kf Tr h
theorem NZ {x : Fq} (hx : x ≠ F1.zero) (h : dV x) : ¬ dV (F1.neg x):=by
 rintro ⟨W,hW⟩
 obtain ⟨V,rfl⟩:=h;have hV : V ≠ F1.zero:=fun e => hx (by rw [e,F1.mul_zero])
 obtain ⟨t,ht⟩:=Mc LZ hV (show F1.mul W W = F1.mul (F1.neg F1.one) (F1.mul V V) by rw [hW,KV]);exact QT t ht
theorem LI : dV F1.zero:=⟨F1.zero,F1.mul_zero _⟩
open Classical in
def fR (x : Fq) : Fq:=if h : ∃ V : Fq,F1.mul V V = x ∧ eR V = true then Classical.choose h else F1.zero
theorem eT {x : Fq} (h : dV x) : F1.mul (fR x) (fR x) = x ∧ eR (fR x) = true:=by
 have h' : ∃ V : Fq,F1.mul V V = x ∧ eR V = true:=by
  obtain ⟨V,rfl⟩:=h
  rcases Js V with l | l
  ·exact ⟨V,rfl,l⟩
  ·exact ⟨F1.neg V,by rw [F1.neg_mul,F1.mul_neg,F1.neg_neg],l⟩
 unfold fR;rw [dif_pos h'];exact Classical.choose_spec h'
theorem kF {x V : Fq} (h : F1.mul V V = x) (l : eR V = true) : fR x = V:=by
 obtain ⟨h1,h2⟩:=eT ⟨V,h⟩
 rcases Xr LZ (h1.trans h.symm) with e | e
 ·exact e
 ·have l':=h2;rw [e] at l';have hz:=pG l l';rw [e,hz,bM]
theorem LV : fR F1.zero = F1.zero:=kF (F1.mul_zero _) wC
theorem wQ {x : Fq} (h : dV x) (hx : x ≠ F1.zero) : fR x ≠ F1.zero:=fun e => hx (by rw [← (eT h).1,e,F1.mul_zero])
def tH (r : Q2) : Prop:=(r.2 = F1.zero → eR r.1 = true) ∧ (r.2 ≠ F1.zero → eR r.2 = true)
def rN (x : Q2) : Prop:=∃ r : Q2,F2.mul r r = x
open Classical in
def rt (x : Q2) : Q2:=if h : ∃ r : Q2,F2.mul r r = x ∧ tH r then Classical.choose h else F2.zero
theorem Bt {r s : Q2} (h : F2.mul r r = F2.mul s s) (hr : tH r) (hs : tH s) : r = s:=by
 rcases Xr aCh h with e | e
 ·exact e
 ·have e1 : r.1 = F1.neg s.1:=congrArg Prod.fst e;have e2 : r.2 = F1.neg s.2:=congrArg Prod.snd e
  by_cases hz : s.2 = F1.zero
  ·have hz' : r.2 = F1.zero:=by rw [e2,hz,bM]
   have l1:=hr.1 hz';rw [e1] at l1;have h1:=pG (hs.1 hz) l1;exact Prod.ext (by rw [e1,h1,bM]) (by rw [hz',hz])
  ·have hz' : r.2 ≠ F1.zero:=fun h => hz (by rw [← F1.neg_neg s.2,← e2,h,bM])
   have l1:=hr.2 hz';rw [e2] at l1;exact absurd (pG (hs.2 hz) l1) hz
theorem zH {x r : Q2} (h : F2.mul r r = x) (hl : tH r) : rt x = r:=by
 have h' : ∃ r : Q2,F2.mul r r = x ∧ tH r:=⟨r,h,hl⟩
 unfold rt;rw [dif_pos h'];have hs:=Classical.choose_spec h';exact Bt (hs.1.trans h.symm) hs.2 hl
theorem DK (r : Q2) : F2.mul r r = (F1.sub (F1.mul r.1 r.1) (F1.mul r.2 r.2),F1.add (F1.mul r.1 r.2) (F1.mul r.2 r.1)):=by
 refine Prod.ext ?_ rfl;show F1.add (F1.mul r.1 r.1) (F1.mul (F1.neg F1.one) (F1.mul r.2 r.2)) = F1.add (F1.mul r.1 r.1) (F1.neg (F1.mul r.2 r.2));rw [F1.neg_mul,F1.one_mul]
theorem VT (r : Q2) : F2.mul (F2.neg r) (F2.neg r) = F2.mul r r:=by rw [F2.neg_mul,F2.mul_neg,F2.neg_neg]
theorem Cz (r : Q2) : F2.sub F2.zero r = F2.neg r:=F2.zero_add _
def hf : Fq:=gY (fm 2)
theorem uU : fm 2 ≠ F1.zero:=by decide
theorem Ko : F1.add hf hf = F1.one:=by
 have h:=mH uU;have h2 : fm 2 = F1.add F1.one F1.one:=by decide
 rw [← h];unfold hf
 conv => rhs; rw [h2]
 rw [F1.add_mul,F1.one_mul,← h2]
def rr (x : Q2) (s : Fq) : Q2:=(fR s,F1.mul (F1.mul x.2 hf) (gY (fR s)))
theorem UD {x : Q2} {n s : Fq} (hn : F1.mul n n = iE x) (hs : s = F1.mul (F1.add x.1 n) hf) (hq : dV s) (h0 : s ≠ F1.zero) : F2.mul (rr x s) (rr x s) = x:=by
 have h1:=(eT hq).1;have h4:=mH (wQ hq h0);obtain ⟨e1,e2⟩:=Ge F1 (a:=x.1) (b:=x.2) (n:=n) (h:=hf) (k:=gY (fR s)) (X:=fR s) (h1.trans hs) hn Ko h4;rw [DK];refine Prod.ext ?_ e2;show F1.sub (F1.mul (fR s) (fR s)) (F1.mul (F1.mul (F1.mul x.2 hf) (gY (fR s))) (F1.mul (F1.mul x.2 hf) (gY (fR s)))) = x.1;rw [e1];exact aN F1 (bX F1 [F1.mul (fR s) (fR s),x.1]) (.add (.v 0) (.neg (.add (.v 0) (.neg (.v 1))))) (.v 1) (by decide)
theorem Yt : hf ≠ F1.zero:=fun e => by
 have:=Ko;rw [e,F1.add_zero] at this;exact XZ this.symm
theorem QX {a b : Fq} (ha : a ≠ F1.zero) (hb : b ≠ F1.zero) : F1.mul a b ≠ F1.zero:=fun e => hb (LZ.zd e ha)
theorem Jh {a : Fq} (ha : a ≠ F1.zero) : F1.neg a ≠ F1.zero:=fun e => ha (by rw [← F1.neg_neg a,e,bM])
theorem BZ {x : Q2} {n : Fq} (hn : F1.mul n n = iE x) (hx : x.2 ≠ F1.zero) : F1.mul (F1.add x.1 n) hf ≠ F1.zero ∧ F1.mul (F1.sub x.1 n) hf ≠ F1.zero ∧ (¬ dV (F1.mul (F1.add x.1 n) hf) → dV (F1.mul (F1.sub x.1 n) hf)):=by
 have hp:=Ap F1 (a:=x.1) (b:=x.2) (n:=n) (h:=hf) hn;have hb : F1.mul (F1.mul x.2 hf) (F1.mul x.2 hf) ≠ F1.zero:=QX (QX hx Yt) (QX hx Yt);have hne:=Jh hb;rw [← hp] at hne;refine ⟨fun e => hne (by rw [e,F1.zero_mul]),fun e => hne (by rw [e,F1.mul_zero]),fun h1 => Classical.byContradiction fun h2 => ?_⟩;have h3:=Kf h1 h2;rw [hp] at h3;exact NZ hb ⟨_,rfl⟩ h3
theorem rr2 {x : Q2} {s : Fq} (hx : x.2 ≠ F1.zero) (h : F2.mul (rr x s) (rr x s) = x) : (rr x s).2 ≠ F1.zero:=fun e => hx (by
 have:=congrArg Prod.snd h;rw [DK] at this;rw [← this];show F1.add (F1.mul _ (rr x s).2) (F1.mul (rr x s).2 _) = F1.zero;rw [e,F1.mul_zero,F1.zero_mul,F1.add_zero])
theorem CE {x r : Q2} (h : F2.mul r r = x) (hr : r.2 ≠ F1.zero) : (eR r.2 = true → rt x = r) ∧ (eR r.2 = false → rt x = F2.neg r):=by
 refine ⟨fun l => zH h ⟨fun e => absurd e hr,fun _ => l⟩,fun l => zH ((VT r).trans h) ⟨fun e => ?_,fun _ => mV l⟩⟩;exact absurd (show F1.neg r.2 = F1.zero from e) (Jh hr)
theorem Je {x : Q2} (h : ¬ dV (iE x)) : ¬ rN x:=fun ⟨r,hr⟩ => h ⟨iE r,by rw [← DH,hr]⟩
theorem CD (a : Fq) : (dV a → rt (a,F1.zero) = (fR a,F1.zero)) ∧ (¬ dV a → rt (a,F1.zero) = (F1.zero,fR (F1.neg a))) ∧ rN (a,F1.zero):=by
 have k1 : dV a → F2.mul (fR a,F1.zero) (fR a,F1.zero) = (a,F1.zero):=fun h => by
  rw [DK];refine Prod.ext ?_ ?_
  ·show F1.sub (F1.mul (fR a) (fR a)) (F1.mul F1.zero F1.zero) = a;rw [(eT h).1,F1.mul_zero];show F1.add a (F1.neg F1.zero) = a;rw [bM,F1.add_zero]
  ·show F1.add (F1.mul _ F1.zero) (F1.mul F1.zero _) = F1.zero;rw [F1.mul_zero,F1.zero_mul,F1.add_zero]
 have k2 : ¬ dV a → F2.mul (F1.zero,fR (F1.neg a)) (F1.zero,fR (F1.neg a)) = (a,F1.zero):=fun h => by
  rw [DK];refine Prod.ext ?_ ?_
  ·show F1.sub (F1.mul F1.zero F1.zero) (F1.mul (fR (F1.neg a)) (fR (F1.neg a))) = a;rw [(eT (DV h)).1,F1.mul_zero];show F1.add F1.zero (F1.neg (F1.neg a)) = a;rw [F1.neg_neg,F1.zero_add]
  ·show F1.add (F1.mul F1.zero _) (F1.mul _ F1.zero) = F1.zero;rw [F1.mul_zero,F1.zero_mul,F1.add_zero]
 have l1 : dV a → tH (fR a,F1.zero):=fun h => by
  have h2:=(eT h).2;generalize fR a = u at h2 ⊢;exact ⟨fun _ => h2,fun e => (e rfl).elim⟩
 have l2 : ¬ dV a → tH (F1.zero,fR (F1.neg a)):=fun h => by
  have h2:=(eT (DV h)).2;generalize fR (F1.neg a) = u at h2 ⊢;exact ⟨fun _ => wC,fun _ => h2⟩
 refine ⟨fun h => zH (k1 h) (l1 h),fun h => zH (k2 h) (l2 h),?_⟩
 by_cases h : dV a
 ·exact ⟨_,k1 h⟩
 ·exact ⟨_,k2 h⟩
theorem uL : ∀ {l : List At} {L : List Nat},lN l = some L → aA l = L.map fun b => Value.int .u8 (Int.ofNat b)
 | [],L,h => by cases h; rfl
 | a :: r,L,h => by
  unfold lN at h;split at h
  ·rename_i x l' h1 h2;cases h;have ha : a.cells = [.int .u8 (Int.ofNat x)]:=by
    unfold u8? at h1;split at h1
    ·cases h1; rfl
    ·cases h1
   show a.cells ++ aA r = _;rw [ha,uL h2];rfl
  ·cases h
theorem cT : ∀ {L : List Nat},L.length = 32 → bN (fun k => L.getD k 0) = L
 | [a0,a1,a2,a3,a4,a5,a6,a7,a8,a9,a10,a11,a12,a13,a14,a15,a16,a17,a18,a19,a20,a21,a22,a23,a24,a25,a26,a27,a28,a29,a30,a31],_ => rfl
theorem oG (B : Nat → Nat) : aA (bL B) = (bN B).map fun b => Value.int .u8 (Int.ofNat b):=rfl
theorem xP {l : List At} {L : List Nat} (h : lN l = some L) (h8 : L.length = 32) : aA l = aA (bL fun k => L.getD k 0):=by rw [uL h,oG,cT h8]
def gTk (m : Nat) : List CA → Option (List Prop × FS)
 | [.s l 32 c,.v (.im (.int .i64 (.ofNat 1)))] => match lN l with
  | some L => some ([L8 L,L.getD 0 0 / 64 = m,32 ≤ c],⟨[.q (xv (hv L)),.q 0],2,0,0,false,[.im (.int .u8 (Int.ofNat m))],[.im (.int .i64 0)]⟩)
  | none => none
 | _ => none
def aBD : gE
 | [.s l 32 c,.v (.im (.int .i64 (.ofNat 1)))] => match lN l with
  | some L => some ([L8 L,L.getD 0 0 / 64 = 0,32 ≤ c],.many [.im (.int .u8 0),.im (.slice none 0 0),.im (.int .i64 44)])
  | none => none
 | _ => none
theorem Cm {w : World} {v : TV} {l l' : List At} {n c : Nat} (h : aA l = aA l') {args : List Value} (ha : bD w [.s l n c,.v v] args) : bD w [.s l' n c,.v v] args:=by
 match args,ha with
 | [s,u],ha => exact ⟨by obtain ⟨b,o,e,hb,hr⟩:=ha.1; exact ⟨b,o,e,hb,by rw [← h]; exact hr⟩,ha.2.1,trivial⟩
 | [],ha => exact ha.elim
 | [_],ha => exact ha.2.elim
 | _ :: _ :: _ :: _,ha => exact ha.2.2.elim
theorem gX (n k : Nat) : fw n k < 18446744073709551616:=Nat.mod_lt _ (by omega)
theorem aBC (m : Nat) (hm : m = 1 ∨ m = 2 ∨ m = 3) : ∀ cs pre r,gTk m cs = some (pre,r) → aL pre → ∀ (args : List Value) (w : World),bD w cs args → Calls prog 32 args.toArray w (fun e w' => r.ok w e w'):=by
 intro cs pre r hg hp args w ha;unfold gTk at hg;split at hg
 ·rename_i l c;split at hg
  ·rename_i L hL;cases hg;obtain ⟨h8,hb,hc,_⟩:=hp;have ha':=Cm (xP hL h8.1) ha;have hN:=cT h8.1;have zB : lO .shr 5 (.tmp 32) (.const (.int .u64 6)) (.int .u8 (Int.ofNat (L.getD 0 0))) (.int .u64 6) (.int .u8 (Int.ofNat m)):=by
    have:=xM (t:=5) (x:=.tmp 32) (y:=.const (.int .u64 6)) (h8.2 0);rw [hb] at this;exact this
   have fin : ∀ {e : Ending} {w' : World},(⟨[.c (.int .u64 (Int.ofNat (fw (hv L) 0))),.c (.int .u64 (Int.ofNat (fw (hv L) 1))),.c (.int .u64 (Int.ofNat (fw (hv L) 2))),.c (.int .u64 (Int.ofNat (fw (hv L) 3 % 4611686018427387904))),.q 0],2,0,0,false,[.im (.int .u8 (Int.ofNat m))],[.im (.int .i64 0)]⟩ : FS).ok w e w' → (⟨[.q (xv (hv L)),.q 0],2,0,0,false,[.im (.int .u8 (Int.ofNat m))],[.im (.int .i64 0)]⟩ : FS).ok w e w':=fun h => h.weak (BR (hv L)).symm
   rcases hm with rfl | rfl | rfl
   ·have h:=bE aG (fun _ _ => kC.w _ _) (sE _ _ w) func32 (Qt (fun k => L.getD k 0) c) (by rw [hN]; exact ⟨zB,pF,by omega,hc,by omega,h8,kO (gX _ _),kN (gX _ _),trivial⟩) ha';rw [hN] at h;exact h.mono fun e w' h => fin h
   ·have h:=bE aG (fun _ _ => kC.w _ _) (sE _ _ w) func32 (Qs (fun k => L.getD k 0) c) (by rw [hN]; exact ⟨zB,pF,by omega,hc,by omega,h8,kO (gX _ _),kN (gX _ _),trivial⟩) ha';rw [hN] at h;exact h.mono fun e w' h => fin h
   ·have h:=bE aG (fun _ _ => kC.w _ _) (sE _ _ w) func32 (Qr (fun k => L.getD k 0) c) (by rw [hN]; exact ⟨zB,pF,by omega,hc,by omega,h8,kO (gX _ _),kN (gX _ _),trivial⟩) ha';rw [hN] at h;exact h.mono fun e w' h => fin h
  ·cases hg
 ·cases hg
theorem Uv : ∀ cs pre r,aBD cs = some (pre,r) → aL pre → ∀ (args : List Value) (w : World),bD w cs args → Good prog 32 r args w:=by
 intro cs pre r hg hp args w ha;unfold aBD at hg;split at hg
 ·rename_i l c;split at hg
  ·rename_i L hL;cases hg;obtain ⟨h8,hb,hc,_⟩:=hp;have ha':=Cm (xP hL h8.1) ha;have zB : lO .shr 5 (.tmp 32) (.const (.int .u64 6)) (.int .u8 (Int.ofNat (L.getD 0 0))) (.int .u64 6) (.int .u8 (Int.ofNat 0)):=by
    have:=xM (t:=5) (x:=.tmp 32) (y:=.const (.int .u64 6)) (h8.2 0);rw [hb] at this;exact this
   exact bA aG (fun _ _ => kC.w _ _) (sE _ _ w) func32 (Qu (fun k => L.getD k 0) c) ⟨zB,trivial⟩ ha'
  ·cases hg
 ·cases hg
def Cj (k : Bool) (x : Nat) : Fq:=bif k then F1.mul (F1.mul (m1 x) (m1 x)) (m1 x) else F1.zero
def gE3 (k : Bool) : gE
 | [.v (.im (.int .i64 (.ofNat 1))),.v (.fl l),.v (.fl m)] => match PT l with
  | some x => some ([(bif k then wv x < FP.M else ¬ wv x < FP.M),aA m = aA [.q 3]],.many [.fl (e1 (Cj k x)),.im (.int .i64 (bif k then 0 else 21))])
  | none => none
 | _ => none
theorem aBT (k : Bool) : ∀ cs pre r,gE3 k cs = some (pre,r) → aL pre → ∀ (args : List Value) (w : World),bD w cs args → Good prog 81 r args w:=by
 intro cs pre r hg hp args w ha;unfold gE3 at hg;split at hg
 ·rename_i l m;split at hg
  ·rename_i x hx;cases hg;obtain ⟨h1,h2,_⟩:=hp
   match args,ha with
   | [v,u,t],ha =>
    have e1 : v = .int .i64 1:=ha.1;have e2 : u = .agg (aA l).toArray:=ha.2.1;have e3 : t = .agg (aA m).toArray:=ha.2.2.1;rw [fU l _ hx] at e2;rw [h2] at e3;subst e1; subst e2; subst e3;cases k
    ·have h1' : ¬ aC (fw x 0) (fw x 1) (fw x 2) (fw x 3) < FP.M:=h1;exact (Lq 1 21 _ _ _ _ _ _ _ _ (bR x) (bR 3) (Or.inr ⟨FP,fW,h1',rfl⟩) w).mono fun e w' h => ⟨h.1.trans (show Ending.returned (Value.tuple #[.agg #[.int .u64 0,.int .u64 0,.int .u64 0,.int .u64 0],.int .i64 21]) = Ending.returned (RV.many [TV.fl (e1 F1.zero),TV.im (.int .i64 21)]).den from by kernel_rfl),h.2⟩
    ·have h1' : aC (fw x 0) (fw x 1) (fw x 2) (fw x 3) < FP.M:=h1;refine (Vo 1 FP fW _ _ _ _ _ _ _ _ (bR x) (bR 3) h1' w).mono ?_
     rintro e w' ⟨s0,s1,s2,s3,rfl,hs,hv,hb⟩
     have hv' : aC s0 s1 s2 s3 = (Cj true x).1:=by
      rw [hv,oD (x:=3) (by omega)];have e4 : (m1 x).1 = wv x:=Nat.mod_eq_of_lt h1;show wv x ^ 3 % FP.M = (m1 x).1 * (m1 x).1 % FP.M * (m1 x).1 % FP.M;rw [e4,Nat.mod_mul_mod,Nat.pow_succ,Nat.pow_succ,Nat.pow_one]
     obtain ⟨rfl,rfl,rfl,rfl⟩:=fG hs (gM (Cj true x).2) hv';exact ⟨rfl,hb⟩
   | [],ha => exact ha.elim
   | [_],ha => exact ha.2.elim
   | [_,_],ha => exact ha.2.2.elim
   | _ :: _ :: _ :: _ :: _,ha => exact ha.2.2.2.elim
  ·cases hg
 ·cases hg
theorem Kg {x : Fq} (h : dV x) : x.1 ^ (FP.M / 2) % FP.M = 1 ∨ x.1 = 0:=by
 rw [uC] at h;unfold nF at h
 by_cases h0 : x.1 = 0
 ·exact Or.inr h0
 ·rw [if_neg h0] at h
  by_cases h1 : x.1 ^ (FP.M / 2) % FP.M = 1
  ·exact Or.inl h1
  ·rw [if_neg h1] at h; exact absurd rfl h
theorem Ja {x : Fq} (h : ¬ dV x) : x.1 ≠ 0 ∧ x.1 ^ (FP.M / 2) % FP.M ≠ 1:=by
 rw [DG] at h;unfold nF at h
 by_cases h0 : x.1 = 0
 ·rw [if_pos h0] at h; exact absurd h (by decide)
 ·rw [if_neg h0] at h;refine ⟨h0,fun e => ?_⟩;rw [if_pos e] at h;exact absurd h (by decide)
def NF (d : Bool) (s : Fq) : Fq:=bif d then fR s else F1.zero
theorem vH (s : Fq) : NF true s = fR s:=by unfold NF; rw [cond_true]
def aBG (d : Bool) : gE
 | [.v (.im (.int .i64 (.ofNat 1))),.v (.fl l)] => match zK l with
  | some s => some ([(bif d then dV s else ¬ dV s)],.many [.fl (e1 (NF d s)),.im (.int .i64 (bif d then 0 else 23))])
  | none => none
 | _ => none
theorem Uw (d : Bool) : ∀ cs pre r,aBG d cs = some (pre,r) → aL pre → ∀ (args : List Value) (w : World),bD w cs args → Good prog 84 r args w:=by
 intro cs pre r hg hp args w ha;unfold aBG at hg;split at hg
 ·rename_i l;split at hg
  ·rename_i x hx;cases hg;obtain ⟨h,_⟩:=hp
   match args,ha with
   | [v,u],ha =>
    have e1' : v = .int .i64 1:=ha.1;have e2' : u = .agg (aA l).toArray:=ha.2.1;rw [dK l _ hx] at e2';subst e1'; subst e2';have hx : aC (fw x.1 0) (fw x.1 1) (fw x.1 2) (fw x.1 3) = x.1:=aZ x.2;cases d
    ·obtain ⟨h0,h1⟩:=Ja h;refine (sO 1 FP fW _ _ _ _ (bR x.1) (by rw [hx]; exact x.2) (by rw [hx]; exact h0) (by rw [hx]; exact h1) w).mono ?_
     rintro e w' ⟨s0,s1,s2,s3,rfl,hs,hv,hb⟩
     obtain ⟨rfl,rfl,rfl,rfl⟩:=fG hs (gM bW) hv;exact ⟨rfl,hb⟩
    ·show Calls _ _ _ _ _
     by_cases h0 : x.1 = 0
     ·refine (AJ 1 FP fW _ _ _ _ (bR x.1) (by rw [hx]; exact x.2) (by rw [hx]; exact h0) w).mono ?_
      rintro e w' ⟨s0,s1,s2,s3,rfl,hs,hv,hb⟩
      have e3 : NF true x = F1.zero:=(vH x).trans ((congrArg fR (uG h0)).trans LV);rw [e3];obtain ⟨rfl,rfl,rfl,rfl⟩:=fG hs (gM bW) hv;exact ⟨rfl,hb⟩
     ·refine (pM 1 FP fW _ _ _ _ (bR x.1) (by rw [hx]; exact x.2) (by rw [hx]; exact h0) (by rw [hx]; exact (Kg h).resolve_right h0) w).mono ?_
      rintro e w' ⟨V,⟨s0,s1,s2,s3,rfl,hs,hv,hb⟩,h1,h2,h3⟩
      rw [hx] at h1;have e3 : NF true x = ⟨V,h2⟩:=(vH x).trans (kF (Fin.ext h1) h3);rw [e3];obtain ⟨rfl,rfl,rfl,rfl⟩:=fG hs (gM h2) hv;exact ⟨rfl,hb⟩
   | [],ha => exact ha.elim
   | [_],ha => exact ha.2.elim
   | _ :: _ :: _ :: _,ha => exact ha.2.2.elim
  ·cases hg
 ·cases hg
def gNg : gE
 | [.v (.im (.int .i64 (.ofNat 1))),.v (.fl l)] => match zK l with
  | some s => some ([],.many [.fl (e1 (F1.neg s)),.im (.int .i64 0)])
  | none => none
 | _ => none
theorem aBM : ∀ cs pre r,gNg cs = some (pre,r) → aL pre → ∀ (args : List Value) (w : World),bD w cs args → Good prog 85 r args w:=by
 intro cs pre r hg hp args w ha;unfold gNg at hg;split at hg
 ·rename_i l;split at hg
  ·rename_i x hx;cases hg
   match args,ha with
   | [v,u],ha =>
    have e1' : v = .int .i64 1:=ha.1;have e2' : u = .agg (aA l).toArray:=ha.2.1;rw [dK l _ hx] at e2';subst e1'; subst e2';have hx : aC (fw x.1 0) (fw x.1 1) (fw x.1 2) (fw x.1 3) = x.1:=aZ x.2;refine (WP 1 FP fW _ _ _ _ (bR x.1) (by rw [hx]; exact x.2) w).mono ?_
    rintro e w' ⟨s0,s1,s2,s3,rfl,hs,hv,hb⟩
    have hv' : aC s0 s1 s2 s3 = (F1.neg x).1:=by rw [hv,hx]; rfl
    obtain ⟨rfl,rfl,rfl,rfl⟩:=fG hs (gM (F1.neg x).2) hv';exact ⟨rfl,hb⟩
   | [],ha => exact ha.elim
   | [_],ha => exact ha.2.elim
   | _ :: _ :: _ :: _,ha => exact ha.2.2.elim
  ·cases hg
 ·cases hg
def aDR (k d : Bool) : Tab:=((mZ.add 81 (gE3 k)).add 84 (aBG d)).add 85 gNg
theorem Yg (k d : Bool) : TabOk prog (aDR k d):=((lZ.ad func81 (aBT k)).ad func84 (Uw d)).ad func85 aBM
def kP (k : Bool) (x : Nat) : Fq:=F1.add (Cj k x) (fm 3)
def Kx (m : Nat) (k d : Bool) (x : Nat) : List Prop:=[(bif k then wv x < FP.M else ¬ wv x < FP.M),(bif d then dV (kP k x) else ¬ dV (kP k x))]
def yX (m : Nat) (k d : Bool) (x : Nat) : Fq:=bif Nat.beq m 3 then F1.neg (NF d (kP k x)) else NF d (kP k x)
theorem Qw (k d : Bool) (x : Nat) : aU prog (qG prog) (dM (aDR k d)) f47 60 [.v (.fl [.q x]),.v (.im (.int .u8 2))] = some ([(bif k then wv x < FP.M else ¬ wv x < FP.M),aA (nq [.c (.int .u64 3),.c (.int .u64 0),.c (.int .u64 0),.c (.int .u64 0)]) = aA [.q 3],(bif d then dV (kP k x) else ¬ dV (kP k x))],.one (.fl (e1 (NF d (kP k x))))):=by kernel_rfl
theorem Qv (k d : Bool) (x : Nat) : aU prog (qG prog) (dM (aDR k d)) f47 60 [.v (.fl [.q x]),.v (.im (.int .u8 3))] = some ([(bif k then wv x < FP.M else ¬ wv x < FP.M),aA (nq [.c (.int .u64 3),.c (.int .u64 0),.c (.int .u64 0),.c (.int .u64 0)]) = aA [.q 3],(bif d then dV (kP k x) else ¬ dV (kP k x))],.one (.fl (e1 (F1.neg (NF d (kP k x)))))):=by kernel_rfl
def gRo (m : Nat) (k d : Bool) : gE
 | [.v (.fl l),.v (.im (.int .u8 (.ofNat m')))] => match PT l with
  | some x => bif Nat.beq m' m then some (Kx m k d x,.one (.fl (e1 (yX m k d x)))) else none
  | none => none
 | _ => none
theorem nq3 : aA (nq [.c (.int .u64 3),.c (.int .u64 0),.c (.int .u64 0),.c (.int .u64 0)]) = aA [.q 3]:=by kernel_rfl
theorem aBI (m : Nat) (hm : m = 2 ∨ m = 3) (k d : Bool) : ∀ cs pre r,gRo m k d cs = some (pre,r) → aL pre → ∀ (args : List Value) (w : World),bD w cs args → Good prog 47 r args w:=by
 intro cs pre r hg hp args w ha;unfold gRo at hg;split at hg
 ·rename_i l m';split at hg
  ·rename_i x hx;cases hb : Nat.beq m' m <;> rw [hb] at hg
   ·cases hg
   ·have hmm:=Nat.eq_of_beq_eq_true hb;subst hmm;cases hg;have ha' : bD w [.v (.fl [.q x]),.v (.im (.int .u8 (Int.ofNat m')))] args:=by
     match args,ha with
     | [u,v],ha => exact ⟨by have h1 : u = .agg (aA l).toArray:=ha.1; rw [fU l _ hx] at h1; exact h1,ha.2.1,trivial⟩
     | [],ha => exact ha.elim
     | [_],ha => exact ha.2.elim
     | _ :: _ :: _ :: _,ha => exact ha.2.2.elim
    obtain ⟨h1,h2,_⟩:=hp
    rcases hm with rfl | rfl
    ·exact aD aG (fun _ _ => Yg k d) (aK prog) func47 (Qw k d x) ⟨h1,nq3,h2,trivial⟩ ha'
    ·exact aD aG (fun _ _ => Yg k d) (aK prog) func47 (Qv k d x) ⟨h1,nq3,h2,trivial⟩ ha'
  ·cases hg
 ·cases hg
def zG : List At:=[.f F1.zero,.f F1.zero,.c (.bool false)]
def aDU (k : Bool) : Tab:=mZ.add 45 (gCk k)
theorem Yi (k : Bool) : TabOk prog (aDU k):=lZ.ad func45 (Li Hr k)
theorem Fw (x y : Nat) (i : Bool) : aU prog (qG prog) (dM (aDU true)) f48 60 [.v (.fl (fA (x,y,i))),.v (.im (.func (.func 45) #[] #[]))] = some ([(cV x y i).1 = 0],.many [.fl (fA (x,y,i)),.im (.int .i64 0)]):=by kernel_rfl
theorem Fx (x y : Nat) (i : Bool) : aU prog (qG prog) (Pf (aDU false) 12) f48 60 [.v (.fl (fA (x,y,i))),.v (.im (.func (.func 45) #[] #[]))] = some ([aP .neq .i64 (cV x y i).1 0 = some (.bool true)],.many [.fl zG,.im (.int .i64 (cV x y i).1)]):=by kernel_rfl
def nC (a : Bool) (p : dU) : List Prop × RV:=bif a then ([(cV p.1 p.2.1 p.2.2).1 = 0],.many [.fl (fA p),.im (.int .i64 0)]) else ([(cV p.1 p.2.1 p.2.2).1 ≠ 0],.many [.fl zG,.im (.int .i64 (cV p.1 p.2.1 p.2.2).1)])
def gAl (a : Bool) : gE
 | [.v (.fl l),.v (.im (.func (.func f) fi ca))] => match Xx l with
  | some p => bif Nat.beq f 45 && (Nat.beq fi.size 0 && Nat.beq ca.size 0) then some (nC a p) else none
  | none => none
 | _ => none
theorem aCb (a : Bool) : ∀ cs pre r,gAl a cs = some (pre,r) → aL pre → ∀ (args : List Value) (w : World),bD w cs args → Good prog 48 r args w:=by
 intro cs pre r hg hp args w ha;unfold gAl at hg;split at hg
 ·rename_i l f fi ca;split at hg
  ·rename_i p hx;cases hb : (Nat.beq f 45 && (Nat.beq fi.size 0 && Nat.beq ca.size 0)) <;> rw [hb] at hg
   ·cases hg
   ·simp only [Bool.and_eq_true] at hb;have hmm:=Nat.eq_of_beq_eq_true hb.1;subst hmm;have e5 : fi = #[]:=Array.eq_empty_of_size_eq_zero (Nat.eq_of_beq_eq_true hb.2.1);have e6 : ca = #[]:=Array.eq_empty_of_size_eq_zero (Nat.eq_of_beq_eq_true hb.2.2);subst e5; subst e6;have ha' : bD w [.v (.fl (fA p)),.v (.im (.func (.func 45) #[] #[]))] args:=by
     match args,ha with
     | [u,v],ha => exact ⟨by have h1 : u = .agg (aA l).toArray:=ha.1; rw [qT l _ hx] at h1; exact h1,ha.2.1,trivial⟩
     | [],ha => exact ha.elim
     | [_],ha => exact ha.2.elim
     | _ :: _ :: _ :: _,ha => exact ha.2.2.elim
    obtain ⟨x,y,i⟩:=p;cases a
    ·cases hg;exact aD aG (fun _ _ => Yi false) (aK prog) func48 (Fx x y i) ⟨Ni hp.1,trivial⟩ ha'
    ·cases hg;exact aD aG (fun _ _ => Yi true) (aK prog) func48 (Fw x y i) ⟨hp.1,trivial⟩ ha'
  ·cases hg
 ·cases hg
def Cq (m : Nat) (k d a : Bool) : Tab:=((T0.add 33 wO).add 47 (gRo m k d)).add 48 (gAl a)
theorem KL (m : Nat) (hm : m = 2 ∨ m = 3) (k d a : Bool) : TabOk prog (Cq m k d a):=(((eW _).ad func33 rU).ad func47 (aBI m hm k d)).ad func48 (aCb a)
def xK (m : Nat) : Ext:=x3 (TD.add 32 (gTk m)) FQ (fun _ => none) (fun _ => none)
theorem Df (m : Nat) (hm : m = 1 ∨ m = 2 ∨ m = 3) (w : World) : bU prog (qY prog (xK m)) w.heap.size w:=lG ((hJ _).ad func32 (aBC m hm)) (fZ _) w
def pTk (m : Nat) (B : Nat → Nat) (c : Nat) : List Prop:=[L8 (bN B),B 0 / 64 = m,32 ≤ c]
def Zj : Tab:=T0.add 32 aBD
theorem aBc : TabOk prog Zj:=(eW _).ad func32 Uv
theorem Re (B : Nat → Nat) (c : Nat) : aU prog (qG prog) (dM Zj) f20 80 [.s (bL B) 32 c] = some (pTk 0 B c,.many [.fl zG,.im (.int .i64 44)]):=by kernel_rfl
theorem Rc (a : Bool) (B : Nat → Nat) (c : Nat) : aU prog (qY prog (xK 1)) (dM (Cq 2 true true a)) f20 80 [.s (bL B) 32 c] = some (pTk 1 B c ++ (nC a (xv (hv (bN B)),0,true)).1,(nC a (xv (hv (bN B)),0,true)).2):=by cases a <;> kernel_rfl
theorem Rb (k d a : Bool) (B : Nat → Nat) (c : Nat) : aU prog (qY prog (xK 2)) (dM (Cq 2 k d a)) f20 80 [.s (bL B) 32 c] = some (pTk 2 B c ++ Kx 2 k d (xv (hv (bN B))) ++ (nC a (xv (hv (bN B)),(yX 2 k d (xv (hv (bN B)))).1,false)).1,(nC a (xv (hv (bN B)),(yX 2 k d (xv (hv (bN B)))).1,false)).2):=by cases a <;> kernel_rfl
theorem Qz (k d a : Bool) (B : Nat → Nat) (c : Nat) : aU prog (qY prog (xK 3)) (dM (Cq 3 k d a)) f20 80 [.s (bL B) 32 c] = some (pTk 3 B c ++ Kx 3 k d (xv (hv (bN B))) ++ (nC a (xv (hv (bN B)),(yX 3 k d (xv (hv (bN B)))).1,false)).1,(nC a (xv (hv (bN B)),(yX 3 k d (xv (hv (bN B)))).1,false)).2):=by cases a <;> kernel_rfl
theorem tJ {w : World} {l l' : List At} {n c : Nat} (h : aA l = aA l') {args : List Value} (ha : bD w [.s l n c] args) : bD w [.s l' n c] args:=by
 match args,ha with
 | [s],ha => exact ⟨by obtain ⟨b,o,e,hb,hr⟩:=ha.1; exact ⟨b,o,e,hb,by rw [← h]; exact hr⟩,trivial⟩
 | [],ha => exact ha.elim
 | _ :: _ :: _,ha => exact ha.2.elim
theorem UH {l : List At} {L : List Nat} {c : Nat} (hL : lN l = some L) (h8 : L8 L) (hb : L.getD 0 0 / 64 = 0) (hc : 32 ≤ c) (args : List Value) (w : World) (ha : bD w [.s l 32 c] args) : Good prog 20 (.many [.fl zG,.im (.int .i64 44)]) args w :=
 aD aG (fun _ _ => aBc) (aK prog) func20 (Re (fun k => L.getD k 0) c) ⟨by rw [cT h8.1]; exact h8,hb,hc,trivial⟩ (tJ (xP hL h8.1) ha)
theorem PY {l : List At} {L : List Nat} {c : Nat} (a : Bool) (hL : lN l = some L) (h8 : L8 L) (hb : L.getD 0 0 / 64 = 1) (hc : 32 ≤ c) (hp : aL (nC a (xv (hv L),0,true)).1) (args : List Value) (w : World) (ha : bD w [.s l 32 c] args) : Good prog 20 (nC a (xv (hv L),0,true)).2 args w:=by
 have hN:=cT h8.1;have h:=bA aG (fun _ _ => (KL 2 (Or.inl rfl) true true a).w _ _) (Df 1 (Or.inl rfl) w) func20 (Rc a (fun k => L.getD k 0) c) (aW.2 ⟨⟨by rw [hN]; exact h8,hb,hc,trivial⟩,by rw [hN]; exact hp⟩) (tJ (xP hL h8.1) ha);rw [hN] at h;exact h
theorem PX {l : List At} {L : List Nat} {c : Nat} (k d a : Bool) (hL : lN l = some L) (h8 : L8 L) (hb : L.getD 0 0 / 64 = 2) (hc : 32 ≤ c) (hr : aL (Kx 2 k d (xv (hv L)))) (hp : aL (nC a (xv (hv L),(yX 2 k d (xv (hv L))).1,false)).1) (args : List Value) (w : World) (ha : bD w [.s l 32 c] args) : Good prog 20 (nC a (xv (hv L),(yX 2 k d (xv (hv L))).1,false)).2 args w:=by
 have hN:=cT h8.1;have h:=bA aG (fun _ _ => (KL 2 (Or.inl rfl) k d a).w _ _) (Df 2 (Or.inr (Or.inl rfl)) w) func20 (Rb k d a (fun k => L.getD k 0) c) (aW.2 ⟨aW.2 ⟨⟨by rw [hN]; exact h8,hb,hc,trivial⟩,by rw [hN]; exact hr⟩,by rw [hN]; exact hp⟩) (tJ (xP hL h8.1) ha);rw [hN] at h;exact h
theorem JG {l : List At} {L : List Nat} {c : Nat} (k d a : Bool) (hL : lN l = some L) (h8 : L8 L) (hb : L.getD 0 0 / 64 = 3) (hc : 32 ≤ c) (hr : aL (Kx 3 k d (xv (hv L)))) (hp : aL (nC a (xv (hv L),(yX 3 k d (xv (hv L))).1,false)).1) (args : List Value) (w : World) (ha : bD w [.s l 32 c] args) : Good prog 20 (nC a (xv (hv L),(yX 3 k d (xv (hv L))).1,false)).2 args w:=by
 have hN:=cT h8.1;have h:=bA aG (fun _ _ => (KL 3 (Or.inr rfl) k d a).w _ _) (Df 3 (Or.inr (Or.inr rfl)) w) func20 (Qz k d a (fun k => L.getD k 0) c) (aW.2 ⟨aW.2 ⟨⟨by rw [hN]; exact h8,hb,hc,trivial⟩,by rw [hN]; exact hr⟩,by rw [hN]; exact hp⟩) (tJ (xP hL h8.1) ha);rw [hN] at h;exact h
def UV : List Nat:=[128,0,0,0,0,0,0,0,0,0,0,0,0,0,0,0,0,0,0,0,0,0,0,0,0,0,0,0,0,0,0,1]
theorem QN : xv (hv UV) = 1:=by kernel_rfl
theorem Pl : wv 1 = 1:=by kernel_rfl
theorem aEl : kP true 1 = fm 4:=by unfold kP Cj m1; rw [cond_true,Pl]; decide
theorem aEz : F1.mul (fm 2) (fm 2) = fm 4:=by decide
theorem y_2 : yX 2 true true 1 = fm 2:=by
 have h : NF true (kP true 1) = fm 2:=by rw [vH,aEl]; exact kF aEz (by decide)
 unfold yX;rw [h];rfl
theorem aFx : dV (kP true 1):=by rw [aEl]; exact ⟨fm 2,aEz⟩
theorem Za : (cV 1 2 false).1 = 0:=by
 have hb : nG 1 ∧ nG 2:=by unfold nG; exact ⟨by rw [Pl]; decide,by rw [show wv 2 = 2 from by kernel_rfl]; decide⟩
 rw [jS,if_neg (by decide),if_neg (fun h => h hb),if_pos (by unfold m1; rw [Pl,show wv 2 = 2 from by kernel_rfl]; decide)]
theorem aCD : (cV 0 0 true).1 = 0:=by
 have hz : NH 0 ∧ NH 0:=by unfold NH; exact ⟨by kernel_rfl,by kernel_rfl⟩
 rw [jS,if_pos rfl,if_pos hz]
theorem Yq {L : List Nat} (h : L.length = 32) (h2 : L.all (fun b => Nat.blt b 256) = true) : L8 L:=⟨h,fun k => by
 rw [List.all_eq_true] at h2
 by_cases hk : k < L.length
 ·rw [List.getD_eq_getElem?_getD,List.getElem?_eq_getElem hk];exact Nat.le_of_ble_eq_true (h2 _ (List.getElem_mem hk))
 ·rw [List.getD_eq_getElem?_getD,List.getElem?_eq_none (by omega)];exact Nat.succ_pos _⟩
theorem aBr : L8 UV:=Yq rfl (by decide)
def gRA : gE
 | [.s l 32 c] => match lN l with
  | some L => bif Nat.beq (L.getD 0 0) 0 then some ([L8 L,L.getD 0 0 = 0,32 ≤ c],.many [.fl zG,.im (.int .i64 44)]) else some ([L = UV,32 ≤ c],.many [.fl (fA (1,2,false)),.im (.int .i64 0)])
  | none => none
 | _ => none
theorem aBL : ∀ cs pre r,gRA cs = some (pre,r) → aL pre → ∀ (args : List Value) (w : World),bD w cs args → Good prog 20 r args w:=by
 intro cs pre r hg hp args w ha;unfold gRA at hg;split at hg
 ·rename_i l c;split at hg
  ·rename_i L hL;cases hb : Nat.beq (L.getD 0 0) 0 <;> rw [hb] at hg
   ·cases hg;obtain ⟨h1,hc,_⟩:=hp;subst h1;have h:=PX true true true hL aBr rfl hc (by rw [QN]; exact ⟨by show wv 1 < _; rw [Pl]; decide,aFx,trivial⟩) (by rw [QN,y_2]; exact ⟨Za,trivial⟩) args w ha;rw [QN,y_2] at h;exact h
   ·cases hg;obtain ⟨h8,h0,hc,_⟩:=hp;exact UH hL h8 (by rw [h0]) hc args w ha
  ·cases hg
 ·cases hg
def WI : gE
 | [.v (.im v)] => some ([],.one (.im v))
 | _ => none
theorem Fo (v : Value) : aU prog (qG prog) (fun _ => ⟨fun _ => T0,fun _ => true,fun _ => none⟩) f10 60 [.v (.im v)] = some ([],.one (.im v)):=by kernel_rfl
theorem LQ : ∀ cs pre r,WI cs = some (pre,r) → aL pre → ∀ (args : List Value) (w : World),bD w cs args → Good prog 10 r args w:=by
 intro cs pre r hg hp args w ha;unfold WI at hg;split at hg
 ·rename_i v;cases hg;exact aD aG (fun _ _ => eW _) (aK prog) func10 (Fo v) trivial ha
 ·cases hg
def oSA (c : Bool) (p : dU) : FS:=⟨bm (wv p.1) (nK c p.2.2),32,5,1,true,[],[.im (.int .i64 0)]⟩
theorem CO (c : Bool) (p : dU) (hp : aL (QQ c p)) (args : List Value) (w : World) (ha : bD w [.v (.fl (fA p))] args) : Calls prog 18 args.toArray w (fun e w' => (oSA c p).ok w e w'):=by
 obtain ⟨h0,h1,h2,_⟩:=hp;obtain ⟨x,y,i⟩:=p;cases i
 ·exact bE aG (fun _ _ => (zX true c).w _ _) (jF w) func18 (Fh x y c) ⟨h0,h1,h2,Xu c,trivial⟩ ha
 ·exact bE aG (fun _ _ => (zX true c).w _ _) (jF w) func18 (Fg x y c) ⟨h0,h1,h2,by decide,trivial⟩ ha
def Ow : Tab:=(T0.add 10 WI).add 20 gRA
theorem aBg : TabOk prog Ow:=((eW _).ad func10 LQ).ad func20 aBL
def xAl : Ext:=x3 (TD.add 18 (gFS (QQ true) (oSA true))) FQ (fun _ => none) (fun i => bif Nat.beq i 22 then some (32,z8 32) else none)
theorem NJ (w : World) : bU prog (qY prog xAl) w.heap.size w:=lG ((hJ _).ad func18 (RG fun p hp args w ha => CO true p hp args w ha)) (fZ _) w
def mP : Code:=(f14.body).getD .skip
theorem Wt : mP = .seq (cA mP) (.seq (cA (cB mP)) (cB (cB mP))):=by kernel_rfl
def aGt : List Fact:=[.slot 1 (.so 13 32),.row 13 true (bm (wv 1) 2),.app 13 5 1 32,.slot 2 (.im (.int .i64 0))]
def aGs (cap : Nat) : List Fact:=[.slot 1 (.sl 13 0 32 cap),.row 13 true (bm (wv 1) 2),.slot 2 (.im (.int .i64 0))]
theorem Holds.cap {nt base : Nat} {w0 : World} {A : List Fact} {a : Act} {w : World} (h : Holds nt base w0 A a w) {s k n e sz : Nat} (h1 : Fact.slot s (.so k n) ∈ A) (h2 : Fact.app k e sz n ∈ A) : ∃ cap,n ≤ cap ∧ Holds nt base w0 (.slot s (.sl k 0 n cap) :: A) a w:=by
 obtain ⟨β,g1,g2⟩:=h.facts;have e1:=g1 _ h1;have e2:=g1 _ h2;simp only [Fact.ok] at e1 e2;obtain ⟨cur,q1,q2,q3,q4⟩:=e2;refine ⟨(β k).2.2,q2,h.defers,h.size,h.below,h.heap,β,fun φ hφ => ?_,fun k1 k2 l1 l2 q1 q2 => ?_⟩
 ·rcases List.mem_cons.1 hφ with rfl | hφ
  ·show a.tmps[s]? = _;rw [e1];simp [AV.den]
  ·exact g1 φ hφ
 ·rcases List.mem_cons.1 q1 with q1 | q1
  ·cases q1
  ·rcases List.mem_cons.1 q2 with q2 | q2
   ·cases q2
   ·exact g2 k1 k2 l1 l2 q1 q2
theorem aGr : bQ prog (qY prog xAl) f14.ntmps (dM Ow) 60 (cA mP) [] [] = some ([],.nrm,[]):=by kernel_rfl
theorem aGq : bQ prog (qY prog xAl) f14.ntmps (dM Ow) 60 (cA (cB mP)) [] aGt = some (QQ true (1,2,false),.nrm,aGt):=by kernel_rfl
def z32 : List Nat:=[0,0,0,0,0,0,0,0,0,0,0,0,0,0,0,0,0,0,0,0,0,0,0,0,0,0,0,0,0,0,0,0]
theorem aGp (cap : Nat) : bQ prog (qY prog xAl) f14.ntmps (dM Ow) 60 (cB (cB mP)) (aGs cap) [.slot 0 (.im (.bool true))] = some ([[aM (wv 1) 0 ||| 64 * 2,aM (wv 1) 1,aM (wv 1) 2,aM (wv 1) 3,aM (wv 1) 4,aM (wv 1) 5,aM (wv 1) 6,aM (wv 1) 7,aM (wv 1) 8,aM (wv 1) 9,aM (wv 1) 10,aM (wv 1) 11,aM (wv 1) 12,aM (wv 1) 13,aM (wv 1) 14,aM (wv 1) 15,aM (wv 1) 16,aM (wv 1) 17,aM (wv 1) 18,aM (wv 1) 19,aM (wv 1) 20,aM (wv 1) 21,aM (wv 1) 22,aM (wv 1) 23,aM (wv 1) 24,aM (wv 1) 25,aM (wv 1) 26,aM (wv 1) 27,aM (wv 1) 28,aM (wv 1) 29,aM (wv 1) 30,aM (wv 1) 31] = UV,32 ≤ cap,Mk 32,L8 z32,z32.getD 0 0 = 0,32 ≤ 32] ++ QQ true (0,0,true) ++ [aA (fA (1,2,false)) = aA [.f (fm 1),.f (fm 2),.c (.bool false)]],.rt,[.slot 0 (.im (.bool true))]):=by kernel_rfl
theorem aBh : aL (QQ true (1,2,false)):=⟨Za,by show wv 2 < _; rw [show wv 2 = 2 from by kernel_rfl]; decide,by show dA _ (wv 2) = _; rw [show wv 2 = 2 from by kernel_rfl]; decide,trivial⟩
theorem Tl : aL (QQ true (0,0,true)):=⟨aCD,by show wv 0 < _; rw [show wv 0 = 0 from by kernel_rfl]; decide,by show dA _ (wv 0) = _; rw [show wv 0 = 0 from by kernel_rfl]; decide,trivial⟩
theorem Nu (args : List Value) (w : World) (ha : bD w [] args) : Good prog 14 (.one (.im (.bool true))) args w:=by
 have hT : ∀ n d : Nat,TabOkW prog ((dM Ow n).T d) w.heap.size w:=fun _ _ => aBg.w _ _
 refine fK func14 (c:=mP) rfl ha (Nat.le_of_ble_eq_true (by kernel_rfl)) fun a w' hA => ?_
 rw [Wt];refine wp_seq (aE aG hT (NJ w) aGr trivial hA fun a w' hA => ?_);refine wp_seq (aE aG hT (NJ w) aGq aBh hA fun a w' hA => ?_);obtain ⟨cap,hc,hA⟩:=hA.cap (s:=1) (k:=13) (n:=32) (e:=5) (sz:=1) (List.mem_cons_self ..) (List.mem_cons_of_mem _ (List.mem_cons_of_mem _ (List.mem_cons_self ..)));have hA2 : Holds f14.ntmps w.heap.size w (aGs cap) a w':=hA.sub fun φ hφ => by
  rcases List.mem_cons.1 hφ with rfl | hφ
  ·exact List.mem_cons_self ..
  ·rcases List.mem_cons.1 hφ with rfl | hφ
   ·exact List.mem_cons_of_mem _ (List.mem_cons_of_mem _ (List.mem_cons_self ..))
   ·rcases List.mem_cons.1 hφ with rfl | hφ
    ·exact List.mem_cons_of_mem _ (List.mem_cons_of_mem _ (List.mem_cons_of_mem _ (List.mem_cons_of_mem _ (List.mem_cons_self ..))))
    ·cases hφ
 refine aE aG hT (NJ w) (aGp cap) (aW.2 ⟨aW.2 ⟨⟨by kernel_rfl,hc,aFj 32 (by decide),Yq rfl (by decide),rfl,Nat.le_refl _,trivial⟩,Tl⟩,by kernel_rfl,trivial⟩) hA2 fun a w' hA => ?_
 exact eV (l:=[.im (.bool true)]) (r:=.one (.im (.bool true))) (by kernel_rfl) (by kernel_rfl) hA
end Go.Proofs.YtfnkbmlmgnadmaaGreat.Ex
