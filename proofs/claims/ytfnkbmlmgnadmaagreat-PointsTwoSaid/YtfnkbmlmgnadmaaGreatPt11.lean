/- Pt11 -/
import Derived.KernelRfl
import Derived.LoopTactic
import Derived.Deep.LoopGhost
import Derived.RegionTactic
import Derived.Test.YtfnkbmlmgnadmaaGreatPt10
import Derived.Test.YtfnkbmlmgnadmaaGreatPt02
import Derived.Test.YtfnkbmlmgnadmaaGreatPt03
import Derived.Test.YtfnkbmlmgnadmaaGreatPt06
import Derived.Test.YtfnkbmlmgnadmaaGreatPt00
set_option maxRecDepth 100000
set_option linter.unusedVariables false
set_option linter.unusedSimpArgs false
noncomputable section
namespace Go.Proofs.YtfnkbmlmgnadmaaGreat.Ex
open Go.Proofs.Tryz
open Go.RowKit
theorem FrOk.ad {P : Program} {T : Tab2} (hT : FrOk P T) {f : Nat} {fn : Func} (hf : P.funcs[f]? = some fn) {g : List CA → Option (List Prop × FR)}
 (h : ∀ cs pre r,g cs = some (pre,r) → aQ pre → ∀ (args : List Value) (w : World),bH w cs args → Calls P f args.toArray w (fun e w' => r.ok w e w')) (hn : (fn.name == "runtime.NumGoroutine") = false:=by kernel_rfl) (hb : fn.body.isNone = false:=by kernel_rfl) : FrOk P (T.add f g):=hT.add hf hn hb h
def SN (x : Nat) : Nat:=fw x 0 * 2 % 18446744073709551616
def hO (x p : Nat) : Nat:=(if p = 0 then SN x else fw (wv x / 2 ^ (p * 4 - 1)) 0) % 32
def kM (x p : Nat) : Int:=((hO x p + 1) / 2 : Nat) - (if 16 ≤ hO x p then 16 else 0 : Int)
def gU (d : Bool) : Tab:=((DT d).add 152 Ax).add 156 aAh
theorem lM (d : Bool) : TabOk prog (gU d):=((BS d).ad func152 Zu).ad func156 Xv
def eN (b o n m : Nat) : List At:=[.c (pY b o n m),.c (iI 4)]
def atX (old : Nat → Nat → List At → Prop) (x i w : Nat) : Ext :=
 { idx:=assoc [(13,i)],ld:=assoc [(14,[At.q x])],st:=fun _ => none,gen:=assoc [(17,uI (SN x)),(32,uI 32),(34,uI w),(37,iI (w + 1)),(42,uI (w / 16)),(47,iI 16)],mks:=fun _ => none,ky:=fun _ => none,old:=old,T2:=Fr0 }
def atN (p w : Nat) (c0 c1 : Bool) (v : Int) : Nat → Option Value:=assoc [(19,.bool c0),(24,iI (p * 4)),(25,iI (p * 4 - 1)),(36,uI (w + 1)),(38,iI ((w + 1) / 2)),(43,.bool c1),(48,.int .i64 v)]
def iU (op : BinOp) (t : Nat) (x y : Operand) (v u r : Value) : Prop:=∀ w : World,(do eqGuard op t x y v u; binOp op t v u : Sem Value).run prog w = .ok r w
theorem ZF (old : Nat → Nat → List At → Prop) (b o n m i p x w : Nat) (v : Int) : aT prog (qX prog (atX old x i w)) (fun _ => ⟨fun s => gU true,fun s => true,atN p w true true v⟩) f178 80 [.v (.fl (eN b o n m)),.v (.im (iI i)),.v (.im (iI p))] = some ([Int.ofNat i = Int.ofNat i,i < n,old b (o + i * 4) [At.q x],dT [At.q x] = 4,iU .shl 22 (.tmp 16) (.const (.int .u64 1)) (.int .u64 (fw x 0 : Nat)) (.int .u64 1) (uI (SN x)),aI .gtr .i64 (Int.ofNat p) 0 = some (.bool true),aI .mul .i64 (Int.ofNat p) (Int.ofNat 4) = some (iI (p * 4)),aI .sub .i64 (Int.ofNat (p * 4)) 1 = some (iI (p * 4 - 1)),p * 4 - 1 < 9223372036854775808,iU .shl 22 (.const (.int .u64 1)) (.tmp 31) (.int .u64 1) (.int .i64 (IntKind.i64.wrap (Int.ofNat 4 + 1))) (uI 32),iU .and 22 (.tmp 28) (.tmp 33) (.int .u64 (fw (wv x / 2 ^ (p * 4 - 1)) 0 : Nat)) (.int .u64 (IntKind.u64.wrap (Int.ofNat 32 - 1))) (uI w),aI .add .u64 (Int.ofNat w) 1 = some (uI (w + 1)),∀ W : World,(convert 22 3 (uI (w + 1))).run prog W = .ok (iI (w + 1)) W,aI .quo .i64 (Int.ofNat (w + 1)) 2 = some (iI ((w + 1) / 2)),iU .shr 22 (.tmp 39) (.tmp 41) (uI w) (iI 4) (uI (w / 16)),aI .eql .u64 (Int.ofNat (w / 16)) 1 = some (.bool true),iU .shl 3 (.const (.int .i64 1)) (.tmp 46) (.int .i64 1) (iI 4) (iI 16),aI .sub .i64 (Int.ofNat ((w + 1) / 2)) (Int.ofNat 16) = some (.int .i64 v)],.one (.im (.int .i64 v))):=by kernel_rfl
theorem ZG (old : Nat → Nat → List At → Prop) (b o n m i p x w : Nat) (v : Int) : aT prog (qX prog (atX old x i w)) (fun _ => ⟨fun s => gU true,fun s => true,atN p w true false v⟩) f178 80 [.v (.fl (eN b o n m)),.v (.im (iI i)),.v (.im (iI p))] = some ([Int.ofNat i = Int.ofNat i,i < n,old b (o + i * 4) [At.q x],dT [At.q x] = 4,iU .shl 22 (.tmp 16) (.const (.int .u64 1)) (.int .u64 (fw x 0 : Nat)) (.int .u64 1) (uI (SN x)),aI .gtr .i64 (Int.ofNat p) 0 = some (.bool true),aI .mul .i64 (Int.ofNat p) (Int.ofNat 4) = some (iI (p * 4)),aI .sub .i64 (Int.ofNat (p * 4)) 1 = some (iI (p * 4 - 1)),p * 4 - 1 < 9223372036854775808,iU .shl 22 (.const (.int .u64 1)) (.tmp 31) (.int .u64 1) (.int .i64 (IntKind.i64.wrap (Int.ofNat 4 + 1))) (uI 32),iU .and 22 (.tmp 28) (.tmp 33) (.int .u64 (fw (wv x / 2 ^ (p * 4 - 1)) 0 : Nat)) (.int .u64 (IntKind.u64.wrap (Int.ofNat 32 - 1))) (uI w),aI .add .u64 (Int.ofNat w) 1 = some (uI (w + 1)),∀ W : World,(convert 22 3 (uI (w + 1))).run prog W = .ok (iI (w + 1)) W,aI .quo .i64 (Int.ofNat (w + 1)) 2 = some (iI ((w + 1) / 2)),iU .shr 22 (.tmp 39) (.tmp 41) (uI w) (iI 4) (uI (w / 16)),aI .eql .u64 (Int.ofNat (w / 16)) 1 = some (.bool false)],.one (.im (iI ((w + 1) / 2)))):=by kernel_rfl
theorem ZH (old : Nat → Nat → List At → Prop) (b o n m i p x w : Nat) (v : Int) : aT prog (qX prog (atX old x i w)) (fun _ => ⟨fun s => gU true,fun s => true,atN p w false true v⟩) f178 80 [.v (.fl (eN b o n m)),.v (.im (iI i)),.v (.im (iI p))] = some ([Int.ofNat i = Int.ofNat i,i < n,old b (o + i * 4) [At.q x],dT [At.q x] = 4,iU .shl 22 (.tmp 16) (.const (.int .u64 1)) (.int .u64 (fw x 0 : Nat)) (.int .u64 1) (uI (SN x)),aI .gtr .i64 (Int.ofNat p) 0 = some (.bool false),iU .shl 22 (.const (.int .u64 1)) (.tmp 31) (.int .u64 1) (.int .i64 (IntKind.i64.wrap (Int.ofNat 4 + 1))) (uI 32),iU .and 22 (.tmp 28) (.tmp 33) (.int .u64 (SN x : Nat)) (.int .u64 (IntKind.u64.wrap (Int.ofNat 32 - 1))) (uI w),aI .add .u64 (Int.ofNat w) 1 = some (uI (w + 1)),∀ W : World,(convert 22 3 (uI (w + 1))).run prog W = .ok (iI (w + 1)) W,aI .quo .i64 (Int.ofNat (w + 1)) 2 = some (iI ((w + 1) / 2)),iU .shr 22 (.tmp 39) (.tmp 41) (uI w) (iI 4) (uI (w / 16)),aI .eql .u64 (Int.ofNat (w / 16)) 1 = some (.bool true),iU .shl 3 (.const (.int .i64 1)) (.tmp 46) (.int .i64 1) (iI 4) (iI 16),aI .sub .i64 (Int.ofNat ((w + 1) / 2)) (Int.ofNat 16) = some (.int .i64 v)],.one (.im (.int .i64 v))):=by kernel_rfl
theorem ZI (old : Nat → Nat → List At → Prop) (b o n m i p x w : Nat) (v : Int) : aT prog (qX prog (atX old x i w)) (fun _ => ⟨fun s => gU true,fun s => true,atN p w false false v⟩) f178 80 [.v (.fl (eN b o n m)),.v (.im (iI i)),.v (.im (iI p))] = some ([Int.ofNat i = Int.ofNat i,i < n,old b (o + i * 4) [At.q x],dT [At.q x] = 4,iU .shl 22 (.tmp 16) (.const (.int .u64 1)) (.int .u64 (fw x 0 : Nat)) (.int .u64 1) (uI (SN x)),aI .gtr .i64 (Int.ofNat p) 0 = some (.bool false),iU .shl 22 (.const (.int .u64 1)) (.tmp 31) (.int .u64 1) (.int .i64 (IntKind.i64.wrap (Int.ofNat 4 + 1))) (uI 32),iU .and 22 (.tmp 28) (.tmp 33) (.int .u64 (SN x : Nat)) (.int .u64 (IntKind.u64.wrap (Int.ofNat 32 - 1))) (uI w),aI .add .u64 (Int.ofNat w) 1 = some (uI (w + 1)),∀ W : World,(convert 22 3 (uI (w + 1))).run prog W = .ok (iI (w + 1)) W,aI .quo .i64 (Int.ofNat (w + 1)) 2 = some (iI ((w + 1) / 2)),iU .shr 22 (.tmp 39) (.tmp 41) (uI w) (iI 4) (uI (w / 16)),aI .eql .u64 (Int.ofNat (w / 16)) 1 = some (.bool false)],.one (.im (iI ((w + 1) / 2)))):=by kernel_rfl
theorem SP (x : Nat) : iU .shl 22 (.tmp 16) (.const (.int .u64 1)) (.int .u64 (fw x 0 : Nat)) (.int .u64 1) (uI (SN x)):=fun w => by
 have h:=(bJ x).1;simp [eqGuard,binOp,go_sem,IntKind.wrap,IntKind.signed,uI,SN]
theorem AX : iU .shl 22 (.const (.int .u64 1)) (.tmp 31) (.int .u64 1) (.int .i64 (IntKind.i64.wrap (Int.ofNat 4 + 1))) (uI 32):=fun w => by
 have e : IntKind.i64.wrap (Int.ofNat 4 + 1) = 5:=by decide
 rw [e];simp [eqGuard,binOp,go_sem,IntKind.wrap,uI]
theorem Dh : iU .shl 3 (.const (.int .i64 1)) (.tmp 46) (.int .i64 1) (iI 4) (iI 16):=fun w => by
 simp [eqGuard,binOp,go_sem,IntKind.wrap,iI]
theorem Uy (x : Nat) (h : x < 18446744073709551616) : iU .and 22 (.tmp 28) (.tmp 33) (.int .u64 (x : Nat)) (.int .u64 (IntKind.u64.wrap (Int.ofNat 32 - 1))) (uI (x % 32)):=fun w => by
 have e : IntKind.u64.wrap (Int.ofNat 32 - 1) = ((31 : Nat) : Int):=by decide
 rw [e];have h2:=bits_and_u64_nat x 31 h (by omega);have h3 : x &&& 31 = x % 32:=Nat.and_two_pow_sub_one_eq_mod x 5;rw [h3] at h2;simp [eqGuard,binOp,go_sem,uI];exact h2
theorem Xw (x : Nat) (h : x < 64) (W : World) : (convert 22 3 (uI x)).run prog W = .ok (iI x) W:=by
 have e : IntKind.i64.wrap (x : Int) = x:=oZ (by omega);have e2 : (x : Int) % 18446744073709551616 = x:=by omega
 simp [convert,go_sem,uI,iI,e]
theorem aCB (x : Nat) (h : x < 32) : iU .shr 22 (.tmp 39) (.tmp 41) (uI x) (iI 4) (uI (x / 16)):=fun w => by
 simp [eqGuard,binOp,go_sem,uI,iI]
theorem VJ (x p : Nat) : hO x p < 32:=Nat.mod_lt _ (by omega)
theorem aCZ (n : Nat) (h : n < 100) : aI .add .u64 (Int.ofNat n) 1 = some (uI (n + 1)):=by
 show some (Value.int .u64 (IntKind.u64.wrap ((n : Int) + 1))) = _;have e : IntKind.u64.wrap ((n : Int) + 1) = ((n + 1 : Nat) : Int):=by
  unfold IntKind.wrap;simp [IntKind.signed,IntKind.bits];omega
 rw [e]; rfl
theorem qU (k : IntKind) (n : Nat) : aI .eql k (Int.ofNat n) 1 = some (.bool (decide (n = 1))):=by
 show some (Value.bool ((n : Int) == 1)) = _
 by_cases h : n = 1
 ·subst h; rfl
 ·rw [decide_eq_false h,beq_eq_false_iff_ne.2 (by omega)]
theorem Mb {w0 : World} (b o n m i p x : Nat) (hx : oldOf w0 b (o + i * 4) [.q x]) (hi : i < n) (hp : p < 1152921504606846976) : Calls prog 178 #[.agg (aB (eN b o n m)).toArray,iI i,iI p] w0 (fun e w' => e = .returned (.int .i64 (kM x p)) ∧ Below w0.heap.size w0 w'):=by
 have hq : ∀ w,cL prog (qX prog (atX (oldOf w0) x i w)) w0.heap.size w0:=fun w => uV (mG _) fun _ _ _ h => h
 have hT : ∀ n d : Nat,TabOkW prog (gU true) w0.heap.size w0:=fun _ _ => (lM true).w _ _
 have ha : bH w0 [.v (.fl (eN b o n m)),.v (.im (iI i)),.v (.im (iI p))] [.agg (aB (eN b o n m)).toArray,iI i,iI p]:=⟨rfl,rfl,rfl,trivial⟩;have hw:=VJ x p;have hfw:=(bJ (wv x / 2 ^ (p * 4 - 1))).1;have hs : SN x < 18446744073709551616:=Nat.mod_lt _ (by omega);have o1:=aCZ (hO x p) (by omega);have o2:=Xw (hO x p + 1) (by omega);have o3 : aI .quo .i64 (Int.ofNat (hO x p + 1)) 2 = some (iI ((hO x p + 1) / 2)):=Vj (k:=2) (by omega) (by omega);have o4:=aCB (hO x p) hw;have hv : 16 ≤ hO x p → aI .sub .i64 (Int.ofNat ((hO x p + 1) / 2)) (Int.ofNat 16) = some (.int .i64 (kM x p)):=fun h => by
  show some (Value.int .i64 (IntKind.i64.wrap ((((hO x p + 1) / 2 : Nat) : Int) - 16))) = _;unfold kM;rw [if_pos h,IntKind.wrap_i64];congr 2;omega
 have hn : ¬ 16 ≤ hO x p → kM x p = Int.ofNat ((hO x p + 1) / 2):=fun h => by
  unfold kM;rw [if_neg h]; simp
 by_cases hp0 : p = 0
 ·have hd : hO x p = SN x % 32:=by unfold hO; rw [if_pos hp0]
  have o5:=Uy (SN x) hs;rw [← hd] at o5;have g0 : aI .gtr .i64 (Int.ofNat p) 0 = some (.bool false):=by rw [hp0]; rfl
  by_cases h16 : 16 ≤ hO x p
  ·exact bY aF hT (hq _) func178 (ZH (oldOf w0) b o n m i p x (hO x p) (kM x p)) ⟨rfl,hi,hx,rfl,SP x,g0,AX,o5,o1,o2,o3,o4,by rw [qU,decide_eq_true (by omega)],Dh,hv h16,trivial⟩ ha
  ·rw [hn h16];exact bY aF hT (hq _) func178 (ZI (oldOf w0) b o n m i p x (hO x p) 0) ⟨rfl,hi,hx,rfl,SP x,g0,AX,o5,o1,o2,o3,o4,by rw [qU,decide_eq_false (by omega)],trivial⟩ ha
 ·have hd : hO x p = fw (wv x / 2 ^ (p * 4 - 1)) 0 % 32:=by unfold hO; rw [if_neg hp0]
  have o5:=Uy _ hfw;rw [← hd] at o5;have g0 : aI .gtr .i64 (Int.ofNat p) 0 = some (.bool true):=by
   have:=Hg (i:=p) (n:=0);rw [decide_eq_true (by omega)] at this;exact this
  have g1 : aI .mul .i64 (Int.ofNat p) (Int.ofNat 4) = some (iI (p * 4)):=aDb (by omega);have g2 : aI .sub .i64 (Int.ofNat (p * 4)) 1 = some (iI (p * 4 - 1)):=vK (k:=1) (by omega) (by omega)
  by_cases h16 : 16 ≤ hO x p
  ·exact bY aF hT (hq _) func178 (ZF (oldOf w0) b o n m i p x (hO x p) (kM x p)) ⟨rfl,hi,hx,rfl,SP x,g0,g1,g2,by omega,AX,o5,o1,o2,o3,o4,by rw [qU,decide_eq_true (by omega)],Dh,hv h16,trivial⟩ ha
  ·rw [hn h16];exact bY aF hT (hq _) func178 (ZG (oldOf w0) b o n m i p x (hO x p) 0) ⟨rfl,hi,hx,rfl,SP x,g0,g1,g2,by omega,AX,o5,o1,o2,o3,o4,by rw [qU,decide_eq_false (by omega)],trivial⟩ ha
def gAt (b o n m : Nat) (x : Nat → Nat) : gC
 | [.v (.fl [.c (.slice (some ⟨b',o',.none⟩) n' m'),.c (.int .i64 (.ofNat 4))]),.v (.im (.int .i64 (.ofNat i))),.v (.im (.int .i64 (.ofNat p)))] =>
  some ([b' = b,o' = o,n' = n,m' = m,i < n,p < 1152921504606846976],.one (.im (.int .i64 (kM (x i) p))))
 | _ => none
theorem aAF {w : World} {b o n m : Nat} {x : Nat → Nat} (hx : ∀ i,i < n → oldOf w b (o + i * 4) [.q (x i)]) : ∀ cs pre r,gAt b o n m x cs = some (pre,r) → aQ pre → ∀ (args : List Value),bH w cs args → Good prog 178 r args w:=by
 intro cs pre r hg hp args ha;unfold gAt at hg;split at hg
 ·rename_i b' o' n' m' i p;cases hg;obtain ⟨rfl,rfl,rfl,rfl,hi,hpp,_⟩:=hp
  match args,ha with
  | [u,v,t],ha =>
   have h1 : u = .agg (aB (eN b' o' n' m')).toArray:=ha.1;have h2 : v = iI i:=ha.2.1;have h3 : t = iI p:=ha.2.2.1;subst h1; subst h2; subst h3;exact Mb b' o' n' m' i p (x i) (hx i hi) hi hpp
  | [],ha => exact ha.elim
  | [_],ha => exact ha.2.elim
  | [_,_],ha => exact ha.2.2.elim
  | _ :: _ :: _ :: _ :: _,ha => exact ha.2.2.2.elim
 ·cases hg
def Us (old : Nat → Nat → List At → Prop) : Ext:={ idx:=fun _ => none,ld:=fun _ => none,st:=fun _ => none,gen:=fun _ => none,mks:=fun _ => none,ky:=fun _ => none,old:=old,T2:=Fr0 }
theorem yE {x : Ext} {w : World} (h : x.old = oldOf w) (h2 : x.T2 = Fr0) : cL prog (qX prog x) w.heap.size w:=uV (h2 ▸ mG _) fun _ _ _ q => h ▸ q
def mU (x : Nat → Nat) : Nat → Nat
 | 0 => 0
 | i + 1 => if bO (x i) > mU x i then bO (x i) else mU x i
theorem PS (x : Nat → Nat) : ∀ i,mU x i ≤ 256
 | 0 => Nat.zero_le _
 | i + 1 => by
  have:=PS x i;have:=UM (x i);unfold mU;split <;> omega
theorem Ia (x : Nat → Nat) : ∀ n i,i < n → bO (x i) ≤ mU x n
 | n + 1,i,h => by
  unfold mU
  by_cases e : i = n
  ·subst e; split <;> omega
  ·have:=Ia x n i (by omega);split <;> omega
def plX (old : Nat → Nat → List At → Prop) (x i : Nat) : Ext:={ Us old with idx:=assoc [(11,i)],ld:=assoc [(12,[At.q x])] }
def Fz (b o n m i mx : Nat) : List Fact:=[.slot 1 (.pt 1 0),.row 1 true (eN b o n m),.slot 3 (.im (iI mx)),.slot 7 (.im (pY b o n m)),.slot 8 (.im (iI n)),.slot 9 (.im (iI i))]
def Ga (num : Nat → Option Value) (_ : Nat) : Cfg:=⟨fun _ => gU true,fun _ => true,num⟩
def gW : Code:=(f187.body).getD .skip
def PG : Code:=Bp (Bp (cB (cA (cB (cB gW)))))
theorem Qx : gW = .seq (cA gW) (.seq (cA (cB gW)) (.seq (.seq (cA (cA (cB (cB gW)))) (.block 0 (.loop PG))) (cB (cB (cB gW))))):=by kernel_rfl
def plA (b o n m : Nat) : List Fact:=[.slot 1 (.pt 1 0),.row 1 true (eN b o n m)]
def plB (b o n m : Nat) : List Fact:=[.slot 1 (.pt 1 0),.row 1 true (eN b o n m),.slot 3 (.im (iI 0))]
theorem aCS (b o n m : Nat) : dE prog (qG prog) f187.ntmps (Ga fun _ => none) 40 (cA gW) (mE 0 [.v (.fl (eN b o n m))]) (plA b o n m) = some ([],.nrm,plA b o n m):=by kernel_rfl
theorem aCR (b o n m : Nat) : dE prog (qG prog) f187.ntmps (Ga fun _ => none) 40 (cA (cB gW)) (plA b o n m) (plB b o n m) = some ([],.nrm,plB b o n m):=by kernel_rfl
theorem aCQ (b o n m : Nat) : dE prog (qG prog) f187.ntmps (Ga fun _ => none) 40 (cA (cA (cB (cB gW)))) (plB b o n m) (Fz b o n m 0 0) = some ([],.nrm,Fz b o n m 0 0):=by kernel_rfl
theorem aCT (old : Nat → Nat → List At → Prop) (b o n m i mx mx' x : Nat) : dE prog (qX prog (plX old x i)) f187.ntmps (Ga (assoc [(10,.bool true),(16,iI mx'),(17,iI (i + 1))])) 40 PG (Fz b o n m i mx) (Fz b o n m (i + 1) mx') = some ([aI .lss .i64 (Int.ofNat i) (Int.ofNat n) = some (.bool true),Int.ofNat i = Int.ofNat i,i < n,old b (o + i * 4) [.q x],dT [At.q x] = 4,Value.int .i64 (if (Int.ofNat (bO x)) > (Int.ofNat mx) then Int.ofNat (bO x) else Int.ofNat mx) = iI mx',aI .add .i64 (Int.ofNat i) 1 = some (iI (i + 1))],.nrm,Fz b o n m (i + 1) mx'):=by kernel_rfl
theorem Yv (b o n m i mx : Nat) : dE prog (qG prog) f187.ntmps (Ga (assoc [(10,.bool false)])) 40 PG (Fz b o n m i mx) (Fz b o n m i mx) = some ([aI .lss .i64 (Int.ofNat i) (Int.ofNat n) = some (.bool false)],.ex 0,Fz b o n m i mx):=by kernel_rfl
theorem Qw (b o n m i mx : Nat) : dE prog (qG prog) f187.ntmps (Ga (assoc [(21,iI (mx / 4)),(22,iI (mx / 4 + 1))])) 40 (cB (cB (cB gW))) (Fz b o n m i mx) [.slot 2 (.im (iI (mx / 4 + 1)))] = some ([aI .quo .i64 (Int.ofNat mx) (Int.ofNat 4) = some (iI (mx / 4)),aI .add .i64 (Int.ofNat (mx / 4)) 1 = some (iI (mx / 4 + 1))],.rt,[.slot 2 (.im (iI (mx / 4 + 1)))]):=by kernel_rfl
theorem BM {w0 : World} (b o n m : Nat) (x : Nat → Nat) (hx : ∀ i,i < n → oldOf w0 b (o + i * 4) [.q (x i)]) (hn : n < 4611686018427387904) : Calls prog 187 #[.agg (aB (eN b o n m)).toArray] w0 (fun e w' => e = .returned (iI (mU x n / 4 + 1)) ∧ Below w0.heap.size w0 w'):=by
 have hG : cL prog (qG prog) w0.heap.size w0:=(aG _).w _ _;have hT : ∀ n d : Nat,TabOkW prog (gU true) w0.heap.size w0:=fun _ _ => (lM true).w _ _
 refine gP func187 (c:=gW) rfl (args:=[.agg (aB (eN b o n m)).toArray]) (cs:=[.v (.fl (eN b o n m))]) ⟨rfl,trivial⟩ (Nat.le_of_ble_eq_true (by kernel_rfl)) fun a w' hA => ?_
 rw [Qx];refine wp_seq (aU aF hT hG (aCS b o n m) trivial hA fun a w' hA => ?_);refine wp_seq (aU aF hT hG (aCR b o n m) trivial hA fun a w' hA => ?_);refine wp_seq (wp_seq (aU aF hT hG (aCQ b o n m) trivial hA fun a w' hA => ?_));refine wp_block ?_;refine nQ aF (fun i => Fz b o n m i (mU x i)) n (fun i hi => ?_) (.ex 0) (by simp) (Fz b o n m n (mU x n)) ?_ hA fun a w' hA => ?_
 ·refine ⟨_,_,_,_,yE (x:=plX (oldOf w0) (x i) i) rfl rfl,hT,aCT (oldOf w0) b o n m i (mU x i) (mU x (i + 1)) (x i),kG hi,rfl,hi,hx i hi,rfl,?_,zC (k:=1) (by omega),trivial⟩;show Value.int .i64 (if ((bO (x i) : Nat) : Int) > ((mU x i : Nat) : Int) then ((bO (x i) : Nat) : Int) else ((mU x i : Nat) : Int)) = .int .i64 ((mU x (i + 1) : Nat) : Int);rw [mU]
  by_cases h : bO (x i) > mU x i
  ·rw [if_pos h,if_pos (by omega)]
  ·rw [if_neg h,if_neg (by omega)]
 ·exact ⟨_,_,_,_,hG,hT,Yv b o n m n _,oU (Nat.le_refl _),trivial⟩
 ·have:=PS x n;show (cB (cB (cB gW))).wp _ _ _ _;exact aU aF hT hG (Qw b o n m n _) ⟨Vj (by omega) (by omega),zC (k:=1) (by omega),trivial⟩ hA fun a w' hA => iN (l:=[.im (iI (mU x n / 4 + 1))]) (r:=.one (.im (iI (mU x n / 4 + 1)))) (by kernel_rfl) (by kernel_rfl) hA
def jt1 (p : J1) : Nat → J1
 | 0 => (F1.zero,F1.zero,F1.zero)
 | k + 1 => fP F1 (jt1 p k) p
theorem VK (x p : Nat) : -8 ≤ kM x p ∧ kM x p ≤ 8:=by
 have:=VJ x p;unfold kM;split <;> omega
structure ClMem1 (w : World) (bt bd bT N b o n m : Nat) (x : Nat → Nat) (pt : Nat → J1) : Prop where
 t : oldOf w bt 0 [.c (pY bT 0 N N)]
 d : oldOf w bd 0 (eN b o n m)
 x : ∀ i,i < n → oldOf w b (o + i * 4) [.q (x i)]
 p : ∀ i,i < N → ∀ k,k < 8 → oldOf w bT (i * 96 + k * 12) (iQ (jt1 (pt i) (k + 1)))
theorem oldOf.on {base : Nat} {w w' : World} (hb : Below w.heap.size w w') {b o : Nat} {l : List At} (h : oldOf w b o l) : oldOf w' b o l:=⟨Nat.lt_of_lt_of_le h.1 hb.size,mB hb h.1 h.2⟩
theorem ClMem1.on {w w' : World} (hb : Below w.heap.size w w') {bt bd bT N b o n m : Nat} {x : Nat → Nat} {pt : Nat → J1} (h : ClMem1 w bt bd bT N b o n m x pt) : ClMem1 w' bt bd bT N b o n m x pt :=
 ⟨h.t.on hb (base:=0),h.d.on hb (base:=0),fun i hi => (h.x i hi).on hb (base:=0),fun i hi k hk => (h.p i hi k hk).on hb (base:=0)⟩
def gPl (b o n m PL : Nat) : gC
 | [.v (.fl [.c (.slice (some ⟨b',o',.none⟩) n' m'),.c (.int .i64 (.ofNat 4))])] => some ([b' = b,o' = o,n' = n,m' = m],.one (.im (iI PL)))
 | _ => none
def yA (p : J2) : Nat → J2
 | 0 => (F2.zero,F2.zero,F2.zero)
 | k + 1 => fP F2 (yA p k) p
def WZ (p : J2) : Int → J2
 | .ofNat 0 => (F2.zero,F2.zero,F2.zero)
 | .ofNat (k + 1) => yA p (k + 1)
 | .negSucc k => CG F2 (yA p (k + 1))
def XA (old : Nat → Nat → List At → Prop) (k : Nat) (h : Int) (q : J2) : Ext:={ Us old with idx:=assoc [(12,k),(22,k)],ld:=assoc [(13,bD q),(23,bD q)],gen:=assoc [(19,.int .i64 h)] }
theorem XM (old : Nat → Nat → List At → Prop) (b off k : Nat) (g h : Int) (q : J2) : aT prog (qX prog (XA old k h q)) (fun _ => ⟨fun s => gU true,fun s => true,assoc [(7,.bool true),(10,iI k)]⟩) f177 80 [.v (.im (sM b off)),.v (.im (.int .i64 g))] = some ([aI .gtr .i64 g 0 = some (.bool true),aI .sub .i64 g 1 = some (iI k),Int.ofNat k = Int.ofNat k,k < 8,old b (off + k * 24) (bD q),dT (bD q) = 24],.one (.fl (bD q))):=by kernel_rfl
theorem XN (old : Nat → Nat → List At → Prop) (b off k : Nat) (g h : Int) (q : J2) : aT prog (qX prog (XA old k h q)) (fun _ => ⟨fun s => gU true,fun s => true,assoc [(7,.bool false),(16,.bool true),(20,iI k)]⟩) f177 80 [.v (.im (sM b off)),.v (.im (.int .i64 g))] = some ([aI .gtr .i64 g 0 = some (.bool false),aI .lss .i64 g 0 = some (.bool true),(∀ W : World,(Op.unary .neg (.int .i64 g)).run prog W = .ok (.int .i64 h) W),aI .sub .i64 h 1 = some (iI k),Int.ofNat k = Int.ofNat k,k < 8,old b (off + k * 24) (bD q),dT (bD q) = 24],.one (.fl (bD (CG F2 q)))):=by kernel_rfl
theorem XL (old : Nat → Nat → List At → Prop) (b off k : Nat) (g h : Int) (q : J2) : aT prog (qX prog (XA old k h q)) (fun _ => ⟨fun s => gU true,fun s => true,assoc [(7,.bool false),(16,.bool false)]⟩) f177 80 [.v (.im (sM b off)),.v (.im (.int .i64 g))] = some ([aI .gtr .i64 g 0 = some (.bool false),aI .lss .i64 g 0 = some (.bool false)],.one (.fl (bD (F2.zero,F2.zero,F2.zero)))):=by kernel_rfl
theorem LV {w0 : World} (b off : Nat) (g : Int) (p : J2) (hp : ∀ k,k < 8 → oldOf w0 b (off + k * 24) (bD (yA p (k + 1)))) (h1 : -8 ≤ g) (h2 : g ≤ 8) : Calls prog 177 #[sM b off,.int .i64 g] w0 (fun e w' => e = .returned (.agg (aB (bD (WZ p g))).toArray) ∧ Below w0.heap.size w0 w'):=by
 have hT : ∀ n d : Nat,TabOkW prog (gU true) w0.heap.size w0:=fun _ _ => (lM true).w _ _
 have ha : bH w0 [.v (.im (sM b off)),.v (.im (.int .i64 g))] [sM b off,.int .i64 g]:=⟨rfl,rfl,trivial⟩
 match g,h1,h2,ha with
 | .ofNat 0,_,_,ha => exact bY aF hT (yE (x:=XA (oldOf w0) 0 0 (F2.zero,F2.zero,F2.zero)) rfl rfl) func177 (XL (oldOf w0) b off 0 _ 0 (F2.zero,F2.zero,F2.zero)) ⟨rfl,rfl,trivial⟩ ha
 | .ofNat (k + 1),_,h2,ha =>
  have hk : k < 8:=by have h2' : ((k + 1 : Nat) : Int) ≤ 8:=h2; omega
  exact bY aF hT (yE (x:=XA (oldOf w0) k 0 (yA p (k + 1))) rfl rfl) func177 (XM (oldOf w0) b off k _ 0 (yA p (k + 1))) ⟨by rw [show (0 : Int) = Int.ofNat 0 from rfl,Hg,decide_eq_true (by omega)],vK (k:=1) (by omega) (by omega),rfl,hk,hp k hk,rfl,trivial⟩ ha
 | .negSucc k,h1,_,ha =>
  have hk : k < 8:=by have h1' : -8 ≤ -((k : Int) + 1):=h1; omega
  refine bY aF hT (yE (x:=XA (oldOf w0) k (Int.ofNat (k + 1)) (yA p (k + 1))) rfl rfl) func177 (XN (oldOf w0) b off k _ (Int.ofNat (k + 1)) (yA p (k + 1))) ⟨?_,?_,?_,vK (k:=1) (by omega) (by omega),rfl,hk,hp k hk,rfl,trivial⟩ ha
  ·show some (Value.bool (decide (Int.negSucc k > 0))) = _;rw [decide_eq_false (by omega)]
  ·show some (Value.bool (decide (Int.negSucc k < 0))) = _;rw [decide_eq_true (by omega)]
  ·intro W;have e : IntKind.i64.wrap (0 - Int.negSucc k) = Int.ofNat (k + 1):=by rw [IntKind.wrap_i64]; show _ = ((k + 1 : Nat) : Int); omega
   show (Op.intArith .sub .i64 0 (Int.negSucc k)).run prog W = _;simp only [Op.intArith,Sem.run_pure,e]
def Jl (bT i : Nat) (p : J2) : gC
 | [.v (.im (.pointer (some ⟨b',off,.none⟩))),.v (.im (.int .i64 g))] => some ([b' = bT,off = i * 192,-8 ≤ g,g ≤ 8],.one (.fl (bD (WZ p g))))
 | _ => none
theorem Jk {w : World} {bT i : Nat} {p : J2} (hp : ∀ k,k < 8 → oldOf w bT (i * 192 + k * 24) (bD (yA p (k + 1)))) : ∀ cs pre r,Jl bT i p cs = some (pre,r) → aQ pre → ∀ (args : List Value),bH w cs args → Good prog 177 r args w:=by
 intro cs pre r hg hq args ha;unfold Jl at hg;split at hg
 ·rename_i b' off g;cases hg;obtain ⟨rfl,rfl,h1,h2,_⟩:=hq
  match args,ha with
  | [u,v],ha =>
   have e1 : u = sM b' (i * 192):=ha.1;have e2 : v = .int .i64 g:=ha.2.1;subst e1; subst e2;exact LV b' _ g p hp h1 h2
  | [],ha => exact ha.elim
  | [_],ha => exact ha.2.elim
  | _ :: _ :: _ :: _,ha => exact ha.2.2.elim
 ·cases hg
def zS (pt : Nat → J2) (x : Nat → Nat) (p : Nat) : Nat → J2
 | 0 => (F2.zero,F2.zero,F2.zero)
 | i + 1 => fP F2 (zS pt x p i) (WZ (pt i) (kM (x i) p))
def Ts (old : Nat → Nat → List At → Prop) (bT N b o n m i : Nat) : Ext:={ Us old with idx:=assoc [(15,i)],ld:=assoc [(16,eN b o n m)],gen:=assoc [(7,pY bT 0 N N),(13,pY bT 0 N N)] }
def wI (pl bt bd N i : Nat) (c : J2) : List Fact:=[.slot 0 (.im (iI pl)),.slot 1 (.im (sM bt 0)),.slot 2 (.im (sM bd 0)),.slot 4 (.pt 4 0),.row 4 true (bD (F2.zero,F2.zero,F2.zero)),.slot 5 (.pt 5 0),.row 5 true (bD c),.slot 8 (.im (iI N)),.slot 9 (.im (iI i))]
def aFs (bT b o n m : Nat) (x : Nat → Nat) (i : Nat) (p : J2) : Tab:=((gU true).add 178 (gAt b o n m x)).add 177 (Jl bT i p)
def fC : Code:=(f175.body).getD .skip
def CX : Code:=Bp (Bp (cB (cA (cB (cB fC)))))
theorem Lj : fC = .seq (cA fC) (.seq (cA (cB fC)) (.seq (.seq (cA (cA (cB (cB fC)))) (.block 0 (.loop CX))) (cB (cB (cB fC))))):=by kernel_rfl
def aBa (pl bt bd : Nat) : List Fact:=[.slot 0 (.im (iI pl)),.slot 1 (.im (sM bt 0)),.slot 2 (.im (sM bd 0)),.slot 4 (.pt 4 0),.row 4 true (bD (F2.zero,F2.zero,F2.zero))]
def aAZ (pl bt bd : Nat) : List Fact:=[.slot 0 (.im (iI pl)),.slot 1 (.im (sM bt 0)),.slot 2 (.im (sM bd 0)),.slot 4 (.pt 4 0),.row 4 true (bD (F2.zero,F2.zero,F2.zero)),.slot 5 (.pt 5 0),.row 5 true (bD (F2.zero,F2.zero,F2.zero))]
theorem aBd (pl bt bd : Nat) : dE prog (qG prog) f175.ntmps (Ga fun _ => none) 40 (cA fC) (mE 0 [.v (.im (iI pl)),.v (.im (sM bt 0)),.v (.im (sM bd 0))]) (aBa pl bt bd) = some ([],.nrm,aBa pl bt bd):=by kernel_rfl
theorem aBc (pl bt bd : Nat) : dE prog (qG prog) f175.ntmps (Ga fun _ => none) 40 (cA (cB fC)) (aBa pl bt bd) (aAZ pl bt bd) = some ([],.nrm,aAZ pl bt bd):=by kernel_rfl
theorem aBb (old : Nat → Nat → List At → Prop) (pl bt bd bT N b o n m : Nat) : dE prog (qX prog (Ts old bT N b o n m 0)) f175.ntmps (Ga fun _ => none) 40 (cA (cA (cB (cB fC)))) (aAZ pl bt bd) (wI pl bt bd N 0 (F2.zero,F2.zero,F2.zero)) = some ([old bt 0 [.c (pY bT 0 N N)]],.nrm,wI pl bt bd N 0 (F2.zero,F2.zero,F2.zero)):=by kernel_rfl
theorem aBe (old : Nat → Nat → List At → Prop) (pl bt bd bT N b o n m i : Nat) (x : Nat → Nat) (p c : J2) : dE prog (qX prog (Ts old bT N b o n m i)) f175.ntmps (fun _ => ⟨fun _ => aFs bT b o n m x i p,fun _ => true,assoc [(10,.bool true),(22,iI (i + 1))]⟩) 40 CX (wI pl bt bd N i c) (wI pl bt bd N (i + 1) (fP F2 c (WZ p (kM (x i) pl)))) = some ([aI .lss .i64 (Int.ofNat i) (Int.ofNat N) = some (.bool true),old bt 0 [.c (pY bT 0 N N)],Int.ofNat i = Int.ofNat i,i < N,old bd 0 (eN b o n m),dT (eN b o n m) = 2,b = b,o = o,n = n,m = m,i < n,pl < 1152921504606846976,bT = bT,0 + i * 192 = i * 192,-8 ≤ kM (x i) pl,kM (x i) pl ≤ 8,aI .add .i64 (Int.ofNat i) 1 = some (iI (i + 1))],.nrm,wI pl bt bd N (i + 1) (fP F2 c (WZ p (kM (x i) pl)))):=by kernel_rfl
theorem Tt (pl bt bd N i : Nat) (c : J2) : dE prog (qG prog) f175.ntmps (Ga (assoc [(10,.bool false)])) 40 CX (wI pl bt bd N i c) (wI pl bt bd N i c) = some ([aI .lss .i64 (Int.ofNat i) (Int.ofNat N) = some (.bool false)],.ex 0,wI pl bt bd N i c):=by kernel_rfl
theorem Li (pl bt bd N i : Nat) (c : J2) : dE prog (qG prog) f175.ntmps (Ga fun _ => none) 40 (cB (cB (cB fC))) (wI pl bt bd N i c) [.slot 4 (.pt 4 0),.row 4 true (bD c)] = some ([],.rt,[.slot 4 (.pt 4 0),.row 4 true (bD c)]):=by kernel_rfl
structure ClMem2 (w : World) (bt bd bT N b o n m : Nat) (x : Nat → Nat) (pt : Nat → J2) : Prop where
 t : oldOf w bt 0 [.c (pY bT 0 N N)]
 d : oldOf w bd 0 (eN b o n m)
 x : ∀ i,i < n → oldOf w b (o + i * 4) [.q (x i)]
 p : ∀ i,i < N → ∀ k,k < 8 → oldOf w bT (i * 192 + k * 24) (bD (yA (pt i) (k + 1)))
theorem ClMem2.on {w w' : World} (hb : Below w.heap.size w w') {bt bd bT N b o n m : Nat} {x : Nat → Nat} {pt : Nat → J2} (h : ClMem2 w bt bd bT N b o n m x pt) : ClMem2 w' bt bd bT N b o n m x pt :=
 ⟨h.t.on hb (base:=0),h.d.on hb (base:=0),fun i hi => (h.x i hi).on hb (base:=0),fun i hi k hk => (h.p i hi k hk).on hb (base:=0)⟩
theorem Bj {w0 : World} {bt bd bT N b o n m : Nat} {x : Nat → Nat} {pt : Nat → J2} (h : ClMem2 w0 bt bd bT N b o n m x pt) (hN : N ≤ n) (hn : n < 4611686018427387904) {pl : Nat} (hpl : pl < 1152921504606846976) : Calls prog 175 #[iI pl,sM bt 0,sM bd 0] w0 (fun e w' => e = .returned (.agg (aB (bD (zS pt x pl N))).toArray) ∧ Below w0.heap.size w0 w'):=by
 have hG : cL prog (qG prog) w0.heap.size w0:=(aG _).w _ _;have hT : ∀ n d : Nat,TabOkW prog (gU true) w0.heap.size w0:=fun _ _ => (lM true).w _ _
 refine gP func175 (c:=fC) rfl (args:=[iI pl,sM bt 0,sM bd 0]) (cs:=[.v (.im (iI pl)),.v (.im (sM bt 0)),.v (.im (sM bd 0))]) ⟨rfl,rfl,rfl,trivial⟩ (Nat.le_of_ble_eq_true (by kernel_rfl)) fun a w' hA => ?_
 rw [Lj];refine wp_seq (aU aF hT hG (aBd pl bt bd) trivial hA fun a w' hA => ?_);refine wp_seq (aU aF hT hG (aBc pl bt bd) trivial hA fun a w' hA => ?_);refine wp_seq (wp_seq (aU aF hT (yE (x:=Ts (oldOf w0) bT N b o n m 0) rfl rfl) (aBb (oldOf w0) pl bt bd bT N b o n m) ⟨h.t,trivial⟩ hA fun a w' hA => ?_));refine wp_block ?_;refine nQ aF (fun i => wI pl bt bd N i (zS pt x pl i)) N (fun i hi => ?_) (.ex 0) (by simp) (wI pl bt bd N N (zS pt x pl N)) ?_ hA fun a w' hA => ?_
 ·refine ⟨_,_,_,_,yE (x:=Ts (oldOf w0) bT N b o n m i) rfl rfl,fun _ _ => ?_,aBe (oldOf w0) pl bt bd bT N b o n m i x (pt i) (zS pt x pl i),kG hi,h.t,rfl,hi,h.d,rfl,rfl,rfl,rfl,rfl,by omega,hpl,rfl,by omega,(VK _ _).1,(VK _ _).2,zC (k:=1) (by omega),trivial⟩;refine TabOkW.add (TabOkW.add ((lM true).w _ _) func178 (by kernel_rfl) (by kernel_rfl) fun w hw => ?_) func177 (by kernel_rfl) (by kernel_rfl) fun w hw => ?_
  ·exact aAF fun j hj => (h.x j hj).on hw (base:=0)
  ·exact Jk fun k hk => (h.p i hi k hk).on hw (base:=0)
 ·exact ⟨_,_,_,_,hG,hT,Tt pl bt bd N N _,oU (Nat.le_refl _),trivial⟩
 ·show (cB (cB (cB fC))).wp _ _ _ _;exact aU aF hT hG (Li pl bt bd N N _) trivial hA fun a w' hA => iN (l:=[.fl (bD (zS pt x pl N))]) (r:=.one (.fl (bD (zS pt x pl N)))) (by kernel_rfl) (by kernel_rfl) hA
def Aa (D : Nat → J2) (PL : Nat) : Nat → J2
 | 0 => (F2.zero,F2.zero,F2.zero)
 | i + 1 => fP F2 (dI F2 (dI F2 (dI F2 (dI F2 (Aa D PL i))))) (D (PL - 1 - i))
def wH (bt bd : Nat) : Value:=.func (.func 175) #[] #[sM bt 0,sM bd 0]
def vB (bt bd b o n m PL i : Nat) (c : J2) : List Fact:=[.slot 1 (.im (wH bt bd)),.slot 2 (.pt 2 0),.row 2 true (eN b o n m),.slot 4 (.pt 4 0),.row 4 true (bD (F2.zero,F2.zero,F2.zero)),.slot 5 (.pt 5 0),.row 5 true (bD c),.slot 6 (.im (iI PL)),.slot 10 (.im (iI PL)),.slot 11 (.im (iI i))]
def aDp (bt bd : Nat) (D : Nat → J2) : gC
 | [.v (.im (.int .i64 (.ofNat p))),.v (.im (.pointer (some ⟨b1,0,.none⟩))),.v (.im (.pointer (some ⟨b2,0,.none⟩)))] => some ([b1 = bt,b2 = bd,p < 1152921504606846976],.one (.fl (bD (D p))))
 | _ => none
def aEP (bt bd b o n m PL : Nat) (D : Nat → J2) : Tab:=((gU true).add 187 (gPl b o n m PL)).add 175 (aDp bt bd D)
def eG : Code:=(f174.body).getD .skip
def BN : Code:=Bp (Bp (cB (cA (cB (cB (cB eG))))))
theorem Gi : eG = .seq (cA eG) (.seq (cA (cB eG)) (.seq (cA (cB (cB eG))) (.seq (.seq (cA (cA (cB (cB (cB eG))))) (.block 0 (.loop BN))) (cB (cB (cB (cB eG))))))):=by kernel_rfl
def JB (bt bd b o n m PL : Nat) (D : Nat → J2) (num : Nat → Option Value) (_ : Nat) : Cfg:=⟨fun _ => aEP bt bd b o n m PL D,fun _ => true,num⟩
def Za (bt bd b o n m : Nat) : List Fact:=[.slot 1 (.im (wH bt bd)),.slot 2 (.pt 2 0),.row 2 true (eN b o n m),.slot 4 (.pt 4 0),.row 4 true (bD (F2.zero,F2.zero,F2.zero))]
def Yz (bt bd b o n m : Nat) : List Fact:=[.slot 1 (.im (wH bt bd)),.slot 2 (.pt 2 0),.row 2 true (eN b o n m),.slot 4 (.pt 4 0),.row 4 true (bD (F2.zero,F2.zero,F2.zero)),.slot 5 (.pt 5 0),.row 5 true (bD (F2.zero,F2.zero,F2.zero))]
def Gg (bt bd b o n m PL : Nat) : List Fact:=[.slot 1 (.im (wH bt bd)),.slot 2 (.pt 2 0),.row 2 true (eN b o n m),.slot 4 (.pt 4 0),.row 4 true (bD (F2.zero,F2.zero,F2.zero)),.slot 5 (.pt 5 0),.row 5 true (bD (F2.zero,F2.zero,F2.zero)),.slot 6 (.im (iI PL))]
theorem Ze (bt bd b o n m PL : Nat) (D : Nat → J2) : dE prog (qG prog) f174.ntmps (JB bt bd b o n m PL D fun _ => none) 40 (cA eG) (mE 0 [.v (.fl (eN b o n m)),.v (.im (wH bt bd))]) (Za bt bd b o n m) = some ([],.nrm,Za bt bd b o n m):=by kernel_rfl
theorem Zd (bt bd b o n m PL : Nat) (D : Nat → J2) : dE prog (qG prog) f174.ntmps (JB bt bd b o n m PL D fun _ => none) 40 (cA (cB eG)) (Za bt bd b o n m) (Yz bt bd b o n m) = some ([],.nrm,Yz bt bd b o n m):=by kernel_rfl
theorem Zc (bt bd b o n m PL : Nat) (D : Nat → J2) : dE prog (qG prog) f174.ntmps (JB bt bd b o n m PL D fun _ => none) 40 (cA (cB (cB eG))) (Yz bt bd b o n m) (Gg bt bd b o n m PL) = some ([b = b,o = o,n = n,m = m],.nrm,Gg bt bd b o n m PL):=by kernel_rfl
theorem Zb (bt bd b o n m PL : Nat) (D : Nat → J2) : dE prog (qG prog) f174.ntmps (JB bt bd b o n m PL D fun _ => none) 40 (cA (cA (cB (cB (cB eG))))) (Gg bt bd b o n m PL) (vB bt bd b o n m PL 0 (F2.zero,F2.zero,F2.zero)) = some ([],.nrm,vB bt bd b o n m PL 0 (F2.zero,F2.zero,F2.zero)):=by kernel_rfl
theorem Zf (bt bd b o n m PL i : Nat) (D : Nat → J2) (c : J2) : dE prog (qG prog) f174.ntmps (JB bt bd b o n m PL D (assoc [(12,.bool true),(24,iI (PL - 1)),(26,iI (PL - 1 - i)),(29,iI (i + 1))])) 60 BN (vB bt bd b o n m PL i c) (vB bt bd b o n m PL (i + 1) (fP F2 (dI F2 (dI F2 (dI F2 (dI F2 c)))) (D (PL - 1 - i)))) = some ([aI .lss .i64 (Int.ofNat i) (Int.ofNat PL) = some (.bool true),aI .sub .i64 (Int.ofNat PL) 1 = some (iI (PL - 1)),aI .sub .i64 (Int.ofNat (PL - 1)) (Int.ofNat i) = some (iI (PL - 1 - i)),bt = bt,bd = bd,PL - 1 - i < 1152921504606846976,aI .add .i64 (Int.ofNat i) 1 = some (iI (i + 1))],.nrm,vB bt bd b o n m PL (i + 1) (fP F2 (dI F2 (dI F2 (dI F2 (dI F2 c)))) (D (PL - 1 - i)))):=by kernel_rfl
theorem Qz (bt bd b o n m PL i : Nat) (D : Nat → J2) (c : J2) : dE prog (qG prog) f174.ntmps (JB bt bd b o n m PL D (assoc [(12,.bool false)])) 40 BN (vB bt bd b o n m PL i c) (vB bt bd b o n m PL i c) = some ([aI .lss .i64 (Int.ofNat i) (Int.ofNat PL) = some (.bool false)],.ex 0,vB bt bd b o n m PL i c):=by kernel_rfl
theorem Gh (bt bd b o n m PL i : Nat) (D : Nat → J2) (c : J2) : dE prog (qG prog) f174.ntmps (JB bt bd b o n m PL D fun _ => none) 40 (cB (cB (cB (cB eG)))) (vB bt bd b o n m PL i c) [.slot 4 (.pt 4 0),.row 4 true (bD c)] = some ([],.rt,[.slot 4 (.pt 4 0),.row 4 true (bD c)]):=by kernel_rfl
theorem ZZ {w0 : World} {bt bd bT N b o n m : Nat} {x : Nat → Nat} {pt : Nat → J2} (h : ClMem2 w0 bt bd bT N b o n m x pt) (hN : N ≤ n) (hn : n < 4611686018427387904) : Calls prog 174 #[.agg (aB (eN b o n m)).toArray,wH bt bd] w0 (fun e w' => e = .returned (.agg (aB (bD (Aa (fun p => zS pt x p N) (mU x n / 4 + 1) (mU x n / 4 + 1)))).toArray) ∧ Below w0.heap.size w0 w'):=by
 have hG : cL prog (qG prog) w0.heap.size w0:=(aG _).w _ _;have hL:=PS x n;generalize hPL : mU x n / 4 + 1 = PL;have hPL' : PL < 1000:=by omega
 have hT : ∀ num,∀ n' d : Nat,TabOkW prog ((JB bt bd b o n m PL (fun p => zS pt x p N) num n').T d) w0.heap.size w0:=fun num _ _ => by
  refine TabOkW.add (TabOkW.add ((lM true).w _ _) func187 (by kernel_rfl) (by kernel_rfl) fun w hw cs pre r hg hq args ha => ?_) func175 (by kernel_rfl) (by kernel_rfl) fun w hw cs pre r hg hq args ha => ?_
  ·unfold gPl at hg;split at hg
   ·cases hg;obtain ⟨rfl,rfl,rfl,rfl,_⟩:=hq;rw [jF ha,← hPL];exact BM _ _ _ _ x (fun j hj => (h.x j hj).on hw (base:=0)) hn
   ·cases hg
  ·unfold aDp at hg;split at hg
   ·rename_i p b1 b2;cases hg;obtain ⟨rfl,rfl,hp,_⟩:=hq
    match args,ha with
    | [u,v,t],ha =>
     have e1 : u = iI p:=ha.1;have e2 : v = sM b1 0:=ha.2.1;have e3 : t = sM b2 0:=ha.2.2.1;subst e1; subst e2; subst e3;exact Bj (h.on hw) hN hn hp
    | [],ha => exact ha.elim
    | [_],ha => exact ha.2.elim
    | [_,_],ha => exact ha.2.2.elim
    | _ :: _ :: _ :: _ :: _,ha => exact ha.2.2.2.elim
   ·cases hg
 refine gP func174 (c:=eG) rfl (args:=[.agg (aB (eN b o n m)).toArray,wH bt bd]) (cs:=[.v (.fl (eN b o n m)),.v (.im (wH bt bd))]) ⟨rfl,rfl,trivial⟩ (Nat.le_of_ble_eq_true (by kernel_rfl)) fun a w' hA => ?_
 rw [Gi];refine wp_seq (aU aF (hT _) hG (Ze bt bd b o n m PL _) trivial hA fun a w' hA => ?_);refine wp_seq (aU aF (hT _) hG (Zd bt bd b o n m PL _) trivial hA fun a w' hA => ?_);refine wp_seq (aU aF (hT _) hG (Zc bt bd b o n m PL _) ⟨rfl,rfl,rfl,rfl,trivial⟩ hA fun a w' hA => ?_);refine wp_seq (wp_seq (aU aF (hT _) hG (Zb bt bd b o n m PL _) trivial hA fun a w' hA => ?_));refine wp_block ?_;refine nQ aF (fun i => vB bt bd b o n m PL i (Aa (fun p => zS pt x p N) PL i)) PL (fun i hi => ?_) (.ex 0) (by simp) (vB bt bd b o n m PL PL (Aa (fun p => zS pt x p N) PL PL)) ?_ hA fun a w' hA => ?_
 ·exact ⟨_,_,_,_,hG,hT _,Zf bt bd b o n m PL i _ (Aa (fun p => zS pt x p N) PL i),kG hi,vK (k:=1) (by omega) (by omega),vK (by omega) (by omega),rfl,rfl,by omega,zC (k:=1) (by omega),trivial⟩
 ·exact ⟨_,_,_,_,hG,hT _,Qz bt bd b o n m PL PL _ _,oU (Nat.le_refl _),trivial⟩
 ·show (cB (cB (cB (cB eG)))).wp _ _ _ _;exact aU aF (hT _) hG (Gh bt bd b o n m PL PL _ _) trivial hA fun a w' hA => iN (l:=[.fl (bD (Aa (fun p => zS pt x p N) PL PL))]) (r:=.one (.fl (bD (Aa (fun p => zS pt x p N) PL PL)))) (by kernel_rfl) (by kernel_rfl) hA
theorem EE {P : Program} {id : Nat} {ops : Array Oper} {l : List Nat} (hl : List.range ops.size = l) {Q : Exit → Act → World → Prop} {a : Act} {w : World} (h : wpOps P ops Q l a w) : (Code.region id ops false).wp P Q a w:=wp_region (by rw [hl]; exact h)
def pR : J2:=(F2.zero,F2.zero,F2.zero)
def nH (p : J2) : List At:=bD (yA p 1) ++ (bD (yA p 2) ++ (bD (yA p 3) ++ (bD (yA p 4) ++ (bD (yA p 5) ++ (bD (yA p 6) ++ (bD (yA p 7) ++ (bD (yA p 8))))))))
def Ur : List At:=bD pR ++ (bD pR ++ (bD pR ++ (bD pR ++ (bD pR ++ (bD pR ++ (bD pR ++ (bD pR)))))))
theorem SK (p : J2) : dT (nH p) = 192:=by kernel_rfl
theorem Bu : dT Ur = 192:=by kernel_rfl
def mX (p : J2) (k : Nat) : List At:=bD (yA p (k + 1))
theorem Ct (p : J2) : nH p = eB (mX p) 0 8:=by
 show nH p = mX p 0 ++ (mX p 1 ++ (mX p 2 ++ (mX p 3 ++ (mX p 4 ++ (mX p 5 ++ (mX p 6 ++ (mX p 7 ++ [])))))));rw [List.append_nil];rfl
theorem Dm (p : J2) : aT prog (qG prog) (fun _ => ⟨fun s => gU true,fun s => true,fun _ => none⟩) f173 200 [.v (.fl (bD p))] = some ([],.one (.fl (nH p))):=by kernel_rfl
def iT : Tab:=(gU true).add 173 (g1 IC fun p => ([],.one (.fl (nH p))))
theorem iC : TabOk prog iT:=(lM true).ad func173 (cG fE fun p hp args w ha => aC aF (fun _ s => lM _) (aG prog) func173 (Dm p) trivial ha)
def cQ : Code:=(f160.body).getD .skip
def DB : Code:=Bp (Bp (cB (cA (cB (cB cQ)))))
theorem Lw : cQ = .seq (cA cQ) (.seq (.region 1 (lK (cA (cB cQ))) false) (.seq (.seq (cA (cA (cB (cB cQ)))) (.block 0 (.loop DB))) (.seq (cA (cB (cB (cB cQ)))) (.seq (.region 8 (lK (cA (cB (cB (cB (cB cQ)))))) false) .ret)))):=by kernel_rfl
def aBs (LP : List At) (N N' : Nat) (vn : Value) : List Fact:=[.slot 0 (.sl 0 0 N N'),.row 0 false LP,.slot 1 (.im vn),.slot 4 (.pt 4 0),.row 4 true (bD pR)]
def Lv (LP Z : List At) (N N' : Nat) (vn : Value) : List Fact:=[.slot 0 (.sl 0 0 N N'),.row 0 false LP,.slot 1 (.im vn),.slot 4 (.pt 4 0),.row 4 true (bD pR),.slot 11 (.sl 11 0 N N),.row 11 true Z,.slot 5 (.pt 5 0),.row 5 true [.c (.slice none 0 0)]]
def aBr (LP Z : List At) (N N' b : Nat) (vn : Value) : List Fact:=[.at 11 b,.slot 0 (.sl 0 0 N N'),.row 0 false LP,.slot 1 (.im vn),.slot 4 (.pt 4 0),.row 4 true (bD pR),.row 11 true Z,.slot 5 (.pt 5 0),.row 5 true [.c (pY b 0 N N)]]
def wN (LP Z : List At) (N N' b : Nat) (vn : Value) (i : Nat) : List Fact:=[.at 11 b,.slot 0 (.sl 0 0 N N'),.row 0 false LP,.slot 1 (.im vn),.slot 4 (.pt 4 0),.row 4 true (bD pR),.row 11 true Z,.slot 5 (.pt 5 0),.row 5 true [.c (pY b 0 N N)],.slot 12 (.sl 0 0 N N'),.slot 13 (.im (iI N)),.slot 14 (.im (iI i))]
def Lu (Z : List At) (N b bn on n m : Nat) : List Fact:=[.at 11 b,.slot 4 (.pt 4 0),.row 4 true (bD pR),.row 11 true Z,.slot 5 (.pt 5 0),.row 5 true [.c (pY b 0 N N)],.slot 8 (.pt 8 0),.row 8 true (eN bn on n m)]
def sS (Z : List At) (N b b5 b8 bn on n m : Nat) : List Fact:=[.at 5 b5,.at 8 b8,.at 11 b,.slot 4 (.pt 4 0),.row 4 true (bD pR),.row 11 true Z,.row 5 true [.c (pY b 0 N N)],.row 8 true (eN bn on n m),.slot 27 (.fl (eN bn on n m)),.slot 28 (.im (wH b5 b8))]
def Lt (num : Nat → Option Value) (_ : Nat) : Cfg:=⟨fun _ => iT,fun _ => true,num⟩
def sE : Cfg:=⟨fun _ => iT,fun _ => true,fun _ => none⟩
theorem aBz (LP : List At) (N N' : Nat) (vn : Value) : dE prog (qG prog) f160.ntmps (Lt fun _ => none) 40 (cA cQ) (mE 0 [.s LP N N',.v (.im vn)]) (aBs LP N N' vn) = some ([],.nrm,aBs LP N N' vn):=by kernel_rfl
def Vz (N : Nat) (Z : List At) : Ext:={ Us (fun _ _ _ => False) with mks:=assoc [(11,(N,Z))] }
theorem aBy (LP Z : List At) (N N' : Nat) (vn : Value) : OU prog (qX prog (Vz N Z)) f160.ntmps sE ((lK (cA (cB cQ))).extract 0 4) (aBs LP N N' vn) (Lv LP Z N N' vn) = some ([∃ e,∀ w : World,(Instr.makeSlice 205 (iI N) (iI N)).run prog w = .ok (.slice (some ⟨w.heap.size,0,none⟩) N N) (w.alloc (.cells (aB Z).toArray e))],Lv LP Z N N' vn):=by kernel_rfl
theorem aBx (LP Z : List At) (N N' b : Nat) (vn : Value) : OU prog (qG prog) f160.ntmps sE ((lK (cA (cB cQ))).extract 4 5) (.slot 11 (.im (pY b 0 N N)) :: .at 11 b :: Lv LP Z N N' vn) (aBr LP Z N N' b vn) = some ([],aBr LP Z N N' b vn):=by kernel_rfl
theorem aBw (LP Z : List At) (N N' b : Nat) (vn : Value) : dE prog (qG prog) f160.ntmps (Lt fun _ => none) 40 (cA (cA (cB (cB cQ)))) (aBr LP Z N N' b vn) (wN LP Z N N' b vn 0) = some ([],.nrm,wN LP Z N N' b vn 0):=by kernel_rfl
def aDM (N b i : Nat) (p : J2) (Z' : List At) : Ext:={ Us (fun _ _ _ => False) with idx:=assoc [(17,i),(23,i)],ld:=assoc [(18,bD p)],st:=assoc [(23,Z')],gen:=assoc [(19,pY b 0 N N)],ky:=assoc [(19,11)] }
theorem aBA (LP Z Z' : List At) (N N' b : Nat) (vn : Value) (i : Nat) (p : J2) : dE prog (qX prog (aDM N b i p Z')) f160.ntmps (Lt (assoc [(15,.bool true),(24,iI (i + 1))])) 40 DB (wN LP Z N N' b vn i) (wN LP Z' N N' b vn (i + 1)) = some ([aI .lss .i64 (Int.ofNat i) (Int.ofNat N) = some (.bool true),Int.ofNat i = Int.ofNat i,i < N,LK LP (0 + i * 24) 24 = some (bD p),cellAt [.c (pY b 0 N N)] 0 = some (pY b 0 N N),b = b,Int.ofNat i = Int.ofNat i,i < N,put Z (0 + i * 192) (nH p) = some Z',aI .add .i64 (Int.ofNat i) 1 = some (iI (i + 1))],.nrm,wN LP Z' N N' b vn (i + 1)):=by kernel_rfl
theorem Tv (LP Z : List At) (N N' b : Nat) (vn : Value) (i : Nat) : dE prog (qG prog) f160.ntmps (Lt (assoc [(15,.bool false)])) 40 DB (wN LP Z N N' b vn i) (wN LP Z N N' b vn i) = some ([aI .lss .i64 (Int.ofNat i) (Int.ofNat N) = some (.bool false)],.ex 0,wN LP Z N N' b vn i):=by kernel_rfl
theorem aBv (LP Z : List At) (N N' b bn on n m i : Nat) : dE prog (qG prog) f160.ntmps (Lt fun _ => none) 40 (cA (cB (cB (cB cQ)))) (wN LP Z N N' b (pY bn on n m) i) (Lu Z N b bn on n m) = some ([],.nrm,Lu Z N b bn on n m):=by kernel_rfl
theorem aBu (Z : List At) (N b b5 b8 bn on n m : Nat) : OU prog (qG prog) f160.ntmps sE ((lK (cA (cB (cB (cB (cB cQ)))))).extract 0 2) (.at 8 b8 :: .at 5 b5 :: Lu Z N b bn on n m) (sS Z N b b5 b8 bn on n m) = some ([],sS Z N b b5 b8 bn on n m):=by kernel_rfl
theorem aBt (Z : List At) (N b b5 b8 bn on n m : Nat) (r : J2) : OU prog (qG prog) f160.ntmps sE ((lK (cA (cB (cB (cB (cB cQ)))))).extract 3 4) (.slot 29 (.fl (bD r)) :: sS Z N b b5 b8 bn on n m) [.slot 4 (.pt 4 0),.row 4 true (bD r)] = some ([],[.slot 4 (.pt 4 0),.row 4 true (bD r)]):=by kernel_rfl
theorem Bv : rQ (aB Ur) (.int .u64 0):=by unfold rQ; kernel_rfl
theorem Tu {w : World} {b N i k : Nat} {pt : Nat → J2} (h : oldOf w b 0 (eB (fun j => nH (pt j)) 0 N)) (hi : i < N) (hk : k < 8) : oldOf w b (i * 192 + k * 24) (bD (yA (pt i) (k + 1))):=by
 refine ⟨h.1,?_⟩;have h1 : w.rangeAt b (0 + i * 192) (aB (nH (pt i))):=qH (f:=fun j => nH (pt j)) (c:=192) (fun j => SK (pt j)) hi h.2;rw [Ct,Nat.zero_add] at h1;exact qH (f:=mX (pt i)) (c:=24) (fun j => rfl) hk h1
theorem Bl {w0 : World} {gb go N N' bn on n m : Nat} {x : Nat → Nat} {pt : Nat → J2} {LP : List At} (hLP : aB LP = aB (eB (fun j => bD (pt j)) 0 N)) (hP : oldOf w0 gb go LP) (hx : ∀ i,i < n → oldOf w0 bn (on + i * 4) [.q (x i)]) (hN : N ≤ n) (hN2 : N ≤ 65536) (hn : n < 4611686018427387904) : Calls prog 160 #[pY gb go N N',pY bn on n m] w0 (fun e w' => e = .returned (.agg (aB (bD (Aa (fun p => zS pt x p N) (mU x n / 4 + 1) (mU x n / 4 + 1)))).toArray) ∧ Below w0.heap.size w0 w'):=by
 have hG : cL prog (qG prog) w0.heap.size w0:=(aG _).w _ _;have hT : ∀ n d : Nat,TabOkW prog iT w0.heap.size w0:=fun _ _ => iC.w _ _
 have hXF : ∀ x : Ext,x.T2 = Fr0 → (∀ b o l,¬ x.old b o l) → cL prog (qX prog x) w0.heap.size w0:=fun x h2 h3 => uV (h2 ▸ mG _) fun b o l h => (h3 b o l h).elim
 have hP' : oldOf w0 gb go (eB (fun j => bD (pt j)) 0 N):=⟨hP.1,by rw [← hLP]; exact hP.2⟩;clear hP hLP;refine gP func160 (c:=cQ) rfl (args:=[pY gb go N N',pY bn on n m]) (cs:=[.s (eB (fun j => bD (pt j)) 0 N) N N',.v (.im (pY bn on n m))]) ⟨⟨gb,go,rfl,hP'.1,hP'.2⟩,rfl,trivial⟩ (Nat.le_of_ble_eq_true (by kernel_rfl)) fun a w' hA => ?_
 rw [Lw];refine wp_seq (aU aF hT hG (aBz _ N N' _) trivial hA fun a w' hA => ?_);refine wp_seq (EE (l:=List.range' 0 ((lK (cA (cB cQ))).extract 0 4).size ++ (List.range' 4 ((lK (cA (cB cQ))).extract 4 5).size ++ [])) (by kernel_rfl) ?_);refine jB (c:=sE) (hT 0) (hXF (Vz N (eB (fun _ => Ur) 0 N)) rfl fun _ _ _ h => h) (aBy _ _ N N' _) ⟨?_,trivial⟩ (by kernel_rfl) hA fun a w' hA => ?_
 ·exact UJ (t:=205) (e:=207) (z:=Ur) (v:=.int .u64 0) (n:=192) (by8:=1536) (by kernel_rfl) (by kernel_rfl) Bu Bv (by omega) (by omega) (by omega)
 obtain ⟨b,hA⟩:=hA.at (k:=11) (l:=eB (fun _ => Ur) 0 N) (by simp [Lv]);have hA:=hA.im (s:=11) (k:=11) (o:=0) (n:=N) (m:=N) (b:=b) (by simp [Lv]) (by simp);refine jB (c:=sE) (hT 0) hG (aBx _ _ N N' b _) trivial (by kernel_rfl) hA fun a w' hA => ?_
 refine wp_seq (wp_seq (aU aF hT hG (aBw _ _ N N' b _) trivial hA fun a w' hA => ?_));refine wp_block ?_;refine nQ aF (fun i => wN (eB (fun j => bD (pt j)) 0 N) (nR (fun j => nH (pt j)) Ur N i) N N' b (pY bn on n m) i) N (fun i hi => ?_) (.ex 0) (by simp) (wN (eB (fun j => bD (pt j)) 0 N) (eB (fun j => nH (pt j)) 0 N) N N' b (pY bn on n m) N) ?_ (by rw [It]; exact hA) fun a w' hA => ?_
 ·exact ⟨_,_,_,_,hXF (aDM N b i (pt i) _) rfl (fun _ _ _ h => h),hT,aBA _ _ (nR (fun j => nH (pt j)) Ur N (i + 1)) N N' b _ i (pt i),kG hi,rfl,hi,sW (f:=fun j => bD (pt j)) (c:=24) (fun j => rfl) hi (Nat.zero_add _),rfl,rfl,rfl,hi,IH (f:=fun j => nH (pt j)) (c:=192) (fun j => SK (pt j)) Bu hi (Nat.zero_add _),zC (k:=1) (by omega),trivial⟩
 ·rw [← Ir (fun j => nH (pt j)) Ur N];exact ⟨_,_,_,_,hG,hT,Tv _ _ N N' b _ N,oU (Nat.le_refl _),trivial⟩
 refine wp_seq (aU aF hT hG (aBv _ _ N N' b bn on n m N) trivial hA fun a w' hA => ?_);obtain ⟨b5,hA⟩:=hA.at (k:=5) (l:=[.c (pY b 0 N N)]) (by simp [Lu]);obtain ⟨b8,hA⟩:=hA.at (k:=8) (l:=eN bn on n m) (by simp [Lu]);refine wp_seq (EE (l:=List.range' 0 ((lK (cA (cB (cB (cB (cB cQ)))))).extract 0 2).size ++ (2 :: (List.range' 3 ((lK (cA (cB (cB (cB (cB cQ)))))).extract 3 4).size ++ []))) (by kernel_rfl) ?_);refine jB (c:=sE) (hT 0) hG (aBu _ N b b5 b8 bn on n m) trivial (by kernel_rfl) hA fun a w' hA => ?_
 have hM : ClMem2 w' b5 b8 b N bn on n m x pt:=by
  refine ⟨hA.old (k:=5) (by simp [sS]) (by simp [sS]),hA.old (k:=8) (by simp [sS]) (by simp [sS]),fun i hi => (hx i hi).on hA.below (base:=0),fun i hi k hk => ?_⟩;exact Tu (hA.old (k:=11) (by simp [sS]) (by simp [sS])) hi hk
 have h27:=hA.slotF (s:=27) (l:=eN bn on n m) (by simp [sS]);have h28:=hA.slot (s:=28) (v:=wH b5 b8) (by simp [sS]);obtain ⟨o,ho,hoo,hod,hog⟩ : ∃ o,(lK (cA (cB (cB (cB (cB cQ))))))[2]? = some o ∧ (∃ ts,o.op = .call ⟨.value (.func 174),#[.tmp 27,.tmp 28],ts⟩) ∧ o.dst = some 29 ∧ o.guard = none:=⟨_,rfl,⟨_,rfl⟩,rfl,rfl⟩
 obtain ⟨ts,hoo⟩:=hoo;refine WS ho hog (LN hoo (vs:=[.agg (aB (eN bn on n m)).toArray,wH b5 b8]) (by simp [Act.eval,h27,h28]) (jX func174 (by kernel_rfl) (by kernel_rfl) · _) (ZZ hM hN hn) fun w'' hb => ?_);rw [hod];have hA:=hA.put hb (d:=29) (Nat.le_of_ble_eq_true (by kernel_rfl)) (.fl (bD (Aa (fun p => zS pt x p N) (mU x n / 4 + 1) (mU x n / 4 + 1)))) (by
  have : (sS (eB (fun j => nH (pt j)) 0 N) N b b5 b8 bn on n m).all (fun φ => !(pJ (some 29) none φ)) = true:=by kernel_rfl
  intro φ hφ;rw [List.all_eq_true] at this;simpa using this φ hφ)
 refine jB (c:=sE) (hT 0) hG (aBt _ N b b5 b8 bn on n m _) trivial (by kernel_rfl) hA fun a w' hA => ?_
 exact wp_ret (iN (l:=[.fl (bD (Aa (fun p => zS pt x p N) (mU x n / 4 + 1) (mU x n / 4 + 1)))]) (r:=.one (.fl (bD (Aa (fun p => zS pt x p N) (mU x n / 4 + 1) (mU x n / 4 + 1))))) (by kernel_rfl) (by kernel_rfl) hA)
def aBg (p : DY) : Int × J1:=lY p.1 p.2.1 p.2.2
def eT (p : dC) : Int × J2:=fQ p.1 p.2.1 p.2.2
def iP (ps : Nat → dC) : Nat → Int
 | 0 => 0
 | i + 1 => if iP ps i ≠ 0 then iP ps i else (eT (ps i)).1
theorem CP {ps : Nat → dC} : ∀ {N : Nat},iP ps N = 0 → ∀ j,j < N → (eT (ps j)).1 = 0
 | N + 1,h,j,hj => by
  unfold iP at h
  by_cases h0 : iP ps N = 0
  ·rw [if_neg (fun q => q h0)] at h
   by_cases e : j = N
   ·rw [e]; exact h
   ·exact CP h0 j (by omega)
  ·rw [if_pos h0] at h; exact (h0 h).elim
theorem KQ {ps : Nat → dC} : ∀ {N : Nat},iP ps N ≠ 0 → ∃ j,j < N ∧ (∀ k,k < j → (eT (ps k)).1 = 0) ∧ (eT (ps j)).1 ≠ 0 ∧ iP ps N = (eT (ps j)).1
 | 0,h => (h rfl).elim
 | N + 1,h => by
  unfold iP at h ⊢
  by_cases h0 : iP ps N = 0
  ·rw [if_neg (fun q => q h0)] at h ⊢;exact ⟨N,by omega,fun k hk => CP h0 k hk,h,rfl⟩
  ·rw [if_pos h0];obtain ⟨j,h1,h2,h3,h4⟩:=KQ h0;exact ⟨j,by omega,h2,h3,h4⟩
def yP (ps : Nat → dC) (j : Nat) : J2:=(eT (ps j)).2
def mW (LG Z : List At) (N N' i : Nat) : List Fact:=[.slot 1 (.sl 1 0 N N'),.row 1 false LG,.slot 2 (.pt 2 0),.row 2 true gZ,.slot 6 (.sl 12 0 N N),.row 12 true Z,.slot 14 (.im (iI N)),.slot 15 (.im (iI i))]
def aBK (LG : List At) (N N' : Nat) : List Fact:=[.slot 1 (.sl 1 0 N N'),.row 1 false LG,.slot 2 (.pt 2 0),.row 2 true gZ]
def aBJ (LG Z : List At) (N N' : Nat) : List Fact:=[.slot 1 (.sl 1 0 N N'),.row 1 false LG,.slot 2 (.pt 2 0),.row 2 true gZ,.slot 6 (.sl 12 0 N N),.row 12 true Z]
def eQ : Code:=(f132.body).getD .skip
def mQ : Code:=Bp (Bp (cB (cA (cB (cB eQ)))))
theorem Mi : eQ = .seq (cA eQ) (.seq (cA (cB eQ)) (.seq (.seq (cA (cA (cB (cB eQ)))) (.block 0 (.loop mQ))) (cB (cB (cB eQ))))):=by kernel_rfl
def RA (num : Nat → Option Value) (_ : Nat) : Cfg:=⟨fun _ => iT,fun _ => true,num⟩
theorem aBN (LG : List At) (N N' : Nat) : dE prog (qG prog) f132.ntmps (RA fun _ => none) 40 (cA eQ) (mE 0 [.v (.fl gZ),.s LG N N']) (aBK LG N N') = some ([],.nrm,aBK LG N N'):=by kernel_rfl
def We (N : Nat) (Z : List At) : Ext:={ Us (fun _ _ _ => False) with mks:=assoc [(12,(N,Z))] }
theorem aBM (LG Z : List At) (N N' : Nat) : dE prog (qX prog (We N Z)) f132.ntmps (RA fun _ => none) 40 (cA (cB eQ)) (aBK LG N N') (aBJ LG Z N N') = some ([∃ e,∀ w : World,(Instr.makeSlice 173 (iI N) (iI N)).run prog w = .ok (.slice (some ⟨w.heap.size,0,none⟩) N N) (w.alloc (.cells (aB Z).toArray e))],.nrm,aBJ LG Z N N'):=by kernel_rfl
theorem aBL (LG Z : List At) (N N' : Nat) : dE prog (qG prog) f132.ntmps (RA fun _ => none) 40 (cA (cA (cB (cB eQ)))) (aBJ LG Z N N') (mW LG Z N N' 0) = some ([],.nrm,mW LG Z N N' 0):=by kernel_rfl
def Uh (i : Nat) (p : dC) (Z' : List At) : Ext:={ Us (fun _ _ _ => False) with idx:=assoc [(23,i),(34,i)],ld:=assoc [(24,cS p)],st:=assoc [(34,Z')] }
theorem aBO (LG Z Z' : List At) (N N' i : Nat) (p : dC) : dE prog (qX prog (Uh i p Z')) f132.ntmps (RA (assoc [(16,.bool true),(29,.bool false),(35,iI (i + 1))])) 60 mQ (mW LG Z N N' i) (mW LG Z' N N' (i + 1)) = some ([aI .lss .i64 (Int.ofNat i) (Int.ofNat N) = some (.bool true),Int.ofNat i = Int.ofNat i,i < N,LK LG (0 + i * 17) 17 = some (cS p),aI .neq .i64 (eT p).1 0 = some (.bool false),Int.ofNat i = Int.ofNat i,i < N,put Z (0 + i * 24) (bD (eT p).2) = some Z',aI .add .i64 (Int.ofNat i) 1 = some (iI (i + 1))],.nrm,mW LG Z' N N' (i + 1)):=by kernel_rfl
theorem aBP (LG Z : List At) (N N' i : Nat) (p : dC) : dE prog (qX prog (Uh i p Z)) f132.ntmps (RA (assoc [(16,.bool true),(29,.bool true)])) 60 mQ (mW LG Z N N' i) [.slot 4 (.im (.slice none 0 0)),.slot 5 (.im (.int .i64 (eT p).1))] = some ([aI .lss .i64 (Int.ofNat i) (Int.ofNat N) = some (.bool true),Int.ofNat i = Int.ofNat i,i < N,LK LG (0 + i * 17) 17 = some (cS p),aI .neq .i64 (eT p).1 0 = some (.bool true)],.rt,[.slot 4 (.im (.slice none 0 0)),.slot 5 (.im (.int .i64 (eT p).1))]):=by kernel_rfl
theorem Ui (LG Z : List At) (N N' i : Nat) : dE prog (qG prog) f132.ntmps (RA (assoc [(16,.bool false)])) 40 mQ (mW LG Z N N' i) (mW LG Z N N' i) = some ([aI .lss .i64 (Int.ofNat i) (Int.ofNat N) = some (.bool false)],.ex 0,mW LG Z N N' i):=by kernel_rfl
theorem Mg (LG Z : List At) (N N' i : Nat) : dE prog (qG prog) f132.ntmps (RA fun _ => none) 40 (cB (cB (cB eQ))) (mW LG Z N N' i) [.slot 4 (.sl 12 0 N N),.row 12 true Z,.slot 5 (.im (.int .i64 0))] = some ([],.rt,[.slot 4 (.sl 12 0 N N),.row 12 true Z,.slot 5 (.im (.int .i64 0))]):=by kernel_rfl
theorem Kw : rQ (aB (bD pR)) (.int .u64 0):=by unfold rQ; kernel_rfl
theorem AA {w0 : World} {args : List Value} {N N' : Nat} {ps : Nat → dC} (ha : bH w0 [.v (.fl gZ),.s (eB (fun j => cS (ps j)) 0 N) N N'] args) (hN2 : N ≤ 65536) {R : Ending → World → Prop}
  (h : ∀ a w,Holds f132.ntmps w0.heap.size w0 (mW (eB (fun j => cS (ps j)) 0 N) (nR (fun j => bD (yP ps j)) (bD pR) N 0) N N' 0) a w → (Code.loop mQ).wp prog (fun e a w => match e with | .exit 0 => (cB (cB (cB eQ))).wp prog (bodyPost prog f132 R) a w | .ret => bodyPost prog f132 R .ret a w | _ => False) a w) : Calls prog 132 args.toArray w0 R:=by
 have hG : cL prog (qG prog) w0.heap.size w0:=(aG _).w _ _;have hT : ∀ n d : Nat,TabOkW prog iT w0.heap.size w0:=fun _ _ => iC.w _ _
 refine gP func132 (c:=eQ) rfl ha (Nat.le_of_ble_eq_true (by kernel_rfl)) fun a w' hA => ?_
 rw [Mi];refine wp_seq (aU aF hT hG (aBN _ N N') trivial hA fun a w' hA => ?_);refine wp_seq (aU aF hT (uV (x:=We N (eB (fun _ => bD pR) 0 N)) (mG _) fun _ _ _ h => h.elim) (aBM _ (eB (fun _ => bD pR) 0 N) N N') ⟨UJ (t:=173) (e:=86) (z:=bD pR) (v:=.int .u64 0) (n:=24) (by8:=192) (by kernel_rfl) (by kernel_rfl) rfl Kw (by omega) (by omega) (by omega),trivial⟩ hA fun a w' hA => ?_);refine wp_seq (wp_seq (aU aF hT hG (aBL _ _ N N') trivial hA fun a w' hA => ?_));refine wp_block ?_;rw [← It (fun j => bD (yP ps j))] at hA;refine Code.wp_mono (fun e a w h => ?_) (h a w' hA);cases e with
 | exit id =>
  cases id with
  | zero => exact h
  | succ k => exact h.elim
 | ret => exact h
 | _ => exact h.elim
theorem LH {w0 : World} {N N' : Nat} {ps : Nat → dC} {i : Nat} (hi : i < N) (hN2 : N ≤ 65536) (h : (eT (ps i)).1 = 0) : Ok prog w0.heap.size w0 f132.ntmps mQ (mW (eB (fun j => cS (ps j)) 0 N) (nR (fun j => bD (yP ps j)) (bD pR) N i) N N' i) .nrm (mW (eB (fun j => cS (ps j)) 0 N) (nR (fun j => bD (yP ps j)) (bD pR) N (i + 1)) N N' (i + 1)) :=
 ⟨_,_,_,_,uV (x:=Uh i (ps i) _) (mG _) (fun _ _ _ h => h.elim),fun _ _ => iC.w _ _,aBO _ _ (nR (fun j => bD (yP ps j)) (bD pR) N (i + 1)) N N' i (ps i),kG hi,rfl,hi,sW (f:=fun j => cS (ps j)) (c:=17) (fun j => rfl) hi (Nat.zero_add _),JP h,rfl,hi,IH (f:=fun j => bD (yP ps j)) (c:=24) (fun j => rfl) rfl hi (Nat.zero_add _),zC (k:=1) (by omega),trivial⟩
theorem Mh {w0 : World} {args : List Value} {N N' : Nat} {ps : Nat → dC} (ha : bH w0 [.v (.fl gZ),.s (eB (fun j => cS (ps j)) 0 N) N N'] args) (hN2 : N ≤ 65536) (h : iP ps N = 0) : Calls prog 132 args.toArray w0 (fun e w' => FR.ok ⟨eB (fun j => bD (yP ps j)) 0 N,N,N,[.im (.int .i64 0)]⟩ w0 e w'):=by
 have hG : cL prog (qG prog) w0.heap.size w0:=(aG _).w _ _;have hT : ∀ n d : Nat,TabOkW prog iT w0.heap.size w0:=fun _ _ => iC.w _ _
 refine AA ha hN2 fun a w hA => ?_
 refine nQ aF (fun i => mW (eB (fun j => cS (ps j)) 0 N) (nR (fun j => bD (yP ps j)) (bD pR) N i) N N' i) N (fun i hi => LH hi hN2 (CP h i hi)) (.ex 0) (by simp) (mW (eB (fun j => cS (ps j)) 0 N) (eB (fun j => bD (yP ps j)) 0 N) N N' N) ?_ hA fun a w hA => ?_
 ·rw [← Ir (fun j => bD (yP ps j)) (bD pR) N];exact ⟨_,_,_,_,hG,hT,Ui _ _ N N' N,oU (Nat.le_refl _),trivial⟩
 ·show (cB (cB (cB eQ))).wp _ _ _ _;exact aU aF hT hG (Mg _ _ N N' N) trivial hA fun a w' hA => Bc (r:=⟨eB (fun j => bD (yP ps j)) 0 N,N,N,[.im (.int .i64 0)]⟩) (by kernel_rfl) hA
theorem Mj {w0 : World} {args : List Value} {N N' : Nat} {ps : Nat → dC} (ha : bH w0 [.v (.fl gZ),.s (eB (fun j => cS (ps j)) 0 N) N N'] args) (hN2 : N ≤ 65536) (h : iP ps N ≠ 0) : Good prog 132 (.many [.im (.slice none 0 0),.im (.int .i64 (iP ps N))]) args w0:=by
 have hG : cL prog (qG prog) w0.heap.size w0:=(aG _).w _ _;have hT : ∀ n d : Nat,TabOkW prog iT w0.heap.size w0:=fun _ _ => iC.w _ _
 obtain ⟨j,hj,h1,h2,h3⟩:=KQ h;rw [h3];refine AA ha hN2 fun a w hA => ?_
 refine nQ aF (fun i => mW (eB (fun j => cS (ps j)) 0 N) (nR (fun j => bD (yP ps j)) (bD pR) N i) N N' i) j (fun i hi => LH (by omega) hN2 (h1 i hi)) .rt (by simp) [.slot 4 (.im (.slice none 0 0)),.slot 5 (.im (.int .i64 (eT (ps j)).1))] ?_ hA fun a w hA => ?_
 ·exact ⟨_,_,_,_,uV (x:=Uh j (ps j) _) (mG _) (fun _ _ _ h => h.elim),fun _ _ => iC.w _ _,aBP _ _ N N' j (ps j),kG hj,rfl,hj,sW (f:=fun j => cS (ps j)) (c:=17) (fun j => rfl) hj (Nat.zero_add _),JO h2,trivial⟩
 ·exact iN (l:=[.im (.slice none 0 0),.im (.int .i64 (eT (ps j)).1)]) (r:=.many [.im (.slice none 0 0),.im (.int .i64 (eT (ps j)).1)]) (by kernel_rfl) (by kernel_rfl) hA
def uC (pt : Nat → J2) (x : Nat → Nat) (N : Nat) : J2:=Aa (fun p => zS pt x p N) (mU x N / 4 + 1) (mU x N / 4 + 1)
def aAC (pt : Nat → J2) (x : Nat → Nat) (N : Nat) : gC
 | [.s LP n1 n2,.s LX n3 n4] => some ([aB LP = aB (eB (fun j => bD (pt j)) 0 N),aB LX = aB (eB (fun j => [.q (x j)]) 0 N),n1 = N,n3 = N,N ≤ 65536],.one (.fl (bD (uC pt x N))))
 | _ => none
theorem Tb {w : World} {pt : Nat → J2} {x : Nat → Nat} {N : Nat} : ∀ cs pre r,aAC pt x N cs = some (pre,r) → aQ pre → ∀ (args : List Value),bH w cs args → Good prog 160 r args w:=by
 intro cs pre r hg hq args ha;unfold aAC at hg;split at hg
 ·rename_i LP n1 n2 LX n3 n4;cases hg;obtain ⟨h1,h2,rfl,rfl,h5,_⟩:=hq
  match args,ha with
  | [u,v],ha =>
   obtain ⟨b1,o1,e1,hb1,hr1⟩:=ha.1;obtain ⟨b2,o2,e2,hb2,hr2⟩:=ha.2.1;subst e1; subst e2;refine Bl h1 ⟨hb1,hr1⟩ (fun j hj => ⟨hb2,?_⟩) (Nat.le_refl _) h5 (by omega);rw [h2] at hr2;exact qH (f:=fun j => [At.q (x j)]) (c:=4) (fun _ => rfl) hj hr2
  | [],ha => exact ha.elim
  | [_],ha => exact ha.2.elim
  | _ :: _ :: _ :: _,ha => exact ha.2.2.elim
 ·cases hg
theorem Pk (LP LX : List At) (n1 n2 n3 n4 N : Nat) (pt : Nat → J2) (x : Nat → Nat) : aT prog (qG prog) (fun _ => ⟨fun _ => (iT).add 160 (aAC pt x N),fun _ => true,assoc [(7,.bool true)]⟩) f133 40 [.s LP n1 n2,.s LX n3 n4] = some ([aI .lss .i64 (Int.ofNat n1) 32 = some (.bool true),aB LP = aB (eB (fun j => bD (pt j)) 0 N),aB LX = aB (eB (fun j => [.q (x j)]) 0 N),n1 = N,n3 = N,N ≤ 65536],.one (.fl (bD (uC pt x N)))):=by kernel_rfl
def aAp (pt : Nat → J2) (x : Nat → Nat) (N : Nat) : gC
 | [.s LP n1 n2,.s LX n3 n4] => some ([aB LP = aB (eB (fun j => bD (pt j)) 0 N),aB LX = aB (eB (fun j => [.q (x j)]) 0 N),n1 = N,n3 = N,N < 32],.one (.fl (bD (uC pt x N))))
 | _ => none
theorem Sw {w : World} {pt : Nat → J2} {x : Nat → Nat} {N : Nat} : ∀ cs pre r,aAp pt x N cs = some (pre,r) → aQ pre → ∀ (args : List Value),bH w cs args → Good prog 133 r args w:=by
 intro cs pre r hg hq args ha;unfold aAp at hg;split at hg
 ·rename_i LP n1 n2 LX n3 n4;cases hg;obtain ⟨h1,h2,h3,h4,h5,_⟩:=hq;exact bY aF (fun _ _ => TabOkW.add (iC.w _ _) func160 (by kernel_rfl) (by kernel_rfl) fun w hw => Tb) ((aG prog).w _ _) func133 (Pk LP LX n1 n2 n3 n4 N pt x) ⟨by rw [h3]; exact kG (n:=32) h5,h1,h2,h3,h4,by omega,trivial⟩ ha
 ·cases hg
def aAH (ps : Nat → dC) (N : Nat) : List CA → Option (List Prop × FR)
 | [.v (.fl l),.s L n1 n2] => some ([aB l = aB gZ,aB L = aB (eB (fun j => cS (ps j)) 0 N),n1 = N,N ≤ 65536,iP ps N = 0],⟨eB (fun j => bD (yP ps j)) 0 N,N,N,[.im (.int .i64 0)]⟩)
 | _ => none
def aAI (ps : Nat → dC) (N : Nat) : gC
 | [.v (.fl l),.s L n1 n2] => some ([aB l = aB gZ,aB L = aB (eB (fun j => cS (ps j)) 0 N),n1 = N,N ≤ 65536,iP ps N ≠ 0],.many [.im (.slice none 0 0),.im (.int .i64 (iP ps N))])
 | _ => none
theorem WB {w : World} {ps : Nat → dC} {N n1 n2 : Nat} {l L : List At} (h1 : aB l = aB gZ) (h2 : aB L = aB (eB (fun j => cS (ps j)) 0 N)) {args : List Value} (ha : bH w [.v (.fl l),.s L n1 n2] args) : bH w [.v (.fl gZ),.s (eB (fun j => cS (ps j)) 0 N) n1 n2] args:=by
 match args,ha with
 | [u,v],ha =>
  obtain ⟨b,o,e,hb,hr⟩:=ha.2.1;refine ⟨?_,⟨b,o,e,hb,by rw [← h2]; exact hr⟩,trivial⟩;show u = .agg (aB gZ).toArray;rw [← h1]; exact ha.1
 | [],ha => exact ha.elim
 | [_],ha => exact ha.2.elim
 | _ :: _ :: _ :: _,ha => exact ha.2.2.elim
theorem Tc {ps : Nat → dC} {N : Nat} : ∀ cs pre r,aAH ps N cs = some (pre,r) → aQ pre → ∀ (args : List Value) (w : World),bH w cs args → Calls prog 132 args.toArray w (fun e w' => r.ok w e w'):=by
 intro cs pre r hg hq args w ha;unfold aAH at hg;split at hg
 ·cases hg;obtain ⟨h1,h2,rfl,h4,h5,_⟩:=hq;exact Mh (WB h1 h2 ha) h4 h5
 ·cases hg
theorem Td {ps : Nat → dC} {N : Nat} : ∀ cs pre r,aAI ps N cs = some (pre,r) → aQ pre → ∀ (args : List Value) (w : World),bH w cs args → Good prog 132 r args w:=by
 intro cs pre r hg hq args w ha;unfold aAI at hg;split at hg
 ·cases hg;obtain ⟨h1,h2,rfl,h4,h5,_⟩:=hq;exact Mj (WB h1 h2 ha) h4 h5
 ·cases hg
def aCl (ps : Nat → dC) (N : Nat) : Ext:={ Us (fun _ _ _ => False) with T2:=Fr0.add 132 (aAH ps N) }
theorem Np (ps : Nat → dC) (N : Nat) (w : World) : cL prog (qX prog (aCl ps N)) w.heap.size w:=uV ((mG _).ad func132 Tc) fun _ _ _ h => h.elim
theorem YG (LG LX : List At) (N n2 n n4 : Nat) (ps : Nat → dC) : aT prog (qG prog) (fun _ => ⟨fun _ => (iT).add 132 (aAI ps N),fun _ => true,assoc [(15,.bool false),(19,.bool false),(29,.bool true)]⟩) f94 60 [.v (.fl gZ),.s LG N n2,.s LX n n4] = some ([aI .neq .i64 (Int.ofNat N) (Int.ofNat n) = some (.bool false),aI .gtr .i64 (Int.ofNat N) 65536 = some (.bool false),aB gZ = aB gZ,aB LG = aB (eB (fun j => cS (ps j)) 0 N),N = N,N ≤ 65536,iP ps N ≠ 0,aI .neq .i64 (iP ps N) 0 = some (.bool true)],.many [.fl (xI (some (F2.zero,F2.zero))),.im (.int .i64 (iP ps N))]):=by kernel_rfl
theorem YF (LG LX : List At) (N n2 n n4 : Nat) (ps : Nat → dC) (x : Nat → Nat) : aT prog (qX prog (aCl ps N)) (fun _ => ⟨fun _ => (iT).add 133 (aAp (yP ps) x N),fun _ => true,assoc [(15,.bool false),(19,.bool false)]⟩) f94 60 [.v (.fl gZ),.s LG N n2,.s LX n n4] = some ([aI .neq .i64 (Int.ofNat N) (Int.ofNat n) = some (.bool false),aI .gtr .i64 (Int.ofNat N) 65536 = some (.bool false),aB gZ = aB gZ,aB LG = aB (eB (fun j => cS (ps j)) 0 N),N = N,N ≤ 65536,iP ps N = 0,aB (eB (fun j => bD (yP ps j)) 0 N) = aB (eB (fun j => bD (yP ps j)) 0 N),aB LX = aB (eB (fun j => [.q (x j)]) 0 N),N = N,n = N,N < 32],.many [.fl (xI (fZ F2 iW (uC (yP ps) x N))),.im (.int .i64 0)]):=by kernel_rfl
def gI (ps : Nat → dC) (x : Nat → Nat) (N : Nat) : Pt Q2 × Int:=if iP ps N ≠ 0 then (some (F2.zero,F2.zero),iP ps N) else (fZ F2 iW (uC (yP ps) x N),0)
theorem Al {w0 : World} {args : List Value} {LG LX : List At} {N n2 n4 : Nat} {ps : Nat → dC} {x : Nat → Nat} (h1 : aB LG = aB (eB (fun j => cS (ps j)) 0 N)) (h2 : aB LX = aB (eB (fun j => [.q (x j)]) 0 N)) (hN : N < 32) (ha : bH w0 [.v (.fl gZ),.s LG N n2,.s LX N n4] args) : Good prog 94 (.many [.fl (xI (gI ps x N).1),.im (.int .i64 (gI ps x N).2)]) args w0:=by
 have g1 : aI .neq .i64 (Int.ofNat N) (Int.ofNat N) = some (.bool false):=by rw [aDa,decide_eq_false (by simp)]
 have g2 : aI .gtr .i64 (Int.ofNat N) 65536 = some (.bool false):=by
  have:=Hg (i:=N) (n:=65536);rw [decide_eq_false (by omega)] at this;exact this
 unfold gI
 by_cases h : iP ps N = 0
 ·rw [if_neg (fun q => q h)];exact bY aF (fun _ _ => TabOkW.add (iC.w _ _) func133 (by kernel_rfl) (by kernel_rfl) fun w hw => Sw) (Np ps N w0) func94 (YF LG LX N n2 N n4 ps x) ⟨g1,g2,rfl,h1,rfl,by omega,h,rfl,h2,rfl,rfl,hN,trivial⟩ ha
 ·rw [if_pos h];exact bY aF (fun _ _ => (iC.ad func132 Td).w _ _) ((aG prog).w _ _) func94 (YG LG LX N n2 N n4 ps) ⟨g1,g2,rfl,h1,rfl,by omega,h,JO h,trivial⟩ ha
def p2 {A : Type} (p q : A) : Nat → A | 0 => p | _ + 1 => q
def p3 {A : Type} (p q r : A) : Nat → A | 0 => p | 1 => q | _ + 2 => r
def aAr (ps : Nat → dC) (x : Nat → Nat) (N : Nat) : gC
 | [.v (.fl l),.s L n1 n2,.s X n3 n4] => some ([aB l = aB gZ,aB L = aB (eB (fun j => cS (ps j)) 0 N),aB X = aB (eB (fun j => [.q (x j)]) 0 N),n1 = N,n3 = N,N < 32],.many [.fl (xI (gI ps x N).1),.im (.int .i64 (gI ps x N).2)])
 | _ => none
theorem Sx {ps : Nat → dC} {x : Nat → Nat} {N : Nat} : ∀ cs pre r,aAr ps x N cs = some (pre,r) → aQ pre → ∀ (args : List Value) (w : World),bH w cs args → Good prog 94 r args w:=by
 intro cs pre r hg hq args w ha;unfold aAr at hg;split at hg
 ·rename_i l L n1 n2 X n3 n4;cases hg;obtain ⟨h1,h2,h3,rfl,rfl,h6,_⟩:=hq;refine Al (LG:=L) (LX:=X) (n2:=n2) (n4:=n4) h2 h3 h6 ?_
  match args,ha with
  | [u,v,t],ha =>
   refine ⟨?_,ha.2.1,ha.2.2.1,trivial⟩;show u = .agg (aB gZ).toArray;rw [← h1]; exact ha.1
  | [],ha => exact ha.elim
  | [_],ha => exact ha.2.elim
  | [_,_],ha => exact ha.2.2.elim
  | _ :: _ :: _ :: _ :: _,ha => exact ha.2.2.2.elim
 ·cases hg
theorem ZD (p : dC) (n : Nat) : aT prog (qG prog) (fun _ => ⟨fun s => (RO true).add 94 (aAr (fun _ => p) (fun _ => n) 1),fun s => true,fun _ => none⟩) f56 60 [.v (.fl (cS p)),.v (.fl [.q n])] = some ([aB gZ = aB gZ,aB (cS p) = aB (eB (fun j => cS p) 0 1),aB [.q n] = aB (eB (fun j => [At.q n]) 0 1),1 = 1,1 = 1,1 < 32],.many [.fl (xI (gI (fun _ => p) (fun _ => n) 1).1),.im (.int .i64 (gI (fun _ => p) (fun _ => n) 1).2)]):=by kernel_rfl
def WK : Tab:=((RO true)).add 56 (g2 OS uL fun p n => ([],.many [.fl (xI (gI (fun _ => p) (fun _ => n) 1).1),.im (.int .i64 (gI (fun _ => p) (fun _ => n) 1).2)]))
theorem Hb : TabOk prog WK:=((TR true)).ad func56 (gO fF dG fun p n hp args w ha => aC aF (fun _ s => (TR true).ad func94 Sx) (aG prog) func56 (ZD p n) ⟨rfl,rfl,rfl,rfl,rfl,by omega,trivial⟩ ha)
def aAq : gC
 | [.v (.im (.int .i64 (.ofNat 1)))] => some ([],.one (.fl (q1 FP.M)))
 | [.v (.im (.int .i64 (.ofNat 2)))] => some ([],.one (.fl (q1 Go.Proofs.YtfnkbmlmgnadmaaGreat.FR.M)))
 | _ => none
theorem Pu : ∀ cs pre r,aAq cs = some (pre,r) → aQ pre → ∀ (args : List Value) (w : World),bH w cs args → Good prog 99 r args w:=by
 intro cs pre r hg hp args w ha;unfold aAq at hg;split at hg
 ·cases hg
  match args,ha with
  | [v],ha =>
   have h1 : v = .int .i64 1:=ha.1;subst h1;exact (fJ 1 FP (Or.inl ⟨rfl,rfl⟩) w).mono fun e w' h => h
  | [],ha => exact ha.elim
  | _ :: _ :: _,ha => exact ha.2.elim
 ·cases hg
  match args,ha with
  | [v],ha =>
   have h1 : v = .int .i64 2:=ha.1;subst h1;exact (fJ 2 Go.Proofs.YtfnkbmlmgnadmaaGreat.FR (Or.inr ⟨rfl,rfl⟩) w).mono fun e w' h => h
  | [],ha => exact ha.elim
  | _ :: _ :: _,ha => exact ha.2.elim
 ·cases hg
def QU (n : Nat) : Bool:=oY (wv n) FP.M
def aAE : gC
 | [.v (.im (.int .i64 (.ofNat 1))),.v (.fl l)] => match uL l with
  | some n => some ([],.one (.im (.bool (QU n))))
  | none => none
 | _ => none
theorem Ma : ∀ cs pre r,aAE cs = some (pre,r) → aQ pre → ∀ (args : List Value) (w : World),bH w cs args → Good prog 70 r args w:=by
 intro cs pre r hg hp args w ha;unfold aAE at hg;split at hg
 ·rename_i l;split at hg
  ·rename_i n hn;cases hg
   match args,ha with
   | [v,u],ha =>
    have h1 : v = .int .i64 1:=ha.1;have h2 : u = .agg (aB l).toArray:=ha.2.1;rw [dG l _ hn] at h2;subst h1; subst h2;exact BH 1 FP (Or.inl ⟨rfl,rfl⟩) _ _ _ _ (bJ n) w
   | [],ha => exact ha.elim
   | [_],ha => exact ha.2.elim
   | _ :: _ :: _ :: _,ha => exact ha.2.2.elim
  ·cases hg
 ·cases hg
def gRN : gC
 | [.v (.im (.int .i64 (.ofNat 1))),.v (.fl l)] => match SR l with
  | some x => some ([],.one (.fl (e1 (F1.neg x))))
  | none => none
 | _ => none
theorem aAl : ∀ cs pre r,gRN cs = some (pre,r) → aQ pre → ∀ (args : List Value) (w : World),bH w cs args → Good prog 112 r args w:=by
 intro cs pre r hg hp args w ha;unfold gRN at hg;split at hg
 ·rename_i l;split at hg
  ·rename_i x hx;obtain ⟨a,e1,rfl⟩:=gV l x hx;cases hg
   match args,ha with
   | [v,u],ha =>
    have h1 : v = .int .i64 1:=ha.1;have h2 : u = .agg (aB l).toArray:=ha.2.1;rw [e1] at h2;subst h1; subst h2;refine (uQ 1 FP (Or.inl ⟨rfl,rfl⟩) _ _ _ _ (bJ a) w).mono fun e w' h => ?_
    exact FwPost.of (Nat.mod_lt _ cV) h
   | [],ha => exact ha.elim
   | [_],ha => exact ha.2.elim
   | _ :: _ :: _ :: _,ha => exact ha.2.2.elim
  ·cases hg
 ·cases hg
def WL : Tab:=(WK).add 99 aAq
theorem Hd : TabOk prog WL:=(Hb).ad func99 Pu
def WM : Tab:=(WL).add 70 aAE
theorem He : TabOk prog WM:=(Hd).ad func70 Ma
def tR : Tab:=(WM).add 112 gRN
theorem vH : TabOk prog tR:=(He).ad func112 aAl
section
variable {R : Type} (K : CR R)
def rdS (p : Jc R) : R:=K.add (K.add (K.mul p.1 (K.mul p.2.1 p.2.1)) (K.mul p.1 (K.mul p.2.1 p.2.1))) (K.add (K.mul p.1 (K.mul p.2.1 p.2.1)) (K.mul p.1 (K.mul p.2.1 p.2.1)))
def rdM (p : Jc R) : R:=K.add (K.mul p.1 p.1) (K.add (K.mul p.1 p.1) (K.mul p.1 p.1))
def rdX (p : Jc R) : R:=K.sub (K.mul (rdM K p) (rdM K p)) (K.add (rdS K p) (rdS K p))
def rdF (p : Jc R) : R:=K.mul (K.mul p.2.1 p.2.1) (K.mul p.2.1 p.2.1)
def aCH (p : Jc R) : R:=K.add (rdF K p) (rdF K p)
def aCG (p : Jc R) : R:=K.add (aCH K p) (aCH K p)
def aCF (p : Jc R) : R:=K.add (aCG K p) (aCG K p)
def Yd (p : Jc R) : Jc R:=(rdX K p,K.sub (K.mul (rdM K p) (K.sub (rdS K p) (rdX K p))) (aCF K p),K.mul (K.add p.2.1 p.2.1) p.2.2)
theorem Yg (p : Jc R) : rdM K p = dSl K p:=(K.add_assoc _ _ _).symm
theorem Yf (p : Jc R) : rdS K p = dBa K p :=
 aL K (cD K [p.1,p.2.1]) (.add (.add (.mul (.v 0) (.mul (.v 1) (.v 1))) (.mul (.v 0) (.mul (.v 1) (.v 1)))) (.add (.mul (.v 0) (.mul (.v 1) (.v 1))) (.mul (.v 0) (.mul (.v 1) (.v 1))))) (.mul (.v 0) (.add (.add (.mul (.v 1) (.v 1)) (.mul (.v 1) (.v 1))) (.add (.mul (.v 1) (.v 1)) (.mul (.v 1) (.v 1))))) (by decide)
theorem Yh (p : Jc R) : aCF K p = K.mul (dFo K p) (dTw K p) :=
 aL K (cD K [p.2.1]) (.add (.add (.add (.mul (.mul (.v 0) (.v 0)) (.mul (.v 0) (.v 0))) (.mul (.mul (.v 0) (.v 0)) (.mul (.v 0) (.v 0)))) (.add (.mul (.mul (.v 0) (.v 0)) (.mul (.v 0) (.v 0))) (.mul (.mul (.v 0) (.v 0)) (.mul (.v 0) (.v 0))))) (.add (.add (.mul (.mul (.v 0) (.v 0)) (.mul (.v 0) (.v 0))) (.mul (.mul (.v 0) (.v 0)) (.mul (.v 0) (.v 0)))) (.add (.mul (.mul (.v 0) (.v 0)) (.mul (.v 0) (.v 0))) (.mul (.mul (.v 0) (.v 0)) (.mul (.v 0) (.v 0)))))) (.mul (.add (.add (.mul (.v 0) (.v 0)) (.mul (.v 0) (.v 0))) (.add (.mul (.v 0) (.v 0)) (.mul (.v 0) (.v 0)))) (.add (.mul (.v 0) (.v 0)) (.mul (.v 0) (.v 0)))) (by decide)
theorem Qc (p : Jc R) : Yd K p = dI K p:=by
 unfold Yd dI dX dY rdX;rw [Yg,Yf,Yh];rfl
end
theorem XG (x y : N2) : aT prog (qG prog) (fun _ => ⟨fun s => tR,fun s => true,fun _ => none⟩) f58 60 [.v (.fl (cS (x,y,true)))] = some ([],.one (.fl (bD (F2.one,F2.one,F2.zero)))):=by kernel_rfl
theorem XH (x y : N2) : aT prog (qG prog) (fun _ => ⟨fun s => tR,fun s => true,fun _ => none⟩) f58 60 [.v (.fl (cS (x,y,false)))] = some ([],.one (.fl (q2 x ++ (q2 y ++ e2 F2.one)))):=by kernel_rfl
def Ns (p : dC) : J2:=bif p.2.2 then (F2.one,F2.one,F2.zero) else (m2 p.1,m2 p.2.1,F2.one)
theorem Wo (p : dC) (hp : p.2.2 = false → jI p.1 ∧ jI p.2.1) (args : List Value) (w : World) (ha : bH w [.v (.fl (cS p))] args) : Good prog 58 (.one (.fl (bD (Ns p)))) args w:=by
 obtain ⟨x,y,b⟩:=p;cases b with
 | true => exact aC aF (fun _ s => vH) (aG prog) func58 (XG x y) trivial ha
 | false =>
  obtain ⟨hx,hy⟩:=hp rfl;refine Good.congr (r:=.one (.fl (q2 x ++ (q2 y ++ e2 F2.one)))) (aC aF (fun _ s => vH) (aG prog) func58 (XH x y) trivial ha) ?_;have e : aB (q2 x ++ (q2 y ++ e2 F2.one)) = aB (bD (m2 x,m2 y,F2.one)):=by
   rw [aN,aN,VX hx,VX hy];rfl
  show Value.agg (aB _).toArray = .agg (aB _).toArray;rw [e];rfl
def Mo : Tab:=(tR).add 58 (g1 OS fun p => ([p.2.2 = false → jI p.1 ∧ jI p.2.1],.one (.fl (bD (Ns p)))))
theorem Gq : TabOk prog Mo:=(vH).ad func58 (cG fF fun p hp args w ha => Wo p hp.1 args w ha)
theorem Dv (p : J2) : aT prog (qG prog) (fun _ => ⟨fun s => Mo,fun s => true,fun _ => none⟩) f96 80 [.v (.fl (bD p))] = some ([],.one (.fl (bD (Yd F2 p)))):=by kernel_rfl
def oA : Tab:=(Mo).add 96 (g1 IC fun p => ([],.one (.fl (bD (dI F2 p)))))
theorem mK : TabOk prog oA:=(Gq).ad func96 (cG fE fun p hp args w ha => by rw [← Qc]; exact aC aF (fun _ s => Gq) (aG prog) func96 (Dv p) trivial ha)
theorem NH (p q : J2) : aT prog (qG prog) (fun _ => ⟨fun s => oA,fun s => true,fun _ => none⟩) f98 100 [.v (.fl (bD p)),.v (.fl (bD q))] = some ([aB (e2 (p.2.2)) = aB (e2 F2.zero)],.one (.fl (bD q))):=by kernel_rfl
theorem NG (p q : J2) : aT prog (qG prog) (fun _ => ⟨fun s => oA,fun s => !(Nat.beq s 20),fun _ => none⟩) f98 100 [.v (.fl (bD p)),.v (.fl (bD q))] = some ([aB (e2 (p.2.2)) ≠ aB (e2 F2.zero),aB (e2 (q.2.2)) = aB (e2 F2.zero)],.one (.fl (bD p))):=by kernel_rfl
theorem NF (p q : J2) : aT prog (qG prog) (fun _ => ⟨fun s => oA,fun s => !(Nat.beq s 20 || Nat.beq s 25),fun _ => none⟩) f98 100 [.v (.fl (bD p)),.v (.fl (bD q))] = some ([aB (e2 (p.2.2)) ≠ aB (e2 F2.zero),aB (e2 (q.2.2)) ≠ aB (e2 F2.zero),aB (e2 (oC F2 p q)) = aB (e2 F2.zero),aB (e2 (CD F2 p q)) = aB (e2 F2.zero)],.one (.fl (bD (dI F2 p)))):=by kernel_rfl
theorem NE (p q : J2) : aT prog (qG prog) (fun _ => ⟨fun s => oA,fun s => !(Nat.beq s 20 || Nat.beq s 25 || Nat.beq s 71),fun _ => none⟩) f98 100 [.v (.fl (bD p)),.v (.fl (bD q))] = some ([aB (e2 (p.2.2)) ≠ aB (e2 F2.zero),aB (e2 (q.2.2)) ≠ aB (e2 F2.zero),aB (e2 (oC F2 p q)) = aB (e2 F2.zero),aB (e2 (CD F2 p q)) ≠ aB (e2 F2.zero),aB (e2 (oC F2 p q)) = aB (e2 F2.zero)],.one (.fl (bD (F2.one,F2.one,F2.zero)))):=by kernel_rfl
theorem ND (p q : J2) : aT prog (qG prog) (fun _ => ⟨fun s => oA,fun s => false,fun _ => none⟩) f98 100 [.v (.fl (bD p)),.v (.fl (bD q))] = some ([aB (e2 (p.2.2)) ≠ aB (e2 F2.zero),aB (e2 (q.2.2)) ≠ aB (e2 F2.zero),aB (e2 (oC F2 p q)) ≠ aB (e2 F2.zero),aB (e2 (oC F2 p q)) ≠ aB (e2 F2.zero)],.one (.fl (bD (yB F2 p q)))):=by kernel_rfl
theorem Pq (p q : J2) (args : List Value) (w : World) (ha : bH w [.v (.fl (bD p)),.v (.fl (bD q))] args) : Good prog 98 (.one (.fl (bD (rplus F2 p q)))) args w:=by
 unfold rplus
 by_cases h1 : p.2.2 = F2.zero
 ·rw [if_pos h1];exact aC aF (fun _ s => mK) (aG prog) func98 (NH p q) ⟨by rw [h1],trivial⟩ ha
 ·rw [if_neg h1]
  by_cases h2 : q.2.2 = F2.zero
  ·rw [if_pos h2];exact aC aF (fun _ s => mK) (aG prog) func98 (NG p q) ⟨cC h1,by rw [h2],trivial⟩ ha
  ·rw [if_neg h2]
   by_cases h3 : oC F2 p q = F2.zero
   ·by_cases h4 : CD F2 p q = F2.zero
    ·rw [if_pos ⟨h3,h4⟩];exact aC aF (fun _ s => mK) (aG prog) func98 (NF p q) ⟨cC h1,cC h2,by rw [h3],by rw [h4],trivial⟩ ha
    ·rw [if_neg (fun h => h4 h.2),if_pos h3];exact aC aF (fun _ s => mK) (aG prog) func98 (NE p q) ⟨cC h1,cC h2,by rw [h3],cC h4,by rw [h3],trivial⟩ ha
   ·rw [if_neg (fun h => h3 h.1),if_neg h3];exact aC aF (fun _ s => mK) (aG prog) func98 (ND p q) ⟨cC h1,cC h2,cC h3,cC h3,trivial⟩ ha
def Mr : Tab:=(oA).add 98 (g2 IC IC fun p q => ([],.one (.fl (bD (rplus F2 p q)))))
theorem Rj : TabOk prog Mr:=(mK).ad func98 (gO fE fE fun p q hp args w ha => Pq p q args w ha)
end Go.Proofs.YtfnkbmlmgnadmaaGreat.Ex
namespace Go.Proofs.YtfnkbmlmgnadmaaGreat.R1
open Go.Proofs.Tryz
open Go.RowKit
theorem len_down {A m : Nat} (h : A < 2 ^ (m + 1)) (hb : dF A m = 0) : A < 2 ^ m:=by
 unfold dF at hb;have h1 : A / 2 ^ m < 2:=by rw [Nat.div_lt_iff_lt_mul (Nat.pow_pos (by omega)),Nat.mul_comm,← Nat.pow_succ]; exact h
 have h2 : A / 2 ^ m = 0:=by generalize A / 2 ^ m = q at h1 hb; omega
 have h3:=Nat.div_add_mod A (2 ^ m);have h4:=Nat.mod_lt A (show 0 < 2 ^ m from Nat.pow_pos (by omega));rw [h2] at h3; omega
theorem len_is {A m : Nat} (h : A < 2 ^ (m + 1)) (hb : dF A m = 1) : LenIs A (m + 1):=by
 refine ⟨h,fun _ => ?_⟩;unfold dF at hb;have h1 : 1 ≤ A / 2 ^ m:=by
  rcases Nat.eq_zero_or_pos (A / 2 ^ m) with e | e
  ·rw [e] at hb; omega
  ·exact e
 exact (Nat.one_le_div_iff (Nat.pow_pos (by omega))).1 h1
def LenP (A : Nat) (w : World) (e : Ending) (w' : World) : Prop :=
 ∃ L : Nat,e = .returned (.int .i64 L) ∧ L ≤ 256 ∧ LenIs A L ∧ Below w.heap.size w w'
theorem refLen_calls (a0 a1 a2 a3 : Nat) (ha : aY a0 a1 a2 a3) (w : World) :
  Calls prog 95 #[.agg #[.int .u64 a0,.int .u64 a1,.int .u64 a2,.int .u64 a3]] w (LenP (aA a0 a1 a2 a3) w):=by
 have h256 : aA a0 a1 a2 a3 < 2 ^ 256:=by have:=aZ ha; simpa using this
 have HB:=Lib.hid (fun i h (w : World) => yK a0 a1 a2 a3 i ha h w);generalize hA : aA a0 a1 a2 a3 = A at *;have H256:=Lib.hid h256;clear h256 hA
 go_enter func95,ntmps95
 go_wp2_with fail
 go_loopw [3] (fun i wr => ∃ n : Int,-1 ≤ n ∧ n ≤ 255 ∧ i = .int .i64 n ∧ Hid (A < 2 ^ (n + 1).toNat) ∧ Mem w wr [(w.heap.size,a0,a1,a2,a3)]) (fun i _ => (intOf i + 1).toNat)
 case atStart => exact ⟨255,by omega,by omega,rfl,H256,(Mem.nil w).new w.heap.size a0 a1 a2 a3 81 rfl⟩
 case round =>
  obtain ⟨n,h1,h2,rfl,hA,m⟩:=hrel;have M:=Lib.hid m;obtain ⟨lt_a,c0,c1,c2,c3,cf⟩:=m.get (b:=w.heap.size) (c0:=a0) (c1:=a1) (c2:=a2) (c3:=a3) (by simp);clear m
  by_cases h0 : 0 ≤ n
  ·obtain ⟨i,rfl⟩:=Int.eq_ofNat_of_zero_le h0;have hA':=Lib.hid (show A < 2 ^ (i + 1) from hA.out);clear hA
   rcases iS A i with hb | hb
   ·have hB:=HB.out i (by omega);rw [hb] at hB;have HN:=Lib.hid (len_down hA'.out hb);clear hb hA';go_wp2_with fail;refine (hB _).mono ?_
    rintro e w1 ⟨rfl,hbl⟩
    have M':=M.out.on hbl;clear hbl;go_wp2_with fail
    go_roundw
    case rel => exact ⟨(i : Int) - 1,by omega,by omega,by first | rfl | go_num,Lib.hid (by rw [show ((i : Int) - 1 + 1).toNat = i by omega]; exact HN.out),M'⟩
    case measure => first | (simp [intOf]; done) | (simp [intOf]; omega)
   ·have hB:=HB.out i (by omega);rw [hb] at hB;have HN:=Lib.hid (len_is hA'.out hb);clear hb hA';go_wp2_with fail;refine (hB _).mono ?_
    rintro e w1 ⟨rfl,hbl⟩
    have M':=M.out.on hbl;clear hbl;go_wp2_with fail;go_ret;exact ⟨i + 1,rfl,by omega,HN.out,M'.1⟩
  ·obtain rfl : n = -1:=by omega
   go_wp2_with fail;go_ret;exact ⟨0,rfl,by omega,⟨hA.out,fun h => absurd h (by omega)⟩,M.out.1⟩
end Go.Proofs.YtfnkbmlmgnadmaaGreat.R1
namespace Go.Proofs.YtfnkbmlmgnadmaaGreat.Ex
open Go.Proofs.Tryz
open Go.RowKit
theorem Pw : ∀ cs pre r,Ax cs = some (pre,r) → aQ pre → ∀ (args : List Value) (w : World),bH w cs args → Good prog 95 r args w:=by
 intro cs pre r hg hp args w ha;unfold Ax at hg;split at hg
 ·rename_i l;split at hg
  ·rename_i n hn;cases hg;rw [jF ha,dG l _ hn];refine (R1.refLen_calls _ _ _ _ (bJ n) w).mono ?_
   rintro e w' ⟨L,rfl,_,h,hbl⟩
   cases h.uniq (oX n);exact ⟨rfl,hbl⟩
  ·cases hg
 ·cases hg
theorem Qe : ∀ cs pre r,aAD cs = some (pre,r) → aQ pre → ∀ (args : List Value) (w : World),bH w cs args → Good prog 97 r args w:=by
 intro cs pre r hg hp args w ha;unfold aAD at hg;split at hg
 ·rename_i l i;split at hg
  ·rename_i n hn;cases hg
   match args,ha with
   | [v,u],ha =>
    have h1 : v = .agg (aB l).toArray:=ha.1;have h2 : u = .int .i64 (Int.ofNat i):=ha.2.1;rw [dG l _ hn] at h1;subst h1; subst h2;exact yK _ _ _ _ i (bJ n) hp.1 w
   | [],ha => exact ha.elim
   | [_],ha => exact ha.2.elim
   | _ :: _ :: _ :: _,ha => exact ha.2.2.elim
  ·cases hg
 ·cases hg
def KE (c : Bool) : gC
 | [.v (.im (.int .i64 (.ofNat 1))),.v (.fl l)] => match uL l with
  | some n => some ([QU n = c],.one (.im (.bool c)))
  | none => none
 | _ => none
theorem DC (c : Bool) : ∀ cs pre r,KE c cs = some (pre,r) → aQ pre → ∀ (args : List Value) (w : World),bH w cs args → Good prog 70 r args w:=by
 intro cs pre r hg hp args w ha;unfold KE at hg;split at hg
 ·rename_i l;split at hg
  ·rename_i n hn;cases hg;have h:=Ma [.v (.im (.int .i64 (.ofNat 1))),.v (.fl l)] [] (.one (.im (.bool (QU n)))) (by show (match uL l with | some n => some ([],RV.one (.im (.bool (QU n)))) | none => none) = _; rw [hn]) trivial args w ha;rw [hp.1] at h;exact h
  ·cases hg
 ·cases hg
theorem Wa {n : Nat} : QU n = true ↔ wv n < FP.M:=by unfold QU oY; exact decide_eq_true_iff
def fO (x : N2) : Bool:=QU x.1 && QU x.2
def WI : Tab:=(Mr).add 95 Ax
theorem Gv : TabOk prog WI:=(Rj).ad func95 Pw
def pP : Tab:=(WI).add 97 aAD
theorem oT : TabOk prog pP:=(Gv).ad func97 Qe
theorem OH (x : N2) : aT prog (qG prog) (fun _ => ⟨fun s => (pP).add 70 (KE (bif Nat.beq s 5 then true else true)),fun s => true,fun _ => none⟩) f57 60 [.v (.fl (q2 x))] = some ([QU x.1 = true,QU x.2 = true],.one (.im (.bool true))):=by kernel_rfl
theorem OI (x : N2) : aT prog (qG prog) (fun _ => ⟨fun s => (pP).add 70 (KE (bif Nat.beq s 5 then true else false)),fun s => true,fun _ => none⟩) f57 60 [.v (.fl (q2 x))] = some ([QU x.1 = true,QU x.2 = false],.one (.im (.bool false))):=by kernel_rfl
theorem ZE (x : N2) : aT prog (qG prog) (fun _ => ⟨fun s => (pP).add 70 (KE (bif Nat.beq s 5 then false else true)),fun s => true,fun _ => none⟩) f57 60 [.v (.fl (q2 x))] = some ([QU x.1 = false],.one (.im (.bool false))):=by kernel_rfl
theorem Lx (c : Bool) (x : N2) (hp : fO x = c) (args : List Value) (w : World) (ha : bH w [.v (.fl (q2 x))] args) : Good prog 57 (.one (.im (.bool c))) args w:=by
 unfold fO at hp;cases h1 : QU x.1 with
 | false =>
  rw [h1] at hp;subst hp;exact aC aF (fun _ s => (oT).ad func70 (DC _)) (aG prog) func57 (ZE x) ⟨h1,trivial⟩ ha
 | true =>
  cases h2 : QU x.2 with
  | false =>
   rw [h1,h2] at hp;subst hp;exact aC aF (fun _ s => (oT).ad func70 (DC _)) (aG prog) func57 (OI x) ⟨h1,h2,trivial⟩ ha
  | true =>
   rw [h1,h2] at hp;subst hp;exact aC aF (fun _ s => (oT).ad func70 (DC _)) (aG prog) func57 (OH x) ⟨h1,h2,trivial⟩ ha
def Nd : Tab:=(pP).add 57 (g1 OQ fun x => ([fO x = true],.one (.im (.bool true))))
theorem Hc : TabOk prog Nd:=(oT).ad func57 (cG fV fun x hp args w ha => Lx true x hp.1 args w ha)
theorem Pi  : aT prog (qG prog) (fun _ => ⟨fun s => Nd,fun s => true,fun _ => none⟩) f41 60 [] = some ([],.one (.fl (e2 oD))):=by kernel_rfl
def eV : Tab:=(Nd).add 41 (g0 (.one (.fl (e2 oD))))
theorem dQ : TabOk prog eV:=(Hc).ad func41 (zJ fun w => aC aF (fun _ s => Hc) (aG prog) func41 Pi trivial (args:=[]) trivial)
def vI (L k : Nat) : Value:=if k < L then iI (L - 1 - k) else .int .i64 (-1)
theorem aEA {L : Nat} (h : L ≤ 256) : aI .sub .i64 (Int.ofNat L) 1 = some (vI L 0):=by
 unfold vI;cases L with
 | zero => rfl
 | succ n =>
  rw [if_pos (by omega)];exact vK (k:=1) (i:=n + 1) (by omega) (by omega)
theorem aCn {L k : Nat} (h : L ≤ 256) (hk : k < L) : aI .sub .i64 (Int.ofNat (L - 1 - k)) 1 = some (vI L (k + 1)):=by
 unfold vI
 by_cases e : k + 1 < L
 ·rw [if_pos e,← Nat.sub_sub (L - 1) k 1];exact vK (k:=1) (by omega) (by omega)
 ·rw [if_neg e,show L - 1 - k = 0 by omega];rfl
theorem Hh (n : Nat) : aI .geq .i64 (Int.ofNat n) 0 = some (.bool true):=by
 show some (Value.bool (decide ((0 : Int) ≤ Int.ofNat n))) = _;rw [decide_eq_true (show (0 : Int) ≤ Int.ofNat n from Int.natCast_nonneg n)]
theorem Vu {c : Int} (h : c = 0) : aI .eql .i64 c 0 = some (.bool true):=by rw [h]; rfl
theorem aDz {c : Int} (h : c ≠ 0) : aI .eql .i64 c 0 = some (.bool false):=by
 show some (Value.bool (c == 0)) = _;rw [beq_eq_false_iff_ne.2 h]
def rH (c : Bool) : gC:=g1 OQ fun x => ([fO x = c],.one (.im (.bool c)))
theorem fA (c : Bool) : ∀ cs pre r,rH c cs = some (pre,r) → aQ pre → ∀ (args : List Value) (w : World),bH w cs args → Good prog 57 r args w:=cG (op:=fun x => ([fO x = c],.one (.im (.bool c)))) fV fun x hp args w ha => Lx c x hp.1 args w ha
theorem NK (x y : N2) : aT prog (qG prog) (fun _ => ⟨fun s => eV,fun s => false,fun _ => none⟩) f30 60 [.v (.fl (cS (x,y,true)))] = some ([aB (q2 x) ≠ aB (e2 F2.zero)],.one (.im (.int .i64 44))):=by kernel_rfl
theorem NJ (x y : N2) : aT prog (qG prog) (fun _ => ⟨fun s => eV,fun s => Nat.beq s 7,fun _ => none⟩) f30 60 [.v (.fl (cS (x,y,true)))] = some ([aB (q2 x) = aB (e2 F2.zero),aB (q2 y) ≠ aB (e2 F2.zero)],.one (.im (.int .i64 44))):=by kernel_rfl
theorem NI (x y : N2) : aT prog (qG prog) (fun _ => ⟨fun s => eV,fun s => true,fun _ => none⟩) f30 60 [.v (.fl (cS (x,y,true)))] = some ([aB (q2 x) = aB (e2 F2.zero),aB (q2 y) = aB (e2 F2.zero)],.one (.im (.int .i64 0))):=by kernel_rfl
theorem GA (x y : N2) : aT prog (qG prog) (fun _ => ⟨fun s => (eV).add 57 (rH (bif Nat.beq s 27 then false else true)),fun s => false,fun _ => none⟩) f30 60 [.v (.fl (cS (x,y,false)))] = some ([aB (q2 x) ≠ aB (e2 F2.zero),fO x = false],.one (.im (.int .i64 21))):=by kernel_rfl
theorem FX (x y : N2) : aT prog (qG prog) (fun _ => ⟨fun s => (eV).add 57 (rH (bif Nat.beq s 27 then true else false)),fun s => false,fun _ => none⟩) f30 60 [.v (.fl (cS (x,y,false)))] = some ([aB (q2 x) ≠ aB (e2 F2.zero),fO x = true,fO y = false],.one (.im (.int .i64 21))):=by kernel_rfl
theorem FU (x y : N2) : aT prog (qG prog) (fun _ => ⟨fun s => (eV).add 57 (rH (bif Nat.beq s 27 then true else true)),fun s => false,fun _ => none⟩) f30 80 [.v (.fl (cS (x,y,false)))] = some ([aB (q2 x) ≠ aB (e2 F2.zero),fO x = true,fO y = true,aB (e2 (F2.mul (m2 y) (m2 y))) ≠ aB (e2 (F2.add (F2.mul (m2 x) (F2.mul (m2 x) (m2 x))) oD))],.one (.im (.int .i64 41))):=by kernel_rfl
theorem FO (x y : N2) : aT prog (qG prog) (fun _ => ⟨fun s => (eV).add 57 (rH (bif Nat.beq s 27 then true else true)),fun s => false || Nat.beq s 51,fun _ => none⟩) f30 80 [.v (.fl (cS (x,y,false)))] = some ([aB (q2 x) ≠ aB (e2 F2.zero),fO x = true,fO y = true,aB (e2 (F2.mul (m2 y) (m2 y))) = aB (e2 (F2.add (F2.mul (m2 x) (F2.mul (m2 x) (m2 x))) oD))],.one (.im (.int .i64 0))):=by kernel_rfl
theorem FZ (x y : N2) : aT prog (qG prog) (fun _ => ⟨fun s => (eV).add 57 (rH (bif Nat.beq s 27 then false else true)),fun s => Nat.beq s 7,fun _ => none⟩) f30 60 [.v (.fl (cS (x,y,false)))] = some ([aB (q2 x) = aB (e2 F2.zero),aB (q2 y) ≠ aB (e2 F2.zero),fO x = false],.one (.im (.int .i64 21))):=by kernel_rfl
theorem FW (x y : N2) : aT prog (qG prog) (fun _ => ⟨fun s => (eV).add 57 (rH (bif Nat.beq s 27 then true else false)),fun s => Nat.beq s 7,fun _ => none⟩) f30 60 [.v (.fl (cS (x,y,false)))] = some ([aB (q2 x) = aB (e2 F2.zero),aB (q2 y) ≠ aB (e2 F2.zero),fO x = true,fO y = false],.one (.im (.int .i64 21))):=by kernel_rfl
theorem FT (x y : N2) : aT prog (qG prog) (fun _ => ⟨fun s => (eV).add 57 (rH (bif Nat.beq s 27 then true else true)),fun s => Nat.beq s 7,fun _ => none⟩) f30 80 [.v (.fl (cS (x,y,false)))] = some ([aB (q2 x) = aB (e2 F2.zero),aB (q2 y) ≠ aB (e2 F2.zero),fO x = true,fO y = true,aB (e2 (F2.mul (m2 y) (m2 y))) ≠ aB (e2 (F2.add (F2.mul (m2 x) (F2.mul (m2 x) (m2 x))) oD))],.one (.im (.int .i64 41))):=by kernel_rfl
theorem FN (x y : N2) : aT prog (qG prog) (fun _ => ⟨fun s => (eV).add 57 (rH (bif Nat.beq s 27 then true else true)),fun s => Nat.beq s 7 || Nat.beq s 51,fun _ => none⟩) f30 80 [.v (.fl (cS (x,y,false)))] = some ([aB (q2 x) = aB (e2 F2.zero),aB (q2 y) ≠ aB (e2 F2.zero),fO x = true,fO y = true,aB (e2 (F2.mul (m2 y) (m2 y))) = aB (e2 (F2.add (F2.mul (m2 x) (F2.mul (m2 x) (m2 x))) oD))],.one (.im (.int .i64 0))):=by kernel_rfl
theorem FY (x y : N2) : aT prog (qG prog) (fun _ => ⟨fun s => (eV).add 57 (rH (bif Nat.beq s 27 then false else true)),fun s => Nat.beq s 7 || Nat.beq s 12,fun _ => none⟩) f30 60 [.v (.fl (cS (x,y,false)))] = some ([aB (q2 x) = aB (e2 F2.zero),aB (q2 y) = aB (e2 F2.zero),fO x = false],.one (.im (.int .i64 21))):=by kernel_rfl
theorem FV (x y : N2) : aT prog (qG prog) (fun _ => ⟨fun s => (eV).add 57 (rH (bif Nat.beq s 27 then true else false)),fun s => Nat.beq s 7 || Nat.beq s 12,fun _ => none⟩) f30 60 [.v (.fl (cS (x,y,false)))] = some ([aB (q2 x) = aB (e2 F2.zero),aB (q2 y) = aB (e2 F2.zero),fO x = true,fO y = false],.one (.im (.int .i64 21))):=by kernel_rfl
theorem FQ (x y : N2) : aT prog (qG prog) (fun _ => ⟨fun s => (eV).add 57 (rH (bif Nat.beq s 27 then true else true)),fun s => Nat.beq s 7 || Nat.beq s 12,fun _ => none⟩) f30 80 [.v (.fl (cS (x,y,false)))] = some ([aB (q2 x) = aB (e2 F2.zero),aB (q2 y) = aB (e2 F2.zero),fO x = true,fO y = true,aB (e2 (F2.mul (m2 y) (m2 y))) ≠ aB (e2 (F2.add (F2.mul (m2 x) (F2.mul (m2 x) (m2 x))) oD))],.one (.im (.int .i64 41))):=by kernel_rfl
theorem FM (x y : N2) : aT prog (qG prog) (fun _ => ⟨fun s => (eV).add 57 (rH (bif Nat.beq s 27 then true else true)),fun s => Nat.beq s 7 || Nat.beq s 12 || Nat.beq s 51,fun _ => none⟩) f30 80 [.v (.fl (cS (x,y,false)))] = some ([aB (q2 x) = aB (e2 F2.zero),aB (q2 y) = aB (e2 F2.zero),fO x = true,fO y = true,aB (e2 (F2.mul (m2 y) (m2 y))) = aB (e2 (F2.add (F2.mul (m2 x) (F2.mul (m2 x) (m2 x))) oD))],.one (.im (.int .i64 0))):=by kernel_rfl
theorem hZ {x : N2} : fO x = true ↔ jI x:=by
 unfold fO jI;rw [Bool.and_eq_true,Wa,Wa]
theorem zY {x : N2} : fO x = false ↔ ¬ jI x:=by
 rw [← hZ];cases fO x <;> simp
theorem Ps (p : dC) (args : List Value) (w : World) (ha : bH w [.v (.fl (cS p))] args) : Good prog 30 (.one (.im (.int .i64 (fQ p.1 p.2.1 p.2.2).1))) args w:=by
 obtain ⟨x,y,b⟩:=p;show Good _ _ (.one (.im (.int .i64 (fQ x y b).1))) _ _;rw [rK];cases b with
 | true =>
  rw [if_pos rfl]
  by_cases hx : tS x
  ·by_cases hy : tS y
   ·rw [if_pos ⟨hx,hy⟩];exact aC aF (fun _ s => dQ) (aG prog) func30 (NI x y) ⟨bQ.2 hx,bQ.2 hy,trivial⟩ ha
   ·rw [if_neg (fun h => hy h.2)];exact aC aF (fun _ s => dQ) (aG prog) func30 (NJ x y) ⟨bQ.2 hx,fun h => hy (bQ.1 h),trivial⟩ ha
  ·rw [if_neg (fun h => hx h.1)];exact aC aF (fun _ s => dQ) (aG prog) func30 (NK x y) ⟨fun h => hx (bQ.1 h),trivial⟩ ha
 | false =>
  rw [if_neg (by simp)]
  by_cases hx : jI x
  ·by_cases hy : jI y
   ·rw [if_neg (fun h => h ⟨hx,hy⟩)]
    by_cases h : F2.mul (m2 y) (m2 y) = F2.add (F2.mul (F2.mul (m2 x) (m2 x)) (m2 x)) oD
    ·rw [if_pos h];have h' : F2.mul (m2 y) (m2 y) = F2.add (F2.mul (m2 x) (F2.mul (m2 x) (m2 x))) oD:=by rw [h,F2.mul_comm (m2 x) (F2.mul (m2 x) (m2 x))]
     by_cases hx0 : tS x
     ·by_cases hy0 : tS y
      ·exact aC aF (fun _ s => (dQ).ad func57 (fA _)) (aG prog) func30 (FM x y) ⟨bQ.2 hx0,bQ.2 hy0,(hZ.2 hx),(hZ.2 hy),by rw [h'],trivial⟩ ha
      ·exact aC aF (fun _ s => (dQ).ad func57 (fA _)) (aG prog) func30 (FN x y) ⟨bQ.2 hx0,fun h => hy0 (bQ.1 h),(hZ.2 hx),(hZ.2 hy),by rw [h'],trivial⟩ ha
     ·exact aC aF (fun _ s => (dQ).ad func57 (fA _)) (aG prog) func30 (FO x y) ⟨fun h => hx0 (bQ.1 h),(hZ.2 hx),(hZ.2 hy),by rw [h'],trivial⟩ ha
    ·rw [if_neg h];have h' : F2.mul (m2 y) (m2 y) ≠ F2.add (F2.mul (m2 x) (F2.mul (m2 x) (m2 x))) oD:=by rw [F2.mul_comm (m2 x) (F2.mul (m2 x) (m2 x))]; exact h
     by_cases hx0 : tS x
     ·by_cases hy0 : tS y
      ·exact aC aF (fun _ s => (dQ).ad func57 (fA _)) (aG prog) func30 (FQ x y) ⟨bQ.2 hx0,bQ.2 hy0,(hZ.2 hx),(hZ.2 hy),cC h',trivial⟩ ha
      ·exact aC aF (fun _ s => (dQ).ad func57 (fA _)) (aG prog) func30 (FT x y) ⟨bQ.2 hx0,fun h => hy0 (bQ.1 h),(hZ.2 hx),(hZ.2 hy),cC h',trivial⟩ ha
     ·exact aC aF (fun _ s => (dQ).ad func57 (fA _)) (aG prog) func30 (FU x y) ⟨fun h => hx0 (bQ.1 h),(hZ.2 hx),(hZ.2 hy),cC h',trivial⟩ ha
   ·rw [if_pos (fun h => hy h.2)]
    by_cases hx0 : tS x
    ·by_cases hy0 : tS y
     ·exact aC aF (fun _ s => (dQ).ad func57 (fA _)) (aG prog) func30 (FV x y) ⟨bQ.2 hx0,bQ.2 hy0,(hZ.2 hx),(zY.2 hy),trivial⟩ ha
     ·exact aC aF (fun _ s => (dQ).ad func57 (fA _)) (aG prog) func30 (FW x y) ⟨bQ.2 hx0,fun h => hy0 (bQ.1 h),(hZ.2 hx),(zY.2 hy),trivial⟩ ha
    ·exact aC aF (fun _ s => (dQ).ad func57 (fA _)) (aG prog) func30 (FX x y) ⟨fun h => hx0 (bQ.1 h),(hZ.2 hx),(zY.2 hy),trivial⟩ ha
  ·rw [if_pos (fun h => hx h.1)]
   by_cases hx0 : tS x
   ·by_cases hy0 : tS y
    ·exact aC aF (fun _ s => (dQ).ad func57 (fA _)) (aG prog) func30 (FY x y) ⟨bQ.2 hx0,bQ.2 hy0,(zY.2 hx),trivial⟩ ha
    ·exact aC aF (fun _ s => (dQ).ad func57 (fA _)) (aG prog) func30 (FZ x y) ⟨bQ.2 hx0,fun h => hy0 (bQ.1 h),(zY.2 hx),trivial⟩ ha
   ·exact aC aF (fun _ s => (dQ).ad func57 (fA _)) (aG prog) func30 (GA x y) ⟨fun h => hx0 (bQ.1 h),(zY.2 hx),trivial⟩ ha
def DM : Tab:=(eV).add 30 (g1 OS fun p => ([],.one (.im (.int .i64 (fQ p.1 p.2.1 p.2.2).1))))
theorem TL : TabOk prog DM:=(dQ).ad func30 (cG fF fun p hp args w ha => Ps p args w ha)
def gH (a : J2) (n L : Nat) : Nat → J2
 | 0 => (F2.one,F2.one,F2.zero)
 | k + 1 => if dF (wv n) (L - 1 - k) = 1 then rplus F2 (dI F2 (gH a n L k)) a else dI F2 (gH a n L k)
def kZ (a : J2) (n : Nat) (v : Value) (c : J2) : List Fact:=[.slot 2 (.pt 2 0),.row 2 true (bD a),.slot 3 (.pt 3 0),.row 3 true [.q n],.slot 4 (.pt 4 0),.row 4 true (bD pR),.slot 5 (.pt 5 0),.row 5 true (bD c),.slot 6 (.im v)]
def Xj (a : J2) (n : Nat) : List Fact:=[.slot 2 (.pt 2 0),.row 2 true (bD a),.slot 3 (.pt 3 0),.row 3 true [.q n],.slot 4 (.pt 4 0),.row 4 true (bD pR)]
def Xi (a : J2) (n : Nat) (c : J2) : List Fact:=[.slot 2 (.pt 2 0),.row 2 true (bD a),.slot 3 (.pt 3 0),.row 3 true [.q n],.slot 4 (.pt 4 0),.row 4 true (bD pR),.slot 5 (.pt 5 0),.row 5 true (bD c)]
def LY (num : Nat → Option Value) (_ : Nat) : Cfg:=⟨fun _ => DM,fun _ => true,num⟩
def eW : Code:=(f59.body).getD .skip
def sV : Code:=Bp (Bp (cB (cA (cB (cB eW)))))
theorem Cp : eW = .seq (cA eW) (.seq (cA (cB eW)) (.seq (.seq (cA (cA (cB (cB eW)))) (.block 0 (.loop sV))) (cB (cB (cB eW))))):=by kernel_rfl
theorem Xm (a : J2) (n : Nat) : dE prog (qG prog) f59.ntmps (LY fun _ => none) 60 (cA eW) (mE 0 [.v (.fl (bD a)),.v (.fl [.q n])]) (Xj a n) = some ([],.nrm,(Xj a n)):=by kernel_rfl
theorem Xl (a : J2) (n : Nat) : dE prog (qG prog) f59.ntmps (LY fun _ => none) 60 (cA (cB eW)) (Xj a n) (Xi a n (F2.one,F2.one,F2.zero)) = some ([],.nrm,(Xi a n (F2.one,F2.one,F2.zero))):=by kernel_rfl
theorem Xk (a c : J2) (n : Nat) (v : Value) : dE prog (qG prog) f59.ntmps (LY (assoc [(14,v)])) 60 (cA (cA (cB (cB eW)))) (Xi a n c) (kZ a n v c) = some ([aI .sub .i64 (Int.ofNat (bO n)) 1 = some v],.nrm,(kZ a n v c)):=by kernel_rfl
theorem Nz (a c : J2) (n j : Nat) (v : Value) : dE prog (qG prog) f59.ntmps (LY (assoc [(16,.bool true),(24,.bool true),(18,v)])) 60 sV (kZ a n (iI j) c) (kZ a n v (rplus F2 (dI F2 c) a)) = some ([aI .geq .i64 (Int.ofNat j) 0 = some (.bool true),j < 256,aI .eql .i64 (Int.ofNat (dF (wv n) j)) 1 = some (.bool true),aI .sub .i64 (Int.ofNat j) 1 = some v],.nrm,(kZ a n v (rplus F2 (dI F2 c) a))):=by kernel_rfl
theorem Oa (a c : J2) (n j : Nat) (v : Value) : dE prog (qG prog) f59.ntmps (LY (assoc [(16,.bool true),(24,.bool false),(18,v)])) 60 sV (kZ a n (iI j) c) (kZ a n v (dI F2 c)) = some ([aI .geq .i64 (Int.ofNat j) 0 = some (.bool true),j < 256,aI .eql .i64 (Int.ofNat (dF (wv n) j)) 1 = some (.bool false),aI .sub .i64 (Int.ofNat j) 1 = some v],.nrm,(kZ a n v (dI F2 c))):=by kernel_rfl
theorem Ob (a c : J2) (n : Nat) : dE prog (qG prog) f59.ntmps (LY (fun _ => none)) 60 sV (kZ a n (.int .i64 (-1)) c) (kZ a n (.int .i64 (-1)) c) = some ([],(.ex 0),(kZ a n (.int .i64 (-1)) c)):=by kernel_rfl
theorem Co (a c : J2) (n : Nat) (v : Value) : dE prog (qG prog) f59.ntmps (LY fun _ => none) 60 (cB (cB (cB eW))) (kZ a n v c) [.slot 4 (.pt 4 0),.row 4 true (bD c)] = some ([],.rt,[.slot 4 (.pt 4 0),.row 4 true (bD c)]):=by kernel_rfl
theorem XB (a : J2) (n : Nat) (args : List Value) (w0 : World) (ha : bH w0 [.v (.fl (bD a)),.v (.fl [.q n])] args) : Good prog 59 (.one (.fl (bD (gH a n (bO n) (bO n))))) args w0:=by
 have hG : cL prog (qG prog) w0.heap.size w0:=(aG _).w _ _;have hT : ∀ n d : Nat,TabOkW prog (DM) w0.heap.size w0:=fun _ _ => (TL).w _ _
 have hL:=UM n;refine gP func59 (c:=eW) rfl ha (Nat.le_of_ble_eq_true (by kernel_rfl)) fun b w' hA => ?_
 rw [Cp];refine wp_seq (aU aF hT hG (Xm a n) trivial hA fun b w' hA => ?_);refine wp_seq (aU aF hT hG (Xl a n) trivial hA fun b w' hA => ?_);refine wp_seq (wp_seq (aU aF hT hG (Xk a _ n (vI (bO n) 0)) ⟨aEA hL,trivial⟩ hA fun b w' hA => ?_));refine wp_block ?_;refine nQ aF (fun k => kZ a n (vI (bO n) k) (gH a n (bO n) k)) (bO n) (fun k hk => ?_) (.ex 0) (by simp) (kZ a n (.int .i64 (-1)) (gH a n (bO n) (bO n))) ?_ hA fun b w' hA => ?_
 ·have e0 : vI (bO n) k = iI (bO n - 1 - k):=if_pos hk;show Ok _ _ _ _ _ (kZ a n (vI (bO n) k) (gH a n (bO n) k)) _ (kZ a n (vI (bO n) (k + 1)) (gH a n (bO n) (k + 1)));rw [e0]
  by_cases h : dF (wv n) (bO n - 1 - k) = 1
  ·rw [show gH a n (bO n) (k + 1) = rplus F2 (dI F2 (gH a n (bO n) k)) a from if_pos h];exact ⟨_,_,_,_,hG,hT,Nz a (gH a n (bO n) k) n (bO n - 1 - k) (vI (bO n) (k + 1)),Hh _,by omega,by rw [qU,decide_eq_true h],aCn hL hk,trivial⟩
  ·rw [show gH a n (bO n) (k + 1) = dI F2 (gH a n (bO n) k) from if_neg h];exact ⟨_,_,_,_,hG,hT,Oa a (gH a n (bO n) k) n (bO n - 1 - k) (vI (bO n) (k + 1)),Hh _,by omega,by rw [qU,decide_eq_false h],aCn hL hk,trivial⟩
 ·show Ok _ _ _ _ _ (kZ a n (vI (bO n) (bO n)) _) _ _;rw [show vI (bO n) (bO n) = .int .i64 (-1) from if_neg (Nat.lt_irrefl _)];exact ⟨_,_,_,_,hG,hT,Ob a _ n,trivial⟩
 ·show (cB (cB (cB eW))).wp _ _ _ _;exact aU aF hT hG (Co a _ n _) trivial hA fun b w' hA => iN (l:=[.fl (bD (gH a n (bO n) (bO n)))]) (r:=.one (.fl (bD (gH a n (bO n) (bO n))))) (by kernel_rfl) (by kernel_rfl) hA
def Mq : Tab:=(DM).add 59 (g2 IC uL fun a n => ([],.one (.fl (bD (gH a n (bO n) (bO n))))))
theorem Rh : TabOk prog Mq:=(TL).ad func59 (gO fE dG fun a n hp args w ha => XB a n args w ha)
theorem Lm {p : dC} (h : (fQ p.1 p.2.1 p.2.2).1 = 0) : p.2.2 = false → jI p.1 ∧ jI p.2.1:=fun hb => by
 rw [rK,hb,if_neg (by simp)] at h
 by_cases hb : jI p.1 ∧ jI p.2.1
 ·exact hb
 ·rw [if_pos hb] at h;cases h
end Go.Proofs.YtfnkbmlmgnadmaaGreat.Ex
