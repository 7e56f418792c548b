/- Pt13 -/
import Derived.ProofKit
import Derived.LaidMore
import Derived.OpenShut
import Derived.Stop.Joined
import Derived.Carry
import Derived.RowKit
import Derived.ChangeSame
import Derived.JoinedOf
import Derived.JoinedAt
import Derived.Laws.IdiomArrays
import Derived.Deep.Strs
import Derived.Test.YtfnkbmlmgnadmaaGreatPt12
import Derived.Test.YtfnkbmlmgnadmaaGreatPt07
import Derived.Test.YtfnkbmlmgnadmaaGreatPt04
import Derived.Test.YtfnkbmlmgnadmaaGreatPt06
import Derived.Test.YtfnkbmlmgnadmaaGreatPt09
import Derived.Test.YtfnkbmlmgnadmaaGreatRows
import Derived.Test.YtfnkbmlmgnadmaaGreatPt00
import Derived.Test.YtfnkbmlmgnadmaaGreatPt03
import Derived.Test.YtfnkbmlmgnadmaaGreatPt10
set_option maxRecDepth 100000
set_option linter.unusedVariables false
set_option linter.unusedSimpArgs false
noncomputable section
namespace Go.Proofs.YtfnkbmlmgnadmaaGreat.Ex
open Go.Proofs.Tryz
open Go.RowKit
theorem VT : ∃ g : dC → Int,∀ p,g p = if (fQ p.1 p.2.1 p.2.2).1 ≠ 0 then (fQ p.1 p.2.1 p.2.2).1 else if kW p = true then 0 else 42:=⟨fun p => if (fQ p.1 p.2.1 p.2.2).1 ≠ 0 then (fQ p.1 p.2.1 p.2.2).1 else if kW p = true then 0 else 42,fun _ => rfl⟩
def dM : dC → Int:=Classical.choose VT
theorem CZ (p : dC) : dM p = if (fQ p.1 p.2.1 p.2.2).1 ≠ 0 then (fQ p.1 p.2.1 p.2.2).1 else if kW p = true then 0 else 42:=Classical.choose_spec VT p
def Jr (k : Bool) : gC:=g1 OS fun p => bif k then ([(fQ p.1 p.2.1 p.2.2).1 = 0],.one (.im (.int .i64 0))) else ([],.one (.im (.int .i64 (fQ p.1 p.2.1 p.2.2).1)))
theorem KB {f : FuncId} (h : ∀ (p : dC) (args : List Value) (w : World),bH w [.v (.fl (cS p))] args → Good prog f (.one (.im (.int .i64 (fQ p.1 p.2.1 p.2.2).1))) args w) (k : Bool) :
  ∀ cs pre r,Jr k cs = some (pre,r) → aQ pre → ∀ (args : List Value) (w : World),bH w cs args → Good prog f r args w :=
 cG fF fun p hp args w ha => by
  cases k
  ·exact h p args w ha
  ·have e : (fQ p.1 p.2.1 p.2.2).1 = 0:=hp.1;have:=h p args w ha;rw [e] at this;exact this
theorem Ae (p : dC) : nF 28 [.v (.fl (cS p))] = some ([],.one (.im (.int .i64 (fQ p.1 p.2.1 p.2.2).1))):=by kernel_rfl
theorem OR (p : dC) : nF 30 [.v (.fl (cS p))] = some ([],.one (.im (.int .i64 (fQ p.1 p.2.1 p.2.2).1))):=by kernel_rfl
theorem Gp (p : dC) (args : List Value) (w : World) (ha : bH w [.v (.fl (cS p))] args) : Good prog 28 (.one (.im (.int .i64 (fQ p.1 p.2.1 p.2.2).1))) args w:=(kF _ _ _ _ (Ae p) trivial).2 args w ha
theorem ZM (p : dC) (args : List Value) (w : World) (ha : bH w [.v (.fl (cS p))] args) : Good prog 30 (.one (.im (.int .i64 (fQ p.1 p.2.1 p.2.2).1))) args w:=(kF _ _ _ _ (OR p) trivial).2 args w ha
def aDY (c : Bool) : Tab:=(nF.add 29 (gIc c)).add 31 (gIc c)
theorem aCV (c : Bool) : TabOk prog (aDY c):=(kF.ad func29 (aAv c)).ad func31 (aAt c)
def Mw (k c : Bool) : Tab:=((aDY c).add 28 (Jr k)).add 30 (Jr k)
theorem zA (k c : Bool) : TabOk prog (Mw k c):=((aCV c).ad func28 (KB Gp k)).ad func30 (KB ZM k)
theorem NT (p : dC) : aT prog (qG prog) (fun _ => ⟨fun _ => Mw false true,fun _ => true,fun n => bif Nat.beq n 7 then some (.bool true) else none⟩) f11 60 [.v (.fl (cS p))] = some ([aI .neq .i64 (fQ p.1 p.2.1 p.2.2).1 0 = some (.bool true)],.one (.im (.int .i64 (fQ p.1 p.2.1 p.2.2).1))):=by kernel_rfl
theorem uJ (p : dC) (c : Bool) : aT prog (qG prog) (fun _ => ⟨fun _ => Mw true c,fun _ => true,fun _ => none⟩) f11 60 [.v (.fl (cS p))] = some ([(fQ p.1 p.2.1 p.2.2).1 = 0,kW p = c],.one (.im (.int .i64 (bif c then 0 else 42)))):=by cases c <;> kernel_rfl
theorem SY (p : dC) (args : List Value) (w : World) (ha : bH w [.v (.fl (cS p))] args) : Good prog 11 (.one (.im (.int .i64 (dM p)))) args w:=by
 rw [CZ]
 by_cases h : (fQ p.1 p.2.1 p.2.2).1 = 0
 ·rw [if_neg (fun e => e h)];cases hc : kW p
  ·rw [if_neg (by simp)];exact aC aF (fun _ _ => zA true false) (aG prog) func11 (uJ p false) ⟨h,hc,trivial⟩ ha
  ·rw [if_pos rfl];exact aC aF (fun _ _ => zA true true) (aG prog) func11 (uJ p true) ⟨h,hc,trivial⟩ ha
 ·rw [if_pos h];exact aC aF (fun _ _ => zA false true) (aG prog) func11 (NT p) ⟨by show some (Value.bool ((fQ p.1 p.2.1 p.2.2).1 != 0)) = _; rw [bne_iff_ne.2 h],trivial⟩ ha
theorem NR (p : dC) : aT prog (qG prog) (fun _ => ⟨fun _ => Mw false true,fun _ => true,fun n => bif Nat.beq n 7 then some (.bool false) else none⟩) f12 60 [.v (.fl (cS p))] = some ([aI .eql .i64 (fQ p.1 p.2.1 p.2.2).1 0 = some (.bool false)],.one (.im (.int .i64 (fQ p.1 p.2.1 p.2.2).1))):=by kernel_rfl
theorem uF (p : dC) (c : Bool) : aT prog (qG prog) (fun _ => ⟨fun _ => Mw true c,fun _ => true,fun _ => none⟩) f12 60 [.v (.fl (cS p))] = some ([(fQ p.1 p.2.1 p.2.2).1 = 0,kW p = c],.one (.im (.int .i64 (bif c then 0 else 42)))):=by cases c <;> kernel_rfl
theorem SS (p : dC) (args : List Value) (w : World) (ha : bH w [.v (.fl (cS p))] args) : Good prog 12 (.one (.im (.int .i64 (dM p)))) args w:=by
 rw [CZ]
 by_cases h : (fQ p.1 p.2.1 p.2.2).1 = 0
 ·rw [if_neg (fun e => e h)];cases hc : kW p
  ·rw [if_neg (by simp)];exact aC aF (fun _ _ => zA true false) (aG prog) func12 (uF p false) ⟨h,hc,trivial⟩ ha
  ·rw [if_pos rfl];exact aC aF (fun _ _ => zA true true) (aG prog) func12 (uF p true) ⟨h,hc,trivial⟩ ha
 ·rw [if_pos h];exact aC aF (fun _ _ => zA false true) (aG prog) func12 (NR p) ⟨by show some (Value.bool ((fQ p.1 p.2.1 p.2.2).1 == 0)) = _; rw [beq_eq_false_iff_ne.2 h],trivial⟩ ha
def KD (k : Bool) : gC:=g1 OS fun p => bif k then ([dM p = 0],.one (.im (.int .i64 0))) else ([],.one (.im (.int .i64 (dM p))))
theorem pB {f : FuncId} (h : ∀ (p : dC) (args : List Value) (w : World),bH w [.v (.fl (cS p))] args → Good prog f (.one (.im (.int .i64 (dM p)))) args w) (k : Bool) :
  ∀ cs pre r,KD k cs = some (pre,r) → aQ pre → ∀ (args : List Value) (w : World),bH w cs args → Good prog f r args w :=
 cG fF fun p hp args w ha => by
  cases k
  ·exact h p args w ha
  ·have e : dM p = 0:=hp.1;have:=h p args w ha;rw [e] at this;exact this
def Vo (y : N2) : Bool:=if wv y.2 = 0 then fY FP.M (wv y.1) else fY FP.M (wv y.2)
theorem YH (c : Bool) (y : N2) : aT prog (qG prog) (fun _ => ⟨fun _ => WJ c,fun _ => true,fun _ => none⟩) f23 60 [.v (.fl (q2 y))] = some ([aB [.q y.2] = aB (e1 F1.zero),wv y.1 < FP.M,fY FP.M (wv y.1) = c],.one (.im (.bool c))):=by kernel_rfl
theorem YI (c : Bool) (y : N2) : aT prog (qG prog) (fun _ => ⟨fun _ => WJ c,fun _ => false,fun _ => none⟩) f23 60 [.v (.fl (q2 y))] = some ([aB [.q y.2] ≠ aB (e1 F1.zero),wv y.2 < FP.M,fY FP.M (wv y.2) = c],.one (.im (.bool c))):=by kernel_rfl
def qQ (c : Bool) (y : N2) : List Prop:=[wv y.1 < FP.M,wv y.2 < FP.M,Vo y = c]
theorem Zt (c : Bool) (y : N2) (hp : aQ (qQ c y)) (args : List Value) (w : World) (ha : bH w [.v (.fl (q2 y))] args) : Good prog 23 (.one (.im (.bool c))) args w:=by
 obtain ⟨h1,h2,h3,_⟩:=hp;unfold Vo at h3
 by_cases hz : wv y.2 = 0
 ·rw [if_pos hz] at h3;exact aC aF (fun _ _ => PM c) (aG prog) func23 (YH c y) ⟨nM.2 hz,h1,h3,trivial⟩ ha
 ·rw [if_neg hz] at h3;exact aC aF (fun _ _ => PM c) (aG prog) func23 (YI c y) ⟨fun e => hz (nM.1 e),h2,h3,trivial⟩ ha
theorem wG (a b : Nat) : aI .lss .i64 (Go.Proofs.YtfnkbmlmgnadmaaGreat.bE a b) 0 = some (.bool (decide (a < b))):=by
 unfold Go.Proofs.YtfnkbmlmgnadmaaGreat.bE
 by_cases h : a = b
 ·rw [if_pos h,decide_eq_false (by omega)]; rfl
 ·rw [if_neg h]
  by_cases h2 : a < b
  ·rw [if_pos h2,decide_eq_true h2]; rfl
  ·rw [if_neg h2,decide_eq_false h2]; rfl
theorem KX (a b : Nat) : aI .eql .i64 (Go.Proofs.YtfnkbmlmgnadmaaGreat.bE a b) 0 = some (.bool (decide (a = b))):=by
 unfold Go.Proofs.YtfnkbmlmgnadmaaGreat.bE
 by_cases h : a = b
 ·rw [if_pos h,decide_eq_true h]; rfl
 ·rw [if_neg h,decide_eq_false h]
  by_cases h2 : a < b
  ·rw [if_pos h2]; rfl
  ·rw [if_neg h2]; rfl
def Wg : Tab:=nF.add 78 Ka
theorem PN : TabOk prog Wg:=kF.ad func78 Jz
def Vl (y : N2) : Q2:=F2.sub F2.zero (m2 y)
def cfL (l : List (Nat × Value)) : Nat → Cfg:=fun _ => ⟨fun _ => Wg,fun _ => true,assoc l⟩
theorem NN (y : N2) : aT prog (qG prog) (cfL [(13,.bool true)]) f43 60 [.v (.fl (q2 y))] = some ([aI .lss .i64 (Go.Proofs.YtfnkbmlmgnadmaaGreat.bE (wv y.2) (wv (Vl y).2.1)) 0 = some (.bool true)],.one (.im (.bool true))):=by kernel_rfl
theorem NM (y : N2) : aT prog (qG prog) (cfL [(13,.bool false),(16,.bool false)]) f43 60 [.v (.fl (q2 y))] = some ([aI .lss .i64 (Go.Proofs.YtfnkbmlmgnadmaaGreat.bE (wv y.2) (wv (Vl y).2.1)) 0 = some (.bool false),aI .eql .i64 (Go.Proofs.YtfnkbmlmgnadmaaGreat.bE (wv y.2) (wv (Vl y).2.1)) 0 = some (.bool false)],.one (.im (.bool false))):=by kernel_rfl
theorem NL (c : Bool) (y : N2) : aT prog (qG prog) (cfL [(13,.bool false),(16,.bool true),(23,.bool c)]) f43 60 [.v (.fl (q2 y))] = some ([aI .lss .i64 (Go.Proofs.YtfnkbmlmgnadmaaGreat.bE (wv y.2) (wv (Vl y).2.1)) 0 = some (.bool false),aI .eql .i64 (Go.Proofs.YtfnkbmlmgnadmaaGreat.bE (wv y.2) (wv (Vl y).2.1)) 0 = some (.bool true),aI .leq .i64 (Go.Proofs.YtfnkbmlmgnadmaaGreat.bE (wv y.1) (wv (Vl y).1.1)) 0 = some (.bool c)],.one (.im (.bool c))):=by kernel_rfl
theorem Hw {n : Nat} (h : wv n < FP.M) : wv (F1.sub F1.zero (m1 n)).1 = (0 + FP.M - wv n) % FP.M:=by
 have e1 : (F1.sub F1.zero (m1 n)).1 = (0 + FP.M - wv n) % FP.M:=by
  have e2 : (m1 n).1 = wv n:=Nat.mod_eq_of_lt h;show (0 + (FP.M - (m1 n).1) % FP.M) % FP.M = _;rw [e2,Nat.zero_add,Nat.zero_add,Nat.mod_mod]
 have e3 : wv (F1.sub F1.zero (m1 n)).1 = (F1.sub F1.zero (m1 n)).1:=bU (F1.sub F1.zero (m1 n)).2;rw [e3,e1]
theorem Pv (c : Bool) (y : N2) (hp : aQ (qQ c y)) (args : List Value) (w : World) (ha : bH w [.v (.fl (q2 y))] args) : Good prog 43 (.one (.im (.bool c))) args w:=by
 obtain ⟨h1,h2,h3,_⟩:=hp;have e1 : wv (Vl y).1.1 = (0 + FP.M - wv y.1) % FP.M:=Hw h1;have e2 : wv (Vl y).2.1 = (0 + FP.M - wv y.2) % FP.M:=Hw h2;have hM:=cV;have hodd : FP.M % 2 = 1:=by decide
 unfold Vo fY at h3
 by_cases hz : wv y.2 = 0
 ·rw [if_pos hz] at h3;have e3 : (0 + FP.M - wv y.2) % FP.M = wv y.2:=by rw [hz,Nat.sub_zero,Nat.zero_add,Nat.mod_self]
  exact aC aF (fun _ _ => PN) (aG prog) func43 (NL c y) ⟨by rw [wG,e2,e3,decide_eq_false (Nat.lt_irrefl _)],by rw [KX,e2,e3,decide_eq_true rfl],by rw [Lh,e1,h3],trivial⟩ ha
 ·rw [if_neg hz] at h3;have e3 : (0 + FP.M - wv y.2) % FP.M = FP.M - wv y.2:=by rw [Nat.zero_add]; exact Nat.mod_eq_of_lt (by omega)
  have hne : wv y.2 ≠ FP.M - wv y.2:=by omega
  rw [e3] at h3;cases c
  ·have h4 : ¬ wv y.2 ≤ FP.M - wv y.2:=of_decide_eq_false h3;exact aC aF (fun _ _ => PN) (aG prog) func43 (NM y) ⟨by rw [wG,e2,e3,decide_eq_false (by omega)],by rw [KX,e2,e3,decide_eq_false hne],trivial⟩ ha
  ·have h4 : wv y.2 ≤ FP.M - wv y.2:=of_decide_eq_true h3;exact aC aF (fun _ _ => PN) (aG prog) func43 (NN y) ⟨by rw [wG,e2,e3,decide_eq_true (by omega)],trivial⟩ ha
def wY (k c : Bool) : Tab:=(((nF.add 23 (g1 OQ fun y => (qQ c y,.one (.im (.bool c))))).add 11 (KD k)).add 22 gSm).add 25 gLm
theorem qS (k c : Bool) : TabOk prog (wY k c):=(((kF.ad func23 (cG (op:=fun y => (qQ c y,.one (.im (.bool c)))) fV fun y hp args w ha => Zt c y hp args w ha)).ad func11 (pB SY k)).ad func22 Jm).ad func25 Js
def pO (k c : Bool) : Tab:=((nF.add 43 (g1 OQ fun y => (qQ c y,.one (.im (.bool c))))).add 12 (KD k)).add 42 gRm
theorem lL (k c : Bool) : TabOk prog (pO k c):=((kF.ad func43 (cG (op:=fun y => (qQ c y,.one (.im (.bool c)))) fV fun y hp args w ha => Pv c y hp args w ha)).ad func12 (pB SS k)).ad func42 aAj
def b2L (x : N2) : List At:=bl (wv x.2) ++ bl (wv x.1)
def bm2 (x : N2) (m : Nat) : List At:=bm (wv x.2) m ++ bl (wv x.1)
theorem Pg (x : N2) : iX prog (qY prog (xR 0 0)) cT0 f27 60 [.v (.fl (q2 x))] = some ([],⟨b2L x,64,5,1,true,[],[]⟩):=by kernel_rfl
def aAm : List CA → Option (List Prop × FS)
 | [.v (.fl l)] => match OQ l with
  | some x => some ([],⟨b2L x,64,5,1,true,[],[]⟩)
  | none => none
 | _ => none
theorem Sv : ∀ cs pre r,aAm cs = some (pre,r) → aQ pre → ∀ (args : List Value) (w : World),bH w cs args → Calls prog 27 args.toArray w (fun e w' => r.ok w e w'):=by
 intro cs pre r hg hp args w ha;unfold aAm at hg;split at hg
 ·rename_i l;split at hg
  ·rename_i x hn;cases hg;rw [jF ha,fV l _ hn];exact bK aF (fun _ _ => (fS _).w _ _) (aCj 0 0 w) func27 (Pg x) trivial (args:=[_]) ⟨rfl,trivial⟩
  ·cases hg
 ·cases hg
def R3b : Tab3:=R3.add 27 aAm
theorem Nh : FsOk prog R3b:=Wh.ad func27 Sv
def xR2 (n s : Nat) : Ext:=x3 R3b W4 (fun _ => none) (fun i => bif Nat.beq i s then some (n,z8 n) else none)
theorem By (n s : Nat) (w : World) : cL prog (qY prog (xR2 n s)) w.heap.size w:=oE Nh WC w
def zm (n : Nat) : List At:=.c (.int .u8 (Int.ofNat (0 ||| 64 * 1))) :: z8 n
theorem Dk (x y : N2) : iX prog (qY prog (xR2 64 5)) (sD (pO true true)) f24 80 [.v (.fl (cS (x,y,true)))] = some ([Mk 64,0 < 256,1 < 4],⟨zm 63,64,0,0,false,[],[]⟩):=by kernel_rfl
theorem Dl (x y : N2) (c : Bool) : iX prog (qY prog (xR2 64 5)) (sD (pO true c)) f24 80 [.v (.fl (cS (x,y,false)))] = some (qQ c y ++ [aV (wv x.2) 0 < 256,(bif c then 2 else 3) < 4],⟨bm2 x (bif c then 2 else 3),64,5,1,true,[],[]⟩):=by cases c <;> kernel_rfl
def gTr (c : Bool) : List CA → Option (List Prop × FS)
 | [.v (.fl l)] => match OS l with
  | some (x,y,true) => some ([],⟨zm 63,64,0,0,false,[],[]⟩)
  | some (x,y,false) => some (qQ c y,⟨bm2 x (bif c then 2 else 3),64,0,0,false,[],[]⟩)
  | none => none
 | _ => none
theorem aAc (c : Bool) : ∀ cs pre r,gTr c cs = some (pre,r) → aQ pre → ∀ (args : List Value) (w : World),bH w cs args → Calls prog 24 args.toArray w (fun e w' => r.ok w e w'):=by
 intro cs pre r hg hp args w ha;unfold gTr at hg;split at hg
 ·rename_i l;split at hg
  ·rename_i x y hn;cases hg;rw [jF ha,fF l _ hn];exact bK aF (fun _ _ => (lL true true).w _ _) (By _ _ w) func24 (Dk x y) ⟨Ii 64 (by decide),by decide,by decide,trivial⟩ (args:=[_]) ⟨rfl,trivial⟩
  ·rename_i x y hn;cases hg;rw [jF ha,fF l _ hn];exact (bK aF (fun _ _ => (lL true c).w _ _) (By _ _ w) func24 (Dl x y c) (bG.2 ⟨hp,tM _ _,Dj c,trivial⟩) (args:=[_]) ⟨rfl,trivial⟩).mono fun e w' h => h.weak rfl
  ·cases hg
 ·cases hg
def Bx (c : Bool) (n s : Nat) : Ext:=x3 (R3b.add 24 (gTr c)) W4 (fun _ => none) (fun i => bif Nat.beq i s then some (n,z8 n) else none)
theorem sT (c : Bool) (n s : Nat) (w : World) : cL prog (qY prog (Bx c n s)) w.heap.size w:=oE (Nh.ad func24 (aAc c)) WC w
def zD (p : dC) : List Prop × RV:=([aI .neq .i64 (dM p) 0 = some (.bool true)],.many [.im (.slice none 0 0),.im (.int .i64 (dM p))])
theorem GC (p : dC) : aT prog (qG prog) (cfN (wY false true) 8) f6 60 [.v (.fl (cS p))] = some (zD p):=by kernel_rfl
theorem GN (p : dC) : aT prog (qG prog) (cfN (wY false true) 8) f8 60 [.v (.fl (cS p))] = some (zD p):=by kernel_rfl
theorem FL (p : dC) : aT prog (qG prog) (cfN (pO false true) 8) f7 60 [.v (.fl (cS p))] = some (zD p):=by kernel_rfl
theorem GB (p : dC) : aT prog (qG prog) (cfN (pO false true) 9) f9 60 [.v (.fl (cS p))] = some (zD p):=by kernel_rfl
theorem YA (x y : N2) (c : Bool) : iX prog (qY prog (x3 L3 W4 (fun _ => none) (fun _ => none))) (sD (wY true c)) f6 80 [.v (.fl (cS (x,y,true)))] = some ([dM (x,y,true) = 0] ++ qQ c y ++ [1 < 4],⟨bm2 x 1,64,5,1,true,[],[.im (.int .i64 0)]⟩):=by kernel_rfl
theorem YB (x y : N2) (c : Bool) : iX prog (qY prog (x3 L3 W4 (fun _ => none) (fun _ => none))) (sD (wY true c)) f6 80 [.v (.fl (cS (x,y,false)))] = some ([dM (x,y,false) = 0] ++ qQ c y ++ [(bif c then 2 else 3) < 4],⟨bm2 x (bif c then 2 else 3),64,5,1,true,[],[.im (.int .i64 0)]⟩):=by cases c <;> kernel_rfl
theorem YC (x y : N2) : iX prog (qY prog (x3 L3 W4 (fun _ => none) (fun _ => none))) (sD (wY true true)) f8 80 [.v (.fl (cS (x,y,true)))] = some ([dM (x,y,true) = 0,1 < 4],⟨((bm (wv x.2) 1 ++ bl (wv x.1)) ++ bl (wv y.2)) ++ bl (wv y.1),128,5,1,true,[],[.im (.int .i64 0)]⟩):=by kernel_rfl
theorem YD (x y : N2) : iX prog (qY prog (x3 L3 W4 (fun _ => none) (fun _ => none))) (sD (wY true true)) f8 80 [.v (.fl (cS (x,y,false)))] = some ([dM (x,y,false) = 0,0 < 4],⟨((bm (wv x.2) 0 ++ bl (wv x.1)) ++ bl (wv y.2)) ++ bl (wv y.1),128,5,1,true,[],[.im (.int .i64 0)]⟩):=by kernel_rfl
theorem XR (x y : N2) : iX prog (qY prog (Bx true 64 0)) (sD (pO true true)) f7 80 [.v (.fl (cS (x,y,true)))] = some ([dM (x,y,true) = 0],⟨zm 63,64,0,0,false,[],[.im (.int .i64 0)]⟩):=by kernel_rfl
theorem XS (x y : N2) (c : Bool) : iX prog (qY prog (Bx c 64 0)) (sD (pO true c)) f7 80 [.v (.fl (cS (x,y,false)))] = some ([dM (x,y,false) = 0] ++ qQ c y,⟨bm2 x (bif c then 2 else 3),64,0,0,false,[],[.im (.int .i64 0)]⟩):=by kernel_rfl
theorem XT (x y : N2) : iX prog (qY prog (Bx true 128 14)) (sD (pO true true)) f9 80 [.v (.fl (cS (x,y,true)))] = some ([dM (x,y,true) = 0,Mk 128,0 < 256,1 < 4],⟨zm 127,128,0,0,false,[],[.im (.int .i64 0)]⟩):=by kernel_rfl
theorem XU (x y : N2) : iX prog (qY prog (Bx true 128 14)) (sD (pO true true)) f9 80 [.v (.fl (cS (x,y,false)))] = some ([dM (x,y,false) = 0],⟨b2L x ++ b2L y,128,5,1,true,[],[.im (.int .i64 0)]⟩):=by kernel_rfl
def Ag (c : Bool) (p : dC) : FS:=⟨bm2 p.1 (Di c p.2.2),64,0,0,false,[],[.im (.int .i64 0)]⟩
def l2L (x y : N2) (m : Nat) : List At:=((bm (wv x.2) m ++ bl (wv x.1)) ++ bl (wv y.2)) ++ bl (wv y.1)
def Ah (p : dC) : FS:=⟨l2L p.1 p.2.1 (bif p.2.2 then 1 else 0),128,0,0,false,[],[.im (.int .i64 0)]⟩
def qT (c : Bool) (p : dC) : List Prop:=[dM p = 0,wv p.2.1.1 < FP.M,wv p.2.1.2 < FP.M,Vo p.2.1 = c]
theorem VU {p : dC} (h : dM p = 0) : (fQ p.1 p.2.1 p.2.2).1 = 0:=by
 rw [CZ] at h
 by_cases h0 : (fQ p.1 p.2.1 p.2.2).1 = 0
 ·exact h0
 ·rw [if_pos h0] at h; exact h
theorem rF {x y : N2} (h : dM (x,y,true) = 0) : tS x ∧ tS y:=Lk (VU h)
theorem TU {x y : N2} (h : dM (x,y,false) = 0) : jI x ∧ jI y:=by
 have h1:=VU h;have h2 : (fQ x y false).1 = 0:=h1;rw [rK,if_neg (by simp)] at h2
 by_cases hb : jI x ∧ jI y
 ·exact hb
 ·rw [if_pos hb] at h2; cases h2
theorem Zn {p : dC} (h : dM p = 0) : aQ (qT (Vo p.2.1) p):=by
 obtain ⟨x,y,i⟩:=p;cases i
 ·exact ⟨h,(TU h).2.1,(TU h).2.2,rfl,trivial⟩
 ·obtain ⟨_,h1,h2⟩:=rF h;exact ⟨h,by show wv y.1 < _; rw [h1]; exact cV,by show wv y.2 < _; rw [h2]; exact cV,rfl,trivial⟩
theorem Yk (c : Bool) (p : dC) (hp : aQ (qT c p)) (args : List Value) (w : World) (ha : bH w [.v (.fl (cS p))] args) : Calls prog 6 args.toArray w (fun e w' => (Ag c p).ok w e w'):=by
 obtain ⟨h0,h1,h2,h3,_⟩:=hp;obtain ⟨x,y,i⟩:=p;have hl : aQ (qQ c y):=⟨h1,h2,h3,trivial⟩;cases i
 ·exact (bK aF (fun _ _ => (qS true c).w _ _) (kB w) func6 (YB x y c) (bG.2 ⟨bG.2 ⟨⟨h0,trivial⟩,hl⟩,Dj c,trivial⟩) ha).mono fun e w' h => h.weak rfl
 ·exact (bK aF (fun _ _ => (qS true c).w _ _) (kB w) func6 (YA x y c) (bG.2 ⟨bG.2 ⟨⟨h0,trivial⟩,hl⟩,by decide,trivial⟩) ha).mono fun e w' h => h.weak rfl
theorem Yw (c : Bool) (p : dC) (hp : aQ (qT c p)) (args : List Value) (w : World) (ha : bH w [.v (.fl (cS p))] args) : Calls prog 8 args.toArray w (fun e w' => (Ah p).ok w e w'):=by
 obtain ⟨h0,h1,h2,h3,_⟩:=hp;obtain ⟨x,y,i⟩:=p;cases i
 ·exact (bK aF (fun _ _ => (qS true true).w _ _) (kB w) func8 (YD x y) ⟨h0,by decide,trivial⟩ ha).mono fun e w' h => h.weak rfl
 ·exact (bK aF (fun _ _ => (qS true true).w _ _) (kB w) func8 (YC x y) ⟨h0,by decide,trivial⟩ ha).mono fun e w' h => h.weak rfl
theorem Ya (c : Bool) (p : dC) (hp : aQ (qT c p)) (args : List Value) (w : World) (ha : bH w [.v (.fl (cS p))] args) : Calls prog 7 args.toArray w (fun e w' => (Ag c p).ok w e w'):=by
 obtain ⟨h0,h1,h2,h3,_⟩:=hp;obtain ⟨x,y,i⟩:=p;have hl : aQ (qQ c y):=⟨h1,h2,h3,trivial⟩;cases i
 ·exact (bK aF (fun _ _ => (lL true c).w _ _) (sT c 64 0 w) func7 (XS x y c) (bG.2 ⟨⟨h0,trivial⟩,hl⟩) ha).mono fun e w' h => h.weak rfl
 ·refine (bK aF (fun _ _ => (lL true true).w _ _) (sT true 64 0 w) func7 (XR x y) ⟨h0,trivial⟩ ha).mono fun e w' h => h.weak ?_
  obtain ⟨⟨g1,g2⟩,_⟩:=rF h0;show aB (bm (wv x.2) 1 ++ bl (wv x.1)) = _;rw [show wv x.1 = 0 from g1,show wv x.2 = 0 from g2]
  kernel_rfl
theorem Yb (c : Bool) (p : dC) (hp : aQ (qT c p)) (args : List Value) (w : World) (ha : bH w [.v (.fl (cS p))] args) : Calls prog 9 args.toArray w (fun e w' => (Ah p).ok w e w'):=by
 obtain ⟨h0,h1,h2,h3,_⟩:=hp;obtain ⟨x,y,i⟩:=p;cases i
 ·refine (bK aF (fun _ _ => (lL true true).w _ _) (sT true 128 14 w) func9 (XU x y) ⟨h0,trivial⟩ ha).mono fun e w' h => h.weak ?_
  show aB (((bm (wv x.2) 0 ++ bl (wv x.1)) ++ bl (wv y.2)) ++ bl (wv y.1)) = aB ((bl (wv x.2) ++ bl (wv x.1)) ++ (bl (wv y.2) ++ bl (wv y.1)));rw [Tx,List.append_assoc (bl (wv x.2) ++ bl (wv x.1))]
 ·refine (bK aF (fun _ _ => (lL true true).w _ _) (sT true 128 14 w) func9 (XT x y) ⟨h0,Ii 128 (by decide),by decide,by decide,trivial⟩ ha).mono fun e w' h => h.weak ?_
  obtain ⟨⟨g1,g2⟩,g3,g4⟩:=rF h0;show aB (((bm (wv x.2) 1 ++ bl (wv x.1)) ++ bl (wv y.2)) ++ bl (wv y.1)) = _;rw [show wv x.1 = 0 from g1,show wv x.2 = 0 from g2,show wv y.1 = 0 from g3,show wv y.2 = 0 from g4]
  kernel_rfl
theorem Ub {f : FuncId} {fn : Func} (hf : prog.funcs[f]? = some fn) {T : Tab} (hT : TabOk prog T) {s n : Nat} (p : dC) (h : aT prog (qG prog) (cfN T s) fn n [.v (.fl (cS p))] = some (zD p)) (h0 : dM p ≠ 0) (args : List Value) (w : World) (ha : bH w [.v (.fl (cS p))] args) :
  Good prog f (.many [.im (.slice none 0 0),.im (.int .i64 (dM p))]) args w:=aC aF (fun _ _ => hT) (aG prog) hf h ⟨by show some (Value.bool (dM p != 0)) = _; rw [bne_iff_ne.2 h0],trivial⟩ ha
def Ay (pre : dC → List Prop) (o : dC → FS) : List CA → Option (List Prop × FS)
 | [.v (.fl l)] => match OS l with
  | some p => some (pre p,o p)
  | none => none
 | _ => none
theorem tJ {f : FuncId} {pre : dC → List Prop} {o : dC → FS} (h : ∀ p,aQ (pre p) → ∀ (args : List Value) (w : World),bH w [.v (.fl (cS p))] args → Calls prog f args.toArray w (fun e w' => (o p).ok w e w')) :
  ∀ cs ps r,Ay pre o cs = some (ps,r) → aQ ps → ∀ (args : List Value) (w : World),bH w cs args → Calls prog f args.toArray w (fun e w' => r.ok w e w'):=by
 intro cs ps r hg hp args w ha;unfold Ay at hg;split at hg
 ·rename_i l;split at hg
  ·rename_i p hn;cases hg;refine h p hp args w ?_;rw [jF ha,fF l _ hn];exact ⟨rfl,trivial⟩
  ·cases hg
 ·cases hg
def u8? : At → Option Nat
 | .c (.int .u8 (.ofNat b)) => some b
 | _ => none
def QS : List At → Option (List Nat)
 | [] => some []
 | a :: r => match u8? a,QS r with | some x,some l => some (x :: l) | _,_ => none
theorem wK : ∀ {l : List At} {L : List Nat},QS l = some L → ∀ k,k < L.length → (aB l)[k]? = some (.int .u8 (Int.ofNat (L.getD k 0)))
 | [],L,h,k,hk => by cases h; exact absurd hk (by simp)
 | a :: r,L,h,k,hk => by
  unfold QS at h;split at h
  ·rename_i x l' h1 h2;cases h;have ha : a.cells = [.int .u8 (Int.ofNat x)]:=by
    unfold u8? at h1;split at h1
    ·cases h1; rfl
    ·cases h1
   show (a.cells ++ aB r)[k]? = _;rw [ha];cases k with
   | zero => rfl
   | succ k => exact wK h2 k (by simpa using hk)
  ·cases h
def L8 (L : List Nat) : Prop:=L.length = 32 ∧ ∀ k,L.getD k 0 < 256
def hv (L : List Nat) : Nat:=Go.Proofs.YtfnkbmlmgnadmaaGreat.JY (fun k => L.getD k 0) 0 32
def wl (N : Nat) : List At:=[.c (.int .u64 (Int.ofNat (fw N 0))),.c (.int .u64 (Int.ofNat (fw N 1))),.c (.int .u64 (Int.ofNat (fw N 2))),.c (.int .u64 (Int.ofNat (fw N 3)))]
def gRd : gC
 | [c] => match Ao c with
  | some (l,32) => (match QS l with | some L => some ([L8 (L.take 32)],.many [.fl (wl (hv (L.take 32))),.im (.int .i64 0)]) | none => none)
  | _ => none
 | _ => none
theorem aDn {L : List Nat} (h : L8 L) : hv L < 115792089237316195423570985008687907853269984665640564039457584007913129639936:=by
 have:=Jf (B:=fun k => L.getD k 0) h.2 0 32;exact Nat.lt_of_lt_of_le this (by decide)
theorem Sh {c : CA} {l : List At} {n : Nat} (h : Ao c = some (l,n)) {w : World} {v : Value} (hc : c.ok w v) : ∃ b o m,v = .slice (some ⟨b,o,none⟩) n m ∧ b < w.heap.size ∧ w.rangeAt b o (aB l):=by
 cases c with
 | v x => cases h
 | s l' n' m =>
  cases h;obtain ⟨b,o,e,hb,hr⟩:=hc;exact ⟨b,o,m,e,hb,hr⟩
 | so l' n' =>
  cases h;obtain ⟨b,o,m,e,hb,hr⟩:=hc;exact ⟨b,o,m,e,hb,hr⟩
theorem aAk : ∀ cs pre r,gRd cs = some (pre,r) → aQ pre → ∀ (args : List Value) (w : World),bH w cs args → Good prog 61 r args w:=by
 intro cs pre r hg hp args w ha;unfold gRd at hg;split at hg
 ·rename_i c;split at hg
  ·rename_i l hl;split at hg
   ·rename_i L hL;cases hg;have h8 : L8 (L.take 32):=hp.1;have hle : 32 ≤ L.length:=by have:=h8.1; rw [List.length_take] at this; omega
    have htk : ∀ k,k < 32 → (L.take 32).getD k 0 = L.getD k 0:=fun k hk => by rw [List.getD_eq_getElem?_getD,List.getElem?_take,if_pos hk,← List.getD_eq_getElem?_getD]
    match args,ha with
    | [v],ha =>
     obtain ⟨b,o,m,rfl,hb,hr⟩:=Sh hl (by have:=ha; cases c <;> exact this.1);have h:=Qb b o m (fun k => (L.take 32).getD k 0) h8.2 w hb fun k hk => hr k _ (by have h:=wK hL k (by omega); rw [← htk k hk] at h; exact h)
     refine h.mono ?_
     rintro e w' ⟨s0,s1,s2,s3,c',rfl,hs,⟨h1,rfl⟩,hbl⟩
     obtain ⟨rfl,rfl,rfl,rfl⟩:=fR hs (aDn h8) h1;exact ⟨rfl,hbl⟩
    | [],ha => cases c <;> exact ha.elim
    | _ :: _ :: _,ha => cases c <;> exact ha.2.elim
   ·cases hg
  ·cases hg
 ·cases hg
def bL (B : Nat → Nat) : List At:=[.c (.int .u8 (Int.ofNat (B 0))),.c (.int .u8 (Int.ofNat (B 1))),.c (.int .u8 (Int.ofNat (B 2))),.c (.int .u8 (Int.ofNat (B 3))),.c (.int .u8 (Int.ofNat (B 4))),.c (.int .u8 (Int.ofNat (B 5))),.c (.int .u8 (Int.ofNat (B 6))),.c (.int .u8 (Int.ofNat (B 7))),.c (.int .u8 (Int.ofNat (B 8))),.c (.int .u8 (Int.ofNat (B 9))),.c (.int .u8 (Int.ofNat (B 10))),.c (.int .u8 (Int.ofNat (B 11))),.c (.int .u8 (Int.ofNat (B 12))),.c (.int .u8 (Int.ofNat (B 13))),.c (.int .u8 (Int.ofNat (B 14))),.c (.int .u8 (Int.ofNat (B 15))),.c (.int .u8 (Int.ofNat (B 16))),.c (.int .u8 (Int.ofNat (B 17))),.c (.int .u8 (Int.ofNat (B 18))),.c (.int .u8 (Int.ofNat (B 19))),.c (.int .u8 (Int.ofNat (B 20))),.c (.int .u8 (Int.ofNat (B 21))),.c (.int .u8 (Int.ofNat (B 22))),.c (.int .u8 (Int.ofNat (B 23))),.c (.int .u8 (Int.ofNat (B 24))),.c (.int .u8 (Int.ofNat (B 25))),.c (.int .u8 (Int.ofNat (B 26))),.c (.int .u8 (Int.ofNat (B 27))),.c (.int .u8 (Int.ofNat (B 28))),.c (.int .u8 (Int.ofNat (B 29))),.c (.int .u8 (Int.ofNat (B 30))),.c (.int .u8 (Int.ofNat (B 31)))]
def bN (B : Nat → Nat) : List Nat:=[B 0,B 1,B 2,B 3,B 4,B 5,B 6,B 7,B 8,B 9,B 10,B 11,B 12,B 13,B 14,B 15,B 16,B 17,B 18,B 19,B 20,B 21,B 22,B 23,B 24,B 25,B 26,B 27,B 28,B 29,B 30,B 31]
def CL : gC
 | [.v (.im (.int .u8 (.ofNat m)))] => bif Nat.blt m 4 then some ([],.one (.im (.bool (Nat.beq m 2 || Nat.beq m 3)))) else none
 | _ => none
theorem ML : aT prog (qG prog) (fun _ => ⟨fun _ => T0,fun _ => true,fun _ => none⟩) f33 60 [.v (.im (.int .u8 0))] = some ([],.one (.im (.bool false))):=by kernel_rfl
theorem MK : aT prog (qG prog) (fun _ => ⟨fun _ => T0,fun _ => true,fun _ => none⟩) f33 60 [.v (.im (.int .u8 1))] = some ([],.one (.im (.bool false))):=by kernel_rfl
theorem MJ : aT prog (qG prog) (fun _ => ⟨fun _ => T0,fun _ => true,fun _ => none⟩) f33 60 [.v (.im (.int .u8 2))] = some ([],.one (.im (.bool true))):=by kernel_rfl
theorem MI : aT prog (qG prog) (fun _ => ⟨fun _ => T0,fun _ => true,fun _ => none⟩) f33 60 [.v (.im (.int .u8 3))] = some ([],.one (.im (.bool true))):=by kernel_rfl
theorem zI : ∀ cs pre r,CL cs = some (pre,r) → aQ pre → ∀ (args : List Value) (w : World),bH w cs args → Good prog 33 r args w:=by
 intro cs pre r hg hp args w ha;unfold CL at hg;split at hg
 ·rename_i m
  match m,hg with
  | 0,hg => cases hg; exact aC aF (fun _ _ => fS _) (aG prog) func33 ML trivial ha
  | 1,hg => cases hg; exact aC aF (fun _ _ => fS _) (aG prog) func33 MK trivial ha
  | 2,hg => cases hg; exact aC aF (fun _ _ => fS _) (aG prog) func33 MJ trivial ha
  | 3,hg => cases hg; exact aC aF (fun _ _ => fS _) (aG prog) func33 MI trivial ha
  | m + 4,hg =>
   have hb : Nat.blt (m + 4) 4 = false:=Bool.eq_false_iff.2 fun h => absurd (Nat.le_of_ble_eq_true h) (by omega)
   rw [hb] at hg;cases hg
 ·cases hg
def Mp : Tab:=(T0.add 61 gRd).add 33 CL
theorem TD : TabOk prog Mp:=((fS _).ad func61 aAk).ad func33 zI
def xT (a m : Nat) : Ext:=x3 Wk Mm (assoc [(33,.int .u8 (Int.ofNat m)),(84,.int .u64 (Int.ofNat (4 * a % 18446744073709551616))),(85,.int .u64 (Int.ofNat (a % 4611686018427387904)))]) (fun i => bif Nat.beq i 54 then some (2,[.q 0,.q 0]) else none)
theorem SE (a m : Nat) (w : World) : cL prog (qY prog (xT a m)) w.heap.size w:=oE (rR _) (nY _) w
def Um : Prop:=∃ e,∀ w : World,(Instr.makeSlice 61 (.int .i64 2) (.int .i64 2)).run prog w = .ok (.slice (some ⟨w.heap.size,0,none⟩) 2 2) (w.alloc (.cells (aB [.q 0,.q 0]).toArray e))
theorem BY : Um :=
 UJ (P:=prog) (t:=61) (e:=24) (z:=[.q 0]) (v:=.int .u64 0) (N:=2) (n:=4) (by8:=32) (by kernel_rfl) (by kernel_rfl) rfl (show aB [At.q 0] = List.replicate (aB [At.q 0]).length (Value.int .u64 0) from by kernel_rfl) (by omega) (by omega) (by omega)
theorem Pa (B : Nat → Nat) (c : Nat) : iX prog (qY prog (xT (fw (hv (bN B)) 3) 1)) (sD Mp) f32 100 [.s (bL B) 32 c,.v (.im (.int .i64 1))] = some ([xE .shr 5 (.tmp 32) (.const (.int .u64 6)) (.int .u8 (Int.ofNat (B 0))) (.int .u64 6) (.int .u8 (Int.ofNat 1)),Um,0 ≤ 32,32 ≤ c,0 < c,L8 (bN B),xE .shl 22 (.tmp 83) (.const (.int .u64 2)) (.int .u64 (Int.ofNat (fw (hv (bN B)) 3))) (.int .u64 2) (.int .u64 (Int.ofNat (4 * fw (hv (bN B)) 3 % 18446744073709551616))),xE .shr 22 (.tmp 84) (.const (.int .u64 2)) (.int .u64 (Int.ofNat (4 * fw (hv (bN B)) 3 % 18446744073709551616))) (.int .u64 2) (.int .u64 (Int.ofNat (fw (hv (bN B)) 3 % 4611686018427387904)))],⟨[.c (.int .u64 (Int.ofNat (fw (hv (bN B)) 0))),.c (.int .u64 (Int.ofNat (fw (hv (bN B)) 1))),.c (.int .u64 (Int.ofNat (fw (hv (bN B)) 2))),.c (.int .u64 (Int.ofNat (fw (hv (bN B)) 3 % 4611686018427387904))),.q 0],2,0,0,false,[.im (.int .u8 (Int.ofNat 1))],[.im (.int .i64 0)]⟩):=by kernel_rfl
theorem Oz (B : Nat → Nat) (c : Nat) : iX prog (qY prog (xT (fw (hv (bN B)) 3) 2)) (sD Mp) f32 100 [.s (bL B) 32 c,.v (.im (.int .i64 1))] = some ([xE .shr 5 (.tmp 32) (.const (.int .u64 6)) (.int .u8 (Int.ofNat (B 0))) (.int .u64 6) (.int .u8 (Int.ofNat 2)),Um,0 ≤ 32,32 ≤ c,0 < c,L8 (bN B),xE .shl 22 (.tmp 83) (.const (.int .u64 2)) (.int .u64 (Int.ofNat (fw (hv (bN B)) 3))) (.int .u64 2) (.int .u64 (Int.ofNat (4 * fw (hv (bN B)) 3 % 18446744073709551616))),xE .shr 22 (.tmp 84) (.const (.int .u64 2)) (.int .u64 (Int.ofNat (4 * fw (hv (bN B)) 3 % 18446744073709551616))) (.int .u64 2) (.int .u64 (Int.ofNat (fw (hv (bN B)) 3 % 4611686018427387904)))],⟨[.c (.int .u64 (Int.ofNat (fw (hv (bN B)) 0))),.c (.int .u64 (Int.ofNat (fw (hv (bN B)) 1))),.c (.int .u64 (Int.ofNat (fw (hv (bN B)) 2))),.c (.int .u64 (Int.ofNat (fw (hv (bN B)) 3 % 4611686018427387904))),.q 0],2,0,0,false,[.im (.int .u8 (Int.ofNat 2))],[.im (.int .i64 0)]⟩):=by kernel_rfl
theorem Oy (B : Nat → Nat) (c : Nat) : iX prog (qY prog (xT (fw (hv (bN B)) 3) 3)) (sD Mp) f32 100 [.s (bL B) 32 c,.v (.im (.int .i64 1))] = some ([xE .shr 5 (.tmp 32) (.const (.int .u64 6)) (.int .u8 (Int.ofNat (B 0))) (.int .u64 6) (.int .u8 (Int.ofNat 3)),Um,0 ≤ 32,32 ≤ c,0 < c,L8 (bN B),xE .shl 22 (.tmp 83) (.const (.int .u64 2)) (.int .u64 (Int.ofNat (fw (hv (bN B)) 3))) (.int .u64 2) (.int .u64 (Int.ofNat (4 * fw (hv (bN B)) 3 % 18446744073709551616))),xE .shr 22 (.tmp 84) (.const (.int .u64 2)) (.int .u64 (Int.ofNat (4 * fw (hv (bN B)) 3 % 18446744073709551616))) (.int .u64 2) (.int .u64 (Int.ofNat (fw (hv (bN B)) 3 % 4611686018427387904)))],⟨[.c (.int .u64 (Int.ofNat (fw (hv (bN B)) 0))),.c (.int .u64 (Int.ofNat (fw (hv (bN B)) 1))),.c (.int .u64 (Int.ofNat (fw (hv (bN B)) 2))),.c (.int .u64 (Int.ofNat (fw (hv (bN B)) 3 % 4611686018427387904))),.q 0],2,0,0,false,[.im (.int .u8 (Int.ofNat 3))],[.im (.int .i64 0)]⟩):=by kernel_rfl
theorem Pb (B : Nat → Nat) (c : Nat) : aT prog (qY prog (xT (fw (hv (bN B)) 3) 0)) (sD Mp) f32 100 [.s (bL B) 32 c,.v (.im (.int .i64 1))] = some ([xE .shr 5 (.tmp 32) (.const (.int .u64 6)) (.int .u8 (Int.ofNat (B 0))) (.int .u64 6) (.int .u8 (Int.ofNat 0))],.many [.im (.int .u8 0),.im (.slice none 0 0),.im (.int .i64 44)]):=by kernel_rfl
def xv (N : Nat) : Nat:=N % 28948022309329048855892746252171976963317496166410141009864396001978282409984
theorem Oc (N : Nat) : aB [.c (.int .u64 (Int.ofNat (fw N 0))),.c (.int .u64 (Int.ofNat (fw N 1))),.c (.int .u64 (Int.ofNat (fw N 2))),.c (.int .u64 (Int.ofNat (fw N 3 % 4611686018427387904))),.q 0] = aB [.q (xv N),.q 0]:=by
 have h0 : fw N 0 = fw (xv N) 0:=by
  show N / 1 % 18446744073709551616 = N % 28948022309329048855892746252171976963317496166410141009864396001978282409984 / 1 % 18446744073709551616;omega
 have h1 : fw N 1 = fw (xv N) 1:=by
  show N / 18446744073709551616 % 18446744073709551616 = N % 28948022309329048855892746252171976963317496166410141009864396001978282409984 / 18446744073709551616 % 18446744073709551616;omega
 have h2 : fw N 2 = fw (xv N) 2:=by
  show N / 340282366920938463463374607431768211456 % 18446744073709551616 = N % 28948022309329048855892746252171976963317496166410141009864396001978282409984 / 340282366920938463463374607431768211456 % 18446744073709551616;omega
 have h3 : fw N 3 % 4611686018427387904 = fw (xv N) 3:=by
  show N / 6277101735386680763835789423207666416102355444464034512896 % 18446744073709551616 % 4611686018427387904 = N % 28948022309329048855892746252171976963317496166410141009864396001978282409984 / 6277101735386680763835789423207666416102355444464034512896 % 18446744073709551616;omega
 rw [h0,h1,h2,h3];rfl
theorem wR {t : Nat} {x y : Operand} {a : Nat} (ha : a < 18446744073709551616) : xE .shl t x y (.int .u64 (Int.ofNat a)) (.int .u64 2) (.int .u64 (Int.ofNat (4 * a % 18446744073709551616))):=fun w => by
 simp only [Int.ofNat_eq_natCast];simp [eqGuard,binOp,go_sem];rw [show ∀ z : Int,IntKind.u64.wrap z = z % 18446744073709551616 from fun _ => rfl];omega
theorem wP {t : Nat} {x y : Operand} {a : Nat} (ha : a < 18446744073709551616) : xE .shr t x y (.int .u64 (Int.ofNat (4 * a % 18446744073709551616))) (.int .u64 2) (.int .u64 (Int.ofNat (a % 4611686018427387904))):=fun w => by
 simp only [Int.ofNat_eq_natCast];simp [eqGuard,binOp,go_sem];omega
theorem VV : ∀ {l : List At} {L : List Nat},QS l = some L → aB l = L.map fun b => Value.int .u8 (Int.ofNat b)
 | [],L,h => by cases h; rfl
 | a :: r,L,h => by
  unfold QS at h;split at h
  ·rename_i x l' h1 h2;cases h;have ha : a.cells = [.int .u8 (Int.ofNat x)]:=by
    unfold u8? at h1;split at h1
    ·cases h1; rfl
    ·cases h1
   show a.cells ++ aB r = _;rw [ha,VV h2];rfl
  ·cases h
theorem VZ : ∀ {L : List Nat},L.length = 32 → bN (fun k => L.getD k 0) = L
 | [a0,a1,a2,a3,a4,a5,a6,a7,a8,a9,a10,a11,a12,a13,a14,a15,a16,a17,a18,a19,a20,a21,a22,a23,a24,a25,a26,a27,a28,a29,a30,a31],_ => rfl
theorem aBI (B : Nat → Nat) : aB (bL B) = (bN B).map fun b => Value.int .u8 (Int.ofNat b):=rfl
theorem WA {l : List At} {L : List Nat} (h : QS l = some L) (h8 : L.length = 32) : aB l = aB (bL fun k => L.getD k 0):=by rw [VV h,aBI,VZ h8]
def gTk (m : Nat) : List CA → Option (List Prop × FS)
 | [.s l 32 c,.v (.im (.int .i64 (.ofNat 1)))] => match QS l with
  | some L => some ([L8 L,L.getD 0 0 / 64 = m,32 ≤ c],⟨[.q (xv (hv L)),.q 0],2,0,0,false,[.im (.int .u8 (Int.ofNat m))],[.im (.int .i64 0)]⟩)
  | none => none
 | _ => none
def aAe : gC
 | [.s l 32 c,.v (.im (.int .i64 (.ofNat 1)))] => match QS l with
  | some L => some ([L8 L,L.getD 0 0 / 64 = 0,32 ≤ c],.many [.im (.int .u8 0),.im (.slice none 0 0),.im (.int .i64 44)])
  | none => none
 | _ => none
theorem aDJ {w : World} {v : TV} {l l' : List At} {n c : Nat} (h : aB l = aB l') {args : List Value} (ha : bH w [.s l n c,.v v] args) : bH w [.s l' n c,.v v] args:=by
 match args,ha with
 | [s,u],ha => exact ⟨by obtain ⟨b,o,e,hb,hr⟩:=ha.1; exact ⟨b,o,e,hb,by rw [← h]; exact hr⟩,ha.2.1,trivial⟩
 | [],ha => exact ha.elim
 | [_],ha => exact ha.2.elim
 | _ :: _ :: _ :: _,ha => exact ha.2.2.elim
theorem rI (n k : Nat) : fw n k < 18446744073709551616:=Nat.mod_lt _ (by omega)
theorem aAd (m : Nat) (hm : m = 1 ∨ m = 2 ∨ m = 3) : ∀ cs pre r,gTk m cs = some (pre,r) → aQ pre → ∀ (args : List Value) (w : World),bH w cs args → Calls prog 32 args.toArray w (fun e w' => r.ok w e w'):=by
 intro cs pre r hg hp args w ha;unfold gTk at hg;split at hg
 ·rename_i l c;split at hg
  ·rename_i L hL;cases hg;obtain ⟨h8,hb,hc,_⟩:=hp;have ha':=aDJ (WA hL h8.1) ha;have hN:=VZ h8.1;have h64 : xE .shr 5 (.tmp 32) (.const (.int .u64 6)) (.int .u8 (Int.ofNat (L.getD 0 0))) (.int .u64 6) (.int .u8 (Int.ofNat m)):=by
    have:=LC (t:=5) (x:=.tmp 32) (y:=.const (.int .u64 6)) (h8.2 0);rw [hb] at this;exact this
   have fin : ∀ {e : Ending} {w' : World},(⟨[.c (.int .u64 (Int.ofNat (fw (hv L) 0))),.c (.int .u64 (Int.ofNat (fw (hv L) 1))),.c (.int .u64 (Int.ofNat (fw (hv L) 2))),.c (.int .u64 (Int.ofNat (fw (hv L) 3 % 4611686018427387904))),.q 0],2,0,0,false,[.im (.int .u8 (Int.ofNat m))],[.im (.int .i64 0)]⟩ : FS).ok w e w' → (⟨[.q (xv (hv L)),.q 0],2,0,0,false,[.im (.int .u8 (Int.ofNat m))],[.im (.int .i64 0)]⟩ : FS).ok w e w':=fun h => h.weak (Oc (hv L)).symm
   rcases hm with rfl | rfl | rfl
   ·have h:=bK aF (fun _ _ => TD.w _ _) (SE _ _ w) func32 (Pa (fun k => L.getD k 0) c) (by rw [hN]; exact ⟨h64,BY,by omega,hc,by omega,h8,wR (rI _ _),wP (rI _ _),trivial⟩) ha';rw [hN] at h;exact h.mono fun e w' h => fin h
   ·have h:=bK aF (fun _ _ => TD.w _ _) (SE _ _ w) func32 (Oz (fun k => L.getD k 0) c) (by rw [hN]; exact ⟨h64,BY,by omega,hc,by omega,h8,wR (rI _ _),wP (rI _ _),trivial⟩) ha';rw [hN] at h;exact h.mono fun e w' h => fin h
   ·have h:=bK aF (fun _ _ => TD.w _ _) (SE _ _ w) func32 (Oy (fun k => L.getD k 0) c) (by rw [hN]; exact ⟨h64,BY,by omega,hc,by omega,h8,wR (rI _ _),wP (rI _ _),trivial⟩) ha';rw [hN] at h;exact h.mono fun e w' h => fin h
  ·cases hg
 ·cases hg
theorem Sr : ∀ cs pre r,aAe cs = some (pre,r) → aQ pre → ∀ (args : List Value) (w : World),bH w cs args → Good prog 32 r args w:=by
 intro cs pre r hg hp args w ha;unfold aAe at hg;split at hg
 ·rename_i l c;split at hg
  ·rename_i L hL;cases hg;obtain ⟨h8,hb,hc,_⟩:=hp;have ha':=aDJ (WA hL h8.1) ha;have h64 : xE .shr 5 (.tmp 32) (.const (.int .u64 6)) (.int .u8 (Int.ofNat (L.getD 0 0))) (.int .u64 6) (.int .u8 (Int.ofNat 0)):=by
    have:=LC (t:=5) (x:=.tmp 32) (y:=.const (.int .u64 6)) (h8.2 0);rw [hb] at this;exact this
   exact bY aF (fun _ _ => TD.w _ _) (SE _ _ w) func32 (Pb (fun k => L.getD k 0) c) ⟨h64,trivial⟩ ha'
  ·cases hg
 ·cases hg
def Le (k : Bool) (x : Nat) : Fq:=bif k then F1.mul (F1.mul (m1 x) (m1 x)) (m1 x) else F1.zero
def gE3 (k : Bool) : gC
 | [.v (.im (.int .i64 (.ofNat 1))),.v (.fl l),.v (.fl m)] => match uL l with
  | some x => some ([(bif k then wv x < FP.M else ¬ wv x < FP.M),aB m = aB [.q 3]],.many [.fl (e1 (Le k x)),.im (.int .i64 (bif k then 0 else 21))])
  | none => none
 | _ => none
theorem aAx (k : Bool) : ∀ cs pre r,gE3 k cs = some (pre,r) → aQ pre → ∀ (args : List Value) (w : World),bH w cs args → Good prog 81 r args w:=by
 intro cs pre r hg hp args w ha;unfold gE3 at hg;split at hg
 ·rename_i l m;split at hg
  ·rename_i x hx;cases hg;obtain ⟨h1,h2,_⟩:=hp
   match args,ha with
   | [v,u,t],ha =>
    have e1 : v = .int .i64 1:=ha.1;have e2 : u = .agg (aB l).toArray:=ha.2.1;have e3 : t = .agg (aB m).toArray:=ha.2.2.1;rw [dG l _ hx] at e2;rw [h2] at e3;subst e1; subst e2; subst e3;cases k
    ·have h1' : ¬ aA (fw x 0) (fw x 1) (fw x 2) (fw x 3) < FP.M:=h1;exact (Kj 1 21 _ _ _ _ _ _ _ _ (bJ x) (bJ 3) (Or.inr ⟨FP,gA,h1',rfl⟩) w).mono fun e w' h => ⟨h.1.trans (show Ending.returned (Value.tuple #[.agg #[.int .u64 0,.int .u64 0,.int .u64 0,.int .u64 0],.int .i64 21]) = Ending.returned (RV.many [TV.fl (e1 F1.zero),TV.im (.int .i64 21)]).den from by kernel_rfl),h.2⟩
    ·have h1' : aA (fw x 0) (fw x 1) (fw x 2) (fw x 3) < FP.M:=h1;refine (Tf 1 FP gA _ _ _ _ _ _ _ _ (bJ x) (bJ 3) h1' w).mono ?_
     rintro e w' ⟨s0,s1,s2,s3,rfl,hs,hv,hb⟩
     have hv' : aA s0 s1 s2 s3 = (Le true x).1:=by
      rw [hv,QD (x:=3) (by omega)];have e4 : (m1 x).1 = wv x:=Nat.mod_eq_of_lt h1;show wv x ^ 3 % FP.M = (m1 x).1 * (m1 x).1 % FP.M * (m1 x).1 % FP.M;rw [e4,Nat.mod_mul_mod,Nat.pow_succ,Nat.pow_succ,Nat.pow_one]
     obtain ⟨rfl,rfl,rfl,rfl⟩:=fR hs (jS (Le true x).2) hv';exact ⟨rfl,hb⟩
   | [],ha => exact ha.elim
   | [_],ha => exact ha.2.elim
   | [_,_],ha => exact ha.2.2.elim
   | _ :: _ :: _ :: _ :: _,ha => exact ha.2.2.2.elim
  ·cases hg
 ·cases hg
theorem Ja {x : Fq} (h : UU x) : x.1 ^ (FP.M / 2) % FP.M = 1 ∨ x.1 = 0:=by
 rw [UT] at h;unfold PV at h
 by_cases h0 : x.1 = 0
 ·exact Or.inr h0
 ·rw [if_neg h0] at h
  by_cases h1 : x.1 ^ (FP.M / 2) % FP.M = 1
  ·exact Or.inl h1
  ·rw [if_neg h1] at h; exact absurd rfl h
theorem Hu {x : Fq} (h : ¬ UU x) : x.1 ≠ 0 ∧ x.1 ^ (FP.M / 2) % FP.M ≠ 1:=by
 rw [Ry] at h;unfold PV at h
 by_cases h0 : x.1 = 0
 ·rw [if_pos h0] at h; exact absurd h (by decide)
 ·rw [if_neg h0] at h;refine ⟨h0,fun e => ?_⟩;rw [if_pos e] at h;exact absurd h (by decide)
def Nl (d : Bool) (s : Fq) : Fq:=bif d then Ke s else F1.zero
theorem Er (s : Fq) : Nl true s = Ke s:=by unfold Nl; rw [cond_true]
def aAg (d : Bool) : gC
 | [.v (.im (.int .i64 (.ofNat 1))),.v (.fl l)] => match OV l with
  | some s => some ([(bif d then UU s else ¬ UU s)],.many [.fl (e1 (Nl d s)),.im (.int .i64 (bif d then 0 else 23))])
  | none => none
 | _ => none
theorem Ss (d : Bool) : ∀ cs pre r,aAg d cs = some (pre,r) → aQ pre → ∀ (args : List Value) (w : World),bH w cs args → Good prog 84 r args w:=by
 intro cs pre r hg hp args w ha;unfold aAg at hg;split at hg
 ·rename_i l;split at hg
  ·rename_i x hx;cases hg;obtain ⟨h,_⟩:=hp
   match args,ha with
   | [v,u],ha =>
    have e1' : v = .int .i64 1:=ha.1;have e2' : u = .agg (aB l).toArray:=ha.2.1;rw [fX l _ hx] at e2';subst e1'; subst e2';have hx : aA (fw x.1 0) (fw x.1 1) (fw x.1 2) (fw x.1 3) = x.1:=bU x.2;cases d
    ·obtain ⟨h0,h1⟩:=Hu h;refine (KG 1 FP gA _ _ _ _ (bJ x.1) (by rw [hx]; exact x.2) (by rw [hx]; exact h0) (by rw [hx]; exact h1) w).mono ?_
     rintro e w' ⟨s0,s1,s2,s3,rfl,hs,hv,hb⟩
     obtain ⟨rfl,rfl,rfl,rfl⟩:=fR hs (jS cV) hv;exact ⟨rfl,hb⟩
    ·show Calls _ _ _ _ _
     by_cases h0 : x.1 = 0
     ·refine (Ba 1 FP gA _ _ _ _ (bJ x.1) (by rw [hx]; exact x.2) (by rw [hx]; exact h0) w).mono ?_
      rintro e w' ⟨s0,s1,s2,s3,rfl,hs,hv,hb⟩
      have e3 : Nl true x = F1.zero:=(Er x).trans ((congrArg Ke (CN h0)).trans Kc);rw [e3];obtain ⟨rfl,rfl,rfl,rfl⟩:=fR hs (jS cV) hv;exact ⟨rfl,hb⟩
     ·refine (CM 1 FP gA _ _ _ _ (bJ x.1) (by rw [hx]; exact x.2) (by rw [hx]; exact h0) (by rw [hx]; exact (Ja h).resolve_right h0) w).mono ?_
      rintro e w' ⟨V,⟨s0,s1,s2,s3,rfl,hs,hv,hb⟩,h1,h2,h3⟩
      rw [hx] at h1;have e3 : Nl true x = ⟨V,h2⟩:=(Er x).trans (vV (Fin.ext h1) h3);rw [e3];obtain ⟨rfl,rfl,rfl,rfl⟩:=fR hs (jS h2) hv;exact ⟨rfl,hb⟩
   | [],ha => exact ha.elim
   | [_],ha => exact ha.2.elim
   | _ :: _ :: _ :: _,ha => exact ha.2.2.elim
  ·cases hg
 ·cases hg
def gNg : gC
 | [.v (.im (.int .i64 (.ofNat 1))),.v (.fl l)] => match OV l with
  | some s => some ([],.many [.fl (e1 (F1.neg s)),.im (.int .i64 0)])
  | none => none
 | _ => none
theorem aAo : ∀ cs pre r,gNg cs = some (pre,r) → aQ pre → ∀ (args : List Value) (w : World),bH w cs args → Good prog 85 r args w:=by
 intro cs pre r hg hp args w ha;unfold gNg at hg;split at hg
 ·rename_i l;split at hg
  ·rename_i x hx;cases hg
   match args,ha with
   | [v,u],ha =>
    have e1' : v = .int .i64 1:=ha.1;have e2' : u = .agg (aB l).toArray:=ha.2.1;rw [fX l _ hx] at e2';subst e1'; subst e2';have hx : aA (fw x.1 0) (fw x.1 1) (fw x.1 2) (fw x.1 3) = x.1:=bU x.2;refine (VA 1 FP gA _ _ _ _ (bJ x.1) (by rw [hx]; exact x.2) w).mono ?_
    rintro e w' ⟨s0,s1,s2,s3,rfl,hs,hv,hb⟩
    have hv' : aA s0 s1 s2 s3 = (F1.neg x).1:=by rw [hv,hx]; rfl
    obtain ⟨rfl,rfl,rfl,rfl⟩:=fR hs (jS (F1.neg x).2) hv';exact ⟨rfl,hb⟩
   | [],ha => exact ha.elim
   | [_],ha => exact ha.2.elim
   | _ :: _ :: _ :: _,ha => exact ha.2.2.elim
  ·cases hg
 ·cases hg
def aBU (k d : Bool) : Tab:=((eV.add 81 (gE3 k)).add 84 (aAg d)).add 85 gNg
theorem Vf (k d : Bool) : TabOk prog (aBU k d):=((dQ.ad func81 (aAx k)).ad func84 (Ss d)).ad func85 aAo
def SD (k : Bool) (x : Nat) : Fq:=F1.add (Le k x) (fm 3)
def gRt (m : Nat) (k d : Bool) (x : Nat) : List Prop:=[(bif k then wv x < FP.M else ¬ wv x < FP.M),(bif d then UU (SD k x) else ¬ UU (SD k x))]
def yX (m : Nat) (k d : Bool) (x : Nat) : Fq:=bif Nat.beq m 3 then F1.neg (Nl d (SD k x)) else Nl d (SD k x)
theorem Pd (k d : Bool) (x : Nat) : aT prog (qG prog) (sD (aBU k d)) f47 60 [.v (.fl [.q x]),.v (.im (.int .u8 2))] = some ([(bif k then wv x < FP.M else ¬ wv x < FP.M),aB (nq [.c (.int .u64 3),.c (.int .u64 0),.c (.int .u64 0),.c (.int .u64 0)]) = aB [.q 3],(bif d then UU (SD k x) else ¬ UU (SD k x))],.one (.fl (e1 (Nl d (SD k x))))):=by kernel_rfl
theorem Pc (k d : Bool) (x : Nat) : aT prog (qG prog) (sD (aBU k d)) f47 60 [.v (.fl [.q x]),.v (.im (.int .u8 3))] = some ([(bif k then wv x < FP.M else ¬ wv x < FP.M),aB (nq [.c (.int .u64 3),.c (.int .u64 0),.c (.int .u64 0),.c (.int .u64 0)]) = aB [.q 3],(bif d then UU (SD k x) else ¬ UU (SD k x))],.one (.fl (e1 (F1.neg (Nl d (SD k x)))))):=by kernel_rfl
def gRo (m : Nat) (k d : Bool) : gC
 | [.v (.fl l),.v (.im (.int .u8 (.ofNat m')))] => match uL l with
  | some x => bif Nat.beq m' m then some (gRt m k d x,.one (.fl (e1 (yX m k d x)))) else none
  | none => none
 | _ => none
theorem nq3 : aB (nq [.c (.int .u64 3),.c (.int .u64 0),.c (.int .u64 0),.c (.int .u64 0)]) = aB [.q 3]:=by kernel_rfl
theorem aAi (m : Nat) (hm : m = 2 ∨ m = 3) (k d : Bool) : ∀ cs pre r,gRo m k d cs = some (pre,r) → aQ pre → ∀ (args : List Value) (w : World),bH w cs args → Good prog 47 r args w:=by
 intro cs pre r hg hp args w ha;unfold gRo at hg;split at hg
 ·rename_i l m';split at hg
  ·rename_i x hx;cases hb : Nat.beq m' m <;> rw [hb] at hg
   ·cases hg
   ·have hmm:=Nat.eq_of_beq_eq_true hb;subst hmm;cases hg;have ha' : bH w [.v (.fl [.q x]),.v (.im (.int .u8 (Int.ofNat m')))] args:=by
     match args,ha with
     | [u,v],ha => exact ⟨by have h1 : u = .agg (aB l).toArray:=ha.1; rw [dG l _ hx] at h1; exact h1,ha.2.1,trivial⟩
     | [],ha => exact ha.elim
     | [_],ha => exact ha.2.elim
     | _ :: _ :: _ :: _,ha => exact ha.2.2.elim
    obtain ⟨h1,h2,_⟩:=hp
    rcases hm with rfl | rfl
    ·exact aC aF (fun _ _ => Vf k d) (aG prog) func47 (Pd k d x) ⟨h1,nq3,h2,trivial⟩ ha'
    ·exact aC aF (fun _ _ => Vf k d) (aG prog) func47 (Pc k d x) ⟨h1,nq3,h2,trivial⟩ ha'
  ·cases hg
 ·cases hg
def zG : List At:=[.f F1.zero,.f F1.zero,.c (.bool false)]
def aBX (k : Bool) : Tab:=eV.add 45 (gCk k)
theorem Vi (k : Bool) : TabOk prog (aBX k):=dQ.ad func45 (Kb Gc k)
theorem Ei (x y : Nat) (i : Bool) : aT prog (qG prog) (sD (aBX true)) f48 60 [.v (.fl (JZ (x,y,i))),.v (.im (.func (.func 45) #[] #[]))] = some ([(lY x y i).1 = 0],.many [.fl (JZ (x,y,i)),.im (.int .i64 0)]):=by kernel_rfl
theorem Ej (x y : Nat) (i : Bool) : aT prog (qG prog) (cfN (aBX false) 12) f48 60 [.v (.fl (JZ (x,y,i))),.v (.im (.func (.func 45) #[] #[]))] = some ([aI .neq .i64 (lY x y i).1 0 = some (.bool true)],.many [.fl zG,.im (.int .i64 (lY x y i).1)]):=by kernel_rfl
def oAl (a : Bool) (p : DY) : List Prop × RV:=bif a then ([(lY p.1 p.2.1 p.2.2).1 = 0],.many [.fl (JZ p),.im (.int .i64 0)]) else ([(lY p.1 p.2.1 p.2.2).1 ≠ 0],.many [.fl zG,.im (.int .i64 (lY p.1 p.2.1 p.2.2).1)])
def gAl (a : Bool) : gC
 | [.v (.fl l),.v (.im (.func (.func f) fi ca))] => match Yc l with
  | some p => bif Nat.beq f 45 && (Nat.beq fi.size 0 && Nat.beq ca.size 0) then some (oAl a p) else none
  | none => none
 | _ => none
theorem aAG (a : Bool) : ∀ cs pre r,gAl a cs = some (pre,r) → aQ pre → ∀ (args : List Value) (w : World),bH w cs args → Good prog 48 r args w:=by
 intro cs pre r hg hp args w ha;unfold gAl at hg;split at hg
 ·rename_i l f fi ca;split at hg
  ·rename_i p hx;cases hb : (Nat.beq f 45 && (Nat.beq fi.size 0 && Nat.beq ca.size 0)) <;> rw [hb] at hg
   ·cases hg
   ·simp only [Bool.and_eq_true] at hb;have hmm:=Nat.eq_of_beq_eq_true hb.1;subst hmm;have e5 : fi = #[]:=Array.eq_empty_of_size_eq_zero (Nat.eq_of_beq_eq_true hb.2.1);have e6 : ca = #[]:=Array.eq_empty_of_size_eq_zero (Nat.eq_of_beq_eq_true hb.2.2);subst e5; subst e6;have ha' : bH w [.v (.fl (JZ p)),.v (.im (.func (.func 45) #[] #[]))] args:=by
     match args,ha with
     | [u,v],ha => exact ⟨by have h1 : u = .agg (aB l).toArray:=ha.1; rw [uR l _ hx] at h1; exact h1,ha.2.1,trivial⟩
     | [],ha => exact ha.elim
     | [_],ha => exact ha.2.elim
     | _ :: _ :: _ :: _,ha => exact ha.2.2.elim
    obtain ⟨x,y,i⟩:=p;cases a
    ·cases hg;exact aC aF (fun _ _ => Vi false) (aG prog) func48 (Ej x y i) ⟨aBC hp.1,trivial⟩ ha'
    ·cases hg;exact aC aF (fun _ _ => Vi true) (aG prog) func48 (Ei x y i) ⟨hp.1,trivial⟩ ha'
  ·cases hg
 ·cases hg
def aDZ (m : Nat) (k d a : Bool) : Tab:=((T0.add 33 CL).add 47 (gRo m k d)).add 48 (gAl a)
theorem aCW (m : Nat) (hm : m = 2 ∨ m = 3) (k d a : Bool) : TabOk prog (aDZ m k d a):=(((fS _).ad func33 zI).ad func47 (aAi m hm k d)).ad func48 (aAG a)
def xK (m : Nat) : Ext:=x3 (Wk.add 32 (gTk m)) Mm (fun _ => none) (fun _ => none)
theorem aCk (m : Nat) (hm : m = 1 ∨ m = 2 ∨ m = 3) (w : World) : cL prog (qY prog (xK m)) w.heap.size w:=oE ((rR _).ad func32 (aAd m hm)) (nY _) w
def pTk (m : Nat) (B : Nat → Nat) (c : Nat) : List Prop:=[L8 (bN B),B 0 / 64 = m,32 ≤ c]
def Wf : Tab:=T0.add 32 aAe
theorem Zk : TabOk prog Wf:=(fS _).ad func32 Sr
theorem Pf (B : Nat → Nat) (c : Nat) : aT prog (qG prog) (sD Wf) f20 80 [.s (bL B) 32 c] = some (pTk 0 B c,.many [.fl zG,.im (.int .i64 44)]):=by kernel_rfl
theorem Pe (k d a : Bool) (B : Nat → Nat) (c : Nat) : aT prog (qY prog (xK 2)) (sD (aDZ 2 k d a)) f20 80 [.s (bL B) 32 c] = some (pTk 2 B c ++ gRt 2 k d (xv (hv (bN B))) ++ (oAl a (xv (hv (bN B)),(yX 2 k d (xv (hv (bN B)))).1,false)).1,(oAl a (xv (hv (bN B)),(yX 2 k d (xv (hv (bN B)))).1,false)).2):=by cases a <;> kernel_rfl
theorem aDK {w : World} {l l' : List At} {n c : Nat} (h : aB l = aB l') {args : List Value} (ha : bH w [.s l n c] args) : bH w [.s l' n c] args:=by
 match args,ha with
 | [s],ha => exact ⟨by obtain ⟨b,o,e,hb,hr⟩:=ha.1; exact ⟨b,o,e,hb,by rw [← h]; exact hr⟩,trivial⟩
 | [],ha => exact ha.elim
 | _ :: _ :: _,ha => exact ha.2.elim
theorem Qd {l : List At} {L : List Nat} {c : Nat} (hL : QS l = some L) (h8 : L8 L) (hb : L.getD 0 0 / 64 = 0) (hc : 32 ≤ c) (args : List Value) (w : World) (ha : bH w [.s l 32 c] args) : Good prog 20 (.many [.fl zG,.im (.int .i64 44)]) args w :=
 aC aF (fun _ _ => Zk) (aG prog) func20 (Pf (fun k => L.getD k 0) c) ⟨by rw [VZ h8.1]; exact h8,hb,hc,trivial⟩ (aDK (WA hL h8.1) ha)
theorem Ye {l : List At} {L : List Nat} {c : Nat} (k d a : Bool) (hL : QS l = some L) (h8 : L8 L) (hb : L.getD 0 0 / 64 = 2) (hc : 32 ≤ c) (hr : aQ (gRt 2 k d (xv (hv L)))) (hp : aQ (oAl a (xv (hv L),(yX 2 k d (xv (hv L))).1,false)).1) (args : List Value) (w : World) (ha : bH w [.s l 32 c] args) : Good prog 20 (oAl a (xv (hv L),(yX 2 k d (xv (hv L))).1,false)).2 args w:=by
 have hN:=VZ h8.1;have h:=bY aF (fun _ _ => (aCW 2 (Or.inl rfl) k d a).w _ _) (aCk 2 (Or.inr (Or.inl rfl)) w) func20 (Pe k d a (fun k => L.getD k 0) c) (bG.2 ⟨bG.2 ⟨⟨by rw [hN]; exact h8,hb,hc,trivial⟩,by rw [hN]; exact hr⟩,by rw [hN]; exact hp⟩) (aDK (WA hL h8.1) ha);rw [hN] at h;exact h
def TC : List Nat:=[128,0,0,0,0,0,0,0,0,0,0,0,0,0,0,0,0,0,0,0,0,0,0,0,0,0,0,0,0,0,0,1]
theorem PK : xv (hv TC) = 1:=by kernel_rfl
theorem Nr : wv 1 = 1:=by kernel_rfl
theorem aCh : SD true 1 = fm 4:=by unfold SD Le m1; rw [cond_true,Nr]; decide
theorem aCs : F1.mul (fm 2) (fm 2) = fm 4:=by decide
theorem y_2 : yX 2 true true 1 = fm 2:=by
 have h : Nl true (SD true 1) = fm 2:=by rw [Er,aCh]; exact vV aCs (by decide)
 unfold yX;rw [h];rfl
theorem aDm : UU (SD true 1):=by rw [aCh]; exact ⟨fm 2,aCs⟩
theorem Vy : (lY 1 2 false).1 = 0:=by
 have hb : tN 1 ∧ tN 2:=by unfold tN; exact ⟨by rw [Nr]; decide,by rw [show wv 2 = 2 from by kernel_rfl]; decide⟩
 rw [CY,if_neg (by decide),if_neg (fun h => h hb),if_pos (by unfold m1; rw [Nr,show wv 2 = 2 from by kernel_rfl]; decide)]
theorem aBf : (lY 0 0 true).1 = 0:=by
 have hz : Nn 0 ∧ Nn 0:=by unfold Nn; exact ⟨by kernel_rfl,by kernel_rfl⟩
 rw [CY,if_pos rfl,if_pos hz]
theorem Vp {L : List Nat} (h : L.length = 32) (h2 : L.all (fun b => Nat.blt b 256) = true) : L8 L:=⟨h,fun k => by
 rw [List.all_eq_true] at h2
 by_cases hk : k < L.length
 ·rw [List.getD_eq_getElem?_getD,List.getElem?_eq_getElem hk];exact Nat.le_of_ble_eq_true (h2 _ (List.getElem_mem hk))
 ·rw [List.getD_eq_getElem?_getD,List.getElem?_eq_none (by omega)];exact Nat.succ_pos _⟩
theorem Zw : L8 TC:=Vp rfl (by decide)
def gRA : gC
 | [.s l 32 c] => match QS l with
  | some L => bif Nat.beq (L.getD 0 0) 0 then some ([L8 L,L.getD 0 0 = 0,32 ≤ c],.many [.fl zG,.im (.int .i64 44)]) else some ([L = TC,32 ≤ c],.many [.fl (JZ (1,2,false)),.im (.int .i64 0)])
  | none => none
 | _ => none
theorem aAn : ∀ cs pre r,gRA cs = some (pre,r) → aQ pre → ∀ (args : List Value) (w : World),bH w cs args → Good prog 20 r args w:=by
 intro cs pre r hg hp args w ha;unfold gRA at hg;split at hg
 ·rename_i l c;split at hg
  ·rename_i L hL;cases hb : Nat.beq (L.getD 0 0) 0 <;> rw [hb] at hg
   ·cases hg;obtain ⟨h1,hc,_⟩:=hp;subst h1;have h:=Ye true true true hL Zw rfl hc (by rw [PK]; exact ⟨by show wv 1 < _; rw [Nr]; decide,aDm,trivial⟩) (by rw [PK,y_2]; exact ⟨Vy,trivial⟩) args w ha;rw [PK,y_2] at h;exact h
   ·cases hg;obtain ⟨h8,h0,hc,_⟩:=hp;exact Qd hL h8 (by rw [h0]) hc args w ha
  ·cases hg
 ·cases hg
def UX : gC
 | [.v (.im v)] => some ([],.one (.im v))
 | _ => none
theorem Ec (v : Value) : aT prog (qG prog) (fun _ => ⟨fun _ => T0,fun _ => true,fun _ => none⟩) f10 60 [.v (.im v)] = some ([],.one (.im v)):=by kernel_rfl
theorem KC : ∀ cs pre r,UX cs = some (pre,r) → aQ pre → ∀ (args : List Value) (w : World),bH w cs args → Good prog 10 r args w:=by
 intro cs pre r hg hp args w ha;unfold UX at hg;split at hg
 ·rename_i v;cases hg;exact aC aF (fun _ _ => fS _) (aG prog) func10 (Ec v) trivial ha
 ·cases hg
def oSA (c : Bool) (p : DY) : FS:=⟨bm (wv p.1) (Di c p.2.2),32,5,1,true,[],[.im (.int .i64 0)]⟩
theorem Yj (c : Bool) (p : DY) (hp : aQ (Zo c p)) (args : List Value) (w : World) (ha : bH w [.v (.fl (JZ p))] args) : Calls prog 18 args.toArray w (fun e w' => (oSA c p).ok w e w'):=by
 obtain ⟨h0,h1,h2,_⟩:=hp;obtain ⟨x,y,i⟩:=p;cases i
 ·exact bK aF (fun _ _ => (Vg true c).w _ _) (kB w) func18 (Dy x y c) ⟨h0,h1,h2,Dj c,trivial⟩ ha
 ·exact bK aF (fun _ _ => (Vg true c).w _ _) (kB w) func18 (Dx x y c) ⟨h0,h1,h2,by decide,trivial⟩ ha
def Nf : Tab:=(T0.add 10 UX).add 20 gRA
theorem Zl : TabOk prog Nf:=((fS _).ad func10 KC).ad func20 aAn
def xAl : Ext:=x3 (Wk.add 18 (gFS (Zo true) (oSA true))) Mm (fun _ => none) (fun i => bif Nat.beq i 22 then some (32,z8 32) else none)
theorem LM (w : World) : cL prog (qY prog xAl) w.heap.size w:=oE ((rR _).ad func18 (aAw fun p hp args w ha => Yj true p hp args w ha)) (nY _) w
def mF : Code:=(f14.body).getD .skip
theorem Ug : mF = .seq (cA mF) (.seq (cA (cB mF)) (cB (cB mF))):=by kernel_rfl
def aDW : List Fact:=[.slot 1 (.so 13 32),.row 13 true (bm (wv 1) 2),.app 13 5 1 32,.slot 2 (.im (.int .i64 0))]
def aDV (cap : Nat) : List Fact:=[.slot 1 (.sl 13 0 32 cap),.row 13 true (bm (wv 1) 2),.slot 2 (.im (.int .i64 0))]
theorem Holds.cap {nt base : Nat} {w0 : World} {A : List Fact} {a : Act} {w : World} (h : Holds nt base w0 A a w) {s k n e sz : Nat} (h1 : Fact.slot s (.so k n) ∈ A) (h2 : Fact.app k e sz n ∈ A) : ∃ cap,n ≤ cap ∧ Holds nt base w0 (.slot s (.sl k 0 n cap) :: A) a w:=by
 obtain ⟨β,g1,g2⟩:=h.facts;have e1:=g1 _ h1;have e2:=g1 _ h2;simp only [Fact.ok] at e1 e2;obtain ⟨cur,q1,q2,q3,q4⟩:=e2;refine ⟨(β k).2.2,q2,h.defers,h.size,h.below,h.heap,β,fun φ hφ => ?_,fun k1 k2 l1 l2 q1 q2 => ?_⟩
 ·rcases List.mem_cons.1 hφ with rfl | hφ
  ·show a.tmps[s]? = _;rw [e1];simp [AV.den]
  ·exact g1 φ hφ
 ·rcases List.mem_cons.1 q1 with q1 | q1
  ·cases q1
  ·rcases List.mem_cons.1 q2 with q2 | q2
   ·cases q2
   ·exact g2 k1 k2 l1 l2 q1 q2
theorem aDU : dE prog (qY prog xAl) f14.ntmps (sD Nf) 60 (cA mF) [] [] = some ([],.nrm,[]):=by kernel_rfl
theorem aDT : dE prog (qY prog xAl) f14.ntmps (sD Nf) 60 (cA (cB mF)) [] aDW = some (Zo true (1,2,false),.nrm,aDW):=by kernel_rfl
def z32 : List Nat:=[0,0,0,0,0,0,0,0,0,0,0,0,0,0,0,0,0,0,0,0,0,0,0,0,0,0,0,0,0,0,0,0]
theorem aDS (cap : Nat) : dE prog (qY prog xAl) f14.ntmps (sD Nf) 60 (cB (cB mF)) (aDV cap) [.slot 0 (.im (.bool true))] = some ([[aV (wv 1) 0 ||| 64 * 2,aV (wv 1) 1,aV (wv 1) 2,aV (wv 1) 3,aV (wv 1) 4,aV (wv 1) 5,aV (wv 1) 6,aV (wv 1) 7,aV (wv 1) 8,aV (wv 1) 9,aV (wv 1) 10,aV (wv 1) 11,aV (wv 1) 12,aV (wv 1) 13,aV (wv 1) 14,aV (wv 1) 15,aV (wv 1) 16,aV (wv 1) 17,aV (wv 1) 18,aV (wv 1) 19,aV (wv 1) 20,aV (wv 1) 21,aV (wv 1) 22,aV (wv 1) 23,aV (wv 1) 24,aV (wv 1) 25,aV (wv 1) 26,aV (wv 1) 27,aV (wv 1) 28,aV (wv 1) 29,aV (wv 1) 30,aV (wv 1) 31] = TC,32 ≤ cap,Mk 32,L8 z32,z32.getD 0 0 = 0,32 ≤ 32] ++ Zo true (0,0,true) ++ [aB (JZ (1,2,false)) = aB [.f (fm 1),.f (fm 2),.c (.bool false)]],.rt,[.slot 0 (.im (.bool true))]):=by kernel_rfl
theorem Zm : aQ (Zo true (1,2,false)):=⟨Vy,by show wv 2 < _; rw [show wv 2 = 2 from by kernel_rfl]; decide,by show fY _ (wv 2) = _; rw [show wv 2 = 2 from by kernel_rfl]; decide,trivial⟩
theorem Rv : aQ (Zo true (0,0,true)):=⟨aBf,by show wv 0 < _; rw [show wv 0 = 0 from by kernel_rfl]; decide,by show fY _ (wv 0) = _; rw [show wv 0 = 0 from by kernel_rfl]; decide,trivial⟩
theorem Mf (args : List Value) (w : World) (ha : bH w [] args) : Good prog 14 (.one (.im (.bool true))) args w:=by
 have hT : ∀ n d : Nat,TabOkW prog ((sD Nf n).T d) w.heap.size w:=fun _ _ => Zl.w _ _
 refine gP func14 (c:=mF) rfl ha (Nat.le_of_ble_eq_true (by kernel_rfl)) fun a w' hA => ?_
 rw [Ug];refine wp_seq (aU aF hT (LM w) aDU trivial hA fun a w' hA => ?_);refine wp_seq (aU aF hT (LM w) aDT Zm hA fun a w' hA => ?_);obtain ⟨cap,hc,hA⟩:=hA.cap (s:=1) (k:=13) (n:=32) (e:=5) (sz:=1) (List.mem_cons_self ..) (List.mem_cons_of_mem _ (List.mem_cons_of_mem _ (List.mem_cons_self ..)));have hA2 : Holds f14.ntmps w.heap.size w (aDV cap) a w':=hA.sub fun φ hφ => by
  rcases List.mem_cons.1 hφ with rfl | hφ
  ·exact List.mem_cons_self ..
  ·rcases List.mem_cons.1 hφ with rfl | hφ
   ·exact List.mem_cons_of_mem _ (List.mem_cons_of_mem _ (List.mem_cons_self ..))
   ·rcases List.mem_cons.1 hφ with rfl | hφ
    ·exact List.mem_cons_of_mem _ (List.mem_cons_of_mem _ (List.mem_cons_of_mem _ (List.mem_cons_of_mem _ (List.mem_cons_self ..))))
    ·cases hφ
 refine aU aF hT (LM w) (aDS cap) (bG.2 ⟨bG.2 ⟨⟨by kernel_rfl,hc,Ii 32 (by decide),Vp rfl (by decide),rfl,Nat.le_refl _,trivial⟩,Rv⟩,by kernel_rfl,trivial⟩) hA2 fun a w' hA => ?_
 exact iN (l:=[.im (.bool true)]) (r:=.one (.im (.bool true))) (by kernel_rfl) (by kernel_rfl) hA
def PZ : gC
 | [.v (.im (.slice none 0 0)),.v (.im (.slice none 0 0))] => some ([],.one (.im (.bool true)))
 | cs => Jo cs
theorem XP : aT prog (qG prog) (fun _ => ⟨fun _ => T0,fun _ => true,fun _ => none⟩) f13 60 [.v (.im (.slice none 0 0)),.v (.im (.slice none 0 0))] = some ([],.one (.im (.bool true))):=by kernel_rfl
theorem Av : ∀ cs pre r,PZ cs = some (pre,r) → aQ pre → ∀ (args : List Value) (w : World),bH w cs args → Good prog 13 r args w:=by
 intro cs pre r hg hp args w ha;unfold PZ at hg;split at hg
 ·cases hg;exact aC aF (fun _ _ => fS _) (aG prog) func13 XP trivial ha
 ·exact Jn _ _ _ hg hp args w ha
theorem SH {l : List At} {L : List Nat} {n : Nat} (h : QS l = some L) (hn : L.length = n) : ∃ P,U8s l n P ∧ U8s l n P :=
 have h1 : U8s l n fun k => Int.ofNat (L.getD k 0):=fun k hk => wK h k (by omega)
 ⟨_,h1,h1⟩
def QB : gC
 | [] => some ([],.one (.im (.bool true)))
 | _ => none
theorem Az : ∀ cs pre r,QB cs = some (pre,r) → aQ pre → ∀ (args : List Value) (w : World),bH w cs args → Good prog 14 r args w:=by
 intro cs pre r hg hp args w ha;unfold QB at hg;split at hg
 ·cases hg;exact Mf args w ha
 ·cases hg
def U8e (l : List At) (n : Nat) : Prop:=∃ P,U8s l n P ∧ U8s l n P
theorem wC (z : Int) : aI .eql .i64 z z = some (.bool true):=by
 show some (Value.bool (z == z)) = _;rw [beq_self_eq_true]
def KF : gC:=g1 OS fun p => ([dM p ≠ 0],.many [.im (.slice none 0 0),.im (.int .i64 (dM p))])
theorem pC {f : FuncId} {fn : Func} (hf : prog.funcs[f]? = some fn) {T : Tab} (hT : TabOk prog T) {s n : Nat} (h : ∀ p : dC,aT prog (qG prog) (cfN T s) fn n [.v (.fl (cS p))] = some (zD p)) :
  ∀ cs pre r,KF cs = some (pre,r) → aQ pre → ∀ (args : List Value) (w : World),bH w cs args → Good prog f r args w :=
 cG (op:=fun p => ([dM p ≠ 0],.many [.im (.slice none 0 0),.im (.int .i64 (dM p))])) fF fun p hp args w ha => Ub hf hT p (h p) hp.1 args w ha
def Mt (k : Bool) : Tab:=((((T0.add 10 UX).add 13 PZ).add 14 QB).add 11 (KD k)).add 12 (KD k)
theorem Gw (k : Bool) : TabOk prog (Mt k):=(((((fS _).ad func10 KC).ad func13 Av).ad func14 Az).ad func11 (pB SY k)).ad func12 (pB SS k)
def Ms : Tab:=((((Mt false).add 6 KF).add 8 KF).add 7 KF).add 9 KF
theorem Rk : TabOk prog Ms:=((((Gw false).ad func6 (pC func6 (qS false true) fun p => GC p)).ad func8 (pC func8 (qS false true) fun p => GN p)).ad func7 (pC func7 (lL false true) fun p => FL p)).ad func9 (pC func9 (lL false true) fun p => GB p)
def aCi (c : Bool) : Ext:=x3 ((((Wk.add 6 (Ay (qT c) (Ag c))).add 8 (Ay (qT c) Ah)).add 7 (Ay (qT c) (Ag c))).add 9 (Ay (qT c) Ah)) Mm (fun _ => none) (fun _ => none)
theorem No (c : Bool) (w : World) : cL prog (qY prog (aCi c)) w.heap.size w :=
 oE (((((rR _).ad func6 (tJ fun p hp args w ha => Yk c p hp args w ha)).ad func8 (tJ fun p hp args w ha => Yw c p hp args w ha)).ad func7 (tJ fun p hp args w ha => Ya c p hp args w ha)).ad func9 (tJ fun p hp args w ha => Yb c p hp args w ha)) (nY _) w
theorem XI (c : Bool) (p : dC) : aT prog (qY prog (aCi c)) (sD (Mt true)) f3 80 [.v (.fl (cS p))] = some (qT c p ++ qT c p ++ qT c p ++ qT c p ++ [dM p = 0,dM p = 0,64 = 64,64 < 4611686018427387904,U8e (Ag c p).l 64,128 = 128,128 < 4611686018427387904,U8e (Ah p).l 128],.one (.im (.bool true))):=by kernel_rfl
theorem XJ (p : dC) : aT prog (qG prog) (fun _ => ⟨fun _ => Ms,fun _ => true,assoc [(36,.bool true),(46,.bool true),(57,.bool true)]⟩) f3 80 [.v (.fl (cS p))] = some ([dM p ≠ 0,dM p ≠ 0,dM p ≠ 0,dM p ≠ 0,aI .eql .i64 (dM p) (dM p) = some (.bool true),aI .eql .i64 (dM p) (dM p) = some (.bool true),aI .eql .i64 (dM p) (dM p) = some (.bool true)],.one (.im (.bool true))):=by kernel_rfl
theorem aBq (n m k : Nat) : ∃ L,QS (bm n m ++ bl k) = some L ∧ L.length = 64:=⟨_,rfl,rfl⟩
theorem aBp (n m k j i : Nat) : ∃ L,QS (((bm n m ++ bl k) ++ bl j) ++ bl i) = some L ∧ L.length = 128:=⟨_,rfl,rfl⟩
theorem OY (p : dC) (w : World) : Calls prog 3 #[.agg (aB (cS p)).toArray] w (fun e w' => e = .returned (.bool true) ∧ Below w.heap.size w w'):=by
 have ha : bH w [.v (.fl (cS p))] [.agg (aB (cS p)).toArray]:=⟨rfl,trivial⟩
 by_cases h : dM p = 0
 ·have hc:=Zn h;have h1 : U8e (Ag (Vo p.2.1) p).l 64:=by
   obtain ⟨L,h1,h2⟩:=aBq (wv p.1.2) (Di (Vo p.2.1) p.2.2) (wv p.1.1);exact SH h1 h2
  have h2 : U8e (Ah p).l 128:=by
   obtain ⟨L,h1,h2⟩:=aBp (wv p.1.2) (bif p.2.2 then 1 else 0) (wv p.1.1) (wv p.2.1.2) (wv p.2.1.1);exact SH h1 h2
  exact bY aF (fun _ _ => (Gw true).w _ _) (No _ w) func3 (XI (Vo p.2.1) p) (bG.2 ⟨bG.2 ⟨bG.2 ⟨bG.2 ⟨hc,hc⟩,hc⟩,hc⟩,h,h,rfl,by decide,h1,rfl,by decide,h2,trivial⟩) ha
 ·exact aC aF (fun _ _ => Rk) (aG prog) func3 (XJ p) ⟨h,h,h,h,wC _,wC _,wC _,trivial⟩ ha
end Go.Proofs.YtfnkbmlmgnadmaaGreat.Ex
namespace Go.Proofs.YtfnkbmlmgnadmaaGreat
open Go.Proofs.Tryz
open Go.ChangeShapes Go.WideShapes Go.ChangeAt Go.RowKit
theorem JA : ownKnob prog.godebug = none:=by kernel_rfl
theorem Si : laidOutB prog = true:=by kernel_rfl
theorem WT : prog.cellsOf 22 = 1:=by kernel_rfl
theorem aDi {α : Type} (l : List α) (h : (⟨l⟩ : Array α).size = 4) : ∃ a b c d,l = [a,b,c,d]:=by
 match l,h with
 | [a,b,c,d],_ => exact ⟨a,b,c,d,rfl⟩
theorem mM {n : Int} (h : (Lit.int .u64 n).wf = true) : ∃ k : Nat,n = (k : Int) ∧ k < 18446744073709551616:=by
 obtain ⟨h1,h2⟩:=bounds_u64 h;obtain ⟨k,rfl⟩:=Int.eq_ofNat_of_zero_le h1;exact ⟨k,rfl,by omega⟩
end Go.Proofs.YtfnkbmlmgnadmaaGreat
namespace Go.Proofs.YtfnkbmlmgnadmaaGreat.Ex
open Go.Proofs.Tryz
open Go.Deep Go.ChangeShapes Go.WideShapes Go.ChangeAt Go.RowKit
theorem aBQ {P : Program} {W : World} {base : Nat} {t : TypeId} {fs : Array Field} {v : Value} (ht : P.underlying t = some (.struct fs)) (h : Value.okWide P W .any base t v) : ∃ cs,v = .agg cs:=by
 obtain ⟨cs,rfl,_⟩ : ∃ cs,v = .agg cs ∧ cs.size = P.cellsOf t ∧ Row.okWide P W .any base t cs:=by
  simpa [Value.okWide,ht] using h
 exact ⟨cs,rfl⟩
section
variable {H : Type} {enc : TypeId × Value → H} {W : World}
theorem c24 : prog.cellsOf 24 = 4:=by kernel_rfl
theorem c26 : prog.cellsOf 26 = 8:=by kernel_rfl
theorem Vd {fuel : Nat} {cs : List Value} {x : DataW H × List MemPlace} (hl : cs.length = 4) (h : DataW.trod enc prog W 0 (fun _ => true) true fuel 24 cs = some x) : ∃ n : Nat,cs = aB (q1 n):=by
 obtain ⟨c0,c1,c2,c3,rfl⟩:=aDi cs hl;obtain ⟨y0,y1,y2,y3,m,hx,hy0,hy1,hy2,hy3⟩:=trod_array4 underlying24 WT h;obtain ⟨x0,e0,rfl,w0⟩:=DataW.trod_int underlying22 hy0;obtain ⟨x1,e1,rfl,w1⟩:=DataW.trod_int underlying22 hy1;obtain ⟨x2,e2,rfl,w2⟩:=DataW.trod_int underlying22 hy2;obtain ⟨x3,e3,rfl,w3⟩:=DataW.trod_int underlying22 hy3;simp at e0 e1 e2 e3;obtain ⟨a0,rfl,k0⟩:=mM w0;obtain ⟨a1,rfl,k1⟩:=mM w1;obtain ⟨a2,rfl,k2⟩:=mM w2;obtain ⟨a3,rfl,k3⟩:=mM w3;subst e0 e1 e2 e3;have hv : aA a0 a1 a2 a3 < 115792089237316195423570985008687907853269984665640564039457584007913129639936:=by unfold aA; omega
 obtain ⟨q0,q1',q2',q3⟩:=fR ⟨k0,k1,k2,k3⟩ hv rfl;refine ⟨aA a0 a1 a2 a3,?_⟩;show _ = w4 (aA a0 a1 a2 a3);unfold w4;rw [← q0,← q1',← q2',← q3]
theorem Ve {fuel : Nat} {cs : List Value} {x : DataW H × List MemPlace} (h : DataW.trod enc prog W 0 (fun _ => true) true fuel 26 cs = some x) : ∃ n : N2,cs = aB (q2 n):=by
 obtain ⟨y0,y1,n,_,hl,h0,h1⟩:=trod_struct2 underlying26 h;rw [c26] at hl;simp only [c24] at h0 h1;obtain ⟨a,ha⟩:=Vd (by simp [hl]) h0;obtain ⟨b,hb⟩:=Vd (by simp [hl]) h1;refine ⟨(a,b),?_⟩;rw [List.drop_zero] at ha;rw [List.take_of_length_le (by simp [hl])] at hb;show cs = w4 a ++ (w4 b ++ []);rw [List.append_nil,← List.take_append_drop 4 cs];congr 1
 all_goals first | exact ha.trans (List.append_nil _) | exact hb.trans (List.append_nil _)
end
section
variable {H : Type} {enc : TypeId × Value → H} {W : World}
theorem cG2 : prog.cellsOf 28 = 17:=by kernel_rfl
theorem cBo : prog.cellsOf 4 = 1:=by kernel_rfl
theorem Xt {α : Type} (a b : Nat) (cs : List α) (h : cs.length = a + b + 1) : cs = cs.take a ++ ((cs.drop a).take b ++ (cs.drop (a + b)).take 1):=by
 have e : (cs.drop (a + b)).take 1 = cs.drop (a + b):=List.take_of_length_le (by simp [h]);rw [e,← List.drop_drop,List.take_append_drop,List.take_append_drop]
theorem aCU {fuel : Nat} {cs : List Value} {x : DataW H × List MemPlace} (h : DataW.trod enc prog W 0 (fun _ => true) true fuel 28 cs = some x) : ∃ n : dC,cs = aB (cS n):=by
 obtain ⟨y0,y1,y2,n,_,hl,h0,h1,h2⟩:=trod_struct3 underlying28 h;rw [cG2] at hl;simp only [c26,cBo] at h0 h1 h2;obtain ⟨a,ha⟩:=Ve h0;obtain ⟨b,hb⟩:=Ve h1;obtain ⟨c,hc,_⟩:=DataW.trod_bool underlying4 h2;refine ⟨(a,b,c),?_⟩;rw [Xt 8 8 cs hl,← List.drop_zero (l:=cs.take 8)];have e : aB (cS (a,b,c)) = aB (q2 a) ++ (aB (q2 b) ++ [.bool c]):=by
  show w4 a.1 ++ (w4 a.2 ++ (w4 b.1 ++ (w4 b.2 ++ _))) = (w4 a.1 ++ (w4 a.2 ++ [])) ++ ((w4 b.1 ++ (w4 b.2 ++ [])) ++ _);rw [List.append_nil,List.append_nil,List.append_assoc,List.append_assoc];rfl
 rw [e];rw [List.drop_zero] at ha;have hb' : (cs.drop 8).take 8 = aB (q2 b):=hb;have hc' : (cs.drop (8 + 8)).take 1 = [.bool c]:=hc;rw [List.drop_zero,ha,hb',hc']
theorem Rc {base : Nat} {v : Value} {d : DataW H} {ps : List MemPlace} {pt : Array TypeId} {args : Array Value} (hval : ∀ (j : Nat) t v,pt[j]? = some t → args[j]? = some v → Value.okWide prog W .any base t v) (j : Nat) (hj : pt[j]? = some 28) (ha : args[j]? = some v)
  (h : DataW.Trod enc prog W 0 (fun _ => true) true 28 v d ps) : ∃ x : dC,v = .agg (aB (cS x)).toArray:=by
 have hv:=hval j 28 v hj ha;obtain ⟨cs,rfl⟩:=aBQ (t:=28) underlying28 hv;obtain ⟨fuel,hf⟩:=h;obtain ⟨l⟩:=cs;obtain ⟨x,hx⟩:=aCU hf;subst hx;exact ⟨x,rfl⟩
end
end Go.Proofs.YtfnkbmlmgnadmaaGreat.Ex
