/- Pk11 -/
import Derived.Deep.DeepCutAuto
import Derived.LoopTactic
import Derived.Deep.LoopGhost
import Derived.RegionTactic
import Derived.Deep.RegionWith
import Derived.StillTail
import Derived.KernelRfl
import Derived.Test.YtfnkbmlmgnadmaaGreatPk10
import Derived.Test.YtfnkbmlmgnadmaaGreatPk03
import Derived.Test.YtfnkbmlmgnadmaaGreatPk04
import Derived.Test.YtfnkbmlmgnadmaaGreatPk07
import Derived.Test.YtfnkbmlmgnadmaaGreatPk00
import Derived.Test.YtfnkbmlmgnadmaaGreatPk06
import Derived.Test.YtfnkbmlmgnadmaaGreatPk08
import Derived.Test.YtfnkbmlmgnadmaaGreatPk02
set_option maxRecDepth 100000
set_option linter.unusedVariables false
set_option linter.unusedSimpArgs false
noncomputable section
namespace Go.Proofs.YtfnkbmlmgnadmaaGreat.Ex
open Go.Proofs.Tryz
open Go.RowKit
theorem Qq (B C : Nat → Nat) (c : Nat) : iR prog (qY prog (xT (fw (hv (bN B)) 3) 0)) (dM pY) f32 120 [.s (bL B ++ bL C) 64 c,.v (.im (.int .i64 1))] = some ([lO .shr 5 (.tmp 32) (.const (.int .u64 6)) (.int .u8 (Int.ofNat (B 0))) (.int .u64 6) (.int .u8 (Int.ofNat 0)),Cr,0 ≤ 32,32 ≤ c,0 < c,L8 (bN B),32 ≤ 64,64 ≤ c,32 < c,L8 (bN C),lO .shl 22 (.tmp 83) (.const (.int .u64 2)) (.int .u64 (Int.ofNat (fw (hv (bN B)) 3))) (.int .u64 2) (.int .u64 (Int.ofNat (4 * fw (hv (bN B)) 3 % 18446744073709551616))),lO .shr 22 (.tmp 84) (.const (.int .u64 2)) (.int .u64 (Int.ofNat (4 * fw (hv (bN B)) 3 % 18446744073709551616))) (.int .u64 2) (.int .u64 (Int.ofNat (fw (hv (bN B)) 3 % 4611686018427387904)))],⟨[.c (.int .u64 (Int.ofNat (fw (hv (bN B)) 0))),.c (.int .u64 (Int.ofNat (fw (hv (bN B)) 1))),.c (.int .u64 (Int.ofNat (fw (hv (bN B)) 2))),.c (.int .u64 (Int.ofNat (fw (hv (bN B)) 3 % 4611686018427387904)))] ++ wl (hv (bN C)),2,0,0,false,[.im (.int .u8 (Int.ofNat 0))],[.im (.int .i64 0)]⟩):=by kernel_rfl
theorem Qp (B C : Nat → Nat) (c : Nat) : iR prog (qY prog (xT (fw (hv (bN B)) 3) 1)) (dM pY) f32 120 [.s (bL B ++ bL C) 64 c,.v (.im (.int .i64 1))] = some ([lO .shr 5 (.tmp 32) (.const (.int .u64 6)) (.int .u8 (Int.ofNat (B 0))) (.int .u64 6) (.int .u8 (Int.ofNat 1)),Cr,0 ≤ 32,32 ≤ c,0 < c,L8 (bN B),32 ≤ 64,64 ≤ c,32 < c,L8 (bN C),lO .shl 22 (.tmp 83) (.const (.int .u64 2)) (.int .u64 (Int.ofNat (fw (hv (bN B)) 3))) (.int .u64 2) (.int .u64 (Int.ofNat (4 * fw (hv (bN B)) 3 % 18446744073709551616))),lO .shr 22 (.tmp 84) (.const (.int .u64 2)) (.int .u64 (Int.ofNat (4 * fw (hv (bN B)) 3 % 18446744073709551616))) (.int .u64 2) (.int .u64 (Int.ofNat (fw (hv (bN B)) 3 % 4611686018427387904)))],⟨[.c (.int .u64 (Int.ofNat (fw (hv (bN B)) 0))),.c (.int .u64 (Int.ofNat (fw (hv (bN B)) 1))),.c (.int .u64 (Int.ofNat (fw (hv (bN B)) 2))),.c (.int .u64 (Int.ofNat (fw (hv (bN B)) 3 % 4611686018427387904)))] ++ wl (hv (bN C)),2,0,0,false,[.im (.int .u8 (Int.ofNat 1))],[.im (.int .i64 0)]⟩):=by kernel_rfl
theorem Qo (B C : Nat → Nat) (c : Nat) : aU prog (qY prog (xT (fw (hv (bN B)) 3) 2)) (dM pY) f32 120 [.s (bL B ++ bL C) 64 c,.v (.im (.int .i64 1))] = some ([lO .shr 5 (.tmp 32) (.const (.int .u64 6)) (.int .u8 (Int.ofNat (B 0))) (.int .u64 6) (.int .u8 (Int.ofNat 2))],.many [.im (.int .u8 0),.im (.slice none 0 0),.im (.int .i64 44)]):=by kernel_rfl
theorem Qn (B C : Nat → Nat) (c : Nat) : aU prog (qY prog (xT (fw (hv (bN B)) 3) 3)) (dM pY) f32 120 [.s (bL B ++ bL C) 64 c,.v (.im (.int .i64 1))] = some ([lO .shr 5 (.tmp 32) (.const (.int .u64 6)) (.int .u8 (Int.ofNat (B 0))) (.int .u64 6) (.int .u8 (Int.ofNat 3))],.many [.im (.int .u8 0),.im (.slice none 0 0),.im (.int .i64 44)]):=by kernel_rfl
theorem oM (N : Nat) : aA (wl N) = aA [.q N]:=rfl
theorem TS (N M : Nat) : aA ([.c (.int .u64 (Int.ofNat (fw N 0))),.c (.int .u64 (Int.ofNat (fw N 1))),.c (.int .u64 (Int.ofNat (fw N 2))),.c (.int .u64 (Int.ofNat (fw N 3 % 4611686018427387904)))] ++ wl M) = aA [.q (xv N),.q M]:=by
 have h:=BR N;have e : ∀ l : List At,aA (l ++ [.q 0]) = aA l ++ aA [.q 0]:=fun l => aH _ _
 have h1 : aA [.c (.int .u64 (Int.ofNat (fw N 0))),.c (.int .u64 (Int.ofNat (fw N 1))),.c (.int .u64 (Int.ofNat (fw N 2))),.c (.int .u64 (Int.ofNat (fw N 3 % 4611686018427387904)))] = aA [.q (xv N)]:=by
  apply List.append_cancel_right (bs:=aA [.q 0]);rw [← aH,← aH];exact h
 rw [aH,h1,oM,← aH];rfl
def L6 (L : List Nat) : Prop:=L8 (L.take 32) ∧ L8 (L.drop 32)
def hi (L : List Nat) : Nat:=xv (hv (L.take 32))
def lo (L : List Nat) : Nat:=hv (L.drop 32)
def gTl (m : Nat) : List CA → Option (List Prop × FS)
 | [.s l 64 c,.v (.im (.int .i64 (.ofNat 1)))] => match lN l with
  | some L => some ([L6 L,(L.take 32).getD 0 0 / 64 = m,64 ≤ c],⟨[.q (hi L),.q (lo L)],2,0,0,false,[.im (.int .u8 (Int.ofNat m))],[.im (.int .i64 0)]⟩)
  | none => none
 | _ => none
def aBB (m : Nat) : gE
 | [.s l 64 c,.v (.im (.int .i64 (.ofNat 1)))] => match lN l with
  | some L => some ([L6 L,(L.take 32).getD 0 0 / 64 = m,64 ≤ c],.many [.im (.int .u8 0),.im (.slice none 0 0),.im (.int .i64 44)])
  | none => none
 | _ => none
theorem jT {l : List At} {L : List Nat} (h : lN l = some L) (h6 : L6 L) : aA l = aA (bL (fun k => (L.take 32).getD k 0) ++ bL fun k => (L.drop 32).getD k 0):=by
 rw [uL h,aH,oG,oG,cT h6.1.1,cT h6.2.1,← List.map_append,List.take_append_drop]
theorem TY {L : List Nat} (h8 : L8 L) {m : Nat} (hb : L.getD 0 0 / 64 = m) : lO .shr 5 (.tmp 32) (.const (.int .u64 6)) (.int .u8 (Int.ofNat (L.getD 0 0))) (.int .u64 6) (.int .u8 (Int.ofNat m)):=by
 have:=xM (t:=5) (x:=.tmp 32) (y:=.const (.int .u64 6)) (h8.2 0);rw [hb] at this;exact this
theorem aBA (m : Nat) (hm : m = 0 ∨ m = 1) : ∀ cs pre r,gTl m cs = some (pre,r) → aL pre → ∀ (args : List Value) (w : World),bD w cs args → Calls prog 32 args.toArray w (fun e w' => r.ok w e w'):=by
 intro cs pre r hg hp args w ha;unfold gTl at hg;split at hg
 ·rename_i l c;split at hg
  ·rename_i L hL;cases hg;obtain ⟨h6,hb,hc,_⟩:=hp;have ha':=Cm (jT hL h6) ha;have hN:=cT h6.1.1;have hM:=cT h6.2.1;have zB:=TY h6.1 hb
   rcases hm with rfl | rfl
   ·have h:=bE aG (fun _ _ => kC.w _ _) (sE _ _ w) func32 (Qq (fun k => (L.take 32).getD k 0) (fun k => (L.drop 32).getD k 0) c) (by rw [hN,hM]; exact ⟨zB,pF,by omega,by omega,by omega,h6.1,by omega,hc,by omega,h6.2,kO (gX _ _),kN (gX _ _),trivial⟩) ha';rw [hN,hM] at h;exact h.mono fun e w' h => h.weak (TS _ _).symm
   ·have h:=bE aG (fun _ _ => kC.w _ _) (sE _ _ w) func32 (Qp (fun k => (L.take 32).getD k 0) (fun k => (L.drop 32).getD k 0) c) (by rw [hN,hM]; exact ⟨zB,pF,by omega,by omega,by omega,h6.1,by omega,hc,by omega,h6.2,kO (gX _ _),kN (gX _ _),trivial⟩) ha';rw [hN,hM] at h;exact h.mono fun e w' h => h.weak (TS _ _).symm
  ·cases hg
 ·cases hg
theorem Uu (m : Nat) (hm : m = 2 ∨ m = 3) : ∀ cs pre r,aBB m cs = some (pre,r) → aL pre → ∀ (args : List Value) (w : World),bD w cs args → Good prog 32 r args w:=by
 intro cs pre r hg hp args w ha;unfold aBB at hg;split at hg
 ·rename_i l c;split at hg
  ·rename_i L hL;cases hg;obtain ⟨h6,hb,hc,_⟩:=hp;have ha':=Cm (jT hL h6) ha;have zB:=TY h6.1 hb
   rcases hm with rfl | rfl
   ·exact bA aG (fun _ _ => kC.w _ _) (sE _ _ w) func32 (Qo (fun k => (L.take 32).getD k 0) (fun k => (L.drop 32).getD k 0) c) ⟨zB,trivial⟩ ha'
   ·exact bA aG (fun _ _ => kC.w _ _) (sE _ _ w) func32 (Qn (fun k => (L.take 32).getD k 0) (fun k => (L.drop 32).getD k 0) c) ⟨zB,trivial⟩ ha'
  ·cases hg
 ·cases hg
def xL (m : Nat) : Ext:=x3 (TD.add 32 (gTl m)) FQ (fun _ => none) (fun _ => none)
theorem Xl (m : Nat) (hm : m = 0 ∨ m = 1) (w : World) : bU prog (qY prog (xL m)) w.heap.size w:=lG ((hJ _).ad func32 (aBA m hm)) (fZ _) w
def pTl (m : Nat) (B C : Nat → Nat) (c : Nat) : List Prop:=[L6 (bN B ++ bN C),B 0 / 64 = m,64 ≤ c]
def Zi (m : Nat) : Tab:=T0.add 32 (aBB m)
theorem aBb (m : Nat) (hm : m = 2 ∨ m = 3) : TabOk prog (Zi m):=(eW _).ad func32 (Uu m hm)
theorem Qy (m : Nat) (B C : Nat → Nat) (c : Nat) : aU prog (qG prog) (dM (Zi m)) f20 80 [.s (bL B ++ bL C) 64 c] = some (pTl m B C c,.many [.fl zG,.im (.int .i64 44)]):=by kernel_rfl
theorem Fc (a : Bool) (B C : Nat → Nat) (c : Nat) : aU prog (qY prog (xL 0)) (dM (Cq 2 true true a)) f20 80 [.s (bL B ++ bL C) 64 c] = some (pTl 0 B C c ++ (nC a (hi (bN B ++ bN C),lo (bN B ++ bN C),false)).1,(nC a (hi (bN B ++ bN C),lo (bN B ++ bN C),false)).2):=by cases a <;> kernel_rfl
theorem Qx (a : Bool) (B C : Nat → Nat) (c : Nat) : aU prog (qY prog (xL 1)) (dM (Cq 2 true true a)) f20 80 [.s (bL B ++ bL C) 64 c] = some (pTl 1 B C c ++ (nC a (hi (bN B ++ bN C),lo (bN B ++ bN C),true)).1,(nC a (hi (bN B ++ bN C),lo (bN B ++ bN C),true)).2):=by cases a <;> kernel_rfl
def cfO : Nat → Cfg:=fun _ => ⟨fun _ => T0,fun _ => true,fun n => bif Nat.beq n 23 then some (.bool true) else bif Nat.beq n 28 then some (.bool true) else none⟩
theorem aAx (p : Option Addr) (n c : Nat) : aU prog (qG prog) cfO f32 120 [.v (.im (.slice p n c)),.v (.im (.int .i64 1))] = some ([aP .neq .i64 (n : Int) 32 = some (.bool true),aP .neq .i64 (n : Int) 64 = some (.bool true)],.many [.im (.int .u8 0),.im (.slice none 0 0),.im (.int .i64 3)]):=by kernel_rfl
def gTo : gE
 | [.v (.im (.slice p n c)),.v (.im (.int .i64 (.ofNat 1)))] => some ([n ≠ 32,n ≠ 64],.many [.im (.int .u8 0),.im (.slice none 0 0),.im (.int .i64 3)])
 | _ => none
theorem Yn {n k : Nat} (h : n ≠ k) : aP .neq .i64 (n : Int) (k : Int) = some (.bool true):=by
 show some (Value.bool ((n : Int) != (k : Int))) = _;rw [bne_iff_ne.2 (by omega)]
theorem aBz : ∀ cs pre r,gTo cs = some (pre,r) → aL pre → ∀ (args : List Value) (w : World),bD w cs args → Good prog 32 r args w:=by
 intro cs pre r hg hp args w ha;unfold gTo at hg;split at hg
 ·rename_i p n c;cases hg;exact aD aG (fun _ _ => eW _) (aK prog) func32 (aAx p n c) ⟨Yn hp.1,Yn hp.2.1,trivial⟩ ha
 ·cases hg
theorem aAz (p : Option Addr) (n c : Nat) : aU prog (qG prog) (dM (T0.add 32 gTo)) f20 80 [.v (.im (.slice p n c))] = some ([n ≠ 32,n ≠ 64],.many [.fl zG,.im (.int .i64 3)]):=by kernel_rfl
theorem JH (p : Option Addr) (n c : Nat) (h1 : n ≠ 32) (h2 : n ≠ 64) (w : World) : Good prog 20 (.many [.fl zG,.im (.int .i64 3)]) [.slice p n c] w :=
 aD aG (fun _ _ => (eW _).ad func32 aBz) (aK prog) func20 (aAz p n c) ⟨h1,h2,trivial⟩ ⟨rfl,trivial⟩
theorem UF {l : List At} {L : List Nat} {c m : Nat} (hm : m = 2 ∨ m = 3) (hL : lN l = some L) (h6 : L6 L) (hb : (L.take 32).getD 0 0 / 64 = m) (hc : 64 ≤ c) (args : List Value) (w : World) (ha : bD w [.s l 64 c] args) : Good prog 20 (.many [.fl zG,.im (.int .i64 44)]) args w :=
 aD aG (fun _ _ => aBb m hm) (aK prog) func20 (Qy m (fun k => (L.take 32).getD k 0) (fun k => (L.drop 32).getD k 0) c) ⟨by rw [cT h6.1.1,cT h6.2.1,List.take_append_drop]; exact h6,hb,hc,trivial⟩ (tJ (jT hL h6) ha)
theorem tQ {l : List At} {L : List Nat} {c : Nat} (a : Bool) (hL : lN l = some L) (h6 : L6 L) (hb : (L.take 32).getD 0 0 / 64 = 0) (hc : 64 ≤ c) (hp : aL (nC a (hi L,lo L,false)).1) (args : List Value) (w : World) (ha : bD w [.s l 64 c] args) : Good prog 20 (nC a (hi L,lo L,false)).2 args w:=by
 have hN : bN (fun k => (L.take 32).getD k 0) ++ bN (fun k => (L.drop 32).getD k 0) = L:=by rw [cT h6.1.1,cT h6.2.1,List.take_append_drop]
 have h:=bA aG (fun _ _ => (KL 2 (Or.inl rfl) true true a).w _ _) (Xl 0 (Or.inl rfl) w) func20 (Fc a (fun k => (L.take 32).getD k 0) (fun k => (L.drop 32).getD k 0) c) (aW.2 ⟨⟨by rw [hN]; exact h6,hb,hc,trivial⟩,by rw [hN]; exact hp⟩) (tJ (jT hL h6) ha);rw [hN] at h;exact h
theorem PV {l : List At} {L : List Nat} {c : Nat} (a : Bool) (hL : lN l = some L) (h6 : L6 L) (hb : (L.take 32).getD 0 0 / 64 = 1) (hc : 64 ≤ c) (hp : aL (nC a (hi L,lo L,true)).1) (args : List Value) (w : World) (ha : bD w [.s l 64 c] args) : Good prog 20 (nC a (hi L,lo L,true)).2 args w:=by
 have hN : bN (fun k => (L.take 32).getD k 0) ++ bN (fun k => (L.drop 32).getD k 0) = L:=by rw [cT h6.1.1,cT h6.2.1,List.take_append_drop]
 have h:=bA aG (fun _ _ => (KL 2 (Or.inl rfl) true true a).w _ _) (Xl 1 (Or.inr rfl) w) func20 (Qx a (fun k => (L.take 32).getD k 0) (fun k => (L.drop 32).getD k 0) c) (aW.2 ⟨⟨by rw [hN]; exact h6,hb,hc,trivial⟩,by rw [hN]; exact hp⟩) (tJ (jT hL h6) ha);rw [hN] at h;exact h
def bz (B : Nat → Nat) : Nat → Nat:=fun k => if k = 0 then B 0 &&& 63 else B k
def lB (L : List Nat) (k : Nat) : Nat:=L.getD k 0
def zN (B : Nat → Nat) : List Nat:=(B 0 &&& 63) :: (bN B).tail
def p64 (m : Nat) (B C : Nat → Nat) : List Prop:=[L6 (bN B ++ bN C),B 0 / 64 = m]
def x0 : Ext:=x3 TD FQ (fun _ => none) (fun _ => none)
def qC (f : FuncId) (cs : List CA) (r : RV) : Prop:=∀ (args : List Value) (w : World),bD w cs args → Good prog f r args w
def Oz (f : FuncId) (cs : List CA) (r : FS) : Prop:=∀ (args : List Value) (w : World),bD w cs args → Calls prog f args.toArray w (fun e w' => r.ok w e w')
def WJ (f : FuncId) (r : RV) : gE:=fun cs => some ([qC f cs r],r)
def Lf (f : FuncId) (r : FS) : List CA → Option (List Prop × FS):=fun cs => some ([Oz f cs r],r)
theorem wP (f : FuncId) (r0 : RV) : ∀ cs pre r,WJ f r0 cs = some (pre,r) → aL pre → ∀ (args : List Value) (w : World),bD w cs args → Good prog f r args w:=by
 intro cs pre r hg hp args w ha;cases hg;exact hp.1 args w ha
theorem LR (f : FuncId) (r0 : FS) : ∀ cs pre r,Lf f r0 cs = some (pre,r) → aL pre → ∀ (args : List Value) (w : World),bD w cs args → Calls prog f args.toArray w (fun e w' => r.ok w e w'):=by
 intro cs pre r hg hp args w ha;cases hg;exact hp.1 args w ha
def xU (a m : Nat) : Ext:=x3 TD FQ (assoc [(33,.int .u8 (Int.ofNat m)),(84,.int .u64 (Int.ofNat (4 * a % 18446744073709551616))),(85,.int .u64 (Int.ofNat (a % 4611686018427387904)))]) (fun i => bif Nat.beq i 54 then some (4,[.q 0,.q 0,.q 0,.q 0]) else none)
theorem FW (a m : Nat) (w : World) : bU prog (qY prog (xU a m)) w.heap.size w:=lG (hJ _) (fZ _) w
def aGz : Prop:=∃ e,∀ w : World,(Instr.makeSlice 61 (.int .i64 4) (.int .i64 4)).run prog w = .ok (.slice (some ⟨w.heap.size,0,none⟩) 4 4) (w.alloc (.cells (aA [.q 0,.q 0,.q 0,.q 0]).toArray e))
theorem Tx : aGz :=
 KY (P:=prog) (t:=61) (e:=24) (z:=[.q 0]) (v:=.int .u64 0) (N:=4) (n:=4) (by8:=32) (by kernel_rfl) (by kernel_rfl) rfl (show aA [At.q 0] = List.replicate (aA [At.q 0]).length (Value.int .u64 0) from by kernel_rfl) (by omega) (by omega) (by omega)
def Yu (N : Nat) : List At:=[.c (.int .u64 (Int.ofNat (fw N 0))),.c (.int .u64 (Int.ofNat (fw N 1))),.c (.int .u64 (Int.ofNat (fw N 2))),.c (.int .u64 (Int.ofNat (fw N 3 % 4611686018427387904)))]
def ukP (B : Nat → Nat) (m : Nat) (mid : List Prop) : List Prop:=[lO .shr 5 (.tmp 32) (.const (.int .u64 6)) (.int .u8 (Int.ofNat (B 0))) (.int .u64 6) (.int .u8 (Int.ofNat m)),aGz] ++ mid ++ [lO .shl 22 (.tmp 83) (.const (.int .u64 2)) (.int .u64 (Int.ofNat (fw (hv (bN B)) 3))) (.int .u64 2) (.int .u64 (Int.ofNat (4 * fw (hv (bN B)) 3 % 18446744073709551616))),lO .shr 22 (.tmp 84) (.const (.int .u64 2)) (.int .u64 (Int.ofNat (4 * fw (hv (bN B)) 3 % 18446744073709551616))) (.int .u64 2) (.int .u64 (Int.ofNat (fw (hv (bN B)) 3 % 4611686018427387904)))]
def VU (B C : Nat → Nat) (c : Nat) : List Prop:=[0 ≤ 32,32 ≤ c,0 < c,L8 (bN B),32 ≤ 64,64 ≤ c,32 < c,L8 (bN C)]
def QY (B C D E : Nat → Nat) (c : Nat) : List Prop:=[0 ≤ 32,32 ≤ c,0 < c,L8 (bN B),32 ≤ 64,64 ≤ c,32 < c,L8 (bN C),64 ≤ 96,96 ≤ c,64 < c,L8 (bN D),96 ≤ 128,128 ≤ c,96 < c,L8 (bN E)]
def bL4 (B C D E : Nat → Nat) : List At:=(bL B ++ bL C) ++ (bL D ++ bL E)
theorem Qm (B C : Nat → Nat) (c : Nat) : iR prog (qY prog (xU (fw (hv (bN B)) 3) 1)) (dM pY) f32 120 [.s (bL B ++ bL C) 64 c,.v (.im (.int .i64 2))] = some (ukP B 1 (VU B C c),⟨Yu (hv (bN B)) ++ wl (hv (bN C)) ++ [.q 0,.q 0],4,0,0,false,[.im (.int .u8 (Int.ofNat 1))],[.im (.int .i64 0)]⟩):=by kernel_rfl
theorem Ql (B C : Nat → Nat) (c : Nat) : iR prog (qY prog (xU (fw (hv (bN B)) 3) 2)) (dM pY) f32 120 [.s (bL B ++ bL C) 64 c,.v (.im (.int .i64 2))] = some (ukP B 2 (VU B C c),⟨Yu (hv (bN B)) ++ wl (hv (bN C)) ++ [.q 0,.q 0],4,0,0,false,[.im (.int .u8 (Int.ofNat 2))],[.im (.int .i64 0)]⟩):=by kernel_rfl
theorem Qk (B C : Nat → Nat) (c : Nat) : iR prog (qY prog (xU (fw (hv (bN B)) 3) 3)) (dM pY) f32 120 [.s (bL B ++ bL C) 64 c,.v (.im (.int .i64 2))] = some (ukP B 3 (VU B C c),⟨Yu (hv (bN B)) ++ wl (hv (bN C)) ++ [.q 0,.q 0],4,0,0,false,[.im (.int .u8 (Int.ofNat 3))],[.im (.int .i64 0)]⟩):=by kernel_rfl
theorem Qj (B C D E : Nat → Nat) (c : Nat) : iR prog (qY prog (xU (fw (hv (bN B)) 3) 0)) (dM pY) f32 160 [.s (bL4 B C D E) 128 c,.v (.im (.int .i64 2))] = some (ukP B 0 (QY B C D E c),⟨Yu (hv (bN B)) ++ wl (hv (bN C)) ++ wl (hv (bN D)) ++ wl (hv (bN E)),4,0,0,false,[.im (.int .u8 (Int.ofNat 0))],[.im (.int .i64 0)]⟩):=by kernel_rfl
theorem Qi (B C D E : Nat → Nat) (c : Nat) : iR prog (qY prog (xU (fw (hv (bN B)) 3) 1)) (dM pY) f32 160 [.s (bL4 B C D E) 128 c,.v (.im (.int .i64 2))] = some (ukP B 1 (QY B C D E c),⟨Yu (hv (bN B)) ++ wl (hv (bN C)) ++ wl (hv (bN D)) ++ wl (hv (bN E)),4,0,0,false,[.im (.int .u8 (Int.ofNat 1))],[.im (.int .i64 0)]⟩):=by kernel_rfl
theorem WH (N : Nat) : aA (Yu N) = aA [.q (xv N)]:=by
 have h:=BR N;apply List.append_cancel_right (bs:=aA [.q 0]);rw [← aH,← aH];exact h
theorem BK (N M : Nat) : aA (Yu N ++ wl M ++ [.q 0,.q 0]) = aA [.q (xv N),.q M,.q 0,.q 0]:=by
 rw [aH,aH,WH,oM,← aH,← aH];rfl
theorem TO (N M K J : Nat) : aA (Yu N ++ wl M ++ wl K ++ wl J) = aA [.q (xv N),.q M,.q K,.q J]:=by
 rw [aH,aH,aH,WH,oM,oM,oM,← aH,← aH,← aH];rfl
def LL (L : List Nat) : Prop:=L6 (L.take 64) ∧ L6 (L.drop 64)
def h4 (L : List Nat) : Nat:=hi (L.take 64)
def i4 (L : List Nat) : Nat:=lo (L.take 64)
def j4 (L : List Nat) : Nat:=hv ((L.drop 64).take 32)
def k4 (L : List Nat) : Nat:=lo (L.drop 64)
theorem SE {l : List At} {L : List Nat} (h : lN l = some L) (h6 : LL L) : aA l = aA (bL4 (fun k => ((L.take 64).take 32).getD k 0) (fun k => ((L.take 64).drop 32).getD k 0) (fun k => ((L.drop 64).take 32).getD k 0) fun k => ((L.drop 64).drop 32).getD k 0):=by
 unfold bL4;rw [uL h,aH,aH,aH,oG,oG,oG,oG,cT h6.1.1.1,cT h6.1.2.1,cT h6.2.1.1,cT h6.2.2.1,← List.map_append,← List.map_append,← List.map_append,List.take_append_drop,List.take_append_drop,List.take_append_drop]
theorem b6N {L : List Nat} (h6 : L6 L) : bN (fun k => (L.take 32).getD k 0) ++ bN (fun k => (L.drop 32).getD k 0) = L:=by rw [cT h6.1.1,cT h6.2.1,List.take_append_drop]
def gUk (m : Nat) : List CA → Option (List Prop × FS)
 | [.s l 64 c,.v (.im (.int .i64 (.ofNat 2)))] => match lN l with
  | some L => some ([L6 L,(L.take 32).getD 0 0 / 64 = m,64 ≤ c],⟨[.q (hi L),.q (lo L),.q 0,.q 0],4,0,0,false,[.im (.int .u8 (Int.ofNat m))],[.im (.int .i64 0)]⟩)
  | none => none
 | _ => none
def gUl (m : Nat) : List CA → Option (List Prop × FS)
 | [.s l 128 c,.v (.im (.int .i64 (.ofNat 2)))] => match lN l with
  | some L => some ([LL L,((L.take 64).take 32).getD 0 0 / 64 = m,128 ≤ c],⟨[.q (h4 L),.q (i4 L),.q (j4 L),.q (k4 L)],4,0,0,false,[.im (.int .u8 (Int.ofNat m))],[.im (.int .i64 0)]⟩)
  | none => none
 | _ => none
theorem uT {B : Nat → Nat} {m : Nat} {mid : List Prop} (zB : lO .shr 5 (.tmp 32) (.const (.int .u64 6)) (.int .u8 (Int.ofNat (B 0))) (.int .u64 6) (.int .u8 (Int.ofNat m))) (hm : aL mid) : aL (ukP B m mid) :=
 aW.2 ⟨aW.2 ⟨⟨zB,Tx,trivial⟩,hm⟩,kO (gX _ _),kN (gX _ _),trivial⟩
theorem aBy (m : Nat) (hm : m = 1 ∨ m = 2 ∨ m = 3) : ∀ cs pre r,gUk m cs = some (pre,r) → aL pre → ∀ (args : List Value) (w : World),bD w cs args → Calls prog 32 args.toArray w (fun e w' => r.ok w e w'):=by
 intro cs pre r hg hp args w ha;unfold gUk at hg;split at hg
 ·rename_i l c;split at hg
  ·rename_i L hL;cases hg;obtain ⟨h6,hb,hc,_⟩:=hp;have ha':=Cm (jT hL h6) ha;have hN:=cT h6.1.1;have hM:=cT h6.2.1;have zB:=TY h6.1 hb;have hmid : aL (VU (fun k => (L.take 32).getD k 0) (fun k => (L.drop 32).getD k 0) c):=⟨by omega,by omega,by omega,by rw [hN]; exact h6.1,by omega,hc,by omega,by rw [hM]; exact h6.2,trivial⟩
   rcases hm with rfl | rfl | rfl
   ·have h:=bE aG (fun _ _ => kC.w _ _) (FW _ _ w) func32 (Qm (fun k => (L.take 32).getD k 0) (fun k => (L.drop 32).getD k 0) c) (uT zB hmid) ha';rw [hN,hM] at h;exact h.mono fun e w' h => h.weak (BK _ _).symm
   ·have h:=bE aG (fun _ _ => kC.w _ _) (FW _ _ w) func32 (Ql (fun k => (L.take 32).getD k 0) (fun k => (L.drop 32).getD k 0) c) (uT zB hmid) ha';rw [hN,hM] at h;exact h.mono fun e w' h => h.weak (BK _ _).symm
   ·have h:=bE aG (fun _ _ => kC.w _ _) (FW _ _ w) func32 (Qk (fun k => (L.take 32).getD k 0) (fun k => (L.drop 32).getD k 0) c) (uT zB hmid) ha';rw [hN,hM] at h;exact h.mono fun e w' h => h.weak (BK _ _).symm
  ·cases hg
 ·cases hg
theorem aBx (m : Nat) (hm : m = 0 ∨ m = 1) : ∀ cs pre r,gUl m cs = some (pre,r) → aL pre → ∀ (args : List Value) (w : World),bD w cs args → Calls prog 32 args.toArray w (fun e w' => r.ok w e w'):=by
 intro cs pre r hg hp args w ha;unfold gUl at hg;split at hg
 ·rename_i l c;split at hg
  ·rename_i L hL;cases hg;obtain ⟨h6,hb,hc,_⟩:=hp;have ha':=Cm (SE hL h6) ha;have e1:=cT h6.1.1.1;have e2:=cT h6.1.2.1;have e3:=cT h6.2.1.1;have e4:=cT h6.2.2.1;have zB:=TY h6.1.1 hb;have hmid : aL (QY (fun k => ((L.take 64).take 32).getD k 0) (fun k => ((L.take 64).drop 32).getD k 0) (fun k => ((L.drop 64).take 32).getD k 0) (fun k => ((L.drop 64).drop 32).getD k 0) c):=⟨by omega,by omega,by omega,by rw [e1]; exact h6.1.1,by omega,by omega,by omega,by rw [e2]; exact h6.1.2,by omega,by omega,by omega,by rw [e3]; exact h6.2.1,by omega,hc,by omega,by rw [e4]; exact h6.2.2,trivial⟩
   rcases hm with rfl | rfl
   ·have h:=bE aG (fun _ _ => kC.w _ _) (FW _ _ w) func32 (Qj (fun k => ((L.take 64).take 32).getD k 0) (fun k => ((L.take 64).drop 32).getD k 0) (fun k => ((L.drop 64).take 32).getD k 0) (fun k => ((L.drop 64).drop 32).getD k 0) c) (uT zB hmid) ha';rw [e1,e2,e3,e4] at h;exact h.mono fun e w' h => h.weak (TO _ _ _ _).symm
   ·have h:=bE aG (fun _ _ => kC.w _ _) (FW _ _ w) func32 (Qi (fun k => ((L.take 64).take 32).getD k 0) (fun k => ((L.take 64).drop 32).getD k 0) (fun k => ((L.drop 64).take 32).getD k 0) (fun k => ((L.drop 64).drop 32).getD k 0) c) (uT zB hmid) ha';rw [e1,e2,e3,e4] at h;exact h.mono fun e w' h => h.weak (TO _ _ _ _).symm
  ·cases hg
 ·cases hg
def kR : Q2:=(⟨21575463638280843010398324269430826099269044274347216827212613867836435027261,by decide⟩,⟨10307601595873709700152284273816112264069230130616436755625194854815875713954,by decide⟩)
def pK : Q2:=(⟨2821565182194536844548159561693502659359617185244120367078079554186484126554,by decide⟩,⟨3505843767911556378687030309984248845540243509899259641013678093033130930403,by decide⟩)
def WM : Q2:=(⟨10857046999023057135944570762232829481370756359578518086990519993285655852781,by decide⟩,⟨11559732032986387107991004021392285783925812861821192530917403151452391805634,by decide⟩)
def Cc : Q2:=(⟨8495653923123431417604973247489272438418190587263600148770280649306958101930,by decide⟩,⟨4082367875863433681332203403145435568316851327593401208105741076214120093531,by decide⟩)
def dB : Nat:=147946756881789318990833708069417712966
def Lg : gE
 | [.v (.im (.int .i64 (.ofNat 1)))] => some ([],.one (.fl (q1 FP.M)))
 | [.v (.im (.int .i64 (.ofNat 2)))] => some ([],.one (.fl (q1 Go.Proofs.YtfnkbmlmgnadmaaGreat.FR.M)))
 | _ => none
theorem Vn : ∀ cs pre r,Lg cs = some (pre,r) → aL pre → ∀ (args : List Value) (w : World),bD w cs args → Good prog 54 r args w:=by
 intro cs pre r hg hp args w ha;unfold Lg at hg;split at hg
 ·cases hg
  match args,ha with
  | [v],ha =>
   have h1 : v = .int .i64 1:=ha.1;subst h1;exact (nO 1 FP (Or.inl ⟨rfl,rfl⟩) w).mono fun e w' h => h
  | [],ha => exact ha.elim
  | _ :: _ :: _,ha => exact ha.2.elim
 ·cases hg
  match args,ha with
  | [v],ha =>
   have h1 : v = .int .i64 2:=ha.1;subst h1;exact (nO 2 Go.Proofs.YtfnkbmlmgnadmaaGreat.FR (Or.inr ⟨rfl,rfl⟩) w).mono fun e w' h => h
  | [],ha => exact ha.elim
  | _ :: _ :: _,ha => exact ha.2.elim
 ·cases hg
def Lc : gE
 | [.v (.fl l),.v (.fl m)] => some ([aA l = aA (q1 FP.M),aA m = aA (q1 Go.Proofs.YtfnkbmlmgnadmaaGreat.FR.M)],.many [.fl (q1 dB),.im (.int .u64 0)])
 | _ => none
theorem Ud : ∀ cs pre r,Lc cs = some (pre,r) → aL pre → ∀ (args : List Value) (w : World),bD w cs args → Good prog 53 r args w:=by
 intro cs pre r hg hp args w ha;unfold Lc at hg;split at hg
 ·rename_i l m;cases hg;obtain ⟨e1,e2,_⟩:=hp
  match args,ha with
  | [v,u],ha =>
   have h1 : v = .agg (aA l).toArray:=ha.1;have h2 : u = .agg (aA m).toArray:=ha.2.1;rw [e1] at h1;rw [e2] at h2;subst h1; subst h2;refine (jW _ _ _ _ _ _ _ _ (bR FP.M) (bR Go.Proofs.YtfnkbmlmgnadmaaGreat.FR.M) w).mono ?_
   rintro e w' ⟨s0,s1,s2,s3,c,rfl,hs,hc,hv,hb⟩
   have v1 : aC (fw FP.M 0) (fw FP.M 1) (fw FP.M 2) (fw FP.M 3) = 21888242871839275222246405745257275088696311157297823662689037894645226208583:=by kernel_rfl
   have v2 : aC (fw Go.Proofs.YtfnkbmlmgnadmaaGreat.FR.M 0) (fw Go.Proofs.YtfnkbmlmgnadmaaGreat.FR.M 1) (fw Go.Proofs.YtfnkbmlmgnadmaaGreat.FR.M 2) (fw Go.Proofs.YtfnkbmlmgnadmaaGreat.FR.M 3) = 21888242871839275222246405745257275088548364400416034343698204186575808495617:=by kernel_rfl
   rw [v1,v2] at hv;obtain ⟨h0,h1,h2,h3⟩:=hs;have hlt : aC s0 s1 s2 s3 < 115792089237316195423570985008687907853269984665640564039457584007913129639936:=by unfold aC; omega
   have hc0 : c = 0:=by omega
   subst hc0;have hv2 : aC s0 s1 s2 s3 = dB:=by unfold dB; omega
   obtain ⟨rfl,rfl,rfl,rfl⟩:=fG ⟨h0,h1,h2,h3⟩ (by unfold dB; omega) hv2;exact ⟨rfl,hb⟩
  | [],ha => exact ha.elim
  | [_],ha => exact ha.2.elim
  | _ :: _ :: _ :: _,ha => exact ha.2.2.elim
 ·cases hg
def Oi : Tab:=(mZ).add 54 Lg
theorem Tg : TabOk prog Oi:=(lZ).ad func54 Vn
def SQ : Tab:=(Oi).add 53 Lc
theorem VC : TabOk prog SQ:=(Tg).ad func53 Ud
theorem Gb  : aU prog (qG prog) (fun _ => ⟨fun s => SQ,fun s => true,fun _ => none⟩) f104 60 [] = some ([],.one (.fl (yI (some (WM,Cc))))):=by kernel_rfl
def TA : Tab:=(SQ).add 104 (g0 (.one (.fl (yI (some (WM,Cc))))))
theorem VN : TabOk prog TA:=(VC).ad func104 (LU fun w => aD aG (fun _ s => VC) (aK prog) func104 Gb trivial (args:=[]) trivial)
theorem An  : aU prog (qG prog) (fun _ => ⟨fun s => TA,fun s => true,fun _ => none⟩) f55 60 [] = some ([],.one (.fl (q1 Go.Proofs.YtfnkbmlmgnadmaaGreat.FR.M))):=by kernel_rfl
def FL : Tab:=(TA).add 55 (g0 (.one (.fl (q1 Go.Proofs.YtfnkbmlmgnadmaaGreat.FR.M))))
theorem KO : TabOk prog FL:=(VN).ad func55 (LU fun w => aD aG (fun _ s => VN) (aK prog) func55 An trivial (args:=[]) trivial)
theorem YS  : aU prog (qG prog) (fun _ => ⟨fun s => FL,fun s => true,fun _ => none⟩) f88 60 [] = some ([],.many [.fl (e2 kR),.fl (e2 pK)]):=by kernel_rfl
def EZ : Tab:=(FL).add 88 (g0 (.many [.fl (e2 kR),.fl (e2 pK)]))
theorem KH : TabOk prog EZ:=(KO).ad func88 (LU fun w => aD aG (fun _ s => KO) (aK prog) func88 YS trivial (args:=[]) trivial)
theorem aFi (x y : N2) : EZ 89 [.v (.fl (q2 x)),.v (.fl (q2 y))] = some ([],.one (.fl (e2 (F2.mul (m2 x) (m2 y))))):=by kernel_rfl
def nA : Tab:=(EZ).add 89 (g2 sI sI (fun x y => ([],.one (.fl (e2 (F2.mul x y))))))
theorem mC : TabOk prog nA:=(KH).ad func89 (mG cO cO fun x y hp args w ha => (KH _ _ _ _ (aFi x y) trivial).2 args w ha)
theorem yR (x y : N2) : aU prog (qG prog) (fun _ => ⟨fun s => nA,fun s => true,fun s => bif Nat.beq s 10 then some (.bool true) else none⟩) f52 60 [.v (.fl (cS (x,y,true)))] = some ([aP .neq .i64 (fM x y true).1 0 = some (.bool true)],.many [.fl (yI (some (F2.zero,F2.zero))),.im (.int .i64 (fM x y true).1)]):=by kernel_rfl
theorem yQ (x y : N2) : aU prog (qG prog) (fun _ => ⟨fun s => nA,fun s => true,fun s => bif Nat.beq s 10 then some (.bool false) else none⟩) f52 60 [.v (.fl (cS (x,y,true)))] = some ([aP .neq .i64 (fM x y true).1 0 = some (.bool false)],.many [.fl (e2 (F2.mul (cE (m2 x)) kR) ++ (e2 (F2.mul (cE (m2 y)) pK) ++ [.c (.bool true)])),.im (.int .i64 0)]):=by kernel_rfl
theorem vE (x y : N2) : aU prog (qG prog) (fun _ => ⟨fun s => nA,fun s => true,fun s => bif Nat.beq s 10 then some (.bool true) else none⟩) f52 60 [.v (.fl (cS (x,y,false)))] = some ([aP .neq .i64 (fM x y false).1 0 = some (.bool true)],.many [.fl (yI (some (F2.zero,F2.zero))),.im (.int .i64 (fM x y false).1)]):=by kernel_rfl
theorem vD (x y : N2) : aU prog (qG prog) (fun _ => ⟨fun s => nA,fun s => true,fun s => bif Nat.beq s 10 then some (.bool false) else none⟩) f52 60 [.v (.fl (cS (x,y,false)))] = some ([aP .neq .i64 (fM x y false).1 0 = some (.bool false)],.many [.fl (e2 (F2.mul (cE (m2 x)) kR) ++ (e2 (F2.mul (cE (m2 y)) pK) ++ [.c (.bool false)])),.im (.int .i64 0)]):=by kernel_rfl
def Sc : Pt Q2 → Pt Q2
 | none => none
 | some p => some (F2.mul (cE p.1) kR,F2.mul (cE p.2) pK)
def cU (p : bY) : Pt Q2 × Int:=if (dT p).1 ≠ 0 then (some (F2.zero,F2.zero),(dT p).1) else (Sc (Ph p),0)
theorem Yo {x : N2} (h : yF x) : m2 x = F2.zero:=by
 refine Prod.ext (Fin.ext ?_) (Fin.ext ?_)
 ·show wv x.1 % FP.M = 0;rw [h.1]; rfl
 ·show wv x.2 % FP.M = 0;rw [h.2]; rfl
theorem XJ : cE F2.zero = F2.zero:=by decide
theorem Mm {x y : N2} (h : (fM x y true).1 = 0) : yF x ∧ yF y:=by
 rw [iV,if_pos rfl] at h
 by_cases hz : yF x ∧ yF y
 ·exact hz
 ·rw [if_neg hz] at h; cases h
theorem aAD (p : bY) (args : List Value) (w : World) (ha : bD w [.v (.fl (cS p))] args) : Good prog 52 (.many [.fl (yI (cU p).1),.im (.int .i64 (cU p).2)]) args w:=by
 obtain ⟨x,y,b⟩:=p
 by_cases h : (fM x y b).1 = 0
 ·rw [show cU (x,y,b) = (Sc (Ph (x,y,b)),0) from if_neg (fun q => q h)];cases b with
  | false => exact aD aG (fun _ s => mC) (aK prog) func52 (vD x y) ⟨KU h,trivial⟩ ha
  | true =>
   refine Good.congr (aD aG (fun _ s => mC) (aK prog) func52 (yQ x y) ⟨KU h,trivial⟩ ha) ?_;obtain ⟨hx,hy⟩:=Mm h;rw [Yo hx,Yo hy,XJ,F2.zero_mul,F2.zero_mul];rfl
 ·rw [show cU (x,y,b) = (some (F2.zero,F2.zero),(fM x y b).1) from if_pos h];cases b with
  | true => exact aD aG (fun _ s => mC) (aK prog) func52 (yR x y) ⟨KT h,trivial⟩ ha
  | false => exact aD aG (fun _ s => mC) (aK prog) func52 (vE x y) ⟨KT h,trivial⟩ ha
def yD : Tab:=(nA).add 52 (g1 As fun p => ([],.many [.fl (yI (cU p).1),.im (.int .i64 (cU p).2)]))
theorem tW : TabOk prog yD:=(mC).ad func52 (cM iN fun p hp args w ha => aAD p args w ha)
theorem ZQ (p : bY) : aU prog (qG prog) (fun _ => ⟨fun s => yD,fun s => true,fun s => bif Nat.beq s 15 then some (.bool true) else none⟩) f29 60 [.v (.fl (cS p))] = some ([aP .neq .i64 (cU p).2 0 = some (.bool true)],.one (.im (.bool false))):=by kernel_rfl
theorem ZP (p : bY) : aU prog (qG prog) (fun _ => ⟨fun s => yD,fun s => true,fun s => bif Nat.beq s 15 then some (.bool false) else none⟩) f29 60 [.v (.fl (cS p))] = some ([aP .neq .i64 (cU p).2 0 = some (.bool false),aA (q1 FP.M) = aA (q1 FP.M),aA (q1 Go.Proofs.YtfnkbmlmgnadmaaGreat.FR.M) = aA (q1 Go.Proofs.YtfnkbmlmgnadmaaGreat.FR.M),aA (yI (fO (fun _ => p) (fun _ => dB) 1).1) = aA (yI (cU p).1)],.one (.im (.bool true))):=by kernel_rfl
theorem ZO (p : bY) : aU prog (qG prog) (fun _ => ⟨fun s => yD,fun s => false,fun s => bif Nat.beq s 15 then some (.bool false) else none⟩) f29 60 [.v (.fl (cS p))] = some ([aP .neq .i64 (cU p).2 0 = some (.bool false),aA (q1 FP.M) = aA (q1 FP.M),aA (q1 Go.Proofs.YtfnkbmlmgnadmaaGreat.FR.M) = aA (q1 Go.Proofs.YtfnkbmlmgnadmaaGreat.FR.M),aA (yI (fO (fun _ => p) (fun _ => dB) 1).1) ≠ aA (yI (cU p).1)],.one (.im (.bool false))):=by kernel_rfl
theorem Ut {P Q : Pt Q2} (h : aA (yI P) = aA (yI Q)) : P = Q:=by
 have h' : w4 (Yc F2 P).1.1 ++ (w4 (Yc F2 P).2.1 ++ (w4 (Yb F2 P).1.1 ++ (w4 (Yb F2 P).2.1 ++ [Value.bool (ptI P)]))) = w4 (Yc F2 Q).1.1 ++ (w4 (Yc F2 Q).2.1 ++ (w4 (Yb F2 Q).1.1 ++ (w4 (Yb F2 Q).2.1 ++ [Value.bool (ptI Q)]))):=h;obtain ⟨h1,h'⟩:=List.append_inj h' rfl;obtain ⟨h2,h'⟩:=List.append_inj h' rfl;obtain ⟨h3,h'⟩:=List.append_inj h' rfl;obtain ⟨h4,h'⟩:=List.append_inj h' rfl;have h5 : ptI P = ptI Q:=by injection h' with h' _; injection h'
 have e : ∀ {a b : Fq},w4 a.1 = w4 b.1 → a = b:=fun {a b} hw => by
  have:=tL hw;refine Fin.ext ?_;have ha : wv a.1 = a.1:=aZ a.2;have hb : wv b.1 = b.1:=aZ b.2;rw [← ha,← hb,this]
 cases P with
 | none =>
  cases Q with
  | none => rfl
  | some q => cases h5
 | some p =>
  cases Q with
  | none => cases h5
  | some q => exact congrArg some (Prod.ext (Prod.ext (e h1) (e h2)) (Prod.ext (e h3) (e h4)))
open Classical in
def iC (p : bY) : Bool:=decide ((cU p).2 = 0 ∧ (fO (fun _ => p) (fun _ => dB) 1).1 = (cU p).1)
theorem Kj (p : bY) (args : List Value) (w : World) (ha : bD w [.v (.fl (cS p))] args) : Good prog 29 (.one (.im (.bool (iC p)))) args w:=by
 unfold iC
 by_cases h1 : (cU p).2 = 0
 ·by_cases h2 : (fO (fun _ => p) (fun _ => dB) 1).1 = (cU p).1
  ·rw [decide_eq_true (And.intro h1 h2)];exact aD aG (fun _ s => tW) (aK prog) func29 (ZP p) ⟨KU h1,rfl,rfl,by rw [h2],trivial⟩ ha
  ·rw [decide_eq_false (fun h => h2 h.2)];exact aD aG (fun _ s => tW) (aK prog) func29 (ZO p) ⟨KU h1,rfl,rfl,fun h => h2 (Ut h),trivial⟩ ha
 ·rw [decide_eq_false (fun h => h1 h.1)];exact aD aG (fun _ s => tW) (aK prog) func29 (ZQ p) ⟨KT h1,trivial⟩ ha
def BE : Tab:=(yD).add 29 (g1 As fun p => ([],.one (.im (.bool (iC p)))))
theorem wA : TabOk prog BE:=(tW).ad func29 (cM iN fun p hp args w ha => Kj p args w ha)
section
variable {R : Type} [DecidableEq R] (K : CR R)
def XF (p q : Jc R) : Jc R :=
 if p.2.2 = K.zero then q else if q.2.2 = K.zero then p else if uB K p q = K.zero then (if NG K p q = K.zero then eN K p else (K.one,K.one,K.zero)) else DS K p q
theorem Mh (p q : Jc R) : XF K p q = rplus K p q:=by
 unfold XF rplus
 by_cases h1 : p.2.2 = K.zero
 ·rw [if_pos h1,if_pos h1]
 ·rw [if_neg h1,if_neg h1]
  by_cases h2 : q.2.2 = K.zero
  ·rw [if_pos h2,if_pos h2]
  ·rw [if_neg h2,if_neg h2]
   by_cases h3 : uB K p q = K.zero
   ·rw [if_pos h3]
    by_cases h4 : NG K p q = K.zero
    ·rw [if_pos h4,if_pos ⟨h3,h4⟩]
    ·rw [if_neg h4,if_neg (fun h => h4 h.2),if_pos h3]
   ·rw [if_neg h3,if_neg (fun h => h3 h.1),if_neg h3]
def FO (a : Jc R) (n L : Nat) : Nat → Jc R
 | 0 => (K.one,K.one,K.zero)
 | k + 1 => if Nat.beq (n / 2 ^ (L - (k + 1)) % 2) 1 = true then XF K (eN K (FO a n L k)) a else eN K (FO a n L k)
variable {K} {inv : R → R} {b : R}
theorem XE {E : EC K inv b} {a : Jc R} {g : {p : Pt R // On K b p}} (h : Rp E a g) (n L : Nat) (hn : n < 2 ^ L) : ∀ k,k ≤ L → Rp E (FO K a n L k) (E.grp.ns (n / 2 ^ (L - k)) g)
 | 0,_ => by
  rw [Nat.sub_zero,Nat.div_eq_of_lt hn];exact Rp.zero rfl
 | k + 1,hk => by
  have ih:=XE h n L hn k (by omega);have e : n / 2 ^ (L - k) = n / 2 ^ (L - (k + 1)) / 2:=by
   rw [show L - k = (L - (k + 1)) + 1 by omega,Nat.pow_add,← Nat.div_div_eq_div_mul]
  rw [e] at ih;have h2:=ih.dbl;rw [← E.grp.ns_add] at h2
  by_cases hb : n / 2 ^ (L - (k + 1)) % 2 = 1
  ·rw [show FO K a n L (k + 1) = XF K (eN K (FO K a n L k)) a from if_pos (by rw [hb]; rfl),Mh];have h3:=h2.rplus h;rw [show n / 2 ^ (L - (k + 1)) = n / 2 ^ (L - (k + 1)) / 2 + n / 2 ^ (L - (k + 1)) / 2 + 1 by omega];exact h3
  ·rw [show FO K a n L (k + 1) = eN K (FO K a n L k) from if_neg (fun hq => hb (Nat.eq_of_beq_eq_true hq))];rw [show n / 2 ^ (L - (k + 1)) = n / 2 ^ (L - (k + 1)) / 2 + n / 2 ^ (L - (k + 1)) / 2 by omega];exact h2
theorem uJ {E : EC K inv b} {a : Jc R} {g : {p : Pt R // On K b p}} (h : Rp E a g) (n L : Nat) (hn : n < 2 ^ L) : Rp E (FO K a n L L) (E.grp.ns n g):=by
 have:=XE h n L hn L (Nat.le_refl _)
 rwa [Nat.sub_self,Nat.pow_zero,Nat.div_one] at this
end
def Ye : Nat:=21888242871839275222246405745257275088548364400416034343698204186575808495617
def psX : Q2:=F2.mul (cE WM) kR
def psY : Q2:=F2.mul (cE Cc) pK
def yZ : J2:=FO F2 (WM,Cc,F2.one) dB 127 127
theorem aFo : yZ.2.2 ≠ F2.zero:=of_decide_eq_true (by kernel_rfl)
theorem aFq : yZ.1 = F2.mul psX (F2.mul yZ.2.2 yZ.2.2):=of_decide_eq_true (by kernel_rfl)
theorem aFp : yZ.2.1 = F2.mul psY (F2.mul (F2.mul yZ.2.2 yZ.2.2) yZ.2.2):=of_decide_eq_true (by kernel_rfl)
section
variable {R : Type} {K : CR R} {inv : R → R} {b : R}
theorem LF (E : EC K inv b) {p : Jc R} {x y : R} (hz : p.2.2 ≠ K.zero) (hx : p.1 = K.mul x (K.mul p.2.2 p.2.2)) (hy : p.2.1 = K.mul y (K.mul (K.mul p.2.2 p.2.2) p.2.2)) : gC K inv p = some (x,y):=by
 have h1:=E.F.inv _ hz;rw [dF hz,hx,hy];generalize inv p.2.2 = i at h1 ⊢;generalize p.2.2 = z at h1 ⊢;refine congrArg some (Prod.ext ?_ ?_)
 ·show K.mul (K.mul x (K.mul z z)) (K.mul i i) = x;have e : K.mul (K.mul x (K.mul z z)) (K.mul i i) = K.mul x (K.mul (K.mul z i) (K.mul z i)):=aN K (bX K [x,z,i]) (.mul (.mul (.v 0) (.mul (.v 1) (.v 1))) (.mul (.v 2) (.v 2))) (.mul (.v 0) (.mul (.mul (.v 1) (.v 2)) (.mul (.v 1) (.v 2)))) (by decide);rw [e,h1,K.one_mul,K.mul_one]
 ·show K.mul (K.mul y (K.mul (K.mul z z) z)) (K.mul (K.mul i i) i) = y;have e : K.mul (K.mul y (K.mul (K.mul z z) z)) (K.mul (K.mul i i) i) = K.mul y (K.mul (K.mul (K.mul z i) (K.mul z i)) (K.mul z i)):=aN K (bX K [y,z,i]) (.mul (.mul (.v 0) (.mul (.mul (.v 1) (.v 1)) (.v 1))) (.mul (.mul (.v 2) (.v 2)) (.v 2))) (.mul (.v 0) (.mul (.mul (.mul (.v 1) (.v 2)) (.mul (.v 1) (.v 2))) (.mul (.v 1) (.v 2)))) (by decide);rw [e,h1,K.one_mul,K.one_mul,K.mul_one]
end
def Cu : bY:=((WM.1.1,WM.2.1),(Cc.1.1,Cc.2.1),false)
theorem Jp (x : Fq) : m1 x.1 = x:=Fin.ext (show wv x.1 % FP.M = x.1 by rw [show wv x.1 = x.1 from aZ x.2]; exact Nat.mod_eq_of_lt x.2)
theorem XR (x : Fq) : nG x.1:=by show wv x.1 < FP.M; rw [show wv x.1 = x.1 from aZ x.2]; exact x.2
theorem DM (x : Q2) : m2 (x.1.1,x.2.1) = x:=Prod.ext (Jp x.1) (Jp x.2)
theorem XQ (x : Q2) : iH (x.1.1,x.2.1):=⟨XR x.1,XR x.2⟩
theorem Mn {x y : Q2} (h : On F2 qD (some (x,y))) : (dT ((x.1.1,x.2.1),(y.1.1,y.2.1),false)).1 = 0:=by
 have e:=iV (x.1.1,x.2.1) (y.1.1,y.2.1) false;rw [if_neg (by simp),if_neg (fun q => q ⟨XQ x,XQ y⟩),DM,DM] at e;have h' : F2.mul y y = F2.add (F2.mul (F2.mul x x) x) qD:=by
  rw [F2.mul_comm (F2.mul x x) x]; exact h
 rw [if_pos h'] at e;show (fM (x.1.1,x.2.1) (y.1.1,y.2.1) false).1 = 0;rw [e]
theorem aFD : On F2 qD (some (WM,Cc)):=by
 show F2.mul Cc Cc = F2.add (F2.mul WM (F2.mul WM WM)) qD;exact of_decide_eq_true (by kernel_rfl)
theorem Yw : (dT Cu).1 = 0:=Mn aFD
theorem SG (x y : Q2) : Ph ((x.1.1,x.2.1),(y.1.1,y.2.1),false) = some (x,y):=congrArg some (Prod.ext (DM x) (DM y))
theorem aCf : Rp cC (WM,Cc,F2.one) (sS Cu):=(cC.jto_one _ _).trans ((rV Yw).trans (SG WM Cc)).symm
theorem Ue : dB < 2 ^ 127:=of_decide_eq_true (by kernel_rfl)
theorem Uf : Rp cC yZ (cC.grp.ns dB (sS Cu)):=uJ aCf dB 127 Ue
theorem Vi : (cC.grp.ns dB (sS Cu)).1 = some (psX,psY):=by
 rw [← show gC F2 iZ yZ = (cC.grp.ns dB (sS Cu)).1 from Uf];exact LF cC aFo aFq aFp
theorem Zs : wv Go.Proofs.YtfnkbmlmgnadmaaGreat.FR.M = Ye:=by kernel_rfl
theorem TL : wv dB = dB:=by kernel_rfl
def tn2 (P : Pt Q2) : bY:=(((Yc F2 P).1.1,(Yc F2 P).2.1),((Yb F2 P).1.1,(Yb F2 P).2.1),ptI P)
theorem NP : ∀ {P : Pt Q2},On F2 qD P → (dT (tn2 P)).1 = 0
 | none,_ => by
  have e:=iV (0,0) (0,0) true;rw [if_pos rfl,if_pos ⟨⟨by show wv 0 = 0; rfl,by show wv 0 = 0; rfl⟩,by show wv 0 = 0; rfl,by show wv 0 = 0; rfl⟩] at e;show (fM (0,0) (0,0) true).1 = 0;rw [e]
 | some p,h => Mn h
theorem Oa : ∀ P : Pt Q2,Ph (tn2 P) = P
 | none => rfl
 | some p => SG p.1 p.2
theorem aCw (P : C2) : sS (tn2 P.1) = P:=Subtype.ext ((rV (NP P.2)).trans (Oa P.1))
theorem tM2 (P : C2) (n : Nat) : fO (fun _ => tn2 P.1) (fun _ => n) 1 = ((cC.grp.ns (wv n) P).1,0):=by
 rw [UG,if_neg (fun q => q (NP P.2)),aCw]
open Classical
section
variable {R : Type} {K : CR R} {inv : R → R} {b : R}
structure Tw (K : CR R) (b : R) (s : R → R) (k : R) : Prop where
 add : ∀ x y,s (K.add x y) = K.add (s x) (s y)
 mul : ∀ x y,s (K.mul x y) = K.mul (s x) (s y)
 neg : ∀ x,s (K.neg x) = K.neg (s x)
 zero : s K.zero = K.zero
 ss : ∀ x,s (s x) = x
 k0 : k ≠ K.zero
 hb : K.mul (K.mul (K.mul (K.mul k k) k) (K.mul (K.mul k k) k)) (s b) = b
def tw (K : CR R) (s : R → R) (k : R) : Pt R → Pt R
 | none => none
 | some p => some (K.mul (s p.1) (K.mul k k),K.mul (s p.2) (K.mul (K.mul k k) k))
variable {s : R → R} {k : R}
theorem Tw.inj (t : Tw K b s k) {x y : R} (h : s x = s y) : x = y:=by rw [← t.ss x,h,t.ss]
theorem Tw.sub (t : Tw K b s k) (x y : R) : s (K.sub x y) = K.sub (s x) (s y):=by
 show s (K.add x (K.neg y)) = K.add (s x) (K.neg (s y));rw [t.add,t.neg]
theorem tY (E : EC K inv b) {x y c : R} (hc : c ≠ K.zero) (h : K.mul x c = K.mul y c) : x = y:=by
 have h1:=congrArg (fun z => K.mul z (inv c)) h;have h2:=E.F.inv c hc;simp only [K.mul_assoc,h2,K.mul_one] at h1;exact h1
theorem Tw.k2 (t : Tw K b s k) (E : EC K inv b) : K.mul k k ≠ K.zero:=E.F.mul_ne t.k0 t.k0
theorem Tw.k3 (t : Tw K b s k) (E : EC K inv b) : K.mul (K.mul k k) k ≠ K.zero:=E.F.mul_ne (t.k2 E) t.k0
theorem aEv (t : Tw K b s k) (E : EC K inv b) : ∀ {P : Pt R},On K b P → On K b (tw K s k P)
 | none,_ => trivial
 | some p,h => by
  have h' : K.mul p.2 p.2 = K.add (K.mul p.1 (K.mul p.1 p.1)) b:=h;have h1:=congrArg s h';rw [t.mul,t.add,t.mul,t.mul] at h1;show K.mul (K.mul (s p.2) (K.mul (K.mul k k) k)) (K.mul (s p.2) (K.mul (K.mul k k) k)) = K.add (K.mul (K.mul (s p.1) (K.mul k k)) (K.mul (K.mul (s p.1) (K.mul k k)) (K.mul (s p.1) (K.mul k k)))) b;have e1 : K.mul (K.mul (s p.2) (K.mul (K.mul k k) k)) (K.mul (s p.2) (K.mul (K.mul k k) k)) = K.mul (K.mul (K.mul (K.mul k k) k) (K.mul (K.mul k k) k)) (K.mul (s p.2) (s p.2)):=aN K (bX K [s p.2,k]) (.mul (.mul (.v 0) (.mul (.mul (.v 1) (.v 1)) (.v 1))) (.mul (.v 0) (.mul (.mul (.v 1) (.v 1)) (.v 1)))) (.mul (.mul (.mul (.mul (.v 1) (.v 1)) (.v 1)) (.mul (.mul (.v 1) (.v 1)) (.v 1))) (.mul (.v 0) (.v 0))) (by decide);have e2 : K.mul (K.mul (s p.1) (K.mul k k)) (K.mul (K.mul (s p.1) (K.mul k k)) (K.mul (s p.1) (K.mul k k))) = K.mul (K.mul (K.mul (K.mul k k) k) (K.mul (K.mul k k) k)) (K.mul (s p.1) (K.mul (s p.1) (s p.1))):=aN K (bX K [s p.1,k]) (.mul (.mul (.v 0) (.mul (.v 1) (.v 1))) (.mul (.mul (.v 0) (.mul (.v 1) (.v 1))) (.mul (.v 0) (.mul (.v 1) (.v 1))))) (.mul (.mul (.mul (.mul (.v 1) (.v 1)) (.v 1)) (.mul (.mul (.v 1) (.v 1)) (.v 1))) (.mul (.v 0) (.mul (.v 0) (.v 0)))) (by decide);rw [e1,e2,h1,K.mul_add,t.hb]
theorem Do (t : Tw K b s k) (E : EC K inv b) {x1 y1 x2 y2 : R} (hp : On K b (some (x1,y1))) (hq : On K b (some (x2,y2))) (h : ¬ (x1 = x2 ∧ K.add y1 y2 = K.zero)) :
  fE K inv (K.mul (s x1) (K.mul k k)) (K.mul (s y1) (K.mul (K.mul k k) k)) (K.mul (s x2) (K.mul k k)) (K.mul (s y2) (K.mul (K.mul k k) k)) = K.mul (s (fE K inv x1 y1 x2 y2)) k:=by
 by_cases hx : x1 = x2
 ·subst hx;have hy : K.add y1 y2 ≠ K.zero:=fun e => h ⟨rfl,e⟩
  have hyy : y1 = y2:=by
   apply Classical.byContradiction;intro hn;exact hy (BX E (show K.mul y1 y1 = K.mul y2 y2 from (show K.mul y1 y1 = _ from hp).trans (show K.mul y2 y2 = _ from hq).symm) hn)
  subst hyy;have hl : K.mul (fE K inv x1 y1 x1 y1) (K.add y1 y1) = K.add (K.add (K.mul x1 x1) (K.mul x1 x1)) (K.mul x1 x1):=by
   unfold fE;rw [if_pos rfl,K.mul_assoc,K.mul_comm (inv _),E.F.inv _ hy,K.mul_one]
  generalize fE K inv x1 y1 x1 y1 = l at hl ⊢;have h1:=congrArg s hl;rw [t.mul,t.add,t.add,t.add,t.mul] at h1;have hys : K.add (s y1) (s y1) ≠ K.zero:=fun e => hy (t.inj (by rw [t.add,t.zero]; exact e))
  refine zE E ?_ ?_
  ·intro e;refine hys ?_;apply tY E (t.k3 E);rw [K.add_mul,e,K.mul_comm K.zero,K.mul_zero]
  ·have e1 : K.mul (K.mul (s l) k) (K.add (K.mul (s y1) (K.mul (K.mul k k) k)) (K.mul (s y1) (K.mul (K.mul k k) k))) = K.mul (K.mul (s l) (K.add (s y1) (s y1))) (K.mul (K.mul k k) (K.mul k k)):=aN K (bX K [s l,k,s y1]) (.mul (.mul (.v 0) (.v 1)) (.add (.mul (.v 2) (.mul (.mul (.v 1) (.v 1)) (.v 1))) (.mul (.v 2) (.mul (.mul (.v 1) (.v 1)) (.v 1))))) (.mul (.mul (.v 0) (.add (.v 2) (.v 2))) (.mul (.mul (.v 1) (.v 1)) (.mul (.v 1) (.v 1)))) (by decide);rw [e1,h1];exact aN K (bX K [s x1,k]) (.mul (.add (.add (.mul (.v 0) (.v 0)) (.mul (.v 0) (.v 0))) (.mul (.v 0) (.v 0))) (.mul (.mul (.v 1) (.v 1)) (.mul (.v 1) (.v 1)))) (.add (.add (.mul (.mul (.v 0) (.mul (.v 1) (.v 1))) (.mul (.v 0) (.mul (.v 1) (.v 1)))) (.mul (.mul (.v 0) (.mul (.v 1) (.v 1))) (.mul (.v 0) (.mul (.v 1) (.v 1))))) (.mul (.mul (.v 0) (.mul (.v 1) (.v 1))) (.mul (.v 0) (.mul (.v 1) (.v 1))))) (by decide)
 ·have hl : K.mul (fE K inv x1 y1 x2 y2) (K.sub x2 x1) = K.sub y2 y1:=by
   unfold fE;rw [if_neg hx,K.mul_assoc,K.mul_comm (inv _),E.F.inv _ (BT fun e => hx e.symm),K.mul_one]
  generalize fE K inv x1 y1 x2 y2 = l at hl ⊢;have h1:=congrArg s hl;rw [t.mul,t.sub,t.sub] at h1;refine sH E (fun e => hx (t.inj (tY E (t.k2 E) e))) ?_;have e1 : K.mul (K.mul (s l) k) (K.sub (K.mul (s x2) (K.mul k k)) (K.mul (s x1) (K.mul k k))) = K.mul (K.mul (s l) (K.sub (s x2) (s x1))) (K.mul (K.mul k k) k):=aN K (bX K [s l,k,s x1,s x2]) (.mul (.mul (.v 0) (.v 1)) (.add (.mul (.v 3) (.mul (.v 1) (.v 1))) (.neg (.mul (.v 2) (.mul (.v 1) (.v 1)))))) (.mul (.mul (.v 0) (.add (.v 3) (.neg (.v 2)))) (.mul (.mul (.v 1) (.v 1)) (.v 1))) (by decide);rw [e1,h1];exact aN K (bX K [s y1,k,s y2]) (.mul (.add (.v 2) (.neg (.v 0))) (.mul (.mul (.v 1) (.v 1)) (.v 1))) (.add (.mul (.v 2) (.mul (.mul (.v 1) (.v 1)) (.v 1))) (.neg (.mul (.v 0) (.mul (.mul (.v 1) (.v 1)) (.v 1))))) (by decide)
theorem aAi (t : Tw K b s k) (E : EC K inv b) : ∀ {P Q : Pt R},On K b P → On K b Q → tw K s k (sL K inv P Q) = sL K inv (tw K s k P) (tw K s k Q)
 | none,_,_,_ => rfl
 | some p,none,_,_ => rfl
 | some p,some q,hp,hq => by
  by_cases h : p.1 = q.1 ∧ K.add p.2 q.2 = K.zero
  ·rw [oU h];refine (oU ⟨?_,?_⟩).symm
   ·show K.mul (s p.1) _ = K.mul (s q.1) _;rw [h.1]
   ·show K.add (K.mul (s p.2) _) (K.mul (s q.2) _) = K.zero;rw [← K.add_mul,← t.add,h.2,t.zero,K.mul_comm,K.mul_zero]
  ·rw [kV h];have h' : ¬ (K.mul (s p.1) (K.mul k k) = K.mul (s q.1) (K.mul k k) ∧ K.add (K.mul (s p.2) (K.mul (K.mul k k) k)) (K.mul (s q.2) (K.mul (K.mul k k) k)) = K.zero):=fun e => h ⟨t.inj (tY E (t.k2 E) e.1),by
    have e2:=e.2;rw [← K.add_mul,← t.add] at e2;exact t.inj (by rw [t.zero]; exact tY E (t.k3 E) (by rw [e2,K.mul_comm K.zero,K.mul_zero]))⟩
   have hS:=kV (K:=K) (inv:=inv) (p:=(K.mul (s p.1) (K.mul k k),K.mul (s p.2) (K.mul (K.mul k k) k))) (q:=(K.mul (s q.1) (K.mul k k),K.mul (s q.2) (K.mul (K.mul k k) k))) h';refine Eq.trans ?_ hS.symm;rw [Do t E (x1:=p.1) (y1:=p.2) (x2:=q.1) (y2:=q.2) hp hq h];generalize fE K inv p.1 p.2 q.1 q.2 = l;have ex : s (sx K l p.1 q.1) = K.sub (K.sub (K.mul (s l) (s l)) (s p.1)) (s q.1):=by
    unfold sx;rw [t.sub,t.sub,t.mul]
   have ey : s (sy K l p.1 p.2 q.1) = K.sub (K.mul (s l) (K.sub (s p.1) (s (sx K l p.1 q.1)))) (s p.2):=by
    unfold sy;rw [t.sub,t.mul,t.sub]
   have fx : K.mul (s (sx K l p.1 q.1)) (K.mul k k) = sx K (K.mul (s l) k) (K.mul (s p.1) (K.mul k k)) (K.mul (s q.1) (K.mul k k)):=by
    rw [ex];exact aN K (bX K [s l,k,s p.1,s q.1]) (.mul (.add (.add (.mul (.v 0) (.v 0)) (.neg (.v 2))) (.neg (.v 3))) (.mul (.v 1) (.v 1))) (.add (.add (.mul (.mul (.v 0) (.v 1)) (.mul (.v 0) (.v 1))) (.neg (.mul (.v 2) (.mul (.v 1) (.v 1))))) (.neg (.mul (.v 3) (.mul (.v 1) (.v 1))))) (by decide)
   refine congrArg some (Prod.ext fx ?_);show K.mul (s (sy K l p.1 p.2 q.1)) (K.mul (K.mul k k) k) = sy K (K.mul (s l) k) (K.mul (s p.1) (K.mul k k)) (K.mul (s p.2) (K.mul (K.mul k k) k)) (K.mul (s q.1) (K.mul k k));rw [ey];unfold sy;rw [← fx];generalize s (sx K l p.1 q.1) = S;exact aN K (bX K [s l,k,s p.1,S,s p.2]) (.mul (.add (.mul (.v 0) (.add (.v 2) (.neg (.v 3)))) (.neg (.v 4))) (.mul (.mul (.v 1) (.v 1)) (.v 1))) (.add (.mul (.mul (.v 0) (.v 1)) (.add (.mul (.v 2) (.mul (.v 1) (.v 1))) (.neg (.mul (.v 3) (.mul (.v 1) (.v 1)))))) (.neg (.mul (.v 4) (.mul (.mul (.v 1) (.v 1)) (.v 1))))) (by decide)
end
def kE : Q2:=(⟨8376118865763821496583973867626364092589906065868298776909617916018768340080,by decide⟩,⟨16469823323077808223889137241176536799009286646108169935659301613961712198316,by decide⟩)
theorem WC : F2.mul kE kE = kR:=of_decide_eq_true (by kernel_rfl)
theorem aBv : F2.mul (F2.mul kE kE) kE = pK:=of_decide_eq_true (by kernel_rfl)
theorem aCI (x y : Q2) : cE (F2.add x y) = F2.add (cE x) (cE y):=Prod.ext rfl (aN F1 (bX F1 [x.2,y.2]) (.neg (.add (.v 0) (.v 1))) (.add (.neg (.v 0)) (.neg (.v 1))) (by decide))
theorem aCG (x y : Q2) : cE (F2.mul x y) = F2.mul (cE x) (cE y):=by
 refine Prod.ext ?_ ?_
 ·exact aN F1 (bX F1 [x.1,x.2,y.1,y.2]) (.add (.mul (.v 0) (.v 2)) (.mul (.neg .one) (.mul (.v 1) (.v 3)))) (.add (.mul (.v 0) (.v 2)) (.mul (.neg .one) (.mul (.neg (.v 1)) (.neg (.v 3))))) (by decide)
 ·exact aN F1 (bX F1 [x.1,x.2,y.1,y.2]) (.neg (.add (.mul (.v 0) (.v 3)) (.mul (.v 1) (.v 2)))) (.add (.mul (.v 0) (.neg (.v 3))) (.mul (.neg (.v 1)) (.v 2))) (by decide)
theorem Xn : Tw F2 qD cE kE where
 add:=aCI
 mul:=aCG
 neg:=fun x => rfl
 zero:=XJ
 ss:=fun x => Prod.ext rfl (aN F1 (bX F1 [x.2]) (.neg (.neg (.v 0))) (.v 0) (by decide))
 k0:=of_decide_eq_true (by kernel_rfl)
 hb:=of_decide_eq_true (by kernel_rfl)
theorem CN : ∀ P : Pt Q2,Sc P = tw F2 cE kE P
 | none => rfl
 | some p => by
  show some (F2.mul (cE p.1) kR,F2.mul (cE p.2) pK) = some (F2.mul (cE p.1) (F2.mul kE kE),F2.mul (cE p.2) (F2.mul (F2.mul kE kE) kE));rw [WC,← aBv,WC]
def JK (P : C2) : C2:=⟨Sc P.1,by rw [CN]; exact aEv Xn cC P.2⟩
theorem Sb (P Q : C2) : JK (cC.grp.add P Q) = cC.grp.add (JK P) (JK Q):=Subtype.ext (by
 show Sc (sL F2 iZ P.1 Q.1) = sL F2 iZ (Sc P.1) (Sc Q.1);rw [CN,CN,CN];exact aAi Xn cC P.2 Q.2)
theorem PZ (P : C2) : ∀ n,JK (cC.grp.ns n P) = cC.grp.ns n (JK P)
 | 0 => rfl
 | n + 1 => by
  show JK (cC.grp.add (cC.grp.ns n P) P) = cC.grp.add (cC.grp.ns n (JK P)) (JK P);rw [Sb,PZ P n]
theorem Sa : JK (sS Cu) = cC.grp.ns dB (sS Cu):=by
 refine Subtype.ext ?_;rw [Vi];show Sc (sS Cu).1 = _;rw [rV Yw,show Ph Cu = some (WM,Cc) from SG WM Cc]
 kernel_rfl
theorem Gu (n : Nat) : JK (cC.grp.ns n (sS Cu)) = cC.grp.ns dB (cC.grp.ns n (sS Cu)):=by
 rw [PZ,Sa,← cC.grp.ns_mul,← cC.grp.ns_mul,Nat.mul_comm]
theorem aHh (P : C2) : cU (tn2 P.1) = ((JK P).1,0):=by
 unfold cU;rw [if_neg (fun q => q (NP P.2)),Oa];rfl
theorem tIn (n : Nat) : iC (tn2 (cC.grp.ns n (sS Cu)).1) = true:=by
 unfold iC;rw [aHh,tM2,TL,Gu];exact decide_eq_true ⟨rfl,rfl⟩
namespace AG
variable {G : Type} (A : AG G)
theorem ns_modz {g : G} {n : Nat} (h : A.ns n g = A.zero) (m : Nat) : A.ns (m % n) g = A.ns m g:=by
 conv => rhs; rw [← Nat.div_add_mod m n,A.ns_add,A.ns_mul,h,A.ns_zero,A.zadd]
theorem ns_gcd {g : G} (a b : Nat) : A.ns a g = A.zero → A.ns b g = A.zero → A.ns (Nat.gcd a b) g = A.zero:=by
 induction a,b using Nat.gcd.induction with
 | H0 n => intro _ h; rw [Nat.gcd_zero_left]; exact h
 | H1 m n hm ih =>
  intro h1 h2;rw [Nat.gcd_rec];exact ih (by rw [A.ns_modz h1]; exact h2) h1
theorem exact {g : G} {N : Nat} {l : List Nat} (hl : l.foldr (· * ·) 1 = N) (hp : ∀ q,q ∈ l → cR q) (h0 : A.ns N g = A.zero) (hq : ∀ q,q ∈ l → A.ns (N / q) g ≠ A.zero) (k : Nat) (hk : 0 < k) (hN : k < N) : A.ns k g ≠ A.zero:=fun h => by
 have hd:=A.ns_gcd k N h h0;obtain ⟨e,he⟩:=Nat.gcd_dvd_right k N;have hdk : Nat.gcd k N ≤ k:=Nat.le_of_dvd hk (Nat.gcd_dvd_left k N);have hd0 : 0 < Nat.gcd k N:=Nat.gcd_pos_of_pos_left N hk;have he1 : 1 < e:=by
  rcases Nat.lt_or_ge 1 e with q | q
  ·exact q
  ·have : Nat.gcd k N * e ≤ Nat.gcd k N * 1:=Nat.mul_le_mul_left _ q;omega
 obtain ⟨q,hql,f,hf⟩:=oV l e (by rw [hl]; exact ⟨Nat.gcd k N,by rw [Nat.mul_comm]; exact he⟩) he1 hp;refine hq q hql ?_;have hq0 : 0 < q:=Nat.lt_trans Nat.zero_lt_one (hp q hql).1;have e1 : N / q = Nat.gcd k N * f:=by
  rw [Nat.div_eq_of_eq_mul_left hq0];rw [Nat.mul_assoc,Nat.mul_comm f q,← hf];exact he
 rw [e1,A.ns_mul,hd,A.ns_zero]
theorem ns_inj {g : G} {N : Nat} (h : ∀ k,0 < k → k < N → A.ns k g ≠ A.zero) {i j : Nat} (hi : i < N) (hj : j < N) (e : A.ns i g = A.ns j g) : i = j:=by
 have key : ∀ i j,i < j → j < N → A.ns i g = A.ns j g → False:=fun i j hij hj e => by
  refine h (j - i) (by omega) (by omega) ?_;have : A.ns j g = A.add (A.ns i g) (A.ns (j - i) g):=by rw [← A.ns_add,Nat.add_sub_cancel' (Nat.le_of_lt hij)]
  rw [this] at e;refine A.cancel (a:=A.ns i g) ?_;rw [← e,A.addz]
 rcases Nat.lt_trichotomy i j with q | q | q
 ·exact (key i j q hj e).elim
 ·exact q
 ·exact (key j i q hi e.symm).elim
theorem ns_dvd {g : G} {N : Nat} (hN : 0 < N) (h0 : A.ns N g = A.zero) (h : ∀ k,0 < k → k < N → A.ns k g ≠ A.zero) (a : Nat) : A.ns a g = A.zero ↔ N ∣ a:=by
 constructor
 ·intro e;refine Nat.dvd_of_mod_eq_zero ?_
  rcases Nat.eq_zero_or_pos (a % N) with q | q
  ·exact q
  ·exact (h (a % N) q (Nat.mod_lt _ hN) (by rw [A.ns_modz h0]; exact e)).elim
 ·rintro ⟨f,rfl⟩
  rw [A.ns_mul,h0,A.ns_zero]
theorem ns_back {g : G} {N : Nat} (h0 : A.ns N g = A.zero) {j : Nat} (hj : j ≤ N) : A.add (A.ns j g) (A.ns (N - j) g) = A.zero:=by
 rw [← A.ns_add,Nat.add_sub_cancel' hj,h0]
theorem cyclic {g : G} {N M : Nat} (hN : N % 2 = 1) (h0 : A.ns N g = A.zero) (h : ∀ k,0 < k → k < N → A.ns k g ≠ A.zero) (two : ∀ P,A.add P P = A.zero → P = A.zero)
  (code : G → Nat) (hc : ∀ P,code P < M) (hi : ∀ P Q,code P = code Q → P = Q) (hM : M < 3 * N) (P : G) : ∃ k,P = A.ns k g:=by
 apply Classical.byContradiction;intro hP;have hsub : ∀ i j,j < N → ∀ Q,A.ns i g = A.add Q (A.ns j g) → ∃ k,Q = A.ns k g:=fun i j hj Q e => by
  refine ⟨i + (N - j),?_⟩;rw [A.ns_add,e,A.assoc,A.ns_back h0 (Nat.le_of_lt hj),A.addz]
 by_cases hD : ∃ k,A.add P P = A.ns k g
 ·obtain ⟨k,hk⟩:=hD;obtain ⟨j,hj⟩ : ∃ j,A.ns (j + j) g = A.add P P:=by
   rcases Nat.mod_two_eq_zero_or_one k with q | q
   ·exact ⟨k / 2,by rw [hk,show k / 2 + k / 2 = k by omega]⟩
   ·refine ⟨(k + N) / 2,?_⟩;rw [hk,show (k + N) / 2 + (k + N) / 2 = k + N by omega,A.ns_add,h0,A.addz]
  have hz:=two (A.add P (A.neg (A.ns j g))) (by
   rw [A.add4,← hj,← A.neg_add,← A.ns_add,A.addn])
  refine hP ⟨j,?_⟩;refine A.cancel (a:=A.neg (A.ns j g)) ?_;rw [A.nadd,A.comm,hz]
 ·have pg:=Hq (3 * N) (fun i => if i < N then code (A.ns i g) else if i < 2 * N then code (A.add P (A.ns (i - N) g)) else code (A.add (A.add P P) (A.ns (i - 2 * N) g)))
   (fun i _ => by
    show (if i < N then _ else if i < 2 * N then _ else _) < 3 * N;split
    ·exact Nat.lt_trans (hc _) hM
    ·split
     ·exact Nat.lt_trans (hc _) hM
     ·exact Nat.lt_trans (hc _) hM)
   (fun i j hi3 hj3 e => by
    have e' : (if i < N then code (A.ns i g) else if i < 2 * N then code (A.add P (A.ns (i - N) g)) else code (A.add (A.add P P) (A.ns (i - 2 * N) g))) = (if j < N then code (A.ns j g) else if j < 2 * N then code (A.add P (A.ns (j - N) g)) else code (A.add (A.add P P) (A.ns (j - 2 * N) g))):=e
    by_cases i1 : i < N
    ·rw [if_pos i1] at e'
     by_cases j1 : j < N
     ·rw [if_pos j1] at e';exact A.ns_inj h i1 j1 (hi _ _ e')
     ·rw [if_neg j1] at e'
      by_cases j2 : j < 2 * N
      ·rw [if_pos j2] at e';exact (hP (hsub _ _ (by omega) _ (hi _ _ e'))).elim
      ·rw [if_neg j2] at e';exact (hD (hsub _ _ (by omega) _ (hi _ _ e'))).elim
    ·rw [if_neg i1] at e'
     by_cases i2 : i < 2 * N
     ·rw [if_pos i2] at e'
      by_cases j1 : j < N
      ·rw [if_pos j1] at e';exact (hP (hsub _ _ (by omega) _ (hi _ _ e'.symm))).elim
      ·rw [if_neg j1] at e'
       by_cases j2 : j < 2 * N
       ·rw [if_pos j2] at e';have:=A.ns_inj h (i:=i - N) (j:=j - N) (by omega) (by omega) (A.cancel (hi _ _ e'));omega
       ·rw [if_neg j2] at e';have e2:=hi _ _ e';rw [A.assoc] at e2;exact (hP (hsub _ _ (by omega) _ (A.cancel e2))).elim
     ·rw [if_neg i2] at e'
      by_cases j1 : j < N
      ·rw [if_pos j1] at e';exact (hD (hsub _ _ (by omega) _ (hi _ _ e'.symm))).elim
      ·rw [if_neg j1] at e'
       by_cases j2 : j < 2 * N
       ·rw [if_pos j2] at e';have e2:=(hi _ _ e').symm;rw [A.assoc] at e2;exact (hP (hsub _ _ (by omega) _ (A.cancel e2))).elim
       ·rw [if_neg j2] at e';have:=A.ns_inj h (i:=i - 2 * N) (j:=j - 2 * N) (by omega) (by omega) (A.cancel (hi _ _ e'));omega) M hM
  obtain ⟨i,_,hiM⟩:=pg;have : (if i < N then code (A.ns i g) else if i < 2 * N then code (A.add P (A.ns (i - N) g)) else code (A.add (A.add P P) (A.ns (i - 2 * N) g))) = M:=hiM;have hlt : (if i < N then code (A.ns i g) else if i < 2 * N then code (A.add P (A.ns (i - N) g)) else code (A.add (A.add P P) (A.ns (i - 2 * N) g))) < M:=by
   split
   ·exact hc _
   ·split
    ·exact hc _
    ·exact hc _
  omega
end AG
end Go.Proofs.YtfnkbmlmgnadmaaGreat.Ex
namespace Go.Proofs.YtfnkbmlmgnadmaaGreat
open Go.Proofs.Tryz
theorem Bd : cR 10069:=aJ 10069 100 (by decide) (by decide) (by kernel_rfl)
theorem Sp : cR 181:=aJ 181 13 (by decide) (by decide) (by kernel_rfl)
theorem CF : Root 5864401 38:=by
 refine aX (l:=[2,2,2,2,3,3,3,3,5,5,181]) (by kernel_rfl) fun q hq => ?_
 simp only [List.mem_cons,List.not_mem_nil,or_false] at hq
 rcases hq with rfl | rfl | rfl | rfl | rfl | rfl | rfl | rfl | rfl | rfl | rfl
 ·exact aR
 ·exact aR
 ·exact aR
 ·exact aR
 ·exact dD
 ·exact dD
 ·exact dD
 ·exact dD
 ·exact gH
 ·exact gH
 ·exact Sp
theorem JL : cR 5864401:=CF.prm
theorem So : cR 199:=aJ 199 14 (by decide) (by decide) (by kernel_rfl)
theorem Hd : cR 1511:=aJ 1511 38 (by decide) (by decide) (by kernel_rfl)
theorem JA : Root 601379 2:=by
 refine aX (l:=[2,199,1511]) (by kernel_rfl) fun q hq => ?_
 simp only [List.mem_cons,List.not_mem_nil,or_false] at hq
 rcases hq with rfl | rfl | rfl
 ·exact aR
 ·exact So
 ·exact Hd
theorem QA : cR 601379:=JA.prm
theorem qQ : Root 17367825521 3:=by
 refine aX (l:=[2,2,2,2,5,19,19,601379]) (by kernel_rfl) fun q hq => ?_
 simp only [List.mem_cons,List.not_mem_nil,or_false] at hq
 rcases hq with rfl | rfl | rfl | rfl | rfl | rfl | rfl | rfl
 ·exact aR
 ·exact aR
 ·exact aR
 ·exact aR
 ·exact gH
 ·exact qW
 ·exact qW
 ·exact QA
theorem tE : cR 17367825521:=qQ.prm
theorem nV : Root 1875725156269 2:=by
 refine aX (l:=[2,2,3,3,3,17367825521]) (by kernel_rfl) fun q hq => ?_
 simp only [List.mem_cons,List.not_mem_nil,or_false] at hq
 rcases hq with rfl | rfl | rfl | rfl | rfl | rfl
 ·exact aR
 ·exact aR
 ·exact dD
 ·exact dD
 ·exact dD
 ·exact tE
theorem oX : cR 1875725156269:=nV.prm
theorem aAI : cR 59:=aJ 59 7 (by decide) (by decide) (by kernel_rfl)
theorem aAJ : cR 43:=aJ 43 6 (by decide) (by decide) (by kernel_rfl)
theorem Hb : cR 23:=aJ 23 4 (by decide) (by decide) (by kernel_rfl)
theorem Sh : cR 727:=aJ 727 26 (by decide) (by decide) (by kernel_rfl)
theorem JE : Root 133769 3:=by
 refine aX (l:=[2,2,2,23,727]) (by kernel_rfl) fun q hq => ?_
 simp only [List.mem_cons,List.not_mem_nil,or_false] at hq
 rcases hq with rfl | rfl | rfl | rfl | rfl
 ·exact aR
 ·exact aR
 ·exact aR
 ·exact Hb
 ·exact Sh
theorem QE : cR 133769:=JE.prm
theorem aAH : cR 61:=aJ 61 7 (by decide) (by decide) (by kernel_rfl)
theorem Sr : cR 149:=aJ 149 12 (by decide) (by decide) (by kernel_rfl)
theorem CG : Root 5835139 3:=by
 refine aX (l:=[2,3,61,107,149]) (by kernel_rfl) fun q hq => ?_
 simp only [List.mem_cons,List.not_mem_nil,or_false] at hq
 rcases hq with rfl | rfl | rfl | rfl | rfl
 ·exact aR
 ·exact dD
 ·exact aAH
 ·exact UO
 ·exact Sr
theorem JM : cR 5835139:=CG.prm
theorem vI : Root 758568071 14:=by
 refine aX (l:=[2,5,13,5835139]) (by kernel_rfl) fun q hq => ?_
 simp only [List.mem_cons,List.not_mem_nil,or_false] at hq
 rcases hq with rfl | rfl | rfl | rfl
 ·exact aR
 ·exact gH
 ·exact CQ
 ·exact JM
theorem yV : cR 758568071:=vI.prm
theorem jP : Root 1309000310535827101 2:=by
 refine aX (l:=[2,2,3,5,5,43,133769,758568071]) (by kernel_rfl) fun q hq => ?_
 simp only [List.mem_cons,List.not_mem_nil,or_false] at hq
 rcases hq with rfl | rfl | rfl | rfl | rfl | rfl | rfl | rfl
 ·exact aR
 ·exact aR
 ·exact dD
 ·exact gH
 ·exact gH
 ·exact aAJ
 ·exact QE
 ·exact yV
theorem jY : cR 1309000310535827101:=jP.prm
theorem Sq : cR 157:=aJ 157 12 (by decide) (by decide) (by kernel_rfl)
theorem CL : Root 1233079 11:=by
 refine aX (l:=[2,3,7,11,17,157]) (by kernel_rfl) fun q hq => ?_
 simp only [List.mem_cons,List.not_mem_nil,or_false] at hq
 rcases hq with rfl | rfl | rfl | rfl | rfl | rfl
 ·exact aR
 ·exact dD
 ·exact vO
 ·exact CS
 ·exact Hc
 ·exact Sq
theorem JS : cR 1233079:=CL.prm
theorem Hf : cR 1031:=aJ 1031 32 (by decide) (by decide) (by kernel_rfl)
theorem Ba : cR 77339:=aJ 77339 278 (by decide) (by decide) (by kernel_rfl)
theorem Gz : cR 3359:=aJ 3359 57 (by decide) (by decide) (by kernel_rfl)
theorem JC : Root 268721 3:=by
 refine aX (l:=[2,2,2,2,5,3359]) (by kernel_rfl) fun q hq => ?_
 simp only [List.mem_cons,List.not_mem_nil,or_false] at hq
 rcases hq with rfl | rfl | rfl | rfl | rfl | rfl
 ·exact aR
 ·exact aR
 ·exact aR
 ·exact aR
 ·exact gH
 ·exact Gz
theorem QC : cR 268721:=JC.prm
theorem CJ : Root 1612327 5:=by
 refine aX (l:=[2,3,268721]) (by kernel_rfl) fun q hq => ?_
 simp only [List.mem_cons,List.not_mem_nil,or_false] at hq
 rcases hq with rfl | rfl | rfl
 ·exact aR
 ·exact dD
 ·exact QC
theorem JQ : cR 1612327:=CJ.prm
theorem lT : Root 677736056450657 3:=by
 refine aX (l:=[2,2,2,2,2,7,23,83,983,1612327]) (by kernel_rfl) fun q hq => ?_
 simp only [List.mem_cons,List.not_mem_nil,or_false] at hq
 rcases hq with rfl | rfl | rfl | rfl | rfl | rfl | rfl | rfl | rfl | rfl
 ·exact aR
 ·exact aR
 ·exact aR
 ·exact aR
 ·exact aR
 ·exact vO
 ·exact Hb
 ·exact Gv
 ·exact CP
 ·exact JQ
theorem nB : cR 677736056450657:=lT.prm
theorem iL : Root 209661715479349446893 2:=by
 refine aX (l:=[2,2,77339,677736056450657]) (by kernel_rfl) fun q hq => ?_
 simp only [List.mem_cons,List.not_mem_nil,or_false] at hq
 rcases hq with rfl | rfl | rfl | rfl
 ·exact aR
 ·exact aR
 ·exact Ba
 ·exact nB
theorem jA : cR 209661715479349446893:=iL.prm
theorem fV : Root 3458579658547348475946929 3:=by
 refine aX (l:=[2,2,2,2,1031,209661715479349446893]) (by kernel_rfl) fun q hq => ?_
 simp only [List.mem_cons,List.not_mem_nil,or_false] at hq
 rcases hq with rfl | rfl | rfl | rfl | rfl | rfl
 ·exact aR
 ·exact aR
 ·exact aR
 ·exact aR
 ·exact Hf
 ·exact jA
theorem gI : cR 3458579658547348475946929:=fV.prm
theorem dZ : Root 213235097339095295568608163219551 31:=by
 refine aX (l:=[2,5,5,1233079,3458579658547348475946929]) (by kernel_rfl) fun q hq => ?_
 simp only [List.mem_cons,List.not_mem_nil,or_false] at hq
 rcases hq with rfl | rfl | rfl | rfl | rfl
 ·exact aR
 ·exact gH
 ·exact gH
 ·exact JS
 ·exact gI
theorem eG : cR 213235097339095295568608163219551:=dZ.prm
theorem cJ : Root 197620364512881247228717050342013327560683201906968909 2:=by
 refine aX (l:=[2,2,3,59,1309000310535827101,213235097339095295568608163219551]) (by kernel_rfl) fun q hq => ?_
 simp only [List.mem_cons,List.not_mem_nil,or_false] at hq
 rcases hq with rfl | rfl | rfl | rfl | rfl | rfl
 ·exact aR
 ·exact aR
 ·exact dD
 ·exact aAI
 ·exact jY
 ·exact eG
theorem cK : cR 197620364512881247228717050342013327560683201906968909:=cJ.prm
end Go.Proofs.YtfnkbmlmgnadmaaGreat
namespace Go.Proofs.YtfnkbmlmgnadmaaGreat.Ex
open Go.Proofs.Tryz
open Go.RowKit
def GE : Q2:=(⟨2,by decide⟩,⟨1,by decide⟩)
def ND : Q2:=(⟨7292567877523311580221095596750716176434782432868683424513645834767876293070,by decide⟩,⟨19659275751359636165940301690575149581329631496732780143538578556285923319774,by decide⟩)
def yG : Nat:=479095176016622842441988045216678740799252316531100822436447802254070093686356349204969212544220033486413271283566945264650845755880805213916963058350733
def twM : Nat:=287457105609973705413735949925891179998572849537316190965553840838426151215824331271088064391342496698406609565003789524066463657087527623491112425449299
theorem Dq : On F2 qD (some (GE,ND)):=by
 show F2.mul ND ND = F2.add (F2.mul GE (F2.mul GE GE)) qD;exact of_decide_eq_true (by kernel_rfl)
def FN : C2:=⟨some (GE,ND),Dq⟩
theorem NM : Rp cC (GE,ND,F2.one) FN:=cC.jto_one _ _
theorem aHa : (FO F2 (GE,ND,F2.one) yG 508 508).2.2 = F2.zero:=of_decide_eq_true (by kernel_rfl)
theorem aAf : (FO F2 (GE,ND,F2.one) 21888242871839275222246405745257275088844257914179612981679871602714643921549 508 508).2.2 ≠ F2.zero:=of_decide_eq_true (by kernel_rfl)
theorem aAe : (FO F2 (GE,ND,F2.one) 47581207271489010074683488451353534690560365133687637544587129035065060451520145913692443394996527310200940637954806362563397135354136976255533127257 508 508).2.2 ≠ F2.zero:=of_decide_eq_true (by kernel_rfl)
theorem aAd : (FO F2 (GE,ND,F2.one) 81695500702735512534355690413510048306596413944254634435204516583035521221409714172848891565263022342164744751180375500353888786916311693882625533 508 508).2.2 ≠ F2.zero:=of_decide_eq_true (by kernel_rfl)
theorem aAc : (FO F2 (GE,ND,F2.one) 255418644045692602095536823547820102522999221828645151339294751423486163211343406059815000057572293107810899582329754326227174532880069378657 508 508).2.2 ≠ F2.zero:=of_decide_eq_true (by kernel_rfl)
theorem aAb : (FO F2 (GE,ND,F2.one) 2424320880075062131686333725919013315836351602446602932909956992302697742401182419325566481532687937 508 508).2.2 ≠ F2.zero:=of_decide_eq_true (by kernel_rfl)
theorem aAj : yG < 2 ^ 508:=of_decide_eq_true (by kernel_rfl)
theorem aAk : twM < 2 ^ 508:=of_decide_eq_true (by kernel_rfl)
theorem BM : cC.grp.ns yG FN = cC.grp.zero:=Subtype.ext ((uJ NM yG 508 aAj).symm.trans (cQ aHa))
theorem GC {n : Nat} (hn : n < 2 ^ 508) (h : (FO F2 (GE,ND,F2.one) n 508 508).2.2 ≠ F2.zero) : cC.grp.ns n FN ≠ cC.grp.zero:=fun e => by
 have h1 : gC F2 iZ (FO F2 (GE,ND,F2.one) n 508 508) = (cC.grp.ns n FN).1:=uJ NM n 508 hn;rw [e,dF h] at h1;cases h1
def twL : List Nat:=[21888242871839275222246405745257275088548364400416034343698204186575808495617,10069,5864401,1875725156269,197620364512881247228717050342013327560683201906968909]
theorem Dr : twL.foldr (· * ·) 1 = yG:=by kernel_rfl
theorem Pm : ∀ q,q ∈ twL → cR q:=fun q hq => by
 simp only [twL,List.mem_cons,List.not_mem_nil,or_false] at hq
 rcases hq with rfl | rfl | rfl | rfl | rfl
 ·exact aEO
 ·exact Bd
 ·exact JL
 ·exact oX
 ·exact cK
theorem aAm : ∀ q,q ∈ twL → cC.grp.ns (yG / q) FN ≠ cC.grp.zero:=fun q hq => by
 simp only [twL,List.mem_cons,List.not_mem_nil,or_false] at hq
 rcases hq with rfl | rfl | rfl | rfl | rfl
 ·rw [show yG / 21888242871839275222246405745257275088548364400416034343698204186575808495617 = 21888242871839275222246405745257275088844257914179612981679871602714643921549 by kernel_rfl]; exact GC (of_decide_eq_true (by kernel_rfl)) aAf
 ·rw [show yG / 10069 = 47581207271489010074683488451353534690560365133687637544587129035065060451520145913692443394996527310200940637954806362563397135354136976255533127257 by kernel_rfl]; exact GC (of_decide_eq_true (by kernel_rfl)) aAe
 ·rw [show yG / 5864401 = 81695500702735512534355690413510048306596413944254634435204516583035521221409714172848891565263022342164744751180375500353888786916311693882625533 by kernel_rfl]; exact GC (of_decide_eq_true (by kernel_rfl)) aAd
 ·rw [show yG / 1875725156269 = 255418644045692602095536823547820102522999221828645151339294751423486163211343406059815000057572293107810899582329754326227174532880069378657 by kernel_rfl]; exact GC (of_decide_eq_true (by kernel_rfl)) aAc
 ·rw [show yG / 197620364512881247228717050342013327560683201906968909 = 2424320880075062131686333725919013315836351602446602932909956992302697742401182419325566481532687937 by kernel_rfl]; exact GC (of_decide_eq_true (by kernel_rfl)) aAb
theorem uV : ∀ k,0 < k → k < yG → cC.grp.ns k FN ≠ cC.grp.zero:=cC.grp.exact Dr Pm BM aAm
theorem Zy (P : C2) (h : cC.grp.add P P = cC.grp.zero) : P = cC.grp.zero:=by
 have h1 : cC.grp.neg P = P:=by
  refine cC.grp.cancel (a:=P) ?_;rw [cC.grp.addn,h]
 obtain ⟨P,hP⟩:=P;cases P with
 | none => rfl
 | some p =>
  have h2 : some (p.1,F2.neg p.2) = some p:=congrArg Subtype.val h1;have h3 : F2.neg p.2 = p.2:=by injection h2 with h2; exact congrArg Prod.snd h2
  have h4 : F2.add p.2 p.2 = F2.zero:=by
   conv => lhs; lhs; rw [← h3]
   exact F2.neg_add _
  exact (cC.dbl_ne (cC.y_ne (x:=p.1) hP) h4).elim
open Classical in
def hO (x : Q2) : Q2:=if h : ∃ y,On F2 qD (some (x,y)) then h.choose else F2.zero
open Classical in
def qH (P : C2) : Nat:=match P.1 with
 | none => 2 * (FP.M * FP.M)
 | some p => 2 * (p.1.1.1 + FP.M * p.1.2.1) + (if p.2 = hO p.1 then 0 else 1)
theorem RB {a b M : Nat} (ha : a < M) (hb : b < M) : a + M * b < M * M:=by
 have : M * (b + 1) ≤ M * M:=Nat.mul_le_mul_left _ hb;rw [Nat.mul_add,Nat.mul_one] at this;omega
theorem YI (P : C2) : qH P < 2 * (FP.M * FP.M) + 1:=by
 obtain ⟨P,hP⟩:=P;unfold qH;cases P with
 | none => exact Nat.lt_succ_self _
 | some p =>
  have:=RB p.1.1.2 p.1.2.2;show 2 * (p.1.1.1 + FP.M * p.1.2.1) + (if p.2 = hO p.1 then 0 else 1) < _;split <;> omega
theorem Uq {a b c d M : Nat} (ha : a < M) (hc : c < M) (h : a + M * b = c + M * d) : a = c ∧ b = d:=by
 have h1:=congrArg (· % M) h;simp only [Nat.add_mul_mod_self_left,Nat.mod_eq_of_lt ha,Nat.mod_eq_of_lt hc] at h1;refine ⟨h1,?_⟩;rw [h1] at h;have hM : 0 < M:=by omega
 exact Nat.eq_of_mul_eq_mul_left hM (by omega)
theorem NN (P Q : C2) (h : qH P = qH Q) : P = Q:=by
 obtain ⟨P,hP⟩:=P;obtain ⟨Q,hQ⟩:=Q;refine Subtype.ext ?_;show P = Q;unfold qH at h;cases P with
 | none =>
  cases Q with
  | none => rfl
  | some q =>
   have:=RB q.1.1.2 q.1.2.2;have h' : 2 * (FP.M * FP.M) = 2 * (q.1.1.1 + FP.M * q.1.2.1) + (if q.2 = hO q.1 then 0 else 1):=h;split at h' <;> omega
 | some p =>
  cases Q with
  | none =>
   have:=RB p.1.1.2 p.1.2.2;have h' : 2 * (p.1.1.1 + FP.M * p.1.2.1) + (if p.2 = hO p.1 then 0 else 1) = 2 * (FP.M * FP.M):=h;split at h' <;> omega
  | some q =>
   have h' : 2 * (p.1.1.1 + FP.M * p.1.2.1) + (if p.2 = hO p.1 then 0 else 1) = 2 * (q.1.1.1 + FP.M * q.1.2.1) + (if q.2 = hO q.1 then 0 else 1):=h;have hx : p.1.1.1 + FP.M * p.1.2.1 = q.1.1.1 + FP.M * q.1.2.1 ∧ ((p.2 = hO p.1) ↔ (q.2 = hO q.1)):=by
    by_cases a : p.2 = hO p.1
    ·rw [if_pos a] at h'
     by_cases b : q.2 = hO q.1
     ·rw [if_pos b] at h'; exact ⟨by omega,fun _ => b,fun _ => a⟩
     ·rw [if_neg b] at h'; omega
    ·rw [if_neg a] at h'
     by_cases b : q.2 = hO q.1
     ·rw [if_pos b] at h'; omega
     ·rw [if_neg b] at h'; exact ⟨by omega,fun h => (a h).elim,fun h => (b h).elim⟩
   obtain ⟨e1,e2⟩:=Uq p.1.1.2 q.1.1.2 hx.1;have ex : p.1 = q.1:=Prod.ext (Fin.ext e1) (Fin.ext e2);obtain ⟨px,py⟩:=p;obtain ⟨qx,qy⟩:=q;have ex' : px = qx:=ex;subst ex';have hb : (py = hO px) ↔ (qy = hO px):=hx.2;refine congrArg (fun y => some (px,y)) ?_
   by_cases a : py = hO px
   ·rw [a,← hb.1 a]
   ·have b : qy ≠ hO px:=fun h => a (hb.2 h)
    have hy0 : On F2 qD (some (px,hO px)):=by
     have hex : ∃ y,On F2 qD (some (px,y)):=⟨py,hP⟩
     unfold hO;rw [dif_pos hex];exact hex.choose_spec
    have s1 : F2.add py (hO px) = F2.zero:=BX cC ((show F2.mul py py = _ from hP).trans (show F2.mul (hO px) (hO px) = _ from hy0).symm) a;have s2 : F2.add qy (hO px) = F2.zero:=BX cC ((show F2.mul qy qy = _ from hQ).trans (show F2.mul (hO px) (hO px) = _ from hy0).symm) b;refine F2.add_cancel (a:=hO px) ?_;rw [F2.add_comm,s1,F2.add_comm,s2]
theorem aAg : 2 * (FP.M * FP.M) + 1 < 3 * yG:=of_decide_eq_true (by kernel_rfl)
theorem aAa : yG % 2 = 1:=by kernel_rfl
theorem aAh (P : C2) : ∃ k,P = cC.grp.ns k FN:=cC.grp.cyclic aAa BM uV Zy qH YI NN aAg P
def aHd : Q2:=F2.mul (cE GE) kR
def aHc : Q2:=F2.mul (cE ND) pK
def Pe : J2:=FO F2 (GE,ND,F2.one) twM 508 508
theorem aHe : Pe.2.2 ≠ F2.zero:=of_decide_eq_true (by kernel_rfl)
theorem aHg : Pe.1 = F2.mul aHd (F2.mul Pe.2.2 Pe.2.2):=of_decide_eq_true (by kernel_rfl)
theorem aHf : Pe.2.1 = F2.mul aHc (F2.mul (F2.mul Pe.2.2 Pe.2.2) Pe.2.2):=of_decide_eq_true (by kernel_rfl)
theorem aAp : Rp cC Pe (cC.grp.ns twM FN):=uJ NM twM 508 aAk
theorem Zz : JK FN = cC.grp.ns twM FN:=by
 refine Subtype.ext ?_;rw [← show gC F2 iZ Pe = (cC.grp.ns twM FN).1 from aAp,LF cC aHe aHg aHf];show Sc (some (GE,ND)) = _
 kernel_rfl
def twC : Nat:=287457105609973705413735949925891179998572849537316190965553840838426151215824331271088064391342496698406609565003641577309581867768536789783043007736333
def twU : Nat:=4377648574367855045624726741130453375770005524880588749457117171343633558474
def twW : Nat:=2626589144620713026904657807846672682105704487528335372401875091607964744325
theorem aAn : twM = dB + twC:=by kernel_rfl
theorem Pn : twC = Ye * 13132945723103565130996952262996368337156300107536646163745009583754801998349:=by kernel_rfl
theorem aEx : twC * twU = Ye + yG * twW:=by kernel_rfl
theorem Dp : 0 < yG:=of_decide_eq_true (by kernel_rfl)
theorem Ki (P : C2) : cC.grp.ns dB P = JK P ↔ cC.grp.ns Ye P = cC.grp.zero:=by
 obtain ⟨k,rfl⟩:=aAh P;have e1 : JK (cC.grp.ns k FN) = cC.grp.add (cC.grp.ns dB (cC.grp.ns k FN)) (cC.grp.ns (k * twC) FN):=by
  rw [PZ,Zz,← cC.grp.ns_mul,← cC.grp.ns_mul,← cC.grp.ns_add,aAn,Nat.add_mul,Nat.mul_comm dB,Nat.mul_comm twC]
 have e2 : cC.grp.ns dB (cC.grp.ns k FN) = JK (cC.grp.ns k FN) ↔ cC.grp.ns (k * twC) FN = cC.grp.zero:=by
  rw [e1];constructor
  ·intro h;refine cC.grp.cancel (a:=cC.grp.ns dB (cC.grp.ns k FN)) ?_;rw [← h,cC.grp.addz]
  ·intro h;rw [h,cC.grp.addz]
 rw [e2,← cC.grp.ns_mul,cC.grp.ns_dvd Dp BM uV,cC.grp.ns_dvd Dp BM uV];constructor
 ·rintro ⟨f,hf⟩
  have h1 : k * Ye + yG * (k * twW) = yG * (f * twU):=by
   have h2 : k * (twC * twU) = yG * (f * twU):=by rw [← Nat.mul_assoc,hf,Nat.mul_assoc]
   rw [aEx,Nat.mul_add,Nat.mul_left_comm k yG] at h2;exact h2
  have h3 : yG ∣ k * Ye + yG * (k * twW):=⟨_,h1⟩;exact (Nat.dvd_add_left ⟨_,rfl⟩).1 h3
 ·rintro ⟨f,hf⟩
  rw [Pn,← Nat.mul_assoc,hf];exact ⟨f * 13132945723103565130996952262996368337156300107536646163745009583754801998349,Nat.mul_assoc _ _ _⟩
theorem WG (p : bY) : iC p = true ↔ ((dT p).1 = 0 ∧ (CC (Zu p) Go.Proofs.YtfnkbmlmgnadmaaGreat.FR.M (dQ Go.Proofs.YtfnkbmlmgnadmaaGreat.FR.M) (dQ Go.Proofs.YtfnkbmlmgnadmaaGreat.FR.M)).2.2 = F2.zero):=by
 unfold iC;rw [decide_eq_true_iff]
 by_cases h : (dT p).1 = 0
 ·have hr : Rp cC (CC (Zu p) Go.Proofs.YtfnkbmlmgnadmaaGreat.FR.M (dQ Go.Proofs.YtfnkbmlmgnadmaaGreat.FR.M) (dQ Go.Proofs.YtfnkbmlmgnadmaaGreat.FR.M)) (cC.grp.ns Ye (sS p)):=by
   have:=IX (aCv h) Go.Proofs.YtfnkbmlmgnadmaaGreat.FR.M (dQ Go.Proofs.YtfnkbmlmgnadmaaGreat.FR.M) (Nat.le_refl _)
   rwa [Nat.sub_self,Nat.pow_zero,Nat.div_one,Zs] at this
  have h1 : cU p = ((JK (sS p)).1,0):=by
   unfold cU;rw [if_neg (fun q => q h),← rV h];rfl
  have h2 : fO (fun _ => p) (fun _ => dB) 1 = ((cC.grp.ns dB (sS p)).1,0):=by
   rw [UG,if_neg (fun q => q h),TL]
  have a1 : (cU p).2 = 0:=by rw [h1]
  have a2 : (cU p).1 = (JK (sS p)).1:=by rw [h1]
  have a3 : (fO (fun _ => p) (fun _ => dB) 1).1 = (cC.grp.ns dB (sS p)).1:=by rw [h2]
  rw [a1,a2,a3];constructor
  ·rintro ⟨_,e⟩
   refine ⟨h,?_⟩;have e2:=(Ki (sS p)).1 (Subtype.ext e);rw [e2] at hr;apply Classical.byContradiction;intro hn;have h3:=dF (K:=F2) (inv:=iZ) hn;rw [show gC F2 iZ _ = _ from hr] at h3;cases h3
  ·rintro ⟨_,e⟩
   refine ⟨rfl,?_⟩;have e2 : cC.grp.ns Ye (sS p) = cC.grp.zero:=Subtype.ext ((show gC F2 iZ _ = _ from hr).symm.trans (cQ e));exact congrArg Subtype.val ((Ki (sS p)).2 e2)
 ·constructor
  ·rintro ⟨e,_⟩
   have h1 : cU p = (some (F2.zero,F2.zero),(dT p).1):=if_pos h;rw [h1] at e;exact (h e).elim
  ·rintro ⟨e,_⟩
   exact (h e).elim
def gIc (c : Bool) : gE:=g1 As fun p => ([iC p = c],.one (.im (.bool c)))
theorem aBS (c : Bool) : ∀ cs pre r,gIc c cs = some (pre,r) → aL pre → ∀ (args : List Value) (w : World),bD w cs args → Good prog 29 r args w :=
 cM (op:=fun p => ([iC p = c],.one (.im (.bool c)))) iN fun p hp args w ha => by
  have h:=Kj p args w ha;rw [show iC p = c from hp.1] at h;exact h
theorem XL : ∃ g : bY → Int,∀ p,g p = if (fM p.1 p.2.1 p.2.2).1 ≠ 0 then (fM p.1 p.2.1 p.2.2).1 else if iC p = true then 0 else 42:=⟨fun p => if (fM p.1 p.2.1 p.2.2).1 ≠ 0 then (fM p.1 p.2.1 p.2.2).1 else if iC p = true then 0 else 42,fun _ => rfl⟩
def cF : bY → Int:=Classical.choose XL
theorem pU (p : bY) : cF p = if (fM p.1 p.2.1 p.2.2).1 ≠ 0 then (fM p.1 p.2.1 p.2.2).1 else if iC p = true then 0 else 42:=Classical.choose_spec XL p
def Yv (k : Bool) : gE:=g1 As fun p => bif k then ([(fM p.1 p.2.1 p.2.2).1 = 0],.one (.im (.int .i64 0))) else ([],.one (.im (.int .i64 (fM p.1 p.2.1 p.2.2).1)))
theorem Kz {f : FuncId} (h : ∀ (p : bY) (args : List Value) (w : World),bD w [.v (.fl (cS p))] args → Good prog f (.one (.im (.int .i64 (fM p.1 p.2.1 p.2.2).1))) args w) (k : Bool) :
  ∀ cs pre r,Yv k cs = some (pre,r) → aL pre → ∀ (args : List Value) (w : World),bD w cs args → Good prog f r args w :=
 cM iN fun p hp args w ha => by
  cases k
  ·exact h p args w ha
  ·have e : (fM p.1 p.2.1 p.2.2).1 = 0:=hp.1;have:=h p args w ha;rw [e] at this;exact this
theorem Bj (p : bY) : BE 28 [.v (.fl (cS p))] = some ([],.one (.im (.int .i64 (fM p.1 p.2.1 p.2.2).1))):=by kernel_rfl
theorem Ic (p : bY) (args : List Value) (w : World) (ha : bD w [.v (.fl (cS p))] args) : Good prog 28 (.one (.im (.int .i64 (fM p.1 p.2.1 p.2.2).1))) args w:=(wA _ _ _ _ (Bj p) trivial).2 args w ha
def aGw (c : Bool) : Tab:=BE.add 29 (gIc c)
theorem aEV (c : Bool) : TabOk prog (aGw c):=wA.ad func29 (aBS c)
def aDT (k c : Bool) : Tab:=(aGw c).add 28 (Yv k)
theorem Ig (k c : Bool) : TabOk prog (aDT k c):=(aEV c).ad func28 (Kz Ic k)
theorem OV (p : bY) : aU prog (qG prog) (fun _ => ⟨fun _ => aDT false true,fun _ => true,fun n => bif Nat.beq n 7 then some (.bool true) else none⟩) f11 60 [.v (.fl (cS p))] = some ([aP .neq .i64 (fM p.1 p.2.1 p.2.2).1 0 = some (.bool true)],.one (.im (.int .i64 (fM p.1 p.2.1 p.2.2).1))):=by kernel_rfl
theorem vF (p : bY) (c : Bool) : aU prog (qG prog) (fun _ => ⟨fun _ => aDT true c,fun _ => true,fun _ => none⟩) f11 60 [.v (.fl (cS p))] = some ([(fM p.1 p.2.1 p.2.2).1 = 0,iC p = c],.one (.im (.int .i64 (bif c then 0 else 42)))):=by cases c <;> kernel_rfl
theorem UQ (p : bY) (args : List Value) (w : World) (ha : bD w [.v (.fl (cS p))] args) : Good prog 11 (.one (.im (.int .i64 (cF p)))) args w:=by
 rw [pU]
 by_cases h : (fM p.1 p.2.1 p.2.2).1 = 0
 ·rw [if_neg (fun e => e h)];cases hc : iC p
  ·rw [if_neg (by simp)];exact aD aG (fun _ _ => Ig true false) (aK prog) func11 (vF p false) ⟨h,hc,trivial⟩ ha
  ·rw [if_pos rfl];exact aD aG (fun _ _ => Ig true true) (aK prog) func11 (vF p true) ⟨h,hc,trivial⟩ ha
 ·rw [if_pos h];exact aD aG (fun _ _ => Ig false true) (aK prog) func11 (OV p) ⟨by show some (Value.bool ((fM p.1 p.2.1 p.2.2).1 != 0)) = _; rw [bne_iff_ne.2 h],trivial⟩ ha
def Lj (k : Bool) : gE:=g1 As fun p => bif k then ([cF p = 0],.one (.im (.int .i64 0))) else ([],.one (.im (.int .i64 (cF p))))
theorem LS {f : FuncId} (h : ∀ (p : bY) (args : List Value) (w : World),bD w [.v (.fl (cS p))] args → Good prog f (.one (.im (.int .i64 (cF p)))) args w) (k : Bool) :
  ∀ cs pre r,Lj k cs = some (pre,r) → aL pre → ∀ (args : List Value) (w : World),bD w cs args → Good prog f r args w :=
 cM iN fun p hp args w ha => by
  cases k
  ·exact h p args w ha
  ·have e : cF p = 0:=hp.1;have:=h p args w ha;rw [e] at this;exact this
def AF (y : N2) : Bool:=if wv y.2 = 0 then dA FP.M (wv y.1) else dA FP.M (wv y.2)
theorem ZJ (c : Bool) (y : N2) : aU prog (qG prog) (fun _ => ⟨fun _ => XW c,fun _ => true,fun _ => none⟩) f23 60 [.v (.fl (q2 y))] = some ([aA [.q y.2] = aA (e1 F1.zero),wv y.1 < FP.M,dA FP.M (wv y.1) = c],.one (.im (.bool c))):=by kernel_rfl
theorem ZK (c : Bool) (y : N2) : aU prog (qG prog) (fun _ => ⟨fun _ => XW c,fun _ => false,fun _ => none⟩) f23 60 [.v (.fl (q2 y))] = some ([aA [.q y.2] ≠ aA (e1 F1.zero),wv y.2 < FP.M,dA FP.M (wv y.2) = c],.one (.im (.bool c))):=by kernel_rfl
def Be (c : Bool) (y : N2) : List Prop:=[wv y.1 < FP.M,wv y.2 < FP.M,AF y = c]
theorem aBo (c : Bool) (y : N2) (hp : aL (Be c y)) (args : List Value) (w : World) (ha : bD w [.v (.fl (q2 y))] args) : Good prog 23 (.one (.im (.bool c))) args w:=by
 obtain ⟨h1,h2,h3,_⟩:=hp;unfold AF at h3
 by_cases hz : wv y.2 = 0
 ·rw [if_pos hz] at h3;exact aD aG (fun _ _ => QO c) (aK prog) func23 (ZJ c y) ⟨nX.2 hz,h1,h3,trivial⟩ ha
 ·rw [if_neg hz] at h3;exact aD aG (fun _ _ => QO c) (aK prog) func23 (ZK c y) ⟨fun e => hz (nX.1 e),h2,h3,trivial⟩ ha
set_option maxRecDepth 10000
def sA (X : Q2) : Fq:=F1.mul (F1.add X.1 (fR (iE X))) hf
def sB (X : Q2) : Fq:=F1.mul (F1.sub X.1 (fR (iE X))) hf
theorem sP {x : Q2} (h : dV (iE x)) : F1.mul (fR (iE x)) (fR (iE x)) = iE x:=(eT h).1
theorem LJ {x : Q2} (hx : x.2 ≠ F1.zero) : rN x ↔ dV (iE x):=by
 refine ⟨fun h => Classical.byContradiction fun e => Je e h,fun h => ?_⟩;obtain ⟨n1,n2,n3⟩:=BZ (sP h) hx
 by_cases hs : dV (sA x)
 ·exact ⟨_,UD (sP h) rfl hs n1⟩
 ·exact ⟨_,UD (n:=F1.neg (fR (iE x))) (by rw [F1.neg_mul,F1.mul_neg,F1.neg_neg]; exact sP h) rfl (n3 hs) n2⟩
theorem aHk {x : Q2} (hx : x.2 ≠ F1.zero) (h : dV (iE x)) (hs : dV (sA x)) : F2.mul (rr x (sA x)) (rr x (sA x)) = x ∧ sA x ≠ F1.zero :=
 ⟨UD (sP h) rfl hs (BZ (sP h) hx).1,(BZ (sP h) hx).1⟩
theorem aHj {x : Q2} (hx : x.2 ≠ F1.zero) (h : dV (iE x)) (hs : ¬ dV (sA x)) : F2.mul (rr x (sB x)) (rr x (sB x)) = x ∧ dV (sB x) ∧ sB x ≠ F1.zero:=by
 obtain ⟨n1,n2,n3⟩:=BZ (sP h) hx;exact ⟨UD (n:=F1.neg (fR (iE x))) (by rw [F1.neg_mul,F1.mul_neg,F1.neg_neg]; exact sP h) rfl (n3 hs) n2,n3 hs,n2⟩
theorem YR (c : Bool) (x : N2) (y : N2) : dL prog (yE c) qN (fun _ => true) f63 40 [.v (.fl (q2 x)),.v (.fl (q2 y))] = some ([],.one (.fl (e2 (F2.add (m2 x) (m2 y))))):=by kernel_rfl
def EY (c : Bool) : Tab:=(yE c).add 63 (g2 sI sI (fun x y => ([],.one (.fl (e2 (F2.add x y))))))
theorem KG (c : Bool) : TabOk prog (EY c):=(Il c).ad func63 (mG cO cO fun x y hp args w ha => aV aG (Il c) cG func63 (YR c x y) hp ha)
theorem YQ (c : Bool) (x : N2) (y : N2) : dL prog (EY c) qN (fun _ => true) f105 40 [.v (.fl (q2 x)),.v (.fl (q2 y))] = some ([],.one (.fl (e2 (F2.sub (m2 x) (m2 y))))):=by kernel_rfl
def EX (c : Bool) : Tab:=(EY c).add 105 (g2 sI sI (fun x y => ([],.one (.fl (e2 (F2.sub x y))))))
theorem KF (c : Bool) : TabOk prog (EX c):=(KG c).ad func105 (mG cO cO fun x y hp args w ha => aV aG (KG c) cG func105 (YQ c x y) hp ha)
theorem OA (c : Bool) (x : N2) : dL prog (EX c) qN (fun _ => true) f90 40 [.v (.fl (q2 x))] = some ([],.one (.fl (e2 (cE (m2 x))))):=by kernel_rfl
def MZ (c : Bool) : Tab:=(EX c).add 90 (g1 sI (fun x => ([],.one (.fl (e2 (cE x))))))
theorem Bl (c : Bool) : TabOk prog (MZ c):=(KF c).ad func90 (jQ cO fun x hp args w ha => aV aG (KF c) cG func90 (OA c x) hp ha)
theorem aGo {x : Value} {l m : List At} {args : List Value} {w : World} (h : bD w [.v (.im x),.v (.fl l),.v (.fl m)] args) : args = [x,.agg (aA l).toArray,.agg (aA m).toArray]:=by
 match args,h with
 | [v,u,s],h => rw [show v = _ from h.1,show u = _ from h.2.1,show s = _ from h.2.2.1]; rfl
 | [],h => exact h.elim
 | [_],h => exact h.2.elim
 | [_,_],h => exact h.2.2.elim
 | _ :: _ :: _ :: _ :: _,h => exact h.2.2.2.elim
theorem Nq {x : Value} {l : List At} {args : List Value} {w : World} (h : bD w [.v (.im x),.v (.fl l)] args) : args = [x,.agg (aA l).toArray]:=by
 match args,h with
 | [v,u],h => rw [show v = _ from h.1,show u = _ from h.2.1]; rfl
 | [],h => exact h.elim
 | [_],h => exact h.2.elim
 | _ :: _ :: _ :: _,h => exact h.2.2.elim
def Lh : gE
 | [.v (.im (.int .i64 (.ofNat 1))),.v (.fl l),.v (.fl m)] => match zK l,zK m with
  | some a,some b => some ([b ≠ F1.zero],.many [.fl (e1 (F1.mul a (gY b))),.im (.int .i64 0)])
  | _,_ => none
 | _ => none
theorem Vw : ∀ cs pre r,Lh cs = some (pre,r) → aL pre → ∀ (args : List Value) (w : World),bD w cs args → Good prog 141 r args w:=by
 intro cs pre r hg hp args w ha;unfold Lh at hg;split at hg
 ·rename_i l m;split at hg
  ·rename_i a b h1 h2;cases hg;have hz : b ≠ F1.zero:=hp.1;have hz' : b.1 ≠ 0:=fun e => hz (Fin.ext e)
   rw [aGo ha,dK l _ h1,dK m _ h2];refine (WT 1 FP fW _ _ _ _ _ _ _ _ (bR a.1) (bR b.1) (by rw [aZ a.2]; exact a.2) (by rw [aZ b.2]; exact b.2) (by rw [aZ b.2]; exact hz') w).mono ?_
   rintro e w' ⟨s0,s1,s2,s3,rfl,hs,hv,hb⟩
   have hf:=wW b;rw [Nat.one_mul] at hf;have hv' : aC s0 s1 s2 s3 = (F1.mul a (gY b)).1:=by
    rw [hv,aZ a.2,aZ b.2];show _ = a.1 * (gY b).1 % FP.M;rw [hf,Nat.mul_mod_mod]
   obtain ⟨rfl,rfl,rfl,rfl⟩:=fG hs (gM (F1.mul a (gY b)).2) hv';exact ⟨rfl,hb⟩
  ·cases hg
 ·cases hg
def La : gE
 | [.v (.im (.int .i64 (.ofNat 1))),.v (.fl l)] => match zK l with
  | some x => some ([],.many [.im (.bool (eR x)),.im (.int .i64 0)])
  | none => none
 | _ => none
theorem Ua : ∀ cs pre r,La cs = some (pre,r) → aL pre → ∀ (args : List Value) (w : World),bD w cs args → Good prog 80 r args w:=by
 intro cs pre r hg hp args w ha;unfold La at hg;split at hg
 ·rename_i l;split at hg
  ·rename_i x h1;cases hg;rw [Nq ha,dK l _ h1];refine (AK 1 FP fW _ _ _ _ (bR x.1) (by rw [aZ x.2]; exact x.2) w).mono ?_
   rintro e w' ⟨rfl,hb⟩
   refine ⟨?_,hb⟩;rw [aZ x.2];rfl
  ·cases hg
 ·cases hg
def Oj (c : Bool) : Tab:=(MZ c).add 141 Lh
theorem Th (c : Bool) : TabOk prog (Oj c):=(Bl c).ad func141 Vw
def NA (c : Bool) : Tab:=(Oj c).add 80 La
theorem Bm (c : Bool) : TabOk prog (NA c):=(Th c).ad func80 Ua
def gSq (d : Bool) : gE
 | [.v (.im (.int .i64 (.ofNat 1))),.v (.fl l)] => match zK l with
  | some x => bif d then some ([dV x],.many [.fl (e1 (fR x)),.im (.int .i64 0)]) else some ([¬ dV x],.many [.fl (e1 F1.zero),.im (.int .i64 23)])
  | none => none
 | _ => none
theorem Um {x : Fq} (h : dV x) : x.1 ^ (FP.M / 2) % FP.M = 1 ∨ x.1 = 0:=by
 rw [uC] at h;unfold nF at h
 by_cases h0 : x.1 = 0
 ·exact Or.inr h0
 ·rw [if_neg h0] at h
  by_cases h1 : x.1 ^ (FP.M / 2) % FP.M = 1
  ·exact Or.inl h1
  ·rw [if_neg h1] at h; exact absurd rfl h
theorem Tp {x : Fq} (h : ¬ dV x) : x.1 ≠ 0 ∧ x.1 ^ (FP.M / 2) % FP.M ≠ 1:=by
 rw [DG] at h;unfold nF at h
 by_cases h0 : x.1 = 0
 ·rw [if_pos h0] at h; exact absurd h (by decide)
 ·rw [if_neg h0] at h;refine ⟨h0,fun e => ?_⟩;rw [if_pos e] at h;exact absurd h (by decide)
theorem Vk (x : Fq) (h : dV x) (w : World) : Calls prog 84 #[.int .i64 1,.agg (aA (e1 x)).toArray] w (fun e w' => e = .returned (RV.many [.fl (e1 (fR x)),.im (.int .i64 0)]).den ∧ Below w.heap.size w w'):=by
 have hx : aC (fw x.1 0) (fw x.1 1) (fw x.1 2) (fw x.1 3) = x.1:=aZ x.2
 by_cases h0 : x.1 = 0
 ·refine (AJ 1 FP fW _ _ _ _ (bR x.1) (by rw [hx]; exact x.2) (by rw [hx]; exact h0) w).mono ?_
  rintro e w' ⟨s0,s1,s2,s3,rfl,hs,hv,hb⟩
  rw [uG h0,LV];obtain ⟨rfl,rfl,rfl,rfl⟩:=fG hs (gM bW) hv;exact ⟨rfl,hb⟩
 ·refine (pM 1 FP fW _ _ _ _ (bR x.1) (by rw [hx]; exact x.2) (by rw [hx]; exact h0) (by rw [hx]; exact (Um h).resolve_right h0) w).mono ?_
  rintro e w' ⟨V,⟨s0,s1,s2,s3,rfl,hs,hv,hb⟩,h1,h2,h3⟩
  rw [hx] at h1;have e1 : fR x = ⟨V,h2⟩:=kF (Fin.ext h1) h3;rw [e1];obtain ⟨rfl,rfl,rfl,rfl⟩:=fG hs (gM h2) hv;exact ⟨rfl,hb⟩
theorem Vj (x : Fq) (h : ¬ dV x) (w : World) : Calls prog 84 #[.int .i64 1,.agg (aA (e1 x)).toArray] w (fun e w' => e = .returned (RV.many [.fl (e1 F1.zero),.im (.int .i64 23)]).den ∧ Below w.heap.size w w'):=by
 have hx : aC (fw x.1 0) (fw x.1 1) (fw x.1 2) (fw x.1 3) = x.1:=aZ x.2;obtain ⟨h0,h1⟩:=Tp h;refine (sO 1 FP fW _ _ _ _ (bR x.1) (by rw [hx]; exact x.2) (by rw [hx]; exact h0) (by rw [hx]; exact h1) w).mono ?_
 rintro e w' ⟨s0,s1,s2,s3,rfl,hs,hv,hb⟩
 obtain ⟨rfl,rfl,rfl,rfl⟩:=fG hs (gM bW) hv;exact ⟨rfl,hb⟩
theorem aBF {f : FuncId} (hA : ∀ x : Fq,dV x → ∀ w,Calls prog f #[.int .i64 1,.agg (aA (e1 x)).toArray] w (fun e w' => e = .returned (RV.many [.fl (e1 (fR x)),.im (.int .i64 0)]).den ∧ Below w.heap.size w w')) (hN : ∀ x : Fq,¬ dV x → ∀ w,Calls prog f #[.int .i64 1,.agg (aA (e1 x)).toArray] w (fun e w' => e = .returned (RV.many [.fl (e1 F1.zero),.im (.int .i64 23)]).den ∧ Below w.heap.size w w')) (d : Bool) :
  ∀ cs pre r,gSq d cs = some (pre,r) → aL pre → ∀ (args : List Value) (w : World),bD w cs args → Good prog f r args w:=by
 intro cs pre r hg hp args w ha;unfold gSq at hg;split at hg
 ·rename_i l;split at hg
  ·rename_i x h1;cases d
   ·cases hg;rw [Nq ha,dK l _ h1];exact hN x hp.1 w
   ·cases hg;rw [Nq ha,dK l _ h1];exact hA x hp.1 w
  ·cases hg
 ·cases hg
def gSqB (b d : Bool) : gE:=gSq d
def Wy (c d b : Bool) : Tab:=(NA c).add 84 (gSqB b d)
theorem KM (c d b : Bool) : TabOk prog (Wy c d b):=(Bm c).ad func84 (g:=gSqB b d) (aBF Vk Vj d)
theorem OX (x : Fq) : aU prog (qG prog) (fun m => ⟨fun s => Wy true (true) false,fun s => true,fun s => none⟩) f101 60 [.v (.fl (e1 x))] = some ([dV x],.one (.fl (e2 (fR x,F1.zero)))):=by kernel_rfl
theorem OY (x : Fq) : aU prog (qG prog) (fun m => ⟨fun s => Wy true (bif Nat.beq s 7 then false else true) false,fun s => true,fun s => none⟩) f101 60 [.v (.fl (e1 x))] = some ([¬ dV x,dV (F1.neg x)],.one (.fl (e2 (F1.zero,fR (F1.neg x))))):=by kernel_rfl
theorem QJ (x : Fq) (args : List Value) (w : World) (ha : bD w [.v (.fl (e1 x))] args) : Good prog 101 (.one (.fl (e2 (rt (x,F1.zero))))) args w:=by
 by_cases h : dV x
 ·rw [(CD x).1 h];exact aD aG (fun _ _ => KM _ _ _) (aK _) func101 (OX x) ⟨h,trivial⟩ ha
 ·rw [(CD x).2.1 h];exact aD aG (fun _ _ => KM _ _ _) (aK _) func101 (OY x) ⟨h,DV h,trivial⟩ ha
theorem OS (x : Q2) : aU prog (qG prog) (fun m => ⟨fun s => Wy true (bif Nat.beq s 17 then false else true) false,fun s => true,fun s => none⟩) f102 60 [.v (.fl (e2 x))] = some ([¬ dV (iE x)],.many [.fl (e2 F2.zero),.im (.int .i64 23)]):=by kernel_rfl
theorem IC (x : Q2) : aU prog (qG prog) (fun m => ⟨fun s => Wy true (true) false,fun s => true,fun s => bif Nat.beq s 69 then some (.bool false) else none⟩) f102 60 [.v (.fl (e2 x))] = some ([dV (iE x),fm 2 ≠ F1.zero,dV (sA x),fR (sA x) ≠ F1.zero,Value.bool (!(eR (rr x (sA x)).2)) = .bool false],.many [.fl (e2 (rr x (sA x))),.im (.int .i64 0)]):=by kernel_rfl
theorem ID (x : Q2) : aU prog (qG prog) (fun m => ⟨fun s => Wy true (true) false,fun s => true,fun s => bif Nat.beq s 69 then some (.bool true) else none⟩) f102 60 [.v (.fl (e2 x))] = some ([dV (iE x),fm 2 ≠ F1.zero,dV (sA x),fR (sA x) ≠ F1.zero,Value.bool (!(eR (rr x (sA x)).2)) = .bool true],.many [.fl (e2 (F2.sub F2.zero (rr x (sA x)))),.im (.int .i64 0)]):=by kernel_rfl
theorem GZ (x : Q2) : aU prog (qG prog) (fun m => ⟨fun s => Wy true (bif Nat.beq s 36 then false else true) false,fun s => true,fun s => bif Nat.beq s 69 then some (.bool false) else none⟩) f102 60 [.v (.fl (e2 x))] = some ([dV (iE x),fm 2 ≠ F1.zero,¬ dV (sA x),dV (sB x),fR (sB x) ≠ F1.zero,Value.bool (!(eR (rr x (sB x)).2)) = .bool false],.many [.fl (e2 (rr x (sB x))),.im (.int .i64 0)]):=by kernel_rfl
theorem HU (x : Q2) : aU prog (qG prog) (fun m => ⟨fun s => Wy true (bif Nat.beq s 36 then false else true) false,fun s => true,fun s => bif Nat.beq s 69 then some (.bool true) else none⟩) f102 60 [.v (.fl (e2 x))] = some ([dV (iE x),fm 2 ≠ F1.zero,¬ dV (sA x),dV (sB x),fR (sB x) ≠ F1.zero,Value.bool (!(eR (rr x (sB x)).2)) = .bool true],.many [.fl (e2 (F2.sub F2.zero (rr x (sB x)))),.im (.int .i64 0)]):=by kernel_rfl
def Ip (d : Bool) (x : Q2) : List Prop × RV:=bif d then ([x.2 ≠ F1.zero,rN x],.many [.fl (e2 (rt x)),.im (.int .i64 0)]) else ([x.2 ≠ F1.zero,¬ rN x],.many [.fl (e2 F2.zero),.im (.int .i64 23)])
theorem PU (d : Bool) (x : Q2) (hp : aL (Ip d x).1) (args : List Value) (w : World) (ha : bD w [.v (.fl (e2 x))] args) : Good prog 102 (Ip d x).2 args w:=by
 cases d
 ·obtain ⟨hx,hn,_⟩:=hp;rw [LJ hx] at hn;exact aD aG (fun _ _ => KM _ _ _) (aK _) func102 (OS x) ⟨hn,trivial⟩ ha
 ·obtain ⟨hx,hn,_⟩:=hp;rw [LJ hx] at hn;show Good _ _ (.many [.fl (e2 (rt x)),.im (.int .i64 0)]) _ _
  by_cases hs : dV (sA x)
  ·obtain ⟨hr,n1⟩:=aHk hx hn hs;have hr2:=rr2 hx hr;cases hl : eR (rr x (sA x)).2
   ·rw [(CE hr hr2).2 hl,← Cz];exact aD aG (fun _ _ => KM _ _ _) (aK _) func102 (ID x) ⟨hn,uU,hs,wQ hs n1,by rw [hl]; rfl,trivial⟩ ha
   ·rw [(CE hr hr2).1 hl];exact aD aG (fun _ _ => KM _ _ _) (aK _) func102 (IC x) ⟨hn,uU,hs,wQ hs n1,by rw [hl]; rfl,trivial⟩ ha
  ·obtain ⟨hr,hq,hz⟩:=aHj hx hn hs;have hr2:=rr2 hx hr;cases hl : eR (rr x (sB x)).2
   ·rw [(CE hr hr2).2 hl,← Cz];exact aD aG (fun _ _ => KM _ _ _) (aK _) func102 (HU x) ⟨hn,uU,hs,hq,wQ hq hz,by rw [hl]; rfl,trivial⟩ ha
   ·rw [(CE hr hr2).1 hl];exact aD aG (fun _ _ => KM _ _ _) (aK _) func102 (GZ x) ⟨hn,uU,hs,hq,wQ hq hz,by rw [hl]; rfl,trivial⟩ ha
def T_r (d : Bool) : Tab:=((Wy true true true).add 101 (g1 zK fun x => ([],.one (.fl (e2 (rt (x,F1.zero))))))).add 102 (g1 UI (Ip d))
theorem aBd (d : Bool) : TabOk prog (T_r d):=((KM true true true).ad func101 (cM dK fun x _ args w ha => QJ x args w ha)).ad func102 (cM gR (PU d))
theorem Rl (x : N2) : aU prog (qG prog) (fun _ => ⟨fun _ => T_r true,fun s => bif Nat.beq s 12 then true else true,fun _ => none⟩) f62 60 [.v (.fl (q2 x))] = some ([aA [.f (m2 x).2] = aA [.f F1.zero]],.many [.fl (e2 (rt ((m2 x).1,F1.zero))),.im (.int .i64 0)]):=by kernel_rfl
theorem Rm (x : N2) : aU prog (qG prog) (fun _ => ⟨fun _ => T_r true,fun s => bif Nat.beq s 12 then false else true,fun _ => none⟩) f62 60 [.v (.fl (q2 x))] = some ([aA [.f (m2 x).2] ≠ aA [.f F1.zero],(m2 x).2 ≠ F1.zero,rN (m2 x)],.many [.fl (e2 (rt (m2 x))),.im (.int .i64 0)]):=by kernel_rfl
theorem Rq (x : N2) : aU prog (qG prog) (fun _ => ⟨fun _ => T_r false,fun s => bif Nat.beq s 12 then false else true,fun _ => none⟩) f62 60 [.v (.fl (q2 x))] = some ([aA [.f (m2 x).2] ≠ aA [.f F1.zero],(m2 x).2 ≠ F1.zero,¬ rN (m2 x)],.many [.fl (e2 F2.zero),.im (.int .i64 23)]):=by kernel_rfl
def oS2 (d : Bool) (x : Q2) : List Prop × RV:=bif d then ([rN x],.many [.fl (e2 (rt x)),.im (.int .i64 0)]) else ([¬ rN x],.many [.fl (e2 F2.zero),.im (.int .i64 23)])
theorem Ox (d : Bool) (x : N2) (hp : aL (oS2 d (m2 x)).1) (args : List Value) (w : World) (ha : bD w [.v (.fl (q2 x))] args) : Good prog 62 (oS2 d (m2 x)).2 args w:=by
 by_cases hx : (m2 x).2 = F1.zero
 ·have e : m2 x = ((m2 x).1,F1.zero):=Prod.ext rfl hx;cases d
  ·exact absurd (by rw [e]; exact (CD _).2.2) (show ¬ rN (m2 x) from hp.1)
  ·show Good _ _ (.many [.fl (e2 (rt (m2 x))),.im (.int .i64 0)]) _ _;rw [e];exact aD aG (fun _ _ => aBd _) (aK _) func62 (Rl x) ⟨by rw [hx],trivial⟩ ha
 ·cases d
  ·exact aD aG (fun _ _ => aBd _) (aK _) func62 (Rq x) ⟨fun h => hx (RN h),hx,hp.1,trivial⟩ ha
  ·exact aD aG (fun _ _ => aBd _) (aK _) func62 (Rm x) ⟨fun h => hx (RN h),hx,hp.1,trivial⟩ ha
end Go.Proofs.YtfnkbmlmgnadmaaGreat.Ex
