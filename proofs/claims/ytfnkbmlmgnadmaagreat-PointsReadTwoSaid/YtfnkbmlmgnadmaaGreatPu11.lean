/- Pu11 -/
import Derived.KernelRfl
import Derived.Test.YtfnkbmlmgnadmaaGreatPu10
import Derived.Test.YtfnkbmlmgnadmaaGreatPu07
import Derived.Test.YtfnkbmlmgnadmaaGreatPu00
import Derived.Test.YtfnkbmlmgnadmaaGreatPu04
import Derived.Test.YtfnkbmlmgnadmaaGreatPu02
import Derived.Test.YtfnkbmlmgnadmaaGreatPu03
import Derived.Test.YtfnkbmlmgnadmaaGreatPu06
set_option maxRecDepth 100000
set_option linter.unusedVariables false
set_option linter.unusedSimpArgs false
noncomputable section
namespace Go.Proofs.YtfnkbmlmgnadmaaGreat.Ex
open Go.Proofs.Tryz
open Go.RowKit
theorem FrOk.ad {P : Program} {T : Tab2} (hT : FrOk P T) {f : Nat} {fn : Func} (hf : P.funcs[f]? = some fn) {g : List CA → Option (List Prop × FR)}
 (h : ∀ cs pre r,g cs = some (pre,r) → aP pre → ∀ (args : List Value) (w : World),bK w cs args → Calls P f args.toArray w (fun e w' => r.ok w e w')) (hn : (fn.name == "runtime.NumGoroutine") = false:=by kernel_rfl) (hb : fn.body.isNone = false:=by kernel_rfl) : FrOk P (T.add f g):=hT.add hf hn hb h
theorem Ao (x : Nat) : w4 x = w4 (wv x):=by
 obtain ⟨e0,e1,e2,e3⟩:=fB (bM x) (show wv x < 115792089237316195423570985008687907853269984665640564039457584007913129639936 by
  have h:=bM x;obtain ⟨h0,h1,h2,h3⟩:=h;unfold wv aA; omega) rfl
 unfold w4;rw [e0,e1,e2,e3]
theorem q_f {x : Nat} (h : wv x < FP.M) : aC [.q x] = aC [.f (m1 x)]:=by
 show w4 x ++ [] = w4 (m1 x).1 ++ [];rw [Ao x];show w4 (wv x) ++ [] = w4 (wv x % FP.M) ++ [];rw [Nat.mod_eq_of_lt h]
theorem ER (a : At) (l : List At) : aC (a :: l) = aC [a] ++ aC l:=by show a.cells ++ aC l = (a.cells ++ []) ++ aC l; rw [List.append_nil]
theorem wO {x y : Nat} (h : w4 x = w4 y) : wv x = wv y:=by
 unfold w4 at h;simp only [List.cons.injEq,Value.int.injEq,true_and,and_true,Int.ofNat_inj] at h;unfold wv;rw [h.1,h.2.1,h.2.2.1,h.2.2.2]
theorem zD {x : Nat} : aC [.q x] = aC (e1 F1.zero) ↔ wv x = 0:=by
 constructor
 ·intro h;have h' : w4 x ++ [] = w4 0 ++ []:=h;rw [List.append_nil,List.append_nil] at h';rw [wO h']; decide
 ·intro h;show w4 x ++ [] = w4 0 ++ [];rw [Ao x,h]
theorem bY {x : N2} : aC (q2 x) = aC (e2 F2.zero) ↔ wv x.1 = 0 ∧ wv x.2 = 0:=by
 constructor
 ·intro h;have h' : w4 x.1 ++ (w4 x.2 ++ []) = w4 0 ++ (w4 0 ++ []):=h;obtain ⟨h1,h2⟩:=List.append_inj h' rfl;rw [List.append_nil,List.append_nil] at h2;exact ⟨by rw [wO h1]; decide,by rw [wO h2]; decide⟩
 ·rintro ⟨h1,h2⟩
  show w4 x.1 ++ (w4 x.2 ++ []) = w4 0 ++ (w4 0 ++ []);rw [Ao x.1,Ao x.2,h1,h2]
theorem Good.congr {P : Program} {f : FuncId} {r r' : RV} {args : List Value} {w : World} (h : Good P f r args w) (e : r.den = r'.den) : Good P f r' args w:=by
 unfold Good at h ⊢;rw [← e];exact h
def wK (x : Nat) : Prop:=wv x < FP.M
def gD (x : N2) : Prop:=wv x.1 < FP.M ∧ wv x.2 < FP.M
def zr1 (x : Nat) : Prop:=wv x = 0
def xV (x : N2) : Prop:=wv x.1 = 0 ∧ wv x.2 = 0
theorem aFn {x : Nat} (h : wK x) : aC (q1 x) = aC (e1 (m1 x)):=q_f h
theorem Fb {x : N2} (h : gD x) : aC (q2 x) = aC (e2 (m2 x)):=by
 show aC (.q x.1 :: [.q x.2]) = aC (.f (m1 x.1) :: [.f (m1 x.2)]);rw [ER,ER (.f _),q_f h.1,q_f h.2]
theorem QV {c : Int} (h : c ≠ 0) : aK .neq .i64 c 0 = some (.bool true):=by
 show some (Value.bool (c != 0)) = _;rw [bne_iff_ne.2 h]
theorem QX {c : Int} (h : c = 0) : aK .neq .i64 c 0 = some (.bool false):=by rw [h]; rfl
open Classical in
theorem Xr : ∃ g : Nat → Nat → Bool → Int × J1,∀ x y i,g x y i = if i = true then (if zr1 x ∧ zr1 y then (0,(F1.zero,F1.zero,F1.zero)) else (44,(F1.zero,F1.zero,F1.zero))) else if ¬ (wK x ∧ wK y) then (21,(F1.zero,F1.zero,F1.zero)) else if F1.mul (m1 y) (m1 y) = F1.add (F1.mul (F1.mul (m1 x) (m1 x)) (m1 x)) (fm 3) then (0,(m1 x,m1 y,F1.one)) else (41,(F1.zero,F1.zero,F1.zero)):=⟨_,fun _ _ _ => rfl⟩
def oE : Nat → Nat → Bool → Int × J1:=Classical.choose Xr
open Classical in
theorem KB (x y : Nat) (i : Bool) : oE x y i = if i = true then (if zr1 x ∧ zr1 y then (0,(F1.zero,F1.zero,F1.zero)) else (44,(F1.zero,F1.zero,F1.zero))) else if ¬ (wK x ∧ wK y) then (21,(F1.zero,F1.zero,F1.zero)) else if F1.mul (m1 y) (m1 y) = F1.add (F1.mul (F1.mul (m1 x) (m1 x)) (m1 x)) (fm 3) then (0,(m1 x,m1 y,F1.one)) else (41,(F1.zero,F1.zero,F1.zero)):=Classical.choose_spec Xr x y i
theorem Ik (x y : Nat) : aM prog (qG prog) (fun _ => ⟨fun s => jO (bif Nat.beq s 28 then true else bif Nat.beq s 33 then true else true),fun s => false,fun _ => none⟩) f148 80 [.v (.fl (q1 x)),.v (.fl (q1 y)),.v (.im (.bool true))] = some ([aC (q1 x) ≠ aC (e1 F1.zero)],.many [.fl (kH (F1.zero,F1.zero,F1.zero)),.im (.int .i64 44)]):=by kernel_rfl
theorem Ij (x y : Nat) : aM prog (qG prog) (fun _ => ⟨fun s => jO (bif Nat.beq s 28 then true else bif Nat.beq s 33 then true else true),fun s => !(Nat.beq s 18),fun _ => none⟩) f148 80 [.v (.fl (q1 x)),.v (.fl (q1 y)),.v (.im (.bool true))] = some ([aC (q1 x) = aC (e1 F1.zero),aC (q1 y) ≠ aC (e1 F1.zero)],.many [.fl (kH (F1.zero,F1.zero,F1.zero)),.im (.int .i64 44)]):=by kernel_rfl
theorem Ii (x y : Nat) : aM prog (qG prog) (fun _ => ⟨fun s => jO (bif Nat.beq s 28 then true else bif Nat.beq s 33 then true else true),fun s => true,fun _ => none⟩) f148 80 [.v (.fl (q1 x)),.v (.fl (q1 y)),.v (.im (.bool true))] = some ([aC (q1 x) = aC (e1 F1.zero),aC (q1 y) = aC (e1 F1.zero)],.many [.fl (kH (F1.zero,F1.zero,F1.zero)),.im (.int .i64 0)]):=by kernel_rfl
theorem Ih (x y : Nat) : aM prog (qG prog) (fun _ => ⟨fun s => jO (bif Nat.beq s 28 then false else bif Nat.beq s 33 then true else true),fun s => true,fun _ => none⟩) f148 80 [.v (.fl (q1 x)),.v (.fl (q1 y)),.v (.im (.bool false))] = some ([¬ wv x < FP.M],.many [.fl (kH (F1.zero,F1.zero,F1.zero)),.im (.int .i64 21)]):=by kernel_rfl
theorem Ig (x y : Nat) : aM prog (qG prog) (fun _ => ⟨fun s => jO (bif Nat.beq s 28 then true else bif Nat.beq s 33 then false else true),fun s => true,fun _ => none⟩) f148 80 [.v (.fl (q1 x)),.v (.fl (q1 y)),.v (.im (.bool false))] = some ([wv x < FP.M,¬ wv y < FP.M],.many [.fl (kH (F1.zero,F1.zero,F1.zero)),.im (.int .i64 21)]):=by kernel_rfl
theorem If (x y : Nat) : aM prog (qG prog) (fun _ => ⟨fun s => jO (bif Nat.beq s 28 then true else bif Nat.beq s 33 then true else true),fun s => false,fun _ => none⟩) f148 80 [.v (.fl (q1 x)),.v (.fl (q1 y)),.v (.im (.bool false))] = some ([wv x < FP.M,wv y < FP.M,wv y < FP.M,wv y < FP.M,wv x < FP.M,wv x < FP.M,wv x < FP.M,aC (e1 (F1.mul (m1 y) (m1 y))) ≠ aC (e1 (F1.add (F1.mul (F1.mul (m1 x) (m1 x)) (m1 x)) (fm 3)))],.many [.fl (kH (F1.zero,F1.zero,F1.zero)),.im (.int .i64 41)]):=by kernel_rfl
theorem Ie (x y : Nat) : aM prog (qG prog) (fun _ => ⟨fun s => jO (bif Nat.beq s 28 then true else bif Nat.beq s 33 then true else true),fun s => true,fun _ => none⟩) f148 80 [.v (.fl (q1 x)),.v (.fl (q1 y)),.v (.im (.bool false))] = some ([wv x < FP.M,wv y < FP.M,wv y < FP.M,wv y < FP.M,wv x < FP.M,wv x < FP.M,wv x < FP.M,aC (e1 (F1.mul (m1 y) (m1 y))) = aC (e1 (F1.add (F1.mul (F1.mul (m1 x) (m1 x)) (m1 x)) (fm 3)))],.many [.fl (q1 x ++ (q1 y ++ e1 F1.one)),.im (.int .i64 0)]):=by kernel_rfl
theorem aIY (x y : Nat) (i : Bool) (args : List Value) (w : World) (ha : bK w [.v (.fl (q1 x)),.v (.fl (q1 y)),.v (.im (.bool i))] args) : Good prog 148 (.many [.fl (kH (oE x y i).2),.im (.int .i64 (oE x y i).1)]) args w:=by
 rw [KB];cases i with
 | true =>
  rw [if_pos rfl]
  by_cases hx : zr1 x
  ·by_cases hy : zr1 y
   ·rw [if_pos ⟨hx,hy⟩];exact aD aG (fun _ s => iQ _) (aH prog) func148 (Ii x y) ⟨zD.2 hx,zD.2 hy,trivial⟩ ha
   ·rw [if_neg (fun h => hy h.2)];exact aD aG (fun _ s => iQ _) (aH prog) func148 (Ij x y) ⟨zD.2 hx,fun h => hy (zD.1 h),trivial⟩ ha
  ·rw [if_neg (fun h => hx h.1)];exact aD aG (fun _ s => iQ _) (aH prog) func148 (Ik x y) ⟨fun h => hx (zD.1 h),trivial⟩ ha
 | false =>
  rw [if_neg (by simp)]
  by_cases hx : wK x
  ·by_cases hy : wK y
   ·rw [if_neg (fun h => h ⟨hx,hy⟩)]
    by_cases h : F1.mul (m1 y) (m1 y) = F1.add (F1.mul (F1.mul (m1 x) (m1 x)) (m1 x)) (fm 3)
    ·rw [if_pos h];refine Good.congr (r:=.many [.fl (q1 x ++ (q1 y ++ e1 F1.one)),.im (.int .i64 0)]) ?_ ?_
     ·exact aD aG (fun _ s => iQ _) (aH prog) func148 (Ie x y) ⟨hx,hy,hy,hy,hx,hx,hx,by rw [h],trivial⟩ ha
     ·have e : aC (q1 x ++ (q1 y ++ e1 F1.one)) = aC (kH (m1 x,m1 y,F1.one)):=by
       rw [aI,aI,aFn hx,aFn hy];rfl
      show Value.tuple #[.agg (aC _).toArray,_] = .tuple #[.agg (aC _).toArray,_];rw [e]
    ·rw [if_neg h];exact aD aG (fun _ s => iQ _) (aH prog) func148 (If x y) ⟨hx,hy,hy,hy,hx,hx,hx,oY h,trivial⟩ ha
   ·rw [if_pos (fun h => hy h.2)];exact aD aG (fun _ s => iQ _) (aH prog) func148 (Ig x y) ⟨hx,hy,trivial⟩ ha
  ·rw [if_pos (fun h => hx h.1)];exact aD aG (fun _ s => iQ _) (aH prog) func148 (Ih x y) ⟨hx,trivial⟩ ha
def aIk : fQ
 | [.v (.fl l),.v (.fl m),.v (.im (.bool i))] => match vZ l,vZ m with
  | some x,some y => some ([],.many [.fl (kH (oE x y i).2),.im (.int .i64 (oE x y i).1)])
  | _,_ => none
 | _ => none
theorem aDj : ∀ cs pre r,aIk cs = some (pre,r) → aP pre → ∀ (args : List Value) (w : World),bK w cs args → Good prog 148 r args w:=by
 intro cs pre r hg hp args w ha;unfold aIk at hg;split at hg
 ·rename_i l m i;split at hg
  ·rename_i x y hx hy;cases hg;refine aIY x y i args w ?_
   match args,ha with
   | [u,v,t],ha =>
    refine ⟨?_,?_,ha.2.2⟩
    ·show u = .agg (aC (q1 x)).toArray;rw [← dJ l x hx]; exact ha.1
    ·show v = .agg (aC (q1 y)).toArray;rw [← dJ m y hy]; exact ha.2.1
   | [],ha => exact ha.elim
   | [_],ha => exact ha.2.elim
   | [_,_],ha => exact ha.2.2.elim
   | _ :: _ :: _ :: _ :: _,ha => exact ha.2.2.2.elim
  ·cases hg
 ·cases hg
def Zq (d : Bool) : Tab:=(jO d).add 148 aIk
theorem Sr (d : Bool) : TabOk prog (Zq d):=(iQ d).ad func148 aDj
abbrev DE:=Nat × Nat × Bool
def LJ (p : DE) : List At:=[.q p.1,.q p.2.1,.c (.bool p.2.2)]
def rg1 : List At → Option DE
 | [a,b,.c (.bool i)] => match pG a,pG b with | some x,some y => some (x,y,i) | _,_ => none
 | _ => none
theorem jQ {a : At} {x : Nat} (h : pG a = some x) : a.cells = w4 x:=by cases a <;> cases h <;> rfl
theorem yV : Rd rg1 LJ:=fun l x h => by
 unfold rg1 at h;split at h
 ·split at h
  ·rename_i x y h1 h2;cases h;show _ ++ (_ ++ _) = w4 _ ++ (w4 _ ++ _);rw [jQ h1,jQ h2]
  ·cases h
 ·cases h
def ptI {R : Type} : Pt R → Bool | none => true | some _ => false
def ptX {R : Type} (K : CR R) : Pt R → R | none => K.zero | some p => p.1
def ptY {R : Type} (K : CR R) : Pt R → R | none => K.zero | some p => p.2
theorem aAZ (d : Bool) (p : DE) : aM prog (qG prog) (fun _ => ⟨fun s => Zq d,fun s => true,fun _ => none⟩) f118 80 [.v (.fl (LJ p))] = some ([],.many [.fl (kH (oE p.1 p.2.1 p.2.2).2),.im (.int .i64 (oE p.1 p.2.1 p.2.2).1)]):=by kernel_rfl
def Zh (d : Bool) : Tab:=(Zq d).add 118 (g1 rg1 fun p => ([],.many [.fl (kH (oE p.1 p.2.1 p.2.2).2),.im (.int .i64 (oE p.1 p.2.1 p.2.2).1)]))
theorem Sn (d : Bool) : TabOk prog (Zh d):=(Sr d).ad func118 (cN yV fun p hp args w ha => aD aG (fun _ s => Sr _) (aH prog) func118 (aAZ d p) trivial ha)
theorem aBh (d : Bool) (p : DE) : aM prog (qG prog) (fun _ => ⟨fun s => Zh d,fun s => true,fun _ => none⟩) f79 80 [.v (.fl (LJ p))] = some ([],.one (.im (.int .i64 (oE p.1 p.2.1 p.2.2).1))):=by kernel_rfl
def tJ (d : Bool) : Tab:=(Zh d).add 79 (g1 rg1 fun p => ([],.one (.im (.int .i64 (oE p.1 p.2.1 p.2.2).1))))
theorem nT (d : Bool) : TabOk prog (tJ d):=(Sn d).ad func79 (cN yV fun p hp args w ha => aD aG (fun _ s => Sn _) (aH prog) func79 (aBh d p) trivial ha)
open Classical in
theorem Xo : ∃ g : N2 → N2 → Bool → Int × J2,∀ x y i,g x y i = if i = true then (if xV x ∧ xV y then (0,(F2.zero,F2.zero,F2.zero)) else (44,(F2.zero,F2.zero,F2.zero))) else if ¬ (gD x ∧ gD y) then (21,(F2.zero,F2.zero,F2.zero)) else if F2.mul (m2 y) (m2 y) = F2.add (F2.mul (F2.mul (m2 x) (m2 x)) (m2 x)) lY then (0,(m2 x,m2 y,F2.one)) else (41,(F2.zero,F2.zero,F2.zero)):=⟨_,fun _ _ _ => rfl⟩
def dI : N2 → N2 → Bool → Int × J2:=Classical.choose Xo
open Classical in
theorem jI (x y : N2) (i : Bool) : dI x y i = if i = true then (if xV x ∧ xV y then (0,(F2.zero,F2.zero,F2.zero)) else (44,(F2.zero,F2.zero,F2.zero))) else if ¬ (gD x ∧ gD y) then (21,(F2.zero,F2.zero,F2.zero)) else if F2.mul (m2 y) (m2 y) = F2.add (F2.mul (F2.mul (m2 x) (m2 x)) (m2 x)) lY then (0,(m2 x,m2 y,F2.one)) else (41,(F2.zero,F2.zero,F2.zero)):=Classical.choose_spec Xo x y i
theorem Id (x y : N2) : aM prog (qG prog) (fun _ => ⟨fun s => tJ (bif Nat.beq s 28 then true else bif Nat.beq s 33 then true else true),fun s => false,fun _ => none⟩) f87 80 [.v (.fl (q2 x)),.v (.fl (q2 y)),.v (.im (.bool true))] = some ([aC (q2 x) ≠ aC (e2 F2.zero)],.many [.fl (bI (F2.zero,F2.zero,F2.zero)),.im (.int .i64 44)]):=by kernel_rfl
theorem Ic (x y : N2) : aM prog (qG prog) (fun _ => ⟨fun s => tJ (bif Nat.beq s 28 then true else bif Nat.beq s 33 then true else true),fun s => !(Nat.beq s 18),fun _ => none⟩) f87 80 [.v (.fl (q2 x)),.v (.fl (q2 y)),.v (.im (.bool true))] = some ([aC (q2 x) = aC (e2 F2.zero),aC (q2 y) ≠ aC (e2 F2.zero)],.many [.fl (bI (F2.zero,F2.zero,F2.zero)),.im (.int .i64 44)]):=by kernel_rfl
theorem Ib (x y : N2) : aM prog (qG prog) (fun _ => ⟨fun s => tJ (bif Nat.beq s 28 then true else bif Nat.beq s 33 then true else true),fun s => true,fun _ => none⟩) f87 80 [.v (.fl (q2 x)),.v (.fl (q2 y)),.v (.im (.bool true))] = some ([aC (q2 x) = aC (e2 F2.zero),aC (q2 y) = aC (e2 F2.zero)],.many [.fl (bI (F2.zero,F2.zero,F2.zero)),.im (.int .i64 0)]):=by kernel_rfl
theorem Ia (x y : N2) : aM prog (qG prog) (fun _ => ⟨fun s => tJ (bif Nat.beq s 28 then false else bif Nat.beq s 33 then true else true),fun s => true,fun _ => none⟩) f87 80 [.v (.fl (q2 x)),.v (.fl (q2 y)),.v (.im (.bool false))] = some ([¬ (wv x.1 < FP.M ∧ wv x.2 < FP.M)],.many [.fl (bI (F2.zero,F2.zero,F2.zero)),.im (.int .i64 21)]):=by kernel_rfl
theorem Hz (x y : N2) : aM prog (qG prog) (fun _ => ⟨fun s => tJ (bif Nat.beq s 28 then true else bif Nat.beq s 33 then false else true),fun s => true,fun _ => none⟩) f87 80 [.v (.fl (q2 x)),.v (.fl (q2 y)),.v (.im (.bool false))] = some ([(wv x.1 < FP.M ∧ wv x.2 < FP.M),¬ (wv y.1 < FP.M ∧ wv y.2 < FP.M)],.many [.fl (bI (F2.zero,F2.zero,F2.zero)),.im (.int .i64 21)]):=by kernel_rfl
theorem Hy (x y : N2) : aM prog (qG prog) (fun _ => ⟨fun s => tJ (bif Nat.beq s 28 then true else bif Nat.beq s 33 then true else true),fun s => false,fun _ => none⟩) f87 80 [.v (.fl (q2 x)),.v (.fl (q2 y)),.v (.im (.bool false))] = some ([(wv x.1 < FP.M ∧ wv x.2 < FP.M),(wv y.1 < FP.M ∧ wv y.2 < FP.M),aC (e2 (F2.mul (m2 y) (m2 y))) ≠ aC (e2 (F2.add (F2.mul (F2.mul (m2 x) (m2 x)) (m2 x)) lY))],.many [.fl (bI (F2.zero,F2.zero,F2.zero)),.im (.int .i64 41)]):=by kernel_rfl
theorem Hw (x y : N2) : aM prog (qG prog) (fun _ => ⟨fun s => tJ (bif Nat.beq s 28 then true else bif Nat.beq s 33 then true else true),fun s => true,fun _ => none⟩) f87 80 [.v (.fl (q2 x)),.v (.fl (q2 y)),.v (.im (.bool false))] = some ([(wv x.1 < FP.M ∧ wv x.2 < FP.M),(wv y.1 < FP.M ∧ wv y.2 < FP.M),aC (e2 (F2.mul (m2 y) (m2 y))) = aC (e2 (F2.add (F2.mul (F2.mul (m2 x) (m2 x)) (m2 x)) lY))],.many [.fl (q2 x ++ (q2 y ++ e2 F2.one)),.im (.int .i64 0)]):=by kernel_rfl
theorem aIX (x y : N2) (i : Bool) (args : List Value) (w : World) (ha : bK w [.v (.fl (q2 x)),.v (.fl (q2 y)),.v (.im (.bool i))] args) : Good prog 87 (.many [.fl (bI (dI x y i).2),.im (.int .i64 (dI x y i).1)]) args w:=by
 rw [jI];cases i with
 | true =>
  rw [if_pos rfl]
  by_cases hx : xV x
  ·by_cases hy : xV y
   ·rw [if_pos ⟨hx,hy⟩];exact aD aG (fun _ s => nT _) (aH prog) func87 (Ib x y) ⟨bY.2 hx,bY.2 hy,trivial⟩ ha
   ·rw [if_neg (fun h => hy h.2)];exact aD aG (fun _ s => nT _) (aH prog) func87 (Ic x y) ⟨bY.2 hx,fun h => hy (bY.1 h),trivial⟩ ha
  ·rw [if_neg (fun h => hx h.1)];exact aD aG (fun _ s => nT _) (aH prog) func87 (Id x y) ⟨fun h => hx (bY.1 h),trivial⟩ ha
 | false =>
  rw [if_neg (by simp)]
  by_cases hx : gD x
  ·by_cases hy : gD y
   ·rw [if_neg (fun h => h ⟨hx,hy⟩)]
    by_cases h : F2.mul (m2 y) (m2 y) = F2.add (F2.mul (F2.mul (m2 x) (m2 x)) (m2 x)) lY
    ·rw [if_pos h];refine Good.congr (r:=.many [.fl (q2 x ++ (q2 y ++ e2 F2.one)),.im (.int .i64 0)]) ?_ ?_
     ·exact aD aG (fun _ s => nT _) (aH prog) func87 (Hw x y) ⟨hx,hy,by rw [h],trivial⟩ ha
     ·have e : aC (q2 x ++ (q2 y ++ e2 F2.one)) = aC (bI (m2 x,m2 y,F2.one)):=by
       rw [aI,aI,Fb hx,Fb hy];rfl
      show Value.tuple #[.agg (aC _).toArray,_] = .tuple #[.agg (aC _).toArray,_];rw [e]
    ·rw [if_neg h];exact aD aG (fun _ s => nT _) (aH prog) func87 (Hy x y) ⟨hx,hy,cG h,trivial⟩ ha
   ·rw [if_pos (fun h => hy h.2)];exact aD aG (fun _ s => nT _) (aH prog) func87 (Hz x y) ⟨hx,hy,trivial⟩ ha
  ·rw [if_pos (fun h => hx h.1)];exact aD aG (fun _ s => nT _) (aH prog) func87 (Ia x y) ⟨hx,trivial⟩ ha
def aIj : fQ
 | [.v (.fl l),.v (.fl m),.v (.im (.bool i))] => match Bh l,Bh m with
  | some x,some y => some ([],.many [.fl (bI (dI x y i).2),.im (.int .i64 (dI x y i).1)])
  | _,_ => none
 | _ => none
theorem aDi : ∀ cs pre r,aIj cs = some (pre,r) → aP pre → ∀ (args : List Value) (w : World),bK w cs args → Good prog 87 r args w:=by
 intro cs pre r hg hp args w ha;unfold aIj at hg;split at hg
 ·rename_i l m i;split at hg
  ·rename_i x y hx hy;cases hg;refine aIX x y i args w ?_
   match args,ha with
   | [u,v,t],ha =>
    refine ⟨?_,?_,ha.2.2⟩
    ·show u = .agg (aC (q2 x)).toArray;rw [← jA l x hx]; exact ha.1
    ·show v = .agg (aC (q2 y)).toArray;rw [← jA m y hy]; exact ha.2.1
   | [],ha => exact ha.elim
   | [_],ha => exact ha.2.elim
   | [_,_],ha => exact ha.2.2.elim
   | _ :: _ :: _ :: _ :: _,ha => exact ha.2.2.2.elim
  ·cases hg
 ·cases hg
def Zp (d : Bool) : Tab:=(tJ d).add 87 aIj
theorem Sq (d : Bool) : TabOk prog (Zp d):=(nT d).ad func87 aDi
abbrev dM:=N2 × N2 × Bool
def dR (p : dM) : List At:=[.q p.1.1,.q p.1.2,.q p.2.1.1,.q p.2.1.2,.c (.bool p.2.2)]
def Jb : List At → Option dM
 | [a,b,c,d,.c (.bool i)] => match pG a,pG b,pG c,pG d with | some x,some y,some z,some w => some ((x,y),(z,w),i) | _,_,_,_ => none
 | _ => none
theorem jB : Rd Jb dR:=fun l x h => by
 unfold Jb at h;split at h
 ·split at h
  ·rename_i x y z w h1 h2 h3 h4;cases h;show _ ++ (_ ++ (_ ++ (_ ++ _))) = w4 _ ++ (w4 _ ++ (w4 _ ++ (w4 _ ++ _)));rw [jQ h1,jQ h2,jQ h3,jQ h4]
  ·cases h
 ·cases h
def CG (p : Pt Q2) : List At:=[.f (ptX F2 p).1,.f (ptX F2 p).2,.f (ptY F2 p).1,.f (ptY F2 p).2,.c (.bool (ptI p))]
theorem aAY (d : Bool) (p : dM) : aM prog (qG prog) (fun _ => ⟨fun s => Zp d,fun s => true,fun _ => none⟩) f51 80 [.v (.fl (dR p))] = some ([],.many [.fl (bI (dI p.1 p.2.1 p.2.2).2),.im (.int .i64 (dI p.1 p.2.1 p.2.2).1)]):=by kernel_rfl
def Zg (d : Bool) : Tab:=(Zp d).add 51 (g1 Jb fun p => ([],.many [.fl (bI (dI p.1 p.2.1 p.2.2).2),.im (.int .i64 (dI p.1 p.2.1 p.2.2).1)]))
theorem Sm (d : Bool) : TabOk prog (Zg d):=(Sq d).ad func51 (cN jB fun p hp args w ha => aD aG (fun _ s => Sq _) (aH prog) func51 (aAY d p) trivial ha)
theorem aBg (d : Bool) (p : dM) : aM prog (qG prog) (fun _ => ⟨fun s => Zg d,fun s => true,fun _ => none⟩) f28 80 [.v (.fl (dR p))] = some ([],.one (.im (.int .i64 (dI p.1 p.2.1 p.2.2).1))):=by kernel_rfl
def Fp (d : Bool) : Tab:=(Zg d).add 28 (g1 Jb fun p => ([],.one (.im (.int .i64 (dI p.1 p.2.1 p.2.2).1))))
theorem XU (d : Bool) : TabOk prog (Fp d):=(Sm d).ad func28 (cN jB fun p hp args w ha => aD aG (fun _ s => Sm _) (aH prog) func28 (aBg d p) trivial ha)
theorem WD (p : J2) : aM prog (qG prog) (fun _ => ⟨fun s => Fp true,fun s => true,fun _ => none⟩) f131 80 [.v (.fl (bI p))] = some ([p.2.2 = F2.zero],.one (.fl (CG none))):=by kernel_rfl
theorem WE (p : J2) : aM prog (qG prog) (fun _ => ⟨fun s => Fp false,fun s => true,fun _ => none⟩) f131 80 [.v (.fl (bI p))] = some ([p.2.2 ≠ F2.zero],.one (.fl (CG (some (F2.mul p.1 (F2.mul (kO p.2.2) (kO p.2.2)),F2.mul p.2.1 (F2.mul (F2.mul (kO p.2.2) (kO p.2.2)) (kO p.2.2))))))):=by kernel_rfl
theorem aCe (p : J2) (args : List Value) (w : World) (ha : bK w [.v (.fl (bI p))] args) : Good prog 131 (.one (.fl (CG (hJ F2 kO p)))) args w:=by
 by_cases h : p.2.2 = F2.zero
 ·rw [dF h];exact aD aG (fun _ s => XU _) (aH prog) func131 (WD p) ⟨h,trivial⟩ ha
 ·rw [eG h];exact aD aG (fun _ s => XU _) (aH prog) func131 (WE p) ⟨h,trivial⟩ ha
def LB (d : Bool) : Tab:=(Fp d).add 131 (g1 OV fun p => ([],.one (.fl (CG (hJ F2 kO p)))))
theorem IS (d : Bool) : TabOk prog (LB d):=(XU d).ad func131 (cN gF fun p hp args w ha => aCe p args w ha)
def jG : List At:=[.c (.func (.func 51) #[] #[]),.c (.func (.func 131) #[] #[])]
theorem Ol (d : Bool) : aM prog (qG prog) (fun _ => ⟨fun s => LB d,fun s => true,fun _ => none⟩) f93 80 [] = some ([],.one (.fl jG)):=by kernel_rfl
def ZW (d : Bool) : Tab:=(LB d).add 93 (g0 (.one (.fl jG)))
theorem Ci (d : Bool) : TabOk prog (ZW d):=(IS d).ad func93 (AW fun w => aD aG (fun _ s => IS _) (aH prog) func93 (Ol d) trivial (args:=[]) trivial)
def bW (n : Nat) : Nat:=if wv n = 0 then 0 else Nat.log2 (wv n) + 1
theorem sG (n : Nat) : LenIs (wv n) (bW n):=by
 unfold bW
 by_cases h : wv n = 0
 ·rw [if_pos h,h]; exact ⟨by decide,fun h => by cases h⟩
 ·rw [if_neg h];exact ⟨Nat.lt_log2_self,fun _ => by rw [Nat.add_sub_cancel]; exact Nat.log2_self_le h⟩
theorem aEq (n : Nat) : wv n < 2 ^ 256:=by
 obtain ⟨h0,h1,h2,h3⟩:=bM n;unfold wv aA;have : (2 : Nat) ^ 256 = 115792089237316195423570985008687907853269984665640564039457584007913129639936:=by decide
 omega
theorem Dd (n : Nat) : bW n ≤ 256:=by
 rcases Nat.lt_or_ge 256 (bW n) with h | h
 ·have h1:=(sG n).2 (by omega);have h2:=Nat.pow_le_pow_right (show 0 < 2 by omega) (show 256 ≤ bW n - 1 by omega);have:=aEq n;omega
 ·exact h
def Kp : fQ
 | [.v (.fl l)] => match vZ l with
  | some n => some ([],.one (.im (.int .i64 (bW n : Nat))))
  | none => none
 | _ => none
theorem aHu : ∀ cs pre r,Kp cs = some (pre,r) → aP pre → ∀ (args : List Value) (w : World),bK w cs args → Good prog 152 r args w:=by
 intro cs pre r hg hp args w ha;unfold Kp at hg;split at hg
 ·rename_i l;split at hg
  ·rename_i n hn;cases hg;rw [tD ha,dJ l _ hn];refine (uN _ _ _ _ (bM n) w).mono ?_
   rintro e w' ⟨L,rfl,_,h,hbl⟩
   cases h.uniq (sG n);exact ⟨rfl,hbl⟩
  ·cases hg
 ·cases hg
def aIo : fQ
 | [.v (.fl l),.v (.im (.int .i64 (.ofNat i)))] => match vZ l with
  | some n => some ([i < 256],.one (.im (.int .i64 (dP (wv n) i : Nat))))
  | none => none
 | _ => none
def aHM : fQ
 | [.v (.fl l),.v (.im (.int .i64 (.ofNat k)))] => match vZ l with
  | some n => some ([k < 9223372036854775808],.one (.fl (q1 (wv n / 2 ^ k))))
  | none => none
 | _ => none
theorem aGo : ∀ cs pre r,aHM cs = some (pre,r) → aP pre → ∀ (args : List Value) (w : World),bK w cs args → Good prog 156 r args w:=by
 intro cs pre r hg hp args w ha;unfold aHM at hg;split at hg
 ·rename_i l k;split at hg
  ·rename_i n hn;cases hg
   match args,ha with
   | [v,u],ha =>
    have h1 : v = .agg (aC l).toArray:=ha.1;have h2 : u = .int .i64 (Int.ofNat k):=ha.2.1;rw [dJ l _ hn] at h1;subst h1; subst h2;have hk : k < 9223372036854775808:=hp.1;refine (gL _ _ _ _ (Int.ofNat k) (bM n) (by simp) (by simp; omega) w).mono ?_
    rintro e w' ⟨s0,s1,s2,s3,rfl,hs,hv,hb⟩
    have hlt : wv n / 2 ^ k < 115792089237316195423570985008687907853269984665640564039457584007913129639936:=by
     refine Nat.lt_of_le_of_lt (Nat.div_le_self _ _) ?_;have:=aEq n;have e : (2 : Nat) ^ 256 = 115792089237316195423570985008687907853269984665640564039457584007913129639936:=by decide
     omega
    obtain ⟨rfl,rfl,rfl,rfl⟩:=fB hs hlt hv;exact ⟨rfl,hb⟩
   | [],ha => exact ha.elim
   | [_],ha => exact ha.2.elim
   | _ :: _ :: _ :: _,ha => exact ha.2.2.elim
  ·cases hg
 ·cases hg
def Ba (x : Nat) : Nat:=fw x 0 * 2 % 18446744073709551616
def jH (x p : Nat) : Nat:=(if p = 0 then Ba x else fw (wv x / 2 ^ (p * 4 - 1)) 0) % 32
def mM (x p : Nat) : Int:=((jH x p + 1) / 2 : Nat) - (if 16 ≤ jH x p then 16 else 0 : Int)
def iX (d : Bool) : Tab:=((LB d).add 152 Kp).add 156 aHM
theorem nS (d : Bool) : TabOk prog (iX d):=((IS d).ad func152 aHu).ad func156 aGo
def fM (b o n m : Nat) : List At:=[.c (tQ b o n m),.c (iI 4)]
def atX (old : Nat → Nat → List At → Prop) (x i w : Nat) : Ext :=
 { idx:=assoc [(13,i)],ld:=assoc [(14,[At.q x])],st:=fun _ => none,gen:=assoc [(17,uI (Ba x)),(32,uI 32),(34,uI w),(37,iI (w + 1)),(42,uI (w / 16)),(47,iI 16)],mks:=fun _ => none,ky:=fun _ => none,old:=old,T2:=Fr0 }
def atN (p w : Nat) (c0 c1 : Bool) (v : Int) : Nat → Option Value:=assoc [(19,.bool c0),(24,iI (p * 4)),(25,iI (p * 4 - 1)),(36,uI (w + 1)),(38,iI ((w + 1) / 2)),(43,.bool c1),(48,.int .i64 v)]
def kM (op : BinOp) (t : Nat) (x y : Operand) (v u r : Value) : Prop:=∀ w : World,(do eqGuard op t x y v u; binOp op t v u : Sem Value).run prog w = .ok r w
theorem Io (old : Nat → Nat → List At → Prop) (b o n m i p x w : Nat) (v : Int) : aM prog (qX prog (atX old x i w)) (fun _ => ⟨fun s => iX true,fun s => true,atN p w true true v⟩) f178 80 [.v (.fl (fM b o n m)),.v (.im (iI i)),.v (.im (iI p))] = some ([Int.ofNat i = Int.ofNat i,i < n,old b (o + i * 4) [At.q x],eI [At.q x] = 4,kM .shl 22 (.tmp 16) (.const (.int .u64 1)) (.int .u64 (fw x 0 : Nat)) (.int .u64 1) (uI (Ba x)),aK .gtr .i64 (Int.ofNat p) 0 = some (.bool true),aK .mul .i64 (Int.ofNat p) (Int.ofNat 4) = some (iI (p * 4)),aK .sub .i64 (Int.ofNat (p * 4)) 1 = some (iI (p * 4 - 1)),p * 4 - 1 < 9223372036854775808,kM .shl 22 (.const (.int .u64 1)) (.tmp 31) (.int .u64 1) (.int .i64 (IntKind.i64.wrap (Int.ofNat 4 + 1))) (uI 32),kM .and 22 (.tmp 28) (.tmp 33) (.int .u64 (fw (wv x / 2 ^ (p * 4 - 1)) 0 : Nat)) (.int .u64 (IntKind.u64.wrap (Int.ofNat 32 - 1))) (uI w),aK .add .u64 (Int.ofNat w) 1 = some (uI (w + 1)),∀ W : World,(convert 22 3 (uI (w + 1))).run prog W = .ok (iI (w + 1)) W,aK .quo .i64 (Int.ofNat (w + 1)) 2 = some (iI ((w + 1) / 2)),kM .shr 22 (.tmp 39) (.tmp 41) (uI w) (iI 4) (uI (w / 16)),aK .eql .u64 (Int.ofNat (w / 16)) 1 = some (.bool true),kM .shl 3 (.const (.int .i64 1)) (.tmp 46) (.int .i64 1) (iI 4) (iI 16),aK .sub .i64 (Int.ofNat ((w + 1) / 2)) (Int.ofNat 16) = some (.int .i64 v)],.one (.im (.int .i64 v))):=by kernel_rfl
theorem Ip (old : Nat → Nat → List At → Prop) (b o n m i p x w : Nat) (v : Int) : aM prog (qX prog (atX old x i w)) (fun _ => ⟨fun s => iX true,fun s => true,atN p w true false v⟩) f178 80 [.v (.fl (fM b o n m)),.v (.im (iI i)),.v (.im (iI p))] = some ([Int.ofNat i = Int.ofNat i,i < n,old b (o + i * 4) [At.q x],eI [At.q x] = 4,kM .shl 22 (.tmp 16) (.const (.int .u64 1)) (.int .u64 (fw x 0 : Nat)) (.int .u64 1) (uI (Ba x)),aK .gtr .i64 (Int.ofNat p) 0 = some (.bool true),aK .mul .i64 (Int.ofNat p) (Int.ofNat 4) = some (iI (p * 4)),aK .sub .i64 (Int.ofNat (p * 4)) 1 = some (iI (p * 4 - 1)),p * 4 - 1 < 9223372036854775808,kM .shl 22 (.const (.int .u64 1)) (.tmp 31) (.int .u64 1) (.int .i64 (IntKind.i64.wrap (Int.ofNat 4 + 1))) (uI 32),kM .and 22 (.tmp 28) (.tmp 33) (.int .u64 (fw (wv x / 2 ^ (p * 4 - 1)) 0 : Nat)) (.int .u64 (IntKind.u64.wrap (Int.ofNat 32 - 1))) (uI w),aK .add .u64 (Int.ofNat w) 1 = some (uI (w + 1)),∀ W : World,(convert 22 3 (uI (w + 1))).run prog W = .ok (iI (w + 1)) W,aK .quo .i64 (Int.ofNat (w + 1)) 2 = some (iI ((w + 1) / 2)),kM .shr 22 (.tmp 39) (.tmp 41) (uI w) (iI 4) (uI (w / 16)),aK .eql .u64 (Int.ofNat (w / 16)) 1 = some (.bool false)],.one (.im (iI ((w + 1) / 2)))):=by kernel_rfl
theorem Iq (old : Nat → Nat → List At → Prop) (b o n m i p x w : Nat) (v : Int) : aM prog (qX prog (atX old x i w)) (fun _ => ⟨fun s => iX true,fun s => true,atN p w false true v⟩) f178 80 [.v (.fl (fM b o n m)),.v (.im (iI i)),.v (.im (iI p))] = some ([Int.ofNat i = Int.ofNat i,i < n,old b (o + i * 4) [At.q x],eI [At.q x] = 4,kM .shl 22 (.tmp 16) (.const (.int .u64 1)) (.int .u64 (fw x 0 : Nat)) (.int .u64 1) (uI (Ba x)),aK .gtr .i64 (Int.ofNat p) 0 = some (.bool false),kM .shl 22 (.const (.int .u64 1)) (.tmp 31) (.int .u64 1) (.int .i64 (IntKind.i64.wrap (Int.ofNat 4 + 1))) (uI 32),kM .and 22 (.tmp 28) (.tmp 33) (.int .u64 (Ba x : Nat)) (.int .u64 (IntKind.u64.wrap (Int.ofNat 32 - 1))) (uI w),aK .add .u64 (Int.ofNat w) 1 = some (uI (w + 1)),∀ W : World,(convert 22 3 (uI (w + 1))).run prog W = .ok (iI (w + 1)) W,aK .quo .i64 (Int.ofNat (w + 1)) 2 = some (iI ((w + 1) / 2)),kM .shr 22 (.tmp 39) (.tmp 41) (uI w) (iI 4) (uI (w / 16)),aK .eql .u64 (Int.ofNat (w / 16)) 1 = some (.bool true),kM .shl 3 (.const (.int .i64 1)) (.tmp 46) (.int .i64 1) (iI 4) (iI 16),aK .sub .i64 (Int.ofNat ((w + 1) / 2)) (Int.ofNat 16) = some (.int .i64 v)],.one (.im (.int .i64 v))):=by kernel_rfl
theorem Ir (old : Nat → Nat → List At → Prop) (b o n m i p x w : Nat) (v : Int) : aM prog (qX prog (atX old x i w)) (fun _ => ⟨fun s => iX true,fun s => true,atN p w false false v⟩) f178 80 [.v (.fl (fM b o n m)),.v (.im (iI i)),.v (.im (iI p))] = some ([Int.ofNat i = Int.ofNat i,i < n,old b (o + i * 4) [At.q x],eI [At.q x] = 4,kM .shl 22 (.tmp 16) (.const (.int .u64 1)) (.int .u64 (fw x 0 : Nat)) (.int .u64 1) (uI (Ba x)),aK .gtr .i64 (Int.ofNat p) 0 = some (.bool false),kM .shl 22 (.const (.int .u64 1)) (.tmp 31) (.int .u64 1) (.int .i64 (IntKind.i64.wrap (Int.ofNat 4 + 1))) (uI 32),kM .and 22 (.tmp 28) (.tmp 33) (.int .u64 (Ba x : Nat)) (.int .u64 (IntKind.u64.wrap (Int.ofNat 32 - 1))) (uI w),aK .add .u64 (Int.ofNat w) 1 = some (uI (w + 1)),∀ W : World,(convert 22 3 (uI (w + 1))).run prog W = .ok (iI (w + 1)) W,aK .quo .i64 (Int.ofNat (w + 1)) 2 = some (iI ((w + 1) / 2)),kM .shr 22 (.tmp 39) (.tmp 41) (uI w) (iI 4) (uI (w / 16)),aK .eql .u64 (Int.ofNat (w / 16)) 1 = some (.bool false)],.one (.im (iI ((w + 1) / 2)))):=by kernel_rfl
theorem Bc (x : Nat) : kM .shl 22 (.tmp 16) (.const (.int .u64 1)) (.int .u64 (fw x 0 : Nat)) (.int .u64 1) (uI (Ba x)):=fun w => by
 have h:=(bM x).1;simp [eqGuard,binOp,go_sem,IntKind.wrap,IntKind.signed,uI,Ba]
theorem GL : kM .shl 22 (.const (.int .u64 1)) (.tmp 31) (.int .u64 1) (.int .i64 (IntKind.i64.wrap (Int.ofNat 4 + 1))) (uI 32):=fun w => by
 have e : IntKind.i64.wrap (Int.ofNat 4 + 1) = 5:=by decide
 rw [e];simp [eqGuard,binOp,go_sem,IntKind.wrap,uI]
theorem Ng : kM .shl 3 (.const (.int .i64 1)) (.tmp 46) (.int .i64 1) (iI 4) (iI 16):=fun w => by
 simp [eqGuard,binOp,go_sem,IntKind.wrap,iI]
theorem aEy (x : Nat) (h : x < 18446744073709551616) : kM .and 22 (.tmp 28) (.tmp 33) (.int .u64 (x : Nat)) (.int .u64 (IntKind.u64.wrap (Int.ofNat 32 - 1))) (uI (x % 32)):=fun w => by
 have e : IntKind.u64.wrap (Int.ofNat 32 - 1) = ((31 : Nat) : Int):=by decide
 rw [e];have h2:=bits_and_u64_nat x 31 h (by omega);have h3 : x &&& 31 = x % 32:=Nat.and_two_pow_sub_one_eq_mod x 5;rw [h3] at h2;simp [eqGuard,binOp,go_sem,uI];exact h2
theorem aGp (x : Nat) (h : x < 64) (W : World) : (convert 22 3 (uI x)).run prog W = .ok (iI x) W:=by
 have e : IntKind.i64.wrap (x : Int) = x:=sJ (by omega);have e2 : (x : Int) % 18446744073709551616 = x:=by omega
 simp [convert,go_sem,uI,iI,e]
theorem aKy (x : Nat) (h : x < 32) : kM .shr 22 (.tmp 39) (.tmp 41) (uI x) (iI 4) (uI (x / 16)):=fun w => by
 simp [eqGuard,binOp,go_sem,uI,iI]
theorem Eg (x p : Nat) : jH x p < 32:=Nat.mod_lt _ (by omega)
theorem aLg (n : Nat) (h : n < 100) : aK .add .u64 (Int.ofNat n) 1 = some (uI (n + 1)):=by
 show some (Value.int .u64 (IntKind.u64.wrap ((n : Int) + 1))) = _;have e : IntKind.u64.wrap ((n : Int) + 1) = ((n + 1 : Nat) : Int):=by
  unfold IntKind.wrap;simp [IntKind.signed,IntKind.bits];omega
 rw [e]; rfl
theorem uF (k : IntKind) (n : Nat) : aK .eql k (Int.ofNat n) 1 = some (.bool (decide (n = 1))):=by
 show some (Value.bool ((n : Int) == 1)) = _
 by_cases h : n = 1
 ·subst h; rfl
 ·rw [decide_eq_false h,beq_eq_false_iff_ne.2 (by omega)]
theorem Yn {w0 : World} (b o n m i p x : Nat) (hx : oldOf w0 b (o + i * 4) [.q x]) (hi : i < n) (hp : p < 1152921504606846976) : Calls prog 178 #[.agg (aC (fM b o n m)).toArray,iI i,iI p] w0 (fun e w' => e = .returned (.int .i64 (mM x p)) ∧ Below w0.heap.size w0 w'):=by
 have hq : ∀ w,cH prog (qX prog (atX (oldOf w0) x i w)) w0.heap.size w0:=fun w => zE (oN _) fun _ _ _ h => h
 have hT : ∀ n d : Nat,TabOkW prog (iX true) w0.heap.size w0:=fun _ _ => (nS true).w _ _
 have ha : bK w0 [.v (.fl (fM b o n m)),.v (.im (iI i)),.v (.im (iI p))] [.agg (aC (fM b o n m)).toArray,iI i,iI p]:=⟨rfl,rfl,rfl,trivial⟩;have hw:=Eg x p;have hfw:=(bM (wv x / 2 ^ (p * 4 - 1))).1;have hs : Ba x < 18446744073709551616:=Nat.mod_lt _ (by omega);have o1:=aLg (jH x p) (by omega);have o2:=aGp (jH x p + 1) (by omega);have o3 : aK .quo .i64 (Int.ofNat (jH x p + 1)) 2 = some (iI ((jH x p + 1) / 2)):=aER (k:=2) (by omega) (by omega);have o4:=aKy (jH x p) hw;have hv : 16 ≤ jH x p → aK .sub .i64 (Int.ofNat ((jH x p + 1) / 2)) (Int.ofNat 16) = some (.int .i64 (mM x p)):=fun h => by
  show some (Value.int .i64 (IntKind.i64.wrap ((((jH x p + 1) / 2 : Nat) : Int) - 16))) = _;unfold mM;rw [if_pos h,IntKind.wrap_i64];congr 2;omega
 have hn : ¬ 16 ≤ jH x p → mM x p = Int.ofNat ((jH x p + 1) / 2):=fun h => by
  unfold mM;rw [if_neg h]; simp
 by_cases hp0 : p = 0
 ·have hd : jH x p = Ba x % 32:=by unfold jH; rw [if_pos hp0]
  have o5:=aEy (Ba x) hs;rw [← hd] at o5;have g0 : aK .gtr .i64 (Int.ofNat p) 0 = some (.bool false):=by rw [hp0]; rfl
  by_cases h16 : 16 ≤ jH x p
  ·exact aU aG hT (hq _) func178 (Iq (oldOf w0) b o n m i p x (jH x p) (mM x p)) ⟨rfl,hi,hx,rfl,Bc x,g0,GL,o5,o1,o2,o3,o4,by rw [uF,decide_eq_true (by omega)],Ng,hv h16,trivial⟩ ha
  ·rw [hn h16];exact aU aG hT (hq _) func178 (Ir (oldOf w0) b o n m i p x (jH x p) 0) ⟨rfl,hi,hx,rfl,Bc x,g0,GL,o5,o1,o2,o3,o4,by rw [uF,decide_eq_false (by omega)],trivial⟩ ha
 ·have hd : jH x p = fw (wv x / 2 ^ (p * 4 - 1)) 0 % 32:=by unfold jH; rw [if_neg hp0]
  have o5:=aEy _ hfw;rw [← hd] at o5;have g0 : aK .gtr .i64 (Int.ofNat p) 0 = some (.bool true):=by
   have:=Sw (i:=p) (n:=0);rw [decide_eq_true (by omega)] at this;exact this
  have g1 : aK .mul .i64 (Int.ofNat p) (Int.ofNat 4) = some (iI (p * 4)):=aLi (by omega);have g2 : aK .sub .i64 (Int.ofNat (p * 4)) 1 = some (iI (p * 4 - 1)):=AA (k:=1) (by omega) (by omega)
  by_cases h16 : 16 ≤ jH x p
  ·exact aU aG hT (hq _) func178 (Io (oldOf w0) b o n m i p x (jH x p) (mM x p)) ⟨rfl,hi,hx,rfl,Bc x,g0,g1,g2,by omega,GL,o5,o1,o2,o3,o4,by rw [uF,decide_eq_true (by omega)],Ng,hv h16,trivial⟩ ha
  ·rw [hn h16];exact aU aG hT (hq _) func178 (Ip (oldOf w0) b o n m i p x (jH x p) 0) ⟨rfl,hi,hx,rfl,Bc x,g0,g1,g2,by omega,GL,o5,o1,o2,o3,o4,by rw [uF,decide_eq_false (by omega)],trivial⟩ ha
def gAt (b o n m : Nat) (x : Nat → Nat) : fQ
 | [.v (.fl [.c (.slice (some ⟨b',o',.none⟩) n' m'),.c (.int .i64 (.ofNat 4))]),.v (.im (.int .i64 (.ofNat i))),.v (.im (.int .i64 (.ofNat p)))] =>
  some ([b' = b,o' = o,n' = n,m' = m,i < n,p < 1152921504606846976],.one (.im (.int .i64 (mM (x i) p))))
 | _ => none
theorem aIq {w : World} {b o n m : Nat} {x : Nat → Nat} (hx : ∀ i,i < n → oldOf w b (o + i * 4) [.q (x i)]) : ∀ cs pre r,gAt b o n m x cs = some (pre,r) → aP pre → ∀ (args : List Value),bK w cs args → Good prog 178 r args w:=by
 intro cs pre r hg hp args ha;unfold gAt at hg;split at hg
 ·rename_i b' o' n' m' i p;cases hg;obtain ⟨rfl,rfl,rfl,rfl,hi,hpp,_⟩:=hp
  match args,ha with
  | [u,v,t],ha =>
   have h1 : u = .agg (aC (fM b' o' n' m')).toArray:=ha.1;have h2 : v = iI i:=ha.2.1;have h3 : t = iI p:=ha.2.2.1;subst h1; subst h2; subst h3;exact Yn b' o' n' m' i p (x i) (hx i hi) hi hpp
  | [],ha => exact ha.elim
  | [_],ha => exact ha.2.elim
  | [_,_],ha => exact ha.2.2.elim
  | _ :: _ :: _ :: _ :: _,ha => exact ha.2.2.2.elim
 ·cases hg
def xt0 (old : Nat → Nat → List At → Prop) : Ext:={ idx:=fun _ => none,ld:=fun _ => none,st:=fun _ => none,gen:=fun _ => none,mks:=fun _ => none,ky:=fun _ => none,old:=old,T2:=Fr0 }
theorem DH {x : Ext} {w : World} (h : x.old = oldOf w) (h2 : x.T2 = Fr0) : cH prog (qX prog x) w.heap.size w:=zE (h2 ▸ oN _) fun _ _ _ q => h ▸ q
def pH (x : Nat → Nat) : Nat → Nat
 | 0 => 0
 | i + 1 => if bW (x i) > pH x i then bW (x i) else pH x i
theorem YA (x : Nat → Nat) : ∀ i,pH x i ≤ 256
 | 0 => Nat.zero_le _
 | i + 1 => by
  have:=YA x i;have:=Dd (x i);unfold pH;split <;> omega
theorem Tp (x : Nat → Nat) : ∀ n i,i < n → bW (x i) ≤ pH x n
 | n + 1,i,h => by
  unfold pH
  by_cases e : i = n
  ·subst e; split <;> omega
  ·have:=Tp x n i (by omega);split <;> omega
def plX (old : Nat → Nat → List At → Prop) (x i : Nat) : Ext:={ xt0 old with idx:=assoc [(11,i)],ld:=assoc [(12,[At.q x])] }
def Rm (b o n m i mx : Nat) : List Fact:=[.slot 1 (.pt 1 0),.row 1 true (fM b o n m),.slot 3 (.im (iI mx)),.slot 7 (.im (tQ b o n m)),.slot 8 (.im (iI n)),.slot 9 (.im (iI i))]
def Rq (num : Nat → Option Value) (_ : Nat) : Cfg:=⟨fun _ => iX true,fun _ => true,num⟩
def jC : Code:=(f187.body).getD .skip
def XL : Code:=Li (Li (cB (cA (cB (cB jC)))))
theorem aCa : jC = .seq (cA jC) (.seq (cA (cB jC)) (.seq (.seq (cA (cA (cB (cB jC)))) (.block 0 (.loop XL))) (cB (cB (cB jC))))):=by kernel_rfl
def plA (b o n m : Nat) : List Fact:=[.slot 1 (.pt 1 0),.row 1 true (fM b o n m)]
def plB (b o n m : Nat) : List Fact:=[.slot 1 (.pt 1 0),.row 1 true (fM b o n m),.slot 3 (.im (iI 0))]
theorem aKY (b o n m : Nat) : cM prog (qG prog) f187.ntmps (Rq fun _ => none) 40 (cA jC) (mQ 0 [.v (.fl (fM b o n m))]) (plA b o n m) = some ([],.nrm,plA b o n m):=by kernel_rfl
theorem aKX (b o n m : Nat) : cM prog (qG prog) f187.ntmps (Rq fun _ => none) 40 (cA (cB jC)) (plA b o n m) (plB b o n m) = some ([],.nrm,plB b o n m):=by kernel_rfl
theorem aKW (b o n m : Nat) : cM prog (qG prog) f187.ntmps (Rq fun _ => none) 40 (cA (cA (cB (cB jC)))) (plB b o n m) (Rm b o n m 0 0) = some ([],.nrm,Rm b o n m 0 0):=by kernel_rfl
theorem aKZ (old : Nat → Nat → List At → Prop) (b o n m i mx mx' x : Nat) : cM prog (qX prog (plX old x i)) f187.ntmps (Rq (assoc [(10,.bool true),(16,iI mx'),(17,iI (i + 1))])) 40 XL (Rm b o n m i mx) (Rm b o n m (i + 1) mx') = some ([aK .lss .i64 (Int.ofNat i) (Int.ofNat n) = some (.bool true),Int.ofNat i = Int.ofNat i,i < n,old b (o + i * 4) [.q x],eI [At.q x] = 4,Value.int .i64 (if (Int.ofNat (bW x)) > (Int.ofNat mx) then Int.ofNat (bW x) else Int.ofNat mx) = iI mx',aK .add .i64 (Int.ofNat i) 1 = some (iI (i + 1))],.nrm,Rm b o n m (i + 1) mx'):=by kernel_rfl
theorem aGP (b o n m i mx : Nat) : cM prog (qG prog) f187.ntmps (Rq (assoc [(10,.bool false)])) 40 XL (Rm b o n m i mx) (Rm b o n m i mx) = some ([aK .lss .i64 (Int.ofNat i) (Int.ofNat n) = some (.bool false)],.ex 0,Rm b o n m i mx):=by kernel_rfl
theorem aBZ (b o n m i mx : Nat) : cM prog (qG prog) f187.ntmps (Rq (assoc [(21,iI (mx / 4)),(22,iI (mx / 4 + 1))])) 40 (cB (cB (cB jC))) (Rm b o n m i mx) [.slot 2 (.im (iI (mx / 4 + 1)))] = some ([aK .quo .i64 (Int.ofNat mx) (Int.ofNat 4) = some (iI (mx / 4)),aK .add .i64 (Int.ofNat (mx / 4)) 1 = some (iI (mx / 4 + 1))],.rt,[.slot 2 (.im (iI (mx / 4 + 1)))]):=by kernel_rfl
theorem IL {w0 : World} (b o n m : Nat) (x : Nat → Nat) (hx : ∀ i,i < n → oldOf w0 b (o + i * 4) [.q (x i)]) (hn : n < 4611686018427387904) : Calls prog 187 #[.agg (aC (fM b o n m)).toArray] w0 (fun e w' => e = .returned (iI (pH x n / 4 + 1)) ∧ Below w0.heap.size w0 w'):=by
 have hG : cH prog (qG prog) w0.heap.size w0:=(aH _).w _ _;have hT : ∀ n d : Nat,TabOkW prog (iX true) w0.heap.size w0:=fun _ _ => (nS true).w _ _
 refine fX func187 (c:=jC) rfl (args:=[.agg (aC (fM b o n m)).toArray]) (cs:=[.v (.fl (fM b o n m))]) ⟨rfl,trivial⟩ (Nat.le_of_ble_eq_true (by kernel_rfl)) fun a w' hA => ?_
 rw [aCa];refine wp_seq (aT aG hT hG (aKY b o n m) trivial hA fun a w' hA => ?_);refine wp_seq (aT aG hT hG (aKX b o n m) trivial hA fun a w' hA => ?_);refine wp_seq (wp_seq (aT aG hT hG (aKW b o n m) trivial hA fun a w' hA => ?_));refine wp_block ?_;refine qJ aG (fun i => Rm b o n m i (pH x i)) n (fun i hi => ?_) (.ex 0) (by simp) (Rm b o n m n (pH x n)) ?_ hA fun a w' hA => ?_
 ·refine ⟨_,_,_,_,DH (x:=plX (oldOf w0) (x i) i) rfl rfl,hT,aKZ (oldOf w0) b o n m i (pH x i) (pH x (i + 1)) (x i),mG hi,rfl,hi,hx i hi,rfl,?_,EG (k:=1) (by omega),trivial⟩;show Value.int .i64 (if ((bW (x i) : Nat) : Int) > ((pH x i : Nat) : Int) then ((bW (x i) : Nat) : Int) else ((pH x i : Nat) : Int)) = .int .i64 ((pH x (i + 1) : Nat) : Int);rw [pH]
  by_cases h : bW (x i) > pH x i
  ·rw [if_pos h,if_pos (by omega)]
  ·rw [if_neg h,if_neg (by omega)]
 ·exact ⟨_,_,_,_,hG,hT,aGP b o n m n _,rZ (Nat.le_refl _),trivial⟩
 ·have:=YA x n;show (cB (cB (cB jC))).wp _ _ _ _;exact aT aG hT hG (aBZ b o n m n _) ⟨aER (by omega) (by omega),EG (k:=1) (by omega),trivial⟩ hA fun a w' hA => gW (l:=[.im (iI (pH x n / 4 + 1))]) (r:=.one (.im (iI (pH x n / 4 + 1)))) (by kernel_rfl) (by kernel_rfl) hA
def jt1 (p : J1) : Nat → J1
 | 0 => (F1.zero,F1.zero,F1.zero)
 | k + 1 => gT F1 (jt1 p k) p
theorem Eh (x p : Nat) : -8 ≤ mM x p ∧ mM x p ≤ 8:=by
 have:=Eg x p;unfold mM;split <;> omega
structure ClMem1 (w : World) (bt bd bT N b o n m : Nat) (x : Nat → Nat) (pt : Nat → J1) : Prop where
 t : oldOf w bt 0 [.c (tQ bT 0 N N)]
 d : oldOf w bd 0 (fM b o n m)
 x : ∀ i,i < n → oldOf w b (o + i * 4) [.q (x i)]
 p : ∀ i,i < N → ∀ k,k < 8 → oldOf w bT (i * 96 + k * 12) (kH (jt1 (pt i) (k + 1)))
theorem oldOf.on {base : Nat} {w w' : World} (hb : Below w.heap.size w w') {b o : Nat} {l : List At} (h : oldOf w b o l) : oldOf w' b o l:=⟨Nat.lt_of_lt_of_le h.1 hb.size,oI hb h.1 h.2⟩
theorem ClMem1.on {w w' : World} (hb : Below w.heap.size w w') {bt bd bT N b o n m : Nat} {x : Nat → Nat} {pt : Nat → J1} (h : ClMem1 w bt bd bT N b o n m x pt) : ClMem1 w' bt bd bT N b o n m x pt :=
 ⟨h.t.on hb (base:=0),h.d.on hb (base:=0),fun i hi => (h.x i hi).on hb (base:=0),fun i hi k hk => (h.p i hi k hk).on hb (base:=0)⟩
def gPl (b o n m PL : Nat) : fQ
 | [.v (.fl [.c (.slice (some ⟨b',o',.none⟩) n' m'),.c (.int .i64 (.ofNat 4))])] => some ([b' = b,o' = o,n' = n,m' = m],.one (.im (iI PL)))
 | _ => none
def DA (p : J2) : Nat → J2
 | 0 => (F2.zero,F2.zero,F2.zero)
 | k + 1 => gT F2 (DA p k) p
def Ge (p : J2) : Int → J2
 | .ofNat 0 => (F2.zero,F2.zero,F2.zero)
 | .ofNat (k + 1) => DA p (k + 1)
 | .negSucc k => JK F2 (DA p (k + 1))
def Gf (old : Nat → Nat → List At → Prop) (k : Nat) (h : Int) (q : J2) : Ext:={ xt0 old with idx:=assoc [(12,k),(22,k)],ld:=assoc [(13,bI q),(23,bI q)],gen:=assoc [(19,.int .i64 h)] }
theorem Gr (old : Nat → Nat → List At → Prop) (b off k : Nat) (g h : Int) (q : J2) : aM prog (qX prog (Gf old k h q)) (fun _ => ⟨fun s => iX true,fun s => true,assoc [(7,.bool true),(10,iI k)]⟩) f177 80 [.v (.im (wC b off)),.v (.im (.int .i64 g))] = some ([aK .gtr .i64 g 0 = some (.bool true),aK .sub .i64 g 1 = some (iI k),Int.ofNat k = Int.ofNat k,k < 8,old b (off + k * 24) (bI q),eI (bI q) = 24],.one (.fl (bI q))):=by kernel_rfl
theorem Gs (old : Nat → Nat → List At → Prop) (b off k : Nat) (g h : Int) (q : J2) : aM prog (qX prog (Gf old k h q)) (fun _ => ⟨fun s => iX true,fun s => true,assoc [(7,.bool false),(16,.bool true),(20,iI k)]⟩) f177 80 [.v (.im (wC b off)),.v (.im (.int .i64 g))] = some ([aK .gtr .i64 g 0 = some (.bool false),aK .lss .i64 g 0 = some (.bool true),(∀ W : World,(Op.unary .neg (.int .i64 g)).run prog W = .ok (.int .i64 h) W),aK .sub .i64 h 1 = some (iI k),Int.ofNat k = Int.ofNat k,k < 8,old b (off + k * 24) (bI q),eI (bI q) = 24],.one (.fl (bI (JK F2 q)))):=by kernel_rfl
theorem Gq (old : Nat → Nat → List At → Prop) (b off k : Nat) (g h : Int) (q : J2) : aM prog (qX prog (Gf old k h q)) (fun _ => ⟨fun s => iX true,fun s => true,assoc [(7,.bool false),(16,.bool false)]⟩) f177 80 [.v (.im (wC b off)),.v (.im (.int .i64 g))] = some ([aK .gtr .i64 g 0 = some (.bool false),aK .lss .i64 g 0 = some (.bool false)],.one (.fl (bI (F2.zero,F2.zero,F2.zero)))):=by kernel_rfl
theorem TS {w0 : World} (b off : Nat) (g : Int) (p : J2) (hp : ∀ k,k < 8 → oldOf w0 b (off + k * 24) (bI (DA p (k + 1)))) (h1 : -8 ≤ g) (h2 : g ≤ 8) : Calls prog 177 #[wC b off,.int .i64 g] w0 (fun e w' => e = .returned (.agg (aC (bI (Ge p g))).toArray) ∧ Below w0.heap.size w0 w'):=by
 have hT : ∀ n d : Nat,TabOkW prog (iX true) w0.heap.size w0:=fun _ _ => (nS true).w _ _
 have ha : bK w0 [.v (.im (wC b off)),.v (.im (.int .i64 g))] [wC b off,.int .i64 g]:=⟨rfl,rfl,trivial⟩
 match g,h1,h2,ha with
 | .ofNat 0,_,_,ha => exact aU aG hT (DH (x:=Gf (oldOf w0) 0 0 (F2.zero,F2.zero,F2.zero)) rfl rfl) func177 (Gq (oldOf w0) b off 0 _ 0 (F2.zero,F2.zero,F2.zero)) ⟨rfl,rfl,trivial⟩ ha
 | .ofNat (k + 1),_,h2,ha =>
  have hk : k < 8:=by have h2' : ((k + 1 : Nat) : Int) ≤ 8:=h2; omega
  exact aU aG hT (DH (x:=Gf (oldOf w0) k 0 (DA p (k + 1))) rfl rfl) func177 (Gr (oldOf w0) b off k _ 0 (DA p (k + 1))) ⟨by rw [show (0 : Int) = Int.ofNat 0 from rfl,Sw,decide_eq_true (by omega)],AA (k:=1) (by omega) (by omega),rfl,hk,hp k hk,rfl,trivial⟩ ha
 | .negSucc k,h1,_,ha =>
  have hk : k < 8:=by have h1' : -8 ≤ -((k : Int) + 1):=h1; omega
  refine aU aG hT (DH (x:=Gf (oldOf w0) k (Int.ofNat (k + 1)) (DA p (k + 1))) rfl rfl) func177 (Gs (oldOf w0) b off k _ (Int.ofNat (k + 1)) (DA p (k + 1))) ⟨?_,?_,?_,AA (k:=1) (by omega) (by omega),rfl,hk,hp k hk,rfl,trivial⟩ ha
  ·show some (Value.bool (decide (Int.negSucc k > 0))) = _;rw [decide_eq_false (by omega)]
  ·show some (Value.bool (decide (Int.negSucc k < 0))) = _;rw [decide_eq_true (by omega)]
  ·intro W;have e : IntKind.i64.wrap (0 - Int.negSucc k) = Int.ofNat (k + 1):=by rw [IntKind.wrap_i64]; show _ = ((k + 1 : Nat) : Int); omega
   show (Op.intArith .sub .i64 0 (Int.negSucc k)).run prog W = _;simp only [Op.intArith,Sem.run_pure,e]
def Vf (bT i : Nat) (p : J2) : fQ
 | [.v (.im (.pointer (some ⟨b',off,.none⟩))),.v (.im (.int .i64 g))] => some ([b' = bT,off = i * 192,-8 ≤ g,g ≤ 8],.one (.fl (bI (Ge p g))))
 | _ => none
theorem Ve {w : World} {bT i : Nat} {p : J2} (hp : ∀ k,k < 8 → oldOf w bT (i * 192 + k * 24) (bI (DA p (k + 1)))) : ∀ cs pre r,Vf bT i p cs = some (pre,r) → aP pre → ∀ (args : List Value),bK w cs args → Good prog 177 r args w:=by
 intro cs pre r hg hq args ha;unfold Vf at hg;split at hg
 ·rename_i b' off g;cases hg;obtain ⟨rfl,rfl,h1,h2,_⟩:=hq
  match args,ha with
  | [u,v],ha =>
   have e1 : u = wC b' (i * 192):=ha.1;have e2 : v = .int .i64 g:=ha.2.1;subst e1; subst e2;exact TS b' _ g p hp h1 h2
  | [],ha => exact ha.elim
  | [_],ha => exact ha.2.elim
  | _ :: _ :: _ :: _,ha => exact ha.2.2.elim
 ·cases hg
def EX (pt : Nat → J2) (x : Nat → Nat) (p : Nat) : Nat → J2
 | 0 => (F2.zero,F2.zero,F2.zero)
 | i + 1 => gT F2 (EX pt x p i) (Ge (pt i) (mM (x i) p))
def aDI (old : Nat → Nat → List At → Prop) (bT N b o n m i : Nat) : Ext:={ xt0 old with idx:=assoc [(15,i)],ld:=assoc [(16,fM b o n m)],gen:=assoc [(7,tQ bT 0 N N),(13,tQ bT 0 N N)] }
def BK (pl bt bd N i : Nat) (c : J2) : List Fact:=[.slot 0 (.im (iI pl)),.slot 1 (.im (wC bt 0)),.slot 2 (.im (wC bd 0)),.slot 4 (.pt 4 0),.row 4 true (bI (F2.zero,F2.zero,F2.zero)),.slot 5 (.pt 5 0),.row 5 true (bI c),.slot 8 (.im (iI N)),.slot 9 (.im (iI i))]
def aOh (bT b o n m : Nat) (x : Nat → Nat) (i : Nat) (p : J2) : Tab:=((iX true).add 178 (gAt b o n m x)).add 177 (Vf bT i p)
def gC : Code:=(f175.body).getD .skip
def KA : Code:=Li (Li (cB (cA (cB (cB gC)))))
theorem Xm : gC = .seq (cA gC) (.seq (cA (cB gC)) (.seq (.seq (cA (cA (cB (cB gC)))) (.block 0 (.loop KA))) (cB (cB (cB gC))))):=by kernel_rfl
def aIP (pl bt bd : Nat) : List Fact:=[.slot 0 (.im (iI pl)),.slot 1 (.im (wC bt 0)),.slot 2 (.im (wC bd 0)),.slot 4 (.pt 4 0),.row 4 true (bI (F2.zero,F2.zero,F2.zero))]
def aIO (pl bt bd : Nat) : List Fact:=[.slot 0 (.im (iI pl)),.slot 1 (.im (wC bt 0)),.slot 2 (.im (wC bd 0)),.slot 4 (.pt 4 0),.row 4 true (bI (F2.zero,F2.zero,F2.zero)),.slot 5 (.pt 5 0),.row 5 true (bI (F2.zero,F2.zero,F2.zero))]
theorem aIS (pl bt bd : Nat) : cM prog (qG prog) f175.ntmps (Rq fun _ => none) 40 (cA gC) (mQ 0 [.v (.im (iI pl)),.v (.im (wC bt 0)),.v (.im (wC bd 0))]) (aIP pl bt bd) = some ([],.nrm,aIP pl bt bd):=by kernel_rfl
theorem aIR (pl bt bd : Nat) : cM prog (qG prog) f175.ntmps (Rq fun _ => none) 40 (cA (cB gC)) (aIP pl bt bd) (aIO pl bt bd) = some ([],.nrm,aIO pl bt bd):=by kernel_rfl
theorem aIQ (old : Nat → Nat → List At → Prop) (pl bt bd bT N b o n m : Nat) : cM prog (qX prog (aDI old bT N b o n m 0)) f175.ntmps (Rq fun _ => none) 40 (cA (cA (cB (cB gC)))) (aIO pl bt bd) (BK pl bt bd N 0 (F2.zero,F2.zero,F2.zero)) = some ([old bt 0 [.c (tQ bT 0 N N)]],.nrm,BK pl bt bd N 0 (F2.zero,F2.zero,F2.zero)):=by kernel_rfl
theorem aIT (old : Nat → Nat → List At → Prop) (pl bt bd bT N b o n m i : Nat) (x : Nat → Nat) (p c : J2) : cM prog (qX prog (aDI old bT N b o n m i)) f175.ntmps (fun _ => ⟨fun _ => aOh bT b o n m x i p,fun _ => true,assoc [(10,.bool true),(22,iI (i + 1))]⟩) 40 KA (BK pl bt bd N i c) (BK pl bt bd N (i + 1) (gT F2 c (Ge p (mM (x i) pl)))) = some ([aK .lss .i64 (Int.ofNat i) (Int.ofNat N) = some (.bool true),old bt 0 [.c (tQ bT 0 N N)],Int.ofNat i = Int.ofNat i,i < N,old bd 0 (fM b o n m),eI (fM b o n m) = 2,b = b,o = o,n = n,m = m,i < n,pl < 1152921504606846976,bT = bT,0 + i * 192 = i * 192,-8 ≤ mM (x i) pl,mM (x i) pl ≤ 8,aK .add .i64 (Int.ofNat i) 1 = some (iI (i + 1))],.nrm,BK pl bt bd N (i + 1) (gT F2 c (Ge p (mM (x i) pl)))):=by kernel_rfl
theorem aDJ (pl bt bd N i : Nat) (c : J2) : cM prog (qG prog) f175.ntmps (Rq (assoc [(10,.bool false)])) 40 KA (BK pl bt bd N i c) (BK pl bt bd N i c) = some ([aK .lss .i64 (Int.ofNat i) (Int.ofNat N) = some (.bool false)],.ex 0,BK pl bt bd N i c):=by kernel_rfl
theorem Xl (pl bt bd N i : Nat) (c : J2) : cM prog (qG prog) f175.ntmps (Rq fun _ => none) 40 (cB (cB (cB gC))) (BK pl bt bd N i c) [.slot 4 (.pt 4 0),.row 4 true (bI c)] = some ([],.rt,[.slot 4 (.pt 4 0),.row 4 true (bI c)]):=by kernel_rfl
structure ClMem2 (w : World) (bt bd bT N b o n m : Nat) (x : Nat → Nat) (pt : Nat → J2) : Prop where
 t : oldOf w bt 0 [.c (tQ bT 0 N N)]
 d : oldOf w bd 0 (fM b o n m)
 x : ∀ i,i < n → oldOf w b (o + i * 4) [.q (x i)]
 p : ∀ i,i < N → ∀ k,k < 8 → oldOf w bT (i * 192 + k * 24) (bI (DA (pt i) (k + 1)))
theorem ClMem2.on {w w' : World} (hb : Below w.heap.size w w') {bt bd bT N b o n m : Nat} {x : Nat → Nat} {pt : Nat → J2} (h : ClMem2 w bt bd bT N b o n m x pt) : ClMem2 w' bt bd bT N b o n m x pt :=
 ⟨h.t.on hb (base:=0),h.d.on hb (base:=0),fun i hi => (h.x i hi).on hb (base:=0),fun i hi k hk => (h.p i hi k hk).on hb (base:=0)⟩
theorem La {w0 : World} {bt bd bT N b o n m : Nat} {x : Nat → Nat} {pt : Nat → J2} (h : ClMem2 w0 bt bd bT N b o n m x pt) (hN : N ≤ n) (hn : n < 4611686018427387904) {pl : Nat} (hpl : pl < 1152921504606846976) : Calls prog 175 #[iI pl,wC bt 0,wC bd 0] w0 (fun e w' => e = .returned (.agg (aC (bI (EX pt x pl N))).toArray) ∧ Below w0.heap.size w0 w'):=by
 have hG : cH prog (qG prog) w0.heap.size w0:=(aH _).w _ _;have hT : ∀ n d : Nat,TabOkW prog (iX true) w0.heap.size w0:=fun _ _ => (nS true).w _ _
 refine fX func175 (c:=gC) rfl (args:=[iI pl,wC bt 0,wC bd 0]) (cs:=[.v (.im (iI pl)),.v (.im (wC bt 0)),.v (.im (wC bd 0))]) ⟨rfl,rfl,rfl,trivial⟩ (Nat.le_of_ble_eq_true (by kernel_rfl)) fun a w' hA => ?_
 rw [Xm];refine wp_seq (aT aG hT hG (aIS pl bt bd) trivial hA fun a w' hA => ?_);refine wp_seq (aT aG hT hG (aIR pl bt bd) trivial hA fun a w' hA => ?_);refine wp_seq (wp_seq (aT aG hT (DH (x:=aDI (oldOf w0) bT N b o n m 0) rfl rfl) (aIQ (oldOf w0) pl bt bd bT N b o n m) ⟨h.t,trivial⟩ hA fun a w' hA => ?_));refine wp_block ?_;refine qJ aG (fun i => BK pl bt bd N i (EX pt x pl i)) N (fun i hi => ?_) (.ex 0) (by simp) (BK pl bt bd N N (EX pt x pl N)) ?_ hA fun a w' hA => ?_
 ·refine ⟨_,_,_,_,DH (x:=aDI (oldOf w0) bT N b o n m i) rfl rfl,fun _ _ => ?_,aIT (oldOf w0) pl bt bd bT N b o n m i x (pt i) (EX pt x pl i),mG hi,h.t,rfl,hi,h.d,rfl,rfl,rfl,rfl,rfl,by omega,hpl,rfl,by omega,(Eh _ _).1,(Eh _ _).2,EG (k:=1) (by omega),trivial⟩;refine TabOkW.add (TabOkW.add ((nS true).w _ _) func178 (by kernel_rfl) (by kernel_rfl) fun w hw => ?_) func177 (by kernel_rfl) (by kernel_rfl) fun w hw => ?_
  ·exact aIq fun j hj => (h.x j hj).on hw (base:=0)
  ·exact Ve fun k hk => (h.p i hi k hk).on hw (base:=0)
 ·exact ⟨_,_,_,_,hG,hT,aDJ pl bt bd N N _,rZ (Nat.le_refl _),trivial⟩
 ·show (cB (cB (cB gC))).wp _ _ _ _;exact aT aG hT hG (Xl pl bt bd N N _) trivial hA fun a w' hA => gW (l:=[.fl (bI (EX pt x pl N))]) (r:=.one (.fl (bI (EX pt x pl N)))) (by kernel_rfl) (by kernel_rfl) hA
def Jq (D : Nat → J2) (PL : Nat) : Nat → J2
 | 0 => (F2.zero,F2.zero,F2.zero)
 | i + 1 => gT F2 (dT F2 (dT F2 (dT F2 (dT F2 (Jq D PL i))))) (D (PL - 1 - i))
def BJ (bt bd : Nat) : Value:=.func (.func 175) #[] #[wC bt 0,wC bd 0]
def zO (bt bd b o n m PL i : Nat) (c : J2) : List Fact:=[.slot 1 (.im (BJ bt bd)),.slot 2 (.pt 2 0),.row 2 true (fM b o n m),.slot 4 (.pt 4 0),.row 4 true (bI (F2.zero,F2.zero,F2.zero)),.slot 5 (.pt 5 0),.row 5 true (bI c),.slot 6 (.im (iI PL)),.slot 10 (.im (iI PL)),.slot 11 (.im (iI i))]
def aLI (bt bd : Nat) (D : Nat → J2) : fQ
 | [.v (.im (.int .i64 (.ofNat p))),.v (.im (.pointer (some ⟨b1,0,.none⟩))),.v (.im (.pointer (some ⟨b2,0,.none⟩)))] => some ([b1 = bt,b2 = bd,p < 1152921504606846976],.one (.fl (bI (D p))))
 | _ => none
def aNA (bt bd b o n m PL : Nat) (D : Nat → J2) : Tab:=((iX true).add 187 (gPl b o n m PL)).add 175 (aLI bt bd D)
def fA : Code:=(f174.body).getD .skip
def IM : Code:=Li (Li (cB (cA (cB (cB (cB fA))))))
theorem Ry : fA = .seq (cA fA) (.seq (cA (cB fA)) (.seq (cA (cB (cB fA))) (.seq (.seq (cA (cA (cB (cB (cB fA))))) (.block 0 (.loop IM))) (cB (cB (cB (cB fA))))))):=by kernel_rfl
def QB (bt bd b o n m PL : Nat) (D : Nat → J2) (num : Nat → Option Value) (_ : Nat) : Cfg:=⟨fun _ => aNA bt bd b o n m PL D,fun _ => true,num⟩
def aGT (bt bd b o n m : Nat) : List Fact:=[.slot 1 (.im (BJ bt bd)),.slot 2 (.pt 2 0),.row 2 true (fM b o n m),.slot 4 (.pt 4 0),.row 4 true (bI (F2.zero,F2.zero,F2.zero))]
def aGS (bt bd b o n m : Nat) : List Fact:=[.slot 1 (.im (BJ bt bd)),.slot 2 (.pt 2 0),.row 2 true (fM b o n m),.slot 4 (.pt 4 0),.row 4 true (bI (F2.zero,F2.zero,F2.zero)),.slot 5 (.pt 5 0),.row 5 true (bI (F2.zero,F2.zero,F2.zero))]
def Rw (bt bd b o n m PL : Nat) : List Fact:=[.slot 1 (.im (BJ bt bd)),.slot 2 (.pt 2 0),.row 2 true (fM b o n m),.slot 4 (.pt 4 0),.row 4 true (bI (F2.zero,F2.zero,F2.zero)),.slot 5 (.pt 5 0),.row 5 true (bI (F2.zero,F2.zero,F2.zero)),.slot 6 (.im (iI PL))]
theorem aGX (bt bd b o n m PL : Nat) (D : Nat → J2) : cM prog (qG prog) f174.ntmps (QB bt bd b o n m PL D fun _ => none) 40 (cA fA) (mQ 0 [.v (.fl (fM b o n m)),.v (.im (BJ bt bd))]) (aGT bt bd b o n m) = some ([],.nrm,aGT bt bd b o n m):=by kernel_rfl
theorem aGW (bt bd b o n m PL : Nat) (D : Nat → J2) : cM prog (qG prog) f174.ntmps (QB bt bd b o n m PL D fun _ => none) 40 (cA (cB fA)) (aGT bt bd b o n m) (aGS bt bd b o n m) = some ([],.nrm,aGS bt bd b o n m):=by kernel_rfl
theorem aGV (bt bd b o n m PL : Nat) (D : Nat → J2) : cM prog (qG prog) f174.ntmps (QB bt bd b o n m PL D fun _ => none) 40 (cA (cB (cB fA))) (aGS bt bd b o n m) (Rw bt bd b o n m PL) = some ([b = b,o = o,n = n,m = m],.nrm,Rw bt bd b o n m PL):=by kernel_rfl
theorem aGU (bt bd b o n m PL : Nat) (D : Nat → J2) : cM prog (qG prog) f174.ntmps (QB bt bd b o n m PL D fun _ => none) 40 (cA (cA (cB (cB (cB fA))))) (Rw bt bd b o n m PL) (zO bt bd b o n m PL 0 (F2.zero,F2.zero,F2.zero)) = some ([],.nrm,zO bt bd b o n m PL 0 (F2.zero,F2.zero,F2.zero)):=by kernel_rfl
theorem aGY (bt bd b o n m PL i : Nat) (D : Nat → J2) (c : J2) : cM prog (qG prog) f174.ntmps (QB bt bd b o n m PL D (assoc [(12,.bool true),(24,iI (PL - 1)),(26,iI (PL - 1 - i)),(29,iI (i + 1))])) 60 IM (zO bt bd b o n m PL i c) (zO bt bd b o n m PL (i + 1) (gT F2 (dT F2 (dT F2 (dT F2 (dT F2 c)))) (D (PL - 1 - i)))) = some ([aK .lss .i64 (Int.ofNat i) (Int.ofNat PL) = some (.bool true),aK .sub .i64 (Int.ofNat PL) 1 = some (iI (PL - 1)),aK .sub .i64 (Int.ofNat (PL - 1)) (Int.ofNat i) = some (iI (PL - 1 - i)),bt = bt,bd = bd,PL - 1 - i < 1152921504606846976,aK .add .i64 (Int.ofNat i) 1 = some (iI (i + 1))],.nrm,zO bt bd b o n m PL (i + 1) (gT F2 (dT F2 (dT F2 (dT F2 (dT F2 c)))) (D (PL - 1 - i)))):=by kernel_rfl
theorem aCd (bt bd b o n m PL i : Nat) (D : Nat → J2) (c : J2) : cM prog (qG prog) f174.ntmps (QB bt bd b o n m PL D (assoc [(12,.bool false)])) 40 IM (zO bt bd b o n m PL i c) (zO bt bd b o n m PL i c) = some ([aK .lss .i64 (Int.ofNat i) (Int.ofNat PL) = some (.bool false)],.ex 0,zO bt bd b o n m PL i c):=by kernel_rfl
theorem Rx (bt bd b o n m PL i : Nat) (D : Nat → J2) (c : J2) : cM prog (qG prog) f174.ntmps (QB bt bd b o n m PL D fun _ => none) 40 (cB (cB (cB (cB fA)))) (zO bt bd b o n m PL i c) [.slot 4 (.pt 4 0),.row 4 true (bI c)] = some ([],.rt,[.slot 4 (.pt 4 0),.row 4 true (bI c)]):=by kernel_rfl
theorem Jp {w0 : World} {bt bd bT N b o n m : Nat} {x : Nat → Nat} {pt : Nat → J2} (h : ClMem2 w0 bt bd bT N b o n m x pt) (hN : N ≤ n) (hn : n < 4611686018427387904) : Calls prog 174 #[.agg (aC (fM b o n m)).toArray,BJ bt bd] w0 (fun e w' => e = .returned (.agg (aC (bI (Jq (fun p => EX pt x p N) (pH x n / 4 + 1) (pH x n / 4 + 1)))).toArray) ∧ Below w0.heap.size w0 w'):=by
 have hG : cH prog (qG prog) w0.heap.size w0:=(aH _).w _ _;have hL:=YA x n;generalize hPL : pH x n / 4 + 1 = PL;have hPL' : PL < 1000:=by omega
 have hT : ∀ num,∀ n' d : Nat,TabOkW prog ((QB bt bd b o n m PL (fun p => EX pt x p N) num n').T d) w0.heap.size w0:=fun num _ _ => by
  refine TabOkW.add (TabOkW.add ((nS true).w _ _) func187 (by kernel_rfl) (by kernel_rfl) fun w hw cs pre r hg hq args ha => ?_) func175 (by kernel_rfl) (by kernel_rfl) fun w hw cs pre r hg hq args ha => ?_
  ·unfold gPl at hg;split at hg
   ·cases hg;obtain ⟨rfl,rfl,rfl,rfl,_⟩:=hq;rw [tD ha,← hPL];exact IL _ _ _ _ x (fun j hj => (h.x j hj).on hw (base:=0)) hn
   ·cases hg
  ·unfold aLI at hg;split at hg
   ·rename_i p b1 b2;cases hg;obtain ⟨rfl,rfl,hp,_⟩:=hq
    match args,ha with
    | [u,v,t],ha =>
     have e1 : u = iI p:=ha.1;have e2 : v = wC b1 0:=ha.2.1;have e3 : t = wC b2 0:=ha.2.2.1;subst e1; subst e2; subst e3;exact La (h.on hw) hN hn hp
    | [],ha => exact ha.elim
    | [_],ha => exact ha.2.elim
    | [_,_],ha => exact ha.2.2.elim
    | _ :: _ :: _ :: _ :: _,ha => exact ha.2.2.2.elim
   ·cases hg
 refine fX func174 (c:=fA) rfl (args:=[.agg (aC (fM b o n m)).toArray,BJ bt bd]) (cs:=[.v (.fl (fM b o n m)),.v (.im (BJ bt bd))]) ⟨rfl,rfl,trivial⟩ (Nat.le_of_ble_eq_true (by kernel_rfl)) fun a w' hA => ?_
 rw [Ry];refine wp_seq (aT aG (hT _) hG (aGX bt bd b o n m PL _) trivial hA fun a w' hA => ?_);refine wp_seq (aT aG (hT _) hG (aGW bt bd b o n m PL _) trivial hA fun a w' hA => ?_);refine wp_seq (aT aG (hT _) hG (aGV bt bd b o n m PL _) ⟨rfl,rfl,rfl,rfl,trivial⟩ hA fun a w' hA => ?_);refine wp_seq (wp_seq (aT aG (hT _) hG (aGU bt bd b o n m PL _) trivial hA fun a w' hA => ?_));refine wp_block ?_;refine qJ aG (fun i => zO bt bd b o n m PL i (Jq (fun p => EX pt x p N) PL i)) PL (fun i hi => ?_) (.ex 0) (by simp) (zO bt bd b o n m PL PL (Jq (fun p => EX pt x p N) PL PL)) ?_ hA fun a w' hA => ?_
 ·exact ⟨_,_,_,_,hG,hT _,aGY bt bd b o n m PL i _ (Jq (fun p => EX pt x p N) PL i),mG hi,AA (k:=1) (by omega) (by omega),AA (by omega) (by omega),rfl,rfl,by omega,EG (k:=1) (by omega),trivial⟩
 ·exact ⟨_,_,_,_,hG,hT _,aCd bt bd b o n m PL PL _ _,rZ (Nat.le_refl _),trivial⟩
 ·show (cB (cB (cB (cB fA)))).wp _ _ _ _;exact aT aG (hT _) hG (Rx bt bd b o n m PL PL _ _) trivial hA fun a w' hA => gW (l:=[.fl (bI (Jq (fun p => EX pt x p N) PL PL))]) (r:=.one (.fl (bI (Jq (fun p => EX pt x p N) PL PL)))) (by kernel_rfl) (by kernel_rfl) hA
theorem LO {P : Program} {id : Nat} {ops : Array Oper} {l : List Nat} (hl : List.range ops.size = l) {Q : Exit → Act → World → Prop} {a : Act} {w : World} (h : wpOps P ops Q l a w) : (Code.region id ops false).wp P Q a w:=wp_region (by rw [hl]; exact h)
def tK : J2:=(F2.zero,F2.zero,F2.zero)
def qA (p : J2) : List At:=bI (DA p 1) ++ (bI (DA p 2) ++ (bI (DA p 3) ++ (bI (DA p 4) ++ (bI (DA p 5) ++ (bI (DA p 6) ++ (bI (DA p 7) ++ (bI (DA p 8))))))))
def zT2 : List At:=bI tK ++ (bI tK ++ (bI tK ++ (bI tK ++ (bI tK ++ (bI tK ++ (bI tK ++ (bI tK)))))))
theorem Aw (p : J2) : eI (qA p) = 192:=by kernel_rfl
theorem Ln : eI zT2 = 192:=by kernel_rfl
def pL (p : J2) (k : Nat) : List At:=bI (DA p (k + 1))
theorem Mq (p : J2) : qA p = eQ (pL p) 0 8:=by
 show qA p = pL p 0 ++ (pL p 1 ++ (pL p 2 ++ (pL p 3 ++ (pL p 4 ++ (pL p 5 ++ (pL p 6 ++ (pL p 7 ++ [])))))));rw [List.append_nil];rfl
theorem Nh (p : J2) : aM prog (qG prog) (fun _ => ⟨fun s => iX true,fun s => true,fun _ => none⟩) f173 200 [.v (.fl (bI p))] = some ([],.one (.fl (qA p))):=by kernel_rfl
def kL : Tab:=(iX true).add 173 (g1 OV fun p => ([],.one (.fl (qA p))))
theorem jM : TabOk prog kL:=(nS true).ad func173 (cN gF fun p hp args w ha => aD aG (fun _ s => nS _) (aH prog) func173 (Nh p) trivial ha)
def dA : Code:=(f160.body).getD .skip
def KE : Code:=Li (Li (cB (cA (cB (cB dA)))))
theorem Yg : dA = .seq (cA dA) (.seq (.region 1 (nR (cA (cB dA))) false) (.seq (.seq (cA (cA (cB (cB dA)))) (.block 0 (.loop KE))) (.seq (cA (cB (cB (cB dA)))) (.seq (.region 8 (nR (cA (cB (cB (cB (cB dA)))))) false) .ret)))):=by kernel_rfl
def aJf (LP : List At) (N N' : Nat) (vn : Value) : List Fact:=[.slot 0 (.sl 0 0 N N'),.row 0 false LP,.slot 1 (.im vn),.slot 4 (.pt 4 0),.row 4 true (bI tK)]
def Yf (LP Z : List At) (N N' : Nat) (vn : Value) : List Fact:=[.slot 0 (.sl 0 0 N N'),.row 0 false LP,.slot 1 (.im vn),.slot 4 (.pt 4 0),.row 4 true (bI tK),.slot 11 (.sl 11 0 N N),.row 11 true Z,.slot 5 (.pt 5 0),.row 5 true [.c (.slice none 0 0)]]
def aJe (LP Z : List At) (N N' b : Nat) (vn : Value) : List Fact:=[.at 11 b,.slot 0 (.sl 0 0 N N'),.row 0 false LP,.slot 1 (.im vn),.slot 4 (.pt 4 0),.row 4 true (bI tK),.row 11 true Z,.slot 5 (.pt 5 0),.row 5 true [.c (tQ b 0 N N)]]
def BN (LP Z : List At) (N N' b : Nat) (vn : Value) (i : Nat) : List Fact:=[.at 11 b,.slot 0 (.sl 0 0 N N'),.row 0 false LP,.slot 1 (.im vn),.slot 4 (.pt 4 0),.row 4 true (bI tK),.row 11 true Z,.slot 5 (.pt 5 0),.row 5 true [.c (tQ b 0 N N)],.slot 12 (.sl 0 0 N N'),.slot 13 (.im (iI N)),.slot 14 (.im (iI i))]
def Ye (Z : List At) (N b bn on n m : Nat) : List Fact:=[.at 11 b,.slot 4 (.pt 4 0),.row 4 true (bI tK),.row 11 true Z,.slot 5 (.pt 5 0),.row 5 true [.c (tQ b 0 N N)],.slot 8 (.pt 8 0),.row 8 true (fM bn on n m)]
def wJ (Z : List At) (N b b5 b8 bn on n m : Nat) : List Fact:=[.at 5 b5,.at 8 b8,.at 11 b,.slot 4 (.pt 4 0),.row 4 true (bI tK),.row 11 true Z,.row 5 true [.c (tQ b 0 N N)],.row 8 true (fM bn on n m),.slot 27 (.fl (fM bn on n m)),.slot 28 (.im (BJ b5 b8))]
def Yd (num : Nat → Option Value) (_ : Nat) : Cfg:=⟨fun _ => kL,fun _ => true,num⟩
def vS : Cfg:=⟨fun _ => kL,fun _ => true,fun _ => none⟩
theorem aJm (LP : List At) (N N' : Nat) (vn : Value) : cM prog (qG prog) f160.ntmps (Yd fun _ => none) 40 (cA dA) (mQ 0 [.s LP N N',.v (.im vn)]) (aJf LP N N' vn) = some ([],.nrm,aJf LP N N' vn):=by kernel_rfl
def aFm (N : Nat) (Z : List At) : Ext:={ xt0 (fun _ _ _ => False) with mks:=assoc [(11,(N,Z))] }
theorem aJl (LP Z : List At) (N N' : Nat) (vn : Value) : XA prog (qX prog (aFm N Z)) f160.ntmps vS ((nR (cA (cB dA))).extract 0 4) (aJf LP N N' vn) (Yf LP Z N N' vn) = some ([∃ e,∀ w : World,(Instr.makeSlice 205 (iI N) (iI N)).run prog w = .ok (.slice (some ⟨w.heap.size,0,none⟩) N N) (w.alloc (.cells (aC Z).toArray e))],Yf LP Z N N' vn):=by kernel_rfl
theorem aJk (LP Z : List At) (N N' b : Nat) (vn : Value) : XA prog (qG prog) f160.ntmps vS ((nR (cA (cB dA))).extract 4 5) (.slot 11 (.im (tQ b 0 N N)) :: .at 11 b :: Yf LP Z N N' vn) (aJe LP Z N N' b vn) = some ([],aJe LP Z N N' b vn):=by kernel_rfl
theorem aJj (LP Z : List At) (N N' b : Nat) (vn : Value) : cM prog (qG prog) f160.ntmps (Yd fun _ => none) 40 (cA (cA (cB (cB dA)))) (aJe LP Z N N' b vn) (BN LP Z N N' b vn 0) = some ([],.nrm,BN LP Z N N' b vn 0):=by kernel_rfl
def aMe (N b i : Nat) (p : J2) (Z' : List At) : Ext:={ xt0 (fun _ _ _ => False) with idx:=assoc [(17,i),(23,i)],ld:=assoc [(18,bI p)],st:=assoc [(23,Z')],gen:=assoc [(19,tQ b 0 N N)],ky:=assoc [(19,11)] }
theorem aJn (LP Z Z' : List At) (N N' b : Nat) (vn : Value) (i : Nat) (p : J2) : cM prog (qX prog (aMe N b i p Z')) f160.ntmps (Yd (assoc [(15,.bool true),(24,iI (i + 1))])) 40 KE (BN LP Z N N' b vn i) (BN LP Z' N N' b vn (i + 1)) = some ([aK .lss .i64 (Int.ofNat i) (Int.ofNat N) = some (.bool true),Int.ofNat i = Int.ofNat i,i < N,TA LP (0 + i * 24) 24 = some (bI p),cellAt [.c (tQ b 0 N N)] 0 = some (tQ b 0 N N),b = b,Int.ofNat i = Int.ofNat i,i < N,put Z (0 + i * 192) (qA p) = some Z',aK .add .i64 (Int.ofNat i) 1 = some (iI (i + 1))],.nrm,BN LP Z' N N' b vn (i + 1)):=by kernel_rfl
theorem aDM (LP Z : List At) (N N' b : Nat) (vn : Value) (i : Nat) : cM prog (qG prog) f160.ntmps (Yd (assoc [(15,.bool false)])) 40 KE (BN LP Z N N' b vn i) (BN LP Z N N' b vn i) = some ([aK .lss .i64 (Int.ofNat i) (Int.ofNat N) = some (.bool false)],.ex 0,BN LP Z N N' b vn i):=by kernel_rfl
theorem aJi (LP Z : List At) (N N' b bn on n m i : Nat) : cM prog (qG prog) f160.ntmps (Yd fun _ => none) 40 (cA (cB (cB (cB dA)))) (BN LP Z N N' b (tQ bn on n m) i) (Ye Z N b bn on n m) = some ([],.nrm,Ye Z N b bn on n m):=by kernel_rfl
theorem aJh (Z : List At) (N b b5 b8 bn on n m : Nat) : XA prog (qG prog) f160.ntmps vS ((nR (cA (cB (cB (cB (cB dA)))))).extract 0 2) (.at 8 b8 :: .at 5 b5 :: Ye Z N b bn on n m) (wJ Z N b b5 b8 bn on n m) = some ([],wJ Z N b b5 b8 bn on n m):=by kernel_rfl
theorem aJg (Z : List At) (N b b5 b8 bn on n m : Nat) (r : J2) : XA prog (qG prog) f160.ntmps vS ((nR (cA (cB (cB (cB (cB dA)))))).extract 3 4) (.slot 29 (.fl (bI r)) :: wJ Z N b b5 b8 bn on n m) [.slot 4 (.pt 4 0),.row 4 true (bI r)] = some ([],[.slot 4 (.pt 4 0),.row 4 true (bI r)]):=by kernel_rfl
theorem Lo : vC (aC zT2) (.int .u64 0):=by unfold vC; kernel_rfl
theorem aDL {w : World} {b N i k : Nat} {pt : Nat → J2} (h : oldOf w b 0 (eQ (fun j => qA (pt j)) 0 N)) (hi : i < N) (hk : k < 8) : oldOf w b (i * 192 + k * 24) (bI (DA (pt i) (k + 1))):=by
 refine ⟨h.1,?_⟩;have h1 : w.rangeAt b (0 + i * 192) (aC (qA (pt i))):=tY (f:=fun j => qA (pt j)) (c:=192) (fun j => Aw (pt j)) hi h.2;rw [Mq,Nat.zero_add] at h1;exact tY (f:=pL (pt i)) (c:=24) (fun j => rfl) hk h1
theorem Lc {w0 : World} {gb go N N' bn on n m : Nat} {x : Nat → Nat} {pt : Nat → J2} {LP : List At} (hLP : aC LP = aC (eQ (fun j => bI (pt j)) 0 N)) (hP : oldOf w0 gb go LP) (hx : ∀ i,i < n → oldOf w0 bn (on + i * 4) [.q (x i)]) (hN : N ≤ n) (hN2 : N ≤ 65536) (hn : n < 4611686018427387904) : Calls prog 160 #[tQ gb go N N',tQ bn on n m] w0 (fun e w' => e = .returned (.agg (aC (bI (Jq (fun p => EX pt x p N) (pH x n / 4 + 1) (pH x n / 4 + 1)))).toArray) ∧ Below w0.heap.size w0 w'):=by
 have hG : cH prog (qG prog) w0.heap.size w0:=(aH _).w _ _;have hT : ∀ n d : Nat,TabOkW prog kL w0.heap.size w0:=fun _ _ => jM.w _ _
 have hXF : ∀ x : Ext,x.T2 = Fr0 → (∀ b o l,¬ x.old b o l) → cH prog (qX prog x) w0.heap.size w0:=fun x h2 h3 => zE (h2 ▸ oN _) fun b o l h => (h3 b o l h).elim
 have hP' : oldOf w0 gb go (eQ (fun j => bI (pt j)) 0 N):=⟨hP.1,by rw [← hLP]; exact hP.2⟩;clear hP hLP;refine fX func160 (c:=dA) rfl (args:=[tQ gb go N N',tQ bn on n m]) (cs:=[.s (eQ (fun j => bI (pt j)) 0 N) N N',.v (.im (tQ bn on n m))]) ⟨⟨gb,go,rfl,hP'.1,hP'.2⟩,rfl,trivial⟩ (Nat.le_of_ble_eq_true (by kernel_rfl)) fun a w' hA => ?_
 rw [Yg];refine wp_seq (aT aG hT hG (aJm _ N N' _) trivial hA fun a w' hA => ?_);refine wp_seq (LO (l:=List.range' 0 ((nR (cA (cB dA))).extract 0 4).size ++ (List.range' 4 ((nR (cA (cB dA))).extract 4 5).size ++ [])) (by kernel_rfl) ?_);refine kU (c:=vS) (hT 0) (hXF (aFm N (eQ (fun _ => zT2) 0 N)) rfl fun _ _ _ h => h) (aJl _ _ N N' _) ⟨?_,trivial⟩ (by kernel_rfl) hA fun a w' hA => ?_
 ·exact RC (t:=205) (e:=207) (z:=zT2) (v:=.int .u64 0) (n:=192) (by8:=1536) (by kernel_rfl) (by kernel_rfl) Ln Lo (by omega) (by omega) (by omega)
 obtain ⟨b,hA⟩:=hA.at (k:=11) (l:=eQ (fun _ => zT2) 0 N) (by simp [Yf]);have hA:=hA.im (s:=11) (k:=11) (o:=0) (n:=N) (m:=N) (b:=b) (by simp [Yf]) (by simp);refine kU (c:=vS) (hT 0) hG (aJk _ _ N N' b _) trivial (by kernel_rfl) hA fun a w' hA => ?_
 refine wp_seq (wp_seq (aT aG hT hG (aJj _ _ N N' b _) trivial hA fun a w' hA => ?_));refine wp_block ?_;refine qJ aG (fun i => BN (eQ (fun j => bI (pt j)) 0 N) (qL (fun j => qA (pt j)) zT2 N i) N N' b (tQ bn on n m) i) N (fun i hi => ?_) (.ex 0) (by simp) (BN (eQ (fun j => bI (pt j)) 0 N) (eQ (fun j => qA (pt j)) 0 N) N N' b (tQ bn on n m) N) ?_ (by rw [Uk]; exact hA) fun a w' hA => ?_
 ·exact ⟨_,_,_,_,hXF (aMe N b i (pt i) _) rfl (fun _ _ _ h => h),hT,aJn _ _ (qL (fun j => qA (pt j)) zT2 N (i + 1)) N N' b _ i (pt i),mG hi,rfl,hi,wR (f:=fun j => bI (pt j)) (c:=24) (fun j => rfl) hi (Nat.zero_add _),rfl,rfl,rfl,hi,PF (f:=fun j => qA (pt j)) (c:=192) (fun j => Aw (pt j)) Ln hi (Nat.zero_add _),EG (k:=1) (by omega),trivial⟩
 ·rw [← Uj (fun j => qA (pt j)) zT2 N];exact ⟨_,_,_,_,hG,hT,aDM _ _ N N' b _ N,rZ (Nat.le_refl _),trivial⟩
 refine wp_seq (aT aG hT hG (aJi _ _ N N' b bn on n m N) trivial hA fun a w' hA => ?_);obtain ⟨b5,hA⟩:=hA.at (k:=5) (l:=[.c (tQ b 0 N N)]) (by simp [Ye]);obtain ⟨b8,hA⟩:=hA.at (k:=8) (l:=fM bn on n m) (by simp [Ye]);refine wp_seq (LO (l:=List.range' 0 ((nR (cA (cB (cB (cB (cB dA)))))).extract 0 2).size ++ (2 :: (List.range' 3 ((nR (cA (cB (cB (cB (cB dA)))))).extract 3 4).size ++ []))) (by kernel_rfl) ?_);refine kU (c:=vS) (hT 0) hG (aJh _ N b b5 b8 bn on n m) trivial (by kernel_rfl) hA fun a w' hA => ?_
 have hM : ClMem2 w' b5 b8 b N bn on n m x pt:=by
  refine ⟨hA.old (k:=5) (by simp [wJ]) (by simp [wJ]),hA.old (k:=8) (by simp [wJ]) (by simp [wJ]),fun i hi => (hx i hi).on hA.below (base:=0),fun i hi k hk => ?_⟩;exact aDL (hA.old (k:=11) (by simp [wJ]) (by simp [wJ])) hi hk
 have h27:=hA.slotF (s:=27) (l:=fM bn on n m) (by simp [wJ]);have h28:=hA.slot (s:=28) (v:=BJ b5 b8) (by simp [wJ]);obtain ⟨o,ho,hoo,hod,hog⟩ : ∃ o,(nR (cA (cB (cB (cB (cB dA))))))[2]? = some o ∧ (∃ ts,o.op = .call ⟨.value (.func 174),#[.tmp 27,.tmp 28],ts⟩) ∧ o.dst = some 29 ∧ o.guard = none:=⟨_,rfl,⟨_,rfl⟩,rfl,rfl⟩
 obtain ⟨ts,hoo⟩:=hoo;refine Fw ho hog (TJ hoo (vs:=[.agg (aC (fM bn on n m)).toArray,BJ b5 b8]) (by simp [Act.eval,h27,h28]) (lX func174 (by kernel_rfl) (by kernel_rfl) · _) (Jp hM hN hn) fun w'' hb => ?_);rw [hod];have hA:=hA.put hb (d:=29) (Nat.le_of_ble_eq_true (by kernel_rfl)) (.fl (bI (Jq (fun p => EX pt x p N) (pH x n / 4 + 1) (pH x n / 4 + 1)))) (by
  have : (wJ (eQ (fun j => qA (pt j)) 0 N) N b b5 b8 bn on n m).all (fun φ => !(sV (some 29) none φ)) = true:=by kernel_rfl
  intro φ hφ;rw [List.all_eq_true] at this;simpa using this φ hφ)
 refine kU (c:=vS) (hT 0) hG (aJg _ N b b5 b8 bn on n m _) trivial (by kernel_rfl) hA fun a w' hA => ?_
 exact wp_ret (gW (l:=[.fl (bI (Jq (fun p => EX pt x p N) (pH x n / 4 + 1) (pH x n / 4 + 1)))]) (r:=.one (.fl (bI (Jq (fun p => EX pt x p N) (pH x n / 4 + 1) (pH x n / 4 + 1))))) (by kernel_rfl) (by kernel_rfl) hA)
def aIV (p : DE) : Int × J1:=oE p.1 p.2.1 p.2.2
def fJ (p : dM) : Int × J2:=dI p.1 p.2.1 p.2.2
def kF (ps : Nat → dM) : Nat → Int
 | 0 => 0
 | i + 1 => if kF ps i ≠ 0 then kF ps i else (fJ (ps i)).1
theorem JT {ps : Nat → dM} : ∀ {N : Nat},kF ps N = 0 → ∀ j,j < N → (fJ (ps j)).1 = 0
 | N + 1,h,j,hj => by
  unfold kF at h
  by_cases h0 : kF ps N = 0
  ·rw [if_neg (fun q => q h0)] at h
   by_cases e : j = N
   ·rw [e]; exact h
   ·exact JT h0 j (by omega)
  ·rw [if_pos h0] at h; exact (h0 h).elim
theorem SC {ps : Nat → dM} : ∀ {N : Nat},kF ps N ≠ 0 → ∃ j,j < N ∧ (∀ k,k < j → (fJ (ps k)).1 = 0) ∧ (fJ (ps j)).1 ≠ 0 ∧ kF ps N = (fJ (ps j)).1
 | 0,h => (h rfl).elim
 | N + 1,h => by
  unfold kF at h ⊢
  by_cases h0 : kF ps N = 0
  ·rw [if_neg (fun q => q h0)] at h ⊢;exact ⟨N,by omega,fun k hk => JT h0 k hk,h,rfl⟩
  ·rw [if_pos h0];obtain ⟨j,h1,h2,h3,h4⟩:=SC h0;exact ⟨j,by omega,h2,h3,h4⟩
def DT (ps : Nat → dM) (j : Nat) : J2:=(fJ (ps j)).2
def pK (LG Z : List At) (N N' i : Nat) : List Fact:=[.slot 1 (.sl 1 0 N N'),.row 1 false LG,.slot 2 (.pt 2 0),.row 2 true jG,.slot 6 (.sl 12 0 N N),.row 12 true Z,.slot 14 (.im (iI N)),.slot 15 (.im (iI i))]
def aJy (LG : List At) (N N' : Nat) : List Fact:=[.slot 1 (.sl 1 0 N N'),.row 1 false LG,.slot 2 (.pt 2 0),.row 2 true jG]
def aJx (LG Z : List At) (N N' : Nat) : List Fact:=[.slot 1 (.sl 1 0 N N'),.row 1 false LG,.slot 2 (.pt 2 0),.row 2 true jG,.slot 6 (.sl 12 0 N N),.row 12 true Z]
def fP : Code:=(f132.body).getD .skip
def pA : Code:=Li (Li (cB (cA (cB (cB fP)))))
theorem Yv : fP = .seq (cA fP) (.seq (cA (cB fP)) (.seq (.seq (cA (cA (cB (cB fP)))) (.block 0 (.loop pA))) (cB (cB (cB fP))))):=by kernel_rfl
def ZI (num : Nat → Option Value) (_ : Nat) : Cfg:=⟨fun _ => kL,fun _ => true,num⟩
theorem aJB (LG : List At) (N N' : Nat) : cM prog (qG prog) f132.ntmps (ZI fun _ => none) 40 (cA fP) (mQ 0 [.v (.fl jG),.s LG N N']) (aJy LG N N') = some ([],.nrm,aJy LG N N'):=by kernel_rfl
def aFs (N : Nat) (Z : List At) : Ext:={ xt0 (fun _ _ _ => False) with mks:=assoc [(12,(N,Z))] }
theorem aJA (LG Z : List At) (N N' : Nat) : cM prog (qX prog (aFs N Z)) f132.ntmps (ZI fun _ => none) 40 (cA (cB fP)) (aJy LG N N') (aJx LG Z N N') = some ([∃ e,∀ w : World,(Instr.makeSlice 173 (iI N) (iI N)).run prog w = .ok (.slice (some ⟨w.heap.size,0,none⟩) N N) (w.alloc (.cells (aC Z).toArray e))],.nrm,aJx LG Z N N'):=by kernel_rfl
theorem aJz (LG Z : List At) (N N' : Nat) : cM prog (qG prog) f132.ntmps (ZI fun _ => none) 40 (cA (cA (cB (cB fP)))) (aJx LG Z N N') (pK LG Z N N' 0) = some ([],.nrm,pK LG Z N N' 0):=by kernel_rfl
def aDZ (i : Nat) (p : dM) (Z' : List At) : Ext:={ xt0 (fun _ _ _ => False) with idx:=assoc [(23,i),(34,i)],ld:=assoc [(24,dR p)],st:=assoc [(34,Z')] }
theorem aJC (LG Z Z' : List At) (N N' i : Nat) (p : dM) : cM prog (qX prog (aDZ i p Z')) f132.ntmps (ZI (assoc [(16,.bool true),(29,.bool false),(35,iI (i + 1))])) 60 pA (pK LG Z N N' i) (pK LG Z' N N' (i + 1)) = some ([aK .lss .i64 (Int.ofNat i) (Int.ofNat N) = some (.bool true),Int.ofNat i = Int.ofNat i,i < N,TA LG (0 + i * 17) 17 = some (dR p),aK .neq .i64 (fJ p).1 0 = some (.bool false),Int.ofNat i = Int.ofNat i,i < N,put Z (0 + i * 24) (bI (fJ p).2) = some Z',aK .add .i64 (Int.ofNat i) 1 = some (iI (i + 1))],.nrm,pK LG Z' N N' (i + 1)):=by kernel_rfl
theorem aJD (LG Z : List At) (N N' i : Nat) (p : dM) : cM prog (qX prog (aDZ i p Z)) f132.ntmps (ZI (assoc [(16,.bool true),(29,.bool true)])) 60 pA (pK LG Z N N' i) [.slot 4 (.im (.slice none 0 0)),.slot 5 (.im (.int .i64 (fJ p).1))] = some ([aK .lss .i64 (Int.ofNat i) (Int.ofNat N) = some (.bool true),Int.ofNat i = Int.ofNat i,i < N,TA LG (0 + i * 17) 17 = some (dR p),aK .neq .i64 (fJ p).1 0 = some (.bool true)],.rt,[.slot 4 (.im (.slice none 0 0)),.slot 5 (.im (.int .i64 (fJ p).1))]):=by kernel_rfl
theorem aEa (LG Z : List At) (N N' i : Nat) : cM prog (qG prog) f132.ntmps (ZI (assoc [(16,.bool false)])) 40 pA (pK LG Z N N' i) (pK LG Z N N' i) = some ([aK .lss .i64 (Int.ofNat i) (Int.ofNat N) = some (.bool false)],.ex 0,pK LG Z N N' i):=by kernel_rfl
theorem Yt (LG Z : List At) (N N' i : Nat) : cM prog (qG prog) f132.ntmps (ZI fun _ => none) 40 (cB (cB (cB fP))) (pK LG Z N N' i) [.slot 4 (.sl 12 0 N N),.row 12 true Z,.slot 5 (.im (.int .i64 0))] = some ([],.rt,[.slot 4 (.sl 12 0 N N),.row 12 true Z,.slot 5 (.im (.int .i64 0))]):=by kernel_rfl
theorem Wy : vC (aC (bI tK)) (.int .u64 0):=by unfold vC; kernel_rfl
theorem FJ {w0 : World} {args : List Value} {N N' : Nat} {ps : Nat → dM} (ha : bK w0 [.v (.fl jG),.s (eQ (fun j => dR (ps j)) 0 N) N N'] args) (hN2 : N ≤ 65536) {R : Ending → World → Prop}
  (h : ∀ a w,Holds f132.ntmps w0.heap.size w0 (pK (eQ (fun j => dR (ps j)) 0 N) (qL (fun j => bI (DT ps j)) (bI tK) N 0) N N' 0) a w → (Code.loop pA).wp prog (fun e a w => match e with | .exit 0 => (cB (cB (cB fP))).wp prog (bodyPost prog f132 R) a w | .ret => bodyPost prog f132 R .ret a w | _ => False) a w) : Calls prog 132 args.toArray w0 R:=by
 have hG : cH prog (qG prog) w0.heap.size w0:=(aH _).w _ _;have hT : ∀ n d : Nat,TabOkW prog kL w0.heap.size w0:=fun _ _ => jM.w _ _
 refine fX func132 (c:=fP) rfl ha (Nat.le_of_ble_eq_true (by kernel_rfl)) fun a w' hA => ?_
 rw [Yv];refine wp_seq (aT aG hT hG (aJB _ N N') trivial hA fun a w' hA => ?_);refine wp_seq (aT aG hT (zE (x:=aFs N (eQ (fun _ => bI tK) 0 N)) (oN _) fun _ _ _ h => h.elim) (aJA _ (eQ (fun _ => bI tK) 0 N) N N') ⟨RC (t:=173) (e:=86) (z:=bI tK) (v:=.int .u64 0) (n:=24) (by8:=192) (by kernel_rfl) (by kernel_rfl) rfl Wy (by omega) (by omega) (by omega),trivial⟩ hA fun a w' hA => ?_);refine wp_seq (wp_seq (aT aG hT hG (aJz _ _ N N') trivial hA fun a w' hA => ?_));refine wp_block ?_;rw [← Uk (fun j => bI (DT ps j))] at hA;refine Code.wp_mono (fun e a w h => ?_) (h a w' hA);cases e with
 | exit id =>
  cases id with
  | zero => exact h
  | succ k => exact h.elim
 | ret => exact h
 | _ => exact h.elim
theorem SQ {w0 : World} {N N' : Nat} {ps : Nat → dM} {i : Nat} (hi : i < N) (hN2 : N ≤ 65536) (h : (fJ (ps i)).1 = 0) : Ok prog w0.heap.size w0 f132.ntmps pA (pK (eQ (fun j => dR (ps j)) 0 N) (qL (fun j => bI (DT ps j)) (bI tK) N i) N N' i) .nrm (pK (eQ (fun j => dR (ps j)) 0 N) (qL (fun j => bI (DT ps j)) (bI tK) N (i + 1)) N N' (i + 1)) :=
 ⟨_,_,_,_,zE (x:=aDZ i (ps i) _) (oN _) (fun _ _ _ h => h.elim),fun _ _ => jM.w _ _,aJC _ _ (qL (fun j => bI (DT ps j)) (bI tK) N (i + 1)) N N' i (ps i),mG hi,rfl,hi,wR (f:=fun j => dR (ps j)) (c:=17) (fun j => rfl) hi (Nat.zero_add _),QX h,rfl,hi,PF (f:=fun j => bI (DT ps j)) (c:=24) (fun j => rfl) rfl hi (Nat.zero_add _),EG (k:=1) (by omega),trivial⟩
theorem Yu {w0 : World} {args : List Value} {N N' : Nat} {ps : Nat → dM} (ha : bK w0 [.v (.fl jG),.s (eQ (fun j => dR (ps j)) 0 N) N N'] args) (hN2 : N ≤ 65536) (h : kF ps N = 0) : Calls prog 132 args.toArray w0 (fun e w' => FR.ok ⟨eQ (fun j => bI (DT ps j)) 0 N,N,N,[.im (.int .i64 0)]⟩ w0 e w'):=by
 have hG : cH prog (qG prog) w0.heap.size w0:=(aH _).w _ _;have hT : ∀ n d : Nat,TabOkW prog kL w0.heap.size w0:=fun _ _ => jM.w _ _
 refine FJ ha hN2 fun a w hA => ?_
 refine qJ aG (fun i => pK (eQ (fun j => dR (ps j)) 0 N) (qL (fun j => bI (DT ps j)) (bI tK) N i) N N' i) N (fun i hi => SQ hi hN2 (JT h i hi)) (.ex 0) (by simp) (pK (eQ (fun j => dR (ps j)) 0 N) (eQ (fun j => bI (DT ps j)) 0 N) N N' N) ?_ hA fun a w hA => ?_
 ·rw [← Uj (fun j => bI (DT ps j)) (bI tK) N];exact ⟨_,_,_,_,hG,hT,aEa _ _ N N' N,rZ (Nat.le_refl _),trivial⟩
 ·show (cB (cB (cB fP))).wp _ _ _ _;exact aT aG hT hG (Yt _ _ N N' N) trivial hA fun a w' hA => Kt (r:=⟨eQ (fun j => bI (DT ps j)) 0 N,N,N,[.im (.int .i64 0)]⟩) (by kernel_rfl) hA
theorem Yw {w0 : World} {args : List Value} {N N' : Nat} {ps : Nat → dM} (ha : bK w0 [.v (.fl jG),.s (eQ (fun j => dR (ps j)) 0 N) N N'] args) (hN2 : N ≤ 65536) (h : kF ps N ≠ 0) : Good prog 132 (.many [.im (.slice none 0 0),.im (.int .i64 (kF ps N))]) args w0:=by
 have hG : cH prog (qG prog) w0.heap.size w0:=(aH _).w _ _;have hT : ∀ n d : Nat,TabOkW prog kL w0.heap.size w0:=fun _ _ => jM.w _ _
 obtain ⟨j,hj,h1,h2,h3⟩:=SC h;rw [h3];refine FJ ha hN2 fun a w hA => ?_
 refine qJ aG (fun i => pK (eQ (fun j => dR (ps j)) 0 N) (qL (fun j => bI (DT ps j)) (bI tK) N i) N N' i) j (fun i hi => SQ (by omega) hN2 (h1 i hi)) .rt (by simp) [.slot 4 (.im (.slice none 0 0)),.slot 5 (.im (.int .i64 (fJ (ps j)).1))] ?_ hA fun a w hA => ?_
 ·exact ⟨_,_,_,_,zE (x:=aDZ j (ps j) _) (oN _) (fun _ _ _ h => h.elim),fun _ _ => jM.w _ _,aJD _ _ N N' j (ps j),mG hj,rfl,hj,wR (f:=fun j => dR (ps j)) (c:=17) (fun j => rfl) hj (Nat.zero_add _),QV h2,trivial⟩
 ·exact gW (l:=[.im (.slice none 0 0),.im (.int .i64 (fJ (ps j)).1)]) (r:=.many [.im (.slice none 0 0),.im (.int .i64 (fJ (ps j)).1)]) (by kernel_rfl) (by kernel_rfl) hA
def yG (pt : Nat → J2) (x : Nat → Nat) (N : Nat) : J2:=Jq (fun p => EX pt x p N) (pH x N / 4 + 1) (pH x N / 4 + 1)
def aIn (pt : Nat → J2) (x : Nat → Nat) (N : Nat) : fQ
 | [.s LP n1 n2,.s LX n3 n4] => some ([aC LP = aC (eQ (fun j => bI (pt j)) 0 N),aC LX = aC (eQ (fun j => [.q (x j)]) 0 N),n1 = N,n3 = N,N ≤ 65536],.one (.fl (bI (yG pt x N))))
 | _ => none
theorem aDl {w : World} {pt : Nat → J2} {x : Nat → Nat} {N : Nat} : ∀ cs pre r,aIn pt x N cs = some (pre,r) → aP pre → ∀ (args : List Value),bK w cs args → Good prog 160 r args w:=by
 intro cs pre r hg hq args ha;unfold aIn at hg;split at hg
 ·rename_i LP n1 n2 LX n3 n4;cases hg;obtain ⟨h1,h2,rfl,rfl,h5,_⟩:=hq
  match args,ha with
  | [u,v],ha =>
   obtain ⟨b1,o1,e1,hb1,hr1⟩:=ha.1;obtain ⟨b2,o2,e2,hb2,hr2⟩:=ha.2.1;subst e1; subst e2;refine Lc h1 ⟨hb1,hr1⟩ (fun j hj => ⟨hb2,?_⟩) (Nat.le_refl _) h5 (by omega);rw [h2] at hr2;exact tY (f:=fun j => [At.q (x j)]) (c:=4) (fun _ => rfl) hj hr2
  | [],ha => exact ha.elim
  | [_],ha => exact ha.2.elim
  | _ :: _ :: _ :: _,ha => exact ha.2.2.elim
 ·cases hg
theorem aAW (LP LX : List At) (n1 n2 n3 n4 N : Nat) (pt : Nat → J2) (x : Nat → Nat) : aM prog (qG prog) (fun _ => ⟨fun _ => (kL).add 160 (aIn pt x N),fun _ => true,assoc [(7,.bool true)]⟩) f133 40 [.s LP n1 n2,.s LX n3 n4] = some ([aK .lss .i64 (Int.ofNat n1) 32 = some (.bool true),aC LP = aC (eQ (fun j => bI (pt j)) 0 N),aC LX = aC (eQ (fun j => [.q (x j)]) 0 N),n1 = N,n3 = N,N ≤ 65536],.one (.fl (bI (yG pt x N)))):=by kernel_rfl
def aHX (pt : Nat → J2) (x : Nat → Nat) (N : Nat) : fQ
 | [.s LP n1 n2,.s LX n3 n4] => some ([aC LP = aC (eQ (fun j => bI (pt j)) 0 N),aC LX = aC (eQ (fun j => [.q (x j)]) 0 N),n1 = N,n3 = N,N < 32],.one (.fl (bI (yG pt x N))))
 | _ => none
theorem aDf {w : World} {pt : Nat → J2} {x : Nat → Nat} {N : Nat} : ∀ cs pre r,aHX pt x N cs = some (pre,r) → aP pre → ∀ (args : List Value),bK w cs args → Good prog 133 r args w:=by
 intro cs pre r hg hq args ha;unfold aHX at hg;split at hg
 ·rename_i LP n1 n2 LX n3 n4;cases hg;obtain ⟨h1,h2,h3,h4,h5,_⟩:=hq;exact aU aG (fun _ _ => TabOkW.add (jM.w _ _) func160 (by kernel_rfl) (by kernel_rfl) fun w hw => aDl) ((aH prog).w _ _) func133 (aAW LP LX n1 n2 n3 n4 N pt x) ⟨by rw [h3]; exact mG (n:=32) h5,h1,h2,h3,h4,by omega,trivial⟩ ha
 ·cases hg
def aIt (ps : Nat → dM) (N : Nat) : List CA → Option (List Prop × FR)
 | [.v (.fl l),.s L n1 n2] => some ([aC l = aC jG,aC L = aC (eQ (fun j => dR (ps j)) 0 N),n1 = N,N ≤ 65536,kF ps N = 0],⟨eQ (fun j => bI (DT ps j)) 0 N,N,N,[.im (.int .i64 0)]⟩)
 | _ => none
def aIu (ps : Nat → dM) (N : Nat) : fQ
 | [.v (.fl l),.s L n1 n2] => some ([aC l = aC jG,aC L = aC (eQ (fun j => dR (ps j)) 0 N),n1 = N,N ≤ 65536,kF ps N ≠ 0],.many [.im (.slice none 0 0),.im (.int .i64 (kF ps N))])
 | _ => none
theorem Ff {w : World} {ps : Nat → dM} {N n1 n2 : Nat} {l L : List At} (h1 : aC l = aC jG) (h2 : aC L = aC (eQ (fun j => dR (ps j)) 0 N)) {args : List Value} (ha : bK w [.v (.fl l),.s L n1 n2] args) : bK w [.v (.fl jG),.s (eQ (fun j => dR (ps j)) 0 N) n1 n2] args:=by
 match args,ha with
 | [u,v],ha =>
  obtain ⟨b,o,e,hb,hr⟩:=ha.2.1;refine ⟨?_,⟨b,o,e,hb,by rw [← h2]; exact hr⟩,trivial⟩;show u = .agg (aC jG).toArray;rw [← h1]; exact ha.1
 | [],ha => exact ha.elim
 | [_],ha => exact ha.2.elim
 | _ :: _ :: _ :: _,ha => exact ha.2.2.elim
theorem aDn {ps : Nat → dM} {N : Nat} : ∀ cs pre r,aIt ps N cs = some (pre,r) → aP pre → ∀ (args : List Value) (w : World),bK w cs args → Calls prog 132 args.toArray w (fun e w' => r.ok w e w'):=by
 intro cs pre r hg hq args w ha;unfold aIt at hg;split at hg
 ·cases hg;obtain ⟨h1,h2,rfl,h4,h5,_⟩:=hq;exact Yu (Ff h1 h2 ha) h4 h5
 ·cases hg
theorem aDo {ps : Nat → dM} {N : Nat} : ∀ cs pre r,aIu ps N cs = some (pre,r) → aP pre → ∀ (args : List Value) (w : World),bK w cs args → Good prog 132 r args w:=by
 intro cs pre r hg hq args w ha;unfold aIu at hg;split at hg
 ·cases hg;obtain ⟨h1,h2,rfl,h4,h5,_⟩:=hq;exact Yw (Ff h1 h2 ha) h4 h5
 ·cases hg
def aKi (ps : Nat → dM) (N : Nat) : Ext:={ xt0 (fun _ _ _ => False) with T2:=Fr0.add 132 (aIt ps N) }
theorem aAd (ps : Nat → dM) (N : Nat) (w : World) : cH prog (qX prog (aKi ps N)) w.heap.size w:=zE ((oN _).ad func132 aDn) fun _ _ _ h => h.elim
theorem Hi (LG LX : List At) (N n2 n n4 : Nat) (ps : Nat → dM) : aM prog (qG prog) (fun _ => ⟨fun _ => (kL).add 132 (aIu ps N),fun _ => true,assoc [(15,.bool false),(19,.bool false),(29,.bool true)]⟩) f94 60 [.v (.fl jG),.s LG N n2,.s LX n n4] = some ([aK .neq .i64 (Int.ofNat N) (Int.ofNat n) = some (.bool false),aK .gtr .i64 (Int.ofNat N) 65536 = some (.bool false),aC jG = aC jG,aC LG = aC (eQ (fun j => dR (ps j)) 0 N),N = N,N ≤ 65536,kF ps N ≠ 0,aK .neq .i64 (kF ps N) 0 = some (.bool true)],.many [.fl (CG (some (F2.zero,F2.zero))),.im (.int .i64 (kF ps N))]):=by kernel_rfl
theorem Hh (LG LX : List At) (N n2 n n4 : Nat) (ps : Nat → dM) (x : Nat → Nat) : aM prog (qX prog (aKi ps N)) (fun _ => ⟨fun _ => (kL).add 133 (aHX (DT ps) x N),fun _ => true,assoc [(15,.bool false),(19,.bool false)]⟩) f94 60 [.v (.fl jG),.s LG N n2,.s LX n n4] = some ([aK .neq .i64 (Int.ofNat N) (Int.ofNat n) = some (.bool false),aK .gtr .i64 (Int.ofNat N) 65536 = some (.bool false),aC jG = aC jG,aC LG = aC (eQ (fun j => dR (ps j)) 0 N),N = N,N ≤ 65536,kF ps N = 0,aC (eQ (fun j => bI (DT ps j)) 0 N) = aC (eQ (fun j => bI (DT ps j)) 0 N),aC LX = aC (eQ (fun j => [.q (x j)]) 0 N),N = N,n = N,N < 32],.many [.fl (CG (hJ F2 kO (yG (DT ps) x N))),.im (.int .i64 0)]):=by kernel_rfl
def gY (ps : Nat → dM) (x : Nat → Nat) (N : Nat) : Pt Q2 × Int:=if kF ps N ≠ 0 then (some (F2.zero,F2.zero),kF ps N) else (hJ F2 kO (yG (DT ps) x N),0)
theorem Kd {w0 : World} {args : List Value} {LG LX : List At} {N n2 n4 : Nat} {ps : Nat → dM} {x : Nat → Nat} (h1 : aC LG = aC (eQ (fun j => dR (ps j)) 0 N)) (h2 : aC LX = aC (eQ (fun j => [.q (x j)]) 0 N)) (hN : N < 32) (ha : bK w0 [.v (.fl jG),.s LG N n2,.s LX N n4] args) : Good prog 94 (.many [.fl (CG (gY ps x N).1),.im (.int .i64 (gY ps x N).2)]) args w0:=by
 have g1 : aK .neq .i64 (Int.ofNat N) (Int.ofNat N) = some (.bool false):=by rw [aLh,decide_eq_false (by simp)]
 have g2 : aK .gtr .i64 (Int.ofNat N) 65536 = some (.bool false):=by
  have:=Sw (i:=N) (n:=65536);rw [decide_eq_false (by omega)] at this;exact this
 unfold gY
 by_cases h : kF ps N = 0
 ·rw [if_neg (fun q => q h)];exact aU aG (fun _ _ => TabOkW.add (jM.w _ _) func133 (by kernel_rfl) (by kernel_rfl) fun w hw => aDf) (aAd ps N w0) func94 (Hh LG LX N n2 N n4 ps x) ⟨g1,g2,rfl,h1,rfl,by omega,h,rfl,h2,rfl,rfl,hN,trivial⟩ ha
 ·rw [if_pos h];exact aU aG (fun _ _ => (jM.ad func132 aDo).w _ _) ((aH prog).w _ _) func94 (Hi LG LX N n2 N n4 ps) ⟨g1,g2,rfl,h1,rfl,by omega,h,QV h,trivial⟩ ha
def p2 {A : Type} (p q : A) : Nat → A | 0 => p | _ + 1 => q
def p3 {A : Type} (p q r : A) : Nat → A | 0 => p | 1 => q | _ + 2 => r
def aHZ (ps : Nat → dM) (x : Nat → Nat) (N : Nat) : fQ
 | [.v (.fl l),.s L n1 n2,.s X n3 n4] => some ([aC l = aC jG,aC L = aC (eQ (fun j => dR (ps j)) 0 N),aC X = aC (eQ (fun j => [.q (x j)]) 0 N),n1 = N,n3 = N,N < 32],.many [.fl (CG (gY ps x N).1),.im (.int .i64 (gY ps x N).2)])
 | _ => none
theorem aDg {ps : Nat → dM} {x : Nat → Nat} {N : Nat} : ∀ cs pre r,aHZ ps x N cs = some (pre,r) → aP pre → ∀ (args : List Value) (w : World),bK w cs args → Good prog 94 r args w:=by
 intro cs pre r hg hq args w ha;unfold aHZ at hg;split at hg
 ·rename_i l L n1 n2 X n3 n4;cases hg;obtain ⟨h1,h2,h3,rfl,rfl,h6,_⟩:=hq;refine Kd (LG:=L) (LX:=X) (n2:=n2) (n4:=n4) h2 h3 h6 ?_
  match args,ha with
  | [u,v,t],ha =>
   refine ⟨?_,ha.2.1,ha.2.2.1,trivial⟩;show u = .agg (aC jG).toArray;rw [← h1]; exact ha.1
  | [],ha => exact ha.elim
  | [_],ha => exact ha.2.elim
  | [_,_],ha => exact ha.2.2.elim
  | _ :: _ :: _ :: _ :: _,ha => exact ha.2.2.2.elim
 ·cases hg
theorem Il (p : dM) (n : Nat) : aM prog (qG prog) (fun _ => ⟨fun s => (ZW true).add 94 (aHZ (fun _ => p) (fun _ => n) 1),fun s => true,fun _ => none⟩) f56 60 [.v (.fl (dR p)),.v (.fl [.q n])] = some ([aC jG = aC jG,aC (dR p) = aC (eQ (fun j => dR p) 0 1),aC [.q n] = aC (eQ (fun j => [At.q n]) 0 1),1 = 1,1 = 1,1 < 32],.many [.fl (CG (gY (fun _ => p) (fun _ => n) 1).1),.im (.int .i64 (gY (fun _ => p) (fun _ => n) 1).2)]):=by kernel_rfl
def Fl : Tab:=((ZW true)).add 56 (g2 Jb vZ fun p n => ([],.many [.fl (CG (gY (fun _ => p) (fun _ => n) 1).1),.im (.int .i64 (gY (fun _ => p) (fun _ => n) 1).2)]))
theorem Ss : TabOk prog Fl:=((Ci true)).ad func56 (iT jB dJ fun p n hp args w ha => aD aG (fun _ s => (Ci true).ad func94 aDg) (aH prog) func56 (Il p n) ⟨rfl,rfl,rfl,rfl,rfl,by omega,trivial⟩ ha)
def aHY : fQ
 | [.v (.im (.int .i64 (.ofNat 1)))] => some ([],.one (.fl (q1 FP.M)))
 | [.v (.im (.int .i64 (.ofNat 2)))] => some ([],.one (.fl (q1 Go.Proofs.YtfnkbmlmgnadmaaGreat.FR.M)))
 | _ => none
theorem aBn : ∀ cs pre r,aHY cs = some (pre,r) → aP pre → ∀ (args : List Value) (w : World),bK w cs args → Good prog 99 r args w:=by
 intro cs pre r hg hp args w ha;unfold aHY at hg;split at hg
 ·cases hg
  match args,ha with
  | [v],ha =>
   have h1 : v = .int .i64 1:=ha.1;subst h1;exact (eR 1 FP (Or.inl ⟨rfl,rfl⟩) w).mono fun e w' h => h
  | [],ha => exact ha.elim
  | _ :: _ :: _,ha => exact ha.2.elim
 ·cases hg
  match args,ha with
  | [v],ha =>
   have h1 : v = .int .i64 2:=ha.1;subst h1;exact (eR 2 Go.Proofs.YtfnkbmlmgnadmaaGreat.FR (Or.inr ⟨rfl,rfl⟩) w).mono fun e w' h => h
  | [],ha => exact ha.elim
  | _ :: _ :: _,ha => exact ha.2.elim
 ·cases hg
def fY (n : Nat) : Bool:=sI (wv n) FP.M
def aIp : fQ
 | [.v (.im (.int .i64 (.ofNat 1))),.v (.fl l)] => match vZ l with
  | some n => some ([],.one (.im (.bool (fY n))))
  | none => none
 | _ => none
theorem Ym : ∀ cs pre r,aIp cs = some (pre,r) → aP pre → ∀ (args : List Value) (w : World),bK w cs args → Good prog 70 r args w:=by
 intro cs pre r hg hp args w ha;unfold aIp at hg;split at hg
 ·rename_i l;split at hg
  ·rename_i n hn;cases hg
   match args,ha with
   | [v,u],ha =>
    have h1 : v = .int .i64 1:=ha.1;have h2 : u = .agg (aC l).toArray:=ha.2.1;rw [dJ l _ hn] at h2;subst h1; subst h2;exact IF 1 FP (Or.inl ⟨rfl,rfl⟩) _ _ _ _ (bM n) w
   | [],ha => exact ha.elim
   | [_],ha => exact ha.2.elim
   | _ :: _ :: _ :: _,ha => exact ha.2.2.elim
  ·cases hg
 ·cases hg
def gRN : fQ
 | [.v (.im (.int .i64 (.ofNat 1))),.v (.fl l)] => match Bf l with
  | some x => some ([],.one (.fl (e1 (F1.neg x))))
  | none => none
 | _ => none
theorem aHS : ∀ cs pre r,gRN cs = some (pre,r) → aP pre → ∀ (args : List Value) (w : World),bK w cs args → Good prog 112 r args w:=by
 intro cs pre r hg hp args w ha;unfold gRN at hg;split at hg
 ·rename_i l;split at hg
  ·rename_i x hx;obtain ⟨a,e1,rfl⟩:=iZ l x hx;cases hg
   match args,ha with
   | [v,u],ha =>
    have h1 : v = .int .i64 1:=ha.1;have h2 : u = .agg (aC l).toArray:=ha.2.1;rw [e1] at h2;subst h1; subst h2;refine (mC 1 FP (Or.inl ⟨rfl,rfl⟩) _ _ _ _ (bM a) w).mono fun e w' h => ?_
    exact FwPost.of (Nat.mod_lt _ dC) h
   | [],ha => exact ha.elim
   | [_],ha => exact ha.2.elim
   | _ :: _ :: _ :: _,ha => exact ha.2.2.elim
  ·cases hg
 ·cases hg
def Fm : Tab:=(Fl).add 99 aHY
theorem Su : TabOk prog Fm:=(Ss).ad func99 aBn
def Fo : Tab:=(Fm).add 70 aIp
theorem Sv : TabOk prog Fo:=(Su).ad func70 Ym
def xS : Tab:=(Fo).add 112 gRN
theorem zY : TabOk prog xS:=(Sv).ad func112 aHS
section
variable {R : Type} (K : CR R)
def rdS (p : Jc R) : R:=K.add (K.add (K.mul p.1 (K.mul p.2.1 p.2.1)) (K.mul p.1 (K.mul p.2.1 p.2.1))) (K.add (K.mul p.1 (K.mul p.2.1 p.2.1)) (K.mul p.1 (K.mul p.2.1 p.2.1)))
def rdM (p : Jc R) : R:=K.add (K.mul p.1 p.1) (K.add (K.mul p.1 p.1) (K.mul p.1 p.1))
def rdX (p : Jc R) : R:=K.sub (K.mul (rdM K p) (rdM K p)) (K.add (rdS K p) (rdS K p))
def rdF (p : Jc R) : R:=K.mul (K.mul p.2.1 p.2.1) (K.mul p.2.1 p.2.1)
def aKI (p : Jc R) : R:=K.add (rdF K p) (rdF K p)
def aKH (p : Jc R) : R:=K.add (aKI K p) (aKI K p)
def aKG (p : Jc R) : R:=K.add (aKH K p) (aKH K p)
def aGx (p : Jc R) : Jc R:=(rdX K p,K.sub (K.mul (rdM K p) (K.sub (rdS K p) (rdX K p))) (aKG K p),K.mul (K.add p.2.1 p.2.1) p.2.2)
theorem aGA (p : Jc R) : rdM K p = dSl K p:=(K.add_assoc _ _ _).symm
theorem aGz (p : Jc R) : rdS K p = dBa K p :=
 aQ K (cE K [p.1,p.2.1]) (.add (.add (.mul (.v 0) (.mul (.v 1) (.v 1))) (.mul (.v 0) (.mul (.v 1) (.v 1)))) (.add (.mul (.v 0) (.mul (.v 1) (.v 1))) (.mul (.v 0) (.mul (.v 1) (.v 1))))) (.mul (.v 0) (.add (.add (.mul (.v 1) (.v 1)) (.mul (.v 1) (.v 1))) (.add (.mul (.v 1) (.v 1)) (.mul (.v 1) (.v 1))))) (by decide)
theorem aGB (p : Jc R) : aKG K p = K.mul (dFo K p) (dTw K p) :=
 aQ K (cE K [p.2.1]) (.add (.add (.add (.mul (.mul (.v 0) (.v 0)) (.mul (.v 0) (.v 0))) (.mul (.mul (.v 0) (.v 0)) (.mul (.v 0) (.v 0)))) (.add (.mul (.mul (.v 0) (.v 0)) (.mul (.v 0) (.v 0))) (.mul (.mul (.v 0) (.v 0)) (.mul (.v 0) (.v 0))))) (.add (.add (.mul (.mul (.v 0) (.v 0)) (.mul (.v 0) (.v 0))) (.mul (.mul (.v 0) (.v 0)) (.mul (.v 0) (.v 0)))) (.add (.mul (.mul (.v 0) (.v 0)) (.mul (.v 0) (.v 0))) (.mul (.mul (.v 0) (.v 0)) (.mul (.v 0) (.v 0)))))) (.mul (.add (.add (.mul (.v 0) (.v 0)) (.mul (.v 0) (.v 0))) (.add (.mul (.v 0) (.v 0)) (.mul (.v 0) (.v 0)))) (.add (.mul (.v 0) (.v 0)) (.mul (.v 0) (.v 0)))) (by decide)
theorem aBy (p : Jc R) : aGx K p = dT K p:=by
 unfold aGx dT dX dY rdX;rw [aGA,aGz,aGB];rfl
end
theorem Gk (x y : N2) : aM prog (qG prog) (fun _ => ⟨fun s => xS,fun s => true,fun _ => none⟩) f58 60 [.v (.fl (dR (x,y,true)))] = some ([],.one (.fl (bI (F2.one,F2.one,F2.zero)))):=by kernel_rfl
theorem Gl (x y : N2) : aM prog (qG prog) (fun _ => ⟨fun s => xS,fun s => true,fun _ => none⟩) f58 60 [.v (.fl (dR (x,y,false)))] = some ([],.one (.fl (q2 x ++ (q2 y ++ e2 F2.one)))):=by kernel_rfl
def wd2 (p : dM) : J2:=bif p.2.2 then (F2.one,F2.one,F2.zero) else (m2 p.1,m2 p.2.1,F2.one)
theorem aFJ (p : dM) (hp : p.2.2 = false → gD p.1 ∧ gD p.2.1) (args : List Value) (w : World) (ha : bK w [.v (.fl (dR p))] args) : Good prog 58 (.one (.fl (bI (wd2 p)))) args w:=by
 obtain ⟨x,y,b⟩:=p;cases b with
 | true => exact aD aG (fun _ s => zY) (aH prog) func58 (Gk x y) trivial ha
 | false =>
  obtain ⟨hx,hy⟩:=hp rfl;refine Good.congr (r:=.one (.fl (q2 x ++ (q2 y ++ e2 F2.one)))) (aD aG (fun _ s => zY) (aH prog) func58 (Gl x y) trivial ha) ?_;have e : aC (q2 x ++ (q2 y ++ e2 F2.one)) = aC (bI (m2 x,m2 y,F2.one)):=by
   rw [aI,aI,Fb hx,Fb hy];rfl
  show Value.agg (aC _).toArray = .agg (aC _).toArray;rw [e];rfl
def Za : Tab:=(xS).add 58 (g1 Jb fun p => ([p.2.2 = false → gD p.1 ∧ gD p.2.1],.one (.fl (bI (wd2 p)))))
theorem Sf : TabOk prog Za:=(zY).ad func58 (cN jB fun p hp args w ha => aFJ p hp.1 args w ha)
theorem Nq (p : J2) : aM prog (qG prog) (fun _ => ⟨fun s => Za,fun s => true,fun _ => none⟩) f96 80 [.v (.fl (bI p))] = some ([],.one (.fl (bI (aGx F2 p)))):=by kernel_rfl
def qU : Tab:=(Za).add 96 (g1 OV fun p => ([],.one (.fl (bI (dT F2 p)))))
theorem oU : TabOk prog qU:=(Sf).ad func96 (cN gF fun p hp args w ha => by rw [← aBy]; exact aD aG (fun _ s => Sf) (aH prog) func96 (Nq p) trivial ha)
theorem VC (p q : J2) : aM prog (qG prog) (fun _ => ⟨fun s => qU,fun s => true,fun _ => none⟩) f98 100 [.v (.fl (bI p)),.v (.fl (bI q))] = some ([aC (e2 (p.2.2)) = aC (e2 F2.zero)],.one (.fl (bI q))):=by kernel_rfl
theorem VB (p q : J2) : aM prog (qG prog) (fun _ => ⟨fun s => qU,fun s => !(Nat.beq s 20),fun _ => none⟩) f98 100 [.v (.fl (bI p)),.v (.fl (bI q))] = some ([aC (e2 (p.2.2)) ≠ aC (e2 F2.zero),aC (e2 (q.2.2)) = aC (e2 F2.zero)],.one (.fl (bI p))):=by kernel_rfl
theorem VA (p q : J2) : aM prog (qG prog) (fun _ => ⟨fun s => qU,fun s => !(Nat.beq s 20 || Nat.beq s 25),fun _ => none⟩) f98 100 [.v (.fl (bI p)),.v (.fl (bI q))] = some ([aC (e2 (p.2.2)) ≠ aC (e2 F2.zero),aC (e2 (q.2.2)) ≠ aC (e2 F2.zero),aC (e2 (qZ F2 p q)) = aC (e2 F2.zero),aC (e2 (JH F2 p q)) = aC (e2 F2.zero)],.one (.fl (bI (dT F2 p)))):=by kernel_rfl
theorem UZ (p q : J2) : aM prog (qG prog) (fun _ => ⟨fun s => qU,fun s => !(Nat.beq s 20 || Nat.beq s 25 || Nat.beq s 71),fun _ => none⟩) f98 100 [.v (.fl (bI p)),.v (.fl (bI q))] = some ([aC (e2 (p.2.2)) ≠ aC (e2 F2.zero),aC (e2 (q.2.2)) ≠ aC (e2 F2.zero),aC (e2 (qZ F2 p q)) = aC (e2 F2.zero),aC (e2 (JH F2 p q)) ≠ aC (e2 F2.zero),aC (e2 (qZ F2 p q)) = aC (e2 F2.zero)],.one (.fl (bI (F2.one,F2.one,F2.zero)))):=by kernel_rfl
theorem UY (p q : J2) : aM prog (qG prog) (fun _ => ⟨fun s => qU,fun s => false,fun _ => none⟩) f98 100 [.v (.fl (bI p)),.v (.fl (bI q))] = some ([aC (e2 (p.2.2)) ≠ aC (e2 F2.zero),aC (e2 (q.2.2)) ≠ aC (e2 F2.zero),aC (e2 (qZ F2 p q)) ≠ aC (e2 F2.zero),aC (e2 (qZ F2 p q)) ≠ aC (e2 F2.zero)],.one (.fl (bI (DB F2 p q)))):=by kernel_rfl
theorem aBk (p q : J2) (args : List Value) (w : World) (ha : bK w [.v (.fl (bI p)),.v (.fl (bI q))] args) : Good prog 98 (.one (.fl (bI (rplus F2 p q)))) args w:=by
 unfold rplus
 by_cases h1 : p.2.2 = F2.zero
 ·rw [if_pos h1];exact aD aG (fun _ s => oU) (aH prog) func98 (VC p q) ⟨by rw [h1],trivial⟩ ha
 ·rw [if_neg h1]
  by_cases h2 : q.2.2 = F2.zero
  ·rw [if_pos h2];exact aD aG (fun _ s => oU) (aH prog) func98 (VB p q) ⟨cG h1,by rw [h2],trivial⟩ ha
  ·rw [if_neg h2]
   by_cases h3 : qZ F2 p q = F2.zero
   ·by_cases h4 : JH F2 p q = F2.zero
    ·rw [if_pos ⟨h3,h4⟩];exact aD aG (fun _ s => oU) (aH prog) func98 (VA p q) ⟨cG h1,cG h2,by rw [h3],by rw [h4],trivial⟩ ha
    ·rw [if_neg (fun h => h4 h.2),if_pos h3];exact aD aG (fun _ s => oU) (aH prog) func98 (UZ p q) ⟨cG h1,cG h2,by rw [h3],cG h4,by rw [h3],trivial⟩ ha
   ·rw [if_neg (fun h => h3 h.1),if_neg h3];exact aD aG (fun _ s => oU) (aH prog) func98 (UY p q) ⟨cG h1,cG h2,cG h3,cG h3,trivial⟩ ha
def Zd : Tab:=(qU).add 98 (g2 OV OV fun p q => ([],.one (.fl (bI (rplus F2 p q)))))
theorem aCj : TabOk prog Zd:=(oU).ad func98 (iT gF gF fun p q hp args w ha => aBk p q args w ha)
end Go.Proofs.YtfnkbmlmgnadmaaGreat.Ex
