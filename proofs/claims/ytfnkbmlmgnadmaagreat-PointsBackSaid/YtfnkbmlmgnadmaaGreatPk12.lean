/- Pk12 -/
import Derived.ProofKit
import Derived.LaidMore
import Derived.OpenShut
import Derived.Stop.Joined
import Derived.Carry
import Derived.RowKit
import Derived.ChangeSame
import Derived.JoinedOf
import Derived.JoinedAt
import Derived.Laws.IdiomArrays
import Derived.Deep.Strs
import Derived.Test.YtfnkbmlmgnadmaaGreatPk11
import Derived.Test.YtfnkbmlmgnadmaaGreatPk10
import Derived.Test.YtfnkbmlmgnadmaaGreatRows
import Derived.Test.YtfnkbmlmgnadmaaGreatPk00
import Derived.Test.YtfnkbmlmgnadmaaGreatPk03
import Derived.Test.YtfnkbmlmgnadmaaGreatPk09
set_option maxRecDepth 100000
set_option linter.unusedVariables false
set_option linter.unusedSimpArgs false
noncomputable section
namespace Go.Proofs.YtfnkbmlmgnadmaaGreat.Ex
open Go.Proofs.Tryz
open Go.RowKit
def cu2 (x : Q2) : Q2:=F2.mul (F2.mul x x) x
def Cs (x : Q2) : Q2:=F2.add (cu2 x) qD
def rt2 (d : Bool) (s : Q2) : Q2:=bif d then rt s else F2.zero
theorem ZR (x : N2) : aU prog (qG prog) (dM BE) f64 60 [.v (.fl (q2 x))] = some ([],.one (.fl (e2 (cu2 (m2 x))))):=by kernel_rfl
def Om : Tab:=BE.add 64 (g1 sI fun x => ([],.one (.fl (e2 (cu2 x)))))
theorem Ih : TabOk prog Om:=wA.ad func64 (jQ cO fun x hp args w ha => aD aG (fun _ _ => wA) (aK prog) func64 (ZR x) trivial ha)
theorem Fu : aU prog (qG prog) (dM Om) f65 60 [] = some ([],.one (.fl (e2 qD))):=by kernel_rfl
def Oo : Tab:=Om.add 65 (g0 (.one (.fl (e2 qD))))
theorem Ii : TabOk prog Oo:=Ih.ad func65 (LU fun w => aD aG (fun _ s => Ih) (aK prog) func65 Fu trivial (args:=[]) trivial)
theorem aFg (y : N2) : Oo 66 [.v (.fl (q2 y))] = some ([],.one (.fl (e2 (F2.sub F2.zero (m2 y))))):=by kernel_rfl
def Zk : Tab:=Oo.add 66 (g1 sI fun y => ([],.one (.fl (e2 (F2.neg y)))))
theorem aBe : TabOk prog Zk:=Ii.ad func66 (jQ (op:=fun y => ([],.one (.fl (e2 (F2.neg y))))) cO fun y hp args w ha => by
 have h:=(Ii _ _ _ _ (aFg y) trivial).2 args w ha;rw [Cz] at h;exact h)
def Oc (d : Bool) : Tab:=Zk.add 62 (g1 sI (oS2 d))
theorem Id (d : Bool) : TabOk prog (Oc d):=aBe.ad func62 (jQ cO (Ox d))
def YB (m : Nat) (d : Bool) (x : N2) : Q2:=bif Nat.beq m 3 then F2.neg (rt2 d (Cs (m2 x))) else rt2 d (Cs (m2 x))
def pR2 (d : Bool) (x : N2) : List Prop:=[(bif d then rN (Cs (m2 x)) else ¬ rN (Cs (m2 x)))]
theorem IF (d : Bool) (x : N2) : aU prog (qG prog) (dM (Oc d)) f34 60 [.v (.fl (q2 x)),.v (.im (.int .u8 2))] = some (pR2 d x,.one (.fl (e2 (YB 2 d x)))):=by cases d <;> kernel_rfl
theorem IE (d : Bool) (x : N2) : aU prog (qG prog) (dM (Oc d)) f34 60 [.v (.fl (q2 x)),.v (.im (.int .u8 3))] = some (pR2 d x,.one (.fl (e2 (YB 3 d x)))):=by cases d <;> kernel_rfl
def aBJ (m : Nat) (d : Bool) : gE
 | [.v (.fl l),.v (.im (.int .u8 (.ofNat m')))] => match Ct l with
  | some x => bif Nat.beq m' m then some (pR2 d x,.one (.fl (e2 (YB m d x)))) else none
  | none => none
 | _ => none
theorem Ux (m : Nat) (hm : m = 2 ∨ m = 3) (d : Bool) : ∀ cs pre r,aBJ m d cs = some (pre,r) → aL pre → ∀ (args : List Value) (w : World),bD w cs args → Good prog 34 r args w:=by
 intro cs pre r hg hp args w ha;unfold aBJ at hg;split at hg
 ·rename_i l m';split at hg
  ·rename_i x hx;cases hb : Nat.beq m' m <;> rw [hb] at hg
   ·cases hg
   ·have hmm:=Nat.eq_of_beq_eq_true hb;subst hmm;cases hg;have ha' : bD w [.v (.fl (q2 x)),.v (.im (.int .u8 (Int.ofNat m')))] args:=by
     match args,ha with
     | [u,v],ha => exact ⟨by have h1 : u = .agg (aA l).toArray:=ha.1; rw [jO l _ hx] at h1; exact h1,ha.2.1,trivial⟩
     | [],ha => exact ha.elim
     | [_],ha => exact ha.2.elim
     | _ :: _ :: _ :: _,ha => exact ha.2.2.elim
    rcases hm with rfl | rfl
    ·exact aD aG (fun _ _ => Id d) (aK prog) func34 (IF d x) hp ha'
    ·exact aD aG (fun _ _ => Id d) (aK prog) func34 (IE d x) hp ha'
  ·cases hg
 ·cases hg
def zG2 : List At:=[.f F1.zero,.f F1.zero,.f F1.zero,.f F1.zero,.c (.bool false)]
def SU (k : Bool) : Tab:=T0.add 11 (Lj k)
theorem VG (k : Bool) : TabOk prog (SU k):=(eW _).ad func11 (LS UQ k)
theorem Al (p : bY) : aU prog (qG prog) (dM (SU true)) f35 60 [.v (.fl (cS p)),.v (.im (.func (.func 11) #[] #[]))] = some ([cF p = 0],.many [.fl (cS p),.im (.int .i64 0)]):=by kernel_rfl
theorem Am (p : bY) : aU prog (qG prog) (Pf (SU false) 12) f35 60 [.v (.fl (cS p)),.v (.im (.func (.func 11) #[] #[]))] = some ([aP .neq .i64 (cF p) 0 = some (.bool true)],.many [.fl zG2,.im (.int .i64 (cF p))]):=by kernel_rfl
def iP (a : Bool) (p : bY) : List Prop × RV:=bif a then ([cF p = 0],.many [.fl (cS p),.im (.int .i64 0)]) else ([cF p ≠ 0],.many [.fl zG2,.im (.int .i64 (cF p))])
def aCc (a : Bool) : gE
 | [.v (.fl l),.v (.im (.func (.func f) fi ca))] => match As l with
  | some p => bif Nat.beq f 11 && (Nat.beq fi.size 0 && Nat.beq ca.size 0) then some (iP a p) else none
  | none => none
 | _ => none
theorem Vf (a : Bool) : ∀ cs pre r,aCc a cs = some (pre,r) → aL pre → ∀ (args : List Value) (w : World),bD w cs args → Good prog 35 r args w:=by
 intro cs pre r hg hp args w ha;unfold aCc at hg;split at hg
 ·rename_i l f fi ca;split at hg
  ·rename_i p hx;cases hb : (Nat.beq f 11 && (Nat.beq fi.size 0 && Nat.beq ca.size 0)) <;> rw [hb] at hg
   ·cases hg
   ·simp only [Bool.and_eq_true] at hb;have hmm:=Nat.eq_of_beq_eq_true hb.1;subst hmm;have e5 : fi = #[]:=Array.eq_empty_of_size_eq_zero (Nat.eq_of_beq_eq_true hb.2.1);have e6 : ca = #[]:=Array.eq_empty_of_size_eq_zero (Nat.eq_of_beq_eq_true hb.2.2);subst e5; subst e6;have ha' : bD w [.v (.fl (cS p)),.v (.im (.func (.func 11) #[] #[]))] args:=by
     match args,ha with
     | [u,v],ha => exact ⟨by have h1 : u = .agg (aA l).toArray:=ha.1; rw [iN l _ hx] at h1; exact h1,ha.2.1,trivial⟩
     | [],ha => exact ha.elim
     | [_],ha => exact ha.2.elim
     | _ :: _ :: _ :: _,ha => exact ha.2.2.elim
    cases a
    ·cases hg;exact aD aG (fun _ _ => VG false) (aK prog) func35 (Am p) ⟨by show some (Value.bool (cF p != 0)) = _; rw [bne_iff_ne.2 hp.1],trivial⟩ ha'
    ·cases hg;exact aD aG (fun _ _ => VG true) (aK prog) func35 (Al p) ⟨hp.1,trivial⟩ ha'
  ·cases hg
 ·cases hg
def BD (m : Nat) (d a : Bool) : Tab:=((T0.add 33 wO).add 34 (aBJ m d)).add 35 (aCc a)
theorem vY (m : Nat) (hm : m = 2 ∨ m = 3) (d a : Bool) : TabOk prog (BD m d a):=(((eW _).ad func33 rU).ad func34 (Ux m hm d)).ad func35 (Vf a)
def xK2 (m : Nat) : Ext:=x3 (TD.add 32 (gUk m)) FQ (fun _ => none) (fun _ => none)
theorem NI (m : Nat) (hm : m = 1 ∨ m = 2 ∨ m = 3) (w : World) : bU prog (qY prog (xK2 m)) w.heap.size w:=lG ((hJ _).ad func32 (aBy m hm)) (fZ _) w
def xL2 (m : Nat) : Ext:=x3 (TD.add 32 (gUl m)) FQ (fun _ => none) (fun _ => none)
theorem De (m : Nat) (hm : m = 0 ∨ m = 1) (w : World) : bU prog (qY prog (xL2 m)) w.heap.size w:=lG ((hJ _).ad func32 (aBx m hm)) (fZ _) w
def pUk (m : Nat) (B C : Nat → Nat) (c : Nat) : List Prop:=[L6 (bN B ++ bN C),B 0 / 64 = m,64 ≤ c]
def pUl (m : Nat) (B C D E : Nat → Nat) (c : Nat) : List Prop:=[LL ((bN B ++ bN C) ++ (bN D ++ bN E)),B 0 / 64 = m,128 ≤ c]
def x6 (L : List Nat) : N2:=(lo L,hi L)
def Pd (L : List Nat) : N2:=(i4 L,h4 L)
def Pc (L : List Nat) : N2:=(k4 L,j4 L)
def Jd (y : Q2) : N2:=(y.1.1,y.2.1)
theorem Ff (a : Bool) (B C : Nat → Nat) (c : Nat) : aU prog (qY prog (xK2 1)) (dM (BD 2 true a)) f16 80 [.s (bL B ++ bL C) 64 c] = some (pUk 1 B C c ++ (iP a (x6 (bN B ++ bN C),(0,0),true)).1,(iP a (x6 (bN B ++ bN C),(0,0),true)).2):=by cases a <;> kernel_rfl
theorem Fe (d a : Bool) (B C : Nat → Nat) (c : Nat) : aU prog (qY prog (xK2 2)) (dM (BD 2 d a)) f16 80 [.s (bL B ++ bL C) 64 c] = some (pUk 2 B C c ++ pR2 d (x6 (bN B ++ bN C)) ++ (iP a (x6 (bN B ++ bN C),Jd (YB 2 d (x6 (bN B ++ bN C))),false)).1,(iP a (x6 (bN B ++ bN C),Jd (YB 2 d (x6 (bN B ++ bN C))),false)).2):=by cases a <;> kernel_rfl
theorem Fd (d a : Bool) (B C : Nat → Nat) (c : Nat) : aU prog (qY prog (xK2 3)) (dM (BD 3 d a)) f16 80 [.s (bL B ++ bL C) 64 c] = some (pUk 3 B C c ++ pR2 d (x6 (bN B ++ bN C)) ++ (iP a (x6 (bN B ++ bN C),Jd (YB 3 d (x6 (bN B ++ bN C))),false)).1,(iP a (x6 (bN B ++ bN C),Jd (YB 3 d (x6 (bN B ++ bN C))),false)).2):=by cases a <;> kernel_rfl
theorem ZB (a : Bool) (B C D E : Nat → Nat) (c : Nat) : aU prog (qY prog (xL2 0)) (dM (BD 2 true a)) f16 80 [.s (bL4 B C D E) 128 c] = some (pUl 0 B C D E c ++ (iP a (Pd ((bN B ++ bN C) ++ (bN D ++ bN E)),Pc ((bN B ++ bN C) ++ (bN D ++ bN E)),false)).1,(iP a (Pd ((bN B ++ bN C) ++ (bN D ++ bN E)),Pc ((bN B ++ bN C) ++ (bN D ++ bN E)),false)).2):=by cases a <;> kernel_rfl
theorem ZA (a : Bool) (B C D E : Nat → Nat) (c : Nat) : aU prog (qY prog (xL2 1)) (dM (BD 2 true a)) f16 80 [.s (bL4 B C D E) 128 c] = some (pUl 1 B C D E c ++ (iP a (Pd ((bN B ++ bN C) ++ (bN D ++ bN E)),Pc ((bN B ++ bN C) ++ (bN D ++ bN E)),true)).1,(iP a (Pd ((bN B ++ bN C) ++ (bN D ++ bN E)),Pc ((bN B ++ bN C) ++ (bN D ++ bN E)),true)).2):=by cases a <;> kernel_rfl
theorem aAB {l : List At} {L : List Nat} {c : Nat} (a : Bool) (hL : lN l = some L) (h6 : L6 L) (hb : (L.take 32).getD 0 0 / 64 = 1) (hc : 64 ≤ c) (hp : aL (iP a (x6 L,(0,0),true)).1) (args : List Value) (w : World) (ha : bD w [.s l 64 c] args) : Good prog 16 (iP a (x6 L,(0,0),true)).2 args w:=by
 have hN:=b6N h6;have h:=bA aG (fun _ _ => (vY 2 (Or.inl rfl) true a).w _ _) (NI 1 (Or.inl rfl) w) func16 (Ff a (fun k => (L.take 32).getD k 0) (fun k => (L.drop 32).getD k 0) c) (aW.2 ⟨⟨by rw [hN]; exact h6,hb,hc,trivial⟩,by rw [hN]; exact hp⟩) (tJ (jT hL h6) ha);rw [hN] at h;exact h
theorem UJ {l : List At} {L : List Nat} {c m : Nat} (hm : m = 2 ∨ m = 3) (d a : Bool) (hL : lN l = some L) (h6 : L6 L) (hb : (L.take 32).getD 0 0 / 64 = m) (hc : 64 ≤ c) (hr : aL (pR2 d (x6 L))) (hp : aL (iP a (x6 L,Jd (YB m d (x6 L)),false)).1) (args : List Value) (w : World) (ha : bD w [.s l 64 c] args) : Good prog 16 (iP a (x6 L,Jd (YB m d (x6 L)),false)).2 args w:=by
 have hN:=b6N h6
 rcases hm with rfl | rfl
 ·have h:=bA aG (fun _ _ => (vY 2 (Or.inl rfl) d a).w _ _) (NI 2 (Or.inr (Or.inl rfl)) w) func16 (Fe d a (fun k => (L.take 32).getD k 0) (fun k => (L.drop 32).getD k 0) c) (aW.2 ⟨aW.2 ⟨⟨by rw [hN]; exact h6,hb,hc,trivial⟩,by rw [hN]; exact hr⟩,by rw [hN]; exact hp⟩) (tJ (jT hL h6) ha);rw [hN] at h;exact h
 ·have h:=bA aG (fun _ _ => (vY 3 (Or.inr rfl) d a).w _ _) (NI 3 (Or.inr (Or.inr rfl)) w) func16 (Fd d a (fun k => (L.take 32).getD k 0) (fun k => (L.drop 32).getD k 0) c) (aW.2 ⟨aW.2 ⟨⟨by rw [hN]; exact h6,hb,hc,trivial⟩,by rw [hN]; exact hr⟩,by rw [hN]; exact hp⟩) (tJ (jT hL h6) ha);rw [hN] at h;exact h
theorem bLN {L : List Nat} (h6 : LL L) : (bN (fun k => ((L.take 64).take 32).getD k 0) ++ bN (fun k => ((L.take 64).drop 32).getD k 0)) ++ (bN (fun k => ((L.drop 64).take 32).getD k 0) ++ bN (fun k => ((L.drop 64).drop 32).getD k 0)) = L:=by rw [b6N h6.1,b6N h6.2,List.take_append_drop]
theorem Gq {l : List At} {L : List Nat} {c : Nat} (a : Bool) (hL : lN l = some L) (h6 : LL L) (hb : ((L.take 64).take 32).getD 0 0 / 64 = 0) (hc : 128 ≤ c) (hp : aL (iP a (Pd L,Pc L,false)).1) (args : List Value) (w : World) (ha : bD w [.s l 128 c] args) : Good prog 16 (iP a (Pd L,Pc L,false)).2 args w:=by
 have hN:=bLN h6;have h:=bA aG (fun _ _ => (vY 2 (Or.inl rfl) true a).w _ _) (De 0 (Or.inl rfl) w) func16 (ZB a (fun k => ((L.take 64).take 32).getD k 0) (fun k => ((L.take 64).drop 32).getD k 0) (fun k => ((L.drop 64).take 32).getD k 0) (fun k => ((L.drop 64).drop 32).getD k 0) c) (aW.2 ⟨⟨by rw [hN]; exact h6,hb,hc,trivial⟩,by rw [hN]; exact hp⟩) (tJ (SE hL h6) ha);rw [hN] at h;exact h
theorem Ry {l : List At} {L : List Nat} {c : Nat} (a : Bool) (hL : lN l = some L) (h6 : LL L) (hb : ((L.take 64).take 32).getD 0 0 / 64 = 1) (hc : 128 ≤ c) (hp : aL (iP a (Pd L,Pc L,true)).1) (args : List Value) (w : World) (ha : bD w [.s l 128 c] args) : Good prog 16 (iP a (Pd L,Pc L,true)).2 args w:=by
 have hN:=bLN h6;have h:=bA aG (fun _ _ => (vY 2 (Or.inl rfl) true a).w _ _) (De 1 (Or.inr rfl) w) func16 (ZA a (fun k => ((L.take 64).take 32).getD k 0) (fun k => ((L.take 64).drop 32).getD k 0) (fun k => ((L.drop 64).take 32).getD k 0) (fun k => ((L.drop 64).drop 32).getD k 0) c) (aW.2 ⟨⟨by rw [hN]; exact h6,hb,hc,trivial⟩,by rw [hN]; exact hp⟩) (tJ (SE hL h6) ha);rw [hN] at h;exact h
def xX (k c : Bool) : Tab:=(((BE.add 23 (g1 Ct fun y => (Be c y,.one (.im (.bool c))))).add 11 (Lj k)).add 22 gSm).add 25 gLm
theorem rF (k c : Bool) : TabOk prog (xX k c):=(((wA.ad func23 (cM (op:=fun y => (Be c y,.one (.im (.bool c)))) jO fun y hp args w ha => aBo c y hp args w ha)).ad func11 (LS UQ k)).ad func22 Ku).ad func25 Lb
def bm2 (x : N2) (m : Nat) : List At:=bm (wv x.2) m ++ bl (wv x.1)
def VP (p : bY) : List Prop × RV:=([aP .neq .i64 (cF p) 0 = some (.bool true)],.many [.im (.slice none 0 0),.im (.int .i64 (cF p))])
theorem IG (p : bY) : aU prog (qG prog) (Pf (xX false true) 8) f6 60 [.v (.fl (cS p))] = some (VP p):=by kernel_rfl
theorem IS (p : bY) : aU prog (qG prog) (Pf (xX false true) 8) f8 60 [.v (.fl (cS p))] = some (VP p):=by kernel_rfl
theorem ZC (x y : N2) (c : Bool) : iR prog (qY prog (x3 L3 W4 (fun _ => none) (fun _ => none))) (dM (xX true c)) f6 80 [.v (.fl (cS (x,y,true)))] = some ([cF (x,y,true) = 0] ++ Be c y ++ [1 < 4],⟨bm2 x 1,64,5,1,true,[],[.im (.int .i64 0)]⟩):=by kernel_rfl
theorem ZD (x y : N2) (c : Bool) : iR prog (qY prog (x3 L3 W4 (fun _ => none) (fun _ => none))) (dM (xX true c)) f6 80 [.v (.fl (cS (x,y,false)))] = some ([cF (x,y,false) = 0] ++ Be c y ++ [(bif c then 2 else 3) < 4],⟨bm2 x (bif c then 2 else 3),64,5,1,true,[],[.im (.int .i64 0)]⟩):=by cases c <;> kernel_rfl
theorem ZE (x y : N2) : iR prog (qY prog (x3 L3 W4 (fun _ => none) (fun _ => none))) (dM (xX true true)) f8 80 [.v (.fl (cS (x,y,true)))] = some ([cF (x,y,true) = 0,1 < 4],⟨((bm (wv x.2) 1 ++ bl (wv x.1)) ++ bl (wv y.2)) ++ bl (wv y.1),128,5,1,true,[],[.im (.int .i64 0)]⟩):=by kernel_rfl
theorem ZF (x y : N2) : iR prog (qY prog (x3 L3 W4 (fun _ => none) (fun _ => none))) (dM (xX true true)) f8 80 [.v (.fl (cS (x,y,false)))] = some ([cF (x,y,false) = 0,0 < 4],⟨((bm (wv x.2) 0 ++ bl (wv x.1)) ++ bl (wv y.2)) ++ bl (wv y.1),128,5,1,true,[],[.im (.int .i64 0)]⟩):=by kernel_rfl
def l2L (x y : N2) (m : Nat) : List At:=((bm (wv x.2) m ++ bl (wv x.1)) ++ bl (wv y.2)) ++ bl (wv y.1)
def DD (c : Bool) (p : bY) : List Prop:=[cF p = 0,wv p.2.1.1 < FP.M,wv p.2.1.2 < FP.M,AF p.2.1 = c]
theorem uK {p : bY} (h : cF p = 0) : (fM p.1 p.2.1 p.2.2).1 = 0:=by
 rw [pU] at h
 by_cases h0 : (fM p.1 p.2.1 p.2.2).1 = 0
 ·exact h0
 ·rw [if_pos h0] at h; exact h
theorem rO {x y : N2} (h : cF (x,y,true) = 0) : yF x ∧ yF y:=Mm (uK h)
theorem VH {x y : N2} (h : cF (x,y,false) = 0) : iH x ∧ iH y:=by
 have h1:=uK h;have h2 : (fM x y false).1 = 0:=h1;rw [iV,if_neg (by simp)] at h2
 by_cases hb : iH x ∧ iH y
 ·exact hb
 ·rw [if_pos hb] at h2; cases h2
theorem Im {p : bY} (h : cF p = 0) : aL (DD (AF p.2.1) p):=by
 obtain ⟨x,y,i⟩:=p;cases i
 ·exact ⟨h,(VH h).2.1,(VH h).2.2,rfl,trivial⟩
 ·obtain ⟨_,h1,h2⟩:=rO h;exact ⟨h,by show wv y.1 < _; rw [h1]; exact bW,by show wv y.2 < _; rw [h2]; exact bW,rfl,trivial⟩
theorem Wo {f : FuncId} {fn : Func} (hf : prog.funcs[f]? = some fn) {T : Tab} (hT : TabOk prog T) {s n : Nat} (p : bY) (h : aU prog (qG prog) (Pf T s) fn n [.v (.fl (cS p))] = some (VP p)) (h0 : cF p ≠ 0) (args : List Value) (w : World) (ha : bD w [.v (.fl (cS p))] args) :
  Good prog f (.many [.im (.slice none 0 0),.im (.int .i64 (cF p))]) args w:=aD aG (fun _ _ => hT) (aK prog) hf h ⟨by show some (Value.bool (cF p != 0)) = _; rw [bne_iff_ne.2 h0],trivial⟩ ha
def Va (pre : bY → List Prop) (o : bY → FS) : List CA → Option (List Prop × FS)
 | [.v (.fl l)] => match As l with
  | some p => some (pre p,o p)
  | none => none
 | _ => none
theorem WK {f : FuncId} {pre : bY → List Prop} {o : bY → FS} (h : ∀ p,aL (pre p) → ∀ (args : List Value) (w : World),bD w [.v (.fl (cS p))] args → Calls prog f args.toArray w (fun e w' => (o p).ok w e w')) :
  ∀ cs ps r,Va pre o cs = some (ps,r) → aL ps → ∀ (args : List Value) (w : World),bD w cs args → Calls prog f args.toArray w (fun e w' => r.ok w e w'):=by
 intro cs ps r hg hp args w ha;unfold Va at hg;split at hg
 ·rename_i l;split at hg
  ·rename_i p hn;cases hg;refine h p hp args w ?_;rw [sV ha,iN l _ hn];exact ⟨rfl,trivial⟩
  ·cases hg
 ·cases hg
def Ax (p : dU) (e : Int) : RV:=.many [.fl (fA p),.im (.int .i64 e)]
theorem jL {f : FuncId} {l l' : List At} {e : Int} {args : List Value} {w : World} (hl : aA l = aA l') (h : Good prog f (.many [.fl l,.im (.int .i64 e)]) args w) : Good prog f (.many [.fl l',.im (.int .i64 e)]) args w:=by
 have hd : (RV.many [.fl l,.im (.int .i64 e)]).den = (RV.many [.fl l',.im (.int .i64 e)]).den:=by
  show Value.tuple (#[.agg (aA l).toArray,.int .i64 e]) = Value.tuple (#[.agg (aA l').toArray,.int .i64 e]);rw [hl]
 unfold Good at h ⊢;rw [← hd];exact h
theorem jC : aA zG = aA (fA (0,0,false)):=by kernel_rfl
def R1 (l : List At) (n cap : Nat) (p : dU) (e : Int) : Prop:=qC 20 [.s l n cap] (Ax p e)
theorem Zf {a : Nat} : a &&& 63 = a % 64:=Nat.and_two_pow_sub_one_eq_mod a 6
theorem Zo (L : List Nat) (h : L.length = 32) : zN (lB L) = (L.getD 0 0 &&& 63) :: L.tail:=by
 match L,h with
 | [a0,a1,a2,a3,a4,a5,a6,a7,a8,a9,a10,a11,a12,a13,a14,a15,a16,a17,a18,a19,a20,a21,a22,a23,a24,a25,a26,a27,a28,a29,a30,a31],_ => rfl
theorem Pj {L : List Nat} (h : L.length = 32) {k : Nat} (hk : k ≠ 0) : (zN (lB L)).getD k 0 = L.getD k 0:=by
 rw [Zo L h]
 match L,h with
 | a :: r,_ =>
  cases k with
  | zero => exact absurd rfl hk
  | succ k => rfl
theorem aEj {L : List Nat} (h : L8 L) : L8 (zN (lB L)):=⟨rfl,fun k => by
 by_cases hk : k = 0
 ·subst hk;show L.getD 0 0 &&& 63 < 256;rw [Zf]; omega
 ·rw [Pj h.1 hk]; exact h.2 k⟩
theorem Xi {L : List Nat} (h : L8 L) : hv (zN (lB L)) = xv (hv L):=by
 have h1 : hv L = L.getD 0 0 * 256 ^ 31 + Go.Proofs.YtfnkbmlmgnadmaaGreat.jK (fun k => L.getD k 0) 1 31:=by
  have:=rR (fun k => L.getD k 0) 0 1 31;show Go.Proofs.YtfnkbmlmgnadmaaGreat.jK _ 0 32 = _;rw [this];show (0 * 256 + L.getD (0 + 0) 0) * 256 ^ 31 + _ = _;rw [Nat.zero_mul,Nat.zero_add]
 have h2 : hv (zN (lB L)) = (L.getD 0 0 % 64) * 256 ^ 31 + Go.Proofs.YtfnkbmlmgnadmaaGreat.jK (fun k => L.getD k 0) 1 31:=by
  have:=rR (fun k => (zN (lB L)).getD k 0) 0 1 31;show Go.Proofs.YtfnkbmlmgnadmaaGreat.jK _ 0 32 = _;rw [this,uE (C:=fun k => L.getD k 0) 1 31 fun k hk => Pj h.1 (by omega)];show (0 * 256 + (L.getD 0 0 &&& 63)) * 256 ^ 31 + _ = _;rw [Nat.zero_mul,Nat.zero_add,Zf]
 have h3:=RC (B:=fun k => L.getD k 0) h.2 1 31;have h4:=h.2 0;generalize Go.Proofs.YtfnkbmlmgnadmaaGreat.jK (fun k => L.getD k 0) 1 31 = t at *;generalize L.getD 0 0 = a at *;rw [h1,h2];unfold xv;have e : 256 ^ 31 = 452312848583266388373324160190187140051835877600158453279131187530910662656:=by decide
 rw [e] at h3 ⊢;omega
theorem TK (N : Nat) : wv (xv N) = xv N:=by
 have h : xv N < 115792089237316195423570985008687907853269984665640564039457584007913129639936:=Nat.lt_of_lt_of_le (Nat.mod_lt _ (by decide)) (by decide);exact oD h
theorem aEt {L : List Nat} (h : L8 L) : wv (hv L) = hv L:=oD (Kl h)
theorem VV {L : List Nat} (h : L8 L) : L.getD 0 0 / 64 = 0 ∨ L.getD 0 0 / 64 = 1 ∨ L.getD 0 0 / 64 = 2 ∨ L.getD 0 0 / 64 = 3:=by have:=h.2 0; omega
theorem MO {x y : Nat} (h : ¬ (wv x = 0 ∧ wv y = 0)) : (cV x y true).1 = 44:=by
 rw [jS,if_pos rfl,if_neg (fun q : NH x ∧ NH y => h q)]
theorem kL {x y : Nat} (h1 : wv x = 0) (h2 : wv y = 0) : (cV x y true).1 = 0:=by
 rw [jS,if_pos rfl,if_pos (show NH x ∧ NH y from ⟨h1,h2⟩)]
theorem RW {x y : Nat} (h : ¬ (wv x < FP.M ∧ wv y < FP.M)) : (cV x y false).1 = 21:=by
 rw [jS,if_neg (by simp),if_pos (show ¬ (nG x ∧ nG y) from h)]
theorem FV (x : Nat) : kP true x = F1.add (F1.mul (F1.mul (m1 x) (m1 x)) (m1 x)) (fm 3):=by unfold kP Cj; rw [cond_true]
theorem rW {x y : Nat} (h1 : wv x < FP.M) (h2 : wv y < FP.M) (h : F1.mul (m1 y) (m1 y) = kP true x) : (cV x y false).1 = 0:=by
 rw [jS,if_neg (by simp),if_neg (fun q : ¬ (nG x ∧ nG y) => q ⟨h1,h2⟩),if_pos (h.trans (FV x))]
theorem EO {x y : Nat} (h1 : wv x < FP.M) (h2 : wv y < FP.M) (h : F1.mul (m1 y) (m1 y) ≠ kP true x) : (cV x y false).1 = 41:=by
 rw [jS,if_neg (by simp),if_neg (fun q : ¬ (nG x ∧ nG y) => q ⟨h1,h2⟩),if_neg (fun q => h (q.trans (FV x).symm))]
theorem rX (x : Fq) : wv x.1 < FP.M:=by rw [show wv x.1 = x.1 from aZ x.2]; exact x.2
theorem sub_zero (y : Fq) : F1.sub F1.zero y = F1.neg y:=F1.zero_add _
theorem Br (x : Fq) : m1 x.1 = x:=Fin.ext (show wv x.1 % FP.M = x.1 by rw [show wv x.1 = x.1 from aZ x.2]; exact Nat.mod_eq_of_lt x.2)
theorem Xv (s : Fq) : NF false s = F1.zero:=by unfold NF; rw [cond_false]
theorem Zr (k d : Bool) (x : Nat) : yX 2 k d x = NF d (kP k x):=by unfold yX; rw [show Nat.beq 2 3 = false from rfl,cond_false]
theorem Zq (k d : Bool) (x : Nat) : yX 3 k d x = F1.neg (NF d (kP k x)):=by unfold yX; rw [show Nat.beq 3 3 = true from rfl,cond_true]
theorem aEm (m : Nat) (hm : m = 2 ∨ m = 3) (k : Bool) (x : Nat) : yX m k false x = F1.zero:=by
 rcases hm with rfl | rfl
 ·rw [Zr,Xv]
 ·rw [Zq,Xv,bM]
theorem aFd (p : dU) : (nC true p).2 = Ax p 0:=rfl
theorem aFe (p : dU) : (nC false p).2 = .many [.fl zG,.im (.int .i64 (cV p.1 p.2.1 p.2.2).1)]:=rfl
theorem aBj (p : dU) : (nC true p).1 = [(cV p.1 p.2.1 p.2.2).1 = 0]:=rfl
theorem aBk (p : dU) : (nC false p).1 = [(cV p.1 p.2.1 p.2.2).1 ≠ 0]:=rfl
theorem Sz {p : dU} {l : List At} {n cap : Nat} {e : Int} (he : (cV p.1 p.2.1 p.2.2).1 = e) (h0 : e ≠ 0) (h : aL (nC false p).1 → qC 20 [.s l n cap] (nC false p).2) : R1 l n cap (0,0,false) e:=fun args w ha => by
 have hh:=h (by rw [aBk]; exact ⟨by rw [he]; exact h0,trivial⟩) args w ha;rw [aFe,he] at hh;exact jL jC hh
theorem aAW {p : dU} {l : List At} {n cap : Nat} (he : (cV p.1 p.2.1 p.2.2).1 = 0) (h : aL (nC true p).1 → qC 20 [.s l n cap] (nC true p).2) : R1 l n cap p 0:=fun args w ha => by
 have hh:=h (by rw [aBj]; exact ⟨he,trivial⟩) args w ha;rw [aFd] at hh;exact hh
theorem gB {X Y : Nat} {i : Bool} {l : List At} {n cap : Nat} (he : (cV X Y i).1 = 0) (h : aL (nC true (X,Y,i)).1 → qC 20 [.s l n cap] (nC true (X,Y,i)).2) : R1 l n cap (X,Y,i) 0:=aAW (p:=(X,Y,i)) he h
theorem eQ {X Y : Nat} {i : Bool} {l : List At} {n cap : Nat} {e : Int} (he : (cV X Y i).1 = e) (h0 : e ≠ 0) (h : aL (nC false (X,Y,i)).1 → qC 20 [.s l n cap] (nC false (X,Y,i)).2) : R1 l n cap (0,0,false) e:=Sz (p:=(X,Y,i)) he h0 h
theorem zB {L : List Nat} (h6 : L6 L) {m : Nat} (hb : (L.take 32).getD 0 0 / 64 = m) : aL (p64 m (lB (L.take 32)) (lB (L.drop 32))):=⟨by
 rw [show bN (lB (L.take 32)) = L.take 32 from cT h6.1.1,show bN (lB (L.drop 32)) = L.drop 32 from cT h6.2.1,List.take_append_drop];exact h6,hb,trivial⟩
theorem Dh (L : List Nat) : wv (hi L) = hi L:=TK _
theorem Dg {L : List Nat} (h : L6 L) : wv (lo L) = lo L:=aEt h.2
def Xz (p : bY) (e : Int) : RV:=.many [.fl (cS p),.im (.int .i64 e)]
def S1 (l : List At) (n cap : Nat) (p : bY) (e : Int) : Prop:=qC 16 [.s l n cap] (Xz p e)
theorem aCH {p : bY} (h : (fM p.1 p.2.1 p.2.2).1 = 0) : cF p = if iC p = true then 0 else 42:=by rw [pU,if_neg (fun q => q h)]
theorem aFV {p : bY} (h : (fM p.1 p.2.1 p.2.2).1 = 0) (hi : iC p = true) : cF p = 0:=by rw [aCH h,if_pos hi]
theorem Up : iC ((0,0),(0,0),true) = true:=tIn 0
theorem XK : cF ((0,0),(0,0),true) = 0 :=
 aFV (p:=((0,0),(0,0),true)) (by show (fM (0,0) (0,0) true).1 = 0; rw [iV,if_pos rfl,if_pos ⟨⟨by kernel_rfl,by kernel_rfl⟩,by kernel_rfl,by kernel_rfl⟩]) Up
theorem Wb {x y : N2} (h : ¬ (iH x ∧ iH y)) : (fM x y false).1 = 21:=by rw [iV,if_neg (by simp),if_pos h]
theorem Zp (x : Q2) : Cs x = F2.add (F2.mul (F2.mul x x) x) qD:=rfl
theorem Wa {x y : N2} (hx : iH x) (hy : iH y) (h : F2.mul (m2 y) (m2 y) ≠ Cs (m2 x)) : (fM x y false).1 = 41:=by
 rw [iV,if_neg (by simp),if_neg (fun q : ¬ (iH x ∧ iH y) => q ⟨hx,hy⟩),if_neg (fun q => h (q.trans (Zp _).symm))]
theorem Jr (y : Q2) : AF (Jd y) = true ↔ tH y:=by
 have e1 : wv y.1.1 = y.1.1:=aZ y.1.2;have e2 : wv y.2.1 = y.2.1:=aZ y.2.2;unfold AF tH;show (if wv y.2.1 = 0 then dA FP.M (wv y.1.1) else dA FP.M (wv y.2.1)) = true ↔ _;rw [e1,e2]
 by_cases h : y.2.1 = 0
 ·rw [if_pos h];have h' : y.2 = F1.zero:=Fin.ext h;exact ⟨fun q => ⟨fun _ => q,fun n => absurd h' n⟩,fun q => q.1 h'⟩
 ·rw [if_neg h];have h' : y.2 ≠ F1.zero:=fun e => h (congrArg Fin.val e)
  exact ⟨fun q => ⟨fun e => absurd e h',fun _ => q⟩,fun q => q.2 h'⟩
theorem aBl (p : bY) : (iP true p).2 = Xz p 0:=rfl
theorem To (p : bY) : (iP true p).1 = [cF p = 0]:=rfl
theorem pB {x y : N2} {i : Bool} {l : List At} {n cap : Nat} (he : cF (x,y,i) = 0) (h : aL (iP true (x,y,i)).1 → qC 16 [.s l n cap] (iP true (x,y,i)).2) : S1 l n cap (x,y,i) 0:=fun args w ha => by
 have hh:=h (by rw [To]; exact ⟨he,trivial⟩) args w ha;rw [aBl] at hh;exact hh
theorem aEo (d : Bool) (x : N2) : YB 2 d x = rt2 d (Cs (m2 x)):=by unfold YB; rw [show Nat.beq 2 3 = false from rfl,cond_false]
theorem aEn (d : Bool) (x : N2) : YB 3 d x = F2.neg (rt2 d (Cs (m2 x))):=by unfold YB; rw [show Nat.beq 3 3 = true from rfl,cond_true]
theorem Xw (s : Q2) : rt2 true s = rt s:=by unfold rt2; rw [cond_true]
def RF : gE
 | [.v (.im (.slice none 0 0)),.v (.im (.slice none 0 0))] => some ([],.one (.im (.bool true)))
 | cs => Kw cs
theorem YX : aU prog (qG prog) (fun _ => ⟨fun _ => T0,fun _ => true,fun _ => none⟩) f13 60 [.v (.im (.slice none 0 0)),.v (.im (.slice none 0 0))] = some ([],.one (.im (.bool true))):=by kernel_rfl
theorem Ca : ∀ cs pre r,RF cs = some (pre,r) → aL pre → ∀ (args : List Value) (w : World),bD w cs args → Good prog 13 r args w:=by
 intro cs pre r hg hp args w ha;unfold RF at hg;split at hg
 ·cases hg;exact aD aG (fun _ _ => eW _) (aK prog) func13 YX trivial ha
 ·exact Kv _ _ _ hg hp args w ha
theorem TP {l : List At} {L : List Nat} {n : Nat} (h : lN l = some L) (hn : L.length = n) : ∃ P,U8s l n P ∧ U8s l n P :=
 have h1 : U8s l n fun k => Int.ofNat (L.getD k 0):=fun k hk => xE h k (by omega)
 ⟨_,h1,h1⟩
def aBZ : gE:=g1 Xx fun p => ([(cV p.1 p.2.1 p.2.2).1 ≠ 0],.many [.im (.slice none 0 0),.im (.int .i64 (cV p.1 p.2.1 p.2.2).1)])
theorem WL {f : FuncId} {fn : Func} (hf : prog.funcs[f]? = some fn) {T : Tab} (hT : TabOk prog T) {s n : Nat} (h : ∀ p : dU,aU prog (qG prog) (Pf T s) fn n [.v (.fl (fA (p.1,p.2.1,p.2.2)))] = some (Tn p.1 p.2.1 p.2.2)) :
  ∀ cs pre r,aBZ cs = some (pre,r) → aL pre → ∀ (args : List Value) (w : World),bD w cs args → Good prog f r args w :=
 cM (op:=fun p => ([(cV p.1 p.2.1 p.2.2).1 ≠ 0],.many [.im (.slice none 0 0),.im (.int .i64 (cV p.1 p.2.1 p.2.2).1)])) qT fun p hp args w ha => aDC hf hT p (h p) hp.1 args w ha
def RI : gE
 | [] => some ([],.one (.im (.bool true)))
 | _ => none
theorem Cb : ∀ cs pre r,RI cs = some (pre,r) → aL pre → ∀ (args : List Value) (w : World),bD w cs args → Good prog 14 r args w:=by
 intro cs pre r hg hp args w ha;unfold RI at hg;split at hg
 ·cases hg;exact Nu args w ha
 ·cases hg
def U8e (l : List At) (n : Nat) : Prop:=∃ P,U8s l n P ∧ U8s l n P
theorem wD {B : Nat → Nat} (hB : ∀ k,B k < 256) : L8 (bN B):=⟨rfl,fun k => by
 rw [List.getD_eq_getElem?_getD];cases h : (bN B)[k]? with
 | none => exact Nat.succ_pos _
 | some v =>
  have:=List.mem_of_getElem? h;simp only [bN,List.mem_cons,List.not_mem_nil,or_false] at this;show v < 256
  rcases this with rfl | rfl | rfl | rfl | rfl | rfl | rfl | rfl | rfl | rfl | rfl | rfl | rfl | rfl | rfl | rfl | rfl | rfl | rfl | rfl | rfl | rfl | rfl | rfl | rfl | rfl | rfl | rfl | rfl | rfl | rfl | rfl <;> exact hB _⟩
theorem aFs {B C : Nat → Nat} (hB : ∀ k,B k < 256) (hC : ∀ k,C k < 256) : L6 (bN B ++ bN C):=⟨wD hB,wD hC⟩
def mB (n m k : Nat) : Nat:=bif Nat.beq k 0 then aM n 0 ||| 64 * m else aM n k
theorem XO (n m : Nat) : bm n m = bL (mB n m):=by kernel_rfl
theorem aGa (n : Nat) : bl n = bL (aM n):=by kernel_rfl
theorem xF (B : Nat → Nat) : lN (bL B) = some (bN B):=by kernel_rfl
theorem Nf : ∀ a,a < 64 → ∀ m,m < 4 → (a ||| 64 * m) / 64 = m ∧ (a ||| 64 * m) &&& 63 = a ∧ (a ||| 64 * m) < 256:=by decide +kernel
theorem aGh : ∀ a,a < 256 → (a &&& 63) ||| 64 * (a / 64) = a:=by decide +kernel
theorem No (B : Nat → Nat) : ∀ k,k < 32 → (bN B).getD k 0 = B k
 | 0,_ => rfl
 | 1,_ => rfl
 | 2,_ => rfl
 | 3,_ => rfl
 | 4,_ => rfl
 | 5,_ => rfl
 | 6,_ => rfl
 | 7,_ => rfl
 | 8,_ => rfl
 | 9,_ => rfl
 | 10,_ => rfl
 | 11,_ => rfl
 | 12,_ => rfl
 | 13,_ => rfl
 | 14,_ => rfl
 | 15,_ => rfl
 | 16,_ => rfl
 | 17,_ => rfl
 | 18,_ => rfl
 | 19,_ => rfl
 | 20,_ => rfl
 | 21,_ => rfl
 | 22,_ => rfl
 | 23,_ => rfl
 | 24,_ => rfl
 | 25,_ => rfl
 | 26,_ => rfl
 | 27,_ => rfl
 | 28,_ => rfl
 | 29,_ => rfl
 | 30,_ => rfl
 | 31,_ => rfl
 | k + 32,h => absurd h (by omega)
theorem MV {B C : Nat → Nat} (h : ∀ k,k < 32 → B k = C k) : bL B = bL C:=by
 unfold bL;rw [h 0 (by decide),h 1 (by decide),h 2 (by decide),h 3 (by decide),h 4 (by decide),h 5 (by decide),h 6 (by decide),h 7 (by decide),h 8 (by decide),h 9 (by decide),h 10 (by decide),h 11 (by decide),h 12 (by decide),h 13 (by decide),h 14 (by decide),h 15 (by decide),h 16 (by decide),h 17 (by decide),h 18 (by decide),h 19 (by decide),h 20 (by decide),h 21 (by decide),h 22 (by decide),h 23 (by decide),h 24 (by decide),h 25 (by decide),h 26 (by decide),h 27 (by decide),h 28 (by decide),h 29 (by decide),h 30 (by decide),h 31 (by decide)]
theorem Du {n : Nat} (h : n < FP.M) : aM n 0 < 64:=by
 have h : n < 21888242871839275222246405745257275088696311157297823662689037894645226208583:=Nat.lt_of_lt_of_eq h (by decide);unfold aM;show n / 452312848583266388373324160190187140051835877600158453279131187530910662656 % 256 < 64;omega
theorem aFk {n m : Nat} (h : n < FP.M) (hm : m < 4) (k : Nat) : mB n m k < 256:=by
 unfold mB;cases hk : Nat.beq k 0
 ·exact fH n k
 ·exact (Nf _ (Du h) m hm).2.2
theorem LA {n m : Nat} (h : n < FP.M) (hm : m < 4) : L8 (bN (mB n m)):=wD (aFk h hm)
theorem iB {n m : Nat} (h : n < FP.M) (hm : m < 4) : (bN (mB n m)).getD 0 0 / 64 = m:=(Nf _ (Du h) m hm).1
theorem aFy (B : Nat → Nat) : hv (bN B) = Go.Proofs.YtfnkbmlmgnadmaaGreat.jK B 0 32:=by
 unfold hv;exact uE 0 32 fun k hk => by rw [Nat.zero_add]; exact No B k hk
theorem aGj {k : Nat} (h : k ≠ 0) : Nat.beq k 0 = false:=by
 cases k with
 | zero => exact absurd rfl h
 | succ k => rfl
theorem TJ {n m : Nat} (h : n < FP.M) (hm : m < 4) : xv (hv (bN (mB n m))) = n:=by
 rw [← Xi (LA h hm)];have e : ∀ k,k < 32 → (zN (lB (bN (mB n m)))).getD k 0 = aM n k:=fun k hk => by
  by_cases h0 : k = 0
  ·subst h0;exact (Nf _ (Du h) m hm).2.1
  ·rw [Pj rfl h0,No _ k hk];unfold mB;rw [aGj h0,cond_false]
 have e2 : hv (zN (lB (bN (mB n m)))) = Go.Proofs.YtfnkbmlmgnadmaaGreat.jK (aM n) 0 32:=by
  unfold hv;exact uE 0 32 fun k hk => by rw [Nat.zero_add]; exact e k hk
 rw [e2];exact pJ (gM h)
theorem Km {n : Nat} (h : n < 115792089237316195423570985008687907853269984665640564039457584007913129639936) : hv (bN (aM n)) = n:=by
 rw [aFy];exact pJ h
theorem DY {B C : Nat → Nat} (hB : ∀ k,B k < 256) (hC : ∀ k,C k < 256) (s : Nat) : ∀ n,Go.Proofs.YtfnkbmlmgnadmaaGreat.jK B s n = Go.Proofs.YtfnkbmlmgnadmaaGreat.jK C s n → ∀ k,k < n → B (s + k) = C (s + k)
 | 0,_,k,hk => absurd hk (by omega)
 | n + 1,h,k,hk => by
  have h' : Go.Proofs.YtfnkbmlmgnadmaaGreat.jK B s n * 256 + B (s + n) = Go.Proofs.YtfnkbmlmgnadmaaGreat.jK C s n * 256 + C (s + n):=h;have b1:=hB (s + n);have b2:=hC (s + n)
  by_cases e : k = n
  ·subst e; omega
  ·exact DY hB hC s n (by omega) k (by omega)
theorem Xo {L : List Nat} (h8 : L8 L) : bL (lB L) = bm (xv (hv L)) (L.getD 0 0 / 64):=by
 rw [XO];refine MV fun k hk => ?_
 have hx : xv (hv L) < 115792089237316195423570985008687907853269984665640564039457584007913129639936:=Nat.lt_of_lt_of_le (Nat.mod_lt _ (by decide)) (by decide);have hz : Go.Proofs.YtfnkbmlmgnadmaaGreat.jK (fun k => (zN (lB L)).getD k 0) 0 32 = Go.Proofs.YtfnkbmlmgnadmaaGreat.jK (aM (xv (hv L))) 0 32:=(Xi h8).trans (pJ hx).symm;have e:=DY (aEj h8).2 (fH (xv (hv L))) 0 32 hz k hk;rw [Nat.zero_add] at e
 by_cases h0 : k = 0
 ·subst h0;have e0 : L.getD 0 0 &&& 63 = aM (xv (hv L)) 0:=e;show L.getD 0 0 = aM (xv (hv L)) 0 ||| 64 * (L.getD 0 0 / 64)
  rw [← e0];exact (aGh _ (h8.2 0)).symm
 ·rw [Pj h8.1 h0] at e;show L.getD k 0 = mB _ _ k;rw [e];unfold mB;rw [aGj h0,cond_false]
theorem aEy {L : List Nat} (h8 : L8 L) : bL (lB L) = bl (hv L):=by
 rw [aGa];refine MV fun k hk => ?_
 have e:=DY h8.2 (fH (hv L)) 0 32 (pJ (Kl h8)).symm k hk;rw [Nat.zero_add] at e;exact e
theorem qE (x : Nat) : wv x < 115792089237316195423570985008687907853269984665640564039457584007913129639936:=by
 have h:=fun i => Nat.mod_lt (x / 18446744073709551616 ^ i) (show 0 < 18446744073709551616 by decide)
 have h0:=h 0; have h1:=h 1; have h2:=h 2; have h3:=h 3;unfold wv aC fw;omega
theorem oL (x : Nat) : wv (wv x) = wv x:=oD (qE x)
theorem VW (x : Nat) : m1 (wv x) = m1 x:=Fin.ext (show wv (wv x) % FP.M = wv x % FP.M by rw [oL])
theorem DN {x : Nat} (h : wv x < FP.M) : (m1 x).1 = wv x:=Nat.mod_eq_of_lt h
theorem ED (X Y : Nat) (i : Bool) : aA (fA (wv X,wv Y,i)) = aA (fA (X,Y,i)):=by
 show w4 (wv X) ++ (w4 (wv Y) ++ _) = w4 X ++ (w4 Y ++ _);rw [← nI,← nI]
theorem tR {l : List At} {n cap : Nat} {e : Int} {p p' : dU} (h : aA (fA p) = aA (fA p')) (hr : R1 l n cap p e) : R1 l n cap p' e:=fun args w ha => jL h (hr args w ha)
theorem Mr {X Y : Nat} (h : (cV X Y false).1 = 0) : F1.mul (m1 Y) (m1 Y) = kP true X:=by
 obtain ⟨hX,hY⟩:=EP (p:=(X,Y,false)) h rfl;apply Classical.byContradiction;intro hn;have:=EO hX hY hn;rw [h] at this;cases this
theorem Dd (X : Nat) : kP true (wv X) = kP true X:=by rw [FV,FV,VW]
theorem Nm {X Y : Nat} {i : Bool} (h : (cV X Y i).1 = 0) (cap : Nat) (hc : 32 ≤ cap) : R1 (bm (wv X) (nK (dA FP.M (wv Y)) i)) 32 cap (X,Y,i) 0:=by
 cases i
 ·obtain ⟨hX,hY⟩:=EP (p:=(X,Y,false)) h rfl;have hX : wv X < FP.M:=hX;have hY : wv Y < FP.M:=hY;have hon:=Mr h;rw [← Dd] at hon;refine tR (ED X Y false) ?_;rw [← DN hY];rw [show dA FP.M (m1 Y).1 = eR (m1 Y) from rfl];generalize m1 Y = y at hon;generalize wv X = N at hX hon;have hwN : wv N = N:=oD (gM hX);have hs : dV (kP true N):=⟨y,hon⟩;cases hl : eR y
  ·have hl':=mV hl;have hy : fR (kP true N) = F1.neg y:=kF (by rw [F1.neg_mul,F1.mul_neg,F1.neg_neg]; exact hon) hl';show R1 (bm N 3) 32 cap (N,y.1,false) 0;have hx:=TJ (m:=3) hX (by decide);have hbys : lN (bm N 3) = some (bN (mB N 3)):=by rw [XO]; exact xF _
   have hq:=fun q args w ha => JG (c:=cap) true true true hbys (LA hX (by decide)) (iB hX (by decide)) hc (by rw [hx]; exact ⟨by rw [cond_true,hwN]; exact hX,hs,trivial⟩) q args w ha
   rw [hx,Zq,vH,hy,F1.neg_neg] at hq;exact gB (rW (by rw [hwN]; exact hX) (rX y) (by rw [Br]; exact hon)) hq
  ·have hy : fR (kP true N) = y:=kF hon hl;show R1 (bm N 2) 32 cap (N,y.1,false) 0;have hx:=TJ (m:=2) hX (by decide);have hbys : lN (bm N 2) = some (bN (mB N 2)):=by rw [XO]; exact xF _
   have hq:=fun q args w ha => PX (c:=cap) true true true hbys (LA hX (by decide)) (iB hX (by decide)) hc (by rw [hx]; exact ⟨by rw [cond_true,hwN]; exact hX,hs,trivial⟩) q args w ha
   rw [hx,Zr,vH,hy] at hq;exact gB (rW (by rw [hwN]; exact hX) (rX y) (by rw [Br]; exact hon)) hq
 ·obtain ⟨hX,hY⟩:=wM h;refine tR (ED X Y true) ?_;rw [hX,hY];show R1 (bm 0 1) 32 cap (0,0,true) 0;have hx:=TJ (n:=0) (m:=1) bW (by decide);have hbys : lN (bm 0 1) = some (bN (mB 0 1)):=by rw [XO]; exact xF _
  have hq:=fun q args w ha => PY (c:=cap) true hbys (LA bW (by decide)) (iB bW (by decide)) hc q args w ha
  rw [hx] at hq;exact gB (kL (by kernel_rfl) (by kernel_rfl)) hq
theorem xG (N m M : Nat) : lN (bm N m ++ bl M) = some (bN (mB N m) ++ bN (aM M)):=by kernel_rfl
theorem LB {N m M : Nat} (h : N < FP.M) (hm : m < 4) : L6 (bN (mB N m) ++ bN (aM M)):=⟨LA h hm,wD (fH M)⟩
theorem LM {N m M : Nat} (h : N < FP.M) (hm : m < 4) : hi (bN (mB N m) ++ bN (aM M)) = N:=TJ h hm
theorem KZ {N m M : Nat} (h : M < 115792089237316195423570985008687907853269984665640564039457584007913129639936) : lo (bN (mB N m) ++ bN (aM M)) = M:=Km h
theorem Nn {X Y : Nat} {i : Bool} (h : (cV X Y i).1 = 0) (cap : Nat) (hc : 64 ≤ cap) : R1 (bm (wv X) (bif i then 1 else 0) ++ bl (wv Y)) 64 cap (X,Y,i) 0:=by
 cases i
 ·obtain ⟨hX,hY⟩:=EP (p:=(X,Y,false)) h rfl;have hX : wv X < FP.M:=hX;have hY : wv Y < FP.M:=hY;have hon:=Mr h;refine tR (ED X Y false) ?_;show R1 (bm (wv X) 0 ++ bl (wv Y)) 64 cap (wv X,wv Y,false) 0;have hq:=fun q args w ha => tQ (c:=cap) true (xG (wv X) 0 (wv Y)) (LB hX (by decide)) (iB hX (by decide)) hc q args w ha
  rw [LM hX (by decide),KZ (qE Y)] at hq;exact gB (rW (by rw [oL]; exact hX) (by rw [oL]; exact hY) (by rw [VW,Dd]; exact hon)) hq
 ·obtain ⟨hX,hY⟩:=wM h;refine tR (ED X Y true) ?_;rw [hX,hY];show R1 (bm 0 1 ++ bl 0) 64 cap (0,0,true) 0;have hq:=fun q args w ha => PV (c:=cap) true (xG 0 1 0) (LB bW (by decide)) (iB bW (by decide)) hc q args w ha
  rw [LM bW (by decide),KZ (by decide)] at hq;exact gB (kL (by kernel_rfl) (by kernel_rfl)) hq
def XY (l : List At) (f : dU → List At) (P : dU) (e : Int) : Prop:=(e ≠ 0 ∧ P = (0,0,false)) ∨ (e = 0 ∧ (cV P.1 P.2.1 P.2.2).1 = 0 ∧ aA l = aA (f P))
def fS (P : dU) : List At:=bm (wv P.1) (nK (dA FP.M (wv P.2.1)) P.2.2)
def fL (P : dU) : List At:=bm (wv P.1) (bif P.2.2 then 1 else 0) ++ bl (wv P.2.1)
theorem Ln {l : List At} {f : dU → List At} {X Y : Nat} {i : Bool} (hc : (cV X Y i).1 = 0) (hf : aA l = aA (f (X,Y,i))) : XY l f (X,Y,i) 0:=Or.inr ⟨rfl,hc,hf⟩
theorem aFK (X Y : Nat) (i : Bool) : fS (X,Y,i) = bm (wv X) (nK (dA FP.M (wv Y)) i):=rfl
theorem UE {l : List At} {X Y m : Nat} (hc : (cV X Y false).1 = 0) (ho : ∀ cap,32 ≤ cap → R1 l 32 cap (X,Y,false) 0) (hm : nK (dA FP.M (wv Y)) false = m) (hf : aA l = aA (bm (wv X) m)) : ∃ P e,(∀ cap,32 ≤ cap → R1 l 32 cap P e) ∧ XY l fS P e :=
 ⟨(X,Y,false),0,ho,Ln hc (by rw [aFK,hm]; exact hf)⟩
theorem aEk {X : Nat} {y : Fq} (h : F1.mul y y = kP true X) : y ≠ F1.zero:=fun e => by
 rw [e,F1.mul_zero,FV,F1.mul_comm (F1.mul (m1 X) (m1 X))] at h;exact ec1.odd (m1 X) h.symm
theorem Bs {y : Fq} (h : y ≠ F1.zero) (hl : eR y = true) : dA FP.M (wv (F1.neg y).1) = false:=by
 rw [show wv (F1.neg y).1 = (F1.neg y).1 from aZ (F1.neg y).2];show eR (F1.neg y) = false;cases h2 : eR (F1.neg y)
 ·rfl
 ·exact absurd (pG hl h2) h
theorem Qh {c : Bool} (h : c = true) : nK c false = 2:=by rw [h]; rfl
theorem Qg {c : Bool} (h : c = false) : nK c false = 3:=by rw [h]; rfl
theorem Vm {l : List At} {L : List Nat} (hL : lN l = some L) (h8 : L8 L) : ∃ P e,(∀ cap,32 ≤ cap → R1 l 32 cap P e) ∧ XY l fS P e:=by
 have hfl : aA l = aA (bm (xv (hv L)) (L.getD 0 0 / 64)):=by rw [← Xo h8]; exact xP hL h8.1
 rcases VV h8 with hb | hb | hb | hb
 ·exact ⟨(0,0,false),44,fun cap hc args w ha => jL jC (UH hL h8 hb hc args w ha),Or.inl ⟨by decide,rfl⟩⟩
 ·by_cases hx : xv (hv L) = 0
  ·refine ⟨(0,0,true),0,fun cap hc => ?_,Or.inr ⟨rfl,kL (by kernel_rfl) (by kernel_rfl),?_⟩⟩
   ·have hq:=fun q args w ha => PY (c:=cap) true hL h8 hb hc q args w ha
    rw [hx] at hq;exact gB (kL (by kernel_rfl) (by kernel_rfl)) hq
   ·rw [hfl,hb,hx]
    kernel_rfl
  ·have hck : (cV (xv (hv L)) 0 true).1 = 44:=MO fun q => hx (by rw [← TK]; exact q.1)
   exact ⟨(0,0,false),44,fun cap hc => eQ hck (by decide) fun hp => fun args w ha => PY false hL h8 hb hc hp args w ha,Or.inl ⟨by decide,rfl⟩⟩
 ·rw [hb] at hfl;have hxx:=TK (hv L);have hours:=fun (k d a : Bool) (hg : aL (Kx 2 k d (xv (hv L)))) (cap : Nat) (hc : 32 ≤ cap) q args w ha => PX (c:=cap) k d a hL h8 hb hc hg q args w ha
  generalize xv (hv L) = X at *
  by_cases hk : wv X < FP.M
  ·by_cases hs : dV (kP true X)
   ·have hsp:=eT hs;have hrt : NF true (kP true X) = fR (kP true X):=vH _;have hg : aL (Kx 2 true true X):=⟨hk,hs,trivial⟩;generalize hy : fR (kP true X) = y at *;have hyx : yX 2 true true X = y:=by rw [Zr,hrt]
    have ho:=hours true true true hg;rw [hyx] at ho;have hc2 : (cV X y.1 false).1 = 0:=rW hk (rX y) (by rw [Br]; exact hsp.1);exact UE hc2 (fun cap hc => gB hc2 (ho cap hc)) (Qh (by rw [show wv y.1 = y.1 from aZ y.2]; exact hsp.2)) (by rw [hxx]; exact hfl)
   ·have hg : aL (Kx 2 true false X):=⟨hk,hs,trivial⟩;obtain ⟨z,hz⟩ : ∃ z,z = F1.zero:=⟨_,rfl⟩
    have hyx : yX 2 true false X = z:=(aEm 2 (by decide) true X).trans hz.symm;have hz2 : F1.mul z z = F1.zero:=by rw [hz,F1.mul_zero]
    have hne : F1.mul (m1 z.1) (m1 z.1) ≠ kP true X:=fun e => hs (by rw [← e,Br,hz2]; exact LI)
    have ho:=hours true false false hg;rw [hyx] at ho;exact ⟨(0,0,false),41,fun cap hc => eQ (EO hk (rX z) hne) (by decide) (ho cap hc),Or.inl ⟨by decide,rfl⟩⟩
  ·have hc5 : ∀ y,(cV X y false).1 = 21:=fun y => RW fun q => hk q.1
   by_cases hs : dV (kP false X)
   ·exact ⟨(0,0,false),21,fun cap hc => eQ (hc5 _) (by decide) (hours false true false ⟨hk,hs,trivial⟩ cap hc),Or.inl ⟨by decide,rfl⟩⟩
   ·exact ⟨(0,0,false),21,fun cap hc => eQ (hc5 _) (by decide) (hours false false false ⟨hk,hs,trivial⟩ cap hc),Or.inl ⟨by decide,rfl⟩⟩
 ·rw [hb] at hfl;have hxx:=TK (hv L);have hours:=fun (k d a : Bool) (hg : aL (Kx 3 k d (xv (hv L)))) (cap : Nat) (hc : 32 ≤ cap) q args w ha => JG (c:=cap) k d a hL h8 hb hc hg q args w ha
  generalize xv (hv L) = X at *
  by_cases hk : wv X < FP.M
  ·by_cases hs : dV (kP true X)
   ·have hsp:=eT hs;have hrt : NF true (kP true X) = fR (kP true X):=vH _;have hg : aL (Kx 3 true true X):=⟨hk,hs,trivial⟩;generalize hy : fR (kP true X) = y at *;have hyx : yX 3 true true X = F1.neg y:=by rw [Zq,hrt]
    have ho:=hours true true true hg;rw [hyx] at ho;have hc3 : (cV X (F1.neg y).1 false).1 = 0:=rW hk (rX _) (by rw [Br,F1.neg_mul,F1.mul_neg,F1.neg_neg]; exact hsp.1);exact UE hc3 (fun cap hc => gB hc3 (ho cap hc)) (Qg (Bs (aEk hsp.1) hsp.2)) (by rw [hxx]; exact hfl)
   ·have hg : aL (Kx 3 true false X):=⟨hk,hs,trivial⟩;obtain ⟨z,hz⟩ : ∃ z,z = F1.zero:=⟨_,rfl⟩
    have hyx : yX 3 true false X = z:=(aEm 3 (by decide) true X).trans hz.symm;have hz2 : F1.mul z z = F1.zero:=by rw [hz,F1.mul_zero]
    have hne : F1.mul (m1 z.1) (m1 z.1) ≠ kP true X:=fun e => hs (by rw [← e,Br,hz2]; exact LI)
    have ho:=hours true false false hg;rw [hyx] at ho;exact ⟨(0,0,false),41,fun cap hc => eQ (EO hk (rX z) hne) (by decide) (ho cap hc),Or.inl ⟨by decide,rfl⟩⟩
  ·have hc5 : ∀ y,(cV X y false).1 = 21:=fun y => RW fun q => hk q.1
   by_cases hs : dV (kP false X)
   ·exact ⟨(0,0,false),21,fun cap hc => eQ (hc5 _) (by decide) (hours false true false ⟨hk,hs,trivial⟩ cap hc),Or.inl ⟨by decide,rfl⟩⟩
   ·exact ⟨(0,0,false),21,fun cap hc => eQ (hc5 _) (by decide) (hours false false false ⟨hk,hs,trivial⟩ cap hc),Or.inl ⟨by decide,rfl⟩⟩
theorem Vl {l : List At} {L : List Nat} (hL : lN l = some L) (h6 : L6 L) : ∃ P e,(∀ cap,64 ≤ cap → R1 l 64 cap P e) ∧ XY l fL P e:=by
 have hfl : aA l = aA (bm (hi L) ((L.take 32).getD 0 0 / 64) ++ bl (lo L)):=by
  rw [jT hL h6,aH,aH];have e1 : bL (fun k => (L.take 32).getD k 0) = bm (hi L) ((L.take 32).getD 0 0 / 64):=Xo h6.1;have e2 : bL (fun k => (L.drop 32).getD k 0) = bl (lo L):=aEy h6.2;rw [e1,e2]
 rcases VV h6.1 with hb | hb | hb | hb
 ·by_cases hk : wv (hi L) < FP.M ∧ wv (lo L) < FP.M
  ·by_cases hs : F1.mul (m1 (lo L)) (m1 (lo L)) = kP true (hi L)
   ·have hc:=rW hk.1 hk.2 hs;refine ⟨(hi L,lo L,false),0,fun cap hcap => gB hc fun q args w ha => tQ true hL h6 hb hcap q args w ha,Or.inr ⟨rfl,hc,?_⟩⟩;show aA l = aA (bm (wv (hi L)) 0 ++ bl (wv (lo L)));rw [Dh,Dg h6,hfl,hb]
   ·have hc:=EO hk.1 hk.2 hs;exact ⟨(0,0,false),41,fun cap hcap => eQ hc (by decide) fun q args w ha => tQ false hL h6 hb hcap q args w ha,Or.inl ⟨by decide,rfl⟩⟩
  ·have hc:=RW hk;exact ⟨(0,0,false),21,fun cap hcap => eQ hc (by decide) fun q args w ha => tQ false hL h6 hb hcap q args w ha,Or.inl ⟨by decide,rfl⟩⟩
 ·by_cases hz : hi L = 0 ∧ lo L = 0
  ·obtain ⟨e1,e2⟩:=hz;have hc : (cV (hi L) (lo L) true).1 = 0:=kL (by rw [Dh]; exact e1) (by rw [Dg h6]; exact e2);refine ⟨(0,0,true),0,fun cap hcap => ?_,Or.inr ⟨rfl,kL (by kernel_rfl) (by kernel_rfl),?_⟩⟩
   ·have:=gB (l:=l) (n:=64) (cap:=cap) hc fun q args w ha => PV true hL h6 hb hcap q args w ha
    rw [e1,e2] at this;exact this
   ·rw [hfl,hb,e1,e2]
    kernel_rfl
  ·have hc : (cV (hi L) (lo L) true).1 = 44:=MO fun q => hz ⟨by rw [← Dh]; exact q.1,by rw [← Dg h6]; exact q.2⟩
   exact ⟨(0,0,false),44,fun cap hcap => eQ hc (by decide) fun q args w ha => PV false hL h6 hb hcap q args w ha,Or.inl ⟨by decide,rfl⟩⟩
 ·exact ⟨(0,0,false),44,fun cap hcap args w ha => jL jC (UF (Or.inl rfl) hL h6 hb hcap args w ha),Or.inl ⟨by decide,rfl⟩⟩
 ·exact ⟨(0,0,false),44,fun cap hcap args w ha => jL jC (UF (Or.inr rfl) hL h6 hb hcap args w ha),Or.inl ⟨by decide,rfl⟩⟩
def jN (x : N2) : N2:=(wv x.1,wv x.2)
theorem DL (x : N2) : m2 (jN x) = m2 x:=Prod.ext (VW x.1) (VW x.2)
theorem XP (x : N2) : iH (jN x) ↔ iH x:=by
 unfold iH jN;rw [oL,oL]
theorem TH (x : N2) : yF (jN x) ↔ yF x:=by
 unfold yF jN;rw [oL,oL]
theorem XI (x y : N2) (i : Bool) : fM (jN x) (jN y) i = fM x y i:=by
 rw [iV (jN x),iV x,DL,DL];have e1 : (yF (jN x) ∧ yF (jN y)) ↔ (yF x ∧ yF y):=by rw [TH,TH]
 have e2 : (¬ (iH (jN x) ∧ iH (jN y))) ↔ ¬ (iH x ∧ iH y):=by rw [XP,XP]
 by_cases hi : i = true
 ·rw [if_pos hi,if_pos hi]
  by_cases h : yF x ∧ yF y
  ·rw [if_pos h,if_pos (e1.2 h)]
  ·rw [if_neg h,if_neg (fun q => h (e1.1 q))]
 ·rw [if_neg hi,if_neg hi]
  by_cases h : ¬ (iH x ∧ iH y)
  ·rw [if_pos h,if_pos (e2.2 h)]
  ·rw [if_neg h,if_neg (fun q => h (e2.1 q))]
theorem Kk (x y : N2) (i : Bool) : iC (jN x,jN y,i) = iC (x,y,i):=by
 have h : iC (jN x,jN y,i) = true ↔ iC (x,y,i) = true:=by
  rw [WG,WG];have e1 : dT (jN x,jN y,i) = dT (x,y,i):=XI x y i;have e2 : Zu (jN x,jN y,i) = Zu (x,y,i):=by
   unfold Zu;simp only [DL]
  rw [e1,e2]
 cases h1 : iC (jN x,jN y,i) <;> cases h2 : iC (x,y,i) <;> simp_all
theorem MP (x y : N2) (i : Bool) : cF (jN x,jN y,i) = cF (x,y,i):=by
 rw [pU,pU,Kk];show (if (fM (jN x) (jN y) i).1 ≠ 0 then (fM (jN x) (jN y) i).1 else _) = (if (fM x y i).1 ≠ 0 then (fM x y i).1 else _);rw [XI]
theorem uF (x y : N2) (i : Bool) : aA (cS (jN x,jN y,i)) = aA (cS (x,y,i)):=by
 show w4 (wv x.1) ++ (w4 (wv x.2) ++ (w4 (wv y.1) ++ (w4 (wv y.2) ++ _))) = w4 x.1 ++ (w4 x.2 ++ (w4 y.1 ++ (w4 y.2 ++ _)));rw [← nI,← nI,← nI,← nI]
theorem tN {l : List At} {n cap : Nat} {e : Int} {p p' : bY} (h : aA (cS p) = aA (cS p')) (hr : S1 l n cap p e) : S1 l n cap p' e:=fun args w ha => jL h (hr args w ha)
theorem Mo {x y : N2} (h : (fM x y false).1 = 0) : iH x ∧ iH y ∧ F2.mul (m2 y) (m2 y) = Cs (m2 x):=by
 by_cases hb : iH x ∧ iH y
 ·refine ⟨hb.1,hb.2,Classical.byContradiction fun hn => ?_⟩;have:=Wa hb.1 hb.2 hn;rw [h] at this;cases this
 ·have:=Wb hb;rw [h] at this;cases this
theorem Jb {y : N2} (h : iH y) : Jd (m2 y) = jN y:=Prod.ext (DN h.1) (DN h.2)
theorem Tz (y : N2) : AF (jN y) = AF y:=by
 unfold AF jN;rw [oL,oL]
theorem Jt {r : Q2} (hl : ¬ tH r) : tH (F2.neg r):=by
 refine ⟨fun e => ?_,fun e => ?_⟩
 ·have e2 : r.2 = F1.zero:=by rw [← F1.neg_neg r.2,show F1.neg r.2 = F1.zero from e,bM]
  by_cases h1 : eR r.1 = true
  ·exact absurd ⟨fun _ => h1,fun n => absurd e2 n⟩ hl
  ·exact mV (by simpa using h1)
 ·have e2 : r.2 ≠ F1.zero:=fun z => e (by show F1.neg r.2 = F1.zero; rw [z,bM])
  by_cases h1 : eR r.2 = true
  ·exact absurd ⟨fun z => absurd z e2,fun _ => h1⟩ hl
  ·exact mV (by simpa using h1)
theorem aFt {x : N2} {m : Nat} (h : iH x) (hm : m < 4) : L6 (bN (mB (wv x.2) m) ++ bN (aM (wv x.1))):=LB h.2 hm
theorem aEs {x : N2} {m : Nat} (h : iH x) (hm : m < 4) : x6 (bN (mB (wv x.2) m) ++ bN (aM (wv x.1))) = jN x:=Prod.ext (KZ (qE x.1)) (LM h.2 hm)
theorem Nk {x y : N2} {i : Bool} (h : cF (x,y,i) = 0) (cap : Nat) (hc : 64 ≤ cap) : S1 (bm2 x (nK (AF y) i)) 64 cap (x,y,i) 0:=by
 cases i
 ·obtain ⟨hx,hy,hon⟩:=Mo (uK h);refine tN (uF x y false) ?_;rw [← MP] at h;rw [← Tz,← Jb hy];rw [← Jb hy] at h;rw [← DL x] at hon;generalize m2 y = z at *;have hs : rN (Cs (m2 (jN x))):=⟨z,hon⟩;cases hl : AF (Jd z)
  ·have hnl : ¬ tH z:=fun q => by rw [(Jr z).2 q] at hl; cases hl
   have hr : rt (Cs (m2 (jN x))) = F2.neg z:=zH ((VT z).trans hon) (Jt hnl);show S1 (bm (wv x.2) 3 ++ bl (wv x.1)) 64 cap (jN x,Jd z,false) 0;have hX:=aEs (m:=3) hx (by decide);have hq:=fun q args w ha => UJ (c:=cap) (Or.inr rfl) true true (xG (wv x.2) 3 (wv x.1)) (aFt hx (by decide)) (iB hx.2 (by decide)) hc (by rw [hX]; exact ⟨hs,trivial⟩) q args w ha
   rw [hX,aEn,Xw,hr,F2.neg_neg] at hq;exact pB h hq
  ·have hr : rt (Cs (m2 (jN x))) = z:=zH hon ((Jr z).1 hl);show S1 (bm (wv x.2) 2 ++ bl (wv x.1)) 64 cap (jN x,Jd z,false) 0;have hX:=aEs (m:=2) hx (by decide);have hq:=fun q args w ha => UJ (c:=cap) (Or.inl rfl) true true (xG (wv x.2) 2 (wv x.1)) (aFt hx (by decide)) (iB hx.2 (by decide)) hc (by rw [hX]; exact ⟨hs,trivial⟩) q args w ha
   rw [hX,aEo,Xw,hr] at hq;exact pB h hq
 ·obtain ⟨⟨h1,h2⟩,h3,h4⟩:=rO h;refine tN (uF x y true) ?_;unfold bm2 jN;rw [show wv x.1 = 0 from h1,show wv x.2 = 0 from h2,show wv y.1 = 0 from h3,show wv y.2 = 0 from h4];show S1 (bm 0 1 ++ bl 0) 64 cap ((0,0),(0,0),true) 0;have hq:=fun q args w ha => aAB (c:=cap) true (xG 0 1 0) (LB bW (by decide)) (iB bW (by decide)) hc q args w ha
  rw [show x6 (bN (mB 0 1) ++ bN (aM 0)) = (0,0) from Prod.ext (KZ (by decide)) (LM bW (by decide))] at hq;exact pB XK hq
def q4L (a m b c d : Nat) : List Nat:=((bN (mB a m) ++ bN (aM b)) ++ bN (aM c)) ++ bN (aM d)
theorem XM (a m b c d : Nat) : lN (((bm a m ++ bl b) ++ bl c) ++ bl d) = some (q4L a m b c d):=by kernel_rfl
theorem CM (a m b c d : Nat) : (q4L a m b c d).take 64 = bN (mB a m) ++ bN (aM b):=by kernel_rfl
theorem UL (a m b c d : Nat) : (q4L a m b c d).drop 64 = bN (aM c) ++ bN (aM d):=by kernel_rfl
theorem Ya {a m b c d : Nat} (h : a < FP.M) (hm : m < 4) : LL (q4L a m b c d):=by
 unfold LL;rw [CM,UL];exact ⟨LB h hm,wD (fH c),wD (fH d)⟩
theorem UK {a m b c d : Nat} (h : a < FP.M) (hm : m < 4) : (((q4L a m b c d).take 64).take 32).getD 0 0 / 64 = m:=by
 rw [CM];exact iB h hm
theorem aEM {a m b c d : Nat} (h : a < FP.M) (hm : m < 4) (hb : b < 115792089237316195423570985008687907853269984665640564039457584007913129639936) : Pd (q4L a m b c d) = (b,a):=by
 unfold Pd i4 h4;rw [CM];exact Prod.ext (KZ hb) (LM h hm)
theorem aEL {a m b c d : Nat} (hc : c < 115792089237316195423570985008687907853269984665640564039457584007913129639936) (hd : d < 115792089237316195423570985008687907853269984665640564039457584007913129639936) : Pc (q4L a m b c d) = (d,c):=by
 unfold Pc j4 k4;rw [UL];exact Prod.ext (Km hd) (Km hc)
theorem Nl {x y : N2} {i : Bool} (h : cF (x,y,i) = 0) (cap : Nat) (hc : 128 ≤ cap) : S1 (l2L x y (bif i then 1 else 0)) 128 cap (x,y,i) 0:=by
 cases i
 ·obtain ⟨hx,hy,hon⟩:=Mo (uK h);refine tN (uF x y false) ?_;rw [← MP] at h;show S1 (((bm (wv x.2) 0 ++ bl (wv x.1)) ++ bl (wv y.2)) ++ bl (wv y.1)) 128 cap (jN x,jN y,false) 0;have hq:=fun q args w ha => Gq (c:=cap) true (XM (wv x.2) 0 (wv x.1) (wv y.2) (wv y.1)) (Ya hx.2 (by decide)) (UK hx.2 (by decide)) hc q args w ha
  rw [aEM hx.2 (by decide) (qE x.1),aEL (qE y.2) (qE y.1)] at hq;exact pB h hq
 ·obtain ⟨⟨h1,h2⟩,h3,h4⟩:=rO h;refine tN (uF x y true) ?_;unfold l2L jN;rw [show wv x.1 = 0 from h1,show wv x.2 = 0 from h2,show wv y.1 = 0 from h3,show wv y.2 = 0 from h4];show S1 (((bm 0 1 ++ bl 0) ++ bl 0) ++ bl 0) 128 cap ((0,0),(0,0),true) 0;have hq:=fun q args w ha => Ry (c:=cap) true (XM 0 1 0 0 0) (Ya bW (by decide)) (UK bW (by decide)) hc q args w ha
  rw [aEM bW (by decide) (by decide),aEL (by decide) (by decide)] at hq;exact pB XK hq
def Lk : gE:=g1 As fun p => ([cF p ≠ 0],.many [.im (.slice none 0 0),.im (.int .i64 (cF p))])
theorem LT {f : FuncId} {fn : Func} (hf : prog.funcs[f]? = some fn) {T : Tab} (hT : TabOk prog T) {s n : Nat} (h : ∀ p : bY,aU prog (qG prog) (Pf T s) fn n [.v (.fl (cS p))] = some (VP p)) :
  ∀ cs pre r,Lk cs = some (pre,r) → aL pre → ∀ (args : List Value) (w : World),bD w cs args → Good prog f r args w :=
 cM (op:=fun p => ([cF p ≠ 0],.many [.im (.slice none 0 0),.im (.int .i64 (cF p))])) iN fun p hp args w ha => Wo hf hT p (h p) hp.1 args w ha
def vB (B : Nat → Nat) (n : Nat) : List Value:=(List.range n).map fun k => .int .u8 (Int.ofNat (B k))
def aB (B : Nat → Nat) (n : Nat) : List At:=(List.range n).map fun k => .c (.int .u8 (Int.ofNat (B k)))
theorem wV : ∀ (r : List Nat) (B : Nat → Nat),aA (r.map fun k => At.c (.int .u8 (Int.ofNat (B k)))) = r.map fun k => Value.int .u8 (Int.ofNat (B k))
 | [],_ => rfl
 | a :: r,B => congrArg (Value.int .u8 (Int.ofNat (B a)) :: ·) (wV r B)
theorem Ww (B : Nat → Nat) (n : Nat) : aA (aB B n) = vB B n:=wV _ _
theorem Zw (B : Nat → Nat) (n : Nat) : (vB B n).length = n:=by unfold vB; simp
theorem Zx (B : Nat → Nat) (n k : Nat) (hk : k < n) : (vB B n)[k]? = some (.int .u8 (Int.ofNat (B k))):=by unfold vB; simp [hk]
theorem aHy {f : FuncId} {v : Value} {r : RV} (h : ∀ w,Good prog f r [v] w) : qC f [.v (.im v)] r:=fun args w ha => by
 match args,ha with
 | [u],ha =>
  have e : u = v:=ha.1;subst e;exact h w
 | [],ha => exact ha.elim
 | _ :: _ :: _,ha => exact ha.2.elim
theorem aGm (B : Nat → Nat) : aA (bL B) = vB B 32:=by kernel_rfl
theorem Ze (B : Nat → Nat) : aA (bL B ++ bL fun k => B (32 + k)) = vB B 64:=by kernel_rfl
def oLA (p : dU) : FS:=⟨fL p,64,5,1,true,[],[.im (.int .i64 0)]⟩
theorem QH (c : Bool) (p : dU) (hp : aL (QQ c p)) (args : List Value) (w : World) (ha : bD w [.v (.fl (fA p))] args) : Calls prog 19 args.toArray w (fun e w' => (oLA p).ok w e w'):=by
 obtain ⟨h0,h1,h2,_⟩:=hp;obtain ⟨x,y,i⟩:=p;cases i
 ·exact bE aG (fun _ _ => (zX true true).w _ _) (jF w) func19 (Fj x y) ⟨h0,by decide,trivial⟩ ha
 ·exact bE aG (fun _ _ => (zX true true).w _ _) (jF w) func19 (Fi x y) ⟨h0,by decide,trivial⟩ ha
def aFb (c : Bool) (p : bY) : FS:=⟨bm2 p.1 (nK c p.2.2),64,5,1,true,[],[.im (.int .i64 0)]⟩
def aFc (p : bY) : FS:=⟨l2L p.1 p.2.1 (bif p.2.2 then 1 else 0),128,5,1,true,[],[.im (.int .i64 0)]⟩
theorem Sd (c : Bool) (p : bY) (hp : aL (DD c p)) (args : List Value) (w : World) (ha : bD w [.v (.fl (cS p))] args) : Calls prog 6 args.toArray w (fun e w' => (aFb c p).ok w e w'):=by
 obtain ⟨h0,h1,h2,h3,_⟩:=hp;obtain ⟨x,y,i⟩:=p;have hl : aL (Be c y):=⟨h1,h2,h3,trivial⟩;cases i
 ·exact bE aG (fun _ _ => (rF true c).w _ _) (jF w) func6 (ZD x y c) (aW.2 ⟨aW.2 ⟨⟨h0,trivial⟩,hl⟩,Xu c,trivial⟩) ha
 ·exact bE aG (fun _ _ => (rF true c).w _ _) (jF w) func6 (ZC x y c) (aW.2 ⟨aW.2 ⟨⟨h0,trivial⟩,hl⟩,by decide,trivial⟩) ha
theorem Sv (c : Bool) (p : bY) (hp : aL (DD c p)) (args : List Value) (w : World) (ha : bD w [.v (.fl (cS p))] args) : Calls prog 8 args.toArray w (fun e w' => (aFc p).ok w e w'):=by
 obtain ⟨h0,h1,h2,h3,_⟩:=hp;obtain ⟨x,y,i⟩:=p;cases i
 ·exact bE aG (fun _ _ => (rF true true).w _ _) (jF w) func8 (ZF x y) ⟨h0,by decide,trivial⟩ ha
 ·exact bE aG (fun _ _ => (rF true true).w _ _) (jF w) func8 (ZE x y) ⟨h0,by decide,trivial⟩ ha
def xA1 (c : Bool) : Ext:=x3 ((TD.add 18 (gFS (QQ c) (oSA c))).add 19 (gFS (QQ c) oLA)) FQ (fun _ => none) (fun _ => none)
theorem BI (c : Bool) (w : World) : bU prog (qY prog (xA1 c)) w.heap.size w:=lG (((hJ _).ad func18 (RG fun p hp args w ha => CO c p hp args w ha)).ad func19 (RG fun p hp args w ha => QH c p hp args w ha)) (fZ _) w
def xA2 (c : Bool) : Ext:=x3 ((TD.add 6 (Va (DD c) (aFb c))).add 8 (Va (DD c) aFc)) FQ (fun _ => none) (fun _ => none)
theorem BH (c : Bool) (w : World) : bU prog (qY prog (xA2 c)) w.heap.size w:=lG (((hJ _).ad func6 (WK fun p hp args w ha => Sd c p hp args w ha)).ad func8 (WK fun p hp args w ha => Sv c p hp args w ha)) (fZ _) w
def fN : Tab:=((T0.add 10 WI).add 14 RI).add 13 RF
theorem jI : TabOk prog fN:=(((eW _).ad func10 LQ).ad func14 Cb).ad func13 Ca
def yC : Tab:=(((fN.add 18 aBZ).add 19 aBZ).add 6 Lk).add 8 Lk
theorem Yj : TabOk prog yC:=(((jI.ad func18 (WL func18 (zX false true) fun p => OT p.1 p.2.1 p.2.2)).ad func19 (WL func19 (zX false true) fun p => OU p.1 p.2.1 p.2.2)).ad func6 (LT func6 (rF false true) fun p => IG p)).ad func8 (LT func8 (rF false true) fun p => IS p)
def Ov (p : dU) (e : Int) : Tab:=fN.add 20 (WJ 20 (.many [.fl (fA p),.im (.int .i64 e)]))
theorem AA (p : dU) (e : Int) : TabOk prog (Ov p e):=jI.ad func20 (wP _ _)
def aDV (p : bY) : Tab:=fN.add 16 (WJ 16 (.many [.fl (cS p),.im (.int .i64 0)]))
theorem Yk (p : bY) : TabOk prog (aDV p):=jI.ad func16 (wP _ _)
def bk : Nat → Code
 | 0 => (f5.body).getD .skip
 | n + 1 => cB (bk n)
theorem aGg : bk 0 = .seq (cA (bk 0)) (bk 1):=by kernel_rfl
theorem aGf : bk 1 = .seq (cA (bk 1)) (bk 2):=by kernel_rfl
theorem aGe : bk 2 = .seq (cA (bk 2)) (bk 3):=by kernel_rfl
theorem Wj : bk 3 = .seq (cA (bk 3)) (bk 4):=by kernel_rfl
theorem Wi : bk 4 = .seq (cA (bk 4)) (bk 5):=by kernel_rfl
theorem aGc : bk 5 = .seq (cA (bk 5)) (bk 6):=by kernel_rfl
theorem Wh : bk 6 = .seq (cA (bk 6)) (bk 7):=by kernel_rfl
theorem Wg : bk 7 = .seq (cA (bk 7)) (bk 8):=by kernel_rfl
theorem Wf : bk 8 = .seq (cA (bk 8)) (bk 9):=by kernel_rfl
def bS (l : List At) (n c : Nat) : List Fact:=[.slot 2 (.sl 2 0 n c),.row 2 false l]
def bV (o : Option Addr) (c : Nat) : List Fact:=[.slot 2 (.im (.slice o 0 c))]
def fP (p : dU) : List Fact:=[.slot 3 (.pt 3 0),.row 3 true (fA p)]
def fQ (q : bY) : List Fact:=[.slot 4 (.pt 4 0),.row 4 true (cS q)]
def a1 (p : dU) : List Fact:=[.slot 7 (.so 25 32),.app 25 5 1 32,.slot 8 (.im (.int .i64 0)),.row 25 true (fS p)]
def a1' (p : dU) (k : Nat) : List Fact:=[.slot 7 (.sl 25 0 32 k),.slot 8 (.im (.int .i64 0)),.row 25 true (fS p)]
def a2 (p : dU) (k : Nat) : List Fact:=[.slot 9 (.so 30 64),.app 30 5 1 64,.slot 10 (.im (.int .i64 0)),.row 30 true (fL p)] ++ a1' p k
def a2' (p : dU) (k j : Nat) : List Fact:=[.slot 9 (.sl 30 0 64 j),.slot 10 (.im (.int .i64 0)),.row 30 true (fL p)] ++ a1' p k
def gS (q : bY) : List At:=bm2 q.1 (nK (AF q.2.1) q.2.2)
def gL (q : bY) : List At:=l2L q.1 q.2.1 (bif q.2.2 then 1 else 0)
def c1 (q : bY) : List Fact:=[.slot 7 (.so 67 64),.app 67 5 1 64,.slot 8 (.im (.int .i64 0)),.row 67 true (gS q)]
def c1' (q : bY) (k : Nat) : List Fact:=[.slot 7 (.sl 67 0 64 k),.slot 8 (.im (.int .i64 0)),.row 67 true (gS q)]
def c2 (q : bY) (k : Nat) : List Fact:=[.slot 9 (.so 72 128),.app 72 5 1 128,.slot 10 (.im (.int .i64 0)),.row 72 true (gL q)] ++ c1' q k
def c2' (q : bY) (k j : Nat) : List Fact:=[.slot 9 (.sl 72 0 128 j),.slot 10 (.im (.int .i64 0)),.row 72 true (gL q)] ++ c1' q k
def e8 (e : Int) : List Fact:=[.slot 8 (.im (.int .i64 e))]
def fX (P : dU) (e : Int) : List Fact:=[.slot 19 (.pt 19 0),.row 19 true (fA P),.slot 20 (.im (.int .i64 e))]
def rT : List Fact:=[.slot 6 (.im (.bool true))]
theorem Holds.room {nt base : Nat} {w0 : World} {s k n e sz : Nat} {R : List Fact} {a : Act} {w : World} (h : Holds nt base w0 (.slot s (.so k n) :: .app k e sz n :: R) a w) : ∃ cap,n ≤ cap ∧ Holds nt base w0 (.slot s (.sl k 0 n cap) :: R) a w:=by
 obtain ⟨cap,hc,h⟩:=h.cap (s:=s) (k:=k) (n:=n) (e:=e) (sz:=sz) (List.mem_cons_self ..) (List.mem_cons_of_mem _ (List.mem_cons_self ..));exact ⟨cap,hc,h.sub fun φ hφ => by
  rcases List.mem_cons.1 hφ with rfl | hφ
  ·exact List.mem_cons_self ..
  ·exact List.mem_cons_of_mem _ (List.mem_cons_of_mem _ (List.mem_cons_of_mem _ hφ))⟩
theorem aDz (p : dU) (q : bY) (l : List At) (n c : Nat) : bQ prog (qG prog) f5.ntmps (dM fN) 60 (cA (bk 0)) (lM 0 [.v (.fl (fA p)),.v (.fl (cS q)),.s l n c]) (fP p ++ (fQ q ++ bS l n c)) = some ([],.nrm,fP p ++ (fQ q ++ bS l n c)):=by kernel_rfl
theorem aDy (p : dU) (q : bY) (l : List At) (n c : Nat) : bQ prog (qG prog) f5.ntmps (dM fN) 60 (cA (bk 1)) (fP p ++ (fQ q ++ bS l n c)) (fP p ++ (fQ q ++ bS l n c)) = some ([],.nrm,fP p ++ (fQ q ++ bS l n c)):=by kernel_rfl
theorem aDx (p : dU) (q : bY) (l : List At) (n c : Nat) : bQ prog (qY prog (xA1 (dA FP.M (wv p.2.1)))) f5.ntmps (dM fN) 60 (cA (bk 2)) (fP p ++ (fQ q ++ bS l n c)) (a1 p ++ (fP p ++ (fQ q ++ bS l n c))) = some (QQ (dA FP.M (wv p.2.1)) p,.nrm,a1 p ++ (fP p ++ (fQ q ++ bS l n c))):=by kernel_rfl
theorem aDw (p : dU) (q : bY) (k : Nat) (l : List At) (n c : Nat) : bQ prog (qY prog (xA1 (dA FP.M (wv p.2.1)))) f5.ntmps (dM fN) 60 (cA (bk 3)) (a1' p k ++ (fP p ++ (fQ q ++ bS l n c))) (a2 p k ++ (fP p ++ (fQ q ++ bS l n c))) = some (QQ (dA FP.M (wv p.2.1)) p,.nrm,a2 p k ++ (fP p ++ (fQ q ++ bS l n c))):=by kernel_rfl
theorem aDv (p : dU) (q : bY) (k j : Nat) (l : List At) (n c : Nat) : bQ prog (qG prog) f5.ntmps (dM (Ov p 0)) 60 (cA (bk 4)) (a2' p k j ++ (fP p ++ (fQ q ++ bS l n c))) (fQ q ++ bS l n c) = some ([R1 (fS p) 32 k p 0,R1 (fL p) 64 j p 0,aA (fA p) = aA (fA p),aA (fA p) = aA (fA p)],.nrm,fQ q ++ bS l n c):=by kernel_rfl
theorem aDr (p : dU) (q : bY) (l : List At) (n c : Nat) : bQ prog (qG prog) f5.ntmps (dM yC) 60 (cA (bk 2)) (fP p ++ (fQ q ++ bS l n c)) (e8 (cV p.1 p.2.1 p.2.2).1 ++ (fP p ++ (fQ q ++ bS l n c))) = some ([(cV p.1 p.2.1 p.2.2).1 ≠ 0],.nrm,e8 (cV p.1 p.2.1 p.2.2).1 ++ (fP p ++ (fQ q ++ bS l n c))):=by kernel_rfl
theorem aDq (p : dU) (q : bY) (l : List At) (n c : Nat) : bQ prog (qG prog) f5.ntmps (dM yC) 60 (cA (bk 3)) (e8 (cV p.1 p.2.1 p.2.2).1 ++ (fP p ++ (fQ q ++ bS l n c))) (e8 (cV p.1 p.2.1 p.2.2).1 ++ (fQ q ++ bS l n c)) = some ([(cV p.1 p.2.1 p.2.2).1 ≠ 0],.nrm,e8 (cV p.1 p.2.1 p.2.2).1 ++ (fQ q ++ bS l n c)):=by kernel_rfl
theorem aDp (e : Int) (q : bY) (l : List At) (n c : Nat) : bQ prog (qG prog) f5.ntmps (fun _ => ⟨fun _ => fN,fun _ => true,assoc [(35,.bool false)]⟩) 60 (cA (bk 4)) (e8 e ++ (fQ q ++ bS l n c)) (fQ q ++ bS l n c) = some ([aP .eql .i64 e 0 = some (.bool false)],.nrm,fQ q ++ bS l n c):=by kernel_rfl
theorem aDu (q : bY) (l : List At) (n c : Nat) : bQ prog (qY prog (xA2 (AF q.2.1))) f5.ntmps (dM fN) 60 (cA (bk 5)) (fQ q ++ bS l n c) (c1 q ++ (fQ q ++ bS l n c)) = some (DD (AF q.2.1) q,.nrm,c1 q ++ (fQ q ++ bS l n c)):=by kernel_rfl
theorem aDt (q : bY) (k : Nat) (l : List At) (n c : Nat) : bQ prog (qY prog (xA2 (AF q.2.1))) f5.ntmps (dM fN) 60 (cA (bk 6)) (c1' q k ++ (fQ q ++ bS l n c)) (c2 q k ++ (fQ q ++ bS l n c)) = some (DD (AF q.2.1) q,.nrm,c2 q k ++ (fQ q ++ bS l n c)):=by kernel_rfl
theorem aDs (q : bY) (k j : Nat) (l : List At) (n c : Nat) : bQ prog (qG prog) f5.ntmps (dM (aDV q)) 60 (cA (bk 7)) (c2' q k j ++ (fQ q ++ bS l n c)) (bS l n c) = some ([S1 (gS q) 64 k q 0,S1 (gL q) 128 j q 0,aA (cS q) = aA (cS q),aA (cS q) = aA (cS q)],.nrm,bS l n c):=by kernel_rfl
theorem aDo (q : bY) (l : List At) (n c : Nat) : bQ prog (qG prog) f5.ntmps (dM yC) 60 (cA (bk 5)) (fQ q ++ bS l n c) (e8 (cF q) ++ (fQ q ++ bS l n c)) = some ([(cF q) ≠ 0],.nrm,e8 (cF q) ++ (fQ q ++ bS l n c)):=by kernel_rfl
theorem aDn (q : bY) (l : List At) (n c : Nat) : bQ prog (qG prog) f5.ntmps (dM yC) 60 (cA (bk 6)) (e8 (cF q) ++ (fQ q ++ bS l n c)) (e8 (cF q) ++ bS l n c) = some ([(cF q) ≠ 0],.nrm,e8 (cF q) ++ bS l n c):=by kernel_rfl
theorem aDm (e : Int) (l : List At) (n c : Nat) : bQ prog (qG prog) f5.ntmps (fun _ => ⟨fun _ => fN,fun _ => true,assoc [(77,.bool false)]⟩) 60 (cA (bk 7)) (e8 e ++ bS l n c) (bS l n c) = some ([aP .eql .i64 e 0 = some (.bool false)],.nrm,bS l n c):=by kernel_rfl
theorem RY (P : dU) (e : Int) (l : List At) (n c : Nat) : bQ prog (qG prog) f5.ntmps (dM (Ov P e)) 60 (cA (bk 8)) (bS l n c) (fX P e ++ bS l n c) = some ([qC 20 [.s l n c] (Ax P e)],.nrm,fX P e ++ bS l n c):=by kernel_rfl
theorem Wl (e : Int) (l : List At) (n c : Nat) : bQ prog (qG prog) f5.ntmps (fun _ => ⟨fun _ => fN,fun _ => true,assoc [(114,.bool true)]⟩) 60 (bk 9) (fX (0,0,false) e ++ bS l n c) (rT) = some ([aP .neq .i64 e 0 = some (.bool true),aA (fA (0,0,false)) = aA zG],.rt,rT):=by kernel_rfl
theorem aDj (p : dU) (q : bY) (o : Option Addr) (c : Nat) : bQ prog (qG prog) f5.ntmps (dM fN) 60 (cA (bk 0)) (lM 0 [.v (.fl (fA p)),.v (.fl (cS q)),.v (.im (.slice o 0 c))]) (fP p ++ (fQ q ++ bV o c)) = some ([],.nrm,fP p ++ (fQ q ++ bV o c)):=by kernel_rfl
theorem aDi (p : dU) (q : bY) (o : Option Addr) (c : Nat) : bQ prog (qG prog) f5.ntmps (dM fN) 60 (cA (bk 1)) (fP p ++ (fQ q ++ bV o c)) (fP p ++ (fQ q ++ bV o c)) = some ([],.nrm,fP p ++ (fQ q ++ bV o c)):=by kernel_rfl
theorem aDh (p : dU) (q : bY) (o : Option Addr) (c : Nat) : bQ prog (qY prog (xA1 (dA FP.M (wv p.2.1)))) f5.ntmps (dM fN) 60 (cA (bk 2)) (fP p ++ (fQ q ++ bV o c)) (a1 p ++ (fP p ++ (fQ q ++ bV o c))) = some (QQ (dA FP.M (wv p.2.1)) p,.nrm,a1 p ++ (fP p ++ (fQ q ++ bV o c))):=by kernel_rfl
theorem aDg (p : dU) (q : bY) (k : Nat) (o : Option Addr) (c : Nat) : bQ prog (qY prog (xA1 (dA FP.M (wv p.2.1)))) f5.ntmps (dM fN) 60 (cA (bk 3)) (a1' p k ++ (fP p ++ (fQ q ++ bV o c))) (a2 p k ++ (fP p ++ (fQ q ++ bV o c))) = some (QQ (dA FP.M (wv p.2.1)) p,.nrm,a2 p k ++ (fP p ++ (fQ q ++ bV o c))):=by kernel_rfl
theorem aDf (p : dU) (q : bY) (k j : Nat) (o : Option Addr) (c : Nat) : bQ prog (qG prog) f5.ntmps (dM (Ov p 0)) 60 (cA (bk 4)) (a2' p k j ++ (fP p ++ (fQ q ++ bV o c))) (fQ q ++ bV o c) = some ([R1 (fS p) 32 k p 0,R1 (fL p) 64 j p 0,aA (fA p) = aA (fA p),aA (fA p) = aA (fA p)],.nrm,fQ q ++ bV o c):=by kernel_rfl
theorem aDa (p : dU) (q : bY) (o : Option Addr) (c : Nat) : bQ prog (qG prog) f5.ntmps (dM yC) 60 (cA (bk 2)) (fP p ++ (fQ q ++ bV o c)) (e8 (cV p.1 p.2.1 p.2.2).1 ++ (fP p ++ (fQ q ++ bV o c))) = some ([(cV p.1 p.2.1 p.2.2).1 ≠ 0],.nrm,e8 (cV p.1 p.2.1 p.2.2).1 ++ (fP p ++ (fQ q ++ bV o c))):=by kernel_rfl
theorem aCZ (p : dU) (q : bY) (o : Option Addr) (c : Nat) : bQ prog (qG prog) f5.ntmps (dM yC) 60 (cA (bk 3)) (e8 (cV p.1 p.2.1 p.2.2).1 ++ (fP p ++ (fQ q ++ bV o c))) (e8 (cV p.1 p.2.1 p.2.2).1 ++ (fQ q ++ bV o c)) = some ([(cV p.1 p.2.1 p.2.2).1 ≠ 0],.nrm,e8 (cV p.1 p.2.1 p.2.2).1 ++ (fQ q ++ bV o c)):=by kernel_rfl
theorem aCY (e : Int) (q : bY) (o : Option Addr) (c : Nat) : bQ prog (qG prog) f5.ntmps (fun _ => ⟨fun _ => fN,fun _ => true,assoc [(35,.bool false)]⟩) 60 (cA (bk 4)) (e8 e ++ (fQ q ++ bV o c)) (fQ q ++ bV o c) = some ([aP .eql .i64 e 0 = some (.bool false)],.nrm,fQ q ++ bV o c):=by kernel_rfl
theorem aDe (q : bY) (o : Option Addr) (c : Nat) : bQ prog (qY prog (xA2 (AF q.2.1))) f5.ntmps (dM fN) 60 (cA (bk 5)) (fQ q ++ bV o c) (c1 q ++ (fQ q ++ bV o c)) = some (DD (AF q.2.1) q,.nrm,c1 q ++ (fQ q ++ bV o c)):=by kernel_rfl
theorem aDd (q : bY) (k : Nat) (o : Option Addr) (c : Nat) : bQ prog (qY prog (xA2 (AF q.2.1))) f5.ntmps (dM fN) 60 (cA (bk 6)) (c1' q k ++ (fQ q ++ bV o c)) (c2 q k ++ (fQ q ++ bV o c)) = some (DD (AF q.2.1) q,.nrm,c2 q k ++ (fQ q ++ bV o c)):=by kernel_rfl
theorem aDc (q : bY) (k j : Nat) (o : Option Addr) (c : Nat) : bQ prog (qG prog) f5.ntmps (dM (aDV q)) 60 (cA (bk 7)) (c2' q k j ++ (fQ q ++ bV o c)) (bV o c) = some ([S1 (gS q) 64 k q 0,S1 (gL q) 128 j q 0,aA (cS q) = aA (cS q),aA (cS q) = aA (cS q)],.nrm,bV o c):=by kernel_rfl
theorem aCX (q : bY) (o : Option Addr) (c : Nat) : bQ prog (qG prog) f5.ntmps (dM yC) 60 (cA (bk 5)) (fQ q ++ bV o c) (e8 (cF q) ++ (fQ q ++ bV o c)) = some ([(cF q) ≠ 0],.nrm,e8 (cF q) ++ (fQ q ++ bV o c)):=by kernel_rfl
theorem aCW (q : bY) (o : Option Addr) (c : Nat) : bQ prog (qG prog) f5.ntmps (dM yC) 60 (cA (bk 6)) (e8 (cF q) ++ (fQ q ++ bV o c)) (e8 (cF q) ++ bV o c) = some ([(cF q) ≠ 0],.nrm,e8 (cF q) ++ bV o c):=by kernel_rfl
theorem aCV (e : Int) (o : Option Addr) (c : Nat) : bQ prog (qG prog) f5.ntmps (fun _ => ⟨fun _ => fN,fun _ => true,assoc [(77,.bool false)]⟩) 60 (cA (bk 7)) (e8 e ++ bV o c) (bV o c) = some ([aP .eql .i64 e 0 = some (.bool false)],.nrm,bV o c):=by kernel_rfl
theorem aDb (P : dU) (e : Int) (o : Option Addr) (c : Nat) : bQ prog (qG prog) f5.ntmps (dM (Ov P e)) 60 (cA (bk 8)) (bV o c) (fX P e ++ bV o c) = some ([qC 20 [.v (.im (.slice o 0 c))] (Ax P e)],.nrm,fX P e ++ bV o c):=by kernel_rfl
theorem Wk (e : Int) (o : Option Addr) (c : Nat) : bQ prog (qG prog) f5.ntmps (fun _ => ⟨fun _ => fN,fun _ => true,assoc [(114,.bool true)]⟩) 60 (bk 9) (fX (0,0,false) e ++ bV o c) (rT) = some ([aP .neq .i64 e 0 = some (.bool true),aA (fA (0,0,false)) = aA zG],.rt,rT):=by kernel_rfl
theorem GY (l1 l2 : List At) (c : Nat) : aU prog (qG prog) (fun _ => ⟨fun _ => T0,fun _ => true,fun _ => none⟩) f13 60 [.so l1 32,.s l2 64 c] = some ([],.one (.im (.bool false))):=by kernel_rfl
def Ou (l1 l2 : List At) (c : Nat) : Tab:=fN.add 13 (WJ 13 (.one (.im (.bool false))))
theorem aBf (l1 l2 : List At) (c : Nat) : TabOk prog (Ou l1 l2 c):=jI.ad func13 (wP _ _)
def sF (l : List At) (n : Nat) : FS:=⟨l,n,0,0,false,[],[.im (.int .i64 0)]⟩
def xS (l1 : List At) (n1 : Nat) (l2 : List At) (n2 : Nat) : Ext:=x3 ((TD.add 18 (Lf 18 (sF l1 n1))).add 19 (Lf 19 (sF l2 n2))) FQ (fun _ => none) (fun _ => none)
theorem Xk (l1 : List At) (n1 : Nat) (l2 : List At) (n2 : Nat) (w : World) : bU prog (qY prog (xS l1 n1 l2 n2)) w.heap.size w:=lG (((hJ _).ad func18 (LR _ _)).ad func19 (LR _ _)) (fZ _) w
theorem aGd (P : dU) (l m : List At) (c : Nat) : bQ prog (qY prog (xS l 32 m 64)) f5.ntmps (dM fN) 60 (bk 9) (fX P 0 ++ bS l 32 c) (rT) = some ([Oz 18 [.v (.fl (fA P))] (sF l 32),Oz 19 [.v (.fl (fA P))] (sF m 64),32 = 32,32 < 4611686018427387904,U8e l 32],.rt,rT):=by kernel_rfl
theorem aGb (P : dU) (l m : List At) (c : Nat) : bQ prog (qY prog (xS m 32 l 64)) f5.ntmps (fun _ => ⟨fun s => bif Nat.beq s 130 then Ou m l c else fN,fun _ => true,fun _ => none⟩) 60 (bk 9) (fX P 0 ++ bS l 64 c) (rT) = some ([Oz 18 [.v (.fl (fA P))] (sF m 32),Oz 19 [.v (.fl (fA P))] (sF l 64),qC 13 [.so m 32,.s l 64 c] (.one (.im (.bool false))),64 = 64,64 < 4611686018427387904,U8e l 64],.rt,rT):=by kernel_rfl
theorem SA {w : World} {R : Ending → World → Prop} (p : dU) (q : bY) (l : List At) (n c : Nat) {args : List Value} (ha : bD w [.v (.fl (fA p)),.v (.fl (cS q)),.s l n c] args) (hfin : ∀ a w',Holds f5.ntmps w.heap.size w (bS l n c) a w' → (bk 8).wp prog (bodyPost prog f5 R) a w') : Calls prog 5 args.toArray w R:=by
 have hb0 : ∀ k d : Nat,TabOkW prog ((dM fN k).T d) w.heap.size w:=fun _ _ => jI.w _ _
 have hbb : ∀ k d : Nat,TabOkW prog ((dM yC k).T d) w.heap.size w:=fun _ _ => Yj.w _ _
 have hqG : bU prog (qG prog) w.heap.size w:=(aK _).w _ _;have key2 : ∀ a w',Holds f5.ntmps w.heap.size w (fQ q ++ bS l n c) a w' → (bk 5).wp prog (bodyPost prog f5 R) a w':=fun a w' hA => by
  rw [aGc]
  by_cases h : cF q = 0
  ·have hk:=Im h;refine wp_seq (aE aG hb0 (BH _ w) (aDu q l n c) hk hA fun a w' hA => ?_);obtain ⟨k,hk1,hA⟩:=Holds.room (s:=7) (k:=67) (n:=64) (e:=5) (sz:=1) (R:=[.slot 8 (.im (.int .i64 0)),.row 67 true (gS q)] ++ (fQ q ++ bS l n c)) hA;rw [Wh];refine wp_seq (aE aG hb0 (BH _ w) (aDt q k l n c) hk hA fun a w' hA => ?_);obtain ⟨j,hj1,hA⟩:=Holds.room (s:=9) (k:=72) (n:=128) (e:=5) (sz:=1) (R:=([.slot 10 (.im (.int .i64 0)),.row 72 true (gL q)] ++ c1' q k) ++ (fQ q ++ bS l n c)) hA;rw [Wg];refine wp_seq (aE aG (fun _ _ => (Yk q).w _ _) hqG (aDs q k j l n c) ⟨Nk h k hk1,Nl h j hj1,rfl,rfl,trivial⟩ hA fun a w' hA => ?_);exact hfin a w' hA
  ·refine wp_seq (aE aG hbb hqG (aDo q l n c) ⟨h,trivial⟩ hA fun a w' hA => ?_);rw [Wh];refine wp_seq (aE aG hbb hqG (aDn q l n c) ⟨h,trivial⟩ hA fun a w' hA => ?_);rw [Wg];refine wp_seq (aE aG (fun _ _ => jI.w _ _) hqG (aDm (cF q) l n c) ⟨by show some (Value.bool (cF q == 0)) = _; rw [beq_eq_false_iff_ne.2 h],trivial⟩ hA fun a w' hA => ?_);exact hfin a w' hA
 refine fK func5 (c:=bk 0) rfl ha (Nat.le_of_ble_eq_true (by kernel_rfl)) fun a w' hA => ?_
 rw [aGg];refine wp_seq (aE aG hb0 hqG (aDz p q l n c) trivial hA fun a w' hA => ?_);rw [aGf];refine wp_seq (aE aG hb0 hqG (aDy p q l n c) trivial hA fun a w' hA => ?_);rw [aGe]
 by_cases h : (cV p.1 p.2.1 p.2.2).1 = 0
 ·have hk:=AB h;refine wp_seq (aE aG hb0 (BI _ w) (aDx p q l n c) hk hA fun a w' hA => ?_);obtain ⟨k,hk1,hA⟩:=Holds.room (s:=7) (k:=25) (n:=32) (e:=5) (sz:=1) (R:=[.slot 8 (.im (.int .i64 0)),.row 25 true (fS p)] ++ (fP p ++ (fQ q ++ bS l n c))) hA;rw [Wj];refine wp_seq (aE aG hb0 (BI _ w) (aDw p q k l n c) hk hA fun a w' hA => ?_);obtain ⟨j,hj1,hA⟩:=Holds.room (s:=9) (k:=30) (n:=64) (e:=5) (sz:=1) (R:=([.slot 10 (.im (.int .i64 0)),.row 30 true (fL p)] ++ a1' p k) ++ (fP p ++ (fQ q ++ bS l n c))) hA;rw [Wi];refine wp_seq (aE aG (fun _ _ => (AA p 0).w _ _) hqG (aDv p q k j l n c) ⟨Nm h k hk1,Nn h j hj1,rfl,rfl,trivial⟩ hA fun a w' hA => ?_);exact key2 a w' hA
 ·refine wp_seq (aE aG hbb hqG (aDr p q l n c) ⟨h,trivial⟩ hA fun a w' hA => ?_);rw [Wj];refine wp_seq (aE aG hbb hqG (aDq p q l n c) ⟨h,trivial⟩ hA fun a w' hA => ?_);rw [Wi];refine wp_seq (aE aG (fun _ _ => jI.w _ _) hqG (aDp (cV p.1 p.2.1 p.2.2).1 q l n c) ⟨by show some (Value.bool ((cV p.1 p.2.1 p.2.2).1 == 0)) = _; rw [beq_eq_false_iff_ne.2 h],trivial⟩ hA fun a w' hA => ?_);exact key2 a w' hA
theorem RZ (p : dU) (q : bY) (e : Int) (l : List At) (n c : Nat) (he : e ≠ 0) (hr : qC 20 [.s l n c] (Ax (0,0,false) e)) (args : List Value) (w : World) (ha : bD w [.v (.fl (fA p)),.v (.fl (cS q)),.s l n c] args) : Good prog 5 (.one (.im (.bool true))) args w:=by
 have hqG : bU prog (qG prog) w.heap.size w:=(aK _).w _ _;refine SA p q l n c ha fun a w' hA => ?_
 rw [Wf];refine wp_seq (aE aG (fun _ _ => (AA (0,0,false) e).w _ _) hqG (RY (0,0,false) e l n c) ⟨hr,trivial⟩ hA fun a w' hA => ?_);refine aE aG (fun _ _ => jI.w _ _) hqG (Wl e l n c) ⟨by show some (Value.bool (e != 0)) = _; rw [bne_iff_ne.2 he],jC.symm,trivial⟩ hA fun a w' hA => ?_
 exact eV (l:=[.im (.bool true)]) (r:=.one (.im (.bool true))) (by kernel_rfl) (by kernel_rfl) hA
theorem aDl {w : World} {R : Ending → World → Prop} (p : dU) (q : bY) (o : Option Addr) (c : Nat) {args : List Value} (ha : bD w [.v (.fl (fA p)),.v (.fl (cS q)),.v (.im (.slice o 0 c))] args) (hfin : ∀ a w',Holds f5.ntmps w.heap.size w (bV o c) a w' → (bk 8).wp prog (bodyPost prog f5 R) a w') : Calls prog 5 args.toArray w R:=by
 have hb0 : ∀ k d : Nat,TabOkW prog ((dM fN k).T d) w.heap.size w:=fun _ _ => jI.w _ _
 have hbb : ∀ k d : Nat,TabOkW prog ((dM yC k).T d) w.heap.size w:=fun _ _ => Yj.w _ _
 have hqG : bU prog (qG prog) w.heap.size w:=(aK _).w _ _;have key2 : ∀ a w',Holds f5.ntmps w.heap.size w (fQ q ++ bV o c) a w' → (bk 5).wp prog (bodyPost prog f5 R) a w':=fun a w' hA => by
  rw [aGc]
  by_cases h : cF q = 0
  ·have hk:=Im h;refine wp_seq (aE aG hb0 (BH _ w) (aDe q o c) hk hA fun a w' hA => ?_);obtain ⟨k,hk1,hA⟩:=Holds.room (s:=7) (k:=67) (n:=64) (e:=5) (sz:=1) (R:=[.slot 8 (.im (.int .i64 0)),.row 67 true (gS q)] ++ (fQ q ++ bV o c)) hA;rw [Wh];refine wp_seq (aE aG hb0 (BH _ w) (aDd q k o c) hk hA fun a w' hA => ?_);obtain ⟨j,hj1,hA⟩:=Holds.room (s:=9) (k:=72) (n:=128) (e:=5) (sz:=1) (R:=([.slot 10 (.im (.int .i64 0)),.row 72 true (gL q)] ++ c1' q k) ++ (fQ q ++ bV o c)) hA;rw [Wg];refine wp_seq (aE aG (fun _ _ => (Yk q).w _ _) hqG (aDc q k j o c) ⟨Nk h k hk1,Nl h j hj1,rfl,rfl,trivial⟩ hA fun a w' hA => ?_);exact hfin a w' hA
  ·refine wp_seq (aE aG hbb hqG (aCX q o c) ⟨h,trivial⟩ hA fun a w' hA => ?_);rw [Wh];refine wp_seq (aE aG hbb hqG (aCW q o c) ⟨h,trivial⟩ hA fun a w' hA => ?_);rw [Wg];refine wp_seq (aE aG (fun _ _ => jI.w _ _) hqG (aCV (cF q) o c) ⟨by show some (Value.bool (cF q == 0)) = _; rw [beq_eq_false_iff_ne.2 h],trivial⟩ hA fun a w' hA => ?_);exact hfin a w' hA
 refine fK func5 (c:=bk 0) rfl ha (Nat.le_of_ble_eq_true (by kernel_rfl)) fun a w' hA => ?_
 rw [aGg];refine wp_seq (aE aG hb0 hqG (aDj p q o c) trivial hA fun a w' hA => ?_);rw [aGf];refine wp_seq (aE aG hb0 hqG (aDi p q o c) trivial hA fun a w' hA => ?_);rw [aGe]
 by_cases h : (cV p.1 p.2.1 p.2.2).1 = 0
 ·have hk:=AB h;refine wp_seq (aE aG hb0 (BI _ w) (aDh p q o c) hk hA fun a w' hA => ?_);obtain ⟨k,hk1,hA⟩:=Holds.room (s:=7) (k:=25) (n:=32) (e:=5) (sz:=1) (R:=[.slot 8 (.im (.int .i64 0)),.row 25 true (fS p)] ++ (fP p ++ (fQ q ++ bV o c))) hA;rw [Wj];refine wp_seq (aE aG hb0 (BI _ w) (aDg p q k o c) hk hA fun a w' hA => ?_);obtain ⟨j,hj1,hA⟩:=Holds.room (s:=9) (k:=30) (n:=64) (e:=5) (sz:=1) (R:=([.slot 10 (.im (.int .i64 0)),.row 30 true (fL p)] ++ a1' p k) ++ (fP p ++ (fQ q ++ bV o c))) hA;rw [Wi];refine wp_seq (aE aG (fun _ _ => (AA p 0).w _ _) hqG (aDf p q k j o c) ⟨Nm h k hk1,Nn h j hj1,rfl,rfl,trivial⟩ hA fun a w' hA => ?_);exact key2 a w' hA
 ·refine wp_seq (aE aG hbb hqG (aDa p q o c) ⟨h,trivial⟩ hA fun a w' hA => ?_);rw [Wj];refine wp_seq (aE aG hbb hqG (aCZ p q o c) ⟨h,trivial⟩ hA fun a w' hA => ?_);rw [Wi];refine wp_seq (aE aG (fun _ _ => jI.w _ _) hqG (aCY (cV p.1 p.2.1 p.2.2).1 q o c) ⟨by show some (Value.bool ((cV p.1 p.2.1 p.2.2).1 == 0)) = _; rw [beq_eq_false_iff_ne.2 h],trivial⟩ hA fun a w' hA => ?_);exact key2 a w' hA
theorem aDk (p : dU) (q : bY) (e : Int) (o : Option Addr) (c : Nat) (he : e ≠ 0) (hr : qC 20 [.v (.im (.slice o 0 c))] (Ax (0,0,false) e)) (args : List Value) (w : World) (ha : bD w [.v (.fl (fA p)),.v (.fl (cS q)),.v (.im (.slice o 0 c))] args) : Good prog 5 (.one (.im (.bool true))) args w:=by
 have hqG : bU prog (qG prog) w.heap.size w:=(aK _).w _ _;refine aDl p q o c ha fun a w' hA => ?_
 rw [Wf];refine wp_seq (aE aG (fun _ _ => (AA (0,0,false) e).w _ _) hqG (aDb (0,0,false) e o c) ⟨hr,trivial⟩ hA fun a w' hA => ?_);refine aE aG (fun _ _ => jI.w _ _) hqG (Wk e o c) ⟨by show some (Value.bool (e != 0)) = _; rw [bne_iff_ne.2 he],jC.symm,trivial⟩ hA fun a w' hA => ?_
 exact eV (l:=[.im (.bool true)]) (r:=.one (.im (.bool true))) (by kernel_rfl) (by kernel_rfl) hA
theorem Nd (p : dU) (q : bY) (l : List At) (c : Nat) (P : dU) (hck : (cV P.1 P.2.1 P.2.2).1 = 0) (hf : aA l = aA (fS P)) (hu : U8e l 32) (hr : R1 l 32 c P 0) (args : List Value) (w : World) (ha : bD w [.v (.fl (fA p)),.v (.fl (cS q)),.s l 32 c] args) : Good prog 5 (.one (.im (.bool true))) args w:=by
 have hqG : bU prog (qG prog) w.heap.size w:=(aK _).w _ _;refine SA p q l 32 c ha fun a w' hA => ?_
 rw [Wf];refine wp_seq (aE aG (fun _ _ => (AA P 0).w _ _) hqG (RY P 0 l 32 c) ⟨hr,trivial⟩ hA fun a w' hA => ?_);refine aE aG (fun _ _ => jI.w _ _) (Xk l 32 (fL P) 64 w) (aGd P l (fL P) c) ⟨fun args w ha => (CO _ P (AB hck) args w ha).mono fun e w' h => h.weak hf,fun args w ha => (QH _ P (AB hck) args w ha).mono fun e w' h => h.weak rfl,rfl,by decide,hu,trivial⟩ hA fun a w' hA => ?_
 exact eV (l:=[.im (.bool true)]) (r:=.one (.im (.bool true))) (by kernel_rfl) (by kernel_rfl) hA
theorem Nc (p : dU) (q : bY) (l : List At) (c : Nat) (P : dU) (hck : (cV P.1 P.2.1 P.2.2).1 = 0) (hf : aA l = aA (fL P)) (hu : U8e l 64) (hr : R1 l 64 c P 0) (args : List Value) (w : World) (ha : bD w [.v (.fl (fA p)),.v (.fl (cS q)),.s l 64 c] args) : Good prog 5 (.one (.im (.bool true))) args w:=by
 have hqG : bU prog (qG prog) w.heap.size w:=(aK _).w _ _;refine SA p q l 64 c ha fun a w' hA => ?_
 rw [Wf];refine wp_seq (aE aG (fun _ _ => (AA P 0).w _ _) hqG (RY P 0 l 64 c) ⟨hr,trivial⟩ hA fun a w' hA => ?_);refine aE aG (fun _ s => by
  show TabOkW prog (bif Nat.beq s 130 then Ou (fS P) l c else fN) w.heap.size w;cases Nat.beq s 130
  ·exact jI.w _ _
  ·exact (aBf (fS P) l c).w _ _) (Xk (fS P) 32 l 64 w) (aGb P l (fS P) c) ⟨fun args w ha => (CO _ P (AB hck) args w ha).mono fun e w' h => h.weak rfl,fun args w ha => (QH _ P (AB hck) args w ha).mono fun e w' h => h.weak hf,fun args w ha => aD aG (fun _ _ => eW _) (aK prog) func13 (GY (fS P) l c) trivial ha,rfl,by decide,hu,trivial⟩ hA fun a w' hA => ?_
 exact eV (l:=[.im (.bool true)]) (r:=.one (.im (.bool true))) (by kernel_rfl) (by kernel_rfl) hA
theorem xO (p : dU) (q : bY) (o : Option Addr) (c : Nat) (w : World) : Good prog 5 (.one (.im (.bool true))) [.agg (aA (fA p)).toArray,.agg (aA (cS q)).toArray,.slice o 0 c] w :=
 aDk p q 3 o c (by decide) (aHy fun w => jL jC (JH o 0 c (by decide) (by decide) w)) _ w ⟨rfl,rfl,rfl,trivial⟩
theorem Nj (p : dU) (q : bY) (b o n c : Nat) (B : Nat → Nat) (hB : ∀ k,B k < 256) (hnc : n ≤ c) (w : World) (hb : b < w.heap.size) (hc : ∀ k,k < n → w.cell? ⟨b,o + k,none⟩ = some (.int .u8 (Int.ofNat (B k)))) : Good prog 5 (.one (.im (.bool true))) [.agg (aA (fA p)).toArray,.agg (aA (cS q)).toArray,.slice (some ⟨b,o,none⟩) n c] w:=by
 have hr : ∀ l,aA l = vB B n → bD w [.v (.fl (fA p)),.v (.fl (cS q)),.s l n c] [.agg (aA (fA p)).toArray,.agg (aA (cS q)).toArray,.slice (some ⟨b,o,none⟩) n c]:=fun l hl => ⟨rfl,rfl,⟨b,o,rfl,hb,fun j v hj => by
  have hlt : j < n:=by have:=(List.getElem?_eq_some_iff.1 hj).1; rw [hl,Zw] at this; exact this
  rw [hl,Zx B n j hlt] at hj;rw [hc j hlt,hj]⟩,trivial⟩
 by_cases h0 : n = 0
 ·subst h0;exact xO p q _ c w
 ·by_cases h1 : n = 32
  ·subst h1;obtain ⟨P,e,g1,g2⟩:=Vm (l:=bL B) (L:=bN B) (xF B) (wD hB)
   rcases g2 with ⟨he,rfl⟩ | ⟨rfl,hck,hf⟩
   ·exact RZ p q e (bL B) 32 c he (g1 c hnc) _ w (hr _ (aGm B))
   ·exact Nd p q (bL B) c P hck hf (TP (L:=bN B) (xF B) rfl) (g1 c hnc) _ w (hr _ (aGm B))
  ·by_cases h2 : n = 64
   ·subst h2;obtain ⟨P,e,g1,g2⟩:=Vl (l:=bL B ++ bL fun k => B (32 + k)) (L:=bN B ++ bN fun k => B (32 + k)) (by kernel_rfl) (aFs hB fun k => hB _)
    rcases g2 with ⟨he,rfl⟩ | ⟨rfl,hck,hf⟩
    ·exact RZ p q e _ 64 c he (g1 c hnc) _ w (hr _ (Ze B))
    ·exact Nc p q _ c P hck hf (TP (L:=bN B ++ bN fun k => B (32 + k)) (by kernel_rfl) rfl) (g1 c hnc) _ w (hr _ (Ze B))
   ·refine RZ p q 3 (aB B n) n c (by decide) (fun args w ha => ?_) _ w (hr _ (Ww B n))
    match args,ha with
    | [v],ha =>
     obtain ⟨b',o',rfl,_,_⟩:=ha.1;exact jL jC (JH _ n c h1 h2 w)
    | [],ha => exact ha.elim
    | _ :: _ :: _,ha => exact ha.2.elim
end Go.Proofs.YtfnkbmlmgnadmaaGreat.Ex
namespace Go.Proofs.YtfnkbmlmgnadmaaGreat
open Go.Proofs.Tryz
open Go.ChangeShapes Go.WideShapes Go.ChangeAt Go.RowKit
theorem KB : ownKnob prog.godebug = none:=by kernel_rfl
theorem DO : laidOutB prog = true:=by kernel_rfl
theorem YG : prog.cellsOf 22 = 1:=by kernel_rfl
theorem aFn {α : Type} (l : List α) (h : (⟨l⟩ : Array α).size = 4) : ∃ a b c d,l = [a,b,c,d]:=by
 match l,h with
 | [a,b,c,d],_ => exact ⟨a,b,c,d,rfl⟩
theorem mU {n : Int} (h : (Lit.int .u64 n).wf = true) : ∃ k : Nat,n = (k : Int) ∧ k < 18446744073709551616:=by
 obtain ⟨h1,h2⟩:=bounds_u64 h;obtain ⟨k,rfl⟩:=Int.eq_ofNat_of_zero_le h1;exact ⟨k,rfl,by omega⟩
end Go.Proofs.YtfnkbmlmgnadmaaGreat
namespace Go.Proofs.YtfnkbmlmgnadmaaGreat.Ex
open Go.Proofs.Tryz
open Go.Deep Go.ChangeShapes Go.WideShapes Go.ChangeAt Go.RowKit
theorem Nz {P : Program} {W : World} {base : Nat} {t : TypeId} {fs : Array Field} {v : Value} (ht : P.underlying t = some (.struct fs)) (h : Value.okWide P W .any base t v) : ∃ cs,v = .agg cs:=by
 obtain ⟨cs,rfl,_⟩ : ∃ cs,v = .agg cs ∧ cs.size = P.cellsOf t ∧ Row.okWide P W .any base t cs:=by
  simpa [Value.okWide,ht] using h
 exact ⟨cs,rfl⟩
section
variable {H : Type} {enc : TypeId × Value → H} {W : World}
theorem c24 : prog.cellsOf 24 = 4:=by kernel_rfl
theorem c26 : prog.cellsOf 26 = 8:=by kernel_rfl
theorem US {fuel : Nat} {cs : List Value} {x : DataW H × List MemPlace} (hl : cs.length = 4) (h : DataW.trod enc prog W 0 (fun _ => true) true fuel 24 cs = some x) : ∃ n : Nat,cs = aA (q1 n):=by
 obtain ⟨c0,c1,c2,c3,rfl⟩:=aFn cs hl;obtain ⟨y0,y1,y2,y3,m,hx,hy0,hy1,hy2,hy3⟩:=trod_array4 underlying24 YG h;obtain ⟨x0,e0,rfl,w0⟩:=DataW.trod_int underlying22 hy0;obtain ⟨x1,e1,rfl,w1⟩:=DataW.trod_int underlying22 hy1;obtain ⟨x2,e2,rfl,w2⟩:=DataW.trod_int underlying22 hy2;obtain ⟨x3,e3,rfl,w3⟩:=DataW.trod_int underlying22 hy3;simp at e0 e1 e2 e3;obtain ⟨a0,rfl,k0⟩:=mU w0;obtain ⟨a1,rfl,k1⟩:=mU w1;obtain ⟨a2,rfl,k2⟩:=mU w2;obtain ⟨a3,rfl,k3⟩:=mU w3;subst e0 e1 e2 e3;have hv : aC a0 a1 a2 a3 < 115792089237316195423570985008687907853269984665640564039457584007913129639936:=by unfold aC; omega
 obtain ⟨q0,q1',q2',q3⟩:=fG ⟨k0,k1,k2,k3⟩ hv rfl;refine ⟨aC a0 a1 a2 a3,?_⟩;show _ = w4 (aC a0 a1 a2 a3);unfold w4;rw [← q0,← q1',← q2',← q3]
theorem Yf {fuel : Nat} {cs : List Value} {x : DataW H × List MemPlace} (h : DataW.trod enc prog W 0 (fun _ => true) true fuel 26 cs = some x) : ∃ n : N2,cs = aA (q2 n):=by
 obtain ⟨y0,y1,n,_,hl,h0,h1⟩:=trod_struct2 underlying26 h;rw [c26] at hl;simp only [c24] at h0 h1;obtain ⟨a,ha⟩:=US (by simp [hl]) h0;obtain ⟨b,hb⟩:=US (by simp [hl]) h1;refine ⟨(a,b),?_⟩;rw [List.drop_zero] at ha;rw [List.take_of_length_le (by simp [hl])] at hb;show cs = w4 a ++ (w4 b ++ []);rw [List.append_nil,← List.take_append_drop 4 cs];congr 1
 all_goals first | exact ha.trans (List.append_nil _) | exact hb.trans (List.append_nil _)
end
section
variable {H : Type} {enc : TypeId × Value → H} {W : World}
theorem cG1 : prog.cellsOf 48 = 9:=by kernel_rfl
theorem cG2 : prog.cellsOf 28 = 17:=by kernel_rfl
theorem cBo : prog.cellsOf 4 = 1:=by kernel_rfl
theorem El {α : Type} (a b : Nat) (cs : List α) (h : cs.length = a + b + 1) : cs = cs.take a ++ ((cs.drop a).take b ++ (cs.drop (a + b)).take 1):=by
 have e : (cs.drop (a + b)).take 1 = cs.drop (a + b):=List.take_of_length_le (by simp [h]);rw [e,← List.drop_drop,List.take_append_drop,List.take_append_drop]
theorem aEU {fuel : Nat} {cs : List Value} {x : DataW H × List MemPlace} (h : DataW.trod enc prog W 0 (fun _ => true) true fuel 48 cs = some x) : ∃ n : dU,cs = aA (fA n):=by
 obtain ⟨y0,y1,y2,n,_,hl,h0,h1,h2⟩:=trod_struct3 underlying48 h;rw [cG1] at hl;simp only [c24,cBo] at h0 h1 h2;obtain ⟨a,ha⟩:=US (by simp [hl]) h0;obtain ⟨b,hb⟩:=US (by simp [hl]) h1;obtain ⟨c,hc,_⟩:=DataW.trod_bool underlying4 h2;refine ⟨(a,b,c),?_⟩;rw [El 4 4 cs hl,← List.drop_zero (l:=cs.take 4)];have e : aA (fA (a,b,c)) = aA (q1 a) ++ (aA (q1 b) ++ [.bool c]):=by
  show w4 a ++ (w4 b ++ _) = (w4 a ++ []) ++ ((w4 b ++ []) ++ _);rw [List.append_nil,List.append_nil];rfl
 rw [e];rw [List.drop_zero] at ha;have ha' : cs.take 4 = aA (q1 a):=ha.trans (by first | rfl | simp);have hb' : (cs.drop 4).take 4 = aA (q1 b):=hb.trans (by first | rfl | simp);have hc' : (cs.drop (4 + 4)).take 1 = [.bool c]:=hc;rw [List.drop_zero,ha',hb',hc']
theorem aET {fuel : Nat} {cs : List Value} {x : DataW H × List MemPlace} (h : DataW.trod enc prog W 0 (fun _ => true) true fuel 28 cs = some x) : ∃ n : bY,cs = aA (cS n):=by
 obtain ⟨y0,y1,y2,n,_,hl,h0,h1,h2⟩:=trod_struct3 underlying28 h;rw [cG2] at hl;simp only [c26,cBo] at h0 h1 h2;obtain ⟨a,ha⟩:=Yf h0;obtain ⟨b,hb⟩:=Yf h1;obtain ⟨c,hc,_⟩:=DataW.trod_bool underlying4 h2;refine ⟨(a,b,c),?_⟩;rw [El 8 8 cs hl,← List.drop_zero (l:=cs.take 8)];have e : aA (cS (a,b,c)) = aA (q2 a) ++ (aA (q2 b) ++ [.bool c]):=by
  show w4 a.1 ++ (w4 a.2 ++ (w4 b.1 ++ (w4 b.2 ++ _))) = (w4 a.1 ++ (w4 a.2 ++ [])) ++ ((w4 b.1 ++ (w4 b.2 ++ [])) ++ _);rw [List.append_nil,List.append_nil,List.append_assoc,List.append_assoc];rfl
 rw [e];rw [List.drop_zero] at ha;have hb' : (cs.drop 8).take 8 = aA (q2 b):=hb;have hc' : (cs.drop (8 + 8)).take 1 = [.bool c]:=hc;rw [List.drop_zero,ha,hb',hc']
theorem Tb {base : Nat} {v : Value} {d : DataW H} {ps : List MemPlace} {pt : Array TypeId} {args : Array Value} (hval : ∀ (j : Nat) t v,pt[j]? = some t → args[j]? = some v → Value.okWide prog W .any base t v) (j : Nat) (hj : pt[j]? = some 48) (ha : args[j]? = some v)
  (h : DataW.Trod enc prog W 0 (fun _ => true) true 48 v d ps) : ∃ x : dU,v = .agg (aA (fA x)).toArray:=by
 have hv:=hval j 48 v hj ha;obtain ⟨cs,rfl⟩:=Nz (t:=48) underlying48 hv;obtain ⟨fuel,hf⟩:=h;obtain ⟨l⟩:=cs;obtain ⟨x,hx⟩:=aEU hf;subst hx;exact ⟨x,rfl⟩
theorem Ta {base : Nat} {v : Value} {d : DataW H} {ps : List MemPlace} {pt : Array TypeId} {args : Array Value} (hval : ∀ (j : Nat) t v,pt[j]? = some t → args[j]? = some v → Value.okWide prog W .any base t v) (j : Nat) (hj : pt[j]? = some 28) (ha : args[j]? = some v)
  (h : DataW.Trod enc prog W 0 (fun _ => true) true 28 v d ps) : ∃ x : bY,v = .agg (aA (cS x)).toArray:=by
 have hv:=hval j 28 v hj ha;obtain ⟨cs,rfl⟩:=Nz (t:=28) underlying28 hv;obtain ⟨fuel,hf⟩:=h;obtain ⟨l⟩:=cs;obtain ⟨x,hx⟩:=aET hf;subst hx;exact ⟨x,rfl⟩
end
end Go.Proofs.YtfnkbmlmgnadmaaGreat.Ex
