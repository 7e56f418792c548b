/- Pu15 -/
import Derived.ProofKit
import Derived.LaidMore
import Derived.OpenShut
import Derived.Stop.Joined
import Derived.Carry
import Derived.RowKit
import Derived.ChangeSame
import Derived.JoinedOf
import Derived.JoinedAt
import Derived.Laws.IdiomArrays
import Derived.Test.YtfnkbmlmgnadmaaGreatPu14
import Derived.Test.YtfnkbmlmgnadmaaGreatPu13
import Derived.Test.YtfnkbmlmgnadmaaGreatRows
import Derived.Test.YtfnkbmlmgnadmaaGreatPu00
set_option maxRecDepth 100000
set_option linter.unusedVariables false
set_option linter.unusedSimpArgs false
noncomputable section
namespace Go.Proofs.YtfnkbmlmgnadmaaGreat.Ex
open Go.Proofs.Tryz
open Go.RowKit
theorem aFq {A B : List Nat} (hA : A.length = 32) : (∀ k,k < 64 → (A ++ B).getD k 0 = 0) ↔ (∀ k,k < 32 → A.getD k 0 = 0) ∧ ∀ k,k < 32 → B.getD k 0 = 0:=by
 have h1 : ∀ k,k < 32 → (A ++ B).getD k 0 = A.getD k 0:=fun k hk => by rw [List.getD_eq_getElem?_getD,List.getElem?_append_left (by omega),← List.getD_eq_getElem?_getD]
 have h2 : ∀ k,(A ++ B).getD (32 + k) 0 = B.getD k 0:=fun k => by rw [List.getD_eq_getElem?_getD,List.getElem?_append_right (by omega),hA,Nat.add_sub_cancel_left,← List.getD_eq_getElem?_getD]
 constructor
 ·intro h;exact ⟨fun k hk => by rw [← h1 k hk]; exact h k (by omega),fun k hk => by rw [← h2 k]; exact h (32 + k) (by omega)⟩
 ·rintro ⟨g1,g2⟩ k hk
  by_cases hlt : k < 32
  ·rw [h1 k hlt]; exact g1 k hlt
  ·obtain ⟨j,rfl⟩ : ∃ j,k = 32 + j:=⟨k - 32,by omega⟩
   rw [h2 j]; exact g2 j (by omega)
def zz6 (L : List Nat) : List At:=zL (lB (L.take 32)) ++ bL (lB (L.drop 32))
def wZ (L : List Nat) : List Nat:=zN (lB (L.take 32)) ++ bN (lB (L.drop 32))
theorem QP (L : List Nat) : (wZ L).take 32 = zN (lB (L.take 32)):=rfl
theorem QQ {L : List Nat} (h : L6 L) : (wZ L).drop 32 = L.drop 32:=by
 have : (wZ L).drop 32 = bN (lB (L.drop 32)):=rfl;rw [this];exact cQ h.2.1
theorem XW {L : List Nat} (h : L6 L) : L6 (wZ L):=⟨by rw [QP]; exact aKc h.1,by rw [QQ h]; exact h.2⟩
theorem AB {L : List Nat} (h : L6 L) : (∀ k,k < 64 → (wZ L).getD k 0 = 0) ↔ hi L = 0 ∧ lo L = 0:=by
 have e1 : bN (lB (L.drop 32)) = L.drop 32:=cQ h.2.1;unfold wZ;rw [e1,aFq (aFF h.1.1),← xD,← xD,aEk h.1];exact Iff.rfl
theorem AR {L : List Nat} (h6 : L6 L) {m : Nat} (hb : (L.take 32).getD 0 0 / 64 = m) : aP (p64 m (lB (L.take 32)) (lB (L.drop 32))):=⟨by
 rw [show bN (lB (L.take 32)) = L.take 32 from cQ h6.1.1,show bN (lB (L.drop 32)) = L.drop 32 from cQ h6.2.1,List.take_append_drop];exact h6,hb,trivial⟩
theorem hv6 (L : List Nat) (h6 : L6 L) : hv ((wZ L).take 32) = hi L ∧ hv ((wZ L).drop 32) = lo L:=⟨by rw [QP,aEk h6.1]; rfl,by rw [QQ h6]; rfl⟩
theorem aEH {L : List Nat} (h6 : L6 L) (h : fY (hi L) = true) (h' : fY (lo L) = true) (cap : Nat) (hc : 64 ≤ cap) : LH (zz6 L) 64 cap (CU [.q (hi L),.q (lo L)] 2):=fun args w ha => by
 obtain ⟨e1,e2⟩:=hv6 L h6;have hh:=aHV [.s (zz6 L) 64 cap] [L6 (wZ L),64 ≤ cap,fY (hv ((wZ L).take 32)) = true,fY (hv ((wZ L).drop 32)) = true] (CU [.q (hv ((wZ L).take 32)),.q (hv ((wZ L).drop 32))] 2) rfl ⟨XW h6,hc,by rw [e1]; exact h,by rw [e2]; exact h',trivial⟩ args w ha;rw [e1,e2] at hh;exact hh
theorem aEG {L : List Nat} (h6 : L6 L) (h : ¬ (fY (hi L) = true ∧ fY (lo L) = true)) (cap : Nat) (hc : 64 ≤ cap) : kN 37 [.s (zz6 L) 64 cap] PY:=fun args w ha => by
 obtain ⟨e1,e2⟩:=hv6 L h6;exact aHU [.s (zz6 L) 64 cap] [L6 (wZ L),64 ≤ cap,¬ (fY (hv ((wZ L).take 32)) = true ∧ fY (hv ((wZ L).drop 32)) = true)] PY rfl ⟨XW h6,hc,by rw [e1,e2]; exact h,trivial⟩ args w ha
theorem aEs (L : List Nat) : wv (hi L) = hi L:=aKj _
theorem Lu {L : List Nat} (h : L6 L) : wv (lo L) = lo L:=aEr h.2
def pN (p : dM) (e : Int) : RV:=.many [.fl (dR p),.im (.int .i64 e)]
def pY : dM:=((0,0),(0,0),false)
theorem dN : aC tL = aC (dR pY):=by kernel_rfl
theorem Ux : aC iG2 = aC (dR ((0,0),(0,0),true)):=by kernel_rfl
def S1 (l : List At) (n cap : Nat) (p : dM) (e : Int) : Prop:=kN 16 [.s l n cap] (pN p e)
def S2 (l : List At) (n cap : Nat) (p : dM) (e : Int) : Prop:=kN 17 [.s l n cap] (pN p e)
def Ft (l : List At) (n : Nat) : Prop:=∃ p e,(∀ cap,n ≤ cap → S1 l n cap p e) ∧ ∀ cap,S2 l n cap p e
theorem Xx {p : dM} (h : (dI p.1 p.2.1 p.2.2).1 ≠ 0) : gH p = (dI p.1 p.2.1 p.2.2).1:=by rw [xJ,if_pos h]
theorem Xw {p : dM} (h : (dI p.1 p.2.1 p.2.2).1 = 0) : gH p = if eH p = true then 0 else 42:=by rw [xJ,if_neg (fun q => q h)]
theorem Ev {p : dM} (h : (dI p.1 p.2.1 p.2.2).1 = 0) (hi : eH p = true) : gH p = 0:=by rw [Xw h,if_pos hi]
theorem ZB {p : dM} (h : (dI p.1 p.2.1 p.2.2).1 = 0) (hi : eH p = false) : gH p = 42:=by rw [Xw h,if_neg (by rw [hi]; simp)]
theorem Xv {x y : N2} (h : ¬ (xV x ∧ xV y)) : gH (x,y,true) = 44:=by
 have e : (dI x y true).1 = 44:=by rw [jI,if_pos rfl,if_neg h]
 rw [Xx (p:=(x,y,true)) (by show (dI x y true).1 ≠ 0; rw [e]; decide)];exact e
theorem aCS : eH ((0,0),(0,0),true) = true:=tIn 0
theorem Eu : gH ((0,0),(0,0),true) = 0 :=
 Ev (p:=((0,0),(0,0),true)) (by show (dI (0,0) (0,0) true).1 = 0; rw [jI,if_pos rfl,if_pos ⟨⟨by kernel_rfl,by kernel_rfl⟩,by kernel_rfl,by kernel_rfl⟩]) aCS
theorem aDK {x y : N2} (h : ¬ (gD x ∧ gD y)) : (dI x y false).1 = 21:=by rw [jI,if_neg (by simp),if_pos h]
theorem Xu {x y : N2} (h : ¬ (gD x ∧ gD y)) : gH (x,y,false) = 21:=by
 have e:=aDK h;rw [Xx (p:=(x,y,false)) (by show (dI x y false).1 ≠ 0; rw [e]; decide)];exact e
theorem Lq (x : Q2) : DF x = F2.add (F2.mul (F2.mul x x) x) lY:=rfl
theorem Et {x y : N2} (hx : gD x) (hy : gD y) (h : F2.mul (m2 y) (m2 y) ≠ DF (m2 x)) : (dI x y false).1 = 41:=by
 rw [jI,if_neg (by simp),if_neg (fun q : ¬ (gD x ∧ gD y) => q ⟨hx,hy⟩),if_neg (fun q => h (q.trans (Lq _).symm))]
theorem Xt {x y : N2} (hx : gD x) (hy : gD y) (h : F2.mul (m2 y) (m2 y) ≠ DF (m2 x)) : gH (x,y,false) = 41:=by
 have e:=Et hx hy h;rw [Xx (p:=(x,y,false)) (by show (dI x y false).1 ≠ 0; rw [e]; decide)];exact e
theorem Xs {x y : N2} (hx : gD x) (hy : gD y) (h : F2.mul (m2 y) (m2 y) = DF (m2 x)) : (dI x y false).1 = 0:=by
 rw [jI,if_neg (by simp),if_neg (fun q : ¬ (gD x ∧ gD y) => q ⟨hx,hy⟩),if_pos (h.trans (Lq _))]
theorem UF (x : N2) : yK x = DF (m2 x):=by unfold yK DF cu2; rw [F2.mul_comm (m2 x) (F2.mul (m2 x) (m2 x))]
theorem Ty (y : Q2) : m2 (gZ y) = y:=Prod.ext (aLp y.1) (aLp y.2)
theorem kJ (y : Q2) : gD (gZ y):=⟨Yj y.1,Yj y.2⟩
theorem aHt (y : Q2) : lw2 (gZ y) = true ↔ wH y:=by
 have e1 : wv y.1.1 = y.1.1:=bF y.1.2;have e2 : wv y.2.1 = y.2.1:=bF y.2.2;unfold lw2 wH;show (if wv y.2.1 = 0 then fV FP.M (wv y.1.1) else fV FP.M (wv y.2.1)) = true ↔ _;rw [e1,e2]
 by_cases h : y.2.1 = 0
 ·rw [if_pos h];have h' : y.2 = F1.zero:=Fin.ext h;exact ⟨fun q => ⟨fun _ => q,fun n => absurd h' n⟩,fun q => q.1 h'⟩
 ·rw [if_neg h];have h' : y.2 ≠ F1.zero:=fun e => h (congrArg Fin.val e)
  exact ⟨fun q => ⟨fun e => absurd e h',fun _ => q⟩,fun q => q.2 h'⟩
theorem Pk {x : Q2} (h : fW x) : F2.mul (rt x) (rt x) = x ∧ wH (rt x):=by
 obtain ⟨r,hr⟩:=h
 by_cases hl : wH r
 ·rw [vG hr hl]; exact ⟨hr,hl⟩
 ·have hl' : wH (F2.neg r):=by
   refine ⟨fun e => ?_,fun e => ?_⟩
   ·have e2 : r.2 = F1.zero:=by rw [← F1.neg_neg r.2,show F1.neg r.2 = F1.zero from e,bP]
    by_cases h1 : fD r.1 = true
    ·exact absurd ⟨fun _ => h1,fun n => absurd e2 n⟩ hl
    ·exact mI (by simpa using h1)
   ·have e2 : r.2 ≠ F1.zero:=fun z => e (by show F1.neg r.2 = F1.zero; rw [z,bP])
    by_cases h1 : fD r.2 = true
    ·exact absurd ⟨fun z => absurd z e2,fun _ => h1⟩ hl
    ·exact mI (by simpa using h1)
  rw [vG ((xA r).trans hr) hl'];exact ⟨(xA r).trans hr,hl'⟩
theorem Ki : fW F2.zero:=⟨F2.zero,F2.mul_zero _⟩
theorem aHo (p : dM) : (gS true p).2 = pN p 0:=rfl
theorem aHp (p : dM) : (gS false p).2 = .many [.fl tL,.im (.int .i64 (gH p))]:=rfl
theorem aCv (p : dM) : (gS true p).1 = [gH p = 0]:=rfl
theorem aCw (p : dM) : (gS false p).1 = [gH p ≠ 0]:=rfl
theorem fU {x y : N2} {i : Bool} {l : List At} {n cap : Nat} {e : Int} (he : gH (x,y,i) = e) (h0 : e ≠ 0) (h : aP (gS false (x,y,i)).1 → kN 16 [.s l n cap] (gS false (x,y,i)).2) : S1 l n cap pY e:=fun args w ha => by
 have hh:=h (by rw [aCw]; exact ⟨by rw [he]; exact h0,trivial⟩) args w ha;rw [aHp,he] at hh;exact dO dN hh
theorem rV {x y : N2} {i : Bool} {l : List At} {n cap : Nat} (he : gH (x,y,i) = 0) (h : aP (gS true (x,y,i)).1 → kN 16 [.s l n cap] (gS true (x,y,i)).2) : S1 l n cap (x,y,i) 0:=fun args w ha => by
 have hh:=h (by rw [aCv]; exact ⟨he,trivial⟩) args w ha;rw [aHo] at hh;exact hh
theorem rJ {l : List At} {n c : Nat} (h : kN 36 [.s l n c,.v (.im (.int .i64 64))] (Jh 44)) : S2 l n c pY 44:=fun args w ha =>
 dO dN (aD aG (fun _ _ => aEQ 44) (aH prog) func17 (NS l n c) ⟨h,trivial⟩ ha)
theorem PB {l rest : List At} {n c : Nat} (h : nB l n c (IG rest n 1 true)) : S2 l n c ((0,0),(0,0),true) 0:=fun args w ha =>
 dO Ux (aU aG (fun _ _ => (dB _).w _ _) (Ls rest n 1 true w) func17 (NT l rest n c) ⟨h,trivial⟩ ha)
theorem pM {l rest : List At} {n m c : Nat} (h : nB l n c (IG rest n m false)) (hp : ∀ cap,n ≤ cap → kN 37 [.s rest n cap] PY) : S2 l n c pY 21:=fun args w ha =>
 dO dN (gQ h (fun cap hc => ⟨qG prog,iK aJH,_,fun w => (aH _).w _ _,fun _ _ => aLb,aKP rest n m cap,hp cap hc,trivial⟩) (by kernel_rfl) args w ha)
theorem PA {l rest : List At} {n m c : Nat} {x : N2} (h : nB l n c (IG rest n m false)) (hp : ∀ cap,n ≤ cap → LH rest n cap (CU [.q x.2,.q x.1] 2)) (hs : ¬ fW (yK x)) : S2 l n c pY 41:=fun args w ha =>
 dO dN (gQ h (fun cap hc => ⟨_,iK aJI,_,nD [.q x.2,.q x.1] 2,fun _ _ => aLd,aBE rest n m cap x,hp cap hc,hs,trivial⟩) (by kernel_rfl) args w ha)
theorem RU (x : N2) (y : Q2) (i : Bool) : aC [.q x.1,.q x.2,.f y.1,.f y.2,.c (.bool i)] = aC (dR (x,gZ y,i)):=rfl
theorem aBv {l rest : List At} {n c : Nat} {x : N2} {y : Q2} (h : nB l n c (IG rest n 2 false)) (hp : ∀ cap,n ≤ cap → LH rest n cap (CU [.q x.2,.q x.1] 2)) (hs : fW (yK x)) (hy : rt (yK x) = y) (hl : lw2 (gZ y) = true) (hc : (dI x (gZ y) false).1 = 0) (hi : eH (x,gZ y,false) = true) : S2 l n c (x,gZ y,false) 0:=fun args w ha => by
 have hh:=gQ h (fun cap hcap => ⟨_,iK (qV y true true),_,nD [.q x.2,.q x.1] 2,fun _ _ => zV y true true,Qi rest n cap x y,aN.2 ⟨aN.2 ⟨⟨hp cap hcap,hs,hy,trivial⟩,(kJ y).1,(kJ y).2,hl,trivial⟩,hc,hi,trivial⟩⟩) (by kernel_rfl) args w ha;exact dO (RU x y false) hh
theorem aBw {l rest : List At} {n c : Nat} {x : N2} {y : Q2} (h : nB l n c (IG rest n 2 false)) (hp : ∀ cap,n ≤ cap → LH rest n cap (CU [.q x.2,.q x.1] 2)) (hs : fW (yK x)) (hy : rt (yK x) = y) (hl : lw2 (gZ y) = true) (hc : (dI x (gZ y) false).1 = 0) (hi : eH (x,gZ y,false) = false) : S2 l n c pY 42:=fun args w ha => by
 have hh:=gQ h (fun cap hcap => ⟨_,iK (qV y true false),_,nD [.q x.2,.q x.1] 2,fun _ _ => zV y true false,Qj rest n cap x y,aN.2 ⟨aN.2 ⟨⟨hp cap hcap,hs,hy,trivial⟩,(kJ y).1,(kJ y).2,hl,trivial⟩,hc,hi,trivial⟩⟩) (by kernel_rfl) args w ha;exact dO dN hh
theorem aBt {l rest : List At} {n c : Nat} {x : N2} {y : Q2} (h : nB l n c (IG rest n 3 false)) (hp : ∀ cap,n ≤ cap → LH rest n cap (CU [.q x.2,.q x.1] 2)) (hs : fW (yK x)) (hy : rt (yK x) = y) (hl : lw2 (gZ y) = true) (hc : (dI x (gZ (F2.neg y)) false).1 = 0) (hi : eH (x,gZ (F2.neg y),false) = true) : S2 l n c (x,gZ (F2.neg y),false) 0:=fun args w ha => by
 have hc2 : (dI x (gZ (F2.sub F2.zero y)) false).1 = 0:=by rw [jT]; exact hc
 have hi2 : eH (x,gZ (F2.sub F2.zero y),false) = true:=by rw [jT]; exact hi
 have hh:=gQ h (fun cap hcap => ⟨_,iK (qV y true true),_,nD [.q x.2,.q x.1] 2,fun _ _ => zV y true true,Qg rest n cap x y,aN.2 ⟨aN.2 ⟨⟨hp cap hcap,hs,hy,trivial⟩,(kJ y).1,(kJ y).2,hl,trivial⟩,hc2,hi2,trivial⟩⟩) (by kernel_rfl) args w ha;rw [jT] at hh;exact dO (RU x (F2.neg y) false) hh
theorem aBu {l rest : List At} {n c : Nat} {x : N2} {y : Q2} (h : nB l n c (IG rest n 3 false)) (hp : ∀ cap,n ≤ cap → LH rest n cap (CU [.q x.2,.q x.1] 2)) (hs : fW (yK x)) (hy : rt (yK x) = y) (hl : lw2 (gZ y) = true) (hc : (dI x (gZ (F2.neg y)) false).1 = 0) (hi : eH (x,gZ (F2.neg y),false) = false) : S2 l n c pY 42:=fun args w ha => by
 have hc2 : (dI x (gZ (F2.sub F2.zero y)) false).1 = 0:=by rw [jT]; exact hc
 have hi2 : eH (x,gZ (F2.sub F2.zero y),false) = false:=by rw [jT]; exact hi
 have hh:=gQ h (fun cap hcap => ⟨_,iK (qV y true false),_,nD [.q x.2,.q x.1] 2,fun _ _ => zV y true false,Qh rest n cap x y,aN.2 ⟨aN.2 ⟨⟨hp cap hcap,hs,hy,trivial⟩,(kJ y).1,(kJ y).2,hl,trivial⟩,hc2,hi2,trivial⟩⟩) (by kernel_rfl) args w ha;exact dO dN hh
theorem Pz {l rest : List At} {n m c : Nat} {x y : N2} (h : nB l n c (IG rest n m false)) (hp : ∀ cap,n ≤ cap → LH rest n cap (CU [.q x.2,.q x.1,.q y.2,.q y.1] 4)) (hc : (dI x y false).1 = 0) (hi : eH (x,y,false) = true) : S2 l n c (x,y,false) 0:=fun args w ha =>
 gQ (r:=dR (x,y,false)) h (fun cap hcap => ⟨_,iK (qV F2.zero true true),_,nD [.q x.2,.q x.1,.q y.2,.q y.1] 4,fun _ _ => zV F2.zero true true,Qk rest n m cap x y,hp cap hcap,hc,hi,trivial⟩) (by kernel_rfl) args w ha
theorem Qa {l rest : List At} {n m c : Nat} {x y : N2} (h : nB l n c (IG rest n m false)) (hp : ∀ cap,n ≤ cap → LH rest n cap (CU [.q x.2,.q x.1,.q y.2,.q y.1] 4)) (hc : (dI x y false).1 = 0) (hi : eH (x,y,false) = false) : S2 l n c pY 42:=fun args w ha =>
 dO dN (gQ h (fun cap hcap => ⟨_,iK (qV F2.zero true false),_,nD [.q x.2,.q x.1,.q y.2,.q y.1] 4,fun _ _ => zV F2.zero true false,Ql rest n m cap x y,hp cap hcap,hc,hi,trivial⟩) (by kernel_rfl) args w ha)
theorem Qb {l rest : List At} {n m c : Nat} {x y : N2} (h : nB l n c (IG rest n m false)) (hp : ∀ cap,n ≤ cap → LH rest n cap (CU [.q x.2,.q x.1,.q y.2,.q y.1] 4)) (hc : (dI x y false).1 ≠ 0) : S2 l n c pY (dI x y false).1:=fun args w ha =>
 dO dN (gQ h (fun cap hcap => ⟨_,cfN (qV F2.zero false true) 84,_,nD [.q x.2,.q x.1,.q y.2,.q y.1] 4,fun _ _ => zV F2.zero false true,Qm rest n m cap x y,hp cap hcap,by show some (Value.bool ((dI x y false).1 != 0)) = _; rw [bne_iff_ne.2 hc],trivial⟩) (by kernel_rfl) args w ha)
theorem aEn (d : Bool) (x : N2) : FQ 2 d x = rt2 d (DF (m2 x)):=by unfold FQ; rw [show Nat.beq 2 3 = false from rfl,cond_false]
theorem aEm (d : Bool) (x : N2) : FQ 3 d x = F2.neg (rt2 d (DF (m2 x))):=by unfold FQ; rw [show Nat.beq 3 3 = true from rfl,cond_true]
theorem aEz (s : Q2) : rt2 true s = rt s:=by unfold rt2; rw [cond_true]
theorem aEA (s : Q2) : rt2 false s = F2.zero:=by unfold rt2; rw [cond_false]
theorem Jz : F2.neg F2.zero = F2.zero:=bP F2
theorem aKg (m : Nat) (hm : m = 2 ∨ m = 3) (x : N2) : FQ m false x = F2.zero:=by
 rcases hm with rfl | rfl
 ·rw [aEn,aEA]
 ·rw [aEm,aEA,Jz]
theorem BO {l rest : List At} {x : N2} {m : Nat} (hm : m = 2 ∨ m = 3)
  (hours : ∀ (d a : Bool),aP (pR2 d x) → ∀ cap,64 ≤ cap → aP (gS a (x,gZ (FQ m d x),false)).1 → kN 16 [.s l 64 cap] (gS a (x,gZ (FQ m d x),false)).2)
  (href : ∀ c,nB l 64 c (IG rest 64 m false)) (hpa : gD x → ∀ cap,64 ≤ cap → LH rest 64 cap (CU [.q x.2,.q x.1] 2)) (hpn : ¬ gD x → ∀ cap,64 ≤ cap → kN 37 [.s rest 64 cap] PY) : Ft l 64:=by
 by_cases hk : gD x
 ·have hpa:=hpa hk
  by_cases hs : fW (DF (m2 x))
  ·have hsp:=Pk hs;have hg : aP (pR2 true x):=⟨hs,trivial⟩;have hsR : fW (yK x):=by rw [UF]; exact hs
   have hyR : rt (yK x) = rt (DF (m2 x)):=by rw [UF]
   have h2X : FQ 2 true x = rt (DF (m2 x)):=by rw [aEn,aEz]
   have h3X : FQ 3 true x = F2.neg (rt (DF (m2 x))):=by rw [aEm,aEz]
   generalize hy : rt (DF (m2 x)) = y at *;have hl : lw2 (gZ y) = true:=(aHt y).2 hsp.2;have hc2 : (dI x (gZ y) false).1 = 0:=Xs hk (kJ y) (by rw [Ty]; exact hsp.1);have hc3 : (dI x (gZ (F2.neg y)) false).1 = 0:=Xs hk (kJ _) (by rw [Ty,xA]; exact hsp.1)
   rcases hm with rfl | rfl
   ·have ho:=fun a => hours true a hg
    rw [h2X] at ho;cases hi : eH (x,gZ y,false)
    ·exact ⟨pY,42,fun cap hc => fU (ZB (p:=(x,gZ y,false)) hc2 hi) (by decide) (ho false cap hc),fun c => aBw (href c) hpa hsR hyR hl hc2 hi⟩
    ·exact ⟨(x,gZ y,false),0,fun cap hc => rV (Ev (p:=(x,gZ y,false)) hc2 hi) (ho true cap hc),fun c => aBv (href c) hpa hsR hyR hl hc2 hi⟩
   ·have ho:=fun a => hours true a hg
    rw [h3X] at ho;cases hi : eH (x,gZ (F2.neg y),false)
    ·exact ⟨pY,42,fun cap hc => fU (ZB (p:=(x,gZ (F2.neg y),false)) hc3 hi) (by decide) (ho false cap hc),fun c => aBu (href c) hpa hsR hyR hl hc3 hi⟩
    ·exact ⟨(x,gZ (F2.neg y),false),0,fun cap hc => rV (Ev (p:=(x,gZ (F2.neg y),false)) hc3 hi) (ho true cap hc),fun c => aBt (href c) hpa hsR hyR hl hc3 hi⟩
  ·have hg : aP (pR2 false x):=⟨hs,trivial⟩;obtain ⟨z,hz⟩ : ∃ z,z = F2.zero:=⟨_,rfl⟩
   have hyx : FQ m false x = z:=(aKg m hm x).trans hz.symm;have hz2 : F2.mul z z = F2.zero:=by rw [hz,F2.mul_zero]
   have hne : F2.mul (m2 (gZ z)) (m2 (gZ z)) ≠ DF (m2 x):=fun e => hs (by rw [← e,Ty,hz2]; exact Ki)
   have hc4 : gH (x,gZ z,false) = 41:=Xt hk (kJ z) hne;have hs' : ¬ fW (yK x):=by rw [UF]; exact hs
   have ho:=hours false false hg;rw [hyx] at ho;exact ⟨pY,41,fun cap hc => fU hc4 (by decide) (ho cap hc),fun c => PA (href c) hpa hs'⟩
 ·have hc5 : ∀ y,gH (x,y,false) = 21:=fun y => Xu fun q => hk q.1
  have hr : ∀ c,S2 l 64 c pY 21:=fun c => pM (href c) (hpn hk)
  by_cases hs : fW (DF (m2 x))
  ·exact ⟨pY,21,fun cap hc => fU (hc5 _) (by decide) (hours true false ⟨hs,trivial⟩ cap hc),hr⟩
  ·exact ⟨pY,21,fun cap hc => fU (hc5 _) (by decide) (hours false false ⟨hs,trivial⟩ cap hc),hr⟩
theorem FG {l : List At} {L : List Nat} (hL : kY l = some L) (h6 : L6 L) {m : Nat} (hm : m = 2 ∨ m = 3) (hb : (L.take 32).getD 0 0 / 64 = m) (c : Nat) : nB l 64 c (IG (zz6 L) 64 m false):=fun args w ha => by
 rcases hm with rfl | rfl
 ·exact bJ aG (fun _ _ => (pP true).w _ _) (lC 2 w) func36 (WO (lB (L.take 32)) (lB (L.drop 32)) c) (AR h6 hb) (pJ (gI hL h6) ha)
 ·exact bJ aG (fun _ _ => (pP true).w _ _) (lC 3 w) func36 (WN (lB (L.take 32)) (lB (L.drop 32)) c) (AR h6 hb) (pJ (gI hL h6) ha)
theorem ZH {l : List At} {L : List Nat} (hL : kY l = some L) (h6 : L6 L) (hb : (L.take 32).getD 0 0 / 64 = 1) (hz : ∀ k,k < 64 → (wZ L).getD k 0 = 0) (c : Nat) : nB l 64 c (IG (zz6 L) 64 1 true):=fun args w ha =>
 bJ aG (fun _ _ => (pP true).w _ _) (lC 1 w) func36 (OI (lB (L.take 32)) (lB (L.drop 32)) c) (aN.2 ⟨AR h6 hb,rfl,by decide,hz,trivial⟩) (pJ (gI hL h6) ha)
theorem BR {l : List At} {L : List Nat} (hL : kY l = some L) (h6 : L6 L) (h : (L.take 32).getD 0 0 / 64 = 0 ∨ (L.take 32).getD 0 0 / 64 = 1 ∧ ¬ ∀ k,k < 64 → (wZ L).getD k 0 = 0) (c : Nat) : kN 36 [.s l 64 c,.v (.im (.int .i64 64))] (Jh 44):=fun args w ha => by
 rcases h with hb | ⟨hb,hz⟩
 ·exact aU aG (fun _ _ => (pP true).w _ _) (lC 0 w) func36 (WP (lB (L.take 32)) (lB (L.drop 32)) c) (AR h6 hb) (pJ (gI hL h6) ha)
 ·exact aU aG (fun _ _ => (pP false).w _ _) (lC 1 w) func36 (OJ (lB (L.take 32)) (lB (L.drop 32)) c) (aN.2 ⟨AR h6 hb,rfl,by decide,hz,trivial⟩) (pJ (gI hL h6) ha)
theorem oZ (x : N2) : gD x ↔ (fY x.2 = true ∧ fY x.1 = true):=⟨fun h => ⟨kZ.2 h.2,kZ.2 h.1⟩,fun h => ⟨kZ.1 h.2,kZ.1 h.1⟩⟩
theorem aDO {l : List At} {L : List Nat} (hL : kY l = some L) (h6 : L6 L) : Ft l 64:=by
 rcases Da h6.1 with hb | hb | hb | hb
 ·exact ⟨pY,44,fun cap hc args w ha => dO dN (aBC hL h6 hb hc args w ha),fun cap => rJ (BR hL h6 (Or.inl hb) cap)⟩
 ·by_cases hz : ∀ k,k < 64 → (wZ L).getD k 0 = 0
  ·obtain ⟨e1,e2⟩:=(AB h6).1 hz;have hx : x6 L = (0,0):=Prod.ext e2 e1;refine ⟨((0,0),(0,0),true),0,fun cap hc => ?_,fun cap => PB (ZH hL h6 hb hz cap)⟩;have hq:=fun q args w ha => Qf (c:=cap) (l:=l) true hL h6 hb hc q args w ha
   rw [hx] at hq;exact rV Eu hq
  ·have hck : gH (x6 L,(0,0),true) = 44:=Xv fun q => hz ((AB h6).2 ⟨by rw [← aEs]; exact q.1.2,by rw [← Lu h6]; exact q.1.1⟩)
   exact ⟨pY,44,fun cap hc => fU hck (by decide) fun q args w ha => Qf false hL h6 hb hc q args w ha,fun cap => rJ (BR hL h6 (Or.inr ⟨hb,hz⟩) cap)⟩
 ·exact BO (x:=x6 L) (Or.inl rfl) (fun d a hg cap hc hp args w ha => Bm (Or.inl rfl) d a hL h6 hb hc hg hp args w ha) (FG hL h6 (Or.inl rfl) hb) (fun h cap hc => aEH h6 ((oZ _).1 h).1 ((oZ _).1 h).2 cap hc) (fun h cap hc => aEG h6 (fun q => h ((oZ _).2 q)) cap hc)
 ·exact BO (x:=x6 L) (Or.inr rfl) (fun d a hg cap hc hp args w ha => Bm (Or.inr rfl) d a hL h6 hb hc hg hp args w ha) (FG hL h6 (Or.inr rfl) hb) (fun h cap hc => aEH h6 ((oZ _).1 h).1 ((oZ _).1 h).2 cap hc) (fun h cap hc => aEG h6 (fun q => h ((oZ _).2 q)) cap hc)
theorem Va {L : List Nat} (h : LL L) {m : Nat} (hb : ((L.take 64).take 32).getD 0 0 / 64 = m) : aP (Jo m (lB ((L.take 64).take 32)) (lB ((L.take 64).drop 32)) (lB ((L.drop 64).take 32)) (lB ((L.drop 64).drop 32))):=⟨by
 have e : bN4 (lB ((L.take 64).take 32)) (lB ((L.take 64).drop 32)) (lB ((L.drop 64).take 32)) (lB ((L.drop 64).drop 32)) = L:=bLN h;rw [e];exact h,hb,trivial⟩
theorem mP {l : List At} {L : List Nat} (hL : kY l = some L) (h6 : LL L) (hb : ((L.take 64).take 32).getD 0 0 / 64 = 0) (c : Nat) : nB l 128 c (IG (zz4 L) 128 0 false):=fun args w ha =>
 bJ aG (fun _ _ => (pP true).w _ _) (lC 0 w) func36 (OM _ _ _ _ c) (Va h6 hb) (pJ (iE hL h6) ha)
theorem SN {l : List At} {L : List Nat} (hL : kY l = some L) (h6 : LL L) (hb : ((L.take 64).take 32).getD 0 0 / 64 = 1) (hz : ∀ k,k < 128 → (TC L).getD k 0 = 0) (c : Nat) : nB l 128 c (IG (zz4 L) 128 1 true):=fun args w ha =>
 bJ aG (fun _ _ => (pP true).w _ _) (lC 1 w) func36 (GR (lB ((L.take 64).take 32)) (lB ((L.take 64).drop 32)) (lB ((L.drop 64).take 32)) (lB ((L.drop 64).drop 32)) c) (aN.2 ⟨Va h6 hb,rfl,by decide,hz,trivial⟩) (pJ (iE hL h6) ha)
theorem oJ {l : List At} {L : List Nat} (hL : kY l = some L) (h6 : LL L) (h : ((L.take 64).take 32).getD 0 0 / 64 = 2 ∨ ((L.take 64).take 32).getD 0 0 / 64 = 3 ∨ ((L.take 64).take 32).getD 0 0 / 64 = 1 ∧ ¬ ∀ k,k < 128 → (TC L).getD k 0 = 0) (c : Nat) : kN 36 [.s l 128 c,.v (.im (.int .i64 64))] (Jh 44):=fun args w ha => by
 rcases h with hb | hb | ⟨hb,hz⟩
 ·exact aU aG (fun _ _ => (pP true).w _ _) (lC 2 w) func36 (OL _ _ _ _ c) (Va h6 hb) (pJ (iE hL h6) ha)
 ·exact aU aG (fun _ _ => (pP true).w _ _) (lC 3 w) func36 (OK _ _ _ _ c) (Va h6 hb) (pJ (iE hL h6) ha)
 ·exact aU aG (fun _ _ => (pP false).w _ _) (lC 1 w) func36 (GS (lB ((L.take 64).take 32)) (lB ((L.take 64).drop 32)) (lB ((L.drop 64).take 32)) (lB ((L.drop 64).drop 32)) c) (aN.2 ⟨Va h6 hb,rfl,by decide,hz,trivial⟩) (pJ (iE hL h6) ha)
theorem aDW {A B : List Nat} {n m : Nat} (hA : A.length = n) : (∀ k,k < n + m → (A ++ B).getD k 0 = 0) ↔ (∀ k,k < n → A.getD k 0 = 0) ∧ ∀ k,k < m → B.getD k 0 = 0:=by
 have h1 : ∀ k,k < n → (A ++ B).getD k 0 = A.getD k 0:=fun k hk => by rw [List.getD_eq_getElem?_getD,List.getElem?_append_left (by omega),← List.getD_eq_getElem?_getD]
 have h2 : ∀ k,(A ++ B).getD (n + k) 0 = B.getD k 0:=fun k => by rw [List.getD_eq_getElem?_getD,List.getElem?_append_right (by omega),hA,Nat.add_sub_cancel_left,← List.getD_eq_getElem?_getD]
 constructor
 ·intro h;exact ⟨fun k hk => by rw [← h1 k hk]; exact h k (by omega),fun k hk => by rw [← h2 k]; exact h (n + k) (by omega)⟩
 ·rintro ⟨g1,g2⟩ k hk
  by_cases hlt : k < n
  ·rw [h1 k hlt]; exact g1 k hlt
  ·obtain ⟨j,rfl⟩ : ∃ j,k = n + j:=⟨k - n,by omega⟩
   rw [h2 j]; exact g2 j (by omega)
theorem Ey (L : List Nat) : kY (zz4 L) = some (TC L):=by kernel_rfl
theorem QS (L : List Nat) : (TC L).take 64 = wZ (L.take 64):=rfl
theorem QT {L : List Nat} (h : LL L) : (TC L).drop 64 = L.drop 64:=by
 have e : (TC L).drop 64 = bN (lB ((L.drop 64).take 32)) ++ bN (lB ((L.drop 64).drop 32)):=rfl;rw [e];exact b6N h.2
theorem Ti {L : List Nat} (h : LL L) : LL (TC L):=⟨by rw [QS]; exact XW h.1,by rw [QT h]; exact h.2⟩
theorem QR {L : List Nat} (h : LL L) : (∀ k,k < 128 → (TC L).getD k 0 = 0) ↔ (h4 L = 0 ∧ i4 L = 0) ∧ (j4 L = 0 ∧ k4 L = 0):=by
 have e1 : bN (lB ((L.drop 64).take 32)) = (L.drop 64).take 32:=cQ h.2.1.1;have e2 : bN (lB ((L.drop 64).drop 32)) = (L.drop 64).drop 32:=cQ h.2.2.1;have hA : (wZ (L.take 64)).length = 64:=rfl;have key : (∀ k,k < 64 + 64 → (wZ (L.take 64) ++ ((L.drop 64).take 32 ++ (L.drop 64).drop 32)).getD k 0 = 0) ↔ _:=aDW hA;rw [AB h.1,aFq h.2.1.1,← xD,← xD] at key;have e : TC L = wZ (L.take 64) ++ ((L.drop 64).take 32 ++ (L.drop 64).drop 32):=by
  have e0 : TC L = wZ (L.take 64) ++ (bN (lB ((L.drop 64).take 32)) ++ bN (lB ((L.drop 64).drop 32))):=rfl;rw [e0,e1,e2]
 rw [e];exact key
theorem hv4 {L : List Nat} (h : LL L) : hv (((TC L).take 64).take 32) = h4 L ∧ hv (((TC L).take 64).drop 32) = i4 L ∧ hv (((TC L).drop 64).take 32) = j4 L ∧ hv (((TC L).drop 64).drop 32) = k4 L:=by
 rw [QS,QT h];exact ⟨(hv6 (L.take 64) h.1).1,(hv6 (L.take 64) h.1).2,rfl,rfl⟩
theorem aGN {L : List Nat} (h : LL L) (hx : gD (DG L)) (hy : gD (CJ L)) (cap : Nat) (hc : 128 ≤ cap) : LH (zz4 L) 128 cap (CU [.q (DG L).2,.q (DG L).1,.q (CJ L).2,.q (CJ L).1] 4):=fun args w ha => by
 obtain ⟨e1,e2,e3,e4⟩:=hv4 h;have hb : bl4 (TC L):=by
  unfold bl4;rw [e1,e2,e3,e4];exact ⟨kZ.2 hx.2,kZ.2 hx.1,kZ.2 hy.2,kZ.2 hy.1⟩
 have hh:=aKU (Ey L) (Ti h) hc hb args w ha;rw [e1,e2,e3,e4] at hh;exact hh
theorem aBY {L : List Nat} (h : LL L) (hn : ¬ (gD (DG L) ∧ gD (CJ L))) (cap : Nat) (hc : 128 ≤ cap) : kN 37 [.s (zz4 L) 128 cap] PY:=fun args w ha => by
 obtain ⟨e1,e2,e3,e4⟩:=hv4 h;refine aKV (Ey L) (Ti h) hc (fun q => hn ?_) args w ha;unfold bl4 at q;rw [e1,e2,e3,e4] at q;exact ⟨⟨kZ.1 q.2.1,kZ.1 q.1⟩,kZ.1 q.2.2.2,kZ.1 q.2.2.1⟩
theorem Yh {l : List At} {L : List Nat} (hL : kY l = some L) (h6 : LL L) : Ft l 128:=by
 rcases Da h6.1.1 with hb | hb | hb | hb
 ·by_cases hk : gD (DG L) ∧ gD (CJ L)
  ·have hp:=aGN h6 hk.1 hk.2
   by_cases hs : F2.mul (m2 (CJ L)) (m2 (CJ L)) = DF (m2 (DG L))
   ·have hc:=Xs hk.1 hk.2 hs;cases hi : eH (DG L,CJ L,false)
    ·exact ⟨pY,42,fun cap hcap => fU (ZB (p:=(DG L,CJ L,false)) hc hi) (by decide) fun q args w ha => rK false hL h6 hb hcap q args w ha,fun c => Qa (mP hL h6 hb c) hp hc hi⟩
    ·exact ⟨(DG L,CJ L,false),0,fun cap hcap => rV (Ev (p:=(DG L,CJ L,false)) hc hi) fun q args w ha => rK true hL h6 hb hcap q args w ha,fun c => Pz (mP hL h6 hb c) hp hc hi⟩
   ·have hc:=Xt hk.1 hk.2 hs;have hc':=Et hk.1 hk.2 hs;refine ⟨pY,41,fun cap hcap => fU hc (by decide) fun q args w ha => rK false hL h6 hb hcap q args w ha,fun c => ?_⟩;have:=Qb (mP hL h6 hb c) hp (by rw [hc']; decide);rw [hc'] at this;exact this
  ·have hc:=Xu hk;exact ⟨pY,21,fun cap hcap => fU hc (by decide) fun q args w ha => rK false hL h6 hb hcap q args w ha,fun c => pM (mP hL h6 hb c) (aBY h6 hk)⟩
 ·by_cases hz : ∀ k,k < 128 → (TC L).getD k 0 = 0
  ·obtain ⟨⟨e1,e2⟩,e3,e4⟩:=(QR h6).1 hz;have hx : DG L = (0,0):=Prod.ext e2 e1;have hy : CJ L = (0,0):=Prod.ext e4 e3;refine ⟨((0,0),(0,0),true),0,fun cap hcap => ?_,fun c => PB (SN hL h6 hb hz c)⟩;have hq:=fun q args w ha => Bl (c:=cap) (l:=l) true hL h6 hb hcap q args w ha
   rw [hx,hy] at hq;exact rV Eu hq
  ·have hc : gH (DG L,CJ L,true) = 44:=Xv fun q => hz ((QR h6).2 ⟨⟨(aEs (L.take 64)).symm.trans q.1.2,(Lu h6.1).symm.trans q.1.1⟩,(aEr h6.2.1).symm.trans q.2.2,(Lu h6.2).symm.trans q.2.1⟩)
   exact ⟨pY,44,fun cap hcap => fU hc (by decide) fun q args w ha => Bl false hL h6 hb hcap q args w ha,fun c => rJ (oJ hL h6 (Or.inr (Or.inr ⟨hb,hz⟩)) c)⟩
 ·exact ⟨pY,44,fun cap hcap args w ha => dO dN (PC (Or.inl rfl) hL h6 hb hcap args w ha),fun c => rJ (oJ hL h6 (Or.inl hb) c)⟩
 ·exact ⟨pY,44,fun cap hcap args w ha => dO dN (PC (Or.inr rfl) hL h6 hb hcap args w ha),fun c => rJ (oJ hL h6 (Or.inr (Or.inl hb)) c)⟩
def YK : fQ
 | [.v (.im (.slice none 0 0)),.v (.im (.slice none 0 0))] => some ([],.one (.im (.bool true)))
 | cs => Vk cs
theorem Gu : aM prog (qG prog) (fun _ => ⟨fun _ => T0,fun _ => true,fun _ => none⟩) f13 60 [.v (.im (.slice none 0 0)),.v (.im (.slice none 0 0))] = some ([],.one (.im (.bool true))):=by kernel_rfl
theorem Ko : ∀ cs pre r,YK cs = some (pre,r) → aP pre → ∀ (args : List Value) (w : World),bK w cs args → Good prog 13 r args w:=by
 intro cs pre r hg hp args w ha;unfold YK at hg;split at hg
 ·cases hg;exact aD aG (fun _ _ => dB _) (aH prog) func13 Gu trivial ha
 ·exact Vj _ _ _ hg hp args w ha
theorem Ar {l : List At} {L : List Nat} {n : Nat} (h : kY l = some L) (hn : L.length = n) : ∃ P,U8s l n P ∧ U8s l n P :=
 have h1 : U8s l n fun k => Int.ofNat (L.getD k 0):=fun k hk => oH h k (by omega)
 ⟨_,h1,h1⟩
def YM : fQ
 | [] => some ([],.one (.im (.bool true)))
 | _ => none
theorem Kq : ∀ cs pre r,YM cs = some (pre,r) → aP pre → ∀ (args : List Value) (w : World),bK w cs args → Good prog 14 r args w:=by
 intro cs pre r hg hp args w ha;unfold YM at hg;split at hg
 ·cases hg;exact Ys args w ha
 ·cases hg
def U8e (l : List At) (n : Nat) : Prop:=∃ P,U8s l n P ∧ U8s l n P
theorem Wq (z : Int) : aK .eql .i64 z z = some (.bool true):=by
 show some (Value.bool (z == z)) = _;rw [beq_self_eq_true]
def Zf (k : Bool) : Tab:=((((T0.add 10 Dp).add 13 YK).add 14 YM).add 11 (Dr k)).add 12 (Dr k)
theorem Sl (k : Bool) : TabOk prog (Zf k):=(((((dB _).ad func10 RR).ad func13 Ko).ad func14 Kq).ad func11 (AU Br k)).ad func12 (AU aBA k)
def rCp (l : List At) (n : Nat) : FS:=⟨l,n,5,1,true,[],[]⟩
def xCp (l : List At) (n : Nat) : Ext:=x3 (TE.add 15 (Dq 15 (rCp l n))) KL (fun _ => none) (fun _ => none)
theorem aFH (l : List At) (n : Nat) (w : World) : cH prog (qY prog (xCp l n)) w.heap.size w:=kQ ((gX _).ad func15 (AT _ _)) (gJ _) w
def aHs (l : List At) (n c : Nat) : List Fact:=[.slot 0 (.sl 0 0 n c),.row 0 false l]
def aLu (l : List At) (n c : Nat) : List Fact:=[.slot 3 (.so 9 n),.app 9 5 1 n,.slot 0 (.sl 0 0 n c),.row 0 false l,.row 9 true l]
def aLt (l : List At) (n c cap : Nat) : List Fact:=[.slot 3 (.sl 9 0 n cap),.slot 0 (.sl 0 0 n c),.row 0 false l,.row 9 true l]
theorem Ot (B C : Nat → Nat) (c : Nat) : iD prog (qY prog x0) TD f15 120 [.s (bL B ++ bL C) 64 c] = some ([],rCp (bL B ++ bL C) 64):=by kernel_rfl
theorem aEX {B : Nat → Nat} (hB : ∀ k,B k < 256) : L8 (bN B):=⟨rfl,fun k => by
 rw [List.getD_eq_getElem?_getD];cases h : (bN B)[k]? with
 | none => exact Nat.succ_pos _
 | some v =>
  have:=List.mem_of_getElem? h;simp only [bN,List.mem_cons,List.not_mem_nil,or_false] at this;show v < 256
  rcases this with rfl | rfl | rfl | rfl | rfl | rfl | rfl | rfl | rfl | rfl | rfl | rfl | rfl | rfl | rfl | rfl | rfl | rfl | rfl | rfl | rfl | rfl | rfl | rfl | rfl | rfl | rfl | rfl | rfl | rfl | rfl | rfl <;> exact hB _⟩
theorem Ul {B C : Nat → Nat} (hB : ∀ k,B k < 256) (hC : ∀ k,C k < 256) : L6 (bN B ++ bN C):=⟨aEX hB,aEX hC⟩
def vB (B : Nat → Nat) (n : Nat) : List Value:=(List.range n).map fun k => .int .u8 (Int.ofNat (B k))
def aB (B : Nat → Nat) (n : Nat) : List At:=(List.range n).map fun k => .c (.int .u8 (Int.ofNat (B k)))
theorem BC : ∀ (r : List Nat) (B : Nat → Nat),aC (r.map fun k => At.c (.int .u8 (Int.ofNat (B k)))) = r.map fun k => Value.int .u8 (Int.ofNat (B k))
 | [],_ => rfl
 | a :: r,B => congrArg (Value.int .u8 (Int.ofNat (B a)) :: ·) (BC r B)
theorem xO (B : Nat → Nat) (n : Nat) : aC (aB B n) = vB B n:=BC _ _
theorem TL (B : Nat → Nat) (n : Nat) : (vB B n).length = n:=by unfold vB; simp
theorem FV (B : Nat → Nat) (n k : Nat) (hk : k < n) : (vB B n)[k]? = some (.int .u8 (Int.ofNat (B k))):=by unfold vB; simp [hk]
theorem aJE (B : Nat → Nat) (n : Nat) : U8e (aB B n) n :=
 have h : U8s (aB B n) n fun k => Int.ofNat (B k):=fun k hk => by rw [xO]; exact FV B n k hk
 ⟨_,h,h⟩
set_option maxHeartbeats 1000000 in
theorem YW (b o n c : Nat) (B : Nat → Nat) (h0 : 0 < n) (hn : n ≤ 140737488355328) (w : World) (hc : ∀ k,k < n → w.cell? ⟨b,o + k,none⟩ = some (.int .u8 (Int.ofNat (B k)))) :
  Calls prog 15 #[.slice (some ⟨b,o,none⟩) n c] w (fun e w' => (rCp (aB B n) n).ok w e w'):=by
 obtain ⟨i0,hi,hz0,hz1,hz2⟩:=info_parts wP;have HC:=Lib.hid hc;clear hc
 go_enter func15,ntmps15
 go_wp2_with (at_builtin; refine wpList_append_own _ rfl _ _ 29 rfl w.heap.size 5 i0 (.int .u8 0) 1 1 underlying29 hi hz0 hz1 hz2 rfl (by decide) _ _ _ rfl (World.ownsRow_nil w w.heap.size 5 1) ⟨b,o,none⟩ n c (vB B n) rfl (by rw [TL]; omega) ?c1 ?c2 ?c3 ?c4 ?c5 ?_)
 case c1 =>
  intro j u hj;have hlt : j < n:=by have:=(List.getElem?_eq_some_iff.1 hj).1; rwa [TL] at this
  rw [FV B n j hlt] at hj;cases hj;have e : (⟨b,o,none⟩ : Addr).add j = ⟨b,o + j,none⟩:=by simp [Addr.add]
  rw [e];exact HC.out j hlt
 case c2 =>
  intro u hu;unfold vB at hu;obtain ⟨_,_,rfl⟩:=List.mem_map.1 hu;rfl
 case c3 => unfold maxLen; omega
 case c4 => omega
 case c5 => simp
 intro v' w1 hown hgrow hne;obtain ⟨g,cap,hu,hg,lg⟩:=PZ hown h0;subst hu;have HO:=Lib.hid (Ex.rU hown);have HB:=Lib.hid ((Below.refl w.heap.size w).grown hgrow (Nat.le_refl _) (fun k hk => by cases hk));clear hown hgrow hne;go_wp2_with fail;go_ret;obtain ⟨a1,a2,a3,a4,a5⟩:=HO.out;exact ⟨g,cap,rfl,HB.out,a2,a3,by show w1.rangeAt g 0 (aC (aB B n)); rw [xO]; exact a4,a5,fun _ => a1⟩
set_option maxHeartbeats 1000000 in
theorem Ky (w : World) : Calls prog 15 #[.slice none 0 0] w (fun e w' => e = .returned (.slice none 0 0) ∧ Below w.heap.size w w'):=by
 obtain ⟨i0,hi,hz0,hz1,hz2⟩:=info_parts wP
 go_enter func15,ntmps15
 go_wp2_with fail;go_ret;exact ⟨rfl,Below.refl _ _⟩
set_option maxHeartbeats 1000000 in
theorem YV (a : Addr) (c : Nat) (w : World) : Calls prog 15 #[.slice (some a) 0 c] w (fun e w' => e = .returned (.slice none 0 0) ∧ Below w.heap.size w w'):=by
 obtain ⟨i0,hi,hz0,hz1,hz2⟩:=info_parts wP
 go_enter func15,ntmps15
 go_wp2_with (at_builtin; refine wpList_append_own _ rfl _ _ 29 rfl w.heap.size 5 i0 (.int .u8 0) 1 1 underlying29 hi hz0 hz1 hz2 rfl (by decide) _ _ _ rfl (World.ownsRow_nil w w.heap.size 5 1) a 0 c [] rfl rfl ?c1 ?c2 ?c3 ?c4 ?c5 ?_)
 case c1 => intro j u hj; simp at hj
 case c2 => intro u hu; cases hu
 case c3 => unfold maxLen; omega
 case c4 => omega
 case c5 => simp
 intro v' w1 hown hgrow hne;have hv : v' = .slice none 0 0:=by first | exact hne | exact hne.2 rfl
 subst hv;have HB:=Lib.hid ((Below.refl w.heap.size w).grown hgrow (Nat.le_refl _) (fun k hk => by cases hk));clear hown hgrow;go_wp2_with fail;go_ret;exact ⟨rfl,HB.out⟩
theorem Gv (p : Option Addr) (c : Nat) : aM prog (qG prog) (fun _ => ⟨fun _ => T0,fun _ => true,fun _ => none⟩) f13 60 [.v (.im (.slice none 0 0)),.v (.im (.slice p 0 c))] = some ([],.one (.im (.bool true))):=by kernel_rfl
theorem aLG {f : FuncId} {v : Value} {r : RV} (h : ∀ w,Good prog f r [v] w) : kN f [.v (.im v)] r:=fun args w ha => by
 match args,ha with
 | [u],ha =>
  have e : u = v:=ha.1;subst e;exact h w
 | [],ha => exact ha.elim
 | _ :: _ :: _,ha => exact ha.2.elim
theorem aMl (B : Nat → Nat) : aC (bL B ++ bL fun k => B (32 + k)) = vB B 64:=by kernel_rfl
def aFu (p : dM) (e : Int) : Tab:=((Zf true).add 16 (sM 16 (pN p e))).add 17 (sM 17 (pN p e))
theorem aHd (p : dM) (e : Int) : TabOk prog (aFu p e):=((Sl true).ad func16 (iS _ _)).ad func17 (iS _ _)
def nV : Code:=(f4.body).getD .skip
theorem aCF : nV = .seq (cA nV) (.seq (cA (cB nV)) (cB (cB nV))):=by kernel_rfl
theorem aLs (l : List At) (n c : Nat) : cM prog (qG prog) f4.ntmps TD 60 (cA nV) (mQ 0 [.s l n c]) (aHs l n c) = some ([],.nrm,aHs l n c):=by kernel_rfl
theorem aLr (l : List At) (n c : Nat) : cM prog (qY prog (xCp l n)) f4.ntmps TD 60 (cA (cB nV)) (aHs l n c) (aLu l n c) = some ([Zu 15 [.s l n c] (rCp l n)],.nrm,aLu l n c):=by kernel_rfl
theorem aLq (l : List At) (n c cap : Nat) (p : dM) (e : Int) : cM prog (qG prog) f4.ntmps (fun _ => ⟨fun _ => aFu p e,fun _ => true,assoc [(27,.bool true)]⟩) 60 (cB (cB nV)) (aLt l n c cap) [.slot 2 (.im (.bool true))] = some ([S1 l n cap p e,S2 l n c p e,aC (dR p) = aC (dR p),aK .eql .i64 e e = some (.bool true),n = n,n < 4611686018427387904,U8e l n],.rt,[.slot 2 (.im (.bool true))]):=by kernel_rfl
theorem qK {l : List At} {n c : Nat} {p : dM} {e : Int} (hn : n < 4611686018427387904) (hcp : Zu 15 [.s l n c] (rCp l n)) (h1 : ∀ cap,n ≤ cap → S1 l n cap p e) (h2 : S2 l n c p e) (hu : U8e l n)
  (args : List Value) (w : World) (ha : bK w [.s l n c] args) : Good prog 4 (.one (.im (.bool true))) args w:=by
 have hT0 : ∀ k d : Nat,TabOkW prog ((TD k).T d) w.heap.size w:=fun _ _ => (dB _).w _ _
 refine fX func4 (c:=nV) rfl ha (Nat.le_of_ble_eq_true (by kernel_rfl)) fun a w' hA => ?_
 rw [aCF];refine wp_seq (aT aG hT0 ((aH _).w _ _) (aLs l n c) trivial hA fun a w' hA => ?_);refine wp_seq (aT aG hT0 (aFH l n w) (aLr l n c) ⟨hcp,trivial⟩ hA fun a w' hA => ?_);obtain ⟨cap,hc,hA⟩:=hA.cap (s:=3) (k:=9) (n:=n) (e:=5) (sz:=1) (List.mem_cons_self ..) (List.mem_cons_of_mem _ (List.mem_cons_self ..));have hA2 : Holds f4.ntmps w.heap.size w (aLt l n c cap) a w':=hA.sub fun φ hφ => by
  rcases List.mem_cons.1 hφ with rfl | hφ
  ·exact List.mem_cons_self ..
  ·exact List.mem_cons_of_mem _ (List.mem_cons_of_mem _ (List.mem_cons_of_mem _ hφ))
 refine aT aG (fun k d => (aHd p e).w _ _) ((aH _).w _ _) (aLq l n c cap p e) ⟨h1 cap hc,h2,rfl,Wq e,rfl,hn,hu,trivial⟩ hA2 fun a w' hA => ?_
 exact gW (l:=[.im (.bool true)]) (r:=.one (.im (.bool true))) (by kernel_rfl) (by kernel_rfl) hA
theorem Hu (B C D E : Nat → Nat) (c : Nat) : iD prog (qY prog x0) TD f15 120 [.s (wM B C D E) 128 c] = some ([],rCp (wM B C D E) 128):=by kernel_rfl
theorem aCN (B C : Nat → Nat) (hB : ∀ k,B k < 256) (hC : ∀ k,C k < 256) (c : Nat) (args : List Value) (w : World) (ha : bK w [.s (bL B ++ bL C) 64 c] args) : Good prog 4 (.one (.im (.bool true))) args w:=by
 obtain ⟨p,e,h1,h2⟩:=aDO (l:=bL B ++ bL C) (L:=bN B ++ bN C) rfl (Ul hB hC);exact qK (by decide) (fun args w ha => bJ aG (fun _ _ => (dB _).w _ _) (mT w) func15 (Ot B C c) trivial ha) h1 (h2 c) (Ar (L:=bN B ++ bN C) rfl rfl) args w ha
theorem aLx {B C D E : Nat → Nat} (hB : ∀ k,B k < 256) (hC : ∀ k,C k < 256) (hD : ∀ k,D k < 256) (hE : ∀ k,E k < 256) : LL ((bN B ++ bN C) ++ (bN D ++ bN E)):=⟨Ul hB hC,Ul hD hE⟩
theorem Uh (B C D E : Nat → Nat) (hB : ∀ k,B k < 256) (hC : ∀ k,C k < 256) (hD : ∀ k,D k < 256) (hE : ∀ k,E k < 256) (c : Nat) (args : List Value) (w : World) (ha : bK w [.s (wM B C D E) 128 c] args) : Good prog 4 (.one (.im (.bool true))) args w:=by
 obtain ⟨p,e,h1,h2⟩:=Yh (l:=wM B C D E) (L:=(bN B ++ bN C) ++ (bN D ++ bN E)) rfl (aLx hB hC hD hE);exact qK (by decide) (fun args w ha => bJ aG (fun _ _ => (dB _).w _ _) (mT w) func15 (Hu B C D E c) trivial ha) h1 (h2 c) (Ar (L:=(bN B ++ bN C) ++ (bN D ++ bN E)) rfl rfl) args w ha
theorem IE (p : Option Addr) (n c : Nat) (h1 : n ≠ 64) (h2 : n ≠ 128) : kN 36 [.v (.im (.slice p n c)),.v (.im (.int .i64 64))] (Jh 3):=fun args w ha =>
 aD aG (fun _ _ => dB _) (aH prog) func36 (aBb p n c) ⟨Cx h1,Cx h2,trivial⟩ ha
theorem yY (p : Option Addr) (n c : Nat) (h1 : n ≠ 64) (h2 : n ≠ 128) (args : List Value) (w : World) (ha : bK w [.v (.im (.slice p n c))] args) : Good prog 17 (pN pY 3) args w :=
 dO dN (aD aG (fun _ _ => aEQ 3) (aH prog) func17 (VP p n c) ⟨IE p n c h1 h2,trivial⟩ ha)
theorem aDN {l : List At} {n : Nat} (h1 : n ≠ 64) (h2 : n ≠ 128) : Ft l n:=⟨pY,3,fun cap _ args w ha => by
  match args,ha with
  | [v],ha =>
   obtain ⟨b,o,rfl,_,_⟩:=ha.1;exact dO dN (PD _ n cap h1 h2 w)
  | [],ha => exact ha.elim
  | _ :: _ :: _,ha => exact ha.2.elim,
 fun cap args w ha => by
  match args,ha with
  | [v],ha =>
   obtain ⟨b,o,rfl,_,_⟩:=ha.1;exact yY _ n cap h1 h2 _ w ⟨rfl,trivial⟩
  | [],ha => exact ha.elim
  | _ :: _ :: _,ha => exact ha.2.elim⟩
def aFz : Tab:=(((Zf true).add 16 (sM 16 (pN pY 3))).add 17 (sM 17 (pN pY 3))).add 15 (sM 15 (.one (.im (.slice none 0 0)))) |>.add 13 (sM 13 (.one (.im (.bool true))))
theorem aHj : TabOk prog aFz:=((((Sl true).ad func16 (iS _ _)).ad func17 (iS _ _)).ad func15 (iS _ _)).ad func13 (iS _ _)
theorem aBa (p : Option Addr) (c : Nat) : aM prog (qG prog) (fun _ => ⟨fun _ => aFz,fun _ => true,fun _ => none⟩) f4 80 [.v (.im (.slice p 0 c))] = some ([kN 15 [.v (.im (.slice p 0 c))] (.one (.im (.slice none 0 0))),kN 16 [.v (.im (.slice none 0 0))] (pN pY 3),kN 17 [.v (.im (.slice p 0 c))] (pN pY 3),aC (dR pY) = aC (dR pY),kN 13 [.v (.im (.slice none 0 0)),.v (.im (.slice p 0 c))] (.one (.im (.bool true)))],.one (.im (.bool true))):=by kernel_rfl
theorem AF (p : Option Addr) (c : Nat) (hp : p = none → c = 0) (w : World) : Good prog 4 (.one (.im (.bool true))) [.slice p 0 c] w:=by
 refine aD aG (fun _ _ => aHj) (aH prog) func4 (aBa p c) ⟨aLG fun w => ?_,aLG fun w => dO dN (PD none 0 0 (by decide) (by decide) w),fun args w ha => yY p 0 c (by decide) (by decide) args w ha,rfl,fun args w ha => aD aG (fun _ _ => dB _) (aH prog) func13 (Gv p c) trivial ha,trivial⟩ ⟨rfl,trivial⟩;cases p with
 | none => rw [hp rfl]; exact Ky w
 | some a => exact YV a c w
theorem aMk (B : Nat → Nat) : aC (wM B (fun k => B (32 + k)) (fun k => B (64 + k)) fun k => B (96 + k)) = vB B 128:=by kernel_rfl
theorem Ug (b o n c : Nat) (B : Nat → Nat) (hB : ∀ k,B k < 256) (hn : n ≤ 140737488355328) (w : World) (hb : b < w.heap.size) (hc : ∀ k,k < n → w.cell? ⟨b,o + k,none⟩ = some (.int .u8 (Int.ofNat (B k)))) : Good prog 4 (.one (.im (.bool true))) [.slice (some ⟨b,o,none⟩) n c] w:=by
 have hr : ∀ l,aC l = vB B n → bK w [.s l n c] [.slice (some ⟨b,o,none⟩) n c]:=fun l hl => ⟨⟨b,o,rfl,hb,fun j v hj => by
  have hlt : j < n:=by have:=(List.getElem?_eq_some_iff.1 hj).1; rw [hl,TL] at this; exact this
  rw [hl,FV B n j hlt] at hj;rw [hc j hlt,hj]⟩,trivial⟩
 by_cases h0 : n = 0
 ·subst h0;exact AF _ c (fun h => by cases h) w
 ·by_cases h1 : n = 64
  ·subst h1;exact aCN B (fun k => B (32 + k)) hB (fun k => hB _) c _ w (hr _ (aMl B))
  ·by_cases h2 : n = 128
   ·subst h2;exact Uh B (fun k => B (32 + k)) (fun k => B (64 + k)) (fun k => B (96 + k)) hB (fun k => hB _) (fun k => hB _) (fun k => hB _) c _ w (hr _ (aMk B))
   ·obtain ⟨p,e,g1,g2⟩:=aDN (l:=aB B n) h1 h2;refine qK (by omega) (fun args w ha => ?_) g1 (g2 c) (aJE B n) _ w (hr _ (xO B n))
    match args,ha with
    | [v],ha =>
     obtain ⟨b',o',rfl,_,hrr⟩:=ha.1;exact YW b' o' n c B (by omega) hn w fun k hk => hrr k _ (by rw [xO]; exact FV B n k hk)
    | [],ha => exact ha.elim
    | _ :: _ :: _,ha => exact ha.2.elim
end Go.Proofs.YtfnkbmlmgnadmaaGreat.Ex
namespace Go.Proofs.YtfnkbmlmgnadmaaGreat
open Go.Proofs.Tryz
open Go.ChangeShapes Go.WideShapes Go.ChangeAt Go.RowKit
theorem QA : ownKnob prog.godebug = none:=by kernel_rfl
theorem aCO : laidOutB prog = true:=by kernel_rfl
end Go.Proofs.YtfnkbmlmgnadmaaGreat
