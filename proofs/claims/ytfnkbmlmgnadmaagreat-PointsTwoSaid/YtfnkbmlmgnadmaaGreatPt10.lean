/- Pt10 -/
import Derived.Test.YtfnkbmlmgnadmaaGreatPt09
import Derived.Test.YtfnkbmlmgnadmaaGreatPt03
import Derived.Test.YtfnkbmlmgnadmaaGreatPt02
import Derived.Test.YtfnkbmlmgnadmaaGreatPt07
import Derived.Test.YtfnkbmlmgnadmaaGreatPt00
import Derived.Test.YtfnkbmlmgnadmaaGreatPt04
set_option maxRecDepth 100000
set_option linter.unusedVariables false
set_option linter.unusedSimpArgs false
noncomputable section
namespace Go.Proofs.YtfnkbmlmgnadmaaGreat.Ex
open Go.Proofs.Tryz
open Classical
section
variable {R : Type} {K : CR R} {inv : R → R}
def dU (K : CR R) (b : R) : CR (Pol K × Pol K):=(aX (K:=K)).sq (qP b)
def cX : Pol K × Pol K:=(pX,aX.zero)
def cY : Pol K × Pol K:=(aX.zero,aX.one)
def cc (k : R) : Pol K × Pol K:=(gY k,aX.zero)
variable (b : R)
theorem mA (x y : R) : (cc (K.add x y) : Pol K × Pol K) = (dU K b).add (cc x) (cc y):=Prod.ext (SX x y) (aX.zero_add _).symm
theorem Lr (x : R) : (cc (K.neg x) : Pol K × Pol K) = (dU K b).neg (cc x):=Prod.ext (Qy x) (cT aX).symm
theorem wJ (x y : R) : (cc (K.sub x y) : Pol K × Pol K) = (dU K b).sub (cc x) (cc y):=by
 show cc (K.add _ _) = (dU K b).add _ _;rw [mA b,Lr b]
theorem kO (x y : R) : (cc (K.mul x y) : Pol K × Pol K) = (dU K b).mul (cc x) (cc y):=by
 refine Prod.ext ?_ ?_
 ·show gY (K.mul x y) = aX.add (aX.mul (gY x) (gY y)) (aX.mul (qP b) (aX.mul aX.zero aX.zero));rw [aX.mul_zero,aX.mul_zero,aX.add_zero,tA]
 ·show aX.zero = aX.add (aX.mul (gY x) aX.zero) (aX.mul aX.zero (gY y));rw [aX.mul_zero,aX.zero_mul,aX.add_zero]
theorem Lq : (cc K.one : Pol K × Pol K) = (dU K b).one:=rfl
theorem aDL : (dU K b).mul cY cY = (dU K b).add ((dU K b).mul cX ((dU K b).mul cX cX)) (cc b):=by
 refine Prod.ext ?_ ?_
 ·show aX.add (aX.mul aX.zero aX.zero) (aX.mul (qP b) (aX.mul aX.one aX.one)) = aX.add (aX.add (aX.mul pX (aX.add (aX.mul pX pX) (aX.mul (qP b) (aX.mul aX.zero aX.zero)))) (aX.mul (qP b) (aX.mul aX.zero (aX.add (aX.mul pX aX.zero) (aX.mul aX.zero pX))))) (gY b);simp only [aX.mul_zero,aX.zero_mul,aX.add_zero,aX.zero_add,aX.mul_one];rfl
 ·show aX.add (aX.mul aX.zero aX.one) (aX.mul aX.one aX.zero) = aX.add (aX.add (aX.mul pX (aX.add (aX.mul pX aX.zero) (aX.mul aX.zero pX))) (aX.mul aX.zero (aX.add (aX.mul pX pX) (aX.mul (qP b) (aX.mul aX.zero aX.zero))))) aX.zero;simp only [aX.mul_zero,aX.zero_mul,aX.add_zero,aX.zero_add,aX.mul_one]
def nrm (f : Pol K × Pol K) : Pol K:=aX.sub (aX.mul f.1 f.1) (aX.mul (qP b) (aX.mul f.2 f.2))
theorem UF (f g : Pol K × Pol K) : nrm b ((dU K b).mul f g) = aX.mul (nrm b f) (nrm b g) :=
 aL aX (cD aX [f.1,g.1,qP b,f.2,g.2]) (.add (.mul (.add (.mul (.v 0) (.v 1)) (.mul (.v 2) (.mul (.v 3) (.v 4)))) (.add (.mul (.v 0) (.v 1)) (.mul (.v 2) (.mul (.v 3) (.v 4))))) (.neg (.mul (.v 2) (.mul (.add (.mul (.v 0) (.v 4)) (.mul (.v 3) (.v 1))) (.add (.mul (.v 0) (.v 4)) (.mul (.v 3) (.v 1))))))) (.mul (.add (.mul (.v 0) (.v 0)) (.neg (.mul (.v 2) (.mul (.v 3) (.v 3))))) (.add (.mul (.v 1) (.v 1)) (.neg (.mul (.v 2) (.mul (.v 4) (.v 4)))))) (by kernel_rfl)
theorem BV (F : FD K inv) (f : Pol K × Pol K) (h : f ≠ (dU K b).zero) : ∃ d,dg (nrm b f) d ∧ d ≠ 1:=by
 have hq : dg (qP b : Pol K) 3:=aDC F b
 by_cases h2 : f.2 = aX.zero
 ·have h1 : f.1 ≠ aX.zero:=fun e => h (Prod.ext e h2)
  obtain ⟨n,hn⟩:=VL _ h1;refine ⟨n + n,?_,by omega⟩;unfold nrm;rw [h2,aX.mul_zero,aX.mul_zero];show dg (aX.add _ (aX.neg aX.zero)) _;rw [cT,aX.add_zero];exact jH F hn hn
 ·obtain ⟨m,hm⟩:=VL _ h2;have hr:=jH F hq (jH F hm hm)
  by_cases h1 : f.1 = aX.zero
  ·refine ⟨3 + (m + m),?_,by omega⟩;unfold nrm;rw [h1,aX.mul_zero];show dg (aX.add _ _) _;rw [aX.zero_add];exact La hr
  ·obtain ⟨n,hn⟩:=VL _ h1;have hl:=jH F hn hn;have hr':=La hr
   rcases Nat.lt_or_ge (n + n) (3 + (m + m)) with q | q
   ·refine ⟨3 + (m + m),?_,by omega⟩;show dg (aX.add _ _) _;rw [aX.add_comm];exact wF hr' fun i hi => hl.2 i (by omega)
   ·refine ⟨n + n,?_,by omega⟩;exact wF hl fun i hi => hr'.2 i (by omega)
theorem kN (F : FD K inv) : Dom (dU K b):=by
 refine ⟨fun e => F.ne (congrArg (fun z : Pol K × Pol K => z.1.1 0) e),fun f g hf hg e => ?_⟩;obtain ⟨n,hn,_⟩:=BV b F f hf;obtain ⟨m,hm,_⟩:=BV b F g hg;have h:=Lb (jH F hn hm);rw [← UF,e] at h;refine h ?_;show aX.sub (aX.mul aX.zero aX.zero) (aX.mul (qP b) (aX.mul aX.zero aX.zero)) = _;rw [aX.mul_zero,aX.mul_zero];exact aX.add_neg _
theorem QL {A : Type} {C : CR A} (D : Dom C) {a s t : A} (ha : a ≠ C.zero) (e : C.mul a s = C.mul a t) : s = t:=by
 apply iG (K:=C)
 by_cases h : C.add s (C.neg t) = C.zero
 ·exact h
 ·exact absurd (by rw [C.mul_add,C.mul_neg,e,C.add_neg]) (D.2 _ _ ha h)
def EJ {A : Type} : A → Prop:=fun _ => True
theorem jK {A : Type} (C : CR A) : Idl C EJ:=⟨fun _ _ _ _ => trivial,fun _ _ _ => trivial⟩
theorem KV (f : Pol K × Pol K) : (dU K b).mul f (f.1,aX.neg f.2) = (nrm b f,aX.zero):=by
 refine Prod.ext ?_ ?_
 ·exact aL aX (cD aX [f.1,qP b,f.2]) (.add (.mul (.v 0) (.v 0)) (.mul (.v 1) (.mul (.v 2) (.neg (.v 2))))) (.add (.mul (.v 0) (.v 0)) (.neg (.mul (.v 1) (.mul (.v 2) (.v 2))))) (by kernel_rfl)
 ·exact aL aX (cD aX [f.1,f.2]) (.add (.mul (.v 0) (.neg (.v 1))) (.mul (.v 1) (.v 0))) .zero (by kernel_rfl)
theorem Fc {x y : R} (h : K.mul y y = K.add (K.mul x (K.mul x x)) b) : (qP b : Pol K) = aX.add (aX.mul (gY y) (gY y)) (aX.mul (aX.sub pX (gY x)) (aX.add (aX.mul pX pX) (aX.add (aX.mul (gY x) pX) (aX.mul (gY x) (gY x))))):=by
 have e : aX.mul (gY y) (gY y) = aX.add (aX.mul (gY x) (aX.mul (gY x) (gY x))) (gY b : Pol K):=by
  rw [← tA,← tA,← tA,← SX,h]
 rw [e];exact aL aX (cD aX [pX,gY b,gY x]) (.add (.mul (.v 0) (.mul (.v 0) (.v 0))) (.v 1)) (.add (.add (.mul (.v 2) (.mul (.v 2) (.v 2))) (.v 1)) (.mul (.add (.v 0) (.neg (.v 2))) (.add (.mul (.v 0) (.v 0)) (.add (.mul (.v 2) (.v 0)) (.mul (.v 2) (.v 2)))))) (by kernel_rfl)
theorem aCN (F : FD K inv) {x y : R} (h : K.mul y y = K.add (K.mul x (K.mul x x)) b) : ¬ Eqv (dU K b) (op (dU K b) cX cY (cc x) (cc y) EJ) EJ:=by
 rintro ⟨a,e,ha,he,h1,h2⟩
 have D:=kN (K:=K) b F;obtain ⟨f,hf,e1⟩:=h2 (dU K b).one trivial;rw [(dU K b).mul_one] at e1;have hm : ∀ g,op (dU K b) cX cY (cc x) (cc y) EJ g → ∃ t,g = (dU K b).mul f t:=fun g hg => by
  obtain ⟨t,_,e2⟩:=h1 g hg;rw [← e1,(dU K b).mul_assoc] at e2;exact ⟨t,QL D ha e2⟩
 have sz : ∀ z : Pol K × Pol K,(dU K b).sub z (dU K b).zero = z:=fun z => by
  show (dU K b).add z ((dU K b).neg _) = z;rw [cT,(dU K b).add_zero]
 obtain ⟨t,ht⟩:=hm ((dU K b).sub cX (cc x)) ⟨(dU K b).one,(dU K b).zero,trivial,trivial,by rw [(dU K b).mul_one,(dU K b).mul_zero,(dU K b).add_zero]⟩;obtain ⟨t',ht'⟩:=hm ((dU K b).sub cY (cc y)) ⟨(dU K b).zero,(dU K b).one,trivial,trivial,by rw [(dU K b).mul_one,(dU K b).mul_zero,(dU K b).zero_add]⟩;have hX : (dU K b).sub cX (cc x) = (aX.sub pX (gY x),aX.zero):=Prod.ext rfl (by show aX.add aX.zero (aX.neg aX.zero) = _; rw [cT,aX.add_zero]);have hXn : (dU K b).sub cX (cc x) ≠ (dU K b).zero:=fun q => Lb (wE (K:=K) F x) (congrArg Prod.fst q)
 have hf0 : f ≠ (dU K b).zero:=fun q => hXn (by rw [ht,q,(dU K b).zero_mul])
 have ht0 : t ≠ (dU K b).zero:=fun q => hXn (by rw [ht,q,(dU K b).mul_zero])
 obtain ⟨n,hn,n1⟩:=BV b F f hf0;obtain ⟨m,hm',m1⟩:=BV b F t ht0;have hnm : n + m = 2:=by
  have e3:=jH F hn hm';rw [← UF,← ht,hX] at e3;have e4 : nrm b (aX.sub pX (gY x),aX.zero) = aX.mul (aX.sub pX (gY x)) (aX.sub (pX : Pol K) (gY x)):=by
   show aX.add (aX.mul _ _) (aX.neg (aX.mul _ (aX.mul aX.zero aX.zero))) = _;rw [aX.mul_zero,aX.mul_zero,cT,aX.add_zero]
  rw [e4] at e3;exact aAV e3 (jH F (wE F x) (wE F x))
 have hc : ∀ p : Pol K,dg p 0 → p = gY (p.1 0):=fun p hp => Pol.ext fun i => by
  cases i with
  | zero => rfl
  | succ i => exact hp.2 _ (by omega)
 have h02 : n = 0 ∨ m = 0:=by omega
 rcases h02 with q0 | q0
 ·subst q0;obtain ⟨s,r,_,_,e5⟩:=(Gk (jK (dU K b)) (cc x) (cc y)).mul f (f.1,aX.neg f.2) hf;rw [(dU K b).mul_comm,KV,hX] at e5;have c1 : nrm b f = aX.add (aX.add (aX.mul (aX.sub pX (gY x)) s.1) (aX.mul (qP b) (aX.mul aX.zero s.2))) (aX.add (aX.mul (aX.add aX.zero (aX.neg (gY y))) r.1) (aX.mul (qP b) (aX.mul (aX.add aX.one (aX.neg aX.zero)) r.2))):=congrArg Prod.fst e5;have c2 : aX.zero = aX.add (aX.add (aX.mul (aX.sub pX (gY x)) s.2) (aX.mul aX.zero s.1)) (aX.add (aX.mul (aX.add aX.zero (aX.neg (gY y))) r.2) (aX.mul (aX.add aX.one (aX.neg aX.zero)) r.1)):=congrArg Prod.snd e5;have hs:=Fc b h;refine hn.1 (zH F (c:=x) (h:=(aX.add s.1 (aX.add (aX.mul (aX.add (aX.mul pX pX) (aX.add (aX.mul (gY x) pX) (aX.mul (gY x) (gY x)))) r.2) (aX.mul (gY y) s.2)))) ?_);rw [← hc _ hn,c1];refine Eq.symm ?_;exact pH (K:=aX) (c1:=(gY y)) (c2:=r.2) c2 hs (aL aX (cD aX [pX,gY x,s.1,qP b,s.2,gY y,r.1,r.2]) (.add (.add (.add (.mul (.add (.v 0) (.neg (.v 1))) (.v 2)) (.mul (.v 3) (.mul .zero (.v 4)))) (.add (.mul (.add .zero (.neg (.v 5))) (.v 6)) (.mul (.v 3) (.mul (.add .one (.neg .zero)) (.v 7))))) (.neg (.mul (.add (.v 0) (.neg (.v 1))) (.add (.v 2) (.add (.mul (.add (.mul (.v 0) (.v 0)) (.add (.mul (.v 1) (.v 0)) (.mul (.v 1) (.v 1)))) (.v 7)) (.mul (.v 5) (.v 4))))))) (.add (.mul (.v 5) (.add .zero (.neg (.add (.add (.mul (.add (.v 0) (.neg (.v 1))) (.v 4)) (.mul .zero (.v 2))) (.add (.mul (.add .zero (.neg (.v 5))) (.v 7)) (.mul (.add .one (.neg .zero)) (.v 6))))))) (.mul (.v 7) (.add (.v 3) (.neg (.add (.mul (.v 5) (.v 5)) (.mul (.add (.v 0) (.neg (.v 1))) (.add (.mul (.v 0) (.v 0)) (.add (.mul (.v 1) (.v 0)) (.mul (.v 1) (.v 1)))))))))) (by kernel_rfl))
 ·subst q0;have e6 : (dU K b).mul ((dU K b).sub cX (cc x)) ((dU K b).mul t' (t.1,aX.neg t.2)) = (dU K b).mul ((dU K b).sub cY (cc y)) (nrm b t,aX.zero):=by
   rw [← KV,ht,ht'];generalize ((t.1,aX.neg t.2) : Pol K × Pol K) = w;exact aL (dU K b) (cD (dU K b) [f,t,t',w]) (.mul (.mul (.v 0) (.v 1)) (.mul (.v 2) (.v 3))) (.mul (.mul (.v 0) (.v 2)) (.mul (.v 1) (.v 3))) (by kernel_rfl)
  rw [hX] at e6;generalize (dU K b).mul t' (t.1,aX.neg t.2) = w at e6;have c2 : aX.add (aX.mul (aX.sub pX (gY x)) w.2) (aX.mul aX.zero w.1) = aX.add (aX.mul (aX.add aX.zero (aX.neg (gY y))) aX.zero) (aX.mul (aX.add aX.one (aX.neg aX.zero)) (nrm b t)):=congrArg Prod.snd e6;rw [aX.zero_mul,aX.add_zero,aX.mul_zero,aX.zero_add,cT,aX.add_zero,aX.one_mul,hc _ hm'] at c2;exact hm'.1 (zH F c2)
end
structure EC {R : Type} (K : CR R) (inv : R → R) (b : R) : Prop where
 F : FD K inv
 two : K.add K.one K.one ≠ K.zero
 odd : ∀ x,K.add (K.mul x (K.mul x x)) b ≠ K.zero
section
variable {R : Type} (K : CR R) (inv : R → R) (b : R)
abbrev Pt (R : Type):=Option (R × R)
def On : Pt R → Prop
 | none => True
 | some p => K.mul p.2 p.2 = K.add (K.mul p.1 (K.mul p.1 p.1)) b
def Va : Pt R → Pt R
 | none => none
 | some p => some (p.1,K.neg p.2)
def fH (x1 y1 x2 y2 : R) : R :=
 if x1 = x2 then K.mul (K.add (K.add (K.mul x1 x1) (K.mul x1 x1)) (K.mul x1 x1)) (inv (K.add y1 y2)) else K.mul (K.sub y2 y1) (inv (K.sub x2 x1))
def sx (l x1 x2 : R) : R:=K.sub (K.sub (K.mul l l) x1) x2
def sy (l x1 y1 x2 : R) : R:=K.sub (K.mul l (K.sub x1 (sx K l x1 x2))) y1
def rX : Pt R → Pt R → Pt R
 | none,q => q
 | some p,none => some p
 | some p,some q =>
  if p.1 = q.1 ∧ K.add p.2 q.2 = K.zero then none
  else some (sx K (fH K inv p.1 p.2 q.1 q.2) p.1 q.1,sy K (fH K inv p.1 p.2 q.1 q.2) p.1 p.2 q.1)
variable {K} {inv} {b}
theorem oM {p q : R × R} (h : p.1 = q.1 ∧ K.add p.2 q.2 = K.zero) : rX K inv (some p) (some q) = none:=if_pos h
theorem kD {p q : R × R} (h : ¬ (p.1 = q.1 ∧ K.add p.2 q.2 = K.zero)) : rX K inv (some p) (some q) = some (sx K (fH K inv p.1 p.2 q.1 q.2) p.1 q.1,sy K (fH K inv p.1 p.2 q.1 q.2) p.1 p.2 q.1):=if_neg h
theorem gG {x y : R} (h : K.sub x y = K.zero) : x = y:=iG h
theorem AR {x y : R} (h : x ≠ y) : K.sub x y ≠ K.zero:=fun e => h (gG e)
theorem EC.dbl_ne (E : EC K inv b) {y : R} (h : y ≠ K.zero) : K.add y y ≠ K.zero:=fun e => by
 refine E.F.mul_ne E.two h ?_;rw [K.add_mul,K.one_mul,e]
theorem EC.y_ne (E : EC K inv b) {x y : R} (h : K.mul y y = K.add (K.mul x (K.mul x x)) b) : y ≠ K.zero:=fun e => by
 rw [e,K.mul_zero] at h;exact E.odd x h.symm
structure Slope (K : CR R) (x1 y1 x2 y2 l : R) : Prop where
 h1 : y2 = K.add y1 (K.mul l (K.sub x2 x1))
 h2 : K.mul l (K.add y1 y2) = K.add (K.add (K.mul x1 x1) (K.mul x1 x2)) (K.mul x2 x2)
 hk : (∃ k,K.mul k (K.add y1 y2) = K.one) ∨ (∃ k,K.mul k (K.sub x2 x1) = K.one)
theorem FA (E : EC K inv b) {x1 y1 x2 y2 : R} (hp : K.mul y1 y1 = K.add (K.mul x1 (K.mul x1 x1)) b) (hq : K.mul y2 y2 = K.add (K.mul x2 (K.mul x2 x2)) b) (hn : ¬ (x1 = x2 ∧ K.add y1 y2 = K.zero)) : Slope K x1 y1 x2 y2 (fH K inv x1 y1 x2 y2):=by
 unfold fH
 by_cases hx : x1 = x2
 ·subst hx;rw [if_pos rfl];have hy : K.add y1 y2 ≠ K.zero:=fun e => hn ⟨rfl,e⟩
  have hi:=E.F.inv _ hy;have e : y1 = y2:=by
   refine gG (K:=K) (E.F.zd (a:=K.add y1 y2) ?_ hy);have e0 : K.mul (K.add y1 y2) (K.sub y1 y2) = K.sub (K.mul y1 y1) (K.mul y2 y2):=aL K (cD K [y1,y2]) (.mul (.add (.v 0) (.v 1)) (.add (.v 0) (.neg (.v 1)))) (.add (.mul (.v 0) (.v 0)) (.neg (.mul (.v 1) (.v 1)))) (by kernel_rfl);rw [e0,hp,hq];exact K.add_neg _
  subst e;generalize inv (K.add y1 y1) = k at hi;refine ⟨aL K (cD K [y1,x1,k]) (.v 0) (.add (.v 0) (.mul (.mul (.add (.add (.mul (.v 1) (.v 1)) (.mul (.v 1) (.v 1))) (.mul (.v 1) (.v 1))) (.v 2)) (.add (.v 1) (.neg (.v 1))))) (by kernel_rfl),nD (K:=K) (c1:=(K.add (K.add (K.mul x1 x1) (K.mul x1 x1)) (K.mul x1 x1))) hi (aL K (cD K [x1,k,y1]) (.add (.mul (.mul (.add (.add (.mul (.v 0) (.v 0)) (.mul (.v 0) (.v 0))) (.mul (.v 0) (.v 0))) (.v 1)) (.add (.v 2) (.v 2))) (.neg (.add (.add (.mul (.v 0) (.v 0)) (.mul (.v 0) (.v 0))) (.mul (.v 0) (.v 0))))) (.mul (.add (.add (.mul (.v 0) (.v 0)) (.mul (.v 0) (.v 0))) (.mul (.v 0) (.v 0))) (.add (.mul (.add (.v 2) (.v 2)) (.v 1)) (.neg .one))) (by kernel_rfl)),Or.inl ⟨k,by rw [K.mul_comm,hi]⟩⟩
 ·rw [if_neg hx];have hd : K.sub x2 x1 ≠ K.zero:=AR fun e => hx e.symm
  have hi:=E.F.inv _ hd;generalize inv (K.sub x2 x1) = k at hi;refine ⟨nD (K:=K) (c1:=(K.neg (K.sub y2 y1))) hi (aL K (cD K [y2,y1,k,x2,x1]) (.add (.v 0) (.neg (.add (.v 1) (.mul (.mul (.add (.v 0) (.neg (.v 1))) (.v 2)) (.add (.v 3) (.neg (.v 4))))))) (.mul (.neg (.add (.v 0) (.neg (.v 1)))) (.add (.mul (.add (.v 3) (.neg (.v 4))) (.v 2)) (.neg .one))) (by kernel_rfl)),?_,Or.inr ⟨k,by rw [K.mul_comm,hi]⟩⟩;refine E.F.cancel hd ?_;exact Vx (K:=K) (c1:=(K.mul (K.sub y2 y1) (K.add y1 y2))) (c2:=(K.neg K.one)) (c3:=K.one) hi hp hq (aL K (cD K [x2,x1,y2,y1,k,b]) (.add (.mul (.add (.v 0) (.neg (.v 1))) (.mul (.mul (.add (.v 2) (.neg (.v 3))) (.v 4)) (.add (.v 3) (.v 2)))) (.neg (.mul (.add (.v 0) (.neg (.v 1))) (.add (.add (.mul (.v 1) (.v 1)) (.mul (.v 1) (.v 0))) (.mul (.v 0) (.v 0)))))) (.add (.add (.mul (.mul (.add (.v 2) (.neg (.v 3))) (.add (.v 3) (.v 2))) (.add (.mul (.add (.v 0) (.neg (.v 1))) (.v 4)) (.neg .one))) (.mul (.neg .one) (.add (.mul (.v 3) (.v 3)) (.neg (.add (.mul (.v 1) (.mul (.v 1) (.v 1))) (.v 5)))))) (.mul .one (.add (.mul (.v 2) (.v 2)) (.neg (.add (.mul (.v 0) (.mul (.v 0) (.v 0))) (.v 5)))))) (by kernel_rfl))
theorem On.sum {x1 y1 x2 y2 l : R} (hp : K.mul y1 y1 = K.add (K.mul x1 (K.mul x1 x1)) b) (h : Slope K x1 y1 x2 y2 l) : On K b (some (sx K l x1 x2,sy K l x1 y1 x2)):=by
 obtain ⟨h1,h2,_⟩:=h;subst h1;show K.mul (K.sub (K.mul l (K.sub x1 (K.sub (K.sub (K.mul l l) x1) x2))) y1) (K.sub (K.mul l (K.sub x1 (K.sub (K.sub (K.mul l l) x1) x2))) y1) = K.add (K.mul (K.sub (K.sub (K.mul l l) x1) x2) (K.mul (K.sub (K.sub (K.mul l l) x1) x2) (K.sub (K.sub (K.mul l l) x1) x2))) b;exact pH (K:=K) (c1:=K.one) (c2:=(K.sub (K.sub (K.sub (K.mul l l) x1) x2) x1)) hp h2 (aL K (cD K [l,x1,x2,y1,b]) (.add (.mul (.add (.mul (.v 0) (.add (.v 1) (.neg (.add (.add (.mul (.v 0) (.v 0)) (.neg (.v 1))) (.neg (.v 2)))))) (.neg (.v 3))) (.add (.mul (.v 0) (.add (.v 1) (.neg (.add (.add (.mul (.v 0) (.v 0)) (.neg (.v 1))) (.neg (.v 2)))))) (.neg (.v 3)))) (.neg (.add (.mul (.add (.add (.mul (.v 0) (.v 0)) (.neg (.v 1))) (.neg (.v 2))) (.mul (.add (.add (.mul (.v 0) (.v 0)) (.neg (.v 1))) (.neg (.v 2))) (.add (.add (.mul (.v 0) (.v 0)) (.neg (.v 1))) (.neg (.v 2))))) (.v 4)))) (.add (.mul .one (.add (.mul (.v 3) (.v 3)) (.neg (.add (.mul (.v 1) (.mul (.v 1) (.v 1))) (.v 4))))) (.mul (.add (.add (.add (.mul (.v 0) (.v 0)) (.neg (.v 1))) (.neg (.v 2))) (.neg (.v 1))) (.add (.mul (.v 0) (.add (.v 3) (.add (.v 3) (.mul (.v 0) (.add (.v 2) (.neg (.v 1))))))) (.neg (.add (.add (.mul (.v 1) (.v 1)) (.mul (.v 1) (.v 2))) (.mul (.v 2) (.v 2))))))) (by kernel_rfl))
theorem On.neg : ∀ {p : Pt R},On K b p → On K b (Va K p)
 | none,_ => trivial
 | some p,h => by
  show K.mul (K.neg p.2) (K.neg p.2) = _;rw [K.neg_mul,K.mul_neg,K.neg_neg];exact h
theorem On.add (E : EC K inv b) : ∀ {p q : Pt R},On K b p → On K b q → On K b (rX K inv p q)
 | none,_,_,h => h
 | some _,none,h,_ => h
 | some p,some q,hp,hq => by
  by_cases hn : p.1 = q.1 ∧ K.add p.2 q.2 = K.zero
  ·rw [oM hn]; trivial
  ·rw [kD hn];exact On.sum hp (FA E hp hq hn)
def Ab (K : CR R) (b : R) (p : Pt R) (S : Pol K × Pol K → Prop) : Pol K × Pol K → Prop :=
 match p with
 | none => S
 | some p => op (dU K b) cX cY (cc p.1) (cc p.2) S
theorem Gl (p q : Pt R) (S : Pol K × Pol K → Prop) : Ab K b p (Ab K b q S) = Ab K b q (Ab K b p S):=by
 cases p with
 | none => rfl
 | some p => cases q with
  | none => rfl
  | some q => exact Re _ _ _ _
theorem Rf {S : Pol K × Pol K → Prop} (h : Idl (dU K b) S) (p : Pt R) : Idl (dU K b) (Ab K b p S):=by
 cases p with
 | none => exact h
 | some p => exact Gk h _ _
theorem TB {S T : Pol K × Pol K → Prop} (h : Eqv (dU K b) S T) (p : Pt R) : Eqv (dU K b) (Ab K b p S) (Ab K b p T):=by
 cases p with
 | none => exact h
 | some p => exact h.op _ _
theorem aDX (F : FD K inv) (c : R) : (dU K b).sub cX (cc c) ≠ (dU K b).zero:=fun q => Lb (wE (K:=K) F c) (congrArg Prod.fst q)
theorem aAQ (F : FD K inv) (x1 y1 l : R) : (dU K b).sub ((dU K b).sub cY (cc y1)) ((dU K b).mul (cc l) ((dU K b).sub cX (cc x1))) ≠ (dU K b).zero:=fun q => by
 have e : K.add (K.add K.one (K.neg K.zero)) (K.neg (K.add (K.mul l (K.add K.zero (K.neg K.zero))) (K.mul K.zero (K.add K.zero (K.neg x1))))) = K.zero:=congrArg (fun z : Pol K × Pol K => z.2.1 0) q;rw [cT,K.add_zero,K.add_zero,K.mul_zero,K.zero_mul,K.add_zero,cT,K.add_zero] at e;exact F.ne e
theorem jC (E : EC K inv b) {S : Pol K × Pol K → Prop} (hS : Idl (dU K b) S) : ∀ {p q : Pt R},On K b p → On K b q → Eqv (dU K b) (Ab K b p (Ab K b q S)) (Ab K b (rX K inv p q) S)
 | none,_,_,_ => Eqv.refl (kN b E.F) _
 | some _,none,_,_ => Eqv.refl (kN b E.F) _
 | some ⟨x1,y1⟩,some ⟨x2,y2⟩,hp,hq => by
  by_cases hn : x1 = x2 ∧ K.add y1 y2 = K.zero
  ·rw [oM hn];obtain ⟨rfl,hy⟩:=hn;have e : y2 = K.neg y1:=by
    apply K.add_cancel (a:=y1);rw [hy,K.add_neg]
   subst e;show Eqv (dU K b) (op (dU K b) cX cY (cc x1) (cc y1) (op (dU K b) cX cY (cc x1) (cc (K.neg y1)) S)) S;have h0:=E.F.inv _ (E.dbl_ne (E.y_ne hp));rw [Lr b];refine Zh (b:=cc b) (k:=cc (inv (K.add y1 y1))) (aDL b) ?_ ?_ (kN b E.F) (aDX E.F x1) hS
   ·rw [← kO,← kO,← kO,← mA];exact congrArg cc hp
   ·rw [← mA,← kO,K.mul_comm,h0];rfl
  ·rw [kD hn];have h:=FA E hp hq hn;dsimp only at h ⊢;generalize fH K inv x1 y1 x2 y2 = l at h;obtain ⟨h1,h2,hk⟩:=h;subst h1;show Eqv (dU K b) (op (dU K b) cX cY (cc x1) (cc y1) (op (dU K b) cX cY (cc x2) (cc (K.add y1 (K.mul l (K.sub x2 x1)))) S)) (op (dU K b) cX cY (cc (sx K l x1 x2)) (cc (sy K l x1 y1 x2)) S);unfold sy sx;have hX:=aDX (K:=K) (b:=b) E.F (sx K l x1 x2);have hl:=aAQ (K:=K) (b:=b) E.F x1 y1 l;unfold sx at hX;simp only [mA b,kO b,wJ b] at hX ⊢;refine Zg (b:=cc b) (aDL b) ?_ ?_ ?_ hX hl hS
   ·have:=congrArg (cc (K:=K)) h2;simpa only [mA b,kO b,wJ b] using this
   ·have:=congrArg (cc (K:=K)) hp;simpa only [mA b,kO b,wJ b] using this
   ·rcases hk with ⟨k,hk⟩ | ⟨k,hk⟩
    ·refine Or.inl ⟨cc k,?_⟩;have:=congrArg (cc (K:=K)) hk;simpa only [mA b,kO b,wJ b,Lq b] using this
    ·refine Or.inr ⟨cc k,?_⟩;have:=congrArg (cc (K:=K)) hk;simpa only [mA b,kO b,wJ b,Lq b] using this
theorem ST (p : Pt R) : rX K inv (Va K p) p = none:=by
 cases p with
 | none => rfl
 | some p => exact if_pos ⟨rfl,K.neg_add _⟩
theorem Fd {p q : Pt R} (h : rX K inv (Va K p) q = none) : q = p:=by
 cases p with
 | none => exact h
 | some p => cases q with
  | none => cases h
  | some q =>
   by_cases hh : p.1 = q.1 ∧ K.add (K.neg p.2) q.2 = K.zero
   ·obtain ⟨h1,h2⟩:=hh;refine congrArg some (Prod.ext h1.symm ?_);apply K.add_cancel (a:=K.neg p.2);exact h2.trans (K.neg_add p.2).symm
   ·have e : rX K inv (Va K (some p)) (some q) = some _:=kD (p:=(p.1,K.neg p.2)) (q:=q) hh;rw [e] at h;cases h
theorem Zi (E : EC K inv b) {p : Pt R} (hp : On K b p) (h : Eqv (dU K b) (Ab K b p EJ) EJ) : p = none:=by
 cases p with
 | none => rfl
 | some p => exact absurd h (aCN b E.F hp)
theorem TA (E : EC K inv b) {p q : Pt R} (hp : On K b p) (hq : On K b q) (h : Eqv (dU K b) (Ab K b p EJ) (Ab K b q EJ)) : p = q:=by
 have D:=kN (K:=K) b E.F;have h1:=TB h (Va K q);have a1:=jC E (jK (dU K b)) hq.neg hp;have a2:=jC E (jK (dU K b)) hq.neg hq;rw [ST] at a2;exact Fd (Zi E (hq.neg.add E hp) (a1.symm.trans D (h1.trans D a2)))
theorem Fe (E : EC K inv b) {p q : Pt R} (hp : On K b p) (hq : On K b q) : rX K inv p q = rX K inv q p:=by
 have D:=kN (K:=K) b E.F;refine TA E (hp.add E hq) (hq.add E hp) ?_;refine (jC E (jK (dU K b)) hp hq).symm.trans D ?_;rw [Gl];exact jC E (jK (dU K b)) hq hp
theorem ZT (E : EC K inv b) {p q r : Pt R} (hp : On K b p) (hq : On K b q) (hr : On K b r) : rX K inv (rX K inv p q) r = rX K inv p (rX K inv q r):=by
 have D:=kN (K:=K) b E.F;have hu:=jK (dU K b);refine TA E ((hp.add E hq).add E hr) (hp.add E (hq.add E hr)) ?_;refine (jC E hu (hp.add E hq) hr).symm.trans D ?_;refine (jC E (Rf hu r) hp hq).symm.trans D ?_;refine (TB (jC E hu hq hr) p).trans D ?_;exact jC E hu hp (hq.add E hr)
end
structure AG (G : Type) where
 add : G → G → G
 neg : G → G
 zero : G
 assoc : ∀ a b c,add (add a b) c = add a (add b c)
 comm : ∀ a b,add a b = add b a
 zadd : ∀ a,add zero a = a
 nadd : ∀ a,add (neg a) a = zero
def EC.grp {R : Type} {K : CR R} {inv : R → R} {b : R} (E : EC K inv b) : AG {p : Pt R // On K b p} where
 add p q:=⟨rX K inv p.1 q.1,p.2.add E q.2⟩
 neg p:=⟨Va K p.1,p.2.neg⟩
 zero:=⟨none,trivial⟩
 assoc p q r:=Subtype.ext (ZT E p.2 q.2 r.2)
 comm p q:=Subtype.ext (Fe E p.2 q.2)
 zadd p:=rfl
 nadd p:=Subtype.ext (ST p.1)
section
variable {R : Type} (K : CR R) (inv : R → R)
abbrev Jc (R : Type):=R × R × R
def fZ (p : Jc R) : Pt R:=if p.2.2 = K.zero then none else some (K.mul p.1 (K.mul (inv p.2.2) (inv p.2.2)),K.mul p.2.1 (K.mul (K.mul (inv p.2.2) (inv p.2.2)) (inv p.2.2)))
def dSl (p : Jc R) : R:=K.add (K.add (K.mul p.1 p.1) (K.mul p.1 p.1)) (K.mul p.1 p.1)
def dTw (p : Jc R) : R:=K.add (K.mul p.2.1 p.2.1) (K.mul p.2.1 p.2.1)
def dFo (p : Jc R) : R:=K.add (dTw K p) (dTw K p)
def dBa (p : Jc R) : R:=K.mul p.1 (dFo K p)
def dX (p : Jc R) : R:=K.sub (K.mul (dSl K p) (dSl K p)) (K.add (dBa K p) (dBa K p))
def dY (p : Jc R) : R:=K.sub (K.mul (dSl K p) (K.sub (dBa K p) (dX K p))) (K.mul (dFo K p) (dTw K p))
def dI (p : Jc R) : Jc R:=(dX K p,dY K p,K.mul (K.add p.2.1 p.2.1) p.2.2)
def xH (p q : Jc R) : R:=K.mul p.1 (K.mul q.2.2 q.2.2)
def sR (p q : Jc R) : R:=K.mul p.2.1 (K.mul (K.mul q.2.2 q.2.2) q.2.2)
def oC (p q : Jc R) : R:=K.sub (xH K q p) (xH K p q)
def CD (p q : Jc R) : R:=K.sub (sR K q p) (sR K p q)
def sX (px a up : R) : R:=K.sub (K.sub (K.mul up up) (K.mul (K.mul a a) a)) (K.add (K.mul px (K.mul a a)) (K.mul px (K.mul a a)))
def sY (px py a up : R) : R:=K.sub (K.mul up (K.sub (K.mul px (K.mul a a)) (sX K px a up))) (K.mul py (K.mul (K.mul a a) a))
def yB (p q : Jc R) : Jc R:=(sX K (xH K p q) (oC K p q) (CD K p q),sY K (xH K p q) (sR K p q) (oC K p q) (CD K p q),K.mul (K.mul p.2.2 q.2.2) (oC K p q))
def fP (p q : Jc R) : Jc R :=
 if p.2.2 = K.zero then q else if q.2.2 = K.zero then p else if oC K p q = K.zero ∧ CD K p q = K.zero then dI K p else yB K p q
def rplus (p q : Jc R) : Jc R :=
 if p.2.2 = K.zero then q else if q.2.2 = K.zero then p else if oC K p q = K.zero ∧ CD K p q = K.zero then dI K p else if oC K p q = K.zero then (K.one,K.one,K.zero) else yB K p q
variable {K} {inv} {b : R}
theorem cU {p : Jc R} (h : p.2.2 = K.zero) : fZ K inv p = none:=if_pos h
theorem dS {p : Jc R} (h : p.2.2 ≠ K.zero) : fZ K inv p = some (K.mul p.1 (K.mul (inv p.2.2) (inv p.2.2)),K.mul p.2.1 (K.mul (K.mul (inv p.2.2) (inv p.2.2)) (inv p.2.2))):=if_neg h
theorem yG (E : EC K inv b) {x y l : R} (hy : K.add y y ≠ K.zero) (h : K.mul l (K.add y y) = K.add (K.add (K.mul x x) (K.mul x x)) (K.mul x x)) : fH K inv x y x y = l:=by
 unfold fH;rw [if_pos rfl];refine E.F.cancel hy ?_;have hi:=E.F.inv _ hy;generalize inv (K.add y y) = k at hi;exact pH (K:=K) (c1:=(K.add (K.add (K.mul x x) (K.mul x x)) (K.mul x x))) (c2:=(K.neg K.one)) hi h (aL K (cD K [y,x,k,l]) (.add (.mul (.add (.v 0) (.v 0)) (.mul (.add (.add (.mul (.v 1) (.v 1)) (.mul (.v 1) (.v 1))) (.mul (.v 1) (.v 1))) (.v 2))) (.neg (.mul (.add (.v 0) (.v 0)) (.v 3)))) (.add (.mul (.add (.add (.mul (.v 1) (.v 1)) (.mul (.v 1) (.v 1))) (.mul (.v 1) (.v 1))) (.add (.mul (.add (.v 0) (.v 0)) (.v 2)) (.neg .one))) (.mul (.neg .one) (.add (.mul (.v 3) (.add (.v 0) (.v 0))) (.neg (.add (.add (.mul (.v 1) (.v 1)) (.mul (.v 1) (.v 1))) (.mul (.v 1) (.v 1))))))) (by kernel_rfl))
theorem rU (E : EC K inv b) {x1 y1 x2 y2 l : R} (hx : x1 ≠ x2) (h : K.mul l (K.sub x2 x1) = K.sub y2 y1) : fH K inv x1 y1 x2 y2 = l:=by
 unfold fH;rw [if_neg hx];have hd : K.sub x2 x1 ≠ K.zero:=AR fun e => hx e.symm
 have hi:=E.F.inv _ hd;refine E.F.cancel hd ?_;generalize inv (K.sub x2 x1) = k at hi;exact pH (K:=K) (c1:=(K.sub y2 y1)) (c2:=(K.neg K.one)) hi h (aL K (cD K [x2,x1,y2,y1,k,l]) (.add (.mul (.add (.v 0) (.neg (.v 1))) (.mul (.add (.v 2) (.neg (.v 3))) (.v 4))) (.neg (.mul (.add (.v 0) (.neg (.v 1))) (.v 5)))) (.add (.mul (.add (.v 2) (.neg (.v 3))) (.add (.mul (.add (.v 0) (.neg (.v 1))) (.v 4)) (.neg .one))) (.mul (.neg .one) (.add (.mul (.v 5) (.add (.v 0) (.neg (.v 1)))) (.neg (.add (.v 2) (.neg (.v 3))))))) (by kernel_rfl))
theorem US (E : EC K inv b) {p : Jc R} (hp : On K b (fZ K inv p)) : fZ K inv (dI K p) = rX K inv (fZ K inv p) (fZ K inv p):=by
 obtain ⟨x,y,z⟩:=p
 by_cases hz : z = K.zero
 ·have h1 : fZ K inv (x,y,z) = none:=cU hz;rw [h1];refine cU ?_;show K.mul (K.add y y) z = K.zero;rw [hz,K.mul_zero]
 ·have h1:=dS (K:=K) (inv:=inv) (p:=(x,y,z)) hz;rw [h1] at hp ⊢;dsimp only at hp ⊢;have hi:=E.F.inv z hz;generalize inv z = i at hi hp ⊢;have hY:=E.y_ne (show K.mul (K.mul y (K.mul (K.mul i i) i)) (K.mul y (K.mul (K.mul i i) i)) = _ from hp);have hy : y ≠ K.zero:=fun e => hY (by rw [e,K.zero_mul])
  have hyy:=E.dbl_ne hy;have hz3 : K.mul (K.add y y) z ≠ K.zero:=E.F.mul_ne hyy hz;have h3:=dS (K:=K) (inv:=inv) (p:=dI K (x,y,z)) hz3;rw [h3];show some (K.mul (dX K (x,y,z)) (K.mul (inv (K.mul (K.add y y) z)) (inv (K.mul (K.add y y) z))),K.mul (dY K (x,y,z)) (K.mul (K.mul (inv (K.mul (K.add y y) z)) (inv (K.mul (K.add y y) z))) (inv (K.mul (K.add y y) z)))) = _;have hj:=E.F.inv _ hz3;generalize inv (K.mul (K.add y y) z) = j at hj ⊢;have e : i = K.mul (K.add y y) j:=pH (K:=K) (c1:=(K.neg i)) (c2:=(K.mul (K.add y y) j)) hj hi (aL K (cD K [i,y,j,z]) (.add (.v 0) (.neg (.mul (.add (.v 1) (.v 1)) (.v 2)))) (.add (.mul (.neg (.v 0)) (.add (.mul (.mul (.add (.v 1) (.v 1)) (.v 3)) (.v 2)) (.neg .one))) (.mul (.mul (.add (.v 1) (.v 1)) (.v 2)) (.add (.mul (.v 3) (.v 0)) (.neg .one)))) (by kernel_rfl));subst e;have hYY:=E.dbl_ne hY;rw [kD (fun h => hYY h.2)];dsimp only;have hs:=yG (l:=(K.mul (K.add (K.add (K.mul x x) (K.mul x x)) (K.mul x x)) j)) (x:=(K.mul x (K.mul (K.mul (K.add y y) j) (K.mul (K.add y y) j)))) E hYY (aL K (cD K [x,j,y]) (.mul (.mul (.add (.add (.mul (.v 0) (.v 0)) (.mul (.v 0) (.v 0))) (.mul (.v 0) (.v 0))) (.v 1)) (.add (.mul (.v 2) (.mul (.mul (.mul (.add (.v 2) (.v 2)) (.v 1)) (.mul (.add (.v 2) (.v 2)) (.v 1))) (.mul (.add (.v 2) (.v 2)) (.v 1)))) (.mul (.v 2) (.mul (.mul (.mul (.add (.v 2) (.v 2)) (.v 1)) (.mul (.add (.v 2) (.v 2)) (.v 1))) (.mul (.add (.v 2) (.v 2)) (.v 1)))))) (.add (.add (.mul (.mul (.v 0) (.mul (.mul (.add (.v 2) (.v 2)) (.v 1)) (.mul (.add (.v 2) (.v 2)) (.v 1)))) (.mul (.v 0) (.mul (.mul (.add (.v 2) (.v 2)) (.v 1)) (.mul (.add (.v 2) (.v 2)) (.v 1))))) (.mul (.mul (.v 0) (.mul (.mul (.add (.v 2) (.v 2)) (.v 1)) (.mul (.add (.v 2) (.v 2)) (.v 1)))) (.mul (.v 0) (.mul (.mul (.add (.v 2) (.v 2)) (.v 1)) (.mul (.add (.v 2) (.v 2)) (.v 1)))))) (.mul (.mul (.v 0) (.mul (.mul (.add (.v 2) (.v 2)) (.v 1)) (.mul (.add (.v 2) (.v 2)) (.v 1)))) (.mul (.v 0) (.mul (.mul (.add (.v 2) (.v 2)) (.v 1)) (.mul (.add (.v 2) (.v 2)) (.v 1)))))) (by kernel_rfl));rw [hs];refine congrArg some (Prod.ext ?_ ?_)
  ·exact aL K (cD K [x,y,j]) (.mul (.add (.mul (.add (.add (.mul (.v 0) (.v 0)) (.mul (.v 0) (.v 0))) (.mul (.v 0) (.v 0))) (.add (.add (.mul (.v 0) (.v 0)) (.mul (.v 0) (.v 0))) (.mul (.v 0) (.v 0)))) (.neg (.add (.mul (.v 0) (.add (.add (.mul (.v 1) (.v 1)) (.mul (.v 1) (.v 1))) (.add (.mul (.v 1) (.v 1)) (.mul (.v 1) (.v 1))))) (.mul (.v 0) (.add (.add (.mul (.v 1) (.v 1)) (.mul (.v 1) (.v 1))) (.add (.mul (.v 1) (.v 1)) (.mul (.v 1) (.v 1)))))))) (.mul (.v 2) (.v 2))) (.add (.add (.mul (.mul (.add (.add (.mul (.v 0) (.v 0)) (.mul (.v 0) (.v 0))) (.mul (.v 0) (.v 0))) (.v 2)) (.mul (.add (.add (.mul (.v 0) (.v 0)) (.mul (.v 0) (.v 0))) (.mul (.v 0) (.v 0))) (.v 2))) (.neg (.mul (.v 0) (.mul (.mul (.add (.v 1) (.v 1)) (.v 2)) (.mul (.add (.v 1) (.v 1)) (.v 2)))))) (.neg (.mul (.v 0) (.mul (.mul (.add (.v 1) (.v 1)) (.v 2)) (.mul (.add (.v 1) (.v 1)) (.v 2)))))) (by kernel_rfl)
  ·exact aL K (cD K [x,y,j]) (.mul (.add (.mul (.add (.add (.mul (.v 0) (.v 0)) (.mul (.v 0) (.v 0))) (.mul (.v 0) (.v 0))) (.add (.mul (.v 0) (.add (.add (.mul (.v 1) (.v 1)) (.mul (.v 1) (.v 1))) (.add (.mul (.v 1) (.v 1)) (.mul (.v 1) (.v 1))))) (.neg (.add (.mul (.add (.add (.mul (.v 0) (.v 0)) (.mul (.v 0) (.v 0))) (.mul (.v 0) (.v 0))) (.add (.add (.mul (.v 0) (.v 0)) (.mul (.v 0) (.v 0))) (.mul (.v 0) (.v 0)))) (.neg (.add (.mul (.v 0) (.add (.add (.mul (.v 1) (.v 1)) (.mul (.v 1) (.v 1))) (.add (.mul (.v 1) (.v 1)) (.mul (.v 1) (.v 1))))) (.mul (.v 0) (.add (.add (.mul (.v 1) (.v 1)) (.mul (.v 1) (.v 1))) (.add (.mul (.v 1) (.v 1)) (.mul (.v 1) (.v 1))))))))))) (.neg (.mul (.add (.add (.mul (.v 1) (.v 1)) (.mul (.v 1) (.v 1))) (.add (.mul (.v 1) (.v 1)) (.mul (.v 1) (.v 1)))) (.add (.mul (.v 1) (.v 1)) (.mul (.v 1) (.v 1)))))) (.mul (.mul (.v 2) (.v 2)) (.v 2))) (.add (.mul (.mul (.add (.add (.mul (.v 0) (.v 0)) (.mul (.v 0) (.v 0))) (.mul (.v 0) (.v 0))) (.v 2)) (.add (.mul (.v 0) (.mul (.mul (.add (.v 1) (.v 1)) (.v 2)) (.mul (.add (.v 1) (.v 1)) (.v 2)))) (.neg (.add (.add (.mul (.mul (.add (.add (.mul (.v 0) (.v 0)) (.mul (.v 0) (.v 0))) (.mul (.v 0) (.v 0))) (.v 2)) (.mul (.add (.add (.mul (.v 0) (.v 0)) (.mul (.v 0) (.v 0))) (.mul (.v 0) (.v 0))) (.v 2))) (.neg (.mul (.v 0) (.mul (.mul (.add (.v 1) (.v 1)) (.v 2)) (.mul (.add (.v 1) (.v 1)) (.v 2)))))) (.neg (.mul (.v 0) (.mul (.mul (.add (.v 1) (.v 1)) (.v 2)) (.mul (.add (.v 1) (.v 1)) (.v 2))))))))) (.neg (.mul (.v 1) (.mul (.mul (.mul (.add (.v 1) (.v 1)) (.v 2)) (.mul (.add (.v 1) (.v 1)) (.v 2))) (.mul (.add (.v 1) (.v 1)) (.v 2)))))) (by kernel_rfl)
theorem vR (E : EC K inv b) {p q : Jc R} (hp : p.2.2 ≠ K.zero) (hq : q.2.2 ≠ K.zero) : ∃ w,K.mul (K.mul p.2.2 q.2.2) w = K.one ∧ fZ K inv p = some (K.mul (xH K p q) (K.mul w w),K.mul (sR K p q) (K.mul (K.mul w w) w)) ∧ fZ K inv q = some (K.mul (xH K q p) (K.mul w w),K.mul (sR K q p) (K.mul (K.mul w w) w)):=by
 obtain ⟨x1,y1,z1⟩:=p;obtain ⟨x2,y2,z2⟩:=q;have h1:=E.F.inv z1 hp;have h2:=E.F.inv z2 hq;rw [dS hp,dS hq];dsimp only at *;generalize inv z1 = i at h1 ⊢;generalize inv z2 = j at h2 ⊢;refine ⟨K.mul i j,?_,congrArg some (Prod.ext ?_ ?_),congrArg some (Prod.ext ?_ ?_)⟩
 ·exact pH (K:=K) (c1:=(K.mul z2 j)) (c2:=K.one) h1 h2 (aL K (cD K [z1,z2,i,j]) (.add (.mul (.mul (.v 0) (.v 1)) (.mul (.v 2) (.v 3))) (.neg .one)) (.add (.mul (.mul (.v 1) (.v 3)) (.add (.mul (.v 0) (.v 2)) (.neg .one))) (.mul .one (.add (.mul (.v 1) (.v 3)) (.neg .one)))) (by kernel_rfl))
 ·exact nD (K:=K) (c1:=(K.mul (K.neg (K.mul x1 (K.mul i i))) (K.add (K.mul z2 j) K.one))) h2 (aL K (cD K [x1,i,z2,j]) (.add (.mul (.v 0) (.mul (.v 1) (.v 1))) (.neg (.mul (.mul (.v 0) (.mul (.v 2) (.v 2))) (.mul (.mul (.v 1) (.v 3)) (.mul (.v 1) (.v 3)))))) (.mul (.mul (.neg (.mul (.v 0) (.mul (.v 1) (.v 1)))) (.add (.mul (.v 2) (.v 3)) .one)) (.add (.mul (.v 2) (.v 3)) (.neg .one))) (by kernel_rfl))
 ·exact nD (K:=K) (c1:=(K.mul (K.neg (K.mul y1 (K.mul (K.mul i i) i))) (K.add (K.add (K.mul (K.mul z2 j) (K.mul z2 j)) (K.mul z2 j)) K.one))) h2 (aL K (cD K [y1,i,z2,j]) (.add (.mul (.v 0) (.mul (.mul (.v 1) (.v 1)) (.v 1))) (.neg (.mul (.mul (.v 0) (.mul (.mul (.v 2) (.v 2)) (.v 2))) (.mul (.mul (.mul (.v 1) (.v 3)) (.mul (.v 1) (.v 3))) (.mul (.v 1) (.v 3)))))) (.mul (.mul (.neg (.mul (.v 0) (.mul (.mul (.v 1) (.v 1)) (.v 1)))) (.add (.add (.mul (.mul (.v 2) (.v 3)) (.mul (.v 2) (.v 3))) (.mul (.v 2) (.v 3))) .one)) (.add (.mul (.v 2) (.v 3)) (.neg .one))) (by kernel_rfl))
 ·exact nD (K:=K) (c1:=(K.mul (K.neg (K.mul x2 (K.mul j j))) (K.add (K.mul z1 i) K.one))) h1 (aL K (cD K [x2,j,z1,i]) (.add (.mul (.v 0) (.mul (.v 1) (.v 1))) (.neg (.mul (.mul (.v 0) (.mul (.v 2) (.v 2))) (.mul (.mul (.v 3) (.v 1)) (.mul (.v 3) (.v 1)))))) (.mul (.mul (.neg (.mul (.v 0) (.mul (.v 1) (.v 1)))) (.add (.mul (.v 2) (.v 3)) .one)) (.add (.mul (.v 2) (.v 3)) (.neg .one))) (by kernel_rfl))
 ·exact nD (K:=K) (c1:=(K.mul (K.neg (K.mul y2 (K.mul (K.mul j j) j))) (K.add (K.add (K.mul (K.mul z1 i) (K.mul z1 i)) (K.mul z1 i)) K.one))) h1 (aL K (cD K [y2,j,z1,i]) (.add (.mul (.v 0) (.mul (.mul (.v 1) (.v 1)) (.v 1))) (.neg (.mul (.mul (.v 0) (.mul (.mul (.v 2) (.v 2)) (.v 2))) (.mul (.mul (.mul (.v 3) (.v 1)) (.mul (.v 3) (.v 1))) (.mul (.v 3) (.v 1)))))) (.mul (.mul (.neg (.mul (.v 0) (.mul (.mul (.v 1) (.v 1)) (.v 1)))) (.add (.add (.mul (.mul (.v 2) (.v 3)) (.mul (.v 2) (.v 3))) (.mul (.v 2) (.v 3))) .one)) (.add (.mul (.v 2) (.v 3)) (.neg .one))) (by kernel_rfl))
theorem Lp (E : EC K inv b) {px py qx qy w zz j : R} (hw : K.mul zz w = K.one) (ha : K.sub qx px ≠ K.zero) (hj : K.mul (K.mul zz (K.sub qx px)) j = K.one) :
  rX K inv (some (K.mul px (K.mul w w),K.mul py (K.mul (K.mul w w) w))) (some (K.mul qx (K.mul w w),K.mul qy (K.mul (K.mul w w) w))) = some (K.mul (sX K px (K.sub qx px) (K.sub qy py)) (K.mul j j),K.mul (sY K px py (K.sub qx px) (K.sub qy py)) (K.mul (K.mul j j) j)):=by
 have hw0 : w ≠ K.zero:=fun e => E.F.ne (by rw [← hw,e,K.mul_zero])
 have e : w = K.mul (K.sub qx px) j:=pH (K:=K) (c1:=(K.neg w)) (c2:=(K.mul (K.sub qx px) j)) hj hw (aL K (cD K [w,qx,px,j,zz]) (.add (.v 0) (.neg (.mul (.add (.v 1) (.neg (.v 2))) (.v 3)))) (.add (.mul (.neg (.v 0)) (.add (.mul (.mul (.v 4) (.add (.v 1) (.neg (.v 2)))) (.v 3)) (.neg .one))) (.mul (.mul (.add (.v 1) (.neg (.v 2))) (.v 3)) (.add (.mul (.v 4) (.v 0)) (.neg .one)))) (by kernel_rfl));have hx : K.mul px (K.mul w w) ≠ K.mul qx (K.mul w w):=fun h => by
  refine E.F.mul_ne ha (E.F.mul_ne hw0 hw0) ?_;have : K.mul (K.sub qx px) (K.mul w w) = K.sub (K.mul qx (K.mul w w)) (K.mul px (K.mul w w)):=aL K (cD K [qx,px,w]) (.mul (.add (.v 0) (.neg (.v 1))) (.mul (.v 2) (.v 2))) (.add (.mul (.v 0) (.mul (.v 2) (.v 2))) (.neg (.mul (.v 1) (.mul (.v 2) (.v 2))))) (by kernel_rfl);rw [this,h];exact K.add_neg _
 rw [kD (fun h => hx h.1)];dsimp only;have hs:=rU (l:=(K.mul (K.sub qy py) j)) (y1:=K.mul py (K.mul (K.mul w w) w)) (y2:=K.mul qy (K.mul (K.mul w w) w)) E hx (by
  subst e;exact aL K (cD K [qy,py,j,qx,px]) (.mul (.mul (.add (.v 0) (.neg (.v 1))) (.v 2)) (.add (.mul (.v 3) (.mul (.mul (.add (.v 3) (.neg (.v 4))) (.v 2)) (.mul (.add (.v 3) (.neg (.v 4))) (.v 2)))) (.neg (.mul (.v 4) (.mul (.mul (.add (.v 3) (.neg (.v 4))) (.v 2)) (.mul (.add (.v 3) (.neg (.v 4))) (.v 2))))))) (.add (.mul (.v 0) (.mul (.mul (.mul (.add (.v 3) (.neg (.v 4))) (.v 2)) (.mul (.add (.v 3) (.neg (.v 4))) (.v 2))) (.mul (.add (.v 3) (.neg (.v 4))) (.v 2)))) (.neg (.mul (.v 1) (.mul (.mul (.mul (.add (.v 3) (.neg (.v 4))) (.v 2)) (.mul (.add (.v 3) (.neg (.v 4))) (.v 2))) (.mul (.add (.v 3) (.neg (.v 4))) (.v 2)))))) (by kernel_rfl))
 rw [hs];subst e;refine congrArg some (Prod.ext ?_ ?_)
 ·exact aL K (cD K [qy,py,j,px,qx]) (.add (.add (.mul (.mul (.add (.v 0) (.neg (.v 1))) (.v 2)) (.mul (.add (.v 0) (.neg (.v 1))) (.v 2))) (.neg (.mul (.v 3) (.mul (.mul (.add (.v 4) (.neg (.v 3))) (.v 2)) (.mul (.add (.v 4) (.neg (.v 3))) (.v 2)))))) (.neg (.mul (.v 4) (.mul (.mul (.add (.v 4) (.neg (.v 3))) (.v 2)) (.mul (.add (.v 4) (.neg (.v 3))) (.v 2)))))) (.mul (.add (.add (.mul (.add (.v 0) (.neg (.v 1))) (.add (.v 0) (.neg (.v 1)))) (.neg (.mul (.mul (.add (.v 4) (.neg (.v 3))) (.add (.v 4) (.neg (.v 3)))) (.add (.v 4) (.neg (.v 3)))))) (.neg (.add (.mul (.v 3) (.mul (.add (.v 4) (.neg (.v 3))) (.add (.v 4) (.neg (.v 3))))) (.mul (.v 3) (.mul (.add (.v 4) (.neg (.v 3))) (.add (.v 4) (.neg (.v 3)))))))) (.mul (.v 2) (.v 2))) (by kernel_rfl)
 ·exact aL K (cD K [qy,py,j,px,qx]) (.add (.mul (.mul (.add (.v 0) (.neg (.v 1))) (.v 2)) (.add (.mul (.v 3) (.mul (.mul (.add (.v 4) (.neg (.v 3))) (.v 2)) (.mul (.add (.v 4) (.neg (.v 3))) (.v 2)))) (.neg (.add (.add (.mul (.mul (.add (.v 0) (.neg (.v 1))) (.v 2)) (.mul (.add (.v 0) (.neg (.v 1))) (.v 2))) (.neg (.mul (.v 3) (.mul (.mul (.add (.v 4) (.neg (.v 3))) (.v 2)) (.mul (.add (.v 4) (.neg (.v 3))) (.v 2)))))) (.neg (.mul (.v 4) (.mul (.mul (.add (.v 4) (.neg (.v 3))) (.v 2)) (.mul (.add (.v 4) (.neg (.v 3))) (.v 2))))))))) (.neg (.mul (.v 1) (.mul (.mul (.mul (.add (.v 4) (.neg (.v 3))) (.v 2)) (.mul (.add (.v 4) (.neg (.v 3))) (.v 2))) (.mul (.add (.v 4) (.neg (.v 3))) (.v 2)))))) (.mul (.add (.mul (.add (.v 0) (.neg (.v 1))) (.add (.mul (.v 3) (.mul (.add (.v 4) (.neg (.v 3))) (.add (.v 4) (.neg (.v 3))))) (.neg (.add (.add (.mul (.add (.v 0) (.neg (.v 1))) (.add (.v 0) (.neg (.v 1)))) (.neg (.mul (.mul (.add (.v 4) (.neg (.v 3))) (.add (.v 4) (.neg (.v 3)))) (.add (.v 4) (.neg (.v 3)))))) (.neg (.add (.mul (.v 3) (.mul (.add (.v 4) (.neg (.v 3))) (.add (.v 4) (.neg (.v 3))))) (.mul (.v 3) (.mul (.add (.v 4) (.neg (.v 3))) (.add (.v 4) (.neg (.v 3))))))))))) (.neg (.mul (.v 1) (.mul (.mul (.add (.v 4) (.neg (.v 3))) (.add (.v 4) (.neg (.v 3)))) (.add (.v 4) (.neg (.v 3))))))) (.mul (.mul (.v 2) (.v 2)) (.v 2))) (by kernel_rfl)
theorem AW (E : EC K inv b) {y1 y2 : R} (h : K.mul y1 y1 = K.mul y2 y2) (hn : y1 ≠ y2) : K.add y1 y2 = K.zero:=by
 refine E.F.zd (a:=K.sub y1 y2) ?_ (AR hn);have : K.mul (K.sub y1 y2) (K.add y1 y2) = K.sub (K.mul y1 y1) (K.mul y2 y2):=aL K (cD K [y1,y2]) (.mul (.add (.v 0) (.neg (.v 1))) (.add (.v 0) (.v 1))) (.add (.mul (.v 0) (.v 0)) (.neg (.mul (.v 1) (.v 1)))) (by kernel_rfl);rw [this,h];exact K.add_neg _
theorem Sj (E : EC K inv b) {p q : Jc R} (hp : On K b (fZ K inv p)) (hq : On K b (fZ K inv q)) (h1 : p.2.2 ≠ K.zero) (h2 : q.2.2 ≠ K.zero) (hn : ¬ (oC K p q = K.zero ∧ CD K p q = K.zero)) :
  fZ K inv (yB K p q) = rX K inv (fZ K inv p) (fZ K inv q):=by
 obtain ⟨w,hw,e1,e2⟩:=vR (K:=K) (inv:=inv) E h1 h2;rw [e1] at hp;rw [e2] at hq;rw [e1,e2]
 by_cases ha : oC K p q = K.zero
 ·have hx : xH K q p = xH K p q:=gG ha;have hu : CD K p q ≠ K.zero:=fun e => hn ⟨ha,e⟩
  have hw0 : w ≠ K.zero:=fun e => E.F.ne (by rw [← hw,e,K.mul_zero])
  have hy : K.mul (sR K p q) (K.mul (K.mul w w) w) ≠ K.mul (sR K q p) (K.mul (K.mul w w) w):=fun h => by
   refine E.F.mul_ne hu (E.F.mul_ne (E.F.mul_ne hw0 hw0) hw0) ?_;show K.mul (K.sub (sR K q p) (sR K p q)) _ = _;have e0 : ∀ s t c : R,K.mul (K.sub s t) c = K.sub (K.mul s c) (K.mul t c):=fun s t c => aL K (cD K [s,t,c]) (.mul (.add (.v 0) (.neg (.v 1))) (.v 2)) (.add (.mul (.v 0) (.v 2)) (.neg (.mul (.v 1) (.v 2)))) (by kernel_rfl)
   rw [e0,h];exact K.add_neg _
  rw [hx] at hq ⊢;have ho:=AW (y1:=K.mul (sR K p q) (K.mul (K.mul w w) w)) (y2:=K.mul (sR K q p) (K.mul (K.mul w w) w)) E ((show K.mul _ _ = _ from hp).trans (show K.mul _ _ = _ from hq).symm) hy;rw [oM (p:=(K.mul (xH K p q) (K.mul w w),K.mul (sR K p q) (K.mul (K.mul w w) w))) (q:=(K.mul (xH K p q) (K.mul w w),K.mul (sR K q p) (K.mul (K.mul w w) w))) ⟨rfl,ho⟩];refine cU ?_;show K.mul (K.mul p.2.2 q.2.2) (oC K p q) = K.zero;rw [ha,K.mul_zero]
 ·have hz : K.mul (K.mul p.2.2 q.2.2) (oC K p q) ≠ K.zero:=E.F.mul_ne (E.F.mul_ne h1 h2) ha;have hj:=E.F.inv _ hz;refine (dS (p:=yB K p q) hz).trans ?_;exact (Lp E hw ha hj).symm
theorem JW (E : EC K inv b) {p q : Jc R} (hp : On K b (fZ K inv p)) (hq : On K b (fZ K inv q)) : fZ K inv (fP K p q) = rX K inv (fZ K inv p) (fZ K inv q):=by
 unfold fP
 by_cases h1 : p.2.2 = K.zero
 ·rw [if_pos h1,cU h1]; rfl
 ·rw [if_neg h1]
  by_cases h2 : q.2.2 = K.zero
  ·rw [if_pos h2,cU h2,dS h1]; rfl
  ·rw [if_neg h2]
   by_cases h3 : oC K p q = K.zero ∧ CD K p q = K.zero
   ·rw [if_pos h3];obtain ⟨w,hw,e1,e2⟩:=vR (K:=K) (inv:=inv) E h1 h2;have hx : xH K q p = xH K p q:=gG h3.1;have hy : sR K q p = sR K p q:=gG h3.2;rw [US E hp];rw [hx,hy] at e2;rw [e2,e1]
   ·rw [if_neg h3];exact Sj E hp hq h1 h2 h3
theorem Ap (E : EC K inv b) {p q : Jc R} (hp : On K b (fZ K inv p)) (hq : On K b (fZ K inv q)) : fZ K inv (rplus K p q) = rX K inv (fZ K inv p) (fZ K inv q):=by
 rw [← JW E hp hq];unfold rplus fP
 by_cases h1 : p.2.2 = K.zero
 ·rw [if_pos h1,if_pos h1]
 ·rw [if_neg h1,if_neg h1]
  by_cases h2 : q.2.2 = K.zero
  ·rw [if_pos h2,if_pos h2]
  ·rw [if_neg h2,if_neg h2]
   by_cases h3 : oC K p q = K.zero ∧ CD K p q = K.zero
   ·rw [if_pos h3,if_pos h3]
   ·rw [if_neg h3,if_neg h3]
    by_cases h4 : oC K p q = K.zero
    ·rw [if_pos h4,cU rfl];refine (cU ?_).symm;show K.mul (K.mul p.2.2 q.2.2) (oC K p q) = K.zero;rw [h4,K.mul_zero]
    ·rw [if_neg h4]
def CG (K : CR R) (p : Jc R) : Jc R:=(p.1,K.sub K.zero p.2.1,p.2.2)
theorem Sk (p : Jc R) : fZ K inv (CG K p) = Va K (fZ K inv p):=by
 by_cases h : p.2.2 = K.zero
 ·rw [cU h,cU (p:=CG K p) h]; rfl
 ·rw [dS h,dS (p:=CG K p) h];refine congrArg some (Prod.ext rfl ?_);show K.mul (K.sub K.zero p.2.1) _ = K.neg (K.mul p.2.1 _);rw [← K.neg_mul];congr 1;exact K.zero_add _
end
open Go.RowKit
theorem Cc {x y : Fq} (h : w4 x.1 = w4 y.1) : x = y:=by
 unfold w4 at h;simp only [List.cons.injEq,Value.int.injEq,true_and,and_true,Int.ofNat_inj] at h;apply Fin.ext;rw [← bU x.2,← bU y.2,h.1,h.2.1,h.2.2.1,h.2.2.2]
theorem KL : ∀ (l m : List Fq),aB (l.map .f) = aB (m.map .f) → l = m
 | [],[],_ => rfl
 | a :: r,b :: s,h => by
  have h' : w4 a.1 ++ aB (r.map .f) = w4 b.1 ++ aB (s.map .f):=h;obtain ⟨h1,h2⟩:=List.append_inj h' rfl;rw [Cc h1,KL r s h2]
 | [],b :: s,h => by cases h
 | a :: r,[],h => by cases h
theorem aAS {a b : Fq} (h : aB [.f a] = aB [.f b]) : a = b:=Cc (by
 have h' : w4 a.1 ++ [] = w4 b.1 ++ []:=h
 rwa [List.append_nil,List.append_nil] at h')
theorem aAR {a b : Q2} (h : aB (e2 a) = aB (e2 b)) : a = b:=by
 have:=KL [a.1,a.2] [b.1,b.2] h;simp only [List.cons.injEq,and_true] at this;exact Prod.ext this.1 this.2
def vp : At → Option (List Prop × Fq)
 | .f x => some ([],x)
 | .q x => some ([wv x < FP.M],m1 x)
 | .c _ => none
theorem SG {a : At} {p : List Prop} {x : Fq} (h : vp a = some (p,x)) (hp : aQ p) : ∃ n : Nat,aB [a] = aB (q1 n) ∧ m1 n = x ∧ wv n < FP.M:=by
 cases a with
 | f y => cases h; exact ⟨x.1,rfl,Vn x,by unfold wv; rw [bU x.2]; exact x.2⟩
 | q y => cases h; exact ⟨_,rfl,rfl,hp.1⟩
 | c v => cases h
def g2p (op : Fq → Fq → RV) : gC
 | [.v (.fl [a]),.v (.fl [b])] => match vp a,vp b with
  | some (p,x),some (q,y) => some (p ++ q,op x y)
  | _,_ => none
 | _ => none
theorem QC {P : Program} {f : FuncId} {op : Fq → Fq → RV} (h : ∀ a b : Nat,wv a < FP.M → wv b < FP.M → ∀ args w,bH w [.v (.fl (q1 a)),.v (.fl (q1 b))] args → Good P f (op (m1 a) (m1 b)) args w) :
  ∀ cs pre r,g2p op cs = some (pre,r) → aQ pre → ∀ (args : List Value) (w : World),bH w cs args → Good P f r args w:=by
 intro cs pre r hg hp args w ha;unfold g2p at hg;split at hg
 ·rename_i a b;split at hg
  ·rename_i p x q y hx hy;cases hg;obtain ⟨p1,p2⟩:=bG.1 hp;obtain ⟨n,e1,rfl,hn⟩:=SG hx p1;obtain ⟨m,e2,rfl,hm⟩:=SG hy p2;refine h n m hn hm args w ?_
   match args,ha with
   | [v,u],ha =>
    have h1 : v = .agg (aB [a]).toArray:=ha.1;have h2 : u = .agg (aB [b]).toArray:=ha.2.1;rw [e1] at h1;rw [e2] at h2;exact ⟨h1,h2,trivial⟩
   | [],ha => exact ha.elim
   | [_],ha => exact ha.2.elim
   | _ :: _ :: _ :: _,ha => exact ha.2.2.elim
  ·cases hg
 ·cases hg
def gF2 (op : Fq → Fq → Fq) : gC
 | [.v (.im (.int .i64 (.ofNat 1))),.v (.fl [a]),.v (.fl [b])] => match vp a,vp b with
  | some (p,x),some (q,y) => some (p ++ q,.many [.fl (e1 (op x y)),.im (.int .i64 0)])
  | _,_ => none
 | _ => none
theorem QA {f : FuncId} {op : Fq → Fq → Fq} (h : ∀ (a b : Nat) (w : World),wv a < FP.M → wv b < FP.M → Calls prog f #[.int .i64 1,.agg (aB (q1 a)).toArray,.agg (aB (q1 b)).toArray] w (EB 0 (op (m1 a) (m1 b)).1 w)) :
  ∀ cs pre r,gF2 op cs = some (pre,r) → aQ pre → ∀ (args : List Value) (w : World),bH w cs args → Good prog f r args w:=by
 intro cs pre r hg hp args w ha;unfold gF2 at hg;split at hg
 ·rename_i a b;split at hg
  ·rename_i p x q y hx hy;cases hg;obtain ⟨p1,p2⟩:=bG.1 hp;obtain ⟨n,e1,rfl,hn⟩:=SG hx p1;obtain ⟨m,e2,rfl,hm⟩:=SG hy p2
   match args,ha with
   | [t,v,u],ha =>
    have h0 : t = .int .i64 1:=ha.1;have h1 : v = .agg (aB [a]).toArray:=ha.2.1;have h2 : u = .agg (aB [b]).toArray:=ha.2.2.1;rw [e1] at h1;rw [e2] at h2;subst h0; subst h1; subst h2;refine (h n m w hn hm).mono ?_
    rintro e w' ⟨s0,s1,s2,s3,rfl,hs,hv,hb⟩
    obtain ⟨rfl,rfl,rfl,rfl⟩:=fR hs (jS (op (m1 n) (m1 m)).2) hv;exact ⟨rfl,hb⟩
   | [],ha => exact ha.elim
   | [_],ha => exact ha.2.elim
   | [_,_],ha => exact ha.2.2.elim
   | _ :: _ :: _ :: _ :: _,ha => exact ha.2.2.2.elim
  ·cases hg
 ·cases hg
theorem aDx (a b : Nat) (w : World) (ha : wv a < FP.M) (hb : wv b < FP.M) : Calls prog 82 #[.int .i64 1,.agg (aB (q1 a)).toArray,.agg (aB (q1 b)).toArray] w (EB 0 (F1.add (m1 a) (m1 b)).1 w):=by
 have e : (F1.add (m1 a) (m1 b)).1 = (wv a + wv b) % FP.M:=(Nat.add_mod _ _ _).symm;rw [e];exact VE 1 FP gA _ _ _ _ _ _ _ _ (bJ a) (bJ b) ha hb w
theorem aDw (a b : Nat) (w : World) (ha : wv a < FP.M) (hb : wv b < FP.M) : Calls prog 165 #[.int .i64 1,.agg (aB (q1 a)).toArray,.agg (aB (q1 b)).toArray] w (EB 0 (F1.mul (m1 a) (m1 b)).1 w):=by
 have e : (F1.mul (m1 a) (m1 b)).1 = (wv a * wv b) % FP.M:=(Nat.mul_mod _ _ _).symm;rw [e];exact VB 1 FP gA _ _ _ _ _ _ _ _ (bJ a) (bJ b) ha hb w
theorem aDv (a b : Nat) (w : World) (ha : wv a < FP.M) (hb : wv b < FP.M) : Calls prog 166 #[.int .i64 1,.agg (aB (q1 a)).toArray,.agg (aB (q1 b)).toArray] w (EB 0 (F1.sub (m1 a) (m1 b)).1 w):=by
 have e : (F1.sub (m1 a) (m1 b)).1 = (wv a + FP.M - wv b) % FP.M:=by
  show (wv a % FP.M + (0 + FP.M - wv b % FP.M) % FP.M) % FP.M = _;rw [Nat.mod_eq_of_lt ha,Nat.mod_eq_of_lt hb,Nat.add_mod_mod];congr 1;omega
 rw [e];exact UY 1 FP gA _ _ _ _ _ _ _ _ (bJ a) (bJ b) ha hb w
def aAA (d : Bool) : gC
 | [.v (.im (.int .i64 (.ofNat 1))),.v (.fl l)] => match uL l with
  | some x => bif d then some ([wv x < FP.M],.one (.im (.int .i64 0))) else some ([¬ wv x < FP.M],.one (.im (.int .i64 21)))
  | none => none
 | _ => none
theorem Ta (d : Bool) : ∀ cs pre r,aAA d cs = some (pre,r) → aQ pre → ∀ (args : List Value) (w : World),bH w cs args → Good prog 162 r args w:=by
 intro cs pre r hg hp args w ha;unfold aAA at hg;split at hg
 ·rename_i l;split at hg
  ·rename_i x hx
   match args,ha with
   | [v,u],ha =>
    have h1 : v = .int .i64 1:=ha.1;have h2 : u = .agg (aB l).toArray:=ha.2.1;rw [dG l x hx] at h2;subst h1; subst h2;cases d
    ·cases hg;exact wB 1 21 _ _ _ _ (bJ x) (Or.inr ⟨FP,gA,hp.1,rfl⟩) w
    ·cases hg;exact zN 1 FP gA _ _ _ _ (bJ x) hp.1 w
   | [],ha => exact ha.elim
   | [_],ha => exact ha.2.elim
   | _ :: _ :: _ :: _,ha => exact ha.2.2.elim
  ·cases hg
 ·cases hg
def Na (d : Bool) : Tab:=(WE true).add 82 (gF2 F1.add)
theorem Rs (d : Bool) : TabOk prog (Na d):=(Gr true).ad func82 (QA aDx)
def My (d : Bool) : Tab:=(Na d).add 165 (gF2 F1.mul)
theorem Rm (d : Bool) : TabOk prog (My d):=(Rs d).ad func165 (QA aDw)
def Mx (d : Bool) : Tab:=(My d).add 166 (gF2 F1.sub)
theorem Rl (d : Bool) : TabOk prog (Mx d):=(Rm d).ad func166 (QA aDv)
def RP (d : Bool) : Tab:=(Mx d).add 162 (aAA d)
theorem TS (d : Bool) : TabOk prog (RP d):=(Rl d).ad func162 (Ta d)
theorem Ep (d : Bool) (x y : N2) : dJ prog (RP d) qN (fun _ => true) f63 40 [.v (.fl (q2 x)),.v (.fl (q2 y))] = some ([],.one (.fl (e2 (F2.add (m2 x) (m2 y))))):=by kernel_rfl
def RZ (d : Bool) : Tab:=(RP d).add 63 (g2 sJ sJ (fun x y => ([],.one (.fl (e2 (F2.add x y))))))
theorem UD (d : Bool) : TabOk prog (RZ d):=(TS d).ad func63 (hJ dA dA fun x y hp args w ha => aR aF (TS d) bZ func63 (Ep d x y) hp ha)
theorem Ek (d : Bool) (x y : N2) : dJ prog (RZ d) qN (fun _ => true) f105 40 [.v (.fl (q2 x)),.v (.fl (q2 y))] = some ([],.one (.fl (e2 (F2.sub (m2 x) (m2 y))))):=by kernel_rfl
def RT (d : Bool) : Tab:=(RZ d).add 105 (g2 sJ sJ (fun x y => ([],.one (.fl (e2 (F2.sub x y))))))
theorem TZ (d : Bool) : TabOk prog (RT d):=(UD d).ad func105 (hJ dA dA fun x y hp args w ha => aR aF (UD d) bZ func105 (Ek d x y) hp ha)
theorem ZK (d : Bool) (x : N2) : dJ prog (RT d) qN (fun _ => true) f90 40 [.v (.fl (q2 x))] = some ([],.one (.fl (e2 (cP (m2 x))))):=by kernel_rfl
def DX (d : Bool) : Tab:=(RT d).add 90 (g1 sJ (fun x => ([],.one (.fl (e2 (cP x))))))
theorem JM (d : Bool) : TabOk prog (DX d):=(TZ d).ad func90 (nT dA fun x hp args w ha => aR aF (TZ d) bZ func90 (ZK d x) hp ha)
theorem XQ (d : Bool) (x y : Nat) : dJ prog (DX d) qN (fun _ => true) f232 40 [.v (.fl (q1 x)),.v (.fl (q1 y))] = some ([wv x < FP.M,wv y < FP.M],.one (.fl (e1 (F1.add (m1 x) (m1 y))))):=by kernel_rfl
def DK (d : Bool) : Tab:=(DX d).add 232 (g2p fun x y => .one (.fl (e1 (F1.add x y))))
theorem JF (d : Bool) : TabOk prog (DK d):=(JM d).ad func232 (QC fun x y hx hy args w ha => aR aF (JM d) bZ func232 (XQ d x y) ⟨hx,hy,trivial⟩ ha)
theorem NA (d : Bool) (x y : Nat) : dJ prog (DK d) qN (fun _ => true) f230 40 [.v (.fl (q1 x)),.v (.fl (q1 y))] = some ([wv x < FP.M,wv y < FP.M],.one (.fl (e1 (F1.sub (m1 x) (m1 y))))):=by kernel_rfl
def wW (d : Bool) : Tab:=(DK d).add 230 (g2p fun x y => .one (.fl (e1 (F1.sub x y))))
theorem yV (d : Bool) : TabOk prog (wW d):=(JF d).ad func230 (QC fun x y hx hy args w ha => aR aF (JF d) bZ func230 (NA d x y) ⟨hx,hy,trivial⟩ ha)
theorem MZ (d : Bool) (x y : Nat) : dJ prog (wW d) qN (fun _ => true) f233 40 [.v (.fl (q1 x)),.v (.fl (q1 y))] = some ([wv x < FP.M,wv y < FP.M],.one (.fl (e1 (F1.mul (m1 x) (m1 y))))):=by kernel_rfl
def wV (d : Bool) : Tab:=(wW d).add 233 (g2p fun x y => .one (.fl (e1 (F1.mul x y))))
theorem yU (d : Bool) : TabOk prog (wV d):=(yV d).ad func233 (QC fun x y hx hy args w ha => aR aF (yV d) bZ func233 (MZ d x y) ⟨hx,hy,trivial⟩ ha)
theorem Dq (d : Bool) (x : Nat) : dJ prog (wV d) qN (fun _ => true) f231 40 [.v (.fl (q1 x))] = some ([],.one (.fl (e1 F1.one))):=by kernel_rfl
def RF (d : Bool) : Tab:=(wV d).add 231 (g1 SR (fun x => ([],.one (.fl (e1 F1.one)))))
theorem TG (d : Bool) : TabOk prog (RF d):=(yU d).ad func231 (nT gV fun x hp args w ha => aR aF (yU d) bZ func231 (Dq d x) hp ha)
theorem Ds (d : Bool) (x : Nat) : dJ prog (RF d) qN (fun _ => true) f228 40 [.v (.fl (q1 x))] = some ([],.one (.fl (e1 (fm 3)))):=by kernel_rfl
def RH (d : Bool) : Tab:=(RF d).add 228 (g1 SR (fun x => ([],.one (.fl (e1 (fm 3))))))
theorem TJ (d : Bool) : TabOk prog (RH d):=(TG d).ad func228 (nT gV fun x hp args w ha => aR aF (TG d) bZ func228 (Ds d x) hp ha)
theorem Dr (d : Bool) (x : Fq) : dJ prog (RH d) qN (fun _ => true) f229 40 [.v (.fl (e1 x))] = some ([x ≠ F1.zero],.one (.fl (e1 (iO x)))):=by kernel_rfl
def DL (d : Bool) : Tab:=(RH d).add 229 (g1 OV (fun x => ([x ≠ F1.zero],.one (.fl (e1 (iO x))))))
theorem BQ (d : Bool) : TabOk prog (DL d):=(TJ d).ad func229 (cG fX fun x hp args w ha => aR aF (TJ d) bZ func229 (Dr d x) hp ha)
theorem NB (x : Nat) : dJ prog (DL true) qN (fun _ => true) f225 40 [.v (.fl (q1 x))] = some ([wv x < FP.M],.one (.im (.bool true))):=by kernel_rfl
theorem NC (x : Nat) : dJ prog (DL false) qN (fun _ => true) f225 40 [.v (.fl (q1 x))] = some ([¬ wv x < FP.M],.one (.im (.bool false))):=by kernel_rfl
def Zp (d : Bool) (x : Nat) : List Prop × RV:=bif d then ([wv x < FP.M],.one (.im (.bool true))) else ([¬ wv x < FP.M],.one (.im (.bool false)))
theorem Rw (d : Bool) (x : Nat) (hp : aQ (Zp d x).1) (args : List Value) (w : World) (ha : bH w [.v (.fl (q1 x))] args) : Good prog 225 (Zp d x).2 args w:=by
 cases d
 ·exact aR aF (BQ false) bZ func225 (NC x) hp ha
 ·exact aR aF (BQ true) bZ func225 (NB x) hp ha
def RG (d : Bool) : Tab:=(DL d).add 225 (g1 uL (Zp d))
theorem TH (d : Bool) : TabOk prog (RG d):=(BQ d).ad func225 (cG dG fun x hp args w ha => Rw d x hp args w ha)
theorem YE (d : Bool) (x y : N2) : dJ prog (RG d) qN (fun _ => true) f222 40 [.v (.fl (q2 x)),.v (.fl (q2 y))] = some ([],.one (.fl (e2 (F2.add (m2 x) (m2 y))))):=by kernel_rfl
def DR (d : Bool) : Tab:=(RG d).add 222 (g2 sJ sJ (fun x y => ([],.one (.fl (e2 (F2.add x y))))))
theorem JK (d : Bool) : TabOk prog (DR d):=(TH d).ad func222 (hJ dA dA fun x y hp args w ha => aR aF (TH d) bZ func222 (YE d x y) hp ha)
theorem NV (d : Bool) (x y : N2) : dJ prog (DR d) qN (fun _ => true) f220 40 [.v (.fl (q2 x)),.v (.fl (q2 y))] = some ([],.one (.fl (e2 (F2.sub (m2 x) (m2 y))))):=by kernel_rfl
def xA (d : Bool) : Tab:=(DR d).add 220 (g2 sJ sJ (fun x y => ([],.one (.fl (e2 (F2.sub x y))))))
theorem yZ (d : Bool) : TabOk prog (xA d):=(JK d).ad func220 (hJ dA dA fun x y hp args w ha => aR aF (JK d) bZ func220 (NV d x y) hp ha)
theorem NU (d : Bool) (x y : N2) : dJ prog (xA d) qN (fun _ => true) f223 40 [.v (.fl (q2 x)),.v (.fl (q2 y))] = some ([],.one (.fl (e2 (F2.mul (m2 x) (m2 y))))):=by kernel_rfl
def wZ (d : Bool) : Tab:=(xA d).add 223 (g2 sJ sJ (fun x y => ([],.one (.fl (e2 (F2.mul x y))))))
theorem yY (d : Bool) : TabOk prog (wZ d):=(yZ d).ad func223 (hJ dA dA fun x y hp args w ha => aR aF (yZ d) bZ func223 (NU d x y) hp ha)
theorem Dz (d : Bool) (x : N2) : dJ prog (wZ d) qN (fun _ => true) f221 40 [.v (.fl (q2 x))] = some ([],.one (.fl (e2 F2.one))):=by kernel_rfl
def RL (d : Bool) : Tab:=(wZ d).add 221 (g1 sJ (fun x => ([],.one (.fl (e2 F2.one)))))
theorem TO (d : Bool) : TabOk prog (RL d):=(yY d).ad func221 (nT dA fun x hp args w ha => aR aF (yY d) bZ func221 (Dz d x) hp ha)
def oD : Q2:=(⟨19485874751759354771024239261021720505790618469301721065564631296452457478373,by decide⟩,⟨266929791119991161246907387137283842545076965332900288569378510910307636690,by decide⟩)
theorem Eb (d : Bool) (x : N2) : dJ prog (RL d) qN (fun _ => true) f217 40 [.v (.fl (q2 x))] = some ([],.one (.fl (e2 oD))):=by kernel_rfl
def RM (d : Bool) : Tab:=(RL d).add 217 (g1 sJ (fun x => ([],.one (.fl (e2 oD)))))
theorem TP (d : Bool) : TabOk prog (RM d):=(TO d).ad func217 (nT dA fun x hp args w ha => aR aF (TO d) bZ func217 (Eb d x) hp ha)
theorem Ea (d : Bool) (x : N2) : dJ prog (RM d) qN (fun _ => true) f218 40 [.v (.fl (q2 x))] = some ([pS (m2 x) ≠ F1.zero],.one (.fl (e2 (iW (m2 x))))):=by kernel_rfl
def xB (d : Bool) : Tab:=(RM d).add 218 (g1 sJ (fun x => ([pS x ≠ F1.zero],.one (.fl (e2 (iW x))))))
theorem tD (d : Bool) : TabOk prog (xB d):=(TP d).ad func218 (nT dA fun x hp args w ha => aR aF (TP d) bZ func218 (Ea d x) hp ha)
theorem NW (x : N2) : dJ prog (xB true) qN (fun _ => true) f219 40 [.v (.fl (q2 x))] = some ([wv x.1 < FP.M,wv x.2 < FP.M],.one (.im (.bool true))):=by kernel_rfl
theorem NY (x : N2) : dJ prog (xB false) qN (fun _ => true) f219 40 [.v (.fl (q2 x))] = some ([¬ wv x.1 < FP.M],.one (.im (.bool false))):=by kernel_rfl
theorem NX (x : N2) : aT prog qN (fun _ => ⟨fun s => xB (bif Nat.beq s 9 then false else true),fun _ => true,fun _ => none⟩) f219 40 [.v (.fl (q2 x))] = some ([wv x.1 < FP.M,¬ wv x.2 < FP.M],.one (.im (.bool false))):=by kernel_rfl
def Hl (d : Bool) (x : N2) : List Prop × RV:=bif d then ([wv x.1 < FP.M ∧ wv x.2 < FP.M],.one (.im (.bool true))) else ([¬ (wv x.1 < FP.M ∧ wv x.2 < FP.M)],.one (.im (.bool false)))
theorem Hi (d : Bool) (x : N2) (hp : aQ (Hl d x).1) (args : List Value) (w : World) (ha : bH w [.v (.fl (q2 x))] args) : Good prog 219 (Hl d x).2 args w:=by
 cases d
 ·have h1 : ¬ (wv x.1 < FP.M ∧ wv x.2 < FP.M):=hp.1
  by_cases h : wv x.1 < FP.M
  ·exact aC aF (fun _ s => tD _) bZ func219 (NX x) ⟨h,fun e => h1 ⟨h,e⟩,trivial⟩ ha
  ·exact aR aF (tD false) bZ func219 (NY x) ⟨h,trivial⟩ ha
 ·have h1 : wv x.1 < FP.M ∧ wv x.2 < FP.M:=hp.1;exact aR aF (tD true) bZ func219 (NW x) ⟨h1.1,h1.2,trivial⟩ ha
def DS (d : Bool) : Tab:=(xB d).add 219 (g1 OQ (Hl d))
theorem BR (d : Bool) : TabOk prog (DS d):=(tD d).ad func219 (cG fV fun x hp args w ha => Hi d x hp args w ha)
theorem fd2 : FD F2 iW:=⟨aDt.1,fun x h => SC fun e => h (oV e)⟩
theorem Zr {x : Q2} (h : x ≠ F2.zero) : pS x ≠ F1.zero:=fun e => h (oV e)
abbrev J1:=Jc Fq
abbrev J2:=Jc Q2
def iQ (p : J1) : List At:=[.f p.1,.f p.2.1,.f p.2.2]
def bD (p : J2) : List At:=[.f p.1.1,.f p.1.2,.f p.2.1.1,.f p.2.1.2,.f p.2.2.1,.f p.2.2.2]
def Px : List At → Option J1 | [.f a,.f b,.f c] => some (a,b,c) | _ => none
def IC : List At → Option J2 | [.f a,.f b,.f c,.f d,.f e,.f f] => some ((a,b),(c,d),(e,f)) | _ => none
theorem nL : Rd Px iQ:=fun l x h => by unfold Px at h; split at h <;> cases h; rfl
theorem fE : Rd IC bD:=fun l x h => by unfold IC at h; split at h <;> cases h; rfl
theorem mO {a b : Fq} (h : a ≠ b) : aB (e1 a) ≠ aB (e1 b):=fun e => h (aAS e)
theorem cC {a b : Q2} (h : a ≠ b) : aB (e2 a) ≠ aB (e2 b):=fun e => h (aAR e)
theorem FD.inv_one {R : Type} {K : CR R} {inv : R → R} (F : FD K inv) : inv K.one = K.one:=by
 have:=F.inv K.one F.ne
 rwa [K.one_mul] at this
theorem OE (p : J1) : aT prog (qG prog) (fun _ => ⟨fun s => DS true,fun s => true,fun _ => none⟩) f236 60 [.v (.fl (iQ p))] = some ([aB (e1 p.2.2) = aB (e1 F1.zero)],.one (.im (.bool true))):=by kernel_rfl
theorem OF (p : J1) : aT prog (qG prog) (fun _ => ⟨fun s => DS false,fun s => false,fun _ => none⟩) f236 60 [.v (.fl (iQ p))] = some ([aB (e1 p.2.2) ≠ aB (e1 F1.zero)],.one (.im (.bool false))):=by kernel_rfl
def Ht (d : Bool) (p : J1) : List Prop × RV:=bif d then ([p.2.2 = F1.zero],.one (.im (.bool true))) else ([p.2.2 ≠ F1.zero],.one (.im (.bool false)))
theorem Hs (d : Bool) (p : J1) (hp : aQ (Ht d p).1) (args : List Value) (w : World) (ha : bH w [.v (.fl (iQ p))] args) : Good prog 236 (Ht d p).2 args w:=by
 cases d
 ·have h : p.2.2 ≠ F1.zero:=hp.1;exact aC aF (fun _ s => BR _) (aG prog) func236 (OF p) ⟨mO h,trivial⟩ ha
 ·have h : p.2.2 = F1.zero:=hp.1;exact aC aF (fun _ s => BR _) (aG prog) func236 (OE p) ⟨by rw [h],trivial⟩ ha
def DV (d : Bool) : Tab:=(DS d).add 236 (g1 Px (Ht d))
theorem BU (d : Bool) : TabOk prog (DV d):=(BR d).ad func236 (cG nL fun p hp args w ha => Hs d p hp args w ha)
theorem MX (d : Bool) (p : J1) (b : Fq) : aT prog (qG prog) (fun _ => ⟨fun s => DV d,fun s => true,fun _ => none⟩) f239 60 [.v (.fl (iQ p)),.v (.fl (e1 b))] = some ([aB (e1 p.2.2) = aB (e1 F1.one)],.one (.fl (e1 b))):=by kernel_rfl
theorem MY (d : Bool) (p : J1) (b : Fq) : aT prog (qG prog) (fun _ => ⟨fun s => DV d,fun s => false,fun _ => none⟩) f239 60 [.v (.fl (iQ p)),.v (.fl (e1 b))] = some ([aB (e1 p.2.2) ≠ aB (e1 F1.one)],.one (.fl (e1 (F1.mul b p.2.2)))):=by kernel_rfl
theorem Oh (d : Bool) (p : J1) (b : Fq) (args : List Value) (w : World) (ha : bH w [.v (.fl (iQ p)),.v (.fl (e1 b))] args) : Good prog 239 (.one (.fl (e1 (F1.mul b p.2.2)))) args w:=by
 by_cases h : p.2.2 = F1.one
 ·rw [h,F1.mul_one];exact aC aF (fun _ s => BU _) (aG prog) func239 (MX d p b) ⟨by rw [h],trivial⟩ ha
 ·exact aC aF (fun _ s => BU _) (aG prog) func239 (MY d p b) ⟨mO h,trivial⟩ ha
def DJ (d : Bool) : Tab:=(DV d).add 239 (g2 Px OV fun p b => ([],.one (.fl (e1 (F1.mul b p.2.2)))))
theorem BP (d : Bool) : TabOk prog (DJ d):=(BU d).ad func239 (gO nL fX fun p b hp args w ha => Oh d p b args w ha)
theorem OL (d : Bool) (p q : J1) : aT prog (qG prog) (fun _ => ⟨fun s => DJ d,fun s => true,fun _ => none⟩) f234 60 [.v (.fl (iQ p)),.v (.fl (iQ q))] = some ([aB (e1 q.2.2) = aB (e1 F1.one)],.many [.fl (e1 (p.1)),.fl (e1 (p.2.1))]):=by kernel_rfl
theorem OM (d : Bool) (p q : J1) : aT prog (qG prog) (fun _ => ⟨fun s => DJ d,fun s => false,fun _ => none⟩) f234 60 [.v (.fl (iQ p)),.v (.fl (iQ q))] = some ([aB (e1 q.2.2) ≠ aB (e1 F1.one)],.many [.fl (e1 (xH F1 p q)),.fl (e1 (sR F1 p q))]):=by kernel_rfl
theorem Ua (d : Bool) (p q : J1) (args : List Value) (w : World) (ha : bH w [.v (.fl (iQ p)),.v (.fl (iQ q))] args) : Good prog 234 (.many [.fl (e1 (xH F1 p q)),.fl (e1 (sR F1 p q))]) args w:=by
 by_cases h : q.2.2 = F1.one
 ·have hx : xH F1 p q = p.1:=by unfold xH; rw [h,F1.mul_one,F1.mul_one]
  have hy : sR F1 p q = p.2.1:=by unfold sR; rw [h,F1.mul_one,F1.mul_one,F1.mul_one]
  rw [hx,hy];exact aC aF (fun _ s => BP _) (aG prog) func234 (OL d p q) ⟨by rw [h],trivial⟩ ha
 ·exact aC aF (fun _ s => BP _) (aG prog) func234 (OM d p q) ⟨mO h,trivial⟩ ha
def RS (d : Bool) : Tab:=(DJ d).add 234 (g2 Px Px fun p q => ([],.many [.fl (e1 (xH F1 p q)),.fl (e1 (sR F1 p q))]))
theorem TY (d : Bool) : TabOk prog (RS d):=(BP d).ad func234 (gO nL nL fun p q hp args w ha => Ua d p q args w ha)
theorem Eg (d : Bool) (p : J1) : aT prog (qG prog) (fun _ => ⟨fun s => RS d,fun s => true,fun _ => none⟩) f235 60 [.v (.fl (iQ p))] = some ([],.one (.fl (iQ (dI F1 p)))):=by kernel_rfl
def oB (d : Bool) : Tab:=(RS d).add 235 (g1 Px fun p => ([],.one (.fl (iQ (dI F1 p)))))
theorem mL (d : Bool) : TabOk prog (oB d):=(TY d).ad func235 (cG nL fun p hp args w ha => aC aF (fun _ s => TY _) (aG prog) func235 (Eg d p) trivial ha)
theorem GM (p q : J1) : aT prog (qG prog) (fun _ => ⟨fun s => oB (bif Nat.beq s 18 then true else false),fun s => true,fun _ => none⟩) f238 80 [.v (.fl (iQ p)),.v (.fl (iQ q))] = some ([p.2.2 = F1.zero],.one (.fl (iQ q))):=by kernel_rfl
theorem GL (p q : J1) : aT prog (qG prog) (fun _ => ⟨fun s => oB (bif Nat.beq s 18 then false else true),fun s => true,fun _ => none⟩) f238 80 [.v (.fl (iQ p)),.v (.fl (iQ q))] = some ([p.2.2 ≠ F1.zero,q.2.2 = F1.zero],.one (.fl (iQ p))):=by kernel_rfl
theorem GK (p q : J1) : aT prog (qG prog) (fun _ => ⟨fun s => oB (bif Nat.beq s 18 then false else false),fun s => true,fun _ => none⟩) f238 80 [.v (.fl (iQ p)),.v (.fl (iQ q))] = some ([p.2.2 ≠ F1.zero,q.2.2 ≠ F1.zero,aB (e1 (oC F1 p q)) = aB (e1 F1.zero),aB (e1 (CD F1 p q)) = aB (e1 F1.zero)],.one (.fl (iQ (dI F1 p)))):=by kernel_rfl
theorem GJ (p q : J1) : aT prog (qG prog) (fun _ => ⟨fun s => oB (bif Nat.beq s 18 then false else false),fun s => false,fun _ => none⟩) f238 80 [.v (.fl (iQ p)),.v (.fl (iQ q))] = some ([p.2.2 ≠ F1.zero,q.2.2 ≠ F1.zero,aB (e1 (oC F1 p q)) ≠ aB (e1 F1.zero)],.one (.fl (iQ (yB F1 p q)))):=by kernel_rfl
theorem GI (p q : J1) : aT prog (qG prog) (fun _ => ⟨fun s => oB (bif Nat.beq s 18 then false else false),fun s => !(Nat.beq s 49),fun _ => none⟩) f238 80 [.v (.fl (iQ p)),.v (.fl (iQ q))] = some ([p.2.2 ≠ F1.zero,q.2.2 ≠ F1.zero,aB (e1 (oC F1 p q)) = aB (e1 F1.zero),aB (e1 (CD F1 p q)) ≠ aB (e1 F1.zero)],.one (.fl (iQ (yB F1 p q)))):=by kernel_rfl
theorem Fy (d : Bool) (p q : J1) (args : List Value) (w : World) (ha : bH w [.v (.fl (iQ p)),.v (.fl (iQ q))] args) : Good prog 238 (.one (.fl (iQ (fP F1 p q)))) args w:=by
 unfold fP
 by_cases h1 : p.2.2 = F1.zero
 ·rw [if_pos h1];exact aC aF (fun _ s => mL _) (aG prog) func238 (GM p q) ⟨h1,trivial⟩ ha
 ·rw [if_neg h1]
  by_cases h2 : q.2.2 = F1.zero
  ·rw [if_pos h2];exact aC aF (fun _ s => mL _) (aG prog) func238 (GL p q) ⟨h1,h2,trivial⟩ ha
  ·rw [if_neg h2]
   by_cases h3 : oC F1 p q = F1.zero
   ·by_cases h4 : CD F1 p q = F1.zero
    ·rw [if_pos ⟨h3,h4⟩];exact aC aF (fun _ s => mL _) (aG prog) func238 (GK p q) ⟨h1,h2,by rw [h3],by rw [h4],trivial⟩ ha
    ·rw [if_neg (fun h => h4 h.2)];exact aC aF (fun _ s => mL _) (aG prog) func238 (GI p q) ⟨h1,h2,by rw [h3],mO h4,trivial⟩ ha
   ·rw [if_neg (fun h => h3 h.1)];exact aC aF (fun _ s => mL _) (aG prog) func238 (GJ p q) ⟨h1,h2,mO h3,trivial⟩ ha
def tQ (d : Bool) : Tab:=(oB d).add 238 (g2 Px Px fun p q => ([],.one (.fl (iQ (fP F1 p q)))))
theorem vG (d : Bool) : TabOk prog (tQ d):=(mL d).ad func238 (gO nL nL fun p q hp args w ha => Fy d p q args w ha)
theorem OC (p : J2) : aT prog (qG prog) (fun _ => ⟨fun s => tQ true,fun s => true,fun _ => none⟩) f172 60 [.v (.fl (bD p))] = some ([aB (e2 p.2.2) = aB (e2 F2.zero)],.one (.im (.bool true))):=by kernel_rfl
theorem OD (p : J2) : aT prog (qG prog) (fun _ => ⟨fun s => tQ false,fun s => false,fun _ => none⟩) f172 60 [.v (.fl (bD p))] = some ([aB (e2 p.2.2) ≠ aB (e2 F2.zero)],.one (.im (.bool false))):=by kernel_rfl
def Hr (d : Bool) (p : J2) : List Prop × RV:=bif d then ([p.2.2 = F2.zero],.one (.im (.bool true))) else ([p.2.2 ≠ F2.zero],.one (.im (.bool false)))
theorem Hq (d : Bool) (p : J2) (hp : aQ (Hr d p).1) (args : List Value) (w : World) (ha : bH w [.v (.fl (bD p))] args) : Good prog 172 (Hr d p).2 args w:=by
 cases d
 ·have h : p.2.2 ≠ F2.zero:=hp.1;exact aC aF (fun _ s => vG _) (aG prog) func172 (OD p) ⟨cC h,trivial⟩ ha
 ·have h : p.2.2 = F2.zero:=hp.1;exact aC aF (fun _ s => vG _) (aG prog) func172 (OC p) ⟨by rw [h],trivial⟩ ha
def DU (d : Bool) : Tab:=(tQ d).add 172 (g1 IC (Hr d))
theorem BT (d : Bool) : TabOk prog (DU d):=(vG d).ad func172 (cG fE fun p hp args w ha => Hq d p hp args w ha)
theorem MU (d : Bool) (p : J2) (b : Q2) : aT prog (qG prog) (fun _ => ⟨fun s => DU d,fun s => true,fun _ => none⟩) f190 60 [.v (.fl (bD p)),.v (.fl (e2 b))] = some ([aB (e2 p.2.2) = aB (e2 F2.one)],.one (.fl (e2 b))):=by kernel_rfl
theorem MV (d : Bool) (p : J2) (b : Q2) : aT prog (qG prog) (fun _ => ⟨fun s => DU d,fun s => false,fun _ => none⟩) f190 60 [.v (.fl (bD p)),.v (.fl (e2 b))] = some ([aB (e2 p.2.2) ≠ aB (e2 F2.one)],.one (.fl (e2 (F2.mul b p.2.2)))):=by kernel_rfl
theorem Og (d : Bool) (p : J2) (b : Q2) (args : List Value) (w : World) (ha : bH w [.v (.fl (bD p)),.v (.fl (e2 b))] args) : Good prog 190 (.one (.fl (e2 (F2.mul b p.2.2)))) args w:=by
 by_cases h : p.2.2 = F2.one
 ·rw [h,F2.mul_one];exact aC aF (fun _ s => BT _) (aG prog) func190 (MU d p b) ⟨by rw [h],trivial⟩ ha
 ·exact aC aF (fun _ s => BT _) (aG prog) func190 (MV d p b) ⟨cC h,trivial⟩ ha
def DI (d : Bool) : Tab:=(DU d).add 190 (g2 IC ZR fun p b => ([],.one (.fl (e2 (F2.mul b p.2.2)))))
theorem BO (d : Bool) : TabOk prog (DI d):=(BT d).ad func190 (gO fE iM fun p b hp args w ha => Og d p b args w ha)
theorem OJ (d : Bool) (p q : J2) : aT prog (qG prog) (fun _ => ⟨fun s => DI d,fun s => true,fun _ => none⟩) f189 60 [.v (.fl (bD p)),.v (.fl (bD q))] = some ([aB (e2 q.2.2) = aB (e2 F2.one)],.many [.fl (e2 (p.1)),.fl (e2 (p.2.1))]):=by kernel_rfl
theorem OK (d : Bool) (p q : J2) : aT prog (qG prog) (fun _ => ⟨fun s => DI d,fun s => false,fun _ => none⟩) f189 60 [.v (.fl (bD p)),.v (.fl (bD q))] = some ([aB (e2 q.2.2) ≠ aB (e2 F2.one)],.many [.fl (e2 (xH F2 p q)),.fl (e2 (sR F2 p q))]):=by kernel_rfl
theorem Tz (d : Bool) (p q : J2) (args : List Value) (w : World) (ha : bH w [.v (.fl (bD p)),.v (.fl (bD q))] args) : Good prog 189 (.many [.fl (e2 (xH F2 p q)),.fl (e2 (sR F2 p q))]) args w:=by
 by_cases h : q.2.2 = F2.one
 ·have hx : xH F2 p q = p.1:=by unfold xH; rw [h,F2.mul_one,F2.mul_one]
  have hy : sR F2 p q = p.2.1:=by unfold sR; rw [h,F2.mul_one,F2.mul_one,F2.mul_one]
  rw [hx,hy];exact aC aF (fun _ s => BO _) (aG prog) func189 (OJ d p q) ⟨by rw [h],trivial⟩ ha
 ·exact aC aF (fun _ s => BO _) (aG prog) func189 (OK d p q) ⟨cC h,trivial⟩ ha
def RR (d : Bool) : Tab:=(DI d).add 189 (g2 IC IC fun p q => ([],.many [.fl (e2 (xH F2 p q)),.fl (e2 (sR F2 p q))]))
theorem TX (d : Bool) : TabOk prog (RR d):=(BO d).ad func189 (gO fE fE fun p q hp args w ha => Tz d p q args w ha)
theorem Ef (d : Bool) (p : J2) : aT prog (qG prog) (fun _ => ⟨fun s => RR d,fun s => true,fun _ => none⟩) f188 60 [.v (.fl (bD p))] = some ([],.one (.fl (bD (dI F2 p)))):=by kernel_rfl
def RQ (d : Bool) : Tab:=(RR d).add 188 (g1 IC fun p => ([],.one (.fl (bD (dI F2 p)))))
theorem TT (d : Bool) : TabOk prog (RQ d):=(TX d).ad func188 (cG fE fun p hp args w ha => aC aF (fun _ s => TX _) (aG prog) func188 (Ef d p) trivial ha)
theorem Ed (d : Bool) (p : J2) : aT prog (qG prog) (fun _ => ⟨fun s => RQ d,fun s => true,fun _ => none⟩) f181 60 [.v (.fl (bD p))] = some ([],.one (.fl (bD (CG F2 p)))):=by kernel_rfl
def xC (d : Bool) : Tab:=(RQ d).add 181 (g1 IC fun p => ([],.one (.fl (bD (CG F2 p)))))
theorem tE (d : Bool) : TabOk prog (xC d):=(TT d).ad func181 (cG fE fun p hp args w ha => aC aF (fun _ s => TT _) (aG prog) func181 (Ed d p) trivial ha)
theorem FH (p : J2) : aT prog (qG prog) (fun _ => ⟨fun s => xC true,fun s => true,fun _ => none⟩) f159 60 [.v (.fl (bD p))] = some ([p.2.2 = F2.zero],.many [.fl (e2 F2.zero),.fl (e2 F2.zero),.im (.bool true)]):=by kernel_rfl
theorem FG (p : J2) : aT prog (qG prog) (fun _ => ⟨fun s => xC false,fun s => true,fun _ => none⟩) f159 60 [.v (.fl (bD p))] = some ([p.2.2 ≠ F2.zero,aB (e2 p.2.2) = aB (e2 F2.one)],.many [.fl (e2 p.1),.fl (e2 p.2.1),.im (.bool false)]):=by kernel_rfl
theorem FI (p : J2) : aT prog (qG prog) (fun _ => ⟨fun s => xC false,fun s => false,fun _ => none⟩) f159 60 [.v (.fl (bD p))] = some ([p.2.2 ≠ F2.zero,aB (e2 p.2.2) ≠ aB (e2 F2.one),pS p.2.2 ≠ F1.zero],.many [.fl (e2 (F2.mul p.1 (F2.mul (iW p.2.2) (iW p.2.2)))),.fl (e2 (F2.mul p.2.1 (F2.mul (F2.mul (iW p.2.2) (iW p.2.2)) (iW p.2.2)))),.im (.bool false)]):=by kernel_rfl
def PP (d : Bool) (p : J2) : List Prop × RV:=bif d then ([p.2.2 = F2.zero],.many [.fl (e2 F2.zero),.fl (e2 F2.zero),.im (.bool true)]) else ([p.2.2 ≠ F2.zero],.many [.fl (e2 (F2.mul p.1 (F2.mul (iW p.2.2) (iW p.2.2)))),.fl (e2 (F2.mul p.2.1 (F2.mul (F2.mul (iW p.2.2) (iW p.2.2)) (iW p.2.2)))),.im (.bool false)])
theorem Af (d : Bool) (p : J2) (hp : aQ (PP d p).1) (args : List Value) (w : World) (ha : bH w [.v (.fl (bD p))] args) : Good prog 159 (PP d p).2 args w:=by
 cases d
 ·have h : p.2.2 ≠ F2.zero:=hp.1;show Good _ _ (.many [.fl (e2 (F2.mul p.1 (F2.mul (iW p.2.2) (iW p.2.2)))),.fl (e2 (F2.mul p.2.1 (F2.mul (F2.mul (iW p.2.2) (iW p.2.2)) (iW p.2.2)))),.im (.bool false)]) _ _
  by_cases h1 : p.2.2 = F2.one
  ·have hi : iW p.2.2 = F2.one:=by rw [h1]; exact fd2.inv_one
   rw [hi,F2.mul_one,F2.mul_one,F2.mul_one,F2.mul_one];exact aC aF (fun _ s => tE _) (aG prog) func159 (FG p) ⟨h,by rw [h1],trivial⟩ ha
  ·exact aC aF (fun _ s => tE _) (aG prog) func159 (FI p) ⟨h,cC h1,Zr h,trivial⟩ ha
 ·exact aC aF (fun _ s => tE _) (aG prog) func159 (FH p) hp ha
def kQ (d : Bool) : Tab:=(xC d).add 159 (g1 IC (PP d))
theorem jO (d : Bool) : TabOk prog (kQ d):=(tE d).ad func159 (cG fE fun p hp args w ha => Af d p hp args w ha)
theorem GH (p q : J2) : aT prog (qG prog) (fun _ => ⟨fun s => kQ (bif Nat.beq s 18 then true else false),fun s => true,fun _ => none⟩) f176 80 [.v (.fl (bD p)),.v (.fl (bD q))] = some ([p.2.2 = F2.zero],.one (.fl (bD q))):=by kernel_rfl
theorem GG (p q : J2) : aT prog (qG prog) (fun _ => ⟨fun s => kQ (bif Nat.beq s 18 then false else true),fun s => true,fun _ => none⟩) f176 80 [.v (.fl (bD p)),.v (.fl (bD q))] = some ([p.2.2 ≠ F2.zero,q.2.2 = F2.zero],.one (.fl (bD p))):=by kernel_rfl
theorem GF (p q : J2) : aT prog (qG prog) (fun _ => ⟨fun s => kQ (bif Nat.beq s 18 then false else false),fun s => true,fun _ => none⟩) f176 80 [.v (.fl (bD p)),.v (.fl (bD q))] = some ([p.2.2 ≠ F2.zero,q.2.2 ≠ F2.zero,aB (e2 (oC F2 p q)) = aB (e2 F2.zero),aB (e2 (CD F2 p q)) = aB (e2 F2.zero)],.one (.fl (bD (dI F2 p)))):=by kernel_rfl
theorem GE (p q : J2) : aT prog (qG prog) (fun _ => ⟨fun s => kQ (bif Nat.beq s 18 then false else false),fun s => false,fun _ => none⟩) f176 80 [.v (.fl (bD p)),.v (.fl (bD q))] = some ([p.2.2 ≠ F2.zero,q.2.2 ≠ F2.zero,aB (e2 (oC F2 p q)) ≠ aB (e2 F2.zero)],.one (.fl (bD (yB F2 p q)))):=by kernel_rfl
theorem GD (p q : J2) : aT prog (qG prog) (fun _ => ⟨fun s => kQ (bif Nat.beq s 18 then false else false),fun s => !(Nat.beq s 49),fun _ => none⟩) f176 80 [.v (.fl (bD p)),.v (.fl (bD q))] = some ([p.2.2 ≠ F2.zero,q.2.2 ≠ F2.zero,aB (e2 (oC F2 p q)) = aB (e2 F2.zero),aB (e2 (CD F2 p q)) ≠ aB (e2 F2.zero)],.one (.fl (bD (yB F2 p q)))):=by kernel_rfl
theorem Fx (d : Bool) (p q : J2) (args : List Value) (w : World) (ha : bH w [.v (.fl (bD p)),.v (.fl (bD q))] args) : Good prog 176 (.one (.fl (bD (fP F2 p q)))) args w:=by
 unfold fP
 by_cases h1 : p.2.2 = F2.zero
 ·rw [if_pos h1];exact aC aF (fun _ s => jO _) (aG prog) func176 (GH p q) ⟨h1,trivial⟩ ha
 ·rw [if_neg h1]
  by_cases h2 : q.2.2 = F2.zero
  ·rw [if_pos h2];exact aC aF (fun _ s => jO _) (aG prog) func176 (GG p q) ⟨h1,h2,trivial⟩ ha
  ·rw [if_neg h2]
   by_cases h3 : oC F2 p q = F2.zero
   ·by_cases h4 : CD F2 p q = F2.zero
    ·rw [if_pos ⟨h3,h4⟩];exact aC aF (fun _ s => jO _) (aG prog) func176 (GF p q) ⟨h1,h2,by rw [h3],by rw [h4],trivial⟩ ha
    ·rw [if_neg (fun h => h4 h.2)];exact aC aF (fun _ s => jO _) (aG prog) func176 (GD p q) ⟨h1,h2,by rw [h3],cC h4,trivial⟩ ha
   ·rw [if_neg (fun h => h3 h.1)];exact aC aF (fun _ s => jO _) (aG prog) func176 (GE p q) ⟨h1,h2,cC h3,trivial⟩ ha
def iD (d : Bool) : Tab:=(kQ d).add 176 (g2 IC IC fun p q => ([],.one (.fl (bD (fP F2 p q)))))
theorem gM (d : Bool) : TabOk prog (iD d):=(jO d).ad func176 (gO fE fE fun p q hp args w ha => Fx d p q args w ha)
theorem SF (x : Nat) : w4 x = w4 (wv x):=by
 obtain ⟨e0,e1,e2,e3⟩:=fR (bJ x) (show wv x < 115792089237316195423570985008687907853269984665640564039457584007913129639936 by
  have h:=bJ x;obtain ⟨h0,h1,h2,h3⟩:=h;unfold wv aA; omega) rfl
 unfold w4;rw [e0,e1,e2,e3]
theorem q_f {x : Nat} (h : wv x < FP.M) : aB [.q x] = aB [.f (m1 x)]:=by
 show w4 x ++ [] = w4 (m1 x).1 ++ [];rw [SF x];show w4 (wv x) ++ [] = w4 (wv x % FP.M) ++ [];rw [Nat.mod_eq_of_lt h]
theorem zL (a : At) (l : List At) : aB (a :: l) = aB [a] ++ aB l:=by show a.cells ++ aB l = (a.cells ++ []) ++ aB l; rw [List.append_nil]
theorem sU {x y : Nat} (h : w4 x = w4 y) : wv x = wv y:=by
 unfold w4 at h;simp only [List.cons.injEq,Value.int.injEq,true_and,and_true,Int.ofNat_inj] at h;unfold wv;rw [h.1,h.2.1,h.2.2.1,h.2.2.2]
theorem nM {x : Nat} : aB [.q x] = aB (e1 F1.zero) ↔ wv x = 0:=by
 constructor
 ·intro h;have h' : w4 x ++ [] = w4 0 ++ []:=h;rw [List.append_nil,List.append_nil] at h';rw [sU h']; decide
 ·intro h;show w4 x ++ [] = w4 0 ++ [];rw [SF x,h]
theorem bQ {x : N2} : aB (q2 x) = aB (e2 F2.zero) ↔ wv x.1 = 0 ∧ wv x.2 = 0:=by
 constructor
 ·intro h;have h' : w4 x.1 ++ (w4 x.2 ++ []) = w4 0 ++ (w4 0 ++ []):=h;obtain ⟨h1,h2⟩:=List.append_inj h' rfl;rw [List.append_nil,List.append_nil] at h2;exact ⟨by rw [sU h1]; decide,by rw [sU h2]; decide⟩
 ·rintro ⟨h1,h2⟩
  show w4 x.1 ++ (w4 x.2 ++ []) = w4 0 ++ (w4 0 ++ []);rw [SF x.1,SF x.2,h1,h2]
theorem Good.congr {P : Program} {f : FuncId} {r r' : RV} {args : List Value} {w : World} (h : Good P f r args w) (e : r.den = r'.den) : Good P f r' args w:=by
 unfold Good at h ⊢;rw [← e];exact h
def tN (x : Nat) : Prop:=wv x < FP.M
def jI (x : N2) : Prop:=wv x.1 < FP.M ∧ wv x.2 < FP.M
def Nn (x : Nat) : Prop:=wv x = 0
def tS (x : N2) : Prop:=wv x.1 = 0 ∧ wv x.2 = 0
theorem Wb {x : Nat} (h : tN x) : aB (q1 x) = aB (e1 (m1 x)):=q_f h
theorem VX {x : N2} (h : jI x) : aB (q2 x) = aB (e2 (m2 x)):=by
 show aB (.q x.1 :: [.q x.2]) = aB (.f (m1 x.1) :: [.f (m1 x.2)]);rw [zL,zL (.f _),q_f h.1,q_f h.2]
theorem JO {c : Int} (h : c ≠ 0) : aI .neq .i64 c 0 = some (.bool true):=by
 show some (Value.bool (c != 0)) = _;rw [bne_iff_ne.2 h]
theorem JP {c : Int} (h : c = 0) : aI .neq .i64 c 0 = some (.bool false):=by rw [h]; rfl
open Classical in
theorem Lo : ∃ g : Nat → Nat → Bool → Int × J1,∀ x y i,g x y i = if i = true then (if Nn x ∧ Nn y then (0,(F1.zero,F1.zero,F1.zero)) else (44,(F1.zero,F1.zero,F1.zero))) else if ¬ (tN x ∧ tN y) then (21,(F1.zero,F1.zero,F1.zero)) else if F1.mul (m1 y) (m1 y) = F1.add (F1.mul (F1.mul (m1 x) (m1 x)) (m1 x)) (fm 3) then (0,(m1 x,m1 y,F1.one)) else (41,(F1.zero,F1.zero,F1.zero)):=⟨_,fun _ _ _ => rfl⟩
def lY : Nat → Nat → Bool → Int × J1:=Classical.choose Lo
open Classical in
theorem CY (x y : Nat) (i : Bool) : lY x y i = if i = true then (if Nn x ∧ Nn y then (0,(F1.zero,F1.zero,F1.zero)) else (44,(F1.zero,F1.zero,F1.zero))) else if ¬ (tN x ∧ tN y) then (21,(F1.zero,F1.zero,F1.zero)) else if F1.mul (m1 y) (m1 y) = F1.add (F1.mul (F1.mul (m1 x) (m1 x)) (m1 x)) (fm 3) then (0,(m1 x,m1 y,F1.one)) else (41,(F1.zero,F1.zero,F1.zero)):=Classical.choose_spec Lo x y i
theorem ZC (x y : Nat) : aT prog (qG prog) (fun _ => ⟨fun s => iD (bif Nat.beq s 28 then true else bif Nat.beq s 33 then true else true),fun s => false,fun _ => none⟩) f148 80 [.v (.fl (q1 x)),.v (.fl (q1 y)),.v (.im (.bool true))] = some ([aB (q1 x) ≠ aB (e1 F1.zero)],.many [.fl (iQ (F1.zero,F1.zero,F1.zero)),.im (.int .i64 44)]):=by kernel_rfl
theorem ZB (x y : Nat) : aT prog (qG prog) (fun _ => ⟨fun s => iD (bif Nat.beq s 28 then true else bif Nat.beq s 33 then true else true),fun s => !(Nat.beq s 18),fun _ => none⟩) f148 80 [.v (.fl (q1 x)),.v (.fl (q1 y)),.v (.im (.bool true))] = some ([aB (q1 x) = aB (e1 F1.zero),aB (q1 y) ≠ aB (e1 F1.zero)],.many [.fl (iQ (F1.zero,F1.zero,F1.zero)),.im (.int .i64 44)]):=by kernel_rfl
theorem ZA (x y : Nat) : aT prog (qG prog) (fun _ => ⟨fun s => iD (bif Nat.beq s 28 then true else bif Nat.beq s 33 then true else true),fun s => true,fun _ => none⟩) f148 80 [.v (.fl (q1 x)),.v (.fl (q1 y)),.v (.im (.bool true))] = some ([aB (q1 x) = aB (e1 F1.zero),aB (q1 y) = aB (e1 F1.zero)],.many [.fl (iQ (F1.zero,F1.zero,F1.zero)),.im (.int .i64 0)]):=by kernel_rfl
theorem YZ (x y : Nat) : aT prog (qG prog) (fun _ => ⟨fun s => iD (bif Nat.beq s 28 then false else bif Nat.beq s 33 then true else true),fun s => true,fun _ => none⟩) f148 80 [.v (.fl (q1 x)),.v (.fl (q1 y)),.v (.im (.bool false))] = some ([¬ wv x < FP.M],.many [.fl (iQ (F1.zero,F1.zero,F1.zero)),.im (.int .i64 21)]):=by kernel_rfl
theorem YY (x y : Nat) : aT prog (qG prog) (fun _ => ⟨fun s => iD (bif Nat.beq s 28 then true else bif Nat.beq s 33 then false else true),fun s => true,fun _ => none⟩) f148 80 [.v (.fl (q1 x)),.v (.fl (q1 y)),.v (.im (.bool false))] = some ([wv x < FP.M,¬ wv y < FP.M],.many [.fl (iQ (F1.zero,F1.zero,F1.zero)),.im (.int .i64 21)]):=by kernel_rfl
theorem YX (x y : Nat) : aT prog (qG prog) (fun _ => ⟨fun s => iD (bif Nat.beq s 28 then true else bif Nat.beq s 33 then true else true),fun s => false,fun _ => none⟩) f148 80 [.v (.fl (q1 x)),.v (.fl (q1 y)),.v (.im (.bool false))] = some ([wv x < FP.M,wv y < FP.M,wv y < FP.M,wv y < FP.M,wv x < FP.M,wv x < FP.M,wv x < FP.M,aB (e1 (F1.mul (m1 y) (m1 y))) ≠ aB (e1 (F1.add (F1.mul (F1.mul (m1 x) (m1 x)) (m1 x)) (fm 3)))],.many [.fl (iQ (F1.zero,F1.zero,F1.zero)),.im (.int .i64 41)]):=by kernel_rfl
theorem YW (x y : Nat) : aT prog (qG prog) (fun _ => ⟨fun s => iD (bif Nat.beq s 28 then true else bif Nat.beq s 33 then true else true),fun s => true,fun _ => none⟩) f148 80 [.v (.fl (q1 x)),.v (.fl (q1 y)),.v (.im (.bool false))] = some ([wv x < FP.M,wv y < FP.M,wv y < FP.M,wv y < FP.M,wv x < FP.M,wv x < FP.M,wv x < FP.M,aB (e1 (F1.mul (m1 y) (m1 y))) = aB (e1 (F1.add (F1.mul (F1.mul (m1 x) (m1 x)) (m1 x)) (fm 3)))],.many [.fl (q1 x ++ (q1 y ++ e1 F1.one)),.im (.int .i64 0)]):=by kernel_rfl
theorem aBi (x y : Nat) (i : Bool) (args : List Value) (w : World) (ha : bH w [.v (.fl (q1 x)),.v (.fl (q1 y)),.v (.im (.bool i))] args) : Good prog 148 (.many [.fl (iQ (lY x y i).2),.im (.int .i64 (lY x y i).1)]) args w:=by
 rw [CY];cases i with
 | true =>
  rw [if_pos rfl]
  by_cases hx : Nn x
  ·by_cases hy : Nn y
   ·rw [if_pos ⟨hx,hy⟩];exact aC aF (fun _ s => gM _) (aG prog) func148 (ZA x y) ⟨nM.2 hx,nM.2 hy,trivial⟩ ha
   ·rw [if_neg (fun h => hy h.2)];exact aC aF (fun _ s => gM _) (aG prog) func148 (ZB x y) ⟨nM.2 hx,fun h => hy (nM.1 h),trivial⟩ ha
  ·rw [if_neg (fun h => hx h.1)];exact aC aF (fun _ s => gM _) (aG prog) func148 (ZC x y) ⟨fun h => hx (nM.1 h),trivial⟩ ha
 | false =>
  rw [if_neg (by simp)]
  by_cases hx : tN x
  ·by_cases hy : tN y
   ·rw [if_neg (fun h => h ⟨hx,hy⟩)]
    by_cases h : F1.mul (m1 y) (m1 y) = F1.add (F1.mul (F1.mul (m1 x) (m1 x)) (m1 x)) (fm 3)
    ·rw [if_pos h];refine Good.congr (r:=.many [.fl (q1 x ++ (q1 y ++ e1 F1.one)),.im (.int .i64 0)]) ?_ ?_
     ·exact aC aF (fun _ s => gM _) (aG prog) func148 (YW x y) ⟨hx,hy,hy,hy,hx,hx,hx,by rw [h],trivial⟩ ha
     ·have e : aB (q1 x ++ (q1 y ++ e1 F1.one)) = aB (iQ (m1 x,m1 y,F1.one)):=by
       rw [aN,aN,Wb hx,Wb hy];rfl
      show Value.tuple #[.agg (aB _).toArray,_] = .tuple #[.agg (aB _).toArray,_];rw [e]
    ·rw [if_neg h];exact aC aF (fun _ s => gM _) (aG prog) func148 (YX x y) ⟨hx,hy,hy,hy,hx,hx,hx,mO h,trivial⟩ ha
   ·rw [if_pos (fun h => hy h.2)];exact aC aF (fun _ s => gM _) (aG prog) func148 (YY x y) ⟨hx,hy,trivial⟩ ha
  ·rw [if_pos (fun h => hx h.1)];exact aC aF (fun _ s => gM _) (aG prog) func148 (YZ x y) ⟨hx,trivial⟩ ha
def aAz : gC
 | [.v (.fl l),.v (.fl m),.v (.im (.bool i))] => match uL l,uL m with
  | some x,some y => some ([],.many [.fl (iQ (lY x y i).2),.im (.int .i64 (lY x y i).1)])
  | _,_ => none
 | _ => none
theorem Sz : ∀ cs pre r,aAz cs = some (pre,r) → aQ pre → ∀ (args : List Value) (w : World),bH w cs args → Good prog 148 r args w:=by
 intro cs pre r hg hp args w ha;unfold aAz at hg;split at hg
 ·rename_i l m i;split at hg
  ·rename_i x y hx hy;cases hg;refine aBi x y i args w ?_
   match args,ha with
   | [u,v,t],ha =>
    refine ⟨?_,?_,ha.2.2⟩
    ·show u = .agg (aB (q1 x)).toArray;rw [← dG l x hx]; exact ha.1
    ·show v = .agg (aB (q1 y)).toArray;rw [← dG m y hy]; exact ha.2.1
   | [],ha => exact ha.elim
   | [_],ha => exact ha.2.elim
   | [_,_],ha => exact ha.2.2.elim
   | _ :: _ :: _ :: _ :: _,ha => exact ha.2.2.2.elim
  ·cases hg
 ·cases hg
def Nc (d : Bool) : Tab:=(iD d).add 148 aAz
theorem Ha (d : Bool) : TabOk prog (Nc d):=(gM d).ad func148 Sz
abbrev DY:=Nat × Nat × Bool
def JZ (p : DY) : List At:=[.q p.1,.q p.2.1,.c (.bool p.2.2)]
def Yc : List At → Option DY
 | [a,b,.c (.bool i)] => match mT a,mT b with | some x,some y => some (x,y,i) | _,_ => none
 | _ => none
theorem iF {a : At} {x : Nat} (h : mT a = some x) : a.cells = w4 x:=by cases a <;> cases h <;> rfl
theorem uR : Rd Yc JZ:=fun l x h => by
 unfold Yc at h;split at h
 ·split at h
  ·rename_i x y h1 h2;cases h;show _ ++ (_ ++ _) = w4 _ ++ (w4 _ ++ _);rw [iF h1,iF h2]
  ·cases h
 ·cases h
def ptI {R : Type} : Pt R → Bool | none => true | some _ => false
def ptX {R : Type} (K : CR R) : Pt R → R | none => K.zero | some p => p.1
def ptY {R : Type} (K : CR R) : Pt R → R | none => K.zero | some p => p.2
theorem Pn (d : Bool) (p : DY) : aT prog (qG prog) (fun _ => ⟨fun s => Nc d,fun s => true,fun _ => none⟩) f118 80 [.v (.fl (JZ p))] = some ([],.many [.fl (iQ (lY p.1 p.2.1 p.2.2).2),.im (.int .i64 (lY p.1 p.2.1 p.2.2).1)]):=by kernel_rfl
def Mv (d : Bool) : Tab:=(Nc d).add 118 (g1 Yc fun p => ([],.many [.fl (iQ (lY p.1 p.2.1 p.2.2).2),.im (.int .i64 (lY p.1 p.2.1 p.2.2).1)]))
theorem Gy (d : Bool) : TabOk prog (Mv d):=(Ha d).ad func118 (cG uR fun p hp args w ha => aC aF (fun _ s => Ha _) (aG prog) func118 (Pn d p) trivial ha)
theorem Pp (d : Bool) (p : DY) : aT prog (qG prog) (fun _ => ⟨fun s => Mv d,fun s => true,fun _ => none⟩) f79 80 [.v (.fl (JZ p))] = some ([],.one (.im (.int .i64 (lY p.1 p.2.1 p.2.2).1))):=by kernel_rfl
def pQ (d : Bool) : Tab:=(Mv d).add 79 (g1 Yc fun p => ([],.one (.im (.int .i64 (lY p.1 p.2.1 p.2.2).1))))
theorem lN (d : Bool) : TabOk prog (pQ d):=(Gy d).ad func79 (cG uR fun p hp args w ha => aC aF (fun _ s => Gy _) (aG prog) func79 (Pp d p) trivial ha)
open Classical in
theorem Ll : ∃ g : N2 → N2 → Bool → Int × J2,∀ x y i,g x y i = if i = true then (if tS x ∧ tS y then (0,(F2.zero,F2.zero,F2.zero)) else (44,(F2.zero,F2.zero,F2.zero))) else if ¬ (jI x ∧ jI y) then (21,(F2.zero,F2.zero,F2.zero)) else if F2.mul (m2 y) (m2 y) = F2.add (F2.mul (F2.mul (m2 x) (m2 x)) (m2 x)) oD then (0,(m2 x,m2 y,F2.one)) else (41,(F2.zero,F2.zero,F2.zero)):=⟨_,fun _ _ _ => rfl⟩
def fQ : N2 → N2 → Bool → Int × J2:=Classical.choose Ll
open Classical in
theorem rK (x y : N2) (i : Bool) : fQ x y i = if i = true then (if tS x ∧ tS y then (0,(F2.zero,F2.zero,F2.zero)) else (44,(F2.zero,F2.zero,F2.zero))) else if ¬ (jI x ∧ jI y) then (21,(F2.zero,F2.zero,F2.zero)) else if F2.mul (m2 y) (m2 y) = F2.add (F2.mul (F2.mul (m2 x) (m2 x)) (m2 x)) oD then (0,(m2 x,m2 y,F2.one)) else (41,(F2.zero,F2.zero,F2.zero)):=Classical.choose_spec Ll x y i
theorem YV (x y : N2) : aT prog (qG prog) (fun _ => ⟨fun s => pQ (bif Nat.beq s 28 then true else bif Nat.beq s 33 then true else true),fun s => false,fun _ => none⟩) f87 80 [.v (.fl (q2 x)),.v (.fl (q2 y)),.v (.im (.bool true))] = some ([aB (q2 x) ≠ aB (e2 F2.zero)],.many [.fl (bD (F2.zero,F2.zero,F2.zero)),.im (.int .i64 44)]):=by kernel_rfl
theorem YU (x y : N2) : aT prog (qG prog) (fun _ => ⟨fun s => pQ (bif Nat.beq s 28 then true else bif Nat.beq s 33 then true else true),fun s => !(Nat.beq s 18),fun _ => none⟩) f87 80 [.v (.fl (q2 x)),.v (.fl (q2 y)),.v (.im (.bool true))] = some ([aB (q2 x) = aB (e2 F2.zero),aB (q2 y) ≠ aB (e2 F2.zero)],.many [.fl (bD (F2.zero,F2.zero,F2.zero)),.im (.int .i64 44)]):=by kernel_rfl
theorem YT (x y : N2) : aT prog (qG prog) (fun _ => ⟨fun s => pQ (bif Nat.beq s 28 then true else bif Nat.beq s 33 then true else true),fun s => true,fun _ => none⟩) f87 80 [.v (.fl (q2 x)),.v (.fl (q2 y)),.v (.im (.bool true))] = some ([aB (q2 x) = aB (e2 F2.zero),aB (q2 y) = aB (e2 F2.zero)],.many [.fl (bD (F2.zero,F2.zero,F2.zero)),.im (.int .i64 0)]):=by kernel_rfl
theorem YS (x y : N2) : aT prog (qG prog) (fun _ => ⟨fun s => pQ (bif Nat.beq s 28 then false else bif Nat.beq s 33 then true else true),fun s => true,fun _ => none⟩) f87 80 [.v (.fl (q2 x)),.v (.fl (q2 y)),.v (.im (.bool false))] = some ([¬ (wv x.1 < FP.M ∧ wv x.2 < FP.M)],.many [.fl (bD (F2.zero,F2.zero,F2.zero)),.im (.int .i64 21)]):=by kernel_rfl
theorem YR (x y : N2) : aT prog (qG prog) (fun _ => ⟨fun s => pQ (bif Nat.beq s 28 then true else bif Nat.beq s 33 then false else true),fun s => true,fun _ => none⟩) f87 80 [.v (.fl (q2 x)),.v (.fl (q2 y)),.v (.im (.bool false))] = some ([(wv x.1 < FP.M ∧ wv x.2 < FP.M),¬ (wv y.1 < FP.M ∧ wv y.2 < FP.M)],.many [.fl (bD (F2.zero,F2.zero,F2.zero)),.im (.int .i64 21)]):=by kernel_rfl
theorem YQ (x y : N2) : aT prog (qG prog) (fun _ => ⟨fun s => pQ (bif Nat.beq s 28 then true else bif Nat.beq s 33 then true else true),fun s => false,fun _ => none⟩) f87 80 [.v (.fl (q2 x)),.v (.fl (q2 y)),.v (.im (.bool false))] = some ([(wv x.1 < FP.M ∧ wv x.2 < FP.M),(wv y.1 < FP.M ∧ wv y.2 < FP.M),aB (e2 (F2.mul (m2 y) (m2 y))) ≠ aB (e2 (F2.add (F2.mul (F2.mul (m2 x) (m2 x)) (m2 x)) oD))],.many [.fl (bD (F2.zero,F2.zero,F2.zero)),.im (.int .i64 41)]):=by kernel_rfl
theorem YP (x y : N2) : aT prog (qG prog) (fun _ => ⟨fun s => pQ (bif Nat.beq s 28 then true else bif Nat.beq s 33 then true else true),fun s => true,fun _ => none⟩) f87 80 [.v (.fl (q2 x)),.v (.fl (q2 y)),.v (.im (.bool false))] = some ([(wv x.1 < FP.M ∧ wv x.2 < FP.M),(wv y.1 < FP.M ∧ wv y.2 < FP.M),aB (e2 (F2.mul (m2 y) (m2 y))) = aB (e2 (F2.add (F2.mul (F2.mul (m2 x) (m2 x)) (m2 x)) oD))],.many [.fl (q2 x ++ (q2 y ++ e2 F2.one)),.im (.int .i64 0)]):=by kernel_rfl
theorem aBh (x y : N2) (i : Bool) (args : List Value) (w : World) (ha : bH w [.v (.fl (q2 x)),.v (.fl (q2 y)),.v (.im (.bool i))] args) : Good prog 87 (.many [.fl (bD (fQ x y i).2),.im (.int .i64 (fQ x y i).1)]) args w:=by
 rw [rK];cases i with
 | true =>
  rw [if_pos rfl]
  by_cases hx : tS x
  ·by_cases hy : tS y
   ·rw [if_pos ⟨hx,hy⟩];exact aC aF (fun _ s => lN _) (aG prog) func87 (YT x y) ⟨bQ.2 hx,bQ.2 hy,trivial⟩ ha
   ·rw [if_neg (fun h => hy h.2)];exact aC aF (fun _ s => lN _) (aG prog) func87 (YU x y) ⟨bQ.2 hx,fun h => hy (bQ.1 h),trivial⟩ ha
  ·rw [if_neg (fun h => hx h.1)];exact aC aF (fun _ s => lN _) (aG prog) func87 (YV x y) ⟨fun h => hx (bQ.1 h),trivial⟩ ha
 | false =>
  rw [if_neg (by simp)]
  by_cases hx : jI x
  ·by_cases hy : jI y
   ·rw [if_neg (fun h => h ⟨hx,hy⟩)]
    by_cases h : F2.mul (m2 y) (m2 y) = F2.add (F2.mul (F2.mul (m2 x) (m2 x)) (m2 x)) oD
    ·rw [if_pos h];refine Good.congr (r:=.many [.fl (q2 x ++ (q2 y ++ e2 F2.one)),.im (.int .i64 0)]) ?_ ?_
     ·exact aC aF (fun _ s => lN _) (aG prog) func87 (YP x y) ⟨hx,hy,by rw [h],trivial⟩ ha
     ·have e : aB (q2 x ++ (q2 y ++ e2 F2.one)) = aB (bD (m2 x,m2 y,F2.one)):=by
       rw [aN,aN,VX hx,VX hy];rfl
      show Value.tuple #[.agg (aB _).toArray,_] = .tuple #[.agg (aB _).toArray,_];rw [e]
    ·rw [if_neg h];exact aC aF (fun _ s => lN _) (aG prog) func87 (YQ x y) ⟨hx,hy,cC h,trivial⟩ ha
   ·rw [if_pos (fun h => hy h.2)];exact aC aF (fun _ s => lN _) (aG prog) func87 (YR x y) ⟨hx,hy,trivial⟩ ha
  ·rw [if_pos (fun h => hx h.1)];exact aC aF (fun _ s => lN _) (aG prog) func87 (YS x y) ⟨hx,trivial⟩ ha
def aAy : gC
 | [.v (.fl l),.v (.fl m),.v (.im (.bool i))] => match OQ l,OQ m with
  | some x,some y => some ([],.many [.fl (bD (fQ x y i).2),.im (.int .i64 (fQ x y i).1)])
  | _,_ => none
 | _ => none
theorem Sy : ∀ cs pre r,aAy cs = some (pre,r) → aQ pre → ∀ (args : List Value) (w : World),bH w cs args → Good prog 87 r args w:=by
 intro cs pre r hg hp args w ha;unfold aAy at hg;split at hg
 ·rename_i l m i;split at hg
  ·rename_i x y hx hy;cases hg;refine aBh x y i args w ?_
   match args,ha with
   | [u,v,t],ha =>
    refine ⟨?_,?_,ha.2.2⟩
    ·show u = .agg (aB (q2 x)).toArray;rw [← fV l x hx]; exact ha.1
    ·show v = .agg (aB (q2 y)).toArray;rw [← fV m y hy]; exact ha.2.1
   | [],ha => exact ha.elim
   | [_],ha => exact ha.2.elim
   | [_,_],ha => exact ha.2.2.elim
   | _ :: _ :: _ :: _ :: _,ha => exact ha.2.2.2.elim
  ·cases hg
 ·cases hg
def Nb (d : Bool) : Tab:=(pQ d).add 87 aAy
theorem Gz (d : Bool) : TabOk prog (Nb d):=(lN d).ad func87 Sy
abbrev dC:=N2 × N2 × Bool
def cS (p : dC) : List At:=[.q p.1.1,.q p.1.2,.q p.2.1.1,.q p.2.1.2,.c (.bool p.2.2)]
def OS : List At → Option dC
 | [a,b,c,d,.c (.bool i)] => match mT a,mT b,mT c,mT d with | some x,some y,some z,some w => some ((x,y),(z,w),i) | _,_,_,_ => none
 | _ => none
theorem fF : Rd OS cS:=fun l x h => by
 unfold OS at h;split at h
 ·split at h
  ·rename_i x y z w h1 h2 h3 h4;cases h;show _ ++ (_ ++ (_ ++ (_ ++ _))) = w4 _ ++ (w4 _ ++ (w4 _ ++ (w4 _ ++ _)));rw [iF h1,iF h2,iF h3,iF h4]
  ·cases h
 ·cases h
def xI (p : Pt Q2) : List At:=[.f (ptX F2 p).1,.f (ptX F2 p).2,.f (ptY F2 p).1,.f (ptY F2 p).2,.c (.bool (ptI p))]
theorem Pm (d : Bool) (p : dC) : aT prog (qG prog) (fun _ => ⟨fun s => Nb d,fun s => true,fun _ => none⟩) f51 80 [.v (.fl (cS p))] = some ([],.many [.fl (bD (fQ p.1 p.2.1 p.2.2).2),.im (.int .i64 (fQ p.1 p.2.1 p.2.2).1)]):=by kernel_rfl
def Mu (d : Bool) : Tab:=(Nb d).add 51 (g1 OS fun p => ([],.many [.fl (bD (fQ p.1 p.2.1 p.2.2).2),.im (.int .i64 (fQ p.1 p.2.1 p.2.2).1)]))
theorem Gx (d : Bool) : TabOk prog (Mu d):=(Gz d).ad func51 (cG fF fun p hp args w ha => aC aF (fun _ s => Gz _) (aG prog) func51 (Pm d p) trivial ha)
theorem Po (d : Bool) (p : dC) : aT prog (qG prog) (fun _ => ⟨fun s => Mu d,fun s => true,fun _ => none⟩) f28 80 [.v (.fl (cS p))] = some ([],.one (.im (.int .i64 (fQ p.1 p.2.1 p.2.2).1))):=by kernel_rfl
def WN (d : Bool) : Tab:=(Mu d).add 28 (g1 OS fun p => ([],.one (.im (.int .i64 (fQ p.1 p.2.1 p.2.2).1))))
theorem PO (d : Bool) : TabOk prog (WN d):=(Gx d).ad func28 (cG fF fun p hp args w ha => aC aF (fun _ s => Gx _) (aG prog) func28 (Po d p) trivial ha)
theorem NZ (p : J2) : aT prog (qG prog) (fun _ => ⟨fun s => WN true,fun s => true,fun _ => none⟩) f131 80 [.v (.fl (bD p))] = some ([p.2.2 = F2.zero],.one (.fl (xI none))):=by kernel_rfl
theorem OA (p : J2) : aT prog (qG prog) (fun _ => ⟨fun s => WN false,fun s => true,fun _ => none⟩) f131 80 [.v (.fl (bD p))] = some ([p.2.2 ≠ F2.zero],.one (.fl (xI (some (F2.mul p.1 (F2.mul (iW p.2.2) (iW p.2.2)),F2.mul p.2.1 (F2.mul (F2.mul (iW p.2.2) (iW p.2.2)) (iW p.2.2))))))):=by kernel_rfl
theorem Rb (p : J2) (args : List Value) (w : World) (ha : bH w [.v (.fl (bD p))] args) : Good prog 131 (.one (.fl (xI (fZ F2 iW p)))) args w:=by
 by_cases h : p.2.2 = F2.zero
 ·rw [cU h];exact aC aF (fun _ s => PO _) (aG prog) func131 (NZ p) ⟨h,trivial⟩ ha
 ·rw [dS h];exact aC aF (fun _ s => PO _) (aG prog) func131 (OA p) ⟨h,trivial⟩ ha
def DT (d : Bool) : Tab:=(WN d).add 131 (g1 IC fun p => ([],.one (.fl (xI (fZ F2 iW p)))))
theorem BS (d : Bool) : TabOk prog (DT d):=(PO d).ad func131 (cG fE fun p hp args w ha => Rb p args w ha)
def gZ : List At:=[.c (.func (.func 51) #[] #[]),.c (.func (.func 131) #[] #[])]
theorem Ee (d : Bool) : aT prog (qG prog) (fun _ => ⟨fun s => DT d,fun s => true,fun _ => none⟩) f93 80 [] = some ([],.one (.fl gZ)):=by kernel_rfl
def RO (d : Bool) : Tab:=(DT d).add 93 (g0 (.one (.fl gZ)))
theorem TR (d : Bool) : TabOk prog (RO d):=(BS d).ad func93 (zJ fun w => aC aF (fun _ s => BS _) (aG prog) func93 (Ee d) trivial (args:=[]) trivial)
def bO (n : Nat) : Nat:=if wv n = 0 then 0 else Nat.log2 (wv n) + 1
theorem oX (n : Nat) : LenIs (wv n) (bO n):=by
 unfold bO
 by_cases h : wv n = 0
 ·rw [if_pos h,h]; exact ⟨by decide,fun h => by cases h⟩
 ·rw [if_neg h];exact ⟨Nat.lt_log2_self,fun _ => by rw [Nat.add_sub_cancel]; exact Nat.log2_self_le h⟩
theorem Ut (n : Nat) : wv n < 2 ^ 256:=by
 obtain ⟨h0,h1,h2,h3⟩:=bJ n;unfold wv aA;have : (2 : Nat) ^ 256 = 115792089237316195423570985008687907853269984665640564039457584007913129639936:=by decide
 omega
theorem UM (n : Nat) : bO n ≤ 256:=by
 rcases Nat.lt_or_ge 256 (bO n) with h | h
 ·have h1:=(oX n).2 (by omega);have h2:=Nat.pow_le_pow_right (show 0 < 2 by omega) (show 256 ≤ bO n - 1 by omega);have:=Ut n;omega
 ·exact h
def Ax : gC
 | [.v (.fl l)] => match uL l with
  | some n => some ([],.one (.im (.int .i64 (bO n : Nat))))
  | none => none
 | _ => none
theorem Zu : ∀ cs pre r,Ax cs = some (pre,r) → aQ pre → ∀ (args : List Value) (w : World),bH w cs args → Good prog 152 r args w:=by
 intro cs pre r hg hp args w ha;unfold Ax at hg;split at hg
 ·rename_i l;split at hg
  ·rename_i n hn;cases hg;rw [jF ha,dG l _ hn];refine (rE _ _ _ _ (bJ n) w).mono ?_
   rintro e w' ⟨L,rfl,_,h,hbl⟩
   cases h.uniq (oX n);exact ⟨rfl,hbl⟩
  ·cases hg
 ·cases hg
def aAD : gC
 | [.v (.fl l),.v (.im (.int .i64 (.ofNat i)))] => match uL l with
  | some n => some ([i < 256],.one (.im (.int .i64 (dF (wv n) i : Nat))))
  | none => none
 | _ => none
def aAh : gC
 | [.v (.fl l),.v (.im (.int .i64 (.ofNat k)))] => match uL l with
  | some n => some ([k < 9223372036854775808],.one (.fl (q1 (wv n / 2 ^ k))))
  | none => none
 | _ => none
theorem Xv : ∀ cs pre r,aAh cs = some (pre,r) → aQ pre → ∀ (args : List Value) (w : World),bH w cs args → Good prog 156 r args w:=by
 intro cs pre r hg hp args w ha;unfold aAh at hg;split at hg
 ·rename_i l k;split at hg
  ·rename_i n hn;cases hg
   match args,ha with
   | [v,u],ha =>
    have h1 : v = .agg (aB l).toArray:=ha.1;have h2 : u = .int .i64 (Int.ofNat k):=ha.2.1;rw [dG l _ hn] at h1;subst h1; subst h2;have hk : k < 9223372036854775808:=hp.1;refine (fI _ _ _ _ (Int.ofNat k) (bJ n) (by simp) (by simp; omega) w).mono ?_
    rintro e w' ⟨s0,s1,s2,s3,rfl,hs,hv,hb⟩
    have hlt : wv n / 2 ^ k < 115792089237316195423570985008687907853269984665640564039457584007913129639936:=by
     refine Nat.lt_of_le_of_lt (Nat.div_le_self _ _) ?_;have:=Ut n;have e : (2 : Nat) ^ 256 = 115792089237316195423570985008687907853269984665640564039457584007913129639936:=by decide
     omega
    obtain ⟨rfl,rfl,rfl,rfl⟩:=fR hs hlt hv;exact ⟨rfl,hb⟩
   | [],ha => exact ha.elim
   | [_],ha => exact ha.2.elim
   | _ :: _ :: _ :: _,ha => exact ha.2.2.elim
  ·cases hg
 ·cases hg
end Go.Proofs.YtfnkbmlmgnadmaaGreat.Ex
