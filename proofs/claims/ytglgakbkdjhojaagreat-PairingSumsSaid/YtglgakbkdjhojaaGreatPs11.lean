/- Ps11 -/
import Derived.Test.YtglgakbkdjhojaaGreatPs10
import Derived.Test.YtglgakbkdjhojaaGreatPs08
import Derived.Test.YtglgakbkdjhojaaGreatPs03
import Derived.Test.YtglgakbkdjhojaaGreatPs04
import Derived.Test.YtglgakbkdjhojaaGreatProg
set_option maxRecDepth 100000
set_option linter.unusedVariables false
set_option linter.unusedSimpArgs false
noncomputable section
namespace Go.Proofs.YtglgakbkdjhojaaGreat.Ex
open Go.Proofs.Tryz
section
variable {R S : Type} {K : CR R} {L : CR S}
structure Hm (K : CR R) (L : CR S) (φ : R → S) : Prop where
 add : ∀ a b,φ (K.add a b) = L.add (φ a) (φ b)
 mul : ∀ a b,φ (K.mul a b) = L.mul (φ a) (φ b)
 zero : φ K.zero = L.zero
 one : φ K.one = L.one
def iH (L : CR S) (φ : R → S) (x : S) : Nat → (Nat → R) → S
 | 0,_ => L.zero
 | n + 1,f => L.add (φ (f 0)) (L.mul x (iH L φ x n (tl f)))
variable {φ : R → S} (H : Hm K L φ) (x : S)
include H
theorem PJ : ∀ (n : Nat) (f : Nat → R),(∀ i,f i = K.zero) → iH L φ x n f = L.zero
 | 0,_,_ => rfl
 | n + 1,f,h => by
  show L.add (φ (f 0)) (L.mul x (iH L φ x n (tl f))) = _;rw [h 0,H.zero,PJ n (tl f) (fun i => h (i + 1)),L.mul_zero,L.add_zero]
theorem CQ : ∀ (a n : Nat) (f : Nat → R),(∀ i,a ≤ i → f i = K.zero) → a ≤ n → iH L φ x n f = iH L φ x a f
 | 0,n,f,h,_ => PJ H x n f (fun i => h i (Nat.zero_le _))
 | a + 1,0,f,h,hn => absurd hn (by omega)
 | a + 1,n + 1,f,h,hn => by
  show L.add _ (L.mul x (iH L φ x n (tl f))) = L.add _ (L.mul x (iH L φ x a (tl f)));rw [CQ a n (tl f) (fun i hi => h (i + 1) (by omega)) (by omega)]
theorem FK : ∀ (n : Nat) (f g : Nat → R),iH L φ x n (RD K f g) = L.add (iH L φ x n f) (iH L φ x n g)
 | 0,_,_ => (L.add_zero _).symm
 | n + 1,f,g => by
  show L.add (φ (K.add (f 0) (g 0))) (L.mul x (iH L φ x n (RD K (tl f) (tl g)))) = L.add (L.add (φ (f 0)) (L.mul x (iH L φ x n (tl f)))) (L.add (φ (g 0)) (L.mul x (iH L φ x n (tl g))));rw [FK n,H.add];exact aE L (aQ L [φ (f 0),φ (g 0),x,iH L φ x n (tl f),iH L φ x n (tl g)]) (.add (.add (.v 0) (.v 1)) (.mul (.v 2) (.add (.v 3) (.v 4)))) (.add (.add (.v 0) (.mul (.v 2) (.v 3))) (.add (.v 1) (.mul (.v 2) (.v 4)))) (by kernel_rfl)
theorem Jr : ∀ (n : Nat) (c : R) (f : Nat → R),iH L φ x n (fsc K c f) = L.mul (φ c) (iH L φ x n f)
 | 0,_,_ => (L.mul_zero _).symm
 | n + 1,c,f => by
  show L.add (φ (K.mul c (f 0))) (L.mul x (iH L φ x n (fsc K c (tl f)))) = L.mul (φ c) (L.add (φ (f 0)) (L.mul x (iH L φ x n (tl f))));rw [Jr n,H.mul,L.mul_add,L.mul_left_comm]
theorem XQ : ∀ (a : Nat) (f g : Nat → R) (b n : Nat),(∀ i,a ≤ i → f i = K.zero) → (∀ i,b ≤ i → g i = K.zero) → a + b ≤ n → iH L φ x n (CH K f g) = L.mul (iH L φ x a f) (iH L φ x b g)
 | 0,f,g,b,n,hf,hg,hn => by
  have e : f = fze K:=funext fun i => hf i (Nat.zero_le _)
  subst e;rw [PJ H x n (CH K (fze K) g) (fun i => RQ K i g)];exact (L.zero_mul _).symm
 | a + 1,f,g,b,0,hf,hg,hn => absurd hn (by omega)
 | a + 1,f,g,b,n + 1,hf,hg,hn => by
  have e : tl (CH K f g) = RD K (fsc K (f 0) (tl g)) (CH K (tl f) g):=rfl;show L.add (φ (K.mul (f 0) (g 0))) (L.mul x (iH L φ x n (tl (CH K f g)))) = L.mul (L.add (φ (f 0)) (L.mul x (iH L φ x a (tl f)))) (iH L φ x b g);rw [e,FK H,Jr H,XQ a (tl f) g b n (fun i hi => hf (i + 1) (by omega)) hg (by omega),H.mul];have e2 : iH L φ x b g = L.add (φ (g 0)) (L.mul x (iH L φ x n (tl g))):=(CQ H x b (n + 1) g hg (by omega)).symm;rw [e2];exact aE L (aQ L [φ (f 0),φ (g 0),x,iH L φ x n (tl g),iH L φ x a (tl f)]) (.add (.mul (.v 0) (.v 1)) (.mul (.v 2) (.add (.mul (.v 0) (.v 3)) (.mul (.v 4) (.add (.v 1) (.mul (.v 2) (.v 3))))))) (.mul (.add (.v 0) (.mul (.v 2) (.v 4))) (.add (.v 1) (.mul (.v 2) (.v 3)))) (by kernel_rfl)
omit H in
def oH (L : CR S) (φ : R → S) (x : S) (f : Pol K) : S:=iH L φ x (Classical.choose f.2) f.1
theorem pY (f : Pol K) (n : Nat) (h : ∀ i,n ≤ i → f.1 i = K.zero) : oH L φ x f = iH L φ x n f.1:=by
 have h':=Classical.choose_spec f.2;unfold oH;generalize Classical.choose f.2 = m at h' ⊢;rw [← CQ H x m (m + n) f.1 h' (by omega),← CQ H x n (m + n) f.1 h (by omega)]
theorem tD (f g : Pol K) : oH L φ x (aV.add f g) = L.add (oH L φ x f) (oH L φ x g):=by
 obtain ⟨a,ha⟩:=f.2;obtain ⟨b,hb⟩:=g.2;rw [pY H x f (a + b) (fun i hi => ha i (by omega)),pY H x g (a + b) (fun i hi => hb i (by omega)),← FK H];exact pY H x (aV.add f g) (a + b) (fun i hi => by show K.add (f.1 i) (g.1 i) = _; rw [ha i (by omega),hb i (by omega),K.add_zero])
theorem pW (f g : Pol K) : oH L φ x (aV.mul f g) = L.mul (oH L φ x f) (oH L φ x g):=by
 obtain ⟨a,ha⟩:=f.2;obtain ⟨b,hb⟩:=g.2;rw [pY H x f a ha,pY H x g b hb,← XQ H x a f.1 g.1 b (a + b) ha hb (Nat.le_refl _)];exact pY H x (aV.mul f g) (a + b) (fun i hi => RR K a b f.1 g.1 ha hb i (by omega))
theorem Ej (c : R) : oH L φ x (kC c : Pol K) = φ c:=by
 rw [pY H x (kC c) 1 (fun i hi => by cases i with | zero => omega | succ i => rfl)];show L.add (φ c) (L.mul x L.zero) = _;rw [L.mul_zero,L.add_zero]
theorem aJV : oH L φ x (pX : Pol K) = x:=by
 rw [pY H x pX 2 (fun i hi => by match i,hi with | i + 2,_ => rfl)];show L.add (φ K.zero) (L.mul x (L.add (φ K.one) (L.mul x L.zero))) = _;rw [H.zero,H.one,L.mul_zero,L.add_zero,L.mul_one,L.zero_add]
theorem sA : oH L φ x (aV.zero : Pol K) = L.zero:=by
 rw [pY H x aV.zero 0 (fun i hi => rfl)];rfl
theorem Jp : oH L φ x (aV.one : Pol K) = L.one:=(Ej H x K.one).trans H.one
theorem Jq (f : Pol K) : oH L φ x (aV.neg f) = L.neg (oH L φ x f):=by
 have h:=tD H x f (aV.neg f);rw [aV.add_neg,sA H] at h;apply L.add_cancel (a:=oH L φ x f);rw [← h,L.add_neg]
omit H in
def oU (L : CR S) (φ : R → S) (x y : S) (f : Pol K × Pol K) : S:=L.add (oH L φ x f.1) (L.mul y (oH L φ x f.2))
variable (y : S) {b : R}
theorem aAx (f g : Pol K × Pol K) : oU L φ x y ((bY K b).add f g) = L.add (oU L φ x y f) (oU L φ x y g):=by
 show L.add (oH L φ x (aV.add f.1 g.1)) (L.mul y (oH L φ x (aV.add f.2 g.2))) = _;unfold oU;rw [tD H,tD H];exact aE L (aQ L [oH L φ x f.1,oH L φ x g.1,y,oH L φ x f.2,oH L φ x g.2]) (.add (.add (.v 0) (.v 1)) (.mul (.v 2) (.add (.v 3) (.v 4)))) (.add (.add (.v 0) (.mul (.v 2) (.v 3))) (.add (.v 1) (.mul (.v 2) (.v 4)))) (by kernel_rfl)
theorem aNw : oH L φ x (qP b : Pol K) = L.add (L.mul x (L.mul x x)) (φ b):=by
 unfold qP;rw [tD H,pW H,pW H,Ej H,aJV H]
theorem aAw (hy : L.mul y y = L.add (L.mul x (L.mul x x)) (φ b)) (f g : Pol K × Pol K) : oU L φ x y ((bY K b).mul f g) = L.mul (oU L φ x y f) (oU L φ x y g):=by
 show L.add (oH L φ x (aV.add (aV.mul f.1 g.1) (aV.mul (qP b) (aV.mul f.2 g.2)))) (L.mul y (oH L φ x (aV.add (aV.mul f.1 g.2) (aV.mul f.2 g.1)))) = _;unfold oU;rw [tD H,tD H,pW H,pW H,pW H,pW H,pW H,aNw H,← hy];exact aE L (aQ L [oH L φ x f.1,oH L φ x g.1,y,oH L φ x f.2,oH L φ x g.2]) (.add (.add (.mul (.v 0) (.v 1)) (.mul (.mul (.v 2) (.v 2)) (.mul (.v 3) (.v 4)))) (.mul (.v 2) (.add (.mul (.v 0) (.v 4)) (.mul (.v 3) (.v 1))))) (.mul (.add (.v 0) (.mul (.v 2) (.v 3))) (.add (.v 1) (.mul (.v 2) (.v 4)))) (by kernel_rfl)
theorem aAv (f : Pol K × Pol K) : oU L φ x y ((bY K b).neg f) = L.neg (oU L φ x y f):=by
 show L.add (oH L φ x (aV.neg f.1)) (L.mul y (oH L φ x (aV.neg f.2))) = _;unfold oU;rw [Jq H,Jq H];exact aE L (aQ L [oH L φ x f.1,y,oH L φ x f.2]) (.add (.neg (.v 0)) (.mul (.v 1) (.neg (.v 2)))) (.neg (.add (.v 0) (.mul (.v 1) (.v 2)))) (by kernel_rfl)
theorem aAt (f g : Pol K × Pol K) : oU L φ x y ((bY K b).sub f g) = L.sub (oU L φ x y f) (oU L φ x y g):=by
 show oU L φ x y ((bY K b).add f ((bY K b).neg g)) = L.add _ (L.neg _);rw [aAx H,aAv H]
theorem aGU (c : R) : oU L φ x y (cc c : Pol K × Pol K) = φ c:=by
 show L.add (oH L φ x (kC c)) (L.mul y (oH L φ x aV.zero)) = _;rw [Ej H,sA H,L.mul_zero,L.add_zero]
theorem aNy : oU L φ x y (cX : Pol K × Pol K) = x:=by
 show L.add (oH L φ x pX) (L.mul y (oH L φ x aV.zero)) = _;rw [aJV H,sA H,L.mul_zero,L.add_zero]
theorem aNx : oU L φ x y (cY : Pol K × Pol K) = y:=by
 show L.add (oH L φ x aV.zero) (L.mul y (oH L φ x aV.one)) = _;rw [sA H,Jp H,L.mul_one,L.zero_add]
theorem aAu : oU L φ x y ((bY K b).one) = L.one:=by
 show L.add (oH L φ x aV.one) (L.mul y (oH L φ x aV.zero)) = _;rw [sA H,Jp H,L.mul_zero,L.add_zero]
end
section
variable {A : Type} {K : CR A}
theorem Wa (D : Dom K) {v0 v l m la t s : A} (h : K.mul (K.mul v0 (K.mul (K.mul v l) la)) K.one = K.mul (K.mul (K.mul v0 (K.mul v m)) la) t)
  (h' : K.mul (K.mul v0 (K.mul (K.mul v l) la)) s = K.mul (K.mul (K.mul v0 (K.mul v m)) la) K.one)
  (h0 : v0 ≠ K.zero) (hv : v ≠ K.zero) (hm : m ≠ K.zero) (hla : la ≠ K.zero) : K.mul t s = K.one ∧ l = K.mul t m:=by
 have hb : K.mul (K.mul v0 (K.mul v m)) la ≠ K.zero:=D.2 _ _ (D.2 _ _ h0 (D.2 _ _ hv hm)) hla;refine ⟨?_,?_⟩
 ·rw [K.mul_one] at h;rw [h,K.mul_assoc] at h';exact nB D hb h'
 ·have hk : K.mul (K.mul v0 v) la ≠ K.zero:=D.2 _ _ (D.2 _ _ h0 hv) hla;refine nB D hk ?_;have e1 : K.mul (K.mul (K.mul v0 v) la) l = K.mul (K.mul v0 (K.mul (K.mul v l) la)) K.one:=aE K (aQ K [v0,v,la,l]) (.mul (.mul (.mul (.v 0) (.v 1)) (.v 2)) (.v 3)) (.mul (.mul (.v 0) (.mul (.mul (.v 1) (.v 3)) (.v 2))) .one) (by kernel_rfl);have e2 : K.mul (K.mul (K.mul v0 (K.mul v m)) la) t = K.mul (K.mul (K.mul v0 v) la) (K.mul t m):=aE K (aQ K [v0,v,la,m,t]) (.mul (.mul (.mul (.v 0) (.mul (.v 1) (.v 3))) (.v 2)) (.v 4)) (.mul (.mul (.mul (.v 0) (.v 1)) (.v 2)) (.mul (.v 4) (.v 3))) (by kernel_rfl);exact e1.trans (h.trans e2)
theorem aSN {w i : A} (h : K.mul w i = K.one) (a : A) : K.mul (K.mul a (K.mul i i)) (K.mul w w) = a :=
 gQ (K:=K) (c1:=K.mul a (K.add (K.mul w i) K.one)) h (aE K (aQ K [a,i,w]) (.add (.mul (.mul (.v 0) (.mul (.v 1) (.v 1))) (.mul (.v 2) (.v 2))) (.neg (.v 0))) (.mul (.mul (.v 0) (.add (.mul (.v 2) (.v 1)) .one)) (.add (.mul (.v 2) (.v 1)) (.neg .one))) (by kernel_rfl))
theorem aJI {w i : A} (h : K.mul w i = K.one) (a : A) : K.mul (K.mul a (K.mul (K.mul i i) i)) (K.mul (K.mul w w) w) = a :=
 gQ (K:=K) (c1:=K.mul a (K.add (K.add (K.mul (K.mul w i) (K.mul w i)) (K.mul w i)) K.one)) h (aE K (aQ K [a,i,w]) (.add (.mul (.mul (.v 0) (.mul (.mul (.v 1) (.v 1)) (.v 1))) (.mul (.mul (.v 2) (.v 2)) (.v 2))) (.neg (.v 0))) (.mul (.mul (.v 0) (.add (.add (.mul (.mul (.v 2) (.v 1)) (.mul (.v 2) (.v 1))) (.mul (.v 2) (.v 1))) .one)) (.add (.mul (.v 2) (.v 1)) (.neg .one))) (by kernel_rfl))
theorem aSP {a b e q i w3 : A} (h : K.mul b b = K.add (K.mul a (K.mul a a)) e) (h2 : e = K.mul q (K.mul w3 w3)) (h3 : K.mul (K.mul (K.mul i i) i) w3 = K.one) :
  K.mul (K.mul b (K.mul (K.mul i i) i)) (K.mul b (K.mul (K.mul i i) i)) = K.add (K.mul (K.mul a (K.mul i i)) (K.mul (K.mul a (K.mul i i)) (K.mul a (K.mul i i)))) q :=
 Ac (K:=K) (c1:=K.mul (K.mul (K.mul i i) i) (K.mul (K.mul i i) i)) (c2:=K.mul (K.mul (K.mul i i) i) (K.mul (K.mul i i) i)) (c3:=K.mul q (K.add (K.mul (K.mul (K.mul i i) i) w3) K.one)) h h2 h3 (aE K (aQ K [a,b,e,q,i,w3])
  (.add (.mul (.mul (.v 1) (.mul (.mul (.v 4) (.v 4)) (.v 4))) (.mul (.v 1) (.mul (.mul (.v 4) (.v 4)) (.v 4)))) (.neg (.add (.mul (.mul (.v 0) (.mul (.v 4) (.v 4))) (.mul (.mul (.v 0) (.mul (.v 4) (.v 4))) (.mul (.v 0) (.mul (.v 4) (.v 4))))) (.v 3))))
  (.add (.add (.mul (.mul (.mul (.mul (.v 4) (.v 4)) (.v 4)) (.mul (.mul (.v 4) (.v 4)) (.v 4))) (.add (.mul (.v 1) (.v 1)) (.neg (.add (.mul (.v 0) (.mul (.v 0) (.v 0))) (.v 2))))) (.mul (.mul (.mul (.mul (.v 4) (.v 4)) (.v 4)) (.mul (.mul (.v 4) (.v 4)) (.v 4))) (.add (.v 2) (.neg (.mul (.v 3) (.mul (.v 5) (.v 5))))))) (.mul (.mul (.v 3) (.add (.mul (.mul (.mul (.v 4) (.v 4)) (.v 4)) (.v 5)) .one)) (.add (.mul (.mul (.mul (.v 4) (.v 4)) (.v 4)) (.v 5)) (.neg .one)))) (by kernel_rfl))
theorem aSO {x y B C M X1 Y1 w2 w : A} (hy : K.mul y (K.mul w2 w) = B) (hx : K.mul x w2 = C) :
  K.mul (K.sub (K.sub y Y1) (K.mul M (K.sub x X1))) (K.mul w2 w) = K.sub B (K.add (K.mul (K.mul M w) C) (K.mul (K.sub Y1 (K.mul M X1)) (K.mul w2 w))) :=
 jP (K:=K) (c1:=K.one) (c2:=K.neg (K.mul M w)) hy hx (aE K (aQ K [x,y,B,C,M,X1,Y1,w2,w])
  (.add (.mul (.add (.add (.v 1) (.neg (.v 6))) (.neg (.mul (.v 4) (.add (.v 0) (.neg (.v 5)))))) (.mul (.v 7) (.v 8))) (.neg (.add (.v 2) (.neg (.add (.mul (.mul (.v 4) (.v 8)) (.v 3)) (.mul (.add (.v 6) (.neg (.mul (.v 4) (.v 5)))) (.mul (.v 7) (.v 8))))))))
  (.add (.mul .one (.add (.mul (.v 1) (.mul (.v 7) (.v 8))) (.neg (.v 2)))) (.mul (.neg (.mul (.v 4) (.v 8))) (.add (.mul (.v 0) (.v 7)) (.neg (.v 3))))) (by kernel_rfl))
theorem aSM {x C X1 w2 : A} (hx : K.mul x w2 = C) : K.mul (K.sub x X1) w2 = K.neg (K.sub (K.mul X1 w2) C) :=
 gQ (K:=K) (c1:=K.one) hx (aE K (aQ K [x,C,X1,w2]) (.add (.mul (.add (.v 0) (.neg (.v 2))) (.v 3)) (.neg (.neg (.add (.mul (.v 2) (.v 3)) (.neg (.v 1)))))) (.mul .one (.add (.mul (.v 0) (.v 3)) (.neg (.v 1)))) (by kernel_rfl))
end
section
variable {R : Type} {K : CR R} {inv : R → R} {b : R}
theorem aBL (E : EC K inv b) {p q : Pt R} (hp : On K b p) (hq : On K b q) : ∃ c,c ≠ K.zero ∧ Ax K inv b p q = (bY K b).mul (cc c) (Ax K inv b q p):=by
 have D:=jH (K:=K) b E.F;have hu:=kI (bY K b);have hW:=hp.add E hq;have e1:=kO E hu hp hq;have e2:=kO E hu hq hp;rw [XW,WY E hq hp] at e2;have f:=e1.symm.trans e2;have n:=kO E hu hW.neg hW;rw [CP] at n;have k:=(n.symm.trans (f.opP (KY K (hJ K inv p q)))).trans n;obtain ⟨t,_,h1⟩:=k.1 (bY K b).one trivial;obtain ⟨s,_,h2⟩:=k.2 (bY K b).one trivial;have u:=Wa D h1 h2 (uR E _) (uR E _) (GN E _ _) (GN E _ _);obtain ⟨c,hc,e⟩:=Im (b:=b) E.F u.1;refine ⟨c,hc,?_⟩;rw [← e];exact u.2
end
def wI : aM:=jW wE
theorem aSR : wE ≠ aD.zero:=by decide
theorem NO : aD.mul wE wI = aD.one:=jG aSR
theorem aLw : vQ = aD.mul JR wE:=rfl
def px (a : Fq) : aM:=aD.mul (eP a) (aD.mul wI wI)
def py (a : Fq) : aM:=aD.mul (eP a) (aD.mul (aD.mul wI wI) wI)
theorem aTV (a : Fq) : aD.mul (px a) JR = eP a:=aSN NO (eP a)
theorem aXo (a : Fq) : aD.mul (py a) vQ = eP a:=aJI NO (eP a)
theorem hmE : Hm F2 aD eQ:=⟨AA,oE,Mx,by decide⟩
theorem aSQ : aD.mul (aD.mul (aD.mul wI wI) wI) vQ = aD.one:=by
 have h:=aJI NO aD.one;rw [aD.one_mul] at h;exact h
theorem pxy {a : Fq × Fq} (h : On F1 (fm 3) (some a)) : aD.mul (py a.2) (py a.2) = aD.add (aD.mul (px a.1) (aD.mul (px a.1) (px a.1))) (eQ dG):=by
 have hp : F1.mul a.2 a.2 = F1.add (F1.mul a.1 (F1.mul a.1 a.1)) (fm 3):=h;have hY : aD.mul (eP a.2) (eP a.2) = aD.add (aD.mul (eP a.1) (aD.mul (eP a.1) (eP a.1))) (eP (fm 3)):=by rw [← sK,hp,RK,sK,sK]
 have r:=aSP (K:=aD) (a:=eP a.1) (b:=eP a.2) (e:=eP (fm 3)) (q:=eQ dG) (i:=wI) (w3:=vQ) hY Gx.symm aSQ;unfold px py;exact r
def yD (a : Fq × Fq) (f : Pol F2 × Pol F2) : aM:=oU aD eQ (px a.1) (py a.2) f
theorem pQ {a : Fq × Fq} (h : On F1 (fm 3) (some a)) (f g : Pol F2 × Pol F2) : yD a ((bY F2 dG).mul f g) = aD.mul (yD a f) (yD a g):=by
 unfold yD;exact aAw hmE (px a.1) (py a.2) (pxy h) f g
theorem yE (a : Fq × Fq) (c : Q2) : yD a (cc c) = eQ c:=by
 unfold yD;exact aGU hmE (px a.1) (py a.2) c
theorem aQv (x y : Q2) : eQ (F2.sub x y) = aD.sub (eQ x) (eQ y):=by
 show eQ (F2.add x (F2.neg y)) = aD.add (eQ x) (aD.neg (eQ y));rw [AA,Gi]
theorem CN (a : Fq × Fq) (f g : Pol F2 × Pol F2) : yD a ((bY F2 dG).sub f g) = aD.sub (yD a f) (yD a g):=by
 unfold yD;exact aAt hmE (px a.1) (py a.2) f g
theorem aJJ (a : Fq × Fq) : yD a cX = px a.1:=by
 unfold yD;exact aNy hmE (px a.1) (py a.2)
theorem aSS (a : Fq × Fq) : yD a cY = py a.2:=by
 unfold yD;exact aNx hmE (px a.1) (py a.2)
theorem aEW (a : Fq × Fq) : yD a (bY F2 dG).one = aD.one:=by
 unfold yD;exact aAu hmE (px a.1) (py a.2)
theorem Vx {a : Fq × Fq} (h : On F1 (fm 3) (some a)) (t : Q2 × Q2) (l : Q2) : aD.mul (yD a ((bY F2 dG).sub ((bY F2 dG).sub cY (cc t.2)) ((bY F2 dG).mul (cc l) ((bY F2 dG).sub cX (cc t.1))))) vQ = lT l (hgt F2 l t) a.1 a.2:=by
 have r:=aSO (K:=aD) (x:=px a.1) (y:=py a.2) (B:=eP a.2) (C:=eP a.1) (M:=eQ l) (X1:=eQ t.1) (Y1:=eQ t.2) (w2:=JR) (w:=wE) (by rw [← aLw]; exact aXo a.2) (aTV a.1);rw [← aLw] at r;rw [CN,CN,pQ h,CN,yE,yE,yE,aJJ,aSS,MH,show hgt F2 l t = F2.sub t.2 (F2.mul l t.1) from rfl,aQv,oE];exact r
theorem aEV (a : Fq × Fq) (x : Q2) : aD.mul (yD a ((bY F2 dG).sub cX (cc x))) JR = aD.neg (vP a.1 x):=by
 have r:=aSM (K:=aD) (X1:=eQ x) (aTV a.1);rw [CN,yE,aJJ,ED];exact r
theorem aLy : JR ≠ aD.zero:=by decide
theorem aLx : vQ ≠ aD.zero:=by decide
theorem aPa : kD JR = aD.one:=xK (by decide) aLy
theorem aVU : bZ vQ = aD.neg vQ:=by decide
theorem aSV : aD.mul (cJ (aD.neg aD.one)) (aD.neg aD.one) = aD.one:=by decide
theorem aOZ : kD vQ = aD.one:=by
 have e : aD.mul (bZ vQ) (jW vQ) = aD.neg aD.one:=by rw [aVU,aD.neg_mul,jG aLx]
 unfold kD eZ;rw [e,aSV,aCp]
theorem aBF {z w m : aM} (h : aD.mul z w = m) (hm : m ≠ aD.zero) (hw : w ≠ aD.zero) (l : kD w = aD.one) : z ≠ aD.zero ∧ kD z = kD m:=by
 have hz : z ≠ aD.zero:=fun e => hm (by rw [← h,e,aD.zero_mul])
 refine ⟨hz,?_⟩;rw [← h,dB hz hw,l,aD.mul_comm,aD.one_mul]
theorem uS {a : Fq × Fq} (h : On F1 (fm 3) (some a)) : ∀ t : Pt Q2,yD a (ver F2 dG t) ≠ aD.zero ∧ kD (yD a (ver F2 dG t)) = aD.one
 | none => by
  rw [show ver F2 dG none = (bY F2 dG).one from rfl,aEW];exact ⟨jO.1,DB⟩
 | some t => by
  have n:=lM (x:=t.1) (oC h);have r:=aBF (aEV a t.1) (tJ n) aLy aPa;rw [qB n,vH (oC h)] at r;exact r
theorem aBK {a : Fq × Fq} (h : On F1 (fm 3) (some a)) {t t' : Q2 × Q2} (hn : ¬ (t.1 = t'.1 ∧ F2.add t.2 t'.2 = F2.zero)) : yD a (Ax F2 dR dG (some t) (some t')) ≠ aD.zero ∧ kD (yD a (Ax F2 dR dG (some t) (some t'))) = kD (lnT t t' a):=by
 rw [QE hn];have r:=aBF (Vx h t (dD F2 dR t.1 t.2 t'.1 t'.2)) (qY (gS h)) aLx aOZ;rw [oB];exact r
theorem Fm {a : Fq × Fq} (h : On F1 (fm 3) (some a)) {t t' : Q2 × Q2} (hn : t.1 = t'.1 ∧ F2.add t.2 t'.2 = F2.zero) : yD a (Ax F2 dR dG (some t) (some t')) ≠ aD.zero ∧ kD (yD a (Ax F2 dR dG (some t) (some t'))) = aD.one:=by
 rw [QF hn];exact uS h (some t)
theorem zQ {a : Fq × Fq} (h : On F1 (fm 3) (some a)) : ∀ t t' : Pt Q2,yD a (Ax F2 dR dG t t') ≠ aD.zero
 | none,t' => (uS h t').1
 | some t,none => (uS h (some t)).1
 | some t,some t' => by
  by_cases hn : t.1 = t'.1 ∧ F2.add t.2 t'.2 = F2.zero
  ·exact (Fm h hn).1
  ·exact (aBK h hn).1
def cv (a : Fq × Fq) (t t' : Pt Q2) : Vq:=lv (yD a (Ax F2 dR dG t t'))
theorem ZW {c : Q2} (h : c ≠ F2.zero) : eQ c ≠ aD.zero:=fun e => h (congrArg (fun z : aM => z.1.1) e)
theorem aVH (c : Q2) : bZ (eQ c) = eQ c:=Prod.ext rfl (by show F6.sub F6.zero F6.zero = F6.zero; decide)
theorem Fk {c : Q2} (h : c ≠ F2.zero) : kD (eQ c) = aD.one:=xK (aVH c) (ZW h)
theorem aQD {a : Fq × Fq} (h : On F1 (fm 3) (some a)) {p q r : Pt Q2} (hp : On F2 dG p) (hq : On F2 dG q) (hr : On F2 dG r) :
  vg.add (cv a p q) (cv a (hJ F2 dR p q) r) = vg.add (cv a q r) (cv a p (hJ F2 dR q r)):=by
 obtain ⟨c,hc,e⟩:=aVQ aW hp hq hr;have e:=congrArg (yD a) e;rw [pQ h,pQ h,pQ h,pQ h,pQ h,yE] at e;have e:=congrArg kD e;have v1:=uS h (hJ F2 dR q r);have v2:=uS h (hJ F2 dR p q);have n1:=zQ h p q;have n2:=zQ h (hJ F2 dR p q) r;have n3:=zQ h q r;have n4:=zQ h p (hJ F2 dR q r);rw [dB v1.1 (nI n1 n2),dB n1 n2,dB (ZW hc) (nI v2.1 (nI n3 n4)),dB v2.1 (nI n3 n4),dB n3 n4,v1.2,v2.2,Fk hc,aD.one_mul,aD.one_mul,aD.one_mul] at e;refine Subtype.ext ?_;unfold cv;rw [lC,lC,cT n1,cT n2,cT n3,cT n4];exact e
theorem Nc {a : Fq × Fq} (h : On F1 (fm 3) (some a)) {p q : Pt Q2} (hp : On F2 dG p) (hq : On F2 dG q) : cv a p q = cv a q p:=by
 obtain ⟨c,hc,e⟩:=aBL aW hp hq;have e:=congrArg (yD a) e;rw [pQ h,yE] at e;have e:=congrArg kD e;have n1:=zQ h p q;have n2:=zQ h q p;rw [dB (ZW hc) n2,Fk hc,aD.one_mul] at e;refine Subtype.ext ?_;unfold cv;rw [cT n1,cT n2];exact e
theorem zN {z : aM} (h : z ≠ aD.zero ∧ kD z = aD.one) : lv z = vg.zero:=by
 refine Subtype.ext ?_;rw [cT h.1,DZ];exact h.2
theorem Aa {a : Fq × Fq} (h : On F1 (fm 3) (some a)) (q : Pt Q2) : cv a none q = vg.zero:=zN (uS h q)
theorem aQC {a : Fq × Fq} (h : On F1 (fm 3) (some a)) : ∀ q : Pt Q2,cv a q (KY F2 q) = vg.zero
 | none => zN (uS h none)
 | some t => by
  unfold cv;rw [Ea];exact zN (Fm (t':=(t.1,F2.neg t.2)) h ⟨rfl,F2.add_neg _⟩)
theorem xU {a : Fq × Fq} (h : On F1 (fm 3) (some a)) {t t' : Q2 × Q2} (hn : ¬ (t.1 = t'.1 ∧ F2.add t.2 t'.2 = F2.zero)) : cv a (some t) (some t') = lv (lnT t t' a):=by
 have r:=aBK h hn;refine Subtype.ext ?_;unfold cv;rw [cT r.1,cT (vI (gS h))];exact r.2
section
variable {R : Type} {K : CR R}
theorem aMz {x y z i j : R} (h1 : (K.mul z i) = K.one) (h2 : (K.mul (K.add (K.mul y z) (K.mul y z)) j) = K.one) : (K.mul (K.mul (K.add (K.add (K.mul x x) (K.mul x x)) (K.mul x x)) j) (K.add (K.mul y (K.mul (K.mul i i) i)) (K.mul y (K.mul (K.mul i i) i)))) = (K.add (K.add (K.mul (K.mul x (K.mul i i)) (K.mul x (K.mul i i))) (K.mul (K.mul x (K.mul i i)) (K.mul x (K.mul i i)))) (K.mul (K.mul x (K.mul i i)) (K.mul x (K.mul i i)))) :=
 jP (K:=K) (c1:=(K.neg (K.mul (K.mul (K.add (K.add (K.mul x x) (K.mul x x)) (K.mul x x)) (K.mul i i)) (K.mul (K.add y y) (K.mul j i))))) (c2:=(K.mul (K.add (K.add (K.mul x x) (K.mul x x)) (K.mul x x)) (K.mul (K.mul i i) (K.mul i i)))) h1 h2 (aE K (aQ K [x,y,z,i,j]) (.add (.mul (.mul (.add (.add (.mul (.v 0) (.v 0)) (.mul (.v 0) (.v 0))) (.mul (.v 0) (.v 0))) (.v 4)) (.add (.mul (.v 1) (.mul (.mul (.v 3) (.v 3)) (.v 3))) (.mul (.v 1) (.mul (.mul (.v 3) (.v 3)) (.v 3))))) (.neg (.add (.add (.mul (.mul (.v 0) (.mul (.v 3) (.v 3))) (.mul (.v 0) (.mul (.v 3) (.v 3)))) (.mul (.mul (.v 0) (.mul (.v 3) (.v 3))) (.mul (.v 0) (.mul (.v 3) (.v 3))))) (.mul (.mul (.v 0) (.mul (.v 3) (.v 3))) (.mul (.v 0) (.mul (.v 3) (.v 3))))))) (.add (.mul (.neg (.mul (.mul (.add (.add (.mul (.v 0) (.v 0)) (.mul (.v 0) (.v 0))) (.mul (.v 0) (.v 0))) (.mul (.v 3) (.v 3))) (.mul (.add (.v 1) (.v 1)) (.mul (.v 4) (.v 3))))) (.add (.mul (.v 2) (.v 3)) (.neg .one))) (.mul (.mul (.add (.add (.mul (.v 0) (.v 0)) (.mul (.v 0) (.v 0))) (.mul (.v 0) (.v 0))) (.mul (.mul (.v 3) (.v 3)) (.mul (.v 3) (.v 3)))) (.add (.mul (.add (.mul (.v 1) (.v 2)) (.mul (.v 1) (.v 2))) (.v 4)) (.neg .one)))) (by kernel_rfl))
theorem aTc {x y z i j : R} (h1 : (K.mul z i) = K.one) (h2 : (K.mul (K.add (K.mul y z) (K.mul y z)) j) = K.one) : (K.mul (K.add (K.add (K.mul x x) (K.mul x x)) (K.mul x x)) (K.mul z z)) = (K.mul (K.mul (K.add (K.mul y z) (K.mul y z)) (K.mul z z)) (K.mul (K.add (K.add (K.mul x x) (K.mul x x)) (K.mul x x)) j)) :=
 jP (K:=K) (c1:=K.zero) (c2:=(K.neg (K.mul (K.add (K.add (K.mul x x) (K.mul x x)) (K.mul x x)) (K.mul z z)))) h1 h2 (aE K (aQ K [x,y,z,i,j]) (.add (.mul (.add (.add (.mul (.v 0) (.v 0)) (.mul (.v 0) (.v 0))) (.mul (.v 0) (.v 0))) (.mul (.v 2) (.v 2))) (.neg (.mul (.mul (.add (.mul (.v 1) (.v 2)) (.mul (.v 1) (.v 2))) (.mul (.v 2) (.v 2))) (.mul (.add (.add (.mul (.v 0) (.v 0)) (.mul (.v 0) (.v 0))) (.mul (.v 0) (.v 0))) (.v 4))))) (.add (.mul .zero (.add (.mul (.v 2) (.v 3)) (.neg .one))) (.mul (.neg (.mul (.add (.add (.mul (.v 0) (.v 0)) (.mul (.v 0) (.v 0))) (.mul (.v 0) (.v 0))) (.mul (.v 2) (.v 2)))) (.add (.mul (.add (.mul (.v 1) (.v 2)) (.mul (.v 1) (.v 2))) (.v 4)) (.neg .one)))) (by kernel_rfl))
theorem aTd {x y z i j : R} (h1 : (K.mul z i) = K.one) (h2 : (K.mul (K.add (K.mul y z) (K.mul y z)) j) = K.one) : (K.sub (K.mul (K.add (K.add (K.mul x x) (K.mul x x)) (K.mul x x)) x) (K.add (K.mul y y) (K.mul y y))) = (K.mul (K.mul (K.add (K.mul y z) (K.mul y z)) (K.mul z z)) (K.neg (K.sub (K.mul y (K.mul (K.mul i i) i)) (K.mul (K.mul (K.add (K.add (K.mul x x) (K.mul x x)) (K.mul x x)) j) (K.mul x (K.mul i i)))))) :=
 jP (K:=K) (c1:=(K.add (K.neg (K.mul (K.mul (K.add (K.add (K.mul x x) (K.mul x x)) (K.mul x x)) x) (K.add (K.mul z i) K.one))) (K.mul (K.add (K.mul y y) (K.mul y y)) (K.add (K.add (K.mul (K.mul z i) (K.mul z i)) (K.mul z i)) K.one)))) (c2:=(K.neg (K.mul (K.mul (K.add (K.add (K.mul x x) (K.mul x x)) (K.mul x x)) x) (K.mul (K.mul z i) (K.mul z i))))) h1 h2 (aE K (aQ K [x,y,z,i,j]) (.add (.add (.mul (.add (.add (.mul (.v 0) (.v 0)) (.mul (.v 0) (.v 0))) (.mul (.v 0) (.v 0))) (.v 0)) (.neg (.add (.mul (.v 1) (.v 1)) (.mul (.v 1) (.v 1))))) (.neg (.mul (.mul (.add (.mul (.v 1) (.v 2)) (.mul (.v 1) (.v 2))) (.mul (.v 2) (.v 2))) (.neg (.add (.mul (.v 1) (.mul (.mul (.v 3) (.v 3)) (.v 3))) (.neg (.mul (.mul (.add (.add (.mul (.v 0) (.v 0)) (.mul (.v 0) (.v 0))) (.mul (.v 0) (.v 0))) (.v 4)) (.mul (.v 0) (.mul (.v 3) (.v 3)))))))))) (.add (.mul (.add (.neg (.mul (.mul (.add (.add (.mul (.v 0) (.v 0)) (.mul (.v 0) (.v 0))) (.mul (.v 0) (.v 0))) (.v 0)) (.add (.mul (.v 2) (.v 3)) .one))) (.mul (.add (.mul (.v 1) (.v 1)) (.mul (.v 1) (.v 1))) (.add (.add (.mul (.mul (.v 2) (.v 3)) (.mul (.v 2) (.v 3))) (.mul (.v 2) (.v 3))) .one))) (.add (.mul (.v 2) (.v 3)) (.neg .one))) (.mul (.neg (.mul (.mul (.add (.add (.mul (.v 0) (.v 0)) (.mul (.v 0) (.v 0))) (.mul (.v 0) (.v 0))) (.v 0)) (.mul (.mul (.v 2) (.v 3)) (.mul (.v 2) (.v 3))))) (.add (.mul (.add (.mul (.v 1) (.v 2)) (.mul (.v 1) (.v 2))) (.v 4)) (.neg .one)))) (by kernel_rfl))
theorem aQW {x y z u v i j : R} (h1 : (K.mul z i) = K.one) (h2 : (K.mul (K.mul z (K.sub (K.mul u (K.mul z z)) x)) j) = K.one) : (K.mul (K.mul (K.sub (K.mul v (K.mul (K.mul z z) z)) y) j) (K.sub u (K.mul x (K.mul i i)))) = (K.sub v (K.mul y (K.mul (K.mul i i) i))) :=
 jP (K:=K) (c1:=(K.add (K.sub (K.neg (K.mul (K.mul (K.mul (K.sub (K.mul v (K.mul (K.mul z z) z)) y) j) u) (K.add (K.mul z i) K.one))) (K.mul (K.mul (K.mul (K.sub (K.mul v (K.mul (K.mul z z) z)) y) j) (K.mul i i)) (K.sub (K.mul u (K.mul z z)) x))) (K.mul v (K.add (K.add (K.mul (K.mul z i) (K.mul z i)) (K.mul z i)) K.one)))) (c2:=(K.mul (K.sub (K.mul v (K.mul (K.mul z z) z)) y) (K.mul (K.mul i i) i))) h1 h2 (aE K (aQ K [x,y,z,u,v,i,j]) (.add (.mul (.mul (.add (.mul (.v 4) (.mul (.mul (.v 2) (.v 2)) (.v 2))) (.neg (.v 1))) (.v 6)) (.add (.v 3) (.neg (.mul (.v 0) (.mul (.v 5) (.v 5)))))) (.neg (.add (.v 4) (.neg (.mul (.v 1) (.mul (.mul (.v 5) (.v 5)) (.v 5))))))) (.add (.mul (.add (.add (.neg (.mul (.mul (.mul (.add (.mul (.v 4) (.mul (.mul (.v 2) (.v 2)) (.v 2))) (.neg (.v 1))) (.v 6)) (.v 3)) (.add (.mul (.v 2) (.v 5)) .one))) (.neg (.mul (.mul (.mul (.add (.mul (.v 4) (.mul (.mul (.v 2) (.v 2)) (.v 2))) (.neg (.v 1))) (.v 6)) (.mul (.v 5) (.v 5))) (.add (.mul (.v 3) (.mul (.v 2) (.v 2))) (.neg (.v 0)))))) (.mul (.v 4) (.add (.add (.mul (.mul (.v 2) (.v 5)) (.mul (.v 2) (.v 5))) (.mul (.v 2) (.v 5))) .one))) (.add (.mul (.v 2) (.v 5)) (.neg .one))) (.mul (.mul (.add (.mul (.v 4) (.mul (.mul (.v 2) (.v 2)) (.v 2))) (.neg (.v 1))) (.mul (.mul (.v 5) (.v 5)) (.v 5))) (.add (.mul (.mul (.v 2) (.add (.mul (.v 3) (.mul (.v 2) (.v 2))) (.neg (.v 0)))) (.v 6)) (.neg .one)))) (by kernel_rfl))
theorem aVV {x y z u v i j : R} (h1 : (K.mul z i) = K.one) (h2 : (K.mul (K.mul z (K.sub (K.mul u (K.mul z z)) x)) j) = K.one) : (K.sub (K.mul v (K.mul (K.mul z z) z)) y) = (K.mul (K.mul z (K.sub (K.mul u (K.mul z z)) x)) (K.mul (K.sub (K.mul v (K.mul (K.mul z z) z)) y) j)) :=
 jP (K:=K) (c1:=K.zero) (c2:=(K.neg (K.sub (K.mul v (K.mul (K.mul z z) z)) y))) h1 h2 (aE K (aQ K [x,y,z,u,v,i,j]) (.add (.add (.mul (.v 4) (.mul (.mul (.v 2) (.v 2)) (.v 2))) (.neg (.v 1))) (.neg (.mul (.mul (.v 2) (.add (.mul (.v 3) (.mul (.v 2) (.v 2))) (.neg (.v 0)))) (.mul (.add (.mul (.v 4) (.mul (.mul (.v 2) (.v 2)) (.v 2))) (.neg (.v 1))) (.v 6))))) (.add (.mul .zero (.add (.mul (.v 2) (.v 5)) (.neg .one))) (.mul (.neg (.add (.mul (.v 4) (.mul (.mul (.v 2) (.v 2)) (.v 2))) (.neg (.v 1)))) (.add (.mul (.mul (.v 2) (.add (.mul (.v 3) (.mul (.v 2) (.v 2))) (.neg (.v 0)))) (.v 6)) (.neg .one)))) (by kernel_rfl))
theorem aVW {x y z u v i j : R} (h1 : (K.mul z i) = K.one) (h2 : (K.mul (K.mul z (K.sub (K.mul u (K.mul z z)) x)) j) = K.one) : (K.sub (K.mul (K.sub (K.mul v (K.mul (K.mul z z) z)) y) u) (K.mul (K.mul z (K.sub (K.mul u (K.mul z z)) x)) v)) = (K.mul (K.mul z (K.sub (K.mul u (K.mul z z)) x)) (K.neg (K.sub (K.mul y (K.mul (K.mul i i) i)) (K.mul (K.mul (K.sub (K.mul v (K.mul (K.mul z z) z)) y) j) (K.mul x (K.mul i i)))))) :=
 jP (K:=K) (c1:=(K.sub (K.sub (K.mul (K.mul u y) (K.add (K.add (K.mul (K.mul z i) (K.mul z i)) (K.mul z i)) K.one)) (K.mul (K.mul (K.mul v x) z) (K.add (K.mul z i) K.one))) (K.mul (K.mul x y) (K.mul i i)))) (c2:=(K.neg (K.mul (K.mul (K.sub (K.mul v (K.mul (K.mul z z) z)) y) x) (K.mul i i)))) h1 h2 (aE K (aQ K [x,y,z,u,v,i,j]) (.add (.add (.mul (.add (.mul (.v 4) (.mul (.mul (.v 2) (.v 2)) (.v 2))) (.neg (.v 1))) (.v 3)) (.neg (.mul (.mul (.v 2) (.add (.mul (.v 3) (.mul (.v 2) (.v 2))) (.neg (.v 0)))) (.v 4)))) (.neg (.mul (.mul (.v 2) (.add (.mul (.v 3) (.mul (.v 2) (.v 2))) (.neg (.v 0)))) (.neg (.add (.mul (.v 1) (.mul (.mul (.v 5) (.v 5)) (.v 5))) (.neg (.mul (.mul (.add (.mul (.v 4) (.mul (.mul (.v 2) (.v 2)) (.v 2))) (.neg (.v 1))) (.v 6)) (.mul (.v 0) (.mul (.v 5) (.v 5)))))))))) (.add (.mul (.add (.add (.mul (.mul (.v 3) (.v 1)) (.add (.add (.mul (.mul (.v 2) (.v 5)) (.mul (.v 2) (.v 5))) (.mul (.v 2) (.v 5))) .one)) (.neg (.mul (.mul (.mul (.v 4) (.v 0)) (.v 2)) (.add (.mul (.v 2) (.v 5)) .one)))) (.neg (.mul (.mul (.v 0) (.v 1)) (.mul (.v 5) (.v 5))))) (.add (.mul (.v 2) (.v 5)) (.neg .one))) (.mul (.neg (.mul (.mul (.add (.mul (.v 4) (.mul (.mul (.v 2) (.v 2)) (.v 2))) (.neg (.v 1))) (.v 0)) (.mul (.v 5) (.v 5)))) (.add (.mul (.mul (.v 2) (.add (.mul (.v 3) (.mul (.v 2) (.v 2))) (.neg (.v 0)))) (.v 6)) (.neg .one)))) (by kernel_rfl))
theorem aLj {x z i : R} (h1 : (K.mul z i) = K.one) : (K.mul (K.mul x (K.mul i i)) (K.mul z z)) = x :=
 gQ (K:=K) (c1:=(K.mul x (K.add (K.mul z i) K.one))) h1 (aE K (aQ K [x,z,i]) (.add (.mul (.mul (.v 0) (.mul (.v 2) (.v 2))) (.mul (.v 1) (.v 1))) (.neg (.v 0))) (.mul (.mul (.v 0) (.add (.mul (.v 1) (.v 2)) .one)) (.add (.mul (.v 1) (.v 2)) (.neg .one))) (by kernel_rfl))
end
def Vf (F S H : Q2) (a : Fq × Fq) : aM:=((F2.mul F (i2 a.2),F2.zero,F2.zero),(F2.mul S (i2 (F1.neg a.1)),H,F2.zero))
theorem aPq (a : Fq) : i2 (F1.neg a) = F2.neg (i2 a):=Prod.ext rfl (bI F1).symm
theorem aPc {F S H m d : Q2} (hS : S = F2.mul F m) (hH : H = F2.mul F (F2.neg d)) (a : Fq × Fq) : Vf F S H a = aD.mul (eQ F) (lT m d a.1 a.2):=by
 rw [nT];unfold Vf eQ lT;simp only [z6e,F2.mul_zero,F2.zero_mul,F2.add_zero,F2.zero_add,aPq,hS,hH,F2.mul_neg,F2.mul_assoc]
theorem aBI {a : Fq × Fq} (h : On F1 (fm 3) (some a)) {F S H m d : Q2} (hF : F ≠ F2.zero) (hS : S = F2.mul F m) (hH : H = F2.mul F (F2.neg d)) : Vf F S H a ≠ aD.zero ∧ lv (Vf F S H a) = lv (lT m d a.1 a.2):=by
 rw [aPc hS hH];have n:=nI (ZW hF) (qY (m:=m) (d:=d) (a:=a.1) (gS h));refine ⟨n,Subtype.ext ?_⟩;rw [cT n,cT (qY (gS h)),dB (ZW hF) (qY (gS h)),Fk hF,aD.one_mul]
def tF (x y z : Q2) : Q2:=F2.mul (F2.add (F2.mul y z) (F2.mul y z)) (F2.mul z z)
def tS (x y z : Q2) : Q2:=F2.mul (F2.add (F2.add (F2.mul x x) (F2.mul x x)) (F2.mul x x)) (F2.mul z z)
def tH (x y z : Q2) : Q2:=F2.sub (F2.mul (F2.add (F2.add (F2.mul x x) (F2.mul x x)) (F2.mul x x)) x) (F2.add (F2.mul y y) (F2.mul y y))
theorem aMA {a : Fq × Fq} (h : On F1 (fm 3) (some a)) {x y z : Q2} (hz : z ≠ F2.zero) (hp : On F2 dG (fM F2 dR (x,y,z))) :
  Vf (tF x y z) (tS x y z) (tH x y z) a ≠ aD.zero ∧ lv (Vf (tF x y z) (tS x y z) (tH x y z) a) = cv a (fM F2 dR (x,y,z)) (fM F2 dR (x,y,z)):=by
 have e:=dQ (K:=F2) (inv:=dR) (p:=(x,y,z)) hz;rw [e] at hp ⊢;dsimp only at hp ⊢;have hi : F2.mul z (dR z) = F2.one:=aW.F.inv z hz;generalize dR z = i at hi hp ⊢;have hY:=lJ hp;dsimp only at hY;have hYY:=aW.dbl_ne hY;have hy : y ≠ F2.zero:=fun e => hY (by rw [e,F2.zero_mul])
 have hN : F2.add (F2.mul y z) (F2.mul y z) ≠ F2.zero:=aW.dbl_ne (aW.F.mul_ne hy hz);have hj : F2.mul (F2.add (F2.mul y z) (F2.mul y z)) (dR (F2.add (F2.mul y z) (F2.mul y z))) = F2.one:=aW.F.inv _ hN;generalize dR (F2.add (F2.mul y z) (F2.mul y z)) = j at hj;have hs:=yM aW hYY (aMz (x:=x) hi hj);rw [xU h (fun q => hYY q.2),oB];dsimp only;rw [hs];exact aBI h (aW.F.mul_ne hN (aW.F.mul_ne hz hz)) (aTc hi hj) (aTd hi hj)
def rC (x z u : Q2) : Q2:=F2.sub (F2.mul u (F2.mul z z)) x
def sP (y z v : Q2) : Q2:=F2.sub (F2.mul v (F2.mul (F2.mul z z) z)) y
def Vg (x z u : Q2) : Q2:=F2.mul z (rC x z u)
theorem aQX {a : Fq × Fq} (h : On F1 (fm 3) (some a)) {x y z u v : Q2} (hz : z ≠ F2.zero) (hp : On F2 dG (fM F2 dR (x,y,z))) (hq : On F2 dG (some (u,v))) (hA : rC x z u ≠ F2.zero) :
  Vf (Vg x z u) (sP y z v) (F2.sub (F2.mul (sP y z v) u) (F2.mul (Vg x z u) v)) a ≠ aD.zero ∧ lv (Vf (Vg x z u) (sP y z v) (F2.sub (F2.mul (sP y z v) u) (F2.mul (Vg x z u) v)) a) = cv a (fM F2 dR (x,y,z)) (some (u,v)):=by
 have e:=dQ (K:=F2) (inv:=dR) (p:=(x,y,z)) hz;rw [e] at hp ⊢;dsimp only at hp ⊢;have hi : F2.mul z (dR z) = F2.one:=aW.F.inv z hz;generalize dR z = i at hi hp ⊢;have hN : Vg x z u ≠ F2.zero:=aW.F.mul_ne hz hA;have hj : F2.mul (Vg x z u) (dR (Vg x z u)) = F2.one:=aW.F.inv _ hN;generalize dR (Vg x z u) = j at hj;have hx : F2.mul x (F2.mul i i) ≠ u:=fun q => hA (by
  unfold rC;rw [← q,aLj hi];exact F2.add_neg x)
 have hs:=rO aW hx (aQW (y:=y) (v:=v) hi hj);rw [xU h (fun q => hx q.1),oB];dsimp only;rw [hs];exact aBI h hN (aVV hi hj) (aVW hi hj)
structure GHom {G G' : Type} (A : AG G) (A' : AG G') (f : G → G') : Prop where
 add : ∀ x y,f (A.add x y) = A'.add (f x) (f y)
section
variable {G G' : Type} {A : AG G} {A' : AG G'} {f : G → G'}
theorem GHom.zero (h : GHom A A' f) : f A.zero = A'.zero:=by
 apply A'.cancel (a:=f A.zero);rw [← h.add,A.zadd,A'.addz]
theorem GHom.neg (h : GHom A A' f) (x : G) : f (A.neg x) = A'.neg (f x):=by
 apply A'.cancel (a:=f x);rw [← h.add,A.addn,A'.addn,h.zero]
theorem GHom.ns (h : GHom A A' f) (x : G) : ∀ n,f (A.ns n x) = A'.ns n (f x)
 | 0 => h.zero
 | n + 1 => by
  show f (A.add (A.ns n x) x) = A'.add (A'.ns n (f x)) (f x);rw [h.add,h.ns x n]
def tot (A : AG G) (s : Nat) (a b c : G) : G:=A.add (A.add (A.ns s a) b) (A.neg c)
theorem GHom.tot (h : GHom A A' f) (s : Nat) (a b c : G) : f (tot A s a b c) = Ex.tot A' s (f a) (f b) (f c):=by
 unfold Ex.tot;rw [h.add,h.add,h.ns,h.neg]
theorem NX (s : Nat) (a b c a' b' c' : G) : tot A s (A.add a a') (A.add b b') (A.add c c') = A.add (tot A s a b c) (tot A s a' b' c'):=by
 unfold tot;rw [A.ns_sum,A.neg_add,A.add4 (A.ns s a),A.add4 (A.add (A.ns s a) b)]
end
section
variable {G V : Type}
structure Cyc (A : AG G) (B : AG V) (c : G → G → V) : Prop where
 coc : ∀ g h k,B.add (c g h) (c (A.add g h) k) = B.add (c h k) (c g (A.add h k))
 comm : ∀ g h,c g h = c h g
 zl : ∀ g,c A.zero g = B.zero
 opp : ∀ g,c g (A.neg g) = B.zero
variable {A : AG G} {B : AG V} {c : G → G → V}
theorem Cyc.zr (C : Cyc A B c) (g : G) : c g A.zero = B.zero:=by rw [C.comm,C.zl]
def lX (C : Cyc A B c) : AG (G × V) where
 add x y:=(A.add x.1 y.1,B.add (B.add x.2 y.2) (c x.1 y.1))
 neg x:=(A.neg x.1,B.neg x.2)
 zero:=(A.zero,B.zero)
 assoc x y z:=by
  refine Prod.ext (A.assoc _ _ _) ?_
  haveI : Std.Associative B.add:=⟨B.assoc⟩
  haveI : Std.Commutative B.add:=⟨B.comm⟩
  show B.add (B.add (B.add (B.add x.2 y.2) (c x.1 y.1)) z.2) (c (A.add x.1 y.1) z.1) = B.add (B.add x.2 (B.add (B.add y.2 z.2) (c y.1 z.1))) (c x.1 (A.add y.1 z.1));have e1 : B.add (B.add (B.add (B.add x.2 y.2) (c x.1 y.1)) z.2) (c (A.add x.1 y.1) z.1) = B.add (B.add (B.add x.2 y.2) z.2) (B.add (c x.1 y.1) (c (A.add x.1 y.1) z.1)):=by ac_rfl
  rw [e1,C.coc]
  ac_rfl
 comm x y:=Prod.ext (A.comm _ _) (by
  show B.add (B.add x.2 y.2) (c x.1 y.1) = B.add (B.add y.2 x.2) (c y.1 x.1);rw [B.comm x.2,C.comm])
 zadd x:=Prod.ext (A.zadd _) (by
  show B.add (B.add B.zero x.2) (c A.zero x.1) = x.2;rw [B.zadd,C.zl,B.addz])
 nadd x:=Prod.ext (A.nadd _) (by
  show B.add (B.add (B.neg x.2) x.2) (c (A.neg x.1) x.1) = B.zero;rw [B.nadd,C.comm,C.opp,B.zadd])
def eB (B : AG V) (g : G) : G × V:=(g,B.zero)
def iB (A : AG G) (v : V) : G × V:=(A.zero,v)
theorem aCj (C : Cyc A B c) : GHom B (lX C) (iB A):=⟨fun x y => Prod.ext (A.zadd _).symm (by
 show B.add x y = B.add (B.add x y) (c A.zero A.zero);rw [C.zl,B.addz])⟩
theorem Mg (C : Cyc A B c) : GHom (lX C) A Prod.fst:=⟨fun _ _ => rfl⟩
theorem aDm (C : Cyc A B c) (g : G) (v : V) : (g,v) = (lX C).add (eB B g) (iB A v):=Prod.ext (A.addz _).symm (by
 show v = B.add (B.add B.zero v) (c g A.zero);rw [C.zr,B.zadd,B.addz])
theorem Gj (C : Cyc A B c) (g h : G) : (lX C).add (eB B g) (eB B h) = (lX C).add (eB B (A.add g h)) (iB A (c g h)):=by
 rw [← aDm];refine Prod.ext rfl ?_;show B.add (B.add B.zero B.zero) (c g h) = c g h;rw [B.zadd,B.zadd]
def fin (C : Cyc A B c) (s : Nat) (ψ : G → G) (Q : G) : G × V:=tot (lX C) s (eB B Q) (eB B (ψ Q)) (eB B (ψ (ψ Q)))
theorem Mo (C : Cyc A B c) (s : Nat) (ψ : G → G) (Q : G) : (fin C s ψ Q).1 = tot A s Q (ψ Q) (ψ (ψ Q)):=(Mg C).tot s _ _ _
theorem NW {s : Nat} {x y z w : V} (h : B.add (B.add (B.ns s x) y) w = z) : tot B s x y z = B.neg w:=by
 unfold tot;rw [← h,B.neg_add,← B.assoc,B.addn,B.zadd]
theorem aDg {X Y n z : V} (h : B.add X n = B.add (B.add Y n) z) (hz : z = B.zero) : X = Y:=by
 rw [hz,B.addz,B.comm X,B.comm Y] at h;exact B.cancel h
theorem Ud (C : Cyc A B c) {s : Nat} {ψ : G → G} {φ : V → V} (hψ : GHom A A ψ) (hc : ∀ g h,c (ψ g) (ψ h) = φ (c g h)) (hn : ∀ g h,c (A.neg g) (A.neg h) = B.neg (c g h)) {Q Q' : G}
  (hv : B.add (B.add (B.ns s (c Q Q')) (φ (c Q Q'))) (φ (φ (φ (c Q Q')))) = φ (φ (c Q Q')))
  (h1 : tot A s Q (ψ Q) (ψ (ψ Q)) = A.neg (ψ (ψ (ψ Q)))) (h2 : tot A s Q' (ψ Q') (ψ (ψ Q')) = A.neg (ψ (ψ (ψ Q')))) :
  B.add (fin C s ψ Q).2 (fin C s ψ Q').2 = (fin C s ψ (A.add Q Q')).2:=by
 have k0:=Gj C Q Q';have k1:=Gj C (ψ Q) (ψ Q');have k2:=Gj C (ψ (ψ Q)) (ψ (ψ Q'));rw [← hψ.add,hc] at k1;rw [← hψ.add,← hψ.add,hc,hc] at k2;have k : (lX C).add (fin C s ψ Q) (fin C s ψ Q') = (lX C).add (fin C s ψ (A.add Q Q')) (iB A (tot B s (c Q Q') (φ (c Q Q')) (φ (φ (c Q Q'))))):=by
  rw [(aCj C).tot];unfold fin;rw [← NX,k0,k1,k2,NX]
 rw [NW hv] at k;have e:=congrArg Prod.snd k;have e : B.add (B.add (fin C s ψ Q).2 (fin C s ψ Q').2) (c (fin C s ψ Q).1 (fin C s ψ Q').1) = B.add (B.add (fin C s ψ (A.add Q Q')).2 (B.neg (φ (φ (φ (c Q Q')))))) (c (fin C s ψ (A.add Q Q')).1 A.zero):=e;rw [Mo,Mo,h1,h2,hn,hc,hc,hc] at e;exact aDg e (C.zr _)
def lN {W : Type} (B : AG V) (B' : AG W) : AG (V × W) where
 add x y:=(B.add x.1 y.1,B'.add x.2 y.2)
 neg x:=(B.neg x.1,B'.neg x.2)
 zero:=(B.zero,B'.zero)
 assoc x y z:=Prod.ext (B.assoc _ _ _) (B'.assoc _ _ _)
 comm x y:=Prod.ext (B.comm _ _) (B'.comm _ _)
 zadd x:=Prod.ext (B.zadd _) (B'.zadd _)
 nadd x:=Prod.ext (B.nadd _) (B'.nadd _)
theorem Cyc.two {c1 c2 : G → G → V} (C1 : Cyc A B c1) (C2 : Cyc A B c2) : Cyc A (lN B B) (fun g h => (c1 g h,c2 g h)) where
 coc g h k:=Prod.ext (C1.coc g h k) (C2.coc g h k)
 comm g h:=Prod.ext (C1.comm g h) (C2.comm g h)
 zl g:=Prod.ext (C1.zl g) (C2.zl g)
 opp g:=Prod.ext (C1.opp g) (C2.opp g)
theorem Ue {c1 c2 c3 : G → G → V} (C1 : Cyc A B c1) (C2 : Cyc A B c2) (C3 : Cyc A B c3) {h : G → V} (hh : ∀ g k,B.add (B.add (c1 g k) (c2 g k)) (h (A.add g k)) = B.add (c3 g k) (B.add (h g) (h k)))
  {s : Nat} {ψ : G → G} {φ : V → V} (hψ : ∀ g,h (ψ g) = φ (h g)) (hn : ∀ g,h (A.neg g) = B.neg (h g)) {Q : G}
  (hv : B.add (B.add (B.ns s (h Q)) (φ (h Q))) (φ (φ (φ (h Q)))) = φ (φ (h Q)))
  (h1 : tot A s Q (ψ Q) (ψ (ψ Q)) = A.neg (ψ (ψ (ψ Q)))) :
  B.add (fin C1 s ψ Q).2 (fin C2 s ψ Q).2 = (fin C3 s ψ Q).2:=by
 have f1 : GHom (lX (C1.two C2)) (lX C1) (fun x => (x.1,x.2.1)):=⟨fun _ _ => rfl⟩;have f2 : GHom (lX (C1.two C2)) (lX C2) (fun x => (x.1,x.2.2)):=⟨fun _ _ => rfl⟩;have f3 : GHom (lX (C1.two C2)) (lX C3) (fun x => (x.1,B.add (B.add x.2.1 x.2.2) (h x.1))):=⟨fun x y => Prod.ext rfl (by
  show B.add (B.add (B.add (B.add x.2.1 y.2.1) (c1 x.1 y.1)) (B.add (B.add x.2.2 y.2.2) (c2 x.1 y.1))) (h (A.add x.1 y.1)) = B.add (B.add (B.add (B.add x.2.1 x.2.2) (h x.1)) (B.add (B.add y.2.1 y.2.2) (h y.1))) (c3 x.1 y.1)
  haveI : Std.Associative B.add:=⟨B.assoc⟩
  haveI : Std.Commutative B.add:=⟨B.comm⟩
  have e1 : B.add (B.add (B.add (B.add x.2.1 y.2.1) (c1 x.1 y.1)) (B.add (B.add x.2.2 y.2.2) (c2 x.1 y.1))) (h (A.add x.1 y.1)) = B.add (B.add (B.add x.2.1 y.2.1) (B.add x.2.2 y.2.2)) (B.add (B.add (c1 x.1 y.1) (c2 x.1 y.1)) (h (A.add x.1 y.1))):=by ac_rfl
  rw [e1,hh]
  ac_rfl)⟩
 have t1:=f1.tot s (eB (lN B B) Q) (eB (lN B B) (ψ Q)) (eB (lN B B) (ψ (ψ Q)));have t2:=f2.tot s (eB (lN B B) Q) (eB (lN B B) (ψ Q)) (eB (lN B B) (ψ (ψ Q)));have t3:=f3.tot s (eB (lN B B) Q) (eB (lN B B) (ψ Q)) (eB (lN B B) (ψ (ψ Q)));have t0:=(Mg (C1.two C2)).tot s (eB (lN B B) Q) (eB (lN B B) (ψ Q)) (eB (lN B B) (ψ (ψ Q)));generalize tot (lX (C1.two C2)) s (eB (lN B B) Q) (eB (lN B B) (ψ Q)) (eB (lN B B) (ψ (ψ Q))) = T at t0 t1 t2 t3;have t1 : (T.1,T.2.1) = fin C1 s ψ Q:=t1;have t2 : (T.1,T.2.2) = fin C2 s ψ Q:=t2;have t0 : T.1 = tot A s Q (ψ Q) (ψ (ψ Q)):=t0;have hz : ∀ g : G,((g,B.add (B.add B.zero B.zero) (h g)) : G × V) = (lX C3).add (eB B g) (iB A (h g)):=fun g => by
  rw [B.zadd,B.zadd];exact aDm C3 g (h g)
 have t3 : (T.1,B.add (B.add T.2.1 T.2.2) (h T.1)) = tot (lX C3) s (Q,B.add (B.add B.zero B.zero) (h Q)) (ψ Q,B.add (B.add B.zero B.zero) (h (ψ Q))) (ψ (ψ Q),B.add (B.add B.zero B.zero) (h (ψ (ψ Q)))):=t3;rw [hz,hz,hz,NX,← (aCj C3).tot,hψ (ψ Q),hψ Q,NW hv] at t3;have e:=congrArg Prod.snd t3;have e : B.add (B.add T.2.1 T.2.2) (h T.1) = B.add (B.add (fin C3 s ψ Q).2 (B.neg (φ (φ (φ (h Q)))))) (c3 (fin C3 s ψ Q).1 A.zero):=e;rw [t0,h1,hn,hψ,hψ,hψ] at e;rw [← t1,← t2];exact aDg e (C3.zr _)
theorem aFr (C : Cyc A B c) (Q : G) (d : Int) (T : G) (F : V) : Ve (lX C) (eB B Q) d (T,F) = (Ve A Q d T,stF A B c Q d F T):=by
 unfold Ve stF
 by_cases h1 : d = 1
 ·rw [if_pos h1,if_pos h1,if_pos h1];refine Prod.ext rfl ?_;show B.add (B.add (B.add (B.add F F) (c T T)) B.zero) (c (A.add T T) Q) = _;rw [B.addz]
 ·rw [if_neg h1,if_neg h1,if_neg h1]
  by_cases h2 : d = -1
  ·rw [if_pos h2,if_pos h2,if_pos h2];refine Prod.ext rfl ?_;show B.add (B.add (B.add (B.add F F) (c T T)) (B.neg B.zero)) (c (A.add T T) (A.neg Q)) = _;rw [B.negz,B.addz]
  ·rw [if_neg h2,if_neg h2,if_neg h2];rfl
theorem Ja (C : Cyc A B c) (Q : G) : ∀ (ds : List Int) (T : G) (F : V),yT (lX C) (eB B Q) ds (T,F) = (yT A Q ds T,Zc A B c Q ds F T)
 | [],_,_ => rfl
 | d :: ds,T,F => by
  show yT (lX C) (eB B Q) ds (Ve (lX C) (eB B Q) d (T,F)) = _;rw [aFr,Ja C Q ds];rfl
def hdg : List Int → Int → Int
 | [],n => n
 | d :: ds,n => hdg ds (n + n + (if d = 1 then 1 else if d = -1 then -1 else 0))
theorem aSI (A : AG G) (Q : G) : A.zs 1 Q = Q:=A.zadd Q
theorem aSH (A : AG G) (Q : G) : A.zs (-1) Q = A.neg Q:=congrArg A.neg (A.zadd Q)
theorem aWJ (A : AG G) (Q : G) : A.zs 0 Q = A.zero:=rfl
theorem Xq (A : AG G) (Q : G) : ∀ (ds : List Int) (n : Int),yT A Q ds (A.zs n Q) = A.zs (hdg ds n) Q
 | [],_ => rfl
 | d :: ds,n => by
  show yT A Q ds (Ve A Q d (A.zs n Q)) = A.zs (hdg ds _) Q;rw [← Xq A Q ds];congr 1;unfold Ve
  by_cases h1 : d = 1
  ·rw [if_pos h1,if_pos h1,A.zs_add,A.zs_add,aSI]
  ·rw [if_neg h1,if_neg h1]
   by_cases h2 : d = -1
   ·rw [if_pos h2,if_pos h2,A.zs_add,A.zs_add,aSH]
   ·rw [if_neg h2,if_neg h2,A.zs_add,A.zs_add,aWJ,A.addz]
theorem aNd (A : AG G) (Q : G) {ds : List Int} {s : Nat} (h : hdg ds 1 = s) : yT A Q ds Q = A.ns s Q:=by
 have r:=Xq A Q ds 1;rw [aSI,h] at r;exact r
theorem aFZ (C : Cyc A B c) (Q : G) {ds : List Int} {s : Nat} (h : hdg ds 1 = s) (ψ : G → G) :
  fin C s ψ Q = (A.add (A.add (yT A Q ds Q) (ψ Q)) (A.neg (ψ (ψ Q))),B.add (B.add (Zc A B c Q ds B.zero Q) (c (yT A Q ds Q) (ψ Q))) (c (A.add (yT A Q ds Q) (ψ Q)) (A.neg (ψ (ψ Q))))):=by
 have r:=aNd (lX C) (eB B Q) h;have e:=Ja C Q ds Q B.zero;have e : yT (lX C) (eB B Q) ds (eB B Q) = _:=e;rw [r] at e;unfold fin tot;rw [e];refine Prod.ext rfl ?_;show B.add (B.add (B.add (B.add _ B.zero) _) (B.neg B.zero)) _ = _;rw [B.addz,B.negz,B.addz];rfl
end
open Go.RowKit
def iY : Q2:=(⟨21575463638280843010398324269430826099269044274347216827212613867836435027261,by decide⟩,⟨10307601595873709700152284273816112264069230130616436755625194854815875713954,by decide⟩)
def mX : Q2:=(⟨2821565182194536844548159561693502659359617185244120367078079554186484126554,by decide⟩,⟨3505843767911556378687030309984248845540243509899259641013678093033130930403,by decide⟩)
def zW : Q2:=(⟨10857046999023057135944570762232829481370756359578518086990519993285655852781,by decide⟩,⟨11559732032986387107991004021392285783925812861821192530917403151452391805634,by decide⟩)
def BK : Q2:=(⟨8495653923123431417604973247489272438418190587263600148770280649306958101930,by decide⟩,⟨4082367875863433681332203403145435568316851327593401208105741076214120093531,by decide⟩)
def cG : Nat:=147946756881789318990833708069417712966
def aCE : kZ
 | [.v (.im (.int .i64 (.ofNat 1)))] => some ([],.one (.fl (q1 FP.M)))
 | [.v (.im (.int .i64 (.ofNat 2)))] => some ([],.one (.fl (q1 Go.Proofs.YtglgakbkdjhojaaGreat.FR.M)))
 | _ => none
theorem aID : ∀ cs pre r,aCE cs = some (pre,r) → aZ pre → ∀ (args : List Value) (w : World),bR w cs args → Good prog 204 r args w:=by
 intro cs pre r hg hp args w ha;unfold aCE at hg;split at hg
 ·cases hg
  match args,ha with
  | [v],ha =>
   have h1 : v = .int .i64 1:=ha.1;subst h1;exact (uM 1 FP (Or.inl ⟨rfl,rfl⟩) w).mono fun e w' h => h
  | [],ha => exact ha.elim
  | _ :: _ :: _,ha => exact ha.2.elim
 ·cases hg
  match args,ha with
  | [v],ha =>
   have h1 : v = .int .i64 2:=ha.1;subst h1;exact (uM 2 Go.Proofs.YtglgakbkdjhojaaGreat.FR (Or.inr ⟨rfl,rfl⟩) w).mono fun e w' h => h
  | [],ha => exact ha.elim
  | _ :: _ :: _,ha => exact ha.2.elim
 ·cases hg
def aCC : kZ
 | [.v (.fl l),.v (.fl m)] => some ([aA l = aA (q1 FP.M),aA m = aA (q1 Go.Proofs.YtglgakbkdjhojaaGreat.FR.M)],.many [.fl (q1 cG),.im (.int .u64 0)])
 | _ => none
theorem aHP : ∀ cs pre r,aCC cs = some (pre,r) → aZ pre → ∀ (args : List Value) (w : World),bR w cs args → Good prog 203 r args w:=by
 intro cs pre r hg hp args w ha;unfold aCC at hg;split at hg
 ·rename_i l m;cases hg;obtain ⟨e1,e2,_⟩:=hp
  match args,ha with
  | [v,u],ha =>
   have h1 : v = .agg (aA l).toArray:=ha.1;have h2 : u = .agg (aA m).toArray:=ha.2.1;rw [e1] at h1;rw [e2] at h2;subst h1; subst h2;refine (sV _ _ _ _ _ _ _ _ (dL FP.M) (dL Go.Proofs.YtglgakbkdjhojaaGreat.FR.M) w).mono ?_
   rintro e w' ⟨s0,s1,s2,s3,c,rfl,hs,hc,hv,hb⟩
   have v1 : aF (fw FP.M 0) (fw FP.M 1) (fw FP.M 2) (fw FP.M 3) = 21888242871839275222246405745257275088696311157297823662689037894645226208583:=by kernel_rfl
   have v2 : aF (fw Go.Proofs.YtglgakbkdjhojaaGreat.FR.M 0) (fw Go.Proofs.YtglgakbkdjhojaaGreat.FR.M 1) (fw Go.Proofs.YtglgakbkdjhojaaGreat.FR.M 2) (fw Go.Proofs.YtglgakbkdjhojaaGreat.FR.M 3) = 21888242871839275222246405745257275088548364400416034343698204186575808495617:=by kernel_rfl
   rw [v1,v2] at hv;obtain ⟨h0,h1,h2,h3⟩:=hs;have hlt : aF s0 s1 s2 s3 < 115792089237316195423570985008687907853269984665640564039457584007913129639936:=by unfold aF; omega
   have hc0 : c = 0:=by omega
   subst hc0;have hv2 : aF s0 s1 s2 s3 = cG:=by unfold cG; omega
   obtain ⟨rfl,rfl,rfl,rfl⟩:=pD ⟨h0,h1,h2,h3⟩ (by unfold cG; omega) hv2;exact ⟨rfl,hb⟩
  | [],ha => exact ha.elim
  | [_],ha => exact ha.2.elim
  | _ :: _ :: _ :: _,ha => exact ha.2.2.elim
 ·cases hg
def aEz : Tab:=(Nv).add 204 aCE
theorem aHu : TabOk prog aEz:=(YN).ad func204 aID
def Hq : Tab:=(aEz).add 203 aCC
theorem Ko : TabOk prog Hq:=(aHu).ad func203 aHP
theorem Yz  : aX prog (qG prog) (fun _ => ⟨fun s => Hq,fun s => true,fun _ => none⟩) f45 60 [] = some ([],.one (.fl (fB (some (fm 1,fm 2))))):=by kernel_rfl
def Ib : Tab:=(Hq).add 45 (g0 (.one (.fl (fB (some (fm 1,fm 2))))))
theorem Kz : TabOk prog Ib:=(Ko).ad func45 (gP fun w => aB aG (fun _ s => Ko) (aK prog) func45 Yz trivial (args:=[]) trivial)
theorem Qn  : aX prog (qG prog) (fun _ => ⟨fun s => Ib,fun s => true,fun _ => none⟩) f9 60 [] = some ([],.one (.fl (fB (some (fm 1,fm 2))))):=by kernel_rfl
def SW : Tab:=(Ib).add 9 (g0 (.one (.fl (fB (some (fm 1,fm 2))))))
theorem YK : TabOk prog SW:=(Kz).ad func9 (gP fun w => aB aG (fun _ s => Kz) (aK prog) func9 Qn trivial (args:=[]) trivial)
theorem Yy  : aX prog (qG prog) (fun _ => ⟨fun s => SW,fun s => true,fun _ => none⟩) f24 60 [] = some ([],.one (.fl (dF (some (zW,BK))))):=by kernel_rfl
def Ia : Tab:=(SW).add 24 (g0 (.one (.fl (dF (some (zW,BK))))))
theorem Ky : TabOk prog Ia:=(YK).ad func24 (gP fun w => aB aG (fun _ s => YK) (aK prog) func24 Yy trivial (args:=[]) trivial)
theorem Qm  : aX prog (qG prog) (fun _ => ⟨fun s => Ia,fun s => true,fun _ => none⟩) f11 60 [] = some ([],.one (.fl (dF (some (zW,BK))))):=by kernel_rfl
def SV : Tab:=(Ia).add 11 (g0 (.one (.fl (dF (some (zW,BK))))))
theorem YJ : TabOk prog SV:=(Ky).ad func11 (gP fun w => aB aG (fun _ s => Ky) (aK prog) func11 Qm trivial (args:=[]) trivial)
theorem Sf  : aX prog (qG prog) (fun _ => ⟨fun s => SV,fun s => true,fun _ => none⟩) f205 60 [] = some ([],.one (.fl (q1 Go.Proofs.YtglgakbkdjhojaaGreat.FR.M))):=by kernel_rfl
def TD : Tab:=(SV).add 205 (g0 (.one (.fl (q1 Go.Proofs.YtglgakbkdjhojaaGreat.FR.M))))
theorem YO : TabOk prog TD:=(YJ).ad func205 (gP fun w => aB aG (fun _ s => YJ) (aK prog) func205 Sf trivial (args:=[]) trivial)
theorem Pr  : aX prog (qG prog) (fun _ => ⟨fun s => TD,fun s => true,fun _ => none⟩) f216 60 [] = some ([],.many [.fl (e2 iY),.fl (e2 mX)]):=by kernel_rfl
def SM : Tab:=(TD).add 216 (g0 (.many [.fl (e2 iY),.fl (e2 mX)]))
theorem YC : TabOk prog SM:=(YO).ad func216 (gP fun w => aB aG (fun _ s => YO) (aK prog) func216 Pr trivial (args:=[]) trivial)
theorem aUA (x y : N2) : SM 213 [.v (.fl (q2 x)),.v (.fl (q2 y))] = some ([],.one (.fl (e2 (F2.mul (m2 x) (m2 y))))):=by kernel_rfl
def tV : Tab:=(SM).add 213 (g2 KU KU (fun x y => ([],.one (.fl (e2 (F2.mul x y))))))
theorem sD : TabOk prog tV:=(YC).ad func213 (zV fP fP fun x y hp args w ha => (YC _ _ _ _ (aUA x y) trivial).2 args w ha)
theorem JZ (x y : N2) : aX prog (qG prog) (fun _ => ⟨fun s => tV,fun s => true,fun s => bif Nat.beq s 10 then some (.bool true) else none⟩) f173 60 [.v (.fl (jN (x,y,true)))] = some ([aI .neq .i64 (rL x y true).1 0 = some (.bool true)],.many [.fl (dF (some (F2.zero,F2.zero))),.im (.int .i64 (rL x y true).1)]):=by kernel_rfl
theorem JY (x y : N2) : aX prog (qG prog) (fun _ => ⟨fun s => tV,fun s => true,fun s => bif Nat.beq s 10 then some (.bool false) else none⟩) f173 60 [.v (.fl (jN (x,y,true)))] = some ([aI .neq .i64 (rL x y true).1 0 = some (.bool false)],.many [.fl (e2 (F2.mul (aJ (m2 x)) iY) ++ (e2 (F2.mul (aJ (m2 y)) mX) ++ [.c (.bool true)])),.im (.int .i64 0)]):=by kernel_rfl
theorem ES (x y : N2) : aX prog (qG prog) (fun _ => ⟨fun s => tV,fun s => true,fun s => bif Nat.beq s 10 then some (.bool true) else none⟩) f173 60 [.v (.fl (jN (x,y,false)))] = some ([aI .neq .i64 (rL x y false).1 0 = some (.bool true)],.many [.fl (dF (some (F2.zero,F2.zero))),.im (.int .i64 (rL x y false).1)]):=by kernel_rfl
theorem ER (x y : N2) : aX prog (qG prog) (fun _ => ⟨fun s => tV,fun s => true,fun s => bif Nat.beq s 10 then some (.bool false) else none⟩) f173 60 [.v (.fl (jN (x,y,false)))] = some ([aI .neq .i64 (rL x y false).1 0 = some (.bool false)],.many [.fl (e2 (F2.mul (aJ (m2 x)) iY) ++ (e2 (F2.mul (aJ (m2 y)) mX) ++ [.c (.bool false)])),.im (.int .i64 0)]):=by kernel_rfl
def KD : Pt Q2 → Pt Q2
 | none => none
 | some p => some (F2.mul (aJ p.1) iY,F2.mul (aJ p.2) mX)
def fR (p : iX) : Pt Q2 × Int:=if (fG p).1 ≠ 0 then (some (F2.zero,F2.zero),(fG p).1) else (KD (af2 p),0)
theorem aKM {x : N2} (h : Vk x) : m2 x = F2.zero:=by
 refine Prod.ext (Fin.ext ?_) (Fin.ext ?_)
 ·show wv x.1 % FP.M = 0;rw [h.1]; rfl
 ·show wv x.2 % FP.M = 0;rw [h.2]; rfl
theorem xW : aJ F2.zero = F2.zero:=by decide
theorem aQT {x y : N2} (h : (rL x y true).1 = 0) : Vk x ∧ Vk y:=by
 rw [IL,if_pos rfl] at h
 by_cases hz : Vk x ∧ Vk y
 ·exact hz
 ·rw [if_neg hz] at h; cases h
theorem Zv (p : iX) (args : List Value) (w : World) (ha : bR w [.v (.fl (jN p))] args) : Good prog 173 (.many [.fl (dF (fR p).1),.im (.int .i64 (fR p).2)]) args w:=by
 obtain ⟨x,y,b⟩:=p
 by_cases h : (rL x y b).1 = 0
 ·rw [show fR (x,y,b) = (KD (af2 (x,y,b)),0) from if_neg (fun q => q h)];cases b with
  | false => exact aB aG (fun _ s => sD) (aK prog) func173 (ER x y) ⟨GJ h,trivial⟩ ha
  | true =>
   refine Good.congr (aB aG (fun _ s => sD) (aK prog) func173 (JY x y) ⟨GJ h,trivial⟩ ha) ?_;obtain ⟨hx,hy⟩:=aQT h;rw [aKM hx,aKM hy,xW,F2.zero_mul,F2.zero_mul];rfl
 ·rw [show fR (x,y,b) = (some (F2.zero,F2.zero),(rL x y b).1) from if_pos h];cases b with
  | true => exact aB aG (fun _ s => sD) (aK prog) func173 (JZ x y) ⟨uL h,trivial⟩ ha
  | false => exact aB aG (fun _ s => sD) (aK prog) func173 (ES x y) ⟨uL h,trivial⟩ ha
def vY : Tab:=(tV).add 173 (g1 Zh fun p => ([],.many [.fl (dF (fR p).1),.im (.int .i64 (fR p).2)]))
theorem tI : TabOk prog vY:=(sD).ad func173 (bJ pU fun p hp args w ha => Zv p args w ha)
theorem Qz (p : iX) : aX prog (qG prog) (fun _ => ⟨fun s => vY,fun s => true,fun s => bif Nat.beq s 15 then some (.bool true) else none⟩) f162 60 [.v (.fl (jN p))] = some ([aI .neq .i64 (fR p).2 0 = some (.bool true)],.one (.im (.bool false))):=by kernel_rfl
theorem Qy (p : iX) : aX prog (qG prog) (fun _ => ⟨fun s => vY,fun s => true,fun s => bif Nat.beq s 15 then some (.bool false) else none⟩) f162 60 [.v (.fl (jN p))] = some ([aI .neq .i64 (fR p).2 0 = some (.bool false),aA (q1 FP.M) = aA (q1 FP.M),aA (q1 Go.Proofs.YtglgakbkdjhojaaGreat.FR.M) = aA (q1 Go.Proofs.YtglgakbkdjhojaaGreat.FR.M),aA (dF (kJ (fun _ => p) (fun _ => cG) 1).1) = aA (dF (fR p).1)],.one (.im (.bool true))):=by kernel_rfl
theorem Qx (p : iX) : aX prog (qG prog) (fun _ => ⟨fun s => vY,fun s => false,fun s => bif Nat.beq s 15 then some (.bool false) else none⟩) f162 60 [.v (.fl (jN p))] = some ([aI .neq .i64 (fR p).2 0 = some (.bool false),aA (q1 FP.M) = aA (q1 FP.M),aA (q1 Go.Proofs.YtglgakbkdjhojaaGreat.FR.M) = aA (q1 Go.Proofs.YtglgakbkdjhojaaGreat.FR.M),aA (dF (kJ (fun _ => p) (fun _ => cG) 1).1) ≠ aA (dF (fR p).1)],.one (.im (.bool false))):=by kernel_rfl
theorem aId {P Q : Pt Q2} (h : aA (dF P) = aA (dF Q)) : P = Q:=by
 have h' : w4 (ptX F2 P).1.1 ++ (w4 (ptX F2 P).2.1 ++ (w4 (ptY F2 P).1.1 ++ (w4 (ptY F2 P).2.1 ++ [Value.bool (uG P)]))) = w4 (ptX F2 Q).1.1 ++ (w4 (ptX F2 Q).2.1 ++ (w4 (ptY F2 Q).1.1 ++ (w4 (ptY F2 Q).2.1 ++ [Value.bool (uG Q)]))):=h;obtain ⟨h1,h'⟩:=List.append_inj h' rfl;obtain ⟨h2,h'⟩:=List.append_inj h' rfl;obtain ⟨h3,h'⟩:=List.append_inj h' rfl;obtain ⟨h4,h'⟩:=List.append_inj h' rfl;have h5 : uG P = uG Q:=by injection h' with h' _; injection h'
 have e : ∀ {a b : Fq},w4 a.1 = w4 b.1 → a = b:=fun {a b} hw => by
  have:=CM hw;refine Fin.ext ?_;have ha : wv a.1 = a.1:=cE a.2;have hb : wv b.1 = b.1:=cE b.2;rw [← ha,← hb,this]
 cases P with
 | none =>
  cases Q with
  | none => rfl
  | some q => cases h5
 | some p =>
  cases Q with
  | none => cases h5
  | some q => exact congrArg some (Prod.ext (Prod.ext (e h1) (e h2)) (Prod.ext (e h3) (e h4)))
open Classical in
def Tu (p : iX) : Bool:=decide ((fR p).2 = 0 ∧ (kJ (fun _ => p) (fun _ => cG) 1).1 = (fR p).1)
theorem aPp (p : iX) (args : List Value) (w : World) (ha : bR w [.v (.fl (jN p))] args) : Good prog 162 (.one (.im (.bool (Tu p)))) args w:=by
 unfold Tu
 by_cases h1 : (fR p).2 = 0
 ·by_cases h2 : (kJ (fun _ => p) (fun _ => cG) 1).1 = (fR p).1
  ·rw [decide_eq_true (And.intro h1 h2)];exact aB aG (fun _ s => tI) (aK prog) func162 (Qy p) ⟨GJ h1,rfl,rfl,by rw [h2],trivial⟩ ha
  ·rw [decide_eq_false (fun h => h2 h.2)];exact aB aG (fun _ s => tI) (aK prog) func162 (Qx p) ⟨GJ h1,rfl,rfl,fun h => h2 (aId h),trivial⟩ ha
 ·rw [decide_eq_false (fun h => h1 h.1)];exact aB aG (fun _ s => tI) (aK prog) func162 (Qz p) ⟨uL h1,trivial⟩ ha
def BU : Tab:=(vY).add 162 (g1 Zh fun p => ([],.one (.im (.bool (Tu p)))))
theorem vC : TabOk prog BU:=(tI).ad func162 (bJ pU fun p hp args w ha => aPp p args w ha)
section
variable {R : Type} [DecidableEq R] (K : CR R)
def Nj (p q : Jc R) : Jc R :=
 if p.2.2 = K.zero then q else if q.2.2 = K.zero then p else if BJ K p q = K.zero then (if ZE K p q = K.zero then cH K p else (K.one,K.one,K.zero)) else GT K p q
theorem aDy (p q : Jc R) : Nj K p q = rplus K p q:=by
 unfold Nj rplus
 by_cases h1 : p.2.2 = K.zero
 ·rw [if_pos h1,if_pos h1]
 ·rw [if_neg h1,if_neg h1]
  by_cases h2 : q.2.2 = K.zero
  ·rw [if_pos h2,if_pos h2]
  ·rw [if_neg h2,if_neg h2]
   by_cases h3 : BJ K p q = K.zero
   ·rw [if_pos h3]
    by_cases h4 : ZE K p q = K.zero
    ·rw [if_pos h4,if_pos ⟨h3,h4⟩]
    ·rw [if_neg h4,if_neg (fun h => h4 h.2),if_pos h3]
   ·rw [if_neg h3,if_neg (fun h => h3 h.1),if_neg h3]
def TN (a : Jc R) (n L : Nat) : Nat → Jc R
 | 0 => (K.one,K.one,K.zero)
 | k + 1 => if Nat.beq (n / 2 ^ (L - (k + 1)) % 2) 1 = true then Nj K (cH K (TN a n L k)) a else cH K (TN a n L k)
variable {K} {inv : R → R} {b : R}
theorem Ni {E : EC K inv b} {a : Jc R} {g : {p : Pt R // On K b p}} (h : Rp E a g) (n L : Nat) (hn : n < 2 ^ L) : ∀ k,k ≤ L → Rp E (TN K a n L k) (E.grp.ns (n / 2 ^ (L - k)) g)
 | 0,_ => by
  rw [Nat.sub_zero,Nat.div_eq_of_lt hn];exact Rp.zero rfl
 | k + 1,hk => by
  have ih:=Ni h n L hn k (by omega);have e : n / 2 ^ (L - k) = n / 2 ^ (L - (k + 1)) / 2:=by
   rw [show L - k = (L - (k + 1)) + 1 by omega,Nat.pow_add,← Nat.div_div_eq_div_mul]
  rw [e] at ih;have h2:=ih.dbl;rw [← E.grp.ns_add] at h2
  by_cases hb : n / 2 ^ (L - (k + 1)) % 2 = 1
  ·rw [show TN K a n L (k + 1) = Nj K (cH K (TN K a n L k)) a from if_pos (by rw [hb]; rfl),aDy];have h3:=h2.rplus h;rw [show n / 2 ^ (L - (k + 1)) = n / 2 ^ (L - (k + 1)) / 2 + n / 2 ^ (L - (k + 1)) / 2 + 1 by omega];exact h3
  ·rw [show TN K a n L (k + 1) = cH K (TN K a n L k) from if_neg (fun hq => hb (Nat.eq_of_beq_eq_true hq))];rw [show n / 2 ^ (L - (k + 1)) = n / 2 ^ (L - (k + 1)) / 2 + n / 2 ^ (L - (k + 1)) / 2 by omega];exact h2
theorem DL {E : EC K inv b} {a : Jc R} {g : {p : Pt R // On K b p}} (h : Rp E a g) (n L : Nat) (hn : n < 2 ^ L) : Rp E (TN K a n L L) (E.grp.ns n g):=by
 have:=Ni h n L hn L (Nat.le_refl _)
 rwa [Nat.sub_self,Nat.pow_zero,Nat.div_one] at this
end
def oI : Nat:=21888242871839275222246405745257275088548364400416034343698204186575808495617
theorem aGt : (TN F2 (zW,BK,F2.one) oI 254 254).2.2 = F2.zero:=of_decide_eq_true (by kernel_rfl)
section
variable {R : Type} {K : CR R} {inv : R → R} {b : R}
theorem aBW (E : EC K inv b) {p : Jc R} {x y : R} (hz : p.2.2 ≠ K.zero) (hx : p.1 = K.mul x (K.mul p.2.2 p.2.2)) (hy : p.2.1 = K.mul y (K.mul (K.mul p.2.2 p.2.2) p.2.2)) : fM K inv p = some (x,y):=by
 have h1:=E.F.inv _ hz;rw [dQ hz,hx,hy];generalize inv p.2.2 = i at h1 ⊢;generalize p.2.2 = z at h1 ⊢;refine congrArg some (Prod.ext ?_ ?_)
 ·show K.mul (K.mul x (K.mul z z)) (K.mul i i) = x;have e : K.mul (K.mul x (K.mul z z)) (K.mul i i) = K.mul x (K.mul (K.mul z i) (K.mul z i)):=aE K (aQ K [x,z,i]) (.mul (.mul (.v 0) (.mul (.v 1) (.v 1))) (.mul (.v 2) (.v 2))) (.mul (.v 0) (.mul (.mul (.v 1) (.v 2)) (.mul (.v 1) (.v 2)))) (by decide);rw [e,h1,K.one_mul,K.mul_one]
 ·show K.mul (K.mul y (K.mul (K.mul z z) z)) (K.mul (K.mul i i) i) = y;have e : K.mul (K.mul y (K.mul (K.mul z z) z)) (K.mul (K.mul i i) i) = K.mul y (K.mul (K.mul (K.mul z i) (K.mul z i)) (K.mul z i)):=aE K (aQ K [y,z,i]) (.mul (.mul (.v 0) (.mul (.mul (.v 1) (.v 1)) (.v 1))) (.mul (.mul (.v 2) (.v 2)) (.v 2))) (.mul (.v 0) (.mul (.mul (.mul (.v 1) (.v 2)) (.mul (.v 1) (.v 2))) (.mul (.v 1) (.v 2)))) (by decide);rw [e,h1,K.one_mul,K.one_mul,K.mul_one]
end
def g1n : mI:=((fm 1).1,(fm 2).1,false)
def g2n : iX:=((zW.1.1,zW.2.1),(BK.1.1,BK.2.1),false)
theorem zM (x : Fq) : m1 x.1 = x:=Fin.ext (show wv x.1 % FP.M = x.1 by rw [show wv x.1 = x.1 from cE x.2]; exact Nat.mod_eq_of_lt x.2)
theorem DO (x : Fq) : JQ x.1:=by show wv x.1 < FP.M; rw [show wv x.1 = x.1 from cE x.2]; exact x.2
theorem QB (x : Q2) : m2 (x.1.1,x.2.1) = x:=Prod.ext (zM x.1) (zM x.2)
theorem Np (x : Q2) : JP (x.1.1,x.2.1):=⟨DO x.1,DO x.2⟩
theorem aDJ {x y : Fq} (h : On F1 (fm 3) (some (x,y))) : (iL (x.1,y.1,false)).1 = 0:=by
 have e:=RW x.1 y.1 false;rw [if_neg (by simp),if_neg (fun q => q ⟨DO x,DO y⟩),zM,zM] at e;have h' : F1.mul y y = F1.add (F1.mul (F1.mul x x) x) (fm 3):=by
  rw [F1.mul_comm (F1.mul x x) x]; exact h
 rw [if_pos h'] at e;show (RX x.1 y.1 false).1 = 0;rw [e]
theorem aDG {x y : Q2} (h : On F2 dG (some (x,y))) : (fG ((x.1.1,x.2.1),(y.1.1,y.2.1),false)).1 = 0:=by
 have e:=IL (x.1.1,x.2.1) (y.1.1,y.2.1) false;rw [if_neg (by simp),if_neg (fun q => q ⟨Np x,Np y⟩),QB,QB] at e;have h' : F2.mul y y = F2.add (F2.mul (F2.mul x x) x) dG:=by
  rw [F2.mul_comm (F2.mul x x) x]; exact h
 rw [if_pos h'] at e;show (rL (x.1.1,x.2.1) (y.1.1,y.2.1) false).1 = 0;rw [e]
theorem aVl : On F1 (fm 3) (some (fm 1,fm 2)):=by
 show F1.mul (fm 2) (fm 2) = F1.add (F1.mul (fm 1) (F1.mul (fm 1) (fm 1))) (fm 3);exact of_decide_eq_true (by kernel_rfl)
theorem aVj : On F2 dG (some (zW,BK)):=by
 show F2.mul BK BK = F2.add (F2.mul zW (F2.mul zW zW)) dG;exact of_decide_eq_true (by kernel_rfl)
theorem aKY : (iL g1n).1 = 0:=aDJ aVl
theorem aCL : (fG g2n).1 = 0:=aDG aVj
theorem Gz (x y : Fq) : af1 (x.1,y.1,false) = some (x,y):=congrArg some (Prod.ext (zM x) (zM y))
theorem SH (x y : Q2) : af2 ((x.1.1,x.2.1),(y.1.1,y.2.1),false) = some (x,y):=congrArg some (Prod.ext (QB x) (QB y))
theorem aQa : Rp aW (zW,BK,F2.one) (Up g2n):=(aW.jto_one _ _).trans ((IG aCL).trans (SH zW BK)).symm
theorem aQb : aW.grp.ns oI (Up g2n) = aW.grp.zero:=Subtype.ext ((DL aQa oI 254 (by decide)).symm.trans (dE aGt))
theorem aET : wv cG = cG:=by kernel_rfl
def Au (P : Pt Fq) : mI:=((ptX F1 P).1,(ptY F1 P).1,uG P)
def yI (P : Pt Q2) : iX:=(((ptX F2 P).1.1,(ptX F2 P).2.1),((ptY F2 P).1.1,(ptY F2 P).2.1),uG P)
theorem OA : ∀ {P : Pt Fq},On F1 (fm 3) P → (iL (Au P)).1 = 0
 | none,_ => by
  have e:=RW 0 0 true;rw [if_pos rfl,if_pos ⟨by show wv 0 = 0; rfl,by show wv 0 = 0; rfl⟩] at e;show (RX 0 0 true).1 = 0;rw [e]
 | some p,h => aDJ h
theorem yH : ∀ {P : Pt Q2},On F2 dG P → (fG (yI P)).1 = 0
 | none,_ => by
  have e:=IL (0,0) (0,0) true;rw [if_pos rfl,if_pos ⟨⟨by show wv 0 = 0; rfl,by show wv 0 = 0; rfl⟩,by show wv 0 = 0; rfl,by show wv 0 = 0; rfl⟩] at e;show (rL (0,0) (0,0) true).1 = 0;rw [e]
 | some p,h => aDG h
theorem aRR : ∀ P : Pt Fq,af1 (Au P) = P
 | none => rfl
 | some p => Gz p.1 p.2
theorem aEr : ∀ P : Pt Q2,af2 (yI P) = P
 | none => rfl
 | some p => SH p.1 p.2
theorem aVk : Au (cp1 g1n).1 = g1n:=by
 rw [RP aKY,show af1 g1n = some (fm 1,fm 2) from Gz (fm 1) (fm 2)];rfl
theorem aVi : yI (Up g2n).1 = g2n:=by
 rw [IG aCL,show af2 g2n = some (zW,BK) from SH zW BK];rfl
theorem aDz (P : C1) : cp1 (Au P.1) = P:=Subtype.ext ((RP (OA P.2)).trans (aRR P.1))
theorem MU {ps : Nat → mI} : ∀ {N : Nat},(∀ j,j < N → (iL (ps j)).1 = 0) → gV ps N = 0
 | 0,_ => rfl
 | N + 1,h => by
  unfold gV;rw [if_neg (fun q => q (MU fun j hj => h j (by omega)))];exact h N (by omega)
theorem So {ps : Nat → mI} {g : Nat → C1} {N : Nat} (h : ∀ j,j < N → ps j = Au (g j).1) : oO ps N = ((gK.grp.tt g N).1,0):=by
 have hc : ∀ j,j < N → (iL (ps j)).1 = 0:=fun j hj => by rw [h j hj]; exact OA (g j).2
 unfold oO;rw [if_neg (fun q => q (MU hc))];rw [show fM F1 cM (EG (AW ps) N) = _ from UF (g:=g) fun j hj => by
  have:=Nk (hc j hj);rw [show cp1 (ps j) = g j by rw [h j hj,aDz]] at this;exact this]
theorem tS1 (P Q : C1) : oO (p2 (Au P.1) (Au Q.1)) 2 = ((gK.grp.add P Q).1,0):=by
 rw [So (g:=p2 P Q) (fun j hj => by
  match j,hj with
  | 0,_ => rfl
  | 1,_ => rfl)]
 show ((gK.grp.add (gK.grp.add gK.grp.zero P) Q).1,(0 : Int)) = _;rw [gK.grp.zadd]
theorem tM1 (P : C1) (n : Nat) : oP (fun _ => Au P.1) (fun _ => n) 1 = ((gK.grp.ns (wv n) P).1,0):=by
 rw [aGl,if_neg (fun q => q (OA P.2)),aDz]
theorem Gq (P : C2) : Up (yI P.1) = P:=Subtype.ext ((IG (yH P.2)).trans (aEr P.1))
theorem MS {ps : Nat → iX} : ∀ {N : Nat},(∀ j,j < N → (fG (ps j)).1 = 0) → gU ps N = 0
 | 0,_ => rfl
 | N + 1,h => by
  unfold gU;rw [if_neg (fun q => q (MS fun j hj => h j (by omega)))];exact h N (by omega)
theorem Sn {ps : Nat → iX} {g : Nat → C2} {N : Nat} (h : ∀ j,j < N → ps j = yI (g j).1) : oN ps N = ((aW.grp.tt g N).1,0):=by
 have hc : ∀ j,j < N → (fG (ps j)).1 = 0:=fun j hj => by rw [h j hj]; exact yH (g j).2
 unfold oN;rw [if_neg (fun q => q (MS hc))];rw [show fM F2 dR (EF (AU ps) N) = _ from UE (g:=g) fun j hj => by
  have:=RO (hc j hj);rw [show Up (ps j) = g j by rw [h j hj,Gq]] at this;exact this]
theorem tS2 (P Q : C2) : oN (p2 (yI P.1) (yI Q.1)) 2 = ((aW.grp.add P Q).1,0):=by
 rw [Sn (g:=p2 P Q) (fun j hj => by
  match j,hj with
  | 0,_ => rfl
  | 1,_ => rfl)]
 show ((aW.grp.add (aW.grp.add aW.grp.zero P) Q).1,(0 : Int)) = _;rw [aW.grp.zadd]
theorem tM2 (P : C2) (n : Nat) : kJ (fun _ => yI P.1) (fun _ => n) 1 = ((aW.grp.ns (wv n) P).1,0):=by
 rw [aGk,if_neg (fun q => q (yH P.2)),Gq]
theorem tN2 (P : C2) : uF (yI P.1) = ((aW.grp.neg P).1,0):=by
 rw [aGj,if_neg (fun q => q (yH P.2)),Gq]
theorem tC1 (P : C1) : (iL (Au P.1)).1 = 0:=OA P.2
theorem tC2 (P : C2) : (fG (yI P.1)).1 = 0:=yH P.2
open Classical
section
variable {R : Type} {K : CR R} {inv : R → R} {b : R}
structure Tw (K : CR R) (b : R) (s : R → R) (k : R) : Prop where
 add : ∀ x y,s (K.add x y) = K.add (s x) (s y)
 mul : ∀ x y,s (K.mul x y) = K.mul (s x) (s y)
 neg : ∀ x,s (K.neg x) = K.neg (s x)
 zero : s K.zero = K.zero
 ss : ∀ x,s (s x) = x
 k0 : k ≠ K.zero
 hb : K.mul (K.mul (K.mul (K.mul k k) k) (K.mul (K.mul k k) k)) (s b) = b
def tw (K : CR R) (s : R → R) (k : R) : Pt R → Pt R
 | none => none
 | some p => some (K.mul (s p.1) (K.mul k k),K.mul (s p.2) (K.mul (K.mul k k) k))
variable {s : R → R} {k : R}
theorem Tw.inj (t : Tw K b s k) {x y : R} (h : s x = s y) : x = y:=by rw [← t.ss x,h,t.ss]
theorem Tw.sub (t : Tw K b s k) (x y : R) : s (K.sub x y) = K.sub (s x) (s y):=by
 show s (K.add x (K.neg y)) = K.add (s x) (K.neg (s y));rw [t.add,t.neg]
theorem DA (E : EC K inv b) {x y c : R} (hc : c ≠ K.zero) (h : K.mul x c = K.mul y c) : x = y:=by
 have h1:=congrArg (fun z => K.mul z (inv c)) h;have h2:=E.F.inv c hc;simp only [K.mul_assoc,h2,K.mul_one] at h1;exact h1
theorem Tw.k2 (t : Tw K b s k) (E : EC K inv b) : K.mul k k ≠ K.zero:=E.F.mul_ne t.k0 t.k0
theorem Tw.k3 (t : Tw K b s k) (E : EC K inv b) : K.mul (K.mul k k) k ≠ K.zero:=E.F.mul_ne (t.k2 E) t.k0
theorem aJL (t : Tw K b s k) (E : EC K inv b) : ∀ {P : Pt R},On K b P → On K b (tw K s k P)
 | none,_ => trivial
 | some p,h => by
  have h' : K.mul p.2 p.2 = K.add (K.mul p.1 (K.mul p.1 p.1)) b:=h;have h1:=congrArg s h';rw [t.mul,t.add,t.mul,t.mul] at h1;show K.mul (K.mul (s p.2) (K.mul (K.mul k k) k)) (K.mul (s p.2) (K.mul (K.mul k k) k)) = K.add (K.mul (K.mul (s p.1) (K.mul k k)) (K.mul (K.mul (s p.1) (K.mul k k)) (K.mul (s p.1) (K.mul k k)))) b;have e1 : K.mul (K.mul (s p.2) (K.mul (K.mul k k) k)) (K.mul (s p.2) (K.mul (K.mul k k) k)) = K.mul (K.mul (K.mul (K.mul k k) k) (K.mul (K.mul k k) k)) (K.mul (s p.2) (s p.2)):=aE K (aQ K [s p.2,k]) (.mul (.mul (.v 0) (.mul (.mul (.v 1) (.v 1)) (.v 1))) (.mul (.v 0) (.mul (.mul (.v 1) (.v 1)) (.v 1)))) (.mul (.mul (.mul (.mul (.v 1) (.v 1)) (.v 1)) (.mul (.mul (.v 1) (.v 1)) (.v 1))) (.mul (.v 0) (.v 0))) (by decide);have e2 : K.mul (K.mul (s p.1) (K.mul k k)) (K.mul (K.mul (s p.1) (K.mul k k)) (K.mul (s p.1) (K.mul k k))) = K.mul (K.mul (K.mul (K.mul k k) k) (K.mul (K.mul k k) k)) (K.mul (s p.1) (K.mul (s p.1) (s p.1))):=aE K (aQ K [s p.1,k]) (.mul (.mul (.v 0) (.mul (.v 1) (.v 1))) (.mul (.mul (.v 0) (.mul (.v 1) (.v 1))) (.mul (.v 0) (.mul (.v 1) (.v 1))))) (.mul (.mul (.mul (.mul (.v 1) (.v 1)) (.v 1)) (.mul (.mul (.v 1) (.v 1)) (.v 1))) (.mul (.v 0) (.mul (.v 0) (.v 0)))) (by decide);rw [e1,e2,h1,K.mul_add,t.hb]
theorem TY (t : Tw K b s k) (E : EC K inv b) {x1 y1 x2 y2 : R} (hp : On K b (some (x1,y1))) (hq : On K b (some (x2,y2))) (h : ¬ (x1 = x2 ∧ K.add y1 y2 = K.zero)) :
  dD K inv (K.mul (s x1) (K.mul k k)) (K.mul (s y1) (K.mul (K.mul k k) k)) (K.mul (s x2) (K.mul k k)) (K.mul (s y2) (K.mul (K.mul k k) k)) = K.mul (s (dD K inv x1 y1 x2 y2)) k:=by
 by_cases hx : x1 = x2
 ·subst hx;have hy : K.add y1 y2 ≠ K.zero:=fun e => h ⟨rfl,e⟩
  have hyy : y1 = y2:=by
   apply Classical.byContradiction;intro hn;exact hy (EO E (show K.mul y1 y1 = K.mul y2 y2 from (show K.mul y1 y1 = _ from hp).trans (show K.mul y2 y2 = _ from hq).symm) hn)
  subst hyy;have hl : K.mul (dD K inv x1 y1 x1 y1) (K.add y1 y1) = K.add (K.add (K.mul x1 x1) (K.mul x1 x1)) (K.mul x1 x1):=by
   unfold dD;rw [if_pos rfl,K.mul_assoc,K.mul_comm (inv _),E.F.inv _ hy,K.mul_one]
  generalize dD K inv x1 y1 x1 y1 = l at hl ⊢;have h1:=congrArg s hl;rw [t.mul,t.add,t.add,t.add,t.mul] at h1;have hys : K.add (s y1) (s y1) ≠ K.zero:=fun e => hy (t.inj (by rw [t.add,t.zero]; exact e))
  refine yM E ?_ ?_
  ·intro e;refine hys ?_;apply DA E (t.k3 E);rw [K.add_mul,e,K.mul_comm K.zero,K.mul_zero]
  ·have e1 : K.mul (K.mul (s l) k) (K.add (K.mul (s y1) (K.mul (K.mul k k) k)) (K.mul (s y1) (K.mul (K.mul k k) k))) = K.mul (K.mul (s l) (K.add (s y1) (s y1))) (K.mul (K.mul k k) (K.mul k k)):=aE K (aQ K [s l,k,s y1]) (.mul (.mul (.v 0) (.v 1)) (.add (.mul (.v 2) (.mul (.mul (.v 1) (.v 1)) (.v 1))) (.mul (.v 2) (.mul (.mul (.v 1) (.v 1)) (.v 1))))) (.mul (.mul (.v 0) (.add (.v 2) (.v 2))) (.mul (.mul (.v 1) (.v 1)) (.mul (.v 1) (.v 1)))) (by decide);rw [e1,h1];exact aE K (aQ K [s x1,k]) (.mul (.add (.add (.mul (.v 0) (.v 0)) (.mul (.v 0) (.v 0))) (.mul (.v 0) (.v 0))) (.mul (.mul (.v 1) (.v 1)) (.mul (.v 1) (.v 1)))) (.add (.add (.mul (.mul (.v 0) (.mul (.v 1) (.v 1))) (.mul (.v 0) (.mul (.v 1) (.v 1)))) (.mul (.mul (.v 0) (.mul (.v 1) (.v 1))) (.mul (.v 0) (.mul (.v 1) (.v 1))))) (.mul (.mul (.v 0) (.mul (.v 1) (.v 1))) (.mul (.v 0) (.mul (.v 1) (.v 1))))) (by decide)
 ·have hl : K.mul (dD K inv x1 y1 x2 y2) (K.sub x2 x1) = K.sub y2 y1:=by
   unfold dD;rw [if_neg hx,K.mul_assoc,K.mul_comm (inv _),E.F.inv _ (OF fun e => hx e.symm),K.mul_one]
  generalize dD K inv x1 y1 x2 y2 = l at hl ⊢;have h1:=congrArg s hl;rw [t.mul,t.sub,t.sub] at h1;refine rO E (fun e => hx (t.inj (DA E (t.k2 E) e))) ?_;have e1 : K.mul (K.mul (s l) k) (K.sub (K.mul (s x2) (K.mul k k)) (K.mul (s x1) (K.mul k k))) = K.mul (K.mul (s l) (K.sub (s x2) (s x1))) (K.mul (K.mul k k) k):=aE K (aQ K [s l,k,s x1,s x2]) (.mul (.mul (.v 0) (.v 1)) (.add (.mul (.v 3) (.mul (.v 1) (.v 1))) (.neg (.mul (.v 2) (.mul (.v 1) (.v 1)))))) (.mul (.mul (.v 0) (.add (.v 3) (.neg (.v 2)))) (.mul (.mul (.v 1) (.v 1)) (.v 1))) (by decide);rw [e1,h1];exact aE K (aQ K [s y1,k,s y2]) (.mul (.add (.v 2) (.neg (.v 0))) (.mul (.mul (.v 1) (.v 1)) (.v 1))) (.add (.mul (.v 2) (.mul (.mul (.v 1) (.v 1)) (.v 1))) (.neg (.mul (.v 0) (.mul (.mul (.v 1) (.v 1)) (.v 1))))) (by decide)
theorem Wd (t : Tw K b s k) (E : EC K inv b) : ∀ {P Q : Pt R},On K b P → On K b Q → tw K s k (hJ K inv P Q) = hJ K inv (tw K s k P) (tw K s k Q)
 | none,_,_,_ => rfl
 | some p,none,_,_ => rfl
 | some p,some q,hp,hq => by
  by_cases h : p.1 = q.1 ∧ K.add p.2 q.2 = K.zero
  ·rw [kB h];refine (kB ⟨?_,?_⟩).symm
   ·show K.mul (s p.1) _ = K.mul (s q.1) _;rw [h.1]
   ·show K.add (K.mul (s p.2) _) (K.mul (s q.2) _) = K.zero;rw [← K.add_mul,← t.add,h.2,t.zero,K.mul_comm,K.mul_zero]
  ·rw [jC h];have h' : ¬ (K.mul (s p.1) (K.mul k k) = K.mul (s q.1) (K.mul k k) ∧ K.add (K.mul (s p.2) (K.mul (K.mul k k) k)) (K.mul (s q.2) (K.mul (K.mul k k) k)) = K.zero):=fun e => h ⟨t.inj (DA E (t.k2 E) e.1),by
    have e2:=e.2;rw [← K.add_mul,← t.add] at e2;exact t.inj (by rw [t.zero]; exact DA E (t.k3 E) (by rw [e2,K.mul_comm K.zero,K.mul_zero]))⟩
   have hS:=jC (K:=K) (inv:=inv) (p:=(K.mul (s p.1) (K.mul k k),K.mul (s p.2) (K.mul (K.mul k k) k))) (q:=(K.mul (s q.1) (K.mul k k),K.mul (s q.2) (K.mul (K.mul k k) k))) h';refine Eq.trans ?_ hS.symm;rw [TY t E (x1:=p.1) (y1:=p.2) (x2:=q.1) (y2:=q.2) hp hq h];generalize dD K inv p.1 p.2 q.1 q.2 = l;have ex : s (sx K l p.1 q.1) = K.sub (K.sub (K.mul (s l) (s l)) (s p.1)) (s q.1):=by
    unfold sx;rw [t.sub,t.sub,t.mul]
   have ey : s (sy K l p.1 p.2 q.1) = K.sub (K.mul (s l) (K.sub (s p.1) (s (sx K l p.1 q.1)))) (s p.2):=by
    unfold sy;rw [t.sub,t.mul,t.sub]
   have fx : K.mul (s (sx K l p.1 q.1)) (K.mul k k) = sx K (K.mul (s l) k) (K.mul (s p.1) (K.mul k k)) (K.mul (s q.1) (K.mul k k)):=by
    rw [ex];exact aE K (aQ K [s l,k,s p.1,s q.1]) (.mul (.add (.add (.mul (.v 0) (.v 0)) (.neg (.v 2))) (.neg (.v 3))) (.mul (.v 1) (.v 1))) (.add (.add (.mul (.mul (.v 0) (.v 1)) (.mul (.v 0) (.v 1))) (.neg (.mul (.v 2) (.mul (.v 1) (.v 1))))) (.neg (.mul (.v 3) (.mul (.v 1) (.v 1))))) (by decide)
   refine congrArg some (Prod.ext fx ?_);show K.mul (s (sy K l p.1 p.2 q.1)) (K.mul (K.mul k k) k) = sy K (K.mul (s l) k) (K.mul (s p.1) (K.mul k k)) (K.mul (s p.2) (K.mul (K.mul k k) k)) (K.mul (s q.1) (K.mul k k));rw [ey];unfold sy;rw [← fx];generalize s (sx K l p.1 q.1) = S;exact aE K (aQ K [s l,k,s p.1,S,s p.2]) (.mul (.add (.mul (.v 0) (.add (.v 2) (.neg (.v 3)))) (.neg (.v 4))) (.mul (.mul (.v 1) (.v 1)) (.v 1))) (.add (.mul (.mul (.v 0) (.v 1)) (.add (.mul (.v 2) (.mul (.v 1) (.v 1))) (.neg (.mul (.v 3) (.mul (.v 1) (.v 1)))))) (.neg (.mul (.v 4) (.mul (.mul (.v 1) (.v 1)) (.v 1))))) (by decide)
end
def kE : Q2:=(⟨8376118865763821496583973867626364092589906065868298776909617916018768340080,by decide⟩,⟨16469823323077808223889137241176536799009286646108169935659301613961712198316,by decide⟩)
theorem DE : F2.mul kE kE = iY:=of_decide_eq_true (by kernel_rfl)
theorem Fo : F2.mul (F2.mul kE kE) kE = mX:=of_decide_eq_true (by kernel_rfl)
theorem aDM (x y : Q2) : aJ (F2.add x y) = F2.add (aJ x) (aJ y):=Prod.ext rfl (aE F1 (aQ F1 [x.2,y.2]) (.neg (.add (.v 0) (.v 1))) (.add (.neg (.v 0)) (.neg (.v 1))) (by decide))
theorem RY (x y : Q2) : aJ (F2.mul x y) = F2.mul (aJ x) (aJ y):=by
 refine Prod.ext ?_ ?_
 ·exact aE F1 (aQ F1 [x.1,x.2,y.1,y.2]) (.add (.mul (.v 0) (.v 2)) (.mul (.neg .one) (.mul (.v 1) (.v 3)))) (.add (.mul (.v 0) (.v 2)) (.mul (.neg .one) (.mul (.neg (.v 1)) (.neg (.v 3))))) (by decide)
 ·exact aE F1 (aQ F1 [x.1,x.2,y.1,y.2]) (.neg (.add (.mul (.v 0) (.v 3)) (.mul (.v 1) (.v 2)))) (.add (.mul (.v 0) (.neg (.v 3))) (.mul (.neg (.v 1)) (.v 2))) (by decide)
theorem KP : Tw F2 dG aJ kE where
 add:=aDM
 mul:=RY
 neg:=fun x => rfl
 zero:=xW
 ss:=fun x => Prod.ext rfl (aE F1 (aQ F1 [x.2]) (.neg (.neg (.v 0))) (.v 0) (by decide))
 k0:=of_decide_eq_true (by kernel_rfl)
 hb:=of_decide_eq_true (by kernel_rfl)
theorem rW : ∀ P : Pt Q2,KD P = tw F2 aJ kE P
 | none => rfl
 | some p => by
  show some (F2.mul (aJ p.1) iY,F2.mul (aJ p.2) mX) = some (F2.mul (aJ p.1) (F2.mul kE kE),F2.mul (aJ p.2) (F2.mul (F2.mul kE kE) kE));rw [DE,← Fo,DE]
def pN (P : C2) : C2:=⟨KD P.1,by rw [rW]; exact aJL KP aW P.2⟩
theorem Jl (P Q : C2) : pN (aW.grp.add P Q) = aW.grp.add (pN P) (pN Q):=Subtype.ext (by
 show KD (hJ F2 dR P.1 Q.1) = hJ F2 dR (KD P.1) (KD Q.1);rw [rW,rW,rW];exact Wd KP aW P.2 Q.2)
theorem FF (P : C2) : ∀ n,pN (aW.grp.ns n P) = aW.grp.ns n (pN P)
 | 0 => rfl
 | n + 1 => by
  show pN (aW.grp.add (aW.grp.ns n P) P) = aW.grp.add (aW.grp.ns n (pN P)) (pN P);rw [Jl,FF P n]
theorem aTe (P : C2) : fR (yI P.1) = ((pN P).1,0):=by
 unfold fR;rw [if_neg (fun q => q (yH P.2)),aEr];rfl
namespace AG
variable {G : Type} (A : AG G)
theorem ns_modz {g : G} {n : Nat} (h : A.ns n g = A.zero) (m : Nat) : A.ns (m % n) g = A.ns m g:=by
 conv => rhs; rw [← Nat.div_add_mod m n,A.ns_add,A.ns_mul,h,A.ns_zero,A.zadd]
theorem ns_gcd {g : G} (a b : Nat) : A.ns a g = A.zero → A.ns b g = A.zero → A.ns (Nat.gcd a b) g = A.zero:=by
 induction a,b using Nat.gcd.induction with
 | H0 n => intro _ h; rw [Nat.gcd_zero_left]; exact h
 | H1 m n hm ih =>
  intro h1 h2;rw [Nat.gcd_rec];exact ih (by rw [A.ns_modz h1]; exact h2) h1
theorem exact {g : G} {N : Nat} {l : List Nat} (hl : l.foldr (· * ·) 1 = N) (hp : ∀ q,q ∈ l → dW q) (h0 : A.ns N g = A.zero) (hq : ∀ q,q ∈ l → A.ns (N / q) g ≠ A.zero) (k : Nat) (hk : 0 < k) (hN : k < N) : A.ns k g ≠ A.zero:=fun h => by
 have hd:=A.ns_gcd k N h h0;obtain ⟨e,he⟩:=Nat.gcd_dvd_right k N;have hdk : Nat.gcd k N ≤ k:=Nat.le_of_dvd hk (Nat.gcd_dvd_left k N);have hd0 : 0 < Nat.gcd k N:=Nat.gcd_pos_of_pos_left N hk;have he1 : 1 < e:=by
  rcases Nat.lt_or_ge 1 e with q | q
  ·exact q
  ·have : Nat.gcd k N * e ≤ Nat.gcd k N * 1:=Nat.mul_le_mul_left _ q;omega
 obtain ⟨q,hql,f,hf⟩:=wX l e (by rw [hl]; exact ⟨Nat.gcd k N,by rw [Nat.mul_comm]; exact he⟩) he1 hp;refine hq q hql ?_;have hq0 : 0 < q:=Nat.lt_trans Nat.zero_lt_one (hp q hql).1;have e1 : N / q = Nat.gcd k N * f:=by
  rw [Nat.div_eq_of_eq_mul_left hq0];rw [Nat.mul_assoc,Nat.mul_comm f q,← hf];exact he
 rw [e1,A.ns_mul,hd,A.ns_zero]
theorem ns_inj {g : G} {N : Nat} (h : ∀ k,0 < k → k < N → A.ns k g ≠ A.zero) {i j : Nat} (hi : i < N) (hj : j < N) (e : A.ns i g = A.ns j g) : i = j:=by
 have key : ∀ i j,i < j → j < N → A.ns i g = A.ns j g → False:=fun i j hij hj e => by
  refine h (j - i) (by omega) (by omega) ?_;have : A.ns j g = A.add (A.ns i g) (A.ns (j - i) g):=by rw [← A.ns_add,Nat.add_sub_cancel' (Nat.le_of_lt hij)]
  rw [this] at e;refine A.cancel (a:=A.ns i g) ?_;rw [← e,A.addz]
 rcases Nat.lt_trichotomy i j with q | q | q
 ·exact (key i j q hj e).elim
 ·exact q
 ·exact (key j i q hi e.symm).elim
theorem ns_dvd {g : G} {N : Nat} (hN : 0 < N) (h0 : A.ns N g = A.zero) (h : ∀ k,0 < k → k < N → A.ns k g ≠ A.zero) (a : Nat) : A.ns a g = A.zero ↔ N ∣ a:=by
 constructor
 ·intro e;refine Nat.dvd_of_mod_eq_zero ?_
  rcases Nat.eq_zero_or_pos (a % N) with q | q
  ·exact q
  ·exact (h (a % N) q (Nat.mod_lt _ hN) (by rw [A.ns_modz h0]; exact e)).elim
 ·rintro ⟨f,rfl⟩
  rw [A.ns_mul,h0,A.ns_zero]
theorem ns_back {g : G} {N : Nat} (h0 : A.ns N g = A.zero) {j : Nat} (hj : j ≤ N) : A.add (A.ns j g) (A.ns (N - j) g) = A.zero:=by
 rw [← A.ns_add,Nat.add_sub_cancel' hj,h0]
theorem cyclic {g : G} {N M : Nat} (hN : N % 2 = 1) (h0 : A.ns N g = A.zero) (h : ∀ k,0 < k → k < N → A.ns k g ≠ A.zero) (two : ∀ P,A.add P P = A.zero → P = A.zero)
  (code : G → Nat) (hc : ∀ P,code P < M) (hi : ∀ P Q,code P = code Q → P = Q) (hM : M < 3 * N) (P : G) : ∃ k,P = A.ns k g:=by
 apply Classical.byContradiction;intro hP;have hsub : ∀ i j,j < N → ∀ Q,A.ns i g = A.add Q (A.ns j g) → ∃ k,Q = A.ns k g:=fun i j hj Q e => by
  refine ⟨i + (N - j),?_⟩;rw [A.ns_add,e,A.assoc,A.ns_back h0 (Nat.le_of_lt hj),A.addz]
 by_cases hD : ∃ k,A.add P P = A.ns k g
 ·obtain ⟨k,hk⟩:=hD;obtain ⟨j,hj⟩ : ∃ j,A.ns (j + j) g = A.add P P:=by
   rcases Nat.mod_two_eq_zero_or_one k with q | q
   ·exact ⟨k / 2,by rw [hk,show k / 2 + k / 2 = k by omega]⟩
   ·refine ⟨(k + N) / 2,?_⟩;rw [hk,show (k + N) / 2 + (k + N) / 2 = k + N by omega,A.ns_add,h0,A.addz]
  have hz:=two (A.add P (A.neg (A.ns j g))) (by
   rw [A.add4,← hj,← A.neg_add,← A.ns_add,A.addn])
  refine hP ⟨j,?_⟩;refine A.cancel (a:=A.neg (A.ns j g)) ?_;rw [A.nadd,A.comm,hz]
 ·have pg:=aAs (3 * N) (fun i => if i < N then code (A.ns i g) else if i < 2 * N then code (A.add P (A.ns (i - N) g)) else code (A.add (A.add P P) (A.ns (i - 2 * N) g)))
   (fun i _ => by
    show (if i < N then _ else if i < 2 * N then _ else _) < 3 * N;split
    ·exact Nat.lt_trans (hc _) hM
    ·split
     ·exact Nat.lt_trans (hc _) hM
     ·exact Nat.lt_trans (hc _) hM)
   (fun i j hi3 hj3 e => by
    have e' : (if i < N then code (A.ns i g) else if i < 2 * N then code (A.add P (A.ns (i - N) g)) else code (A.add (A.add P P) (A.ns (i - 2 * N) g))) = (if j < N then code (A.ns j g) else if j < 2 * N then code (A.add P (A.ns (j - N) g)) else code (A.add (A.add P P) (A.ns (j - 2 * N) g))):=e
    by_cases i1 : i < N
    ·rw [if_pos i1] at e'
     by_cases j1 : j < N
     ·rw [if_pos j1] at e';exact A.ns_inj h i1 j1 (hi _ _ e')
     ·rw [if_neg j1] at e'
      by_cases j2 : j < 2 * N
      ·rw [if_pos j2] at e';exact (hP (hsub _ _ (by omega) _ (hi _ _ e'))).elim
      ·rw [if_neg j2] at e';exact (hD (hsub _ _ (by omega) _ (hi _ _ e'))).elim
    ·rw [if_neg i1] at e'
     by_cases i2 : i < 2 * N
     ·rw [if_pos i2] at e'
      by_cases j1 : j < N
      ·rw [if_pos j1] at e';exact (hP (hsub _ _ (by omega) _ (hi _ _ e'.symm))).elim
      ·rw [if_neg j1] at e'
       by_cases j2 : j < 2 * N
       ·rw [if_pos j2] at e';have:=A.ns_inj h (i:=i - N) (j:=j - N) (by omega) (by omega) (A.cancel (hi _ _ e'));omega
       ·rw [if_neg j2] at e';have e2:=hi _ _ e';rw [A.assoc] at e2;exact (hP (hsub _ _ (by omega) _ (A.cancel e2))).elim
     ·rw [if_neg i2] at e'
      by_cases j1 : j < N
      ·rw [if_pos j1] at e';exact (hD (hsub _ _ (by omega) _ (hi _ _ e'.symm))).elim
      ·rw [if_neg j1] at e'
       by_cases j2 : j < 2 * N
       ·rw [if_pos j2] at e';have e2:=(hi _ _ e').symm;rw [A.assoc] at e2;exact (hP (hsub _ _ (by omega) _ (A.cancel e2))).elim
       ·rw [if_neg j2] at e';have:=A.ns_inj h (i:=i - 2 * N) (j:=j - 2 * N) (by omega) (by omega) (A.cancel (hi _ _ e'));omega) M hM
  obtain ⟨i,_,hiM⟩:=pg;have : (if i < N then code (A.ns i g) else if i < 2 * N then code (A.add P (A.ns (i - N) g)) else code (A.add (A.add P P) (A.ns (i - 2 * N) g))) = M:=hiM;have hlt : (if i < N then code (A.ns i g) else if i < 2 * N then code (A.add P (A.ns (i - N) g)) else code (A.add (A.add P P) (A.ns (i - 2 * N) g))) < M:=by
   split
   ·exact hc _
   ·split
    ·exact hc _
    ·exact hc _
  omega
end AG
end Go.Proofs.YtglgakbkdjhojaaGreat.Ex
namespace Go.Proofs.YtglgakbkdjhojaaGreat
open Go.Proofs.Tryz
theorem Tc : dW 10069:=aO 10069 100 (by decide) (by decide) (by kernel_rfl)
theorem aGL : dW 181:=aO 181 13 (by decide) (by decide) (by kernel_rfl)
theorem OV : Root 5864401 38:=by
 refine bA (l:=[2,2,2,2,3,3,3,3,5,5,181]) (by kernel_rfl) fun q hq => ?_
 simp only [List.mem_cons,List.not_mem_nil,or_false] at hq
 rcases hq with rfl | rfl | rfl | rfl | rfl | rfl | rfl | rfl | rfl | rfl | rfl
 ·exact aT
 ·exact aT
 ·exact aT
 ·exact aT
 ·exact fD
 ·exact fD
 ·exact fD
 ·exact fD
 ·exact kL
 ·exact kL
 ·exact aGL
theorem WZ : dW 5864401:=OV.prm
theorem aGK : dW 199:=aO 199 14 (by decide) (by decide) (by kernel_rfl)
theorem aAf : dW 1511:=aO 1511 38 (by decide) (by decide) (by kernel_rfl)
theorem WN : Root 601379 2:=by
 refine bA (l:=[2,199,1511]) (by kernel_rfl) fun q hq => ?_
 simp only [List.mem_cons,List.not_mem_nil,or_false] at hq
 rcases hq with rfl | rfl | rfl
 ·exact aT
 ·exact aGK
 ·exact aAf
theorem Ec : dW 601379:=WN.prm
theorem yV : Root 17367825521 3:=by
 refine bA (l:=[2,2,2,2,5,19,19,601379]) (by kernel_rfl) fun q hq => ?_
 simp only [List.mem_cons,List.not_mem_nil,or_false] at hq
 rcases hq with rfl | rfl | rfl | rfl | rfl | rfl | rfl | rfl
 ·exact aT
 ·exact aT
 ·exact aT
 ·exact aT
 ·exact kL
 ·exact zA
 ·exact zA
 ·exact Ec
theorem CD : dW 17367825521:=yV.prm
theorem uW : Root 1875725156269 2:=by
 refine bA (l:=[2,2,3,3,3,17367825521]) (by kernel_rfl) fun q hq => ?_
 simp only [List.mem_cons,List.not_mem_nil,or_false] at hq
 rcases hq with rfl | rfl | rfl | rfl | rfl | rfl
 ·exact aT
 ·exact aT
 ·exact fD
 ·exact fD
 ·exact fD
 ·exact CD
theorem wZ : dW 1875725156269:=uW.prm
theorem aNr : dW 59:=aO 59 7 (by decide) (by decide) (by kernel_rfl)
theorem aNs : dW 43:=aO 43 6 (by decide) (by decide) (by kernel_rfl)
theorem aAd : dW 23:=aO 23 4 (by decide) (by decide) (by kernel_rfl)
theorem aGD : dW 727:=aO 727 26 (by decide) (by decide) (by kernel_rfl)
theorem WR : Root 133769 3:=by
 refine bA (l:=[2,2,2,23,727]) (by kernel_rfl) fun q hq => ?_
 simp only [List.mem_cons,List.not_mem_nil,or_false] at hq
 rcases hq with rfl | rfl | rfl | rfl | rfl
 ·exact aT
 ·exact aT
 ·exact aT
 ·exact aAd
 ·exact aGD
theorem Eg : dW 133769:=WR.prm
theorem aNq : dW 61:=aO 61 7 (by decide) (by decide) (by kernel_rfl)
theorem aGN : dW 149:=aO 149 12 (by decide) (by decide) (by kernel_rfl)
theorem OX : Root 5835139 3:=by
 refine bA (l:=[2,3,61,107,149]) (by kernel_rfl) fun q hq => ?_
 simp only [List.mem_cons,List.not_mem_nil,or_false] at hq
 rcases hq with rfl | rfl | rfl | rfl | rfl
 ·exact aT
 ·exact fD
 ·exact aNq
 ·exact Jn
 ·exact aGN
theorem XA : dW 5835139:=OX.prm
theorem EW : Root 758568071 14:=by
 refine bA (l:=[2,5,13,5835139]) (by kernel_rfl) fun q hq => ?_
 simp only [List.mem_cons,List.not_mem_nil,or_false] at hq
 rcases hq with rfl | rfl | rfl | rfl
 ·exact aT
 ·exact kL
 ·exact PH
 ·exact XA
theorem KE : dW 758568071:=EW.prm
theorem nV : Root 1309000310535827101 2:=by
 refine bA (l:=[2,2,3,5,5,43,133769,758568071]) (by kernel_rfl) fun q hq => ?_
 simp only [List.mem_cons,List.not_mem_nil,or_false] at hq
 rcases hq with rfl | rfl | rfl | rfl | rfl | rfl | rfl | rfl
 ·exact aT
 ·exact aT
 ·exact fD
 ·exact kL
 ·exact kL
 ·exact aNs
 ·exact Eg
 ·exact KE
theorem oS : dW 1309000310535827101:=nV.prm
theorem aGM : dW 157:=aO 157 12 (by decide) (by decide) (by kernel_rfl)
theorem PC : Root 1233079 11:=by
 refine bA (l:=[2,3,7,11,17,157]) (by kernel_rfl) fun q hq => ?_
 simp only [List.mem_cons,List.not_mem_nil,or_false] at hq
 rcases hq with rfl | rfl | rfl | rfl | rfl | rfl
 ·exact aT
 ·exact fD
 ·exact FH
 ·exact PI
 ·exact aAe
 ·exact aGM
theorem XG : dW 1233079:=PC.prm
theorem aAh : dW 1031:=aO 1031 32 (by decide) (by decide) (by kernel_rfl)
theorem Sz : dW 77339:=aO 77339 278 (by decide) (by decide) (by kernel_rfl)
theorem aAb : dW 3359:=aO 3359 57 (by decide) (by decide) (by kernel_rfl)
theorem WP : Root 268721 3:=by
 refine bA (l:=[2,2,2,2,5,3359]) (by kernel_rfl) fun q hq => ?_
 simp only [List.mem_cons,List.not_mem_nil,or_false] at hq
 rcases hq with rfl | rfl | rfl | rfl | rfl | rfl
 ·exact aT
 ·exact aT
 ·exact aT
 ·exact aT
 ·exact kL
 ·exact aAb
theorem Ee : dW 268721:=WP.prm
theorem PA : Root 1612327 5:=by
 refine bA (l:=[2,3,268721]) (by kernel_rfl) fun q hq => ?_
 simp only [List.mem_cons,List.not_mem_nil,or_false] at hq
 rcases hq with rfl | rfl | rfl
 ·exact aT
 ·exact fD
 ·exact Ee
theorem XE : dW 1612327:=PA.prm
theorem rV : Root 677736056450657 3:=by
 refine bA (l:=[2,2,2,2,2,7,23,83,983,1612327]) (by kernel_rfl) fun q hq => ?_
 simp only [List.mem_cons,List.not_mem_nil,or_false] at hq
 rcases hq with rfl | rfl | rfl | rfl | rfl | rfl | rfl | rfl | rfl | rfl
 ·exact aT
 ·exact aT
 ·exact aT
 ·exact aT
 ·exact aT
 ·exact FH
 ·exact aAd
 ·exact Zx
 ·exact PG
 ·exact XE
theorem tX : dW 677736056450657:=rV.prm
theorem mL : Root 209661715479349446893 2:=by
 refine bA (l:=[2,2,77339,677736056450657]) (by kernel_rfl) fun q hq => ?_
 simp only [List.mem_cons,List.not_mem_nil,or_false] at hq
 rcases hq with rfl | rfl | rfl | rfl
 ·exact aT
 ·exact aT
 ·exact Sz
 ·exact tX
theorem nH : dW 209661715479349446893:=mL.prm
theorem jT : Root 3458579658547348475946929 3:=by
 refine bA (l:=[2,2,2,2,1031,209661715479349446893]) (by kernel_rfl) fun q hq => ?_
 simp only [List.mem_cons,List.not_mem_nil,or_false] at hq
 rcases hq with rfl | rfl | rfl | rfl | rfl | rfl
 ·exact aT
 ·exact aT
 ·exact aT
 ·exact aT
 ·exact aAh
 ·exact nH
theorem kM : dW 3458579658547348475946929:=jT.prm
theorem gA : Root 213235097339095295568608163219551 31:=by
 refine bA (l:=[2,5,5,1233079,3458579658547348475946929]) (by kernel_rfl) fun q hq => ?_
 simp only [List.mem_cons,List.not_mem_nil,or_false] at hq
 rcases hq with rfl | rfl | rfl | rfl | rfl
 ·exact aT
 ·exact kL
 ·exact kL
 ·exact XG
 ·exact kM
theorem gI : dW 213235097339095295568608163219551:=gA.prm
theorem cW : Root 197620364512881247228717050342013327560683201906968909 2:=by
 refine bA (l:=[2,2,3,59,1309000310535827101,213235097339095295568608163219551]) (by kernel_rfl) fun q hq => ?_
 simp only [List.mem_cons,List.not_mem_nil,or_false] at hq
 rcases hq with rfl | rfl | rfl | rfl | rfl | rfl
 ·exact aT
 ·exact aT
 ·exact fD
 ·exact aNr
 ·exact oS
 ·exact gI
theorem cZ : dW 197620364512881247228717050342013327560683201906968909:=cW.prm
end Go.Proofs.YtglgakbkdjhojaaGreat
namespace Go.Proofs.YtglgakbkdjhojaaGreat.Ex
open Go.Proofs.Tryz
open Go.RowKit
def UB : Q2:=(⟨2,by decide⟩,⟨1,by decide⟩)
def As : Q2:=(⟨7292567877523311580221095596750716176434782432868683424513645834767876293070,by decide⟩,⟨19659275751359636165940301690575149581329631496732780143538578556285923319774,by decide⟩)
def JJ : Nat:=479095176016622842441988045216678740799252316531100822436447802254070093686356349204969212544220033486413271283566945264650845755880805213916963058350733
def twM : Nat:=287457105609973705413735949925891179998572849537316190965553840838426151215824331271088064391342496698406609565003789524066463657087527623491112425449299
theorem Wc : On F2 dG (some (UB,As)):=by
 show F2.mul As As = F2.add (F2.mul UB (F2.mul UB UB)) dG;exact of_decide_eq_true (by kernel_rfl)
def TL : C2:=⟨some (UB,As),Wc⟩
theorem Bb : Rp aW (UB,As,F2.one) TL:=aW.jto_one _ _
theorem aWO : (TN F2 (UB,As,F2.one) JJ 508 508).2.2 = F2.zero:=of_decide_eq_true (by kernel_rfl)
theorem aMb : (TN F2 (UB,As,F2.one) 21888242871839275222246405745257275088844257914179612981679871602714643921549 508 508).2.2 ≠ F2.zero:=of_decide_eq_true (by kernel_rfl)
theorem aMa : (TN F2 (UB,As,F2.one) 47581207271489010074683488451353534690560365133687637544587129035065060451520145913692443394996527310200940637954806362563397135354136976255533127257 508 508).2.2 ≠ F2.zero:=of_decide_eq_true (by kernel_rfl)
theorem aLZ : (TN F2 (UB,As,F2.one) 81695500702735512534355690413510048306596413944254634435204516583035521221409714172848891565263022342164744751180375500353888786916311693882625533 508 508).2.2 ≠ F2.zero:=of_decide_eq_true (by kernel_rfl)
theorem aLY : (TN F2 (UB,As,F2.one) 255418644045692602095536823547820102522999221828645151339294751423486163211343406059815000057572293107810899582329754326227174532880069378657 508 508).2.2 ≠ F2.zero:=of_decide_eq_true (by kernel_rfl)
theorem aLX : (TN F2 (UB,As,F2.one) 2424320880075062131686333725919013315836351602446602932909956992302697742401182419325566481532687937 508 508).2.2 ≠ F2.zero:=of_decide_eq_true (by kernel_rfl)
theorem aMe : JJ < 2 ^ 508:=of_decide_eq_true (by kernel_rfl)
theorem aMf : twM < 2 ^ 508:=of_decide_eq_true (by kernel_rfl)
theorem NS : aW.grp.ns JJ TL = aW.grp.zero:=Subtype.ext ((DL Bb JJ 508 aMe).symm.trans (dE aWO))
theorem TZ {n : Nat} (hn : n < 2 ^ 508) (h : (TN F2 (UB,As,F2.one) n 508 508).2.2 ≠ F2.zero) : aW.grp.ns n TL ≠ aW.grp.zero:=fun e => by
 have h1 : fM F2 dR (TN F2 (UB,As,F2.one) n 508 508) = (aW.grp.ns n TL).1:=DL Bb n 508 hn;rw [e,dQ h] at h1;cases h1
def twL : List Nat:=[21888242871839275222246405745257275088548364400416034343698204186575808495617,10069,5864401,1875725156269,197620364512881247228717050342013327560683201906968909]
theorem We : twL.foldr (· * ·) 1 = JJ:=by kernel_rfl
theorem aFd : ∀ q,q ∈ twL → dW q:=fun q hq => by
 simp only [twL,List.mem_cons,List.not_mem_nil,or_false] at hq
 rcases hq with rfl | rfl | rfl | rfl | rfl
 ·exact aJU
 ·exact Tc
 ·exact WZ
 ·exact wZ
 ·exact cZ
theorem aMh : ∀ q,q ∈ twL → aW.grp.ns (JJ / q) TL ≠ aW.grp.zero:=fun q hq => by
 simp only [twL,List.mem_cons,List.not_mem_nil,or_false] at hq
 rcases hq with rfl | rfl | rfl | rfl | rfl
 ·rw [show JJ / 21888242871839275222246405745257275088548364400416034343698204186575808495617 = 21888242871839275222246405745257275088844257914179612981679871602714643921549 by kernel_rfl]; exact TZ (of_decide_eq_true (by kernel_rfl)) aMb
 ·rw [show JJ / 10069 = 47581207271489010074683488451353534690560365133687637544587129035065060451520145913692443394996527310200940637954806362563397135354136976255533127257 by kernel_rfl]; exact TZ (of_decide_eq_true (by kernel_rfl)) aMa
 ·rw [show JJ / 5864401 = 81695500702735512534355690413510048306596413944254634435204516583035521221409714172848891565263022342164744751180375500353888786916311693882625533 by kernel_rfl]; exact TZ (of_decide_eq_true (by kernel_rfl)) aLZ
 ·rw [show JJ / 1875725156269 = 255418644045692602095536823547820102522999221828645151339294751423486163211343406059815000057572293107810899582329754326227174532880069378657 by kernel_rfl]; exact TZ (of_decide_eq_true (by kernel_rfl)) aLY
 ·rw [show JJ / 197620364512881247228717050342013327560683201906968909 = 2424320880075062131686333725919013315836351602446602932909956992302697742401182419325566481532687937 by kernel_rfl]; exact TZ (of_decide_eq_true (by kernel_rfl)) aLX
theorem EE : ∀ k,0 < k → k < JJ → aW.grp.ns k TL ≠ aW.grp.zero:=aW.grp.exact We aFd NS aMh
theorem aLU (P : C2) (h : aW.grp.add P P = aW.grp.zero) : P = aW.grp.zero:=by
 have h1 : aW.grp.neg P = P:=by
  refine aW.grp.cancel (a:=P) ?_;rw [aW.grp.addn,h]
 obtain ⟨P,hP⟩:=P;cases P with
 | none => rfl
 | some p =>
  have h2 : some (p.1,F2.neg p.2) = some p:=congrArg Subtype.val h1;have h3 : F2.neg p.2 = p.2:=by injection h2 with h2; exact congrArg Prod.snd h2
  have h4 : F2.add p.2 p.2 = F2.zero:=by
   conv => lhs; lhs; rw [← h3]
   exact F2.neg_add _
  exact (aW.dbl_ne (aW.y_ne (x:=p.1) hP) h4).elim
open Classical in
def lQ (x : Q2) : Q2:=if h : ∃ y,On F2 dG (some (x,y)) then h.choose else F2.zero
open Classical in
def yF (P : C2) : Nat:=match P.1 with
 | none => 2 * (FP.M * FP.M)
 | some p => 2 * (p.1.1.1 + FP.M * p.1.2.1) + (if p.2 = lQ p.1 then 0 else 1)
theorem Fv {a b M : Nat} (ha : a < M) (hb : b < M) : a + M * b < M * M:=by
 have : M * (b + 1) ≤ M * M:=Nat.mul_le_mul_left _ hb;rw [Nat.mul_add,Nat.mul_one] at this;omega
theorem Om (P : C2) : yF P < 2 * (FP.M * FP.M) + 1:=by
 obtain ⟨P,hP⟩:=P;unfold yF;cases P with
 | none => exact Nat.lt_succ_self _
 | some p =>
  have:=Fv p.1.1.2 p.1.2.2;show 2 * (p.1.1.1 + FP.M * p.1.2.1) + (if p.2 = lQ p.1 then 0 else 1) < _;split <;> omega
theorem aIa {a b c d M : Nat} (ha : a < M) (hc : c < M) (h : a + M * b = c + M * d) : a = c ∧ b = d:=by
 have h1:=congrArg (· % M) h;simp only [Nat.add_mul_mod_self_left,Nat.mod_eq_of_lt ha,Nat.mod_eq_of_lt hc] at h1;refine ⟨h1,?_⟩;rw [h1] at h;have hM : 0 < M:=by omega
 exact Nat.eq_of_mul_eq_mul_left hM (by omega)
theorem Bc (P Q : C2) (h : yF P = yF Q) : P = Q:=by
 obtain ⟨P,hP⟩:=P;obtain ⟨Q,hQ⟩:=Q;refine Subtype.ext ?_;show P = Q;unfold yF at h;cases P with
 | none =>
  cases Q with
  | none => rfl
  | some q =>
   have:=Fv q.1.1.2 q.1.2.2;have h' : 2 * (FP.M * FP.M) = 2 * (q.1.1.1 + FP.M * q.1.2.1) + (if q.2 = lQ q.1 then 0 else 1):=h;split at h' <;> omega
 | some p =>
  cases Q with
  | none =>
   have:=Fv p.1.1.2 p.1.2.2;have h' : 2 * (p.1.1.1 + FP.M * p.1.2.1) + (if p.2 = lQ p.1 then 0 else 1) = 2 * (FP.M * FP.M):=h;split at h' <;> omega
  | some q =>
   have h' : 2 * (p.1.1.1 + FP.M * p.1.2.1) + (if p.2 = lQ p.1 then 0 else 1) = 2 * (q.1.1.1 + FP.M * q.1.2.1) + (if q.2 = lQ q.1 then 0 else 1):=h;have hx : p.1.1.1 + FP.M * p.1.2.1 = q.1.1.1 + FP.M * q.1.2.1 ∧ ((p.2 = lQ p.1) ↔ (q.2 = lQ q.1)):=by
    by_cases a : p.2 = lQ p.1
    ·rw [if_pos a] at h'
     by_cases b : q.2 = lQ q.1
     ·rw [if_pos b] at h'; exact ⟨by omega,fun _ => b,fun _ => a⟩
     ·rw [if_neg b] at h'; omega
    ·rw [if_neg a] at h'
     by_cases b : q.2 = lQ q.1
     ·rw [if_pos b] at h'; omega
     ·rw [if_neg b] at h'; exact ⟨by omega,fun h => (a h).elim,fun h => (b h).elim⟩
   obtain ⟨e1,e2⟩:=aIa p.1.1.2 q.1.1.2 hx.1;have ex : p.1 = q.1:=Prod.ext (Fin.ext e1) (Fin.ext e2);obtain ⟨px,py⟩:=p;obtain ⟨qx,qy⟩:=q;have ex' : px = qx:=ex;subst ex';have hb : (py = lQ px) ↔ (qy = lQ px):=hx.2;refine congrArg (fun y => some (px,y)) ?_
   by_cases a : py = lQ px
   ·rw [a,← hb.1 a]
   ·have b : qy ≠ lQ px:=fun h => a (hb.2 h)
    have hy0 : On F2 dG (some (px,lQ px)):=by
     have hex : ∃ y,On F2 dG (some (px,y)):=⟨py,hP⟩
     unfold lQ;rw [dif_pos hex];exact hex.choose_spec
    have s1 : F2.add py (lQ px) = F2.zero:=EO aW ((show F2.mul py py = _ from hP).trans (show F2.mul (lQ px) (lQ px) = _ from hy0).symm) a;have s2 : F2.add qy (lQ px) = F2.zero:=EO aW ((show F2.mul qy qy = _ from hQ).trans (show F2.mul (lQ px) (lQ px) = _ from hy0).symm) b;refine F2.add_cancel (a:=lQ px) ?_;rw [F2.add_comm,s1,F2.add_comm,s2]
theorem aMc : 2 * (FP.M * FP.M) + 1 < 3 * JJ:=of_decide_eq_true (by kernel_rfl)
theorem aLW : JJ % 2 = 1:=by kernel_rfl
theorem aMd (P : C2) : ∃ k,P = aW.grp.ns k TL:=aW.grp.cyclic aLW NS EE aLU yF Om Bc aMc P
def aWR : Q2:=F2.mul (aJ UB) iY
def aWQ : Q2:=F2.mul (aJ As) mX
def twJ : J2:=TN F2 (UB,As,F2.one) twM 508 508
theorem aWU : twJ.2.2 ≠ F2.zero:=of_decide_eq_true (by kernel_rfl)
theorem aWW : twJ.1 = F2.mul aWR (F2.mul twJ.2.2 twJ.2.2):=of_decide_eq_true (by kernel_rfl)
theorem aWV : twJ.2.1 = F2.mul aWQ (F2.mul (F2.mul twJ.2.2 twJ.2.2) twJ.2.2):=of_decide_eq_true (by kernel_rfl)
theorem aMx : Rp aW twJ (aW.grp.ns twM TL):=DL Bb twM 508 aMf
theorem aLV : pN TL = aW.grp.ns twM TL:=by
 refine Subtype.ext ?_;rw [← show fM F2 dR twJ = (aW.grp.ns twM TL).1 from aMx,aBW aW aWU aWW aWV];show KD (some (UB,As)) = _
 kernel_rfl
def twC : Nat:=287457105609973705413735949925891179998572849537316190965553840838426151215824331271088064391342496698406609565003641577309581867768536789783043007736333
def twU : Nat:=4377648574367855045624726741130453375770005524880588749457117171343633558474
def twW : Nat:=2626589144620713026904657807846672682105704487528335372401875091607964744325
theorem aMi : twM = cG + twC:=by kernel_rfl
theorem aFe : twC = oI * 13132945723103565130996952262996368337156300107536646163745009583754801998349:=by kernel_rfl
theorem aSX : twC * twU = oI + JJ * twW:=by kernel_rfl
theorem Wb : 0 < JJ:=of_decide_eq_true (by kernel_rfl)
theorem Fu (P : C2) : aW.grp.ns cG P = pN P ↔ aW.grp.ns oI P = aW.grp.zero:=by
 obtain ⟨k,rfl⟩:=aMd P;have e1 : pN (aW.grp.ns k TL) = aW.grp.add (aW.grp.ns cG (aW.grp.ns k TL)) (aW.grp.ns (k * twC) TL):=by
  rw [FF,aLV,← aW.grp.ns_mul,← aW.grp.ns_mul,← aW.grp.ns_add,aMi,Nat.add_mul,Nat.mul_comm cG,Nat.mul_comm twC]
 have e2 : aW.grp.ns cG (aW.grp.ns k TL) = pN (aW.grp.ns k TL) ↔ aW.grp.ns (k * twC) TL = aW.grp.zero:=by
  rw [e1];constructor
  ·intro h;refine aW.grp.cancel (a:=aW.grp.ns cG (aW.grp.ns k TL)) ?_;rw [← h,aW.grp.addz]
  ·intro h;rw [h,aW.grp.addz]
 rw [e2,← aW.grp.ns_mul,aW.grp.ns_dvd Wb NS EE,aW.grp.ns_dvd Wb NS EE];constructor
 ·rintro ⟨f,hf⟩
  have h1 : k * oI + JJ * (k * twW) = JJ * (f * twU):=by
   have h2 : k * (twC * twU) = JJ * (f * twU):=by rw [← Nat.mul_assoc,hf,Nat.mul_assoc]
   rw [aSX,Nat.mul_add,Nat.mul_left_comm k JJ] at h2;exact h2
  have h3 : JJ ∣ k * oI + JJ * (k * twW):=⟨_,h1⟩;exact (Nat.dvd_add_left ⟨_,rfl⟩).1 h3
 ·rintro ⟨f,hf⟩
  rw [aFe,← Nat.mul_assoc,hf];exact ⟨f * 13132945723103565130996952262996368337156300107536646163745009583754801998349,Nat.mul_assoc _ _ _⟩
end Go.Proofs.YtglgakbkdjhojaaGreat.Ex
