/- Ps12 -/
import Derived.Deep.DeepCutAuto
import Derived.LoopTactic
import Derived.Deep.LoopGhost
import Derived.RegionTactic
import Derived.Deep.RegionWith
import Derived.StillTail
import Derived.KernelRfl
import Derived.Test.YtglgakbkdjhojaaGreatPs11
import Derived.Test.YtglgakbkdjhojaaGreatPs02
import Derived.Test.YtglgakbkdjhojaaGreatPs07
import Derived.Test.YtglgakbkdjhojaaGreatPs05
import Derived.Test.YtglgakbkdjhojaaGreatPs08
import Derived.Test.YtglgakbkdjhojaaGreatPs06
import Derived.Test.YtglgakbkdjhojaaGreatPs04
import Derived.Test.YtglgakbkdjhojaaGreatProg
set_option maxRecDepth 100000
set_option linter.unusedVariables false
set_option linter.unusedSimpArgs false
noncomputable section
namespace Go.Proofs.YtglgakbkdjhojaaGreat.Ex
open Go.Proofs.Tryz
theorem PtOk.ad {P : Program} {T : Tab5} (hT : PtOk P T) {f : Nat} {fn : Func} (hf : P.funcs[f]? = some fn) {g : List CA → Option (List Prop × Nat × RV × List At)}
  (h : ∀ cs pre j r l,g cs = some (pre,j,r,l) → aZ pre → ∀ (args : List Value) (w : World),bR w cs args → ∀ b o,args[j]? = some (.pointer (some ⟨b,o,none⟩)) → (∀ q,w.frozen? ⟨b,q,none⟩ = false) →
   Calls P f args.toArray w (fun e w' => e = .returned r.den ∧ WrC w w' b ∧ w'.rangeAt b 0 (aA l))) (hn : (fn.name == "runtime.NumGoroutine") = false:=by kernel_rfl) (hb : fn.body.isNone = false:=by kernel_rfl) : PtOk P (T.add f g):=hT.add hf hn hb h
theorem Cyc.neg {G V : Type} {A : AG G} {B : AG V} {c : G → G → V} (C : Cyc A B c) (g h : G) : c (A.neg g) (A.neg h) = B.neg (c g h):=by
 have e:=congrArg Prod.snd ((lX C).neg_add (eB B g) (eB B h));have e : B.neg (B.add (B.add B.zero B.zero) (c g h)) = B.add (B.add (B.neg B.zero) (B.neg B.zero)) (c (A.neg g) (A.neg h)):=e;rw [B.zadd,B.zadd,B.negz,B.zadd,B.zadd] at e;exact e.symm
theorem FV : cQ aD.one = aD.one:=by decide
theorem aAK {a : aM} (h : a ≠ aD.zero) : cQ a ≠ aD.zero:=fun e => by
 have t:=congrArg cQ (jG h);rw [mV,e,aD.zero_mul,FV] at t;exact jO.1 t.symm
theorem aUN {a : aM} (h : a ≠ aD.zero) : jW (cQ a) = cQ (jW a):=QO (aAK h) (by rw [← mV,jG h,FV])
theorem Zt (x : aM) (m n : Nat) : bN aD (bN aD x m) n = bN aD (bN aD x n) m:=by rw [← dU,← dU,Nat.mul_comm]
theorem aVS (a : aM) : bZ (cQ a) = cQ (bZ a):=by rw [IM,IM,nP,nP,Zt]
theorem aFc (a : aM) : cJ (cQ a) = cQ (cJ a):=by rw [wC,wC,nP,nP,Zt]
theorem aUY (a : aM) : hX (cQ a) = cQ (hX a):=by rw [GY,GY,nP,nP,Zt]
theorem aOW {a : aM} (h : a ≠ aD.zero) : kD (cQ a) = cQ (kD a):=by
 unfold kD eZ;rw [aUN h,aVS,← mV,aFc,← mV,aUY]
def fv (v : Vq) : Vq:=⟨cQ v.1,aAK v.2⟩
theorem GZ (v : Vq) : (fv v).1 = cQ v.1:=rfl
theorem aKZ {z : aM} (h : z ≠ aD.zero) : fv (lv z) = lv (cQ z):=Subtype.ext (by rw [GZ,cT h,cT (aAK h),aOW h])
theorem nU : fv vg.zero = vg.zero:=Subtype.ext (by rw [GZ,DZ,FV])
theorem aJK (v : Vq) : ∀ n,(vg.ns n v).1 = bN aD v.1 n
 | 0 => rfl
 | n + 1 => by
  show (vg.add (vg.ns n v) v).1 = aD.mul (bN aD v.1 n) v.1;rw [lC,aJK v n]
def sN : Nat:=yO + 2
def mN : Nat:=(sN + FP.M + FP.M * FP.M * FP.M - FP.M * FP.M) / Go.Proofs.YtglgakbkdjhojaaGreat.FR.M
theorem aTt : sN + FP.M + FP.M * FP.M * FP.M = FP.M * FP.M + Go.Proofs.YtglgakbkdjhojaaGreat.FR.M * mN:=by kernel_rfl
theorem aEY {x : aM} (h : bN aD x Go.Proofs.YtglgakbkdjhojaaGreat.FR.M = aD.one) : aD.mul (aD.mul (bN aD x sN) (cQ x)) (cQ (cQ (cQ x))) = cQ (cQ x):=by
 have e2 : cQ (cQ x) = bN aD x (FP.M * FP.M):=by rw [nP,nP,← dU]
 have e3 : cQ (cQ (cQ x)) = bN aD x (FP.M * FP.M * FP.M):=by rw [e2,nP,← dU]
 rw [e3,e2,nP x,← cI,← cI,aTt,cI,dU aD x Go.Proofs.YtglgakbkdjhojaaGreat.FR.M,h,nN,aD.mul_comm,aD.one_mul]
def rOf (v : Vq) : Prop:=bN aD v.1 Go.Proofs.YtglgakbkdjhojaaGreat.FR.M = aD.one
theorem aCO {v : Vq} (h : rOf v) : vg.add (vg.add (vg.ns sN v) (fv v)) (fv (fv (fv v))) = fv (fv v):=Subtype.ext (by
 rw [lC,lC,aJK,GZ,GZ,GZ];exact aEY h)
theorem oQ : rOf vg.zero:=by
 unfold rOf;rw [DZ,nN]
theorem Zo (z : aM) : rOf (lv z):=by
 by_cases h : z = aD.zero
 ·unfold lv;rw [dif_pos h];exact oQ
 ·unfold rOf;rw [cT h];exact aYw (aLc (aKE h))
def Ay : Pt Fq → Pt Q2 → Pt Q2 → Vq
 | none,_,_ => vg.zero
 | some a,t,t' => cv a t t'
theorem nC (t t' : Pt Q2) : Ay none t t' = vg.zero:=rfl
theorem iQ (a : Fq × Fq) (t t' : Pt Q2) : Ay (some a) t t' = cv a t t':=rfl
def CV (P : C1) (T T' : C2) : Vq:=Ay P.1 T.1 T'.1
theorem aYP : Cyc aW.grp vg (fun T T' => Ay none T.1 T'.1) where
 coc T T' T'':=by rw [nC,nC,nC,nC]
 comm T T':=by rw [nC,nC]
 zl T:=by rw [nC]
 opp T:=by rw [nC]
theorem aYO {a : Fq × Fq} (h : On F1 (fm 3) (some a)) : Cyc aW.grp vg (fun T T' => Ay (some a) T.1 T'.1) where
 coc T T' T'':=by
  rw [iQ,iQ,iQ,iQ,mY,mY];exact aQD h T.2 T'.2 T''.2
 comm T T':=by
  rw [iQ,iQ];exact Nc h T.2 T'.2
 zl T:=by
  rw [iQ,show (aW.grp.zero : C2).1 = none from rfl];exact Aa h T.1
 opp T:=by
  rw [iQ,show (aW.grp.neg T).1 = KY F2 T.1 from rfl];exact aQC h T.1
theorem aYN : ∀ {p : Pt Fq},On F1 (fm 3) p → Cyc aW.grp vg (fun T T' => Ay p T.1 T'.1)
 | none,_ => aYP
 | some a,h => aYO h
theorem aDv {a : Fq × Fq} (h : On F1 (fm 3) (some a)) {q : Pt Q2} (hq : On F2 dG q) : cv a q none = vg.zero:=by
 rw [Nc h hq (show On F2 dG none from trivial),Aa h]
theorem aDw {a : Fq × Fq} (h : On F1 (fm 3) (some a)) {t t' : Q2 × Q2} (hn : t.1 = t'.1 ∧ F2.add t.2 t'.2 = F2.zero) : cv a (some t) (some t') = vg.zero:=zN (Fm h hn)
theorem aLi (a : Fq) : aJ (i2 a) = i2 a:=Prod.ext rfl (bI F1)
theorem aLh (a : Q2) : aJ (F2.neg a) = F2.neg (aJ a):=rfl
theorem Ms : Gh = F2.one:=by decide
theorem aVr : ID = kE:=by decide
theorem aVp : BM = iY:=by decide
theorem aLb : Mr = mX:=by decide
theorem aUj (m d : Q2) (a b : Fq) : cQ (lT m d a b) = lT (F2.mul (aJ m) ID) (F2.mul (aJ d) Mr) a b:=by
 show ((F2.mul (aJ (i2 b)) Gh,F2.mul (aJ F2.zero) BM,F2.mul (aJ F2.zero) Mq),(F2.mul (aJ (F2.neg (F2.mul m (i2 a)))) ID,F2.mul (aJ (F2.neg d)) Mr,F2.mul (aJ F2.zero) fb5)) = lT _ _ _ _;have e : F2.mul (F2.mul (aJ m) (i2 a)) ID = F2.mul (F2.mul (aJ m) ID) (i2 a):=by rw [F2.mul_assoc,F2.mul_comm (i2 a),← F2.mul_assoc]
 simp only [xW,F2.zero_mul,aLi,Ms,F2.mul_one,aLh,RY,F2.neg_mul,e];rfl
theorem aUk (n c : Fq) (x y : Q2) : cQ (lP n c x y) = lP n c (F2.mul (aJ x) BM) (F2.mul (aJ y) Mr):=by
 show ((F2.mul (aJ (F2.neg (i2 c))) Gh,F2.mul (aJ (F2.neg (F2.mul (i2 n) x))) BM,F2.mul (aJ F2.zero) Mq),(F2.mul (aJ F2.zero) ID,F2.mul (aJ y) Mr,F2.mul (aJ F2.zero) fb5)) = lP _ _ _ _;simp only [xW,F2.zero_mul,aLi,Ms,F2.mul_one,aLh,RY,F2.neg_mul,F2.mul_assoc];rfl
theorem AR (p : Q2 × Q2) : KD (some p) = some (F2.mul (aJ p.1) iY,F2.mul (aJ p.2) mX):=rfl
theorem aNm {t : Pt Q2} (h : On F2 dG t) : On F2 dG (KD t):=by rw [rW]; exact aJL KP aW h
theorem aGy {t t' : Pt Q2} (h : On F2 dG t) (h' : On F2 dG t') : KD (hJ F2 dR t t') = hJ F2 dR (KD t) (KD t'):=by
 rw [rW,rW,rW];exact Wd KP aW h h'
theorem aPu {R : Type} (K : CR R) (Y M X k : R) : K.sub (K.mul Y (K.mul (K.mul k k) k)) (K.mul (K.mul M k) (K.mul X (K.mul k k))) = K.mul (K.sub Y (K.mul M X)) (K.mul (K.mul k k) k) :=
 aE K (aQ K [Y,M,X,k]) (.add (.mul (.v 0) (.mul (.mul (.v 3) (.v 3)) (.v 3))) (.neg (.mul (.mul (.v 1) (.v 3)) (.mul (.v 2) (.mul (.v 3) (.v 3)))))) (.mul (.add (.v 0) (.neg (.mul (.v 1) (.v 2)))) (.mul (.mul (.v 3) (.v 3)) (.v 3))) (by kernel_rfl)
theorem aPt (m : Q2) (t : Q2 × Q2) : hgt F2 (F2.mul (aJ m) kE) (F2.mul (aJ t.1) iY,F2.mul (aJ t.2) mX) = F2.mul (aJ (hgt F2 m t)) mX:=by
 have e : aJ (hgt F2 m t) = F2.sub (aJ t.2) (F2.mul (aJ m) (aJ t.1)):=by
  unfold hgt;rw [KP.sub,RY]
 rw [e,← Fo,← DE];exact aPu F2 (aJ t.2) (aJ m) (aJ t.1) kE
theorem aPb {t t' : Q2 × Q2} (ht : On F2 dG (some t)) (ht' : On F2 dG (some t')) (hn : ¬ (t.1 = t'.1 ∧ F2.add t.2 t'.2 = F2.zero)) (a : Fq × Fq) :
  lnT (F2.mul (aJ t.1) iY,F2.mul (aJ t.2) mX) (F2.mul (aJ t'.1) iY,F2.mul (aJ t'.2) mX) a = cQ (lnT t t' a):=by
 have hs:=TY KP aW (x1:=t.1) (y1:=t.2) (x2:=t'.1) (y2:=t'.2) ht ht' hn;rw [Fo,DE] at hs;rw [oB,oB,aUj];dsimp only;rw [hs,aPt,aVr,aLb]
theorem aQE {p : Pt Fq} {t t' : Pt Q2} (hp : On F1 (fm 3) p) (ht : On F2 dG t) (ht' : On F2 dG t') : Ay p (KD t) (KD t') = fv (Ay p t t'):=by
 match p,t,t' with
 | none,_,_ => rw [nC,nC,nU]
 | some a,none,_ => rw [iQ,iQ,show KD none = none from rfl,Aa hp,Aa hp,nU]
 | some a,some t,none => rw [iQ,iQ,show KD none = none from rfl,aDv hp (aNm ht),aDv hp ht,nU]
 | some a,some t,some t' =>
  rw [iQ,iQ]
  by_cases hn : t.1 = t'.1 ∧ F2.add t.2 t'.2 = F2.zero
  ·rw [aDw hp hn,nU,AR,AR];refine aDw hp ⟨?_,?_⟩
   ·dsimp only;rw [hn.1]
   ·dsimp only;rw [← F2.add_mul,← aDM,hn.2,xW,F2.zero_mul]
  ·have h3:=aGy ht ht';rw [jC hn,AR,AR,AR] at h3;have hn':=CY (by rw [← h3]; exact Option.some_ne_none _);rw [AR,AR,xU hp hn,xU hp hn',aKZ (vI (gS hp)),aPb ht ht' hn]
theorem aOV {p p' s : Pt Fq} {t : Pt Q2} (ht : On F2 dG t) : JM p p' s (KD t) = fv (JM p p' s t):=by
 match p,p',s,t with
 | none,_,_,_ => rw [BG,BG,nU]
 | some p,none,_,_ => rw [BF,BF,nU]
 | some p,some q,none,_ => rw [BE,BE,nU]
 | some p,some q,some s,none => rw [show KD none = none from rfl,MD,nU]
 | some p,some q,some s,some t =>
  rw [AR,BD,BD,aKZ (zP (lJ ht)),vJ,vJ,aUk,aVp,aLb]
theorem Fi {p : Pt Fq} (hp : On F1 (fm 3) p) {t t' : Q2 × Q2} (hn : ¬ (t.1 = t'.1 ∧ F2.add t.2 t'.2 = F2.zero)) : Fj (some t) (some t') p = Ay p (some t) (some t'):=by
 match p with
 | none => rw [YV,nC]
 | some a => rw [MC,iQ,xU hp hn]
theorem Gn {p : Pt Fq} (hp : On F1 (fm 3) p) (t : Pt Q2) : Ay p none t = vg.zero:=by
 match p with
 | none => rw [nC]
 | some a => rw [iQ,Aa hp]
theorem Gm {p : Pt Fq} (hp : On F1 (fm 3) p) {t : Pt Q2} (ht : On F2 dG t) : Ay p t none = vg.zero:=by
 match p with
 | none => rw [nC]
 | some a => rw [iQ,aDv hp ht]
theorem Gp {p : Pt Fq} (hp : On F1 (fm 3) p) {t t' : Q2 × Q2} (hn : t.1 = t'.1 ∧ F2.add t.2 t'.2 = F2.zero) : Ay p (some t) (some t') = vg.zero:=by
 match p with
 | none => rw [nC]
 | some a => rw [iQ,aDw hp hn]
theorem aNS {R : Type} {K : CR R} {t t' : R × R} (hn : t.1 = t'.1 ∧ K.add t.2 t'.2 = K.zero) : t' = (t.1,K.neg t.2):=Prod.ext hn.1.symm (by
 apply K.add_cancel (a:=t.2);rw [hn.2,K.add_neg])
theorem aPs {p p' : Pt Fq} {t t' : Pt Q2} (hp : On F1 (fm 3) p) (hp' : On F1 (fm 3) p') (ht : On F2 dG t) (ht' : On F2 dG t') :
  vg.add (vg.add (Ay p t t') (Ay p' t t')) (JM p p' (hJ F1 cM p p') (hJ F2 dR t t')) = vg.add (Ay (hJ F1 cM p p') t t') (vg.add (JM p p' (hJ F1 cM p p') t) (JM p p' (hJ F1 cM p p') t')):=by
 have hs:=hp.add gK hp'
 match t,t' with
 | none,t' => rw [Gn hp,Gn hp',Gn hs,MD,Ar,vg.zadd,vg.zadd,vg.zadd,show hJ F2 dR none t' = t' from rfl]
 | some t,none => rw [Gm hp ht,Gm hp' ht,Gm hs ht,MD,Ar,vg.zadd,vg.addz,vg.zadd,show hJ F2 dR (some t) none = some t from rfl]
 | some t,some t' =>
  by_cases hn : t.1 = t'.1 ∧ F2.add t.2 t'.2 = F2.zero
  ·rw [kB hn,Gp hp hn,Gp hp' hn,Gp hs hn,MD,Ar,Ar,aNS hn,← Ea,Lo hp hp' rfl ht,Ar]
  ·have r:=Mb hp hp' ht ht' (Option.some_ne_none _) (Option.some_ne_none _) (by rw [jC hn]; exact Option.some_ne_none _);rw [Fi hp hn,Fi hp' hn,Fi hs hn] at r;exact r
theorem aGx : GHom aW.grp aW.grp pN:=⟨Jl⟩
def lI (Q : C2) : Prop:=aW.grp.ns oI Q = aW.grp.zero
def kN : Nat:=(sN + cG + cG * (cG * cG) - cG * cG) / oI
theorem aUM : sN + cG + cG * (cG * cG) = cG * cG + oI * kN:=by kernel_rfl
theorem aCf {Q : C2} (h : lI Q) : tot aW.grp sN Q (pN Q) (pN (pN Q)) = aW.grp.neg (pN (pN (pN Q))):=by
 have e:=(Fu Q).2 h;have e2 : pN (pN Q) = aW.grp.ns (cG * cG) Q:=by rw [← e,FF,← e,aW.grp.ns_mul]
 have e3 : pN (pN (pN Q)) = aW.grp.ns (cG * (cG * cG)) Q:=by
  rw [e2,FF,← e];rw [aW.grp.ns_mul cG _ (cG * cG),aW.grp.ns_mul cG _ cG]
 refine NW ?_;rw [e3,e2,← e,← aW.grp.ns_add,← aW.grp.ns_add,aUM,aW.grp.ns_add,aW.grp.ns_mul oI,show aW.grp.ns oI Q = aW.grp.zero from h,aW.grp.ns_zero,aW.grp.addz]
theorem Ly {Q Q' : C2} (h : lI Q) (h' : lI Q') : lI (aW.grp.add Q Q'):=by
 unfold lI at h h' ⊢;rw [aW.grp.ns_sum,h,h',aW.grp.zadd]
theorem GW {Q : C2} (h : lI Q) : ∀ n,lI (aW.grp.ns n Q)
 | 0 => aW.grp.ns_zero oI
 | n + 1 => Ly (GW h n) h
theorem aNj {p : Pt Fq} (t t' : Pt Q2) : rOf (Ay p t t'):=by
 match p with
 | none => rw [nC]; exact oQ
 | some a => rw [iQ]; exact Zo _
theorem aGr (p p' s : Pt Fq) (t : Pt Q2) : rOf (JM p p' s t):=by
 match p,p',s,t with
 | none,_,_,_ => rw [BG]; exact oQ
 | some p,none,_,_ => rw [BF]; exact oQ
 | some p,some q,none,_ => rw [BE]; exact oQ
 | some p,some q,some s,none => rw [MD]; exact oQ
 | some p,some q,some s,some t => rw [BD]; exact Zo _
theorem Uo (P : C1) : Cyc aW.grp vg (CV P):=by
 unfold CV;exact aYN P.2
theorem aSp (P : C1) (g k : C2) : CV P (pN g) (pN k) = fv (CV P g k):=by
 unfold CV;exact aQE P.2 g.2 k.2
theorem aYZ (P : C1) (g k : C2) : rOf (CV P g k):=by
 unfold CV;exact aNj _ _
theorem aSl (P P' : C1) (g k : C2) : vg.add (vg.add (CV P g k) (CV P' g k)) (HV P P' (aW.grp.add g k)) = vg.add (CV (gK.grp.add P P') g k) (vg.add (HV P P' g) (HV P P' k)):=by
 unfold HV CV;rw [ZH,mY];exact aPs P.2 P'.2 g.2 k.2
theorem aSj (P P' : C1) (g : C2) : HV P P' (pN g) = fv (HV P P' g):=by
 unfold HV;exact aOV g.2
theorem aYW (P P' : C1) (g : C2) : rOf (HV P P' g):=by
 unfold HV;exact aGr _ _ _ _
def DP (P : C1) (Q : C2) : Vq:=(fin (Uo P) sN pN Q).2
section
variable {G V : Type} {A : AG G} {B : AG V}
theorem aQh {c : G → G → V} (C : Cyc A B c) {s : Nat} {ψ : G → G} {φ : V → V} (hψ : GHom A A ψ) (hc : ∀ g h,c (ψ g) (ψ h) = φ (c g h)) (hv : ∀ g h,B.add (B.add (B.ns s (c g h)) (φ (c g h))) (φ (φ (φ (c g h)))) = φ (φ (c g h)))
  {P : G → Prop} (hP : ∀ Q,P Q → tot A s Q (ψ Q) (ψ (ψ Q)) = A.neg (ψ (ψ (ψ Q)))) : ∀ Q Q',P Q → P Q' → (fin C s ψ (A.add Q Q')).2 = B.add (fin C s ψ Q).2 (fin C s ψ Q').2 :=
 fun Q Q' h h' => (Ud C hψ hc C.neg (hv Q Q') (hP Q h) (hP Q' h')).symm
theorem aQi {c1 c2 c3 : G → G → V} (C1 : Cyc A B c1) (C2 : Cyc A B c2) (C3 : Cyc A B c3) {h : G → V} (hh : ∀ g k,B.add (B.add (c1 g k) (c2 g k)) (h (A.add g k)) = B.add (c3 g k) (B.add (h g) (h k)))
  {s : Nat} {ψ : G → G} {φ : V → V} (hψ : ∀ g,h (ψ g) = φ (h g)) (hn : ∀ g,h (A.neg g) = B.neg (h g)) (hv : ∀ g,B.add (B.add (B.ns s (h g)) (φ (h g))) (φ (φ (φ (h g)))) = φ (φ (h g)))
  {P : G → Prop} (hP : ∀ Q,P Q → tot A s Q (ψ Q) (ψ (ψ Q)) = A.neg (ψ (ψ (ψ Q)))) : ∀ Q,P Q → (fin C3 s ψ Q).2 = B.add (fin C1 s ψ Q).2 (fin C2 s ψ Q).2 :=
 fun Q q => (Ue C1 C2 C3 hh hψ hn (hv Q) (hP Q q)).symm
end
theorem aSo (P : C1) (g k : C2) : vg.add (vg.add (vg.ns sN (CV P g k)) (fv (CV P g k))) (fv (fv (fv (CV P g k)))) = fv (fv (CV P g k)):=aCO (aYZ P g k)
theorem aSi (P P' : C1) (g : C2) : vg.add (vg.add (vg.ns sN (HV P P' g)) (fv (HV P P' g))) (fv (fv (fv (HV P P' g)))) = fv (fv (HV P P' g)):=aCO (aYW P P' g)
theorem aLr (P : C1) {Q Q' : C2} (h : lI Q) (h' : lI Q') : DP P (aW.grp.add Q Q') = vg.add (DP P Q) (DP P Q') :=
 aQh (Uo P) aGx (aSp P) (aSo P) (P:=lI) (fun Q => aCf) Q Q' h h'
theorem aLs (P P' : C1) {Q : C2} (h : lI Q) : DP (gK.grp.add P P') Q = vg.add (DP P Q) (DP P' Q) :=
 aQi (Uo P) (Uo P') (Uo (gK.grp.add P P')) (h:=HV P P') (aSl P P') (aSj P P') (aSk P P') (aSi P P') (P:=lI) (fun Q => aCf) Q h
theorem aRB {Q : C2} (h : lI Q) : DP gK.grp.zero Q = vg.zero:=by
 have e:=aLs gK.grp.zero gK.grp.zero h;rw [gK.grp.zadd] at e;apply vg.cancel (a:=DP gK.grp.zero Q);rw [← e,vg.addz]
theorem Ig : lI aW.grp.zero:=aW.grp.ns_zero oI
theorem aRA (P : C1) : DP P aW.grp.zero = vg.zero:=by
 have e:=aLr P Ig Ig;rw [aW.grp.zadd] at e;apply vg.cancel (a:=DP P aW.grp.zero);rw [← e,vg.addz]
structure Walks (f : aM) (p : J2) (T : C2) (F : Vq) : Prop where
 ne : f ≠ aD.zero
 val : lv f = F
 tells : fM F2 dR p = T.1
 fin : T.1 ≠ none
theorem Walks.z {f : aM} {p : J2} {T : C2} {F : Vq} (w : Walks f p T F) : p.2.2 ≠ F2.zero:=fun e => w.fin (by rw [← w.tells]; exact dE e)
theorem Walks.on {f : aM} {p : J2} {T : C2} {F : Vq} (w : Walks f p T F) : On F2 dG (fM F2 dR p):=by rw [w.tells]; exact T.2
theorem QD {a b : aM} (ha : a ≠ aD.zero) (hb : b ≠ aD.zero) : lv (aD.mul a b) = vg.add (lv a) (lv b):=Subtype.ext (by
 rw [lC,cT ha,cT hb,cT (nI ha hb),dB ha hb])
theorem Walks.sq {f : aM} {p : J2} {T : C2} {F : Vq} (w : Walks f p T F) : Walks (aD.mul f f) p T (vg.add F F):=⟨nI w.ne w.ne,by rw [QD w.ne w.ne,w.val],w.tells,w.fin⟩
def wD (p : J2) (a : Fq × Fq) : aM:=Vf (tF p.1 p.2.1 p.2.2) (tS p.1 p.2.1 p.2.2) (tH p.1 p.2.1 p.2.2) a
def sO (p : J2) (q : Q2 × Q2) (a : Fq × Fq) : aM:=Vf (Vg p.1 p.2.2 q.1) (sP p.2.1 p.2.2 q.2) (F2.sub (F2.mul (sP p.2.1 p.2.2 q.2) q.1) (F2.mul (Vg p.1 p.2.2 q.1) q.2)) a
def gR (p : J2) (q : Q2 × Q2) : J2:=(sX F2 p.1 (rC p.1 p.2.2 q.1) (sP p.2.1 p.2.2 q.2),sY F2 p.1 p.2.1 (rC p.1 p.2.2 q.1) (sP p.2.1 p.2.2 q.2),F2.mul p.2.2 (rC p.1 p.2.2 q.1))
theorem aBZ (p : J2) (q : Q2 × Q2) : GT F2 p (q.1,q.2,F2.one) = gR p q:=by
 unfold GT gR BJ ZE DF BI rC sP;simp only [F2.mul_one]
theorem aWl {P : C1} {a : Fq × Fq} (h : P.1 = some a) (T T' : C2) : CV P T T' = cv a T.1 T'.1:=by
 unfold CV;rw [h,iQ]
theorem Walks.tan {P : C1} {a : Fq × Fq} (h : P.1 = some a) {f : aM} {p : J2} {T : C2} {F : Vq} (w : Walks f p T F) (h2 : (aW.grp.add T T).1 ≠ none) : Walks (aD.mul f (wD p a)) (cH F2 p) (aW.grp.add T T) (vg.add F (CV P T T)):=by
 have ha : On F1 (fm 3) (some a):=by rw [← h]; exact P.2
 have t : wD p a ≠ aD.zero ∧ lv (wD p a) = cv a (fM F2 dR p) (fM F2 dR p):=aMA ha (x:=p.1) (y:=p.2.1) (z:=p.2.2) w.z w.on;refine ⟨nI w.ne t.1,?_,?_,h2⟩
 ·rw [aWl h,← w.tells];rw [QD w.ne t.1,w.val,t.2]
 ·rw [QK aW w.on,w.tells,mY]
theorem aNa {x y x' y' : Q2} (h : On F2 dG (some (x,y))) (h' : On F2 dG (some (x',y'))) (e : x = x') : (x',y') = (x,y) ∨ (x',y') = (x,F2.neg y):=by
 subst e
 by_cases hy : y = y'
 ·exact Or.inl (by rw [hy])
 ·refine Or.inr (Prod.ext rfl ?_);have h1 : F2.mul y y = F2.add (F2.mul x (F2.mul x x)) dG:=h;have h2 : F2.mul y' y' = F2.add (F2.mul x (F2.mul x x)) dG:=h';have s:=EO aW (h1.trans h2.symm) hy;apply F2.add_cancel (a:=y);show F2.add y y' = F2.add y (F2.neg y);rw [s,F2.add_neg]
theorem Walks.cho {P : C1} {a : Fq × Fq} (h : P.1 = some a) {f : aM} {p : J2} {T Q : C2} {q : Q2 × Q2} (hq : Q.1 = some q) {F : Vq} (w : Walks f p T F) (h1 : T ≠ Q) (h2 : (aW.grp.add T Q).1 ≠ none) :
  Walks (aD.mul f (sO p q a)) (gR p q) (aW.grp.add T Q) (vg.add F (CV P T Q)):=by
 have ha : On F1 (fm 3) (some a):=by rw [← h]; exact P.2
 have hqo : On F2 dG (some (q.1,q.2)):=by have:=Q.2; rw [hq] at this; exact this
 have hA : rC p.1 p.2.2 q.1 ≠ F2.zero:=fun e => by
  have ej:=dQ (K:=F2) (inv:=dR) (p:=p) w.z;have hi : F2.mul p.2.2 (dR p.2.2) = F2.one:=aW.F.inv p.2.2 w.z;rw [w.tells] at ej;have ho:=T.2;rw [ej] at ho;have ex : q.1 = F2.mul p.1 (F2.mul (dR p.2.2) (dR p.2.2)):=by
   have e1 : F2.mul q.1 (F2.mul p.2.2 p.2.2) = p.1:=iO e;rw [← e1];have e2:=aLj (x:=q.1) (z:=dR p.2.2) (i:=p.2.2) (by rw [F2.mul_comm]; exact hi);exact e2.symm
  rcases aNa ho hqo ex.symm with s | s
  ·exact h1 (Subtype.ext (by rw [ej,hq]; exact congrArg some s.symm))
  ·refine h2 ?_;rw [mY,ej,hq];refine kB ⟨?_,?_⟩
   ·exact (congrArg Prod.fst s).symm
   ·show F2.add _ q.2 = F2.zero;rw [show q.2 = _ from congrArg Prod.snd s];exact F2.add_neg _
 have t : sO p q a ≠ aD.zero ∧ lv (sO p q a) = cv a (fM F2 dR p) (some q):=aQX ha (x:=p.1) (y:=p.2.1) (z:=p.2.2) (u:=q.1) (v:=q.2) w.z w.on hqo hA;refine ⟨nI w.ne t.1,?_,?_,h2⟩
 ·rw [aWl h,← w.tells,hq];rw [QD w.ne t.1,w.val,t.2]
 ·have o:=aW.jto_one q.1 q.2;have j:=Lu aW (p:=p) (q:=(q.1,q.2,F2.one)) w.on (by rw [o]; exact hqo) w.z aW.F.ne (fun k => hA (by
   have k1:=k.1;unfold BJ DF at k1;simp only [F2.mul_one] at k1;exact k1))
  rw [aBZ,o,w.tells] at j;rw [mY,hq];exact j
theorem aGz : ∀ q,q ∈ [oI] → dW q:=fun q hq => by
 have e : q = oI:=by simpa using hq
 rw [e];exact aJU
theorem Jv : 0 < oI:=of_decide_eq_true (by kernel_rfl)
theorem aOO {Q : C2} (h : lI Q) (m : Nat) : aW.grp.ns m Q = aW.grp.ns (m % oI) Q:=by
 conv => lhs; rw [← Nat.mod_add_div m oI]
 rw [aW.grp.ns_add,aW.grp.ns_mul,show aW.grp.ns oI Q = aW.grp.zero from h,aW.grp.ns_zero,aW.grp.addz]
theorem Fd (Q : C2) : aW.grp.ns 1 Q = Q:=aW.grp.zadd Q
theorem aAF : oI / oI = 1:=Nat.div_self Jv
theorem aBs {Q : C2} (h : lI Q) (h0 : Q ≠ aW.grp.zero) {m : Nat} (hm : m % oI ≠ 0) : aW.grp.ns m Q ≠ aW.grp.zero:=by
 rw [aOO h];refine aW.grp.exact (N:=oI) (l:=[oI]) (Nat.mul_one oI) aGz h (fun q hq => ?_) _ (Nat.pos_of_ne_zero hm) (Nat.mod_lt _ Jv);have e : q = oI:=by simpa using hq
 rw [e,aAF,Fd];exact h0
def okc (m k : Nat) : Bool:=decide ((m + k) % oI ≠ 0) && decide ((m + k * (oI - 1)) % oI ≠ 0)
theorem PF {T : C2} (h : T ≠ aW.grp.zero) : T.1 ≠ none:=fun e => h (Subtype.ext e)
theorem aHq {Q : C2} (h : lI Q) (h0 : Q ≠ aW.grp.zero) {m k : Nat} (o : okc m k = true) : (aW.grp.add (aW.grp.ns m Q) (aW.grp.ns k Q)).1 ≠ none:=by
 rw [← aW.grp.ns_add];unfold okc at o;rw [Bool.and_eq_true] at o;exact PF (aBs h h0 (of_decide_eq_true o.1))
theorem aNR : 1 + (oI - 1) = oI:=by kernel_rfl
theorem Lc {Q : C2} (h : lI Q) : aW.grp.ns (oI - 1) Q = aW.grp.neg Q:=by
 apply aW.grp.cancel (a:=Q);rw [aW.grp.addn]
 conv => lhs; rw [← Fd Q]
 rw [Fd Q];have e:=aW.grp.ns_add 1 Q (oI - 1);rw [aNR,Fd,show aW.grp.ns oI Q = aW.grp.zero from h] at e;exact e.symm
theorem aOy {Q : C2} (h : lI Q) (h0 : Q ≠ aW.grp.zero) {m k : Nat} (o : okc m k = true) : aW.grp.ns m Q ≠ aW.grp.ns k Q:=fun e => by
 unfold okc at o;rw [Bool.and_eq_true] at o;refine aBs h h0 (of_decide_eq_true o.2) ?_;rw [aW.grp.ns_add,e,aW.grp.ns_mul,Lc (GW h k),aW.grp.addn]
theorem Walks.cho_n {P : C1} {a : Fq × Fq} (h : P.1 = some a) {f : aM} {p : J2} {Q R : C2} {q : Q2 × Q2} {F : Vq} (hG : lI Q) (h0 : Q ≠ aW.grp.zero) {m k : Nat} (hk : aW.grp.ns k Q = R) (hq : R.1 = some q)
  (w : Walks f p (aW.grp.ns m Q) F) (o : okc m k = true) : Walks (aD.mul f (sO p q a)) (gR p q) (aW.grp.add (aW.grp.ns m Q) R) (vg.add F (CV P (aW.grp.ns m Q) R)):=by
 subst hk;exact w.cho h hq (aOy hG h0 o) (aHq hG h0 o)
def mst (a : Fq × Fq) (q : Q2 × Q2) (d : Int) (s : aM × J2) : aM × J2 :=
 if d = 1 then (aD.mul (aD.mul (aD.mul s.1 s.1) (wD s.2 a)) (sO (cH F2 s.2) q a),gR (cH F2 s.2) q)
 else if d = -1 then (aD.mul (aD.mul (aD.mul s.1 s.1) (wD s.2 a)) (sO (cH F2 s.2) (q.1,F2.neg q.2) a),gR (cH F2 s.2) (q.1,F2.neg q.2))
 else (aD.mul (aD.mul s.1 s.1) (wD s.2 a),cH F2 s.2)
def zL (a : Fq × Fq) (q : Q2 × Q2) : List Int → aM × J2 → aM × J2
 | [],s => s
 | d :: ds,s => zL a q ds (mst a q d s)
def nxt (d : Int) (m : Nat) : Nat:=if d = 1 then m + m + 1 else if d = -1 then m + m + (oI - 1) else m + m
def Ik (d : Int) (m : Nat) : Bool:=decide ((m + m) % oI ≠ 0) && (if d = 1 then okc (m + m) 1 else if d = -1 then okc (m + m) (oI - 1) else true)
def aEU : List Int → Nat → Bool
 | [],_ => true
 | d :: ds,m => Ik d m && aEU ds (nxt d m)
def aBu : List Int → Nat → Nat
 | [],m => m
 | d :: ds,m => aBu ds (nxt d m)
theorem aOT {P : C1} {a : Fq × Fq} (h : P.1 = some a) {Q : C2} {q : Q2 × Q2} (hq : Q.1 = some q) (hG : lI Q) (h0 : Q ≠ aW.grp.zero) {d : Int} {m : Nat} {s : aM × J2} {F : Vq} (w : Walks s.1 s.2 (aW.grp.ns m Q) F) (o : Ik d m = true) :
  Walks (mst a q d s).1 (mst a q d s).2 (aW.grp.ns (nxt d m) Q) (stF aW.grp vg (CV P) Q d F (aW.grp.ns m Q)) ∧ Ve aW.grp Q d (aW.grp.ns m Q) = aW.grp.ns (nxt d m) Q:=by
 unfold Ik at o;rw [Bool.and_eq_true] at o;have hd : aW.grp.add (aW.grp.ns m Q) (aW.grp.ns m Q) = aW.grp.ns (m + m) Q:=(aW.grp.ns_add m Q m).symm;have w2:=w.sq.tan h (by rw [hd]; exact PF (aBs hG h0 (of_decide_eq_true o.1)));rw [hd] at w2;unfold mst nxt stF Ve
 by_cases h1 : d = 1
 ·simp only [if_pos h1] at o ⊢;have w3:=w2.cho_n h hG h0 (Fd Q) hq o.2;rw [hd];have e : aW.grp.ns (m + m + 1) Q = aW.grp.add (aW.grp.ns (m + m) Q) Q:=rfl;rw [e];exact ⟨w3,rfl⟩
 ·simp only [if_neg h1] at o ⊢
  by_cases h2 : d = -1
  ·simp only [if_pos h2] at o ⊢;have hq' : (aW.grp.neg Q).1 = some (q.1,F2.neg q.2):=by
    show KY F2 Q.1 = _;rw [hq];rfl
   have w3:=w2.cho_n h hG h0 (Lc hG) hq' o.2;rw [hd];have e : aW.grp.ns (m + m + (oI - 1)) Q = aW.grp.add (aW.grp.ns (m + m) Q) (aW.grp.neg Q):=by rw [aW.grp.ns_add,Lc hG]
   rw [e];exact ⟨w3,rfl⟩
  ·simp only [if_neg h2] at o ⊢;exact ⟨w2,hd⟩
theorem Lh {P : C1} {a : Fq × Fq} (h : P.1 = some a) {Q : C2} {q : Q2 × Q2} (hq : Q.1 = some q) (hG : lI Q) (h0 : Q ≠ aW.grp.zero) : ∀ (ds : List Int) (m : Nat) (s : aM × J2) (F : Vq),Walks s.1 s.2 (aW.grp.ns m Q) F → aEU ds m = true →
  Walks (zL a q ds s).1 (zL a q ds s).2 (aW.grp.ns (aBu ds m) Q) (Zc aW.grp vg (CV P) Q ds F (aW.grp.ns m Q)) ∧ yT aW.grp Q ds (aW.grp.ns m Q) = aW.grp.ns (aBu ds m) Q
 | [],m,s,F,w,_ => ⟨w,rfl⟩
 | d :: ds,m,s,F,w,o => by
  have o : (Ik d m && aEU ds (nxt d m)) = true:=o;rw [Bool.and_eq_true] at o;have r:=aOT h hq hG h0 w o.1;have r2:=Lh h hq hG h0 ds (nxt d m) (mst a q d s) _ r.1 o.2;show Walks (zL a q ds (mst a q d s)).1 (zL a q ds (mst a q d s)).2 (aW.grp.ns (aBu ds (nxt d m)) Q) (Zc aW.grp vg (CV P) Q ds (stF aW.grp vg (CV P) Q d F (aW.grp.ns m Q)) (Ve aW.grp Q d (aW.grp.ns m Q))) ∧ yT aW.grp Q ds (Ve aW.grp Q d (aW.grp.ns m Q)) = _;rw [r.2];exact r2
def tO : List Int:=[0,-1,0,1,0,0,0,-1,0,-1,0,0,0,-1,0,1,0,-1,0,0,-1,0,0,0,0,0,1,0,0,-1,0,1,0,0,-1,0,0,0,0,-1,0,1,0,0,0,-1,0,-1,0,0,1,0,0,0,-1,0,0,-1,0,1,0,1,0,0,0]
theorem aYK : hdg tO 1 = (sN : Int):=by kernel_rfl
theorem aQy : aEU tO 1 = true:=by kernel_rfl
def aDh : Nat:=aBu tO 1
theorem aVA : okc aDh cG = true:=by kernel_rfl
theorem aVz : okc (aDh + cG) (cG * cG * (oI - 1)) = true:=by kernel_rfl
def gO (q : Q2 × Q2) : Q2 × Q2:=(F2.mul (aJ q.1) iY,F2.mul (aJ q.2) mX)
def LZ (q : Q2 × Q2) : Q2 × Q2:=(q.1,F2.neg q.2)
def mil (a : Fq × Fq) (q : Q2 × Q2) : aM :=
 aD.mul (aD.mul (zL a q tO (aD.one,(q.1,q.2,F2.one))).1 (sO (zL a q tO (aD.one,(q.1,q.2,F2.one))).2 (gO q) a)) (sO (gR (zL a q tO (aD.one,(q.1,q.2,F2.one))).2 (gO q)) (LZ (gO (gO q))) a)
theorem Ll {P : C1} {a : Fq × Fq} (h : P.1 = some a) {Q : C2} {q : Q2 × Q2} (hq : Q.1 = some q) (hG : lI Q) : mil a q ≠ aD.zero ∧ lv (mil a q) = DP P Q:=by
 have h0 : Q ≠ aW.grp.zero:=fun e => by rw [e] at hq; exact absurd (show (none : Pt Q2) = some q from hq) (by intro z; cases z)
 have w0 : Walks aD.one (q.1,q.2,F2.one) (aW.grp.ns 1 Q) vg.zero:=by
  rw [Fd];exact ⟨jO.1,zN ⟨jO.1,DB⟩,by rw [hq]; exact aW.jto_one q.1 q.2,PF h0⟩
 have r:=Lh h hq hG h0 tO 1 (aD.one,(q.1,q.2,F2.one)) vg.zero w0 aQy;rw [Fd] at r;unfold mil;generalize zL a q tO (aD.one,(q.1,q.2,F2.one)) = s at r ⊢;obtain ⟨w,rT⟩:=r;have e1 : (pN Q).1 = some (gO q):=by
  show KD Q.1 = _;rw [hq];rfl
 have e2 : (aW.grp.neg (pN (pN Q))).1 = some (LZ (gO (gO q))):=by
  show KY F2 (KD (pN Q).1) = _;rw [e1];rfl
 have k1 : aW.grp.ns cG Q = pN Q:=(Fu Q).2 hG;have k2 : aW.grp.ns (cG * cG * (oI - 1)) Q = aW.grp.neg (pN (pN Q)):=by
  rw [aW.grp.ns_mul,Lc (GW hG _),aW.grp.ns_mul,k1,← FF,k1]
 have w1:=w.cho_n h hG h0 k1 e1 aVA;have e3 : aW.grp.add (aW.grp.ns aDh Q) (pN Q) = aW.grp.ns (aDh + cG) Q:=by rw [aW.grp.ns_add,k1]
 have w1' : Walks _ _ (aW.grp.add (aW.grp.ns aDh Q) (pN Q)) _:=w1;rw [e3] at w1';have w2:=w1'.cho_n h hG h0 k2 e2 aVz;refine ⟨w2.ne,?_⟩;rw [w2.val];have f:=congrArg Prod.snd (aFZ (Uo P) Q aYK pN);unfold DP;rw [f,rT,← e3];rfl
open Go.RowKit
theorem At.pos (a : At) : 0 < a.sz:=by cases a <;> simp [At.sz]
theorem Na (l : List At) : dp l 0 = some l:=by cases l <;> rfl
theorem aFm (l : List At) : tk l 0 = some []:=by cases l <;> rfl
theorem DH : ∀ (x y : List At) (m : Nat),dp (x ++ y) (cS x + m) = dp y m
 | [],y,m => by show dp y (0 + m) = _; rw [Nat.zero_add]
 | a :: x,y,m => by
  have h:=a.pos;have e : ∀ n,dp (a :: (x ++ y)) n = (bif Nat.beq n 0 then some (a :: (x ++ y)) else bif Nat.ble a.sz n then dp (x ++ y) (n - a.sz) else none):=fun _ => rfl
  show dp (a :: (x ++ y)) (a.sz + cS x + m) = _;rw [e];have e1 : Nat.beq (a.sz + cS x + m) 0 = false:=by cases hb : Nat.beq (a.sz + cS x + m) 0; rfl; have:=Nat.eq_of_beq_eq_true hb; omega
  have e2 : Nat.ble a.sz (a.sz + cS x + m) = true:=Nat.ble_eq_true_of_le (by omega);rw [e1,e2,show a.sz + cS x + m - a.sz = cS x + m by omega];exact DH x y m
theorem Ip : ∀ (x y : List At) (m : Nat) (t : List At),tk y m = some t → tk (x ++ y) (cS x + m) = some (x ++ t)
 | [],y,m,t,h => by show tk y (0 + m) = _; rw [Nat.zero_add]; exact h
 | a :: x,y,m,t,h => by
  have hp:=a.pos;show tk (a :: (x ++ y)) (a.sz + cS x + m) = _;unfold tk;have e1 : Nat.beq (a.sz + cS x + m) 0 = false:=by cases hb : Nat.beq (a.sz + cS x + m) 0; rfl; have:=Nat.eq_of_beq_eq_true hb; omega
  have e2 : Nat.ble a.sz (a.sz + cS x + m) = true:=Nat.ble_eq_true_of_le (by omega);rw [e1,e2,show a.sz + cS x + m - a.sz = cS x + m by omega];show (tk (x ++ y) (cS x + m)).map (a :: ·) = _;rw [Ip x y m t h];rfl
theorem DI : ∀ (x y : List At) (n : Nat) (r : List At),dp x n = some r → dp (x ++ y) n = some (r ++ y)
 | [],y,n,r,h => by
  unfold dp at h;cases hb : Nat.beq n 0 <;> rw [hb] at h
  ·cases h
  ·cases h;rw [Nat.eq_of_beq_eq_true hb];exact Na y
 | a :: x,y,n,r,h => by
  unfold dp at h;show dp (a :: (x ++ y)) n = _;unfold dp;cases hb : Nat.beq n 0 <;> rw [hb] at h
  ·cases hs : Nat.ble a.sz n <;> rw [hs] at h
   ·cases h
   ·exact DI x y _ r h
  ·cases h; rfl
theorem OC : ∀ (x y : List At) (n : Nat) (t : List At),tk x n = some t → tk (x ++ y) n = some t
 | [],y,n,t,h => by
  unfold tk at h;cases hb : Nat.beq n 0 <;> rw [hb] at h
  ·cases h
  ·cases h;rw [Nat.eq_of_beq_eq_true hb];exact aFm y
 | a :: x,y,n,t,h => by
  unfold tk at h;show tk (a :: (x ++ y)) n = _;unfold tk;cases hb : Nat.beq n 0 <;> rw [hb] at h
  ·cases hs : Nat.ble a.sz n <;> rw [hs] at h
   ·cases h
   ·have h : (tk x (n - a.sz)).map (a :: ·) = some t:=h;cases hr : tk x (n - a.sz) with
    | none => rw [hr] at h; cases h
    | some t' =>
     rw [hr] at h;show (tk (x ++ y) (n - a.sz)).map (a :: ·) = _;rw [OC x y _ _ hr];exact h
  ·cases h; rfl
abbrev Wk:=(Fq × Fq) × (Q2 × Q2) × J2
def wA (W : Wk) : List At:=[.f W.1.1,.f W.1.2,.c (.bool false),.f W.2.1.1.1,.f W.2.1.1.2,.f W.2.1.2.1,.f W.2.1.2.2,.c (.bool false),.f W.2.2.1.1,.f W.2.2.1.2,.f W.2.2.2.1.1,.f W.2.2.2.1.2,.f W.2.2.2.2.1,.f W.2.2.2.2.2]
def rows : List Wk → List At
 | [] => []
 | W :: r => wA W ++ rows r
theorem wR : ∀ (a b : List Wk),rows (a ++ b) = rows a ++ rows b
 | [],b => rfl
 | W :: a,b => by show wA W ++ rows (a ++ b) = (wA W ++ rows a) ++ rows b; rw [wR a b,List.append_assoc]
theorem OU : ∀ Ws : List Wk,cS (rows Ws) = 50 * Ws.length
 | [] => rfl
 | W :: r => by
  show cS (wA W ++ rows r) = _;rw [vL,OU r,List.length_cons];show 50 + _ = _;omega
theorem Jd {Ws : List Wk} {j : Nat} {W : Wk} (h : Ws[j]? = some W) : ∃ a b,Ws = a ++ W :: b ∧ a.length = j:=by
 obtain ⟨hlt,he⟩:=List.getElem?_eq_some_iff.1 h;exact ⟨Ws.take j,Ws.drop (j + 1),by rw [← he,List.getElem_cons_drop hlt,List.take_append_drop],by rw [List.length_take]; omega⟩
theorem fJ {Ws : List Wk} {j o n : Nat} {W : Wk} {s : List At} (h : Ws[j]? = some W) (hs : fN (wA W) o n = some s) : fN (rows Ws) (50 * j + o) n = some s:=by
 obtain ⟨a,b,rfl,rfl⟩:=Jd h;rw [wR,← OU];show fN (rows a ++ (wA W ++ rows b)) _ n = _;unfold fN at hs ⊢;rw [DH];cases hd : dp (wA W) o with
 | none => rw [hd] at hs; cases hs
 | some r =>
  rw [hd] at hs;rw [DI _ _ _ _ hd];exact OC _ _ _ _ hs
theorem oR {Ws : List Wk} {j o : Nat} {W W' : Wk} {v : List At} (h : Ws[j]? = some W) (hs : put (wA W) o v = some (wA W')) : put (rows Ws) (50 * j + o) v = some (rows (Ws.set j W')):=by
 obtain ⟨a,b,rfl,rfl⟩:=Jd h;rw [wR,← OU];have e : (a ++ W :: b).set a.length W' = a ++ W' :: b:=by simp
 rw [e,wR];show put (rows a ++ (wA W ++ rows b)) _ v = some (rows a ++ (wA W' ++ rows b));unfold put at hs ⊢;cases ht : tk (wA W) o with
 | none => rw [ht] at hs; cases hs
 | some t =>
  cases hd : dp (wA W) o with
  | none => rw [ht,hd] at hs; cases hs
  | some r =>
   rw [ht,hd] at hs;simp only at hs;cases hr : dp r (cS v) with
   | none => rw [hr] at hs; cases hs
   | some s =>
    rw [hr] at hs;rw [Ip _ _ _ _ (OC _ (rows b) _ _ ht),DH,DI _ (rows b) _ _ hd];simp only;rw [DI _ (rows b) _ _ hr];simp only [Option.some.injEq] at hs ⊢;rw [← hs];simp only [List.append_assoc]
section
variable {R A Q S : Type} (K : CR R) (lfG : A → Q → Int → S → R) (npG : Q → Int → S → S) (ewG : A → Q → S → R)
def jF (d : Int) : R → List (A × Q × S) → R
 | f,[] => f
 | f,W :: r => jF d (K.mul f (lfG W.1 W.2.1 d W.2.2)) r
def Xh (d : Int) (W : A × Q × S) : A × Q × S:=(W.1,W.2.1,npG W.2.1 d W.2.2)
def lU : List Int → R × List (A × Q × S) → R × List (A × Q × S)
 | [],s => s
 | d :: ds,s => lU ds (jF K lfG d (K.mul s.1 s.1) s.2,s.2.map (Xh npG d))
def lO : R → List (A × Q × S) → R
 | f,[] => f
 | f,W :: r => lO (K.mul f (ewG W.1 W.2.1 W.2.2)) r
def dP : List R → R
 | [] => K.one
 | x :: r => K.mul x (dP r)
def aBz (a : A) (q : Q) (d : Int) (s : R × S) : R × S:=(K.mul (K.mul s.1 s.1) (lfG a q d s.2),npG q d s.2)
def xJ (a : A) (q : Q) : List Int → R × S → R × S
 | [],s => s
 | d :: ds,s => xJ a q ds (aBz K lfG npG a q d s)
def wG (x : (A × Q) × (R × S)) : A × Q × S:=(x.1.1,x.1.2,x.2.2)
def sxG (d : Int) (x : (A × Q) × (R × S)) : (A × Q) × (R × S):=(x.1,aBz K lfG npG x.1.1 x.1.2 d x.2)
theorem ME (d : Int) : ∀ (l : List ((A × Q) × (R × S))) (f : R),jF K lfG d f (l.map wG) = K.mul f (dP K (l.map fun x => lfG x.1.1 x.1.2 d x.2.2))
 | [],f => (K.mul_one f).symm
 | x :: r,f => by
  show jF K lfG d (K.mul f (lfG x.1.1 x.1.2 d x.2.2)) (r.map wG) = K.mul f (K.mul (lfG x.1.1 x.1.2 d x.2.2) _);rw [ME d r,K.mul_assoc]
theorem aGf (z y P L : R) : K.mul (K.mul (K.mul z z) y) (K.mul (K.mul P P) L) = K.mul (K.mul (K.mul z P) (K.mul z P)) (K.mul y L) :=
 aE K (aQ K [z,y,P,L]) (.mul (.mul (.mul (.v 0) (.v 0)) (.v 1)) (.mul (.mul (.v 2) (.v 2)) (.v 3))) (.mul (.mul (.mul (.v 0) (.v 2)) (.mul (.v 0) (.v 2))) (.mul (.v 1) (.v 3))) (by kernel_rfl)
theorem aGg (a b c d : R) : K.mul (K.mul a c) (K.mul b d) = K.mul (K.mul a b) (K.mul c d) :=
 aE K (aQ K [a,b,c,d]) (.mul (.mul (.v 0) (.v 2)) (.mul (.v 1) (.v 3))) (.mul (.mul (.v 0) (.v 1)) (.mul (.v 2) (.v 3))) (by kernel_rfl)
theorem FG (d : Int) : ∀ l : List ((A × Q) × (R × S)),dP K ((l.map (sxG K lfG npG d)).map fun x => x.2.1) = K.mul (K.mul (dP K (l.map fun x => x.2.1)) (dP K (l.map fun x => x.2.1))) (dP K (l.map fun x => lfG x.1.1 x.1.2 d x.2.2))
 | [] => by show K.one = K.mul (K.mul K.one K.one) K.one; rw [K.mul_one,K.mul_one]
 | x :: r => by
  show K.mul (K.mul (K.mul x.2.1 x.2.1) (lfG x.1.1 x.1.2 d x.2.2)) (dP K ((r.map (sxG K lfG npG d)).map fun x => x.2.1)) = K.mul (K.mul (K.mul x.2.1 (dP K (r.map fun x => x.2.1))) (K.mul x.2.1 (dP K (r.map fun x => x.2.1)))) (K.mul (lfG x.1.1 x.1.2 d x.2.2) (dP K (r.map fun x => lfG x.1.1 x.1.2 d x.2.2)));rw [FG d r];exact aGf K _ _ _ _
theorem Jb : ∀ (ds : List Int) (l : List ((A × Q) × (R × S))),lU K lfG npG ds (dP K (l.map fun x => x.2.1),l.map wG) = (dP K (l.map fun x => (xJ K lfG npG x.1.1 x.1.2 ds x.2).1),l.map fun x => (x.1.1,x.1.2,(xJ K lfG npG x.1.1 x.1.2 ds x.2).2))
 | [],l => rfl
 | d :: ds,l => by
  show lU K lfG npG ds (jF K lfG d (K.mul (dP K (l.map fun x => x.2.1)) (dP K (l.map fun x => x.2.1))) (l.map wG),(l.map wG).map (Xh npG d)) = _;have h:=Jb ds (l.map (sxG K lfG npG d));rw [FG] at h;rw [ME];have e : (l.map wG).map (Xh npG d) = (l.map (sxG K lfG npG d)).map wG:=by
   rw [List.map_map,List.map_map];rfl
  rw [e,h,List.map_map,List.map_map];rfl
theorem ZV : ∀ (l : List (A × Q × S)) (f : R),lO K ewG f l = K.mul f (dP K (l.map fun W => ewG W.1 W.2.1 W.2.2))
 | [],f => (K.mul_one f).symm
 | W :: r,f => by
  show lO K ewG (K.mul f (ewG W.1 W.2.1 W.2.2)) r = K.mul f (K.mul (ewG W.1 W.2.1 W.2.2) _);rw [ZV r,K.mul_assoc]
theorem LB {α : Type} (g h : α → R) : ∀ l : List α,K.mul (dP K (l.map g)) (dP K (l.map h)) = dP K (l.map fun x => K.mul (g x) (h x))
 | [] => K.one_mul _
 | x :: r => by
  show K.mul (K.mul (g x) (dP K (r.map g))) (K.mul (h x) (dP K (r.map h))) = K.mul (K.mul (g x) (h x)) _;rw [← LB g h r];exact aGg K _ _ _ _
theorem LA {α : Type} (g : α → R) (hg : ∀ x,g x = K.one) : ∀ l : List α,dP K (l.map g) = K.one
 | [] => rfl
 | x :: r => by show K.mul (g x) (dP K (r.map g)) = _; rw [hg,LA g hg r,K.one_mul]
theorem aBH (ds : List Int) (st : Q → S) (l : List (A × Q)) : lO K ewG (lU K lfG npG ds (K.one,l.map fun x => (x.1,x.2,st x.2))).1 (lU K lfG npG ds (K.one,l.map fun x => (x.1,x.2,st x.2))).2 =
  dP K (l.map fun x => K.mul (xJ K lfG npG x.1 x.2 ds (K.one,st x.2)).1 (ewG x.1 x.2 (xJ K lfG npG x.1 x.2 ds (K.one,st x.2)).2)):=by
 have h:=Jb K lfG npG ds (l.map fun x => (x,(K.one,st x.2)));rw [List.map_map,LA K ((fun x : (A × Q) × (R × S) => x.2.1) ∘ fun x => (x,(K.one,st x.2))) (fun x => rfl),List.map_map,List.map_map,List.map_map] at h;have e : l.map (wG ∘ fun x : A × Q => (x,(K.one,st x.2))) = l.map fun x => (x.1,x.2,st x.2):=rfl
 rw [e] at h;rw [h,ZV,List.map_map,LB];rfl
end
def lf (a : Fq × Fq) (q : Q2 × Q2) (d : Int) (p : J2) : aM :=
 if d = 1 then aD.mul (wD p a) (sO (cH F2 p) q a) else if d = -1 then aD.mul (wD p a) (sO (cH F2 p) (q.1,F2.neg q.2) a) else wD p a
def np (q : Q2 × Q2) (d : Int) (p : J2) : J2:=if d = 1 then gR (cH F2 p) q else if d = -1 then gR (cH F2 p) (q.1,F2.neg q.2) else cH F2 p
def ew (a : Fq × Fq) (q : Q2 × Q2) (p : J2) : aM:=aD.mul (sO p (gO q) a) (sO (gR p (gO q)) (LZ (gO (gO q))) a)
theorem aOU (a : Fq × Fq) (q : Q2 × Q2) (d : Int) (s : aM × J2) : mst a q d s = aBz aD lf np a q d s:=by
 unfold mst aBz lf np
 by_cases h1 : d = 1
 ·simp only [if_pos h1,aD.mul_assoc]
 ·by_cases h2 : d = -1
  ·simp only [if_neg h1,if_pos h2,aD.mul_assoc]
  ·simp only [if_neg h1,if_neg h2]
theorem aBA (a : Fq × Fq) (q : Q2 × Q2) : ∀ (ds : List Int) (s : aM × J2),zL a q ds s = xJ aD lf np a q ds s
 | [],s => rfl
 | d :: ds,s => by
  show zL a q ds (mst a q d s) = xJ aD lf np a q ds (aBz aD lf np a q d s);rw [aOU,aBA a q ds]
theorem aUB (a : Fq × Fq) (q : Q2 × Q2) : aD.mul (xJ aD lf np a q tO (aD.one,(q.1,q.2,F2.one))).1 (ew a q (xJ aD lf np a q tO (aD.one,(q.1,q.2,F2.one))).2) = mil a q:=by
 unfold mil;rw [← aBA];generalize zL a q tO (aD.one,(q.1,q.2,F2.one)) = s;unfold ew;exact (aD.mul_assoc _ _ _).symm
def bW (x : (Fq × Fq) × (Q2 × Q2)) : Wk:=(x.1,x.2,(x.2.1,x.2.2,F2.one))
def xL (l : List ((Fq × Fq) × (Q2 × Q2))) : aM:=lO aD ew (lU aD lf np tO (aD.one,l.map bW)).1 (lU aD lf np tO (aD.one,l.map bW)).2
theorem YY (l : List ((Fq × Fq) × (Q2 × Q2))) : xL l = dP aD (l.map fun x => mil x.1 x.2):=by
 refine (aBH aD lf np ew tO (fun q => (q.1,q.2,F2.one)) l).trans (congrArg (dP aD) (List.map_congr_left fun x _ => ?_));exact aUB x.1 x.2
def gFN : kZ
 | [.v (.im (.int .i64 (.ofNat 1))),.v (.fl [a])] => match vp a with
  | some (p,x) => some (p,.many [.fl (e1 (F1.neg x)),.im (.int .i64 0)])
  | none => none
 | _ => none
theorem aPR : ∀ cs pre r,gFN cs = some (pre,r) → aZ pre → ∀ (args : List Value) (w : World),bR w cs args → Good prog 23 r args w:=by
 intro cs pre r hg hp args w ha;unfold gFN at hg;split at hg
 ·rename_i a;split at hg
  ·rename_i p x hx;cases hg;obtain ⟨n,e1,rfl,hn⟩:=TR hx hp
   match args,ha with
   | [t,v],ha =>
    have h0 : t = .int .i64 1:=ha.1;have h1 : v = .agg (aA [a]).toArray:=ha.2.1;rw [e1] at h1;subst h0; subst h1;have e : (0 + FP.M - wv n) % FP.M = (F1.neg (m1 n)).1:=by
     show _ = (0 + FP.M - wv n % FP.M) % FP.M;rw [Nat.mod_eq_of_lt hn]
    refine (Mj 1 FP sI _ _ _ _ (dL n) hn w).mono ?_
    rintro e' w' ⟨s0,s1,s2,s3,rfl,hs,hv,hb⟩
    have hv : aF s0 s1 s2 s3 = (F1.neg (m1 n)).1:=hv.trans e;obtain ⟨rfl,rfl,rfl,rfl⟩:=pD hs (BL (F1.neg (m1 n)).2) hv;exact ⟨rfl,hb⟩
   | [],ha => exact ha.elim
   | [_],ha => exact ha.2.elim
   | _ :: _ :: _ :: _,ha => exact ha.2.2.elim
  ·cases hg
 ·cases hg
def aPS : kZ
 | [.v (.im (.int .i64 (.ofNat 1))),.s l n m,.s l' n' m'] => bif Nat.beq n n' && Nat.ble n 6 then (match XX n l,XX n' l' with
  | some x,some y => some ([],.many [.fl (e1 (qO x y)),.im (.int .i64 0)])
  | _,_ => none) else none
 | _ => none
theorem aIr : ∀ cs pre r,aPS cs = some (pre,r) → aZ pre → ∀ (args : List Value) (w : World),bR w cs args → Good prog 21 r args w:=by
 intro cs pre r hg hp args w ha;unfold aPS at hg;split at hg
 ·rename_i l n m l' n' m';cases hb : (Nat.beq n n' && Nat.ble n 6) <;> rw [hb] at hg
  ·cases hg
  ·simp only [cond_true] at hg;split at hg
   ·rename_i x y hx hy;cases hg;rw [Bool.and_eq_true] at hb;cases Nat.eq_of_beq_eq_true hb.1;have h6:=Nat.le_of_ble_eq_true hb.2
    match args,ha with
    | [t,v,u],ha =>
     have h0 : t = .int .i64 1:=ha.1;subst h0;obtain ⟨_,⟨b,o,rfl,h1,h2⟩,⟨b',o',rfl,h3,h4⟩,_⟩:=ha;have l1:=(tE hx).1;have l2:=(tE hy).1;refine (Mp 1 FP sI _ _ n m n m' (lw x) (lw y) rfl (by omega) (fun k hk => by rw [MB]; exact Fin.isLt _) (fun k hk => by rw [MB]; exact Fin.isLt _) w (QC hx h6 h1 h2) (QC hy h6 h3 h4)).mono ?_
     rintro e' w' ⟨s0,s1,s2,s3,rfl,hs,hv,hb⟩
     have hv : aF s0 s1 s2 s3 = (qO x y).1:=by rw [hv,ZZ x y (by omega),l1]
     obtain ⟨rfl,rfl,rfl,rfl⟩:=pD hs (BL (qO x y).2) hv;exact ⟨rfl,hb⟩
    | [],ha => exact ha.elim
    | [_],ha => exact ha.2.elim
    | [_,_],ha => exact ha.2.2.elim
    | _ :: _ :: _ :: _ :: _,ha => exact ha.2.2.2.elim
   ·cases hg
 ·cases hg
theorem aLM (x : Q2) : F2.sub F2.zero x = F2.neg x:=F2.zero_add _
theorem Vu (y : N2) : vY 171 [.v (.fl (q2 y))] = some ([],.one (.fl (e2 (F2.sub F2.zero (m2 y))))):=by kernel_rfl
def Hd : Tab:=vY.add 171 (g1 KU fun y => ([],.one (.fl (e2 (F2.neg y)))))
theorem Kb : TabOk prog Hd:=tI.ad func171 (jX (op:=fun y => ([],.one (.fl (e2 (F2.neg y))))) fP fun y hp args w ha => by
 have h:=(tI _ _ _ _ (Vu y) trivial).2 args w ha;rw [aLM] at h;exact h)
theorem Xt (x : N2) : bK prog Hd qN (fun _ => true) f208 40 [.v (.fl (q2 x))] = some ([],.one (.fl (e2 (F2.mul (m2 x) dC)))):=by kernel_rfl
def aLF : Tab:=Hd.add 208 (g1 KU fun x => ([],.one (.fl (e2 (F2.mul x dC)))))
theorem aOF : TabOk prog aLF:=Kb.ad func208 (jX fP fun x hp args w ha => aH aG Kb aL func208 (Xt x) hp ha)
theorem Pn (x : sS) : bK prog (eC true) qN (fun _ => true) f114 40 [.v (.fl (tC x))] = some ([],.one (.fl (aN (aD.mul (fW x) (fW x))))):=by kernel_rfl
def aLG : Tab:=aLF.add 114 (g1 UV fun x => ([],.one (.fl (aN (aD.mul x x)))))
theorem aOG : TabOk prog aLG:=aOF.ad func114 (jX sZ fun x hp args w ha => aH aG (dJ true) aL func114 (Pn x) hp ha)
def aEt : Tab:=(aLG.add 23 gFN).add 21 aPS
theorem aAP : TabOk prog aEt:=(aOG.ad func23 aPR).ad func21 aIr
def wq (T : Tab) : Nat → Cfg:=fun _ => ⟨fun _ => T,fun _ => true,fun _ => none⟩
theorem OO (x : Q2) : aX prog (qG prog) (wq aEt) f211 40 [.v (.fl (e2 x))] = some ([],.one (.fl (e2 (F2.mul x x)))):=by kernel_rfl
def aRY : Tab:=aEt.add 211 (g1 KC fun x => ([],.one (.fl (e2 (F2.mul x x)))))
theorem aKv : TabOk prog aRY:=aAP.ad func211 (bJ fI fun x hp args w ha => aB aG (fun _ _ => aAP) (aK _) func211 (OO x) trivial ha)
theorem OP (x : Q2) : aX prog (qG prog) (wq aRY) f212 40 [.v (.fl (e2 x))] = some ([],.one (.fl (e2 (F2.add x x)))):=by kernel_rfl
def aRX : Tab:=aRY.add 212 (g1 KC fun x => ([],.one (.fl (e2 (F2.add x x)))))
theorem aKu : TabOk prog aRX:=aKv.ad func212 (bJ fI fun x hp args w ha => aB aG (fun _ _ => aKv) (aK _) func212 (OP x) trivial ha)
theorem ON (x : Q2) : aX prog (qG prog) (wq aRX) f210 40 [.v (.fl (e2 x))] = some ([],.one (.fl (e2 (F2.add (F2.add x x) x)))):=by kernel_rfl
def aRW : Tab:=aRX.add 210 (g1 KC fun x => ([],.one (.fl (e2 (F2.add (F2.add x x) x)))))
theorem aKt : TabOk prog aRW:=aKu.ad func210 (bJ fI fun x hp args w ha => aB aG (fun _ _ => aKu) (aK _) func210 (ON x) trivial ha)
theorem UW (x : Q2) (k : Fq) : aX prog (qG prog) (wq aRW) f248 40 [.v (.fl (e2 x)),.v (.fl (e1 k))] = some ([],.one (.fl (e2 (pM x k)))):=by kernel_rfl
def aJw : Tab:=aRW.add 248 (g2 KC Jh fun x k => ([],.one (.fl (e2 (pM x k)))))
theorem aAO : TabOk prog aJw:=aKt.ad func248 (eV fI lD fun x k hp args w ha => aB aG (fun _ _ => aKt) (aK _) func248 (UW x k) trivial ha)
def oG (x : aM) : List At:=[.f x.1.1.1,.f x.1.1.2,.f x.2.1.1,.f x.2.1.2,.f x.1.2.1.1,.f x.1.2.1.2,.f x.2.2.1.1,.f x.2.2.1.2,.f x.1.2.2.1,.f x.1.2.2.2,.f x.2.2.2.1,.f x.2.2.2.2]
def aGn : List At → Option aM | [.f a,.f b,.f c,.f d,.f e,.f f,.f g,.f h,.f i,.f j,.f k,.f l] => some (((a,b),(e,f),(i,j)),((c,d),(g,h),(k,l))) | _ => none
theorem Je : Rd aGn oG:=fun l x h => by unfold aGn at h; split at h <;> cases h; rfl
theorem aFK (x : aM) : aX prog (qG prog) (wq aJw) f116 60 [.v (.fl (aN x))] = some ([],.one (.fl (oG x))):=by kernel_rfl
theorem Xu (x : aM) : aX prog (qG prog) (wq aJw) f117 60 [.v (.fl (oG x))] = some ([],.one (.fl (aN x))):=by kernel_rfl
def aLE : Tab:=aJw.add 116 (g1 pV fun x => ([],.one (.fl (oG x))))
theorem aOE : TabOk prog aLE:=aAO.ad func116 (bJ eD fun x hp args w ha => aB aG (fun _ _ => aAO) (aK _) func116 (aFK x) trivial ha)
def aJv : Tab:=aLE.add 117 (g1 aGn fun x => ([],.one (.fl (aN x))))
theorem aAN : TabOk prog aJv:=aOE.ad func117 (bJ Je fun x hp args w ha => aB aG (fun _ _ => aAO) (aK _) func117 (Xu x) trivial ha)
def DC (l : Q6) : aM:=((l.1,F2.zero,F2.zero),(l.2.1,l.2.2,F2.zero))
def lnR (F S H : Q2) (a : Fq × Fq) : Q6:=(pM F a.2,pM S (F1.neg a.1),H)
theorem Xm (x : Q2) (k : Fq) : pM x k = F2.mul x (i2 k):=by
 show (F1.mul x.1 k,F1.mul x.2 k) = (F1.add (F1.mul x.1 k) (F1.mul (F1.neg F1.one) (F1.mul x.2 F1.zero)),F1.add (F1.mul x.1 F1.zero) (F1.mul x.2 k));rw [F1.mul_zero,F1.mul_zero,F1.mul_zero,F1.add_zero,F1.zero_add]
theorem aKQ (F S H : Q2) (a : Fq × Fq) : DC (lnR F S H a) = Vf F S H a:=by
 unfold DC lnR Vf;rw [Xm,Xm]
def gTh : kZ
 | [.v (.fl [.f a,.f b,.c _]),.v (.fl l1),.v (.fl l2),.v (.fl l3)] => match KC l1,KC l2,KC l3 with
  | some F,some S,some H => some ([],.one (.fl (e6 (lnR F S H (a,b)))))
  | _,_,_ => none
 | _ => none
theorem VD (a b : Fq) (v : Value) (F S H : Q2) : aX prog (qG prog) (wq aJv) f214 60 [.v (.fl [.f a,.f b,.c v]),.v (.fl (e2 F)),.v (.fl (e2 S)),.v (.fl (e2 H))] = some ([],.one (.fl (e6 (lnR F S H (a,b))))):=by kernel_rfl
theorem aPB : ∀ cs pre r,gTh cs = some (pre,r) → aZ pre → ∀ (args : List Value) (w : World),bR w cs args → Good prog 214 r args w:=by
 intro cs pre r hg hp args w ha;unfold gTh at hg;split at hg
 ·rename_i a b v l1 l2 l3;split at hg
  ·rename_i F S H h1 h2 h3;cases hg;refine aB aG (fun _ _ => aAN) (aK _) func214 (VD a b v F S H) trivial ?_
   match args,ha with
   | [w1,w2,w3,w4],ha =>
    refine ⟨ha.1,?_,?_,?_,trivial⟩
    ·show w2 = .agg (aA (e2 F)).toArray;rw [← fI _ _ h1]; exact ha.2.1
    ·show w3 = .agg (aA (e2 S)).toArray;rw [← fI _ _ h2]; exact ha.2.2.1
    ·show w4 = .agg (aA (e2 H)).toArray;rw [← fI _ _ h3]; exact ha.2.2.2.1
   | [],ha => exact ha.elim
   | [_],ha => exact ha.2.elim
   | [_,_],ha => exact ha.2.2.elim
   | [_,_,_],ha => exact ha.2.2.2.elim
   | _ :: _ :: _ :: _ :: _ :: _,ha => exact ha.2.2.2.2.elim
  ·cases hg
 ·cases hg
def rwS (l : Q6) : List Fq:=[l.1.1,F1.neg l.1.2,l.2.1.1,F1.neg l.2.1.2,l.2.2.1,F1.neg l.2.2.2]
def rwC (l : Q6) : List Fq:=[l.1.2,l.1.1,l.2.1.2,l.2.1.1,l.2.2.2,l.2.2.1]
theorem Po (l : Q6) : aX prog (qG prog) (wq aJv) f209 80 [.v (.fl (e6 l))] = some ([],.many [.fl ((rwS l).map .f),.fl ((rwC l).map .f)]):=by kernel_rfl
def aLD : Tab:=aJv.add 214 gTh
theorem aOD : TabOk prog aLD:=aAN.ad func214 aPB
def aRV : Tab:=aLD.add 209 (g1 Sr fun l => ([],.many [.fl ((rwS l).map .f),.fl ((rwC l).map .f)]))
theorem aKs : TabOk prog aRV:=aOD.ad func209 (bJ mQ fun l hp args w ha => aB aG (fun _ _ => aAN) (aK _) func209 (Po l) trivial ha)
def rD (l : Q6) (c0 c1 c2 : Q2) : Q2:=(qO (rwS l) [c0.1,c0.2,c1.1,c1.2,c2.1,c2.2],qO (rwC l) [c0.1,c0.2,c1.1,c1.2,c2.1,c2.2])
def Bh (x : aM) (l : Q6) : aM:=((rD l x.1.1 (F2.mul x.2.2.2 dC) (F2.mul x.2.2.1 dC),rD l x.1.2.1 x.2.1 (F2.mul x.2.2.2 dC),rD l x.1.2.2 x.2.2.1 x.2.1),(rD l x.2.1 x.1.1 (F2.mul x.1.2.2 dC),rD l x.2.2.1 x.1.2.1 x.1.1,rD l x.2.2.2 x.1.2.2 x.1.2.1))
theorem aTN (l : Q6) (c0 c1 c2 : Q2) : rD l c0 c1 c2 = F2.add (F2.add (F2.mul l.1 c0) (F2.mul l.2.1 c1)) (F2.mul l.2.2 c2):=by
 refine Prod.ext ?_ ?_
 ·show F1.add (F1.add (F1.add (F1.add (F1.add (F1.mul l.1.1 c0.1) (F1.mul (F1.neg l.1.2) c0.2)) (F1.mul l.2.1.1 c1.1)) (F1.mul (F1.neg l.2.1.2) c1.2)) (F1.mul l.2.2.1 c2.1)) (F1.mul (F1.neg l.2.2.2) c2.2) = F1.add (F1.add (F1.add (F1.mul l.1.1 c0.1) (F1.mul (F1.neg F1.one) (F1.mul l.1.2 c0.2))) (F1.add (F1.mul l.2.1.1 c1.1) (F1.mul (F1.neg F1.one) (F1.mul l.2.1.2 c1.2)))) (F1.add (F1.mul l.2.2.1 c2.1) (F1.mul (F1.neg F1.one) (F1.mul l.2.2.2 c2.2)));exact aE F1 (aQ F1 [l.1.1,l.1.2,l.2.1.1,l.2.1.2,l.2.2.1,l.2.2.2,c0.1,c0.2,c1.1,c1.2,c2.1,c2.2]) (.add (.add (.add (.add (.add (.mul (.v 0) (.v 6)) (.mul (.neg (.v 1)) (.v 7))) (.mul (.v 2) (.v 8))) (.mul (.neg (.v 3)) (.v 9))) (.mul (.v 4) (.v 10))) (.mul (.neg (.v 5)) (.v 11))) (.add (.add (.add (.mul (.v 0) (.v 6)) (.mul (.neg .one) (.mul (.v 1) (.v 7)))) (.add (.mul (.v 2) (.v 8)) (.mul (.neg .one) (.mul (.v 3) (.v 9))))) (.add (.mul (.v 4) (.v 10)) (.mul (.neg .one) (.mul (.v 5) (.v 11))))) (by kernel_rfl)
 ·show F1.add (F1.add (F1.add (F1.add (F1.add (F1.mul l.1.2 c0.1) (F1.mul l.1.1 c0.2)) (F1.mul l.2.1.2 c1.1)) (F1.mul l.2.1.1 c1.2)) (F1.mul l.2.2.2 c2.1)) (F1.mul l.2.2.1 c2.2) = F1.add (F1.add (F1.add (F1.mul l.1.1 c0.2) (F1.mul l.1.2 c0.1)) (F1.add (F1.mul l.2.1.1 c1.2) (F1.mul l.2.1.2 c1.1))) (F1.add (F1.mul l.2.2.1 c2.2) (F1.mul l.2.2.2 c2.1));exact aE F1 (aQ F1 [l.1.1,l.1.2,l.2.1.1,l.2.1.2,l.2.2.1,l.2.2.2,c0.1,c0.2,c1.1,c1.2,c2.1,c2.2]) (.add (.add (.add (.add (.add (.mul (.v 1) (.v 6)) (.mul (.v 0) (.v 7))) (.mul (.v 3) (.v 8))) (.mul (.v 2) (.v 9))) (.mul (.v 5) (.v 10))) (.mul (.v 4) (.v 11))) (.add (.add (.add (.mul (.v 0) (.v 7)) (.mul (.v 1) (.v 6))) (.add (.mul (.v 2) (.v 9)) (.mul (.v 3) (.v 8)))) (.add (.mul (.v 4) (.v 11)) (.mul (.v 5) (.v 10)))) (by kernel_rfl)
section
variable {R : Type} (K : CR R)
theorem tz0 (x0 x1 x2 x3 x4 x5 l0 l1 l3 t : R) : (K.add (K.add (K.mul l0 x0) (K.mul l1 (K.mul x5 t))) (K.mul l3 (K.mul x3 t))) = (K.add (K.add (K.mul x0 l0) (K.mul t (K.add (K.mul x2 K.zero) (K.mul x4 K.zero)))) (K.mul (K.add (K.add (K.mul x1 K.zero) (K.mul x3 l3)) (K.mul x5 l1)) t)) :=
 aE K (aQ K [x0,x1,x2,x3,x4,x5,l0,l1,l3,t]) (.add (.add (.mul (.v 6) (.v 0)) (.mul (.v 7) (.mul (.v 5) (.v 9)))) (.mul (.v 8) (.mul (.v 3) (.v 9)))) (.add (.add (.mul (.v 0) (.v 6)) (.mul (.v 9) (.add (.mul (.v 2) .zero) (.mul (.v 4) .zero)))) (.mul (.add (.add (.mul (.v 1) .zero) (.mul (.v 3) (.v 8))) (.mul (.v 5) (.v 7))) (.v 9))) (by kernel_rfl)
theorem tz1 (x0 x1 x2 x3 x4 x5 l0 l1 l3 t : R) : (K.add (K.add (K.mul l0 x2) (K.mul l1 x1)) (K.mul l3 (K.mul x5 t))) = (K.add (K.add (K.add (K.mul x0 K.zero) (K.mul x2 l0)) (K.mul t (K.mul x4 K.zero))) (K.add (K.mul x1 l1) (K.mul t (K.add (K.mul x3 K.zero) (K.mul x5 l3))))) :=
 aE K (aQ K [x0,x1,x2,x3,x4,x5,l0,l1,l3,t]) (.add (.add (.mul (.v 6) (.v 2)) (.mul (.v 7) (.v 1))) (.mul (.v 8) (.mul (.v 5) (.v 9)))) (.add (.add (.add (.mul (.v 0) .zero) (.mul (.v 2) (.v 6))) (.mul (.v 9) (.mul (.v 4) .zero))) (.add (.mul (.v 1) (.v 7)) (.mul (.v 9) (.add (.mul (.v 3) .zero) (.mul (.v 5) (.v 8)))))) (by kernel_rfl)
theorem tz2 (x0 x1 x2 x3 x4 x5 l0 l1 l3 t : R) : (K.add (K.add (K.mul l0 x4) (K.mul l1 x3)) (K.mul l3 x1)) = (K.add (K.add (K.add (K.mul x0 K.zero) (K.mul x2 K.zero)) (K.mul x4 l0)) (K.add (K.add (K.mul x1 l3) (K.mul x3 l1)) (K.mul t (K.mul x5 K.zero)))) :=
 aE K (aQ K [x0,x1,x2,x3,x4,x5,l0,l1,l3,t]) (.add (.add (.mul (.v 6) (.v 4)) (.mul (.v 7) (.v 3))) (.mul (.v 8) (.v 1))) (.add (.add (.add (.mul (.v 0) .zero) (.mul (.v 2) .zero)) (.mul (.v 4) (.v 6))) (.add (.add (.mul (.v 1) (.v 8)) (.mul (.v 3) (.v 7))) (.mul (.v 9) (.mul (.v 5) .zero)))) (by kernel_rfl)
theorem tz3 (x0 x1 x2 x3 x4 x5 l0 l1 l3 t : R) : (K.add (K.add (K.mul l0 x1) (K.mul l1 x0)) (K.mul l3 (K.mul x4 t))) = (K.add (K.add (K.mul x0 l1) (K.mul t (K.add (K.mul x2 K.zero) (K.mul x4 l3)))) (K.add (K.mul x1 l0) (K.mul t (K.add (K.mul x3 K.zero) (K.mul x5 K.zero))))) :=
 aE K (aQ K [x0,x1,x2,x3,x4,x5,l0,l1,l3,t]) (.add (.add (.mul (.v 6) (.v 1)) (.mul (.v 7) (.v 0))) (.mul (.v 8) (.mul (.v 4) (.v 9)))) (.add (.add (.mul (.v 0) (.v 7)) (.mul (.v 9) (.add (.mul (.v 2) .zero) (.mul (.v 4) (.v 8))))) (.add (.mul (.v 1) (.v 6)) (.mul (.v 9) (.add (.mul (.v 3) .zero) (.mul (.v 5) .zero))))) (by kernel_rfl)
theorem tz4 (x0 x1 x2 x3 x4 x5 l0 l1 l3 t : R) : (K.add (K.add (K.mul l0 x3) (K.mul l1 x2)) (K.mul l3 x0)) = (K.add (K.add (K.add (K.mul x0 l3) (K.mul x2 l1)) (K.mul t (K.mul x4 K.zero))) (K.add (K.add (K.mul x1 K.zero) (K.mul x3 l0)) (K.mul t (K.mul x5 K.zero)))) :=
 aE K (aQ K [x0,x1,x2,x3,x4,x5,l0,l1,l3,t]) (.add (.add (.mul (.v 6) (.v 3)) (.mul (.v 7) (.v 2))) (.mul (.v 8) (.v 0))) (.add (.add (.add (.mul (.v 0) (.v 8)) (.mul (.v 2) (.v 7))) (.mul (.v 9) (.mul (.v 4) .zero))) (.add (.add (.mul (.v 1) .zero) (.mul (.v 3) (.v 6))) (.mul (.v 9) (.mul (.v 5) .zero)))) (by kernel_rfl)
theorem tz5 (x0 x1 x2 x3 x4 x5 l0 l1 l3 t : R) : (K.add (K.add (K.mul l0 x5) (K.mul l1 x4)) (K.mul l3 x2)) = (K.add (K.add (K.add (K.mul x0 K.zero) (K.mul x2 l3)) (K.mul x4 l1)) (K.add (K.add (K.mul x1 K.zero) (K.mul x3 K.zero)) (K.mul x5 l0))) :=
 aE K (aQ K [x0,x1,x2,x3,x4,x5,l0,l1,l3,t]) (.add (.add (.mul (.v 6) (.v 5)) (.mul (.v 7) (.v 4))) (.mul (.v 8) (.v 2))) (.add (.add (.add (.mul (.v 0) .zero) (.mul (.v 2) (.v 8))) (.mul (.v 4) (.v 7))) (.add (.add (.mul (.v 1) .zero) (.mul (.v 3) .zero)) (.mul (.v 5) (.v 6)))) (by kernel_rfl)
end
theorem Wt (x : aM) (l : Q6) : Bh x l = aD.mul x (DC l):=by
 obtain ⟨⟨x0,x2,x4⟩,x1,x3,x5⟩:=x;obtain ⟨l0,l1,l3⟩:=l;rw [nT];unfold Bh DC;dsimp only;simp only [aTN];rw [tz0 F2 x0 x1 x2 x3 x4 x5 l0 l1 l3 dC,tz1 F2 x0 x1 x2 x3 x4 x5 l0 l1 l3 dC,tz2 F2 x0 x1 x2 x3 x4 x5 l0 l1 l3 dC,tz3 F2 x0 x1 x2 x3 x4 x5 l0 l1 l3 dC,tz4 F2 x0 x1 x2 x3 x4 x5 l0 l1 l3 dC,tz5 F2 x0 x1 x2 x3 x4 x5 l0 l1 l3 dC]
theorem Bu (x : aM) (l : Q6) : aX prog (qG prog) (wq aRV) f169 100 [.v (.fl (oG x)),.v (.fl (e6 l))] = some ([],.one (.fl (oG (Bh x l)))):=by kernel_rfl
def Hc : Tab:=aRV.add 169 (g2 aGn Sr fun x l => ([],.one (.fl (oG (aD.mul x (DC l))))))
theorem LH : TabOk prog Hc:=aKs.ad func169 (eV Je mQ fun x l hp args w ha => by
 have h:=aB aG (fun _ _ => aKs) (aK _) func169 (Bu x l) trivial (args:=args) (w:=w) ha;rw [Wt] at h;exact h)
section
variable {R : Type} (K : CR R)
def Wn (x y : R) : R:=K.sub (K.mul (K.add (K.add (K.mul x x) (K.mul x x)) (K.mul x x)) (K.add (K.add (K.mul x x) (K.mul x x)) (K.mul x x))) (K.add (K.add (K.mul x (K.add (K.mul y y) (K.mul y y))) (K.mul x (K.add (K.mul y y) (K.mul y y)))) (K.add (K.mul x (K.add (K.mul y y) (K.mul y y))) (K.mul x (K.add (K.mul y y) (K.mul y y)))))
def aFk (x y : R) : R:=K.sub (K.mul (K.add (K.add (K.mul x x) (K.mul x x)) (K.mul x x)) (K.sub (K.add (K.mul x (K.add (K.mul y y) (K.mul y y))) (K.mul x (K.add (K.mul y y) (K.mul y y)))) (Wn K x y))) (K.add (K.mul (K.add (K.mul y y) (K.mul y y)) (K.add (K.mul y y) (K.mul y y))) (K.mul (K.add (K.mul y y) (K.mul y y)) (K.add (K.mul y y) (K.mul y y))))
theorem aFj (x y z : R) : (Wn K x y,aFk K x y,K.add (K.mul y z) (K.mul y z)) = cH K (x,y,z):=by
 have e1 : K.add (K.mul x (K.add (K.mul y y) (K.mul y y))) (K.mul x (K.add (K.mul y y) (K.mul y y))) = dBa K (x,y,z):=(K.mul_add _ _ _).symm;have e2 : Wn K x y = dX K (x,y,z):=by
  unfold Wn;rw [e1];rfl
 unfold cH;refine Prod.ext e2 (Prod.ext ?_ (K.add_mul _ _ _).symm);show aFk K x y = dY K (x,y,z);have e3 : ∀ t : R,K.add (K.mul t t) (K.mul t t) = K.mul (K.add t t) t:=fun t => (K.add_mul _ _ _).symm
 unfold aFk;rw [e1,e2,e3 (K.add (K.mul y y) (K.mul y y))];rfl
end
def Io (x y : Q2) : Q2:=Wn F2 x y
def tnY (x y : Q2) : Q2:=aFk F2 x y
def tnZ (y z : Q2) : Q2:=F2.add (F2.mul y z) (F2.mul y z)
theorem aMw (x y z : Q2) : (Io x y,tnY x y,tnZ y z) = cH F2 (x,y,z):=aFj F2 x y z
def tnL (x y z : Q2) (a : Fq × Fq) : Q6:=lnR (tF x y z) (tS x y z) (tH x y z) a
def JN (a : Fq × Fq) : List At:=[.f a.1,.f a.2,.c (.bool false)]
def jM (q : Q2 × Q2) : List At:=[.f q.1.1,.f q.1.2,.f q.2.1,.f q.2.2,.c (.bool false)]
def BQ (l : List (Nat × List At)) : Nat → Option (List At):=assoc l
theorem aFL (b N o : Nat) (l L1 L2 L3 : List At) (x y z : Q2) (a : Fq × Fq) :
  Ge prog (Zq prog (BQ [(16,e2 x),(21,e2 y),(26,e2 z),(42,JN a),(75,e2 (Io x y))]) (BQ [(67,L1),(84,L2),(89,L3)]) Oc) (wq Hc) f170 60 b N o l [] =
   some ([fN l (o + 26 + 0) 8 = some (e2 x),fN l (o + 26 + 8) 8 = some (e2 y),fN l (o + 26 + 16) 8 = some (e2 z),fN l (o + 0) 9 = some (JN a),put l (o + 26 + 0) (e2 (Io x y)) = some L1,fN L1 (o + 26 + 0) 8 = some (e2 (Io x y)),put L1 (o + 26 + 8) (e2 (tnY x y)) = some L2,put L2 (o + 26 + 16) (e2 (tnZ y z)) = some L3],.one (.fl (e6 (tnL x y z a))),L3,b,N):=by kernel_rfl
theorem Pm (Ws : List Wk) (j : Nat) (a b : Wk) : (Ws.set j a).set j b = Ws.set j b:=List.set_set _
theorem lY {Ws : List Wk} {j : Nat} {W : Wk} (h : Ws[j]? = some W) (V : Wk) : (Ws.set j V)[j]? = some V:=by
 have:=(List.getElem?_eq_some_iff.1 h).1;simp [this]
theorem Oz {Ws : List Wk} {j : Nat} {W : Wk} (h : Ws[j]? = some W) : BV prog 170 (rows Ws) (50 * j) [] (.one (.fl (e6 (tnL W.2.2.1 W.2.2.2.1 W.2.2.2.2 W.1)))) (rows (Ws.set j (W.1,W.2.1,cH F2 W.2.2))):=by
 obtain ⟨a,q,x,y,z⟩:=W;intro w b hO;rw [show cH F2 (x,y,z) = _ from (aMw x y z).symm];have p1 : put (rows Ws) (50 * j + (26 + 0)) (e2 (Io x y)) = some (rows (Ws.set j (a,q,Io x y,y,z))):=oR h rfl;have p2 : put (rows (Ws.set j (a,q,Io x y,y,z))) (50 * j + (26 + 8)) (e2 (tnY x y)) = some (rows (Ws.set j (a,q,Io x y,tnY x y,z))):=by
  have:=oR (o:=26 + 8) (v:=e2 (tnY x y)) (W':=(a,q,Io x y,tnY x y,z)) (lY h (a,q,Io x y,y,z)) rfl
  rwa [Pm] at this
 have p3 : put (rows (Ws.set j (a,q,Io x y,tnY x y,z))) (50 * j + (26 + 16)) (e2 (tnZ y z)) = some (rows (Ws.set j (a,q,Io x y,tnY x y,tnZ y z))):=by
  have:=oR (o:=26 + 16) (v:=e2 (tnZ y z)) (W':=(a,q,Io x y,tnY x y,tnZ y z)) (lY h (a,q,Io x y,tnY x y,z)) rfl
  rwa [Pm] at this
 exact mZ (ts:=[]) aG (fun _ _ => LH.w _ _) (nX (eE _) _ _) func170 (aFL b w.heap.size (50 * j) _ _ _ _ x y z a)
  ⟨fJ (o:=26 + 0) h rfl,fJ (o:=26 + 8) h rfl,fJ (o:=26 + 16) h rfl,fJ (o:=0) h rfl,p1,fJ (o:=26 + 0) (lY h _) rfl,p2,p3,trivial⟩ hO
def chL (p : J2) (q : Q2 × Q2) (a : Fq × Fq) : Q6:=lnR (Vg p.1 p.2.2 q.1) (sP p.2.1 p.2.2 q.2) (F2.sub (F2.mul (sP p.2.1 p.2.2 q.2) q.1) (F2.mul (Vg p.1 p.2.2 q.1) q.2)) a
theorem aGb (b N o : Nat) (l L1 L2 L3 : List At) (x y z u v : Q2) (a : Fq × Fq) :
  Ge prog (Zq prog (BQ [(20,e2 x),(25,e2 y),(30,e2 z),(53,JN a),(92,e2 (sX F2 x (rC x z u) (sP y z v)))]) (BQ [(84,L1),(101,L2),(106,L3)]) Oc) (wq Hc) f172 60 b N o l [.fl (jM (u,v))] =
   some ([fN l (o + 26 + 0) 8 = some (e2 x),fN l (o + 26 + 8) 8 = some (e2 y),fN l (o + 26 + 16) 8 = some (e2 z),fN l (o + 0) 9 = some (JN a),put l (o + 26 + 0) (e2 (sX F2 x (rC x z u) (sP y z v))) = some L1,fN L1 (o + 26 + 0) 8 = some (e2 (sX F2 x (rC x z u) (sP y z v))),put L1 (o + 26 + 8) (e2 (sY F2 x y (rC x z u) (sP y z v))) = some L2,put L2 (o + 26 + 16) (e2 (F2.mul z (rC x z u))) = some L3],.one (.fl (e6 (chL (x,y,z) (u,v) a))),L3,b,N):=by kernel_rfl
theorem NE {Ws : List Wk} {j : Nat} {W : Wk} (h : Ws[j]? = some W) (q' : Q2 × Q2) : BV prog 172 (rows Ws) (50 * j) [.agg (aA (jM q')).toArray] (.one (.fl (e6 (chL W.2.2 q' W.1)))) (rows (Ws.set j (W.1,W.2.1,gR W.2.2 q'))):=by
 obtain ⟨a,q,x,y,z⟩:=W;obtain ⟨u,v⟩:=q';intro w b hO;show Calls _ _ _ _ (Wr b w _ (rows (Ws.set j (a,q,sX F2 x (rC x z u) (sP y z v),sY F2 x y (rC x z u) (sP y z v),F2.mul z (rC x z u)))));have p1 : put (rows Ws) (50 * j + (26 + 0)) (e2 (sX F2 x (rC x z u) (sP y z v))) = some (rows (Ws.set j (a,q,sX F2 x (rC x z u) (sP y z v),y,z))):=oR h rfl;have p2 : put (rows (Ws.set j (a,q,sX F2 x (rC x z u) (sP y z v),y,z))) (50 * j + (26 + 8)) (e2 (sY F2 x y (rC x z u) (sP y z v))) = some (rows (Ws.set j (a,q,sX F2 x (rC x z u) (sP y z v),sY F2 x y (rC x z u) (sP y z v),z))):=by
  have:=oR (o:=26 + 8) (v:=e2 (sY F2 x y (rC x z u) (sP y z v))) (W':=(a,q,sX F2 x (rC x z u) (sP y z v),sY F2 x y (rC x z u) (sP y z v),z)) (lY h (a,q,sX F2 x (rC x z u) (sP y z v),y,z)) rfl
  rwa [Pm] at this
 have p3 : put (rows (Ws.set j (a,q,sX F2 x (rC x z u) (sP y z v),sY F2 x y (rC x z u) (sP y z v),z))) (50 * j + (26 + 16)) (e2 (F2.mul z (rC x z u))) = some (rows (Ws.set j (a,q,sX F2 x (rC x z u) (sP y z v),sY F2 x y (rC x z u) (sP y z v),F2.mul z (rC x z u)))):=by
  have:=oR (o:=26 + 16) (v:=e2 (F2.mul z (rC x z u))) (W':=(a,q,sX F2 x (rC x z u) (sP y z v),sY F2 x y (rC x z u) (sP y z v),F2.mul z (rC x z u))) (lY h (a,q,sX F2 x (rC x z u) (sP y z v),sY F2 x y (rC x z u) (sP y z v),z)) rfl
  rwa [Pm] at this
 exact mZ (ts:=[.fl (jM (u,v))]) aG (fun _ _ => LH.w _ _) (nX (eE _) _ _) func172 (aGb b w.heap.size (50 * j) _ _ _ _ x y z u v a)
  ⟨fJ (o:=26 + 0) h rfl,fJ (o:=26 + 8) h rfl,fJ (o:=26 + 16) h rfl,fJ (o:=0) h rfl,p1,fJ (o:=26 + 0) (lY h _) rfl,p2,p3,trivial⟩ hO
def T5s (l0 l1 l2 : List At) (o : Nat) (r1 r2 : RV) (m : List At) : Tab5:=(Oc.add 170 (pe0 l0 o r1 l1)).add 172 (pe1 l1 o m r2 l2)
theorem Id {Ws : List Wk} {j : Nat} {W : Wk} (h : Ws[j]? = some W) (q' : Q2 × Q2) :
  PtOk prog (T5s (rows Ws) (rows (Ws.set j (W.1,W.2.1,cH F2 W.2.2))) (rows (Ws.set j (W.1,W.2.1,gR (cH F2 W.2.2) q'))) (50 * j) (.one (.fl (e6 (tnL W.2.2.1 W.2.2.2.1 W.2.2.2.2 W.1)))) (.one (.fl (e6 (chL (cH F2 W.2.2) q' W.1)))) (jM q')):=by
 have h2:=NE (lY h (W.1,W.2.1,cH F2 W.2.2)) q';rw [Pm] at h2;exact ((eE _).ad func170 (aNA (Oz h))).ad func172 (Ek h2)
theorem Qi (b N o : Nat) (l l1 l2 m : List At) (f : aM) (x y : Q6) :
  Ge prog (Zq prog (BQ []) (BQ []) (T5s l l1 l2 o (.one (.fl (e6 x))) (.one (.fl (e6 y))) m)) (wq Hc) f115 60 b N o l [.fl (oG f),.im (.int .i64 0)] =
   some ([l = l,o = o],.one (.fl (oG (aD.mul f (DC x)))),l1,b,N):=by kernel_rfl
theorem Qh (b N o : Nat) (l l1 l2 : List At) (f : aM) (x y : Q6) (q : Q2 × Q2) :
  Ge prog (Zq prog (BQ [(17,jM q)]) (BQ []) (T5s l l1 l2 o (.one (.fl (e6 x))) (.one (.fl (e6 y))) (jM q))) (wq Hc) f115 60 b N o l [.fl (oG f),.im (.int .i64 1)] =
   some ([l = l,o = o,fN l1 (o + 9) 17 = some (jM q),l1 = l1,o = o,aA (jM q) = aA (jM q)],.one (.fl (oG (aD.mul (aD.mul f (DC x)) (DC y)))),l2,b,N):=by kernel_rfl
theorem Qg (b N o : Nat) (l l1 l2 : List At) (f : aM) (x y : Q6) (q : Q2 × Q2) :
  Ge prog (Zq prog (BQ [(17,jM q)]) (BQ []) (T5s l l1 l2 o (.one (.fl (e6 x))) (.one (.fl (e6 y))) (jM (q.1,F2.neg q.2)))) (wq Hc) f115 60 b N o l [.fl (oG f),.im (.int .i64 (-1))] =
   some ([l = l,o = o,fN l1 (o + 9) 17 = some (jM q),l1 = l1,o = o,aA (jM (q.1,F2.neg q.2)) = aA (jM (q.1,F2.neg q.2))],.one (.fl (oG (aD.mul (aD.mul f (DC x)) (DC y)))),l2,b,N):=by kernel_rfl
theorem aTa (x y z : Q2) (a : Fq × Fq) : DC (tnL x y z a) = wD (x,y,z) a:=aKQ _ _ _ _
theorem Nn (p : J2) (q : Q2 × Q2) (a : Fq × Fq) : DC (chL p q a) = sO p q a:=aKQ _ _ _ _
theorem aYf (a : Fq × Fq) (q : Q2 × Q2) (p : J2) : lf a q 0 p = wD p a:=by unfold lf; rw [if_neg (by decide),if_neg (by decide)]
theorem aYe (a : Fq × Fq) (q : Q2 × Q2) (p : J2) : lf a q 1 p = aD.mul (wD p a) (sO (cH F2 p) q a):=by unfold lf; rw [if_pos rfl]
theorem aYd (a : Fq × Fq) (q : Q2 × Q2) (p : J2) : lf a q (-1) p = aD.mul (wD p a) (sO (cH F2 p) (q.1,F2.neg q.2) a):=by unfold lf; rw [if_neg (by decide),if_pos rfl]
theorem aXY (q : Q2 × Q2) (p : J2) : np q 0 p = cH F2 p:=by unfold np; rw [if_neg (by decide),if_neg (by decide)]
theorem aXX (q : Q2 × Q2) (p : J2) : np q 1 p = gR (cH F2 p) q:=by unfold np; rw [if_pos rfl]
theorem aXW (q : Q2 × Q2) (p : J2) : np q (-1) p = gR (cH F2 p) (q.1,F2.neg q.2):=by unfold np; rw [if_neg (by decide),if_pos rfl]
theorem Bn {Ws : List Wk} {j : Nat} {W : Wk} (h : Ws[j]? = some W) (f : aM) (d : Int) (hd : d = 0 ∨ d = 1 ∨ d = -1) :
  BV prog 115 (rows Ws) (50 * j) [.agg (aA (oG f)).toArray,.int .i64 d] (.one (.fl (oG (aD.mul f (lf W.1 W.2.1 d W.2.2))))) (rows (Ws.set j (Xh np d W))):=by
 intro w b hO;have hs:=fJ (o:=9) (n:=17) (s:=jM W.2.1) (lY h (W.1,W.2.1,cH F2 W.2.2)) rfl;have et : DC (tnL W.2.2.1 W.2.2.2.1 W.2.2.2.2 W.1) = wD W.2.2 W.1:=aTa _ _ _ _;unfold Xh
 rcases hd with rfl | rfl | rfl
 ·rw [aYf,aXY,← et];exact mZ (ts:=[.fl (oG f),.im (.int .i64 0)]) aG (fun _ _ => LH.w _ _) (nX (Id h W.2.1) _ _) func115 (Qi b w.heap.size (50 * j) _ _ _ _ f _ _) ⟨rfl,rfl,trivial⟩ hO
 ·rw [aYe,aXX,← et,← Nn,← aD.mul_assoc];exact mZ (ts:=[.fl (oG f),.im (.int .i64 1)]) aG (fun _ _ => LH.w _ _) (nX (Id h W.2.1) _ _) func115 (Qh b w.heap.size (50 * j) _ _ _ f _ _ W.2.1) ⟨rfl,rfl,hs,rfl,rfl,rfl,trivial⟩ hO
 ·rw [aYd,aXW,← et,← Nn,← aD.mul_assoc];exact mZ (ts:=[.fl (oG f),.im (.int .i64 (-1))]) aG (fun _ _ => LH.w _ _) (nX (Id h (W.2.1.1,F2.neg W.2.1.2)) _ _) func115 (Qg b w.heap.size (50 * j) _ _ _ f _ _ W.2.1) ⟨rfl,rfl,hs,rfl,rfl,rfl,trivial⟩ hO
def aGo : List At → Option (Q2 × Q2) | [.f a,.f b,.f c,.f d,.c (.bool false)] => some ((a,b),(c,d)) | _ => none
theorem Jf : Rd aGo jM:=fun l x h => by unfold aGo at h; split at h <;> cases h; rfl
theorem aCM (q : Q2 × Q2) : aA (jM q) = aA (jN (yI (some q))):=rfl
theorem aDP {q : Q2 × Q2} {args : List Value} {w : World} (ha : bR w [.v (.fl (jM q))] args) : bR w [.v (.fl (jN (yI (some q))))] args:=by
 match args,ha with
 | [v],ha =>
  refine ⟨?_,trivial⟩;show v = .agg (aA (jN (yI (some q)))).toArray;rw [← aCM];exact ha.1
 | [],ha => exact ha.elim
 | _ :: _ :: _,ha => exact ha.2.elim
theorem aLP (q : Q2 × Q2) (h : On F2 dG (some q)) (args : List Value) (w : World) (ha : bR w [.v (.fl (jM q))] args) : Good prog 173 (.many [.fl (jM (gO q)),.im (.int .i64 0)]) args w:=by
 have:=Zv (yI (some q)) args w (aDP ha);rw [show fR (yI (some q)) = _ from aTe ⟨some q,h⟩] at this;exact this
theorem aLQ (q : Q2 × Q2) (h : On F2 dG (some q)) (args : List Value) (w : World) (ha : bR w [.v (.fl (jM q))] args) : Good prog 174 (.many [.fl (jM (LZ q)),.im (.int .i64 0)]) args w:=by
 have:=(YN 174 [.v (.fl (jN (yI (some q))))] _ _ rfl trivial).2 args w (aDP ha);rw [show uF (yI (some q)) = _ from tN2 ⟨some q,h⟩] at this;exact this
def oPs (q : Q2 × Q2) : List Prop × RV:=([On F2 dG (some q)],.many [.fl (jM (gO q)),.im (.int .i64 0)])
def oNg (q : Q2 × Q2) : List Prop × RV:=([On F2 dG (some q)],.many [.fl (jM (LZ q)),.im (.int .i64 0)])
def aLC : Tab:=Hc.add 173 (g1 aGo oPs)
theorem aOC : TabOk prog aLC:=LH.ad func173 (bJ (op:=oPs) Jf fun q hp args w ha => aLP q hp.1 args w ha)
def Va : Tab:=aLC.add 174 (g1 aGo oNg)
theorem YA : TabOk prog Va:=aOC.ad func174 (bJ (op:=oNg) Jf fun q hp args w ha => aLQ q hp.1 args w ha)
def oD : Code:=(f118.body).getD .skip
def enN : Nat:=f118.ntmps
def aQs (b N o : Nat) (l : List At) (f : aM) : List Fact:=[.slot 0 (.pt 0 o),.row 0 true l,.at 0 b,.at enN N,.slot 3 (.pt 3 0),.row 3 true (oG f),.slot 4 (.pt 4 0),.row 4 true (oG aD.zero)]
def Uk (b N o : Nat) (l : List At) (f : aM) (q : Q2 × Q2) : List Fact:=[.slot 0 (.pt 0 o),.row 0 true l,.at 0 b,.at enN N,.slot 3 (.pt 3 0),.row 3 true (oG f),.slot 4 (.pt 4 0),.row 4 true (oG aD.zero),.slot 5 (.pt 5 0),.row 5 true (jM q)]
def Uj (b N : Nat) (l : List At) (f : aM) : List Fact:=[.slot 4 (.pt 4 0),.row 4 true (oG f),.row 0 true l,.at 0 b,.at enN N]
def T5c (l0 l1 : List At) (o : Nat) (r : RV) (m : List At) : Tab5:=Oc.add 172 (pe1 l0 o m r l1)
theorem aEF {Ws : List Wk} {j : Nat} {W : Wk} (h : Ws[j]? = some W) (q' : Q2 × Q2) : PtOk prog (T5c (rows Ws) (rows (Ws.set j (W.1,W.2.1,gR W.2.2 q'))) (50 * j) (.one (.fl (e6 (chL W.2.2 q' W.1)))) (jM q')) :=
 (eE _).ad func172 (Ek (NE h q'))
theorem aVE (b N o : Nat) (l : List At) (f : aM) : aY prog (Zq prog (BQ []) (BQ []) Oc) enN (wq Va) 40 (cA oD) (aRC enN b N o l [.fl (oG f)]) (aQs b N o l f) = some ([],.nrm,aQs b N o l f):=by kernel_rfl
theorem aVD (b N o : Nat) (l : List At) (f : aM) (q : Q2 × Q2) : aY prog (Zq prog (BQ [(11,jM q)]) (BQ []) Oc) enN (wq Va) 40 (cA (cB oD)) (aQs b N o l f) (Uk b N o l f (gO q)) = some ([fN l (o + 9) 17 = some (jM q),On F2 dG (some q)],.nrm,Uk b N o l f (gO q)):=by kernel_rfl
theorem aVC (b N o : Nat) (l l1 : List At) (f : aM) (q : Q2 × Q2) (x : Q6) : aY prog (Zq prog (BQ []) (BQ []) (T5c l l1 o (.one (.fl (e6 x))) (jM q))) enN (wq Va) 40 (cA (cB (cB oD))) (Uk b N o l f q) (Uk b N o l1 (aD.mul f (DC x)) q) = some ([l = l,o = o,aA (jM q) = aA (jM q)],.nrm,Uk b N o l1 (aD.mul f (DC x)) q):=by kernel_rfl
theorem aVB (b N o : Nat) (l l1 : List At) (f : aM) (q : Q2 × Q2) (x : Q6) : aY prog (Zq prog (BQ []) (BQ []) (T5c l l1 o (.one (.fl (e6 x))) (jM (LZ (gO q))))) enN (wq Va) 40 (cB (cB (cB oD))) (Uk b N o l f q) (Uj b N l1 (aD.mul f (DC x))) = some ([On F2 dG (some q),On F2 dG (some (gO q)),l = l,o = o,aA (jM (LZ (gO q))) = aA (jM (LZ (gO q)))],.rt,Uj b N l1 (aD.mul f (DC x))):=by kernel_rfl
theorem aII : oD = .seq (cA oD) (.seq (cA (cB oD)) (.seq (cA (cB (cB oD))) (cB (cB (cB oD))))):=by kernel_rfl
theorem Zw {q : Q2 × Q2} (h : On F2 dG (some q)) : On F2 dG (some (gO q)):=(pN ⟨some q,h⟩).2
def enW (W : Wk) : Wk:=(W.1,W.2.1,gR (gR W.2.2 (gO W.2.1)) (LZ (gO (gO W.2.1))))
theorem aQq {b : Nat} {w w' : World} {a : Act} {l : List At} {f : aM} (hA : Holds enN b w (Uj b w.heap.size l f) a w') : bodyPost prog f118 (Wr b w (.one (.fl (oG f))) l) .ret a w':=by
 refine pE (l:=[.fl (oG f)]) (r:=.one (.fl (oG f))) (by kernel_rfl) (by kernel_rfl) hA ⟨rfl,?_⟩;exact hA.wrc (l:=l) (by simp [Uj]) (by simp [Uj]) (by simp [Uj])
theorem aIH {b o : Nat} {w : World} {l0 l1 l2 : List At} {f : aM} {q : Q2 × Q2} {x y : Q6} (hO : Own w b l0) (hs : fN l0 (o + 9) 17 = some (jM q)) (hq : On F2 dG (some q))
  (t1 : PtOk prog (T5c l0 l1 o (.one (.fl (e6 x))) (jM (gO q)))) (t2 : PtOk prog (T5c l1 l2 o (.one (.fl (e6 y))) (jM (LZ (gO (gO q)))))) :
  Calls prog 118 (iG b o :: [TV.fl (oG f)].map TV.den).toArray w (Wr b w (.one (.fl (oG (aD.mul (aD.mul f (DC x)) (DC y))))) l2):=by
 refine MK (ts:=[.fl (oG f)]) func118 (c:=oD) rfl hO (Nat.le_of_ble_eq_true (by kernel_rfl)) fun a w1 hA => ?_
 rw [aII];refine wp_seq (aC aG (fun _ _ => YA.w _ _) (nX (eE _) _ _) (aVE b w.heap.size o l0 f) trivial hA fun a w2 hA => ?_);refine wp_seq (aC aG (fun _ _ => YA.w _ _) (nX (eE _) _ _) (aVD b w.heap.size o l0 f q) ⟨hs,hq,trivial⟩ hA fun a w3 hA => ?_);refine wp_seq (aC aG (fun _ _ => YA.w _ _) (nX t1 _ _) (aVC b w.heap.size o l0 l1 f (gO q) x) ⟨rfl,rfl,rfl,trivial⟩ hA fun a w4 hA => ?_);have q1:=Zw hq;have q2:=Zw q1;generalize gO q = q' at hA t2 q1 q2 ⊢;refine aC aG (fun _ _ => YA.w _ _) (nX t2 _ _) (aVB b w.heap.size o l1 l2 (aD.mul f (DC x)) q' y) ⟨q1,q2,rfl,rfl,rfl,trivial⟩ hA fun a w5 hA => ?_
 exact aQq hA
theorem aHI {f x y z w : aM} (h1 : x = z) (h2 : y = w) : aD.mul (aD.mul f x) y = aD.mul f (aD.mul z w):=by
 subst h1; subst h2;exact aD.mul_assoc _ _ _
theorem aVx (a : Fq × Fq) (q : Q2 × Q2) (p : J2) : ew a q p = aD.mul (sO p (gO q) a) (sO (gR p (gO q)) (LZ (gO (gO q))) a):=by
 unfold ew
 with_reducible rfl
theorem aYD (f : aM) (a : Fq × Fq) (q : Q2 × Q2) (p : J2) : aD.mul (aD.mul f (DC (chL p (gO q) a))) (DC (chL (gR p (gO q)) (LZ (gO (gO q))) a)) = aD.mul f (ew a q p) :=
 (aHI (Nn p (gO q) a) (Nn (gR p (gO q)) (LZ (gO (gO q))) a)).trans (congrArg (aD.mul f) (aVx a q p).symm)
theorem aDf {Ws : List Wk} {j : Nat} {a : Fq × Fq} {q : Q2 × Q2} {p : J2} (h : Ws[j]? = some (a,q,p)) (f g : aM) (hg : aD.mul (aD.mul f (DC (chL p (gO q) a))) (DC (chL (gR p (gO q)) (LZ (gO (gO q))) a)) = g) (hq : On F2 dG (some q)) :
  BV prog 118 (rows Ws) (50 * j) [.agg (aA (oG f)).toArray] (.one (.fl (oG g))) (rows (Ws.set j (a,q,gR (gR p (gO q)) (LZ (gO (gO q)))))):=by
 subst hg;intro w b hO;have hs:=fJ (o:=9) (n:=17) (s:=jM q) h rfl;have t1 : PtOk prog (T5c (rows Ws) (rows (Ws.set j (a,q,gR p (gO q)))) (50 * j) (.one (.fl (e6 (chL p (gO q) a)))) (jM (gO q))):=aEF h (gO q);have t2 : PtOk prog (T5c (rows (Ws.set j (a,q,gR p (gO q)))) (rows ((Ws.set j (a,q,gR p (gO q))).set j (a,q,gR (gR p (gO q)) (LZ (gO (gO q)))))) (50 * j) (.one (.fl (e6 (chL (gR p (gO q)) (LZ (gO (gO q))) a)))) (jM (LZ (gO (gO q))))):=aEF (lY h (a,q,gR p (gO q))) (LZ (gO (gO q)));rw [Pm Ws j (a,q,gR p (gO q)) (a,q,gR (gR p (gO q)) (LZ (gO (gO q))))] at t2;exact aIH (f:=f) hO hs hq t1 t2
theorem Ui {Ws : List Wk} {j : Nat} {a : Fq × Fq} {q : Q2 × Q2} {p : J2} (h : Ws[j]? = some (a,q,p)) (f : aM) (hq : On F2 dG (some q)) :
  BV prog 118 (rows Ws) (50 * j) [.agg (aA (oG f)).toArray] (.one (.fl (oG (aD.mul f (ew a q p))))) (rows (Ws.set j (enW (a,q,p)))) :=
 aDf h f _ (aYD f a q p) hq
def aLI (c : Bool) : Tab:=(Ap c).add 260 aIq
theorem aOI (c : Bool) : TabOk prog (aLI c):=(Ti c).ad func260 aBO
def aLJ (c : Bool) : Tab:=(aLI c).add 167 aCH
theorem aOJ (c : Bool) : TabOk prog (aLJ c):=(aOI c).ad func167 aEb
theorem Tx (k : Int) (h0 : -1000 < k) (h1 : k < 1000) : IntKind.i64.wrap k = k:=IntWalk.i64_in _ (by omega)
theorem aZh : Rdv KW q1 (fun n => n):=fun l n h => ⟨n,fQ l n h,rfl⟩
def Tab.or (T U : Tab) : Tab:=fun f cs => match T f cs with | some r => some r | none => U f cs
theorem TabOk.or {P : Program} {T U : Tab} (h : TabOk P T) (k : TabOk P U) : TabOk P (T.or U):=by
 intro f cs pre r hg hp;unfold Tab.or at hg;split at hg
 ·rename_i x hx;cases hg;exact h f cs pre r hx hp
 ·exact k f cs pre r hg hp
theorem Holds.same {nt base : Nat} {w0 : World} {A A' : List Fact} {a : Act} {w : World} (h : Holds nt base w0 A a w) (hs : ∀ φ ∈ A',φ ∈ A ∨ ∃ k o l l',φ = .row k o l' ∧ .row k o l ∈ A ∧ aA l = aA l') : Holds nt base w0 A' a w:=by
 obtain ⟨β,h1,h2,h3,gt⟩:=h.facts;have hr : ∀ k l,Fact.row k true l ∈ A' → ∃ m,Fact.row k true m ∈ A:=fun k l hk => by
  rcases hs _ hk with h3 | ⟨k1,o,m,m',e,h3,h4⟩
  ·exact ⟨l,h3⟩
  ·cases e;exact ⟨m,h3⟩
 refine ⟨h.defers,h.size,h.below,h.heap,β,fun φ hφ => ?_,fun k k' l l' hk hk' hne => ?_,fun k l hk => (hr k l hk).elim fun m hm => h3 k m hm,gt⟩
 ·rcases hs φ hφ with h3 | ⟨k,o,l,l',rfl,h3,h4⟩
  ·exact h1 φ h3
  ·have:=h1 _ h3;simp only [Fact.ok] at this ⊢;rw [← h4];exact this
 ·obtain ⟨m,hm⟩:=hr k l hk;obtain ⟨m',hm'⟩:=hr k' l' hk';exact h2 k k' m m' hm hm' hne
def aEE (c : Bool) : Tab:=(aLJ c).or (AP c)
theorem aBb (c : Bool) : TabOk prog (aEE c):=(aOJ c).or (Ku c)
theorem OT (c : Bool) (x : sS) : bK prog (aEE c) qN (fun _ => true) f114 40 [.v (.fl (tC x))] = some ([],.one (.fl (aN (aD.mul (fW x) (fW x))))):=by kernel_rfl
def vX (c : Bool) : Tab:=(aEE c).add 114 (g1 UV (fun x => ([],.one (.fl (aN (aD.mul x x))))))
theorem BA (c : Bool) : TabOk prog (vX c):=(aBb c).ad func114 (jX sZ fun x hp args w ha => aH aG (aBb c) aL func114 (OT c x) hp ha)
def rowR (x : sS) : Nat → List At
 | 0 => tC x
 | i + 1 => aN (dV (i + 1) (fW x))
def e4 (x : Q4) : List At:=[.f x.1.1,.f x.1.2,.f x.2.1,.f x.2.2]
def Ss : List At → Option Q4 | [.f a,.f b,.f c,.f d] => some ((a,b),(c,d)) | _ => none
theorem mR : Rd Ss e4:=fun l x h => by unfold Ss at h; split at h <;> cases h; rfl
def g3 {α γ δ : Type} (rd : List At → Option α) (rd' : List At → Option γ) (rd'' : List At → Option δ) (op : α → γ → δ → List Prop × RV) : kZ
 | [.v (.fl l),.v (.fl m),.v (.fl n)] => match rd l,rd' m,rd'' n with | some x,some y,some z => some (op x y z) | _,_,_ => none
 | _ => none
theorem aVg {P : Program} {f : FuncId} {α γ δ : Type} {rd : List At → Option α} {en : α → List At} {rd' : List At → Option γ} {en' : γ → List At} {rd'' : List At → Option δ} {en'' : δ → List At} (hr : Rd rd en) (hr' : Rd rd' en') (hr'' : Rd rd'' en'') {op : α → γ → δ → List Prop × RV}
  (h : ∀ x y z,aZ (op x y z).1 → ∀ args w,bR w [.v (.fl (en x)),.v (.fl (en' y)),.v (.fl (en'' z))] args → Good P f (op x y z).2 args w) :
  ∀ cs pre r,g3 rd rd' rd'' op cs = some (pre,r) → aZ pre → ∀ (args : List Value) (w : World),bR w cs args → Good P f r args w:=by
 intro cs pre r hg hp args w ha;unfold g3 at hg;split at hg
 ·rename_i l m n;split at hg
  ·rename_i x y z hx hy hz;have e : op x y z = (pre,r):=by simpa using hg
   have:=h x y z (by rw [e]; exact hp) args w (by
    match args,ha with
    | [v,u,s],ha =>
     refine ⟨?_,?_,?_,trivial⟩
     ·show v = .agg (aA (en x)).toArray;rw [← hr l x hx];exact ha.1
     ·show u = .agg (aA (en' y)).toArray;rw [← hr' m y hy];exact ha.2.1
     ·show s = .agg (aA (en'' z)).toArray;rw [← hr'' n z hz];exact ha.2.2.1
    | [],ha => exact ha.elim
    | [_],ha => exact ha.2.elim
    | [_,_],ha => exact ha.2.2.elim
    | _ :: _ :: _ :: _ :: _,ha => exact ha.2.2.2.elim)
   rw [e] at this;exact this
  ·cases hg
 ·cases hg
theorem Gk {a b : Q4} (h : aA (e4 a) = aA (e4 b)) : a = b:=by
 have:=xQ [a.1.1,a.1.2,a.2.1,a.2.2] [b.1.1,b.1.2,b.2.1,b.2.2] h;simp only [List.cons.injEq,and_true] at this;exact Prod.ext (Prod.ext this.1 this.2.1) (Prod.ext this.2.2.1 this.2.2.2)
theorem aIL {a b : aM} (h : aA (aN a) = aA (aN b)) : a = b:=by
 have:=xQ [a.1.1.1,a.1.1.2,a.1.2.1.1,a.1.2.1.2,a.1.2.2.1,a.1.2.2.2,a.2.1.1,a.2.1.2,a.2.2.1.1,a.2.2.1.2,a.2.2.2.1,a.2.2.2.2] [b.1.1.1,b.1.1.2,b.1.2.1.1,b.1.2.1.2,b.1.2.2.1,b.1.2.2.2,b.2.1.1,b.2.1.2,b.2.2.1.1,b.2.2.1.2,b.2.2.2.1,b.2.2.2.2] h;simp only [List.cons.injEq,and_true] at this;obtain ⟨h0,h1,h2,h3,h4,h5,h6,h7,h8,h9,h10,h11⟩:=this;exact Prod.ext (Prod.ext (Prod.ext h0 h1) (Prod.ext (Prod.ext h2 h3) (Prod.ext h4 h5))) (Prod.ext (Prod.ext h6 h7) (Prod.ext (Prod.ext h8 h9) (Prod.ext h10 h11)))
theorem Rb (c : Bool) (x : aM) : bK prog (vX c) qN (fun _ => true) f131 60 [.v (.fl (aN x))] = some ([],.many [.fl (e4 (fX x)),.fl (e4 (fY x)),.fl (e4 (fZ x))]):=by kernel_rfl
def TC (c : Bool) : Tab:=(vX c).add 131 (g1 pV fun x => ([],.many [.fl (e4 (fX x)),.fl (e4 (fY x)),.fl (e4 (fZ x))]))
theorem YM (c : Bool) : TabOk prog (TC c):=(BA c).ad func131 (bJ eD fun x hp args w ha => aH aG (BA c) aL func131 (Rb c x) hp ha)
theorem WD (c : Bool) (x : Q4) (y : Q4) : bK prog (TC c) qN (fun _ => true) f132 60 [.v (.fl (e4 x)),.v (.fl (e4 y))] = some ([],.one (.fl (e4 ((F2.add (F2.mul x.1 y.1) (F2.mul x.2 (F2.mul y.2 dC)),F2.add (F2.mul x.1 y.2) (F2.mul x.2 y.1)))))):=by kernel_rfl
theorem WV (x : Q4) (y : Q4) : F4.mul x y = (F2.add (F2.mul x.1 y.1) (F2.mul x.2 (F2.mul y.2 dC)),F2.add (F2.mul x.1 y.2) (F2.mul x.2 y.1)):=by
 refine Prod.ext ?_ rfl;exact aE F2 (aQ F2 [x.1,x.2,y.1,y.2,dC]) (.add (.mul (.v 0) (.v 2)) (.mul (.v 4) (.mul (.v 1) (.v 3)))) (.add (.mul (.v 0) (.v 2)) (.mul (.v 1) (.mul (.v 3) (.v 4)))) (by decide)
def AN (c : Bool) : Tab:=(TC c).add 132 (g2 Ss Ss fun x y => ([],.one (.fl (e4 (F4.mul x y)))))
theorem GC (c : Bool) : TabOk prog (AN c):=(YM c).ad func132 (eV mR mR fun x y hp args w ha => by show Good _ _ (.one (.fl (e4 (F4.mul x y)))) _ _; rw [WV]; exact aH aG (YM c) aL func132 (WD c x y) hp ha)
theorem aGa (c : Bool) (x : Q4) : bK prog (AN c) qN (fun _ => true) f133 60 [.v (.fl (e4 x))] = some ([],.one (.fl (e4 (s4 x)))):=by kernel_rfl
def aEB (c : Bool) : Tab:=(AN c).add 133 (g1 Ss fun x => ([],.one (.fl (e4 (s4 x)))))
theorem aAU (c : Bool) : TabOk prog (aEB c):=(GC c).ad func133 (bJ mR fun x hp args w ha => aH aG (GC c) aL func133 (aGa c x) hp ha)
theorem WE (c : Bool) (x : Q4) (y : Q4) : bK prog (aEB c) qN (fun _ => true) f134 60 [.v (.fl (e4 x)),.v (.fl (e4 y))] = some ([],.one (.fl (e4 (F4.sub x y)))):=by kernel_rfl
def AO (c : Bool) : Tab:=(aEB c).add 134 (g2 Ss Ss fun x y => ([],.one (.fl (e4 (F4.sub x y)))))
theorem GD (c : Bool) : TabOk prog (AO c):=(aAU c).ad func134 (eV mR mR fun x y hp args w ha => aH aG (aAU c) aL func134 (WE c x y) hp ha)
theorem Dl (c : Bool) (x : Q4) : bK prog (AO c) qN (fun _ => true) f135 60 [.v (.fl (e4 x))] = some ([],.one (.fl (e4 (ND x)))):=by kernel_rfl
def JH (c : Bool) : Tab:=(AO c).add 135 (g1 Ss fun x => ([],.one (.fl (e4 (ND x)))))
theorem LT (c : Bool) : TabOk prog (JH c):=(GD c).ad func135 (bJ mR fun x hp args w ha => aH aG (GD c) aL func135 (Dl c x) hp ha)
theorem OS (c : Bool) (x : Q4) (y : Q4) : bK prog (JH c) qN (fun _ => true) f137 60 [.v (.fl (e4 x)),.v (.fl (e4 y))] = some ([],.one (.fl (e4 (Wg x y)))):=by kernel_rfl
def vV (c : Bool) : Tab:=(JH c).add 137 (g2 Ss Ss fun x y => ([],.one (.fl (e4 (Wg x y)))))
theorem AZ (c : Bool) : TabOk prog (vV c):=(LT c).ad func137 (eV mR mR fun x y hp args w ha => aH aG (LT c) aL func137 (OS c x y) hp ha)
theorem VU (c : Bool) (x y z : Q4) : bK prog (vV c) qN (fun _ => true) f136 60 [.v (.fl (e4 x)),.v (.fl (e4 y)),.v (.fl (e4 z))] = some ([],.one (.fl (aN (aBY x y z)))):=by kernel_rfl
def jY (c : Bool) : Tab:=(vV c).add 136 (g3 Ss Ss Ss fun x y z => ([],.one (.fl (aN (aBY x y z)))))
theorem jU (c : Bool) : TabOk prog (jY c):=(AZ c).ad func136 (aVg mR mR mR fun x y z hp args w ha => aH aG (AZ c) aL func136 (VU c x y z) hp ha)
theorem WF (c : Bool) (x : aM) : bK prog (jY c) (qG prog) (fun s => bif Nat.beq s 35 then true else bif Nat.beq s 44 then true else bif Nat.beq s 54 then true else bif Nat.beq s 61 then false else true) f68 60 [.v (.fl (aN x))] = some ([aA (e4 (F4.sub (F4.mul (fX x) (fX x)) (s4 (F4.mul (fY x) (fZ x))))) = aA (e4 (ND (fX x))),aA (e4 (F4.sub (F4.mul (fX x) (fY x)) (s4 (F4.mul (fZ x) (fZ x))))) = aA (e4 (ND (fY x))),aA (e4 (F4.sub (F4.mul (fY x) (fY x)) (F4.mul (fX x) (fZ x)))) = aA (e4 (ND (fZ x))),aA (aN x) ≠ aA (aN aD.zero)],.many [.fl (aN (aTf x)),.im (.bool true)]):=by kernel_rfl
theorem WJ (c : Bool) (x : aM) : bK prog (jY c) (qG prog) (fun s => bif Nat.beq s 35 then false else bif Nat.beq s 44 then true else bif Nat.beq s 54 then true else bif Nat.beq s 61 then false else true) f68 60 [.v (.fl (aN x))] = some ([aA (e4 (F4.sub (F4.mul (fX x) (fX x)) (s4 (F4.mul (fY x) (fZ x))))) ≠ aA (e4 (ND (fX x)))],.many [.fl (aN aD.zero),.im (.bool false)]):=by kernel_rfl
theorem WI (c : Bool) (x : aM) : bK prog (jY c) (qG prog) (fun s => bif Nat.beq s 35 then true else bif Nat.beq s 44 then false else bif Nat.beq s 54 then true else bif Nat.beq s 61 then false else true) f68 60 [.v (.fl (aN x))] = some ([aA (e4 (F4.sub (F4.mul (fX x) (fX x)) (s4 (F4.mul (fY x) (fZ x))))) = aA (e4 (ND (fX x))),aA (e4 (F4.sub (F4.mul (fX x) (fY x)) (s4 (F4.mul (fZ x) (fZ x))))) ≠ aA (e4 (ND (fY x)))],.many [.fl (aN aD.zero),.im (.bool false)]):=by kernel_rfl
theorem WH (c : Bool) (x : aM) : bK prog (jY c) (qG prog) (fun s => bif Nat.beq s 35 then true else bif Nat.beq s 44 then true else bif Nat.beq s 54 then false else bif Nat.beq s 61 then false else true) f68 60 [.v (.fl (aN x))] = some ([aA (e4 (F4.sub (F4.mul (fX x) (fX x)) (s4 (F4.mul (fY x) (fZ x))))) = aA (e4 (ND (fX x))),aA (e4 (F4.sub (F4.mul (fX x) (fY x)) (s4 (F4.mul (fZ x) (fZ x))))) = aA (e4 (ND (fY x))),aA (e4 (F4.sub (F4.mul (fY x) (fY x)) (F4.mul (fX x) (fZ x)))) ≠ aA (e4 (ND (fZ x)))],.many [.fl (aN aD.zero),.im (.bool false)]):=by kernel_rfl
theorem WG (c : Bool) (x : aM) : bK prog (jY c) (qG prog) (fun s => bif Nat.beq s 35 then true else bif Nat.beq s 44 then true else bif Nat.beq s 54 then true else bif Nat.beq s 61 then true else true) f68 60 [.v (.fl (aN x))] = some ([aA (e4 (F4.sub (F4.mul (fX x) (fX x)) (s4 (F4.mul (fY x) (fZ x))))) = aA (e4 (ND (fX x))),aA (e4 (F4.sub (F4.mul (fX x) (fY x)) (s4 (F4.mul (fZ x) (fZ x))))) = aA (e4 (ND (fY x))),aA (e4 (F4.sub (F4.mul (fY x) (fY x)) (F4.mul (fX x) (fZ x)))) = aA (e4 (ND (fZ x))),aA (aN x) = aA (aN aD.zero)],.many [.fl (aN aD.zero),.im (.bool false)]):=by kernel_rfl
def aOL (c : Bool) (x : aM) : List Prop × RV:=bif c then ([qH x],.many [.fl (aN (aD.mul x x)),.im (.bool true)]) else ([¬ qH x],.many [.fl (aN aD.zero),.im (.bool false)])
theorem aHz (c : Bool) (x : aM) (hp : aZ (aOL c x).1) (args : List Value) (w : World) (ha : bR w [.v (.fl (aN x))] args) : Good prog 68 (aOL c x).2 args w:=by
 cases c
 ·have hn : ¬ qH x:=hp.1;unfold qH at hn;rw [Nb] at hn
  by_cases h1 : aCi x
  ·by_cases h2 : aCh x
   ·by_cases h3 : aCg x
    ·have hz : x = aD.zero:=Classical.byContradiction fun e => hn ⟨e,h1,h2,h3⟩
     exact aH aG (jU false) (aK _) func68 (WG false x) ⟨congrArg (fun t => aA (e4 t)) h1,congrArg (fun t => aA (e4 t)) h2,congrArg (fun t => aA (e4 t)) h3,congrArg (fun t => aA (aN t)) hz,trivial⟩ ha
    ·exact aH aG (jU false) (aK _) func68 (WH false x) ⟨congrArg (fun t => aA (e4 t)) h1,congrArg (fun t => aA (e4 t)) h2,fun e => h3 (Gk e),trivial⟩ ha
   ·exact aH aG (jU false) (aK _) func68 (WI false x) ⟨congrArg (fun t => aA (e4 t)) h1,fun e => h2 (Gk e),trivial⟩ ha
  ·exact aH aG (jU false) (aK _) func68 (WJ false x) ⟨fun e => h1 (Gk e),trivial⟩ ha
 ·have hn : qH x:=hp.1;unfold qH at hn;rw [Nb] at hn;obtain ⟨hz,h1,h2,h3⟩:=hn;show Good _ _ (.many [.fl (aN (aD.mul x x)),.im (.bool true)]) _ _;rw [← aMF x ⟨h1,h2,h3⟩];exact aH aG (jU true) (aK _) func68 (WF true x) ⟨congrArg (fun t => aA (e4 t)) h1,congrArg (fun t => aA (e4 t)) h2,congrArg (fun t => aA (e4 t)) h3,fun e => hz (aIL e),trivial⟩ ha
def DS (c : Bool) : Tab:=(jY c).add 68 (g1 pV (aOL c))
theorem GE (c : Bool) : TabOk prog (DS c):=(jU c).ad func68 (bJ eD (aHz c))
def aON (c : Bool) (x : aM) : List Prop × RV:=bif c then ([qH x],.many [.fl (aN (aD.mul x x)),.im (.int .i64 0)]) else ([¬ qH x],.many [.fl (aN aD.zero),.im (.int .i64 42)])
theorem yR (x : sS) : bK prog (DS true) qN (fun _ => true) f207 40 [.v (.fl (tC x))] = some ([qH (fW x)],.many [.fl (aN (aD.mul (fW x) (fW x))),.im (.int .i64 0)]):=by kernel_rfl
theorem wP (x : sS) : bK prog (DS false) qN (fun _ => true) f207 40 [.v (.fl (tC x))] = some ([¬ qH (fW x)],.many [.fl (aN aD.zero),.im (.int .i64 42)]):=by kernel_rfl
theorem aHB (c : Bool) (x : sS) (hp : aZ (aON c (fW x)).1) (args : List Value) (w : World) (ha : bR w [.v (.fl (tC x))] args) : Good prog 207 (aON c (fW x)).2 args w:=by
 cases c
 ·exact aH aG (GE false) aL func207 (wP x) hp ha
 ·exact aH aG (GE true) aL func207 (yR x) hp ha
def tW (c : Bool) : Tab:=(DS c).add 207 (g1 UV (aON c))
theorem vD (c : Bool) : TabOk prog (tW c):=(GE c).ad func207 (jX sZ (aHB c))
def aOM (c : Bool) (x : aM) : List Prop × RV:=bif c then ([qH x],.one (.im (.bool true))) else ([¬ qH x],.one (.im (.bool false)))
theorem yQ (x : sS) : bK prog (tW true) qN (fun _ => true) f27 40 [.v (.fl (tC x))] = some ([qH (fW x)],.one (.im (.bool true))):=by kernel_rfl
theorem wO (x : sS) : bK prog (tW false) qN (fun _ => true) f27 40 [.v (.fl (tC x))] = some ([¬ qH (fW x)],.one (.im (.bool false))):=by kernel_rfl
theorem aHA (c : Bool) (x : sS) (hp : aZ (aOM c (fW x)).1) (args : List Value) (w : World) (ha : bR w [.v (.fl (tC x))] args) : Good prog 27 (aOM c (fW x)).2 args w:=by
 cases c
 ·exact aH aG (vD false) aL func27 (wO x) hp ha
 ·exact aH aG (vD true) aL func27 (yQ x) hp ha
def jZ (c : Bool) : Tab:=(tW c).add 27 (g1 UV (aOM c))
theorem gC (c : Bool) : TabOk prog (jZ c):=(vD c).ad func27 (jX sZ (aHA c))
theorem aUO (y : aM) : dV (bP 2).toNat y = cJ y:=by rw [show (bP 2).toNat = 2 by decide,QP]
def NC (b : Nat) : Value:=.func (.func 182) #[] #[.pointer (some ⟨b,0,none⟩)]
def yL : Code:=(f138.body).getD .skip
def c0 : Nat → Cfg:=fun _ => ⟨fun _ => jZ true,fun _ => true,fun _ => none⟩
theorem aTh (x : aM) : aY prog qN f138.ntmps c0 40 (cA yL) (kV 0 [.v (.fl (aN x))]) [.slot 1 (.pt 1 0),.row 1 true (aN x)] = some ([],.nrm,[.slot 1 (.pt 1 0),.row 1 true (aN x)]):=by kernel_rfl
theorem aTg (x : aM) (b : Nat) : aY prog qN f138.ntmps c0 40 (cB yL) [.at 1 b,.slot 1 (.pt 1 0),.row 1 true (aN x)] [.slot 2 (.im (NC b)),.row 1 true (aN x),.at 1 b] = some ([],.rt,[.slot 2 (.im (NC b)),.row 1 true (aN x),.at 1 b]):=by kernel_rfl
theorem aFD : yL = .seq (cA yL) (cB yL):=by kernel_rfl
theorem JV (x : aM) (args : List Value) (w : World) (ha : bR w [.v (.fl (aN x))] args) : Calls prog 138 args.toArray w (fun e w' => ∃ b,e = .returned (NC b) ∧ Below w.heap.size w w' ∧ w.heap.size ≤ b ∧ b < w'.heap.size ∧ w'.rangeAt b 0 (aA (aN x)) ∧ ∀ j,w'.frozen? ⟨b,j,none⟩ = false):=by
 refine dS func138 (c:=yL) rfl ha (Nat.le_of_ble_eq_true (by kernel_rfl)) fun a w' hA => ?_
 rw [aFD];refine wp_seq (bC aG (fun _ _ => gC true) aL (aTh x) trivial hA fun a w' hA => ?_);obtain ⟨b,hA⟩:=hA.at (k:=1) (l:=aN x) (by simp);refine bC aG (fun _ _ => gC true) aL (aTg x b) trivial hA fun a w' hA => ?_
 refine pE (l:=[.im (NC b)]) (r:=.one (.im (NC b))) (by kernel_rfl) (by kernel_rfl) hA ?_;obtain ⟨β,g1,g2⟩:=hA.facts;obtain ⟨e1,e2,e3,_⟩:=g1 (.row 1 true (aN x)) (by simp);obtain ⟨e4,e5,e6⟩:=e3 rfl;obtain ⟨e7,e8⟩:=g1 (.at 1 b) (by simp);rw [e7] at e1 e2 e4 e6;rw [e8] at e2;exact ⟨b,rfl,hA.below,e4,e1,e2,e6⟩
def nW : Code:=(f182.body).getD .skip
def iZ : Code:=pO (pO (cB (cA (cB nW))))
def qF0 (k : Nat) (b : Nat) : List Fact:=[.slot 0 (.im (iI k)),.slot 1 (.im (iG b 0)),.slot 3 (.pt 3 0),.row 3 true (aN aD.zero)]
def qF (k i : Nat) (b : Nat) : List Fact:=[.slot 1 (.im (iG b 0)),.slot 3 (.pt 3 0),.row 3 true (aN aD.zero),.slot 4 (.im (iI k)),.slot 5 (.im (iI i))]
def c1 (n : Nat → Option Value) : Nat → Cfg:=fun _ => ⟨fun _ => jZ true,fun _ => true,n⟩
theorem aTP (k b : Nat) : aY prog qN f182.ntmps c0 40 (cA nW) (kV 0 [.v (.im (iI k)),.v (.im (iG b 0))]) (qF0 k b) = some ([],.nrm,qF0 k b):=by kernel_rfl
theorem aTO (k b : Nat) : aY prog qN f182.ntmps c0 40 (cA (cA (cB nW))) (qF0 k b) (qF k 0 b) = some ([],.nrm,qF k 0 b):=by kernel_rfl
theorem aTQ (k i b : Nat) (c : Bool) : aY prog qN f182.ntmps (c1 (fun s => bif Nat.beq s 6 then some (.bool c) else none)) 40 (cA iZ) (qF k i b) (.slot 6 (.im (.bool c)) :: qF k i b) = some ([aI .lss .i64 (Int.ofNat i) (Int.ofNat k) = some (.bool c)],.nrm,.slot 6 (.im (.bool c)) :: qF k i b):=by kernel_rfl
theorem aTR (k i b : Nat) : aY prog qN f182.ntmps c0 40 (cA (cB iZ)) (.slot 6 (.im (.bool true)) :: qF k i b) (qF k i b) = some ([],.nrm,qF k i b):=by kernel_rfl
theorem aTS (k i b : Nat) : aY prog qN f182.ntmps c0 40 (cA (cB iZ)) (.slot 6 (.im (.bool false)) :: qF k i b) (qF k i b) = some ([],.ex 0,qF k i b):=by kernel_rfl
def Xi (u : aM) (b : Nat) : Ext:={ Ext.none with ld:=fun s => bif Nat.beq s 7 then some (aN u) else bif Nat.beq s 10 then some (aN u) else none,old:=fun b' o l => b' = b ∧ o = 0 ∧ l = aN u }
def oSq (x : aM) : List Prop × RV:=([qH x],.one (.fl (aN (aD.mul x x))))
theorem VJ (x : sS) : bK prog (jZ true) qN (fun _ => true) f164 40 [.v (.fl (tC x))] = some ([qH (fW x)],.one (.fl (aN (aD.mul (fW x) (fW x))))):=by kernel_rfl
def Vb : Tab:=(jZ true).add 164 (g1 pV oSq)
theorem YF : TabOk prog Vb:=(gC true).ad func164 (bJ eD fun x hp args w ha => by
 have h:=aH aG (gC true) aL func164 (VJ (kR x)) (by rw [fE]; exact hp) (args:=args) (w:=w) (by
  match args,ha with
  | [v],ha => exact ⟨ha.1,trivial⟩
  | [],ha => exact ha.elim
  | _ :: _ :: _,ha => exact ha.2.elim)
 rw [fE] at h;exact h)
def cq : Nat → Cfg:=fun _ => ⟨fun _ => Vb,fun _ => true,fun _ => none⟩
theorem aXj (k i b : Nat) (u : aM) : rI prog { qG prog with x:=Xi u b } f182.ntmps (cq 0) ((cK (pO (cA (cB (cB iZ))))).extract 0 2) (qF k i b) (.slot 8 (.fl (aN (aD.mul u u))) :: qF k i b) = some ([b = b ∧ 0 = 0 ∧ aN u = aN u,cS (aN u) = 48,qH u],.slot 8 (.fl (aN (aD.mul u u))) :: qF k i b):=by kernel_rfl
theorem aXk (k i b : Nat) : aY prog qN f182.ntmps (c1 (fun s => bif Nat.beq s 9 then some (iI (i + 1)) else none)) 40 (cB (cB (cB iZ))) (qF k i b) (qF k (i + 1) b) = some ([aI .add .i64 (Int.ofNat i) 1 = some (iI (i + 1))],.nrm,qF k (i + 1) b):=by kernel_rfl
theorem aXl (k b : Nat) (u : aM) : aY prog { qG prog with x:=Xi u b } f182.ntmps c0 40 (cB (cB nW)) (qF k k b) [.slot 3 (.pt 3 0),.row 3 true (aN u)] = some ([b = b ∧ 0 = 0 ∧ aN u = aN u,cS (aN u) = 48],.rt,[.slot 3 (.pt 3 0),.row 3 true (aN u)]):=by kernel_rfl
theorem aGu : nW = .seq (cA nW) (.seq (.seq (cA (cA (cB nW))) (.block 0 (.loop iZ))) (cB (cB nW))):=by kernel_rfl
theorem WW : iZ = .seq (cA iZ) (.seq (cA (cB iZ)) (.seq (.block 1 (.region 3 (cK (pO (cA (cB (cB iZ))))) false)) (cB (cB (cB iZ))))):=by kernel_rfl
structure St (w : World) (b : Nat) (A : List Fact) (u : aM) (a : Act) (wi : World) : Prop where
 hold : Holds f182.ntmps w.heap.size wi A a wi
 wr : WrAt w wi b []
 rng : wi.rangeAt b 0 (aA (aN u))
theorem St.step {w : World} {b : Nat} (hb : b < w.heap.size) {A L : List Fact} {u : aM} {a a2 : Act} {wi w2 : World} (h : St w b A u a wi) (h2 : Holds f182.ntmps w.heap.size wi L a2 w2) : St w b L u a2 w2 :=
 ⟨h2.now,h.wr.below hb h2.below,iR h2.below hb h.rng⟩
theorem aIM (x : aM) : (aN x).all cOk = true:=by kernel_rfl
theorem AB (x : aM) : cS (aN x) = 48:=by kernel_rfl
theorem aNk (x : aM) (i : Nat) : aD.mul (bN aD x (2 ^ i)) (bN aD x (2 ^ i)) = bN aD x (2 ^ (i + 1)):=by
 rw [← cI];congr 1;rw [Nat.pow_succ]; omega
theorem Zp (k : Nat) (hk : k < 4611686018427387904) (x : aM) (hx : qH x) (b : Nat) (w : World) (hb : b < w.heap.size) (hr : w.rangeAt b 0 (aA (aN x))) (hf : ∀ j,w.frozen? ⟨b,j,none⟩ = false) :
  Calls prog 182 #[iI k,iG b 0] w (fun e w' => e = .returned (.agg (aA (aN (bN aD x (2 ^ k)))).toArray) ∧ WrAt w w' b [] ∧ w'.rangeAt b 0 (aA (aN (bN aD x (2 ^ k))))):=by
 have hT : ∀ (n d : Nat) (wi : World),TabOkW prog (jZ true) w.heap.size wi:=fun _ _ wi => (gC true).w _ _
 have hTq : ∀ (d : Nat) (wi : World),TabOkW prog Vb w.heap.size wi:=fun _ wi => YF.w _ _
 have hq : ∀ wi : World,cN prog qN w.heap.size wi:=fun wi => aL.w _ _
 have hqo : ∀ (u : aM) (wi : World),wi.rangeAt b 0 (aA (aN u)) → cN prog { qG prog with x:=Xi u b } w.heap.size wi:=fun u wi h => Mu rfl rfl rfl fun b' o l e => by
  obtain ⟨rfl,rfl,rfl⟩:=e;exact ⟨hb,h⟩
 refine dS func182 (c:=nW) rfl (args:=[iI k,iG b 0]) (cs:=[.v (.im (iI k)),.v (.im (iG b 0))]) ⟨rfl,rfl,trivial⟩ (Nat.le_of_ble_eq_true (by kernel_rfl)) fun a w' hA => ?_
 have S : St w b _ x a w':=⟨hA.now,(WrAt.refl w b).below hb hA.below,iR hA.below hb hr⟩;clear hA;rw [aGu];refine wp_seq (aC aG (fun n d => hT n d _) (hq _) (aTP k b) trivial S.hold fun a w2 hA => ?_);replace S:=S.step hb hA;clear hA;refine wp_seq (wp_seq (aC aG (fun n d => hT n d _) (hq _) (aTO k b) trivial S.hold fun a w3 hA => ?_));replace S:=S.step hb hA;clear hA;refine wp_block ?_;refine pC (fun i a wi => St w b (qF k i b) (bN aD x (2 ^ i)) a wi) k (fun i hi a wi S R hR => ?_) (fun a wi S R => ?_) (by rw [Nat.pow_zero,KX]; exact S)
 ·rw [WW];refine wp_seq (aC aG (fun n d => (gC true).w _ _) (hq _) (aTQ k i b true) ⟨bX hi,trivial⟩ S.hold fun a w4 hA => ?_);replace S:=S.step hb hA;clear hA;refine wp_seq (aC aG (fun n d => hT n d _) (hq _) (aTR k i b) trivial S.hold fun a w5 hA => ?_);replace S:=S.step hb hA;clear hA;refine wp_seq (wp_block (sT (l:=List.range' 0 ((cK (pO (cA (cB (cB iZ))))).extract 0 2).size ++ (2 :: [])) (by kernel_rfl) ?_));refine cF (c:=cq 0) (fun d => hTq d _) (hqo _ _ S.rng) (aXj k i b _) ⟨⟨rfl,rfl,rfl⟩,AB _,QS hx _,trivial⟩ (by kernel_rfl) S.hold fun a w6 hA => ?_
  replace S:=S.step hb hA;clear hA;have h8:=S.hold.slotF (s:=8) (l:=aN (aD.mul (bN aD x (2 ^ i)) (bN aD x (2 ^ i)))) (by simp);have h1:=S.hold.slot (s:=1) (v:=iG b 0) (by simp [qF]);obtain ⟨o,ho,hoo,hod,hog⟩ : ∃ o,(cK (pO (cA (cB (cB iZ)))))[2]? = some o ∧ o.op = .store 42 (.tmp 1) (.tmp 8) ∧ o.dst = none ∧ o.guard = none:=⟨_,rfl,rfl,rfl,rfl⟩
  refine mA ho hog (Pe (b:=b) (n:=48) (p:=aN (aD.mul (bN aD x (2 ^ i)) (bN aD x (2 ^ i)))) (l:=aA (aN (bN aD x (2 ^ i)))) hoo hod (by simp [Act.eval,h1,iG]) (by simp [Act.eval,h8]) (by kernel_rfl) (AB _) (aIM _) S.rng (by rw [aU,AB]) (fun j => by rw [S.wr.frozen]; exact hf j) ?_);have S2 : St w b (.slot 8 (.fl (aN (aD.mul (bN aD x (2 ^ i)) (bN aD x (2 ^ i))))) :: qF k i b) (bN aD x (2 ^ (i + 1))) a (w6.setCells b 0 (aA (aN (aD.mul (bN aD x (2 ^ i)) (bN aD x (2 ^ i)))))) :=
   ⟨S.hold.setOld (by kernel_rfl) hb 0 _,S.wr.set 0 _,by rw [← aNk]; exact Su S.rng (by rw [aU,aU,AB,AB])⟩
  show (cB (cB (cB iZ))).wp _ _ _ _;refine aC aG (fun n d => hT n d _) (hq _) (aXk k i b) ⟨kQ (k:=1) (by omega),trivial⟩ (S2.hold.sub fun φ h => List.mem_cons_of_mem _ h) fun a w7 hA => ?_
  exact hR _ _ (S2.step hb hA)
 ·rw [WW];refine wp_seq (aC aG (fun n d => (gC true).w _ _) (hq _) (aTQ k k b false) ⟨eI (Nat.le_refl _),trivial⟩ S.hold fun a w4 hA => ?_);replace S:=S.step hb hA;clear hA;refine wp_seq (aC aG (fun n d => hT n d _) (hq _) (aTS k k b) trivial S.hold fun a w5 hA => ?_);replace S:=S.step hb hA;clear hA;show (cB (cB nW)).wp _ _ _ _;refine aC aG (fun n d => hT n d _) (hqo _ _ S.rng) (aXl k b _) ⟨⟨rfl,rfl,rfl⟩,AB _,trivial⟩ S.hold fun a w6 hA => ?_
  have S2:=S.step hb hA;exact pE (l:=[.fl (aN (bN aD x (2 ^ k)))]) (r:=.one (.fl (aN (bN aD x (2 ^ k))))) (by kernel_rfl) (by kernel_rfl) hA ⟨rfl,S2.wr,S2.rng⟩
end Go.Proofs.YtglgakbkdjhojaaGreat.Ex
