/- Pp12 -/
import Derived.Deep.DeepCutAuto
import Derived.LoopTactic
import Derived.Deep.LoopGhost
import Derived.RegionTactic
import Derived.Deep.RegionWith
import Derived.StillTail
import Derived.KernelRfl
import Derived.Test.YtglgakbkdjhojaaGreatPp11
import Derived.Test.YtglgakbkdjhojaaGreatPp02
import Derived.Test.YtglgakbkdjhojaaGreatPp07
import Derived.Test.YtglgakbkdjhojaaGreatPp05
import Derived.Test.YtglgakbkdjhojaaGreatPp08
import Derived.Test.YtglgakbkdjhojaaGreatPp06
import Derived.Test.YtglgakbkdjhojaaGreatPp04
import Derived.Test.YtglgakbkdjhojaaGreatProg
set_option maxRecDepth 100000
set_option linter.unusedVariables false
set_option linter.unusedSimpArgs false
noncomputable section
namespace Go.Proofs.YtglgakbkdjhojaaGreat.Ex
open Go.Proofs.Tryz
theorem PtOk.ad {P : Program} {T : Tab5} (hT : PtOk P T) {f : Nat} {fn : Func} (hf : P.funcs[f]? = some fn) {g : List CA → Option (List Prop × Nat × RV × List At)}
  (h : ∀ cs pre j r l,g cs = some (pre,j,r,l) → aY pre → ∀ (args : List Value) (w : World),bR w cs args → ∀ b o,args[j]? = some (.pointer (some ⟨b,o,none⟩)) → (∀ q,w.frozen? ⟨b,q,none⟩ = false) →
   Calls P f args.toArray w (fun e w' => e = .returned r.den ∧ WrC w w' b ∧ w'.rangeAt b 0 (aA l))) (hn : (fn.name == "runtime.NumGoroutine") = false:=by kernel_rfl) (hb : fn.body.isNone = false:=by kernel_rfl) : PtOk P (T.add f g):=hT.add hf hn hb h
theorem Cyc.neg {G V : Type} {A : AG G} {B : AG V} {c : G → G → V} (C : Cyc A B c) (g h : G) : c (A.neg g) (A.neg h) = B.neg (c g h):=by
 have e:=congrArg Prod.snd ((mD C).neg_add (eB B g) (eB B h));have e : B.neg (B.add (B.add B.zero B.zero) (c g h)) = B.add (B.add (B.neg B.zero) (B.neg B.zero)) (c (A.neg g) (A.neg h)):=e;rw [B.zadd,B.zadd,B.negz,B.zadd,B.zadd] at e;exact e.symm
theorem FN : cN aD.one = aD.one:=by decide
theorem aAC {a : aN} (h : a ≠ aD.zero) : cN a ≠ aD.zero:=fun e => by
 have t:=congrArg cN (jH h);rw [mZ,e,aD.zero_mul,FN] at t;exact jT.1 t.symm
theorem aTV {a : aN} (h : a ≠ aD.zero) : lJ (cN a) = cN (lJ a):=Lj (aAC h) (by rw [← mZ,jH h,FN])
theorem Zg (x : aN) (m n : Nat) : bO aD (bO aD x m) n = bO aD (bO aD x n) m:=by rw [← dO,← dO,Nat.mul_comm]
theorem aVb (a : aN) : cH (cN a) = cN (cH a):=by rw [IE,IE,mY,mY,Zg]
theorem aES (a : aN) : cM (cN a) = cN (cM a):=by rw [wC,wC,mY,mY,Zg]
theorem aUh (a : aN) : hX (cN a) = cN (hX a):=by rw [BF,BF,mY,mY,Zg]
theorem aOf {a : aN} (h : a ≠ aD.zero) : iO (cN a) = cN (iO a):=by
 unfold iO eZ;rw [aTV h,aVb,← mZ,aES,← mZ,aUh]
def fv (v : Vq) : Vq:=⟨cN v.1,aAC v.2⟩
theorem GS (v : Vq) : (fv v).1 = cN v.1:=rfl
theorem aKB {z : aN} (h : z ≠ aD.zero) : fv (lv z) = lv (cN z):=Subtype.ext (by rw [GS,cU h,cU (aAC h),aOf h])
theorem oA : fv vg.zero = vg.zero:=Subtype.ext (by rw [GS,DU,FN])
theorem aJB (v : Vq) : ∀ n,(vg.ns n v).1 = bO aD v.1 n
 | 0 => rfl
 | n + 1 => by
  show (vg.add (vg.ns n v) v).1 = aD.mul (bO aD v.1 n) v.1;rw [lD,aJB v n]
def sN : Nat:=yE + 2
def mN : Nat:=(sN + FP.M + FP.M * FP.M * FP.M - FP.M * FP.M) / Go.Proofs.YtglgakbkdjhojaaGreat.FR.M
theorem aSC : sN + FP.M + FP.M * FP.M * FP.M = FP.M * FP.M + Go.Proofs.YtglgakbkdjhojaaGreat.FR.M * mN:=by kernel_rfl
theorem aEO {x : aN} (h : bO aD x Go.Proofs.YtglgakbkdjhojaaGreat.FR.M = aD.one) : aD.mul (aD.mul (bO aD x sN) (cN x)) (cN (cN (cN x))) = cN (cN x):=by
 have e2 : cN (cN x) = bO aD x (FP.M * FP.M):=by rw [mY,mY,← dO]
 have e3 : cN (cN (cN x)) = bO aD x (FP.M * FP.M * FP.M):=by rw [e2,mY,← dO]
 rw [e3,e2,mY x,← cI,← cI,aSC,cI,dO aD x Go.Proofs.YtglgakbkdjhojaaGreat.FR.M,h,nS,aD.mul_comm,aD.one_mul]
def rOf (v : Vq) : Prop:=bO aD v.1 Go.Proofs.YtglgakbkdjhojaaGreat.FR.M = aD.one
theorem aCC {v : Vq} (h : rOf v) : vg.add (vg.add (vg.ns sN v) (fv v)) (fv (fv (fv v))) = fv (fv v):=Subtype.ext (by
 rw [lD,lD,aJB,GS,GS,GS];exact aEO h)
theorem oW : rOf vg.zero:=by
 unfold rOf;rw [DU,nS]
theorem Zb (z : aN) : rOf (lv z):=by
 by_cases h : z = aD.zero
 ·unfold lv;rw [dif_pos h];exact oW
 ·unfold rOf;rw [cU h];exact aUg (Mn (aKe h))
def Ar : Pt Fq → Pt Q2 → Pt Q2 → Vq
 | none,_,_ => vg.zero
 | some a,t,t' => cv a t t'
theorem nH (t t' : Pt Q2) : Ar none t t' = vg.zero:=rfl
theorem iP (a : Fq × Fq) (t t' : Pt Q2) : Ar (some a) t t' = cv a t t':=rfl
def CV (P : C1) (T T' : C2) : Vq:=Ar P.1 T.1 T'.1
theorem aYg : Cyc aZ.grp vg (fun T T' => Ar none T.1 T'.1) where
 coc T T' T'':=by rw [nH,nH,nH,nH]
 comm T T':=by rw [nH,nH]
 zl T:=by rw [nH]
 opp T:=by rw [nH]
theorem aYf {a : Fq × Fq} (h : On F1 (fm 3) (some a)) : Cyc aZ.grp vg (fun T T' => Ar (some a) T.1 T'.1) where
 coc T T' T'':=by
  rw [iP,iP,iP,iP,nD,nD];exact aPK h T.2 T'.2 T''.2
 comm T T':=by
  rw [iP,iP];exact Mu h T.2 T'.2
 zl T:=by
  rw [iP,show (aZ.grp.zero : C2).1 = none from rfl];exact ZT h T.1
 opp T:=by
  rw [iP,show (aZ.grp.neg T).1 = KR F2 T.1 from rfl];exact aPJ h T.1
theorem aYe : ∀ {p : Pt Fq},On F1 (fm 3) p → Cyc aZ.grp vg (fun T T' => Ar p T.1 T'.1)
 | none,_ => aYg
 | some a,h => aYf h
theorem aDj {a : Fq × Fq} (h : On F1 (fm 3) (some a)) {q : Pt Q2} (hq : On F2 dF q) : cv a q none = vg.zero:=by
 rw [Mu h hq (show On F2 dF none from trivial),ZT h]
theorem aDk {a : Fq × Fq} (h : On F1 (fm 3) (some a)) {t t' : Q2 × Q2} (hn : t.1 = t'.1 ∧ F2.add t.2 t'.2 = F2.zero) : cv a (some t) (some t') = vg.zero:=zK (Ez h hn)
theorem aKJ (a : Fq) : aJ (i2 a) = i2 a:=Prod.ext rfl (bK F1)
theorem aKI (a : Q2) : aJ (F2.neg a) = F2.neg (aJ a):=rfl
theorem Mi : Fw = F2.one:=by decide
theorem aUB : GX = kE:=by decide
theorem aUz : BH = iZ:=by decide
theorem aKD : Mh = nC:=by decide
theorem aTo (m d : Q2) (a b : Fq) : cN (lT m d a b) = lT (F2.mul (aJ m) GX) (F2.mul (aJ d) Mh) a b:=by
 show ((F2.mul (aJ (i2 b)) Fw,F2.mul (aJ F2.zero) BH,F2.mul (aJ F2.zero) Mg),(F2.mul (aJ (F2.neg (F2.mul m (i2 a)))) GX,F2.mul (aJ (F2.neg d)) Mh,F2.mul (aJ F2.zero) fb5)) = lT _ _ _ _;have e : F2.mul (F2.mul (aJ m) (i2 a)) GX = F2.mul (F2.mul (aJ m) GX) (i2 a):=by rw [F2.mul_assoc,F2.mul_comm (i2 a),← F2.mul_assoc]
 simp only [xX,F2.zero_mul,aKJ,Mi,F2.mul_one,aKI,RL,F2.neg_mul,e];rfl
theorem aTp (n c : Fq) (x y : Q2) : cN (lP n c x y) = lP n c (F2.mul (aJ x) BH) (F2.mul (aJ y) Mh):=by
 show ((F2.mul (aJ (F2.neg (i2 c))) Fw,F2.mul (aJ (F2.neg (F2.mul (i2 n) x))) BH,F2.mul (aJ F2.zero) Mg),(F2.mul (aJ F2.zero) GX,F2.mul (aJ y) Mh,F2.mul (aJ F2.zero) fb5)) = lP _ _ _ _;simp only [xX,F2.zero_mul,aKJ,Mi,F2.mul_one,aKI,RL,F2.neg_mul,F2.mul_assoc];rfl
theorem AN (p : Q2 × Q2) : JX (some p) = some (F2.mul (aJ p.1) iZ,F2.mul (aJ p.2) nC):=rfl
theorem aMQ {t : Pt Q2} (h : On F2 dF t) : On F2 dF (JX t):=by rw [rX]; exact aJC KL aZ h
theorem aGx {t t' : Pt Q2} (h : On F2 dF t) (h' : On F2 dF t') : JX (gZ F2 dT t t') = gZ F2 dT (JX t) (JX t'):=by
 rw [rX,rX,rX];exact Vm KL aZ h h'
theorem aOB {R : Type} (K : CR R) (Y M X k : R) : K.sub (K.mul Y (K.mul (K.mul k k) k)) (K.mul (K.mul M k) (K.mul X (K.mul k k))) = K.mul (K.sub Y (K.mul M X)) (K.mul (K.mul k k) k) :=
 aE K (aR K [Y,M,X,k]) (.add (.mul (.v 0) (.mul (.mul (.v 3) (.v 3)) (.v 3))) (.neg (.mul (.mul (.v 1) (.v 3)) (.mul (.v 2) (.mul (.v 3) (.v 3)))))) (.mul (.add (.v 0) (.neg (.mul (.v 1) (.v 2)))) (.mul (.mul (.v 3) (.v 3)) (.v 3))) (by kernel_rfl)
theorem aOA (m : Q2) (t : Q2 × Q2) : hgt F2 (F2.mul (aJ m) kE) (F2.mul (aJ t.1) iZ,F2.mul (aJ t.2) nC) = F2.mul (aJ (hgt F2 m t)) nC:=by
 have e : aJ (hgt F2 m t) = F2.sub (aJ t.2) (F2.mul (aJ m) (aJ t.1)):=by
  unfold hgt;rw [KL.sub,RL]
 rw [e,← Fa,← DB];exact aOB F2 (aJ t.2) (aJ m) (aJ t.1) kE
theorem aOi {t t' : Q2 × Q2} (ht : On F2 dF (some t)) (ht' : On F2 dF (some t')) (hn : ¬ (t.1 = t'.1 ∧ F2.add t.2 t'.2 = F2.zero)) (a : Fq × Fq) :
  lnT (F2.mul (aJ t.1) iZ,F2.mul (aJ t.2) nC) (F2.mul (aJ t'.1) iZ,F2.mul (aJ t'.2) nC) a = cN (lnT t t' a):=by
 have hs:=TK KL aZ (x1:=t.1) (y1:=t.2) (x2:=t'.1) (y2:=t'.2) ht ht' hn;rw [Fa,DB] at hs;rw [oI,oI,aTo];dsimp only;rw [hs,aOA,aUB,aKD]
theorem aPL {p : Pt Fq} {t t' : Pt Q2} (hp : On F1 (fm 3) p) (ht : On F2 dF t) (ht' : On F2 dF t') : Ar p (JX t) (JX t') = fv (Ar p t t'):=by
 match p,t,t' with
 | none,_,_ => rw [nH,nH,oA]
 | some a,none,_ => rw [iP,iP,show JX none = none from rfl,ZT hp,ZT hp,oA]
 | some a,some t,none => rw [iP,iP,show JX none = none from rfl,aDj hp (aMQ ht),aDj hp ht,oA]
 | some a,some t,some t' =>
  rw [iP,iP]
  by_cases hn : t.1 = t'.1 ∧ F2.add t.2 t'.2 = F2.zero
  ·rw [aDk hp hn,oA,AN,AN];refine aDk hp ⟨?_,?_⟩
   ·dsimp only;rw [hn.1]
   ·dsimp only;rw [← F2.add_mul,← aDB,hn.2,xX,F2.zero_mul]
  ·have h3:=aGx ht ht';rw [jD hn,AN,AN,AN] at h3;have hn':=CU (by rw [← h3]; exact Option.some_ne_none _);rw [AN,AN,xV hp hn,xV hp hn',aKB (vD (gT hp)),aOi ht ht' hn]
theorem aOe {p p' s : Pt Fq} {t : Pt Q2} (ht : On F2 dF t) : JF p p' s (JX t) = fv (JF p p' s t):=by
 match p,p',s,t with
 | none,_,_,_ => rw [BB,BB,oA]
 | some p,none,_,_ => rw [BA,BA,oA]
 | some p,some q,none,_ => rw [AZ,AZ,oA]
 | some p,some q,some s,none => rw [show JX none = none from rfl,LY,oA]
 | some p,some q,some s,some t =>
  rw [AN,AY,AY,aKB (zM (lL ht)),vF,vF,aTp,aUz,aKD]
theorem Eu {p : Pt Fq} (hp : On F1 (fm 3) p) {t t' : Q2 × Q2} (hn : ¬ (t.1 = t'.1 ∧ F2.add t.2 t'.2 = F2.zero)) : Ev (some t) (some t') p = Ar p (some t) (some t'):=by
 match p with
 | none => rw [YK,nH]
 | some a => rw [LU,iP,xV hp hn]
theorem Gc {p : Pt Fq} (hp : On F1 (fm 3) p) (t : Pt Q2) : Ar p none t = vg.zero:=by
 match p with
 | none => rw [nH]
 | some a => rw [iP,ZT hp]
theorem Gb {p : Pt Fq} (hp : On F1 (fm 3) p) {t : Pt Q2} (ht : On F2 dF t) : Ar p t none = vg.zero:=by
 match p with
 | none => rw [nH]
 | some a => rw [iP,aDj hp ht]
theorem Gd {p : Pt Fq} (hp : On F1 (fm 3) p) {t t' : Q2 × Q2} (hn : t.1 = t'.1 ∧ F2.add t.2 t'.2 = F2.zero) : Ar p (some t) (some t') = vg.zero:=by
 match p with
 | none => rw [nH]
 | some a => rw [iP,aDk hp hn]
theorem aNw {R : Type} {K : CR R} {t t' : R × R} (hn : t.1 = t'.1 ∧ K.add t.2 t'.2 = K.zero) : t' = (t.1,K.neg t.2):=Prod.ext hn.1.symm (by
 apply K.add_cancel (a:=t.2);rw [hn.2,K.add_neg])
theorem aOz {p p' : Pt Fq} {t t' : Pt Q2} (hp : On F1 (fm 3) p) (hp' : On F1 (fm 3) p') (ht : On F2 dF t) (ht' : On F2 dF t') :
  vg.add (vg.add (Ar p t t') (Ar p' t t')) (JF p p' (gZ F1 cO p p') (gZ F2 dT t t')) = vg.add (Ar (gZ F1 cO p p') t t') (vg.add (JF p p' (gZ F1 cO p p') t) (JF p p' (gZ F1 cO p p') t')):=by
 have hs:=hp.add iY hp'
 match t,t' with
 | none,t' => rw [Gc hp,Gc hp',Gc hs,LY,Ak,vg.zadd,vg.zadd,vg.zadd,show gZ F2 dT none t' = t' from rfl]
 | some t,none => rw [Gb hp ht,Gb hp' ht,Gb hs ht,LY,Ak,vg.zadd,vg.addz,vg.zadd,show gZ F2 dT (some t) none = some t from rfl]
 | some t,some t' =>
  by_cases hn : t.1 = t'.1 ∧ F2.add t.2 t'.2 = F2.zero
  ·rw [kG hn,Gd hp hn,Gd hp' hn,Gd hs hn,LY,Ak,Ak,aNw hn,← Dr,Lb hp hp' rfl ht,Ak]
  ·have r:=Lp hp hp' ht ht' (Option.some_ne_none _) (Option.some_ne_none _) (by rw [jD hn]; exact Option.some_ne_none _);rw [Eu hp hn,Eu hp' hn,Eu hs hn] at r;exact r
theorem aGw : GHom aZ.grp aZ.grp pR:=⟨Iz⟩
def oJ (Q : C2) : Prop:=aZ.grp.ns oQ Q = aZ.grp.zero
def kN : Nat:=(sN + cF + cF * (cF * cF) - cF * cF) / oQ
theorem aTU : sN + cF + cF * (cF * cF) = cF * cF + oQ * kN:=by kernel_rfl
theorem aBY {Q : C2} (h : oJ Q) : tot aZ.grp sN Q (pR Q) (pR (pR Q)) = aZ.grp.neg (pR (pR (pR Q))):=by
 have e:=(Fe Q).2 h;have e2 : pR (pR Q) = aZ.grp.ns (cF * cF) Q:=by rw [← e,EZ,← e,aZ.grp.ns_mul]
 have e3 : pR (pR (pR Q)) = aZ.grp.ns (cF * (cF * cF)) Q:=by
  rw [e2,EZ,← e];rw [aZ.grp.ns_mul cF _ (cF * cF),aZ.grp.ns_mul cF _ cF]
 refine NN ?_;rw [e3,e2,← e,← aZ.grp.ns_add,← aZ.grp.ns_add,aTU,aZ.grp.ns_add,aZ.grp.ns_mul oQ,show aZ.grp.ns oQ Q = aZ.grp.zero from h,aZ.grp.ns_zero,aZ.grp.addz]
theorem aHO {Q Q' : C2} (h : oJ Q) (h' : oJ Q') : oJ (aZ.grp.add Q Q'):=by
 unfold oJ at h h' ⊢;rw [aZ.grp.ns_sum,h,h',aZ.grp.zadd]
theorem Ff {Q : C2} (h : oJ Q) : ∀ n,oJ (aZ.grp.ns n Q)
 | 0 => aZ.grp.ns_zero oQ
 | n + 1 => aHO (Ff h n) h
theorem aMN {p : Pt Fq} (t t' : Pt Q2) : rOf (Ar p t t'):=by
 match p with
 | none => rw [nH]; exact oW
 | some a => rw [iP]; exact Zb _
theorem aGq (p p' s : Pt Fq) (t : Pt Q2) : rOf (JF p p' s t):=by
 match p,p',s,t with
 | none,_,_,_ => rw [BB]; exact oW
 | some p,none,_,_ => rw [BA]; exact oW
 | some p,some q,none,_ => rw [AZ]; exact oW
 | some p,some q,some s,none => rw [LY]; exact oW
 | some p,some q,some s,some t => rw [AY]; exact Zb _
theorem Tz (P : C1) : Cyc aZ.grp vg (CV P):=by
 unfold CV;exact aYe P.2
theorem aRz (P : C1) (g k : C2) : CV P (pR g) (pR k) = fv (CV P g k):=by
 unfold CV;exact aPL P.2 g.2 k.2
theorem aYs (P : C1) (g k : C2) : rOf (CV P g k):=by
 unfold CV;exact aMN _ _
theorem aRv (P P' : C1) (g k : C2) : vg.add (vg.add (CV P g k) (CV P' g k)) (HV P P' (aZ.grp.add g k)) = vg.add (CV (iY.grp.add P P') g k) (vg.add (HV P P' g) (HV P P' k)):=by
 unfold HV CV;rw [YX,nD];exact aOz P.2 P'.2 g.2 k.2
theorem aRt (P P' : C1) (g : C2) : HV P P' (pR g) = fv (HV P P' g):=by
 unfold HV;exact aOe g.2
theorem aYo (P P' : C1) (g : C2) : rOf (HV P P' g):=by
 unfold HV;exact aGq _ _ _ _
def SZ (P : C1) (Q : C2) : Vq:=(fin (Tz P) sN pR Q).2
section
variable {G V : Type} {A : AG G} {B : AG V}
theorem aPn {c : G → G → V} (C : Cyc A B c) {s : Nat} {ψ : G → G} {φ : V → V} (hψ : GHom A A ψ) (hc : ∀ g h,c (ψ g) (ψ h) = φ (c g h)) (hv : ∀ g h,B.add (B.add (B.ns s (c g h)) (φ (c g h))) (φ (φ (φ (c g h)))) = φ (φ (c g h)))
  {P : G → Prop} (hP : ∀ Q,P Q → tot A s Q (ψ Q) (ψ (ψ Q)) = A.neg (ψ (ψ (ψ Q)))) : ∀ Q Q',P Q → P Q' → (fin C s ψ (A.add Q Q')).2 = B.add (fin C s ψ Q).2 (fin C s ψ Q').2 :=
 fun Q Q' h h' => (To C hψ hc C.neg (hv Q Q') (hP Q h) (hP Q' h')).symm
theorem aPo {c1 c2 c3 : G → G → V} (C1 : Cyc A B c1) (C2 : Cyc A B c2) (C3 : Cyc A B c3) {h : G → V} (hh : ∀ g k,B.add (B.add (c1 g k) (c2 g k)) (h (A.add g k)) = B.add (c3 g k) (B.add (h g) (h k)))
  {s : Nat} {ψ : G → G} {φ : V → V} (hψ : ∀ g,h (ψ g) = φ (h g)) (hn : ∀ g,h (A.neg g) = B.neg (h g)) (hv : ∀ g,B.add (B.add (B.ns s (h g)) (φ (h g))) (φ (φ (φ (h g)))) = φ (φ (h g)))
  {P : G → Prop} (hP : ∀ Q,P Q → tot A s Q (ψ Q) (ψ (ψ Q)) = A.neg (ψ (ψ (ψ Q)))) : ∀ Q,P Q → (fin C3 s ψ Q).2 = B.add (fin C1 s ψ Q).2 (fin C2 s ψ Q).2 :=
 fun Q q => (Tp C1 C2 C3 hh hψ hn (hv Q) (hP Q q)).symm
end
theorem aRy (P : C1) (g k : C2) : vg.add (vg.add (vg.ns sN (CV P g k)) (fv (CV P g k))) (fv (fv (fv (CV P g k)))) = fv (fv (CV P g k)):=aCC (aYs P g k)
theorem aRs (P P' : C1) (g : C2) : vg.add (vg.add (vg.ns sN (HV P P' g)) (fv (HV P P' g))) (fv (fv (fv (HV P P' g)))) = fv (fv (HV P P' g)):=aCC (aYo P P' g)
theorem aVn (P : C1) {Q Q' : C2} (h : oJ Q) (h' : oJ Q') : SZ P (aZ.grp.add Q Q') = vg.add (SZ P Q) (SZ P Q') :=
 aPn (Tz P) aGw (aRz P) (aRy P) (P:=oJ) (fun Q => aBY) Q Q' h h'
theorem aVo (P P' : C1) {Q : C2} (h : oJ Q) : SZ (iY.grp.add P P') Q = vg.add (SZ P Q) (SZ P' Q) :=
 aPo (Tz P) (Tz P') (Tz (iY.grp.add P P')) (h:=HV P P') (aRv P P') (aRt P P') (aRu P P') (aRs P P') (P:=oJ) (fun Q => aBY) Q h
theorem aQI {Q : C2} (h : oJ Q) : SZ iY.grp.zero Q = vg.zero:=by
 have e:=aVo iY.grp.zero iY.grp.zero h;rw [iY.grp.zadd] at e;apply vg.cancel (a:=SZ iY.grp.zero Q);rw [← e,vg.addz]
theorem Hv : oJ aZ.grp.zero:=aZ.grp.ns_zero oQ
theorem aQH (P : C1) : SZ P aZ.grp.zero = vg.zero:=by
 have e:=aVn P Hv Hv;rw [aZ.grp.zadd] at e;apply vg.cancel (a:=SZ P aZ.grp.zero);rw [← e,vg.addz]
structure Walks (f : aN) (p : J2) (T : C2) (F : Vq) : Prop where
 ne : f ≠ aD.zero
 val : lv f = F
 tells : fT F2 dT p = T.1
 fin : T.1 ≠ none
theorem Walks.z {f : aN} {p : J2} {T : C2} {F : Vq} (w : Walks f p T F) : p.2.2 ≠ F2.zero:=fun e => w.fin (by rw [← w.tells]; exact dE e)
theorem Walks.on {f : aN} {p : J2} {T : C2} {F : Vq} (w : Walks f p T F) : On F2 dF (fT F2 dT p):=by rw [w.tells]; exact T.2
theorem PW {a b : aN} (ha : a ≠ aD.zero) (hb : b ≠ aD.zero) : lv (aD.mul a b) = vg.add (lv a) (lv b):=Subtype.ext (by
 rw [lD,cU ha,cU hb,cU (nA ha hb),cV ha hb])
theorem Walks.sq {f : aN} {p : J2} {T : C2} {F : Vq} (w : Walks f p T F) : Walks (aD.mul f f) p T (vg.add F F):=⟨nA w.ne w.ne,by rw [PW w.ne w.ne,w.val],w.tells,w.fin⟩
def wD (p : J2) (a : Fq × Fq) : aN:=Up (tF p.1 p.2.1 p.2.2) (tS p.1 p.2.1 p.2.2) (tH p.1 p.2.1 p.2.2) a
def sQ (p : J2) (q : Q2 × Q2) (a : Fq × Fq) : aN:=Up (Uq p.1 p.2.2 q.1) (sR p.2.1 p.2.2 q.2) (F2.sub (F2.mul (sR p.2.1 p.2.2 q.2) q.1) (F2.mul (Uq p.1 p.2.2 q.1) q.2)) a
def gS (p : J2) (q : Q2 × Q2) : J2:=(sX F2 p.1 (rE p.1 p.2.2 q.1) (sR p.2.1 p.2.2 q.2),sY F2 p.1 p.2.1 (rE p.1 p.2.2 q.1) (sR p.2.1 p.2.2 q.2),F2.mul p.2.2 (rE p.1 p.2.2 q.1))
theorem aBS (p : J2) (q : Q2 × Q2) : GO F2 p (q.1,q.2,F2.one) = gS p q:=by
 unfold GO gS BE YU DC BD rE sR;simp only [F2.mul_one]
theorem aVA {P : C1} {a : Fq × Fq} (h : P.1 = some a) (T T' : C2) : CV P T T' = cv a T.1 T'.1:=by
 unfold CV;rw [h,iP]
theorem Walks.tan {P : C1} {a : Fq × Fq} (h : P.1 = some a) {f : aN} {p : J2} {T : C2} {F : Vq} (w : Walks f p T F) (h2 : (aZ.grp.add T T).1 ≠ none) : Walks (aD.mul f (wD p a)) (cG F2 p) (aZ.grp.add T T) (vg.add F (CV P T T)):=by
 have ha : On F1 (fm 3) (some a):=by rw [← h]; exact P.2
 have t : wD p a ≠ aD.zero ∧ lv (wD p a) = cv a (fT F2 dT p) (fT F2 dT p):=aMc ha (x:=p.1) (y:=p.2.1) (z:=p.2.2) w.z w.on;refine ⟨nA w.ne t.1,?_,?_,h2⟩
 ·rw [aVA h,← w.tells];rw [PW w.ne t.1,w.val,t.2]
 ·rw [QD aZ w.on,w.tells,nD]
theorem aMC {x y x' y' : Q2} (h : On F2 dF (some (x,y))) (h' : On F2 dF (some (x',y'))) (e : x = x') : (x',y') = (x,y) ∨ (x',y') = (x,F2.neg y):=by
 subst e
 by_cases hy : y = y'
 ·exact Or.inl (by rw [hy])
 ·refine Or.inr (Prod.ext rfl ?_);have h1 : F2.mul y y = F2.add (F2.mul x (F2.mul x x)) dF:=h;have h2 : F2.mul y' y' = F2.add (F2.mul x (F2.mul x x)) dF:=h';have s:=EI aZ (h1.trans h2.symm) hy;apply F2.add_cancel (a:=y);show F2.add y y' = F2.add y (F2.neg y);rw [s,F2.add_neg]
theorem Walks.cho {P : C1} {a : Fq × Fq} (h : P.1 = some a) {f : aN} {p : J2} {T Q : C2} {q : Q2 × Q2} (hq : Q.1 = some q) {F : Vq} (w : Walks f p T F) (h1 : T ≠ Q) (h2 : (aZ.grp.add T Q).1 ≠ none) :
  Walks (aD.mul f (sQ p q a)) (gS p q) (aZ.grp.add T Q) (vg.add F (CV P T Q)):=by
 have ha : On F1 (fm 3) (some a):=by rw [← h]; exact P.2
 have hqo : On F2 dF (some (q.1,q.2)):=by have:=Q.2; rw [hq] at this; exact this
 have hA : rE p.1 p.2.2 q.1 ≠ F2.zero:=fun e => by
  have ej:=dR (K:=F2) (inv:=dT) (p:=p) w.z;have hi : F2.mul p.2.2 (dT p.2.2) = F2.one:=aZ.F.inv p.2.2 w.z;rw [w.tells] at ej;have ho:=T.2;rw [ej] at ho;have ex : q.1 = F2.mul p.1 (F2.mul (dT p.2.2) (dT p.2.2)):=by
   have e1 : F2.mul q.1 (F2.mul p.2.2 p.2.2) = p.1:=iL e;rw [← e1];have e2:=aKK (x:=q.1) (z:=dT p.2.2) (i:=p.2.2) (by rw [F2.mul_comm]; exact hi);exact e2.symm
  rcases aMC ho hqo ex.symm with s | s
  ·exact h1 (Subtype.ext (by rw [ej,hq]; exact congrArg some s.symm))
  ·refine h2 ?_;rw [nD,ej,hq];refine kG ⟨?_,?_⟩
   ·exact (congrArg Prod.fst s).symm
   ·show F2.add _ q.2 = F2.zero;rw [show q.2 = _ from congrArg Prod.snd s];exact F2.add_neg _
 have t : sQ p q a ≠ aD.zero ∧ lv (sQ p q a) = cv a (fT F2 dT p) (some q):=aQf ha (x:=p.1) (y:=p.2.1) (z:=p.2.2) (u:=q.1) (v:=q.2) w.z w.on hqo hA;refine ⟨nA w.ne t.1,?_,?_,h2⟩
 ·rw [aVA h,← w.tells,hq];rw [PW w.ne t.1,w.val,t.2]
 ·have o:=aZ.jto_one q.1 q.2;have j:=Li aZ (p:=p) (q:=(q.1,q.2,F2.one)) w.on (by rw [o]; exact hqo) w.z aZ.F.ne (fun k => hA (by
   have k1:=k.1;unfold BE DC at k1;simp only [F2.mul_one] at k1;exact k1))
  rw [aBS,o,w.tells] at j;rw [nD,hq];exact j
theorem aGy : ∀ q,q ∈ [oQ] → dV q:=fun q hq => by
 have e : q = oQ:=by simpa using hq
 rw [e];exact aJL
theorem Jk : 0 < oQ:=of_decide_eq_true (by kernel_rfl)
theorem aNW {Q : C2} (h : oJ Q) (m : Nat) : aZ.grp.ns m Q = aZ.grp.ns (m % oQ) Q:=by
 conv => lhs; rw [← Nat.mod_add_div m oQ]
 rw [aZ.grp.ns_add,aZ.grp.ns_mul,show aZ.grp.ns oQ Q = aZ.grp.zero from h,aZ.grp.ns_zero,aZ.grp.addz]
theorem Eo (Q : C2) : aZ.grp.ns 1 Q = Q:=aZ.grp.zadd Q
theorem aAx : oQ / oQ = 1:=Nat.div_self Jk
theorem aBl {Q : C2} (h : oJ Q) (h0 : Q ≠ aZ.grp.zero) {m : Nat} (hm : m % oQ ≠ 0) : aZ.grp.ns m Q ≠ aZ.grp.zero:=by
 rw [aNW h];refine aZ.grp.exact (N:=oQ) (l:=[oQ]) (Nat.mul_one oQ) aGy h (fun q hq => ?_) _ (Nat.pos_of_ne_zero hm) (Nat.mod_lt _ Jk);have e : q = oQ:=by simpa using hq
 rw [e,aAx,Eo];exact h0
def okc (m k : Nat) : Bool:=decide ((m + k) % oQ ≠ 0) && decide ((m + k * (oQ - 1)) % oQ ≠ 0)
theorem OY {T : C2} (h : T ≠ aZ.grp.zero) : T.1 ≠ none:=fun e => h (Subtype.ext e)
theorem aHf {Q : C2} (h : oJ Q) (h0 : Q ≠ aZ.grp.zero) {m k : Nat} (o : okc m k = true) : (aZ.grp.add (aZ.grp.ns m Q) (aZ.grp.ns k Q)).1 ≠ none:=by
 rw [← aZ.grp.ns_add];unfold okc at o;rw [Bool.and_eq_true] at o;exact OY (aBl h h0 (of_decide_eq_true o.1))
theorem aNv : 1 + (oQ - 1) = oQ:=by kernel_rfl
theorem Kq {Q : C2} (h : oJ Q) : aZ.grp.ns (oQ - 1) Q = aZ.grp.neg Q:=by
 apply aZ.grp.cancel (a:=Q);rw [aZ.grp.addn]
 conv => lhs; rw [← Eo Q]
 rw [Eo Q];have e:=aZ.grp.ns_add 1 Q (oQ - 1);rw [aNv,Eo,show aZ.grp.ns oQ Q = aZ.grp.zero from h] at e;exact e.symm
theorem aNE {Q : C2} (h : oJ Q) (h0 : Q ≠ aZ.grp.zero) {m k : Nat} (o : okc m k = true) : aZ.grp.ns m Q ≠ aZ.grp.ns k Q:=fun e => by
 unfold okc at o;rw [Bool.and_eq_true] at o;refine aBl h h0 (of_decide_eq_true o.2) ?_;rw [aZ.grp.ns_add,e,aZ.grp.ns_mul,Kq (Ff h k),aZ.grp.addn]
theorem Walks.cho_n {P : C1} {a : Fq × Fq} (h : P.1 = some a) {f : aN} {p : J2} {Q R : C2} {q : Q2 × Q2} {F : Vq} (hG : oJ Q) (h0 : Q ≠ aZ.grp.zero) {m k : Nat} (hk : aZ.grp.ns k Q = R) (hq : R.1 = some q)
  (w : Walks f p (aZ.grp.ns m Q) F) (o : okc m k = true) : Walks (aD.mul f (sQ p q a)) (gS p q) (aZ.grp.add (aZ.grp.ns m Q) R) (vg.add F (CV P (aZ.grp.ns m Q) R)):=by
 subst hk;exact w.cho h hq (aNE hG h0 o) (aHf hG h0 o)
def mst (a : Fq × Fq) (q : Q2 × Q2) (d : Int) (s : aN × J2) : aN × J2 :=
 if d = 1 then (aD.mul (aD.mul (aD.mul s.1 s.1) (wD s.2 a)) (sQ (cG F2 s.2) q a),gS (cG F2 s.2) q)
 else if d = -1 then (aD.mul (aD.mul (aD.mul s.1 s.1) (wD s.2 a)) (sQ (cG F2 s.2) (q.1,F2.neg q.2) a),gS (cG F2 s.2) (q.1,F2.neg q.2))
 else (aD.mul (aD.mul s.1 s.1) (wD s.2 a),cG F2 s.2)
def CD (a : Fq × Fq) (q : Q2 × Q2) : List Int → aN × J2 → aN × J2
 | [],s => s
 | d :: ds,s => CD a q ds (mst a q d s)
def nxt (d : Int) (m : Nat) : Nat:=if d = 1 then m + m + 1 else if d = -1 then m + m + (oQ - 1) else m + m
def Ia (d : Int) (m : Nat) : Bool:=decide ((m + m) % oQ ≠ 0) && (if d = 1 then okc (m + m) 1 else if d = -1 then okc (m + m) (oQ - 1) else true)
def aEK : List Int → Nat → Bool
 | [],_ => true
 | d :: ds,m => Ia d m && aEK ds (nxt d m)
def aBn : List Int → Nat → Nat
 | [],m => m
 | d :: ds,m => aBn ds (nxt d m)
theorem aOc {P : C1} {a : Fq × Fq} (h : P.1 = some a) {Q : C2} {q : Q2 × Q2} (hq : Q.1 = some q) (hG : oJ Q) (h0 : Q ≠ aZ.grp.zero) {d : Int} {m : Nat} {s : aN × J2} {F : Vq} (w : Walks s.1 s.2 (aZ.grp.ns m Q) F) (o : Ia d m = true) :
  Walks (mst a q d s).1 (mst a q d s).2 (aZ.grp.ns (nxt d m) Q) (stF aZ.grp vg (CV P) Q d F (aZ.grp.ns m Q)) ∧ Uo aZ.grp Q d (aZ.grp.ns m Q) = aZ.grp.ns (nxt d m) Q:=by
 unfold Ia at o;rw [Bool.and_eq_true] at o;have hd : aZ.grp.add (aZ.grp.ns m Q) (aZ.grp.ns m Q) = aZ.grp.ns (m + m) Q:=(aZ.grp.ns_add m Q m).symm;have w2:=w.sq.tan h (by rw [hd]; exact OY (aBl hG h0 (of_decide_eq_true o.1)));rw [hd] at w2;unfold mst nxt stF Uo
 by_cases h1 : d = 1
 ·simp only [if_pos h1] at o ⊢;have w3:=w2.cho_n h hG h0 (Eo Q) hq o.2;rw [hd];have e : aZ.grp.ns (m + m + 1) Q = aZ.grp.add (aZ.grp.ns (m + m) Q) Q:=rfl;rw [e];exact ⟨w3,rfl⟩
 ·simp only [if_neg h1] at o ⊢
  by_cases h2 : d = -1
  ·simp only [if_pos h2] at o ⊢;have hq' : (aZ.grp.neg Q).1 = some (q.1,F2.neg q.2):=by
    show KR F2 Q.1 = _;rw [hq];rfl
   have w3:=w2.cho_n h hG h0 (Kq hG) hq' o.2;rw [hd];have e : aZ.grp.ns (m + m + (oQ - 1)) Q = aZ.grp.add (aZ.grp.ns (m + m) Q) (aZ.grp.neg Q):=by rw [aZ.grp.ns_add,Kq hG]
   rw [e];exact ⟨w3,rfl⟩
  ·simp only [if_neg h2] at o ⊢;exact ⟨w2,hd⟩
theorem Kv {P : C1} {a : Fq × Fq} (h : P.1 = some a) {Q : C2} {q : Q2 × Q2} (hq : Q.1 = some q) (hG : oJ Q) (h0 : Q ≠ aZ.grp.zero) : ∀ (ds : List Int) (m : Nat) (s : aN × J2) (F : Vq),Walks s.1 s.2 (aZ.grp.ns m Q) F → aEK ds m = true →
  Walks (CD a q ds s).1 (CD a q ds s).2 (aZ.grp.ns (aBn ds m) Q) (Yq aZ.grp vg (CV P) Q ds F (aZ.grp.ns m Q)) ∧ yR aZ.grp Q ds (aZ.grp.ns m Q) = aZ.grp.ns (aBn ds m) Q
 | [],m,s,F,w,_ => ⟨w,rfl⟩
 | d :: ds,m,s,F,w,o => by
  have o : (Ia d m && aEK ds (nxt d m)) = true:=o;rw [Bool.and_eq_true] at o;have r:=aOc h hq hG h0 w o.1;have r2:=Kv h hq hG h0 ds (nxt d m) (mst a q d s) _ r.1 o.2;show Walks (CD a q ds (mst a q d s)).1 (CD a q ds (mst a q d s)).2 (aZ.grp.ns (aBn ds (nxt d m)) Q) (Yq aZ.grp vg (CV P) Q ds (stF aZ.grp vg (CV P) Q d F (aZ.grp.ns m Q)) (Uo aZ.grp Q d (aZ.grp.ns m Q))) ∧ yR aZ.grp Q ds (Uo aZ.grp Q d (aZ.grp.ns m Q)) = _;rw [r.2];exact r2
def tY : List Int:=[0,-1,0,1,0,0,0,-1,0,-1,0,0,0,-1,0,1,0,-1,0,0,-1,0,0,0,0,0,1,0,0,-1,0,1,0,0,-1,0,0,0,0,-1,0,1,0,0,0,-1,0,-1,0,0,1,0,0,0,-1,0,0,-1,0,1,0,1,0,0,0]
theorem aYb : hdg tY 1 = (sN : Int):=by kernel_rfl
theorem aPE : aEK tY 1 = true:=by kernel_rfl
def aCV : Nat:=aBn tY 1
theorem aUK : okc aCV cF = true:=by kernel_rfl
theorem aUJ : okc (aCV + cF) (cF * cF * (oQ - 1)) = true:=by kernel_rfl
def gP (q : Q2 × Q2) : Q2 × Q2:=(F2.mul (aJ q.1) iZ,F2.mul (aJ q.2) nC)
def LR (q : Q2 × Q2) : Q2 × Q2:=(q.1,F2.neg q.2)
def mil (a : Fq × Fq) (q : Q2 × Q2) : aN :=
 aD.mul (aD.mul (CD a q tY (aD.one,(q.1,q.2,F2.one))).1 (sQ (CD a q tY (aD.one,(q.1,q.2,F2.one))).2 (gP q) a)) (sQ (gS (CD a q tY (aD.one,(q.1,q.2,F2.one))).2 (gP q)) (LR (gP (gP q))) a)
theorem aHy {P : C1} {a : Fq × Fq} (h : P.1 = some a) {Q : C2} {q : Q2 × Q2} (hq : Q.1 = some q) (hG : oJ Q) : mil a q ≠ aD.zero ∧ lv (mil a q) = SZ P Q:=by
 have h0 : Q ≠ aZ.grp.zero:=fun e => by rw [e] at hq; exact absurd (show (none : Pt Q2) = some q from hq) (by intro z; cases z)
 have w0 : Walks aD.one (q.1,q.2,F2.one) (aZ.grp.ns 1 Q) vg.zero:=by
  rw [Eo];exact ⟨jT.1,zK ⟨jT.1,CY⟩,by rw [hq]; exact aZ.jto_one q.1 q.2,OY h0⟩
 have r:=Kv h hq hG h0 tY 1 (aD.one,(q.1,q.2,F2.one)) vg.zero w0 aPE;rw [Eo] at r;unfold mil;generalize CD a q tY (aD.one,(q.1,q.2,F2.one)) = s at r ⊢;obtain ⟨w,rT⟩:=r;have e1 : (pR Q).1 = some (gP q):=by
  show JX Q.1 = _;rw [hq];rfl
 have e2 : (aZ.grp.neg (pR (pR Q))).1 = some (LR (gP (gP q))):=by
  show KR F2 (JX (pR Q).1) = _;rw [e1];rfl
 have k1 : aZ.grp.ns cF Q = pR Q:=(Fe Q).2 hG;have k2 : aZ.grp.ns (cF * cF * (oQ - 1)) Q = aZ.grp.neg (pR (pR Q)):=by
  rw [aZ.grp.ns_mul,Kq (Ff hG _),aZ.grp.ns_mul,k1,← EZ,k1]
 have w1:=w.cho_n h hG h0 k1 e1 aUK;have e3 : aZ.grp.add (aZ.grp.ns aCV Q) (pR Q) = aZ.grp.ns (aCV + cF) Q:=by rw [aZ.grp.ns_add,k1]
 have w1' : Walks _ _ (aZ.grp.add (aZ.grp.ns aCV Q) (pR Q)) _:=w1;rw [e3] at w1';have w2:=w1'.cho_n h hG h0 k2 e2 aUJ;refine ⟨w2.ne,?_⟩;rw [w2.val];have f:=congrArg Prod.snd (aFY (Tz P) Q aYb pR);unfold SZ;rw [f,rT,← e3];rfl
open Go.RowKit
theorem At.pos (a : At) : 0 < a.sz:=by cases a <;> simp [At.sz]
theorem Ms (l : List At) : dp l 0 = some l:=by cases l <;> rfl
theorem aFc (l : List At) : tk l 0 = some []:=by cases l <;> rfl
theorem DD : ∀ (x y : List At) (m : Nat),dp (x ++ y) (cS x + m) = dp y m
 | [],y,m => by show dp y (0 + m) = _; rw [Nat.zero_add]
 | a :: x,y,m => by
  have h:=a.pos;have e : ∀ n,dp (a :: (x ++ y)) n = (bif Nat.beq n 0 then some (a :: (x ++ y)) else bif Nat.ble a.sz n then dp (x ++ y) (n - a.sz) else none):=fun _ => rfl
  show dp (a :: (x ++ y)) (a.sz + cS x + m) = _;rw [e];have e1 : Nat.beq (a.sz + cS x + m) 0 = false:=by cases hb : Nat.beq (a.sz + cS x + m) 0; rfl; have:=Nat.eq_of_beq_eq_true hb; omega
  have e2 : Nat.ble a.sz (a.sz + cS x + m) = true:=Nat.ble_eq_true_of_le (by omega);rw [e1,e2,show a.sz + cS x + m - a.sz = cS x + m by omega];exact DD x y m
theorem Ie : ∀ (x y : List At) (m : Nat) (t : List At),tk y m = some t → tk (x ++ y) (cS x + m) = some (x ++ t)
 | [],y,m,t,h => by show tk y (0 + m) = _; rw [Nat.zero_add]; exact h
 | a :: x,y,m,t,h => by
  have hp:=a.pos;show tk (a :: (x ++ y)) (a.sz + cS x + m) = _;unfold tk;have e1 : Nat.beq (a.sz + cS x + m) 0 = false:=by cases hb : Nat.beq (a.sz + cS x + m) 0; rfl; have:=Nat.eq_of_beq_eq_true hb; omega
  have e2 : Nat.ble a.sz (a.sz + cS x + m) = true:=Nat.ble_eq_true_of_le (by omega);rw [e1,e2,show a.sz + cS x + m - a.sz = cS x + m by omega];show (tk (x ++ y) (cS x + m)).map (a :: ·) = _;rw [Ie x y m t h];rfl
theorem DE : ∀ (x y : List At) (n : Nat) (r : List At),dp x n = some r → dp (x ++ y) n = some (r ++ y)
 | [],y,n,r,h => by
  unfold dp at h;cases hb : Nat.beq n 0 <;> rw [hb] at h
  ·cases h
  ·cases h;rw [Nat.eq_of_beq_eq_true hb];exact Ms y
 | a :: x,y,n,r,h => by
  unfold dp at h;show dp (a :: (x ++ y)) n = _;unfold dp;cases hb : Nat.beq n 0 <;> rw [hb] at h
  ·cases hs : Nat.ble a.sz n <;> rw [hs] at h
   ·cases h
   ·exact DE x y _ r h
  ·cases h; rfl
theorem NU : ∀ (x y : List At) (n : Nat) (t : List At),tk x n = some t → tk (x ++ y) n = some t
 | [],y,n,t,h => by
  unfold tk at h;cases hb : Nat.beq n 0 <;> rw [hb] at h
  ·cases h
  ·cases h;rw [Nat.eq_of_beq_eq_true hb];exact aFc y
 | a :: x,y,n,t,h => by
  unfold tk at h;show tk (a :: (x ++ y)) n = _;unfold tk;cases hb : Nat.beq n 0 <;> rw [hb] at h
  ·cases hs : Nat.ble a.sz n <;> rw [hs] at h
   ·cases h
   ·have h : (tk x (n - a.sz)).map (a :: ·) = some t:=h;cases hr : tk x (n - a.sz) with
    | none => rw [hr] at h; cases h
    | some t' =>
     rw [hr] at h;show (tk (x ++ y) (n - a.sz)).map (a :: ·) = _;rw [NU x y _ _ hr];exact h
  ·cases h; rfl
abbrev Wk:=(Fq × Fq) × (Q2 × Q2) × J2
def wA (W : Wk) : List At:=[.f W.1.1,.f W.1.2,.c (.bool false),.f W.2.1.1.1,.f W.2.1.1.2,.f W.2.1.2.1,.f W.2.1.2.2,.c (.bool false),.f W.2.2.1.1,.f W.2.2.1.2,.f W.2.2.2.1.1,.f W.2.2.2.1.2,.f W.2.2.2.2.1,.f W.2.2.2.2.2]
def rows : List Wk → List At
 | [] => []
 | W :: r => wA W ++ rows r
theorem wQ : ∀ (a b : List Wk),rows (a ++ b) = rows a ++ rows b
 | [],b => rfl
 | W :: a,b => by show wA W ++ rows (a ++ b) = (wA W ++ rows a) ++ rows b; rw [wQ a b,List.append_assoc]
theorem OO : ∀ Ws : List Wk,cS (rows Ws) = 50 * Ws.length
 | [] => rfl
 | W :: r => by
  show cS (wA W ++ rows r) = _;rw [vJ,OO r,List.length_cons];show 50 + _ = _;omega
theorem Iq {Ws : List Wk} {j : Nat} {W : Wk} (h : Ws[j]? = some W) : ∃ a b,Ws = a ++ W :: b ∧ a.length = j:=by
 obtain ⟨hlt,he⟩:=List.getElem?_eq_some_iff.1 h;exact ⟨Ws.take j,Ws.drop (j + 1),by rw [← he,List.getElem_cons_drop hlt,List.take_append_drop],by rw [List.length_take]; omega⟩
theorem fK {Ws : List Wk} {j o n : Nat} {W : Wk} {s : List At} (h : Ws[j]? = some W) (hs : fO (wA W) o n = some s) : fO (rows Ws) (50 * j + o) n = some s:=by
 obtain ⟨a,b,rfl,rfl⟩:=Iq h;rw [wQ,← OO];show fO (rows a ++ (wA W ++ rows b)) _ n = _;unfold fO at hs ⊢;rw [DD];cases hd : dp (wA W) o with
 | none => rw [hd] at hs; cases hs
 | some r =>
  rw [hd] at hs;rw [DE _ _ _ _ hd];exact NU _ _ _ _ hs
theorem oX {Ws : List Wk} {j o : Nat} {W W' : Wk} {v : List At} (h : Ws[j]? = some W) (hs : put (wA W) o v = some (wA W')) : put (rows Ws) (50 * j + o) v = some (rows (Ws.set j W')):=by
 obtain ⟨a,b,rfl,rfl⟩:=Iq h;rw [wQ,← OO];have e : (a ++ W :: b).set a.length W' = a ++ W' :: b:=by simp
 rw [e,wQ];show put (rows a ++ (wA W ++ rows b)) _ v = some (rows a ++ (wA W' ++ rows b));unfold put at hs ⊢;cases ht : tk (wA W) o with
 | none => rw [ht] at hs; cases hs
 | some t =>
  cases hd : dp (wA W) o with
  | none => rw [ht,hd] at hs; cases hs
  | some r =>
   rw [ht,hd] at hs;simp only at hs;cases hr : dp r (cS v) with
   | none => rw [hr] at hs; cases hs
   | some s =>
    rw [hr] at hs;rw [Ie _ _ _ _ (NU _ (rows b) _ _ ht),DD,DE _ (rows b) _ _ hd];simp only;rw [DE _ (rows b) _ _ hr];simp only [Option.some.injEq] at hs ⊢;rw [← hs];simp only [List.append_assoc]
section
variable {R A Q S : Type} (K : CR R) (lfG : A → Q → Int → S → R) (npG : Q → Int → S → S) (ewG : A → Q → S → R)
def jG (d : Int) : R → List (A × Q × S) → R
 | f,[] => f
 | f,W :: r => jG d (K.mul f (lfG W.1 W.2.1 d W.2.2)) r
def Wq (d : Int) (W : A × Q × S) : A × Q × S:=(W.1,W.2.1,npG W.2.1 d W.2.2)
def lZ : List Int → R × List (A × Q × S) → R × List (A × Q × S)
 | [],s => s
 | d :: ds,s => lZ ds (jG K lfG d (K.mul s.1 s.1) s.2,s.2.map (Wq npG d))
def lV : R → List (A × Q × S) → R
 | f,[] => f
 | f,W :: r => lV (K.mul f (ewG W.1 W.2.1 W.2.2)) r
def dQ : List R → R
 | [] => K.one
 | x :: r => K.mul x (dQ r)
def aBs (a : A) (q : Q) (d : Int) (s : R × S) : R × S:=(K.mul (K.mul s.1 s.1) (lfG a q d s.2),npG q d s.2)
def xK (a : A) (q : Q) : List Int → R × S → R × S
 | [],s => s
 | d :: ds,s => xK a q ds (aBs K lfG npG a q d s)
def wG (x : (A × Q) × (R × S)) : A × Q × S:=(x.1.1,x.1.2,x.2.2)
def sxG (d : Int) (x : (A × Q) × (R × S)) : (A × Q) × (R × S):=(x.1,aBs K lfG npG x.1.1 x.1.2 d x.2)
theorem LZ (d : Int) : ∀ (l : List ((A × Q) × (R × S))) (f : R),jG K lfG d f (l.map wG) = K.mul f (dQ K (l.map fun x => lfG x.1.1 x.1.2 d x.2.2))
 | [],f => (K.mul_one f).symm
 | x :: r,f => by
  show jG K lfG d (K.mul f (lfG x.1.1 x.1.2 d x.2.2)) (r.map wG) = K.mul f (K.mul (lfG x.1.1 x.1.2 d x.2.2) _);rw [LZ d r,K.mul_assoc]
theorem aGe (z y P L : R) : K.mul (K.mul (K.mul z z) y) (K.mul (K.mul P P) L) = K.mul (K.mul (K.mul z P) (K.mul z P)) (K.mul y L) :=
 aE K (aR K [z,y,P,L]) (.mul (.mul (.mul (.v 0) (.v 0)) (.v 1)) (.mul (.mul (.v 2) (.v 2)) (.v 3))) (.mul (.mul (.mul (.v 0) (.v 2)) (.mul (.v 0) (.v 2))) (.mul (.v 1) (.v 3))) (by kernel_rfl)
theorem aGf (a b c d : R) : K.mul (K.mul a c) (K.mul b d) = K.mul (K.mul a b) (K.mul c d) :=
 aE K (aR K [a,b,c,d]) (.mul (.mul (.v 0) (.v 2)) (.mul (.v 1) (.v 3))) (.mul (.mul (.v 0) (.v 1)) (.mul (.v 2) (.v 3))) (by kernel_rfl)
theorem FA (d : Int) : ∀ l : List ((A × Q) × (R × S)),dQ K ((l.map (sxG K lfG npG d)).map fun x => x.2.1) = K.mul (K.mul (dQ K (l.map fun x => x.2.1)) (dQ K (l.map fun x => x.2.1))) (dQ K (l.map fun x => lfG x.1.1 x.1.2 d x.2.2))
 | [] => by show K.one = K.mul (K.mul K.one K.one) K.one; rw [K.mul_one,K.mul_one]
 | x :: r => by
  show K.mul (K.mul (K.mul x.2.1 x.2.1) (lfG x.1.1 x.1.2 d x.2.2)) (dQ K ((r.map (sxG K lfG npG d)).map fun x => x.2.1)) = K.mul (K.mul (K.mul x.2.1 (dQ K (r.map fun x => x.2.1))) (K.mul x.2.1 (dQ K (r.map fun x => x.2.1)))) (K.mul (lfG x.1.1 x.1.2 d x.2.2) (dQ K (r.map fun x => lfG x.1.1 x.1.2 d x.2.2)));rw [FA d r];exact aGe K _ _ _ _
theorem Ip : ∀ (ds : List Int) (l : List ((A × Q) × (R × S))),lZ K lfG npG ds (dQ K (l.map fun x => x.2.1),l.map wG) = (dQ K (l.map fun x => (xK K lfG npG x.1.1 x.1.2 ds x.2).1),l.map fun x => (x.1.1,x.1.2,(xK K lfG npG x.1.1 x.1.2 ds x.2).2))
 | [],l => rfl
 | d :: ds,l => by
  show lZ K lfG npG ds (jG K lfG d (K.mul (dQ K (l.map fun x => x.2.1)) (dQ K (l.map fun x => x.2.1))) (l.map wG),(l.map wG).map (Wq npG d)) = _;have h:=Ip ds (l.map (sxG K lfG npG d));rw [FA] at h;rw [LZ];have e : (l.map wG).map (Wq npG d) = (l.map (sxG K lfG npG d)).map wG:=by
   rw [List.map_map,List.map_map];rfl
  rw [e,h,List.map_map,List.map_map];rfl
theorem ZO : ∀ (l : List (A × Q × S)) (f : R),lV K ewG f l = K.mul f (dQ K (l.map fun W => ewG W.1 W.2.1 W.2.2))
 | [],f => (K.mul_one f).symm
 | W :: r,f => by
  show lV K ewG (K.mul f (ewG W.1 W.2.1 W.2.2)) r = K.mul f (K.mul (ewG W.1 W.2.1 W.2.2) _);rw [ZO r,K.mul_assoc]
theorem KV {α : Type} (g h : α → R) : ∀ l : List α,K.mul (dQ K (l.map g)) (dQ K (l.map h)) = dQ K (l.map fun x => K.mul (g x) (h x))
 | [] => K.one_mul _
 | x :: r => by
  show K.mul (K.mul (g x) (dQ K (r.map g))) (K.mul (h x) (dQ K (r.map h))) = K.mul (K.mul (g x) (h x)) _;rw [← KV g h r];exact aGf K _ _ _ _
theorem KU {α : Type} (g : α → R) (hg : ∀ x,g x = K.one) : ∀ l : List α,dQ K (l.map g) = K.one
 | [] => rfl
 | x :: r => by show K.mul (g x) (dQ K (r.map g)) = _; rw [hg,KU g hg r,K.one_mul]
theorem aBA (ds : List Int) (st : Q → S) (l : List (A × Q)) : lV K ewG (lZ K lfG npG ds (K.one,l.map fun x => (x.1,x.2,st x.2))).1 (lZ K lfG npG ds (K.one,l.map fun x => (x.1,x.2,st x.2))).2 =
  dQ K (l.map fun x => K.mul (xK K lfG npG x.1 x.2 ds (K.one,st x.2)).1 (ewG x.1 x.2 (xK K lfG npG x.1 x.2 ds (K.one,st x.2)).2)):=by
 have h:=Ip K lfG npG ds (l.map fun x => (x,(K.one,st x.2)));rw [List.map_map,KU K ((fun x : (A × Q) × (R × S) => x.2.1) ∘ fun x => (x,(K.one,st x.2))) (fun x => rfl),List.map_map,List.map_map,List.map_map] at h;have e : l.map (wG ∘ fun x : A × Q => (x,(K.one,st x.2))) = l.map fun x => (x.1,x.2,st x.2):=rfl
 rw [e] at h;rw [h,ZO,List.map_map,KV];rfl
end
def lf (a : Fq × Fq) (q : Q2 × Q2) (d : Int) (p : J2) : aN :=
 if d = 1 then aD.mul (wD p a) (sQ (cG F2 p) q a) else if d = -1 then aD.mul (wD p a) (sQ (cG F2 p) (q.1,F2.neg q.2) a) else wD p a
def np (q : Q2 × Q2) (d : Int) (p : J2) : J2:=if d = 1 then gS (cG F2 p) q else if d = -1 then gS (cG F2 p) (q.1,F2.neg q.2) else cG F2 p
def ew (a : Fq × Fq) (q : Q2 × Q2) (p : J2) : aN:=aD.mul (sQ p (gP q) a) (sQ (gS p (gP q)) (LR (gP (gP q))) a)
theorem aOd (a : Fq × Fq) (q : Q2 × Q2) (d : Int) (s : aN × J2) : mst a q d s = aBs aD lf np a q d s:=by
 unfold mst aBs lf np
 by_cases h1 : d = 1
 ·simp only [if_pos h1,aD.mul_assoc]
 ·by_cases h2 : d = -1
  ·simp only [if_neg h1,if_pos h2,aD.mul_assoc]
  ·simp only [if_neg h1,if_neg h2]
theorem aBt (a : Fq × Fq) (q : Q2 × Q2) : ∀ (ds : List Int) (s : aN × J2),CD a q ds s = xK aD lf np a q ds s
 | [],s => rfl
 | d :: ds,s => by
  show CD a q ds (mst a q d s) = xK aD lf np a q ds (aBs aD lf np a q d s);rw [aOd,aBt a q ds]
theorem aTK (a : Fq × Fq) (q : Q2 × Q2) : aD.mul (xK aD lf np a q tY (aD.one,(q.1,q.2,F2.one))).1 (ew a q (xK aD lf np a q tY (aD.one,(q.1,q.2,F2.one))).2) = mil a q:=by
 unfold mil;rw [← aBt];generalize CD a q tY (aD.one,(q.1,q.2,F2.one)) = s;unfold ew;exact (aD.mul_assoc _ _ _).symm
def bW (x : (Fq × Fq) × (Q2 × Q2)) : Wk:=(x.1,x.2,(x.2.1,x.2.2,F2.one))
def xM (l : List ((Fq × Fq) × (Q2 × Q2))) : aN:=lV aD ew (lZ aD lf np tY (aD.one,l.map bW)).1 (lZ aD lf np tY (aD.one,l.map bW)).2
theorem YO (l : List ((Fq × Fq) × (Q2 × Q2))) : xM l = dQ aD (l.map fun x => mil x.1 x.2):=by
 refine (aBA aD lf np ew tY (fun q => (q.1,q.2,F2.one)) l).trans (congrArg (dQ aD) (List.map_congr_left fun x _ => ?_));exact aTK x.1 x.2
def gFN : lO
 | [.v (.im (.int .i64 (.ofNat 1))),.v (.fl [a])] => match vp a with
  | some (p,x) => some (p,.many [.fl (e1 (F1.neg x)),.im (.int .i64 0)])
  | none => none
 | _ => none
theorem aOY : ∀ cs pre r,gFN cs = some (pre,r) → aY pre → ∀ (args : List Value) (w : World),bR w cs args → Good prog 23 r args w:=by
 intro cs pre r hg hp args w ha;unfold gFN at hg;split at hg
 ·rename_i a;split at hg
  ·rename_i p x hx;cases hg;obtain ⟨n,e1,rfl,hn⟩:=TD hx hp
   match args,ha with
   | [t,v],ha =>
    have h0 : t = .int .i64 1:=ha.1;have h1 : v = .agg (aA [a]).toArray:=ha.2.1;rw [e1] at h1;subst h0; subst h1;have e : (0 + FP.M - wv n) % FP.M = (F1.neg (m1 n)).1:=by
     show _ = (0 + FP.M - wv n % FP.M) % FP.M;rw [Nat.mod_eq_of_lt hn]
    refine (Lz 1 FP sK _ _ _ _ (dL n) hn w).mono ?_
    rintro e' w' ⟨s0,s1,s2,s3,rfl,hs,hv,hb⟩
    have hv : aF s0 s1 s2 s3 = (F1.neg (m1 n)).1:=hv.trans e;obtain ⟨rfl,rfl,rfl,rfl⟩:=nZ hs (BG (F1.neg (m1 n)).2) hv;exact ⟨rfl,hb⟩
   | [],ha => exact ha.elim
   | [_],ha => exact ha.2.elim
   | _ :: _ :: _ :: _,ha => exact ha.2.2.elim
  ·cases hg
 ·cases hg
def aOZ : lO
 | [.v (.im (.int .i64 (.ofNat 1))),.s l n m,.s l' n' m'] => bif Nat.beq n n' && Nat.ble n 6 then (match XP n l,XP n' l' with
  | some x,some y => some ([],.many [.fl (e1 (qQ x y)),.im (.int .i64 0)])
  | _,_ => none) else none
 | _ => none
theorem aIh : ∀ cs pre r,aOZ cs = some (pre,r) → aY pre → ∀ (args : List Value) (w : World),bR w cs args → Good prog 21 r args w:=by
 intro cs pre r hg hp args w ha;unfold aOZ at hg;split at hg
 ·rename_i l n m l' n' m';cases hb : (Nat.beq n n' && Nat.ble n 6) <;> rw [hb] at hg
  ·cases hg
  ·simp only [cond_true] at hg;split at hg
   ·rename_i x y hx hy;cases hg;rw [Bool.and_eq_true] at hb;cases Nat.eq_of_beq_eq_true hb.1;have h6:=Nat.le_of_ble_eq_true hb.2
    match args,ha with
    | [t,v,u],ha =>
     have h0 : t = .int .i64 1:=ha.1;subst h0;obtain ⟨_,⟨b,o,rfl,h1,h2⟩,⟨b',o',rfl,h3,h4⟩,_⟩:=ha;have l1:=(tD hx).1;have l2:=(tD hy).1;refine (Mf 1 FP sK _ _ n m n m' (lw x) (lw y) rfl (by omega) (fun k hk => by rw [LT]; exact Fin.isLt _) (fun k hk => by rw [LT]; exact Fin.isLt _) w (PV hx h6 h1 h2) (PV hy h6 h3 h4)).mono ?_
     rintro e' w' ⟨s0,s1,s2,s3,rfl,hs,hv,hb⟩
     have hv : aF s0 s1 s2 s3 = (qQ x y).1:=by rw [hv,ZS x y (by omega),l1]
     obtain ⟨rfl,rfl,rfl,rfl⟩:=nZ hs (BG (qQ x y).2) hv;exact ⟨rfl,hb⟩
    | [],ha => exact ha.elim
    | [_],ha => exact ha.2.elim
    | [_,_],ha => exact ha.2.2.elim
    | _ :: _ :: _ :: _ :: _,ha => exact ha.2.2.2.elim
   ·cases hg
 ·cases hg
theorem aLo (x : Q2) : F2.sub F2.zero x = F2.neg x:=F2.zero_add _
theorem Vd (y : N2) : vY 171 [.v (.fl (q2 y))] = some ([],.one (.fl (e2 (F2.sub F2.zero (m2 y))))):=by kernel_rfl
def Gr : Tab:=vY.add 171 (g1 KP fun y => ([],.one (.fl (e2 (F2.neg y)))))
theorem Jp : TabOk prog Gr:=tG.ad func171 (jI (op:=fun y => ([],.one (.fl (e2 (F2.neg y))))) fR fun y hp args w ha => by
 have h:=(tG _ _ _ _ (Vd y) trivial).2 args w ha;rw [aLo] at h;exact h)
theorem Xd (x : N2) : bH prog Gr qN (fun _ => true) f208 40 [.v (.fl (q2 x))] = some ([],.one (.fl (e2 (F2.mul (m2 x) dC)))):=by kernel_rfl
def aLd : Tab:=Gr.add 208 (g1 KP fun x => ([],.one (.fl (e2 (F2.mul x dC)))))
theorem aNJ : TabOk prog aLd:=Jp.ad func208 (jI fR fun x hp args w ha => aH aG Jp aM func208 (Xd x) hp ha)
theorem Pe (x : gB) : bH prog (dZ true) qN (fun _ => true) f114 40 [.v (.fl (fC x))] = some ([],.one (.fl (aL (aD.mul (eD x) (eD x))))):=by kernel_rfl
def aLe : Tab:=aLd.add 114 (g1 EJ fun x => ([],.one (.fl (aL (aD.mul x x)))))
theorem aNK : TabOk prog aLe:=aNJ.ad func114 (jI lY fun x hp args w ha => aH aG (dJ true) aM func114 (Pe x) hp ha)
def aEj : Tab:=(aLe.add 23 gFN).add 21 aOZ
theorem aAH : TabOk prog aEj:=(aNK.ad func23 aOY).ad func21 aIh
def wq (T : Tab) : Nat → Cfg:=fun _ => ⟨fun _ => T,fun _ => true,fun _ => none⟩
theorem OG (x : Q2) : aW prog (qG prog) (wq aEj) f211 40 [.v (.fl (e2 x))] = some ([],.one (.fl (e2 (F2.mul x x)))):=by kernel_rfl
def aRg : Tab:=aEj.add 211 (g1 JW fun x => ([],.one (.fl (e2 (F2.mul x x)))))
theorem aJU : TabOk prog aRg:=aAH.ad func211 (bC fJ fun x hp args w ha => aB aG (fun _ _ => aAH) (aK _) func211 (OG x) trivial ha)
theorem OH (x : Q2) : aW prog (qG prog) (wq aRg) f212 40 [.v (.fl (e2 x))] = some ([],.one (.fl (e2 (F2.add x x)))):=by kernel_rfl
def aRf : Tab:=aRg.add 212 (g1 JW fun x => ([],.one (.fl (e2 (F2.add x x)))))
theorem aJT : TabOk prog aRf:=aJU.ad func212 (bC fJ fun x hp args w ha => aB aG (fun _ _ => aJU) (aK _) func212 (OH x) trivial ha)
theorem OF (x : Q2) : aW prog (qG prog) (wq aRf) f210 40 [.v (.fl (e2 x))] = some ([],.one (.fl (e2 (F2.add (F2.add x x) x)))):=by kernel_rfl
def aRe : Tab:=aRf.add 210 (g1 JW fun x => ([],.one (.fl (e2 (F2.add (F2.add x x) x)))))
theorem aJS : TabOk prog aRe:=aJT.ad func210 (bC fJ fun x hp args w ha => aB aG (fun _ _ => aJT) (aK _) func210 (OF x) trivial ha)
theorem UH (x : Q2) (k : Fq) : aW prog (qG prog) (wq aRe) f248 40 [.v (.fl (e2 x)),.v (.fl (e1 k))] = some ([],.one (.fl (e2 (pQ x k)))):=by kernel_rfl
def aJm : Tab:=aRe.add 248 (g2 JW Iv fun x k => ([],.one (.fl (e2 (pQ x k)))))
theorem aAG : TabOk prog aJm:=aJS.ad func248 (fB fJ lG fun x k hp args w ha => aB aG (fun _ _ => aJS) (aK _) func248 (UH x k) trivial ha)
def oO (x : aN) : List At:=[.f x.1.1.1,.f x.1.1.2,.f x.2.1.1,.f x.2.1.2,.f x.1.2.1.1,.f x.1.2.1.2,.f x.2.2.1.1,.f x.2.2.1.2,.f x.1.2.2.1,.f x.1.2.2.2,.f x.2.2.2.1,.f x.2.2.2.2]
def aGm : List At → Option aN | [.f a,.f b,.f c,.f d,.f e,.f f,.f g,.f h,.f i,.f j,.f k,.f l] => some (((a,b),(e,f),(i,j)),((c,d),(g,h),(k,l))) | _ => none
theorem Ir : Rd aGm oO:=fun l x h => by unfold aGm at h; split at h <;> cases h; rfl
theorem aFz (x : aN) : aW prog (qG prog) (wq aJm) f116 60 [.v (.fl (aL x))] = some ([],.one (.fl (oO x))):=by kernel_rfl
theorem Xe (x : aN) : aW prog (qG prog) (wq aJm) f117 60 [.v (.fl (oO x))] = some ([],.one (.fl (aL x))):=by kernel_rfl
def aLc : Tab:=aJm.add 116 (g1 oC fun x => ([],.one (.fl (oO x))))
theorem aNI : TabOk prog aLc:=aAG.ad func116 (bC dG fun x hp args w ha => aB aG (fun _ _ => aAG) (aK _) func116 (aFz x) trivial ha)
def aJl : Tab:=aLc.add 117 (g1 aGm fun x => ([],.one (.fl (aL x))))
theorem aAF : TabOk prog aJl:=aNI.ad func117 (bC Ir fun x hp args w ha => aB aG (fun _ _ => aAG) (aK _) func117 (Xe x) trivial ha)
def CZ (l : Q6) : aN:=((l.1,F2.zero,F2.zero),(l.2.1,l.2.2,F2.zero))
def lnR (F S H : Q2) (a : Fq × Fq) : Q6:=(pQ F a.2,pQ S (F1.neg a.1),H)
theorem Ww (x : Q2) (k : Fq) : pQ x k = F2.mul x (i2 k):=by
 show (F1.mul x.1 k,F1.mul x.2 k) = (F1.add (F1.mul x.1 k) (F1.mul (F1.neg F1.one) (F1.mul x.2 F1.zero)),F1.add (F1.mul x.1 F1.zero) (F1.mul x.2 k));rw [F1.mul_zero,F1.mul_zero,F1.mul_zero,F1.add_zero,F1.zero_add]
theorem aKq (F S H : Q2) (a : Fq × Fq) : CZ (lnR F S H a) = Up F S H a:=by
 unfold CZ lnR Up;rw [Ww,Ww]
def gTh : lO
 | [.v (.fl [.f a,.f b,.c _]),.v (.fl l1),.v (.fl l2),.v (.fl l3)] => match JW l1,JW l2,JW l3 with
  | some F,some S,some H => some ([],.one (.fl (e6 (lnR F S H (a,b)))))
  | _,_,_ => none
 | _ => none
theorem UO (a b : Fq) (v : Value) (F S H : Q2) : aW prog (qG prog) (wq aJl) f214 60 [.v (.fl [.f a,.f b,.c v]),.v (.fl (e2 F)),.v (.fl (e2 S)),.v (.fl (e2 H))] = some ([],.one (.fl (e6 (lnR F S H (a,b))))):=by kernel_rfl
theorem aOJ : ∀ cs pre r,gTh cs = some (pre,r) → aY pre → ∀ (args : List Value) (w : World),bR w cs args → Good prog 214 r args w:=by
 intro cs pre r hg hp args w ha;unfold gTh at hg;split at hg
 ·rename_i a b v l1 l2 l3;split at hg
  ·rename_i F S H h1 h2 h3;cases hg;refine aB aG (fun _ _ => aAF) (aK _) func214 (UO a b v F S H) trivial ?_
   match args,ha with
   | [w1,w2,w3,w4],ha =>
    refine ⟨ha.1,?_,?_,?_,trivial⟩
    ·show w2 = .agg (aA (e2 F)).toArray;rw [← fJ _ _ h1]; exact ha.2.1
    ·show w3 = .agg (aA (e2 S)).toArray;rw [← fJ _ _ h2]; exact ha.2.2.1
    ·show w4 = .agg (aA (e2 H)).toArray;rw [← fJ _ _ h3]; exact ha.2.2.2.1
   | [],ha => exact ha.elim
   | [_],ha => exact ha.2.elim
   | [_,_],ha => exact ha.2.2.elim
   | [_,_,_],ha => exact ha.2.2.2.elim
   | _ :: _ :: _ :: _ :: _ :: _,ha => exact ha.2.2.2.2.elim
  ·cases hg
 ·cases hg
def rwS (l : Q6) : List Fq:=[l.1.1,F1.neg l.1.2,l.2.1.1,F1.neg l.2.1.2,l.2.2.1,F1.neg l.2.2.2]
def rwC (l : Q6) : List Fq:=[l.1.2,l.1.1,l.2.1.2,l.2.1.1,l.2.2.2,l.2.2.1]
theorem Pf (l : Q6) : aW prog (qG prog) (wq aJl) f209 80 [.v (.fl (e6 l))] = some ([],.many [.fl ((rwS l).map .f),.fl ((rwC l).map .f)]):=by kernel_rfl
def aLb : Tab:=aJl.add 214 gTh
theorem aNH : TabOk prog aLb:=aAF.ad func214 aOJ
def aRd : Tab:=aLb.add 209 (g1 Se fun l => ([],.many [.fl ((rwS l).map .f),.fl ((rwC l).map .f)]))
theorem aJR : TabOk prog aRd:=aNH.ad func209 (bC mT fun l hp args w ha => aB aG (fun _ _ => aAF) (aK _) func209 (Pf l) trivial ha)
def rD (l : Q6) (c0 c1 c2 : Q2) : Q2:=(qQ (rwS l) [c0.1,c0.2,c1.1,c1.2,c2.1,c2.2],qQ (rwC l) [c0.1,c0.2,c1.1,c1.2,c2.1,c2.2])
def Bc (x : aN) (l : Q6) : aN:=((rD l x.1.1 (F2.mul x.2.2.2 dC) (F2.mul x.2.2.1 dC),rD l x.1.2.1 x.2.1 (F2.mul x.2.2.2 dC),rD l x.1.2.2 x.2.2.1 x.2.1),(rD l x.2.1 x.1.1 (F2.mul x.1.2.2 dC),rD l x.2.2.1 x.1.2.1 x.1.1,rD l x.2.2.2 x.1.2.2 x.1.2.1))
theorem aSU (l : Q6) (c0 c1 c2 : Q2) : rD l c0 c1 c2 = F2.add (F2.add (F2.mul l.1 c0) (F2.mul l.2.1 c1)) (F2.mul l.2.2 c2):=by
 refine Prod.ext ?_ ?_
 ·show F1.add (F1.add (F1.add (F1.add (F1.add (F1.mul l.1.1 c0.1) (F1.mul (F1.neg l.1.2) c0.2)) (F1.mul l.2.1.1 c1.1)) (F1.mul (F1.neg l.2.1.2) c1.2)) (F1.mul l.2.2.1 c2.1)) (F1.mul (F1.neg l.2.2.2) c2.2) = F1.add (F1.add (F1.add (F1.mul l.1.1 c0.1) (F1.mul (F1.neg F1.one) (F1.mul l.1.2 c0.2))) (F1.add (F1.mul l.2.1.1 c1.1) (F1.mul (F1.neg F1.one) (F1.mul l.2.1.2 c1.2)))) (F1.add (F1.mul l.2.2.1 c2.1) (F1.mul (F1.neg F1.one) (F1.mul l.2.2.2 c2.2)));exact aE F1 (aR F1 [l.1.1,l.1.2,l.2.1.1,l.2.1.2,l.2.2.1,l.2.2.2,c0.1,c0.2,c1.1,c1.2,c2.1,c2.2]) (.add (.add (.add (.add (.add (.mul (.v 0) (.v 6)) (.mul (.neg (.v 1)) (.v 7))) (.mul (.v 2) (.v 8))) (.mul (.neg (.v 3)) (.v 9))) (.mul (.v 4) (.v 10))) (.mul (.neg (.v 5)) (.v 11))) (.add (.add (.add (.mul (.v 0) (.v 6)) (.mul (.neg .one) (.mul (.v 1) (.v 7)))) (.add (.mul (.v 2) (.v 8)) (.mul (.neg .one) (.mul (.v 3) (.v 9))))) (.add (.mul (.v 4) (.v 10)) (.mul (.neg .one) (.mul (.v 5) (.v 11))))) (by kernel_rfl)
 ·show F1.add (F1.add (F1.add (F1.add (F1.add (F1.mul l.1.2 c0.1) (F1.mul l.1.1 c0.2)) (F1.mul l.2.1.2 c1.1)) (F1.mul l.2.1.1 c1.2)) (F1.mul l.2.2.2 c2.1)) (F1.mul l.2.2.1 c2.2) = F1.add (F1.add (F1.add (F1.mul l.1.1 c0.2) (F1.mul l.1.2 c0.1)) (F1.add (F1.mul l.2.1.1 c1.2) (F1.mul l.2.1.2 c1.1))) (F1.add (F1.mul l.2.2.1 c2.2) (F1.mul l.2.2.2 c2.1));exact aE F1 (aR F1 [l.1.1,l.1.2,l.2.1.1,l.2.1.2,l.2.2.1,l.2.2.2,c0.1,c0.2,c1.1,c1.2,c2.1,c2.2]) (.add (.add (.add (.add (.add (.mul (.v 1) (.v 6)) (.mul (.v 0) (.v 7))) (.mul (.v 3) (.v 8))) (.mul (.v 2) (.v 9))) (.mul (.v 5) (.v 10))) (.mul (.v 4) (.v 11))) (.add (.add (.add (.mul (.v 0) (.v 7)) (.mul (.v 1) (.v 6))) (.add (.mul (.v 2) (.v 9)) (.mul (.v 3) (.v 8)))) (.add (.mul (.v 4) (.v 11)) (.mul (.v 5) (.v 10)))) (by kernel_rfl)
section
variable {R : Type} (K : CR R)
theorem tz0 (x0 x1 x2 x3 x4 x5 l0 l1 l3 t : R) : (K.add (K.add (K.mul l0 x0) (K.mul l1 (K.mul x5 t))) (K.mul l3 (K.mul x3 t))) = (K.add (K.add (K.mul x0 l0) (K.mul t (K.add (K.mul x2 K.zero) (K.mul x4 K.zero)))) (K.mul (K.add (K.add (K.mul x1 K.zero) (K.mul x3 l3)) (K.mul x5 l1)) t)) :=
 aE K (aR K [x0,x1,x2,x3,x4,x5,l0,l1,l3,t]) (.add (.add (.mul (.v 6) (.v 0)) (.mul (.v 7) (.mul (.v 5) (.v 9)))) (.mul (.v 8) (.mul (.v 3) (.v 9)))) (.add (.add (.mul (.v 0) (.v 6)) (.mul (.v 9) (.add (.mul (.v 2) .zero) (.mul (.v 4) .zero)))) (.mul (.add (.add (.mul (.v 1) .zero) (.mul (.v 3) (.v 8))) (.mul (.v 5) (.v 7))) (.v 9))) (by kernel_rfl)
theorem tz1 (x0 x1 x2 x3 x4 x5 l0 l1 l3 t : R) : (K.add (K.add (K.mul l0 x2) (K.mul l1 x1)) (K.mul l3 (K.mul x5 t))) = (K.add (K.add (K.add (K.mul x0 K.zero) (K.mul x2 l0)) (K.mul t (K.mul x4 K.zero))) (K.add (K.mul x1 l1) (K.mul t (K.add (K.mul x3 K.zero) (K.mul x5 l3))))) :=
 aE K (aR K [x0,x1,x2,x3,x4,x5,l0,l1,l3,t]) (.add (.add (.mul (.v 6) (.v 2)) (.mul (.v 7) (.v 1))) (.mul (.v 8) (.mul (.v 5) (.v 9)))) (.add (.add (.add (.mul (.v 0) .zero) (.mul (.v 2) (.v 6))) (.mul (.v 9) (.mul (.v 4) .zero))) (.add (.mul (.v 1) (.v 7)) (.mul (.v 9) (.add (.mul (.v 3) .zero) (.mul (.v 5) (.v 8)))))) (by kernel_rfl)
theorem tz2 (x0 x1 x2 x3 x4 x5 l0 l1 l3 t : R) : (K.add (K.add (K.mul l0 x4) (K.mul l1 x3)) (K.mul l3 x1)) = (K.add (K.add (K.add (K.mul x0 K.zero) (K.mul x2 K.zero)) (K.mul x4 l0)) (K.add (K.add (K.mul x1 l3) (K.mul x3 l1)) (K.mul t (K.mul x5 K.zero)))) :=
 aE K (aR K [x0,x1,x2,x3,x4,x5,l0,l1,l3,t]) (.add (.add (.mul (.v 6) (.v 4)) (.mul (.v 7) (.v 3))) (.mul (.v 8) (.v 1))) (.add (.add (.add (.mul (.v 0) .zero) (.mul (.v 2) .zero)) (.mul (.v 4) (.v 6))) (.add (.add (.mul (.v 1) (.v 8)) (.mul (.v 3) (.v 7))) (.mul (.v 9) (.mul (.v 5) .zero)))) (by kernel_rfl)
theorem tz3 (x0 x1 x2 x3 x4 x5 l0 l1 l3 t : R) : (K.add (K.add (K.mul l0 x1) (K.mul l1 x0)) (K.mul l3 (K.mul x4 t))) = (K.add (K.add (K.mul x0 l1) (K.mul t (K.add (K.mul x2 K.zero) (K.mul x4 l3)))) (K.add (K.mul x1 l0) (K.mul t (K.add (K.mul x3 K.zero) (K.mul x5 K.zero))))) :=
 aE K (aR K [x0,x1,x2,x3,x4,x5,l0,l1,l3,t]) (.add (.add (.mul (.v 6) (.v 1)) (.mul (.v 7) (.v 0))) (.mul (.v 8) (.mul (.v 4) (.v 9)))) (.add (.add (.mul (.v 0) (.v 7)) (.mul (.v 9) (.add (.mul (.v 2) .zero) (.mul (.v 4) (.v 8))))) (.add (.mul (.v 1) (.v 6)) (.mul (.v 9) (.add (.mul (.v 3) .zero) (.mul (.v 5) .zero))))) (by kernel_rfl)
theorem tz4 (x0 x1 x2 x3 x4 x5 l0 l1 l3 t : R) : (K.add (K.add (K.mul l0 x3) (K.mul l1 x2)) (K.mul l3 x0)) = (K.add (K.add (K.add (K.mul x0 l3) (K.mul x2 l1)) (K.mul t (K.mul x4 K.zero))) (K.add (K.add (K.mul x1 K.zero) (K.mul x3 l0)) (K.mul t (K.mul x5 K.zero)))) :=
 aE K (aR K [x0,x1,x2,x3,x4,x5,l0,l1,l3,t]) (.add (.add (.mul (.v 6) (.v 3)) (.mul (.v 7) (.v 2))) (.mul (.v 8) (.v 0))) (.add (.add (.add (.mul (.v 0) (.v 8)) (.mul (.v 2) (.v 7))) (.mul (.v 9) (.mul (.v 4) .zero))) (.add (.add (.mul (.v 1) .zero) (.mul (.v 3) (.v 6))) (.mul (.v 9) (.mul (.v 5) .zero)))) (by kernel_rfl)
theorem tz5 (x0 x1 x2 x3 x4 x5 l0 l1 l3 t : R) : (K.add (K.add (K.mul l0 x5) (K.mul l1 x4)) (K.mul l3 x2)) = (K.add (K.add (K.add (K.mul x0 K.zero) (K.mul x2 l3)) (K.mul x4 l1)) (K.add (K.add (K.mul x1 K.zero) (K.mul x3 K.zero)) (K.mul x5 l0))) :=
 aE K (aR K [x0,x1,x2,x3,x4,x5,l0,l1,l3,t]) (.add (.add (.mul (.v 6) (.v 5)) (.mul (.v 7) (.v 4))) (.mul (.v 8) (.v 2))) (.add (.add (.add (.mul (.v 0) .zero) (.mul (.v 2) (.v 8))) (.mul (.v 4) (.v 7))) (.add (.add (.mul (.v 1) .zero) (.mul (.v 3) .zero)) (.mul (.v 5) (.v 6)))) (by kernel_rfl)
end
theorem Wb (x : aN) (l : Q6) : Bc x l = aD.mul x (CZ l):=by
 obtain ⟨⟨x0,x2,x4⟩,x1,x3,x5⟩:=x;obtain ⟨l0,l1,l3⟩:=l;rw [nY];unfold Bc CZ;dsimp only;simp only [aSU];rw [tz0 F2 x0 x1 x2 x3 x4 x5 l0 l1 l3 dC,tz1 F2 x0 x1 x2 x3 x4 x5 l0 l1 l3 dC,tz2 F2 x0 x1 x2 x3 x4 x5 l0 l1 l3 dC,tz3 F2 x0 x1 x2 x3 x4 x5 l0 l1 l3 dC,tz4 F2 x0 x1 x2 x3 x4 x5 l0 l1 l3 dC,tz5 F2 x0 x1 x2 x3 x4 x5 l0 l1 l3 dC]
theorem Bp (x : aN) (l : Q6) : aW prog (qG prog) (wq aRd) f169 100 [.v (.fl (oO x)),.v (.fl (e6 l))] = some ([],.one (.fl (oO (Bc x l)))):=by kernel_rfl
def Gq : Tab:=aRd.add 169 (g2 aGm Se fun x l => ([],.one (.fl (oO (aD.mul x (CZ l))))))
theorem LB : TabOk prog Gq:=aJR.ad func169 (fB Ir mT fun x l hp args w ha => by
 have h:=aB aG (fun _ _ => aJR) (aK _) func169 (Bp x l) trivial (args:=args) (w:=w) ha;rw [Wb] at h;exact h)
section
variable {R : Type} (K : CR R)
def Vw (x y : R) : R:=K.sub (K.mul (K.add (K.add (K.mul x x) (K.mul x x)) (K.mul x x)) (K.add (K.add (K.mul x x) (K.mul x x)) (K.mul x x))) (K.add (K.add (K.mul x (K.add (K.mul y y) (K.mul y y))) (K.mul x (K.add (K.mul y y) (K.mul y y)))) (K.add (K.mul x (K.add (K.mul y y) (K.mul y y))) (K.mul x (K.add (K.mul y y) (K.mul y y)))))
def aFa (x y : R) : R:=K.sub (K.mul (K.add (K.add (K.mul x x) (K.mul x x)) (K.mul x x)) (K.sub (K.add (K.mul x (K.add (K.mul y y) (K.mul y y))) (K.mul x (K.add (K.mul y y) (K.mul y y)))) (Vw K x y))) (K.add (K.mul (K.add (K.mul y y) (K.mul y y)) (K.add (K.mul y y) (K.mul y y))) (K.mul (K.add (K.mul y y) (K.mul y y)) (K.add (K.mul y y) (K.mul y y))))
theorem aEZ (x y z : R) : (Vw K x y,aFa K x y,K.add (K.mul y z) (K.mul y z)) = cG K (x,y,z):=by
 have e1 : K.add (K.mul x (K.add (K.mul y y) (K.mul y y))) (K.mul x (K.add (K.mul y y) (K.mul y y))) = dBa K (x,y,z):=(K.mul_add _ _ _).symm;have e2 : Vw K x y = dX K (x,y,z):=by
  unfold Vw;rw [e1];rfl
 unfold cG;refine Prod.ext e2 (Prod.ext ?_ (K.add_mul _ _ _).symm);show aFa K x y = dY K (x,y,z);have e3 : ∀ t : R,K.add (K.mul t t) (K.mul t t) = K.mul (K.add t t) t:=fun t => (K.add_mul _ _ _).symm
 unfold aFa;rw [e1,e2,e3 (K.add (K.mul y y) (K.mul y y))];rfl
end
def Id (x y : Q2) : Q2:=Vw F2 x y
def tnY (x y : Q2) : Q2:=aFa F2 x y
def tnZ (y z : Q2) : Q2:=F2.add (F2.mul y z) (F2.mul y z)
theorem aLY (x y z : Q2) : (Id x y,tnY x y,tnZ y z) = cG F2 (x,y,z):=aEZ F2 x y z
def tnL (x y z : Q2) (a : Fq × Fq) : Q6:=lnR (tF x y z) (tS x y z) (tH x y z) a
def JG (a : Fq × Fq) : List At:=[.f a.1,.f a.2,.c (.bool false)]
def jR (q : Q2 × Q2) : List At:=[.f q.1.1,.f q.1.2,.f q.2.1,.f q.2.2,.c (.bool false)]
def BL (l : List (Nat × List At)) : Nat → Option (List At):=assoc l
theorem aFA (b N o : Nat) (l L1 L2 L3 : List At) (x y z : Q2) (a : Fq × Fq) :
  Ft prog (Zd prog (BL [(16,e2 x),(21,e2 y),(26,e2 z),(42,JG a),(75,e2 (Id x y))]) (BL [(67,L1),(84,L2),(89,L3)]) Nv) (wq Gq) f170 60 b N o l [] =
   some ([fO l (o + 26 + 0) 8 = some (e2 x),fO l (o + 26 + 8) 8 = some (e2 y),fO l (o + 26 + 16) 8 = some (e2 z),fO l (o + 0) 9 = some (JG a),put l (o + 26 + 0) (e2 (Id x y)) = some L1,fO L1 (o + 26 + 0) 8 = some (e2 (Id x y)),put L1 (o + 26 + 8) (e2 (tnY x y)) = some L2,put L2 (o + 26 + 16) (e2 (tnZ y z)) = some L3],.one (.fl (e6 (tnL x y z a))),L3,b,N):=by kernel_rfl
theorem Pd (Ws : List Wk) (j : Nat) (a b : Wk) : (Ws.set j a).set j b = Ws.set j b:=List.set_set _
theorem mE {Ws : List Wk} {j : Nat} {W : Wk} (h : Ws[j]? = some W) (V : Wk) : (Ws.set j V)[j]? = some V:=by
 have:=(List.getElem?_eq_some_iff.1 h).1;simp [this]
theorem Om {Ws : List Wk} {j : Nat} {W : Wk} (h : Ws[j]? = some W) : BQ prog 170 (rows Ws) (50 * j) [] (.one (.fl (e6 (tnL W.2.2.1 W.2.2.2.1 W.2.2.2.2 W.1)))) (rows (Ws.set j (W.1,W.2.1,cG F2 W.2.2))):=by
 obtain ⟨a,q,x,y,z⟩:=W;intro w b hO;rw [show cG F2 (x,y,z) = _ from (aLY x y z).symm];have p1 : put (rows Ws) (50 * j + (26 + 0)) (e2 (Id x y)) = some (rows (Ws.set j (a,q,Id x y,y,z))):=oX h rfl;have p2 : put (rows (Ws.set j (a,q,Id x y,y,z))) (50 * j + (26 + 8)) (e2 (tnY x y)) = some (rows (Ws.set j (a,q,Id x y,tnY x y,z))):=by
  have:=oX (o:=26 + 8) (v:=e2 (tnY x y)) (W':=(a,q,Id x y,tnY x y,z)) (mE h (a,q,Id x y,y,z)) rfl
  rwa [Pd] at this
 have p3 : put (rows (Ws.set j (a,q,Id x y,tnY x y,z))) (50 * j + (26 + 16)) (e2 (tnZ y z)) = some (rows (Ws.set j (a,q,Id x y,tnY x y,tnZ y z))):=by
  have:=oX (o:=26 + 16) (v:=e2 (tnZ y z)) (W':=(a,q,Id x y,tnY x y,tnZ y z)) (mE h (a,q,Id x y,tnY x y,z)) rfl
  rwa [Pd] at this
 exact nE (ts:=[]) aG (fun _ _ => LB.w _ _) (oE (eE _) _ _) func170 (aFA b w.heap.size (50 * j) _ _ _ _ x y z a)
  ⟨fK (o:=26 + 0) h rfl,fK (o:=26 + 8) h rfl,fK (o:=26 + 16) h rfl,fK (o:=0) h rfl,p1,fK (o:=26 + 0) (mE h _) rfl,p2,p3,trivial⟩ hO
def chL (p : J2) (q : Q2 × Q2) (a : Fq × Fq) : Q6:=lnR (Uq p.1 p.2.2 q.1) (sR p.2.1 p.2.2 q.2) (F2.sub (F2.mul (sR p.2.1 p.2.2 q.2) q.1) (F2.mul (Uq p.1 p.2.2 q.1) q.2)) a
theorem aGa (b N o : Nat) (l L1 L2 L3 : List At) (x y z u v : Q2) (a : Fq × Fq) :
  Ft prog (Zd prog (BL [(20,e2 x),(25,e2 y),(30,e2 z),(53,JG a),(92,e2 (sX F2 x (rE x z u) (sR y z v)))]) (BL [(84,L1),(101,L2),(106,L3)]) Nv) (wq Gq) f172 60 b N o l [.fl (jR (u,v))] =
   some ([fO l (o + 26 + 0) 8 = some (e2 x),fO l (o + 26 + 8) 8 = some (e2 y),fO l (o + 26 + 16) 8 = some (e2 z),fO l (o + 0) 9 = some (JG a),put l (o + 26 + 0) (e2 (sX F2 x (rE x z u) (sR y z v))) = some L1,fO L1 (o + 26 + 0) 8 = some (e2 (sX F2 x (rE x z u) (sR y z v))),put L1 (o + 26 + 8) (e2 (sY F2 x y (rE x z u) (sR y z v))) = some L2,put L2 (o + 26 + 16) (e2 (F2.mul z (rE x z u))) = some L3],.one (.fl (e6 (chL (x,y,z) (u,v) a))),L3,b,N):=by kernel_rfl
theorem MX {Ws : List Wk} {j : Nat} {W : Wk} (h : Ws[j]? = some W) (q' : Q2 × Q2) : BQ prog 172 (rows Ws) (50 * j) [.agg (aA (jR q')).toArray] (.one (.fl (e6 (chL W.2.2 q' W.1)))) (rows (Ws.set j (W.1,W.2.1,gS W.2.2 q'))):=by
 obtain ⟨a,q,x,y,z⟩:=W;obtain ⟨u,v⟩:=q';intro w b hO;show Calls _ _ _ _ (Wr b w _ (rows (Ws.set j (a,q,sX F2 x (rE x z u) (sR y z v),sY F2 x y (rE x z u) (sR y z v),F2.mul z (rE x z u)))));have p1 : put (rows Ws) (50 * j + (26 + 0)) (e2 (sX F2 x (rE x z u) (sR y z v))) = some (rows (Ws.set j (a,q,sX F2 x (rE x z u) (sR y z v),y,z))):=oX h rfl;have p2 : put (rows (Ws.set j (a,q,sX F2 x (rE x z u) (sR y z v),y,z))) (50 * j + (26 + 8)) (e2 (sY F2 x y (rE x z u) (sR y z v))) = some (rows (Ws.set j (a,q,sX F2 x (rE x z u) (sR y z v),sY F2 x y (rE x z u) (sR y z v),z))):=by
  have:=oX (o:=26 + 8) (v:=e2 (sY F2 x y (rE x z u) (sR y z v))) (W':=(a,q,sX F2 x (rE x z u) (sR y z v),sY F2 x y (rE x z u) (sR y z v),z)) (mE h (a,q,sX F2 x (rE x z u) (sR y z v),y,z)) rfl
  rwa [Pd] at this
 have p3 : put (rows (Ws.set j (a,q,sX F2 x (rE x z u) (sR y z v),sY F2 x y (rE x z u) (sR y z v),z))) (50 * j + (26 + 16)) (e2 (F2.mul z (rE x z u))) = some (rows (Ws.set j (a,q,sX F2 x (rE x z u) (sR y z v),sY F2 x y (rE x z u) (sR y z v),F2.mul z (rE x z u)))):=by
  have:=oX (o:=26 + 16) (v:=e2 (F2.mul z (rE x z u))) (W':=(a,q,sX F2 x (rE x z u) (sR y z v),sY F2 x y (rE x z u) (sR y z v),F2.mul z (rE x z u))) (mE h (a,q,sX F2 x (rE x z u) (sR y z v),sY F2 x y (rE x z u) (sR y z v),z)) rfl
  rwa [Pd] at this
 exact nE (ts:=[.fl (jR (u,v))]) aG (fun _ _ => LB.w _ _) (oE (eE _) _ _) func172 (aGa b w.heap.size (50 * j) _ _ _ _ x y z u v a)
  ⟨fK (o:=26 + 0) h rfl,fK (o:=26 + 8) h rfl,fK (o:=26 + 16) h rfl,fK (o:=0) h rfl,p1,fK (o:=26 + 0) (mE h _) rfl,p2,p3,trivial⟩ hO
def T5s (l0 l1 l2 : List At) (o : Nat) (r1 r2 : RV) (m : List At) : Tab5:=(Nv.add 170 (pe0 l0 o r1 l1)).add 172 (pe1 l1 o m r2 l2)
theorem Hr {Ws : List Wk} {j : Nat} {W : Wk} (h : Ws[j]? = some W) (q' : Q2 × Q2) :
  PtOk prog (T5s (rows Ws) (rows (Ws.set j (W.1,W.2.1,cG F2 W.2.2))) (rows (Ws.set j (W.1,W.2.1,gS (cG F2 W.2.2) q'))) (50 * j) (.one (.fl (e6 (tnL W.2.2.1 W.2.2.2.1 W.2.2.2.2 W.1)))) (.one (.fl (e6 (chL (cG F2 W.2.2) q' W.1)))) (jR q')):=by
 have h2:=MX (mE h (W.1,W.2.1,cG F2 W.2.2)) q';rw [Pd] at h2;exact ((eE _).ad func170 (aNe (Om h))).ad func172 (Eb h2)
theorem Pz (b N o : Nat) (l l1 l2 m : List At) (f : aN) (x y : Q6) :
  Ft prog (Zd prog (BL []) (BL []) (T5s l l1 l2 o (.one (.fl (e6 x))) (.one (.fl (e6 y))) m)) (wq Gq) f115 60 b N o l [.fl (oO f),.im (.int .i64 0)] =
   some ([l = l,o = o],.one (.fl (oO (aD.mul f (CZ x)))),l1,b,N):=by kernel_rfl
theorem Py (b N o : Nat) (l l1 l2 : List At) (f : aN) (x y : Q6) (q : Q2 × Q2) :
  Ft prog (Zd prog (BL [(17,jR q)]) (BL []) (T5s l l1 l2 o (.one (.fl (e6 x))) (.one (.fl (e6 y))) (jR q))) (wq Gq) f115 60 b N o l [.fl (oO f),.im (.int .i64 1)] =
   some ([l = l,o = o,fO l1 (o + 9) 17 = some (jR q),l1 = l1,o = o,aA (jR q) = aA (jR q)],.one (.fl (oO (aD.mul (aD.mul f (CZ x)) (CZ y)))),l2,b,N):=by kernel_rfl
theorem Px (b N o : Nat) (l l1 l2 : List At) (f : aN) (x y : Q6) (q : Q2 × Q2) :
  Ft prog (Zd prog (BL [(17,jR q)]) (BL []) (T5s l l1 l2 o (.one (.fl (e6 x))) (.one (.fl (e6 y))) (jR (q.1,F2.neg q.2)))) (wq Gq) f115 60 b N o l [.fl (oO f),.im (.int .i64 (-1))] =
   some ([l = l,o = o,fO l1 (o + 9) 17 = some (jR q),l1 = l1,o = o,aA (jR (q.1,F2.neg q.2)) = aA (jR (q.1,F2.neg q.2))],.one (.fl (oO (aD.mul (aD.mul f (CZ x)) (CZ y)))),l2,b,N):=by kernel_rfl
theorem aSj (x y z : Q2) (a : Fq × Fq) : CZ (tnL x y z a) = wD (x,y,z) a:=aKq _ _ _ _
theorem Nf (p : J2) (q : Q2 × Q2) (a : Fq × Fq) : CZ (chL p q a) = sQ p q a:=aKq _ _ _ _
theorem aXx (a : Fq × Fq) (q : Q2 × Q2) (p : J2) : lf a q 0 p = wD p a:=by unfold lf; rw [if_neg (by decide),if_neg (by decide)]
theorem aXw (a : Fq × Fq) (q : Q2 × Q2) (p : J2) : lf a q 1 p = aD.mul (wD p a) (sQ (cG F2 p) q a):=by unfold lf; rw [if_pos rfl]
theorem aXv (a : Fq × Fq) (q : Q2 × Q2) (p : J2) : lf a q (-1) p = aD.mul (wD p a) (sQ (cG F2 p) (q.1,F2.neg q.2) a):=by unfold lf; rw [if_neg (by decide),if_pos rfl]
theorem aXp (q : Q2 × Q2) (p : J2) : np q 0 p = cG F2 p:=by unfold np; rw [if_neg (by decide),if_neg (by decide)]
theorem aXo (q : Q2 × Q2) (p : J2) : np q 1 p = gS (cG F2 p) q:=by unfold np; rw [if_pos rfl]
theorem aXn (q : Q2 × Q2) (p : J2) : np q (-1) p = gS (cG F2 p) (q.1,F2.neg q.2):=by unfold np; rw [if_neg (by decide),if_pos rfl]
theorem Bh {Ws : List Wk} {j : Nat} {W : Wk} (h : Ws[j]? = some W) (f : aN) (d : Int) (hd : d = 0 ∨ d = 1 ∨ d = -1) :
  BQ prog 115 (rows Ws) (50 * j) [.agg (aA (oO f)).toArray,.int .i64 d] (.one (.fl (oO (aD.mul f (lf W.1 W.2.1 d W.2.2))))) (rows (Ws.set j (Wq np d W))):=by
 intro w b hO;have hs:=fK (o:=9) (n:=17) (s:=jR W.2.1) (mE h (W.1,W.2.1,cG F2 W.2.2)) rfl;have et : CZ (tnL W.2.2.1 W.2.2.2.1 W.2.2.2.2 W.1) = wD W.2.2 W.1:=aSj _ _ _ _;unfold Wq
 rcases hd with rfl | rfl | rfl
 ·rw [aXx,aXp,← et];exact nE (ts:=[.fl (oO f),.im (.int .i64 0)]) aG (fun _ _ => LB.w _ _) (oE (Hr h W.2.1) _ _) func115 (Pz b w.heap.size (50 * j) _ _ _ _ f _ _) ⟨rfl,rfl,trivial⟩ hO
 ·rw [aXw,aXo,← et,← Nf,← aD.mul_assoc];exact nE (ts:=[.fl (oO f),.im (.int .i64 1)]) aG (fun _ _ => LB.w _ _) (oE (Hr h W.2.1) _ _) func115 (Py b w.heap.size (50 * j) _ _ _ f _ _ W.2.1) ⟨rfl,rfl,hs,rfl,rfl,rfl,trivial⟩ hO
 ·rw [aXv,aXn,← et,← Nf,← aD.mul_assoc];exact nE (ts:=[.fl (oO f),.im (.int .i64 (-1))]) aG (fun _ _ => LB.w _ _) (oE (Hr h (W.2.1.1,F2.neg W.2.1.2)) _ _) func115 (Px b w.heap.size (50 * j) _ _ _ f _ _ W.2.1) ⟨rfl,rfl,hs,rfl,rfl,rfl,trivial⟩ hO
def aGn : List At → Option (Q2 × Q2) | [.f a,.f b,.f c,.f d,.c (.bool false)] => some ((a,b),(c,d)) | _ => none
theorem It : Rd aGn jR:=fun l x h => by unfold aGn at h; split at h <;> cases h; rfl
theorem aCA (q : Q2 × Q2) : aA (jR q) = aA (jS (KM (some q))):=rfl
theorem aDE {q : Q2 × Q2} {args : List Value} {w : World} (ha : bR w [.v (.fl (jR q))] args) : bR w [.v (.fl (jS (KM (some q))))] args:=by
 match args,ha with
 | [v],ha =>
  refine ⟨?_,trivial⟩;show v = .agg (aA (jS (KM (some q)))).toArray;rw [← aCA];exact ha.1
 | [],ha => exact ha.elim
 | _ :: _ :: _,ha => exact ha.2.elim
theorem aLr (q : Q2 × Q2) (h : On F2 dF (some q)) (args : List Value) (w : World) (ha : bR w [.v (.fl (jR q))] args) : Good prog 173 (.many [.fl (jR (gP q)),.im (.int .i64 0)]) args w:=by
 have:=Zm (KM (some q)) args w (aDE ha);rw [show fS (KM (some q)) = _ from aSn ⟨some q,h⟩] at this;exact this
theorem aLs (q : Q2 × Q2) (h : On F2 dF (some q)) (args : List Value) (w : World) (ha : bR w [.v (.fl (jR q))] args) : Good prog 174 (.many [.fl (jR (LR q)),.im (.int .i64 0)]) args w:=by
 have:=(YB 174 [.v (.fl (jS (KM (some q))))] _ _ rfl trivial).2 args w (aDE ha);rw [show uF (KM (some q)) = _ from tN2 ⟨some q,h⟩] at this;exact this
def oPs (q : Q2 × Q2) : List Prop × RV:=([On F2 dF (some q)],.many [.fl (jR (gP q)),.im (.int .i64 0)])
def oNg (q : Q2 × Q2) : List Prop × RV:=([On F2 dF (some q)],.many [.fl (jR (LR q)),.im (.int .i64 0)])
def aLa : Tab:=Gq.add 173 (g1 aGn oPs)
theorem aNG : TabOk prog aLa:=LB.ad func173 (bC (op:=oPs) It fun q hp args w ha => aLr q hp.1 args w ha)
def Uk : Tab:=aLa.add 174 (g1 aGn oNg)
theorem XR : TabOk prog Uk:=aNG.ad func174 (bC (op:=oNg) It fun q hp args w ha => aLs q hp.1 args w ha)
def oL : Code:=(f118.body).getD .skip
def enN : Nat:=f118.ntmps
def aPy (b N o : Nat) (l : List At) (f : aN) : List Fact:=[.slot 0 (.pt 0 o),.row 0 true l,.at 0 b,.at enN N,.slot 3 (.pt 3 0),.row 3 true (oO f),.slot 4 (.pt 4 0),.row 4 true (oO aD.zero)]
def Tv (b N o : Nat) (l : List At) (f : aN) (q : Q2 × Q2) : List Fact:=[.slot 0 (.pt 0 o),.row 0 true l,.at 0 b,.at enN N,.slot 3 (.pt 3 0),.row 3 true (oO f),.slot 4 (.pt 4 0),.row 4 true (oO aD.zero),.slot 5 (.pt 5 0),.row 5 true (jR q)]
def Tu (b N : Nat) (l : List At) (f : aN) : List Fact:=[.slot 4 (.pt 4 0),.row 4 true (oO f),.row 0 true l,.at 0 b,.at enN N]
def T5c (l0 l1 : List At) (o : Nat) (r : RV) (m : List At) : Tab5:=Nv.add 172 (pe1 l0 o m r l1)
theorem aEv {Ws : List Wk} {j : Nat} {W : Wk} (h : Ws[j]? = some W) (q' : Q2 × Q2) : PtOk prog (T5c (rows Ws) (rows (Ws.set j (W.1,W.2.1,gS W.2.2 q'))) (50 * j) (.one (.fl (e6 (chL W.2.2 q' W.1)))) (jR q')) :=
 (eE _).ad func172 (Eb (MX h q'))
theorem aUO (b N o : Nat) (l : List At) (f : aN) : aX prog (Zd prog (BL []) (BL []) Nv) enN (wq Uk) 40 (cA oL) (aQJ enN b N o l [.fl (oO f)]) (aPy b N o l f) = some ([],.nrm,aPy b N o l f):=by kernel_rfl
theorem aUN (b N o : Nat) (l : List At) (f : aN) (q : Q2 × Q2) : aX prog (Zd prog (BL [(11,jR q)]) (BL []) Nv) enN (wq Uk) 40 (cA (cB oL)) (aPy b N o l f) (Tv b N o l f (gP q)) = some ([fO l (o + 9) 17 = some (jR q),On F2 dF (some q)],.nrm,Tv b N o l f (gP q)):=by kernel_rfl
theorem aUM (b N o : Nat) (l l1 : List At) (f : aN) (q : Q2 × Q2) (x : Q6) : aX prog (Zd prog (BL []) (BL []) (T5c l l1 o (.one (.fl (e6 x))) (jR q))) enN (wq Uk) 40 (cA (cB (cB oL))) (Tv b N o l f q) (Tv b N o l1 (aD.mul f (CZ x)) q) = some ([l = l,o = o,aA (jR q) = aA (jR q)],.nrm,Tv b N o l1 (aD.mul f (CZ x)) q):=by kernel_rfl
theorem aUL (b N o : Nat) (l l1 : List At) (f : aN) (q : Q2 × Q2) (x : Q6) : aX prog (Zd prog (BL []) (BL []) (T5c l l1 o (.one (.fl (e6 x))) (jR (LR (gP q))))) enN (wq Uk) 40 (cB (cB (cB oL))) (Tv b N o l f q) (Tu b N l1 (aD.mul f (CZ x))) = some ([On F2 dF (some q),On F2 dF (some (gP q)),l = l,o = o,aA (jR (LR (gP q))) = aA (jR (LR (gP q)))],.rt,Tu b N l1 (aD.mul f (CZ x))):=by kernel_rfl
theorem aIx : oL = .seq (cA oL) (.seq (cA (cB oL)) (.seq (cA (cB (cB oL))) (cB (cB (cB oL))))):=by kernel_rfl
theorem Zn {q : Q2 × Q2} (h : On F2 dF (some q)) : On F2 dF (some (gP q)):=(pR ⟨some q,h⟩).2
def enW (W : Wk) : Wk:=(W.1,W.2.1,gS (gS W.2.2 (gP W.2.1)) (LR (gP (gP W.2.1))))
theorem aPw {b : Nat} {w w' : World} {a : Act} {l : List At} {f : aN} (hA : Holds enN b w (Tu b w.heap.size l f) a w') : bodyPost prog f118 (Wr b w (.one (.fl (oO f))) l) .ret a w':=by
 refine pJ (l:=[.fl (oO f)]) (r:=.one (.fl (oO f))) (by kernel_rfl) (by kernel_rfl) hA ⟨rfl,?_⟩;exact hA.wrc (l:=l) (by simp [Tu]) (by simp [Tu]) (by simp [Tu])
theorem aIw {b o : Nat} {w : World} {l0 l1 l2 : List At} {f : aN} {q : Q2 × Q2} {x y : Q6} (hO : Own w b l0) (hs : fO l0 (o + 9) 17 = some (jR q)) (hq : On F2 dF (some q))
  (t1 : PtOk prog (T5c l0 l1 o (.one (.fl (e6 x))) (jR (gP q)))) (t2 : PtOk prog (T5c l1 l2 o (.one (.fl (e6 y))) (jR (LR (gP (gP q)))))) :
  Calls prog 118 (iE b o :: [TV.fl (oO f)].map TV.den).toArray w (Wr b w (.one (.fl (oO (aD.mul (aD.mul f (CZ x)) (CZ y))))) l2):=by
 refine MF (ts:=[.fl (oO f)]) func118 (c:=oL) rfl hO (Nat.le_of_ble_eq_true (by kernel_rfl)) fun a w1 hA => ?_
 rw [aIx];refine wp_seq (aC aG (fun _ _ => XR.w _ _) (oE (eE _) _ _) (aUO b w.heap.size o l0 f) trivial hA fun a w2 hA => ?_);refine wp_seq (aC aG (fun _ _ => XR.w _ _) (oE (eE _) _ _) (aUN b w.heap.size o l0 f q) ⟨hs,hq,trivial⟩ hA fun a w3 hA => ?_);refine wp_seq (aC aG (fun _ _ => XR.w _ _) (oE t1 _ _) (aUM b w.heap.size o l0 l1 f (gP q) x) ⟨rfl,rfl,rfl,trivial⟩ hA fun a w4 hA => ?_);have q1:=Zn hq;have q2:=Zn q1;generalize gP q = q' at hA t2 q1 q2 ⊢;refine aC aG (fun _ _ => XR.w _ _) (oE t2 _ _) (aUL b w.heap.size o l1 l2 (aD.mul f (CZ x)) q' y) ⟨q1,q2,rfl,rfl,rfl,trivial⟩ hA fun a w5 hA => ?_
 exact aPw hA
theorem aHw {f x y z w : aN} (h1 : x = z) (h2 : y = w) : aD.mul (aD.mul f x) y = aD.mul f (aD.mul z w):=by
 subst h1; subst h2;exact aD.mul_assoc _ _ _
theorem aUH (a : Fq × Fq) (q : Q2 × Q2) (p : J2) : ew a q p = aD.mul (sQ p (gP q) a) (sQ (gS p (gP q)) (LR (gP (gP q))) a):=by
 unfold ew
 with_reducible rfl
theorem aXU (f : aN) (a : Fq × Fq) (q : Q2 × Q2) (p : J2) : aD.mul (aD.mul f (CZ (chL p (gP q) a))) (CZ (chL (gS p (gP q)) (LR (gP (gP q))) a)) = aD.mul f (ew a q p) :=
 (aHw (Nf p (gP q) a) (Nf (gS p (gP q)) (LR (gP (gP q))) a)).trans (congrArg (aD.mul f) (aUH a q p).symm)
theorem aCT {Ws : List Wk} {j : Nat} {a : Fq × Fq} {q : Q2 × Q2} {p : J2} (h : Ws[j]? = some (a,q,p)) (f g : aN) (hg : aD.mul (aD.mul f (CZ (chL p (gP q) a))) (CZ (chL (gS p (gP q)) (LR (gP (gP q))) a)) = g) (hq : On F2 dF (some q)) :
  BQ prog 118 (rows Ws) (50 * j) [.agg (aA (oO f)).toArray] (.one (.fl (oO g))) (rows (Ws.set j (a,q,gS (gS p (gP q)) (LR (gP (gP q)))))):=by
 subst hg;intro w b hO;have hs:=fK (o:=9) (n:=17) (s:=jR q) h rfl;have t1 : PtOk prog (T5c (rows Ws) (rows (Ws.set j (a,q,gS p (gP q)))) (50 * j) (.one (.fl (e6 (chL p (gP q) a)))) (jR (gP q))):=aEv h (gP q);have t2 : PtOk prog (T5c (rows (Ws.set j (a,q,gS p (gP q)))) (rows ((Ws.set j (a,q,gS p (gP q))).set j (a,q,gS (gS p (gP q)) (LR (gP (gP q)))))) (50 * j) (.one (.fl (e6 (chL (gS p (gP q)) (LR (gP (gP q))) a)))) (jR (LR (gP (gP q))))):=aEv (mE h (a,q,gS p (gP q))) (LR (gP (gP q)));rw [Pd Ws j (a,q,gS p (gP q)) (a,q,gS (gS p (gP q)) (LR (gP (gP q))))] at t2;exact aIw (f:=f) hO hs hq t1 t2
theorem Tt {Ws : List Wk} {j : Nat} {a : Fq × Fq} {q : Q2 × Q2} {p : J2} (h : Ws[j]? = some (a,q,p)) (f : aN) (hq : On F2 dF (some q)) :
  BQ prog 118 (rows Ws) (50 * j) [.agg (aA (oO f)).toArray] (.one (.fl (oO (aD.mul f (ew a q p))))) (rows (Ws.set j (enW (a,q,p)))) :=
 aCT h f _ (aXU f a q p) hq
def aLj (c : Bool) : Tab:=(Ai c).add 260 aIg
theorem aNP (c : Bool) : TabOk prog (aLj c):=(Su c).ad func260 aBH
def aLk (c : Bool) : Tab:=(aLj c).add 167 aCw
theorem aNQ (c : Bool) : TabOk prog (aLk c):=(aNP c).ad func167 aDR
theorem Ti (k : Int) (h0 : -1000 < k) (h1 : k < 1000) : IntKind.i64.wrap k = k:=IntWalk.i64_in _ (by omega)
theorem aYx : Rdv ON q1 (fun n => n):=fun l n h => ⟨n,gD l n h,rfl⟩
def Tab.or (T U : Tab) : Tab:=fun f cs => match T f cs with | some r => some r | none => U f cs
theorem TabOk.or {P : Program} {T U : Tab} (h : TabOk P T) (k : TabOk P U) : TabOk P (T.or U):=by
 intro f cs pre r hg hp;unfold Tab.or at hg;split at hg
 ·rename_i x hx;cases hg;exact h f cs pre r hx hp
 ·exact k f cs pre r hg hp
theorem Holds.same {nt base : Nat} {w0 : World} {A A' : List Fact} {a : Act} {w : World} (h : Holds nt base w0 A a w) (hs : ∀ φ ∈ A',φ ∈ A ∨ ∃ k o l l',φ = .row k o l' ∧ .row k o l ∈ A ∧ aA l = aA l') : Holds nt base w0 A' a w:=by
 obtain ⟨β,h1,h2,h3,gt⟩:=h.facts;have hr : ∀ k l,Fact.row k true l ∈ A' → ∃ m,Fact.row k true m ∈ A:=fun k l hk => by
  rcases hs _ hk with h3 | ⟨k1,o,m,m',e,h3,h4⟩
  ·exact ⟨l,h3⟩
  ·cases e;exact ⟨m,h3⟩
 refine ⟨h.defers,h.size,h.below,h.heap,β,fun φ hφ => ?_,fun k k' l l' hk hk' hne => ?_,fun k l hk => (hr k l hk).elim fun m hm => h3 k m hm,gt⟩
 ·rcases hs φ hφ with h3 | ⟨k,o,l,l',rfl,h3,h4⟩
  ·exact h1 φ h3
  ·have:=h1 _ h3;simp only [Fact.ok] at this ⊢;rw [← h4];exact this
 ·obtain ⟨m,hm⟩:=hr k l hk;obtain ⟨m',hm'⟩:=hr k' l' hk';exact h2 k k' m m' hm hm' hne
def aEu (c : Bool) : Tab:=(aLk c).or (AL c)
theorem aAU (c : Bool) : TabOk prog (aEu c):=(aNQ c).or (Ki c)
theorem OM (c : Bool) (x : gB) : bH prog (aEu c) qN (fun _ => true) f114 40 [.v (.fl (fC x))] = some ([],.one (.fl (aL (aD.mul (eD x) (eD x))))):=by kernel_rfl
def vX (c : Bool) : Tab:=(aEu c).add 114 (g1 EJ (fun x => ([],.one (.fl (aL (aD.mul x x))))))
theorem AU (c : Bool) : TabOk prog (vX c):=(aAU c).ad func114 (jI lY fun x hp args w ha => aH aG (aAU c) aM func114 (OM c x) hp ha)
def rowR (x : gB) : Nat → List At
 | 0 => fC x
 | i + 1 => aL (eJ (i + 1) (eD x))
def e4 (x : Q4) : List At:=[.f x.1.1,.f x.1.2,.f x.2.1,.f x.2.2]
def Sf : List At → Option Q4 | [.f a,.f b,.f c,.f d] => some ((a,b),(c,d)) | _ => none
theorem mU : Rd Sf e4:=fun l x h => by unfold Sf at h; split at h <;> cases h; rfl
def g3 {α γ δ : Type} (rd : List At → Option α) (rd' : List At → Option γ) (rd'' : List At → Option δ) (op : α → γ → δ → List Prop × RV) : lO
 | [.v (.fl l),.v (.fl m),.v (.fl n)] => match rd l,rd' m,rd'' n with | some x,some y,some z => some (op x y z) | _,_,_ => none
 | _ => none
theorem aUq {P : Program} {f : FuncId} {α γ δ : Type} {rd : List At → Option α} {en : α → List At} {rd' : List At → Option γ} {en' : γ → List At} {rd'' : List At → Option δ} {en'' : δ → List At} (hr : Rd rd en) (hr' : Rd rd' en') (hr'' : Rd rd'' en'') {op : α → γ → δ → List Prop × RV}
  (h : ∀ x y z,aY (op x y z).1 → ∀ args w,bR w [.v (.fl (en x)),.v (.fl (en' y)),.v (.fl (en'' z))] args → Good P f (op x y z).2 args w) :
  ∀ cs pre r,g3 rd rd' rd'' op cs = some (pre,r) → aY pre → ∀ (args : List Value) (w : World),bR w cs args → Good P f r args w:=by
 intro cs pre r hg hp args w ha;unfold g3 at hg;split at hg
 ·rename_i l m n;split at hg
  ·rename_i x y z hx hy hz;have e : op x y z = (pre,r):=by simpa using hg
   have:=h x y z (by rw [e]; exact hp) args w (by
    match args,ha with
    | [v,u,s],ha =>
     refine ⟨?_,?_,?_,trivial⟩
     ·show v = .agg (aA (en x)).toArray;rw [← hr l x hx];exact ha.1
     ·show u = .agg (aA (en' y)).toArray;rw [← hr' m y hy];exact ha.2.1
     ·show s = .agg (aA (en'' z)).toArray;rw [← hr'' n z hz];exact ha.2.2.1
    | [],ha => exact ha.elim
    | [_],ha => exact ha.2.elim
    | [_,_],ha => exact ha.2.2.elim
    | _ :: _ :: _ :: _ :: _,ha => exact ha.2.2.2.elim)
   rw [e] at this;exact this
  ·cases hg
 ·cases hg
theorem Fz {a b : Q4} (h : aA (e4 a) = aA (e4 b)) : a = b:=by
 have:=xR [a.1.1,a.1.2,a.2.1,a.2.2] [b.1.1,b.1.2,b.2.1,b.2.2] h;simp only [List.cons.injEq,and_true] at this;exact Prod.ext (Prod.ext this.1 this.2.1) (Prod.ext this.2.2.1 this.2.2.2)
theorem Mp {a b : aN} (h : aA (aL a) = aA (aL b)) : a = b:=by
 have:=xR [a.1.1.1,a.1.1.2,a.1.2.1.1,a.1.2.1.2,a.1.2.2.1,a.1.2.2.2,a.2.1.1,a.2.1.2,a.2.2.1.1,a.2.2.1.2,a.2.2.2.1,a.2.2.2.2] [b.1.1.1,b.1.1.2,b.1.2.1.1,b.1.2.1.2,b.1.2.2.1,b.1.2.2.2,b.2.1.1,b.2.1.2,b.2.2.1.1,b.2.2.1.2,b.2.2.2.1,b.2.2.2.2] h;simp only [List.cons.injEq,and_true] at this;obtain ⟨h0,h1,h2,h3,h4,h5,h6,h7,h8,h9,h10,h11⟩:=this;exact Prod.ext (Prod.ext (Prod.ext h0 h1) (Prod.ext (Prod.ext h2 h3) (Prod.ext h4 h5))) (Prod.ext (Prod.ext h6 h7) (Prod.ext (Prod.ext h8 h9) (Prod.ext h10 h11)))
theorem Qo (c : Bool) (x : aN) : bH prog (vX c) qN (fun _ => true) f131 60 [.v (.fl (aL x))] = some ([],.many [.fl (e4 (fX x)),.fl (e4 (fY x)),.fl (e4 (fZ x))]):=by kernel_rfl
def SP (c : Bool) : Tab:=(vX c).add 131 (g1 oC fun x => ([],.many [.fl (e4 (fX x)),.fl (e4 (fY x)),.fl (e4 (fZ x))]))
theorem YA (c : Bool) : TabOk prog (SP c):=(AU c).ad func131 (bC dG fun x hp args w ha => aH aG (AU c) aM func131 (Qo c x) hp ha)
theorem VP (c : Bool) (x : Q4) (y : Q4) : bH prog (SP c) qN (fun _ => true) f132 60 [.v (.fl (e4 x)),.v (.fl (e4 y))] = some ([],.one (.fl (e4 ((F2.add (F2.mul x.1 y.1) (F2.mul x.2 (F2.mul y.2 dC)),F2.add (F2.mul x.1 y.2) (F2.mul x.2 y.1)))))):=by kernel_rfl
theorem WK (x : Q4) (y : Q4) : F4.mul x y = (F2.add (F2.mul x.1 y.1) (F2.mul x.2 (F2.mul y.2 dC)),F2.add (F2.mul x.1 y.2) (F2.mul x.2 y.1)):=by
 refine Prod.ext ?_ rfl;exact aE F2 (aR F2 [x.1,x.2,y.1,y.2,dC]) (.add (.mul (.v 0) (.v 2)) (.mul (.v 4) (.mul (.v 1) (.v 3)))) (.add (.mul (.v 0) (.v 2)) (.mul (.v 1) (.mul (.v 3) (.v 4)))) (by decide)
def AJ (c : Bool) : Tab:=(SP c).add 132 (g2 Sf Sf fun x y => ([],.one (.fl (e4 (F4.mul x y)))))
theorem FX (c : Bool) : TabOk prog (AJ c):=(YA c).ad func132 (fB mU mU fun x y hp args w ha => by show Good _ _ (.one (.fl (e4 (F4.mul x y)))) _ _; rw [WK]; exact aH aG (YA c) aM func132 (VP c x y) hp ha)
theorem aFZ (c : Bool) (x : Q4) : bH prog (AJ c) qN (fun _ => true) f133 60 [.v (.fl (e4 x))] = some ([],.one (.fl (e4 (s4 x)))):=by kernel_rfl
def aEr (c : Bool) : Tab:=(AJ c).add 133 (g1 Sf fun x => ([],.one (.fl (e4 (s4 x)))))
theorem aAN (c : Bool) : TabOk prog (aEr c):=(FX c).ad func133 (bC mU fun x hp args w ha => aH aG (FX c) aM func133 (aFZ c x) hp ha)
theorem VQ (c : Bool) (x : Q4) (y : Q4) : bH prog (aEr c) qN (fun _ => true) f134 60 [.v (.fl (e4 x)),.v (.fl (e4 y))] = some ([],.one (.fl (e4 (F4.sub x y)))):=by kernel_rfl
def AK (c : Bool) : Tab:=(aEr c).add 134 (g2 Sf Sf fun x y => ([],.one (.fl (e4 (F4.sub x y)))))
theorem FY (c : Bool) : TabOk prog (AK c):=(aAN c).ad func134 (fB mU mU fun x y hp args w ha => aH aG (aAN c) aM func134 (VQ c x y) hp ha)
theorem Dg (c : Bool) (x : Q4) : bH prog (AK c) qN (fun _ => true) f135 60 [.v (.fl (e4 x))] = some ([],.one (.fl (e4 (MV x)))):=by kernel_rfl
def JA (c : Bool) : Tab:=(AK c).add 135 (g1 Sf fun x => ([],.one (.fl (e4 (MV x)))))
theorem LN (c : Bool) : TabOk prog (JA c):=(FY c).ad func135 (bC mU fun x hp args w ha => aH aG (FY c) aM func135 (Dg c x) hp ha)
theorem OL (c : Bool) (x : Q4) (y : Q4) : bH prog (JA c) qN (fun _ => true) f137 60 [.v (.fl (e4 x)),.v (.fl (e4 y))] = some ([],.one (.fl (e4 (Vp x y)))):=by kernel_rfl
def vV (c : Bool) : Tab:=(JA c).add 137 (g2 Sf Sf fun x y => ([],.one (.fl (e4 (Vp x y)))))
theorem AT (c : Bool) : TabOk prog (vV c):=(LN c).ad func137 (fB mU mU fun x y hp args w ha => aH aG (LN c) aM func137 (OL c x y) hp ha)
theorem VG (c : Bool) (x y z : Q4) : bH prog (vV c) qN (fun _ => true) f136 60 [.v (.fl (e4 x)),.v (.fl (e4 y)),.v (.fl (e4 z))] = some ([],.one (.fl (aL (aBR x y z)))):=by kernel_rfl
def kF (c : Bool) : Tab:=(vV c).add 136 (g3 Sf Sf Sf fun x y z => ([],.one (.fl (aL (aBR x y z)))))
theorem jZ (c : Bool) : TabOk prog (kF c):=(AT c).ad func136 (aUq mU mU mU fun x y z hp args w ha => aH aG (AT c) aM func136 (VG c x y z) hp ha)
theorem VR (c : Bool) (x : aN) : bH prog (kF c) (qG prog) (fun s => bif Nat.beq s 35 then true else bif Nat.beq s 44 then true else bif Nat.beq s 54 then true else bif Nat.beq s 61 then false else true) f68 60 [.v (.fl (aL x))] = some ([aA (e4 (F4.sub (F4.mul (fX x) (fX x)) (s4 (F4.mul (fY x) (fZ x))))) = aA (e4 (MV (fX x))),aA (e4 (F4.sub (F4.mul (fX x) (fY x)) (s4 (F4.mul (fZ x) (fZ x))))) = aA (e4 (MV (fY x))),aA (e4 (F4.sub (F4.mul (fY x) (fY x)) (F4.mul (fX x) (fZ x)))) = aA (e4 (MV (fZ x))),aA (aL x) ≠ aA (aL aD.zero)],.many [.fl (aL (aSo x)),.im (.bool true)]):=by kernel_rfl
theorem VV (c : Bool) (x : aN) : bH prog (kF c) (qG prog) (fun s => bif Nat.beq s 35 then false else bif Nat.beq s 44 then true else bif Nat.beq s 54 then true else bif Nat.beq s 61 then false else true) f68 60 [.v (.fl (aL x))] = some ([aA (e4 (F4.sub (F4.mul (fX x) (fX x)) (s4 (F4.mul (fY x) (fZ x))))) ≠ aA (e4 (MV (fX x)))],.many [.fl (aL aD.zero),.im (.bool false)]):=by kernel_rfl
theorem VU (c : Bool) (x : aN) : bH prog (kF c) (qG prog) (fun s => bif Nat.beq s 35 then true else bif Nat.beq s 44 then false else bif Nat.beq s 54 then true else bif Nat.beq s 61 then false else true) f68 60 [.v (.fl (aL x))] = some ([aA (e4 (F4.sub (F4.mul (fX x) (fX x)) (s4 (F4.mul (fY x) (fZ x))))) = aA (e4 (MV (fX x))),aA (e4 (F4.sub (F4.mul (fX x) (fY x)) (s4 (F4.mul (fZ x) (fZ x))))) ≠ aA (e4 (MV (fY x)))],.many [.fl (aL aD.zero),.im (.bool false)]):=by kernel_rfl
theorem VT (c : Bool) (x : aN) : bH prog (kF c) (qG prog) (fun s => bif Nat.beq s 35 then true else bif Nat.beq s 44 then true else bif Nat.beq s 54 then false else bif Nat.beq s 61 then false else true) f68 60 [.v (.fl (aL x))] = some ([aA (e4 (F4.sub (F4.mul (fX x) (fX x)) (s4 (F4.mul (fY x) (fZ x))))) = aA (e4 (MV (fX x))),aA (e4 (F4.sub (F4.mul (fX x) (fY x)) (s4 (F4.mul (fZ x) (fZ x))))) = aA (e4 (MV (fY x))),aA (e4 (F4.sub (F4.mul (fY x) (fY x)) (F4.mul (fX x) (fZ x)))) ≠ aA (e4 (MV (fZ x)))],.many [.fl (aL aD.zero),.im (.bool false)]):=by kernel_rfl
theorem VS (c : Bool) (x : aN) : bH prog (kF c) (qG prog) (fun s => bif Nat.beq s 35 then true else bif Nat.beq s 44 then true else bif Nat.beq s 54 then true else bif Nat.beq s 61 then true else true) f68 60 [.v (.fl (aL x))] = some ([aA (e4 (F4.sub (F4.mul (fX x) (fX x)) (s4 (F4.mul (fY x) (fZ x))))) = aA (e4 (MV (fX x))),aA (e4 (F4.sub (F4.mul (fX x) (fY x)) (s4 (F4.mul (fZ x) (fZ x))))) = aA (e4 (MV (fY x))),aA (e4 (F4.sub (F4.mul (fY x) (fY x)) (F4.mul (fX x) (fZ x)))) = aA (e4 (MV (fZ x))),aA (aL x) = aA (aL aD.zero)],.many [.fl (aL aD.zero),.im (.bool false)]):=by kernel_rfl
def aNT (c : Bool) (x : aN) : List Prop × RV:=bif c then ([lK x],.many [.fl (aL (aD.mul x x)),.im (.bool true)]) else ([¬ lK x],.many [.fl (aL aD.zero),.im (.bool false)])
theorem aHo (c : Bool) (x : aN) (hp : aY (aNT c x).1) (args : List Value) (w : World) (ha : bR w [.v (.fl (aL x))] args) : Good prog 68 (aNT c x).2 args w:=by
 cases c
 ·have hn : ¬ lK x:=hp.1;unfold lK at hn;rw [Mt] at hn
  by_cases h1 : aCb x
  ·by_cases h2 : aCa x
   ·by_cases h3 : aBZ x
    ·have hz : x = aD.zero:=Classical.byContradiction fun e => hn ⟨e,h1,h2,h3⟩
     exact aH aG (jZ false) (aK _) func68 (VS false x) ⟨congrArg (fun t => aA (e4 t)) h1,congrArg (fun t => aA (e4 t)) h2,congrArg (fun t => aA (e4 t)) h3,congrArg (fun t => aA (aL t)) hz,trivial⟩ ha
    ·exact aH aG (jZ false) (aK _) func68 (VT false x) ⟨congrArg (fun t => aA (e4 t)) h1,congrArg (fun t => aA (e4 t)) h2,fun e => h3 (Fz e),trivial⟩ ha
   ·exact aH aG (jZ false) (aK _) func68 (VU false x) ⟨congrArg (fun t => aA (e4 t)) h1,fun e => h2 (Fz e),trivial⟩ ha
  ·exact aH aG (jZ false) (aK _) func68 (VV false x) ⟨fun e => h1 (Fz e),trivial⟩ ha
 ·have hn : lK x:=hp.1;unfold lK at hn;rw [Mt] at hn;obtain ⟨hz,h1,h2,h3⟩:=hn;show Good _ _ (.many [.fl (aL (aD.mul x x)),.im (.bool true)]) _ _;rw [← aMh x ⟨h1,h2,h3⟩];exact aH aG (jZ true) (aK _) func68 (VR true x) ⟨congrArg (fun t => aA (e4 t)) h1,congrArg (fun t => aA (e4 t)) h2,congrArg (fun t => aA (e4 t)) h3,fun e => hz (Mp e),trivial⟩ ha
def DN (c : Bool) : Tab:=(kF c).add 68 (g1 oC (aNT c))
theorem FZ (c : Bool) : TabOk prog (DN c):=(jZ c).ad func68 (bC dG (aHo c))
def aNV (c : Bool) (x : aN) : List Prop × RV:=bif c then ([lK x],.many [.fl (aL (aD.mul x x)),.im (.int .i64 0)]) else ([¬ lK x],.many [.fl (aL aD.zero),.im (.int .i64 42)])
theorem yP (x : gB) : bH prog (DN true) qN (fun _ => true) f207 40 [.v (.fl (fC x))] = some ([lK (eD x)],.many [.fl (aL (aD.mul (eD x) (eD x))),.im (.int .i64 0)]):=by kernel_rfl
theorem wP (x : gB) : bH prog (DN false) qN (fun _ => true) f207 40 [.v (.fl (fC x))] = some ([¬ lK (eD x)],.many [.fl (aL aD.zero),.im (.int .i64 42)]):=by kernel_rfl
theorem aHq (c : Bool) (x : gB) (hp : aY (aNV c (eD x)).1) (args : List Value) (w : World) (ha : bR w [.v (.fl (fC x))] args) : Good prog 207 (aNV c (eD x)).2 args w:=by
 cases c
 ·exact aH aG (FZ false) aM func207 (wP x) hp ha
 ·exact aH aG (FZ true) aM func207 (yP x) hp ha
def tU (c : Bool) : Tab:=(DN c).add 207 (g1 EJ (aNV c))
theorem vA (c : Bool) : TabOk prog (tU c):=(FZ c).ad func207 (jI lY (aHq c))
def aNU (c : Bool) (x : aN) : List Prop × RV:=bif c then ([lK x],.one (.im (.bool true))) else ([¬ lK x],.one (.im (.bool false)))
theorem yO (x : gB) : bH prog (tU true) qN (fun _ => true) f27 40 [.v (.fl (fC x))] = some ([lK (eD x)],.one (.im (.bool true))):=by kernel_rfl
theorem wO (x : gB) : bH prog (tU false) qN (fun _ => true) f27 40 [.v (.fl (fC x))] = some ([¬ lK (eD x)],.one (.im (.bool false))):=by kernel_rfl
theorem aHp (c : Bool) (x : gB) (hp : aY (aNU c (eD x)).1) (args : List Value) (w : World) (ha : bR w [.v (.fl (fC x))] args) : Good prog 27 (aNU c (eD x)).2 args w:=by
 cases c
 ·exact aH aG (vA false) aM func27 (wO x) hp ha
 ·exact aH aG (vA true) aM func27 (yO x) hp ha
def fQ (c : Bool) : Tab:=(tU c).add 27 (g1 EJ (aNU c))
theorem eW (c : Bool) : TabOk prog (fQ c):=(vA c).ad func27 (jI lY (aHp c))
theorem aTW (y : aN) : eJ (bM 2).toNat y = cM y:=by rw [show (bM 2).toNat = 2 by decide,QH]
def MU (b : Nat) : Value:=.func (.func 182) #[] #[.pointer (some ⟨b,0,none⟩)]
def yK : Code:=(f138.body).getD .skip
def c0 : Nat → Cfg:=fun _ => ⟨fun _ => fQ true,fun _ => true,fun _ => none⟩
theorem aSq (x : aN) : aX prog qN f138.ntmps c0 40 (cA yK) (kZ 0 [.v (.fl (aL x))]) [.slot 1 (.pt 1 0),.row 1 true (aL x)] = some ([],.nrm,[.slot 1 (.pt 1 0),.row 1 true (aL x)]):=by kernel_rfl
theorem aSp (x : aN) (b : Nat) : aX prog qN f138.ntmps c0 40 (cB yK) [.at 1 b,.slot 1 (.pt 1 0),.row 1 true (aL x)] [.slot 2 (.im (MU b)),.row 1 true (aL x),.at 1 b] = some ([],.rt,[.slot 2 (.im (MU b)),.row 1 true (aL x),.at 1 b]):=by kernel_rfl
theorem aFt : yK = .seq (cA yK) (cB yK):=by kernel_rfl
theorem JO (x : aN) (args : List Value) (w : World) (ha : bR w [.v (.fl (aL x))] args) : Calls prog 138 args.toArray w (fun e w' => ∃ b,e = .returned (MU b) ∧ Below w.heap.size w w' ∧ w.heap.size ≤ b ∧ b < w'.heap.size ∧ w'.rangeAt b 0 (aA (aL x)) ∧ ∀ j,w'.frozen? ⟨b,j,none⟩ = false):=by
 refine dS func138 (c:=yK) rfl ha (Nat.le_of_ble_eq_true (by kernel_rfl)) fun a w' hA => ?_
 rw [aFt];refine wp_seq (bD aG (fun _ _ => eW true) aM (aSq x) trivial hA fun a w' hA => ?_);obtain ⟨b,hA⟩:=hA.at (k:=1) (l:=aL x) (by simp);refine bD aG (fun _ _ => eW true) aM (aSp x b) trivial hA fun a w' hA => ?_
 refine pJ (l:=[.im (MU b)]) (r:=.one (.im (MU b))) (by kernel_rfl) (by kernel_rfl) hA ?_;obtain ⟨β,g1,g2⟩:=hA.facts;obtain ⟨e1,e2,e3,_⟩:=g1 (.row 1 true (aL x)) (by simp);obtain ⟨e4,e5,e6⟩:=e3 rfl;obtain ⟨e7,e8⟩:=g1 (.at 1 b) (by simp);rw [e7] at e1 e2 e4 e6;rw [e8] at e2;exact ⟨b,rfl,hA.below,e4,e1,e2,e6⟩
def oD : Code:=(f182.body).getD .skip
def jA : Code:=pS (pS (cB (cA (cB oD))))
def qF0 (k : Nat) (b : Nat) : List Fact:=[.slot 0 (.im (iI k)),.slot 1 (.im (iE b 0)),.slot 3 (.pt 3 0),.row 3 true (aL aD.zero)]
def qF (k i : Nat) (b : Nat) : List Fact:=[.slot 1 (.im (iE b 0)),.slot 3 (.pt 3 0),.row 3 true (aL aD.zero),.slot 4 (.im (iI k)),.slot 5 (.im (iI i))]
def c1 (n : Nat → Option Value) : Nat → Cfg:=fun _ => ⟨fun _ => fQ true,fun _ => true,n⟩
theorem aSW (k b : Nat) : aX prog qN f182.ntmps c0 40 (cA oD) (kZ 0 [.v (.im (iI k)),.v (.im (iE b 0))]) (qF0 k b) = some ([],.nrm,qF0 k b):=by kernel_rfl
theorem aSV (k b : Nat) : aX prog qN f182.ntmps c0 40 (cA (cA (cB oD))) (qF0 k b) (qF k 0 b) = some ([],.nrm,qF k 0 b):=by kernel_rfl
theorem aSX (k i b : Nat) (c : Bool) : aX prog qN f182.ntmps (c1 (fun s => bif Nat.beq s 6 then some (.bool c) else none)) 40 (cA jA) (qF k i b) (.slot 6 (.im (.bool c)) :: qF k i b) = some ([aI .lss .i64 (Int.ofNat i) (Int.ofNat k) = some (.bool c)],.nrm,.slot 6 (.im (.bool c)) :: qF k i b):=by kernel_rfl
theorem aSY (k i b : Nat) : aX prog qN f182.ntmps c0 40 (cA (cB jA)) (.slot 6 (.im (.bool true)) :: qF k i b) (qF k i b) = some ([],.nrm,qF k i b):=by kernel_rfl
theorem aSZ (k i b : Nat) : aX prog qN f182.ntmps c0 40 (cA (cB jA)) (.slot 6 (.im (.bool false)) :: qF k i b) (qF k i b) = some ([],.ex 0,qF k i b):=by kernel_rfl
def Wt (u : aN) (b : Nat) : Ext:={ Ext.none with ld:=fun s => bif Nat.beq s 7 then some (aL u) else bif Nat.beq s 10 then some (aL u) else none,old:=fun b' o l => b' = b ∧ o = 0 ∧ l = aL u }
def oSq (x : aN) : List Prop × RV:=([lK x],.one (.fl (aL (aD.mul x x))))
theorem UV (x : gB) : bH prog (fQ true) qN (fun _ => true) f164 40 [.v (.fl (fC x))] = some ([lK (eD x)],.one (.fl (aL (aD.mul (eD x) (eD x))))):=by kernel_rfl
def Gu : Tab:=(fQ true).add 164 (g1 oC oSq)
theorem AS : TabOk prog Gu:=(eW true).ad func164 (bC dG fun x hp args w ha => by
 have h:=aH aG (eW true) aM func164 (UV (gR x)) (by rw [fA]; exact hp) (args:=args) (w:=w) (by
  match args,ha with
  | [v],ha => exact ⟨ha.1,trivial⟩
  | [],ha => exact ha.elim
  | _ :: _ :: _,ha => exact ha.2.elim)
 rw [fA] at h;exact h)
def cq : Nat → Cfg:=fun _ => ⟨fun _ => Gu,fun _ => true,fun _ => none⟩
theorem aWz (k i b : Nat) (u : aN) : rJ prog { qG prog with x:=Wt u b } f182.ntmps (cq 0) ((cJ (pS (cA (cB (cB jA))))).extract 0 2) (qF k i b) (.slot 8 (.fl (aL (aD.mul u u))) :: qF k i b) = some ([b = b ∧ 0 = 0 ∧ aL u = aL u,cS (aL u) = 48,lK u],.slot 8 (.fl (aL (aD.mul u u))) :: qF k i b):=by kernel_rfl
theorem aWA (k i b : Nat) : aX prog qN f182.ntmps (c1 (fun s => bif Nat.beq s 9 then some (iI (i + 1)) else none)) 40 (cB (cB (cB jA))) (qF k i b) (qF k (i + 1) b) = some ([aI .add .i64 (Int.ofNat i) 1 = some (iI (i + 1))],.nrm,qF k (i + 1) b):=by kernel_rfl
theorem aWB (k b : Nat) (u : aN) : aX prog { qG prog with x:=Wt u b } f182.ntmps c0 40 (cB (cB oD)) (qF k k b) [.slot 3 (.pt 3 0),.row 3 true (aL u)] = some ([b = b ∧ 0 = 0 ∧ aL u = aL u,cS (aL u) = 48],.rt,[.slot 3 (.pt 3 0),.row 3 true (aL u)]):=by kernel_rfl
theorem aGt : oD = .seq (cA oD) (.seq (.seq (cA (cA (cB oD))) (.block 0 (.loop jA))) (cB (cB oD))):=by kernel_rfl
theorem WL : jA = .seq (cA jA) (.seq (cA (cB jA)) (.seq (.block 1 (.region 3 (cJ (pS (cA (cB (cB jA))))) false)) (cB (cB (cB jA))))):=by kernel_rfl
structure St (w : World) (b : Nat) (A : List Fact) (u : aN) (a : Act) (wi : World) : Prop where
 hold : Holds f182.ntmps w.heap.size wi A a wi
 wr : WrAt w wi b []
 rng : wi.rangeAt b 0 (aA (aL u))
theorem St.step {w : World} {b : Nat} (hb : b < w.heap.size) {A L : List Fact} {u : aN} {a a2 : Act} {wi w2 : World} (h : St w b A u a wi) (h2 : Holds f182.ntmps w.heap.size wi L a2 w2) : St w b L u a2 w2 :=
 ⟨h2.now,h.wr.below hb h2.below,iQ h2.below hb h.rng⟩
theorem aIA (x : aN) : (aL x).all cOk = true:=by kernel_rfl
theorem zX (x : aN) : cS (aL x) = 48:=by kernel_rfl
theorem aMO (x : aN) (i : Nat) : aD.mul (bO aD x (2 ^ i)) (bO aD x (2 ^ i)) = bO aD x (2 ^ (i + 1)):=by
 rw [← cI];congr 1;rw [Nat.pow_succ]; omega
theorem Zc (k : Nat) (hk : k < 4611686018427387904) (x : aN) (hx : lK x) (b : Nat) (w : World) (hb : b < w.heap.size) (hr : w.rangeAt b 0 (aA (aL x))) (hf : ∀ j,w.frozen? ⟨b,j,none⟩ = false) :
  Calls prog 182 #[iI k,iE b 0] w (fun e w' => e = .returned (.agg (aA (aL (bO aD x (2 ^ k)))).toArray) ∧ WrAt w w' b [] ∧ w'.rangeAt b 0 (aA (aL (bO aD x (2 ^ k))))):=by
 have hT : ∀ (n d : Nat) (wi : World),TabOkW prog (fQ true) w.heap.size wi:=fun _ _ wi => (eW true).w _ _
 have hTq : ∀ (d : Nat) (wi : World),TabOkW prog Gu w.heap.size wi:=fun _ wi => AS.w _ _
 have hq : ∀ wi : World,cK prog qN w.heap.size wi:=fun wi => aM.w _ _
 have hqo : ∀ (u : aN) (wi : World),wi.rangeAt b 0 (aA (aL u)) → cK prog { qG prog with x:=Wt u b } w.heap.size wi:=fun u wi h => Mk rfl rfl rfl fun b' o l e => by
  obtain ⟨rfl,rfl,rfl⟩:=e;exact ⟨hb,h⟩
 refine dS func182 (c:=oD) rfl (args:=[iI k,iE b 0]) (cs:=[.v (.im (iI k)),.v (.im (iE b 0))]) ⟨rfl,rfl,trivial⟩ (Nat.le_of_ble_eq_true (by kernel_rfl)) fun a w' hA => ?_
 have S : St w b _ x a w':=⟨hA.now,(WrAt.refl w b).below hb hA.below,iQ hA.below hb hr⟩;clear hA;rw [aGt];refine wp_seq (aC aG (fun n d => hT n d _) (hq _) (aSW k b) trivial S.hold fun a w2 hA => ?_);replace S:=S.step hb hA;clear hA;refine wp_seq (wp_seq (aC aG (fun n d => hT n d _) (hq _) (aSV k b) trivial S.hold fun a w3 hA => ?_));replace S:=S.step hb hA;clear hA;refine wp_block ?_;refine pI (fun i a wi => St w b (qF k i b) (bO aD x (2 ^ i)) a wi) k (fun i hi a wi S R hR => ?_) (fun a wi S R => ?_) (by rw [Nat.pow_zero,WN]; exact S)
 ·rw [WL];refine wp_seq (aC aG (fun n d => (eW true).w _ _) (hq _) (aSX k i b true) ⟨bX hi,trivial⟩ S.hold fun a w4 hA => ?_);replace S:=S.step hb hA;clear hA;refine wp_seq (aC aG (fun n d => hT n d _) (hq _) (aSY k i b) trivial S.hold fun a w5 hA => ?_);replace S:=S.step hb hA;clear hA;refine wp_seq (wp_block (sU (l:=List.range' 0 ((cJ (pS (cA (cB (cB jA))))).extract 0 2).size ++ (2 :: [])) (by kernel_rfl) ?_));refine cE (c:=cq 0) (fun d => hTq d _) (hqo _ _ S.rng) (aWz k i b _) ⟨⟨rfl,rfl,rfl⟩,zX _,zQ hx _,trivial⟩ (by kernel_rfl) S.hold fun a w6 hA => ?_
  replace S:=S.step hb hA;clear hA;have h8:=S.hold.slotF (s:=8) (l:=aL (aD.mul (bO aD x (2 ^ i)) (bO aD x (2 ^ i)))) (by simp);have h1:=S.hold.slot (s:=1) (v:=iE b 0) (by simp [qF]);obtain ⟨o,ho,hoo,hod,hog⟩ : ∃ o,(cJ (pS (cA (cB (cB jA)))))[2]? = some o ∧ o.op = .store 42 (.tmp 1) (.tmp 8) ∧ o.dst = none ∧ o.guard = none:=⟨_,rfl,rfl,rfl,rfl⟩
  refine mG ho hog (Ov (b:=b) (n:=48) (p:=aL (aD.mul (bO aD x (2 ^ i)) (bO aD x (2 ^ i)))) (l:=aA (aL (bO aD x (2 ^ i)))) hoo hod (by simp [Act.eval,h1,iE]) (by simp [Act.eval,h8]) (by kernel_rfl) (zX _) (aIA _) S.rng (by rw [aU,zX]) (fun j => by rw [S.wr.frozen]; exact hf j) ?_);have S2 : St w b (.slot 8 (.fl (aL (aD.mul (bO aD x (2 ^ i)) (bO aD x (2 ^ i))))) :: qF k i b) (bO aD x (2 ^ (i + 1))) a (w6.setCells b 0 (aA (aL (aD.mul (bO aD x (2 ^ i)) (bO aD x (2 ^ i)))))) :=
   ⟨S.hold.setOld (by kernel_rfl) hb 0 _,S.wr.set 0 _,by rw [← aMO]; exact Sg S.rng (by rw [aU,aU,zX,zX])⟩
  show (cB (cB (cB jA))).wp _ _ _ _;refine aC aG (fun n d => hT n d _) (hq _) (aWA k i b) ⟨kS (k:=1) (by omega),trivial⟩ (S2.hold.sub fun φ h => List.mem_cons_of_mem _ h) fun a w7 hA => ?_
  exact hR _ _ (S2.step hb hA)
 ·rw [WL];refine wp_seq (aC aG (fun n d => (eW true).w _ _) (hq _) (aSX k k b false) ⟨eI (Nat.le_refl _),trivial⟩ S.hold fun a w4 hA => ?_);replace S:=S.step hb hA;clear hA;refine wp_seq (aC aG (fun n d => hT n d _) (hq _) (aSZ k k b) trivial S.hold fun a w5 hA => ?_);replace S:=S.step hb hA;clear hA;show (cB (cB oD)).wp _ _ _ _;refine aC aG (fun n d => hT n d _) (hqo _ _ S.rng) (aWB k b _) ⟨⟨rfl,rfl,rfl⟩,zX _,trivial⟩ S.hold fun a w6 hA => ?_
  have S2:=S.step hb hA;exact pJ (l:=[.fl (aL (bO aD x (2 ^ k)))]) (r:=.one (.fl (aL (bO aD x (2 ^ k))))) (by kernel_rfl) (by kernel_rfl) hA ⟨rfl,S2.wr,S2.rng⟩
end Go.Proofs.YtglgakbkdjhojaaGreat.Ex
