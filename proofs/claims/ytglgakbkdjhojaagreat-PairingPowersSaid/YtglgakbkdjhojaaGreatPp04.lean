/- Pp04 -/
import Derived.KernelRfl
import Derived.WalkKit
import Derived.WalkLawsBesides
import Derived.WalkSpells
import Derived.ProofKit
import Derived.RegionTactic
import Derived.BigRegion
import Derived.BigQuiet
import Derived.Deep.QuietTactic
import Derived.ChangeAlike
import Derived.Laws.Externs
import Derived.LoopN
import Derived.Below
import Derived.Lib.Hide
import Derived.Shelf.Small.Bits
import Derived.Shelf.Strconv.Itoa0
import Derived.Shelf.Bits.Mul64
import Derived.StillTailTactics
import Derived.Laws.Bits64b
import Derived.Laws.Bits64
import Derived.Test.YtglgakbkdjhojaaGreatPp03
import Derived.Test.YtglgakbkdjhojaaGreatPp02
import Derived.Test.YtglgakbkdjhojaaGreatPp00
import Derived.Test.YtglgakbkdjhojaaGreatProg
set_option maxRecDepth 100000
set_option linter.unusedVariables false
set_option linter.unusedSimpArgs false
noncomputable section
namespace Go.Proofs.YtglgakbkdjhojaaGreat.Ex
open Go.Proofs.Tryz
open Go.RowKit
def cH (x : aN) : aN:=(x.1,F6.sub F6.zero x.2)
def n12 (x : aN) : Q6:=F6.sub (F6.mul x.1 x.1) (F6.mul vE (F6.mul x.2 x.2))
def lJ (x : aN) : aN:=(F6.mul x.1 (iv6 (n12 x)),F6.mul (F6.sub F6.zero x.2) (iv6 (n12 x)))
def sF (x : aN) : Fq:=rL (n6 (n12 x))
theorem OJ (c : Bool) (x : aN) (y : aN) : bH prog (SD c) qN (fun _ => true) f66 40 [.v (.fl (aL x)),.v (.fl (aL y))] = some ([],.one (.fl (aL ((F6.add (F6.mul x.1 y.1) (F6.mul vE (F6.mul x.2 y.2)),F6.sub (F6.sub (F6.mul (F6.add x.1 x.2) (F6.add y.1 y.2)) (F6.mul x.1 y.1)) (F6.mul x.2 y.2)))))):=by kernel_rfl
theorem OX (x : aN) (y : aN) : aD.mul x y = (F6.add (F6.mul x.1 y.1) (F6.mul vE (F6.mul x.2 y.2)),F6.sub (F6.sub (F6.mul (F6.add x.1 x.2) (F6.add y.1 y.2)) (F6.mul x.1 y.1)) (F6.mul x.2 y.2)):=by
 refine Prod.ext rfl ?_;exact aE F6 (aR F6 [x.1,x.2,y.1,y.2]) (.add (.mul (.v 0) (.v 3)) (.mul (.v 1) (.v 2))) (.add (.add (.mul (.add (.v 0) (.v 1)) (.add (.v 2) (.v 3))) (.neg (.mul (.v 0) (.v 2)))) (.neg (.mul (.v 1) (.v 3)))) (by decide)
def vU (c : Bool) : Tab:=(SD c).add 66 (g2 oC oC (fun x y => ([],.one (.fl (aL (aD.mul x y))))))
theorem AR (c : Bool) (hB : TabOk prog (oR c)) : TabOk prog (vU c):=(XV c hB).ad func66 (fB dG dG fun x y hp args w ha => by show Good _ _ (.one (.fl (aL (aD.mul x y)))) _ _; rw [OX x y]; exact aH aG (XV c hB) aM func66 (OJ c x y) hp ha)
theorem UT (c : Bool) (x : aN) : bH prog (vU c) qN (fun _ => true) f139 40 [.v (.fl (aL x))] = some ([],.one (.fl (aL (cH x)))):=by kernel_rfl
def AI (c : Bool) : Tab:=(vU c).add 139 (g1 oC (fun x => ([],.one (.fl (aL (cH x))))))
theorem FU (c : Bool) (hB : TabOk prog (oR c)) : TabOk prog (AI c):=(AR c hB).ad func139 (bC dG fun x hp args w ha => aH aG (AR c hB) aM func139 (UT c x) hp ha)
theorem Bv (c : Bool) (x : aN) : bH prog (AI c) qN (fun _ => true) f67 40 [.v (.fl (aL x))] = some ([],.one (.fl (aL (x)))):=by kernel_rfl
def IQ (c : Bool) : Tab:=(AI c).add 67 (g1 oC (fun x => ([],.one (.fl (aL (x))))))
theorem LF (c : Bool) (hB : TabOk prog (oR c)) : TabOk prog (IQ c):=(FU c hB).ad func67 (bC dG fun x hp args w ha => aH aG (FU c hB) aM func67 (Bv c x) hp ha)
theorem Cg (c : Bool) (x : gB) : bH prog (IQ c) qN (fun _ => true) f65 40 [.v (.fl (fC x))] = some ([],.one (.fl (aL (eD x)))):=by kernel_rfl
def IU (c : Bool) : Tab:=(IQ c).add 65 (g1 ER (fun x => ([],.one (.fl (aL (eD x))))))
theorem LK (c : Bool) (hB : TabOk prog (oR c)) : TabOk prog (IU c):=(LF c hB).ad func65 (bC mA fun x hp args w ha => aH aG (LF c hB) aM func65 (Cg c x) hp ha)
theorem Qg (c : Bool)  : bH prog (IU c) qN (fun _ => true) f122 40 [] = some ([],.one (.fl (aL (aD.one)))):=by kernel_rfl
def DM (c : Bool) : Tab:=(IU c).add 122 (g0 (.one (.fl (aL (aD.one)))))
theorem FW (c : Bool) (hB : TabOk prog (oR c)) : TabOk prog (DM c):=(LK c hB).ad func122 (jJ fun w => aH aG (LK c hB) aM func122 (Qg c ) trivial (args:=[]) trivial)
def El (c : Bool) (x : aN) : List Prop × RV:=bif c then ([sF x ≠ F1.zero],.many [.fl (aL (lJ x)),.im (.int .i64 0)]) else ([sF x = F1.zero],.many [.fl (aL aD.zero),.im (.int .i64 22)])
theorem BT (x : aN) : bH prog (DM true) qN (fun _ => true) f163 40 [.v (.fl (aL x))] = some ([sF x ≠ F1.zero],.many [.fl (aL (lJ x)),.im (.int .i64 0)]):=by kernel_rfl
theorem yN (x : aN) : bH prog (DM false) qN (fun _ => true) f163 40 [.v (.fl (aL x))] = some ([sF x = F1.zero],.many [.fl (aL aD.zero),.im (.int .i64 22)]):=by kernel_rfl
theorem Sx (c : Bool) (hB : TabOk prog (oR c)) (x : aN) (hp : aY (El c x).1) (args : List Value) (w : World) (ha : bR w [.v (.fl (aL x))] args) : Good prog 163 (El c x).2 args w:=by
 cases c
 ·exact aH aG (FW false hB) aM func163 (yN x) hp ha
 ·exact aH aG (FW true hB) aM func163 (BT x) hp ha
def IR (c : Bool) : Tab:=(DM c).add 163 (g1 oC (El c))
theorem LH (c : Bool) (hB : TabOk prog (oR c)) : TabOk prog (IR c):=(FW c hB).ad func163 (bC dG (Sx c hB))
theorem Rw (c : Bool) (x : gB) (y : gB) : bH prog (IR c) qN (fun _ => true) f26 40 [.v (.fl (fC x)),.v (.fl (fC y))] = some ([],.one (.fl (aL (aD.mul (eD x) (eD y))))):=by kernel_rfl
def DP (c : Bool) : Tab:=(IR c).add 26 (g2 ER ER (fun x y => ([],.one (.fl (aL (aD.mul (eD x) (eD y)))))))
theorem GB (c : Bool) (hB : TabOk prog (oR c)) : TabOk prog (DP c):=(LH c hB).ad func26 (fB mA mA fun x y hp args w ha => aH aG (LH c hB) aM func26 (Rw c x y) hp ha)
def aBc (c : Bool) (x : gB) : List Prop × RV:=bif c then ([sF (eD x) ≠ F1.zero],.many [.fl (aL (lJ (eD x))),.im (.int .i64 0)]) else ([sF (eD x) = F1.zero],.many [.fl (aL aD.zero),.im (.int .i64 22)])
theorem EP (x : gB) : bH prog (DP true) qN (fun _ => true) f109 40 [.v (.fl (fC x))] = some ([sF (eD x) ≠ F1.zero],.many [.fl (aL (lJ (eD x))),.im (.int .i64 0)]):=by kernel_rfl
theorem BU (x : gB) : bH prog (DP false) qN (fun _ => true) f109 40 [.v (.fl (fC x))] = some ([sF (eD x) = F1.zero],.many [.fl (aL aD.zero),.im (.int .i64 22)]):=by kernel_rfl
theorem aBb (c : Bool) (hB : TabOk prog (oR c)) (x : gB) (hp : aY (aBc c x).1) (args : List Value) (w : World) (ha : bR w [.v (.fl (fC x))] args) : Good prog 109 (aBc c x).2 args w:=by
 cases c
 ·exact aH aG (GB false hB) aM func109 (BU x) hp ha
 ·exact aH aG (GB true hB) aM func109 (EP x) hp ha
def SR (c : Bool) : Tab:=(DP c).add 109 (g1 ER (aBc c))
theorem YD (c : Bool) (hB : TabOk prog (oR c)) : TabOk prog (SR c):=(GB c hB).ad func109 (bC mA (aBb c hB))
theorem Rv (c : Bool)  : bH prog (SR c) qN (fun _ => true) f60 40 [] = some ([],.one (.fl (aL (aD.one)))):=by kernel_rfl
def DO (c : Bool) : Tab:=(SR c).add 60 (g0 (.one (.fl (aL (aD.one)))))
theorem GA (c : Bool) (hB : TabOk prog (oR c)) : TabOk prog (DO c):=(YD c hB).ad func60 (jJ fun w => aH aG (YD c hB) aM func60 (Rv c ) trivial (args:=[]) trivial)
def aBa (c : Bool) (x : N2) : List Prop × RV:=bif c then ([rL (m2 x) ≠ F1.zero],.many [.fl (e2 (dT (m2 x))),.im (.int .i64 0)]) else ([rL (m2 x) = F1.zero],.many [.fl (e2 F2.zero),.im (.int .i64 22)])
theorem JU (x : N2) : bH prog (DO true) qN (fun _ => true) f304 40 [.v (.fl (q2 x))] = some ([rL (m2 x) ≠ F1.zero],.many [.fl (e2 (dT (m2 x))),.im (.int .i64 0)]):=by kernel_rfl
theorem EO (x : N2) : bH prog (DO false) qN (fun _ => true) f304 40 [.v (.fl (q2 x))] = some ([rL (m2 x) = F1.zero],.many [.fl (e2 F2.zero),.im (.int .i64 22)]):=by kernel_rfl
theorem aAZ (c : Bool) (hB : TabOk prog (oR c)) (x : N2) (hp : aY (aBa c x).1) (args : List Value) (w : World) (ha : bR w [.v (.fl (q2 x))] args) : Good prog 304 (aBa c x).2 args w:=by
 cases c
 ·exact aH aG (GA false hB) aM func304 (EO x) hp ha
 ·exact aH aG (GA true hB) aM func304 (JU x) hp ha
def Hn (c : Bool) : Tab:=(DO c).add 304 (g1 rq2 (aBa c))
theorem Kl (c : Bool) (hB : TabOk prog (oR c)) : TabOk prog (Hn c):=(GA c hB).ad func304 (bC rV (aAZ c hB))
theorem Yl (c : Bool) (x : N2) (y : N2) : bH prog (Hn c) qN (fun _ => true) f213 40 [.v (.fl (q2 x)),.v (.fl (q2 y))] = some ([],.one (.fl (e2 (F2.mul (m2 x) (m2 y))))):=by kernel_rfl
def Hl (c : Bool) : Tab:=(Hn c).add 213 (g2 rq2 rq2 (fun x y => ([],.one (.fl (e2 (F2.mul (m2 x) (m2 y)))))))
theorem Kk (c : Bool) (hB : TabOk prog (oR c)) : TabOk prog (Hl c):=(Kl c hB).ad func213 (fB rV rV fun x y hp args w ha => aH aG (Kl c hB) aM func213 (Yl c x y) hp ha)
theorem Yk (c : Bool) (x : N2) : bH prog (Hl c) qN (fun _ => true) f171 40 [.v (.fl (q2 x))] = some ([],.one (.fl (e2 (F2.sub F2.zero (m2 x))))):=by kernel_rfl
def AL (c : Bool) : Tab:=(Hl c).add 171 (g1 rq2 (fun x => ([],.one (.fl (e2 (F2.sub F2.zero (m2 x)))))))
theorem aHm (c : Bool) (hB : TabOk prog (oR c)) : TabOk prog (AL c):=(Kk c hB).ad func171 (bC rV fun x hp args w ha => aH aG (Kk c hB) aM func171 (Yk c x) hp ha)
def Fw : Q2:=(fm 1,fm 0)
def GX : Q2:=(fm 8376118865763821496583973867626364092589906065868298776909617916018768340080,fm 16469823323077808223889137241176536799009286646108169935659301613961712198316)
def BH : Q2:=(fm 21575463638280843010398324269430826099269044274347216827212613867836435027261,fm 10307601595873709700152284273816112264069230130616436755625194854815875713954)
def Mh : Q2:=(fm 2821565182194536844548159561693502659359617185244120367078079554186484126554,fm 3505843767911556378687030309984248845540243509899259641013678093033130930403)
def Mg : Q2:=(fm 2581911344467009335267311115468803099551665605076196740867805258568234346338,fm 19937756971775647987995932169929341994314640652964949448313374472400716661030)
def fb5 : Q2:=(fm 685108087231508774477564247770172212460312782337200605669322048753928464687,fm 8447204650696766136447902020341177575205426561248465145919723016860428151883)
def Pc : Fq:=fm 1
def Ij : Fq:=fm 21888242871839275220042445260109153167277707414472061641714758635765020556617
def Pb : Fq:=fm 21888242871839275220042445260109153167277707414472061641714758635765020556616
def Pa : Fq:=fm 21888242871839275222246405745257275088696311157297823662689037894645226208582
def Oz : Fq:=fm 2203960485148121921418603742825762020974279258880205651966
def Oy : Fq:=fm 2203960485148121921418603742825762020974279258880205651967
theorem aPr : Fw = F2.one:=by decide
theorem aMv : F2.mul (aJ Fw) Fw = (Pc,F1.zero):=by decide
theorem aMt : F2.mul (aJ GX) GX = (Ij,F1.zero):=by decide
theorem aMr : F2.mul (aJ BH) BH = (Pb,F1.zero):=by decide
theorem aMp : F2.mul (aJ Mh) Mh = (Pa,F1.zero):=by decide
theorem aMn : F2.mul (aJ Mg) Mg = (Oz,F1.zero):=by decide
theorem aMl : F2.mul (aJ fb5) fb5 = (Oy,F1.zero):=by decide
def cN (x : aN) : aN:=((F2.mul (aJ x.1.1) Fw,F2.mul (aJ x.1.2.1) BH,F2.mul (aJ x.1.2.2) Mg),(F2.mul (aJ x.2.1) GX,F2.mul (aJ x.2.2.1) Mh,F2.mul (aJ x.2.2.2) fb5))
def cM (x : aN) : aN:=((pQ x.1.1 Pc,pQ x.1.2.1 Pb,pQ x.1.2.2 Oz),(pQ x.2.1 Ij,pQ x.2.2.1 Pa,pQ x.2.2.2 Oy))
theorem gL (x y : Q2) : aJ (F2.mul x y) = F2.mul (aJ x) (aJ y):=by
 refine Prod.ext ?_ ?_
 ·exact aE F1 (aR F1 [x.1,x.2,y.1,y.2]) (.add (.mul (.v 0) (.v 2)) (.mul (.neg .one) (.mul (.v 1) (.v 3)))) (.add (.mul (.v 0) (.v 2)) (.mul (.neg .one) (.mul (.neg (.v 1)) (.neg (.v 3))))) (by decide)
 ·exact aE F1 (aR F1 [x.1,x.2,y.1,y.2]) (.neg (.add (.mul (.v 0) (.v 3)) (.mul (.v 1) (.v 2)))) (.add (.mul (.v 0) (.neg (.v 3))) (.mul (.neg (.v 1)) (.v 2))) (by decide)
theorem kI (x y : Q2) : aJ (F2.add x y) = F2.add (aJ x) (aJ y):=Prod.ext rfl (F1.neg_add' _ _)
theorem aVc (x : Q2) : aJ (aJ x) = x:=Prod.ext rfl (F1.neg_neg _)
theorem dU (x : Q2) (k : Fq) : pQ x k = F2.mul x (k,F1.zero):=by
 refine Prod.ext ?_ ?_
 ·exact aE F1 (aR F1 [x.1,x.2,k]) (.mul (.v 0) (.v 2)) (.add (.mul (.v 0) (.v 2)) (.mul (.neg .one) (.mul (.v 1) .zero))) (by decide)
 ·exact aE F1 (aR F1 [x.1,x.2,k]) (.mul (.v 1) (.v 2)) (.add (.mul (.v 0) .zero) (.mul (.v 1) (.v 2))) (by decide)
theorem zB (c t : Q2) (k : Fq) (h : F2.mul (aJ t) t = (k,F1.zero)) : F2.mul (aJ (F2.mul (aJ c) t)) t = pQ c k:=by
 rw [gL,aVc,F2.mul_assoc,h,← dU]
theorem XQ (x : aN) : cN (cN x) = cM x:=by
 refine Prod.ext (Prod.ext (zB _ _ _ aMv) (Prod.ext (zB _ _ _ aMr) (zB _ _ _ aMn))) (Prod.ext (zB _ _ _ aMt) (Prod.ext (zB _ _ _ aMp) (zB _ _ _ aMl)))
theorem KO (c : Q2) (k l m : Fq) : pQ (pQ (pQ c k) l) m = pQ c (F1.mul k (F1.mul l m)):=by
 refine Prod.ext ?_ ?_
 ·show F1.mul (F1.mul (F1.mul c.1 k) l) m = F1.mul c.1 (F1.mul k (F1.mul l m)); rw [F1.mul_assoc,F1.mul_assoc]
 ·show F1.mul (F1.mul (F1.mul c.2 k) l) m = F1.mul c.2 (F1.mul k (F1.mul l m)); rw [F1.mul_assoc,F1.mul_assoc]
theorem Bm (c : Q2) : pQ c F1.one = c:=Prod.ext (F1.mul_one _) (F1.mul_one _)
theorem Bn (c : Q2) : pQ c (F1.neg F1.one) = F2.sub F2.zero c:=by
 refine Prod.ext ?_ ?_
 ·show F1.mul c.1 (F1.neg F1.one) = F1.add F1.zero (F1.neg c.1); rw [F1.mul_neg,F1.mul_one,F1.zero_add]
 ·show F1.mul c.2 (F1.neg F1.one) = F1.add F1.zero (F1.neg c.2); rw [F1.mul_neg,F1.mul_one,F1.zero_add]
theorem aMw : F1.mul Pc (F1.mul Pc Pc) = F1.one:=by decide
theorem aMu : F1.mul Ij (F1.mul Ij Ij) = F1.neg F1.one:=by decide
theorem aMs : F1.mul Pb (F1.mul Pb Pb) = F1.one:=by decide
theorem aMq : F1.mul Pa (F1.mul Pa Pa) = F1.neg F1.one:=by decide
theorem aMo : F1.mul Oz (F1.mul Oz Oz) = F1.one:=by decide
theorem aMm : F1.mul Oy (F1.mul Oy Oy) = F1.neg F1.one:=by decide
theorem wB (x : aN) : cM (cM (cM x)) = cH x:=by
 refine Prod.ext (Prod.ext ?_ (Prod.ext ?_ ?_)) (Prod.ext ?_ (Prod.ext ?_ ?_))
 ·exact (KO _ _ _ _).trans (by rw [aMw,Bm]; rfl)
 ·exact (KO _ _ _ _).trans (by rw [aMs,Bm]; rfl)
 ·exact (KO _ _ _ _).trans (by rw [aMo,Bm]; rfl)
 ·exact (KO _ _ _ _).trans (by rw [aMu,Bn]; rfl)
 ·exact (KO _ _ _ _).trans (by rw [aMq,Bn]; rfl)
 ·exact (KO _ _ _ _).trans (by rw [aMm,Bn]; rfl)
def LA (z : Q6) : Q6:=(F2.mul (aJ z.1) Fw,F2.mul (aJ z.2.1) BH,F2.mul (aJ z.2.2) Mg)
theorem aPq : Mg = F2.mul BH BH:=by decide
theorem TB : aJ dC = F2.mul dC (F2.mul BH (F2.mul BH BH)):=by decide
theorem PG (z : Q6) : LA z = (aJ z.1,F2.mul (aJ z.2.1) BH,F2.mul (aJ z.2.2) (F2.mul BH BH)):=by
 unfold LA;rw [aPr,F2.mul_one,aPq]
theorem tE (z y : Q6) : LA (F6.add z y) = F6.add (LA z) (LA y):=by
 refine Prod.ext ?_ (Prod.ext ?_ ?_)
 ·show F2.mul (aJ (F2.add z.1 y.1)) Fw = F2.add _ _; rw [kI,F2.add_mul]; rfl
 ·show F2.mul (aJ (F2.add z.2.1 y.2.1)) BH = F2.add _ _; rw [kI,F2.add_mul]; rfl
 ·show F2.mul (aJ (F2.add z.2.2 y.2.2)) Mg = F2.add _ _; rw [kI,F2.add_mul]; rfl
theorem aHe {R : Type} (K : CR R) (a b c d e f t q : R) : K.add (K.mul a d) (K.mul (K.mul q (K.mul t (K.mul t t))) (K.add (K.mul b f) (K.mul c e))) = K.add (K.mul a d) (K.mul q (K.add (K.mul (K.mul b t) (K.mul f (K.mul t t))) (K.mul (K.mul c (K.mul t t)) (K.mul e t)))) :=
 aE K (aR K [a,b,c,d,e,f,t,q]) (.add (.mul (.v 0) (.v 3)) (.mul (.mul (.v 7) (.mul (.v 6) (.mul (.v 6) (.v 6)))) (.add (.mul (.v 1) (.v 5)) (.mul (.v 2) (.v 4))))) (.add (.mul (.v 0) (.v 3)) (.mul (.v 7) (.add (.mul (.mul (.v 1) (.v 6)) (.mul (.v 5) (.mul (.v 6) (.v 6)))) (.mul (.mul (.v 2) (.mul (.v 6) (.v 6))) (.mul (.v 4) (.v 6)))))) (by decide)
theorem aHd {R : Type} (K : CR R) (a b c d e f t q : R) : K.mul (K.add (K.add (K.mul a e) (K.mul b d)) (K.mul (K.mul q (K.mul t (K.mul t t))) (K.mul c f))) t = K.add (K.add (K.mul a (K.mul e t)) (K.mul (K.mul b t) d)) (K.mul q (K.mul (K.mul c (K.mul t t)) (K.mul f (K.mul t t)))) :=
 aE K (aR K [a,b,c,d,e,f,t,q]) (.mul (.add (.add (.mul (.v 0) (.v 4)) (.mul (.v 1) (.v 3))) (.mul (.mul (.v 7) (.mul (.v 6) (.mul (.v 6) (.v 6)))) (.mul (.v 2) (.v 5)))) (.v 6)) (.add (.add (.mul (.v 0) (.mul (.v 4) (.v 6))) (.mul (.mul (.v 1) (.v 6)) (.v 3))) (.mul (.v 7) (.mul (.mul (.v 2) (.mul (.v 6) (.v 6))) (.mul (.v 5) (.mul (.v 6) (.v 6)))))) (by decide)
theorem aHc {R : Type} (K : CR R) (a b c d e f t : R) : K.mul (K.add (K.add (K.mul a f) (K.mul b e)) (K.mul c d)) (K.mul t t) = K.add (K.add (K.mul a (K.mul f (K.mul t t))) (K.mul (K.mul b t) (K.mul e t))) (K.mul (K.mul c (K.mul t t)) d) :=
 aE K (aR K [a,b,c,d,e,f,t]) (.mul (.add (.add (.mul (.v 0) (.v 5)) (.mul (.v 1) (.v 4))) (.mul (.v 2) (.v 3))) (.mul (.v 6) (.v 6))) (.add (.add (.mul (.v 0) (.mul (.v 5) (.mul (.v 6) (.v 6)))) (.mul (.mul (.v 1) (.v 6)) (.mul (.v 4) (.v 6)))) (.mul (.mul (.v 2) (.mul (.v 6) (.v 6))) (.v 3))) (by decide)
theorem nU (z y : Q6) : LA (F6.mul z y) = F6.mul (LA z) (LA y):=by
 rw [PG,PG,PG];refine Prod.ext ?_ (Prod.ext ?_ ?_)
 ·show aJ (F2.add (F2.mul z.1 y.1) (F2.mul dC (F2.add (F2.mul z.2.1 y.2.2) (F2.mul z.2.2 y.2.1)))) = _;rw [kI,gL,gL,kI,gL,gL,TB];exact aHe F2 _ _ _ _ _ _ _ _
 ·show F2.mul (aJ (F2.add (F2.add (F2.mul z.1 y.2.1) (F2.mul z.2.1 y.1)) (F2.mul dC (F2.mul z.2.2 y.2.2)))) BH = _;rw [kI,kI,gL,gL,gL,gL,TB];exact aHd F2 _ _ _ _ _ _ _ _
 ·show F2.mul (aJ (F2.add (F2.add (F2.mul z.1 y.2.2) (F2.mul z.2.1 y.2.1)) (F2.mul z.2.2 y.1))) (F2.mul BH BH) = _;rw [kI,kI,gL,gL,gL];exact aHc F2 _ _ _ _ _ _ _
def tau : Q6:=(GX,F2.zero,F2.zero)
theorem Ku (z : Q6) (k : Q2) : F6.mul z (k,F2.zero,F2.zero) = s6 z k:=by
 show (F2.add (F2.mul z.1 k) (F2.mul dC (F2.add (F2.mul z.2.1 F2.zero) (F2.mul z.2.2 F2.zero))),F2.add (F2.add (F2.mul z.1 F2.zero) (F2.mul z.2.1 k)) (F2.mul dC (F2.mul z.2.2 F2.zero)),F2.add (F2.add (F2.mul z.1 F2.zero) (F2.mul z.2.1 F2.zero)) (F2.mul z.2.2 k)) = _;simp only [F2.mul_zero,F2.add_zero,F2.zero_add];rfl
theorem aUy : Mh = F2.mul BH GX:=by decide
theorem aUx : fb5 = F2.mul Mg GX:=by decide
theorem aUA : GX = F2.mul Fw GX:=by decide
theorem qD (x : aN) : cN x = (LA x.1,F6.mul (LA x.2) tau):=by
 refine Prod.ext rfl ?_;rw [show tau = (GX,F2.zero,F2.zero) from rfl,Ku];refine Prod.ext ?_ (Prod.ext ?_ ?_)
 ·show F2.mul (aJ x.2.1) GX = F2.mul (F2.mul (aJ x.2.1) Fw) GX; rw [F2.mul_assoc,← aUA]
 ·show F2.mul (aJ x.2.2.1) Mh = F2.mul (F2.mul (aJ x.2.2.1) BH) GX; rw [F2.mul_assoc,← aUy]
 ·show F2.mul (aJ x.2.2.2) fb5 = F2.mul (F2.mul (aJ x.2.2.2) Mg) GX; rw [F2.mul_assoc,← aUx]
theorem aTq : LA vE = F6.mul vE (F6.mul tau tau):=by decide
theorem Jo {R : Type} (K : CR R) (a b c d v t : R) : K.add (K.mul a c) (K.mul (K.mul v (K.mul t t)) (K.mul b d)) = K.add (K.mul a c) (K.mul v (K.mul (K.mul b t) (K.mul d t))) ∧ K.mul (K.add (K.mul a d) (K.mul b c)) t = K.add (K.mul a (K.mul d t)) (K.mul (K.mul b t) c) :=
 ⟨aE K (aR K [a,b,c,d,v,t]) (.add (.mul (.v 0) (.v 2)) (.mul (.mul (.v 4) (.mul (.v 5) (.v 5))) (.mul (.v 1) (.v 3)))) (.add (.mul (.v 0) (.v 2)) (.mul (.v 4) (.mul (.mul (.v 1) (.v 5)) (.mul (.v 3) (.v 5))))) (by decide),
  aE K (aR K [a,b,c,d,t]) (.mul (.add (.mul (.v 0) (.v 3)) (.mul (.v 1) (.v 2))) (.v 4)) (.add (.mul (.v 0) (.mul (.v 3) (.v 4))) (.mul (.mul (.v 1) (.v 4)) (.v 2))) (by decide)⟩
theorem mZ (x y : aN) : cN (aD.mul x y) = aD.mul (cN x) (cN y):=by
 rw [qD,qD,qD];refine Prod.ext ?_ ?_
 ·show LA (F6.add (F6.mul x.1 y.1) (F6.mul vE (F6.mul x.2 y.2))) = _;rw [tE,nU,nU,nU,aTq];exact (Jo F6 _ _ _ _ _ _).1
 ·show F6.mul (LA (F6.add (F6.mul x.1 y.2) (F6.mul x.2 y.1))) tau = _;rw [tE,nU,nU];exact (Jo F6 _ _ _ _ vE _).2
theorem oT (x y : aN) : cM (aD.mul x y) = aD.mul (cM x) (cM y):=by rw [← XQ,← XQ,← XQ,mZ,mZ]
theorem IF (x y : aN) : cH (aD.mul x y) = aD.mul (cH x) (cH y):=by simp only [← wB,oT]
end Go.Proofs.YtglgakbkdjhojaaGreat.Ex
namespace Go.Proofs.YtglgakbkdjhojaaGreat
open Go.Proofs.Tryz
theorem aT : dV 2:=aO 2 1 (by decide) (by decide) (by kernel_rfl)
theorem fG : dV 3:=aO 3 1 (by decide) (by decide) (by kernel_rfl)
theorem PA : dV 13:=aO 13 3 (by decide) (by decide) (by kernel_rfl)
theorem Zt : dV 29:=aO 29 5 (by decide) (by decide) (by kernel_rfl)
theorem aMT : dV 67:=aO 67 8 (by decide) (by decide) (by kernel_rfl)
theorem Ja : dV 229:=aO 229 15 (by decide) (by decide) (by kernel_rfl)
theorem aGG : dV 311:=aO 311 17 (by decide) (by decide) (by kernel_rfl)
theorem OZ : dV 983:=aO 983 31 (by decide) (by decide) (by kernel_rfl)
theorem KW : dV 11003:=aO 11003 104 (by decide) (by decide) (by kernel_rfl)
theorem PB : dV 11:=aO 11 3 (by decide) (by decide) (by kernel_rfl)
theorem Zq : dV 3691:=aO 3691 60 (by decide) (by decide) (by kernel_rfl)
theorem Zp : dV 4999:=aO 4999 70 (by decide) (by decide) (by kernel_rfl)
theorem EU : Root 405928799 22:=by
 refine bA (l:=[2,11,3691,4999]) (by kernel_rfl) fun q hq => ?_
 simp only [List.mem_cons,List.not_mem_nil,or_false] at hq
 rcases hq with rfl | rfl | rfl | rfl
 ·exact aT
 ·exact PB
 ·exact Zq
 ·exact Zp
theorem uH : dV 405928799:=EU.prm
theorem kO : dV 5:=aO 5 2 (by decide) (by decide) (by kernel_rfl)
theorem FB : dV 7:=aO 7 2 (by decide) (by decide) (by kernel_rfl)
theorem yY : dV 19:=aO 19 4 (by decide) (by decide) (by kernel_rfl)
theorem aMY : dV 37:=aO 37 6 (by decide) (by decide) (by kernel_rfl)
theorem aGI : dV 233:=aO 233 15 (by decide) (by decide) (by kernel_rfl)
theorem WD : Root 327599 19:=by
 refine bA (l:=[2,19,37,233]) (by kernel_rfl) fun q hq => ?_
 simp only [List.mem_cons,List.not_mem_nil,or_false] at hq
 rcases hq with rfl | rfl | rfl | rfl
 ·exact aT
 ·exact yY
 ·exact aMY
 ·exact aGI
theorem Du : dV 327599:=WD.prm
theorem yV : Root 11465965001 3:=by
 refine bA (l:=[2,2,2,5,5,5,5,7,327599]) (by kernel_rfl) fun q hq => ?_
 simp only [List.mem_cons,List.not_mem_nil,or_false] at hq
 rcases hq with rfl | rfl | rfl | rfl | rfl | rfl | rfl | rfl | rfl
 ·exact aT
 ·exact aT
 ·exact aT
 ·exact kO
 ·exact kO
 ·exact kO
 ·exact kO
 ·exact FB
 ·exact Du
theorem BZ : dV 11465965001:=yV.prm
theorem aGH : dV 271:=aO 271 16 (by decide) (by decide) (by kernel_rfl)
theorem OS : Root 1853641 17:=by
 refine bA (l:=[2,2,2,3,3,5,19,271]) (by kernel_rfl) fun q hq => ?_
 simp only [List.mem_cons,List.not_mem_nil,or_false] at hq
 rcases hq with rfl | rfl | rfl | rfl | rfl | rfl | rfl | rfl
 ·exact aT
 ·exact aT
 ·exact aT
 ·exact fG
 ·exact fG
 ·exact kO
 ·exact yY
 ·exact aGH
theorem WT : dV 1853641:=OS.prm
theorem Zv : dV 17:=aO 17 4 (by decide) (by decide) (by kernel_rfl)
theorem aGN : dV 109:=aO 109 10 (by decide) (by decide) (by kernel_rfl)
theorem Zx : dV 1231:=aO 1231 35 (by decide) (by decide) (by kernel_rfl)
theorem OR : Root 4562087 5:=by
 refine bA (l:=[2,17,109,1231]) (by kernel_rfl) fun q hq => ?_
 simp only [List.mem_cons,List.not_mem_nil,or_false] at hq
 rcases hq with rfl | rfl | rfl | rfl
 ·exact aT
 ·exact Zv
 ·exact aGN
 ·exact Zx
theorem WS : dV 4562087:=OR.prm
theorem aMS : dV 73:=aO 73 8 (by decide) (by decide) (by kernel_rfl)
theorem aMR : dV 89:=aO 89 9 (by decide) (by decide) (by kernel_rfl)
theorem Sm : dV 13327:=aO 13327 115 (by decide) (by decide) (by kernel_rfl)
theorem EV : Root 173171039 13:=by
 refine bA (l:=[2,73,89,13327]) (by kernel_rfl) fun q hq => ?_
 simp only [List.mem_cons,List.not_mem_nil,or_false] at hq
 rcases hq with rfl | rfl | rfl | rfl
 ·exact aT
 ·exact aMS
 ·exact aMR
 ·exact Sm
theorem KA : dV 173171039:=EV.prm
theorem aMX : dV 41:=aO 41 6 (by decide) (by decide) (by kernel_rfl)
theorem aGz : dV 911:=aO 911 30 (by decide) (by decide) (by kernel_rfl)
theorem Zr : dV 3557:=aO 3557 59 (by decide) (by decide) (by kernel_rfl)
theorem BV : Root 1263766531 10:=by
 refine bA (l:=[2,3,5,13,911,3557]) (by kernel_rfl) fun q hq => ?_
 simp only [List.mem_cons,List.not_mem_nil,or_false] at hq
 rcases hq with rfl | rfl | rfl | rfl | rfl | rfl
 ·exact aT
 ·exact fG
 ·exact kO
 ·exact PA
 ·exact aGz
 ·exact Zr
theorem FE : dV 1263766531:=BV.prm
theorem yS : Root 35385462869 2:=by
 refine bA (l:=[2,2,7,1263766531]) (by kernel_rfl) fun q hq => ?_
 simp only [List.mem_cons,List.not_mem_nil,or_false] at hq
 rcases hq with rfl | rfl | rfl | rfl
 ·exact aT
 ·exact aT
 ·exact FB
 ·exact FE
theorem BW : dV 35385462869:=yS.prm
theorem rH : Root 2480874801745591 6:=by
 refine bA (l:=[2,3,3,5,19,41,35385462869]) (by kernel_rfl) fun q hq => ?_
 simp only [List.mem_cons,List.not_mem_nil,or_false] at hq
 rcases hq with rfl | rfl | rfl | rfl | rfl | rfl | rfl
 ·exact aT
 ·exact fG
 ·exact fG
 ·exact kO
 ·exact yY
 ·exact aMX
 ·exact BW
theorem rY : dV 2480874801745591:=rH.prm
theorem eO : Root 13427688667394608761327070753331941386769 17:=by
 refine bA (l:=[2,2,2,2,3,7,11,1853641,4562087,173171039,2480874801745591]) (by kernel_rfl) fun q hq => ?_
 simp only [List.mem_cons,List.not_mem_nil,or_false] at hq
 rcases hq with rfl | rfl | rfl | rfl | rfl | rfl | rfl | rfl | rfl | rfl | rfl
 ·exact aT
 ·exact aT
 ·exact aT
 ·exact aT
 ·exact fG
 ·exact FB
 ·exact PB
 ·exact WT
 ·exact WS
 ·exact KA
 ·exact rY
theorem fD : dV 13427688667394608761327070753331941386769:=eO.prm
theorem Yu : Root 21888242871839275222246405745257275088696311157297823662689037894645226208583 3:=by
 refine bA (l:=[2,3,3,13,29,67,229,311,983,11003,405928799,11465965001,13427688667394608761327070753331941386769]) (by kernel_rfl) fun q hq => ?_
 simp only [List.mem_cons,List.not_mem_nil,or_false] at hq
 rcases hq with rfl | rfl | rfl | rfl | rfl | rfl | rfl | rfl | rfl | rfl | rfl | rfl | rfl
 ·exact aT
 ·exact fG
 ·exact fG
 ·exact PA
 ·exact Zt
 ·exact aMT
 ·exact Ja
 ·exact aGG
 ·exact OZ
 ·exact KW
 ·exact uH
 ·exact BZ
 ·exact fD
theorem aGE : dV 449:=aO 449 21 (by decide) (by decide) (by kernel_rfl)
theorem WF : Root 237073 15:=by
 refine bA (l:=[2,2,2,2,3,11,449]) (by kernel_rfl) fun q hq => ?_
 simp only [List.mem_cons,List.not_mem_nil,or_false] at hq
 rcases hq with rfl | rfl | rfl | rfl | rfl | rfl | rfl
 ·exact aT
 ·exact aT
 ·exact aT
 ·exact aT
 ·exact fG
 ·exact PB
 ·exact aGE
theorem Dw : dV 237073:=WF.prm
theorem Jb : dV 107:=aO 107 10 (by decide) (by decide) (by kernel_rfl)
theorem aGD : dV 661:=aO 661 25 (by decide) (by decide) (by kernel_rfl)
theorem Sj : dV 93001:=aO 93001 304 (by decide) (by decide) (by kernel_rfl)
theorem yU : Root 12048837557 2:=by
 refine bA (l:=[2,2,7,7,661,93001]) (by kernel_rfl) fun q hq => ?_
 simp only [List.mem_cons,List.not_mem_nil,or_false] at hq
 rcases hq with rfl | rfl | rfl | rfl | rfl | rfl
 ·exact aT
 ·exact aT
 ·exact FB
 ·exact FB
 ·exact aGD
 ·exact Sj
theorem BY : dV 12048837557:=yU.prm
theorem uU : Root 5156902474397 2:=by
 refine bA (l:=[2,2,107,12048837557]) (by kernel_rfl) fun q hq => ?_
 simp only [List.mem_cons,List.not_mem_nil,or_false] at hq
 rcases hq with rfl | rfl | rfl | rfl
 ·exact aT
 ·exact aT
 ·exact Jb
 ·exact BY
theorem wZ : dV 5156902474397:=uU.prm
theorem rI : Root 1670836401704629 2:=by
 refine bA (l:=[2,2,3,3,3,3,5156902474397]) (by kernel_rfl) fun q hq => ?_
 simp only [List.mem_cons,List.not_mem_nil,or_false] at hq
 rcases hq with rfl | rfl | rfl | rfl | rfl | rfl | rfl
 ·exact aT
 ·exact aT
 ·exact fG
 ·exact fG
 ·exact fG
 ·exact fG
 ·exact wZ
theorem rZ : dV 1670836401704629:=rI.prm
theorem aGB : dV 823:=aO 823 28 (by decide) (by decide) (by kernel_rfl)
theorem Sl : dV 41927:=aO 41927 204 (by decide) (by decide) (by kernel_rfl)
theorem OU : Root 1593227 2:=by
 refine bA (l:=[2,19,41927]) (by kernel_rfl) fun q hq => ?_
 simp only [List.mem_cons,List.not_mem_nil,or_false] at hq
 rcases hq with rfl | rfl | rfl
 ·exact aT
 ·exact yY
 ·exact Sl
theorem WW : dV 1593227:=OU.prm
theorem Zo : dV 83:=aO 83 9 (by decide) (by decide) (by kernel_rfl)
theorem aGF : dV 379:=aO 379 19 (by decide) (by decide) (by kernel_rfl)
theorem WU : dV 1637:=aO 1637 40 (by decide) (by decide) (by kernel_rfl)
theorem aGA : dV 853:=aO 853 29 (by decide) (by decide) (by kernel_rfl)
theorem ET : Root 639533339 2:=by
 refine bA (l:=[2,229,853,1637]) (by kernel_rfl) fun q hq => ?_
 simp only [List.mem_cons,List.not_mem_nil,or_false] at hq
 rcases hq with rfl | rfl | rfl | rfl
 ·exact aT
 ·exact Ja
 ·exact aGA
 ·exact WU
theorem JZ : dV 639533339:=ET.prm
theorem pY : Root 65865678001877903 5:=by
 refine bA (l:=[2,83,379,1637,639533339]) (by kernel_rfl) fun q hq => ?_
 simp only [List.mem_cons,List.not_mem_nil,or_false] at hq
 rcases hq with rfl | rfl | rfl | rfl | rfl
 ·exact aT
 ·exact Zo
 ·exact aGF
 ·exact WU
 ·exact JZ
theorem rK : dV 65865678001877903:=pY.prm
theorem iD : Root 13818364434197438864469338081 3:=by
 refine bA (l:=[2,2,2,2,2,5,823,1593227,65865678001877903]) (by kernel_rfl) fun q hq => ?_
 simp only [List.mem_cons,List.not_mem_nil,or_false] at hq
 rcases hq with rfl | rfl | rfl | rfl | rfl | rfl | rfl | rfl | rfl
 ·exact aT
 ·exact aT
 ·exact aT
 ·exact aT
 ·exact aT
 ·exact kO
 ·exact aGB
 ·exact WW
 ·exact rK
theorem iT : dV 13818364434197438864469338081:=iD.prm
theorem Yt : Root 21888242871839275222246405745257275088548364400416034343698204186575808495617 5:=by
 refine bA (l:=[2,2,2,2,2,2,2,2,2,2,2,2,2,2,2,2,2,2,2,2,2,2,2,2,2,2,2,2,3,3,13,29,983,11003,237073,405928799,1670836401704629,13818364434197438864469338081]) (by kernel_rfl) fun q hq => ?_
 simp only [List.mem_cons,List.not_mem_nil,or_false] at hq
 rcases hq with rfl | rfl | rfl | rfl | rfl | rfl | rfl | rfl | rfl | rfl | rfl | rfl | rfl | rfl | rfl | rfl | rfl | rfl | rfl | rfl | rfl | rfl | rfl | rfl | rfl | rfl | rfl | rfl | rfl | rfl | rfl | rfl | rfl | rfl | rfl | rfl | rfl | rfl
 ·exact aT
 ·exact aT
 ·exact aT
 ·exact aT
 ·exact aT
 ·exact aT
 ·exact aT
 ·exact aT
 ·exact aT
 ·exact aT
 ·exact aT
 ·exact aT
 ·exact aT
 ·exact aT
 ·exact aT
 ·exact aT
 ·exact aT
 ·exact aT
 ·exact aT
 ·exact aT
 ·exact aT
 ·exact aT
 ·exact aT
 ·exact aT
 ·exact aT
 ·exact aT
 ·exact aT
 ·exact aT
 ·exact fG
 ·exact fG
 ·exact PA
 ·exact Zt
 ·exact OZ
 ·exact KW
 ·exact Dw
 ·exact uH
 ·exact rZ
 ·exact iT
theorem aJL : dV 21888242871839275222246405745257275088548364400416034343698204186575808495617:=Yt.prm
section
variable {M g : Nat}
theorem aAf (a n : Nat) : (a % M) ^ n % M = a ^ n % M:=(Nat.pow_mod a n M).symm
theorem zF (a b : Nat) : a % M * b % M = a * b % M:=by rw [Nat.mul_mod,Nat.mod_mod,← Nat.mul_mod]
theorem LS (a b : Nat) : a * (b % M) % M = a * b % M:=by rw [Nat.mul_mod,Nat.mod_mod,← Nat.mul_mod]
theorem aCJ (hr : Root M g) {a : Nat} (h0 : 0 < a) (h : a < M) : a ^ (M - 1) % M = 1:=by
 obtain ⟨h1,hg,_,hs⟩:=hr;obtain ⟨k,hk,rfl⟩:=hs a h0 h;rw [aAf,← Nat.pow_mul,Nat.mul_comm,sA h1 hg]
theorem Lm (hr : Root M g) {a : Nat} (h2 : 2 ≤ M) (h0 : 0 < a) (h : a < M) : a * (a ^ (M - 2) % M) % M = 1:=by
 rw [LS,← Nat.pow_succ',show (M - 2).succ = M - 1 by omega,aCJ hr h0 h]
theorem aDF (hr : Root M g) {a b c : Nat} (h2 : 2 ≤ M) (h0 : 0 < a) (h : a < M) (e : a * b % M = a * c % M) : b % M = c % M:=by
 have hi:=Lm hr h2 h0 h;have key : ∀ x,a ^ (M - 2) % M * (a * x % M) % M = x % M:=fun x => by
  rw [LS,← Nat.mul_assoc,Nat.mul_mod,Nat.mul_comm _ a,hi,Nat.one_mul,Nat.mod_mod]
 rw [← key b,e,key c]
theorem Uv (hr : Root M g) {a b : Nat} (h2 : 2 ≤ M) (h0 : 0 < a) (h : a < M) (e : a * b % M = 0) : b % M = 0:=by
 have:=aDF hr (c:=0) h2 h0 h (by rw [e,Nat.mul_zero,Nat.zero_mod]);rw [this,Nat.zero_mod]
theorem mul_ne (hr : Root M g) {a b : Nat} (h2 : 2 ≤ M) (ha0 : 0 < a) (ha : a < M) (hb0 : 0 < b) (hb : b < M) : 0 < a * b % M:=by
 rcases Nat.eq_zero_or_pos (a * b % M) with h | h
 ·have:=Uv hr h2 ha0 ha h;rw [Nat.mod_eq_of_lt hb] at this; omega
 ·exact h
end
theorem Fv : Root FP.M 3:=by
 rw [show FP.M = 21888242871839275222246405745257275088696311157297823662689037894645226208583 from by decide];exact Yu
end Go.Proofs.YtglgakbkdjhojaaGreat
namespace Go.Proofs.YtglgakbkdjhojaaGreat.Ex
open Go.Proofs.Tryz
def Fld {R : Type} (K : CR R) : Prop:=K.one ≠ K.zero ∧ ∀ x,x ≠ K.zero → ∃ y,K.mul x y = K.one
theorem Fld.zd {R : Type} {K : CR R} (h : Fld K) {a b : R} (e : K.mul a b = K.zero) (ha : a ≠ K.zero) : b = K.zero:=by
 obtain ⟨y,hy⟩:=h.2 a ha;have:=congrArg (K.mul y) e
 rwa [← K.mul_assoc,K.mul_comm y,hy,K.one_mul,K.mul_zero] at this
theorem wJ {R : Type} {K : CR R} (h : Fld K) {a : R} (e : K.mul a a = K.zero) : a = K.zero:=by
 by_cases ha : a = K.zero
 ·exact ha
 ·exact h.zd e ha
theorem Nx : F1.one ≠ F1.zero:=fun h => by have:=congrArg Fin.val h; exact absurd this (by decide)
theorem aUw {x : Fq} (h : x ≠ F1.zero) : 0 < x.1:=by
 rcases Nat.eq_zero_or_pos x.1 with h0 | h0
 ·exact absurd (Fin.ext h0 : x = F1.zero) h
 ·exact h0
theorem xS {x : Fq} (h : x ≠ F1.zero) : F1.mul x (cO x) = F1.one:=by
 apply Fin.ext;show x.1 * (cO x).1 % FP.M = 1;rw [ZF,Nat.one_mul];exact Lm Fv (by decide) (aUw h) x.2
theorem aKC : Fld F1:=⟨Nx,fun x h => ⟨_,xS h⟩⟩
theorem Tq {n : Nat} (h0 : 0 < n) (h : n < FP.M) : n ^ (FP.M - 1) % FP.M = 1:=aCJ Fv h0 h
def sD : Nat:=(FP.M - 1) / 3
def FI : Nat:=(FP.M - 1) / 2
theorem TT : 3 * sD = FP.M - 1:=by decide
theorem QM : 2 * FI = FP.M - 1:=by decide
theorem aDl : 82 ^ sD % FP.M ≠ 1:=by
 rw [← AP FP.M 256 82 sD (by decide)];exact of_decide_eq_true (by kernel_rfl)
theorem aCh : 82 ^ FI % FP.M ≠ 1:=by
 rw [← AP FP.M 256 82 FI (by decide)];exact of_decide_eq_true (by kernel_rfl)
theorem aHt : (FP.M - 1) ^ FI % FP.M ≠ 1:=by
 rw [← AP FP.M 256 (FP.M - 1) FI (by decide)];exact of_decide_eq_true (by kernel_rfl)
theorem aHs (n : Fq) : F1.mul n (F1.mul n n) ≠ fm 82:=fun h => by
 have hv : n.1 ^ 3 % FP.M = 82:=by
  have:=congrArg Fin.val h;have e : n.1 * (n.1 * n.1 % FP.M) % FP.M = 82 % FP.M:=this;rw [Nat.mul_mod_mod,← Nat.mul_assoc,show n.1 * n.1 * n.1 = n.1 ^ 3 by rw [Nat.pow_succ,Nat.pow_two]] at e;rw [e]; decide
 have h0 : 0 < n.1:=by
  rcases Nat.eq_zero_or_pos n.1 with h0 | h0
  ·rw [h0] at hv; exact absurd hv (by decide)
  ·exact h0
 have:=Tq h0 n.2;rw [← TT,Nat.pow_mul,Nat.pow_mod,hv] at this;exact aDl this
theorem aTG (n : Fq) : F1.mul n n ≠ fm 82:=fun h => by
 have hv : n.1 ^ 2 % FP.M = 82:=by
  have:=congrArg Fin.val h;have e : n.1 * n.1 % FP.M = 82 % FP.M:=this;rw [Nat.pow_two,e]; decide
 have h0 : 0 < n.1:=by
  rcases Nat.eq_zero_or_pos n.1 with h0 | h0
  ·rw [h0] at hv; exact absurd hv (by decide)
  ·exact h0
 have:=Tq h0 n.2;rw [← QM,Nat.pow_mul,Nat.pow_mod,hv] at this;exact aCh this
theorem aNY (n : Fq) : F1.mul n n ≠ F1.neg F1.one:=fun h => by
 have hv : n.1 ^ 2 % FP.M = FP.M - 1:=by
  have:=congrArg Fin.val h;have e : n.1 * n.1 % FP.M = (0 + FP.M - 1) % FP.M:=this;rw [Nat.pow_two,e]; decide
 have h0 : 0 < n.1:=by
  rcases Nat.eq_zero_or_pos n.1 with h0 | h0
  ·rw [h0] at hv; exact absurd hv (by decide)
  ·exact h0
 have:=Tq h0 n.2;rw [← QM,Nat.pow_mul,Nat.pow_mod,hv] at this;exact aHt this
theorem aDd {R : Type} {K : CR R} (h : Fld K) {a b q : R} (hb : b ≠ K.zero) (e : K.mul a a = K.mul q (K.mul b b)) : ∃ t,K.mul t t = q:=by
 obtain ⟨y,hy⟩:=h.2 b hb;refine ⟨K.mul a y,?_⟩;have h1 : K.mul (K.mul a y) (K.mul a y) = K.mul (K.mul a a) (K.mul y y):=aE K (aR K [a,y]) (.mul (.mul (.v 0) (.v 1)) (.mul (.v 0) (.v 1))) (.mul (.mul (.v 0) (.v 0)) (.mul (.v 1) (.v 1))) (by decide);have h2 : K.mul (K.mul q (K.mul b b)) (K.mul y y) = K.mul q (K.mul (K.mul b y) (K.mul b y)):=aE K (aR K [q,b,y]) (.mul (.mul (.v 0) (.mul (.v 1) (.v 1))) (.mul (.v 2) (.v 2))) (.mul (.v 0) (.mul (.mul (.v 1) (.v 2)) (.mul (.v 1) (.v 2)))) (by decide);rw [h1,e,h2,hy,K.mul_one,K.mul_one]
theorem aDe {R : Type} {K : CR R} (h : Fld K) {a b q : R} (hb : b ≠ K.zero) (e : K.mul a (K.mul a a) = K.mul q (K.mul b (K.mul b b))) : ∃ t,K.mul t (K.mul t t) = q:=by
 obtain ⟨y,hy⟩:=h.2 b hb;refine ⟨K.mul a y,?_⟩;have h1 : K.mul (K.mul a y) (K.mul (K.mul a y) (K.mul a y)) = K.mul (K.mul a (K.mul a a)) (K.mul y (K.mul y y)):=aE K (aR K [a,y]) (.mul (.mul (.v 0) (.v 1)) (.mul (.mul (.v 0) (.v 1)) (.mul (.v 0) (.v 1)))) (.mul (.mul (.v 0) (.mul (.v 0) (.v 0))) (.mul (.v 1) (.mul (.v 1) (.v 1)))) (by decide);have h2 : K.mul (K.mul q (K.mul b (K.mul b b))) (K.mul y (K.mul y y)) = K.mul q (K.mul (K.mul b y) (K.mul (K.mul b y) (K.mul b y))):=aE K (aR K [q,b,y]) (.mul (.mul (.v 0) (.mul (.v 1) (.mul (.v 1) (.v 1)))) (.mul (.v 2) (.mul (.v 2) (.v 2)))) (.mul (.v 0) (.mul (.mul (.v 1) (.v 2)) (.mul (.mul (.v 1) (.v 2)) (.mul (.v 1) (.v 2))))) (by decide);rw [h1,e,h2,hy,K.mul_one,K.mul_one,K.mul_one]
theorem pH {x : Q2} (h : rL x = F1.zero) : x = F2.zero:=by
 have h1 : F1.mul x.1 x.1 = F1.mul (F1.neg F1.one) (F1.mul x.2 x.2):=by
  rw [F1.neg_mul,F1.one_mul];apply F1.add_cancel (a:=F1.mul x.2 x.2);rw [F1.add_neg,F1.add_comm];exact h
 by_cases hb : x.2 = F1.zero
 ·rw [hb,F1.mul_zero,F1.mul_zero] at h1;exact Prod.ext (wJ aKC h1) hb
 ·obtain ⟨t,ht⟩:=aDd aKC hb h1;exact absurd ht (aNY t)
theorem ST {x : Q2} (h : rL x ≠ F1.zero) : F2.mul x (dT x) = F2.one:=by
 have hi:=xS h;refine Prod.ext ?_ ?_
 ·show F1.add (F1.mul x.1 (F1.mul x.1 (cO (rL x)))) (F1.mul (F1.neg F1.one) (F1.mul x.2 (F1.mul (F1.neg x.2) (cO (rL x))))) = F1.one;refine Eq.trans ?_ hi;exact aE F1 (aR F1 [x.1,x.2,cO (rL x)]) (.add (.mul (.v 0) (.mul (.v 0) (.v 2))) (.mul (.neg .one) (.mul (.v 1) (.mul (.neg (.v 1)) (.v 2))))) (.mul (.add (.mul (.v 0) (.v 0)) (.mul (.v 1) (.v 1))) (.v 2)) (by decide)
 ·show F1.add (F1.mul x.1 (F1.mul (F1.neg x.2) (cO (rL x)))) (F1.mul x.2 (F1.mul x.1 (cO (rL x)))) = F1.zero;exact aE F1 (aR F1 [x.1,x.2,cO (rL x)]) (.add (.mul (.v 0) (.mul (.neg (.v 1)) (.v 2))) (.mul (.v 1) (.mul (.v 0) (.v 2)))) .zero (by decide)
theorem zT : Fld F2:=⟨fun h => Nx (congrArg Prod.fst h),fun x h => ⟨_,ST fun e => h (pH e)⟩⟩
theorem xI (x y : Q2) : rL (F2.mul x y) = F1.mul (rL x) (rL y) :=
 aE F1 (aR F1 [x.1,x.2,y.1,y.2]) (.add (.mul (.add (.mul (.v 0) (.v 2)) (.mul (.neg .one) (.mul (.v 1) (.v 3)))) (.add (.mul (.v 0) (.v 2)) (.mul (.neg .one) (.mul (.v 1) (.v 3))))) (.mul (.add (.mul (.v 0) (.v 3)) (.mul (.v 1) (.v 2))) (.add (.mul (.v 0) (.v 3)) (.mul (.v 1) (.v 2)))))
  (.mul (.add (.mul (.v 0) (.v 0)) (.mul (.v 1) (.v 1))) (.add (.mul (.v 2) (.v 2)) (.mul (.v 3) (.v 3)))) (by decide)
theorem aKi : rL dC = fm 82:=by decide
theorem Hw (t : Q2) : F2.mul t (F2.mul t t) ≠ dC:=fun h => by
 have:=congrArg rL h;rw [xI,xI,aKi] at this;exact aHs _ this
theorem aRT (t : Q2) : F2.mul t t ≠ dC:=fun h => by
 have:=congrArg rL h;rw [xI,aKi] at this;exact aTG _ this
theorem aJj (x : Q6) (k : Q2) : F6.mul x (s6 (nO x) k) = (F2.mul (n6 x) k,F2.zero,F2.zero):=by
 refine Prod.ext ?_ (Prod.ext ?_ ?_)
 ·exact aE F2 (aR F2 [x.1,x.2.1,x.2.2,dC,k])
   (.add (.mul (.v 0) (.mul (.add (.mul (.v 0) (.v 0)) (.neg (.mul (.mul (.v 1) (.v 2)) (.v 3)))) (.v 4))) (.mul (.v 3) (.add (.mul (.v 1) (.mul (.add (.mul (.v 1) (.v 1)) (.neg (.mul (.v 0) (.v 2)))) (.v 4))) (.mul (.v 2) (.mul (.add (.mul (.mul (.v 2) (.v 2)) (.v 3)) (.neg (.mul (.v 0) (.v 1)))) (.v 4))))))
   (.mul (.add (.mul (.v 0) (.add (.mul (.v 0) (.v 0)) (.neg (.mul (.mul (.v 1) (.v 2)) (.v 3))))) (.mul (.v 3) (.add (.mul (.v 1) (.add (.mul (.v 1) (.v 1)) (.neg (.mul (.v 0) (.v 2))))) (.mul (.v 2) (.add (.mul (.mul (.v 2) (.v 2)) (.v 3)) (.neg (.mul (.v 0) (.v 1)))))))) (.v 4)) (by decide)
 ·exact aE F2 (aR F2 [x.1,x.2.1,x.2.2,dC,k])
   (.add (.add (.mul (.v 0) (.mul (.add (.mul (.mul (.v 2) (.v 2)) (.v 3)) (.neg (.mul (.v 0) (.v 1)))) (.v 4))) (.mul (.v 1) (.mul (.add (.mul (.v 0) (.v 0)) (.neg (.mul (.mul (.v 1) (.v 2)) (.v 3)))) (.v 4)))) (.mul (.v 3) (.mul (.v 2) (.mul (.add (.mul (.v 1) (.v 1)) (.neg (.mul (.v 0) (.v 2)))) (.v 4))))) .zero (by decide)
 ·exact aE F2 (aR F2 [x.1,x.2.1,x.2.2,dC,k])
   (.add (.add (.mul (.v 0) (.mul (.add (.mul (.v 1) (.v 1)) (.neg (.mul (.v 0) (.v 2)))) (.v 4))) (.mul (.v 1) (.mul (.add (.mul (.mul (.v 2) (.v 2)) (.v 3)) (.neg (.mul (.v 0) (.v 1)))) (.v 4)))) (.mul (.v 2) (.mul (.add (.mul (.v 0) (.v 0)) (.neg (.mul (.mul (.v 1) (.v 2)) (.v 3)))) (.v 4)))) .zero (by decide)
theorem GF {R : Type} {K : CR R} {a b : R} (h : K.add a (K.neg b) = K.zero) : a = b:=by
 have h2 : K.add (K.add a (K.neg b)) b = K.add K.zero b:=congrArg (fun x => K.add x b) h
 rwa [K.add_assoc,K.neg_add,K.add_zero,K.zero_add] at h2
theorem Kt {x : Q6} (h : n6 x = F2.zero) : x = F6.zero:=by
 have hA : F2.mul (nO x).2.1 (F2.mul (nO x).2.1 (nO x).2.1) = F2.mul dC (F2.mul (nO x).2.2 (F2.mul (nO x).2.2 (nO x).2.2)):=by
  apply GF;have e : F2.add (F2.mul (nO x).2.1 (F2.mul (nO x).2.1 (nO x).2.1)) (F2.neg (F2.mul dC (F2.mul (nO x).2.2 (F2.mul (nO x).2.2 (nO x).2.2)))) = F2.mul (n6 x) (F2.add (F2.mul dC (F2.mul x.2.2 (F2.mul x.2.2 x.2.2))) (F2.neg (F2.mul x.2.1 (F2.mul x.2.1 x.2.1)))) :=
   aE F2 (aR F2 [x.1,x.2.1,x.2.2,dC])
    (.add (.mul (.add (.mul (.mul (.v 2) (.v 2)) (.v 3)) (.neg (.mul (.v 0) (.v 1)))) (.mul (.add (.mul (.mul (.v 2) (.v 2)) (.v 3)) (.neg (.mul (.v 0) (.v 1)))) (.add (.mul (.mul (.v 2) (.v 2)) (.v 3)) (.neg (.mul (.v 0) (.v 1)))))) (.neg (.mul (.v 3) (.mul (.add (.mul (.v 1) (.v 1)) (.neg (.mul (.v 0) (.v 2)))) (.mul (.add (.mul (.v 1) (.v 1)) (.neg (.mul (.v 0) (.v 2)))) (.add (.mul (.v 1) (.v 1)) (.neg (.mul (.v 0) (.v 2)))))))))
    (.mul (.add (.mul (.v 0) (.add (.mul (.v 0) (.v 0)) (.neg (.mul (.mul (.v 1) (.v 2)) (.v 3))))) (.mul (.v 3) (.add (.mul (.v 1) (.add (.mul (.v 1) (.v 1)) (.neg (.mul (.v 0) (.v 2))))) (.mul (.v 2) (.add (.mul (.mul (.v 2) (.v 2)) (.v 3)) (.neg (.mul (.v 0) (.v 1)))))))) (.add (.mul (.v 3) (.mul (.v 2) (.mul (.v 2) (.v 2)))) (.neg (.mul (.v 1) (.mul (.v 1) (.v 1)))))) (by decide)
  rw [e,h,F2.zero_mul]
 have h2 : (nO x).2.2 = F2.zero:=by
  by_cases hb : (nO x).2.2 = F2.zero
  ·exact hb
  ·obtain ⟨t,ht⟩:=aDe zT hb hA;exact absurd ht (Hw t)
 have h1 : (nO x).2.1 = F2.zero:=by
  rw [h2,F2.mul_zero,F2.mul_zero,F2.mul_zero] at hA
  by_cases ha : (nO x).2.1 = F2.zero
  ·exact ha
  ·exact wJ zT (zT.zd hA ha)
 have g2 : F2.mul x.2.1 x.2.1 = F2.mul x.1 x.2.2:=GF (K:=F2) h2;have g1 : F2.mul (F2.mul x.2.2 x.2.2) dC = F2.mul x.1 x.2.1:=GF (K:=F2) h1;have h3 : x.2.2 = F2.zero:=by
  by_cases hc : x.2.2 = F2.zero
  ·exact hc
  ·
   have e : F2.mul x.2.1 (F2.mul x.2.1 x.2.1) = F2.mul dC (F2.mul x.2.2 (F2.mul x.2.2 x.2.2)):=by
    rw [g2];have e1 : F2.mul x.2.1 (F2.mul x.1 x.2.2) = F2.mul (F2.mul x.1 x.2.1) x.2.2:=aE F2 (aR F2 [x.1,x.2.1,x.2.2]) (.mul (.v 1) (.mul (.v 0) (.v 2))) (.mul (.mul (.v 0) (.v 1)) (.v 2)) (by decide);rw [e1,← g1];exact aE F2 (aR F2 [x.2.2,dC]) (.mul (.mul (.mul (.v 0) (.v 0)) (.v 1)) (.v 0)) (.mul (.v 1) (.mul (.v 0) (.mul (.v 0) (.v 0)))) (by decide)
   obtain ⟨t,ht⟩:=aDe zT hc e;exact absurd ht (Hw t)
 have h4 : x.2.1 = F2.zero:=by
  rw [h3,F2.mul_zero] at g2;exact wJ zT g2
 have h5 : x.1 = F2.zero:=by
  have e : F2.mul x.1 (F2.mul x.1 x.1) = F2.zero:=by
   rw [← h];show F2.mul x.1 (F2.mul x.1 x.1) = F2.add (F2.mul x.1 (F2.sub (F2.mul x.1 x.1) (F2.mul (F2.mul x.2.1 x.2.2) dC))) (F2.mul dC (F2.add (F2.mul x.2.1 (nO x).2.2) (F2.mul x.2.2 (nO x).2.1)));rw [h1,h2,h3,F2.mul_zero x.2.1,F2.mul_zero F2.zero,F2.add_zero,F2.mul_zero dC,F2.add_zero,F2.zero_mul];show F2.mul x.1 (F2.mul x.1 x.1) = F2.mul x.1 (F2.add (F2.mul x.1 x.1) (F2.neg F2.zero));rw [bK,F2.add_zero]
  by_cases ha : x.1 = F2.zero
  ·exact ha
  ·exact wJ zT (zT.zd e ha)
 exact Prod.ext h5 (Prod.ext h4 h3)
theorem aEy {x : Q6} (h : rL (n6 x) ≠ F1.zero) : F6.mul x (iv6 x) = F6.one:=by
 show F6.mul x (s6 (nO x) (dT (n6 x))) = _;rw [aJj,ST h];rfl
theorem aPm : Fld F6:=⟨fun h => zT.1 (congrArg Prod.fst h),fun x h => ⟨_,aEy fun e => h (Kt (pH e))⟩⟩
theorem Va {z : Q2} (h : F2.mul dC (F2.mul z z) = F2.one) : False:=by
 have hz : z ≠ F2.zero:=fun e => by rw [e,F2.mul_zero,F2.mul_zero] at h; exact zT.1 h.symm
 obtain ⟨y,hy⟩:=zT.2 z hz;refine aRT y ?_;have e : F2.mul (F2.mul y y) (F2.mul dC (F2.mul z z)) = F2.mul dC (F2.mul (F2.mul z y) (F2.mul z y)):=aE F2 (aR F2 [y,z,dC]) (.mul (.mul (.v 0) (.v 0)) (.mul (.v 2) (.mul (.v 1) (.v 1)))) (.mul (.v 2) (.mul (.mul (.v 1) (.v 0)) (.mul (.v 1) (.v 0)))) (by decide)
 rwa [h,hy,F2.mul_one,F2.mul_one,F2.mul_one] at e
theorem aWf (s : Q6) : F6.mul s s ≠ vE:=fun h => by
 have c0 : F2.add (F2.mul s.1 s.1) (F2.mul dC (F2.add (F2.mul s.2.1 s.2.2) (F2.mul s.2.2 s.2.1))) = F2.zero:=congrArg Prod.fst h;have c1 : F2.add (F2.add (F2.mul s.1 s.2.1) (F2.mul s.2.1 s.1)) (F2.mul dC (F2.mul s.2.2 s.2.2)) = F2.one:=congrArg (fun x => x.2.1) h;have c2 : F2.add (F2.add (F2.mul s.1 s.2.2) (F2.mul s.2.1 s.2.1)) (F2.mul s.2.2 s.1) = F2.zero:=congrArg (fun x => x.2.2) h;have e : F2.mul s.1 (F2.add (F2.mul s.1 s.2.1) (F2.neg (F2.mul (F2.add (F2.add F2.one F2.one) (F2.add F2.one F2.one)) (F2.mul dC (F2.mul s.2.2 s.2.2))))) = F2.zero:=by
  have e1 : F2.mul s.1 (F2.add (F2.mul s.1 s.2.1) (F2.neg (F2.mul (F2.add (F2.add F2.one F2.one) (F2.add F2.one F2.one)) (F2.mul dC (F2.mul s.2.2 s.2.2))))) = F2.add (F2.mul s.2.1 (F2.add (F2.mul s.1 s.1) (F2.mul dC (F2.add (F2.mul s.2.1 s.2.2) (F2.mul s.2.2 s.2.1))))) (F2.neg (F2.mul (F2.mul (F2.add F2.one F2.one) (F2.mul dC s.2.2)) (F2.add (F2.add (F2.mul s.1 s.2.2) (F2.mul s.2.1 s.2.1)) (F2.mul s.2.2 s.1)))) :=
   aE F2 (aR F2 [s.1,s.2.1,s.2.2,dC])
    (.mul (.v 0) (.add (.mul (.v 0) (.v 1)) (.neg (.mul (.add (.add .one .one) (.add .one .one)) (.mul (.v 3) (.mul (.v 2) (.v 2)))))))
    (.add (.mul (.v 1) (.add (.mul (.v 0) (.v 0)) (.mul (.v 3) (.add (.mul (.v 1) (.v 2)) (.mul (.v 2) (.v 1)))))) (.neg (.mul (.mul (.add .one .one) (.mul (.v 3) (.v 2))) (.add (.add (.mul (.v 0) (.v 2)) (.mul (.v 1) (.v 1))) (.mul (.v 2) (.v 0)))))) (by decide)
  rw [e1,c0,c2,F2.mul_zero,F2.mul_zero,bK,F2.add_zero]
 by_cases h0 : s.1 = F2.zero
 ·rw [h0,F2.zero_mul,F2.mul_zero,F2.zero_add,F2.zero_add] at c1;exact Va c1
 ·have g:=GF (zT.zd e h0);rw [F2.mul_comm s.2.1 s.1,g] at c1;refine Va (z:=F2.mul (F2.add (F2.add F2.one F2.one) F2.one) s.2.2) ?_;refine Eq.trans ?_ c1;exact aE F2 (aR F2 [s.2.2,dC]) (.mul (.v 1) (.mul (.mul (.add (.add .one .one) .one) (.v 0)) (.mul (.add (.add .one .one) .one) (.v 0))))
   (.add (.add (.mul (.add (.add .one .one) (.add .one .one)) (.mul (.v 1) (.mul (.v 0) (.v 0)))) (.mul (.add (.add .one .one) (.add .one .one)) (.mul (.v 1) (.mul (.v 0) (.v 0))))) (.mul (.v 1) (.mul (.v 0) (.v 0)))) (by decide)
theorem aBo {x : aN} (h : n12 x = F6.zero) : x = aD.zero:=by
 have e : F6.mul x.1 x.1 = F6.mul vE (F6.mul x.2 x.2):=GF (K:=F6) h;have hb : x.2 = F6.zero:=by
  by_cases hb : x.2 = F6.zero
  ·exact hb
  ·obtain ⟨t,ht⟩:=aDd aPm hb e;exact absurd ht (aWf t)
 rw [hb,F6.mul_zero,F6.mul_zero] at e;exact Prod.ext (wJ aPm e) hb
theorem pF {x : aN} (h : sF x = F1.zero) : x = aD.zero:=aBo (Kt (pH h))
theorem aHM {R : Type} (K : CR R) (a b v k : R) : K.add (K.mul a (K.mul a k)) (K.mul v (K.mul b (K.mul (K.sub K.zero b) k))) = K.mul (K.sub (K.mul a a) (K.mul v (K.mul b b))) k :=
 aE K (aR K [a,b,v,k]) (.add (.mul (.v 0) (.mul (.v 0) (.v 3))) (.mul (.v 2) (.mul (.v 1) (.mul (.add .zero (.neg (.v 1))) (.v 3))))) (.mul (.add (.mul (.v 0) (.v 0)) (.neg (.mul (.v 2) (.mul (.v 1) (.v 1))))) (.v 3)) (by decide)
theorem aHL {R : Type} (K : CR R) (a b k : R) : K.add (K.mul a (K.mul (K.sub K.zero b) k)) (K.mul b (K.mul a k)) = K.zero :=
 aE K (aR K [a,b,k]) (.add (.mul (.v 0) (.mul (.add .zero (.neg (.v 1))) (.v 2))) (.mul (.v 1) (.mul (.v 0) (.v 2)))) .zero (by decide)
theorem SU {x : aN} (h : sF x ≠ F1.zero) : aD.mul x (lJ x) = aD.one:=by
 have hi : F6.mul (n12 x) (iv6 (n12 x)) = F6.one:=aEy h;exact Prod.ext ((aHM F6 x.1 x.2 vE (iv6 (n12 x))).trans hi) (aHL F6 x.1 x.2 (iv6 (n12 x)))
theorem jT : Fld aD:=⟨fun h => aPm.1 (congrArg Prod.fst h),fun x h => ⟨_,SU fun e => h (pF e)⟩⟩
def pf {R : Type} (K : CR R) : Nat → R → Nat → R
 | 0,_,_ => K.one
 | f + 1,b,e => bif Nat.beq e 0 then K.one else bif Nat.beq (e % 2) 1 then K.mul b (pf K f (K.mul b b) (e / 2)) else pf K f (K.mul b b) (e / 2)
theorem Jd {R : Type} (K : CR R) : ∀ (f : Nat) (b : R) (e : Nat),e < 2 ^ f → pf K f b e = bO K b e
 | 0,b,e,h => by
  have : e = 0:=by omega
  subst this; rfl
 | f + 1,b,e,h => by
  rw [Nat.pow_succ] at h;unfold pf;cases h0 : Nat.beq e 0
  ·have hi:=Jd K f (K.mul b b) (e / 2) (by omega);have hb : K.mul b b = bO K b 2:=by show _ = K.mul (K.mul K.one b) b; rw [K.one_mul]
   have hs : bO K (K.mul b b) (e / 2) = bO K b (2 * (e / 2)):=by rw [hb,← dO]
   cases h1 : Nat.beq (e % 2) 1
   ·have : e % 2 ≠ 1:=fun h => by rw [h] at h1; cases h1
    simp only [cond_false];rw [hi,hs];congr 1; omega
   ·have:=Nat.eq_of_beq_eq_true h1;simp only [cond_true,cond_false];rw [hi,hs];have he : e = 2 * (e / 2) + 1:=by omega
    conv => rhs; rw [he]
    show _ = K.mul (bO K b (2 * (e / 2))) b;rw [K.mul_comm]
  ·have:=Nat.eq_of_beq_eq_true h0;subst this; rfl
theorem aBk {R : Type} (K : CR R) (q : R) (x : R × R) : ∀ n,nt (K.sq q) x n = (nt K x.1 n,nt K x.2 n)
 | 0 => rfl
 | n + 1 => by show (K.sq q).add (nt (K.sq q) x n) x = _; rw [aBk K q x n]; rfl
theorem aKh {R : Type} (K : CR R) (q : R) (x : R × R × R) : ∀ n,nt (K.cu q) x n = (nt K x.1 n,nt K x.2.1 n,nt K x.2.2 n)
 | 0 => rfl
 | n + 1 => by show (K.cu q).add (nt (K.cu q) x n) x = _; rw [aKh K q x n]; rfl
theorem aKg (x : Fq) : ∀ n,(nt F1 x n).1 = n * x.1 % FP.M
 | 0 => by rw [Nat.zero_mul]; rfl
 | n + 1 => by
  show ((nt F1 x n).1 + x.1) % FP.M = _;rw [aKg x n,Nat.mod_add_mod,Nat.add_mul,Nat.one_mul]
theorem ch1 (x : Fq) : nt F1 x FP.M = F1.zero:=Fin.ext (by rw [aKg,Nat.mul_mod_right]; rfl)
theorem ch2 (x : Q2) : nt F2 x FP.M = F2.zero:=by unfold F2; rw [aBk,ch1,ch1]; rfl
theorem ch6 (x : Q6) : nt F6 x FP.M = F6.zero:=by unfold F6; rw [aKh,ch2,ch2,ch2]; rfl
theorem aYj (x : aN) : nt aD x FP.M = aD.zero:=by unfold aD; rw [aBk,ch6,ch6]; rfl
theorem aGO : dV FP.M:=Fv.prm
theorem mC {R S : Type} (K : CR R) (L : CR S) (φ : R → S) (h1 : φ K.one = L.one) (hm : ∀ a b,φ (K.mul a b) = L.mul (φ a) (φ b)) (x : R) : ∀ n,bO L (φ x) n = φ (bO K x n)
 | 0 => h1.symm
 | n + 1 => by show L.mul (bO L (φ x) n) (φ x) = φ (K.mul _ _); rw [mC K L φ h1 hm x n,hm]
theorem aTd (x : Fq) : ∀ n,(bO F1 x n).1 = x.1 ^ n % FP.M
 | 0 => rfl
 | n + 1 => by show (bO F1 x n).1 * x.1 % FP.M = _; rw [aTd x n,Nat.pow_succ,Nat.mod_mul_mod]
theorem XA (x m : Nat) (h : 0 < m) : x ^ m = x ^ (m - 1) * x:=by
 obtain ⟨n,rfl⟩ : ∃ n,m = n + 1:=⟨m - 1,by omega⟩
 rw [Nat.add_sub_cancel,Nat.pow_succ]
theorem p1 (x : Fq) : bO F1 x FP.M = x:=by
 apply Fin.ext;rw [aTd]
 rcases Nat.eq_zero_or_pos x.1 with h | h
 ·rw [XA x.1 FP.M iG,h,Nat.mul_zero,Nat.zero_mod]
 ·have:=Tq h x.2;rw [XA x.1 FP.M iG,Nat.mul_mod,this,Nat.one_mul,Nat.mod_mod,Nat.mod_eq_of_lt x.2]
def i2 (a : Fq) : Q2:=(a,F1.zero)
def u2 : Q2:=(F1.zero,F1.one)
theorem Fi (a b : Fq) : i2 (F1.mul a b) = F2.mul (i2 a) (i2 b):=by
 refine Prod.ext ?_ ?_
 ·show F1.mul a b = F1.add (F1.mul a b) (F1.mul _ (F1.mul F1.zero F1.zero)); rw [F1.mul_zero,F1.mul_zero,F1.add_zero]
 ·show F1.zero = F1.add (F1.mul a F1.zero) (F1.mul F1.zero b); rw [F1.mul_zero,F1.zero_mul,F1.add_zero]
theorem aJJ (x : Q2) : x = F2.add (i2 x.1) (F2.mul (i2 x.2) u2):=by
 refine Prod.ext ?_ ?_
 ·show x.1 = F1.add x.1 (F1.add (F1.mul x.2 F1.zero) (F1.mul _ (F1.mul F1.zero F1.one))); rw [F1.mul_zero,F1.zero_mul,F1.mul_zero,F1.add_zero,F1.add_zero]
 ·show x.2 = F1.add F1.zero (F1.add (F1.mul x.2 F1.one) (F1.mul F1.zero F1.zero)); rw [F1.mul_one,F1.mul_zero,F1.add_zero,F1.zero_add]
theorem aWg : bO F2 u2 FP.M = aJ u2:=by
 rw [← Jd F2 256 u2 FP.M (by decide)]
 kernel_rfl
theorem Ln (a : Fq) : aJ (i2 a) = i2 a:=Prod.ext rfl (bK F1)
theorem aPk (x : Q2) : bO F2 x FP.M = aJ x:=by
 conv => lhs; rw [aJJ x]
 rw [Lx F2 aGO ch2,mB,mC F1 F2 i2 rfl Fi,mC F1 F2 i2 rfl Fi,p1,p1,aWg]
 conv => rhs; rw [aJJ x,kI,gL,Ln,Ln]
def i6 (a : Q2) : Q6:=(a,F2.zero,F2.zero)
theorem Fh (a b : Q2) : i6 (F2.mul a b) = F6.mul (i6 a) (i6 b):=by
 show _ = F6.mul (i6 a) (b,F2.zero,F2.zero);rw [Ku];refine Prod.ext rfl (Prod.ext ?_ ?_) <;> exact (F2.zero_mul _).symm
theorem aCd (a : Q2) : LA (i6 a) = i6 (aJ a):=by
 rw [PG];have h : aJ F2.zero = F2.zero:=by decide
 refine Prod.ext rfl (Prod.ext ?_ ?_)
 ·show F2.mul (aJ F2.zero) _ = F2.zero; rw [h,F2.zero_mul]
 ·show F2.mul (aJ F2.zero) _ = F2.zero; rw [h,F2.zero_mul]
theorem aJI (x : Q6) : x = F6.add (i6 x.1) (F6.add (F6.mul (i6 x.2.1) vE) (F6.mul (i6 x.2.2) (F6.mul vE vE))):=by
 have h1 : ∀ c : Q2,F6.mul (i6 c) vE = (F2.zero,c,F2.zero):=fun c => by
  rw [F6.mul_comm,CL];show (F2.mul F2.zero dC,c,F2.zero) = _;rw [F2.zero_mul]
 have h2 : ∀ c : Q2,F6.mul (i6 c) (F6.mul vE vE) = (F2.zero,F2.zero,c):=fun c => by
  rw [← F6.mul_assoc,h1,F6.mul_comm,CL];show (F2.mul F2.zero dC,F2.zero,c) = _;rw [F2.zero_mul]
 rw [h1,h2];refine Prod.ext ?_ (Prod.ext ?_ ?_)
 ·show x.1 = F2.add x.1 (F2.add F2.zero F2.zero); rw [F2.add_zero,F2.add_zero]
 ·show x.2.1 = F2.add F2.zero (F2.add x.2.1 F2.zero); rw [F2.add_zero,F2.zero_add]
 ·show x.2.2 = F2.add F2.zero (F2.add F2.zero x.2.2); rw [F2.zero_add,F2.zero_add]
theorem v_p : bO F6 vE FP.M = LA vE:=by
 rw [← Jd F6 256 vE FP.M (by decide)]
 kernel_rfl
theorem p6 (x : Q6) : bO F6 x FP.M = LA x:=by
 conv => lhs; rw [aJI x]
 rw [Lx F6 aGO ch6,Lx F6 aGO ch6,mB,mB,mB,mC F2 F6 i6 rfl Fh,mC F2 F6 i6 rfl Fh,mC F2 F6 i6 rfl Fh,aPk,aPk,aPk,v_p]
 conv => rhs; rw [aJI x,tE,tE,nU,nU,nU,aCd,aCd,aCd]
def i12 (a : Q6) : aN:=(a,F6.zero)
def wE : aN:=(F6.zero,F6.one)
theorem Lo (a b : Q6) : i12 (F6.mul a b) = aD.mul (i12 a) (i12 b):=by
 refine Prod.ext ?_ ?_
 ·show F6.mul a b = F6.add (F6.mul a b) (F6.mul _ (F6.mul F6.zero F6.zero)); rw [F6.mul_zero,F6.mul_zero,F6.add_zero]
 ·show F6.zero = F6.add (F6.mul a F6.zero) (F6.mul F6.zero b); rw [F6.mul_zero,F6.zero_mul,F6.add_zero]
theorem Zf (x : aN) : x = aD.add (i12 x.1) (aD.mul (i12 x.2) wE):=by
 refine Prod.ext ?_ ?_
 ·show x.1 = F6.add x.1 (F6.add (F6.mul x.2 F6.zero) (F6.mul _ (F6.mul F6.zero F6.one))); rw [F6.mul_zero,F6.zero_mul,F6.mul_zero,F6.add_zero,F6.add_zero]
 ·show x.2 = F6.add F6.zero (F6.add (F6.mul x.2 F6.one) (F6.mul F6.zero F6.zero)); rw [F6.mul_one,F6.mul_zero,F6.add_zero,F6.zero_add]
theorem aAD : LA F6.zero = F6.zero:=by decide
theorem aAE (x y : aN) : cN (aD.add x y) = aD.add (cN x) (cN y):=by
 rw [qD,qD,qD];refine Prod.ext (tE _ _) ?_;show F6.mul (LA (F6.add x.2 y.2)) tau = F6.add _ _;rw [tE,F6.add_mul]
theorem aCe (a : Q6) : cN (i12 a) = i12 (LA a):=by
 rw [qD];refine Prod.ext rfl ?_;show F6.mul (LA F6.zero) tau = F6.zero;rw [aAD,F6.zero_mul]
theorem w_p : bO aD wE FP.M = cN wE:=by
 rw [← Jd aD 256 wE FP.M (by decide)]
 kernel_rfl
theorem p12 (x : aN) : bO aD x FP.M = cN x:=by
 conv => lhs; rw [Zf x]
 rw [Lx aD aGO aYj,mB,mC F6 aD i12 rfl Lo,mC F6 aD i12 rfl Lo,p6,p6,w_p]
 conv => rhs; rw [Zf x,aAE,mZ,aCe,aCe]
theorem TZ {R : Type} (K : CR R) {a b : R} (h : K.sub a b = K.zero) : a = b:=by
 have h1 : K.add (K.add a (K.neg b)) b = b:=by
  rw [show K.add a (K.neg b) = K.zero from h,K.zero_add]
 rw [K.add_assoc,K.neg_add,K.add_zero] at h1;exact h1
theorem yI {R : Type} (K : CR R) (a : R) : K.sub a a = K.zero:=K.add_neg a
set_option maxRecDepth 10000
theorem aIJ {R : Type} (K : CR R) (c0 c1 c2 c3 c4 c5 q z : R) : (K.add (K.add (K.mul (K.mul K.one c0) c0) (K.mul q (K.add (K.mul (K.mul (K.neg z) c2) c4) (K.mul (K.mul (K.sub z K.one) c4) c2)))) (K.mul (K.add (K.add (K.mul (K.mul (K.sub z K.one) c1) c5) (K.mul (K.mul K.one c3) c3)) (K.mul (K.mul (K.neg z) c5) c1)) q)) = (K.add (K.mul K.one c0) (K.mul K.one (K.sub (K.sub (K.add (K.mul c0 c0) (K.mul q (K.mul c3 c3))) (K.mul (K.add (K.mul c1 c5) (K.mul c4 c2)) q)) c0))) :=
 aE K (aR K [c0,c1,c2,c3,c4,c5,q,z]) (.add (.add (.mul (.mul .one (.v 0)) (.v 0)) (.mul (.v 6) (.add (.mul (.mul (.neg (.v 7)) (.v 2)) (.v 4)) (.mul (.mul (.add (.v 7) (.neg .one)) (.v 4)) (.v 2))))) (.mul (.add (.add (.mul (.mul (.add (.v 7) (.neg .one)) (.v 1)) (.v 5)) (.mul (.mul .one (.v 3)) (.v 3))) (.mul (.mul (.neg (.v 7)) (.v 5)) (.v 1))) (.v 6))) (.add (.mul .one (.v 0)) (.mul .one (.add (.add (.add (.mul (.v 0) (.v 0)) (.mul (.v 6) (.mul (.v 3) (.v 3)))) (.neg (.mul (.add (.mul (.v 1) (.v 5)) (.mul (.v 4) (.v 2))) (.v 6)))) (.neg (.v 0))))) (by decide)
theorem aII {R : Type} (K : CR R) (c0 c1 c2 c3 c4 c5 q z : R) : (K.add (K.add (K.mul (K.mul K.one c0) c1) (K.mul q (K.add (K.mul (K.mul (K.neg z) c2) c5) (K.mul (K.mul (K.sub z K.one) c4) c3)))) (K.add (K.mul (K.mul (K.sub z K.one) c1) c0) (K.mul q (K.add (K.mul (K.mul K.one c3) c4) (K.mul (K.mul (K.neg z) c5) c2))))) = (K.add (K.mul z c1) (K.mul z (K.sub (K.sub (K.add (K.mul c0 c1) (K.mul q (K.mul c3 c4))) (K.mul (K.add (K.mul c2 c5) (K.mul c5 c2)) q)) c1))) :=
 aE K (aR K [c0,c1,c2,c3,c4,c5,q,z]) (.add (.add (.mul (.mul .one (.v 0)) (.v 1)) (.mul (.v 6) (.add (.mul (.mul (.neg (.v 7)) (.v 2)) (.v 5)) (.mul (.mul (.add (.v 7) (.neg .one)) (.v 4)) (.v 3))))) (.add (.mul (.mul (.add (.v 7) (.neg .one)) (.v 1)) (.v 0)) (.mul (.v 6) (.add (.mul (.mul .one (.v 3)) (.v 4)) (.mul (.mul (.neg (.v 7)) (.v 5)) (.v 2)))))) (.add (.mul (.v 7) (.v 1)) (.mul (.v 7) (.add (.add (.add (.mul (.v 0) (.v 1)) (.mul (.v 6) (.mul (.v 3) (.v 4)))) (.neg (.mul (.add (.mul (.v 2) (.v 5)) (.mul (.v 5) (.v 2))) (.v 6)))) (.neg (.v 1))))) (by decide)
theorem aIH {R : Type} (K : CR R) (c0 c1 c2 c3 c4 c5 q z : R) : (K.add (K.add (K.add (K.mul (K.mul K.one c0) c2) (K.mul (K.mul (K.neg z) c2) c0)) (K.mul q (K.mul (K.mul (K.sub z K.one) c4) c4))) (K.add (K.mul (K.mul (K.sub z K.one) c1) c1) (K.mul q (K.add (K.mul (K.mul K.one c3) c5) (K.mul (K.mul (K.neg z) c5) c3))))) = (K.add (K.mul (K.sub z K.one) c2) (K.mul (K.sub z K.one) (K.sub (K.sub (K.add (K.mul c1 c1) (K.mul q (K.mul c4 c4))) (K.add (K.mul c0 c2) (K.mul q (K.mul c3 c5)))) c2))) :=
 aE K (aR K [c0,c1,c2,c3,c4,c5,q,z]) (.add (.add (.add (.mul (.mul .one (.v 0)) (.v 2)) (.mul (.mul (.neg (.v 7)) (.v 2)) (.v 0))) (.mul (.v 6) (.mul (.mul (.add (.v 7) (.neg .one)) (.v 4)) (.v 4)))) (.add (.mul (.mul (.add (.v 7) (.neg .one)) (.v 1)) (.v 1)) (.mul (.v 6) (.add (.mul (.mul .one (.v 3)) (.v 5)) (.mul (.mul (.neg (.v 7)) (.v 5)) (.v 3)))))) (.add (.mul (.add (.v 7) (.neg .one)) (.v 2)) (.mul (.add (.v 7) (.neg .one)) (.add (.add (.add (.mul (.v 1) (.v 1)) (.mul (.v 6) (.mul (.v 4) (.v 4)))) (.neg (.add (.mul (.v 0) (.v 2)) (.mul (.v 6) (.mul (.v 3) (.v 5)))))) (.neg (.v 2))))) (by decide)
theorem aIG {R : Type} (K : CR R) (c0 c1 c2 c3 c4 c5 q z : R) : (K.add (K.add (K.add (K.mul (K.mul K.one c0) c3) (K.mul (K.mul (K.neg z) c2) c1)) (K.mul q (K.mul (K.mul (K.sub z K.one) c4) c5))) (K.add (K.add (K.mul (K.mul (K.sub z K.one) c1) c2) (K.mul (K.mul K.one c3) c0)) (K.mul q (K.mul (K.mul (K.neg z) c5) c4)))) = (K.add (K.mul (K.neg K.one) c3) (K.mul K.one (K.sub (K.sub (K.add (K.mul c0 c3) (K.mul c3 c0)) (K.add (K.mul c1 c2) (K.mul q (K.mul c4 c5)))) (K.sub K.zero c3)))) :=
 aE K (aR K [c0,c1,c2,c3,c4,c5,q,z]) (.add (.add (.add (.mul (.mul .one (.v 0)) (.v 3)) (.mul (.mul (.neg (.v 7)) (.v 2)) (.v 1))) (.mul (.v 6) (.mul (.mul (.add (.v 7) (.neg .one)) (.v 4)) (.v 5)))) (.add (.add (.mul (.mul (.add (.v 7) (.neg .one)) (.v 1)) (.v 2)) (.mul (.mul .one (.v 3)) (.v 0))) (.mul (.v 6) (.mul (.mul (.neg (.v 7)) (.v 5)) (.v 4))))) (.add (.mul (.neg .one) (.v 3)) (.mul .one (.add (.add (.add (.mul (.v 0) (.v 3)) (.mul (.v 3) (.v 0))) (.neg (.add (.mul (.v 1) (.v 2)) (.mul (.v 6) (.mul (.v 4) (.v 5)))))) (.neg (.add .zero (.neg (.v 3))))))) (by decide)
theorem aIF {R : Type} (K : CR R) (c0 c1 c2 c3 c4 c5 q z : R) : (K.add (K.add (K.add (K.mul (K.mul K.one c0) c4) (K.mul (K.mul (K.neg z) c2) c2)) (K.mul (K.mul (K.sub z K.one) c4) c0)) (K.add (K.add (K.mul (K.mul (K.sub z K.one) c1) c3) (K.mul (K.mul K.one c3) c1)) (K.mul q (K.mul (K.mul (K.neg z) c5) c5)))) = (K.add (K.mul (K.neg z) c4) (K.mul z (K.sub (K.sub (K.add (K.mul c0 c4) (K.mul c3 c1)) (K.add (K.mul c2 c2) (K.mul q (K.mul c5 c5)))) (K.sub K.zero c4)))) :=
 aE K (aR K [c0,c1,c2,c3,c4,c5,q,z]) (.add (.add (.add (.mul (.mul .one (.v 0)) (.v 4)) (.mul (.mul (.neg (.v 7)) (.v 2)) (.v 2))) (.mul (.mul (.add (.v 7) (.neg .one)) (.v 4)) (.v 0))) (.add (.add (.mul (.mul (.add (.v 7) (.neg .one)) (.v 1)) (.v 3)) (.mul (.mul .one (.v 3)) (.v 1))) (.mul (.v 6) (.mul (.mul (.neg (.v 7)) (.v 5)) (.v 5))))) (.add (.mul (.neg (.v 7)) (.v 4)) (.mul (.v 7) (.add (.add (.add (.mul (.v 0) (.v 4)) (.mul (.v 3) (.v 1))) (.neg (.add (.mul (.v 2) (.v 2)) (.mul (.v 6) (.mul (.v 5) (.v 5)))))) (.neg (.add .zero (.neg (.v 4))))))) (by decide)
theorem aIE {R : Type} (K : CR R) (c0 c1 c2 c3 c4 c5 q z : R) : (K.add (K.add (K.add (K.mul (K.mul K.one c0) c5) (K.mul (K.mul (K.neg z) c2) c3)) (K.mul (K.mul (K.sub z K.one) c4) c1)) (K.add (K.add (K.mul (K.mul (K.sub z K.one) c1) c4) (K.mul (K.mul K.one c3) c2)) (K.mul (K.mul (K.neg z) c5) c0))) = (K.add (K.mul (K.sub K.one z) c5) (K.mul (K.sub z K.one) (K.sub (K.sub (K.add (K.mul c1 c4) (K.mul c4 c1)) (K.add (K.mul c0 c5) (K.mul c3 c2))) (K.sub K.zero c5)))) :=
 aE K (aR K [c0,c1,c2,c3,c4,c5,q,z]) (.add (.add (.add (.mul (.mul .one (.v 0)) (.v 5)) (.mul (.mul (.neg (.v 7)) (.v 2)) (.v 3))) (.mul (.mul (.add (.v 7) (.neg .one)) (.v 4)) (.v 1))) (.add (.add (.mul (.mul (.add (.v 7) (.neg .one)) (.v 1)) (.v 4)) (.mul (.mul .one (.v 3)) (.v 2))) (.mul (.mul (.neg (.v 7)) (.v 5)) (.v 0)))) (.add (.mul (.add .one (.neg (.v 7))) (.v 5)) (.mul (.add (.v 7) (.neg .one)) (.add (.add (.add (.mul (.v 1) (.v 4)) (.mul (.v 4) (.v 1))) (.neg (.add (.mul (.v 0) (.v 5)) (.mul (.v 3) (.v 2))))) (.neg (.add .zero (.neg (.v 5))))))) (by decide)
theorem aFs {R : Type} (K : CR R) (c0 c1 c2 c3 c4 c5 q z : R) : (K.add (K.add (K.sub (K.add (K.mul c0 c0) (K.mul q (K.mul c3 c3))) c0) (K.sub (K.add (K.mul c0 c0) (K.mul q (K.mul c3 c3))) c0)) (K.add (K.mul c0 c0) (K.mul q (K.mul c3 c3)))) = (K.add (K.add (K.add (K.mul c0 c0) (K.mul q (K.add (K.mul c2 c4) (K.mul c4 c2)))) (K.mul (K.add (K.add (K.mul c1 c5) (K.mul c3 c3)) (K.mul c5 c1)) q)) (K.add (K.sub (K.sub (K.add (K.mul c0 c0) (K.mul q (K.mul c3 c3))) (K.mul (K.add (K.mul c1 c5) (K.mul c4 c2)) q)) c0) (K.sub (K.sub (K.add (K.mul c0 c0) (K.mul q (K.mul c3 c3))) (K.mul (K.add (K.mul c1 c5) (K.mul c4 c2)) q)) c0))) :=
 aE K (aR K [c0,c1,c2,c3,c4,c5,q,z]) (.add (.add (.add (.add (.mul (.v 0) (.v 0)) (.mul (.v 6) (.mul (.v 3) (.v 3)))) (.neg (.v 0))) (.add (.add (.mul (.v 0) (.v 0)) (.mul (.v 6) (.mul (.v 3) (.v 3)))) (.neg (.v 0)))) (.add (.mul (.v 0) (.v 0)) (.mul (.v 6) (.mul (.v 3) (.v 3))))) (.add (.add (.add (.mul (.v 0) (.v 0)) (.mul (.v 6) (.add (.mul (.v 2) (.v 4)) (.mul (.v 4) (.v 2))))) (.mul (.add (.add (.mul (.v 1) (.v 5)) (.mul (.v 3) (.v 3))) (.mul (.v 5) (.v 1))) (.v 6))) (.add (.add (.add (.add (.mul (.v 0) (.v 0)) (.mul (.v 6) (.mul (.v 3) (.v 3)))) (.neg (.mul (.add (.mul (.v 1) (.v 5)) (.mul (.v 4) (.v 2))) (.v 6)))) (.neg (.v 0))) (.add (.add (.add (.mul (.v 0) (.v 0)) (.mul (.v 6) (.mul (.v 3) (.v 3)))) (.neg (.mul (.add (.mul (.v 1) (.v 5)) (.mul (.v 4) (.v 2))) (.v 6)))) (.neg (.v 0))))) (by decide)
theorem aFr {R : Type} (K : CR R) (c0 c1 c2 c3 c4 c5 q z : R) : (K.add (K.add (K.sub (K.mul (K.add (K.mul c2 c5) (K.mul c5 c2)) q) (K.sub K.zero c1)) (K.sub (K.mul (K.add (K.mul c2 c5) (K.mul c5 c2)) q) (K.sub K.zero c1))) (K.mul (K.add (K.mul c2 c5) (K.mul c5 c2)) q)) = (K.sub (K.add (K.add (K.mul c0 c1) (K.mul q (K.add (K.mul c2 c5) (K.mul c4 c3)))) (K.add (K.mul c1 c0) (K.mul q (K.add (K.mul c3 c4) (K.mul c5 c2))))) (K.add (K.sub (K.sub (K.add (K.mul c0 c1) (K.mul q (K.mul c3 c4))) (K.mul (K.add (K.mul c2 c5) (K.mul c5 c2)) q)) c1) (K.sub (K.sub (K.add (K.mul c0 c1) (K.mul q (K.mul c3 c4))) (K.mul (K.add (K.mul c2 c5) (K.mul c5 c2)) q)) c1))) :=
 aE K (aR K [c0,c1,c2,c3,c4,c5,q,z]) (.add (.add (.add (.mul (.add (.mul (.v 2) (.v 5)) (.mul (.v 5) (.v 2))) (.v 6)) (.neg (.add .zero (.neg (.v 1))))) (.add (.mul (.add (.mul (.v 2) (.v 5)) (.mul (.v 5) (.v 2))) (.v 6)) (.neg (.add .zero (.neg (.v 1)))))) (.mul (.add (.mul (.v 2) (.v 5)) (.mul (.v 5) (.v 2))) (.v 6))) (.add (.add (.add (.mul (.v 0) (.v 1)) (.mul (.v 6) (.add (.mul (.v 2) (.v 5)) (.mul (.v 4) (.v 3))))) (.add (.mul (.v 1) (.v 0)) (.mul (.v 6) (.add (.mul (.v 3) (.v 4)) (.mul (.v 5) (.v 2)))))) (.neg (.add (.add (.add (.add (.mul (.v 0) (.v 1)) (.mul (.v 6) (.mul (.v 3) (.v 4)))) (.neg (.mul (.add (.mul (.v 2) (.v 5)) (.mul (.v 5) (.v 2))) (.v 6)))) (.neg (.v 1))) (.add (.add (.add (.mul (.v 0) (.v 1)) (.mul (.v 6) (.mul (.v 3) (.v 4)))) (.neg (.mul (.add (.mul (.v 2) (.v 5)) (.mul (.v 5) (.v 2))) (.v 6)))) (.neg (.v 1)))))) (by decide)
theorem aFq {R : Type} (K : CR R) (c0 c1 c2 c3 c4 c5 q z : R) : (K.add (K.add (K.sub (K.add (K.mul c1 c1) (K.mul q (K.mul c4 c4))) c2) (K.sub (K.add (K.mul c1 c1) (K.mul q (K.mul c4 c4))) c2)) (K.add (K.mul c1 c1) (K.mul q (K.mul c4 c4)))) = (K.add (K.add (K.add (K.add (K.mul c0 c2) (K.mul c2 c0)) (K.mul q (K.mul c4 c4))) (K.add (K.mul c1 c1) (K.mul q (K.add (K.mul c3 c5) (K.mul c5 c3))))) (K.add (K.sub (K.sub (K.add (K.mul c1 c1) (K.mul q (K.mul c4 c4))) (K.add (K.mul c0 c2) (K.mul q (K.mul c3 c5)))) c2) (K.sub (K.sub (K.add (K.mul c1 c1) (K.mul q (K.mul c4 c4))) (K.add (K.mul c0 c2) (K.mul q (K.mul c3 c5)))) c2))) :=
 aE K (aR K [c0,c1,c2,c3,c4,c5,q,z]) (.add (.add (.add (.add (.mul (.v 1) (.v 1)) (.mul (.v 6) (.mul (.v 4) (.v 4)))) (.neg (.v 2))) (.add (.add (.mul (.v 1) (.v 1)) (.mul (.v 6) (.mul (.v 4) (.v 4)))) (.neg (.v 2)))) (.add (.mul (.v 1) (.v 1)) (.mul (.v 6) (.mul (.v 4) (.v 4))))) (.add (.add (.add (.add (.mul (.v 0) (.v 2)) (.mul (.v 2) (.v 0))) (.mul (.v 6) (.mul (.v 4) (.v 4)))) (.add (.mul (.v 1) (.v 1)) (.mul (.v 6) (.add (.mul (.v 3) (.v 5)) (.mul (.v 5) (.v 3)))))) (.add (.add (.add (.add (.mul (.v 1) (.v 1)) (.mul (.v 6) (.mul (.v 4) (.v 4)))) (.neg (.add (.mul (.v 0) (.v 2)) (.mul (.v 6) (.mul (.v 3) (.v 5)))))) (.neg (.v 2))) (.add (.add (.add (.mul (.v 1) (.v 1)) (.mul (.v 6) (.mul (.v 4) (.v 4)))) (.neg (.add (.mul (.v 0) (.v 2)) (.mul (.v 6) (.mul (.v 3) (.v 5)))))) (.neg (.v 2))))) (by decide)
theorem aFp {R : Type} (K : CR R) (c0 c1 c2 c3 c4 c5 q z : R) : (K.add (K.add (K.sub (K.add (K.mul c0 c3) (K.mul c3 c0)) (K.sub K.zero c3)) (K.sub (K.add (K.mul c0 c3) (K.mul c3 c0)) (K.sub K.zero c3))) (K.add (K.mul c0 c3) (K.mul c3 c0))) = (K.add (K.add (K.add (K.add (K.mul c0 c3) (K.mul c2 c1)) (K.mul q (K.mul c4 c5))) (K.add (K.add (K.mul c1 c2) (K.mul c3 c0)) (K.mul q (K.mul c5 c4)))) (K.add (K.sub (K.sub (K.add (K.mul c0 c3) (K.mul c3 c0)) (K.add (K.mul c1 c2) (K.mul q (K.mul c4 c5)))) (K.sub K.zero c3)) (K.sub (K.sub (K.add (K.mul c0 c3) (K.mul c3 c0)) (K.add (K.mul c1 c2) (K.mul q (K.mul c4 c5)))) (K.sub K.zero c3)))) :=
 aE K (aR K [c0,c1,c2,c3,c4,c5,q,z]) (.add (.add (.add (.add (.mul (.v 0) (.v 3)) (.mul (.v 3) (.v 0))) (.neg (.add .zero (.neg (.v 3))))) (.add (.add (.mul (.v 0) (.v 3)) (.mul (.v 3) (.v 0))) (.neg (.add .zero (.neg (.v 3)))))) (.add (.mul (.v 0) (.v 3)) (.mul (.v 3) (.v 0)))) (.add (.add (.add (.add (.mul (.v 0) (.v 3)) (.mul (.v 2) (.v 1))) (.mul (.v 6) (.mul (.v 4) (.v 5)))) (.add (.add (.mul (.v 1) (.v 2)) (.mul (.v 3) (.v 0))) (.mul (.v 6) (.mul (.v 5) (.v 4))))) (.add (.add (.add (.add (.mul (.v 0) (.v 3)) (.mul (.v 3) (.v 0))) (.neg (.add (.mul (.v 1) (.v 2)) (.mul (.v 6) (.mul (.v 4) (.v 5)))))) (.neg (.add .zero (.neg (.v 3))))) (.add (.add (.add (.mul (.v 0) (.v 3)) (.mul (.v 3) (.v 0))) (.neg (.add (.mul (.v 1) (.v 2)) (.mul (.v 6) (.mul (.v 4) (.v 5)))))) (.neg (.add .zero (.neg (.v 3))))))) (by decide)
theorem aFo {R : Type} (K : CR R) (c0 c1 c2 c3 c4 c5 q z : R) : (K.add (K.add (K.sub (K.add (K.mul c2 c2) (K.mul q (K.mul c5 c5))) (K.sub K.zero (K.sub K.zero c4))) (K.sub (K.add (K.mul c2 c2) (K.mul q (K.mul c5 c5))) (K.sub K.zero (K.sub K.zero c4)))) (K.add (K.mul c2 c2) (K.mul q (K.mul c5 c5)))) = (K.sub (K.add (K.add (K.add (K.mul c0 c4) (K.mul c2 c2)) (K.mul c4 c0)) (K.add (K.add (K.mul c1 c3) (K.mul c3 c1)) (K.mul q (K.mul c5 c5)))) (K.add (K.sub (K.sub (K.add (K.mul c0 c4) (K.mul c3 c1)) (K.add (K.mul c2 c2) (K.mul q (K.mul c5 c5)))) (K.sub K.zero c4)) (K.sub (K.sub (K.add (K.mul c0 c4) (K.mul c3 c1)) (K.add (K.mul c2 c2) (K.mul q (K.mul c5 c5)))) (K.sub K.zero c4)))) :=
 aE K (aR K [c0,c1,c2,c3,c4,c5,q,z]) (.add (.add (.add (.add (.mul (.v 2) (.v 2)) (.mul (.v 6) (.mul (.v 5) (.v 5)))) (.neg (.add .zero (.neg (.add .zero (.neg (.v 4))))))) (.add (.add (.mul (.v 2) (.v 2)) (.mul (.v 6) (.mul (.v 5) (.v 5)))) (.neg (.add .zero (.neg (.add .zero (.neg (.v 4)))))))) (.add (.mul (.v 2) (.v 2)) (.mul (.v 6) (.mul (.v 5) (.v 5))))) (.add (.add (.add (.add (.mul (.v 0) (.v 4)) (.mul (.v 2) (.v 2))) (.mul (.v 4) (.v 0))) (.add (.add (.mul (.v 1) (.v 3)) (.mul (.v 3) (.v 1))) (.mul (.v 6) (.mul (.v 5) (.v 5))))) (.neg (.add (.add (.add (.add (.mul (.v 0) (.v 4)) (.mul (.v 3) (.v 1))) (.neg (.add (.mul (.v 2) (.v 2)) (.mul (.v 6) (.mul (.v 5) (.v 5)))))) (.neg (.add .zero (.neg (.v 4))))) (.add (.add (.add (.mul (.v 0) (.v 4)) (.mul (.v 3) (.v 1))) (.neg (.add (.mul (.v 2) (.v 2)) (.mul (.v 6) (.mul (.v 5) (.v 5)))))) (.neg (.add .zero (.neg (.v 4)))))))) (by decide)
theorem aFn {R : Type} (K : CR R) (c0 c1 c2 c3 c4 c5 q z : R) : (K.add (K.add (K.sub (K.add (K.mul c1 c4) (K.mul c4 c1)) (K.sub K.zero c5)) (K.sub (K.add (K.mul c1 c4) (K.mul c4 c1)) (K.sub K.zero c5))) (K.add (K.mul c1 c4) (K.mul c4 c1))) = (K.add (K.add (K.add (K.add (K.mul c0 c5) (K.mul c2 c3)) (K.mul c4 c1)) (K.add (K.add (K.mul c1 c4) (K.mul c3 c2)) (K.mul c5 c0))) (K.add (K.sub (K.sub (K.add (K.mul c1 c4) (K.mul c4 c1)) (K.add (K.mul c0 c5) (K.mul c3 c2))) (K.sub K.zero c5)) (K.sub (K.sub (K.add (K.mul c1 c4) (K.mul c4 c1)) (K.add (K.mul c0 c5) (K.mul c3 c2))) (K.sub K.zero c5)))) :=
 aE K (aR K [c0,c1,c2,c3,c4,c5,q,z]) (.add (.add (.add (.add (.mul (.v 1) (.v 4)) (.mul (.v 4) (.v 1))) (.neg (.add .zero (.neg (.v 5))))) (.add (.add (.mul (.v 1) (.v 4)) (.mul (.v 4) (.v 1))) (.neg (.add .zero (.neg (.v 5)))))) (.add (.mul (.v 1) (.v 4)) (.mul (.v 4) (.v 1)))) (.add (.add (.add (.add (.mul (.v 0) (.v 5)) (.mul (.v 2) (.v 3))) (.mul (.v 4) (.v 1))) (.add (.add (.mul (.v 1) (.v 4)) (.mul (.v 3) (.v 2))) (.mul (.v 5) (.v 0)))) (.add (.add (.add (.add (.mul (.v 1) (.v 4)) (.mul (.v 4) (.v 1))) (.neg (.add (.mul (.v 0) (.v 5)) (.mul (.v 3) (.v 2))))) (.neg (.add .zero (.neg (.v 5))))) (.add (.add (.add (.mul (.v 1) (.v 4)) (.mul (.v 4) (.v 1))) (.neg (.add (.mul (.v 0) (.v 5)) (.mul (.v 3) (.v 2))))) (.neg (.add .zero (.neg (.v 5))))))) (by decide)
def zE : Q2:=(Ij,F1.zero)
theorem tt0 (c : Q2) : pQ (pQ c Pc) Pc = F2.mul F2.one c:=by
 rw [dU,dU,F2.mul_assoc,F2.mul_comm];rw [show F2.mul (Pc,F1.zero) (Pc,F1.zero) = F2.one by decide]
theorem tu0 (c : Q2) : pQ c Pc = F2.mul F2.one c:=by
 rw [dU,F2.mul_comm];rw [show (Pc,F1.zero) = F2.one by decide]
theorem tt1 (c : Q2) : pQ (pQ c Ij) Ij = F2.mul (F2.sub zE F2.one) c:=by
 rw [dU,dU,F2.mul_assoc,F2.mul_comm];rw [show F2.mul (Ij,F1.zero) (Ij,F1.zero) = (F2.sub zE F2.one) by decide]
theorem tu1 (c : Q2) : pQ c Ij = F2.mul zE c:=by
 rw [dU,F2.mul_comm];rw [show (Ij,F1.zero) = zE by decide]
theorem tt2 (c : Q2) : pQ (pQ c Pb) Pb = F2.mul (F2.neg zE) c:=by
 rw [dU,dU,F2.mul_assoc,F2.mul_comm];rw [show F2.mul (Pb,F1.zero) (Pb,F1.zero) = (F2.neg zE) by decide]
theorem tu2 (c : Q2) : pQ c Pb = F2.mul (F2.sub zE F2.one) c:=by
 rw [dU,F2.mul_comm];rw [show (Pb,F1.zero) = (F2.sub zE F2.one) by decide]
theorem tt3 (c : Q2) : pQ (pQ c Pa) Pa = F2.mul F2.one c:=by
 rw [dU,dU,F2.mul_assoc,F2.mul_comm];rw [show F2.mul (Pa,F1.zero) (Pa,F1.zero) = F2.one by decide]
theorem tu3 (c : Q2) : pQ c Pa = F2.mul (F2.neg F2.one) c:=by
 rw [dU,F2.mul_comm];rw [show (Pa,F1.zero) = (F2.neg F2.one) by decide]
theorem tt4 (c : Q2) : pQ (pQ c Oz) Oz = F2.mul (F2.sub zE F2.one) c:=by
 rw [dU,dU,F2.mul_assoc,F2.mul_comm];rw [show F2.mul (Oz,F1.zero) (Oz,F1.zero) = (F2.sub zE F2.one) by decide]
theorem tu4 (c : Q2) : pQ c Oz = F2.mul (F2.neg zE) c:=by
 rw [dU,F2.mul_comm];rw [show (Oz,F1.zero) = (F2.neg zE) by decide]
theorem tt5 (c : Q2) : pQ (pQ c Oy) Oy = F2.mul (F2.neg zE) c:=by
 rw [dU,dU,F2.mul_assoc,F2.mul_comm];rw [show F2.mul (Oy,F1.zero) (Oy,F1.zero) = (F2.neg zE) by decide]
theorem tu5 (c : Q2) : pQ c Oy = F2.mul (F2.sub F2.one zE) c:=by
 rw [dU,F2.mul_comm];rw [show (Oy,F1.zero) = (F2.sub F2.one zE) by decide]
theorem zS {R : Type} (K : CR R) {L R' Z Zi A B : R} (h : L = K.add R' (K.mul Z (K.sub A B))) (hz : K.mul Zi Z = K.one) : L = R' ↔ A = B:=by
 constructor
 ·intro e;rw [e] at h;have h1 : K.mul Z (K.sub A B) = K.zero:=by
   have h2 : K.add R' (K.mul Z (K.sub A B)) = K.add R' K.zero:=by rw [← h,K.add_zero]
   exact K.add_cancel h2
  have h3 : K.sub A B = K.zero:=by
   rw [← K.one_mul (K.sub A B),← hz,K.mul_assoc,h1,K.mul_zero]
  exact TZ K h3
 ·intro e;rw [h,e,yI,K.mul_zero,K.add_zero]
abbrev Q4:=Q2 × Q2
def F4 : CR Q4:=F2.sq dC
def s4 (a : Q4) : Q4:=(F2.mul a.2 dC,a.1)
def MV (a : Q4) : Q4:=(a.1,F2.sub F2.zero a.2)
def Vp (a b : Q4) : Q4:=(F2.add (F2.add (F2.sub a.1 b.1) (F2.sub a.1 b.1)) a.1,F2.add (F2.add (F2.sub a.2 b.2) (F2.sub a.2 b.2)) a.2)
def fX (x : aN) : Q4:=(x.1.1,x.2.2.1)
def fY (x : aN) : Q4:=(x.2.1,x.1.2.2)
def fZ (x : aN) : Q4:=(x.1.2.1,x.2.2.2)
def aBR (x y z : Q4) : aN:=((x.1,z.1,y.2),(y.1,x.2,z.2))
def aCb (x : aN) : Prop:=F4.sub (F4.mul (fX x) (fX x)) (s4 (F4.mul (fY x) (fZ x))) = MV (fX x)
def aCa (x : aN) : Prop:=F4.sub (F4.mul (fX x) (fY x)) (s4 (F4.mul (fZ x) (fZ x))) = MV (fY x)
def aBZ (x : aN) : Prop:=F4.sub (F4.mul (fY x) (fY x)) (F4.mul (fX x) (fZ x)) = MV (fZ x)
def aSo (x : aN) : aN:=aBR (Vp (F4.mul (fX x) (fX x)) (MV (fX x))) (Vp (s4 (F4.mul (fZ x) (fZ x))) (F4.sub F4.zero (MV (fY x)))) (Vp (F4.mul (fY x) (fY x)) (MV (fZ x)))
theorem nY (x y : aN) : aD.mul x y = (((F2.add (F2.add (F2.mul x.1.1 y.1.1) (F2.mul dC (F2.add (F2.mul x.1.2.1 y.1.2.2) (F2.mul x.1.2.2 y.1.2.1)))) (F2.mul (F2.add (F2.add (F2.mul x.2.1 y.2.2.2) (F2.mul x.2.2.1 y.2.2.1)) (F2.mul x.2.2.2 y.2.1)) dC)),(F2.add (F2.add (F2.add (F2.mul x.1.1 y.1.2.1) (F2.mul x.1.2.1 y.1.1)) (F2.mul dC (F2.mul x.1.2.2 y.1.2.2))) (F2.add (F2.mul x.2.1 y.2.1) (F2.mul dC (F2.add (F2.mul x.2.2.1 y.2.2.2) (F2.mul x.2.2.2 y.2.2.1))))),(F2.add (F2.add (F2.add (F2.mul x.1.1 y.1.2.2) (F2.mul x.1.2.1 y.1.2.1)) (F2.mul x.1.2.2 y.1.1)) (F2.add (F2.add (F2.mul x.2.1 y.2.2.1) (F2.mul x.2.2.1 y.2.1)) (F2.mul dC (F2.mul x.2.2.2 y.2.2.2))))),((F2.add (F2.add (F2.mul x.1.1 y.2.1) (F2.mul dC (F2.add (F2.mul x.1.2.1 y.2.2.2) (F2.mul x.1.2.2 y.2.2.1)))) (F2.add (F2.mul x.2.1 y.1.1) (F2.mul dC (F2.add (F2.mul x.2.2.1 y.1.2.2) (F2.mul x.2.2.2 y.1.2.1))))),(F2.add (F2.add (F2.add (F2.mul x.1.1 y.2.2.1) (F2.mul x.1.2.1 y.2.1)) (F2.mul dC (F2.mul x.1.2.2 y.2.2.2))) (F2.add (F2.add (F2.mul x.2.1 y.1.2.1) (F2.mul x.2.2.1 y.1.1)) (F2.mul dC (F2.mul x.2.2.2 y.1.2.2)))),(F2.add (F2.add (F2.add (F2.mul x.1.1 y.2.2.2) (F2.mul x.1.2.1 y.2.2.1)) (F2.mul x.1.2.2 y.2.1)) (F2.add (F2.add (F2.mul x.2.1 y.1.2.2) (F2.mul x.2.2.1 y.1.2.1)) (F2.mul x.2.2.2 y.1.1))))):=by
 refine Prod.ext ?_ rfl;show F6.add (F6.mul x.1 y.1) (F6.mul vE (F6.mul x.2 y.2)) = _;rw [CL];rfl
theorem aWm (x : aN) : aD.mul (cM (cM x)) x = (((F2.add (F2.add (F2.mul (F2.mul F2.one x.1.1) x.1.1) (F2.mul dC (F2.add (F2.mul (F2.mul (F2.neg zE) x.1.2.1) x.1.2.2) (F2.mul (F2.mul (F2.sub zE F2.one) x.1.2.2) x.1.2.1)))) (F2.mul (F2.add (F2.add (F2.mul (F2.mul (F2.sub zE F2.one) x.2.1) x.2.2.2) (F2.mul (F2.mul F2.one x.2.2.1) x.2.2.1)) (F2.mul (F2.mul (F2.neg zE) x.2.2.2) x.2.1)) dC)),(F2.add (F2.add (F2.add (F2.mul (F2.mul F2.one x.1.1) x.1.2.1) (F2.mul (F2.mul (F2.neg zE) x.1.2.1) x.1.1)) (F2.mul dC (F2.mul (F2.mul (F2.sub zE F2.one) x.1.2.2) x.1.2.2))) (F2.add (F2.mul (F2.mul (F2.sub zE F2.one) x.2.1) x.2.1) (F2.mul dC (F2.add (F2.mul (F2.mul F2.one x.2.2.1) x.2.2.2) (F2.mul (F2.mul (F2.neg zE) x.2.2.2) x.2.2.1))))),(F2.add (F2.add (F2.add (F2.mul (F2.mul F2.one x.1.1) x.1.2.2) (F2.mul (F2.mul (F2.neg zE) x.1.2.1) x.1.2.1)) (F2.mul (F2.mul (F2.sub zE F2.one) x.1.2.2) x.1.1)) (F2.add (F2.add (F2.mul (F2.mul (F2.sub zE F2.one) x.2.1) x.2.2.1) (F2.mul (F2.mul F2.one x.2.2.1) x.2.1)) (F2.mul dC (F2.mul (F2.mul (F2.neg zE) x.2.2.2) x.2.2.2))))),((F2.add (F2.add (F2.mul (F2.mul F2.one x.1.1) x.2.1) (F2.mul dC (F2.add (F2.mul (F2.mul (F2.neg zE) x.1.2.1) x.2.2.2) (F2.mul (F2.mul (F2.sub zE F2.one) x.1.2.2) x.2.2.1)))) (F2.add (F2.mul (F2.mul (F2.sub zE F2.one) x.2.1) x.1.1) (F2.mul dC (F2.add (F2.mul (F2.mul F2.one x.2.2.1) x.1.2.2) (F2.mul (F2.mul (F2.neg zE) x.2.2.2) x.1.2.1))))),(F2.add (F2.add (F2.add (F2.mul (F2.mul F2.one x.1.1) x.2.2.1) (F2.mul (F2.mul (F2.neg zE) x.1.2.1) x.2.1)) (F2.mul dC (F2.mul (F2.mul (F2.sub zE F2.one) x.1.2.2) x.2.2.2))) (F2.add (F2.add (F2.mul (F2.mul (F2.sub zE F2.one) x.2.1) x.1.2.1) (F2.mul (F2.mul F2.one x.2.2.1) x.1.1)) (F2.mul dC (F2.mul (F2.mul (F2.neg zE) x.2.2.2) x.1.2.2)))),(F2.add (F2.add (F2.add (F2.mul (F2.mul F2.one x.1.1) x.2.2.2) (F2.mul (F2.mul (F2.neg zE) x.1.2.1) x.2.2.1)) (F2.mul (F2.mul (F2.sub zE F2.one) x.1.2.2) x.2.1)) (F2.add (F2.add (F2.mul (F2.mul (F2.sub zE F2.one) x.2.1) x.1.2.2) (F2.mul (F2.mul F2.one x.2.2.1) x.1.2.1)) (F2.mul (F2.mul (F2.neg zE) x.2.2.2) x.1.1))))):=by
 rw [show cM (cM x) = ((F2.mul F2.one x.1.1,F2.mul (F2.neg zE) x.1.2.1,F2.mul (F2.sub zE F2.one) x.1.2.2),(F2.mul (F2.sub zE F2.one) x.2.1,F2.mul F2.one x.2.2.1,F2.mul (F2.neg zE) x.2.2.2)) from Prod.ext (Prod.ext (tt0 _) (Prod.ext (tt2 _) (tt4 _))) (Prod.ext (tt1 _) (Prod.ext (tt3 _) (tt5 _)))];exact nY _ _
theorem aWl (x : aN) : cM x = (((F2.mul F2.one x.1.1),(F2.mul (F2.sub zE F2.one) x.1.2.1),(F2.mul (F2.neg zE) x.1.2.2)),((F2.mul zE x.2.1),(F2.mul (F2.neg F2.one) x.2.2.1),(F2.mul (F2.sub F2.one zE) x.2.2.2))):=Prod.ext (Prod.ext (tu0 _) (Prod.ext (tu2 _) (tu4 _))) (Prod.ext (tu1 _) (Prod.ext (tu3 _) (tu5 _)))
theorem Ix {a0 a1 a2 a3 a4 a5 b0 b1 b2 b3 b4 b5 : Q2} : (((a0,a2,a4),(a1,a3,a5)) : aN) = ((b0,b2,b4),(b1,b3,b5)) ↔ ((a0 = b0 ∧ a3 = b3) ∧ (a1 = b1 ∧ a4 = b4) ∧ (a2 = b2 ∧ a5 = b5)):=by
 simp only [Prod.mk.injEq];constructor
 ·rintro ⟨⟨h0,h2,h4⟩,h1,h3,h5⟩
  exact ⟨⟨h0,h3⟩,⟨h1,h4⟩,h2,h5⟩
 ·rintro ⟨⟨h0,h3⟩,⟨h1,h4⟩,h2,h5⟩
  exact ⟨⟨h0,h2,h4⟩,h1,h3,h5⟩
theorem yX {a b : Q4} : a = b ↔ (a.1 = b.1 ∧ a.2 = b.2):=⟨fun h => by rw [h]; exact ⟨rfl,rfl⟩,fun h => Prod.ext h.1 h.2⟩
theorem Mt (x : aN) : aD.mul (cM (cM x)) x = cM x ↔ (aCb x ∧ aCa x ∧ aBZ x):=by
 rw [aWm,aWl,Ix];unfold aCb aCa aBZ;rw [yX,yX,yX];have e0:=zS F2 (aIJ F2 x.1.1 x.2.1 x.1.2.1 x.2.2.1 x.1.2.2 x.2.2.2 dC zE) (show F2.mul F2.one F2.one = F2.one by decide);have e1:=zS F2 (aII F2 x.1.1 x.2.1 x.1.2.1 x.2.2.1 x.1.2.2 x.2.2.2 dC zE) (show F2.mul (F2.sub F2.one zE) zE = F2.one by decide);have e2:=zS F2 (aIH F2 x.1.1 x.2.1 x.1.2.1 x.2.2.1 x.1.2.2 x.2.2.2 dC zE) (show F2.mul (F2.neg zE) (F2.sub zE F2.one) = F2.one by decide);have e3:=zS F2 (aIG F2 x.1.1 x.2.1 x.1.2.1 x.2.2.1 x.1.2.2 x.2.2.2 dC zE) (show F2.mul F2.one F2.one = F2.one by decide);have e4:=zS F2 (aIF F2 x.1.1 x.2.1 x.1.2.1 x.2.2.1 x.1.2.2 x.2.2.2 dC zE) (show F2.mul (F2.sub F2.one zE) zE = F2.one by decide);have e5:=zS F2 (aIE F2 x.1.1 x.2.1 x.1.2.1 x.2.2.1 x.1.2.2 x.2.2.2 dC zE) (show F2.mul (F2.neg zE) (F2.sub zE F2.one) = F2.one by decide);constructor
 ·rintro ⟨⟨h0,h3⟩,⟨h1,h4⟩,h2,h5⟩
  exact ⟨⟨e0.1 h0,e3.1 h3⟩,⟨e1.1 h1,e4.1 h4⟩,⟨e2.1 h2,e5.1 h5⟩⟩
 ·rintro ⟨⟨h0,h3⟩,⟨h1,h4⟩,⟨h2,h5⟩⟩
  exact ⟨⟨e0.2 h0,e3.2 h3⟩,⟨e1.2 h1,e4.2 h4⟩,⟨e2.2 h2,e5.2 h5⟩⟩
theorem RX {R : Type} (K : CR R) {t s a b : R} (h : t = K.add s (K.add (K.sub a b) (K.sub a b))) (e : a = b) : t = s:=by
 rw [h,e,yI,K.add_zero,K.add_zero]
theorem Wg {R : Type} (K : CR R) {t s a b : R} (h : t = K.sub s (K.add (K.sub a b) (K.sub a b))) (e : a = b) : t = s:=by
 rw [h,e,yI,K.add_zero];show K.add s (K.neg K.zero) = s;rw [bK,K.add_zero]
theorem aMh (x : aN) (h : aCb x ∧ aCa x ∧ aBZ x) : aSo x = aD.mul x x:=by
 unfold aCb aCa aBZ at h;rw [yX,yX,yX] at h;obtain ⟨⟨h0,h3⟩,⟨h1,h4⟩,h2,h5⟩:=h;rw [nY];have hz : aD.zero = aD.zero:=rfl;refine Ix.2 ⟨⟨?_,?_⟩,⟨?_,?_⟩,?_,?_⟩
 ·exact RX F2 (aFs F2 x.1.1 x.2.1 x.1.2.1 x.2.2.1 x.1.2.2 x.2.2.2 dC zE) h0
 ·exact RX F2 (aFp F2 x.1.1 x.2.1 x.1.2.1 x.2.2.1 x.1.2.2 x.2.2.2 dC zE) h3
 ·exact Wg F2 (aFr F2 x.1.1 x.2.1 x.1.2.1 x.2.2.1 x.1.2.2 x.2.2.2 dC zE) h1
 ·exact Wg F2 (aFo F2 x.1.1 x.2.1 x.1.2.1 x.2.2.1 x.1.2.2 x.2.2.2 dC zE) h4
 ·exact RX F2 (aFq F2 x.1.1 x.2.1 x.1.2.1 x.2.2.1 x.1.2.2 x.2.2.2 dC zE) h2
 ·exact RX F2 (aFn F2 x.1.1 x.2.1 x.1.2.1 x.2.2.1 x.1.2.2 x.2.2.2 dC zE) h5
def lK (x : aN) : Prop:=x ≠ aD.zero ∧ aD.mul (cM (cM x)) x = cM x
end Go.Proofs.YtglgakbkdjhojaaGreat.Ex
namespace Go.Proofs.YtglgakbkdjhojaaGreat
open Go.Proofs.Tryz
open Go.RowKit
theorem yQ (x y c : Nat) (hc : c ≤ 1) (w : World) :
  (callFunc 119 #[.int .u64 (x : Int),.int .u64 (y : Int),.int .u64 (c : Int)]).run prog w =
   .ok (.value (.tuple #[.int .u64 (Gn x y c : Nat),.int .u64 (Gp x y c : Nat)])) w:=by
 rw [run_callFunc_extern func119 (by kernel_rfl) (by kernel_rfl) (by kernel_rfl) (e:=add64Entry) (by kernel_rfl),run_add64 x y c (by omega) (by omega) (by omega) (by omega)];simp only [Result.andThen];unfold Gn Gp;congr 5 <;> omega
theorem Dn (x y : Nat) (w : World) :
  (callFunc 119 #[.int .u64 (x : Int),.int .u64 (y : Int),.int .u64 0]).run prog w =
   .ok (.value (.tuple #[.int .u64 (Gn x y 0 : Nat),.int .u64 (Gp x y 0 : Nat)])) w:=yQ x y 0 (by omega) w
def Wh : Array Value → Sem Value:=fun args => do
 let (x,y,b) ← Extern.MathBitsCarry.three "Sub64" args
 pure (Extern.MathBitsCarry.pair ((x + Extern.MathBitsCarry.m64 - y - b) % Extern.MathBitsCarry.m64) (if x < y + b then 1 else 0))
theorem Bw {P : Program} (x y b : Nat) (hb : b ≤ 1) (w : World) :
  (Wh #[.int .u64 x,.int .u64 y,.int .u64 b]).run P w = .ok (.tuple #[.int .u64 (Be x y b : Nat),.int .u64 (Bf x y b : Nat)]) w:=by
 have : b = 0 ∨ b = 1:=by omega
 rcases this with rfl | rfl <;> rfl
theorem KQ (x y c : Nat) (hc : c ≤ 1) (w : World) :
  (callFunc 123 #[.int .u64 (x : Int),.int .u64 (y : Int),.int .u64 (c : Int)]).run prog w =
   .ok (.value (.tuple #[.int .u64 (Be x y c : Nat),.int .u64 (Bf x y c : Nat)])) w:=by
 rw [run_callFunc_extern func123 (by kernel_rfl) (by kernel_rfl) (by kernel_rfl) (e:=Wh) (by kernel_rfl),Bw x y c hc];rfl
theorem Dl (x y : Nat) (w : World) :
  (callFunc 123 #[.int .u64 (x : Int),.int .u64 (y : Int),.int .u64 0]).run prog w =
   .ok (.value (.tuple #[.int .u64 (Be x y 0 : Nat),.int .u64 (Bf x y 0 : Nat)])) w:=KQ x y 0 (by omega) w
theorem pM {x y c : Nat} (hx : x < 18446744073709551616) (hy : y < 18446744073709551616) (hc : c ≤ 1) : ∃ d b : Nat,(∀ w,(callFunc 119 #[.int .u64 (x : Int),.int .u64 (y : Int),.int .u64 (c : Int)]).run prog w =
   .ok (.value (.tuple #[.int .u64 (d : Int),.int .u64 (b : Int)])) w) ∧ d < 18446744073709551616 ∧ b ≤ 1 ∧ Hid (d + 18446744073709551616 * b = x + y + c) :=
 ⟨_,_,yQ x y c hc,RY _ _ _,RZ hx hy hc,aEi x y c⟩
theorem pL {x y : Nat} (hx : x < 18446744073709551616) (hy : y < 18446744073709551616) : ∃ d b : Nat,(∀ w,(callFunc 119 #[.int .u64 (x : Int),.int .u64 (y : Int),.int .u64 0]).run prog w =
   .ok (.value (.tuple #[.int .u64 (d : Int),.int .u64 (b : Int)])) w) ∧ d < 18446744073709551616 ∧ b ≤ 1 ∧ Hid (d + 18446744073709551616 * b = x + y) :=
 ⟨_,_,Dn x y,RY _ _ _,RZ hx hy (Nat.zero_le _),aEi x y 0⟩
theorem pK {x y c : Nat} (hx : x < 18446744073709551616) (hy : y < 18446744073709551616) (hc : c ≤ 1) : ∃ d b : Nat,(∀ w,(callFunc 123 #[.int .u64 (x : Int),.int .u64 (y : Int),.int .u64 (c : Int)]).run prog w =
   .ok (.value (.tuple #[.int .u64 (d : Int),.int .u64 (b : Int)])) w) ∧ d < 18446744073709551616 ∧ b ≤ 1 ∧ Hid (d + y + c = x + 18446744073709551616 * b) :=
 ⟨_,_,KQ x y c hc,Ih _ _ _,Ii _ _ _,aJF hx hy hc⟩
theorem MK {x y : Nat} (hx : x < 18446744073709551616) (hy : y < 18446744073709551616) : ∃ d b : Nat,(∀ w,(callFunc 123 #[.int .u64 (x : Int),.int .u64 (y : Int),.int .u64 0]).run prog w =
   .ok (.value (.tuple #[.int .u64 (d : Int),.int .u64 (b : Int)])) w) ∧ d < 18446744073709551616 ∧ b ≤ 1 ∧ Hid (d + y = x + 18446744073709551616 * b) :=
 ⟨_,_,Dl x y,Ih _ _ _,Ii _ _ _,aJF hx hy (Nat.zero_le _)⟩
def aJt (A B : Nat) (w : World) (e : Ending) (w' : World) : Prop :=
 ∃ s0 s1 s2 s3 c : Nat,e = .returned (.tuple #[.agg #[.int .u64 s0,.int .u64 s1,.int .u64 s2,.int .u64 s3],.int .u64 c]) ∧ cQ s0 s1 s2 s3 ∧ c ≤ 1 ∧ aF s0 s1 s2 s3 + 115792089237316195423570985008687907853269984665640564039457584007913129639936 * c = A + B ∧ Below w.heap.size w w'
def aJo (A B : Nat) (w : World) (e : Ending) (w' : World) : Prop :=
 ∃ s0 s1 s2 s3 c : Nat,e = .returned (.tuple #[.agg #[.int .u64 s0,.int .u64 s1,.int .u64 s2,.int .u64 s3],.int .u64 c]) ∧ cQ s0 s1 s2 s3 ∧ c ≤ 1 ∧ aF s0 s1 s2 s3 + B = A + 115792089237316195423570985008687907853269984665640564039457584007913129639936 * c ∧ Below w.heap.size w w'
theorem AD (a0 a1 a2 a3 b0 b1 b2 b3 : Nat) (ha : cQ a0 a1 a2 a3) (hb : cQ b0 b1 b2 b3) (w : World) :
  Calls prog 166 #[.agg #[.int .u64 a0,.int .u64 a1,.int .u64 a2,.int .u64 a3],.agg #[.int .u64 b0,.int .u64 b1,.int .u64 b2,.int .u64 b3]] w (aJt (aF a0 a1 a2 a3) (aF b0 b1 b2 b3) w):=by
 obtain ⟨s0,c0,r0,bs0,bc0,e0⟩:=pL ha.1 hb.1;obtain ⟨s1,c1,r1,bs1,bc1,e1⟩:=pM ha.2.1 hb.2.1 bc0;obtain ⟨s2,c2,r2,bs2,bc2,e2⟩:=pM ha.2.2.1 hb.2.2.1 bc1;obtain ⟨s3,c3,r3,bs3,bc3,e3⟩:=pM ha.2.2.2 hb.2.2.2 bc2
 go_enter func166,ntmps166
 go_wp2
 refine wp_loop_rounds 5 ?_;rw [rounds_succ]
 go_wp2
 go_region
 go_wp2
 rw [rounds_succ]
 go_wp2
 go_region
 go_wp2
 rw [rounds_succ]
 go_wp2
 go_region
 go_wp2
 rw [rounds_succ]
 go_wp2
 go_region
 go_wp2
 rw [rounds_succ]
 go_wp2
 refine bodyPost_ret (v:=.tuple #[.agg #[.int .u64 s0,.int .u64 s1,.int .u64 s2,.int .u64 s3],.int .u64 c3]) (by simp [results,results166,go_sem]) rfl ?_;refine ⟨_,_,_,_,_,rfl,⟨bs0,bs1,bs2,bs3⟩,bc3,by have:=e0.out; have:=e1.out; have:=e2.out; have:=e3.out; unfold aF; omega,?_⟩
 repeat (first | exact Below.refl _ _ | refine Below.drew ?_ | refine Below.alloc ?_ (by first | (simp; done) | (simp; omega)) _)
theorem sW (a0 a1 a2 a3 b0 b1 b2 b3 : Nat) (ha : cQ a0 a1 a2 a3) (hb : cQ b0 b1 b2 b3) (w : World) :
  Calls prog 203 #[.agg #[.int .u64 a0,.int .u64 a1,.int .u64 a2,.int .u64 a3],.agg #[.int .u64 b0,.int .u64 b1,.int .u64 b2,.int .u64 b3]] w (aJo (aF a0 a1 a2 a3) (aF b0 b1 b2 b3) w):=by
 obtain ⟨s0,c0,r0,bs0,bc0,e0⟩:=MK ha.1 hb.1;obtain ⟨s1,c1,r1,bs1,bc1,e1⟩:=pK ha.2.1 hb.2.1 bc0;obtain ⟨s2,c2,r2,bs2,bc2,e2⟩:=pK ha.2.2.1 hb.2.2.1 bc1;obtain ⟨s3,c3,r3,bs3,bc3,e3⟩:=pK ha.2.2.2 hb.2.2.2 bc2
 go_enter func203,ntmps203
 go_wp2
 refine wp_loop_rounds 5 ?_;rw [rounds_succ]
 go_wp2
 go_region
 go_wp2
 rw [rounds_succ]
 go_wp2
 go_region
 go_wp2
 rw [rounds_succ]
 go_wp2
 go_region
 go_wp2
 rw [rounds_succ]
 go_wp2
 go_region
 go_wp2
 rw [rounds_succ]
 go_wp2
 refine bodyPost_ret (v:=.tuple #[.agg #[.int .u64 s0,.int .u64 s1,.int .u64 s2,.int .u64 s3],.int .u64 c3]) (by simp [results,results203,go_sem]) rfl ?_;refine ⟨_,_,_,_,_,rfl,⟨bs0,bs1,bs2,bs3⟩,bc3,by have:=e0.out; have:=e1.out; have:=e2.out; have:=e3.out; unfold aF; omega,?_⟩
 repeat (first | exact Below.refl _ _ | refine Below.drew ?_ | refine Below.alloc ?_ (by first | (simp; done) | (simp; omega)) _)
theorem IK {W w1 : World} (hb : Below W.heap.size W w1) : (∀ b o,b < W.heap.size → w1.cell? ⟨b,o,none⟩ = W.cell? ⟨b,o,none⟩) ∧ (∀ b o,b < W.heap.size → w1.frozen? ⟨b,o,none⟩ = W.frozen? ⟨b,o,none⟩) :=
 ⟨fun b o h => hb.cell (p:=⟨b,o,none⟩) h,fun b o h => hb.frozen (p:=⟨b,o,none⟩) h⟩
def eqW (a0 a1 a2 a3 b0 b1 b2 b3 : Nat) : Bool:=decide (a0 = b0 ∧ a1 = b1 ∧ a2 = b2 ∧ a3 = b3)
theorem aCP (d : Nat) (a0 a1 a2 a3 b0 b1 b2 b3 : Nat) (w : World) : (Op.equalIn (d + 1 + 1) 24 (.agg #[.int .u64 a0,.int .u64 a1,.int .u64 a2,.int .u64 a3]) (.agg #[.int .u64 b0,.int .u64 b1,.int .u64 b2,.int .u64 b3])).run prog w = .ok (eqW a0 a1 a2 a3 b0 b1 b2 b3) w:=by
 have h0 : ∀ (x y : Int) (w : World),(Op.equalIn (d + 1) 22 (.int .u64 x) (.int .u64 y)).run prog w = .ok (x == y) w:=fun x y w => run_equalIn_int w d 22 .u64 .u64 x y underlying22
 rw [Op.equalIn];simp only [Sem.run_bind,run_underlying underlying24,Result.andThen_ok,Tryz.sizeOf22];simp [Std.Legacy.Range.forIn_eq_forIn_range',Std.Legacy.Range.size,List.range',part,h0,Sem.run_bind,Result.andThen_ok];unfold eqW
 by_cases q0 : a0 = b0 <;> by_cases q1 : a1 = b1 <;> by_cases q2 : a2 = b2 <;> by_cases q3 : a3 = b3 <;> simp [q0,q1,q2,q3] <;> omega
theorem aCS : prog.eqGuardType prog.depth 24 = false:=by kernel_rfl
theorem QV {a0 a1 a2 a3 b0 b1 b2 b3 : Nat} (ha : cQ a0 a1 a2 a3) (hb : cQ b0 b1 b2 b3) : eqW a0 a1 a2 a3 b0 b1 b2 b3 = true ↔ aF a0 a1 a2 a3 = aF b0 b1 b2 b3:=by
 unfold eqW; rw [decide_eq_true_iff];exact ⟨fun ⟨h0,h1,h2,h3⟩ => by rw [h0,h1,h2,h3],TG ha hb⟩
def zY (A B : Nat) : Int:=if A = B then 0 else if A < B then -1 else 1
end Go.Proofs.YtglgakbkdjhojaaGreat
namespace Go.Proofs
open Go.Shelf
def Tryz.lays134_ren : Go.Shelf.Ren:=⟨fun | 134 => 273 | 129 => 262 | n => n,fun | 53 => 22 | 3 => 3 | 4 => 4 | 46 => 139 | 5 => 5 | 9 => 9 | n => n,fun | n => n⟩
theorem Tryz.lays134 : Go.Proofs.Lays.n134 prog Tryz.lays134_ren:={
 mixed:=by kernel_rfl
 f129:=func262.trans (congrArg some (by kernel_rfl))
 f134:=func273.trans (congrArg some (by kernel_rfl))
 t3:=underlying3
 a3:=Tryz.isAgg3
 z3:=Tryz.sizeOf3
 v3:=Tryz.zeroValue3
 t4:=underlying4
 a4:=Tryz.isAgg4
 z4:=Tryz.sizeOf4
 v4:=Tryz.zeroValue4
 t5:=underlying5
 a5:=Tryz.isAgg5
 z5:=Tryz.sizeOf5
 v5:=Tryz.zeroValue5
 t9:=underlying9
 a9:=Tryz.isAgg9
 z9:=Tryz.sizeOf9
 v9:=Tryz.zeroValue9
 t46:=underlying139
 a46:=Tryz.isAgg139
 z46:=Tryz.sizeOf139
 v46:=Tryz.zeroValue139
 t53:=underlying22
 a53:=Tryz.isAgg22
 z53:=Tryz.sizeOf22
 v53:=Tryz.zeroValue22 }
theorem Tryz.bits_LeadingZeros64 (x : Int) (w : World) (h0 : 0 ≤ x) (h1 : x ≤ 18446744073709551615) :
  Calls prog 273 #[.int .u64 x] w fun e w' => e = .returned (.int .i64 (64 - (Lib.bitLen x.toNat : Int))) ∧ w' = w:=Any.bits_LeadingZeros64 Tryz.lays134 x w h0 h1
def Tryz.lays129_ren : Go.Shelf.Ren:=⟨fun | 129 => 262 | n => n,fun | 53 => 22 | 3 => 3 | 4 => 4 | 46 => 139 | 5 => 5 | 9 => 9 | n => n,fun | n => n⟩
theorem Tryz.lays129 : Go.Proofs.Lays.n129 prog Tryz.lays129_ren:={
 mixed:=by kernel_rfl
 f129:=func262.trans (congrArg some (by kernel_rfl))
 t3:=underlying3
 a3:=Tryz.isAgg3
 z3:=Tryz.sizeOf3
 v3:=Tryz.zeroValue3
 t4:=underlying4
 a4:=Tryz.isAgg4
 z4:=Tryz.sizeOf4
 v4:=Tryz.zeroValue4
 t5:=underlying5
 a5:=Tryz.isAgg5
 z5:=Tryz.sizeOf5
 v5:=Tryz.zeroValue5
 t9:=underlying9
 a9:=Tryz.isAgg9
 z9:=Tryz.sizeOf9
 v9:=Tryz.zeroValue9
 t46:=underlying139
 a46:=Tryz.isAgg139
 z46:=Tryz.sizeOf139
 v46:=Tryz.zeroValue139
 t53:=underlying22
 a53:=Tryz.isAgg22
 z53:=Tryz.sizeOf22
 v53:=Tryz.zeroValue22 }
theorem Tryz.bits_Len64 (x : Int) (w : World) (h0 : 0 ≤ x) (h1 : x ≤ 18446744073709551615) :
  Calls prog 262 #[.int .u64 x] w fun e w' => e = .returned (.int .i64 (Lib.bitLen x.toNat)) ∧ w' = w:=Any.bits_Len64 Tryz.lays129 x w h0 h1
def Tryz.lays264_ren : Go.Shelf.Ren:=⟨fun | 264 => 175 | n => n,fun | 53 => 22 | 46 => 139 | n => n,fun | n => n⟩
theorem Tryz.lays264 : Go.Proofs.Lays.n264 prog Tryz.lays264_ren:={
 mixed:=by kernel_rfl
 f264:=func175.trans (congrArg some (by kernel_rfl))
 t46:=underlying139
 a46:=Tryz.isAgg139
 z46:=Tryz.sizeOf139
 v46:=Tryz.zeroValue139
 t53:=underlying22
 a53:=Tryz.isAgg22
 z53:=Tryz.sizeOf22
 v53:=Tryz.zeroValue22 }
open Go.RowKit Go.Lib in
theorem Tryz.bits_Mul64 (x y : Nat) (hx : x < 18446744073709551616) (hy : y < 18446744073709551616) (w : World) :
  Calls prog 175 #[.int .u64 x,.int .u64 y] w fun e w' => e = .returned (.tuple #[.int .u64 ((x * y / 18446744073709551616 : Nat) : Int),.int .u64 ((x * y % 18446744073709551616 : Nat) : Int)]) ∧ w' = w:=Any.bits_Mul64 Tryz.lays264 x y hx hy w
end Go.Proofs
namespace Go.Proofs.YtglgakbkdjhojaaGreat
open Go.Proofs.Tryz
open Go.RowKit
theorem YJ (x y : Nat) (hx : x < 18446744073709551616) (hy : y < 18446744073709551616) (w : World) :
  Calls prog 175 #[.int .u64 x,.int .u64 y] w fun e w' => e = .returned (.tuple #[.int .u64 (aBr x y : Nat),.int .u64 (aBq x y : Nat)]) ∧ w' = w :=
 Tryz.bits_Mul64 x y hx hy w
theorem ZJ {x y : Nat} (hx : x < 18446744073709551616) (hy : y < 18446744073709551616) : ∃ h l : Nat,(∀ w,Calls prog 175 #[.int .u64 x,.int .u64 y] w fun e w' => e = .returned (.tuple #[.int .u64 (h : Nat),.int .u64 (l : Nat)]) ∧ w' = w) ∧ h ≤ 18446744073709551614 ∧ l < 18446744073709551616 ∧ Hid (l + 18446744073709551616 * h = x * y) :=
 ⟨_,_,YJ x y hx hy,aHv hx hy,aHu _ _,aTI x y⟩
def aRc (A y : Nat) (w : World) (e : Ending) (w' : World) : Prop :=
 ∃ s0 s1 s2 s3 o : Nat,e = .returned (.tuple #[.int .u64 o,.agg #[.int .u64 s0,.int .u64 s1,.int .u64 s2,.int .u64 s3]]) ∧ cQ s0 s1 s2 s3 ∧ o < 18446744073709551616 ∧ aF s0 s1 s2 s3 + 115792089237316195423570985008687907853269984665640564039457584007913129639936 * o = A * y ∧ Below w.heap.size w w'
theorem Ml {x y o : Nat} (hx : x < 18446744073709551616) (hy : y < 18446744073709551616) (ho : o < 18446744073709551616) : ∃ h l d b p : Nat,(∀ w,Calls prog 175 #[.int .u64 x,.int .u64 y] w fun e w' => e = .returned (.tuple #[.int .u64 (h : Nat),.int .u64 (l : Nat)]) ∧ w' = w) ∧
  (∀ w,(callFunc 119 #[.int .u64 (l : Int),.int .u64 (o : Int),.int .u64 0]).run prog w = .ok (.value (.tuple #[.int .u64 (d : Int),.int .u64 (b : Int)])) w) ∧ h ≤ 18446744073709551614 ∧ b ≤ 1 ∧ d < 18446744073709551616 ∧ p < 18446744073709551616 ∧ ((h : Int) + (b : Int) = (p : Int)) ∧ Hid (d + 18446744073709551616 * p = x * y + o):=by
 obtain ⟨h,l,r,hh,hl,e⟩:=ZJ hx hy;obtain ⟨d,b,r',hd,hb,e'⟩:=pL hl ho;exact ⟨h,l,d,b,h + b,r,r',hh,hb,hd,by omega,by omega,Lib.hid (by have:=e.out; have:=e'.out; omega)⟩
theorem aPt {x y : Nat} (hx : x < 18446744073709551616) (hy : y < 18446744073709551616) : ∃ h l d b p : Nat,(∀ w,Calls prog 175 #[.int .u64 x,.int .u64 y] w fun e w' => e = .returned (.tuple #[.int .u64 (h : Nat),.int .u64 (l : Nat)]) ∧ w' = w) ∧
  (∀ w,(callFunc 119 #[.int .u64 (l : Int),.int .u64 0,.int .u64 0]).run prog w = .ok (.value (.tuple #[.int .u64 (d : Int),.int .u64 (b : Int)])) w) ∧ h ≤ 18446744073709551614 ∧ b ≤ 1 ∧ d < 18446744073709551616 ∧ p < 18446744073709551616 ∧ ((h : Int) + (b : Int) = (p : Int)) ∧ Hid (d + 18446744073709551616 * p = x * y):=by
 obtain ⟨h,l,d,b,p,r,r',hh,hb,hd,hp,q,e⟩:=Ml hx hy (by omega : 0 < 18446744073709551616);exact ⟨h,l,d,b,p,r,r',hh,hb,hd,hp,q,e⟩
theorem TM (a0 a1 a2 a3 y : Nat) (ha : cQ a0 a1 a2 a3) (hy : y < 18446744073709551616) (w : World) :
  Calls prog 271 #[.agg #[.int .u64 a0,.int .u64 a1,.int .u64 a2,.int .u64 a3],.int .u64 y] w (aRc (aF a0 a1 a2 a3) y w):=by
 obtain ⟨h0,l0,d0,b0,o0,m0,r0,bh0,bb0,bd0,bo0,q0,e0⟩:=aPt ha.1 hy;obtain ⟨h1,l1,d1,b1,o1,m1,r1,bh1,bb1,bd1,bo1,q1,e1⟩:=Ml ha.2.1 hy bo0;obtain ⟨h2,l2,d2,b2,o2,m2,r2,bh2,bb2,bd2,bo2,q2,e2⟩:=Ml ha.2.2.1 hy bo1;obtain ⟨h3,l3,d3,b3,o3,m3,r3,bh3,bb3,bd3,bo3,q3,e3⟩:=Ml ha.2.2.2 hy bo2;have HF : Hid (aF d0 d1 d2 d3 + 115792089237316195423570985008687907853269984665640564039457584007913129639936 * o3 = aF a0 a1 a2 a3 * y):=Lib.hid (by
  have:=e0.out; have:=e1.out; have:=e2.out; have:=e3.out;unfold aF; simp only [Nat.add_mul,Nat.mul_assoc]; omega)
 clear e0 e1 e2 e3
 go_enter func271,ntmps271
 go_wp2_with fail;refine wp_loop_rounds 5 ?_;rw [rounds_succ];go_wp2_with fail;refine (m0 _).mono ?_
 rintro e w' ⟨rfl,rfl⟩
 go_wp2_with fail;rw [rounds_succ];go_wp2_with fail;refine (m1 _).mono ?_
 rintro e w' ⟨rfl,rfl⟩
 go_wp2_with fail;rw [rounds_succ];go_wp2_with fail;refine (m2 _).mono ?_
 rintro e w' ⟨rfl,rfl⟩
 go_wp2_with fail;rw [rounds_succ];go_wp2_with fail;refine (m3 _).mono ?_
 rintro e w' ⟨rfl,rfl⟩
 go_wp2_with fail;rw [rounds_succ];go_wp2_with fail
 go_region
 all_goals (
  go_wp2
  refine bodyPost_ret (v:=.tuple #[.int .u64 o3,.agg #[.int .u64 d0,.int .u64 d1,.int .u64 d2,.int .u64 d3]]) (by simp [results,results271,go_sem]) rfl ?_;refine ⟨_,_,_,_,_,rfl,⟨bd0,bd1,bd2,bd3⟩,bo3,HF.out,?_⟩
  repeat (first | exact Below.refl _ _ | refine Below.drew ?_ | refine Below.alloc ?_ (by first | (simp; done) | (simp; omega)) _))
theorem KH (x : Nat) (h : x < 18446744073709551616) : IntKind.u64.wrap (x : Int) = (x : Int):=by rw [IntKind.wrap_u64]; omega
theorem pT (x : Nat) : IntKind.u64.wrap (x : Int) = ((x % 18446744073709551616 : Nat) : Int):=by rw [IntKind.wrap_u64]; omega
theorem jM (x S : Nat) : (x : Int) * 2 ^ S = ((x * 2 ^ S : Nat) : Int):=by rw [Int.natCast_mul,Int.natCast_pow]; rfl
theorem yZ (S : Nat) (h : S ≤ 63) : 2 ^ (64 - S) * 2 ^ S = 18446744073709551616:=by
 rw [← Nat.pow_add,show 64 - S + S = 64 by omega]
theorem aDb {hi lo y S : Nat} (h2 : hi < y) (hl : lo < 18446744073709551616) (hS : S ≤ 63) (hY : y * 2 ^ S < 18446744073709551616) :
  ∃ u L : Nat,bits .or .u64 (IntKind.u64.wrap ((hi : Int) * 2 ^ S)) ((lo : Int) / 2 ^ (64 - S)) = (u : Int) ∧ IntKind.u64.wrap ((lo : Int) * 2 ^ S) = (L : Int) ∧ u < y * 2 ^ S ∧ L < 18446744073709551616 ∧ u * 18446744073709551616 + L = (hi * 18446744073709551616 + lo) * 2 ^ S:=by
 have hp : 0 < 2 ^ S:=Nat.two_pow_pos S;have hps:=yZ S hS;have hb : lo / 2 ^ (64 - S) < 2 ^ S:=by
  rw [Nat.div_lt_iff_lt_mul (Nat.two_pow_pos _),Nat.mul_comm,hps]; exact hl
 have hhi : hi * 2 ^ S + 2 ^ S ≤ y * 2 ^ S:=by
  have:=Nat.mul_le_mul_right (2 ^ S) (show hi + 1 ≤ y by omega);rw [Nat.add_mul] at this; omega
 have hd : lo * 2 ^ S / 18446744073709551616 = lo / 2 ^ (64 - S):=by
  rw [← hps]; exact Nat.mul_div_mul_right _ _ hp
 refine ⟨hi * 2 ^ S + lo / 2 ^ (64 - S),lo * 2 ^ S % 18446744073709551616,?_,?_,?_,by omega,?_⟩
 ·rw [jM,KH _ (by omega),show ((lo : Int) / 2 ^ (64 - S)) = ((lo / 2 ^ (64 - S) : Nat) : Int) by rw [Int.natCast_ediv,Int.natCast_pow]; rfl,
   bits_or_u64_nat _ _ (by omega) (by omega),Nat.mul_comm hi,Nat.two_pow_add_eq_or_of_lt hb]
 ·rw [jM,pT]
 ·omega
 ·rw [Nat.add_mul,← hd];have e : (hi * 18446744073709551616 + lo) * 2 ^ S = hi * 2 ^ S * 18446744073709551616 + lo * 2 ^ S:=by
   rw [Nat.add_mul,Nat.mul_right_comm]
  rw [e]; omega
theorem Mr {Y : Nat} (h : Y < 18446744073709551616) : ∃ a b : Nat,(Y : Int) / 4294967296 = (a : Int) ∧ bits .and .u64 (Y : Int) 4294967295 = (b : Int) ∧ a < 4294967296 ∧ b < 4294967296 ∧ Y = a * 4294967296 + b:=by
 refine ⟨Y / 4294967296,Y % 4294967296,by omega,?_,by omega,by omega,by omega⟩;have h':=bits_and_u64_nat Y 4294967295 h (by omega);rw [show Y &&& 4294967295 = Y % 4294967296 from Nat.and_two_pow_sub_one_eq_mod Y 32] at h';exact h'
theorem aYa (u y1 : Nat) (h : 0 < y1) : ∃ q r : Nat,(u : Int) / (y1 : Int) = (q : Int) ∧ (u : Int) - (q : Int) * (y1 : Int) = (r : Int) ∧ q * y1 + r = u ∧ r < y1:=by
 have e:=Nat.div_add_mod u y1;rw [Nat.mul_comm] at e;refine ⟨u / y1,u % y1,(Int.natCast_ediv u y1).symm,?_,e,Nat.mod_lt _ h⟩;rw [← Int.natCast_mul]; omega
def KI (y1 y0 u u1 q r : Nat) : Prop:=q * y1 + r = u ∧ (u * 4294967296 + u1) / (y1 * 4294967296 + y0) ≤ q ∧ q ≤ 4294967297 ∧ r < 4294967296
structure KS (y1 y0 u u1 : Nat) : Prop where
 a1 : y1 < 4294967296
 a2 : 2147483648 ≤ y1
 a3 : y0 < 4294967296
 a4 : u < y1 * 4294967296 + y0
 a5 : u1 < 4294967296
section
variable {y1 y0 u u1 q r : Nat}
theorem QC (q y1 y0 : Nat) : q * (y1 * 4294967296 + y0) = q * y1 * 4294967296 + q * y0:=by rw [Nat.mul_add,Nat.mul_assoc]
theorem aBM (s : KS y1 y0 u u1) : 0 < y1 * 4294967296 + y0:=by have:=s.a2; omega
theorem aBN (s : KS y1 y0 u u1) (e : q * y1 + r = u) (h : r < y1) : KI y1 y0 u u1 q r:=by
 obtain ⟨b1,b2,b3,b4,b5⟩:=s;refine ⟨e,?_,?_,by omega⟩
 ·rw [← Nat.lt_succ_iff,Nat.div_lt_iff_lt_mul (by omega),QC];have : (q + 1) * y1 = q * y1 + y1:=by rw [Nat.add_mul,Nat.one_mul]
  rw [Nat.succ_eq_add_one,this]; omega
 ·rcases Nat.lt_or_ge q 4294967298 with h' | h'
  ·omega
  ·have:=Nat.mul_le_mul_right y1 h';omega
theorem aTS (s : KS y1 y0 u u1) : (u * 4294967296 + u1) / (y1 * 4294967296 + y0) < 4294967296:=by
 obtain ⟨b1,b2,b3,b4,b5⟩:=s;rw [Nat.div_lt_iff_lt_mul (by omega)]; omega
theorem aKt (s : KS y1 y0 u u1) (e : q * y1 + r = u) (h : q * y0 ≤ 4294967296 * r + u1) : q ≤ (u * 4294967296 + u1) / (y1 * 4294967296 + y0):=by
 rw [Nat.le_div_iff_mul_le (aBM s),QC]; omega
theorem aOk (s : KS y1 y0 u u1) (k : KI y1 y0 u u1 q r) (h : q * y0 ≤ 4294967296 * r + u1) : q = (u * 4294967296 + u1) / (y1 * 4294967296 + y0) :=
 Nat.le_antisymm (aKt s k.1 h) k.2.1
theorem aTT (s : KS y1 y0 u u1) (k : KI y1 y0 u u1 q r) (h : 4294967296 * r + u1 < q * y0) : (u * 4294967296 + u1) / (y1 * 4294967296 + y0) + 1 ≤ q:=by
 rw [Nat.succ_le_iff,Nat.div_lt_iff_lt_mul (aBM s),QC]; have:=k.1; omega
theorem aOl (s : KS y1 y0 u u1) (h : 4294967296 ≤ q) : (u * 4294967296 + u1) / (y1 * 4294967296 + y0) + 1 ≤ q:=by have:=aTS s; omega
theorem Lf (h : 1 ≤ q) : (q - 1) * y1 + (r + y1) = q * y1 + r:=by
 obtain ⟨p,rfl⟩ : ∃ p,q = p + 1:=⟨q - 1,by omega⟩
 rw [Nat.add_sub_cancel,Nat.add_mul,Nat.one_mul]; omega
theorem Lg (k : KI y1 y0 u u1 q r) (h : (u * 4294967296 + u1) / (y1 * 4294967296 + y0) + 1 ≤ q) (h' : r + y1 < 4294967296) : KI y1 y0 u u1 (q - 1) (r + y1) :=
 ⟨by rw [Lf (Nat.le_trans (Nat.le_add_left 1 _) h)]; exact k.1,Nat.le_sub_one_of_lt h,by have:=k.2.2.1; omega,h'⟩
theorem YR (s : KS y1 y0 u u1) (k : KI y1 y0 u u1 q r) (h : (u * 4294967296 + u1) / (y1 * 4294967296 + y0) + 1 ≤ q) (h' : 4294967296 ≤ r + y1) : q - 1 = (u * 4294967296 + u1) / (y1 * 4294967296 + y0):=by
 have e:=Lf (y1:=y1) (r:=r) (Nat.le_trans (Nat.le_add_left 1 _) h);refine Nat.le_antisymm (aKt s (e.trans k.1) ?_) (Nat.le_sub_one_of_lt h);have:=zG (show q - 1 ≤ 4294967296 by have:=k.2.2.1; omega) (show y0 ≤ 4294967295 by have:=s.a3; omega);omega
end
theorem aIB {Y u u1 : Nat} (hY : Y < 18446744073709551616) (hp : 0 < Y) :
  ∃ m : Nat,IntKind.u64.wrap (IntKind.u64.wrap (IntKind.u64.wrap ((u : Int) * 4294967296) + (u1 : Int)) - IntKind.u64.wrap (((u * 4294967296 + u1) / Y : Nat) * (Y : Int))) = (m : Int) ∧ m < Y ∧ (u * 4294967296 + u1) / Y * Y + m = u * 4294967296 + u1:=by
 have e:=Nat.div_add_mod (u * 4294967296 + u1) Y;have hm:=Nat.mod_lt (u * 4294967296 + u1) hp;rw [Nat.mul_comm] at e;refine ⟨(u * 4294967296 + u1) % Y,?_,hm,e⟩;rw [← Int.natCast_mul];generalize (u * 4294967296 + u1) / Y * Y = P at *;generalize (u * 4294967296 + u1) % Y = m at *;simp only [IntKind.wrap_u64];omega
theorem aIC {U Y y S V Q1 Q0 u L m R u1 u0 : Nat} (hy : Y = y * 2 ^ S) (hU : U = V * 2 ^ S) (e : u * 18446744073709551616 + L = U) (eL : L = u1 * 4294967296 + u0)
  (e1 : Q1 * Y + m = u * 4294967296 + u1) (e0 : Q0 * Y + R = m * 4294967296 + u0) (hR : R < Y) : Q1 * 4294967296 + Q0 = V / y ∧ R / 2 ^ S = V % y:=by
 have hp : 0 < 2 ^ S:=Nat.two_pow_pos S;have hYp : 0 < Y:=by omega
 have hYU : U = (Q1 * 4294967296 + Q0) * Y + R:=by
  have : (Q1 * 4294967296 + Q0) * Y = Q1 * Y * 4294967296 + Q0 * Y:=by rw [Nat.add_mul,Nat.mul_right_comm]
  rw [this]; omega
 have hq : U / Y = Q1 * 4294967296 + Q0:=by
  rw [hYU,Nat.mul_comm,Nat.mul_add_div hYp,Nat.div_eq_of_lt hR,Nat.add_zero]
 have hr : U % Y = R:=by
  rw [hYU,Nat.mul_comm,Nat.mul_add_mod,Nat.mod_eq_of_lt hR]
 constructor
 ·rw [← hq,hU,hy,Nat.mul_div_mul_right _ _ hp]
 ·rw [← hr,hU,hy,Nat.mul_mod_mul_right,Nat.mul_div_cancel _ hp]
end Go.Proofs.YtglgakbkdjhojaaGreat
