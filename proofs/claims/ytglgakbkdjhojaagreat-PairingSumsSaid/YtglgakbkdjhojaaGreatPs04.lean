/- Ps04 -/
import Derived.KernelRfl
import Derived.WalkKit
import Derived.WalkLawsBesides
import Derived.WalkSpells
import Derived.ProofKit
import Derived.RegionTactic
import Derived.BigRegion
import Derived.BigQuiet
import Derived.Deep.QuietTactic
import Derived.ChangeAlike
import Derived.Laws.Externs
import Derived.LoopN
import Derived.Below
import Derived.Lib.Hide
import Derived.Shelf.Small.Bits
import Derived.Shelf.Strconv.Itoa0
import Derived.Shelf.Bits.Mul64
import Derived.StillTailTactics
import Derived.Laws.Bits64b
import Derived.Laws.Bits64
import Derived.Test.YtglgakbkdjhojaaGreatPs03
import Derived.Test.YtglgakbkdjhojaaGreatPs02
import Derived.Test.YtglgakbkdjhojaaGreatPs00
import Derived.Test.YtglgakbkdjhojaaGreatProg
set_option maxRecDepth 100000
set_option linter.unusedVariables false
set_option linter.unusedSimpArgs false
noncomputable section
namespace Go.Proofs.YtglgakbkdjhojaaGreat.Ex
open Go.Proofs.Tryz
open Go.RowKit
def bZ (x : aM) : aM:=(x.1,F6.sub F6.zero x.2)
def n12 (x : aM) : Q6:=F6.sub (F6.mul x.1 x.1) (F6.mul vE (F6.mul x.2 x.2))
def jW (x : aM) : aM:=(F6.mul x.1 (iv6 (n12 x)),F6.mul (F6.sub F6.zero x.2) (iv6 (n12 x)))
def vF (x : aM) : Fq:=rK (n6 (n12 x))
theorem OR (c : Bool) (x : aM) (y : aM) : bK prog (SO c) qN (fun _ => true) f66 40 [.v (.fl (aN x)),.v (.fl (aN y))] = some ([],.one (.fl (aN ((F6.add (F6.mul x.1 y.1) (F6.mul vE (F6.mul x.2 y.2)),F6.sub (F6.sub (F6.mul (F6.add x.1 x.2) (F6.add y.1 y.2)) (F6.mul x.1 y.1)) (F6.mul x.2 y.2)))))):=by kernel_rfl
theorem PD (x : aM) (y : aM) : aD.mul x y = (F6.add (F6.mul x.1 y.1) (F6.mul vE (F6.mul x.2 y.2)),F6.sub (F6.sub (F6.mul (F6.add x.1 x.2) (F6.add y.1 y.2)) (F6.mul x.1 y.1)) (F6.mul x.2 y.2)):=by
 refine Prod.ext rfl ?_;exact aE F6 (aQ F6 [x.1,x.2,y.1,y.2]) (.add (.mul (.v 0) (.v 3)) (.mul (.v 1) (.v 2))) (.add (.add (.mul (.add (.v 0) (.v 1)) (.add (.v 2) (.v 3))) (.neg (.mul (.v 0) (.v 2)))) (.neg (.mul (.v 1) (.v 3)))) (by decide)
def vU (c : Bool) : Tab:=(SO c).add 66 (g2 pV pV (fun x y => ([],.one (.fl (aN (aD.mul x y))))))
theorem AY (c : Bool) (hB : TabOk prog (oJ c)) : TabOk prog (vU c):=(YE c hB).ad func66 (eV eD eD fun x y hp args w ha => by show Good _ _ (.one (.fl (aN (aD.mul x y)))) _ _; rw [PD x y]; exact aH aG (YE c hB) aL func66 (OR c x y) hp ha)
theorem VI (c : Bool) (x : aM) : bK prog (vU c) qN (fun _ => true) f139 40 [.v (.fl (aN x))] = some ([],.one (.fl (aN (bZ x)))):=by kernel_rfl
def AM (c : Bool) : Tab:=(vU c).add 139 (g1 pV (fun x => ([],.one (.fl (aN (bZ x))))))
theorem FZ (c : Bool) (hB : TabOk prog (oJ c)) : TabOk prog (AM c):=(AY c hB).ad func139 (bJ eD fun x hp args w ha => aH aG (AY c hB) aL func139 (VI c x) hp ha)
theorem Ca (c : Bool) (x : aM) : bK prog (AM c) qN (fun _ => true) f67 40 [.v (.fl (aN x))] = some ([],.one (.fl (aN (x)))):=by kernel_rfl
def IX (c : Bool) : Tab:=(AM c).add 67 (g1 pV (fun x => ([],.one (.fl (aN (x))))))
theorem LL (c : Bool) (hB : TabOk prog (oJ c)) : TabOk prog (IX c):=(FZ c hB).ad func67 (bJ eD fun x hp args w ha => aH aG (FZ c hB) aL func67 (Ca c x) hp ha)
theorem Cl (c : Bool) (x : sS) : bK prog (IX c) qN (fun _ => true) f65 40 [.v (.fl (tC x))] = some ([],.one (.fl (aN (fW x)))):=by kernel_rfl
def JB (c : Bool) : Tab:=(IX c).add 65 (g1 Dt (fun x => ([],.one (.fl (aN (fW x))))))
theorem LQ (c : Bool) (hB : TabOk prog (oJ c)) : TabOk prog (JB c):=(LL c hB).ad func65 (bJ wQ fun x hp args w ha => aH aG (LL c hB) aL func65 (Cl c x) hp ha)
theorem Qr (c : Bool)  : bK prog (JB c) qN (fun _ => true) f122 40 [] = some ([],.one (.fl (aN (aD.one)))):=by kernel_rfl
def DR (c : Bool) : Tab:=(JB c).add 122 (g0 (.one (.fl (aN (aD.one)))))
theorem GB (c : Bool) (hB : TabOk prog (oJ c)) : TabOk prog (DR c):=(LQ c hB).ad func122 (gP fun w => aH aG (LQ c hB) aL func122 (Qr c ) trivial (args:=[]) trivial)
def Fb (c : Bool) (x : aM) : List Prop × RV:=bif c then ([vF x ≠ F1.zero],.many [.fl (aN (jW x)),.im (.int .i64 0)]) else ([vF x = F1.zero],.many [.fl (aN aD.zero),.im (.int .i64 22)])
theorem BY (x : aM) : bK prog (DR true) qN (fun _ => true) f163 40 [.v (.fl (aN x))] = some ([vF x ≠ F1.zero],.many [.fl (aN (jW x)),.im (.int .i64 0)]):=by kernel_rfl
theorem yP (x : aM) : bK prog (DR false) qN (fun _ => true) f163 40 [.v (.fl (aN x))] = some ([vF x = F1.zero],.many [.fl (aN aD.zero),.im (.int .i64 22)]):=by kernel_rfl
theorem Tl (c : Bool) (hB : TabOk prog (oJ c)) (x : aM) (hp : aZ (Fb c x).1) (args : List Value) (w : World) (ha : bR w [.v (.fl (aN x))] args) : Good prog 163 (Fb c x).2 args w:=by
 cases c
 ·exact aH aG (GB false hB) aL func163 (yP x) hp ha
 ·exact aH aG (GB true hB) aL func163 (BY x) hp ha
def IY (c : Bool) : Tab:=(DR c).add 163 (g1 pV (Fb c))
theorem LM (c : Bool) (hB : TabOk prog (oJ c)) : TabOk prog (IY c):=(GB c hB).ad func163 (bJ eD (Tl c hB))
theorem Sh (c : Bool) (x : sS) (y : sS) : bK prog (IY c) qN (fun _ => true) f26 40 [.v (.fl (tC x)),.v (.fl (tC y))] = some ([],.one (.fl (aN (aD.mul (fW x) (fW y))))):=by kernel_rfl
def DU (c : Bool) : Tab:=(IY c).add 26 (g2 Dt Dt (fun x y => ([],.one (.fl (aN (aD.mul (fW x) (fW y)))))))
theorem GG (c : Bool) (hB : TabOk prog (oJ c)) : TabOk prog (DU c):=(LM c hB).ad func26 (eV wQ wQ fun x y hp args w ha => aH aG (LM c hB) aL func26 (Sh c x y) hp ha)
def aBi (c : Bool) (x : sS) : List Prop × RV:=bif c then ([vF (fW x) ≠ F1.zero],.many [.fl (aN (jW (fW x))),.im (.int .i64 0)]) else ([vF (fW x) = F1.zero],.many [.fl (aN aD.zero),.im (.int .i64 22)])
theorem EU (x : sS) : bK prog (DU true) qN (fun _ => true) f109 40 [.v (.fl (tC x))] = some ([vF (fW x) ≠ F1.zero],.many [.fl (aN (jW (fW x))),.im (.int .i64 0)]):=by kernel_rfl
theorem BZ (x : sS) : bK prog (DU false) qN (fun _ => true) f109 40 [.v (.fl (tC x))] = some ([vF (fW x) = F1.zero],.many [.fl (aN aD.zero),.im (.int .i64 22)]):=by kernel_rfl
theorem aBh (c : Bool) (hB : TabOk prog (oJ c)) (x : sS) (hp : aZ (aBi c x).1) (args : List Value) (w : World) (ha : bR w [.v (.fl (tC x))] args) : Good prog 109 (aBi c x).2 args w:=by
 cases c
 ·exact aH aG (GG false hB) aL func109 (BZ x) hp ha
 ·exact aH aG (GG true hB) aL func109 (EU x) hp ha
def TE (c : Bool) : Tab:=(DU c).add 109 (g1 Dt (aBi c))
theorem YP (c : Bool) (hB : TabOk prog (oJ c)) : TabOk prog (TE c):=(GG c hB).ad func109 (bJ wQ (aBh c hB))
theorem Sg (c : Bool)  : bK prog (TE c) qN (fun _ => true) f60 40 [] = some ([],.one (.fl (aN (aD.one)))):=by kernel_rfl
def DT (c : Bool) : Tab:=(TE c).add 60 (g0 (.one (.fl (aN (aD.one)))))
theorem GF (c : Bool) (hB : TabOk prog (oJ c)) : TabOk prog (DT c):=(YP c hB).ad func60 (gP fun w => aH aG (YP c hB) aL func60 (Sg c ) trivial (args:=[]) trivial)
def aBg (c : Bool) (x : N2) : List Prop × RV:=bif c then ([rK (m2 x) ≠ F1.zero],.many [.fl (e2 (dR (m2 x))),.im (.int .i64 0)]) else ([rK (m2 x) = F1.zero],.many [.fl (e2 F2.zero),.im (.int .i64 22)])
theorem KA (x : N2) : bK prog (DT true) qN (fun _ => true) f304 40 [.v (.fl (q2 x))] = some ([rK (m2 x) ≠ F1.zero],.many [.fl (e2 (dR (m2 x))),.im (.int .i64 0)]):=by kernel_rfl
theorem ET (x : N2) : bK prog (DT false) qN (fun _ => true) f304 40 [.v (.fl (q2 x))] = some ([rK (m2 x) = F1.zero],.many [.fl (e2 F2.zero),.im (.int .i64 22)]):=by kernel_rfl
theorem aBf (c : Bool) (hB : TabOk prog (oJ c)) (x : N2) (hp : aZ (aBg c x).1) (args : List Value) (w : World) (ha : bR w [.v (.fl (q2 x))] args) : Good prog 304 (aBg c x).2 args w:=by
 cases c
 ·exact aH aG (GF false hB) aL func304 (ET x) hp ha
 ·exact aH aG (GF true hB) aL func304 (KA x) hp ha
def Hz (c : Bool) : Tab:=(DT c).add 304 (g1 rq2 (aBg c))
theorem Kx (c : Bool) (hB : TabOk prog (oJ c)) : TabOk prog (Hz c):=(GF c hB).ad func304 (bJ rU (aBf c hB))
theorem Yx (c : Bool) (x : N2) (y : N2) : bK prog (Hz c) qN (fun _ => true) f213 40 [.v (.fl (q2 x)),.v (.fl (q2 y))] = some ([],.one (.fl (e2 (F2.mul (m2 x) (m2 y))))):=by kernel_rfl
def Hy (c : Bool) : Tab:=(Hz c).add 213 (g2 rq2 rq2 (fun x y => ([],.one (.fl (e2 (F2.mul (m2 x) (m2 y)))))))
theorem Kw (c : Bool) (hB : TabOk prog (oJ c)) : TabOk prog (Hy c):=(Kx c hB).ad func213 (eV rU rU fun x y hp args w ha => aH aG (Kx c hB) aL func213 (Yx c x y) hp ha)
theorem Yw (c : Bool) (x : N2) : bK prog (Hy c) qN (fun _ => true) f171 40 [.v (.fl (q2 x))] = some ([],.one (.fl (e2 (F2.sub F2.zero (m2 x))))):=by kernel_rfl
def AP (c : Bool) : Tab:=(Hy c).add 171 (g1 rq2 (fun x => ([],.one (.fl (e2 (F2.sub F2.zero (m2 x)))))))
theorem aHx (c : Bool) (hB : TabOk prog (oJ c)) : TabOk prog (AP c):=(Kw c hB).ad func171 (bJ rU fun x hp args w ha => aH aG (Kw c hB) aL func171 (Yw c x) hp ha)
def Gh : Q2:=(fm 1,fm 0)
def ID : Q2:=(fm 8376118865763821496583973867626364092589906065868298776909617916018768340080,fm 16469823323077808223889137241176536799009286646108169935659301613961712198316)
def BM : Q2:=(fm 21575463638280843010398324269430826099269044274347216827212613867836435027261,fm 10307601595873709700152284273816112264069230130616436755625194854815875713954)
def Mr : Q2:=(fm 2821565182194536844548159561693502659359617185244120367078079554186484126554,fm 3505843767911556378687030309984248845540243509899259641013678093033130930403)
def Mq : Q2:=(fm 2581911344467009335267311115468803099551665605076196740867805258568234346338,fm 19937756971775647987995932169929341994314640652964949448313374472400716661030)
def fb5 : Q2:=(fm 685108087231508774477564247770172212460312782337200605669322048753928464687,fm 8447204650696766136447902020341177575205426561248465145919723016860428151883)
def Pl : Fq:=fm 1
def Iv : Fq:=fm 21888242871839275220042445260109153167277707414472061641714758635765020556617
def Pk : Fq:=fm 21888242871839275220042445260109153167277707414472061641714758635765020556616
def Pj : Fq:=fm 21888242871839275222246405745257275088696311157297823662689037894645226208582
def Pi : Fq:=fm 2203960485148121921418603742825762020974279258880205651966
def Ph : Fq:=fm 2203960485148121921418603742825762020974279258880205651967
theorem aQl : Gh = F2.one:=by decide
theorem aMT : F2.mul (aJ Gh) Gh = (Pl,F1.zero):=by decide
theorem aMR : F2.mul (aJ ID) ID = (Iv,F1.zero):=by decide
theorem aMP : F2.mul (aJ BM) BM = (Pk,F1.zero):=by decide
theorem aMN : F2.mul (aJ Mr) Mr = (Pj,F1.zero):=by decide
theorem aML : F2.mul (aJ Mq) Mq = (Pi,F1.zero):=by decide
theorem aMJ : F2.mul (aJ fb5) fb5 = (Ph,F1.zero):=by decide
def cQ (x : aM) : aM:=((F2.mul (aJ x.1.1) Gh,F2.mul (aJ x.1.2.1) BM,F2.mul (aJ x.1.2.2) Mq),(F2.mul (aJ x.2.1) ID,F2.mul (aJ x.2.2.1) Mr,F2.mul (aJ x.2.2.2) fb5))
def cJ (x : aM) : aM:=((pM x.1.1 Pl,pM x.1.2.1 Pk,pM x.1.2.2 Pi),(pM x.2.1 Iv,pM x.2.2.1 Pj,pM x.2.2.2 Ph))
theorem gJ (x y : Q2) : aJ (F2.mul x y) = F2.mul (aJ x) (aJ y):=by
 refine Prod.ext ?_ ?_
 ·exact aE F1 (aQ F1 [x.1,x.2,y.1,y.2]) (.add (.mul (.v 0) (.v 2)) (.mul (.neg .one) (.mul (.v 1) (.v 3)))) (.add (.mul (.v 0) (.v 2)) (.mul (.neg .one) (.mul (.neg (.v 1)) (.neg (.v 3))))) (by decide)
 ·exact aE F1 (aQ F1 [x.1,x.2,y.1,y.2]) (.neg (.add (.mul (.v 0) (.v 3)) (.mul (.v 1) (.v 2)))) (.add (.mul (.v 0) (.neg (.v 3))) (.mul (.neg (.v 1)) (.v 2))) (by decide)
theorem kF (x y : Q2) : aJ (F2.add x y) = F2.add (aJ x) (aJ y):=Prod.ext rfl (F1.neg_add' _ _)
theorem aVT (x : Q2) : aJ (aJ x) = x:=Prod.ext rfl (F1.neg_neg _)
theorem dT (x : Q2) (k : Fq) : pM x k = F2.mul x (k,F1.zero):=by
 refine Prod.ext ?_ ?_
 ·exact aE F1 (aQ F1 [x.1,x.2,k]) (.mul (.v 0) (.v 2)) (.add (.mul (.v 0) (.v 2)) (.mul (.neg .one) (.mul (.v 1) .zero))) (by decide)
 ·exact aE F1 (aQ F1 [x.1,x.2,k]) (.mul (.v 1) (.v 2)) (.add (.mul (.v 0) .zero) (.mul (.v 1) (.v 2))) (by decide)
theorem zD (c t : Q2) (k : Fq) (h : F2.mul (aJ t) t = (k,F1.zero)) : F2.mul (aJ (F2.mul (aJ c) t)) t = pM c k:=by
 rw [gJ,aVT,F2.mul_assoc,h,← dT]
theorem XZ (x : aM) : cQ (cQ x) = cJ x:=by
 refine Prod.ext (Prod.ext (zD _ _ _ aMT) (Prod.ext (zD _ _ _ aMP) (zD _ _ _ aML))) (Prod.ext (zD _ _ _ aMR) (Prod.ext (zD _ _ _ aMN) (zD _ _ _ aMJ)))
theorem KT (c : Q2) (k l m : Fq) : pM (pM (pM c k) l) m = pM c (F1.mul k (F1.mul l m)):=by
 refine Prod.ext ?_ ?_
 ·show F1.mul (F1.mul (F1.mul c.1 k) l) m = F1.mul c.1 (F1.mul k (F1.mul l m)); rw [F1.mul_assoc,F1.mul_assoc]
 ·show F1.mul (F1.mul (F1.mul c.2 k) l) m = F1.mul c.2 (F1.mul k (F1.mul l m)); rw [F1.mul_assoc,F1.mul_assoc]
theorem Br (c : Q2) : pM c F1.one = c:=Prod.ext (F1.mul_one _) (F1.mul_one _)
theorem Bs (c : Q2) : pM c (F1.neg F1.one) = F2.sub F2.zero c:=by
 refine Prod.ext ?_ ?_
 ·show F1.mul c.1 (F1.neg F1.one) = F1.add F1.zero (F1.neg c.1); rw [F1.mul_neg,F1.mul_one,F1.zero_add]
 ·show F1.mul c.2 (F1.neg F1.one) = F1.add F1.zero (F1.neg c.2); rw [F1.mul_neg,F1.mul_one,F1.zero_add]
theorem aMU : F1.mul Pl (F1.mul Pl Pl) = F1.one:=by decide
theorem aMS : F1.mul Iv (F1.mul Iv Iv) = F1.neg F1.one:=by decide
theorem aMQ : F1.mul Pk (F1.mul Pk Pk) = F1.one:=by decide
theorem aMO : F1.mul Pj (F1.mul Pj Pj) = F1.neg F1.one:=by decide
theorem aMM : F1.mul Pi (F1.mul Pi Pi) = F1.one:=by decide
theorem aMK : F1.mul Ph (F1.mul Ph Ph) = F1.neg F1.one:=by decide
theorem wB (x : aM) : cJ (cJ (cJ x)) = bZ x:=by
 refine Prod.ext (Prod.ext ?_ (Prod.ext ?_ ?_)) (Prod.ext ?_ (Prod.ext ?_ ?_))
 ·exact (KT _ _ _ _).trans (by rw [aMU,Br]; rfl)
 ·exact (KT _ _ _ _).trans (by rw [aMQ,Br]; rfl)
 ·exact (KT _ _ _ _).trans (by rw [aMM,Br]; rfl)
 ·exact (KT _ _ _ _).trans (by rw [aMS,Bs]; rfl)
 ·exact (KT _ _ _ _).trans (by rw [aMO,Bs]; rfl)
 ·exact (KT _ _ _ _).trans (by rw [aMK,Bs]; rfl)
def LF (z : Q6) : Q6:=(F2.mul (aJ z.1) Gh,F2.mul (aJ z.2.1) BM,F2.mul (aJ z.2.2) Mq)
theorem aQk : Mq = F2.mul BM BM:=by decide
theorem TP : aJ dC = F2.mul dC (F2.mul BM (F2.mul BM BM)):=by decide
theorem PO (z : Q6) : LF z = (aJ z.1,F2.mul (aJ z.2.1) BM,F2.mul (aJ z.2.2) (F2.mul BM BM)):=by
 unfold LF;rw [aQl,F2.mul_one,aQk]
theorem tG (z y : Q6) : LF (F6.add z y) = F6.add (LF z) (LF y):=by
 refine Prod.ext ?_ (Prod.ext ?_ ?_)
 ·show F2.mul (aJ (F2.add z.1 y.1)) Gh = F2.add _ _; rw [kF,F2.add_mul]; rfl
 ·show F2.mul (aJ (F2.add z.2.1 y.2.1)) BM = F2.add _ _; rw [kF,F2.add_mul]; rfl
 ·show F2.mul (aJ (F2.add z.2.2 y.2.2)) Mq = F2.add _ _; rw [kF,F2.add_mul]; rfl
theorem aHp {R : Type} (K : CR R) (a b c d e f t q : R) : K.add (K.mul a d) (K.mul (K.mul q (K.mul t (K.mul t t))) (K.add (K.mul b f) (K.mul c e))) = K.add (K.mul a d) (K.mul q (K.add (K.mul (K.mul b t) (K.mul f (K.mul t t))) (K.mul (K.mul c (K.mul t t)) (K.mul e t)))) :=
 aE K (aQ K [a,b,c,d,e,f,t,q]) (.add (.mul (.v 0) (.v 3)) (.mul (.mul (.v 7) (.mul (.v 6) (.mul (.v 6) (.v 6)))) (.add (.mul (.v 1) (.v 5)) (.mul (.v 2) (.v 4))))) (.add (.mul (.v 0) (.v 3)) (.mul (.v 7) (.add (.mul (.mul (.v 1) (.v 6)) (.mul (.v 5) (.mul (.v 6) (.v 6)))) (.mul (.mul (.v 2) (.mul (.v 6) (.v 6))) (.mul (.v 4) (.v 6)))))) (by decide)
theorem aHo {R : Type} (K : CR R) (a b c d e f t q : R) : K.mul (K.add (K.add (K.mul a e) (K.mul b d)) (K.mul (K.mul q (K.mul t (K.mul t t))) (K.mul c f))) t = K.add (K.add (K.mul a (K.mul e t)) (K.mul (K.mul b t) d)) (K.mul q (K.mul (K.mul c (K.mul t t)) (K.mul f (K.mul t t)))) :=
 aE K (aQ K [a,b,c,d,e,f,t,q]) (.mul (.add (.add (.mul (.v 0) (.v 4)) (.mul (.v 1) (.v 3))) (.mul (.mul (.v 7) (.mul (.v 6) (.mul (.v 6) (.v 6)))) (.mul (.v 2) (.v 5)))) (.v 6)) (.add (.add (.mul (.v 0) (.mul (.v 4) (.v 6))) (.mul (.mul (.v 1) (.v 6)) (.v 3))) (.mul (.v 7) (.mul (.mul (.v 2) (.mul (.v 6) (.v 6))) (.mul (.v 5) (.mul (.v 6) (.v 6)))))) (by decide)
theorem aHn {R : Type} (K : CR R) (a b c d e f t : R) : K.mul (K.add (K.add (K.mul a f) (K.mul b e)) (K.mul c d)) (K.mul t t) = K.add (K.add (K.mul a (K.mul f (K.mul t t))) (K.mul (K.mul b t) (K.mul e t))) (K.mul (K.mul c (K.mul t t)) d) :=
 aE K (aQ K [a,b,c,d,e,f,t]) (.mul (.add (.add (.mul (.v 0) (.v 5)) (.mul (.v 1) (.v 4))) (.mul (.v 2) (.v 3))) (.mul (.v 6) (.v 6))) (.add (.add (.mul (.v 0) (.mul (.v 5) (.mul (.v 6) (.v 6)))) (.mul (.mul (.v 1) (.v 6)) (.mul (.v 4) (.v 6)))) (.mul (.mul (.v 2) (.mul (.v 6) (.v 6))) (.v 3))) (by decide)
theorem nQ (z y : Q6) : LF (F6.mul z y) = F6.mul (LF z) (LF y):=by
 rw [PO,PO,PO];refine Prod.ext ?_ (Prod.ext ?_ ?_)
 ·show aJ (F2.add (F2.mul z.1 y.1) (F2.mul dC (F2.add (F2.mul z.2.1 y.2.2) (F2.mul z.2.2 y.2.1)))) = _;rw [kF,gJ,gJ,kF,gJ,gJ,TP];exact aHp F2 _ _ _ _ _ _ _ _
 ·show F2.mul (aJ (F2.add (F2.add (F2.mul z.1 y.2.1) (F2.mul z.2.1 y.1)) (F2.mul dC (F2.mul z.2.2 y.2.2)))) BM = _;rw [kF,kF,gJ,gJ,gJ,gJ,TP];exact aHo F2 _ _ _ _ _ _ _ _
 ·show F2.mul (aJ (F2.add (F2.add (F2.mul z.1 y.2.2) (F2.mul z.2.1 y.2.1)) (F2.mul z.2.2 y.1))) (F2.mul BM BM) = _;rw [kF,kF,gJ,gJ,gJ];exact aHn F2 _ _ _ _ _ _ _
def tau : Q6:=(ID,F2.zero,F2.zero)
theorem Lg (z : Q6) (k : Q2) : F6.mul z (k,F2.zero,F2.zero) = s6 z k:=by
 show (F2.add (F2.mul z.1 k) (F2.mul dC (F2.add (F2.mul z.2.1 F2.zero) (F2.mul z.2.2 F2.zero))),F2.add (F2.add (F2.mul z.1 F2.zero) (F2.mul z.2.1 k)) (F2.mul dC (F2.mul z.2.2 F2.zero)),F2.add (F2.add (F2.mul z.1 F2.zero) (F2.mul z.2.1 F2.zero)) (F2.mul z.2.2 k)) = _;simp only [F2.mul_zero,F2.add_zero,F2.zero_add];rfl
theorem aVo : Mr = F2.mul BM ID:=by decide
theorem aVn : fb5 = F2.mul Mq ID:=by decide
theorem aVq : ID = F2.mul Gh ID:=by decide
theorem qA (x : aM) : cQ x = (LF x.1,F6.mul (LF x.2) tau):=by
 refine Prod.ext rfl ?_;rw [show tau = (ID,F2.zero,F2.zero) from rfl,Lg];refine Prod.ext ?_ (Prod.ext ?_ ?_)
 ·show F2.mul (aJ x.2.1) ID = F2.mul (F2.mul (aJ x.2.1) Gh) ID; rw [F2.mul_assoc,← aVq]
 ·show F2.mul (aJ x.2.2.1) Mr = F2.mul (F2.mul (aJ x.2.2.1) BM) ID; rw [F2.mul_assoc,← aVo]
 ·show F2.mul (aJ x.2.2.2) fb5 = F2.mul (F2.mul (aJ x.2.2.2) Mq) ID; rw [F2.mul_assoc,← aVn]
theorem aUl : LF vE = F6.mul vE (F6.mul tau tau):=by decide
theorem Ka {R : Type} (K : CR R) (a b c d v t : R) : K.add (K.mul a c) (K.mul (K.mul v (K.mul t t)) (K.mul b d)) = K.add (K.mul a c) (K.mul v (K.mul (K.mul b t) (K.mul d t))) ∧ K.mul (K.add (K.mul a d) (K.mul b c)) t = K.add (K.mul a (K.mul d t)) (K.mul (K.mul b t) c) :=
 ⟨aE K (aQ K [a,b,c,d,v,t]) (.add (.mul (.v 0) (.v 2)) (.mul (.mul (.v 4) (.mul (.v 5) (.v 5))) (.mul (.v 1) (.v 3)))) (.add (.mul (.v 0) (.v 2)) (.mul (.v 4) (.mul (.mul (.v 1) (.v 5)) (.mul (.v 3) (.v 5))))) (by decide),
  aE K (aQ K [a,b,c,d,t]) (.mul (.add (.mul (.v 0) (.v 3)) (.mul (.v 1) (.v 2))) (.v 4)) (.add (.mul (.v 0) (.mul (.v 3) (.v 4))) (.mul (.mul (.v 1) (.v 4)) (.v 2))) (by decide)⟩
theorem mV (x y : aM) : cQ (aD.mul x y) = aD.mul (cQ x) (cQ y):=by
 rw [qA,qA,qA];refine Prod.ext ?_ ?_
 ·show LF (F6.add (F6.mul x.1 y.1) (F6.mul vE (F6.mul x.2 y.2))) = _;rw [tG,nQ,nQ,nQ,aUl];exact (Ka F6 _ _ _ _ _ _).1
 ·show F6.mul (LF (F6.add (F6.mul x.1 y.2) (F6.mul x.2 y.1))) tau = _;rw [tG,nQ,nQ];exact (Ka F6 _ _ _ _ vE _).2
theorem oL (x y : aM) : cJ (aD.mul x y) = aD.mul (cJ x) (cJ y):=by rw [← XZ,← XZ,← XZ,mV,mV]
theorem IN (x y : aM) : bZ (aD.mul x y) = aD.mul (bZ x) (bZ y):=by simp only [← wB,oL]
end Go.Proofs.YtglgakbkdjhojaaGreat.Ex
namespace Go.Proofs.YtglgakbkdjhojaaGreat
open Go.Proofs.Tryz
theorem aT : dW 2:=aO 2 1 (by decide) (by decide) (by kernel_rfl)
theorem fD : dW 3:=aO 3 1 (by decide) (by decide) (by kernel_rfl)
theorem PH : dW 13:=aO 13 3 (by decide) (by decide) (by kernel_rfl)
theorem aAc : dW 29:=aO 29 5 (by decide) (by decide) (by kernel_rfl)
theorem aNp : dW 67:=aO 67 8 (by decide) (by decide) (by kernel_rfl)
theorem Jm : dW 229:=aO 229 15 (by decide) (by decide) (by kernel_rfl)
theorem aGH : dW 311:=aO 311 17 (by decide) (by decide) (by kernel_rfl)
theorem PG : dW 983:=aO 983 31 (by decide) (by decide) (by kernel_rfl)
theorem LC : dW 11003:=aO 11003 104 (by decide) (by decide) (by kernel_rfl)
theorem PI : dW 11:=aO 11 3 (by decide) (by decide) (by kernel_rfl)
theorem Zz : dW 3691:=aO 3691 60 (by decide) (by decide) (by kernel_rfl)
theorem Zy : dW 4999:=aO 4999 70 (by decide) (by decide) (by kernel_rfl)
theorem EY : Root 405928799 22:=by
 refine bA (l:=[2,11,3691,4999]) (by kernel_rfl) fun q hq => ?_
 simp only [List.mem_cons,List.not_mem_nil,or_false] at hq
 rcases hq with rfl | rfl | rfl | rfl
 ·exact aT
 ·exact PI
 ·exact Zz
 ·exact Zy
theorem uH : dW 405928799:=EY.prm
theorem kL : dW 5:=aO 5 2 (by decide) (by decide) (by kernel_rfl)
theorem FH : dW 7:=aO 7 2 (by decide) (by decide) (by kernel_rfl)
theorem zA : dW 19:=aO 19 4 (by decide) (by decide) (by kernel_rfl)
theorem aNu : dW 37:=aO 37 6 (by decide) (by decide) (by kernel_rfl)
theorem aGJ : dW 233:=aO 233 15 (by decide) (by decide) (by kernel_rfl)
theorem WO : Root 327599 19:=by
 refine bA (l:=[2,19,37,233]) (by kernel_rfl) fun q hq => ?_
 simp only [List.mem_cons,List.not_mem_nil,or_false] at hq
 rcases hq with rfl | rfl | rfl | rfl
 ·exact aT
 ·exact zA
 ·exact aNu
 ·exact aGJ
theorem Ed : dW 327599:=WO.prm
theorem yX : Root 11465965001 3:=by
 refine bA (l:=[2,2,2,5,5,5,5,7,327599]) (by kernel_rfl) fun q hq => ?_
 simp only [List.mem_cons,List.not_mem_nil,or_false] at hq
 rcases hq with rfl | rfl | rfl | rfl | rfl | rfl | rfl | rfl | rfl
 ·exact aT
 ·exact aT
 ·exact aT
 ·exact kL
 ·exact kL
 ·exact kL
 ·exact kL
 ·exact FH
 ·exact Ed
theorem CF : dW 11465965001:=yX.prm
theorem aGI : dW 271:=aO 271 16 (by decide) (by decide) (by kernel_rfl)
theorem OZ : Root 1853641 17:=by
 refine bA (l:=[2,2,2,3,3,5,19,271]) (by kernel_rfl) fun q hq => ?_
 simp only [List.mem_cons,List.not_mem_nil,or_false] at hq
 rcases hq with rfl | rfl | rfl | rfl | rfl | rfl | rfl | rfl
 ·exact aT
 ·exact aT
 ·exact aT
 ·exact fD
 ·exact fD
 ·exact kL
 ·exact zA
 ·exact aGI
theorem XC : dW 1853641:=OZ.prm
theorem aAe : dW 17:=aO 17 4 (by decide) (by decide) (by kernel_rfl)
theorem aGO : dW 109:=aO 109 10 (by decide) (by decide) (by kernel_rfl)
theorem aAg : dW 1231:=aO 1231 35 (by decide) (by decide) (by kernel_rfl)
theorem OY : Root 4562087 5:=by
 refine bA (l:=[2,17,109,1231]) (by kernel_rfl) fun q hq => ?_
 simp only [List.mem_cons,List.not_mem_nil,or_false] at hq
 rcases hq with rfl | rfl | rfl | rfl
 ·exact aT
 ·exact aAe
 ·exact aGO
 ·exact aAg
theorem XB : dW 4562087:=OY.prm
theorem aNo : dW 73:=aO 73 8 (by decide) (by decide) (by kernel_rfl)
theorem aNn : dW 89:=aO 89 9 (by decide) (by decide) (by kernel_rfl)
theorem Tb : dW 13327:=aO 13327 115 (by decide) (by decide) (by kernel_rfl)
theorem EZ : Root 173171039 13:=by
 refine bA (l:=[2,73,89,13327]) (by kernel_rfl) fun q hq => ?_
 simp only [List.mem_cons,List.not_mem_nil,or_false] at hq
 rcases hq with rfl | rfl | rfl | rfl
 ·exact aT
 ·exact aNo
 ·exact aNn
 ·exact Tb
theorem KG : dW 173171039:=EZ.prm
theorem aNt : dW 41:=aO 41 6 (by decide) (by decide) (by kernel_rfl)
theorem aGA : dW 911:=aO 911 30 (by decide) (by decide) (by kernel_rfl)
theorem aAa : dW 3557:=aO 3557 59 (by decide) (by decide) (by kernel_rfl)
theorem CB : Root 1263766531 10:=by
 refine bA (l:=[2,3,5,13,911,3557]) (by kernel_rfl) fun q hq => ?_
 simp only [List.mem_cons,List.not_mem_nil,or_false] at hq
 rcases hq with rfl | rfl | rfl | rfl | rfl | rfl
 ·exact aT
 ·exact fD
 ·exact kL
 ·exact PH
 ·exact aGA
 ·exact aAa
theorem FI : dW 1263766531:=CB.prm
theorem yU : Root 35385462869 2:=by
 refine bA (l:=[2,2,7,1263766531]) (by kernel_rfl) fun q hq => ?_
 simp only [List.mem_cons,List.not_mem_nil,or_false] at hq
 rcases hq with rfl | rfl | rfl | rfl
 ·exact aT
 ·exact aT
 ·exact FH
 ·exact FI
theorem CC : dW 35385462869:=yU.prm
theorem rE : Root 2480874801745591 6:=by
 refine bA (l:=[2,3,3,5,19,41,35385462869]) (by kernel_rfl) fun q hq => ?_
 simp only [List.mem_cons,List.not_mem_nil,or_false] at hq
 rcases hq with rfl | rfl | rfl | rfl | rfl | rfl | rfl
 ·exact aT
 ·exact fD
 ·exact fD
 ·exact kL
 ·exact zA
 ·exact aNt
 ·exact CC
theorem rX : dW 2480874801745591:=rE.prm
theorem eM : Root 13427688667394608761327070753331941386769 17:=by
 refine bA (l:=[2,2,2,2,3,7,11,1853641,4562087,173171039,2480874801745591]) (by kernel_rfl) fun q hq => ?_
 simp only [List.mem_cons,List.not_mem_nil,or_false] at hq
 rcases hq with rfl | rfl | rfl | rfl | rfl | rfl | rfl | rfl | rfl | rfl | rfl
 ·exact aT
 ·exact aT
 ·exact aT
 ·exact aT
 ·exact fD
 ·exact FH
 ·exact PI
 ·exact XC
 ·exact XB
 ·exact KG
 ·exact rX
theorem eW : dW 13427688667394608761327070753331941386769:=eM.prm
theorem Zg : Root 21888242871839275222246405745257275088696311157297823662689037894645226208583 3:=by
 refine bA (l:=[2,3,3,13,29,67,229,311,983,11003,405928799,11465965001,13427688667394608761327070753331941386769]) (by kernel_rfl) fun q hq => ?_
 simp only [List.mem_cons,List.not_mem_nil,or_false] at hq
 rcases hq with rfl | rfl | rfl | rfl | rfl | rfl | rfl | rfl | rfl | rfl | rfl | rfl | rfl
 ·exact aT
 ·exact fD
 ·exact fD
 ·exact PH
 ·exact aAc
 ·exact aNp
 ·exact Jm
 ·exact aGH
 ·exact PG
 ·exact LC
 ·exact uH
 ·exact CF
 ·exact eW
theorem aGF : dW 449:=aO 449 21 (by decide) (by decide) (by kernel_rfl)
theorem WQ : Root 237073 15:=by
 refine bA (l:=[2,2,2,2,3,11,449]) (by kernel_rfl) fun q hq => ?_
 simp only [List.mem_cons,List.not_mem_nil,or_false] at hq
 rcases hq with rfl | rfl | rfl | rfl | rfl | rfl | rfl
 ·exact aT
 ·exact aT
 ·exact aT
 ·exact aT
 ·exact fD
 ·exact PI
 ·exact aGF
theorem Ef : dW 237073:=WQ.prm
theorem Jn : dW 107:=aO 107 10 (by decide) (by decide) (by kernel_rfl)
theorem aGE : dW 661:=aO 661 25 (by decide) (by decide) (by kernel_rfl)
theorem Sy : dW 93001:=aO 93001 304 (by decide) (by decide) (by kernel_rfl)
theorem yW : Root 12048837557 2:=by
 refine bA (l:=[2,2,7,7,661,93001]) (by kernel_rfl) fun q hq => ?_
 simp only [List.mem_cons,List.not_mem_nil,or_false] at hq
 rcases hq with rfl | rfl | rfl | rfl | rfl | rfl
 ·exact aT
 ·exact aT
 ·exact FH
 ·exact FH
 ·exact aGE
 ·exact Sy
theorem CE : dW 12048837557:=yW.prm
theorem uV : Root 5156902474397 2:=by
 refine bA (l:=[2,2,107,12048837557]) (by kernel_rfl) fun q hq => ?_
 simp only [List.mem_cons,List.not_mem_nil,or_false] at hq
 rcases hq with rfl | rfl | rfl | rfl
 ·exact aT
 ·exact aT
 ·exact Jn
 ·exact CE
theorem wY : dW 5156902474397:=uV.prm
theorem rH : Root 1670836401704629 2:=by
 refine bA (l:=[2,2,3,3,3,3,5156902474397]) (by kernel_rfl) fun q hq => ?_
 simp only [List.mem_cons,List.not_mem_nil,or_false] at hq
 rcases hq with rfl | rfl | rfl | rfl | rfl | rfl | rfl
 ·exact aT
 ·exact aT
 ·exact fD
 ·exact fD
 ·exact fD
 ·exact fD
 ·exact wY
theorem rY : dW 1670836401704629:=rH.prm
theorem aGC : dW 823:=aO 823 28 (by decide) (by decide) (by kernel_rfl)
theorem Ta : dW 41927:=aO 41927 204 (by decide) (by decide) (by kernel_rfl)
theorem PB : Root 1593227 2:=by
 refine bA (l:=[2,19,41927]) (by kernel_rfl) fun q hq => ?_
 simp only [List.mem_cons,List.not_mem_nil,or_false] at hq
 rcases hq with rfl | rfl | rfl
 ·exact aT
 ·exact zA
 ·exact Ta
theorem XF : dW 1593227:=PB.prm
theorem Zx : dW 83:=aO 83 9 (by decide) (by decide) (by kernel_rfl)
theorem aGG : dW 379:=aO 379 19 (by decide) (by decide) (by kernel_rfl)
theorem XD : dW 1637:=aO 1637 40 (by decide) (by decide) (by kernel_rfl)
theorem aGB : dW 853:=aO 853 29 (by decide) (by decide) (by kernel_rfl)
theorem EX : Root 639533339 2:=by
 refine bA (l:=[2,229,853,1637]) (by kernel_rfl) fun q hq => ?_
 simp only [List.mem_cons,List.not_mem_nil,or_false] at hq
 rcases hq with rfl | rfl | rfl | rfl
 ·exact aT
 ·exact Jm
 ·exact aGB
 ·exact XD
theorem KF : dW 639533339:=EX.prm
theorem pT : Root 65865678001877903 5:=by
 refine bA (l:=[2,83,379,1637,639533339]) (by kernel_rfl) fun q hq => ?_
 simp only [List.mem_cons,List.not_mem_nil,or_false] at hq
 rcases hq with rfl | rfl | rfl | rfl | rfl
 ·exact aT
 ·exact Zx
 ·exact aGG
 ·exact XD
 ·exact KF
theorem rJ : dW 65865678001877903:=pT.prm
theorem iF : Root 13818364434197438864469338081 3:=by
 refine bA (l:=[2,2,2,2,2,5,823,1593227,65865678001877903]) (by kernel_rfl) fun q hq => ?_
 simp only [List.mem_cons,List.not_mem_nil,or_false] at hq
 rcases hq with rfl | rfl | rfl | rfl | rfl | rfl | rfl | rfl | rfl
 ·exact aT
 ·exact aT
 ·exact aT
 ·exact aT
 ·exact aT
 ·exact kL
 ·exact aGC
 ·exact XF
 ·exact rJ
theorem iU : dW 13818364434197438864469338081:=iF.prm
theorem Zf : Root 21888242871839275222246405745257275088548364400416034343698204186575808495617 5:=by
 refine bA (l:=[2,2,2,2,2,2,2,2,2,2,2,2,2,2,2,2,2,2,2,2,2,2,2,2,2,2,2,2,3,3,13,29,983,11003,237073,405928799,1670836401704629,13818364434197438864469338081]) (by kernel_rfl) fun q hq => ?_
 simp only [List.mem_cons,List.not_mem_nil,or_false] at hq
 rcases hq with rfl | rfl | rfl | rfl | rfl | rfl | rfl | rfl | rfl | rfl | rfl | rfl | rfl | rfl | rfl | rfl | rfl | rfl | rfl | rfl | rfl | rfl | rfl | rfl | rfl | rfl | rfl | rfl | rfl | rfl | rfl | rfl | rfl | rfl | rfl | rfl | rfl | rfl
 ·exact aT
 ·exact aT
 ·exact aT
 ·exact aT
 ·exact aT
 ·exact aT
 ·exact aT
 ·exact aT
 ·exact aT
 ·exact aT
 ·exact aT
 ·exact aT
 ·exact aT
 ·exact aT
 ·exact aT
 ·exact aT
 ·exact aT
 ·exact aT
 ·exact aT
 ·exact aT
 ·exact aT
 ·exact aT
 ·exact aT
 ·exact aT
 ·exact aT
 ·exact aT
 ·exact aT
 ·exact aT
 ·exact fD
 ·exact fD
 ·exact PH
 ·exact aAc
 ·exact PG
 ·exact LC
 ·exact Ef
 ·exact uH
 ·exact rY
 ·exact iU
theorem aJU : dW 21888242871839275222246405745257275088548364400416034343698204186575808495617:=Zf.prm
section
variable {M g : Nat}
theorem aAo (a n : Nat) : (a % M) ^ n % M = a ^ n % M:=(Nat.pow_mod a n M).symm
theorem zH (a b : Nat) : a % M * b % M = a * b % M:=by rw [Nat.mul_mod,Nat.mod_mod,← Nat.mul_mod]
theorem MA (a b : Nat) : a * (b % M) % M = a * b % M:=by rw [Nat.mul_mod,Nat.mod_mod,← Nat.mul_mod]
theorem aCV (hr : Root M g) {a : Nat} (h0 : 0 < a) (h : a < M) : a ^ (M - 1) % M = 1:=by
 obtain ⟨h1,hg,_,hs⟩:=hr;obtain ⟨k,hk,rfl⟩:=hs a h0 h;rw [aAo,← Nat.pow_mul,Nat.mul_comm,rZ h1 hg]
theorem Lx (hr : Root M g) {a : Nat} (h2 : 2 ≤ M) (h0 : 0 < a) (h : a < M) : a * (a ^ (M - 2) % M) % M = 1:=by
 rw [MA,← Nat.pow_succ',show (M - 2).succ = M - 1 by omega,aCV hr h0 h]
theorem aDQ (hr : Root M g) {a b c : Nat} (h2 : 2 ≤ M) (h0 : 0 < a) (h : a < M) (e : a * b % M = a * c % M) : b % M = c % M:=by
 have hi:=Lx hr h2 h0 h;have key : ∀ x,a ^ (M - 2) % M * (a * x % M) % M = x % M:=fun x => by
  rw [MA,← Nat.mul_assoc,Nat.mul_mod,Nat.mul_comm _ a,hi,Nat.one_mul,Nat.mod_mod]
 rw [← key b,e,key c]
theorem Vl (hr : Root M g) {a b : Nat} (h2 : 2 ≤ M) (h0 : 0 < a) (h : a < M) (e : a * b % M = 0) : b % M = 0:=by
 have:=aDQ hr (c:=0) h2 h0 h (by rw [e,Nat.mul_zero,Nat.zero_mod]);rw [this,Nat.zero_mod]
theorem mul_ne (hr : Root M g) {a b : Nat} (h2 : 2 ≤ M) (ha0 : 0 < a) (ha : a < M) (hb0 : 0 < b) (hb : b < M) : 0 < a * b % M:=by
 rcases Nat.eq_zero_or_pos (a * b % M) with h | h
 ·have:=Vl hr h2 ha0 ha h;rw [Nat.mod_eq_of_lt hb] at this; omega
 ·exact h
end
theorem Gg : Root FP.M 3:=by
 rw [show FP.M = 21888242871839275222246405745257275088696311157297823662689037894645226208583 from by decide];exact Zg
end Go.Proofs.YtglgakbkdjhojaaGreat
namespace Go.Proofs.YtglgakbkdjhojaaGreat.Ex
open Go.Proofs.Tryz
def Fld {R : Type} (K : CR R) : Prop:=K.one ≠ K.zero ∧ ∀ x,x ≠ K.zero → ∃ y,K.mul x y = K.one
theorem Fld.zd {R : Type} {K : CR R} (h : Fld K) {a b : R} (e : K.mul a b = K.zero) (ha : a ≠ K.zero) : b = K.zero:=by
 obtain ⟨y,hy⟩:=h.2 a ha;have:=congrArg (K.mul y) e
 rwa [← K.mul_assoc,K.mul_comm y,hy,K.one_mul,K.mul_zero] at this
theorem wJ {R : Type} {K : CR R} (h : Fld K) {a : R} (e : K.mul a a = K.zero) : a = K.zero:=by
 by_cases ha : a = K.zero
 ·exact ha
 ·exact h.zd e ha
theorem Oe : F1.one ≠ F1.zero:=fun h => by have:=congrArg Fin.val h; exact absurd this (by decide)
theorem aVm {x : Fq} (h : x ≠ F1.zero) : 0 < x.1:=by
 rcases Nat.eq_zero_or_pos x.1 with h0 | h0
 ·exact absurd (Fin.ext h0 : x = F1.zero) h
 ·exact h0
theorem xR {x : Fq} (h : x ≠ F1.zero) : F1.mul x (cM x) = F1.one:=by
 apply Fin.ext;show x.1 * (cM x).1 % FP.M = 1;rw [ZM,Nat.one_mul];exact Lx Gg (by decide) (aVm h) x.2
theorem aLa : Fld F1:=⟨Oe,fun x h => ⟨_,xR h⟩⟩
theorem Uf {n : Nat} (h0 : 0 < n) (h : n < FP.M) : n ^ (FP.M - 1) % FP.M = 1:=aCV Gg h0 h
def sB : Nat:=(FP.M - 1) / 3
def FM : Nat:=(FP.M - 1) / 2
theorem UJ : 3 * sB = FP.M - 1:=by decide
theorem QU : 2 * FM = FP.M - 1:=by decide
theorem aDx : 82 ^ sB % FP.M ≠ 1:=by
 rw [← AT FP.M 256 82 sB (by decide)];exact of_decide_eq_true (by kernel_rfl)
theorem aCo : 82 ^ FM % FP.M ≠ 1:=by
 rw [← AT FP.M 256 82 FM (by decide)];exact of_decide_eq_true (by kernel_rfl)
theorem aHF : (FP.M - 1) ^ FM % FP.M ≠ 1:=by
 rw [← AT FP.M 256 (FP.M - 1) FM (by decide)];exact of_decide_eq_true (by kernel_rfl)
theorem aHE (n : Fq) : F1.mul n (F1.mul n n) ≠ fm 82:=fun h => by
 have hv : n.1 ^ 3 % FP.M = 82:=by
  have:=congrArg Fin.val h;have e : n.1 * (n.1 * n.1 % FP.M) % FP.M = 82 % FP.M:=this;rw [Nat.mul_mod_mod,← Nat.mul_assoc,show n.1 * n.1 * n.1 = n.1 ^ 3 by rw [Nat.pow_succ,Nat.pow_two]] at e;rw [e]; decide
 have h0 : 0 < n.1:=by
  rcases Nat.eq_zero_or_pos n.1 with h0 | h0
  ·rw [h0] at hv; exact absurd hv (by decide)
  ·exact h0
 have:=Uf h0 n.2;rw [← UJ,Nat.pow_mul,Nat.pow_mod,hv] at this;exact aDx this
theorem aUx (n : Fq) : F1.mul n n ≠ fm 82:=fun h => by
 have hv : n.1 ^ 2 % FP.M = 82:=by
  have:=congrArg Fin.val h;have e : n.1 * n.1 % FP.M = 82 % FP.M:=this;rw [Nat.pow_two,e]; decide
 have h0 : 0 < n.1:=by
  rcases Nat.eq_zero_or_pos n.1 with h0 | h0
  ·rw [h0] at hv; exact absurd hv (by decide)
  ·exact h0
 have:=Uf h0 n.2;rw [← QU,Nat.pow_mul,Nat.pow_mod,hv] at this;exact aCo this
theorem aOQ (n : Fq) : F1.mul n n ≠ F1.neg F1.one:=fun h => by
 have hv : n.1 ^ 2 % FP.M = FP.M - 1:=by
  have:=congrArg Fin.val h;have e : n.1 * n.1 % FP.M = (0 + FP.M - 1) % FP.M:=this;rw [Nat.pow_two,e]; decide
 have h0 : 0 < n.1:=by
  rcases Nat.eq_zero_or_pos n.1 with h0 | h0
  ·rw [h0] at hv; exact absurd hv (by decide)
  ·exact h0
 have:=Uf h0 n.2;rw [← QU,Nat.pow_mul,Nat.pow_mod,hv] at this;exact aHF this
theorem aDp {R : Type} {K : CR R} (h : Fld K) {a b q : R} (hb : b ≠ K.zero) (e : K.mul a a = K.mul q (K.mul b b)) : ∃ t,K.mul t t = q:=by
 obtain ⟨y,hy⟩:=h.2 b hb;refine ⟨K.mul a y,?_⟩;have h1 : K.mul (K.mul a y) (K.mul a y) = K.mul (K.mul a a) (K.mul y y):=aE K (aQ K [a,y]) (.mul (.mul (.v 0) (.v 1)) (.mul (.v 0) (.v 1))) (.mul (.mul (.v 0) (.v 0)) (.mul (.v 1) (.v 1))) (by decide);have h2 : K.mul (K.mul q (K.mul b b)) (K.mul y y) = K.mul q (K.mul (K.mul b y) (K.mul b y)):=aE K (aQ K [q,b,y]) (.mul (.mul (.v 0) (.mul (.v 1) (.v 1))) (.mul (.v 2) (.v 2))) (.mul (.v 0) (.mul (.mul (.v 1) (.v 2)) (.mul (.v 1) (.v 2)))) (by decide);rw [h1,e,h2,hy,K.mul_one,K.mul_one]
theorem aDq {R : Type} {K : CR R} (h : Fld K) {a b q : R} (hb : b ≠ K.zero) (e : K.mul a (K.mul a a) = K.mul q (K.mul b (K.mul b b))) : ∃ t,K.mul t (K.mul t t) = q:=by
 obtain ⟨y,hy⟩:=h.2 b hb;refine ⟨K.mul a y,?_⟩;have h1 : K.mul (K.mul a y) (K.mul (K.mul a y) (K.mul a y)) = K.mul (K.mul a (K.mul a a)) (K.mul y (K.mul y y)):=aE K (aQ K [a,y]) (.mul (.mul (.v 0) (.v 1)) (.mul (.mul (.v 0) (.v 1)) (.mul (.v 0) (.v 1)))) (.mul (.mul (.v 0) (.mul (.v 0) (.v 0))) (.mul (.v 1) (.mul (.v 1) (.v 1)))) (by decide);have h2 : K.mul (K.mul q (K.mul b (K.mul b b))) (K.mul y (K.mul y y)) = K.mul q (K.mul (K.mul b y) (K.mul (K.mul b y) (K.mul b y))):=aE K (aQ K [q,b,y]) (.mul (.mul (.v 0) (.mul (.v 1) (.mul (.v 1) (.v 1)))) (.mul (.v 2) (.mul (.v 2) (.v 2)))) (.mul (.v 0) (.mul (.mul (.v 1) (.v 2)) (.mul (.mul (.v 1) (.v 2)) (.mul (.v 1) (.v 2))))) (by decide);rw [h1,e,h2,hy,K.mul_one,K.mul_one,K.mul_one]
theorem pB {x : Q2} (h : rK x = F1.zero) : x = F2.zero:=by
 have h1 : F1.mul x.1 x.1 = F1.mul (F1.neg F1.one) (F1.mul x.2 x.2):=by
  rw [F1.neg_mul,F1.one_mul];apply F1.add_cancel (a:=F1.mul x.2 x.2);rw [F1.add_neg,F1.add_comm];exact h
 by_cases hb : x.2 = F1.zero
 ·rw [hb,F1.mul_zero,F1.mul_zero] at h1;exact Prod.ext (wJ aLa h1) hb
 ·obtain ⟨t,ht⟩:=aDp aLa hb h1;exact absurd ht (aOQ t)
theorem TH {x : Q2} (h : rK x ≠ F1.zero) : F2.mul x (dR x) = F2.one:=by
 have hi:=xR h;refine Prod.ext ?_ ?_
 ·show F1.add (F1.mul x.1 (F1.mul x.1 (cM (rK x)))) (F1.mul (F1.neg F1.one) (F1.mul x.2 (F1.mul (F1.neg x.2) (cM (rK x))))) = F1.one;refine Eq.trans ?_ hi;exact aE F1 (aQ F1 [x.1,x.2,cM (rK x)]) (.add (.mul (.v 0) (.mul (.v 0) (.v 2))) (.mul (.neg .one) (.mul (.v 1) (.mul (.neg (.v 1)) (.v 2))))) (.mul (.add (.mul (.v 0) (.v 0)) (.mul (.v 1) (.v 1))) (.v 2)) (by decide)
 ·show F1.add (F1.mul x.1 (F1.mul (F1.neg x.2) (cM (rK x)))) (F1.mul x.2 (F1.mul x.1 (cM (rK x)))) = F1.zero;exact aE F1 (aQ F1 [x.1,x.2,cM (rK x)]) (.add (.mul (.v 0) (.mul (.neg (.v 1)) (.v 2))) (.mul (.v 1) (.mul (.v 0) (.v 2)))) .zero (by decide)
theorem zX : Fld F2:=⟨fun h => Oe (congrArg Prod.fst h),fun x h => ⟨_,TH fun e => h (pB e)⟩⟩
theorem xH (x y : Q2) : rK (F2.mul x y) = F1.mul (rK x) (rK y) :=
 aE F1 (aQ F1 [x.1,x.2,y.1,y.2]) (.add (.mul (.add (.mul (.v 0) (.v 2)) (.mul (.neg .one) (.mul (.v 1) (.v 3)))) (.add (.mul (.v 0) (.v 2)) (.mul (.neg .one) (.mul (.v 1) (.v 3))))) (.mul (.add (.mul (.v 0) (.v 3)) (.mul (.v 1) (.v 2))) (.add (.mul (.v 0) (.v 3)) (.mul (.v 1) (.v 2)))))
  (.mul (.add (.mul (.v 0) (.v 0)) (.mul (.v 1) (.v 1))) (.add (.mul (.v 2) (.v 2)) (.mul (.v 3) (.v 3)))) (by decide)
theorem aKI : rK dC = fm 82:=by decide
theorem Ih (t : Q2) : F2.mul t (F2.mul t t) ≠ dC:=fun h => by
 have:=congrArg rK h;rw [xH,xH,aKI] at this;exact aHE _ this
theorem aSK (t : Q2) : F2.mul t t ≠ dC:=fun h => by
 have:=congrArg rK h;rw [xH,aKI] at this;exact aUx _ this
theorem aJt (x : Q6) (k : Q2) : F6.mul x (s6 (nJ x) k) = (F2.mul (n6 x) k,F2.zero,F2.zero):=by
 refine Prod.ext ?_ (Prod.ext ?_ ?_)
 ·exact aE F2 (aQ F2 [x.1,x.2.1,x.2.2,dC,k])
   (.add (.mul (.v 0) (.mul (.add (.mul (.v 0) (.v 0)) (.neg (.mul (.mul (.v 1) (.v 2)) (.v 3)))) (.v 4))) (.mul (.v 3) (.add (.mul (.v 1) (.mul (.add (.mul (.v 1) (.v 1)) (.neg (.mul (.v 0) (.v 2)))) (.v 4))) (.mul (.v 2) (.mul (.add (.mul (.mul (.v 2) (.v 2)) (.v 3)) (.neg (.mul (.v 0) (.v 1)))) (.v 4))))))
   (.mul (.add (.mul (.v 0) (.add (.mul (.v 0) (.v 0)) (.neg (.mul (.mul (.v 1) (.v 2)) (.v 3))))) (.mul (.v 3) (.add (.mul (.v 1) (.add (.mul (.v 1) (.v 1)) (.neg (.mul (.v 0) (.v 2))))) (.mul (.v 2) (.add (.mul (.mul (.v 2) (.v 2)) (.v 3)) (.neg (.mul (.v 0) (.v 1)))))))) (.v 4)) (by decide)
 ·exact aE F2 (aQ F2 [x.1,x.2.1,x.2.2,dC,k])
   (.add (.add (.mul (.v 0) (.mul (.add (.mul (.mul (.v 2) (.v 2)) (.v 3)) (.neg (.mul (.v 0) (.v 1)))) (.v 4))) (.mul (.v 1) (.mul (.add (.mul (.v 0) (.v 0)) (.neg (.mul (.mul (.v 1) (.v 2)) (.v 3)))) (.v 4)))) (.mul (.v 3) (.mul (.v 2) (.mul (.add (.mul (.v 1) (.v 1)) (.neg (.mul (.v 0) (.v 2)))) (.v 4))))) .zero (by decide)
 ·exact aE F2 (aQ F2 [x.1,x.2.1,x.2.2,dC,k])
   (.add (.add (.mul (.v 0) (.mul (.add (.mul (.v 1) (.v 1)) (.neg (.mul (.v 0) (.v 2)))) (.v 4))) (.mul (.v 1) (.mul (.add (.mul (.mul (.v 2) (.v 2)) (.v 3)) (.neg (.mul (.v 0) (.v 1)))) (.v 4)))) (.mul (.v 2) (.mul (.add (.mul (.v 0) (.v 0)) (.neg (.mul (.mul (.v 1) (.v 2)) (.v 3)))) (.v 4)))) .zero (by decide)
theorem GK {R : Type} {K : CR R} {a b : R} (h : K.add a (K.neg b) = K.zero) : a = b:=by
 have h2 : K.add (K.add a (K.neg b)) b = K.add K.zero b:=congrArg (fun x => K.add x b) h
 rwa [K.add_assoc,K.neg_add,K.add_zero,K.zero_add] at h2
theorem Lf {x : Q6} (h : n6 x = F2.zero) : x = F6.zero:=by
 have hA : F2.mul (nJ x).2.1 (F2.mul (nJ x).2.1 (nJ x).2.1) = F2.mul dC (F2.mul (nJ x).2.2 (F2.mul (nJ x).2.2 (nJ x).2.2)):=by
  apply GK;have e : F2.add (F2.mul (nJ x).2.1 (F2.mul (nJ x).2.1 (nJ x).2.1)) (F2.neg (F2.mul dC (F2.mul (nJ x).2.2 (F2.mul (nJ x).2.2 (nJ x).2.2)))) = F2.mul (n6 x) (F2.add (F2.mul dC (F2.mul x.2.2 (F2.mul x.2.2 x.2.2))) (F2.neg (F2.mul x.2.1 (F2.mul x.2.1 x.2.1)))) :=
   aE F2 (aQ F2 [x.1,x.2.1,x.2.2,dC])
    (.add (.mul (.add (.mul (.mul (.v 2) (.v 2)) (.v 3)) (.neg (.mul (.v 0) (.v 1)))) (.mul (.add (.mul (.mul (.v 2) (.v 2)) (.v 3)) (.neg (.mul (.v 0) (.v 1)))) (.add (.mul (.mul (.v 2) (.v 2)) (.v 3)) (.neg (.mul (.v 0) (.v 1)))))) (.neg (.mul (.v 3) (.mul (.add (.mul (.v 1) (.v 1)) (.neg (.mul (.v 0) (.v 2)))) (.mul (.add (.mul (.v 1) (.v 1)) (.neg (.mul (.v 0) (.v 2)))) (.add (.mul (.v 1) (.v 1)) (.neg (.mul (.v 0) (.v 2)))))))))
    (.mul (.add (.mul (.v 0) (.add (.mul (.v 0) (.v 0)) (.neg (.mul (.mul (.v 1) (.v 2)) (.v 3))))) (.mul (.v 3) (.add (.mul (.v 1) (.add (.mul (.v 1) (.v 1)) (.neg (.mul (.v 0) (.v 2))))) (.mul (.v 2) (.add (.mul (.mul (.v 2) (.v 2)) (.v 3)) (.neg (.mul (.v 0) (.v 1)))))))) (.add (.mul (.v 3) (.mul (.v 2) (.mul (.v 2) (.v 2)))) (.neg (.mul (.v 1) (.mul (.v 1) (.v 1)))))) (by decide)
  rw [e,h,F2.zero_mul]
 have h2 : (nJ x).2.2 = F2.zero:=by
  by_cases hb : (nJ x).2.2 = F2.zero
  ·exact hb
  ·obtain ⟨t,ht⟩:=aDq zX hb hA;exact absurd ht (Ih t)
 have h1 : (nJ x).2.1 = F2.zero:=by
  rw [h2,F2.mul_zero,F2.mul_zero,F2.mul_zero] at hA
  by_cases ha : (nJ x).2.1 = F2.zero
  ·exact ha
  ·exact wJ zX (zX.zd hA ha)
 have g2 : F2.mul x.2.1 x.2.1 = F2.mul x.1 x.2.2:=GK (K:=F2) h2;have g1 : F2.mul (F2.mul x.2.2 x.2.2) dC = F2.mul x.1 x.2.1:=GK (K:=F2) h1;have h3 : x.2.2 = F2.zero:=by
  by_cases hc : x.2.2 = F2.zero
  ·exact hc
  ·
   have e : F2.mul x.2.1 (F2.mul x.2.1 x.2.1) = F2.mul dC (F2.mul x.2.2 (F2.mul x.2.2 x.2.2)):=by
    rw [g2];have e1 : F2.mul x.2.1 (F2.mul x.1 x.2.2) = F2.mul (F2.mul x.1 x.2.1) x.2.2:=aE F2 (aQ F2 [x.1,x.2.1,x.2.2]) (.mul (.v 1) (.mul (.v 0) (.v 2))) (.mul (.mul (.v 0) (.v 1)) (.v 2)) (by decide);rw [e1,← g1];exact aE F2 (aQ F2 [x.2.2,dC]) (.mul (.mul (.mul (.v 0) (.v 0)) (.v 1)) (.v 0)) (.mul (.v 1) (.mul (.v 0) (.mul (.v 0) (.v 0)))) (by decide)
   obtain ⟨t,ht⟩:=aDq zX hc e;exact absurd ht (Ih t)
 have h4 : x.2.1 = F2.zero:=by
  rw [h3,F2.mul_zero] at g2;exact wJ zX g2
 have h5 : x.1 = F2.zero:=by
  have e : F2.mul x.1 (F2.mul x.1 x.1) = F2.zero:=by
   rw [← h];show F2.mul x.1 (F2.mul x.1 x.1) = F2.add (F2.mul x.1 (F2.sub (F2.mul x.1 x.1) (F2.mul (F2.mul x.2.1 x.2.2) dC))) (F2.mul dC (F2.add (F2.mul x.2.1 (nJ x).2.2) (F2.mul x.2.2 (nJ x).2.1)));rw [h1,h2,h3,F2.mul_zero x.2.1,F2.mul_zero F2.zero,F2.add_zero,F2.mul_zero dC,F2.add_zero,F2.zero_mul];show F2.mul x.1 (F2.mul x.1 x.1) = F2.mul x.1 (F2.add (F2.mul x.1 x.1) (F2.neg F2.zero));rw [bI,F2.add_zero]
  by_cases ha : x.1 = F2.zero
  ·exact ha
  ·exact wJ zX (zX.zd e ha)
 exact Prod.ext h5 (Prod.ext h4 h3)
theorem aEH {x : Q6} (h : rK (n6 x) ≠ F1.zero) : F6.mul x (iv6 x) = F6.one:=by
 show F6.mul x (s6 (nJ x) (dR (n6 x))) = _;rw [aJt,TH h];rfl
theorem aQg : Fld F6:=⟨fun h => zX.1 (congrArg Prod.fst h),fun x h => ⟨_,aEH fun e => h (Lf (pB e))⟩⟩
theorem Vr {z : Q2} (h : F2.mul dC (F2.mul z z) = F2.one) : False:=by
 have hz : z ≠ F2.zero:=fun e => by rw [e,F2.mul_zero,F2.mul_zero] at h; exact zX.1 h.symm
 obtain ⟨y,hy⟩:=zX.2 z hz;refine aSK y ?_;have e : F2.mul (F2.mul y y) (F2.mul dC (F2.mul z z)) = F2.mul dC (F2.mul (F2.mul z y) (F2.mul z y)):=aE F2 (aQ F2 [y,z,dC]) (.mul (.mul (.v 0) (.v 0)) (.mul (.v 2) (.mul (.v 1) (.v 1)))) (.mul (.v 2) (.mul (.mul (.v 1) (.v 0)) (.mul (.v 1) (.v 0)))) (by decide)
 rwa [h,hy,F2.mul_one,F2.mul_one,F2.mul_one] at e
theorem aWM (s : Q6) : F6.mul s s ≠ vE:=fun h => by
 have c0 : F2.add (F2.mul s.1 s.1) (F2.mul dC (F2.add (F2.mul s.2.1 s.2.2) (F2.mul s.2.2 s.2.1))) = F2.zero:=congrArg Prod.fst h;have c1 : F2.add (F2.add (F2.mul s.1 s.2.1) (F2.mul s.2.1 s.1)) (F2.mul dC (F2.mul s.2.2 s.2.2)) = F2.one:=congrArg (fun x => x.2.1) h;have c2 : F2.add (F2.add (F2.mul s.1 s.2.2) (F2.mul s.2.1 s.2.1)) (F2.mul s.2.2 s.1) = F2.zero:=congrArg (fun x => x.2.2) h;have e : F2.mul s.1 (F2.add (F2.mul s.1 s.2.1) (F2.neg (F2.mul (F2.add (F2.add F2.one F2.one) (F2.add F2.one F2.one)) (F2.mul dC (F2.mul s.2.2 s.2.2))))) = F2.zero:=by
  have e1 : F2.mul s.1 (F2.add (F2.mul s.1 s.2.1) (F2.neg (F2.mul (F2.add (F2.add F2.one F2.one) (F2.add F2.one F2.one)) (F2.mul dC (F2.mul s.2.2 s.2.2))))) = F2.add (F2.mul s.2.1 (F2.add (F2.mul s.1 s.1) (F2.mul dC (F2.add (F2.mul s.2.1 s.2.2) (F2.mul s.2.2 s.2.1))))) (F2.neg (F2.mul (F2.mul (F2.add F2.one F2.one) (F2.mul dC s.2.2)) (F2.add (F2.add (F2.mul s.1 s.2.2) (F2.mul s.2.1 s.2.1)) (F2.mul s.2.2 s.1)))) :=
   aE F2 (aQ F2 [s.1,s.2.1,s.2.2,dC])
    (.mul (.v 0) (.add (.mul (.v 0) (.v 1)) (.neg (.mul (.add (.add .one .one) (.add .one .one)) (.mul (.v 3) (.mul (.v 2) (.v 2)))))))
    (.add (.mul (.v 1) (.add (.mul (.v 0) (.v 0)) (.mul (.v 3) (.add (.mul (.v 1) (.v 2)) (.mul (.v 2) (.v 1)))))) (.neg (.mul (.mul (.add .one .one) (.mul (.v 3) (.v 2))) (.add (.add (.mul (.v 0) (.v 2)) (.mul (.v 1) (.v 1))) (.mul (.v 2) (.v 0)))))) (by decide)
  rw [e1,c0,c2,F2.mul_zero,F2.mul_zero,bI,F2.add_zero]
 by_cases h0 : s.1 = F2.zero
 ·rw [h0,F2.zero_mul,F2.mul_zero,F2.zero_add,F2.zero_add] at c1;exact Vr c1
 ·have g:=GK (zX.zd e h0);rw [F2.mul_comm s.2.1 s.1,g] at c1;refine Vr (z:=F2.mul (F2.add (F2.add F2.one F2.one) F2.one) s.2.2) ?_;refine Eq.trans ?_ c1;exact aE F2 (aQ F2 [s.2.2,dC]) (.mul (.v 1) (.mul (.mul (.add (.add .one .one) .one) (.v 0)) (.mul (.add (.add .one .one) .one) (.v 0))))
   (.add (.add (.mul (.add (.add .one .one) (.add .one .one)) (.mul (.v 1) (.mul (.v 0) (.v 0)))) (.mul (.add (.add .one .one) (.add .one .one)) (.mul (.v 1) (.mul (.v 0) (.v 0))))) (.mul (.v 1) (.mul (.v 0) (.v 0)))) (by decide)
theorem aBv {x : aM} (h : n12 x = F6.zero) : x = aD.zero:=by
 have e : F6.mul x.1 x.1 = F6.mul vE (F6.mul x.2 x.2):=GK (K:=F6) h;have hb : x.2 = F6.zero:=by
  by_cases hb : x.2 = F6.zero
  ·exact hb
  ·obtain ⟨t,ht⟩:=aDp aQg hb e;exact absurd ht (aWM t)
 rw [hb,F6.mul_zero,F6.mul_zero] at e;exact Prod.ext (wJ aQg e) hb
theorem zG {x : aM} (h : vF x = F1.zero) : x = aD.zero:=aBv (Lf (pB h))
theorem aHX {R : Type} (K : CR R) (a b v k : R) : K.add (K.mul a (K.mul a k)) (K.mul v (K.mul b (K.mul (K.sub K.zero b) k))) = K.mul (K.sub (K.mul a a) (K.mul v (K.mul b b))) k :=
 aE K (aQ K [a,b,v,k]) (.add (.mul (.v 0) (.mul (.v 0) (.v 3))) (.mul (.v 2) (.mul (.v 1) (.mul (.add .zero (.neg (.v 1))) (.v 3))))) (.mul (.add (.mul (.v 0) (.v 0)) (.neg (.mul (.v 2) (.mul (.v 1) (.v 1))))) (.v 3)) (by decide)
theorem aHW {R : Type} (K : CR R) (a b k : R) : K.add (K.mul a (K.mul (K.sub K.zero b) k)) (K.mul b (K.mul a k)) = K.zero :=
 aE K (aQ K [a,b,k]) (.add (.mul (.v 0) (.mul (.add .zero (.neg (.v 1))) (.v 2))) (.mul (.v 1) (.mul (.v 0) (.v 2)))) .zero (by decide)
theorem TJ {x : aM} (h : vF x ≠ F1.zero) : aD.mul x (jW x) = aD.one:=by
 have hi : F6.mul (n12 x) (iv6 (n12 x)) = F6.one:=aEH h;exact Prod.ext ((aHX F6 x.1 x.2 vE (iv6 (n12 x))).trans hi) (aHW F6 x.1 x.2 (iv6 (n12 x)))
theorem jO : Fld aD:=⟨fun h => aQg.1 (congrArg Prod.fst h),fun x h => ⟨_,TJ fun e => h (zG e)⟩⟩
def pf {R : Type} (K : CR R) : Nat → R → Nat → R
 | 0,_,_ => K.one
 | f + 1,b,e => bif Nat.beq e 0 then K.one else bif Nat.beq (e % 2) 1 then K.mul b (pf K f (K.mul b b) (e / 2)) else pf K f (K.mul b b) (e / 2)
theorem Jo {R : Type} (K : CR R) : ∀ (f : Nat) (b : R) (e : Nat),e < 2 ^ f → pf K f b e = bN K b e
 | 0,b,e,h => by
  have : e = 0:=by omega
  subst this; rfl
 | f + 1,b,e,h => by
  rw [Nat.pow_succ] at h;unfold pf;cases h0 : Nat.beq e 0
  ·have hi:=Jo K f (K.mul b b) (e / 2) (by omega);have hb : K.mul b b = bN K b 2:=by show _ = K.mul (K.mul K.one b) b; rw [K.one_mul]
   have hs : bN K (K.mul b b) (e / 2) = bN K b (2 * (e / 2)):=by rw [hb,← dU]
   cases h1 : Nat.beq (e % 2) 1
   ·have : e % 2 ≠ 1:=fun h => by rw [h] at h1; cases h1
    simp only [cond_false];rw [hi,hs];congr 1; omega
   ·have:=Nat.eq_of_beq_eq_true h1;simp only [cond_true,cond_false];rw [hi,hs];have he : e = 2 * (e / 2) + 1:=by omega
    conv => rhs; rw [he]
    show _ = K.mul (bN K b (2 * (e / 2))) b;rw [K.mul_comm]
  ·have:=Nat.eq_of_beq_eq_true h0;subst this; rfl
theorem aBr {R : Type} (K : CR R) (q : R) (x : R × R) : ∀ n,nt (K.sq q) x n = (nt K x.1 n,nt K x.2 n)
 | 0 => rfl
 | n + 1 => by show (K.sq q).add (nt (K.sq q) x n) x = _; rw [aBr K q x n]; rfl
theorem aKH {R : Type} (K : CR R) (q : R) (x : R × R × R) : ∀ n,nt (K.cu q) x n = (nt K x.1 n,nt K x.2.1 n,nt K x.2.2 n)
 | 0 => rfl
 | n + 1 => by show (K.cu q).add (nt (K.cu q) x n) x = _; rw [aKH K q x n]; rfl
theorem aKG (x : Fq) : ∀ n,(nt F1 x n).1 = n * x.1 % FP.M
 | 0 => by rw [Nat.zero_mul]; rfl
 | n + 1 => by
  show ((nt F1 x n).1 + x.1) % FP.M = _;rw [aKG x n,Nat.mod_add_mod,Nat.add_mul,Nat.one_mul]
theorem ch1 (x : Fq) : nt F1 x FP.M = F1.zero:=Fin.ext (by rw [aKG,Nat.mul_mod_right]; rfl)
theorem ch2 (x : Q2) : nt F2 x FP.M = F2.zero:=by unfold F2; rw [aBr,ch1,ch1]; rfl
theorem ch6 (x : Q6) : nt F6 x FP.M = F6.zero:=by unfold F6; rw [aKH,ch2,ch2,ch2]; rfl
theorem aYS (x : aM) : nt aD x FP.M = aD.zero:=by unfold aD; rw [aBr,ch6,ch6]; rfl
theorem aGP : dW FP.M:=Gg.prm
theorem lW {R S : Type} (K : CR R) (L : CR S) (φ : R → S) (h1 : φ K.one = L.one) (hm : ∀ a b,φ (K.mul a b) = L.mul (φ a) (φ b)) (x : R) : ∀ n,bN L (φ x) n = φ (bN K x n)
 | 0 => h1.symm
 | n + 1 => by show L.mul (bN L (φ x) n) (φ x) = φ (K.mul _ _); rw [lW K L φ h1 hm x n,hm]
theorem aTW (x : Fq) : ∀ n,(bN F1 x n).1 = x.1 ^ n % FP.M
 | 0 => rfl
 | n + 1 => by show (bN F1 x n).1 * x.1 % FP.M = _; rw [aTW x n,Nat.pow_succ,Nat.mod_mul_mod]
theorem XJ (x m : Nat) (h : 0 < m) : x ^ m = x ^ (m - 1) * x:=by
 obtain ⟨n,rfl⟩ : ∃ n,m = n + 1:=⟨m - 1,by omega⟩
 rw [Nat.add_sub_cancel,Nat.pow_succ]
theorem p1 (x : Fq) : bN F1 x FP.M = x:=by
 apply Fin.ext;rw [aTW]
 rcases Nat.eq_zero_or_pos x.1 with h | h
 ·rw [XJ x.1 FP.M iJ,h,Nat.mul_zero,Nat.zero_mod]
 ·have:=Uf h x.2;rw [XJ x.1 FP.M iJ,Nat.mul_mod,this,Nat.one_mul,Nat.mod_mod,Nat.mod_eq_of_lt x.2]
def i2 (a : Fq) : Q2:=(a,F1.zero)
def u2 : Q2:=(F1.zero,F1.one)
theorem Fx (a b : Fq) : i2 (F1.mul a b) = F2.mul (i2 a) (i2 b):=by
 refine Prod.ext ?_ ?_
 ·show F1.mul a b = F1.add (F1.mul a b) (F1.mul _ (F1.mul F1.zero F1.zero)); rw [F1.mul_zero,F1.mul_zero,F1.add_zero]
 ·show F1.zero = F1.add (F1.mul a F1.zero) (F1.mul F1.zero b); rw [F1.mul_zero,F1.zero_mul,F1.add_zero]
theorem aJS (x : Q2) : x = F2.add (i2 x.1) (F2.mul (i2 x.2) u2):=by
 refine Prod.ext ?_ ?_
 ·show x.1 = F1.add x.1 (F1.add (F1.mul x.2 F1.zero) (F1.mul _ (F1.mul F1.zero F1.one))); rw [F1.mul_zero,F1.zero_mul,F1.mul_zero,F1.add_zero,F1.add_zero]
 ·show x.2 = F1.add F1.zero (F1.add (F1.mul x.2 F1.one) (F1.mul F1.zero F1.zero)); rw [F1.mul_one,F1.mul_zero,F1.add_zero,F1.zero_add]
theorem aWN : bN F2 u2 FP.M = aJ u2:=by
 rw [← Jo F2 256 u2 FP.M (by decide)]
 kernel_rfl
theorem Lz (a : Fq) : aJ (i2 a) = i2 a:=Prod.ext rfl (bI F1)
theorem aQe (x : Q2) : bN F2 x FP.M = aJ x:=by
 conv => lhs; rw [aJS x]
 rw [Mh F2 aGP ch2,lV,lW F1 F2 i2 rfl Fx,lW F1 F2 i2 rfl Fx,p1,p1,aWN]
 conv => rhs; rw [aJS x,kF,gJ,Lz,Lz]
def i6 (a : Q2) : Q6:=(a,F2.zero,F2.zero)
theorem Fw (a b : Q2) : i6 (F2.mul a b) = F6.mul (i6 a) (i6 b):=by
 show _ = F6.mul (i6 a) (b,F2.zero,F2.zero);rw [Lg];refine Prod.ext rfl (Prod.ext ?_ ?_) <;> exact (F2.zero_mul _).symm
theorem aCk (a : Q2) : LF (i6 a) = i6 (aJ a):=by
 rw [PO];have h : aJ F2.zero = F2.zero:=by decide
 refine Prod.ext rfl (Prod.ext ?_ ?_)
 ·show F2.mul (aJ F2.zero) _ = F2.zero; rw [h,F2.zero_mul]
 ·show F2.mul (aJ F2.zero) _ = F2.zero; rw [h,F2.zero_mul]
theorem aJR (x : Q6) : x = F6.add (i6 x.1) (F6.add (F6.mul (i6 x.2.1) vE) (F6.mul (i6 x.2.2) (F6.mul vE vE))):=by
 have h1 : ∀ c : Q2,F6.mul (i6 c) vE = (F2.zero,c,F2.zero):=fun c => by
  rw [F6.mul_comm,CO];show (F2.mul F2.zero dC,c,F2.zero) = _;rw [F2.zero_mul]
 have h2 : ∀ c : Q2,F6.mul (i6 c) (F6.mul vE vE) = (F2.zero,F2.zero,c):=fun c => by
  rw [← F6.mul_assoc,h1,F6.mul_comm,CO];show (F2.mul F2.zero dC,F2.zero,c) = _;rw [F2.zero_mul]
 rw [h1,h2];refine Prod.ext ?_ (Prod.ext ?_ ?_)
 ·show x.1 = F2.add x.1 (F2.add F2.zero F2.zero); rw [F2.add_zero,F2.add_zero]
 ·show x.2.1 = F2.add F2.zero (F2.add x.2.1 F2.zero); rw [F2.add_zero,F2.zero_add]
 ·show x.2.2 = F2.add F2.zero (F2.add F2.zero x.2.2); rw [F2.zero_add,F2.zero_add]
theorem v_p : bN F6 vE FP.M = LF vE:=by
 rw [← Jo F6 256 vE FP.M (by decide)]
 kernel_rfl
theorem p6 (x : Q6) : bN F6 x FP.M = LF x:=by
 conv => lhs; rw [aJR x]
 rw [Mh F6 aGP ch6,Mh F6 aGP ch6,lV,lV,lV,lW F2 F6 i6 rfl Fw,lW F2 F6 i6 rfl Fw,lW F2 F6 i6 rfl Fw,aQe,aQe,aQe,v_p]
 conv => rhs; rw [aJR x,tG,tG,nQ,nQ,nQ,aCk,aCk,aCk]
def i12 (a : Q6) : aM:=(a,F6.zero)
def wE : aM:=(F6.zero,F6.one)
theorem Ma (a b : Q6) : i12 (F6.mul a b) = aD.mul (i12 a) (i12 b):=by
 refine Prod.ext ?_ ?_
 ·show F6.mul a b = F6.add (F6.mul a b) (F6.mul _ (F6.mul F6.zero F6.zero)); rw [F6.mul_zero,F6.mul_zero,F6.add_zero]
 ·show F6.zero = F6.add (F6.mul a F6.zero) (F6.mul F6.zero b); rw [F6.mul_zero,F6.zero_mul,F6.add_zero]
theorem Zs (x : aM) : x = aD.add (i12 x.1) (aD.mul (i12 x.2) wE):=by
 refine Prod.ext ?_ ?_
 ·show x.1 = F6.add x.1 (F6.add (F6.mul x.2 F6.zero) (F6.mul _ (F6.mul F6.zero F6.one))); rw [F6.mul_zero,F6.zero_mul,F6.mul_zero,F6.add_zero,F6.add_zero]
 ·show x.2 = F6.add F6.zero (F6.add (F6.mul x.2 F6.one) (F6.mul F6.zero F6.zero)); rw [F6.mul_one,F6.mul_zero,F6.add_zero,F6.zero_add]
theorem aAL : LF F6.zero = F6.zero:=by decide
theorem aAM (x y : aM) : cQ (aD.add x y) = aD.add (cQ x) (cQ y):=by
 rw [qA,qA,qA];refine Prod.ext (tG _ _) ?_;show F6.mul (LF (F6.add x.2 y.2)) tau = F6.add _ _;rw [tG,F6.add_mul]
theorem aCl (a : Q6) : cQ (i12 a) = i12 (LF a):=by
 rw [qA];refine Prod.ext rfl ?_;show F6.mul (LF F6.zero) tau = F6.zero;rw [aAL,F6.zero_mul]
theorem w_p : bN aD wE FP.M = cQ wE:=by
 rw [← Jo aD 256 wE FP.M (by decide)]
 kernel_rfl
theorem p12 (x : aM) : bN aD x FP.M = cQ x:=by
 conv => lhs; rw [Zs x]
 rw [Mh aD aGP aYS,lV,lW F6 aD i12 rfl Ma,lW F6 aD i12 rfl Ma,p6,p6,w_p]
 conv => rhs; rw [Zs x,aAM,mV,aCl,aCl]
theorem UN {R : Type} (K : CR R) {a b : R} (h : K.sub a b = K.zero) : a = b:=by
 have h1 : K.add (K.add a (K.neg b)) b = b:=by
  rw [show K.add a (K.neg b) = K.zero from h,K.zero_add]
 rw [K.add_assoc,K.neg_add,K.add_zero] at h1;exact h1
theorem yJ {R : Type} (K : CR R) (a : R) : K.sub a a = K.zero:=K.add_neg a
set_option maxRecDepth 10000
theorem aIV {R : Type} (K : CR R) (c0 c1 c2 c3 c4 c5 q z : R) : (K.add (K.add (K.mul (K.mul K.one c0) c0) (K.mul q (K.add (K.mul (K.mul (K.neg z) c2) c4) (K.mul (K.mul (K.sub z K.one) c4) c2)))) (K.mul (K.add (K.add (K.mul (K.mul (K.sub z K.one) c1) c5) (K.mul (K.mul K.one c3) c3)) (K.mul (K.mul (K.neg z) c5) c1)) q)) = (K.add (K.mul K.one c0) (K.mul K.one (K.sub (K.sub (K.add (K.mul c0 c0) (K.mul q (K.mul c3 c3))) (K.mul (K.add (K.mul c1 c5) (K.mul c4 c2)) q)) c0))) :=
 aE K (aQ K [c0,c1,c2,c3,c4,c5,q,z]) (.add (.add (.mul (.mul .one (.v 0)) (.v 0)) (.mul (.v 6) (.add (.mul (.mul (.neg (.v 7)) (.v 2)) (.v 4)) (.mul (.mul (.add (.v 7) (.neg .one)) (.v 4)) (.v 2))))) (.mul (.add (.add (.mul (.mul (.add (.v 7) (.neg .one)) (.v 1)) (.v 5)) (.mul (.mul .one (.v 3)) (.v 3))) (.mul (.mul (.neg (.v 7)) (.v 5)) (.v 1))) (.v 6))) (.add (.mul .one (.v 0)) (.mul .one (.add (.add (.add (.mul (.v 0) (.v 0)) (.mul (.v 6) (.mul (.v 3) (.v 3)))) (.neg (.mul (.add (.mul (.v 1) (.v 5)) (.mul (.v 4) (.v 2))) (.v 6)))) (.neg (.v 0))))) (by decide)
theorem aIU {R : Type} (K : CR R) (c0 c1 c2 c3 c4 c5 q z : R) : (K.add (K.add (K.mul (K.mul K.one c0) c1) (K.mul q (K.add (K.mul (K.mul (K.neg z) c2) c5) (K.mul (K.mul (K.sub z K.one) c4) c3)))) (K.add (K.mul (K.mul (K.sub z K.one) c1) c0) (K.mul q (K.add (K.mul (K.mul K.one c3) c4) (K.mul (K.mul (K.neg z) c5) c2))))) = (K.add (K.mul z c1) (K.mul z (K.sub (K.sub (K.add (K.mul c0 c1) (K.mul q (K.mul c3 c4))) (K.mul (K.add (K.mul c2 c5) (K.mul c5 c2)) q)) c1))) :=
 aE K (aQ K [c0,c1,c2,c3,c4,c5,q,z]) (.add (.add (.mul (.mul .one (.v 0)) (.v 1)) (.mul (.v 6) (.add (.mul (.mul (.neg (.v 7)) (.v 2)) (.v 5)) (.mul (.mul (.add (.v 7) (.neg .one)) (.v 4)) (.v 3))))) (.add (.mul (.mul (.add (.v 7) (.neg .one)) (.v 1)) (.v 0)) (.mul (.v 6) (.add (.mul (.mul .one (.v 3)) (.v 4)) (.mul (.mul (.neg (.v 7)) (.v 5)) (.v 2)))))) (.add (.mul (.v 7) (.v 1)) (.mul (.v 7) (.add (.add (.add (.mul (.v 0) (.v 1)) (.mul (.v 6) (.mul (.v 3) (.v 4)))) (.neg (.mul (.add (.mul (.v 2) (.v 5)) (.mul (.v 5) (.v 2))) (.v 6)))) (.neg (.v 1))))) (by decide)
theorem aIT {R : Type} (K : CR R) (c0 c1 c2 c3 c4 c5 q z : R) : (K.add (K.add (K.add (K.mul (K.mul K.one c0) c2) (K.mul (K.mul (K.neg z) c2) c0)) (K.mul q (K.mul (K.mul (K.sub z K.one) c4) c4))) (K.add (K.mul (K.mul (K.sub z K.one) c1) c1) (K.mul q (K.add (K.mul (K.mul K.one c3) c5) (K.mul (K.mul (K.neg z) c5) c3))))) = (K.add (K.mul (K.sub z K.one) c2) (K.mul (K.sub z K.one) (K.sub (K.sub (K.add (K.mul c1 c1) (K.mul q (K.mul c4 c4))) (K.add (K.mul c0 c2) (K.mul q (K.mul c3 c5)))) c2))) :=
 aE K (aQ K [c0,c1,c2,c3,c4,c5,q,z]) (.add (.add (.add (.mul (.mul .one (.v 0)) (.v 2)) (.mul (.mul (.neg (.v 7)) (.v 2)) (.v 0))) (.mul (.v 6) (.mul (.mul (.add (.v 7) (.neg .one)) (.v 4)) (.v 4)))) (.add (.mul (.mul (.add (.v 7) (.neg .one)) (.v 1)) (.v 1)) (.mul (.v 6) (.add (.mul (.mul .one (.v 3)) (.v 5)) (.mul (.mul (.neg (.v 7)) (.v 5)) (.v 3)))))) (.add (.mul (.add (.v 7) (.neg .one)) (.v 2)) (.mul (.add (.v 7) (.neg .one)) (.add (.add (.add (.mul (.v 1) (.v 1)) (.mul (.v 6) (.mul (.v 4) (.v 4)))) (.neg (.add (.mul (.v 0) (.v 2)) (.mul (.v 6) (.mul (.v 3) (.v 5)))))) (.neg (.v 2))))) (by decide)
theorem aIS {R : Type} (K : CR R) (c0 c1 c2 c3 c4 c5 q z : R) : (K.add (K.add (K.add (K.mul (K.mul K.one c0) c3) (K.mul (K.mul (K.neg z) c2) c1)) (K.mul q (K.mul (K.mul (K.sub z K.one) c4) c5))) (K.add (K.add (K.mul (K.mul (K.sub z K.one) c1) c2) (K.mul (K.mul K.one c3) c0)) (K.mul q (K.mul (K.mul (K.neg z) c5) c4)))) = (K.add (K.mul (K.neg K.one) c3) (K.mul K.one (K.sub (K.sub (K.add (K.mul c0 c3) (K.mul c3 c0)) (K.add (K.mul c1 c2) (K.mul q (K.mul c4 c5)))) (K.sub K.zero c3)))) :=
 aE K (aQ K [c0,c1,c2,c3,c4,c5,q,z]) (.add (.add (.add (.mul (.mul .one (.v 0)) (.v 3)) (.mul (.mul (.neg (.v 7)) (.v 2)) (.v 1))) (.mul (.v 6) (.mul (.mul (.add (.v 7) (.neg .one)) (.v 4)) (.v 5)))) (.add (.add (.mul (.mul (.add (.v 7) (.neg .one)) (.v 1)) (.v 2)) (.mul (.mul .one (.v 3)) (.v 0))) (.mul (.v 6) (.mul (.mul (.neg (.v 7)) (.v 5)) (.v 4))))) (.add (.mul (.neg .one) (.v 3)) (.mul .one (.add (.add (.add (.mul (.v 0) (.v 3)) (.mul (.v 3) (.v 0))) (.neg (.add (.mul (.v 1) (.v 2)) (.mul (.v 6) (.mul (.v 4) (.v 5)))))) (.neg (.add .zero (.neg (.v 3))))))) (by decide)
theorem aIR {R : Type} (K : CR R) (c0 c1 c2 c3 c4 c5 q z : R) : (K.add (K.add (K.add (K.mul (K.mul K.one c0) c4) (K.mul (K.mul (K.neg z) c2) c2)) (K.mul (K.mul (K.sub z K.one) c4) c0)) (K.add (K.add (K.mul (K.mul (K.sub z K.one) c1) c3) (K.mul (K.mul K.one c3) c1)) (K.mul q (K.mul (K.mul (K.neg z) c5) c5)))) = (K.add (K.mul (K.neg z) c4) (K.mul z (K.sub (K.sub (K.add (K.mul c0 c4) (K.mul c3 c1)) (K.add (K.mul c2 c2) (K.mul q (K.mul c5 c5)))) (K.sub K.zero c4)))) :=
 aE K (aQ K [c0,c1,c2,c3,c4,c5,q,z]) (.add (.add (.add (.mul (.mul .one (.v 0)) (.v 4)) (.mul (.mul (.neg (.v 7)) (.v 2)) (.v 2))) (.mul (.mul (.add (.v 7) (.neg .one)) (.v 4)) (.v 0))) (.add (.add (.mul (.mul (.add (.v 7) (.neg .one)) (.v 1)) (.v 3)) (.mul (.mul .one (.v 3)) (.v 1))) (.mul (.v 6) (.mul (.mul (.neg (.v 7)) (.v 5)) (.v 5))))) (.add (.mul (.neg (.v 7)) (.v 4)) (.mul (.v 7) (.add (.add (.add (.mul (.v 0) (.v 4)) (.mul (.v 3) (.v 1))) (.neg (.add (.mul (.v 2) (.v 2)) (.mul (.v 6) (.mul (.v 5) (.v 5)))))) (.neg (.add .zero (.neg (.v 4))))))) (by decide)
theorem aIQ {R : Type} (K : CR R) (c0 c1 c2 c3 c4 c5 q z : R) : (K.add (K.add (K.add (K.mul (K.mul K.one c0) c5) (K.mul (K.mul (K.neg z) c2) c3)) (K.mul (K.mul (K.sub z K.one) c4) c1)) (K.add (K.add (K.mul (K.mul (K.sub z K.one) c1) c4) (K.mul (K.mul K.one c3) c2)) (K.mul (K.mul (K.neg z) c5) c0))) = (K.add (K.mul (K.sub K.one z) c5) (K.mul (K.sub z K.one) (K.sub (K.sub (K.add (K.mul c1 c4) (K.mul c4 c1)) (K.add (K.mul c0 c5) (K.mul c3 c2))) (K.sub K.zero c5)))) :=
 aE K (aQ K [c0,c1,c2,c3,c4,c5,q,z]) (.add (.add (.add (.mul (.mul .one (.v 0)) (.v 5)) (.mul (.mul (.neg (.v 7)) (.v 2)) (.v 3))) (.mul (.mul (.add (.v 7) (.neg .one)) (.v 4)) (.v 1))) (.add (.add (.mul (.mul (.add (.v 7) (.neg .one)) (.v 1)) (.v 4)) (.mul (.mul .one (.v 3)) (.v 2))) (.mul (.mul (.neg (.v 7)) (.v 5)) (.v 0)))) (.add (.mul (.add .one (.neg (.v 7))) (.v 5)) (.mul (.add (.v 7) (.neg .one)) (.add (.add (.add (.mul (.v 1) (.v 4)) (.mul (.v 4) (.v 1))) (.neg (.add (.mul (.v 0) (.v 5)) (.mul (.v 3) (.v 2))))) (.neg (.add .zero (.neg (.v 5))))))) (by decide)
theorem aFC {R : Type} (K : CR R) (c0 c1 c2 c3 c4 c5 q z : R) : (K.add (K.add (K.sub (K.add (K.mul c0 c0) (K.mul q (K.mul c3 c3))) c0) (K.sub (K.add (K.mul c0 c0) (K.mul q (K.mul c3 c3))) c0)) (K.add (K.mul c0 c0) (K.mul q (K.mul c3 c3)))) = (K.add (K.add (K.add (K.mul c0 c0) (K.mul q (K.add (K.mul c2 c4) (K.mul c4 c2)))) (K.mul (K.add (K.add (K.mul c1 c5) (K.mul c3 c3)) (K.mul c5 c1)) q)) (K.add (K.sub (K.sub (K.add (K.mul c0 c0) (K.mul q (K.mul c3 c3))) (K.mul (K.add (K.mul c1 c5) (K.mul c4 c2)) q)) c0) (K.sub (K.sub (K.add (K.mul c0 c0) (K.mul q (K.mul c3 c3))) (K.mul (K.add (K.mul c1 c5) (K.mul c4 c2)) q)) c0))) :=
 aE K (aQ K [c0,c1,c2,c3,c4,c5,q,z]) (.add (.add (.add (.add (.mul (.v 0) (.v 0)) (.mul (.v 6) (.mul (.v 3) (.v 3)))) (.neg (.v 0))) (.add (.add (.mul (.v 0) (.v 0)) (.mul (.v 6) (.mul (.v 3) (.v 3)))) (.neg (.v 0)))) (.add (.mul (.v 0) (.v 0)) (.mul (.v 6) (.mul (.v 3) (.v 3))))) (.add (.add (.add (.mul (.v 0) (.v 0)) (.mul (.v 6) (.add (.mul (.v 2) (.v 4)) (.mul (.v 4) (.v 2))))) (.mul (.add (.add (.mul (.v 1) (.v 5)) (.mul (.v 3) (.v 3))) (.mul (.v 5) (.v 1))) (.v 6))) (.add (.add (.add (.add (.mul (.v 0) (.v 0)) (.mul (.v 6) (.mul (.v 3) (.v 3)))) (.neg (.mul (.add (.mul (.v 1) (.v 5)) (.mul (.v 4) (.v 2))) (.v 6)))) (.neg (.v 0))) (.add (.add (.add (.mul (.v 0) (.v 0)) (.mul (.v 6) (.mul (.v 3) (.v 3)))) (.neg (.mul (.add (.mul (.v 1) (.v 5)) (.mul (.v 4) (.v 2))) (.v 6)))) (.neg (.v 0))))) (by decide)
theorem aFB {R : Type} (K : CR R) (c0 c1 c2 c3 c4 c5 q z : R) : (K.add (K.add (K.sub (K.mul (K.add (K.mul c2 c5) (K.mul c5 c2)) q) (K.sub K.zero c1)) (K.sub (K.mul (K.add (K.mul c2 c5) (K.mul c5 c2)) q) (K.sub K.zero c1))) (K.mul (K.add (K.mul c2 c5) (K.mul c5 c2)) q)) = (K.sub (K.add (K.add (K.mul c0 c1) (K.mul q (K.add (K.mul c2 c5) (K.mul c4 c3)))) (K.add (K.mul c1 c0) (K.mul q (K.add (K.mul c3 c4) (K.mul c5 c2))))) (K.add (K.sub (K.sub (K.add (K.mul c0 c1) (K.mul q (K.mul c3 c4))) (K.mul (K.add (K.mul c2 c5) (K.mul c5 c2)) q)) c1) (K.sub (K.sub (K.add (K.mul c0 c1) (K.mul q (K.mul c3 c4))) (K.mul (K.add (K.mul c2 c5) (K.mul c5 c2)) q)) c1))) :=
 aE K (aQ K [c0,c1,c2,c3,c4,c5,q,z]) (.add (.add (.add (.mul (.add (.mul (.v 2) (.v 5)) (.mul (.v 5) (.v 2))) (.v 6)) (.neg (.add .zero (.neg (.v 1))))) (.add (.mul (.add (.mul (.v 2) (.v 5)) (.mul (.v 5) (.v 2))) (.v 6)) (.neg (.add .zero (.neg (.v 1)))))) (.mul (.add (.mul (.v 2) (.v 5)) (.mul (.v 5) (.v 2))) (.v 6))) (.add (.add (.add (.mul (.v 0) (.v 1)) (.mul (.v 6) (.add (.mul (.v 2) (.v 5)) (.mul (.v 4) (.v 3))))) (.add (.mul (.v 1) (.v 0)) (.mul (.v 6) (.add (.mul (.v 3) (.v 4)) (.mul (.v 5) (.v 2)))))) (.neg (.add (.add (.add (.add (.mul (.v 0) (.v 1)) (.mul (.v 6) (.mul (.v 3) (.v 4)))) (.neg (.mul (.add (.mul (.v 2) (.v 5)) (.mul (.v 5) (.v 2))) (.v 6)))) (.neg (.v 1))) (.add (.add (.add (.mul (.v 0) (.v 1)) (.mul (.v 6) (.mul (.v 3) (.v 4)))) (.neg (.mul (.add (.mul (.v 2) (.v 5)) (.mul (.v 5) (.v 2))) (.v 6)))) (.neg (.v 1)))))) (by decide)
theorem aFA {R : Type} (K : CR R) (c0 c1 c2 c3 c4 c5 q z : R) : (K.add (K.add (K.sub (K.add (K.mul c1 c1) (K.mul q (K.mul c4 c4))) c2) (K.sub (K.add (K.mul c1 c1) (K.mul q (K.mul c4 c4))) c2)) (K.add (K.mul c1 c1) (K.mul q (K.mul c4 c4)))) = (K.add (K.add (K.add (K.add (K.mul c0 c2) (K.mul c2 c0)) (K.mul q (K.mul c4 c4))) (K.add (K.mul c1 c1) (K.mul q (K.add (K.mul c3 c5) (K.mul c5 c3))))) (K.add (K.sub (K.sub (K.add (K.mul c1 c1) (K.mul q (K.mul c4 c4))) (K.add (K.mul c0 c2) (K.mul q (K.mul c3 c5)))) c2) (K.sub (K.sub (K.add (K.mul c1 c1) (K.mul q (K.mul c4 c4))) (K.add (K.mul c0 c2) (K.mul q (K.mul c3 c5)))) c2))) :=
 aE K (aQ K [c0,c1,c2,c3,c4,c5,q,z]) (.add (.add (.add (.add (.mul (.v 1) (.v 1)) (.mul (.v 6) (.mul (.v 4) (.v 4)))) (.neg (.v 2))) (.add (.add (.mul (.v 1) (.v 1)) (.mul (.v 6) (.mul (.v 4) (.v 4)))) (.neg (.v 2)))) (.add (.mul (.v 1) (.v 1)) (.mul (.v 6) (.mul (.v 4) (.v 4))))) (.add (.add (.add (.add (.mul (.v 0) (.v 2)) (.mul (.v 2) (.v 0))) (.mul (.v 6) (.mul (.v 4) (.v 4)))) (.add (.mul (.v 1) (.v 1)) (.mul (.v 6) (.add (.mul (.v 3) (.v 5)) (.mul (.v 5) (.v 3)))))) (.add (.add (.add (.add (.mul (.v 1) (.v 1)) (.mul (.v 6) (.mul (.v 4) (.v 4)))) (.neg (.add (.mul (.v 0) (.v 2)) (.mul (.v 6) (.mul (.v 3) (.v 5)))))) (.neg (.v 2))) (.add (.add (.add (.mul (.v 1) (.v 1)) (.mul (.v 6) (.mul (.v 4) (.v 4)))) (.neg (.add (.mul (.v 0) (.v 2)) (.mul (.v 6) (.mul (.v 3) (.v 5)))))) (.neg (.v 2))))) (by decide)
theorem aFz {R : Type} (K : CR R) (c0 c1 c2 c3 c4 c5 q z : R) : (K.add (K.add (K.sub (K.add (K.mul c0 c3) (K.mul c3 c0)) (K.sub K.zero c3)) (K.sub (K.add (K.mul c0 c3) (K.mul c3 c0)) (K.sub K.zero c3))) (K.add (K.mul c0 c3) (K.mul c3 c0))) = (K.add (K.add (K.add (K.add (K.mul c0 c3) (K.mul c2 c1)) (K.mul q (K.mul c4 c5))) (K.add (K.add (K.mul c1 c2) (K.mul c3 c0)) (K.mul q (K.mul c5 c4)))) (K.add (K.sub (K.sub (K.add (K.mul c0 c3) (K.mul c3 c0)) (K.add (K.mul c1 c2) (K.mul q (K.mul c4 c5)))) (K.sub K.zero c3)) (K.sub (K.sub (K.add (K.mul c0 c3) (K.mul c3 c0)) (K.add (K.mul c1 c2) (K.mul q (K.mul c4 c5)))) (K.sub K.zero c3)))) :=
 aE K (aQ K [c0,c1,c2,c3,c4,c5,q,z]) (.add (.add (.add (.add (.mul (.v 0) (.v 3)) (.mul (.v 3) (.v 0))) (.neg (.add .zero (.neg (.v 3))))) (.add (.add (.mul (.v 0) (.v 3)) (.mul (.v 3) (.v 0))) (.neg (.add .zero (.neg (.v 3)))))) (.add (.mul (.v 0) (.v 3)) (.mul (.v 3) (.v 0)))) (.add (.add (.add (.add (.mul (.v 0) (.v 3)) (.mul (.v 2) (.v 1))) (.mul (.v 6) (.mul (.v 4) (.v 5)))) (.add (.add (.mul (.v 1) (.v 2)) (.mul (.v 3) (.v 0))) (.mul (.v 6) (.mul (.v 5) (.v 4))))) (.add (.add (.add (.add (.mul (.v 0) (.v 3)) (.mul (.v 3) (.v 0))) (.neg (.add (.mul (.v 1) (.v 2)) (.mul (.v 6) (.mul (.v 4) (.v 5)))))) (.neg (.add .zero (.neg (.v 3))))) (.add (.add (.add (.mul (.v 0) (.v 3)) (.mul (.v 3) (.v 0))) (.neg (.add (.mul (.v 1) (.v 2)) (.mul (.v 6) (.mul (.v 4) (.v 5)))))) (.neg (.add .zero (.neg (.v 3))))))) (by decide)
theorem aFy {R : Type} (K : CR R) (c0 c1 c2 c3 c4 c5 q z : R) : (K.add (K.add (K.sub (K.add (K.mul c2 c2) (K.mul q (K.mul c5 c5))) (K.sub K.zero (K.sub K.zero c4))) (K.sub (K.add (K.mul c2 c2) (K.mul q (K.mul c5 c5))) (K.sub K.zero (K.sub K.zero c4)))) (K.add (K.mul c2 c2) (K.mul q (K.mul c5 c5)))) = (K.sub (K.add (K.add (K.add (K.mul c0 c4) (K.mul c2 c2)) (K.mul c4 c0)) (K.add (K.add (K.mul c1 c3) (K.mul c3 c1)) (K.mul q (K.mul c5 c5)))) (K.add (K.sub (K.sub (K.add (K.mul c0 c4) (K.mul c3 c1)) (K.add (K.mul c2 c2) (K.mul q (K.mul c5 c5)))) (K.sub K.zero c4)) (K.sub (K.sub (K.add (K.mul c0 c4) (K.mul c3 c1)) (K.add (K.mul c2 c2) (K.mul q (K.mul c5 c5)))) (K.sub K.zero c4)))) :=
 aE K (aQ K [c0,c1,c2,c3,c4,c5,q,z]) (.add (.add (.add (.add (.mul (.v 2) (.v 2)) (.mul (.v 6) (.mul (.v 5) (.v 5)))) (.neg (.add .zero (.neg (.add .zero (.neg (.v 4))))))) (.add (.add (.mul (.v 2) (.v 2)) (.mul (.v 6) (.mul (.v 5) (.v 5)))) (.neg (.add .zero (.neg (.add .zero (.neg (.v 4)))))))) (.add (.mul (.v 2) (.v 2)) (.mul (.v 6) (.mul (.v 5) (.v 5))))) (.add (.add (.add (.add (.mul (.v 0) (.v 4)) (.mul (.v 2) (.v 2))) (.mul (.v 4) (.v 0))) (.add (.add (.mul (.v 1) (.v 3)) (.mul (.v 3) (.v 1))) (.mul (.v 6) (.mul (.v 5) (.v 5))))) (.neg (.add (.add (.add (.add (.mul (.v 0) (.v 4)) (.mul (.v 3) (.v 1))) (.neg (.add (.mul (.v 2) (.v 2)) (.mul (.v 6) (.mul (.v 5) (.v 5)))))) (.neg (.add .zero (.neg (.v 4))))) (.add (.add (.add (.mul (.v 0) (.v 4)) (.mul (.v 3) (.v 1))) (.neg (.add (.mul (.v 2) (.v 2)) (.mul (.v 6) (.mul (.v 5) (.v 5)))))) (.neg (.add .zero (.neg (.v 4)))))))) (by decide)
theorem aFx {R : Type} (K : CR R) (c0 c1 c2 c3 c4 c5 q z : R) : (K.add (K.add (K.sub (K.add (K.mul c1 c4) (K.mul c4 c1)) (K.sub K.zero c5)) (K.sub (K.add (K.mul c1 c4) (K.mul c4 c1)) (K.sub K.zero c5))) (K.add (K.mul c1 c4) (K.mul c4 c1))) = (K.add (K.add (K.add (K.add (K.mul c0 c5) (K.mul c2 c3)) (K.mul c4 c1)) (K.add (K.add (K.mul c1 c4) (K.mul c3 c2)) (K.mul c5 c0))) (K.add (K.sub (K.sub (K.add (K.mul c1 c4) (K.mul c4 c1)) (K.add (K.mul c0 c5) (K.mul c3 c2))) (K.sub K.zero c5)) (K.sub (K.sub (K.add (K.mul c1 c4) (K.mul c4 c1)) (K.add (K.mul c0 c5) (K.mul c3 c2))) (K.sub K.zero c5)))) :=
 aE K (aQ K [c0,c1,c2,c3,c4,c5,q,z]) (.add (.add (.add (.add (.mul (.v 1) (.v 4)) (.mul (.v 4) (.v 1))) (.neg (.add .zero (.neg (.v 5))))) (.add (.add (.mul (.v 1) (.v 4)) (.mul (.v 4) (.v 1))) (.neg (.add .zero (.neg (.v 5)))))) (.add (.mul (.v 1) (.v 4)) (.mul (.v 4) (.v 1)))) (.add (.add (.add (.add (.mul (.v 0) (.v 5)) (.mul (.v 2) (.v 3))) (.mul (.v 4) (.v 1))) (.add (.add (.mul (.v 1) (.v 4)) (.mul (.v 3) (.v 2))) (.mul (.v 5) (.v 0)))) (.add (.add (.add (.add (.mul (.v 1) (.v 4)) (.mul (.v 4) (.v 1))) (.neg (.add (.mul (.v 0) (.v 5)) (.mul (.v 3) (.v 2))))) (.neg (.add .zero (.neg (.v 5))))) (.add (.add (.add (.mul (.v 1) (.v 4)) (.mul (.v 4) (.v 1))) (.neg (.add (.mul (.v 0) (.v 5)) (.mul (.v 3) (.v 2))))) (.neg (.add .zero (.neg (.v 5))))))) (by decide)
def zE : Q2:=(Iv,F1.zero)
theorem tt0 (c : Q2) : pM (pM c Pl) Pl = F2.mul F2.one c:=by
 rw [dT,dT,F2.mul_assoc,F2.mul_comm];rw [show F2.mul (Pl,F1.zero) (Pl,F1.zero) = F2.one by decide]
theorem tu0 (c : Q2) : pM c Pl = F2.mul F2.one c:=by
 rw [dT,F2.mul_comm];rw [show (Pl,F1.zero) = F2.one by decide]
theorem tt1 (c : Q2) : pM (pM c Iv) Iv = F2.mul (F2.sub zE F2.one) c:=by
 rw [dT,dT,F2.mul_assoc,F2.mul_comm];rw [show F2.mul (Iv,F1.zero) (Iv,F1.zero) = (F2.sub zE F2.one) by decide]
theorem tu1 (c : Q2) : pM c Iv = F2.mul zE c:=by
 rw [dT,F2.mul_comm];rw [show (Iv,F1.zero) = zE by decide]
theorem tt2 (c : Q2) : pM (pM c Pk) Pk = F2.mul (F2.neg zE) c:=by
 rw [dT,dT,F2.mul_assoc,F2.mul_comm];rw [show F2.mul (Pk,F1.zero) (Pk,F1.zero) = (F2.neg zE) by decide]
theorem tu2 (c : Q2) : pM c Pk = F2.mul (F2.sub zE F2.one) c:=by
 rw [dT,F2.mul_comm];rw [show (Pk,F1.zero) = (F2.sub zE F2.one) by decide]
theorem tt3 (c : Q2) : pM (pM c Pj) Pj = F2.mul F2.one c:=by
 rw [dT,dT,F2.mul_assoc,F2.mul_comm];rw [show F2.mul (Pj,F1.zero) (Pj,F1.zero) = F2.one by decide]
theorem tu3 (c : Q2) : pM c Pj = F2.mul (F2.neg F2.one) c:=by
 rw [dT,F2.mul_comm];rw [show (Pj,F1.zero) = (F2.neg F2.one) by decide]
theorem tt4 (c : Q2) : pM (pM c Pi) Pi = F2.mul (F2.sub zE F2.one) c:=by
 rw [dT,dT,F2.mul_assoc,F2.mul_comm];rw [show F2.mul (Pi,F1.zero) (Pi,F1.zero) = (F2.sub zE F2.one) by decide]
theorem tu4 (c : Q2) : pM c Pi = F2.mul (F2.neg zE) c:=by
 rw [dT,F2.mul_comm];rw [show (Pi,F1.zero) = (F2.neg zE) by decide]
theorem tt5 (c : Q2) : pM (pM c Ph) Ph = F2.mul (F2.neg zE) c:=by
 rw [dT,dT,F2.mul_assoc,F2.mul_comm];rw [show F2.mul (Ph,F1.zero) (Ph,F1.zero) = (F2.neg zE) by decide]
theorem tu5 (c : Q2) : pM c Ph = F2.mul (F2.sub F2.one zE) c:=by
 rw [dT,F2.mul_comm];rw [show (Ph,F1.zero) = (F2.sub F2.one zE) by decide]
theorem zU {R : Type} (K : CR R) {L R' Z Zi A B : R} (h : L = K.add R' (K.mul Z (K.sub A B))) (hz : K.mul Zi Z = K.one) : L = R' ↔ A = B:=by
 constructor
 ·intro e;rw [e] at h;have h1 : K.mul Z (K.sub A B) = K.zero:=by
   have h2 : K.add R' (K.mul Z (K.sub A B)) = K.add R' K.zero:=by rw [← h,K.add_zero]
   exact K.add_cancel h2
  have h3 : K.sub A B = K.zero:=by
   rw [← K.one_mul (K.sub A B),← hz,K.mul_assoc,h1,K.mul_zero]
  exact UN K h3
 ·intro e;rw [h,e,yJ,K.mul_zero,K.add_zero]
abbrev Q4:=Q2 × Q2
def F4 : CR Q4:=F2.sq dC
def s4 (a : Q4) : Q4:=(F2.mul a.2 dC,a.1)
def ND (a : Q4) : Q4:=(a.1,F2.sub F2.zero a.2)
def Wg (a b : Q4) : Q4:=(F2.add (F2.add (F2.sub a.1 b.1) (F2.sub a.1 b.1)) a.1,F2.add (F2.add (F2.sub a.2 b.2) (F2.sub a.2 b.2)) a.2)
def fX (x : aM) : Q4:=(x.1.1,x.2.2.1)
def fY (x : aM) : Q4:=(x.2.1,x.1.2.2)
def fZ (x : aM) : Q4:=(x.1.2.1,x.2.2.2)
def aBY (x y z : Q4) : aM:=((x.1,z.1,y.2),(y.1,x.2,z.2))
def aCi (x : aM) : Prop:=F4.sub (F4.mul (fX x) (fX x)) (s4 (F4.mul (fY x) (fZ x))) = ND (fX x)
def aCh (x : aM) : Prop:=F4.sub (F4.mul (fX x) (fY x)) (s4 (F4.mul (fZ x) (fZ x))) = ND (fY x)
def aCg (x : aM) : Prop:=F4.sub (F4.mul (fY x) (fY x)) (F4.mul (fX x) (fZ x)) = ND (fZ x)
def aTf (x : aM) : aM:=aBY (Wg (F4.mul (fX x) (fX x)) (ND (fX x))) (Wg (s4 (F4.mul (fZ x) (fZ x))) (F4.sub F4.zero (ND (fY x)))) (Wg (F4.mul (fY x) (fY x)) (ND (fZ x)))
theorem nT (x y : aM) : aD.mul x y = (((F2.add (F2.add (F2.mul x.1.1 y.1.1) (F2.mul dC (F2.add (F2.mul x.1.2.1 y.1.2.2) (F2.mul x.1.2.2 y.1.2.1)))) (F2.mul (F2.add (F2.add (F2.mul x.2.1 y.2.2.2) (F2.mul x.2.2.1 y.2.2.1)) (F2.mul x.2.2.2 y.2.1)) dC)),(F2.add (F2.add (F2.add (F2.mul x.1.1 y.1.2.1) (F2.mul x.1.2.1 y.1.1)) (F2.mul dC (F2.mul x.1.2.2 y.1.2.2))) (F2.add (F2.mul x.2.1 y.2.1) (F2.mul dC (F2.add (F2.mul x.2.2.1 y.2.2.2) (F2.mul x.2.2.2 y.2.2.1))))),(F2.add (F2.add (F2.add (F2.mul x.1.1 y.1.2.2) (F2.mul x.1.2.1 y.1.2.1)) (F2.mul x.1.2.2 y.1.1)) (F2.add (F2.add (F2.mul x.2.1 y.2.2.1) (F2.mul x.2.2.1 y.2.1)) (F2.mul dC (F2.mul x.2.2.2 y.2.2.2))))),((F2.add (F2.add (F2.mul x.1.1 y.2.1) (F2.mul dC (F2.add (F2.mul x.1.2.1 y.2.2.2) (F2.mul x.1.2.2 y.2.2.1)))) (F2.add (F2.mul x.2.1 y.1.1) (F2.mul dC (F2.add (F2.mul x.2.2.1 y.1.2.2) (F2.mul x.2.2.2 y.1.2.1))))),(F2.add (F2.add (F2.add (F2.mul x.1.1 y.2.2.1) (F2.mul x.1.2.1 y.2.1)) (F2.mul dC (F2.mul x.1.2.2 y.2.2.2))) (F2.add (F2.add (F2.mul x.2.1 y.1.2.1) (F2.mul x.2.2.1 y.1.1)) (F2.mul dC (F2.mul x.2.2.2 y.1.2.2)))),(F2.add (F2.add (F2.add (F2.mul x.1.1 y.2.2.2) (F2.mul x.1.2.1 y.2.2.1)) (F2.mul x.1.2.2 y.2.1)) (F2.add (F2.add (F2.mul x.2.1 y.1.2.2) (F2.mul x.2.2.1 y.1.2.1)) (F2.mul x.2.2.2 y.1.1))))):=by
 refine Prod.ext ?_ rfl;show F6.add (F6.mul x.1 y.1) (F6.mul vE (F6.mul x.2 y.2)) = _;rw [CO];rfl
theorem aWT (x : aM) : aD.mul (cJ (cJ x)) x = (((F2.add (F2.add (F2.mul (F2.mul F2.one x.1.1) x.1.1) (F2.mul dC (F2.add (F2.mul (F2.mul (F2.neg zE) x.1.2.1) x.1.2.2) (F2.mul (F2.mul (F2.sub zE F2.one) x.1.2.2) x.1.2.1)))) (F2.mul (F2.add (F2.add (F2.mul (F2.mul (F2.sub zE F2.one) x.2.1) x.2.2.2) (F2.mul (F2.mul F2.one x.2.2.1) x.2.2.1)) (F2.mul (F2.mul (F2.neg zE) x.2.2.2) x.2.1)) dC)),(F2.add (F2.add (F2.add (F2.mul (F2.mul F2.one x.1.1) x.1.2.1) (F2.mul (F2.mul (F2.neg zE) x.1.2.1) x.1.1)) (F2.mul dC (F2.mul (F2.mul (F2.sub zE F2.one) x.1.2.2) x.1.2.2))) (F2.add (F2.mul (F2.mul (F2.sub zE F2.one) x.2.1) x.2.1) (F2.mul dC (F2.add (F2.mul (F2.mul F2.one x.2.2.1) x.2.2.2) (F2.mul (F2.mul (F2.neg zE) x.2.2.2) x.2.2.1))))),(F2.add (F2.add (F2.add (F2.mul (F2.mul F2.one x.1.1) x.1.2.2) (F2.mul (F2.mul (F2.neg zE) x.1.2.1) x.1.2.1)) (F2.mul (F2.mul (F2.sub zE F2.one) x.1.2.2) x.1.1)) (F2.add (F2.add (F2.mul (F2.mul (F2.sub zE F2.one) x.2.1) x.2.2.1) (F2.mul (F2.mul F2.one x.2.2.1) x.2.1)) (F2.mul dC (F2.mul (F2.mul (F2.neg zE) x.2.2.2) x.2.2.2))))),((F2.add (F2.add (F2.mul (F2.mul F2.one x.1.1) x.2.1) (F2.mul dC (F2.add (F2.mul (F2.mul (F2.neg zE) x.1.2.1) x.2.2.2) (F2.mul (F2.mul (F2.sub zE F2.one) x.1.2.2) x.2.2.1)))) (F2.add (F2.mul (F2.mul (F2.sub zE F2.one) x.2.1) x.1.1) (F2.mul dC (F2.add (F2.mul (F2.mul F2.one x.2.2.1) x.1.2.2) (F2.mul (F2.mul (F2.neg zE) x.2.2.2) x.1.2.1))))),(F2.add (F2.add (F2.add (F2.mul (F2.mul F2.one x.1.1) x.2.2.1) (F2.mul (F2.mul (F2.neg zE) x.1.2.1) x.2.1)) (F2.mul dC (F2.mul (F2.mul (F2.sub zE F2.one) x.1.2.2) x.2.2.2))) (F2.add (F2.add (F2.mul (F2.mul (F2.sub zE F2.one) x.2.1) x.1.2.1) (F2.mul (F2.mul F2.one x.2.2.1) x.1.1)) (F2.mul dC (F2.mul (F2.mul (F2.neg zE) x.2.2.2) x.1.2.2)))),(F2.add (F2.add (F2.add (F2.mul (F2.mul F2.one x.1.1) x.2.2.2) (F2.mul (F2.mul (F2.neg zE) x.1.2.1) x.2.2.1)) (F2.mul (F2.mul (F2.sub zE F2.one) x.1.2.2) x.2.1)) (F2.add (F2.add (F2.mul (F2.mul (F2.sub zE F2.one) x.2.1) x.1.2.2) (F2.mul (F2.mul F2.one x.2.2.1) x.1.2.1)) (F2.mul (F2.mul (F2.neg zE) x.2.2.2) x.1.1))))):=by
 rw [show cJ (cJ x) = ((F2.mul F2.one x.1.1,F2.mul (F2.neg zE) x.1.2.1,F2.mul (F2.sub zE F2.one) x.1.2.2),(F2.mul (F2.sub zE F2.one) x.2.1,F2.mul F2.one x.2.2.1,F2.mul (F2.neg zE) x.2.2.2)) from Prod.ext (Prod.ext (tt0 _) (Prod.ext (tt2 _) (tt4 _))) (Prod.ext (tt1 _) (Prod.ext (tt3 _) (tt5 _)))];exact nT _ _
theorem aWS (x : aM) : cJ x = (((F2.mul F2.one x.1.1),(F2.mul (F2.sub zE F2.one) x.1.2.1),(F2.mul (F2.neg zE) x.1.2.2)),((F2.mul zE x.2.1),(F2.mul (F2.neg F2.one) x.2.2.1),(F2.mul (F2.sub F2.one zE) x.2.2.2))):=Prod.ext (Prod.ext (tu0 _) (Prod.ext (tu2 _) (tu4 _))) (Prod.ext (tu1 _) (Prod.ext (tu3 _) (tu5 _)))
theorem Jj {a0 a1 a2 a3 a4 a5 b0 b1 b2 b3 b4 b5 : Q2} : (((a0,a2,a4),(a1,a3,a5)) : aM) = ((b0,b2,b4),(b1,b3,b5)) ↔ ((a0 = b0 ∧ a3 = b3) ∧ (a1 = b1 ∧ a4 = b4) ∧ (a2 = b2 ∧ a5 = b5)):=by
 simp only [Prod.mk.injEq];constructor
 ·rintro ⟨⟨h0,h2,h4⟩,h1,h3,h5⟩
  exact ⟨⟨h0,h3⟩,⟨h1,h4⟩,h2,h5⟩
 ·rintro ⟨⟨h0,h3⟩,⟨h1,h4⟩,h2,h5⟩
  exact ⟨⟨h0,h2,h4⟩,h1,h3,h5⟩
theorem yZ {a b : Q4} : a = b ↔ (a.1 = b.1 ∧ a.2 = b.2):=⟨fun h => by rw [h]; exact ⟨rfl,rfl⟩,fun h => Prod.ext h.1 h.2⟩
theorem Nb (x : aM) : aD.mul (cJ (cJ x)) x = cJ x ↔ (aCi x ∧ aCh x ∧ aCg x):=by
 rw [aWT,aWS,Jj];unfold aCi aCh aCg;rw [yZ,yZ,yZ];have e0:=zU F2 (aIV F2 x.1.1 x.2.1 x.1.2.1 x.2.2.1 x.1.2.2 x.2.2.2 dC zE) (show F2.mul F2.one F2.one = F2.one by decide);have e1:=zU F2 (aIU F2 x.1.1 x.2.1 x.1.2.1 x.2.2.1 x.1.2.2 x.2.2.2 dC zE) (show F2.mul (F2.sub F2.one zE) zE = F2.one by decide);have e2:=zU F2 (aIT F2 x.1.1 x.2.1 x.1.2.1 x.2.2.1 x.1.2.2 x.2.2.2 dC zE) (show F2.mul (F2.neg zE) (F2.sub zE F2.one) = F2.one by decide);have e3:=zU F2 (aIS F2 x.1.1 x.2.1 x.1.2.1 x.2.2.1 x.1.2.2 x.2.2.2 dC zE) (show F2.mul F2.one F2.one = F2.one by decide);have e4:=zU F2 (aIR F2 x.1.1 x.2.1 x.1.2.1 x.2.2.1 x.1.2.2 x.2.2.2 dC zE) (show F2.mul (F2.sub F2.one zE) zE = F2.one by decide);have e5:=zU F2 (aIQ F2 x.1.1 x.2.1 x.1.2.1 x.2.2.1 x.1.2.2 x.2.2.2 dC zE) (show F2.mul (F2.neg zE) (F2.sub zE F2.one) = F2.one by decide);constructor
 ·rintro ⟨⟨h0,h3⟩,⟨h1,h4⟩,h2,h5⟩
  exact ⟨⟨e0.1 h0,e3.1 h3⟩,⟨e1.1 h1,e4.1 h4⟩,⟨e2.1 h2,e5.1 h5⟩⟩
 ·rintro ⟨⟨h0,h3⟩,⟨h1,h4⟩,⟨h2,h5⟩⟩
  exact ⟨⟨e0.2 h0,e3.2 h3⟩,⟨e1.2 h1,e4.2 h4⟩,⟨e2.2 h2,e5.2 h5⟩⟩
theorem SI {R : Type} (K : CR R) {t s a b : R} (h : t = K.add s (K.add (K.sub a b) (K.sub a b))) (e : a = b) : t = s:=by
 rw [h,e,yJ,K.add_zero,K.add_zero]
theorem Wy {R : Type} (K : CR R) {t s a b : R} (h : t = K.sub s (K.add (K.sub a b) (K.sub a b))) (e : a = b) : t = s:=by
 rw [h,e,yJ,K.add_zero];show K.add s (K.neg K.zero) = s;rw [bI,K.add_zero]
theorem aMF (x : aM) (h : aCi x ∧ aCh x ∧ aCg x) : aTf x = aD.mul x x:=by
 unfold aCi aCh aCg at h;rw [yZ,yZ,yZ] at h;obtain ⟨⟨h0,h3⟩,⟨h1,h4⟩,h2,h5⟩:=h;rw [nT];have hz : aD.zero = aD.zero:=rfl;refine Jj.2 ⟨⟨?_,?_⟩,⟨?_,?_⟩,?_,?_⟩
 ·exact SI F2 (aFC F2 x.1.1 x.2.1 x.1.2.1 x.2.2.1 x.1.2.2 x.2.2.2 dC zE) h0
 ·exact SI F2 (aFz F2 x.1.1 x.2.1 x.1.2.1 x.2.2.1 x.1.2.2 x.2.2.2 dC zE) h3
 ·exact Wy F2 (aFB F2 x.1.1 x.2.1 x.1.2.1 x.2.2.1 x.1.2.2 x.2.2.2 dC zE) h1
 ·exact Wy F2 (aFy F2 x.1.1 x.2.1 x.1.2.1 x.2.2.1 x.1.2.2 x.2.2.2 dC zE) h4
 ·exact SI F2 (aFA F2 x.1.1 x.2.1 x.1.2.1 x.2.2.1 x.1.2.2 x.2.2.2 dC zE) h2
 ·exact SI F2 (aFx F2 x.1.1 x.2.1 x.1.2.1 x.2.2.1 x.1.2.2 x.2.2.2 dC zE) h5
def qH (x : aM) : Prop:=x ≠ aD.zero ∧ aD.mul (cJ (cJ x)) x = cJ x
end Go.Proofs.YtglgakbkdjhojaaGreat.Ex
namespace Go.Proofs.YtglgakbkdjhojaaGreat
open Go.Proofs.Tryz
open Go.RowKit
theorem yS (x y c : Nat) (hc : c ≤ 1) (w : World) :
  (callFunc 119 #[.int .u64 (x : Int),.int .u64 (y : Int),.int .u64 (c : Int)]).run prog w =
   .ok (.value (.tuple #[.int .u64 (Ha x y c : Nat),.int .u64 (Hb x y c : Nat)])) w:=by
 rw [run_callFunc_extern func119 (by kernel_rfl) (by kernel_rfl) (by kernel_rfl) (e:=add64Entry) (by kernel_rfl),run_add64 x y c (by omega) (by omega) (by omega) (by omega)];simp only [Result.andThen];unfold Ha Hb;congr 5 <;> omega
theorem Ds (x y : Nat) (w : World) :
  (callFunc 119 #[.int .u64 (x : Int),.int .u64 (y : Int),.int .u64 0]).run prog w =
   .ok (.value (.tuple #[.int .u64 (Ha x y 0 : Nat),.int .u64 (Hb x y 0 : Nat)])) w:=yS x y 0 (by omega) w
def Wz : Array Value → Sem Value:=fun args => do
 let (x,y,b) ← Extern.MathBitsCarry.three "Sub64" args
 pure (Extern.MathBitsCarry.pair ((x + Extern.MathBitsCarry.m64 - y - b) % Extern.MathBitsCarry.m64) (if x < y + b then 1 else 0))
theorem Cb {P : Program} (x y b : Nat) (hb : b ≤ 1) (w : World) :
  (Wz #[.int .u64 x,.int .u64 y,.int .u64 b]).run P w = .ok (.tuple #[.int .u64 (Bj x y b : Nat),.int .u64 (Bl x y b : Nat)]) w:=by
 have : b = 0 ∨ b = 1:=by omega
 rcases this with rfl | rfl <;> rfl
theorem KV (x y c : Nat) (hc : c ≤ 1) (w : World) :
  (callFunc 123 #[.int .u64 (x : Int),.int .u64 (y : Int),.int .u64 (c : Int)]).run prog w =
   .ok (.value (.tuple #[.int .u64 (Bj x y c : Nat),.int .u64 (Bl x y c : Nat)])) w:=by
 rw [run_callFunc_extern func123 (by kernel_rfl) (by kernel_rfl) (by kernel_rfl) (e:=Wz) (by kernel_rfl),Cb x y c hc];rfl
theorem Dq (x y : Nat) (w : World) :
  (callFunc 123 #[.int .u64 (x : Int),.int .u64 (y : Int),.int .u64 0]).run prog w =
   .ok (.value (.tuple #[.int .u64 (Bj x y 0 : Nat),.int .u64 (Bl x y 0 : Nat)])) w:=KV x y 0 (by omega) w
theorem pH {x y c : Nat} (hx : x < 18446744073709551616) (hy : y < 18446744073709551616) (hc : c ≤ 1) : ∃ d b : Nat,(∀ w,(callFunc 119 #[.int .u64 (x : Int),.int .u64 (y : Int),.int .u64 (c : Int)]).run prog w =
   .ok (.value (.tuple #[.int .u64 (d : Int),.int .u64 (b : Int)])) w) ∧ d < 18446744073709551616 ∧ b ≤ 1 ∧ Hid (d + 18446744073709551616 * b = x + y + c) :=
 ⟨_,_,yS x y c hc,SJ _ _ _,SK hx hy hc,aEs x y c⟩
theorem pG {x y : Nat} (hx : x < 18446744073709551616) (hy : y < 18446744073709551616) : ∃ d b : Nat,(∀ w,(callFunc 119 #[.int .u64 (x : Int),.int .u64 (y : Int),.int .u64 0]).run prog w =
   .ok (.value (.tuple #[.int .u64 (d : Int),.int .u64 (b : Int)])) w) ∧ d < 18446744073709551616 ∧ b ≤ 1 ∧ Hid (d + 18446744073709551616 * b = x + y) :=
 ⟨_,_,Ds x y,SJ _ _ _,SK hx hy (Nat.zero_le _),aEs x y 0⟩
theorem pF {x y c : Nat} (hx : x < 18446744073709551616) (hy : y < 18446744073709551616) (hc : c ≤ 1) : ∃ d b : Nat,(∀ w,(callFunc 123 #[.int .u64 (x : Int),.int .u64 (y : Int),.int .u64 (c : Int)]).run prog w =
   .ok (.value (.tuple #[.int .u64 (d : Int),.int .u64 (b : Int)])) w) ∧ d < 18446744073709551616 ∧ b ≤ 1 ∧ Hid (d + y + c = x + 18446744073709551616 * b) :=
 ⟨_,_,KV x y c hc,It _ _ _,Iu _ _ _,aJO hx hy hc⟩
theorem MP {x y : Nat} (hx : x < 18446744073709551616) (hy : y < 18446744073709551616) : ∃ d b : Nat,(∀ w,(callFunc 123 #[.int .u64 (x : Int),.int .u64 (y : Int),.int .u64 0]).run prog w =
   .ok (.value (.tuple #[.int .u64 (d : Int),.int .u64 (b : Int)])) w) ∧ d < 18446744073709551616 ∧ b ≤ 1 ∧ Hid (d + y = x + 18446744073709551616 * b) :=
 ⟨_,_,Dq x y,It _ _ _,Iu _ _ _,aJO hx hy (Nat.zero_le _)⟩
def aJC (A B : Nat) (w : World) (e : Ending) (w' : World) : Prop :=
 ∃ s0 s1 s2 s3 c : Nat,e = .returned (.tuple #[.agg #[.int .u64 s0,.int .u64 s1,.int .u64 s2,.int .u64 s3],.int .u64 c]) ∧ cO s0 s1 s2 s3 ∧ c ≤ 1 ∧ aF s0 s1 s2 s3 + 115792089237316195423570985008687907853269984665640564039457584007913129639936 * c = A + B ∧ Below w.heap.size w w'
def aJx (A B : Nat) (w : World) (e : Ending) (w' : World) : Prop :=
 ∃ s0 s1 s2 s3 c : Nat,e = .returned (.tuple #[.agg #[.int .u64 s0,.int .u64 s1,.int .u64 s2,.int .u64 s3],.int .u64 c]) ∧ cO s0 s1 s2 s3 ∧ c ≤ 1 ∧ aF s0 s1 s2 s3 + B = A + 115792089237316195423570985008687907853269984665640564039457584007913129639936 * c ∧ Below w.heap.size w w'
theorem AI (a0 a1 a2 a3 b0 b1 b2 b3 : Nat) (ha : cO a0 a1 a2 a3) (hb : cO b0 b1 b2 b3) (w : World) :
  Calls prog 166 #[.agg #[.int .u64 a0,.int .u64 a1,.int .u64 a2,.int .u64 a3],.agg #[.int .u64 b0,.int .u64 b1,.int .u64 b2,.int .u64 b3]] w (aJC (aF a0 a1 a2 a3) (aF b0 b1 b2 b3) w):=by
 obtain ⟨s0,c0,r0,bs0,bc0,e0⟩:=pG ha.1 hb.1;obtain ⟨s1,c1,r1,bs1,bc1,e1⟩:=pH ha.2.1 hb.2.1 bc0;obtain ⟨s2,c2,r2,bs2,bc2,e2⟩:=pH ha.2.2.1 hb.2.2.1 bc1;obtain ⟨s3,c3,r3,bs3,bc3,e3⟩:=pH ha.2.2.2 hb.2.2.2 bc2
 go_enter func166,ntmps166
 go_wp2
 refine wp_loop_rounds 5 ?_;rw [rounds_succ]
 go_wp2
 go_region
 go_wp2
 rw [rounds_succ]
 go_wp2
 go_region
 go_wp2
 rw [rounds_succ]
 go_wp2
 go_region
 go_wp2
 rw [rounds_succ]
 go_wp2
 go_region
 go_wp2
 rw [rounds_succ]
 go_wp2
 refine bodyPost_ret (v:=.tuple #[.agg #[.int .u64 s0,.int .u64 s1,.int .u64 s2,.int .u64 s3],.int .u64 c3]) (by simp [results,results166,go_sem]) rfl ?_;refine ⟨_,_,_,_,_,rfl,⟨bs0,bs1,bs2,bs3⟩,bc3,by have:=e0.out; have:=e1.out; have:=e2.out; have:=e3.out; unfold aF; omega,?_⟩
 repeat (first | exact Below.refl _ _ | refine Below.drew ?_ | refine Below.alloc ?_ (by first | (simp; done) | (simp; omega)) _)
theorem sV (a0 a1 a2 a3 b0 b1 b2 b3 : Nat) (ha : cO a0 a1 a2 a3) (hb : cO b0 b1 b2 b3) (w : World) :
  Calls prog 203 #[.agg #[.int .u64 a0,.int .u64 a1,.int .u64 a2,.int .u64 a3],.agg #[.int .u64 b0,.int .u64 b1,.int .u64 b2,.int .u64 b3]] w (aJx (aF a0 a1 a2 a3) (aF b0 b1 b2 b3) w):=by
 obtain ⟨s0,c0,r0,bs0,bc0,e0⟩:=MP ha.1 hb.1;obtain ⟨s1,c1,r1,bs1,bc1,e1⟩:=pF ha.2.1 hb.2.1 bc0;obtain ⟨s2,c2,r2,bs2,bc2,e2⟩:=pF ha.2.2.1 hb.2.2.1 bc1;obtain ⟨s3,c3,r3,bs3,bc3,e3⟩:=pF ha.2.2.2 hb.2.2.2 bc2
 go_enter func203,ntmps203
 go_wp2
 refine wp_loop_rounds 5 ?_;rw [rounds_succ]
 go_wp2
 go_region
 go_wp2
 rw [rounds_succ]
 go_wp2
 go_region
 go_wp2
 rw [rounds_succ]
 go_wp2
 go_region
 go_wp2
 rw [rounds_succ]
 go_wp2
 go_region
 go_wp2
 rw [rounds_succ]
 go_wp2
 refine bodyPost_ret (v:=.tuple #[.agg #[.int .u64 s0,.int .u64 s1,.int .u64 s2,.int .u64 s3],.int .u64 c3]) (by simp [results,results203,go_sem]) rfl ?_;refine ⟨_,_,_,_,_,rfl,⟨bs0,bs1,bs2,bs3⟩,bc3,by have:=e0.out; have:=e1.out; have:=e2.out; have:=e3.out; unfold aF; omega,?_⟩
 repeat (first | exact Below.refl _ _ | refine Below.drew ?_ | refine Below.alloc ?_ (by first | (simp; done) | (simp; omega)) _)
theorem IS {W w1 : World} (hb : Below W.heap.size W w1) : (∀ b o,b < W.heap.size → w1.cell? ⟨b,o,none⟩ = W.cell? ⟨b,o,none⟩) ∧ (∀ b o,b < W.heap.size → w1.frozen? ⟨b,o,none⟩ = W.frozen? ⟨b,o,none⟩) :=
 ⟨fun b o h => hb.cell (p:=⟨b,o,none⟩) h,fun b o h => hb.frozen (p:=⟨b,o,none⟩) h⟩
def eqW (a0 a1 a2 a3 b0 b1 b2 b3 : Nat) : Bool:=decide (a0 = b0 ∧ a1 = b1 ∧ a2 = b2 ∧ a3 = b3)
theorem aDb (d : Nat) (a0 a1 a2 a3 b0 b1 b2 b3 : Nat) (w : World) : (Op.equalIn (d + 1 + 1) 24 (.agg #[.int .u64 a0,.int .u64 a1,.int .u64 a2,.int .u64 a3]) (.agg #[.int .u64 b0,.int .u64 b1,.int .u64 b2,.int .u64 b3])).run prog w = .ok (eqW a0 a1 a2 a3 b0 b1 b2 b3) w:=by
 have h0 : ∀ (x y : Int) (w : World),(Op.equalIn (d + 1) 22 (.int .u64 x) (.int .u64 y)).run prog w = .ok (x == y) w:=fun x y w => run_equalIn_int w d 22 .u64 .u64 x y underlying22
 rw [Op.equalIn];simp only [Sem.run_bind,run_underlying underlying24,Result.andThen_ok,Tryz.sizeOf22];simp [Std.Legacy.Range.forIn_eq_forIn_range',Std.Legacy.Range.size,List.range',part,h0,Sem.run_bind,Result.andThen_ok];unfold eqW
 by_cases q0 : a0 = b0 <;> by_cases q1 : a1 = b1 <;> by_cases q2 : a2 = b2 <;> by_cases q3 : a3 = b3 <;> simp [q0,q1,q2,q3] <;> omega
theorem aDe : prog.eqGuardType prog.depth 24 = false:=by kernel_rfl
theorem RI {a0 a1 a2 a3 b0 b1 b2 b3 : Nat} (ha : cO a0 a1 a2 a3) (hb : cO b0 b1 b2 b3) : eqW a0 a1 a2 a3 b0 b1 b2 b3 = true ↔ aF a0 a1 a2 a3 = aF b0 b1 b2 b3:=by
 unfold eqW; rw [decide_eq_true_iff];exact ⟨fun ⟨h0,h1,h2,h3⟩ => by rw [h0,h1,h2,h3],TT ha hb⟩
def AC (A B : Nat) : Int:=if A = B then 0 else if A < B then -1 else 1
end Go.Proofs.YtglgakbkdjhojaaGreat
namespace Go.Proofs
open Go.Shelf
def Tryz.lays134_ren : Go.Shelf.Ren:=⟨fun | 134 => 273 | 129 => 262 | n => n,fun | 53 => 22 | 3 => 3 | 4 => 4 | 46 => 139 | 5 => 5 | 9 => 9 | n => n,fun | n => n⟩
theorem Tryz.lays134 : Go.Proofs.Lays.n134 prog Tryz.lays134_ren:={
 mixed:=by kernel_rfl
 f129:=func262.trans (congrArg some (by kernel_rfl))
 f134:=func273.trans (congrArg some (by kernel_rfl))
 t3:=underlying3
 a3:=Tryz.isAgg3
 z3:=Tryz.sizeOf3
 v3:=Tryz.zeroValue3
 t4:=underlying4
 a4:=Tryz.isAgg4
 z4:=Tryz.sizeOf4
 v4:=Tryz.zeroValue4
 t5:=underlying5
 a5:=Tryz.isAgg5
 z5:=Tryz.sizeOf5
 v5:=Tryz.zeroValue5
 t9:=underlying9
 a9:=Tryz.isAgg9
 z9:=Tryz.sizeOf9
 v9:=Tryz.zeroValue9
 t46:=underlying139
 a46:=Tryz.isAgg139
 z46:=Tryz.sizeOf139
 v46:=Tryz.zeroValue139
 t53:=underlying22
 a53:=Tryz.isAgg22
 z53:=Tryz.sizeOf22
 v53:=Tryz.zeroValue22 }
theorem Tryz.bits_LeadingZeros64 (x : Int) (w : World) (h0 : 0 ≤ x) (h1 : x ≤ 18446744073709551615) :
  Calls prog 273 #[.int .u64 x] w fun e w' => e = .returned (.int .i64 (64 - (Lib.bitLen x.toNat : Int))) ∧ w' = w:=Any.bits_LeadingZeros64 Tryz.lays134 x w h0 h1
def Tryz.lays129_ren : Go.Shelf.Ren:=⟨fun | 129 => 262 | n => n,fun | 53 => 22 | 3 => 3 | 4 => 4 | 46 => 139 | 5 => 5 | 9 => 9 | n => n,fun | n => n⟩
theorem Tryz.lays129 : Go.Proofs.Lays.n129 prog Tryz.lays129_ren:={
 mixed:=by kernel_rfl
 f129:=func262.trans (congrArg some (by kernel_rfl))
 t3:=underlying3
 a3:=Tryz.isAgg3
 z3:=Tryz.sizeOf3
 v3:=Tryz.zeroValue3
 t4:=underlying4
 a4:=Tryz.isAgg4
 z4:=Tryz.sizeOf4
 v4:=Tryz.zeroValue4
 t5:=underlying5
 a5:=Tryz.isAgg5
 z5:=Tryz.sizeOf5
 v5:=Tryz.zeroValue5
 t9:=underlying9
 a9:=Tryz.isAgg9
 z9:=Tryz.sizeOf9
 v9:=Tryz.zeroValue9
 t46:=underlying139
 a46:=Tryz.isAgg139
 z46:=Tryz.sizeOf139
 v46:=Tryz.zeroValue139
 t53:=underlying22
 a53:=Tryz.isAgg22
 z53:=Tryz.sizeOf22
 v53:=Tryz.zeroValue22 }
theorem Tryz.bits_Len64 (x : Int) (w : World) (h0 : 0 ≤ x) (h1 : x ≤ 18446744073709551615) :
  Calls prog 262 #[.int .u64 x] w fun e w' => e = .returned (.int .i64 (Lib.bitLen x.toNat)) ∧ w' = w:=Any.bits_Len64 Tryz.lays129 x w h0 h1
def Tryz.lays264_ren : Go.Shelf.Ren:=⟨fun | 264 => 175 | n => n,fun | 53 => 22 | 46 => 139 | n => n,fun | n => n⟩
theorem Tryz.lays264 : Go.Proofs.Lays.n264 prog Tryz.lays264_ren:={
 mixed:=by kernel_rfl
 f264:=func175.trans (congrArg some (by kernel_rfl))
 t46:=underlying139
 a46:=Tryz.isAgg139
 z46:=Tryz.sizeOf139
 v46:=Tryz.zeroValue139
 t53:=underlying22
 a53:=Tryz.isAgg22
 z53:=Tryz.sizeOf22
 v53:=Tryz.zeroValue22 }
open Go.RowKit Go.Lib in
theorem Tryz.bits_Mul64 (x y : Nat) (hx : x < 18446744073709551616) (hy : y < 18446744073709551616) (w : World) :
  Calls prog 175 #[.int .u64 x,.int .u64 y] w fun e w' => e = .returned (.tuple #[.int .u64 ((x * y / 18446744073709551616 : Nat) : Int),.int .u64 ((x * y % 18446744073709551616 : Nat) : Int)]) ∧ w' = w:=Any.bits_Mul64 Tryz.lays264 x y hx hy w
end Go.Proofs
namespace Go.Proofs.YtglgakbkdjhojaaGreat
open Go.Proofs.Tryz
open Go.RowKit
theorem YU (x y : Nat) (hx : x < 18446744073709551616) (hy : y < 18446744073709551616) (w : World) :
  Calls prog 175 #[.int .u64 x,.int .u64 y] w fun e w' => e = .returned (.tuple #[.int .u64 (aBy x y : Nat),.int .u64 (aBx x y : Nat)]) ∧ w' = w :=
 Tryz.bits_Mul64 x y hx hy w
theorem ZQ {x y : Nat} (hx : x < 18446744073709551616) (hy : y < 18446744073709551616) : ∃ h l : Nat,(∀ w,Calls prog 175 #[.int .u64 x,.int .u64 y] w fun e w' => e = .returned (.tuple #[.int .u64 (h : Nat),.int .u64 (l : Nat)]) ∧ w' = w) ∧ h ≤ 18446744073709551614 ∧ l < 18446744073709551616 ∧ Hid (l + 18446744073709551616 * h = x * y) :=
 ⟨_,_,YU x y hx hy,aHH hx hy,aHG _ _,aUz x y⟩
def aRU (A y : Nat) (w : World) (e : Ending) (w' : World) : Prop :=
 ∃ s0 s1 s2 s3 o : Nat,e = .returned (.tuple #[.int .u64 o,.agg #[.int .u64 s0,.int .u64 s1,.int .u64 s2,.int .u64 s3]]) ∧ cO s0 s1 s2 s3 ∧ o < 18446744073709551616 ∧ aF s0 s1 s2 s3 + 115792089237316195423570985008687907853269984665640564039457584007913129639936 * o = A * y ∧ Below w.heap.size w w'
theorem Mv {x y o : Nat} (hx : x < 18446744073709551616) (hy : y < 18446744073709551616) (ho : o < 18446744073709551616) : ∃ h l d b p : Nat,(∀ w,Calls prog 175 #[.int .u64 x,.int .u64 y] w fun e w' => e = .returned (.tuple #[.int .u64 (h : Nat),.int .u64 (l : Nat)]) ∧ w' = w) ∧
  (∀ w,(callFunc 119 #[.int .u64 (l : Int),.int .u64 (o : Int),.int .u64 0]).run prog w = .ok (.value (.tuple #[.int .u64 (d : Int),.int .u64 (b : Int)])) w) ∧ h ≤ 18446744073709551614 ∧ b ≤ 1 ∧ d < 18446744073709551616 ∧ p < 18446744073709551616 ∧ ((h : Int) + (b : Int) = (p : Int)) ∧ Hid (d + 18446744073709551616 * p = x * y + o):=by
 obtain ⟨h,l,r,hh,hl,e⟩:=ZQ hx hy;obtain ⟨d,b,r',hd,hb,e'⟩:=pG hl ho;exact ⟨h,l,d,b,h + b,r,r',hh,hb,hd,by omega,by omega,Lib.hid (by have:=e.out; have:=e'.out; omega)⟩
theorem aQn {x y : Nat} (hx : x < 18446744073709551616) (hy : y < 18446744073709551616) : ∃ h l d b p : Nat,(∀ w,Calls prog 175 #[.int .u64 x,.int .u64 y] w fun e w' => e = .returned (.tuple #[.int .u64 (h : Nat),.int .u64 (l : Nat)]) ∧ w' = w) ∧
  (∀ w,(callFunc 119 #[.int .u64 (l : Int),.int .u64 0,.int .u64 0]).run prog w = .ok (.value (.tuple #[.int .u64 (d : Int),.int .u64 (b : Int)])) w) ∧ h ≤ 18446744073709551614 ∧ b ≤ 1 ∧ d < 18446744073709551616 ∧ p < 18446744073709551616 ∧ ((h : Int) + (b : Int) = (p : Int)) ∧ Hid (d + 18446744073709551616 * p = x * y):=by
 obtain ⟨h,l,d,b,p,r,r',hh,hb,hd,hp,q,e⟩:=Mv hx hy (by omega : 0 < 18446744073709551616);exact ⟨h,l,d,b,p,r,r',hh,hb,hd,hp,q,e⟩
theorem UA (a0 a1 a2 a3 y : Nat) (ha : cO a0 a1 a2 a3) (hy : y < 18446744073709551616) (w : World) :
  Calls prog 271 #[.agg #[.int .u64 a0,.int .u64 a1,.int .u64 a2,.int .u64 a3],.int .u64 y] w (aRU (aF a0 a1 a2 a3) y w):=by
 obtain ⟨h0,l0,d0,b0,o0,m0,r0,bh0,bb0,bd0,bo0,q0,e0⟩:=aQn ha.1 hy;obtain ⟨h1,l1,d1,b1,o1,m1,r1,bh1,bb1,bd1,bo1,q1,e1⟩:=Mv ha.2.1 hy bo0;obtain ⟨h2,l2,d2,b2,o2,m2,r2,bh2,bb2,bd2,bo2,q2,e2⟩:=Mv ha.2.2.1 hy bo1;obtain ⟨h3,l3,d3,b3,o3,m3,r3,bh3,bb3,bd3,bo3,q3,e3⟩:=Mv ha.2.2.2 hy bo2;have HF : Hid (aF d0 d1 d2 d3 + 115792089237316195423570985008687907853269984665640564039457584007913129639936 * o3 = aF a0 a1 a2 a3 * y):=Lib.hid (by
  have:=e0.out; have:=e1.out; have:=e2.out; have:=e3.out;unfold aF; simp only [Nat.add_mul,Nat.mul_assoc]; omega)
 clear e0 e1 e2 e3
 go_enter func271,ntmps271
 go_wp2_with fail;refine wp_loop_rounds 5 ?_;rw [rounds_succ];go_wp2_with fail;refine (m0 _).mono ?_
 rintro e w' ⟨rfl,rfl⟩
 go_wp2_with fail;rw [rounds_succ];go_wp2_with fail;refine (m1 _).mono ?_
 rintro e w' ⟨rfl,rfl⟩
 go_wp2_with fail;rw [rounds_succ];go_wp2_with fail;refine (m2 _).mono ?_
 rintro e w' ⟨rfl,rfl⟩
 go_wp2_with fail;rw [rounds_succ];go_wp2_with fail;refine (m3 _).mono ?_
 rintro e w' ⟨rfl,rfl⟩
 go_wp2_with fail;rw [rounds_succ];go_wp2_with fail
 go_region
 all_goals (
  go_wp2
  refine bodyPost_ret (v:=.tuple #[.int .u64 o3,.agg #[.int .u64 d0,.int .u64 d1,.int .u64 d2,.int .u64 d3]]) (by simp [results,results271,go_sem]) rfl ?_;refine ⟨_,_,_,_,_,rfl,⟨bd0,bd1,bd2,bd3⟩,bo3,HF.out,?_⟩
  repeat (first | exact Below.refl _ _ | refine Below.drew ?_ | refine Below.alloc ?_ (by first | (simp; done) | (simp; omega)) _))
theorem KO (x : Nat) (h : x < 18446744073709551616) : IntKind.u64.wrap (x : Int) = (x : Int):=by rw [IntKind.wrap_u64]; omega
theorem pP (x : Nat) : IntKind.u64.wrap (x : Int) = ((x % 18446744073709551616 : Nat) : Int):=by rw [IntKind.wrap_u64]; omega
theorem jI (x S : Nat) : (x : Int) * 2 ^ S = ((x * 2 ^ S : Nat) : Int):=by rw [Int.natCast_mul,Int.natCast_pow]; rfl
theorem zB (S : Nat) (h : S ≤ 63) : 2 ^ (64 - S) * 2 ^ S = 18446744073709551616:=by
 rw [← Nat.pow_add,show 64 - S + S = 64 by omega]
theorem aDn {hi lo y S : Nat} (h2 : hi < y) (hl : lo < 18446744073709551616) (hS : S ≤ 63) (hY : y * 2 ^ S < 18446744073709551616) :
  ∃ u L : Nat,bits .or .u64 (IntKind.u64.wrap ((hi : Int) * 2 ^ S)) ((lo : Int) / 2 ^ (64 - S)) = (u : Int) ∧ IntKind.u64.wrap ((lo : Int) * 2 ^ S) = (L : Int) ∧ u < y * 2 ^ S ∧ L < 18446744073709551616 ∧ u * 18446744073709551616 + L = (hi * 18446744073709551616 + lo) * 2 ^ S:=by
 have hp : 0 < 2 ^ S:=Nat.two_pow_pos S;have hps:=zB S hS;have hb : lo / 2 ^ (64 - S) < 2 ^ S:=by
  rw [Nat.div_lt_iff_lt_mul (Nat.two_pow_pos _),Nat.mul_comm,hps]; exact hl
 have hhi : hi * 2 ^ S + 2 ^ S ≤ y * 2 ^ S:=by
  have:=Nat.mul_le_mul_right (2 ^ S) (show hi + 1 ≤ y by omega);rw [Nat.add_mul] at this; omega
 have hd : lo * 2 ^ S / 18446744073709551616 = lo / 2 ^ (64 - S):=by
  rw [← hps]; exact Nat.mul_div_mul_right _ _ hp
 refine ⟨hi * 2 ^ S + lo / 2 ^ (64 - S),lo * 2 ^ S % 18446744073709551616,?_,?_,?_,by omega,?_⟩
 ·rw [jI,KO _ (by omega),show ((lo : Int) / 2 ^ (64 - S)) = ((lo / 2 ^ (64 - S) : Nat) : Int) by rw [Int.natCast_ediv,Int.natCast_pow]; rfl,
   bits_or_u64_nat _ _ (by omega) (by omega),Nat.mul_comm hi,Nat.two_pow_add_eq_or_of_lt hb]
 ·rw [jI,pP]
 ·omega
 ·rw [Nat.add_mul,← hd];have e : (hi * 18446744073709551616 + lo) * 2 ^ S = hi * 2 ^ S * 18446744073709551616 + lo * 2 ^ S:=by
   rw [Nat.add_mul,Nat.mul_right_comm]
  rw [e]; omega
theorem Mz {Y : Nat} (h : Y < 18446744073709551616) : ∃ a b : Nat,(Y : Int) / 4294967296 = (a : Int) ∧ bits .and .u64 (Y : Int) 4294967295 = (b : Int) ∧ a < 4294967296 ∧ b < 4294967296 ∧ Y = a * 4294967296 + b:=by
 refine ⟨Y / 4294967296,Y % 4294967296,by omega,?_,by omega,by omega,by omega⟩;have h':=bits_and_u64_nat Y 4294967295 h (by omega);rw [show Y &&& 4294967295 = Y % 4294967296 from Nat.and_two_pow_sub_one_eq_mod Y 32] at h';exact h'
theorem aYJ (u y1 : Nat) (h : 0 < y1) : ∃ q r : Nat,(u : Int) / (y1 : Int) = (q : Int) ∧ (u : Int) - (q : Int) * (y1 : Int) = (r : Int) ∧ q * y1 + r = u ∧ r < y1:=by
 have e:=Nat.div_add_mod u y1;rw [Nat.mul_comm] at e;refine ⟨u / y1,u % y1,(Int.natCast_ediv u y1).symm,?_,e,Nat.mod_lt _ h⟩;rw [← Int.natCast_mul]; omega
def KI (y1 y0 u u1 q r : Nat) : Prop:=q * y1 + r = u ∧ (u * 4294967296 + u1) / (y1 * 4294967296 + y0) ≤ q ∧ q ≤ 4294967297 ∧ r < 4294967296
structure KS (y1 y0 u u1 : Nat) : Prop where
 a1 : y1 < 4294967296
 a2 : 2147483648 ≤ y1
 a3 : y0 < 4294967296
 a4 : u < y1 * 4294967296 + y0
 a5 : u1 < 4294967296
section
variable {y1 y0 u u1 q r : Nat}
theorem QJ (q y1 y0 : Nat) : q * (y1 * 4294967296 + y0) = q * y1 * 4294967296 + q * y0:=by rw [Nat.mul_add,Nat.mul_assoc]
theorem aBT (s : KS y1 y0 u u1) : 0 < y1 * 4294967296 + y0:=by have:=s.a2; omega
theorem aBU (s : KS y1 y0 u u1) (e : q * y1 + r = u) (h : r < y1) : KI y1 y0 u u1 q r:=by
 obtain ⟨b1,b2,b3,b4,b5⟩:=s;refine ⟨e,?_,?_,by omega⟩
 ·rw [← Nat.lt_succ_iff,Nat.div_lt_iff_lt_mul (by omega),QJ];have : (q + 1) * y1 = q * y1 + y1:=by rw [Nat.add_mul,Nat.one_mul]
  rw [Nat.succ_eq_add_one,this]; omega
 ·rcases Nat.lt_or_ge q 4294967298 with h' | h'
  ·omega
  ·have:=Nat.mul_le_mul_right y1 h';omega
theorem aUK (s : KS y1 y0 u u1) : (u * 4294967296 + u1) / (y1 * 4294967296 + y0) < 4294967296:=by
 obtain ⟨b1,b2,b3,b4,b5⟩:=s;rw [Nat.div_lt_iff_lt_mul (by omega)]; omega
theorem aKS (s : KS y1 y0 u u1) (e : q * y1 + r = u) (h : q * y0 ≤ 4294967296 * r + u1) : q ≤ (u * 4294967296 + u1) / (y1 * 4294967296 + y0):=by
 rw [Nat.le_div_iff_mul_le (aBT s),QJ]; omega
theorem aPd (s : KS y1 y0 u u1) (k : KI y1 y0 u u1 q r) (h : q * y0 ≤ 4294967296 * r + u1) : q = (u * 4294967296 + u1) / (y1 * 4294967296 + y0) :=
 Nat.le_antisymm (aKS s k.1 h) k.2.1
theorem aUL (s : KS y1 y0 u u1) (k : KI y1 y0 u u1 q r) (h : 4294967296 * r + u1 < q * y0) : (u * 4294967296 + u1) / (y1 * 4294967296 + y0) + 1 ≤ q:=by
 rw [Nat.succ_le_iff,Nat.div_lt_iff_lt_mul (aBT s),QJ]; have:=k.1; omega
theorem aPe (s : KS y1 y0 u u1) (h : 4294967296 ≤ q) : (u * 4294967296 + u1) / (y1 * 4294967296 + y0) + 1 ≤ q:=by have:=aUK s; omega
theorem Lr (h : 1 ≤ q) : (q - 1) * y1 + (r + y1) = q * y1 + r:=by
 obtain ⟨p,rfl⟩ : ∃ p,q = p + 1:=⟨q - 1,by omega⟩
 rw [Nat.add_sub_cancel,Nat.add_mul,Nat.one_mul]; omega
theorem Ls (k : KI y1 y0 u u1 q r) (h : (u * 4294967296 + u1) / (y1 * 4294967296 + y0) + 1 ≤ q) (h' : r + y1 < 4294967296) : KI y1 y0 u u1 (q - 1) (r + y1) :=
 ⟨by rw [Lr (Nat.le_trans (Nat.le_add_left 1 _) h)]; exact k.1,Nat.le_sub_one_of_lt h,by have:=k.2.2.1; omega,h'⟩
theorem ZB (s : KS y1 y0 u u1) (k : KI y1 y0 u u1 q r) (h : (u * 4294967296 + u1) / (y1 * 4294967296 + y0) + 1 ≤ q) (h' : 4294967296 ≤ r + y1) : q - 1 = (u * 4294967296 + u1) / (y1 * 4294967296 + y0):=by
 have e:=Lr (y1:=y1) (r:=r) (Nat.le_trans (Nat.le_add_left 1 _) h);refine Nat.le_antisymm (aKS s (e.trans k.1) ?_) (Nat.le_sub_one_of_lt h);have:=zI (show q - 1 ≤ 4294967296 by have:=k.2.2.1; omega) (show y0 ≤ 4294967295 by have:=s.a3; omega);omega
end
theorem aIN {Y u u1 : Nat} (hY : Y < 18446744073709551616) (hp : 0 < Y) :
  ∃ m : Nat,IntKind.u64.wrap (IntKind.u64.wrap (IntKind.u64.wrap ((u : Int) * 4294967296) + (u1 : Int)) - IntKind.u64.wrap (((u * 4294967296 + u1) / Y : Nat) * (Y : Int))) = (m : Int) ∧ m < Y ∧ (u * 4294967296 + u1) / Y * Y + m = u * 4294967296 + u1:=by
 have e:=Nat.div_add_mod (u * 4294967296 + u1) Y;have hm:=Nat.mod_lt (u * 4294967296 + u1) hp;rw [Nat.mul_comm] at e;refine ⟨(u * 4294967296 + u1) % Y,?_,hm,e⟩;rw [← Int.natCast_mul];generalize (u * 4294967296 + u1) / Y * Y = P at *;generalize (u * 4294967296 + u1) % Y = m at *;simp only [IntKind.wrap_u64];omega
theorem aIO {U Y y S V Q1 Q0 u L m R u1 u0 : Nat} (hy : Y = y * 2 ^ S) (hU : U = V * 2 ^ S) (e : u * 18446744073709551616 + L = U) (eL : L = u1 * 4294967296 + u0)
  (e1 : Q1 * Y + m = u * 4294967296 + u1) (e0 : Q0 * Y + R = m * 4294967296 + u0) (hR : R < Y) : Q1 * 4294967296 + Q0 = V / y ∧ R / 2 ^ S = V % y:=by
 have hp : 0 < 2 ^ S:=Nat.two_pow_pos S;have hYp : 0 < Y:=by omega
 have hYU : U = (Q1 * 4294967296 + Q0) * Y + R:=by
  have : (Q1 * 4294967296 + Q0) * Y = Q1 * Y * 4294967296 + Q0 * Y:=by rw [Nat.add_mul,Nat.mul_right_comm]
  rw [this]; omega
 have hq : U / Y = Q1 * 4294967296 + Q0:=by
  rw [hYU,Nat.mul_comm,Nat.mul_add_div hYp,Nat.div_eq_of_lt hR,Nat.add_zero]
 have hr : U % Y = R:=by
  rw [hYU,Nat.mul_comm,Nat.mul_add_mod,Nat.mod_eq_of_lt hR]
 constructor
 ·rw [← hq,hU,hy,Nat.mul_div_mul_right _ _ hp]
 ·rw [← hr,hU,hy,Nat.mul_mod_mul_right,Nat.mul_div_cancel _ hp]
end Go.Proofs.YtglgakbkdjhojaaGreat
