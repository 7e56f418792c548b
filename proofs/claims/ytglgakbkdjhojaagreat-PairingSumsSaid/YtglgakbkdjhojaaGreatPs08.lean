/- Ps08 -/
import Derived.Deep.DeepCutAuto
import Derived.Test.YtglgakbkdjhojaaGreatPs07
import Derived.Test.YtglgakbkdjhojaaGreatPs05
import Derived.Test.YtglgakbkdjhojaaGreatPs06
import Derived.Test.YtglgakbkdjhojaaGreatPs02
import Derived.Test.YtglgakbkdjhojaaGreatPs03
import Derived.Test.YtglgakbkdjhojaaGreatPs04
import Derived.Test.YtglgakbkdjhojaaGreatProg
set_option maxRecDepth 100000
set_option linter.unusedVariables false
set_option linter.unusedSimpArgs false
noncomputable section
namespace Go.Proofs.YtglgakbkdjhojaaGreat.Ex
open Go.Proofs.Tryz
open Go.RowKit
def vp : At → Option (List Prop × Fq)
 | .f x => some ([],x)
 | .q x => some ([wv x < FP.M],m1 x)
 | .c _ => none
theorem TR {a : At} {p : List Prop} {x : Fq} (h : vp a = some (p,x)) (hp : aZ p) : ∃ n : Nat,aA [a] = aA (q1 n) ∧ m1 n = x ∧ wv n < FP.M:=by
 cases a with
 | f y => cases h; exact ⟨x.1,rfl,Ln x,by unfold wv; rw [cE x.2]; exact x.2⟩
 | q y => cases h; exact ⟨_,rfl,rfl,hp.1⟩
 | c v => cases h
def g2p (op : Fq → Fq → RV) : kZ
 | [.v (.fl [a]),.v (.fl [b])] => match vp a,vp b with
  | some (p,x),some (q,y) => some (p ++ q,op x y)
  | _,_ => none
 | _ => none
theorem Gd {P : Program} {f : FuncId} {op : Fq → Fq → RV} (h : ∀ a b : Nat,wv a < FP.M → wv b < FP.M → ∀ args w,bR w [.v (.fl (q1 a)),.v (.fl (q1 b))] args → Good P f (op (m1 a) (m1 b)) args w) :
  ∀ cs pre r,g2p op cs = some (pre,r) → aZ pre → ∀ (args : List Value) (w : World),bR w cs args → Good P f r args w:=by
 intro cs pre r hg hp args w ha;unfold g2p at hg;split at hg
 ·rename_i a b;split at hg
  ·rename_i p x q y hx hy;cases hg;obtain ⟨p1,p2⟩:=iS.1 hp;obtain ⟨n,e1,rfl,hn⟩:=TR hx p1;obtain ⟨m,e2,rfl,hm⟩:=TR hy p2;refine h n m hn hm args w ?_
   match args,ha with
   | [v,u],ha =>
    have h1 : v = .agg (aA [a]).toArray:=ha.1;have h2 : u = .agg (aA [b]).toArray:=ha.2.1;rw [e1] at h1;rw [e2] at h2;exact ⟨h1,h2,trivial⟩
   | [],ha => exact ha.elim
   | [_],ha => exact ha.2.elim
   | _ :: _ :: _ :: _,ha => exact ha.2.2.elim
  ·cases hg
 ·cases hg
def gF2 (op : Fq → Fq → Fq) : kZ
 | [.v (.im (.int .i64 (.ofNat 1))),.v (.fl [a]),.v (.fl [b])] => match vp a,vp b with
  | some (p,x),some (q,y) => some (p ++ q,.many [.fl (e1 (op x y)),.im (.int .i64 0)])
  | _,_ => none
 | _ => none
theorem Gb {f : FuncId} {op : Fq → Fq → Fq} (h : ∀ (a b : Nat) (w : World),wv a < FP.M → wv b < FP.M → Calls prog f #[.int .i64 1,.agg (aA (q1 a)).toArray,.agg (aA (q1 b)).toArray] w (Od 0 (op (m1 a) (m1 b)).1 w)) :
  ∀ cs pre r,gF2 op cs = some (pre,r) → aZ pre → ∀ (args : List Value) (w : World),bR w cs args → Good prog f r args w:=by
 intro cs pre r hg hp args w ha;unfold gF2 at hg;split at hg
 ·rename_i a b;split at hg
  ·rename_i p x q y hx hy;cases hg;obtain ⟨p1,p2⟩:=iS.1 hp;obtain ⟨n,e1,rfl,hn⟩:=TR hx p1;obtain ⟨m,e2,rfl,hm⟩:=TR hy p2
   match args,ha with
   | [t,v,u],ha =>
    have h0 : t = .int .i64 1:=ha.1;have h1 : v = .agg (aA [a]).toArray:=ha.2.1;have h2 : u = .agg (aA [b]).toArray:=ha.2.2.1;rw [e1] at h1;rw [e2] at h2;subst h0; subst h1; subst h2;refine (h n m w hn hm).mono ?_
    rintro e w' ⟨s0,s1,s2,s3,rfl,hs,hv,hb⟩
    obtain ⟨rfl,rfl,rfl,rfl⟩:=pD hs (BL (op (m1 n) (m1 m)).2) hv;exact ⟨rfl,hb⟩
   | [],ha => exact ha.elim
   | [_],ha => exact ha.2.elim
   | [_,_],ha => exact ha.2.2.elim
   | _ :: _ :: _ :: _ :: _,ha => exact ha.2.2.2.elim
  ·cases hg
 ·cases hg
theorem aVu (a b : Nat) (w : World) (ha : wv a < FP.M) (hb : wv b < FP.M) : Calls prog 251 #[.int .i64 1,.agg (aA (q1 a)).toArray,.agg (aA (q1 b)).toArray] w (Od 0 (F1.add (m1 a) (m1 b)).1 w):=by
 have e : (F1.add (m1 a) (m1 b)).1 = (wv a + wv b) % FP.M:=(Nat.add_mod _ _ _).symm;rw [e];exact Mt 1 FP sI _ _ _ _ _ _ _ _ (dL a) (dL b) ha hb w
theorem aVt (a b : Nat) (w : World) (ha : wv a < FP.M) (hb : wv b < FP.M) : Calls prog 252 #[.int .i64 1,.agg (aA (q1 a)).toArray,.agg (aA (q1 b)).toArray] w (Od 0 (F1.mul (m1 a) (m1 b)).1 w):=by
 have e : (F1.mul (m1 a) (m1 b)).1 = (wv a * wv b) % FP.M:=(Nat.mul_mod _ _ _).symm;rw [e];exact Mk 1 FP sI _ _ _ _ _ _ _ _ (dL a) (dL b) ha hb w
theorem aVs (a b : Nat) (w : World) (ha : wv a < FP.M) (hb : wv b < FP.M) : Calls prog 250 #[.int .i64 1,.agg (aA (q1 a)).toArray,.agg (aA (q1 b)).toArray] w (Od 0 (F1.sub (m1 a) (m1 b)).1 w):=by
 have e : (F1.sub (m1 a) (m1 b)).1 = (wv a + FP.M - wv b) % FP.M:=by
  show (wv a % FP.M + (0 + FP.M - wv b % FP.M) % FP.M) % FP.M = _;rw [Nat.mod_eq_of_lt ha,Nat.mod_eq_of_lt hb,Nat.add_mod_mod];congr 1;omega
 rw [e];exact Mf 1 FP sI _ _ _ _ _ _ _ _ (dL a) (dL b) ha hb w
def aPV (d : Bool) : kZ
 | [.v (.im (.int .i64 (.ofNat 1))),.v (.fl l)] => match KW l with
  | some x => bif d then some ([wv x < FP.M],.one (.im (.int .i64 0))) else some ([¬ wv x < FP.M],.one (.im (.int .i64 21)))
  | none => none
 | _ => none
theorem aIu (d : Bool) : ∀ cs pre r,aPV d cs = some (pre,r) → aZ pre → ∀ (args : List Value) (w : World),bR w cs args → Good prog 124 r args w:=by
 intro cs pre r hg hp args w ha;unfold aPV at hg;split at hg
 ·rename_i l;split at hg
  ·rename_i x hx
   match args,ha with
   | [v,u],ha =>
    have h1 : v = .int .i64 1:=ha.1;have h2 : u = .agg (aA l).toArray:=ha.2.1;rw [fQ l x hx] at h2;subst h1; subst h2;cases d
    ·cases hg;exact IC 1 21 _ _ _ _ (dL x) (Or.inr ⟨FP,sI,hp.1,rfl⟩) w
    ·cases hg;exact MN 1 FP sI _ _ _ _ (dL x) hp.1 w
   | [],ha => exact ha.elim
   | [_],ha => exact ha.2.elim
   | _ :: _ :: _ :: _,ha => exact ha.2.2.elim
  ·cases hg
 ·cases hg
def aEA (d : Bool) : Tab:=(AP true).add 251 (gF2 F1.add)
theorem aHv (d : Bool) : TabOk prog (aEA d):=(Ku true).ad func251 (Gb aVu)
def aEy (d : Bool) : Tab:=(aEA d).add 252 (gF2 F1.mul)
theorem aHt (d : Bool) : TabOk prog (aEy d):=(aHv d).ad func252 (Gb aVt)
def aEx (d : Bool) : Tab:=(aEy d).add 250 (gF2 F1.sub)
theorem aHs (d : Bool) : TabOk prog (aEx d):=(aHt d).ad func250 (Gb aVs)
def Hr (d : Bool) : Tab:=(aEx d).add 124 (aPV d)
theorem Kp (d : Bool) : TabOk prog (Hr d):=(aHs d).ad func124 (aIu d)
theorem Za (d : Bool) (x y : N2) : bK prog (Hr d) qN (fun _ => true) f247 40 [.v (.fl (q2 x)),.v (.fl (q2 y))] = some ([],.one (.fl (e2 (F2.add (m2 x) (m2 y))))):=by kernel_rfl
def Ic (d : Bool) : Tab:=(Hr d).add 247 (g2 KU KU (fun x y => ([],.one (.fl (e2 (F2.add x y))))))
theorem La (d : Bool) : TabOk prog (Ic d):=(Kp d).ad func247 (zV fP fP fun x y hp args w ha => aH aG (Kp d) aL func247 (Za d x y) hp ha)
theorem Yv (d : Bool) (x y : N2) : bK prog (Ic d) qN (fun _ => true) f215 40 [.v (.fl (q2 x)),.v (.fl (q2 y))] = some ([],.one (.fl (e2 (F2.sub (m2 x) (m2 y))))):=by kernel_rfl
def Hw (d : Bool) : Tab:=(Ic d).add 215 (g2 KU KU (fun x y => ([],.one (.fl (e2 (F2.sub x y))))))
theorem Kv (d : Bool) : TabOk prog (Hw d):=(La d).ad func215 (zV fP fP fun x y hp args w ha => aH aG (La d) aL func215 (Yv d x y) hp ha)
theorem Si (d : Bool) (x : N2) : bK prog (Hw d) qN (fun _ => true) f217 40 [.v (.fl (q2 x))] = some ([],.one (.fl (e2 (aJ (m2 x))))):=by kernel_rfl
def TG (d : Bool) : Tab:=(Hw d).add 217 (g1 KU (fun x => ([],.one (.fl (e2 (aJ x))))))
theorem YQ (d : Bool) : TabOk prog (TG d):=(Kv d).ad func217 (jX fP fun x hp args w ha => aH aG (Kv d) aL func217 (Si d x) hp ha)
theorem Qj (d : Bool) (x y : Nat) : bK prog (TG d) qN (fun _ => true) f295 40 [.v (.fl (q1 x)),.v (.fl (q1 y))] = some ([wv x < FP.M,wv y < FP.M],.one (.fl (e1 (F1.add (m1 x) (m1 y))))):=by kernel_rfl
def SR (d : Bool) : Tab:=(TG d).add 295 (g2p fun x y => .one (.fl (e1 (F1.add x y))))
theorem YG (d : Bool) : TabOk prog (SR d):=(YQ d).ad func295 (Gd fun x y hx hy args w ha => aH aG (YQ d) aL func295 (Qj d x y) ⟨hx,hy,trivial⟩ ha)
theorem Ci (d : Bool) (x y : Nat) : bK prog (SR d) qN (fun _ => true) f293 40 [.v (.fl (q1 x)),.v (.fl (q1 y))] = some ([wv x < FP.M,wv y < FP.M],.one (.fl (e1 (F1.sub (m1 x) (m1 y))))):=by kernel_rfl
def JA (d : Bool) : Tab:=(SR d).add 293 (g2p fun x y => .one (.fl (e1 (F1.sub x y))))
theorem LO (d : Bool) : TabOk prog (JA d):=(YG d).ad func293 (Gd fun x y hx hy args w ha => aH aG (YG d) aL func293 (Ci d x y) ⟨hx,hy,trivial⟩ ha)
theorem Ch (d : Bool) (x y : Nat) : bK prog (JA d) qN (fun _ => true) f296 40 [.v (.fl (q1 x)),.v (.fl (q1 y))] = some ([wv x < FP.M,wv y < FP.M],.one (.fl (e1 (F1.mul (m1 x) (m1 y))))):=by kernel_rfl
def IZ (d : Bool) : Tab:=(JA d).add 296 (g2p fun x y => .one (.fl (e1 (F1.mul x y))))
theorem LN (d : Bool) : TabOk prog (IZ d):=(LO d).ad func296 (Gd fun x y hx hy args w ha => aH aG (LO d) aL func296 (Ch d x y) ⟨hx,hy,trivial⟩ ha)
theorem Yc (d : Bool) (x : Nat) : bK prog (IZ d) qN (fun _ => true) f294 40 [.v (.fl (q1 x))] = some ([],.one (.fl (e1 F1.one))):=by kernel_rfl
def Hg (d : Bool) : Tab:=(IZ d).add 294 (g1 rv1 (fun x => ([],.one (.fl (e1 F1.one)))))
theorem Kf (d : Bool) : TabOk prog (Hg d):=(LN d).ad func294 (jX Xp fun x hp args w ha => aH aG (LN d) aL func294 (Yc d x) hp ha)
theorem Ye (d : Bool) (x : Nat) : bK prog (Hg d) qN (fun _ => true) f290 40 [.v (.fl (q1 x))] = some ([],.one (.fl (e1 (fm 3)))):=by kernel_rfl
def Hi (d : Bool) : Tab:=(Hg d).add 290 (g1 rv1 (fun x => ([],.one (.fl (e1 (fm 3))))))
theorem Kh (d : Bool) : TabOk prog (Hi d):=(Kf d).ad func290 (jX Xp fun x hp args w ha => aH aG (Kf d) aL func290 (Ye d x) hp ha)
theorem Yd (d : Bool) (x : Fq) : bK prog (Hi d) qN (fun _ => true) f291 40 [.v (.fl (e1 x))] = some ([x ≠ F1.zero],.one (.fl (e1 (cM x)))):=by kernel_rfl
def SS (d : Bool) : Tab:=(Hi d).add 291 (g1 Jh (fun x => ([x ≠ F1.zero],.one (.fl (e1 (cM x))))))
theorem PR (d : Bool) : TabOk prog (SS d):=(Kh d).ad func291 (bJ lD fun x hp args w ha => aH aG (Kh d) aL func291 (Yd d x) hp ha)
theorem Cj (x : Nat) : bK prog (SS true) qN (fun _ => true) f292 40 [.v (.fl (q1 x))] = some ([wv x < FP.M],.one (.im (.bool true))):=by kernel_rfl
theorem Ck (x : Nat) : bK prog (SS false) qN (fun _ => true) f292 40 [.v (.fl (q1 x))] = some ([¬ wv x < FP.M],.one (.im (.bool false))):=by kernel_rfl
def aOK (d : Bool) (x : Nat) : List Prop × RV:=bif d then ([wv x < FP.M],.one (.im (.bool true))) else ([¬ wv x < FP.M],.one (.im (.bool false)))
theorem aHy (d : Bool) (x : Nat) (hp : aZ (aOK d x).1) (args : List Value) (w : World) (ha : bR w [.v (.fl (q1 x))] args) : Good prog 292 (aOK d x).2 args w:=by
 cases d
 ·exact aH aG (PR false) aL func292 (Ck x) hp ha
 ·exact aH aG (PR true) aL func292 (Cj x) hp ha
def Hh (d : Bool) : Tab:=(SS d).add 292 (g1 KW (aOK d))
theorem Kg (d : Bool) : TabOk prog (Hh d):=(PR d).ad func292 (bJ fQ fun x hp args w ha => aHy d x hp args w ha)
theorem Qq (d : Bool) (x y : N2) : bK prog (Hh d) qN (fun _ => true) f302 40 [.v (.fl (q2 x)),.v (.fl (q2 y))] = some ([],.one (.fl (e2 (F2.add (m2 x) (m2 y))))):=by kernel_rfl
def SX (d : Bool) : Tab:=(Hh d).add 302 (g2 KU KU (fun x y => ([],.one (.fl (e2 (F2.add x y))))))
theorem YL (d : Bool) : TabOk prog (SX d):=(Kg d).ad func302 (zV fP fP fun x y hp args w ha => aH aG (Kg d) aL func302 (Qq d x y) hp ha)
theorem Cn (d : Bool) (x y : N2) : bK prog (SX d) qN (fun _ => true) f300 40 [.v (.fl (q2 x)),.v (.fl (q2 y))] = some ([],.one (.fl (e2 (F2.sub (m2 x) (m2 y))))):=by kernel_rfl
def JD (d : Bool) : Tab:=(SX d).add 300 (g2 KU KU (fun x y => ([],.one (.fl (e2 (F2.sub x y))))))
theorem LS (d : Bool) : TabOk prog (JD d):=(YL d).ad func300 (zV fP fP fun x y hp args w ha => aH aG (YL d) aL func300 (Cn d x y) hp ha)
theorem Cm (d : Bool) (x y : N2) : bK prog (JD d) qN (fun _ => true) f303 40 [.v (.fl (q2 x)),.v (.fl (q2 y))] = some ([],.one (.fl (e2 (F2.mul (m2 x) (m2 y))))):=by kernel_rfl
def JC (d : Bool) : Tab:=(JD d).add 303 (g2 KU KU (fun x y => ([],.one (.fl (e2 (F2.mul x y))))))
theorem LR (d : Bool) : TabOk prog (JC d):=(LS d).ad func303 (zV fP fP fun x y hp args w ha => aH aG (LS d) aL func303 (Cm d x y) hp ha)
theorem Yg (d : Bool) (x : N2) : bK prog (JC d) qN (fun _ => true) f301 40 [.v (.fl (q2 x))] = some ([],.one (.fl (e2 F2.one))):=by kernel_rfl
def Hj (d : Bool) : Tab:=(JC d).add 301 (g1 KU (fun x => ([],.one (.fl (e2 F2.one)))))
theorem Ki (d : Bool) : TabOk prog (Hj d):=(LR d).ad func301 (jX fP fun x hp args w ha => aH aG (LR d) aL func301 (Yg d x) hp ha)
def dG : Q2:=(⟨19485874751759354771024239261021720505790618469301721065564631296452457478373,by decide⟩,⟨266929791119991161246907387137283842545076965332900288569378510910307636690,by decide⟩)
theorem Yi (d : Bool) (x : N2) : bK prog (Hj d) qN (fun _ => true) f297 40 [.v (.fl (q2 x))] = some ([],.one (.fl (e2 dG))):=by kernel_rfl
def Hk (d : Bool) : Tab:=(Hj d).add 297 (g1 KU (fun x => ([],.one (.fl (e2 dG)))))
theorem Kj (d : Bool) : TabOk prog (Hk d):=(Ki d).ad func297 (jX fP fun x hp args w ha => aH aG (Ki d) aL func297 (Yi d x) hp ha)
theorem Yh (d : Bool) (x : N2) : bK prog (Hk d) qN (fun _ => true) f298 40 [.v (.fl (q2 x))] = some ([rK (m2 x) ≠ F1.zero],.one (.fl (e2 (dR (m2 x))))):=by kernel_rfl
def JE (d : Bool) : Tab:=(Hk d).add 298 (g1 KU (fun x => ([rK x ≠ F1.zero],.one (.fl (e2 (dR x))))))
theorem CU (d : Bool) : TabOk prog (JE d):=(Kj d).ad func298 (jX fP fun x hp args w ha => aH aG (Kj d) aL func298 (Yh d x) hp ha)
theorem Co (x : N2) : bK prog (JE true) qN (fun _ => true) f299 40 [.v (.fl (q2 x))] = some ([wv x.1 < FP.M,wv x.2 < FP.M],.one (.im (.bool true))):=by kernel_rfl
theorem Cq (x : N2) : bK prog (JE false) qN (fun _ => true) f299 40 [.v (.fl (q2 x))] = some ([¬ wv x.1 < FP.M],.one (.im (.bool false))):=by kernel_rfl
theorem Cp (x : N2) : aX prog qN (fun _ => ⟨fun s => JE (bif Nat.beq s 9 then false else true),fun _ => true,fun _ => none⟩) f299 40 [.v (.fl (q2 x))] = some ([wv x.1 < FP.M,¬ wv x.2 < FP.M],.one (.im (.bool false))):=by kernel_rfl
def aBe (d : Bool) (x : N2) : List Prop × RV:=bif d then ([wv x.1 < FP.M ∧ wv x.2 < FP.M],.one (.im (.bool true))) else ([¬ (wv x.1 < FP.M ∧ wv x.2 < FP.M)],.one (.im (.bool false)))
theorem aBd (d : Bool) (x : N2) (hp : aZ (aBe d x).1) (args : List Value) (w : World) (ha : bR w [.v (.fl (q2 x))] args) : Good prog 299 (aBe d x).2 args w:=by
 cases d
 ·have h1 : ¬ (wv x.1 < FP.M ∧ wv x.2 < FP.M):=hp.1
  by_cases h : wv x.1 < FP.M
  ·exact aB aG (fun _ s => CU _) aL func299 (Cp x) ⟨h,fun e => h1 ⟨h,e⟩,trivial⟩ ha
  ·exact aH aG (CU false) aL func299 (Cq x) ⟨h,trivial⟩ ha
 ·have h1 : wv x.1 < FP.M ∧ wv x.2 < FP.M:=hp.1;exact aH aG (CU true) aL func299 (Co x) ⟨h1.1,h1.2,trivial⟩ ha
def SY (d : Bool) : Tab:=(JE d).add 299 (g1 rq2 (aBe d))
theorem PS (d : Bool) : TabOk prog (SY d):=(CU d).ad func299 (bJ rU fun x hp args w ha => aBd d x hp args w ha)
theorem nI {a b : aM} (ha : a ≠ aD.zero) (hb : b ≠ aD.zero) : aD.mul a b ≠ aD.zero:=fun e => hb (jO.zd e ha)
theorem aKE {a : aM} (h : a ≠ aD.zero) : vF a ≠ F1.zero:=fun e => h (zG e)
theorem jG {a : aM} (h : a ≠ aD.zero) : aD.mul a (jW a) = aD.one:=TJ (aKE h)
theorem QO {a k : aM} (ha : a ≠ aD.zero) (h : aD.mul a k = aD.one) : jW a = k:=by
 have e : aD.mul (aD.mul (jW a) a) k = jW a:=by rw [aD.mul_assoc,h,aD.mul_comm,aD.one_mul]
 rw [aD.mul_comm (jW a),jG ha,aD.one_mul] at e;exact e.symm
theorem tM {R : Type} (K : CR R) (a b c d : R) : K.mul (K.mul a b) (K.mul c d) = K.mul (K.mul a c) (K.mul b d):=by
 rw [K.mul_assoc,K.mul_left_comm b c d,← K.mul_assoc]
theorem aPg {a b : aM} (ha : a ≠ aD.zero) (hb : b ≠ aD.zero) : jW (aD.mul a b) = aD.mul (jW a) (jW b) :=
 QO (nI ha hb) (by rw [tM,jG ha,jG hb,aD.one_mul])
theorem aQt {a b : aM} (ha : a ≠ aD.zero) (hb : b ≠ aD.zero) : eZ (aD.mul a b) = aD.mul (eZ a) (eZ b):=by
 unfold eZ;rw [IN,aPg ha hb,tM aD (bZ a),oL,tM]
theorem aPx (a b : aM) : hX (aD.mul a b) = aD.mul (hX a) (hX b):=by rw [GY,GY,GY,lV]
theorem dB {a b : aM} (ha : a ≠ aD.zero) (hb : b ≠ aD.zero) : kD (aD.mul a b) = aD.mul (kD a) (kD b):=by
 unfold kD;rw [aQt ha hb,aPx]
theorem aCp : hX aD.one = aD.one:=by rw [GY,nN]
theorem Wf : cJ aD.one = aD.one:=by decide
theorem xK {a : aM} (h : bZ a = a) (ha : a ≠ aD.zero) : kD a = aD.one:=by
 unfold kD eZ;rw [h,jG ha,Wf,aD.one_mul,aCp]
theorem DB : kD aD.one = aD.one:=xK (by decide) jO.1
def eQ (z : Q2) : aM:=((z,F2.zero,F2.zero),F6.zero)
def eP (a : Fq) : aM:=eQ (i2 a)
def JR : aM:=aD.mul wE wE
def vQ : aM:=aD.mul JR wE
theorem aPr (a b : Fq) : i2 (F1.add a b) = F2.add (i2 a) (i2 b):=Prod.ext rfl (F1.add_zero F1.zero).symm
theorem z2a : F2.add F2.zero F2.zero = F2.zero:=by decide
theorem z6a : F6.add F6.zero F6.zero = F6.zero:=by decide
theorem AA (x y : Q2) : eQ (F2.add x y) = aD.add (eQ x) (eQ y):=by
 refine Prod.ext (Prod.ext rfl (Prod.ext z2a.symm z2a.symm)) z6a.symm
theorem oE (x y : Q2) : eQ (F2.mul x y) = aD.mul (eQ x) (eQ y):=by
 rw [nT];unfold eQ;simp only [show F6.zero = (F2.zero,F2.zero,F2.zero) from rfl,F2.mul_zero,F2.zero_mul,F2.add_zero,F2.zero_add]
theorem RK (a b : Fq) : eP (F1.add a b) = aD.add (eP a) (eP b):=by unfold eP; rw [aPr,AA]
theorem sK (a b : Fq) : eP (F1.mul a b) = aD.mul (eP a) (eP b):=by unfold eP; rw [Fx,oE]
theorem Mx : eQ F2.zero = aD.zero:=rfl
theorem aIK : eP F1.zero = aD.zero:=rfl
theorem Cub.map {R S : Type} {K : CR R} {L : CR S} (φ : R → S) (ha : ∀ a b,φ (K.add a b) = L.add (φ a) (φ b)) (hm : ∀ a b,φ (K.mul a b) = L.mul (φ a) (φ b)) (h0 : φ K.zero = L.zero) {b a1 a2 a3 n c : R} (h : Cub K b a1 a2 a3 n c) : Cub L (φ b) (φ a1) (φ a2) (φ a3) (φ n) (φ c):=by
 refine ⟨?_,?_,?_⟩
 ·rw [← ha,← ha,← hm,h.s1]
 ·rw [← hm,← hm,← hm,← hm,← ha,← ha,← ha,← ha,h.s2,h0]
 ·rw [← hm,← hm,← ha,← hm,h.s3]
theorem Gx : aD.mul (eQ dG) (aD.mul vQ vQ) = eP (fm 3):=by decide
theorem aLS : JR = ((F2.zero,F2.one,F2.zero),F6.zero):=by decide
theorem aLR : vQ = (F6.zero,(F2.zero,F2.one,F2.zero)):=by decide
theorem z6e : F6.zero = (F2.zero,F2.zero,F2.zero):=rfl
theorem aYF (z : Q2) : aD.mul (eQ z) wE = (F6.zero,(z,F2.zero,F2.zero)):=by
 rw [nT];unfold eQ wE;simp only [show F6.one = (F2.one,F2.zero,F2.zero) from rfl,z6e,F2.mul_zero,F2.zero_mul,F2.add_zero,F2.zero_add,F2.mul_one]
theorem aLe (z : Q2) : aD.mul (eQ z) JR = ((F2.zero,z,F2.zero),F6.zero):=by
 rw [nT,aLS];unfold eQ;simp only [z6e,F2.mul_zero,F2.zero_mul,F2.add_zero,F2.zero_add,F2.mul_one]
theorem aLd (z : Q2) : aD.mul (eQ z) vQ = (F6.zero,(F2.zero,z,F2.zero)):=by
 rw [nT,aLR];unfold eQ;simp only [z6e,F2.mul_zero,F2.zero_mul,F2.add_zero,F2.zero_add,F2.mul_one]
theorem aVG (z y : Q2) : aD.mul (aD.mul (eQ z) wE) (eQ y) = (F6.zero,(F2.mul z y,F2.zero,F2.zero)):=by
 rw [aD.mul_comm,← aD.mul_assoc,← oE,aYF,F2.mul_comm]
theorem vG : F2.neg F2.zero = F2.zero:=bI F2
theorem CZ (x : aM) : aD.neg x = ((F2.neg x.1.1,F2.neg x.1.2.1,F2.neg x.1.2.2),(F2.neg x.2.1,F2.neg x.2.2.1,F2.neg x.2.2.2)):=rfl
theorem xZ (x y : aM) : aD.add x y = ((F2.add x.1.1 y.1.1,F2.add x.1.2.1 y.1.2.1,F2.add x.1.2.2 y.1.2.2),(F2.add x.2.1 y.2.1,F2.add x.2.2.1 y.2.2.1,F2.add x.2.2.2 y.2.2.2)):=rfl
theorem OG (x y : aM) : aD.sub x y = aD.add x (aD.neg y):=rfl
def lT (m d : Q2) (a b : Fq) : aM:=((i2 b,F2.zero,F2.zero),(F2.neg (F2.mul m (i2 a)),F2.neg d,F2.zero))
def lP (n c : Fq) (x y : Q2) : aM:=((F2.neg (i2 c),F2.neg (F2.mul (i2 n) x),F2.zero),(F2.zero,y,F2.zero))
def vP (a : Fq) (x : Q2) : aM:=((F2.neg (i2 a),x,F2.zero),F6.zero)
theorem MH (m d : Q2) (a b : Fq) : lT m d a b = aD.sub (eP b) (aD.add (aD.mul (aD.mul (eQ m) wE) (eP a)) (aD.mul (eQ d) vQ)):=by
 unfold eP;rw [aVG,aLd,OG,CZ,xZ,xZ];unfold lT eQ;simp only [z6e,F2.add_zero,F2.zero_add,vG]
theorem YZ (n c : Fq) (x y : Q2) : lP n c x y = aD.sub (aD.mul (eQ y) vQ) (aD.add (aD.mul (eP n) (aD.mul (eQ x) JR)) (eP c)):=by
 unfold eP;rw [← aD.mul_assoc,← oE,aLe,aLd,OG,CZ,xZ,xZ];unfold lP eQ;simp only [z6e,F2.add_zero,F2.zero_add,vG]
theorem ED (a : Fq) (x : Q2) : vP a x = aD.sub (aD.mul (eQ x) JR) (eP a):=by
 unfold eP;rw [aLe,OG,CZ,xZ];unfold vP eQ;simp only [z6e,F2.add_zero,F2.zero_add,vG]
theorem qY {m d : Q2} {a b : Fq} (h : b ≠ F1.zero) : lT m d a b ≠ aD.zero:=fun e => h (congrArg (fun z : aM => z.1.1.1) e)
theorem sF {n c : Fq} {x y : Q2} (h : y ≠ F2.zero) : lP n c x y ≠ aD.zero:=fun e => h (congrArg (fun z : aM => z.2.2.1) e)
theorem lM {a : Fq} {x : Q2} (h : a ≠ F1.zero) : vP a x ≠ aD.zero:=fun e => h (by
 have h1 : F1.neg a = F1.zero:=congrArg (fun z : aM => z.1.1.1) e;rw [← F1.neg_neg a,h1,bI])
theorem aSU (a : Fq) (x : Q2) : bZ (vP a x) = vP a x:=Prod.ext rfl (by show F6.sub F6.zero F6.zero = F6.zero; decide)
theorem tJ {a : aM} (h : a ≠ aD.zero) : aD.neg a ≠ aD.zero:=fun e => h (by rw [← aD.neg_neg a,e,bI])
theorem qB {a : aM} (h : a ≠ aD.zero) : kD (aD.neg a) = kD a:=by
 have e : aD.neg a = aD.mul (aD.neg aD.one) a:=by rw [aD.neg_mul,aD.one_mul]
 rw [e,dB (tJ jO.1) h,xK (by decide) (tJ jO.1),aD.one_mul]
theorem vH {a : Fq} {x : Q2} (h : a ≠ F1.zero) : kD (vP a x) = aD.one:=xK (aSU a x) (lM h)
section
variable {a1 a2 a3 b1 b2 b3 n c : Fq} {x1 x2 x3 y1 y2 y3 m d : Q2}
theorem aVP (h : Cub F1 (fm 3) a1 a2 a3 n c) : Cub aD (eP (fm 3)) (eP a1) (eP a2) (eP a3) (eP n) (eP c):=h.map eP RK sK aIK
theorem aVO (h : Cub F2 dG x1 x2 x3 m d) : Cub aD (eP (fm 3)) (aD.mul (eQ x1) JR) (aD.mul (eQ x2) JR) (aD.mul (eQ x3) JR) (aD.mul (eQ m) wE) (aD.mul (eQ d) vQ):=by
 have g:=(h.map eQ AA oE Mx).scale wE;rw [← Gx];exact g
theorem aOx {R : Type} (K : CR R) (M X D w : R) : K.mul (K.add (K.mul M X) D) (K.mul (K.mul w w) w) = K.add (K.mul (K.mul M w) (K.mul X (K.mul w w))) (K.mul D (K.mul (K.mul w w) w)) :=
 aE K (aQ K [M,X,D,w]) (.mul (.add (.mul (.v 0) (.v 1)) (.v 2)) (.mul (.mul (.v 3) (.v 3)) (.v 3))) (.add (.mul (.mul (.v 0) (.v 3)) (.mul (.v 1) (.mul (.v 3) (.v 3)))) (.mul (.v 2) (.mul (.mul (.v 3) (.v 3)) (.v 3)))) (by kernel_rfl)
theorem aUX {R : Type} (K : CR R) (X B w : R) : K.mul (K.add (K.mul X (K.mul X X)) B) (K.mul (K.mul (K.mul w w) w) (K.mul (K.mul w w) w)) = K.add (K.mul (K.mul X (K.mul w w)) (K.mul (K.mul X (K.mul w w)) (K.mul X (K.mul w w)))) (K.mul B (K.mul (K.mul (K.mul w w) w) (K.mul (K.mul w w) w))) :=
 aE K (aQ K [X,B,w]) (.mul (.add (.mul (.v 0) (.mul (.v 0) (.v 0))) (.v 1)) (.mul (.mul (.mul (.v 2) (.v 2)) (.v 2)) (.mul (.mul (.v 2) (.v 2)) (.v 2)))) (.add (.mul (.mul (.v 0) (.mul (.v 2) (.v 2))) (.mul (.mul (.v 0) (.mul (.v 2) (.v 2))) (.mul (.v 0) (.mul (.v 2) (.v 2))))) (.mul (.v 1) (.mul (.mul (.mul (.v 2) (.v 2)) (.v 2)) (.mul (.mul (.v 2) (.v 2)) (.v 2))))) (by kernel_rfl)
theorem aPv (X B : aM) : aD.mul (aD.add (aD.mul X (aD.mul X X)) B) (aD.mul vQ vQ) = aD.add (aD.mul (aD.mul X JR) (aD.mul (aD.mul X JR) (aD.mul X JR))) (aD.mul B (aD.mul vQ vQ)):=by
 unfold vQ JR;exact aUX aD X B wE
theorem aMC {R : Type} (K : CR R) (z w : R) : K.sub z w = K.neg (K.sub w z):=aE K (aQ K [z,w]) (.add (.v 0) (.neg (.v 1))) (.neg (.add (.v 1) (.neg (.v 0)))) (by kernel_rfl)
theorem onT {x y : Q2} (h : y = F2.add (F2.mul m x) d) : aD.mul (eQ y) vQ = aD.add (aD.mul (aD.mul (eQ m) wE) (aD.mul (eQ x) JR)) (aD.mul (eQ d) vQ):=by
 rw [h,AA,oE];exact aOx aD (eQ m) (eQ x) (eQ d) wE
theorem onP {a b : Fq} (h : b = F1.add (F1.mul n a) c) : eP b = aD.add (aD.mul (eP n) (eP a)) (eP c):=by rw [h,RK,sK]
theorem aGm (h : Cub F1 (fm 3) a1 a2 a3 n c) (g : Cub F2 dG x1 x2 x3 m d) (h1 : b1 = F1.add (F1.mul n a1) c) (h2 : b2 = F1.add (F1.mul n a2) c) (h3 : b3 = F1.add (F1.mul n a3) c)
  (g1 : y1 = F2.add (F2.mul m x1) d) (g2 : y2 = F2.add (F2.mul m x2) d) (g3 : y3 = F2.add (F2.mul m x3) d) :
  aD.mul (lT m d a1 b1) (aD.mul (lT m d a2 b2) (lT m d a3 b3)) = aD.neg (aD.mul (lP n c x1 y1) (aD.mul (lP n c x2 y2) (lP n c x3 y3))):=by
 have r:=aTw (aVP h) (aVO g);rw [← onP h1,← onP h2,← onP h3,← onT g1,← onT g2,← onT g3,← MH,← MH,← MH,← YZ,← YZ,← YZ] at r;exact r
theorem Tq (h : Cub F1 (fm 3) a1 a2 a3 n c) (g : Cub F2 dG x1 x2 x3 m d) (h1 : b1 = F1.add (F1.mul n a1) c) (h2 : b2 = F1.add (F1.mul n a2) c) (h3 : b3 = F1.add (F1.mul n a3) c)
  (g1 : y1 = F2.add (F2.mul m x1) d) (g2 : y2 = F2.add (F2.mul m x2) d) (g3 : y3 = F2.add (F2.mul m x3) d)
  (hb1 : b1 ≠ F1.zero) (hb2 : b2 ≠ F1.zero) (hb3 : b3 ≠ F1.zero) (hy1 : y1 ≠ F2.zero) (hy2 : y2 ≠ F2.zero) (hy3 : y3 ≠ F2.zero) :
  aD.mul (kD (lT m d a1 b1)) (aD.mul (kD (lT m d a2 b2)) (kD (lT m d a3 b3))) = aD.mul (kD (lP n c x1 y1)) (aD.mul (kD (lP n c x2 y2)) (kD (lP n c x3 y3))):=by
 have r:=congrArg kD (aGm h g h1 h2 h3 g1 g2 g3);rw [qB (nI (sF hy1) (nI (sF hy2) (sF hy3))),dB (qY hb1) (nI (qY hb2) (qY hb3)),dB (qY hb2) (qY hb3),dB (sF hy1) (nI (sF hy2) (sF hy3)),dB (sF hy2) (sF hy3)] at r;exact r
theorem Gi (z : Q2) : eQ (F2.neg z) = aD.neg (eQ z):=by
 rw [CZ];unfold eQ;simp only [z6e,vG]
theorem YW (h : Cub F1 (fm 3) a1 a2 a3 n c) {x y : Q2} (hp : F2.mul y y = F2.add (F2.mul x (F2.mul x x)) dG) (hy : y ≠ F2.zero) (h1 : a1 ≠ F1.zero) (h2 : a2 ≠ F1.zero) (h3 : a3 ≠ F1.zero) :
  aD.mul (kD (lP n c x y)) (kD (lP n c x (F2.neg y))) = aD.one:=by
 have hY : aD.mul (aD.mul (eQ y) vQ) (aD.mul (eQ y) vQ) = aD.add (aD.mul (aD.mul (eQ x) JR) (aD.mul (aD.mul (eQ x) JR) (aD.mul (eQ x) JR))) (eP (fm 3)):=by
  rw [← Gx,tM aD (eQ y) vQ (eQ y) vQ,← oE y y,hp,AA,oE,oE];exact aPv (eQ x) (eQ dG)
 have r:=aST (aVP h) hY;have hy' : F2.neg y ≠ F2.zero:=fun e => hy (by rw [← F2.neg_neg y,e,vG])
 have e1 : aD.neg (aD.mul (eQ y) vQ) = aD.mul (eQ (F2.neg y)) vQ:=by rw [Gi,aD.neg_mul]
 rw [e1,← YZ,← YZ,← ED,← ED,← ED] at r;have r:=congrArg kD r;rw [qB (nI (lM h1) (nI (lM h2) (lM h3))),dB (sF hy) (sF hy'),dB (lM h1) (nI (lM h2) (lM h3)),dB (lM h2) (lM h3),vH h1,vH h2,vH h3,aD.one_mul,aD.one_mul] at r;exact r
theorem Lp (g : Cub F2 dG x1 x2 x3 m d) {a b : Fq} (hp : F1.mul b b = F1.add (F1.mul a (F1.mul a a)) (fm 3)) (hb : b ≠ F1.zero) (ha : a ≠ F1.zero) :
  aD.mul (kD (lT m d a b)) (kD (lT m d a (F1.neg b))) = aD.one:=by
 have hY : aD.mul (eP b) (eP b) = aD.add (aD.mul (eP a) (aD.mul (eP a) (eP a))) (eP (fm 3)):=by rw [← sK,hp,RK,sK,sK]
 have r:=aST (aVO g) hY;have hb' : F1.neg b ≠ F1.zero:=fun e => hb (by rw [← F1.neg_neg b,e,bI])
 have e1 : aD.neg (eP b) = eP (F1.neg b):=by
  unfold eP;rw [← Gi];exact congrArg eQ (Prod.ext rfl (bI F1))
 have e2:=aMC aD;rw [e1,← MH,← MH,e2 (eP a),e2 (eP a),e2 (eP a),← ED,← ED,← ED] at r;have r:=congrArg kD r;have n1:=tJ (lM (x:=x1) ha); have n2:=tJ (lM (x:=x2) ha); have n3:=tJ (lM (x:=x3) ha);rw [qB (nI n1 (nI n2 n3)),dB (qY hb) (qY hb'),dB n1 (nI n2 n3),dB n2 n3,qB (lM ha),qB (lM ha),qB (lM ha),vH ha,vH ha,vH ha,aD.one_mul,aD.one_mul] at r;exact r
end
namespace AG
variable {G : Type} (A : AG G)
theorem addz (a : G) : A.add a A.zero = a:=by rw [A.comm,A.zadd]
theorem addn (a : G) : A.add a (A.neg a) = A.zero:=by rw [A.comm,A.nadd]
theorem left_comm (a b c : G) : A.add a (A.add b c) = A.add b (A.add a c):=by rw [← A.assoc,A.comm a b,A.assoc]
theorem cancel {a b c : G} (h : A.add a b = A.add a c) : b = c:=by
 have:=congrArg (A.add (A.neg a)) h
 rwa [← A.assoc,← A.assoc,A.nadd,A.zadd,A.zadd] at this
theorem negz : A.neg A.zero = A.zero:=by apply A.cancel (a:=A.zero); rw [A.addn,A.addz]
theorem neg_add (a b : G) : A.neg (A.add a b) = A.add (A.neg a) (A.neg b):=by
 apply A.cancel (a:=A.add a b);rw [A.addn,A.assoc,A.left_comm b,A.addn,A.addz,A.addn]
theorem add4 (a b c d : G) : A.add (A.add a b) (A.add c d) = A.add (A.add a c) (A.add b d):=by
 rw [A.assoc,A.left_comm b,← A.assoc]
def ns : Nat → G → G
 | 0,_ => A.zero
 | n + 1,g => A.add (ns n g) g
theorem ns_add (m : Nat) (g : G) : ∀ n,A.ns (m + n) g = A.add (A.ns m g) (A.ns n g)
 | 0 => (A.addz _).symm
 | n + 1 => by show A.add (A.ns (m + n) g) g = A.add _ (A.add _ _); rw [ns_add m g n,A.assoc]
theorem ns_zero : ∀ n,A.ns n A.zero = A.zero
 | 0 => rfl
 | n + 1 => by show A.add (A.ns n _) _ = _; rw [ns_zero n,A.zadd]
theorem ns_sum (g h : G) : ∀ n,A.ns n (A.add g h) = A.add (A.ns n g) (A.ns n h)
 | 0 => (A.zadd _).symm
 | n + 1 => by show A.add (A.ns n _) _ = A.add (A.add _ _) (A.add _ _); rw [ns_sum g h n,A.add4]
theorem ns_mul (m : Nat) (g : G) : ∀ n,A.ns (m * n) g = A.ns n (A.ns m g)
 | 0 => rfl
 | n + 1 => by rw [Nat.mul_add,Nat.mul_one,ns_add,ns_mul m g n]; rfl
def zs : Int → G → G
 | .ofNat n,g => A.ns n g
 | .negSucc n,g => A.neg (A.ns (n + 1) g)
theorem zs_sub (m n : Nat) (g : G) : A.zs (Int.subNatNat m n) g = A.add (A.ns m g) (A.neg (A.ns n g)):=by
 unfold Int.subNatNat;split
 ·rename_i h;have : m = n + (m - n):=by omega
  show A.ns (m - n) g = _
  conv => rhs; rw [this,ns_add]
  rw [A.comm (A.ns n g),A.assoc,A.addn,A.addz]
 ·rename_i k h;have : n = m + (k + 1):=by omega
  show A.neg (A.ns (k + 1) g) = _;rw [this,ns_add A m g (k + 1),A.neg_add (A.ns m g),← A.assoc,A.addn,A.zadd]
theorem zs_add (g : G) (a b : Int) : A.zs (a + b) g = A.add (A.zs a g) (A.zs b g):=by
 cases a with
 | ofNat m =>
  cases b with
  | ofNat n => exact A.ns_add m g n
  | negSucc n => exact A.zs_sub m (n + 1) g
 | negSucc m =>
  cases b with
  | ofNat n => show A.zs (Int.subNatNat n (m + 1)) g = _; rw [zs_sub,A.comm]; rfl
  | negSucc n =>
   show A.neg (A.ns (m + n + 1 + 1) g) = A.add (A.neg (A.ns (m + 1) g)) (A.neg (A.ns (n + 1) g));rw [← A.neg_add,← ns_add,show m + 1 + (n + 1) = m + n + 1 + 1 by omega]
def sm (P : Nat → G) (c : Nat → Int) : Nat → G
 | 0 => A.zero
 | n + 1 => A.add (sm P c n) (A.zs (c n) (P n))
theorem sm_add (P : Nat → G) (c d : Nat → Int) : ∀ n,A.sm P (fun i => c i + d i) n = A.add (A.sm P c n) (A.sm P d n)
 | 0 => (A.zadd _).symm
 | n + 1 => by show A.add (A.sm P _ n) (A.zs (c n + d n) (P n)) = A.add (A.add _ _) (A.add _ _); rw [sm_add P c d n,zs_add,A.add4]
theorem sm_congr {P : Nat → G} {c d : Nat → Int} : ∀ {n},(∀ i,i < n → c i = d i) → A.sm P c n = A.sm P d n
 | 0,_ => rfl
 | n + 1,h => by show A.add _ (A.zs (c n) _) = A.add _ (A.zs (d n) _); rw [sm_congr fun i hi => h i (by omega),h n (by omega)]
theorem sm_zero (P : Nat → G) : ∀ n,A.sm P (fun _ => 0) n = A.zero
 | 0 => rfl
 | n + 1 => by show A.add (A.sm P _ n) A.zero = _; rw [sm_zero P n,A.zadd]
theorem sm_two (P : Nat → G) (c : Nat → Int) (n : Nat) : A.add (A.sm P c n) (A.sm P c n) = A.sm P (fun i => 2 * c i) n:=by
 rw [← sm_add];exact A.sm_congr fun i _ => by omega
end AG
def pJ (w : Nat) : Int:=((w + 1) / 2 : Nat) - (if 16 ≤ w then 16 else 0 : Int)
def xY (x p : Nat) : Nat:=(if p = 0 then x * 2 else x / 2 ^ (p * 4 - 1)) % 32
def Ty (x PL : Nat) : Nat → Int
 | 0 => 0
 | i + 1 => 16 * Ty x PL i + pJ (xY x (PL - 1 - i))
theorem aCm (x PL : Nat) (h : x < 2 ^ (4 * PL - 1)) (h0 : 0 < PL) : ∀ i,i < PL → Ty x PL i = ((x / 2 ^ (4 * (PL - i)) + x / 2 ^ (4 * (PL - i) - 1) % 2 : Nat) : Int)
 | 0,_ => by
  have h1 : x / 2 ^ (4 * PL - 1) = 0:=Nat.div_eq_of_lt h;have h2 : x / 2 ^ (4 * PL) = 0:=Nat.div_eq_of_lt (Nat.lt_of_lt_of_le h (Nat.pow_le_pow_right (by omega) (by omega)));show (0 : Int) = ((x / 2 ^ (4 * (PL - 0)) + x / 2 ^ (4 * (PL - 0) - 1) % 2 : Nat) : Int);rw [Nat.sub_zero,h1,h2]; rfl
 | i + 1,hi => by
  have ih:=aCm x PL h h0 i (by omega);show 16 * Ty x PL i + pJ (xY x (PL - 1 - i)) = _;rw [ih];have hp : PL - 1 - i ≠ 0:=by omega
  have e1 : 4 * (PL - i) = (4 * (PL - (i + 1)) - 1) + 5:=by omega
  have e2 : 4 * (PL - i) - 1 = (4 * (PL - (i + 1)) - 1) + 4:=by omega
  have e3 : 4 * (PL - (i + 1)) = (4 * (PL - (i + 1)) - 1) + 1:=by omega
  have e4 : (PL - 1 - i) * 4 - 1 = 4 * (PL - (i + 1)) - 1:=by omega
  unfold pJ xY;rw [if_neg hp,e1,e4];rw [show (4 * (PL - (i + 1)) - 1) + 5 - 1 = (4 * (PL - (i + 1)) - 1) + 4 by omega];have e5 : x / 2 ^ (4 * (PL - (i + 1))) = x / 2 ^ (4 * (PL - (i + 1)) - 1) / 2:=by
   conv => lhs; rw [e3]
   rw [Nat.pow_add,← Nat.div_div_eq_div_mul]
  rw [e5,Nat.pow_add,Nat.pow_add,← Nat.div_div_eq_div_mul,← Nat.div_div_eq_div_mul];generalize x / 2 ^ (4 * (PL - (i + 1)) - 1) = a;show 16 * ((a / 32 + a / 16 % 2 : Nat) : Int) + (((a % 32 + 1) / 2 : Nat) - (if 16 ≤ a % 32 then 16 else 0 : Int)) = ((a / 2 + a % 2 : Nat) : Int);split <;> omega
theorem Mc (x PL : Nat) (h : x < 2 ^ (4 * PL - 1)) (h0 : 0 < PL) : Ty x PL PL = x:=by
 obtain ⟨k,rfl⟩ : ∃ k,PL = k + 1:=⟨PL - 1,by omega⟩
 show 16 * Ty x (k + 1) k + pJ (xY x (k + 1 - 1 - k)) = _;rw [aCm x (k + 1) h h0 k (by omega),show k + 1 - 1 - k = 0 by omega,show k + 1 - k = 1 by omega];unfold pJ xY;rw [if_pos rfl];show 16 * ((x / 16 + x / 8 % 2 : Nat) : Int) + (((x * 2 % 32 + 1) / 2 : Nat) - (if 16 ≤ x * 2 % 32 then 16 else 0 : Int)) = (x : Int);split <;> omega
section
variable {G V : Type} (A : AG G) (B : AG V)
def Ve (Q : G) (d : Int) (T : G) : G:=if d = 1 then A.add (A.add T T) Q else if d = -1 then A.add (A.add T T) (A.neg Q) else A.add T T
def stF (L : G → G → V) (Q : G) (d : Int) (F : V) (T : G) : V:=if d = 1 then B.add (B.add (B.add F F) (L T T)) (L (A.add T T) Q) else if d = -1 then B.add (B.add (B.add F F) (L T T)) (L (A.add T T) (A.neg Q)) else B.add (B.add F F) (L T T)
def yT (Q : G) : List Int → G → G
 | [],T => T
 | d :: ds,T => yT Q ds (Ve A Q d T)
def Zc (L : G → G → V) (Q : G) : List Int → V → G → V
 | [],F,_ => F
 | d :: ds,F,T => Zc L Q ds (stF A B L Q d F T) (Ve A Q d T)
variable {B}
end
open Go.RowKit
theorem fd1 : FD F1 cM:=⟨Oe,fun x h => xR h⟩
theorem fd2 : FD F2 dR:=⟨zX.1,fun x h => TH fun e => h (pB e)⟩
theorem aOR {x : Q2} (h : x ≠ F2.zero) : rK x ≠ F1.zero:=fun e => h (pB e)
abbrev J1:=Jc Fq
abbrev J2:=Jc Q2
def bH (p : J1) : List At:=[.f p.1,.f p.2.1,.f p.2.2]
def bG (p : J2) : List At:=[.f p.1.1,.f p.1.2,.f p.2.1.1,.f p.2.1.2,.f p.2.2.1,.f p.2.2.2]
def Sl : List At → Option J1 | [.f a,.f b,.f c] => some (a,b,c) | _ => none
def Sk : List At → Option J2 | [.f a,.f b,.f c,.f d,.f e,.f f] => some ((a,b),(c,d),(e,f)) | _ => none
theorem mO : Rd Sl bH:=fun l x h => by unfold Sl at h; split at h <;> cases h; rfl
theorem mM : Rd Sk bG:=fun l x h => by unfold Sk at h; split at h <;> cases h; rfl
theorem qK {a b : Fq} (h : a ≠ b) : aA (e1 a) ≠ aA (e1 b):=fun e => h (aQx e)
theorem nA {a b : Q2} (h : a ≠ b) : aA (e2 a) ≠ aA (e2 b):=fun e => h (aQw e)
theorem FD.inv_one {R : Type} {K : CR R} {inv : R → R} (F : FD K inv) : inv K.one = K.one:=by
 have:=F.inv K.one F.ne
 rwa [K.one_mul] at this
theorem Cy (p : J1) : aX prog (qG prog) (fun _ => ⟨fun s => SY true,fun s => true,fun _ => none⟩) f195 60 [.v (.fl (bH p))] = some ([aA (e1 p.2.2) = aA (e1 F1.zero)],.one (.im (.bool true))):=by kernel_rfl
theorem Cz (p : J1) : aX prog (qG prog) (fun _ => ⟨fun s => SY false,fun s => false,fun _ => none⟩) f195 60 [.v (.fl (bH p))] = some ([aA (e1 p.2.2) ≠ aA (e1 F1.zero)],.one (.im (.bool false))):=by kernel_rfl
def aBp (d : Bool) (p : J1) : List Prop × RV:=bif d then ([p.2.2 = F1.zero],.one (.im (.bool true))) else ([p.2.2 ≠ F1.zero],.one (.im (.bool false)))
theorem aBo (d : Bool) (p : J1) (hp : aZ (aBp d p).1) (args : List Value) (w : World) (ha : bR w [.v (.fl (bH p))] args) : Good prog 195 (aBp d p).2 args w:=by
 cases d
 ·have h : p.2.2 ≠ F1.zero:=hp.1;exact aB aG (fun _ s => PS _) (aK prog) func195 (Cz p) ⟨qK h,trivial⟩ ha
 ·have h : p.2.2 = F1.zero:=hp.1;exact aB aG (fun _ s => PS _) (aK prog) func195 (Cy p) ⟨by rw [h],trivial⟩ ha
def TB (d : Bool) : Tab:=(SY d).add 195 (g1 Sl (aBp d))
theorem PV (d : Bool) : TabOk prog (TB d):=(PS d).ad func195 (bJ mO fun p hp args w ha => aBo d p hp args w ha)
theorem Ce (d : Bool) (p : J1) (b : Fq) : aX prog (qG prog) (fun _ => ⟨fun s => TB d,fun s => true,fun _ => none⟩) f198 60 [.v (.fl (bH p)),.v (.fl (e1 b))] = some ([aA (e1 p.2.2) = aA (e1 F1.one)],.one (.fl (e1 b))):=by kernel_rfl
theorem Cf (d : Bool) (p : J1) (b : Fq) : aX prog (qG prog) (fun _ => ⟨fun s => TB d,fun s => false,fun _ => none⟩) f198 60 [.v (.fl (bH p)),.v (.fl (e1 b))] = some ([aA (e1 p.2.2) ≠ aA (e1 F1.one)],.one (.fl (e1 (F1.mul b p.2.2)))):=by kernel_rfl
theorem aFq (d : Bool) (p : J1) (b : Fq) (args : List Value) (w : World) (ha : bR w [.v (.fl (bH p)),.v (.fl (e1 b))] args) : Good prog 198 (.one (.fl (e1 (F1.mul b p.2.2)))) args w:=by
 by_cases h : p.2.2 = F1.one
 ·rw [h,F1.mul_one];exact aB aG (fun _ s => PV _) (aK prog) func198 (Ce d p b) ⟨by rw [h],trivial⟩ ha
 ·exact aB aG (fun _ s => PV _) (aK prog) func198 (Cf d p b) ⟨qK h,trivial⟩ ha
def SQ (d : Bool) : Tab:=(TB d).add 198 (g2 Sl Jh fun p b => ([],.one (.fl (e1 (F1.mul b p.2.2)))))
theorem PQ (d : Bool) : TabOk prog (SQ d):=(PV d).ad func198 (eV mO lD fun p b hp args w ha => aFq d p b args w ha)
theorem Do (d : Bool) (p q : J1) : aX prog (qG prog) (fun _ => ⟨fun s => SQ d,fun s => true,fun _ => none⟩) f196 60 [.v (.fl (bH p)),.v (.fl (bH q))] = some ([aA (e1 q.2.2) = aA (e1 F1.one)],.many [.fl (e1 (p.1)),.fl (e1 (p.2.1))]):=by kernel_rfl
theorem Dp (d : Bool) (p q : J1) : aX prog (qG prog) (fun _ => ⟨fun s => SQ d,fun s => false,fun _ => none⟩) f196 60 [.v (.fl (bH p)),.v (.fl (bH q))] = some ([aA (e1 q.2.2) ≠ aA (e1 F1.one)],.many [.fl (e1 (DF F1 p q)),.fl (e1 (BI F1 p q))]):=by kernel_rfl
theorem aJh (d : Bool) (p q : J1) (args : List Value) (w : World) (ha : bR w [.v (.fl (bH p)),.v (.fl (bH q))] args) : Good prog 196 (.many [.fl (e1 (DF F1 p q)),.fl (e1 (BI F1 p q))]) args w:=by
 by_cases h : q.2.2 = F1.one
 ·have hx : DF F1 p q = p.1:=by unfold DF; rw [h,F1.mul_one,F1.mul_one]
  have hy : BI F1 p q = p.2.1:=by unfold BI; rw [h,F1.mul_one,F1.mul_one,F1.mul_one]
  rw [hx,hy];exact aB aG (fun _ s => PQ _) (aK prog) func196 (Do d p q) ⟨by rw [h],trivial⟩ ha
 ·exact aB aG (fun _ s => PQ _) (aK prog) func196 (Dp d p q) ⟨qK h,trivial⟩ ha
def Hv (d : Bool) : Tab:=(SQ d).add 196 (g2 Sl Sl fun p q => ([],.many [.fl (e1 (DF F1 p q)),.fl (e1 (BI F1 p q))]))
theorem Kt (d : Bool) : TabOk prog (Hv d):=(PQ d).ad func196 (eV mO mO fun p q hp args w ha => aJh d p q args w ha)
theorem Yt (d : Bool) (p : J1) : aX prog (qG prog) (fun _ => ⟨fun s => Hv d,fun s => true,fun _ => none⟩) f197 60 [.v (.fl (bH p))] = some ([],.one (.fl (bH (cH F1 p)))):=by kernel_rfl
def Ht (d : Bool) : Tab:=(Hv d).add 197 (g1 Sl fun p => ([],.one (.fl (bH (cH F1 p)))))
theorem Kr (d : Bool) : TabOk prog (Ht d):=(Kt d).ad func197 (bJ mO fun p hp args w ha => aB aG (fun _ s => Kt _) (aK prog) func197 (Yt d p) trivial ha)
theorem Yo (d : Bool) (p : J1) : aX prog (qG prog) (fun _ => ⟨fun s => Ht d,fun s => true,fun _ => none⟩) f237 60 [.v (.fl (bH p))] = some ([],.one (.fl (bH (sG F1 p)))):=by kernel_rfl
def JG (d : Bool) : Tab:=(Ht d).add 237 (g1 Sl fun p => ([],.one (.fl (bH (sG F1 p)))))
theorem CX (d : Bool) : TabOk prog (JG d):=(Kr d).ad func237 (bJ mO fun p hp args w ha => aB aG (fun _ s => Kr _) (aK prog) func237 (Yo d p) trivial ha)
theorem VB (p : J1) : aX prog (qG prog) (fun _ => ⟨fun s => JG true,fun s => true,fun _ => none⟩) f155 60 [.v (.fl (bH p))] = some ([p.2.2 = F1.zero],.many [.fl (e1 F1.zero),.fl (e1 F1.zero),.im (.bool true)]):=by kernel_rfl
theorem VA (p : J1) : aX prog (qG prog) (fun _ => ⟨fun s => JG false,fun s => true,fun _ => none⟩) f155 60 [.v (.fl (bH p))] = some ([p.2.2 ≠ F1.zero,aA (e1 p.2.2) = aA (e1 F1.one)],.many [.fl (e1 p.1),.fl (e1 p.2.1),.im (.bool false)]):=by kernel_rfl
theorem VC (p : J1) : aX prog (qG prog) (fun _ => ⟨fun s => JG false,fun s => false,fun _ => none⟩) f155 60 [.v (.fl (bH p))] = some ([p.2.2 ≠ F1.zero,aA (e1 p.2.2) ≠ aA (e1 F1.one),p.2.2 ≠ F1.zero],.many [.fl (e1 (F1.mul p.1 (F1.mul (cM p.2.2) (cM p.2.2)))),.fl (e1 (F1.mul p.2.1 (F1.mul (F1.mul (cM p.2.2) (cM p.2.2)) (cM p.2.2)))),.im (.bool false)]):=by kernel_rfl
def Fa (d : Bool) (p : J1) : List Prop × RV:=bif d then ([p.2.2 = F1.zero],.many [.fl (e1 F1.zero),.fl (e1 F1.zero),.im (.bool true)]) else ([p.2.2 ≠ F1.zero],.many [.fl (e1 (F1.mul p.1 (F1.mul (cM p.2.2) (cM p.2.2)))),.fl (e1 (F1.mul p.2.1 (F1.mul (F1.mul (cM p.2.2) (cM p.2.2)) (cM p.2.2)))),.im (.bool false)])
theorem Tk (d : Bool) (p : J1) (hp : aZ (Fa d p).1) (args : List Value) (w : World) (ha : bR w [.v (.fl (bH p))] args) : Good prog 155 (Fa d p).2 args w:=by
 cases d
 ·have h : p.2.2 ≠ F1.zero:=hp.1;show Good _ _ (.many [.fl (e1 (F1.mul p.1 (F1.mul (cM p.2.2) (cM p.2.2)))),.fl (e1 (F1.mul p.2.1 (F1.mul (F1.mul (cM p.2.2) (cM p.2.2)) (cM p.2.2)))),.im (.bool false)]) _ _
  by_cases h1 : p.2.2 = F1.one
  ·have hi : cM p.2.2 = F1.one:=by rw [h1]; exact fd1.inv_one
   rw [hi,F1.mul_one,F1.mul_one,F1.mul_one,F1.mul_one];exact aB aG (fun _ s => CX _) (aK prog) func155 (VA p) ⟨h,by rw [h1],trivial⟩ ha
  ·exact aB aG (fun _ s => CX _) (aK prog) func155 (VC p) ⟨h,qK h1,h,trivial⟩ ha
 ·exact aB aG (fun _ s => CX _) (aK prog) func155 (VB p) hp ha
def qU (d : Bool) : Tab:=(JG d).add 155 (g1 Sl (Fa d))
theorem oZ (d : Bool) : TabOk prog (qU d):=(CX d).ad func155 (bJ mO fun p hp args w ha => Tk d p hp args w ha)
theorem VT (p q : J1) : aX prog (qG prog) (fun _ => ⟨fun s => qU (bif Nat.beq s 18 then true else false),fun s => true,fun _ => none⟩) f156 80 [.v (.fl (bH p)),.v (.fl (bH q))] = some ([p.2.2 = F1.zero],.one (.fl (bH q))):=by kernel_rfl
theorem VS (p q : J1) : aX prog (qG prog) (fun _ => ⟨fun s => qU (bif Nat.beq s 18 then false else true),fun s => true,fun _ => none⟩) f156 80 [.v (.fl (bH p)),.v (.fl (bH q))] = some ([p.2.2 ≠ F1.zero,q.2.2 = F1.zero],.one (.fl (bH p))):=by kernel_rfl
theorem VR (p q : J1) : aX prog (qG prog) (fun _ => ⟨fun s => qU (bif Nat.beq s 18 then false else false),fun s => true,fun _ => none⟩) f156 80 [.v (.fl (bH p)),.v (.fl (bH q))] = some ([p.2.2 ≠ F1.zero,q.2.2 ≠ F1.zero,aA (e1 (BJ F1 p q)) = aA (e1 F1.zero),aA (e1 (ZE F1 p q)) = aA (e1 F1.zero)],.one (.fl (bH (cH F1 p)))):=by kernel_rfl
theorem VQ (p q : J1) : aX prog (qG prog) (fun _ => ⟨fun s => qU (bif Nat.beq s 18 then false else false),fun s => false,fun _ => none⟩) f156 80 [.v (.fl (bH p)),.v (.fl (bH q))] = some ([p.2.2 ≠ F1.zero,q.2.2 ≠ F1.zero,aA (e1 (BJ F1 p q)) ≠ aA (e1 F1.zero)],.one (.fl (bH (GT F1 p q)))):=by kernel_rfl
theorem VP (p q : J1) : aX prog (qG prog) (fun _ => ⟨fun s => qU (bif Nat.beq s 18 then false else false),fun s => !(Nat.beq s 49),fun _ => none⟩) f156 80 [.v (.fl (bH p)),.v (.fl (bH q))] = some ([p.2.2 ≠ F1.zero,q.2.2 ≠ F1.zero,aA (e1 (BJ F1 p q)) = aA (e1 F1.zero),aA (e1 (ZE F1 p q)) ≠ aA (e1 F1.zero)],.one (.fl (bH (GT F1 p q)))):=by kernel_rfl
theorem aAq (d : Bool) (p q : J1) (args : List Value) (w : World) (ha : bR w [.v (.fl (bH p)),.v (.fl (bH q))] args) : Good prog 156 (.one (.fl (bH (dZ F1 p q)))) args w:=by
 unfold dZ
 by_cases h1 : p.2.2 = F1.zero
 ·rw [if_pos h1];exact aB aG (fun _ s => oZ _) (aK prog) func156 (VT p q) ⟨h1,trivial⟩ ha
 ·rw [if_neg h1]
  by_cases h2 : q.2.2 = F1.zero
  ·rw [if_pos h2];exact aB aG (fun _ s => oZ _) (aK prog) func156 (VS p q) ⟨h1,h2,trivial⟩ ha
  ·rw [if_neg h2]
   by_cases h3 : BJ F1 p q = F1.zero
   ·by_cases h4 : ZE F1 p q = F1.zero
    ·rw [if_pos ⟨h3,h4⟩];exact aB aG (fun _ s => oZ _) (aK prog) func156 (VR p q) ⟨h1,h2,by rw [h3],by rw [h4],trivial⟩ ha
    ·rw [if_neg (fun h => h4 h.2)];exact aB aG (fun _ s => oZ _) (aK prog) func156 (VP p q) ⟨h1,h2,by rw [h3],qK h4,trivial⟩ ha
   ·rw [if_neg (fun h => h3 h.1)];exact aB aG (fun _ s => oZ _) (aK prog) func156 (VQ p q) ⟨h1,h2,qK h3,trivial⟩ ha
def DQ (d : Bool) : Tab:=(qU d).add 156 (g2 Sl Sl fun p q => ([],.one (.fl (bH (dZ F1 p q)))))
theorem GA (d : Bool) : TabOk prog (DQ d):=(oZ d).ad func156 (eV mO mO fun p q hp args w ha => aAq d p q args w ha)
theorem Cw (p : J2) : aX prog (qG prog) (fun _ => ⟨fun s => DQ true,fun s => true,fun _ => none⟩) f199 60 [.v (.fl (bG p))] = some ([aA (e2 p.2.2) = aA (e2 F2.zero)],.one (.im (.bool true))):=by kernel_rfl
theorem Cx (p : J2) : aX prog (qG prog) (fun _ => ⟨fun s => DQ false,fun s => false,fun _ => none⟩) f199 60 [.v (.fl (bG p))] = some ([aA (e2 p.2.2) ≠ aA (e2 F2.zero)],.one (.im (.bool false))):=by kernel_rfl
def aBn (d : Bool) (p : J2) : List Prop × RV:=bif d then ([p.2.2 = F2.zero],.one (.im (.bool true))) else ([p.2.2 ≠ F2.zero],.one (.im (.bool false)))
theorem aBm (d : Bool) (p : J2) (hp : aZ (aBn d p).1) (args : List Value) (w : World) (ha : bR w [.v (.fl (bG p))] args) : Good prog 199 (aBn d p).2 args w:=by
 cases d
 ·have h : p.2.2 ≠ F2.zero:=hp.1;exact aB aG (fun _ s => GA _) (aK prog) func199 (Cx p) ⟨nA h,trivial⟩ ha
 ·have h : p.2.2 = F2.zero:=hp.1;exact aB aG (fun _ s => GA _) (aK prog) func199 (Cw p) ⟨by rw [h],trivial⟩ ha
def TA (d : Bool) : Tab:=(DQ d).add 199 (g1 Sk (aBn d))
theorem PU (d : Bool) : TabOk prog (TA d):=(GA d).ad func199 (bJ mM fun p hp args w ha => aBm d p hp args w ha)
theorem Cc (d : Bool) (p : J2) (b : Q2) : aX prog (qG prog) (fun _ => ⟨fun s => TA d,fun s => true,fun _ => none⟩) f202 60 [.v (.fl (bG p)),.v (.fl (e2 b))] = some ([aA (e2 p.2.2) = aA (e2 F2.one)],.one (.fl (e2 b))):=by kernel_rfl
theorem Cd (d : Bool) (p : J2) (b : Q2) : aX prog (qG prog) (fun _ => ⟨fun s => TA d,fun s => false,fun _ => none⟩) f202 60 [.v (.fl (bG p)),.v (.fl (e2 b))] = some ([aA (e2 p.2.2) ≠ aA (e2 F2.one)],.one (.fl (e2 (F2.mul b p.2.2)))):=by kernel_rfl
theorem aFp (d : Bool) (p : J2) (b : Q2) (args : List Value) (w : World) (ha : bR w [.v (.fl (bG p)),.v (.fl (e2 b))] args) : Good prog 202 (.one (.fl (e2 (F2.mul b p.2.2)))) args w:=by
 by_cases h : p.2.2 = F2.one
 ·rw [h,F2.mul_one];exact aB aG (fun _ s => PU _) (aK prog) func202 (Cc d p b) ⟨by rw [h],trivial⟩ ha
 ·exact aB aG (fun _ s => PU _) (aK prog) func202 (Cd d p b) ⟨nA h,trivial⟩ ha
def SP (d : Bool) : Tab:=(TA d).add 202 (g2 Sk KC fun p b => ([],.one (.fl (e2 (F2.mul b p.2.2)))))
theorem PP (d : Bool) : TabOk prog (SP d):=(PU d).ad func202 (eV mM fI fun p b hp args w ha => aFp d p b args w ha)
theorem Dm (d : Bool) (p q : J2) : aX prog (qG prog) (fun _ => ⟨fun s => SP d,fun s => true,fun _ => none⟩) f200 60 [.v (.fl (bG p)),.v (.fl (bG q))] = some ([aA (e2 q.2.2) = aA (e2 F2.one)],.many [.fl (e2 (p.1)),.fl (e2 (p.2.1))]):=by kernel_rfl
theorem Dn (d : Bool) (p q : J2) : aX prog (qG prog) (fun _ => ⟨fun s => SP d,fun s => false,fun _ => none⟩) f200 60 [.v (.fl (bG p)),.v (.fl (bG q))] = some ([aA (e2 q.2.2) ≠ aA (e2 F2.one)],.many [.fl (e2 (DF F2 p q)),.fl (e2 (BI F2 p q))]):=by kernel_rfl
theorem aJg (d : Bool) (p q : J2) (args : List Value) (w : World) (ha : bR w [.v (.fl (bG p)),.v (.fl (bG q))] args) : Good prog 200 (.many [.fl (e2 (DF F2 p q)),.fl (e2 (BI F2 p q))]) args w:=by
 by_cases h : q.2.2 = F2.one
 ·have hx : DF F2 p q = p.1:=by unfold DF; rw [h,F2.mul_one,F2.mul_one]
  have hy : BI F2 p q = p.2.1:=by unfold BI; rw [h,F2.mul_one,F2.mul_one,F2.mul_one]
  rw [hx,hy];exact aB aG (fun _ s => PP _) (aK prog) func200 (Dm d p q) ⟨by rw [h],trivial⟩ ha
 ·exact aB aG (fun _ s => PP _) (aK prog) func200 (Dn d p q) ⟨nA h,trivial⟩ ha
def Hu (d : Bool) : Tab:=(SP d).add 200 (g2 Sk Sk fun p q => ([],.many [.fl (e2 (DF F2 p q)),.fl (e2 (BI F2 p q))]))
theorem Ks (d : Bool) : TabOk prog (Hu d):=(PP d).ad func200 (eV mM mM fun p q hp args w ha => aJg d p q args w ha)
theorem Ys (d : Bool) (p : J2) : aX prog (qG prog) (fun _ => ⟨fun s => Hu d,fun s => true,fun _ => none⟩) f201 60 [.v (.fl (bG p))] = some ([],.one (.fl (bG (cH F2 p)))):=by kernel_rfl
def Hs (d : Bool) : Tab:=(Hu d).add 201 (g1 Sk fun p => ([],.one (.fl (bG (cH F2 p)))))
theorem Kq (d : Bool) : TabOk prog (Hs d):=(Ks d).ad func201 (bJ mM fun p hp args w ha => aB aG (fun _ s => Ks _) (aK prog) func201 (Ys d p) trivial ha)
theorem Yn (d : Bool) (p : J2) : aX prog (qG prog) (fun _ => ⟨fun s => Hs d,fun s => true,fun _ => none⟩) f244 60 [.v (.fl (bG p))] = some ([],.one (.fl (bG (sG F2 p)))):=by kernel_rfl
def JF (d : Bool) : Tab:=(Hs d).add 244 (g1 Sk fun p => ([],.one (.fl (bG (sG F2 p)))))
theorem CW (d : Bool) : TabOk prog (JF d):=(Kq d).ad func244 (bJ mM fun p hp args w ha => aB aG (fun _ s => Kq _) (aK prog) func244 (Yn d p) trivial ha)
theorem UY (p : J2) : aX prog (qG prog) (fun _ => ⟨fun s => JF true,fun s => true,fun _ => none⟩) f158 60 [.v (.fl (bG p))] = some ([p.2.2 = F2.zero],.many [.fl (e2 F2.zero),.fl (e2 F2.zero),.im (.bool true)]):=by kernel_rfl
theorem UX (p : J2) : aX prog (qG prog) (fun _ => ⟨fun s => JF false,fun s => true,fun _ => none⟩) f158 60 [.v (.fl (bG p))] = some ([p.2.2 ≠ F2.zero,aA (e2 p.2.2) = aA (e2 F2.one)],.many [.fl (e2 p.1),.fl (e2 p.2.1),.im (.bool false)]):=by kernel_rfl
theorem UZ (p : J2) : aX prog (qG prog) (fun _ => ⟨fun s => JF false,fun s => false,fun _ => none⟩) f158 60 [.v (.fl (bG p))] = some ([p.2.2 ≠ F2.zero,aA (e2 p.2.2) ≠ aA (e2 F2.one),rK p.2.2 ≠ F1.zero],.many [.fl (e2 (F2.mul p.1 (F2.mul (dR p.2.2) (dR p.2.2)))),.fl (e2 (F2.mul p.2.1 (F2.mul (F2.mul (dR p.2.2) (dR p.2.2)) (dR p.2.2)))),.im (.bool false)]):=by kernel_rfl
def Ez (d : Bool) (p : J2) : List Prop × RV:=bif d then ([p.2.2 = F2.zero],.many [.fl (e2 F2.zero),.fl (e2 F2.zero),.im (.bool true)]) else ([p.2.2 ≠ F2.zero],.many [.fl (e2 (F2.mul p.1 (F2.mul (dR p.2.2) (dR p.2.2)))),.fl (e2 (F2.mul p.2.1 (F2.mul (F2.mul (dR p.2.2) (dR p.2.2)) (dR p.2.2)))),.im (.bool false)])
theorem Tj (d : Bool) (p : J2) (hp : aZ (Ez d p).1) (args : List Value) (w : World) (ha : bR w [.v (.fl (bG p))] args) : Good prog 158 (Ez d p).2 args w:=by
 cases d
 ·have h : p.2.2 ≠ F2.zero:=hp.1;show Good _ _ (.many [.fl (e2 (F2.mul p.1 (F2.mul (dR p.2.2) (dR p.2.2)))),.fl (e2 (F2.mul p.2.1 (F2.mul (F2.mul (dR p.2.2) (dR p.2.2)) (dR p.2.2)))),.im (.bool false)]) _ _
  by_cases h1 : p.2.2 = F2.one
  ·have hi : dR p.2.2 = F2.one:=by rw [h1]; exact fd2.inv_one
   rw [hi,F2.mul_one,F2.mul_one,F2.mul_one,F2.mul_one];exact aB aG (fun _ s => CW _) (aK prog) func158 (UX p) ⟨h,by rw [h1],trivial⟩ ha
  ·exact aB aG (fun _ s => CW _) (aK prog) func158 (UZ p) ⟨h,nA h1,aOR h,trivial⟩ ha
 ·exact aB aG (fun _ s => CW _) (aK prog) func158 (UY p) hp ha
def qT (d : Bool) : Tab:=(JF d).add 158 (g1 Sk (Ez d))
theorem oY (d : Bool) : TabOk prog (qT d):=(CW d).ad func158 (bJ mM fun p hp args w ha => Tj d p hp args w ha)
theorem VO (p q : J2) : aX prog (qG prog) (fun _ => ⟨fun s => qT (bif Nat.beq s 18 then true else false),fun s => true,fun _ => none⟩) f159 80 [.v (.fl (bG p)),.v (.fl (bG q))] = some ([p.2.2 = F2.zero],.one (.fl (bG q))):=by kernel_rfl
theorem VN (p q : J2) : aX prog (qG prog) (fun _ => ⟨fun s => qT (bif Nat.beq s 18 then false else true),fun s => true,fun _ => none⟩) f159 80 [.v (.fl (bG p)),.v (.fl (bG q))] = some ([p.2.2 ≠ F2.zero,q.2.2 = F2.zero],.one (.fl (bG p))):=by kernel_rfl
theorem VM (p q : J2) : aX prog (qG prog) (fun _ => ⟨fun s => qT (bif Nat.beq s 18 then false else false),fun s => true,fun _ => none⟩) f159 80 [.v (.fl (bG p)),.v (.fl (bG q))] = some ([p.2.2 ≠ F2.zero,q.2.2 ≠ F2.zero,aA (e2 (BJ F2 p q)) = aA (e2 F2.zero),aA (e2 (ZE F2 p q)) = aA (e2 F2.zero)],.one (.fl (bG (cH F2 p)))):=by kernel_rfl
theorem VL (p q : J2) : aX prog (qG prog) (fun _ => ⟨fun s => qT (bif Nat.beq s 18 then false else false),fun s => false,fun _ => none⟩) f159 80 [.v (.fl (bG p)),.v (.fl (bG q))] = some ([p.2.2 ≠ F2.zero,q.2.2 ≠ F2.zero,aA (e2 (BJ F2 p q)) ≠ aA (e2 F2.zero)],.one (.fl (bG (GT F2 p q)))):=by kernel_rfl
theorem VK (p q : J2) : aX prog (qG prog) (fun _ => ⟨fun s => qT (bif Nat.beq s 18 then false else false),fun s => !(Nat.beq s 49),fun _ => none⟩) f159 80 [.v (.fl (bG p)),.v (.fl (bG q))] = some ([p.2.2 ≠ F2.zero,q.2.2 ≠ F2.zero,aA (e2 (BJ F2 p q)) = aA (e2 F2.zero),aA (e2 (ZE F2 p q)) ≠ aA (e2 F2.zero)],.one (.fl (bG (GT F2 p q)))):=by kernel_rfl
theorem aAp (d : Bool) (p q : J2) (args : List Value) (w : World) (ha : bR w [.v (.fl (bG p)),.v (.fl (bG q))] args) : Good prog 159 (.one (.fl (bG (dZ F2 p q)))) args w:=by
 unfold dZ
 by_cases h1 : p.2.2 = F2.zero
 ·rw [if_pos h1];exact aB aG (fun _ s => oY _) (aK prog) func159 (VO p q) ⟨h1,trivial⟩ ha
 ·rw [if_neg h1]
  by_cases h2 : q.2.2 = F2.zero
  ·rw [if_pos h2];exact aB aG (fun _ s => oY _) (aK prog) func159 (VN p q) ⟨h1,h2,trivial⟩ ha
  ·rw [if_neg h2]
   by_cases h3 : BJ F2 p q = F2.zero
   ·by_cases h4 : ZE F2 p q = F2.zero
    ·rw [if_pos ⟨h3,h4⟩];exact aB aG (fun _ s => oY _) (aK prog) func159 (VM p q) ⟨h1,h2,by rw [h3],by rw [h4],trivial⟩ ha
    ·rw [if_neg (fun h => h4 h.2)];exact aB aG (fun _ s => oY _) (aK prog) func159 (VK p q) ⟨h1,h2,by rw [h3],nA h4,trivial⟩ ha
   ·rw [if_neg (fun h => h3 h.1)];exact aB aG (fun _ s => oY _) (aK prog) func159 (VL p q) ⟨h1,h2,nA h3,trivial⟩ ha
def lZ (d : Bool) : Tab:=(qT d).add 159 (g2 Sk Sk fun p q => ([],.one (.fl (bG (dZ F2 p q)))))
theorem kP (d : Bool) : TabOk prog (lZ d):=(oY d).ad func159 (eV mM mM fun p q hp args w ha => aAp d p q args w ha)
theorem Il (x : Nat) : w4 x = w4 (wv x):=by
 obtain ⟨e0,e1,e2,e3⟩:=pD (dL x) (show wv x < 115792089237316195423570985008687907853269984665640564039457584007913129639936 by
  have h:=dL x;obtain ⟨h0,h1,h2,h3⟩:=h;unfold wv aF; omega) rfl
 unfold w4;rw [e0,e1,e2,e3]
theorem q_f {x : Nat} (h : wv x < FP.M) : aA [.q x] = aA [.f (m1 x)]:=by
 show w4 x ++ [] = w4 (m1 x).1 ++ [];rw [Il x];show w4 (wv x) ++ [] = w4 (wv x % FP.M) ++ [];rw [Nat.mod_eq_of_lt h]
theorem ML (a : At) (l : List At) : aA (a :: l) = aA [a] ++ aA l:=by show a.cells ++ aA l = (a.cells ++ []) ++ aA l; rw [List.append_nil]
theorem CM {x y : Nat} (h : w4 x = w4 y) : wv x = wv y:=by
 unfold w4 at h;simp only [List.cons.injEq,Value.int.injEq,true_and,and_true,Int.ofNat_inj] at h;unfold wv;rw [h.1,h.2.1,h.2.2.1,h.2.2.2]
theorem FE {x : Nat} : aA [.q x] = aA (e1 F1.zero) ↔ wv x = 0:=by
 constructor
 ·intro h;have h' : w4 x ++ [] = w4 0 ++ []:=h;rw [List.append_nil,List.append_nil] at h';rw [CM h']; decide
 ·intro h;show w4 x ++ [] = w4 0 ++ [];rw [Il x,h]
theorem wV {x : N2} : aA (q2 x) = aA (e2 F2.zero) ↔ wv x.1 = 0 ∧ wv x.2 = 0:=by
 constructor
 ·intro h;have h' : w4 x.1 ++ (w4 x.2 ++ []) = w4 0 ++ (w4 0 ++ []):=h;obtain ⟨h1,h2⟩:=List.append_inj h' rfl;rw [List.append_nil,List.append_nil] at h2;exact ⟨by rw [CM h1]; decide,by rw [CM h2]; decide⟩
 ·rintro ⟨h1,h2⟩
  show w4 x.1 ++ (w4 x.2 ++ []) = w4 0 ++ (w4 0 ++ []);rw [Il x.1,Il x.2,h1,h2]
theorem Good.congr {P : Program} {f : FuncId} {r r' : RV} {args : List Value} {w : World} (h : Good P f r args w) (e : r.den = r'.den) : Good P f r' args w:=by
 unfold Good at h ⊢;rw [← e];exact h
def JQ (x : Nat) : Prop:=wv x < FP.M
def JP (x : N2) : Prop:=wv x.1 < FP.M ∧ wv x.2 < FP.M
def zr1 (x : Nat) : Prop:=wv x = 0
def Vk (x : N2) : Prop:=wv x.1 = 0 ∧ wv x.2 = 0
theorem aLp {x : Nat} (h : JQ x) : aA (q1 x) = aA (e1 (m1 x)):=q_f h
theorem aLo {x : N2} (h : JP x) : aA (q2 x) = aA (e2 (m2 x)):=by
 show aA (.q x.1 :: [.q x.2]) = aA (.f (m1 x.1) :: [.f (m1 x.2)]);rw [ML,ML (.f _),q_f h.1,q_f h.2]
theorem uL {c : Int} (h : c ≠ 0) : aI .neq .i64 c 0 = some (.bool true):=by
 show some (Value.bool (c != 0)) = _;rw [bne_iff_ne.2 h]
theorem GJ {c : Int} (h : c = 0) : aI .neq .i64 c 0 = some (.bool false):=by rw [h]; rfl
open Classical in
theorem aDK : ∃ g : Nat → Nat → Bool → Int × J1,∀ x y i,g x y i = if i = true then (if zr1 x ∧ zr1 y then (0,(F1.zero,F1.zero,F1.zero)) else (44,(F1.zero,F1.zero,F1.zero))) else if ¬ (JQ x ∧ JQ y) then (21,(F1.zero,F1.zero,F1.zero)) else if F1.mul (m1 y) (m1 y) = F1.add (F1.mul (F1.mul (m1 x) (m1 x)) (m1 x)) (fm 3) then (0,(m1 x,m1 y,F1.one)) else (41,(F1.zero,F1.zero,F1.zero)):=⟨_,fun _ _ _ => rfl⟩
def RX : Nat → Nat → Bool → Int × J1:=Classical.choose aDK
open Classical in
theorem RW (x y : Nat) (i : Bool) : RX x y i = if i = true then (if zr1 x ∧ zr1 y then (0,(F1.zero,F1.zero,F1.zero)) else (44,(F1.zero,F1.zero,F1.zero))) else if ¬ (JQ x ∧ JQ y) then (21,(F1.zero,F1.zero,F1.zero)) else if F1.mul (m1 y) (m1 y) = F1.add (F1.mul (F1.mul (m1 x) (m1 x)) (m1 x)) (fm 3) then (0,(m1 x,m1 y,F1.one)) else (41,(F1.zero,F1.zero,F1.zero)):=Classical.choose_spec aDK x y i
theorem Rv (x y : Nat) : aX prog (qG prog) (fun _ => ⟨fun s => lZ (bif Nat.beq s 28 then true else bif Nat.beq s 33 then true else true),fun s => false,fun _ => none⟩) f154 80 [.v (.fl (q1 x)),.v (.fl (q1 y)),.v (.im (.bool true))] = some ([aA (q1 x) ≠ aA (e1 F1.zero)],.many [.fl (bH (F1.zero,F1.zero,F1.zero)),.im (.int .i64 44)]):=by kernel_rfl
theorem Ru (x y : Nat) : aX prog (qG prog) (fun _ => ⟨fun s => lZ (bif Nat.beq s 28 then true else bif Nat.beq s 33 then true else true),fun s => !(Nat.beq s 18),fun _ => none⟩) f154 80 [.v (.fl (q1 x)),.v (.fl (q1 y)),.v (.im (.bool true))] = some ([aA (q1 x) = aA (e1 F1.zero),aA (q1 y) ≠ aA (e1 F1.zero)],.many [.fl (bH (F1.zero,F1.zero,F1.zero)),.im (.int .i64 44)]):=by kernel_rfl
theorem Rt (x y : Nat) : aX prog (qG prog) (fun _ => ⟨fun s => lZ (bif Nat.beq s 28 then true else bif Nat.beq s 33 then true else true),fun s => true,fun _ => none⟩) f154 80 [.v (.fl (q1 x)),.v (.fl (q1 y)),.v (.im (.bool true))] = some ([aA (q1 x) = aA (e1 F1.zero),aA (q1 y) = aA (e1 F1.zero)],.many [.fl (bH (F1.zero,F1.zero,F1.zero)),.im (.int .i64 0)]):=by kernel_rfl
theorem Rs (x y : Nat) : aX prog (qG prog) (fun _ => ⟨fun s => lZ (bif Nat.beq s 28 then false else bif Nat.beq s 33 then true else true),fun s => true,fun _ => none⟩) f154 80 [.v (.fl (q1 x)),.v (.fl (q1 y)),.v (.im (.bool false))] = some ([¬ wv x < FP.M],.many [.fl (bH (F1.zero,F1.zero,F1.zero)),.im (.int .i64 21)]):=by kernel_rfl
theorem Rq (x y : Nat) : aX prog (qG prog) (fun _ => ⟨fun s => lZ (bif Nat.beq s 28 then true else bif Nat.beq s 33 then false else true),fun s => true,fun _ => none⟩) f154 80 [.v (.fl (q1 x)),.v (.fl (q1 y)),.v (.im (.bool false))] = some ([wv x < FP.M,¬ wv y < FP.M],.many [.fl (bH (F1.zero,F1.zero,F1.zero)),.im (.int .i64 21)]):=by kernel_rfl
theorem Rm (x y : Nat) : aX prog (qG prog) (fun _ => ⟨fun s => lZ (bif Nat.beq s 28 then true else bif Nat.beq s 33 then true else true),fun s => false,fun _ => none⟩) f154 80 [.v (.fl (q1 x)),.v (.fl (q1 y)),.v (.im (.bool false))] = some ([wv x < FP.M,wv y < FP.M,wv y < FP.M,wv y < FP.M,wv x < FP.M,wv x < FP.M,wv x < FP.M,aA (e1 (F1.mul (m1 y) (m1 y))) ≠ aA (e1 (F1.add (F1.mul (F1.mul (m1 x) (m1 x)) (m1 x)) (fm 3)))],.many [.fl (bH (F1.zero,F1.zero,F1.zero)),.im (.int .i64 41)]):=by kernel_rfl
theorem Rl (x y : Nat) : aX prog (qG prog) (fun _ => ⟨fun s => lZ (bif Nat.beq s 28 then true else bif Nat.beq s 33 then true else true),fun s => true,fun _ => none⟩) f154 80 [.v (.fl (q1 x)),.v (.fl (q1 y)),.v (.im (.bool false))] = some ([wv x < FP.M,wv y < FP.M,wv y < FP.M,wv y < FP.M,wv x < FP.M,wv x < FP.M,wv x < FP.M,aA (e1 (F1.mul (m1 y) (m1 y))) = aA (e1 (F1.add (F1.mul (F1.mul (m1 x) (m1 x)) (m1 x)) (fm 3)))],.many [.fl (q1 x ++ (q1 y ++ e1 F1.one)),.im (.int .i64 0)]):=by kernel_rfl
theorem aQV (x y : Nat) (i : Bool) (args : List Value) (w : World) (ha : bR w [.v (.fl (q1 x)),.v (.fl (q1 y)),.v (.im (.bool i))] args) : Good prog 154 (.many [.fl (bH (RX x y i).2),.im (.int .i64 (RX x y i).1)]) args w:=by
 rw [RW];cases i with
 | true =>
  rw [if_pos rfl]
  by_cases hx : zr1 x
  ·by_cases hy : zr1 y
   ·rw [if_pos ⟨hx,hy⟩];exact aB aG (fun _ s => kP _) (aK prog) func154 (Rt x y) ⟨FE.2 hx,FE.2 hy,trivial⟩ ha
   ·rw [if_neg (fun h => hy h.2)];exact aB aG (fun _ s => kP _) (aK prog) func154 (Ru x y) ⟨FE.2 hx,fun h => hy (FE.1 h),trivial⟩ ha
  ·rw [if_neg (fun h => hx h.1)];exact aB aG (fun _ s => kP _) (aK prog) func154 (Rv x y) ⟨fun h => hx (FE.1 h),trivial⟩ ha
 | false =>
  rw [if_neg (by simp)]
  by_cases hx : JQ x
  ·by_cases hy : JQ y
   ·rw [if_neg (fun h => h ⟨hx,hy⟩)]
    by_cases h : F1.mul (m1 y) (m1 y) = F1.add (F1.mul (F1.mul (m1 x) (m1 x)) (m1 x)) (fm 3)
    ·rw [if_pos h];refine Good.congr (r:=.many [.fl (q1 x ++ (q1 y ++ e1 F1.one)),.im (.int .i64 0)]) ?_ ?_
     ·exact aB aG (fun _ s => kP _) (aK prog) func154 (Rl x y) ⟨hx,hy,hy,hy,hx,hx,hx,by rw [h],trivial⟩ ha
     ·have e : aA (q1 x ++ (q1 y ++ e1 F1.one)) = aA (bH (m1 x,m1 y,F1.one)):=by
       rw [aR,aR,aLp hx,aLp hy];rfl
      show Value.tuple #[.agg (aA _).toArray,_] = .tuple #[.agg (aA _).toArray,_];rw [e]
    ·rw [if_neg h];exact aB aG (fun _ s => kP _) (aK prog) func154 (Rm x y) ⟨hx,hy,hy,hy,hx,hx,hx,qK h,trivial⟩ ha
   ·rw [if_pos (fun h => hy h.2)];exact aB aG (fun _ s => kP _) (aK prog) func154 (Rq x y) ⟨hx,hy,trivial⟩ ha
  ·rw [if_pos (fun h => hx h.1)];exact aB aG (fun _ s => kP _) (aK prog) func154 (Rs x y) ⟨hx,trivial⟩ ha
def aPU : kZ
 | [.v (.fl l),.v (.fl m),.v (.im (.bool i))] => match KW l,KW m with
  | some x,some y => some ([],.many [.fl (bH (RX x y i).2),.im (.int .i64 (RX x y i).1)])
  | _,_ => none
 | _ => none
theorem aIt : ∀ cs pre r,aPU cs = some (pre,r) → aZ pre → ∀ (args : List Value) (w : World),bR w cs args → Good prog 154 r args w:=by
 intro cs pre r hg hp args w ha;unfold aPU at hg;split at hg
 ·rename_i l m i;split at hg
  ·rename_i x y hx hy;cases hg;refine aQV x y i args w ?_
   match args,ha with
   | [u,v,t],ha =>
    refine ⟨?_,?_,ha.2.2⟩
    ·show u = .agg (aA (q1 x)).toArray;rw [← fQ l x hx]; exact ha.1
    ·show v = .agg (aA (q1 y)).toArray;rw [← fQ m y hy]; exact ha.2.1
   | [],ha => exact ha.elim
   | [_],ha => exact ha.2.elim
   | [_,_],ha => exact ha.2.2.elim
   | _ :: _ :: _ :: _ :: _,ha => exact ha.2.2.2.elim
  ·cases hg
 ·cases hg
def aED (d : Bool) : Tab:=(lZ d).add 154 aPU
theorem aAW (d : Bool) : TabOk prog (aED d):=(kP d).ad func154 aIt
abbrev mI:=Nat × Nat × Bool
def qZ (p : mI) : List At:=[.q p.1,.q p.2.1,.c (.bool p.2.2)]
def rg1 : List At → Option mI
 | [a,b,.c (.bool i)] => match YS a,YS b with | some x,some y => some (x,y,i) | _,_ => none
 | _ => none
theorem mC {a : At} {x : Nat} (h : YS a = some x) : a.cells = w4 x:=by cases a <;> cases h <;> rfl
theorem FA : Rd rg1 qZ:=fun l x h => by
 unfold rg1 at h;split at h
 ·split at h
  ·rename_i x y h1 h2;cases h;show _ ++ (_ ++ _) = w4 _ ++ (w4 _ ++ _);rw [mC h1,mC h2]
  ·cases h
 ·cases h
def uG {R : Type} : Pt R → Bool | none => true | some _ => false
def ptX {R : Type} (K : CR R) : Pt R → R | none => K.zero | some p => p.1
def ptY {R : Type} (K : CR R) : Pt R → R | none => K.zero | some p => p.2
def fB (p : Pt Fq) : List At:=[.f (ptX F1 p),.f (ptY F1 p),.c (.bool (uG p))]
theorem aFY (d : Bool) (p : mI) : aX prog (qG prog) (fun _ => ⟨fun s => aED d,fun s => true,fun _ => none⟩) f99 80 [.v (.fl (qZ p))] = some ([],.many [.fl (bH (RX p.1 p.2.1 p.2.2).2),.im (.int .i64 (RX p.1 p.2.1 p.2.2).1)]):=by kernel_rfl
def aEw (d : Bool) : Tab:=(aED d).add 99 (g1 rg1 fun p => ([],.many [.fl (bH (RX p.1 p.2.1 p.2.2).2),.im (.int .i64 (RX p.1 p.2.1 p.2.2).1)]))
theorem aAS (d : Bool) : TabOk prog (aEw d):=(aAW d).ad func99 (bJ FA fun p hp args w ha => aB aG (fun _ s => aAW _) (aK prog) func99 (aFY d p) trivial ha)
theorem aGd (d : Bool) (p : mI) : aX prog (qG prog) (fun _ => ⟨fun s => aEw d,fun s => true,fun _ => none⟩) f160 80 [.v (.fl (qZ p))] = some ([],.one (.im (.int .i64 (RX p.1 p.2.1 p.2.2).1))):=by kernel_rfl
def Ob (d : Bool) : Tab:=(aEw d).add 160 (g1 rg1 fun p => ([],.one (.im (.int .i64 (RX p.1 p.2.1 p.2.2).1))))
theorem Ey (d : Bool) : TabOk prog (Ob d):=(aAS d).ad func160 (bJ FA fun p hp args w ha => aB aG (fun _ s => aAS _) (aK prog) func160 (aGd d p) trivial ha)
theorem Ct (p : J1) : aX prog (qG prog) (fun _ => ⟨fun s => Ob true,fun s => true,fun _ => none⟩) f100 80 [.v (.fl (bH p))] = some ([p.2.2 = F1.zero],.one (.fl (fB none))):=by kernel_rfl
theorem Cu (p : J1) : aX prog (qG prog) (fun _ => ⟨fun s => Ob false,fun s => true,fun _ => none⟩) f100 80 [.v (.fl (bH p))] = some ([p.2.2 ≠ F1.zero],.one (.fl (fB (some (F1.mul p.1 (F1.mul (cM p.2.2) (cM p.2.2)),F1.mul p.2.1 (F1.mul (F1.mul (cM p.2.2) (cM p.2.2)) (cM p.2.2))))))):=by kernel_rfl
theorem aGZ (p : J1) (args : List Value) (w : World) (ha : bR w [.v (.fl (bH p))] args) : Good prog 100 (.one (.fl (fB (fM F1 cM p)))) args w:=by
 by_cases h : p.2.2 = F1.zero
 ·rw [dE h];exact aB aG (fun _ s => Ey _) (aK prog) func100 (Ct p) ⟨h,trivial⟩ ha
 ·rw [dQ h];exact aB aG (fun _ s => Ey _) (aK prog) func100 (Cu p) ⟨h,trivial⟩ ha
def Hl (d : Bool) : Tab:=(Ob d).add 100 (g1 Sl fun p => ([],.one (.fl (fB (fM F1 cM p)))))
theorem Kk (d : Bool) : TabOk prog (Hl d):=(Ey d).ad func100 (bJ mO fun p hp args w ha => aGZ p args w ha)
def gE : List At:=[.c (.func (.func 99) #[] #[]),.c (.func (.func 100) #[] #[])]
theorem Yr (d : Bool) : aX prog (qG prog) (fun _ => ⟨fun s => Hl d,fun s => true,fun _ => none⟩) f47 80 [] = some ([],.one (.fl gE)):=by kernel_rfl
def qW (d : Bool) : Tab:=(Hl d).add 47 (g0 (.one (.fl gE)))
theorem nS (d : Bool) : TabOk prog (qW d):=(Kk d).ad func47 (gP fun w => aB aG (fun _ s => Kk _) (aK prog) func47 (Yr d) trivial (args:=[]) trivial)
open Classical in
theorem aDH : ∃ g : N2 → N2 → Bool → Int × J2,∀ x y i,g x y i = if i = true then (if Vk x ∧ Vk y then (0,(F2.zero,F2.zero,F2.zero)) else (44,(F2.zero,F2.zero,F2.zero))) else if ¬ (JP x ∧ JP y) then (21,(F2.zero,F2.zero,F2.zero)) else if F2.mul (m2 y) (m2 y) = F2.add (F2.mul (F2.mul (m2 x) (m2 x)) (m2 x)) dG then (0,(m2 x,m2 y,F2.one)) else (41,(F2.zero,F2.zero,F2.zero)):=⟨_,fun _ _ _ => rfl⟩
def rL : N2 → N2 → Bool → Int × J2:=Classical.choose aDH
open Classical in
theorem IL (x y : N2) (i : Bool) : rL x y i = if i = true then (if Vk x ∧ Vk y then (0,(F2.zero,F2.zero,F2.zero)) else (44,(F2.zero,F2.zero,F2.zero))) else if ¬ (JP x ∧ JP y) then (21,(F2.zero,F2.zero,F2.zero)) else if F2.mul (m2 y) (m2 y) = F2.add (F2.mul (F2.mul (m2 x) (m2 x)) (m2 x)) dG then (0,(m2 x,m2 y,F2.one)) else (41,(F2.zero,F2.zero,F2.zero)):=Classical.choose_spec aDH x y i
theorem Rk (x y : N2) : aX prog (qG prog) (fun _ => ⟨fun s => qW (bif Nat.beq s 28 then true else bif Nat.beq s 33 then true else true),fun s => false,fun _ => none⟩) f157 80 [.v (.fl (q2 x)),.v (.fl (q2 y)),.v (.im (.bool true))] = some ([aA (q2 x) ≠ aA (e2 F2.zero)],.many [.fl (bG (F2.zero,F2.zero,F2.zero)),.im (.int .i64 44)]):=by kernel_rfl
theorem Rj (x y : N2) : aX prog (qG prog) (fun _ => ⟨fun s => qW (bif Nat.beq s 28 then true else bif Nat.beq s 33 then true else true),fun s => !(Nat.beq s 18),fun _ => none⟩) f157 80 [.v (.fl (q2 x)),.v (.fl (q2 y)),.v (.im (.bool true))] = some ([aA (q2 x) = aA (e2 F2.zero),aA (q2 y) ≠ aA (e2 F2.zero)],.many [.fl (bG (F2.zero,F2.zero,F2.zero)),.im (.int .i64 44)]):=by kernel_rfl
theorem Rh (x y : N2) : aX prog (qG prog) (fun _ => ⟨fun s => qW (bif Nat.beq s 28 then true else bif Nat.beq s 33 then true else true),fun s => true,fun _ => none⟩) f157 80 [.v (.fl (q2 x)),.v (.fl (q2 y)),.v (.im (.bool true))] = some ([aA (q2 x) = aA (e2 F2.zero),aA (q2 y) = aA (e2 F2.zero)],.many [.fl (bG (F2.zero,F2.zero,F2.zero)),.im (.int .i64 0)]):=by kernel_rfl
theorem Rg (x y : N2) : aX prog (qG prog) (fun _ => ⟨fun s => qW (bif Nat.beq s 28 then false else bif Nat.beq s 33 then true else true),fun s => true,fun _ => none⟩) f157 80 [.v (.fl (q2 x)),.v (.fl (q2 y)),.v (.im (.bool false))] = some ([¬ (wv x.1 < FP.M ∧ wv x.2 < FP.M)],.many [.fl (bG (F2.zero,F2.zero,F2.zero)),.im (.int .i64 21)]):=by kernel_rfl
theorem Rf (x y : N2) : aX prog (qG prog) (fun _ => ⟨fun s => qW (bif Nat.beq s 28 then true else bif Nat.beq s 33 then false else true),fun s => true,fun _ => none⟩) f157 80 [.v (.fl (q2 x)),.v (.fl (q2 y)),.v (.im (.bool false))] = some ([(wv x.1 < FP.M ∧ wv x.2 < FP.M),¬ (wv y.1 < FP.M ∧ wv y.2 < FP.M)],.many [.fl (bG (F2.zero,F2.zero,F2.zero)),.im (.int .i64 21)]):=by kernel_rfl
theorem Re (x y : N2) : aX prog (qG prog) (fun _ => ⟨fun s => qW (bif Nat.beq s 28 then true else bif Nat.beq s 33 then true else true),fun s => false,fun _ => none⟩) f157 80 [.v (.fl (q2 x)),.v (.fl (q2 y)),.v (.im (.bool false))] = some ([(wv x.1 < FP.M ∧ wv x.2 < FP.M),(wv y.1 < FP.M ∧ wv y.2 < FP.M),aA (e2 (F2.mul (m2 y) (m2 y))) ≠ aA (e2 (F2.add (F2.mul (F2.mul (m2 x) (m2 x)) (m2 x)) dG))],.many [.fl (bG (F2.zero,F2.zero,F2.zero)),.im (.int .i64 41)]):=by kernel_rfl
theorem Rc (x y : N2) : aX prog (qG prog) (fun _ => ⟨fun s => qW (bif Nat.beq s 28 then true else bif Nat.beq s 33 then true else true),fun s => true,fun _ => none⟩) f157 80 [.v (.fl (q2 x)),.v (.fl (q2 y)),.v (.im (.bool false))] = some ([(wv x.1 < FP.M ∧ wv x.2 < FP.M),(wv y.1 < FP.M ∧ wv y.2 < FP.M),aA (e2 (F2.mul (m2 y) (m2 y))) = aA (e2 (F2.add (F2.mul (F2.mul (m2 x) (m2 x)) (m2 x)) dG))],.many [.fl (q2 x ++ (q2 y ++ e2 F2.one)),.im (.int .i64 0)]):=by kernel_rfl
theorem aQU (x y : N2) (i : Bool) (args : List Value) (w : World) (ha : bR w [.v (.fl (q2 x)),.v (.fl (q2 y)),.v (.im (.bool i))] args) : Good prog 157 (.many [.fl (bG (rL x y i).2),.im (.int .i64 (rL x y i).1)]) args w:=by
 rw [IL];cases i with
 | true =>
  rw [if_pos rfl]
  by_cases hx : Vk x
  ·by_cases hy : Vk y
   ·rw [if_pos ⟨hx,hy⟩];exact aB aG (fun _ s => nS _) (aK prog) func157 (Rh x y) ⟨wV.2 hx,wV.2 hy,trivial⟩ ha
   ·rw [if_neg (fun h => hy h.2)];exact aB aG (fun _ s => nS _) (aK prog) func157 (Rj x y) ⟨wV.2 hx,fun h => hy (wV.1 h),trivial⟩ ha
  ·rw [if_neg (fun h => hx h.1)];exact aB aG (fun _ s => nS _) (aK prog) func157 (Rk x y) ⟨fun h => hx (wV.1 h),trivial⟩ ha
 | false =>
  rw [if_neg (by simp)]
  by_cases hx : JP x
  ·by_cases hy : JP y
   ·rw [if_neg (fun h => h ⟨hx,hy⟩)]
    by_cases h : F2.mul (m2 y) (m2 y) = F2.add (F2.mul (F2.mul (m2 x) (m2 x)) (m2 x)) dG
    ·rw [if_pos h];refine Good.congr (r:=.many [.fl (q2 x ++ (q2 y ++ e2 F2.one)),.im (.int .i64 0)]) ?_ ?_
     ·exact aB aG (fun _ s => nS _) (aK prog) func157 (Rc x y) ⟨hx,hy,by rw [h],trivial⟩ ha
     ·have e : aA (q2 x ++ (q2 y ++ e2 F2.one)) = aA (bG (m2 x,m2 y,F2.one)):=by
       rw [aR,aR,aLo hx,aLo hy];rfl
      show Value.tuple #[.agg (aA _).toArray,_] = .tuple #[.agg (aA _).toArray,_];rw [e]
    ·rw [if_neg h];exact aB aG (fun _ s => nS _) (aK prog) func157 (Re x y) ⟨hx,hy,nA h,trivial⟩ ha
   ·rw [if_pos (fun h => hy h.2)];exact aB aG (fun _ s => nS _) (aK prog) func157 (Rf x y) ⟨hx,hy,trivial⟩ ha
  ·rw [if_pos (fun h => hx h.1)];exact aB aG (fun _ s => nS _) (aK prog) func157 (Rg x y) ⟨hx,trivial⟩ ha
def aPT : kZ
 | [.v (.fl l),.v (.fl m),.v (.im (.bool i))] => match rq2 l,rq2 m with
  | some x,some y => some ([],.many [.fl (bG (rL x y i).2),.im (.int .i64 (rL x y i).1)])
  | _,_ => none
 | _ => none
theorem aIs : ∀ cs pre r,aPT cs = some (pre,r) → aZ pre → ∀ (args : List Value) (w : World),bR w cs args → Good prog 157 r args w:=by
 intro cs pre r hg hp args w ha;unfold aPT at hg;split at hg
 ·rename_i l m i;split at hg
  ·rename_i x y hx hy;cases hg;refine aQU x y i args w ?_
   match args,ha with
   | [u,v,t],ha =>
    refine ⟨?_,?_,ha.2.2⟩
    ·show u = .agg (aA (q2 x)).toArray;rw [← rU l x hx]; exact ha.1
    ·show v = .agg (aA (q2 y)).toArray;rw [← rU m y hy]; exact ha.2.1
   | [],ha => exact ha.elim
   | [_],ha => exact ha.2.elim
   | [_,_],ha => exact ha.2.2.elim
   | _ :: _ :: _ :: _ :: _,ha => exact ha.2.2.2.elim
  ·cases hg
 ·cases hg
def aEC (d : Bool) : Tab:=(qW d).add 157 aPT
theorem aAV (d : Bool) : TabOk prog (aEC d):=(nS d).ad func157 aIs
abbrev iX:=N2 × N2 × Bool
def jN (p : iX) : List At:=[.q p.1.1,.q p.1.2,.q p.2.1.1,.q p.2.1.2,.c (.bool p.2.2)]
def Zh : List At → Option iX
 | [a,b,c,d,.c (.bool i)] => match YS a,YS b,YS c,YS d with | some x,some y,some z,some w => some ((x,y),(z,w),i) | _,_,_,_ => none
 | _ => none
theorem pU : Rd Zh jN:=fun l x h => by
 unfold Zh at h;split at h
 ·split at h
  ·rename_i x y z w h1 h2 h3 h4;cases h;show _ ++ (_ ++ (_ ++ (_ ++ _))) = w4 _ ++ (w4 _ ++ (w4 _ ++ (w4 _ ++ _)));rw [mC h1,mC h2,mC h3,mC h4]
  ·cases h
 ·cases h
def dF (p : Pt Q2) : List At:=[.f (ptX F2 p).1,.f (ptX F2 p).2,.f (ptY F2 p).1,.f (ptY F2 p).2,.c (.bool (uG p))]
theorem aFX (d : Bool) (p : iX) : aX prog (qG prog) (fun _ => ⟨fun s => aEC d,fun s => true,fun _ => none⟩) f103 80 [.v (.fl (jN p))] = some ([],.many [.fl (bG (rL p.1 p.2.1 p.2.2).2),.im (.int .i64 (rL p.1 p.2.1 p.2.2).1)]):=by kernel_rfl
def aEv (d : Bool) : Tab:=(aEC d).add 103 (g1 Zh fun p => ([],.many [.fl (bG (rL p.1 p.2.1 p.2.2).2),.im (.int .i64 (rL p.1 p.2.1 p.2.2).1)]))
theorem aAR (d : Bool) : TabOk prog (aEv d):=(aAV d).ad func103 (bJ pU fun p hp args w ha => aB aG (fun _ s => aAV _) (aK prog) func103 (aFX d p) trivial ha)
theorem aGc (d : Bool) (p : iX) : aX prog (qG prog) (fun _ => ⟨fun s => aEv d,fun s => true,fun _ => none⟩) f161 80 [.v (.fl (jN p))] = some ([],.one (.im (.int .i64 (rL p.1 p.2.1 p.2.2).1))):=by kernel_rfl
def Oa (d : Bool) : Tab:=(aEv d).add 161 (g1 Zh fun p => ([],.one (.im (.int .i64 (rL p.1 p.2.1 p.2.2).1))))
theorem Ew (d : Bool) : TabOk prog (Oa d):=(aAR d).ad func161 (bJ pU fun p hp args w ha => aB aG (fun _ s => aAR _) (aK prog) func161 (aGc d p) trivial ha)
theorem Cr (p : J2) : aX prog (qG prog) (fun _ => ⟨fun s => Oa true,fun s => true,fun _ => none⟩) f104 80 [.v (.fl (bG p))] = some ([p.2.2 = F2.zero],.one (.fl (dF none))):=by kernel_rfl
theorem Cs (p : J2) : aX prog (qG prog) (fun _ => ⟨fun s => Oa false,fun s => true,fun _ => none⟩) f104 80 [.v (.fl (bG p))] = some ([p.2.2 ≠ F2.zero],.one (.fl (dF (some (F2.mul p.1 (F2.mul (dR p.2.2) (dR p.2.2)),F2.mul p.2.1 (F2.mul (F2.mul (dR p.2.2) (dR p.2.2)) (dR p.2.2))))))):=by kernel_rfl
theorem aGY (p : J2) (args : List Value) (w : World) (ha : bR w [.v (.fl (bG p))] args) : Good prog 104 (.one (.fl (dF (fM F2 dR p)))) args w:=by
 by_cases h : p.2.2 = F2.zero
 ·rw [dE h];exact aB aG (fun _ s => Ew _) (aK prog) func104 (Cr p) ⟨h,trivial⟩ ha
 ·rw [dQ h];exact aB aG (fun _ s => Ew _) (aK prog) func104 (Cs p) ⟨h,trivial⟩ ha
def SZ (d : Bool) : Tab:=(Oa d).add 104 (g1 Sk fun p => ([],.one (.fl (dF (fM F2 dR p)))))
theorem PT (d : Bool) : TabOk prog (SZ d):=(Ew d).ad func104 (bJ mM fun p hp args w ha => aGY p args w ha)
def fA : List At:=[.c (.func (.func 103) #[] #[]),.c (.func (.func 104) #[] #[])]
theorem Yq (d : Bool) : aX prog (qG prog) (fun _ => ⟨fun s => SZ d,fun s => true,fun _ => none⟩) f49 80 [] = some ([],.one (.fl fA)):=by kernel_rfl
def qV (d : Bool) : Tab:=(SZ d).add 49 (g0 (.one (.fl fA)))
theorem nR (d : Bool) : TabOk prog (qV d):=(PT d).ad func49 (gP fun w => aB aG (fun _ s => PT _) (aK prog) func49 (Yq d) trivial (args:=[]) trivial)
theorem VZ (d : Bool) (p : iX) : aX prog (qG prog) (fun _ => ⟨fun s => qV d,fun s => true,fun s => bif Nat.beq s 17 then some (.bool true) else none⟩) f218 80 [.v (.fl fA),.v (.fl (jN p))] = some ([aI .neq .i64 (rL p.1 p.2.1 p.2.2).1 0 = some (.bool true)],.many [.fl (dF (some (F2.zero,F2.zero))),.im (.int .i64 (rL p.1 p.2.1 p.2.2).1)]):=by kernel_rfl
theorem WA (d : Bool) (p : iX) : aX prog (qG prog) (fun _ => ⟨fun s => qV d,fun s => true,fun s => bif Nat.beq s 17 then some (.bool false) else none⟩) f218 80 [.v (.fl fA),.v (.fl (jN p))] = some ([aI .neq .i64 (rL p.1 p.2.1 p.2.2).1 0 = some (.bool false)],.many [.fl (dF (fM F2 dR (sG F2 (rL p.1 p.2.1 p.2.2).2))),.im (.int .i64 0)]):=by kernel_rfl
def xM (n : Nat) : Nat:=if wv n = 0 then 0 else Nat.log2 (wv n) + 1
theorem DD (n : Nat) : LenIs (wv n) (xM n):=by
 unfold xM
 by_cases h : wv n = 0
 ·rw [if_pos h,h]; exact ⟨by decide,fun h => by cases h⟩
 ·rw [if_neg h];exact ⟨Nat.lt_log2_self,fun _ => by rw [Nat.add_sub_cancel]; exact Nat.log2_self_le h⟩
theorem aJH (n : Nat) : wv n < 2 ^ 256:=by
 obtain ⟨h0,h1,h2,h3⟩:=dL n;unfold wv aF;have : (2 : Nat) ^ 256 = 115792089237316195423570985008687907853269984665640564039457584007913129639936:=by decide
 omega
theorem aHQ (n : Nat) : xM n ≤ 256:=by
 rcases Nat.lt_or_ge 256 (xM n) with h | h
 ·have h1:=(DD n).2 (by omega);have h2:=Nat.pow_le_pow_right (show 0 < 2 by omega) (show 256 ≤ xM n - 1 by omega);have:=aJH n;omega
 ·exact h
def aIq : kZ
 | [.v (.fl l)] => match KW l with
  | some n => some ([],.one (.im (.int .i64 (xM n : Nat))))
  | none => none
 | _ => none
theorem aBO : ∀ cs pre r,aIq cs = some (pre,r) → aZ pre → ∀ (args : List Value) (w : World),bR w cs args → Good prog 260 r args w:=by
 intro cs pre r hg hp args w ha;unfold aIq at hg;split at hg
 ·rename_i l;split at hg
  ·rename_i n hn;cases hg;rw [BR ha,fQ l _ hn];refine (zR _ _ _ _ (dL n) w).mono ?_
   rintro e w' ⟨L,rfl,_,h,hbl⟩
   cases h.uniq (DD n);exact ⟨rfl,hbl⟩
  ·cases hg
 ·cases hg
def aCH : kZ
 | [.v (.fl l),.v (.im (.int .i64 (.ofNat i)))] => match KW l with
  | some n => some ([i < 256],.one (.im (.int .i64 (pK (wv n) i : Nat))))
  | none => none
 | _ => none
theorem aEb : ∀ cs pre r,aCH cs = some (pre,r) → aZ pre → ∀ (args : List Value) (w : World),bR w cs args → Good prog 167 r args w:=by
 intro cs pre r hg hp args w ha;unfold aCH at hg;split at hg
 ·rename_i l i;split at hg
  ·rename_i n hn;cases hg
   match args,ha with
   | [v,u],ha =>
    have h1 : v = .agg (aA l).toArray:=ha.1;have h2 : u = .int .i64 (Int.ofNat i):=ha.2.1;rw [fQ l _ hn] at h1;subst h1; subst h2;exact aEc _ _ _ _ i (dL n) hp.1 w
   | [],ha => exact ha.elim
   | [_],ha => exact ha.2.elim
   | _ :: _ :: _ :: _,ha => exact ha.2.2.elim
  ·cases hg
 ·cases hg
def aPF : kZ
 | [.v (.fl l),.v (.im (.int .i64 (.ofNat k)))] => match KW l with
  | some n => some ([k < 9223372036854775808],.one (.fl (q1 (wv n / 2 ^ k))))
  | none => none
 | _ => none
theorem aMW : ∀ cs pre r,aPF cs = some (pre,r) → aZ pre → ∀ (args : List Value) (w : World),bR w cs args → Good prog 254 r args w:=by
 intro cs pre r hg hp args w ha;unfold aPF at hg;split at hg
 ·rename_i l k;split at hg
  ·rename_i n hn;cases hg
   match args,ha with
   | [v,u],ha =>
    have h1 : v = .agg (aA l).toArray:=ha.1;have h2 : u = .int .i64 (Int.ofNat k):=ha.2.1;rw [fQ l _ hn] at h1;subst h1; subst h2;have hk : k < 9223372036854775808:=hp.1;refine (sW _ _ _ _ (Int.ofNat k) (dL n) (by simp) (by simp; omega) w).mono ?_
    rintro e w' ⟨s0,s1,s2,s3,rfl,hs,hv,hb⟩
    have hlt : wv n / 2 ^ k < 115792089237316195423570985008687907853269984665640564039457584007913129639936:=by
     refine Nat.lt_of_le_of_lt (Nat.div_le_self _ _) ?_;have:=aJH n;have e : (2 : Nat) ^ 256 = 115792089237316195423570985008687907853269984665640564039457584007913129639936:=by decide
     omega
    obtain ⟨rfl,rfl,rfl,rfl⟩:=pD hs hlt hv;exact ⟨rfl,hb⟩
   | [],ha => exact ha.elim
   | [_],ha => exact ha.2.elim
   | _ :: _ :: _ :: _,ha => exact ha.2.2.elim
  ·cases hg
 ·cases hg
def Iw (x : Nat) : Nat:=fw x 0 * 2 % 18446744073709551616
def lK (x p : Nat) : Nat:=(if p = 0 then Iw x else fw (wv x / 2 ^ (p * 4 - 1)) 0) % 32
def lL (x p : Nat) : Int:=((lK x p + 1) / 2 : Nat) - (if 16 ≤ lK x p then 16 else 0 : Int)
def fH (d : Bool) : Tab:=((SZ d).add 260 aIq).add 254 aPF
theorem jE (d : Bool) : TabOk prog (fH d):=((PT d).ad func260 aBO).ad func254 aMW
def dO (b o n m : Nat) : List At:=[.c (jR b o n m),.c (iI 4)]
def atX (old : Nat → Nat → List At → Prop) (x i w : Nat) : Ext :=
 { idx:=assoc [(13,i)],ld:=assoc [(14,[At.q x])],st:=fun _ => none,gen:=assoc [(17,uI (Iw x)),(32,uI 32),(34,uI w),(37,iI (w + 1)),(42,uI (w / 16)),(47,iI 16)],mks:=fun _ => none,ky:=fun _ => none,old:=old,T2:=Fr0 }
def atN (p w : Nat) (c0 c1 : Bool) (v : Int) : Nat → Option Value:=assoc [(19,.bool c0),(24,iI (p * 4)),(25,iI (p * 4 - 1)),(36,uI (w + 1)),(38,iI ((w + 1) / 2)),(43,.bool c1),(48,.int .i64 v)]
def nG (op : BinOp) (t : Nat) (x y : Operand) (v u r : Value) : Prop:=∀ w : World,(do eqGuard op t x y v u; binOp op t v u : Sem Value).run prog w = .ok r w
theorem Sb (old : Nat → Nat → List At → Prop) (b o n m i p x w : Nat) (v : Int) : aX prog (qX prog (atX old x i w)) (fun _ => ⟨fun s => fH true,fun s => true,atN p w true true v⟩) f234 80 [.v (.fl (dO b o n m)),.v (.im (iI i)),.v (.im (iI p))] = some ([Int.ofNat i = Int.ofNat i,i < n,old b (o + i * 4) [At.q x],cS [At.q x] = 4,nG .shl 22 (.tmp 16) (.const (.int .u64 1)) (.int .u64 (fw x 0 : Nat)) (.int .u64 1) (uI (Iw x)),aI .gtr .i64 (Int.ofNat p) 0 = some (.bool true),aI .mul .i64 (Int.ofNat p) (Int.ofNat 4) = some (iI (p * 4)),aI .sub .i64 (Int.ofNat (p * 4)) 1 = some (iI (p * 4 - 1)),p * 4 - 1 < 9223372036854775808,nG .shl 22 (.const (.int .u64 1)) (.tmp 31) (.int .u64 1) (.int .i64 (IntKind.i64.wrap (Int.ofNat 4 + 1))) (uI 32),nG .and 22 (.tmp 28) (.tmp 33) (.int .u64 (fw (wv x / 2 ^ (p * 4 - 1)) 0 : Nat)) (.int .u64 (IntKind.u64.wrap (Int.ofNat 32 - 1))) (uI w),aI .add .u64 (Int.ofNat w) 1 = some (uI (w + 1)),∀ W : World,(convert 22 3 (uI (w + 1))).run prog W = .ok (iI (w + 1)) W,aI .quo .i64 (Int.ofNat (w + 1)) 2 = some (iI ((w + 1) / 2)),nG .shr 22 (.tmp 39) (.tmp 41) (uI w) (iI 4) (uI (w / 16)),aI .eql .u64 (Int.ofNat (w / 16)) 1 = some (.bool true),nG .shl 3 (.const (.int .i64 1)) (.tmp 46) (.int .i64 1) (iI 4) (iI 16),aI .sub .i64 (Int.ofNat ((w + 1) / 2)) (Int.ofNat 16) = some (.int .i64 v)],.one (.im (.int .i64 v))):=by kernel_rfl
theorem Sc (old : Nat → Nat → List At → Prop) (b o n m i p x w : Nat) (v : Int) : aX prog (qX prog (atX old x i w)) (fun _ => ⟨fun s => fH true,fun s => true,atN p w true false v⟩) f234 80 [.v (.fl (dO b o n m)),.v (.im (iI i)),.v (.im (iI p))] = some ([Int.ofNat i = Int.ofNat i,i < n,old b (o + i * 4) [At.q x],cS [At.q x] = 4,nG .shl 22 (.tmp 16) (.const (.int .u64 1)) (.int .u64 (fw x 0 : Nat)) (.int .u64 1) (uI (Iw x)),aI .gtr .i64 (Int.ofNat p) 0 = some (.bool true),aI .mul .i64 (Int.ofNat p) (Int.ofNat 4) = some (iI (p * 4)),aI .sub .i64 (Int.ofNat (p * 4)) 1 = some (iI (p * 4 - 1)),p * 4 - 1 < 9223372036854775808,nG .shl 22 (.const (.int .u64 1)) (.tmp 31) (.int .u64 1) (.int .i64 (IntKind.i64.wrap (Int.ofNat 4 + 1))) (uI 32),nG .and 22 (.tmp 28) (.tmp 33) (.int .u64 (fw (wv x / 2 ^ (p * 4 - 1)) 0 : Nat)) (.int .u64 (IntKind.u64.wrap (Int.ofNat 32 - 1))) (uI w),aI .add .u64 (Int.ofNat w) 1 = some (uI (w + 1)),∀ W : World,(convert 22 3 (uI (w + 1))).run prog W = .ok (iI (w + 1)) W,aI .quo .i64 (Int.ofNat (w + 1)) 2 = some (iI ((w + 1) / 2)),nG .shr 22 (.tmp 39) (.tmp 41) (uI w) (iI 4) (uI (w / 16)),aI .eql .u64 (Int.ofNat (w / 16)) 1 = some (.bool false)],.one (.im (iI ((w + 1) / 2)))):=by kernel_rfl
theorem Sd (old : Nat → Nat → List At → Prop) (b o n m i p x w : Nat) (v : Int) : aX prog (qX prog (atX old x i w)) (fun _ => ⟨fun s => fH true,fun s => true,atN p w false true v⟩) f234 80 [.v (.fl (dO b o n m)),.v (.im (iI i)),.v (.im (iI p))] = some ([Int.ofNat i = Int.ofNat i,i < n,old b (o + i * 4) [At.q x],cS [At.q x] = 4,nG .shl 22 (.tmp 16) (.const (.int .u64 1)) (.int .u64 (fw x 0 : Nat)) (.int .u64 1) (uI (Iw x)),aI .gtr .i64 (Int.ofNat p) 0 = some (.bool false),nG .shl 22 (.const (.int .u64 1)) (.tmp 31) (.int .u64 1) (.int .i64 (IntKind.i64.wrap (Int.ofNat 4 + 1))) (uI 32),nG .and 22 (.tmp 28) (.tmp 33) (.int .u64 (Iw x : Nat)) (.int .u64 (IntKind.u64.wrap (Int.ofNat 32 - 1))) (uI w),aI .add .u64 (Int.ofNat w) 1 = some (uI (w + 1)),∀ W : World,(convert 22 3 (uI (w + 1))).run prog W = .ok (iI (w + 1)) W,aI .quo .i64 (Int.ofNat (w + 1)) 2 = some (iI ((w + 1) / 2)),nG .shr 22 (.tmp 39) (.tmp 41) (uI w) (iI 4) (uI (w / 16)),aI .eql .u64 (Int.ofNat (w / 16)) 1 = some (.bool true),nG .shl 3 (.const (.int .i64 1)) (.tmp 46) (.int .i64 1) (iI 4) (iI 16),aI .sub .i64 (Int.ofNat ((w + 1) / 2)) (Int.ofNat 16) = some (.int .i64 v)],.one (.im (.int .i64 v))):=by kernel_rfl
theorem Se (old : Nat → Nat → List At → Prop) (b o n m i p x w : Nat) (v : Int) : aX prog (qX prog (atX old x i w)) (fun _ => ⟨fun s => fH true,fun s => true,atN p w false false v⟩) f234 80 [.v (.fl (dO b o n m)),.v (.im (iI i)),.v (.im (iI p))] = some ([Int.ofNat i = Int.ofNat i,i < n,old b (o + i * 4) [At.q x],cS [At.q x] = 4,nG .shl 22 (.tmp 16) (.const (.int .u64 1)) (.int .u64 (fw x 0 : Nat)) (.int .u64 1) (uI (Iw x)),aI .gtr .i64 (Int.ofNat p) 0 = some (.bool false),nG .shl 22 (.const (.int .u64 1)) (.tmp 31) (.int .u64 1) (.int .i64 (IntKind.i64.wrap (Int.ofNat 4 + 1))) (uI 32),nG .and 22 (.tmp 28) (.tmp 33) (.int .u64 (Iw x : Nat)) (.int .u64 (IntKind.u64.wrap (Int.ofNat 32 - 1))) (uI w),aI .add .u64 (Int.ofNat w) 1 = some (uI (w + 1)),∀ W : World,(convert 22 3 (uI (w + 1))).run prog W = .ok (iI (w + 1)) W,aI .quo .i64 (Int.ofNat (w + 1)) 2 = some (iI ((w + 1) / 2)),nG .shr 22 (.tmp 39) (.tmp 41) (uI w) (iI 4) (uI (w / 16)),aI .eql .u64 (Int.ofNat (w / 16)) 1 = some (.bool false)],.one (.im (iI ((w + 1) / 2)))):=by kernel_rfl
theorem Iy (x : Nat) : nG .shl 22 (.tmp 16) (.const (.int .u64 1)) (.int .u64 (fw x 0 : Nat)) (.int .u64 1) (uI (Iw x)):=fun w => by
 have h:=(dL x).1;simp [eqGuard,binOp,go_sem,IntKind.wrap,IntKind.signed,uI,Iw]
theorem OK : nG .shl 22 (.const (.int .u64 1)) (.tmp 31) (.int .u64 1) (.int .i64 (IntKind.i64.wrap (Int.ofNat 4 + 1))) (uI 32):=fun w => by
 have e : IntKind.i64.wrap (Int.ofNat 4 + 1) = 5:=by decide
 rw [e];simp [eqGuard,binOp,go_sem,IntKind.wrap,uI]
theorem Xo : nG .shl 3 (.const (.int .i64 1)) (.tmp 46) (.int .i64 1) (iI 4) (iI 16):=fun w => by
 simp [eqGuard,binOp,go_sem,IntKind.wrap,iI]
theorem aJP (x : Nat) (h : x < 18446744073709551616) : nG .and 22 (.tmp 28) (.tmp 33) (.int .u64 (x : Nat)) (.int .u64 (IntKind.u64.wrap (Int.ofNat 32 - 1))) (uI (x % 32)):=fun w => by
 have e : IntKind.u64.wrap (Int.ofNat 32 - 1) = ((31 : Nat) : Int):=by decide
 rw [e];have h2:=bits_and_u64_nat x 31 h (by omega);have h3 : x &&& 31 = x % 32:=Nat.and_two_pow_sub_one_eq_mod x 5;rw [h3] at h2;simp [eqGuard,binOp,go_sem,uI];exact h2
theorem aNb (x : Nat) (h : x < 64) (W : World) : (convert 22 3 (uI x)).run prog W = .ok (iI x) W:=by
 have e : IntKind.i64.wrap (x : Int) = x:=xO (by omega);have e2 : (x : Int) % 18446744073709551616 = x:=by omega
 simp [convert,go_sem,uI,iI,e]
theorem aTs (x : Nat) (h : x < 32) : nG .shr 22 (.tmp 39) (.tmp 41) (uI x) (iI 4) (uI (x / 16)):=fun w => by
 simp [eqGuard,binOp,go_sem,uI,iI]
theorem My (x p : Nat) : lK x p < 32:=Nat.mod_lt _ (by omega)
theorem aUu (n : Nat) (h : n < 100) : aI .add .u64 (Int.ofNat n) 1 = some (uI (n + 1)):=by
 show some (Value.int .u64 (IntKind.u64.wrap ((n : Int) + 1))) = _;have e : IntKind.u64.wrap ((n : Int) + 1) = ((n + 1 : Nat) : Int):=by
  unfold IntKind.wrap;simp [IntKind.signed,IntKind.bits];omega
 rw [e]; rfl
theorem PW (k : IntKind) (n : Nat) : aI .eql k (Int.ofNat n) 1 = some (.bool (decide (n = 1))):=by
 show some (Value.bool ((n : Int) == 1)) = _
 by_cases h : n = 1
 ·subst h; rfl
 ·rw [decide_eq_false h,beq_eq_false_iff_ne.2 (by omega)]
theorem aEf {w0 : World} (b o n m i p x : Nat) (hx : oldOf w0 b (o + i * 4) [.q x]) (hi : i < n) (hp : p < 1152921504606846976) : Calls prog 234 #[.agg (aA (dO b o n m)).toArray,iI i,iI p] w0 (fun e w' => e = .returned (.int .i64 (lL x p)) ∧ Below w0.heap.size w0 w'):=by
 have hq : ∀ w,cN prog (qX prog (atX (oldOf w0) x i w)) w0.heap.size w0:=fun w => nM (jL _) fun _ _ _ h => h
 have hT : ∀ n d : Nat,TabOkW prog (fH true) w0.heap.size w0:=fun _ _ => (jE true).w _ _
 have ha : bR w0 [.v (.fl (dO b o n m)),.v (.im (iI i)),.v (.im (iI p))] [.agg (aA (dO b o n m)).toArray,iI i,iI p]:=⟨rfl,rfl,rfl,trivial⟩;have hw:=My x p;have hfw:=(dL (wv x / 2 ^ (p * 4 - 1))).1;have hs : Iw x < 18446744073709551616:=Nat.mod_lt _ (by omega);have o1:=aUu (lK x p) (by omega);have o2:=aNb (lK x p + 1) (by omega);have o3 : aI .quo .i64 (Int.ofNat (lK x p + 1)) 2 = some (iI ((lK x p + 1) / 2)):=aKx (k:=2) (by omega) (by omega);have o4:=aTs (lK x p) hw;have hv : 16 ≤ lK x p → aI .sub .i64 (Int.ofNat ((lK x p + 1) / 2)) (Int.ofNat 16) = some (.int .i64 (lL x p)):=fun h => by
  show some (Value.int .i64 (IntKind.i64.wrap ((((lK x p + 1) / 2 : Nat) : Int) - 16))) = _;unfold lL;rw [if_pos h,IntKind.wrap_i64];congr 2;omega
 have hn : ¬ 16 ≤ lK x p → lL x p = Int.ofNat ((lK x p + 1) / 2):=fun h => by
  unfold lL;rw [if_neg h]; simp
 by_cases hp0 : p = 0
 ·have hd : lK x p = Iw x % 32:=by unfold lK; rw [if_pos hp0]
  have o5:=aJP (Iw x) hs;rw [← hd] at o5;have g0 : aI .gtr .i64 (Int.ofNat p) 0 = some (.bool false):=by rw [hp0]; rfl
  by_cases h16 : 16 ≤ lK x p
  ·exact bD aG hT (hq _) func234 (Sd (oldOf w0) b o n m i p x (lK x p) (lL x p)) ⟨rfl,hi,hx,rfl,Iy x,g0,OK,o5,o1,o2,o3,o4,by rw [PW,decide_eq_true (by omega)],Xo,hv h16,trivial⟩ ha
  ·rw [hn h16];exact bD aG hT (hq _) func234 (Se (oldOf w0) b o n m i p x (lK x p) 0) ⟨rfl,hi,hx,rfl,Iy x,g0,OK,o5,o1,o2,o3,o4,by rw [PW,decide_eq_false (by omega)],trivial⟩ ha
 ·have hd : lK x p = fw (wv x / 2 ^ (p * 4 - 1)) 0 % 32:=by unfold lK; rw [if_neg hp0]
  have o5:=aJP _ hfw;rw [← hd] at o5;have g0 : aI .gtr .i64 (Int.ofNat p) 0 = some (.bool true):=by
   have:=BB (i:=p) (n:=0);rw [decide_eq_true (by omega)] at this;exact this
  have g1 : aI .mul .i64 (Int.ofNat p) (Int.ofNat 4) = some (iI (p * 4)):=aUv (by omega);have g2 : aI .sub .i64 (Int.ofNat (p * 4)) 1 = some (iI (p * 4 - 1)):=uK (k:=1) (by omega) (by omega)
  by_cases h16 : 16 ≤ lK x p
  ·exact bD aG hT (hq _) func234 (Sb (oldOf w0) b o n m i p x (lK x p) (lL x p)) ⟨rfl,hi,hx,rfl,Iy x,g0,g1,g2,by omega,OK,o5,o1,o2,o3,o4,by rw [PW,decide_eq_true (by omega)],Xo,hv h16,trivial⟩ ha
  ·rw [hn h16];exact bD aG hT (hq _) func234 (Sc (oldOf w0) b o n m i p x (lK x p) 0) ⟨rfl,hi,hx,rfl,Iy x,g0,g1,g2,by omega,OK,o5,o1,o2,o3,o4,by rw [PW,decide_eq_false (by omega)],trivial⟩ ha
def gAt (b o n m : Nat) (x : Nat → Nat) : kZ
 | [.v (.fl [.c (.slice (some ⟨b',o',.none⟩) n' m'),.c (.int .i64 (.ofNat 4))]),.v (.im (.int .i64 (.ofNat i))),.v (.im (.int .i64 (.ofNat p)))] =>
  some ([b' = b,o' = o,n' = n,m' = m,i < n,p < 1152921504606846976],.one (.im (.int .i64 (lL (x i) p))))
 | _ => none
theorem aCI {w : World} {b o n m : Nat} {x : Nat → Nat} (hx : ∀ i,i < n → oldOf w b (o + i * 4) [.q (x i)]) : ∀ cs pre r,gAt b o n m x cs = some (pre,r) → aZ pre → ∀ (args : List Value),bR w cs args → Good prog 234 r args w:=by
 intro cs pre r hg hp args ha;unfold gAt at hg;split at hg
 ·rename_i b' o' n' m' i p;cases hg;obtain ⟨rfl,rfl,rfl,rfl,hi,hpp,_⟩:=hp
  match args,ha with
  | [u,v,t],ha =>
   have h1 : u = .agg (aA (dO b' o' n' m')).toArray:=ha.1;have h2 : v = iI i:=ha.2.1;have h3 : t = iI p:=ha.2.2.1;subst h1; subst h2; subst h3;exact aEf b' o' n' m' i p (x i) (hx i hi) hi hpp
  | [],ha => exact ha.elim
  | [_],ha => exact ha.2.elim
  | [_,_],ha => exact ha.2.2.elim
  | _ :: _ :: _ :: _ :: _,ha => exact ha.2.2.2.elim
 ·cases hg
end Go.Proofs.YtglgakbkdjhojaaGreat.Ex
