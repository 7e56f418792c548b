/- Pp08 -/
import Derived.Deep.DeepCutAuto
import Derived.Test.YtglgakbkdjhojaaGreatPp07
import Derived.Test.YtglgakbkdjhojaaGreatPp05
import Derived.Test.YtglgakbkdjhojaaGreatPp06
import Derived.Test.YtglgakbkdjhojaaGreatPp02
import Derived.Test.YtglgakbkdjhojaaGreatPp03
import Derived.Test.YtglgakbkdjhojaaGreatPp04
import Derived.Test.YtglgakbkdjhojaaGreatProg
set_option maxRecDepth 100000
set_option linter.unusedVariables false
set_option linter.unusedSimpArgs false
noncomputable section
namespace Go.Proofs.YtglgakbkdjhojaaGreat.Ex
open Go.Proofs.Tryz
open Go.RowKit
def vp : At → Option (List Prop × Fq)
 | .f x => some ([],x)
 | .q x => some ([wv x < FP.M],m1 x)
 | .c _ => none
theorem TD {a : At} {p : List Prop} {x : Fq} (h : vp a = some (p,x)) (hp : aY p) : ∃ n : Nat,aA [a] = aA (q1 n) ∧ m1 n = x ∧ wv n < FP.M:=by
 cases a with
 | f y => cases h; exact ⟨x.1,rfl,La x,by unfold wv; rw [bZ x.2]; exact x.2⟩
 | q y => cases h; exact ⟨_,rfl,rfl,hp.1⟩
 | c v => cases h
def g2p (op : Fq → Fq → RV) : lO
 | [.v (.fl [a]),.v (.fl [b])] => match vp a,vp b with
  | some (p,x),some (q,y) => some (p ++ q,op x y)
  | _,_ => none
 | _ => none
theorem Fr {P : Program} {f : FuncId} {op : Fq → Fq → RV} (h : ∀ a b : Nat,wv a < FP.M → wv b < FP.M → ∀ args w,bR w [.v (.fl (q1 a)),.v (.fl (q1 b))] args → Good P f (op (m1 a) (m1 b)) args w) :
  ∀ cs pre r,g2p op cs = some (pre,r) → aY pre → ∀ (args : List Value) (w : World),bR w cs args → Good P f r args w:=by
 intro cs pre r hg hp args w ha;unfold g2p at hg;split at hg
 ·rename_i a b;split at hg
  ·rename_i p x q y hx hy;cases hg;obtain ⟨p1,p2⟩:=iR.1 hp;obtain ⟨n,e1,rfl,hn⟩:=TD hx p1;obtain ⟨m,e2,rfl,hm⟩:=TD hy p2;refine h n m hn hm args w ?_
   match args,ha with
   | [v,u],ha =>
    have h1 : v = .agg (aA [a]).toArray:=ha.1;have h2 : u = .agg (aA [b]).toArray:=ha.2.1;rw [e1] at h1;rw [e2] at h2;exact ⟨h1,h2,trivial⟩
   | [],ha => exact ha.elim
   | [_],ha => exact ha.2.elim
   | _ :: _ :: _ :: _,ha => exact ha.2.2.elim
  ·cases hg
 ·cases hg
def gF2 (op : Fq → Fq → Fq) : lO
 | [.v (.im (.int .i64 (.ofNat 1))),.v (.fl [a]),.v (.fl [b])] => match vp a,vp b with
  | some (p,x),some (q,y) => some (p ++ q,.many [.fl (e1 (op x y)),.im (.int .i64 0)])
  | _,_ => none
 | _ => none
theorem Fo {f : FuncId} {op : Fq → Fq → Fq} (h : ∀ (a b : Nat) (w : World),wv a < FP.M → wv b < FP.M → Calls prog f #[.int .i64 1,.agg (aA (q1 a)).toArray,.agg (aA (q1 b)).toArray] w (Nw 0 (op (m1 a) (m1 b)).1 w)) :
  ∀ cs pre r,gF2 op cs = some (pre,r) → aY pre → ∀ (args : List Value) (w : World),bR w cs args → Good prog f r args w:=by
 intro cs pre r hg hp args w ha;unfold gF2 at hg;split at hg
 ·rename_i a b;split at hg
  ·rename_i p x q y hx hy;cases hg;obtain ⟨p1,p2⟩:=iR.1 hp;obtain ⟨n,e1,rfl,hn⟩:=TD hx p1;obtain ⟨m,e2,rfl,hm⟩:=TD hy p2
   match args,ha with
   | [t,v,u],ha =>
    have h0 : t = .int .i64 1:=ha.1;have h1 : v = .agg (aA [a]).toArray:=ha.2.1;have h2 : u = .agg (aA [b]).toArray:=ha.2.2.1;rw [e1] at h1;rw [e2] at h2;subst h0; subst h1; subst h2;refine (h n m w hn hm).mono ?_
    rintro e w' ⟨s0,s1,s2,s3,rfl,hs,hv,hb⟩
    obtain ⟨rfl,rfl,rfl,rfl⟩:=nZ hs (BG (op (m1 n) (m1 m)).2) hv;exact ⟨rfl,hb⟩
   | [],ha => exact ha.elim
   | [_],ha => exact ha.2.elim
   | [_,_],ha => exact ha.2.2.elim
   | _ :: _ :: _ :: _ :: _,ha => exact ha.2.2.2.elim
  ·cases hg
 ·cases hg
theorem aUE (a b : Nat) (w : World) (ha : wv a < FP.M) (hb : wv b < FP.M) : Calls prog 251 #[.int .i64 1,.agg (aA (q1 a)).toArray,.agg (aA (q1 b)).toArray] w (Nw 0 (F1.add (m1 a) (m1 b)).1 w):=by
 have e : (F1.add (m1 a) (m1 b)).1 = (wv a + wv b) % FP.M:=(Nat.add_mod _ _ _).symm;rw [e];exact Mj 1 FP sK _ _ _ _ _ _ _ _ (dL a) (dL b) ha hb w
theorem aUD (a b : Nat) (w : World) (ha : wv a < FP.M) (hb : wv b < FP.M) : Calls prog 252 #[.int .i64 1,.agg (aA (q1 a)).toArray,.agg (aA (q1 b)).toArray] w (Nw 0 (F1.mul (m1 a) (m1 b)).1 w):=by
 have e : (F1.mul (m1 a) (m1 b)).1 = (wv a * wv b) % FP.M:=(Nat.mul_mod _ _ _).symm;rw [e];exact Ma 1 FP sK _ _ _ _ _ _ _ _ (dL a) (dL b) ha hb w
theorem aUC (a b : Nat) (w : World) (ha : wv a < FP.M) (hb : wv b < FP.M) : Calls prog 250 #[.int .i64 1,.agg (aA (q1 a)).toArray,.agg (aA (q1 b)).toArray] w (Nw 0 (F1.sub (m1 a) (m1 b)).1 w):=by
 have e : (F1.sub (m1 a) (m1 b)).1 = (wv a + FP.M - wv b) % FP.M:=by
  show (wv a % FP.M + (0 + FP.M - wv b % FP.M) % FP.M) % FP.M = _;rw [Nat.mod_eq_of_lt ha,Nat.mod_eq_of_lt hb,Nat.add_mod_mod];congr 1;omega
 rw [e];exact Lv 1 FP sK _ _ _ _ _ _ _ _ (dL a) (dL b) ha hb w
def aIk (d : Bool) : lO
 | [.v (.im (.int .i64 (.ofNat 1))),.v (.fl l)] => match ON l with
  | some x => bif d then some ([wv x < FP.M],.one (.im (.int .i64 0))) else some ([¬ wv x < FP.M],.one (.im (.int .i64 21)))
  | none => none
 | _ => none
theorem Ls (d : Bool) : ∀ cs pre r,aIk d cs = some (pre,r) → aY pre → ∀ (args : List Value) (w : World),bR w cs args → Good prog 124 r args w:=by
 intro cs pre r hg hp args w ha;unfold aIk at hg;split at hg
 ·rename_i l;split at hg
  ·rename_i x hx
   match args,ha with
   | [v,u],ha =>
    have h1 : v = .int .i64 1:=ha.1;have h2 : u = .agg (aA l).toArray:=ha.2.1;rw [gD l x hx] at h2;subst h1; subst h2;cases d
    ·cases hg;exact GW 1 21 _ _ _ _ (dL x) (Or.inr ⟨FP,sK,hp.1,rfl⟩) w
    ·cases hg;exact MI 1 FP sK _ _ _ _ (dL x) hp.1 w
   | [],ha => exact ha.elim
   | [_],ha => exact ha.2.elim
   | _ :: _ :: _ :: _,ha => exact ha.2.2.elim
  ·cases hg
 ·cases hg
def aEq (d : Bool) : Tab:=(AL true).add 251 (gF2 F1.add)
theorem aHk (d : Bool) : TabOk prog (aEq d):=(Ki true).ad func251 (Fo aUE)
def aEo (d : Bool) : Tab:=(aEq d).add 252 (gF2 F1.mul)
theorem aHi (d : Bool) : TabOk prog (aEo d):=(aHk d).ad func252 (Fo aUD)
def aEn (d : Bool) : Tab:=(aEo d).add 250 (gF2 F1.sub)
theorem aHh (d : Bool) : TabOk prog (aEn d):=(aHi d).ad func250 (Fo aUC)
def Hf (d : Bool) : Tab:=(aEn d).add 124 (aIk d)
theorem Kd (d : Bool) : TabOk prog (Hf d):=(aHh d).ad func124 (Ls d)
theorem Yo (d : Bool) (x y : N2) : bH prog (Hf d) qN (fun _ => true) f247 40 [.v (.fl (q2 x)),.v (.fl (q2 y))] = some ([],.one (.fl (e2 (F2.add (m2 x) (m2 y))))):=by kernel_rfl
def Hq (d : Bool) : Tab:=(Hf d).add 247 (g2 KP KP (fun x y => ([],.one (.fl (e2 (F2.add x y))))))
theorem Ko (d : Bool) : TabOk prog (Hq d):=(Kd d).ad func247 (vI fR fR fun x y hp args w ha => aH aG (Kd d) aM func247 (Yo d x y) hp ha)
theorem Yj (d : Bool) (x y : N2) : bH prog (Hq d) qN (fun _ => true) f215 40 [.v (.fl (q2 x)),.v (.fl (q2 y))] = some ([],.one (.fl (e2 (F2.sub (m2 x) (m2 y))))):=by kernel_rfl
def Hk (d : Bool) : Tab:=(Hq d).add 215 (g2 KP KP (fun x y => ([],.one (.fl (e2 (F2.sub x y))))))
theorem Kj (d : Bool) : TabOk prog (Hk d):=(Ko d).ad func215 (vI fR fR fun x y hp args w ha => aH aG (Ko d) aM func215 (Yj d x y) hp ha)
theorem Rx (d : Bool) (x : N2) : bH prog (Hk d) qN (fun _ => true) f217 40 [.v (.fl (q2 x))] = some ([],.one (.fl (e2 (aJ (m2 x))))):=by kernel_rfl
def SS (d : Bool) : Tab:=(Hk d).add 217 (g1 KP (fun x => ([],.one (.fl (e2 (aJ x))))))
theorem YE (d : Bool) : TabOk prog (SS d):=(Kj d).ad func217 (jI fR fun x hp args w ha => aH aG (Kj d) aM func217 (Rx d x) hp ha)
theorem Qa (d : Bool) (x y : Nat) : bH prog (SS d) qN (fun _ => true) f295 40 [.v (.fl (q1 x)),.v (.fl (q1 y))] = some ([wv x < FP.M,wv y < FP.M],.one (.fl (e1 (F1.add (m1 x) (m1 y))))):=by kernel_rfl
def SG (d : Bool) : Tab:=(SS d).add 295 (g2p fun x y => .one (.fl (e1 (F1.add x y))))
theorem XW (d : Bool) : TabOk prog (SG d):=(YE d).ad func295 (Fr fun x y hx hy args w ha => aH aG (YE d) aM func295 (Qa d x y) ⟨hx,hy,trivial⟩ ha)
theorem Cd (d : Bool) (x y : Nat) : bH prog (SG d) qN (fun _ => true) f293 40 [.v (.fl (q1 x)),.v (.fl (q1 y))] = some ([wv x < FP.M,wv y < FP.M],.one (.fl (e1 (F1.sub (m1 x) (m1 y))))):=by kernel_rfl
def IT (d : Bool) : Tab:=(SG d).add 293 (g2p fun x y => .one (.fl (e1 (F1.sub x y))))
theorem LJ (d : Bool) : TabOk prog (IT d):=(XW d).ad func293 (Fr fun x y hx hy args w ha => aH aG (XW d) aM func293 (Cd d x y) ⟨hx,hy,trivial⟩ ha)
theorem Cc (d : Bool) (x y : Nat) : bH prog (IT d) qN (fun _ => true) f296 40 [.v (.fl (q1 x)),.v (.fl (q1 y))] = some ([wv x < FP.M,wv y < FP.M],.one (.fl (e1 (F1.mul (m1 x) (m1 y))))):=by kernel_rfl
def IS (d : Bool) : Tab:=(IT d).add 296 (g2p fun x y => .one (.fl (e1 (F1.mul x y))))
theorem LI (d : Bool) : TabOk prog (IS d):=(LJ d).ad func296 (Fr fun x y hx hy args w ha => aH aG (LJ d) aM func296 (Cc d x y) ⟨hx,hy,trivial⟩ ha)
theorem Xl (d : Bool) (x : Nat) : bH prog (IS d) qN (fun _ => true) f294 40 [.v (.fl (q1 x))] = some ([],.one (.fl (e1 F1.one))):=by kernel_rfl
def Gv (d : Bool) : Tab:=(IS d).add 294 (g1 rv1 (fun x => ([],.one (.fl (e1 F1.one)))))
theorem Jt (d : Bool) : TabOk prog (Gv d):=(LI d).ad func294 (jI Wz fun x hp args w ha => aH aG (LI d) aM func294 (Xl d x) hp ha)
theorem Xn (d : Bool) (x : Nat) : bH prog (Gv d) qN (fun _ => true) f290 40 [.v (.fl (q1 x))] = some ([],.one (.fl (e1 (fm 3)))):=by kernel_rfl
def Gx (d : Bool) : Tab:=(Gv d).add 290 (g1 rv1 (fun x => ([],.one (.fl (e1 (fm 3))))))
theorem Jv (d : Bool) : TabOk prog (Gx d):=(Jt d).ad func290 (jI Wz fun x hp args w ha => aH aG (Jt d) aM func290 (Xn d x) hp ha)
theorem Xm (d : Bool) (x : Fq) : bH prog (Gx d) qN (fun _ => true) f291 40 [.v (.fl (e1 x))] = some ([x ≠ F1.zero],.one (.fl (e1 (cO x)))):=by kernel_rfl
def SH (d : Bool) : Tab:=(Gx d).add 291 (g1 Iv (fun x => ([x ≠ F1.zero],.one (.fl (e1 (cO x))))))
theorem PJ (d : Bool) : TabOk prog (SH d):=(Jv d).ad func291 (bC lG fun x hp args w ha => aH aG (Jv d) aM func291 (Xm d x) hp ha)
theorem Ce (x : Nat) : bH prog (SH true) qN (fun _ => true) f292 40 [.v (.fl (q1 x))] = some ([wv x < FP.M],.one (.im (.bool true))):=by kernel_rfl
theorem Cf (x : Nat) : bH prog (SH false) qN (fun _ => true) f292 40 [.v (.fl (q1 x))] = some ([¬ wv x < FP.M],.one (.im (.bool false))):=by kernel_rfl
def aNR (d : Bool) (x : Nat) : List Prop × RV:=bif d then ([wv x < FP.M],.one (.im (.bool true))) else ([¬ wv x < FP.M],.one (.im (.bool false)))
theorem aHn (d : Bool) (x : Nat) (hp : aY (aNR d x).1) (args : List Value) (w : World) (ha : bR w [.v (.fl (q1 x))] args) : Good prog 292 (aNR d x).2 args w:=by
 cases d
 ·exact aH aG (PJ false) aM func292 (Cf x) hp ha
 ·exact aH aG (PJ true) aM func292 (Ce x) hp ha
def Gw (d : Bool) : Tab:=(SH d).add 292 (g1 ON (aNR d))
theorem Ju (d : Bool) : TabOk prog (Gw d):=(PJ d).ad func292 (bC gD fun x hp args w ha => aHn d x hp args w ha)
theorem Qf (d : Bool) (x y : N2) : bH prog (Gw d) qN (fun _ => true) f302 40 [.v (.fl (q2 x)),.v (.fl (q2 y))] = some ([],.one (.fl (e2 (F2.add (m2 x) (m2 y))))):=by kernel_rfl
def SK (d : Bool) : Tab:=(Gw d).add 302 (g2 KP KP (fun x y => ([],.one (.fl (e2 (F2.add x y))))))
theorem XZ (d : Bool) : TabOk prog (SK d):=(Ju d).ad func302 (vI fR fR fun x y hp args w ha => aH aG (Ju d) aM func302 (Qf d x y) hp ha)
theorem Ci (d : Bool) (x y : N2) : bH prog (SK d) qN (fun _ => true) f300 40 [.v (.fl (q2 x)),.v (.fl (q2 y))] = some ([],.one (.fl (e2 (F2.sub (m2 x) (m2 y))))):=by kernel_rfl
def IW (d : Bool) : Tab:=(SK d).add 300 (g2 KP KP (fun x y => ([],.one (.fl (e2 (F2.sub x y))))))
theorem LM (d : Bool) : TabOk prog (IW d):=(XZ d).ad func300 (vI fR fR fun x y hp args w ha => aH aG (XZ d) aM func300 (Ci d x y) hp ha)
theorem Ch (d : Bool) (x y : N2) : bH prog (IW d) qN (fun _ => true) f303 40 [.v (.fl (q2 x)),.v (.fl (q2 y))] = some ([],.one (.fl (e2 (F2.mul (m2 x) (m2 y))))):=by kernel_rfl
def IV (d : Bool) : Tab:=(IW d).add 303 (g2 KP KP (fun x y => ([],.one (.fl (e2 (F2.mul x y))))))
theorem LL (d : Bool) : TabOk prog (IV d):=(LM d).ad func303 (vI fR fR fun x y hp args w ha => aH aG (LM d) aM func303 (Ch d x y) hp ha)
theorem Xr (d : Bool) (x : N2) : bH prog (IV d) qN (fun _ => true) f301 40 [.v (.fl (q2 x))] = some ([],.one (.fl (e2 F2.one))):=by kernel_rfl
def Gy (d : Bool) : Tab:=(IV d).add 301 (g1 KP (fun x => ([],.one (.fl (e2 F2.one)))))
theorem Jw (d : Bool) : TabOk prog (Gy d):=(LL d).ad func301 (jI fR fun x hp args w ha => aH aG (LL d) aM func301 (Xr d x) hp ha)
def dF : Q2:=(⟨19485874751759354771024239261021720505790618469301721065564631296452457478373,by decide⟩,⟨266929791119991161246907387137283842545076965332900288569378510910307636690,by decide⟩)
theorem Xt (d : Bool) (x : N2) : bH prog (Gy d) qN (fun _ => true) f297 40 [.v (.fl (q2 x))] = some ([],.one (.fl (e2 dF))):=by kernel_rfl
def Gz (d : Bool) : Tab:=(Gy d).add 297 (g1 KP (fun x => ([],.one (.fl (e2 dF)))))
theorem Jx (d : Bool) : TabOk prog (Gz d):=(Jw d).ad func297 (jI fR fun x hp args w ha => aH aG (Jw d) aM func297 (Xt d x) hp ha)
theorem Xs (d : Bool) (x : N2) : bH prog (Gz d) qN (fun _ => true) f298 40 [.v (.fl (q2 x))] = some ([rL (m2 x) ≠ F1.zero],.one (.fl (e2 (dT (m2 x))))):=by kernel_rfl
def IX (d : Bool) : Tab:=(Gz d).add 298 (g1 KP (fun x => ([rL x ≠ F1.zero],.one (.fl (e2 (dT x))))))
theorem CQ (d : Bool) : TabOk prog (IX d):=(Jx d).ad func298 (jI fR fun x hp args w ha => aH aG (Jx d) aM func298 (Xs d x) hp ha)
theorem Cj (x : N2) : bH prog (IX true) qN (fun _ => true) f299 40 [.v (.fl (q2 x))] = some ([wv x.1 < FP.M,wv x.2 < FP.M],.one (.im (.bool true))):=by kernel_rfl
theorem Cl (x : N2) : bH prog (IX false) qN (fun _ => true) f299 40 [.v (.fl (q2 x))] = some ([¬ wv x.1 < FP.M],.one (.im (.bool false))):=by kernel_rfl
theorem Ck (x : N2) : aW prog qN (fun _ => ⟨fun s => IX (bif Nat.beq s 9 then false else true),fun _ => true,fun _ => none⟩) f299 40 [.v (.fl (q2 x))] = some ([wv x.1 < FP.M,¬ wv x.2 < FP.M],.one (.im (.bool false))):=by kernel_rfl
def aAY (d : Bool) (x : N2) : List Prop × RV:=bif d then ([wv x.1 < FP.M ∧ wv x.2 < FP.M],.one (.im (.bool true))) else ([¬ (wv x.1 < FP.M ∧ wv x.2 < FP.M)],.one (.im (.bool false)))
theorem aAX (d : Bool) (x : N2) (hp : aY (aAY d x).1) (args : List Value) (w : World) (ha : bR w [.v (.fl (q2 x))] args) : Good prog 299 (aAY d x).2 args w:=by
 cases d
 ·have h1 : ¬ (wv x.1 < FP.M ∧ wv x.2 < FP.M):=hp.1
  by_cases h : wv x.1 < FP.M
  ·exact aB aG (fun _ s => CQ _) aM func299 (Ck x) ⟨h,fun e => h1 ⟨h,e⟩,trivial⟩ ha
  ·exact aH aG (CQ false) aM func299 (Cl x) ⟨h,trivial⟩ ha
 ·have h1 : wv x.1 < FP.M ∧ wv x.2 < FP.M:=hp.1;exact aH aG (CQ true) aM func299 (Cj x) ⟨h1.1,h1.2,trivial⟩ ha
def SL (d : Bool) : Tab:=(IX d).add 299 (g1 rq2 (aAY d))
theorem PK (d : Bool) : TabOk prog (SL d):=(CQ d).ad func299 (bC rV fun x hp args w ha => aAX d x hp args w ha)
theorem nA {a b : aN} (ha : a ≠ aD.zero) (hb : b ≠ aD.zero) : aD.mul a b ≠ aD.zero:=fun e => hb (jT.zd e ha)
theorem aKe {a : aN} (h : a ≠ aD.zero) : sF a ≠ F1.zero:=fun e => h (pF e)
theorem jH {a : aN} (h : a ≠ aD.zero) : aD.mul a (lJ a) = aD.one:=SU (aKe h)
theorem Lj {a k : aN} (ha : a ≠ aD.zero) (h : aD.mul a k = aD.one) : lJ a = k:=by
 have e : aD.mul (aD.mul (lJ a) a) k = lJ a:=by rw [aD.mul_assoc,h,aD.mul_comm,aD.one_mul]
 rw [aD.mul_comm (lJ a),jH ha,aD.one_mul] at e;exact e.symm
theorem tL {R : Type} (K : CR R) (a b c d : R) : K.mul (K.mul a b) (K.mul c d) = K.mul (K.mul a c) (K.mul b d):=by
 rw [K.mul_assoc,K.mul_left_comm b c d,← K.mul_assoc]
theorem aOn {a b : aN} (ha : a ≠ aD.zero) (hb : b ≠ aD.zero) : lJ (aD.mul a b) = aD.mul (lJ a) (lJ b) :=
 Lj (nA ha hb) (by rw [tL,jH ha,jH hb,aD.one_mul])
theorem aPz {a b : aN} (ha : a ≠ aD.zero) (hb : b ≠ aD.zero) : eZ (aD.mul a b) = aD.mul (eZ a) (eZ b):=by
 unfold eZ;rw [IF,aOn ha hb,tL aD (cH a),oT,tL]
theorem aOE (a b : aN) : hX (aD.mul a b) = aD.mul (hX a) (hX b):=by rw [BF,BF,BF,mB]
theorem cV {a b : aN} (ha : a ≠ aD.zero) (hb : b ≠ aD.zero) : iO (aD.mul a b) = aD.mul (iO a) (iO b):=by
 unfold iO;rw [aPz ha hb,aOE]
theorem aCi : hX aD.one = aD.one:=by rw [BF,nS]
theorem Vo : cM aD.one = aD.one:=by decide
theorem xL {a : aN} (h : cH a = a) (ha : a ≠ aD.zero) : iO a = aD.one:=by
 unfold iO eZ;rw [h,jH ha,Vo,aD.one_mul,aCi]
theorem CY : iO aD.one = aD.one:=xL (by decide) jT.1
def eQ (z : Q2) : aN:=((z,F2.zero,F2.zero),F6.zero)
def eP (a : Fq) : aN:=eQ (i2 a)
def JK : aN:=aD.mul wE wE
def vO : aN:=aD.mul JK wE
theorem aOy (a b : Fq) : i2 (F1.add a b) = F2.add (i2 a) (i2 b):=Prod.ext rfl (F1.add_zero F1.zero).symm
theorem z2a : F2.add F2.zero F2.zero = F2.zero:=by decide
theorem z6a : F6.add F6.zero F6.zero = F6.zero:=by decide
theorem zW (x y : Q2) : eQ (F2.add x y) = aD.add (eQ x) (eQ y):=by
 refine Prod.ext (Prod.ext rfl (Prod.ext z2a.symm z2a.symm)) z6a.symm
theorem oM (x y : Q2) : eQ (F2.mul x y) = aD.mul (eQ x) (eQ y):=by
 rw [nY];unfold eQ;simp only [show F6.zero = (F2.zero,F2.zero,F2.zero) from rfl,F2.mul_zero,F2.zero_mul,F2.add_zero,F2.zero_add]
theorem QY (a b : Fq) : eP (F1.add a b) = aD.add (eP a) (eP b):=by unfold eP; rw [aOy,zW]
theorem sM (a b : Fq) : eP (F1.mul a b) = aD.mul (eP a) (eP b):=by unfold eP; rw [Fi,oM]
theorem Mo : eQ F2.zero = aD.zero:=rfl
theorem aIz : eP F1.zero = aD.zero:=rfl
theorem Cub.map {R S : Type} {K : CR R} {L : CR S} (φ : R → S) (ha : ∀ a b,φ (K.add a b) = L.add (φ a) (φ b)) (hm : ∀ a b,φ (K.mul a b) = L.mul (φ a) (φ b)) (h0 : φ K.zero = L.zero) {b a1 a2 a3 n c : R} (h : Cub K b a1 a2 a3 n c) : Cub L (φ b) (φ a1) (φ a2) (φ a3) (φ n) (φ c):=by
 refine ⟨?_,?_,?_⟩
 ·rw [← ha,← ha,← hm,h.s1]
 ·rw [← hm,← hm,← hm,← hm,← ha,← ha,← ha,← ha,h.s2,h0]
 ·rw [← hm,← hm,← ha,← hm,h.s3]
theorem Gl : aD.mul (eQ dF) (aD.mul vO vO) = eP (fm 3):=by decide
theorem aLu : JK = ((F2.zero,F2.one,F2.zero),F6.zero):=by decide
theorem aLt : vO = (F6.zero,(F2.zero,F2.one,F2.zero)):=by decide
theorem z6e : F6.zero = (F2.zero,F2.zero,F2.zero):=rfl
theorem aXW (z : Q2) : aD.mul (eQ z) wE = (F6.zero,(z,F2.zero,F2.zero)):=by
 rw [nY];unfold eQ wE;simp only [show F6.one = (F2.one,F2.zero,F2.zero) from rfl,z6e,F2.mul_zero,F2.zero_mul,F2.add_zero,F2.zero_add,F2.mul_one]
theorem aKF (z : Q2) : aD.mul (eQ z) JK = ((F2.zero,z,F2.zero),F6.zero):=by
 rw [nY,aLu];unfold eQ;simp only [z6e,F2.mul_zero,F2.zero_mul,F2.add_zero,F2.zero_add,F2.mul_one]
theorem aKE (z : Q2) : aD.mul (eQ z) vO = (F6.zero,(F2.zero,z,F2.zero)):=by
 rw [nY,aLt];unfold eQ;simp only [z6e,F2.mul_zero,F2.zero_mul,F2.add_zero,F2.zero_add,F2.mul_one]
theorem aUP (z y : Q2) : aD.mul (aD.mul (eQ z) wE) (eQ y) = (F6.zero,(F2.mul z y,F2.zero,F2.zero)):=by
 rw [aD.mul_comm,← aD.mul_assoc,← oM,aXW,F2.mul_comm]
theorem vB : F2.neg F2.zero = F2.zero:=bK F2
theorem CW (x : aN) : aD.neg x = ((F2.neg x.1.1,F2.neg x.1.2.1,F2.neg x.1.2.2),(F2.neg x.2.1,F2.neg x.2.2.1,F2.neg x.2.2.2)):=rfl
theorem yA (x y : aN) : aD.add x y = ((F2.add x.1.1 y.1.1,F2.add x.1.2.1 y.1.2.1,F2.add x.1.2.2 y.1.2.2),(F2.add x.2.1 y.2.1,F2.add x.2.2.1 y.2.2.1,F2.add x.2.2.2 y.2.2.2)):=rfl
theorem NY (x y : aN) : aD.sub x y = aD.add x (aD.neg y):=rfl
def lT (m d : Q2) (a b : Fq) : aN:=((i2 b,F2.zero,F2.zero),(F2.neg (F2.mul m (i2 a)),F2.neg d,F2.zero))
def lP (n c : Fq) (x y : Q2) : aN:=((F2.neg (i2 c),F2.neg (F2.mul (i2 n) x),F2.zero),(F2.zero,y,F2.zero))
def vP (a : Fq) (x : Q2) : aN:=((F2.neg (i2 a),x,F2.zero),F6.zero)
theorem MC (m d : Q2) (a b : Fq) : lT m d a b = aD.sub (eP b) (aD.add (aD.mul (aD.mul (eQ m) wE) (eP a)) (aD.mul (eQ d) vO)):=by
 unfold eP;rw [aUP,aKE,NY,CW,yA,yA];unfold lT eQ;simp only [z6e,F2.add_zero,F2.zero_add,vB]
theorem YP (n c : Fq) (x y : Q2) : lP n c x y = aD.sub (aD.mul (eQ y) vO) (aD.add (aD.mul (eP n) (aD.mul (eQ x) JK)) (eP c)):=by
 unfold eP;rw [← aD.mul_assoc,← oM,aKF,aKE,NY,CW,yA,yA];unfold lP eQ;simp only [z6e,F2.add_zero,F2.zero_add,vB]
theorem DW (a : Fq) (x : Q2) : vP a x = aD.sub (aD.mul (eQ x) JK) (eP a):=by
 unfold eP;rw [aKF,NY,CW,yA];unfold vP eQ;simp only [z6e,F2.add_zero,F2.zero_add,vB]
theorem qZ {m d : Q2} {a b : Fq} (h : b ≠ F1.zero) : lT m d a b ≠ aD.zero:=fun e => h (congrArg (fun z : aN => z.1.1.1) e)
theorem sH {n c : Fq} {x y : Q2} (h : y ≠ F2.zero) : lP n c x y ≠ aD.zero:=fun e => h (congrArg (fun z : aN => z.2.2.1) e)
theorem lQ {a : Fq} {x : Q2} (h : a ≠ F1.zero) : vP a x ≠ aD.zero:=fun e => h (by
 have h1 : F1.neg a = F1.zero:=congrArg (fun z : aN => z.1.1.1) e;rw [← F1.neg_neg a,h1,bK])
theorem aSd (a : Fq) (x : Q2) : cH (vP a x) = vP a x:=Prod.ext rfl (by show F6.sub F6.zero F6.zero = F6.zero; decide)
theorem tI {a : aN} (h : a ≠ aD.zero) : aD.neg a ≠ aD.zero:=fun e => h (by rw [← aD.neg_neg a,e,bK])
theorem qH {a : aN} (h : a ≠ aD.zero) : iO (aD.neg a) = iO a:=by
 have e : aD.neg a = aD.mul (aD.neg aD.one) a:=by rw [aD.neg_mul,aD.one_mul]
 rw [e,cV (tI jT.1) h,xL (by decide) (tI jT.1),aD.one_mul]
theorem vC {a : Fq} {x : Q2} (h : a ≠ F1.zero) : iO (vP a x) = aD.one:=xL (aSd a x) (lQ h)
section
variable {a1 a2 a3 b1 b2 b3 n c : Fq} {x1 x2 x3 y1 y2 y3 m d : Q2}
theorem aUY (h : Cub F1 (fm 3) a1 a2 a3 n c) : Cub aD (eP (fm 3)) (eP a1) (eP a2) (eP a3) (eP n) (eP c):=h.map eP QY sM aIz
theorem aUX (h : Cub F2 dF x1 x2 x3 m d) : Cub aD (eP (fm 3)) (aD.mul (eQ x1) JK) (aD.mul (eQ x2) JK) (aD.mul (eQ x3) JK) (aD.mul (eQ m) wE) (aD.mul (eQ d) vO):=by
 have g:=(h.map eQ zW oM Mo).scale wE;rw [← Gl];exact g
theorem aND {R : Type} (K : CR R) (M X D w : R) : K.mul (K.add (K.mul M X) D) (K.mul (K.mul w w) w) = K.add (K.mul (K.mul M w) (K.mul X (K.mul w w))) (K.mul D (K.mul (K.mul w w) w)) :=
 aE K (aR K [M,X,D,w]) (.mul (.add (.mul (.v 0) (.v 1)) (.v 2)) (.mul (.mul (.v 3) (.v 3)) (.v 3))) (.add (.mul (.mul (.v 0) (.v 3)) (.mul (.v 1) (.mul (.v 3) (.v 3)))) (.mul (.v 2) (.mul (.mul (.v 3) (.v 3)) (.v 3)))) (by kernel_rfl)
theorem aUf {R : Type} (K : CR R) (X B w : R) : K.mul (K.add (K.mul X (K.mul X X)) B) (K.mul (K.mul (K.mul w w) w) (K.mul (K.mul w w) w)) = K.add (K.mul (K.mul X (K.mul w w)) (K.mul (K.mul X (K.mul w w)) (K.mul X (K.mul w w)))) (K.mul B (K.mul (K.mul (K.mul w w) w) (K.mul (K.mul w w) w))) :=
 aE K (aR K [X,B,w]) (.mul (.add (.mul (.v 0) (.mul (.v 0) (.v 0))) (.v 1)) (.mul (.mul (.mul (.v 2) (.v 2)) (.v 2)) (.mul (.mul (.v 2) (.v 2)) (.v 2)))) (.add (.mul (.mul (.v 0) (.mul (.v 2) (.v 2))) (.mul (.mul (.v 0) (.mul (.v 2) (.v 2))) (.mul (.v 0) (.mul (.v 2) (.v 2))))) (.mul (.v 1) (.mul (.mul (.mul (.v 2) (.v 2)) (.v 2)) (.mul (.mul (.v 2) (.v 2)) (.v 2))))) (by kernel_rfl)
theorem aOC (X B : aN) : aD.mul (aD.add (aD.mul X (aD.mul X X)) B) (aD.mul vO vO) = aD.add (aD.mul (aD.mul X JK) (aD.mul (aD.mul X JK) (aD.mul X JK))) (aD.mul B (aD.mul vO vO)):=by
 unfold vO JK;exact aUf aD X B wE
theorem aMe {R : Type} (K : CR R) (z w : R) : K.sub z w = K.neg (K.sub w z):=aE K (aR K [z,w]) (.add (.v 0) (.neg (.v 1))) (.neg (.add (.v 1) (.neg (.v 0)))) (by kernel_rfl)
theorem onT {x y : Q2} (h : y = F2.add (F2.mul m x) d) : aD.mul (eQ y) vO = aD.add (aD.mul (aD.mul (eQ m) wE) (aD.mul (eQ x) JK)) (aD.mul (eQ d) vO):=by
 rw [h,zW,oM];exact aND aD (eQ m) (eQ x) (eQ d) wE
theorem onP {a b : Fq} (h : b = F1.add (F1.mul n a) c) : eP b = aD.add (aD.mul (eP n) (eP a)) (eP c):=by rw [h,QY,sM]
theorem aGl (h : Cub F1 (fm 3) a1 a2 a3 n c) (g : Cub F2 dF x1 x2 x3 m d) (h1 : b1 = F1.add (F1.mul n a1) c) (h2 : b2 = F1.add (F1.mul n a2) c) (h3 : b3 = F1.add (F1.mul n a3) c)
  (g1 : y1 = F2.add (F2.mul m x1) d) (g2 : y2 = F2.add (F2.mul m x2) d) (g3 : y3 = F2.add (F2.mul m x3) d) :
  aD.mul (lT m d a1 b1) (aD.mul (lT m d a2 b2) (lT m d a3 b3)) = aD.neg (aD.mul (lP n c x1 y1) (aD.mul (lP n c x2 y2) (lP n c x3 y3))):=by
 have r:=aSD (aUY h) (aUX g);rw [← onP h1,← onP h2,← onP h3,← onT g1,← onT g2,← onT g3,← MC,← MC,← MC,← YP,← YP,← YP] at r;exact r
theorem Tc (h : Cub F1 (fm 3) a1 a2 a3 n c) (g : Cub F2 dF x1 x2 x3 m d) (h1 : b1 = F1.add (F1.mul n a1) c) (h2 : b2 = F1.add (F1.mul n a2) c) (h3 : b3 = F1.add (F1.mul n a3) c)
  (g1 : y1 = F2.add (F2.mul m x1) d) (g2 : y2 = F2.add (F2.mul m x2) d) (g3 : y3 = F2.add (F2.mul m x3) d)
  (hb1 : b1 ≠ F1.zero) (hb2 : b2 ≠ F1.zero) (hb3 : b3 ≠ F1.zero) (hy1 : y1 ≠ F2.zero) (hy2 : y2 ≠ F2.zero) (hy3 : y3 ≠ F2.zero) :
  aD.mul (iO (lT m d a1 b1)) (aD.mul (iO (lT m d a2 b2)) (iO (lT m d a3 b3))) = aD.mul (iO (lP n c x1 y1)) (aD.mul (iO (lP n c x2 y2)) (iO (lP n c x3 y3))):=by
 have r:=congrArg iO (aGl h g h1 h2 h3 g1 g2 g3);rw [qH (nA (sH hy1) (nA (sH hy2) (sH hy3))),cV (qZ hb1) (nA (qZ hb2) (qZ hb3)),cV (qZ hb2) (qZ hb3),cV (sH hy1) (nA (sH hy2) (sH hy3)),cV (sH hy2) (sH hy3)] at r;exact r
theorem Fx (z : Q2) : eQ (F2.neg z) = aD.neg (eQ z):=by
 rw [CW];unfold eQ;simp only [z6e,vB]
theorem YL (h : Cub F1 (fm 3) a1 a2 a3 n c) {x y : Q2} (hp : F2.mul y y = F2.add (F2.mul x (F2.mul x x)) dF) (hy : y ≠ F2.zero) (h1 : a1 ≠ F1.zero) (h2 : a2 ≠ F1.zero) (h3 : a3 ≠ F1.zero) :
  aD.mul (iO (lP n c x y)) (iO (lP n c x (F2.neg y))) = aD.one:=by
 have hY : aD.mul (aD.mul (eQ y) vO) (aD.mul (eQ y) vO) = aD.add (aD.mul (aD.mul (eQ x) JK) (aD.mul (aD.mul (eQ x) JK) (aD.mul (eQ x) JK))) (eP (fm 3)):=by
  rw [← Gl,tL aD (eQ y) vO (eQ y) vO,← oM y y,hp,zW,oM,oM];exact aOC (eQ x) (eQ dF)
 have r:=aSc (aUY h) hY;have hy' : F2.neg y ≠ F2.zero:=fun e => hy (by rw [← F2.neg_neg y,e,vB])
 have e1 : aD.neg (aD.mul (eQ y) vO) = aD.mul (eQ (F2.neg y)) vO:=by rw [Fx,aD.neg_mul]
 rw [e1,← YP,← YP,← DW,← DW,← DW] at r;have r:=congrArg iO r;rw [qH (nA (lQ h1) (nA (lQ h2) (lQ h3))),cV (sH hy) (sH hy'),cV (lQ h1) (nA (lQ h2) (lQ h3)),cV (lQ h2) (lQ h3),vC h1,vC h2,vC h3,aD.one_mul,aD.one_mul] at r;exact r
theorem Lc (g : Cub F2 dF x1 x2 x3 m d) {a b : Fq} (hp : F1.mul b b = F1.add (F1.mul a (F1.mul a a)) (fm 3)) (hb : b ≠ F1.zero) (ha : a ≠ F1.zero) :
  aD.mul (iO (lT m d a b)) (iO (lT m d a (F1.neg b))) = aD.one:=by
 have hY : aD.mul (eP b) (eP b) = aD.add (aD.mul (eP a) (aD.mul (eP a) (eP a))) (eP (fm 3)):=by rw [← sM,hp,QY,sM,sM]
 have r:=aSc (aUX g) hY;have hb' : F1.neg b ≠ F1.zero:=fun e => hb (by rw [← F1.neg_neg b,e,bK])
 have e1 : aD.neg (eP b) = eP (F1.neg b):=by
  unfold eP;rw [← Fx];exact congrArg eQ (Prod.ext rfl (bK F1))
 have e2:=aMe aD;rw [e1,← MC,← MC,e2 (eP a),e2 (eP a),e2 (eP a),← DW,← DW,← DW] at r;have r:=congrArg iO r;have n1:=tI (lQ (x:=x1) ha); have n2:=tI (lQ (x:=x2) ha); have n3:=tI (lQ (x:=x3) ha);rw [qH (nA n1 (nA n2 n3)),cV (qZ hb) (qZ hb'),cV n1 (nA n2 n3),cV n2 n3,qH (lQ ha),qH (lQ ha),qH (lQ ha),vC ha,vC ha,vC ha,aD.one_mul,aD.one_mul] at r;exact r
end
namespace AG
variable {G : Type} (A : AG G)
theorem addz (a : G) : A.add a A.zero = a:=by rw [A.comm,A.zadd]
theorem addn (a : G) : A.add a (A.neg a) = A.zero:=by rw [A.comm,A.nadd]
theorem left_comm (a b c : G) : A.add a (A.add b c) = A.add b (A.add a c):=by rw [← A.assoc,A.comm a b,A.assoc]
theorem cancel {a b c : G} (h : A.add a b = A.add a c) : b = c:=by
 have:=congrArg (A.add (A.neg a)) h
 rwa [← A.assoc,← A.assoc,A.nadd,A.zadd,A.zadd] at this
theorem negz : A.neg A.zero = A.zero:=by apply A.cancel (a:=A.zero); rw [A.addn,A.addz]
theorem neg_add (a b : G) : A.neg (A.add a b) = A.add (A.neg a) (A.neg b):=by
 apply A.cancel (a:=A.add a b);rw [A.addn,A.assoc,A.left_comm b,A.addn,A.addz,A.addn]
theorem add4 (a b c d : G) : A.add (A.add a b) (A.add c d) = A.add (A.add a c) (A.add b d):=by
 rw [A.assoc,A.left_comm b,← A.assoc]
def ns : Nat → G → G
 | 0,_ => A.zero
 | n + 1,g => A.add (ns n g) g
theorem ns_add (m : Nat) (g : G) : ∀ n,A.ns (m + n) g = A.add (A.ns m g) (A.ns n g)
 | 0 => (A.addz _).symm
 | n + 1 => by show A.add (A.ns (m + n) g) g = A.add _ (A.add _ _); rw [ns_add m g n,A.assoc]
theorem ns_zero : ∀ n,A.ns n A.zero = A.zero
 | 0 => rfl
 | n + 1 => by show A.add (A.ns n _) _ = _; rw [ns_zero n,A.zadd]
theorem ns_sum (g h : G) : ∀ n,A.ns n (A.add g h) = A.add (A.ns n g) (A.ns n h)
 | 0 => (A.zadd _).symm
 | n + 1 => by show A.add (A.ns n _) _ = A.add (A.add _ _) (A.add _ _); rw [ns_sum g h n,A.add4]
theorem ns_mul (m : Nat) (g : G) : ∀ n,A.ns (m * n) g = A.ns n (A.ns m g)
 | 0 => rfl
 | n + 1 => by rw [Nat.mul_add,Nat.mul_one,ns_add,ns_mul m g n]; rfl
def zs : Int → G → G
 | .ofNat n,g => A.ns n g
 | .negSucc n,g => A.neg (A.ns (n + 1) g)
theorem zs_sub (m n : Nat) (g : G) : A.zs (Int.subNatNat m n) g = A.add (A.ns m g) (A.neg (A.ns n g)):=by
 unfold Int.subNatNat;split
 ·rename_i h;have : m = n + (m - n):=by omega
  show A.ns (m - n) g = _
  conv => rhs; rw [this,ns_add]
  rw [A.comm (A.ns n g),A.assoc,A.addn,A.addz]
 ·rename_i k h;have : n = m + (k + 1):=by omega
  show A.neg (A.ns (k + 1) g) = _;rw [this,ns_add A m g (k + 1),A.neg_add (A.ns m g),← A.assoc,A.addn,A.zadd]
theorem zs_add (g : G) (a b : Int) : A.zs (a + b) g = A.add (A.zs a g) (A.zs b g):=by
 cases a with
 | ofNat m =>
  cases b with
  | ofNat n => exact A.ns_add m g n
  | negSucc n => exact A.zs_sub m (n + 1) g
 | negSucc m =>
  cases b with
  | ofNat n => show A.zs (Int.subNatNat n (m + 1)) g = _; rw [zs_sub,A.comm]; rfl
  | negSucc n =>
   show A.neg (A.ns (m + n + 1 + 1) g) = A.add (A.neg (A.ns (m + 1) g)) (A.neg (A.ns (n + 1) g));rw [← A.neg_add,← ns_add,show m + 1 + (n + 1) = m + n + 1 + 1 by omega]
def sm (P : Nat → G) (c : Nat → Int) : Nat → G
 | 0 => A.zero
 | n + 1 => A.add (sm P c n) (A.zs (c n) (P n))
theorem sm_add (P : Nat → G) (c d : Nat → Int) : ∀ n,A.sm P (fun i => c i + d i) n = A.add (A.sm P c n) (A.sm P d n)
 | 0 => (A.zadd _).symm
 | n + 1 => by show A.add (A.sm P _ n) (A.zs (c n + d n) (P n)) = A.add (A.add _ _) (A.add _ _); rw [sm_add P c d n,zs_add,A.add4]
theorem sm_congr {P : Nat → G} {c d : Nat → Int} : ∀ {n},(∀ i,i < n → c i = d i) → A.sm P c n = A.sm P d n
 | 0,_ => rfl
 | n + 1,h => by show A.add _ (A.zs (c n) _) = A.add _ (A.zs (d n) _); rw [sm_congr fun i hi => h i (by omega),h n (by omega)]
theorem sm_zero (P : Nat → G) : ∀ n,A.sm P (fun _ => 0) n = A.zero
 | 0 => rfl
 | n + 1 => by show A.add (A.sm P _ n) A.zero = _; rw [sm_zero P n,A.zadd]
theorem sm_two (P : Nat → G) (c : Nat → Int) (n : Nat) : A.add (A.sm P c n) (A.sm P c n) = A.sm P (fun i => 2 * c i) n:=by
 rw [← sm_add];exact A.sm_congr fun i _ => by omega
end AG
def pO (w : Nat) : Int:=((w + 1) / 2 : Nat) - (if 16 ≤ w then 16 else 0 : Int)
def xZ (x p : Nat) : Nat:=(if p = 0 then x * 2 else x / 2 ^ (p * 4 - 1)) % 32
def Tj (x PL : Nat) : Nat → Int
 | 0 => 0
 | i + 1 => 16 * Tj x PL i + pO (xZ x (PL - 1 - i))
theorem aCf (x PL : Nat) (h : x < 2 ^ (4 * PL - 1)) (h0 : 0 < PL) : ∀ i,i < PL → Tj x PL i = ((x / 2 ^ (4 * (PL - i)) + x / 2 ^ (4 * (PL - i) - 1) % 2 : Nat) : Int)
 | 0,_ => by
  have h1 : x / 2 ^ (4 * PL - 1) = 0:=Nat.div_eq_of_lt h;have h2 : x / 2 ^ (4 * PL) = 0:=Nat.div_eq_of_lt (Nat.lt_of_lt_of_le h (Nat.pow_le_pow_right (by omega) (by omega)));show (0 : Int) = ((x / 2 ^ (4 * (PL - 0)) + x / 2 ^ (4 * (PL - 0) - 1) % 2 : Nat) : Int);rw [Nat.sub_zero,h1,h2]; rfl
 | i + 1,hi => by
  have ih:=aCf x PL h h0 i (by omega);show 16 * Tj x PL i + pO (xZ x (PL - 1 - i)) = _;rw [ih];have hp : PL - 1 - i ≠ 0:=by omega
  have e1 : 4 * (PL - i) = (4 * (PL - (i + 1)) - 1) + 5:=by omega
  have e2 : 4 * (PL - i) - 1 = (4 * (PL - (i + 1)) - 1) + 4:=by omega
  have e3 : 4 * (PL - (i + 1)) = (4 * (PL - (i + 1)) - 1) + 1:=by omega
  have e4 : (PL - 1 - i) * 4 - 1 = 4 * (PL - (i + 1)) - 1:=by omega
  unfold pO xZ;rw [if_neg hp,e1,e4];rw [show (4 * (PL - (i + 1)) - 1) + 5 - 1 = (4 * (PL - (i + 1)) - 1) + 4 by omega];have e5 : x / 2 ^ (4 * (PL - (i + 1))) = x / 2 ^ (4 * (PL - (i + 1)) - 1) / 2:=by
   conv => lhs; rw [e3]
   rw [Nat.pow_add,← Nat.div_div_eq_div_mul]
  rw [e5,Nat.pow_add,Nat.pow_add,← Nat.div_div_eq_div_mul,← Nat.div_div_eq_div_mul];generalize x / 2 ^ (4 * (PL - (i + 1)) - 1) = a;show 16 * ((a / 32 + a / 16 % 2 : Nat) : Int) + (((a % 32 + 1) / 2 : Nat) - (if 16 ≤ a % 32 then 16 else 0 : Int)) = ((a / 2 + a % 2 : Nat) : Int);split <;> omega
theorem Lq (x PL : Nat) (h : x < 2 ^ (4 * PL - 1)) (h0 : 0 < PL) : Tj x PL PL = x:=by
 obtain ⟨k,rfl⟩ : ∃ k,PL = k + 1:=⟨PL - 1,by omega⟩
 show 16 * Tj x (k + 1) k + pO (xZ x (k + 1 - 1 - k)) = _;rw [aCf x (k + 1) h h0 k (by omega),show k + 1 - 1 - k = 0 by omega,show k + 1 - k = 1 by omega];unfold pO xZ;rw [if_pos rfl];show 16 * ((x / 16 + x / 8 % 2 : Nat) : Int) + (((x * 2 % 32 + 1) / 2 : Nat) - (if 16 ≤ x * 2 % 32 then 16 else 0 : Int)) = (x : Int);split <;> omega
section
variable {G V : Type} (A : AG G) (B : AG V)
def Uo (Q : G) (d : Int) (T : G) : G:=if d = 1 then A.add (A.add T T) Q else if d = -1 then A.add (A.add T T) (A.neg Q) else A.add T T
def stF (L : G → G → V) (Q : G) (d : Int) (F : V) (T : G) : V:=if d = 1 then B.add (B.add (B.add F F) (L T T)) (L (A.add T T) Q) else if d = -1 then B.add (B.add (B.add F F) (L T T)) (L (A.add T T) (A.neg Q)) else B.add (B.add F F) (L T T)
def yR (Q : G) : List Int → G → G
 | [],T => T
 | d :: ds,T => yR Q ds (Uo A Q d T)
def Yq (L : G → G → V) (Q : G) : List Int → V → G → V
 | [],F,_ => F
 | d :: ds,F,T => Yq L Q ds (stF A B L Q d F T) (Uo A Q d T)
variable {B}
end
open Go.RowKit
theorem fd1 : FD F1 cO:=⟨Nx,fun x h => xS h⟩
theorem fd2 : FD F2 dT:=⟨zT.1,fun x h => ST fun e => h (pH e)⟩
theorem aNZ {x : Q2} (h : x ≠ F2.zero) : rL x ≠ F1.zero:=fun e => h (pH e)
abbrev J1:=Jc Fq
abbrev J2:=Jc Q2
def bJ (p : J1) : List At:=[.f p.1,.f p.2.1,.f p.2.2]
def bI (p : J2) : List At:=[.f p.1.1,.f p.1.2,.f p.2.1.1,.f p.2.1.2,.f p.2.2.1,.f p.2.2.2]
def Sa : List At → Option J1 | [.f a,.f b,.f c] => some (a,b,c) | _ => none
def Rz : List At → Option J2 | [.f a,.f b,.f c,.f d,.f e,.f f] => some ((a,b),(c,d),(e,f)) | _ => none
theorem mR : Rd Sa bJ:=fun l x h => by unfold Sa at h; split at h <;> cases h; rfl
theorem mQ : Rd Rz bI:=fun l x h => by unfold Rz at h; split at h <;> cases h; rfl
theorem qL {a b : Fq} (h : a ≠ b) : aA (e1 a) ≠ aA (e1 b):=fun e => h (aPD e)
theorem nF {a b : Q2} (h : a ≠ b) : aA (e2 a) ≠ aA (e2 b):=fun e => h (aPC e)
theorem FD.inv_one {R : Type} {K : CR R} {inv : R → R} (F : FD K inv) : inv K.one = K.one:=by
 have:=F.inv K.one F.ne
 rwa [K.one_mul] at this
theorem Ct (p : J1) : aW prog (qG prog) (fun _ => ⟨fun s => SL true,fun s => true,fun _ => none⟩) f195 60 [.v (.fl (bJ p))] = some ([aA (e1 p.2.2) = aA (e1 F1.zero)],.one (.im (.bool true))):=by kernel_rfl
theorem Cu (p : J1) : aW prog (qG prog) (fun _ => ⟨fun s => SL false,fun s => false,fun _ => none⟩) f195 60 [.v (.fl (bJ p))] = some ([aA (e1 p.2.2) ≠ aA (e1 F1.zero)],.one (.im (.bool false))):=by kernel_rfl
def aBj (d : Bool) (p : J1) : List Prop × RV:=bif d then ([p.2.2 = F1.zero],.one (.im (.bool true))) else ([p.2.2 ≠ F1.zero],.one (.im (.bool false)))
theorem aBi (d : Bool) (p : J1) (hp : aY (aBj d p).1) (args : List Value) (w : World) (ha : bR w [.v (.fl (bJ p))] args) : Good prog 195 (aBj d p).2 args w:=by
 cases d
 ·have h : p.2.2 ≠ F1.zero:=hp.1;exact aB aG (fun _ s => PK _) (aK prog) func195 (Cu p) ⟨qL h,trivial⟩ ha
 ·have h : p.2.2 = F1.zero:=hp.1;exact aB aG (fun _ s => PK _) (aK prog) func195 (Ct p) ⟨by rw [h],trivial⟩ ha
def SO (d : Bool) : Tab:=(SL d).add 195 (g1 Sa (aBj d))
theorem PO (d : Bool) : TabOk prog (SO d):=(PK d).ad func195 (bC mR fun p hp args w ha => aBi d p hp args w ha)
theorem Bz (d : Bool) (p : J1) (b : Fq) : aW prog (qG prog) (fun _ => ⟨fun s => SO d,fun s => true,fun _ => none⟩) f198 60 [.v (.fl (bJ p)),.v (.fl (e1 b))] = some ([aA (e1 p.2.2) = aA (e1 F1.one)],.one (.fl (e1 b))):=by kernel_rfl
theorem Ca (d : Bool) (p : J1) (b : Fq) : aW prog (qG prog) (fun _ => ⟨fun s => SO d,fun s => false,fun _ => none⟩) f198 60 [.v (.fl (bJ p)),.v (.fl (e1 b))] = some ([aA (e1 p.2.2) ≠ aA (e1 F1.one)],.one (.fl (e1 (F1.mul b p.2.2)))):=by kernel_rfl
theorem aFg (d : Bool) (p : J1) (b : Fq) (args : List Value) (w : World) (ha : bR w [.v (.fl (bJ p)),.v (.fl (e1 b))] args) : Good prog 198 (.one (.fl (e1 (F1.mul b p.2.2)))) args w:=by
 by_cases h : p.2.2 = F1.one
 ·rw [h,F1.mul_one];exact aB aG (fun _ s => PO _) (aK prog) func198 (Bz d p b) ⟨by rw [h],trivial⟩ ha
 ·exact aB aG (fun _ s => PO _) (aK prog) func198 (Ca d p b) ⟨qL h,trivial⟩ ha
def SF (d : Bool) : Tab:=(SO d).add 198 (g2 Sa Iv fun p b => ([],.one (.fl (e1 (F1.mul b p.2.2)))))
theorem PI (d : Bool) : TabOk prog (SF d):=(PO d).ad func198 (fB mR lG fun p b hp args w ha => aFg d p b args w ha)
theorem Dj (d : Bool) (p q : J1) : aW prog (qG prog) (fun _ => ⟨fun s => SF d,fun s => true,fun _ => none⟩) f196 60 [.v (.fl (bJ p)),.v (.fl (bJ q))] = some ([aA (e1 q.2.2) = aA (e1 F1.one)],.many [.fl (e1 (p.1)),.fl (e1 (p.2.1))]):=by kernel_rfl
theorem Dk (d : Bool) (p q : J1) : aW prog (qG prog) (fun _ => ⟨fun s => SF d,fun s => false,fun _ => none⟩) f196 60 [.v (.fl (bJ p)),.v (.fl (bJ q))] = some ([aA (e1 q.2.2) ≠ aA (e1 F1.one)],.many [.fl (e1 (DC F1 p q)),.fl (e1 (BD F1 p q))]):=by kernel_rfl
theorem aIX (d : Bool) (p q : J1) (args : List Value) (w : World) (ha : bR w [.v (.fl (bJ p)),.v (.fl (bJ q))] args) : Good prog 196 (.many [.fl (e1 (DC F1 p q)),.fl (e1 (BD F1 p q))]) args w:=by
 by_cases h : q.2.2 = F1.one
 ·have hx : DC F1 p q = p.1:=by unfold DC; rw [h,F1.mul_one,F1.mul_one]
  have hy : BD F1 p q = p.2.1:=by unfold BD; rw [h,F1.mul_one,F1.mul_one,F1.mul_one]
  rw [hx,hy];exact aB aG (fun _ s => PI _) (aK prog) func196 (Dj d p q) ⟨by rw [h],trivial⟩ ha
 ·exact aB aG (fun _ s => PI _) (aK prog) func196 (Dk d p q) ⟨qL h,trivial⟩ ha
def Hj (d : Bool) : Tab:=(SF d).add 196 (g2 Sa Sa fun p q => ([],.many [.fl (e1 (DC F1 p q)),.fl (e1 (BD F1 p q))]))
theorem Kh (d : Bool) : TabOk prog (Hj d):=(PI d).ad func196 (fB mR mR fun p q hp args w ha => aIX d p q args w ha)
theorem Yh (d : Bool) (p : J1) : aW prog (qG prog) (fun _ => ⟨fun s => Hj d,fun s => true,fun _ => none⟩) f197 60 [.v (.fl (bJ p))] = some ([],.one (.fl (bJ (cG F1 p)))):=by kernel_rfl
def Hh (d : Bool) : Tab:=(Hj d).add 197 (g1 Sa fun p => ([],.one (.fl (bJ (cG F1 p)))))
theorem Kf (d : Bool) : TabOk prog (Hh d):=(Kh d).ad func197 (bC mR fun p hp args w ha => aB aG (fun _ s => Kh _) (aK prog) func197 (Yh d p) trivial ha)
theorem Xy (d : Bool) (p : J1) : aW prog (qG prog) (fun _ => ⟨fun s => Hh d,fun s => true,fun _ => none⟩) f237 60 [.v (.fl (bJ p))] = some ([],.one (.fl (bJ (sI F1 p)))):=by kernel_rfl
def IZ (d : Bool) : Tab:=(Hh d).add 237 (g1 Sa fun p => ([],.one (.fl (bJ (sI F1 p)))))
theorem CT (d : Bool) : TabOk prog (IZ d):=(Kf d).ad func237 (bC mR fun p hp args w ha => aB aG (fun _ s => Kf _) (aK prog) func237 (Xy d p) trivial ha)
theorem UM (p : J1) : aW prog (qG prog) (fun _ => ⟨fun s => IZ true,fun s => true,fun _ => none⟩) f155 60 [.v (.fl (bJ p))] = some ([p.2.2 = F1.zero],.many [.fl (e1 F1.zero),.fl (e1 F1.zero),.im (.bool true)]):=by kernel_rfl
theorem UL (p : J1) : aW prog (qG prog) (fun _ => ⟨fun s => IZ false,fun s => true,fun _ => none⟩) f155 60 [.v (.fl (bJ p))] = some ([p.2.2 ≠ F1.zero,aA (e1 p.2.2) = aA (e1 F1.one)],.many [.fl (e1 p.1),.fl (e1 p.2.1),.im (.bool false)]):=by kernel_rfl
theorem UN (p : J1) : aW prog (qG prog) (fun _ => ⟨fun s => IZ false,fun s => false,fun _ => none⟩) f155 60 [.v (.fl (bJ p))] = some ([p.2.2 ≠ F1.zero,aA (e1 p.2.2) ≠ aA (e1 F1.one),p.2.2 ≠ F1.zero],.many [.fl (e1 (F1.mul p.1 (F1.mul (cO p.2.2) (cO p.2.2)))),.fl (e1 (F1.mul p.2.1 (F1.mul (F1.mul (cO p.2.2) (cO p.2.2)) (cO p.2.2)))),.im (.bool false)]):=by kernel_rfl
def Ek (d : Bool) (p : J1) : List Prop × RV:=bif d then ([p.2.2 = F1.zero],.many [.fl (e1 F1.zero),.fl (e1 F1.zero),.im (.bool true)]) else ([p.2.2 ≠ F1.zero],.many [.fl (e1 (F1.mul p.1 (F1.mul (cO p.2.2) (cO p.2.2)))),.fl (e1 (F1.mul p.2.1 (F1.mul (F1.mul (cO p.2.2) (cO p.2.2)) (cO p.2.2)))),.im (.bool false)])
theorem Sw (d : Bool) (p : J1) (hp : aY (Ek d p).1) (args : List Value) (w : World) (ha : bR w [.v (.fl (bJ p))] args) : Good prog 155 (Ek d p).2 args w:=by
 cases d
 ·have h : p.2.2 ≠ F1.zero:=hp.1;show Good _ _ (.many [.fl (e1 (F1.mul p.1 (F1.mul (cO p.2.2) (cO p.2.2)))),.fl (e1 (F1.mul p.2.1 (F1.mul (F1.mul (cO p.2.2) (cO p.2.2)) (cO p.2.2)))),.im (.bool false)]) _ _
  by_cases h1 : p.2.2 = F1.one
  ·have hi : cO p.2.2 = F1.one:=by rw [h1]; exact fd1.inv_one
   rw [hi,F1.mul_one,F1.mul_one,F1.mul_one,F1.mul_one];exact aB aG (fun _ s => CT _) (aK prog) func155 (UL p) ⟨h,by rw [h1],trivial⟩ ha
  ·exact aB aG (fun _ s => CT _) (aK prog) func155 (UN p) ⟨h,qL h1,h,trivial⟩ ha
 ·exact aB aG (fun _ s => CT _) (aK prog) func155 (UM p) hp ha
def qV (d : Bool) : Tab:=(IZ d).add 155 (g1 Sa (Ek d))
theorem pE (d : Bool) : TabOk prog (qV d):=(CT d).ad func155 (bC mR fun p hp args w ha => Sw d p hp args w ha)
theorem VF (p q : J1) : aW prog (qG prog) (fun _ => ⟨fun s => qV (bif Nat.beq s 18 then true else false),fun s => true,fun _ => none⟩) f156 80 [.v (.fl (bJ p)),.v (.fl (bJ q))] = some ([p.2.2 = F1.zero],.one (.fl (bJ q))):=by kernel_rfl
theorem VE (p q : J1) : aW prog (qG prog) (fun _ => ⟨fun s => qV (bif Nat.beq s 18 then false else true),fun s => true,fun _ => none⟩) f156 80 [.v (.fl (bJ p)),.v (.fl (bJ q))] = some ([p.2.2 ≠ F1.zero,q.2.2 = F1.zero],.one (.fl (bJ p))):=by kernel_rfl
theorem VD (p q : J1) : aW prog (qG prog) (fun _ => ⟨fun s => qV (bif Nat.beq s 18 then false else false),fun s => true,fun _ => none⟩) f156 80 [.v (.fl (bJ p)),.v (.fl (bJ q))] = some ([p.2.2 ≠ F1.zero,q.2.2 ≠ F1.zero,aA (e1 (BE F1 p q)) = aA (e1 F1.zero),aA (e1 (YU F1 p q)) = aA (e1 F1.zero)],.one (.fl (bJ (cG F1 p)))):=by kernel_rfl
theorem VC (p q : J1) : aW prog (qG prog) (fun _ => ⟨fun s => qV (bif Nat.beq s 18 then false else false),fun s => false,fun _ => none⟩) f156 80 [.v (.fl (bJ p)),.v (.fl (bJ q))] = some ([p.2.2 ≠ F1.zero,q.2.2 ≠ F1.zero,aA (e1 (BE F1 p q)) ≠ aA (e1 F1.zero)],.one (.fl (bJ (GO F1 p q)))):=by kernel_rfl
theorem VB (p q : J1) : aW prog (qG prog) (fun _ => ⟨fun s => qV (bif Nat.beq s 18 then false else false),fun s => !(Nat.beq s 49),fun _ => none⟩) f156 80 [.v (.fl (bJ p)),.v (.fl (bJ q))] = some ([p.2.2 ≠ F1.zero,q.2.2 ≠ F1.zero,aA (e1 (BE F1 p q)) = aA (e1 F1.zero),aA (e1 (YU F1 p q)) ≠ aA (e1 F1.zero)],.one (.fl (bJ (GO F1 p q)))):=by kernel_rfl
theorem aAh (d : Bool) (p q : J1) (args : List Value) (w : World) (ha : bR w [.v (.fl (bJ p)),.v (.fl (bJ q))] args) : Good prog 156 (.one (.fl (bJ (dW F1 p q)))) args w:=by
 unfold dW
 by_cases h1 : p.2.2 = F1.zero
 ·rw [if_pos h1];exact aB aG (fun _ s => pE _) (aK prog) func156 (VF p q) ⟨h1,trivial⟩ ha
 ·rw [if_neg h1]
  by_cases h2 : q.2.2 = F1.zero
  ·rw [if_pos h2];exact aB aG (fun _ s => pE _) (aK prog) func156 (VE p q) ⟨h1,h2,trivial⟩ ha
  ·rw [if_neg h2]
   by_cases h3 : BE F1 p q = F1.zero
   ·by_cases h4 : YU F1 p q = F1.zero
    ·rw [if_pos ⟨h3,h4⟩];exact aB aG (fun _ s => pE _) (aK prog) func156 (VD p q) ⟨h1,h2,by rw [h3],by rw [h4],trivial⟩ ha
    ·rw [if_neg (fun h => h4 h.2)];exact aB aG (fun _ s => pE _) (aK prog) func156 (VB p q) ⟨h1,h2,by rw [h3],qL h4,trivial⟩ ha
   ·rw [if_neg (fun h => h3 h.1)];exact aB aG (fun _ s => pE _) (aK prog) func156 (VC p q) ⟨h1,h2,qL h3,trivial⟩ ha
def DL (d : Bool) : Tab:=(qV d).add 156 (g2 Sa Sa fun p q => ([],.one (.fl (bJ (dW F1 p q)))))
theorem FV (d : Bool) : TabOk prog (DL d):=(pE d).ad func156 (fB mR mR fun p q hp args w ha => aAh d p q args w ha)
theorem Cr (p : J2) : aW prog (qG prog) (fun _ => ⟨fun s => DL true,fun s => true,fun _ => none⟩) f199 60 [.v (.fl (bI p))] = some ([aA (e2 p.2.2) = aA (e2 F2.zero)],.one (.im (.bool true))):=by kernel_rfl
theorem Cs (p : J2) : aW prog (qG prog) (fun _ => ⟨fun s => DL false,fun s => false,fun _ => none⟩) f199 60 [.v (.fl (bI p))] = some ([aA (e2 p.2.2) ≠ aA (e2 F2.zero)],.one (.im (.bool false))):=by kernel_rfl
def aBh (d : Bool) (p : J2) : List Prop × RV:=bif d then ([p.2.2 = F2.zero],.one (.im (.bool true))) else ([p.2.2 ≠ F2.zero],.one (.im (.bool false)))
theorem aBg (d : Bool) (p : J2) (hp : aY (aBh d p).1) (args : List Value) (w : World) (ha : bR w [.v (.fl (bI p))] args) : Good prog 199 (aBh d p).2 args w:=by
 cases d
 ·have h : p.2.2 ≠ F2.zero:=hp.1;exact aB aG (fun _ s => FV _) (aK prog) func199 (Cs p) ⟨nF h,trivial⟩ ha
 ·have h : p.2.2 = F2.zero:=hp.1;exact aB aG (fun _ s => FV _) (aK prog) func199 (Cr p) ⟨by rw [h],trivial⟩ ha
def SN (d : Bool) : Tab:=(DL d).add 199 (g1 Rz (aBh d))
theorem PN (d : Bool) : TabOk prog (SN d):=(FV d).ad func199 (bC mQ fun p hp args w ha => aBg d p hp args w ha)
theorem Bx (d : Bool) (p : J2) (b : Q2) : aW prog (qG prog) (fun _ => ⟨fun s => SN d,fun s => true,fun _ => none⟩) f202 60 [.v (.fl (bI p)),.v (.fl (e2 b))] = some ([aA (e2 p.2.2) = aA (e2 F2.one)],.one (.fl (e2 b))):=by kernel_rfl
theorem By (d : Bool) (p : J2) (b : Q2) : aW prog (qG prog) (fun _ => ⟨fun s => SN d,fun s => false,fun _ => none⟩) f202 60 [.v (.fl (bI p)),.v (.fl (e2 b))] = some ([aA (e2 p.2.2) ≠ aA (e2 F2.one)],.one (.fl (e2 (F2.mul b p.2.2)))):=by kernel_rfl
theorem aFf (d : Bool) (p : J2) (b : Q2) (args : List Value) (w : World) (ha : bR w [.v (.fl (bI p)),.v (.fl (e2 b))] args) : Good prog 202 (.one (.fl (e2 (F2.mul b p.2.2)))) args w:=by
 by_cases h : p.2.2 = F2.one
 ·rw [h,F2.mul_one];exact aB aG (fun _ s => PN _) (aK prog) func202 (Bx d p b) ⟨by rw [h],trivial⟩ ha
 ·exact aB aG (fun _ s => PN _) (aK prog) func202 (By d p b) ⟨nF h,trivial⟩ ha
def SE (d : Bool) : Tab:=(SN d).add 202 (g2 Rz JW fun p b => ([],.one (.fl (e2 (F2.mul b p.2.2)))))
theorem PH (d : Bool) : TabOk prog (SE d):=(PN d).ad func202 (fB mQ fJ fun p b hp args w ha => aFf d p b args w ha)
theorem Dh (d : Bool) (p q : J2) : aW prog (qG prog) (fun _ => ⟨fun s => SE d,fun s => true,fun _ => none⟩) f200 60 [.v (.fl (bI p)),.v (.fl (bI q))] = some ([aA (e2 q.2.2) = aA (e2 F2.one)],.many [.fl (e2 (p.1)),.fl (e2 (p.2.1))]):=by kernel_rfl
theorem Di (d : Bool) (p q : J2) : aW prog (qG prog) (fun _ => ⟨fun s => SE d,fun s => false,fun _ => none⟩) f200 60 [.v (.fl (bI p)),.v (.fl (bI q))] = some ([aA (e2 q.2.2) ≠ aA (e2 F2.one)],.many [.fl (e2 (DC F2 p q)),.fl (e2 (BD F2 p q))]):=by kernel_rfl
theorem aIW (d : Bool) (p q : J2) (args : List Value) (w : World) (ha : bR w [.v (.fl (bI p)),.v (.fl (bI q))] args) : Good prog 200 (.many [.fl (e2 (DC F2 p q)),.fl (e2 (BD F2 p q))]) args w:=by
 by_cases h : q.2.2 = F2.one
 ·have hx : DC F2 p q = p.1:=by unfold DC; rw [h,F2.mul_one,F2.mul_one]
  have hy : BD F2 p q = p.2.1:=by unfold BD; rw [h,F2.mul_one,F2.mul_one,F2.mul_one]
  rw [hx,hy];exact aB aG (fun _ s => PH _) (aK prog) func200 (Dh d p q) ⟨by rw [h],trivial⟩ ha
 ·exact aB aG (fun _ s => PH _) (aK prog) func200 (Di d p q) ⟨nF h,trivial⟩ ha
def Hi (d : Bool) : Tab:=(SE d).add 200 (g2 Rz Rz fun p q => ([],.many [.fl (e2 (DC F2 p q)),.fl (e2 (BD F2 p q))]))
theorem Kg (d : Bool) : TabOk prog (Hi d):=(PH d).ad func200 (fB mQ mQ fun p q hp args w ha => aIW d p q args w ha)
theorem Yg (d : Bool) (p : J2) : aW prog (qG prog) (fun _ => ⟨fun s => Hi d,fun s => true,fun _ => none⟩) f201 60 [.v (.fl (bI p))] = some ([],.one (.fl (bI (cG F2 p)))):=by kernel_rfl
def Hg (d : Bool) : Tab:=(Hi d).add 201 (g1 Rz fun p => ([],.one (.fl (bI (cG F2 p)))))
theorem Ke (d : Bool) : TabOk prog (Hg d):=(Kg d).ad func201 (bC mQ fun p hp args w ha => aB aG (fun _ s => Kg _) (aK prog) func201 (Yg d p) trivial ha)
theorem Xx (d : Bool) (p : J2) : aW prog (qG prog) (fun _ => ⟨fun s => Hg d,fun s => true,fun _ => none⟩) f244 60 [.v (.fl (bI p))] = some ([],.one (.fl (bI (sI F2 p)))):=by kernel_rfl
def IY (d : Bool) : Tab:=(Hg d).add 244 (g1 Rz fun p => ([],.one (.fl (bI (sI F2 p)))))
theorem CS (d : Bool) : TabOk prog (IY d):=(Ke d).ad func244 (bC mQ fun p hp args w ha => aB aG (fun _ s => Ke _) (aK prog) func244 (Xx d p) trivial ha)
theorem UJ (p : J2) : aW prog (qG prog) (fun _ => ⟨fun s => IY true,fun s => true,fun _ => none⟩) f158 60 [.v (.fl (bI p))] = some ([p.2.2 = F2.zero],.many [.fl (e2 F2.zero),.fl (e2 F2.zero),.im (.bool true)]):=by kernel_rfl
theorem UI (p : J2) : aW prog (qG prog) (fun _ => ⟨fun s => IY false,fun s => true,fun _ => none⟩) f158 60 [.v (.fl (bI p))] = some ([p.2.2 ≠ F2.zero,aA (e2 p.2.2) = aA (e2 F2.one)],.many [.fl (e2 p.1),.fl (e2 p.2.1),.im (.bool false)]):=by kernel_rfl
theorem UK (p : J2) : aW prog (qG prog) (fun _ => ⟨fun s => IY false,fun s => false,fun _ => none⟩) f158 60 [.v (.fl (bI p))] = some ([p.2.2 ≠ F2.zero,aA (e2 p.2.2) ≠ aA (e2 F2.one),rL p.2.2 ≠ F1.zero],.many [.fl (e2 (F2.mul p.1 (F2.mul (dT p.2.2) (dT p.2.2)))),.fl (e2 (F2.mul p.2.1 (F2.mul (F2.mul (dT p.2.2) (dT p.2.2)) (dT p.2.2)))),.im (.bool false)]):=by kernel_rfl
def Ej (d : Bool) (p : J2) : List Prop × RV:=bif d then ([p.2.2 = F2.zero],.many [.fl (e2 F2.zero),.fl (e2 F2.zero),.im (.bool true)]) else ([p.2.2 ≠ F2.zero],.many [.fl (e2 (F2.mul p.1 (F2.mul (dT p.2.2) (dT p.2.2)))),.fl (e2 (F2.mul p.2.1 (F2.mul (F2.mul (dT p.2.2) (dT p.2.2)) (dT p.2.2)))),.im (.bool false)])
theorem Sv (d : Bool) (p : J2) (hp : aY (Ej d p).1) (args : List Value) (w : World) (ha : bR w [.v (.fl (bI p))] args) : Good prog 158 (Ej d p).2 args w:=by
 cases d
 ·have h : p.2.2 ≠ F2.zero:=hp.1;show Good _ _ (.many [.fl (e2 (F2.mul p.1 (F2.mul (dT p.2.2) (dT p.2.2)))),.fl (e2 (F2.mul p.2.1 (F2.mul (F2.mul (dT p.2.2) (dT p.2.2)) (dT p.2.2)))),.im (.bool false)]) _ _
  by_cases h1 : p.2.2 = F2.one
  ·have hi : dT p.2.2 = F2.one:=by rw [h1]; exact fd2.inv_one
   rw [hi,F2.mul_one,F2.mul_one,F2.mul_one,F2.mul_one];exact aB aG (fun _ s => CS _) (aK prog) func158 (UI p) ⟨h,by rw [h1],trivial⟩ ha
  ·exact aB aG (fun _ s => CS _) (aK prog) func158 (UK p) ⟨h,nF h1,aNZ h,trivial⟩ ha
 ·exact aB aG (fun _ s => CS _) (aK prog) func158 (UJ p) hp ha
def qU (d : Bool) : Tab:=(IY d).add 158 (g1 Rz (Ej d))
theorem pD (d : Bool) : TabOk prog (qU d):=(CS d).ad func158 (bC mQ fun p hp args w ha => Sv d p hp args w ha)
theorem VA (p q : J2) : aW prog (qG prog) (fun _ => ⟨fun s => qU (bif Nat.beq s 18 then true else false),fun s => true,fun _ => none⟩) f159 80 [.v (.fl (bI p)),.v (.fl (bI q))] = some ([p.2.2 = F2.zero],.one (.fl (bI q))):=by kernel_rfl
theorem UZ (p q : J2) : aW prog (qG prog) (fun _ => ⟨fun s => qU (bif Nat.beq s 18 then false else true),fun s => true,fun _ => none⟩) f159 80 [.v (.fl (bI p)),.v (.fl (bI q))] = some ([p.2.2 ≠ F2.zero,q.2.2 = F2.zero],.one (.fl (bI p))):=by kernel_rfl
theorem UY (p q : J2) : aW prog (qG prog) (fun _ => ⟨fun s => qU (bif Nat.beq s 18 then false else false),fun s => true,fun _ => none⟩) f159 80 [.v (.fl (bI p)),.v (.fl (bI q))] = some ([p.2.2 ≠ F2.zero,q.2.2 ≠ F2.zero,aA (e2 (BE F2 p q)) = aA (e2 F2.zero),aA (e2 (YU F2 p q)) = aA (e2 F2.zero)],.one (.fl (bI (cG F2 p)))):=by kernel_rfl
theorem UX (p q : J2) : aW prog (qG prog) (fun _ => ⟨fun s => qU (bif Nat.beq s 18 then false else false),fun s => false,fun _ => none⟩) f159 80 [.v (.fl (bI p)),.v (.fl (bI q))] = some ([p.2.2 ≠ F2.zero,q.2.2 ≠ F2.zero,aA (e2 (BE F2 p q)) ≠ aA (e2 F2.zero)],.one (.fl (bI (GO F2 p q)))):=by kernel_rfl
theorem UW (p q : J2) : aW prog (qG prog) (fun _ => ⟨fun s => qU (bif Nat.beq s 18 then false else false),fun s => !(Nat.beq s 49),fun _ => none⟩) f159 80 [.v (.fl (bI p)),.v (.fl (bI q))] = some ([p.2.2 ≠ F2.zero,q.2.2 ≠ F2.zero,aA (e2 (BE F2 p q)) = aA (e2 F2.zero),aA (e2 (YU F2 p q)) ≠ aA (e2 F2.zero)],.one (.fl (bI (GO F2 p q)))):=by kernel_rfl
theorem aAg (d : Bool) (p q : J2) (args : List Value) (w : World) (ha : bR w [.v (.fl (bI p)),.v (.fl (bI q))] args) : Good prog 159 (.one (.fl (bI (dW F2 p q)))) args w:=by
 unfold dW
 by_cases h1 : p.2.2 = F2.zero
 ·rw [if_pos h1];exact aB aG (fun _ s => pD _) (aK prog) func159 (VA p q) ⟨h1,trivial⟩ ha
 ·rw [if_neg h1]
  by_cases h2 : q.2.2 = F2.zero
  ·rw [if_pos h2];exact aB aG (fun _ s => pD _) (aK prog) func159 (UZ p q) ⟨h1,h2,trivial⟩ ha
  ·rw [if_neg h2]
   by_cases h3 : BE F2 p q = F2.zero
   ·by_cases h4 : YU F2 p q = F2.zero
    ·rw [if_pos ⟨h3,h4⟩];exact aB aG (fun _ s => pD _) (aK prog) func159 (UY p q) ⟨h1,h2,by rw [h3],by rw [h4],trivial⟩ ha
    ·rw [if_neg (fun h => h4 h.2)];exact aB aG (fun _ s => pD _) (aK prog) func159 (UW p q) ⟨h1,h2,by rw [h3],nF h4,trivial⟩ ha
   ·rw [if_neg (fun h => h3 h.1)];exact aB aG (fun _ s => pD _) (aK prog) func159 (UX p q) ⟨h1,h2,nF h3,trivial⟩ ha
def mF (d : Bool) : Tab:=(qU d).add 159 (g2 Rz Rz fun p q => ([],.one (.fl (bI (dW F2 p q)))))
theorem kR (d : Bool) : TabOk prog (mF d):=(pD d).ad func159 (fB mQ mQ fun p q hp args w ha => aAg d p q args w ha)
theorem Ib (x : Nat) : w4 x = w4 (wv x):=by
 obtain ⟨e0,e1,e2,e3⟩:=nZ (dL x) (show wv x < 115792089237316195423570985008687907853269984665640564039457584007913129639936 by
  have h:=dL x;obtain ⟨h0,h1,h2,h3⟩:=h;unfold wv aF; omega) rfl
 unfold w4;rw [e0,e1,e2,e3]
theorem q_f {x : Nat} (h : wv x < FP.M) : aA [.q x] = aA [.f (m1 x)]:=by
 show w4 x ++ [] = w4 (m1 x).1 ++ [];rw [Ib x];show w4 (wv x) ++ [] = w4 (wv x % FP.M) ++ [];rw [Nat.mod_eq_of_lt h]
theorem MG (a : At) (l : List At) : aA (a :: l) = aA [a] ++ aA l:=by show a.cells ++ aA l = (a.cells ++ []) ++ aA l; rw [List.append_nil]
theorem CJ {x y : Nat} (h : w4 x = w4 y) : wv x = wv y:=by
 unfold w4 at h;simp only [List.cons.injEq,Value.int.injEq,true_and,and_true,Int.ofNat_inj] at h;unfold wv;rw [h.1,h.2.1,h.2.2.1,h.2.2.2]
theorem EY {x : Nat} : aA [.q x] = aA (e1 F1.zero) ↔ wv x = 0:=by
 constructor
 ·intro h;have h' : w4 x ++ [] = w4 0 ++ []:=h;rw [List.append_nil,List.append_nil] at h';rw [CJ h']; decide
 ·intro h;show w4 x ++ [] = w4 0 ++ [];rw [Ib x,h]
theorem wW {x : N2} : aA (q2 x) = aA (e2 F2.zero) ↔ wv x.1 = 0 ∧ wv x.2 = 0:=by
 constructor
 ·intro h;have h' : w4 x.1 ++ (w4 x.2 ++ []) = w4 0 ++ (w4 0 ++ []):=h;obtain ⟨h1,h2⟩:=List.append_inj h' rfl;rw [List.append_nil,List.append_nil] at h2;exact ⟨by rw [CJ h1]; decide,by rw [CJ h2]; decide⟩
 ·rintro ⟨h1,h2⟩
  show w4 x.1 ++ (w4 x.2 ++ []) = w4 0 ++ (w4 0 ++ []);rw [Ib x.1,Ib x.2,h1,h2]
theorem Good.congr {P : Program} {f : FuncId} {r r' : RV} {args : List Value} {w : World} (h : Good P f r args w) (e : r.den = r'.den) : Good P f r' args w:=by
 unfold Good at h ⊢;rw [← e];exact h
def JJ (x : Nat) : Prop:=wv x < FP.M
def JI (x : N2) : Prop:=wv x.1 < FP.M ∧ wv x.2 < FP.M
def zr1 (x : Nat) : Prop:=wv x = 0
def Uu (x : N2) : Prop:=wv x.1 = 0 ∧ wv x.2 = 0
theorem aKQ {x : Nat} (h : JJ x) : aA (q1 x) = aA (e1 (m1 x)):=q_f h
theorem aKP {x : N2} (h : JI x) : aA (q2 x) = aA (e2 (m2 x)):=by
 show aA (.q x.1 :: [.q x.2]) = aA (.f (m1 x.1) :: [.f (m1 x.2)]);rw [MG,MG (.f _),q_f h.1,q_f h.2]
theorem uL {c : Int} (h : c ≠ 0) : aI .neq .i64 c 0 = some (.bool true):=by
 show some (Value.bool (c != 0)) = _;rw [bne_iff_ne.2 h]
theorem GE {c : Int} (h : c = 0) : aI .neq .i64 c 0 = some (.bool false):=by rw [h]; rfl
open Classical in
theorem aDz : ∃ g : Nat → Nat → Bool → Int × J1,∀ x y i,g x y i = if i = true then (if zr1 x ∧ zr1 y then (0,(F1.zero,F1.zero,F1.zero)) else (44,(F1.zero,F1.zero,F1.zero))) else if ¬ (JJ x ∧ JJ y) then (21,(F1.zero,F1.zero,F1.zero)) else if F1.mul (m1 y) (m1 y) = F1.add (F1.mul (F1.mul (m1 x) (m1 x)) (m1 x)) (fm 3) then (0,(m1 x,m1 y,F1.one)) else (41,(F1.zero,F1.zero,F1.zero)):=⟨_,fun _ _ _ => rfl⟩
def RK : Nat → Nat → Bool → Int × J1:=Classical.choose aDz
open Classical in
theorem RJ (x y : Nat) (i : Bool) : RK x y i = if i = true then (if zr1 x ∧ zr1 y then (0,(F1.zero,F1.zero,F1.zero)) else (44,(F1.zero,F1.zero,F1.zero))) else if ¬ (JJ x ∧ JJ y) then (21,(F1.zero,F1.zero,F1.zero)) else if F1.mul (m1 y) (m1 y) = F1.add (F1.mul (F1.mul (m1 x) (m1 x)) (m1 x)) (fm 3) then (0,(m1 x,m1 y,F1.one)) else (41,(F1.zero,F1.zero,F1.zero)):=Classical.choose_spec aDz x y i
theorem Rf (x y : Nat) : aW prog (qG prog) (fun _ => ⟨fun s => mF (bif Nat.beq s 28 then true else bif Nat.beq s 33 then true else true),fun s => false,fun _ => none⟩) f154 80 [.v (.fl (q1 x)),.v (.fl (q1 y)),.v (.im (.bool true))] = some ([aA (q1 x) ≠ aA (e1 F1.zero)],.many [.fl (bJ (F1.zero,F1.zero,F1.zero)),.im (.int .i64 44)]):=by kernel_rfl
theorem Re (x y : Nat) : aW prog (qG prog) (fun _ => ⟨fun s => mF (bif Nat.beq s 28 then true else bif Nat.beq s 33 then true else true),fun s => !(Nat.beq s 18),fun _ => none⟩) f154 80 [.v (.fl (q1 x)),.v (.fl (q1 y)),.v (.im (.bool true))] = some ([aA (q1 x) = aA (e1 F1.zero),aA (q1 y) ≠ aA (e1 F1.zero)],.many [.fl (bJ (F1.zero,F1.zero,F1.zero)),.im (.int .i64 44)]):=by kernel_rfl
theorem Rc (x y : Nat) : aW prog (qG prog) (fun _ => ⟨fun s => mF (bif Nat.beq s 28 then true else bif Nat.beq s 33 then true else true),fun s => true,fun _ => none⟩) f154 80 [.v (.fl (q1 x)),.v (.fl (q1 y)),.v (.im (.bool true))] = some ([aA (q1 x) = aA (e1 F1.zero),aA (q1 y) = aA (e1 F1.zero)],.many [.fl (bJ (F1.zero,F1.zero,F1.zero)),.im (.int .i64 0)]):=by kernel_rfl
theorem Rb (x y : Nat) : aW prog (qG prog) (fun _ => ⟨fun s => mF (bif Nat.beq s 28 then false else bif Nat.beq s 33 then true else true),fun s => true,fun _ => none⟩) f154 80 [.v (.fl (q1 x)),.v (.fl (q1 y)),.v (.im (.bool false))] = some ([¬ wv x < FP.M],.many [.fl (bJ (F1.zero,F1.zero,F1.zero)),.im (.int .i64 21)]):=by kernel_rfl
theorem Qz (x y : Nat) : aW prog (qG prog) (fun _ => ⟨fun s => mF (bif Nat.beq s 28 then true else bif Nat.beq s 33 then false else true),fun s => true,fun _ => none⟩) f154 80 [.v (.fl (q1 x)),.v (.fl (q1 y)),.v (.im (.bool false))] = some ([wv x < FP.M,¬ wv y < FP.M],.many [.fl (bJ (F1.zero,F1.zero,F1.zero)),.im (.int .i64 21)]):=by kernel_rfl
theorem Qy (x y : Nat) : aW prog (qG prog) (fun _ => ⟨fun s => mF (bif Nat.beq s 28 then true else bif Nat.beq s 33 then true else true),fun s => false,fun _ => none⟩) f154 80 [.v (.fl (q1 x)),.v (.fl (q1 y)),.v (.im (.bool false))] = some ([wv x < FP.M,wv y < FP.M,wv y < FP.M,wv y < FP.M,wv x < FP.M,wv x < FP.M,wv x < FP.M,aA (e1 (F1.mul (m1 y) (m1 y))) ≠ aA (e1 (F1.add (F1.mul (F1.mul (m1 x) (m1 x)) (m1 x)) (fm 3)))],.many [.fl (bJ (F1.zero,F1.zero,F1.zero)),.im (.int .i64 41)]):=by kernel_rfl
theorem Qx (x y : Nat) : aW prog (qG prog) (fun _ => ⟨fun s => mF (bif Nat.beq s 28 then true else bif Nat.beq s 33 then true else true),fun s => true,fun _ => none⟩) f154 80 [.v (.fl (q1 x)),.v (.fl (q1 y)),.v (.im (.bool false))] = some ([wv x < FP.M,wv y < FP.M,wv y < FP.M,wv y < FP.M,wv x < FP.M,wv x < FP.M,wv x < FP.M,aA (e1 (F1.mul (m1 y) (m1 y))) = aA (e1 (F1.add (F1.mul (F1.mul (m1 x) (m1 x)) (m1 x)) (fm 3)))],.many [.fl (q1 x ++ (q1 y ++ e1 F1.one)),.im (.int .i64 0)]):=by kernel_rfl
theorem aQd (x y : Nat) (i : Bool) (args : List Value) (w : World) (ha : bR w [.v (.fl (q1 x)),.v (.fl (q1 y)),.v (.im (.bool i))] args) : Good prog 154 (.many [.fl (bJ (RK x y i).2),.im (.int .i64 (RK x y i).1)]) args w:=by
 rw [RJ];cases i with
 | true =>
  rw [if_pos rfl]
  by_cases hx : zr1 x
  ·by_cases hy : zr1 y
   ·rw [if_pos ⟨hx,hy⟩];exact aB aG (fun _ s => kR _) (aK prog) func154 (Rc x y) ⟨EY.2 hx,EY.2 hy,trivial⟩ ha
   ·rw [if_neg (fun h => hy h.2)];exact aB aG (fun _ s => kR _) (aK prog) func154 (Re x y) ⟨EY.2 hx,fun h => hy (EY.1 h),trivial⟩ ha
  ·rw [if_neg (fun h => hx h.1)];exact aB aG (fun _ s => kR _) (aK prog) func154 (Rf x y) ⟨fun h => hx (EY.1 h),trivial⟩ ha
 | false =>
  rw [if_neg (by simp)]
  by_cases hx : JJ x
  ·by_cases hy : JJ y
   ·rw [if_neg (fun h => h ⟨hx,hy⟩)]
    by_cases h : F1.mul (m1 y) (m1 y) = F1.add (F1.mul (F1.mul (m1 x) (m1 x)) (m1 x)) (fm 3)
    ·rw [if_pos h];refine Good.congr (r:=.many [.fl (q1 x ++ (q1 y ++ e1 F1.one)),.im (.int .i64 0)]) ?_ ?_
     ·exact aB aG (fun _ s => kR _) (aK prog) func154 (Qx x y) ⟨hx,hy,hy,hy,hx,hx,hx,by rw [h],trivial⟩ ha
     ·have e : aA (q1 x ++ (q1 y ++ e1 F1.one)) = aA (bJ (m1 x,m1 y,F1.one)):=by
       rw [aP,aP,aKQ hx,aKQ hy];rfl
      show Value.tuple #[.agg (aA _).toArray,_] = .tuple #[.agg (aA _).toArray,_];rw [e]
    ·rw [if_neg h];exact aB aG (fun _ s => kR _) (aK prog) func154 (Qy x y) ⟨hx,hy,hy,hy,hx,hx,hx,qL h,trivial⟩ ha
   ·rw [if_pos (fun h => hy h.2)];exact aB aG (fun _ s => kR _) (aK prog) func154 (Qz x y) ⟨hx,hy,trivial⟩ ha
  ·rw [if_pos (fun h => hx h.1)];exact aB aG (fun _ s => kR _) (aK prog) func154 (Rb x y) ⟨hx,trivial⟩ ha
def aPb : lO
 | [.v (.fl l),.v (.fl m),.v (.im (.bool i))] => match ON l,ON m with
  | some x,some y => some ([],.many [.fl (bJ (RK x y i).2),.im (.int .i64 (RK x y i).1)])
  | _,_ => none
 | _ => none
theorem aIj : ∀ cs pre r,aPb cs = some (pre,r) → aY pre → ∀ (args : List Value) (w : World),bR w cs args → Good prog 154 r args w:=by
 intro cs pre r hg hp args w ha;unfold aPb at hg;split at hg
 ·rename_i l m i;split at hg
  ·rename_i x y hx hy;cases hg;refine aQd x y i args w ?_
   match args,ha with
   | [u,v,t],ha =>
    refine ⟨?_,?_,ha.2.2⟩
    ·show u = .agg (aA (q1 x)).toArray;rw [← gD l x hx]; exact ha.1
    ·show v = .agg (aA (q1 y)).toArray;rw [← gD m y hy]; exact ha.2.1
   | [],ha => exact ha.elim
   | [_],ha => exact ha.2.elim
   | [_,_],ha => exact ha.2.2.elim
   | _ :: _ :: _ :: _ :: _,ha => exact ha.2.2.2.elim
  ·cases hg
 ·cases hg
def aEt (d : Bool) : Tab:=(mF d).add 154 aPb
theorem aAP (d : Bool) : TabOk prog (aEt d):=(kR d).ad func154 aIj
abbrev nM:=Nat × Nat × Bool
def rC (p : nM) : List At:=[.q p.1,.q p.2.1,.c (.bool p.2.2)]
def rg1 : List At → Option nM
 | [a,b,.c (.bool i)] => match YH a,YH b with | some x,some y => some (x,y,i) | _,_ => none
 | _ => none
theorem mI {a : At} {x : Nat} (h : YH a = some x) : a.cells = w4 x:=by cases a <;> cases h <;> rfl
theorem EW : Rd rg1 rC:=fun l x h => by
 unfold rg1 at h;split at h
 ·split at h
  ·rename_i x y h1 h2;cases h;show _ ++ (_ ++ _) = w4 _ ++ (w4 _ ++ _);rw [mI h1,mI h2]
  ·cases h
 ·cases h
def uG {R : Type} : Pt R → Bool | none => true | some _ => false
def ptX {R : Type} (K : CR R) : Pt R → R | none => K.zero | some p => p.1
def ptY {R : Type} (K : CR R) : Pt R → R | none => K.zero | some p => p.2
def gC (p : Pt Fq) : List At:=[.f (ptX F1 p),.f (ptY F1 p),.c (.bool (uG p))]
theorem aFX (d : Bool) (p : nM) : aW prog (qG prog) (fun _ => ⟨fun s => aEt d,fun s => true,fun _ => none⟩) f99 80 [.v (.fl (rC p))] = some ([],.many [.fl (bJ (RK p.1 p.2.1 p.2.2).2),.im (.int .i64 (RK p.1 p.2.1 p.2.2).1)]):=by kernel_rfl
def aEm (d : Bool) : Tab:=(aEt d).add 99 (g1 rg1 fun p => ([],.many [.fl (bJ (RK p.1 p.2.1 p.2.2).2),.im (.int .i64 (RK p.1 p.2.1 p.2.2).1)]))
theorem aAK (d : Bool) : TabOk prog (aEm d):=(aAP d).ad func99 (bC EW fun p hp args w ha => aB aG (fun _ s => aAP _) (aK prog) func99 (aFX d p) trivial ha)
theorem aGc (d : Bool) (p : nM) : aW prog (qG prog) (fun _ => ⟨fun s => aEm d,fun s => true,fun _ => none⟩) f160 80 [.v (.fl (rC p))] = some ([],.one (.im (.int .i64 (RK p.1 p.2.1 p.2.2).1))):=by kernel_rfl
def Nu (d : Bool) : Tab:=(aEm d).add 160 (g1 rg1 fun p => ([],.one (.im (.int .i64 (RK p.1 p.2.1 p.2.2).1))))
theorem Ei (d : Bool) : TabOk prog (Nu d):=(aAK d).ad func160 (bC EW fun p hp args w ha => aB aG (fun _ s => aAK _) (aK prog) func160 (aGc d p) trivial ha)
theorem Co (p : J1) : aW prog (qG prog) (fun _ => ⟨fun s => Nu true,fun s => true,fun _ => none⟩) f100 80 [.v (.fl (bJ p))] = some ([p.2.2 = F1.zero],.one (.fl (gC none))):=by kernel_rfl
theorem Cp (p : J1) : aW prog (qG prog) (fun _ => ⟨fun s => Nu false,fun s => true,fun _ => none⟩) f100 80 [.v (.fl (bJ p))] = some ([p.2.2 ≠ F1.zero],.one (.fl (gC (some (F1.mul p.1 (F1.mul (cO p.2.2) (cO p.2.2)),F1.mul p.2.1 (F1.mul (F1.mul (cO p.2.2) (cO p.2.2)) (cO p.2.2))))))):=by kernel_rfl
theorem aGY (p : J1) (args : List Value) (w : World) (ha : bR w [.v (.fl (bJ p))] args) : Good prog 100 (.one (.fl (gC (fT F1 cO p)))) args w:=by
 by_cases h : p.2.2 = F1.zero
 ·rw [dE h];exact aB aG (fun _ s => Ei _) (aK prog) func100 (Co p) ⟨h,trivial⟩ ha
 ·rw [dR h];exact aB aG (fun _ s => Ei _) (aK prog) func100 (Cp p) ⟨h,trivial⟩ ha
def Ha (d : Bool) : Tab:=(Nu d).add 100 (g1 Sa fun p => ([],.one (.fl (gC (fT F1 cO p)))))
theorem Jy (d : Bool) : TabOk prog (Ha d):=(Ei d).ad func100 (bC mR fun p hp args w ha => aGY p args w ha)
def gH : List At:=[.c (.func (.func 99) #[] #[]),.c (.func (.func 100) #[] #[])]
theorem Yf (d : Bool) : aW prog (qG prog) (fun _ => ⟨fun s => Ha d,fun s => true,fun _ => none⟩) f47 80 [] = some ([],.one (.fl gH)):=by kernel_rfl
def qY (d : Bool) : Tab:=(Ha d).add 47 (g0 (.one (.fl gH)))
theorem nX (d : Bool) : TabOk prog (qY d):=(Jy d).ad func47 (jJ fun w => aB aG (fun _ s => Jy _) (aK prog) func47 (Yf d) trivial (args:=[]) trivial)
open Classical in
theorem aDw : ∃ g : N2 → N2 → Bool → Int × J2,∀ x y i,g x y i = if i = true then (if Uu x ∧ Uu y then (0,(F2.zero,F2.zero,F2.zero)) else (44,(F2.zero,F2.zero,F2.zero))) else if ¬ (JI x ∧ JI y) then (21,(F2.zero,F2.zero,F2.zero)) else if F2.mul (m2 y) (m2 y) = F2.add (F2.mul (F2.mul (m2 x) (m2 x)) (m2 x)) dF then (0,(m2 x,m2 y,F2.one)) else (41,(F2.zero,F2.zero,F2.zero)):=⟨_,fun _ _ _ => rfl⟩
def rM : N2 → N2 → Bool → Int × J2:=Classical.choose aDw
open Classical in
theorem ID (x y : N2) (i : Bool) : rM x y i = if i = true then (if Uu x ∧ Uu y then (0,(F2.zero,F2.zero,F2.zero)) else (44,(F2.zero,F2.zero,F2.zero))) else if ¬ (JI x ∧ JI y) then (21,(F2.zero,F2.zero,F2.zero)) else if F2.mul (m2 y) (m2 y) = F2.add (F2.mul (F2.mul (m2 x) (m2 x)) (m2 x)) dF then (0,(m2 x,m2 y,F2.one)) else (41,(F2.zero,F2.zero,F2.zero)):=Classical.choose_spec aDw x y i
theorem Qw (x y : N2) : aW prog (qG prog) (fun _ => ⟨fun s => qY (bif Nat.beq s 28 then true else bif Nat.beq s 33 then true else true),fun s => false,fun _ => none⟩) f157 80 [.v (.fl (q2 x)),.v (.fl (q2 y)),.v (.im (.bool true))] = some ([aA (q2 x) ≠ aA (e2 F2.zero)],.many [.fl (bI (F2.zero,F2.zero,F2.zero)),.im (.int .i64 44)]):=by kernel_rfl
theorem Qv (x y : N2) : aW prog (qG prog) (fun _ => ⟨fun s => qY (bif Nat.beq s 28 then true else bif Nat.beq s 33 then true else true),fun s => !(Nat.beq s 18),fun _ => none⟩) f157 80 [.v (.fl (q2 x)),.v (.fl (q2 y)),.v (.im (.bool true))] = some ([aA (q2 x) = aA (e2 F2.zero),aA (q2 y) ≠ aA (e2 F2.zero)],.many [.fl (bI (F2.zero,F2.zero,F2.zero)),.im (.int .i64 44)]):=by kernel_rfl
theorem Qu (x y : N2) : aW prog (qG prog) (fun _ => ⟨fun s => qY (bif Nat.beq s 28 then true else bif Nat.beq s 33 then true else true),fun s => true,fun _ => none⟩) f157 80 [.v (.fl (q2 x)),.v (.fl (q2 y)),.v (.im (.bool true))] = some ([aA (q2 x) = aA (e2 F2.zero),aA (q2 y) = aA (e2 F2.zero)],.many [.fl (bI (F2.zero,F2.zero,F2.zero)),.im (.int .i64 0)]):=by kernel_rfl
theorem Qt (x y : N2) : aW prog (qG prog) (fun _ => ⟨fun s => qY (bif Nat.beq s 28 then false else bif Nat.beq s 33 then true else true),fun s => true,fun _ => none⟩) f157 80 [.v (.fl (q2 x)),.v (.fl (q2 y)),.v (.im (.bool false))] = some ([¬ (wv x.1 < FP.M ∧ wv x.2 < FP.M)],.many [.fl (bI (F2.zero,F2.zero,F2.zero)),.im (.int .i64 21)]):=by kernel_rfl
theorem Qr (x y : N2) : aW prog (qG prog) (fun _ => ⟨fun s => qY (bif Nat.beq s 28 then true else bif Nat.beq s 33 then false else true),fun s => true,fun _ => none⟩) f157 80 [.v (.fl (q2 x)),.v (.fl (q2 y)),.v (.im (.bool false))] = some ([(wv x.1 < FP.M ∧ wv x.2 < FP.M),¬ (wv y.1 < FP.M ∧ wv y.2 < FP.M)],.many [.fl (bI (F2.zero,F2.zero,F2.zero)),.im (.int .i64 21)]):=by kernel_rfl
theorem Qq (x y : N2) : aW prog (qG prog) (fun _ => ⟨fun s => qY (bif Nat.beq s 28 then true else bif Nat.beq s 33 then true else true),fun s => false,fun _ => none⟩) f157 80 [.v (.fl (q2 x)),.v (.fl (q2 y)),.v (.im (.bool false))] = some ([(wv x.1 < FP.M ∧ wv x.2 < FP.M),(wv y.1 < FP.M ∧ wv y.2 < FP.M),aA (e2 (F2.mul (m2 y) (m2 y))) ≠ aA (e2 (F2.add (F2.mul (F2.mul (m2 x) (m2 x)) (m2 x)) dF))],.many [.fl (bI (F2.zero,F2.zero,F2.zero)),.im (.int .i64 41)]):=by kernel_rfl
theorem Qp (x y : N2) : aW prog (qG prog) (fun _ => ⟨fun s => qY (bif Nat.beq s 28 then true else bif Nat.beq s 33 then true else true),fun s => true,fun _ => none⟩) f157 80 [.v (.fl (q2 x)),.v (.fl (q2 y)),.v (.im (.bool false))] = some ([(wv x.1 < FP.M ∧ wv x.2 < FP.M),(wv y.1 < FP.M ∧ wv y.2 < FP.M),aA (e2 (F2.mul (m2 y) (m2 y))) = aA (e2 (F2.add (F2.mul (F2.mul (m2 x) (m2 x)) (m2 x)) dF))],.many [.fl (q2 x ++ (q2 y ++ e2 F2.one)),.im (.int .i64 0)]):=by kernel_rfl
theorem aQc (x y : N2) (i : Bool) (args : List Value) (w : World) (ha : bR w [.v (.fl (q2 x)),.v (.fl (q2 y)),.v (.im (.bool i))] args) : Good prog 157 (.many [.fl (bI (rM x y i).2),.im (.int .i64 (rM x y i).1)]) args w:=by
 rw [ID];cases i with
 | true =>
  rw [if_pos rfl]
  by_cases hx : Uu x
  ·by_cases hy : Uu y
   ·rw [if_pos ⟨hx,hy⟩];exact aB aG (fun _ s => nX _) (aK prog) func157 (Qu x y) ⟨wW.2 hx,wW.2 hy,trivial⟩ ha
   ·rw [if_neg (fun h => hy h.2)];exact aB aG (fun _ s => nX _) (aK prog) func157 (Qv x y) ⟨wW.2 hx,fun h => hy (wW.1 h),trivial⟩ ha
  ·rw [if_neg (fun h => hx h.1)];exact aB aG (fun _ s => nX _) (aK prog) func157 (Qw x y) ⟨fun h => hx (wW.1 h),trivial⟩ ha
 | false =>
  rw [if_neg (by simp)]
  by_cases hx : JI x
  ·by_cases hy : JI y
   ·rw [if_neg (fun h => h ⟨hx,hy⟩)]
    by_cases h : F2.mul (m2 y) (m2 y) = F2.add (F2.mul (F2.mul (m2 x) (m2 x)) (m2 x)) dF
    ·rw [if_pos h];refine Good.congr (r:=.many [.fl (q2 x ++ (q2 y ++ e2 F2.one)),.im (.int .i64 0)]) ?_ ?_
     ·exact aB aG (fun _ s => nX _) (aK prog) func157 (Qp x y) ⟨hx,hy,by rw [h],trivial⟩ ha
     ·have e : aA (q2 x ++ (q2 y ++ e2 F2.one)) = aA (bI (m2 x,m2 y,F2.one)):=by
       rw [aP,aP,aKP hx,aKP hy];rfl
      show Value.tuple #[.agg (aA _).toArray,_] = .tuple #[.agg (aA _).toArray,_];rw [e]
    ·rw [if_neg h];exact aB aG (fun _ s => nX _) (aK prog) func157 (Qq x y) ⟨hx,hy,nF h,trivial⟩ ha
   ·rw [if_pos (fun h => hy h.2)];exact aB aG (fun _ s => nX _) (aK prog) func157 (Qr x y) ⟨hx,hy,trivial⟩ ha
  ·rw [if_pos (fun h => hx h.1)];exact aB aG (fun _ s => nX _) (aK prog) func157 (Qt x y) ⟨hx,trivial⟩ ha
def aPa : lO
 | [.v (.fl l),.v (.fl m),.v (.im (.bool i))] => match rq2 l,rq2 m with
  | some x,some y => some ([],.many [.fl (bI (rM x y i).2),.im (.int .i64 (rM x y i).1)])
  | _,_ => none
 | _ => none
theorem aIi : ∀ cs pre r,aPa cs = some (pre,r) → aY pre → ∀ (args : List Value) (w : World),bR w cs args → Good prog 157 r args w:=by
 intro cs pre r hg hp args w ha;unfold aPa at hg;split at hg
 ·rename_i l m i;split at hg
  ·rename_i x y hx hy;cases hg;refine aQc x y i args w ?_
   match args,ha with
   | [u,v,t],ha =>
    refine ⟨?_,?_,ha.2.2⟩
    ·show u = .agg (aA (q2 x)).toArray;rw [← rV l x hx]; exact ha.1
    ·show v = .agg (aA (q2 y)).toArray;rw [← rV m y hy]; exact ha.2.1
   | [],ha => exact ha.elim
   | [_],ha => exact ha.2.elim
   | [_,_],ha => exact ha.2.2.elim
   | _ :: _ :: _ :: _ :: _,ha => exact ha.2.2.2.elim
  ·cases hg
 ·cases hg
def aEs (d : Bool) : Tab:=(qY d).add 157 aPa
theorem aAO (d : Bool) : TabOk prog (aEs d):=(nX d).ad func157 aIi
abbrev jP:=N2 × N2 × Bool
def jS (p : jP) : List At:=[.q p.1.1,.q p.1.2,.q p.2.1.1,.q p.2.1.2,.c (.bool p.2.2)]
def Yv : List At → Option jP
 | [a,b,c,d,.c (.bool i)] => match YH a,YH b,YH c,YH d with | some x,some y,some z,some w => some ((x,y),(z,w),i) | _,_,_,_ => none
 | _ => none
theorem qA : Rd Yv jS:=fun l x h => by
 unfold Yv at h;split at h
 ·split at h
  ·rename_i x y z w h1 h2 h3 h4;cases h;show _ ++ (_ ++ (_ ++ (_ ++ _))) = w4 _ ++ (w4 _ ++ (w4 _ ++ (w4 _ ++ _)));rw [mI h1,mI h2,mI h3,mI h4]
  ·cases h
 ·cases h
def eC (p : Pt Q2) : List At:=[.f (ptX F2 p).1,.f (ptX F2 p).2,.f (ptY F2 p).1,.f (ptY F2 p).2,.c (.bool (uG p))]
theorem aFW (d : Bool) (p : jP) : aW prog (qG prog) (fun _ => ⟨fun s => aEs d,fun s => true,fun _ => none⟩) f103 80 [.v (.fl (jS p))] = some ([],.many [.fl (bI (rM p.1 p.2.1 p.2.2).2),.im (.int .i64 (rM p.1 p.2.1 p.2.2).1)]):=by kernel_rfl
def aEl (d : Bool) : Tab:=(aEs d).add 103 (g1 Yv fun p => ([],.many [.fl (bI (rM p.1 p.2.1 p.2.2).2),.im (.int .i64 (rM p.1 p.2.1 p.2.2).1)]))
theorem aAJ (d : Bool) : TabOk prog (aEl d):=(aAO d).ad func103 (bC qA fun p hp args w ha => aB aG (fun _ s => aAO _) (aK prog) func103 (aFW d p) trivial ha)
theorem aGb (d : Bool) (p : jP) : aW prog (qG prog) (fun _ => ⟨fun s => aEl d,fun s => true,fun _ => none⟩) f161 80 [.v (.fl (jS p))] = some ([],.one (.im (.int .i64 (rM p.1 p.2.1 p.2.2).1))):=by kernel_rfl
def Nt (d : Bool) : Tab:=(aEl d).add 161 (g1 Yv fun p => ([],.one (.im (.int .i64 (rM p.1 p.2.1 p.2.2).1))))
theorem Eh (d : Bool) : TabOk prog (Nt d):=(aAJ d).ad func161 (bC qA fun p hp args w ha => aB aG (fun _ s => aAJ _) (aK prog) func161 (aGb d p) trivial ha)
theorem Cm (p : J2) : aW prog (qG prog) (fun _ => ⟨fun s => Nt true,fun s => true,fun _ => none⟩) f104 80 [.v (.fl (bI p))] = some ([p.2.2 = F2.zero],.one (.fl (eC none))):=by kernel_rfl
theorem Cn (p : J2) : aW prog (qG prog) (fun _ => ⟨fun s => Nt false,fun s => true,fun _ => none⟩) f104 80 [.v (.fl (bI p))] = some ([p.2.2 ≠ F2.zero],.one (.fl (eC (some (F2.mul p.1 (F2.mul (dT p.2.2) (dT p.2.2)),F2.mul p.2.1 (F2.mul (F2.mul (dT p.2.2) (dT p.2.2)) (dT p.2.2))))))):=by kernel_rfl
theorem aGX (p : J2) (args : List Value) (w : World) (ha : bR w [.v (.fl (bI p))] args) : Good prog 104 (.one (.fl (eC (fT F2 dT p)))) args w:=by
 by_cases h : p.2.2 = F2.zero
 ·rw [dE h];exact aB aG (fun _ s => Eh _) (aK prog) func104 (Cm p) ⟨h,trivial⟩ ha
 ·rw [dR h];exact aB aG (fun _ s => Eh _) (aK prog) func104 (Cn p) ⟨h,trivial⟩ ha
def SM (d : Bool) : Tab:=(Nt d).add 104 (g1 Rz fun p => ([],.one (.fl (eC (fT F2 dT p)))))
theorem PM (d : Bool) : TabOk prog (SM d):=(Eh d).ad func104 (bC mQ fun p hp args w ha => aGX p args w ha)
def fE : List At:=[.c (.func (.func 103) #[] #[]),.c (.func (.func 104) #[] #[])]
theorem Ye (d : Bool) : aW prog (qG prog) (fun _ => ⟨fun s => SM d,fun s => true,fun _ => none⟩) f49 80 [] = some ([],.one (.fl fE)):=by kernel_rfl
def qW (d : Bool) : Tab:=(SM d).add 49 (g0 (.one (.fl fE)))
theorem nW (d : Bool) : TabOk prog (qW d):=(PM d).ad func49 (jJ fun w => aB aG (fun _ s => PM _) (aK prog) func49 (Ye d) trivial (args:=[]) trivial)
theorem VL (d : Bool) (p : jP) : aW prog (qG prog) (fun _ => ⟨fun s => qW d,fun s => true,fun s => bif Nat.beq s 17 then some (.bool true) else none⟩) f218 80 [.v (.fl fE),.v (.fl (jS p))] = some ([aI .neq .i64 (rM p.1 p.2.1 p.2.2).1 0 = some (.bool true)],.many [.fl (eC (some (F2.zero,F2.zero))),.im (.int .i64 (rM p.1 p.2.1 p.2.2).1)]):=by kernel_rfl
theorem VM (d : Bool) (p : jP) : aW prog (qG prog) (fun _ => ⟨fun s => qW d,fun s => true,fun s => bif Nat.beq s 17 then some (.bool false) else none⟩) f218 80 [.v (.fl fE),.v (.fl (jS p))] = some ([aI .neq .i64 (rM p.1 p.2.1 p.2.2).1 0 = some (.bool false)],.many [.fl (eC (fT F2 dT (sI F2 (rM p.1 p.2.1 p.2.2).2))),.im (.int .i64 0)]):=by kernel_rfl
def xN (n : Nat) : Nat:=if wv n = 0 then 0 else Nat.log2 (wv n) + 1
theorem DA (n : Nat) : LenIs (wv n) (xN n):=by
 unfold xN
 by_cases h : wv n = 0
 ·rw [if_pos h,h]; exact ⟨by decide,fun h => by cases h⟩
 ·rw [if_neg h];exact ⟨Nat.lt_log2_self,fun _ => by rw [Nat.add_sub_cancel]; exact Nat.log2_self_le h⟩
theorem aJy (n : Nat) : wv n < 2 ^ 256:=by
 obtain ⟨h0,h1,h2,h3⟩:=dL n;unfold wv aF;have : (2 : Nat) ^ 256 = 115792089237316195423570985008687907853269984665640564039457584007913129639936:=by decide
 omega
theorem aHG (n : Nat) : xN n ≤ 256:=by
 rcases Nat.lt_or_ge 256 (xN n) with h | h
 ·have h1:=(DA n).2 (by omega);have h2:=Nat.pow_le_pow_right (show 0 < 2 by omega) (show 256 ≤ xN n - 1 by omega);have:=aJy n;omega
 ·exact h
def aIg : lO
 | [.v (.fl l)] => match ON l with
  | some n => some ([],.one (.im (.int .i64 (xN n : Nat))))
  | none => none
 | _ => none
theorem aBH : ∀ cs pre r,aIg cs = some (pre,r) → aY pre → ∀ (args : List Value) (w : World),bR w cs args → Good prog 260 r args w:=by
 intro cs pre r hg hp args w ha;unfold aIg at hg;split at hg
 ·rename_i l;split at hg
  ·rename_i n hn;cases hg;rw [BM ha,gD l _ hn];refine (zO _ _ _ _ (dL n) w).mono ?_
   rintro e w' ⟨L,rfl,_,h,hbl⟩
   cases h.uniq (DA n);exact ⟨rfl,hbl⟩
  ·cases hg
 ·cases hg
def aCw : lO
 | [.v (.fl l),.v (.im (.int .i64 (.ofNat i)))] => match ON l with
  | some n => some ([i < 256],.one (.im (.int .i64 (pP (wv n) i : Nat))))
  | none => none
 | _ => none
theorem aDR : ∀ cs pre r,aCw cs = some (pre,r) → aY pre → ∀ (args : List Value) (w : World),bR w cs args → Good prog 167 r args w:=by
 intro cs pre r hg hp args w ha;unfold aCw at hg;split at hg
 ·rename_i l i;split at hg
  ·rename_i n hn;cases hg
   match args,ha with
   | [v,u],ha =>
    have h1 : v = .agg (aA l).toArray:=ha.1;have h2 : u = .int .i64 (Int.ofNat i):=ha.2.1;rw [gD l _ hn] at h1;subst h1; subst h2;exact aDS _ _ _ _ i (dL n) hp.1 w
   | [],ha => exact ha.elim
   | [_],ha => exact ha.2.elim
   | _ :: _ :: _ :: _,ha => exact ha.2.2.elim
  ·cases hg
 ·cases hg
def aON : lO
 | [.v (.fl l),.v (.im (.int .i64 (.ofNat k)))] => match ON l with
  | some n => some ([k < 9223372036854775808],.one (.fl (q1 (wv n / 2 ^ k))))
  | none => none
 | _ => none
theorem aMy : ∀ cs pre r,aON cs = some (pre,r) → aY pre → ∀ (args : List Value) (w : World),bR w cs args → Good prog 254 r args w:=by
 intro cs pre r hg hp args w ha;unfold aON at hg;split at hg
 ·rename_i l k;split at hg
  ·rename_i n hn;cases hg
   match args,ha with
   | [v,u],ha =>
    have h1 : v = .agg (aA l).toArray:=ha.1;have h2 : u = .int .i64 (Int.ofNat k):=ha.2.1;rw [gD l _ hn] at h1;subst h1; subst h2;have hk : k < 9223372036854775808:=hp.1;refine (sZ _ _ _ _ (Int.ofNat k) (dL n) (by simp) (by simp; omega) w).mono ?_
    rintro e w' ⟨s0,s1,s2,s3,rfl,hs,hv,hb⟩
    have hlt : wv n / 2 ^ k < 115792089237316195423570985008687907853269984665640564039457584007913129639936:=by
     refine Nat.lt_of_le_of_lt (Nat.div_le_self _ _) ?_;have:=aJy n;have e : (2 : Nat) ^ 256 = 115792089237316195423570985008687907853269984665640564039457584007913129639936:=by decide
     omega
    obtain ⟨rfl,rfl,rfl,rfl⟩:=nZ hs hlt hv;exact ⟨rfl,hb⟩
   | [],ha => exact ha.elim
   | [_],ha => exact ha.2.elim
   | _ :: _ :: _ :: _,ha => exact ha.2.2.elim
  ·cases hg
 ·cases hg
def Ik (x : Nat) : Nat:=fw x 0 * 2 % 18446744073709551616
def lM (x p : Nat) : Nat:=(if p = 0 then Ik x else fw (wv x / 2 ^ (p * 4 - 1)) 0) % 32
def lN (x p : Nat) : Int:=((lM x p + 1) / 2 : Nat) - (if 16 ≤ lM x p then 16 else 0 : Int)
def fI (d : Bool) : Tab:=((SM d).add 260 aIg).add 254 aON
theorem jF (d : Bool) : TabOk prog (fI d):=((PM d).ad func260 aBH).ad func254 aMy
def dP (b o n m : Nat) : List At:=[.c (jW b o n m),.c (iI 4)]
def atX (old : Nat → Nat → List At → Prop) (x i w : Nat) : Ext :=
 { idx:=assoc [(13,i)],ld:=assoc [(14,[At.q x])],st:=fun _ => none,gen:=assoc [(17,uI (Ik x)),(32,uI 32),(34,uI w),(37,iI (w + 1)),(42,uI (w / 16)),(47,iI 16)],mks:=fun _ => none,ky:=fun _ => none,old:=old,T2:=Fr0 }
def atN (p w : Nat) (c0 c1 : Bool) (v : Int) : Nat → Option Value:=assoc [(19,.bool c0),(24,iI (p * 4)),(25,iI (p * 4 - 1)),(36,uI (w + 1)),(38,iI ((w + 1) / 2)),(43,.bool c1),(48,.int .i64 v)]
def nL (op : BinOp) (t : Nat) (x y : Operand) (v u r : Value) : Prop:=∀ w : World,(do eqGuard op t x y v u; binOp op t v u : Sem Value).run prog w = .ok r w
theorem Rm (old : Nat → Nat → List At → Prop) (b o n m i p x w : Nat) (v : Int) : aW prog (qX prog (atX old x i w)) (fun _ => ⟨fun s => fI true,fun s => true,atN p w true true v⟩) f234 80 [.v (.fl (dP b o n m)),.v (.im (iI i)),.v (.im (iI p))] = some ([Int.ofNat i = Int.ofNat i,i < n,old b (o + i * 4) [At.q x],cS [At.q x] = 4,nL .shl 22 (.tmp 16) (.const (.int .u64 1)) (.int .u64 (fw x 0 : Nat)) (.int .u64 1) (uI (Ik x)),aI .gtr .i64 (Int.ofNat p) 0 = some (.bool true),aI .mul .i64 (Int.ofNat p) (Int.ofNat 4) = some (iI (p * 4)),aI .sub .i64 (Int.ofNat (p * 4)) 1 = some (iI (p * 4 - 1)),p * 4 - 1 < 9223372036854775808,nL .shl 22 (.const (.int .u64 1)) (.tmp 31) (.int .u64 1) (.int .i64 (IntKind.i64.wrap (Int.ofNat 4 + 1))) (uI 32),nL .and 22 (.tmp 28) (.tmp 33) (.int .u64 (fw (wv x / 2 ^ (p * 4 - 1)) 0 : Nat)) (.int .u64 (IntKind.u64.wrap (Int.ofNat 32 - 1))) (uI w),aI .add .u64 (Int.ofNat w) 1 = some (uI (w + 1)),∀ W : World,(convert 22 3 (uI (w + 1))).run prog W = .ok (iI (w + 1)) W,aI .quo .i64 (Int.ofNat (w + 1)) 2 = some (iI ((w + 1) / 2)),nL .shr 22 (.tmp 39) (.tmp 41) (uI w) (iI 4) (uI (w / 16)),aI .eql .u64 (Int.ofNat (w / 16)) 1 = some (.bool true),nL .shl 3 (.const (.int .i64 1)) (.tmp 46) (.int .i64 1) (iI 4) (iI 16),aI .sub .i64 (Int.ofNat ((w + 1) / 2)) (Int.ofNat 16) = some (.int .i64 v)],.one (.im (.int .i64 v))):=by kernel_rfl
theorem Rq (old : Nat → Nat → List At → Prop) (b o n m i p x w : Nat) (v : Int) : aW prog (qX prog (atX old x i w)) (fun _ => ⟨fun s => fI true,fun s => true,atN p w true false v⟩) f234 80 [.v (.fl (dP b o n m)),.v (.im (iI i)),.v (.im (iI p))] = some ([Int.ofNat i = Int.ofNat i,i < n,old b (o + i * 4) [At.q x],cS [At.q x] = 4,nL .shl 22 (.tmp 16) (.const (.int .u64 1)) (.int .u64 (fw x 0 : Nat)) (.int .u64 1) (uI (Ik x)),aI .gtr .i64 (Int.ofNat p) 0 = some (.bool true),aI .mul .i64 (Int.ofNat p) (Int.ofNat 4) = some (iI (p * 4)),aI .sub .i64 (Int.ofNat (p * 4)) 1 = some (iI (p * 4 - 1)),p * 4 - 1 < 9223372036854775808,nL .shl 22 (.const (.int .u64 1)) (.tmp 31) (.int .u64 1) (.int .i64 (IntKind.i64.wrap (Int.ofNat 4 + 1))) (uI 32),nL .and 22 (.tmp 28) (.tmp 33) (.int .u64 (fw (wv x / 2 ^ (p * 4 - 1)) 0 : Nat)) (.int .u64 (IntKind.u64.wrap (Int.ofNat 32 - 1))) (uI w),aI .add .u64 (Int.ofNat w) 1 = some (uI (w + 1)),∀ W : World,(convert 22 3 (uI (w + 1))).run prog W = .ok (iI (w + 1)) W,aI .quo .i64 (Int.ofNat (w + 1)) 2 = some (iI ((w + 1) / 2)),nL .shr 22 (.tmp 39) (.tmp 41) (uI w) (iI 4) (uI (w / 16)),aI .eql .u64 (Int.ofNat (w / 16)) 1 = some (.bool false)],.one (.im (iI ((w + 1) / 2)))):=by kernel_rfl
theorem Rs (old : Nat → Nat → List At → Prop) (b o n m i p x w : Nat) (v : Int) : aW prog (qX prog (atX old x i w)) (fun _ => ⟨fun s => fI true,fun s => true,atN p w false true v⟩) f234 80 [.v (.fl (dP b o n m)),.v (.im (iI i)),.v (.im (iI p))] = some ([Int.ofNat i = Int.ofNat i,i < n,old b (o + i * 4) [At.q x],cS [At.q x] = 4,nL .shl 22 (.tmp 16) (.const (.int .u64 1)) (.int .u64 (fw x 0 : Nat)) (.int .u64 1) (uI (Ik x)),aI .gtr .i64 (Int.ofNat p) 0 = some (.bool false),nL .shl 22 (.const (.int .u64 1)) (.tmp 31) (.int .u64 1) (.int .i64 (IntKind.i64.wrap (Int.ofNat 4 + 1))) (uI 32),nL .and 22 (.tmp 28) (.tmp 33) (.int .u64 (Ik x : Nat)) (.int .u64 (IntKind.u64.wrap (Int.ofNat 32 - 1))) (uI w),aI .add .u64 (Int.ofNat w) 1 = some (uI (w + 1)),∀ W : World,(convert 22 3 (uI (w + 1))).run prog W = .ok (iI (w + 1)) W,aI .quo .i64 (Int.ofNat (w + 1)) 2 = some (iI ((w + 1) / 2)),nL .shr 22 (.tmp 39) (.tmp 41) (uI w) (iI 4) (uI (w / 16)),aI .eql .u64 (Int.ofNat (w / 16)) 1 = some (.bool true),nL .shl 3 (.const (.int .i64 1)) (.tmp 46) (.int .i64 1) (iI 4) (iI 16),aI .sub .i64 (Int.ofNat ((w + 1) / 2)) (Int.ofNat 16) = some (.int .i64 v)],.one (.im (.int .i64 v))):=by kernel_rfl
theorem Rt (old : Nat → Nat → List At → Prop) (b o n m i p x w : Nat) (v : Int) : aW prog (qX prog (atX old x i w)) (fun _ => ⟨fun s => fI true,fun s => true,atN p w false false v⟩) f234 80 [.v (.fl (dP b o n m)),.v (.im (iI i)),.v (.im (iI p))] = some ([Int.ofNat i = Int.ofNat i,i < n,old b (o + i * 4) [At.q x],cS [At.q x] = 4,nL .shl 22 (.tmp 16) (.const (.int .u64 1)) (.int .u64 (fw x 0 : Nat)) (.int .u64 1) (uI (Ik x)),aI .gtr .i64 (Int.ofNat p) 0 = some (.bool false),nL .shl 22 (.const (.int .u64 1)) (.tmp 31) (.int .u64 1) (.int .i64 (IntKind.i64.wrap (Int.ofNat 4 + 1))) (uI 32),nL .and 22 (.tmp 28) (.tmp 33) (.int .u64 (Ik x : Nat)) (.int .u64 (IntKind.u64.wrap (Int.ofNat 32 - 1))) (uI w),aI .add .u64 (Int.ofNat w) 1 = some (uI (w + 1)),∀ W : World,(convert 22 3 (uI (w + 1))).run prog W = .ok (iI (w + 1)) W,aI .quo .i64 (Int.ofNat (w + 1)) 2 = some (iI ((w + 1) / 2)),nL .shr 22 (.tmp 39) (.tmp 41) (uI w) (iI 4) (uI (w / 16)),aI .eql .u64 (Int.ofNat (w / 16)) 1 = some (.bool false)],.one (.im (iI ((w + 1) / 2)))):=by kernel_rfl
theorem Im (x : Nat) : nL .shl 22 (.tmp 16) (.const (.int .u64 1)) (.int .u64 (fw x 0 : Nat)) (.int .u64 1) (uI (Ik x)):=fun w => by
 have h:=(dL x).1;simp [eqGuard,binOp,go_sem,IntKind.wrap,IntKind.signed,uI,Ik]
theorem OC : nL .shl 22 (.const (.int .u64 1)) (.tmp 31) (.int .u64 1) (.int .i64 (IntKind.i64.wrap (Int.ofNat 4 + 1))) (uI 32):=fun w => by
 have e : IntKind.i64.wrap (Int.ofNat 4 + 1) = 5:=by decide
 rw [e];simp [eqGuard,binOp,go_sem,IntKind.wrap,uI]
theorem Wy : nL .shl 3 (.const (.int .i64 1)) (.tmp 46) (.int .i64 1) (iI 4) (iI 16):=fun w => by
 simp [eqGuard,binOp,go_sem,IntKind.wrap,iI]
theorem aJG (x : Nat) (h : x < 18446744073709551616) : nL .and 22 (.tmp 28) (.tmp 33) (.int .u64 (x : Nat)) (.int .u64 (IntKind.u64.wrap (Int.ofNat 32 - 1))) (uI (x % 32)):=fun w => by
 have e : IntKind.u64.wrap (Int.ofNat 32 - 1) = ((31 : Nat) : Int):=by decide
 rw [e];have h2:=bits_and_u64_nat x 31 h (by omega);have h3 : x &&& 31 = x % 32:=Nat.and_two_pow_sub_one_eq_mod x 5;rw [h3] at h2;simp [eqGuard,binOp,go_sem,uI];exact h2
theorem aMD (x : Nat) (h : x < 64) (W : World) : (convert 22 3 (uI x)).run prog W = .ok (iI x) W:=by
 have e : IntKind.i64.wrap (x : Int) = x:=xP (by omega);have e2 : (x : Int) % 18446744073709551616 = x:=by omega
 simp [convert,go_sem,uI,iI,e]
theorem aSB (x : Nat) (h : x < 32) : nL .shr 22 (.tmp 39) (.tmp 41) (uI x) (iI 4) (uI (x / 16)):=fun w => by
 simp [eqGuard,binOp,go_sem,uI,iI]
theorem Mq (x p : Nat) : lM x p < 32:=Nat.mod_lt _ (by omega)
theorem aTD (n : Nat) (h : n < 100) : aI .add .u64 (Int.ofNat n) 1 = some (uI (n + 1)):=by
 show some (Value.int .u64 (IntKind.u64.wrap ((n : Int) + 1))) = _;have e : IntKind.u64.wrap ((n : Int) + 1) = ((n + 1 : Nat) : Int):=by
  unfold IntKind.wrap;simp [IntKind.signed,IntKind.bits];omega
 rw [e]; rfl
theorem PP (k : IntKind) (n : Nat) : aI .eql k (Int.ofNat n) 1 = some (.bool (decide (n = 1))):=by
 show some (Value.bool ((n : Int) == 1)) = _
 by_cases h : n = 1
 ·subst h; rfl
 ·rw [decide_eq_false h,beq_eq_false_iff_ne.2 (by omega)]
theorem aDU {w0 : World} (b o n m i p x : Nat) (hx : oldOf w0 b (o + i * 4) [.q x]) (hi : i < n) (hp : p < 1152921504606846976) : Calls prog 234 #[.agg (aA (dP b o n m)).toArray,iI i,iI p] w0 (fun e w' => e = .returned (.int .i64 (lN x p)) ∧ Below w0.heap.size w0 w'):=by
 have hq : ∀ w,cK prog (qX prog (atX (oldOf w0) x i w)) w0.heap.size w0:=fun w => nR (jQ _) fun _ _ _ h => h
 have hT : ∀ n d : Nat,TabOkW prog (fI true) w0.heap.size w0:=fun _ _ => (jF true).w _ _
 have ha : bR w0 [.v (.fl (dP b o n m)),.v (.im (iI i)),.v (.im (iI p))] [.agg (aA (dP b o n m)).toArray,iI i,iI p]:=⟨rfl,rfl,rfl,trivial⟩;have hw:=Mq x p;have hfw:=(dL (wv x / 2 ^ (p * 4 - 1))).1;have hs : Ik x < 18446744073709551616:=Nat.mod_lt _ (by omega);have o1:=aTD (lM x p) (by omega);have o2:=aMD (lM x p + 1) (by omega);have o3 : aI .quo .i64 (Int.ofNat (lM x p + 1)) 2 = some (iI ((lM x p + 1) / 2)):=aJX (k:=2) (by omega) (by omega);have o4:=aSB (lM x p) hw;have hv : 16 ≤ lM x p → aI .sub .i64 (Int.ofNat ((lM x p + 1) / 2)) (Int.ofNat 16) = some (.int .i64 (lN x p)):=fun h => by
  show some (Value.int .i64 (IntKind.i64.wrap ((((lM x p + 1) / 2 : Nat) : Int) - 16))) = _;unfold lN;rw [if_pos h,IntKind.wrap_i64];congr 2;omega
 have hn : ¬ 16 ≤ lM x p → lN x p = Int.ofNat ((lM x p + 1) / 2):=fun h => by
  unfold lN;rw [if_neg h]; simp
 by_cases hp0 : p = 0
 ·have hd : lM x p = Ik x % 32:=by unfold lM; rw [if_pos hp0]
  have o5:=aJG (Ik x) hs;rw [← hd] at o5;have g0 : aI .gtr .i64 (Int.ofNat p) 0 = some (.bool false):=by rw [hp0]; rfl
  by_cases h16 : 16 ≤ lM x p
  ·exact bE aG hT (hq _) func234 (Rs (oldOf w0) b o n m i p x (lM x p) (lN x p)) ⟨rfl,hi,hx,rfl,Im x,g0,OC,o5,o1,o2,o3,o4,by rw [PP,decide_eq_true (by omega)],Wy,hv h16,trivial⟩ ha
  ·rw [hn h16];exact bE aG hT (hq _) func234 (Rt (oldOf w0) b o n m i p x (lM x p) 0) ⟨rfl,hi,hx,rfl,Im x,g0,OC,o5,o1,o2,o3,o4,by rw [PP,decide_eq_false (by omega)],trivial⟩ ha
 ·have hd : lM x p = fw (wv x / 2 ^ (p * 4 - 1)) 0 % 32:=by unfold lM; rw [if_neg hp0]
  have o5:=aJG _ hfw;rw [← hd] at o5;have g0 : aI .gtr .i64 (Int.ofNat p) 0 = some (.bool true):=by
   have:=AW (i:=p) (n:=0);rw [decide_eq_true (by omega)] at this;exact this
  have g1 : aI .mul .i64 (Int.ofNat p) (Int.ofNat 4) = some (iI (p * 4)):=aTE (by omega);have g2 : aI .sub .i64 (Int.ofNat (p * 4)) 1 = some (iI (p * 4 - 1)):=uK (k:=1) (by omega) (by omega)
  by_cases h16 : 16 ≤ lM x p
  ·exact bE aG hT (hq _) func234 (Rm (oldOf w0) b o n m i p x (lM x p) (lN x p)) ⟨rfl,hi,hx,rfl,Im x,g0,g1,g2,by omega,OC,o5,o1,o2,o3,o4,by rw [PP,decide_eq_true (by omega)],Wy,hv h16,trivial⟩ ha
  ·rw [hn h16];exact bE aG hT (hq _) func234 (Rq (oldOf w0) b o n m i p x (lM x p) 0) ⟨rfl,hi,hx,rfl,Im x,g0,g1,g2,by omega,OC,o5,o1,o2,o3,o4,by rw [PP,decide_eq_false (by omega)],trivial⟩ ha
def gAt (b o n m : Nat) (x : Nat → Nat) : lO
 | [.v (.fl [.c (.slice (some ⟨b',o',.none⟩) n' m'),.c (.int .i64 (.ofNat 4))]),.v (.im (.int .i64 (.ofNat i))),.v (.im (.int .i64 (.ofNat p)))] =>
  some ([b' = b,o' = o,n' = n,m' = m,i < n,p < 1152921504606846976],.one (.im (.int .i64 (lN (x i) p))))
 | _ => none
theorem aCx {w : World} {b o n m : Nat} {x : Nat → Nat} (hx : ∀ i,i < n → oldOf w b (o + i * 4) [.q (x i)]) : ∀ cs pre r,gAt b o n m x cs = some (pre,r) → aY pre → ∀ (args : List Value),bR w cs args → Good prog 234 r args w:=by
 intro cs pre r hg hp args ha;unfold gAt at hg;split at hg
 ·rename_i b' o' n' m' i p;cases hg;obtain ⟨rfl,rfl,rfl,rfl,hi,hpp,_⟩:=hp
  match args,ha with
  | [u,v,t],ha =>
   have h1 : u = .agg (aA (dP b' o' n' m')).toArray:=ha.1;have h2 : v = iI i:=ha.2.1;have h3 : t = iI p:=ha.2.2.1;subst h1; subst h2; subst h3;exact aDU b' o' n' m' i p (x i) (hx i hi) hi hpp
  | [],ha => exact ha.elim
  | [_],ha => exact ha.2.elim
  | [_,_],ha => exact ha.2.2.elim
  | _ :: _ :: _ :: _ :: _,ha => exact ha.2.2.2.elim
 ·cases hg
end Go.Proofs.YtglgakbkdjhojaaGreat.Ex
