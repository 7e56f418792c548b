/- Pl10 -/
import Derived.Test.YtglgakbkdjhojaaGreatPl09
import Derived.Test.YtglgakbkdjhojaaGreatPl02
import Derived.Test.YtglgakbkdjhojaaGreatPl07
import Derived.Test.YtglgakbkdjhojaaGreatPl03
import Derived.Test.YtglgakbkdjhojaaGreatPl04
import Derived.Test.YtglgakbkdjhojaaGreatPl06
import Derived.Test.YtglgakbkdjhojaaGreatProg
set_option maxRecDepth 100000
set_option linter.unusedVariables false
set_option linter.unusedSimpArgs false
noncomputable section
namespace Go.Proofs.YtglgakbkdjhojaaGreat.Ex
open Go.Proofs.Tryz
open Go.RowKit
def vp:At→Option (List Prop×Fq)
 | .f x=>some ([],x)
 | .q x=>some ([wv x<FP.M],m1 x)
 | .c _=>none
theorem YU {a:At} {p:List Prop} {x:Fq} (h:vp a=some (p,x)) (hp:bC p):∃n:Nat,aA [a]=aA (q1 n)∧m1 n=x∧wv n<FP.M:=by
 cases a with
 | f y=>cases h; exact⟨x.1,rfl,Vp x,by unfold wv; rw[cK x.2]; exact x.2⟩
 | q y=>cases h; exact⟨_,rfl,rfl,hp.1⟩
 | c v=>cases h
def g2p (op:Fq→Fq→RV):kC
 | [.v (.fl [a]),.v (.fl [b])]=>match vp a,vp b with
  | some (p,x),some (q,y)=>some (p++q,op x y)
  | _,_=>none
 | _=>none
theorem Pb {P:Program} {f:FuncId} {op:Fq→Fq→RV} (h:∀a b:Nat,wv a<FP.M→wv b<FP.M→∀args w,bZ w [.v (.fl (q1 a)),.v (.fl (q1 b))] args→Good P f (op (m1 a) (m1 b)) args w) :
  ∀cs pre r,g2p op cs=some (pre,r)→bC pre→∀(args:List Value) (w:World),bZ w cs args→Good P f r args w:=by
 intro cs pre r hg hp args w ha;unfold g2p at hg;split at hg
 ·rename_i a b;split at hg
  ·rename_i p x q y hx hy;cases hg;obtain⟨p1,p2⟩:=kB.1 hp;obtain⟨n,e1,rfl,hn⟩:=YU hx p1;obtain⟨m,e2,rfl,hm⟩:=YU hy p2;refine h n m hn hm args w ?_
   match args,ha with
   | [v,u],ha =>
    have h1:v=.agg (aA [a]).toArray:=ha.1;have h2:u=.agg (aA [b]).toArray:=ha.2.1;rw[e1]at h1;rw[e2]at h2;exact⟨h1,h2,trivial⟩
   | [],ha=>exact ha.elim
   | [_],ha=>exact ha.2.elim
   | _::_::_::_,ha=>exact ha.2.2.elim
  ·cases hg
 ·cases hg
def gF2 (op:Fq→Fq→Fq):kC
 | [.v (.im (.int .i64 (.ofNat 1))),.v (.fl [a]),.v (.fl [b])]=>match vp a,vp b with
  | some (p,x),some (q,y)=>some (p++q,.many [.fl (e1 (op x y)),.im (.int .i64 0)])
  | _,_=>none
 | _=>none
theorem Oz {f:FuncId} {op:Fq→Fq→Fq} (h:∀(a b:Nat) (w:World),wv a<FP.M→wv b<FP.M→Calls prog f #[.int .i64 1,.agg (aA (q1 a)).toArray,.agg (aA (q1 b)).toArray] w (Yu 0 (op (m1 a) (m1 b)).1 w)) :
  ∀cs pre r,gF2 op cs=some (pre,r)→bC pre→∀(args:List Value) (w:World),bZ w cs args→Good prog f r args w:=by
 intro cs pre r hg hp args w ha;unfold gF2 at hg;split at hg
 ·rename_i a b;split at hg
  ·rename_i p x q y hx hy;cases hg;obtain⟨p1,p2⟩:=kB.1 hp;obtain⟨n,e1,rfl,hn⟩:=YU hx p1;obtain⟨m,e2,rfl,hm⟩:=YU hy p2
   match args,ha with
   | [t,v,u],ha =>
    have h0:t=.int .i64 1:=ha.1;have h1:v=.agg (aA [a]).toArray:=ha.2.1;have h2:u=.agg (aA [b]).toArray:=ha.2.2.1;rw[e1]at h1;rw[e2]at h2;subst h0; subst h1; subst h2;refine (h n m w hn hm).mono ?_
    rintro e w' ⟨s0,s1,s2,s3,rfl,hs,hv,hb⟩
    obtain⟨rfl,rfl,rfl,rfl⟩:=oR hs (xN (op (m1 n) (m1 m)).2) hv;exact⟨rfl,hb⟩
   | [],ha=>exact ha.elim
   | [_],ha=>exact ha.2.elim
   | [_,_],ha=>exact ha.2.2.elim
   | _::_::_::_::_,ha=>exact ha.2.2.2.elim
  ·cases hg
 ·cases hg
theorem bDw (a b:Nat) (w:World) (ha:wv a<FP.M) (hb:wv b<FP.M):Calls prog 251 #[.int .i64 1,.agg (aA (q1 a)).toArray,.agg (aA (q1 b)).toArray] w (Yu 0 (F1.add (m1 a) (m1 b)).1 w):=by
 have e:(F1.add (m1 a) (m1 b)).1=(wv a+wv b)%FP.M:=(Nat.add_mod _ _ _).symm;rw[e];exact Wy 1 FP oT _ _ _ _ _ _ _ _ (cM a) (cM b) ha hb w
theorem bDv (a b:Nat) (w:World) (ha:wv a<FP.M) (hb:wv b<FP.M):Calls prog 252 #[.int .i64 1,.agg (aA (q1 a)).toArray,.agg (aA (q1 b)).toArray] w (Yu 0 (F1.mul (m1 a) (m1 b)).1 w):=by
 have e:(F1.mul (m1 a) (m1 b)).1=(wv a*wv b)%FP.M:=(Nat.mul_mod _ _ _).symm;rw[e];exact Wn 1 FP oT _ _ _ _ _ _ _ _ (cM a) (cM b) ha hb w
theorem bDu (a b:Nat) (w:World) (ha:wv a<FP.M) (hb:wv b<FP.M):Calls prog 250 #[.int .i64 1,.agg (aA (q1 a)).toArray,.agg (aA (q1 b)).toArray] w (Yu 0 (F1.sub (m1 a) (m1 b)).1 w):=by
 have e:(F1.sub (m1 a) (m1 b)).1=(wv a+FP.M-wv b)%FP.M:=by
  show (wv a%FP.M+(0+FP.M-wv b%FP.M)%FP.M)%FP.M=_;rw[Nat.mod_eq_of_lt ha,Nat.mod_eq_of_lt hb,Nat.add_mod_mod];congr 1;omega
 rw[e];exact Wh 1 FP oT _ _ _ _ _ _ _ _ (cM a) (cM b) ha hb w
def aXN (d:Bool):kC
 | [.v (.im (.int .i64 (.ofNat 1))),.v (.fl l)]=>match vZ l with
  | some x=>bif d then some ([wv x<FP.M],.one (.im (.int .i64 0)))else some ([¬wv x<FP.M],.one (.im (.int .i64 21)))
  | none=>none
 | _=>none
theorem aPh (d:Bool):∀cs pre r,aXN d cs=some (pre,r)→bC pre→∀(args:List Value) (w:World),bZ w cs args→Good prog 124 r args w:=by
 intro cs pre r hg hp args w ha;unfold aXN at hg;split at hg
 ·rename_i l;split at hg
  ·rename_i x hx
   match args,ha with
   | [v,u],ha =>
    have h1:v=.int .i64 1:=ha.1;have h2:u=.agg (aA l).toArray:=ha.2.1;rw[dG l x hx]at h2;subst h1; subst h2;cases d
    ·cases hg;exact MD 1 21 _ _ _ _ (cM x) (Or.inr ⟨FP,oT,hp.1,rfl⟩) w
    ·cases hg;exact RA 1 FP oT _ _ _ _ (cM x) hp.1 w
   | [],ha=>exact ha.elim
   | [_],ha=>exact ha.2.elim
   | _::_::_::_,ha=>exact ha.2.2.elim
  ·cases hg
 ·cases hg
def aKL (d:Bool):Tab:=(IJ true).add 251 (gF2 F1.add)
theorem aOi (d:Bool):TabOk prog (aKL d):=(KV true).ad func251 (Oz bDw)
def aKJ (d:Bool):Tab:=(aKL d).add 252 (gF2 F1.mul)
theorem aOg (d:Bool):TabOk prog (aKJ d):=(aOi d).ad func252 (Oz bDv)
def aKI (d:Bool):Tab:=(aKJ d).add 250 (gF2 F1.sub)
theorem aOf (d:Bool):TabOk prog (aKI d):=(aOg d).ad func250 (Oz bDu)
def Qx (d:Bool):Tab:=(aKI d).add 124 (aXN d)
theorem Ur (d:Bool):TabOk prog (Qx d):=(aOf d).ad func124 (aPh d)
theorem aFh (d:Bool) (x y:N2):bM prog (Qx d) qN (fun _=>true) f247 40 [.v (.fl (q2 x)),.v (.fl (q2 y))]=some ([],.one (.fl (e2 (F2.add (m2 x) (m2 y))))):=by kernel_rfl
def Rk (d:Bool):Tab:=(Qx d).add 247 (g2 zL zL (fun x y=>([],.one (.fl (e2 (F2.add x y))))))
theorem Vb (d:Bool):TabOk prog (Rk d):=(Ur d).ad func247 (gF dU dU fun x y hp args w ha=>aH aE (Ur d) aM func247 (aFh d x y) hp ha)
theorem aFc (d:Bool) (x y:N2):bM prog (Rk d) qN (fun _=>true) f215 40 [.v (.fl (q2 x)),.v (.fl (q2 y))]=some ([],.one (.fl (e2 (F2.sub (m2 x) (m2 y))))):=by kernel_rfl
def Re (d:Bool):Tab:=(Rk d).add 215 (g2 zL zL (fun x y=>([],.one (.fl (e2 (F2.sub x y))))))
theorem Uw (d:Bool):TabOk prog (Re d):=(Vb d).ad func215 (gF dU dU fun x y hp args w ha=>aH aE (Vb d) aM func215 (aFc d x y) hp ha)
theorem aBy (d:Bool) (x:N2):bM prog (Re d) qN (fun _=>true) f217 40 [.v (.fl (q2 x))]=some ([],.one (.fl (e2 (aL (m2 x))))):=by kernel_rfl
def YJ (d:Bool):Tab:=(Re d).add 217 (g1 zL (fun x=>([],.one (.fl (e2 (aL x))))))
theorem Fl (d:Bool):TabOk prog (YJ d):=(Uw d).ad func217 (gZ dU fun x hp args w ha=>aH aE (Uw d) aM func217 (aBy d x) hp ha)
theorem aAB (d:Bool) (x y:Nat):bM prog (YJ d) qN (fun _=>true) f295 40 [.v (.fl (q1 x)),.v (.fl (q1 y))]=some ([wv x<FP.M,wv y<FP.M],.one (.fl (e1 (F1.add (m1 x) (m1 y))))):=by kernel_rfl
def XI (d:Bool):Tab:=(YJ d).add 295 (g2p fun x y=>.one (.fl (e1 (F1.add x y))))
theorem Et (d:Bool):TabOk prog (XI d):=(Fl d).ad func295 (Pb fun x y hx hy args w ha=>aH aE (Fl d) aM func295 (aAB d x y) ⟨hx,hy,trivial⟩ ha)
theorem Jy (d:Bool) (x y:Nat):bM prog (XI d) qN (fun _=>true) f293 40 [.v (.fl (q1 x)),.v (.fl (q1 y))]=some ([wv x<FP.M,wv y<FP.M],.one (.fl (e1 (F1.sub (m1 x) (m1 y))))):=by kernel_rfl
def ND (d:Bool):Tab:=(XI d).add 293 (g2p fun x y=>.one (.fl (e1 (F1.sub x y))))
theorem PY (d:Bool):TabOk prog (ND d):=(Et d).ad func293 (Pb fun x y hx hy args w ha=>aH aE (Et d) aM func293 (Jy d x y) ⟨hx,hy,trivial⟩ ha)
theorem Jx (d:Bool) (x y:Nat):bM prog (ND d) qN (fun _=>true) f296 40 [.v (.fl (q1 x)),.v (.fl (q1 y))]=some ([wv x<FP.M,wv y<FP.M],.one (.fl (e1 (F1.mul (m1 x) (m1 y))))):=by kernel_rfl
def NC (d:Bool):Tab:=(ND d).add 296 (g2p fun x y=>.one (.fl (e1 (F1.mul x y))))
theorem PX (d:Bool):TabOk prog (NC d):=(PY d).ad func296 (Pb fun x y hx hy args w ha=>aH aE (PY d) aM func296 (Jx d x y) ⟨hx,hy,trivial⟩ ha)
theorem aED (d:Bool) (x:Nat):bM prog (NC d) qN (fun _=>true) f294 40 [.v (.fl (q1 x))]=some ([],.one (.fl (e1 F1.one))):=by kernel_rfl
def Qh (d:Bool):Tab:=(NC d).add 294 (g1 OG (fun x=>([],.one (.fl (e1 F1.one)))))
theorem Tz (d:Bool):TabOk prog (Qh d):=(PX d).ad func294 (gZ gL fun x hp args w ha=>aH aE (PX d) aM func294 (aED d x) hp ha)
theorem aEF (d:Bool) (x:Nat):bM prog (Qh d) qN (fun _=>true) f290 40 [.v (.fl (q1 x))]=some ([],.one (.fl (e1 (fm 3)))):=by kernel_rfl
def Qj (d:Bool):Tab:=(Qh d).add 290 (g1 OG (fun x=>([],.one (.fl (e1 (fm 3))))))
theorem Ub (d:Bool):TabOk prog (Qj d):=(Tz d).ad func290 (gZ gL fun x hp args w ha=>aH aE (Tz d) aM func290 (aEF d x) hp ha)
theorem aEE (d:Bool) (x:Fq):bM prog (Qj d) qN (fun _=>true) f291 40 [.v (.fl (e1 x))]=some ([x≠F1.zero],.one (.fl (e1 (cF x)))):=by kernel_rfl
def XJ (d:Bool):Tab:=(Qj d).add 291 (g1 Sy (fun x=>([x≠F1.zero],.one (.fl (e1 (cF x))))))
theorem UJ (d:Bool):TabOk prog (XJ d):=(Ub d).ad func291 (bP nB fun x hp args w ha=>aH aE (Ub d) aM func291 (aEE d x) hp ha)
theorem Jz (x:Nat):bM prog (XJ true) qN (fun _=>true) f292 40 [.v (.fl (q1 x))]=some ([wv x<FP.M],.one (.im (.bool true))):=by kernel_rfl
theorem Ka (x:Nat):bM prog (XJ false) qN (fun _=>true) f292 40 [.v (.fl (q1 x))]=some ([¬wv x<FP.M],.one (.im (.bool false))):=by kernel_rfl
def aWt (d:Bool) (x:Nat):List Prop×RV:=bif d then ([wv x<FP.M],.one (.im (.bool true)))else ([¬wv x<FP.M],.one (.im (.bool false)))
theorem aOl (d:Bool) (x:Nat) (hp:bC (aWt d x).1) (args:List Value) (w:World) (ha:bZ w [.v (.fl (q1 x))] args):Good prog 292 (aWt d x).2 args w:=by
 cases d
 ·exact aH aE (UJ false) aM func292 (Ka x) hp ha
 ·exact aH aE (UJ true) aM func292 (Jz x) hp ha
def Qi (d:Bool):Tab:=(XJ d).add 292 (g1 vZ (aWt d))
theorem Ua (d:Bool):TabOk prog (Qi d):=(UJ d).ad func292 (bP dG fun x hp args w ha=>aOl d x hp args w ha)
theorem aAN (d:Bool) (x y:N2):bM prog (Qi d) qN (fun _=>true) f302 40 [.v (.fl (q2 x)),.v (.fl (q2 y))]=some ([],.one (.fl (e2 (F2.add (m2 x) (m2 y))))):=by kernel_rfl
def YA (d:Bool):Tab:=(Qi d).add 302 (g2 zL zL (fun x y=>([],.one (.fl (e2 (F2.add x y))))))
theorem Ff (d:Bool):TabOk prog (YA d):=(Ua d).ad func302 (gF dU dU fun x y hp args w ha=>aH aE (Ua d) aM func302 (aAN d x y) hp ha)
theorem Le (d:Bool) (x y:N2):bM prog (YA d) qN (fun _=>true) f300 40 [.v (.fl (q2 x)),.v (.fl (q2 y))]=some ([],.one (.fl (e2 (F2.sub (m2 x) (m2 y))))):=by kernel_rfl
def NL (d:Bool):Tab:=(YA d).add 300 (g2 zL zL (fun x y=>([],.one (.fl (e2 (F2.sub x y))))))
theorem QG (d:Bool):TabOk prog (NL d):=(Ff d).ad func300 (gF dU dU fun x y hp args w ha=>aH aE (Ff d) aM func300 (Le d x y) hp ha)
theorem Ld (d:Bool) (x y:N2):bM prog (NL d) qN (fun _=>true) f303 40 [.v (.fl (q2 x)),.v (.fl (q2 y))]=some ([],.one (.fl (e2 (F2.mul (m2 x) (m2 y))))):=by kernel_rfl
def NK (d:Bool):Tab:=(NL d).add 303 (g2 zL zL (fun x y=>([],.one (.fl (e2 (F2.mul x y))))))
theorem QF (d:Bool):TabOk prog (NK d):=(QG d).ad func303 (gF dU dU fun x y hp args w ha=>aH aE (QG d) aM func303 (Ld d x y) hp ha)
theorem aEN (d:Bool) (x:N2):bM prog (NK d) qN (fun _=>true) f301 40 [.v (.fl (q2 x))]=some ([],.one (.fl (e2 F2.one))):=by kernel_rfl
def Qp (d:Bool):Tab:=(NK d).add 301 (g1 zL (fun x=>([],.one (.fl (e2 F2.one)))))
theorem Uj (d:Bool):TabOk prog (Qp d):=(QF d).ad func301 (gZ dU fun x hp args w ha=>aH aE (QF d) aM func301 (aEN d x) hp ha)
def dO:Q2:=(⟨19485874751759354771024239261021720505790618469301721065564631296452457478373,by decide⟩,⟨266929791119991161246907387137283842545076965332900288569378510910307636690,by decide⟩)
theorem aEP (d:Bool) (x:N2):bM prog (Qp d) qN (fun _=>true) f297 40 [.v (.fl (q2 x))]=some ([],.one (.fl (e2 dO))):=by kernel_rfl
def Qq (d:Bool):Tab:=(Qp d).add 297 (g1 zL (fun x=>([],.one (.fl (e2 dO)))))
theorem Uk (d:Bool):TabOk prog (Qq d):=(Uj d).ad func297 (gZ dU fun x hp args w ha=>aH aE (Uj d) aM func297 (aEP d x) hp ha)
theorem aEO (d:Bool) (x:N2):bM prog (Qq d) qN (fun _=>true) f298 40 [.v (.fl (q2 x))]=some ([qC (m2 x)≠F1.zero],.one (.fl (e2 (eD (m2 x))))):=by kernel_rfl
def NM (d:Bool):Tab:=(Qq d).add 298 (g1 zL (fun x=>([qC x≠F1.zero],.one (.fl (e2 (eD x))))))
theorem GN (d:Bool):TabOk prog (NM d):=(Uk d).ad func298 (gZ dU fun x hp args w ha=>aH aE (Uk d) aM func298 (aEO d x) hp ha)
theorem Lf (x:N2):bM prog (NM true) qN (fun _=>true) f299 40 [.v (.fl (q2 x))]=some ([wv x.1<FP.M,wv x.2<FP.M],.one (.im (.bool true))):=by kernel_rfl
theorem Lh (x:N2):bM prog (NM false) qN (fun _=>true) f299 40 [.v (.fl (q2 x))]=some ([¬wv x.1<FP.M],.one (.im (.bool false))):=by kernel_rfl
theorem Lg (x:N2):aO prog qN (fun _=>⟨fun s=>NM (bif Nat.beq s 9 then false else true),fun _=>true,fun _=>none⟩) f299 40 [.v (.fl (q2 x))]=some ([wv x.1<FP.M,¬wv x.2<FP.M],.one (.im (.bool false))):=by kernel_rfl
def aHb (d:Bool) (x:N2):List Prop×RV:=bif d then ([wv x.1<FP.M∧wv x.2<FP.M],.one (.im (.bool true)))else ([¬(wv x.1<FP.M∧wv x.2<FP.M)],.one (.im (.bool false)))
theorem aHa (d:Bool) (x:N2) (hp:bC (aHb d x).1) (args:List Value) (w:World) (ha:bZ w [.v (.fl (q2 x))] args):Good prog 299 (aHb d x).2 args w:=by
 cases d
 ·have h1:¬(wv x.1<FP.M∧wv x.2<FP.M):=hp.1
  by_cases h:wv x.1<FP.M
  ·exact aB aE (fun _ s=>GN _) aM func299 (Lg x) ⟨h,fun e=>h1 ⟨h,e⟩,trivial⟩ ha
  ·exact aH aE (GN false) aM func299 (Lh x) ⟨h,trivial⟩ ha
 ·have h1:wv x.1<FP.M∧wv x.2<FP.M:=hp.1;exact aH aE (GN true) aM func299 (Lf x) ⟨h1.1,h1.2,trivial⟩ ha
def YB (d:Bool):Tab:=(NM d).add 299 (g1 rq2 (aHb d))
theorem UO (d:Bool):TabOk prog (YB d):=(GN d).ad func299 (bP pU fun x hp args w ha=>aHa d x hp args w ha)
theorem pF {a b:aQ} (ha:a≠aF.zero) (hb:b≠aF.zero):aF.mul a b≠aF.zero:=fun e=>hb (lK.zd e ha)
theorem aRx {a:aQ} (h:a≠aF.zero):xD a≠F1.zero:=fun e=>h (wM e)
theorem kU {a:aQ} (h:a≠aF.zero):aF.mul a (lZ a)=aF.one:=YL (aRx h)
theorem VN {a k:aQ} (ha:a≠aF.zero) (h:aF.mul a k=aF.one):lZ a=k:=by
 have e:aF.mul (aF.mul (lZ a) a) k=lZ a:=by rw[aF.mul_assoc,h,aF.mul_comm,aF.one_mul]
 rw[aF.mul_comm (lZ a),kU ha,aF.one_mul]at e;exact e.symm
theorem wQ {R:Type} (K:CR R) (a b c d:R):K.mul (K.mul a b) (K.mul c d)=K.mul (K.mul a c) (K.mul b d):=by
 rw[K.mul_assoc,K.mul_left_comm b c d,←K.mul_assoc]
theorem aWU {a b:aQ} (ha:a≠aF.zero) (hb:b≠aF.zero):lZ (aF.mul a b)=aF.mul (lZ a) (lZ b) :=
 VN (pF ha hb) (by rw[wQ,kU ha,kU hb,aF.one_mul])
theorem aYl {a b:aQ} (ha:a≠aF.zero) (hb:b≠aF.zero):eZ (aF.mul a b)=aF.mul (eZ a) (eZ b):=by
 unfold eZ;rw[MN,aWU ha hb,wQ aF (cO a),qW,wQ]
theorem aXl (a b:aQ):hX (aF.mul a b)=aF.mul (hX a) (hX b):=by rw[EV,EV,EV,nQ]
theorem dZ {a b:aQ} (ha:a≠aF.zero) (hb:b≠aF.zero):lY (aF.mul a b)=aF.mul (lY a) (lY b):=by
 unfold lY;rw[aYl ha hb,aXl]
theorem aIo:hX aF.one=aF.one:=by rw[EV,nP]
theorem aDF:cW aF.one=aF.one:=by decide
theorem AQ {a:aQ} (h:cO a=a) (ha:a≠aF.zero):lY a=aF.one:=by
 unfold lY eZ;rw[h,kU ha,aDF,aF.one_mul,aIo]
theorem GT:lY aF.one=aF.one:=AQ (by decide) lK.1
def eQ (z:Q2):aQ:=((z,F2.zero,F2.zero),F6.zero)
def eP (a:Fq):aQ:=eQ (i2 a)
def NZ:aQ:=aF.mul wE wE
def yT:aQ:=aF.mul NZ wE
theorem aXf (a b:Fq):i2 (F1.add a b)=F2.add (i2 a) (i2 b):=Prod.ext rfl (F1.add_zero F1.zero).symm
theorem z2a:F2.add F2.zero F2.zero=F2.zero:=by decide
theorem z6a:F6.add F6.zero F6.zero=F6.zero:=by decide
theorem DO (x y:Q2):eQ (F2.add x y)=aF.add (eQ x) (eQ y):=by
 refine Prod.ext (Prod.ext rfl (Prod.ext z2a.symm z2a.symm)) z6a.symm
theorem qL (x y:Q2):eQ (F2.mul x y)=aF.mul (eQ x) (eQ y):=by
 rw[pQ];unfold eQ;simp only[show F6.zero=(F2.zero,F2.zero,F2.zero)from rfl,F2.mul_zero,F2.zero_mul,F2.add_zero,F2.zero_add]
theorem WG (a b:Fq):eP (F1.add a b)=aF.add (eP a) (eP b):=by unfold eP; rw[aXf,DO]
theorem vG (a b:Fq):eP (F1.mul a b)=aF.mul (eP a) (eP b):=by unfold eP; rw[Ov,qL]
theorem Xe:eQ F2.zero=aF.zero:=rfl
theorem aPy:eP F1.zero=aF.zero:=rfl
theorem Cub.map {R S:Type} {K:CR R} {L:CR S} (φ:R→S) (ha:∀a b,φ (K.add a b)=L.add (φ a) (φ b)) (hm:∀a b,φ (K.mul a b)=L.mul (φ a) (φ b)) (h0:φ K.zero=L.zero) {b a1 a2 a3 n c:R} (h:Cub K b a1 a2 a3 n c):Cub L (φ b) (φ a1) (φ a2) (φ a3) (φ n) (φ c):=by
 refine⟨?_,?_,?_⟩
 ·rw[←ha,←ha,←hm,h.s1]
 ·rw[←hm,←hm,←hm,←hm,←ha,←ha,←ha,←ha,h.s2,h0]
 ·rw[←hm,←hm,←ha,←hm,h.s3]
theorem Pz:aF.mul (eQ dO) (aF.mul yT yT)=eP (fm 3):=by decide
theorem aTf:NZ=((F2.zero,F2.one,F2.zero),F6.zero):=by decide
theorem aTe:yT=(F6.zero,(F2.zero,F2.one,F2.zero)):=by decide
theorem z6e:F6.zero=(F2.zero,F2.zero,F2.zero):=rfl
theorem bGO (z:Q2):aF.mul (eQ z) wE=(F6.zero,(z,F2.zero,F2.zero)):=by
 rw[pQ];unfold eQ wE;simp only[show F6.one=(F2.one,F2.zero,F2.zero)from rfl,z6e,F2.mul_zero,F2.zero_mul,F2.add_zero,F2.zero_add,F2.mul_one]
theorem aRZ (z:Q2):aF.mul (eQ z) NZ=((F2.zero,z,F2.zero),F6.zero):=by
 rw[pQ,aTf];unfold eQ;simp only[z6e,F2.mul_zero,F2.zero_mul,F2.add_zero,F2.zero_add,F2.mul_one]
theorem aRY (z:Q2):aF.mul (eQ z) yT=(F6.zero,(F2.zero,z,F2.zero)):=by
 rw[pQ,aTe];unfold eQ;simp only[z6e,F2.mul_zero,F2.zero_mul,F2.add_zero,F2.zero_add,F2.mul_one]
theorem bDH (z y:Q2):aF.mul (aF.mul (eQ z) wE) (eQ y)=(F6.zero,(F2.mul z y,F2.zero,F2.zero)):=by
 rw[aF.mul_comm,←aF.mul_assoc,←qL,bGO,F2.mul_comm]
theorem yH:F2.neg F2.zero=F2.zero:=bU F2
theorem GR (x:aQ):aF.neg x=((F2.neg x.1.1,F2.neg x.1.2.1,F2.neg x.1.2.2),(F2.neg x.2.1,F2.neg x.2.2.1,F2.neg x.2.2.2)):=rfl
theorem BI (x y:aQ):aF.add x y=((F2.add x.1.1 y.1.1,F2.add x.1.2.1 y.1.2.1,F2.add x.1.2.2 y.1.2.2),(F2.add x.2.1 y.2.1,F2.add x.2.2.1 y.2.2.1,F2.add x.2.2.2 y.2.2.2)):=rfl
theorem SV (x y:aQ):aF.sub x y=aF.add x (aF.neg y):=rfl
def lT (m d:Q2) (a b:Fq):aQ:=((i2 b,F2.zero,F2.zero),(F2.neg (F2.mul m (i2 a)),F2.neg d,F2.zero))
def lP (n c:Fq) (x y:Q2):aQ:=((F2.neg (i2 c),F2.neg (F2.mul (i2 n) x),F2.zero),(F2.zero,y,F2.zero))
def vP (a:Fq) (x:Q2):aQ:=((F2.neg (i2 a),x,F2.zero),F6.zero)
theorem QT (m d:Q2) (a b:Fq):lT m d a b=aF.sub (eP b) (aF.add (aF.mul (aF.mul (eQ m) wE) (eP a)) (aF.mul (eQ d) yT)):=by
 unfold eP;rw[bDH,aRY,SV,GR,BI,BI];unfold lT eQ;simp only[z6e,F2.add_zero,F2.zero_add,yH]
theorem Fy (n c:Fq) (x y:Q2):lP n c x y=aF.sub (aF.mul (eQ y) yT) (aF.add (aF.mul (eP n) (aF.mul (eQ x) NZ)) (eP c)):=by
 unfold eP;rw[←aF.mul_assoc,←qL,aRZ,aRY,SV,GR,BI,BI];unfold lP eQ;simp only[z6e,F2.add_zero,F2.zero_add,yH]
theorem IW (a:Fq) (x:Q2):vP a x=aF.sub (aF.mul (eQ x) NZ) (eP a):=by
 unfold eP;rw[aRZ,SV,GR,BI];unfold vP eQ;simp only[z6e,F2.add_zero,F2.zero_add,yH]
theorem tQ {m d:Q2} {a b:Fq} (h:b≠F1.zero):lT m d a b≠aF.zero:=fun e=>h (congrArg (fun z:aQ=>z.1.1.1) e)
theorem uZ {n c:Fq} {x y:Q2} (h:y≠F2.zero):lP n c x y≠aF.zero:=fun e=>h (congrArg (fun z:aQ=>z.2.2.1) e)
theorem nH {a:Fq} {x:Q2} (h:a≠F1.zero):vP a x≠aF.zero:=fun e=>h (by
 have h1:F1.neg a=F1.zero:=congrArg (fun z:aQ=>z.1.1.1) e;rw[←F1.neg_neg a,h1,bU])
theorem bAI (a:Fq) (x:Q2):cO (vP a x)=vP a x:=Prod.ext rfl (by show F6.sub F6.zero F6.zero=F6.zero; decide)
theorem wN {a:aQ} (h:a≠aF.zero):aF.neg a≠aF.zero:=fun e=>h (by rw[←aF.neg_neg a,e,bU])
theorem sT {a:aQ} (h:a≠aF.zero):lY (aF.neg a)=lY a:=by
 have e:aF.neg a=aF.mul (aF.neg aF.one) a:=by rw[aF.neg_mul,aF.one_mul]
 rw[e,dZ (wN lK.1) h,AQ (by decide) (wN lK.1),aF.one_mul]
theorem yJ {a:Fq} {x:Q2} (h:a≠F1.zero):lY (vP a x)=aF.one:=AQ (bAI a x) (nH h)
section
variable {a1 a2 a3 b1 b2 b3 n c:Fq} {x1 x2 x3 y1 y2 y3 m d:Q2}
theorem bDR (h:Cub F1 (fm 3) a1 a2 a3 n c):Cub aF (eP (fm 3)) (eP a1) (eP a2) (eP a3) (eP n) (eP c):=h.map eP WG vG aPy
theorem bDQ (h:Cub F2 dO x1 x2 x3 m d):Cub aF (eP (fm 3)) (aF.mul (eQ x1) NZ) (aF.mul (eQ x2) NZ) (aF.mul (eQ x3) NZ) (aF.mul (eQ m) wE) (aF.mul (eQ d) yT):=by
 have g:=(h.map eQ DO qL Xe).scale wE;rw[←Pz];exact g
theorem aWb {R:Type} (K:CR R) (M X D w:R):K.mul (K.add (K.mul M X) D) (K.mul (K.mul w w) w)=K.add (K.mul (K.mul M w) (K.mul X (K.mul w w))) (K.mul D (K.mul (K.mul w w) w)) :=
 aG K (aV K [M,X,D,w]) ((Z0*Z1+Z2)*(Z3*Z3*Z3)) (Z0*Z3*(Z1*(Z3*Z3))+Z2*(Z3*Z3*Z3)) (by kernel_rfl)
theorem bCW {R:Type} (K:CR R) (X B w:R):K.mul (K.add (K.mul X (K.mul X X)) B) (K.mul (K.mul (K.mul w w) w) (K.mul (K.mul w w) w))=K.add (K.mul (K.mul X (K.mul w w)) (K.mul (K.mul X (K.mul w w)) (K.mul X (K.mul w w)))) (K.mul B (K.mul (K.mul (K.mul w w) w) (K.mul (K.mul w w) w))) :=
 aG K (aV K [X,B,w]) ((Z0*(Z0*Z0)+Z1)*(Z2*Z2*Z2*(Z2*Z2*Z2))) (Z0*(Z2*Z2)*(Z0*(Z2*Z2)*(Z0*(Z2*Z2)))+Z1*(Z2*Z2*Z2*(Z2*Z2*Z2))) (by kernel_rfl)
theorem aXj (X B:aQ):aF.mul (aF.add (aF.mul X (aF.mul X X)) B) (aF.mul yT yT)=aF.add (aF.mul (aF.mul X NZ) (aF.mul (aF.mul X NZ) (aF.mul X NZ))) (aF.mul B (aF.mul yT yT)):=by
 unfold yT NZ;exact bCW aF X B wE
theorem aUa {R:Type} (K:CR R) (z w:R):K.sub z w=K.neg (K.sub w z):=aG K (aV K [z,w]) (Z0-Z1) (-(Z1-Z0)) (by kernel_rfl)
theorem onT {x y:Q2} (h:y=F2.add (F2.mul m x) d):aF.mul (eQ y) yT=aF.add (aF.mul (aF.mul (eQ m) wE) (aF.mul (eQ x) NZ)) (aF.mul (eQ d) yT):=by
 rw[h,DO,qL];exact aWb aF (eQ m) (eQ x) (eQ d) wE
theorem onP {a b:Fq} (h:b=F1.add (F1.mul n a) c):eP b=aF.add (aF.mul (eP n) (eP a)) (eP c):=by rw[h,WG,vG]
theorem aMN (h:Cub F1 (fm 3) a1 a2 a3 n c) (g:Cub F2 dO x1 x2 x3 m d) (h1:b1=F1.add (F1.mul n a1) c) (h2:b2=F1.add (F1.mul n a2) c) (h3:b3=F1.add (F1.mul n a3) c)
  (g1:y1=F2.add (F2.mul m x1) d) (g2:y2=F2.add (F2.mul m x2) d) (g3:y3=F2.add (F2.mul m x3) d) :
  aF.mul (lT m d a1 b1) (aF.mul (lT m d a2 b2) (lT m d a3 b3))=aF.neg (aF.mul (lP n c x1 y1) (aF.mul (lP n c x2 y2) (lP n c x3 y3))):=by
 have r:=bBm (bDR h) (bDQ g);rw[←onP h1,←onP h2,←onP h3,←onT g1,←onT g2,←onT g3,←QT,←QT,←QT,←Fy,←Fy,←Fy]at r;exact r
theorem aCl (h:Cub F1 (fm 3) a1 a2 a3 n c) (g:Cub F2 dO x1 x2 x3 m d) (h1:b1=F1.add (F1.mul n a1) c) (h2:b2=F1.add (F1.mul n a2) c) (h3:b3=F1.add (F1.mul n a3) c)
  (g1:y1=F2.add (F2.mul m x1) d) (g2:y2=F2.add (F2.mul m x2) d) (g3:y3=F2.add (F2.mul m x3) d)
  (hb1:b1≠F1.zero) (hb2:b2≠F1.zero) (hb3:b3≠F1.zero) (hy1:y1≠F2.zero) (hy2:y2≠F2.zero) (hy3:y3≠F2.zero) :
  aF.mul (lY (lT m d a1 b1)) (aF.mul (lY (lT m d a2 b2)) (lY (lT m d a3 b3)))=aF.mul (lY (lP n c x1 y1)) (aF.mul (lY (lP n c x2 y2)) (lY (lP n c x3 y3))):=by
 have r:=congrArg lY (aMN h g h1 h2 h3 g1 g2 g3);rw[sT (pF (uZ hy1) (pF (uZ hy2) (uZ hy3))),dZ (tQ hb1) (pF (tQ hb2) (tQ hb3)),dZ (tQ hb2) (tQ hb3),dZ (uZ hy1) (pF (uZ hy2) (uZ hy3)),dZ (uZ hy2) (uZ hy3)]at r;exact r
theorem Ph (z:Q2):eQ (F2.neg z)=aF.neg (eQ z):=by
 rw[GR];unfold eQ;simp only[z6e,yH]
theorem Ft (h:Cub F1 (fm 3) a1 a2 a3 n c) {x y:Q2} (hp:F2.mul y y=F2.add (F2.mul x (F2.mul x x)) dO) (hy:y≠F2.zero) (h1:a1≠F1.zero) (h2:a2≠F1.zero) (h3:a3≠F1.zero) :
  aF.mul (lY (lP n c x y)) (lY (lP n c x (F2.neg y)))=aF.one:=by
 have hY:aF.mul (aF.mul (eQ y) yT) (aF.mul (eQ y) yT)=aF.add (aF.mul (aF.mul (eQ x) NZ) (aF.mul (aF.mul (eQ x) NZ) (aF.mul (eQ x) NZ))) (eP (fm 3)):=by
  rw[←Pz,wQ aF (eQ y) yT (eQ y) yT,←qL y y,hp,DO,qL,qL];exact aXj (eQ x) (eQ dO)
 have r:=bAH (bDR h) hY;have hy':F2.neg y≠F2.zero:=fun e=>hy (by rw[←F2.neg_neg y,e,yH])
 have e1:aF.neg (aF.mul (eQ y) yT)=aF.mul (eQ (F2.neg y)) yT:=by rw[Ph,aF.neg_mul]
 rw[e1,←Fy,←Fy,←IW,←IW,←IW]at r;have r:=congrArg lY r;rw[sT (pF (nH h1) (pF (nH h2) (nH h3))),dZ (uZ hy) (uZ hy'),dZ (nH h1) (pF (nH h2) (nH h3)),dZ (nH h2) (nH h3),yJ h1,yJ h2,yJ h3,aF.one_mul,aF.one_mul]at r;exact r
theorem Vs (g:Cub F2 dO x1 x2 x3 m d) {a b:Fq} (hp:F1.mul b b=F1.add (F1.mul a (F1.mul a a)) (fm 3)) (hb:b≠F1.zero) (ha:a≠F1.zero) :
  aF.mul (lY (lT m d a b)) (lY (lT m d a (F1.neg b)))=aF.one:=by
 have hY:aF.mul (eP b) (eP b)=aF.add (aF.mul (eP a) (aF.mul (eP a) (eP a))) (eP (fm 3)):=by rw[←vG,hp,WG,vG,vG]
 have r:=bAH (bDQ g) hY;have hb':F1.neg b≠F1.zero:=fun e=>hb (by rw[←F1.neg_neg b,e,bU])
 have e1:aF.neg (eP b)=eP (F1.neg b):=by
  unfold eP;rw[←Ph];exact congrArg eQ (Prod.ext rfl (bU F1))
 have e2:=aUa aF;rw[e1,←QT,←QT,e2 (eP a),e2 (eP a),e2 (eP a),←IW,←IW,←IW]at r;have r:=congrArg lY r;have n1:=wN (nH (x:=x1) ha); have n2:=wN (nH (x:=x2) ha); have n3:=wN (nH (x:=x3) ha);rw[sT (pF n1 (pF n2 n3)),dZ (tQ hb) (tQ hb'),dZ n1 (pF n2 n3),dZ n2 n3,sT (nH ha),sT (nH ha),sT (nH ha),yJ ha,yJ ha,yJ ha,aF.one_mul,aF.one_mul]at r;exact r
end
namespace AG
variable {G:Type} (A:AG G)
theorem addz (a:G):A.add a A.zero=a:=by rw[A.comm,A.zadd]
theorem addn (a:G):A.add a (A.neg a)=A.zero:=by rw[A.comm,A.nadd]
theorem left_comm (a b c:G):A.add a (A.add b c)=A.add b (A.add a c):=by rw[←A.assoc,A.comm a b,A.assoc]
theorem cancel {a b c:G} (h:A.add a b=A.add a c):b=c:=by
 have:=congrArg (A.add (A.neg a)) h
 rwa [←A.assoc,←A.assoc,A.nadd,A.zadd,A.zadd]at this
theorem negz:A.neg A.zero=A.zero:=by apply A.cancel (a:=A.zero); rw[A.addn,A.addz]
theorem neg_add (a b:G):A.neg (A.add a b)=A.add (A.neg a) (A.neg b):=by
 apply A.cancel (a:=A.add a b);rw[A.addn,A.assoc,A.left_comm b,A.addn,A.addz,A.addn]
theorem add4 (a b c d:G):A.add (A.add a b) (A.add c d)=A.add (A.add a c) (A.add b d):=by
 rw[A.assoc,A.left_comm b,←A.assoc]
def ns:Nat→G→G
 | 0,_=>A.zero
 | n+1,g=>A.add (ns n g) g
theorem ns_add (m:Nat) (g:G):∀n,A.ns (m+n) g=A.add (A.ns m g) (A.ns n g)
 | 0=>(A.addz _).symm
 | n+1=>by show A.add (A.ns (m+n) g) g=A.add _ (A.add _ _); rw[ns_add m g n,A.assoc]
theorem ns_zero:∀n,A.ns n A.zero=A.zero
 | 0=>rfl
 | n+1=>by show A.add (A.ns n _) _=_; rw[ns_zero n,A.zadd]
theorem ns_sum (g h:G):∀n,A.ns n (A.add g h)=A.add (A.ns n g) (A.ns n h)
 | 0=>(A.zadd _).symm
 | n+1=>by show A.add (A.ns n _) _=A.add (A.add _ _) (A.add _ _); rw[ns_sum g h n,A.add4]
theorem ns_mul (m:Nat) (g:G):∀n,A.ns (m*n) g=A.ns n (A.ns m g)
 | 0=>rfl
 | n+1=>by rw[Nat.mul_add,Nat.mul_one,ns_add,ns_mul m g n]; rfl
def zs:Int→G→G
 | .ofNat n,g=>A.ns n g
 | .negSucc n,g=>A.neg (A.ns (n+1) g)
theorem zs_sub (m n:Nat) (g:G):A.zs (Int.subNatNat m n) g=A.add (A.ns m g) (A.neg (A.ns n g)):=by
 unfold Int.subNatNat;split
 ·rename_i h;have:m=n+(m-n):=by omega
  show A.ns (m-n) g=_
  conv=>rhs; rw[this,ns_add]
  rw[A.comm (A.ns n g),A.assoc,A.addn,A.addz]
 ·rename_i k h;have:n=m+(k+1):=by omega
  show A.neg (A.ns (k+1) g)=_;rw[this,ns_add A m g (k+1),A.neg_add (A.ns m g),←A.assoc,A.addn,A.zadd]
theorem zs_add (g:G) (a b:Int):A.zs (a+b) g=A.add (A.zs a g) (A.zs b g):=by
 cases a with
 | ofNat m =>
  cases b with
  | ofNat n=>exact A.ns_add m g n
  | negSucc n=>exact A.zs_sub m (n+1) g
 | negSucc m =>
  cases b with
  | ofNat n=>show A.zs (Int.subNatNat n (m+1)) g=_; rw[zs_sub,A.comm]; rfl
  | negSucc n =>
   show A.neg (A.ns (m+n+1+1) g)=A.add (A.neg (A.ns (m+1) g)) (A.neg (A.ns (n+1) g));rw[←A.neg_add,←ns_add,show m+1+(n+1)=m+n+1+1 by omega]
def sm (P:Nat→G) (c:Nat→Int):Nat→G
 | 0=>A.zero
 | n+1=>A.add (sm P c n) (A.zs (c n) (P n))
theorem sm_add (P:Nat→G) (c d:Nat→Int):∀n,A.sm P (fun i=>c i+d i) n=A.add (A.sm P c n) (A.sm P d n)
 | 0=>(A.zadd _).symm
 | n+1=>by show A.add (A.sm P _ n) (A.zs (c n+d n) (P n))=A.add (A.add _ _) (A.add _ _); rw[sm_add P c d n,zs_add,A.add4]
theorem sm_congr {P:Nat→G} {c d:Nat→Int}:∀{n},(∀i,i<n→c i=d i)→A.sm P c n=A.sm P d n
 | 0,_=>rfl
 | n+1,h=>by show A.add _ (A.zs (c n) _)=A.add _ (A.zs (d n) _); rw[sm_congr fun i hi=>h i (by omega),h n (by omega)]
theorem sm_zero (P:Nat→G):∀n,A.sm P (fun _=>0) n=A.zero
 | 0=>rfl
 | n+1=>by show A.add (A.sm P _ n) A.zero=_; rw[sm_zero P n,A.zadd]
theorem sm_two (P:Nat→G) (c:Nat→Int) (n:Nat):A.add (A.sm P c n) (A.sm P c n)=A.sm P (fun i=>2*c i) n:=by
 rw[←sm_add];exact A.sm_congr fun i _=>by omega
end AG
def sD (w:Nat):Int:=((w+1)/2:Nat)-(if 16≤w then 16 else 0:Int)
def BG (x p:Nat):Nat:=(if p=0 then x*2 else x/2^(p*4-1))%32
def hor (x PL:Nat):Nat→Int
 | 0=>0
 | i+1=>16*hor x PL i+sD (BG x (PL-1-i))
theorem aIl (x PL:Nat) (h:x<2^(4*PL-1)) (h0:0<PL):∀i,i<PL→hor x PL i=((x/2^(4*(PL-i))+x/2^(4*(PL-i)-1)%2:Nat):Int)
 | 0,_=>by
  have h1:x/2^(4*PL-1)=0:=Nat.div_eq_of_lt h;have h2:x/2^(4*PL)=0:=Nat.div_eq_of_lt (Nat.lt_of_lt_of_le h (Nat.pow_le_pow_right (by omega) (by omega)));show (0:Int)=((x/2^(4*(PL-0))+x/2^(4*(PL-0)-1)%2:Nat):Int);rw[Nat.sub_zero,h1,h2]; rfl
 | i+1,hi=>by
  have ih:=aIl x PL h h0 i (by omega);show 16*hor x PL i+sD (BG x (PL-1-i))=_;rw[ih];have hp:PL-1-i≠0:=by omega
  have e1:4*(PL-i)=(4*(PL-(i+1))-1)+5:=by omega
  have e2:4*(PL-i)-1=(4*(PL-(i+1))-1)+4:=by omega
  have e3:4*(PL-(i+1))=(4*(PL-(i+1))-1)+1:=by omega
  have e4:(PL-1-i)*4-1=4*(PL-(i+1))-1:=by omega
  unfold sD BG;rw[if_neg hp,e1,e4];rw[show (4*(PL-(i+1))-1)+5-1=(4*(PL-(i+1))-1)+4 by omega];have e5:x/2^(4*(PL-(i+1)))=x/2^(4*(PL-(i+1))-1)/2:=by
   conv=>lhs; rw[e3]
   rw[Nat.pow_add,←Nat.div_div_eq_div_mul]
  rw[e5,Nat.pow_add,Nat.pow_add,←Nat.div_div_eq_div_mul,←Nat.div_div_eq_div_mul];generalize x/2^(4*(PL-(i+1))-1)=a;show 16*((a/32+a/16%2:Nat):Int)+(((a%32+1)/2:Nat)-(if 16≤a%32 then 16 else 0:Int))=((a/2+a%2:Nat):Int);split<;>omega
theorem We (x PL:Nat) (h:x<2^(4*PL-1)) (h0:0<PL):hor x PL PL=x:=by
 obtain⟨k,rfl⟩:∃k,PL=k+1:=⟨PL-1,by omega⟩
 show 16*hor x (k+1) k+sD (BG x (k+1-1-k))=_;rw[aIl x (k+1) h h0 k (by omega),show k+1-1-k=0 by omega,show k+1-k=1 by omega];unfold sD BG;rw[if_pos rfl];show 16*((x/16+x/8%2:Nat):Int)+(((x*2%32+1)/2:Nat)-(if 16≤x*2%32 then 16 else 0:Int))=(x:Int);split<;>omega
section
variable {G V:Type} (A:AG G) (B:AG V)
def stp (Q:G) (d:Int) (T:G):G:=if d=1 then A.add (A.add T T) Q else if d = -1 then A.add (A.add T T) (A.neg Q)else A.add T T
def stF (L:G→G→V) (Q:G) (d:Int) (F:V) (T:G):V:=if d=1 then B.add (B.add (B.add F F) (L T T)) (L (A.add T T) Q)else if d = -1 then B.add (B.add (B.add F F) (L T T)) (L (A.add T T) (A.neg Q))else B.add (B.add F F) (L T T)
def CD (Q:G):List Int→G→G
 | [],T=>T
 | d::ds,T=>CD Q ds (stp A Q d T)
def aFj (L:G→G→V) (Q:G):List Int→V→G→V
 | [],F,_=>F
 | d::ds,F,T=>aFj L Q ds (stF A B L Q d F T) (stp A Q d T)
variable {B}
end
open Go.RowKit
theorem fd1:FD F1 cF:=⟨Yv,fun x h=>AY h⟩
theorem fd2:FD F2 eD:=⟨DM.1,fun x h=>YK fun e=>h (oN e)⟩
theorem aWA {x:Q2} (h:x≠F2.zero):qC x≠F1.zero:=fun e=>h (oN e)
abbrev J1:=Jc Fq
abbrev J2:=Jc Q2
def bK (p:J1):List At:=[.f p.1,.f p.2.1,.f p.2.2]
def bJ (p:J2):List At:=[.f p.1.1,.f p.1.2,.f p.2.1.1,.f p.2.1.2,.f p.2.2.1,.f p.2.2.2]
def YP:List At→Option J1|[.f a,.f b,.f c]=>some (a,b,c)|_=>none
def YO:List At→Option J2|[.f a,.f b,.f c,.f d,.f e,.f f]=>some ((a,b),(c,d),(e,f))|_=>none
theorem iX:Rd YP bK:=fun l x h=>by unfold YP at h; split at h<;>cases h; rfl
theorem iW:Rd YO bJ:=fun l x h=>by unfold YO at h; split at h<;>cases h; rfl
theorem eC {a b:Fq} (h:a≠b):aA (e1 a)≠aA (e1 b):=fun e=>h (aYp e)
theorem dC {a b:Q2} (h:a≠b):aA (e2 a)≠aA (e2 b):=fun e=>h (aYo e)
theorem FD.inv_one {R:Type} {K:CR R} {inv:R→R} (F:FD K inv):inv K.one=K.one:=by
 have:=F.inv K.one F.ne
 rwa [K.one_mul]at this
theorem Lp (p:J1):aO prog (qG prog) (fun _=>⟨fun s=>YB true,fun s=>true,fun _=>none⟩) f195 60 [.v (.fl (bK p))]=some ([aA (e1 p.2.2)=aA (e1 F1.zero)],.one (.im (.bool true))):=by kernel_rfl
theorem Lq (p:J1):aO prog (qG prog) (fun _=>⟨fun s=>YB false,fun s=>false,fun _=>none⟩) f195 60 [.v (.fl (bK p))]=some ([aA (e1 p.2.2)≠aA (e1 F1.zero)],.one (.im (.bool false))):=by kernel_rfl
def aHm (d:Bool) (p:J1):List Prop×RV:=bif d then ([p.2.2=F1.zero],.one (.im (.bool true)))else ([p.2.2≠F1.zero],.one (.im (.bool false)))
theorem aHl (d:Bool) (p:J1) (hp:bC (aHm d p).1) (args:List Value) (w:World) (ha:bZ w [.v (.fl (bK p))] args):Good prog 195 (aHm d p).2 args w:=by
 cases d
 ·have h:p.2.2≠F1.zero:=hp.1;exact aB aE (fun _ s=>UO _) (aJ prog) func195 (Lq p) ⟨eC h,trivial⟩ ha
 ·have h:p.2.2=F1.zero:=hp.1;exact aB aE (fun _ s=>UO _) (aJ prog) func195 (Lp p) ⟨by rw[h],trivial⟩ ha
def YE (d:Bool):Tab:=(YB d).add 195 (g1 YP (aHm d))
theorem UR (d:Bool):TabOk prog (YE d):=(UO d).ad func195 (bP iX fun p hp args w ha=>aHl d p hp args w ha)
theorem Ju (d:Bool) (p:J1) (b:Fq):aO prog (qG prog) (fun _=>⟨fun s=>YE d,fun s=>true,fun _=>none⟩) f198 60 [.v (.fl (bK p)),.v (.fl (e1 b))]=some ([aA (e1 p.2.2)=aA (e1 F1.one)],.one (.fl (e1 b))):=by kernel_rfl
theorem Jv (d:Bool) (p:J1) (b:Fq):aO prog (qG prog) (fun _=>⟨fun s=>YE d,fun s=>false,fun _=>none⟩) f198 60 [.v (.fl (bK p)),.v (.fl (e1 b))]=some ([aA (e1 p.2.2)≠aA (e1 F1.one)],.one (.fl (e1 (F1.mul b p.2.2)))):=by kernel_rfl
theorem aLL (d:Bool) (p:J1) (b:Fq) (args:List Value) (w:World) (ha:bZ w [.v (.fl (bK p)),.v (.fl (e1 b))] args):Good prog 198 (.one (.fl (e1 (F1.mul b p.2.2)))) args w:=by
 by_cases h:p.2.2=F1.one
 ·rw[h,F1.mul_one];exact aB aE (fun _ s=>UR _) (aJ prog) func198 (Ju d p b) ⟨by rw[h],trivial⟩ ha
 ·exact aB aE (fun _ s=>UR _) (aJ prog) func198 (Jv d p b) ⟨eC h,trivial⟩ ha
def XH (d:Bool):Tab:=(YE d).add 198 (g2 YP Sy fun p b=>([],.one (.fl (e1 (F1.mul b p.2.2)))))
theorem UI (d:Bool):TabOk prog (XH d):=(UR d).ad func198 (dS iX nB fun p b hp args w ha=>aLL d p b args w ha)
theorem Mh (d:Bool) (p q:J1):aO prog (qG prog) (fun _=>⟨fun s=>XH d,fun s=>true,fun _=>none⟩) f196 60 [.v (.fl (bK p)),.v (.fl (bK q))]=some ([aA (e1 q.2.2)=aA (e1 F1.one)],.many [.fl (e1 (p.1)),.fl (e1 (p.2.1))]):=by kernel_rfl
theorem Mi (d:Bool) (p q:J1):aO prog (qG prog) (fun _=>⟨fun s=>XH d,fun s=>false,fun _=>none⟩) f196 60 [.v (.fl (bK p)),.v (.fl (bK q))]=some ([aA (e1 q.2.2)≠aA (e1 F1.one)],.many [.fl (e1 (GW F1 p q)),.fl (e1 (EU F1 p q))]):=by kernel_rfl
theorem aPZ (d:Bool) (p q:J1) (args:List Value) (w:World) (ha:bZ w [.v (.fl (bK p)),.v (.fl (bK q))] args):Good prog 196 (.many [.fl (e1 (GW F1 p q)),.fl (e1 (EU F1 p q))]) args w:=by
 by_cases h:q.2.2=F1.one
 ·have hx:GW F1 p q=p.1:=by unfold GW; rw[h,F1.mul_one,F1.mul_one]
  have hy:EU F1 p q=p.2.1:=by unfold EU; rw[h,F1.mul_one,F1.mul_one,F1.mul_one]
  rw[hx,hy];exact aB aE (fun _ s=>UI _) (aJ prog) func196 (Mh d p q) ⟨by rw[h],trivial⟩ ha
 ·exact aB aE (fun _ s=>UI _) (aJ prog) func196 (Mi d p q) ⟨eC h,trivial⟩ ha
def Rc (d:Bool):Tab:=(XH d).add 196 (g2 YP YP fun p q=>([],.many [.fl (e1 (GW F1 p q)),.fl (e1 (EU F1 p q))]))
theorem Uv (d:Bool):TabOk prog (Rc d):=(UI d).ad func196 (dS iX iX fun p q hp args w ha=>aPZ d p q args w ha)
theorem aFa (d:Bool) (p:J1):aO prog (qG prog) (fun _=>⟨fun s=>Rc d,fun s=>true,fun _=>none⟩) f197 60 [.v (.fl (bK p))]=some ([],.one (.fl (bK (bX F1 p)))):=by kernel_rfl
def Qz (d:Bool):Tab:=(Rc d).add 197 (g1 YP fun p=>([],.one (.fl (bK (bX F1 p)))))
theorem Ut (d:Bool):TabOk prog (Qz d):=(Uv d).ad func197 (bP iX fun p hp args w ha=>aB aE (fun _ s=>Uv _) (aJ prog) func197 (aFa d p) trivial ha)
theorem aEV (d:Bool) (p:J1):aO prog (qG prog) (fun _=>⟨fun s=>Qz d,fun s=>true,fun _=>none⟩) f237 60 [.v (.fl (bK p))]=some ([],.one (.fl (bK (vA F1 p)))):=by kernel_rfl
def NO (d:Bool):Tab:=(Qz d).add 237 (g1 YP fun p=>([],.one (.fl (bK (vA F1 p)))))
theorem GP (d:Bool):TabOk prog (NO d):=(Ut d).ad func237 (bP iX fun p hp args w ha=>aB aE (fun _ s=>Ut _) (aJ prog) func237 (aEV d p) trivial ha)
theorem Aa (p:J1):aO prog (qG prog) (fun _=>⟨fun s=>NO true,fun s=>true,fun _=>none⟩) f155 60 [.v (.fl (bK p))]=some ([p.2.2=F1.zero],.many [.fl (e1 F1.zero),.fl (e1 F1.zero),.im (.bool true)]):=by kernel_rfl
theorem ZZ (p:J1):aO prog (qG prog) (fun _=>⟨fun s=>NO false,fun s=>true,fun _=>none⟩) f155 60 [.v (.fl (bK p))]=some ([p.2.2≠F1.zero,aA (e1 p.2.2)=aA (e1 F1.one)],.many [.fl (e1 p.1),.fl (e1 p.2.1),.im (.bool false)]):=by kernel_rfl
theorem Ab (p:J1):aO prog (qG prog) (fun _=>⟨fun s=>NO false,fun s=>false,fun _=>none⟩) f155 60 [.v (.fl (bK p))]=some ([p.2.2≠F1.zero,aA (e1 p.2.2)≠aA (e1 F1.one),p.2.2≠F1.zero],.many [.fl (e1 (F1.mul p.1 (F1.mul (cF p.2.2) (cF p.2.2)))),.fl (e1 (F1.mul p.2.1 (F1.mul (F1.mul (cF p.2.2) (cF p.2.2)) (cF p.2.2)))),.im (.bool false)]):=by kernel_rfl
def Nt (d:Bool) (p:J1):List Prop×RV:=bif d then ([p.2.2=F1.zero],.many [.fl (e1 F1.zero),.fl (e1 F1.zero),.im (.bool true)])else ([p.2.2≠F1.zero],.many [.fl (e1 (F1.mul p.1 (F1.mul (cF p.2.2) (cF p.2.2)))),.fl (e1 (F1.mul p.2.1 (F1.mul (F1.mul (cF p.2.2) (cF p.2.2)) (cF p.2.2)))),.im (.bool false)])
theorem aCb (d:Bool) (p:J1) (hp:bC (Nt d p).1) (args:List Value) (w:World) (ha:bZ w [.v (.fl (bK p))] args):Good prog 155 (Nt d p).2 args w:=by
 cases d
 ·have h:p.2.2≠F1.zero:=hp.1;show Good _ _ (.many [.fl (e1 (F1.mul p.1 (F1.mul (cF p.2.2) (cF p.2.2)))),.fl (e1 (F1.mul p.2.1 (F1.mul (F1.mul (cF p.2.2) (cF p.2.2)) (cF p.2.2)))),.im (.bool false)]) _ _
  by_cases h1:p.2.2=F1.one
  ·have hi:cF p.2.2=F1.one:=by rw[h1]; exact fd1.inv_one
   rw[hi,F1.mul_one,F1.mul_one,F1.mul_one,F1.mul_one];exact aB aE (fun _ s=>GP _) (aJ prog) func155 (ZZ p) ⟨h,by rw[h1],trivial⟩ ha
  ·exact aB aE (fun _ s=>GP _) (aJ prog) func155 (Ab p) ⟨h,eC h1,h,trivial⟩ ha
 ·exact aB aE (fun _ s=>GP _) (aJ prog) func155 (Aa p) hp ha
def tK (d:Bool):Tab:=(NO d).add 155 (g1 YP (Nt d))
theorem rU (d:Bool):TabOk prog (tK d):=(GP d).ad func155 (bP iX fun p hp args w ha=>aCb d p hp args w ha)
theorem Bw (p q:J1):aO prog (qG prog) (fun _=>⟨fun s=>tK (bif Nat.beq s 18 then true else false),fun s=>true,fun _=>none⟩) f156 80 [.v (.fl (bK p)),.v (.fl (bK q))]=some ([p.2.2=F1.zero],.one (.fl (bK q))):=by kernel_rfl
theorem Bv (p q:J1):aO prog (qG prog) (fun _=>⟨fun s=>tK (bif Nat.beq s 18 then false else true),fun s=>true,fun _=>none⟩) f156 80 [.v (.fl (bK p)),.v (.fl (bK q))]=some ([p.2.2≠F1.zero,q.2.2=F1.zero],.one (.fl (bK p))):=by kernel_rfl
theorem Bu (p q:J1):aO prog (qG prog) (fun _=>⟨fun s=>tK (bif Nat.beq s 18 then false else false),fun s=>true,fun _=>none⟩) f156 80 [.v (.fl (bK p)),.v (.fl (bK q))]=some ([p.2.2≠F1.zero,q.2.2≠F1.zero,aA (e1 (tR F1 p q))=aA (e1 F1.zero),aA (e1 (LQ F1 p q))=aA (e1 F1.zero)],.one (.fl (bK (bX F1 p)))):=by kernel_rfl
theorem Bt (p q:J1):aO prog (qG prog) (fun _=>⟨fun s=>tK (bif Nat.beq s 18 then false else false),fun s=>false,fun _=>none⟩) f156 80 [.v (.fl (bK p)),.v (.fl (bK q))]=some ([p.2.2≠F1.zero,q.2.2≠F1.zero,aA (e1 (tR F1 p q))≠aA (e1 F1.zero)],.one (.fl (bK (DE F1 p q)))):=by kernel_rfl
theorem Bs (p q:J1):aO prog (qG prog) (fun _=>⟨fun s=>tK (bif Nat.beq s 18 then false else false),fun s => !(Nat.beq s 49),fun _=>none⟩) f156 80 [.v (.fl (bK p)),.v (.fl (bK q))]=some ([p.2.2≠F1.zero,q.2.2≠F1.zero,aA (e1 (tR F1 p q))=aA (e1 F1.zero),aA (e1 (LQ F1 p q))≠aA (e1 F1.zero)],.one (.fl (bK (DE F1 p q)))):=by kernel_rfl
theorem aGb (d:Bool) (p q:J1) (args:List Value) (w:World) (ha:bZ w [.v (.fl (bK p)),.v (.fl (bK q))] args):Good prog 156 (.one (.fl (bK (fI F1 p q)))) args w:=by
 unfold fI
 by_cases h1:p.2.2=F1.zero
 ·rw[if_pos h1];exact aB aE (fun _ s=>rU _) (aJ prog) func156 (Bw p q) ⟨h1,trivial⟩ ha
 ·rw[if_neg h1]
  by_cases h2:q.2.2=F1.zero
  ·rw[if_pos h2];exact aB aE (fun _ s=>rU _) (aJ prog) func156 (Bv p q) ⟨h1,h2,trivial⟩ ha
  ·rw[if_neg h2]
   by_cases h3:tR F1 p q=F1.zero
   ·by_cases h4:LQ F1 p q=F1.zero
    ·rw[if_pos ⟨h3,h4⟩];exact aB aE (fun _ s=>rU _) (aJ prog) func156 (Bu p q) ⟨h1,h2,by rw[h3],by rw[h4],trivial⟩ ha
    ·rw[if_neg (fun h=>h4 h.2)];exact aB aE (fun _ s=>rU _) (aJ prog) func156 (Bs p q) ⟨h1,h2,by rw[h3],eC h4,trivial⟩ ha
   ·rw[if_neg (fun h=>h3 h.1)];exact aB aE (fun _ s=>rU _) (aJ prog) func156 (Bt p q) ⟨h1,h2,eC h3,trivial⟩ ha
def IK (d:Bool):Tab:=(tK d).add 156 (g2 YP YP fun p q=>([],.one (.fl (bK (fI F1 p q)))))
theorem KW (d:Bool):TabOk prog (IK d):=(rU d).ad func156 (dS iX iX fun p q hp args w ha=>aGb d p q args w ha)
theorem Ln (p:J2):aO prog (qG prog) (fun _=>⟨fun s=>IK true,fun s=>true,fun _=>none⟩) f199 60 [.v (.fl (bJ p))]=some ([aA (e2 p.2.2)=aA (e2 F2.zero)],.one (.im (.bool true))):=by kernel_rfl
theorem Lo (p:J2):aO prog (qG prog) (fun _=>⟨fun s=>IK false,fun s=>false,fun _=>none⟩) f199 60 [.v (.fl (bJ p))]=some ([aA (e2 p.2.2)≠aA (e2 F2.zero)],.one (.im (.bool false))):=by kernel_rfl
def aHk (d:Bool) (p:J2):List Prop×RV:=bif d then ([p.2.2=F2.zero],.one (.im (.bool true)))else ([p.2.2≠F2.zero],.one (.im (.bool false)))
theorem aHj (d:Bool) (p:J2) (hp:bC (aHk d p).1) (args:List Value) (w:World) (ha:bZ w [.v (.fl (bJ p))] args):Good prog 199 (aHk d p).2 args w:=by
 cases d
 ·have h:p.2.2≠F2.zero:=hp.1;exact aB aE (fun _ s=>KW _) (aJ prog) func199 (Lo p) ⟨dC h,trivial⟩ ha
 ·have h:p.2.2=F2.zero:=hp.1;exact aB aE (fun _ s=>KW _) (aJ prog) func199 (Ln p) ⟨by rw[h],trivial⟩ ha
def YD (d:Bool):Tab:=(IK d).add 199 (g1 YO (aHk d))
theorem UQ (d:Bool):TabOk prog (YD d):=(KW d).ad func199 (bP iW fun p hp args w ha=>aHj d p hp args w ha)
theorem Js (d:Bool) (p:J2) (b:Q2):aO prog (qG prog) (fun _=>⟨fun s=>YD d,fun s=>true,fun _=>none⟩) f202 60 [.v (.fl (bJ p)),.v (.fl (e2 b))]=some ([aA (e2 p.2.2)=aA (e2 F2.one)],.one (.fl (e2 b))):=by kernel_rfl
theorem Jt (d:Bool) (p:J2) (b:Q2):aO prog (qG prog) (fun _=>⟨fun s=>YD d,fun s=>false,fun _=>none⟩) f202 60 [.v (.fl (bJ p)),.v (.fl (e2 b))]=some ([aA (e2 p.2.2)≠aA (e2 F2.one)],.one (.fl (e2 (F2.mul b p.2.2)))):=by kernel_rfl
theorem aLK (d:Bool) (p:J2) (b:Q2) (args:List Value) (w:World) (ha:bZ w [.v (.fl (bJ p)),.v (.fl (e2 b))] args):Good prog 202 (.one (.fl (e2 (F2.mul b p.2.2)))) args w:=by
 by_cases h:p.2.2=F2.one
 ·rw[h,F2.mul_one];exact aB aE (fun _ s=>UQ _) (aJ prog) func202 (Js d p b) ⟨by rw[h],trivial⟩ ha
 ·exact aB aE (fun _ s=>UQ _) (aJ prog) func202 (Jt d p b) ⟨dC h,trivial⟩ ha
def XG (d:Bool):Tab:=(YD d).add 202 (g2 YO OM fun p b=>([],.one (.fl (e2 (F2.mul b p.2.2)))))
theorem UH (d:Bool):TabOk prog (XG d):=(UQ d).ad func202 (dS iW gM fun p b hp args w ha=>aLK d p b args w ha)
theorem Mf (d:Bool) (p q:J2):aO prog (qG prog) (fun _=>⟨fun s=>XG d,fun s=>true,fun _=>none⟩) f200 60 [.v (.fl (bJ p)),.v (.fl (bJ q))]=some ([aA (e2 q.2.2)=aA (e2 F2.one)],.many [.fl (e2 (p.1)),.fl (e2 (p.2.1))]):=by kernel_rfl
theorem Mg (d:Bool) (p q:J2):aO prog (qG prog) (fun _=>⟨fun s=>XG d,fun s=>false,fun _=>none⟩) f200 60 [.v (.fl (bJ p)),.v (.fl (bJ q))]=some ([aA (e2 q.2.2)≠aA (e2 F2.one)],.many [.fl (e2 (GW F2 p q)),.fl (e2 (EU F2 p q))]):=by kernel_rfl
theorem aPY (d:Bool) (p q:J2) (args:List Value) (w:World) (ha:bZ w [.v (.fl (bJ p)),.v (.fl (bJ q))] args):Good prog 200 (.many [.fl (e2 (GW F2 p q)),.fl (e2 (EU F2 p q))]) args w:=by
 by_cases h:q.2.2=F2.one
 ·have hx:GW F2 p q=p.1:=by unfold GW; rw[h,F2.mul_one,F2.mul_one]
  have hy:EU F2 p q=p.2.1:=by unfold EU; rw[h,F2.mul_one,F2.mul_one,F2.mul_one]
  rw[hx,hy];exact aB aE (fun _ s=>UH _) (aJ prog) func200 (Mf d p q) ⟨by rw[h],trivial⟩ ha
 ·exact aB aE (fun _ s=>UH _) (aJ prog) func200 (Mg d p q) ⟨dC h,trivial⟩ ha
def Rb (d:Bool):Tab:=(XG d).add 200 (g2 YO YO fun p q=>([],.many [.fl (e2 (GW F2 p q)),.fl (e2 (EU F2 p q))]))
theorem Uu (d:Bool):TabOk prog (Rb d):=(UH d).ad func200 (dS iW iW fun p q hp args w ha=>aPY d p q args w ha)
theorem aEZ (d:Bool) (p:J2):aO prog (qG prog) (fun _=>⟨fun s=>Rb d,fun s=>true,fun _=>none⟩) f201 60 [.v (.fl (bJ p))]=some ([],.one (.fl (bJ (bX F2 p)))):=by kernel_rfl
def Qy (d:Bool):Tab:=(Rb d).add 201 (g1 YO fun p=>([],.one (.fl (bJ (bX F2 p)))))
theorem Us (d:Bool):TabOk prog (Qy d):=(Uu d).ad func201 (bP iW fun p hp args w ha=>aB aE (fun _ s=>Uu _) (aJ prog) func201 (aEZ d p) trivial ha)
theorem aEU (d:Bool) (p:J2):aO prog (qG prog) (fun _=>⟨fun s=>Qy d,fun s=>true,fun _=>none⟩) f244 60 [.v (.fl (bJ p))]=some ([],.one (.fl (bJ (vA F2 p)))):=by kernel_rfl
def NN (d:Bool):Tab:=(Qy d).add 244 (g1 YO fun p=>([],.one (.fl (bJ (vA F2 p)))))
theorem GO (d:Bool):TabOk prog (NN d):=(Us d).ad func244 (bP iW fun p hp args w ha=>aB aE (fun _ s=>Us _) (aJ prog) func244 (aEU d p) trivial ha)
theorem ZX (p:J2):aO prog (qG prog) (fun _=>⟨fun s=>NN true,fun s=>true,fun _=>none⟩) f158 60 [.v (.fl (bJ p))]=some ([p.2.2=F2.zero],.many [.fl (e2 F2.zero),.fl (e2 F2.zero),.im (.bool true)]):=by kernel_rfl
theorem ZW (p:J2):aO prog (qG prog) (fun _=>⟨fun s=>NN false,fun s=>true,fun _=>none⟩) f158 60 [.v (.fl (bJ p))]=some ([p.2.2≠F2.zero,aA (e2 p.2.2)=aA (e2 F2.one)],.many [.fl (e2 p.1),.fl (e2 p.2.1),.im (.bool false)]):=by kernel_rfl
theorem ZY (p:J2):aO prog (qG prog) (fun _=>⟨fun s=>NN false,fun s=>false,fun _=>none⟩) f158 60 [.v (.fl (bJ p))]=some ([p.2.2≠F2.zero,aA (e2 p.2.2)≠aA (e2 F2.one),qC p.2.2≠F1.zero],.many [.fl (e2 (F2.mul p.1 (F2.mul (eD p.2.2) (eD p.2.2)))),.fl (e2 (F2.mul p.2.1 (F2.mul (F2.mul (eD p.2.2) (eD p.2.2)) (eD p.2.2)))),.im (.bool false)]):=by kernel_rfl
def Ns (d:Bool) (p:J2):List Prop×RV:=bif d then ([p.2.2=F2.zero],.many [.fl (e2 F2.zero),.fl (e2 F2.zero),.im (.bool true)])else ([p.2.2≠F2.zero],.many [.fl (e2 (F2.mul p.1 (F2.mul (eD p.2.2) (eD p.2.2)))),.fl (e2 (F2.mul p.2.1 (F2.mul (F2.mul (eD p.2.2) (eD p.2.2)) (eD p.2.2)))),.im (.bool false)])
theorem aCa (d:Bool) (p:J2) (hp:bC (Ns d p).1) (args:List Value) (w:World) (ha:bZ w [.v (.fl (bJ p))] args):Good prog 158 (Ns d p).2 args w:=by
 cases d
 ·have h:p.2.2≠F2.zero:=hp.1;show Good _ _ (.many [.fl (e2 (F2.mul p.1 (F2.mul (eD p.2.2) (eD p.2.2)))),.fl (e2 (F2.mul p.2.1 (F2.mul (F2.mul (eD p.2.2) (eD p.2.2)) (eD p.2.2)))),.im (.bool false)]) _ _
  by_cases h1:p.2.2=F2.one
  ·have hi:eD p.2.2=F2.one:=by rw[h1]; exact fd2.inv_one
   rw[hi,F2.mul_one,F2.mul_one,F2.mul_one,F2.mul_one];exact aB aE (fun _ s=>GO _) (aJ prog) func158 (ZW p) ⟨h,by rw[h1],trivial⟩ ha
  ·exact aB aE (fun _ s=>GO _) (aJ prog) func158 (ZY p) ⟨h,dC h1,aWA h,trivial⟩ ha
 ·exact aB aE (fun _ s=>GO _) (aJ prog) func158 (ZX p) hp ha
def tJ (d:Bool):Tab:=(NN d).add 158 (g1 YO (Ns d))
theorem rR (d:Bool):TabOk prog (tJ d):=(GO d).ad func158 (bP iW fun p hp args w ha=>aCa d p hp args w ha)
theorem Br (p q:J2):aO prog (qG prog) (fun _=>⟨fun s=>tJ (bif Nat.beq s 18 then true else false),fun s=>true,fun _=>none⟩) f159 80 [.v (.fl (bJ p)),.v (.fl (bJ q))]=some ([p.2.2=F2.zero],.one (.fl (bJ q))):=by kernel_rfl
theorem Bq (p q:J2):aO prog (qG prog) (fun _=>⟨fun s=>tJ (bif Nat.beq s 18 then false else true),fun s=>true,fun _=>none⟩) f159 80 [.v (.fl (bJ p)),.v (.fl (bJ q))]=some ([p.2.2≠F2.zero,q.2.2=F2.zero],.one (.fl (bJ p))):=by kernel_rfl
theorem Bp (p q:J2):aO prog (qG prog) (fun _=>⟨fun s=>tJ (bif Nat.beq s 18 then false else false),fun s=>true,fun _=>none⟩) f159 80 [.v (.fl (bJ p)),.v (.fl (bJ q))]=some ([p.2.2≠F2.zero,q.2.2≠F2.zero,aA (e2 (tR F2 p q))=aA (e2 F2.zero),aA (e2 (LQ F2 p q))=aA (e2 F2.zero)],.one (.fl (bJ (bX F2 p)))):=by kernel_rfl
theorem Bo (p q:J2):aO prog (qG prog) (fun _=>⟨fun s=>tJ (bif Nat.beq s 18 then false else false),fun s=>false,fun _=>none⟩) f159 80 [.v (.fl (bJ p)),.v (.fl (bJ q))]=some ([p.2.2≠F2.zero,q.2.2≠F2.zero,aA (e2 (tR F2 p q))≠aA (e2 F2.zero)],.one (.fl (bJ (DE F2 p q)))):=by kernel_rfl
theorem Bn (p q:J2):aO prog (qG prog) (fun _=>⟨fun s=>tJ (bif Nat.beq s 18 then false else false),fun s => !(Nat.beq s 49),fun _=>none⟩) f159 80 [.v (.fl (bJ p)),.v (.fl (bJ q))]=some ([p.2.2≠F2.zero,q.2.2≠F2.zero,aA (e2 (tR F2 p q))=aA (e2 F2.zero),aA (e2 (LQ F2 p q))≠aA (e2 F2.zero)],.one (.fl (bJ (DE F2 p q)))):=by kernel_rfl
theorem aGa (d:Bool) (p q:J2) (args:List Value) (w:World) (ha:bZ w [.v (.fl (bJ p)),.v (.fl (bJ q))] args):Good prog 159 (.one (.fl (bJ (fI F2 p q)))) args w:=by
 unfold fI
 by_cases h1:p.2.2=F2.zero
 ·rw[if_pos h1];exact aB aE (fun _ s=>rR _) (aJ prog) func159 (Br p q) ⟨h1,trivial⟩ ha
 ·rw[if_neg h1]
  by_cases h2:q.2.2=F2.zero
  ·rw[if_pos h2];exact aB aE (fun _ s=>rR _) (aJ prog) func159 (Bq p q) ⟨h1,h2,trivial⟩ ha
  ·rw[if_neg h2]
   by_cases h3:tR F2 p q=F2.zero
   ·by_cases h4:LQ F2 p q=F2.zero
    ·rw[if_pos ⟨h3,h4⟩];exact aB aE (fun _ s=>rR _) (aJ prog) func159 (Bp p q) ⟨h1,h2,by rw[h3],by rw[h4],trivial⟩ ha
    ·rw[if_neg (fun h=>h4 h.2)];exact aB aE (fun _ s=>rR _) (aJ prog) func159 (Bn p q) ⟨h1,h2,by rw[h3],dC h4,trivial⟩ ha
   ·rw[if_neg (fun h=>h3 h.1)];exact aB aE (fun _ s=>rR _) (aJ prog) func159 (Bo p q) ⟨h1,h2,dC h3,trivial⟩ ha
def nU (d:Bool):Tab:=(tJ d).add 159 (g2 YO YO fun p q=>([],.one (.fl (bJ (fI F2 p q)))))
theorem mM (d:Bool):TabOk prog (nU d):=(rR d).ad func159 (dS iW iW fun p q hp args w ha=>aGa d p q args w ha)
theorem Ry (x:Nat):w4 x=w4 (wv x):=by
 obtain⟨e0,e1,e2,e3⟩:=oR (cM x) (show wv x<115792089237316195423570985008687907853269984665640564039457584007913129639936 by
  have h:=cM x;obtain⟨h0,h1,h2,h3⟩:=h;unfold wv aC; omega) rfl
 unfold w4;rw[e0,e1,e2,e3]
theorem q_f {x:Nat} (h:wv x<FP.M):aA [.q x]=aA [.f (m1 x)]:=by
 show w4 x++[]=w4 (m1 x).1++[];rw[Ry x];show w4 (wv x)++[]=w4 (wv x%FP.M)++[];rw[Nat.mod_eq_of_lt h]
theorem QY (a:At) (l:List At):aA (a::l)=aA [a]++aA l:=by show a.cells++aA l=(a.cells++[])++aA l; rw[List.append_nil]
theorem GF {x y:Nat} (h:w4 x=w4 y):wv x=wv y:=by
 unfold w4 at h;simp only[List.cons.injEq,Value.int.injEq,true_and,and_true,Int.ofNat_inj]at h;unfold wv;rw[h.1,h.2.1,h.2.2.1,h.2.2.2]
theorem dH {x:Nat}:aA [.q x]=aA (e1 F1.zero)↔wv x=0:=by
 constructor
 ·intro h;have h':w4 x++[]=w4 0++[]:=h;rw[List.append_nil,List.append_nil]at h';rw[GF h']; decide
 ·intro h;show w4 x++[]=w4 0++[];rw[Ry x,h]
theorem cI {x:N2}:aA (q2 x)=aA (e2 F2.zero)↔wv x.1=0∧wv x.2=0:=by
 constructor
 ·intro h;have h':w4 x.1++(w4 x.2++[])=w4 0++(w4 0++[]):=h;obtain⟨h1,h2⟩:=List.append_inj h' rfl;rw[List.append_nil,List.append_nil]at h2;exact⟨by rw[GF h1]; decide,by rw[GF h2]; decide⟩
 ·rintro⟨h1,h2⟩
  show w4 x.1++(w4 x.2++[])=w4 0++(w4 0++[]);rw[Ry x.1,Ry x.2,h1,h2]
theorem Good.congr {P:Program} {f:FuncId} {r r':RV} {args:List Value} {w:World} (h:Good P f r args w) (e:r.den=r'.den):Good P f r' args w:=by
 unfold Good at h ⊢;rw[←e];exact h
def wV (x:Nat):Prop:=wv x<FP.M
def tZ (x:N2):Prop:=wv x.1<FP.M∧wv x.2<FP.M
def Ia (x:Nat):Prop:=wv x=0
def OA (x:N2):Prop:=wv x.1=0∧wv x.2=0
theorem Xw {x:Nat} (h:wV x):aA (q1 x)=aA (e1 (m1 x)):=q_f h
theorem Xv {x:N2} (h:tZ x):aA (q2 x)=aA (e2 (m2 x)):=by
 show aA (.q x.1::[.q x.2])=aA (.f (m1 x.1)::[.f (m1 x.2)]);rw[QY,QY (.f _),q_f h.1,q_f h.2]
theorem tP {c:Int} (h:c≠0):aI .neq .i64 c 0=some (.bool true):=by
 show some (Value.bool (c != 0))=_;rw[bne_iff_ne.2 h]
theorem AN {c:Int} (h:c=0):aI .neq .i64 c 0=some (.bool false):=by rw[h]; rfl
open Classical in
theorem aJL:∃g:Nat→Nat→Bool→Int×J1,∀x y i,g x y i=if i=true then (if Ia x∧Ia y then (0,(F1.zero,F1.zero,F1.zero))else (44,(F1.zero,F1.zero,F1.zero)))else if ¬(wV x∧wV y)then (21,(F1.zero,F1.zero,F1.zero))else if F1.mul (m1 y) (m1 y)=F1.add (F1.mul (F1.mul (m1 x) (m1 x)) (m1 x)) (fm 3)then (0,(m1 x,m1 y,F1.one))else (41,(F1.zero,F1.zero,F1.zero)):=⟨_,fun _ _ _=>rfl⟩
def BD:Nat→Nat→Bool→Int×J1:=Classical.choose aJL
open Classical in
theorem DR (x y:Nat) (i:Bool):BD x y i=if i=true then (if Ia x∧Ia y then (0,(F1.zero,F1.zero,F1.zero))else (44,(F1.zero,F1.zero,F1.zero)))else if ¬(wV x∧wV y)then (21,(F1.zero,F1.zero,F1.zero))else if F1.mul (m1 y) (m1 y)=F1.add (F1.mul (F1.mul (m1 x) (m1 x)) (m1 x)) (fm 3)then (0,(m1 x,m1 y,F1.one))else (41,(F1.zero,F1.zero,F1.zero)):=Classical.choose_spec aJL x y i
theorem aBk (x y:Nat):aO prog (qG prog) (fun _=>⟨fun s=>nU (bif Nat.beq s 28 then true else bif Nat.beq s 33 then true else true),fun s=>false,fun _=>none⟩) f154 80 [.v (.fl (q1 x)),.v (.fl (q1 y)),.v (.im (.bool true))]=some ([aA (q1 x)≠aA (e1 F1.zero)],.many [.fl (bK (F1.zero,F1.zero,F1.zero)),.im (.int .i64 44)]):=by kernel_rfl
theorem aBj (x y:Nat):aO prog (qG prog) (fun _=>⟨fun s=>nU (bif Nat.beq s 28 then true else bif Nat.beq s 33 then true else true),fun s => !(Nat.beq s 18),fun _=>none⟩) f154 80 [.v (.fl (q1 x)),.v (.fl (q1 y)),.v (.im (.bool true))]=some ([aA (q1 x)=aA (e1 F1.zero),aA (q1 y)≠aA (e1 F1.zero)],.many [.fl (bK (F1.zero,F1.zero,F1.zero)),.im (.int .i64 44)]):=by kernel_rfl
theorem aBi (x y:Nat):aO prog (qG prog) (fun _=>⟨fun s=>nU (bif Nat.beq s 28 then true else bif Nat.beq s 33 then true else true),fun s=>true,fun _=>none⟩) f154 80 [.v (.fl (q1 x)),.v (.fl (q1 y)),.v (.im (.bool true))]=some ([aA (q1 x)=aA (e1 F1.zero),aA (q1 y)=aA (e1 F1.zero)],.many [.fl (bK (F1.zero,F1.zero,F1.zero)),.im (.int .i64 0)]):=by kernel_rfl
theorem aBh (x y:Nat):aO prog (qG prog) (fun _=>⟨fun s=>nU (bif Nat.beq s 28 then false else bif Nat.beq s 33 then true else true),fun s=>true,fun _=>none⟩) f154 80 [.v (.fl (q1 x)),.v (.fl (q1 y)),.v (.im (.bool false))]=some ([¬wv x<FP.M],.many [.fl (bK (F1.zero,F1.zero,F1.zero)),.im (.int .i64 21)]):=by kernel_rfl
theorem aBg (x y:Nat):aO prog (qG prog) (fun _=>⟨fun s=>nU (bif Nat.beq s 28 then true else bif Nat.beq s 33 then false else true),fun s=>true,fun _=>none⟩) f154 80 [.v (.fl (q1 x)),.v (.fl (q1 y)),.v (.im (.bool false))]=some ([wv x<FP.M,¬wv y<FP.M],.many [.fl (bK (F1.zero,F1.zero,F1.zero)),.im (.int .i64 21)]):=by kernel_rfl
theorem aBf (x y:Nat):aO prog (qG prog) (fun _=>⟨fun s=>nU (bif Nat.beq s 28 then true else bif Nat.beq s 33 then true else true),fun s=>false,fun _=>none⟩) f154 80 [.v (.fl (q1 x)),.v (.fl (q1 y)),.v (.im (.bool false))]=some ([wv x<FP.M,wv y<FP.M,wv y<FP.M,wv y<FP.M,wv x<FP.M,wv x<FP.M,wv x<FP.M,aA (e1 (F1.mul (m1 y) (m1 y)))≠aA (e1 (F1.add (F1.mul (F1.mul (m1 x) (m1 x)) (m1 x)) (fm 3)))],.many [.fl (bK (F1.zero,F1.zero,F1.zero)),.im (.int .i64 41)]):=by kernel_rfl
theorem aBe (x y:Nat):aO prog (qG prog) (fun _=>⟨fun s=>nU (bif Nat.beq s 28 then true else bif Nat.beq s 33 then true else true),fun s=>true,fun _=>none⟩) f154 80 [.v (.fl (q1 x)),.v (.fl (q1 y)),.v (.im (.bool false))]=some ([wv x<FP.M,wv y<FP.M,wv y<FP.M,wv y<FP.M,wv x<FP.M,wv x<FP.M,wv x<FP.M,aA (e1 (F1.mul (m1 y) (m1 y)))=aA (e1 (F1.add (F1.mul (F1.mul (m1 x) (m1 x)) (m1 x)) (fm 3)))],.many [.fl (q1 x++(q1 y++e1 F1.one)),.im (.int .i64 0)]):=by kernel_rfl
theorem aYS (x y:Nat) (i:Bool) (args:List Value) (w:World) (ha:bZ w [.v (.fl (q1 x)),.v (.fl (q1 y)),.v (.im (.bool i))] args):Good prog 154 (.many [.fl (bK (BD x y i).2),.im (.int .i64 (BD x y i).1)]) args w:=by
 rw[DR];cases i with
 | true =>
  rw[if_pos rfl]
  by_cases hx:Ia x
  ·by_cases hy:Ia y
   ·rw[if_pos ⟨hx,hy⟩];exact aB aE (fun _ s=>mM _) (aJ prog) func154 (aBi x y) ⟨dH.2 hx,dH.2 hy,trivial⟩ ha
   ·rw[if_neg (fun h=>hy h.2)];exact aB aE (fun _ s=>mM _) (aJ prog) func154 (aBj x y) ⟨dH.2 hx,fun h=>hy (dH.1 h),trivial⟩ ha
  ·rw[if_neg (fun h=>hx h.1)];exact aB aE (fun _ s=>mM _) (aJ prog) func154 (aBk x y) ⟨fun h=>hx (dH.1 h),trivial⟩ ha
 | false =>
  rw[if_neg (by simp)]
  by_cases hx:wV x
  ·by_cases hy:wV y
   ·rw[if_neg (fun h=>h ⟨hx,hy⟩)]
    by_cases h:F1.mul (m1 y) (m1 y)=F1.add (F1.mul (F1.mul (m1 x) (m1 x)) (m1 x)) (fm 3)
    ·rw[if_pos h];refine Good.congr (r:=.many [.fl (q1 x++(q1 y++e1 F1.one)),.im (.int .i64 0)]) ?_ ?_
     ·exact aB aE (fun _ s=>mM _) (aJ prog) func154 (aBe x y) ⟨hx,hy,hy,hy,hx,hx,hx,by rw[h],trivial⟩ ha
     ·have e:aA (q1 x++(q1 y++e1 F1.one))=aA (bK (m1 x,m1 y,F1.one)):=by
       rw[aT,aT,Xw hx,Xw hy];rfl
      show Value.tuple #[.agg (aA _).toArray,_]=.tuple #[.agg (aA _).toArray,_];rw[e]
    ·rw[if_neg h];exact aB aE (fun _ s=>mM _) (aJ prog) func154 (aBf x y) ⟨hx,hy,hy,hy,hx,hx,hx,eC h,trivial⟩ ha
   ·rw[if_pos (fun h=>hy h.2)];exact aB aE (fun _ s=>mM _) (aJ prog) func154 (aBg x y) ⟨hx,hy,trivial⟩ ha
  ·rw[if_pos (fun h=>hx h.1)];exact aB aE (fun _ s=>mM _) (aJ prog) func154 (aBh x y) ⟨hx,trivial⟩ ha
def aXM:kC
 | [.v (.fl l),.v (.fl m),.v (.im (.bool i))]=>match vZ l,vZ m with
  | some x,some y=>some ([],.many [.fl (bK (BD x y i).2),.im (.int .i64 (BD x y i).1)])
  | _,_=>none
 | _=>none
theorem aPg:∀cs pre r,aXM cs=some (pre,r)→bC pre→∀(args:List Value) (w:World),bZ w cs args→Good prog 154 r args w:=by
 intro cs pre r hg hp args w ha;unfold aXM at hg;split at hg
 ·rename_i l m i;split at hg
  ·rename_i x y hx hy;cases hg;refine aYS x y i args w ?_
   match args,ha with
   | [u,v,t],ha =>
    refine⟨?_,?_,ha.2.2⟩
    ·show u=.agg (aA (q1 x)).toArray;rw[←dG l x hx]; exact ha.1
    ·show v=.agg (aA (q1 y)).toArray;rw[←dG m y hy]; exact ha.2.1
   | [],ha=>exact ha.elim
   | [_],ha=>exact ha.2.elim
   | [_,_],ha=>exact ha.2.2.elim
   | _::_::_::_::_,ha=>exact ha.2.2.2.elim
  ·cases hg
 ·cases hg
def aKO (d:Bool):Tab:=(nU d).add 154 aXM
theorem aGP (d:Bool):TabOk prog (aKO d):=(mM d).ad func154 aPg
abbrev lJ:=Nat×Nat×Bool
def kK (p:lJ):List At:=[.q p.1,.q p.2.1,.c (.bool p.2.2)]
def rg1:List At→Option lJ
 | [a,b,.c (.bool i)]=>match Fo a,Fo b with|some x,some y=>some (x,y,i)|_,_=>none
 | _=>none
theorem nX {a:At} {x:Nat} (h:Fo a=some x):a.cells=w4 x:=by cases a<;>cases h<;>rfl
theorem sM:Rd rg1 kK:=fun l x h=>by
 unfold rg1 at h;split at h
 ·split at h
  ·rename_i x y h1 h2;cases h;show _++(_++_)=w4 _++(w4 _++_);rw[nX h1,nX h2]
  ·cases h
 ·cases h
def xK {R:Type}:Pt R→Bool|none=>true|some _=>false
def ptX {R:Type} (K:CR R):Pt R→R|none=>K.zero|some p=>p.1
def ptY {R:Type} (K:CR R):Pt R→R|none=>K.zero|some p=>p.2
def gH (p:Pt Fq):List At:=[.f (ptX F1 p),.f (ptY F1 p),.c (.bool (xK p))]
theorem aMt (d:Bool) (p:lJ):aO prog (qG prog) (fun _=>⟨fun s=>aKO d,fun s=>true,fun _=>none⟩) f99 80 [.v (.fl (kK p))]=some ([],.many [.fl (bK (BD p.1 p.2.1 p.2.2).2),.im (.int .i64 (BD p.1 p.2.1 p.2.2).1)]):=by kernel_rfl
def aKH (d:Bool):Tab:=(aKO d).add 99 (g1 rg1 fun p=>([],.many [.fl (bK (BD p.1 p.2.1 p.2.2).2),.im (.int .i64 (BD p.1 p.2.1 p.2.2).1)]))
theorem aGL (d:Bool):TabOk prog (aKH d):=(aGP d).ad func99 (bP sM fun p hp args w ha=>aB aE (fun _ s=>aGP _) (aJ prog) func99 (aMt d p) trivial ha)
theorem aMy (d:Bool) (p:lJ):aO prog (qG prog) (fun _=>⟨fun s=>aKH d,fun s=>true,fun _=>none⟩) f160 80 [.v (.fl (kK p))]=some ([],.one (.im (.int .i64 (BD p.1 p.2.1 p.2.2).1))):=by kernel_rfl
def Yr (d:Bool):Tab:=(aKH d).add 160 (g1 rg1 fun p=>([],.one (.im (.int .i64 (BD p.1 p.2.1 p.2.2).1))))
theorem Nr (d:Bool):TabOk prog (Yr d):=(aGL d).ad func160 (bP sM fun p hp args w ha=>aB aE (fun _ s=>aGL _) (aJ prog) func160 (aMy d p) trivial ha)
theorem Lk (p:J1):aO prog (qG prog) (fun _=>⟨fun s=>Yr true,fun s=>true,fun _=>none⟩) f100 80 [.v (.fl (bK p))]=some ([p.2.2=F1.zero],.one (.fl (gH none))):=by kernel_rfl
theorem Ll (p:J1):aO prog (qG prog) (fun _=>⟨fun s=>Yr false,fun s=>true,fun _=>none⟩) f100 80 [.v (.fl (bK p))]=some ([p.2.2≠F1.zero],.one (.fl (gH (some (F1.mul p.1 (F1.mul (cF p.2.2) (cF p.2.2)),F1.mul p.2.1 (F1.mul (F1.mul (cF p.2.2) (cF p.2.2)) (cF p.2.2))))))):=by kernel_rfl
theorem aNL (p:J1) (args:List Value) (w:World) (ha:bZ w [.v (.fl (bK p))] args):Good prog 100 (.one (.fl (gH (fQ F1 cF p)))) args w:=by
 by_cases h:p.2.2=F1.zero
 ·rw[dB h];exact aB aE (fun _ s=>Nr _) (aJ prog) func100 (Lk p) ⟨h,trivial⟩ ha
 ·rw[dR h];exact aB aE (fun _ s=>Nr _) (aJ prog) func100 (Ll p) ⟨h,trivial⟩ ha
def Qr (d:Bool):Tab:=(Yr d).add 100 (g1 YP fun p=>([],.one (.fl (gH (fQ F1 cF p)))))
theorem Ul (d:Bool):TabOk prog (Qr d):=(Nr d).ad func100 (bP iX fun p hp args w ha=>aNL p args w ha)
def iG:List At:=[.c (.func (.func 99) #[] #[]),.c (.func (.func 100) #[] #[])]
theorem aEY (d:Bool):aO prog (qG prog) (fun _=>⟨fun s=>Qr d,fun s=>true,fun _=>none⟩) f47 80 []=some ([],.one (.fl iG)):=by kernel_rfl
def tM (d:Bool):Tab:=(Qr d).add 47 (g0 (.one (.fl iG)))
theorem pP (d:Bool):TabOk prog (tM d):=(Ul d).ad func47 (gT fun w=>aB aE (fun _ s=>Ul _) (aJ prog) func47 (aEY d) trivial (args:=[]) trivial)
open Classical in
theorem aJI:∃g:N2→N2→Bool→Int×J2,∀x y i,g x y i=if i=true then (if OA x∧OA y then (0,(F2.zero,F2.zero,F2.zero))else (44,(F2.zero,F2.zero,F2.zero)))else if ¬(tZ x∧tZ y)then (21,(F2.zero,F2.zero,F2.zero))else if F2.mul (m2 y) (m2 y)=F2.add (F2.mul (F2.mul (m2 x) (m2 x)) (m2 x)) dO then (0,(m2 x,m2 y,F2.one))else (41,(F2.zero,F2.zero,F2.zero)):=⟨_,fun _ _ _=>rfl⟩
def pB:N2→N2→Bool→Int×J2:=Classical.choose aJI
open Classical in
theorem yP (x y:N2) (i:Bool):pB x y i=if i=true then (if OA x∧OA y then (0,(F2.zero,F2.zero,F2.zero))else (44,(F2.zero,F2.zero,F2.zero)))else if ¬(tZ x∧tZ y)then (21,(F2.zero,F2.zero,F2.zero))else if F2.mul (m2 y) (m2 y)=F2.add (F2.mul (F2.mul (m2 x) (m2 x)) (m2 x)) dO then (0,(m2 x,m2 y,F2.one))else (41,(F2.zero,F2.zero,F2.zero)):=Classical.choose_spec aJI x y i
theorem aBd (x y:N2):aO prog (qG prog) (fun _=>⟨fun s=>tM (bif Nat.beq s 28 then true else bif Nat.beq s 33 then true else true),fun s=>false,fun _=>none⟩) f157 80 [.v (.fl (q2 x)),.v (.fl (q2 y)),.v (.im (.bool true))]=some ([aA (q2 x)≠aA (e2 F2.zero)],.many [.fl (bJ (F2.zero,F2.zero,F2.zero)),.im (.int .i64 44)]):=by kernel_rfl
theorem aBc (x y:N2):aO prog (qG prog) (fun _=>⟨fun s=>tM (bif Nat.beq s 28 then true else bif Nat.beq s 33 then true else true),fun s => !(Nat.beq s 18),fun _=>none⟩) f157 80 [.v (.fl (q2 x)),.v (.fl (q2 y)),.v (.im (.bool true))]=some ([aA (q2 x)=aA (e2 F2.zero),aA (q2 y)≠aA (e2 F2.zero)],.many [.fl (bJ (F2.zero,F2.zero,F2.zero)),.im (.int .i64 44)]):=by kernel_rfl
theorem aBb (x y:N2):aO prog (qG prog) (fun _=>⟨fun s=>tM (bif Nat.beq s 28 then true else bif Nat.beq s 33 then true else true),fun s=>true,fun _=>none⟩) f157 80 [.v (.fl (q2 x)),.v (.fl (q2 y)),.v (.im (.bool true))]=some ([aA (q2 x)=aA (e2 F2.zero),aA (q2 y)=aA (e2 F2.zero)],.many [.fl (bJ (F2.zero,F2.zero,F2.zero)),.im (.int .i64 0)]):=by kernel_rfl
theorem aBa (x y:N2):aO prog (qG prog) (fun _=>⟨fun s=>tM (bif Nat.beq s 28 then false else bif Nat.beq s 33 then true else true),fun s=>true,fun _=>none⟩) f157 80 [.v (.fl (q2 x)),.v (.fl (q2 y)),.v (.im (.bool false))]=some ([¬(wv x.1<FP.M∧wv x.2<FP.M)],.many [.fl (bJ (F2.zero,F2.zero,F2.zero)),.im (.int .i64 21)]):=by kernel_rfl
theorem aAZ (x y:N2):aO prog (qG prog) (fun _=>⟨fun s=>tM (bif Nat.beq s 28 then true else bif Nat.beq s 33 then false else true),fun s=>true,fun _=>none⟩) f157 80 [.v (.fl (q2 x)),.v (.fl (q2 y)),.v (.im (.bool false))]=some ([(wv x.1<FP.M∧wv x.2<FP.M),¬(wv y.1<FP.M∧wv y.2<FP.M)],.many [.fl (bJ (F2.zero,F2.zero,F2.zero)),.im (.int .i64 21)]):=by kernel_rfl
theorem aAY (x y:N2):aO prog (qG prog) (fun _=>⟨fun s=>tM (bif Nat.beq s 28 then true else bif Nat.beq s 33 then true else true),fun s=>false,fun _=>none⟩) f157 80 [.v (.fl (q2 x)),.v (.fl (q2 y)),.v (.im (.bool false))]=some ([(wv x.1<FP.M∧wv x.2<FP.M),(wv y.1<FP.M∧wv y.2<FP.M),aA (e2 (F2.mul (m2 y) (m2 y)))≠aA (e2 (F2.add (F2.mul (F2.mul (m2 x) (m2 x)) (m2 x)) dO))],.many [.fl (bJ (F2.zero,F2.zero,F2.zero)),.im (.int .i64 41)]):=by kernel_rfl
theorem aAX (x y:N2):aO prog (qG prog) (fun _=>⟨fun s=>tM (bif Nat.beq s 28 then true else bif Nat.beq s 33 then true else true),fun s=>true,fun _=>none⟩) f157 80 [.v (.fl (q2 x)),.v (.fl (q2 y)),.v (.im (.bool false))]=some ([(wv x.1<FP.M∧wv x.2<FP.M),(wv y.1<FP.M∧wv y.2<FP.M),aA (e2 (F2.mul (m2 y) (m2 y)))=aA (e2 (F2.add (F2.mul (F2.mul (m2 x) (m2 x)) (m2 x)) dO))],.many [.fl (q2 x++(q2 y++e2 F2.one)),.im (.int .i64 0)]):=by kernel_rfl
theorem aYQ (x y:N2) (i:Bool) (args:List Value) (w:World) (ha:bZ w [.v (.fl (q2 x)),.v (.fl (q2 y)),.v (.im (.bool i))] args):Good prog 157 (.many [.fl (bJ (pB x y i).2),.im (.int .i64 (pB x y i).1)]) args w:=by
 rw[yP];cases i with
 | true =>
  rw[if_pos rfl]
  by_cases hx:OA x
  ·by_cases hy:OA y
   ·rw[if_pos ⟨hx,hy⟩];exact aB aE (fun _ s=>pP _) (aJ prog) func157 (aBb x y) ⟨cI.2 hx,cI.2 hy,trivial⟩ ha
   ·rw[if_neg (fun h=>hy h.2)];exact aB aE (fun _ s=>pP _) (aJ prog) func157 (aBc x y) ⟨cI.2 hx,fun h=>hy (cI.1 h),trivial⟩ ha
  ·rw[if_neg (fun h=>hx h.1)];exact aB aE (fun _ s=>pP _) (aJ prog) func157 (aBd x y) ⟨fun h=>hx (cI.1 h),trivial⟩ ha
 | false =>
  rw[if_neg (by simp)]
  by_cases hx:tZ x
  ·by_cases hy:tZ y
   ·rw[if_neg (fun h=>h ⟨hx,hy⟩)]
    by_cases h:F2.mul (m2 y) (m2 y)=F2.add (F2.mul (F2.mul (m2 x) (m2 x)) (m2 x)) dO
    ·rw[if_pos h];refine Good.congr (r:=.many [.fl (q2 x++(q2 y++e2 F2.one)),.im (.int .i64 0)]) ?_ ?_
     ·exact aB aE (fun _ s=>pP _) (aJ prog) func157 (aAX x y) ⟨hx,hy,by rw[h],trivial⟩ ha
     ·have e:aA (q2 x++(q2 y++e2 F2.one))=aA (bJ (m2 x,m2 y,F2.one)):=by
       rw[aT,aT,Xv hx,Xv hy];rfl
      show Value.tuple #[.agg (aA _).toArray,_]=.tuple #[.agg (aA _).toArray,_];rw[e]
    ·rw[if_neg h];exact aB aE (fun _ s=>pP _) (aJ prog) func157 (aAY x y) ⟨hx,hy,dC h,trivial⟩ ha
   ·rw[if_pos (fun h=>hy h.2)];exact aB aE (fun _ s=>pP _) (aJ prog) func157 (aAZ x y) ⟨hx,hy,trivial⟩ ha
  ·rw[if_pos (fun h=>hx h.1)];exact aB aE (fun _ s=>pP _) (aJ prog) func157 (aBa x y) ⟨hx,trivial⟩ ha
def aXL:kC
 | [.v (.fl l),.v (.fl m),.v (.im (.bool i))]=>match rq2 l,rq2 m with
  | some x,some y=>some ([],.many [.fl (bJ (pB x y i).2),.im (.int .i64 (pB x y i).1)])
  | _,_=>none
 | _=>none
theorem aPf:∀cs pre r,aXL cs=some (pre,r)→bC pre→∀(args:List Value) (w:World),bZ w cs args→Good prog 157 r args w:=by
 intro cs pre r hg hp args w ha;unfold aXL at hg;split at hg
 ·rename_i l m i;split at hg
  ·rename_i x y hx hy;cases hg;refine aYQ x y i args w ?_
   match args,ha with
   | [u,v,t],ha =>
    refine⟨?_,?_,ha.2.2⟩
    ·show u=.agg (aA (q2 x)).toArray;rw[←pU l x hx]; exact ha.1
    ·show v=.agg (aA (q2 y)).toArray;rw[←pU m y hy]; exact ha.2.1
   | [],ha=>exact ha.elim
   | [_],ha=>exact ha.2.elim
   | [_,_],ha=>exact ha.2.2.elim
   | _::_::_::_::_,ha=>exact ha.2.2.2.elim
  ·cases hg
 ·cases hg
def aKN (d:Bool):Tab:=(tM d).add 157 aXL
theorem aGO (d:Bool):TabOk prog (aKN d):=(pP d).ad func157 aPf
abbrev iK:=N2×N2×Bool
def gN (p:iK):List At:=[.q p.1.1,.q p.1.2,.q p.2.1.1,.q p.2.1.2,.c (.bool p.2.2)]
def Mo:List At→Option iK
 | [a,b,c,d,.c (.bool i)]=>match Fo a,Fo b,Fo c,Fo d with|some x,some y,some z,some w=>some ((x,y),(z,w),i)|_,_,_,_=>none
 | _=>none
theorem lV:Rd Mo gN:=fun l x h=>by
 unfold Mo at h;split at h
 ·split at h
  ·rename_i x y z w h1 h2 h3 h4;cases h;show _++(_++(_++(_++_)))=w4 _++(w4 _++(w4 _++(w4 _++_)));rw[nX h1,nX h2,nX h3,nX h4]
  ·cases h
 ·cases h
def eI (p:Pt Q2):List At:=[.f (ptX F2 p).1,.f (ptX F2 p).2,.f (ptY F2 p).1,.f (ptY F2 p).2,.c (.bool (xK p))]
theorem aMs (d:Bool) (p:iK):aO prog (qG prog) (fun _=>⟨fun s=>aKN d,fun s=>true,fun _=>none⟩) f103 80 [.v (.fl (gN p))]=some ([],.many [.fl (bJ (pB p.1 p.2.1 p.2.2).2),.im (.int .i64 (pB p.1 p.2.1 p.2.2).1)]):=by kernel_rfl
def aKG (d:Bool):Tab:=(aKN d).add 103 (g1 Mo fun p=>([],.many [.fl (bJ (pB p.1 p.2.1 p.2.2).2),.im (.int .i64 (pB p.1 p.2.1 p.2.2).1)]))
theorem aGK (d:Bool):TabOk prog (aKG d):=(aGO d).ad func103 (bP lV fun p hp args w ha=>aB aE (fun _ s=>aGO _) (aJ prog) func103 (aMs d p) trivial ha)
theorem aMx (d:Bool) (p:iK):aO prog (qG prog) (fun _=>⟨fun s=>aKG d,fun s=>true,fun _=>none⟩) f161 80 [.v (.fl (gN p))]=some ([],.one (.im (.int .i64 (pB p.1 p.2.1 p.2.2).1))):=by kernel_rfl
def Yq (d:Bool):Tab:=(aKG d).add 161 (g1 Mo fun p=>([],.one (.im (.int .i64 (pB p.1 p.2.1 p.2.2).1))))
theorem Nq (d:Bool):TabOk prog (Yq d):=(aGK d).ad func161 (bP lV fun p hp args w ha=>aB aE (fun _ s=>aGK _) (aJ prog) func161 (aMx d p) trivial ha)
theorem Li (p:J2):aO prog (qG prog) (fun _=>⟨fun s=>Yq true,fun s=>true,fun _=>none⟩) f104 80 [.v (.fl (bJ p))]=some ([p.2.2=F2.zero],.one (.fl (eI none))):=by kernel_rfl
theorem Lj (p:J2):aO prog (qG prog) (fun _=>⟨fun s=>Yq false,fun s=>true,fun _=>none⟩) f104 80 [.v (.fl (bJ p))]=some ([p.2.2≠F2.zero],.one (.fl (eI (some (F2.mul p.1 (F2.mul (eD p.2.2) (eD p.2.2)),F2.mul p.2.1 (F2.mul (F2.mul (eD p.2.2) (eD p.2.2)) (eD p.2.2))))))):=by kernel_rfl
theorem aNK (p:J2) (args:List Value) (w:World) (ha:bZ w [.v (.fl (bJ p))] args):Good prog 104 (.one (.fl (eI (fQ F2 eD p)))) args w:=by
 by_cases h:p.2.2=F2.zero
 ·rw[dB h];exact aB aE (fun _ s=>Nq _) (aJ prog) func104 (Li p) ⟨h,trivial⟩ ha
 ·rw[dR h];exact aB aE (fun _ s=>Nq _) (aJ prog) func104 (Lj p) ⟨h,trivial⟩ ha
def YC (d:Bool):Tab:=(Yq d).add 104 (g1 YO fun p=>([],.one (.fl (eI (fQ F2 eD p)))))
theorem UP (d:Bool):TabOk prog (YC d):=(Nq d).ad func104 (bP iW fun p hp args w ha=>aNK p args w ha)
def gA:List At:=[.c (.func (.func 103) #[] #[]),.c (.func (.func 104) #[] #[])]
theorem aEX (d:Bool):aO prog (qG prog) (fun _=>⟨fun s=>YC d,fun s=>true,fun _=>none⟩) f49 80 []=some ([],.one (.fl gA)):=by kernel_rfl
def tL (d:Bool):Tab:=(YC d).add 49 (g0 (.one (.fl gA)))
theorem pO (d:Bool):TabOk prog (tL d):=(UP d).ad func49 (gT fun w=>aB aE (fun _ s=>UP _) (aJ prog) func49 (aEX d) trivial (args:=[]) trivial)
theorem Cc (d:Bool) (p:iK):aO prog (qG prog) (fun _=>⟨fun s=>tL d,fun s=>true,fun s=>bif Nat.beq s 17 then some (.bool true)else none⟩) f218 80 [.v (.fl gA),.v (.fl (gN p))]=some ([aI .neq .i64 (pB p.1 p.2.1 p.2.2).1 0=some (.bool true)],.many [.fl (eI (some (F2.zero,F2.zero))),.im (.int .i64 (pB p.1 p.2.1 p.2.2).1)]):=by kernel_rfl
theorem Cd (d:Bool) (p:iK):aO prog (qG prog) (fun _=>⟨fun s=>tL d,fun s=>true,fun s=>bif Nat.beq s 17 then some (.bool false)else none⟩) f218 80 [.v (.fl gA),.v (.fl (gN p))]=some ([aI .neq .i64 (pB p.1 p.2.1 p.2.2).1 0=some (.bool false)],.many [.fl (eI (fQ F2 eD (vA F2 (pB p.1 p.2.1 p.2.2).2))),.im (.int .i64 0)]):=by kernel_rfl
def aS (n:Nat):Nat:=if wv n=0 then 0 else Nat.log2 (wv n)+1
theorem pR (n:Nat):LenIs (wv n) (aS n):=by
 unfold aS
 by_cases h:wv n=0
 ·rw[if_pos h,h]; exact⟨by decide,fun h=>by cases h⟩
 ·rw[if_neg h];exact⟨Nat.lt_log2_self,fun _=>by rw[Nat.add_sub_cancel]; exact Nat.log2_self_le h⟩
theorem aQx (n:Nat):wv n<2^256:=by
 obtain⟨h0,h1,h2,h3⟩:=cM n;unfold wv aC;have:(2:Nat)^256=115792089237316195423570985008687907853269984665640564039457584007913129639936:=by decide
 omega
theorem AS (n:Nat):aS n≤256:=by
 rcases Nat.lt_or_ge 256 (aS n)with h|h
 ·have h1:=(pR n).2 (by omega);have h2:=Nat.pow_le_pow_right (show 0<2 by omega) (show 256≤aS n-1 by omega);have:=aQx n;omega
 ·exact h
def Gi:kC
 | [.v (.fl l)]=>match vZ l with
  | some n=>some ([],.one (.im (.int .i64 (aS n:Nat))))
  | none=>none
 | _=>none
theorem aHM:∀cs pre r,Gi cs=some (pre,r)→bC pre→∀(args:List Value) (w:World),bZ w cs args→Good prog 260 r args w:=by
 intro cs pre r hg hp args w ha;unfold Gi at hg;split at hg
 ·rename_i l;split at hg
  ·rename_i n hn;cases hg;rw[BH ha,dG l _ hn];refine (DD _ _ _ _ (cM n) w).mono ?_
   rintro e w' ⟨L,rfl,_,h,hbl⟩
   cases h.uniq (pR n);exact⟨rfl,hbl⟩
  ·cases hg
 ·cases hg
def VZ:kC
 | [.v (.fl l),.v (.im (.int .i64 (.ofNat i)))]=>match vZ l with
  | some n=>some ([i<256],.one (.im (.int .i64 (dD (wv n) i:Nat))))
  | none=>none
 | _=>none
theorem aKc:∀cs pre r,VZ cs=some (pre,r)→bC pre→∀(args:List Value) (w:World),bZ w cs args→Good prog 167 r args w:=by
 intro cs pre r hg hp args w ha;unfold VZ at hg;split at hg
 ·rename_i l i;split at hg
  ·rename_i n hn;cases hg
   match args,ha with
   | [v,u],ha =>
    have h1:v=.agg (aA l).toArray:=ha.1;have h2:u=.int .i64 (Int.ofNat i):=ha.2.1;rw[dG l _ hn]at h1;subst h1; subst h2;exact aKd _ _ _ _ i (cM n) hp.1 w
   | [],ha=>exact ha.elim
   | [_],ha=>exact ha.2.elim
   | _::_::_::_,ha=>exact ha.2.2.elim
  ·cases hg
 ·cases hg
def aXt:kC
 | [.v (.fl l),.v (.im (.int .i64 (.ofNat k)))]=>match vZ l with
  | some n=>some ([k<9223372036854775808],.one (.fl (q1 (wv n/2^k))))
  | none=>none
 | _=>none
theorem aUu:∀cs pre r,aXt cs=some (pre,r)→bC pre→∀(args:List Value) (w:World),bZ w cs args→Good prog 254 r args w:=by
 intro cs pre r hg hp args w ha;unfold aXt at hg;split at hg
 ·rename_i l k;split at hg
  ·rename_i n hn;cases hg
   match args,ha with
   | [v,u],ha =>
    have h1:v=.agg (aA l).toArray:=ha.1;have h2:u=.int .i64 (Int.ofNat k):=ha.2.1;rw[dG l _ hn]at h1;subst h1; subst h2;have hk:k<9223372036854775808:=hp.1;refine (vX _ _ _ _ (Int.ofNat k) (cM n) (by simp) (by simp; omega) w).mono ?_
    rintro e w' ⟨s0,s1,s2,s3,rfl,hs,hv,hb⟩
    have hlt:wv n/2^k<115792089237316195423570985008687907853269984665640564039457584007913129639936:=by
     refine Nat.lt_of_le_of_lt (Nat.div_le_self _ _) ?_;have:=aQx n;have e:(2:Nat)^256=115792089237316195423570985008687907853269984665640564039457584007913129639936:=by decide
     omega
    obtain⟨rfl,rfl,rfl,rfl⟩:=oR hs hlt hv;exact⟨rfl,hb⟩
   | [],ha=>exact ha.elim
   | [_],ha=>exact ha.2.elim
   | _::_::_::_,ha=>exact ha.2.2.elim
  ·cases hg
 ·cases hg
def Sj (x:Nat):Nat:=fw x 0*2%18446744073709551616
def nF (x p:Nat):Nat:=(if p=0 then Sj x else fw (wv x/2^(p*4-1)) 0)%32
def nG (x p:Nat):Int:=((nF x p+1)/2:Nat)-(if 16≤nF x p then 16 else 0:Int)
def gJ (d:Bool):Tab:=((YC d).add 260 Gi).add 254 aXt
theorem kS (d:Bool):TabOk prog (gJ d):=((UP d).ad func260 aHM).ad func254 aUu
def fA (b o n m:Nat):List At:=[.c (lQ b o n m),.c (iI 4)]
def atX (old:Nat→Nat→List At→Prop) (x i w:Nat):Ext :=
 { idx:=assoc [(13,i)],ld:=assoc [(14,[At.q x])],st:=fun _=>none,gen:=assoc [(17,uI (Sj x)),(32,uI 32),(34,uI w),(37,iI (w+1)),(42,uI (w/16)),(47,iI 16)],mks:=fun _=>none,ky:=fun _=>none,old:=old,T2:=Fr0 }
def atN (p w:Nat) (c0 c1:Bool) (v:Int):Nat→Option Value:=assoc [(19,.bool c0),(24,iI (p*4)),(25,iI (p*4-1)),(36,uI (w+1)),(38,iI ((w+1)/2)),(43,.bool c1),(48,.int .i64 v)]
def pA (op:BinOp) (t:Nat) (x y:Operand) (v u r:Value):Prop:=∀w:World,(do eqGuard op t x y v u; binOp op t v u:Sem Value).run prog w=.ok r w
theorem aBr (old:Nat→Nat→List At→Prop) (b o n m i p x w:Nat) (v:Int):aO prog (qX prog (atX old x i w)) (fun _=>⟨fun s=>gJ true,fun s=>true,atN p w true true v⟩) f234 80 [.v (.fl (fA b o n m)),.v (.im (iI i)),.v (.im (iI p))]=some ([Int.ofNat i=Int.ofNat i,i<n,old b (o+i*4) [At.q x],dF [At.q x]=4,pA .shl 22 (.tmp 16) (.const (.int .u64 1)) (.int .u64 (fw x 0:Nat)) (.int .u64 1) (uI (Sj x)),aI .gtr .i64 (Int.ofNat p) 0=some (.bool true),aI .mul .i64 (Int.ofNat p) (Int.ofNat 4)=some (iI (p*4)),aI .sub .i64 (Int.ofNat (p*4)) 1=some (iI (p*4-1)),p*4-1<9223372036854775808,pA .shl 22 (.const (.int .u64 1)) (.tmp 31) (.int .u64 1) (.int .i64 (IntKind.i64.wrap (Int.ofNat 4+1))) (uI 32),pA .and 22 (.tmp 28) (.tmp 33) (.int .u64 (fw (wv x/2^(p*4-1)) 0:Nat)) (.int .u64 (IntKind.u64.wrap (Int.ofNat 32-1))) (uI w),aI .add .u64 (Int.ofNat w) 1=some (uI (w+1)),∀W:World,(convert 22 3 (uI (w+1))).run prog W=.ok (iI (w+1)) W,aI .quo .i64 (Int.ofNat (w+1)) 2=some (iI ((w+1)/2)),pA .shr 22 (.tmp 39) (.tmp 41) (uI w) (iI 4) (uI (w/16)),aI .eql .u64 (Int.ofNat (w/16)) 1=some (.bool true),pA .shl 3 (.const (.int .i64 1)) (.tmp 46) (.int .i64 1) (iI 4) (iI 16),aI .sub .i64 (Int.ofNat ((w+1)/2)) (Int.ofNat 16)=some (.int .i64 v)],.one (.im (.int .i64 v))):=by kernel_rfl
theorem aBs (old:Nat→Nat→List At→Prop) (b o n m i p x w:Nat) (v:Int):aO prog (qX prog (atX old x i w)) (fun _=>⟨fun s=>gJ true,fun s=>true,atN p w true false v⟩) f234 80 [.v (.fl (fA b o n m)),.v (.im (iI i)),.v (.im (iI p))]=some ([Int.ofNat i=Int.ofNat i,i<n,old b (o+i*4) [At.q x],dF [At.q x]=4,pA .shl 22 (.tmp 16) (.const (.int .u64 1)) (.int .u64 (fw x 0:Nat)) (.int .u64 1) (uI (Sj x)),aI .gtr .i64 (Int.ofNat p) 0=some (.bool true),aI .mul .i64 (Int.ofNat p) (Int.ofNat 4)=some (iI (p*4)),aI .sub .i64 (Int.ofNat (p*4)) 1=some (iI (p*4-1)),p*4-1<9223372036854775808,pA .shl 22 (.const (.int .u64 1)) (.tmp 31) (.int .u64 1) (.int .i64 (IntKind.i64.wrap (Int.ofNat 4+1))) (uI 32),pA .and 22 (.tmp 28) (.tmp 33) (.int .u64 (fw (wv x/2^(p*4-1)) 0:Nat)) (.int .u64 (IntKind.u64.wrap (Int.ofNat 32-1))) (uI w),aI .add .u64 (Int.ofNat w) 1=some (uI (w+1)),∀W:World,(convert 22 3 (uI (w+1))).run prog W=.ok (iI (w+1)) W,aI .quo .i64 (Int.ofNat (w+1)) 2=some (iI ((w+1)/2)),pA .shr 22 (.tmp 39) (.tmp 41) (uI w) (iI 4) (uI (w/16)),aI .eql .u64 (Int.ofNat (w/16)) 1=some (.bool false)],.one (.im (iI ((w+1)/2)))):=by kernel_rfl
theorem aBt (old:Nat→Nat→List At→Prop) (b o n m i p x w:Nat) (v:Int):aO prog (qX prog (atX old x i w)) (fun _=>⟨fun s=>gJ true,fun s=>true,atN p w false true v⟩) f234 80 [.v (.fl (fA b o n m)),.v (.im (iI i)),.v (.im (iI p))]=some ([Int.ofNat i=Int.ofNat i,i<n,old b (o+i*4) [At.q x],dF [At.q x]=4,pA .shl 22 (.tmp 16) (.const (.int .u64 1)) (.int .u64 (fw x 0:Nat)) (.int .u64 1) (uI (Sj x)),aI .gtr .i64 (Int.ofNat p) 0=some (.bool false),pA .shl 22 (.const (.int .u64 1)) (.tmp 31) (.int .u64 1) (.int .i64 (IntKind.i64.wrap (Int.ofNat 4+1))) (uI 32),pA .and 22 (.tmp 28) (.tmp 33) (.int .u64 (Sj x:Nat)) (.int .u64 (IntKind.u64.wrap (Int.ofNat 32-1))) (uI w),aI .add .u64 (Int.ofNat w) 1=some (uI (w+1)),∀W:World,(convert 22 3 (uI (w+1))).run prog W=.ok (iI (w+1)) W,aI .quo .i64 (Int.ofNat (w+1)) 2=some (iI ((w+1)/2)),pA .shr 22 (.tmp 39) (.tmp 41) (uI w) (iI 4) (uI (w/16)),aI .eql .u64 (Int.ofNat (w/16)) 1=some (.bool true),pA .shl 3 (.const (.int .i64 1)) (.tmp 46) (.int .i64 1) (iI 4) (iI 16),aI .sub .i64 (Int.ofNat ((w+1)/2)) (Int.ofNat 16)=some (.int .i64 v)],.one (.im (.int .i64 v))):=by kernel_rfl
theorem aBu (old:Nat→Nat→List At→Prop) (b o n m i p x w:Nat) (v:Int):aO prog (qX prog (atX old x i w)) (fun _=>⟨fun s=>gJ true,fun s=>true,atN p w false false v⟩) f234 80 [.v (.fl (fA b o n m)),.v (.im (iI i)),.v (.im (iI p))]=some ([Int.ofNat i=Int.ofNat i,i<n,old b (o+i*4) [At.q x],dF [At.q x]=4,pA .shl 22 (.tmp 16) (.const (.int .u64 1)) (.int .u64 (fw x 0:Nat)) (.int .u64 1) (uI (Sj x)),aI .gtr .i64 (Int.ofNat p) 0=some (.bool false),pA .shl 22 (.const (.int .u64 1)) (.tmp 31) (.int .u64 1) (.int .i64 (IntKind.i64.wrap (Int.ofNat 4+1))) (uI 32),pA .and 22 (.tmp 28) (.tmp 33) (.int .u64 (Sj x:Nat)) (.int .u64 (IntKind.u64.wrap (Int.ofNat 32-1))) (uI w),aI .add .u64 (Int.ofNat w) 1=some (uI (w+1)),∀W:World,(convert 22 3 (uI (w+1))).run prog W=.ok (iI (w+1)) W,aI .quo .i64 (Int.ofNat (w+1)) 2=some (iI ((w+1)/2)),pA .shr 22 (.tmp 39) (.tmp 41) (uI w) (iI 4) (uI (w/16)),aI .eql .u64 (Int.ofNat (w/16)) 1=some (.bool false)],.one (.im (iI ((w+1)/2)))):=by kernel_rfl
theorem Sl (x:Nat):pA .shl 22 (.tmp 16) (.const (.int .u64 1)) (.int .u64 (fw x 0:Nat)) (.int .u64 1) (uI (Sj x)):=fun w=>by
 have h:=(cM x).1;simp[eqGuard,binOp,go_sem,IntKind.wrap,IntKind.signed,uI,Sj]
theorem SZ:pA .shl 22 (.const (.int .u64 1)) (.tmp 31) (.int .u64 1) (.int .i64 (IntKind.i64.wrap (Int.ofNat 4+1))) (uI 32):=fun w=>by
 have e:IntKind.i64.wrap (Int.ofNat 4+1)=5:=by decide
 rw[e];simp[eqGuard,binOp,go_sem,IntKind.wrap,uI]
theorem aEq:pA .shl 3 (.const (.int .i64 1)) (.tmp 46) (.int .i64 1) (iI 4) (iI 16):=fun w=>by
 simp[eqGuard,binOp,go_sem,IntKind.wrap,iI]
theorem aQG (x:Nat) (h:x<18446744073709551616):pA .and 22 (.tmp 28) (.tmp 33) (.int .u64 (x:Nat)) (.int .u64 (IntKind.u64.wrap (Int.ofNat 32-1))) (uI (x%32)):=fun w=>by
 have e:IntKind.u64.wrap (Int.ofNat 32-1)=((31:Nat):Int):=by decide
 rw[e];have h2:=bits_and_u64_nat x 31 h (by omega);have h3:x &&& 31=x%32:=Nat.and_two_pow_sub_one_eq_mod x 5;rw[h3]at h2;simp[eqGuard,binOp,go_sem,uI];exact h2
theorem aUz (x:Nat) (h:x<64) (W:World):(convert 22 3 (uI x)).run prog W=.ok (iI x) W:=by
 have e:IntKind.i64.wrap (x:Int)=x:=AU (by omega);have e2:(x:Int)%18446744073709551616=x:=by omega
 simp[convert,go_sem,uI,iI,e]
theorem bBh (x:Nat) (h:x<32):pA .shr 22 (.tmp 39) (.tmp 41) (uI x) (iI 4) (uI (x/16)):=fun w=>by
 simp[eqGuard,binOp,go_sem,uI,iI]
theorem Xf (x p:Nat):nF x p<32:=Nat.mod_lt _ (by omega)
theorem bCs (n:Nat) (h:n<100):aI .add .u64 (Int.ofNat n) 1=some (uI (n+1)):=by
 show some (Value.int .u64 (IntKind.u64.wrap ((n:Int)+1)))=_;have e:IntKind.u64.wrap ((n:Int)+1)=((n+1:Nat):Int):=by
  unfold IntKind.wrap;simp[IntKind.signed,IntKind.bits];omega
 rw[e]; rfl
theorem uX (k:IntKind) (n:Nat):aI .eql k (Int.ofNat n) 1=some (.bool (decide (n=1))):=by
 show some (Value.bool ((n:Int)==1))=_
 by_cases h:n=1
 ·subst h; rfl
 ·rw[decide_eq_false h,beq_eq_false_iff_ne.2 (by omega)]
theorem aKm {w0:World} (b o n m i p x:Nat) (hx:oldOf w0 b (o+i*4) [.q x]) (hi:i<n) (hp:p<1152921504606846976):Calls prog 234 #[.agg (aA (fA b o n m)).toArray,iI i,iI p] w0 (fun e w'=>e=.returned (.int .i64 (nG x p))∧Below w0.heap.size w0 w'):=by
 have hq:∀w,cV prog (qX prog (atX (oldOf w0) x i w)) w0.heap.size w0:=fun w=>pK (lH _) fun _ _ _ h=>h
 have hT:∀n d:Nat,TabOkW prog (gJ true) w0.heap.size w0:=fun _ _=>(kS true).w _ _
 have ha:bZ w0 [.v (.fl (fA b o n m)),.v (.im (iI i)),.v (.im (iI p))] [.agg (aA (fA b o n m)).toArray,iI i,iI p]:=⟨rfl,rfl,rfl,trivial⟩;have hw:=Xf x p;have hfw:=(cM (wv x/2^(p*4-1))).1;have hs:Sj x<18446744073709551616:=Nat.mod_lt _ (by omega);have o1:=bCs (nF x p) (by omega);have o2:=aUz (nF x p+1) (by omega);have o3:aI .quo .i64 (Int.ofNat (nF x p+1)) 2=some (iI ((nF x p+1)/2)):=aRq (k:=2) (by omega) (by omega);have o4:=bBh (nF x p) hw;have hv:16≤nF x p→aI .sub .i64 (Int.ofNat ((nF x p+1)/2)) (Int.ofNat 16)=some (.int .i64 (nG x p)):=fun h=>by
  show some (Value.int .i64 (IntKind.i64.wrap ((((nF x p+1)/2:Nat):Int)-16)))=_;unfold nG;rw[if_pos h,IntKind.wrap_i64];congr 2;omega
 have hn:¬ 16≤nF x p→nG x p=Int.ofNat ((nF x p+1)/2):=fun h=>by
  unfold nG;rw[if_neg h]; simp
 by_cases hp0:p=0
 ·have hd:nF x p=Sj x%32:=by unfold nF; rw[if_pos hp0]
  have o5:=aQG (Sj x) hs;rw[←hd]at o5;have g0:aI .gtr .i64 (Int.ofNat p) 0=some (.bool false):=by rw[hp0]; rfl
  by_cases h16:16≤nF x p
  ·exact bQ aE hT (hq _) func234 (aBt (oldOf w0) b o n m i p x (nF x p) (nG x p)) ⟨rfl,hi,hx,rfl,Sl x,g0,SZ,o5,o1,o2,o3,o4,by rw[uX,decide_eq_true (by omega)],aEq,hv h16,trivial⟩ ha
  ·rw[hn h16];exact bQ aE hT (hq _) func234 (aBu (oldOf w0) b o n m i p x (nF x p) 0) ⟨rfl,hi,hx,rfl,Sl x,g0,SZ,o5,o1,o2,o3,o4,by rw[uX,decide_eq_false (by omega)],trivial⟩ ha
 ·have hd:nF x p=fw (wv x/2^(p*4-1)) 0%32:=by unfold nF; rw[if_neg hp0]
  have o5:=aQG _ hfw;rw[←hd]at o5;have g0:aI .gtr .i64 (Int.ofNat p) 0=some (.bool true):=by
   have:=EM (i:=p) (n:=0);rw[decide_eq_true (by omega)]at this;exact this
  have g1:aI .mul .i64 (Int.ofNat p) (Int.ofNat 4)=some (iI (p*4)):=bCt (by omega);have g2:aI .sub .i64 (Int.ofNat (p*4)) 1=some (iI (p*4-1)):=tO (k:=1) (by omega) (by omega)
  by_cases h16:16≤nF x p
  ·exact bQ aE hT (hq _) func234 (aBr (oldOf w0) b o n m i p x (nF x p) (nG x p)) ⟨rfl,hi,hx,rfl,Sl x,g0,g1,g2,by omega,SZ,o5,o1,o2,o3,o4,by rw[uX,decide_eq_true (by omega)],aEq,hv h16,trivial⟩ ha
  ·rw[hn h16];exact bQ aE hT (hq _) func234 (aBs (oldOf w0) b o n m i p x (nF x p) 0) ⟨rfl,hi,hx,rfl,Sl x,g0,g1,g2,by omega,SZ,o5,o1,o2,o3,o4,by rw[uX,decide_eq_false (by omega)],trivial⟩ ha
def gAt (b o n m:Nat) (x:Nat→Nat):kC
 | [.v (.fl [.c (.slice (some ⟨b',o',.none⟩) n' m'),.c (.int .i64 (.ofNat 4))]),.v (.im (.int .i64 (.ofNat i))),.v (.im (.int .i64 (.ofNat p)))] =>
  some ([b'=b,o'=o,n'=n,m'=m,i<n,p<1152921504606846976],.one (.im (.int .i64 (nG (x i) p))))
 | _=>none
theorem aII {w:World} {b o n m:Nat} {x:Nat→Nat} (hx:∀i,i<n→oldOf w b (o+i*4) [.q (x i)]):∀cs pre r,gAt b o n m x cs=some (pre,r)→bC pre→∀(args:List Value),bZ w cs args→Good prog 234 r args w:=by
 intro cs pre r hg hp args ha;unfold gAt at hg;split at hg
 ·rename_i b' o' n' m' i p;cases hg;obtain⟨rfl,rfl,rfl,rfl,hi,hpp,_⟩:=hp
  match args,ha with
  | [u,v,t],ha =>
   have h1:u=.agg (aA (fA b' o' n' m')).toArray:=ha.1;have h2:v=iI i:=ha.2.1;have h3:t=iI p:=ha.2.2.1;subst h1; subst h2; subst h3;exact aKm b' o' n' m' i p (x i) (hx i hi) hi hpp
  | [],ha=>exact ha.elim
  | [_],ha=>exact ha.2.elim
  | [_,_],ha=>exact ha.2.2.elim
  | _::_::_::_::_,ha=>exact ha.2.2.2.elim
 ·cases hg
end Go.Proofs.YtglgakbkdjhojaaGreat.Ex
