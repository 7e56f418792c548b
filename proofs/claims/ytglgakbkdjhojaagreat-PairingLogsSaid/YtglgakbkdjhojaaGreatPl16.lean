/- Pl16 -/
import Derived.Test.YtglgakbkdjhojaaGreatPl15
import Derived.Test.YtglgakbkdjhojaaGreatPl04
import Derived.Test.YtglgakbkdjhojaaGreatPl07
import Derived.Test.YtglgakbkdjhojaaGreatPl02
import Derived.Test.YtglgakbkdjhojaaGreatPl10
import Derived.Test.YtglgakbkdjhojaaGreatProg
set_option maxRecDepth 100000
set_option linter.unusedVariables false
set_option linter.unusedSimpArgs false
noncomputable section
namespace Go.Proofs.YtglgakbkdjhojaaGreat.Ex
open Go.Proofs.Tryz
open Go.RowKit
def e4 (x:Q4):List At:=[.f x.1.1,.f x.1.2,.f x.2.1,.f x.2.2]
def rd4:List At→Option Q4|[.f a,.f b,.f c,.f d]=>some ((a,b),(c,d))|_=>none
theorem oI:Rd rd4 e4:=fun l x h=>by unfold rd4 at h; split at h<;>cases h; rfl
def g3 {α γ δ:Type} (rd:List At→Option α) (rd':List At→Option γ) (rd'':List At→Option δ) (op:α→γ→δ→List Prop×RV):kC
 | [.v (.fl l),.v (.fl m),.v (.fl n)]=>match rd l,rd' m,rd'' n with|some x,some y,some z=>some (op x y z)|_,_,_=>none
 | _=>none
theorem bDh {P:Program} {f:FuncId} {α γ δ:Type} {rd:List At→Option α} {en:α→List At} {rd':List At→Option γ} {en':γ→List At} {rd'':List At→Option δ} {en'':δ→List At} (hr:Rd rd en) (hr':Rd rd' en') (hr'':Rd rd'' en'') {op:α→γ→δ→List Prop×RV}
  (h:∀x y z,bC (op x y z).1→∀args w,bZ w [.v (.fl (en x)),.v (.fl (en' y)),.v (.fl (en'' z))] args→Good P f (op x y z).2 args w) :
  ∀cs pre r,g3 rd rd' rd'' op cs=some (pre,r)→bC pre→∀(args:List Value) (w:World),bZ w cs args→Good P f r args w:=by
 intro cs pre r hg hp args w ha;unfold g3 at hg;split at hg
 ·rename_i l m n;split at hg
  ·rename_i x y z hx hy hz;have e:op x y z=(pre,r):=by simpa using hg
   have:=h x y z (by rw[e]; exact hp) args w (by
    match args,ha with
    | [v,u,s],ha =>
     refine⟨?_,?_,?_,trivial⟩
     ·show v=.agg (aA (en x)).toArray;rw[←hr l x hx];exact ha.1
     ·show u=.agg (aA (en' y)).toArray;rw[←hr' m y hy];exact ha.2.1
     ·show s=.agg (aA (en'' z)).toArray;rw[←hr'' n z hz];exact ha.2.2.1
    | [],ha=>exact ha.elim
    | [_],ha=>exact ha.2.elim
    | [_,_],ha=>exact ha.2.2.elim
    | _::_::_::_::_,ha=>exact ha.2.2.2.elim)
   rw[e]at this;exact this
  ·cases hg
 ·cases hg
theorem Pj {a b:Q4} (h:aA (e4 a)=aA (e4 b)):a=b:=by
 have:=AX [a.1.1,a.1.2,a.2.1,a.2.2] [b.1.1,b.1.2,b.2.1,b.2.2] h;simp only[List.cons.injEq,and_true]at this;exact Prod.ext (Prod.ext this.1 this.2.1) (Prod.ext this.2.2.1 this.2.2.2)
theorem aPz {a b:aQ} (h:aA (aP a)=aA (aP b)):a=b:=by
 have:=AX [a.1.1.1,a.1.1.2,a.1.2.1.1,a.1.2.1.2,a.1.2.2.1,a.1.2.2.2,a.2.1.1,a.2.1.2,a.2.2.1.1,a.2.2.1.2,a.2.2.2.1,a.2.2.2.2] [b.1.1.1,b.1.1.2,b.1.2.1.1,b.1.2.1.2,b.1.2.2.1,b.1.2.2.2,b.2.1.1,b.2.1.2,b.2.2.1.1,b.2.2.1.2,b.2.2.2.1,b.2.2.2.2] h;simp only[List.cons.injEq,and_true]at this;obtain⟨h0,h1,h2,h3,h4,h5,h6,h7,h8,h9,h10,h11⟩:=this;exact Prod.ext (Prod.ext (Prod.ext h0 h1) (Prod.ext (Prod.ext h2 h3) (Prod.ext h4 h5))) (Prod.ext (Prod.ext h6 h7) (Prod.ext (Prod.ext h8 h9) (Prod.ext h10 h11)))
theorem aAW (c:Bool) (x:aQ):bM prog (vN c) qN (fun _=>true) f131 60 [.v (.fl (aP x))]=some ([],.many [.fl (e4 (fX x)),.fl (e4 (fY x)),.fl (e4 (fZ x))]):=by kernel_rfl
def YF (c:Bool):Tab:=(vN c).add 131 (g1 sO fun x=>([],.many [.fl (e4 (fX x)),.fl (e4 (fY x)),.fl (e4 (fZ x))]))
theorem Fg (c:Bool):TabOk prog (YF c):=(AJ c).ad func131 (bP fK fun x hp args w ha=>aH aE (AJ c) aM func131 (aAW c x) hp ha)
theorem Cg (c:Bool) (x:Q4) (y:Q4):bM prog (YF c) qN (fun _=>true) f132 60 [.v (.fl (e4 x)),.v (.fl (e4 y))]=some ([],.one (.fl (e4 ((F2.add (F2.mul x.1 y.1) (F2.mul x.2 (F2.mul y.2 dJ)),F2.add (F2.mul x.1 y.2) (F2.mul x.2 y.1)))))):=by kernel_rfl
theorem Df (x:Q4) (y:Q4):F4.mul x y=(F2.add (F2.mul x.1 y.1) (F2.mul x.2 (F2.mul y.2 dJ)),F2.add (F2.mul x.1 y.2) (F2.mul x.2 y.1)):=by
 refine Prod.ext ?_ rfl;exact aG F2 (aV F2 [x.1,x.2,y.1,y.2,dJ]) (Z0*Z2+Z4*(Z1*Z3)) (Z0*Z2+Z1*(Z3*Z4)) (by decide)
def EB (c:Bool):Tab:=(YF c).add 132 (g2 rd4 rd4 fun x y=>([],.one (.fl (e4 (F4.mul x y)))))
theorem KY (c:Bool):TabOk prog (EB c):=(Fg c).ad func132 (dS oI oI fun x y hp args w ha=>by show Good _ _ (.one (.fl (e4 (F4.mul x y)))) _ _; rw[Df]; exact aH aE (Fg c) aM func132 (Cg c x y) hp ha)
theorem aMv (c:Bool) (x:Q4):bM prog (EB c) qN (fun _=>true) f133 60 [.v (.fl (e4 x))]=some ([],.one (.fl (e4 (s4 x)))):=by kernel_rfl
def aKM (c:Bool):Tab:=(EB c).add 133 (g1 rd4 fun x=>([],.one (.fl (e4 (s4 x)))))
theorem aGN (c:Bool):TabOk prog (aKM c):=(KY c).ad func133 (bP oI fun x hp args w ha=>aH aE (KY c) aM func133 (aMv c x) hp ha)
theorem Ch (c:Bool) (x:Q4) (y:Q4):bM prog (aKM c) qN (fun _=>true) f134 60 [.v (.fl (e4 x)),.v (.fl (e4 y))]=some ([],.one (.fl (e4 (F4.sub x y)))):=by kernel_rfl
def ED (c:Bool):Tab:=(aKM c).add 134 (g2 rd4 rd4 fun x y=>([],.one (.fl (e4 (F4.sub x y)))))
theorem KZ (c:Bool):TabOk prog (ED c):=(aGN c).ad func134 (dS oI oI fun x y hp args w ha=>aH aE (aGN c) aM func134 (Ch c x y) hp ha)
theorem Mc (c:Bool) (x:Q4):bM prog (ED c) qN (fun _=>true) f135 60 [.v (.fl (e4 x))]=some ([],.one (.fl (e4 (RP x)))):=by kernel_rfl
def NP (c:Bool):Tab:=(ED c).add 135 (g1 rd4 fun x=>([],.one (.fl (e4 (RP x)))))
theorem QH (c:Bool):TabOk prog (NP c):=(KZ c).ad func135 (bP oI fun x hp args w ha=>aH aE (KZ c) aM func135 (Mc c x) hp ha)
theorem TJ (c:Bool) (x:Q4) (y:Q4):bM prog (NP c) qN (fun _=>true) f137 60 [.v (.fl (e4 x)),.v (.fl (e4 y))]=some ([],.one (.fl (e4 (aDG x y)))):=by kernel_rfl
def yY (c:Bool):Tab:=(NP c).add 137 (g2 rd4 rd4 fun x y=>([],.one (.fl (e4 (aDG x y)))))
theorem EK (c:Bool):TabOk prog (yY c):=(QH c).ad func137 (dS oI oI fun x y hp args w ha=>aH aE (QH c) aM func137 (TJ c x y) hp ha)
theorem Bx (c:Bool) (x y z:Q4):bM prog (yY c) qN (fun _=>true) f136 60 [.v (.fl (e4 x)),.v (.fl (e4 y)),.v (.fl (e4 z))]=some ([],.one (.fl (aP (aHX x y z)))):=by kernel_rfl
def mA (c:Bool):Tab:=(yY c).add 136 (g3 rd4 rd4 rd4 fun x y z=>([],.one (.fl (aP (aHX x y z)))))
theorem lW (c:Bool):TabOk prog (mA c):=(EK c).ad func136 (bDh oI oI oI fun x y z hp args w ha=>aH aE (EK c) aM func136 (Bx c x y z) hp ha)
theorem Ci (c:Bool) (x:aQ):bM prog (mA c) (qG prog) (fun s=>bif Nat.beq s 35 then true else bif Nat.beq s 44 then true else bif Nat.beq s 54 then true else bif Nat.beq s 61 then false else true) f68 60 [.v (.fl (aP x))]=some ([aA (e4 (F4.sub (F4.mul (fX x) (fX x)) (s4 (F4.mul (fY x) (fZ x)))))=aA (e4 (RP (fX x))),aA (e4 (F4.sub (F4.mul (fX x) (fY x)) (s4 (F4.mul (fZ x) (fZ x)))))=aA (e4 (RP (fY x))),aA (e4 (F4.sub (F4.mul (fY x) (fY x)) (F4.mul (fX x) (fZ x))))=aA (e4 (RP (fZ x))),aA (aP x)≠aA (aP aF.zero)],.many [.fl (aP (bAU x)),.im (.bool true)]):=by kernel_rfl
theorem Cm (c:Bool) (x:aQ):bM prog (mA c) (qG prog) (fun s=>bif Nat.beq s 35 then false else bif Nat.beq s 44 then true else bif Nat.beq s 54 then true else bif Nat.beq s 61 then false else true) f68 60 [.v (.fl (aP x))]=some ([aA (e4 (F4.sub (F4.mul (fX x) (fX x)) (s4 (F4.mul (fY x) (fZ x)))))≠aA (e4 (RP (fX x)))],.many [.fl (aP aF.zero),.im (.bool false)]):=by kernel_rfl
theorem Cl (c:Bool) (x:aQ):bM prog (mA c) (qG prog) (fun s=>bif Nat.beq s 35 then true else bif Nat.beq s 44 then false else bif Nat.beq s 54 then true else bif Nat.beq s 61 then false else true) f68 60 [.v (.fl (aP x))]=some ([aA (e4 (F4.sub (F4.mul (fX x) (fX x)) (s4 (F4.mul (fY x) (fZ x)))))=aA (e4 (RP (fX x))),aA (e4 (F4.sub (F4.mul (fX x) (fY x)) (s4 (F4.mul (fZ x) (fZ x)))))≠aA (e4 (RP (fY x)))],.many [.fl (aP aF.zero),.im (.bool false)]):=by kernel_rfl
theorem Ck (c:Bool) (x:aQ):bM prog (mA c) (qG prog) (fun s=>bif Nat.beq s 35 then true else bif Nat.beq s 44 then true else bif Nat.beq s 54 then false else bif Nat.beq s 61 then false else true) f68 60 [.v (.fl (aP x))]=some ([aA (e4 (F4.sub (F4.mul (fX x) (fX x)) (s4 (F4.mul (fY x) (fZ x)))))=aA (e4 (RP (fX x))),aA (e4 (F4.sub (F4.mul (fX x) (fY x)) (s4 (F4.mul (fZ x) (fZ x)))))=aA (e4 (RP (fY x))),aA (e4 (F4.sub (F4.mul (fY x) (fY x)) (F4.mul (fX x) (fZ x))))≠aA (e4 (RP (fZ x)))],.many [.fl (aP aF.zero),.im (.bool false)]):=by kernel_rfl
theorem Cj (c:Bool) (x:aQ):bM prog (mA c) (qG prog) (fun s=>bif Nat.beq s 35 then true else bif Nat.beq s 44 then true else bif Nat.beq s 54 then true else bif Nat.beq s 61 then true else true) f68 60 [.v (.fl (aP x))]=some ([aA (e4 (F4.sub (F4.mul (fX x) (fX x)) (s4 (F4.mul (fY x) (fZ x)))))=aA (e4 (RP (fX x))),aA (e4 (F4.sub (F4.mul (fX x) (fY x)) (s4 (F4.mul (fZ x) (fZ x)))))=aA (e4 (RP (fY x))),aA (e4 (F4.sub (F4.mul (fY x) (fY x)) (F4.mul (fX x) (fZ x))))=aA (e4 (RP (fZ x))),aA (aP x)=aA (aP aF.zero)],.many [.fl (aP aF.zero),.im (.bool false)]):=by kernel_rfl
def aWu (c:Bool) (x:aQ):List Prop×RV:=bif c then ([qT x],.many [.fl (aP (aF.mul x x)),.im (.bool true)])else ([¬qT x],.many [.fl (aP aF.zero),.im (.bool false)])
theorem aOm (c:Bool) (x:aQ) (hp:bC (aWu c x).1) (args:List Value) (w:World) (ha:bZ w [.v (.fl (aP x))] args):Good prog 68 (aWu c x).2 args w:=by
 cases c
 ·have hn:¬qT x:=hp.1;unfold qT at hn;rw[Xh]at hn
  by_cases h1:aIh x
  ·by_cases h2:aIg x
   ·by_cases h3:aIf x
    ·have hz:x=aF.zero:=Classical.byContradiction fun e=>hn ⟨e,h1,h2,h3⟩
     exact aH aE (lW false) (aJ _) func68 (Cj false x) ⟨congrArg (fun t=>aA (e4 t)) h1,congrArg (fun t=>aA (e4 t)) h2,congrArg (fun t=>aA (e4 t)) h3,congrArg (fun t=>aA (aP t)) hz,trivial⟩ ha
    ·exact aH aE (lW false) (aJ _) func68 (Ck false x) ⟨congrArg (fun t=>aA (e4 t)) h1,congrArg (fun t=>aA (e4 t)) h2,fun e=>h3 (Pj e),trivial⟩ ha
   ·exact aH aE (lW false) (aJ _) func68 (Cl false x) ⟨congrArg (fun t=>aA (e4 t)) h1,fun e=>h2 (Pj e),trivial⟩ ha
  ·exact aH aE (lW false) (aJ _) func68 (Cm false x) ⟨fun e=>h1 (Pj e),trivial⟩ ha
 ·have hn:qT x:=hp.1;unfold qT at hn;rw[Xh]at hn;obtain⟨hz,h1,h2,h3⟩:=hn;show Good _ _ (.many [.fl (aP (aF.mul x x)),.im (.bool true)]) _ _;rw[←aUd x ⟨h1,h2,h3⟩];exact aH aE (lW true) (aJ _) func68 (Ci true x) ⟨congrArg (fun t=>aA (e4 t)) h1,congrArg (fun t=>aA (e4 t)) h2,congrArg (fun t=>aA (e4 t)) h3,fun e=>hz (aPz e),trivial⟩ ha
def IM (c:Bool):Tab:=(mA c).add 68 (g1 sO (aWu c))
theorem LA (c:Bool):TabOk prog (IM c):=(lW c).ad func68 (bP fK (aOm c))
def aWw (c:Bool) (x:aQ):List Prop×RV:=bif c then ([qT x],.many [.fl (aP (aF.mul x x)),.im (.int .i64 0)])else ([¬qT x],.many [.fl (aP aF.zero),.im (.int .i64 42)])
theorem CB (x:mX):bM prog (IM true) qN (fun _=>true) f207 40 [.v (.fl (rH x))]=some ([qT (gB x)],.many [.fl (aP (aF.mul (gB x) (gB x))),.im (.int .i64 0)]):=by kernel_rfl
theorem zO (x:mX):bM prog (IM false) qN (fun _=>true) f207 40 [.v (.fl (rH x))]=some ([¬qT (gB x)],.many [.fl (aP aF.zero),.im (.int .i64 42)]):=by kernel_rfl
theorem aOo (c:Bool) (x:mX) (hp:bC (aWw c (gB x)).1) (args:List Value) (w:World) (ha:bZ w [.v (.fl (rH x))] args):Good prog 207 (aWw c (gB x)).2 args w:=by
 cases c
 ·exact aH aE (LA false) aM func207 (zO x) hp ha
 ·exact aH aE (LA true) aM func207 (CB x) hp ha
def xB (c:Bool):Tab:=(IM c).add 207 (g1 FJ (aWw c))
theorem yG (c:Bool):TabOk prog (xB c):=(LA c).ad func207 (gZ mB (aOo c))
def aWv (c:Bool) (x:aQ):List Prop×RV:=bif c then ([qT x],.one (.im (.bool true)))else ([¬qT x],.one (.im (.bool false)))
theorem BZ (x:mX):bM prog (xB true) qN (fun _=>true) f27 40 [.v (.fl (rH x))]=some ([qT (gB x)],.one (.im (.bool true))):=by kernel_rfl
theorem zN (x:mX):bM prog (xB false) qN (fun _=>true) f27 40 [.v (.fl (rH x))]=some ([¬qT (gB x)],.one (.im (.bool false))):=by kernel_rfl
theorem aOn (c:Bool) (x:mX) (hp:bC (aWv c (gB x)).1) (args:List Value) (w:World) (ha:bZ w [.v (.fl (rH x))] args):Good prog 27 (aWv c (gB x)).2 args w:=by
 cases c
 ·exact aH aE (yG false) aM func27 (zN x) hp ha
 ·exact aH aE (yG true) aM func27 (BZ x) hp ha
def sE (c:Bool):Tab:=(xB c).add 27 (g1 FJ (aWv c))
theorem lX (c:Bool):TabOk prog (sE c):=(yG c).ad func27 (gZ mB (aOn c))
theorem bCN (y:aQ):fE (cD 2).toNat y=cW y:=by rw[show (cD 2).toNat=2 by decide,VO]
def pD (x:mX) (n:Nat) (r:List At) (j:Int):List Fact:=[.slot 2 (.pt 2 0),.row 2 true (rH x),.slot 3 (.pt 3 0),.row 3 true (q1 n),.slot 4 (.pt 4 0),.row 4 true (aP aF.zero),.slot 5 (.pt 5 0),.row 5 true r,.slot 6 (.im (.int .i64 j))]
def Za (c:Bool) (j:Int) (b:Bool) (_:Nat):Cfg:=⟨fun _=>sE c,fun _=>true,fun s=>bif Nat.beq s 12 then some (.bool true)else bif Nat.beq s 21 then some (.bool b)else bif Nat.beq s 14 then some (.int .i64 j)else none⟩
def aSV (c:Bool) (_:Nat):Cfg:=⟨fun _=>sE c,fun _=>true,fun s=>bif Nat.beq s 12 then some (.bool false)else none⟩
def jD:Code:=(f41.body).getD .skip
def vQ:Code:=pC (pC (cB (cA (cB (cB jD)))))
theorem aLd (c:Bool) (x:mX) (r r2:aQ) (n j:Nat) (j2:Int):aU prog qN f41.ntmps (Za c j2 true) 40 vQ (pD x n (aP r) (Int.ofNat j)) (pD x n (aP r2) j2)=some ([aI .geq .i64 (Int.ofNat j) 0=some (.bool true),j<256,aI .eql .i64 (dD (wv n) j:Nat) 1=some (.bool true),aI .sub .i64 (Int.ofNat j) 1=some (.int .i64 j2)],.nrm,pD x n (aP (aF.mul (aF.mul r r) (gB x))) j2):=by kernel_rfl
theorem aDn (c:Bool) (x:mX) (r r2:aQ) (n j:Nat) (j2:Int):aU prog qN f41.ntmps (Za c j2 false) 40 vQ (pD x n (aP r) (Int.ofNat j)) (pD x n (aP r2) j2)=some ([aI .geq .i64 (Int.ofNat j) 0=some (.bool true),j<256,aI .eql .i64 (dD (wv n) j:Nat) 1=some (.bool false),aI .sub .i64 (Int.ofNat j) 1=some (.int .i64 j2)],.nrm,pD x n (aP (aF.mul r r)) j2):=by kernel_rfl
theorem aLf (c:Bool) (x:mX) (r:aQ) (n:Nat):aU prog qN f41.ntmps (aSV c) 40 vQ (pD x n (aP r) (-1)) (pD x n (aP r) (-1))=some ([aI .geq .i64 (-1) 0=some (.bool false)],.ex 0,pD x n (aP r) (-1)):=by kernel_rfl
def jB (x:mX) (n i:Nat):aQ:=bR aF (gB x) (wv n/2^(aS n-i))
theorem aSU (x:mX) (n:Nat):jB x n 0=aF.one:=by
 unfold jB;rw[Nat.sub_zero,Nat.div_eq_of_lt (pR n).1];rfl
theorem aDp (x:mX) (n:Nat):jB x n (aS n)=bR aF (gB x) (wv n):=by
 unfold jB;rw[Nat.sub_self,Nat.pow_zero,Nat.div_one]
theorem OZ (x:mX) (n i:Nat) (h:i<aS n) (b:Bool) (hb:dD (wv n) (aS n-1-i)=if b then 1 else 0):jB x n (i+1)=bif b then aF.mul (aF.mul (jB x n i) (jB x n i)) (gB x)else aF.mul (jB x n i) (jB x n i):=by
 have h2:aF.mul (jB x n i) (jB x n i)=bR aF (gB x) (2*(wv n/2^(aS n-i))):=by unfold jB; rw[←cS,Nat.two_mul]
 rw[h2];unfold jB;rw[aDH n i h,hb];cases b<;>rfl
theorem Yz (c:Bool) (x:mX) (n i:Nat) (h:i<aS n):∃b,∃ps,aU prog qN f41.ntmps (Za c (OX (aS n) (i+1)) b) 40 vQ (pD x n (aP (jB x n i)) (OX (aS n) i)) (pD x n (aP (jB x n (i+1))) (OX (aS n) (i+1)))=some (ps,.nrm,pD x n (aP (jB x n (i+1))) (OX (aS n) (i+1)))∧bC ps:=by
 have hL:=AS n;rw[aYC h]
 rcases kZ (wv n) (aS n-1-i)with hb|hb
 ·have hz:=aDn c x (jB x n i) (jB x n (i+1)) n (aS n-1-i) (OX (aS n) (i+1));rw[show aF.mul (jB x n i) (jB x n i)=jB x n (i+1)from (OZ x n i h false hb).symm]at hz;exact⟨false,_,hz,rfl,by omega,aRX _ false hb,He h hL,trivial⟩
 ·have hz:=aLd c x (jB x n i) (jB x n (i+1)) n (aS n-1-i) (OX (aS n) (i+1));rw[show aF.mul (aF.mul (jB x n i) (jB x n i)) (gB x)=jB x n (i+1)from (OZ x n i h true hb).symm]at hz;exact⟨true,_,hz,rfl,by omega,aRX _ true hb,He h hL,trivial⟩
def aSX (x:mX) (n:Nat):List Fact:=[.slot 2 (.pt 2 0),.row 2 true (rH x),.slot 3 (.pt 3 0),.row 3 true (q1 n),.slot 4 (.pt 4 0),.row 4 true (aP aF.zero)]
def aSW (x:mX) (n:Nat):List Fact:=[.slot 2 (.pt 2 0),.row 2 true (rH x),.slot 3 (.pt 3 0),.row 3 true (q1 n),.slot 4 (.pt 4 0),.row 4 true (aP aF.zero),.slot 5 (.pt 5 0),.row 5 true (aP aF.one)]
def Rw (c:Bool) (v:Option Value) (_:Nat):Cfg:=⟨fun _=>sE c,fun _=>true,fun s=>bif Nat.beq s 10 then v else none⟩
theorem aST (c:Bool) (x:mX) (n:Nat):aU prog qN f41.ntmps (Rw c none) 40 (cA jD) (lC 0 [.v (.fl (rH x)),.v (.fl (q1 n))]) (aSX x n)=some ([],.nrm,aSX x n):=by kernel_rfl
theorem aSS (c:Bool) (x:mX) (n:Nat):aU prog qN f41.ntmps (Rw c none) 40 (cA (cB jD)) (aSX x n) (aSW x n)=some ([],.nrm,aSW x n):=by kernel_rfl
theorem aSR (c:Bool) (x:mX) (n:Nat) (j:Int):aU prog qN f41.ntmps (Rw c (some (.int .i64 j))) 40 (cA (cA (cB (cB jD)))) (aSW x n) (pD x n (aP aF.one) j)=some ([aI .sub .i64 (aS n:Nat) 1=some (.int .i64 j)],.nrm,pD x n (aP aF.one) j):=by kernel_rfl
theorem aSQ (c:Bool) (x:mX) (r:aQ) (n:Nat):aU prog qN f41.ntmps (Rw c none) 40 (cB (cB (cB jD))) (pD x n (aP r) (-1)) [.slot 4 (.pt 4 0),.row 4 true (aP r)]=some ([],.rt,[.slot 4 (.pt 4 0),.row 4 true (aP r)]):=by kernel_rfl
theorem aDo:jD=.seq (cA jD) (.seq (cA (cB jD)) (.seq (.seq (cA (cA (cB (cB jD)))) (.block 0 (.loop vQ))) (cB (cB (cB jD))))):=by kernel_rfl
theorem aLe:aA (aP aF.one)=aA (aP aF.one):=by kernel_rfl
theorem OY (c:Bool) (x:mX) (n:Nat) (args:List Value) (w:World) (ha:bZ w [.v (.fl (rH x)),.v (.fl (q1 n))] args):Good prog 41 (.one (.fl (aP (bR aF (gB x) (wv n))))) args w:=by
 refine dL func41 (c:=jD) rfl ha (Nat.le_of_ble_eq_true (by kernel_rfl)) fun a w' hA => ?_
 rw[aDo];refine wp_seq (bI aE (fun _ _=>lX c) aM (aST c x n) trivial hA fun a w' hA => ?_);refine wp_seq (bI aE (fun _ _=>lX c) aM (aSS c x n) trivial hA fun a w' hA => ?_);refine wp_seq (wp_seq (bI aE (fun _ _=>lX c) aM (aSR c x n (OX (aS n) 0)) ⟨aCJ (AS n),trivial⟩ hA fun a w' hA => ?_));refine wp_block ?_;have hA:Holds f41.ntmps w.heap.size w (pD x n (aP (jB x n 0)) (OX (aS n) 0)) a w':=by
  refine hA.same fun φ hφ => ?_
  rw[aSU]at hφ;unfold pD at hφ ⊢;simp only[List.mem_cons,List.not_mem_nil,or_false]at hφ ⊢
  rcases hφ with h|h|h|h|h|h|h|h|h
  ·exact Or.inl (Or.inl h)
  ·exact Or.inl (Or.inr (Or.inl h))
  ·exact Or.inl (Or.inr (Or.inr (Or.inl h)))
  ·exact Or.inl (Or.inr (Or.inr (Or.inr (Or.inl h))))
  ·exact Or.inl (Or.inr (Or.inr (Or.inr (Or.inr (Or.inl h)))))
  ·exact Or.inl (Or.inr (Or.inr (Or.inr (Or.inr (Or.inr (Or.inl h))))))
  ·exact Or.inl (Or.inr (Or.inr (Or.inr (Or.inr (Or.inr (Or.inr (Or.inl h)))))))
  ·exact Or.inr ⟨5,true,(aP aF.one),_,h,Or.inr (Or.inr (Or.inr (Or.inr (Or.inr (Or.inr (Or.inr (Or.inl rfl))))))),aLe⟩
  ·exact Or.inl (Or.inr (Or.inr (Or.inr (Or.inr (Or.inr (Or.inr (Or.inr (Or.inr h))))))))
 have hb:∀i,i<aS n→∃b,∃ps,aU prog qN f41.ntmps (Za c (OX (aS n) (i+1)) b) 40 vQ (pD x n (aP (jB x n i)) (OX (aS n) i)) (pD x n (aP (jB x n (i+1))) (OX (aS n) (i+1)))=some (ps,.nrm,pD x n (aP (jB x n (i+1))) (OX (aS n) (i+1)))∧bC ps:=fun i h=>Yz c x n i h
 classical
 refine Fv (f:=40) aE aM (fun i=>pD x n (aP (jB x n i)) (OX (aS n) i)) (fun i=>if h:i<aS n then Za c (OX (aS n) (i+1)) (hb i h).choose else aSV c) (fun i m d => ?_) (aS n) (fun i hi => ?_) (.ex 0) (by simp) (pD x n (aP (jB x n (aS n))) (-1)) ?_ hA fun a w' hA => ?_
 ·show TabOk _ ((if h:i<aS n then Za c (OX (aS n) (i+1)) (hb i h).choose else aSV c) m |>.T d);split<;>exact lX c
 ·rw[dif_pos hi];exact (hb i hi).choose_spec
 ·rw[dif_neg (Nat.lt_irrefl _),aPL];exact⟨_,aLf c x _ n,rfl,trivial⟩
 ·rw[aDp]at hA;show (cB (cB (cB jD))).wp _ _ _ _;exact bI aE (fun _ _=>lX c) aM (aSQ c x _ n) trivial hA fun a w' hA=>eF (l:=[.fl (aP (bR aF (gB x) (wv n)))]) (by kernel_rfl) (by kernel_rfl) hA
def oZ (c:Bool):Tab:=(sE c).add 41 (g2 FJ vZ fun x n=>([],.one (.fl (aP (bR aF x (wv n))))))
theorem jX (c:Bool):TabOk prog (oZ c):=(lX c).ad func41 (gF mB aQI fun x n _ args w ha=>OY c x n args w ha)
def RO (b:Nat):Value:=.func (.func 182) #[] #[.pointer (some ⟨b,0,none⟩)]
def BU:Code:=(f138.body).getD .skip
def c0:Nat→Cfg:=fun _=>⟨fun _=>oZ true,fun _=>true,fun _=>none⟩
theorem bAW (x:aQ):aU prog qN f138.ntmps c0 40 (cA BU) (lC 0 [.v (.fl (aP x))]) [.slot 1 (.pt 1 0),.row 1 true (aP x)]=some ([],.nrm,[.slot 1 (.pt 1 0),.row 1 true (aP x)]):=by kernel_rfl
theorem bAV (x:aQ) (b:Nat):aU prog qN f138.ntmps c0 40 (cB BU) [.at 1 b,.slot 1 (.pt 1 0),.row 1 true (aP x)] [.slot 2 (.im (RO b)),.row 1 true (aP x),.at 1 b]=some ([],.rt,[.slot 2 (.im (RO b)),.row 1 true (aP x),.at 1 b]):=by kernel_rfl
theorem aLY:BU=.seq (cA BU) (cB BU):=by kernel_rfl
theorem OE (x:aQ) (args:List Value) (w:World) (ha:bZ w [.v (.fl (aP x))] args):Calls prog 138 args.toArray w (fun e w'=>∃b,e=.returned (RO b)∧Below w.heap.size w w'∧w.heap.size≤b∧b<w'.heap.size∧w'.rangeAt b 0 (aA (aP x))∧∀j,w'.frozen? ⟨b,j,none⟩=false):=by
 refine dL func138 (c:=BU) rfl ha (Nat.le_of_ble_eq_true (by kernel_rfl)) fun a w' hA => ?_
 rw[aLY];refine wp_seq (bI aE (fun _ _=>jX true) aM (bAW x) trivial hA fun a w' hA => ?_);obtain⟨b,hA⟩:=hA.at (k:=1) (l:=aP x) (by simp);refine bI aE (fun _ _=>jX true) aM (bAV x b) trivial hA fun a w' hA => ?_
 refine rY (l:=[.im (RO b)]) (r:=.one (.im (RO b))) (by kernel_rfl) (by kernel_rfl) hA ?_;obtain⟨β,g1,g2⟩:=hA.facts;obtain⟨e1,e2,e3,_⟩:=g1 (.row 1 true (aP x)) (by simp);obtain⟨e4,e5,e6⟩:=e3 rfl;obtain⟨e7,e8⟩:=g1 (.at 1 b) (by simp);rw[e7]at e1 e2 e4 e6;rw[e8]at e2;exact⟨b,rfl,hA.below,e4,e1,e2,e6⟩
def pW:Code:=(f182.body).getD .skip
def kM:Code:=pC (pC (cB (cA (cB pW))))
def qF0 (k:Nat) (b:Nat):List Fact:=[.slot 0 (.im (iI k)),.slot 1 (.im (jP b 0)),.slot 3 (.pt 3 0),.row 3 true (aP aF.zero)]
def qF (k i:Nat) (b:Nat):List Fact:=[.slot 1 (.im (jP b 0)),.slot 3 (.pt 3 0),.row 3 true (aP aF.zero),.slot 4 (.im (iI k)),.slot 5 (.im (iI i))]
def c1 (n:Nat→Option Value):Nat→Cfg:=fun _=>⟨fun _=>oZ true,fun _=>true,n⟩
theorem bBM (k b:Nat):aU prog qN f182.ntmps c0 40 (cA pW) (lC 0 [.v (.im (iI k)),.v (.im (jP b 0))]) (qF0 k b)=some ([],.nrm,qF0 k b):=by kernel_rfl
theorem bBL (k b:Nat):aU prog qN f182.ntmps c0 40 (cA (cA (cB pW))) (qF0 k b) (qF k 0 b)=some ([],.nrm,qF k 0 b):=by kernel_rfl
theorem bBN (k i b:Nat) (c:Bool):aU prog qN f182.ntmps (c1 (fun s=>bif Nat.beq s 6 then some (.bool c)else none)) 40 (cA kM) (qF k i b) (.slot 6 (.im (.bool c))::qF k i b)=some ([aI .lss .i64 (Int.ofNat i) (Int.ofNat k)=some (.bool c)],.nrm,.slot 6 (.im (.bool c))::qF k i b):=by kernel_rfl
theorem bBO (k i b:Nat):aU prog qN f182.ntmps c0 40 (cA (cB kM)) (.slot 6 (.im (.bool true))::qF k i b) (qF k i b)=some ([],.nrm,qF k i b):=by kernel_rfl
theorem bBP (k i b:Nat):aU prog qN f182.ntmps c0 40 (cA (cB kM)) (.slot 6 (.im (.bool false))::qF k i b) (qF k i b)=some ([],.ex 0,qF k i b):=by kernel_rfl
def aEl (u:aQ) (b:Nat):Ext:={ Ext.none with ld:=fun s=>bif Nat.beq s 7 then some (aP u)else bif Nat.beq s 10 then some (aP u)else none,old:=fun b' o l=>b'=b∧o=0∧l=aP u }
def oSq (x:aQ):List Prop×RV:=([qT x],.one (.fl (aP (aF.mul x x))))
theorem Bm (x:mX):bM prog (oZ true) qN (fun _=>true) f164 40 [.v (.fl (rH x))]=some ([qT (gB x)],.one (.fl (aP (aF.mul (gB x) (gB x))))):=by kernel_rfl
def aCU:Tab:=(oZ true).add 164 (g1 sO oSq)
theorem Es:TabOk prog aCU:=(jX true).ad func164 (bP fK fun x hp args w ha=>by
 have h:=aH aE (jX true) aM func164 (Bm (mP x)) (by rw[gE]; exact hp) (args:=args) (w:=w) (by
  match args,ha with
  | [v],ha=>exact⟨ha.1,trivial⟩
  | [],ha=>exact ha.elim
  | _::_::_,ha=>exact ha.2.elim)
 rw[gE]at h;exact h)
def cq:Nat→Cfg:=fun _=>⟨fun _=>aCU,fun _=>true,fun _=>none⟩
theorem bFq (k i b:Nat) (u:aQ):tX prog { qG prog with x:=aEl u b } f182.ntmps (cq 0) ((cZ (pC (cA (cB (cB kM))))).extract 0 2) (qF k i b) (.slot 8 (.fl (aP (aF.mul u u)))::qF k i b)=some ([b=b∧0=0∧aP u=aP u,dF (aP u)=48,qT u],.slot 8 (.fl (aP (aF.mul u u)))::qF k i b):=by kernel_rfl
theorem bFr (k i b:Nat):aU prog qN f182.ntmps (c1 (fun s=>bif Nat.beq s 9 then some (iI (i+1))else none)) 40 (cB (cB (cB kM))) (qF k i b) (qF k (i+1) b)=some ([aI .add .i64 (Int.ofNat i) 1=some (iI (i+1))],.nrm,qF k (i+1) b):=by kernel_rfl
theorem bFs (k b:Nat) (u:aQ):aU prog { qG prog with x:=aEl u b } f182.ntmps c0 40 (cB (cB pW)) (qF k k b) [.slot 3 (.pt 3 0),.row 3 true (aP u)]=some ([b=b∧0=0∧aP u=aP u,dF (aP u)=48],.rt,[.slot 3 (.pt 3 0),.row 3 true (aP u)]):=by kernel_rfl
theorem aNf:pW=.seq (cA pW) (.seq (.seq (cA (cA (cB pW))) (.block 0 (.loop kM))) (cB (cB pW))):=by kernel_rfl
theorem Di:kM=.seq (cA kM) (.seq (cA (cB kM)) (.seq (.block 1 (.region 3 (cZ (pC (cA (cB (cB kM))))) false)) (cB (cB (cB kM))))):=by kernel_rfl
structure St (w:World) (b:Nat) (A:List Fact) (u:aQ) (a:Act) (wi:World):Prop where
 hold:Holds f182.ntmps w.heap.size wi A a wi
 wr:WrAt w wi b []
 rng:wi.rangeAt b 0 (aA (aP u))
theorem St.step {w:World} {b:Nat} (hb:b<w.heap.size) {A L:List Fact} {u:aQ} {a a2:Act} {wi w2:World} (h:St w b A u a wi) (h2:Holds f182.ntmps w.heap.size wi L a2 w2):St w b L u a2 w2 :=
 ⟨h2.now,h.wr.below hb h2.below,jZ h2.below hb h.rng⟩
theorem aPA (x:aQ):(aP x).all cOk=true:=by kernel_rfl
theorem DP (x:aQ):dF (aP x)=48:=by kernel_rfl
theorem aUN (x:aQ) (i:Nat):aF.mul (bR aF x (2^i)) (bR aF x (2^i))=bR aF x (2^(i+1)):=by
 rw[←cS];congr 1;rw[Nat.pow_succ]; omega
theorem aFy (k:Nat) (hk:k<4611686018427387904) (x:aQ) (hx:qT x) (b:Nat) (w:World) (hb:b<w.heap.size) (hr:w.rangeAt b 0 (aA (aP x))) (hf:∀j,w.frozen? ⟨b,j,none⟩=false) :
  Calls prog 182 #[iI k,jP b 0] w (fun e w'=>e=.returned (.agg (aA (aP (bR aF x (2^k)))).toArray)∧WrAt w w' b []∧w'.rangeAt b 0 (aA (aP (bR aF x (2^k))))):=by
 have hT:∀(n d:Nat) (wi:World),TabOkW prog (oZ true) w.heap.size wi:=fun _ _ wi=>(jX true).w _ _
 have hTq:∀(d:Nat) (wi:World),TabOkW prog aCU w.heap.size wi:=fun _ wi=>Es.w _ _
 have hq:∀wi:World,cV prog qN w.heap.size wi:=fun wi=>aM.w _ _
 have hqo:∀(u:aQ) (wi:World),wi.rangeAt b 0 (aA (aP u))→cV prog { qG prog with x:=aEl u b } w.heap.size wi:=fun u wi h=>Wz rfl rfl rfl fun b' o l e=>by
  obtain⟨rfl,rfl,rfl⟩:=e;exact⟨hb,h⟩
 refine dL func182 (c:=pW) rfl (args:=[iI k,jP b 0]) (cs:=[.v (.im (iI k)),.v (.im (jP b 0))]) ⟨rfl,rfl,trivial⟩ (Nat.le_of_ble_eq_true (by kernel_rfl)) fun a w' hA => ?_
 have S:St w b _ x a w':=⟨hA.now,(WrAt.refl w b).below hb hA.below,jZ hA.below hb hr⟩;clear hA;rw[aNf];refine wp_seq (aD aE (fun n d=>hT n d _) (hq _) (bBM k b) trivial S.hold fun a w2 hA => ?_);replace S:=S.step hb hA;clear hA;refine wp_seq (wp_seq (aD aE (fun n d=>hT n d _) (hq _) (bBL k b) trivial S.hold fun a w3 hA => ?_));replace S:=S.step hb hA;clear hA;refine wp_block ?_;refine rW (fun i a wi=>St w b (qF k i b) (bR aF x (2^i)) a wi) k (fun i hi a wi S R hR => ?_) (fun a wi S R => ?_) (by rw[Nat.pow_zero,PH]; exact S)
 ·rw[Di];refine wp_seq (aD aE (fun n d=>(jX true).w _ _) (hq _) (bBN k i b true) ⟨cJ hi,trivial⟩ S.hold fun a w4 hA => ?_);replace S:=S.step hb hA;clear hA;refine wp_seq (aD aE (fun n d=>hT n d _) (hq _) (bBO k i b) trivial S.hold fun a w5 hA => ?_);replace S:=S.step hb hA;clear hA;refine wp_seq (wp_block (vT (l:=List.range' 0 ((cZ (pC (cA (cB (cB kM))))).extract 0 2).size++(2::[])) (by kernel_rfl) ?_));refine cT (c:=cq 0) (fun d=>hTq d _) (hqo _ _ S.rng) (bFq k i b _) ⟨⟨rfl,rfl,rfl⟩,DP _,LU hx _,trivial⟩ (by kernel_rfl) S.hold fun a w6 hA => ?_
  replace S:=S.step hb hA;clear hA;have h8:=S.hold.slotF (s:=8) (l:=aP (aF.mul (bR aF x (2^i)) (bR aF x (2^i)))) (by simp);have h1:=S.hold.slot (s:=1) (v:=jP b 0) (by simp[qF]);obtain⟨o,ho,hoo,hod,hog⟩:∃o,(cZ (pC (cA (cB (cB kM)))))[2]?=some o∧o.op=.store 42 (.tmp 1) (.tmp 8)∧o.dst=none∧o.guard=none:=⟨_,rfl,rfl,rfl,rfl⟩
  refine nV ho hog (Zv (b:=b) (n:=48) (p:=aP (aF.mul (bR aF x (2^i)) (bR aF x (2^i)))) (l:=aA (aP (bR aF x (2^i)))) hoo hod (by simp[Act.eval,h1,jP]) (by simp[Act.eval,h8]) (by kernel_rfl) (DP _) (aPA _) S.rng (by rw[aZ,DP]) (fun j=>by rw[S.wr.frozen]; exact hf j) ?_);have S2:St w b (.slot 8 (.fl (aP (aF.mul (bR aF x (2^i)) (bR aF x (2^i)))))::qF k i b) (bR aF x (2^(i+1))) a (w6.setCells b 0 (aA (aP (aF.mul (bR aF x (2^i)) (bR aF x (2^i)))))) :=
   ⟨S.hold.setOld (by kernel_rfl) hb 0 _,S.wr.set 0 _,by rw[←aUN]; exact aBI S.rng (by rw[aZ,aZ,DP,DP])⟩
  show (cB (cB (cB kM))).wp _ _ _ _;refine aD aE (fun n d=>hT n d _) (hq _) (bFr k i b) ⟨mO (k:=1) (by omega),trivial⟩ (S2.hold.sub fun φ h=>List.mem_cons_of_mem _ h) fun a w7 hA => ?_
  exact hR _ _ (S2.step hb hA)
 ·rw[Di];refine wp_seq (aD aE (fun n d=>(jX true).w _ _) (hq _) (bBN k k b false) ⟨fP (Nat.le_refl _),trivial⟩ S.hold fun a w4 hA => ?_);replace S:=S.step hb hA;clear hA;refine wp_seq (aD aE (fun n d=>hT n d _) (hq _) (bBP k k b) trivial S.hold fun a w5 hA => ?_);replace S:=S.step hb hA;clear hA;show (cB (cB pW)).wp _ _ _ _;refine aD aE (fun n d=>hT n d _) (hqo _ _ S.rng) (bFs k b _) ⟨⟨rfl,rfl,rfl⟩,DP _,trivial⟩ S.hold fun a w6 hA => ?_
  have S2:=S.step hb hA;exact rY (l:=[.fl (aP (bR aF x (2^k)))]) (r:=.one (.fl (aP (bR aF x (2^k))))) (by kernel_rfl) (by kernel_rfl) hA ⟨rfl,S2.wr,S2.rng⟩
theorem Holds.post {nt base:Nat} {w0:World} {A:List Fact} {a:Act} {w:World} (h:Holds nt base w0 A a w) {dst kill:Option Nat} {out:List Fact} {a':Act} {w':World}
  (hP:∀β,(∀φ∈A,φ.ok base β a w)→∃β',PostB base β β' a w dst A out kill a' w') (hd:rP dst nt=false:=by kernel_rfl):Holds nt base w0 (out++A.filter (fun φ => !(mS dst kill φ))) a' w':=by
 obtain⟨β,g1,g2,g3,gt⟩:=h.facts;obtain⟨β',P⟩:=hP β g1;have hkill:∀φ∈A,mS dst kill φ=false→∀kk k GM l,kill=some kk→φ=.row k GM l→(β kk).1≠(β k).1:=fun φ hφ hc kk k GM l hkk e=>by
  obtain⟨l0,hl0⟩:=P.kills kk hkk;have hne:kk≠k:=fun e2=>by
   rw[e]at hc;simp only[mS,Bool.or_eq_false_iff]at hc;have:=eJ.2 (e2▸hkk:kill=some k);rw[hc.2]at this; cases this
  subst e;cases GM with
  | true=>exact g2 kk k l0 l hl0 hφ hne
  | false =>
   have h1:=(g1 _ hl0).2.2.1 rfl;have h2:=(g1 _ hφ).2.2.2 rfl;have:=h1.1;omega
 have hmem:∀φ∈A.filter (fun φ => !(mS dst kill φ)),φ∈A∧mS dst kill φ=false:=fun φ hφ=>by
  obtain⟨h1,h2⟩:=List.mem_filter.1 hφ;exact⟨h1,by simpa using h2⟩
 have hβ:∀k GM l,Fact.row k GM l∈A.filter (fun φ => !(mS dst kill φ))→β' k=β k:=fun k GM l hφ=>by
  obtain⟨_,hc⟩:=hmem _ hφ;simp only[mS,Bool.or_eq_false_iff]at hc;exact P.beta k fun e=>by have:=eJ.2 e; rw[hc.1]at this; cases this
 have hno:∀k l k' l',Fact.row k true l∈out→Fact.row k' true l'∈A.filter (fun φ => !(mS dst kill φ))→k≠k'→(β' k).1≠(β' k').1:=fun k l k' l' hk hk' hne=>by
  rw[hβ k' true l' hk'];obtain⟨hA',hc⟩:=hmem _ hk'
  rcases P.rows k l hk with⟨h2,_⟩|⟨h2,l0,h3⟩|⟨h2,k0,l0,hk0,he,h3⟩
  ·have:=(g1 _ hA').1;omega
  ·rw[P.beta k h2];exact g2 k k' l0 l' h3 hA' hne
  ·rw[he];refine g2 k0 k' l0 l' h3 hA' fun e => ?_
   subst e;simp only[mS,Bool.or_eq_false_iff]at hc;have:=eJ.2 hk0;rw[hc.2]at this; cases this
 have hnt:β' nt=β nt:=P.beta nt fun e=>by have:=eJ.2 e; rw[hd]at this; cases this
 refine⟨by rw[P.defers]; exact h.defers,by rw[P.size]; exact h.size,P.below w0 h.below,Nat.le_trans h.heap P.heap,β',fun φ hφ => ?_,fun k k' l l' hk hk' hne => ?_,fun k l hk => ?_,by rw[hnt]; exact Nat.le_trans gt.size P.heap,fun p q1 q2 => ?_,gt.shape.trans P.shape⟩
 ·rcases List.mem_append.1 hφ with hφ|hφ
  ·exact P.ok φ hφ
  ·obtain⟨h1,h2⟩:=hmem φ hφ;exact aWT P (g1 φ h1) h2 (hkill φ h1 h2)
 ·rcases List.mem_append.1 hk with hk|hk
  ·rcases List.mem_append.1 hk' with hk'|hk'
   ·exact absurd (P.one k k' l l' hk hk') hne
   ·exact hno k l k' l' hk hk' hne
  ·rcases List.mem_append.1 hk' with hk'|hk'
   ·exact fun e=>hno k' l' k l hk' hk (Ne.symm hne) e.symm
   ·rw[hβ k true l hk,hβ k' true l' hk'];exact g2 k k' l l' (hmem _ hk).1 (hmem _ hk').1 hne
 ·rw[hnt]
  rcases List.mem_append.1 hk with hk|hk
  ·rcases P.rows k l hk with⟨h2,_⟩|⟨h2,l0,h3⟩|⟨h2,k0,l0,hk0,he,h3⟩
   ·exact Or.inr (Nat.le_trans gt.size h2)
   ·rw[P.beta k h2];exact g3 k l0 h3
   ·rw[he];exact g3 k0 l0 h3
  ·rw[hβ k true l hk];exact g3 k l (hmem _ hk).1
 ·rw[hnt]at q2;have h3:=P.mem p (Nat.lt_of_lt_of_le q2 gt.size) fun kk hkk e=>by
   obtain⟨l0,hl0⟩:=P.kills kk hkk
   rcases g3 kk l0 hl0 with h4|h4<;>omega
  have h4:=gt.mem p q1 q2;exact⟨h3.1.trans h4.1,h3.2.trans h4.2⟩
theorem Dx {base:Nat} {β:Nat→Bk} {a:Act} {w w':World} {d:Nat} {M:List Fact} (v:Value) (l:List At) (b:Nat) (h:d<a.tmps.size) (hB:base≤w.heap.size) (hb:Below w.heap.size w w')
  (h1:w.heap.size≤b) (h2:b<w'.heap.size) (h3:w'.rangeAt b 0 (aA l)) (h4:∀j,w'.frozen? ⟨b,j,none⟩=false) :
  PostB base β (β1 β d b) a w (some d) M [.slot d (.im v),.row d true l,.at d b] none (a.put (some d) v) w' where
 defers:=rfl
 size:=gS _ _ _
 tmps s hs:=oK _ _ _ _ hs
 beta k hk:=Ih _ _ _ _ hk
 heap:=hb.size
 mem p hp _:=⟨hb.cell hp,hb.frozen hp⟩
 shape:=Shape.below hb
 below _ h:=h.trans (hb.mono hB)
 ok φ hφ:=by
  simp only[List.mem_cons,List.not_mem_nil,or_false]at hφ
  rcases hφ with rfl|rfl|rfl
  ·exact kP _ _ _ h
  ·exact⟨by rw[cG]; exact h2,by rw[cG]; exact h3,fun _=>⟨by rw[cG]; exact Nat.le_trans hB h1,by rw[cG],fun j=>by rw[cG]; exact h4 j⟩,fun h=>by cases h⟩
  ·exact⟨by rw[cG],by rw[cG]⟩
 rows k l' hk:=by
  simp only[List.mem_cons,List.not_mem_nil,or_false,reduceCtorEq,false_or]at hk;cases hk;exact Or.inl ⟨by rw[cG]; exact h1,rfl⟩
 one k k' l1 l2 hk hk':=by
  simp only[List.mem_cons,List.not_mem_nil,or_false,reduceCtorEq,false_or]at hk hk';cases hk; cases hk'; rfl
 kills k hk:=by cases hk
theorem aND {base:Nat} {β:Nat→Bk} {a:Act} {w w':World} {d k b:Nat} {M:List Fact} {l0 l':List At} (v:TV) (h:d<a.tmps.size) (hkd:k≠d) (hrow:Fact.row k true l0∈M) (hat:Fact.at k b∈M) (hM:∀φ∈M,φ.ok base β a w) (hB:base≤w.heap.size)
  (hwr:WrAt w w' b []) (hrg:w'.rangeAt b 0 (aA l')):PostB base β β a w (some d) M [.slot d v.av,.row k true l'] (some k) (a.put (some d) v.den) w':=by
 obtain⟨r1,r2,r3,r4⟩:=hM _ hrow;obtain⟨r5,r6,r7⟩:=r3 rfl;obtain⟨e1,e2⟩:=hM _ hat;refine⟨oL _ _ _,gS _ _ _,fun s hs=>oK _ _ _ _ hs,fun _ _=>rfl,hwr.size,fun p hp hne => ?_,hwr.shape,fun w0 h0 => ?_,fun φ hφ => ?_,fun k' l1 hk => ?_,fun k1 k2 l1 l2 hk hk' => ?_,fun k' hk => ?_⟩
 ·have:=hwr.block p.block hp (by rw[←e1]; exact hne k rfl);exact⟨World.cell?_of_block this,World.frozen?_of_block this⟩
 ·exact h0.trans ⟨hwr.os,hwr.tape,hwr.output,hwr.size,fun q hq=>hwr.block q (by omega) (by omega)⟩
 ·simp only[List.mem_cons,List.not_mem_nil,or_false]at hφ
  rcases hφ with rfl|rfl
  ·show (a.put (some d) _).tmps[d]?=_;rw[kP _ _ _ h,TV.av_den]
  ·refine⟨Nat.lt_of_lt_of_le r1 hwr.size,by rw[e1,e2]; exact hrg,fun _=>⟨r5,r6,fun q => ?_⟩,fun h=>by cases h⟩;have:=hwr.frozen q;rw[←e1]at this;rw[this]; exact r7 q
 ·simp only[List.mem_cons,List.not_mem_nil,or_false]at hk
  rcases hk with hk|hk
  ·cases v<;>cases hk
  ·cases hk;exact Or.inr (Or.inl ⟨fun e=>hkd (by injection e with e; exact e.symm),l0,hrow⟩)
 ·simp only[List.mem_cons,List.not_mem_nil,or_false]at hk hk'
  rcases hk with hk|hk
  ·cases v<;>cases hk
  ·rcases hk' with hk'|hk'
   ·cases v<;>cases hk'
   ·cases hk; cases hk'; rfl
 ·cases hk;exact⟨l0,hrow⟩
theorem IS {P:Program} {o:Oper} {a:Act} {w:World} {K:Act→World→Prop} {Q:Exit→Act→World→Prop} {id:Nat} {xs:Array Operand} {ts:Array TypeId} {vs:List Value} {R:Ending→World→Prop} (ho:o.op=.call ⟨.value (.func id),xs,ts⟩) (hv:xs.toList.map a.eval=vs)
  (he:∀xs,(callFunc id xs).run P w=.ok (.enter id xs) w) (hc:Calls P id vs.toArray w R) (hK:∀e w',R e w'→∃v,e=.returned v∧K (a.put o.dst v) w'):o.wp P a w K Q:=by
 have ea:xs.map a.eval=vs.toArray:=by rw[←Array.toArray_toList (xs:=xs.map a.eval),Array.toList_map,hv]
 have hrun:(execOp a.eval o).run P w=.ok (.enter id vs.toArray) w:=by
  have hf:a.eval (.func id)=.func (.func id) #[] #[]:=rfl;simp[execOp,ho,resolve,Deferred.ofValue,hf,invoke,ea,he]
 unfold Oper.wp;rw[hrun];refine Calls.mono hc ?_;intro e w' hr;obtain⟨v,rfl,hk⟩:=hK e w' hr;exact hk
theorem Ii {P:Program} {o:Oper} {a:Act} {w:World} {K:Act→World→Prop} {Q:Exit→Act→World→Prop} {id s:Nat} {cap:Array Value} {xs:Array Operand} {ts:Array TypeId} {vs:List Value} {R:Ending→World→Prop} (ho:o.op=.call ⟨.value (.tmp s),xs,ts⟩) (hs:a.eval (.tmp s)=.func (.func id) #[] cap) (hv:xs.toList.map a.eval=vs)
  (he:∀xs,(callFunc id xs).run P w=.ok (.enter id xs) w) (hc:Calls P id (vs++cap.toList).toArray w R) (hK:∀e w',R e w'→∃v,e=.returned v∧K (a.put o.dst v) w'):o.wp P a w K Q:=by
 have ea:xs.map a.eval=vs.toArray:=by rw[←Array.toArray_toList (xs:=xs.map a.eval),Array.toList_map,hv]
 have hrun:(execOp a.eval o).run P w=.ok (.enter id (vs++cap.toList).toArray) w:=by
  have e3:vs.toArray++cap=(vs++cap.toList).toArray:=by simp
  simp[execOp,ho,resolve,Deferred.ofValue,hs,invoke,ea,he]
 unfold Oper.wp;rw[hrun];refine Calls.mono hc ?_;intro e w' hr;obtain⟨v,rfl,hk⟩:=hK e w' hr;exact hk
def dA (l:List Int):List At:=l.map fun d=>.c (.int .i64 d)
def dgx:List Int:=[1,0,0,0,-1,0,0,0,0,1,0,1,0,0,0,0,1,0,0,1,0,-1,0,1,0,1,0,1,0,0,1,0,0,0,1,0,-1,0,-1,0,-1,0,1,0,1,0,0,-1,0,1,0,1,0,-1,0,0,1,0,1,0,0,0,1,0,0,0]
def dg6:List Int:=[0,-1,0,1,0,1,0,-1,0,0,-1,0,0,0,1,0,0,-1,0,-1,0,0,0,1,0,-1,0,0,0,0,-1,0,0,1,0,-1,0,0,1,0,0,0,0,0,-1,0,0,-1,0,1,0,-1,0,0,0,-1,0,-1,0,0,0,1,0,-1,0,1]
def aIK:kC
 | [.v (.fl l),.v (.fl m)]=>match vZ l,vZ m with
  | some a,some b=>some ([wv a+wv b<115792089237316195423570985008687907853269984665640564039457584007913129639936],.many [.fl (q1 (wv a+wv b)),.im (.int .u64 0)])
  | _,_=>none
 | _=>none
theorem aIJ:∀cs pre r,aIK cs=some (pre,r)→bC pre→∀(args:List Value) (w:World),bZ w cs args→Good prog 166 r args w:=by
 intro cs pre r hg hp args w ha;unfold aIK at hg;split at hg
 ·rename_i l m;split at hg
  ·rename_i a b h1 h2;cases hg;rw[RY ha,dG l _ h1,dG m _ h2];refine (DV _ _ _ _ _ _ _ _ (cM a) (cM b) w).mono ?_
   rintro e w' ⟨s0,s1,s2,s3,c,rfl,hs,hc,hv,hb⟩
   have hp1:=hp.1;have hv':aC s0 s1 s2 s3+115792089237316195423570985008687907853269984665640564039457584007913129639936*c=wv a+wv b:=hv;have hc0:c=0:=by omega
   subst hc0;obtain⟨rfl,rfl,rfl,rfl⟩:=oR hs hp1 (by omega);exact⟨rfl,hb⟩
  ·cases hg
 ·cases hg
def aIH:kC
 | [.v (.fl l),.v (.im (.int .i64 (.ofNat i)))]=>match vZ l with
  | some n=>bif Nat.blt i 256 then some ([],.one (.im (.int .i64 (dD (wv n) i:Nat))))else none
  | none=>none
 | _=>none
theorem aIG:∀cs pre r,aIH cs=some (pre,r)→bC pre→∀(args:List Value) (w:World),bZ w cs args→Good prog 167 r args w:=by
 intro cs pre r hg hp args w ha;unfold aIH at hg;split at hg
 ·rename_i l i;split at hg
  ·rename_i n hn;cases hb:Nat.blt i 256<;>rw[hb]at hg
   ·cases hg
   ·cases hg;exact aKc _ [i<256] _ (by show VZ _=_; unfold VZ; simp only[hn]) ⟨by simpa using hb,trivial⟩ args w ha
  ·cases hg
 ·cases hg
def aZS:Tab:=(T0.add 166 aIK).add 167 aIH
theorem Ty:TabOk prog aZS:=((xQ _).ad func166 aIJ).ad func167 aIG
def cSg:Nat→Cfg:=fun _=>⟨fun _=>aZS,fun _=>true,fun _=>none⟩
theorem aMh:aO prog (qG prog) cSg f112 300 [.v (.fl (q1 PD))]=some ([wv PD+wv PD<115792089237316195423570985008687907853269984665640564039457584007913129639936,wv (wv PD+wv PD)+wv PD<115792089237316195423570985008687907853269984665640564039457584007913129639936],.one (.fl (dA dgx))):=by kernel_rfl
theorem aMj:aO prog (qG prog) cSg f112 300 [.v (.fl (q1 BX))]=some ([wv BX+wv BX<115792089237316195423570985008687907853269984665640564039457584007913129639936,wv (wv BX+wv BX)+wv BX<115792089237316195423570985008687907853269984665640564039457584007913129639936],.one (.fl (dA dg6))):=by kernel_rfl
def aCW (N:Nat) (D:List Int):Prop:=∀(args:List Value) (w:World),bZ w [.v (.fl (q1 N))] args→Good prog 112 (.one (.fl (dA D))) args w
theorem aUv:aCW PD dgx:=fun args w ha=>aB aE (fun _ _=>Ty) (aJ _) func112 aMh ⟨by decide +kernel,by decide +kernel,trivial⟩ ha
theorem aUx:aCW BX dg6:=fun args w ha=>aB aE (fun _ _=>Ty) (aJ _) func112 aMj ⟨by decide +kernel,by decide +kernel,trivial⟩ ha
def gSg (N:Nat) (D:List Int):kC
 | [.v (.fl l)]=>match vZ l with
  | some n=>some ([n=N],.one (.fl (dA D)))
  | none=>none
 | _=>none
def aZT (N:Nat) (D:List Int):Tab:=(oZ true).add 112 (gSg N D)
theorem kR {N:Nat} {D:List Int} (h:aCW N D):TabOk prog (aZT N D):=(jX true).ad func112 (by
 intro cs pre r hg hp args w ha;unfold gSg at hg;split at hg
 ·rename_i l;split at hg
  ·rename_i n hn;cases hg;refine h args w ?_
   match args,ha with
   | [v],ha=>exact⟨by show v=.agg (aA (q1 N)).toArray; rw[←hp.1,←dG l _ hn]; exact ha.1,trivial⟩
   | [],ha=>exact ha.elim
   | _::_::_,ha=>exact ha.2.elim
  ·cases hg
 ·cases hg)
def fU:Code:=(f69.body).getD .skip
def oJ:Code:=pC (pC (cB (cA (cB (cB (cB (cB fU)))))))
def iE:Code:=pC (cA (cB (cB oJ)))
theorem aNa:fU=.seq (cA fU) (.seq (.region 1 (cZ (cA (cB fU))) false) (.seq (cA (cB (cB fU))) (.seq (cA (cB (cB (cB fU)))) (.seq (.seq (cA (cA (cB (cB (cB (cB fU)))))) (.block 0 (.loop oJ))) (cB (cB (cB (cB (cB fU))))))))):=by kernel_rfl
theorem Ta:oJ=.seq (cA oJ) (.seq (cA (cB oJ)) (.seq (.block 1 iE) (cB (cB (cB oJ))))):=by kernel_rfl
theorem aNb:iE=.seq (cA iE) (.seq (cA (cB iE)) (.seq (.region 8 (cZ (cA (cB (cB iE)))) false) (cB (cB (cB iE))))):=by kernel_rfl
def cR (N:Nat) (D:List Int) (n:Nat→Option Value):Nat→Cfg:=fun _=>⟨fun _=>aZT N D,fun _=>true,n⟩
def gX (g:Nat→Option Value):Ext:={ Ext.none with gen:=g }
def rA (y:aQ) (N:Nat):List Fact:=[.slot 2 (.pt 2 0),.row 2 true (aP y),.slot 3 (.pt 3 0),.row 3 true (q1 N),.slot 4 (.pt 4 0),.row 4 true (aP aF.zero)]
def rB (y:aQ) (N b:Nat):List Fact:=[.slot 3 (.pt 3 0),.row 3 true (q1 N),.slot 4 (.pt 4 0),.row 4 true (aP aF.zero),.slot 5 (.im (RO b)),.row 12 true (aP y),.at 12 b]
def rF (D:List Int) (b i t:Nat) (u r:aQ):List Fact:=[.slot 4 (.pt 4 0),.row 4 true (aP aF.zero),.slot 5 (.im (RO b)),.row 12 true (aP u),.at 12 b,.slot 6 (.pt 6 0),.row 6 true (aP r),.slot 7 (.im (iI t)),.slot 15 (.fl (dA D)),.slot 16 (.im (iI i))]
def rG (D:List Int) (b i t:Nat) (d:Int) (u r:aQ):List Fact:=.slot 8 (.im (iI i)) :: .slot 9 (.im (.int .i64 d))::rF D b i t u r
theorem bBw (N:Nat) (D:List Int) (y:aQ):aU prog qN f69.ntmps (cR N D fun _=>none) 40 (cA fU) (lC 0 [.v (.fl (aP y)),.v (.fl (q1 N))]) (rA y N)=some ([],.nrm,rA y N):=by kernel_rfl
theorem bBv (N:Nat) (D:List Int) (y:aQ):tX prog qN f69.ntmps (cR N D (fun _=>none) 0) ((cZ (cA (cB fU))).extract 0 1) (rA y N) (.slot 11 (.fl (aP y))::rA y N)=some ([],.slot 11 (.fl (aP y))::rA y N):=by kernel_rfl
theorem bBu (N:Nat) (D:List Int) (y:aQ) (b:Nat):tX prog qN f69.ntmps (cR N D (fun _=>none) 0) ((cZ (cA (cB fU))).extract 2 3) (.slot 12 (.im (RO b)) :: .row 12 true (aP y) :: .at 12 b :: .slot 11 (.fl (aP y))::rA y N) (rB y N b)=some ([],rB y N b):=by kernel_rfl
theorem bBt (N:Nat) (D:List Int) (y:aQ) (b:Nat):aU prog qN f69.ntmps (cR N D fun _=>none) 40 (cA (cB (cB fU))) (rB y N b) (.slot 6 (.pt 6 0) :: .row 6 true (aP aF.one)::rB y N b)=some ([],.nrm,.slot 6 (.pt 6 0) :: .row 6 true (aP aF.one)::rB y N b):=by kernel_rfl
theorem bBs (N:Nat) (D:List Int) (y:aQ) (b:Nat):aU prog qN f69.ntmps (cR N D fun _=>none) 40 (cA (cB (cB (cB fU)))) (.slot 6 (.pt 6 0) :: .row 6 true (aP aF.one)::rB y N b) (.slot 7 (.im (iI 0)) :: .slot 6 (.pt 6 0) :: .row 6 true (aP aF.one)::rB y N b)=some ([],.nrm,.slot 7 (.im (iI 0)) :: .slot 6 (.pt 6 0) :: .row 6 true (aP aF.one)::rB y N b):=by kernel_rfl
theorem bBr (N:Nat) (D:List Int) (y:aQ) (b:Nat):aU prog qN f69.ntmps (cR N D fun _=>none) 40 (cA (cA (cB (cB (cB (cB fU)))))) (.slot 7 (.im (iI 0)) :: .slot 6 (.pt 6 0) :: .row 6 true (aP aF.one)::rB y N b) (rF D b 0 0 y aF.one)=some ([N=N],.nrm,rF D b 0 0 y aF.one):=by kernel_rfl
theorem bBx (N:Nat) (D:List Int) (b i t:Nat) (u r:aQ) (c:Bool):aU prog qN f69.ntmps (cR N D (fun s=>bif Nat.beq s 17 then some (.bool c)else none)) 40 (cA oJ) (rF D b i t u r) (.slot 17 (.im (.bool c))::rF D b i t u r)=some ([aI .lss .i64 (Int.ofNat i) 66=some (.bool c)],.nrm,.slot 17 (.im (.bool c))::rF D b i t u r):=by kernel_rfl
theorem bBy (N:Nat) (D:List Int) (b i t:Nat) (u r:aQ):aU prog qN f69.ntmps (cR N D fun _=>none) 40 (cA (cB oJ)) (.slot 17 (.im (.bool true))::rF D b i t u r) (rF D b i t u r)=some ([],.nrm,rF D b i t u r):=by kernel_rfl
theorem bBz (N:Nat) (D:List Int) (b i t:Nat) (u r:aQ):aU prog qN f69.ntmps (cR N D fun _=>none) 40 (cA (cB oJ)) (.slot 17 (.im (.bool false))::rF D b i t u r) (rF D b i t u r)=some ([],.ex 0,rF D b i t u r):=by kernel_rfl
theorem bBF (N:Nat) (D:List Int) (b i t:Nat) (d:Int) (u r:aQ):aU prog { qG prog with x:=gX (fun s=>bif Nat.beq s 19 then some (.int .i64 d)else none) } f69.ntmps (cR N D fun _=>none) 40 (cA iE) (rF D b i t u r) (rG D b i t d u r)=some ([i<66,cellAt (dA D) i=some (.int .i64 d)],.nrm,rG D b i t d u r):=by kernel_rfl
theorem bBE (N:Nat) (D:List Int) (b i t:Nat) (d:Int) (u r:aQ):aU prog qN f69.ntmps (cR N D (fun s=>bif Nat.beq s 21 then some (.bool false)else none)) 40 (cA (cB iE)) (rG D b i t d u r) (rG D b i t d u r)=some ([aI .eql .i64 d 0=some (.bool false)],.nrm,rG D b i t d u r):=by kernel_rfl
theorem aUL (N:Nat) (D:List Int) (b i t:Nat) (d:Int) (u r:aQ):aU prog qN f69.ntmps (cR N D (fun s=>bif Nat.beq s 21 then some (.bool true)else none)) 40 (cA (cB iE)) (rG D b i t d u r) (rF D b i t u r)=some ([aI .eql .i64 d 0=some (.bool true)],.ex 1,rF D b i t u r):=by kernel_rfl
theorem bBD (N:Nat) (D:List Int) (b i t k:Nat) (d:Int) (u r:aQ):tX prog qN f69.ntmps (cR N D (fun s=>bif Nat.beq s 25 then some (iI k)else none) 0) ((cZ (cA (cB (cB iE)))).extract 0 4) (rG D b i t d u r) (.slot 22 (.im (RO b)) :: .slot 25 (.im (iI k))::rG D b i t d u r)=some ([aI .sub .i64 (Int.ofNat i) (Int.ofNat t)=some (iI k)],.slot 22 (.im (RO b)) :: .slot 25 (.im (iI k))::rG D b i t d u r):=by kernel_rfl
theorem bFo (D:List Int) (b i t k:Nat) (d:Int) (u v r:aQ):([Fact.slot 26 (TV.av (.fl (aP v))),.row 12 true (aP v)]++(.slot 22 (.im (RO b)) :: .slot 25 (.im (iI k))::rG D b i t d u r).filter (fun φ => !(mS (some 26) (some 12) φ)))=[.slot 26 (.fl (aP v)),.row 12 true (aP v),.slot 22 (.im (RO b)),.slot 25 (.im (iI k)),.slot 8 (.im (iI i)),.slot 9 (.im (.int .i64 d)),.slot 4 (.pt 4 0),.row 4 true (aP aF.zero),.slot 5 (.im (RO b)),.at 12 b,.slot 6 (.pt 6 0),.row 6 true (aP r),.slot 7 (.im (iI t)),.slot 15 (.fl (dA D)),.slot 16 (.im (iI i))]:=by kernel_rfl
theorem bBC (N:Nat) (D:List Int) (b i t k:Nat) (d:Int) (v r:aQ):tX prog qN f69.ntmps (cR N D (fun _=>none) 0) ((cZ (cA (cB (cB iE)))).extract 5 7) [.slot 26 (.fl (aP v)),.row 12 true (aP v),.slot 22 (.im (RO b)),.slot 25 (.im (iI k)),.slot 8 (.im (iI i)),.slot 9 (.im (.int .i64 d)),.slot 4 (.pt 4 0),.row 4 true (aP aF.zero),.slot 5 (.im (RO b)),.at 12 b,.slot 6 (.pt 6 0),.row 6 true (aP r),.slot 7 (.im (iI t)),.slot 15 (.fl (dA D)),.slot 16 (.im (iI i))] (.slot 10 (.pt 10 0) :: .row 10 true (aP v)::rG D b i t d v r)=some ([],.slot 10 (.pt 10 0) :: .row 10 true (aP v)::rG D b i t d v r):=by kernel_rfl
theorem bBA (N:Nat) (D:List Int) (b i t:Nat) (d:Int) (v r:aQ):aU prog qN f69.ntmps (cR N D (fun s=>bif Nat.beq s 29 then some (.bool false)else none)) 40 (cB (cB (cB iE))) (.slot 10 (.pt 10 0) :: .row 10 true (aP v)::rG D b i t d v r) (rF D b i i v (aF.mul (gB (mP r)) (gB (mP v))))=some ([aI .lss .i64 d 0=some (.bool false)],.nrm,rF D b i i v (aF.mul (gB (mP r)) (gB (mP v)))):=by kernel_rfl
theorem bBB (N:Nat) (D:List Int) (b i t:Nat) (d:Int) (v r:aQ):aU prog qN f69.ntmps (cR N D (fun s=>bif Nat.beq s 29 then some (.bool true)else none)) 40 (cB (cB (cB iE))) (.slot 10 (.pt 10 0) :: .row 10 true (aP v)::rG D b i t d v r) (rF D b i i v (aF.mul (gB (mP r)) (gB (mP (cO v)))))=some ([aI .lss .i64 d 0=some (.bool true)],.nrm,rF D b i i v (aF.mul (gB (mP r)) (gB (mP (cO v))))):=by kernel_rfl
theorem bFn (N:Nat) (D:List Int) (b i t:Nat) (u r:aQ):aU prog qN f69.ntmps (cR N D (fun s=>bif Nat.beq s 35 then some (iI (i+1))else none)) 40 (cB (cB (cB oJ))) (rF D b i t u r) (rF D b (i+1) t u r)=some ([aI .add .i64 (Int.ofNat i) 1=some (iI (i+1))],.nrm,rF D b (i+1) t u r):=by kernel_rfl
theorem bFp (N:Nat) (D:List Int) (b i t:Nat) (u r:aQ):aU prog qN f69.ntmps (cR N D fun _=>none) 40 (cB (cB (cB (cB (cB fU))))) (rF D b i t u r) [.slot 4 (.pt 4 0),.row 4 true (aP r)]=some ([],.rt,[.slot 4 (.pt 4 0),.row 4 true (aP r)]):=by kernel_rfl
def dI (D:List Int) (i:Nat):Int:=D.getD i 0
def tN (D:List Int):Nat→Nat
 | 0=>0
 | i+1=>if dI D i=0 then tN D i else i
def eN (D:List Int):Nat→Nat
 | 0=>0
 | i+1=>if dI D i=0 then eN D i else if dI D i<0 then eN D i+2^i*p6N else eN D i+2^i
theorem aQE (D:List Int):∀i,tN D i≤i
 | 0=>Nat.le_refl _
 | i+1=>by
  unfold tN;split
  ·exact Nat.le_succ_of_le (aQE D i)
  ·exact Nat.le_succ _
theorem WK:∀(D:List Int) (i:Nat),i<D.length→cellAt (dA D) i=some (.int .i64 (dI D i))
 | [],i,h=>absurd h (by simp)
 | d::r,0,h=>rfl
 | d::r,i+1,h=>by
  show (bif Nat.blt (i+1) 1 then _ else cellAt (dA r) (i+1-1))=_;rw[show Nat.blt (i+1) 1=false from Bool.eq_false_iff.2 fun h=>by simp at h,cond_false,Nat.add_sub_cancel,WK r i (by simpa using h)];simp[dI]
theorem Holds.free {nt base:Nat} {w0:World} {A:List Fact} {a:Act} {w:World} (h:Holds nt base w0 A a w) {k b:Nat} {l:List At} (h1:Fact.row k true l∈A) (h2:Fact.at k b∈A):∀j,w.frozen? ⟨b,j,none⟩=false:=by
 obtain⟨β,g1,g2⟩:=h.facts;obtain⟨_,_,e3,_⟩:=g1 _ h1;obtain⟨e4,e5⟩:=g1 _ h2;have:=(e3 rfl).2.2;rw[e4]at this;exact this
theorem aQM (y:aQ) {t i:Nat} (h:t≤i):bR aF (bR aF y (2^t)) (2^(i-t))=bR aF y (2^i):=by
 rw[←eW,←Nat.pow_add,Nat.add_sub_cancel' h]
theorem aRu (d:Int):aI .eql .i64 d 0=some (.bool (decide (d=0))):=by
 show some (Value.bool (d==0))=_
 by_cases h:d=0
 ·subst h; rfl
 ·rw[decide_eq_false h];simp[h]
theorem aRs (d:Int):aI .lss .i64 d 0=some (.bool (decide (d<0))):=rfl
theorem zX {N:Nat} {D:List Int} (hsg:aCW N D) (hlen:D.length=66) (y:aQ) (hy:qT y) (args:List Value) (w:World) (ha:bZ w [.v (.fl (aP y)),.v (.fl (q1 N))] args):Good prog 69 (.one (.fl (aP (bR aF y (eN D 66))))) args w:=by
 have hT:∀(n d:Nat) (wi:World),TabOkW prog (aZT N D) w.heap.size wi:=fun _ _ wi=>(kR hsg).w _ _
 refine dL func69 (c:=fU) rfl ha (Nat.le_of_ble_eq_true (by kernel_rfl)) fun a w' hA => ?_
 rw[aNa];refine wp_seq (bI aE (fun _ _=>kR hsg) aM (bBw N D y) trivial hA fun a w1 hA => ?_);refine wp_seq (vT (l:=List.range' 0 ((cZ (cA (cB fU))).extract 0 1).size++(1::(List.range' 2 ((cZ (cA (cB fU))).extract 2 3).size++[]))) (by kernel_rfl) ?_);refine cT (c:=cR N D (fun _=>none) 0) (fun d=>(kR hsg).w _ _) (aM.w _ _) (bBv N D y) trivial (by kernel_rfl) hA fun a w2 hA => ?_
 have h11:=hA.slotF (s:=11) (l:=aP y) (by simp);obtain⟨o,ho,hoo,hod,hog⟩:∃o,(cZ (cA (cB fU)))[1]?=some o∧(∃ts,o.op=.call ⟨.value (.func 138),#[.tmp 11],ts⟩)∧o.dst=some 12∧o.guard=none:=⟨_,rfl,⟨_,rfl⟩,rfl,rfl⟩
 obtain⟨ts,hoo⟩:=hoo;refine nV ho hog (IS hoo (vs:=[.agg (aA (aP y)).toArray]) (by simp[Act.eval,h11]) (iJ func138 (by kernel_rfl) (by kernel_rfl) · _) (OE y [.agg (aA (aP y)).toArray] _ ⟨rfl,trivial⟩) fun e w3 hR => ?_);obtain⟨b,rfl,hb,h1,h2,h3,h4⟩:=hR;refine⟨_,rfl,?_⟩;rw[hod];have hA:=hA.post (dst:=some 12) (kill:=none) fun β hβ=>⟨_,Dx (RO b) (aP y) b (by rw[hA.size]; exact Nat.le_of_ble_eq_true (by kernel_rfl)) hA.heap hb h1 h2 h3 h4⟩
 have ef:([Fact.slot 12 (.im (RO b)),.row 12 true (aP y),.at 12 b]++(.slot 11 (.fl (aP y))::rA y N).filter (fun φ => !(mS (some 12) none φ)))=.slot 12 (.im (RO b)) :: .row 12 true (aP y) :: .at 12 b :: .slot 11 (.fl (aP y))::rA y N:=by kernel_rfl
 rw[ef]at hA;refine cT (c:=cR N D (fun _=>none) 0) (fun d=>(kR hsg).w _ _) (aM.w _ _) (bBu N D y b) trivial (by kernel_rfl) hA fun a w4 hA => ?_
 show (Code.seq (cA (cB (cB fU))) _).wp _ _ _ _;refine wp_seq (bI aE (fun _ _=>kR hsg) aM (bBt N D y b) trivial hA fun a w5 hA => ?_);refine wp_seq (bI aE (fun _ _=>kR hsg) aM (bBs N D y b) trivial hA fun a w6 hA => ?_);refine wp_seq (wp_seq (bI aE (fun _ _=>kR hsg) aM (bBr N D y b) ⟨rfl,trivial⟩ hA fun a w7 hA => ?_));refine wp_block ?_;refine rW (fun i a wi=>Holds f69.ntmps w.heap.size w (rF D b i (tN D i) (bR aF y (2^tN D i)) (bR aF y (eN D i))) a wi) 66 (fun i hi a wi hA R hR => ?_) (fun a wi hA R => ?_) (by
  show Holds _ _ _ (rF D b 0 0 (bR aF y (2^0)) (bR aF y 0)) _ _;rw[Nat.pow_zero,PH]; exact hA)
 ·rw[Ta];refine wp_seq (bI aE (fun _ _=>kR hsg) aM (bBx N D b i _ _ _ true) ⟨cJ hi,trivial⟩ hA fun a w8 hA => ?_);refine wp_seq (bI aE (fun _ _=>kR hsg) aM (bBy N D b i _ _ _) trivial hA fun a w9 hA => ?_);refine wp_seq (wp_block ?_);have hfin:∀(Q:Exit→Act→World→Prop) a w',Holds f69.ntmps w.heap.size w (rF D b i (tN D (i+1)) (bR aF y (2^tN D (i+1))) (bR aF y (eN D (i+1)))) a w'→(cB (cB (cB oJ))).wp prog (Exit.then R Q) a w':=fun Q a w' hA =>
   bI aE (fun _ _=>kR hsg) aM (bFn N D b i _ _ _) ⟨mO (k:=1) (by omega),trivial⟩ hA fun a w'' hA=>hR a w'' hA
  rw[aNb];refine wp_seq (aD aE (fun n d=>hT n d _) (Wz (x:=gX (fun s=>bif Nat.beq s 19 then some (.int .i64 (dI D i))else none)) (N:=w.heap.size) (w:=w) rfl rfl rfl fun _ _ _ h=>h.elim) (bBF N D b i _ (dI D i) _ _) ⟨hi,WK D i (by omega),trivial⟩ hA fun a w10 hA => ?_)
  by_cases hd:dI D i=0
  ·refine wp_seq (bI aE (fun _ _=>kR hsg) aM (aUL N D b i _ (dI D i) _ _) ⟨by rw[aRu,decide_eq_true hd],trivial⟩ hA fun a w11 hA => ?_);refine hfin _ a w11 ?_;rw[show tN D (i+1)=tN D i from if_pos hd,show eN D (i+1)=eN D i from if_pos hd];exact hA
  ·refine wp_seq (bI aE (fun _ _=>kR hsg) aM (bBE N D b i _ (dI D i) _ _) ⟨by rw[aRu,decide_eq_false hd],trivial⟩ hA fun a w11 hA => ?_);refine wp_seq (vT (l:=List.range' 0 ((cZ (cA (cB (cB iE)))).extract 0 4).size++(4::(List.range' 5 ((cZ (cA (cB (cB iE)))).extract 5 7).size++[]))) (by kernel_rfl) ?_);have ht:=aQE D i;refine cT (c:=cR N D (fun s=>bif Nat.beq s 25 then some (iI (i-tN D i))else none) 0) (fun d=>(kR hsg).w _ _) (aM.w _ _) (bBD N D b i (tN D i) (i-tN D i) (dI D i) _ _) ⟨tO ht (by omega),trivial⟩ (by kernel_rfl) hA fun a w12 hA => ?_
   have h22:=hA.slot (s:=22) (v:=RO b) (by simp);have h25:=hA.slot (s:=25) (v:=iI (i-tN D i)) (by simp);obtain⟨o2,ho2,hoo2,hod2,hog2⟩:∃o,(cZ (cA (cB (cB iE))))[4]?=some o∧(∃ts,o.op=.call ⟨.value (.tmp 22),#[.tmp 25],ts⟩)∧o.dst=some 26∧o.guard=none:=⟨_,rfl,⟨_,rfl⟩,rfl,rfl⟩
   obtain⟨ts2,hoo2⟩:=hoo2;have hold:=hA.old (k:=12) (b:=b) (l:=aP (bR aF y (2^tN D i))) (by simp[rG,rF]) (by simp[rG,rF]);have hfree:=hA.free (k:=12) (b:=b) (l:=aP (bR aF y (2^tN D i))) (by simp[rG,rF]) (by simp[rG,rF]);refine nV ho2 hog2 (Ii hoo2 (id:=182) (cap:=#[.pointer (some ⟨b,0,none⟩)]) (vs:=[iI (i-tN D i)]) (by simp[Act.eval,h22,RO]) (by simp[Act.eval,h25]) (iJ func182 (by kernel_rfl) (by kernel_rfl) · _) (aFy (i-tN D i) (by omega) _ (LU hy _) b w12 hold.1 hold.2 hfree) fun e w13 hR2 => ?_);obtain⟨rfl,hwr,hrg⟩:=hR2;refine⟨_,rfl,?_⟩;rw[hod2];have hA:=hA.post (dst:=some 26) (kill:=some 12) fun β hβ=>⟨_,aND (.fl (aP (bR aF (bR aF y (2^tN D i)) (2^(i-tN D i))))) (by rw[hA.size]; exact Nat.le_of_ble_eq_true (by kernel_rfl)) (by decide) (l0:=aP (bR aF y (2^tN D i))) (b:=b) (by simp[rG,rF]) (by simp[rG,rF]) hβ hA.heap hwr hrg⟩
   rw[bFo]at hA;rw[aQM y ht]at hA;refine cT (c:=cR N D (fun _=>none) 0) (fun d=>(kR hsg).w _ _) (aM.w _ _) (bBC N D b i (tN D i) (i-tN D i) (dI D i) _ _) trivial (by kernel_rfl) (by rw[aQM y ht]; exact hA) fun a w14 hA => ?_
   show (cB (cB (cB iE))).wp _ _ _ _
   by_cases hn:dI D i<0
   ·refine bI aE (fun _ _=>kR hsg) aM (bBB N D b i (tN D i) (dI D i) _ _) ⟨by rw[aRs,decide_eq_true hn],trivial⟩ hA fun a w15 hA => ?_
    refine hfin _ a w15 ?_;rw[show tN D (i+1)=i from if_neg hd,show eN D (i+1)=eN D i+2^i*p6N from (if_neg hd).trans (if_pos hn),cS,eW,←MM];rw[gE,gE]at hA;exact hA
   ·refine bI aE (fun _ _=>kR hsg) aM (bBA N D b i (tN D i) (dI D i) _ _) ⟨by rw[aRs,decide_eq_false hn],trivial⟩ hA fun a w15 hA => ?_
    refine hfin _ a w15 ?_;rw[show tN D (i+1)=i from if_neg hd,show eN D (i+1)=eN D i+2^i from (if_neg hd).trans (if_neg hn),cS];rw[gE,gE]at hA;exact hA
 ·rw[Ta];refine wp_seq (bI aE (fun _ _=>kR hsg) aM (bBx N D b 66 _ _ _ false) ⟨fP (Nat.le_refl _),trivial⟩ hA fun a w8 hA => ?_);refine wp_seq (bI aE (fun _ _=>kR hsg) aM (bBz N D b 66 _ _ _) trivial hA fun a w9 hA => ?_);show (cB (cB (cB (cB (cB fU))))).wp _ _ _ _;exact bI aE (fun _ _=>kR hsg) aM (bFp N D b 66 _ _ _) trivial hA fun a w10 hA=>eF (l:=[.fl (aP (bR aF y (eN D 66)))]) (by kernel_rfl) (by kernel_rfl) hA
def kxN:Nat:=(eN dgx 66-PD)/q4N
def k6N:Nat:=(eN dg6 66-BX)/q4N
theorem bGP:eN dgx 66=PD+q4N*kxN:=by kernel_rfl
theorem bGQ:eN dg6 66=BX+q4N*k6N:=by kernel_rfl
theorem bFw {y:aQ} (h:qT y):bR aF y (eN dgx 66)=bR aF y PD:=by rw[bGP,cS,eW,Mt h,nP,aF.mul_one]
theorem bFx {y:aQ} (h:qT y):bR aF y (eN dg6 66)=bR aF y BX:=by rw[bGQ,cS,eW,Mt h,nP,aF.mul_one]
def s6F:Fq:=⟨BX,by decide +kernel⟩
def sdF:Fq:=⟨PD,by decide +kernel⟩
theorem Sm:bM prog aCU qN (fun _=>true) f70 40 []=some ([],.one (.fl [.f s6F])):=by kernel_rfl
theorem aEC:bM prog aCU qN (fun _=>true) f71 40 []=some ([],.one (.fl [.f sdF])):=by kernel_rfl
theorem aRv:∃f:aQ→aQ,∀y,f y=bR aF y BX:=⟨fun y=>bR aF y BX,fun _=>rfl⟩
theorem aQQ:∃f:aQ→aQ,∀y,f y=bR aF y PD:=⟨fun y=>bR aF y PD,fun _=>rfl⟩
def o6:aQ→aQ:=Classical.choose aRv
def ox:aQ→aQ:=Classical.choose aQQ
theorem aHn (y:aQ):o6 y=bR aF y BX:=Classical.choose_spec aRv y
theorem aQR (y:aQ):ox y=bR aF y PD:=Classical.choose_spec aQQ y
def aXw:kC
 | [.v (.fl l),.v (.fl m)]=>match sO l,vZ m with
  | some y,some n=>bif Nat.beq n BX then some ([qT y],.one (.fl (aP (o6 y))))else bif Nat.beq n PD then some ([qT y],.one (.fl (aP (ox y))))else none
  | _,_=>none
 | _=>none
theorem aOV:∀cs pre r,aXw cs=some (pre,r)→bC pre→∀(args:List Value) (w:World),bZ w cs args→Good prog 69 r args w:=by
 intro cs pre r hg hp args w ha;unfold aXw at hg;split at hg
 ·rename_i l m;split at hg
  ·rename_i y n hy hn;have hca:∀N,n=N→bZ w [.v (.fl (aP y)),.v (.fl (q1 N))] args:=fun N e=>by
    subst e
    match args,ha with
    | [u,v],ha=>exact⟨by show u=.agg (aA (aP y)).toArray; rw[←fK l _ hy]; exact ha.1,by show v=.agg (aA (q1 n)).toArray; rw[←dG m _ hn]; exact ha.2.1,trivial⟩
    | [],ha=>exact ha.elim
    | [_],ha=>exact ha.2.elim
    | _::_::_::_,ha=>exact ha.2.2.elim
   cases h6:Nat.beq n BX<;>rw[h6]at hg
   ·simp only[cond_false]at hg;cases hx:Nat.beq n PD<;>rw[hx]at hg
    ·cases hg
    ·cases hg;have:=zX aUv (by decide) y hp.1 args w (hca _ (Nat.eq_of_beq_eq_true hx));rw[bFw hp.1,←aQR]at this;exact this
   ·cases hg;have:=zX aUx (by decide) y hp.1 args w (hca _ (Nat.eq_of_beq_eq_true h6));rw[bFx hp.1,←aHn]at this;exact this
  ·cases hg
 ·cases hg
def Ye:Tab:=((aCU.add 70 (g0 (.one (.fl [.f s6F])))).add 71 (g0 (.one (.fl [.f sdF])))).add 69 aXw
theorem Np:TabOk prog Ye:=((Es.ad func70 (gT fun w=>aH aE Es aM func70 Sm trivial (args:=[]) trivial)).ad func71 (gT fun w=>aH aE Es aM func71 aEC trivial (args:=[]) trivial)).ad func69 aOV
theorem aAM (x a:aQ) (k:Nat):bM prog Ye qN (fun _=>true) f165 60 [.v (.fl (aP x)),.s (aP a) 1 k]=some ([],.one (.fl (aP (aF.mul (gB (mP x)) (gB (mP a)))))):=by kernel_rfl
theorem aAL (x a b c:aQ) (k:Nat):bM prog Ye qN (fun _=>true) f165 60 [.v (.fl (aP x)),.s (aP a++(aP b++aP c)) 3 k]=some ([],.one (.fl (aP (aF.mul (gB (mP (aF.mul (gB (mP (aF.mul (gB (mP x)) (gB (mP a))))) (gB (mP b))))) (gB (mP c)))))):=by kernel_rfl
def Sx:Nat→List At→Option (List aQ)
 | 0,_=>some []
 | n+1,l=>match tk l 48,dp l 48 with
  | some a,some r=>(match sO a,Sx n r with|some x,some xs=>some (x::xs)|_,_=>none)
  | _,_=>none
def VX:kC
 | [.v (.fl l),.s m n k]=>match sO l,Sx n m with
  | some x,some [a]=>some ([],.one (.fl (aP (aF.mul x a))))
  | some x,some [a,b,c]=>some ([],.one (.fl (aP (aF.mul (aF.mul (aF.mul x a) b) c))))
  | _,_=>none
 | _=>none
theorem yA:∀{n:Nat} {l:List At} {xs:List aQ},Sx n l=some xs→xs.length=n∧∃r,aA l=aA (xs.flatMap aP)++r
 | 0,l,xs,h=>by cases h; exact⟨rfl,aA l,rfl⟩
 | n+1,l,xs,h=>by
  unfold Sx at h;split at h
  ·rename_i a r ht hd;split at h
   ·rename_i x xs' hx hr;cases h;obtain⟨h1,r',h2⟩:=yA hr;obtain⟨r2,e1,s1⟩:=vU _ _ _ ht;obtain⟨p,e2,s2⟩:=wT _ _ _ hd;obtain⟨h3,h4⟩:=vD (e1.symm.trans e2) (s1.trans s2.symm);refine⟨by rw[List.length_cons,h1],r',?_⟩;rw[e1,aT,h4,h2,fK a _ hx,List.flatMap_cons,aT,List.append_assoc]
   ·cases h
  ·cases h
theorem bEa {w:World} {l m m':List At} {x:aQ} {n k:Nat} {r:List Value} (hl:aA l=aA (aP x)) (hm:aA m=aA m'++r) {args:List Value} (ha:bZ w [.v (.fl l),.s m n k] args):bZ w [.v (.fl (aP x)),.s m' n k] args:=by
 match args,ha with
 | [u,s],ha =>
  refine⟨by show u=.agg (aA (aP x)).toArray; rw[←hl]; exact ha.1,?_,trivial⟩;obtain⟨b,o,e,hb,hr⟩:=ha.2.1;refine⟨b,o,e,hb,fun j v hj=>hr j v ?_⟩;rw[hm,List.getElem?_append_left (List.getElem?_eq_some_iff.1 hj).1];exact hj
 | [],ha=>exact ha.elim
 | [_],ha=>exact ha.2.elim
 | _::_::_::_,ha=>exact ha.2.2.elim
theorem Oy:∀cs pre r,VX cs=some (pre,r)→bC pre→∀(args:List Value) (w:World),bZ w cs args→Good prog 165 r args w:=by
 intro cs pre r hg hp args w ha;unfold VX at hg;split at hg
 ·rename_i l m n k;split at hg
  ·rename_i x a hx hm;cases hg;obtain⟨h1,r',h2⟩:=yA hm;have hn:n=1:=h1.symm;subst hn;have h:=aH aE Np aM func165 (aAM x a k) trivial (args:=args) (w:=w) (bEa (r:=r') (fK l _ hx) (by rw[h2]; simp[List.flatMap]) ha);rw[gE,gE]at h;exact h
  ·rename_i x a b c hx hm;cases hg;obtain⟨h1,r',h2⟩:=yA hm;have hn:n=3:=h1.symm;subst hn;have h:=aH aE Np aM func165 (aAL x a b c k) trivial (args:=args) (w:=w) (bEa (r:=r') (fK l _ hx) (by rw[h2]; simp[List.flatMap]) ha);rw[gE x,gE a,gE b,gE c,gE,gE]at h;exact h
  ·cases hg
 ·cases hg
def aZU:Tab:=Ye.add 165 VX
theorem AL:TabOk prog aZU:=Np.ad func165 Oy
def hXr (y:aQ):aQ:=aF.mul (aF.mul (aF.mul (fE (cD 3).toNat y) (fE (cD 2).toNat (aF.mul y (VU y)))) (fE (cD 1).toNat (aF.mul y (cO (hG y))))) (cO (hR y))
theorem aXk (y:aQ):hXr y=hX y:=by
 unfold hXr hX;rw[show (cD 3).toNat=3 by decide,show (cD 2).toNat=2 by decide,show (cD 1).toNat=1 by decide]
def cPd:Nat→Cfg:=fun _=>⟨fun _=>aZU,fun _=>true,fun _=>none⟩
def gY:Code:=(f111.body).getD .skip
theorem bCV (y:aQ):aU prog qN f111.ntmps cPd 40 (cA gY) (lC 0 [.v (.fl (aP y))]) [.slot 1 (.pt 1 0),.row 1 true (aP y),.slot 2 (.pt 2 0),.row 2 true (aP aF.zero)]=some ([],.nrm,[.slot 1 (.pt 1 0),.row 1 true (aP y),.slot 2 (.pt 2 0),.row 2 true (aP aF.zero)]):=by kernel_rfl
theorem bCU (y:aQ):aU prog qN f111.ntmps cPd 40 (cA (cB gY)) [.slot 1 (.pt 1 0),.row 1 true (aP y),.slot 2 (.pt 2 0),.row 2 true (aP aF.zero)] [.slot 3 (.pt 3 0),.row 3 true (aP (o6 y)),.slot 1 (.pt 1 0),.row 1 true (aP y),.slot 2 (.pt 2 0),.row 2 true (aP aF.zero)]=some ([qT y],.nrm,[.slot 3 (.pt 3 0),.row 3 true (aP (o6 y)),.slot 1 (.pt 1 0),.row 1 true (aP y),.slot 2 (.pt 2 0),.row 2 true (aP aF.zero)]):=by kernel_rfl
theorem bCT (y s:aQ):aU prog qN f111.ntmps cPd 40 (cA (cB (cB gY))) [.slot 3 (.pt 3 0),.row 3 true (aP s),.slot 1 (.pt 1 0),.row 1 true (aP y),.slot 2 (.pt 2 0),.row 2 true (aP aF.zero)] [.slot 4 (.pt 4 0),.row 4 true (aP (ox s)),.slot 3 (.pt 3 0),.row 3 true (aP s),.slot 1 (.pt 1 0),.row 1 true (aP y),.slot 2 (.pt 2 0),.row 2 true (aP aF.zero)]=some ([qT s],.nrm,[.slot 4 (.pt 4 0),.row 4 true (aP (ox s)),.slot 3 (.pt 3 0),.row 3 true (aP s),.slot 1 (.pt 1 0),.row 1 true (aP y),.slot 2 (.pt 2 0),.row 2 true (aP aF.zero)]):=by kernel_rfl
theorem bCS (y s q:aQ):aU prog qN f111.ntmps cPd 40 (cA (cB (cB (cB gY)))) [.slot 4 (.pt 4 0),.row 4 true (aP q),.slot 3 (.pt 3 0),.row 3 true (aP s),.slot 1 (.pt 1 0),.row 1 true (aP y),.slot 2 (.pt 2 0),.row 2 true (aP aF.zero)] [.slot 5 (.pt 5 0),.row 5 true (aP (o6 q)),.slot 4 (.pt 4 0),.row 4 true (aP q),.slot 3 (.pt 3 0),.row 3 true (aP s),.slot 1 (.pt 1 0),.row 1 true (aP y),.slot 2 (.pt 2 0),.row 2 true (aP aF.zero)]=some ([qT q],.nrm,[.slot 5 (.pt 5 0),.row 5 true (aP (o6 q)),.slot 4 (.pt 4 0),.row 4 true (aP q),.slot 3 (.pt 3 0),.row 3 true (aP s),.slot 1 (.pt 1 0),.row 1 true (aP y),.slot 2 (.pt 2 0),.row 2 true (aP aF.zero)]):=by kernel_rfl
theorem bCR (y s q c:aQ):aU prog qN f111.ntmps cPd 40 (cA (cB (cB (cB (cB gY))))) [.slot 5 (.pt 5 0),.row 5 true (aP c),.slot 4 (.pt 4 0),.row 4 true (aP q),.slot 3 (.pt 3 0),.row 3 true (aP s),.slot 1 (.pt 1 0),.row 1 true (aP y),.slot 2 (.pt 2 0),.row 2 true (aP aF.zero)] [.slot 6 (.pt 6 0),.row 6 true (aP (aF.mul q q)),.slot 5 (.pt 5 0),.row 5 true (aP c),.slot 4 (.pt 4 0),.row 4 true (aP q),.slot 3 (.pt 3 0),.row 3 true (aP s),.slot 1 (.pt 1 0),.row 1 true (aP y),.slot 2 (.pt 2 0),.row 2 true (aP aF.zero)]=some ([qT q],.nrm,[.slot 6 (.pt 6 0),.row 6 true (aP (aF.mul q q)),.slot 5 (.pt 5 0),.row 5 true (aP c),.slot 4 (.pt 4 0),.row 4 true (aP q),.slot 3 (.pt 3 0),.row 3 true (aP s),.slot 1 (.pt 1 0),.row 1 true (aP y),.slot 2 (.pt 2 0),.row 2 true (aP aF.zero)]):=by kernel_rfl
theorem bCQ (y s q c t:aQ):aU prog qN f111.ntmps cPd 40 (cA (cB (cB (cB (cB (cB gY)))))) [.slot 6 (.pt 6 0),.row 6 true (aP t),.slot 5 (.pt 5 0),.row 5 true (aP c),.slot 4 (.pt 4 0),.row 4 true (aP q),.slot 3 (.pt 3 0),.row 3 true (aP s),.slot 1 (.pt 1 0),.row 1 true (aP y),.slot 2 (.pt 2 0),.row 2 true (aP aF.zero)] [.slot 7 (.pt 7 0),.row 7 true (aP (aF.mul (aF.mul (aF.mul c q) t) (aF.mul s s))),.slot 6 (.pt 6 0),.row 6 true (aP t),.slot 5 (.pt 5 0),.row 5 true (aP c),.slot 4 (.pt 4 0),.row 4 true (aP q),.slot 3 (.pt 3 0),.row 3 true (aP s),.slot 1 (.pt 1 0),.row 1 true (aP y),.slot 2 (.pt 2 0),.row 2 true (aP aF.zero)]=some ([qT s],.nrm,[.slot 7 (.pt 7 0),.row 7 true (aP (aF.mul (aF.mul (aF.mul c q) t) (aF.mul s s))),.slot 6 (.pt 6 0),.row 6 true (aP t),.slot 5 (.pt 5 0),.row 5 true (aP c),.slot 4 (.pt 4 0),.row 4 true (aP q),.slot 3 (.pt 3 0),.row 3 true (aP s),.slot 1 (.pt 1 0),.row 1 true (aP y),.slot 2 (.pt 2 0),.row 2 true (aP aF.zero)]):=by kernel_rfl
theorem bCP (y s q c t g:aQ):aU prog qN f111.ntmps cPd 40 (cA (cB (cB (cB (cB (cB (cB gY))))))) [.slot 7 (.pt 7 0),.row 7 true (aP g),.slot 6 (.pt 6 0),.row 6 true (aP t),.slot 5 (.pt 5 0),.row 5 true (aP c),.slot 4 (.pt 4 0),.row 4 true (aP q),.slot 3 (.pt 3 0),.row 3 true (aP s),.slot 1 (.pt 1 0),.row 1 true (aP y),.slot 2 (.pt 2 0),.row 2 true (aP aF.zero)] [.slot 8 (.pt 8 0),.row 8 true (aP (aF.mul (aF.mul (aF.mul g t) s) (aF.mul y y))),.slot 7 (.pt 7 0),.row 7 true (aP g),.slot 6 (.pt 6 0),.row 6 true (aP t),.slot 5 (.pt 5 0),.row 5 true (aP c),.slot 4 (.pt 4 0),.row 4 true (aP q),.slot 3 (.pt 3 0),.row 3 true (aP s),.slot 1 (.pt 1 0),.row 1 true (aP y),.slot 2 (.pt 2 0),.row 2 true (aP aF.zero)]=some ([qT y],.nrm,[.slot 8 (.pt 8 0),.row 8 true (aP (aF.mul (aF.mul (aF.mul g t) s) (aF.mul y y))),.slot 7 (.pt 7 0),.row 7 true (aP g),.slot 6 (.pt 6 0),.row 6 true (aP t),.slot 5 (.pt 5 0),.row 5 true (aP c),.slot 4 (.pt 4 0),.row 4 true (aP q),.slot 3 (.pt 3 0),.row 3 true (aP s),.slot 1 (.pt 1 0),.row 1 true (aP y),.slot 2 (.pt 2 0),.row 2 true (aP aF.zero)]):=by kernel_rfl
theorem bCO (y s q c t g h:aQ):aU prog qN f111.ntmps cPd 40 (cB (cB (cB (cB (cB (cB (cB gY))))))) [.slot 8 (.pt 8 0),.row 8 true (aP h),.slot 7 (.pt 7 0),.row 7 true (aP g),.slot 6 (.pt 6 0),.row 6 true (aP t),.slot 5 (.pt 5 0),.row 5 true (aP c),.slot 4 (.pt 4 0),.row 4 true (aP q),.slot 3 (.pt 3 0),.row 3 true (aP s),.slot 1 (.pt 1 0),.row 1 true (aP y),.slot 2 (.pt 2 0),.row 2 true (aP aF.zero)] [.slot 2 (.pt 2 0),.row 2 true (aP (aF.mul (aF.mul (aF.mul (fE (cD 3).toNat y) (fE (cD 2).toNat (aF.mul y q))) (fE (cD 1).toNat (aF.mul y (cO g)))) (cO h)))]=some ([],.rt,[.slot 2 (.pt 2 0),.row 2 true (aP (aF.mul (aF.mul (aF.mul (fE (cD 3).toNat y) (fE (cD 2).toNat (aF.mul y q))) (fE (cD 1).toNat (aF.mul y (cO g)))) (cO h)))]):=by kernel_rfl
theorem aOO:gY=.seq (cA gY) (.seq (cA (cB gY)) (.seq (cA (cB (cB gY))) (.seq (cA (cB (cB (cB gY)))) (.seq (cA (cB (cB (cB (cB gY))))) (.seq (cA (cB (cB (cB (cB (cB gY)))))) (.seq (cA (cB (cB (cB (cB (cB (cB gY))))))) ((cB (cB (cB (cB (cB (cB (cB gY)))))))))))))):=by kernel_rfl
theorem Ox (y:aQ) (hy:qT y) (args:List Value) (w:World) (ha:bZ w [.v (.fl (aP y))] args):Good prog 111 (.one (.fl (aP (hX y)))) args w:=by
 have h6:qT (sZ y):=LU hy _;have h2:qT (VU y):=LU h6 _;refine dL func111 (c:=gY) rfl ha (Nat.le_of_ble_eq_true (by kernel_rfl)) fun a w' hA => ?_
 rw[aOO];refine wp_seq (bI aE (fun _ _=>AL) aM (bCV y) trivial hA fun a w' hA => ?_);refine wp_seq (bI aE (fun _ _=>AL) aM (bCU y) ⟨hy,trivial⟩ hA fun a w' hA => ?_);rw[show o6 y=sZ y from aHn y]at hA;refine wp_seq (bI aE (fun _ _=>AL) aM (bCT y (sZ y)) ⟨h6,trivial⟩ hA fun a w' hA => ?_);rw[show ox (sZ y)=VU y from aQR _]at hA;refine wp_seq (bI aE (fun _ _=>AL) aM (bCS y (sZ y) (VU y)) ⟨h2,trivial⟩ hA fun a w' hA => ?_);rw[show o6 (VU y)=hCu y from aHn _]at hA;refine wp_seq (bI aE (fun _ _=>AL) aM (bCR y (sZ y) (VU y) (hCu y)) ⟨h2,trivial⟩ hA fun a w' hA => ?_);refine wp_seq (bI aE (fun _ _=>AL) aM (bCQ y (sZ y) (VU y) (hCu y) (hT y)) ⟨h6,trivial⟩ hA fun a w' hA => ?_);refine wp_seq (bI aE (fun _ _=>AL) aM (bCP y (sZ y) (VU y) (hCu y) (hT y) (hG y)) ⟨hy,trivial⟩ hA fun a w' hA => ?_);have h:=bCO y (sZ y) (VU y) (hCu y) (hT y) (hG y) (hR y);refine bI aE (fun _ _=>AL) aM h trivial hA fun a w' hA => ?_
 rw[←aXk];exact eF (l:=[.fl (aP (hXr y))]) (by kernel_rfl) (by kernel_rfl) hA
def aZV:Tab:=aZU.add 111 (g1 sO fun y=>([qT y],.one (.fl (aP (hX y)))))
theorem aRp:TabOk prog aZV:=AL.ad func111 (bP fK fun y hp args w ha=>Ox y hp.1 args w ha)
def eZr (a:aQ):aQ:=aF.mul (gB (mP (fE (cD 2).toNat (aF.mul (gB (mP (cO a))) (gB (mP (lZ a))))))) (gB (mP (aF.mul (gB (mP (cO a))) (gB (mP (lZ a))))))
theorem aJm (a:aQ):eZr a=eZ a:=by
 unfold eZr eZ;rw[gE,gE,gE,gE,bCN]
theorem aEW (x:mX):bM prog aZV qN (fun _=>true) f53 60 [.v (.fl (rH x))]=some ([xD (gB x)≠F1.zero,qT (eZr (gB x))],.one (.fl (aP (hX (eZr (gB x)))))):=by kernel_rfl
def bEk:Tab:=aZV.add 53 (g1 Mn fun x=>([xD (gB x)≠F1.zero],.one (.fl (aP (lY (gB x))))))
theorem bCn:TabOk prog bEk:=aRp.ad func53 (bP zQ fun x hp args w ha=>by
 have h:=aH aE aRp aM func53 (aEW x) ⟨hp.1,by rw[aJm]; exact Xd hp.1,trivial⟩ (args:=args) (w:=w) ha;rw[aJm]at h;exact h)
def aRR (z:aQ):Prop:=qT z∧bR aF z Go.Proofs.YtglgakbkdjhojaaGreat.FR.M=aF.one
def Vt:Nat:=29793968203157093288
def OV:List Int:=[0,0,0,1,0,1,0,-1,0,0,-1,0,0,0,1,0,0,-1,0,-1,0,0,0,1,0,-1,0,0,0,0,-1,0,0,1,0,-1,0,0,1,0,0,0,0,0,-1,0,0,-1,0,1,0,-1,0,0,0,-1,0,-1,0,0,0,1,0,-1,0,1]
theorem aMi:aO prog (qG prog) cSg f112 300 [.v (.fl (q1 Vt))]=some ([wv Vt+wv Vt<115792089237316195423570985008687907853269984665640564039457584007913129639936,wv (wv Vt+wv Vt)+wv Vt<115792089237316195423570985008687907853269984665640564039457584007913129639936],.one (.fl (dA OV))):=by kernel_rfl
theorem aUw:aCW Vt OV:=fun args w ha=>aB aE (fun _ _=>Ty) (aJ _) func112 aMi ⟨by decide +kernel,by decide +kernel,trivial⟩ ha
def aSG:Tab:=aZS.add 70 (g0 (.one (.fl [.f s6F])))
theorem aWo:TabOk prog aSG:=Ty.ad func70 (gT fun w=>aH aE Es aM func70 Sm trivial (args:=[]) trivial)
theorem aUD:aO prog (qG prog) (fun _=>⟨fun _=>aSG,fun _=>true,fun _=>none⟩) f113 60 []=some ([wv s6F.1+wv 2<115792089237316195423570985008687907853269984665640564039457584007913129639936],.one (.fl (q1 (wv s6F.1+wv 2)))):=by kernel_rfl
theorem bCD:wv s6F.1+wv 2=Vt:=by decide +kernel
def aSv:Tab:=aCT.add 113 (g0 (.one (.fl (q1 Vt))))
theorem aWd:TabOk prog aSv:=El.ad func113 (gT fun w=>by
 have h:=aB aE (fun _ _=>aWo) (aJ _) func113 aUD ⟨by decide +kernel,trivial⟩ (args:=[]) (w:=w) trivial;rw[bCD]at h;exact h)
def BJ:Tab:=aSv.add 112 (gSg Vt OV)
theorem aXu {N:Nat} {D:List Int} (h:aCW N D):∀cs pre r,gSg N D cs=some (pre,r)→bC pre→∀(args:List Value) (w:World),bZ w cs args→Good prog 112 r args w:=by
 intro cs pre r hg hp args w ha;unfold gSg at hg;split at hg
 ·rename_i l;split at hg
  ·rename_i n hn;cases hg;obtain⟨rfl,_⟩:=hp;refine h args w ?_
   match args,ha with
   | [v],ha =>
    refine⟨?_,trivial⟩;show v=.agg (aA (q1 n)).toArray;rw[←dG l n hn];exact ha.1
   | [],ha=>exact ha.elim
   | _::_::_,ha=>exact ha.2.elim
  ·cases hg
 ·cases hg
theorem rQ:TabOk prog BJ:=aWd.ad func112 (aXu aUw)
def qD:Code:=(f54.body).getD .skip
def xE:Nat:=f54.ntmps
def lp3:Code:=cA (cB (cB (cB qD)))
def lp4:Code:=cB (cB (cB (cB qD)))
def lpO:Code:=pC (pC (cB lp3))
def lpX:Code:=pC (cA (cB lpO))
def lpI:Code:=pC (pC (cB (cB lpX)))
def lpE:Code:=pC (pC (cB (cA lp4)))
theorem aOz:qD=.seq (cA qD) (.seq (cA (cB qD)) (.seq (cA (cB (cB qD))) (.seq (.seq (cA lp3) (.block 0 (.loop lpO))) (.seq (.seq (cA (cA lp4)) (.block 4 (.loop lpE))) (cB lp4))))):=by kernel_rfl
theorem Fu:lpO=.seq (cA lpO) (.seq (.block 1 (.seq (cA lpX) (.seq (cA (cB lpX)) (.block 2 (.loop lpI))))) (cB (cB lpO))):=by kernel_rfl
def cL (l:List (Nat×Value)):Nat→Cfg:=fun _=>⟨fun _=>BJ,fun _=>true,assoc l⟩
theorem oW (l:List (Nat×Value)) (base:Nat) (w0:World):∀n d,TabOkW prog ((cL l n).T d) base w0:=fun _ _=>rQ.w _ _
def q0:EqT:=qPt prog (FE []) (FE []) Yt
theorem iT (base:Nat) (w0:World):cV prog q0 base w0:=pY (fM _) _ _
def lA0 (b N n m:Nat) (l:List At):List Fact:=[.slot 0 (.sl 0 0 n m),.row 0 true l,.at 0 b,.at xE N,.slot 2 (.pt 2 0),.row 2 true (aP aF.zero)]
def lA1 (b N n m:Nat) (l:List At) (f:aQ):List Fact:=[.slot 0 (.sl 0 0 n m),.row 0 true l,.at 0 b,.at xE N,.slot 2 (.pt 2 0),.row 2 true (aP aF.zero),.slot 3 (.pt 3 0),.row 3 true (aP f)]
def lA2 (b N n m:Nat) (l:List At) (f:aQ):List Fact:=[.slot 0 (.sl 0 0 n m),.row 0 true l,.at 0 b,.at xE N,.slot 2 (.pt 2 0),.row 2 true (aP aF.zero),.slot 3 (.pt 3 0),.row 3 true (aP f),.slot 4 (.pt 4 0),.row 4 true (dA OV)]
def lA (b N n m:Nat) (l:List At) (f:aQ) (k:Int):List Fact:=[.slot 0 (.sl 0 0 n m),.row 0 true l,.at 0 b,.at xE N,.slot 2 (.pt 2 0),.row 2 true (aP aF.zero),.slot 3 (.pt 3 0),.row 3 true (aP f),.slot 4 (.pt 4 0),.row 4 true (dA OV),.slot 5 (.im (.int .i64 k))]
def lB (b N n m:Nat) (l:List At) (f:aQ) (k:Int) (j:Nat):List Fact:=[.slot 0 (.sl 0 0 n m),.row 0 true l,.at 0 b,.at xE N,.slot 2 (.pt 2 0),.row 2 true (aP aF.zero),.slot 3 (.pt 3 0),.row 3 true (aP f),.slot 4 (.pt 4 0),.row 4 true (dA OV),.slot 5 (.im (.int .i64 k)),.slot 18 (.im (iI n)),.slot 19 (.im (iI j))]
theorem bGs (b N n m:Nat) (l:List At):aU prog q0 xE (cL []) 40 (cA qD) (aCP xE b N (.sl 0 0 n m) l []) (lA0 b N n m l)=some ([],.nrm,lA0 b N n m l):=by kernel_rfl
theorem bGr (b N n m:Nat) (l:List At):aU prog q0 xE (cL []) 40 (cA (cB qD)) (lA0 b N n m l) (lA1 b N n m l aF.one)=some ([],.nrm,lA1 b N n m l aF.one):=by kernel_rfl
theorem bGq (b N n m:Nat) (l:List At) (f:aQ):aU prog q0 xE (cL []) 40 (cA (cB (cB qD))) (lA1 b N n m l f) (lA2 b N n m l f)=some ([Vt=Vt],.nrm,lA2 b N n m l f):=by kernel_rfl
theorem bGp (b N n m:Nat) (l:List At) (f:aQ):aU prog q0 xE (cL []) 40 (cA lp3) (lA2 b N n m l f) (lA b N n m l f 64)=some ([],.nrm,lA b N n m l f 64):=by kernel_rfl
theorem l_c (b N n m:Nat) (l:List At) (f:aQ) (k:Int):aU prog q0 xE (cL [(12,.bool true)]) 40 (cA lpO) (lA b N n m l f k) (lA b N n m l f k)=some ([aI .geq .i64 k 0=some (.bool true)],.nrm,lA b N n m l f k):=by kernel_rfl
theorem l_x (b N n m:Nat) (l:List At) (f:aQ) (k:Int):aU prog q0 xE (cL [(12,.bool false)]) 40 (cA lpO) (lA b N n m l f k) (lA2 b N n m l f)=some ([aI .geq .i64 k 0=some (.bool false)],.ex 0,lA2 b N n m l f):=by kernel_rfl
theorem bGo (b N n m:Nat) (l:List At) (f:aQ) (k:Int):aU prog q0 xE (cL []) 40 (cA lpX) (lA b N n m l f k) (lA b N n m l (aF.mul f f) k)=some ([],.nrm,lA b N n m l (aF.mul f f) k):=by kernel_rfl
theorem bGt (b N n m:Nat) (l:List At) (f:aQ) (k:Int):aU prog q0 xE (cL []) 40 (cA (cB lpX)) (lA b N n m l f k) (lB b N n m l f k 0)=some ([],.nrm,lB b N n m l f k 0):=by kernel_rfl
theorem bGu (b N n m:Nat) (l:List At) (f:aQ) (k k':Int):aU prog q0 xE (cL [(14,.int .i64 k')]) 40 (cB (cB lpO)) (lA b N n m l f k) (lA b N n m l f k')=some ([aI .sub .i64 k 1=some (.int .i64 k')],.nrm,lA b N n m l f k'):=by kernel_rfl
theorem bGw (b N n m:Nat) (l:List At) (f:aQ) (k:Int) (j:Nat):aU prog q0 xE (cL [(20,.bool false)]) 40 lpI (lB b N n m l f k j) (lA b N n m l f k)=some ([aI .lss .i64 (Int.ofNat j) (Int.ofNat n)=some (.bool false)],.ex 2,lA b N n m l f k):=by kernel_rfl
def T5i (l l1:List At) (j:Nat) (f g:aQ) (d:Int):Tab5:=Yt.add 115 (pe2 l (50*j) (qO f) (.int .i64 d) (.one (.fl (qO g))) l1)
def qI (l l1:List At) (j kk:Nat) (f g:aQ) (d:Int):EqT:=qPx prog (FE []) (FE []) (assoc [(24,j),(28,kk)]) (assoc [(29,.int .i64 d)]) (T5i l l1 j f g d)
section
variable {R A Q S:Type} (K:CR R) (lfG:A→Q→Int→S→R) (npG:Q→Int→S→S) (ewG:A→Q→S→R)
theorem LJ (d:Int):∀(a b:List (A×Q×S)) (f:R),kT K lfG d f (a++b)=kT K lfG d (kT K lfG d f a) b
 | [],b,f=>rfl
 | W::a,b,f=>LJ d a b _
theorem RH:∀(a b:List (A×Q×S)) (f:R),nK K ewG f (a++b)=nK K ewG (nK K ewG f a) b
 | [],b,f=>rfl
 | W::a,b,f=>RH a b _
theorem Cn:∀(a b:List Int) (s:R×List (A×Q×S)),nO K lfG npG (a++b) s=nO K lfG npG b (nO K lfG npG a s)
 | [],b,s=>rfl
 | d::a,b,s=>Cn a b _
theorem oX {α:Type} {l:List α} {j:Nat} {x:α} (h:l[j]?=some x):∃a b,l=a++x::b∧a.length=j∧l.take j=a∧l.drop j=x::b∧l.take (j+1)=a++[x]∧l.drop (j+1)=b:=by
 obtain⟨hlt,he⟩:=List.getElem?_eq_some_iff.1 h;refine⟨l.take j,l.drop (j+1),by rw[←he,List.getElem_cons_drop hlt,List.take_append_drop],by rw[List.length_take]; omega,rfl,by rw[←he,List.getElem_cons_drop hlt],by rw[List.take_add_one,h]; rfl,rfl⟩
theorem Og {d:Int} {f:R} {Ws:List (A×Q×S)} {j:Nat} {W:A×Q×S} (h:Ws[j]?=some W):kT K lfG d f (Ws.take (j+1))=K.mul (kT K lfG d f (Ws.take j)) (lfG W.1 W.2.1 d W.2.2):=by
 obtain⟨a,b,_,_,h1,_,h2,_⟩:=oX h;rw[h1,h2,LJ];rfl
theorem aCA {f:R} {Ws:List (A×Q×S)} {j:Nat} {W:A×Q×S} (h:Ws[j]?=some W):nK K ewG f (Ws.take (j+1))=K.mul (nK K ewG f (Ws.take j)) (ewG W.1 W.2.1 W.2.2):=by
 obtain⟨a,b,_,_,h1,_,h2,_⟩:=oX h;rw[h1,h2,RH];rfl
theorem aFi (p:Q→Prop):∀(ds:List Int) (s:R×List (A×Q×S)),(∀W∈s.2,p W.2.1)→∀W∈(nO K lfG npG ds s).2,p W.2.1
 | [],s,h=>h
 | d::ds,s,h=>aFi p ds _ fun W hW=>by
  obtain⟨V,hV,rfl⟩:=List.mem_map.1 hW;exact h V hV
theorem JR:∀(ds:List Int) (s:R×List (A×Q×S)),(nO K lfG npG ds s).2.length=s.2.length
 | [],s=>rfl
 | d::ds,s=>by
  show (nO K lfG npG ds _).2.length=_;rw[JR ds];exact List.length_map _
end
def LI {α:Type} (g:α→α) (l:List α) (j:Nat):List α:=(l.take j).map g++l.drop j
theorem Vl {α:Type} (g:α→α) {l:List α} {j:Nat} {x:α} (h:l[j]?=some x):(LI g l j)[j]?=some x:=by
 obtain⟨a,b,_,h0,h1,h2,_⟩:=oX h;unfold LI;rw[h1,h2,List.getElem?_append_right (by rw[List.length_map,h0]; exact Nat.le_refl _),List.length_map,h0,Nat.sub_self];rfl
theorem Vk {α:Type} (g:α→α) {l:List α} {j:Nat} {x:α} (h:l[j]?=some x):(LI g l j).set j (g x)=LI g l (j+1):=by
 obtain⟨a,b,_,h0,h1,h2,h3,h4⟩:=oX h;unfold LI;rw[h1,h2,h3,h4,←h0];simp
theorem aRD {α:Type} (g:α→α) (l:List α):LI g l 0=l:=by simp[LI]
theorem Vm {α:Type} (g:α→α) (l:List α):LI g l l.length=l.map g:=by simp[LI]
theorem bGv (b N n m j kk:Nat) (l l1:List At) (f g:aQ) (k d:Int):aU prog (qI l l1 j kk f g d) xE (cL [(20,.bool true),(32,iI (j+1))]) 40 lpI (lB b N n m l f k j) (lB b N n m l1 g k (j+1)) =
  some ([aI .lss .i64 (Int.ofNat j) (Int.ofNat n)=some (.bool true),Int.ofNat j=Int.ofNat j,j<n,k=Int.ofNat kk,kk<66,cellAt (dA OV) (0+kk*1)=some (.int .i64 d),l=l,0+j*50=50*j,aA (qO f)=aA (qO f),Value.int .i64 d=.int .i64 d,aI .add .i64 (Int.ofNat j) 1=some (iI (j+1))],.nrm,lB b N n m l1 g k (j+1)):=by kernel_rfl
def lE (b N n m:Nat) (l:List At) (f:aQ) (j:Nat):List Fact:=[.slot 0 (.sl 0 0 n m),.row 0 true l,.at 0 b,.at xE N,.slot 2 (.pt 2 0),.row 2 true (aP aF.zero),.slot 3 (.pt 3 0),.row 3 true (aP f),.slot 4 (.pt 4 0),.row 4 true (dA OV),.slot 34 (.im (iI n)),.slot 35 (.im (iI j))]
def lF (b N:Nat) (l:List At) (f:aQ):List Fact:=[.slot 2 (.pt 2 0),.row 2 true (aP f),.row 0 true l,.at 0 b,.at xE N]
theorem bCH (b N n m:Nat) (l:List At) (f:aQ):aU prog q0 xE (cL []) 40 (cA (cA lp4)) (lA2 b N n m l f) (lE b N n m l f 0)=some ([],.nrm,lE b N n m l f 0):=by kernel_rfl
theorem bGy (b N n m:Nat) (l:List At) (f:aQ) (j:Nat):aU prog q0 xE (cL [(36,.bool false)]) 40 lpE (lE b N n m l f j) (lA2 b N n m l f)=some ([aI .lss .i64 (Int.ofNat j) (Int.ofNat n)=some (.bool false)],.ex 4,lA2 b N n m l f):=by kernel_rfl
def T5f (l l1:List At) (j:Nat) (f g:aQ):Tab5:=Yt.add 118 (pe1 l (50*j) (qO f) (.one (.fl (qO g))) l1)
def qE (l l1:List At) (j:Nat) (f g:aQ):EqT:=qPx prog (FE []) (FE []) (assoc [(40,j)]) (assoc []) (T5f l l1 j f g)
theorem bGx (b N n m j:Nat) (l l1:List At) (f g:aQ):aU prog (qE l l1 j f g) xE (cL [(36,.bool true),(45,iI (j+1))]) 40 lpE (lE b N n m l f j) (lE b N n m l1 g (j+1)) =
  some ([aI .lss .i64 (Int.ofNat j) (Int.ofNat n)=some (.bool true),Int.ofNat j=Int.ofNat j,j<n,l=l,0+j*50=50*j,aA (qO f)=aA (qO f),aI .add .i64 (Int.ofNat j) 1=some (iI (j+1))],.nrm,lE b N n m l1 g (j+1)):=by kernel_rfl
theorem bCI (b N n m:Nat) (l:List At) (f:aQ):aU prog q0 xE (cL []) 40 (cB lp4) (lA2 b N n m l f) (lF b N l f)=some ([],.rt,lF b N l f):=by kernel_rfl
theorem aZW {Ws:List Wk} {j:Nat} {W:Wk} (h:Ws[j]?=some W) (f:aQ) (d:Int) (hd:d=0∨d=1∨d = -1):PtOk prog (T5i (rows Ws) (rows (Ws.set j (stG np d W))) j f (aF.mul f (lf W.1 W.2.1 d W.2.2)) d) :=
 (fM _).ad func115 (aVc (Jb h f d hd))
theorem aZX {Ws:List Wk} {j:Nat} {a:Fq×Fq} {q:Q2×Q2} {p:J2} (h:Ws[j]?=some (a,q,p)) (f:aQ) (hq:On F2 dO (some q)):PtOk prog (T5f (rows Ws) (rows (Ws.set j (enW (a,q,p)))) j f (aF.mul f (ew a q p))) :=
 (fM _).ad func118 (Nh (aCB h f hq))
section
variable {N n m b:Nat} {w0:World} {Q:Exit→Act→World→Prop}
theorem aId {Ws:List Wk} (hn:Ws.length=n) (hlt:n<4611686018427387904) {f:aQ} {k d:Int} {kk:Nat} (hk:k=Int.ofNat kk) (hkk:kk<66) (hc:cellAt (dA OV) (0+kk*1)=some (.int .i64 d)) (hd:d=0∨d=1∨d = -1) {a:Act} {w:World}
  (h:Holds xE b w0 (lB b N n m (rows Ws) f k 0) a w) (hQ:∀a w,Holds xE b w0 (lA b N n m (rows (Ws.map (stG np d))) (kT aF lf d f Ws) k) a w→Q .normal a w):(Code.block 2 (.loop lpI)).wp prog Q a w:=by
 refine wp_block ?_;refine rW (fun j a w=>Holds xE b w0 (lB b N n m (rows (LI (stG np d) Ws j)) (kT aF lf d f (Ws.take j)) k j) a w) n (fun j hj a w hA R hR => ?_) (fun a w hA R => ?_) (by rw[aRD,List.take_zero]; exact h)
 ·obtain⟨W,hW⟩:∃W,Ws[j]?=some W:=⟨_,List.getElem?_eq_getElem (by omega)⟩
  have ht:=aZW (Vl (stG np d) hW) (kT aF lf d f (Ws.take j)) d hd;rw[Vk (stG np d) hW]at ht;rw[←Og aF lf hW]at ht;refine aD aE (oW _ _ _) (kO ht _ _) (bGv b N n m j kk _ _ _ _ k d) ⟨cJ hj,rfl,hj,hk,hkk,hc,rfl,by omega,rfl,rfl,mO (k:=1) (by omega),trivial⟩ hA fun a w hA=>hR a w hA
 ·refine aD aE (oW _ _ _) (iT _ _) (bGw b N n m _ _ k n) ⟨fP (Nat.le_refl _),trivial⟩ hA fun a w hA => ?_
  subst hn;rw[Vm,List.take_length]at hA;exact hQ a w hA
theorem aPu {Ws:List Wk} (hn:Ws.length=n) (hlt:n<4611686018427387904) (hq:∀W∈Ws,On F2 dO (some W.2.1)) {f:aQ} {a:Act} {w:World}
  (h:Holds xE b w0 (lE b N n m (rows Ws) f 0) a w) (hQ:∀a w,Holds xE b w0 (lA2 b N n m (rows (Ws.map enW)) (nK aF ew f Ws)) a w→Q .normal a w):(Code.block 4 (.loop lpE)).wp prog Q a w:=by
 refine wp_block ?_;refine rW (fun j a w=>Holds xE b w0 (lE b N n m (rows (LI enW Ws j)) (nK aF ew f (Ws.take j)) j) a w) n (fun j hj a w hA R hR => ?_) (fun a w hA R => ?_) (by rw[aRD,List.take_zero]; exact h)
 ·obtain⟨W,hW⟩:∃W,Ws[j]?=some W:=⟨_,List.getElem?_eq_getElem (by omega)⟩
  obtain⟨pa,pq,pp⟩:=W;have ht:=aZX (Vl enW hW) (nK aF ew f (Ws.take j)) (hq _ (List.mem_of_getElem? hW));rw[Vk enW hW]at ht;have e:=aCA aF ew (f:=f) hW;dsimp only at e;rw[←e]at ht;refine aD aE (oW _ _ _) (kO ht _ _) (bGx b N n m j _ _ _ _) ⟨cJ hj,rfl,hj,rfl,by omega,rfl,mO (k:=1) (by omega),trivial⟩ hA fun a w hA=>hR a w hA
 ·refine aD aE (oW _ _ _) (iT _ _) (bGy b N n m _ _ n) ⟨fP (Nat.le_refl _),trivial⟩ hA fun a w hA => ?_
  subst hn;rw[Vm,List.take_length]at hA;exact hQ a w hA
theorem bDK:(List.range 65).all (fun i=>decide (wR.take (i+1)=wR.take i++[dI OV (64-i)])&&decide (dI OV (64-i)=0∨dI OV (64-i)=1∨dI OV (64-i) = -1))=true:=by kernel_rfl
theorem aYt {i:Nat} (h:i<65):wR.take (i+1)=wR.take i++[dI OV (64-i)]∧(dI OV (64-i)=0∨dI OV (64-i)=1∨dI OV (64-i) = -1):=by
 have:=List.all_eq_true.1 bDK i (List.mem_range.2 h);rw[Bool.and_eq_true,decide_eq_true_eq,decide_eq_true_eq]at this;exact this
theorem aYr:wR.take 65=wR:=by kernel_rfl
theorem aRt (k:Int):aI .geq .i64 k 0=some (.bool (decide (k≥0))):=rfl
theorem aGp {Ws:List Wk} (hn:Ws.length=n) (hlt:n<4611686018427387904) {f:aQ} {a:Act} {w:World}
  (h:Holds xE b w0 (lA b N n m (rows Ws) f 64) a w) (hQ:∀a w,Holds xE b w0 (lA2 b N n m (rows (nO aF lf np wR (f,Ws)).2) (nO aF lf np wR (f,Ws)).1) a w→Q .normal a w):(Code.block 0 (.loop lpO)).wp prog Q a w:=by
 refine wp_block ?_;refine rW (fun i a w=>Holds xE b w0 (lA b N n m (rows (nO aF lf np (wR.take i) (f,Ws)).2) (nO aF lf np (wR.take i) (f,Ws)).1 (64-(i:Int))) a w) 65 (fun i hi a w hA R hR => ?_) (fun a w hA R => ?_) (by rw[List.take_zero,show (64:Int)-((0:Nat):Int)=64 from rfl]; exact h)
 ·obtain⟨h1,h2⟩:=aYt hi;have hl:=JR aF lf np (wR.take i) (f,Ws);rw[show nO aF lf np (wR.take (i+1)) (f,Ws)=_ from (congrArg (fun x=>nO aF lf np x (f,Ws)) h1).trans (Cn aF lf np _ _ _)]at hR;generalize nO aF lf np (wR.take i) (f,Ws)=s at hA hR hl;have hR:∀a w,Holds xE b w0 (lA b N n m (rows (s.2.map (stG np (dI OV (64-i))))) (kT aF lf (dI OV (64-i)) (aF.mul s.1 s.1) s.2) (64-((i+1:Nat):Int))) a w→R a w:=hR
  rw[Fu];refine wp_seq (aD aE (oW _ _ _) (iT _ _) (l_c b N n m _ _ _) ⟨by rw[aRt,decide_eq_true (by omega)],trivial⟩ hA fun a w hA => ?_);refine wp_seq (wp_block (wp_seq (aD aE (oW _ _ _) (iT _ _) (bGo b N n m _ _ _) trivial hA fun a w hA => ?_)));refine wp_seq (aD aE (oW _ _ _) (iT _ _) (bGt b N n m _ _ _) trivial hA fun a w hA => ?_);refine aId (kk:=64-i) (d:=dI OV (64-i)) (hl.trans hn) hlt (by show (64:Int)-(i:Int)=((64-i:Nat):Int); omega) (by omega) (by rw[Nat.zero_add,Nat.mul_one]; exact WK OV _ (by show _<66; omega)) h2 hA fun a w hA => ?_
  refine aD aE (oW _ _ _) (iT _ _) (bGu b N n m _ _ _ (64-((i+1:Nat):Int))) ⟨?_,trivial⟩ hA fun a w hA=>hR a w hA
  show some (Value.int .i64 (IntKind.i64.wrap ((64:Int)-(i:Int)-1)))=_;rw[show (64:Int)-(i:Int)-1=64-((i+1:Nat):Int) by omega,DJ _ (by omega) (by omega)]
 ·rw[Fu];refine wp_seq (aD aE (oW _ _ _) (iT _ _) (l_x b N n m _ _ _) ⟨by rw[aRt,decide_eq_false (by omega)],trivial⟩ hA fun a w hA => ?_);rw[aYr]at hA;exact hQ a w hA
end
theorem aCm (l:List ((Fq×Fq)×(Q2×Q2))) (hlt:l.length<4611686018427387904) (hq:∀x∈l,On F2 dO (some x.2)) {b m:Nat} {w:World} (hO:Own w b (rows (l.map bW))) :
  ∃L,Calls prog 54 #[lQ b 0 l.length m] w (Wr b w (.one (.fl (aP (AR l)))) L):=by
 have hw:(l.map bW).length=l.length:=List.length_map _;have hqw:∀W∈l.map bW,On F2 dO (some W.2.1):=fun W hW=>by
  obtain⟨x,hx,rfl⟩:=List.mem_map.1 hW;exact hq x hx
 have hL:AR l=nK aF ew (nO aF lf np wR (aF.one,l.map bW)).1 (nO aF lf np wR (aF.one,l.map bW)).2:=by with_unfolding_all rfl
 have hqr:=aFi aF lf np (fun q=>On F2 dO (some q)) wR (aF.one,l.map bW) hqw;have hlr:=(JR aF lf np wR (aF.one,l.map bW)).trans hw;rw[hL];clear hL;refine⟨rows ((nO aF lf np wR (aF.one,l.map bW)).2.map enW),?_⟩;refine QV (x:=.sl 0 0 l.length m) (v:=lQ b 0 l.length m) (ts:=[]) func54 (c:=qD) rfl (fun β h=>by simp[AV.den,lQ,h]) hO (Nat.le_of_ble_eq_true (by kernel_rfl)) fun a w1 hA => ?_
 rw[aOz];refine wp_seq (aD aE (oW _ _ _) (iT _ _) (bGs b w.heap.size l.length m _) trivial hA fun a w2 hA => ?_);refine wp_seq (aD aE (oW _ _ _) (iT _ _) (bGr b w.heap.size l.length m _) trivial hA fun a w3 hA => ?_);refine wp_seq (aD aE (oW _ _ _) (iT _ _) (bGq b w.heap.size l.length m _ _) ⟨rfl,trivial⟩ hA fun a w4 hA => ?_);refine wp_seq (wp_seq (aD aE (oW _ _ _) (iT _ _) (bGp b w.heap.size l.length m _ _) trivial hA fun a w5 hA => ?_));refine aGp hw hlt hA fun a w6 hA => ?_
 generalize nO aF lf np wR (aF.one,l.map bW)=s at hA hqr hlr ⊢;refine wp_seq (wp_seq (aD aE (oW _ _ _) (iT _ _) (bCH b w.heap.size l.length m _ _) trivial hA fun a w7 hA => ?_));refine aPu hlr hlt hqr hA fun a w8 hA => ?_
 refine aD aE (oW _ _ _) (iT _ _) (bCI b w.heap.size l.length m _ _) trivial hA fun a w9 hA => ?_
 exact rY (l:=[.fl (aP (nK aF ew s.1 s.2))]) (r:=.one (.fl (aP (nK aF ew s.1 s.2)))) (by kernel_rfl) (by kernel_rfl) hA ⟨rfl,hA.wrc (by simp[lF]) (by simp[lF]) (by simp[lF])⟩
end Go.Proofs.YtglgakbkdjhojaaGreat.Ex
