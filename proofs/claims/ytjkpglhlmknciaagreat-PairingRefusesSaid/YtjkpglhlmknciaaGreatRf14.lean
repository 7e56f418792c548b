/- Rf14 -/
import Derived.Test.YtjkpglhlmknciaaGreatRf13
import Derived.Test.YtjkpglhlmknciaaGreatRf05
import Derived.Test.YtjkpglhlmknciaaGreatRf07
import Derived.Test.YtjkpglhlmknciaaGreatRf08
import Derived.Test.YtjkpglhlmknciaaGreatRf02
import Derived.Test.YtjkpglhlmknciaaGreatRf09
import Derived.Test.YtjkpglhlmknciaaGreatProg
set_option maxRecDepth 100000
set_option linter.unusedVariables false
set_option linter.unusedSimpArgs false
set_option linter.unnecessarySimpa false
noncomputable section
namespace Go.Proofs.YtjkpglhlmknciaaGreat.Ex
open Go.Proofs.Tryz
open Go.RowKit
def e4 (x:Q4):List At:=[.f x.1.1,.f x.1.2,.f x.2.1,.f x.2.2]
def Wd:List At→Option Q4|[.f a,.f b,.f c,.f d]=>some ((a,b),(c,d))|_=>none
theorem nF:Rd Wd e4:=fun l x h=>by unfold Wd at h; split at h<;>cases h; rfl
def g3 {α γ δ:Type} (rd:List At→Option α) (rd':List At→Option γ) (rd'':List At→Option δ) (op:α→γ→δ→List Prop×RV):kI
 | [.v (.fl l),.v (.fl m),.v (.fl n)]=>match rd l,rd' m,rd'' n with|some x,some y,some z=>some (op x y z)|_,_,_=>none
 | _=>none
theorem aWi {P:Program} {f:FuncId} {α γ δ:Type} {rd:List At→Option α} {en:α→List At} {rd':List At→Option γ} {en':γ→List At} {rd'':List At→Option δ} {en'':δ→List At} (hr:Rd rd en) (hr':Rd rd' en') (hr'':Rd rd'' en'') {op:α→γ→δ→List Prop×RV}
  (h:∀x y z,aZ (op x y z).1→∀args w,bU w [.v (.fl (en x)),.v (.fl (en' y)),.v (.fl (en'' z))] args→Good P f (op x y z).2 args w) :
  ∀cs pre r,g3 rd rd' rd'' op cs=some (pre,r)→aZ pre→∀(args:List Value) (w:World),bU w cs args→Good P f r args w:=by
 intro cs pre r hg hp args w ha;unfold g3 at hg;split at hg
 ·rename_i l m n;split at hg
  ·rename_i x y z hx hy hz;have e:op x y z=(pre,r):=by simpa using hg
   have:=h x y z (by rw[e]; exact hp) args w (by
    match args,ha with
    | [v,u,s],ha =>
     refine⟨?_,?_,?_,trivial⟩
     ·show v=.agg (aA (en x)).toArray;rw[←hr l x hx];exact ha.1
     ·show u=.agg (aA (en' y)).toArray;rw[←hr' m y hy];exact ha.2.1
     ·show s=.agg (aA (en'' z)).toArray;rw[←hr'' n z hz];exact ha.2.2.1
    | [],ha=>exact ha.elim
    | [_],ha=>exact ha.2.elim
    | [_,_],ha=>exact ha.2.2.elim
    | _::_::_::_::_,ha=>exact ha.2.2.2.elim)
   rw[e]at this;exact this
  ·cases hg
 ·cases hg
theorem Jx {a b:Q4} (h:aA (e4 a)=aA (e4 b)):a=b:=by
 have:=yT [a.1.1,a.1.2,a.2.1,a.2.2] [b.1.1,b.1.2,b.2.1,b.2.2] h;simp only[List.cons.injEq,and_true]at this;exact Prod.ext (Prod.ext this.1 this.2.1) (Prod.ext this.2.2.1 this.2.2.2)
theorem Rc {a b:aV} (h:aA (aQ a)=aA (aQ b)):a=b:=by
 have:=yT [a.1.1.1,a.1.1.2,a.1.2.1.1,a.1.2.1.2,a.1.2.2.1,a.1.2.2.2,a.2.1.1,a.2.1.2,a.2.2.1.1,a.2.2.1.2,a.2.2.2.1,a.2.2.2.2] [b.1.1.1,b.1.1.2,b.1.2.1.1,b.1.2.1.2,b.1.2.2.1,b.1.2.2.2,b.2.1.1,b.2.1.2,b.2.2.1.1,b.2.2.1.2,b.2.2.2.1,b.2.2.2.2] h;simp only[List.cons.injEq,and_true]at this;obtain⟨h0,h1,h2,h3,h4,h5,h6,h7,h8,h9,h10,h11⟩:=this;exact Prod.ext (Prod.ext (Prod.ext h0 h1) (Prod.ext (Prod.ext h2 h3) (Prod.ext h4 h5))) (Prod.ext (Prod.ext h6 h7) (Prod.ext (Prod.ext h8 h9) (Prod.ext h10 h11)))
theorem Uw (c:Bool) (x:aV):bP prog (tR c) qN (fun _=>true) f160 60 [.v (.fl (aQ x))]=some ([],.many [.fl (e4 (fX x)),.fl (e4 (fY x)),.fl (e4 (fZ x))]):=by kernel_rfl
def UH (c:Bool):Tab:=(tR c).add 160 (g1 qO fun x=>([],.many [.fl (e4 (fX x)),.fl (e4 (fY x)),.fl (e4 (fZ x))]))
theorem Ap (c:Bool):TabOk prog (UH c):=(yF c).ad func160 (bJ eW fun x hp args w ha=>aI aG (yF c) aO func160 (Uw c x) hp ha)
theorem XZ (c:Bool) (x:Q4) (y:Q4):bP prog (UH c) qN (fun _=>true) f161 60 [.v (.fl (e4 x)),.v (.fl (e4 y))]=some ([],.one (.fl (e4 ((F2.add (F2.mul x.1 y.1) (F2.mul x.2 (F2.mul y.2 dM)),F2.add (F2.mul x.1 y.2) (F2.mul x.2 y.1)))))):=by kernel_rfl
theorem YW (x:Q4) (y:Q4):F4.mul x y=(F2.add (F2.mul x.1 y.1) (F2.mul x.2 (F2.mul y.2 dM)),F2.add (F2.mul x.1 y.2) (F2.mul x.2 y.1)):=by
 refine Prod.ext ?_ rfl;exact aE F2 (aW F2 [x.1,x.2,y.1,y.2,dM]) (Z0*Z2+Z4*(Z1*Z3)) (Z0*Z2+Z1*(Z3*Z4)) (by decide)
def BW (c:Bool):Tab:=(UH c).add 161 (g2 Wd Wd fun x y=>([],.one (.fl (e4 (F4.mul x y)))))
theorem ID (c:Bool):TabOk prog (BW c):=(Ap c).ad func161 (fS nF nF fun x y hp args w ha=>by show Good _ _ (.one (.fl (e4 (F4.mul x y)))) _ _; rw[YW]; exact aI aG (Ap c) aO func161 (XZ c x y) hp ha)
theorem aHZ (c:Bool) (x:Q4):bP prog (BW c) qN (fun _=>true) f162 60 [.v (.fl (e4 x))]=some ([],.one (.fl (e4 (s4 x)))):=by kernel_rfl
def aGp (c:Bool):Tab:=(BW c).add 162 (g1 Wd fun x=>([],.one (.fl (e4 (s4 x)))))
theorem aCC (c:Bool):TabOk prog (aGp c):=(ID c).ad func162 (bJ nF fun x hp args w ha=>aI aG (ID c) aO func162 (aHZ c x) hp ha)
theorem YA (c:Bool) (x:Q4) (y:Q4):bP prog (aGp c) qN (fun _=>true) f163 60 [.v (.fl (e4 x)),.v (.fl (e4 y))]=some ([],.one (.fl (e4 (F4.sub x y)))):=by kernel_rfl
def BX (c:Bool):Tab:=(aGp c).add 163 (g2 Wd Wd fun x y=>([],.one (.fl (e4 (F4.sub x y)))))
theorem IE (c:Bool):TabOk prog (BX c):=(aCC c).ad func163 (fS nF nF fun x y hp args w ha=>aI aG (aCC c) aO func163 (YA c x y) hp ha)
theorem Gy (c:Bool) (x:Q4):bP prog (BX c) qN (fun _=>true) f164 60 [.v (.fl (e4 x))]=some ([],.one (.fl (e4 (OL x)))):=by kernel_rfl
def KM (c:Bool):Tab:=(BX c).add 164 (g1 Wd fun x=>([],.one (.fl (e4 (OL x)))))
theorem NG (c:Bool):TabOk prog (KM c):=(IE c).ad func164 (bJ nF fun x hp args w ha=>aI aG (IE c) aO func164 (Gy c x) hp ha)
theorem QD (c:Bool) (x:Q4) (y:Q4):bP prog (KM c) qN (fun _=>true) f166 60 [.v (.fl (e4 x)),.v (.fl (e4 y))]=some ([],.one (.fl (e4 (Zy x y)))):=by kernel_rfl
def xB (c:Bool):Tab:=(KM c).add 166 (g2 Wd Wd fun x y=>([],.one (.fl (e4 (Zy x y)))))
theorem CI (c:Bool):TabOk prog (xB c):=(NG c).ad func166 (fS nF nF fun x y hp args w ha=>aI aG (NG c) aO func166 (QD c x y) hp ha)
theorem XQ (c:Bool) (x y z:Q4):bP prog (xB c) qN (fun _=>true) f165 60 [.v (.fl (e4 x)),.v (.fl (e4 y)),.v (.fl (e4 z))]=some ([],.one (.fl (aQ (aDM x y z)))):=by kernel_rfl
def kT (c:Bool):Tab:=(xB c).add 165 (g3 Wd Wd Wd fun x y z=>([],.one (.fl (aQ (aDM x y z)))))
theorem kR (c:Bool):TabOk prog (kT c):=(CI c).ad func165 (aWi nF nF nF fun x y z hp args w ha=>aI aG (CI c) aO func165 (XQ c x y z) hp ha)
theorem YB (c:Bool) (x:aV):bP prog (kT c) (qG prog) (fun s=>bif Nat.beq s 35 then true else bif Nat.beq s 44 then true else bif Nat.beq s 54 then true else bif Nat.beq s 61 then false else true) f137 60 [.v (.fl (aQ x))]=some ([aA (e4 (F4.sub (F4.mul (fX x) (fX x)) (s4 (F4.mul (fY x) (fZ x)))))=aA (e4 (OL (fX x))),aA (e4 (F4.sub (F4.mul (fX x) (fY x)) (s4 (F4.mul (fZ x) (fZ x)))))=aA (e4 (OL (fY x))),aA (e4 (F4.sub (F4.mul (fY x) (fY x)) (F4.mul (fX x) (fZ x))))=aA (e4 (OL (fZ x))),aA (aQ x)≠aA (aQ aD.zero)],.many [.fl (aQ (aTH x)),.im (.bool true)]):=by kernel_rfl
theorem YF (c:Bool) (x:aV):bP prog (kT c) (qG prog) (fun s=>bif Nat.beq s 35 then false else bif Nat.beq s 44 then true else bif Nat.beq s 54 then true else bif Nat.beq s 61 then false else true) f137 60 [.v (.fl (aQ x))]=some ([aA (e4 (F4.sub (F4.mul (fX x) (fX x)) (s4 (F4.mul (fY x) (fZ x)))))≠aA (e4 (OL (fX x)))],.many [.fl (aQ aD.zero),.im (.bool false)]):=by kernel_rfl
theorem YE (c:Bool) (x:aV):bP prog (kT c) (qG prog) (fun s=>bif Nat.beq s 35 then true else bif Nat.beq s 44 then false else bif Nat.beq s 54 then true else bif Nat.beq s 61 then false else true) f137 60 [.v (.fl (aQ x))]=some ([aA (e4 (F4.sub (F4.mul (fX x) (fX x)) (s4 (F4.mul (fY x) (fZ x)))))=aA (e4 (OL (fX x))),aA (e4 (F4.sub (F4.mul (fX x) (fY x)) (s4 (F4.mul (fZ x) (fZ x)))))≠aA (e4 (OL (fY x)))],.many [.fl (aQ aD.zero),.im (.bool false)]):=by kernel_rfl
theorem YD (c:Bool) (x:aV):bP prog (kT c) (qG prog) (fun s=>bif Nat.beq s 35 then true else bif Nat.beq s 44 then true else bif Nat.beq s 54 then false else bif Nat.beq s 61 then false else true) f137 60 [.v (.fl (aQ x))]=some ([aA (e4 (F4.sub (F4.mul (fX x) (fX x)) (s4 (F4.mul (fY x) (fZ x)))))=aA (e4 (OL (fX x))),aA (e4 (F4.sub (F4.mul (fX x) (fY x)) (s4 (F4.mul (fZ x) (fZ x)))))=aA (e4 (OL (fY x))),aA (e4 (F4.sub (F4.mul (fY x) (fY x)) (F4.mul (fX x) (fZ x))))≠aA (e4 (OL (fZ x)))],.many [.fl (aQ aD.zero),.im (.bool false)]):=by kernel_rfl
theorem YC (c:Bool) (x:aV):bP prog (kT c) (qG prog) (fun s=>bif Nat.beq s 35 then true else bif Nat.beq s 44 then true else bif Nat.beq s 54 then true else bif Nat.beq s 61 then true else true) f137 60 [.v (.fl (aQ x))]=some ([aA (e4 (F4.sub (F4.mul (fX x) (fX x)) (s4 (F4.mul (fY x) (fZ x)))))=aA (e4 (OL (fX x))),aA (e4 (F4.sub (F4.mul (fX x) (fY x)) (s4 (F4.mul (fZ x) (fZ x)))))=aA (e4 (OL (fY x))),aA (e4 (F4.sub (F4.mul (fY x) (fY x)) (F4.mul (fX x) (fZ x))))=aA (e4 (OL (fZ x))),aA (aQ x)=aA (aQ aD.zero)],.many [.fl (aQ aD.zero),.im (.bool false)]):=by kernel_rfl
def aPL (c:Bool) (x:aV):List Prop×RV:=bif c then ([tD x],.many [.fl (aQ (aD.mul x x)),.im (.bool true)])else ([¬tD x],.many [.fl (aQ aD.zero),.im (.bool false)])
theorem aJE (c:Bool) (x:aV) (hp:aZ (aPL c x).1) (args:List Value) (w:World) (ha:bU w [.v (.fl (aQ x))] args):Good prog 137 (aPL c x).2 args w:=by
 cases c
 ·have hn:¬tD x:=hp.1;unfold tD at hn;rw[Rh]at hn
  by_cases h1:aDY x
  ·by_cases h2:aDX x
   ·by_cases h3:aDW x
    ·have hz:x=aD.zero:=Classical.byContradiction fun e=>hn ⟨e,h1,h2,h3⟩
     exact aI aG (kR false) (aJ _) func137 (YC false x) ⟨congrArg (fun t=>aA (e4 t)) h1,congrArg (fun t=>aA (e4 t)) h2,congrArg (fun t=>aA (e4 t)) h3,congrArg (fun t=>aA (aQ t)) hz,trivial⟩ ha
    ·exact aI aG (kR false) (aJ _) func137 (YD false x) ⟨congrArg (fun t=>aA (e4 t)) h1,congrArg (fun t=>aA (e4 t)) h2,fun e=>h3 (Jx e),trivial⟩ ha
   ·exact aI aG (kR false) (aJ _) func137 (YE false x) ⟨congrArg (fun t=>aA (e4 t)) h1,fun e=>h2 (Jx e),trivial⟩ ha
  ·exact aI aG (kR false) (aJ _) func137 (YF false x) ⟨fun e=>h1 (Jx e),trivial⟩ ha
 ·have hn:tD x:=hp.1;unfold tD at hn;rw[Rh]at hn;obtain⟨hz,h1,h2,h3⟩:=hn;show Good _ _ (.many [.fl (aQ (aD.mul x x)),.im (.bool true)]) _ _;rw[←aOe x ⟨h1,h2,h3⟩];exact aI aG (kR true) (aJ _) func137 (YB true x) ⟨congrArg (fun t=>aA (e4 t)) h1,congrArg (fun t=>aA (e4 t)) h2,congrArg (fun t=>aA (e4 t)) h3,fun e=>hz (Rc e),trivial⟩ ha
def EW (c:Bool):Tab:=(kT c).add 137 (g1 qO (aPL c))
theorem IF (c:Bool):TabOk prog (EW c):=(kR c).ad func137 (bJ eW (aJE c))
def aPM (c:Bool) (x:aV):List Prop×RV:=bif c then ([tD x],.many [.fl (aQ (aD.mul x x)),.im (.int .i64 0)])else ([¬tD x],.many [.fl (aQ aD.zero),.im (.int .i64 42)])
theorem zY (x:vJ):bP prog (EW true) qN (fun _=>true) f101 40 [.v (.fl (vZ x))]=some ([tD (hJ x)],.many [.fl (aQ (aD.mul (hJ x) (hJ x))),.im (.int .i64 0)]):=by kernel_rfl
theorem xQ (x:vJ):bP prog (EW false) qN (fun _=>true) f101 40 [.v (.fl (vZ x))]=some ([¬tD (hJ x)],.many [.fl (aQ aD.zero),.im (.int .i64 42)]):=by kernel_rfl
theorem aJF (c:Bool) (x:vJ) (hp:aZ (aPM c (hJ x)).1) (args:List Value) (w:World) (ha:bU w [.v (.fl (vZ x))] args):Good prog 101 (aPM c (hJ x)).2 args w:=by
 cases c
 ·exact aI aG (IF false) aO func101 (xQ x) hp ha
 ·exact aI aG (IF true) aO func101 (zY x) hp ha
def kU (c:Bool):Tab:=(EW c).add 101 (g1 Eh (aPM c))
theorem gW (c:Bool):TabOk prog (kU c):=(IF c).ad func101 (mG xO (aJF c))
theorem aVL (y:aV):fK (bY 2).toNat y=cU y:=by rw[show (bY 2).toNat=2 by decide,RZ]
def OK (b:Nat):Value:=.func (.func 136) #[] #[.pointer (some ⟨b,0,none⟩)]
def zU:Code:=(f100.body).getD .skip
def c0:Nat→Cfg:=fun _=>⟨fun _=>kU true,fun _=>true,fun _=>none⟩
theorem aTJ (x:aV):bE prog qN f100.ntmps c0 40 (cA zU) (nU 0 [.v (.fl (aQ x))]) [.slot 1 (.pt 1 0),.row 1 true (aQ x)]=some ([],.nrm,[.slot 1 (.pt 1 0),.row 1 true (aQ x)]):=by kernel_rfl
theorem aTI (x:aV) (b:Nat):bE prog qN f100.ntmps c0 40 (cB zU) [.at 1 b,.slot 1 (.pt 1 0),.row 1 true (aQ x)] [.slot 2 (.im (OK b)),.row 1 true (aQ x),.at 1 b]=some ([],.rt,[.slot 2 (.im (OK b)),.row 1 true (aQ x),.at 1 b]):=by kernel_rfl
theorem aHw:zU=.seq (cA zU) (cB zU):=by kernel_rfl
theorem LA (x:aV) (args:List Value) (w:World) (ha:bU w [.v (.fl (aQ x))] args):Calls prog 100 args.toArray w (fun e w'=>∃b,e=.returned (OK b)∧Below w.heap.size w w'∧w.heap.size≤b∧b<w'.heap.size∧w'.rangeAt b 0 (aA (aQ x))∧∀j,w'.frozen? ⟨b,j,none⟩=false):=by
 refine fT func100 (c:=zU) rfl ha (Nat.le_of_ble_eq_true (by kernel_rfl)) fun a w' hA => ?_
 rw[aHw];refine wp_seq (bO aG (fun _ _=>gW true) aO (aTJ x) trivial hA fun a w' hA => ?_);obtain⟨b,hA⟩:=hA.at (k:=1) (l:=aQ x) (by simp);refine bO aG (fun _ _=>gW true) aO (aTI x b) trivial hA fun a w' hA => ?_
 refine pY (l:=[.im (OK b)]) (r:=.one (.im (OK b))) (by kernel_rfl) (by kernel_rfl) hA ?_;obtain⟨β,g1,g2⟩:=hA.facts;obtain⟨e1,e2,e3,_⟩:=g1 (.row 1 true (aQ x)) (by simp);obtain⟨e4,e5,e6⟩:=e3 rfl;obtain⟨e7,e8⟩:=g1 (.at 1 b) (by simp);rw[e7]at e1 e2 e4 e6;rw[e8]at e2;exact⟨b,rfl,hA.below,e4,e1,e2,e6⟩
def oO:Code:=(f136.body).getD .skip
def jS:Code:=vG (vG (cB (cA (cB oO))))
def qF0 (k:Nat) (b:Nat):List Fact:=[.slot 0 (.im (iI k)),.slot 1 (.im (rU b 0)),.slot 3 (.pt 3 0),.row 3 true (aQ aD.zero)]
def qF (k i:Nat) (b:Nat):List Fact:=[.slot 1 (.im (rU b 0)),.slot 3 (.pt 3 0),.row 3 true (aQ aD.zero),.slot 4 (.im (iI k)),.slot 5 (.im (iI i))]
def c1 (n:Nat→Option Value):Nat→Cfg:=fun _=>⟨fun _=>kU true,fun _=>true,n⟩
theorem aUv (k b:Nat):bE prog qN f136.ntmps c0 40 (cA oO) (nU 0 [.v (.im (iI k)),.v (.im (rU b 0))]) (qF0 k b)=some ([],.nrm,qF0 k b):=by kernel_rfl
theorem aUu (k b:Nat):bE prog qN f136.ntmps c0 40 (cA (cA (cB oO))) (qF0 k b) (qF k 0 b)=some ([],.nrm,qF k 0 b):=by kernel_rfl
theorem aUw (k i b:Nat) (c:Bool):bE prog qN f136.ntmps (c1 (fun s=>bif Nat.beq s 6 then some (.bool c)else none)) 40 (cA jS) (qF k i b) (.slot 6 (.im (.bool c))::qF k i b)=some ([aH .lss .i64 (Int.ofNat i) (Int.ofNat k)=some (.bool c)],.nrm,.slot 6 (.im (.bool c))::qF k i b):=by kernel_rfl
theorem aUx (k i b:Nat):bE prog qN f136.ntmps c0 40 (cA (cB jS)) (.slot 6 (.im (.bool true))::qF k i b) (qF k i b)=some ([],.nrm,qF k i b):=by kernel_rfl
theorem aUy (k i b:Nat):bE prog qN f136.ntmps c0 40 (cA (cB jS)) (.slot 6 (.im (.bool false))::qF k i b) (qF k i b)=some ([],.ex 0,qF k i b):=by kernel_rfl
def aAt (u:aV) (b:Nat):Ext:={ Ext.none with ld:=fun s=>bif Nat.beq s 7 then some (aQ u)else bif Nat.beq s 10 then some (aQ u)else none,old:=fun b' o l=>b'=b∧o=0∧l=aQ u }
def oSq (x:aV):List Prop×RV:=([tD x],.one (.fl (aQ (aD.mul x x))))
theorem XF (x:vJ):bP prog (kU true) qN (fun _=>true) f59 40 [.v (.fl (vZ x))]=some ([tD (hJ x)],.one (.fl (aQ (aD.mul (hJ x) (hJ x))))):=by kernel_rfl
def Yq:Tab:=(kU true).add 59 (g1 qO oSq)
theorem Ag:TabOk prog Yq:=(gW true).ad func59 (bJ eW fun x hp args w ha=>by
 have h:=aI aG (gW true) aO func59 (XF (lL x)) (by rw[fR]; exact hp) (args:=args) (w:=w) (by
  match args,ha with
  | [v],ha=>exact⟨ha.1,trivial⟩
  | [],ha=>exact ha.elim
  | _::_::_,ha=>exact ha.2.elim)
 rw[fR]at h;exact h)
def cq:Nat→Cfg:=fun _=>⟨fun _=>Yq,fun _=>true,fun _=>none⟩
theorem aYo (k i b:Nat) (u:aV):xU prog { qG prog with x:=aAt u b } f136.ntmps (cq 0) ((eI (vG (cA (cB (cB jS))))).extract 0 2) (qF k i b) (.slot 8 (.fl (aQ (aD.mul u u)))::qF k i b)=some ([b=b∧0=0∧aQ u=aQ u,cF (aQ u)=48,tD u],.slot 8 (.fl (aQ (aD.mul u u)))::qF k i b):=by kernel_rfl
theorem aYp (k i b:Nat):bE prog qN f136.ntmps (c1 (fun s=>bif Nat.beq s 9 then some (iI (i+1))else none)) 40 (cB (cB (cB jS))) (qF k i b) (qF k (i+1) b)=some ([aH .add .i64 (Int.ofNat i) 1=some (iI (i+1))],.nrm,qF k (i+1) b):=by kernel_rfl
theorem aYq (k b:Nat) (u:aV):bE prog { qG prog with x:=aAt u b } f136.ntmps c0 40 (cB (cB oO)) (qF k k b) [.slot 3 (.pt 3 0),.row 3 true (aQ u)]=some ([b=b∧0=0∧aQ u=aQ u,cF (aQ u)=48],.rt,[.slot 3 (.pt 3 0),.row 3 true (aQ u)]):=by kernel_rfl
theorem aII:oO=.seq (cA oO) (.seq (.seq (cA (cA (cB oO))) (.block 0 (.loop jS))) (cB (cB oO))):=by kernel_rfl
theorem YX:jS=.seq (cA jS) (.seq (cA (cB jS)) (.seq (.block 1 (.region 3 (eI (vG (cA (cB (cB jS))))) false)) (cB (cB (cB jS))))):=by kernel_rfl
structure St (w:World) (b:Nat) (A:List Fact) (u:aV) (a:Act) (wi:World):Prop where
 hold:Holds f136.ntmps w.heap.size wi A a wi
 wr:WrAt w wi b []
 rng:wi.rangeAt b 0 (aA (aQ u))
theorem St.step {w:World} {b:Nat} (hb:b<w.heap.size) {A L:List Fact} {u:aV} {a a2:Act} {wi w2:World} (h:St w b A u a wi) (h2:Holds f136.ntmps w.heap.size wi L a2 w2):St w b L u a2 w2 :=
 ⟨h2.now,h.wr.below hb h2.below,gB h2.below hb h.rng⟩
theorem aKK (x:aV):(aQ x).all cOk=true:=by kernel_rfl
theorem BN (x:aV):cF (aQ x)=48:=by kernel_rfl
theorem aOP (x:aV) (i:Nat):aD.mul (bZ aD x (2^i)) (bZ aD x (2^i))=bZ aD x (2^(i+1)):=by
 rw[←cT];congr 1;rw[Nat.pow_succ]; omega
theorem aBt (k:Nat) (hk:k<4611686018427387904) (x:aV) (hx:tD x) (b:Nat) (w:World) (hb:b<w.heap.size) (hr:w.rangeAt b 0 (aA (aQ x))) (hf:∀j,w.frozen? ⟨b,j,none⟩=false) :
  Calls prog 136 #[iI k,rU b 0] w (fun e w'=>e=.returned (.agg (aA (aQ (bZ aD x (2^k)))).toArray)∧WrAt w w' b []∧w'.rangeAt b 0 (aA (aQ (bZ aD x (2^k))))):=by
 have hT:∀(n d:Nat) (wi:World),TabOkW prog (kU true) w.heap.size wi:=fun _ _ wi=>(gW true).w _ _
 have hTq:∀(d:Nat) (wi:World),TabOkW prog Yq w.heap.size wi:=fun _ wi=>Ag.w _ _
 have hq:∀wi:World,dC prog qN w.heap.size wi:=fun wi=>aO.w _ _
 have hqo:∀(u:aV) (wi:World),wi.rangeAt b 0 (aA (aQ u))→dC prog { qG prog with x:=aAt u b } w.heap.size wi:=fun u wi h=>Qw rfl rfl rfl fun b' o l e=>by
  obtain⟨rfl,rfl,rfl⟩:=e;exact⟨hb,h⟩
 refine fT func136 (c:=oO) rfl (args:=[iI k,rU b 0]) (cs:=[.v (.im (iI k)),.v (.im (rU b 0))]) ⟨rfl,rfl,trivial⟩ (Nat.le_of_ble_eq_true (by kernel_rfl)) fun a w' hA => ?_
 have S:St w b _ x a w':=⟨hA.now,(WrAt.refl w b).below hb hA.below,gB hA.below hb hr⟩;clear hA;rw[aII];refine wp_seq (aF aG (fun n d=>hT n d _) (hq _) (aUv k b) trivial S.hold fun a w2 hA => ?_);replace S:=S.step hb hA;clear hA;refine wp_seq (wp_seq (aF aG (fun n d=>hT n d _) (hq _) (aUu k b) trivial S.hold fun a w3 hA => ?_));replace S:=S.step hb hA;clear hA;refine wp_block ?_;refine pU (fun i a wi=>St w b (qF k i b) (bZ aD x (2^i)) a wi) k (fun i hi a wi S R hR => ?_) (fun a wi S R => ?_) (by rw[Nat.pow_zero,YY]; exact S)
 ·rw[YX];refine wp_seq (aF aG (fun n d=>(gW true).w _ _) (hq _) (aUw k i b true) ⟨cK hi,trivial⟩ S.hold fun a w4 hA => ?_);replace S:=S.step hb hA;clear hA;refine wp_seq (aF aG (fun n d=>hT n d _) (hq _) (aUx k i b) trivial S.hold fun a w5 hA => ?_);replace S:=S.step hb hA;clear hA;refine wp_seq (wp_block (tU (l:=List.range' 0 ((eI (vG (cA (cB (cB jS))))).extract 0 2).size++(2::[])) (by kernel_rfl) ?_));refine dO (c:=cq 0) (fun d=>hTq d _) (hqo _ _ S.rng) (aYo k i b _) ⟨⟨rfl,rfl,rfl⟩,BN _,SC hx _,trivial⟩ (by kernel_rfl) S.hold fun a w6 hA => ?_
  replace S:=S.step hb hA;clear hA;have h8:=S.hold.slotF (s:=8) (l:=aQ (aD.mul (bZ aD x (2^i)) (bZ aD x (2^i)))) (by simp);have h1:=S.hold.slot (s:=1) (v:=rU b 0) (by simp[qF]);obtain⟨o,ho,hoo,hod,hog⟩:∃o,(eI (vG (cA (cB (cB jS)))))[2]?=some o∧o.op=.store 33 (.tmp 1) (.tmp 8)∧o.dst=none∧o.guard=none:=⟨_,rfl,rfl,rfl,rfl⟩
  refine pE ho hog (Ti (b:=b) (n:=48) (p:=aQ (aD.mul (bZ aD x (2^i)) (bZ aD x (2^i)))) (l:=aA (aQ (bZ aD x (2^i)))) hoo hod (by simp[Act.eval,h1,rU]) (by simp[Act.eval,h8]) (by kernel_rfl) (BN _) (aKK _) S.rng (by rw[aT,BN]) (fun j=>by rw[S.wr.frozen]; exact hf j) ?_);have S2:St w b (.slot 8 (.fl (aQ (aD.mul (bZ aD x (2^i)) (bZ aD x (2^i)))))::qF k i b) (bZ aD x (2^(i+1))) a (w6.setCells b 0 (aA (aQ (aD.mul (bZ aD x (2^i)) (bZ aD x (2^i)))))) :=
   ⟨S.hold.setOld (by kernel_rfl) hb 0 _,S.wr.set 0 _,by rw[←aOP]; exact Wf S.rng (by rw[aT,aT,BN,BN])⟩
  show (cB (cB (cB jS))).wp _ _ _ _;refine aF aG (fun n d=>hT n d _) (hq _) (aYp k i b) ⟨pR (k:=1) (by omega),trivial⟩ (S2.hold.sub fun φ h=>List.mem_cons_of_mem _ h) fun a w7 hA => ?_
  exact hR _ _ (S2.step hb hA)
 ·rw[YX];refine wp_seq (aF aG (fun n d=>(gW true).w _ _) (hq _) (aUw k k b false) ⟨gQ (Nat.le_refl _),trivial⟩ S.hold fun a w4 hA => ?_);replace S:=S.step hb hA;clear hA;refine wp_seq (aF aG (fun n d=>hT n d _) (hq _) (aUy k k b) trivial S.hold fun a w5 hA => ?_);replace S:=S.step hb hA;clear hA;show (cB (cB oO)).wp _ _ _ _;refine aF aG (fun n d=>hT n d _) (hqo _ _ S.rng) (aYq k b _) ⟨⟨rfl,rfl,rfl⟩,BN _,trivial⟩ S.hold fun a w6 hA => ?_
  have S2:=S.step hb hA;exact pY (l:=[.fl (aQ (bZ aD x (2^k)))]) (r:=.one (.fl (aQ (bZ aD x (2^k))))) (by kernel_rfl) (by kernel_rfl) hA ⟨rfl,S2.wr,S2.rng⟩
theorem Holds.post {nt base:Nat} {w0:World} {A:List Fact} {a:Act} {w:World} (h:Holds nt base w0 A a w) {dst kill:Option Nat} {out:List Fact} {a':Act} {w':World}
  (hP:∀β,(∀φ∈A,φ.ok base β a w)→∃β',PostB base β β' a w dst A out kill a' w') (hd:nH dst nt=false:=by kernel_rfl):Holds nt base w0 (out++A.filter (fun φ => !(mI dst kill φ))) a' w':=by
 obtain⟨β,g1,g2,g3,gt⟩:=h.facts;obtain⟨β',P⟩:=hP β g1;have hkill:∀φ∈A,mI dst kill φ=false→∀kk k ED l,kill=some kk→φ=.row k ED l→(β kk).1≠(β k).1:=fun φ hφ hc kk k ED l hkk e=>by
  obtain⟨l0,hl0⟩:=P.kills kk hkk;have hne:kk≠k:=fun e2=>by
   rw[e]at hc;simp only[mI,Bool.or_eq_false_iff]at hc;have:=dR.2 (e2▸hkk:kill=some k);rw[hc.2]at this; cases this
  subst e;exact g2 kk k ED l0 l hl0 hφ hne
 have hmem:∀φ∈A.filter (fun φ => !(mI dst kill φ)),φ∈A∧mI dst kill φ=false:=fun φ hφ=>by
  obtain⟨h1,h2⟩:=List.mem_filter.1 hφ;exact⟨h1,by simpa using h2⟩
 have hβ:∀k ED l,Fact.row k ED l∈A.filter (fun φ => !(mI dst kill φ))→β' k=β k:=fun k ED l hφ=>by
  obtain⟨_,hc⟩:=hmem _ hφ;simp only[mI,Bool.or_eq_false_iff]at hc;exact P.beta k fun e=>by have:=dR.2 e; rw[hc.1]at this; cases this
 have hno:∀k l k' o' l',Fact.row k true l∈out→Fact.row k' o' l'∈A.filter (fun φ => !(mI dst kill φ))→k≠k'→(β' k).1≠(β' k').1:=fun k l k' o' l' hk hk' hne=>by
  rw[hβ k' o' l' hk'];obtain⟨hA',hc⟩:=hmem _ hk'
  rcases P.rows k l hk with⟨h2,_⟩|⟨h2,l0,h3⟩|⟨h2,k0,l0,hk0,he,h3⟩
  ·have:=(g1 _ hA').1;omega
  ·rw[P.beta k h2];exact g2 k k' o' l0 l' h3 hA' hne
  ·rw[he];refine g2 k0 k' o' l0 l' h3 hA' fun e => ?_
   subst e;simp only[mI,Bool.or_eq_false_iff]at hc;have:=dR.2 hk0;rw[hc.2]at this; cases this
 have hnt:β' nt=β nt:=P.beta nt fun e=>by have:=dR.2 e; rw[hd]at this; cases this
 refine⟨by rw[P.defers]; exact h.defers,by rw[P.size]; exact h.size,P.below w0 h.below,Nat.le_trans h.heap P.heap,β',fun φ hφ => ?_,fun k k' o' l l' hk hk' hne => ?_,fun k l hk => ?_,by rw[hnt]; exact Nat.le_trans gt.size P.heap,fun p q1 q2 => ?_,gt.shape.trans P.shape⟩
 ·rcases List.mem_append.1 hφ with hφ|hφ
  ·exact P.ok φ hφ
  ·obtain⟨h1,h2⟩:=hmem φ hφ;exact aQe P (g1 φ h1) h2 (hkill φ h1 h2)
 ·rcases List.mem_append.1 hk with hk|hk
  ·rcases List.mem_append.1 hk' with hk'|hk'
   ·cases o' with
    | true=>exact absurd (P.one k k' l l' hk hk') hne
    | false=>exact (P.onlyOwn k' l' hk').elim
   ·exact hno k l k' o' l' hk hk' hne
  ·rcases List.mem_append.1 hk' with hk'|hk'
   ·cases o' with
    | true=>exact fun e=>hno k' l' k true l hk' hk (Ne.symm hne) e.symm
    | false=>exact (P.onlyOwn k' l' hk').elim
   ·rw[hβ k true l hk,hβ k' o' l' hk'];exact g2 k k' o' l l' (hmem _ hk).1 (hmem _ hk').1 hne
 ·rw[hnt]
  rcases List.mem_append.1 hk with hk|hk
  ·rcases P.rows k l hk with⟨h2,_⟩|⟨h2,l0,h3⟩|⟨h2,k0,l0,hk0,he,h3⟩
   ·exact Or.inr (Nat.le_trans gt.size h2)
   ·rw[P.beta k h2];exact g3 k l0 h3
   ·rw[he];exact g3 k0 l0 h3
  ·rw[hβ k true l hk];exact g3 k l (hmem _ hk).1
 ·rw[hnt]at q2;have h3:=P.mem p (Nat.lt_of_lt_of_le q2 gt.size) fun kk hkk e=>by
   obtain⟨l0,hl0⟩:=P.kills kk hkk
   rcases g3 kk l0 hl0 with h4|h4<;>omega
  have h4:=gt.mem p q1 q2;exact⟨h3.1.trans h4.1,h3.2.trans h4.2⟩
theorem ZN {base:Nat} {β:Nat→Bk} {a:Act} {w w':World} {d:Nat} {M:List Fact} (v:Value) (l:List At) (b:Nat) (h:d<a.tmps.size) (hB:base≤w.heap.size) (hb:Below w.heap.size w w')
  (h1:w.heap.size≤b) (h2:b<w'.heap.size) (h3:w'.rangeAt b 0 (aA l)) (h4:∀j,w'.frozen? ⟨b,j,none⟩=false) :
  PostB base β (β1 β d b) a w (some d) M [.slot d (.im v),.row d true l,.at d b] none (a.put (some d) v) w' where
 defers:=rfl
 size:=fP _ _ _
 tmps s hs:=lZ _ _ _ _ hs
 beta k hk:=Dk _ _ _ _ hk
 heap:=hb.size
 mem p hp _:=⟨hb.cell hp,hb.frozen hp⟩
 shape:=Shape.below hb
 below _ h:=h.trans (hb.mono hB)
 ok φ hφ:=by
  simp only[List.mem_cons,List.not_mem_nil,or_false]at hφ
  rcases hφ with rfl|rfl|rfl
  ·exact iQ _ _ _ h
  ·exact⟨by rw[cE]; exact h2,by rw[cE]; exact h3,fun _=>⟨by rw[cE]; exact Nat.le_trans hB h1,by rw[cE],fun j=>by rw[cE]; exact h4 j⟩,fun h=>by cases h⟩
  ·exact⟨by rw[cE],by rw[cE]⟩
 rows k l' hk:=by
  simp only[List.mem_cons,List.not_mem_nil,or_false,reduceCtorEq,false_or]at hk;cases hk;exact Or.inl ⟨by rw[cE]; exact h1,rfl⟩
 one k k' l1 l2 hk hk':=by
  simp only[List.mem_cons,List.not_mem_nil,or_false,reduceCtorEq,false_or]at hk hk';cases hk; cases hk'; rfl
 kills k hk:=by cases hk
theorem aJe {base:Nat} {β:Nat→Bk} {a:Act} {w w':World} {d k b:Nat} {M:List Fact} {l0 l':List At} (v:TV) (h:d<a.tmps.size) (hkd:k≠d) (hrow:Fact.row k true l0∈M) (hat:Fact.at k b∈M) (hM:∀φ∈M,φ.ok base β a w) (hB:base≤w.heap.size)
  (hwr:WrAt w w' b []) (hrg:w'.rangeAt b 0 (aA l')):PostB base β β a w (some d) M [.slot d v.av,.row k true l'] (some k) (a.put (some d) v.den) w':=by
 obtain⟨r1,r2,r3,r4⟩:=hM _ hrow;obtain⟨r5,r6,r7⟩:=r3 rfl;obtain⟨e1,e2⟩:=hM _ hat;refine⟨kQ _ _ _,fP _ _ _,fun s hs=>lZ _ _ _ _ hs,fun _ _=>rfl,hwr.size,fun p hp hne => ?_,hwr.shape,fun w0 h0 => ?_,fun φ hφ => ?_,fun k' l1 hk => ?_,fun k1 k2 l1 l2 hk hk' => ?_,fun k' hk => ?_,fun k' l1 hk=>by cases v<;>simp[TV.av]at hk⟩
 ·have:=hwr.block p.block hp (by rw[←e1]; exact hne k rfl);exact⟨World.cell?_of_block this,World.frozen?_of_block this⟩
 ·exact h0.trans ⟨hwr.os,hwr.tape,hwr.output,hwr.size,fun q hq=>hwr.block q (by omega) (by omega)⟩
 ·simp only[List.mem_cons,List.not_mem_nil,or_false]at hφ
  rcases hφ with rfl|rfl
  ·show (a.put (some d) _).tmps[d]?=_;rw[iQ _ _ _ h,TV.av_den]
  ·refine⟨Nat.lt_of_lt_of_le r1 hwr.size,by rw[e1,e2]; exact hrg,fun _=>⟨r5,r6,fun q => ?_⟩,fun h=>by cases h⟩;have:=hwr.frozen q;rw[←e1]at this;rw[this]; exact r7 q
 ·simp only[List.mem_cons,List.not_mem_nil,or_false]at hk
  rcases hk with hk|hk
  ·cases v<;>cases hk
  ·cases hk;exact Or.inr (Or.inl ⟨fun e=>hkd (by injection e with e; exact e.symm),l0,hrow⟩)
 ·simp only[List.mem_cons,List.not_mem_nil,or_false]at hk hk'
  rcases hk with hk|hk
  ·cases v<;>cases hk
  ·rcases hk' with hk'|hk'
   ·cases v<;>cases hk'
   ·cases hk; cases hk'; rfl
 ·cases hk;exact⟨l0,hrow⟩
theorem FA {P:Program} {o:Oper} {a:Act} {w:World} {K:Act→World→Prop} {Q:Exit→Act→World→Prop} {id:Nat} {xs:Array Operand} {ts:Array TypeId} {vs:List Value} {R:Ending→World→Prop} (ho:o.op=.call ⟨.value (.func id),xs,ts⟩) (hv:xs.toList.map a.eval=vs)
  (he:∀xs,(callFunc id xs).run P w=.ok (.enter id xs) w) (hc:Calls P id vs.toArray w R) (hK:∀e w',R e w'→∃v,e=.returned v∧K (a.put o.dst v) w'):o.wp P a w K Q:=by
 have ea:xs.map a.eval=vs.toArray:=by rw[←Array.toArray_toList (xs:=xs.map a.eval),Array.toList_map,hv]
 have hrun:(execOp a.eval o).run P w=.ok (.enter id vs.toArray) w:=by
  have hf:a.eval (.func id)=.func (.func id) #[] #[]:=rfl;simp[execOp,ho,resolve,Deferred.ofValue,hf,invoke,ea,he]
 unfold Oper.wp;rw[hrun];refine Calls.mono hc ?_;intro e w' hr;obtain⟨v,rfl,hk⟩:=hK e w' hr;exact hk
theorem Dl {P:Program} {o:Oper} {a:Act} {w:World} {K:Act→World→Prop} {Q:Exit→Act→World→Prop} {id s:Nat} {cap:Array Value} {xs:Array Operand} {ts:Array TypeId} {vs:List Value} {R:Ending→World→Prop} (ho:o.op=.call ⟨.value (.tmp s),xs,ts⟩) (hs:a.eval (.tmp s)=.func (.func id) #[] cap) (hv:xs.toList.map a.eval=vs)
  (he:∀xs,(callFunc id xs).run P w=.ok (.enter id xs) w) (hc:Calls P id (vs++cap.toList).toArray w R) (hK:∀e w',R e w'→∃v,e=.returned v∧K (a.put o.dst v) w'):o.wp P a w K Q:=by
 have ea:xs.map a.eval=vs.toArray:=by rw[←Array.toArray_toList (xs:=xs.map a.eval),Array.toList_map,hv]
 have hrun:(execOp a.eval o).run P w=.ok (.enter id (vs++cap.toList).toArray) w:=by
  have e3:vs.toArray++cap=(vs++cap.toList).toArray:=by simp
  simp[execOp,ho,resolve,Deferred.ofValue,hs,invoke,ea,he]
 unfold Oper.wp;rw[hrun];refine Calls.mono hc ?_;intro e w' hr;obtain⟨v,rfl,hk⟩:=hK e w' hr;exact hk
def dA (l:List Int):List At:=l.map fun d=>.c (.int .i64 d)
def dgx:List Int:=[1,0,0,0,-1,0,0,0,0,1,0,1,0,0,0,0,1,0,0,1,0,-1,0,1,0,1,0,1,0,0,1,0,0,0,1,0,-1,0,-1,0,-1,0,1,0,1,0,0,-1,0,1,0,1,0,-1,0,0,1,0,1,0,0,0,1,0,0,0]
def dg6:List Int:=[0,-1,0,1,0,1,0,-1,0,0,-1,0,0,0,1,0,0,-1,0,-1,0,0,0,1,0,-1,0,0,0,0,-1,0,0,1,0,-1,0,0,1,0,0,0,0,0,-1,0,0,-1,0,1,0,-1,0,0,0,-1,0,-1,0,0,0,1,0,-1,0,1]
def aEA:kI
 | [.v (.fl l),.v (.fl m)]=>match LI l,LI m with
  | some a,some b=>some ([wv a+wv b<115792089237316195423570985008687907853269984665640564039457584007913129639936],.many [.fl (q1 (wv a+wv b)),.im (.int .u64 0)])
  | _,_=>none
 | _=>none
theorem aEz:∀cs pre r,aEA cs=some (pre,r)→aZ pre→∀(args:List Value) (w:World),bU w cs args→Good prog 61 r args w:=by
 intro cs pre r hg hp args w ha;unfold aEA at hg;split at hg
 ·rename_i l m;split at hg
  ·rename_i a b h1 h2;cases hg;rw[OT ha,gD l _ h1,gD m _ h2];refine (BQ _ _ _ _ _ _ _ _ (cQ a) (cQ b) w).mono ?_
   rintro e w' ⟨s0,s1,s2,s3,c,rfl,hs,hc,hv,hb⟩
   have hp1:=hp.1;have hv':aC s0 s1 s2 s3+115792089237316195423570985008687907853269984665640564039457584007913129639936*c=wv a+wv b:=hv;have hc0:c=0:=by omega
   subst hc0;obtain⟨rfl,rfl,rfl,rfl⟩:=pW hs hp1 (by omega);exact⟨rfl,hb⟩
  ·cases hg
 ·cases hg
def aEy:kI
 | [.v (.fl l),.v (.im (.int .i64 (.ofNat i)))]=>match LI l with
  | some n=>bif Nat.blt i 256 then some ([],.one (.im (.int .i64 (gA (wv n) i:Nat))))else none
  | none=>none
 | _=>none
theorem aEx:∀cs pre r,aEy cs=some (pre,r)→aZ pre→∀(args:List Value) (w:World),bU w cs args→Good prog 62 r args w:=by
 intro cs pre r hg hp args w ha;unfold aEy at hg;split at hg
 ·rename_i l i;split at hg
  ·rename_i n hn;cases hb:Nat.blt i 256<;>rw[hb]at hg
   ·cases hg
   ·cases hg;exact aFJ _ [i<256] _ (by show SJ _=_; unfold SJ; simp only[hn]) ⟨by simpa using hb,trivial⟩ args w ha
  ·cases hg
 ·cases hg
def aSA:Tab:=(T0.add 61 aEA).add 62 aEy
theorem Np:TabOk prog aSA:=((zK _).ad func61 aEz).ad func62 aEx
def cSg:Nat→Cfg:=fun _=>⟨fun _=>aSA,fun _=>true,fun _=>none⟩
theorem aHF:aU prog (qG prog) cSg f28 300 [.v (.fl (q1 PT))]=some ([wv PT+wv PT<115792089237316195423570985008687907853269984665640564039457584007913129639936,wv (wv PT+wv PT)+wv PT<115792089237316195423570985008687907853269984665640564039457584007913129639936],.one (.fl (dA dgx))):=by kernel_rfl
theorem aHH:aU prog (qG prog) cSg f28 300 [.v (.fl (q1 CC))]=some ([wv CC+wv CC<115792089237316195423570985008687907853269984665640564039457584007913129639936,wv (wv CC+wv CC)+wv CC<115792089237316195423570985008687907853269984665640564039457584007913129639936],.one (.fl (dA dg6))):=by kernel_rfl
def Yt (N:Nat) (D:List Int):Prop:=∀(args:List Value) (w:World),bU w [.v (.fl (q1 N))] args→Good prog 28 (.one (.fl (dA D))) args w
theorem aOw:Yt PT dgx:=fun args w ha=>aB aG (fun _ _=>Np) (aJ _) func28 aHF ⟨by decide +kernel,by decide +kernel,trivial⟩ ha
theorem aOy:Yt CC dg6:=fun args w ha=>aB aG (fun _ _=>Np) (aJ _) func28 aHH ⟨by decide +kernel,by decide +kernel,trivial⟩ ha
def gSg (N:Nat) (D:List Int):kI
 | [.v (.fl l)]=>match LI l with
  | some n=>some ([n=N],.one (.fl (dA D)))
  | none=>none
 | _=>none
def aSB (N:Nat) (D:List Int):Tab:=(kU true).add 28 (gSg N D)
theorem jV {N:Nat} {D:List Int} (h:Yt N D):TabOk prog (aSB N D):=(gW true).ad func28 (by
 intro cs pre r hg hp args w ha;unfold gSg at hg;split at hg
 ·rename_i l;split at hg
  ·rename_i n hn;cases hg;refine h args w ?_
   match args,ha with
   | [v],ha=>exact⟨by show v=.agg (aA (q1 N)).toArray; rw[←hp.1,←gD l _ hn]; exact ha.1,trivial⟩
   | [],ha=>exact ha.elim
   | _::_::_,ha=>exact ha.2.elim
  ·cases hg
 ·cases hg)
def fJ:Code:=(f56.body).getD .skip
def nG:Code:=vG (vG (cB (cA (cB (cB (cB (cB fJ)))))))
def gU:Code:=vG (cA (cB (cB nG)))
theorem aIE:fJ=.seq (cA fJ) (.seq (.region 1 (eI (cA (cB fJ))) false) (.seq (cA (cB (cB fJ))) (.seq (cA (cB (cB (cB fJ)))) (.seq (.seq (cA (cA (cB (cB (cB (cB fJ)))))) (.block 0 (.loop nG))) (cB (cB (cB (cB (cB fJ))))))))):=by kernel_rfl
theorem Mr:nG=.seq (cA nG) (.seq (cA (cB nG)) (.seq (.block 1 gU) (cB (cB (cB nG))))):=by kernel_rfl
theorem aIF:gU=.seq (cA gU) (.seq (cA (cB gU)) (.seq (.region 8 (eI (cA (cB (cB gU)))) false) (cB (cB (cB gU))))):=by kernel_rfl
def cR (N:Nat) (D:List Int) (n:Nat→Option Value):Nat→Cfg:=fun _=>⟨fun _=>aSB N D,fun _=>true,n⟩
def gX (g:Nat→Option Value):Ext:={ Ext.none with gen:=g }
def rA (y:aV) (N:Nat):List Fact:=[.slot 2 (.pt 2 0),.row 2 true (aQ y),.slot 3 (.pt 3 0),.row 3 true (q1 N),.slot 4 (.pt 4 0),.row 4 true (aQ aD.zero)]
def rB (y:aV) (N b:Nat):List Fact:=[.slot 3 (.pt 3 0),.row 3 true (q1 N),.slot 4 (.pt 4 0),.row 4 true (aQ aD.zero),.slot 5 (.im (OK b)),.row 12 true (aQ y),.at 12 b]
def rF (D:List Int) (b i t:Nat) (u r:aV):List Fact:=[.slot 4 (.pt 4 0),.row 4 true (aQ aD.zero),.slot 5 (.im (OK b)),.row 12 true (aQ u),.at 12 b,.slot 6 (.pt 6 0),.row 6 true (aQ r),.slot 7 (.im (iI t)),.slot 15 (.fl (dA D)),.slot 16 (.im (iI i))]
def rG (D:List Int) (b i t:Nat) (d:Int) (u r:aV):List Fact:=.slot 8 (.im (iI i)) :: .slot 9 (.im (.int .i64 d))::rF D b i t u r
theorem aUg (N:Nat) (D:List Int) (y:aV):bE prog qN f56.ntmps (cR N D fun _=>none) 40 (cA fJ) (nU 0 [.v (.fl (aQ y)),.v (.fl (q1 N))]) (rA y N)=some ([],.nrm,rA y N):=by kernel_rfl
theorem aUf (N:Nat) (D:List Int) (y:aV):xU prog qN f56.ntmps (cR N D (fun _=>none) 0) ((eI (cA (cB fJ))).extract 0 1) (rA y N) (.slot 11 (.fl (aQ y))::rA y N)=some ([],.slot 11 (.fl (aQ y))::rA y N):=by kernel_rfl
theorem aUe (N:Nat) (D:List Int) (y:aV) (b:Nat):xU prog qN f56.ntmps (cR N D (fun _=>none) 0) ((eI (cA (cB fJ))).extract 2 3) (.slot 12 (.im (OK b)) :: .row 12 true (aQ y) :: .at 12 b :: .slot 11 (.fl (aQ y))::rA y N) (rB y N b)=some ([],rB y N b):=by kernel_rfl
theorem aUd (N:Nat) (D:List Int) (y:aV) (b:Nat):bE prog qN f56.ntmps (cR N D fun _=>none) 40 (cA (cB (cB fJ))) (rB y N b) (.slot 6 (.pt 6 0) :: .row 6 true (aQ aD.one)::rB y N b)=some ([],.nrm,.slot 6 (.pt 6 0) :: .row 6 true (aQ aD.one)::rB y N b):=by kernel_rfl
theorem aUc (N:Nat) (D:List Int) (y:aV) (b:Nat):bE prog qN f56.ntmps (cR N D fun _=>none) 40 (cA (cB (cB (cB fJ)))) (.slot 6 (.pt 6 0) :: .row 6 true (aQ aD.one)::rB y N b) (.slot 7 (.im (iI 0)) :: .slot 6 (.pt 6 0) :: .row 6 true (aQ aD.one)::rB y N b)=some ([],.nrm,.slot 7 (.im (iI 0)) :: .slot 6 (.pt 6 0) :: .row 6 true (aQ aD.one)::rB y N b):=by kernel_rfl
theorem aUb (N:Nat) (D:List Int) (y:aV) (b:Nat):bE prog qN f56.ntmps (cR N D fun _=>none) 40 (cA (cA (cB (cB (cB (cB fJ)))))) (.slot 7 (.im (iI 0)) :: .slot 6 (.pt 6 0) :: .row 6 true (aQ aD.one)::rB y N b) (rF D b 0 0 y aD.one)=some ([N=N],.nrm,rF D b 0 0 y aD.one):=by kernel_rfl
theorem aUh (N:Nat) (D:List Int) (b i t:Nat) (u r:aV) (c:Bool):bE prog qN f56.ntmps (cR N D (fun s=>bif Nat.beq s 17 then some (.bool c)else none)) 40 (cA nG) (rF D b i t u r) (.slot 17 (.im (.bool c))::rF D b i t u r)=some ([aH .lss .i64 (Int.ofNat i) 66=some (.bool c)],.nrm,.slot 17 (.im (.bool c))::rF D b i t u r):=by kernel_rfl
theorem aUi (N:Nat) (D:List Int) (b i t:Nat) (u r:aV):bE prog qN f56.ntmps (cR N D fun _=>none) 40 (cA (cB nG)) (.slot 17 (.im (.bool true))::rF D b i t u r) (rF D b i t u r)=some ([],.nrm,rF D b i t u r):=by kernel_rfl
theorem aUj (N:Nat) (D:List Int) (b i t:Nat) (u r:aV):bE prog qN f56.ntmps (cR N D fun _=>none) 40 (cA (cB nG)) (.slot 17 (.im (.bool false))::rF D b i t u r) (rF D b i t u r)=some ([],.ex 0,rF D b i t u r):=by kernel_rfl
theorem aUp (N:Nat) (D:List Int) (b i t:Nat) (d:Int) (u r:aV):bE prog { qG prog with x:=gX (fun s=>bif Nat.beq s 19 then some (.int .i64 d)else none) } f56.ntmps (cR N D fun _=>none) 40 (cA gU) (rF D b i t u r) (rG D b i t d u r)=some ([i<66,cellAt (dA D) i=some (.int .i64 d)],.nrm,rG D b i t d u r):=by kernel_rfl
theorem aUo (N:Nat) (D:List Int) (b i t:Nat) (d:Int) (u r:aV):bE prog qN f56.ntmps (cR N D (fun s=>bif Nat.beq s 21 then some (.bool false)else none)) 40 (cA (cB gU)) (rG D b i t d u r) (rG D b i t d u r)=some ([aH .eql .i64 d 0=some (.bool false)],.nrm,rG D b i t d u r):=by kernel_rfl
theorem aON (N:Nat) (D:List Int) (b i t:Nat) (d:Int) (u r:aV):bE prog qN f56.ntmps (cR N D (fun s=>bif Nat.beq s 21 then some (.bool true)else none)) 40 (cA (cB gU)) (rG D b i t d u r) (rF D b i t u r)=some ([aH .eql .i64 d 0=some (.bool true)],.ex 1,rF D b i t u r):=by kernel_rfl
theorem aUn (N:Nat) (D:List Int) (b i t k:Nat) (d:Int) (u r:aV):xU prog qN f56.ntmps (cR N D (fun s=>bif Nat.beq s 25 then some (iI k)else none) 0) ((eI (cA (cB (cB gU)))).extract 0 4) (rG D b i t d u r) (.slot 22 (.im (OK b)) :: .slot 25 (.im (iI k))::rG D b i t d u r)=some ([aH .sub .i64 (Int.ofNat i) (Int.ofNat t)=some (iI k)],.slot 22 (.im (OK b)) :: .slot 25 (.im (iI k))::rG D b i t d u r):=by kernel_rfl
theorem aYm (D:List Int) (b i t k:Nat) (d:Int) (u v r:aV):([Fact.slot 26 (TV.av (.fl (aQ v))),.row 12 true (aQ v)]++(.slot 22 (.im (OK b)) :: .slot 25 (.im (iI k))::rG D b i t d u r).filter (fun φ => !(mI (some 26) (some 12) φ)))=[.slot 26 (.fl (aQ v)),.row 12 true (aQ v),.slot 22 (.im (OK b)),.slot 25 (.im (iI k)),.slot 8 (.im (iI i)),.slot 9 (.im (.int .i64 d)),.slot 4 (.pt 4 0),.row 4 true (aQ aD.zero),.slot 5 (.im (OK b)),.at 12 b,.slot 6 (.pt 6 0),.row 6 true (aQ r),.slot 7 (.im (iI t)),.slot 15 (.fl (dA D)),.slot 16 (.im (iI i))]:=by kernel_rfl
theorem aUm (N:Nat) (D:List Int) (b i t k:Nat) (d:Int) (v r:aV):xU prog qN f56.ntmps (cR N D (fun _=>none) 0) ((eI (cA (cB (cB gU)))).extract 5 7) [.slot 26 (.fl (aQ v)),.row 12 true (aQ v),.slot 22 (.im (OK b)),.slot 25 (.im (iI k)),.slot 8 (.im (iI i)),.slot 9 (.im (.int .i64 d)),.slot 4 (.pt 4 0),.row 4 true (aQ aD.zero),.slot 5 (.im (OK b)),.at 12 b,.slot 6 (.pt 6 0),.row 6 true (aQ r),.slot 7 (.im (iI t)),.slot 15 (.fl (dA D)),.slot 16 (.im (iI i))] (.slot 10 (.pt 10 0) :: .row 10 true (aQ v)::rG D b i t d v r)=some ([],.slot 10 (.pt 10 0) :: .row 10 true (aQ v)::rG D b i t d v r):=by kernel_rfl
theorem aUk (N:Nat) (D:List Int) (b i t:Nat) (d:Int) (v r:aV):bE prog qN f56.ntmps (cR N D (fun s=>bif Nat.beq s 29 then some (.bool false)else none)) 40 (cB (cB (cB gU))) (.slot 10 (.pt 10 0) :: .row 10 true (aQ v)::rG D b i t d v r) (rF D b i i v (aD.mul (hJ (lL r)) (hJ (lL v))))=some ([aH .lss .i64 d 0=some (.bool false)],.nrm,rF D b i i v (aD.mul (hJ (lL r)) (hJ (lL v)))):=by kernel_rfl
theorem aUl (N:Nat) (D:List Int) (b i t:Nat) (d:Int) (v r:aV):bE prog qN f56.ntmps (cR N D (fun s=>bif Nat.beq s 29 then some (.bool true)else none)) 40 (cB (cB (cB gU))) (.slot 10 (.pt 10 0) :: .row 10 true (aQ v)::rG D b i t d v r) (rF D b i i v (aD.mul (hJ (lL r)) (hJ (lL (cO v)))))=some ([aH .lss .i64 d 0=some (.bool true)],.nrm,rF D b i i v (aD.mul (hJ (lL r)) (hJ (lL (cO v))))):=by kernel_rfl
theorem aYl (N:Nat) (D:List Int) (b i t:Nat) (u r:aV):bE prog qN f56.ntmps (cR N D (fun s=>bif Nat.beq s 35 then some (iI (i+1))else none)) 40 (cB (cB (cB nG))) (rF D b i t u r) (rF D b (i+1) t u r)=some ([aH .add .i64 (Int.ofNat i) 1=some (iI (i+1))],.nrm,rF D b (i+1) t u r):=by kernel_rfl
theorem aYn (N:Nat) (D:List Int) (b i t:Nat) (u r:aV):bE prog qN f56.ntmps (cR N D fun _=>none) 40 (cB (cB (cB (cB (cB fJ))))) (rF D b i t u r) [.slot 4 (.pt 4 0),.row 4 true (aQ r)]=some ([],.rt,[.slot 4 (.pt 4 0),.row 4 true (aQ r)]):=by kernel_rfl
def dI (D:List Int) (i:Nat):Int:=D.getD i 0
def tN (D:List Int):Nat→Nat
 | 0=>0
 | i+1=>if dI D i=0 then tN D i else i
def eN (D:List Int):Nat→Nat
 | 0=>0
 | i+1=>if dI D i=0 then eN D i else if dI D i<0 then eN D i+2^i*p6N else eN D i+2^i
theorem aLF (D:List Int):∀i,tN D i≤i
 | 0=>Nat.le_refl _
 | i+1=>by
  unfold tN;split
  ·exact Nat.le_succ_of_le (aLF D i)
  ·exact Nat.le_succ _
theorem SU:∀(D:List Int) (i:Nat),i<D.length→cellAt (dA D) i=some (.int .i64 (dI D i))
 | [],i,h=>absurd h (by simp)
 | d::r,0,h=>rfl
 | d::r,i+1,h=>by
  show (bif Nat.blt (i+1) 1 then _ else cellAt (dA r) (i+1-1))=_;rw[show Nat.blt (i+1) 1=false from Bool.eq_false_iff.2 fun h=>by simp at h,cond_false,Nat.add_sub_cancel,SU r i (by simpa using h)];simp[dI]
theorem Holds.free {nt base:Nat} {w0:World} {A:List Fact} {a:Act} {w:World} (h:Holds nt base w0 A a w) {k b:Nat} {l:List At} (h1:Fact.row k true l∈A) (h2:Fact.at k b∈A):∀j,w.frozen? ⟨b,j,none⟩=false:=by
 obtain⟨β,g1,g2⟩:=h.facts;obtain⟨_,_,e3,_⟩:=g1 _ h1;obtain⟨e4,e5⟩:=g1 _ h2;have:=(e3 rfl).2.2;rw[e4]at this;exact this
theorem aLM (y:aV) {t i:Nat} (h:t≤i):bZ aD (bZ aD y (2^t)) (2^(i-t))=bZ aD y (2^i):=by
 rw[←eF,←Nat.pow_add,Nat.add_sub_cancel' h]
theorem aMd (d:Int):aH .eql .i64 d 0=some (.bool (decide (d=0))):=by
 show some (Value.bool (d==0))=_
 by_cases h:d=0
 ·subst h; rfl
 ·rw[decide_eq_false h];simp[h]
theorem aMb (d:Int):aH .lss .i64 d 0=some (.bool (decide (d<0))):=rfl
theorem xW {N:Nat} {D:List Int} (hsg:Yt N D) (hlen:D.length=66) (y:aV) (hy:tD y) (args:List Value) (w:World) (ha:bU w [.v (.fl (aQ y)),.v (.fl (q1 N))] args):Good prog 56 (.one (.fl (aQ (bZ aD y (eN D 66))))) args w:=by
 have hT:∀(n d:Nat) (wi:World),TabOkW prog (aSB N D) w.heap.size wi:=fun _ _ wi=>(jV hsg).w _ _
 refine fT func56 (c:=fJ) rfl ha (Nat.le_of_ble_eq_true (by kernel_rfl)) fun a w' hA => ?_
 rw[aIE];refine wp_seq (bO aG (fun _ _=>jV hsg) aO (aUg N D y) trivial hA fun a w1 hA => ?_);refine wp_seq (tU (l:=List.range' 0 ((eI (cA (cB fJ))).extract 0 1).size++(1::(List.range' 2 ((eI (cA (cB fJ))).extract 2 3).size++[]))) (by kernel_rfl) ?_);refine dO (c:=cR N D (fun _=>none) 0) (fun d=>(jV hsg).w _ _) (aO.w _ _) (aUf N D y) trivial (by kernel_rfl) hA fun a w2 hA => ?_
 have h11:=hA.slotF (s:=11) (l:=aQ y) (by simp);obtain⟨o,ho,hoo,hod,hog⟩:∃o,(eI (cA (cB fJ)))[1]?=some o∧(∃ts,o.op=.call ⟨.value (.func 100),#[.tmp 11],ts⟩)∧o.dst=some 12∧o.guard=none:=⟨_,rfl,⟨_,rfl⟩,rfl,rfl⟩
 obtain⟨ts,hoo⟩:=hoo;refine pE ho hog (FA hoo (vs:=[.agg (aA (aQ y)).toArray]) (by simp[Act.eval,h11]) (fV func100 (by kernel_rfl) (by kernel_rfl) · _) (LA y [.agg (aA (aQ y)).toArray] _ ⟨rfl,trivial⟩) fun e w3 hR => ?_);obtain⟨b,rfl,hb,h1,h2,h3,h4⟩:=hR;refine⟨_,rfl,?_⟩;rw[hod];have hA:=hA.post (dst:=some 12) (kill:=none) fun β hβ=>⟨_,ZN (OK b) (aQ y) b (by rw[hA.size]; exact Nat.le_of_ble_eq_true (by kernel_rfl)) hA.heap hb h1 h2 h3 h4⟩
 have ef:([Fact.slot 12 (.im (OK b)),.row 12 true (aQ y),.at 12 b]++(.slot 11 (.fl (aQ y))::rA y N).filter (fun φ => !(mI (some 12) none φ)))=.slot 12 (.im (OK b)) :: .row 12 true (aQ y) :: .at 12 b :: .slot 11 (.fl (aQ y))::rA y N:=by kernel_rfl
 rw[ef]at hA;refine dO (c:=cR N D (fun _=>none) 0) (fun d=>(jV hsg).w _ _) (aO.w _ _) (aUe N D y b) trivial (by kernel_rfl) hA fun a w4 hA => ?_
 show (Code.seq (cA (cB (cB fJ))) _).wp _ _ _ _;refine wp_seq (bO aG (fun _ _=>jV hsg) aO (aUd N D y b) trivial hA fun a w5 hA => ?_);refine wp_seq (bO aG (fun _ _=>jV hsg) aO (aUc N D y b) trivial hA fun a w6 hA => ?_);refine wp_seq (wp_seq (bO aG (fun _ _=>jV hsg) aO (aUb N D y b) ⟨rfl,trivial⟩ hA fun a w7 hA => ?_));refine wp_block ?_;refine pU (fun i a wi=>Holds f56.ntmps w.heap.size w (rF D b i (tN D i) (bZ aD y (2^tN D i)) (bZ aD y (eN D i))) a wi) 66 (fun i hi a wi hA R hR => ?_) (fun a wi hA R => ?_) (by
  show Holds _ _ _ (rF D b 0 0 (bZ aD y (2^0)) (bZ aD y 0)) _ _;rw[Nat.pow_zero,YY]; exact hA)
 ·rw[Mr];refine wp_seq (bO aG (fun _ _=>jV hsg) aO (aUh N D b i _ _ _ true) ⟨cK hi,trivial⟩ hA fun a w8 hA => ?_);refine wp_seq (bO aG (fun _ _=>jV hsg) aO (aUi N D b i _ _ _) trivial hA fun a w9 hA => ?_);refine wp_seq (wp_block ?_);have hfin:∀(Q:Exit→Act→World→Prop) a w',Holds f56.ntmps w.heap.size w (rF D b i (tN D (i+1)) (bZ aD y (2^tN D (i+1))) (bZ aD y (eN D (i+1)))) a w'→(cB (cB (cB nG))).wp prog (Exit.then R Q) a w':=fun Q a w' hA =>
   bO aG (fun _ _=>jV hsg) aO (aYl N D b i _ _ _) ⟨pR (k:=1) (by omega),trivial⟩ hA fun a w'' hA=>hR a w'' hA
  rw[aIF];refine wp_seq (aF aG (fun n d=>hT n d _) (Qw (x:=gX (fun s=>bif Nat.beq s 19 then some (.int .i64 (dI D i))else none)) (N:=w.heap.size) (w:=w) rfl rfl rfl fun _ _ _ h=>h.elim) (aUp N D b i _ (dI D i) _ _) ⟨hi,SU D i (by omega),trivial⟩ hA fun a w10 hA => ?_)
  by_cases hd:dI D i=0
  ·refine wp_seq (bO aG (fun _ _=>jV hsg) aO (aON N D b i _ (dI D i) _ _) ⟨by rw[aMd,decide_eq_true hd],trivial⟩ hA fun a w11 hA => ?_);refine hfin _ a w11 ?_;rw[show tN D (i+1)=tN D i from if_pos hd,show eN D (i+1)=eN D i from if_pos hd];exact hA
  ·refine wp_seq (bO aG (fun _ _=>jV hsg) aO (aUo N D b i _ (dI D i) _ _) ⟨by rw[aMd,decide_eq_false hd],trivial⟩ hA fun a w11 hA => ?_);refine wp_seq (tU (l:=List.range' 0 ((eI (cA (cB (cB gU)))).extract 0 4).size++(4::(List.range' 5 ((eI (cA (cB (cB gU)))).extract 5 7).size++[]))) (by kernel_rfl) ?_);have ht:=aLF D i;refine dO (c:=cR N D (fun s=>bif Nat.beq s 25 then some (iI (i-tN D i))else none) 0) (fun d=>(jV hsg).w _ _) (aO.w _ _) (aUn N D b i (tN D i) (i-tN D i) (dI D i) _ _) ⟨CK ht (by omega),trivial⟩ (by kernel_rfl) hA fun a w12 hA => ?_
   have h22:=hA.slot (s:=22) (v:=OK b) (by simp);have h25:=hA.slot (s:=25) (v:=iI (i-tN D i)) (by simp);obtain⟨o2,ho2,hoo2,hod2,hog2⟩:∃o,(eI (cA (cB (cB gU))))[4]?=some o∧(∃ts,o.op=.call ⟨.value (.tmp 22),#[.tmp 25],ts⟩)∧o.dst=some 26∧o.guard=none:=⟨_,rfl,⟨_,rfl⟩,rfl,rfl⟩
   obtain⟨ts2,hoo2⟩:=hoo2;have hold:=hA.old (k:=12) (b:=b) (l:=aQ (bZ aD y (2^tN D i))) (by simp[rG,rF]) (by simp[rG,rF]);have hfree:=hA.free (k:=12) (b:=b) (l:=aQ (bZ aD y (2^tN D i))) (by simp[rG,rF]) (by simp[rG,rF]);refine pE ho2 hog2 (Dl hoo2 (id:=136) (cap:=#[.pointer (some ⟨b,0,none⟩)]) (vs:=[iI (i-tN D i)]) (by simp[Act.eval,h22,OK]) (by simp[Act.eval,h25]) (fV func136 (by kernel_rfl) (by kernel_rfl) · _) (aBt (i-tN D i) (by omega) _ (SC hy _) b w12 hold.1 hold.2 hfree) fun e w13 hR2 => ?_);obtain⟨rfl,hwr,hrg⟩:=hR2;refine⟨_,rfl,?_⟩;rw[hod2];have hA:=hA.post (dst:=some 26) (kill:=some 12) fun β hβ=>⟨_,aJe (.fl (aQ (bZ aD (bZ aD y (2^tN D i)) (2^(i-tN D i))))) (by rw[hA.size]; exact Nat.le_of_ble_eq_true (by kernel_rfl)) (by decide) (l0:=aQ (bZ aD y (2^tN D i))) (b:=b) (by simp[rG,rF]) (by simp[rG,rF]) hβ hA.heap hwr hrg⟩
   rw[aYm]at hA;rw[aLM y ht]at hA;refine dO (c:=cR N D (fun _=>none) 0) (fun d=>(jV hsg).w _ _) (aO.w _ _) (aUm N D b i (tN D i) (i-tN D i) (dI D i) _ _) trivial (by kernel_rfl) (by rw[aLM y ht]; exact hA) fun a w14 hA => ?_
   show (cB (cB (cB gU))).wp _ _ _ _
   by_cases hn:dI D i<0
   ·refine bO aG (fun _ _=>jV hsg) aO (aUl N D b i (tN D i) (dI D i) _ _) ⟨by rw[aMb,decide_eq_true hn],trivial⟩ hA fun a w15 hA => ?_
    refine hfin _ a w15 ?_;rw[show tN D (i+1)=i from if_neg hd,show eN D (i+1)=eN D i+2^i*p6N from (if_neg hd).trans (if_pos hn),cT,eF,←JP];rw[fR,fR]at hA;exact hA
   ·refine bO aG (fun _ _=>jV hsg) aO (aUk N D b i (tN D i) (dI D i) _ _) ⟨by rw[aMb,decide_eq_false hn],trivial⟩ hA fun a w15 hA => ?_
    refine hfin _ a w15 ?_;rw[show tN D (i+1)=i from if_neg hd,show eN D (i+1)=eN D i+2^i from (if_neg hd).trans (if_neg hn),cT];rw[fR,fR]at hA;exact hA
 ·rw[Mr];refine wp_seq (bO aG (fun _ _=>jV hsg) aO (aUh N D b 66 _ _ _ false) ⟨gQ (Nat.le_refl _),trivial⟩ hA fun a w8 hA => ?_);refine wp_seq (bO aG (fun _ _=>jV hsg) aO (aUj N D b 66 _ _ _) trivial hA fun a w9 hA => ?_);show (cB (cB (cB (cB (cB fJ))))).wp _ _ _ _;exact bO aG (fun _ _=>jV hsg) aO (aYn N D b 66 _ _ _) trivial hA fun a w10 hA=>gZ (l:=[.fl (aQ (bZ aD y (eN D 66)))]) (by kernel_rfl) (by kernel_rfl) hA
def kxN:Nat:=(eN dgx 66-PT)/q4N
def k6N:Nat:=(eN dg6 66-CC)/q4N
theorem aZT:eN dgx 66=PT+q4N*kxN:=by kernel_rfl
theorem aZU:eN dg6 66=CC+q4N*k6N:=by kernel_rfl
theorem aYu {y:aV} (h:tD y):bZ aD y (eN dgx 66)=bZ aD y PT:=by rw[aZT,cT,eF,Hq h,oE,aD.mul_one]
theorem aYv {y:aV} (h:tD y):bZ aD y (eN dg6 66)=bZ aD y CC:=by rw[aZU,cT,eF,Hq h,oE,aD.mul_one]
def s6F:Fq:=⟨CC,by decide +kernel⟩
def sdF:Fq:=⟨PT,by decide +kernel⟩
theorem Mg:bP prog Yq qN (fun _=>true) f57 40 []=some ([],.one (.fl [.f s6F])):=by kernel_rfl
theorem aAK:bP prog Yq qN (fun _=>true) f58 40 []=some ([],.one (.fl [.f sdF])):=by kernel_rfl
theorem aMe:∃f:aV→aV,∀y,f y=bZ aD y CC:=⟨fun y=>bZ aD y CC,fun _=>rfl⟩
theorem aLQ:∃f:aV→aV,∀y,f y=bZ aD y PT:=⟨fun y=>bZ aD y PT,fun _=>rfl⟩
def o6:aV→aV:=Classical.choose aMe
def ox:aV→aV:=Classical.choose aLQ
theorem aCZ (y:aV):o6 y=bZ aD y CC:=Classical.choose_spec aMe y
theorem aLR (y:aV):ox y=bZ aD y PT:=Classical.choose_spec aLQ y
def aQE:kI
 | [.v (.fl l),.v (.fl m)]=>match qO l,LI m with
  | some y,some n=>bif Nat.beq n CC then some ([tD y],.one (.fl (aQ (o6 y))))else bif Nat.beq n PT then some ([tD y],.one (.fl (aQ (ox y))))else none
  | _,_=>none
 | _=>none
theorem aKl:∀cs pre r,aQE cs=some (pre,r)→aZ pre→∀(args:List Value) (w:World),bU w cs args→Good prog 56 r args w:=by
 intro cs pre r hg hp args w ha;unfold aQE at hg;split at hg
 ·rename_i l m;split at hg
  ·rename_i y n hy hn;have hca:∀N,n=N→bU w [.v (.fl (aQ y)),.v (.fl (q1 N))] args:=fun N e=>by
    subst e
    match args,ha with
    | [u,v],ha=>exact⟨by show u=.agg (aA (aQ y)).toArray; rw[←eW l _ hy]; exact ha.1,by show v=.agg (aA (q1 n)).toArray; rw[←gD m _ hn]; exact ha.2.1,trivial⟩
    | [],ha=>exact ha.elim
    | [_],ha=>exact ha.2.elim
    | _::_::_::_,ha=>exact ha.2.2.elim
   cases h6:Nat.beq n CC<;>rw[h6]at hg
   ·simp only[cond_false]at hg;cases hx:Nat.beq n PT<;>rw[hx]at hg
    ·cases hg
    ·cases hg;have:=xW aOw (by decide) y hp.1 args w (hca _ (Nat.eq_of_beq_eq_true hx));rw[aYu hp.1,←aLR]at this;exact this
   ·cases hg;have:=xW aOy (by decide) y hp.1 args w (hca _ (Nat.eq_of_beq_eq_true h6));rw[aYv hp.1,←aCZ]at this;exact this
  ·cases hg
 ·cases hg
def Si:Tab:=((Yq.add 57 (g0 (.one (.fl [.f s6F])))).add 58 (g0 (.one (.fl [.f sdF])))).add 56 aQE
theorem Ih:TabOk prog Si:=((Ag.ad func57 (lO fun w=>aI aG Ag aO func57 Mg trivial (args:=[]) trivial)).ad func58 (lO fun w=>aI aG Ag aO func58 aAK trivial (args:=[]) trivial)).ad func56 aKl
theorem Uo (x a:aV) (k:Nat):bP prog Si qN (fun _=>true) f60 60 [.v (.fl (aQ x)),.s (aQ a) 1 k]=some ([],.one (.fl (aQ (aD.mul (hJ (lL x)) (hJ (lL a)))))):=by kernel_rfl
theorem Um (x a b c:aV) (k:Nat):bP prog Si qN (fun _=>true) f60 60 [.v (.fl (aQ x)),.s (aQ a++(aQ b++aQ c)) 3 k]=some ([],.one (.fl (aQ (aD.mul (hJ (lL (aD.mul (hJ (lL (aD.mul (hJ (lL x)) (hJ (lL a))))) (hJ (lL b))))) (hJ (lL c)))))):=by kernel_rfl
def Mo:Nat→List At→Option (List aV)
 | 0,_=>some []
 | n+1,l=>match tk l 48,dp l 48 with
  | some a,some r=>(match qO a,Mo n r with|some x,some xs=>some (x::xs)|_,_=>none)
  | _,_=>none
def SH:kI
 | [.v (.fl l),.s m n k]=>match qO l,Mo n m with
  | some x,some [a]=>some ([],.one (.fl (aQ (aD.mul x a))))
  | some x,some [a,b,c]=>some ([],.one (.fl (aQ (aD.mul (aD.mul (aD.mul x a) b) c))))
  | _,_=>none
 | _=>none
theorem vY:∀{n:Nat} {l:List At} {xs:List aV},Mo n l=some xs→xs.length=n∧∃r,aA l=aA (xs.flatMap aQ)++r
 | 0,l,xs,h=>by cases h; exact⟨rfl,aA l,rfl⟩
 | n+1,l,xs,h=>by
  unfold Mo at h;split at h
  ·rename_i a r ht hd;split at h
   ·rename_i x xs' hx hr;cases h;obtain⟨h1,r',h2⟩:=vY hr;obtain⟨r2,e1,s1⟩:=tV _ _ _ ht;obtain⟨p,e2,s2⟩:=uK _ _ _ hd;obtain⟨h3,h4⟩:=tG (e1.symm.trans e2) (s1.trans s2.symm);refine⟨by rw[List.length_cons,h1],r',?_⟩;rw[e1,aP,h4,h2,eW a _ hx,List.flatMap_cons,aP,List.append_assoc]
   ·cases h
  ·cases h
theorem aWW {w:World} {l m m':List At} {x:aV} {n k:Nat} {r:List Value} (hl:aA l=aA (aQ x)) (hm:aA m=aA m'++r) {args:List Value} (ha:bU w [.v (.fl l),.s m n k] args):bU w [.v (.fl (aQ x)),.s m' n k] args:=by
 match args,ha with
 | [u,s],ha =>
  refine⟨by show u=.agg (aA (aQ x)).toArray; rw[←hl]; exact ha.1,?_,trivial⟩;obtain⟨b,o,e,hb,hr⟩:=ha.2.1;refine⟨b,o,e,hb,fun j v hj=>hr j v ?_⟩;rw[hm,List.getElem?_append_left (List.getElem?_eq_some_iff.1 hj).1];exact hj
 | [],ha=>exact ha.elim
 | [_],ha=>exact ha.2.elim
 | _::_::_::_,ha=>exact ha.2.2.elim
theorem Jn:∀cs pre r,SH cs=some (pre,r)→aZ pre→∀(args:List Value) (w:World),bU w cs args→Good prog 60 r args w:=by
 intro cs pre r hg hp args w ha;unfold SH at hg;split at hg
 ·rename_i l m n k;split at hg
  ·rename_i x a hx hm;cases hg;obtain⟨h1,r',h2⟩:=vY hm;have hn:n=1:=h1.symm;subst hn;have h:=aI aG Ih aO func60 (Uo x a k) trivial (args:=args) (w:=w) (aWW (r:=r') (eW l _ hx) (by rw[h2]; simp[List.flatMap]) ha);rw[fR,fR]at h;exact h
  ·rename_i x a b c hx hm;cases hg;obtain⟨h1,r',h2⟩:=vY hm;have hn:n=3:=h1.symm;subst hn;have h:=aI aG Ih aO func60 (Um x a b c k) trivial (args:=args) (w:=w) (aWW (r:=r') (eW l _ hx) (by rw[h2]; simp[List.flatMap]) ha);rw[fR x,fR a,fR b,fR c,fR,fR]at h;exact h
  ·cases hg
 ·cases hg
def aSC:Tab:=Si.add 60 SH
theorem yH:TabOk prog aSC:=Ih.ad func60 Jn
def hXr (y:aV):aV:=aD.mul (aD.mul (aD.mul (fK (bY 3).toNat y) (fK (bY 2).toNat (aD.mul y (Di y)))) (fK (bY 1).toNat (aD.mul y (cO (hG y))))) (cO (hR y))
theorem aQx (y:aV):hXr y=hX y:=by
 unfold hXr hX;rw[show (bY 3).toNat=3 by decide,show (bY 2).toNat=2 by decide,show (bY 1).toNat=1 by decide]
def cPd:Nat→Cfg:=fun _=>⟨fun _=>aSC,fun _=>true,fun _=>none⟩
def gN:Code:=(f27.body).getD .skip
theorem aVU (y:aV):bE prog qN f27.ntmps cPd 40 (cA gN) (nU 0 [.v (.fl (aQ y))]) [.slot 1 (.pt 1 0),.row 1 true (aQ y),.slot 2 (.pt 2 0),.row 2 true (aQ aD.zero)]=some ([],.nrm,[.slot 1 (.pt 1 0),.row 1 true (aQ y),.slot 2 (.pt 2 0),.row 2 true (aQ aD.zero)]):=by kernel_rfl
theorem aVT (y:aV):bE prog qN f27.ntmps cPd 40 (cA (cB gN)) [.slot 1 (.pt 1 0),.row 1 true (aQ y),.slot 2 (.pt 2 0),.row 2 true (aQ aD.zero)] [.slot 3 (.pt 3 0),.row 3 true (aQ (o6 y)),.slot 1 (.pt 1 0),.row 1 true (aQ y),.slot 2 (.pt 2 0),.row 2 true (aQ aD.zero)]=some ([tD y],.nrm,[.slot 3 (.pt 3 0),.row 3 true (aQ (o6 y)),.slot 1 (.pt 1 0),.row 1 true (aQ y),.slot 2 (.pt 2 0),.row 2 true (aQ aD.zero)]):=by kernel_rfl
theorem aVS (y s:aV):bE prog qN f27.ntmps cPd 40 (cA (cB (cB gN))) [.slot 3 (.pt 3 0),.row 3 true (aQ s),.slot 1 (.pt 1 0),.row 1 true (aQ y),.slot 2 (.pt 2 0),.row 2 true (aQ aD.zero)] [.slot 4 (.pt 4 0),.row 4 true (aQ (ox s)),.slot 3 (.pt 3 0),.row 3 true (aQ s),.slot 1 (.pt 1 0),.row 1 true (aQ y),.slot 2 (.pt 2 0),.row 2 true (aQ aD.zero)]=some ([tD s],.nrm,[.slot 4 (.pt 4 0),.row 4 true (aQ (ox s)),.slot 3 (.pt 3 0),.row 3 true (aQ s),.slot 1 (.pt 1 0),.row 1 true (aQ y),.slot 2 (.pt 2 0),.row 2 true (aQ aD.zero)]):=by kernel_rfl
theorem aVR (y s q:aV):bE prog qN f27.ntmps cPd 40 (cA (cB (cB (cB gN)))) [.slot 4 (.pt 4 0),.row 4 true (aQ q),.slot 3 (.pt 3 0),.row 3 true (aQ s),.slot 1 (.pt 1 0),.row 1 true (aQ y),.slot 2 (.pt 2 0),.row 2 true (aQ aD.zero)] [.slot 5 (.pt 5 0),.row 5 true (aQ (o6 q)),.slot 4 (.pt 4 0),.row 4 true (aQ q),.slot 3 (.pt 3 0),.row 3 true (aQ s),.slot 1 (.pt 1 0),.row 1 true (aQ y),.slot 2 (.pt 2 0),.row 2 true (aQ aD.zero)]=some ([tD q],.nrm,[.slot 5 (.pt 5 0),.row 5 true (aQ (o6 q)),.slot 4 (.pt 4 0),.row 4 true (aQ q),.slot 3 (.pt 3 0),.row 3 true (aQ s),.slot 1 (.pt 1 0),.row 1 true (aQ y),.slot 2 (.pt 2 0),.row 2 true (aQ aD.zero)]):=by kernel_rfl
theorem aVQ (y s q c:aV):bE prog qN f27.ntmps cPd 40 (cA (cB (cB (cB (cB gN))))) [.slot 5 (.pt 5 0),.row 5 true (aQ c),.slot 4 (.pt 4 0),.row 4 true (aQ q),.slot 3 (.pt 3 0),.row 3 true (aQ s),.slot 1 (.pt 1 0),.row 1 true (aQ y),.slot 2 (.pt 2 0),.row 2 true (aQ aD.zero)] [.slot 6 (.pt 6 0),.row 6 true (aQ (aD.mul q q)),.slot 5 (.pt 5 0),.row 5 true (aQ c),.slot 4 (.pt 4 0),.row 4 true (aQ q),.slot 3 (.pt 3 0),.row 3 true (aQ s),.slot 1 (.pt 1 0),.row 1 true (aQ y),.slot 2 (.pt 2 0),.row 2 true (aQ aD.zero)]=some ([tD q],.nrm,[.slot 6 (.pt 6 0),.row 6 true (aQ (aD.mul q q)),.slot 5 (.pt 5 0),.row 5 true (aQ c),.slot 4 (.pt 4 0),.row 4 true (aQ q),.slot 3 (.pt 3 0),.row 3 true (aQ s),.slot 1 (.pt 1 0),.row 1 true (aQ y),.slot 2 (.pt 2 0),.row 2 true (aQ aD.zero)]):=by kernel_rfl
theorem aVP (y s q c t:aV):bE prog qN f27.ntmps cPd 40 (cA (cB (cB (cB (cB (cB gN)))))) [.slot 6 (.pt 6 0),.row 6 true (aQ t),.slot 5 (.pt 5 0),.row 5 true (aQ c),.slot 4 (.pt 4 0),.row 4 true (aQ q),.slot 3 (.pt 3 0),.row 3 true (aQ s),.slot 1 (.pt 1 0),.row 1 true (aQ y),.slot 2 (.pt 2 0),.row 2 true (aQ aD.zero)] [.slot 7 (.pt 7 0),.row 7 true (aQ (aD.mul (aD.mul (aD.mul c q) t) (aD.mul s s))),.slot 6 (.pt 6 0),.row 6 true (aQ t),.slot 5 (.pt 5 0),.row 5 true (aQ c),.slot 4 (.pt 4 0),.row 4 true (aQ q),.slot 3 (.pt 3 0),.row 3 true (aQ s),.slot 1 (.pt 1 0),.row 1 true (aQ y),.slot 2 (.pt 2 0),.row 2 true (aQ aD.zero)]=some ([tD s],.nrm,[.slot 7 (.pt 7 0),.row 7 true (aQ (aD.mul (aD.mul (aD.mul c q) t) (aD.mul s s))),.slot 6 (.pt 6 0),.row 6 true (aQ t),.slot 5 (.pt 5 0),.row 5 true (aQ c),.slot 4 (.pt 4 0),.row 4 true (aQ q),.slot 3 (.pt 3 0),.row 3 true (aQ s),.slot 1 (.pt 1 0),.row 1 true (aQ y),.slot 2 (.pt 2 0),.row 2 true (aQ aD.zero)]):=by kernel_rfl
theorem aVO (y s q c t g:aV):bE prog qN f27.ntmps cPd 40 (cA (cB (cB (cB (cB (cB (cB gN))))))) [.slot 7 (.pt 7 0),.row 7 true (aQ g),.slot 6 (.pt 6 0),.row 6 true (aQ t),.slot 5 (.pt 5 0),.row 5 true (aQ c),.slot 4 (.pt 4 0),.row 4 true (aQ q),.slot 3 (.pt 3 0),.row 3 true (aQ s),.slot 1 (.pt 1 0),.row 1 true (aQ y),.slot 2 (.pt 2 0),.row 2 true (aQ aD.zero)] [.slot 8 (.pt 8 0),.row 8 true (aQ (aD.mul (aD.mul (aD.mul g t) s) (aD.mul y y))),.slot 7 (.pt 7 0),.row 7 true (aQ g),.slot 6 (.pt 6 0),.row 6 true (aQ t),.slot 5 (.pt 5 0),.row 5 true (aQ c),.slot 4 (.pt 4 0),.row 4 true (aQ q),.slot 3 (.pt 3 0),.row 3 true (aQ s),.slot 1 (.pt 1 0),.row 1 true (aQ y),.slot 2 (.pt 2 0),.row 2 true (aQ aD.zero)]=some ([tD y],.nrm,[.slot 8 (.pt 8 0),.row 8 true (aQ (aD.mul (aD.mul (aD.mul g t) s) (aD.mul y y))),.slot 7 (.pt 7 0),.row 7 true (aQ g),.slot 6 (.pt 6 0),.row 6 true (aQ t),.slot 5 (.pt 5 0),.row 5 true (aQ c),.slot 4 (.pt 4 0),.row 4 true (aQ q),.slot 3 (.pt 3 0),.row 3 true (aQ s),.slot 1 (.pt 1 0),.row 1 true (aQ y),.slot 2 (.pt 2 0),.row 2 true (aQ aD.zero)]):=by kernel_rfl
theorem aVN (y s q c t g h:aV):bE prog qN f27.ntmps cPd 40 (cB (cB (cB (cB (cB (cB (cB gN))))))) [.slot 8 (.pt 8 0),.row 8 true (aQ h),.slot 7 (.pt 7 0),.row 7 true (aQ g),.slot 6 (.pt 6 0),.row 6 true (aQ t),.slot 5 (.pt 5 0),.row 5 true (aQ c),.slot 4 (.pt 4 0),.row 4 true (aQ q),.slot 3 (.pt 3 0),.row 3 true (aQ s),.slot 1 (.pt 1 0),.row 1 true (aQ y),.slot 2 (.pt 2 0),.row 2 true (aQ aD.zero)] [.slot 2 (.pt 2 0),.row 2 true (aQ (aD.mul (aD.mul (aD.mul (fK (bY 3).toNat y) (fK (bY 2).toNat (aD.mul y q))) (fK (bY 1).toNat (aD.mul y (cO g)))) (cO h)))]=some ([],.rt,[.slot 2 (.pt 2 0),.row 2 true (aQ (aD.mul (aD.mul (aD.mul (fK (bY 3).toNat y) (fK (bY 2).toNat (aD.mul y q))) (fK (bY 1).toNat (aD.mul y (cO g)))) (cO h)))]):=by kernel_rfl
theorem aKi:gN=.seq (cA gN) (.seq (cA (cB gN)) (.seq (cA (cB (cB gN))) (.seq (cA (cB (cB (cB gN)))) (.seq (cA (cB (cB (cB (cB gN))))) (.seq (cA (cB (cB (cB (cB (cB gN)))))) (.seq (cA (cB (cB (cB (cB (cB (cB gN))))))) ((cB (cB (cB (cB (cB (cB (cB gN)))))))))))))):=by kernel_rfl
theorem Jm (y:aV) (hy:tD y) (args:List Value) (w:World) (ha:bU w [.v (.fl (aQ y))] args):Good prog 27 (.one (.fl (aQ (hX y)))) args w:=by
 have h6:tD (uT y):=SC hy _;have h2:tD (Di y):=SC h6 _;refine fT func27 (c:=gN) rfl ha (Nat.le_of_ble_eq_true (by kernel_rfl)) fun a w' hA => ?_
 rw[aKi];refine wp_seq (bO aG (fun _ _=>yH) aO (aVU y) trivial hA fun a w' hA => ?_);refine wp_seq (bO aG (fun _ _=>yH) aO (aVT y) ⟨hy,trivial⟩ hA fun a w' hA => ?_);rw[show o6 y=uT y from aCZ y]at hA;refine wp_seq (bO aG (fun _ _=>yH) aO (aVS y (uT y)) ⟨h6,trivial⟩ hA fun a w' hA => ?_);rw[show ox (uT y)=Di y from aLR _]at hA;refine wp_seq (bO aG (fun _ _=>yH) aO (aVR y (uT y) (Di y)) ⟨h2,trivial⟩ hA fun a w' hA => ?_);rw[show o6 (Di y)=hCu y from aCZ _]at hA;refine wp_seq (bO aG (fun _ _=>yH) aO (aVQ y (uT y) (Di y) (hCu y)) ⟨h2,trivial⟩ hA fun a w' hA => ?_);refine wp_seq (bO aG (fun _ _=>yH) aO (aVP y (uT y) (Di y) (hCu y) (hT y)) ⟨h6,trivial⟩ hA fun a w' hA => ?_);refine wp_seq (bO aG (fun _ _=>yH) aO (aVO y (uT y) (Di y) (hCu y) (hT y) (hG y)) ⟨hy,trivial⟩ hA fun a w' hA => ?_);have h:=aVN y (uT y) (Di y) (hCu y) (hT y) (hG y) (hR y);refine bO aG (fun _ _=>yH) aO h trivial hA fun a w' hA => ?_
 rw[←aQx];exact gZ (l:=[.fl (aQ (hXr y))]) (by kernel_rfl) (by kernel_rfl) hA
def aSD:Tab:=aSC.add 27 (g1 qO fun y=>([tD y],.one (.fl (aQ (hX y)))))
theorem aLX:TabOk prog aSD:=yH.ad func27 (bJ eW fun y hp args w ha=>Jm y hp.1 args w ha)
def eZr (a:aV):aV:=aD.mul (hJ (lL (fK (bY 2).toNat (aD.mul (hJ (lL (cO a))) (hJ (lL (mE a))))))) (hJ (lL (aD.mul (hJ (lL (cO a))) (hJ (lL (mE a))))))
theorem aEX (a:aV):eZr a=eZ a:=by
 unfold eZr eZ;rw[fR,fR,fR,fR,aVL]
theorem aAZ (x:vJ):bP prog aSD qN (fun _=>true) f14 60 [.v (.fl (vZ x))]=some ([wH (hJ x)≠F1.zero,tD (eZr (hJ x))],.one (.fl (aQ (hX (eZr (hJ x)))))):=by kernel_rfl
def aXi:Tab:=aSD.add 14 (g1 Hk fun x=>([wH (hJ x)≠F1.zero],.one (.fl (aQ (mC (hJ x))))))
theorem aVa:TabOk prog aXi:=aLX.ad func14 (bJ xR fun x hp args w ha=>by
 have h:=aI aG aLX aO func14 (aAZ x) ⟨hp.1,by rw[aEX]; exact aMK hp.1,trivial⟩ (args:=args) (w:=w) ha;rw[aEX]at h;exact h)
def Pj:Nat:=29793968203157093288
def LT:List Int:=[0,0,0,1,0,1,0,-1,0,0,-1,0,0,0,1,0,0,-1,0,-1,0,0,0,1,0,-1,0,0,0,0,-1,0,0,1,0,-1,0,0,1,0,0,0,0,0,-1,0,0,-1,0,1,0,-1,0,0,0,-1,0,-1,0,0,0,1,0,-1,0,1]
theorem aHG:aU prog (qG prog) cSg f28 300 [.v (.fl (q1 Pj))]=some ([wv Pj+wv Pj<115792089237316195423570985008687907853269984665640564039457584007913129639936,wv (wv Pj+wv Pj)+wv Pj<115792089237316195423570985008687907853269984665640564039457584007913129639936],.one (.fl (dA LT))):=by kernel_rfl
theorem aOx:Yt Pj LT:=fun args w ha=>aB aG (fun _ _=>Np) (aJ _) func28 aHG ⟨by decide +kernel,by decide +kernel,trivial⟩ ha
def aNl:Tab:=aSA.add 57 (g0 (.one (.fl [.f s6F])))
theorem aPG:TabOk prog aNl:=Np.ad func57 (lO fun w=>aI aG Ag aO func57 Mg trivial (args:=[]) trivial)
theorem aOD:aU prog (qG prog) (fun _=>⟨fun _=>aNl,fun _=>true,fun _=>none⟩) f29 60 []=some ([wv s6F.1+wv 2<115792089237316195423570985008687907853269984665640564039457584007913129639936],.one (.fl (q1 (wv s6F.1+wv 2)))):=by kernel_rfl
theorem aVq:wv s6F.1+wv 2=Pj:=by decide +kernel
def aNf:Tab:=Yp.add 29 (g0 (.one (.fl (q1 Pj))))
theorem aPA:TabOk prog aNf:=Ab.ad func29 (lO fun w=>by
 have h:=aB aG (fun _ _=>aPG) (aJ _) func29 aOD ⟨by decide +kernel,trivial⟩ (args:=[]) (w:=w) trivial;rw[aVq]at h;exact h)
def tP:Tab:=aNf.add 28 (gSg Pj LT)
theorem aQD {N:Nat} {D:List Int} (h:Yt N D):∀cs pre r,gSg N D cs=some (pre,r)→aZ pre→∀(args:List Value) (w:World),bU w cs args→Good prog 28 r args w:=by
 intro cs pre r hg hp args w ha;unfold gSg at hg;split at hg
 ·rename_i l;split at hg
  ·rename_i n hn;cases hg;obtain⟨rfl,_⟩:=hp;refine h args w ?_
   match args,ha with
   | [v],ha =>
    refine⟨?_,trivial⟩;show v=.agg (aA (q1 n)).toArray;rw[←gD l n hn];exact ha.1
   | [],ha=>exact ha.elim
   | _::_::_,ha=>exact ha.2.elim
  ·cases hg
 ·cases hg
theorem mK:TabOk prog tP:=aPA.ad func28 (aQD aOx)
def oR:Code:=(f15.body).getD .skip
def uR:Nat:=f15.ntmps
def lp3:Code:=cA (cB (cB (cB oR)))
def lp4:Code:=cB (cB (cB (cB oR)))
def lpO:Code:=vG (vG (cB lp3))
def lpX:Code:=vG (cA (cB lpO))
def lpI:Code:=vG (vG (cB (cB lpX)))
def lpE:Code:=vG (vG (cB (cA lp4)))
theorem aJR:oR=.seq (cA oR) (.seq (cA (cB oR)) (.seq (cA (cB (cB oR))) (.seq (.seq (cA lp3) (.block 0 (.loop lpO))) (.seq (.seq (cA (cA lp4)) (.block 4 (.loop lpE))) (cB lp4))))):=by kernel_rfl
theorem Be:lpO=.seq (cA lpO) (.seq (.block 1 (.seq (cA lpX) (.seq (cA (cB lpX)) (.block 2 (.loop lpI))))) (cB (cB lpO))):=by kernel_rfl
def cL (l:List (Nat×Value)):Nat→Cfg:=fun _=>⟨fun _=>tP,fun _=>true,assoc l⟩
theorem nR (l:List (Nat×Value)) (base:Nat) (w0:World):∀n d,TabOkW prog ((cL l n).T d) base w0:=fun _ _=>mK.w _ _
def q0:EqT:=qPt prog (CZ []) (CZ []) Lm
theorem gV (base:Nat) (w0:World):dC prog q0 base w0:=oP (eV _) _ _
def lA0 (b N n m:Nat) (l:List At):List Fact:=[.slot 0 (.sl 0 0 n m),.row 0 true l,.at 0 b,.at uR N,.slot 2 (.pt 2 0),.row 2 true (aQ aD.zero)]
def lA1 (b N n m:Nat) (l:List At) (f:aV):List Fact:=[.slot 0 (.sl 0 0 n m),.row 0 true l,.at 0 b,.at uR N,.slot 2 (.pt 2 0),.row 2 true (aQ aD.zero),.slot 3 (.pt 3 0),.row 3 true (aQ f)]
def lA2 (b N n m:Nat) (l:List At) (f:aV):List Fact:=[.slot 0 (.sl 0 0 n m),.row 0 true l,.at 0 b,.at uR N,.slot 2 (.pt 2 0),.row 2 true (aQ aD.zero),.slot 3 (.pt 3 0),.row 3 true (aQ f),.slot 4 (.pt 4 0),.row 4 true (dA LT)]
def lA (b N n m:Nat) (l:List At) (f:aV) (k:Int):List Fact:=[.slot 0 (.sl 0 0 n m),.row 0 true l,.at 0 b,.at uR N,.slot 2 (.pt 2 0),.row 2 true (aQ aD.zero),.slot 3 (.pt 3 0),.row 3 true (aQ f),.slot 4 (.pt 4 0),.row 4 true (dA LT),.slot 5 (.im (.int .i64 k))]
def lB (b N n m:Nat) (l:List At) (f:aV) (k:Int) (j:Nat):List Fact:=[.slot 0 (.sl 0 0 n m),.row 0 true l,.at 0 b,.at uR N,.slot 2 (.pt 2 0),.row 2 true (aQ aD.zero),.slot 3 (.pt 3 0),.row 3 true (aQ f),.slot 4 (.pt 4 0),.row 4 true (dA LT),.slot 5 (.im (.int .i64 k)),.slot 18 (.im (iI n)),.slot 19 (.im (iI j))]
theorem aZl (b N n m:Nat) (l:List At):bE prog q0 uR (cL []) 40 (cA oR) (Kj uR b N (.sl 0 0 n m) l []) (lA0 b N n m l)=some ([],.nrm,lA0 b N n m l):=by kernel_rfl
theorem aZk (b N n m:Nat) (l:List At):bE prog q0 uR (cL []) 40 (cA (cB oR)) (lA0 b N n m l) (lA1 b N n m l aD.one)=some ([],.nrm,lA1 b N n m l aD.one):=by kernel_rfl
theorem aZj (b N n m:Nat) (l:List At) (f:aV):bE prog q0 uR (cL []) 40 (cA (cB (cB oR))) (lA1 b N n m l f) (lA2 b N n m l f)=some ([Pj=Pj],.nrm,lA2 b N n m l f):=by kernel_rfl
theorem aZi (b N n m:Nat) (l:List At) (f:aV):bE prog q0 uR (cL []) 40 (cA lp3) (lA2 b N n m l f) (lA b N n m l f 64)=some ([],.nrm,lA b N n m l f 64):=by kernel_rfl
theorem l_c (b N n m:Nat) (l:List At) (f:aV) (k:Int):bE prog q0 uR (cL [(12,.bool true)]) 40 (cA lpO) (lA b N n m l f k) (lA b N n m l f k)=some ([aH .geq .i64 k 0=some (.bool true)],.nrm,lA b N n m l f k):=by kernel_rfl
theorem l_x (b N n m:Nat) (l:List At) (f:aV) (k:Int):bE prog q0 uR (cL [(12,.bool false)]) 40 (cA lpO) (lA b N n m l f k) (lA2 b N n m l f)=some ([aH .geq .i64 k 0=some (.bool false)],.ex 0,lA2 b N n m l f):=by kernel_rfl
theorem aZh (b N n m:Nat) (l:List At) (f:aV) (k:Int):bE prog q0 uR (cL []) 40 (cA lpX) (lA b N n m l f k) (lA b N n m l (aD.mul f f) k)=some ([],.nrm,lA b N n m l (aD.mul f f) k):=by kernel_rfl
theorem aZm (b N n m:Nat) (l:List At) (f:aV) (k:Int):bE prog q0 uR (cL []) 40 (cA (cB lpX)) (lA b N n m l f k) (lB b N n m l f k 0)=some ([],.nrm,lB b N n m l f k 0):=by kernel_rfl
theorem aZn (b N n m:Nat) (l:List At) (f:aV) (k k':Int):bE prog q0 uR (cL [(14,.int .i64 k')]) 40 (cB (cB lpO)) (lA b N n m l f k) (lA b N n m l f k')=some ([aH .sub .i64 k 1=some (.int .i64 k')],.nrm,lA b N n m l f k'):=by kernel_rfl
theorem aZp (b N n m:Nat) (l:List At) (f:aV) (k:Int) (j:Nat):bE prog q0 uR (cL [(20,.bool false)]) 40 lpI (lB b N n m l f k j) (lA b N n m l f k)=some ([aH .lss .i64 (Int.ofNat j) (Int.ofNat n)=some (.bool false)],.ex 2,lA b N n m l f k):=by kernel_rfl
def T5i (l l1:List At) (j:Nat) (f g:aV) (d:Int):Tab5:=Lm.add 31 (pe2 l (50*j) (oZ f) (.int .i64 d) (.one (.fl (oZ g))) l1)
def qI (l l1:List At) (j kk:Nat) (f g:aV) (d:Int):EqT:=qPx prog (CZ []) (CZ []) (assoc [(24,j),(28,kk)]) (assoc [(29,.int .i64 d)]) (T5i l l1 j f g d)
section
variable {R A Q S:Type} (K:CR R) (lfG:A→Q→Int→S→R) (npG:Q→Int→S→S) (ewG:A→Q→S→R)
theorem IN (d:Int):∀(a b:List (A×Q×S)) (f:R),jW K lfG d f (a++b)=jW K lfG d (jW K lfG d f a) b
 | [],b,f=>rfl
 | W::a,b,f=>IN d a b _
theorem OF:∀(a b:List (A×Q×S)) (f:R),mM K ewG f (a++b)=mM K ewG (mM K ewG f a) b
 | [],b,f=>rfl
 | W::a,b,f=>OF a b _
theorem YH:∀(a b:List Int) (s:R×List (A×Q×S)),mQ K lfG npG (a++b) s=mQ K lfG npG b (mQ K lfG npG a s)
 | [],b,s=>rfl
 | d::a,b,s=>YH a b _
theorem nS {α:Type} {l:List α} {j:Nat} {x:α} (h:l[j]?=some x):∃a b,l=a++x::b∧a.length=j∧l.take j=a∧l.drop j=x::b∧l.take (j+1)=a++[x]∧l.drop (j+1)=b:=by
 obtain⟨hlt,he⟩:=List.getElem?_eq_some_iff.1 h;refine⟨l.take j,l.drop (j+1),by rw[←he,List.getElem_cons_drop hlt,List.take_append_drop],by rw[List.length_take]; omega,rfl,by rw[←he,List.getElem_cons_drop hlt],by rw[List.take_add_one,h]; rfl,rfl⟩
theorem Ix {d:Int} {f:R} {Ws:List (A×Q×S)} {j:Nat} {W:A×Q×S} (h:Ws[j]?=some W):jW K lfG d f (Ws.take (j+1))=K.mul (jW K lfG d f (Ws.take j)) (lfG W.1 W.2.1 d W.2.2):=by
 obtain⟨a,b,_,_,h1,_,h2,_⟩:=nS h;rw[h1,h2,IN];rfl
theorem Ya {f:R} {Ws:List (A×Q×S)} {j:Nat} {W:A×Q×S} (h:Ws[j]?=some W):mM K ewG f (Ws.take (j+1))=K.mul (mM K ewG f (Ws.take j)) (ewG W.1 W.2.1 W.2.2):=by
 obtain⟨a,b,_,_,h1,_,h2,_⟩:=nS h;rw[h1,h2,OF];rfl
theorem aBh (p:Q→Prop):∀(ds:List Int) (s:R×List (A×Q×S)),(∀W∈s.2,p W.2.1)→∀W∈(mQ K lfG npG ds s).2,p W.2.1
 | [],s,h=>h
 | d::ds,s,h=>aBh p ds _ fun W hW=>by
  obtain⟨V,hV,rfl⟩:=List.mem_map.1 hW;exact h V hV
theorem FZ:∀(ds:List Int) (s:R×List (A×Q×S)),(mQ K lfG npG ds s).2.length=s.2.length
 | [],s=>rfl
 | d::ds,s=>by
  show (mQ K lfG npG ds _).2.length=_;rw[FZ ds];exact List.length_map _
end
def IM {α:Type} (g:α→α) (l:List α) (j:Nat):List α:=(l.take j).map g++l.drop j
theorem Pe {α:Type} (g:α→α) {l:List α} {j:Nat} {x:α} (h:l[j]?=some x):(IM g l j)[j]?=some x:=by
 obtain⟨a,b,_,h0,h1,h2,_⟩:=nS h;unfold IM;rw[h1,h2,List.getElem?_append_right (by rw[List.length_map,h0]; exact Nat.le_refl _),List.length_map,h0,Nat.sub_self];rfl
theorem Pd {α:Type} (g:α→α) {l:List α} {j:Nat} {x:α} (h:l[j]?=some x):(IM g l j).set j (g x)=IM g l (j+1):=by
 obtain⟨a,b,_,h0,h1,h2,h3,h4⟩:=nS h;unfold IM;rw[h1,h2,h3,h4,←h0];simp
theorem aMo {α:Type} (g:α→α) (l:List α):IM g l 0=l:=by simp[IM]
theorem Pf {α:Type} (g:α→α) (l:List α):IM g l l.length=l.map g:=by simp[IM]
theorem aZo (b N n m j kk:Nat) (l l1:List At) (f g:aV) (k d:Int):bE prog (qI l l1 j kk f g d) uR (cL [(20,.bool true),(32,iI (j+1))]) 40 lpI (lB b N n m l f k j) (lB b N n m l1 g k (j+1)) =
  some ([aH .lss .i64 (Int.ofNat j) (Int.ofNat n)=some (.bool true),Int.ofNat j=Int.ofNat j,j<n,k=Int.ofNat kk,kk<66,cellAt (dA LT) (0+kk*1)=some (.int .i64 d),l=l,0+j*50=50*j,aA (oZ f)=aA (oZ f),Value.int .i64 d=.int .i64 d,aH .add .i64 (Int.ofNat j) 1=some (iI (j+1))],.nrm,lB b N n m l1 g k (j+1)):=by kernel_rfl
def lE (b N n m:Nat) (l:List At) (f:aV) (j:Nat):List Fact:=[.slot 0 (.sl 0 0 n m),.row 0 true l,.at 0 b,.at uR N,.slot 2 (.pt 2 0),.row 2 true (aQ aD.zero),.slot 3 (.pt 3 0),.row 3 true (aQ f),.slot 4 (.pt 4 0),.row 4 true (dA LT),.slot 34 (.im (iI n)),.slot 35 (.im (iI j))]
def lF (b N:Nat) (l:List At) (f:aV):List Fact:=[.slot 2 (.pt 2 0),.row 2 true (aQ f),.row 0 true l,.at 0 b,.at uR N]
theorem aVs (b N n m:Nat) (l:List At) (f:aV):bE prog q0 uR (cL []) 40 (cA (cA lp4)) (lA2 b N n m l f) (lE b N n m l f 0)=some ([],.nrm,lE b N n m l f 0):=by kernel_rfl
theorem aZr (b N n m:Nat) (l:List At) (f:aV) (j:Nat):bE prog q0 uR (cL [(36,.bool false)]) 40 lpE (lE b N n m l f j) (lA2 b N n m l f)=some ([aH .lss .i64 (Int.ofNat j) (Int.ofNat n)=some (.bool false)],.ex 4,lA2 b N n m l f):=by kernel_rfl
def T5f (l l1:List At) (j:Nat) (f g:aV):Tab5:=Lm.add 34 (pe1 l (50*j) (oZ f) (.one (.fl (oZ g))) l1)
def qE (l l1:List At) (j:Nat) (f g:aV):EqT:=qPx prog (CZ []) (CZ []) (assoc [(40,j)]) (assoc []) (T5f l l1 j f g)
theorem aZq (b N n m j:Nat) (l l1:List At) (f g:aV):bE prog (qE l l1 j f g) uR (cL [(36,.bool true),(45,iI (j+1))]) 40 lpE (lE b N n m l f j) (lE b N n m l1 g (j+1)) =
  some ([aH .lss .i64 (Int.ofNat j) (Int.ofNat n)=some (.bool true),Int.ofNat j=Int.ofNat j,j<n,l=l,0+j*50=50*j,aA (oZ f)=aA (oZ f),aH .add .i64 (Int.ofNat j) 1=some (iI (j+1))],.nrm,lE b N n m l1 g (j+1)):=by kernel_rfl
theorem aVt (b N n m:Nat) (l:List At) (f:aV):bE prog q0 uR (cL []) 40 (cB lp4) (lA2 b N n m l f) (lF b N l f)=some ([],.rt,lF b N l f):=by kernel_rfl
theorem aSF {Ws:List Wk} {j:Nat} {W:Wk} (h:Ws[j]?=some W) (f:aV) (d:Int) (hd:d=0∨d=1∨d = -1):PtOk prog (T5i (rows Ws) (rows (Ws.set j (stG np d W))) j f (aD.mul f (lf W.1 W.2.1 d W.2.2)) d) :=
 (eV _).ad func31 (aPg (Ea h f d hd))
theorem aSG {Ws:List Wk} {j:Nat} {a:Fq×Fq} {q:Q2×Q2} {p:J2} (h:Ws[j]?=some (a,q,p)) (f:aV) (hq:On F2 dE (some q)):PtOk prog (T5f (rows Ws) (rows (Ws.set j (enW (a,q,p)))) j f (aD.mul f (ew a q p))) :=
 (eV _).ad func34 (Id (Yb h f hq))
section
variable {N n m b:Nat} {w0:World} {Q:Exit→Act→World→Prop}
theorem aDU {Ws:List Wk} (hn:Ws.length=n) (hlt:n<4611686018427387904) {f:aV} {k d:Int} {kk:Nat} (hk:k=Int.ofNat kk) (hkk:kk<66) (hc:cellAt (dA LT) (0+kk*1)=some (.int .i64 d)) (hd:d=0∨d=1∨d = -1) {a:Act} {w:World}
  (h:Holds uR b w0 (lB b N n m (rows Ws) f k 0) a w) (hQ:∀a w,Holds uR b w0 (lA b N n m (rows (Ws.map (stG np d))) (jW aD lf d f Ws) k) a w→Q .normal a w):(Code.block 2 (.loop lpI)).wp prog Q a w:=by
 refine wp_block ?_;refine pU (fun j a w=>Holds uR b w0 (lB b N n m (rows (IM (stG np d) Ws j)) (jW aD lf d f (Ws.take j)) k j) a w) n (fun j hj a w hA R hR => ?_) (fun a w hA R => ?_) (by rw[aMo,List.take_zero]; exact h)
 ·obtain⟨W,hW⟩:∃W,Ws[j]?=some W:=⟨_,List.getElem?_eq_getElem (by omega)⟩
  have ht:=aSF (Pe (stG np d) hW) (jW aD lf d f (Ws.take j)) d hd;rw[Pd (stG np d) hW]at ht;rw[←Ix aD lf hW]at ht;refine aF aG (nR _ _ _) (jT ht _ _) (aZo b N n m j kk _ _ _ _ k d) ⟨cK hj,rfl,hj,hk,hkk,hc,rfl,by omega,rfl,rfl,pR (k:=1) (by omega),trivial⟩ hA fun a w hA=>hR a w hA
 ·refine aF aG (nR _ _ _) (gV _ _) (aZp b N n m _ _ k n) ⟨gQ (Nat.le_refl _),trivial⟩ hA fun a w hA => ?_
  subst hn;rw[Pf,List.take_length]at hA;exact hQ a w hA
theorem aKF {Ws:List Wk} (hn:Ws.length=n) (hlt:n<4611686018427387904) (hq:∀W∈Ws,On F2 dE (some W.2.1)) {f:aV} {a:Act} {w:World}
  (h:Holds uR b w0 (lE b N n m (rows Ws) f 0) a w) (hQ:∀a w,Holds uR b w0 (lA2 b N n m (rows (Ws.map enW)) (mM aD ew f Ws)) a w→Q .normal a w):(Code.block 4 (.loop lpE)).wp prog Q a w:=by
 refine wp_block ?_;refine pU (fun j a w=>Holds uR b w0 (lE b N n m (rows (IM enW Ws j)) (mM aD ew f (Ws.take j)) j) a w) n (fun j hj a w hA R hR => ?_) (fun a w hA R => ?_) (by rw[aMo,List.take_zero]; exact h)
 ·obtain⟨W,hW⟩:∃W,Ws[j]?=some W:=⟨_,List.getElem?_eq_getElem (by omega)⟩
  obtain⟨pa,pq,pp⟩:=W;have ht:=aSG (Pe enW hW) (mM aD ew f (Ws.take j)) (hq _ (List.mem_of_getElem? hW));rw[Pd enW hW]at ht;have e:=Ya aD ew (f:=f) hW;dsimp only at e;rw[←e]at ht;refine aF aG (nR _ _ _) (jT ht _ _) (aZq b N n m j _ _ _ _) ⟨cK hj,rfl,hj,rfl,by omega,rfl,pR (k:=1) (by omega),trivial⟩ hA fun a w hA=>hR a w hA
 ·refine aF aG (nR _ _ _) (gV _ _) (aZr b N n m _ _ n) ⟨gQ (Nat.le_refl _),trivial⟩ hA fun a w hA => ?_
  subst hn;rw[Pf,List.take_length]at hA;exact hQ a w hA
theorem aWG:(List.range 65).all (fun i=>decide (uU.take (i+1)=uU.take i++[dI LT (64-i)])&&decide (dI LT (64-i)=0∨dI LT (64-i)=1∨dI LT (64-i) = -1))=true:=by kernel_rfl
theorem aRy {i:Nat} (h:i<65):uU.take (i+1)=uU.take i++[dI LT (64-i)]∧(dI LT (64-i)=0∨dI LT (64-i)=1∨dI LT (64-i) = -1):=by
 have:=List.all_eq_true.1 aWG i (List.mem_range.2 h);rw[Bool.and_eq_true,decide_eq_true_eq,decide_eq_true_eq]at this;exact this
theorem aRw:uU.take 65=uU:=by kernel_rfl
theorem aMc (k:Int):aH .geq .i64 k 0=some (.bool (decide (k≥0))):=rfl
theorem aCf {Ws:List Wk} (hn:Ws.length=n) (hlt:n<4611686018427387904) {f:aV} {a:Act} {w:World}
  (h:Holds uR b w0 (lA b N n m (rows Ws) f 64) a w) (hQ:∀a w,Holds uR b w0 (lA2 b N n m (rows (mQ aD lf np uU (f,Ws)).2) (mQ aD lf np uU (f,Ws)).1) a w→Q .normal a w):(Code.block 0 (.loop lpO)).wp prog Q a w:=by
 refine wp_block ?_;refine pU (fun i a w=>Holds uR b w0 (lA b N n m (rows (mQ aD lf np (uU.take i) (f,Ws)).2) (mQ aD lf np (uU.take i) (f,Ws)).1 (64-(i:Int))) a w) 65 (fun i hi a w hA R hR => ?_) (fun a w hA R => ?_) (by rw[List.take_zero,show (64:Int)-((0:Nat):Int)=64 from rfl]; exact h)
 ·obtain⟨h1,h2⟩:=aRy hi;have hl:=FZ aD lf np (uU.take i) (f,Ws);rw[show mQ aD lf np (uU.take (i+1)) (f,Ws)=_ from (congrArg (fun x=>mQ aD lf np x (f,Ws)) h1).trans (YH aD lf np _ _ _)]at hR;generalize mQ aD lf np (uU.take i) (f,Ws)=s at hA hR hl;have hR:∀a w,Holds uR b w0 (lA b N n m (rows (s.2.map (stG np (dI LT (64-i))))) (jW aD lf (dI LT (64-i)) (aD.mul s.1 s.1) s.2) (64-((i+1:Nat):Int))) a w→R a w:=hR
  rw[Be];refine wp_seq (aF aG (nR _ _ _) (gV _ _) (l_c b N n m _ _ _) ⟨by rw[aMc,decide_eq_true (by omega)],trivial⟩ hA fun a w hA => ?_);refine wp_seq (wp_block (wp_seq (aF aG (nR _ _ _) (gV _ _) (aZh b N n m _ _ _) trivial hA fun a w hA => ?_)));refine wp_seq (aF aG (nR _ _ _) (gV _ _) (aZm b N n m _ _ _) trivial hA fun a w hA => ?_);refine aDU (kk:=64-i) (d:=dI LT (64-i)) (hl.trans hn) hlt (by show (64:Int)-(i:Int)=((64-i:Nat):Int); omega) (by omega) (by rw[Nat.zero_add,Nat.mul_one]; exact SU LT _ (by show _<66; omega)) h2 hA fun a w hA => ?_
  refine aF aG (nR _ _ _) (gV _ _) (aZn b N n m _ _ _ (64-((i+1:Nat):Int))) ⟨?_,trivial⟩ hA fun a w hA=>hR a w hA
  show some (Value.int .i64 (IntKind.i64.wrap ((64:Int)-(i:Int)-1)))=_;rw[show (64:Int)-(i:Int)-1=64-((i+1:Nat):Int) by omega,Xo _ (by omega) (by omega)]
 ·rw[Be];refine wp_seq (aF aG (nR _ _ _) (gV _ _) (l_x b N n m _ _ _) ⟨by rw[aMc,decide_eq_false (by omega)],trivial⟩ hA fun a w hA => ?_);rw[aRw]at hA;exact hQ a w hA
end
theorem Xi (l:List ((Fq×Fq)×(Q2×Q2))) (hlt:l.length<4611686018427387904) (hq:∀x∈l,On F2 dE (some x.2)) {b m:Nat} {w:World} (hO:Own w b (rows (l.map bW))) :
  ∃L,Calls prog 15 #[dG b 0 l.length m] w (Wr b w (.one (.fl (aQ (yO l)))) L):=by
 have hw:(l.map bW).length=l.length:=List.length_map _;have hqw:∀W∈l.map bW,On F2 dE (some W.2.1):=fun W hW=>by
  obtain⟨x,hx,rfl⟩:=List.mem_map.1 hW;exact hq x hx
 have hL:yO l=mM aD ew (mQ aD lf np uU (aD.one,l.map bW)).1 (mQ aD lf np uU (aD.one,l.map bW)).2:=by with_unfolding_all rfl
 have hqr:=aBh aD lf np (fun q=>On F2 dE (some q)) uU (aD.one,l.map bW) hqw;have hlr:=(FZ aD lf np uU (aD.one,l.map bW)).trans hw;rw[hL];clear hL;refine⟨rows ((mQ aD lf np uU (aD.one,l.map bW)).2.map enW),?_⟩;refine NX (x:=.sl 0 0 l.length m) (v:=dG b 0 l.length m) (ts:=[]) func15 (c:=oR) rfl (fun β h=>by simp[AV.den,dG,h]) hO (Nat.le_of_ble_eq_true (by kernel_rfl)) fun a w1 hA => ?_
 rw[aJR];refine wp_seq (aF aG (nR _ _ _) (gV _ _) (aZl b w.heap.size l.length m _) trivial hA fun a w2 hA => ?_);refine wp_seq (aF aG (nR _ _ _) (gV _ _) (aZk b w.heap.size l.length m _) trivial hA fun a w3 hA => ?_);refine wp_seq (aF aG (nR _ _ _) (gV _ _) (aZj b w.heap.size l.length m _ _) ⟨rfl,trivial⟩ hA fun a w4 hA => ?_);refine wp_seq (wp_seq (aF aG (nR _ _ _) (gV _ _) (aZi b w.heap.size l.length m _ _) trivial hA fun a w5 hA => ?_));refine aCf hw hlt hA fun a w6 hA => ?_
 generalize mQ aD lf np uU (aD.one,l.map bW)=s at hA hqr hlr ⊢;refine wp_seq (wp_seq (aF aG (nR _ _ _) (gV _ _) (aVs b w.heap.size l.length m _ _) trivial hA fun a w7 hA => ?_));refine aKF hlr hlt hqr hA fun a w8 hA => ?_
 refine aF aG (nR _ _ _) (gV _ _) (aVt b w.heap.size l.length m _ _) trivial hA fun a w9 hA => ?_
 exact pY (l:=[.fl (aQ (mM aD ew s.1 s.2))]) (r:=.one (.fl (aQ (mM aD ew s.1 s.2)))) (by kernel_rfl) (by kernel_rfl) hA ⟨rfl,hA.wrc (by simp[lF]) (by simp[lF]) (by simp[lF])⟩
def gE1 (m:List At) (r:RV):kI
 | [.v (.fl l)]=>some ([aA l=aA m],r)
 | _=>none
def gE2 (m m':List At) (r:RV):kI
 | [.v (.fl l),.v (.fl l')]=>some ([aA l=aA m,aA l'=aA m'],r)
 | _=>none
theorem SI {f:FuncId} {m:List At} {r0:RV} (h:∀w,Good prog f r0 [.agg (aA m).toArray] w):∀cs pre r,gE1 m r0 cs=some (pre,r)→aZ pre→∀(args:List Value) (w:World),bU w cs args→Good prog f r args w:=by
 intro cs pre r hg hp args w ha;unfold gE1 at hg;split at hg
 ·cases hg;rw[DA ha,hp.1];exact h w
 ·cases hg
theorem aEw {f:FuncId} {m m':List At} {r0:RV} (h:∀w,Good prog f r0 [.agg (aA m).toArray,.agg (aA m').toArray] w):∀cs pre r,gE2 m m' r0 cs=some (pre,r)→aZ pre→∀(args:List Value) (w:World),bU w cs args→Good prog f r args w:=by
 intro cs pre r hg hp args w ha;unfold gE2 at hg;split at hg
 ·cases hg;rw[OT ha,hp.1,hp.2.1];exact h w
 ·cases hg
theorem aKd {Q:C2} (h:sD Q):oT (MA Q.1)=true:=by
 unfold oT;rw[aTG,tM2,Lr,(IW Q).2 h];exact decide_eq_true ⟨rfl,rfl⟩
def k0:RV:=.one (.im (.int .i64 0))
theorem aAC (p:iU):aU prog (qG prog) (wq tT) f20 60 [.v (.fl (eK p))]=some ([],.one (.im (.int .i64 (zO p.1 p.2.1 p.2.2).1))):=by kernel_rfl
theorem aXS (P:C1) (w:World):Good prog 20 k0 [.agg (aA (nZ P.1)).toArray] w:=by
 have h:=aB aG (fun _ _=>oQ) (aJ _) func20 (aAC (tn1 P.1)) trivial (args:=[.agg (aA (nZ P.1)).toArray]) (w:=w) ⟨rfl,trivial⟩;rw[show (zO (tn1 P.1).1 (tn1 P.1).2.1 (tn1 P.1).2.2).1=0 from tC1 P]at h;exact h
theorem aYT (p:cZ):tT 48 [.v (.fl (cJ p))]=some ([],.one (.im (.int .i64 (iN p.1 p.2.1 p.2.2).1))):=by kernel_rfl
theorem aZx (p:cZ):tT 49 [.v (.fl (cJ p))]=some ([],.one (.im (.bool (oT p)))):=by kernel_rfl
def aXk (m:List At):Tab:=(tT.add 48 (gE1 m k0)).add 49 (gE1 m (.one (.im (.bool true))))
theorem aVc {Q:C2} (h:sD Q):TabOk prog (aXk (gI Q.1)):=(oQ.ad func48 (SI fun w=>by
  have h:=(oQ _ _ _ _ (aYT (MA Q.1)) trivial).2 [.agg (aA (gI Q.1)).toArray] w ⟨rfl,trivial⟩;rw[show (iN (MA Q.1).1 (MA Q.1).2.1 (MA Q.1).2.2).1=0 from tC2 Q]at h;exact h)).ad func49 (SI fun w=>by
  have h:=(oQ _ _ _ _ (aZx (MA Q.1)) trivial).2 [.agg (aA (gI Q.1)).toArray] w ⟨rfl,trivial⟩;rw[aKd ‹sD Q›]at h;exact h)
theorem aAB (q:Pt Q2):aU prog (qG prog) (wq (aXk (gI q))) f21 60 [.v (.fl (gI q))]=some ([aA (gI q)=aA (gI q),aA (gI q)=aA (gI q)],k0):=by kernel_rfl
theorem aXR {Q:C2} (h:sD Q) (w:World):Good prog 21 k0 [.agg (aA (gI Q.1)).toArray] w :=
 aB aG (fun _ _=>aVc h) (aJ _) func21 (aAB Q.1) ⟨rfl,rfl,trivial⟩ ⟨rfl,trivial⟩
def aXj (p:Pt Fq) (q:Pt Q2):Tab:=(tP.add 20 (gE1 (nZ p) k0)).add 21 (gE1 (gI q) k0)
theorem aVb (P:C1) {Q:C2} (h:sD Q):TabOk prog (aXj P.1 Q.1):=(mK.ad func20 (SI (aXS P))).ad func21 (SI (aXR h))
theorem PX (p:Pt Fq) (q:Pt Q2):aU prog (qG prog) (wq (aXj p q)) f12 60 [.v (.fl (nZ p)),.v (.fl (gI q))]=some ([aA (nZ p)=aA (nZ p),aA (gI q)=aA (gI q)],k0):=by kernel_rfl
theorem Ei (a:Fq×Fq) (q:Q2×Q2):aU prog (qG prog) (wq tP) f13 60 [.v (.fl (KT a)),.v (.fl (kF q))]=some ([],.one (.fl (wA (bW (a,q))))):=by kernel_rfl
def DS (p:Pt Fq) (q:Pt Q2) (a:Fq×Fq) (q':Q2×Q2):Tab:=(tP.add 12 (gE2 (nZ p) (gI q) k0)).add 13 (gE2 (KT a) (kF q') (.one (.fl (wA (bW (a,q'))))))
theorem aUY (P:C1) {Q:C2} (h:sD Q) (a:Fq×Fq) (q':Q2×Q2):TabOk prog (DS P.1 Q.1 a q'):=(mK.ad func12 (aEw fun w=>aB aG (fun _ _=>aVb P h) (aJ _) func12 (PX P.1 Q.1) ⟨rfl,rfl,trivial⟩ ⟨rfl,rfl,trivial⟩)).add
 func13 (by kernel_rfl) (by kernel_rfl) (aEw fun w=>aB aG (fun _ _=>mK) (aJ _) func13 (Ei a q') trivial ⟨rfl,rfl,trivial⟩)
def oLa (z:aV):List Prop×RV:=([z≠aD.zero],.one (.fl (aQ (mC z))))
theorem aTo (z:aV):aXi 14 [.v (.fl (aQ z))]=some ([wH (hJ (lL z))≠F1.zero],.one (.fl (aQ (mC (hJ (lL z)))))):=by kernel_rfl
theorem wla (z:aV) (hz:z≠aD.zero) (args:List Value) (w:World) (ha:bU w [.v (.fl (aQ z))] args):Good prog 14 (.one (.fl (aQ (mC z)))) args w:=by
 have h:=(aVa _ _ _ _ (aTo z) ⟨by rw[fR]; exact fun e=>hz (AS e),trivial⟩).2 args w ha;rw[fR]at h;exact h
def Px (l:List At):Bool:=match l with
 | [.f a,.f b,.f c,.f d,.f e,.f f,.f g,.f h,.f i,.f j,.f k,.f l]=>Nat.beq a.1 1&&(Nat.beq b.1 0&&(Nat.beq c.1 0&&(Nat.beq d.1 0&&(Nat.beq e.1 0&&(Nat.beq f.1 0&&(Nat.beq g.1 0&&(Nat.beq h.1 0&&(Nat.beq i.1 0&&(Nat.beq j.1 0&&(Nat.beq k.1 0&&Nat.beq l.1 0))))))))))
 | _=>false
theorem Jf {l:List At} (h:Px l=true):aA l=aA (aQ aD.one):=by
 unfold Px at h;split at h
 ·simp only[Bool.and_eq_true]at h;obtain⟨h1,h2,h3,h4,h5,h6,h7,h8,h9,h10,h11,h12⟩:=h;show w4 _++(w4 _++(w4 _++(w4 _++(w4 _++(w4 _++(w4 _++(w4 _++(w4 _++(w4 _++(w4 _++(w4 _++[])))))))))))=w4 1++(w4 0++(w4 0++(w4 0++(w4 0++(w4 0++(w4 0++(w4 0++(w4 0++(w4 0++(w4 0++(w4 0++[])))))))))));rw[Nat.eq_of_beq_eq_true h1,Nat.eq_of_beq_eq_true h2,Nat.eq_of_beq_eq_true h3,Nat.eq_of_beq_eq_true h4,Nat.eq_of_beq_eq_true h5,Nat.eq_of_beq_eq_true h6,Nat.eq_of_beq_eq_true h7,Nat.eq_of_beq_eq_true h8,Nat.eq_of_beq_eq_true h9,Nat.eq_of_beq_eq_true h10,Nat.eq_of_beq_eq_true h11,Nat.eq_of_beq_eq_true h12]
 ·cases h
def aQG:kI
 | [.v (.fl l)]=>bif Px l then some ([],.one (.fl (aQ aD.one)))else none
 | _=>none
theorem aTL (z:aV):tP 30 [.v (.fl (aQ z))]=some ([],.one (.fl (aQ (aD.mul z z)))):=by kernel_rfl
theorem aKm:∀cs pre r,aQG cs=some (pre,r)→aZ pre→∀(args:List Value) (w:World),bU w cs args→Good prog 30 r args w:=by
 intro cs pre r hg hp args w ha;unfold aQG at hg;split at hg
 ·rename_i l;cases hb:Px l<;>rw[hb]at hg
  ·cases hg
  ·cases hg;rw[DA ha,Jf hb];have h:=(mK _ _ _ _ (aTL aD.one) trivial).2 [.agg (aA (aQ aD.one)).toArray] w ⟨rfl,trivial⟩;rw[aD.one_mul]at h;exact h
 ·cases hg
def aXh:Tab:=tP.add 30 aQG
theorem aUZ:TabOk prog aXh:=mK.ad func30 aKm
theorem aHM:aU prog (qG prog) (wq aXh) f15 300 [.v (.im (.slice none 0 0))]=some ([Pj=Pj],.one (.fl (aQ aD.one))):=by kernel_rfl
def gM:Code:=(f5.body).getD .skip
def oF:Nat:=f5.ntmps
def pr3:Code:=cA (cB (cB (cB gM)))
def Yx:Code:=cB (cB (cB (cB gM)))
def AK:Code:=vG (vG (cB pr3))
theorem Mx:gM=.seq (cA gM) (.seq (cA (cB gM)) (.seq (cA (cB (cB gM))) (.seq (.seq (cA pr3) (.block 0 (.loop AK))) Yx))):=by kernel_rfl
def wF:List Wk→List Fact
 | []=>[.slot 6 (.im (.slice none 0 0))]
 | W::r=>[.slot 6 (.so 63 (r.length+1)),.row 63 true (rows (W::r)),.app 63 54 50 (r.length+1)]
def pA0 (n m m':Nat) (lp lq:List At):List Fact:=[.slot 0 (.sl 0 0 n m),.row 0 false lp,.slot 1 (.sl 1 0 n m'),.row 1 false lq,.slot 4 (.pt 4 0),.row 4 true (aQ aD.zero)]
def pA1 (n m m':Nat) (lp lq:List At) (Ws:List Wk):List Fact:=[.slot 0 (.sl 0 0 n m),.row 0 false lp,.slot 1 (.sl 1 0 n m'),.row 1 false lq,.slot 4 (.pt 4 0),.row 4 true (aQ aD.zero)]++wF Ws
def pP (n m m':Nat) (lp lq:List At) (i:Nat) (Ws:List Wk):List Fact:=[.slot 0 (.sl 0 0 n m),.row 0 false lp,.slot 1 (.sl 1 0 n m'),.row 1 false lq,.slot 4 (.pt 4 0),.row 4 true (aQ aD.zero),.slot 21 (.im (iI n)),.slot 22 (.im (iI i))]++wF Ws
def pA3 (Ws:List Wk):List Fact:=[.slot 4 (.pt 4 0),.row 4 true (aQ aD.zero)]++wF Ws
def cP (T:Tab) (l:List (Nat×Value)):Nat→Cfg:=fun _=>⟨fun _=>T,fun _=>true,assoc l⟩
theorem aYD (n m m':Nat) (lp lq:List At):bE prog q0 oF (cP tP []) 40 (cA gM) (nU 0 [.s lp n m,.s lq n m']) (pA0 n m m' lp lq)=some ([],.nrm,pA0 n m m' lp lq):=by kernel_rfl
theorem aYC (n m m':Nat) (lp lq:List At):bE prog q0 oF (cP tP [(13,.bool false),(17,.bool false)]) 40 (cA (cB gM)) (pA0 n m m' lp lq) (pA0 n m m' lp lq)=some ([aH .neq .i64 (Int.ofNat n) (Int.ofNat n)=some (.bool false),aH .gtr .i64 (Int.ofNat n) 256=some (.bool false)],.nrm,pA0 n m m' lp lq):=by kernel_rfl
theorem aYB (n m m':Nat) (lp lq:List At):bE prog q0 oF (cP tP []) 40 (cA (cB (cB gM))) (pA0 n m m' lp lq) (pA1 n m m' lp lq [])=some ([],.nrm,pA1 n m m' lp lq []):=by kernel_rfl
theorem aYA (n m m':Nat) (lp lq:List At):bE prog q0 oF (cP tP []) 40 (cA pr3) (pA1 n m m' lp lq []) (pP n m m' lp lq 0 [])=some ([],.nrm,pP n m m' lp lq 0 []):=by kernel_rfl
def qR (i:Nat) (p:Pt Fq) (q:Pt Q2) (a:Fq×Fq) (q':Q2×Q2):EqT:=qPx prog (CZ [(28,nZ p),(32,gI q),(56,KT a),(60,kF q')]) (CZ []) (assoc [(27,i),(31,i),(40,i),(47,i),(55,i),(59,i)]) (assoc [(42,.bool (uY p)),(49,.bool (uY q))]) Lm
theorem Fs (p:cZ):aU prog (qG prog) (fun _=>⟨fun s=>tT,fun s=>true,fun s=>bif Nat.beq s 5 then some (.bool false)else none⟩) f19 60 [.v (.fl (cJ p))]=some ([aH .eql .i64 (iN p.1 p.2.1 p.2.2).1 0=some (.bool false)],.one (.im (.bool false))):=by kernel_rfl
theorem Fr (p:cZ):aU prog (qG prog) (fun _=>⟨fun s=>tT,fun s=>true,fun s=>bif Nat.beq s 5 then some (.bool true)else none⟩) f19 60 [.v (.fl (cJ p))]=some ([aH .eql .i64 (iN p.1 p.2.1 p.2.2).1 0=some (.bool true),(p.2.2=false→rM p.1∧rM p.2.1),aA (e2 (lG (wd2 p) Go.Proofs.YtjkpglhlmknciaaGreat.FR.M (cC Go.Proofs.YtjkpglhlmknciaaGreat.FR.M) (cC Go.Proofs.YtjkpglhlmknciaaGreat.FR.M)).2.2)=aA (e2 F2.zero)],.one (.im (.bool true))):=by kernel_rfl
theorem Fp (p:cZ):aU prog (qG prog) (fun _=>⟨fun s=>tT,fun s=>false,fun s=>bif Nat.beq s 5 then some (.bool true)else none⟩) f19 60 [.v (.fl (cJ p))]=some ([aH .eql .i64 (iN p.1 p.2.1 p.2.2).1 0=some (.bool true),(p.2.2=false→rM p.1∧rM p.2.1),aA (e2 (lG (wd2 p) Go.Proofs.YtjkpglhlmknciaaGreat.FR.M (cC Go.Proofs.YtjkpglhlmknciaaGreat.FR.M) (cC Go.Proofs.YtjkpglhlmknciaaGreat.FR.M)).2.2)≠aA (e2 F2.zero)],.one (.im (.bool false))):=by kernel_rfl
theorem aKe (p:cZ):oT p=true↔((fO p).1=0∧(lG (wd2 p) Go.Proofs.YtjkpglhlmknciaaGreat.FR.M (cC Go.Proofs.YtjkpglhlmknciaaGreat.FR.M) (cC Go.Proofs.YtjkpglhlmknciaaGreat.FR.M)).2.2=F2.zero):=by
 unfold oT;rw[decide_eq_true_iff]
 by_cases h:(fO p).1=0
 ·have hr:Rp bC (lG (wd2 p) Go.Proofs.YtjkpglhlmknciaaGreat.FR.M (cC Go.Proofs.YtjkpglhlmknciaaGreat.FR.M) (cC Go.Proofs.YtjkpglhlmknciaaGreat.FR.M)) (bC.grp.ns pC (UQ p)):=by
   have:=YI (aRE h) Go.Proofs.YtjkpglhlmknciaaGreat.FR.M (cC Go.Proofs.YtjkpglhlmknciaaGreat.FR.M) (Nat.le_refl _)
   rwa [Nat.sub_self,Nat.pow_zero,Nat.div_one,aNr]at this
  have h1:eM p=((pA (UQ p)).1,0):=by
   unfold eM;rw[if_neg (fun q=>q h),←SW h];rfl
  have h2:kG (fun _=>p) (fun _=>cH) 1=((bC.grp.ns cH (UQ p)).1,0):=by
   rw[Ml,if_neg (fun q=>q h),Lr]
  have a1:(eM p).2=0:=by rw[h1]
  have a2:(eM p).1=(pA (UQ p)).1:=by rw[h1]
  have a3:(kG (fun _=>p) (fun _=>cH) 1).1=(bC.grp.ns cH (UQ p)).1:=by rw[h2]
  rw[a1,a2,a3];constructor
  ·rintro⟨_,e⟩
   refine⟨h,?_⟩;have e2:=(IW (UQ p)).1 (Subtype.ext e);rw[e2]at hr;apply Classical.byContradiction;intro hn;have h3:=eC (K:=F2) (inv:=dW) hn;rw[show iA F2 dW _=_ from hr]at h3;cases h3
  ·rintro⟨_,e⟩
   refine⟨rfl,?_⟩;have e2:bC.grp.ns pC (UQ p)=bC.grp.zero:=Subtype.ext ((show iA F2 dW _=_ from hr).symm.trans (dP e));exact congrArg Subtype.val ((IW (UQ p)).2 e2)
 ·constructor
  ·rintro⟨e,_⟩
   have h1:eM p=(some (F2.zero,F2.zero),(fO p).1):=if_pos h;rw[h1]at e;exact (h e).elim
  ·rintro⟨e,_⟩
   exact (h e).elim
theorem aIl (p:cZ) (args:List Value) (w:World) (ha:bU w [.v (.fl (cJ p))] args):Good prog 19 (.one (.im (.bool (oT p)))) args w:=by
 have hi:=aKe p
 by_cases h1:(fO p).1=0
 ·by_cases h2:(lG (wd2 p) Go.Proofs.YtjkpglhlmknciaaGreat.FR.M (cC Go.Proofs.YtjkpglhlmknciaaGreat.FR.M) (cC Go.Proofs.YtjkpglhlmknciaaGreat.FR.M)).2.2=F2.zero
  ·rw[hi.2 ⟨h1,h2⟩];exact aB aG (fun _ s=>oQ) (aJ prog) func19 (Fr p) ⟨aMJ h1,aFr h1,by rw[h2],trivial⟩ ha
  ·rw[Bool.eq_false_iff.2 (fun e=>h2 (hi.1 e).2)];exact aB aG (fun _ s=>oQ) (aJ prog) func19 (Fp p) ⟨aMJ h1,aFr h1,cS h2,trivial⟩ ha
 ·rw[Bool.eq_false_iff.2 (fun e=>h1 (hi.1 e).1)];exact aB aG (fun _ s=>oQ) (aJ prog) func19 (Fs p) ⟨aWw h1,trivial⟩ ha
def gIc (c:Bool):kI:=g1 Dg fun p=>([oT p=c],.one (.im (.bool c)))
theorem aQQ (c:Bool):∀cs pre r,gIc c cs=some (pre,r)→aZ pre→∀(args:List Value) (w:World),bU w cs args→Good prog 49 r args w :=
 bJ (op:=fun p=>([oT p=c],.one (.im (.bool c)))) iY fun p hp args w ha=>by
  have h:=aDZ p args w ha;rw[show oT p=c from hp.1]at h;exact h
theorem aQO (c:Bool):∀cs pre r,gIc c cs=some (pre,r)→aZ pre→∀(args:List Value) (w:World),bU w cs args→Good prog 19 r args w :=
 bJ (op:=fun p=>([oT p=c],.one (.im (.bool c)))) iY fun p hp args w ha=>by
  have h:=aIl p args w ha;rw[show oT p=c from hp.1]at h;exact h
end Go.Proofs.YtjkpglhlmknciaaGreat.Ex
