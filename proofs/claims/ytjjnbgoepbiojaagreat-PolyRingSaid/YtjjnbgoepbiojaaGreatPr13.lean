/- Pr13 -/
import Derived.ProofKit
import Derived.LaidMore
import Derived.OpenShut
import Derived.Stop.Joined
import Derived.Carry
import Derived.RowKit
import Derived.ChangeSame
import Derived.JoinedOf
import Derived.JoinedAt
import Derived.Laws.IdiomArrays
import Derived.Deep.Strs
import Derived.Deep.Slices
import Derived.SizedLaws
import Derived.Test.YtjjnbgoepbiojaaGreatPr12
import Derived.Test.YtjjnbgoepbiojaaGreatPr10
import Derived.Test.YtjjnbgoepbiojaaGreatRows
import Derived.Test.YtjjnbgoepbiojaaGreatPr04
import Derived.Test.YtjjnbgoepbiojaaGreatPr07
import Derived.Test.YtjjnbgoepbiojaaGreatPr11
import Derived.Test.YtjjnbgoepbiojaaGreatProg
set_option maxRecDepth 100000
set_option linter.unusedVariables false
set_option linter.unusedSimpArgs false
set_option linter.unnecessarySimpa false
noncomputable section
namespace Go.Proofs.YtjjnbgoepbiojaaGreat.Ex
open Go.Proofs.Tryz
open Go.RowKit
theorem UI {N M:Nat} {f g:Nat→Nat} (hN:N≤2305843009213693952) (hM:M≤2305843009213693952):∃(n:Nat) (h:Nat→Nat) (e:Int),n≤4611686018427387904 ∧
  (∀(w:World) (v v2:Value),LV w v N f→LV w v2 M g→Calls prog 5 #[v,v2] w (Pr w n h e)) ∧
  (∀(w:World) (v v2:Value),LV w v N f→LV w v2 M g→Calls prog 6 #[v,v2] w (Pr w n h e)):=by
 by_cases h:eW N f M g=0
 ·exact⟨aF (fun i=>dH (aU f N i) (aU g M i)) (max N M),fun i=>dH (aU f N i) (aU g M i),0,Nat.le_trans (cI _ _) (Nat.max_le.2 ⟨by omega,by omega⟩),fun w v v2 hv hv2=>(UH hv hv2 (by omega) (by omega)).2 h,fun w v v2 hv hv2=>(PA hv hv2).2 h⟩
 ·exact⟨0,fun _=>0,eW N f M g,by omega,fun w v v2 hv hv2=>(UH hv hv2 (by omega) (by omega)).1 h,fun w v v2 hv hv2=>(PA hv hv2).1 h⟩
theorem NL {N M:Nat} {f g:Nat→Nat} (hN:N≤2305843009213693952) (hM:M≤2305843009213693952):∃(n:Nat) (h:Nat→Nat) (e:Int),n≤4611686018427387904 ∧
  (∀(w:World) (v v2:Value),LV w v N f→LV w v2 M g→Calls prog 7 #[v,v2] w (Pr w n h e)) ∧
  (∀(w:World) (v v2:Value),LV w v N f→LV w v2 M g→Calls prog 8 #[v,v2] w (Pr w n h e)):=by
 by_cases h:eW N f M g=0
 ·exact⟨aF (fun i=>fD (aU f N i) (aU g M i)) (max N M),fun i=>fD (aU f N i) (aU g M i),0,Nat.le_trans (cI _ _) (Nat.max_le.2 ⟨by omega,by omega⟩),fun w v v2 hv hv2=>(NK hv hv2 (by omega) (by omega)).2 h,fun w v v2 hv hv2=>(OU hv hv2).2 h⟩
 ·exact⟨0,fun _=>0,eW N f M g,by omega,fun w v v2 hv hv2=>(NK hv hv2 (by omega) (by omega)).1 h,fun w v v2 hv hv2=>(OU hv hv2).1 h⟩
theorem WG {N x:Nat} {f:Nat→Nat} (hN:N≤2305843009213693952) (hx:x<bQ):∃(n:Nat) (h:Nat→Nat) (e:Int),n≤4611686018427387904 ∧
  (∀(w:World) (v:Value),LV w v N f→Calls prog 11 #[v,.agg (aB [At.q x]).toArray] w (Pr w n h e)) ∧
  (∀(w:World) (v:Value),LV w v N f→Calls prog 12 #[v,.agg (aB [At.q x]).toArray] w (Pr w n h e)):=by
 by_cases h:fB N f x=0
 ·exact⟨aF (fun i=>dF (f i) x) N,fun i=>dF (f i) x,0,Nat.le_trans (cI _ _) (by omega),fun w v hv=>(Dd hv (by omega) hx).2 h,fun w v hv=>(Dh hv hx).2 h⟩
 ·exact⟨0,fun _=>0,fB N f x,by omega,fun w v hv=>(Dd hv (by omega) hx).1 h,fun w v hv=>(Dh hv hx).1 h⟩
theorem Hs (N:Nat) (f:Nat→Nat) (M:Nat) (g:Nat→Nat):Lz N f M g≤4611686018427387904:=by
 unfold Lz;split
 ·omega
 ·split
  ·omega
  ·split<;>omega
theorem VJ {N:Nat} {f:Nat→Nat} (hN:N≤2305843009213693952):∃(n:Nat) (h:Nat→Nat) (e:Int),n≤4611686018427387904 ∧
  (∀(w:World) (v:Value),LV w v N f→Calls prog 15 #[v] w (Pr w n h e)) ∧
  (∀(w:World) (v:Value),LV w v N f→Ln v→Calls prog 16 #[v] w (Pr w n h e)):=by
 by_cases h:qX N f=0
 ·refine⟨aF f N,f,0,Nat.le_trans (cI _ _) (by omega),fun w v hv => ?_,fun w v hv hz=>(Df hv hz).2 h⟩;have h256:∀j,j<aF f N→f j<bQ:=fun j hj=>by
   obtain⟨_,_,_,_,q,_⟩:=hv;exact q j (Nat.lt_of_lt_of_le hj (cI f N))
  exact ((yL hv (by omega)).2 h).mono fun e w q=>Pr.fr h256 q
 ·exact⟨0,fun _=>0,qX N f,by omega,fun w v hv=>Calls.mono ((yL hv (by omega)).1 h) fun e w q=>Pr.nil _ q,fun w v hv hz=>(Df hv hz).1 h⟩
theorem SR (e:Int):RV.den (.many [.fl MH,.im (.int .i64 e)])=RV.den (.many [.fl [.q 0],.im (.int .i64 e)]):=by kernel_rfl
def SS (N:Nat) (f:Nat→Nat) (x:Nat):Nat:=if fB N f x=0 then mO x N f N else 0
theorem LN {w0:World} {v:Value} {N x:Nat} {f:Nat→Nat} (hv:LV w0 v N f) (hN:N≤4611686018427387904) (hx:x<bQ):bI prog 17 (.many [.fl [.q (SS N f x)],.im (.int .i64 (fB N f x))]) [v,.agg (aB [At.q x]).toArray] w0:=by
 unfold SS
 by_cases h:fB N f x=0
 ·rw[if_pos h,h];exact (BD hv hN hx).2 h
 ·rw[if_neg h];unfold bI;rw[←SR];exact (BD hv hN hx).1 h
theorem LM {w0:World} {v:Value} {N x:Nat} {f:Nat→Nat} (hv:LV w0 v N f) (hx:x<bQ):bI prog 18 (.many [.fl [.q (SS N f x)],.im (.int .i64 (fB N f x))]) [v,.agg (aB [At.q x]).toArray] w0:=by
 unfold SS
 by_cases h:fB N f x=0
 ·rw[if_pos h,h];exact (zQ hv hx).2 h
 ·rw[if_neg h];unfold bI;rw[←SR];exact (zQ hv hx).1 h
def Ju (v:Value) (N:Nat) (f:Nat→Nat):iP
 | [.v (.im u),.v (.fl xL)]=>match lH xL with
  | some x=>some ([u=v,x<bQ],.many [.fl [.q (SS N f x)],.im (.int .i64 (fB N f x))])
  | none=>none
 | _=>none
theorem Ah {w:World} {v:Value} {N:Nat} {f:Nat→Nat} (hv:LV w v N f) (hN:N≤4611686018427387904):∀cs pre r,Ju v N f cs=some (pre,r)→aR pre→∀(args:List Value),cO w cs args→bI prog 17 r args w:=by
 intro cs pre r hg hp args ha;unfold Ju at hg;split at hg
 ·rename_i u xL;split at hg
  ·rename_i x hx;cases hg
   match args,ha with
   | [a1,a2],ha =>
    have h1:a1=u:=ha.1;have h2:a2=.agg (aB xL).toArray:=ha.2.1;rw[cG xL x hx]at h2;subst h1;subst h2;obtain⟨p1,p2,_⟩:=hp;subst p1;exact LN hv hN p2
   | [],ha=>exact ha.elim
   | [_],ha=>exact ha.2.elim
   | _::_::_::_,ha=>exact ha.2.2.elim
  ·cases hg
 ·cases hg
def Jt (v:Value) (N:Nat) (f:Nat→Nat):iP
 | [.v (.im u),.v (.fl xL)]=>match lH xL with
  | some x=>some ([u=v,x<bQ],.many [.fl [.q (SS N f x)],.im (.int .i64 (fB N f x))])
  | none=>none
 | _=>none
theorem Ag {w:World} {v:Value} {N:Nat} {f:Nat→Nat} (hv:LV w v N f):∀cs pre r,Jt v N f cs=some (pre,r)→aR pre→∀(args:List Value),cO w cs args→bI prog 18 r args w:=by
 intro cs pre r hg hp args ha;unfold Jt at hg;split at hg
 ·rename_i u xL;split at hg
  ·rename_i x hx;cases hg
   match args,ha with
   | [a1,a2],ha =>
    have h1:a1=u:=ha.1;have h2:a2=.agg (aB xL).toArray:=ha.2.1;rw[cG xL x hx]at h2;subst h1;subst h2;obtain⟨p1,p2,_⟩:=hp;subst p1;exact LM hv p2
   | [],ha=>exact ha.elim
   | [_],ha=>exact ha.2.elim
   | _::_::_::_,ha=>exact ha.2.2.elim
  ·cases hg
 ·cases hg
def sT:Code:=(f3.body).getD .skip
def uK:Code:=cB sT
def EP:Code:=cB uK
def EO:Code:=cB EP
def EN:Code:=cB EO
def EM:Code:=cB EN
def KT:Code:=cB EM
def EL:Code:=cB KT
def EK:Code:=cB EL
def sS:Code:=cB EK
def sR:Code:=cB sS
def vD:Code:=cB sR
def sQ:Code:=cB vD
def sP:Code:=cB sQ
def vC:Code:=cB sP
def QS:Code:=cB vC
def Dn:Code:=cB QS
theorem YY:sT=.seq (cA sT) (.seq (.region 1 (aK (cA uK)) false) (.seq (.region 2 (aK (cA EP)) false) (.seq (.region 3 (aK (cA EO)) false) (.seq (.region 4 (aK (cA EN)) false) (.seq (.region 5 (aK (cA EM)) false) KT))))):=by kernel_rfl
theorem Qt:KT=.seq (cA KT) (.seq (.region 8 (aK (cA EL)) false) (.seq (.region 9 (aK (cA EK)) false) (.seq (.region 10 (aK (cA sS)) false) (.seq (.region 11 (aK (cA sR)) false) vD)))):=by kernel_rfl
theorem Hu:vD=.seq (cA vD) (.seq (.region 14 (aK (cA sQ)) false) (.seq (.region 15 (aK (cA sP)) false) vC)):=by kernel_rfl
theorem Ht:vC=.seq (cA vC) (.seq (cA QS) Dn):=by kernel_rfl
def Do (v v2:Value) (x:Nat):List Fact:=[.slot 0 (.im v),.slot 1 (.im v2),.slot 5 (.pt 5 0),.row 5 true [.q x]]
theorem Qs (v v2:Value) (x:Nat):aH prog (qG prog) f3.ntmps (cF fun _=>none) 40 (cA sT) (dX 0 [.v (.im v),.v (.im v2),.v (.fl [.q x])]) (Do v v2 x)=some ([],.nrm,Do v v2 x):=by kernel_rfl
def Mb (v v2:Value) (b5:Nat):List Fact:=[.slot 0 (.im v),.slot 1 (.im v2),.slot 5 (.im (aT b5 0))]
theorem Rp (v v2:Value) (x b5:Nat):cP prog (qG prog) f3.ntmps bL ((aK (cA uK)).extract 0 1) (.at 5 b5::Do v v2 x) (.slot 21 (.im v) :: .at 5 b5::Do v v2 x)=some ([],.slot 21 (.im v) :: .at 5 b5::Do v v2 x):=by kernel_rfl
theorem Rm (v v2 bJ:Value) (b5:Nat):cP prog (qG prog) f3.ntmps bL ((aK (cA uK)).extract 2 3) (.slot 22 (.im bJ)::Mb v v2 b5) (.slot 23 (.im v2) :: .slot 22 (.im bJ)::Mb v v2 b5)=some ([],.slot 23 (.im v2) :: .slot 22 (.im bJ)::Mb v v2 b5):=by kernel_rfl
theorem Rl (v v2 bJ other:Value) (b5:Nat):cP prog (qG prog) f3.ntmps bL ((aK (cA uK)).extract 4 6) (.slot 24 (.im other) :: .slot 22 (.im bJ)::Mb v v2 b5) [.slot 0 (.im v),.slot 1 (.im v2),.slot 5 (.im (aT b5 0)),.slot 7 (.im bJ),.slot 8 (.im other)]=some ([],[.slot 0 (.im v),.slot 1 (.im v2),.slot 5 (.im (aT b5 0)),.slot 7 (.im bJ),.slot 8 (.im other)]):=by kernel_rfl
theorem Rk (W:World) (v:Value) (v2:Value) (x:Nat) (b5:Nat) (bJ:Value) (other:Value):cP prog { qG prog with x:=xO W (fun _=>none) (fun _=>none) (fun _=>none) } f3.ntmps bL ((aK (cA EP)).extract 0 2) [.slot 0 (.im v),.slot 1 (.im v2),.slot 5 (.im (aT b5 0)),.slot 7 (.im bJ),.slot 8 (.im other)] [.slot 26 (.im bJ),.slot 27 (.im other),.slot 0 (.im v),.slot 1 (.im v2),.slot 5 (.im (aT b5 0)),.slot 7 (.im bJ),.slot 8 (.im other)]=some ([],[.slot 26 (.im bJ),.slot 27 (.im other),.slot 0 (.im v),.slot 1 (.im v2),.slot 5 (.im (aT b5 0)),.slot 7 (.im bJ),.slot 8 (.im other)]):=by kernel_rfl
theorem Rj (v:Value) (v2:Value) (x:Nat) (b5:Nat) (bJ:Value) (other:Value) (u3:Value) (e3:Int):cP prog (qG prog) f3.ntmps bL ((aK (cA EP)).extract 3 8) [.slot 28 (.tu [.im u3,.im (iV e3)]),.slot 28 (.im (.tuple #[u3,(iV e3)])),.slot 0 (.im v),.slot 1 (.im v2),.slot 5 (.im (aT b5 0)),.slot 7 (.im bJ),.slot 8 (.im other)] [.slot 0 (.im v),.slot 1 (.im v2),.slot 5 (.im (aT b5 0)),.slot 7 (.im bJ),.slot 8 (.im other),.slot 9 (.im u3),.slot 10 (.im (iV e3))]=some ([],[.slot 0 (.im v),.slot 1 (.im v2),.slot 5 (.im (aT b5 0)),.slot 7 (.im bJ),.slot 8 (.im other),.slot 9 (.im u3),.slot 10 (.im (iV e3))]):=by kernel_rfl
theorem Rh (W:World) (v:Value) (v2:Value) (x:Nat) (b5:Nat) (bJ:Value) (other:Value) (u3:Value) (e3:Int):cP prog { qG prog with x:=xO W (fun _=>none) (fun _=>none) (fun _=>none) } f3.ntmps bL ((aK (cA EO)).extract 0 2) [.slot 0 (.im v),.slot 1 (.im v2),.slot 5 (.im (aT b5 0)),.slot 7 (.im bJ),.slot 8 (.im other),.slot 9 (.im u3),.slot 10 (.im (iV e3))] [.slot 32 (.im v),.slot 33 (.im v2),.slot 0 (.im v),.slot 1 (.im v2),.slot 5 (.im (aT b5 0)),.slot 7 (.im bJ),.slot 8 (.im other),.slot 9 (.im u3),.slot 10 (.im (iV e3))]=some ([],[.slot 32 (.im v),.slot 33 (.im v2),.slot 0 (.im v),.slot 1 (.im v2),.slot 5 (.im (aT b5 0)),.slot 7 (.im bJ),.slot 8 (.im other),.slot 9 (.im u3),.slot 10 (.im (iV e3))]):=by kernel_rfl
theorem Rg (v:Value) (v2:Value) (x:Nat) (b5:Nat) (bJ:Value) (other:Value) (u3:Value) (e3:Int) (u4:Value) (e4:Int):cP prog (qG prog) f3.ntmps bL ((aK (cA EO)).extract 3 8) [.slot 34 (.tu [.im u4,.im (iV e4)]),.slot 34 (.im (.tuple #[u4,(iV e4)])),.slot 0 (.im v),.slot 1 (.im v2),.slot 5 (.im (aT b5 0)),.slot 7 (.im bJ),.slot 8 (.im other),.slot 9 (.im u3),.slot 10 (.im (iV e3))] [.slot 0 (.im v),.slot 1 (.im v2),.slot 5 (.im (aT b5 0)),.slot 7 (.im bJ),.slot 8 (.im other),.slot 9 (.im u3),.slot 10 (.im (iV e3)),.slot 11 (.im u4),.slot 12 (.im (iV e4))]=some ([],[.slot 0 (.im v),.slot 1 (.im v2),.slot 5 (.im (aT b5 0)),.slot 7 (.im bJ),.slot 8 (.im other),.slot 9 (.im u3),.slot 10 (.im (iV e3)),.slot 11 (.im u4),.slot 12 (.im (iV e4))]):=by kernel_rfl
theorem Rf (W:World) (v:Value) (v2:Value) (x:Nat) (b5:Nat) (bJ:Value) (other:Value) (u3:Value) (e3:Int) (u4:Value) (e4:Int):cP prog { qG prog with x:=xO W (fun _=>none) (fun _=>none) (fun _=>none) } f3.ntmps bL ((aK (cA EN)).extract 0 2) [.slot 0 (.im v),.slot 1 (.im v2),.slot 5 (.im (aT b5 0)),.slot 7 (.im bJ),.slot 8 (.im other),.slot 9 (.im u3),.slot 10 (.im (iV e3)),.slot 11 (.im u4),.slot 12 (.im (iV e4))] [.slot 38 (.im bJ),.slot 39 (.im other),.slot 0 (.im v),.slot 1 (.im v2),.slot 5 (.im (aT b5 0)),.slot 7 (.im bJ),.slot 8 (.im other),.slot 9 (.im u3),.slot 10 (.im (iV e3)),.slot 11 (.im u4),.slot 12 (.im (iV e4))]=some ([],[.slot 38 (.im bJ),.slot 39 (.im other),.slot 0 (.im v),.slot 1 (.im v2),.slot 5 (.im (aT b5 0)),.slot 7 (.im bJ),.slot 8 (.im other),.slot 9 (.im u3),.slot 10 (.im (iV e3)),.slot 11 (.im u4),.slot 12 (.im (iV e4))]):=by kernel_rfl
theorem Re (v:Value) (v2:Value) (x:Nat) (b5:Nat) (bJ:Value) (other:Value) (u3:Value) (e3:Int) (u4:Value) (e4:Int) (u5:Value) (e5:Int):cP prog (qG prog) f3.ntmps bL ((aK (cA EN)).extract 3 8) [.slot 40 (.tu [.im u5,.im (iV e5)]),.slot 40 (.im (.tuple #[u5,(iV e5)])),.slot 0 (.im v),.slot 1 (.im v2),.slot 5 (.im (aT b5 0)),.slot 7 (.im bJ),.slot 8 (.im other),.slot 9 (.im u3),.slot 10 (.im (iV e3)),.slot 11 (.im u4),.slot 12 (.im (iV e4))] [.slot 0 (.im v),.slot 1 (.im v2),.slot 5 (.im (aT b5 0)),.slot 7 (.im bJ),.slot 8 (.im other),.slot 9 (.im u3),.slot 10 (.im (iV e3)),.slot 11 (.im u4),.slot 12 (.im (iV e4)),.slot 13 (.im u5),.slot 14 (.im (iV e5))]=some ([],[.slot 0 (.im v),.slot 1 (.im v2),.slot 5 (.im (aT b5 0)),.slot 7 (.im bJ),.slot 8 (.im other),.slot 9 (.im u3),.slot 10 (.im (iV e3)),.slot 11 (.im u4),.slot 12 (.im (iV e4)),.slot 13 (.im u5),.slot 14 (.im (iV e5))]):=by kernel_rfl
theorem Rc (W:World) (v:Value) (v2:Value) (x:Nat) (b5:Nat) (bJ:Value) (other:Value) (u3:Value) (e3:Int) (u4:Value) (e4:Int) (u5:Value) (e5:Int):cP prog { qG prog with x:=xO W (fun _=>none) (fun _=>none) (fun _=>none) } f3.ntmps bL ((aK (cA EM)).extract 0 2) [.slot 0 (.im v),.slot 1 (.im v2),.slot 5 (.im (aT b5 0)),.slot 7 (.im bJ),.slot 8 (.im other),.slot 9 (.im u3),.slot 10 (.im (iV e3)),.slot 11 (.im u4),.slot 12 (.im (iV e4)),.slot 13 (.im u5),.slot 14 (.im (iV e5))] [.slot 44 (.im v),.slot 45 (.im v2),.slot 0 (.im v),.slot 1 (.im v2),.slot 5 (.im (aT b5 0)),.slot 7 (.im bJ),.slot 8 (.im other),.slot 9 (.im u3),.slot 10 (.im (iV e3)),.slot 11 (.im u4),.slot 12 (.im (iV e4)),.slot 13 (.im u5),.slot 14 (.im (iV e5))]=some ([],[.slot 44 (.im v),.slot 45 (.im v2),.slot 0 (.im v),.slot 1 (.im v2),.slot 5 (.im (aT b5 0)),.slot 7 (.im bJ),.slot 8 (.im other),.slot 9 (.im u3),.slot 10 (.im (iV e3)),.slot 11 (.im u4),.slot 12 (.im (iV e4)),.slot 13 (.im u5),.slot 14 (.im (iV e5))]):=by kernel_rfl
theorem Rb (v:Value) (v2:Value) (x:Nat) (b5:Nat) (bJ:Value) (other:Value) (u3:Value) (e3:Int) (u4:Value) (e4:Int) (u5:Value) (e5:Int) (u6:Value) (e6:Int):cP prog (qG prog) f3.ntmps bL ((aK (cA EM)).extract 3 8) [.slot 46 (.tu [.im u6,.im (iV e6)]),.slot 46 (.im (.tuple #[u6,(iV e6)])),.slot 0 (.im v),.slot 1 (.im v2),.slot 5 (.im (aT b5 0)),.slot 7 (.im bJ),.slot 8 (.im other),.slot 9 (.im u3),.slot 10 (.im (iV e3)),.slot 11 (.im u4),.slot 12 (.im (iV e4)),.slot 13 (.im u5),.slot 14 (.im (iV e5))] [.slot 0 (.im v),.slot 1 (.im v2),.slot 5 (.im (aT b5 0)),.slot 7 (.im bJ),.slot 8 (.im other),.slot 9 (.im u3),.slot 10 (.im (iV e3)),.slot 11 (.im u4),.slot 12 (.im (iV e4)),.slot 13 (.im u5),.slot 14 (.im (iV e5)),.slot 15 (.im u6),.slot 16 (.im (iV e6))]=some ([],[.slot 0 (.im v),.slot 1 (.im v2),.slot 5 (.im (aT b5 0)),.slot 7 (.im bJ),.slot 8 (.im other),.slot 9 (.im u3),.slot 10 (.im (iV e3)),.slot 11 (.im u4),.slot 12 (.im (iV e4)),.slot 13 (.im u5),.slot 14 (.im (iV e5)),.slot 15 (.im u6),.slot 16 (.im (iV e6))]):=by kernel_rfl
theorem Qz (W:World) (v:Value) (v2:Value) (x:Nat) (b5:Nat) (bJ:Value) (other:Value) (u3:Value) (e3:Int) (u4:Value) (e4:Int) (u5:Value) (e5:Int) (u6:Value) (e6:Int):cP prog { qG prog with x:=xO W (fun _=>none) (aE [(73,[.q x])]) (fun _=>none) } f3.ntmps bL ((aK (cA EL)).extract 0 2) [.slot 0 (.im v),.slot 1 (.im v2),.slot 5 (.im (aT b5 0)),.slot 7 (.im bJ),.slot 8 (.im other)] [.slot 72 (.im bJ),.slot 73 (.fl [.q x]),.slot 0 (.im v),.slot 1 (.im v2),.slot 5 (.im (aT b5 0)),.slot 7 (.im bJ),.slot 8 (.im other)]=some ([oldOf W b5 0 [.q x],cL [.q x]=4],[.slot 72 (.im bJ),.slot 73 (.fl [.q x]),.slot 0 (.im v),.slot 1 (.im v2),.slot 5 (.im (aT b5 0)),.slot 7 (.im bJ),.slot 8 (.im other)]):=by kernel_rfl
theorem Qy (v:Value) (v2:Value) (x:Nat) (b5:Nat) (bJ:Value) (other:Value) (u3:Value) (e3:Int) (u4:Value) (e4:Int) (u5:Value) (e5:Int) (u6:Value) (e6:Int) (u7:Value) (e7:Int):cP prog (qG prog) f3.ntmps bL ((aK (cA EL)).extract 3 8) [.slot 74 (.tu [.im u7,.im (iV e7)]),.slot 74 (.im (.tuple #[u7,(iV e7)])),.slot 0 (.im v),.slot 1 (.im v2),.slot 5 (.im (aT b5 0)),.slot 7 (.im bJ),.slot 8 (.im other)] [.slot 0 (.im v),.slot 1 (.im v2),.slot 5 (.im (aT b5 0)),.slot 7 (.im bJ),.slot 8 (.im other),.slot 9 (.im u7),.slot 10 (.im (iV e7))]=some ([],[.slot 0 (.im v),.slot 1 (.im v2),.slot 5 (.im (aT b5 0)),.slot 7 (.im bJ),.slot 8 (.im other),.slot 9 (.im u7),.slot 10 (.im (iV e7))]):=by kernel_rfl
theorem Qx (W:World) (v:Value) (v2:Value) (x:Nat) (b5:Nat) (bJ:Value) (other:Value) (u3:Value) (e3:Int) (u4:Value) (e4:Int) (u5:Value) (e5:Int) (u6:Value) (e6:Int) (u7:Value) (e7:Int):cP prog { qG prog with x:=xO W (fun _=>none) (aE [(79,[.q x])]) (fun _=>none) } f3.ntmps bL ((aK (cA EK)).extract 0 2) [.slot 0 (.im v),.slot 1 (.im v2),.slot 5 (.im (aT b5 0)),.slot 7 (.im bJ),.slot 8 (.im other),.slot 9 (.im u7),.slot 10 (.im (iV e7))] [.slot 78 (.im v),.slot 79 (.fl [.q x]),.slot 0 (.im v),.slot 1 (.im v2),.slot 5 (.im (aT b5 0)),.slot 7 (.im bJ),.slot 8 (.im other),.slot 9 (.im u7),.slot 10 (.im (iV e7))]=some ([oldOf W b5 0 [.q x],cL [.q x]=4],[.slot 78 (.im v),.slot 79 (.fl [.q x]),.slot 0 (.im v),.slot 1 (.im v2),.slot 5 (.im (aT b5 0)),.slot 7 (.im bJ),.slot 8 (.im other),.slot 9 (.im u7),.slot 10 (.im (iV e7))]):=by kernel_rfl
theorem Qw (v:Value) (v2:Value) (x:Nat) (b5:Nat) (bJ:Value) (other:Value) (u3:Value) (e3:Int) (u4:Value) (e4:Int) (u5:Value) (e5:Int) (u6:Value) (e6:Int) (u7:Value) (e7:Int) (u8:Value) (e8:Int):cP prog (qG prog) f3.ntmps bL ((aK (cA EK)).extract 3 8) [.slot 80 (.tu [.im u8,.im (iV e8)]),.slot 80 (.im (.tuple #[u8,(iV e8)])),.slot 0 (.im v),.slot 1 (.im v2),.slot 5 (.im (aT b5 0)),.slot 7 (.im bJ),.slot 8 (.im other),.slot 9 (.im u7),.slot 10 (.im (iV e7))] [.slot 0 (.im v),.slot 1 (.im v2),.slot 5 (.im (aT b5 0)),.slot 7 (.im bJ),.slot 8 (.im other),.slot 9 (.im u7),.slot 10 (.im (iV e7)),.slot 11 (.im u8),.slot 12 (.im (iV e8))]=some ([],[.slot 0 (.im v),.slot 1 (.im v2),.slot 5 (.im (aT b5 0)),.slot 7 (.im bJ),.slot 8 (.im other),.slot 9 (.im u7),.slot 10 (.im (iV e7)),.slot 11 (.im u8),.slot 12 (.im (iV e8))]):=by kernel_rfl
theorem Qv (W:World) (v:Value) (v2:Value) (x:Nat) (b5:Nat) (bJ:Value) (other:Value) (u3:Value) (e3:Int) (u4:Value) (e4:Int) (u5:Value) (e5:Int) (u6:Value) (e6:Int) (u7:Value) (e7:Int) (u8:Value) (e8:Int):cP prog { qG prog with x:=xO W (fun _=>none) (fun _=>none) (fun _=>none) } f3.ntmps bL ((aK (cA sS)).extract 0 2) [.slot 0 (.im v),.slot 1 (.im v2),.slot 5 (.im (aT b5 0)),.slot 7 (.im bJ),.slot 8 (.im other),.slot 9 (.im u7),.slot 10 (.im (iV e7)),.slot 11 (.im u8),.slot 12 (.im (iV e8))] [.slot 84 (.im bJ),.slot 85 (.im other),.slot 0 (.im v),.slot 1 (.im v2),.slot 5 (.im (aT b5 0)),.slot 7 (.im bJ),.slot 8 (.im other),.slot 9 (.im u7),.slot 10 (.im (iV e7)),.slot 11 (.im u8),.slot 12 (.im (iV e8))]=some ([],[.slot 84 (.im bJ),.slot 85 (.im other),.slot 0 (.im v),.slot 1 (.im v2),.slot 5 (.im (aT b5 0)),.slot 7 (.im bJ),.slot 8 (.im other),.slot 9 (.im u7),.slot 10 (.im (iV e7)),.slot 11 (.im u8),.slot 12 (.im (iV e8))]):=by kernel_rfl
theorem Qu (v:Value) (v2:Value) (x:Nat) (b5:Nat) (bJ:Value) (other:Value) (u3:Value) (e3:Int) (u4:Value) (e4:Int) (u5:Value) (e5:Int) (u6:Value) (e6:Int) (u7:Value) (e7:Int) (u8:Value) (e8:Int) (u9:Value) (e9:Int):cP prog (qG prog) f3.ntmps bL ((aK (cA sS)).extract 3 8) [.slot 86 (.tu [.im u9,.im (iV e9)]),.slot 86 (.im (.tuple #[u9,(iV e9)])),.slot 0 (.im v),.slot 1 (.im v2),.slot 5 (.im (aT b5 0)),.slot 7 (.im bJ),.slot 8 (.im other),.slot 9 (.im u7),.slot 10 (.im (iV e7)),.slot 11 (.im u8),.slot 12 (.im (iV e8))] [.slot 0 (.im v),.slot 1 (.im v2),.slot 5 (.im (aT b5 0)),.slot 7 (.im bJ),.slot 8 (.im other),.slot 9 (.im u7),.slot 10 (.im (iV e7)),.slot 11 (.im u8),.slot 12 (.im (iV e8)),.slot 13 (.im u9),.slot 14 (.im (iV e9))]=some ([],[.slot 0 (.im v),.slot 1 (.im v2),.slot 5 (.im (aT b5 0)),.slot 7 (.im bJ),.slot 8 (.im other),.slot 9 (.im u7),.slot 10 (.im (iV e7)),.slot 11 (.im u8),.slot 12 (.im (iV e8)),.slot 13 (.im u9),.slot 14 (.im (iV e9))]):=by kernel_rfl
theorem Ia (W:World) (v:Value) (v2:Value) (x:Nat) (b5:Nat) (bJ:Value) (other:Value) (u3:Value) (e3:Int) (u4:Value) (e4:Int) (u5:Value) (e5:Int) (u6:Value) (e6:Int) (u7:Value) (e7:Int) (u8:Value) (e8:Int) (u9:Value) (e9:Int):cP prog { qG prog with x:=xO W (fun _=>none) (fun _=>none) (fun _=>none) } f3.ntmps bL ((aK (cA sR)).extract 0 2) [.slot 0 (.im v),.slot 1 (.im v2),.slot 5 (.im (aT b5 0)),.slot 7 (.im bJ),.slot 8 (.im other),.slot 9 (.im u7),.slot 10 (.im (iV e7)),.slot 11 (.im u8),.slot 12 (.im (iV e8)),.slot 13 (.im u9),.slot 14 (.im (iV e9))] [.slot 90 (.im v),.slot 91 (.im v2),.slot 0 (.im v),.slot 1 (.im v2),.slot 5 (.im (aT b5 0)),.slot 7 (.im bJ),.slot 8 (.im other),.slot 9 (.im u7),.slot 10 (.im (iV e7)),.slot 11 (.im u8),.slot 12 (.im (iV e8)),.slot 13 (.im u9),.slot 14 (.im (iV e9))]=some ([],[.slot 90 (.im v),.slot 91 (.im v2),.slot 0 (.im v),.slot 1 (.im v2),.slot 5 (.im (aT b5 0)),.slot 7 (.im bJ),.slot 8 (.im other),.slot 9 (.im u7),.slot 10 (.im (iV e7)),.slot 11 (.im u8),.slot 12 (.im (iV e8)),.slot 13 (.im u9),.slot 14 (.im (iV e9))]):=by kernel_rfl
theorem Hz (v:Value) (v2:Value) (x:Nat) (b5:Nat) (bJ:Value) (other:Value) (u3:Value) (e3:Int) (u4:Value) (e4:Int) (u5:Value) (e5:Int) (u6:Value) (e6:Int) (u7:Value) (e7:Int) (u8:Value) (e8:Int) (u9:Value) (e9:Int) (u10:Value) (e10:Int):cP prog (qG prog) f3.ntmps bL ((aK (cA sR)).extract 3 8) [.slot 92 (.tu [.im u10,.im (iV e10)]),.slot 92 (.im (.tuple #[u10,(iV e10)])),.slot 0 (.im v),.slot 1 (.im v2),.slot 5 (.im (aT b5 0)),.slot 7 (.im bJ),.slot 8 (.im other),.slot 9 (.im u7),.slot 10 (.im (iV e7)),.slot 11 (.im u8),.slot 12 (.im (iV e8)),.slot 13 (.im u9),.slot 14 (.im (iV e9))] [.slot 0 (.im v),.slot 1 (.im v2),.slot 5 (.im (aT b5 0)),.slot 7 (.im bJ),.slot 8 (.im other),.slot 9 (.im u7),.slot 10 (.im (iV e7)),.slot 11 (.im u8),.slot 12 (.im (iV e8)),.slot 13 (.im u9),.slot 14 (.im (iV e9)),.slot 15 (.im u10),.slot 16 (.im (iV e10))]=some ([],[.slot 0 (.im v),.slot 1 (.im v2),.slot 5 (.im (aT b5 0)),.slot 7 (.im bJ),.slot 8 (.im other),.slot 9 (.im u7),.slot 10 (.im (iV e7)),.slot 11 (.im u8),.slot 12 (.im (iV e8)),.slot 13 (.im u9),.slot 14 (.im (iV e9)),.slot 15 (.im u10),.slot 16 (.im (iV e10))]):=by kernel_rfl
theorem Hy (W:World) (v:Value) (v2:Value) (x:Nat) (b5:Nat) (bJ:Value) (other:Value) (u3:Value) (e3:Int) (u4:Value) (e4:Int) (u5:Value) (e5:Int) (u6:Value) (e6:Int) (u7:Value) (e7:Int) (u8:Value) (e8:Int) (u9:Value) (e9:Int) (u10:Value) (e10:Int):cP prog { qG prog with x:=xO W (fun _=>none) (fun _=>none) (fun _=>none) } f3.ntmps bL ((aK (cA sQ)).extract 0 1) [.slot 0 (.im v),.slot 1 (.im v2),.slot 5 (.im (aT b5 0)),.slot 7 (.im bJ),.slot 8 (.im other)] [.slot 118 (.im bJ),.slot 0 (.im v),.slot 1 (.im v2),.slot 5 (.im (aT b5 0)),.slot 7 (.im bJ),.slot 8 (.im other)]=some ([],[.slot 118 (.im bJ),.slot 0 (.im v),.slot 1 (.im v2),.slot 5 (.im (aT b5 0)),.slot 7 (.im bJ),.slot 8 (.im other)]):=by kernel_rfl
theorem Hx (v:Value) (v2:Value) (x:Nat) (b5:Nat) (bJ:Value) (other:Value) (u3:Value) (e3:Int) (u4:Value) (e4:Int) (u5:Value) (e5:Int) (u6:Value) (e6:Int) (u7:Value) (e7:Int) (u8:Value) (e8:Int) (u9:Value) (e9:Int) (u10:Value) (e10:Int) (u11:Value) (e11:Int):cP prog (qG prog) f3.ntmps bL ((aK (cA sQ)).extract 2 7) [.slot 119 (.tu [.im u11,.im (iV e11)]),.slot 119 (.im (.tuple #[u11,(iV e11)])),.slot 0 (.im v),.slot 1 (.im v2),.slot 5 (.im (aT b5 0)),.slot 7 (.im bJ),.slot 8 (.im other)] [.slot 0 (.im v),.slot 1 (.im v2),.slot 5 (.im (aT b5 0)),.slot 7 (.im bJ),.slot 8 (.im other),.slot 9 (.im u11),.slot 10 (.im (iV e11))]=some ([],[.slot 0 (.im v),.slot 1 (.im v2),.slot 5 (.im (aT b5 0)),.slot 7 (.im bJ),.slot 8 (.im other),.slot 9 (.im u11),.slot 10 (.im (iV e11))]):=by kernel_rfl
theorem Hw (W:World) (v:Value) (v2:Value) (x:Nat) (b5:Nat) (bJ:Value) (other:Value) (u3:Value) (e3:Int) (u4:Value) (e4:Int) (u5:Value) (e5:Int) (u6:Value) (e6:Int) (u7:Value) (e7:Int) (u8:Value) (e8:Int) (u9:Value) (e9:Int) (u10:Value) (e10:Int) (u11:Value) (e11:Int):cP prog { qG prog with x:=xO W (fun _=>none) (fun _=>none) (fun _=>none) } f3.ntmps bL ((aK (cA sP)).extract 0 1) [.slot 0 (.im v),.slot 1 (.im v2),.slot 5 (.im (aT b5 0)),.slot 7 (.im bJ),.slot 8 (.im other),.slot 9 (.im u11),.slot 10 (.im (iV e11))] [.slot 123 (.im v),.slot 0 (.im v),.slot 1 (.im v2),.slot 5 (.im (aT b5 0)),.slot 7 (.im bJ),.slot 8 (.im other),.slot 9 (.im u11),.slot 10 (.im (iV e11))]=some ([],[.slot 123 (.im v),.slot 0 (.im v),.slot 1 (.im v2),.slot 5 (.im (aT b5 0)),.slot 7 (.im bJ),.slot 8 (.im other),.slot 9 (.im u11),.slot 10 (.im (iV e11))]):=by kernel_rfl
theorem Hv (v:Value) (v2:Value) (x:Nat) (b5:Nat) (bJ:Value) (other:Value) (u3:Value) (e3:Int) (u4:Value) (e4:Int) (u5:Value) (e5:Int) (u6:Value) (e6:Int) (u7:Value) (e7:Int) (u8:Value) (e8:Int) (u9:Value) (e9:Int) (u10:Value) (e10:Int) (u11:Value) (e11:Int) (u12:Value) (Md:Int):cP prog (qG prog) f3.ntmps bL ((aK (cA sP)).extract 2 7) [.slot 124 (.tu [.im u12,.im (iV Md)]),.slot 124 (.im (.tuple #[u12,(iV Md)])),.slot 0 (.im v),.slot 1 (.im v2),.slot 5 (.im (aT b5 0)),.slot 7 (.im bJ),.slot 8 (.im other),.slot 9 (.im u11),.slot 10 (.im (iV e11))] [.slot 0 (.im v),.slot 1 (.im v2),.slot 5 (.im (aT b5 0)),.slot 7 (.im bJ),.slot 8 (.im other),.slot 9 (.im u11),.slot 10 (.im (iV e11)),.slot 11 (.im u12),.slot 12 (.im (iV Md))]=some ([],[.slot 0 (.im v),.slot 1 (.im v2),.slot 5 (.im (aT b5 0)),.slot 7 (.im bJ),.slot 8 (.im other),.slot 9 (.im u11),.slot 10 (.im (iV e11)),.slot 11 (.im u12),.slot 12 (.im (iV Md))]):=by kernel_rfl
def YZ (w:World) (num:Nat→Option Value) (_:Nat):Cfg:=⟨fun _=>(MF.add 19 (g0 (.one (.im (.bool true))))).add 9 (Jd w),fun _=>true,num⟩
theorem Zf (W:World) (v v2 bJ other u3 u4 u5 u6:Value) (b5:Nat) (E E':Int):aH prog (qG prog) f3.ntmps (YZ W (aE [(52,.bool false),(57,.bool false),(63,.bool false),(69,.bool false)])) 60 (cA KT) [.slot 0 (.im v),.slot 1 (.im v2),.slot 5 (.im (aT b5 0)),.slot 7 (.im bJ),.slot 8 (.im other),.slot 9 (.im u3),.slot 10 (.im (iV E)),.slot 11 (.im u4),.slot 12 (.im (iV E)),.slot 13 (.im u5),.slot 14 (.im (iV E')),.slot 15 (.im u6),.slot 16 (.im (iV E'))] [.slot 0 (.im v),.slot 1 (.im v2),.slot 5 (.im (aT b5 0)),.slot 7 (.im bJ),.slot 8 (.im other)]=some ([Alk W u3 u4,Value.bool (!true)=.bool false,aC .neq .i64 E E=some (.bool false),Alk W u5 u6,Value.bool (!true)=.bool false,aC .neq .i64 E' E'=some (.bool false)],.nrm,[.slot 0 (.im v),.slot 1 (.im v2),.slot 5 (.im (aT b5 0)),.slot 7 (.im bJ),.slot 8 (.im other)]):=by kernel_rfl
theorem Ru (W:World) (v v2 bJ other u7 u8 u9 u10:Value) (b5:Nat) (E E':Int):aH prog (qG prog) f3.ntmps (YZ W (aE [(98,.bool false),(103,.bool false),(109,.bool false),(115,.bool false)])) 60 (cA vD) [.slot 0 (.im v),.slot 1 (.im v2),.slot 5 (.im (aT b5 0)),.slot 7 (.im bJ),.slot 8 (.im other),.slot 9 (.im u7),.slot 10 (.im (iV E)),.slot 11 (.im u8),.slot 12 (.im (iV E)),.slot 13 (.im u9),.slot 14 (.im (iV E')),.slot 15 (.im u10),.slot 16 (.im (iV E'))] [.slot 0 (.im v),.slot 1 (.im v2),.slot 5 (.im (aT b5 0)),.slot 7 (.im bJ),.slot 8 (.im other)]=some ([Alk W u7 u8,Value.bool (!true)=.bool false,aC .neq .i64 E E=some (.bool false),Alk W u9 u10,Value.bool (!true)=.bool false,aC .neq .i64 E' E'=some (.bool false)],.nrm,[.slot 0 (.im v),.slot 1 (.im v2),.slot 5 (.im (aT b5 0)),.slot 7 (.im bJ),.slot 8 (.im other)]):=by kernel_rfl
def Zi (v:Value) (N:Nat) (f:Nat→Nat) (_:Nat):Cfg:=⟨fun _=>MF.add 17 (Ju v N f),fun _=>true,fun _=>none⟩
def Zh (v:Value) (N:Nat) (f:Nat→Nat) (_:Nat):Cfg:=⟨fun _=>MF.add 18 (Jt v N f),fun _=>true,fun _=>none⟩
def Ib (v v2 bJ other u11 u12:Value) (b5:Nat) (E:Int):List Fact:=[.slot 0 (.im v),.slot 1 (.im v2),.slot 5 (.im (aT b5 0)),.slot 7 (.im bJ),.slot 8 (.im other),.slot 9 (.im u11),.slot 10 (.im (iV E)),.slot 11 (.im u12),.slot 12 (.im (iV E))]
def Ma (r:Nat) (e:Int):List Fact:=[.slot 17 (.pt 17 0),.row 17 true [.q r],.slot 18 (.im (iV e))]
def Zg (r:Nat) (e:Int):List Fact:=[.slot 19 (.pt 19 0),.row 19 true [.q r],.slot 20 (.im (iV e))]
theorem Rt (W:World) (v v2 bJ other u11 u12:Value) (b5 x N:Nat) (f:Nat→Nat) (E:Int):aH prog { qG prog with x:=xO W (fun _=>none) (aE [(129,[.q x])]) (fun _=>none) } f3.ntmps (Zi bJ N f) 60 (cA vC) (Ib v v2 bJ other u11 u12 b5 E) (Ma (SS N f x) (fB N f x)++Ib v v2 bJ other u11 u12 b5 E)=some ([oldOf W b5 0 [.q x],cL [.q x]=4,bJ=bJ,x<bQ],.nrm,Ma (SS N f x) (fB N f x)++Ib v v2 bJ other u11 u12 b5 E):=by kernel_rfl
theorem Rs (W:World) (v v2 bJ other u11 u12:Value) (b5 x N r:Nat) (f:Nat→Nat) (E e:Int):aH prog { qG prog with x:=xO W (fun _=>none) (aE [(135,[.q x])]) (fun _=>none) } f3.ntmps (Zh v N f) 60 (cA QS) (Ma r e++Ib v v2 bJ other u11 u12 b5 E) (Zg (SS N f x) (fB N f x)++(Ma r e++Ib v v2 bJ other u11 u12 b5 E))=some ([oldOf W b5 0 [.q x],cL [.q x]=4,v=v,x<bQ],.nrm,Zg (SS N f x) (fB N f x)++(Ma r e++Ib v v2 bJ other u11 u12 b5 E)):=by kernel_rfl
theorem Rq (W:World) (v v2 bJ other u11 u12:Value) (b5 r:Nat) (E e:Int):aH prog (qG prog) f3.ntmps (YZ W (aE [(146,.bool true),(157,.bool true)])) 60 Dn (Zg r e++(Ma r e++Ib v v2 bJ other u11 u12 b5 E)) [.slot 6 (.im (.bool true))]=some ([Alk W u11 u12,aC .eql .i64 E E=some (.bool true),aB [.q r]=aB [.q r],aC .eql .i64 e e=some (.bool true),Alk W bJ v,Alk W other v2],.rt,[.slot 6 (.im (.bool true))]):=by kernel_rfl
theorem YQ (c:Int):aC .neq .i64 c c=some (.bool false):=by
 show some (Value.bool (!(c==c)))=_;simp
theorem DO {w0:World} {v v2:Value} {N M x:Nat} {f g:Nat→Nat} (hv:LV w0 v N f) (hv2:LV w0 v2 M g) (hp:Ln v) (hp2:Ln v2) (hN:N*32≤140737488355328) (hM:M*32≤140737488355328) (hx:x<bQ):bI prog 3 (.one (.im (.bool true))) [v,v2,.agg (aB [At.q x]).toArray] w0:=by
 have hN1:N≤2305843009213693952:=by omega
 have hM1:M≤2305843009213693952:=by omega
 have hN2:N≤4611686018427387904:=by omega
 have hM2:M≤4611686018427387904:=by omega
 obtain⟨n3,g3,E3,hn3,ca,cra⟩:=UI (f:=f) (g:=g) hN1 hM1;obtain⟨n4,g4,E4,hn4,cs,crs⟩:=NL (f:=f) (g:=g) hN1 hM1;obtain⟨n5,g5,E5,hn5,cc,crc⟩:=WG (f:=f) hN1 hx;obtain⟨n7,g7,E7,hn7,ct,crt⟩:=VJ (f:=f) hN1;have hn6:=Hs N f M g;have hT:∀(base:Nat) (w:World) (d:Nat),TabOkW prog dB base w:=fun _ _ _=>aY.w _ _
 have hG:∀(base:Nat) (w:World),bO prog (qG prog) base w:=fun _ _=>(bE _).w _ _
 have hS:∀(W:World) (num:Nat→Option Value) (n d:Nat),TabOkW prog ((YZ W num n).T d) W.heap.size W:=fun W _ _ _=>TabOkW.add ((GU.add func19 (by kernel_rfl) (by kernel_rfl) (SE BX)).w _ _) func9 (by kernel_rfl) (by kernel_rfl) fun w hw=>ZU hw
 have ev:∀c:Int,aC .eql .i64 c c=some (.bool true):=Ue
 refine bP func3 (cs:=[.v (.im v),.v (.im v2),.v (.fl [.q x])]) (args:=[v,v2,.agg (aB [At.q x]).toArray]) (c:=sT) rfl ⟨rfl,rfl,rfl,trivial⟩ (Nat.le_of_ble_eq_true (by kernel_rfl)) fun a w hA => ?_
 rw[YY];refine wp_seq (aA aG (fun _=>hT _ _) (hG _ _) (Qs v v2 x) trivial hA fun a w hA => ?_);obtain⟨b5,hA⟩:=hA.at (k:=5) (l:=[.q x]) (by simp[Do]);have o5:oldOf w b5 0 [.q x]:=hA.old (k:=5) (by simp[Do]) (by simp);refine wp_seq (bV (l:=List.range' 0 ((aK (cA uK)).extract 0 1).size++(1::(List.range' 2 ((aK (cA uK)).extract 2 3).size++(3::(List.range' 4 ((aK (cA uK)).extract 4 6).size++[]))))) (by kernel_rfl) ?_);refine aI (c:=bL) (hT _ _) (hG _ _) (Rp v v2 x b5) trivial (by kernel_rfl) hA fun a w hA => ?_
 have o5:oldOf w b5 0 [.q x]:=hA.old (k:=5) (by simp[Do]) (by simp);obtain⟨o,ho,⟨ts,hoo⟩,hod,hog⟩:∃o,(aK (cA uK))[1]?=some o∧(∃ts,o.op=.call ⟨.value (.func 4),#[.tmp 21],ts⟩)∧o.dst=some 22∧o.guard=none:=⟨_,rfl,⟨_,rfl⟩,rfl,rfl⟩
 refine eK hA ho hoo hod hog (Nat.le_of_ble_eq_true (by kernel_rfl)) (vs:=[v]) rfl (ks:=[0,1,5]) (keep:=[(0,.im v),(1,.im v2),(5,.im (aT b5 0))]) rfl rfl (bF func4 (by kernel_rfl) (by kernel_rfl)) (Ej (hv.on hA.below) hN hp) fun e W1 hW => ?_
 obtain⟨bJ,rfl,hb,l1⟩:=hW;refine⟨_,rfl,fun a hF => ?_⟩;have hF:Holds f3.ntmps W1.heap.size W1 (.slot 22 (.im bJ)::Mb v v2 b5) a W1:=hF;have B1:Below w0.heap.size w0 W1:=hA.below.trans (hb.mono hA.below.size);have o5:=oldOf.go hb (Nat.le_refl _) o5;have hv:=hv.on B1;have hv2:=hv2.on B1;clear hA hb;refine aI (c:=bL) (hT _ _) (hG _ _) (Rm v v2 bJ b5) trivial (by kernel_rfl) hF fun a w hA => ?_
 clear hF;obtain⟨o,ho,⟨ts,hoo⟩,hod,hog⟩:∃o,(aK (cA uK))[3]?=some o∧(∃ts,o.op=.call ⟨.value (.func 4),#[.tmp 23],ts⟩)∧o.dst=some 24∧o.guard=none:=⟨_,rfl,⟨_,rfl⟩,rfl,rfl⟩
 refine eK hA ho hoo hod hog (Nat.le_of_ble_eq_true (by kernel_rfl)) (vs:=[v2]) rfl (ks:=[22,0,1,5]) (keep:=[(22,.im bJ),(0,.im v),(1,.im v2),(5,.im (aT b5 0))]) rfl rfl (bF func4 (by kernel_rfl) (by kernel_rfl)) (Ej (hv2.on hA.below) hM hp2) fun e W2 hW => ?_
 obtain⟨other,rfl,hb,l2⟩:=hW;refine⟨_,rfl,fun a hF => ?_⟩;have hF:Holds f3.ntmps W2.heap.size W2 (.slot 24 (.im other) :: .slot 22 (.im bJ)::Mb v v2 b5) a W2:=hF;have C2:Below W1.heap.size W1 W2:=hA.below.trans (hb.mono hA.below.size);have B2:Below w0.heap.size w0 W2:=B1.trans (C2.mono B1.size);have o5:=oldOf.go C2 (Nat.le_refl _) o5;have hv:=hv.on C2;have hv2:=hv2.on C2;have l1:=l1.on C2;clear hA hb;refine aI (c:=bL) (hT _ _) (hG _ _) (Rl v v2 bJ other b5) trivial (by kernel_rfl) hF fun a w hA => ?_
 clear hF;show (Code.seq _ _).wp _ _ _ _;refine wp_seq (bV (l:=List.range' 0 ((aK (cA EP)).extract 0 2).size++(2::(List.range' 3 ((aK (cA EP)).extract 3 8).size++[]))) (by kernel_rfl) ?_);refine aI (c:=bL) (hT _ _) (cE W2 _ _ _) (Rk W2 v v2 x b5 bJ other) trivial (by kernel_rfl) hA fun a w hA => ?_
 obtain⟨o,ho,⟨ts,hoo⟩,hod,hog⟩:∃o,(aK (cA EP))[2]?=some o∧(∃ts,o.op=.call ⟨.value (.func 5),#[.tmp 26,.tmp 27],ts⟩)∧o.dst=some 28∧o.guard=none:=⟨_,rfl,⟨_,rfl⟩,rfl,rfl⟩
 refine eK hA ho hoo hod hog (Nat.le_of_ble_eq_true (by kernel_rfl)) (vs:=[bJ,other]) rfl (ks:=[0,1,5,7,8]) (keep:=[(0,.im v),(1,.im v2),(5,.im (aT b5 0)),(7,.im bJ),(8,.im other)]) rfl rfl (bF func5 (by kernel_rfl) (by kernel_rfl)) (ca w bJ other (l1.on hA.below) (l2.on hA.below)) fun e W3 hW => ?_
 obtain⟨u3,rfl,hb,l3⟩:=hW;refine⟨_,rfl,fun a hF => ?_⟩;have hF:Holds f3.ntmps W3.heap.size W3 [.slot 28 (.im (.tuple #[u3,(iV E3)])),.slot 0 (.im v),.slot 1 (.im v2),.slot 5 (.im (aT b5 0)),.slot 7 (.im bJ),.slot 8 (.im other)] a W3:=hF;have hF:=hF.imTu (s:=28) (l:=[.im u3,.im (iV E3)]) (List.mem_of_getElem? (i:=0) rfl) rfl;have C3:Below W2.heap.size W2 W3:=hA.below.trans (hb.mono hA.below.size);have B3:Below w0.heap.size w0 W3:=B2.trans (C3.mono B2.size);have o5:=oldOf.go C3 (Nat.le_refl _) o5;have hv:=hv.on C3;have hv2:=hv2.on C3;have l1:=l1.on C3;have l2:=l2.on C3;clear hA;refine aI (c:=bL) (hT _ _) (hG _ _) (Rj v v2 x b5 bJ other u3 E3) trivial (by kernel_rfl) hF fun a w hA => ?_
 clear hF;show (Code.seq _ _).wp _ _ _ _;refine wp_seq (bV (l:=List.range' 0 ((aK (cA EO)).extract 0 2).size++(2::(List.range' 3 ((aK (cA EO)).extract 3 8).size++[]))) (by kernel_rfl) ?_);refine aI (c:=bL) (hT _ _) (cE W3 _ _ _) (Rh W3 v v2 x b5 bJ other u3 E3) trivial (by kernel_rfl) hA fun a w hA => ?_
 obtain⟨o,ho,⟨ts,hoo⟩,hod,hog⟩:∃o,(aK (cA EO))[2]?=some o∧(∃ts,o.op=.call ⟨.value (.func 6),#[.tmp 32,.tmp 33],ts⟩)∧o.dst=some 34∧o.guard=none:=⟨_,rfl,⟨_,rfl⟩,rfl,rfl⟩
 refine eK hA ho hoo hod hog (Nat.le_of_ble_eq_true (by kernel_rfl)) (vs:=[v,v2]) rfl (ks:=[0,1,5,7,8,9,10]) (keep:=[(0,.im v),(1,.im v2),(5,.im (aT b5 0)),(7,.im bJ),(8,.im other),(9,.im u3),(10,.im (iV E3))]) rfl rfl (bF func6 (by kernel_rfl) (by kernel_rfl)) (cra w v v2 (hv.on hA.below) (hv2.on hA.below)) fun e W4 hW => ?_
 obtain⟨u4,rfl,hb,l4⟩:=hW;refine⟨_,rfl,fun a hF => ?_⟩;have hF:Holds f3.ntmps W4.heap.size W4 [.slot 34 (.im (.tuple #[u4,(iV E3)])),.slot 0 (.im v),.slot 1 (.im v2),.slot 5 (.im (aT b5 0)),.slot 7 (.im bJ),.slot 8 (.im other),.slot 9 (.im u3),.slot 10 (.im (iV E3))] a W4:=hF;have hF:=hF.imTu (s:=34) (l:=[.im u4,.im (iV E3)]) (List.mem_of_getElem? (i:=0) rfl) rfl;have C4:Below W3.heap.size W3 W4:=hA.below.trans (hb.mono hA.below.size);have B4:Below w0.heap.size w0 W4:=B3.trans (C4.mono B3.size);have o5:=oldOf.go C4 (Nat.le_refl _) o5;have hv:=hv.on C4;have hv2:=hv2.on C4;have l1:=l1.on C4;have l2:=l2.on C4;have l3:=l3.on C4;clear hA;refine aI (c:=bL) (hT _ _) (hG _ _) (Rg v v2 x b5 bJ other u3 E3 u4 E3) trivial (by kernel_rfl) hF fun a w hA => ?_
 clear hF;show (Code.seq _ _).wp _ _ _ _;refine wp_seq (bV (l:=List.range' 0 ((aK (cA EN)).extract 0 2).size++(2::(List.range' 3 ((aK (cA EN)).extract 3 8).size++[]))) (by kernel_rfl) ?_);refine aI (c:=bL) (hT _ _) (cE W4 _ _ _) (Rf W4 v v2 x b5 bJ other u3 E3 u4 E3) trivial (by kernel_rfl) hA fun a w hA => ?_
 obtain⟨o,ho,⟨ts,hoo⟩,hod,hog⟩:∃o,(aK (cA EN))[2]?=some o∧(∃ts,o.op=.call ⟨.value (.func 7),#[.tmp 38,.tmp 39],ts⟩)∧o.dst=some 40∧o.guard=none:=⟨_,rfl,⟨_,rfl⟩,rfl,rfl⟩
 refine eK hA ho hoo hod hog (Nat.le_of_ble_eq_true (by kernel_rfl)) (vs:=[bJ,other]) rfl (ks:=[0,1,5,7,8,9,10,11,12]) (keep:=[(0,.im v),(1,.im v2),(5,.im (aT b5 0)),(7,.im bJ),(8,.im other),(9,.im u3),(10,.im (iV E3)),(11,.im u4),(12,.im (iV E3))]) rfl rfl (bF func7 (by kernel_rfl) (by kernel_rfl)) (cs w bJ other (l1.on hA.below) (l2.on hA.below)) fun e W5 hW => ?_
 obtain⟨u5,rfl,hb,l5⟩:=hW;refine⟨_,rfl,fun a hF => ?_⟩;have hF:Holds f3.ntmps W5.heap.size W5 [.slot 40 (.im (.tuple #[u5,(iV E4)])),.slot 0 (.im v),.slot 1 (.im v2),.slot 5 (.im (aT b5 0)),.slot 7 (.im bJ),.slot 8 (.im other),.slot 9 (.im u3),.slot 10 (.im (iV E3)),.slot 11 (.im u4),.slot 12 (.im (iV E3))] a W5:=hF;have hF:=hF.imTu (s:=40) (l:=[.im u5,.im (iV E4)]) (List.mem_of_getElem? (i:=0) rfl) rfl;have C5:Below W4.heap.size W4 W5:=hA.below.trans (hb.mono hA.below.size);have B5:Below w0.heap.size w0 W5:=B4.trans (C5.mono B4.size);have o5:=oldOf.go C5 (Nat.le_refl _) o5;have hv:=hv.on C5;have hv2:=hv2.on C5;have l1:=l1.on C5;have l2:=l2.on C5;have l3:=l3.on C5;have l4:=l4.on C5;clear hA;refine aI (c:=bL) (hT _ _) (hG _ _) (Re v v2 x b5 bJ other u3 E3 u4 E3 u5 E4) trivial (by kernel_rfl) hF fun a w hA => ?_
 clear hF;show (Code.seq _ _).wp _ _ _ _;refine wp_seq (bV (l:=List.range' 0 ((aK (cA EM)).extract 0 2).size++(2::(List.range' 3 ((aK (cA EM)).extract 3 8).size++[]))) (by kernel_rfl) ?_);refine aI (c:=bL) (hT _ _) (cE W5 _ _ _) (Rc W5 v v2 x b5 bJ other u3 E3 u4 E3 u5 E4) trivial (by kernel_rfl) hA fun a w hA => ?_
 obtain⟨o,ho,⟨ts,hoo⟩,hod,hog⟩:∃o,(aK (cA EM))[2]?=some o∧(∃ts,o.op=.call ⟨.value (.func 8),#[.tmp 44,.tmp 45],ts⟩)∧o.dst=some 46∧o.guard=none:=⟨_,rfl,⟨_,rfl⟩,rfl,rfl⟩
 refine eK hA ho hoo hod hog (Nat.le_of_ble_eq_true (by kernel_rfl)) (vs:=[v,v2]) rfl (ks:=[0,1,5,7,8,9,10,11,12,13,14]) (keep:=[(0,.im v),(1,.im v2),(5,.im (aT b5 0)),(7,.im bJ),(8,.im other),(9,.im u3),(10,.im (iV E3)),(11,.im u4),(12,.im (iV E3)),(13,.im u5),(14,.im (iV E4))]) rfl rfl (bF func8 (by kernel_rfl) (by kernel_rfl)) (crs w v v2 (hv.on hA.below) (hv2.on hA.below)) fun e W6 hW => ?_
 obtain⟨u6,rfl,hb,l6⟩:=hW;refine⟨_,rfl,fun a hF => ?_⟩;have hF:Holds f3.ntmps W6.heap.size W6 [.slot 46 (.im (.tuple #[u6,(iV E4)])),.slot 0 (.im v),.slot 1 (.im v2),.slot 5 (.im (aT b5 0)),.slot 7 (.im bJ),.slot 8 (.im other),.slot 9 (.im u3),.slot 10 (.im (iV E3)),.slot 11 (.im u4),.slot 12 (.im (iV E3)),.slot 13 (.im u5),.slot 14 (.im (iV E4))] a W6:=hF;have hF:=hF.imTu (s:=46) (l:=[.im u6,.im (iV E4)]) (List.mem_of_getElem? (i:=0) rfl) rfl;have C6:Below W5.heap.size W5 W6:=hA.below.trans (hb.mono hA.below.size);have B6:Below w0.heap.size w0 W6:=B5.trans (C6.mono B5.size);have o5:=oldOf.go C6 (Nat.le_refl _) o5;have hv:=hv.on C6;have hv2:=hv2.on C6;have l1:=l1.on C6;have l2:=l2.on C6;have l3:=l3.on C6;have l4:=l4.on C6;have l5:=l5.on C6;clear hA;refine aI (c:=bL) (hT _ _) (hG _ _) (Rb v v2 x b5 bJ other u3 E3 u4 E3 u5 E4 u6 E4) trivial (by kernel_rfl) hF fun a w hA => ?_
 clear hF;show KT.wp _ _ _ _;rw[Qt];refine wp_seq (aA aG (hS _ _) (hG _ _) (Zf W6 v v2 bJ other u3 u4 u5 u6 b5 E3 E4) ⟨⟨n3,g3,g3,l3.lw,l4.lw,fun _ _=>rfl,hn3⟩,rfl,YQ _,⟨n4,g4,g4,l5.lw,l6.lw,fun _ _=>rfl,hn4⟩,rfl,YQ _,trivial⟩ hA fun a w hA => ?_);have B6w:=hA.below;show (Code.seq _ _).wp _ _ _ _;refine wp_seq (bV (l:=List.range' 0 ((aK (cA EL)).extract 0 2).size++(2::(List.range' 3 ((aK (cA EL)).extract 3 8).size++[]))) (by kernel_rfl) ?_);refine aI (c:=bL) (hT _ _) (cE W6 _ _ _) (Qz W6 v v2 x b5 bJ other u3 E3 u4 E3 u5 E4 u6 E4) ⟨o5,rfl,trivial⟩ (by kernel_rfl) hA fun a w hA => ?_
 obtain⟨o,ho,⟨ts,hoo⟩,hod,hog⟩:∃o,(aK (cA EL))[2]?=some o∧(∃ts,o.op=.call ⟨.value (.func 11),#[.tmp 72,.tmp 73],ts⟩)∧o.dst=some 74∧o.guard=none:=⟨_,rfl,⟨_,rfl⟩,rfl,rfl⟩
 refine eK hA ho hoo hod hog (Nat.le_of_ble_eq_true (by kernel_rfl)) (vs:=[bJ,.agg (aB [.q x]).toArray]) rfl (ks:=[0,1,5,7,8]) (keep:=[(0,.im v),(1,.im v2),(5,.im (aT b5 0)),(7,.im bJ),(8,.im other)]) rfl rfl (bF func11 (by kernel_rfl) (by kernel_rfl)) (cc w bJ (l1.on hA.below)) fun e W7 hW => ?_
 obtain⟨u7,rfl,hb,l7⟩:=hW;refine⟨_,rfl,fun a hF => ?_⟩;have hF:Holds f3.ntmps W7.heap.size W7 [.slot 74 (.im (.tuple #[u7,(iV E5)])),.slot 0 (.im v),.slot 1 (.im v2),.slot 5 (.im (aT b5 0)),.slot 7 (.im bJ),.slot 8 (.im other)] a W7:=hF;have hF:=hF.imTu (s:=74) (l:=[.im u7,.im (iV E5)]) (List.mem_of_getElem? (i:=0) rfl) rfl;have C7:Below W6.heap.size W6 W7:=hA.below.trans (hb.mono hA.below.size);have B7:Below w0.heap.size w0 W7:=B6.trans (C7.mono B6.size);have o5:=oldOf.go C7 (Nat.le_refl _) o5;have hv:=hv.on C7;have hv2:=hv2.on C7;have l1:=l1.on C7;have l2:=l2.on C7;have l3:=l3.on C7;have l4:=l4.on C7;have l5:=l5.on C7;have l6:=l6.on C7;clear hA;refine aI (c:=bL) (hT _ _) (hG _ _) (Qy v v2 x b5 bJ other u3 E3 u4 E3 u5 E4 u6 E4 u7 E5) trivial (by kernel_rfl) hF fun a w hA => ?_
 clear hF;show (Code.seq _ _).wp _ _ _ _;refine wp_seq (bV (l:=List.range' 0 ((aK (cA EK)).extract 0 2).size++(2::(List.range' 3 ((aK (cA EK)).extract 3 8).size++[]))) (by kernel_rfl) ?_);refine aI (c:=bL) (hT _ _) (cE W7 _ _ _) (Qx W7 v v2 x b5 bJ other u3 E3 u4 E3 u5 E4 u6 E4 u7 E5) ⟨o5,rfl,trivial⟩ (by kernel_rfl) hA fun a w hA => ?_
 obtain⟨o,ho,⟨ts,hoo⟩,hod,hog⟩:∃o,(aK (cA EK))[2]?=some o∧(∃ts,o.op=.call ⟨.value (.func 12),#[.tmp 78,.tmp 79],ts⟩)∧o.dst=some 80∧o.guard=none:=⟨_,rfl,⟨_,rfl⟩,rfl,rfl⟩
 refine eK hA ho hoo hod hog (Nat.le_of_ble_eq_true (by kernel_rfl)) (vs:=[v,.agg (aB [.q x]).toArray]) rfl (ks:=[0,1,5,7,8,9,10]) (keep:=[(0,.im v),(1,.im v2),(5,.im (aT b5 0)),(7,.im bJ),(8,.im other),(9,.im u7),(10,.im (iV E5))]) rfl rfl (bF func12 (by kernel_rfl) (by kernel_rfl)) (crc w v (hv.on hA.below)) fun e W8 hW => ?_
 obtain⟨u8,rfl,hb,l8⟩:=hW;refine⟨_,rfl,fun a hF => ?_⟩;have hF:Holds f3.ntmps W8.heap.size W8 [.slot 80 (.im (.tuple #[u8,(iV E5)])),.slot 0 (.im v),.slot 1 (.im v2),.slot 5 (.im (aT b5 0)),.slot 7 (.im bJ),.slot 8 (.im other),.slot 9 (.im u7),.slot 10 (.im (iV E5))] a W8:=hF;have hF:=hF.imTu (s:=80) (l:=[.im u8,.im (iV E5)]) (List.mem_of_getElem? (i:=0) rfl) rfl;have C8:Below W7.heap.size W7 W8:=hA.below.trans (hb.mono hA.below.size);have B8:Below w0.heap.size w0 W8:=B7.trans (C8.mono B7.size);have o5:=oldOf.go C8 (Nat.le_refl _) o5;have hv:=hv.on C8;have hv2:=hv2.on C8;have l1:=l1.on C8;have l2:=l2.on C8;have l3:=l3.on C8;have l4:=l4.on C8;have l5:=l5.on C8;have l6:=l6.on C8;have l7:=l7.on C8;clear hA;refine aI (c:=bL) (hT _ _) (hG _ _) (Qw v v2 x b5 bJ other u3 E3 u4 E3 u5 E4 u6 E4 u7 E5 u8 E5) trivial (by kernel_rfl) hF fun a w hA => ?_
 clear hF;show (Code.seq _ _).wp _ _ _ _;refine wp_seq (bV (l:=List.range' 0 ((aK (cA sS)).extract 0 2).size++(2::(List.range' 3 ((aK (cA sS)).extract 3 8).size++[]))) (by kernel_rfl) ?_);refine aI (c:=bL) (hT _ _) (cE W8 _ _ _) (Qv W8 v v2 x b5 bJ other u3 E3 u4 E3 u5 E4 u6 E4 u7 E5 u8 E5) trivial (by kernel_rfl) hA fun a w hA => ?_
 obtain⟨o,ho,⟨ts,hoo⟩,hod,hog⟩:∃o,(aK (cA sS))[2]?=some o∧(∃ts,o.op=.call ⟨.value (.func 13),#[.tmp 84,.tmp 85],ts⟩)∧o.dst=some 86∧o.guard=none:=⟨_,rfl,⟨_,rfl⟩,rfl,rfl⟩
 refine eK hA ho hoo hod hog (Nat.le_of_ble_eq_true (by kernel_rfl)) (vs:=[bJ,other]) rfl (ks:=[0,1,5,7,8,9,10,11,12]) (keep:=[(0,.im v),(1,.im v2),(5,.im (aT b5 0)),(7,.im bJ),(8,.im other),(9,.im u7),(10,.im (iV E5)),(11,.im u8),(12,.im (iV E5))]) rfl rfl (bF func13 (by kernel_rfl) (by kernel_rfl)) (Qm (l1.on hA.below) (l2.on hA.below) hN1 hM1) fun e W9 hW => ?_
 obtain⟨u9,rfl,hb,l9⟩:=hW;refine⟨_,rfl,fun a hF => ?_⟩;have hF:Holds f3.ntmps W9.heap.size W9 [.slot 86 (.im (.tuple #[u9,(iV (sM N f M g))])),.slot 0 (.im v),.slot 1 (.im v2),.slot 5 (.im (aT b5 0)),.slot 7 (.im bJ),.slot 8 (.im other),.slot 9 (.im u7),.slot 10 (.im (iV E5)),.slot 11 (.im u8),.slot 12 (.im (iV E5))] a W9:=hF;have hF:=hF.imTu (s:=86) (l:=[.im u9,.im (iV (sM N f M g))]) (List.mem_of_getElem? (i:=0) rfl) rfl;have C9:Below W8.heap.size W8 W9:=hA.below.trans (hb.mono hA.below.size);have B9:Below w0.heap.size w0 W9:=B8.trans (C9.mono B8.size);have o5:=oldOf.go C9 (Nat.le_refl _) o5;have hv:=hv.on C9;have hv2:=hv2.on C9;have l1:=l1.on C9;have l2:=l2.on C9;have l3:=l3.on C9;have l4:=l4.on C9;have l5:=l5.on C9;have l6:=l6.on C9;have l7:=l7.on C9;have l8:=l8.on C9;clear hA;refine aI (c:=bL) (hT _ _) (hG _ _) (Qu v v2 x b5 bJ other u3 E3 u4 E3 u5 E4 u6 E4 u7 E5 u8 E5 u9 (sM N f M g)) trivial (by kernel_rfl) hF fun a w hA => ?_
 clear hF;show (Code.seq _ _).wp _ _ _ _;refine wp_seq (bV (l:=List.range' 0 ((aK (cA sR)).extract 0 2).size++(2::(List.range' 3 ((aK (cA sR)).extract 3 8).size++[]))) (by kernel_rfl) ?_);refine aI (c:=bL) (hT _ _) (cE W9 _ _ _) (Ia W9 v v2 x b5 bJ other u3 E3 u4 E3 u5 E4 u6 E4 u7 E5 u8 E5 u9 (sM N f M g)) trivial (by kernel_rfl) hA fun a w hA => ?_
 obtain⟨o,ho,⟨ts,hoo⟩,hod,hog⟩:∃o,(aK (cA sR))[2]?=some o∧(∃ts,o.op=.call ⟨.value (.func 14),#[.tmp 90,.tmp 91],ts⟩)∧o.dst=some 92∧o.guard=none:=⟨_,rfl,⟨_,rfl⟩,rfl,rfl⟩
 refine eK hA ho hoo hod hog (Nat.le_of_ble_eq_true (by kernel_rfl)) (vs:=[v,v2]) rfl (ks:=[0,1,5,7,8,9,10,11,12,13,14]) (keep:=[(0,.im v),(1,.im v2),(5,.im (aT b5 0)),(7,.im bJ),(8,.im other),(9,.im u7),(10,.im (iV E5)),(11,.im u8),(12,.im (iV E5)),(13,.im u9),(14,.im (iV (sM N f M g)))]) rfl rfl (bF func14 (by kernel_rfl) (by kernel_rfl)) (On (hv.on hA.below) (hv2.on hA.below) hp hp2) fun e W10 hW => ?_
 obtain⟨u10,rfl,hb,l10⟩:=hW;refine⟨_,rfl,fun a hF => ?_⟩;have hF:Holds f3.ntmps W10.heap.size W10 [.slot 92 (.im (.tuple #[u10,(iV (sM N f M g))])),.slot 0 (.im v),.slot 1 (.im v2),.slot 5 (.im (aT b5 0)),.slot 7 (.im bJ),.slot 8 (.im other),.slot 9 (.im u7),.slot 10 (.im (iV E5)),.slot 11 (.im u8),.slot 12 (.im (iV E5)),.slot 13 (.im u9),.slot 14 (.im (iV (sM N f M g)))] a W10:=hF;have hF:=hF.imTu (s:=92) (l:=[.im u10,.im (iV (sM N f M g))]) (List.mem_of_getElem? (i:=0) rfl) rfl;have C10:Below W9.heap.size W9 W10:=hA.below.trans (hb.mono hA.below.size);have B10:Below w0.heap.size w0 W10:=B9.trans (C10.mono B9.size);have o5:=oldOf.go C10 (Nat.le_refl _) o5;have hv:=hv.on C10;have hv2:=hv2.on C10;have l1:=l1.on C10;have l2:=l2.on C10;have l3:=l3.on C10;have l4:=l4.on C10;have l5:=l5.on C10;have l6:=l6.on C10;have l7:=l7.on C10;have l8:=l8.on C10;have l9:=l9.on C10;clear hA;refine aI (c:=bL) (hT _ _) (hG _ _) (Hz v v2 x b5 bJ other u3 E3 u4 E3 u5 E4 u6 E4 u7 E5 u8 E5 u9 (sM N f M g) u10 (sM N f M g)) trivial (by kernel_rfl) hF fun a w hA => ?_
 clear hF;show vD.wp _ _ _ _;rw[Hu];refine wp_seq (aA aG (hS _ _) (hG _ _) (Ru W10 v v2 bJ other u7 u8 u9 u10 b5 E5 (sM N f M g)) ⟨⟨n5,g5,g5,l7.lw,l8.lw,fun _ _=>rfl,hn5⟩,rfl,YQ _,⟨_,_,_,l9.lw,l10.lw,fun _ _=>rfl,hn6⟩,rfl,YQ _,trivial⟩ hA fun a w hA => ?_);show (Code.seq _ _).wp _ _ _ _;refine wp_seq (bV (l:=List.range' 0 ((aK (cA sQ)).extract 0 1).size++(1::(List.range' 2 ((aK (cA sQ)).extract 2 7).size++[]))) (by kernel_rfl) ?_);refine aI (c:=bL) (hT _ _) (cE W10 _ _ _) (Hy W10 v v2 x b5 bJ other u3 E3 u4 E3 u5 E4 u6 E4 u7 E5 u8 E5 u9 (sM N f M g) u10 (sM N f M g)) trivial (by kernel_rfl) hA fun a w hA => ?_
 obtain⟨o,ho,⟨ts,hoo⟩,hod,hog⟩:∃o,(aK (cA sQ))[1]?=some o∧(∃ts,o.op=.call ⟨.value (.func 15),#[.tmp 118],ts⟩)∧o.dst=some 119∧o.guard=none:=⟨_,rfl,⟨_,rfl⟩,rfl,rfl⟩
 refine eK hA ho hoo hod hog (Nat.le_of_ble_eq_true (by kernel_rfl)) (vs:=[bJ]) rfl (ks:=[0,1,5,7,8]) (keep:=[(0,.im v),(1,.im v2),(5,.im (aT b5 0)),(7,.im bJ),(8,.im other)]) rfl rfl (bF func15 (by kernel_rfl) (by kernel_rfl)) (ct w bJ (l1.on hA.below)) fun e W11 hW => ?_
 obtain⟨u11,rfl,hb,l11⟩:=hW;refine⟨_,rfl,fun a hF => ?_⟩;have hF:Holds f3.ntmps W11.heap.size W11 [.slot 119 (.im (.tuple #[u11,(iV E7)])),.slot 0 (.im v),.slot 1 (.im v2),.slot 5 (.im (aT b5 0)),.slot 7 (.im bJ),.slot 8 (.im other)] a W11:=hF;have hF:=hF.imTu (s:=119) (l:=[.im u11,.im (iV E7)]) (List.mem_of_getElem? (i:=0) rfl) rfl;have C11:Below W10.heap.size W10 W11:=hA.below.trans (hb.mono hA.below.size);have B11:Below w0.heap.size w0 W11:=B10.trans (C11.mono B10.size);have o5:=oldOf.go C11 (Nat.le_refl _) o5;have hv:=hv.on C11;have hv2:=hv2.on C11;have l1:=l1.on C11;have l2:=l2.on C11;have l3:=l3.on C11;have l4:=l4.on C11;have l5:=l5.on C11;have l6:=l6.on C11;have l7:=l7.on C11;have l8:=l8.on C11;have l9:=l9.on C11;have l10:=l10.on C11;clear hA;refine aI (c:=bL) (hT _ _) (hG _ _) (Hx v v2 x b5 bJ other u3 E3 u4 E3 u5 E4 u6 E4 u7 E5 u8 E5 u9 (sM N f M g) u10 (sM N f M g) u11 E7) trivial (by kernel_rfl) hF fun a w hA => ?_
 clear hF;show (Code.seq _ _).wp _ _ _ _;refine wp_seq (bV (l:=List.range' 0 ((aK (cA sP)).extract 0 1).size++(1::(List.range' 2 ((aK (cA sP)).extract 2 7).size++[]))) (by kernel_rfl) ?_);refine aI (c:=bL) (hT _ _) (cE W11 _ _ _) (Hw W11 v v2 x b5 bJ other u3 E3 u4 E3 u5 E4 u6 E4 u7 E5 u8 E5 u9 (sM N f M g) u10 (sM N f M g) u11 E7) trivial (by kernel_rfl) hA fun a w hA => ?_
 obtain⟨o,ho,⟨ts,hoo⟩,hod,hog⟩:∃o,(aK (cA sP))[1]?=some o∧(∃ts,o.op=.call ⟨.value (.func 16),#[.tmp 123],ts⟩)∧o.dst=some 124∧o.guard=none:=⟨_,rfl,⟨_,rfl⟩,rfl,rfl⟩
 refine eK hA ho hoo hod hog (Nat.le_of_ble_eq_true (by kernel_rfl)) (vs:=[v]) rfl (ks:=[0,1,5,7,8,9,10]) (keep:=[(0,.im v),(1,.im v2),(5,.im (aT b5 0)),(7,.im bJ),(8,.im other),(9,.im u11),(10,.im (iV E7))]) rfl rfl (bF func16 (by kernel_rfl) (by kernel_rfl)) (crt w v (hv.on hA.below) hp) fun e W12 hW => ?_
 obtain⟨u12,rfl,hb,l12⟩:=hW;refine⟨_,rfl,fun a hF => ?_⟩;have hF:Holds f3.ntmps W12.heap.size W12 [.slot 124 (.im (.tuple #[u12,(iV E7)])),.slot 0 (.im v),.slot 1 (.im v2),.slot 5 (.im (aT b5 0)),.slot 7 (.im bJ),.slot 8 (.im other),.slot 9 (.im u11),.slot 10 (.im (iV E7))] a W12:=hF;have hF:=hF.imTu (s:=124) (l:=[.im u12,.im (iV E7)]) (List.mem_of_getElem? (i:=0) rfl) rfl;have C12:Below W11.heap.size W11 W12:=hA.below.trans (hb.mono hA.below.size);have B12:Below w0.heap.size w0 W12:=B11.trans (C12.mono B11.size);have o5:=oldOf.go C12 (Nat.le_refl _) o5;have hv:=hv.on C12;have hv2:=hv2.on C12;have l1:=l1.on C12;have l2:=l2.on C12;have l3:=l3.on C12;have l4:=l4.on C12;have l5:=l5.on C12;have l6:=l6.on C12;have l7:=l7.on C12;have l8:=l8.on C12;have l9:=l9.on C12;have l10:=l10.on C12;have l11:=l11.on C12;clear hA;refine aI (c:=bL) (hT _ _) (hG _ _) (Hv v v2 x b5 bJ other u3 E3 u4 E3 u5 E4 u6 E4 u7 E5 u8 E5 u9 (sM N f M g) u10 (sM N f M g) u11 E7 u12 E7) trivial (by kernel_rfl) hF fun a w hA => ?_
 clear hF;show vC.wp _ _ _ _;rw[Ht];refine wp_seq (aA aG (fun _ _=>TabOkW.add (GU.w _ _) func17 (by kernel_rfl) (by kernel_rfl) fun w hw=>Ah (l1.on hw) hN2) (cE W12 _ _ _) (Rt W12 v v2 bJ other u11 u12 b5 x N f E7) ⟨o5,rfl,rfl,hx,trivial⟩ hA fun a w hA => ?_);refine wp_seq (aA aG (fun _ _=>TabOkW.add (GU.w _ _) func18 (by kernel_rfl) (by kernel_rfl) fun w hw=>Ag (hv.on hw)) (cE W12 _ _ _) (Rs W12 v v2 bJ other u11 u12 b5 x N _ f E7 _) ⟨o5,rfl,rfl,hx,trivial⟩ hA fun a w hA => ?_);refine aA aG (hS _ _) (hG _ _) (Rq W12 v v2 bJ other u11 u12 b5 (SS N f x) E7 (fB N f x)) ⟨⟨n7,g7,g7,l11.lw,l12.lw,fun _ _=>rfl,hn7⟩,ev _,rfl,ev _,⟨N,f,f,l1.lw,hv.lw,fun _ _=>rfl,hN2⟩,⟨M,g,g,l2.lw,hv2.lw,fun _ _=>rfl,hM2⟩,trivial⟩ hA fun a w hA => ?_
 exact aX (bH (l:=[.im (.bool true)]) (r:=.one (.im (.bool true))) (by kernel_rfl) (by kernel_rfl) hA) fun e w h=>⟨h.1,B12.trans (h.2.mono B12.size)⟩
end Go.Proofs.YtjjnbgoepbiojaaGreat.Ex
namespace Go.Proofs.YtjjnbgoepbiojaaGreat
open Go.Proofs.Tryz
open Go.ChangeShapes Go.WideShapes Go.ChangeAt Go.RowKit
theorem bJ:ownKnob prog.godebug=none:=by kernel_rfl
theorem IF:laidOutB prog=true:=by kernel_rfl
theorem JM:prog.cellsOf 23=1:=by kernel_rfl
theorem Ry {α:Type} (l:List α) (h:(⟨l⟩:Array α).size=4):∃a b c d,l=[a,b,c,d]:=by
 match l,h with
 | [a,b,c,d],_=>exact⟨a,b,c,d,rfl⟩
theorem fN {n:Int} (h:(Lit.int .u64 n).wf=true):∃k:Nat,n=(k:Int)∧k<18446744073709551616:=by
 obtain⟨h1,h2⟩:=bounds_u64 h;obtain⟨k,rfl⟩:=Int.eq_ofNat_of_zero_le h1;exact⟨k,rfl,by omega⟩
end Go.Proofs.YtjjnbgoepbiojaaGreat
namespace Go.Proofs.YtjjnbgoepbiojaaGreat.Ex
open Go.Proofs.Tryz
open Go.Deep Go.ChangeShapes Go.WideShapes Go.ChangeAt Go.RowKit
theorem Wi {P:Program} {W:World} {base:Nat} {t n e:TypeId} {v:Value} (ht:P.underlying t=some (.array n e)) (h:Value.okWide P W .any base t v):∃cs,v=.agg cs∧cs.size=P.cellsOf t:=by
 obtain⟨cs,rfl,hs,_⟩:∃cs,v=.agg cs∧cs.size=P.cellsOf t∧Row.okWide P W .any base t cs:=by
  simpa[Value.okWide,ht]using h
 exact⟨cs,rfl,hs⟩
section
variable {H:Type} {enc:TypeId×Value→H} {W:World}
theorem Hn {base:Nat} {v:Value} {d:DataW H} {ps:List MemPlace} {pt:Array TypeId} {args:Array Value} (hval:∀(j:Nat) t v,pt[j]?=some t→args[j]?=some v→Value.okWide prog W .any base t v) (j:Nat) (hj:pt[j]?=some 25) (ha:args[j]?=some v)
  (h:DataW.Trod enc prog W 0 (fun _=>true) true 25 v d ps):∃x:Nat,x<bQ∧v=.agg (aB [At.q x]).toArray:=by
 obtain⟨⟨l⟩,rfl,hs⟩:=Wi (t:=25) underlying25 (hval j 25 v hj ha);rw[show prog.cellsOf 25=4 by kernel_rfl]at hs;obtain⟨fuel,h⟩:=h;obtain⟨c0,c1,c2,c3,rfl⟩:=Ry l hs;obtain⟨y0,y1,y2,y3,m,hx,hy0,hy1,hy2,hy3⟩:=trod_array4 underlying25 JM h;obtain⟨x0,e0,rfl,w0⟩:=DataW.trod_int underlying23 hy0;obtain⟨x1,e1,rfl,w1⟩:=DataW.trod_int underlying23 hy1;obtain⟨x2,e2,rfl,w2⟩:=DataW.trod_int underlying23 hy2;obtain⟨x3,e3,rfl,w3⟩:=DataW.trod_int underlying23 hy3;simp at e0 e1 e2 e3;obtain⟨a0,rfl,k0⟩:=fN w0;obtain⟨a1,rfl,k1⟩:=fN w1;obtain⟨a2,rfl,k2⟩:=fN w2;obtain⟨a3,rfl,k3⟩:=fN w3;subst e0 e1 e2 e3;have hv:aD a0 a1 a2 a3<115792089237316195423570985008687907853269984665640564039457584007913129639936:=by unfold aD; omega
 obtain⟨q0,q1',q2',q3⟩:=lS ⟨k0,k1,k2,k3⟩ hv rfl;refine⟨aD a0 a1 a2 a3,hv,?_⟩;show _=Value.agg (w4 (aD a0 a1 a2 a3)++[]).toArray;unfold w4;rw[←q0,←q1',←q2',←q3];rfl
end
end Go.Proofs.YtjjnbgoepbiojaaGreat.Ex
namespace Go.Proofs.YtjjnbgoepbiojaaGreat
open Go.Proofs.Tryz
open Go.ChangeShapes Go.WideShapes Go.ChangeAt Go.RowKit
theorem vJ:prog.cellsOf 25=4:=by kernel_rfl
theorem CL:prog.cellsOf 23=1:=by kernel_rfl
theorem Ie (cs:List Value) (h:cs.length=4):∃c0 c1 c2 c3,cs=[c0,c1,c2,c3]:=by
 match cs,h with
 | [c0,c1,c2,c3],_=>exact⟨c0,c1,c2,c3,rfl⟩
theorem QB {H:Type} {enc:TypeId×Value→H} {W:World} {o:Option Addr} {len cap:Nat} {d:DataW H} {ps:List MemPlace} (h:DataW.Trod enc prog W 0 (fun _=>true) true 22 (.slice o len cap) d ps) (hl:∀x∈ps,x.block<W.heap.size) :
  len≤9223372036854775807∧(len=0∨(0<len∧∃g off A,o=some ⟨g,off,none⟩∧g<W.heap.size∧LOk len A∧LAt W g off len A)):=by
 obtain⟨fuel,hf⟩:=h
 rcases DataW.trod_slice underlying22 hf with⟨hcs,_⟩|⟨a,len',cap',elems,rest,n,_,hcs,hx,hb,hlc,hm,hlen,hel,_⟩
 ·simp[Value.cells]at hcs;obtain⟨rfl,rfl,rfl⟩:=hcs;exact⟨by omega,Or.inl rfl⟩
 ·simp[Value.cells]at hcs;obtain⟨rfl,rfl,rfl⟩:=hcs;refine⟨by unfold maxLen at hm; omega,?_⟩
  by_cases h0:len=0
  ·exact Or.inl h0
  right;refine⟨by omega,?_⟩;rw[vJ]at hel;have each:∀i,i<len→∃q:Nat×Nat×Nat×Nat,cK q.1 q.2.1 q.2.2.1 q.2.2.2∧W.cell? (a.add (i*4))=some (.int .u64 q.1)∧W.cell? (a.add (i*4+1))=some (.int .u64 q.2.1)∧W.cell? (a.add (i*4+2))=some (.int .u64 q.2.2.1)∧W.cell? (a.add (i*4+3))=some (.int .u64 q.2.2.2):=by
   intro i hi;have e1:=hel i hi;rw[List.getElem?_eq_getElem (by omega),Option.bind_eq_some_iff]at e1;obtain⟨cs',h1,h2⟩:=e1;obtain⟨_,hlen',hcell⟩:=World.cells?_some h1;obtain⟨c0,c1,c2,c3,rfl⟩:=Ie cs' hlen';obtain⟨y0,y1,y2,y3,m,_,hy0,hy1,hy2,hy3⟩:=trod_array4 underlying25 CL h2;obtain⟨x0,e0,_,w0⟩:=DataW.trod_int underlying23 hy0;obtain⟨x1,e1,_,w1⟩:=DataW.trod_int underlying23 hy1;obtain⟨x2,e2,_,w2⟩:=DataW.trod_int underlying23 hy2;obtain⟨x3,e3,_,w3⟩:=DataW.trod_int underlying23 hy3;simp at e0 e1 e2 e3;subst e0 e1 e2 e3;obtain⟨a0,rfl,k0⟩:=fN w0;obtain⟨a1,rfl,k1⟩:=fN w1;obtain⟨a2,rfl,k2⟩:=fN w2;obtain⟨a3,rfl,k3⟩:=fN w3;have g0:=hcell 0 (by omega);have g1:=hcell 1 (by omega);have g2:=hcell 2 (by omega);have g3:=hcell 3 (by omega);rw[Go.Deep.add_add]at g0 g1 g2 g3;exact⟨(a0,a1,a2,a3),⟨k0,k1,k2,k3⟩,by simpa using g0,by simpa using g1,by simpa using g2,by simpa using g3⟩
  obtain⟨g,off,spot⟩:=a;obtain⟨q0,_,hq0,_⟩:=each 0 (by omega);have hspot:spot=none:=by simpa[Addr.add]using World.cell?_spot hq0
  subst hspot;have hg:g<W.heap.size:=hl (.cell g off) (by
   have:=congrArg Prod.snd hx;simp only at this;rw[this];refine List.mem_append_left _ (MemPlace.mem_row.2 ⟨0,?_,by simp⟩);rw[vJ,hlen];omega)
  have each':∀i,∃q:Nat×Nat×Nat×Nat,i<len→cK q.1 q.2.1 q.2.2.1 q.2.2.2∧W.cell? ⟨g,off+i*4,none⟩=some (.int .u64 q.1)∧W.cell? ⟨g,off+i*4+1,none⟩=some (.int .u64 q.2.1)∧W.cell? ⟨g,off+i*4+2,none⟩=some (.int .u64 q.2.2.1)∧W.cell? ⟨g,off+i*4+3,none⟩=some (.int .u64 q.2.2.2):=fun i=>by
   by_cases hi:i<len
   ·obtain⟨q,hq⟩:=each i hi;refine⟨q,fun _ => ?_⟩;simp only[add_plain]at hq;simpa[Nat.add_assoc]using hq
   ·exact⟨(0,0,0,0),fun h=>absurd h hi⟩
  refine⟨g,off,fun i j=>match j with|0=>(Classical.choose (each' i)).1|1=>(Classical.choose (each' i)).2.1|2=>(Classical.choose (each' i)).2.2.1|_=>(Classical.choose (each' i)).2.2.2,rfl,hg,fun k hk=>(Classical.choose_spec (each' k) hk).1,fun k hk=>(Classical.choose_spec (each' k) hk).2⟩
end Go.Proofs.YtjjnbgoepbiojaaGreat
namespace Go.Proofs.YtjjnbgoepbiojaaGreat.Ex
open Go.Proofs.Tryz
open Go.Deep Go.ChangeShapes Go.WideShapes Go.ChangeAt Go.RowKit
theorem LK:prog.bytesOf 25=32:=by kernel_rfl
theorem uT {W:World} {g:Nat} {A:Nat→Nat→Nat}:∀(n s off:Nat),(∀k,s≤k→k<s+n→cK (A k 0) (A k 1) (A k 2) (A k 3)) →
  (∀k,s≤k→k<s+n→W.cell? ⟨g,off+k*4,none⟩=some (.int .u64 (A k 0))∧W.cell? ⟨g,off+k*4+1,none⟩=some (.int .u64 (A k 1))∧W.cell? ⟨g,off+k*4+2,none⟩=some (.int .u64 (A k 2))∧W.cell? ⟨g,off+k*4+3,none⟩=some (.int .u64 (A k 3))) →
  W.rangeAt g (off+s*4) (aB (aP (el fun k=>aD (A k 0) (A k 1) (A k 2) (A k 3)) s n))
 | 0,s,off,_,_=>fun j v hj=>by simp[aP,aB]at hj
 | n+1,s,off,h1,h2=>fun j v hj=>by
  have ih:=uT (g:=g) (W:=W) (A:=A) n (s+1) off (fun k a b=>h1 k (by omega) (by omega)) (fun k a b=>h2 k (by omega) (by omega));have hj:(aB (el (fun k=>aD (A k 0) (A k 1) (A k 2) (A k 3)) s++aP (el fun k=>aD (A k 0) (A k 1) (A k 2) (A k 3)) (s+1) n))[j]?=some v:=hj;rw[aN]at hj;have ok:=h1 s (Nat.le_refl _) (by omega);obtain⟨c0,c1,c2,c3⟩:=h2 s (Nat.le_refl _) (by omega);have hv:aD (A s 0) (A s 1) (A s 2) (A s 3)<bQ:=by obtain⟨k0,k1,k2,k3⟩:=ok; show _<115792089237316195423570985008687907853269984665640564039457584007913129639936; unfold aD; omega
  obtain⟨q0,q1,q2,q3⟩:=lS ok hv rfl;have e4:(aB (el (fun k=>aD (A k 0) (A k 1) (A k 2) (A k 3)) s))=[.int .u64 (A s 0),.int .u64 (A s 1),.int .u64 (A s 2),.int .u64 (A s 3)]:=by
   show w4 (aD (A s 0) (A s 1) (A s 2) (A s 3))++[]=_;unfold w4;rw[←q0,←q1,←q2,←q3];rfl
  rw[e4]at hj
  match j,hj with
  | 0,hj=>cases hj; exact c0
  | 1,hj=>cases hj; exact c1
  | 2,hj=>cases hj; exact c2
  | 3,hj=>cases hj; exact c3
  | j+4,hj =>
   have:=ih j v hj;rw[show off+s*4+(j+4)=off+(s+1)*4+j by omega];exact this
theorem AI {H:Type} {enc:TypeId×Value→H} {W:World} {o:Option Addr} {len cap:Nat} {d:DataW H} {ps:List MemPlace} (h:DataW.Trod enc prog W 0 (fun _=>true) true 22 (.slice o len cap) d ps) (hl:∀x∈ps,x.block<W.heap.size)
  (hsz:∀elems spare,d=.slice elems spare→(elems.length+spare.length)*prog.bytesOf 25≤reachBytes) :
  ∃f,LV W (.slice o len cap) len f∧(o=none→cap=0)∧len*32≤140737488351232:=by
 have hop:=(QB h hl).2;obtain⟨fuel,hf⟩:=h;have hlen:len*32≤140737488351232∧len≤cap∧(o=none→cap=0):=by
  rcases DataW.trod_slice underlying22 hf with⟨hcs,_⟩|⟨a,len',cap',elems,rest,n,_,hcs,hx,hb,hlc,hm,hlen,hel,_⟩
  ·simp[Value.cells]at hcs;obtain⟨rfl,rfl,rfl⟩:=hcs;exact⟨by omega,Nat.le_refl _,fun _=>rfl⟩
  ·simp[Value.cells]at hcs;obtain⟨rfl,rfl,rfl⟩:=hcs;have hs:=hsz _ _ (congrArg Prod.fst hx);rw[LK]at hs;simp only[List.length_map,reachBytes]at hs;exact⟨by omega,hlc,fun h=>by cases h⟩
 rcases hop with h0|⟨h0,g,off,A,rfl,hg,hA,hc⟩
 ·subst h0;exact⟨fun _=>0,⟨_,_,rfl,Nat.zero_le _,fun j hj=>by omega,fun h=>by omega⟩,hlen.2.2,by omega⟩
 ·refine⟨fun k=>aD (A k 0) (A k 1) (A k 2) (A k 3),⟨_,_,rfl,hlen.2.1,fun j hj => ?_,fun _=>⟨g,off,rfl,hg,?_⟩⟩,hlen.2.2,by omega⟩
  ·obtain⟨k0,k1,k2,k3⟩:=hA j hj;show aD _ _ _ _<115792089237316195423570985008687907853269984665640564039457584007913129639936;unfold aD; omega
  ·have:=uT (W:=W) (g:=g) (A:=A) len 0 off (fun k _ b=>hA k (by omega)) (fun k _ b=>hc k (by omega));rw[Nat.zero_mul,Nat.add_zero]at this;exact this
end Go.Proofs.YtjjnbgoepbiojaaGreat.Ex
