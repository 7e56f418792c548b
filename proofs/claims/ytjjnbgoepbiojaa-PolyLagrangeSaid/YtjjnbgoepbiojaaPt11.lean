/- Pt11 -/
import Derived.ProofKit
import Derived.LaidMore
import Derived.OpenShut
import Derived.Stop.Joined
import Derived.Carry
import Derived.RowKit
import Derived.ChangeSame
import Derived.JoinedOf
import Derived.JoinedAt
import Derived.Laws.IdiomArrays
import Derived.Deep.Strs
import Derived.Deep.Slices
import Derived.SizedLaws
import Derived.Test.YtjjnbgoepbiojaaPt10
import Derived.Test.YtjjnbgoepbiojaaRows
import Derived.Test.YtjjnbgoepbiojaaPt03
import Derived.Test.YtjjnbgoepbiojaaPt06
import Derived.Test.YtjjnbgoepbiojaaPt04
import Derived.Test.YtjjnbgoepbiojaaProg
set_option maxRecDepth 100000
set_option linter.unusedVariables false
set_option linter.unusedSimpArgs false
set_option linter.unnecessarySimpa false
noncomputable section
namespace Go.Proofs.Ytjjnbgoepbiojaa.Ex
open Go.Proofs.Try
open Go.RowKit
def Zok (v:Value):Prop:=∀n m:Nat,v=.slice none n m→m=0
def Li (w0:World) (n:Nat) (f:Nat→Nat) (e:Ending) (w':World):Prop:=∃u,e=.returned u∧Below w0.heap.size w0 w'∧LV w' u n f
theorem Vj {w0:World} {v:Value} {N:Nat} {f:Nat→Nat} (hv:LV w0 v N f) (hN:N*32≤140737488355328) (hp:Zok v):Calls prog 8 #[v] w0 (Li w0 N f):=by
 have h256:∀j,j<N→f j<aT:=fun j hj=>by
  obtain⟨_,_,_,_,h,_⟩:=hv;exact h j hj
 obtain⟨p,m,rfl,_⟩:=id hv;have hp:p=none→m=0:=fun e=>hp N m (by rw[e])
 by_cases h0:N=0
 ·refine ((CN hv hN hp).1 h0).mono ?_
  rintro e w' ⟨rfl,hb⟩
  rw[h0];exact⟨_,rfl,hb,LV.nil0 w' f⟩
 ·refine ((CN hv hN hp).2 (by omega)).mono ?_
  rintro e w' ⟨b,cap,rfl,hb,h1,h2,h3,h4,h5⟩
  obtain⟨_,_,h6,_⟩:=h5 rfl;exact⟨_,rfl,hb,some ⟨b,0,none⟩,cap,rfl,h6,h256,fun _=>⟨b,0,rfl,h2,h3⟩⟩
theorem UO {N x:Nat} {f:Nat→Nat} {z:Int} (hN:N≤2305843009213693952) (hx:x<aT):∃(n:Nat) (g:Nat→Nat) (e:Int),n≤4611686018427387904 ∧
  (∀(w:World) (v:Value),LV w v N f→Calls prog 9 #[v,iV z,.agg (aB [At.q x]).toArray] w (Pr w n g e)) ∧
  (∀(w:World) (v:Value),LV w v N f→Zok v→Calls prog 10 #[v,iV z,.agg (aB [At.q x]).toArray] w (Pr w n g e)):=by
 have k1:∀{w:World} {v:Value},LV w v N f→∃p m,v=.slice p N m:=fun h=>by obtain⟨p,m,e,_⟩:=h; exact⟨p,m,e⟩
 by_cases h:oT N f z x=0
 ·have hl:2^z.toNat≤65536:=by
   unfold oT at h
   by_cases he:gX N f z x=0
   ·obtain⟨_,_,_,_,log,q5,rfl⟩:=iN he;exact Nat.pow_le_pow_right (n:=2) (by omega) q5
   ·rw[if_pos he]at h; exact absurd h he
  refine⟨2^z.toNat,mT (aF f N) f (cJ z.toNat) x,0,by omega,fun w v hv => ?_,fun w v hv hp => ?_⟩
  ·obtain⟨p,m,rfl⟩:=k1 hv;exact (Cs hv hN hx).2 h
  ·obtain⟨p,m,rfl⟩:=k1 hv;exact (vG hv (fun e=>hp N m (by rw[e])) hx).2 h
 ·refine⟨0,fun _=>0,oT N f z x,by omega,fun w v hv => ?_,fun w v hv hp => ?_⟩
  ·obtain⟨p,m,rfl⟩:=k1 hv;exact (Cs hv hN hx).1 h
  ·obtain⟨p,m,rfl⟩:=k1 hv;exact (vG hv (fun e=>hp N m (by rw[e])) hx).1 h
theorem Bc {N x:Nat} {f:Nat→Nat} {z:Int} (hN:N≤2305843009213693952) (hx:x<aT):∃(n:Nat) (g:Nat→Nat) (e:Int),n≤4611686018427387904 ∧
  (∀(w:World) (v:Value),LV w v N f→Calls prog 11 #[v,iV z,.agg (aB [At.q x]).toArray] w (Pr w n g e)) ∧
  (∀(w:World) (v:Value),LV w v N f→Calls prog 12 #[v,iV z,.agg (aB [At.q x]).toArray] w (Pr w n g e)):=by
 have k1:∀{w:World} {v:Value},LV w v N f→∃p m,v=.slice p N m:=fun h=>by obtain⟨p,m,e,_⟩:=h; exact⟨p,m,e⟩
 by_cases h:qN N f z x=0
 ·have hl:2^z.toNat≤65536:=by
   unfold qN at h
   by_cases he:gX N f z x=0
   ·obtain⟨_,_,_,_,log,q5,rfl⟩:=iN he;exact Nat.pow_le_pow_right (n:=2) (by omega) q5
   ·rw[if_pos he]at h; exact absurd h he
  have hle:=cC (lG f z.toNat x) (2^z.toNat);refine⟨aF (lG f z.toNat x) (2^z.toNat),lG f z.toNat x,0,by omega,fun w v hv => ?_,fun w v hv => ?_⟩
  ·obtain⟨p,m,rfl⟩:=k1 hv;exact (JQ hv hN hx).2 h
  ·obtain⟨p,m,rfl⟩:=k1 hv;exact (vM hv hx).2 h
 ·refine⟨0,fun _=>0,qN N f z x,by omega,fun w v hv => ?_,fun w v hv => ?_⟩
  ·obtain⟨p,m,rfl⟩:=k1 hv;exact (JQ hv hN hx).1 h
  ·obtain⟨p,m,rfl⟩:=k1 hv;exact (vM hv hx).1 h
def sD:Code:=(f3.body).getD .skip
def Fi:Code:=cB sD
def Fh:Code:=cB Fi
def Fg:Code:=cB Fh
def Ff:Code:=cB Fg
def Fe:Code:=cB Ff
def Ys:Code:=cB Fe
theorem UT:sD=.seq (cA sD) (.seq (.region 1 (aO (cA Fi)) false) (.seq (.region 2 (aO (cA Fh)) false) (.seq (.region 3 (aO (cA Fg)) false) (.seq (.region 4 (aO (cA Ff)) false) (.seq (.region 5 (aO (cA Fe)) false) Ys))))):=by kernel_rfl
def uT (v:Value) (z:Int) (x:Nat):List Fact:=[.slot 0 (.im v),.slot 1 (.im (iV z)),.slot 5 (.pt 5 0),.row 5 true [.q x]]
theorem Oh (v:Value) (z:Int) (x:Nat):aH prog (qG prog) f3.ntmps (cG fun _=>none) 40 (cA sD) (eF 0 [.v (.im v),.v (.im (iV z)),.v (.fl [.q x])]) (uT v z x)=some ([],.nrm,uT v z x):=by kernel_rfl
theorem Ov (W:World) (v:Value) (z:Int) (x:Nat) (b5:Nat):dR prog { qG prog with x:=xO W (fun _=>none) (fun _=>none) (fun _=>none) } f3.ntmps bX ((aO (cA Fi)).extract 0 1) [.at 5 b5,.slot 0 (.im v),.slot 1 (.im (iV z)),.slot 5 (.pt 5 0),.row 5 true [.q x]] [.slot 16 (.im v),.at 5 b5,.slot 0 (.im v),.slot 1 (.im (iV z)),.slot 5 (.pt 5 0),.row 5 true [.q x]]=some ([],[.slot 16 (.im v),.at 5 b5,.slot 0 (.im v),.slot 1 (.im (iV z)),.slot 5 (.pt 5 0),.row 5 true [.q x]]):=by kernel_rfl
theorem Ou (v:Value) (z:Int) (x:Nat) (b5:Nat) (dH:Value):dR prog (qG prog) f3.ntmps bX ((aO (cA Fi)).extract 2 3) [.slot 17 (.im dH),.slot 0 (.im v),.slot 1 (.im (iV z)),.slot 5 (.im (bZ b5 0))] [.slot 0 (.im v),.slot 1 (.im (iV z)),.slot 5 (.im (bZ b5 0)),.slot 7 (.im dH)]=some ([],[.slot 0 (.im v),.slot 1 (.im (iV z)),.slot 5 (.im (bZ b5 0)),.slot 7 (.im dH)]):=by kernel_rfl
theorem Ot (W:World) (v:Value) (z:Int) (x:Nat) (b5:Nat) (dH:Value):dR prog { qG prog with x:=xO W (fun _=>none) (aE [(21,[.q x])]) (fun _=>none) } f3.ntmps bX ((aO (cA Fh)).extract 0 3) [.slot 0 (.im v),.slot 1 (.im (iV z)),.slot 5 (.im (bZ b5 0)),.slot 7 (.im dH)] [.slot 19 (.im dH),.slot 20 (.im (iV z)),.slot 21 (.fl [.q x]),.slot 0 (.im v),.slot 1 (.im (iV z)),.slot 5 (.im (bZ b5 0)),.slot 7 (.im dH)]=some ([oldOf W b5 0 [.q x],cR [.q x]=4],[.slot 19 (.im dH),.slot 20 (.im (iV z)),.slot 21 (.fl [.q x]),.slot 0 (.im v),.slot 1 (.im (iV z)),.slot 5 (.im (bZ b5 0)),.slot 7 (.im dH)]):=by kernel_rfl
theorem Oq (v:Value) (z:Int) (x:Nat) (b5:Nat) (dH:Value) (u2:Value) (e2:Int):dR prog (qG prog) f3.ntmps bX ((aO (cA Fh)).extract 4 9) [.slot 22 (.tu [.im u2,.im (iV e2)]),.slot 22 (.im (.tuple #[u2,(iV e2)])),.slot 0 (.im v),.slot 1 (.im (iV z)),.slot 5 (.im (bZ b5 0)),.slot 7 (.im dH)] [.slot 0 (.im v),.slot 1 (.im (iV z)),.slot 5 (.im (bZ b5 0)),.slot 7 (.im dH),.slot 8 (.im u2),.slot 9 (.im (iV e2))]=some ([],[.slot 0 (.im v),.slot 1 (.im (iV z)),.slot 5 (.im (bZ b5 0)),.slot 7 (.im dH),.slot 8 (.im u2),.slot 9 (.im (iV e2))]):=by kernel_rfl
theorem Oo (W:World) (v:Value) (z:Int) (x:Nat) (b5:Nat) (dH:Value) (u2:Value) (e2:Int):dR prog { qG prog with x:=xO W (fun _=>none) (aE [(28,[.q x])]) (fun _=>none) } f3.ntmps bX ((aO (cA Fg)).extract 0 3) [.slot 0 (.im v),.slot 1 (.im (iV z)),.slot 5 (.im (bZ b5 0)),.slot 7 (.im dH),.slot 8 (.im u2),.slot 9 (.im (iV e2))] [.slot 26 (.im v),.slot 27 (.im (iV z)),.slot 28 (.fl [.q x]),.slot 0 (.im v),.slot 1 (.im (iV z)),.slot 5 (.im (bZ b5 0)),.slot 7 (.im dH),.slot 8 (.im u2),.slot 9 (.im (iV e2))]=some ([oldOf W b5 0 [.q x],cR [.q x]=4],[.slot 26 (.im v),.slot 27 (.im (iV z)),.slot 28 (.fl [.q x]),.slot 0 (.im v),.slot 1 (.im (iV z)),.slot 5 (.im (bZ b5 0)),.slot 7 (.im dH),.slot 8 (.im u2),.slot 9 (.im (iV e2))]):=by kernel_rfl
theorem On (v:Value) (z:Int) (x:Nat) (b5:Nat) (dH:Value) (u2:Value) (e2:Int) (u3:Value) (e3:Int):dR prog (qG prog) f3.ntmps bX ((aO (cA Fg)).extract 4 9) [.slot 29 (.tu [.im u3,.im (iV e3)]),.slot 29 (.im (.tuple #[u3,(iV e3)])),.slot 0 (.im v),.slot 1 (.im (iV z)),.slot 5 (.im (bZ b5 0)),.slot 7 (.im dH),.slot 8 (.im u2),.slot 9 (.im (iV e2))] [.slot 0 (.im v),.slot 1 (.im (iV z)),.slot 5 (.im (bZ b5 0)),.slot 7 (.im dH),.slot 8 (.im u2),.slot 9 (.im (iV e2)),.slot 10 (.im u3),.slot 11 (.im (iV e3))]=some ([],[.slot 0 (.im v),.slot 1 (.im (iV z)),.slot 5 (.im (bZ b5 0)),.slot 7 (.im dH),.slot 8 (.im u2),.slot 9 (.im (iV e2)),.slot 10 (.im u3),.slot 11 (.im (iV e3))]):=by kernel_rfl
theorem Om (W:World) (v:Value) (z:Int) (x:Nat) (b5:Nat) (dH:Value) (u2:Value) (e2:Int) (u3:Value) (e3:Int):dR prog { qG prog with x:=xO W (fun _=>none) (aE [(35,[.q x])]) (fun _=>none) } f3.ntmps bX ((aO (cA Ff)).extract 0 3) [.slot 0 (.im v),.slot 1 (.im (iV z)),.slot 5 (.im (bZ b5 0)),.slot 7 (.im dH),.slot 8 (.im u2),.slot 9 (.im (iV e2)),.slot 10 (.im u3),.slot 11 (.im (iV e3))] [.slot 33 (.im dH),.slot 34 (.im (iV z)),.slot 35 (.fl [.q x]),.slot 0 (.im v),.slot 1 (.im (iV z)),.slot 5 (.im (bZ b5 0)),.slot 7 (.im dH),.slot 8 (.im u2),.slot 9 (.im (iV e2)),.slot 10 (.im u3),.slot 11 (.im (iV e3))]=some ([oldOf W b5 0 [.q x],cR [.q x]=4],[.slot 33 (.im dH),.slot 34 (.im (iV z)),.slot 35 (.fl [.q x]),.slot 0 (.im v),.slot 1 (.im (iV z)),.slot 5 (.im (bZ b5 0)),.slot 7 (.im dH),.slot 8 (.im u2),.slot 9 (.im (iV e2)),.slot 10 (.im u3),.slot 11 (.im (iV e3))]):=by kernel_rfl
theorem Ol (v:Value) (z:Int) (x:Nat) (b5:Nat) (dH:Value) (u2:Value) (e2:Int) (u3:Value) (e3:Int) (u4:Value) (e4:Int):dR prog (qG prog) f3.ntmps bX ((aO (cA Ff)).extract 4 9) [.slot 36 (.tu [.im u4,.im (iV e4)]),.slot 36 (.im (.tuple #[u4,(iV e4)])),.slot 0 (.im v),.slot 1 (.im (iV z)),.slot 5 (.im (bZ b5 0)),.slot 7 (.im dH),.slot 8 (.im u2),.slot 9 (.im (iV e2)),.slot 10 (.im u3),.slot 11 (.im (iV e3))] [.slot 0 (.im v),.slot 1 (.im (iV z)),.slot 5 (.im (bZ b5 0)),.slot 7 (.im dH),.slot 8 (.im u2),.slot 9 (.im (iV e2)),.slot 10 (.im u3),.slot 11 (.im (iV e3)),.slot 12 (.im u4),.slot 13 (.im (iV e4))]=some ([],[.slot 0 (.im v),.slot 1 (.im (iV z)),.slot 5 (.im (bZ b5 0)),.slot 7 (.im dH),.slot 8 (.im u2),.slot 9 (.im (iV e2)),.slot 10 (.im u3),.slot 11 (.im (iV e3)),.slot 12 (.im u4),.slot 13 (.im (iV e4))]):=by kernel_rfl
theorem Oj (W:World) (v:Value) (z:Int) (x:Nat) (b5:Nat) (dH:Value) (u2:Value) (e2:Int) (u3:Value) (e3:Int) (u4:Value) (e4:Int):dR prog { qG prog with x:=xO W (fun _=>none) (aE [(42,[.q x])]) (fun _=>none) } f3.ntmps bX ((aO (cA Fe)).extract 0 3) [.slot 0 (.im v),.slot 1 (.im (iV z)),.slot 5 (.im (bZ b5 0)),.slot 7 (.im dH),.slot 8 (.im u2),.slot 9 (.im (iV e2)),.slot 10 (.im u3),.slot 11 (.im (iV e3)),.slot 12 (.im u4),.slot 13 (.im (iV e4))] [.slot 40 (.im v),.slot 41 (.im (iV z)),.slot 42 (.fl [.q x]),.slot 0 (.im v),.slot 1 (.im (iV z)),.slot 5 (.im (bZ b5 0)),.slot 7 (.im dH),.slot 8 (.im u2),.slot 9 (.im (iV e2)),.slot 10 (.im u3),.slot 11 (.im (iV e3)),.slot 12 (.im u4),.slot 13 (.im (iV e4))]=some ([oldOf W b5 0 [.q x],cR [.q x]=4],[.slot 40 (.im v),.slot 41 (.im (iV z)),.slot 42 (.fl [.q x]),.slot 0 (.im v),.slot 1 (.im (iV z)),.slot 5 (.im (bZ b5 0)),.slot 7 (.im dH),.slot 8 (.im u2),.slot 9 (.im (iV e2)),.slot 10 (.im u3),.slot 11 (.im (iV e3)),.slot 12 (.im u4),.slot 13 (.im (iV e4))]):=by kernel_rfl
theorem Oi (v:Value) (z:Int) (x:Nat) (b5:Nat) (dH:Value) (u2:Value) (e2:Int) (u3:Value) (e3:Int) (u4:Value) (e4:Int) (u5:Value) (e5:Int):dR prog (qG prog) f3.ntmps bX ((aO (cA Fe)).extract 4 9) [.slot 43 (.tu [.im u5,.im (iV e5)]),.slot 43 (.im (.tuple #[u5,(iV e5)])),.slot 0 (.im v),.slot 1 (.im (iV z)),.slot 5 (.im (bZ b5 0)),.slot 7 (.im dH),.slot 8 (.im u2),.slot 9 (.im (iV e2)),.slot 10 (.im u3),.slot 11 (.im (iV e3)),.slot 12 (.im u4),.slot 13 (.im (iV e4))] [.slot 0 (.im v),.slot 1 (.im (iV z)),.slot 5 (.im (bZ b5 0)),.slot 7 (.im dH),.slot 8 (.im u2),.slot 9 (.im (iV e2)),.slot 10 (.im u3),.slot 11 (.im (iV e3)),.slot 12 (.im u4),.slot 13 (.im (iV e4)),.slot 14 (.im u5),.slot 15 (.im (iV e5))]=some ([],[.slot 0 (.im v),.slot 1 (.im (iV z)),.slot 5 (.im (bZ b5 0)),.slot 7 (.im dH),.slot 8 (.im u2),.slot 9 (.im (iV e2)),.slot 10 (.im u3),.slot 11 (.im (iV e3)),.slot 12 (.im u4),.slot 13 (.im (iV e4)),.slot 14 (.im u5),.slot 15 (.im (iV e5))]):=by kernel_rfl
def Yr (w:World) (_:Nat):Cfg:=⟨fun _=>(TR.add 15 (g0 (.one (.im (.bool true))))).add 13 (Jr w),fun _=>true,aE [(53,.bool true),(64,.bool true)]⟩
theorem Yq (W:World) (v:Value) (z:Int) (x:Nat) (b5:Nat) (dH:Value) (u2:Value) (e2:Int) (u3:Value) (e3:Int) (u4:Value) (e4:Int) (u5:Value) (e5:Int) (E E':Int) (h2:e2=E) (h3:e3=E) (h4:e4=E') (h5:e5=E'):aH prog (qG prog) f3.ntmps (Yr W) 60 Ys [.slot 0 (.im v),.slot 1 (.im (iV z)),.slot 5 (.im (bZ b5 0)),.slot 7 (.im dH),.slot 8 (.im u2),.slot 9 (.im (iV e2)),.slot 10 (.im u3),.slot 11 (.im (iV e3)),.slot 12 (.im u4),.slot 13 (.im (iV e4)),.slot 14 (.im u5),.slot 15 (.im (iV e5))] [.slot 6 (.im (.bool true))]=some ([Alk W u2 u3,aD .eql .i64 E E=some (.bool true),Alk W u4 u5,aD .eql .i64 E' E'=some (.bool true),Alk W dH v],.rt,[.slot 6 (.im (.bool true))]):=by subst h2; subst h3; subst h4; subst h5; kernel_rfl
theorem oW {w0:World} {v:Value} {N x:Nat} {f:Nat→Nat} (z:Int) (hv:LV w0 v N f) (hp:Zok v) (hN:N*32≤140737488355328) (hx:x<aT):Good prog 3 (.one (.im (.bool true))) [v,iV z,.agg (aB [At.q x]).toArray] w0:=by
 obtain⟨n2,g2,E,hn2,cv,cr⟩:=UO (f:=f) (z:=z) (show N≤2305843009213693952 by omega) hx;obtain⟨n4,g4,E',hn4,dv,dr⟩:=Bc (f:=f) (z:=z) (show N≤2305843009213693952 by omega) hx;have hT:∀(base:Nat) (w:World) (d:Nat),TabOkW prog dW base w:=fun _ _ _=>bG.w _ _
 have hG:∀(base:Nat) (w:World),bH prog (qG prog) base w:=fun _ _=>(aY _).w _ _
 obtain⟨p0,m0,hve,_⟩:=id hv;refine bJ func3 (cs:=[.v (.im v),.v (.im (iV z)),.v (.fl [.q x])]) (args:=[v,iV z,.agg (aB [At.q x]).toArray]) (c:=sD) rfl ⟨rfl,rfl,rfl,trivial⟩ (Nat.le_of_ble_eq_true (by kernel_rfl)) fun a w hA => ?_
 rw[UT];refine wp_seq (aA aG (fun _=>hT _ _) (hG _ _) (Oh v z x) trivial hA fun a w hA => ?_);obtain⟨b5,hA⟩:=hA.at (k:=5) (l:=[.q x]) (by simp[uT]);unfold uT at hA;refine wp_seq (cD (l:=List.range' 0 ((aO (cA Fi)).extract 0 1).size++(1::(List.range' 2 ((aO (cA Fi)).extract 2 3).size++[]))) (by kernel_rfl) ?_);refine aL (c:=bX) (hT _ _) (cW w0 _ _ _) (Ov w0 v z x b5) trivial (by kernel_rfl) hA fun a w hA => ?_
 have o5:oldOf w b5 0 [.q x]:=hA.old (k:=5) (by simp) (by simp);obtain⟨o,ho,⟨ts,hoo⟩,hod,hog⟩:∃o,(aO (cA Fi))[1]?=some o∧(∃ts,o.op=.call ⟨.value (.func 8),#[.tmp 16],ts⟩)∧o.dst=some 17∧o.guard=none:=⟨_,rfl,⟨_,rfl⟩,rfl,rfl⟩
 refine kN hA ho hoo hod hog (Nat.le_of_ble_eq_true (by kernel_rfl)) (vs:=[v]) rfl (ks:=[0,1,5]) (keep:=[(0,.im v),(1,.im (iV z)),(5,.im (bZ b5 0))]) rfl rfl (bK func8 (by kernel_rfl) (by kernel_rfl)) (Vj (hv.on hA.below) hN hp) fun e W1 hW => ?_
 obtain⟨dH,rfl,hb,l1⟩:=hW;refine⟨_,rfl,fun a hF => ?_⟩;have hF:Holds f3.ntmps W1.heap.size W1 [.slot 17 (.im (dH)),.slot 0 (.im v),.slot 1 (.im (iV z)),.slot 5 (.im (bZ b5 0))] a W1:=hF;have C1:Below w0.heap.size w0 W1:=hA.below.trans (hb.mono hA.below.size);have B1:=C1;have o5:=oldOf.go hb (Nat.le_refl _) o5;have hv:=hv.on C1;clear hA;refine aL (c:=bX) (hT _ _) (hG _ _) (Ou v z x b5 dH) trivial (by kernel_rfl) hF fun a w hA => ?_
 clear hF;show (Code.seq _ _).wp _ _ _ _;refine wp_seq (cD (l:=List.range' 0 ((aO (cA Fh)).extract 0 3).size++(3::(List.range' 4 ((aO (cA Fh)).extract 4 9).size++[]))) (by kernel_rfl) ?_);refine aL (c:=bX) (hT _ _) (cW W1 _ _ _) (Ot W1 v z x b5 dH) ⟨o5,rfl,trivial⟩ (by kernel_rfl) hA fun a w hA => ?_
 obtain⟨o,ho,⟨ts,hoo⟩,hod,hog⟩:∃o,(aO (cA Fh))[3]?=some o∧(∃ts,o.op=.call ⟨.value (.func 9),#[.tmp 19,.tmp 20,.tmp 21],ts⟩)∧o.dst=some 22∧o.guard=none:=⟨_,rfl,⟨_,rfl⟩,rfl,rfl⟩
 refine kN hA ho hoo hod hog (Nat.le_of_ble_eq_true (by kernel_rfl)) (vs:=[dH,(iV z),.agg (aB [.q x]).toArray]) rfl (ks:=[0,1,5,7]) (keep:=[(0,.im v),(1,.im (iV z)),(5,.im (bZ b5 0)),(7,.im dH)]) rfl rfl (bK func9 (by kernel_rfl) (by kernel_rfl)) (cv w dH (l1.on hA.below)) fun e W2 hW => ?_
 obtain⟨u2,rfl,hb,l2⟩:=hW;refine⟨_,rfl,fun a hF => ?_⟩;have hF:Holds f3.ntmps W2.heap.size W2 [.slot 22 (.im (.tuple #[u2,(iV E)])),.slot 0 (.im v),.slot 1 (.im (iV z)),.slot 5 (.im (bZ b5 0)),.slot 7 (.im dH)] a W2:=hF;have hF:=hF.imTu (s:=22) (l:=[.im u2,.im (iV E)]) (List.mem_of_getElem? (i:=0) rfl) rfl;have C2:Below W1.heap.size W1 W2:=hA.below.trans (hb.mono hA.below.size);have B2:Below w0.heap.size w0 W2:=B1.trans (C2.mono B1.size);have o5:=oldOf.go C2 (Nat.le_refl _) o5;have hv:=hv.on C2;have l1:=l1.on C2;clear hA;refine aL (c:=bX) (hT _ _) (hG _ _) (Oq v z x b5 dH u2 E) trivial (by kernel_rfl) hF fun a w hA => ?_
 clear hF;show (Code.seq _ _).wp _ _ _ _;refine wp_seq (cD (l:=List.range' 0 ((aO (cA Fg)).extract 0 3).size++(3::(List.range' 4 ((aO (cA Fg)).extract 4 9).size++[]))) (by kernel_rfl) ?_);refine aL (c:=bX) (hT _ _) (cW W2 _ _ _) (Oo W2 v z x b5 dH u2 E) ⟨o5,rfl,trivial⟩ (by kernel_rfl) hA fun a w hA => ?_
 obtain⟨o,ho,⟨ts,hoo⟩,hod,hog⟩:∃o,(aO (cA Fg))[3]?=some o∧(∃ts,o.op=.call ⟨.value (.func 10),#[.tmp 26,.tmp 27,.tmp 28],ts⟩)∧o.dst=some 29∧o.guard=none:=⟨_,rfl,⟨_,rfl⟩,rfl,rfl⟩
 refine kN hA ho hoo hod hog (Nat.le_of_ble_eq_true (by kernel_rfl)) (vs:=[v,(iV z),.agg (aB [.q x]).toArray]) rfl (ks:=[0,1,5,7,8,9]) (keep:=[(0,.im v),(1,.im (iV z)),(5,.im (bZ b5 0)),(7,.im dH),(8,.im u2),(9,.im (iV E))]) rfl rfl (bK func10 (by kernel_rfl) (by kernel_rfl)) (cr w v (hv.on hA.below) hp) fun e W3 hW => ?_
 obtain⟨u3,rfl,hb,l3⟩:=hW;refine⟨_,rfl,fun a hF => ?_⟩;have hF:Holds f3.ntmps W3.heap.size W3 [.slot 29 (.im (.tuple #[u3,(iV E)])),.slot 0 (.im v),.slot 1 (.im (iV z)),.slot 5 (.im (bZ b5 0)),.slot 7 (.im dH),.slot 8 (.im u2),.slot 9 (.im (iV E))] a W3:=hF;have hF:=hF.imTu (s:=29) (l:=[.im u3,.im (iV E)]) (List.mem_of_getElem? (i:=0) rfl) rfl;have C3:Below W2.heap.size W2 W3:=hA.below.trans (hb.mono hA.below.size);have B3:Below w0.heap.size w0 W3:=B2.trans (C3.mono B2.size);have o5:=oldOf.go C3 (Nat.le_refl _) o5;have hv:=hv.on C3;have l1:=l1.on C3;have l2:=l2.on C3;clear hA;refine aL (c:=bX) (hT _ _) (hG _ _) (On v z x b5 dH u2 E u3 E) trivial (by kernel_rfl) hF fun a w hA => ?_
 clear hF;show (Code.seq _ _).wp _ _ _ _;refine wp_seq (cD (l:=List.range' 0 ((aO (cA Ff)).extract 0 3).size++(3::(List.range' 4 ((aO (cA Ff)).extract 4 9).size++[]))) (by kernel_rfl) ?_);refine aL (c:=bX) (hT _ _) (cW W3 _ _ _) (Om W3 v z x b5 dH u2 E u3 E) ⟨o5,rfl,trivial⟩ (by kernel_rfl) hA fun a w hA => ?_
 obtain⟨o,ho,⟨ts,hoo⟩,hod,hog⟩:∃o,(aO (cA Ff))[3]?=some o∧(∃ts,o.op=.call ⟨.value (.func 11),#[.tmp 33,.tmp 34,.tmp 35],ts⟩)∧o.dst=some 36∧o.guard=none:=⟨_,rfl,⟨_,rfl⟩,rfl,rfl⟩
 refine kN hA ho hoo hod hog (Nat.le_of_ble_eq_true (by kernel_rfl)) (vs:=[dH,(iV z),.agg (aB [.q x]).toArray]) rfl (ks:=[0,1,5,7,8,9,10,11]) (keep:=[(0,.im v),(1,.im (iV z)),(5,.im (bZ b5 0)),(7,.im dH),(8,.im u2),(9,.im (iV E)),(10,.im u3),(11,.im (iV E))]) rfl rfl (bK func11 (by kernel_rfl) (by kernel_rfl)) (dv w dH (l1.on hA.below)) fun e W4 hW => ?_
 obtain⟨u4,rfl,hb,l4⟩:=hW;refine⟨_,rfl,fun a hF => ?_⟩;have hF:Holds f3.ntmps W4.heap.size W4 [.slot 36 (.im (.tuple #[u4,(iV E')])),.slot 0 (.im v),.slot 1 (.im (iV z)),.slot 5 (.im (bZ b5 0)),.slot 7 (.im dH),.slot 8 (.im u2),.slot 9 (.im (iV E)),.slot 10 (.im u3),.slot 11 (.im (iV E))] a W4:=hF;have hF:=hF.imTu (s:=36) (l:=[.im u4,.im (iV E')]) (List.mem_of_getElem? (i:=0) rfl) rfl;have C4:Below W3.heap.size W3 W4:=hA.below.trans (hb.mono hA.below.size);have B4:Below w0.heap.size w0 W4:=B3.trans (C4.mono B3.size);have o5:=oldOf.go C4 (Nat.le_refl _) o5;have hv:=hv.on C4;have l1:=l1.on C4;have l2:=l2.on C4;have l3:=l3.on C4;clear hA;refine aL (c:=bX) (hT _ _) (hG _ _) (Ol v z x b5 dH u2 E u3 E u4 E') trivial (by kernel_rfl) hF fun a w hA => ?_
 clear hF;show (Code.seq _ _).wp _ _ _ _;refine wp_seq (cD (l:=List.range' 0 ((aO (cA Fe)).extract 0 3).size++(3::(List.range' 4 ((aO (cA Fe)).extract 4 9).size++[]))) (by kernel_rfl) ?_);refine aL (c:=bX) (hT _ _) (cW W4 _ _ _) (Oj W4 v z x b5 dH u2 E u3 E u4 E') ⟨o5,rfl,trivial⟩ (by kernel_rfl) hA fun a w hA => ?_
 obtain⟨o,ho,⟨ts,hoo⟩,hod,hog⟩:∃o,(aO (cA Fe))[3]?=some o∧(∃ts,o.op=.call ⟨.value (.func 12),#[.tmp 40,.tmp 41,.tmp 42],ts⟩)∧o.dst=some 43∧o.guard=none:=⟨_,rfl,⟨_,rfl⟩,rfl,rfl⟩
 refine kN hA ho hoo hod hog (Nat.le_of_ble_eq_true (by kernel_rfl)) (vs:=[v,(iV z),.agg (aB [.q x]).toArray]) rfl (ks:=[0,1,5,7,8,9,10,11,12,13]) (keep:=[(0,.im v),(1,.im (iV z)),(5,.im (bZ b5 0)),(7,.im dH),(8,.im u2),(9,.im (iV E)),(10,.im u3),(11,.im (iV E)),(12,.im u4),(13,.im (iV E'))]) rfl rfl (bK func12 (by kernel_rfl) (by kernel_rfl)) (dr w v (hv.on hA.below)) fun e W5 hW => ?_
 obtain⟨u5,rfl,hb,l5⟩:=hW;refine⟨_,rfl,fun a hF => ?_⟩;have hF:Holds f3.ntmps W5.heap.size W5 [.slot 43 (.im (.tuple #[u5,(iV E')])),.slot 0 (.im v),.slot 1 (.im (iV z)),.slot 5 (.im (bZ b5 0)),.slot 7 (.im dH),.slot 8 (.im u2),.slot 9 (.im (iV E)),.slot 10 (.im u3),.slot 11 (.im (iV E)),.slot 12 (.im u4),.slot 13 (.im (iV E'))] a W5:=hF;have hF:=hF.imTu (s:=43) (l:=[.im u5,.im (iV E')]) (List.mem_of_getElem? (i:=0) rfl) rfl;have C5:Below W4.heap.size W4 W5:=hA.below.trans (hb.mono hA.below.size);have B5:Below w0.heap.size w0 W5:=B4.trans (C5.mono B4.size);have o5:=oldOf.go C5 (Nat.le_refl _) o5;have hv:=hv.on C5;have l1:=l1.on C5;have l2:=l2.on C5;have l3:=l3.on C5;have l4:=l4.on C5;clear hA;refine aL (c:=bX) (hT _ _) (hG _ _) (Oi v z x b5 dH u2 E u3 E u4 E' u5 E') trivial (by kernel_rfl) hF fun a w hA => ?_
 clear hF;show Ys.wp _ _ _ _;have ev:∀c:Int,aD .eql .i64 c c=some (.bool true):=Um
 refine aA aG (fun _ _=>TabOkW.add ((QD.add func15 (by kernel_rfl) (by kernel_rfl) (BW qR)).w _ _) func13 (by kernel_rfl) (by kernel_rfl) fun w hw=>ZN hw) (hG _ _) (Yq W5 v z x b5 dH u2 E u3 E u4 E' u5 E' E E' rfl rfl rfl rfl) ⟨⟨n2,g2,g2,l2.lw,l3.lw,fun _ _=>rfl,hn2⟩,ev _,⟨n4,g4,g4,l4.lw,l5.lw,fun _ _=>rfl,hn4⟩,ev _,⟨N,f,f,l1.lw,hv.lw,fun _ _=>rfl,by omega⟩,trivial⟩ hA fun a w hA => ?_
 exact cH (aW (l:=[.im (.bool true)]) (r:=.one (.im (.bool true))) (by kernel_rfl) (by kernel_rfl) hA) fun e w h=>⟨h.1,B5.trans (h.2.mono B5.size)⟩
end Go.Proofs.Ytjjnbgoepbiojaa.Ex
namespace Go.Proofs.Ytjjnbgoepbiojaa
open Go.Proofs.Try
open Go.ChangeShapes Go.WideShapes Go.ChangeAt Go.RowKit
theorem dH:ownKnob prog.godebug=none:=by kernel_rfl
theorem iA:laidOutB prog=true:=by kernel_rfl
theorem KH:prog.cellsOf 23=1:=by kernel_rfl
theorem Sc {α:Type} (l:List α) (h:(⟨l⟩:Array α).size=4):∃a b c d,l=[a,b,c,d]:=by
 match l,h with
 | [a,b,c,d],_=>exact⟨a,b,c,d,rfl⟩
theorem fR {n:Int} (h:(Lit.int .u64 n).wf=true):∃k:Nat,n=(k:Int)∧k<18446744073709551616:=by
 obtain⟨h1,h2⟩:=bounds_u64 h;obtain⟨k,rfl⟩:=Int.eq_ofNat_of_zero_le h1;exact⟨k,rfl,by omega⟩
end Go.Proofs.Ytjjnbgoepbiojaa
namespace Go.Proofs.Ytjjnbgoepbiojaa.Ex
open Go.Proofs.Try
open Go.Deep Go.ChangeShapes Go.WideShapes Go.ChangeAt Go.RowKit
theorem Wu {P:Program} {W:World} {base:Nat} {t n e:TypeId} {v:Value} (ht:P.underlying t=some (.array n e)) (h:Value.okWide P W .any base t v):∃cs,v=.agg cs∧cs.size=P.cellsOf t:=by
 obtain⟨cs,rfl,hs,_⟩:∃cs,v=.agg cs∧cs.size=P.cellsOf t∧Row.okWide P W .any base t cs:=by
  simpa[Value.okWide,ht]using h
 exact⟨cs,rfl,hs⟩
section
variable {H:Type} {enc:TypeId×Value→H} {W:World}
theorem tA {base:Nat} {v:Value} {d:DataW H} {ps:List MemPlace} {pt:Array TypeId} {args:Array Value} (hval:∀(j:Nat) t v,pt[j]?=some t→args[j]?=some v→Value.okWide prog W .any base t v) (j:Nat) (hj:pt[j]?=some 25) (ha:args[j]?=some v)
  (h:DataW.Trod enc prog W 0 (fun _=>true) true 25 v d ps):∃x:Nat,x<aT∧v=.agg (aB [At.q x]).toArray:=by
 obtain⟨⟨l⟩,rfl,hs⟩:=Wu (t:=25) underlying25 (hval j 25 v hj ha);rw[show prog.cellsOf 25=4 by kernel_rfl]at hs;obtain⟨fuel,h⟩:=h;obtain⟨c0,c1,c2,c3,rfl⟩:=Sc l hs;obtain⟨y0,y1,y2,y3,m,hx,hy0,hy1,hy2,hy3⟩:=trod_array4 underlying25 KH h;obtain⟨x0,e0,rfl,w0⟩:=DataW.trod_int underlying23 hy0;obtain⟨x1,e1,rfl,w1⟩:=DataW.trod_int underlying23 hy1;obtain⟨x2,e2,rfl,w2⟩:=DataW.trod_int underlying23 hy2;obtain⟨x3,e3,rfl,w3⟩:=DataW.trod_int underlying23 hy3;simp at e0 e1 e2 e3;obtain⟨a0,rfl,k0⟩:=fR w0;obtain⟨a1,rfl,k1⟩:=fR w1;obtain⟨a2,rfl,k2⟩:=fR w2;obtain⟨a3,rfl,k3⟩:=fR w3;subst e0 e1 e2 e3;have hv:aC a0 a1 a2 a3<115792089237316195423570985008687907853269984665640564039457584007913129639936:=by unfold aC; omega
 obtain⟨q0,q1',q2',q3⟩:=jW ⟨k0,k1,k2,k3⟩ hv rfl;refine⟨aC a0 a1 a2 a3,hv,?_⟩;show _=Value.agg (w4 (aC a0 a1 a2 a3)++[]).toArray;unfold w4;rw[←q0,←q1',←q2',←q3];rfl
end
end Go.Proofs.Ytjjnbgoepbiojaa.Ex
namespace Go.Proofs.Ytjjnbgoepbiojaa
open Go.Proofs.Try
open Go.ChangeShapes Go.WideShapes Go.ChangeAt Go.RowKit
def LAt (w:World) (g off len:Nat) (A:Nat→Nat→Nat):Prop:=∀k,k<len →
 w.cell? ⟨g,off+k*4,none⟩=some (.int .u64 (A k 0))∧w.cell? ⟨g,off+k*4+1,none⟩=some (.int .u64 (A k 1)) ∧
 w.cell? ⟨g,off+k*4+2,none⟩=some (.int .u64 (A k 2))∧w.cell? ⟨g,off+k*4+3,none⟩=some (.int .u64 (A k 3))
def LOk (len:Nat) (A:Nat→Nat→Nat):Prop:=∀k,k<len→bY (A k 0) (A k 1) (A k 2) (A k 3)
theorem LAt.same {w w':World} {g off len:Nat} {A:Nat→Nat→Nat} {B:Nat} (h:LAt w g off len A) (hg:0<len→g<B) (hb:Below B w w'):LAt w' g off len A :=
 fun k hk=>have hg:=hg (Nat.lt_of_le_of_lt (Nat.zero_le _) hk); ⟨(hb.cell (p:=⟨g,off+k*4,none⟩) hg).trans (h k hk).1,(hb.cell (p:=⟨g,off+k*4+1,none⟩) hg).trans (h k hk).2.1,
  (hb.cell (p:=⟨g,off+k*4+2,none⟩) hg).trans (h k hk).2.2.1,(hb.cell (p:=⟨g,off+k*4+3,none⟩) hg).trans (h k hk).2.2.2⟩
theorem wE:prog.cellsOf 25=4:=by kernel_rfl
theorem DH:prog.cellsOf 23=1:=by kernel_rfl
theorem Ip (cs:List Value) (h:cs.length=4):∃c0 c1 c2 c3,cs=[c0,c1,c2,c3]:=by
 match cs,h with
 | [c0,c1,c2,c3],_=>exact⟨c0,c1,c2,c3,rfl⟩
theorem PX {H:Type} {enc:TypeId×Value→H} {W:World} {o:Option Addr} {len cap:Nat} {d:DataW H} {ps:List MemPlace} (h:DataW.Trod enc prog W 0 (fun _=>true) true 22 (.slice o len cap) d ps) (hl:∀x∈ps,x.block<W.heap.size) :
  len≤9223372036854775807∧(len=0∨(0<len∧∃g off A,o=some ⟨g,off,none⟩∧g<W.heap.size∧LOk len A∧LAt W g off len A)):=by
 obtain⟨fuel,hf⟩:=h
 rcases DataW.trod_slice underlying22 hf with⟨hcs,_⟩|⟨a,len',cap',elems,rest,n,_,hcs,hx,hb,hlc,hm,hlen,hel,_⟩
 ·simp[Value.cells]at hcs;obtain⟨rfl,rfl,rfl⟩:=hcs;exact⟨by omega,Or.inl rfl⟩
 ·simp[Value.cells]at hcs;obtain⟨rfl,rfl,rfl⟩:=hcs;refine⟨by unfold maxLen at hm; omega,?_⟩
  by_cases h0:len=0
  ·exact Or.inl h0
  right;refine⟨by omega,?_⟩;rw[wE]at hel;have each:∀i,i<len→∃q:Nat×Nat×Nat×Nat,bY q.1 q.2.1 q.2.2.1 q.2.2.2∧W.cell? (a.add (i*4))=some (.int .u64 q.1)∧W.cell? (a.add (i*4+1))=some (.int .u64 q.2.1)∧W.cell? (a.add (i*4+2))=some (.int .u64 q.2.2.1)∧W.cell? (a.add (i*4+3))=some (.int .u64 q.2.2.2):=by
   intro i hi;have e1:=hel i hi;rw[List.getElem?_eq_getElem (by omega),Option.bind_eq_some_iff]at e1;obtain⟨cs',h1,h2⟩:=e1;obtain⟨_,hlen',hcell⟩:=World.cells?_some h1;obtain⟨c0,c1,c2,c3,rfl⟩:=Ip cs' hlen';obtain⟨y0,y1,y2,y3,m,_,hy0,hy1,hy2,hy3⟩:=trod_array4 underlying25 DH h2;obtain⟨x0,e0,_,w0⟩:=DataW.trod_int underlying23 hy0;obtain⟨x1,e1,_,w1⟩:=DataW.trod_int underlying23 hy1;obtain⟨x2,e2,_,w2⟩:=DataW.trod_int underlying23 hy2;obtain⟨x3,e3,_,w3⟩:=DataW.trod_int underlying23 hy3;simp at e0 e1 e2 e3;subst e0 e1 e2 e3;obtain⟨a0,rfl,k0⟩:=fR w0;obtain⟨a1,rfl,k1⟩:=fR w1;obtain⟨a2,rfl,k2⟩:=fR w2;obtain⟨a3,rfl,k3⟩:=fR w3;have g0:=hcell 0 (by omega);have g1:=hcell 1 (by omega);have g2:=hcell 2 (by omega);have g3:=hcell 3 (by omega);rw[Go.Deep.add_add]at g0 g1 g2 g3;exact⟨(a0,a1,a2,a3),⟨k0,k1,k2,k3⟩,by simpa using g0,by simpa using g1,by simpa using g2,by simpa using g3⟩
  obtain⟨g,off,spot⟩:=a;obtain⟨q0,_,hq0,_⟩:=each 0 (by omega);have hspot:spot=none:=by simpa[Addr.add]using World.cell?_spot hq0
  subst hspot;have hg:g<W.heap.size:=hl (.cell g off) (by
   have:=congrArg Prod.snd hx;simp only at this;rw[this];refine List.mem_append_left _ (MemPlace.mem_row.2 ⟨0,?_,by simp⟩);rw[wE,hlen];omega)
  have each':∀i,∃q:Nat×Nat×Nat×Nat,i<len→bY q.1 q.2.1 q.2.2.1 q.2.2.2∧W.cell? ⟨g,off+i*4,none⟩=some (.int .u64 q.1)∧W.cell? ⟨g,off+i*4+1,none⟩=some (.int .u64 q.2.1)∧W.cell? ⟨g,off+i*4+2,none⟩=some (.int .u64 q.2.2.1)∧W.cell? ⟨g,off+i*4+3,none⟩=some (.int .u64 q.2.2.2):=fun i=>by
   by_cases hi:i<len
   ·obtain⟨q,hq⟩:=each i hi;refine⟨q,fun _ => ?_⟩;simp only[add_plain]at hq;simpa[Nat.add_assoc]using hq
   ·exact⟨(0,0,0,0),fun h=>absurd h hi⟩
  refine⟨g,off,fun i j=>match j with|0=>(Classical.choose (each' i)).1|1=>(Classical.choose (each' i)).2.1|2=>(Classical.choose (each' i)).2.2.1|_=>(Classical.choose (each' i)).2.2.2,rfl,hg,fun k hk=>(Classical.choose_spec (each' k) hk).1,fun k hk=>(Classical.choose_spec (each' k) hk).2⟩
end Go.Proofs.Ytjjnbgoepbiojaa
namespace Go.Proofs.Ytjjnbgoepbiojaa.Ex
open Go.Proofs.Try
open Go.Deep Go.ChangeShapes Go.WideShapes Go.ChangeAt Go.RowKit
theorem MF:prog.bytesOf 25=32:=by kernel_rfl
theorem vO {W:World} {g:Nat} {A:Nat→Nat→Nat}:∀(n s off:Nat),(∀k,s≤k→k<s+n→bY (A k 0) (A k 1) (A k 2) (A k 3)) →
  (∀k,s≤k→k<s+n→W.cell? ⟨g,off+k*4,none⟩=some (.int .u64 (A k 0))∧W.cell? ⟨g,off+k*4+1,none⟩=some (.int .u64 (A k 1))∧W.cell? ⟨g,off+k*4+2,none⟩=some (.int .u64 (A k 2))∧W.cell? ⟨g,off+k*4+3,none⟩=some (.int .u64 (A k 3))) →
  W.rangeAt g (off+s*4) (aB (aR (el fun k=>aC (A k 0) (A k 1) (A k 2) (A k 3)) s n))
 | 0,s,off,_,_=>fun j v hj=>by simp[aR,aB]at hj
 | n+1,s,off,h1,h2=>fun j v hj=>by
  have ih:=vO (g:=g) (W:=W) (A:=A) n (s+1) off (fun k a b=>h1 k (by omega) (by omega)) (fun k a b=>h2 k (by omega) (by omega));have hj:(aB (el (fun k=>aC (A k 0) (A k 1) (A k 2) (A k 3)) s++aR (el fun k=>aC (A k 0) (A k 1) (A k 2) (A k 3)) (s+1) n))[j]?=some v:=hj;rw[aM]at hj;have ok:=h1 s (Nat.le_refl _) (by omega);obtain⟨c0,c1,c2,c3⟩:=h2 s (Nat.le_refl _) (by omega);have hv:aC (A s 0) (A s 1) (A s 2) (A s 3)<aT:=by obtain⟨k0,k1,k2,k3⟩:=ok; show _<115792089237316195423570985008687907853269984665640564039457584007913129639936; unfold aC; omega
  obtain⟨q0,q1,q2,q3⟩:=jW ok hv rfl;have e4:(aB (el (fun k=>aC (A k 0) (A k 1) (A k 2) (A k 3)) s))=[.int .u64 (A s 0),.int .u64 (A s 1),.int .u64 (A s 2),.int .u64 (A s 3)]:=by
   show w4 (aC (A s 0) (A s 1) (A s 2) (A s 3))++[]=_;unfold w4;rw[←q0,←q1,←q2,←q3];rfl
  rw[e4]at hj
  match j,hj with
  | 0,hj=>cases hj; exact c0
  | 1,hj=>cases hj; exact c1
  | 2,hj=>cases hj; exact c2
  | 3,hj=>cases hj; exact c3
  | j+4,hj =>
   have:=ih j v hj;rw[show off+s*4+(j+4)=off+(s+1)*4+j by omega];exact this
theorem tB {H:Type} {enc:TypeId×Value→H} {W:World} {o:Option Addr} {len cap:Nat} {d:DataW H} {ps:List MemPlace} (h:DataW.Trod enc prog W 0 (fun _=>true) true 22 (.slice o len cap) d ps) (hl:∀x∈ps,x.block<W.heap.size)
  (hsz:∀elems spare,d=.slice elems spare→(elems.length+spare.length)*prog.bytesOf 25≤reachBytes) :
  ∃f,LV W (.slice o len cap) len f∧(o=none→cap=0)∧len*32≤140737488351232:=by
 have hop:=(PX h hl).2;obtain⟨fuel,hf⟩:=h;have hlen:len*32≤140737488351232∧len≤cap∧(o=none→cap=0):=by
  rcases DataW.trod_slice underlying22 hf with⟨hcs,_⟩|⟨a,len',cap',elems,rest,n,_,hcs,hx,hb,hlc,hm,hlen,hel,_⟩
  ·simp[Value.cells]at hcs;obtain⟨rfl,rfl,rfl⟩:=hcs;exact⟨by omega,Nat.le_refl _,fun _=>rfl⟩
  ·simp[Value.cells]at hcs;obtain⟨rfl,rfl,rfl⟩:=hcs;have hs:=hsz _ _ (congrArg Prod.fst hx);rw[MF]at hs;simp only[List.length_map,reachBytes]at hs;exact⟨by omega,hlc,fun h=>by cases h⟩
 rcases hop with h0|⟨h0,g,off,A,rfl,hg,hA,hc⟩
 ·subst h0;exact⟨fun _=>0,⟨_,_,rfl,Nat.zero_le _,fun j hj=>by omega,fun h=>by omega⟩,hlen.2.2,by omega⟩
 ·refine⟨fun k=>aC (A k 0) (A k 1) (A k 2) (A k 3),⟨_,_,rfl,hlen.2.1,fun j hj => ?_,fun _=>⟨g,off,rfl,hg,?_⟩⟩,hlen.2.2,by omega⟩
  ·obtain⟨k0,k1,k2,k3⟩:=hA j hj;show aC _ _ _ _<115792089237316195423570985008687907853269984665640564039457584007913129639936;unfold aC; omega
  ·have:=vO (W:=W) (g:=g) (A:=A) len 0 off (fun k _ b=>hA k (by omega)) (fun k _ b=>hc k (by omega));rw[Nat.zero_mul,Nat.add_zero]at this;exact this
end Go.Proofs.Ytjjnbgoepbiojaa.Ex
