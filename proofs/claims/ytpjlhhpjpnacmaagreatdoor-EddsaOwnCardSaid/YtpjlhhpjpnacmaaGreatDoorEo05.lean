/- Eo05 -/
import Derived.OrdersHeld
import Derived.Deep.RegionHeld
import Derived.KernelRfl
import Derived.Deep.DeepCutAuto
import Derived.RangeFuncNested
import Derived.RangeFuncLeaves
import Derived.TacticsIn
import Derived.Laws.IdiomCopy
import Derived.Deep.LoopGhost
import Derived.RegionTactic
import Derived.Test.YtpjlhhpjpnacmaaGreatDoorEo04
import Derived.Test.YtpjlhhpjpnacmaaGreatDoorEo03
import Derived.Test.YtpjlhhpjpnacmaaGreatDoorEo02
import Derived.Test.YtpjlhhpjpnacmaaGreatDoorProg
set_option maxRecDepth 100000
set_option linter.unusedVariables false
set_option linter.unusedSimpArgs false
set_option linter.unnecessarySimpa false
noncomputable section
namespace Go.Proofs.YtpjlhhpjpnacmaaGreatDoor
open Go.Proofs.Tryz
section
variable {P:Program} {ops:Array Oper} {Q:Exit→Act→World→Prop} {md:Region.Mode} {S:World→Prop} {L:Nat}
def dM (P:Program) (md:Region.Mode) (ops:Array Oper) (Q:Exit→Act→World→Prop) (S:World→Prop) (L:Nat):Nat→Array Bool→Act→World→Prop
 | 0,got,a,w=>Region.ready md ops got=[]∧Q .normal a w
 | m+1,got,a,w =>
  (Region.ready md ops got=[]→Q .normal a w) ∧
  ∀i∈Region.ready md ops got,wpOp P ops Q i (fun b u=>(i=L∨S u)∧dM P md ops Q S L m (got.setIfInBounds i true) b u) a w
theorem nF:∀(m:Nat) (got:Array Bool) (a:Act) (w:World),dM P md ops Q S L m got a w→wpAny P md ops Q m got a w
 | 0,_,_,_,h=>h
 | m+1,_,_,_,h=>⟨h.1,fun i hi=>wpOp_mono (fun b u k=>nF m _ b u k.2) (h.2 i hi)⟩
def UP (md:Region.Mode) (ops:Array Oper) (L i:Nat):Bool :=
 match ops[L]? with
 | some o=>o.after.any fun e=>Region.binds md e&&e.on==i
 | none=>false
theorem ID {i:Nat} {oi:Oper} {v:Value} (hi:ops[i]?=some oi) (hsel:∀(j:Nat) (o:Oper) cs b,ops[j]?=some o→o.op ≠ .select cs b)
  (hL:UP md ops L i=true) (hQ:∀c a w,Q (.panic c) (a.put oi.dst v) w→Q (.panic c) a w) :
  ∀(m:Nat) (got:Array Bool) (a:Act) (w:World),
   (∀j oj,ops[j]?=some oj→j≠i→got.getD j true=false→(∀e∈oj.after,Region.binds md e=true→e.on≠i)→oi.apart ops oj=true) →
   i∈Region.ready md ops got→YieldsIf P ops S oi v a→S w →
   dM P md ops Q S L m (got.setIfInBounds i true) (a.put oi.dst v) w→dM P md ops Q S L (m+1) got a w:=by
 intro m
 induction m with
 | zero =>
  intro got a w _ hr hy hS H;refine⟨fun h=>(by rw[h]at hr; cases hr),fun j hj => ?_⟩
  by_cases hji:j=i
  ·subst hji; exact hy.wpOp hi hS ⟨.inr hS,H⟩
  ·have:=ready_mono hj hji;rw[H.1]at this;cases this
 | succ m ih =>
  intro got a w hfree hr hy hS H;refine⟨fun h=>(by rw[h]at hr; cases hr),fun j hj => ?_⟩
  by_cases hji:j=i
  ·subst hji; exact hy.wpOp hi hS ⟨.inr hS,H⟩
  ·obtain⟨hun,oj,hoj,hall⟩:=mem_ready.1 hj;have hno:∀e∈oj.after,Region.binds md e=true→e.on≠i:=fun e he hb heq=>by
    have h1:=hall e he hb;have h0:=(mem_ready.1 hr).1;rw[heq]at h1
    rcases Nat.lt_or_ge i got.size with h'|h'
    ·simp[h']at h0 h1; rw[h0]at h1; cases h1
    ·simp[Array.getElem?_eq_none h']at h1
   have hjL:j≠L:=fun e=>by
    subst e;unfold UP at hL;rw[hoj]at hL;obtain⟨x,hx,hx2⟩:=Array.any_eq_true'.1 hL;simp only[Bool.and_eq_true,beq_iff_eq]at hx2;exact hno x hx hx2.1 hx2.2
   have h2:=wpOp_putIf hoj (hfree j oj hoj hji hun hno) (fun cs b=>hsel i oi cs b hi) (fun cs b=>hsel j oj cs b hoj) hQ hy (H.2 j (ready_mono hj hji));have hfree':∀k ok,ops[k]?=some ok→k≠i→(got.setIfInBounds j true).getD k true=false →
     (∀e∈ok.after,Region.binds md e=true→e.on≠i)→oi.apart ops ok=true:=fun k ok hk hki hu hn=>by
    refine hfree k ok hk hki ?_ hn
    by_cases hjk:j=k
    ·subst hjk; exact hun
    ·rw[getD_set_ne true hjk]at hu; exact hu
   refine wpOp_mono (fun b u h3=>⟨h3.2.1,ih (got.setIfInBounds j true) b u hfree' (ready_mono hr (Ne.symm hji)) h3.1 (h3.2.1.resolve_left hjL) ?_⟩) h2;rw[Array.setIfInBounds_comm _ _ hji];exact h3.2.2
theorem aE {i:Nat} {oi:Oper} {v:Value} {m:Nat} {got:Array Bool} {a:Act} {w:World} (hi:ops[i]?=some oi)
  (hs:Region.noSelect ops=true) (hf:Region.free md ops got i=true) (hr:(Region.ready md ops got).contains i=true) (hL:UP md ops L i=true)
  (hQ:∀c a w,Q (.panic c) (a.put oi.dst v) w→Q (.panic c) a w) (hS:S w) (hy:YieldsIf P ops S oi v a)
  (h:dM P md ops Q S L m (got.setIfInBounds i true) (a.put oi.dst v) w):dM P md ops Q S L (m+1) got a w :=
 ID hi (Region.noSelect_spec hs) hL hQ m got a w (Region.free_spec hi hf) (by simpa using hr) hy hS h
theorem aQ {i:Nat} {o:Oper} {m:Nat} {got:Array Bool} {a:Act} {w:World} (hr:Region.ready md ops got=[i]) (ho:ops[i]?=some o)
  (h:∀K:Act→World→Prop,Shut (∀b u,(i=L∨S u)→((i=L∨S u)→dM P md ops Q S L m (got.setIfInBounds i true) b u)→K b u)→if Region.wanted o (yielded ops a.tmps)=true then Oper.wp P o a w K Q else K (a.put o.dst undef) w) :
  dM P md ops Q S L (m+1) got a w :=
 ⟨fun h0=>(by rw[hr]at h0; cases h0),fun j hj=>by
  rw[hr]at hj;obtain rfl:j=i:=by simpa using hj
  exact wpOp_step ho (fun K hK=>h K (fun b u hS hW=>hK b u ⟨hS,hW hS⟩))⟩
theorem cU {got:Array Bool} {a:Act} {w:World} (hr:Region.ready md ops got=[]) (h:Q .normal a w):dM P md ops Q S L 0 got a w:=⟨hr,h⟩
theorem cM (S:World→Prop) (L:Nat) {id:Nat} {a:Act} {w:World} (hm:P.follows .mixedOrders=true)
  (h:dM P .any ops Q S L ops.size (Array.replicate ops.size false) a w.drew):(Code.region id ops true).wp P Q a w :=
 wp_region_any hm (nF _ _ _ _ h)
end
theorem uG {P:Program} {ops:Array Oper} {Q:Exit→Act→World→Prop} {md:Region.Mode} {S:World→Prop} {L:Nat} {i j:Nat} {oi oj:Oper} {m:Nat} {got:Array Bool} {a:Act} {w:World} (hr:Region.ready md ops got=[i,j]) (hoi:ops[i]?=some oi) (hoj:ops[j]?=some oj)
  (h1:∀K:Act→World→Prop,Shut (∀b u,(i=L∨S u)→((i=L∨S u)→dM P md ops Q S L m (got.setIfInBounds i true) b u)→K b u)→if Region.wanted oi (yielded ops a.tmps)=true then Oper.wp P oi a w K Q else K (a.put oi.dst undef) w)
  (h2:∀K:Act→World→Prop,Shut (∀b u,(j=L∨S u)→((j=L∨S u)→dM P md ops Q S L m (got.setIfInBounds j true) b u)→K b u)→if Region.wanted oj (yielded ops a.tmps)=true then Oper.wp P oj a w K Q else K (a.put oj.dst undef) w) :
  dM P md ops Q S L (m+1) got a w :=
 ⟨fun h0=>(by rw[hr]at h0; cases h0),fun k hk=>by
  rw[hr]at hk
  rcases List.mem_cons.1 hk with rfl|hk
  ·exact wpOp_step hoi (fun K hK=>h1 K (fun b u hS hW=>hK b u ⟨hS,hW hS⟩))
  ·obtain rfl:k=j:=by simpa using hk
   exact wpOp_step hoj (fun K hK=>h2 K (fun b u hS hW=>hK b u ⟨hS,hW hS⟩))⟩
open Go.RowKit
def FieldIs (f:Int) (F:FC):Prop:=f=1∧F=FP∨f=2∧F=FR
theorem FieldIs.ok {f:Int} {F:FC} (h:FieldIs f F):F.Ok:=by rcases h with⟨_,rfl⟩|⟨_,rfl⟩; exact aED; exact aEB
theorem FieldIs.root {f:Int} {F:FC} (h:FieldIs f F):∃g,Root F.M g:=by
 rcases h with⟨_,rfl⟩|⟨_,rfl⟩
 ·exact⟨3,by rw[aHk]; exact Qo⟩
 ·exact⟨5,by rw[aEC]; exact WD⟩
def Bad1 (f:Int) (A:Nat) (c:Int):Prop:=f≠1∧f≠2∧c=1∨∃F,FieldIs f F∧¬A<F.M∧c=21
def Bad2 (f:Int) (A B:Nat) (c:Int):Prop:=Bad1 f A c∨∃F,FieldIs f F∧A<F.M∧¬B<F.M∧c=21
def Yg (c:Int) (V:Nat) (w:World) (e:Ending) (w':World):Prop :=
 ∃s0 s1 s2 s3:Nat,e=.returned (.tuple #[.agg #[.int .u64 s0,.int .u64 s1,.int .u64 s2,.int .u64 s3],.int .i64 c])∧cC s0 s1 s2 s3∧aC s0 s1 s2 s3=V∧Below w.heap.size w w'
theorem Yi:cC 0 0 0 0:=⟨by omega,by omega,by omega,by omega⟩
theorem KIs.new (w:World) (F:FC) (t:TypeId):KIs (w.alloc (.cells #[.int .u64 F.m0,.int .u64 F.m1,.int .u64 F.m2,.int .u64 F.m3,.int .u64 F.inv,.int .u64 F.s0,.int .u64 F.s1,.int .u64 F.s2,.int .u64 F.s3] t)) w.heap.size F :=
 ⟨by rw[World.cell?_alloc_new]; rfl,by rw[World.cell?_alloc_new]; rfl,by rw[World.cell?_alloc_new]; rfl,by rw[World.cell?_alloc_new]; rfl,by rw[World.cell?_alloc_new]; rfl,by rw[World.cell?_alloc_new]; rfl,by rw[World.cell?_alloc_new]; rfl,by rw[World.cell?_alloc_new]; rfl,by rw[World.cell?_alloc_new]; rfl,by simp⟩
set_option maxHeartbeats 2000000 in
theorem fB (f:Int) (F:FC) (hf:FieldIs f F) (w:World):Calls prog 96 #[.int .i64 f] w fun e w'=>e=.returned (.tuple #[.agg #[.int .u64 F.m0,.int .u64 F.m1,.int .u64 F.m2,.int .u64 F.m3,.int .u64 F.inv,.int .u64 F.s0,.int .u64 F.s1,.int .u64 F.s2,.int .u64 F.s3],.int .i64 0])∧Below w.heap.size w w':=by
 rcases hf with⟨rfl,rfl⟩|⟨rfl,rfl⟩
 ·go_enter func96,ntmps96
  go_wp2_with fail;refine bodyPost_ret (v:=.tuple #[.agg #[.int .u64 FP.m0,.int .u64 FP.m1,.int .u64 FP.m2,.int .u64 FP.m3,.int .u64 FP.inv,.int .u64 FP.s0,.int .u64 FP.s1,.int .u64 FP.s2,.int .u64 FP.s3],.int .i64 0]) (by simp[results,results96,go_sem,FP]) rfl ?_;refine⟨rfl,?_⟩
  repeat (first|exact Below.refl _ _|refine Below.drew ?_|refine Below.alloc ?_ (by first|(simp; done)|(simp; omega)) _|refine Below.setCell ?_ (by simp) _)
 ·go_enter func96,ntmps96
  go_wp2_with fail;refine bodyPost_ret (v:=.tuple #[.agg #[.int .u64 FR.m0,.int .u64 FR.m1,.int .u64 FR.m2,.int .u64 FR.m3,.int .u64 FR.inv,.int .u64 FR.s0,.int .u64 FR.s1,.int .u64 FR.s2,.int .u64 FR.s3],.int .i64 0]) (by simp[results,results96,go_sem,FR]) rfl ?_;refine⟨rfl,?_⟩
  repeat (first|exact Below.refl _ _|refine Below.drew ?_|refine Below.alloc ?_ (by first|(simp; done)|(simp; omega)) _|refine Below.setCell ?_ (by simp) _)
set_option maxHeartbeats 2000000 in
theorem SI (f:Int) (h1:f≠1) (h2:f≠2) (w:World):Calls prog 96 #[.int .i64 f] w fun e w'=>e=.returned (.tuple #[.agg #[.int .u64 0,.int .u64 0,.int .u64 0,.int .u64 0,.int .u64 0,.int .u64 0,.int .u64 0,.int .u64 0,.int .u64 0],.int .i64 1])∧Below w.heap.size w w':=by
 have t1:(f==1)=false:=by simp[h1]
 have t2:(f==2)=false:=by simp[h2]
 go_enter func96,ntmps96
 go_wp2_with fail;refine bodyPost_ret (v:=.tuple #[.agg #[.int .u64 0,.int .u64 0,.int .u64 0,.int .u64 0,.int .u64 0,.int .u64 0,.int .u64 0,.int .u64 0,.int .u64 0],.int .i64 1]) (by simp[results,results96,go_sem]) rfl ?_;refine⟨rfl,?_⟩
 repeat (first|exact Below.refl _ _|refine Below.drew ?_|refine Below.alloc ?_ (by first|(simp; done)|(simp; omega)) _|refine Below.setCell ?_ (by simp) _)
theorem DD (w:World):Calls prog 98 #[.int .i64 1] w fun e w'=>e=.returned (.int .i64 1)∧w'=w:=by
 go_enter func98,ntmps98
 go_wp2_with fail;go_ret;exact⟨rfl,rfl⟩
theorem DC (w:World):Calls prog 98 #[.int .i64 0] w fun e w'=>e=.returned (.int .i64 21)∧w'=w:=by
 go_enter func98,ntmps98
 go_wp2_with fail;go_ret;exact⟨rfl,rfl⟩
set_option maxHeartbeats 2000000 in
theorem Kd (f:Int) (F:FC) (hf:FieldIs f F) (a0 a1 a2 a3 b0 b1 b2 b3:Nat) (ha:cC a0 a1 a2 a3) (hb:cC b0 b1 b2 b3) (la:aC a0 a1 a2 a3<F.M) (lb:aC b0 b1 b2 b3<F.M) (w:World) :
  Calls prog 195 #[.int .i64 f,.agg #[.int .u64 a0,.int .u64 a1,.int .u64 a2,.int .u64 a3],.agg #[.int .u64 b0,.int .u64 b1,.int .u64 b2,.int .u64 b3]] w (Yg 0 ((aC a0 a1 a2 a3+aC b0 b1 b2 b3)%F.M) w):=by
 go_enter func195,ntmps195
 go_wp2_with fail;refine (fB f F hf _).mono ?_
 rintro e w1 ⟨rfl,hbl⟩
 have M1:=((((Mem.nil w).new (w.heap.size) a0 a1 a2 a3 27 (by simp)).new (w.heap.size+1) b0 b1 b2 b3 27 (by simp)).new (w.heap.size+1+1) 0 0 0 0 27 (by simp)).on hbl;clear hbl;have z0:w.heap.size<w1.heap.size:=M1.lt (c0:=a0) (c1:=a1) (c2:=a2) (c3:=a3) (by simp);have z1:w.heap.size+1<w1.heap.size:=M1.lt (c0:=b0) (c1:=b1) (c2:=b2) (c3:=b3) (by simp);have z2:w.heap.size+1+1<w1.heap.size:=M1.lt (c0:=0) (c1:=0) (c2:=0) (c3:=0) (by simp);have HM:=Lib.hid (M1.on ((Below.refl _ _).alloc (Nat.le_refl _) (.cells #[.int .u64 F.m0,.int .u64 F.m1,.int .u64 F.m2,.int .u64 F.m3,.int .u64 F.inv,.int .u64 F.s0,.int .u64 F.s1,.int .u64 F.s2,.int .u64 F.s3] 157)));have KK:=Lib.hid (KIs.new w1 F 157);have kr:=M1.row (b:=w.heap.size) (c0:=a0) (c1:=a1) (c2:=a2) (c3:=a3) (by simp);have x0:=kr.c0; have x1:=kr.c1; have x2:=kr.c2; have x3:=kr.c3;clear kr;have xl:=M1.lt (b:=w.heap.size) (c0:=a0) (c1:=a1) (c2:=a2) (c3:=a3) (by simp);go_wp2_with fail;refine (dQ F hf.ok w1.heap.size a0 a1 a2 a3 ha _ KK.out).mono ?_
 rintro e w2 ⟨he,hbl⟩
 rw[show FB (aC a0 a1 a2 a3) F.M=true from decide_eq_true la]at he;subst he;have HM':=Lib.hid (HM.out.on hbl);have KK':=Lib.hid (KK.out.same hbl);have zk:=KK'.out.lt;clear HM KK hbl M1;have HM:=HM';have KK:=KK';clear HM' KK';clear x0 x1 x2 x3 xl zk;have kr:=HM.out.row (b:=w.heap.size+1) (c0:=b0) (c1:=b1) (c2:=b2) (c3:=b3) (by simp);have x0:=kr.c0; have x1:=kr.c1; have x2:=kr.c2; have x3:=kr.c3;clear kr;have xl:=HM.out.lt (b:=w.heap.size+1) (c0:=b0) (c1:=b1) (c2:=b2) (c3:=b3) (by simp);go_wp2_with fail;refine (dQ F hf.ok w1.heap.size b0 b1 b2 b3 hb _ KK.out).mono ?_
 rintro e w3 ⟨he,hbl⟩
 rw[show FB (aC b0 b1 b2 b3) F.M=true from decide_eq_true lb]at he;subst he;have HM':=Lib.hid (HM.out.on hbl);have KK':=Lib.hid (KK.out.same hbl);have zk:=KK'.out.lt;clear HM KK hbl;have HM:=HM';have KK:=KK';clear HM' KK';clear x0 x1 x2 x3 xl zk;have kr:=HM.out.row (b:=w.heap.size) (c0:=a0) (c1:=a1) (c2:=a2) (c3:=a3) (by simp);have x0:=kr.c0; have x1:=kr.c1; have x2:=kr.c2; have x3:=kr.c3;clear kr;have xl:=HM.out.lt (b:=w.heap.size) (c0:=a0) (c1:=a1) (c2:=a2) (c3:=a3) (by simp);have kr:=HM.out.row (b:=w.heap.size+1) (c0:=b0) (c1:=b1) (c2:=b2) (c3:=b3) (by simp);have u0:=kr.c0; have u1:=kr.c1; have u2:=kr.c2; have u3:=kr.c3;clear kr;have ul:=HM.out.lt (b:=w.heap.size+1) (c0:=b0) (c1:=b1) (c2:=b2) (c3:=b3) (by simp);go_wp2_with fail;refine (uS F hf.ok w1.heap.size a0 a1 a2 a3 b0 b1 b2 b3 ha hb la lb _ KK.out).mono ?_
 rintro e w4 ⟨s0,s1,s2,s3,rfl,hs,hv,hbl⟩
 have HV:=Lib.hid hv;clear hv;have HM':=Lib.hid (HM.out.on hbl);have KK':=Lib.hid (KK.out.same hbl);have zk:=KK'.out.lt;clear HM KK hbl;have HM:=HM';have KK:=KK';clear HM' KK';clear x0 x1 x2 x3 xl u0 u1 u2 u3 ul zk;have kr:=HM.out.row (b:=w.heap.size+1+1) (c0:=0) (c1:=0) (c2:=0) (c3:=0) (by simp);have y0:=kr.c0; have y1:=kr.c1; have y2:=kr.c2; have y3:=kr.c3; have yf:=kr.fr;clear kr;have yl:=HM.out.lt (b:=w.heap.size+1+1) (c0:=0) (c1:=0) (c2:=0) (c3:=0) (by simp);go_wp2_with fail;refine bodyPost_ret (v:=.tuple #[.agg #[.int .u64 s0,.int .u64 s1,.int .u64 s2,.int .u64 s3],.int .i64 0]) (by simp[results,results195,go_sem, *]) rfl ?_;refine⟨_,_,_,_,rfl,hs,HV.out,?_⟩;exact bF HM.out.1 (by omega) _ _ _ _
set_option maxHeartbeats 2000000 in
theorem Jw (f:Int) (F:FC) (hf:FieldIs f F) (a0 a1 a2 a3 b0 b1 b2 b3:Nat) (ha:cC a0 a1 a2 a3) (hb:cC b0 b1 b2 b3) (la:aC a0 a1 a2 a3<F.M) (lb:aC b0 b1 b2 b3<F.M) (w:World) :
  Calls prog 158 #[.int .i64 f,.agg #[.int .u64 a0,.int .u64 a1,.int .u64 a2,.int .u64 a3],.agg #[.int .u64 b0,.int .u64 b1,.int .u64 b2,.int .u64 b3]] w (Yg 0 ((aC a0 a1 a2 a3+F.M-aC b0 b1 b2 b3)%F.M) w):=by
 go_enter func158,ntmps158
 go_wp2_with fail;refine (fB f F hf _).mono ?_
 rintro e w1 ⟨rfl,hbl⟩
 have M1:=((((Mem.nil w).new (w.heap.size) a0 a1 a2 a3 27 (by simp)).new (w.heap.size+1) b0 b1 b2 b3 27 (by simp)).new (w.heap.size+1+1) 0 0 0 0 27 (by simp)).on hbl;clear hbl;have z0:w.heap.size<w1.heap.size:=M1.lt (c0:=a0) (c1:=a1) (c2:=a2) (c3:=a3) (by simp);have z1:w.heap.size+1<w1.heap.size:=M1.lt (c0:=b0) (c1:=b1) (c2:=b2) (c3:=b3) (by simp);have z2:w.heap.size+1+1<w1.heap.size:=M1.lt (c0:=0) (c1:=0) (c2:=0) (c3:=0) (by simp);have HM:=Lib.hid (M1.on ((Below.refl _ _).alloc (Nat.le_refl _) (.cells #[.int .u64 F.m0,.int .u64 F.m1,.int .u64 F.m2,.int .u64 F.m3,.int .u64 F.inv,.int .u64 F.s0,.int .u64 F.s1,.int .u64 F.s2,.int .u64 F.s3] 157)));have KK:=Lib.hid (KIs.new w1 F 157);have kr:=M1.row (b:=w.heap.size) (c0:=a0) (c1:=a1) (c2:=a2) (c3:=a3) (by simp);have x0:=kr.c0; have x1:=kr.c1; have x2:=kr.c2; have x3:=kr.c3;clear kr;have xl:=M1.lt (b:=w.heap.size) (c0:=a0) (c1:=a1) (c2:=a2) (c3:=a3) (by simp);go_wp2_with fail;refine (dQ F hf.ok w1.heap.size a0 a1 a2 a3 ha _ KK.out).mono ?_
 rintro e w2 ⟨he,hbl⟩
 rw[show FB (aC a0 a1 a2 a3) F.M=true from decide_eq_true la]at he;subst he;have HM':=Lib.hid (HM.out.on hbl);have KK':=Lib.hid (KK.out.same hbl);have zk:=KK'.out.lt;clear HM KK hbl M1;have HM:=HM';have KK:=KK';clear HM' KK';clear x0 x1 x2 x3 xl zk;have kr:=HM.out.row (b:=w.heap.size+1) (c0:=b0) (c1:=b1) (c2:=b2) (c3:=b3) (by simp);have x0:=kr.c0; have x1:=kr.c1; have x2:=kr.c2; have x3:=kr.c3;clear kr;have xl:=HM.out.lt (b:=w.heap.size+1) (c0:=b0) (c1:=b1) (c2:=b2) (c3:=b3) (by simp);go_wp2_with fail;refine (dQ F hf.ok w1.heap.size b0 b1 b2 b3 hb _ KK.out).mono ?_
 rintro e w3 ⟨he,hbl⟩
 rw[show FB (aC b0 b1 b2 b3) F.M=true from decide_eq_true lb]at he;subst he;have HM':=Lib.hid (HM.out.on hbl);have KK':=Lib.hid (KK.out.same hbl);have zk:=KK'.out.lt;clear HM KK hbl;have HM:=HM';have KK:=KK';clear HM' KK';clear x0 x1 x2 x3 xl zk;have kr:=HM.out.row (b:=w.heap.size) (c0:=a0) (c1:=a1) (c2:=a2) (c3:=a3) (by simp);have x0:=kr.c0; have x1:=kr.c1; have x2:=kr.c2; have x3:=kr.c3;clear kr;have xl:=HM.out.lt (b:=w.heap.size) (c0:=a0) (c1:=a1) (c2:=a2) (c3:=a3) (by simp);have kr:=HM.out.row (b:=w.heap.size+1) (c0:=b0) (c1:=b1) (c2:=b2) (c3:=b3) (by simp);have u0:=kr.c0; have u1:=kr.c1; have u2:=kr.c2; have u3:=kr.c3;clear kr;have ul:=HM.out.lt (b:=w.heap.size+1) (c0:=b0) (c1:=b1) (c2:=b2) (c3:=b3) (by simp);go_wp2_with fail;refine (tA F hf.ok w1.heap.size a0 a1 a2 a3 b0 b1 b2 b3 ha hb la lb _ KK.out).mono ?_
 rintro e w4 ⟨s0,s1,s2,s3,rfl,hs,hv,hbl⟩
 have HV:=Lib.hid hv;clear hv;have HM':=Lib.hid (HM.out.on hbl);have KK':=Lib.hid (KK.out.same hbl);have zk:=KK'.out.lt;clear HM KK hbl;have HM:=HM';have KK:=KK';clear HM' KK';clear x0 x1 x2 x3 xl u0 u1 u2 u3 ul zk;have kr:=HM.out.row (b:=w.heap.size+1+1) (c0:=0) (c1:=0) (c2:=0) (c3:=0) (by simp);have y0:=kr.c0; have y1:=kr.c1; have y2:=kr.c2; have y3:=kr.c3; have yf:=kr.fr;clear kr;have yl:=HM.out.lt (b:=w.heap.size+1+1) (c0:=0) (c1:=0) (c2:=0) (c3:=0) (by simp);go_wp2_with fail;refine bodyPost_ret (v:=.tuple #[.agg #[.int .u64 s0,.int .u64 s1,.int .u64 s2,.int .u64 s3],.int .i64 0]) (by simp[results,results158,go_sem, *]) rfl ?_;refine⟨_,_,_,_,rfl,hs,HV.out,?_⟩;exact bF HM.out.1 (by omega) _ _ _ _
set_option maxHeartbeats 2000000 in
theorem Jy (f:Int) (F:FC) (hf:FieldIs f F) (a0 a1 a2 a3 b0 b1 b2 b3:Nat) (ha:cC a0 a1 a2 a3) (hb:cC b0 b1 b2 b3) (la:aC a0 a1 a2 a3<F.M) (lb:aC b0 b1 b2 b3<F.M) (w:World) :
  Calls prog 189 #[.int .i64 f,.agg #[.int .u64 a0,.int .u64 a1,.int .u64 a2,.int .u64 a3],.agg #[.int .u64 b0,.int .u64 b1,.int .u64 b2,.int .u64 b3]] w (Yg 0 (aC a0 a1 a2 a3*aC b0 b1 b2 b3%F.M) w):=by
 go_enter func189,ntmps189
 go_wp2_with fail;refine (fB f F hf _).mono ?_
 rintro e w1 ⟨rfl,hbl⟩
 have M1:=((((Mem.nil w).new (w.heap.size) a0 a1 a2 a3 27 (by simp)).new (w.heap.size+1) b0 b1 b2 b3 27 (by simp)).new (w.heap.size+1+1) 0 0 0 0 27 (by simp)).on hbl;clear hbl;have z0:w.heap.size<w1.heap.size:=M1.lt (c0:=a0) (c1:=a1) (c2:=a2) (c3:=a3) (by simp);have z1:w.heap.size+1<w1.heap.size:=M1.lt (c0:=b0) (c1:=b1) (c2:=b2) (c3:=b3) (by simp);have z2:w.heap.size+1+1<w1.heap.size:=M1.lt (c0:=0) (c1:=0) (c2:=0) (c3:=0) (by simp);have HM:=Lib.hid (M1.on ((Below.refl _ _).alloc (Nat.le_refl _) (.cells #[.int .u64 F.m0,.int .u64 F.m1,.int .u64 F.m2,.int .u64 F.m3,.int .u64 F.inv,.int .u64 F.s0,.int .u64 F.s1,.int .u64 F.s2,.int .u64 F.s3] 157)));have KK:=Lib.hid (KIs.new w1 F 157);have kr:=M1.row (b:=w.heap.size) (c0:=a0) (c1:=a1) (c2:=a2) (c3:=a3) (by simp);have x0:=kr.c0; have x1:=kr.c1; have x2:=kr.c2; have x3:=kr.c3;clear kr;have xl:=M1.lt (b:=w.heap.size) (c0:=a0) (c1:=a1) (c2:=a2) (c3:=a3) (by simp);go_wp2_with fail;refine (dQ F hf.ok w1.heap.size a0 a1 a2 a3 ha _ KK.out).mono ?_
 rintro e w2 ⟨he,hbl⟩
 rw[show FB (aC a0 a1 a2 a3) F.M=true from decide_eq_true la]at he;subst he;have HM':=Lib.hid (HM.out.on hbl);have KK':=Lib.hid (KK.out.same hbl);have zk:=KK'.out.lt;clear HM KK hbl M1;have HM:=HM';have KK:=KK';clear HM' KK';clear x0 x1 x2 x3 xl zk;have kr:=HM.out.row (b:=w.heap.size+1) (c0:=b0) (c1:=b1) (c2:=b2) (c3:=b3) (by simp);have x0:=kr.c0; have x1:=kr.c1; have x2:=kr.c2; have x3:=kr.c3;clear kr;have xl:=HM.out.lt (b:=w.heap.size+1) (c0:=b0) (c1:=b1) (c2:=b2) (c3:=b3) (by simp);go_wp2_with fail;refine (dQ F hf.ok w1.heap.size b0 b1 b2 b3 hb _ KK.out).mono ?_
 rintro e w3 ⟨he,hbl⟩
 rw[show FB (aC b0 b1 b2 b3) F.M=true from decide_eq_true lb]at he;subst he;have HM':=Lib.hid (HM.out.on hbl);have KK':=Lib.hid (KK.out.same hbl);have zk:=KK'.out.lt;clear HM KK hbl;have HM:=HM';have KK:=KK';clear HM' KK';clear x0 x1 x2 x3 xl zk;have kr:=HM.out.row (b:=w.heap.size) (c0:=a0) (c1:=a1) (c2:=a2) (c3:=a3) (by simp);have x0:=kr.c0; have x1:=kr.c1; have x2:=kr.c2; have x3:=kr.c3;clear kr;have xl:=HM.out.lt (b:=w.heap.size) (c0:=a0) (c1:=a1) (c2:=a2) (c3:=a3) (by simp);have kr:=HM.out.row (b:=w.heap.size+1) (c0:=b0) (c1:=b1) (c2:=b2) (c3:=b3) (by simp);have u0:=kr.c0; have u1:=kr.c1; have u2:=kr.c2; have u3:=kr.c3;clear kr;have ul:=HM.out.lt (b:=w.heap.size+1) (c0:=b0) (c1:=b1) (c2:=b2) (c3:=b3) (by simp);go_wp2_with fail;refine (wX F hf.ok w1.heap.size a0 a1 a2 a3 b0 b1 b2 b3 ha hb lb _ KK.out).mono ?_
 rintro e w4 ⟨s0,s1,s2,s3,rfl,hs,hv,hbl⟩
 have HV:=Lib.hid hv;clear hv;have HM':=Lib.hid (HM.out.on hbl);have KK':=Lib.hid (KK.out.same hbl);have zk:=KK'.out.lt;clear HM KK hbl;have HM:=HM';have KK:=KK';clear HM' KK';clear x0 x1 x2 x3 xl u0 u1 u2 u3 ul zk;have kr:=HM.out.row (b:=w.heap.size+1+1) (c0:=0) (c1:=0) (c2:=0) (c3:=0) (by simp);have y0:=kr.c0; have y1:=kr.c1; have y2:=kr.c2; have y3:=kr.c3; have yf:=kr.fr;clear kr;have yl:=HM.out.lt (b:=w.heap.size+1+1) (c0:=0) (c1:=0) (c2:=0) (c3:=0) (by simp);go_wp2_with fail;refine bodyPost_ret (v:=.tuple #[.agg #[.int .u64 s0,.int .u64 s1,.int .u64 s2,.int .u64 s3],.int .i64 0]) (by simp[results,results189,go_sem, *]) rfl ?_;refine⟨_,_,_,_,rfl,hs,HV.out,?_⟩;exact bF HM.out.1 (by omega) _ _ _ _
set_option maxHeartbeats 2000000 in
theorem KU (f c:Int) (a0 a1 a2 a3:Nat) (ha:cC a0 a1 a2 a3) (h:Bad1 f (aC a0 a1 a2 a3) c) (w:World) :
  Calls prog 81 #[.int .i64 f,.agg #[.int .u64 a0,.int .u64 a1,.int .u64 a2,.int .u64 a3]] w fun e w'=>e=.returned (.int .i64 c)∧Below w.heap.size w w':=by
 rcases h with⟨h1,h2,rfl⟩|⟨F,hf,la,rfl⟩
 ·go_enter func81,ntmps81
  go_wp2_with fail;refine (SI f h1 h2 _).mono ?_
  rintro e w1 ⟨rfl,hbl⟩
  have M1:=((Mem.nil w).new (w.heap.size) a0 a1 a2 a3 27 (by simp)).on hbl;clear hbl;have z0:w.heap.size<w1.heap.size:=M1.lt (c0:=a0) (c1:=a1) (c2:=a2) (c3:=a3) (by simp);have HM:=Lib.hid (M1.on ((Below.refl _ _).alloc (Nat.le_refl _) (.cells #[.int .u64 0,.int .u64 0,.int .u64 0,.int .u64 0,.int .u64 0,.int .u64 0,.int .u64 0,.int .u64 0,.int .u64 0] 157)));go_wp2_with fail;refine (DD _).mono ?_
  rintro e w2 ⟨rfl,rfl⟩
  go_wp2_with fail;refine bodyPost_ret (v:=.int .i64 1) (by simp[results,results81,go_sem, *]) rfl ?_;exact⟨rfl,HM.out.1⟩
 ·go_enter func81,ntmps81
  go_wp2_with fail;refine (fB f F hf _).mono ?_
  rintro e w1 ⟨rfl,hbl⟩
  have M1:=((Mem.nil w).new (w.heap.size) a0 a1 a2 a3 27 (by simp)).on hbl;clear hbl;have z0:w.heap.size<w1.heap.size:=M1.lt (c0:=a0) (c1:=a1) (c2:=a2) (c3:=a3) (by simp);have HM:=Lib.hid (M1.on ((Below.refl _ _).alloc (Nat.le_refl _) (.cells #[.int .u64 F.m0,.int .u64 F.m1,.int .u64 F.m2,.int .u64 F.m3,.int .u64 F.inv,.int .u64 F.s0,.int .u64 F.s1,.int .u64 F.s2,.int .u64 F.s3] 157)));have KK:=Lib.hid (KIs.new w1 F 157);have kr:=M1.row (b:=w.heap.size) (c0:=a0) (c1:=a1) (c2:=a2) (c3:=a3) (by simp);have x0:=kr.c0; have x1:=kr.c1; have x2:=kr.c2; have x3:=kr.c3;clear kr;have xl:=M1.lt (b:=w.heap.size) (c0:=a0) (c1:=a1) (c2:=a2) (c3:=a3) (by simp);go_wp2_with fail;refine (dQ F hf.ok w1.heap.size a0 a1 a2 a3 ha _ KK.out).mono ?_
  rintro e w2 ⟨he,hbl⟩
  rw[show FB (aC a0 a1 a2 a3) F.M=false from decide_eq_false la]at he;subst he;have HM':=Lib.hid (HM.out.on hbl);have KK':=Lib.hid (KK.out.same hbl);have zk:=KK'.out.lt;clear HM KK hbl M1;have HM:=HM';have KK:=KK';clear HM' KK';clear x0 x1 x2 x3 xl zk;go_wp2_with fail;refine (DC _).mono ?_
  rintro e w3 ⟨rfl,rfl⟩
  go_wp2_with fail;refine bodyPost_ret (v:=.int .i64 21) (by simp[results,results81,go_sem, *]) rfl ?_;exact⟨rfl,HM.out.1⟩
set_option maxHeartbeats 2000000 in
theorem RU (f:Int) (F:FC) (hf:FieldIs f F) (a0 a1 a2 a3:Nat) (ha:cC a0 a1 a2 a3) (la:aC a0 a1 a2 a3<F.M) (w:World) :
  Calls prog 81 #[.int .i64 f,.agg #[.int .u64 a0,.int .u64 a1,.int .u64 a2,.int .u64 a3]] w (fun e w'=>e=.returned (.int .i64 0)∧Below w.heap.size w w'):=by
 go_enter func81,ntmps81
 go_wp2_with fail;refine (fB f F hf _).mono ?_
 rintro e w1 ⟨rfl,hbl⟩
 have M1:=((Mem.nil w).new (w.heap.size) a0 a1 a2 a3 27 (by simp)).on hbl;clear hbl;have z0:w.heap.size<w1.heap.size:=M1.lt (c0:=a0) (c1:=a1) (c2:=a2) (c3:=a3) (by simp);have HM:=Lib.hid (M1.on ((Below.refl _ _).alloc (Nat.le_refl _) (.cells #[.int .u64 F.m0,.int .u64 F.m1,.int .u64 F.m2,.int .u64 F.m3,.int .u64 F.inv,.int .u64 F.s0,.int .u64 F.s1,.int .u64 F.s2,.int .u64 F.s3] 157)));have KK:=Lib.hid (KIs.new w1 F 157);have kr:=M1.row (b:=w.heap.size) (c0:=a0) (c1:=a1) (c2:=a2) (c3:=a3) (by simp);have x0:=kr.c0; have x1:=kr.c1; have x2:=kr.c2; have x3:=kr.c3;clear kr;have xl:=M1.lt (b:=w.heap.size) (c0:=a0) (c1:=a1) (c2:=a2) (c3:=a3) (by simp);go_wp2_with fail;refine (dQ F hf.ok w1.heap.size a0 a1 a2 a3 ha _ KK.out).mono ?_
 rintro e w2 ⟨he,hbl⟩
 rw[show FB (aC a0 a1 a2 a3) F.M=true from decide_eq_true la]at he;subst he;have HM':=Lib.hid (HM.out.on hbl);have KK':=Lib.hid (KK.out.same hbl);have zk:=KK'.out.lt;clear HM KK hbl M1;have HM:=HM';have KK:=KK';clear HM' KK';clear x0 x1 x2 x3 xl zk;go_wp2_with fail;go_ret;exact⟨rfl,HM.out.1⟩
set_option maxHeartbeats 2000000 in
theorem RR (f:Int) (F:FC) (hf:FieldIs f F) (a0 a1 a2 a3:Nat) (ha:cC a0 a1 a2 a3) (la:aC a0 a1 a2 a3<F.M) (w:World) :
  Calls prog 99 #[.int .i64 f,.agg #[.int .u64 a0,.int .u64 a1,.int .u64 a2,.int .u64 a3]] w (fun e w'=>e=.returned (.tuple #[.bool (tR F.M (aC a0 a1 a2 a3)),.int .i64 0])∧Below w.heap.size w w'):=by
 go_enter func99,ntmps99
 go_wp2_with fail;refine (fB f F hf _).mono ?_
 rintro e w1 ⟨rfl,hbl⟩
 have M1:=((Mem.nil w).new (w.heap.size) a0 a1 a2 a3 27 (by simp)).on hbl;clear hbl;have z0:w.heap.size<w1.heap.size:=M1.lt (c0:=a0) (c1:=a1) (c2:=a2) (c3:=a3) (by simp);have HM:=Lib.hid (M1.on ((Below.refl _ _).alloc (Nat.le_refl _) (.cells #[.int .u64 F.m0,.int .u64 F.m1,.int .u64 F.m2,.int .u64 F.m3,.int .u64 F.inv,.int .u64 F.s0,.int .u64 F.s1,.int .u64 F.s2,.int .u64 F.s3] 157)));have KK:=Lib.hid (KIs.new w1 F 157);have kr:=M1.row (b:=w.heap.size) (c0:=a0) (c1:=a1) (c2:=a2) (c3:=a3) (by simp);have x0:=kr.c0; have x1:=kr.c1; have x2:=kr.c2; have x3:=kr.c3;clear kr;have xl:=M1.lt (b:=w.heap.size) (c0:=a0) (c1:=a1) (c2:=a2) (c3:=a3) (by simp);go_wp2_with fail;refine (dQ F hf.ok w1.heap.size a0 a1 a2 a3 ha _ KK.out).mono ?_
 rintro e w2 ⟨he,hbl⟩
 rw[show FB (aC a0 a1 a2 a3) F.M=true from decide_eq_true la]at he;subst he;have HM':=Lib.hid (HM.out.on hbl);have KK':=Lib.hid (KK.out.same hbl);have zk:=KK'.out.lt;clear HM KK hbl M1;have HM:=HM';have KK:=KK';clear HM' KK';clear x0 x1 x2 x3 xl zk;have kr:=HM.out.row (b:=w.heap.size) (c0:=a0) (c1:=a1) (c2:=a2) (c3:=a3) (by simp);have x0:=kr.c0; have x1:=kr.c1; have x2:=kr.c2; have x3:=kr.c3;clear kr;have xl:=HM.out.lt (b:=w.heap.size) (c0:=a0) (c1:=a1) (c2:=a2) (c3:=a3) (by simp);go_wp2_with fail;refine (xB F hf.ok w1.heap.size a0 a1 a2 a3 ha la _ KK.out).mono ?_
 rintro e w4 ⟨rfl,hbl⟩
 have HM':=Lib.hid (HM.out.on hbl);have KK':=Lib.hid (KK.out.same hbl);have zk:=KK'.out.lt;clear HM KK hbl;have HM:=HM';have KK:=KK';clear HM' KK';clear x0 x1 x2 x3 xl zk;go_wp2_with fail
 go_ret2
 exact⟨rfl,HM.out.1⟩
set_option maxHeartbeats 2000000 in
theorem Kc (f:Int) (F:FC) (hf:FieldIs f F) (a0 a1 a2 a3 b0 b1 b2 b3:Nat) (ha:cC a0 a1 a2 a3) (hb:cC b0 b1 b2 b3) (la:aC a0 a1 a2 a3<F.M) (lb:aC b0 b1 b2 b3<F.M) (hz:aC b0 b1 b2 b3≠0) (w:World) :
  Calls prog 157 #[.int .i64 f,.agg #[.int .u64 a0,.int .u64 a1,.int .u64 a2,.int .u64 a3],.agg #[.int .u64 b0,.int .u64 b1,.int .u64 b2,.int .u64 b3]] w (Yg 0 (aC a0 a1 a2 a3*(aC b0 b1 b2 b3^(F.M-2))%F.M) w):=by
 have HE:=Lib.hid (show ∀w,(Op.equalIn 10000 27 (.agg #[.int .u64 b0,.int .u64 b1,.int .u64 b2,.int .u64 b3]) (.agg #[.int .u64 0,.int .u64 0,.int .u64 0,.int .u64 0])).run prog w=.ok false w from fun w=>by
  have h:=vT 9998 b0 b1 b2 b3 0 0 0 0 w;have q:KX b0 b1 b2 b3 0 0 0 0=false:=by
   cases q:KX b0 b1 b2 b3 0 0 0 0
   ·rfl
   ·exact absurd (((rD hb Yi).1 q).trans rfl) hz
  rw[q]at h;exact h)
 have hG:=Ai;clear hz
 go_enter func157,ntmps157
 go_wp2_with fail;refine (fB f F hf _).mono ?_
 rintro e w1 ⟨rfl,hbl⟩
 have M1:=((((Mem.nil w).new (w.heap.size) a0 a1 a2 a3 27 (by simp)).new (w.heap.size+1) b0 b1 b2 b3 27 (by simp)).new (w.heap.size+1+1) 0 0 0 0 27 (by simp)).on hbl;clear hbl;have z0:w.heap.size<w1.heap.size:=M1.lt (c0:=a0) (c1:=a1) (c2:=a2) (c3:=a3) (by simp);have z1:w.heap.size+1<w1.heap.size:=M1.lt (c0:=b0) (c1:=b1) (c2:=b2) (c3:=b3) (by simp);have z2:w.heap.size+1+1<w1.heap.size:=M1.lt (c0:=0) (c1:=0) (c2:=0) (c3:=0) (by simp);have HM:=Lib.hid (M1.on ((Below.refl _ _).alloc (Nat.le_refl _) (.cells #[.int .u64 F.m0,.int .u64 F.m1,.int .u64 F.m2,.int .u64 F.m3,.int .u64 F.inv,.int .u64 F.s0,.int .u64 F.s1,.int .u64 F.s2,.int .u64 F.s3] 157)));have KK:=Lib.hid (KIs.new w1 F 157);have kr:=M1.row (b:=w.heap.size) (c0:=a0) (c1:=a1) (c2:=a2) (c3:=a3) (by simp);have x0:=kr.c0; have x1:=kr.c1; have x2:=kr.c2; have x3:=kr.c3;clear kr;have xl:=M1.lt (b:=w.heap.size) (c0:=a0) (c1:=a1) (c2:=a2) (c3:=a3) (by simp);go_wp2_with fail;refine (dQ F hf.ok w1.heap.size a0 a1 a2 a3 ha _ KK.out).mono ?_
 rintro e w2 ⟨he,hbl⟩
 rw[show FB (aC a0 a1 a2 a3) F.M=true from decide_eq_true la]at he;subst he;have HM':=Lib.hid (HM.out.on hbl);have KK':=Lib.hid (KK.out.same hbl);have zk:=KK'.out.lt;clear HM KK hbl M1;have HM:=HM';have KK:=KK';clear HM' KK';clear x0 x1 x2 x3 xl zk;have kr:=HM.out.row (b:=w.heap.size+1) (c0:=b0) (c1:=b1) (c2:=b2) (c3:=b3) (by simp);have x0:=kr.c0; have x1:=kr.c1; have x2:=kr.c2; have x3:=kr.c3;clear kr;have xl:=HM.out.lt (b:=w.heap.size+1) (c0:=b0) (c1:=b1) (c2:=b2) (c3:=b3) (by simp);go_wp2_with fail;refine (dQ F hf.ok w1.heap.size b0 b1 b2 b3 hb _ KK.out).mono ?_
 rintro e w3 ⟨he,hbl⟩
 rw[show FB (aC b0 b1 b2 b3) F.M=true from decide_eq_true lb]at he;subst he;have HM':=Lib.hid (HM.out.on hbl);have KK':=Lib.hid (KK.out.same hbl);have zk:=KK'.out.lt;clear HM KK hbl;have HM:=HM';have KK:=KK';clear HM' KK';clear x0 x1 x2 x3 xl zk;have kr:=HM.out.row (b:=w.heap.size+1) (c0:=b0) (c1:=b1) (c2:=b2) (c3:=b3) (by simp);have u0:=kr.c0; have u1:=kr.c1; have u2:=kr.c2; have u3:=kr.c3;clear kr;have ul:=HM.out.lt (b:=w.heap.size+1) (c0:=b0) (c1:=b1) (c2:=b2) (c3:=b3) (by simp);have hE:=HE.out;go_wp2_with fail;clear u0 u1 u2 u3 ul hE;refine cM (fun wx=>Mem w wx [(w.heap.size+1,b0,b1,b2,b3),(w.heap.size,a0,a1,a2,a3)]) 6 (by kernel_rfl) ?_;have HM':=Lib.hid (HM.out.drewN 1);have KK':=Lib.hid (KK.out.drewN 1);clear HM KK;have HM:=HM';have KK:=KK';clear HM' KK';have HS:=HM.out.sub (rs':=[(w.heap.size+1,b0,b1,b2,b3),(w.heap.size,a0,a1,a2,a3)]) (by simp);refine aE (i:=0) (v:=.agg #[.int .u64 b0,.int .u64 b1,.int .u64 b2,.int .u64 b3]) rfl (by kernel_rfl) (by kernel_rfl) (by kernel_rfl) (by kernel_rfl) (fun _ _ _ h=>h) HS (Or.inl ⟨by kernel_rfl,fun wx hx => ?_⟩) ?_
 ·have kr:=hx.row (b:=w.heap.size+1) (c0:=b0) (c1:=b1) (c2:=b2) (c3:=b3) (by simp);have x0:=kr.c0; have x1:=kr.c1; have x2:=kr.c2; have x3:=kr.c3;clear kr HS hx;go_simp
 simp only[Act.put,List.setIfInBounds_toArray,List.set_cons_zero,List.set_cons_succ];refine aE (i:=3) (v:=.agg #[.int .u64 a0,.int .u64 a1,.int .u64 a2,.int .u64 a3]) rfl (by kernel_rfl) (by kernel_rfl) (by kernel_rfl) (by kernel_rfl) (fun _ _ _ h=>h) HS (Or.inl ⟨by kernel_rfl,fun wx hx => ?_⟩) ?_
 ·have kr:=hx.row (b:=w.heap.size) (c0:=a0) (c1:=a1) (c2:=a2) (c3:=a3) (by simp);have x0:=kr.c0; have x1:=kr.c1; have x2:=kr.c2; have x3:=kr.c3;clear kr HS hx;go_simp
 simp only[Act.put,List.setIfInBounds_toArray,List.set_cons_zero,List.set_cons_succ];clear HS;refine aQ (i:=1) (by kernel_rfl) rfl (fun K hK => ?_);go_simp;refine (gT F hf.ok w1.heap.size b0 b1 b2 b3 hb _ KK.out).mono ?_
 rintro e w4 ⟨i0,i1,i2,i3,rfl,hi,hv,hbl⟩
 have HVi:=Lib.hid hv;clear hv;have HM':=Lib.hid (HM.out.on hbl);have KK':=Lib.hid (KK.out.same hbl);have zk_w4:=KK'.out.lt;clear HM KK hbl;have HM:=HM';have KK:=KK';clear HM' KK';have HS:=HM.out.sub (rs':=[(w.heap.size+1,b0,b1,b2,b3),(w.heap.size,a0,a1,a2,a3)]) (by simp);refine hK.out _ _ (Or.inr HS) (fun _ => ?_);clear hK K;clear HS;refine aQ (i:=2) (by kernel_rfl) rfl (fun K hK => ?_);go_simp;refine (mQ F hf.ok (aC b0 b1 b2 b3) w1.heap.size i0 i1 i2 i3 hi HVi.out _ KK.out).mono ?_
 rintro e w5 ⟨j0,j1,j2,j3,rfl,hj,hv,hbl⟩
 have HVj:=Lib.hid hv;clear hv;have HM':=Lib.hid (HM.out.on hbl);have KK':=Lib.hid (KK.out.same hbl);have zk_w5:=KK'.out.lt;clear HM KK hbl;have HM:=HM';have KK:=KK';clear HM' KK';have HS:=HM.out.sub (rs':=[(w.heap.size+1,b0,b1,b2,b3),(w.heap.size,a0,a1,a2,a3)]) (by simp);refine hK.out _ _ (Or.inr HS) (fun _ => ?_);clear hK K;clear HS;refine aQ (i:=4) (by kernel_rfl) rfl (fun K hK => ?_);go_simp;refine (dP F hf.ok w1.heap.size j0 j1 j2 j3 a0 a1 a2 a3 hj ha la _ KK.out).mono ?_
 rintro e w6 ⟨s0,s1,s2,s3,rfl,hs,hv,hbl⟩
 have HVs:=Lib.hid (show aC s0 s1 s2 s3=aC a0 a1 a2 a3*(aC b0 b1 b2 b3^(F.M-2))%F.M by rw[hv,HVj.out,vC hf.ok,Nat.mul_comm]);clear hv;have HM':=Lib.hid (HM.out.on hbl);have KK':=Lib.hid (KK.out.same hbl);have zk_w6:=KK'.out.lt;clear HM KK hbl;have HM:=HM';have KK:=KK';clear HM' KK';have HS:=HM.out.sub (rs':=[(w.heap.size+1,b0,b1,b2,b3),(w.heap.size,a0,a1,a2,a3)]) (by simp);refine hK.out _ _ (Or.inr HS) (fun _ => ?_);clear hK K;clear HS;have kr:=HM.out.row (b:=w.heap.size+1+1) (c0:=0) (c1:=0) (c2:=0) (c3:=0) (by simp);have y0:=kr.c0; have y1:=kr.c1; have y2:=kr.c2; have y3:=kr.c3; have yf:=kr.fr;clear kr;have yl:=HM.out.lt (b:=w.heap.size+1+1) (c0:=0) (c1:=0) (c2:=0) (c3:=0) (by simp);refine aQ (i:=5) (by kernel_rfl) rfl (fun K hK => ?_);go_simp;have HM':=Lib.hid ((HM.out.sub (rs':=[(w.heap.size+1+1,0,0,0,0),(w.heap.size+1,b0,b1,b2,b3),(w.heap.size,a0,a1,a2,a3)]) (by simp)).put s0 s1 s2 s3 (by omega) (by intro r hr; simp at hr; rcases hr with rfl|rfl<;>simp<;>omega));clear HM;have HM:=HM';clear HM';have HS:=HM.out.sub (rs':=[(w.heap.size+1,b0,b1,b2,b3),(w.heap.size,a0,a1,a2,a3)]) (by simp);refine hK.out _ _ (Or.inr HS) (fun _ => ?_);clear hK K;clear HS;refine aQ (i:=6) (by kernel_rfl) rfl (fun K hK => ?_);go_simp;refine hK.out _ _ (Or.inl rfl) (fun _ => ?_);clear hK K;refine cU (by kernel_rfl) ?_;go_wp2_with fail;refine bodyPost_ret (v:=.tuple #[.agg #[.int .u64 s0,.int .u64 s1,.int .u64 s2,.int .u64 s3],.int .i64 0]) (by simp[results,results157,go_sem, *]) rfl ?_;exact⟨_,_,_,_,rfl,hs,HVs.out,HM.out.1⟩
end Go.Proofs.YtpjlhhpjpnacmaaGreatDoor
namespace Go.Proofs.YtpjlhhpjpnacmaaGreatDoor.Ex
open Go.Proofs.Tryz
open Go.RowKit
abbrev RM:Nat:=Go.Proofs.YtpjlhhpjpnacmaaGreatDoor.FR.M
abbrev aH:Nat:=115792089237316195423570985008687907853269984665640564039457584007913129639936
theorem kF {x:Nat} (h:x<RM):x<aH:=Nat.lt_trans h (by decide)
theorem fY:0<RM:=by decide
def Jk:gL
 | [.v (.im (.int .u64 (.ofNat n)))]=>some ([n<18446744073709551616],.one (.fl [.q n]))
 | _=>none
theorem Qv:∀cs pre r,Jk cs=some (pre,r)→bC pre→∀(args:List Value) (w:World),cT w cs args→bM prog 106 r args w:=by
 intro cs pre r hg hp args w ha;unfold Jk at hg;split at hg
 ·rename_i n;cases hg
  match args,ha with
  | [t],ha =>
   have h1:t=.int .u64 (Int.ofNat n):=ha.1;subst h1;refine (EL n hp.1 w).mono ?_
   rintro e w' ⟨rfl,hb⟩
   refine⟨?_,hb⟩;obtain⟨e0,e1,e2,e3⟩:=jF (s0:=n) (s1:=0) (s2:=0) (s3:=0) (x:=n) ⟨hp.1,by omega,by omega,by omega⟩ (by have:=hp.1; omega) (by unfold aC; omega);show Ending.returned _=Ending.returned (.agg #[.int .u64 (fw n 0:Nat),.int .u64 (fw n 1:Nat),.int .u64 (fw n 2:Nat),.int .u64 (fw n 3:Nat)]);rw[←e0,←e1,←e2,←e3];rfl
  | [],ha=>exact ha.elim
  | _::_::_,ha=>exact ha.2.elim
 ·cases hg
def el (f:Nat→Nat) (j:Nat):List At:=[.q (f j)]
def LV (w:World) (v:Value) (N:Nat) (f:Nat→Nat):Prop:=∃p m,v=.slice p N m∧N≤m∧(∀j,j<N→f j<aH)∧(0<N→∃b o,p=some ⟨b,o,none⟩∧b<w.heap.size∧w.rangeAt b o (aA (bV (el f) 0 N)))
theorem LV.on {w w':World} {v:Value} {N:Nat} {f:Nat→Nat} (h:LV w v N f) (hb:Below w.heap.size w w'):LV w' v N f:=by
 obtain⟨p,m,h1,h2,h3,h4⟩:=h;exact⟨p,m,h1,h2,h3,fun h=>by
  obtain⟨b,o,e,h5,h6⟩:=h4 h;exact⟨b,o,e,Nat.lt_of_lt_of_le h5 hb.size,bG hb h5 h6⟩⟩
theorem LV.ofS {w:World} {l:List At} {n m N:Nat} {f:Nat→Nat} {v:Value} (h:CA.ok w (.s l n m) v) (h1:aA l=aA (bV (el f) 0 N)) (h2:n=N) (h3:N≤m) (h4:∀j,j<N→f j<aH):LV w v N f:=by
 obtain⟨b,o,rfl,hb,hr⟩:=h;rw[h1]at hr;exact⟨_,m,by rw[h2],h3,h4,fun _=>⟨b,o,rfl,hb,hr⟩⟩
theorem LV.nil (w:World) (f:Nat→Nat):LV w (.slice none 0 0) 0 f:=⟨none,0,rfl,Nat.le_refl _,fun j h=>by omega,fun h=>by omega⟩
theorem mK {w:World} {b o N i:Nat} {f:Nat→Nat} (hb:b<w.heap.size) (hr:w.rangeAt b o (aA (bV (el f) 0 N))) (hi:i<N):oldOf w b (o+i*4) [.q (f i)] :=
 ⟨hb,QC (f:=el f) (c:=4) (fun _=>rfl) hi hr⟩
def xO (w:World) (idx:Nat→Option Nat) (ld:Nat→Option (List At)) (gen:Nat→Option Value):Ext:={ Ext.none with idx:=idx,ld:=ld,gen:=gen,old:=oldOf w,T2:=UA,T3:=TM,T4:=Cw,T5:=jY,T6:=Dd }
theorem dN (w:World) (idx:Nat→Option Nat) (ld:Nat→Option (List At)) (gen:Nat→Option Value):bO prog { qG prog with x:=xO w idx ld gen } w.heap.size w :=
 ⟨(aW _).1,iP (fun b o l h=>h) (fun w' _=>FrAt.none _ _) (fun w' _=>FsAt.none _ _)⟩
def gR (x y:Nat):Nat:=(x+y)%RM
def oE (x y:Nat):Nat:=(x+RM-y)%RM
def bN (x y:Nat):Nat:=x*y%RM
def rnv (x:Nat):Nat:=1*(x^(RM-2))%RM
theorem dB (x y:Nat):gR x y<RM:=Nat.mod_lt _ fY
theorem eI (x y:Nat):oE x y<RM:=Nat.mod_lt _ fY
theorem aO (x y:Nat):bN x y<RM:=Nat.mod_lt _ fY
theorem Qq (x:Nat):rnv x<RM:=Nat.mod_lt _ fY
theorem xE:FieldIs 2 Go.Proofs.YtpjlhhpjpnacmaaGreatDoor.FR:=Or.inr ⟨rfl,rfl⟩
theorem vN {x:Nat} (h:x<RM):aC (fw x 0) (fw x 1) (fw x 2) (fw x 3)=x:=fC (kF h)
def Dm (op:Nat→Nat→Nat):gL
 | [.v (.im (.int .i64 2)),.v (.fl l),.v (.fl m)]=>match rW l,rW m with
  | some x,some y=>some ([x<RM,y<RM],.many [.fl [.q (op x y)],.im (.int .i64 0)])
  | _,_=>none
 | _=>none
theorem KM {fid:FuncId} {op:Nat→Nat→Nat} (hlt:∀x y,op x y<RM) (h:∀x y,x<RM→y<RM→∀w,Calls prog fid #[.int .i64 2,.agg (aA [At.q x]).toArray,.agg (aA [At.q y]).toArray] w (Yg 0 (op x y) w)) :
  ∀cs pre r,Dm op cs=some (pre,r)→bC pre→∀(args:List Value) (w:World),cT w cs args→bM prog fid r args w:=by
 intro cs pre r hg hp args w ha;unfold Dm at hg;split at hg
 ·rename_i l m;split at hg
  ·rename_i x y hx hy;cases hg
   match args,ha with
   | [t,v,u],ha =>
    obtain⟨h1,h2,h3,_⟩:=ha;have h1:t=.int .i64 2:=h1;have h2:v=.agg (aA l).toArray:=h2;have h3:u=.agg (aA m).toArray:=h3;rw[dO l x hx]at h2;rw[dO m y hy]at h3;subst h1; subst h2; subst h3;refine (h x y hp.1 hp.2.1 w).mono ?_
    rintro e w' ⟨s0,s1,s2,s3,rfl,hs,hv,hb⟩
    obtain⟨rfl,rfl,rfl,rfl⟩:=jF hs (kF (hlt x y)) hv;exact⟨rfl,hb⟩
   | [],ha=>exact ha.elim
   | [_],ha=>exact ha.2.elim
   | [_,_],ha=>exact ha.2.2.elim
   | _::_::_::_::_,ha=>exact ha.2.2.2.elim
  ·cases hg
 ·cases hg
theorem Ni:∀cs pre r,Dm gR cs=some (pre,r)→bC pre→∀(args:List Value) (w:World),cT w cs args→bM prog 195 r args w :=
 KM dB fun x y hx hy w=>by
  have:=Kd 2 _ xE _ _ _ _ _ _ _ _ (eR x) (eR y) (by rw[vN hx]; exact hx) (by rw[vN hy]; exact hy) w;rw[vN hx,vN hy]at this;exact this
theorem Zw:∀cs pre r,Dm oE cs=some (pre,r)→bC pre→∀(args:List Value) (w:World),cT w cs args→bM prog 158 r args w :=
 KM eI fun x y hx hy w=>by
  have:=Jw 2 _ xE _ _ _ _ _ _ _ _ (eR x) (eR y) (by rw[vN hx]; exact hx) (by rw[vN hy]; exact hy) w;rw[vN hx,vN hy]at this;exact this
theorem Nh:∀cs pre r,Dm bN cs=some (pre,r)→bC pre→∀(args:List Value) (w:World),cT w cs args→bM prog 189 r args w :=
 KM aO fun x y hx hy w=>by
  have:=Jy 2 _ xE _ _ _ _ _ _ _ _ (eR x) (eR y) (by rw[vN hx]; exact hx) (by rw[vN hy]; exact hy) w;rw[vN hx,vN hy]at this;exact this
def SL (x:Nat):Int:=if x<RM then 0 else 21
def Ju:gL
 | [.v (.im (.int .i64 2)),.v (.fl l)]=>match rW l with
  | some x=>some ([x<aH],.one (.im (.int .i64 (SL x))))
  | none=>none
 | _=>none
theorem NF:∀cs pre r,Ju cs=some (pre,r)→bC pre→∀(args:List Value) (w:World),cT w cs args→bM prog 81 r args w:=by
 intro cs pre r hg hp args w ha;unfold Ju at hg;split at hg
 ·rename_i l;split at hg
  ·rename_i x hx;cases hg
   match args,ha with
   | [t,v],ha =>
    obtain⟨h1,h2,_⟩:=ha;have h1:t=.int .i64 2:=h1;have h2:v=.agg (aA l).toArray:=h2;rw[dO l x hx]at h2;subst h1; subst h2;unfold SL
    by_cases h:x<RM
    ·rw[if_pos h];exact RU 2 _ xE _ _ _ _ (eR x) (by rw[fC hp.1]; exact h) w
    ·rw[if_neg h];exact KU 2 21 _ _ _ _ (eR x) (Or.inr ⟨_,xE,by rw[fC hp.1]; exact h,rfl⟩) w
   | [],ha=>exact ha.elim
   | [_],ha=>exact ha.2.elim
   | _::_::_::_,ha=>exact ha.2.2.elim
  ·cases hg
 ·cases hg
def Ub (op:Nat→Nat) (c:Nat→List Prop):gL
 | [.v (.fl l)]=>match rW l with|some x=>some (c x,.one (.fl [.q (op x)]))|none=>none
 | _=>none
def Ob (op:Nat→Nat→Nat) (c:Nat→Nat→List Prop):gL
 | [.v (.fl l),.v (.fl m)]=>match rW l,rW m with|some x,some y=>some (c x y,.one (.fl [.q (op x y)]))|_,_=>none
 | _=>none
def Om (x y:Nat):List Prop:=[x<RM,y<RM]
theorem sN {f:FuncId} {op:Nat→Nat→Nat} {c:Nat→Nat→List Prop} (h:∀x y,bC (c x y)→∀args w,cT w [.v (.fl [.q x]),.v (.fl [.q y])] args→bM prog f (.one (.fl [.q (op x y)])) args w) :
  ∀cs pre r,Ob op c cs=some (pre,r)→bC pre→∀(args:List Value) (w:World),cT w cs args→bM prog f r args w:=by
 intro cs pre r hg hp args w ha;unfold Ob at hg;split at hg
 ·rename_i l m;split at hg
  ·rename_i x y hx hy;cases hg;refine h x y hp args w ?_
   match args,ha with
   | [v,u],ha =>
    refine⟨?_,?_,trivial⟩
    ·show v=.agg (aA (q1 x)).toArray;rw[←dO l x hx]; exact ha.1
    ·show u=.agg (aA (q1 y)).toArray;rw[←dO m y hy]; exact ha.2.1
   | [],ha=>exact ha.elim
   | [_],ha=>exact ha.2.elim
   | _::_::_::_,ha=>exact ha.2.2.elim
  ·cases hg
 ·cases hg
theorem vM {f:FuncId} {op:Nat→Nat} {c:Nat→List Prop} (h:∀x,bC (c x)→∀args w,cT w [.v (.fl [.q x])] args→bM prog f (.one (.fl [.q (op x)])) args w) :
  ∀cs pre r,Ub op c cs=some (pre,r)→bC pre→∀(args:List Value) (w:World),cT w cs args→bM prog f r args w:=by
 intro cs pre r hg hp args w ha;unfold Ub at hg;split at hg
 ·rename_i l;split at hg
  ·rename_i x hx;cases hg;refine h x hp args w ?_
   match args,ha with
   | [v],ha =>
    refine⟨?_,trivial⟩;show v=.agg (aA (q1 x)).toArray;rw[←dO l x hx]; exact ha.1
   | [],ha=>exact ha.elim
   | _::_::_,ha=>exact ha.2.elim
  ·cases hg
 ·cases hg
def MJ (v:Value) (N i:Nat):List Fact:=[.slot 5 (.im v),.slot 6 (.im (iI N)),.slot 7 (.im (iI i))]
theorem BG {x:Nat} (h:x<RM):aJ .neq .i64 (SL x) 0=some (.bool false):=by unfold SL; rw[if_pos h]; rfl
theorem BH {x:Nat} (h:¬x<RM):aJ .neq .i64 (SL x) 0=some (.bool true):=by unfold SL; rw[if_neg h]; rfl
theorem RS {p:Nat→Prop} [DecidablePred p]:∀{N:Nat},(¬ ∀j,j<N→p j)→∃j,j<N∧(∀k,k<j→p k)∧¬p j:=by
 intro N
 induction N with
 | zero=>exact fun h=>(h fun j hj=>by omega).elim
 | succ N ih =>
  intro h
  by_cases h0:∀j,j<N→p j
  ·refine⟨N,by omega,h0,fun hp=>h fun j hj => ?_⟩
   by_cases e:j=N
   ·rw[e]; exact hp
   ·exact h0 j (by omega)
  ·obtain⟨j,h1,h2⟩:=ih h0;exact⟨j,by omega,h2⟩
def oI (N:Nat) (f:Nat→Nat):Prop:=∀j,j<N→f j<RM
instance (N:Nat) (f:Nat→Nat):Decidable (oI N f):=Nat.decidableBallLT N fun j _=>f j<RM
def Ax (f g:Nat→Nat):Nat→Nat
 | 0=>0
 | n+1=>gR (Ax f g n) (bN (f n) (g n))
theorem Av (f g:Nat→Nat):∀n,Ax f g n<RM
 | 0=>fY
 | n+1=>dB _ _
def Jz (x:Nat):Nat:=bN (bN (bN x x) (bN x x)) x
def inv (x:Nat):Nat:=x^(RM-2)%RM
theorem KC (x:Nat):inv x<RM:=Nat.mod_lt _ fY
def rz (wd fl pt r:Nat):Nat:=if r<fl/2 then wd else if fl/2+pt≤r then wd else 1
def oG (g f:Nat→Nat) (j q:Nat):Nat:=if q<j then g q else f q
theorem YI (g f:Nat→Nat):oG g f 0=f:=funext fun q=>by unfold oG; rw[if_neg (by omega)]
def uO (xs:Nat→Nat) (wd r:Nat) (f:Nat→Nat) (q:Nat):Nat:=gR (f q) (xs (r*wd+q))
def PW (k:Nat) (f:Nat→Nat):Nat→Nat:=oG (fun q=>Jz (f q)) f k
def wU (wd:Nat) (f:Nat→Nat) (j:Nat):Nat:=Ax (fun q=>inv (wd+(j+q))) f wd
def rnd (xs:Nat→Nat) (wd fl pt r:Nat) (f:Nat→Nat):Nat→Nat:=wU wd (PW (rz wd fl pt r) (uO xs wd r f))
def gM (xs:Nat→Nat) (wd fl pt:Nat):Nat→(Nat→Nat)→Nat→Nat
 | 0,f=>f
 | r+1,f=>rnd xs wd fl pt r (gM xs wd fl pt r f)
theorem Uq (x:Nat):Jz x<RM:=aO _ _
theorem Fw (xs:Nat→Nat) (wd r:Nat) (f:Nat→Nat) (q:Nat):uO xs wd r f q<RM:=dB _ _
theorem Fv {k:Nat} {f:Nat→Nat} (h:∀q,f q<RM) (q:Nat):PW k f q<RM:=by
 unfold PW oG
 by_cases e:q<k
 ·rw[if_pos e]; exact Uq _
 ·rw[if_neg e]; exact h q
theorem ND (wd:Nat) (f:Nat→Nat) (j:Nat):wU wd f j<RM:=Av _ _ _
theorem NN {xs:Nat→Nat} {wd fl pt:Nat} {f:Nat→Nat} (h:∀q,q<wd→f q<RM):∀r q,q<wd→gM xs wd fl pt r f q<RM
 | 0,q,hq=>h q hq
 | r+1,q,hq=>ND _ _ _
def EO (ops:Array Oper):Bool:=ops.toList.all fun o=>match o.op with | .defer _=>false|_=>true
theorem XT {ops:Array Oper} (h:EO ops=true) {i:Nat} {o:Oper} (ho:ops[i]?=some o):∀c,o.op ≠ .defer c:=by
 intro c hc;have hm:o∈ops.toList:=by
  have:ops.toList[i]?=some o:=by rw[Array.getElem?_toList]; exact ho
  exact List.mem_of_getElem? this
 have:=List.all_eq_true.1 h o hm;rw[hc]at this;cases this
abbrev rF (r:Option Nat):Fence:={ Fence.wide with round:=r }
theorem xM (r:Option Nat) (ρ:Operand→Value) (o:Oper) (h:∀c,o.op ≠ .defer c):Oper.semAt r ρ o=execOp ρ o:=by
 cases r with
 | none=>rfl
 | some l=>exact Oper.semAt_some l ρ o h
section
variable {r:Option Nat} {n:Nat} {P:Program}
theorem JJ {o:Oper} {a:Act} {w:World} {K K':Act→World→Prop} {Q Q':Exit→Act→World→Prop} (hd:∀c,o.op ≠ .defer c)
  (hK:∀a w,K a w→K' a w) (hl:¬LetsOut Q) (hQ:∀e a w,e ≠ .normal→Q e a w→Q' e a w) (h:o.wp P a w K Q):o.wpIn (rF r) n P a w K' Q':=by
 refine⟨fun _ _=>trivial,?_⟩;show o.uponIn (rF r) n P a K' Q' ((o.semAt r a.eval).run P w);rw[xM r _ o hd];unfold Oper.wp at h;generalize (execOp a.eval o).run P w=res at h;cases res with
 | ok nx w' =>
  cases nx with
  | value v=>exact hK _ _ h
  | skip=>exact hK _ _ h
  | defer d=>exact hK _ _ h
  | enter f args =>
   refine⟨fun e=>absurd e (by simp[Fence.wide]),?_⟩;show CallsIn Fence.wide (n-1) P f args w' _;refine callsIn_wide.2 (Calls.mono h fun e w'' he => ?_);cases e with
   | returned v=>exact hK _ _ he
   | panicked c=>exact hQ _ _ _ (by simp) he
   | outgrown=>exact (hl he).elim
  | row row args =>
   refine⟨fun e=>absurd e (by simp[Fence.wide]),fun c cs _ => ?_⟩;obtain⟨v,w'',r1,s⟩:=h c cs;exact⟨v,w'',hK _ _ r1,stepsIn_wide.2 s⟩
  | _=>exact h.elim
 | halt x w' =>
  cases x with
  | panic v=>exact hQ _ _ _ (by simp) h
  | _=>exact h.elim
theorem xU {ops:Array Oper} {Q Q':Exit→Act→World→Prop} {R:List Nat} (hnd:EO ops=true) (hl:¬LetsOut Q) (hn:∀a w,Q .normal a w→wpOpsIn (rF r) n P ops Q' R a w) (hQ:∀e a w,e ≠ .normal→Q e a w→Q' e a w) :
  ∀(l:List Nat) (a:Act) (w:World),wpOps P ops Q l a w→wpOpsIn (rF r) n P ops Q' (l++R) a w
 | [],a,w,h=>hn a w h
 | i::l,a,w,h=>by
  simp only[wpOps]at h;show wpOpsIn (rF r) n P ops Q' (i::(l++R)) a w;simp only[wpOpsIn];cases ho:ops[i]? with
  | none =>
   rw[ho]at h;exact xU hnd hl hn hQ l a w h
  | some o =>
   rw[ho]at h;simp only at h ⊢
   by_cases hw:Region.wanted o (yielded ops a.tmps)=true
   ·rw[if_pos hw]at h ⊢
    rcases h with h|⟨_,h⟩
    ·exact JJ (XT hnd ho) (fun a w=>xU hnd hl hn hQ l a w) hl hQ h
    ·exact (hl h).elim
   ·rw[if_neg hw]at h ⊢;exact⟨fun _ _=>trivial,xU hnd hl hn hQ l _ w h⟩
def gJ (K:Act→World→Prop):Exit→Act→World→Prop:=fun e a w=>e=.normal∧K a w
theorem nP {K:Act→World→Prop}:¬LetsOut (gJ K):=by
 rintro⟨a,w,h,_⟩
 cases h
variable {nt base:Nat} {w0:World}
theorem NE {E:Env} {draw:Bool} {ops:Array Oper} {A A':List Fact} {ps:List Prop} {a:Act} {w:World} {Q:Exit→Act→World→Prop} (hm:E.P.follows .mixedOrders=true) (hT:∀d,TabOkW E.P (E.T d) base w0) (hq:bO E.P E.q base w0) (h:wW E draw ops A=some (ps,A')) (hps:bC ps) (hA:Holds E.nt base w0 A a w)
  (hQ:∀a w,Holds E.nt base w0 A' a w→Q .normal a w):(draw=false→wpOps E.P ops Q (List.range ops.size) a w)∧(draw=true→∀t,wpOps E.P ops Q (Region.schedule (E.P.follows .mixedOrders) ops t) a { w with drawn:=w.drawn+1 }):=by
 unfold wW at h;split at h
 ·rename_i ps' TF rs hrun;cases hc:(Dn draw ops rs&&Dj draw ops)<;>rw[hc]at h
  ·cases h
  ·cases h;rw[Bool.and_eq_true]at hc;cases draw with
   | false =>
    refine⟨fun _ => ?_,fun e=>by cases e⟩;rw[List.range_eq_range'];exact zQ hT hq hrun hps hc.1 (fun a w hI=>hQ a w (nZ hrun (fun _ h=>h) hI)) ops.size 0 a w (by omega) (by
     have:(fun i=>i<0)=fun _:Nat=>False:=funext fun i=>propext ⟨fun h=>by omega,fun h=>h.elim⟩
     rw[this];exact iT hrun hA)
   | true =>
    refine⟨fun e=>absurd e (by simp[Fence.wide]),fun _ t => ?_⟩;simp only[Region.schedule,hm,Bool.true_or,if_true];refine wpAny_sound ops.size t _ a _ ?_;have hsz:∀n,fr n (Array.replicate ops.size false)=n:=fun n=>by
     induction n with
     | zero=>rfl
     | succ n ih=>unfold fr; rw[ih]; by_cases hn:n<ops.size<;>simp[Array.getD,hn]
    refine PF hT hq hrun hps hc.1 hc.2 (fun a w hI=>hQ a w (nZ hrun (fun _ h=>h) hI)) ops.size _ a _ (by simp) (hsz _) ?_;have:(fun i=>(Array.replicate ops.size false).getD i false=true)=fun _:Nat=>False:=funext fun i=>propext (by by_cases hi:i<ops.size<;>simp[Array.getD,hi])
    rw[this];exact iT hrun hA.drew
 ·cases h
theorem IW {id:Nat} {q:EqT} {c:Cfg} {draw:Bool} {ops:Array Oper} {A K L:List Fact} {ps:List Prop} {Q:Exit→Act→World→Prop} (hm:P.follows .mixedOrders=true) (hT:∀d,TabOkW P (c.T d) base w0) (hq:bO P q base w0)
  (h:aX P q nt (fun _=>c) 1 (.region id ops draw) A K=some (ps,.nrm,L)) (hps:bC ps) (hnd:EO ops=true) {a:Act} {w:World} (hA:Holds nt base w0 A a w)
  (hQ:∀a w,Holds nt base w0 L a w→Q .normal a w):(Code.region id ops draw).wpIn (rF r) n P Q a w:=by
 unfold aX at h;simp only[run]at h;split at h
 ·rename_i ps' e' A1 h1;split at h1
  ·rename_i p A2 h2;cases h1;split at h
   ·rename_i L' h3;cases h;have key:=NE (E:=Nr P q nt c) (Q:=gJ fun a w=>Holds nt base w0 L a w) hm hT hq h2 hps hA fun a w hA1=>⟨rfl,hA1.sub (gI h3)⟩
    have fin:∀l a w,wpOps P ops (gJ fun a w=>Holds nt base w0 L a w) l a w→wpOpsIn (rF r) n P ops Q l a w:=fun l a w hw=>by
     have:=xU (r:=r) (n:=n) (Q':=Q) (R:=[]) hnd nP (fun a w hK=>hQ a w hK.2) (fun e a w he hK=>(he hK.1).elim) l a w hw
     rwa [List.append_nil]at this
    cases draw with
    | false=>exact wpIn_region (fin _ _ _ (key.1 rfl))
    | true=>exact wpIn_region_draw fun t=>fin _ _ _ (key.2 rfl t)
   ·cases h
  ·cases h1
 ·cases h
theorem qE {s e:Nat} {q:EqT} {c:Cfg} {big:Array Oper} {A K L:List Fact} {ps:List Prop} {Q:Exit→Act→World→Prop} {R:List Nat} (hT:∀d,TabOkW P (c.T d) base w0) (hq:bO P q base w0) (h:cO P q nt c (big.extract s e) A K=some (ps,L)) (hps:bC ps)
  (hg:(big.extract s e).toList.all (fun o=>o.guard.isNone)=true) (hnd:EO big=true) {a:Act} {w:World} (hA:Holds nt base w0 A a w)
  (hQ:∀a w,Holds nt base w0 L a w→wpOpsIn (rF r) n P big Q R a w):wpOpsIn (rF r) n P big Q (List.range' s (big.extract s e).size++R) a w:=by
 have h1:=aG (Q:=gJ fun a w=>Holds nt base w0 L a w) (R:=[]) hT hq h hps hg hA fun a w hA=>⟨rfl,hA⟩
 rw[List.append_nil]at h1;exact xU hnd nP (fun a w hK=>hQ a w hK.2) (fun e a w he hK=>(he hK.1).elim) _ _ _ h1
theorem AH {big:Array Oper} {Q:Exit→Act→World→Prop} {R:List Nat} {i:Nat} {o:Oper} (ho:big[i]?=some o) (hg:o.guard=none) {a:Act} {w:World} (h:o.wpIn (rF r) n P a w (fun a w=>wpOpsIn (rF r) n P big Q R a w) Q):wpOpsIn (rF r) n P big Q (i::R) a w:=by
 simp only[wpOpsIn];rw[ho];simp only;have hw:∀y,Region.wanted o y=true:=fun y=>by unfold Region.wanted; rw[hg]
 rw[if_pos (hw _)];exact h
def _root_.Go.Act.md (a:Act) (d:List Deferred):Act:={ a with defers:=d }
def zI (o:Oper):Bool:=match o.op with
 | .move _=>true
 | .assign _=>true
 | .load _ _=>true
 | .extract _ _=>true
 | _=>false
theorem Dy {s:Sem Value} {w w':World} {nx:Next} (h:(do pure (.value (←s)):Sem Next).run P w=.ok nx w'):∃v,nx=.value v:=by
 rw[Sem.run_bind]at h;cases hs:s.run P w with
 | ok v w1 =>
  rw[hs]at h;simp only[Result.andThen_ok,Sem.run_pure]at h;injection h with h1 h2;exact⟨v,h1.symm⟩
 | halt x w1 =>
  rw[hs]at h;cases h
theorem VC {ρ:Operand→Value} {o:Oper} {w w':World} {nx:Next} (ht:zI o=true) (h:(execOp ρ o).run P w=.ok nx w'):∃v,nx=.value v:=by
 unfold execOp at h;cases ho:o.op<;>simp only[zI,ho]at ht<;>first
  | (cases ht; done)
  | (simp only[ho]at h; exact Dy h)
  | (simp only[ho,Sem.run_pure]at h; injection h with h1 h2; exact⟨_,h1.symm⟩)
def JN (ops:Array Oper):Bool:=ops.toList.all zI
theorem QP {ops:Array Oper} (h:JN ops=true) {i:Nat} {o:Oper} (ho:ops[i]?=some o):zI o=true:=by
 have hm:o∈ops.toList:=by
  have:ops.toList[i]?=some o:=by rw[Array.getElem?_toList]; exact ho
  exact List.mem_of_getElem? this
 exact List.all_eq_true.1 h o hm
theorem AF {d:List Deferred} {ops:Array Oper} {K:Act→World→Prop} {Q:Exit→Act→World→Prop} (ht:JN ops=true) (hn:∀a w,K a w→Q .normal (a.md d) w) :
  ∀(l:List Nat) (a:Act) (w:World),wpOps P ops (gJ K) l a w→wpOps P ops Q l (a.md d) w
 | [],a,w,h=>hn a w h.2
 | i::l,a,w,h=>by
  simp only[wpOps]at h ⊢;have hp:∀(o:Oper) v,(a.md d).put o.dst v=(a.put o.dst v).md d:=fun o v=>by cases o.dst<;>rfl
  cases ho:ops[i]? with
  | none =>
   rw[ho]at h;exact AF ht hn l a w h
  | some o =>
   rw[ho]at h;simp only at h ⊢;have hy:(a.md d).tmps=a.tmps:=rfl;rw[hy]
   by_cases hw:Region.wanted o (yielded ops a.tmps)=true
   ·rw[if_pos hw]at h ⊢
    rcases h with h|⟨_,h⟩
    ·refine Or.inl ?_;unfold Oper.wp at h ⊢;have he:(a.md d).eval=a.eval:=rfl;rw[he];cases hres:(execOp a.eval o).run P w with
     | ok nx w' =>
      obtain⟨v,rfl⟩:=VC (QP ht ho) hres;rw[hres]at h;show wpOps P ops Q l ((a.md d).put o.dst v) w';rw[hp];exact AF ht hn l _ _ h
     | halt x w' =>
      rw[hres]at h;cases x with
      | panic v=>cases h.1
      | _=>exact h.elim
    ·exact (nP h).elim
   ·rw[if_neg hw]at h ⊢;rw[hp];exact AF ht hn l _ _ h
theorem WE {id:Nat} {d:List Deferred} {q:EqT} {c:Cfg} {ops:Array Oper} {A K L:List Fact} {ps:List Prop} {Q:Exit→Act→World→Prop} (hm:P.follows .mixedOrders=true) (hT:∀d,TabOkW P (c.T d) base w0) (hq:bO P q base w0)
  (h:aX P q nt (fun _=>c) 1 (.region id ops false) A K=some (ps,.nrm,L)) (hps:bC ps) (ht:JN ops=true) {a:Act} {w:World} (hA:Holds nt base w0 A a w)
  (hQ:∀a w,Holds nt base w0 L a w→Q .normal (a.md d) w):(Code.region id ops false).wp P Q (a.md d) w:=by
 unfold aX at h;simp only[run]at h;split at h
 ·rename_i ps' e' A1 h1;split at h1
  ·rename_i p A2 h2;cases h1;split at h
   ·rename_i L' h3;cases h;have key:=NE (E:=Nr P q nt c) (Q:=gJ fun a w=>Holds nt base w0 L a w) hm hT hq h2 hps hA fun a w hA1=>⟨rfl,hA1.sub (gI h3)⟩
    exact wp_region (AF ht hQ _ _ _ (key.1 rfl))
   ·cases h
  ·cases h1
 ·cases h
theorem xK {g:Operand} {ps:Array Tmp} {assign body:Code} {Q:Exit→Act→World→Prop} {a:Act} {w:World} {gf:Nat} {lb:Array Value} (hg:a.eval g=.func (.func gf) #[] lb) (eg:∀args w,(callFunc gf args).run P w=.ok (.enter gf args) w)
  (h:∀fn,Calls P gf (#[.func (.yield (w.heap.size+1)) #[] #[]]++lb) ((w.alloc (.deferred (some []))).alloc (.loop { state:=.ready,pending:=none,fn,tmps:=a.tmps,params:=ps,assign,body,defers:=w.heap.size })) fun e W'=>∃v rec,e=.returned v∧W'.heap[w.heap.size+1]?=some (.loop rec)∧rec.state ≠ .busy∧rec.pending=none∧Q .normal (a.md ({ target:=.collected w.heap.size,args:=#[] }::a.defers)) (W'.putObj (w.heap.size+1) (.loop { rec with state:=.exhausted }))) :
  (Code.rangeFunc g ps assign body).wp P Q a w:=by
 refine (wpIn_wide (n:=0)).1 (wpIn_rangeFunc fun fn _ => ?_);have h0:=h fn;have he:=run_enterLoop_outer (P:=P) (w:=w) fn a.tmps ps assign body;generalize hW1:(w.alloc (.deferred (some []))).alloc (.loop { state:=.ready,pending:=none,fn,tmps:=a.tmps,params:=ps,assign,body,defers:=w.heap.size })=W1 at h0 he;refine⟨w.heap.size+1,[{ target:=.collected w.heap.size,args:=#[] }],W1,{ target:=.fn (.func gf) lb,args:=#[.func (.yield (w.heap.size+1)) #[] #[]] },W1,gf,#[.func (.yield (w.heap.size+1)) #[] #[]]++lb,W1,he,?_,fun _ _=>trivial,?_,fun e=>absurd e (by simp[Fence.wide]),?_⟩
 ·simp only[resolve,hg];simp[go_sem]
 ·simp[invoke,go_sem,eg]
 ·refine callsIn_wide.2 (Calls.mono h0 ?_)
  rintro e W' ⟨v,rec,rfl,h1,h2,h3,h4⟩
  refine⟨none,_,?_,h4⟩;rw[run_endLoop (P:=P) h1 h2];exact congrArg (fun p=>Result.ok p _) h3
end
def xW (k:Nat):Fact→Bool
 | .row k' _ _ => !(Nat.beq k' k)
 | _=>true
theorem XS {k:Nat} {o:Bool} {l:List At} (h:xW k (.row k o l)=true):False:=by
 have h:(!(Nat.beq k k))=true:=h;rw[Nat.beq_refl]at h;cases h
theorem Holds.wr {nt base:Nat} {w0:World} {A:List Fact} {a:Act} {w:World} (h:Holds nt base w0 A a w) {k b o:Nat} {l l':List At} {vs:List Value} (h1:Fact.row k true l∈A) (h2:Fact.at k b∈A) (hlen:o+vs.length≤dJ l)
  (hl:∀j v,(aA l')[j]?=some v→(o≤j∧vs[j-o]?=some v)∨((j<o∨o+vs.length≤j)∧(aA l)[j]?=some v)) :
  Holds nt base w0 (.row k true l'::A.filter (xW k)) a (w.setCells b o vs):=by
 obtain⟨β,g1,g2,g3,gt⟩:=h.facts;obtain⟨e1,e2,e3,_⟩:=g1 _ h1;obtain⟨e4,e5,e6⟩:=e3 rfl;have e7:=g1 _ h2;simp only[Fact.ok]at e7;obtain⟨rfl,_⟩:=e7;rw[e5]at e2;have old:∀φ,φ∈A.filter (xW k)→φ∈A∧xW k φ=true:=fun φ hφ=>List.mem_filter.1 hφ
 have hth:∀q,q<vs.length→(w.cell? ⟨(β k).1,o+q,none⟩).isSome=true:=fun q hq=>by
  have hlt:o+q<(aA l).length:=by rw[aN]; omega
  have:=e2 (o+q) ((aA l)[o+q]'hlt) (List.getElem?_eq_getElem _);rw[Nat.zero_add]at this;rw[this]; rfl
 have up:∀k1 o1 l1,Fact.row k1 o1 l1∈(Fact.row k true l'::A.filter (xW k))→∃l2,Fact.row k1 o1 l2∈A:=fun k1 o1 l1 e=>by
  rcases List.mem_cons.1 e with e|e
  ·cases e; exact⟨_,h1⟩
  ·exact⟨_,(old _ e).1⟩
 refine⟨h.defers,h.size,fH e4 _ _ _ _ h.below,by rw[cP]; exact h.heap,β,fun φ hφ => ?_,fun k1 k2 o2 l1 l2 q1 q2 hne => ?_,fun k1 l1 e => ?_,?_⟩
 ·rcases List.mem_cons.1 hφ with rfl|hφ
  ·refine⟨by rw[cP]; exact e1,fun j v hj => ?_,fun _=>⟨e4,e5,fun j=>by rw[World.frozen?_setCells]; exact e6 j⟩,fun h=>by cases h⟩;rw[e5,Nat.zero_add]
   rcases hl j v hj with⟨q1,q2⟩|⟨q1,q2⟩
   ·have hlt:j-o<vs.length:=(List.getElem?_eq_some_iff.1 q2).1;have:=World.cell?_setCells_in (β k).1 vs o w hth (j-o) hlt;rw[show o+(j-o)=j by omega]at this;rw[this,←q2,List.getElem?_eq_getElem hlt]
   ·rw[World.cell?_setCells_out _ _ _ _ _ (fun _ _=>q1)];have:=e2 j v q2
    rwa [Nat.zero_add]at this
  ·obtain⟨hin,hno⟩:=old _ hφ;have e:=g1 φ hin;cases φ with
   | slot s v=>exact e
   | row k1 ow l1 =>
    obtain⟨q1,q2,q3,q4⟩:=e;have hk:k≠k1:=fun hk=>by subst hk; exact XS hno
    have hb:=g2 k k1 ow l l1 h1 hin hk;refine⟨by rw[cP]; exact q1,fun j v hj => ?_,fun ho => ?_,fun _=>trivial⟩
    ·rw[World.cell?_setCells_out _ _ _ _ _ (fun q _=>absurd q.symm hb)];exact q2 j v hj
    ·obtain⟨r1,r2,r3⟩:=q3 ho;exact⟨r1,r2,fun j=>by rw[World.frozen?_setCells]; exact r3 j⟩
   | «at» k1 b1=>exact e
   | app k1 e' sz n=>exact AppAt.shape (dI _ _ _ _) e
 ·obtain⟨m1,r1⟩:=up _ _ _ q1;obtain⟨m2,r2⟩:=up _ _ _ q2;exact g2 k1 k2 o2 m1 m2 r1 r2 hne
 ·obtain⟨m1,r1⟩:=up _ _ _ e;exact g3 k1 m1 r1
 ·refine⟨by rw[cP]; exact gt.size,fun p p1 p2 => ?_,gt.shape.trans (dI _ _ _ _)⟩;have hne:p.block≠(β k).1:=by
   rcases g3 k l h1 with q|q<;>omega
  rw[World.cell?_setCells_out _ _ _ _ _ (fun q _=>absurd q hne),World.frozen?_setCells];exact gt.mem p p1 p2
section
variable {P:Program} {n:Nat}
theorem BU {o:Oper} {a:Act} {w:World} {K:Act→World→Prop} {Q:Exit→Act→World→Prop} {x:Operand} {xs:Array Operand} {ts:Array TypeId} {l:Nat} {vs:Array Value} {rec:Loop} (ho:o.op=.call ⟨.value x,xs,ts⟩) (hx:a.eval x=.func (.yield l) #[] #[]) (hv:xs.map a.eval=vs)
  (hl:w.heap[l]?=some (.loop rec)) (hs:vs.size=rec.params.size)
  (hR:RoundIn Fence.wide (n-1) P l rec.fn ((rec.params.zip vs).foldl (fun t (p,v)=>t.setIfInBounds p v) rec.tmps) rec.assign rec.body w fun e W'=>∃v,e=.returned v∧K (a.put o.dst v) W'):o.wpIn (rF none) n P a w K Q:=by
 refine⟨fun _ _=>trivial,?_⟩;show o.uponIn (rF none) n P a K Q ((o.semAt none a.eval).run P w);rw[xM none _ o (fun c h=>by rw[ho]at h; cases h)];have hy:=run_yield (P:=P) (args:=vs) hl hs;have hrun:(execOp a.eval o).run P w=.ok (.round l rec.fn ((rec.params.zip vs).foldl (fun t (p,v)=>t.setIfInBounds p v) rec.tmps) rec.assign rec.body) w:=by
  simp[execOp,ho,resolve,Deferred.ofValue,hx,hv,invoke,hy]
 rw[hrun];refine⟨fun e=>absurd e (by simp[Fence.wide]),hR.mono ?_⟩
 rintro e W' ⟨v,rfl,hK⟩
 exact hK
theorem CW {l:Nat} {fn:FuncId} {tmps:Array Value} {assign body:Code} {w:World} {R:Ending→World→Prop} {K0:Act→World→Prop} (ha:assign.wpIn (rF (some l)) n P (gJ K0) { tmps:=tmps,defers:=[] } w)
  (h:∀a1 w1,K0 a1 w1→∃rec,w1.heap[l]?=some (.loop rec)∧rec.state=.ready∧body.wpIn (rF (some l)) n P (gJ fun _ W3=>∃rec3,W3.heap[l]?=some (.loop rec3)∧R (.returned (.bool true)) (W3.putObj l (.loop { rec3 with state:=.ready,pending:=none }))) a1 (w1.putObj l (.loop { rec with state:=.busy }))) :
  RoundIn Fence.wide n P l fn tmps assign body w R:=by
 refine roundIn_of_wpIn (F:=Fence.wide) trivial (wpIn_mono ha ?_)
 rintro e a1 w1 ⟨rfl,hK⟩
 obtain⟨rec,h1,h2,h3⟩:=h a1 w1 hK;refine⟨_,run_beginRound h1 h2,wpIn_mono h3 ?_⟩
 rintro e a3 W3 ⟨rfl,rec3,h4,h5⟩
 exact⟨_,_,run_endRound none h4,h5⟩
end
theorem kJ {w:World} {l:Nat} {r:Loop} {o:Obj} (h:w.heap[l]?=some (.loop r)) {p:Addr} (hp:p.block≠l):(w.putObj l o).cell? p=w.cell? p∧(w.putObj l o).frozen? p=w.frozen? p :=
 ⟨World.cell?_of_block (World.putObj_heap_other hp),World.frozen?_of_block (World.putObj_heap_other hp)⟩
theorem kI {w:World} {l:Nat} {r:Loop} {o:Obj} (h:w.heap[l]?=some (.loop r)) {b s:Nat} {vs:List Value} (hb:b≠l) (hr:w.rangeAt b s vs):(w.putObj l o).rangeAt b s vs:=fun j v hj=>by
 rw[(kJ h (p:=⟨b,s+j,none⟩) hb).1]; exact hr j v hj
theorem gD {B l:Nat} {w0 w:World} (h:Below B w0 w) (hB:B≤l) (o:Obj):Below B w0 (w.putObj l o) :=
 ⟨h.os,h.tape,h.output,by rw[World.putObj_size]; exact h.size,fun k hk=>(World.putObj_heap_other (by omega)).trans (h.block k hk)⟩
end Go.Proofs.YtpjlhhpjpnacmaaGreatDoor.Ex
namespace Go.Proofs.YtpjlhhpjpnacmaaGreatDoor
open Go.Proofs.Tryz
open Go.RowKit
def xC (B:Nat→Nat) (s:Nat):Nat→Nat
 | 0=>0
 | n+1=>xC B s n*256+B (s+n)
theorem vK {B:Nat→Nat} (hB:∀k,B k<256) (s:Nat):∀n,xC B s n<256^n
 | 0=>by simp[xC]
 | n+1=>by
  have h1:=vK hB s n;have h2:=hB (s+n);show xC B s n*256+B (s+n)<256^n*256;omega
theorem xZ (B:Nat→Nat) (s n:Nat):∀m,xC B s (n+m)=xC B s n*256^m+xC B (s+n) m
 | 0=>by simp[xC]
 | m+1=>by
  show xC B s (n+m)*256+B (s+(n+m))=xC B s n*(256^m*256)+(xC B (s+n) m*256+B (s+n+m));rw[xZ B s n m,Nat.add_mul,Nat.mul_assoc,Nat.add_assoc s n m,Nat.add_assoc]
theorem MX (B:Nat→Nat) (s:Nat):∀n,eP 256 (fun k=>B (s+n-1-k)) n=xC B s n
 | 0=>rfl
 | n+1=>by
  rw[rO];show B (s+(n+1)-1-0)+256*eP 256 (fun k=>B (s+(n+1)-1-(1+k))) n=xC B s n*256+B (s+n);have e:(fun k=>B (s+(n+1)-1-(1+k)))=fun k=>B (s+n-1-k):=by
   funext k; congr 1; omega
  rw[e,MX B s n,Nat.mul_comm,show s+(n+1)-1-0=s+n by omega];omega
def bT (A p:Nat):Nat:=A/256^(31-p)%256
theorem yR (A p:Nat):bT A p<256:=Nat.mod_lt _ (by omega)
theorem yA (A:Nat) (h:A<256^32):∀n,n≤32→xC (bT A) 0 n=A/256^(32-n)
 | 0,_=>by
  show 0=_;rw[Nat.div_eq_of_lt (by simpa using h)]
 | n+1,hn=>by
  show xC (bT A) 0 n*256+bT A (0+n)=_;rw[yA A h n (by omega),Nat.zero_add];unfold bT;rw[show 32-n=(32-(n+1))+1 by omega,show 31-n=32-(n+1) by omega,Nat.pow_succ,←Nat.div_div_eq_div_mul];generalize A/256^(32-(n+1))=X;omega
theorem ZO {A:Nat} (h:A<115792089237316195423570985008687907853269984665640564039457584007913129639936):xC (bT A) 0 32=A:=by
 have:=yA A (by simpa using h) 32 (by omega);simpa using this
theorem PN (P:Nat→Nat) (hP:∀k,P k<18446744073709551616) (n j m:Nat) (hj:j<n) (hm:m<8):P j/2^(8*m)%256=eP 18446744073709551616 P n/256^(8*j+m)%256:=by
 obtain⟨q,rfl⟩:∃q,n=j+(q+1):=⟨n-j-1,by omega⟩
 have h1:=gQ 18446744073709551616 P j (q+1);have h2:=rO 18446744073709551616 (fun k=>P (j+k)) q;have h3:=uF 18446744073709551616 P (by omega) j (fun k _=>hP k);have e1:256^(8*j+m)=18446744073709551616^j*2^(8*m):=by
  rw[Nat.pow_add,Nat.pow_mul,Nat.pow_mul]
 rw[h1,h2,e1,←Nat.div_div_eq_div_mul,Nat.add_mul_div_left _ _ (by exact Nat.pow_pos (by omega)),Nat.div_eq_of_lt h3,Nat.zero_add];have e:18446744073709551616=2^(8*m)*(256*2^(56-8*m)):=by
  rw[show (256:Nat)=2^8 from rfl,←Nat.pow_add,←Nat.pow_add,show 8*m+(8+(56-8*m))=64 by omega]
 show _=(P j+18446744073709551616*_)/2^(8*m)%256;generalize eP 18446744073709551616 (fun k=>P (j+(1+k))) q=H;rw[show 18446744073709551616*H=2^(8*m)*(256*2^(56-8*m))*H by rw[←e],Nat.mul_assoc,Nat.add_mul_div_left _ _ (by exact Nat.pow_pos (by omega)),Nat.mul_assoc,Nat.add_mul_mod_self_left]
theorem Oe {i:Nat} (h:i<32):∃j m s p:Nat,(i:Int)/8=(j:Int)∧(i:Int)%8=(m:Int)∧(m:Int)*8=(s:Int)∧(31:Int)-(i:Int)=(p:Int)∧j<4∧m<8∧s≤56∧p<32∧Hid (i=8*j+m∧s=8*m∧p=31-i) :=
 ⟨i/8,i%8,i%8*8,31-i,by omega,by omega,by omega,by omega,by omega,by omega,by omega,by omega,Lib.hid (by omega)⟩
theorem Kf {x s b:Nat} (hx:x<18446744073709551616) (hb:x/2^s%256=b):∃t:Nat,(x:Int)/2^s=(t:Int)∧IntKind.u8.wrap (t:Int)=(b:Int)∧t<18446744073709551616:=by
 have hs:x/2^s<18446744073709551616:=Nat.lt_of_le_of_lt (Nat.div_le_self _ _) hx;refine⟨x/2^s,by rw[Int.natCast_ediv,Int.natCast_pow]; rfl,?_,hs⟩;generalize x/2^s=q at *;simp only[IntKind.wrap,IntKind.bits,IntKind.signed];simp;omega
theorem UT (R:Nat) (P:Nat→Nat) (j:Nat):∀n,j<n→P j*R^j≤eP R P n
 | 0,h=>absurd h (by omega)
 | n+1,h=>by
  rw[cZ]
  rcases Nat.lt_or_ge j n with hj|hj
  ·have:=UT R P j n hj; omega
  ·obtain rfl:j=n:=by omega
   omega
theorem QB {P:Nat→Nat} {V i j m s d:Nat} (hj:j<4) (hm:m<8) (e:i=8*j+m) (es:s=8*m) (hV:eP 18446744073709551616 P 4=V) (hlt:V<256^i):P j<2^s∧eP 18446744073709551616 (gY P j (P j+d*2^s)) 4=V+d*256^i:=by
 have e1:256^i=18446744073709551616^j*2^s:=by
  rw[e,es,Nat.pow_add,Nat.pow_mul,Nat.pow_mul]
 refine⟨?_,?_⟩
 ·have h1:=UT 18446744073709551616 P j 4 hj;rw[hV]at h1;have h2:=Nat.lt_of_le_of_lt h1 hlt;rw[e1,Nat.mul_comm]at h2;exact Nat.lt_of_mul_lt_mul_left h2
 ·have h:=pM 18446744073709551616 P j (P j+d*2^s) 4 hj;rw[Nat.add_mul]at h;rw[e1,Nat.mul_comm (18446744073709551616^j),←Nat.mul_assoc,←hV];omega
theorem Us {x d s:Nat} (hd:d<256) (hs:s≤56) (hx:x<2^s):∃u z:Nat,IntKind.u64.wrap ((d:Int)*2^s)=(u:Int)∧bits .or .u64 (x:Int) (u:Int)=(z:Int)∧u<18446744073709551616∧z<18446744073709551616∧Hid (z=x+d*2^s):=by
 have h1:d*2^s<18446744073709551616:=by
  have a:=Nat.mul_lt_mul_of_pos_right hd (Nat.two_pow_pos s);have b:256*2^s≤18446744073709551616:=by
   rw[show (256:Nat)=2^8 from rfl,←Nat.pow_add,show 18446744073709551616=2^64 by simp];exact Nat.pow_le_pow_right (by omega) (by omega)
  omega
 have h2:x<18446744073709551616:=Nat.lt_of_lt_of_le hx (by
  rw[show 18446744073709551616=2^64 by simp]; exact Nat.pow_le_pow_right (by omega) (by omega))
 obtain⟨z,e1,e2,e3⟩:=mS (k:=s) h2 h1 (Lib.hid hx) (Lib.hid ⟨d,Nat.mul_comm _ _⟩);exact⟨d*2^s,z,by rw[fO,jZ _ h1],e1,h1,e2,e3⟩
def RowB (w:World) (b n:Nat) (P:Nat→Nat):Prop:=∀k,k<n→w.cell? ⟨b,k,none⟩=some (.int .u8 (P k:Nat))∧w.frozen? ⟨b,k,none⟩=false
theorem RowB.below {w w':World} {b n:Nat} {P:Nat→Nat} (h:RowB w b n P) {B:Nat} (hb:Below B w w') (hB:b<B):RowB w' b n P:=fun k hk =>
 ⟨(hb.cell (p:=⟨b,k,none⟩) hB).trans (h k hk).1,(hb.frozen (p:=⟨b,k,none⟩) hB).trans (h k hk).2⟩
theorem RowB.set {w:World} {b n i v:Nat} {P:Nat→Nat} (h:RowB w b n P) (hi:i<n):RowB (w.setCell ⟨b,i,none⟩ (.int .u8 (v:Nat))) b n (gY P i v):=by
 intro k hk;refine⟨?_,by rw[World.frozen?_setCell]; exact (h k hk).2⟩;unfold gY
 by_cases e:k=i
 ·subst e; rw[if_pos rfl]; exact World.cell?_setCell_same (h:=(h k hk).1) ..
 ·rw[if_neg e,World.cell?_setCell_other (h:=fun he=>e (by simpa using (congrArg Addr.off he).symm)) ..]; exact (h k hk).1
theorem RowB.other {w:World} {b n i:Nat} {P:Nat→Nat} (h:RowB w b n P) {c:Nat} (hc:c≠b) (x:Value):RowB (w.setCell ⟨c,i,none⟩ x) b n P:=by
 intro k hk;exact⟨by rw[World.cell?_setCell_other (h:=fun he=>hc (by simpa using congrArg Addr.block he)) ..]; exact (h k hk).1,by rw[World.frozen?_setCell]; exact (h k hk).2⟩
theorem RowB.drewN {w:World} {b n:Nat} {P:Nat→Nat} (h:RowB w b n P) (m:Nat):RowB (w.drewN m) b n P:=h
theorem RowB.ext {w:World} {b n:Nat} {P R:Nat→Nat} (h:RowB w b n P) (e:∀k,k<n→P k=R k):RowB w b n R:=fun k hk=>⟨by rw[←e k hk]; exact (h k hk).1,(h k hk).2⟩
def kS (P:Nat→Nat→Prop) (w:World) (e:Ending) (w':World):Prop :=
 ∃s0 s1 s2 s3 c:Nat,e=.returned (.tuple #[.agg #[.int .u64 s0,.int .u64 s1,.int .u64 s2,.int .u64 s3],.int .i64 c])∧cC s0 s1 s2 s3∧P (aC s0 s1 s2 s3) c∧Below w.heap.size w w'
set_option maxHeartbeats 1000000 in
theorem Fz (g off cap:Nat) (B:Nat→Nat) (hB:∀k,B k<256) (w:World) (hg:g<w.heap.size) (hc:∀k,k<32→w.cell? ⟨g,off+k,none⟩=some (.int .u8 (B k:Nat))) :
  Calls prog 39 #[.slice (some ⟨g,off,none⟩) 32 cap] w (kS (fun n c=>n=xC B 0 32∧c=0) w):=by
 have HC:=Lib.hid hc;have HB:=Lib.hid hB;have HE:=Lib.hid (MX B 0 32);have HT:=Lib.hid (fun i=>uF 256 (fun k=>B (0+32-1-k)) (by omega) i (fun k _=>hB _));clear hc hB;generalize eD:(fun k=>B (0+32-1-k))=D at *;have hD:∀i p,i<32→p=31-i→B p=D i:=fun i p hi hp=>by
  rw[←eD,hp]
 have HD:=Lib.hid hD;clear hD eD
 go_enter func39,ntmps39
 go_wp2_with fail;have R0:=Lib.hid (Row4.new (w.alloc (.cells #[.int .u64 0,.int .u64 0,.int .u64 0,.int .u64 0] 24)) 0 0 0 0 24).rows;have Z0:=Lib.hid ((Row4.new w 0 0 0 0 24).alloc (by simp) (.cells #[.int .u64 0,.int .u64 0,.int .u64 0,.int .u64 0] 24))
 go_loopw [10] (fun x wr=>∃(i:Nat) (P:Nat→Nat),i≤32∧x=.int .i64 i∧(∀k,P k<18446744073709551616)∧Hid (eP 18446744073709551616 P 4=eP 256 D i)∧RowIs wr (w.heap.size+1) 4 P∧Row4 wr w.heap.size 0 0 0 0∧Below w.heap.size w wr∧w.heap.size+1<wr.heap.size) (fun x _=>32-(intOf x).toNat)
 case atStart =>
  refine⟨0,dU [0,0,0,0],by omega,rfl,fun k=>AW ⟨by omega,by omega,by omega,by omega⟩ k,Lib.hid rfl,by simpa using R0.out,Z0.out,?_,by simp⟩;exact ((Below.refl _ _).alloc (Nat.le_refl _) _).alloc (by simp) _
 case round =>
  obtain⟨i,P,hi,rfl,lP,tP,rP,z0,hb,hz⟩:=hrel;have HBl:=Lib.hid hb;have HZ:=Lib.hid z0;have HlP:=Lib.hid lP;have HR:=Lib.hid rP
  by_cases hlt:i<32
  ·obtain⟨j,m,s,p,q1,q2,q3,q4,hj,hm,hs,hp,e⟩:=Oe hlt;have cx:=rP.cell hj;have fx:=rP.free hj;have cb:wr.cell? ⟨g,off+p,none⟩=some (.int .u8 (B p:Nat)):=(hb.cell (p:=⟨g,off+p,none⟩) hg).trans (HC.out p hp);have lb:=HB.out p;have hbD:=HD.out i p hlt e.out.2.2;have st:=QB (d:=D i) hj hm e.out.1 e.out.2.1 tP.out (HT.out i);obtain⟨u,z,e1,e2,lu,lz,ez⟩:=Us lb hs st.1;have HN:=Lib.hid (show eP 18446744073709551616 (gY P j z) 4=eP 256 D (i+1) by
    rw[ez.out,hbD,st.2,cZ])
   have lx:=lP j;generalize P j=x at *;generalize B p=b at *;clear z0 hb rP lP tP st hbD e ez;go_wp2_with fail
   go_region
   go_wp2_with fail
   go_roundw
   case rel=>exact⟨i+1,gY P j z,by omega,by go_num,fun k=>by unfold gY; split; exact lz; exact HlP.out k,HN,(HR.out.drewN 1).set hj,(HZ.out.drewN 1).other (by omega) _,(HBl.out.drew).setCell (p:=⟨w.heap.size+1,j,none⟩) (by simp) _,by show _<(wr.setCell _ _).heap.size; rw[World.size_setCell]; exact hz⟩
   case measure=>first|(simp[intOf]; done)|(simp[intOf]; omega)
  ·obtain rfl:i=32:=by omega
   have HF:=Lib.hid ((iD P).trans (tP.out.trans HE.out));have c0:=rP.cell (show 0<4 by omega); have c1:=rP.cell (show 1<4 by omega); have c2:=rP.cell (show 2<4 by omega); have c3:=rP.cell (show 3<4 by omega);have k0:=z0.c0; have k1:=z0.c1; have k2:=z0.c2; have k3:=z0.c3; have kf:=z0.fr;have l0:=lP 0; have l1:=lP 1; have l2:=lP 2; have l3:=lP 3;clear rP z0 hb lP tP;go_wp2_with fail;refine bodyPost_ret (v:=.tuple #[.agg #[.int .u64 (P 0),.int .u64 (P 1),.int .u64 (P 2),.int .u64 (P 3)],.int .i64 0]) (by simp[results,results39,go_sem, *]) rfl ?_;exact⟨P 0,P 1,P 2,P 3,0,rfl,⟨l0,l1,l2,l3⟩,⟨HF.out,rfl⟩,bF HBl.out (by omega) _ _ _ _⟩
end Go.Proofs.YtpjlhhpjpnacmaaGreatDoor
namespace Go.Proofs.YtpjlhhpjpnacmaaGreatDoor.Ex
open Go.Proofs.Tryz
open Go.RowKit
def gU (x:Nat):List At:=[.c (.int .u8 (Int.ofNat x))]
def Oq (N:Nat):List At:=bV (fun k=>gU (bT N k)) 0 32
theorem nV {f:Nat→Nat}:∀(n s j:Nat),j<n→(aA (bV (fun k=>gU (f k)) s n))[j]?=some (.int .u8 (Int.ofNat (f (s+j))))
 | n+1,s,0,_=>rfl
 | n+1,s,j+1,h=>by
  show (aA (gU (f s)++bV (fun k=>gU (f k)) (s+1) n))[j+1]?=_;rw[aM];show ([Value.int .u8 (Int.ofNat (f s))]++aA (bV (fun k=>gU (f k)) (s+1) n))[j+1]?=_;rw[show s+(j+1)=s+1+j by omega];exact nV n (s+1) j (by omega)
theorem sM {f:Nat→Nat} (n s:Nat):(aA (bV (fun k=>gU (f k)) s n)).length=n:=by
 rw[aN,fM (c:=1) (fun _=>rfl)]; omega
def BM (w:World) (g o n:Nat) (f:Nat→Nat):Prop:=g<w.heap.size∧(∀j,f j<256)∧∀j,j<n→w.cell? ⟨g,o+j,none⟩=some (.int .u8 (Int.ofNat (f j)))
theorem BM.on {w w':World} {g o n:Nat} {f:Nat→Nat} (h:BM w g o n f) (hb:Below w.heap.size w w'):BM w' g o n f :=
 ⟨Nat.lt_of_lt_of_le h.1 hb.size,h.2.1,fun j hj=>(hb.cell (p:=⟨g,o+j,none⟩) h.1).trans (h.2.2 j hj)⟩
abbrev hN (f:Nat→Nat) (n:Nat):Nat:=Go.Proofs.YtpjlhhpjpnacmaaGreatDoor.xC f 0 n
theorem aBH {f:Nat→Nat} (hf:∀j,f j<256) {n:Nat} (hn:n≤32):hN f n<aH:=by
 have h1:=vK hf 0 n;have h2:256^n≤256^32:=Nat.pow_le_pow_right (by omega) hn;exact Nat.lt_of_lt_of_le h1 (Nat.le_trans h2 (by decide))
theorem aGk {f:Nat→Nat} (hf:∀j,f j<256) {n:Nat} (hn:n≤31):hN f n<RM:=by
 have h1:=vK hf 0 n;have h2:256^n≤256^31:=Nat.pow_le_pow_right (by omega) hn;exact Nat.lt_of_lt_of_le h1 (Nat.le_trans h2 (by decide))
theorem It {f:Nat→Nat} (hf:∀j,f j<256) {n k:Nat} (hn:n≤32) (hk:k<32):bT (hN f n) k=if k<32-n then 0 else f (k-(32-n)):=by
 unfold bT hN
 by_cases h:k<32-n
 ·rw[if_pos h];have h1:=vK hf 0 n;have h2:256^n≤256^(31-k):=Nat.pow_le_pow_right (by omega) (by omega);rw[Nat.div_eq_of_lt (Nat.lt_of_lt_of_le h1 h2)]
 ·rw[if_neg h];obtain⟨a,ha⟩:∃a,n=(a+1)+(31-k):=⟨k-(32-n),by omega⟩
  have hsp:=xZ f 0 (a+1) (31-k);rw[←ha]at hsp;have hlt:=vK hf (0+(a+1)) (31-k);rw[hsp,Nat.mul_comm,Nat.mul_add_div (Nat.pow_pos (by omega)),Nat.div_eq_of_lt hlt,Nat.add_zero];show (Go.Proofs.YtpjlhhpjpnacmaaGreatDoor.xC f 0 a*256+f (0+a))%256=_;rw[Nat.mul_comm,Nat.mul_add_mod,Nat.mod_eq_of_lt (hf _),show k-(32-n)=0+a by omega]
def Jh (N:Nat):gL
 | [.s l 32 m]=>some ([aA l=aA (Oq N),N<aH],.many [.fl [.q N],.im (.int .i64 0)])
 | _=>none
theorem Jg (N:Nat):∀cs pre r,Jh N cs=some (pre,r)→bC pre→∀(args:List Value) (w:World),cT w cs args→bM prog 39 r args w:=by
 intro cs pre r hg hp args w ha;unfold Jh at hg;split at hg
 ·rename_i l m;cases hg;obtain⟨h1,h2,_⟩:=hp
  match args,ha with
  | [v],ha =>
   obtain⟨b,o,rfl,hb,hr⟩:=ha.1;have h:=Fz b o m (bT N) (yR N) w hb fun k hk=>hr k _ (by rw[h1]; have:=nV (f:=bT N) 32 0 k hk; rwa [Nat.zero_add]at this)
   refine h.mono ?_
   rintro e w' ⟨s0,s1,s2,s3,c',rfl,hs,⟨h3,rfl⟩,hbl⟩
   rw[ZO h2]at h3;obtain⟨rfl,rfl,rfl,rfl⟩:=jF hs h2 h3;exact⟨rfl,hbl⟩
  | [],ha=>exact ha.elim
  | _::_::_,ha=>exact ha.2.elim
 ·cases hg
theorem Holds.ptV {nt base:Nat} {w0:World} {A:List Fact} {a:Act} {w:World} (h:Holds nt base w0 A a w) {s k o b:Nat} (h1:Fact.slot s (.pt k o)∈A) (h2:Fact.at k b∈A):a.eval (.tmp s)=ptV b o:=by
 obtain⟨β,g1,_⟩:=h.facts;have e1:=g1 _ h1;have e2:=g1 _ h2;simp only[Fact.ok]at e1 e2;simp[Act.eval,e1,AV.den,e2,Go.Proofs.YtpjlhhpjpnacmaaGreatDoor.Ex.ptV]
theorem Holds.imV {nt base:Nat} {w0:World} {A:List Fact} {a:Act} {w:World} (h:Holds nt base w0 A a w) {s:Nat} {v:Value} (h1:Fact.slot s (.im v)∈A):a.eval (.tmp s)=v:=by
 have e1:=h.slot h1;simp[Act.eval,e1]
theorem DH {A:List Fact} {d:Nat} (h:A.all (fun φ => !(iQ (some d) none φ))=true):∀φ∈A,iQ (some d) none φ=false:=fun φ hφ=>by
 have:=List.all_eq_true.1 h φ hφ;simpa using this
def tC (T:Tab) (num:Nat→Option Value):Cfg:=⟨fun _=>T,fun _=>true,num⟩
theorem Na:(prog.info? 5).map (·.size)=some 1:=by kernel_rfl
theorem zF:prog.underlying 25=some (.slice 5):=by kernel_rfl
theorem Dz:prog.underlying 239=some (.array 32 5):=by kernel_rfl
theorem IM (w:World):(sizeOf 5).run prog w=.ok 1 w:=by
 have h:=Na;cases hq:prog.info? 5 with
 | none=>rw[hq]at h; cases h
 | some i =>
  rw[hq]at h;have:i.size=1:=by simpa using h
  simp[sizeOf,typeInfo,hq,this]
def oY:Code:=(f145.body).getD .skip
def XV:Code:=cB (cB oY)
noncomputable abbrev Xr:Nat:=f145.ntmps
theorem Hj:oY=.seq (cA oY) (.seq (cA (cB oY)) (.seq (.region 2 (aD (cA XV)) false) (.seq (cA (cB XV)) (.seq (cA (cB (cB XV))) .ret)))):=by kernel_rfl
def zl:List At:=List.replicate 32 (.c (.int .u8 0))
def nA (v:Value):List Fact:=[.slot 0 (.im v),.slot 2 (.pt 2 0),.row 2 true [.f ⟨0,dC⟩]]
def nB (v:Value) (L:List At):List Fact:=[.slot 3 (.pt 3 0),.row 3 true L,.slot 0 (.im v),.slot 2 (.pt 2 0),.row 2 true [.f ⟨0,dC⟩]]
theorem aAN (v:Value):aX prog (qG prog) Xr (fun _=>tC T0 fun _=>none) 40 (cA oY) (fD 0 [.v (.im v)]) (nA v)=some ([],.nrm,nA v):=by kernel_rfl
theorem aAM (v:Value):aX prog (qG prog) Xr (fun _=>tC T0 fun _=>none) 40 (cA (cB oY)) (nA v) (nB v zl)=some ([],.nrm,nB v zl):=by kernel_rfl
theorem aAL (g o k m b:Nat):cO prog (qG prog) Xr (tC T0 (assoc [(8,iI (32-k))])) ((aD (cA XV)).extract 0 3) (.at 3 b::nB (aK g o k m) zl) (.slot 8 (.im (iI (32-k))) :: .at 3 b::nB (aK g o k m) zl)=some ([aJ .sub .i64 32 (Int.ofNat k)=some (iI (32-k))],.slot 8 (.im (iI (32-k))) :: .at 3 b::nB (aK g o k m) zl):=by kernel_rfl
theorem aAK (v s:Value) (b:Nat):cO prog (qG prog) Xr (tC T0 fun _=>none) ((aD (cA XV)).extract 4 5) (.slot 9 (.im s) :: .at 3 b::nB v zl) (.slot 10 (.im v) :: .slot 9 (.im s) :: .at 3 b::nB v zl)=some ([],.slot 10 (.im v) :: .slot 9 (.im s) :: .at 3 b::nB v zl):=by kernel_rfl
theorem aAJ (v:Value) (N:Nat):aX prog (qG prog) Xr (fun _=>tC (T0.add 39 (Jh N)) fun _=>none) 40 (cA (cB XV)) (nB v (Oq N)) [.slot 4 (.pt 4 0),.row 4 true [.q N],.slot 2 (.pt 2 0),.row 2 true [.f ⟨0,dC⟩]]=some ([aA (Oq N)=aA (Oq N),N<aH],.nrm,[.slot 4 (.pt 4 0),.row 4 true [.q N],.slot 2 (.pt 2 0),.row 2 true [.f ⟨0,dC⟩]]):=by kernel_rfl
theorem aAI (N:Nat):aX prog (qG prog) Xr (fun _=>tC T0 fun _=>none) 40 (cA (cB (cB XV))) [.slot 4 (.pt 4 0),.row 4 true [.q N],.slot 2 (.pt 2 0),.row 2 true [.f ⟨0,dC⟩]] [.slot 2 (.pt 2 0),.row 2 true [.q N]]=some ([],.nrm,[.slot 2 (.pt 2 0),.row 2 true [.q N]]):=by kernel_rfl
theorem Hf {k:Nat} (h:k≤32):aJ .sub .i64 32 (Int.ofNat k)=some (iI (32-k)):=mL (i:=32) h (by decide)
theorem Qf {b lo:Nat} (h:lo<32) (w:World):(Instr.sliceAt 239 (ptV b 0) (some (iI lo)) none none).run prog w=.ok (aK b lo (32-lo) (32-lo)) w:=by
 simp[Instr.sliceAt,Instr.sureAddr,ptV,aK,iI,run_underlying Dz,Instr.sliceBounds,Instr.sliceBound,asIntOf,IM,Nat.le_of_lt h,Addr.add_mid];omega
theorem XU {w0:World} {g o k m:Nat} {f:Nat→Nat} (hv:BM w0 g o k f) (h1:1≤k) (h2:k≤31):bM prog 145 (.one (.fl [.q (hN f k)])) [aK g o k m] w0:=by
 have hG:bO prog (qG prog) w0.heap.size w0:=(aW _).w _ _;have hT:∀n d:Nat,TabOkW prog T0 w0.heap.size w0:=fun _ _=>(bU _).w _ _
 refine cH func145 (cs:=[.v (.im (aK g o k m))]) (args:=[aK g o k m]) (c:=oY) rfl ⟨rfl,trivial⟩ (Nat.le_of_ble_eq_true (by kernel_rfl)) fun a w hA => ?_
 rw[Hj];refine wp_seq (aB aI hT hG (aAN _) trivial hA fun a w hA => ?_);refine wp_seq (aB aI hT hG (aAM _) trivial hA fun a w hA => ?_);obtain⟨b,hA⟩:=hA.at (k:=3) (l:=zl) (by simp[nB]);refine wp_seq (bI (l:=List.range' 0 ((aD (cA XV)).extract 0 3).size++(3::(List.range' 4 ((aD (cA XV)).extract 4 5).size++(5::[])))) (by kernel_rfl) ?_);refine aG (c:=tC T0 _) (hT 0) hG (aAL g o k m b) ⟨Hf (by omega),trivial⟩ (by kernel_rfl) hA fun a w hA => ?_
 obtain⟨o3,ho3,hop3,hd3,hg3⟩:∃x,(aD (cA XV))[3]?=some x∧x.op=.slice 239 (.tmp 3) (some (.tmp 8)) none none∧x.dst=some 9∧x.guard=none:=⟨_,rfl,rfl,rfl,rfl⟩
 have e3:=hA.ptV (s:=3) (k:=3) (o:=0) (b:=b) (by simp[nB]) (by simp);have e8:=hA.imV (s:=8) (v:=iI (32-k)) (by simp);have hrun:(execOp a.eval o3).run prog w=.ok (.value (aK b (32-k) k k)) w:=by
  have:=Qf (b:=b) (lo:=32-k) (by omega) w;rw[show 32-(32-k)=k by omega]at this;unfold execOp;simp only[hop3,Option.map_some,Option.map_none,e3,e8,Sem.run_bind,this,Result.andThen_ok,Sem.run_pure]
 refine aZ ho3 hg3 (bZ hrun ?_);rw[hd3];have hA:=(hA.put (Below.refl _ _) (d:=9) (Nat.le_of_ble_eq_true (by kernel_rfl)) (.im (aK b (32-k) k k)) (DH (by kernel_rfl))).sub (A':=.slot 9 (.im (aK b (32-k) k k)) :: .at 3 b::nB (aK g o k m) zl) (fun φ h=>by
  rcases List.mem_cons.1 h with rfl|h
  ·exact List.mem_cons_self
  ·exact List.mem_cons_of_mem _ (List.mem_cons_of_mem _ h))
 refine aG (c:=tC T0 _) (hT 0) hG (aAK (aK g o k m) (aK b (32-k) k k) b) trivial (by kernel_rfl) hA fun a w hA => ?_
 obtain⟨o5,ho5,hop5,hd5,hg5⟩:∃x,(aD (cA XV))[5]?=some x∧x.op=.call ⟨.builtin .copy,#[.tmp 9,.tmp 10],#[25,25]⟩∧x.dst=some 11∧x.guard=none:=⟨_,rfl,rfl,rfl,rfl⟩
 have e9:=hA.imV (s:=9) (v:=aK b (32-k) k k) (by simp);have e10:=hA.imV (s:=10) (v:=aK g o k m) (by simp);have hB:=hv.on hA.below;have hrow:=hA.old (k:=3) (l:=zl) (b:=b) (by simp[nB]) (by simp);have hfz:∀j,w.frozen? ⟨b,j,none⟩=false:=by
  obtain⟨β,g1,_⟩:=hA.facts;obtain⟨_,_,q,_⟩:=g1 (.row 3 true zl) (by simp[nB]);have e:=g1 (.at 3 b) (by simp);simp only[Fact.ok]at e;obtain⟨rfl,_⟩:=e;exact (q rfl).2.2
 have hcs:∀j v,(aA (bV (fun j=>gU (f j)) 0 k))[j]?=some v→w.cell? ((⟨g,o,none⟩:Addr).add j)=some v:=fun j v hj=>by
  have hlt:j<k:=by have:=(List.getElem?_eq_some_iff.1 hj).1; rwa [sM]at this
  rw[nV k 0 j hlt]at hj;rw[←hj,show (⟨g,o,none⟩:Addr).add j=⟨g,o+j,none⟩ by simp[Addr.add],hB.2.2 j hlt,Nat.zero_add]
 have hz32:dJ zl=32:=by kernel_rfl
 have hcell:∀j,j<(aA (bV (fun j=>gU (f j)) 0 k)).length→(w.cell? ⟨b,32-k+j,none⟩).isSome=true:=fun j hj=>by
  rw[sM]at hj;have hlt:32-k+j<(aA zl).length:=by rw[aN,hz32]; omega
  have:=hrow.2 (32-k+j) _ (List.getElem?_eq_getElem hlt);rw[Nat.zero_add]at this;rw[this]; rfl
 have hone:∀x∈aA (bV (fun j=>gU (f j)) 0 k),x.oneCell'=true:=fun x hx=>by
  obtain⟨j,hj⟩:=List.mem_iff_getElem?.1 hx;have hlt:j<k:=by have:=(List.getElem?_eq_some_iff.1 hj).1; rwa [sM]at this
  rw[nV k 0 j hlt]at hj;cases hj; rfl
 have hcp:=run_copy_cells (P:=prog) w 25 25 o5.type 5 b (32-k) k k ⟨g,o,none⟩ k m (aA (bV (fun j=>gU (f j)) 0 k)) zF Na (by rw[sM]; exact (Nat.min_self k).symm) hcs hcell (fun j _=>hfz _) hone;have hrun:(execOp a.eval o5).run prog w=.ok (.value (goInt (aA (bV (fun j=>gU (f j)) 0 k)).length)) (w.setCells b (32-k) (aA (bV (fun j=>gU (f j)) 0 k))):=by
  unfold execOp;simp only[hop5,resolve,invoke,builtin,Sem.run_bind,Sem.run_pure,Result.andThen_ok,List.map_toArray,List.map_cons,List.map_nil,e9,e10,aK,hcp]
 refine aZ ho5 hg5 (bZ hrun ?_);rw[hd5];have hA:=hA.wr (k:=3) (b:=b) (o:=32-k) (l:=zl) (l':=Oq (hN f k)) (vs:=aA (bV (fun j=>gU (f j)) 0 k)) (by simp[nB]) (by simp) (by rw[sM,hz32]; omega) (fun j v hj=>by
  have hlt:j<32:=by have:=(List.getElem?_eq_some_iff.1 hj).1; unfold Oq at this; rwa [sM]at this
  have hc:=nV (f:=bT (hN f k)) 32 0 j hlt;unfold Oq at hj;rw[hc,Nat.zero_add,It hB.2.1 (by omega) hlt]at hj
  by_cases h:j<32-k
  ·right;rw[if_pos h]at hj;refine⟨Or.inl h,?_⟩;rw[←hj];have e:∀q,q<32→(aA zl)[q]?=some (.int .u8 0):=by
    have:aA zl=List.replicate 32 (.int .u8 0):=by kernel_rfl
    intro q hq;rw[this,List.getElem?_replicate,if_pos hq]
   exact e j hlt
  ·left;rw[if_neg h]at hj;refine⟨by omega,?_⟩;rw[nV k 0 (j-(32-k)) (by omega),Nat.zero_add];exact hj)
 have hA:=hA.put (Below.refl _ _) (d:=11) (Nat.le_of_ble_eq_true (by kernel_rfl)) (.im (goInt (aA (bV (fun j=>gU (f j)) 0 k)).length)) (DH (by kernel_rfl));have hA:=hA.sub (A':=nB (aK g o k m) (Oq (hN f k))) (fun φ h=>by
  simp only[nB,List.mem_cons,List.not_mem_nil,or_false]at h
  rcases h with rfl|rfl|rfl|rfl|rfl<;>simp[nB,xW,TV.av,show Nat.beq 2 3=false from rfl])
 have hT2:∀n d:Nat,TabOkW prog (T0.add 39 (Jh (hN f k))) w0.heap.size w0:=fun _ _=>((bU _).add func39 (by kernel_rfl) (by kernel_rfl) (Jg _)).w _ _
 show (Code.seq _ _).wp _ _ _ _;refine wp_seq (aB aI hT2 hG (aAJ (aK g o k m) (hN f k)) ⟨rfl,aBH hv.2.1 (by omega),trivial⟩ hA fun a w hA => ?_);refine wp_seq (aB aI hT hG (aAI (hN f k)) trivial hA fun a w hA => ?_);exact wp_ret (qU (l:=[.fl [.q (hN f k)]]) (r:=.one (.fl [.q (hN f k)])) (by kernel_rfl) (by kernel_rfl) hA)
def Mc:Nat→List TV→List Fact
 | _,[]=>[]
 | i,t::r=>.slot i t.av::Mc (i+1) r
theorem PC {base:Nat} {β:Nat→Bk} (a:Act) (w:World):∀(ts:List TV) (i:Nat),(∀j t,ts[j]?=some t→a.tmps[i+j]?=some t.den)→∀φ∈Mc i ts,φ.ok base β a w
 | [],i,_,φ,h=>by cases h
 | t::r,i,ha,φ,h=>by
  rcases List.mem_cons.1 h with rfl|h
  ·show a.tmps[i]?=_;rw[TV.av_den];exact ha 0 t rfl
  ·exact PC a w r (i+1) (fun j u hj=>by have:=ha (j+1) u (by simpa using hj); rwa [show i+(j+1)=i+1+j by omega]at this) φ h
theorem wM:∀(ts:List TV) (i:Nat) (k:Nat) (o:Bool) (l:List At),Fact.row k o l∈Mc i ts→False
 | [],i,k,o,l,h=>by cases h
 | t::r,i,k,o,l,h=>by
  rcases List.mem_cons.1 h with h|h
  ·cases h
  ·exact wM r (i+1) k o l h
structure Own (w:World) (b:Nat) (l:List At):Prop where
 lt:b<w.heap.size
 row:w.rangeAt b 0 (aA l)
 free:∀j,w.frozen? ⟨b,j,none⟩=false
def Wr (b:Nat) (w:World) (r:RV) (l:List At) (e:Ending) (w':World):Prop:=e=.returned r.den∧WrC w w' b∧w'.rangeAt b 0 (aA l)
def SX (nt b N:Nat) (x:AV) (l:List At) (ts:List TV):List Fact:=.slot 0 x :: .row 0 true l :: .at 0 b :: .at nt N::Mc 1 ts
def MD (nt b N o:Nat) (l:List At) (ts:List TV):List Fact:=SX nt b N (.pt 0 o) l ts
theorem Holds.wrc {nt b:Nat} {w w':World} {A:List Fact} {a:Act} (h:Holds nt b w A a w') {l:List At} (h1:Fact.row 0 true l∈A) (h2:Fact.at 0 b∈A) (h3:Fact.at nt w.heap.size∈A):WrC w w' b∧w'.rangeAt b 0 (aA l):=by
 obtain⟨β,g1,g2,g3,gt⟩:=h.facts;obtain⟨e1,e2,e4,_⟩:=g1 _ h1;obtain⟨e5,e6,e7⟩:=e4 rfl;have e3:=g1 _ h2;have e8:=g1 _ h3;simp only[Fact.ok]at e3 e8;rw[e6]at e2;rw[e3.1]at e2;refine⟨⟨h.below,fun p hp hne => ?_,gt.shape,fun j => ?_⟩,e2⟩
 ·rcases Nat.lt_or_ge p.block b with q|q
  ·exact⟨h.below.cell q,h.below.frozen q⟩
  ·exact gt.mem p (by omega) (by rw[e8.1]; exact hp)
 ·have:=e7 j
  rwa [e3.1]at this
section
variable {P:Program} {w:World} {R:Ending→World→Prop}
theorem RL {f:FuncId} {fn:Func} (hf:P.funcs[f]?=some fn) {c:Code} (hb:fn.body=some c) {b:Nat} {x:AV} {v:Value} (hx:∀β:Nat→Bk,β 0=(b,0,0)→x.den β=v) {l:List At} {ts:List TV} (hO:Own w b l) (hn:ts.length+1≤fn.ntmps)
  (h:∀a w',Holds fn.ntmps b w (SX fn.ntmps b w.heap.size x l ts) a w'→c.wp P (bodyPost P fn R) a w'):Calls P f (v::ts.map TV.den).toArray w R:=by
 refine calls_of_wp hf hb (h _ _ ?_);have hg:∀j u,(v::ts.map TV.den)[j]?=some u→((v::ts.map TV.den).toArray++Array.replicate (fn.ntmps-(v::ts.map TV.den).toArray.size) undef)[j]?=some u:=fun j u hj=>by
  have hlt:=(List.getElem?_eq_some_iff.1 hj).1;rw[Array.getElem?_append_left (by simpa using hlt)];simpa using hj
 have hz:Nat.beq 0 fn.ntmps=false:=by
  cases hb:Nat.beq 0 fn.ntmps
  ·rfl
  ·have:=Nat.eq_of_beq_eq_true hb; omega
 have h0:∀k l0,Fact.row k true l0∈SX fn.ntmps b w.heap.size x l ts→k=0:=fun k l0 hk=>by
  simp only[SX,List.mem_cons,reduceCtorEq,false_or]at hk
  rcases hk with hk|hk
  ·cases hk; rfl
  ·exact (wM ts 1 k true l0 hk).elim
 refine⟨rfl,by simp; omega,Below.refl _ _,Nat.le_of_lt hO.lt,fun k=>bif Nat.beq k fn.ntmps then (w.heap.size,0,0)else (b,0,0),fun φ hφ => ?_,fun k k' o' l1 l2 h1 h2 hne => ?_,fun k l1 h1=>Or.inl ?_,?_,fun p q1 q2=>⟨rfl,rfl⟩,Shape.refl _⟩
 ·simp only[SX,List.mem_cons]at hφ
  rcases hφ with rfl|rfl|rfl|rfl|hφ
  ·exact (hg 0 _ rfl).trans (congrArg some (hx _ (by simp only[hz,cond_false])).symm)
  ·refine⟨?_,?_,fun _=>⟨?_,?_,?_⟩,fun h=>by cases h⟩<;>simp only[hz,cond_false]
   ·exact hO.lt
   ·exact hO.row
   ·exact Nat.le_refl _
   ·exact hO.free
  ·simp only[Fact.ok,hz,cond_false,and_self]
  ·simp[Fact.ok]
  ·exact PC _ _ ts 1 (fun j t hj=>hg (1+j) _ (by rw[Nat.add_comm]; simp[hj])) φ hφ
 ·cases o' with
  | true=>exact (hne ((h0 k l1 h1).trans (h0 k' l2 h2).symm)).elim
  | false =>
   simp only[SX,List.mem_cons,reduceCtorEq,false_or,Fact.row.injEq,Bool.false_eq_true,false_and,and_false]at h2;exact (wM ts 1 k' false l2 h2).elim
 ·rw[h0 k l1 h1];simp only[hz,cond_false]
 ·simp
theorem sP {f:FuncId} {fn:Func} (hf:P.funcs[f]?=some fn) {c:Code} (hb:fn.body=some c) {b o:Nat} {l:List At} {ts:List TV} (hO:Own w b l) (hn:ts.length+1≤fn.ntmps)
  (h:∀a w',Holds fn.ntmps b w (MD fn.ntmps b w.heap.size o l ts) a w'→c.wp P (bodyPost P fn R) a w'):Calls P f (ptV b o::ts.map TV.den).toArray w R :=
 RL hf hb (x:=.pt 0 o) (fun β h=>by simp[AV.den,ptV,h]) hO hn h
end
def Ul (P:Program) (q:EqT) (C:Nat→Cfg) (fn:Func) (n b N o:Nat) (l:List At) (ts:List TV):Option (List Prop×RV×List At×Nat×Nat) :=
 match fn.body with
 | some c=>bif Nat.ble (ts.length+1) fn.ntmps then (match run P q fn.ntmps C n c (MD fn.ntmps b N o l ts)with
   | some (ps,.rt,A)=>match pY P A fn.results.toList,dV A 0,sR A 0,sR A fn.ntmps with
    | some x,some (true,L),some b',some N'=>match rv x with|some r=>some (ps,r,L,b',N')|none=>none
    | _,_,_,_=>none
   | _=>none)else none
 | none=>none
theorem KN {P:Program} {q:EqT} {C:Nat→Cfg} {w:World} {b o:Nat} (hm:P.follows .mixedOrders=true) (hT:∀n d,TabOkW P ((C n).T d) b w) (hq:bO P q b w) {f:FuncId} {fn:Func} (hf:P.funcs[f]?=some fn) {n:Nat} {l L:List At} {ts:List TV} {ps:List Prop} {r:RV}
  (h:Ul P q C fn n b w.heap.size o l ts=some (ps,r,L,b,w.heap.size)) (hps:bC ps) (hO:Own w b l):Calls P f (ptV b o::ts.map TV.den).toArray w (Wr b w r L):=by
 unfold Ul at h;split at h
 ·rename_i c hb;cases hle:Nat.ble (ts.length+1) fn.ntmps<;>rw[hle]at h
  ·cases h
  ·simp only[cond_true]at h;split at h
   ·rename_i ps' A hrun;split at h
    ·rename_i x L' b' N' hx hrow hb' hN';split at h
     ·rename_i r' hr;cases h;refine sP hf hb hO (Nat.le_of_ble_eq_true hle) fun a w' hH=>(dZ (P:=P) (q:=q) (nt:=fn.ntmps) (C:=C) hm hT hq n c _ A ps .rt a w' _ hrun hps hH fun a w' hA => ?_).1
      exact cK hx hr hA ⟨rfl,hA.wrc (bJ hrow) (eW hb') (eW hN')⟩
     ·cases h
    ·cases h
   ·cases h
 ·cases h
def Xk (P:Program) (ld st:Nat→Option (List At)) (idx:Nat→Option Nat) (gen:Nat→Option Value) (T5:Tab5):EqT:={ qG P with x:={ Ext.none with ld:=ld,st:=st,idx:=idx,gen:=gen,T5:=T5 } }
theorem mG {P:Program} {ld st:Nat→Option (List At)} {idx:Nat→Option Nat} {gen:Nat→Option Value} {T5:Tab5} (h5:PtOk P T5) (base:Nat) (w0:World):bO P (Xk P ld st idx gen T5) base w0 :=
 ⟨(aW P).1,fun w' _=>⟨fun _ _ _ h=>h.elim,fun _ _ _ _ h=>(by cases h),fun _ _ _ _ h=>(by cases h),fun _ _ _ _ _ h=>(by cases h),fun f cs pre j r l hg hp=>⟨(h5 f cs pre j r l hg hp).1,fun args ha b o hj hz _=>(h5 f cs pre j r l hg hp).2 args w' ha b o hj hz⟩,fun _ _ _ _ _ _ _ h=>(by cases h)⟩⟩
def Xm (l0:List At) (o0:Nat) (r:RV) (l1:List At):List CA→Option (List Prop×Nat×RV×List At)
 | [.p l o]=>some ([l=l0,o=o0],0,r,l1)
 | _=>none
def Pa (P:Program) (f:FuncId) (l0:List At) (o0:Nat) (ts:List Value) (r:RV) (l1:List At):Prop:=∀(w:World) (b:Nat),Own w b l0→Calls P f (ptV b o0::ts).toArray w (Wr b w r l1)
theorem Rz {P:Program} {f:FuncId} {l0:List At} {o0:Nat} {r0:RV} {l1:List At} (h:Pa P f l0 o0 [] r0 l1):∀cs pre j r l,Xm l0 o0 r0 l1 cs=some (pre,j,r,l)→bC pre→∀(args:List Value) (w:World),cT w cs args→∀b o,args[j]?=some (.pointer (some ⟨b,o,none⟩))→(∀q,w.frozen? ⟨b,q,none⟩=false) →
  Calls P f args.toArray w (fun e w'=>e=.returned r.den∧WrC w w' b∧w'.rangeAt b 0 (aA l)):=by
 intro cs pre j r l hg hp args w ha b o hj hz;unfold Xm at hg;split at hg
 ·cases hg;obtain⟨rfl,rfl,_⟩:=hp
  match args,ha with
  | [v],ha =>
   obtain⟨⟨b',rfl,h1,h2⟩,_⟩:=ha;cases hj;exact h w b ⟨h1,h2,hz⟩
  | [],ha=>exact ha.elim
  | _::_::_,ha=>exact ha.2.elim
 ·cases hg
end Go.Proofs.YtpjlhhpjpnacmaaGreatDoor.Ex
