/- Pr05 -/
import Derived.OrdersHeld
import Derived.Deep.RegionHeld
import Derived.KernelRfl
import Derived.Deep.DeepCutAuto
import Derived.Test.YtjjnbgoepbiojaaGreatPr04
import Derived.Test.YtjjnbgoepbiojaaGreatPr03
import Derived.Test.YtjjnbgoepbiojaaGreatProg
set_option maxRecDepth 100000
set_option linter.unusedVariables false
set_option linter.unusedSimpArgs false
set_option linter.unnecessarySimpa false
noncomputable section
namespace Go.Proofs.YtjjnbgoepbiojaaGreat
open Go.Proofs.Tryz
section
variable {P:Program} {ops:Array Oper} {Q:Exit→Act→World→Prop} {md:Region.Mode} {S:World→Prop} {L:Nat}
def fA (P:Program) (md:Region.Mode) (ops:Array Oper) (Q:Exit→Act→World→Prop) (S:World→Prop) (L:Nat):Nat→Array Bool→Act→World→Prop
 | 0,got,a,w=>Region.ready md ops got=[]∧Q .normal a w
 | m+1,got,a,w =>
  (Region.ready md ops got=[]→Q .normal a w) ∧
  ∀i∈Region.ready md ops got,wpOp P ops Q i (fun b u=>(i=L∨S u)∧fA P md ops Q S L m (got.setIfInBounds i true) b u) a w
theorem pZ:∀(m:Nat) (got:Array Bool) (a:Act) (w:World),fA P md ops Q S L m got a w→wpAny P md ops Q m got a w
 | 0,_,_,_,h=>h
 | m+1,_,_,_,h=>⟨h.1,fun i hi=>wpOp_mono (fun b u k=>pZ m _ b u k.2) (h.2 i hi)⟩
def MU (md:Region.Mode) (ops:Array Oper) (L i:Nat):Bool :=
 match ops[L]? with
 | some o=>o.after.any fun e=>Region.binds md e&&e.on==i
 | none=>false
theorem CQ {i:Nat} {oi:Oper} {v:Value} (hi:ops[i]?=some oi) (hsel:∀(j:Nat) (o:Oper) cs b,ops[j]?=some o→o.op ≠ .select cs b)
  (hL:MU md ops L i=true) (hQ:∀c a w,Q (.panic c) (a.put oi.dst v) w→Q (.panic c) a w) :
  ∀(m:Nat) (got:Array Bool) (a:Act) (w:World),
   (∀j oj,ops[j]?=some oj→j≠i→got.getD j true=false→(∀e∈oj.after,Region.binds md e=true→e.on≠i)→oi.apart ops oj=true) →
   i∈Region.ready md ops got→YieldsIf P ops S oi v a→S w →
   fA P md ops Q S L m (got.setIfInBounds i true) (a.put oi.dst v) w→fA P md ops Q S L (m+1) got a w:=by
 intro m
 induction m with
 | zero =>
  intro got a w _ hr hy hS H;refine⟨fun h=>(by rw[h]at hr; cases hr),fun j hj => ?_⟩
  by_cases hji:j=i
  ·subst hji; exact hy.wpOp hi hS ⟨.inr hS,H⟩
  ·have:=ready_mono hj hji;rw[H.1]at this;cases this
 | succ m ih =>
  intro got a w hfree hr hy hS H;refine⟨fun h=>(by rw[h]at hr; cases hr),fun j hj => ?_⟩
  by_cases hji:j=i
  ·subst hji; exact hy.wpOp hi hS ⟨.inr hS,H⟩
  ·obtain⟨hun,oj,hoj,hall⟩:=mem_ready.1 hj;have hno:∀e∈oj.after,Region.binds md e=true→e.on≠i:=fun e he hb heq=>by
    have h1:=hall e he hb;have h0:=(mem_ready.1 hr).1;rw[heq]at h1
    rcases Nat.lt_or_ge i got.size with h'|h'
    ·simp[h']at h0 h1; rw[h0]at h1; cases h1
    ·simp[Array.getElem?_eq_none h']at h1
   have hjL:j≠L:=fun e=>by
    subst e;unfold MU at hL;rw[hoj]at hL;obtain⟨x,hx,hx2⟩:=Array.any_eq_true'.1 hL;simp only[Bool.and_eq_true,beq_iff_eq]at hx2;exact hno x hx hx2.1 hx2.2
   have h2:=wpOp_putIf hoj (hfree j oj hoj hji hun hno) (fun cs b=>hsel i oi cs b hi) (fun cs b=>hsel j oj cs b hoj) hQ hy (H.2 j (ready_mono hj hji));have hfree':∀k ok,ops[k]?=some ok→k≠i→(got.setIfInBounds j true).getD k true=false →
     (∀e∈ok.after,Region.binds md e=true→e.on≠i)→oi.apart ops ok=true:=fun k ok hk hki hu hn=>by
    refine hfree k ok hk hki ?_ hn
    by_cases hjk:j=k
    ·subst hjk; exact hun
    ·rw[getD_set_ne true hjk]at hu; exact hu
   refine wpOp_mono (fun b u h3=>⟨h3.2.1,ih (got.setIfInBounds j true) b u hfree' (ready_mono hr (Ne.symm hji)) h3.1 (h3.2.1.resolve_left hjL) ?_⟩) h2;rw[Array.setIfInBounds_comm _ _ hji];exact h3.2.2
theorem aL {i:Nat} {oi:Oper} {v:Value} {m:Nat} {got:Array Bool} {a:Act} {w:World} (hi:ops[i]?=some oi)
  (hs:Region.noSelect ops=true) (hf:Region.free md ops got i=true) (hr:(Region.ready md ops got).contains i=true) (hL:MU md ops L i=true)
  (hQ:∀c a w,Q (.panic c) (a.put oi.dst v) w→Q (.panic c) a w) (hS:S w) (hy:YieldsIf P ops S oi v a)
  (h:fA P md ops Q S L m (got.setIfInBounds i true) (a.put oi.dst v) w):fA P md ops Q S L (m+1) got a w :=
 CQ hi (Region.noSelect_spec hs) hL hQ m got a w (Region.free_spec hi hf) (by simpa using hr) hy hS h
theorem aM {i:Nat} {o:Oper} {m:Nat} {got:Array Bool} {a:Act} {w:World} (hr:Region.ready md ops got=[i]) (ho:ops[i]?=some o)
  (h:∀K:Act→World→Prop,Shut (∀b u,(i=L∨S u)→((i=L∨S u)→fA P md ops Q S L m (got.setIfInBounds i true) b u)→K b u)→if Region.wanted o (yielded ops a.tmps)=true then Oper.wp P o a w K Q else K (a.put o.dst undef) w) :
  fA P md ops Q S L (m+1) got a w :=
 ⟨fun h0=>(by rw[hr]at h0; cases h0),fun j hj=>by
  rw[hr]at hj;obtain rfl:j=i:=by simpa using hj
  exact wpOp_step ho (fun K hK=>h K (fun b u hS hW=>hK b u ⟨hS,hW hS⟩))⟩
theorem cW {got:Array Bool} {a:Act} {w:World} (hr:Region.ready md ops got=[]) (h:Q .normal a w):fA P md ops Q S L 0 got a w:=⟨hr,h⟩
theorem dJ (S:World→Prop) (L:Nat) {id:Nat} {a:Act} {w:World} (hm:P.follows .mixedOrders=true)
  (h:fA P .any ops Q S L ops.size (Array.replicate ops.size false) a w.drew):(Code.region id ops true).wp P Q a w :=
 wp_region_any hm (pZ _ _ _ _ h)
end
theorem kU {P:Program} {ops:Array Oper} {Q:Exit→Act→World→Prop} {md:Region.Mode} {S:World→Prop} {L:Nat} {i j:Nat} {oi oj:Oper} {m:Nat} {got:Array Bool} {a:Act} {w:World} (hr:Region.ready md ops got=[i,j]) (hoi:ops[i]?=some oi) (hoj:ops[j]?=some oj)
  (h1:∀K:Act→World→Prop,Shut (∀b u,(i=L∨S u)→((i=L∨S u)→fA P md ops Q S L m (got.setIfInBounds i true) b u)→K b u)→if Region.wanted oi (yielded ops a.tmps)=true then Oper.wp P oi a w K Q else K (a.put oi.dst undef) w)
  (h2:∀K:Act→World→Prop,Shut (∀b u,(j=L∨S u)→((j=L∨S u)→fA P md ops Q S L m (got.setIfInBounds j true) b u)→K b u)→if Region.wanted oj (yielded ops a.tmps)=true then Oper.wp P oj a w K Q else K (a.put oj.dst undef) w) :
  fA P md ops Q S L (m+1) got a w :=
 ⟨fun h0=>(by rw[hr]at h0; cases h0),fun k hk=>by
  rw[hr]at hk
  rcases List.mem_cons.1 hk with rfl|hk
  ·exact wpOp_step hoi (fun K hK=>h1 K (fun b u hS hW=>hK b u ⟨hS,hW hS⟩))
  ·obtain rfl:k=j:=by simpa using hk
   exact wpOp_step hoj (fun K hK=>h2 K (fun b u hS hW=>hK b u ⟨hS,hW hS⟩))⟩
open Go.RowKit
def FieldIs (f:Int) (F:FC):Prop:=f=1∧F=FP∨f=2∧F=FR
theorem FieldIs.ok {f:Int} {F:FC} (h:FieldIs f F):F.Ok:=by rcases h with⟨_,rfl⟩|⟨_,rfl⟩; exact Wu; exact Wt
theorem FieldIs.root {f:Int} {F:FC} (h:FieldIs f F):∃g,Root F.M g:=by
 rcases h with⟨_,rfl⟩|⟨_,rfl⟩
 ·exact⟨3,by rw[aAv]; exact Fu⟩
 ·exact⟨5,by rw[aAu]; exact DI⟩
def aAw (f:Int) (A:Nat) (c:Int):Prop:=f≠1∧f≠2∧c=1∨∃F,FieldIs f F∧¬A<F.M∧c=21
def Cu (c:Int) (V:Nat) (w:World) (e:Ending) (w':World):Prop :=
 ∃s0 s1 s2 s3:Nat,e=.returned (.tuple #[.agg #[.int .u64 s0,.int .u64 s1,.int .u64 s2,.int .u64 s3],.int .i64 c])∧cK s0 s1 s2 s3∧aD s0 s1 s2 s3=V∧Below w.heap.size w w'
theorem Mk:cK 0 0 0 0:=⟨by omega,by omega,by omega,by omega⟩
theorem KIs.new (w:World) (F:FC) (t:TypeId):KIs (w.alloc (.cells #[.int .u64 F.m0,.int .u64 F.m1,.int .u64 F.m2,.int .u64 F.m3,.int .u64 F.inv,.int .u64 F.s0,.int .u64 F.s1,.int .u64 F.s2,.int .u64 F.s3] t)) w.heap.size F :=
 ⟨by rw[World.cell?_alloc_new]; rfl,by rw[World.cell?_alloc_new]; rfl,by rw[World.cell?_alloc_new]; rfl,by rw[World.cell?_alloc_new]; rfl,by rw[World.cell?_alloc_new]; rfl,by rw[World.cell?_alloc_new]; rfl,by rw[World.cell?_alloc_new]; rfl,by rw[World.cell?_alloc_new]; rfl,by rw[World.cell?_alloc_new]; rfl,by simp⟩
set_option maxHeartbeats 2000000 in
theorem eV (f:Int) (F:FC) (hf:FieldIs f F) (w:World):Calls prog 62 #[.int .i64 f] w fun e w'=>e=.returned (.tuple #[.agg #[.int .u64 F.m0,.int .u64 F.m1,.int .u64 F.m2,.int .u64 F.m3,.int .u64 F.inv,.int .u64 F.s0,.int .u64 F.s1,.int .u64 F.s2,.int .u64 F.s3],.int .i64 0])∧Below w.heap.size w w':=by
 rcases hf with⟨rfl,rfl⟩|⟨rfl,rfl⟩
 ·go_enter func62,ntmps62
  go_wp2_with fail;refine bodyPost_ret (v:=.tuple #[.agg #[.int .u64 FP.m0,.int .u64 FP.m1,.int .u64 FP.m2,.int .u64 FP.m3,.int .u64 FP.inv,.int .u64 FP.s0,.int .u64 FP.s1,.int .u64 FP.s2,.int .u64 FP.s3],.int .i64 0]) (by simp[results,results62,go_sem,FP]) rfl ?_;refine⟨rfl,?_⟩
  repeat (first|exact Below.refl _ _|refine Below.drew ?_|refine Below.alloc ?_ (by first|(simp; done)|(simp; omega)) _|refine Below.setCell ?_ (by simp) _)
 ·go_enter func62,ntmps62
  go_wp2_with fail;refine bodyPost_ret (v:=.tuple #[.agg #[.int .u64 FR.m0,.int .u64 FR.m1,.int .u64 FR.m2,.int .u64 FR.m3,.int .u64 FR.inv,.int .u64 FR.s0,.int .u64 FR.s1,.int .u64 FR.s2,.int .u64 FR.s3],.int .i64 0]) (by simp[results,results62,go_sem,FR]) rfl ?_;refine⟨rfl,?_⟩
  repeat (first|exact Below.refl _ _|refine Below.drew ?_|refine Below.alloc ?_ (by first|(simp; done)|(simp; omega)) _|refine Below.setCell ?_ (by simp) _)
set_option maxHeartbeats 2000000 in
theorem LR (f:Int) (h1:f≠1) (h2:f≠2) (w:World):Calls prog 62 #[.int .i64 f] w fun e w'=>e=.returned (.tuple #[.agg #[.int .u64 0,.int .u64 0,.int .u64 0,.int .u64 0,.int .u64 0,.int .u64 0,.int .u64 0,.int .u64 0,.int .u64 0],.int .i64 1])∧Below w.heap.size w w':=by
 have t1:(f==1)=false:=by simp[h1]
 have t2:(f==2)=false:=by simp[h2]
 go_enter func62,ntmps62
 go_wp2_with fail;refine bodyPost_ret (v:=.tuple #[.agg #[.int .u64 0,.int .u64 0,.int .u64 0,.int .u64 0,.int .u64 0,.int .u64 0,.int .u64 0,.int .u64 0,.int .u64 0],.int .i64 1]) (by simp[results,results62,go_sem]) rfl ?_;refine⟨rfl,?_⟩
 repeat (first|exact Below.refl _ _|refine Below.drew ?_|refine Below.alloc ?_ (by first|(simp; done)|(simp; omega)) _|refine Below.setCell ?_ (by simp) _)
theorem zP (w:World):Calls prog 64 #[.int .i64 1] w fun e w'=>e=.returned (.int .i64 1)∧w'=w:=by
 go_enter func64,ntmps64
 go_wp2_with fail;go_ret;exact⟨rfl,rfl⟩
theorem zO (w:World):Calls prog 64 #[.int .i64 0] w fun e w'=>e=.returned (.int .i64 21)∧w'=w:=by
 go_enter func64,ntmps64
 go_wp2_with fail;go_ret;exact⟨rfl,rfl⟩
set_option maxHeartbeats 2000000 in
theorem Bf (f:Int) (F:FC) (hf:FieldIs f F) (a0 a1 a2 a3 b0 b1 b2 b3:Nat) (ha:cK a0 a1 a2 a3) (hb:cK b0 b1 b2 b3) (la:aD a0 a1 a2 a3<F.M) (lb:aD b0 b1 b2 b3<F.M) (w:World) :
  Calls prog 43 #[.int .i64 f,.agg #[.int .u64 a0,.int .u64 a1,.int .u64 a2,.int .u64 a3],.agg #[.int .u64 b0,.int .u64 b1,.int .u64 b2,.int .u64 b3]] w (Cu 0 ((aD a0 a1 a2 a3+aD b0 b1 b2 b3)%F.M) w):=by
 go_enter func43,ntmps43
 go_wp2_with fail;refine (eV f F hf _).mono ?_
 rintro e w1 ⟨rfl,hbl⟩
 have M1:=((((Mem.nil w).new (w.heap.size) a0 a1 a2 a3 25 (by simp)).new (w.heap.size+1) b0 b1 b2 b3 25 (by simp)).new (w.heap.size+1+1) 0 0 0 0 25 (by simp)).on hbl;clear hbl;have z0:w.heap.size<w1.heap.size:=M1.lt (c0:=a0) (c1:=a1) (c2:=a2) (c3:=a3) (by simp);have z1:w.heap.size+1<w1.heap.size:=M1.lt (c0:=b0) (c1:=b1) (c2:=b2) (c3:=b3) (by simp);have z2:w.heap.size+1+1<w1.heap.size:=M1.lt (c0:=0) (c1:=0) (c2:=0) (c3:=0) (by simp);have HM:=Lib.hid (M1.on ((Below.refl _ _).alloc (Nat.le_refl _) (.cells #[.int .u64 F.m0,.int .u64 F.m1,.int .u64 F.m2,.int .u64 F.m3,.int .u64 F.inv,.int .u64 F.s0,.int .u64 F.s1,.int .u64 F.s2,.int .u64 F.s3] 84)));have KK:=Lib.hid (KIs.new w1 F 84);have kr:=M1.row (b:=w.heap.size) (c0:=a0) (c1:=a1) (c2:=a2) (c3:=a3) (by simp);have x0:=kr.c0; have x1:=kr.c1; have x2:=kr.c2; have x3:=kr.c3;clear kr;have xl:=M1.lt (b:=w.heap.size) (c0:=a0) (c1:=a1) (c2:=a2) (c3:=a3) (by simp);go_wp2_with fail;refine (dI F hf.ok w1.heap.size a0 a1 a2 a3 ha _ KK.out).mono ?_
 rintro e w2 ⟨he,hbl⟩
 rw[show wU (aD a0 a1 a2 a3) F.M=true from decide_eq_true la]at he;subst he;have HM':=Lib.hid (HM.out.on hbl);have KK':=Lib.hid (KK.out.same hbl);have zk:=KK'.out.lt;clear HM KK hbl M1;have HM:=HM';have KK:=KK';clear HM' KK';clear x0 x1 x2 x3 xl zk;have kr:=HM.out.row (b:=w.heap.size+1) (c0:=b0) (c1:=b1) (c2:=b2) (c3:=b3) (by simp);have x0:=kr.c0; have x1:=kr.c1; have x2:=kr.c2; have x3:=kr.c3;clear kr;have xl:=HM.out.lt (b:=w.heap.size+1) (c0:=b0) (c1:=b1) (c2:=b2) (c3:=b3) (by simp);go_wp2_with fail;refine (dI F hf.ok w1.heap.size b0 b1 b2 b3 hb _ KK.out).mono ?_
 rintro e w3 ⟨he,hbl⟩
 rw[show wU (aD b0 b1 b2 b3) F.M=true from decide_eq_true lb]at he;subst he;have HM':=Lib.hid (HM.out.on hbl);have KK':=Lib.hid (KK.out.same hbl);have zk:=KK'.out.lt;clear HM KK hbl;have HM:=HM';have KK:=KK';clear HM' KK';clear x0 x1 x2 x3 xl zk;have kr:=HM.out.row (b:=w.heap.size) (c0:=a0) (c1:=a1) (c2:=a2) (c3:=a3) (by simp);have x0:=kr.c0; have x1:=kr.c1; have x2:=kr.c2; have x3:=kr.c3;clear kr;have xl:=HM.out.lt (b:=w.heap.size) (c0:=a0) (c1:=a1) (c2:=a2) (c3:=a3) (by simp);have kr:=HM.out.row (b:=w.heap.size+1) (c0:=b0) (c1:=b1) (c2:=b2) (c3:=b3) (by simp);have u0:=kr.c0; have u1:=kr.c1; have u2:=kr.c2; have u3:=kr.c3;clear kr;have ul:=HM.out.lt (b:=w.heap.size+1) (c0:=b0) (c1:=b1) (c2:=b2) (c3:=b3) (by simp);go_wp2_with fail;refine (sG F hf.ok w1.heap.size a0 a1 a2 a3 b0 b1 b2 b3 ha hb la lb _ KK.out).mono ?_
 rintro e w4 ⟨s0,s1,s2,s3,rfl,hs,hv,hbl⟩
 have HV:=Lib.hid hv;clear hv;have HM':=Lib.hid (HM.out.on hbl);have KK':=Lib.hid (KK.out.same hbl);have zk:=KK'.out.lt;clear HM KK hbl;have HM:=HM';have KK:=KK';clear HM' KK';clear x0 x1 x2 x3 xl u0 u1 u2 u3 ul zk;have kr:=HM.out.row (b:=w.heap.size+1+1) (c0:=0) (c1:=0) (c2:=0) (c3:=0) (by simp);have y0:=kr.c0; have y1:=kr.c1; have y2:=kr.c2; have y3:=kr.c3; have yf:=kr.fr;clear kr;have yl:=HM.out.lt (b:=w.heap.size+1+1) (c0:=0) (c1:=0) (c2:=0) (c3:=0) (by simp);go_wp2_with fail;refine bodyPost_ret (v:=.tuple #[.agg #[.int .u64 s0,.int .u64 s1,.int .u64 s2,.int .u64 s3],.int .i64 0]) (by simp[results,results43,go_sem, *]) rfl ?_;refine⟨_,_,_,_,rfl,hs,HV.out,?_⟩;exact bZ HM.out.1 (by omega) _ _ _ _
set_option maxHeartbeats 2000000 in
theorem Az (f:Int) (F:FC) (hf:FieldIs f F) (a0 a1 a2 a3 b0 b1 b2 b3:Nat) (ha:cK a0 a1 a2 a3) (hb:cK b0 b1 b2 b3) (la:aD a0 a1 a2 a3<F.M) (lb:aD b0 b1 b2 b3<F.M) (w:World) :
  Calls prog 47 #[.int .i64 f,.agg #[.int .u64 a0,.int .u64 a1,.int .u64 a2,.int .u64 a3],.agg #[.int .u64 b0,.int .u64 b1,.int .u64 b2,.int .u64 b3]] w (Cu 0 ((aD a0 a1 a2 a3+F.M-aD b0 b1 b2 b3)%F.M) w):=by
 go_enter func47,ntmps47
 go_wp2_with fail;refine (eV f F hf _).mono ?_
 rintro e w1 ⟨rfl,hbl⟩
 have M1:=((((Mem.nil w).new (w.heap.size) a0 a1 a2 a3 25 (by simp)).new (w.heap.size+1) b0 b1 b2 b3 25 (by simp)).new (w.heap.size+1+1) 0 0 0 0 25 (by simp)).on hbl;clear hbl;have z0:w.heap.size<w1.heap.size:=M1.lt (c0:=a0) (c1:=a1) (c2:=a2) (c3:=a3) (by simp);have z1:w.heap.size+1<w1.heap.size:=M1.lt (c0:=b0) (c1:=b1) (c2:=b2) (c3:=b3) (by simp);have z2:w.heap.size+1+1<w1.heap.size:=M1.lt (c0:=0) (c1:=0) (c2:=0) (c3:=0) (by simp);have HM:=Lib.hid (M1.on ((Below.refl _ _).alloc (Nat.le_refl _) (.cells #[.int .u64 F.m0,.int .u64 F.m1,.int .u64 F.m2,.int .u64 F.m3,.int .u64 F.inv,.int .u64 F.s0,.int .u64 F.s1,.int .u64 F.s2,.int .u64 F.s3] 84)));have KK:=Lib.hid (KIs.new w1 F 84);have kr:=M1.row (b:=w.heap.size) (c0:=a0) (c1:=a1) (c2:=a2) (c3:=a3) (by simp);have x0:=kr.c0; have x1:=kr.c1; have x2:=kr.c2; have x3:=kr.c3;clear kr;have xl:=M1.lt (b:=w.heap.size) (c0:=a0) (c1:=a1) (c2:=a2) (c3:=a3) (by simp);go_wp2_with fail;refine (dI F hf.ok w1.heap.size a0 a1 a2 a3 ha _ KK.out).mono ?_
 rintro e w2 ⟨he,hbl⟩
 rw[show wU (aD a0 a1 a2 a3) F.M=true from decide_eq_true la]at he;subst he;have HM':=Lib.hid (HM.out.on hbl);have KK':=Lib.hid (KK.out.same hbl);have zk:=KK'.out.lt;clear HM KK hbl M1;have HM:=HM';have KK:=KK';clear HM' KK';clear x0 x1 x2 x3 xl zk;have kr:=HM.out.row (b:=w.heap.size+1) (c0:=b0) (c1:=b1) (c2:=b2) (c3:=b3) (by simp);have x0:=kr.c0; have x1:=kr.c1; have x2:=kr.c2; have x3:=kr.c3;clear kr;have xl:=HM.out.lt (b:=w.heap.size+1) (c0:=b0) (c1:=b1) (c2:=b2) (c3:=b3) (by simp);go_wp2_with fail;refine (dI F hf.ok w1.heap.size b0 b1 b2 b3 hb _ KK.out).mono ?_
 rintro e w3 ⟨he,hbl⟩
 rw[show wU (aD b0 b1 b2 b3) F.M=true from decide_eq_true lb]at he;subst he;have HM':=Lib.hid (HM.out.on hbl);have KK':=Lib.hid (KK.out.same hbl);have zk:=KK'.out.lt;clear HM KK hbl;have HM:=HM';have KK:=KK';clear HM' KK';clear x0 x1 x2 x3 xl zk;have kr:=HM.out.row (b:=w.heap.size) (c0:=a0) (c1:=a1) (c2:=a2) (c3:=a3) (by simp);have x0:=kr.c0; have x1:=kr.c1; have x2:=kr.c2; have x3:=kr.c3;clear kr;have xl:=HM.out.lt (b:=w.heap.size) (c0:=a0) (c1:=a1) (c2:=a2) (c3:=a3) (by simp);have kr:=HM.out.row (b:=w.heap.size+1) (c0:=b0) (c1:=b1) (c2:=b2) (c3:=b3) (by simp);have u0:=kr.c0; have u1:=kr.c1; have u2:=kr.c2; have u3:=kr.c3;clear kr;have ul:=HM.out.lt (b:=w.heap.size+1) (c0:=b0) (c1:=b1) (c2:=b2) (c3:=b3) (by simp);go_wp2_with fail;refine (AM F hf.ok w1.heap.size a0 a1 a2 a3 b0 b1 b2 b3 ha hb la lb _ KK.out).mono ?_
 rintro e w4 ⟨s0,s1,s2,s3,rfl,hs,hv,hbl⟩
 have HV:=Lib.hid hv;clear hv;have HM':=Lib.hid (HM.out.on hbl);have KK':=Lib.hid (KK.out.same hbl);have zk:=KK'.out.lt;clear HM KK hbl;have HM:=HM';have KK:=KK';clear HM' KK';clear x0 x1 x2 x3 xl u0 u1 u2 u3 ul zk;have kr:=HM.out.row (b:=w.heap.size+1+1) (c0:=0) (c1:=0) (c2:=0) (c3:=0) (by simp);have y0:=kr.c0; have y1:=kr.c1; have y2:=kr.c2; have y3:=kr.c3; have yf:=kr.fr;clear kr;have yl:=HM.out.lt (b:=w.heap.size+1+1) (c0:=0) (c1:=0) (c2:=0) (c3:=0) (by simp);go_wp2_with fail;refine bodyPost_ret (v:=.tuple #[.agg #[.int .u64 s0,.int .u64 s1,.int .u64 s2,.int .u64 s3],.int .i64 0]) (by simp[results,results47,go_sem, *]) rfl ?_;refine⟨_,_,_,_,rfl,hs,HV.out,?_⟩;exact bZ HM.out.1 (by omega) _ _ _ _
set_option maxHeartbeats 2000000 in
theorem Ba (f:Int) (F:FC) (hf:FieldIs f F) (a0 a1 a2 a3 b0 b1 b2 b3:Nat) (ha:cK a0 a1 a2 a3) (hb:cK b0 b1 b2 b3) (la:aD a0 a1 a2 a3<F.M) (lb:aD b0 b1 b2 b3<F.M) (w:World) :
  Calls prog 51 #[.int .i64 f,.agg #[.int .u64 a0,.int .u64 a1,.int .u64 a2,.int .u64 a3],.agg #[.int .u64 b0,.int .u64 b1,.int .u64 b2,.int .u64 b3]] w (Cu 0 (aD a0 a1 a2 a3*aD b0 b1 b2 b3%F.M) w):=by
 go_enter func51,ntmps51
 go_wp2_with fail;refine (eV f F hf _).mono ?_
 rintro e w1 ⟨rfl,hbl⟩
 have M1:=((((Mem.nil w).new (w.heap.size) a0 a1 a2 a3 25 (by simp)).new (w.heap.size+1) b0 b1 b2 b3 25 (by simp)).new (w.heap.size+1+1) 0 0 0 0 25 (by simp)).on hbl;clear hbl;have z0:w.heap.size<w1.heap.size:=M1.lt (c0:=a0) (c1:=a1) (c2:=a2) (c3:=a3) (by simp);have z1:w.heap.size+1<w1.heap.size:=M1.lt (c0:=b0) (c1:=b1) (c2:=b2) (c3:=b3) (by simp);have z2:w.heap.size+1+1<w1.heap.size:=M1.lt (c0:=0) (c1:=0) (c2:=0) (c3:=0) (by simp);have HM:=Lib.hid (M1.on ((Below.refl _ _).alloc (Nat.le_refl _) (.cells #[.int .u64 F.m0,.int .u64 F.m1,.int .u64 F.m2,.int .u64 F.m3,.int .u64 F.inv,.int .u64 F.s0,.int .u64 F.s1,.int .u64 F.s2,.int .u64 F.s3] 84)));have KK:=Lib.hid (KIs.new w1 F 84);have kr:=M1.row (b:=w.heap.size) (c0:=a0) (c1:=a1) (c2:=a2) (c3:=a3) (by simp);have x0:=kr.c0; have x1:=kr.c1; have x2:=kr.c2; have x3:=kr.c3;clear kr;have xl:=M1.lt (b:=w.heap.size) (c0:=a0) (c1:=a1) (c2:=a2) (c3:=a3) (by simp);go_wp2_with fail;refine (dI F hf.ok w1.heap.size a0 a1 a2 a3 ha _ KK.out).mono ?_
 rintro e w2 ⟨he,hbl⟩
 rw[show wU (aD a0 a1 a2 a3) F.M=true from decide_eq_true la]at he;subst he;have HM':=Lib.hid (HM.out.on hbl);have KK':=Lib.hid (KK.out.same hbl);have zk:=KK'.out.lt;clear HM KK hbl M1;have HM:=HM';have KK:=KK';clear HM' KK';clear x0 x1 x2 x3 xl zk;have kr:=HM.out.row (b:=w.heap.size+1) (c0:=b0) (c1:=b1) (c2:=b2) (c3:=b3) (by simp);have x0:=kr.c0; have x1:=kr.c1; have x2:=kr.c2; have x3:=kr.c3;clear kr;have xl:=HM.out.lt (b:=w.heap.size+1) (c0:=b0) (c1:=b1) (c2:=b2) (c3:=b3) (by simp);go_wp2_with fail;refine (dI F hf.ok w1.heap.size b0 b1 b2 b3 hb _ KK.out).mono ?_
 rintro e w3 ⟨he,hbl⟩
 rw[show wU (aD b0 b1 b2 b3) F.M=true from decide_eq_true lb]at he;subst he;have HM':=Lib.hid (HM.out.on hbl);have KK':=Lib.hid (KK.out.same hbl);have zk:=KK'.out.lt;clear HM KK hbl;have HM:=HM';have KK:=KK';clear HM' KK';clear x0 x1 x2 x3 xl zk;have kr:=HM.out.row (b:=w.heap.size) (c0:=a0) (c1:=a1) (c2:=a2) (c3:=a3) (by simp);have x0:=kr.c0; have x1:=kr.c1; have x2:=kr.c2; have x3:=kr.c3;clear kr;have xl:=HM.out.lt (b:=w.heap.size) (c0:=a0) (c1:=a1) (c2:=a2) (c3:=a3) (by simp);have kr:=HM.out.row (b:=w.heap.size+1) (c0:=b0) (c1:=b1) (c2:=b2) (c3:=b3) (by simp);have u0:=kr.c0; have u1:=kr.c1; have u2:=kr.c2; have u3:=kr.c3;clear kr;have ul:=HM.out.lt (b:=w.heap.size+1) (c0:=b0) (c1:=b1) (c2:=b2) (c3:=b3) (by simp);go_wp2_with fail;refine (uH F hf.ok w1.heap.size a0 a1 a2 a3 b0 b1 b2 b3 ha hb lb _ KK.out).mono ?_
 rintro e w4 ⟨s0,s1,s2,s3,rfl,hs,hv,hbl⟩
 have HV:=Lib.hid hv;clear hv;have HM':=Lib.hid (HM.out.on hbl);have KK':=Lib.hid (KK.out.same hbl);have zk:=KK'.out.lt;clear HM KK hbl;have HM:=HM';have KK:=KK';clear HM' KK';clear x0 x1 x2 x3 xl u0 u1 u2 u3 ul zk;have kr:=HM.out.row (b:=w.heap.size+1+1) (c0:=0) (c1:=0) (c2:=0) (c3:=0) (by simp);have y0:=kr.c0; have y1:=kr.c1; have y2:=kr.c2; have y3:=kr.c3; have yf:=kr.fr;clear kr;have yl:=HM.out.lt (b:=w.heap.size+1+1) (c0:=0) (c1:=0) (c2:=0) (c3:=0) (by simp);go_wp2_with fail;refine bodyPost_ret (v:=.tuple #[.agg #[.int .u64 s0,.int .u64 s1,.int .u64 s2,.int .u64 s3],.int .i64 0]) (by simp[results,results51,go_sem, *]) rfl ?_;refine⟨_,_,_,_,rfl,hs,HV.out,?_⟩;exact bZ HM.out.1 (by omega) _ _ _ _
set_option maxHeartbeats 2000000 in
theorem FA (f c:Int) (a0 a1 a2 a3:Nat) (ha:cK a0 a1 a2 a3) (h:aAw f (aD a0 a1 a2 a3) c) (w:World) :
  Calls prog 70 #[.int .i64 f,.agg #[.int .u64 a0,.int .u64 a1,.int .u64 a2,.int .u64 a3]] w fun e w'=>e=.returned (.int .i64 c)∧Below w.heap.size w w':=by
 rcases h with⟨h1,h2,rfl⟩|⟨F,hf,la,rfl⟩
 ·go_enter func70,ntmps70
  go_wp2_with fail;refine (LR f h1 h2 _).mono ?_
  rintro e w1 ⟨rfl,hbl⟩
  have M1:=((Mem.nil w).new (w.heap.size) a0 a1 a2 a3 25 (by simp)).on hbl;clear hbl;have z0:w.heap.size<w1.heap.size:=M1.lt (c0:=a0) (c1:=a1) (c2:=a2) (c3:=a3) (by simp);have HM:=Lib.hid (M1.on ((Below.refl _ _).alloc (Nat.le_refl _) (.cells #[.int .u64 0,.int .u64 0,.int .u64 0,.int .u64 0,.int .u64 0,.int .u64 0,.int .u64 0,.int .u64 0,.int .u64 0] 84)));go_wp2_with fail;refine (zP _).mono ?_
  rintro e w2 ⟨rfl,rfl⟩
  go_wp2_with fail;refine bodyPost_ret (v:=.int .i64 1) (by simp[results,results70,go_sem, *]) rfl ?_;exact⟨rfl,HM.out.1⟩
 ·go_enter func70,ntmps70
  go_wp2_with fail;refine (eV f F hf _).mono ?_
  rintro e w1 ⟨rfl,hbl⟩
  have M1:=((Mem.nil w).new (w.heap.size) a0 a1 a2 a3 25 (by simp)).on hbl;clear hbl;have z0:w.heap.size<w1.heap.size:=M1.lt (c0:=a0) (c1:=a1) (c2:=a2) (c3:=a3) (by simp);have HM:=Lib.hid (M1.on ((Below.refl _ _).alloc (Nat.le_refl _) (.cells #[.int .u64 F.m0,.int .u64 F.m1,.int .u64 F.m2,.int .u64 F.m3,.int .u64 F.inv,.int .u64 F.s0,.int .u64 F.s1,.int .u64 F.s2,.int .u64 F.s3] 84)));have KK:=Lib.hid (KIs.new w1 F 84);have kr:=M1.row (b:=w.heap.size) (c0:=a0) (c1:=a1) (c2:=a2) (c3:=a3) (by simp);have x0:=kr.c0; have x1:=kr.c1; have x2:=kr.c2; have x3:=kr.c3;clear kr;have xl:=M1.lt (b:=w.heap.size) (c0:=a0) (c1:=a1) (c2:=a2) (c3:=a3) (by simp);go_wp2_with fail;refine (dI F hf.ok w1.heap.size a0 a1 a2 a3 ha _ KK.out).mono ?_
  rintro e w2 ⟨he,hbl⟩
  rw[show wU (aD a0 a1 a2 a3) F.M=false from decide_eq_false la]at he;subst he;have HM':=Lib.hid (HM.out.on hbl);have KK':=Lib.hid (KK.out.same hbl);have zk:=KK'.out.lt;clear HM KK hbl M1;have HM:=HM';have KK:=KK';clear HM' KK';clear x0 x1 x2 x3 xl zk;go_wp2_with fail;refine (zO _).mono ?_
  rintro e w3 ⟨rfl,rfl⟩
  go_wp2_with fail;refine bodyPost_ret (v:=.int .i64 21) (by simp[results,results70,go_sem, *]) rfl ?_;exact⟨rfl,HM.out.1⟩
set_option maxHeartbeats 2000000 in
theorem LL (f:Int) (F:FC) (hf:FieldIs f F) (a0 a1 a2 a3:Nat) (ha:cK a0 a1 a2 a3) (la:aD a0 a1 a2 a3<F.M) (w:World) :
  Calls prog 70 #[.int .i64 f,.agg #[.int .u64 a0,.int .u64 a1,.int .u64 a2,.int .u64 a3]] w (fun e w'=>e=.returned (.int .i64 0)∧Below w.heap.size w w'):=by
 go_enter func70,ntmps70
 go_wp2_with fail;refine (eV f F hf _).mono ?_
 rintro e w1 ⟨rfl,hbl⟩
 have M1:=((Mem.nil w).new (w.heap.size) a0 a1 a2 a3 25 (by simp)).on hbl;clear hbl;have z0:w.heap.size<w1.heap.size:=M1.lt (c0:=a0) (c1:=a1) (c2:=a2) (c3:=a3) (by simp);have HM:=Lib.hid (M1.on ((Below.refl _ _).alloc (Nat.le_refl _) (.cells #[.int .u64 F.m0,.int .u64 F.m1,.int .u64 F.m2,.int .u64 F.m3,.int .u64 F.inv,.int .u64 F.s0,.int .u64 F.s1,.int .u64 F.s2,.int .u64 F.s3] 84)));have KK:=Lib.hid (KIs.new w1 F 84);have kr:=M1.row (b:=w.heap.size) (c0:=a0) (c1:=a1) (c2:=a2) (c3:=a3) (by simp);have x0:=kr.c0; have x1:=kr.c1; have x2:=kr.c2; have x3:=kr.c3;clear kr;have xl:=M1.lt (b:=w.heap.size) (c0:=a0) (c1:=a1) (c2:=a2) (c3:=a3) (by simp);go_wp2_with fail;refine (dI F hf.ok w1.heap.size a0 a1 a2 a3 ha _ KK.out).mono ?_
 rintro e w2 ⟨he,hbl⟩
 rw[show wU (aD a0 a1 a2 a3) F.M=true from decide_eq_true la]at he;subst he;have HM':=Lib.hid (HM.out.on hbl);have KK':=Lib.hid (KK.out.same hbl);have zk:=KK'.out.lt;clear HM KK hbl M1;have HM:=HM';have KK:=KK';clear HM' KK';clear x0 x1 x2 x3 xl zk;go_wp2_with fail;go_ret;exact⟨rfl,HM.out.1⟩
set_option maxHeartbeats 2000000 in
theorem uN (f:Int) (F:FC) (hf:FieldIs f F) (w:World):Calls prog 89 #[.int .i64 f] w fun e w'=>e=.returned (.agg #[.int .u64 F.m0,.int .u64 F.m1,.int .u64 F.m2,.int .u64 F.m3])∧Below w.heap.size w w':=by
 go_enter func89,ntmps89
 go_wp2_with fail;refine (eV f F hf _).mono ?_
 rintro e w1 ⟨rfl,hbl⟩
 have M1:=((Mem.nil w).new (w.heap.size) 0 0 0 0 66 (by simp)).on hbl;clear hbl;have z0:w.heap.size<w1.heap.size:=M1.lt (c0:=0) (c1:=0) (c2:=0) (c3:=0) (by simp);have HM:=Lib.hid (M1.on ((Below.refl _ _).alloc (Nat.le_refl _) (.cells #[.int .u64 F.m0,.int .u64 F.m1,.int .u64 F.m2,.int .u64 F.m3,.int .u64 F.inv,.int .u64 F.s0,.int .u64 F.s1,.int .u64 F.s2,.int .u64 F.s3] 84)));have KK:=Lib.hid (KIs.new w1 F 84);have k0:=KK.out.k0; have k1:=KK.out.k1; have k2:=KK.out.k2; have k3:=KK.out.k3;have kr:=M1.row (b:=w.heap.size) (c0:=0) (c1:=0) (c2:=0) (c3:=0) (by simp);have y0:=kr.c0; have y1:=kr.c1; have y2:=kr.c2; have y3:=kr.c3; have yf:=kr.fr;clear kr;have yl:=M1.lt (b:=w.heap.size) (c0:=0) (c1:=0) (c2:=0) (c3:=0) (by simp);go_wp2_with fail;refine bodyPost_ret (v:=.agg #[.int .u64 F.m0,.int .u64 F.m1,.int .u64 F.m2,.int .u64 F.m3]) (by simp[results,results89,go_sem, *]) rfl ?_;refine⟨rfl,?_⟩
 repeat (first|exact M1.1|exact HM.out.1|refine Below.alloc ?_ (by first|(simp; done)|(simp; omega)) _|refine Below.setCell ?_ (by first|(simp; done)|(simp; omega)) _)
set_option maxHeartbeats 2000000 in
theorem Be (f:Int) (F:FC) (hf:FieldIs f F) (a0 a1 a2 a3 b0 b1 b2 b3:Nat) (ha:cK a0 a1 a2 a3) (hb:cK b0 b1 b2 b3) (la:aD a0 a1 a2 a3<F.M) (lb:aD b0 b1 b2 b3<F.M) (hz:aD b0 b1 b2 b3≠0) (w:World) :
  Calls prog 111 #[.int .i64 f,.agg #[.int .u64 a0,.int .u64 a1,.int .u64 a2,.int .u64 a3],.agg #[.int .u64 b0,.int .u64 b1,.int .u64 b2,.int .u64 b3]] w (Cu 0 (aD a0 a1 a2 a3*(aD b0 b1 b2 b3^(F.M-2))%F.M) w):=by
 have HE:=Lib.hid (show ∀w,(Op.equalIn 10000 25 (.agg #[.int .u64 b0,.int .u64 b1,.int .u64 b2,.int .u64 b3]) (.agg #[.int .u64 0,.int .u64 0,.int .u64 0,.int .u64 0])).run prog w=.ok false w from fun w=>by
  have h:=ST 9998 b0 b1 b2 b3 0 0 0 0 w;have q:SU b0 b1 b2 b3 0 0 0 0=false:=by
   cases q:SU b0 b1 b2 b3 0 0 0 0
   ·rfl
   ·exact absurd (((xT hb Mk).1 q).trans rfl) hz
  rw[q]at h;exact h)
 have hG:=SX;clear hz
 go_enter func111,ntmps111
 go_wp2_with fail;refine (eV f F hf _).mono ?_
 rintro e w1 ⟨rfl,hbl⟩
 have M1:=((((Mem.nil w).new (w.heap.size) a0 a1 a2 a3 25 (by simp)).new (w.heap.size+1) b0 b1 b2 b3 25 (by simp)).new (w.heap.size+1+1) 0 0 0 0 25 (by simp)).on hbl;clear hbl;have z0:w.heap.size<w1.heap.size:=M1.lt (c0:=a0) (c1:=a1) (c2:=a2) (c3:=a3) (by simp);have z1:w.heap.size+1<w1.heap.size:=M1.lt (c0:=b0) (c1:=b1) (c2:=b2) (c3:=b3) (by simp);have z2:w.heap.size+1+1<w1.heap.size:=M1.lt (c0:=0) (c1:=0) (c2:=0) (c3:=0) (by simp);have HM:=Lib.hid (M1.on ((Below.refl _ _).alloc (Nat.le_refl _) (.cells #[.int .u64 F.m0,.int .u64 F.m1,.int .u64 F.m2,.int .u64 F.m3,.int .u64 F.inv,.int .u64 F.s0,.int .u64 F.s1,.int .u64 F.s2,.int .u64 F.s3] 84)));have KK:=Lib.hid (KIs.new w1 F 84);have kr:=M1.row (b:=w.heap.size) (c0:=a0) (c1:=a1) (c2:=a2) (c3:=a3) (by simp);have x0:=kr.c0; have x1:=kr.c1; have x2:=kr.c2; have x3:=kr.c3;clear kr;have xl:=M1.lt (b:=w.heap.size) (c0:=a0) (c1:=a1) (c2:=a2) (c3:=a3) (by simp);go_wp2_with fail;refine (dI F hf.ok w1.heap.size a0 a1 a2 a3 ha _ KK.out).mono ?_
 rintro e w2 ⟨he,hbl⟩
 rw[show wU (aD a0 a1 a2 a3) F.M=true from decide_eq_true la]at he;subst he;have HM':=Lib.hid (HM.out.on hbl);have KK':=Lib.hid (KK.out.same hbl);have zk:=KK'.out.lt;clear HM KK hbl M1;have HM:=HM';have KK:=KK';clear HM' KK';clear x0 x1 x2 x3 xl zk;have kr:=HM.out.row (b:=w.heap.size+1) (c0:=b0) (c1:=b1) (c2:=b2) (c3:=b3) (by simp);have x0:=kr.c0; have x1:=kr.c1; have x2:=kr.c2; have x3:=kr.c3;clear kr;have xl:=HM.out.lt (b:=w.heap.size+1) (c0:=b0) (c1:=b1) (c2:=b2) (c3:=b3) (by simp);go_wp2_with fail;refine (dI F hf.ok w1.heap.size b0 b1 b2 b3 hb _ KK.out).mono ?_
 rintro e w3 ⟨he,hbl⟩
 rw[show wU (aD b0 b1 b2 b3) F.M=true from decide_eq_true lb]at he;subst he;have HM':=Lib.hid (HM.out.on hbl);have KK':=Lib.hid (KK.out.same hbl);have zk:=KK'.out.lt;clear HM KK hbl;have HM:=HM';have KK:=KK';clear HM' KK';clear x0 x1 x2 x3 xl zk;have kr:=HM.out.row (b:=w.heap.size+1) (c0:=b0) (c1:=b1) (c2:=b2) (c3:=b3) (by simp);have u0:=kr.c0; have u1:=kr.c1; have u2:=kr.c2; have u3:=kr.c3;clear kr;have ul:=HM.out.lt (b:=w.heap.size+1) (c0:=b0) (c1:=b1) (c2:=b2) (c3:=b3) (by simp);have hE:=HE.out;go_wp2_with fail;clear u0 u1 u2 u3 ul hE;refine dJ (fun wx=>Mem w wx [(w.heap.size+1,b0,b1,b2,b3),(w.heap.size,a0,a1,a2,a3)]) 6 (by kernel_rfl) ?_;have HM':=Lib.hid (HM.out.drewN 1);have KK':=Lib.hid (KK.out.drewN 1);clear HM KK;have HM:=HM';have KK:=KK';clear HM' KK';have HS:=HM.out.sub (rs':=[(w.heap.size+1,b0,b1,b2,b3),(w.heap.size,a0,a1,a2,a3)]) (by simp);refine aL (i:=0) (v:=.agg #[.int .u64 b0,.int .u64 b1,.int .u64 b2,.int .u64 b3]) rfl (by kernel_rfl) (by kernel_rfl) (by kernel_rfl) (by kernel_rfl) (fun _ _ _ h=>h) HS (Or.inl ⟨by kernel_rfl,fun wx hx => ?_⟩) ?_
 ·have kr:=hx.row (b:=w.heap.size+1) (c0:=b0) (c1:=b1) (c2:=b2) (c3:=b3) (by simp);have x0:=kr.c0; have x1:=kr.c1; have x2:=kr.c2; have x3:=kr.c3;clear kr HS hx;go_simp
 simp only[Act.put,List.setIfInBounds_toArray,List.set_cons_zero,List.set_cons_succ];refine aL (i:=3) (v:=.agg #[.int .u64 a0,.int .u64 a1,.int .u64 a2,.int .u64 a3]) rfl (by kernel_rfl) (by kernel_rfl) (by kernel_rfl) (by kernel_rfl) (fun _ _ _ h=>h) HS (Or.inl ⟨by kernel_rfl,fun wx hx => ?_⟩) ?_
 ·have kr:=hx.row (b:=w.heap.size) (c0:=a0) (c1:=a1) (c2:=a2) (c3:=a3) (by simp);have x0:=kr.c0; have x1:=kr.c1; have x2:=kr.c2; have x3:=kr.c3;clear kr HS hx;go_simp
 simp only[Act.put,List.setIfInBounds_toArray,List.set_cons_zero,List.set_cons_succ];clear HS;refine aM (i:=1) (by kernel_rfl) rfl (fun K hK => ?_);go_simp;refine (iJ F hf.ok w1.heap.size b0 b1 b2 b3 hb _ KK.out).mono ?_
 rintro e w4 ⟨i0,i1,i2,i3,rfl,hi,hv,hbl⟩
 have HVi:=Lib.hid hv;clear hv;have HM':=Lib.hid (HM.out.on hbl);have KK':=Lib.hid (KK.out.same hbl);have zk_w4:=KK'.out.lt;clear HM KK hbl;have HM:=HM';have KK:=KK';clear HM' KK';have HS:=HM.out.sub (rs':=[(w.heap.size+1,b0,b1,b2,b3),(w.heap.size,a0,a1,a2,a3)]) (by simp);refine hK.out _ _ (Or.inr HS) (fun _ => ?_);clear hK K;clear HS;refine aM (i:=2) (by kernel_rfl) rfl (fun K hK => ?_);go_simp;refine (tB F hf.ok (aD b0 b1 b2 b3) w1.heap.size i0 i1 i2 i3 hi HVi.out _ KK.out).mono ?_
 rintro e w5 ⟨j0,j1,j2,j3,rfl,hj,hv,hbl⟩
 have HVj:=Lib.hid hv;clear hv;have HM':=Lib.hid (HM.out.on hbl);have KK':=Lib.hid (KK.out.same hbl);have zk_w5:=KK'.out.lt;clear HM KK hbl;have HM:=HM';have KK:=KK';clear HM' KK';have HS:=HM.out.sub (rs':=[(w.heap.size+1,b0,b1,b2,b3),(w.heap.size,a0,a1,a2,a3)]) (by simp);refine hK.out _ _ (Or.inr HS) (fun _ => ?_);clear hK K;clear HS;refine aM (i:=4) (by kernel_rfl) rfl (fun K hK => ?_);go_simp;refine (eN F hf.ok w1.heap.size j0 j1 j2 j3 a0 a1 a2 a3 hj ha la _ KK.out).mono ?_
 rintro e w6 ⟨s0,s1,s2,s3,rfl,hs,hv,hbl⟩
 have HVs:=Lib.hid (show aD s0 s1 s2 s3=aD a0 a1 a2 a3*(aD b0 b1 b2 b3^(F.M-2))%F.M by rw[hv,HVj.out,sW hf.ok,Nat.mul_comm]);clear hv;have HM':=Lib.hid (HM.out.on hbl);have KK':=Lib.hid (KK.out.same hbl);have zk_w6:=KK'.out.lt;clear HM KK hbl;have HM:=HM';have KK:=KK';clear HM' KK';have HS:=HM.out.sub (rs':=[(w.heap.size+1,b0,b1,b2,b3),(w.heap.size,a0,a1,a2,a3)]) (by simp);refine hK.out _ _ (Or.inr HS) (fun _ => ?_);clear hK K;clear HS;have kr:=HM.out.row (b:=w.heap.size+1+1) (c0:=0) (c1:=0) (c2:=0) (c3:=0) (by simp);have y0:=kr.c0; have y1:=kr.c1; have y2:=kr.c2; have y3:=kr.c3; have yf:=kr.fr;clear kr;have yl:=HM.out.lt (b:=w.heap.size+1+1) (c0:=0) (c1:=0) (c2:=0) (c3:=0) (by simp);refine aM (i:=5) (by kernel_rfl) rfl (fun K hK => ?_);go_simp;have HM':=Lib.hid ((HM.out.sub (rs':=[(w.heap.size+1+1,0,0,0,0),(w.heap.size+1,b0,b1,b2,b3),(w.heap.size,a0,a1,a2,a3)]) (by simp)).put s0 s1 s2 s3 (by omega) (by intro r hr; simp at hr; rcases hr with rfl|rfl<;>simp<;>omega));clear HM;have HM:=HM';clear HM';have HS:=HM.out.sub (rs':=[(w.heap.size+1,b0,b1,b2,b3),(w.heap.size,a0,a1,a2,a3)]) (by simp);refine hK.out _ _ (Or.inr HS) (fun _ => ?_);clear hK K;clear HS;refine aM (i:=6) (by kernel_rfl) rfl (fun K hK => ?_);go_simp;refine hK.out _ _ (Or.inl rfl) (fun _ => ?_);clear hK K;refine cW (by kernel_rfl) ?_;go_wp2_with fail;refine bodyPost_ret (v:=.tuple #[.agg #[.int .u64 s0,.int .u64 s1,.int .u64 s2,.int .u64 s3],.int .i64 0]) (by simp[results,results111,go_sem, *]) rfl ?_;exact⟨_,_,_,_,rfl,hs,HVs.out,HM.out.1⟩
set_option maxHeartbeats 2000000 in
theorem Bb (f c:Int) (V a0 a1 a2 a3:Nat) (hD:∀w,Calls prog 111 #[.int .i64 f,.agg #[.int .u64 1,.int .u64 0,.int .u64 0,.int .u64 0],.agg #[.int .u64 a0,.int .u64 a1,.int .u64 a2,.int .u64 a3]] w (Cu c V w)) (w:World) :
  Calls prog 106 #[.int .i64 f,.agg #[.int .u64 a0,.int .u64 a1,.int .u64 a2,.int .u64 a3]] w (Cu c V w):=by
 have HD:=Lib.hid hD;clear hD
 go_enter func106,ntmps106
 go_wp2_with fail;have HM:=Lib.hid (((Mem.nil w).new (w.heap.size) a0 a1 a2 a3 25 (by simp)).new (w.heap.size+1) 0 0 0 0 25 (by simp));refine dJ (fun wx=>Mem w wx [(w.heap.size,a0,a1,a2,a3)]) 7 (by kernel_rfl) ?_;have HM':=Lib.hid (HM.out.drewN 1);clear HM;have HM:=HM';clear HM';have HS:=HM.out.sub (rs':=[(w.heap.size,a0,a1,a2,a3)]) (by simp);refine aL (i:=0) (v:=.int .i64 f) rfl (by kernel_rfl) (by kernel_rfl) (by kernel_rfl) (by kernel_rfl) (fun _ _ _ h=>h) HS (Or.inl ⟨by kernel_rfl,fun wx hx => ?_⟩) ?_
 ·clear HS hx;go_simp
 simp only[Act.put,List.setIfInBounds_toArray,List.set_cons_zero,List.set_cons_succ];refine aL (i:=2) (v:=.agg #[.int .u64 a0,.int .u64 a1,.int .u64 a2,.int .u64 a3]) rfl (by kernel_rfl) (by kernel_rfl) (by kernel_rfl) (by kernel_rfl) (fun _ _ _ h=>h) HS (Or.inl ⟨by kernel_rfl,fun wx hx => ?_⟩) ?_
 ·have kr:=hx.row (b:=w.heap.size) (c0:=a0) (c1:=a1) (c2:=a2) (c3:=a3) (by simp);have x0:=kr.c0; have x1:=kr.c1; have x2:=kr.c2; have x3:=kr.c3;clear kr HS hx;go_simp
 simp only[Act.put,List.setIfInBounds_toArray,List.set_cons_zero,List.set_cons_succ];clear HS;refine aM (i:=1) (by kernel_rfl) rfl (fun K hK => ?_);go_simp;refine (sJ 1 (by omega) _).mono ?_
 rintro e w1 ⟨rfl,hbl⟩
 have HM':=Lib.hid (HM.out.on hbl);clear HM hbl;have HM:=HM';clear HM';have HS:=HM.out.sub (rs':=[(w.heap.size,a0,a1,a2,a3)]) (by simp);refine hK.out _ _ (Or.inr HS) (fun _ => ?_);clear hK K;clear HS;refine aM (i:=3) (by kernel_rfl) rfl (fun K hK => ?_);go_simp;refine (HD.out _).mono ?_
 rintro e w2 ⟨s0,s1,s2,s3,rfl,hs,hv,hbl⟩
 have HVs:=Lib.hid hv;clear hv;have HM':=Lib.hid (HM.out.on hbl);clear HM hbl;have HM:=HM';clear HM';have HS:=HM.out.sub (rs':=[(w.heap.size,a0,a1,a2,a3)]) (by simp);refine hK.out _ _ (Or.inr HS) (fun _ => ?_);clear hK K;refine aL (i:=4) (v:=.agg #[.int .u64 s0,.int .u64 s1,.int .u64 s2,.int .u64 s3]) rfl (by kernel_rfl) (by kernel_rfl) (by kernel_rfl) (by kernel_rfl) (fun _ _ _ h=>h) HS (Or.inl ⟨by kernel_rfl,fun wx hx => ?_⟩) ?_
 ·clear HS hx;go_simp
 simp only[Act.put,List.setIfInBounds_toArray,List.set_cons_zero,List.set_cons_succ];refine aL (i:=5) (v:=.int .i64 c) rfl (by kernel_rfl) (by kernel_rfl) (by kernel_rfl) (by kernel_rfl) (fun _ _ _ h=>h) HS (Or.inl ⟨by kernel_rfl,fun wx hx => ?_⟩) ?_
 ·clear HS hx;go_simp
 simp only[Act.put,List.setIfInBounds_toArray,List.set_cons_zero,List.set_cons_succ];clear HS;have kr:=HM.out.row (b:=w.heap.size+1) (c0:=0) (c1:=0) (c2:=0) (c3:=0) (by simp);have y0:=kr.c0; have y1:=kr.c1; have y2:=kr.c2; have y3:=kr.c3; have yf:=kr.fr;clear kr;have yl:=HM.out.lt (b:=w.heap.size+1) (c0:=0) (c1:=0) (c2:=0) (c3:=0) (by simp);refine aM (i:=6) (by kernel_rfl) rfl (fun K hK => ?_);go_simp;have HM':=Lib.hid ((HM.out.sub (rs':=[(w.heap.size+1,0,0,0,0),(w.heap.size,a0,a1,a2,a3)]) (by simp)).put s0 s1 s2 s3 (by omega) (by intro r hr; simp at hr; rcases hr with rfl<;>simp<;>omega));clear HM;have HM:=HM';clear HM';have HS:=HM.out.sub (rs':=[(w.heap.size,a0,a1,a2,a3)]) (by simp);refine hK.out _ _ (Or.inr HS) (fun _ => ?_);clear hK K;clear HS;refine aM (i:=7) (by kernel_rfl) rfl (fun K hK => ?_);go_simp;refine hK.out _ _ (Or.inl rfl) (fun _ => ?_);clear hK K;refine cW (by kernel_rfl) ?_;go_wp2_with fail;refine bodyPost_ret (v:=.tuple #[.agg #[.int .u64 s0,.int .u64 s1,.int .u64 s2,.int .u64 s3],.int .i64 c]) (by simp[results,results106,go_sem, *]) rfl ?_;exact⟨_,_,_,_,rfl,hs,HVs.out,HM.out.1⟩
set_option maxHeartbeats 2000000 in
theorem Bc (f:Int) (F:FC) (hf:FieldIs f F) (a0 a1 a2 a3 n0 n1 n2 n3:Nat) (ha:cK a0 a1 a2 a3) (hn:cK n0 n1 n2 n3) (la:aD a0 a1 a2 a3<F.M) (w:World) :
  Calls prog 90 #[.int .i64 f,.agg #[.int .u64 a0,.int .u64 a1,.int .u64 a2,.int .u64 a3],.agg #[.int .u64 n0,.int .u64 n1,.int .u64 n2,.int .u64 n3]] w (Cu 0 (aD a0 a1 a2 a3^aD n0 n1 n2 n3%F.M) w):=by
 go_enter func90,ntmps90
 go_wp2_with fail;refine (eV f F hf _).mono ?_
 rintro e w1 ⟨rfl,hbl⟩
 have M1:=((((Mem.nil w).new (w.heap.size) a0 a1 a2 a3 25 (by simp)).new (w.heap.size+1) n0 n1 n2 n3 66 (by simp)).new (w.heap.size+1+1) 0 0 0 0 25 (by simp)).on hbl;clear hbl;have z0:w.heap.size<w1.heap.size:=M1.lt (c0:=a0) (c1:=a1) (c2:=a2) (c3:=a3) (by simp);have z1:w.heap.size+1<w1.heap.size:=M1.lt (c0:=n0) (c1:=n1) (c2:=n2) (c3:=n3) (by simp);have z2:w.heap.size+1+1<w1.heap.size:=M1.lt (c0:=0) (c1:=0) (c2:=0) (c3:=0) (by simp);have HM:=Lib.hid (M1.on ((Below.refl _ _).alloc (Nat.le_refl _) (.cells #[.int .u64 F.m0,.int .u64 F.m1,.int .u64 F.m2,.int .u64 F.m3,.int .u64 F.inv,.int .u64 F.s0,.int .u64 F.s1,.int .u64 F.s2,.int .u64 F.s3] 84)));have KK:=Lib.hid (KIs.new w1 F 84);have kr:=M1.row (b:=w.heap.size) (c0:=a0) (c1:=a1) (c2:=a2) (c3:=a3) (by simp);have x0:=kr.c0; have x1:=kr.c1; have x2:=kr.c2; have x3:=kr.c3;clear kr;have xl:=M1.lt (b:=w.heap.size) (c0:=a0) (c1:=a1) (c2:=a2) (c3:=a3) (by simp);go_wp2_with fail;refine (dI F hf.ok w1.heap.size a0 a1 a2 a3 ha _ KK.out).mono ?_
 rintro e w2 ⟨he,hbl⟩
 rw[show wU (aD a0 a1 a2 a3) F.M=true from decide_eq_true la]at he;subst he;have HM':=Lib.hid (HM.out.on hbl);have KK':=Lib.hid (KK.out.same hbl);have zk:=KK'.out.lt;clear HM KK hbl M1;have HM:=HM';have KK:=KK';clear HM' KK';clear x0 x1 x2 x3 xl zk;go_wp2_with fail;refine dJ (fun wx=>Mem w wx [(w.heap.size+1,n0,n1,n2,n3),(w.heap.size,a0,a1,a2,a3)]) 6 (by kernel_rfl) ?_;have HM':=Lib.hid (HM.out.drewN 1);have KK':=Lib.hid (KK.out.drewN 1);clear HM KK;have HM:=HM';have KK:=KK';clear HM' KK';have HS:=HM.out.sub (rs':=[(w.heap.size+1,n0,n1,n2,n3),(w.heap.size,a0,a1,a2,a3)]) (by simp);refine aL (i:=0) (v:=.agg #[.int .u64 a0,.int .u64 a1,.int .u64 a2,.int .u64 a3]) rfl (by kernel_rfl) (by kernel_rfl) (by kernel_rfl) (by kernel_rfl) (fun _ _ _ h=>h) HS (Or.inl ⟨by kernel_rfl,fun wx hx => ?_⟩) ?_
 ·have kr:=hx.row (b:=w.heap.size) (c0:=a0) (c1:=a1) (c2:=a2) (c3:=a3) (by simp);have x0:=kr.c0; have x1:=kr.c1; have x2:=kr.c2; have x3:=kr.c3;clear kr HS hx;go_simp
 simp only[Act.put,List.setIfInBounds_toArray,List.set_cons_zero,List.set_cons_succ];refine aL (i:=2) (v:=.agg #[.int .u64 n0,.int .u64 n1,.int .u64 n2,.int .u64 n3]) rfl (by kernel_rfl) (by kernel_rfl) (by kernel_rfl) (by kernel_rfl) (fun _ _ _ h=>h) HS (Or.inl ⟨by kernel_rfl,fun wx hx => ?_⟩) ?_
 ·have kr:=hx.row (b:=w.heap.size+1) (c0:=n0) (c1:=n1) (c2:=n2) (c3:=n3) (by simp);have x0:=kr.c0; have x1:=kr.c1; have x2:=kr.c2; have x3:=kr.c3;clear kr HS hx;go_simp
 simp only[Act.put,List.setIfInBounds_toArray,List.set_cons_zero,List.set_cons_succ];clear HS;refine aM (i:=1) (by kernel_rfl) rfl (fun K hK => ?_);go_simp;refine (iJ F hf.ok w1.heap.size a0 a1 a2 a3 ha _ KK.out).mono ?_
 rintro e w4 ⟨i0,i1,i2,i3,rfl,hi,hv,hbl⟩
 have HVi:=Lib.hid hv;clear hv;have HM':=Lib.hid (HM.out.on hbl);have KK':=Lib.hid (KK.out.same hbl);have zk_w4:=KK'.out.lt;clear HM KK hbl;have HM:=HM';have KK:=KK';clear HM' KK';have HS:=HM.out.sub (rs':=[(w.heap.size+1,n0,n1,n2,n3),(w.heap.size,a0,a1,a2,a3)]) (by simp);refine hK.out _ _ (Or.inr HS) (fun _ => ?_);clear hK K;clear HS;refine aM (i:=3) (by kernel_rfl) rfl (fun K hK => ?_);go_simp;refine (pQ F hf.ok (aD a0 a1 a2 a3) w1.heap.size i0 i1 i2 i3 n0 n1 n2 n3 hi hn HVi.out _ KK.out).mono ?_
 rintro e w5 ⟨j0,j1,j2,j3,rfl,hj,hv,hbl⟩
 have HVj:=Lib.hid hv;clear hv;have HM':=Lib.hid (HM.out.on hbl);have KK':=Lib.hid (KK.out.same hbl);have zk_w5:=KK'.out.lt;clear HM KK hbl;have HM:=HM';have KK:=KK';clear HM' KK';have HS:=HM.out.sub (rs':=[(w.heap.size+1,n0,n1,n2,n3),(w.heap.size,a0,a1,a2,a3)]) (by simp);refine hK.out _ _ (Or.inr HS) (fun _ => ?_);clear hK K;clear HS;refine aM (i:=4) (by kernel_rfl) rfl (fun K hK => ?_);go_simp;refine (KM F hf.ok w1.heap.size j0 j1 j2 j3 hj _ KK.out).mono ?_
 rintro e w6 ⟨s0,s1,s2,s3,rfl,hs,hv,hbl⟩
 have HVs:=Lib.hid (show aD s0 s1 s2 s3=aD a0 a1 a2 a3^aD n0 n1 n2 n3%F.M by rw[hv,HVj.out,←sX,Ii hf.ok _ (Nat.mod_lt _ hf.ok.pos)]);clear hv;have HM':=Lib.hid (HM.out.on hbl);have KK':=Lib.hid (KK.out.same hbl);have zk_w6:=KK'.out.lt;clear HM KK hbl;have HM:=HM';have KK:=KK';clear HM' KK';have HS:=HM.out.sub (rs':=[(w.heap.size+1,n0,n1,n2,n3),(w.heap.size,a0,a1,a2,a3)]) (by simp);refine hK.out _ _ (Or.inr HS) (fun _ => ?_);clear hK K;clear HS;have kr:=HM.out.row (b:=w.heap.size+1+1) (c0:=0) (c1:=0) (c2:=0) (c3:=0) (by simp);have y0:=kr.c0; have y1:=kr.c1; have y2:=kr.c2; have y3:=kr.c3; have yf:=kr.fr;clear kr;have yl:=HM.out.lt (b:=w.heap.size+1+1) (c0:=0) (c1:=0) (c2:=0) (c3:=0) (by simp);refine aM (i:=5) (by kernel_rfl) rfl (fun K hK => ?_);go_simp;have HM':=Lib.hid ((HM.out.sub (rs':=[(w.heap.size+1+1,0,0,0,0),(w.heap.size+1,n0,n1,n2,n3),(w.heap.size,a0,a1,a2,a3)]) (by simp)).put s0 s1 s2 s3 (by omega) (by intro r hr; simp at hr; rcases hr with rfl|rfl<;>simp<;>omega));clear HM;have HM:=HM';clear HM';have HS:=HM.out.sub (rs':=[(w.heap.size+1,n0,n1,n2,n3),(w.heap.size,a0,a1,a2,a3)]) (by simp);refine hK.out _ _ (Or.inr HS) (fun _ => ?_);clear hK K;clear HS;refine aM (i:=6) (by kernel_rfl) rfl (fun K hK => ?_);go_simp;refine hK.out _ _ (Or.inl rfl) (fun _ => ?_);clear hK K;refine cW (by kernel_rfl) ?_;go_wp2_with fail;refine bodyPost_ret (v:=.tuple #[.agg #[.int .u64 s0,.int .u64 s1,.int .u64 s2,.int .u64 s3],.int .i64 0]) (by simp[results,results90,go_sem, *]) rfl ?_;exact⟨_,_,_,_,rfl,hs,HVs.out,HM.out.1⟩
end Go.Proofs.YtjjnbgoepbiojaaGreat
namespace Go.Proofs.YtjjnbgoepbiojaaGreat.Ex
open Go.Proofs.Tryz
open Go.RowKit
abbrev RM:Nat:=Go.Proofs.YtjjnbgoepbiojaaGreat.FR.M
abbrev bQ:Nat:=115792089237316195423570985008687907853269984665640564039457584007913129639936
theorem dW {x:Nat} (h:x<RM):x<bQ:=Nat.lt_trans h (by decide)
theorem fK:0<RM:=by decide
def dH (x y:Nat):Nat:=(x+y)%RM
def fD (x y:Nat):Nat:=(x+RM-y)%RM
def dF (x y:Nat):Nat:=x*y%RM
def Wv (x n:Nat):Nat:=x^n%RM
def nQ (x:Nat):Nat:=1*(x^(RM-2))%RM
theorem gT (x y:Nat):dH x y<RM:=Nat.mod_lt _ fK
theorem lG (x y:Nat):fD x y<RM:=Nat.mod_lt _ fK
theorem eB (x y:Nat):dF x y<RM:=Nat.mod_lt _ fK
theorem oS (x y:Nat):Wv x y<RM:=Nat.mod_lt _ fK
theorem DJ (x:Nat):nQ x<RM:=Nat.mod_lt _ fK
theorem nZ:FieldIs 2 Go.Proofs.YtjjnbgoepbiojaaGreat.FR:=Or.inr ⟨rfl,rfl⟩
theorem qU {x:Nat} (h:x<RM):aD (fw x 0) (fw x 1) (fw x 2) (fw x 3)=x:=fW (dW h)
def Eb (op:Nat→Nat→Nat):iP
 | [.v (.im (.int .i64 2)),.v (.fl l),.v (.fl m)]=>match lH l,lH m with
  | some x,some y=>some ([x<RM,y<RM],.many [.fl [.q (op x y)],.im (.int .i64 0)])
  | _,_=>none
 | _=>none
theorem ET {fid:FuncId} {op:Nat→Nat→Nat} (hlt:∀x y,op x y<RM) (h:∀x y,x<RM→y<RM→∀w,Calls prog fid #[.int .i64 2,.agg (aB [At.q x]).toArray,.agg (aB [At.q y]).toArray] w (Cu 0 (op x y) w)) :
  ∀cs pre r,Eb op cs=some (pre,r)→aR pre→∀(args:List Value) (w:World),cO w cs args→bI prog fid r args w:=by
 intro cs pre r hg hp args w ha;unfold Eb at hg;split at hg
 ·rename_i l m;split at hg
  ·rename_i x y hx hy;cases hg
   match args,ha with
   | [t,v,u],ha =>
    obtain⟨h1,h2,h3,_⟩:=ha;have h1:t=.int .i64 2:=h1;have h2:v=.agg (aB l).toArray:=h2;have h3:u=.agg (aB m).toArray:=h3;rw[cG l x hx]at h2;rw[cG m y hy]at h3;subst h1; subst h2; subst h3;refine (h x y hp.1 hp.2.1 w).mono ?_
    rintro e w' ⟨s0,s1,s2,s3,rfl,hs,hv,hb⟩
    obtain⟨rfl,rfl,rfl,rfl⟩:=lS hs (dW (hlt x y)) hv;exact⟨rfl,hb⟩
   | [],ha=>exact ha.elim
   | [_],ha=>exact ha.2.elim
   | [_,_],ha=>exact ha.2.2.elim
   | _::_::_::_::_,ha=>exact ha.2.2.2.elim
  ·cases hg
 ·cases hg
theorem Pz:∀cs pre r,Eb dH cs=some (pre,r)→aR pre→∀(args:List Value) (w:World),cO w cs args→bI prog 43 r args w :=
 ET gT fun x y hx hy w=>by
  have:=Bf 2 _ nZ _ _ _ _ _ _ _ _ (eI x) (eI y) (by rw[qU hx]; exact hx) (by rw[qU hy]; exact hy) w;rw[qU hx,qU hy]at this;exact this
theorem Pv:∀cs pre r,Eb fD cs=some (pre,r)→aR pre→∀(args:List Value) (w:World),cO w cs args→bI prog 47 r args w :=
 ET lG fun x y hx hy w=>by
  have:=Az 2 _ nZ _ _ _ _ _ _ _ _ (eI x) (eI y) (by rw[qU hx]; exact hx) (by rw[qU hy]; exact hy) w;rw[qU hx,qU hy]at this;exact this
theorem Pw:∀cs pre r,Eb dF cs=some (pre,r)→aR pre→∀(args:List Value) (w:World),cO w cs args→bI prog 51 r args w :=
 ET eB fun x y hx hy w=>by
  have:=Ba 2 _ nZ _ _ _ _ _ _ _ _ (eI x) (eI y) (by rw[qU hx]; exact hx) (by rw[qU hy]; exact hy) w;rw[qU hx,qU hy]at this;exact this
def Ei (x:Nat):Int:=if x<RM then 0 else 21
def Kb:iP
 | [.v (.im (.int .i64 2)),.v (.fl l)]=>match lH l with
  | some x=>some ([x<bQ],.one (.im (.int .i64 (Ei x))))
  | none=>none
 | _=>none
theorem YA:∀cs pre r,Kb cs=some (pre,r)→aR pre→∀(args:List Value) (w:World),cO w cs args→bI prog 70 r args w:=by
 intro cs pre r hg hp args w ha;unfold Kb at hg;split at hg
 ·rename_i l;split at hg
  ·rename_i x hx;cases hg
   match args,ha with
   | [t,v],ha =>
    obtain⟨h1,h2,_⟩:=ha;have h1:t=.int .i64 2:=h1;have h2:v=.agg (aB l).toArray:=h2;rw[cG l x hx]at h2;subst h1; subst h2;unfold Ei
    by_cases h:x<RM
    ·rw[if_pos h];exact LL 2 _ nZ _ _ _ _ (eI x) (by rw[fW hp.1]; exact h) w
    ·rw[if_neg h];exact FA 2 21 _ _ _ _ (eI x) (Or.inr ⟨_,nZ,by rw[fW hp.1]; exact h,rfl⟩) w
   | [],ha=>exact ha.elim
   | [_],ha=>exact ha.2.elim
   | _::_::_::_,ha=>exact ha.2.2.elim
  ·cases hg
 ·cases hg
def Jl:iP
 | [.v (.im (.int .i64 2)),.v (.fl l)]=>match lH l with
  | some x=>some ([x<RM,x≠0],.many [.fl [.q (nQ x)],.im (.int .i64 0)])
  | none=>none
 | _=>none
theorem Px:∀cs pre r,Jl cs=some (pre,r)→aR pre→∀(args:List Value) (w:World),cO w cs args→bI prog 106 r args w:=by
 intro cs pre r hg hp args w ha;unfold Jl at hg;split at hg
 ·rename_i l;split at hg
  ·rename_i x hx;cases hg
   match args,ha with
   | [t,v],ha =>
    obtain⟨h1,h2,_⟩:=ha;have h1:t=.int .i64 2:=h1;have h2:v=.agg (aB l).toArray:=h2;rw[cG l x hx]at h2;subst h1; subst h2;refine (Bb 2 0 (nQ x) _ _ _ _ (fun w => ?_) w).mono ?_
    ·have:=Be 2 _ nZ 1 0 0 0 _ _ _ _ (by unfold cK; decide) (eI x) (by decide) (by rw[qU hp.1]; exact hp.1) (by rw[qU hp.1]; exact hp.2.1) w;rw[qU hp.1]at this;exact this
    rintro e w' ⟨s0,s1,s2,s3,rfl,hs,hv,hb⟩
    obtain⟨rfl,rfl,rfl,rfl⟩:=lS hs (dW (DJ x)) hv;exact⟨rfl,hb⟩
   | [],ha=>exact ha.elim
   | [_],ha=>exact ha.2.elim
   | _::_::_::_,ha=>exact ha.2.2.elim
  ·cases hg
 ·cases hg
def Ji:iP
 | [.v (.im (.int .i64 2)),.v (.fl l),.v (.fl m)]=>match lH l,lH m with
  | some x,some y=>some ([x<RM,y<bQ],.many [.fl [.q (Wv x y)],.im (.int .i64 0)])
  | _,_=>none
 | _=>none
theorem Py:∀cs pre r,Ji cs=some (pre,r)→aR pre→∀(args:List Value) (w:World),cO w cs args→bI prog 90 r args w:=by
 intro cs pre r hg hp args w ha;unfold Ji at hg;split at hg
 ·rename_i l m;split at hg
  ·rename_i x y hx hy;cases hg
   match args,ha with
   | [t,v,u],ha =>
    obtain⟨h1,h2,h3,_⟩:=ha;have h1:t=.int .i64 2:=h1;have h2:v=.agg (aB l).toArray:=h2;have h3:u=.agg (aB m).toArray:=h3;rw[cG l x hx]at h2;rw[cG m y hy]at h3;subst h1; subst h2; subst h3;have h:=Bc 2 _ nZ _ _ _ _ _ _ _ _ (eI x) (eI y) (by rw[qU hp.1]; exact hp.1) w;rw[qU hp.1,fW hp.2.1]at h;refine h.mono ?_
    rintro e w' ⟨s0,s1,s2,s3,rfl,hs,hv,hb⟩
    obtain⟨rfl,rfl,rfl,rfl⟩:=lS hs (dW (oS x y)) hv;exact⟨rfl,hb⟩
   | [],ha=>exact ha.elim
   | [_],ha=>exact ha.2.elim
   | [_,_],ha=>exact ha.2.2.elim
   | _::_::_::_::_,ha=>exact ha.2.2.2.elim
  ·cases hg
 ·cases hg
def Jk:iP
 | [.v (.im (.int .u64 (.ofNat n)))]=>some ([n<18446744073709551616],.one (.fl [.q n]))
 | _=>none
theorem Yu:∀cs pre r,Jk cs=some (pre,r)→aR pre→∀(args:List Value) (w:World),cO w cs args→bI prog 87 r args w:=by
 intro cs pre r hg hp args w ha;unfold Jk at hg;split at hg
 ·rename_i n;cases hg
  match args,ha with
  | [t],ha =>
   have h1:t=.int .u64 (Int.ofNat n):=ha.1;subst h1;refine (sJ n hp.1 w).mono ?_
   rintro e w' ⟨rfl,hb⟩
   refine⟨?_,hb⟩;obtain⟨e0,e1,e2,e3⟩:=lS (s0:=n) (s1:=0) (s2:=0) (s3:=0) (x:=n) ⟨hp.1,by omega,by omega,by omega⟩ (by have:=hp.1; omega) (by unfold aD; omega);show Ending.returned _=Ending.returned (.agg #[.int .u64 (fw n 0:Nat),.int .u64 (fw n 1:Nat),.int .u64 (fw n 2:Nat),.int .u64 (fw n 3:Nat)]);rw[←e0,←e1,←e2,←e3];rfl
  | [],ha=>exact ha.elim
  | _::_::_,ha=>exact ha.2.elim
 ·cases hg
def FU:Tab:=((((((T0.add 43 (Eb dH)).add 47 (Eb fD)).add 51 (Eb dF)).add 70 Kb).add 106 Jl).add 90 Ji).add 87 Jk
theorem vA:TabOk prog FU:=(((((((Wr _).add func43 (by kernel_rfl) (by kernel_rfl) Pz).add func47 (by kernel_rfl) (by kernel_rfl) Pv).add func51 (by kernel_rfl) (by kernel_rfl) Pw).add func70 (by kernel_rfl) (by kernel_rfl) YA).add func106 (by kernel_rfl) (by kernel_rfl) Px).add func90 (by kernel_rfl) (by kernel_rfl) Py).add func87 (by kernel_rfl) (by kernel_rfl) Yu
def el (f:Nat→Nat) (j:Nat):List At:=[.q (f j)]
def LV (w:World) (v:Value) (N:Nat) (f:Nat→Nat):Prop:=∃p m,v=.slice p N m∧N≤m∧(∀j,j<N→f j<bQ)∧(0<N→∃b o,p=some ⟨b,o,none⟩∧b<w.heap.size∧w.rangeAt b o (aB (aP (el f) 0 N)))
theorem LV.on {w w':World} {v:Value} {N:Nat} {f:Nat→Nat} (h:LV w v N f) (hb:Below w.heap.size w w'):LV w' v N f:=by
 obtain⟨p,m,h1,h2,h3,h4⟩:=h;exact⟨p,m,h1,h2,h3,fun h=>by
  obtain⟨b,o,e,h5,h6⟩:=h4 h;exact⟨b,o,e,Nat.lt_of_lt_of_le h5 hb.size,dC hb h5 h6⟩⟩
theorem LV.ofS {w:World} {l:List At} {n m N:Nat} {f:Nat→Nat} {v:Value} (h:CA.ok w (.s l n m) v) (h1:aB l=aB (aP (el f) 0 N)) (h2:n=N) (h3:N≤m) (h4:∀j,j<N→f j<bQ):LV w v N f:=by
 obtain⟨b,o,rfl,hb,hr⟩:=h;rw[h1]at hr;exact⟨_,m,by rw[h2],h3,h4,fun _=>⟨b,o,rfl,hb,hr⟩⟩
theorem LV.nil (w:World) (f:Nat→Nat):LV w (.slice none 0 0) 0 f:=⟨none,0,rfl,Nat.le_refl _,fun j h=>by omega,fun h=>by omega⟩
theorem cJ {w:World} {b o N i:Nat} {f:Nat→Nat} (hb:b<w.heap.size) (hr:w.rangeAt b o (aB (aP (el f) 0 N))) (hi:i<N):oldOf w b (o+i*4) [.q (f i)] :=
 ⟨hb,uU (f:=el f) (c:=4) (fun _=>rfl) hi hr⟩
def xO (w:World) (idx:Nat→Option Nat) (ld:Nat→Option (List At)) (gen:Nat→Option Value):Ext:={ Ext.none with idx:=idx,ld:=ld,gen:=gen,old:=oldOf w,T2:=lY,T3:=vR,T4:=CH,T5:=CI,T6:=CJ }
theorem cE (w:World) (idx:Nat→Option Nat) (ld:Nat→Option (List At)) (gen:Nat→Option Value):bO prog { qG prog with x:=xO w idx ld gen } w.heap.size w :=
 ⟨(bE _).1,eJ (fun b o l h=>h) (fun w' _=>FrAt.none _ _) (fun w' _=>FsAt.none _ _)⟩
def Zq (op:Nat→Nat) (c:Nat→List Prop):iP
 | [.v (.fl l)]=>match lH l with|some x=>some (c x,.one (.fl [.q (op x)]))|none=>none
 | _=>none
def Td (op:Nat→Nat→Nat) (c:Nat→Nat→List Prop):iP
 | [.v (.fl l),.v (.fl m)]=>match lH l,lH m with|some x,some y=>some (c x y,.one (.fl [.q (op x y)]))|_,_=>none
 | _=>none
def Ce (x y:Nat):List Prop:=[x<RM,y<RM]
theorem EW {f:FuncId} {op:Nat→Nat→Nat} {c:Nat→Nat→List Prop} (h:∀x y,aR (c x y)→∀args w,cO w [.v (.fl [.q x]),.v (.fl [.q y])] args→bI prog f (.one (.fl [.q (op x y)])) args w) :
  ∀cs pre r,Td op c cs=some (pre,r)→aR pre→∀(args:List Value) (w:World),cO w cs args→bI prog f r args w:=by
 intro cs pre r hg hp args w ha;unfold Td at hg;split at hg
 ·rename_i l m;split at hg
  ·rename_i x y hx hy;cases hg;refine h x y hp args w ?_
   match args,ha with
   | [v,u],ha =>
    refine⟨?_,?_,trivial⟩
    ·show v=.agg (aB (q1 x)).toArray;rw[←cG l x hx]; exact ha.1
    ·show u=.agg (aB (q1 y)).toArray;rw[←cG m y hy]; exact ha.2.1
   | [],ha=>exact ha.elim
   | [_],ha=>exact ha.2.elim
   | _::_::_::_,ha=>exact ha.2.2.elim
  ·cases hg
 ·cases hg
theorem Jv {f:FuncId} {op:Nat→Nat} {c:Nat→List Prop} (h:∀x,aR (c x)→∀args w,cO w [.v (.fl [.q x])] args→bI prog f (.one (.fl [.q (op x)])) args w) :
  ∀cs pre r,Zq op c cs=some (pre,r)→aR pre→∀(args:List Value) (w:World),cO w cs args→bI prog f r args w:=by
 intro cs pre r hg hp args w ha;unfold Zq at hg;split at hg
 ·rename_i l;split at hg
  ·rename_i x hx;cases hg;refine h x hp args w ?_
   match args,ha with
   | [v],ha =>
    refine⟨?_,trivial⟩;show v=.agg (aB (q1 x)).toArray;rw[←cG l x hx]; exact ha.1
   | [],ha=>exact ha.elim
   | _::_::_,ha=>exact ha.2.elim
  ·cases hg
 ·cases hg
theorem OE (x y:Nat):xK prog FU (qG prog) (fun _=>true) f21 40 [.v (.fl [.q x]),.v (.fl [.q y])]=some ([x<RM,y<RM],.one (.fl [.q (dH x y)])):=by kernel_rfl
theorem JU (x y:Nat):xK prog FU (qG prog) (fun _=>true) f26 40 [.v (.fl [.q x]),.v (.fl [.q y])]=some ([x<RM,y<RM],.one (.fl [.q (fD x y)])):=by kernel_rfl
theorem JT (x y:Nat):xK prog FU (qG prog) (fun _=>true) f32 40 [.v (.fl [.q x]),.v (.fl [.q y])]=some ([x<RM,y<RM],.one (.fl [.q (dF x y)])):=by kernel_rfl
theorem zB (x:Nat):xK prog FU (qG prog) (fun _=>true) f100 40 [.v (.fl [.q x])]=some ([x<RM,x≠0],.one (.fl [.q (nQ x)])):=by kernel_rfl
theorem OD:xK prog FU (qG prog) (fun _=>true) f60 40 []=some ([1<18446744073709551616],.one (.fl [.q 1])):=by kernel_rfl
def dB:Tab:=((((FU.add 21 (Td dH Ce)).add 26 (Td fD Ce)).add 32 (Td dF Ce)).add 100 (Zq nQ fun x=>[x<RM,x≠0])).add 60 (g0 (.one (.fl [.q 1])))
theorem aY:TabOk prog dB:=((((vA.add func21 (by kernel_rfl) (by kernel_rfl) (EW fun x y h args w ha=>fO aG vA (bE _) func21 (OE x y) h ha)).add
 func26 (by kernel_rfl) (by kernel_rfl) (EW fun x y h args w ha=>fO aG vA (bE _) func26 (JU x y) h ha)).add
 func32 (by kernel_rfl) (by kernel_rfl) (EW fun x y h args w ha=>fO aG vA (bE _) func32 (JT x y) h ha)).add
 func100 (by kernel_rfl) (by kernel_rfl) (Jv fun x h args w ha=>fO aG vA (bE _) func100 (zB x) h ha)).add
 func60 (by kernel_rfl) (by kernel_rfl) (SE fun w=>fO aG vA (bE _) func60 OD ⟨by omega,trivial⟩ (args:=[]) trivial)
def FT (v:Value) (N i:Nat):List Fact:=[.slot 5 (.im v),.slot 6 (.im (iI N)),.slot 7 (.im (iI i))]
def jI:Code:=(f49.body).getD .skip
def tX:Code:=fY (fY (cB (cA (cB jI))))
theorem Co:jI=.seq (cA jI) (.seq (.seq (cA (cA (cB jI))) (.block 0 (.loop tX))) (cB (cB jI))):=by kernel_rfl
def cF (num:Nat→Option Value) (_:Nat):Cfg:=⟨fun _=>dB,fun _=>true,num⟩
theorem Wk (v:Value):aH prog (qG prog) f49.ntmps (cF fun _=>none) 40 (cA jI) (dX 0 [.v (.im v)]) [.slot 0 (.im v)]=some ([],.nrm,[.slot 0 (.im v)]):=by kernel_rfl
theorem Wj (p:Option Addr) (N m:Nat):aH prog (qG prog) f49.ntmps (cF fun _=>none) 40 (cA (cA (cB jI))) [.slot 0 (.im (.slice p N m))] (FT (.slice p N m) N 0)=some ([],.nrm,FT (.slice p N m) N 0):=by kernel_rfl
theorem Wl (w:World) (b o N m i x:Nat):aH prog { qG prog with x:=xO w (aE [(9,i)]) (aE [(10,[.q x])]) (fun _=>none) } f49.ntmps (cF (aE [(8,.bool true),(13,.bool false),(14,iI (i+1))])) 40 tX (FT (aS b o N m) N i) (FT (aS b o N m) N (i+1))=some ([aC .lss .i64 (Int.ofNat i) (Int.ofNat N)=some (.bool true),Int.ofNat i=Int.ofNat i,i<N,oldOf w b (o+i*4) [.q x],cL [.q x]=4,x<bQ,aC .neq .i64 (Ei x) 0=some (.bool false),aC .add .i64 (Int.ofNat i) 1=some (iI (i+1))],.nrm,FT (aS b o N m) N (i+1)):=by kernel_rfl
theorem Wm (w:World) (b o N m i x:Nat):aH prog { qG prog with x:=xO w (aE [(9,i)]) (aE [(10,[.q x])]) (fun _=>none) } f49.ntmps (cF (aE [(8,.bool true),(13,.bool true)])) 40 tX (FT (aS b o N m) N i) [.slot 2 (.im (.bool false))]=some ([aC .lss .i64 (Int.ofNat i) (Int.ofNat N)=some (.bool true),Int.ofNat i=Int.ofNat i,i<N,oldOf w b (o+i*4) [.q x],cL [.q x]=4,x<bQ,aC .neq .i64 (Ei x) 0=some (.bool true)],.rt,[.slot 2 (.im (.bool false))]):=by kernel_rfl
theorem Lm (v:Value) (N i:Nat):aH prog (qG prog) f49.ntmps (cF (aE [(8,.bool false)])) 40 tX (FT v N i) (FT v N i)=some ([aC .lss .i64 (Int.ofNat i) (Int.ofNat N)=some (.bool false)],.ex 0,FT v N i):=by kernel_rfl
theorem Cn (v:Value) (N i:Nat):aH prog (qG prog) f49.ntmps (cF fun _=>none) 40 (cB (cB jI)) (FT v N i) [.slot 2 (.im (.bool true))]=some ([],.rt,[.slot 2 (.im (.bool true))]):=by kernel_rfl
theorem Kx {x:Nat} (h:x<RM):aC .neq .i64 (Ei x) 0=some (.bool false):=by unfold Ei; rw[if_pos h]; rfl
theorem Bw {x:Nat} (h:¬x<RM):aC .neq .i64 (Ei x) 0=some (.bool true):=by unfold Ei; rw[if_neg h]; rfl
theorem eU {p:Nat→Prop} [DecidablePred p]:∀{N:Nat},(¬ ∀j,j<N→p j)→∃j,j<N∧(∀k,k<j→p k)∧¬p j:=by
 intro N
 induction N with
 | zero=>exact fun h=>(h fun j hj=>by omega).elim
 | succ N ih =>
  intro h
  by_cases h0:∀j,j<N→p j
  ·refine⟨N,by omega,h0,fun hp=>h fun j hj => ?_⟩
   by_cases e:j=N
   ·rw[e]; exact hp
   ·exact h0 j (by omega)
  ·obtain⟨j,h1,h2⟩:=ih h0;exact⟨j,by omega,h2⟩
theorem JI {w0:World} {b o N m i:Nat} {f:Nat→Nat} (hb:b<w0.heap.size) (hr:w0.rangeAt b o (aB (aP (el f) 0 N))) (hN:N≤4611686018427387904) (hi:i<N) (hx:f i<bQ) (h:f i<RM):Ok prog w0.heap.size w0 f49.ntmps tX (FT (aS b o N m) N i) .nrm (FT (aS b o N m) N (i+1)) :=
 ⟨_,_,_,_,cE w0 _ _ _,fun _ _=>aY.w _ _,Wl w0 b o N m i (f i),bK hi,rfl,hi,cJ hb hr hi,rfl,hx,Kx h,cX (k:=1) (by omega),trivial⟩
def bD (N:Nat) (f:Nat→Nat):Prop:=∀j,j<N→f j<RM
instance (N:Nat) (f:Nat→Nat):Decidable (bD N f):=Nat.decidableBallLT N fun j _=>f j<RM
theorem UK {w0:World} {v:Value} {N:Nat} {f:Nat→Nat} (hv:LV w0 v N f) (hN:N≤4611686018427387904):bI prog 49 (.one (.im (.bool (decide (bD N f))))) [v] w0:=by
 obtain⟨p,m,rfl,hm,h256,hmem⟩:=hv;have hG:bO prog (qG prog) w0.heap.size w0:=(bE _).w _ _;have hT:∀n d:Nat,TabOkW prog dB w0.heap.size w0:=fun _ _=>aY.w _ _
 refine bP func49 (cs:=[.v (.im (.slice p N m))]) (args:=[.slice p N m]) (c:=jI) rfl ⟨rfl,trivial⟩ (Nat.le_of_ble_eq_true (by kernel_rfl)) fun a w' hA => ?_
 rw[Co];refine wp_seq (aA aG hT hG (Wk _) trivial hA fun a w' hA => ?_);refine wp_seq (wp_seq (aA aG hT hG (Wj p N m) trivial hA fun a w' hA => ?_));refine wp_block ?_;have fin:∀(P Q:Exit→Act→World→Prop) e a w,P e a w→(∀e a w,P e a w→Q e a w)→Q e a w:=fun P Q e a w h k=>k e a w h
 by_cases h:bD N f
 ·rw[decide_eq_true h];refine cH aG (fun i=>FT (.slice p N m) N i) N (fun i hi => ?_) (.ex 0) (by simp) (FT (.slice p N m) N N) ⟨_,_,_,_,hG,hT,Lm _ N N,bU (Nat.le_refl _),trivial⟩ hA fun a w hA => ?_
  ·obtain⟨b,o,rfl,hb,hr⟩:=hmem (by omega);exact JI hb hr hN hi (h256 i hi) (h i hi)
  ·show (cB (cB jI)).wp _ _ _ _;exact aA aG hT hG (Cn _ N N) trivial hA fun a w' hA=>bH (l:=[.im (.bool true)]) (r:=.one (.im (.bool true))) (by kernel_rfl) (by kernel_rfl) hA
 ·rw[decide_eq_false h];obtain⟨j,hj,h1,h2⟩:=eU (p:=fun j=>f j<RM) h;obtain⟨b,o,rfl,hb,hr⟩:=hmem (by omega);refine cH aG (fun i=>FT (aS b o N m) N i) j (fun i hi=>JI hb hr hN (by omega) (h256 i (by omega)) (h1 i hi)) .rt (by simp) [.slot 2 (.im (.bool false))] ⟨_,_,_,_,cE w0 _ _ _,hT,Wm w0 b o N m j (f j),bK hj,rfl,hj,cJ hb hr hj,rfl,h256 j hj,Bw h2,trivial⟩ hA fun a w hA => ?_
  exact bH (l:=[.im (.bool false)]) (r:=.one (.im (.bool false))) (by kernel_rfl) (by kernel_rfl) hA
def aU (f:Nat→Nat) (N i:Nat):Nat:=if i<N then f i else 0
theorem Fp (w:World) (b o N m i x:Nat):fH prog { qG prog with x:=xO w (aE [(11,i)]) (aE [(12,[.q x])]) (fun _=>none) } (cF (aE [(8,.bool true)])) f42 40 [.v (.im (aS b o N m)),.v (.im (iI i))]=some ([aC .lss .i64 (Int.ofNat i) (Int.ofNat N)=some (.bool true),Int.ofNat i=Int.ofNat i,i<N,oldOf w b (o+i*4) [.q x],cL [.q x]=4],.one (.fl [.q x])):=by kernel_rfl
theorem XD (p:Option Addr) (N m i:Nat):fH prog (qG prog) (cF (aE [(8,.bool false)])) f42 40 [.v (.im (.slice p N m)),.v (.im (iI i))]=some ([aC .lss .i64 (Int.ofNat i) (Int.ofNat N)=some (.bool false)],.one (.fl [.f ⟨0,dP⟩])):=by kernel_rfl
theorem BQ {w0:World} {v:Value} {N i:Nat} {f:Nat→Nat} (hv:LV w0 v N f):bI prog 42 (.one (.fl [.q (aU f N i)])) [v,iI i] w0:=by
 obtain⟨p,m,rfl,hm,h256,hmem⟩:=hv;unfold aU
 by_cases h:i<N
 ·rw[if_pos h];obtain⟨b,o,rfl,hb,hr⟩:=hmem (by omega);exact bC aG (fun _ _=>aY.w _ _) (cE w0 _ _ _) func42 (Fp w0 b o N m i (f i)) ⟨bK h,rfl,h,cJ hb hr h,rfl,trivial⟩ (args:=[aS b o N m,iI i]) ⟨rfl,rfl,trivial⟩
 ·rw[if_neg h];exact bC aG (fun _ _=>aY.w _ _) ((bE _).w _ _) func42 (XD p N m i) ⟨bU (by omega),trivial⟩ (args:=[.slice p N m,iI i]) ⟨rfl,rfl,trivial⟩
def aF (f:Nat→Nat):Nat→Nat
 | 0=>0
 | n+1=>if f n=0 then aF f n else n+1
theorem cI (f:Nat→Nat):∀n,aF f n≤n
 | 0=>Nat.le_refl _
 | n+1=>by
  unfold aF;have:=cI f n;split<;>omega
theorem mW (f:Nat→Nat):∀n i,aF f n≤i→i<n→f i=0
 | n+1,i,h,hi=>by
  unfold aF at h
  by_cases h0:f n=0
  ·rw[if_pos h0]at h
   by_cases e:i=n
   ·rw[e]; exact h0
   ·exact mW f n i h (by omega)
  ·rw[if_neg h0]at h; omega
theorem eR (f:Nat→Nat):∀n,0<aF f n→f (aF f n-1)≠0
 | 0,h=>absurd h (Nat.lt_irrefl 0)
 | n+1,h=>by
  unfold aF at h ⊢
  by_cases h0:f n=0
  ·rw[if_pos h0]at h ⊢; exact eR f n h
  ·rw[if_neg h0]; exact h0
theorem lZ {x:Nat} (hx:x<bQ):aB [At.q x]=aB [At.f ⟨0,dP⟩]↔x=0:=by
 constructor
 ·intro h;have h2:w4 x=w4 0:=by
   have h3:w4 x++[]=w4 0++[]:=h;simpa using h3
  unfold w4 at h2;simp only[List.cons.injEq,Value.int.injEq,true_and,and_true]at h2;obtain⟨e0,e1,e2,e3⟩:=h2;have h3:=fW hx;have h4:=fW (x:=0) (by omega);have c0:fw x 0=fw 0 0:=by omega
  have c1:fw x 1=fw 0 1:=by omega
  have c2:fw x 2=fw 0 2:=by omega
  have c3:fw x 3=fw 0 3:=by omega
  rw[c0,c1,c2,c3,h4]at h3;exact h3.symm
 ·rintro rfl
  rfl
def mK (v:Value) (i:Nat):List Fact:=[.slot 0 (.im v),.slot 3 (.im (iI i))]
def jE:Code:=(f34.body).getD .skip
def wS:Code:=fY (fY (cA (cB (cB jE))))
theorem ZB:jE=.seq (cA jE) (.seq (cA (cB jE)) (.seq (.block 0 (.loop wS)) (cB (cB (cB jE))))):=by kernel_rfl
theorem Rw (p:Option Addr) (N m:Nat):aH prog (qG prog) f34.ntmps (cF fun _=>none) 40 (cA jE) (dX 0 [.v (.im (.slice p N m))]) [.slot 0 (.im (.slice p N m))]=some ([],.nrm,[.slot 0 (.im (.slice p N m))]):=by kernel_rfl
theorem Rv (p:Option Addr) (N m:Nat):aH prog (qG prog) f34.ntmps (cF fun _=>none) 40 (cA (cB jE)) [.slot 0 (.im (.slice p N m))] (mK (.slice p N m) N)=some ([],.nrm,mK (.slice p N m) N):=by kernel_rfl
def Dp (h:Bool) (num:Nat→Option Value) (_:Nat):Cfg:=⟨fun _=>dB,fun _=>h,num⟩
theorem Rx (w:World) (b o N m i x:Nat):aH prog { qG prog with x:=xO w (aE [(12,i)]) (aE [(13,[.q x])]) (fun _=>none) } f34.ntmps (Dp true (aE [(7,.bool true),(11,iI i),(18,iI i)])) 40 wS (mK (aS b o N m) (i+1)) (mK (aS b o N m) i)=some ([aC .gtr .i64 (Int.ofNat (i+1)) 0=some (.bool true),aC .sub .i64 (Int.ofNat (i+1)) 1=some (iI i),Int.ofNat i=Int.ofNat i,i<N,oldOf w b (o+i*4) [.q x],cL [.q x]=4,aB [.q x]=aB [.f ⟨0,dP⟩],aC .sub .i64 (Int.ofNat (i+1)) 1=some (iI i)],.nrm,mK (aS b o N m) i):=by kernel_rfl
theorem Ic (w:World) (b o N m i x:Nat):aH prog { qG prog with x:=xO w (aE [(12,i)]) (aE [(13,[.q x])]) (fun _=>none) } f34.ntmps (Dp false (aE [(7,.bool true),(11,iI i),(18,iI i)])) 40 wS (mK (aS b o N m) (i+1)) (mK (aS b o N m) (i+1))=some ([aC .gtr .i64 (Int.ofNat (i+1)) 0=some (.bool true),aC .sub .i64 (Int.ofNat (i+1)) 1=some (iI i),Int.ofNat i=Int.ofNat i,i<N,oldOf w b (o+i*4) [.q x],cL [.q x]=4,aB [.q x]≠aB [.f ⟨0,dP⟩]],.ex 0,mK (aS b o N m) (i+1)):=by kernel_rfl
theorem Id (v:Value):aH prog (qG prog) f34.ntmps (Dp true (aE [(7,.bool false)])) 40 wS (mK v 0) (mK v 0)=some ([aC .gtr .i64 (Int.ofNat 0) 0=some (.bool false)],.ex 0,mK v 0):=by kernel_rfl
theorem ZA (v:Value) (i:Nat):aH prog (qG prog) f34.ntmps (cF fun _=>none) 40 (cB (cB (cB jE))) (mK v i) [.slot 2 (.im (iI i))]=some ([],.rt,[.slot 2 (.im (iI i))]):=by kernel_rfl
theorem wP {i:Nat}:aC .gtr .i64 (Int.ofNat (i+1)) 0=some (.bool true):=by
 have:=@sK (i+1) 0;rw[decide_eq_true (Nat.succ_pos _)]at this;exact this
theorem pA {i:Nat} (h:i<4611686018427387904):aC .sub .i64 (Int.ofNat (i+1)) 1=some (iI i):=pS (k:=1) (by omega) (by omega)
theorem QT {w0:World} {v:Value} {N:Nat} {f:Nat→Nat} (hv:LV w0 v N f) (hN:N≤2305843009213693952):bI prog 34 (.one (.im (iI (aF f N)))) [v] w0:=by
 obtain⟨p,m,rfl,hm,h256,hmem⟩:=hv;have hG:bO prog (qG prog) w0.heap.size w0:=(bE _).w _ _;have hT:∀n d:Nat,TabOkW prog dB w0.heap.size w0:=fun _ _=>aY.w _ _
 refine bP func34 (cs:=[.v (.im (.slice p N m))]) (args:=[.slice p N m]) (c:=jE) rfl ⟨rfl,trivial⟩ (Nat.le_of_ble_eq_true (by kernel_rfl)) fun a w' hA => ?_
 rw[ZB];refine wp_seq (aA aG hT hG (Rw _ _ _) trivial hA fun a w' hA => ?_);refine wp_seq (aA aG hT hG (Rv p N m) trivial hA fun a w' hA => ?_);refine wp_seq (wp_block ?_);have hle:=cI f N;have hz:=mW f N;have hl:=eR f N;generalize aF f N=T at hle hz hl ⊢;refine cH aG (fun i=>mK (.slice p N m) (N-i)) (N-T) (fun i hi => ?_) (.ex 0) (by simp) (mK (.slice p N m) T) ?_ hA fun a w hA => ?_
 ·have h0:0<N:=by omega
  have hk:N-i=(N-i-1)+1:=by omega
  have hk2:N-(i+1)=N-i-1:=by omega
  have hk3:T≤N-i-1:=by omega
  have hk4:N-i-1<N:=by omega
  have hk5:N-i-1<4611686018427387904:=by omega
  show Ok _ _ _ _ _ (mK _ (N-i)) _ (mK _ (N-(i+1)));rw[hk2,hk];clear hk hk2;obtain⟨b,o,rfl,hb,hr⟩:=hmem h0;generalize N-i-1=k at hk3 hk4 hk5 ⊢;exact⟨_,_,_,_,cE w0 _ _ _,fun _ _=>aY.w _ _,Rx w0 b o N m k (f k),wP,pA hk5,rfl,hk4,cJ hb hr hk4,rfl,(lZ (h256 k hk4)).2 (hz k hk3 hk4),pA hk5,trivial⟩
 ·have e:N-(N-T)=T:=by omega
  rw[e];cases T with
  | zero=>exact⟨_,_,_,_,hG,fun _ _=>aY.w _ _,Id _,rfl,trivial⟩
  | succ k =>
   have h0:0<N:=by omega
   have hk4:k<N:=by omega
   have hk5:k<4611686018427387904:=by omega
   obtain⟨b,o,rfl,hb,hr⟩:=hmem h0;have hl:=hl (Nat.succ_pos k);exact⟨_,_,_,_,cE w0 _ _ _,fun _ _=>aY.w _ _,Ic w0 b o N m k (f k),wP,pA hk5,rfl,hk4,cJ hb hr hk4,rfl,fun h=>hl ((lZ (h256 k hk4)).1 h),trivial⟩
 ·show (cB (cB (cB jE))).wp _ _ _ _;exact aA aG hT hG (ZA _ _) trivial hA fun a w' hA=>bH (l:=[.im (iI T)]) (r:=.one (.im (iI T))) (by kernel_rfl) (by kernel_rfl) hA
def fG (id:Nat) (caps:List Value):Value:=.func (.func id) #[] caps.toArray
def TS (v:Value) (Z:List At) (N i:Nat):List Fact:=[.slot 1 (.im v),.slot 5 (.sl 8 0 N N),.row 8 true Z,.slot 10 (.im (iI N)),.slot 11 (.im (iI i))]
def eF:Code:=(f30.body).getD .skip
def tU:Code:=fY (fY (cB (cA (cB (cB eF)))))
theorem JD:eF=.seq (cA eF) (.seq (cA (cB eF)) (.seq (.seq (cA (cA (cB (cB eF)))) (.block 0 (.loop tU))) (cB (cB (cB eF))))):=by kernel_rfl
theorem Vi (v:Value) (N:Nat):aH prog (qG prog) f30.ntmps (cF fun _=>none) 40 (cA eF) (dX 0 [.v (.im (iI N)),.v (.im v)]) [.slot 0 (.im (iI N)),.slot 1 (.im v)]=some ([],.nrm,[.slot 0 (.im (iI N)),.slot 1 (.im v)]):=by kernel_rfl
def xM (d N:Nat) (Z:List At):Ext:={ Ext.none with mks:=aE [(d,(N,Z))],T2:=lY,T3:=vR,T4:=CH,T5:=CI,T6:=CJ }
theorem MQ (d N:Nat) (Z:List At) (base:Nat) (w:World):bO prog { qG prog with x:=xM d N Z } base w :=
 ⟨(bE _).1,eJ (fun b o l h=>h.elim) (fun w' _=>FrAt.none _ _) (fun w' _=>FsAt.none _ _)⟩
theorem Vh (v:Value) (N:Nat) (Z:List At):aH prog { qG prog with x:=xM 8 N Z } f30.ntmps (cF fun _=>none) 40 (cA (cB eF)) [.slot 0 (.im (iI N)),.slot 1 (.im v)] [.slot 1 (.im v),.slot 5 (.sl 8 0 N N),.row 8 true Z]=some ([∃e,∀w:World,(Instr.makeSlice 22 (iI N) (iI N)).run prog w=.ok (.slice (some ⟨w.heap.size,0,none⟩) N N) (w.alloc (.cells (aB Z).toArray e))],.nrm,[.slot 1 (.im v),.slot 5 (.sl 8 0 N N),.row 8 true Z]):=by kernel_rfl
theorem Vg (v:Value) (N:Nat) (Z:List At):aH prog (qG prog) f30.ntmps (cF fun _=>none) 40 (cA (cA (cB (cB eF)))) [.slot 1 (.im v),.slot 5 (.sl 8 0 N N),.row 8 true Z] (TS v Z N 0)=some ([],.nrm,TS v Z N 0):=by kernel_rfl
def Lp (id:Nat) (caps:List Value) (i x:Nat):Tab:=fun f' cs=>some ([f'=id,cs=.v (.im (iI i))::caps.map fun v=>.v (.im v)],.one (.fl [.q x]))
def xS (d i:Nat) (Z:List At):Ext:={ Ext.none with idx:=aE [(d,i)],st:=aE [(d,Z)],T2:=lY,T3:=vR,T4:=CH,T5:=CI,T6:=CJ }
theorem Mm (d i:Nat) (Z:List At) (base:Nat) (w:World):bO prog { qG prog with x:=xS d i Z } base w :=
 ⟨(bE _).1,eJ (fun b o l h=>h.elim) (fun w' _=>FrAt.none _ _) (fun w' _=>FsAt.none _ _)⟩
theorem Vj (id:Nat) (caps:List Value) (Z Z':List At) (N i x:Nat):aH prog { qG prog with x:=xS 19 i Z' } f30.ntmps (fun _=>⟨fun _=>Lp id caps i x,fun _=>true,aE [(12,.bool true),(20,iI (i+1))]⟩) 60 tU (TS (fG id caps) Z N i) (TS (fG id caps) Z' N (i+1))=some ([aC .lss .i64 (Int.ofNat i) (Int.ofNat N)=some (.bool true),id=id,CA.v (.im (iI i))::(caps.map fun v=>CA.v (.im v))=CA.v (.im (iI i))::(caps.map fun v=>CA.v (.im v)),Int.ofNat i=Int.ofNat i,i<N,put Z (0+i*4) [.q x]=some Z',aC .add .i64 (Int.ofNat i) 1=some (iI (i+1))],.nrm,TS (fG id caps) Z' N (i+1)):=by kernel_rfl
theorem Ld (v:Value) (Z:List At) (N i:Nat):aH prog (qG prog) f30.ntmps (cF (aE [(12,.bool false)])) 40 tU (TS v Z N i) (TS v Z N i)=some ([aC .lss .i64 (Int.ofNat i) (Int.ofNat N)=some (.bool false)],.ex 0,TS v Z N i):=by kernel_rfl
theorem Cf (v:Value) (Z:List At) (N i:Nat):aH prog (qG prog) f30.ntmps (cF fun _=>none) 40 (cB (cB (cB eF))) (TS v Z N i) [.slot 4 (.sl 8 0 N N),.row 8 true Z]=some ([],.rt,[.slot 4 (.sl 8 0 N N),.row 8 true Z]):=by kernel_rfl
theorem tM:tZ (aB [At.q 0]) (.int .u64 0):=by unfold tZ; kernel_rfl
def UP (id:Nat):Prop:=∀args w,(callFunc id args).run prog w=.ok (.enter id args) w
theorem JC {w:World}:∀{caps vs:List Value},cO w (caps.map fun v=>.v (.im v)) vs→vs=caps
 | [],[],_=>rfl
 | [],_::_,h=>h.elim
 | _::_,[],h=>h.elim
 | c::cs,u::us,h=>by
  have h3:u=c:=h.1;rw[h3,JC h.2]
theorem Cp {w:World} {id:Nat} {caps:List Value} {i x:Nat} (hA:UP id) (h:bI prog id (.one (.fl [.q x])) (iI i::caps) w):BY prog (Lp id caps i x) w:=by
 intro f cs pre r hg hp;unfold Lp at hg;cases hg;obtain⟨rfl,rfl,_⟩:=hp;refine⟨hA,fun args ha => ?_⟩;have e:args=iI i::caps:=by
  match args,ha with
  | v::vs,ha =>
   have h1:v=iI i:=ha.1;subst h1;rw[JC ha.2]
  | [],ha=>exact ha.elim
 rw[e];exact h
theorem TQ {w0:World} {id:Nat} {caps:List Value} {N:Nat} {f:Nat→Nat} (hN:N≤131072) (hA:UP id) (hC:∀i,i<N→∀w',Below w0.heap.size w0 w'→bI prog id (.one (.fl [.q (f i)])) (iI i::caps) w') :
  Calls prog 30 #[iI N,fG id caps] w0 (fun e w'=>FR.ok ⟨aP (el f) 0 N,N,N,[]⟩ w0 e w'):=by
 have hG:bO prog (qG prog) w0.heap.size w0:=(bE _).w _ _;have hT:∀n d:Nat,TabOkW prog dB w0.heap.size w0:=fun _ _=>aY.w _ _
 refine bP func30 (cs:=[.v (.im (iI N)),.v (.im (fG id caps))]) (args:=[iI N,fG id caps]) (c:=eF) rfl ⟨rfl,rfl,trivial⟩ (Nat.le_of_ble_eq_true (by kernel_rfl)) fun a w' hA' => ?_
 rw[JD];refine wp_seq (aA aG hT hG (Vi _ _) trivial hA' fun a w' hA' => ?_);refine wp_seq (aA aG hT (MQ 8 N (aP (fun _=>[.q 0]) 0 N) _ _) (Vh _ N (aP (fun _=>[.q 0]) 0 N)) ⟨QQ (t:=22) (e:=25) (z:=[.q 0]) (v:=.int .u64 0) (n:=4) (by8:=32) (by kernel_rfl) (by kernel_rfl) rfl tM (by omega) (by omega) (by omega),trivial⟩ hA' fun a w' hA' => ?_);refine wp_seq (wp_seq (aA aG hT hG (Vg _ _ _) trivial hA' fun a w' hA' => ?_));refine wp_block ?_;rw[←RA (el f)]at hA';refine cH aG (fun i=>TS (fG id caps) (sV (el f) [.q 0] N i) N i) N (fun i hi => ?_) (.ex 0) (by simp) (TS (fG id caps) (aP (el f) 0 N) N N) ?_ hA' fun a w hA' => ?_
 ·exact⟨_,_,_,_,Mm 19 i (sV (el f) [.q 0] N (i+1)) _ _,fun _ _ w' hw=>Cp hA (hC i hi w' hw),Vj id caps _ _ N i (f i),bK hi,rfl,rfl,rfl,hi,zS (f:=el f) (c:=4) (fun _=>rfl) rfl hi (Nat.zero_add _),cX (k:=1) (by omega),trivial⟩
 ·rw[←QZ (el f) [.q 0] N];exact⟨_,_,_,_,hG,hT,Ld _ _ N N,bU (Nat.le_refl _),trivial⟩
 ·show (cB (cB (cB eF))).wp _ _ _ _;exact aA aG hT hG (Cf _ _ N N) trivial hA' fun a w' hA=>dE (r:=⟨aP (el f) 0 N,N,N,[]⟩) (by kernel_rfl) hA
def kX:List (Nat×TV)→List Fact
 | []=>[]
 | (s,t)::r=>.slot s t.av::kX r
theorem gA:∀{l:List (Nat×TV)} {φ:Fact},φ∈kX l→∃x∈l,φ=.slot x.1 x.2.av
 | x::r,φ,h=>by
  rcases List.mem_cons.1 h with rfl|h
  ·exact⟨x,List.mem_cons_self,rfl⟩
  ·obtain⟨y,h1,h2⟩:=gA h;exact⟨y,List.mem_cons_of_mem _ h1,h2⟩
theorem Holds.fresh {nt base:Nat} {w0:World} {A:List Fact} {a:Act} {w:World} (h:Holds nt base w0 A a w) (l:List (Nat×TV)) (hl:∀x∈l,a.tmps[x.1]?=some x.2.den):Holds nt w.heap.size w (kX l) a w:=by
 refine⟨h.defers,h.size,Below.refl _ _,Nat.le_refl _,fun _=>(w.heap.size,0,0),fun φ hφ => ?_,fun k k' o' l1 l2 h1 => ?_,fun k l1 h1 => ?_,Nat.le_refl _,fun p h1 h2=>⟨rfl,rfl⟩,Shape.refl _⟩
 ·obtain⟨x,hx,rfl⟩:=gA hφ;show a.tmps[x.1]?=_;rw[TV.av_den];exact hl x hx
 ·obtain⟨x,_,e⟩:=gA h1; cases e
 ·obtain⟨x,_,e⟩:=gA h1; cases e
theorem Holds.ptr {nt base:Nat} {w0:World} {A:List Fact} {a:Act} {w:World} (h:Holds nt base w0 A a w) {s k b:Nat} (h1:Fact.slot s (.pt k 0)∈A) (h2:Fact.at k b∈A):a.tmps[s]?=some (aT b 0):=by
 obtain⟨β,g1,g2⟩:=h.facts;have e1:=g1 _ h1;have e2:=g1 _ h2;simp only[Fact.ok,AV.den]at e1 e2;rw[e1,e2.1,e2.2];rfl
theorem FR.ok.older {r:FR} {w w1 w2:World} {e:Ending} (h:r.ok w1 e w2) (hb:Below w.heap.size w w1):r.ok w e w2:=by
 obtain⟨b,h1,h2,h3,h4⟩:=h;exact⟨b,h1,hb.trans (h2.mono hb.size),Nat.le_trans hb.size h3,h4⟩
def oI:Code:=(f29.body).getD .skip
theorem VI:oI=.seq (cA oI) (cB oI):=by kernel_rfl
theorem Nc (v:Value) (p:Option Addr) (N m:Nat) (h:v=.slice p N m):aH prog (qG prog) f29.ntmps (cF fun _=>none) 40 (cA oI) (dX 0 [.v (.im (.slice p N m))]) [.slot 1 (.pt 1 0),.row 1 true [.c (.slice p N m)]]=some ([],.nrm,[.slot 1 (.pt 1 0),.row 1 true [.c (.slice p N m)]]):=by kernel_rfl
def EU (v:Value) (T:Nat):iP
 | [.v (.im u)]=>some ([u=v],.one (.im (iI T)))
 | _=>none
def uL (id:Nat) (caps:List Value) (N:Nat) (f:Nat→Nat):List CA→Option (List Prop×FR)
 | [.v (.im n),.v (.im g)]=>some ([n=iI N,g=fG id caps],⟨aP (el f) 0 N,N,N,[]⟩)
 | _=>none
theorem qS {w:World} {v:Value} {N:Nat} {f:Nat→Nat} (hv:LV w v N f) (hN:N≤2305843009213693952):∀cs pre r,EU v (aF f N) cs=some (pre,r)→aR pre→∀(args:List Value),cO w cs args→bI prog 34 r args w:=by
 intro cs pre r hg hp args ha;unfold EU at hg;split at hg
 ·cases hg
  match args,ha with
  | [u],ha =>
   have h1:u=_:=ha.1;have h2:=hp.1;subst h1;subst h2;exact QT hv hN
  | [],ha=>exact ha.elim
  | _::_::_,ha=>exact ha.2.elim
 ·cases hg
theorem iY {w:World} {id:Nat} {caps:List Value} {N:Nat} {f:Nat→Nat} (hN:N≤131072) (hA:UP id) (hC:∀i,i<N→∀w',Below w.heap.size w w'→bI prog id (.one (.fl [.q (f i)])) (iI i::caps) w') :
  ∀cs pre r,uL id caps N f cs=some (pre,r)→aR pre→∀(args:List Value),cO w cs args→Calls prog 30 args.toArray w (fun e w'=>r.ok w e w'):=by
 intro cs pre r hg hp args ha;unfold uL at hg;split at hg
 ·cases hg
  match args,ha with
  | [u,t],ha =>
   have h1:u=_:=ha.1;have h2:t=_:=ha.2.1;subst h1; subst h2;have e1:=hp.1;have e2:=hp.2.1;subst e1; subst e2;exact TQ hN hA hC
  | [],ha=>exact ha.elim
  | [_],ha=>exact ha.2.elim
  | _::_::_::_,ha=>exact ha.2.2.elim
 ·cases hg
theorem WI (w:World) (b o N m i x bx:Nat):fH prog { qG prog with x:=xO w (aE [(6,i)]) (aE [(7,[.q x])]) (aE [(4,aS b o N m)]) } (cF fun _=>none) f50 40 [.v (.im (iI i)),.v (.im (aT bx 0))]=some ([oldOf w bx 0 [.c (aS b o N m)],Int.ofNat i=Int.ofNat i,i<N,oldOf w b (o+i*4) [.q x],cL [.q x]=4],.one (.fl [.q x])):=by kernel_rfl
theorem JO {w:World} {b o N m i bx:Nat} {f:Nat→Nat} (hi:i<N) (hb:b<w.heap.size) (hr:w.rangeAt b o (aB (aP (el f) 0 N))) (hx:oldOf w bx 0 [.c (aS b o N m)]):bI prog 50 (.one (.fl [.q (f i)])) [iI i,aT bx 0] w :=
 bC aG (fun _ _=>aY.w _ _) (cE w _ _ _) func50 (WI w b o N m i (f i) bx) ⟨hx,rfl,hi,cJ hb hr hi,rfl,trivial⟩ (args:=[iI i,aT bx 0]) ⟨rfl,rfl,trivial⟩
def xB (w:World) (gen:Nat→Option Value) (T2:Tab2):Ext:={ Ext.none with gen:=gen,old:=oldOf w,T2:=T2,T3:=vR,T4:=CH,T5:=CI,T6:=CJ }
theorem nJ {w:World} {gen:Nat→Option Value} {T2:Tab2} (h:∀w',Below w.heap.size w w'→FrAt prog T2 w'):bO prog { qG prog with x:=xB w gen T2 } w.heap.size w :=
 ⟨(bE _).1,eJ (fun b o l h=>h) h (fun w' _=>FsAt.none _ _)⟩
theorem Nb (w:World) (v:Value) (T N bx:Nat) (f:Nat→Nat):aH prog { qG prog with x:=xB w (aE [(3,v)]) (lY.add 30 (uL 50 [aT bx 0] T f)) } f29.ntmps (fun _=>⟨fun _=>dB.add 34 (EU v T),fun _=>true,fun _=>none⟩) 40 (cB oI) (kX [(1,.im (aT bx 0))]) [.slot 2 (.sl 6 0 T T),.row 6 true (aP (el f) 0 T)]=some ([oldOf w bx 0 [.c v],v=v,iI T=iI T,fG 50 [aT bx 0]=fG 50 [aT bx 0]],.rt,[.slot 2 (.sl 6 0 T T),.row 6 true (aP (el f) 0 T)]):=by kernel_rfl
theorem aX {P:Program} {fn:Func} {R R':Ending→World→Prop} {a:Act} {w:World} (h:bodyPost P fn R .ret a w) (hR:∀e w,R e w→R' e w):bodyPost P fn R' .ret a w:=by
 obtain⟨h1,v,h2,h3⟩:=h;exact⟨h1,v,h2,hR _ _ h3⟩
theorem rK {w0:World} {v:Value} {N:Nat} {f:Nat→Nat} (hv:LV w0 v N f) (hN:N≤131072):Calls prog 29 #[v] w0 (fun e w'=>FR.ok ⟨aP (el f) 0 (aF f N),aF f N,aF f N,[]⟩ w0 e w'):=by
 obtain⟨p,m,rfl,hm,h256,hmem⟩:=id hv;have hG:bO prog (qG prog) w0.heap.size w0:=(bE _).w _ _;have hT:∀n d:Nat,TabOkW prog dB w0.heap.size w0:=fun _ _=>aY.w _ _
 refine bP func29 (cs:=[.v (.im (.slice p N m))]) (args:=[.slice p N m]) (c:=oI) rfl ⟨rfl,trivial⟩ (Nat.le_of_ble_eq_true (by kernel_rfl)) fun a w1 hA => ?_
 rw[VI];refine wp_seq (aA aG hT hG (Nc _ p N m rfl) trivial hA fun a w1 hA => ?_);obtain⟨bx,hB⟩:=hA.at (k:=1) (l:=[.c (.slice p N m)]) (by simp);have hold:oldOf w1 bx 0 [.c (.slice p N m)]:=hB.old (k:=1) (by simp) (by simp);have hF:=hB.fresh [(1,.im (aT bx 0))] (fun x hx=>by
  cases List.mem_singleton.1 hx;exact hB.ptr (s:=1) (k:=1) (by simp) (by simp))
 have hlv:=hv.on hA.below;have hle:=cI f N;refine aA aG (fun _ _ w' hw => ?_) (nJ fun w' hw => ?_) (Nb w1 (.slice p N m) (aF f N) N bx f) ⟨hold,rfl,rfl,rfl,trivial⟩ hF fun a w2 hA2 => ?_
 ·exact TabOkW.add (base:=w1.heap.size) (w0:=w1) (aY.w _ _) func34 (by kernel_rfl) (by kernel_rfl) (fun w hw=>qS (hlv.on hw) (by omega)) w' hw
 ·refine (FrAt.none _ _).add func30 (by kernel_rfl) (by kernel_rfl) (iY (by omega) (fun args w=>bF func50 (by kernel_rfl) (by kernel_rfl) args w) fun i hi w3 hw3 => ?_);obtain⟨b,o,rfl,hb,hr⟩:=hmem (by omega);have hb3:=(hA.below.trans ((hw.trans (hw3.mono hw.size)).mono hA.below.size));have ho:=hold.1;exact JO (by omega) (Nat.lt_of_lt_of_le hb hb3.size) (dC hb3 hb hr) (oldOf.go (hw.trans (hw3.mono hw.size)) (Nat.le_refl _) hold)
 ·exact aX (dE (r:=⟨aP (el f) 0 (aF f N),aF f N,aF f N,[]⟩) (by kernel_rfl) hA2) fun e w h=>h.older hA.below
def hd (vs:Nat→Value) (j:Nat):List At:=[.c (vs j)]
def HV (w:World) (v:Value) (K:Nat) (vs:Nat→Value):Prop:=∃b o m,v=.slice (some ⟨b,o,none⟩) K m∧b<w.heap.size∧w.rangeAt b o (aB (aP (hd vs) 0 K))
theorem jZ {w:World} {b o N i:Nat} {f:Nat→Value} (hb:b<w.heap.size) (hr:w.rangeAt b o (aB (aP (hd f) 0 N))) (hi:i<N):oldOf w b (o+i*1) [.c (f i)] :=
 ⟨hb,uU (f:=hd f) (c:=1) (fun _=>rfl) hi hr⟩
def SD (v:Value) (N:Nat) (f:Nat→Nat):iP
 | [.v (.im u)]=>some ([u=v],.one (.im (.bool (decide (bD N f)))))
 | _=>none
theorem Ar {w:World} {v:Value} {N:Nat} {f:Nat→Nat} (hv:LV w v N f) (hN:N≤4611686018427387904):∀cs pre r,SD v N f cs=some (pre,r)→aR pre→∀(args:List Value),cO w cs args→bI prog 49 r args w:=by
 intro cs pre r hg hp args ha;unfold SD at hg;split at hg
 ·cases hg
  match args,ha with
  | [u],ha =>
   have h1:u=_:=ha.1;have h2:=hp.1;subst h1;subst h2;exact UK hv hN
  | [],ha=>exact ha.elim
  | _::_::_,ha=>exact ha.2.elim
 ·cases hg
def FJ (v:Value) (K i:Nat):List Fact:=[.slot 0 (.im v),.slot 7 (.im v),.slot 8 (.im (iI K)),.slot 9 (.im (iI i))]
def FI (v:Value) (K i:Nat):List Fact:=[.slot 17 (.im v),.slot 18 (.im (iI K)),.slot 19 (.im (iI i))]
def gF:Code:=(f28.body).getD .skip
def oF:Code:=fY (fY (cB (cA (cB gF))))
def oE:Code:=fY (fY (cB (cA (cB (cB gF)))))
theorem Bv:gF=.seq (cA gF) (.seq (.seq (cA (cA (cB gF))) (.block 0 (.loop oF))) (.seq (.seq (cA (cA (cB (cB gF)))) (.block 2 (.loop oE))) (cB (cB (cB gF))))):=by kernel_rfl
theorem Us (v:Value):aH prog (qG prog) f28.ntmps (cF fun _=>none) 40 (cA gF) (dX 0 [.v (.im v)]) [.slot 0 (.im v)]=some ([],.nrm,[.slot 0 (.im v)]):=by kernel_rfl
theorem Ur (p:Option Addr) (N m:Nat):aH prog (qG prog) f28.ntmps (cF fun _=>none) 40 (cA (cA (cB gF))) [.slot 0 (.im (.slice p N m))] (FJ (.slice p N m) N 0)=some ([],.nrm,FJ (.slice p N m) N 0):=by kernel_rfl
theorem Ut (w:World) (b o K m i:Nat) (p:Option Addr) (n' m':Nat):aH prog { qG prog with x:=xO w (aE [(11,i)]) (fun _=>none) (aE [(12,.slice p n' m')]) } f28.ntmps (cF (aE [(10,.bool true),(15,.bool false),(16,iI (i+1))])) 40 oF (FJ (aS b o K m) K i) (FJ (aS b o K m) K (i+1))=some ([aC .lss .i64 (Int.ofNat i) (Int.ofNat K)=some (.bool true),Int.ofNat i=Int.ofNat i,i<K,oldOf w b (o+i*1) [.c (.slice p n' m')],aC .gtr .i64 (Int.ofNat n') 65536=some (.bool false),aC .add .i64 (Int.ofNat i) 1=some (iI (i+1))],.nrm,FJ (aS b o K m) K (i+1)):=by kernel_rfl
theorem Uu (w:World) (b o K m i:Nat) (p:Option Addr) (n' m':Nat):aH prog { qG prog with x:=xO w (aE [(11,i)]) (fun _=>none) (aE [(12,.slice p n' m')]) } f28.ntmps (cF (aE [(10,.bool true),(15,.bool true)])) 40 oF (FJ (aS b o K m) K i) [.slot 2 (.im (.int .i64 72))]=some ([aC .lss .i64 (Int.ofNat i) (Int.ofNat K)=some (.bool true),Int.ofNat i=Int.ofNat i,i<K,oldOf w b (o+i*1) [.c (.slice p n' m')],aC .gtr .i64 (Int.ofNat n') 65536=some (.bool true)],.rt,[.slot 2 (.im (.int .i64 72))]):=by kernel_rfl
theorem Kv (v:Value) (K i:Nat):aH prog (qG prog) f28.ntmps (cF (aE [(10,.bool false)])) 40 oF (FJ v K i) (FJ v K i)=some ([aC .lss .i64 (Int.ofNat i) (Int.ofNat K)=some (.bool false)],.ex 0,FJ v K i):=by kernel_rfl
theorem Uq (p:Option Addr) (N m i:Nat):aH prog (qG prog) f28.ntmps (cF fun _=>none) 40 (cA (cA (cB (cB gF)))) (FJ (.slice p N m) N i) (FI (.slice p N m) N 0)=some ([],.nrm,FI (.slice p N m) N 0):=by kernel_rfl
theorem Ku (w:World) (b o K m i:Nat) (u:Value) (N:Nat) (f:Nat→Nat):aH prog { qG prog with x:=xO w (aE [(21,i)]) (fun _=>none) (aE [(22,u)]) } f28.ntmps (fun _=>⟨fun _=>dB.add 49 (SD u N f),fun _=>true,aE [(20,.bool true),(25,.bool false),(26,iI (i+1))]⟩) 40 oE (FI (aS b o K m) K i) (FI (aS b o K m) K (i+1))=some ([aC .lss .i64 (Int.ofNat i) (Int.ofNat K)=some (.bool true),Int.ofNat i=Int.ofNat i,i<K,oldOf w b (o+i*1) [.c u],u=u,Value.bool (!decide (bD N f))=.bool false,aC .add .i64 (Int.ofNat i) 1=some (iI (i+1))],.nrm,FI (aS b o K m) K (i+1)):=by kernel_rfl
theorem Kw (w:World) (b o K m i:Nat) (u:Value) (N:Nat) (f:Nat→Nat):aH prog { qG prog with x:=xO w (aE [(21,i)]) (fun _=>none) (aE [(22,u)]) } f28.ntmps (fun _=>⟨fun _=>dB.add 49 (SD u N f),fun _=>true,aE [(20,.bool true),(25,.bool true)]⟩) 40 oE (FI (aS b o K m) K i) [.slot 2 (.im (.int .i64 21))]=some ([aC .lss .i64 (Int.ofNat i) (Int.ofNat K)=some (.bool true),Int.ofNat i=Int.ofNat i,i<K,oldOf w b (o+i*1) [.c u],u=u,Value.bool (!decide (bD N f))=.bool true],.rt,[.slot 2 (.im (.int .i64 21))]):=by kernel_rfl
theorem Bu (v:Value) (K i:Nat):aH prog (qG prog) f28.ntmps (cF (aE [(20,.bool false)])) 40 oE (FI v K i) (FI v K i)=some ([aC .lss .i64 (Int.ofNat i) (Int.ofNat K)=some (.bool false)],.ex 2,FI v K i):=by kernel_rfl
theorem Bt (v:Value) (K i:Nat):aH prog (qG prog) f28.ntmps (cF fun _=>none) 40 (cB (cB (cB gF))) (FI v K i) [.slot 2 (.im (.int .i64 0))]=some ([],.rt,[.slot 2 (.im (.int .i64 0))]):=by kernel_rfl
def jB (K:Nat) (Ns:Nat→Nat):Prop:=∀j,j<K→Ns j≤65536
def jH (K:Nat) (Ns:Nat→Nat) (fs:Nat→Nat→Nat):Prop:=∀j,j<K→bD (Ns j) (fs j)
instance (K:Nat) (Ns:Nat→Nat):Decidable (jB K Ns):=Nat.decidableBallLT K fun j _=>Ns j≤65536
instance (K:Nat) (Ns:Nat→Nat) (fs:Nat→Nat→Nat):Decidable (jH K Ns fs):=Nat.decidableBallLT K fun j _=>bD (Ns j) (fs j)
def Bx (K:Nat) (Ns:Nat→Nat) (fs:Nat→Nat→Nat):Int:=if jB K Ns then (if jH K Ns fs then 0 else 21)else 72
theorem Ea {n:Nat} (h:n≤65536):aC .gtr .i64 (Int.ofNat n) 65536=some (.bool false):=by
 have:=@sK n 65536;rw[decide_eq_false (by omega)]at this;exact this
theorem Dz {n:Nat} (h:¬n≤65536):aC .gtr .i64 (Int.ofNat n) 65536=some (.bool true):=by
 have:=@sK n 65536;rw[decide_eq_true (by omega)]at this;exact this
theorem tQ {w0:World} {v:Value} {K:Nat} {vs:Nat→Value} {Ns:Nat→Nat} {fs:Nat→Nat→Nat} (hh:HV w0 v K vs) (hl:∀j,j<K→LV w0 (vs j) (Ns j) (fs j)) (hK:K≤64) (hB:∀j,j<K→Ns j≤4611686018427387904):bI prog 28 (.one (.im (.int .i64 (Bx K Ns fs)))) [v] w0:=by
 obtain⟨b,o,m,rfl,hb,hr⟩:=hh;have hG:bO prog (qG prog) w0.heap.size w0:=(bE _).w _ _;have hT:∀n d:Nat,TabOkW prog dB w0.heap.size w0:=fun _ _=>aY.w _ _
 have hT2:∀i,i<K→∀n d:Nat,TabOkW prog (dB.add 49 (SD (vs i) (Ns i) (fs i))) w0.heap.size w0:=fun i hi _ _=>TabOkW.add (aY.w _ _) func49 (by kernel_rfl) (by kernel_rfl) (fun w hw=>Ar ((hl i hi).on hw) (hB i hi))
 refine bP func28 (cs:=[.v (.im (aS b o K m))]) (args:=[aS b o K m]) (c:=gF) rfl ⟨rfl,trivial⟩ (Nat.le_of_ble_eq_true (by kernel_rfl)) fun a w' hA => ?_
 rw[Bv];refine wp_seq (aA aG hT hG (Us _) trivial hA fun a w' hA => ?_);refine wp_seq (wp_seq (aA aG hT hG (Ur _ K m) trivial hA fun a w' hA => ?_));refine wp_block ?_;have step:∀i,i<K→Ns i≤65536→Ok prog w0.heap.size w0 f28.ntmps oF (FJ (aS b o K m) K i) .nrm (FJ (aS b o K m) K (i+1)):=fun i hi hs=>by
  obtain⟨p,m',e,_⟩:=hl i hi;have ho:=jZ hb hr hi;rw[e]at ho;exact⟨_,_,_,_,cE w0 _ _ _,hT,Ut w0 b o K m i p (Ns i) m',bK hi,rfl,hi,ho,Ea hs,cX (k:=1) (by omega),trivial⟩
 unfold Bx
 by_cases hs:jB K Ns
 ·rw[if_pos hs];refine cH aG (fun i=>FJ (aS b o K m) K i) K (fun i hi=>step i hi (hs i hi)) (.ex 0) (by simp) (FJ (aS b o K m) K K) ⟨_,_,_,_,hG,hT,Kv _ K K,bU (Nat.le_refl _),trivial⟩ hA fun a w hA => ?_
  refine wp_seq (wp_seq (aA aG hT hG (Uq _ K m K) trivial hA fun a w' hA => ?_));refine wp_block ?_;have step2:∀i,i<K→bD (Ns i) (fs i)→Ok prog w0.heap.size w0 f28.ntmps oE (FI (aS b o K m) K i) .nrm (FI (aS b o K m) K (i+1)):=fun i hi hs =>
   ⟨_,_,_,_,cE w0 _ _ _,hT2 i hi,Ku w0 b o K m i (vs i) (Ns i) (fs i),bK hi,rfl,hi,jZ hb hr hi,rfl,by rw[decide_eq_true hs]; rfl,cX (k:=1) (by omega),trivial⟩
  by_cases hl2:jH K Ns fs
  ·rw[if_pos hl2];refine cH aG (fun i=>FI (aS b o K m) K i) K (fun i hi=>step2 i hi (hl2 i hi)) (.ex 2) (by simp) (FI (aS b o K m) K K) ⟨_,_,_,_,hG,hT,Bu _ K K,bU (Nat.le_refl _),trivial⟩ hA fun a w hA => ?_
   show (cB (cB (cB gF))).wp _ _ _ _;exact aA aG hT hG (Bt _ K K) trivial hA fun a w' hA=>bH (l:=[.im (.int .i64 0)]) (r:=.one (.im (.int .i64 0))) (by kernel_rfl) (by kernel_rfl) hA
  ·rw[if_neg hl2];obtain⟨j,hj,h1,h2⟩:=eU (p:=fun j=>bD (Ns j) (fs j)) hl2;refine cH aG (fun i=>FI (aS b o K m) K i) j (fun i hi=>step2 i (by omega) (h1 i hi)) .rt (by simp) [.slot 2 (.im (.int .i64 21))] ⟨_,_,_,_,cE w0 _ _ _,hT2 j hj,Kw w0 b o K m j (vs j) (Ns j) (fs j),bK hj,rfl,hj,jZ hb hr hj,rfl,by rw[decide_eq_false h2]; rfl,trivial⟩ hA fun a w hA => ?_
   exact bH (l:=[.im (.int .i64 21)]) (r:=.one (.im (.int .i64 21))) (by kernel_rfl) (by kernel_rfl) hA
 ·rw[if_neg hs];obtain⟨j,hj,h1,h2⟩:=eU (p:=fun j=>Ns j≤65536) hs;obtain⟨p,m',e,_⟩:=hl j hj;have ho:=jZ hb hr hj;rw[e]at ho;refine cH aG (fun i=>FJ (aS b o K m) K i) j (fun i hi=>step i (by omega) (h1 i hi)) .rt (by simp) [.slot 2 (.im (.int .i64 72))] ⟨_,_,_,_,cE w0 _ _ _,hT,Uu w0 b o K m j p (Ns j) m',bK hj,rfl,hj,ho,Dz h2,trivial⟩ hA fun a w hA => ?_
  exact bH (l:=[.im (.int .i64 72)]) (r:=.one (.im (.int .i64 72))) (by kernel_rfl) (by kernel_rfl) hA
end Go.Proofs.YtjjnbgoepbiojaaGreat.Ex
