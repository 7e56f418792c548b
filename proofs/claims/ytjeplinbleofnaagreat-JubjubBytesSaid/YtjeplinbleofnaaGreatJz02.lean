/- Jz02 -/
import Derived.Deep.RegionHeld3
import Derived.Deep.DeepCutAuto
import Derived.RegionTactic
import Derived.Deep.LoopGhost
import Derived.Laws.AppendOwn
import Derived.Laws.OwnMore
import GoSem.Claim
import Derived.Below
import Derived.Deep.MidRow
import Derived.Great.BuildSlice
import Derived.RangeFuncOwn
import Derived.Test.YtjeplinbleofnaaGreatJz01
import Derived.Test.YtjeplinbleofnaaGreatJz00
import Derived.Test.YtjeplinbleofnaaGreatProg
set_option maxRecDepth 100000
set_option linter.unusedVariables false
set_option linter.unusedSimpArgs false
set_option linter.unnecessarySimpa false
namespace Go.Proofs.YtjeplinbleofnaaGreat
open Go.Proofs.Tryz
open Go.RowKit
def FieldIs (f:Int) (F:FC):Prop:=f=1∧F=FP∨f=2∧F=FR
theorem FieldIs.ok {f:Int} {F:FC} (h:FieldIs f F):F.Ok:=by rcases h with⟨_,rfl⟩|⟨_,rfl⟩; exact Na; exact ZP
theorem FieldIs.root {f:Int} {F:FC} (h:FieldIs f F):∃g,Root F.M g:=by
 rcases h with⟨_,rfl⟩|⟨_,rfl⟩
 ·exact⟨3,by rw[Qs]; exact As⟩
 ·exact⟨5,by rw[Fz]; exact NW⟩
def Bad1 (f:Int) (A:Nat) (c:Int):Prop:=f≠1∧f≠2∧c=1∨∃F,FieldIs f F∧¬A<F.M∧c=21
def Bad2 (f:Int) (A B:Nat) (c:Int):Prop:=Bad1 f A c∨∃F,FieldIs f F∧A<F.M∧¬B<F.M∧c=21
def TA (c:Int) (V:Nat) (w:World) (e:Ending) (w':World):Prop :=
 ∃s0 s1 s2 s3:Nat,e=.returned (.tuple #[.agg #[.int .u64 s0,.int .u64 s1,.int .u64 s2,.int .u64 s3],.int .i64 c])∧aX s0 s1 s2 s3∧aA s0 s1 s2 s3=V∧Below w.heap.size w w'
theorem vB:aX 0 0 0 0:=⟨by omega,by omega,by omega,by omega⟩
theorem KIs.new (w:World) (F:FC) (t:TypeId):KIs (w.alloc (.cells #[.int .u64 F.m0,.int .u64 F.m1,.int .u64 F.m2,.int .u64 F.m3,.int .u64 F.inv,.int .u64 F.s0,.int .u64 F.s1,.int .u64 F.s2,.int .u64 F.s3] t)) w.heap.size F :=
 ⟨by rw[World.cell?_alloc_new]; rfl,by rw[World.cell?_alloc_new]; rfl,by rw[World.cell?_alloc_new]; rfl,by rw[World.cell?_alloc_new]; rfl,by rw[World.cell?_alloc_new]; rfl,by rw[World.cell?_alloc_new]; rfl,by rw[World.cell?_alloc_new]; rfl,by rw[World.cell?_alloc_new]; rfl,by rw[World.cell?_alloc_new]; rfl,by simp⟩
set_option maxHeartbeats 2000000 in
theorem dA (f:Int) (F:FC) (hf:FieldIs f F) (w:World):Calls prog 36 #[.int .i64 f] w fun e w'=>e=.returned (.tuple #[.agg #[.int .u64 F.m0,.int .u64 F.m1,.int .u64 F.m2,.int .u64 F.m3,.int .u64 F.inv,.int .u64 F.s0,.int .u64 F.s1,.int .u64 F.s2,.int .u64 F.s3],.int .i64 0])∧Below w.heap.size w w':=by
 rcases hf with⟨rfl,rfl⟩|⟨rfl,rfl⟩
 ·go_enter func36,ntmps36
  go_wp2_with fail;refine bodyPost_ret (v:=.tuple #[.agg #[.int .u64 FP.m0,.int .u64 FP.m1,.int .u64 FP.m2,.int .u64 FP.m3,.int .u64 FP.inv,.int .u64 FP.s0,.int .u64 FP.s1,.int .u64 FP.s2,.int .u64 FP.s3],.int .i64 0]) (by simp[results,results36,go_sem,FP]) rfl ?_;refine⟨rfl,?_⟩
  repeat (first|exact Below.refl _ _|refine Below.drew ?_|refine Below.alloc ?_ (by first|(simp; done)|(simp; omega)) _|refine Below.setCell ?_ (by simp) _)
 ·go_enter func36,ntmps36
  go_wp2_with fail;refine bodyPost_ret (v:=.tuple #[.agg #[.int .u64 FR.m0,.int .u64 FR.m1,.int .u64 FR.m2,.int .u64 FR.m3,.int .u64 FR.inv,.int .u64 FR.s0,.int .u64 FR.s1,.int .u64 FR.s2,.int .u64 FR.s3],.int .i64 0]) (by simp[results,results36,go_sem,FR]) rfl ?_;refine⟨rfl,?_⟩
  repeat (first|exact Below.refl _ _|refine Below.drew ?_|refine Below.alloc ?_ (by first|(simp; done)|(simp; omega)) _|refine Below.setCell ?_ (by simp) _)
set_option maxHeartbeats 2000000 in
theorem LB (f:Int) (h1:f≠1) (h2:f≠2) (w:World):Calls prog 36 #[.int .i64 f] w fun e w'=>e=.returned (.tuple #[.agg #[.int .u64 0,.int .u64 0,.int .u64 0,.int .u64 0,.int .u64 0,.int .u64 0,.int .u64 0,.int .u64 0,.int .u64 0],.int .i64 1])∧Below w.heap.size w w':=by
 have t1:(f==1)=false:=by simp[h1]
 have t2:(f==2)=false:=by simp[h2]
 go_enter func36,ntmps36
 go_wp2_with fail;refine bodyPost_ret (v:=.tuple #[.agg #[.int .u64 0,.int .u64 0,.int .u64 0,.int .u64 0,.int .u64 0,.int .u64 0,.int .u64 0,.int .u64 0,.int .u64 0],.int .i64 1]) (by simp[results,results36,go_sem]) rfl ?_;refine⟨rfl,?_⟩
 repeat (first|exact Below.refl _ _|refine Below.drew ?_|refine Below.alloc ?_ (by first|(simp; done)|(simp; omega)) _|refine Below.setCell ?_ (by simp) _)
theorem yA (w:World):Calls prog 38 #[.int .i64 1] w fun e w'=>e=.returned (.int .i64 1)∧w'=w:=by
 go_enter func38,ntmps38
 go_wp2_with fail;go_ret;exact⟨rfl,rfl⟩
theorem pG (w:World):Calls prog 38 #[.int .i64 0] w fun e w'=>e=.returned (.int .i64 21)∧w'=w:=by
 go_enter func38,ntmps38
 go_wp2_with fail;go_ret;exact⟨rfl,rfl⟩
set_option maxHeartbeats 2000000 in
theorem WQ (f:Int) (F:FC) (hf:FieldIs f F) (a0 a1 a2 a3 b0 b1 b2 b3:Nat) (ha:aX a0 a1 a2 a3) (hb:aX b0 b1 b2 b3) (la:aA a0 a1 a2 a3<F.M) (lb:aA b0 b1 b2 b3<F.M) (w:World) :
  Calls prog 115 #[.int .i64 f,.agg #[.int .u64 a0,.int .u64 a1,.int .u64 a2,.int .u64 a3],.agg #[.int .u64 b0,.int .u64 b1,.int .u64 b2,.int .u64 b3]] w (TA 0 ((aA a0 a1 a2 a3+aA b0 b1 b2 b3)%F.M) w):=by
 go_enter func115,ntmps115
 go_wp2_with fail;refine (dA f F hf _).mono ?_
 rintro e w1 ⟨rfl,hbl⟩
 have M1:=((((Mem.nil w).new (w.heap.size) a0 a1 a2 a3 24 (by simp)).new (w.heap.size+1) b0 b1 b2 b3 24 (by simp)).new (w.heap.size+1+1) 0 0 0 0 24 (by simp)).on hbl;clear hbl;have z0:w.heap.size<w1.heap.size:=M1.lt (c0:=a0) (c1:=a1) (c2:=a2) (c3:=a3) (by simp);have z1:w.heap.size+1<w1.heap.size:=M1.lt (c0:=b0) (c1:=b1) (c2:=b2) (c3:=b3) (by simp);have z2:w.heap.size+1+1<w1.heap.size:=M1.lt (c0:=0) (c1:=0) (c2:=0) (c3:=0) (by simp);have HM:=Lib.hid (M1.on ((Below.refl _ _).alloc (Nat.le_refl _) (.cells #[.int .u64 F.m0,.int .u64 F.m1,.int .u64 F.m2,.int .u64 F.m3,.int .u64 F.inv,.int .u64 F.s0,.int .u64 F.s1,.int .u64 F.s2,.int .u64 F.s3] 70)));have KK:=Lib.hid (KIs.new w1 F 70);have kr:=M1.row (b:=w.heap.size) (c0:=a0) (c1:=a1) (c2:=a2) (c3:=a3) (by simp);have x0:=kr.c0; have x1:=kr.c1; have x2:=kr.c2; have x3:=kr.c3;clear kr;have xl:=M1.lt (b:=w.heap.size) (c0:=a0) (c1:=a1) (c2:=a2) (c3:=a3) (by simp);go_wp2_with fail;refine (cF F hf.ok w1.heap.size a0 a1 a2 a3 ha _ KK.out).mono ?_
 rintro e w2 ⟨he,hbl⟩
 rw[show sI (aA a0 a1 a2 a3) F.M=true from decide_eq_true la]at he;subst he;have HM':=Lib.hid (HM.out.on hbl);have KK':=Lib.hid (KK.out.same hbl);have zk:=KK'.out.lt;clear HM KK hbl M1;have HM:=HM';have KK:=KK';clear HM' KK';clear x0 x1 x2 x3 xl zk;have kr:=HM.out.row (b:=w.heap.size+1) (c0:=b0) (c1:=b1) (c2:=b2) (c3:=b3) (by simp);have x0:=kr.c0; have x1:=kr.c1; have x2:=kr.c2; have x3:=kr.c3;clear kr;have xl:=HM.out.lt (b:=w.heap.size+1) (c0:=b0) (c1:=b1) (c2:=b2) (c3:=b3) (by simp);go_wp2_with fail;refine (cF F hf.ok w1.heap.size b0 b1 b2 b3 hb _ KK.out).mono ?_
 rintro e w3 ⟨he,hbl⟩
 rw[show sI (aA b0 b1 b2 b3) F.M=true from decide_eq_true lb]at he;subst he;have HM':=Lib.hid (HM.out.on hbl);have KK':=Lib.hid (KK.out.same hbl);have zk:=KK'.out.lt;clear HM KK hbl;have HM:=HM';have KK:=KK';clear HM' KK';clear x0 x1 x2 x3 xl zk;have kr:=HM.out.row (b:=w.heap.size) (c0:=a0) (c1:=a1) (c2:=a2) (c3:=a3) (by simp);have x0:=kr.c0; have x1:=kr.c1; have x2:=kr.c2; have x3:=kr.c3;clear kr;have xl:=HM.out.lt (b:=w.heap.size) (c0:=a0) (c1:=a1) (c2:=a2) (c3:=a3) (by simp);have kr:=HM.out.row (b:=w.heap.size+1) (c0:=b0) (c1:=b1) (c2:=b2) (c3:=b3) (by simp);have u0:=kr.c0; have u1:=kr.c1; have u2:=kr.c2; have u3:=kr.c3;clear kr;have ul:=HM.out.lt (b:=w.heap.size+1) (c0:=b0) (c1:=b1) (c2:=b2) (c3:=b3) (by simp);go_wp2_with fail;refine (CG F hf.ok w1.heap.size a0 a1 a2 a3 b0 b1 b2 b3 ha hb la lb _ KK.out).mono ?_
 rintro e w4 ⟨s0,s1,s2,s3,rfl,hs,hv,hbl⟩
 have HV:=Lib.hid hv;clear hv;have HM':=Lib.hid (HM.out.on hbl);have KK':=Lib.hid (KK.out.same hbl);have zk:=KK'.out.lt;clear HM KK hbl;have HM:=HM';have KK:=KK';clear HM' KK';clear x0 x1 x2 x3 xl u0 u1 u2 u3 ul zk;have kr:=HM.out.row (b:=w.heap.size+1+1) (c0:=0) (c1:=0) (c2:=0) (c3:=0) (by simp);have y0:=kr.c0; have y1:=kr.c1; have y2:=kr.c2; have y3:=kr.c3; have yf:=kr.fr;clear kr;have yl:=HM.out.lt (b:=w.heap.size+1+1) (c0:=0) (c1:=0) (c2:=0) (c3:=0) (by simp);go_wp2_with fail;refine bodyPost_ret (v:=.tuple #[.agg #[.int .u64 s0,.int .u64 s1,.int .u64 s2,.int .u64 s3],.int .i64 0]) (by simp[results,results115,go_sem, *]) rfl ?_;refine⟨_,_,_,_,rfl,hs,HV.out,?_⟩;exact aL HM.out.1 (by omega) _ _ _ _
set_option maxHeartbeats 2000000 in
theorem WL (f:Int) (F:FC) (hf:FieldIs f F) (a0 a1 a2 a3 b0 b1 b2 b3:Nat) (ha:aX a0 a1 a2 a3) (hb:aX b0 b1 b2 b3) (la:aA a0 a1 a2 a3<F.M) (lb:aA b0 b1 b2 b3<F.M) (w:World) :
  Calls prog 93 #[.int .i64 f,.agg #[.int .u64 a0,.int .u64 a1,.int .u64 a2,.int .u64 a3],.agg #[.int .u64 b0,.int .u64 b1,.int .u64 b2,.int .u64 b3]] w (TA 0 ((aA a0 a1 a2 a3+F.M-aA b0 b1 b2 b3)%F.M) w):=by
 go_enter func93,ntmps93
 go_wp2_with fail;refine (dA f F hf _).mono ?_
 rintro e w1 ⟨rfl,hbl⟩
 have M1:=((((Mem.nil w).new (w.heap.size) a0 a1 a2 a3 24 (by simp)).new (w.heap.size+1) b0 b1 b2 b3 24 (by simp)).new (w.heap.size+1+1) 0 0 0 0 24 (by simp)).on hbl;clear hbl;have z0:w.heap.size<w1.heap.size:=M1.lt (c0:=a0) (c1:=a1) (c2:=a2) (c3:=a3) (by simp);have z1:w.heap.size+1<w1.heap.size:=M1.lt (c0:=b0) (c1:=b1) (c2:=b2) (c3:=b3) (by simp);have z2:w.heap.size+1+1<w1.heap.size:=M1.lt (c0:=0) (c1:=0) (c2:=0) (c3:=0) (by simp);have HM:=Lib.hid (M1.on ((Below.refl _ _).alloc (Nat.le_refl _) (.cells #[.int .u64 F.m0,.int .u64 F.m1,.int .u64 F.m2,.int .u64 F.m3,.int .u64 F.inv,.int .u64 F.s0,.int .u64 F.s1,.int .u64 F.s2,.int .u64 F.s3] 70)));have KK:=Lib.hid (KIs.new w1 F 70);have kr:=M1.row (b:=w.heap.size) (c0:=a0) (c1:=a1) (c2:=a2) (c3:=a3) (by simp);have x0:=kr.c0; have x1:=kr.c1; have x2:=kr.c2; have x3:=kr.c3;clear kr;have xl:=M1.lt (b:=w.heap.size) (c0:=a0) (c1:=a1) (c2:=a2) (c3:=a3) (by simp);go_wp2_with fail;refine (cF F hf.ok w1.heap.size a0 a1 a2 a3 ha _ KK.out).mono ?_
 rintro e w2 ⟨he,hbl⟩
 rw[show sI (aA a0 a1 a2 a3) F.M=true from decide_eq_true la]at he;subst he;have HM':=Lib.hid (HM.out.on hbl);have KK':=Lib.hid (KK.out.same hbl);have zk:=KK'.out.lt;clear HM KK hbl M1;have HM:=HM';have KK:=KK';clear HM' KK';clear x0 x1 x2 x3 xl zk;have kr:=HM.out.row (b:=w.heap.size+1) (c0:=b0) (c1:=b1) (c2:=b2) (c3:=b3) (by simp);have x0:=kr.c0; have x1:=kr.c1; have x2:=kr.c2; have x3:=kr.c3;clear kr;have xl:=HM.out.lt (b:=w.heap.size+1) (c0:=b0) (c1:=b1) (c2:=b2) (c3:=b3) (by simp);go_wp2_with fail;refine (cF F hf.ok w1.heap.size b0 b1 b2 b3 hb _ KK.out).mono ?_
 rintro e w3 ⟨he,hbl⟩
 rw[show sI (aA b0 b1 b2 b3) F.M=true from decide_eq_true lb]at he;subst he;have HM':=Lib.hid (HM.out.on hbl);have KK':=Lib.hid (KK.out.same hbl);have zk:=KK'.out.lt;clear HM KK hbl;have HM:=HM';have KK:=KK';clear HM' KK';clear x0 x1 x2 x3 xl zk;have kr:=HM.out.row (b:=w.heap.size) (c0:=a0) (c1:=a1) (c2:=a2) (c3:=a3) (by simp);have x0:=kr.c0; have x1:=kr.c1; have x2:=kr.c2; have x3:=kr.c3;clear kr;have xl:=HM.out.lt (b:=w.heap.size) (c0:=a0) (c1:=a1) (c2:=a2) (c3:=a3) (by simp);have kr:=HM.out.row (b:=w.heap.size+1) (c0:=b0) (c1:=b1) (c2:=b2) (c3:=b3) (by simp);have u0:=kr.c0; have u1:=kr.c1; have u2:=kr.c2; have u3:=kr.c3;clear kr;have ul:=HM.out.lt (b:=w.heap.size+1) (c0:=b0) (c1:=b1) (c2:=b2) (c3:=b3) (by simp);go_wp2_with fail;refine (kP F hf.ok w1.heap.size a0 a1 a2 a3 b0 b1 b2 b3 ha hb la lb _ KK.out).mono ?_
 rintro e w4 ⟨s0,s1,s2,s3,rfl,hs,hv,hbl⟩
 have HV:=Lib.hid hv;clear hv;have HM':=Lib.hid (HM.out.on hbl);have KK':=Lib.hid (KK.out.same hbl);have zk:=KK'.out.lt;clear HM KK hbl;have HM:=HM';have KK:=KK';clear HM' KK';clear x0 x1 x2 x3 xl u0 u1 u2 u3 ul zk;have kr:=HM.out.row (b:=w.heap.size+1+1) (c0:=0) (c1:=0) (c2:=0) (c3:=0) (by simp);have y0:=kr.c0; have y1:=kr.c1; have y2:=kr.c2; have y3:=kr.c3; have yf:=kr.fr;clear kr;have yl:=HM.out.lt (b:=w.heap.size+1+1) (c0:=0) (c1:=0) (c2:=0) (c3:=0) (by simp);go_wp2_with fail;refine bodyPost_ret (v:=.tuple #[.agg #[.int .u64 s0,.int .u64 s1,.int .u64 s2,.int .u64 s3],.int .i64 0]) (by simp[results,results93,go_sem, *]) rfl ?_;refine⟨_,_,_,_,rfl,hs,HV.out,?_⟩;exact aL HM.out.1 (by omega) _ _ _ _
set_option maxHeartbeats 2000000 in
theorem WN (f:Int) (F:FC) (hf:FieldIs f F) (a0 a1 a2 a3 b0 b1 b2 b3:Nat) (ha:aX a0 a1 a2 a3) (hb:aX b0 b1 b2 b3) (la:aA a0 a1 a2 a3<F.M) (lb:aA b0 b1 b2 b3<F.M) (w:World) :
  Calls prog 106 #[.int .i64 f,.agg #[.int .u64 a0,.int .u64 a1,.int .u64 a2,.int .u64 a3],.agg #[.int .u64 b0,.int .u64 b1,.int .u64 b2,.int .u64 b3]] w (TA 0 (aA a0 a1 a2 a3*aA b0 b1 b2 b3%F.M) w):=by
 go_enter func106,ntmps106
 go_wp2_with fail;refine (dA f F hf _).mono ?_
 rintro e w1 ⟨rfl,hbl⟩
 have M1:=((((Mem.nil w).new (w.heap.size) a0 a1 a2 a3 24 (by simp)).new (w.heap.size+1) b0 b1 b2 b3 24 (by simp)).new (w.heap.size+1+1) 0 0 0 0 24 (by simp)).on hbl;clear hbl;have z0:w.heap.size<w1.heap.size:=M1.lt (c0:=a0) (c1:=a1) (c2:=a2) (c3:=a3) (by simp);have z1:w.heap.size+1<w1.heap.size:=M1.lt (c0:=b0) (c1:=b1) (c2:=b2) (c3:=b3) (by simp);have z2:w.heap.size+1+1<w1.heap.size:=M1.lt (c0:=0) (c1:=0) (c2:=0) (c3:=0) (by simp);have HM:=Lib.hid (M1.on ((Below.refl _ _).alloc (Nat.le_refl _) (.cells #[.int .u64 F.m0,.int .u64 F.m1,.int .u64 F.m2,.int .u64 F.m3,.int .u64 F.inv,.int .u64 F.s0,.int .u64 F.s1,.int .u64 F.s2,.int .u64 F.s3] 70)));have KK:=Lib.hid (KIs.new w1 F 70);have kr:=M1.row (b:=w.heap.size) (c0:=a0) (c1:=a1) (c2:=a2) (c3:=a3) (by simp);have x0:=kr.c0; have x1:=kr.c1; have x2:=kr.c2; have x3:=kr.c3;clear kr;have xl:=M1.lt (b:=w.heap.size) (c0:=a0) (c1:=a1) (c2:=a2) (c3:=a3) (by simp);go_wp2_with fail;refine (cF F hf.ok w1.heap.size a0 a1 a2 a3 ha _ KK.out).mono ?_
 rintro e w2 ⟨he,hbl⟩
 rw[show sI (aA a0 a1 a2 a3) F.M=true from decide_eq_true la]at he;subst he;have HM':=Lib.hid (HM.out.on hbl);have KK':=Lib.hid (KK.out.same hbl);have zk:=KK'.out.lt;clear HM KK hbl M1;have HM:=HM';have KK:=KK';clear HM' KK';clear x0 x1 x2 x3 xl zk;have kr:=HM.out.row (b:=w.heap.size+1) (c0:=b0) (c1:=b1) (c2:=b2) (c3:=b3) (by simp);have x0:=kr.c0; have x1:=kr.c1; have x2:=kr.c2; have x3:=kr.c3;clear kr;have xl:=HM.out.lt (b:=w.heap.size+1) (c0:=b0) (c1:=b1) (c2:=b2) (c3:=b3) (by simp);go_wp2_with fail;refine (cF F hf.ok w1.heap.size b0 b1 b2 b3 hb _ KK.out).mono ?_
 rintro e w3 ⟨he,hbl⟩
 rw[show sI (aA b0 b1 b2 b3) F.M=true from decide_eq_true lb]at he;subst he;have HM':=Lib.hid (HM.out.on hbl);have KK':=Lib.hid (KK.out.same hbl);have zk:=KK'.out.lt;clear HM KK hbl;have HM:=HM';have KK:=KK';clear HM' KK';clear x0 x1 x2 x3 xl zk;have kr:=HM.out.row (b:=w.heap.size) (c0:=a0) (c1:=a1) (c2:=a2) (c3:=a3) (by simp);have x0:=kr.c0; have x1:=kr.c1; have x2:=kr.c2; have x3:=kr.c3;clear kr;have xl:=HM.out.lt (b:=w.heap.size) (c0:=a0) (c1:=a1) (c2:=a2) (c3:=a3) (by simp);have kr:=HM.out.row (b:=w.heap.size+1) (c0:=b0) (c1:=b1) (c2:=b2) (c3:=b3) (by simp);have u0:=kr.c0; have u1:=kr.c1; have u2:=kr.c2; have u3:=kr.c3;clear kr;have ul:=HM.out.lt (b:=w.heap.size+1) (c0:=b0) (c1:=b1) (c2:=b2) (c3:=b3) (by simp);go_wp2_with fail;refine (tJ F hf.ok w1.heap.size a0 a1 a2 a3 b0 b1 b2 b3 ha hb lb _ KK.out).mono ?_
 rintro e w4 ⟨s0,s1,s2,s3,rfl,hs,hv,hbl⟩
 have HV:=Lib.hid hv;clear hv;have HM':=Lib.hid (HM.out.on hbl);have KK':=Lib.hid (KK.out.same hbl);have zk:=KK'.out.lt;clear HM KK hbl;have HM:=HM';have KK:=KK';clear HM' KK';clear x0 x1 x2 x3 xl u0 u1 u2 u3 ul zk;have kr:=HM.out.row (b:=w.heap.size+1+1) (c0:=0) (c1:=0) (c2:=0) (c3:=0) (by simp);have y0:=kr.c0; have y1:=kr.c1; have y2:=kr.c2; have y3:=kr.c3; have yf:=kr.fr;clear kr;have yl:=HM.out.lt (b:=w.heap.size+1+1) (c0:=0) (c1:=0) (c2:=0) (c3:=0) (by simp);go_wp2_with fail;refine bodyPost_ret (v:=.tuple #[.agg #[.int .u64 s0,.int .u64 s1,.int .u64 s2,.int .u64 s3],.int .i64 0]) (by simp[results,results106,go_sem, *]) rfl ?_;refine⟨_,_,_,_,rfl,hs,HV.out,?_⟩;exact aL HM.out.1 (by omega) _ _ _ _
set_option maxHeartbeats 2000000 in
theorem DI (f c:Int) (a0 a1 a2 a3:Nat) (ha:aX a0 a1 a2 a3) (h:Bad1 f (aA a0 a1 a2 a3) c) (w:World) :
  Calls prog 100 #[.int .i64 f,.agg #[.int .u64 a0,.int .u64 a1,.int .u64 a2,.int .u64 a3]] w fun e w'=>e=.returned (.int .i64 c)∧Below w.heap.size w w':=by
 rcases h with⟨h1,h2,rfl⟩|⟨F,hf,la,rfl⟩
 ·go_enter func100,ntmps100
  go_wp2_with fail;refine (LB f h1 h2 _).mono ?_
  rintro e w1 ⟨rfl,hbl⟩
  have M1:=((Mem.nil w).new (w.heap.size) a0 a1 a2 a3 24 (by simp)).on hbl;clear hbl;have z0:w.heap.size<w1.heap.size:=M1.lt (c0:=a0) (c1:=a1) (c2:=a2) (c3:=a3) (by simp);have HM:=Lib.hid (M1.on ((Below.refl _ _).alloc (Nat.le_refl _) (.cells #[.int .u64 0,.int .u64 0,.int .u64 0,.int .u64 0,.int .u64 0,.int .u64 0,.int .u64 0,.int .u64 0,.int .u64 0] 70)));go_wp2_with fail;refine (yA _).mono ?_
  rintro e w2 ⟨rfl,rfl⟩
  go_wp2_with fail;refine bodyPost_ret (v:=.int .i64 1) (by simp[results,results100,go_sem, *]) rfl ?_;exact⟨rfl,HM.out.1⟩
 ·go_enter func100,ntmps100
  go_wp2_with fail;refine (dA f F hf _).mono ?_
  rintro e w1 ⟨rfl,hbl⟩
  have M1:=((Mem.nil w).new (w.heap.size) a0 a1 a2 a3 24 (by simp)).on hbl;clear hbl;have z0:w.heap.size<w1.heap.size:=M1.lt (c0:=a0) (c1:=a1) (c2:=a2) (c3:=a3) (by simp);have HM:=Lib.hid (M1.on ((Below.refl _ _).alloc (Nat.le_refl _) (.cells #[.int .u64 F.m0,.int .u64 F.m1,.int .u64 F.m2,.int .u64 F.m3,.int .u64 F.inv,.int .u64 F.s0,.int .u64 F.s1,.int .u64 F.s2,.int .u64 F.s3] 70)));have KK:=Lib.hid (KIs.new w1 F 70);have kr:=M1.row (b:=w.heap.size) (c0:=a0) (c1:=a1) (c2:=a2) (c3:=a3) (by simp);have x0:=kr.c0; have x1:=kr.c1; have x2:=kr.c2; have x3:=kr.c3;clear kr;have xl:=M1.lt (b:=w.heap.size) (c0:=a0) (c1:=a1) (c2:=a2) (c3:=a3) (by simp);go_wp2_with fail;refine (cF F hf.ok w1.heap.size a0 a1 a2 a3 ha _ KK.out).mono ?_
  rintro e w2 ⟨he,hbl⟩
  rw[show sI (aA a0 a1 a2 a3) F.M=false from decide_eq_false la]at he;subst he;have HM':=Lib.hid (HM.out.on hbl);have KK':=Lib.hid (KK.out.same hbl);have zk:=KK'.out.lt;clear HM KK hbl M1;have HM:=HM';have KK:=KK';clear HM' KK';clear x0 x1 x2 x3 xl zk;go_wp2_with fail;refine (pG _).mono ?_
  rintro e w3 ⟨rfl,rfl⟩
  go_wp2_with fail;refine bodyPost_ret (v:=.int .i64 21) (by simp[results,results100,go_sem, *]) rfl ?_;exact⟨rfl,HM.out.1⟩
set_option maxHeartbeats 2000000 in
theorem KX (f:Int) (F:FC) (hf:FieldIs f F) (a0 a1 a2 a3:Nat) (ha:aX a0 a1 a2 a3) (la:aA a0 a1 a2 a3<F.M) (w:World) :
  Calls prog 100 #[.int .i64 f,.agg #[.int .u64 a0,.int .u64 a1,.int .u64 a2,.int .u64 a3]] w (fun e w'=>e=.returned (.int .i64 0)∧Below w.heap.size w w'):=by
 go_enter func100,ntmps100
 go_wp2_with fail;refine (dA f F hf _).mono ?_
 rintro e w1 ⟨rfl,hbl⟩
 have M1:=((Mem.nil w).new (w.heap.size) a0 a1 a2 a3 24 (by simp)).on hbl;clear hbl;have z0:w.heap.size<w1.heap.size:=M1.lt (c0:=a0) (c1:=a1) (c2:=a2) (c3:=a3) (by simp);have HM:=Lib.hid (M1.on ((Below.refl _ _).alloc (Nat.le_refl _) (.cells #[.int .u64 F.m0,.int .u64 F.m1,.int .u64 F.m2,.int .u64 F.m3,.int .u64 F.inv,.int .u64 F.s0,.int .u64 F.s1,.int .u64 F.s2,.int .u64 F.s3] 70)));have KK:=Lib.hid (KIs.new w1 F 70);have kr:=M1.row (b:=w.heap.size) (c0:=a0) (c1:=a1) (c2:=a2) (c3:=a3) (by simp);have x0:=kr.c0; have x1:=kr.c1; have x2:=kr.c2; have x3:=kr.c3;clear kr;have xl:=M1.lt (b:=w.heap.size) (c0:=a0) (c1:=a1) (c2:=a2) (c3:=a3) (by simp);go_wp2_with fail;refine (cF F hf.ok w1.heap.size a0 a1 a2 a3 ha _ KK.out).mono ?_
 rintro e w2 ⟨he,hbl⟩
 rw[show sI (aA a0 a1 a2 a3) F.M=true from decide_eq_true la]at he;subst he;have HM':=Lib.hid (HM.out.on hbl);have KK':=Lib.hid (KK.out.same hbl);have zk:=KK'.out.lt;clear HM KK hbl M1;have HM:=HM';have KK:=KK';clear HM' KK';clear x0 x1 x2 x3 xl zk;go_wp2_with fail;go_ret;exact⟨rfl,HM.out.1⟩
set_option maxHeartbeats 2000000 in
theorem KV (f:Int) (F:FC) (hf:FieldIs f F) (a0 a1 a2 a3:Nat) (ha:aX a0 a1 a2 a3) (la:aA a0 a1 a2 a3<F.M) (w:World) :
  Calls prog 40 #[.int .i64 f,.agg #[.int .u64 a0,.int .u64 a1,.int .u64 a2,.int .u64 a3]] w (fun e w'=>e=.returned (.tuple #[.bool (cH F.M (aA a0 a1 a2 a3)),.int .i64 0])∧Below w.heap.size w w'):=by
 go_enter func40,ntmps40
 go_wp2_with fail;refine (dA f F hf _).mono ?_
 rintro e w1 ⟨rfl,hbl⟩
 have M1:=((Mem.nil w).new (w.heap.size) a0 a1 a2 a3 24 (by simp)).on hbl;clear hbl;have z0:w.heap.size<w1.heap.size:=M1.lt (c0:=a0) (c1:=a1) (c2:=a2) (c3:=a3) (by simp);have HM:=Lib.hid (M1.on ((Below.refl _ _).alloc (Nat.le_refl _) (.cells #[.int .u64 F.m0,.int .u64 F.m1,.int .u64 F.m2,.int .u64 F.m3,.int .u64 F.inv,.int .u64 F.s0,.int .u64 F.s1,.int .u64 F.s2,.int .u64 F.s3] 70)));have KK:=Lib.hid (KIs.new w1 F 70);have kr:=M1.row (b:=w.heap.size) (c0:=a0) (c1:=a1) (c2:=a2) (c3:=a3) (by simp);have x0:=kr.c0; have x1:=kr.c1; have x2:=kr.c2; have x3:=kr.c3;clear kr;have xl:=M1.lt (b:=w.heap.size) (c0:=a0) (c1:=a1) (c2:=a2) (c3:=a3) (by simp);go_wp2_with fail;refine (cF F hf.ok w1.heap.size a0 a1 a2 a3 ha _ KK.out).mono ?_
 rintro e w2 ⟨he,hbl⟩
 rw[show sI (aA a0 a1 a2 a3) F.M=true from decide_eq_true la]at he;subst he;have HM':=Lib.hid (HM.out.on hbl);have KK':=Lib.hid (KK.out.same hbl);have zk:=KK'.out.lt;clear HM KK hbl M1;have HM:=HM';have KK:=KK';clear HM' KK';clear x0 x1 x2 x3 xl zk;have kr:=HM.out.row (b:=w.heap.size) (c0:=a0) (c1:=a1) (c2:=a2) (c3:=a3) (by simp);have x0:=kr.c0; have x1:=kr.c1; have x2:=kr.c2; have x3:=kr.c3;clear kr;have xl:=HM.out.lt (b:=w.heap.size) (c0:=a0) (c1:=a1) (c2:=a2) (c3:=a3) (by simp);go_wp2_with fail;refine (mA F hf.ok w1.heap.size a0 a1 a2 a3 ha la _ KK.out).mono ?_
 rintro e w4 ⟨rfl,hbl⟩
 have HM':=Lib.hid (HM.out.on hbl);have KK':=Lib.hid (KK.out.same hbl);have zk:=KK'.out.lt;clear HM KK hbl;have HM:=HM';have KK:=KK';clear HM' KK';clear x0 x1 x2 x3 xl zk;go_wp2_with fail
 go_ret2
 exact⟨rfl,HM.out.1⟩
structure MR (w wr:World) (g9 g10:Nat) (h0 h1 h2 h3 l0 l1 l2 l3 b0 b1 b2 b3 r0 r1 r2 r3:Nat):Prop where
 below:Below w.heap.size w wr
 lo:w.heap.size+1+1+1<g9
 mid:g9<g10
 size:g10<wr.heap.size
 rowH:Row4 wr w.heap.size h0 h1 h2 h3
 rowL:Row4 wr (w.heap.size+1) l0 l1 l2 l3
 rowB:Row4 wr g9 b0 b1 b2 b3
 rowR:Row4 wr g10 r0 r1 r2 r3
 rowO:Row4 wr (w.heap.size+1+1+1) 0 0 0 0
theorem MR.on {w wr w':World} {g9 g10:Nat} {h0 h1 h2 h3 l0 l1 l2 l3 b0 b1 b2 b3 r0 r1 r2 r3:Nat} (m:MR w wr g9 g10 h0 h1 h2 h3 l0 l1 l2 l3 b0 b1 b2 b3 r0 r1 r2 r3) (hb:Below wr.heap.size wr w'):MR w w' g9 g10 h0 h1 h2 h3 l0 l1 l2 l3 b0 b1 b2 b3 r0 r1 r2 r3 :=
 ⟨m.below.trans (hb.mono m.below.size),m.lo,m.mid,Nat.lt_of_lt_of_le m.size hb.size,m.rowH.below hb (by have:=m.lo; have:=m.mid; have:=m.size; omega),m.rowL.below hb (by have:=m.lo; have:=m.mid; have:=m.size; omega),
  m.rowB.below hb (by have:=m.mid; have:=m.size; omega),m.rowR.below hb m.size,m.rowO.below hb (by have:=m.lo; have:=m.mid; have:=m.size; omega)⟩
theorem MR.drewN {w wr:World} {g9 g10:Nat} {h0 h1 h2 h3 l0 l1 l2 l3 b0 b1 b2 b3 r0 r1 r2 r3:Nat} (m:MR w wr g9 g10 h0 h1 h2 h3 l0 l1 l2 l3 b0 b1 b2 b3 r0 r1 r2 r3) (n:Nat):MR w (wr.drewN n) g9 g10 h0 h1 h2 h3 l0 l1 l2 l3 b0 b1 b2 b3 r0 r1 r2 r3:=m.on (aJ _ _ n)
theorem MR.put {w wr:World} {g9 g10:Nat} {h0 h1 h2 h3 l0 l1 l2 l3 b0 b1 b2 b3 r0 r1 r2 r3:Nat} (m:MR w wr g9 g10 h0 h1 h2 h3 l0 l1 l2 l3 b0 b1 b2 b3 r0 r1 r2 r3) (s0 s1 s2 s3:Nat):MR w (set4 wr g10 s0 s1 s2 s3) g9 g10 h0 h1 h2 h3 l0 l1 l2 l3 b0 b1 b2 b3 s0 s1 s2 s3 :=
 ⟨aL m.below (by have:=m.lo; have:=m.mid; omega) _ _ _ _,m.lo,m.mid,by unfold set4; simp only[World.size_setCell]; exact m.size,m.rowH.set4_other (by have:=m.lo; have:=m.mid; omega) _ _ _ _,m.rowL.set4_other (by have:=m.lo; have:=m.mid; omega) _ _ _ _,
  m.rowB.set4_other (by have:=m.mid; omega) _ _ _ _,m.rowR.set4 _ _ _ _,m.rowO.set4_other (by have:=m.lo; have:=m.mid; omega) _ _ _ _⟩
def IH (n:Nat) (w:World) (e:Ending) (w':World):Prop :=
 ∃s0 s1 s2 s3:Nat,e=.returned (.agg #[.int .u64 s0,.int .u64 s1,.int .u64 s2,.int .u64 s3])∧aX s0 s1 s2 s3∧aA s0 s1 s2 s3=n∧Below w.heap.size w w'
theorem Om (a0 a1 a2 a3 j s:Nat) (hj:j<4):∃s0 s1 s2 s3:Nat,cN (cG [a0,a1,a2,a3]) j s=cG [s0,s1,s2,s3]∧[Value.int .u64 a0,.int .u64 a1,.int .u64 a2,.int .u64 a3].set j (.int .u64 s)=[.int .u64 s0,.int .u64 s1,.int .u64 s2,.int .u64 s3]:=by
 match j,hj with
 | 0,_=>exact⟨s,a1,a2,a3,by funext k; unfold cN cG; match k with|0|1|2|3=>rfl|k+4=>simp,rfl⟩
 | 1,_=>exact⟨a0,s,a2,a3,by funext k; unfold cN cG; match k with|0|1|2|3=>rfl|k+4=>simp,rfl⟩
 | 2,_=>exact⟨a0,a1,s,a3,by funext k; unfold cN cG; match k with|0|1|2|3=>rfl|k+4=>simp,rfl⟩
 | 3,_=>exact⟨a0,a1,a2,s,by funext k; unfold cN cG; match k with|0|1|2|3=>rfl|k+4=>simp,rfl⟩
set_option maxHeartbeats 1000000 in
theorem JH (a0 a1 a2 a3 i:Nat) (ha:aX a0 a1 a2 a3) (hi:i<256) (h0:cI (aA a0 a1 a2 a3) i=0) (w:World) :
  Calls prog 84 #[.agg #[.int .u64 a0,.int .u64 a1,.int .u64 a2,.int .u64 a3],.int .i64 i] w (IH (aA a0 a1 a2 a3+2^i) w):=by
 obtain⟨j,k,q,r,hj,hk,e⟩:=GL hi;have hc:=nK w 49 a0 a1 a2 a3 j hj;have hx:=iD ha j;obtain⟨t,s,e1,e2,ht,hs,es⟩:=Ei hx hk ((wW ha hj hk e.out).trans h0);have hW:=iD ha;obtain⟨s0,s1,s2,s3,eu,el⟩:=Om a0 a1 a2 a3 j s hj;have HV:Hid (aA s0 s1 s2 s3=aA a0 a1 a2 a3+2^i):=Lib.hid (by
  rw[mV,mV a0,←eu,es.out,xG hj,←e.out])
 have HO:Hid (aX s0 s1 s2 s3):=Lib.hid (by
  have hl:∀m,cG [s0,s1,s2,s3] m<18446744073709551616:=fun m=>by
   rw[←eu]; unfold cN; split
   ·exact hs
   ·exact hW m
  exact⟨hl 0,hl 1,hl 2,hl 3⟩)
 clear eu es hW h0;have hg:(#[Value.int .u64 a0,.int .u64 a1,.int .u64 a2,.int .u64 a3]:Array Value)[j]'(by simp; omega)=.int .u64 (cG [a0,a1,a2,a3] j:Nat):=by
  match j,hj with
  | 0,_|1,_|2,_|3,_=>rfl
 generalize cG [a0,a1,a2,a3] j=x at hc hx e1 e2 hg;clear hc;have Hj:=Lib.hid hj
 go_enter func84,ntmps84
 go_wp2_with fail
 go_region
 go_wp2_with fail;refine bodyPost_ret (v:=.agg #[.int .u64 s0,.int .u64 s1,.int .u64 s2,.int .u64 s3]) (by simp[results,results84,go_sem, *]) rfl ?_;exact⟨s0,s1,s2,s3,rfl,HO.out,HV.out,(((Below.refl _ _).alloc (Nat.le_refl _) _).alloc (by simp) _).drew⟩
def gU (B:Nat→Nat) (s:Nat):Nat→Nat
 | 0=>0
 | n+1=>gU B s n*256+B (s+n)
theorem DA {B:Nat→Nat} (hB:∀k,B k<256) (s:Nat):∀n,gU B s n<256^n
 | 0=>by simp[gU]
 | n+1=>by
  have h1:=DA hB s n;have h2:=hB (s+n);show gU B s n*256+B (s+n)<256^n*256;omega
theorem lQ (B:Nat→Nat) (s n:Nat):∀m,gU B s (n+m)=gU B s n*256^m+gU B (s+n) m
 | 0=>by simp[gU]
 | m+1=>by
  show gU B s (n+m)*256+B (s+(n+m))=gU B s n*(256^m*256)+(gU B (s+n) m*256+B (s+n+m));rw[lQ B s n m,Nat.add_mul,Nat.mul_assoc,Nat.add_assoc s n m,Nat.add_assoc]
theorem EP (B:Nat→Nat) (s:Nat):∀n,bP 256 (fun k=>B (s+n-1-k)) n=gU B s n
 | 0=>rfl
 | n+1=>by
  rw[oG];show B (s+(n+1)-1-0)+256*bP 256 (fun k=>B (s+(n+1)-1-(1+k))) n=gU B s n*256+B (s+n);have e:(fun k=>B (s+(n+1)-1-(1+k)))=fun k=>B (s+n-1-k):=by
   funext k; congr 1; omega
  rw[e,EP B s n,Nat.mul_comm,show s+(n+1)-1-0=s+n by omega];omega
def bH (A p:Nat):Nat:=A/256^(31-p)%256
theorem pA (A p:Nat):bH A p<256:=Nat.mod_lt _ (by omega)
theorem tO (P:Nat→Nat) (hP:∀k,P k<18446744073709551616) (n j m:Nat) (hj:j<n) (hm:m<8):P j/2^(8*m)%256=bP 18446744073709551616 P n/256^(8*j+m)%256:=by
 obtain⟨q,rfl⟩:∃q,n=j+(q+1):=⟨n-j-1,by omega⟩
 have h1:=iN 18446744073709551616 P j (q+1);have h2:=oG 18446744073709551616 (fun k=>P (j+k)) q;have h3:=qZ 18446744073709551616 P (by omega) j (fun k _=>hP k);have e1:256^(8*j+m)=18446744073709551616^j*2^(8*m):=by
  rw[Nat.pow_add,Nat.pow_mul,Nat.pow_mul]
 rw[h1,h2,e1,←Nat.div_div_eq_div_mul,Nat.add_mul_div_left _ _ (by exact Nat.pow_pos (by omega)),Nat.div_eq_of_lt h3,Nat.zero_add];have e:18446744073709551616=2^(8*m)*(256*2^(56-8*m)):=by
  rw[show (256:Nat)=2^8 from rfl,←Nat.pow_add,←Nat.pow_add,show 8*m+(8+(56-8*m))=64 by omega]
 show _=(P j+18446744073709551616*_)/2^(8*m)%256;generalize bP 18446744073709551616 (fun k=>P (j+(1+k))) q=H;rw[show 18446744073709551616*H=2^(8*m)*(256*2^(56-8*m))*H by rw[←e],Nat.mul_assoc,Nat.add_mul_div_left _ _ (by exact Nat.pow_pos (by omega)),Nat.mul_assoc,Nat.add_mul_mod_self_left]
theorem YW {i:Nat} (h:i<32):∃j m s p:Nat,(i:Int)/8=(j:Int)∧(i:Int)%8=(m:Int)∧(m:Int)*8=(s:Int)∧(31:Int)-(i:Int)=(p:Int)∧j<4∧m<8∧s≤56∧p<32∧Hid (i=8*j+m∧s=8*m∧p=31-i) :=
 ⟨i/8,i%8,i%8*8,31-i,by omega,by omega,by omega,by omega,by omega,by omega,by omega,by omega,Lib.hid (by omega)⟩
theorem GM {x s b:Nat} (hx:x<18446744073709551616) (hb:x/2^s%256=b):∃t:Nat,(x:Int)/2^s=(t:Int)∧IntKind.u8.wrap (t:Int)=(b:Int)∧t<18446744073709551616:=by
 have hs:x/2^s<18446744073709551616:=Nat.lt_of_le_of_lt (Nat.div_le_self _ _) hx;refine⟨x/2^s,by rw[Int.natCast_ediv,Int.natCast_pow]; rfl,?_,hs⟩;generalize x/2^s=q at *;simp only[IntKind.wrap,IntKind.bits,IntKind.signed];simp;omega
theorem MN (R:Nat) (P:Nat→Nat) (j:Nat):∀n,j<n→P j*R^j≤bP R P n
 | 0,h=>absurd h (by omega)
 | n+1,h=>by
  rw[aZ]
  rcases Nat.lt_or_ge j n with hj|hj
  ·have:=MN R P j n hj; omega
  ·obtain rfl:j=n:=by omega
   omega
theorem JG {P:Nat→Nat} {V i j m s d:Nat} (hj:j<4) (hm:m<8) (e:i=8*j+m) (es:s=8*m) (hV:bP 18446744073709551616 P 4=V) (hlt:V<256^i):P j<2^s∧bP 18446744073709551616 (cN P j (P j+d*2^s)) 4=V+d*256^i:=by
 have e1:256^i=18446744073709551616^j*2^s:=by
  rw[e,es,Nat.pow_add,Nat.pow_mul,Nat.pow_mul]
 refine⟨?_,?_⟩
 ·have h1:=MN 18446744073709551616 P j 4 hj;rw[hV]at h1;have h2:=Nat.lt_of_le_of_lt h1 hlt;rw[e1,Nat.mul_comm]at h2;exact Nat.lt_of_mul_lt_mul_left h2
 ·have h:=mW 18446744073709551616 P j (P j+d*2^s) 4 hj;rw[Nat.add_mul]at h;rw[e1,Nat.mul_comm (18446744073709551616^j),←Nat.mul_assoc,←hV];omega
theorem Eg {x d s:Nat} (hd:d<256) (hs:s≤56) (hx:x<2^s):∃u z:Nat,IntKind.u64.wrap ((d:Int)*2^s)=(u:Int)∧bits .or .u64 (x:Int) (u:Int)=(z:Int)∧u<18446744073709551616∧z<18446744073709551616∧Hid (z=x+d*2^s):=by
 have h1:d*2^s<18446744073709551616:=by
  have a:=Nat.mul_lt_mul_of_pos_right hd (Nat.two_pow_pos s);have b:256*2^s≤18446744073709551616:=by
   rw[show (256:Nat)=2^8 from rfl,←Nat.pow_add,show 18446744073709551616=2^64 by simp];exact Nat.pow_le_pow_right (by omega) (by omega)
  omega
 have h2:x<18446744073709551616:=Nat.lt_of_lt_of_le hx (by
  rw[show 18446744073709551616=2^64 by simp]; exact Nat.pow_le_pow_right (by omega) (by omega))
 obtain⟨z,e1,e2,e3⟩:=kW (k:=s) h2 h1 (Lib.hid hx) (Lib.hid ⟨d,Nat.mul_comm _ _⟩);exact⟨d*2^s,z,by rw[oC,lG _ h1],e1,h1,e2,e3⟩
def RowB (w:World) (b n:Nat) (P:Nat→Nat):Prop:=∀k,k<n→w.cell? ⟨b,k,none⟩=some (.int .u8 (P k:Nat))∧w.frozen? ⟨b,k,none⟩=false
theorem RowB.below {w w':World} {b n:Nat} {P:Nat→Nat} (h:RowB w b n P) {B:Nat} (hb:Below B w w') (hB:b<B):RowB w' b n P:=fun k hk =>
 ⟨(hb.cell (p:=⟨b,k,none⟩) hB).trans (h k hk).1,(hb.frozen (p:=⟨b,k,none⟩) hB).trans (h k hk).2⟩
theorem RowB.set {w:World} {b n i v:Nat} {P:Nat→Nat} (h:RowB w b n P) (hi:i<n):RowB (w.setCell ⟨b,i,none⟩ (.int .u8 (v:Nat))) b n (cN P i v):=by
 intro k hk;refine⟨?_,by rw[World.frozen?_setCell]; exact (h k hk).2⟩;unfold cN
 by_cases e:k=i
 ·subst e; rw[if_pos rfl]; exact World.cell?_setCell_same (h:=(h k hk).1) ..
 ·rw[if_neg e,World.cell?_setCell_other (h:=fun he=>e (by simpa using (congrArg Addr.off he).symm)) ..]; exact (h k hk).1
theorem RowB.other {w:World} {b n i:Nat} {P:Nat→Nat} (h:RowB w b n P) {c:Nat} (hc:c≠b) (x:Value):RowB (w.setCell ⟨c,i,none⟩ x) b n P:=by
 intro k hk;exact⟨by rw[World.cell?_setCell_other (h:=fun he=>hc (by simpa using congrArg Addr.block he)) ..]; exact (h k hk).1,by rw[World.frozen?_setCell]; exact (h k hk).2⟩
theorem RowB.drewN {w:World} {b n:Nat} {P:Nat→Nat} (h:RowB w b n P) (m:Nat):RowB (w.drewN m) b n P:=h
theorem RowB.ext {w:World} {b n:Nat} {P R:Nat→Nat} (h:RowB w b n P) (e:∀k,k<n→P k=R k):RowB w b n R:=fun k hk=>⟨by rw[←e k hk]; exact (h k hk).1,(h k hk).2⟩
def fW (P:Nat→Nat→Prop) (w:World) (e:Ending) (w':World):Prop :=
 ∃s0 s1 s2 s3 c:Nat,e=.returned (.tuple #[.agg #[.int .u64 s0,.int .u64 s1,.int .u64 s2,.int .u64 s3],.int .i64 c])∧aX s0 s1 s2 s3∧P (aA s0 s1 s2 s3) c∧Below w.heap.size w w'
set_option maxHeartbeats 1000000 in
theorem UK (g off cap:Nat) (B:Nat→Nat) (hB:∀k,B k<256) (w:World) (hg:g<w.heap.size) (hc:∀k,k<32→w.cell? ⟨g,off+k,none⟩=some (.int .u8 (B k:Nat))) :
  Calls prog 85 #[.slice (some ⟨g,off,none⟩) 32 cap] w (fW (fun n c=>n=gU B 0 32∧c=0) w):=by
 have HC:=Lib.hid hc;have HB:=Lib.hid hB;have HE:=Lib.hid (EP B 0 32);have HT:=Lib.hid (fun i=>qZ 256 (fun k=>B (0+32-1-k)) (by omega) i (fun k _=>hB _));clear hc hB;generalize eD:(fun k=>B (0+32-1-k))=D at *;have hD:∀i p,i<32→p=31-i→B p=D i:=fun i p hi hp=>by
  rw[←eD,hp]
 have HD:=Lib.hid hD;clear hD eD
 go_enter func85,ntmps85
 go_wp2_with fail;have R0:=Lib.hid (Row4.new (w.alloc (.cells #[.int .u64 0,.int .u64 0,.int .u64 0,.int .u64 0] 49)) 0 0 0 0 49).rows;have Z0:=Lib.hid ((Row4.new w 0 0 0 0 49).alloc (by simp) (.cells #[.int .u64 0,.int .u64 0,.int .u64 0,.int .u64 0] 49))
 go_loopw [10] (fun x wr=>∃(i:Nat) (P:Nat→Nat),i≤32∧x=.int .i64 i∧(∀k,P k<18446744073709551616)∧Hid (bP 18446744073709551616 P 4=bP 256 D i)∧RowIs wr (w.heap.size+1) 4 P∧Row4 wr w.heap.size 0 0 0 0∧Below w.heap.size w wr∧w.heap.size+1<wr.heap.size) (fun x _=>32-(intOf x).toNat)
 case atStart =>
  refine⟨0,cG [0,0,0,0],by omega,rfl,fun k=>iD ⟨by omega,by omega,by omega,by omega⟩ k,Lib.hid rfl,by simpa using R0.out,Z0.out,?_,by simp⟩;exact ((Below.refl _ _).alloc (Nat.le_refl _) _).alloc (by simp) _
 case round =>
  obtain⟨i,P,hi,rfl,lP,tP,rP,z0,hb,hz⟩:=hrel;have HBl:=Lib.hid hb;have HZ:=Lib.hid z0;have HlP:=Lib.hid lP;have HR:=Lib.hid rP
  by_cases hlt:i<32
  ·obtain⟨j,m,s,p,q1,q2,q3,q4,hj,hm,hs,hp,e⟩:=YW hlt;have cx:=rP.cell hj;have fx:=rP.free hj;have cb:wr.cell? ⟨g,off+p,none⟩=some (.int .u8 (B p:Nat)):=(hb.cell (p:=⟨g,off+p,none⟩) hg).trans (HC.out p hp);have lb:=HB.out p;have hbD:=HD.out i p hlt e.out.2.2;have st:=JG (d:=D i) hj hm e.out.1 e.out.2.1 tP.out (HT.out i);obtain⟨u,z,e1,e2,lu,lz,ez⟩:=Eg lb hs st.1;have HN:=Lib.hid (show bP 18446744073709551616 (cN P j z) 4=bP 256 D (i+1) by
    rw[ez.out,hbD,st.2,aZ])
   have lx:=lP j;generalize P j=x at *;generalize B p=b at *;clear z0 hb rP lP tP st hbD e ez;go_wp2_with fail
   go_region
   go_wp2_with fail
   go_roundw
   case rel=>exact⟨i+1,cN P j z,by omega,by go_num,fun k=>by unfold cN; split; exact lz; exact HlP.out k,HN,(HR.out.drewN 1).set hj,(HZ.out.drewN 1).other (by omega) _,(HBl.out.drew).setCell (p:=⟨w.heap.size+1,j,none⟩) (by simp) _,by show _<(wr.setCell _ _).heap.size; rw[World.size_setCell]; exact hz⟩
   case measure=>first|(simp[intOf]; done)|(simp[intOf]; omega)
  ·obtain rfl:i=32:=by omega
   have HF:=Lib.hid ((iL P).trans (tP.out.trans HE.out));have c0:=rP.cell (show 0<4 by omega); have c1:=rP.cell (show 1<4 by omega); have c2:=rP.cell (show 2<4 by omega); have c3:=rP.cell (show 3<4 by omega);have k0:=z0.c0; have k1:=z0.c1; have k2:=z0.c2; have k3:=z0.c3; have kf:=z0.fr;have l0:=lP 0; have l1:=lP 1; have l2:=lP 2; have l3:=lP 3;clear rP z0 hb lP tP;go_wp2_with fail;refine bodyPost_ret (v:=.tuple #[.agg #[.int .u64 (P 0),.int .u64 (P 1),.int .u64 (P 2),.int .u64 (P 3)],.int .i64 0]) (by simp[results,results85,go_sem, *]) rfl ?_;exact⟨P 0,P 1,P 2,P 3,0,rfl,⟨l0,l1,l2,l3⟩,⟨HF.out,rfl⟩,aL HBl.out (by omega) _ _ _ _⟩
theorem Lb {i:Nat} (h:i<32):∃k m q:Nat,(i:Int)/8=(k:Int)∧(3:Int)-(k:Int)=(q:Int)∧k<4∧m<8∧q<4∧Hid (i=8*k+m∧q=3-k) :=
 ⟨i/8,i%8,3-i/8,by omega,by omega,by omega,by omega,by omega,Lib.hid (by omega)⟩
theorem Eh {x d:Nat} (hx:x<72057594037927936) (hd:d<256):∃u z:Nat,IntKind.u64.wrap ((x:Int)*256)=(u:Int)∧(x:Int)*256=(u:Int)∧bits .or .u64 (u:Int) (d:Int)=(z:Int)∧u<18446744073709551616∧z<18446744073709551616∧Hid (z=x*256+d):=by
 have h1:x*256<18446744073709551616:=by omega
 obtain⟨z,e1,e2,e3⟩:=La (p:=8) h1 (show d<18446744073709551616 by omega) (Lib.hid (by simpa using hd)) (Lib.hid ⟨x,by rw[Nat.mul_comm]⟩);exact⟨x*256,z,by rw[show (x:Int)*256=((x*256:Nat):Int) by omega,lG _ h1],by omega,e1,h1,e2,e3⟩
theorem KL (B:Nat→Nat):aA (gU B 24 8) (gU B 16 8) (gU B 8 8) (gU B 0 8)=gU B 0 32:=by
 have h1:=lQ B 0 24 8;have h2:=lQ B 0 16 8;have h3:=lQ B 0 8 8;unfold aA;simp only[Nat.zero_add]at h1 h2 h3;have e:256^8=18446744073709551616:=by simp
 rw[e]at h1 h2 h3;show _=gU B 0 (24+8);rw[h1,show gU B 0 24=gU B 0 (16+8)from rfl,h2,show gU B 0 16=gU B 0 (8+8)from rfl,h3];omega
set_option maxHeartbeats 1000000 in
theorem BU (g off cap:Nat) (B:Nat→Nat) (hB:∀k,B k<256) (w:World) (hg:g<w.heap.size) (hc:∀k,k<32→w.cell? ⟨g,off+k,none⟩=some (.int .u8 (B k:Nat))) :
  Calls prog 21 #[.slice (some ⟨g,off,none⟩) 32 cap] w (fW (fun n c=>n=gU B 0 32∧c=0) w):=by
 have HC:=Lib.hid hc;have HB:=Lib.hid hB;have HH:=Lib.hid (fun s n=>DA hB s n);clear hc hB
 go_enter func21,ntmps21
 go_wp2_with fail;have R0:=Lib.hid (Row4.new (w.alloc (.cells #[.int .u64 0,.int .u64 0,.int .u64 0,.int .u64 0] 49)) 0 0 0 0 49).rows;have Z0:=Lib.hid ((Row4.new w 0 0 0 0 49).alloc (by simp) (.cells #[.int .u64 0,.int .u64 0,.int .u64 0,.int .u64 0] 49))
 go_loopw [5] (fun x wr=>∃(i:Nat) (P:Nat→Nat),i≤32∧x=.int .i64 i∧(∀k,P k<18446744073709551616)∧Hid (∀k,k<4→P (3-k)=gU B (8*k) (min 8 (i-8*k)))∧RowIs wr (w.heap.size+1) 4 P∧Row4 wr w.heap.size 0 0 0 0∧Below w.heap.size w wr∧w.heap.size+1<wr.heap.size) (fun x _=>32-(intOf x).toNat)
 case atStart =>
  refine⟨0,cG [0,0,0,0],by omega,rfl,fun k=>iD ⟨by omega,by omega,by omega,by omega⟩ k,Lib.hid (fun k hk => ?_),by simpa using R0.out,Z0.out,?_,by simp⟩
  ·rw[Nat.zero_sub,Nat.min_zero]
   match k,hk with
   | 0,_|1,_|2,_|3,_=>rfl
  ·exact ((Below.refl _ _).alloc (Nat.le_refl _) _).alloc (by simp) _
 case round =>
  obtain⟨i,P,hi,rfl,lP,tP,rP,z0,hb,hz⟩:=hrel;have HBl:=Lib.hid hb;have HZ:=Lib.hid z0;have HlP:=Lib.hid lP;have HR:=Lib.hid rP
  by_cases hlt:i<32
  ·obtain⟨k,m,q,q1,q2,hk,hm,hq,e⟩:=Lb hlt;have cx:=rP.cell hq;have fx:=rP.free hq;have cb:wr.cell? ⟨g,off+i,none⟩=some (.int .u8 (B i:Nat)):=(hb.cell (p:=⟨g,off+i,none⟩) hg).trans (HC.out i hlt);have lb:=HB.out i;have ex:P q=gU B (8*k) m:=by
    have:=tP.out k hk;rw[show min 8 (i-8*k)=m by have:=e.out.1; omega,←e.out.2]at this;exact this
   have lx:P q<72057594037927936:=by
    rw[ex];exact Nat.lt_of_lt_of_le (HH.out _ _) (Nat.le_trans (Nat.pow_le_pow_right (show 0<256 by omega) (show m≤7 by omega)) (by simp))
   obtain⟨u,z,e1,e0,e2,lu,lz,ez⟩:=Eh lx lb;have HN:=Lib.hid (show ∀k,k<4→cN P q z (3-k)=gU B (8*k) (min 8 (i+1-8*k))from fun k' hk'=>by
    have k1:=e.out.1; have k2:=e.out.2;unfold cN
    by_cases h:k'=k
    ·subst h;rw[if_pos k2.symm,show min 8 (i+1-8*k')=m+1 by omega,ez.out,ex];show _=gU B (8*k') m*256+B (8*k'+m);rw[←k1]
    ·rw[if_neg (by omega),tP.out k' hk'];congr 1;omega)
   generalize P q=x at *;generalize B i=b at *;clear z0 hb rP lP tP e ez ex;go_wp2_with fail
   go_region
   go_wp2_with fail
   go_roundw
   case rel=>exact⟨i+1,cN P q z,by omega,by go_num,fun k=>by unfold cN; split; exact lz; exact HlP.out k,HN,(HR.out.drewN 1).set hq,(HZ.out.drewN 1).other (by omega) _,(HBl.out.drew).setCell (p:=⟨w.heap.size+1,q,none⟩) (by simp) _,by show _<(wr.setCell _ _).heap.size; rw[World.size_setCell]; exact hz⟩
   case measure=>first|(simp[intOf]; done)|(simp[intOf]; omega)
  ·obtain rfl:i=32:=by omega
   have HF:=Lib.hid (show aA (P 0) (P 1) (P 2) (P 3)=gU B 0 32 by
    have h0:=tP.out 0 (by omega); have h1:=tP.out 1 (by omega); have h2:=tP.out 2 (by omega); have h3:=tP.out 3 (by omega);simp at h0 h1 h2 h3;rw[h0,h1,h2,h3,KL])
   have c0:=rP.cell (show 0<4 by omega); have c1:=rP.cell (show 1<4 by omega); have c2:=rP.cell (show 2<4 by omega); have c3:=rP.cell (show 3<4 by omega);have k0:=z0.c0; have k1:=z0.c1; have k2:=z0.c2; have k3:=z0.c3; have kf:=z0.fr;have l0:=lP 0; have l1:=lP 1; have l2:=lP 2; have l3:=lP 3;clear rP z0 hb lP tP;go_wp2_with fail;refine bodyPost_ret (v:=.tuple #[.agg #[.int .u64 (P 0),.int .u64 (P 1),.int .u64 (P 2),.int .u64 (P 3)],.int .i64 0]) (by simp[results,results21,go_sem, *]) rfl ?_;exact⟨P 0,P 1,P 2,P 3,0,rfl,⟨l0,l1,l2,l3⟩,⟨HF.out,rfl⟩,aL HBl.out (by omega) _ _ _ _⟩
def EK (W:World) (v:Value) (n c:Nat):Prop:=∀w,Below W.heap.size W w→Calls prog 85 #[v] w (fW (fun m d=>m=n∧d=c) w)
theorem tW (W:World) (g off cap:Nat) (B:Nat→Nat) (hB:∀k,B k<256) (hg:g<W.heap.size) (hc:∀k,k<32→W.cell? ⟨g,off+k,none⟩=some (.int .u8 (B k:Nat))):EK W (.slice (some ⟨g,off,none⟩) 32 cap) (gU B 0 32) 0:=fun w hb =>
 UK g off cap B hB w (Nat.lt_of_lt_of_le hg hb.size) fun k hk=>(hb.cell (p:=⟨g,off+k,none⟩) hg).trans (hc k hk)
set_option maxHeartbeats 2000000 in
theorem QM (f:Int) (F:FC) (hf:FieldIs f F) (v:Value) (n:Nat) (hlt:n<F.M) (w:World) (hR:EK w v n 0) :
  Calls prog 49 #[.int .i64 f,v] w (TA 0 n w):=by
 have HR:=Lib.hid hR;clear hR
 go_enter func49,ntmps49
 go_wp2_with fail;refine (dA f F hf _).mono ?_
 rintro e w1 ⟨rfl,hbl⟩
 have M1:=((Mem.nil w).new (w.heap.size) 0 0 0 0 24 (by simp)).on hbl;clear hbl;have z0:w.heap.size<w1.heap.size:=M1.lt (c0:=0) (c1:=0) (c2:=0) (c3:=0) (by simp);have HM:=Lib.hid (M1.on ((Below.refl _ _).alloc (Nat.le_refl _) (.cells #[.int .u64 F.m0,.int .u64 F.m1,.int .u64 F.m2,.int .u64 F.m3,.int .u64 F.inv,.int .u64 F.s0,.int .u64 F.s1,.int .u64 F.s2,.int .u64 F.s3] 70)));have KK:=Lib.hid (KIs.new w1 F 70);go_wp2_with fail;refine (HR.out _ HM.out.1).mono ?_
 rintro e w2 ⟨s0,s1,s2,s3,er,rfl,hs,⟨hv,rfl⟩,hbl⟩
 have HV:=Lib.hid hv;clear hv;have HM':=Lib.hid (HM.out.on hbl);have KK':=Lib.hid (KK.out.same hbl);have zk:=KK'.out.lt;clear HM KK hbl M1;have HM:=HM';have KK:=KK';clear HM' KK';clear zk;have wz:w.heap.size<w2.heap.size:=HM.out.lt (b:=w.heap.size) (c0:=0) (c1:=0) (c2:=0) (c3:=0) (by simp);have HM':=Lib.hid (HM.out.new w2.heap.size s0 s1 s2 s3 49 rfl);have KK':=Lib.hid (KK.out.same ((Below.refl _ _).alloc (Nat.le_refl _) (.cells #[.int .u64 s0,.int .u64 s1,.int .u64 s2,.int .u64 s3] 49)));clear HM KK;have HM:=HM';have KK:=KK';clear HM' KK';go_wp2_with fail;refine (cF F hf.ok w1.heap.size s0 s1 s2 s3 hs _ KK.out).mono ?_
 rintro e w3 ⟨he,hbl⟩
 rw[show sI (aA s0 s1 s2 s3) F.M=true from by rw[HV.out]; exact decide_eq_true hlt]at he;subst he;have HM':=Lib.hid (HM.out.on hbl);have KK':=Lib.hid (KK.out.same hbl);have zk:=KK'.out.lt;clear HM KK hbl;have HM:=HM';have KK:=KK';clear HM' KK';clear zk;have kr:=HM.out.row (b:=w2.heap.size) (c0:=s0) (c1:=s1) (c2:=s2) (c3:=s3) (by simp);have x0:=kr.c0; have x1:=kr.c1; have x2:=kr.c2; have x3:=kr.c3;clear kr;have xl:=HM.out.lt (b:=w2.heap.size) (c0:=s0) (c1:=s1) (c2:=s2) (c3:=s3) (by simp);have kr:=HM.out.row (b:=w.heap.size) (c0:=0) (c1:=0) (c2:=0) (c3:=0) (by simp);have y0:=kr.c0; have y1:=kr.c1; have y2:=kr.c2; have y3:=kr.c3; have yf:=kr.fr;clear kr;have yl:=HM.out.lt (b:=w.heap.size) (c0:=0) (c1:=0) (c2:=0) (c3:=0) (by simp);go_wp2_with fail;refine bodyPost_ret (v:=.tuple #[.agg #[.int .u64 s0,.int .u64 s1,.int .u64 s2,.int .u64 s3],.int .i64 0]) (by simp[results,results49,go_sem, *]) rfl ?_;refine⟨_,_,_,_,rfl,hs,HV.out,?_⟩;exact aL HM.out.1 (by omega) _ _ _ _
set_option maxHeartbeats 2000000 in
theorem KS (f:Int) (F:FC) (hf:FieldIs f F) (v:Value) (n:Nat) (hlt:¬n<F.M) (w:World) (hR:EK w v n 0) :
  Calls prog 49 #[.int .i64 f,v] w (TA 21 0 w):=by
 have HR:=Lib.hid hR;clear hR
 go_enter func49,ntmps49
 go_wp2_with fail;refine (dA f F hf _).mono ?_
 rintro e w1 ⟨rfl,hbl⟩
 have M1:=((Mem.nil w).new (w.heap.size) 0 0 0 0 24 (by simp)).on hbl;clear hbl;have z0:w.heap.size<w1.heap.size:=M1.lt (c0:=0) (c1:=0) (c2:=0) (c3:=0) (by simp);have HM:=Lib.hid (M1.on ((Below.refl _ _).alloc (Nat.le_refl _) (.cells #[.int .u64 F.m0,.int .u64 F.m1,.int .u64 F.m2,.int .u64 F.m3,.int .u64 F.inv,.int .u64 F.s0,.int .u64 F.s1,.int .u64 F.s2,.int .u64 F.s3] 70)));have KK:=Lib.hid (KIs.new w1 F 70);go_wp2_with fail;refine (HR.out _ HM.out.1).mono ?_
 rintro e w2 ⟨s0,s1,s2,s3,er,rfl,hs,⟨hv,rfl⟩,hbl⟩
 have HV:=Lib.hid hv;clear hv;have HM':=Lib.hid (HM.out.on hbl);have KK':=Lib.hid (KK.out.same hbl);have zk:=KK'.out.lt;clear HM KK hbl M1;have HM:=HM';have KK:=KK';clear HM' KK';clear zk;have wz:w.heap.size<w2.heap.size:=HM.out.lt (b:=w.heap.size) (c0:=0) (c1:=0) (c2:=0) (c3:=0) (by simp);have HM':=Lib.hid (HM.out.new w2.heap.size s0 s1 s2 s3 49 rfl);have KK':=Lib.hid (KK.out.same ((Below.refl _ _).alloc (Nat.le_refl _) (.cells #[.int .u64 s0,.int .u64 s1,.int .u64 s2,.int .u64 s3] 49)));clear HM KK;have HM:=HM';have KK:=KK';clear HM' KK';go_wp2_with fail;refine (cF F hf.ok w1.heap.size s0 s1 s2 s3 hs _ KK.out).mono ?_
 rintro e w3 ⟨he,hbl⟩
 rw[show sI (aA s0 s1 s2 s3) F.M=false from by rw[HV.out]; exact decide_eq_false hlt]at he;subst he;have HM':=Lib.hid (HM.out.on hbl);have KK':=Lib.hid (KK.out.same hbl);have zk:=KK'.out.lt;clear HM KK hbl;have HM:=HM';have KK:=KK';clear HM' KK';clear zk;have kr:=HM.out.row (b:=w.heap.size) (c0:=0) (c1:=0) (c2:=0) (c3:=0) (by simp);have y0:=kr.c0; have y1:=kr.c1; have y2:=kr.c2; have y3:=kr.c3; have yf:=kr.fr;clear kr;have yl:=HM.out.lt (b:=w.heap.size) (c0:=0) (c1:=0) (c2:=0) (c3:=0) (by simp);go_wp2_with fail;refine (pG _).mono ?_
 rintro e w4 ⟨rfl,rfl⟩
 go_wp2_with fail;refine bodyPost_ret (v:=.tuple #[.agg #[.int .u64 0,.int .u64 0,.int .u64 0,.int .u64 0],.int .i64 21]) (by simp[results,results49,go_sem, *]) rfl ?_;refine⟨_,_,_,_,rfl,vB,rfl,?_⟩;exact aL HM.out.1 (by omega) 0 0 0 0
theorem qJ:(prog.info? 5).map (fun i=>(i.zero,i.size,i.bytes))=some (some (.int .u8 0),1,1):=by kernel_rfl
def lD (A n:Nat):List Value:=(List.range n).map fun p=>.int .u8 (bH A p:Nat)
theorem AK (A n:Nat):lD A (n+1)=lD A n++[.int .u8 (bH A n:Nat)]:=by
 unfold lD; rw[List.range_succ,List.map_append]; rfl
theorem Cb {w:World} {base:Nat} {e:TypeId} {size:Nat} {v:Value} {n:Nat} {xs:List Value} (h:w.ownsRow base e size v n xs) {k:Nat} (hk:v.ownBlock=some k):base≤k:=by
 obtain⟨_,⟨rfl,_⟩|⟨g,cap,cur,rfl,hg,_⟩⟩:=h
 ·cases hk
 ·cases hk; exact hg
theorem yU {w:World} {base:Nat} {e:TypeId} {size:Nat} {v:Value} {n:Nat} {xs:List Value} (h:w.ownsRow base e size v n xs) (hn:0<n):∃g cap,v=.slice (some ⟨g,0,none⟩) n cap∧base≤g∧g<w.heap.size:=by
 obtain⟨_,⟨_,h0⟩|⟨g,cap,cur,rfl,hg,hh,_⟩⟩:=h
 ·omega
 ·refine⟨g,cap,rfl,hg,?_⟩
  rcases Nat.lt_or_ge g w.heap.size with k|k
  ·exact k
  ·rw[Array.getElem?_eq_none k]at hh; cases hh
theorem OR {w:World} {base A g cap n:Nat} {e:TypeId} (h:w.ownsRow base e 1 (.slice (some ⟨g,0,none⟩) n cap) n (lD A n)) (k:Nat) (hk:k<n):w.cell? ⟨g,k,none⟩=some (.int .u8 (bH A k:Nat)):=by
 rw[h.cellAt k (by omega)];unfold lD;simp[hk]
def fw (x i:Nat):Nat:=x/18446744073709551616^i%18446744073709551616
theorem cJ (x:Nat):aX (fw x 0) (fw x 1) (fw x 2) (fw x 3):=⟨Nat.mod_lt _ (by omega),Nat.mod_lt _ (by omega),Nat.mod_lt _ (by omega),Nat.mod_lt _ (by omega)⟩
theorem sM {x:Nat} (h:x<115792089237316195423570985008687907853269984665640564039457584007913129639936):aA (fw x 0) (fw x 1) (fw x 2) (fw x 3)=x:=by
 unfold fw aA;have e1:(18446744073709551616:Nat)^1=18446744073709551616:=by simp
 have e2:(18446744073709551616:Nat)^2=18446744073709551616*18446744073709551616:=by simp
 have e3:(18446744073709551616:Nat)^3=18446744073709551616*18446744073709551616*18446744073709551616:=by simp
 rw[Nat.pow_zero,Nat.div_one,e1,e2,e3,←Nat.div_div_eq_div_mul,←Nat.div_div_eq_div_mul,←Nat.div_div_eq_div_mul];omega
theorem eW {s0 s1 s2 s3 x:Nat} (hs:aX s0 s1 s2 s3) (hx:x<115792089237316195423570985008687907853269984665640564039457584007913129639936) (h:aA s0 s1 s2 s3=x):s0=fw x 0∧s1=fw x 1∧s2=fw x 2∧s3=fw x 3 :=
 xD hs (cJ x) (h.trans (sM hx).symm)
theorem Kv {x:Nat} (h:x<FP.M):x<115792089237316195423570985008687907853269984665640564039457584007913129639936:=Nat.lt_trans h (by decide)
theorem cP:0<FP.M:=by decide
end Go.Proofs.YtjeplinbleofnaaGreat
namespace Go.Proofs.YtjeplinbleofnaaGreat.Ex
open Go.Proofs.Tryz
open Go.RowKit
abbrev Fq:=Fin FP.M
inductive At|f (x:Fq)|q (x:Nat)|c (v:Value)
def w4 (x:Nat):List Value:=[.int .u64 (fw x 0:Nat),.int .u64 (fw x 1:Nat),.int .u64 (fw x 2:Nat),.int .u64 (fw x 3:Nat)]
def At.cells:At→List Value
 | .f x=>w4 x.1
 | .q x=>w4 x
 | .c v=>[v]
def At.sz:At→Nat
 | .f _=>4
 | .q _=>4
 | .c _=>1
theorem At.len (a:At):a.cells.length=a.sz:=by cases a<;>rfl
def aD:List At→List Value
 | []=>[]
 | a::r=>a.cells++aD r
def fI:List At→Nat
 | []=>0
 | a::r=>a.sz+fI r
theorem aM:∀l:List At,(aD l).length=fI l
 | []=>rfl
 | a::r=>by simp[aD,fI,At.len,aM r]
def cellAt:List At→Nat→Option Value
 | [],_=>none
 | a::r,o=>bif Nat.blt o a.sz then a.cells[o]? else cellAt r (o-a.sz)
theorem fR:∀{l:List At} {o:Nat} {v:Value},cellAt l o=some v→(aD l)[o]?=some v
 | [],o,v,h=>by cases h
 | a::r,o,v,h=>by
  unfold cellAt at h;show (a.cells++aD r)[o]?=_;cases hb:Nat.blt o a.sz<;>rw[hb]at h
  ·have hle:a.sz≤o:=by
    rcases Nat.lt_or_ge o a.sz with q|q
    ·have:Nat.blt o a.sz=true:=by simpa using q
     rw[hb]at this; cases this
    ·exact q
   rw[List.getElem?_append_right (by rw[At.len]; exact hle),At.len];exact fR h
  ·have hlt:o<a.sz:=by simpa using hb
   rw[List.getElem?_append_left (by rw[At.len]; exact hlt)];exact h
theorem aO:∀l m:List At,aD (l++m)=aD l++aD m
 | [],m=>rfl
 | a::r,m=>by simp[aD,aO r m]
theorem DE (l m:List At):fI (l++m)=fI l+fI m:=by rw[←aM,aO,List.length_append,aM,aM]
def tk:List At→Nat→Option (List At)
 | [],n=>bif Nat.beq n 0 then some []else none
 | a::r,n=>bif Nat.beq n 0 then some []else bif Nat.ble a.sz n then (tk r (n-a.sz)).map (a :: ·)else none
def dp:List At→Nat→Option (List At)
 | [],n=>bif Nat.beq n 0 then some []else none
 | a::r,n=>bif Nat.beq n 0 then some (a::r)else bif Nat.ble a.sz n then dp r (n-a.sz)else none
theorem mX:∀(l:List At) (n:Nat) (t:List At),tk l n=some t→∃r,l=t++r∧fI t=n
 | [],n,t,h=>by
  unfold tk at h;cases hn:Nat.beq n 0<;>rw[hn]at h
  ·cases h
  ·cases h; exact⟨[],rfl,(Nat.eq_of_beq_eq_true hn).symm⟩
 | a::r,n,t,h=>by
  unfold tk at h;cases hn:Nat.beq n 0<;>rw[hn]at h
  ·cases hs:Nat.ble a.sz n<;>rw[hs]at h
   ·cases h
   ·cases hr:tk r (n-a.sz)with
    | none=>rw[hr]at h; cases h
    | some t' =>
     rw[hr]at h; cases h;obtain⟨r',e,s⟩:=mX r _ _ hr;refine⟨r',by rw[e]; rfl,?_⟩;have:=Nat.le_of_ble_eq_true hs;show a.sz+fI t'=n;omega
  ·cases h; exact⟨a::r,rfl,(Nat.eq_of_beq_eq_true hn).symm⟩
theorem nV:∀(l:List At) (n:Nat) (r:List At),dp l n=some r→∃t,l=t++r∧fI t=n
 | [],n,r,h=>by
  unfold dp at h;cases hn:Nat.beq n 0<;>rw[hn]at h
  ·cases h
  ·cases h; exact⟨[],rfl,(Nat.eq_of_beq_eq_true hn).symm⟩
 | a::l,n,r,h=>by
  unfold dp at h;cases hn:Nat.beq n 0<;>rw[hn]at h
  ·cases hs:Nat.ble a.sz n<;>rw[hs]at h
   ·cases h
   ·obtain⟨t,e,s⟩:=nV l _ _ h;refine⟨a::t,by rw[e]; rfl,?_⟩;have:=Nat.le_of_ble_eq_true hs;show a.sz+fI t=n;omega
  ·cases h; exact⟨[],rfl,(Nat.eq_of_beq_eq_true hn).symm⟩
def LW (l:List At) (o n:Nat):Option (List At):=match dp l o with|some r=>tk r n|none=>none
theorem iP {l:List At} {o n:Nat} {t:List At} (h:LW l o n=some t):∃p s,l=p++(t++s)∧fI p=o∧fI t=n:=by
 unfold LW at h;cases hd:dp l o with
 | none=>rw[hd]at h; cases h
 | some r =>
  rw[hd]at h;obtain⟨p,e,hp⟩:=nV _ _ _ hd;obtain⟨s,e2,ht⟩:=mX _ _ _ h;exact⟨p,s,by rw[e,e2],hp,ht⟩
def put (l:List At) (o:Nat) (v:List At):Option (List At) :=
 match tk l o,dp l o with
 | some a,some b=>match dp b (fI v)with|some s=>some (a++(v++s))|none=>none
 | _,_=>none
theorem sO:∀{a b:List At} {r s:List At},a++r=b++s→fI a=fI b→aD a=aD b∧aD r=aD s:=by
 intro a b r s h hs;have:=congrArg aD h;rw[aO,aO]at this;exact List.append_inj this (by rw[aM,aM,hs])
theorem yD {l:List At} {o:Nat} {v l':List At} (h:put l o v=some l'):∃a m s,l=a++(m++s)∧aD l'=aD a++(aD v++aD s)∧fI a=o∧fI m=fI v:=by
 unfold put at h;cases ht:tk l o with
 | none=>rw[ht]at h; cases h
 | some a =>
  cases hd:dp l o with
  | none=>rw[ht,hd]at h; cases h
  | some b =>
   rw[ht,hd]at h;simp only at h;cases hb:dp b (fI v)with
   | none=>rw[hb]at h; cases h
   | some s =>
    rw[hb]at h; cases h;obtain⟨r,e,s1⟩:=mX _ _ _ ht;obtain⟨p,e2,s2⟩:=nV _ _ _ hd;obtain⟨m,e3,s3⟩:=nV _ _ _ hb;obtain⟨h1,h2⟩:=sO (e.symm.trans e2) (s1.trans s2.symm);refine⟨p,m,s,by rw[e2,e3],?_,s2,s3⟩;rw[aO,aO,h1]
def sH:Value→Bool
 | .bool _=>true
 | .int _ _=>true
 | .func _ _ _=>true
 | .complex _ _ _=>true
 | .float _ _=>true
 | .slice _ _ _=>true
 | .pointer _=>true
 | _=>false
def nz:List Value→List At
 | .int .u64 (.ofNat 0) :: .int .u64 (.ofNat 0) :: .int .u64 (.ofNat 0) :: .int .u64 (.ofNat 0)::r=>.f ⟨0,cP⟩::nz r
 | v::r=>.c v::nz r
 | []=>[]
theorem FT (l:List Value):aD (nz l)=l:=by
 fun_induction nz l with
 | case1 r ih=>show w4 0++aD (nz r)=_; rw[ih]; rfl
 | case2 v r h ih=>show [v]++aD (nz r)=_; rw[ih]; rfl
 | case3=>rfl
def nq:List At→List At
 | .c (.int .u64 (.ofNat a)) :: .c (.int .u64 (.ofNat b)) :: .c (.int .u64 (.ofNat c)) :: .c (.int .u64 (.ofNat d))::r =>
  bif Nat.blt a 18446744073709551616&&(Nat.blt b 18446744073709551616&&(Nat.blt c 18446744073709551616&&Nat.blt d 18446744073709551616))then (if h:aA a b c d<FP.M then .f ⟨aA a b c d,h⟩else .q (aA a b c d))::nq r
  else .c (.int .u64 (.ofNat a)) :: .c (.int .u64 (.ofNat b)) :: .c (.int .u64 (.ofNat c)) :: .c (.int .u64 (.ofNat d))::nq r
 | v::r=>v::nq r
 | []=>[]
theorem VK (l:List At):aD (nq l)=aD l:=by
 fun_induction nq l with
 | case1 a b c d r hb ih =>
  simp only[Bool.and_eq_true,Nat.blt_eq]at hb;have h4:aX a b c d:=⟨hb.1,hb.2.1,hb.2.2.1,hb.2.2.2⟩;have hv:aA a b c d<115792089237316195423570985008687907853269984665640564039457584007913129639936:=by
   unfold aA; obtain⟨h1,h2,h3,h5⟩:=hb; omega
  obtain⟨e0,e1,e2,e3⟩:=eW h4 hv rfl;have hc:(if h:aA a b c d<FP.M then At.f ⟨aA a b c d,h⟩else At.q (aA a b c d)).cells=w4 (aA a b c d):=by split<;>rfl
  show (if h:aA a b c d<FP.M then At.f ⟨aA a b c d,h⟩else At.q (aA a b c d)).cells++aD (nq r)=_;rw[hc,ih];unfold w4;rw[←e0,←e1,←e2,←e3];rfl
 | case2 a b c d r hb ih=>simp only[aD,ih]
 | case3 v r h ih=>show v.cells++aD (nq r)=_; rw[ih]; rfl
 | case4=>rfl
inductive TV|im (v:Value)|fl (l:List At)
def TV.den:TV→Value
 | .im v=>v
 | .fl l=>.agg (aD l).toArray
abbrev Bk:=Nat×Nat×Nat
inductive AV|im (v:Value)|fl (l:List At)|pt (k o:Nat)|sl (k o n m:Nat)|tu (l:List TV)|ic (t:Nat) (l:List At)|tf (k n m:Nat) (post:List TV)|so (k n:Nat)|tg (k n:Nat) (ante post:List TV)
def TV.av:TV→AV
 | .im v=>.im v
 | .fl l=>.fl l
def AV.den (β:Nat→Bk):AV→Value
 | .im v=>v
 | .fl l=>.agg (aD l).toArray
 | .pt k o=>.pointer (some ⟨(β k).1,(β k).2.1+o,none⟩)
 | .sl k o n m=>.slice (some ⟨(β k).1,(β k).2.1+o,none⟩) n m
 | .tu l=>.tuple (l.map TV.den).toArray
 | .ic t l=>.iface t (.agg (aD l).toArray)
 | .tf k n m post=>.tuple (.slice (some ⟨(β k).1,(β k).2.1,none⟩) n m::post.map TV.den).toArray
 | .so k n=>.slice (some ⟨(β k).1,(β k).2.1,none⟩) n (β k).2.2
 | .tg k n ante post=>.tuple (ante.map TV.den ++ .slice (some ⟨(β k).1,(β k).2.1,none⟩) n (β k).2.2::post.map TV.den).toArray
theorem TV.av_den (β:Nat→Bk) (t:TV):t.av.den β=t.den:=by cases t<;>rfl
def AV.key:AV→Option Nat
 | .pt k _=>some k
 | .sl k _ _ _=>some k
 | .tf k _ _ _=>some k
 | .so k _=>some k
 | .tg k _ _ _=>some k
 | _=>none
theorem AV.den_eq {β β':Nat→Bk} (v:AV) (h:∀k,v.key=some k→β' k=β k):v.den β'=v.den β:=by
 cases v with
 | pt k o=>simp[AV.den,h k rfl]
 | sl k o n m=>simp[AV.den,h k rfl]
 | tf k n m post=>simp[AV.den,h k rfl]
 | so k n=>simp[AV.den,h k rfl]
 | tg k n ante post=>simp[AV.den,h k rfl]
 | _=>rfl
def AppAt (w:World) (b e sz n cap:Nat):Prop:=∃cur,w.heap[b]?=some (.cells cur e (0,0))∧n≤cap∧cap≤maxLen∧cur.size=cap*sz
inductive Fact|slot (s:Nat) (v:AV)|row (k:Nat) (qO:Bool) (l:List At)|at (k b:Nat)|app (k e sz n:Nat)
def Fact.ok (base:Nat) (β:Nat→Bk) (a:Act) (w:World):Fact→Prop
 | .slot s v=>a.tmps[s]?=some (v.den β)
 | .row k qO l=>(β k).1<w.heap.size∧w.rangeAt (β k).1 (β k).2.1 (aD l)∧(qO=true→base≤(β k).1∧(β k).2.1=0∧∀j,w.frozen? ⟨(β k).1,j,none⟩=false)∧(qO=false→True)
 | .at k b=>(β k).1=b∧(β k).2.1=0
 | .app k e sz n=>AppAt w (β k).1 e sz n (β k).2.2
def oU:List Fact→Nat→Option AV
 | [],_=>none
 | .slot t v::r,s=>bif Nat.beq t s then some v else oU r s
 | .row _ _ _::r,s=>oU r s
 | .at _ _::r,s=>oU r s
 | .app _ _ _ _::r,s=>oU r s
theorem eJ:∀{M:List Fact} {s:Nat} {v:AV},oU M s=some v→Fact.slot s v∈M
 | .slot t u::r,s,v,h=>by
  unfold oU at h;cases hb:Nat.beq t s<;>rw[hb]at h
  ·exact List.mem_cons_of_mem _ (eJ h)
  ·cases h; cases Nat.eq_of_beq_eq_true hb; exact List.mem_cons_self
 | .row _ _ _::r,s,v,h=>List.mem_cons_of_mem _ (eJ (M:=r) h)
 | .at _ _::r,s,v,h=>List.mem_cons_of_mem _ (eJ (M:=r) h)
 | .app _ _ _ _::r,s,v,h=>List.mem_cons_of_mem _ (eJ (M:=r) h)
def dG:List Fact→Nat→Option (Bool×List At)
 | [],_=>none
 | .row t o l::r,s=>bif Nat.beq t s then some (o,l)else dG r s
 | .slot _ _::r,s=>dG r s
 | .at _ _::r,s=>dG r s
 | .app _ _ _ _::r,s=>dG r s
theorem aY:∀{M:List Fact} {s:Nat} {o:Bool} {l:List At},dG M s=some (o,l)→Fact.row s o l∈M
 | .row t u m::r,s,o,l,h=>by
  unfold dG at h;cases hb:Nat.beq t s<;>rw[hb]at h
  ·exact List.mem_cons_of_mem _ (aY h)
  ·cases h; cases Nat.eq_of_beq_eq_true hb; exact List.mem_cons_self
 | .slot _ _::r,s,o,l,h=>List.mem_cons_of_mem _ (aY (M:=r) h)
 | .at _ _::r,s,o,l,h=>List.mem_cons_of_mem _ (aY (M:=r) h)
 | .app _ _ _ _::r,s,o,l,h=>List.mem_cons_of_mem _ (aY (M:=r) h)
def sY:List Fact→Nat→Option Nat
 | [],_=>none
 | .at t b::r,s=>bif Nat.beq t s then some b else sY r s
 | .slot _ _::r,s=>sY r s
 | .row _ _ _::r,s=>sY r s
 | .app _ _ _ _::r,s=>sY r s
theorem eS:∀{M:List Fact} {s b:Nat},sY M s=some b→Fact.at s b∈M
 | .at t c::r,s,b,h=>by
  unfold sY at h;cases hb:Nat.beq t s<;>rw[hb]at h
  ·exact List.mem_cons_of_mem _ (eS h)
  ·cases h; cases Nat.eq_of_beq_eq_true hb; exact List.mem_cons_self
 | .slot _ _::r,s,b,h=>List.mem_cons_of_mem _ (eS (M:=r) h)
 | .row _ _ _::r,s,b,h=>List.mem_cons_of_mem _ (eS (M:=r) h)
 | .app _ _ _ _::r,s,b,h=>List.mem_cons_of_mem _ (eS (M:=r) h)
def oF:List Fact→Nat→Option (Nat×Nat×Nat)
 | [],_=>none
 | .app t e sz n::r,s=>bif Nat.beq t s then some (e,sz,n)else oF r s
 | .slot _ _::r,s=>oF r s
 | .row _ _ _::r,s=>oF r s
 | .at _ _::r,s=>oF r s
theorem fK:∀{M:List Fact} {s e sz n:Nat},oF M s=some (e,sz,n)→Fact.app s e sz n∈M
 | .app t e' sz' n'::r,s,e,sz,n,h=>by
  unfold oF at h;cases hb:Nat.beq t s<;>rw[hb]at h
  ·exact List.mem_cons_of_mem _ (fK h)
  ·cases h; cases Nat.eq_of_beq_eq_true hb; exact List.mem_cons_self
 | .slot _ _::r,s,e,sz,n,h=>List.mem_cons_of_mem _ (fK (M:=r) h)
 | .row _ _ _::r,s,e,sz,n,h=>List.mem_cons_of_mem _ (fK (M:=r) h)
 | .at _ _::r,s,e,sz,n,h=>List.mem_cons_of_mem _ (fK (M:=r) h)
def ev (M:List Fact):Operand→Option AV
 | .tmp s=>oU M s
 | .const v=>some (.im v)
 | .func f=>some (.im (.func (.func f) #[] #[]))
 | .global _=>none
theorem aG {M:List Fact} {base:Nat} {β:Nat→Bk} {a:Act} {w:World} (hM:∀φ∈M,φ.ok base β a w) {x:Operand} {v:AV} (h:ev M x=some v):a.eval x=v.den β:=by
 cases x with
 | tmp s =>
  have:=hM _ (eJ h);simp only[Fact.ok]at this;simp[Act.eval,this]
 | const u=>cases h; rfl
 | func f=>cases h; rfl
 | global g=>cases h
def Ej (M:List Fact):List Operand→Option (List AV)
 | []=>some []
 | x::r=>match ev M x,Ej M r with|some v,some l=>some (v::l)|_,_=>none
theorem nT {M:List Fact} {base:Nat} {β:Nat→Bk} {a:Act} {w:World} (hM:∀φ∈M,φ.ok base β a w):∀{xs:List Operand} {l:List AV},Ej M xs=some l→xs.map a.eval=l.map (AV.den β)
 | [],l,h=>by cases h; rfl
 | x::r,l,h=>by
  unfold Ej at h;cases hx:ev M x with
  | none=>rw[hx]at h; cases h
  | some v =>
   cases hr:Ej M r with
   | none=>rw[hx,hr]at h; cases h
   | some l'=>rw[hx,hr]at h; cases h; simp[aG hM hx,nT hM hr]
def yT:AV→Option (List At)
 | .fl l=>some l
 | .im v=>bif sH v then some [.c v]else none
 | _=>none
theorem mI {v:AV} {p:List At} (h:yT v=some p) (β:Nat→Bk):(v.den β).cells=(aD p).toArray:=by
 cases v with
 | fl l=>cases h; rfl
 | im u =>
  have h':(bif sH u then some [At.c u]else none)=some p:=h;cases hu:sH u<;>rw[hu]at h'
  ·cases h'
  ·cases h';cases u<;>first|rfl|cases hu
 | _=>cases h
def mH (M:List Fact):List (Nat×Operand)→Option (List (Nat×List At))
 | []=>some []
 | (i,x)::r=>match ev M x with
  | some v=>match yT v,mH M r with|some p,some l=>some ((i,p)::l)|_,_=>none
  | none=>none
def uO (place:Nat→Option (Nat×Nat)):List At→List (Nat×List At)→Option (List At)
 | l,[]=>some l
 | l,(i,p)::r=>match place i with
  | none=>none
  | some (off,sz)=>bif Nat.beq (fI p) sz then (match put l off p with|some l'=>uO place l' r|none=>none)else none
theorem zR:∀(p B A C:List Value) (k off:Nat),A.length=off+k→B.length=p.length →
  (p.zipIdx k).foldl (fun cs (x:Value×Nat)=>cs.setIfInBounds (off+x.2) x.1) (A++(B++C)).toArray=(A++(p++C)).toArray
 | [],B,A,C,k,off,hA,hB=>by
  have:B=[]:=List.length_eq_zero_iff.1 (by simpa using hB);subst this; rfl
 | v::p,B,A,C,k,off,hA,hB=>by
  cases B with
  | nil=>cases hB
  | cons b B =>
   have e:(A++(b::B++C)).toArray.setIfInBounds (off+k) v=((A++[v])++(B++C)).toArray:=by
    rw[List.setIfInBounds_toArray,←hA];simp
   simp only[List.zipIdx_cons,List.foldl_cons,e];rw[zR p B (A++[v]) C (k+1) off (by simp[hA]; omega) (by simpa using hB)];simp
theorem jL {M:List Fact} {base:Nat} {β:Nat→Bk} {a:Act} {w:World} (hM:∀φ∈M,φ.ok base β a w) (place:Nat→Option (Nat×Nat)) :
  ∀(xs:List (Nat×Operand)) (ps:List (Nat×List At)) (l l':List At),mH M xs=some ps→uO place l ps=some l' →
   Instr.fill place (aD l).toArray (xs.map fun (i,x)=>(i,a.eval x))=some (aD l').toArray
 | [],ps,l,l',h,h2=>by cases h; cases h2; rfl
 | (i,x)::r,ps,l,l',h,h2=>by
  unfold mH at h;cases hx:ev M x with
  | none=>rw[hx]at h; cases h
  | some v =>
   rw[hx]at h;simp only at h;cases hp:yT v with
   | none=>rw[hp]at h; cases h
   | some p =>
    cases hr:mH M r with
    | none=>rw[hp,hr]at h; cases h
    | some ps' =>
     rw[hp,hr]at h; cases h;unfold uO at h2;simp only[List.map_cons,Instr.fill];cases hpl:place i with
     | none=>rw[hpl]at h2; cases h2
     | some os =>
      obtain⟨off,sz⟩:=os;rw[hpl]at h2;simp only at h2;cases hb:Nat.beq (fI p) sz<;>rw[hb]at h2
      ·cases h2
      ·have hsz:=Nat.eq_of_beq_eq_true hb;simp only[cond_true]at h2;cases hq:put l off p with
       | none=>rw[hq]at h2; cases h2
       | some l1 =>
        rw[hq]at h2;obtain⟨A,m,s,e,f,ha,hm⟩:=yD hq;have hc:=mI hp β;rw[aG hM hx];have hsize:(AV.den β v).cells.size=sz:=by rw[hc]; simp[aM,hsz]
        have hle:¬(off+(AV.den β v).cells.size>(aD l).toArray.size):=by
         rw[hsize,e];simp[aO,aM];omega
        have hset:(AV.den β v).cells.zipIdx.foldl (fun cs (c,j)=>cs.setIfInBounds (off+j) c) (aD l).toArray=(aD l1).toArray:=by
         rw[hc,f,e,aO,aO];have:=zR (aD p) (aD m) (aD A) (aD s) 0 off (by rw[aM,ha]; rfl) (by rw[aM,aM,hm]);simpa using this
        simp only[hset];rw[if_neg (by simp[hsize]; simpa[hsize]using hle)];exact jL hM place r ps' l1 l' hr h2
inductive CA|v (x:TV)|s (l:List At) (n m:Nat)|so (l:List At) (n:Nat)|p (l:List At) (o:Nat)
inductive RV|one (t:TV)|many (l:List TV)
def RV.av:RV→AV
 | .one t=>t.av
 | .many l=>.tu l
def RV.den:RV→Value
 | .one t=>t.den
 | .many l=>.tuple (l.map TV.den).toArray
theorem RV.av_den (β:Nat→Bk) (r:RV):r.av.den β=r.den:=by cases r with|one t=>exact TV.av_den β t|many l=>rfl
def CA.ok (w:World):CA→Value→Prop
 | .v x,u=>u=x.den
 | .s l n m,u=>∃b o,u=.slice (some ⟨b,o,none⟩) n m∧b<w.heap.size∧w.rangeAt b o (aD l)
 | .so l n,u=>∃b o m,u=.slice (some ⟨b,o,none⟩) n m∧b<w.heap.size∧w.rangeAt b o (aD l)
 | .p l o,u=>∃b,u=.pointer (some ⟨b,o,none⟩)∧b<w.heap.size∧w.rangeAt b 0 (aD l)
def cE (w:World):List CA→List Value→Prop
 | [],[]=>True
 | c::cs,v::vs=>c.ok w v∧cE w cs vs
 | _,_=>False
abbrev Tab:=Nat→List CA→Option (List Prop×RV)
def aP:List Prop→Prop
 | []=>True
 | p::r=>p∧aP r
theorem cZ:∀{l m:List Prop},aP (l++m)↔aP l∧aP m
 | [],m=>by simp[aP]
 | p::r,m=>by simp[aP,cZ (l:=r),and_assoc]
def TabOk (P:Program) (T:Tab):Prop:=∀f cs pre r,T f cs=some (pre,r)→aP pre →
 (∀args w,(callFunc f args).run P w=.ok (.enter f args) w)∧∀(args:List Value) (w:World),cE w cs args→Calls P f args.toArray w (fun e w'=>e=.returned r.den∧Below w.heap.size w w')
def Sp:At→Bool
 | .c _=>false
 | _=>true
structure FR where
 l:List At
 n:Nat
 m:Nat
 post:List TV
def FR.val (r:FR) (b:Nat):Value:=bif r.post.isEmpty then .slice (some ⟨b,0,none⟩) r.n r.m else .tuple (.slice (some ⟨b,0,none⟩) r.n r.m::r.post.map TV.den).toArray
def FR.ok (r:FR) (w:World) (e:Ending) (w':World):Prop:=∃b,e=.returned (r.val b)∧Below w.heap.size w w'∧w.heap.size≤b∧b<w'.heap.size∧w'.rangeAt b 0 (aD r.l)∧∀j,w'.frozen? ⟨b,j,none⟩=false
structure FS where
 l:List At
 n:Nat
 e:Nat
 sz:Nat
 ap:Bool
 ante:List TV
 post:List TV
def FS.lone (r:FS):Bool:=r.ante.isEmpty&&r.post.isEmpty
def FS.val (r:FS) (b cap:Nat):Value:=bif r.lone then .slice (some ⟨b,0,none⟩) r.n cap else .tuple (r.ante.map TV.den ++ .slice (some ⟨b,0,none⟩) r.n cap::r.post.map TV.den).toArray
def FS.ok (r:FS) (w:World) (e:Ending) (w':World):Prop:=∃b cap,e=.returned (r.val b cap)∧Below w.heap.size w w'∧w.heap.size≤b∧b<w'.heap.size∧w'.rangeAt b 0 (aD r.l)∧(∀j,w'.frozen? ⟨b,j,none⟩=false)∧(r.ap=true→AppAt w' b r.e r.sz r.n cap)
def Shape (w w':World):Prop:=(∀(b:Nat) (cur:Array Value) (e:Nat),w.heap[b]?=some (Obj.cells cur e (0,0))→∃cur':Array Value,w'.heap[b]?=some (Obj.cells cur' e (0,0))∧cur'.size=cur.size)∧KeepsOthers w w'
structure WrAt (w w':World) (b:Nat) (l:List At):Prop where
 os:w'.os=w.os
 tape:w'.tape=w.tape
 output:w'.output=w.output
 size:w.heap.size≤w'.heap.size
 block:∀k,k<w.heap.size→k≠b→w'.heap[k]?=w.heap[k]?
 shape:Shape w w'
 frozen:∀j,w'.frozen? ⟨b,j,none⟩=w.frozen? ⟨b,j,none⟩
structure WrC (w w':World) (b:Nat):Prop where
 below:Below b w w'
 mem:∀p:Addr,p.block<w.heap.size→p.block≠b→w'.cell? p=w.cell? p∧w'.frozen? p=w.frozen? p
 shape:Shape w w'
 free:∀j,w'.frozen? ⟨b,j,none⟩=false
inductive CB|v (x:TV)|sl (o n m:Nat)|pt (o:Nat)|r (l:List At) (n m:Nat)
def CB.ok (w:World) (b:Nat):CB→Value→Prop
 | .v x,u=>u=x.den
 | .sl o n m,u=>u=.slice (some ⟨b,o,none⟩) n m
 | .pt o,u=>u=.pointer (some ⟨b,o,none⟩)
 | .r l n m,u=>∃b' o,u=.slice (some ⟨b',o,none⟩) n m∧b'<w.heap.size∧b'≠b∧w.rangeAt b' o (aD l)
def CBs (w:World) (b:Nat):List CB→List Value→Prop
 | [],[]=>True
 | c::cs,v::vs=>c.ok w b v∧CBs w b cs vs
 | _,_=>False
structure Ext where
 idx:Nat→Option Nat
 ld:Nat→Option (List At)
 st:Nat→Option (List At)
 gen:Nat→Option Value
 mks:Nat→Option (Nat×List At)
 ky:Nat→Option Nat
 old:Nat→Nat→List At→Prop
 T2:Nat→List CA→Option (List Prop×FR)
 T3:Nat→List CA→Option (List Prop×FS):=fun _ _=>Option.none
 T4:Nat→List CA→Option (List Prop×Nat×List At):=fun _ _=>Option.none
 T5:Nat→List CA→Option (List Prop×Nat×RV×List At):=fun _ _=>Option.none
 T6:Nat→Nat→List At→List CB→Option (List Prop×RV×List At):=fun _ _ _ _=>Option.none
def Ext.none:Ext:=⟨fun _=>.none,fun _=>.none,fun _=>.none,fun _=>.none,fun _=>.none,fun _=>.none,fun _ _ _=>False,fun _ _=>.none,fun _ _=>.none,fun _ _=>.none,fun _ _=>.none,fun _ _ _ _=>.none⟩
def IE (P:Program) (T:Tab) (w:World):Prop:=∀f cs pre r,T f cs=some (pre,r)→aP pre →
 (∀args w,(callFunc f args).run P w=.ok (.enter f args) w)∧∀(args:List Value),cE w cs args→Calls P f args.toArray w (fun e w'=>e=.returned r.den∧Below w.heap.size w w')
def TabOkW (P:Program) (T:Tab) (base:Nat) (w0:World):Prop:=∀w,Below base w0 w→IE P T w
theorem TabOk.w {P:Program} {T:Tab} (h:TabOk P T) (base:Nat) (w0:World):TabOkW P T base w0:=fun w _ f cs pre r hg hp=>⟨(h f cs pre r hg hp).1,fun args ha=>(h f cs pre r hg hp).2 args w ha⟩
def uZ (P:Program) (x:Ext) (w:World):Prop:=(∀b o l,x.old b o l→w.rangeAt b o (aD l))∧(∀f cs pre r,x.T2 f cs=some (pre,r)→aP pre →
 (∀args w,(callFunc f args).run P w=.ok (.enter f args) w)∧∀(args:List Value),cE w cs args→Calls P f args.toArray w (fun e w'=>r.ok w e w')) ∧
 (∀f cs pre r,x.T3 f cs=some (pre,r)→aP pre→(∀args w,(callFunc f args).run P w=.ok (.enter f args) w)∧∀(args:List Value),cE w cs args→Calls P f args.toArray w (fun e w'=>r.ok w e w')) ∧
 (∀f cs pre j l,x.T4 f cs=some (pre,j,l)→aP pre→(∀args w,(callFunc f args).run P w=.ok (.enter f args) w)∧∀(args:List Value),cE w cs args→∀b o n m,args[j]?=some (.slice (some ⟨b,o,none⟩) n m)→(∀q,w.frozen? ⟨b,q,none⟩=false) →
  Calls P f args.toArray w (fun e w'=>e=.returned (.slice (some ⟨b,o,none⟩) n m)∧WrAt w w' b l∧w'.rangeAt b o (aD l))) ∧
 (∀f cs pre j r l,x.T5 f cs=some (pre,j,r,l)→aP pre→(∀args w,(callFunc f args).run P w=.ok (.enter f args) w)∧∀(args:List Value),cE w cs args→∀b o,args[j]?=some (.pointer (some ⟨b,o,none⟩))→(∀q,w.frozen? ⟨b,q,none⟩=false) →
  Calls P f args.toArray w (fun e w'=>e=.returned r.den∧WrC w w' b∧w'.rangeAt b 0 (aD l))) ∧
 ∀f b row cs pre r l,x.T6 f b row cs=some (pre,r,l)→aP pre→(∀args w,(callFunc f args).run P w=.ok (.enter f args) w)∧∀(args:List Value),b<w.heap.size→w.rangeAt b 0 (aD row)→(∀q,w.frozen? ⟨b,q,none⟩=false)→CBs w b cs args →
  Calls P f args.toArray w (fun e w'=>e=.returned r.den∧WrC w w' b∧w'.rangeAt b 0 (aD l))
def ExtOk (P:Program) (x:Ext) (base:Nat) (w0:World):Prop:=∀w,Below base w0 w→uZ P x w
structure EqT where
 q:Nat→Option Nat
 n:Nat→Option Nat
 x:Ext:=Ext.none
 fit:Nat→List At→Bool:=fun _ l=>l.all Sp
def vA (P:Program) (q:EqT):Prop:=(∀t n,q.q t=some n→P.eqGuardType P.depth t=false∧∀(l:List At) (w:World),fI l=n→q.fit t l=true→(Op.equalIn 10000 t (.agg (aD l).toArray) (.agg (aD l).toArray)).run P w=.ok true w) ∧
 (∀t n,q.n t=some n→P.eqGuardType P.depth t=false∧∀(l m:List At) (w:World),fI l=n→fI m=n→q.fit t l=true→q.fit t m=true→aD l≠aD m→(Op.equalIn 10000 t (.agg (aD l).toArray) (.agg (aD m).toArray)).run P w=.ok false w)
theorem ExtOk.none (P:Program) (base:Nat) (w0:World):ExtOk P Ext.none base w0:=fun w _=>⟨fun _ _ _ h=>h.elim,fun _ _ _ _ h=>(by cases h),fun _ _ _ _ h=>(by cases h),fun _ _ _ _ _ h=>(by cases h),fun _ _ _ _ _ _ h=>(by cases h),fun _ _ _ _ _ _ _ h=>(by cases h)⟩
def EqOk (P:Program) (q:EqT):Prop:=vA P q∧q.x=Ext.none
def dH (P:Program) (q:EqT) (base:Nat) (w0:World):Prop:=vA P q∧ExtOk P q.x base w0
theorem EqOk.w {P:Program} {q:EqT} (h:EqOk P q) (base:Nat) (w0:World):dH P q base w0:=⟨h.1,h.2▸ExtOk.none P base w0⟩
structure Env where
 P:Program
 T:Nat→Tab
 q:EqT
 hint:Nat→Bool
 num:Nat→Option Value
 nt:Nat
def Gp (l:List At) (o:Nat):Option (List At):=bif Nat.beq o 0 then some l else dp l o
theorem sR {l:List At} {n:Nat} {r:List At} (h:Gp l n=some r):∃t,l=t++r∧fI t=n:=by
 unfold Gp at h;cases hb:Nat.beq n 0<;>rw[hb]at h
 ·exact nV l n r h
 ·cases h; exact⟨[],rfl,(Nat.eq_of_beq_eq_true hb).symm⟩
def LO (M:List Fact):AV→Option CA
 | .im v=>some (.v (.im v))
 | .fl l=>some (.v (.fl l))
 | .sl k o n m=>match dG M k with
  | some (_,l)=>match Gp l o with|some r=>some (.s r n m)|none=>none
  | none=>none
 | .so k n=>match dG M k with
  | some (_,l)=>some (.so l n)
  | none=>none
 | .pt k o=>match dG M k with
  | some (true,l)=>some (.p l o)
  | _=>none
 | _=>none
def uW (M:List Fact):List AV→Option (List CA)
 | []=>some []
 | v::r=>match LO M v,uW M r with|some c,some l=>some (c::l)|_,_=>none
theorem LN {M:List Fact} {base:Nat} {β:Nat→Bk} {a:Act} {w:World} (hM:∀φ∈M,φ.ok base β a w) {v:AV} {c:CA} (h:LO M v=some c):c.ok w (v.den β):=by
 cases v with
 | im v=>cases h; rfl
 | fl l=>cases h; rfl
 | sl k o n m =>
  unfold LO at h;cases hr:dG M k with
  | none=>simp[hr]at h
  | some x =>
   obtain⟨ow,l⟩:=x;simp only[hr]at h;cases hd:Gp l o with
   | none=>simp[hd]at h
   | some r =>
    simp only[hd]at h;cases h;obtain⟨h1,h2,_⟩:=hM _ (aY hr);obtain⟨p,e,hp⟩:=sR hd;refine⟨_,_,rfl,h1,fun j u hj => ?_⟩;have:=h2 (o+j) u (by rw[e,aO,List.getElem?_append_right (by rw[aM,hp]; omega),aM,hp]; simpa using hj)
    rwa [←Nat.add_assoc]at this
 | so k n =>
  unfold LO at h;cases hr:dG M k with
  | none=>simp[hr]at h
  | some x =>
   obtain⟨ow,l⟩:=x;simp only[hr]at h;cases h;obtain⟨h1,h2,_⟩:=hM _ (aY hr);exact⟨_,_,_,rfl,h1,h2⟩
 | pt k o =>
  unfold LO at h;cases hr:dG M k with
  | none=>simp[hr]at h
  | some x =>
   obtain⟨ow,l⟩:=x;cases ow with
   | false=>simp[hr]at h
   | true =>
    simp only[hr]at h;cases h;obtain⟨h1,h2,h3,_⟩:=hM _ (aY hr);obtain⟨_,h5,_⟩:=h3 rfl;rw[h5]at h2;exact⟨(β k).1,by simp[AV.den,h5],h1,h2⟩
 | _=>cases h
theorem mQ {M:List Fact} {base:Nat} {β:Nat→Bk} {a:Act} {w:World} (hM:∀φ∈M,φ.ok base β a w):∀{l:List AV} {cs:List CA},uW M l=some cs→cE w cs (l.map (AV.den β))
 | [],cs,h=>by cases h; trivial
 | v::r,cs,h=>by
  unfold uW at h;cases hv:LO M v with
  | none=>simp[hv]at h
  | some c =>
   cases hr:uW M r with
   | none=>simp[hv,hr]at h
   | some l =>
    simp only[hv,hr]at h;cases h;exact⟨LN hM hv,mQ hM hr⟩
def mN (P:Program) (t:Nat):Bool:=match P.underlying t with|some d=>d.isRow|none=>false
def dF (P:Program) (t:Nat):Option Nat:=match P.info? t with|some i=>some i.size|none=>none
def XV (P:Program) (t:Nat):Option (List At):=match P.info? t with
 | some i=>match i.zero with|some z=>some (nz z.cells.toList)|none=>none
 | none=>none
def Gx (z:List Value):List (Nat×List At)→List At
 | (_,[.c _])::_=>z.map .c
 | _=>nz z
theorem sN:∀z:List Value,aD (z.map .c)=z
 | []=>rfl
 | v::r=>by show [v]++aD (r.map .c)=_; rw[sN r]; rfl
theorem qT (z:List Value) (ps:List (Nat×List At)):aD (Gx z ps)=z:=by
 unfold Gx;split
 ·exact sN z
 ·exact FT z
def EB (P:Program) (t:Nat) (ps:List (Nat×List At)):Option (List At) :=
 match P.info? t,P.underlying t with
 | some it,some (.array _ e)=>match it.zero,P.info? e with
  | some z,some ie=>uO (fun i=>some (i*ie.size,ie.size)) (Gx z.cells.toList ps) ps
  | _,_=>none
 | some it,some (.struct fields)=>match it.zero,fields.toList.mapM (fun f=>(P.info? f.type).map fun i=>(f.offset,i.size))with
  | some z,some places=>uO (places.toArray[·]?) (Gx z.cells.toList ps) ps
  | _,_=>none
 | _,_=>none
theorem AJ {P:Program} {M:List Fact} {base:Nat} {β:Nat→Bk} {a:Act} {w:World} (hM:∀φ∈M,φ.ok base β a w) {t:Nat} {xs:List (Nat×Operand)} {ps:List (Nat×List At)} {l:List At}
  (hp:mH M xs=some ps) (h:EB P t ps=some l):P.built t (xs.map fun (i,x)=>(i,a.eval x))=some (aD l).toArray:=by
 unfold EB at h;unfold Program.built;cases hi:P.info? t with
 | none=>simp[hi]at h
 | some it =>
  cases hu:P.underlying t with
  | none=>simp[hi,hu]at h
  | some d =>
   cases d<;>simp only[hi,hu]at h ⊢ <;> try (cases h; done)
   ·rename_i n e;cases hz:it.zero with
    | none=>simp[hz]at h
    | some z =>
     cases he:P.info? e with
     | none=>simp[hz,he]at h
     | some ie =>
      simp only[hz,he]at h ⊢;have:=jL hM _ xs ps _ _ hp h
      rwa [qT,Array.toArray_toList]at this
   ·rename_i fs;cases hz:it.zero with
    | none=>simp[hz]at h
    | some z =>
     cases hm:fs.toList.mapM (fun f=>(P.info? f.type).map fun i=>(f.offset,i.size))with
     | none=>simp[hz,hm]at h
     | some pl =>
      simp only[hz,hm]at h ⊢;have:=jL hM _ xs ps _ _ hp h
      rwa [qT,Array.toArray_toList]at this
def GZ (P:Program) (t len:Nat) (ps:List (Nat×List At)):Option (List At) :=
 match P.underlying t with
 | some (.slice e)=>match P.info? e with
  | some ie=>match ie.zero with
   | some z=>bif Nat.ble (len*ie.size) 4096 && !(Nat.beq (len*ie.size) 0)then
     uO (fun i=>some (i*ie.size,ie.size)) (Gx ((Array.range (len*ie.size)).map (z.cells[· % z.cells.size]!)).toList ps) ps else none
   | none=>none
  | none=>none
 | _=>none
structure PostB (base:Nat) (β β':Nat→Bk) (a:Act) (w:World) (dst:Option Nat) (M out:List Fact) (kill:Option Nat) (a':Act) (w':World):Prop where
 defers:a'.defers=a.defers
 size:a'.tmps.size=a.tmps.size
 tmps:∀s,dst≠some s→a'.tmps[s]?=a.tmps[s]?
 beta:∀k,dst≠some k→β' k=β k
 heap:w.heap.size≤w'.heap.size
 mem:∀p:Addr,p.block<w.heap.size→(∀k,kill=some k→p.block≠(β k).1)→w'.cell? p=w.cell? p∧w'.frozen? p=w.frozen? p
 shape:Shape w w'
 below:∀w0,Below base w0 w→Below base w0 w'
 ok:∀φ∈out,φ.ok base β' a' w'
 rows:∀k l,Fact.row k true l∈out→(w.heap.size≤(β' k).1∧dst=some k)∨(dst≠some k∧∃l0,Fact.row k true l0∈M)∨(dst=some k∧∃k0 l0,kill=some k0∧(β' k).1=(β k0).1∧Fact.row k0 true l0∈M)
 one:∀k k' l l',Fact.row k true l∈out→Fact.row k' true l'∈out→k=k'
 kills:∀k,kill=some k→∃l0,Fact.row k true l0∈M
 onlyOwn:∀k l,Fact.row k false l∈out→False:=by first|(intro k l h; simp only[List.mem_cons,List.not_mem_nil,or_false,reduceCtorEq,false_or,Fact.row.injEq,Bool.false_eq_true,false_and,and_false]at h)|(intro k l h; cases h)
theorem Shape.refl (w:World):Shape w w:=⟨fun b cur e h=>⟨cur,h,rfl⟩,KeepsOthers.refl w⟩
theorem Shape.below {w w':World} (h:Below w.heap.size w w'):Shape w w':=⟨fun b cur e hb=>⟨cur,(h.block b (Array.getElem?_eq_some_iff.1 hb).1).trans hb,rfl⟩,h.size,fun b o hb _=>(h.block b (Array.getElem?_eq_some_iff.1 hb).1).trans hb⟩
theorem Shape.alloc (w:World) (o:Obj):Shape w (w.alloc o):=⟨fun b cur e hb=>⟨cur,(Below.heap_alloc w o b (Array.getElem?_eq_some_iff.1 hb).1).trans hb,rfl⟩,KeepsOthers.alloc w o⟩
theorem Shape.trans {a b c:World} (h:Shape a b) (k:Shape b c):Shape a c:=⟨fun q cur e hq=>by
 obtain⟨c1,h1,s1⟩:=h.1 q cur e hq;obtain⟨c2,h2,s2⟩:=k.1 q c1 e h1;exact⟨c2,h2,s2.trans s1⟩,h.2.trans k.2⟩
theorem Shape.drew (w:World):Shape w w.drew:=⟨fun q cur e h=>⟨cur,h,rfl⟩,Nat.le_refl _,fun k o h _=>h⟩
theorem AppAt.shape {w w':World} (h:Shape w w') {b e sz n cap:Nat} (ha:AppAt w b e sz n cap):AppAt w' b e sz n cap:=by
 obtain⟨cur,h1,h2,h3,h4⟩:=ha;obtain⟨c',h5,h6⟩:=h.1 b cur e h1;exact⟨c',h5,h2,h3,h6.trans h4⟩
theorem eT (a:Act) (d:Nat) (v:Value) (h:d<a.tmps.size):(a.put (some d) v).tmps[d]?=some v:=by
 simp[Act.put,h]
theorem iC (a:Act) (d s:Nat) (v:Value) (h:some d≠some s):(a.put (some d) v).tmps[s]?=a.tmps[s]?:=by
 have:d≠s:=fun e=>h (by rw[e])
 simp[Act.put,Array.getElem?_setIfInBounds_ne this]
theorem dO (a:Act) (d:Option Nat) (v:Value):(a.put d v).tmps.size=a.tmps.size:=by cases d<;>simp[Act.put]
theorem gL (a:Act) (d:Option Nat) (v:Value):(a.put d v).defers=a.defers:=by cases d<;>rfl
theorem uA {base:Nat} {β:Nat→Bk} {a:Act} {w:World} {d:Nat} {M:List Fact} (v:AV) (h:d<a.tmps.size):PostB base β β a w (some d) M [.slot d v] none (a.put (some d) (v.den β)) w where
 defers:=rfl
 size:=dO _ _ _
 tmps s hs:=iC _ _ _ _ hs
 beta k _:=rfl
 heap:=Nat.le_refl _
 mem p _ _:=⟨rfl,rfl⟩
 shape:=Shape.refl _
 below _ h:=h
 ok φ hφ:=by cases List.mem_singleton.1 hφ; exact eT _ _ _ h
 rows k l hk:=by cases List.mem_singleton.1 hk
 one k k' l l' hk:=by cases List.mem_singleton.1 hk
 kills k hk:=by cases hk
theorem oP {base:Nat} {β:Nat→Bk} {a:Act} {w w':World} {d:Nat} {M:List Fact} (v:AV) (h:d<a.tmps.size) (hB:base≤w.heap.size) (hb:Below w.heap.size w w'):PostB base β β a w (some d) M [.slot d v] none (a.put (some d) (v.den β)) w' where
 defers:=rfl
 size:=dO _ _ _
 tmps s hs:=iC _ _ _ _ hs
 beta k _:=rfl
 heap:=hb.size
 mem p hp _:=⟨hb.cell hp,hb.frozen hp⟩
 shape:=Shape.below hb
 below _ h:=h.trans (hb.mono hB)
 ok φ hφ:=by cases List.mem_singleton.1 hφ; exact eT _ _ _ h
 rows k l hk:=by cases List.mem_singleton.1 hk
 one k k' l l' hk:=by cases List.mem_singleton.1 hk
 kills k hk:=by cases hk
def TB (β:Nat→Bk) (d b:Nat):Nat→Bk:=fun k=>bif Nat.beq k d then (b,0,0)else β k
def SW (β:Nat→Bk) (d b cap:Nat):Nat→Bk:=fun k=>bif Nat.beq k d then (b,0,cap)else β k
theorem cL (β:Nat→Bk) (d b cap:Nat):SW β d b cap d=(b,0,cap):=by simp[SW]
theorem LY (β:Nat→Bk) (d b cap k:Nat) (h:some d≠some k):SW β d b cap k=β k:=by
 have:k≠d:=fun e=>h (by rw[e])
 unfold SW;cases h2:Nat.beq k d
 ·rfl
 ·exact absurd (Nat.eq_of_beq_eq_true h2) this
theorem cO (β:Nat→Bk) (d b:Nat):TB β d b d=(b,0,0):=by simp[TB]
theorem LZ (β:Nat→Bk) (d b k:Nat) (h:some d≠some k):TB β d b k=β k:=by
 have:k≠d:=fun e=>h (by rw[e])
 unfold TB;cases h2:Nat.beq k d
 ·rfl
 ·exact absurd (Nat.eq_of_beq_eq_true h2) this
theorem OM {base:Nat} {β:Nat→Bk} {a:Act} {w:World} {d:Nat} {M:List Fact} (v:AV) (l:List At) (t:TypeId) (h:d<a.tmps.size) (hB:base≤w.heap.size) :
  PostB base β (TB β d w.heap.size) a w (some d) M [.slot d v,.row d true l] none (a.put (some d) (v.den (TB β d w.heap.size))) (w.alloc (.cells (aD l).toArray t)) where
 defers:=rfl
 size:=dO _ _ _
 tmps s hs:=iC _ _ _ _ hs
 beta k hk:=LZ _ _ _ _ hk
 heap:=by simp
 mem p hp _:=⟨World.cell?_alloc_lt _ _ _ hp,World.frozen?_alloc_past _ _ _ hp⟩
 shape:=Shape.alloc _ _
 below _ h:=h.alloc hB _
 ok φ hφ:=by
  rcases List.mem_cons.1 hφ with rfl|hφ
  ·exact eT _ _ _ h
  ·cases List.mem_singleton.1 hφ;refine⟨by rw[cO]; simp,fun j u hj => ?_,fun _=>⟨by rw[cO]; exact hB,by rw[cO],fun j=>by rw[cO]; exact World.frozen?_alloc_new _ _ _ _⟩,fun h=>by cases h⟩;rw[cO];show World.cell? _ ⟨_,0+j,none⟩=_;rw[Nat.zero_add,World.cell?_alloc_new];simpa using hj
 rows k l' hk:=by
  rcases List.mem_cons.1 hk with hk|hk
  ·cases hk
  ·cases List.mem_singleton.1 hk;exact Or.inl ⟨by rw[cO]; exact Nat.le_refl _,rfl⟩
 one k k' l1 l2 hk hk':=by
  rcases List.mem_cons.1 hk with hk|hk
  ·cases hk
  ·rcases List.mem_cons.1 hk' with hk'|hk'
   ·cases hk'
   ·cases List.mem_singleton.1 hk; cases List.mem_singleton.1 hk'; rfl
 kills k hk:=by cases hk
end Go.Proofs.YtjeplinbleofnaaGreat.Ex
