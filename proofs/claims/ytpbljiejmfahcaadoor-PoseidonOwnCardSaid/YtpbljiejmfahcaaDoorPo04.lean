/- Po04 -/
import Derived.OrdersHeld
import Derived.Deep.RegionHeld
import Derived.KernelRfl
import Derived.Deep.DeepCutAuto
import Derived.Deep.LoopGhost
import Derived.RangeFuncNested
import Derived.RangeFuncLeaves
import Derived.TacticsIn
import Derived.Laws.IdiomCopy
import Derived.RegionTactic
import Derived.Laws.OwnMore
import Derived.Laws.MakeOwn
import Derived.Lib.TrailingZeros
import Derived.Test.YtpbljiejmfahcaaDoorPo03
import Derived.Test.YtpbljiejmfahcaaDoorPo02
import Derived.Test.YtpbljiejmfahcaaDoorProg
set_option maxRecDepth 100000
set_option linter.unusedVariables false
set_option linter.unusedSimpArgs false
set_option linter.unnecessarySimpa false
namespace Go.Proofs.YtpbljiejmfahcaaDoor
open Go.Proofs.Tryd
open Go.RowKit
theorem Mem.row {w wr:World} {rs:List (Nat×Nat×Nat×Nat×Nat)} (h:Mem w wr rs) {b c0 c1 c2 c3:Nat} (hm:(b,c0,c1,c2,c3)∈rs):Row4 wr b c0 c1 c2 c3:=(h.2 _ hm).2
theorem Mem.lt {w wr:World} {rs:List (Nat×Nat×Nat×Nat×Nat)} (h:Mem w wr rs) {b c0 c1 c2 c3:Nat} (hm:(b,c0,c1,c2,c3)∈rs):b<wr.heap.size:=(h.2 _ hm).1
theorem zT {N k L:Nat} (hk:k<L):N/2^(L-(k+1))=2*(N/2^(L-k))+gW N (L-1-k):=by
 have:=tE N (L-1-k);rw[show L-1-k+1=L-k by omega]at this;rw[show L-(k+1)=L-1-k by omega,this]
set_option maxHeartbeats 4000000 in
theorem zS (F:FC) (hF:F.Ok) (A b a0 a1 a2 a3 n0 n1 n2 n3:Nat) (ha:bY a0 a1 a2 a3) (hn:bY n0 n1 n2 n3) (hA:aC a0 a1 a2 a3=kp F A) (w:World) (hk:KIs w b F) :
  Calls prog 76 #[.pointer (some ⟨b,0,none⟩),.agg #[.int .u64 a0,.int .u64 a1,.int .u64 a2,.int .u64 a3],.agg #[.int .u64 n0,.int .u64 n1,.int .u64 n2,.int .u64 n3]] w (fV (kp F (A^aC n0 n1 n2 n3)) w):=by
 have HK:=Lib.hid hk;have HF:=Lib.hid hF;have HA:=Lib.hid hA;have la:aC a0 a1 a2 a3<F.M:=by rw[hA]; exact AX hF _
 have hL:=hk.lt;have HLA:=Lib.hid la;clear hk hF hA la
 go_enter func76,ntmps76
 go_wp2_with fail;have M0:=((((Mem.nil w).new w.heap.size a0 a1 a2 a3 73 rfl).new (w.heap.size+1) n0 n1 n2 n3 52 (by simp)).new (w.heap.size+1+1) 0 0 0 0 73 (by simp));refine (uP F HF.out b _ (HK.out.same M0.1)).mono ?_
 rintro e w1 ⟨s0,s1,s2,s3,rfl,hs,hv,hbl⟩
 have M1:=M0.on hbl;have HV1:=Lib.hid hv;have hz1:w.heap.size+1+1<w1.heap.size:=M1.lt (c0:=0) (c1:=0) (c2:=0) (c3:=0) (by simp);have R1:=M1.row (b:=w.heap.size+1) (c0:=n0) (c1:=n1) (c2:=n2) (c3:=n3) (by simp);have x0:=R1.c0; have x1:=R1.c1; have x2:=R1.c2; have x3:=R1.c3;have lt1:w.heap.size+1<w1.heap.size:=by omega
 have M2:=Lib.hid (M1.new w1.heap.size s0 s1 s2 s3 73 rfl);clear hbl hv R1 M0 M1;go_wp2_with fail;refine (LT n0 n1 n2 n3 hn _).mono ?_
 rintro e w2 ⟨L,rfl,hL256,hLen,hbl⟩
 have HLen:=Lib.hid hLen;have M3:=Lib.hid (M2.out.on hbl);have hz2:w1.heap.size<w2.heap.size:=by have:=hbl.size; simp at this; omega
 clear hbl hLen x0 x1 x2 x3;go_wp2_with fail
 go_loopw [15] (fun i wr=>∃k r0 r1 r2 r3:Nat,k≤L∧i=.int .i64 k∧bY r0 r1 r2 r3∧Hid (aC r0 r1 r2 r3=kp F (A^(aC n0 n1 n2 n3/2^(L-k))))∧Hid (Mem w wr [(w1.heap.size,r0,r1,r2,r3),(w.heap.size+1+1,0,0,0,0),(w.heap.size+1,n0,n1,n2,n3),(w.heap.size,a0,a1,a2,a3)])) (fun i _=>L-(intOf i).toNat)
 case atStart =>
  refine⟨0,s0,s1,s2,s3,Nat.zero_le _,rfl,hs,Lib.hid ?_,M3⟩;rw[HV1.out,Nat.sub_zero,Nat.div_eq_of_lt HLen.out.1,Nat.pow_zero]
 case round =>
  obtain⟨k,r0,r1,r2,r3,hkL,rfl,hr,HV,HM⟩:=hrel;have hrl:aC r0 r1 r2 r3<F.M:=by rw[HV.out]; exact AX HF.out _
  by_cases hlt:k<L
  ·have Rr:=HM.out.row (b:=w1.heap.size) (c0:=r0) (c1:=r1) (c2:=r2) (c3:=r3) (by simp);have x0:=Rr.c0; have x1:=Rr.c1; have x2:=Rr.c2; have x3:=Rr.c3;have ltr:=HM.out.lt (b:=w1.heap.size) (c0:=r0) (c1:=r1) (c2:=r2) (c3:=r3) (by simp);have Hrl:=Lib.hid hrl;clear Rr hrl;go_wp2_with fail;refine (cV F HF.out b r0 r1 r2 r3 r0 r1 r2 r3 hr hr Hrl.out _ (HK.out.same HM.out.1)).mono ?_
   rintro e w3 ⟨p0,p1,p2,p3,rfl,hp,hv,hbl⟩
   have hv':aC p0 p1 p2 p3=kp F (A^(aC n0 n1 n2 n3/2^(L-k))*A^(aC n0 n1 n2 n3/2^(L-k))%F.M):=by rw[hv,HV.out,kU HF.out]
   have HP:=Lib.hid hv';have M4:=HM.out.on hbl;have lt4:=M4.lt (b:=w1.heap.size) (c0:=r0) (c1:=r1) (c2:=r2) (c3:=r3) (by simp);have Rr:=M4.row (b:=w1.heap.size) (c0:=r0) (c1:=r1) (c2:=r2) (c3:=r3) (by simp);have Rn:=M4.row (b:=w.heap.size+1) (c0:=n0) (c1:=n1) (c2:=n2) (c3:=n3) (by simp);have Ra:=M4.row (b:=w.heap.size) (c0:=a0) (c1:=a1) (c2:=a2) (c3:=a3) (by simp);have M5:=Lib.hid (M4.put p0 p1 p2 p3 (by omega) (by intro r hr; simp at hr; rcases hr with rfl|rfl|rfl<;>simp<;>omega));clear x0 x1 x2 x3 hv hv' hbl M4;have x0:=Rr.c0; have x1:=Rr.c1; have x2:=Rr.c2; have x3:=Rr.c3; have xf:=Rr.fr;have y0:=Rn.c0; have y1:=Rn.c1; have y2:=Rn.c2; have y3:=Rn.c3;have ne1:¬w.heap.size+1=w1.heap.size:=by omega
   have ne1':¬w1.heap.size=w.heap.size+1:=by omega
   clear Rr Rn Ra;obtain⟨L1,e1,hL1⟩:∃L1:Nat,(L:Int)-1=(L1:Int)∧L1+1=L:=⟨L-1,by omega,by omega⟩
   obtain⟨j,e2,hj⟩:∃j:Nat,(L1:Int)-(k:Int)=(j:Int)∧j+k=L1:=⟨L1-k,by omega,by omega⟩
   have hj256:j<256:=by omega
   have hjk:j=L-1-k:=by omega
   have HJ:=Lib.hid hjk;clear hjk;go_wp2_with fail;refine (Jy n0 n1 n2 n3 j hn hj256 _).mono ?_
   rintro e w4 ⟨he,hbl⟩
   have M5':=M5.out;unfold set4 at M5';have M6:=M5'.on hbl;clear hbl M5' x0 x1 x2 x3 xf y0 y1 y2 y3;have lt6:=M6.lt (b:=w1.heap.size) (c0:=p0) (c1:=p1) (c2:=p2) (c3:=p3) (by simp)
   rcases oD (aC n0 n1 n2 n3) j with hb|hb
   ·rw[hb]at he;subst he;have HS:=Lib.hid (show aC p0 p1 p2 p3=kp F (A^(aC n0 n1 n2 n3/2^(L-(k+1)))) by
     rw[HP.out,zT hlt,←HJ.out,hb]; exact ((pI F A _ 0 (Or.inl rfl)).1 rfl).symm)
    have M7:=Lib.hid M6;clear hb M6;go_wp2_with fail
    go_roundw
    case rel=>exact⟨k+1,p0,p1,p2,p3,by omega,by go_num,hp,HS,M7⟩
    case measure=>simp[intOf]; omega
   ·rw[hb]at he;subst he;have Rr:=M6.row (b:=w1.heap.size) (c0:=p0) (c1:=p1) (c2:=p2) (c3:=p3) (by simp);have Ra:=M6.row (b:=w.heap.size) (c0:=a0) (c1:=a1) (c2:=a2) (c3:=a3) (by simp);have x0:=Rr.c0; have x1:=Rr.c1; have x2:=Rr.c2; have x3:=Rr.c3;have z0:=Ra.c0; have z1:=Ra.c1; have z2:=Ra.c2; have z3:=Ra.c3;have HB:=Lib.hid hb;have M7:=Lib.hid M6;clear hb M6 Rr Ra;go_wp2_with fail;refine (cV F HF.out b p0 p1 p2 p3 a0 a1 a2 a3 hp ha HLA.out _ (HK.out.same M7.out.1)).mono ?_
    rintro e w5 ⟨q0,q1,q2,q3,rfl,hq,hv,hbl⟩
    have hv':aC q0 q1 q2 q3=kp F (A^(aC n0 n1 n2 n3/2^(L-(k+1)))):=by
     rw[hv,HP.out,HA.out,kU HF.out,zT hlt,←HJ.out,HB.out]; exact ((pI F A _ 1 (Or.inr rfl)).2 rfl).symm
    have HS:=Lib.hid hv';have M8:=M7.out.on hbl;have lt8:=M8.lt (b:=w1.heap.size) (c0:=p0) (c1:=p1) (c2:=p2) (c3:=p3) (by simp);have Rr:=M8.row (b:=w1.heap.size) (c0:=p0) (c1:=p1) (c2:=p2) (c3:=p3) (by simp);have M9:=Lib.hid (M8.put q0 q1 q2 q3 (by omega) (by intro r hr; simp at hr; rcases hr with rfl|rfl|rfl<;>simp<;>omega));clear x0 x1 x2 x3 z0 z1 z2 z3 hv hv' hbl M8;have x0:=Rr.c0; have x1:=Rr.c1; have x2:=Rr.c2; have x3:=Rr.c3; have xf:=Rr.fr;clear Rr;go_wp2_with fail
    go_roundw
    case rel=>exact⟨k+1,q0,q1,q2,q3,by omega,by go_num,hq,HS,M9⟩
    case measure=>simp[intOf]; omega
  ·obtain rfl:k=L:=by omega
   have Rr:=HM.out.row (b:=w1.heap.size) (c0:=r0) (c1:=r1) (c2:=r2) (c3:=r3) (by simp);have x0:=Rr.c0; have x1:=Rr.c1; have x2:=Rr.c2; have x3:=Rr.c3;have Ro:=HM.out.row (b:=w.heap.size+1+1) (c0:=0) (c1:=0) (c2:=0) (c3:=0) (by simp);have o0:=Ro.c0; have o1:=Ro.c1; have o2:=Ro.c2; have o3:=Ro.c3; have of:=Ro.fr;have ltr:=HM.out.lt (b:=w1.heap.size) (c0:=r0) (c1:=r1) (c2:=r2) (c3:=r3) (by simp);have lto:=HM.out.lt (b:=w.heap.size+1+1) (c0:=0) (c1:=0) (c2:=0) (c3:=0) (by simp);clear Rr Ro hrl;go_wp2_with fail;refine bodyPost_ret (v:=.agg #[.int .u64 r0,.int .u64 r1,.int .u64 r2,.int .u64 r3]) (by simp[results,results76,go_sem, *]) rfl ?_;refine⟨_,_,_,_,rfl,hr,by rw[HV.out,Nat.sub_self,Nat.pow_zero,Nat.div_one],?_⟩;exact bQ HM.out.1 (by omega) _ _ _ _
theorem BH (d:Nat) (a0 a1 a2 a3 b0 b1 b2 b3:Nat) (w:World):(Op.equalIn (d+1+1) 34 (.agg #[.int .u64 a0,.int .u64 a1,.int .u64 a2,.int .u64 a3]) (.agg #[.int .u64 b0,.int .u64 b1,.int .u64 b2,.int .u64 b3])).run prog w=.ok (Bm a0 a1 a2 a3 b0 b1 b2 b3) w:=by
 have h0:∀(x y:Int) (w:World),(Op.equalIn (d+1) 32 (.int .u64 x) (.int .u64 y)).run prog w=.ok (x==y) w:=fun x y w=>run_equalIn_int w d 32 .u64 .u64 x y underlying32
 rw[Op.equalIn];simp only[Sem.run_bind,run_underlying underlying34,Result.andThen_ok,Tryd.sizeOf32];simp[Std.Legacy.Range.forIn_eq_forIn_range',Std.Legacy.Range.size,List.range',part,h0,Sem.run_bind,Result.andThen_ok];unfold Bm
 by_cases q0:a0=b0<;>by_cases q1:a1=b1<;>by_cases q2:a2=b2<;>by_cases q3:a3=b3<;>simp[q0,q1,q2,q3]<;>omega
theorem Mem.drew {w wr:World} {rs:List (Nat×Nat×Nat×Nat×Nat)} (h:Mem w wr rs):Mem w wr.drew rs :=
 ⟨h.1.drew,fun r hr=>⟨(h.2 r hr).1,⟨(h.2 r hr).2.c0,(h.2 r hr).2.c1,(h.2 r hr).2.c2,(h.2 r hr).2.c3,(h.2 r hr).2.fr⟩⟩⟩
set_option maxHeartbeats 1000000 in
theorem sL (F:FC) (hF:F.Ok) (A b a0 a1 a2 a3:Nat) (ha:bY a0 a1 a2 a3) (hA:aC a0 a1 a2 a3=kp F A) (w:World) (hk:KIs w b F) :
  Calls prog 65 #[.pointer (some ⟨b,0,none⟩),.agg #[.int .u64 a0,.int .u64 a1,.int .u64 a2,.int .u64 a3]] w (fV (kp F (A^(F.M-2))) w):=by
 have HK:=Lib.hid hk;have HF:=Lib.hid hF;have HA:=Lib.hid hA;have hL:=hk.lt;have hL1:b<w.heap.size+1:=by omega
 have k0:=hk.k0; have k1:=hk.k1; have k2:=hk.k2; have k3:=hk.k3;clear hk hF hA
 go_enter func65,ntmps65
 go_wp2_with fail;have M0:=(((Mem.nil w).new w.heap.size a0 a1 a2 a3 73 rfl).new (w.heap.size+1) 0 0 0 0 73 (by simp));refine (KZ F.m0 F.m1 F.m2 F.m3 2 0 0 0 HF.out.okm ⟨by omega,by omega,by omega,by omega⟩ _).mono ?_
 rintro e w1 ⟨n0,n1,n2,n3,c,rfl,hn,hc,hv,hbl⟩
 have hv':aC n0 n1 n2 n3=F.M-2:=by
  have e2:aC 2 0 0 0=2:=rfl;have:=fW hn; have:=HF.out.gt; have:=HF.out.two;rw[e2,show aC F.m0 F.m1 F.m2 F.m3=F.M from rfl]at hv;omega
 have HV:=Lib.hid hv';have M1:=M0.on hbl;have hz1:w.heap.size+1<w1.heap.size:=M1.lt (c0:=0) (c1:=0) (c2:=0) (c3:=0) (by simp);have R1:=M1.row (b:=w.heap.size) (c0:=a0) (c1:=a1) (c2:=a2) (c3:=a3) (by simp);have x0:=R1.c0; have x1:=R1.c1; have x2:=R1.c2; have x3:=R1.c3;have lt1:w.heap.size<w1.heap.size:=by omega
 have M2:=Lib.hid (M1.new w1.heap.size n0 n1 n2 n3 52 rfl);clear hbl hv hv' R1 M0 M1 k0 k1 k2 k3;go_wp2_with fail;refine (zS F HF.out A b a0 a1 a2 a3 n0 n1 n2 n3 ha hn HA.out _ (HK.out.same M2.out.1)).mono ?_
 rintro e w2 ⟨s0,s1,s2,s3,rfl,hs,hv,hbl⟩
 have HVs:=Lib.hid hv;have M3:=Lib.hid (M2.out.on hbl);have Ro:=M3.out.row (b:=w.heap.size+1) (c0:=0) (c1:=0) (c2:=0) (c3:=0) (by simp);have o0:=Ro.c0; have o1:=Ro.c1; have o2:=Ro.c2; have o3:=Ro.c3; have of:=Ro.fr;have lto:=M3.out.lt (b:=w.heap.size+1) (c0:=0) (c1:=0) (c2:=0) (c3:=0) (by simp);clear hbl hv Ro x0 x1 x2 x3;go_wp2_with fail;refine bodyPost_ret (v:=.agg #[.int .u64 s0,.int .u64 s1,.int .u64 s2,.int .u64 s3]) (by simp[results,results65,go_sem, *]) rfl ?_;refine⟨_,_,_,_,rfl,hs,by rw[HVs.out,HV.out],?_⟩;exact bQ M3.out.1 (by omega) _ _ _ _
section
variable {P:Program} {ops:Array Oper} {Q:Exit→Act→World→Prop} {md:Region.Mode} {S:World→Prop} {L:Nat}
def dM (P:Program) (md:Region.Mode) (ops:Array Oper) (Q:Exit→Act→World→Prop) (S:World→Prop) (L:Nat):Nat→Array Bool→Act→World→Prop
 | 0,got,a,w=>Region.ready md ops got=[]∧Q .normal a w
 | m+1,got,a,w =>
  (Region.ready md ops got=[]→Q .normal a w) ∧
  ∀i∈Region.ready md ops got,wpOp P ops Q i (fun b u=>(i=L∨S u)∧dM P md ops Q S L m (got.setIfInBounds i true) b u) a w
theorem pN:∀(m:Nat) (got:Array Bool) (a:Act) (w:World),dM P md ops Q S L m got a w→wpAny P md ops Q m got a w
 | 0,_,_,_,h=>h
 | m+1,_,_,_,h=>⟨h.1,fun i hi=>wpOp_mono (fun b u k=>pN m _ b u k.2) (h.2 i hi)⟩
def OC (md:Region.Mode) (ops:Array Oper) (L i:Nat):Bool :=
 match ops[L]? with
 | some o=>o.after.any fun e=>Region.binds md e&&e.on==i
 | none=>false
theorem DF {i:Nat} {oi:Oper} {v:Value} (hi:ops[i]?=some oi) (hsel:∀(j:Nat) (o:Oper) cs b,ops[j]?=some o→o.op ≠ .select cs b)
  (hL:OC md ops L i=true) (hQ:∀c a w,Q (.panic c) (a.put oi.dst v) w→Q (.panic c) a w) :
  ∀(m:Nat) (got:Array Bool) (a:Act) (w:World),
   (∀j oj,ops[j]?=some oj→j≠i→got.getD j true=false→(∀e∈oj.after,Region.binds md e=true→e.on≠i)→oi.apart ops oj=true) →
   i∈Region.ready md ops got→YieldsIf P ops S oi v a→S w →
   dM P md ops Q S L m (got.setIfInBounds i true) (a.put oi.dst v) w→dM P md ops Q S L (m+1) got a w:=by
 intro m
 induction m with
 | zero =>
  intro got a w _ hr hy hS H;refine⟨fun h=>(by rw[h]at hr; cases hr),fun j hj => ?_⟩
  by_cases hji:j=i
  ·subst hji; exact hy.wpOp hi hS ⟨.inr hS,H⟩
  ·have:=ready_mono hj hji;rw[H.1]at this;cases this
 | succ m ih =>
  intro got a w hfree hr hy hS H;refine⟨fun h=>(by rw[h]at hr; cases hr),fun j hj => ?_⟩
  by_cases hji:j=i
  ·subst hji; exact hy.wpOp hi hS ⟨.inr hS,H⟩
  ·obtain⟨hun,oj,hoj,hall⟩:=mem_ready.1 hj;have hno:∀e∈oj.after,Region.binds md e=true→e.on≠i:=fun e he hb heq=>by
    have h1:=hall e he hb;have h0:=(mem_ready.1 hr).1;rw[heq]at h1
    rcases Nat.lt_or_ge i got.size with h'|h'
    ·simp[h']at h0 h1; rw[h0]at h1; cases h1
    ·simp[Array.getElem?_eq_none h']at h1
   have hjL:j≠L:=fun e=>by
    subst e;unfold OC at hL;rw[hoj]at hL;obtain⟨x,hx,hx2⟩:=Array.any_eq_true'.1 hL;simp only[Bool.and_eq_true,beq_iff_eq]at hx2;exact hno x hx hx2.1 hx2.2
   have h2:=wpOp_putIf hoj (hfree j oj hoj hji hun hno) (fun cs b=>hsel i oi cs b hi) (fun cs b=>hsel j oj cs b hoj) hQ hy (H.2 j (ready_mono hj hji));have hfree':∀k ok,ops[k]?=some ok→k≠i→(got.setIfInBounds j true).getD k true=false →
     (∀e∈ok.after,Region.binds md e=true→e.on≠i)→oi.apart ops ok=true:=fun k ok hk hki hu hn=>by
    refine hfree k ok hk hki ?_ hn
    by_cases hjk:j=k
    ·subst hjk; exact hun
    ·rw[getD_set_ne true hjk]at hu; exact hu
   refine wpOp_mono (fun b u h3=>⟨h3.2.1,ih (got.setIfInBounds j true) b u hfree' (ready_mono hr (Ne.symm hji)) h3.1 (h3.2.1.resolve_left hjL) ?_⟩) h2;rw[Array.setIfInBounds_comm _ _ hji];exact h3.2.2
theorem aO {i:Nat} {oi:Oper} {v:Value} {m:Nat} {got:Array Bool} {a:Act} {w:World} (hi:ops[i]?=some oi)
  (hs:Region.noSelect ops=true) (hf:Region.free md ops got i=true) (hr:(Region.ready md ops got).contains i=true) (hL:OC md ops L i=true)
  (hQ:∀c a w,Q (.panic c) (a.put oi.dst v) w→Q (.panic c) a w) (hS:S w) (hy:YieldsIf P ops S oi v a)
  (h:dM P md ops Q S L m (got.setIfInBounds i true) (a.put oi.dst v) w):dM P md ops Q S L (m+1) got a w :=
 DF hi (Region.noSelect_spec hs) hL hQ m got a w (Region.free_spec hi hf) (by simpa using hr) hy hS h
theorem aY {i:Nat} {o:Oper} {m:Nat} {got:Array Bool} {a:Act} {w:World} (hr:Region.ready md ops got=[i]) (ho:ops[i]?=some o)
  (h:∀K:Act→World→Prop,Shut (∀b u,(i=L∨S u)→((i=L∨S u)→dM P md ops Q S L m (got.setIfInBounds i true) b u)→K b u)→if Region.wanted o (yielded ops a.tmps)=true then Oper.wp P o a w K Q else K (a.put o.dst undef) w) :
  dM P md ops Q S L (m+1) got a w :=
 ⟨fun h0=>(by rw[hr]at h0; cases h0),fun j hj=>by
  rw[hr]at hj;obtain rfl:j=i:=by simpa using hj
  exact wpOp_step ho (fun K hK=>h K (fun b u hS hW=>hK b u ⟨hS,hW hS⟩))⟩
theorem eB {got:Array Bool} {a:Act} {w:World} (hr:Region.ready md ops got=[]) (h:Q .normal a w):dM P md ops Q S L 0 got a w:=⟨hr,h⟩
theorem dD (S:World→Prop) (L:Nat) {id:Nat} {a:Act} {w:World} (hm:P.follows .mixedOrders=true)
  (h:dM P .any ops Q S L ops.size (Array.replicate ops.size false) a w.drew):(Code.region id ops true).wp P Q a w :=
 wp_region_any hm (pN _ _ _ _ h)
end
theorem OI {P:Program} {ops:Array Oper} {Q:Exit→Act→World→Prop} {md:Region.Mode} {S:World→Prop} {L:Nat} {i j:Nat} {oi oj:Oper} {m:Nat} {got:Array Bool} {a:Act} {w:World} (hr:Region.ready md ops got=[i,j]) (hoi:ops[i]?=some oi) (hoj:ops[j]?=some oj)
  (h1:∀K:Act→World→Prop,Shut (∀b u,(i=L∨S u)→((i=L∨S u)→dM P md ops Q S L m (got.setIfInBounds i true) b u)→K b u)→if Region.wanted oi (yielded ops a.tmps)=true then Oper.wp P oi a w K Q else K (a.put oi.dst undef) w)
  (h2:∀K:Act→World→Prop,Shut (∀b u,(j=L∨S u)→((j=L∨S u)→dM P md ops Q S L m (got.setIfInBounds j true) b u)→K b u)→if Region.wanted oj (yielded ops a.tmps)=true then Oper.wp P oj a w K Q else K (a.put oj.dst undef) w) :
  dM P md ops Q S L (m+1) got a w :=
 ⟨fun h0=>(by rw[hr]at h0; cases h0),fun k hk=>by
  rw[hr]at hk
  rcases List.mem_cons.1 hk with rfl|hk
  ·exact wpOp_step hoi (fun K hK=>h1 K (fun b u hS hW=>hK b u ⟨hS,hW hS⟩))
  ·obtain rfl:k=j:=by simpa using hk
   exact wpOp_step hoj (fun K hK=>h2 K (fun b u hS hW=>hK b u ⟨hS,hW hS⟩))⟩
def FieldIs (f:Int) (F:FC):Prop:=f=1∧F=FP∨f=2∧F=FR
theorem FieldIs.ok {f:Int} {F:FC} (h:FieldIs f F):F.Ok:=by rcases h with⟨_,rfl⟩|⟨_,rfl⟩; exact Up; exact Uo
theorem FieldIs.root {f:Int} {F:FC} (h:FieldIs f F):∃g,Root F.M g:=by
 rcases h with⟨_,rfl⟩|⟨_,rfl⟩
 ·exact⟨3,by rw[aAe]; exact Fw⟩
 ·exact⟨5,by rw[aAd]; exact Fv⟩
def Bad1 (f:Int) (A:Nat) (c:Int):Prop:=f≠1∧f≠2∧c=1∨∃F,FieldIs f F∧¬A<F.M∧c=21
def Bad2 (f:Int) (A B:Nat) (c:Int):Prop:=Bad1 f A c∨∃F,FieldIs f F∧A<F.M∧¬B<F.M∧c=21
def Vq (c:Int) (V:Nat) (w:World) (e:Ending) (w':World):Prop :=
 ∃s0 s1 s2 s3:Nat,e=.returned (.tuple #[.agg #[.int .u64 s0,.int .u64 s1,.int .u64 s2,.int .u64 s3],.int .i64 c])∧bY s0 s1 s2 s3∧aC s0 s1 s2 s3=V∧Below w.heap.size w w'
theorem Lv:bY 0 0 0 0:=⟨by omega,by omega,by omega,by omega⟩
theorem KIs.new (w:World) (F:FC) (t:TypeId):KIs (w.alloc (.cells #[.int .u64 F.m0,.int .u64 F.m1,.int .u64 F.m2,.int .u64 F.m3,.int .u64 F.inv,.int .u64 F.s0,.int .u64 F.s1,.int .u64 F.s2,.int .u64 F.s3] t)) w.heap.size F :=
 ⟨by rw[World.cell?_alloc_new]; rfl,by rw[World.cell?_alloc_new]; rfl,by rw[World.cell?_alloc_new]; rfl,by rw[World.cell?_alloc_new]; rfl,by rw[World.cell?_alloc_new]; rfl,by rw[World.cell?_alloc_new]; rfl,by rw[World.cell?_alloc_new]; rfl,by rw[World.cell?_alloc_new]; rfl,by rw[World.cell?_alloc_new]; rfl,by simp⟩
set_option maxHeartbeats 2000000 in
theorem gI (f:Int) (F:FC) (hf:FieldIs f F) (w:World):Calls prog 43 #[.int .i64 f] w fun e w'=>e=.returned (.tuple #[.agg #[.int .u64 F.m0,.int .u64 F.m1,.int .u64 F.m2,.int .u64 F.m3,.int .u64 F.inv,.int .u64 F.s0,.int .u64 F.s1,.int .u64 F.s2,.int .u64 F.s3],.int .i64 0])∧Below w.heap.size w w':=by
 rcases hf with⟨rfl,rfl⟩|⟨rfl,rfl⟩
 ·go_enter func43,ntmps43
  go_wp2_with fail;refine bodyPost_ret (v:=.tuple #[.agg #[.int .u64 FP.m0,.int .u64 FP.m1,.int .u64 FP.m2,.int .u64 FP.m3,.int .u64 FP.inv,.int .u64 FP.s0,.int .u64 FP.s1,.int .u64 FP.s2,.int .u64 FP.s3],.int .i64 0]) (by simp[results,results43,go_sem,FP]) rfl ?_;refine⟨rfl,?_⟩
  repeat (first|exact Below.refl _ _|refine Below.drew ?_|refine Below.alloc ?_ (by first|(simp; done)|(simp; omega)) _|refine Below.setCell ?_ (by simp) _)
 ·go_enter func43,ntmps43
  go_wp2_with fail;refine bodyPost_ret (v:=.tuple #[.agg #[.int .u64 FR.m0,.int .u64 FR.m1,.int .u64 FR.m2,.int .u64 FR.m3,.int .u64 FR.inv,.int .u64 FR.s0,.int .u64 FR.s1,.int .u64 FR.s2,.int .u64 FR.s3],.int .i64 0]) (by simp[results,results43,go_sem,FR]) rfl ?_;refine⟨rfl,?_⟩
  repeat (first|exact Below.refl _ _|refine Below.drew ?_|refine Below.alloc ?_ (by first|(simp; done)|(simp; omega)) _|refine Below.setCell ?_ (by simp) _)
set_option maxHeartbeats 2000000 in
theorem MP (f:Int) (h1:f≠1) (h2:f≠2) (w:World):Calls prog 43 #[.int .i64 f] w fun e w'=>e=.returned (.tuple #[.agg #[.int .u64 0,.int .u64 0,.int .u64 0,.int .u64 0,.int .u64 0,.int .u64 0,.int .u64 0,.int .u64 0,.int .u64 0],.int .i64 1])∧Below w.heap.size w w':=by
 have t1:(f==1)=false:=by simp[h1]
 have t2:(f==2)=false:=by simp[h2]
 go_enter func43,ntmps43
 go_wp2_with fail;refine bodyPost_ret (v:=.tuple #[.agg #[.int .u64 0,.int .u64 0,.int .u64 0,.int .u64 0,.int .u64 0,.int .u64 0,.int .u64 0,.int .u64 0,.int .u64 0],.int .i64 1]) (by simp[results,results43,go_sem]) rfl ?_;refine⟨rfl,?_⟩
 repeat (first|exact Below.refl _ _|refine Below.drew ?_|refine Below.alloc ?_ (by first|(simp; done)|(simp; omega)) _|refine Below.setCell ?_ (by simp) _)
theorem zJ (w:World):Calls prog 45 #[.int .i64 1] w fun e w'=>e=.returned (.int .i64 1)∧w'=w:=by
 go_enter func45,ntmps45
 go_wp2_with fail;go_ret;exact⟨rfl,rfl⟩
theorem zI (w:World):Calls prog 45 #[.int .i64 0] w fun e w'=>e=.returned (.int .i64 21)∧w'=w:=by
 go_enter func45,ntmps45
 go_wp2_with fail;go_ret;exact⟨rfl,rfl⟩
set_option maxHeartbeats 2000000 in
theorem Bh (f:Int) (F:FC) (hf:FieldIs f F) (a0 a1 a2 a3 b0 b1 b2 b3:Nat) (ha:bY a0 a1 a2 a3) (hb:bY b0 b1 b2 b3) (la:aC a0 a1 a2 a3<F.M) (lb:aC b0 b1 b2 b3<F.M) (w:World) :
  Calls prog 46 #[.int .i64 f,.agg #[.int .u64 a0,.int .u64 a1,.int .u64 a2,.int .u64 a3],.agg #[.int .u64 b0,.int .u64 b1,.int .u64 b2,.int .u64 b3]] w (Vq 0 ((aC a0 a1 a2 a3+aC b0 b1 b2 b3)%F.M) w):=by
 go_enter func46,ntmps46
 go_wp2_with fail;refine (gI f F hf _).mono ?_
 rintro e w1 ⟨rfl,hbl⟩
 have M1:=((((Mem.nil w).new (w.heap.size) a0 a1 a2 a3 34 (by simp)).new (w.heap.size+1) b0 b1 b2 b3 34 (by simp)).new (w.heap.size+1+1) 0 0 0 0 34 (by simp)).on hbl;clear hbl;have z0:w.heap.size<w1.heap.size:=M1.lt (c0:=a0) (c1:=a1) (c2:=a2) (c3:=a3) (by simp);have z1:w.heap.size+1<w1.heap.size:=M1.lt (c0:=b0) (c1:=b1) (c2:=b2) (c3:=b3) (by simp);have z2:w.heap.size+1+1<w1.heap.size:=M1.lt (c0:=0) (c1:=0) (c2:=0) (c3:=0) (by simp);have HM:=Lib.hid (M1.on ((Below.refl _ _).alloc (Nat.le_refl _) (.cells #[.int .u64 F.m0,.int .u64 F.m1,.int .u64 F.m2,.int .u64 F.m3,.int .u64 F.inv,.int .u64 F.s0,.int .u64 F.s1,.int .u64 F.s2,.int .u64 F.s3] 75)));have KK:=Lib.hid (KIs.new w1 F 75);have kr:=M1.row (b:=w.heap.size) (c0:=a0) (c1:=a1) (c2:=a2) (c3:=a3) (by simp);have x0:=kr.c0; have x1:=kr.c1; have x2:=kr.c2; have x3:=kr.c3;clear kr;have xl:=M1.lt (b:=w.heap.size) (c0:=a0) (c1:=a1) (c2:=a2) (c3:=a3) (by simp);go_wp2_with fail;refine (fU F hf.ok w1.heap.size a0 a1 a2 a3 ha _ KK.out).mono ?_
 rintro e w2 ⟨he,hbl⟩
 rw[show JF (aC a0 a1 a2 a3) F.M=true from decide_eq_true la]at he;subst he;have HM':=Lib.hid (HM.out.on hbl);have KK':=Lib.hid (KK.out.same hbl);have zk:=KK'.out.lt;clear HM KK hbl M1;have HM:=HM';have KK:=KK';clear HM' KK';clear x0 x1 x2 x3 xl zk;have kr:=HM.out.row (b:=w.heap.size+1) (c0:=b0) (c1:=b1) (c2:=b2) (c3:=b3) (by simp);have x0:=kr.c0; have x1:=kr.c1; have x2:=kr.c2; have x3:=kr.c3;clear kr;have xl:=HM.out.lt (b:=w.heap.size+1) (c0:=b0) (c1:=b1) (c2:=b2) (c3:=b3) (by simp);go_wp2_with fail;refine (fU F hf.ok w1.heap.size b0 b1 b2 b3 hb _ KK.out).mono ?_
 rintro e w3 ⟨he,hbl⟩
 rw[show JF (aC b0 b1 b2 b3) F.M=true from decide_eq_true lb]at he;subst he;have HM':=Lib.hid (HM.out.on hbl);have KK':=Lib.hid (KK.out.same hbl);have zk:=KK'.out.lt;clear HM KK hbl;have HM:=HM';have KK:=KK';clear HM' KK';clear x0 x1 x2 x3 xl zk;have kr:=HM.out.row (b:=w.heap.size) (c0:=a0) (c1:=a1) (c2:=a2) (c3:=a3) (by simp);have x0:=kr.c0; have x1:=kr.c1; have x2:=kr.c2; have x3:=kr.c3;clear kr;have xl:=HM.out.lt (b:=w.heap.size) (c0:=a0) (c1:=a1) (c2:=a2) (c3:=a3) (by simp);have kr:=HM.out.row (b:=w.heap.size+1) (c0:=b0) (c1:=b1) (c2:=b2) (c3:=b3) (by simp);have u0:=kr.c0; have u1:=kr.c1; have u2:=kr.c2; have u3:=kr.c3;clear kr;have ul:=HM.out.lt (b:=w.heap.size+1) (c0:=b0) (c1:=b1) (c2:=b2) (c3:=b3) (by simp);go_wp2_with fail;refine (rN F hf.ok w1.heap.size a0 a1 a2 a3 b0 b1 b2 b3 ha hb la lb _ KK.out).mono ?_
 rintro e w4 ⟨s0,s1,s2,s3,rfl,hs,hv,hbl⟩
 have HV:=Lib.hid hv;clear hv;have HM':=Lib.hid (HM.out.on hbl);have KK':=Lib.hid (KK.out.same hbl);have zk:=KK'.out.lt;clear HM KK hbl;have HM:=HM';have KK:=KK';clear HM' KK';clear x0 x1 x2 x3 xl u0 u1 u2 u3 ul zk;have kr:=HM.out.row (b:=w.heap.size+1+1) (c0:=0) (c1:=0) (c2:=0) (c3:=0) (by simp);have y0:=kr.c0; have y1:=kr.c1; have y2:=kr.c2; have y3:=kr.c3; have yf:=kr.fr;clear kr;have yl:=HM.out.lt (b:=w.heap.size+1+1) (c0:=0) (c1:=0) (c2:=0) (c3:=0) (by simp);go_wp2_with fail;refine bodyPost_ret (v:=.tuple #[.agg #[.int .u64 s0,.int .u64 s1,.int .u64 s2,.int .u64 s3],.int .i64 0]) (by simp[results,results46,go_sem, *]) rfl ?_;refine⟨_,_,_,_,rfl,hs,HV.out,?_⟩;exact bQ HM.out.1 (by omega) _ _ _ _
set_option maxHeartbeats 2000000 in
theorem Bd (f:Int) (F:FC) (hf:FieldIs f F) (a0 a1 a2 a3 b0 b1 b2 b3:Nat) (ha:bY a0 a1 a2 a3) (hb:bY b0 b1 b2 b3) (la:aC a0 a1 a2 a3<F.M) (lb:aC b0 b1 b2 b3<F.M) (w:World) :
  Calls prog 58 #[.int .i64 f,.agg #[.int .u64 a0,.int .u64 a1,.int .u64 a2,.int .u64 a3],.agg #[.int .u64 b0,.int .u64 b1,.int .u64 b2,.int .u64 b3]] w (Vq 0 (aC a0 a1 a2 a3*aC b0 b1 b2 b3%F.M) w):=by
 go_enter func58,ntmps58
 go_wp2_with fail;refine (gI f F hf _).mono ?_
 rintro e w1 ⟨rfl,hbl⟩
 have M1:=((((Mem.nil w).new (w.heap.size) a0 a1 a2 a3 34 (by simp)).new (w.heap.size+1) b0 b1 b2 b3 34 (by simp)).new (w.heap.size+1+1) 0 0 0 0 34 (by simp)).on hbl;clear hbl;have z0:w.heap.size<w1.heap.size:=M1.lt (c0:=a0) (c1:=a1) (c2:=a2) (c3:=a3) (by simp);have z1:w.heap.size+1<w1.heap.size:=M1.lt (c0:=b0) (c1:=b1) (c2:=b2) (c3:=b3) (by simp);have z2:w.heap.size+1+1<w1.heap.size:=M1.lt (c0:=0) (c1:=0) (c2:=0) (c3:=0) (by simp);have HM:=Lib.hid (M1.on ((Below.refl _ _).alloc (Nat.le_refl _) (.cells #[.int .u64 F.m0,.int .u64 F.m1,.int .u64 F.m2,.int .u64 F.m3,.int .u64 F.inv,.int .u64 F.s0,.int .u64 F.s1,.int .u64 F.s2,.int .u64 F.s3] 75)));have KK:=Lib.hid (KIs.new w1 F 75);have kr:=M1.row (b:=w.heap.size) (c0:=a0) (c1:=a1) (c2:=a2) (c3:=a3) (by simp);have x0:=kr.c0; have x1:=kr.c1; have x2:=kr.c2; have x3:=kr.c3;clear kr;have xl:=M1.lt (b:=w.heap.size) (c0:=a0) (c1:=a1) (c2:=a2) (c3:=a3) (by simp);go_wp2_with fail;refine (fU F hf.ok w1.heap.size a0 a1 a2 a3 ha _ KK.out).mono ?_
 rintro e w2 ⟨he,hbl⟩
 rw[show JF (aC a0 a1 a2 a3) F.M=true from decide_eq_true la]at he;subst he;have HM':=Lib.hid (HM.out.on hbl);have KK':=Lib.hid (KK.out.same hbl);have zk:=KK'.out.lt;clear HM KK hbl M1;have HM:=HM';have KK:=KK';clear HM' KK';clear x0 x1 x2 x3 xl zk;have kr:=HM.out.row (b:=w.heap.size+1) (c0:=b0) (c1:=b1) (c2:=b2) (c3:=b3) (by simp);have x0:=kr.c0; have x1:=kr.c1; have x2:=kr.c2; have x3:=kr.c3;clear kr;have xl:=HM.out.lt (b:=w.heap.size+1) (c0:=b0) (c1:=b1) (c2:=b2) (c3:=b3) (by simp);go_wp2_with fail;refine (fU F hf.ok w1.heap.size b0 b1 b2 b3 hb _ KK.out).mono ?_
 rintro e w3 ⟨he,hbl⟩
 rw[show JF (aC b0 b1 b2 b3) F.M=true from decide_eq_true lb]at he;subst he;have HM':=Lib.hid (HM.out.on hbl);have KK':=Lib.hid (KK.out.same hbl);have zk:=KK'.out.lt;clear HM KK hbl;have HM:=HM';have KK:=KK';clear HM' KK';clear x0 x1 x2 x3 xl zk;have kr:=HM.out.row (b:=w.heap.size) (c0:=a0) (c1:=a1) (c2:=a2) (c3:=a3) (by simp);have x0:=kr.c0; have x1:=kr.c1; have x2:=kr.c2; have x3:=kr.c3;clear kr;have xl:=HM.out.lt (b:=w.heap.size) (c0:=a0) (c1:=a1) (c2:=a2) (c3:=a3) (by simp);have kr:=HM.out.row (b:=w.heap.size+1) (c0:=b0) (c1:=b1) (c2:=b2) (c3:=b3) (by simp);have u0:=kr.c0; have u1:=kr.c1; have u2:=kr.c2; have u3:=kr.c3;clear kr;have ul:=HM.out.lt (b:=w.heap.size+1) (c0:=b0) (c1:=b1) (c2:=b2) (c3:=b3) (by simp);go_wp2_with fail;refine (tQ F hf.ok w1.heap.size a0 a1 a2 a3 b0 b1 b2 b3 ha hb lb _ KK.out).mono ?_
 rintro e w4 ⟨s0,s1,s2,s3,rfl,hs,hv,hbl⟩
 have HV:=Lib.hid hv;clear hv;have HM':=Lib.hid (HM.out.on hbl);have KK':=Lib.hid (KK.out.same hbl);have zk:=KK'.out.lt;clear HM KK hbl;have HM:=HM';have KK:=KK';clear HM' KK';clear x0 x1 x2 x3 xl u0 u1 u2 u3 ul zk;have kr:=HM.out.row (b:=w.heap.size+1+1) (c0:=0) (c1:=0) (c2:=0) (c3:=0) (by simp);have y0:=kr.c0; have y1:=kr.c1; have y2:=kr.c2; have y3:=kr.c3; have yf:=kr.fr;clear kr;have yl:=HM.out.lt (b:=w.heap.size+1+1) (c0:=0) (c1:=0) (c2:=0) (c3:=0) (by simp);go_wp2_with fail;refine bodyPost_ret (v:=.tuple #[.agg #[.int .u64 s0,.int .u64 s1,.int .u64 s2,.int .u64 s3],.int .i64 0]) (by simp[results,results58,go_sem, *]) rfl ?_;refine⟨_,_,_,_,rfl,hs,HV.out,?_⟩;exact bQ HM.out.1 (by omega) _ _ _ _
set_option maxHeartbeats 2000000 in
theorem FU (f c:Int) (a0 a1 a2 a3:Nat) (ha:bY a0 a1 a2 a3) (h:Bad1 f (aC a0 a1 a2 a3) c) (w:World) :
  Calls prog 30 #[.int .i64 f,.agg #[.int .u64 a0,.int .u64 a1,.int .u64 a2,.int .u64 a3]] w fun e w'=>e=.returned (.int .i64 c)∧Below w.heap.size w w':=by
 rcases h with⟨h1,h2,rfl⟩|⟨F,hf,la,rfl⟩
 ·go_enter func30,ntmps30
  go_wp2_with fail;refine (MP f h1 h2 _).mono ?_
  rintro e w1 ⟨rfl,hbl⟩
  have M1:=((Mem.nil w).new (w.heap.size) a0 a1 a2 a3 34 (by simp)).on hbl;clear hbl;have z0:w.heap.size<w1.heap.size:=M1.lt (c0:=a0) (c1:=a1) (c2:=a2) (c3:=a3) (by simp);have HM:=Lib.hid (M1.on ((Below.refl _ _).alloc (Nat.le_refl _) (.cells #[.int .u64 0,.int .u64 0,.int .u64 0,.int .u64 0,.int .u64 0,.int .u64 0,.int .u64 0,.int .u64 0,.int .u64 0] 75)));go_wp2_with fail;refine (zJ _).mono ?_
  rintro e w2 ⟨rfl,rfl⟩
  go_wp2_with fail;refine bodyPost_ret (v:=.int .i64 1) (by simp[results,results30,go_sem, *]) rfl ?_;exact⟨rfl,HM.out.1⟩
 ·go_enter func30,ntmps30
  go_wp2_with fail;refine (gI f F hf _).mono ?_
  rintro e w1 ⟨rfl,hbl⟩
  have M1:=((Mem.nil w).new (w.heap.size) a0 a1 a2 a3 34 (by simp)).on hbl;clear hbl;have z0:w.heap.size<w1.heap.size:=M1.lt (c0:=a0) (c1:=a1) (c2:=a2) (c3:=a3) (by simp);have HM:=Lib.hid (M1.on ((Below.refl _ _).alloc (Nat.le_refl _) (.cells #[.int .u64 F.m0,.int .u64 F.m1,.int .u64 F.m2,.int .u64 F.m3,.int .u64 F.inv,.int .u64 F.s0,.int .u64 F.s1,.int .u64 F.s2,.int .u64 F.s3] 75)));have KK:=Lib.hid (KIs.new w1 F 75);have kr:=M1.row (b:=w.heap.size) (c0:=a0) (c1:=a1) (c2:=a2) (c3:=a3) (by simp);have x0:=kr.c0; have x1:=kr.c1; have x2:=kr.c2; have x3:=kr.c3;clear kr;have xl:=M1.lt (b:=w.heap.size) (c0:=a0) (c1:=a1) (c2:=a2) (c3:=a3) (by simp);go_wp2_with fail;refine (fU F hf.ok w1.heap.size a0 a1 a2 a3 ha _ KK.out).mono ?_
  rintro e w2 ⟨he,hbl⟩
  rw[show JF (aC a0 a1 a2 a3) F.M=false from decide_eq_false la]at he;subst he;have HM':=Lib.hid (HM.out.on hbl);have KK':=Lib.hid (KK.out.same hbl);have zk:=KK'.out.lt;clear HM KK hbl M1;have HM:=HM';have KK:=KK';clear HM' KK';clear x0 x1 x2 x3 xl zk;go_wp2_with fail;refine (zI _).mono ?_
  rintro e w3 ⟨rfl,rfl⟩
  go_wp2_with fail;refine bodyPost_ret (v:=.int .i64 21) (by simp[results,results30,go_sem, *]) rfl ?_;exact⟨rfl,HM.out.1⟩
set_option maxHeartbeats 2000000 in
theorem MJ (f:Int) (F:FC) (hf:FieldIs f F) (a0 a1 a2 a3:Nat) (ha:bY a0 a1 a2 a3) (la:aC a0 a1 a2 a3<F.M) (w:World) :
  Calls prog 30 #[.int .i64 f,.agg #[.int .u64 a0,.int .u64 a1,.int .u64 a2,.int .u64 a3]] w (fun e w'=>e=.returned (.int .i64 0)∧Below w.heap.size w w'):=by
 go_enter func30,ntmps30
 go_wp2_with fail;refine (gI f F hf _).mono ?_
 rintro e w1 ⟨rfl,hbl⟩
 have M1:=((Mem.nil w).new (w.heap.size) a0 a1 a2 a3 34 (by simp)).on hbl;clear hbl;have z0:w.heap.size<w1.heap.size:=M1.lt (c0:=a0) (c1:=a1) (c2:=a2) (c3:=a3) (by simp);have HM:=Lib.hid (M1.on ((Below.refl _ _).alloc (Nat.le_refl _) (.cells #[.int .u64 F.m0,.int .u64 F.m1,.int .u64 F.m2,.int .u64 F.m3,.int .u64 F.inv,.int .u64 F.s0,.int .u64 F.s1,.int .u64 F.s2,.int .u64 F.s3] 75)));have KK:=Lib.hid (KIs.new w1 F 75);have kr:=M1.row (b:=w.heap.size) (c0:=a0) (c1:=a1) (c2:=a2) (c3:=a3) (by simp);have x0:=kr.c0; have x1:=kr.c1; have x2:=kr.c2; have x3:=kr.c3;clear kr;have xl:=M1.lt (b:=w.heap.size) (c0:=a0) (c1:=a1) (c2:=a2) (c3:=a3) (by simp);go_wp2_with fail;refine (fU F hf.ok w1.heap.size a0 a1 a2 a3 ha _ KK.out).mono ?_
 rintro e w2 ⟨he,hbl⟩
 rw[show JF (aC a0 a1 a2 a3) F.M=true from decide_eq_true la]at he;subst he;have HM':=Lib.hid (HM.out.on hbl);have KK':=Lib.hid (KK.out.same hbl);have zk:=KK'.out.lt;clear HM KK hbl M1;have HM:=HM';have KK:=KK';clear HM' KK';clear x0 x1 x2 x3 xl zk;go_wp2_with fail;go_ret;exact⟨rfl,HM.out.1⟩
end Go.Proofs.YtpbljiejmfahcaaDoor
namespace Go.Proofs.YtpbljiejmfahcaaDoor.Ex
open Go.Proofs.Tryd
open Go.RowKit
abbrev RM:Nat:=Go.Proofs.YtpbljiejmfahcaaDoor.FR.M
abbrev cU:Nat:=115792089237316195423570985008687907853269984665640564039457584007913129639936
theorem dP {x:Nat} (h:x<RM):x<cU:=Nat.lt_trans h (by decide)
theorem fQ:0<RM:=by decide
def Io:kE
 | [.v (.im (.int .u64 (.ofNat n)))]=>some ([n<18446744073709551616],.one (.fl [.q n]))
 | _=>none
theorem Wp:∀cs pre r,Io cs=some (pre,r)→aW pre→∀(args:List Value) (w:World),dV w cs args→bU prog 38 r args w:=by
 intro cs pre r hg hp args w ha;unfold Io at hg;split at hg
 ·rename_i n;cases hg
  match args,ha with
  | [t],ha =>
   have h1:t=.int .u64 (Int.ofNat n):=ha.1;subst h1;refine (AM n hp.1 w).mono ?_
   rintro e w' ⟨rfl,hb⟩
   refine⟨?_,hb⟩;obtain⟨e0,e1,e2,e3⟩:=nX (s0:=n) (s1:=0) (s2:=0) (s3:=0) (x:=n) ⟨hp.1,by omega,by omega,by omega⟩ (by have:=hp.1; omega) (by unfold aC; omega);show Ending.returned _=Ending.returned (.agg #[.int .u64 (fw n 0:Nat),.int .u64 (fw n 1:Nat),.int .u64 (fw n 2:Nat),.int .u64 (fw n 3:Nat)]);rw[←e0,←e1,←e2,←e3];rfl
  | [],ha=>exact ha.elim
  | _::_::_,ha=>exact ha.2.elim
 ·cases hg
def el (f:Nat→Nat) (j:Nat):List At:=[.q (f j)]
def LV (w:World) (v:Value) (N:Nat) (f:Nat→Nat):Prop:=∃p m,v=.slice p N m∧N≤m∧(∀j,j<N→f j<cU)∧(0<N→∃b o,p=some ⟨b,o,none⟩∧b<w.heap.size∧w.rangeAt b o (aB (aG (el f) 0 N)))
theorem LV.on {w w':World} {v:Value} {N:Nat} {f:Nat→Nat} (h:LV w v N f) (hb:Below w.heap.size w w'):LV w' v N f:=by
 obtain⟨p,m,h1,h2,h3,h4⟩:=h;exact⟨p,m,h1,h2,h3,fun h=>by
  obtain⟨b,o,e,h5,h6⟩:=h4 h;exact⟨b,o,e,Nat.lt_of_lt_of_le h5 hb.size,dE hb h5 h6⟩⟩
theorem LV.ofS {w:World} {l:List At} {n m N:Nat} {f:Nat→Nat} {v:Value} (h:CA.ok w (.s l n m) v) (h1:aB l=aB (aG (el f) 0 N)) (h2:n=N) (h3:N≤m) (h4:∀j,j<N→f j<cU):LV w v N f:=by
 obtain⟨b,o,rfl,hb,hr⟩:=h;rw[h1]at hr;exact⟨_,m,by rw[h2],h3,h4,fun _=>⟨b,o,rfl,hb,hr⟩⟩
theorem LV.nil (w:World) (f:Nat→Nat):LV w (.slice none 0 0) 0 f:=⟨none,0,rfl,Nat.le_refl _,fun j h=>by omega,fun h=>by omega⟩
theorem fT {w:World} {b o N i:Nat} {f:Nat→Nat} (hb:b<w.heap.size) (hr:w.rangeAt b o (aB (aG (el f) 0 N))) (hi:i<N):oldOf w b (o+i*4) [.q (f i)] :=
 ⟨hb,LH (f:=el f) (c:=4) (fun _=>rfl) hi hr⟩
def xO (w:World) (idx:Nat→Option Nat) (ld:Nat→Option (List At)) (gen:Nat→Option Value):Ext:={ Ext.none with idx:=idx,ld:=ld,gen:=gen,old:=oldOf w,T2:=KS,T3:=pO,T4:=KJ,T5:=iA,T6:=KQ }
theorem bX (w:World) (idx:Nat→Option Nat) (ld:Nat→Option (List At)) (gen:Nat→Option Value):bD prog { qG prog with x:=xO w idx ld gen } w.heap.size w :=
 ⟨(bM _).1,eF (fun b o l h=>h) (fun w' _=>FrAt.none _ _) (fun w' _=>FsAt.none _ _)⟩
def jW (x y:Nat):Nat:=(x+y)%RM
def jV (x y:Nat):Nat:=x*y%RM
def LF (x:Nat):Nat:=1*(x^(RM-2))%RM
theorem oO (x y:Nat):jW x y<RM:=Nat.mod_lt _ fQ
theorem qZ (x y:Nat):jV x y<RM:=Nat.mod_lt _ fQ
theorem Fx (x:Nat):LF x<RM:=Nat.mod_lt _ fQ
theorem tW:FieldIs 2 Go.Proofs.YtpbljiejmfahcaaDoor.FR:=Or.inr ⟨rfl,rfl⟩
theorem VW {x:Nat} (h:x<RM):aC (fw x 0) (fw x 1) (fw x 2) (fw x 3)=x:=jL (dP h)
def Ll (op:Nat→Nat→Nat):kE
 | [.v (.im (.int .i64 2)),.v (.fl l),.v (.fl m)]=>match Dc l,Dc m with
  | some x,some y=>some ([x<RM,y<RM],.many [.fl [.q (op x y)],.im (.int .i64 0)])
  | _,_=>none
 | _=>none
theorem SV {fid:FuncId} {op:Nat→Nat→Nat} (hlt:∀x y,op x y<RM) (h:∀x y,x<RM→y<RM→∀w,Calls prog fid #[.int .i64 2,.agg (aB [At.q x]).toArray,.agg (aB [At.q y]).toArray] w (Vq 0 (op x y) w)) :
  ∀cs pre r,Ll op cs=some (pre,r)→aW pre→∀(args:List Value) (w:World),dV w cs args→bU prog fid r args w:=by
 intro cs pre r hg hp args w ha;unfold Ll at hg;split at hg
 ·rename_i l m;split at hg
  ·rename_i x y hx hy;cases hg
   match args,ha with
   | [t,v,u],ha =>
    obtain⟨h1,h2,h3,_⟩:=ha;have h1:t=.int .i64 2:=h1;have h2:v=.agg (aB l).toArray:=h2;have h3:u=.agg (aB m).toArray:=h3;rw[oJ l x hx]at h2;rw[oJ m y hy]at h3;subst h1; subst h2; subst h3;refine (h x y hp.1 hp.2.1 w).mono ?_
    rintro e w' ⟨s0,s1,s2,s3,rfl,hs,hv,hb⟩
    obtain⟨rfl,rfl,rfl,rfl⟩:=nX hs (dP (hlt x y)) hv;exact⟨rfl,hb⟩
   | [],ha=>exact ha.elim
   | [_],ha=>exact ha.2.elim
   | [_,_],ha=>exact ha.2.2.elim
   | _::_::_::_::_,ha=>exact ha.2.2.2.elim
  ·cases hg
 ·cases hg
theorem Ni:∀cs pre r,Ll jW cs=some (pre,r)→aW pre→∀(args:List Value) (w:World),dV w cs args→bU prog 46 r args w :=
 SV oO fun x y hx hy w=>by
  have:=Bh 2 _ tW _ _ _ _ _ _ _ _ (kZ x) (kZ y) (by rw[VW hx]; exact hx) (by rw[VW hy]; exact hy) w;rw[VW hx,VW hy]at this;exact this
theorem Nh:∀cs pre r,Ll jV cs=some (pre,r)→aW pre→∀(args:List Value) (w:World),dV w cs args→bU prog 58 r args w :=
 SV qZ fun x y hx hy w=>by
  have:=Bd 2 _ tW _ _ _ _ _ _ _ _ (kZ x) (kZ y) (by rw[VW hx]; exact hx) (by rw[VW hy]; exact hy) w;rw[VW hx,VW hy]at this;exact this
def Dt (x:Nat):Int:=if x<RM then 0 else 21
def It:kE
 | [.v (.im (.int .i64 2)),.v (.fl l)]=>match Dc l with
  | some x=>some ([x<cU],.one (.im (.int .i64 (Dt x))))
  | none=>none
 | _=>none
theorem YI:∀cs pre r,It cs=some (pre,r)→aW pre→∀(args:List Value) (w:World),dV w cs args→bU prog 30 r args w:=by
 intro cs pre r hg hp args w ha;unfold It at hg;split at hg
 ·rename_i l;split at hg
  ·rename_i x hx;cases hg
   match args,ha with
   | [t,v],ha =>
    obtain⟨h1,h2,_⟩:=ha;have h1:t=.int .i64 2:=h1;have h2:v=.agg (aB l).toArray:=h2;rw[oJ l x hx]at h2;subst h1; subst h2;unfold Dt
    by_cases h:x<RM
    ·rw[if_pos h];exact MJ 2 _ tW _ _ _ _ (kZ x) (by rw[jL hp.1]; exact h) w
    ·rw[if_neg h];exact FU 2 21 _ _ _ _ (kZ x) (Or.inr ⟨_,tW,by rw[jL hp.1]; exact h,rfl⟩) w
   | [],ha=>exact ha.elim
   | [_],ha=>exact ha.2.elim
   | _::_::_::_,ha=>exact ha.2.2.elim
  ·cases hg
 ·cases hg
def Yw (op:Nat→Nat) (c:Nat→List Prop):kE
 | [.v (.fl l)]=>match Dc l with|some x=>some (c x,.one (.fl [.q (op x)]))|none=>none
 | _=>none
def Vf (op:Nat→Nat→Nat) (c:Nat→Nat→List Prop):kE
 | [.v (.fl l),.v (.fl m)]=>match Dc l,Dc m with|some x,some y=>some (c x y,.one (.fl [.q (op x y)]))|_,_=>none
 | _=>none
def c2R (x y:Nat):List Prop:=[x<RM,y<RM]
theorem SY {f:FuncId} {op:Nat→Nat→Nat} {c:Nat→Nat→List Prop} (h:∀x y,aW (c x y)→∀args w,dV w [.v (.fl [.q x]),.v (.fl [.q y])] args→bU prog f (.one (.fl [.q (op x y)])) args w) :
  ∀cs pre r,Vf op c cs=some (pre,r)→aW pre→∀(args:List Value) (w:World),dV w cs args→bU prog f r args w:=by
 intro cs pre r hg hp args w ha;unfold Vf at hg;split at hg
 ·rename_i l m;split at hg
  ·rename_i x y hx hy;cases hg;refine h x y hp args w ?_
   match args,ha with
   | [v,u],ha =>
    refine⟨?_,?_,trivial⟩
    ·show v=.agg (aB (q1 x)).toArray;rw[←oJ l x hx]; exact ha.1
    ·show u=.agg (aB (q1 y)).toArray;rw[←oJ m y hy]; exact ha.2.1
   | [],ha=>exact ha.elim
   | [_],ha=>exact ha.2.elim
   | _::_::_::_,ha=>exact ha.2.2.elim
  ·cases hg
 ·cases hg
theorem Iq {f:FuncId} {op:Nat→Nat} {c:Nat→List Prop} (h:∀x,aW (c x)→∀args w,dV w [.v (.fl [.q x])] args→bU prog f (.one (.fl [.q (op x)])) args w) :
  ∀cs pre r,Yw op c cs=some (pre,r)→aW pre→∀(args:List Value) (w:World),dV w cs args→bU prog f r args w:=by
 intro cs pre r hg hp args w ha;unfold Yw at hg;split at hg
 ·rename_i l;split at hg
  ·rename_i x hx;cases hg;refine h x hp args w ?_
   match args,ha with
   | [v],ha =>
    refine⟨?_,trivial⟩;show v=.agg (aB (q1 x)).toArray;rw[←oJ l x hx]; exact ha.1
   | [],ha=>exact ha.elim
   | _::_::_,ha=>exact ha.2.elim
  ·cases hg
 ·cases hg
def GJ (v:Value) (N i:Nat):List Fact:=[.slot 5 (.im v),.slot 6 (.im (iI N)),.slot 7 (.im (iI i))]
theorem Jt {x:Nat} (h:x<RM):aF .neq .i64 (Dt x) 0=some (.bool false):=by unfold Dt; rw[if_pos h]; rfl
theorem Ca {x:Nat} (h:¬x<RM):aF .neq .i64 (Dt x) 0=some (.bool true):=by unfold Dt; rw[if_neg h]; rfl
theorem MI {p:Nat→Prop} [DecidablePred p]:∀{N:Nat},(¬ ∀j,j<N→p j)→∃j,j<N∧(∀k,k<j→p k)∧¬p j:=by
 intro N
 induction N with
 | zero=>exact fun h=>(h fun j hj=>by omega).elim
 | succ N ih =>
  intro h
  by_cases h0:∀j,j<N→p j
  ·refine⟨N,by omega,h0,fun hp=>h fun j hj => ?_⟩
   by_cases e:j=N
   ·rw[e]; exact hp
   ·exact h0 j (by omega)
  ·obtain⟨j,h1,h2⟩:=ih h0;exact⟨j,by omega,h2⟩
def gY (N:Nat) (f:Nat→Nat):Prop:=∀j,j<N→f j<RM
instance (N:Nat) (f:Nat→Nat):Decidable (gY N f):=Nat.decidableBallLT N fun j _=>f j<RM
def hU (f g:Nat→Nat):Nat→Nat
 | 0=>0
 | n+1=>jW (hU f g n) (jV (f n) (g n))
theorem TS (f g:Nat→Nat):∀n,hU f g n<RM
 | 0=>fQ
 | n+1=>oO _ _
def BG (x:Nat):Nat:=jV (jV (jV x x) (jV x x)) x
def inv (x:Nat):Nat:=x^(RM-2)%RM
theorem kX (x:Nat):inv x<RM:=Nat.mod_lt _ fQ
def rz (wd fl pt r:Nat):Nat:=if r<fl/2 then wd else if fl/2+pt≤r then wd else 1
def lW (g f:Nat→Nat) (j q:Nat):Nat:=if q<j then g q else f q
theorem RS (g f:Nat→Nat):lW g f 0=f:=funext fun q=>by unfold lW; rw[if_neg (by omega)]
def eK (xs:Nat→Nat) (wd r:Nat) (f:Nat→Nat) (q:Nat):Nat:=jW (f q) (xs (r*wd+q))
def mO (k:Nat) (f:Nat→Nat):Nat→Nat:=lW (fun q=>BG (f q)) f k
def jH (wd:Nat) (f:Nat→Nat) (j:Nat):Nat:=hU (fun q=>inv (wd+(j+q))) f wd
def Ur (xs:Nat→Nat) (wd fl pt r:Nat) (f:Nat→Nat):Nat→Nat:=jH wd (mO (rz wd fl pt r) (eK xs wd r f))
def bO (xs:Nat→Nat) (wd fl pt:Nat):Nat→(Nat→Nat)→Nat→Nat
 | 0,f=>f
 | r+1,f=>Ur xs wd fl pt r (bO xs wd fl pt r f)
theorem Iz (x:Nat):BG x<RM:=qZ _ _
theorem pZ (xs:Nat→Nat) (wd r:Nat) (f:Nat→Nat) (q:Nat):eK xs wd r f q<RM:=oO _ _
theorem IH {k:Nat} {f:Nat→Nat} (h:∀q,f q<RM) (q:Nat):mO k f q<RM:=by
 unfold mO lW
 by_cases e:q<k
 ·rw[if_pos e]; exact Iz _
 ·rw[if_neg e]; exact h q
theorem IG (wd:Nat) (f:Nat→Nat) (j:Nat):jH wd f j<RM:=TS _ _ _
theorem lT {xs:Nat→Nat} {wd fl pt:Nat} {f:Nat→Nat} (h:∀q,q<wd→f q<RM):∀r q,q<wd→bO xs wd fl pt r f q<RM
 | 0,q,hq=>h q hq
 | r+1,q,hq=>IG _ _ _
def IU (ops:Array Oper):Bool:=ops.toList.all fun o=>match o.op with | .defer _=>false|_=>true
theorem RD {ops:Array Oper} (h:IU ops=true) {i:Nat} {o:Oper} (ho:ops[i]?=some o):∀c,o.op ≠ .defer c:=by
 intro c hc;have hm:o∈ops.toList:=by
  have:ops.toList[i]?=some o:=by rw[Array.getElem?_toList]; exact ho
  exact List.mem_of_getElem? this
 have:=List.all_eq_true.1 h o hm;rw[hc]at this;cases this
abbrev rF (r:Option Nat):Fence:={ Fence.wide with round:=r }
theorem uC (r:Option Nat) (ρ:Operand→Value) (o:Oper) (h:∀c,o.op ≠ .defer c):Oper.semAt r ρ o=execOp ρ o:=by
 cases r with
 | none=>rfl
 | some l=>exact Oper.semAt_some l ρ o h
section
variable {r:Option Nat} {n:Nat} {P:Program}
theorem QR {o:Oper} {a:Act} {w:World} {K K':Act→World→Prop} {Q Q':Exit→Act→World→Prop} (hd:∀c,o.op ≠ .defer c)
  (hK:∀a w,K a w→K' a w) (hl:¬LetsOut Q) (hQ:∀e a w,e ≠ .normal→Q e a w→Q' e a w) (h:o.wp P a w K Q):o.wpIn (rF r) n P a w K' Q':=by
 refine⟨fun _ _=>trivial,?_⟩;show o.uponIn (rF r) n P a K' Q' ((o.semAt r a.eval).run P w);rw[uC r _ o hd];unfold Oper.wp at h;generalize (execOp a.eval o).run P w=res at h;cases res with
 | ok nx w' =>
  cases nx with
  | value v=>exact hK _ _ h
  | skip=>exact hK _ _ h
  | defer d=>exact hK _ _ h
  | enter f args =>
   refine⟨fun e=>absurd e (by simp[Fence.wide]),?_⟩;show CallsIn Fence.wide (n-1) P f args w' _;refine callsIn_wide.2 (Calls.mono h fun e w'' he => ?_);cases e with
   | returned v=>exact hK _ _ he
   | panicked c=>exact hQ _ _ _ (by simp) he
   | outgrown=>exact (hl he).elim
  | row row args =>
   refine⟨fun e=>absurd e (by simp[Fence.wide]),fun c cs _ => ?_⟩;obtain⟨v,w'',r1,s⟩:=h c cs;exact⟨v,w'',hK _ _ r1,stepsIn_wide.2 s⟩
  | _=>exact h.elim
 | halt x w' =>
  cases x with
  | panic v=>exact hQ _ _ _ (by simp) h
  | _=>exact h.elim
theorem AI {ops:Array Oper} {Q Q':Exit→Act→World→Prop} {R:List Nat} (hnd:IU ops=true) (hl:¬LetsOut Q) (hn:∀a w,Q .normal a w→wpOpsIn (rF r) n P ops Q' R a w) (hQ:∀e a w,e ≠ .normal→Q e a w→Q' e a w) :
  ∀(l:List Nat) (a:Act) (w:World),wpOps P ops Q l a w→wpOpsIn (rF r) n P ops Q' (l++R) a w
 | [],a,w,h=>hn a w h
 | i::l,a,w,h=>by
  simp only[wpOps]at h;show wpOpsIn (rF r) n P ops Q' (i::(l++R)) a w;simp only[wpOpsIn];cases ho:ops[i]? with
  | none =>
   rw[ho]at h;exact AI hnd hl hn hQ l a w h
  | some o =>
   rw[ho]at h;simp only at h ⊢
   by_cases hw:Region.wanted o (yielded ops a.tmps)=true
   ·rw[if_pos hw]at h ⊢
    rcases h with h|⟨_,h⟩
    ·exact QR (RD hnd ho) (fun a w=>AI hnd hl hn hQ l a w) hl hQ h
    ·exact (hl h).elim
   ·rw[if_neg hw]at h ⊢;exact⟨fun _ _=>trivial,AI hnd hl hn hQ l _ w h⟩
def iV (K:Act→World→Prop):Exit→Act→World→Prop:=fun e a w=>e=.normal∧K a w
theorem oR {K:Act→World→Prop}:¬LetsOut (iV K):=by
 rintro⟨a,w,h,_⟩
 cases h
variable {nt base:Nat} {w0:World}
theorem II {E:Env} {draw:Bool} {ops:Array Oper} {A A':List Fact} {ps:List Prop} {a:Act} {w:World} {Q:Exit→Act→World→Prop} (hm:E.P.follows .mixedOrders=true) (hT:∀d,TabOkW E.P (E.T d) base w0) (hq:bD E.P E.q base w0) (h:tO E draw ops A=some (ps,A')) (hps:aW ps) (hA:Holds E.nt base w0 A a w)
  (hQ:∀a w,Holds E.nt base w0 A' a w→Q .normal a w):(draw=false→wpOps E.P ops Q (List.range ops.size) a w)∧(draw=true→∀t,wpOps E.P ops Q (Region.schedule (E.P.follows .mixedOrders) ops t) a { w with drawn:=w.drawn+1 }):=by
 unfold tO at h;split at h
 ·rename_i ps' TF rs hrun;cases hc:(VX draw ops rs&&VU draw ops)<;>rw[hc]at h
  ·cases h
  ·cases h;rw[Bool.and_eq_true]at hc;cases draw with
   | false =>
    refine⟨fun _ => ?_,fun e=>by cases e⟩;rw[List.range_eq_range'];exact wC hT hq hrun hps hc.1 (fun a w hI=>hQ a w (mA hrun (fun _ h=>h) hI)) ops.size 0 a w (by omega) (by
     have:(fun i=>i<0)=fun _:Nat=>False:=funext fun i=>propext ⟨fun h=>by omega,fun h=>h.elim⟩
     rw[this];exact gF hrun hA)
   | true =>
    refine⟨fun e=>absurd e (by simp[Fence.wide]),fun _ t => ?_⟩;simp only[Region.schedule,hm,Bool.true_or,if_true];refine wpAny_sound ops.size t _ a _ ?_;have hsz:∀n,fr n (Array.replicate ops.size false)=n:=fun n=>by
     induction n with
     | zero=>rfl
     | succ n ih=>unfold fr; rw[ih]; by_cases hn:n<ops.size<;>simp[Array.getD,hn]
    refine KE hT hq hrun hps hc.1 hc.2 (fun a w hI=>hQ a w (mA hrun (fun _ h=>h) hI)) ops.size _ a _ (by simp) (hsz _) ?_;have:(fun i=>(Array.replicate ops.size false).getD i false=true)=fun _:Nat=>False:=funext fun i=>propext (by by_cases hi:i<ops.size<;>simp[Array.getD,hi])
    rw[this];exact gF hrun hA.drew
 ·cases h
theorem PS {id:Nat} {q:EqT} {c:Cfg} {draw:Bool} {ops:Array Oper} {A K L:List Fact} {ps:List Prop} {Q:Exit→Act→World→Prop} (hm:P.follows .mixedOrders=true) (hT:∀d,TabOkW P (c.T d) base w0) (hq:bD P q base w0)
  (h:aJ P q nt (fun _=>c) 1 (.region id ops draw) A K=some (ps,.nrm,L)) (hps:aW ps) (hnd:IU ops=true) {a:Act} {w:World} (hA:Holds nt base w0 A a w)
  (hQ:∀a w,Holds nt base w0 L a w→Q .normal a w):(Code.region id ops draw).wpIn (rF r) n P Q a w:=by
 unfold aJ at h;simp only[run]at h;split at h
 ·rename_i ps' e' A1 h1;split at h1
  ·rename_i p A2 h2;cases h1;split at h
   ·rename_i L' h3;cases h;have key:=II (E:=Dl P q nt c) (Q:=iV fun a w=>Holds nt base w0 L a w) hm hT hq h2 hps hA fun a w hA1=>⟨rfl,hA1.sub (fL h3)⟩
    have fin:∀l a w,wpOps P ops (iV fun a w=>Holds nt base w0 L a w) l a w→wpOpsIn (rF r) n P ops Q l a w:=fun l a w hw=>by
     have:=AI (r:=r) (n:=n) (Q':=Q) (R:=[]) hnd oR (fun a w hK=>hQ a w hK.2) (fun e a w he hK=>(he hK.1).elim) l a w hw
     rwa [List.append_nil]at this
    cases draw with
    | false=>exact wpIn_region (fin _ _ _ (key.1 rfl))
    | true=>exact wpIn_region_draw fun t=>fin _ _ _ (key.2 rfl t)
   ·cases h
  ·cases h1
 ·cases h
theorem wS {s e:Nat} {q:EqT} {c:Cfg} {big:Array Oper} {A K L:List Fact} {ps:List Prop} {Q:Exit→Act→World→Prop} {R:List Nat} (hT:∀d,TabOkW P (c.T d) base w0) (hq:bD P q base w0) (h:cS P q nt c (big.extract s e) A K=some (ps,L)) (hps:aW ps)
  (hg:(big.extract s e).toList.all (fun o=>o.guard.isNone)=true) (hnd:IU big=true) {a:Act} {w:World} (hA:Holds nt base w0 A a w)
  (hQ:∀a w,Holds nt base w0 L a w→wpOpsIn (rF r) n P big Q R a w):wpOpsIn (rF r) n P big Q (List.range' s (big.extract s e).size++R) a w:=by
 have h1:=aK (Q:=iV fun a w=>Holds nt base w0 L a w) (R:=[]) hT hq h hps hg hA fun a w hA=>⟨rfl,hA⟩
 rw[List.append_nil]at h1;exact AI hnd oR (fun a w hK=>hQ a w hK.2) (fun e a w he hK=>(he hK.1).elim) _ _ _ h1
theorem QV {big:Array Oper} {Q:Exit→Act→World→Prop} {R:List Nat} {i:Nat} {o:Oper} (ho:big[i]?=some o) (hg:o.guard=none) {a:Act} {w:World} (h:o.wpIn (rF r) n P a w (fun a w=>wpOpsIn (rF r) n P big Q R a w) Q):wpOpsIn (rF r) n P big Q (i::R) a w:=by
 simp only[wpOpsIn];rw[ho];simp only;have hw:∀y,Region.wanted o y=true:=fun y=>by unfold Region.wanted; rw[hg]
 rw[if_pos (hw _)];exact h
def _root_.Go.Act.md (a:Act) (d:List Deferred):Act:={ a with defers:=d }
def vT (o:Oper):Bool:=match o.op with
 | .move _=>true
 | .assign _=>true
 | .load _ _=>true
 | .extract _ _=>true
 | _=>false
theorem WK {s:Sem Value} {w w':World} {nx:Next} (h:(do pure (.value (←s)):Sem Next).run P w=.ok nx w'):∃v,nx=.value v:=by
 rw[Sem.run_bind]at h;cases hs:s.run P w with
 | ok v w1 =>
  rw[hs]at h;simp only[Result.andThen_ok,Sem.run_pure]at h;injection h with h1 h2;exact⟨v,h1.symm⟩
 | halt x w1 =>
  rw[hs]at h;cases h
theorem OJ {ρ:Operand→Value} {o:Oper} {w w':World} {nx:Next} (ht:vT o=true) (h:(execOp ρ o).run P w=.ok nx w'):∃v,nx=.value v:=by
 unfold execOp at h;cases ho:o.op<;>simp only[vT,ho]at ht<;>first
  | (cases ht; done)
  | (simp only[ho]at h; exact WK h)
  | (simp only[ho,Sem.run_pure]at h; injection h with h1 h2; exact⟨_,h1.symm⟩)
def ES (ops:Array Oper):Bool:=ops.toList.all vT
theorem LQ {ops:Array Oper} (h:ES ops=true) {i:Nat} {o:Oper} (ho:ops[i]?=some o):vT o=true:=by
 have hm:o∈ops.toList:=by
  have:ops.toList[i]?=some o:=by rw[Array.getElem?_toList]; exact ho
  exact List.mem_of_getElem? this
 exact List.all_eq_true.1 h o hm
theorem wU {d:List Deferred} {ops:Array Oper} {K:Act→World→Prop} {Q:Exit→Act→World→Prop} (ht:ES ops=true) (hn:∀a w,K a w→Q .normal (a.md d) w) :
  ∀(l:List Nat) (a:Act) (w:World),wpOps P ops (iV K) l a w→wpOps P ops Q l (a.md d) w
 | [],a,w,h=>hn a w h.2
 | i::l,a,w,h=>by
  simp only[wpOps]at h ⊢;have hp:∀(o:Oper) v,(a.md d).put o.dst v=(a.put o.dst v).md d:=fun o v=>by cases o.dst<;>rfl
  cases ho:ops[i]? with
  | none =>
   rw[ho]at h;exact wU ht hn l a w h
  | some o =>
   rw[ho]at h;simp only at h ⊢;have hy:(a.md d).tmps=a.tmps:=rfl;rw[hy]
   by_cases hw:Region.wanted o (yielded ops a.tmps)=true
   ·rw[if_pos hw]at h ⊢
    rcases h with h|⟨_,h⟩
    ·refine Or.inl ?_;unfold Oper.wp at h ⊢;have he:(a.md d).eval=a.eval:=rfl;rw[he];cases hres:(execOp a.eval o).run P w with
     | ok nx w' =>
      obtain⟨v,rfl⟩:=OJ (LQ ht ho) hres;rw[hres]at h;show wpOps P ops Q l ((a.md d).put o.dst v) w';rw[hp];exact wU ht hn l _ _ h
     | halt x w' =>
      rw[hres]at h;cases x with
      | panic v=>cases h.1
      | _=>exact h.elim
    ·exact (oR h).elim
   ·rw[if_neg hw]at h ⊢;rw[hp];exact wU ht hn l _ _ h
theorem Gb {id:Nat} {d:List Deferred} {q:EqT} {c:Cfg} {ops:Array Oper} {A K L:List Fact} {ps:List Prop} {Q:Exit→Act→World→Prop} (hm:P.follows .mixedOrders=true) (hT:∀d,TabOkW P (c.T d) base w0) (hq:bD P q base w0)
  (h:aJ P q nt (fun _=>c) 1 (.region id ops false) A K=some (ps,.nrm,L)) (hps:aW ps) (ht:ES ops=true) {a:Act} {w:World} (hA:Holds nt base w0 A a w)
  (hQ:∀a w,Holds nt base w0 L a w→Q .normal (a.md d) w):(Code.region id ops false).wp P Q (a.md d) w:=by
 unfold aJ at h;simp only[run]at h;split at h
 ·rename_i ps' e' A1 h1;split at h1
  ·rename_i p A2 h2;cases h1;split at h
   ·rename_i L' h3;cases h;have key:=II (E:=Dl P q nt c) (Q:=iV fun a w=>Holds nt base w0 L a w) hm hT hq h2 hps hA fun a w hA1=>⟨rfl,hA1.sub (fL h3)⟩
    exact wp_region (wU ht hQ _ _ _ (key.1 rfl))
   ·cases h
  ·cases h1
 ·cases h
theorem KT {g:Operand} {ps:Array Tmp} {assign body:Code} {Q:Exit→Act→World→Prop} {a:Act} {w:World} {gf:Nat} {lb:Array Value} (hg:a.eval g=.func (.func gf) #[] lb) (eg:∀args w,(callFunc gf args).run P w=.ok (.enter gf args) w)
  (h:∀fn,Calls P gf (#[.func (.yield (w.heap.size+1)) #[] #[]]++lb) ((w.alloc (.deferred (some []))).alloc (.loop { state:=.ready,pending:=none,fn,tmps:=a.tmps,params:=ps,assign,body,defers:=w.heap.size })) fun e W'=>∃v rec,e=.returned v∧W'.heap[w.heap.size+1]?=some (.loop rec)∧rec.state ≠ .busy∧rec.pending=none∧Q .normal (a.md ({ target:=.collected w.heap.size,args:=#[] }::a.defers)) (W'.putObj (w.heap.size+1) (.loop { rec with state:=.exhausted }))) :
  (Code.rangeFunc g ps assign body).wp P Q a w:=by
 refine (wpIn_wide (n:=0)).1 (wpIn_rangeFunc fun fn _ => ?_);have h0:=h fn;have he:=run_enterLoop_outer (P:=P) (w:=w) fn a.tmps ps assign body;generalize hW1:(w.alloc (.deferred (some []))).alloc (.loop { state:=.ready,pending:=none,fn,tmps:=a.tmps,params:=ps,assign,body,defers:=w.heap.size })=W1 at h0 he;refine⟨w.heap.size+1,[{ target:=.collected w.heap.size,args:=#[] }],W1,{ target:=.fn (.func gf) lb,args:=#[.func (.yield (w.heap.size+1)) #[] #[]] },W1,gf,#[.func (.yield (w.heap.size+1)) #[] #[]]++lb,W1,he,?_,fun _ _=>trivial,?_,fun e=>absurd e (by simp[Fence.wide]),?_⟩
 ·simp only[resolve,hg];simp[go_sem]
 ·simp[invoke,go_sem,eg]
 ·refine callsIn_wide.2 (Calls.mono h0 ?_)
  rintro e W' ⟨v,rec,rfl,h1,h2,h3,h4⟩
  refine⟨none,_,?_,h4⟩;rw[run_endLoop (P:=P) h1 h2];exact congrArg (fun p=>Result.ok p _) h3
end
def AO (k:Nat):Fact→Bool
 | .row k' _ _ => !(Nat.beq k' k)
 | _=>true
theorem RC {k:Nat} {o:Bool} {l:List At} (h:AO k (.row k o l)=true):False:=by
 have h:(!(Nat.beq k k))=true:=h;rw[Nat.beq_refl]at h;cases h
theorem Holds.wr {nt base:Nat} {w0:World} {A:List Fact} {a:Act} {w:World} (h:Holds nt base w0 A a w) {k b o:Nat} {l l':List At} {vs:List Value} (h1:Fact.row k true l∈A) (h2:Fact.at k b∈A) (hlen:o+vs.length≤bW l)
  (hl:∀j v,(aB l')[j]?=some v→(o≤j∧vs[j-o]?=some v)∨((j<o∨o+vs.length≤j)∧(aB l)[j]?=some v)) :
  Holds nt base w0 (.row k true l'::A.filter (AO k)) a (w.setCells b o vs):=by
 obtain⟨β,g1,g2,g3,gt⟩:=h.facts;obtain⟨e1,e2,e3,_⟩:=g1 _ h1;obtain⟨e4,e5,e6⟩:=e3 rfl;have e7:=g1 _ h2;simp only[Fact.ok]at e7;obtain⟨rfl,_⟩:=e7;rw[e5]at e2;have old:∀φ,φ∈A.filter (AO k)→φ∈A∧AO k φ=true:=fun φ hφ=>List.mem_filter.1 hφ
 have hth:∀q,q<vs.length→(w.cell? ⟨(β k).1,o+q,none⟩).isSome=true:=fun q hq=>by
  have hlt:o+q<(aB l).length:=by rw[aM]; omega
  have:=e2 (o+q) ((aB l)[o+q]'hlt) (List.getElem?_eq_getElem _);rw[Nat.zero_add]at this;rw[this]; rfl
 have up:∀k1 o1 l1,Fact.row k1 o1 l1∈(Fact.row k true l'::A.filter (AO k))→∃l2,Fact.row k1 o1 l2∈A:=fun k1 o1 l1 e=>by
  rcases List.mem_cons.1 e with e|e
  ·cases e; exact⟨_,h1⟩
  ·exact⟨_,(old _ e).1⟩
 refine⟨h.defers,h.size,fK e4 _ _ _ _ h.below,by rw[cE]; exact h.heap,β,fun φ hφ => ?_,fun k1 k2 o2 l1 l2 q1 q2 hne => ?_,fun k1 l1 e => ?_,?_⟩
 ·rcases List.mem_cons.1 hφ with rfl|hφ
  ·refine⟨by rw[cE]; exact e1,fun j v hj => ?_,fun _=>⟨e4,e5,fun j=>by rw[World.frozen?_setCells]; exact e6 j⟩,fun h=>by cases h⟩;rw[e5,Nat.zero_add]
   rcases hl j v hj with⟨q1,q2⟩|⟨q1,q2⟩
   ·have hlt:j-o<vs.length:=(List.getElem?_eq_some_iff.1 q2).1;have:=World.cell?_setCells_in (β k).1 vs o w hth (j-o) hlt;rw[show o+(j-o)=j by omega]at this;rw[this,←q2,List.getElem?_eq_getElem hlt]
   ·rw[World.cell?_setCells_out _ _ _ _ _ (fun _ _=>q1)];have:=e2 j v q2
    rwa [Nat.zero_add]at this
  ·obtain⟨hin,hno⟩:=old _ hφ;have e:=g1 φ hin;cases φ with
   | slot s v=>exact e
   | row k1 ow l1 =>
    obtain⟨q1,q2,q3,q4⟩:=e;have hk:k≠k1:=fun hk=>by subst hk; exact RC hno
    have hb:=g2 k k1 ow l l1 h1 hin hk;refine⟨by rw[cE]; exact q1,fun j v hj => ?_,fun ho => ?_,fun _=>trivial⟩
    ·rw[World.cell?_setCells_out _ _ _ _ _ (fun q _=>absurd q.symm hb)];exact q2 j v hj
    ·obtain⟨r1,r2,r3⟩:=q3 ho;exact⟨r1,r2,fun j=>by rw[World.frozen?_setCells]; exact r3 j⟩
   | «at» k1 b1=>exact e
   | app k1 e' sz n=>exact AppAt.shape (dB _ _ _ _) e
 ·obtain⟨m1,r1⟩:=up _ _ _ q1;obtain⟨m2,r2⟩:=up _ _ _ q2;exact g2 k1 k2 o2 m1 m2 r1 r2 hne
 ·obtain⟨m1,r1⟩:=up _ _ _ e;exact g3 k1 m1 r1
 ·refine⟨by rw[cE]; exact gt.size,fun p p1 p2 => ?_,gt.shape.trans (dB _ _ _ _)⟩;have hne:p.block≠(β k).1:=by
   rcases g3 k l h1 with q|q<;>omega
  rw[World.cell?_setCells_out _ _ _ _ _ (fun q _=>absurd q hne),World.frozen?_setCells];exact gt.mem p p1 p2
section
variable {P:Program} {n:Nat}
theorem NU {o:Oper} {a:Act} {w:World} {K:Act→World→Prop} {Q:Exit→Act→World→Prop} {x:Operand} {xs:Array Operand} {ts:Array TypeId} {l:Nat} {vs:Array Value} {rec:Loop} (ho:o.op=.call ⟨.value x,xs,ts⟩) (hx:a.eval x=.func (.yield l) #[] #[]) (hv:xs.map a.eval=vs)
  (hl:w.heap[l]?=some (.loop rec)) (hs:vs.size=rec.params.size)
  (hR:RoundIn Fence.wide (n-1) P l rec.fn ((rec.params.zip vs).foldl (fun t (p,v)=>t.setIfInBounds p v) rec.tmps) rec.assign rec.body w fun e W'=>∃v,e=.returned v∧K (a.put o.dst v) W'):o.wpIn (rF none) n P a w K Q:=by
 refine⟨fun _ _=>trivial,?_⟩;show o.uponIn (rF none) n P a K Q ((o.semAt none a.eval).run P w);rw[uC none _ o (fun c h=>by rw[ho]at h; cases h)];have hy:=run_yield (P:=P) (args:=vs) hl hs;have hrun:(execOp a.eval o).run P w=.ok (.round l rec.fn ((rec.params.zip vs).foldl (fun t (p,v)=>t.setIfInBounds p v) rec.tmps) rec.assign rec.body) w:=by
  simp[execOp,ho,resolve,Deferred.ofValue,hx,hv,invoke,hy]
 rw[hrun];refine⟨fun e=>absurd e (by simp[Fence.wide]),hR.mono ?_⟩
 rintro e W' ⟨v,rfl,hK⟩
 exact hK
theorem PK {l:Nat} {fn:FuncId} {tmps:Array Value} {assign body:Code} {w:World} {R:Ending→World→Prop} {K0:Act→World→Prop} (ha:assign.wpIn (rF (some l)) n P (iV K0) { tmps:=tmps,defers:=[] } w)
  (h:∀a1 w1,K0 a1 w1→∃rec,w1.heap[l]?=some (.loop rec)∧rec.state=.ready∧body.wpIn (rF (some l)) n P (iV fun _ W3=>∃rec3,W3.heap[l]?=some (.loop rec3)∧R (.returned (.bool true)) (W3.putObj l (.loop { rec3 with state:=.ready,pending:=none }))) a1 (w1.putObj l (.loop { rec with state:=.busy }))) :
  RoundIn Fence.wide n P l fn tmps assign body w R:=by
 refine roundIn_of_wpIn (F:=Fence.wide) trivial (wpIn_mono ha ?_)
 rintro e a1 w1 ⟨rfl,hK⟩
 obtain⟨rec,h1,h2,h3⟩:=h a1 w1 hK;refine⟨_,run_beginRound h1 h2,wpIn_mono h3 ?_⟩
 rintro e a3 W3 ⟨rfl,rec3,h4,h5⟩
 exact⟨_,_,run_endRound none h4,h5⟩
end
theorem rI {w:World} {l:Nat} {r:Loop} {o:Obj} (h:w.heap[l]?=some (.loop r)) {p:Addr} (hp:p.block≠l):(w.putObj l o).cell? p=w.cell? p∧(w.putObj l o).frozen? p=w.frozen? p :=
 ⟨World.cell?_of_block (World.putObj_heap_other hp),World.frozen?_of_block (World.putObj_heap_other hp)⟩
theorem uI {w:World} {l:Nat} {r:Loop} {o:Obj} (h:w.heap[l]?=some (.loop r)) {b s:Nat} {vs:List Value} (hb:b≠l) (hr:w.rangeAt b s vs):(w.putObj l o).rangeAt b s vs:=fun j v hj=>by
 rw[(rI h (p:=⟨b,s+j,none⟩) hb).1]; exact hr j v hj
theorem lR {B l:Nat} {w0 w:World} (h:Below B w0 w) (hB:B≤l) (o:Obj):Below B w0 (w.putObj l o) :=
 ⟨h.os,h.tape,h.output,by rw[World.putObj_size]; exact h.size,fun k hk=>(World.putObj_heap_other (by omega)).trans (h.block k hk)⟩
end Go.Proofs.YtpbljiejmfahcaaDoor.Ex
namespace Go.Proofs.YtpbljiejmfahcaaDoor
open Go.Proofs.Tryd
open Go.RowKit
def hor (B:Nat→Nat) (s:Nat):Nat→Nat
 | 0=>0
 | n+1=>hor B s n*256+B (s+n)
def RowB (w:World) (b n:Nat) (P:Nat→Nat):Prop:=∀k,k<n→w.cell? ⟨b,k,none⟩=some (.int .u8 (P k:Nat))∧w.frozen? ⟨b,k,none⟩=false
theorem RowB.below {w w':World} {b n:Nat} {P:Nat→Nat} (h:RowB w b n P) {B:Nat} (hb:Below B w w') (hB:b<B):RowB w' b n P:=fun k hk =>
 ⟨(hb.cell (p:=⟨b,k,none⟩) hB).trans (h k hk).1,(hb.frozen (p:=⟨b,k,none⟩) hB).trans (h k hk).2⟩
theorem RowB.set {w:World} {b n i v:Nat} {P:Nat→Nat} (h:RowB w b n P) (hi:i<n):RowB (w.setCell ⟨b,i,none⟩ (.int .u8 (v:Nat))) b n (dJ P i v):=by
 intro k hk;refine⟨?_,by rw[World.frozen?_setCell]; exact (h k hk).2⟩;unfold dJ
 by_cases e:k=i
 ·subst e; rw[if_pos rfl]; exact World.cell?_setCell_same (h:=(h k hk).1) ..
 ·rw[if_neg e,World.cell?_setCell_other (h:=fun he=>e (by simpa using (congrArg Addr.off he).symm)) ..]; exact (h k hk).1
theorem RowB.other {w:World} {b n i:Nat} {P:Nat→Nat} (h:RowB w b n P) {c:Nat} (hc:c≠b) (x:Value):RowB (w.setCell ⟨c,i,none⟩ x) b n P:=by
 intro k hk;exact⟨by rw[World.cell?_setCell_other (h:=fun he=>hc (by simpa using congrArg Addr.block he)) ..]; exact (h k hk).1,by rw[World.frozen?_setCell]; exact (h k hk).2⟩
theorem RowB.drewN {w:World} {b n:Nat} {P:Nat→Nat} (h:RowB w b n P) (m:Nat):RowB (w.drewN m) b n P:=h
theorem RowB.ext {w:World} {b n:Nat} {P R:Nat→Nat} (h:RowB w b n P) (e:∀k,k<n→P k=R k):RowB w b n R:=fun k hk=>⟨by rw[←e k hk]; exact (h k hk).1,(h k hk).2⟩
end Go.Proofs.YtpbljiejmfahcaaDoor
namespace Go.Proofs.YtpbljiejmfahcaaDoor.Ex
open Go.Proofs.Tryd
open Go.RowKit
def BM (w:World) (g o n:Nat) (f:Nat→Nat):Prop:=g<w.heap.size∧(∀j,f j<256)∧∀j,j<n→w.cell? ⟨g,o+j,none⟩=some (.int .u8 (Int.ofNat (f j)))
theorem BM.on {w w':World} {g o n:Nat} {f:Nat→Nat} (h:BM w g o n f) (hb:Below w.heap.size w w'):BM w' g o n f :=
 ⟨Nat.lt_of_lt_of_le h.1 hb.size,h.2.1,fun j hj=>(hb.cell (p:=⟨g,o+j,none⟩) h.1).trans (h.2.2 j hj)⟩
abbrev hN (f:Nat→Nat) (n:Nat):Nat:=Go.Proofs.YtpbljiejmfahcaaDoor.hor f 0 n
theorem Holds.ptV {nt base:Nat} {w0:World} {A:List Fact} {a:Act} {w:World} (h:Holds nt base w0 A a w) {s k o b:Nat} (h1:Fact.slot s (.pt k o)∈A) (h2:Fact.at k b∈A):a.eval (.tmp s)=ptV b o:=by
 obtain⟨β,g1,_⟩:=h.facts;have e1:=g1 _ h1;have e2:=g1 _ h2;simp only[Fact.ok]at e1 e2;simp[Act.eval,e1,AV.den,e2,Go.Proofs.YtpbljiejmfahcaaDoor.Ex.ptV]
theorem Holds.imV {nt base:Nat} {w0:World} {A:List Fact} {a:Act} {w:World} (h:Holds nt base w0 A a w) {s:Nat} {v:Value} (h1:Fact.slot s (.im v)∈A):a.eval (.tmp s)=v:=by
 have e1:=h.slot h1;simp[Act.eval,e1]
theorem zL {A:List Fact} {d:Nat} (h:A.all (fun φ => !(gE (some d) none φ))=true):∀φ∈A,gE (some d) none φ=false:=fun φ hφ=>by
 have:=List.all_eq_true.1 h φ hφ;simpa using this
def tC (T:Tab) (num:Nat→Option Value):Cfg:=⟨fun _=>T,fun _=>true,num⟩
def Cj:Nat→List TV→List Fact
 | _,[]=>[]
 | i,t::r=>.slot i t.av::Cj (i+1) r
theorem KC {base:Nat} {β:Nat→Bk} (a:Act) (w:World):∀(ts:List TV) (i:Nat),(∀j t,ts[j]?=some t→a.tmps[i+j]?=some t.den)→∀φ∈Cj i ts,φ.ok base β a w
 | [],i,_,φ,h=>by cases h
 | t::r,i,ha,φ,h=>by
  rcases List.mem_cons.1 h with rfl|h
  ·show a.tmps[i]?=_;rw[TV.av_den];exact ha 0 t rfl
  ·exact KC a w r (i+1) (fun j u hj=>by have:=ha (j+1) u (by simpa using hj); rwa [show i+(j+1)=i+1+j by omega]at this) φ h
theorem tF:∀(ts:List TV) (i:Nat) (k:Nat) (o:Bool) (l:List At),Fact.row k o l∈Cj i ts→False
 | [],i,k,o,l,h=>by cases h
 | t::r,i,k,o,l,h=>by
  rcases List.mem_cons.1 h with h|h
  ·cases h
  ·exact tF r (i+1) k o l h
structure Own (w:World) (b:Nat) (l:List At):Prop where
 lt:b<w.heap.size
 row:w.rangeAt b 0 (aB l)
 free:∀j,w.frozen? ⟨b,j,none⟩=false
def Wr (b:Nat) (w:World) (r:RV) (l:List At) (e:Ending) (w':World):Prop:=e=.returned r.den∧WrC w w' b∧w'.rangeAt b 0 (aB l)
def MZ (nt b N:Nat) (x:AV) (l:List At) (ts:List TV):List Fact:=.slot 0 x :: .row 0 true l :: .at 0 b :: .at nt N::Cj 1 ts
def NA (nt b N o:Nat) (l:List At) (ts:List TV):List Fact:=MZ nt b N (.pt 0 o) l ts
theorem Holds.wrc {nt b:Nat} {w w':World} {A:List Fact} {a:Act} (h:Holds nt b w A a w') {l:List At} (h1:Fact.row 0 true l∈A) (h2:Fact.at 0 b∈A) (h3:Fact.at nt w.heap.size∈A):WrC w w' b∧w'.rangeAt b 0 (aB l):=by
 obtain⟨β,g1,g2,g3,gt⟩:=h.facts;obtain⟨e1,e2,e4,_⟩:=g1 _ h1;obtain⟨e5,e6,e7⟩:=e4 rfl;have e3:=g1 _ h2;have e8:=g1 _ h3;simp only[Fact.ok]at e3 e8;rw[e6]at e2;rw[e3.1]at e2;refine⟨⟨h.below,fun p hp hne => ?_,gt.shape,fun j => ?_⟩,e2⟩
 ·rcases Nat.lt_or_ge p.block b with q|q
  ·exact⟨h.below.cell q,h.below.frozen q⟩
  ·exact gt.mem p (by omega) (by rw[e8.1]; exact hp)
 ·have:=e7 j
  rwa [e3.1]at this
section
variable {P:Program} {w:World} {R:Ending→World→Prop}
theorem MG {f:FuncId} {fn:Func} (hf:P.funcs[f]?=some fn) {c:Code} (hb:fn.body=some c) {b:Nat} {x:AV} {v:Value} (hx:∀β:Nat→Bk,β 0=(b,0,0)→x.den β=v) {l:List At} {ts:List TV} (hO:Own w b l) (hn:ts.length+1≤fn.ntmps)
  (h:∀a w',Holds fn.ntmps b w (MZ fn.ntmps b w.heap.size x l ts) a w'→c.wp P (bodyPost P fn R) a w'):Calls P f (v::ts.map TV.den).toArray w R:=by
 refine calls_of_wp hf hb (h _ _ ?_);have hg:∀j u,(v::ts.map TV.den)[j]?=some u→((v::ts.map TV.den).toArray++Array.replicate (fn.ntmps-(v::ts.map TV.den).toArray.size) undef)[j]?=some u:=fun j u hj=>by
  have hlt:=(List.getElem?_eq_some_iff.1 hj).1;rw[Array.getElem?_append_left (by simpa using hlt)];simpa using hj
 have hz:Nat.beq 0 fn.ntmps=false:=by
  cases hb:Nat.beq 0 fn.ntmps
  ·rfl
  ·have:=Nat.eq_of_beq_eq_true hb; omega
 have h0:∀k l0,Fact.row k true l0∈MZ fn.ntmps b w.heap.size x l ts→k=0:=fun k l0 hk=>by
  simp only[MZ,List.mem_cons,reduceCtorEq,false_or]at hk
  rcases hk with hk|hk
  ·cases hk; rfl
  ·exact (tF ts 1 k true l0 hk).elim
 refine⟨rfl,by simp; omega,Below.refl _ _,Nat.le_of_lt hO.lt,fun k=>bif Nat.beq k fn.ntmps then (w.heap.size,0,0)else (b,0,0),fun φ hφ => ?_,fun k k' o' l1 l2 h1 h2 hne => ?_,fun k l1 h1=>Or.inl ?_,?_,fun p q1 q2=>⟨rfl,rfl⟩,Shape.refl _⟩
 ·simp only[MZ,List.mem_cons]at hφ
  rcases hφ with rfl|rfl|rfl|rfl|hφ
  ·exact (hg 0 _ rfl).trans (congrArg some (hx _ (by simp only[hz,cond_false])).symm)
  ·refine⟨?_,?_,fun _=>⟨?_,?_,?_⟩,fun h=>by cases h⟩<;>simp only[hz,cond_false]
   ·exact hO.lt
   ·exact hO.row
   ·exact Nat.le_refl _
   ·exact hO.free
  ·simp only[Fact.ok,hz,cond_false,and_self]
  ·simp[Fact.ok]
  ·exact KC _ _ ts 1 (fun j t hj=>hg (1+j) _ (by rw[Nat.add_comm]; simp[hj])) φ hφ
 ·cases o' with
  | true=>exact (hne ((h0 k l1 h1).trans (h0 k' l2 h2).symm)).elim
  | false =>
   simp only[MZ,List.mem_cons,reduceCtorEq,false_or,Fact.row.injEq,Bool.false_eq_true,false_and,and_false]at h2;exact (tF ts 1 k' false l2 h2).elim
 ·rw[h0 k l1 h1];simp only[hz,cond_false]
 ·simp
theorem uV {f:FuncId} {fn:Func} (hf:P.funcs[f]?=some fn) {c:Code} (hb:fn.body=some c) {b o:Nat} {l:List At} {ts:List TV} (hO:Own w b l) (hn:ts.length+1≤fn.ntmps)
  (h:∀a w',Holds fn.ntmps b w (NA fn.ntmps b w.heap.size o l ts) a w'→c.wp P (bodyPost P fn R) a w'):Calls P f (ptV b o::ts.map TV.den).toArray w R :=
 MG hf hb (x:=.pt 0 o) (fun β h=>by simp[AV.den,ptV,h]) hO hn h
end
def Nk (P:Program) (ld st:Nat→Option (List At)) (idx:Nat→Option Nat) (gen:Nat→Option Value) (T5:Tab5):EqT:={ qG P with x:={ Ext.none with ld:=ld,st:=st,idx:=idx,gen:=gen,T5:=T5 } }
theorem mP {P:Program} {ld st:Nat→Option (List At)} {idx:Nat→Option Nat} {gen:Nat→Option Value} {T5:Tab5} (h5:PtOk P T5) (base:Nat) (w0:World):bD P (Nk P ld st idx gen T5) base w0 :=
 ⟨(bM P).1,fun w' _=>⟨fun _ _ _ h=>h.elim,fun _ _ _ _ h=>(by cases h),fun _ _ _ _ h=>(by cases h),fun _ _ _ _ _ h=>(by cases h),fun f cs pre j r l hg hp=>⟨(h5 f cs pre j r l hg hp).1,fun args ha b o hj hz _=>(h5 f cs pre j r l hg hp).2 args w' ha b o hj hz⟩,fun _ _ _ _ _ _ _ h=>(by cases h)⟩⟩
def Lg (l0:List At) (o0:Nat) (r:RV) (l1:List At):List CA→Option (List Prop×Nat×RV×List At)
 | [.p l o]=>some ([l=l0,o=o0],0,r,l1)
 | _=>none
def Dx (P:Program) (f:FuncId) (l0:List At) (o0:Nat) (ts:List Value) (r:RV) (l1:List At):Prop:=∀(w:World) (b:Nat),Own w b l0→Calls P f (ptV b o0::ts).toArray w (Wr b w r l1)
theorem Gz {P:Program} {f:FuncId} {l0:List At} {o0:Nat} {r0:RV} {l1:List At} (h:Dx P f l0 o0 [] r0 l1):∀cs pre j r l,Lg l0 o0 r0 l1 cs=some (pre,j,r,l)→aW pre→∀(args:List Value) (w:World),dV w cs args→∀b o,args[j]?=some (.pointer (some ⟨b,o,none⟩))→(∀q,w.frozen? ⟨b,q,none⟩=false) →
  Calls P f args.toArray w (fun e w'=>e=.returned r.den∧WrC w w' b∧w'.rangeAt b 0 (aB l)):=by
 intro cs pre j r l hg hp args w ha b o hj hz;unfold Lg at hg;split at hg
 ·cases hg;obtain⟨rfl,rfl,_⟩:=hp
  match args,ha with
  | [v],ha =>
   obtain⟨⟨b',rfl,h1,h2⟩,_⟩:=ha;cases hj;exact h w b ⟨h1,h2,hz⟩
  | [],ha=>exact ha.elim
  | _::_::_,ha=>exact ha.2.elim
 ·cases hg
def pcN (N i:Nat):Nat:=min (N-31*i) 31
theorem NW {P:Program} {o:Oper} {a:Act} {w:World} {K:Act→World→Prop} {Q:Exit→Act→World→Prop} {x:Operand} {xs:Array Operand} {ts:Array TypeId} {id:Nat} {cap vs:Array Value} {R:Ending→World→Prop} (ho:o.op=.call ⟨.value x,xs,ts⟩) (hx:a.eval x=.func (.func id) #[] cap) (hv:xs.map a.eval=vs)
  (he:∀xs,(callFunc id xs).run P w=.ok (.enter id xs) w) (hc:Calls P id (vs++cap) w R) (hK:∀e w',R e w'→∃v,e=.returned v∧K (a.put o.dst v) w'):o.wp P a w K Q:=by
 have hrun:(execOp a.eval o).run P w=.ok (.enter id (vs++cap)) w:=by
  simp[execOp,ho,resolve,Deferred.ofValue,hx,hv,invoke,he]
 unfold Oper.wp;rw[hrun];refine Calls.mono hc fun e w' hR => ?_
 obtain⟨v,rfl,h⟩:=hK e w' hR;exact h
theorem WrC.own {w w':World} {r:Nat} {l:List At} (h:WrC w w' r) (hlt:r<w.heap.size) (hr:w'.rangeAt r 0 (aB l)):Own w' r l:=⟨Nat.lt_of_lt_of_le hlt h.below.size,hr,h.free⟩
theorem WrC.trans {a b c:World} {r:Nat} (h:WrC a b r) (k:WrC b c r):WrC a c r :=
 ⟨h.below.trans k.below,fun p hp hne=>by
  have h1:=h.mem p hp hne;have h2:=k.mem p (Nat.lt_of_lt_of_le hp h.below.size) hne;exact⟨h2.1.trans h1.1,h2.2.trans h1.2⟩,h.shape.trans k.shape,k.free⟩
theorem Holds.wrcK {nt b k:Nat} {w w':World} {A:List Fact} {a:Act} (h:Holds nt b w A a w') {l:List At} (h1:Fact.row k true l∈A) (h2:Fact.at k b∈A) (h3:Fact.at nt w.heap.size∈A):WrC w w' b∧w'.rangeAt b 0 (aB l):=by
 obtain⟨β,g1,g2,g3,gt⟩:=h.facts;obtain⟨e1,e2,e4,_⟩:=g1 _ h1;obtain⟨e5,e6,e7⟩:=e4 rfl;have e3:=g1 _ h2;have e8:=g1 _ h3;simp only[Fact.ok]at e3 e8;rw[e6]at e2;rw[e3.1]at e2;refine⟨⟨h.below,fun p hp hne => ?_,gt.shape,fun j => ?_⟩,e2⟩
 ·rcases Nat.lt_or_ge p.block b with q|q
  ·exact⟨h.below.cell q,h.below.frozen q⟩
  ·exact gt.mem p (by omega) (by rw[e8.1]; exact hp)
 ·have:=e7 j
  rwa [e3.1]at this
theorem Own.holds {nt k r:Nat} {w:World} {l:List At} {a:Act} {ts:List (Nat×Value)} (h:Own w r l) (hd:a.defers=[]) (hs:a.tmps.size=nt) (hk:Nat.beq k nt=false) (hp:a.tmps[k]?=some (ptV r 0)) (ht:∀x∈ts,a.tmps[x.1]?=some x.2) :
  Holds nt r w (.slot k (.pt k 0) :: .row k true l :: .at k r :: .at nt w.heap.size::ts.map fun x=>.slot x.1 (.im x.2)) a w:=by
 refine⟨hd,hs,Below.refl _ _,Nat.le_of_lt h.lt,fun q=>bif Nat.beq q nt then (w.heap.size,0,0)else (r,0,0),fun φ hφ => ?_,fun k1 k2 o' l1 l2 h1 h2 hne => ?_,fun k1 l1 h1=>Or.inl ?_,?_,fun p q1 q2=>⟨rfl,rfl⟩,Shape.refl _⟩
 ·simp only[List.mem_cons,List.mem_map]at hφ
  rcases hφ with rfl|rfl|rfl|rfl|⟨x,hx,rfl⟩
  ·show a.tmps[k]?=_;rw[hp];simp[AV.den,hk,Go.Proofs.YtpbljiejmfahcaaDoor.Ex.ptV]
  ·refine⟨?_,?_,fun _=>⟨?_,?_,?_⟩,fun h=>by cases h⟩<;>simp only[hk,cond_false]
   ·exact h.lt
   ·exact h.row
   ·exact Nat.le_refl _
   ·exact h.free
  ·simp only[Fact.ok,hk,cond_false,and_self]
  ·simp[Fact.ok]
  ·exact ht x hx
 ·have e:∀k3 o3 l3,Fact.row k3 o3 l3∈(Fact.slot k (.pt k 0) :: .row k true l :: .at k r :: .at nt w.heap.size::ts.map fun x=>Fact.slot x.1 (.im x.2))→k3=k:=fun k3 o3 l3 h3=>by
   simp only[List.mem_cons,reduceCtorEq,false_or,List.mem_map,and_false,exists_const,or_false]at h3;cases h3; rfl
  exact (hne ((e _ _ _ h1).trans (e _ _ _ h2).symm)).elim
 ·have e:k1=k:=by
   simp only[List.mem_cons,reduceCtorEq,false_or,List.mem_map,and_false,exists_const,or_false]at h1;cases h1; rfl
  subst e;simp only[hk,cond_false]
 ·simp
def yV (l:Nat):Value:=.func (.yield l) #[] #[]
theorem bF {a:Act} {d s:Nat} {u v:Value} (h:a.tmps[s]?=some v) (hd:d≠s):(a.put (some d) u).tmps[s]?=some v:=by
 rw[gO _ _ _ _ (fun e=>hd (by injection e))]; exact h
structure Only2 (a b:Nat) (w w':World):Prop where
 below:∀B,B≤a→B≤b→Below B w w'
 mem:∀p:Addr,p.block<w.heap.size→p.block≠a→p.block≠b→w'.cell? p=w.cell? p∧w'.frozen? p=w.frozen? p
 shape:Shape w w'
theorem Only2.refl (a b:Nat) (w:World):Only2 a b w w:=⟨fun _ _ _=>Below.refl _ _,fun _ _ _ _=>⟨rfl,rfl⟩,Shape.refl _⟩
theorem Only2.trans {a b:Nat} {u v w:World} (h:Only2 a b u v) (k:Only2 a b v w):Only2 a b u w :=
 ⟨fun B h1 h2=>(h.below B h1 h2).trans (k.below B h1 h2),fun p hp h1 h2=>by
  have e1:=h.mem p hp h1 h2;have e2:=k.mem p (Nat.lt_of_lt_of_le hp h.shape.2.size) h1 h2;exact⟨e2.1.trans e1.1,e2.2.trans e1.2⟩,h.shape.trans k.shape⟩
theorem Only2.of_below {a b:Nat} {w w':World} (h:Below w.heap.size w w') (ha:a<w.heap.size) (hb:b<w.heap.size):Only2 a b w w' :=
 ⟨fun B h1 h2=>h.mono (by omega),fun p hp _ _=>⟨h.cell hp,h.frozen hp⟩,Shape.below h⟩
theorem Only2.own {a b:Nat} {w w':World} (h:Only2 a b w w') {r:Nat} {l:List At} (hO:Own w r l) (h1:r≠a) (h2:r≠b):Own w' r l :=
 ⟨Nat.lt_of_lt_of_le hO.lt h.shape.2.size,fun j v hj=>(h.mem ⟨r,0+j,none⟩ hO.lt h1 h2).1.trans (hO.row j v hj),fun j=>(h.mem ⟨r,j,none⟩ hO.lt h1 h2).2.trans (hO.free j)⟩
theorem Only2.range {a b:Nat} {w w':World} (h:Only2 a b w w') {r o:Nat} {l:List Value} (hlt:r<w.heap.size) (hO:w.rangeAt r o l) (h1:r≠a) (h2:r≠b):w'.rangeAt r o l :=
 fun j v hj=>(h.mem ⟨r,o+j,none⟩ hlt h1 h2).1.trans (hO j v hj)
structure ElM (w:World) (a b n C:Nat) (g:Nat→Nat):Prop where
 box:Own w a [.c (aT b 0 n C)]
 app:AppAt w b 34 4 n C
 lt:b<w.heap.size
 row:w.rangeAt b 0 (aB (aG (el g) 0 n))
 ne:a≠b
theorem AppAt.free {w:World} {b e sz n C:Nat} (h:AppAt w b e sz n C) (j:Nat):w.frozen? ⟨b,j,none⟩=false:=by
 obtain⟨cur,h1,_⟩:=h;simp[World.frozen?,h1]
theorem ElM.wrc {w w':World} {a b n C r:Nat} {g:Nat→Nat} (h:ElM w a b n C g) (hW:WrC w w' r) (ha:a≠r) (hb:b≠r):ElM w' a b n C g :=
 ⟨⟨Nat.lt_of_lt_of_le h.box.lt hW.below.size,fun j v hj=>(hW.mem ⟨a,0+j,none⟩ h.box.lt ha).1.trans (h.box.row j v hj),fun j=>(hW.mem ⟨a,j,none⟩ h.box.lt ha).2.trans (h.box.free j)⟩,h.app.shape hW.shape,Nat.lt_of_lt_of_le h.lt hW.below.size,
  fun j v hj=>(hW.mem ⟨b,0+j,none⟩ h.lt hb).1.trans (h.row j v hj),h.ne⟩
theorem ElM.on {w w':World} {a b n C:Nat} {g:Nat→Nat} (h:ElM w a b n C g) (hW:Below w.heap.size w w'):ElM w' a b n C g :=
 ⟨⟨Nat.lt_of_lt_of_le h.box.lt hW.size,dE hW h.box.lt h.box.row,fun j=>(hW.frozen (p:=⟨a,j,none⟩) h.box.lt).trans (h.box.free j)⟩,h.app.shape (Shape.below hW),Nat.lt_of_lt_of_le h.lt hW.size,dE hW h.lt h.row,h.ne⟩
theorem Nj (x:Nat):∀v∈aB [At.q x],v.oneCell'=true:=fun v hv=>by
 have e:aB [At.q x]=w4 x:=by simp[aB,At.cells]
 rw[e]at hv;simp only[w4,List.mem_cons,List.not_mem_nil,or_false]at hv
 rcases hv with rfl|rfl|rfl|rfl<;>rfl
theorem BX (f:Nat→Nat):∀n s,(aB (aG (el f) s n)).length=n*4
 | 0,s=>rfl
 | n+1,s=>by
  show (aB (el f s++aG (el f) (s+1) n)).length=_;rw[aL,List.length_append,BX f n (s+1)];show 4+n*4=_;omega
theorem eQ {f g:Nat→Nat}:∀(n s:Nat),(∀j,j<n→f (s+j)=g (s+j))→aG (el f) s n=aG (el g) s n
 | 0,s,h=>rfl
 | n+1,s,h=>by
  have h0:f s=g s:=h 0 (by omega);have h1:aG (el f) (s+1) n=aG (el g) (s+1) n:=eQ n (s+1) fun j hj=>by
   have e:s+1+j=s+(j+1):=by omega
   rw[e];exact h (j+1) (by omega)
  show [At.q (f s)]++aG (el f) (s+1) n=[At.q (g s)]++aG (el g) (s+1) n;rw[h0,h1]
theorem Rq:Ls prog 24=some (34,4,32):=by kernel_rfl
theorem Zc {a:Act} {s:Nat} {v:Value} (h:a.tmps[s]?=some v):a.eval (.tmp s)=v:=by simp[Act.eval,h]
section
variable {ops:Array Oper} {o:Oper} {a:Act} {v:Value} {s:Nat} {S:World→Prop}
theorem GP {t b:Nat} (hop:o.op=.load t (.tmp s)) (hg:o.guard=none) (h:a.tmps[s]?=some (ptV b 0)) (ht:gL prog t=true) (hS:∀wx,S wx→wx.cell? ⟨b,0,none⟩=some v):YieldsIf prog ops S o v a :=
 Or.inl ⟨by simp[Region.wanted,hg],fun wx hw=>by
  have:=gM (P:=prog) wx ⟨b,0,none⟩ ht (hS wx hw);simp[execOp,hop,Zc h,ptV,Instr.loadAt,Instr.sureAddr,this]⟩
end
def elN (f:Nat→Nat) (N i:Nat):Nat:=if i=0 then N else hN (fun j=>f (31*(i-1)+j)) (pcN N (i-1))
def rfA:Code→Code
 | .rangeFunc _ _ a _=>a
 | c=>c
def rfB:Code→Code
 | .rangeFunc _ _ _ b=>b
 | c=>c
theorem aS {nt:Nat} {w:World} {a:Act} {ts:List (Nat×Value)} (hd:a.defers=[]) (hs:a.tmps.size=nt) (ht:∀x∈ts,a.tmps[x.1]?=some x.2):Holds nt w.heap.size w (ts.map fun x=>.slot x.1 (.im x.2)) a w:=by
 refine⟨hd,hs,Below.refl _ _,Nat.le_refl _,fun _=>(w.heap.size,0,0),fun φ hφ => ?_,fun k k' o' l l' h1 => ?_,fun k l h1 => ?_,Nat.le_refl _,fun p h1 h2=>⟨rfl,rfl⟩,Shape.refl _⟩
 ·obtain⟨x,hx,rfl⟩:=List.mem_map.1 hφ;exact ht x hx
 ·obtain⟨x,_,e⟩:=List.mem_map.1 h1; cases e
 ·obtain⟨x,_,e⟩:=List.mem_map.1 h1; cases e
theorem FX {n:Nat} (h:n<18446744073709551616) (w:World):(convert 3 32 (iI n)).run prog w=.ok (.int .u64 (Int.ofNat n)) w:=by
 have h1:prog.underlying 3=some (.int .i64):=by kernel_rfl
 have h2:prog.underlying 32=some (.int .u64):=by kernel_rfl
 have h3:IntKind.u64.wrap (n:Int)=n:=by rw[IntKind.wrap_u64]; omega
 simp[convert,iI,run_underlying h1,run_underlying h2,h3,go_sem]
theorem nR {K:Act→World→Prop} {c:List PanicEntry} {a a':Act} {w w':World} (h:iV K (.panic c) a w):iV K (.panic c) a' w':=by cases h.1
abbrev eH:Nat:=18446744073709551616
theorem Uw {a b:Nat} (ha:a<eH) (hb:b<eH):a ||| b<eH:=Nat.or_lt_two_pow (n:=64) ha hb
theorem tK {a b:Nat} (ha:a<eH) (hb:b<eH):a ^^^ b<eH:=Nat.xor_lt_two_pow (n:=64) ha hb
theorem Cl {a b:Nat} (ha:a<eH):a &&& b<eH:=Nat.lt_of_le_of_lt Nat.and_le_left ha
theorem Bp {a k:Nat} (ha:a<eH):a/2^k<eH:=Nat.lt_of_le_of_lt (Nat.div_le_self _ _) ha
theorem RQ (a:Nat):a%eH<eH:=Nat.mod_lt _ (by decide)
def kC (lo hi p:Nat):Nat:=lo/2^p ||| hi*2^(64-p)%eH
theorem iP {lo hi p:Nat} (h:lo<eH):kC lo hi p<eH:=Uw (Bp h) (RQ _)
structure St where
 lo:Nat
 hi:Nat
 fr:Nat
 gv:Nat
structure St.ok (s:St):Prop where
 lo:s.lo<eH
 hi:s.hi<eH
 fr:s.fr<eH
 gv:s.gv<eH
def mK (lo hi:Nat):Nat:=(kC lo hi 62 ^^^ kC lo hi 51 ^^^ kC lo hi 38 ^^^ kC lo hi 23 ^^^ kC lo hi 13 ^^^ kC lo hi 0) &&& 65535
def St.grow (s:St):St:=⟨kC s.lo s.hi 16,mK s.lo s.hi,mK s.lo s.hi,s.gv⟩
theorem TB {lo hi:Nat} (h:lo<eH):mK lo hi<eH:=Cl (tK (tK (tK (tK (tK (iP h) (iP h)) (iP h)) (iP h)) (iP h)) (iP h))
theorem St.ok.grow {s:St} (h:s.ok):s.grow.ok:=⟨iP h.lo,TB h.lo,TB h.lo,h.gv⟩
abbrev tz (x:Nat):Nat:=Lib.ctz 64 x
def sC (n c i:Nat):Nat:=n/2^(c-1-i)%2
def kT (n c i p:Nat):Nat:=sC n c i*2^(p%64)%eH
def lay1 (n c i p:Nat) (s:St):St:=if p/64=0 then ⟨s.lo ||| kT n c i p,s.hi,s.fr,s.gv⟩else ⟨s.lo,s.hi ||| kT n c i p,s.fr,s.gv⟩
theorem xB (n c i p:Nat):kT n c i p<eH:=RQ _
theorem St.ok.lay1 {s:St} (h:s.ok) (n c i p:Nat):(Ex.lay1 n c i p s).ok:=by
 unfold Ex.lay1
 by_cases e:p/64=0
 ·rw[if_pos e]; exact⟨Uw h.lo (xB _ _ _ _),h.hi,h.fr,h.gv⟩
 ·rw[if_neg e]; exact⟨h.lo,Uw h.hi (xB _ _ _ _),h.fr,h.gv⟩
def jY (n c:Nat):Nat→Nat→Nat→St→St
 | 0,_,_,s=>s
 | m+1,i,p,s=>jY n c m (i+1) (p+1) (lay1 n c i p s)
theorem dU (n c:Nat):∀(m i p:Nat) {s:St},s.ok→(jY n c m i p s).ok
 | 0,_,_,_,h=>h
 | m+1,i,p,s,h=>dU n c m (i+1) (p+1) (h.lay1 n c i p)
def gwI:Nat→St→St
 | 0,s=>s
 | n+1,s=>(gwI n s).grow
theorem FG:∀(n:Nat) {s:St},s.ok→(gwI n s).ok
 | 0,_,h=>h
 | n+1,_,h=>(FG n h).grow
def Uk:St:=⟨0,0,0,0⟩
def NM (wd fl pt:Nat):St:=jY 1073741823 30 30 0 50 (jY pt 10 10 0 40 (jY fl 10 10 0 30 (jY wd 12 12 0 18 (jY 254 12 12 0 6 (jY 0 4 4 0 2 (jY 1 2 2 0 0 Uk))))))
def CU (wd fl pt:Nat):St:=gwI 10 (NM wd fl pt)
theorem GM:Uk.ok:=⟨by decide,by decide,by decide,by decide⟩
theorem xT (wd fl pt:Nat):(NM wd fl pt).ok:=dU _ _ _ _ _ (dU _ _ _ _ _ (dU _ _ _ _ _ (dU _ _ _ _ _ (dU _ _ _ _ _ (dU _ _ _ _ _ (dU _ _ _ _ _ GM))))))
theorem xS (wd fl pt:Nat):(CU wd fl pt).ok:=FG _ (xT _ _ _)
def St.J (s:St):St:=⟨s.grow.lo,s.grow.hi,s.grow.fr,s.grow.fr &&& 21845⟩
theorem St.ok.J {s:St} (h:s.ok):s.J.ok:=⟨h.grow.lo,h.grow.hi,h.grow.fr,Cl h.grow.fr⟩
def inn:Nat→St→Option St
 | 0,s=>bif Nat.beq s.gv 0 then none else some s
 | n+1,s=>bif Nat.beq s.gv 0 then inn n s.J else some s
def Ji:Nat→St→St
 | 0,s=>s
 | n+1,s=>(Ji n s).J
theorem Lb:∀(n:Nat) (s:St),Ji n s.J=Ji (n+1) s
 | 0,s=>rfl
 | n+1,s=>by
  show (Ji n s.J).J=_;rw[Lb n s]; rfl
theorem VP:∀(n:Nat) {s:St},s.ok→(Ji n s).ok
 | 0,s,h=>h
 | n+1,s,h=>(VP n h).J
theorem nU:∀(n:Nat) (s t:St),inn n s=some t→∃k,Ji k s=t∧t.gv≠0∧∀i,i<k→(Ji i s).gv=0
 | 0,s,t,h=>by
  unfold inn at h;cases hb:Nat.beq s.gv 0<;>rw[hb]at h
  ·cases h;exact⟨0,rfl,(fun e=>by rw[e]at hb; cases hb),fun i hi=>by omega⟩
  ·cases h
 | n+1,s,t,h=>by
  unfold inn at h;cases hb:Nat.beq s.gv 0<;>rw[hb]at h
  ·cases h;exact⟨0,rfl,(fun e=>by rw[e]at hb; cases hb),fun i hi=>by omega⟩
  ·obtain⟨k,h1,h2,h3⟩:=nU n s.J t h;refine⟨k+1,by rw[←Lb]; exact h1,h2,fun i hi => ?_⟩;cases i with
   | zero=>exact Nat.eq_of_beq_eq_true hb
   | succ i=>rw[←Lb]; exact h3 i (by omega)
def St.bit (t:St):Nat:=t.fr/2^(tz t.gv+1) &&& 1
def St.next (t:St):St:=⟨t.lo,t.hi,t.fr,t.gv &&& (t.gv-1)⟩
theorem St.ok.next {s:St} (h:s.ok):s.next.ok:=⟨h.lo,h.hi,h.fr,Cl h.gv⟩
def NN (a b:Nat):Nat:=a*2^1%eH ||| b
def wrd:Nat→St→Nat→Option (Nat×St)
 | 0,s,a=>some (a,s)
 | n+1,s,a=>match inn 40 s with|some t=>wrd n t.next (NN a t.bit)|none=>none
theorem Cx {n:Nat} (h:n≠0) (hn:n<eH):tz n<64:=(Lib.lowest_bit 64 n h hn).2
theorem GB {s:St} (h:s.ok):s.bit<eH:=Cl (Bp h.fr)
theorem VI {a:Nat} {s:St} (h:s.ok):NN a s.bit<eH:=Uw (RQ _) (GB h)
theorem FB {n:Nat} {s t:St} (hs:s.ok) (h:inn n s=some t):t.ok:=by
 obtain⟨k,rfl,_,_⟩:=nU n s t h;exact VP k hs
theorem eI:∀(n:Nat) {s t:St} {a v:Nat},s.ok→a<eH→wrd n s a=some (v,t)→t.ok∧v<eH
 | 0,s,t,a,v,hs,ha,h=>by cases h; exact⟨hs,ha⟩
 | n+1,s,t,a,v,hs,ha,h=>by
  unfold wrd at h;cases hi:inn 40 s with
  | none=>rw[hi]at h; cases h
  | some u =>
   rw[hi]at h;have hu:=FB hs hi;exact eI n hu.next (VI hu) h
def cand (s:St):Option (Nat×St):=match wrd 62 s 0 with
 | some (d,s1)=>(match wrd 64 s1 0 with
  | some (c,s2)=>(match wrd 64 s2 0 with
   | some (b,s3)=>(match wrd 64 s3 0 with
    | some (a,s4)=>some (aC a b c d,s4)
    | none=>none)
   | none=>none)
  | none=>none)
 | none=>none
theorem mD {s t:St} {x:Nat} (h:cand s=some (x,t)):∃a b c d s1 s2 s3,wrd 62 s 0=some (d,s1)∧wrd 64 s1 0=some (c,s2)∧wrd 64 s2 0=some (b,s3)∧wrd 64 s3 0=some (a,t)∧x=aC a b c d:=by
 unfold cand at h;split at h
 ·rename_i d s1 h1;split at h
  ·rename_i c s2 h2;split at h
   ·rename_i b s3 h3;split at h
    ·rename_i a s4 h4;cases h;exact⟨a,b,c,d,s1,s2,s3,h1,h2,h3,h4,rfl⟩
    ·cases h
   ·cases h
  ·cases h
 ·cases h
def cst:Nat→St→Option (Nat×St)
 | 0,_=>none
 | n+1,s=>match cand s with
  | some (x,t)=>bif Nat.blt x RM then some (x,t)else cst n t
  | none=>none
def csts:Nat→St→Option (List Nat)
 | 0,_=>some []
 | n+1,s=>match cst 100 s with
  | some (x,t)=>(match csts n t with|some l=>some (x::l)|none=>none)
  | none=>none
def SB (ops:Array Oper):Bool:=lJ (fun i (_:Oper)=>Nat.beq (i+1) ops.size||(List.range ops.size).any fun k=>Nat.blt i k&&FW true ops k i) 0 ops.toList
def Ia (ops:Array Oper):Bool:=ops.toList.all fun o=>o.guard.isNone
theorem IS {ops:Array Oper} (h:Ia ops=true) {i:Nat} {o:Oper} (ho:ops[i]?=some o):∀y,Region.wanted o y=true:=by
 have hm:o∈ops.toList:=by
  have:ops.toList[i]?=some o:=by rw[Array.getElem?_toList]; exact ho
  exact List.mem_of_getElem? this
 have h1:o.guard.isNone=true:=List.all_eq_true.1 h o hm;have h2:o.guard=none:=by simpa using h1
 intro y;unfold Region.wanted;rw[h2]
theorem QE {ops:Array Oper} {i:Nat} (h:i+1<ops.size):ops.pop[i]?=ops[i]?:=by
 rw[Array.getElem?_pop,if_pos (by omega)]
theorem JS {ops:Array Oper} {i j:Nat} (h:i+1<ops.size):FW true ops.pop i j=FW true ops i j:=by
 unfold FW;simp only[cond_true];rw[QE h]
section
variable {E:Env} {ops:Array Oper} {base:Nat} {w0:World} {A A':List Fact} {TF:List (Option Nat×Fact)} {rs:List Rec} {ps:List Prop} {a:Act} {w:World} {Q:Exit→Act→World→Prop}
theorem VA (hT:∀d,TabOkW E.P (E.T d) base w0) (hq:bD E.P E.q base w0) (hrun:qT E true ops.pop ops.pop.toList 0 (A.map fun φ=>(none,φ)) [] []=some (ps,TF,rs)) (hps:aW ps) (hchk:VX true ops.pop rs=true) (hlow:VU true ops=true) (hlast:SB ops=true) (hno:Ia ops=true)
  {ol:Oper} (hol:ops[ops.size-1]?=some ol) (hQ:∀a w,Inv E true ops.pop base w0 TF rs (fun i=>i<ops.pop.size) a w→ol.wp E.P a w (fun a w=>Q .normal a w) Q) :
  ∀(m:Nat) (g:Array Bool) (a:Act) (w:World),g.size=ops.size→fr ops.size g=m→g.getD (ops.size-1) false=false→Inv E true ops.pop base w0 TF rs (fun i=>g.getD i false=true) a w→wpAny E.P .any ops Q m g a w:=by
 have hpos:0<ops.size:=by have:=(Array.getElem?_eq_some_iff.1 hol).1; omega
 have hps2:ops.pop.size=ops.size-1:=Array.size_pop;have hready:∀(g:Array Bool),g.size=ops.size→Region.ready .any ops g=[]→∀i,i<ops.size→g.getD i false=true:=fun g hs hr i=>by
  induction i using Nat.strongRecOn with
  | _ i ih =>
   intro hi;cases hb:g.getD i false with
   | true=>rfl
   | false =>
    exfalso;have:i∈Region.ready .any ops g:=by
     refine mem_ready.2 ⟨?_,ops[i],Array.getElem?_eq_getElem hi,fun e he hbi => ?_⟩
     ·have:i<g.size:=by omega
      simp[Array.getD,this]at hb ⊢;exact hb
     ·unfold VU at hlow;simp only[cond_true]at hlow;have:=dZ hlow i ops[i] (by simp[hi]);rw[List.all_eq_true]at this;have:=this e (by simpa using he);rw[hbi]at this;have hlt:e.on<i:=by simpa using this
      exact ih e.on hlt (by omega)
    rw[hr]at this;cases this
 intro m
 induction m with
 | zero =>
  intro g a w hs hf hl hI;have:=xK hf (ops.size-1) (by omega);rw[hl]at this;cases this
 | succ m ih =>
  intro g a w hs hf hl hI;refine⟨fun hr => ?_,fun i hi => ?_⟩
  ·have:=hready g hs hr (ops.size-1) (by omega);rw[hl]at this;cases this
  obtain⟨h1,o,ho,h2⟩:=mem_ready.1 hi;have hlt:i<ops.size:=(Array.getElem?_eq_some_iff.1 ho).1;have hg:i<g.size:=by omega
  have hgi:g.getD i false=false:=by
   simp[Array.getD,hg]at h1 ⊢;exact h1
  unfold wpOp;rw[ho];simp only;rw[if_pos (IS hno ho _)];refine Or.inl ?_
  by_cases hil:i+1=ops.size
  ·have e:i=ops.size-1:=by omega
   subst e;rw[hol]at ho;cases ho;have hall:∀n j,j+n+1=ops.size→1≤n→g.getD j false=true:=fun n=>by
    induction n using Nat.strongRecOn with
    | _ n ihn =>
     intro j hj hn;have h3:=dZ hlast j ops[j] (by simp[show j<ops.size by omega]);rw[Nat.zero_add,Bool.or_eq_true]at h3
     rcases h3 with h3|h3
     ·have:=Nat.eq_of_beq_eq_true h3; omega
     ·obtain⟨k,hk,h4⟩:=List.any_eq_true.1 h3;rw[Bool.and_eq_true]at h4;have hjk:j<k:=by simpa using h4.1
      have hk:k<ops.size:=by simpa using hk
      by_cases ek:k+1=ops.size
      ·obtain⟨o',ho',e,he,hb,rfl⟩:=sX.1 h4.2;rw[show k=ops.size-1 by omega,hol]at ho';cases ho';exact h2 e he hb
      ·have h5:=ihn (ops.size-1-k) (by omega) k (by omega) (by omega);exact hI.closed k j h5 (by rw[JS (by omega)]; exact h4.2)
   have hfun:(fun i=>g.getD i false=true)=fun i=>i<ops.pop.size:=funext fun i=>propext ⟨fun h=>by
    rw[hps2]
    by_cases hi:i<g.size
    ·have:i≠ops.size-1:=fun e=>by rw[e,hl]at h; cases h
     omega
    ·simp[Array.getD,hi]at h,fun h=>hall (ops.size-1-i) i (by omega) (by omega)⟩
   rw[hfun]at hI;refine Oper.wp_mono (fun a' w' h => ?_) (hQ a w hI);have hnil:Region.ready .any ops (g.setIfInBounds (ops.size-1) true)=[]:=by
    apply List.eq_nil_iff_forall_not_mem.2;intro j hj;obtain⟨q1,o,qo,_⟩:=mem_ready.1 hj;have hjlt:j<ops.size:=(Array.getElem?_eq_some_iff.1 qo).1;have q2:(g.setIfInBounds (ops.size-1) true).getD j false=true:=by
     by_cases ej:j=ops.size-1
     ·exact (iY (by omega)).2 (Or.inl ej)
     ·exact (iY (by omega)).2 (Or.inr (hall (ops.size-1-j) j (by omega) (by omega)))
    have:j<(g.setIfInBounds (ops.size-1) true).size:=by simp; omega
    simp[Array.getD,this]at q1 q2;obtain⟨_,q1⟩:=q1;obtain⟨_,q2⟩:=q2;rw[q1]at q2; cases q2
   cases m with
   | zero=>exact⟨hnil,h⟩
   | succ m=>exact⟨fun _=>h,fun j hj=>by rw[hnil]at hj; cases hj⟩
  ·have hip:i+1<ops.size:=by omega
   have hst:=nH hT hq hrun hps hchk (Q:=Q) hI (show ops.pop[i]?=some o by rw[QE hip]; exact ho) (by rw[hgi]; simp) (fun j hj=>by
    rw[JS hip]at hj;obtain⟨o',ho',e,he,hb,rfl⟩:=sX.1 hj;rw[ho]at ho';cases ho';exact h2 e he hb)
   rw[if_pos (IS hno ho _)]at hst;refine Oper.wp_mono (fun a' w' h => ?_) hst;refine ih _ a' w' (by simp[hs]) (by have:=FM hlt hg hgi; omega) ?_ ?_
   ·cases hb:(g.setIfInBounds i true).getD (ops.size-1) false with
    | false=>rfl
    | true =>
     rcases (iY hg).1 hb with q|q
     ·omega
     ·rw[hl]at q; cases q
   ·have:(fun j=>(g.setIfInBounds i true).getD j false=true)=fun j=>j=i∨g.getD j false=true:=funext fun j=>propext (iY hg)
    rwa [this]
end
def Gc (P:Program) (q:EqT) (nt:Nat) (c:Cfg) (ops:Array Oper) (A K:List Fact):Option (List Prop×List Fact) :=
 match tO (Dl P q nt c) true ops.pop A with
 | some (ps,A1)=>match pick A1 K with|some L=>some (ps,L)|none=>none
 | none=>none
theorem DW {P:Program} {q:EqT} {nt base id:Nat} {c:Cfg} {w0:World} {ops:Array Oper} {A K L:List Fact} {ps:List Prop} {Q:Exit→Act→World→Prop} (hm:P.follows .mixedOrders=true) (hT:∀d,TabOkW P (c.T d) base w0) (hq:bD P q base w0) (h:Gc P q nt c ops A K=some (ps,L)) (hps:aW ps)
  (hk:(VU true ops&&(SB ops&&Ia ops))=true) {ol:Oper} (hol:ops[ops.size-1]?=some ol) {a:Act} {w:World} (hA:Holds nt base w0 A a w)
  (hQ:∀a w,Holds nt base w0 L a w→ol.wp P a w (fun a w=>Q .normal a w) Q):(Code.region id ops true).wp P Q a w:=by
 rw[Bool.and_eq_true,Bool.and_eq_true]at hk;unfold Gc at h;split at h
 ·rename_i ps' A1 h1;split at h
  ·rename_i L' h2;cases h;unfold tO at h1;split at h1
   ·rename_i ps' TF rs hrun;cases hc:(VX true ops.pop rs&&VU true ops.pop)<;>rw[hc]at h1
    ·cases h1
    ·cases h1;rw[Bool.and_eq_true]at hc;refine wp_region_any hm ?_;have hsz:∀n,fr n (Array.replicate ops.size false)=n:=fun n=>by
      induction n with
      | zero=>rfl
      | succ n ih=>unfold fr; rw[ih]; by_cases hn:n<ops.size<;>simp[Array.getD,hn]
     refine VA (E:=Dl P q nt c) hT hq hrun hps hc.1 hk.1 hk.2.1 hk.2.2 hol (fun a w hI=>hQ a w ((mA hrun (fun _ h=>h) hI).sub (fL h2))) ops.size _ a _ (by simp) (hsz _) ?_ ?_
     ·have:=(Array.getElem?_eq_some_iff.1 hol).1;simp[Array.getD,this]
     ·have:(fun i=>(Array.replicate ops.size false).getD i false=true)=fun _:Nat=>False:=funext fun i=>propext (by by_cases hi:i<ops.size<;>simp[Array.getD,hi])
      rw[this];exact gF hrun hA.drew
   ·cases h1
  ·cases h
 ·cases h
theorem wB {w:World} {b o:Nat} {vs:List Value} (hf:∀j,w.frozen? ⟨b,j,none⟩=false):WrC w (w.setCells b o vs) b :=
 ⟨fK (Nat.le_refl _) _ _ _ _ (Below.refl _ _),fun p _ hne=>⟨World.cell?_setCells_out _ _ _ _ _ (fun q _=>absurd q hne),World.frozen?_setCells _ _ _ _ _⟩,dB _ _ _ _,fun j=>by rw[World.frozen?_setCells]; exact hf j⟩
theorem Own.there {w:World} {b:Nat} {l:List At} (h:Own w b l) {o n:Nat} (hn:o+n≤bW l):w.there b o n:=fun j hj=>by
 refine⟨?_,h.free _⟩;have hlt:o+j<(aB l).length:=by rw[aM]; omega
 have:=h.row (o+j) ((aB l)[o+j]'hlt) (List.getElem?_eq_getElem _);rw[Nat.zero_add]at this;rw[this]; rfl
theorem Own.set {w:World} {b o:Nat} {l l' p:List At} (h:Own w b l) (hp:put l o p=some l'):Own (w.setCells b o (aB p)) b l'∧WrC w (w.setCells b o (aB p)) b:=by
 obtain⟨q,m,s,e1,e2,e3,e4⟩:=rH hp;have hl:bW l=o+(bW p+bW s):=by rw[e1,jM,jM,e3,e4]
 have hth:∀j,j<(aB p).length→(w.cell? ⟨b,o+j,none⟩).isSome=true:=fun j hj=>by
  rw[aM]at hj;exact ((h.there (o:=o) (n:=bW p) (by omega)) j hj).1
 refine⟨⟨by rw[cE]; exact h.lt,fun j v hj => ?_,fun j=>by rw[World.frozen?_setCells]; exact h.free j⟩,wB h.free⟩;rw[Nat.zero_add];rw[e2]at hj;have hf:aB l=aB q++(aB m++aB s):=by rw[e1,aL,aL]
 have hqo:(aB q).length=o:=by rw[aM,e3]
 have hmp:(aB m).length=(aB p).length:=by rw[aM,aM,e4]
 by_cases h1:j<o
 ·rw[World.cell?_setCells_out _ _ _ _ _ (fun _ _=>Or.inl (show j<o from h1))];have:=h.row j v (by rw[hf]; rw[List.getElem?_append_left (by omega)]at hj ⊢; exact hj)
  rwa [Nat.zero_add]at this
 ·rw[List.getElem?_append_right (by omega),hqo]at hj
  by_cases h2:j-o<(aB p).length
  ·rw[List.getElem?_append_left h2]at hj;have:=World.cell?_setCells_in b (aB p) o w hth (j-o) h2;rw[show o+(j-o)=j by omega]at this;rw[this,←hj,List.getElem?_eq_getElem h2]
  ·rw[World.cell?_setCells_out _ _ _ _ _ (fun _ _=>Or.inr (show o+(aB p).length≤j by omega))];have:=h.row j v (by rw[hf,List.getElem?_append_right (by omega),hqo,List.getElem?_append_right (by omega),hmp]; rw[List.getElem?_append_right (by omega)]at hj; exact hj)
   rwa [Nat.zero_add]at this
theorem fI {P:Program} {op:Oper} {a:Act} {w:World} {K:Act→World→Prop} {Q:Exit→Act→World→Prop} {t b o:Nat} {x y:Operand} {v:Value} {vs:List Value} (hop:op.op=.store t x y) (hd:op.dst=none) (hx:a.eval x=ptV b o) (hy:a.eval y=v) (hv:v.cells=vs.toArray) (h1:vs.all (·.oneCell')=true)
  (hi:(P.info? t).map (·.size)=some vs.length) (hth:w.there b o vs.length) (hK:K a (w.setCells b o vs)):op.wp P a w K Q:=by
 have hst:=run_storeVar_mid (P:=P) w b o t vs.toArray (by simpa using hth) (by simpa using hi) (by simpa using h1);have hrun:(execOp a.eval op).run P w=.ok .skip (w.setCells b o vs):=by
  have e:(storeVar t ⟨b,o,none⟩ v).run P w=.ok () (w.setCells b o vs):=by
   unfold storeVar at hst ⊢;rw[hv];exact hst
  simp[execOp,hop,Instr.storeAt,hx,hy,ptV,Instr.sureAddr,e]
 unfold Oper.wp;rw[hrun];show K _ _;rw[hd];exact hK
end Go.Proofs.YtpbljiejmfahcaaDoor.Ex
