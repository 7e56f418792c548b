/- Pd04 -/
import Derived.OrdersHeld
import Derived.Deep.RegionHeld
import Derived.KernelRfl
import Derived.Deep.DeepCutAuto
import Derived.Test.YtiginhbnaloghaaPd03
import Derived.Test.YtiginhbnaloghaaPd02
import Derived.Test.YtiginhbnaloghaaProg
set_option maxRecDepth 100000
set_option linter.unusedVariables false
set_option linter.unusedSimpArgs false
set_option linter.unnecessarySimpa false
noncomputable section
namespace Go.Proofs.Ytiginhbnaloghaa
open Go.Proofs.Try
open Go.RowKit
theorem Mem.row {w wr:World} {rs:List (Nat×Nat×Nat×Nat×Nat)} (h:Mem w wr rs) {b c0 c1 c2 c3:Nat} (hm:(b,c0,c1,c2,c3)∈rs):Row4 wr b c0 c1 c2 c3:=(h.2 _ hm).2
theorem Mem.lt {w wr:World} {rs:List (Nat×Nat×Nat×Nat×Nat)} (h:Mem w wr rs) {b c0 c1 c2 c3:Nat} (hm:(b,c0,c1,c2,c3)∈rs):b<wr.heap.size:=(h.2 _ hm).1
theorem vG {N k L:Nat} (hk:k<L):N/2^(L-(k+1))=2*(N/2^(L-k))+gE N (L-1-k):=by
 have:=pZ N (L-1-k);rw[show L-1-k+1=L-k by omega]at this;rw[show L-(k+1)=L-1-k by omega,this]
set_option maxHeartbeats 4000000 in
theorem nJ (F:FC) (hF:F.Ok) (A b a0 a1 a2 a3 n0 n1 n2 n3:Nat) (ha:bP a0 a1 a2 a3) (hn:bP n0 n1 n2 n3) (hA:aB a0 a1 a2 a3=kp F A) (w:World) (hk:KIs w b F) :
  Calls prog 95 #[.pointer (some ⟨b,0,none⟩),.agg #[.int .u64 a0,.int .u64 a1,.int .u64 a2,.int .u64 a3],.agg #[.int .u64 n0,.int .u64 n1,.int .u64 n2,.int .u64 n3]] w (dT (kp F (A^aB n0 n1 n2 n3)) w):=by
 have HK:=Lib.hid hk;have HF:=Lib.hid hF;have HA:=Lib.hid hA;have la:aB a0 a1 a2 a3<F.M:=by rw[hA]; exact TS hF _
 have hL:=hk.lt;have HLA:=Lib.hid la;clear hk hF hA la
 go_enter func95,ntmps95
 go_wp2_with fail;have M0:=((((Mem.nil w).new w.heap.size a0 a1 a2 a3 117 rfl).new (w.heap.size+1) n0 n1 n2 n3 85 (by simp)).new (w.heap.size+1+1) 0 0 0 0 117 (by simp));refine (DW F HF.out b _ (HK.out.same M0.1)).mono ?_
 rintro e w1 ⟨s0,s1,s2,s3,rfl,hs,hv,hbl⟩
 have M1:=M0.on hbl;have HV1:=Lib.hid hv;have hz1:w.heap.size+1+1<w1.heap.size:=M1.lt (c0:=0) (c1:=0) (c2:=0) (c3:=0) (by simp);have R1:=M1.row (b:=w.heap.size+1) (c0:=n0) (c1:=n1) (c2:=n2) (c3:=n3) (by simp);have x0:=R1.c0; have x1:=R1.c1; have x2:=R1.c2; have x3:=R1.c3;have lt1:w.heap.size+1<w1.heap.size:=by omega
 have M2:=Lib.hid (M1.new w1.heap.size s0 s1 s2 s3 117 rfl);clear hbl hv R1 M0 M1;go_wp2_with fail;refine (EC n0 n1 n2 n3 hn _).mono ?_
 rintro e w2 ⟨L,rfl,hL256,hLen,hbl⟩
 have HLen:=Lib.hid hLen;have M3:=Lib.hid (M2.out.on hbl);have hz2:w1.heap.size<w2.heap.size:=by have:=hbl.size; simp at this; omega
 clear hbl hLen x0 x1 x2 x3;go_wp2_with fail
 go_loopw [15] (fun i wr=>∃k r0 r1 r2 r3:Nat,k≤L∧i=.int .i64 k∧bP r0 r1 r2 r3∧Hid (aB r0 r1 r2 r3=kp F (A^(aB n0 n1 n2 n3/2^(L-k))))∧Hid (Mem w wr [(w1.heap.size,r0,r1,r2,r3),(w.heap.size+1+1,0,0,0,0),(w.heap.size+1,n0,n1,n2,n3),(w.heap.size,a0,a1,a2,a3)])) (fun i _=>L-(intOf i).toNat)
 case atStart =>
  refine⟨0,s0,s1,s2,s3,Nat.zero_le _,rfl,hs,Lib.hid ?_,M3⟩;rw[HV1.out,Nat.sub_zero,Nat.div_eq_of_lt HLen.out.1,Nat.pow_zero]
 case round =>
  obtain⟨k,r0,r1,r2,r3,hkL,rfl,hr,HV,HM⟩:=hrel;have hrl:aB r0 r1 r2 r3<F.M:=by rw[HV.out]; exact TS HF.out _
  by_cases hlt:k<L
  ·have Rr:=HM.out.row (b:=w1.heap.size) (c0:=r0) (c1:=r1) (c2:=r2) (c3:=r3) (by simp);have x0:=Rr.c0; have x1:=Rr.c1; have x2:=Rr.c2; have x3:=Rr.c3;have ltr:=HM.out.lt (b:=w1.heap.size) (c0:=r0) (c1:=r1) (c2:=r2) (c3:=r3) (by simp);have Hrl:=Lib.hid hrl;clear Rr hrl;go_wp2_with fail;refine (eL F HF.out b r0 r1 r2 r3 r0 r1 r2 r3 hr hr Hrl.out _ (HK.out.same HM.out.1)).mono ?_
   rintro e w3 ⟨p0,p1,p2,p3,rfl,hp,hv,hbl⟩
   have hv':aB p0 p1 p2 p3=kp F (A^(aB n0 n1 n2 n3/2^(L-k))*A^(aB n0 n1 n2 n3/2^(L-k))%F.M):=by rw[hv,HV.out,vU HF.out]
   have HP:=Lib.hid hv';have M4:=HM.out.on hbl;have lt4:=M4.lt (b:=w1.heap.size) (c0:=r0) (c1:=r1) (c2:=r2) (c3:=r3) (by simp);have Rr:=M4.row (b:=w1.heap.size) (c0:=r0) (c1:=r1) (c2:=r2) (c3:=r3) (by simp);have Rn:=M4.row (b:=w.heap.size+1) (c0:=n0) (c1:=n1) (c2:=n2) (c3:=n3) (by simp);have Ra:=M4.row (b:=w.heap.size) (c0:=a0) (c1:=a1) (c2:=a2) (c3:=a3) (by simp);have M5:=Lib.hid (M4.put p0 p1 p2 p3 (by omega) (by intro r hr; simp at hr; rcases hr with rfl|rfl|rfl<;>simp<;>omega));clear x0 x1 x2 x3 hv hv' hbl M4;have x0:=Rr.c0; have x1:=Rr.c1; have x2:=Rr.c2; have x3:=Rr.c3; have xf:=Rr.fr;have y0:=Rn.c0; have y1:=Rn.c1; have y2:=Rn.c2; have y3:=Rn.c3;have ne1:¬w.heap.size+1=w1.heap.size:=by omega
   have ne1':¬w1.heap.size=w.heap.size+1:=by omega
   clear Rr Rn Ra;obtain⟨L1,e1,hL1⟩:∃L1:Nat,(L:Int)-1=(L1:Int)∧L1+1=L:=⟨L-1,by omega,by omega⟩
   obtain⟨j,e2,hj⟩:∃j:Nat,(L1:Int)-(k:Int)=(j:Int)∧j+k=L1:=⟨L1-k,by omega,by omega⟩
   have hj256:j<256:=by omega
   have hjk:j=L-1-k:=by omega
   have HJ:=Lib.hid hjk;clear hjk;go_wp2_with fail;refine (ZO n0 n1 n2 n3 j hn hj256 _).mono ?_
   rintro e w4 ⟨he,hbl⟩
   have M5':=M5.out;unfold set4 at M5';have M6:=M5'.on hbl;clear hbl M5' x0 x1 x2 x3 xf y0 y1 y2 y3;have lt6:=M6.lt (b:=w1.heap.size) (c0:=p0) (c1:=p1) (c2:=p2) (c3:=p3) (by simp)
   rcases lZ (aB n0 n1 n2 n3) j with hb|hb
   ·rw[hb]at he;subst he;have HS:=Lib.hid (show aB p0 p1 p2 p3=kp F (A^(aB n0 n1 n2 n3/2^(L-(k+1)))) by
     rw[HP.out,vG hlt,←HJ.out,hb]; exact ((nM F A _ 0 (Or.inl rfl)).1 rfl).symm)
    have M7:=Lib.hid M6;clear hb M6;go_wp2_with fail
    go_roundw
    case rel=>exact⟨k+1,p0,p1,p2,p3,by omega,by go_num,hp,HS,M7⟩
    case measure=>simp[intOf]; omega
   ·rw[hb]at he;subst he;have Rr:=M6.row (b:=w1.heap.size) (c0:=p0) (c1:=p1) (c2:=p2) (c3:=p3) (by simp);have Ra:=M6.row (b:=w.heap.size) (c0:=a0) (c1:=a1) (c2:=a2) (c3:=a3) (by simp);have x0:=Rr.c0; have x1:=Rr.c1; have x2:=Rr.c2; have x3:=Rr.c3;have z0:=Ra.c0; have z1:=Ra.c1; have z2:=Ra.c2; have z3:=Ra.c3;have HB:=Lib.hid hb;have M7:=Lib.hid M6;clear hb M6 Rr Ra;go_wp2_with fail;refine (eL F HF.out b p0 p1 p2 p3 a0 a1 a2 a3 hp ha HLA.out _ (HK.out.same M7.out.1)).mono ?_
    rintro e w5 ⟨q0,q1,q2,q3,rfl,hq,hv,hbl⟩
    have hv':aB q0 q1 q2 q3=kp F (A^(aB n0 n1 n2 n3/2^(L-(k+1)))):=by
     rw[hv,HP.out,HA.out,vU HF.out,vG hlt,←HJ.out,HB.out]; exact ((nM F A _ 1 (Or.inr rfl)).2 rfl).symm
    have HS:=Lib.hid hv';have M8:=M7.out.on hbl;have lt8:=M8.lt (b:=w1.heap.size) (c0:=p0) (c1:=p1) (c2:=p2) (c3:=p3) (by simp);have Rr:=M8.row (b:=w1.heap.size) (c0:=p0) (c1:=p1) (c2:=p2) (c3:=p3) (by simp);have M9:=Lib.hid (M8.put q0 q1 q2 q3 (by omega) (by intro r hr; simp at hr; rcases hr with rfl|rfl|rfl<;>simp<;>omega));clear x0 x1 x2 x3 z0 z1 z2 z3 hv hv' hbl M8;have x0:=Rr.c0; have x1:=Rr.c1; have x2:=Rr.c2; have x3:=Rr.c3; have xf:=Rr.fr;clear Rr;go_wp2_with fail
    go_roundw
    case rel=>exact⟨k+1,q0,q1,q2,q3,by omega,by go_num,hq,HS,M9⟩
    case measure=>simp[intOf]; omega
  ·obtain rfl:k=L:=by omega
   have Rr:=HM.out.row (b:=w1.heap.size) (c0:=r0) (c1:=r1) (c2:=r2) (c3:=r3) (by simp);have x0:=Rr.c0; have x1:=Rr.c1; have x2:=Rr.c2; have x3:=Rr.c3;have Ro:=HM.out.row (b:=w.heap.size+1+1) (c0:=0) (c1:=0) (c2:=0) (c3:=0) (by simp);have o0:=Ro.c0; have o1:=Ro.c1; have o2:=Ro.c2; have o3:=Ro.c3; have of:=Ro.fr;have ltr:=HM.out.lt (b:=w1.heap.size) (c0:=r0) (c1:=r1) (c2:=r2) (c3:=r3) (by simp);have lto:=HM.out.lt (b:=w.heap.size+1+1) (c0:=0) (c1:=0) (c2:=0) (c3:=0) (by simp);clear Rr Ro hrl;go_wp2_with fail;refine bodyPost_ret (v:=.agg #[.int .u64 r0,.int .u64 r1,.int .u64 r2,.int .u64 r3]) (by simp[results,results95,go_sem, *]) rfl ?_;refine⟨_,_,_,_,rfl,hr,by rw[HV.out,Nat.sub_self,Nat.pow_zero,Nat.div_one],?_⟩;exact bI HM.out.1 (by omega) _ _ _ _
theorem KZ (d:Nat) (a0 a1 a2 a3 b0 b1 b2 b3:Nat) (w:World):(Op.equalIn (d+1+1) 25 (.agg #[.int .u64 a0,.int .u64 a1,.int .u64 a2,.int .u64 a3]) (.agg #[.int .u64 b0,.int .u64 b1,.int .u64 b2,.int .u64 b3])).run prog w=.ok (LA a0 a1 a2 a3 b0 b1 b2 b3) w:=by
 have h0:∀(x y:Int) (w:World),(Op.equalIn (d+1) 23 (.int .u64 x) (.int .u64 y)).run prog w=.ok (x==y) w:=fun x y w=>run_equalIn_int w d 23 .u64 .u64 x y underlying23
 rw[Op.equalIn];simp only[Sem.run_bind,run_underlying underlying25,Result.andThen_ok,Try.sizeOf23];simp[Std.Legacy.Range.forIn_eq_forIn_range',Std.Legacy.Range.size,List.range',part,h0,Sem.run_bind,Result.andThen_ok];unfold LA
 by_cases q0:a0=b0<;>by_cases q1:a1=b1<;>by_cases q2:a2=b2<;>by_cases q3:a3=b3<;>simp[q0,q1,q2,q3]<;>omega
theorem Mem.drew {w wr:World} {rs:List (Nat×Nat×Nat×Nat×Nat)} (h:Mem w wr rs):Mem w wr.drew rs :=
 ⟨h.1.drew,fun r hr=>⟨(h.2 r hr).1,⟨(h.2 r hr).2.c0,(h.2 r hr).2.c1,(h.2 r hr).2.c2,(h.2 r hr).2.c3,(h.2 r hr).2.fr⟩⟩⟩
theorem LC:prog.eqGuardType prog.depth 25=false:=by kernel_rfl
set_option maxHeartbeats 1000000 in
theorem pK (F:FC) (hF:F.Ok) (A b a0 a1 a2 a3:Nat) (ha:bP a0 a1 a2 a3) (hA:aB a0 a1 a2 a3=kp F A) (w:World) (hk:KIs w b F) :
  Calls prog 106 #[.pointer (some ⟨b,0,none⟩),.agg #[.int .u64 a0,.int .u64 a1,.int .u64 a2,.int .u64 a3]] w (dT (kp F (A^(F.M-2))) w):=by
 have HK:=Lib.hid hk;have HF:=Lib.hid hF;have HA:=Lib.hid hA;have hL:=hk.lt;have hL1:b<w.heap.size+1:=by omega
 have k0:=hk.k0; have k1:=hk.k1; have k2:=hk.k2; have k3:=hk.k3;clear hk hF hA
 go_enter func106,ntmps106
 go_wp2_with fail;have M0:=(((Mem.nil w).new w.heap.size a0 a1 a2 a3 117 rfl).new (w.heap.size+1) 0 0 0 0 117 (by simp));refine (qS F.m0 F.m1 F.m2 F.m3 2 0 0 0 HF.out.okm ⟨by omega,by omega,by omega,by omega⟩ _).mono ?_
 rintro e w1 ⟨n0,n1,n2,n3,c,rfl,hn,hc,hv,hbl⟩
 have hv':aB n0 n1 n2 n3=F.M-2:=by
  have e2:aB 2 0 0 0=2:=rfl;have:=cP hn; have:=HF.out.gt; have:=HF.out.two;rw[e2,show aB F.m0 F.m1 F.m2 F.m3=F.M from rfl]at hv;omega
 have HV:=Lib.hid hv';have M1:=M0.on hbl;have hz1:w.heap.size+1<w1.heap.size:=M1.lt (c0:=0) (c1:=0) (c2:=0) (c3:=0) (by simp);have R1:=M1.row (b:=w.heap.size) (c0:=a0) (c1:=a1) (c2:=a2) (c3:=a3) (by simp);have x0:=R1.c0; have x1:=R1.c1; have x2:=R1.c2; have x3:=R1.c3;have lt1:w.heap.size<w1.heap.size:=by omega
 have M2:=Lib.hid (M1.new w1.heap.size n0 n1 n2 n3 85 rfl);clear hbl hv hv' R1 M0 M1 k0 k1 k2 k3;go_wp2_with fail;refine (nJ F HF.out A b a0 a1 a2 a3 n0 n1 n2 n3 ha hn HA.out _ (HK.out.same M2.out.1)).mono ?_
 rintro e w2 ⟨s0,s1,s2,s3,rfl,hs,hv,hbl⟩
 have HVs:=Lib.hid hv;have M3:=Lib.hid (M2.out.on hbl);have Ro:=M3.out.row (b:=w.heap.size+1) (c0:=0) (c1:=0) (c2:=0) (c3:=0) (by simp);have o0:=Ro.c0; have o1:=Ro.c1; have o2:=Ro.c2; have o3:=Ro.c3; have of:=Ro.fr;have lto:=M3.out.lt (b:=w.heap.size+1) (c0:=0) (c1:=0) (c2:=0) (c3:=0) (by simp);clear hbl hv Ro x0 x1 x2 x3;go_wp2_with fail;refine bodyPost_ret (v:=.agg #[.int .u64 s0,.int .u64 s1,.int .u64 s2,.int .u64 s3]) (by simp[results,results106,go_sem, *]) rfl ?_;refine⟨_,_,_,_,rfl,hs,by rw[HVs.out,HV.out],?_⟩;exact bI M3.out.1 (by omega) _ _ _ _
theorem Cb (a0 a1 a2 a3:Nat) (n:Int) (ha:bP a0 a1 a2 a3) (h0:0<n) (hq:n/64=0) (w:World) :
  Calls prog 76 #[.agg #[.int .u64 a0,.int .u64 a1,.int .u64 a2,.int .u64 a3],.int .i64 n] w (gG (fun v=>v=aB a0 a1 a2 a3/2^n.toNat) w):=by
 obtain⟨p,hr,hp,en⟩:=RE (by omega) 0 hq (by omega);have b1:n<256:=by omega
 have t0:decide (n≤0)=false:=decide_eq_false (by omega);obtain⟨lo0,up0,u0,d0,bl0,bu0,e0,g0,m0⟩:=fK (a:=a0) (p:=p) ha.1 hp;obtain⟨lo1,up1,u1,d1,bl1,bu1,e1,g1,m1⟩:=fK (a:=a1) (p:=p) ha.2.1 hp;obtain⟨lo2,up2,u2,d2,bl2,bu2,e2,g2,m2⟩:=fK (a:=a2) (p:=p) ha.2.2.1 hp;obtain⟨lo3,up3,u3,d3,bl3,bu3,e3,g3,m3⟩:=fK (a:=a3) (p:=p) ha.2.2.2 hp;obtain⟨s0,o0,bs0,f0⟩:=lF bl0 bu1 g0 m1;obtain⟨s1,o1,bs1,f1⟩:=lF bl1 bu2 g1 m2;obtain⟨s2,o2,bs2,f2⟩:=lF bl2 bu3 g2 m3;have HF:Hid (aB s0 s1 s2 lo3=aB a0 a1 a2 a3/2^n.toNat):=Lib.hid (by
  rw[en,vH,←Nat.div_div_eq_div_mul];have hq':aB a0 a1 a2 a3/18446744073709551616^((0:Int)).toNat=aB a0 a1 a2 a3:=by
   rw[show 18446744073709551616^((0:Int)).toNat=1 by simp];obtain⟨k0,k1,k2,k3⟩:=ha;unfold aB; omega
  rw[hq'];obtain⟨v0,x0,y0,z0⟩:=e0.out;obtain⟨v1,x1,y1,z1⟩:=e1.out;obtain⟨v2,x2,y2,z2⟩:=e2.out;obtain⟨v3,x3,y3,z3⟩:=e3.out;have f0:=f0.out;have f1:=f1.out;have f2:=f2.out;refine oF (m:=v0) ?_ y0;have hD:aB s0 s1 s2 lo3*2^p=1*(s0*2^p)+18446744073709551616*(s1*2^p)+340282366920938463463374607431768211456*(s2*2^p)+6277101735386680763835789423207666416102355444464034512896*(lo3*2^p):=by
   unfold aB; simp only[Nat.add_mul,Nat.mul_add,Nat.mul_assoc,Nat.mul_zero,Nat.zero_mul,Nat.add_zero]; omega
  rw[hD];have k0:s0*2^p=lo0*2^p+up1*2^p:=by rw[f0,Nat.add_mul]
  have k1:s1*2^p=lo1*2^p+up2*2^p:=by rw[f1,Nat.add_mul]
  have k2:s2*2^p=lo2*2^p+up3*2^p:=by rw[f2,Nat.add_mul]
  unfold aB;omega)
 clear e0 g0 m0 e1 g1 m1 e2 g2 m2 e3 g3 m3 f0 f1 f2;have HEN:=Lib.hid en;clear en
 go_enter func76,ntmps76
 go_wp2_with fail;refine wp_loop_rounds 5 ?_;rw[rounds_succ];go_wp2_with fail
 go_region
 go_wp2_with fail;rw[rounds_succ];go_wp2_with fail
 go_region
 go_wp2_with fail;rw[rounds_succ];go_wp2_with fail
 go_region
 go_wp2_with fail;rw[rounds_succ];go_wp2_with fail;rw[rounds_succ];go_wp2_with fail;refine bodyPost_ret (v:=.agg #[.int .u64 s0,.int .u64 s1,.int .u64 s2,.int .u64 lo3]) (by simp[results,results76,go_sem]) rfl ?_;refine⟨s0,s1,s2,lo3,rfl,⟨bs0,bs1,bs2,bl3⟩,HF.out,?_⟩
 repeat (first|exact Below.refl _ _|refine Below.drew ?_|refine Below.alloc ?_ (by first|(simp; done)|(simp; omega)) _)
theorem Ca (a0 a1 a2 a3:Nat) (n:Int) (ha:bP a0 a1 a2 a3) (h0:0<n) (hq:n/64=1) (w:World) :
  Calls prog 76 #[.agg #[.int .u64 a0,.int .u64 a1,.int .u64 a2,.int .u64 a3],.int .i64 n] w (gG (fun v=>v=aB a0 a1 a2 a3/2^n.toNat) w):=by
 obtain⟨p,hr,hp,en⟩:=RE (by omega) 1 hq (by omega);have b1:n<256:=by omega
 have t0:decide (n≤0)=false:=decide_eq_false (by omega);obtain⟨lo1,up1,u1,d1,bl1,bu1,e1,g1,m1⟩:=fK (a:=a1) (p:=p) ha.2.1 hp;obtain⟨lo2,up2,u2,d2,bl2,bu2,e2,g2,m2⟩:=fK (a:=a2) (p:=p) ha.2.2.1 hp;obtain⟨lo3,up3,u3,d3,bl3,bu3,e3,g3,m3⟩:=fK (a:=a3) (p:=p) ha.2.2.2 hp;obtain⟨s1,o1,bs1,f1⟩:=lF bl1 bu2 g1 m2;obtain⟨s2,o2,bs2,f2⟩:=lF bl2 bu3 g2 m3;have HF:Hid (aB s1 s2 lo3 0=aB a0 a1 a2 a3/2^n.toNat):=Lib.hid (by
  rw[en,vH,←Nat.div_div_eq_div_mul];have hq':aB a0 a1 a2 a3/18446744073709551616^((1:Int)).toNat=aB a1 a2 a3 0:=by
   rw[show 18446744073709551616^((1:Int)).toNat=18446744073709551616 by simp];obtain⟨k0,k1,k2,k3⟩:=ha;unfold aB; omega
  rw[hq'];obtain⟨v1,x1,y1,z1⟩:=e1.out;obtain⟨v2,x2,y2,z2⟩:=e2.out;obtain⟨v3,x3,y3,z3⟩:=e3.out;have f1:=f1.out;have f2:=f2.out;refine oF (m:=v1) ?_ y1;have hD:aB s1 s2 lo3 0*2^p=1*(s1*2^p)+18446744073709551616*(s2*2^p)+340282366920938463463374607431768211456*(lo3*2^p):=by
   unfold aB; simp only[Nat.add_mul,Nat.mul_add,Nat.mul_assoc,Nat.mul_zero,Nat.zero_mul,Nat.add_zero]; omega
  rw[hD];have k1:s1*2^p=lo1*2^p+up2*2^p:=by rw[f1,Nat.add_mul]
  have k2:s2*2^p=lo2*2^p+up3*2^p:=by rw[f2,Nat.add_mul]
  unfold aB;omega)
 clear e1 g1 m1 e2 g2 m2 e3 g3 m3 f1 f2;have HEN:=Lib.hid en;clear en
 go_enter func76,ntmps76
 go_wp2_with fail;refine wp_loop_rounds 4 ?_;rw[rounds_succ];go_wp2_with fail
 go_region
 go_wp2_with fail;rw[rounds_succ];go_wp2_with fail
 go_region
 go_wp2_with fail;rw[rounds_succ];go_wp2_with fail;rw[rounds_succ];go_wp2_with fail;refine bodyPost_ret (v:=.agg #[.int .u64 s1,.int .u64 s2,.int .u64 lo3,.int .u64 0]) (by simp[results,results76,go_sem]) rfl ?_;refine⟨s1,s2,lo3,0,rfl,⟨bs1,bs2,bl3,(by omega)⟩,HF.out,?_⟩
 repeat (first|exact Below.refl _ _|refine Below.drew ?_|refine Below.alloc ?_ (by first|(simp; done)|(simp; omega)) _)
theorem Bz (a0 a1 a2 a3:Nat) (n:Int) (ha:bP a0 a1 a2 a3) (h0:0<n) (hq:n/64=2) (w:World) :
  Calls prog 76 #[.agg #[.int .u64 a0,.int .u64 a1,.int .u64 a2,.int .u64 a3],.int .i64 n] w (gG (fun v=>v=aB a0 a1 a2 a3/2^n.toNat) w):=by
 obtain⟨p,hr,hp,en⟩:=RE (by omega) 2 hq (by omega);have b1:n<256:=by omega
 have t0:decide (n≤0)=false:=decide_eq_false (by omega);obtain⟨lo2,up2,u2,d2,bl2,bu2,e2,g2,m2⟩:=fK (a:=a2) (p:=p) ha.2.2.1 hp;obtain⟨lo3,up3,u3,d3,bl3,bu3,e3,g3,m3⟩:=fK (a:=a3) (p:=p) ha.2.2.2 hp;obtain⟨s2,o2,bs2,f2⟩:=lF bl2 bu3 g2 m3;have HF:Hid (aB s2 lo3 0 0=aB a0 a1 a2 a3/2^n.toNat):=Lib.hid (by
  rw[en,vH,←Nat.div_div_eq_div_mul];have hq':aB a0 a1 a2 a3/18446744073709551616^((2:Int)).toNat=aB a2 a3 0 0:=by
   rw[show 18446744073709551616^((2:Int)).toNat=340282366920938463463374607431768211456 by simp];obtain⟨k0,k1,k2,k3⟩:=ha;unfold aB; omega
  rw[hq'];obtain⟨v2,x2,y2,z2⟩:=e2.out;obtain⟨v3,x3,y3,z3⟩:=e3.out;have f2:=f2.out;refine oF (m:=v2) ?_ y2;have hD:aB s2 lo3 0 0*2^p=1*(s2*2^p)+18446744073709551616*(lo3*2^p):=by
   unfold aB; simp only[Nat.add_mul,Nat.mul_add,Nat.mul_assoc,Nat.mul_zero,Nat.zero_mul,Nat.add_zero]; omega
  rw[hD];have k2:s2*2^p=lo2*2^p+up3*2^p:=by rw[f2,Nat.add_mul]
  unfold aB;omega)
 clear e2 g2 m2 e3 g3 m3 f2;have HEN:=Lib.hid en;clear en
 go_enter func76,ntmps76
 go_wp2_with fail;refine wp_loop_rounds 3 ?_;rw[rounds_succ];go_wp2_with fail
 go_region
 go_wp2_with fail;rw[rounds_succ];go_wp2_with fail;rw[rounds_succ];go_wp2_with fail;refine bodyPost_ret (v:=.agg #[.int .u64 s2,.int .u64 lo3,.int .u64 0,.int .u64 0]) (by simp[results,results76,go_sem]) rfl ?_;refine⟨s2,lo3,0,0,rfl,⟨bs2,bl3,(by omega),(by omega)⟩,HF.out,?_⟩
 repeat (first|exact Below.refl _ _|refine Below.drew ?_|refine Below.alloc ?_ (by first|(simp; done)|(simp; omega)) _)
theorem By (a0 a1 a2 a3:Nat) (n:Int) (ha:bP a0 a1 a2 a3) (h0:0<n) (hq:n/64=3) (w:World) :
  Calls prog 76 #[.agg #[.int .u64 a0,.int .u64 a1,.int .u64 a2,.int .u64 a3],.int .i64 n] w (gG (fun v=>v=aB a0 a1 a2 a3/2^n.toNat) w):=by
 obtain⟨p,hr,hp,en⟩:=RE (by omega) 3 hq (by omega);have b1:n<256:=by omega
 have t0:decide (n≤0)=false:=decide_eq_false (by omega);obtain⟨lo3,up3,u3,d3,bl3,bu3,e3,g3,m3⟩:=fK (a:=a3) (p:=p) ha.2.2.2 hp;have HF:Hid (aB lo3 0 0 0=aB a0 a1 a2 a3/2^n.toNat):=Lib.hid (by
  rw[en,vH,←Nat.div_div_eq_div_mul];have hq':aB a0 a1 a2 a3/18446744073709551616^((3:Int)).toNat=aB a3 0 0 0:=by
   rw[show 18446744073709551616^((3:Int)).toNat=6277101735386680763835789423207666416102355444464034512896 by simp];obtain⟨k0,k1,k2,k3⟩:=ha;unfold aB; omega
  rw[hq'];obtain⟨v3,x3,y3,z3⟩:=e3.out;refine oF (m:=v3) ?_ y3;have hD:aB lo3 0 0 0*2^p=1*(lo3*2^p):=by
   unfold aB; simp only[Nat.add_mul,Nat.mul_add,Nat.mul_assoc,Nat.mul_zero,Nat.zero_mul,Nat.add_zero]; omega
  rw[hD];unfold aB;omega)
 clear e3 g3 m3;have HEN:=Lib.hid en;clear en
 go_enter func76,ntmps76
 go_wp2_with fail;refine wp_loop_rounds 2 ?_;rw[rounds_succ];go_wp2_with fail;rw[rounds_succ];go_wp2_with fail;refine bodyPost_ret (v:=.agg #[.int .u64 lo3,.int .u64 0,.int .u64 0,.int .u64 0]) (by simp[results,results76,go_sem]) rfl ?_;refine⟨lo3,0,0,0,rfl,⟨bl3,(by omega),(by omega),(by omega)⟩,HF.out,?_⟩
 repeat (first|exact Below.refl _ _|refine Below.drew ?_|refine Below.alloc ?_ (by first|(simp; done)|(simp; omega)) _)
theorem HL (a0 a1 a2 a3:Nat) (n:Int) (ha:bP a0 a1 a2 a3) (h0:n≤0) (w:World) :
  Calls prog 76 #[.agg #[.int .u64 a0,.int .u64 a1,.int .u64 a2,.int .u64 a3],.int .i64 n] w (gG (fun v=>v=aB a0 a1 a2 a3) w):=by
 have t0:decide (n≤0)=true:=decide_eq_true h0
 go_enter func76,ntmps76
 go_wp2_with fail;refine bodyPost_ret (v:=.agg #[.int .u64 a0,.int .u64 a1,.int .u64 a2,.int .u64 a3]) (by simp[results,results76,go_sem]) rfl ?_;refine⟨a0,a1,a2,a3,rfl,ha,rfl,?_⟩
 repeat (first|exact Below.refl _ _|refine Below.drew ?_|refine Below.alloc ?_ (by first|(simp; done)|(simp; omega)) _)
theorem NK (a0 a1 a2 a3:Nat) (n:Int) (ha:bP a0 a1 a2 a3) (h0:256≤n) (h1:n≤9223372036854775807) (w:World) :
  Calls prog 76 #[.agg #[.int .u64 a0,.int .u64 a1,.int .u64 a2,.int .u64 a3],.int .i64 n] w (gG (fun v=>v=0) w):=by
 have t0:decide (n≤0)=false:=decide_eq_false (by omega);obtain⟨q,hq,bq,bq'⟩:∃q:Nat,n/64=(q:Int)∧4≤q∧q≤9223372036854775807:=⟨(n/64).toNat,by omega,by omega,by omega⟩
 have t1:decide ((0:Int)<4-(q:Int))=false:=decide_eq_false (by omega)
 go_enter func76,ntmps76
 go_wp2_with fail;refine wp_loop_rounds 1 ?_;rw[rounds_succ];go_wp2_with fail;refine bodyPost_ret (v:=.agg #[.int .u64 0,.int .u64 0,.int .u64 0,.int .u64 0]) (by simp[results,results76,go_sem]) rfl ?_;refine⟨0,0,0,0,rfl,⟨by omega,by omega,by omega,by omega⟩,rfl,?_⟩
 repeat (first|exact Below.refl _ _|refine Below.drew ?_|refine Below.alloc ?_ (by first|(simp; done)|(simp; omega)) _)
theorem CZ (a0 a1 a2 a3:Nat) (n:Int) (ha:bP a0 a1 a2 a3) (h0:0≤n) (h1:n≤9223372036854775807) (w:World) :
  Calls prog 76 #[.agg #[.int .u64 a0,.int .u64 a1,.int .u64 a2,.int .u64 a3],.int .i64 n] w (gG (fun v=>v=aB a0 a1 a2 a3/2^n.toNat) w):=by
 by_cases hz:n≤0
 ·refine (HL a0 a1 a2 a3 n ha hz w).mono ?_
  rintro e w' ⟨s0,s1,s2,s3,he,hs,hv,hb⟩
  refine⟨s0,s1,s2,s3,he,hs,?_,hb⟩;have:=cP ha;rw[hv,show n.toNat=0 by omega,Nat.pow_zero]; omega
 ·by_cases hf:256≤n
  ·refine (NK a0 a1 a2 a3 n ha hf h1 w).mono ?_
   rintro e w' ⟨s0,s1,s2,s3,he,hs,hv,hb⟩
   refine⟨s0,s1,s2,s3,he,hs,?_,hb⟩;rw[hv];have hp:=Nat.pow_le_pow_right (show 0<2 by omega) (show 256≤n.toNat by omega);have:=cP ha;exact (Nat.div_eq_of_lt (Nat.lt_of_lt_of_le this hp)).symm
  ·have hq:n/64=0∨n/64=1∨n/64=2∨n/64=3:=by omega
   rcases hq with h|h|h|h
   ·exact Cb a0 a1 a2 a3 n ha (by omega) h w
   ·exact Ca a0 a1 a2 a3 n ha (by omega) h w
   ·exact Bz a0 a1 a2 a3 n ha (by omega) h w
   ·exact By a0 a1 a2 a3 n ha (by omega) h w
section
variable {P:Program} {ops:Array Oper} {Q:Exit→Act→World→Prop} {md:Region.Mode} {S:World→Prop} {L:Nat}
def eB (P:Program) (md:Region.Mode) (ops:Array Oper) (Q:Exit→Act→World→Prop) (S:World→Prop) (L:Nat):Nat→Array Bool→Act→World→Prop
 | 0,got,a,w=>Region.ready md ops got=[]∧Q .normal a w
 | m+1,got,a,w =>
  (Region.ready md ops got=[]→Q .normal a w) ∧
  ∀i∈Region.ready md ops got,wpOp P ops Q i (fun b u=>(i=L∨S u)∧eB P md ops Q S L m (got.setIfInBounds i true) b u) a w
theorem nS:∀(m:Nat) (got:Array Bool) (a:Act) (w:World),eB P md ops Q S L m got a w→wpAny P md ops Q m got a w
 | 0,_,_,_,h=>h
 | m+1,_,_,_,h=>⟨h.1,fun i hi=>wpOp_mono (fun b u k=>nS m _ b u k.2) (h.2 i hi)⟩
def FX (md:Region.Mode) (ops:Array Oper) (L i:Nat):Bool :=
 match ops[L]? with
 | some o=>o.after.any fun e=>Region.binds md e&&e.on==i
 | none=>false
theorem xR {i:Nat} {oi:Oper} {v:Value} (hi:ops[i]?=some oi) (hsel:∀(j:Nat) (o:Oper) cs b,ops[j]?=some o→o.op ≠ .select cs b)
  (hL:FX md ops L i=true) (hQ:∀c a w,Q (.panic c) (a.put oi.dst v) w→Q (.panic c) a w) :
  ∀(m:Nat) (got:Array Bool) (a:Act) (w:World),
   (∀j oj,ops[j]?=some oj→j≠i→got.getD j true=false→(∀e∈oj.after,Region.binds md e=true→e.on≠i)→oi.apart ops oj=true) →
   i∈Region.ready md ops got→YieldsIf P ops S oi v a→S w →
   eB P md ops Q S L m (got.setIfInBounds i true) (a.put oi.dst v) w→eB P md ops Q S L (m+1) got a w:=by
 intro m
 induction m with
 | zero =>
  intro got a w _ hr hy hS H;refine⟨fun h=>(by rw[h]at hr; cases hr),fun j hj => ?_⟩
  by_cases hji:j=i
  ·subst hji; exact hy.wpOp hi hS ⟨.inr hS,H⟩
  ·have:=ready_mono hj hji;rw[H.1]at this;cases this
 | succ m ih =>
  intro got a w hfree hr hy hS H;refine⟨fun h=>(by rw[h]at hr; cases hr),fun j hj => ?_⟩
  by_cases hji:j=i
  ·subst hji; exact hy.wpOp hi hS ⟨.inr hS,H⟩
  ·obtain⟨hun,oj,hoj,hall⟩:=mem_ready.1 hj;have hno:∀e∈oj.after,Region.binds md e=true→e.on≠i:=fun e he hb heq=>by
    have h1:=hall e he hb;have h0:=(mem_ready.1 hr).1;rw[heq]at h1
    rcases Nat.lt_or_ge i got.size with h'|h'
    ·simp[h']at h0 h1; rw[h0]at h1; cases h1
    ·simp[Array.getElem?_eq_none h']at h1
   have hjL:j≠L:=fun e=>by
    subst e;unfold FX at hL;rw[hoj]at hL;obtain⟨x,hx,hx2⟩:=Array.any_eq_true'.1 hL;simp only[Bool.and_eq_true,beq_iff_eq]at hx2;exact hno x hx hx2.1 hx2.2
   have h2:=wpOp_putIf hoj (hfree j oj hoj hji hun hno) (fun cs b=>hsel i oi cs b hi) (fun cs b=>hsel j oj cs b hoj) hQ hy (H.2 j (ready_mono hj hji));have hfree':∀k ok,ops[k]?=some ok→k≠i→(got.setIfInBounds j true).getD k true=false →
     (∀e∈ok.after,Region.binds md e=true→e.on≠i)→oi.apart ops ok=true:=fun k ok hk hki hu hn=>by
    refine hfree k ok hk hki ?_ hn
    by_cases hjk:j=k
    ·subst hjk; exact hun
    ·rw[getD_set_ne true hjk]at hu; exact hu
   refine wpOp_mono (fun b u h3=>⟨h3.2.1,ih (got.setIfInBounds j true) b u hfree' (ready_mono hr (Ne.symm hji)) h3.1 (h3.2.1.resolve_left hjL) ?_⟩) h2;rw[Array.setIfInBounds_comm _ _ hji];exact h3.2.2
theorem aH {i:Nat} {oi:Oper} {v:Value} {m:Nat} {got:Array Bool} {a:Act} {w:World} (hi:ops[i]?=some oi)
  (hs:Region.noSelect ops=true) (hf:Region.free md ops got i=true) (hr:(Region.ready md ops got).contains i=true) (hL:FX md ops L i=true)
  (hQ:∀c a w,Q (.panic c) (a.put oi.dst v) w→Q (.panic c) a w) (hS:S w) (hy:YieldsIf P ops S oi v a)
  (h:eB P md ops Q S L m (got.setIfInBounds i true) (a.put oi.dst v) w):eB P md ops Q S L (m+1) got a w :=
 xR hi (Region.noSelect_spec hs) hL hQ m got a w (Region.free_spec hi hf) (by simpa using hr) hy hS h
theorem aI {i:Nat} {o:Oper} {m:Nat} {got:Array Bool} {a:Act} {w:World} (hr:Region.ready md ops got=[i]) (ho:ops[i]?=some o)
  (h:∀K:Act→World→Prop,Shut (∀b u,(i=L∨S u)→((i=L∨S u)→eB P md ops Q S L m (got.setIfInBounds i true) b u)→K b u)→if Region.wanted o (yielded ops a.tmps)=true then Oper.wp P o a w K Q else K (a.put o.dst undef) w) :
  eB P md ops Q S L (m+1) got a w :=
 ⟨fun h0=>(by rw[hr]at h0; cases h0),fun j hj=>by
  rw[hr]at hj;obtain rfl:j=i:=by simpa using hj
  exact wpOp_step ho (fun K hK=>h K (fun b u hS hW=>hK b u ⟨hS,hW hS⟩))⟩
theorem cG {got:Array Bool} {a:Act} {w:World} (hr:Region.ready md ops got=[]) (h:Q .normal a w):eB P md ops Q S L 0 got a w:=⟨hr,h⟩
theorem cW (S:World→Prop) (L:Nat) {id:Nat} {a:Act} {w:World} (hm:P.follows .mixedOrders=true)
  (h:eB P .any ops Q S L ops.size (Array.replicate ops.size false) a w.drew):(Code.region id ops true).wp P Q a w :=
 wp_region_any hm (nS _ _ _ _ h)
end
theorem jF {P:Program} {ops:Array Oper} {Q:Exit→Act→World→Prop} {md:Region.Mode} {S:World→Prop} {L:Nat} {i j:Nat} {oi oj:Oper} {m:Nat} {got:Array Bool} {a:Act} {w:World} (hr:Region.ready md ops got=[i,j]) (hoi:ops[i]?=some oi) (hoj:ops[j]?=some oj)
  (h1:∀K:Act→World→Prop,Shut (∀b u,(i=L∨S u)→((i=L∨S u)→eB P md ops Q S L m (got.setIfInBounds i true) b u)→K b u)→if Region.wanted oi (yielded ops a.tmps)=true then Oper.wp P oi a w K Q else K (a.put oi.dst undef) w)
  (h2:∀K:Act→World→Prop,Shut (∀b u,(j=L∨S u)→((j=L∨S u)→eB P md ops Q S L m (got.setIfInBounds j true) b u)→K b u)→if Region.wanted oj (yielded ops a.tmps)=true then Oper.wp P oj a w K Q else K (a.put oj.dst undef) w) :
  eB P md ops Q S L (m+1) got a w :=
 ⟨fun h0=>(by rw[hr]at h0; cases h0),fun k hk=>by
  rw[hr]at hk
  rcases List.mem_cons.1 hk with rfl|hk
  ·exact wpOp_step hoi (fun K hK=>h1 K (fun b u hS hW=>hK b u ⟨hS,hW hS⟩))
  ·obtain rfl:k=j:=by simpa using hk
   exact wpOp_step hoj (fun K hK=>h2 K (fun b u hS hW=>hK b u ⟨hS,hW hS⟩))⟩
def FieldIs (f:Int) (F:FC):Prop:=f=1∧F=FP∨f=2∧F=FR
theorem FieldIs.ok {f:Int} {F:FC} (h:FieldIs f F):F.Ok:=by rcases h with⟨_,rfl⟩|⟨_,rfl⟩; exact Ic; exact Ib
theorem FieldIs.root {f:Int} {F:FC} (h:FieldIs f F):∃g,Root F.M g:=by
 rcases h with⟨_,rfl⟩|⟨_,rfl⟩
 ·exact⟨3,by rw[Lm]; exact VW⟩
 ·exact⟨5,by rw[Ll]; exact VV⟩
def Ln (f:Int) (A:Nat) (c:Int):Prop:=f≠1∧f≠2∧c=1∨∃F,FieldIs f F∧¬A<F.M∧c=21
def UI (c:Int) (V:Nat) (w:World) (e:Ending) (w':World):Prop :=
 ∃s0 s1 s2 s3:Nat,e=.returned (.tuple #[.agg #[.int .u64 s0,.int .u64 s1,.int .u64 s2,.int .u64 s3],.int .i64 c])∧bP s0 s1 s2 s3∧aB s0 s1 s2 s3=V∧Below w.heap.size w w'
theorem Aq:bP 0 0 0 0:=⟨by omega,by omega,by omega,by omega⟩
theorem KIs.new (w:World) (F:FC) (t:TypeId):KIs (w.alloc (.cells #[.int .u64 F.m0,.int .u64 F.m1,.int .u64 F.m2,.int .u64 F.m3,.int .u64 F.inv,.int .u64 F.s0,.int .u64 F.s1,.int .u64 F.s2,.int .u64 F.s3] t)) w.heap.size F :=
 ⟨by rw[World.cell?_alloc_new]; rfl,by rw[World.cell?_alloc_new]; rfl,by rw[World.cell?_alloc_new]; rfl,by rw[World.cell?_alloc_new]; rfl,by rw[World.cell?_alloc_new]; rfl,by rw[World.cell?_alloc_new]; rfl,by rw[World.cell?_alloc_new]; rfl,by rw[World.cell?_alloc_new]; rfl,by rw[World.cell?_alloc_new]; rfl,by simp⟩
set_option maxHeartbeats 2000000 in
theorem eO (f:Int) (F:FC) (hf:FieldIs f F) (w:World):Calls prog 91 #[.int .i64 f] w fun e w'=>e=.returned (.tuple #[.agg #[.int .u64 F.m0,.int .u64 F.m1,.int .u64 F.m2,.int .u64 F.m3,.int .u64 F.inv,.int .u64 F.s0,.int .u64 F.s1,.int .u64 F.s2,.int .u64 F.s3],.int .i64 0])∧Below w.heap.size w w':=by
 rcases hf with⟨rfl,rfl⟩|⟨rfl,rfl⟩
 ·go_enter func91,ntmps91
  go_wp2_with fail;refine bodyPost_ret (v:=.tuple #[.agg #[.int .u64 FP.m0,.int .u64 FP.m1,.int .u64 FP.m2,.int .u64 FP.m3,.int .u64 FP.inv,.int .u64 FP.s0,.int .u64 FP.s1,.int .u64 FP.s2,.int .u64 FP.s3],.int .i64 0]) (by simp[results,results91,go_sem,FP]) rfl ?_;refine⟨rfl,?_⟩
  repeat (first|exact Below.refl _ _|refine Below.drew ?_|refine Below.alloc ?_ (by first|(simp; done)|(simp; omega)) _|refine Below.setCell ?_ (by simp) _)
 ·go_enter func91,ntmps91
  go_wp2_with fail;refine bodyPost_ret (v:=.tuple #[.agg #[.int .u64 FR.m0,.int .u64 FR.m1,.int .u64 FR.m2,.int .u64 FR.m3,.int .u64 FR.inv,.int .u64 FR.s0,.int .u64 FR.s1,.int .u64 FR.s2,.int .u64 FR.s3],.int .i64 0]) (by simp[results,results91,go_sem,FR]) rfl ?_;refine⟨rfl,?_⟩
  repeat (first|exact Below.refl _ _|refine Below.drew ?_|refine Below.alloc ?_ (by first|(simp; done)|(simp; omega)) _|refine Below.setCell ?_ (by simp) _)
set_option maxHeartbeats 2000000 in
theorem ES (f:Int) (h1:f≠1) (h2:f≠2) (w:World):Calls prog 91 #[.int .i64 f] w fun e w'=>e=.returned (.tuple #[.agg #[.int .u64 0,.int .u64 0,.int .u64 0,.int .u64 0,.int .u64 0,.int .u64 0,.int .u64 0,.int .u64 0,.int .u64 0],.int .i64 1])∧Below w.heap.size w w':=by
 have t1:(f==1)=false:=by simp[h1]
 have t2:(f==2)=false:=by simp[h2]
 go_enter func91,ntmps91
 go_wp2_with fail;refine bodyPost_ret (v:=.tuple #[.agg #[.int .u64 0,.int .u64 0,.int .u64 0,.int .u64 0,.int .u64 0,.int .u64 0,.int .u64 0,.int .u64 0,.int .u64 0],.int .i64 1]) (by simp[results,results91,go_sem]) rfl ?_;refine⟨rfl,?_⟩
 repeat (first|exact Below.refl _ _|refine Below.drew ?_|refine Below.alloc ?_ (by first|(simp; done)|(simp; omega)) _|refine Below.setCell ?_ (by simp) _)
theorem uX (w:World):Calls prog 93 #[.int .i64 1] w fun e w'=>e=.returned (.int .i64 1)∧w'=w:=by
 go_enter func93,ntmps93
 go_wp2_with fail;go_ret;exact⟨rfl,rfl⟩
theorem uW (w:World):Calls prog 93 #[.int .i64 0] w fun e w'=>e=.returned (.int .i64 21)∧w'=w:=by
 go_enter func93,ntmps93
 go_wp2_with fail;go_ret;exact⟨rfl,rfl⟩
set_option maxHeartbeats 2000000 in
theorem RC (f:Int) (F:FC) (hf:FieldIs f F) (a0 a1 a2 a3 b0 b1 b2 b3:Nat) (ha:bP a0 a1 a2 a3) (hb:bP b0 b1 b2 b3) (la:aB a0 a1 a2 a3<F.M) (lb:aB b0 b1 b2 b3<F.M) (w:World) :
  Calls prog 99 #[.int .i64 f,.agg #[.int .u64 a0,.int .u64 a1,.int .u64 a2,.int .u64 a3],.agg #[.int .u64 b0,.int .u64 b1,.int .u64 b2,.int .u64 b3]] w (UI 0 ((aB a0 a1 a2 a3+aB b0 b1 b2 b3)%F.M) w):=by
 go_enter func99,ntmps99
 go_wp2_with fail;refine (eO f F hf _).mono ?_
 rintro e w1 ⟨rfl,hbl⟩
 have M1:=((((Mem.nil w).new (w.heap.size) a0 a1 a2 a3 25 (by simp)).new (w.heap.size+1) b0 b1 b2 b3 25 (by simp)).new (w.heap.size+1+1) 0 0 0 0 25 (by simp)).on hbl;clear hbl;have z0:w.heap.size<w1.heap.size:=M1.lt (c0:=a0) (c1:=a1) (c2:=a2) (c3:=a3) (by simp);have z1:w.heap.size+1<w1.heap.size:=M1.lt (c0:=b0) (c1:=b1) (c2:=b2) (c3:=b3) (by simp);have z2:w.heap.size+1+1<w1.heap.size:=M1.lt (c0:=0) (c1:=0) (c2:=0) (c3:=0) (by simp);have HM:=Lib.hid (M1.on ((Below.refl _ _).alloc (Nat.le_refl _) (.cells #[.int .u64 F.m0,.int .u64 F.m1,.int .u64 F.m2,.int .u64 F.m3,.int .u64 F.inv,.int .u64 F.s0,.int .u64 F.s1,.int .u64 F.s2,.int .u64 F.s3] 119)));have KK:=Lib.hid (KIs.new w1 F 119);have kr:=M1.row (b:=w.heap.size) (c0:=a0) (c1:=a1) (c2:=a2) (c3:=a3) (by simp);have x0:=kr.c0; have x1:=kr.c1; have x2:=kr.c2; have x3:=kr.c3;clear kr;have xl:=M1.lt (b:=w.heap.size) (c0:=a0) (c1:=a1) (c2:=a2) (c3:=a3) (by simp);go_wp2_with fail;refine (dG F hf.ok w1.heap.size a0 a1 a2 a3 ha _ KK.out).mono ?_
 rintro e w2 ⟨he,hbl⟩
 rw[show vX (aB a0 a1 a2 a3) F.M=true from decide_eq_true la]at he;subst he;have HM':=Lib.hid (HM.out.on hbl);have KK':=Lib.hid (KK.out.same hbl);have zk:=KK'.out.lt;clear HM KK hbl M1;have HM:=HM';have KK:=KK';clear HM' KK';clear x0 x1 x2 x3 xl zk;have kr:=HM.out.row (b:=w.heap.size+1) (c0:=b0) (c1:=b1) (c2:=b2) (c3:=b3) (by simp);have x0:=kr.c0; have x1:=kr.c1; have x2:=kr.c2; have x3:=kr.c3;clear kr;have xl:=HM.out.lt (b:=w.heap.size+1) (c0:=b0) (c1:=b1) (c2:=b2) (c3:=b3) (by simp);go_wp2_with fail;refine (dG F hf.ok w1.heap.size b0 b1 b2 b3 hb _ KK.out).mono ?_
 rintro e w3 ⟨he,hbl⟩
 rw[show vX (aB b0 b1 b2 b3) F.M=true from decide_eq_true lb]at he;subst he;have HM':=Lib.hid (HM.out.on hbl);have KK':=Lib.hid (KK.out.same hbl);have zk:=KK'.out.lt;clear HM KK hbl;have HM:=HM';have KK:=KK';clear HM' KK';clear x0 x1 x2 x3 xl zk;have kr:=HM.out.row (b:=w.heap.size) (c0:=a0) (c1:=a1) (c2:=a2) (c3:=a3) (by simp);have x0:=kr.c0; have x1:=kr.c1; have x2:=kr.c2; have x3:=kr.c3;clear kr;have xl:=HM.out.lt (b:=w.heap.size) (c0:=a0) (c1:=a1) (c2:=a2) (c3:=a3) (by simp);have kr:=HM.out.row (b:=w.heap.size+1) (c0:=b0) (c1:=b1) (c2:=b2) (c3:=b3) (by simp);have u0:=kr.c0; have u1:=kr.c1; have u2:=kr.c2; have u3:=kr.c3;clear kr;have ul:=HM.out.lt (b:=w.heap.size+1) (c0:=b0) (c1:=b1) (c2:=b2) (c3:=b3) (by simp);go_wp2_with fail;refine (yW F hf.ok w1.heap.size a0 a1 a2 a3 b0 b1 b2 b3 ha hb la lb _ KK.out).mono ?_
 rintro e w4 ⟨s0,s1,s2,s3,rfl,hs,hv,hbl⟩
 have HV:=Lib.hid hv;clear hv;have HM':=Lib.hid (HM.out.on hbl);have KK':=Lib.hid (KK.out.same hbl);have zk:=KK'.out.lt;clear HM KK hbl;have HM:=HM';have KK:=KK';clear HM' KK';clear x0 x1 x2 x3 xl u0 u1 u2 u3 ul zk;have kr:=HM.out.row (b:=w.heap.size+1+1) (c0:=0) (c1:=0) (c2:=0) (c3:=0) (by simp);have y0:=kr.c0; have y1:=kr.c1; have y2:=kr.c2; have y3:=kr.c3; have yf:=kr.fr;clear kr;have yl:=HM.out.lt (b:=w.heap.size+1+1) (c0:=0) (c1:=0) (c2:=0) (c3:=0) (by simp);go_wp2_with fail;refine bodyPost_ret (v:=.tuple #[.agg #[.int .u64 s0,.int .u64 s1,.int .u64 s2,.int .u64 s3],.int .i64 0]) (by simp[results,results99,go_sem, *]) rfl ?_;refine⟨_,_,_,_,rfl,hs,HV.out,?_⟩;exact bI HM.out.1 (by omega) _ _ _ _
set_option maxHeartbeats 2000000 in
theorem QX (f:Int) (F:FC) (hf:FieldIs f F) (a0 a1 a2 a3 b0 b1 b2 b3:Nat) (ha:bP a0 a1 a2 a3) (hb:bP b0 b1 b2 b3) (la:aB a0 a1 a2 a3<F.M) (lb:aB b0 b1 b2 b3<F.M) (w:World) :
  Calls prog 84 #[.int .i64 f,.agg #[.int .u64 a0,.int .u64 a1,.int .u64 a2,.int .u64 a3],.agg #[.int .u64 b0,.int .u64 b1,.int .u64 b2,.int .u64 b3]] w (UI 0 ((aB a0 a1 a2 a3+F.M-aB b0 b1 b2 b3)%F.M) w):=by
 go_enter func84,ntmps84
 go_wp2_with fail;refine (eO f F hf _).mono ?_
 rintro e w1 ⟨rfl,hbl⟩
 have M1:=((((Mem.nil w).new (w.heap.size) a0 a1 a2 a3 25 (by simp)).new (w.heap.size+1) b0 b1 b2 b3 25 (by simp)).new (w.heap.size+1+1) 0 0 0 0 25 (by simp)).on hbl;clear hbl;have z0:w.heap.size<w1.heap.size:=M1.lt (c0:=a0) (c1:=a1) (c2:=a2) (c3:=a3) (by simp);have z1:w.heap.size+1<w1.heap.size:=M1.lt (c0:=b0) (c1:=b1) (c2:=b2) (c3:=b3) (by simp);have z2:w.heap.size+1+1<w1.heap.size:=M1.lt (c0:=0) (c1:=0) (c2:=0) (c3:=0) (by simp);have HM:=Lib.hid (M1.on ((Below.refl _ _).alloc (Nat.le_refl _) (.cells #[.int .u64 F.m0,.int .u64 F.m1,.int .u64 F.m2,.int .u64 F.m3,.int .u64 F.inv,.int .u64 F.s0,.int .u64 F.s1,.int .u64 F.s2,.int .u64 F.s3] 119)));have KK:=Lib.hid (KIs.new w1 F 119);have kr:=M1.row (b:=w.heap.size) (c0:=a0) (c1:=a1) (c2:=a2) (c3:=a3) (by simp);have x0:=kr.c0; have x1:=kr.c1; have x2:=kr.c2; have x3:=kr.c3;clear kr;have xl:=M1.lt (b:=w.heap.size) (c0:=a0) (c1:=a1) (c2:=a2) (c3:=a3) (by simp);go_wp2_with fail;refine (dG F hf.ok w1.heap.size a0 a1 a2 a3 ha _ KK.out).mono ?_
 rintro e w2 ⟨he,hbl⟩
 rw[show vX (aB a0 a1 a2 a3) F.M=true from decide_eq_true la]at he;subst he;have HM':=Lib.hid (HM.out.on hbl);have KK':=Lib.hid (KK.out.same hbl);have zk:=KK'.out.lt;clear HM KK hbl M1;have HM:=HM';have KK:=KK';clear HM' KK';clear x0 x1 x2 x3 xl zk;have kr:=HM.out.row (b:=w.heap.size+1) (c0:=b0) (c1:=b1) (c2:=b2) (c3:=b3) (by simp);have x0:=kr.c0; have x1:=kr.c1; have x2:=kr.c2; have x3:=kr.c3;clear kr;have xl:=HM.out.lt (b:=w.heap.size+1) (c0:=b0) (c1:=b1) (c2:=b2) (c3:=b3) (by simp);go_wp2_with fail;refine (dG F hf.ok w1.heap.size b0 b1 b2 b3 hb _ KK.out).mono ?_
 rintro e w3 ⟨he,hbl⟩
 rw[show vX (aB b0 b1 b2 b3) F.M=true from decide_eq_true lb]at he;subst he;have HM':=Lib.hid (HM.out.on hbl);have KK':=Lib.hid (KK.out.same hbl);have zk:=KK'.out.lt;clear HM KK hbl;have HM:=HM';have KK:=KK';clear HM' KK';clear x0 x1 x2 x3 xl zk;have kr:=HM.out.row (b:=w.heap.size) (c0:=a0) (c1:=a1) (c2:=a2) (c3:=a3) (by simp);have x0:=kr.c0; have x1:=kr.c1; have x2:=kr.c2; have x3:=kr.c3;clear kr;have xl:=HM.out.lt (b:=w.heap.size) (c0:=a0) (c1:=a1) (c2:=a2) (c3:=a3) (by simp);have kr:=HM.out.row (b:=w.heap.size+1) (c0:=b0) (c1:=b1) (c2:=b2) (c3:=b3) (by simp);have u0:=kr.c0; have u1:=kr.c1; have u2:=kr.c2; have u3:=kr.c3;clear kr;have ul:=HM.out.lt (b:=w.heap.size+1) (c0:=b0) (c1:=b1) (c2:=b2) (c3:=b3) (by simp);go_wp2_with fail;refine (vS F hf.ok w1.heap.size a0 a1 a2 a3 b0 b1 b2 b3 ha hb la lb _ KK.out).mono ?_
 rintro e w4 ⟨s0,s1,s2,s3,rfl,hs,hv,hbl⟩
 have HV:=Lib.hid hv;clear hv;have HM':=Lib.hid (HM.out.on hbl);have KK':=Lib.hid (KK.out.same hbl);have zk:=KK'.out.lt;clear HM KK hbl;have HM:=HM';have KK:=KK';clear HM' KK';clear x0 x1 x2 x3 xl u0 u1 u2 u3 ul zk;have kr:=HM.out.row (b:=w.heap.size+1+1) (c0:=0) (c1:=0) (c2:=0) (c3:=0) (by simp);have y0:=kr.c0; have y1:=kr.c1; have y2:=kr.c2; have y3:=kr.c3; have yf:=kr.fr;clear kr;have yl:=HM.out.lt (b:=w.heap.size+1+1) (c0:=0) (c1:=0) (c2:=0) (c3:=0) (by simp);go_wp2_with fail;refine bodyPost_ret (v:=.tuple #[.agg #[.int .u64 s0,.int .u64 s1,.int .u64 s2,.int .u64 s3],.int .i64 0]) (by simp[results,results84,go_sem, *]) rfl ?_;refine⟨_,_,_,_,rfl,hs,HV.out,?_⟩;exact bI HM.out.1 (by omega) _ _ _ _
set_option maxHeartbeats 2000000 in
theorem QY (f:Int) (F:FC) (hf:FieldIs f F) (a0 a1 a2 a3 b0 b1 b2 b3:Nat) (ha:bP a0 a1 a2 a3) (hb:bP b0 b1 b2 b3) (la:aB a0 a1 a2 a3<F.M) (lb:aB b0 b1 b2 b3<F.M) (w:World) :
  Calls prog 83 #[.int .i64 f,.agg #[.int .u64 a0,.int .u64 a1,.int .u64 a2,.int .u64 a3],.agg #[.int .u64 b0,.int .u64 b1,.int .u64 b2,.int .u64 b3]] w (UI 0 (aB a0 a1 a2 a3*aB b0 b1 b2 b3%F.M) w):=by
 go_enter func83,ntmps83
 go_wp2_with fail;refine (eO f F hf _).mono ?_
 rintro e w1 ⟨rfl,hbl⟩
 have M1:=((((Mem.nil w).new (w.heap.size) a0 a1 a2 a3 25 (by simp)).new (w.heap.size+1) b0 b1 b2 b3 25 (by simp)).new (w.heap.size+1+1) 0 0 0 0 25 (by simp)).on hbl;clear hbl;have z0:w.heap.size<w1.heap.size:=M1.lt (c0:=a0) (c1:=a1) (c2:=a2) (c3:=a3) (by simp);have z1:w.heap.size+1<w1.heap.size:=M1.lt (c0:=b0) (c1:=b1) (c2:=b2) (c3:=b3) (by simp);have z2:w.heap.size+1+1<w1.heap.size:=M1.lt (c0:=0) (c1:=0) (c2:=0) (c3:=0) (by simp);have HM:=Lib.hid (M1.on ((Below.refl _ _).alloc (Nat.le_refl _) (.cells #[.int .u64 F.m0,.int .u64 F.m1,.int .u64 F.m2,.int .u64 F.m3,.int .u64 F.inv,.int .u64 F.s0,.int .u64 F.s1,.int .u64 F.s2,.int .u64 F.s3] 119)));have KK:=Lib.hid (KIs.new w1 F 119);have kr:=M1.row (b:=w.heap.size) (c0:=a0) (c1:=a1) (c2:=a2) (c3:=a3) (by simp);have x0:=kr.c0; have x1:=kr.c1; have x2:=kr.c2; have x3:=kr.c3;clear kr;have xl:=M1.lt (b:=w.heap.size) (c0:=a0) (c1:=a1) (c2:=a2) (c3:=a3) (by simp);go_wp2_with fail;refine (dG F hf.ok w1.heap.size a0 a1 a2 a3 ha _ KK.out).mono ?_
 rintro e w2 ⟨he,hbl⟩
 rw[show vX (aB a0 a1 a2 a3) F.M=true from decide_eq_true la]at he;subst he;have HM':=Lib.hid (HM.out.on hbl);have KK':=Lib.hid (KK.out.same hbl);have zk:=KK'.out.lt;clear HM KK hbl M1;have HM:=HM';have KK:=KK';clear HM' KK';clear x0 x1 x2 x3 xl zk;have kr:=HM.out.row (b:=w.heap.size+1) (c0:=b0) (c1:=b1) (c2:=b2) (c3:=b3) (by simp);have x0:=kr.c0; have x1:=kr.c1; have x2:=kr.c2; have x3:=kr.c3;clear kr;have xl:=HM.out.lt (b:=w.heap.size+1) (c0:=b0) (c1:=b1) (c2:=b2) (c3:=b3) (by simp);go_wp2_with fail;refine (dG F hf.ok w1.heap.size b0 b1 b2 b3 hb _ KK.out).mono ?_
 rintro e w3 ⟨he,hbl⟩
 rw[show vX (aB b0 b1 b2 b3) F.M=true from decide_eq_true lb]at he;subst he;have HM':=Lib.hid (HM.out.on hbl);have KK':=Lib.hid (KK.out.same hbl);have zk:=KK'.out.lt;clear HM KK hbl;have HM:=HM';have KK:=KK';clear HM' KK';clear x0 x1 x2 x3 xl zk;have kr:=HM.out.row (b:=w.heap.size) (c0:=a0) (c1:=a1) (c2:=a2) (c3:=a3) (by simp);have x0:=kr.c0; have x1:=kr.c1; have x2:=kr.c2; have x3:=kr.c3;clear kr;have xl:=HM.out.lt (b:=w.heap.size) (c0:=a0) (c1:=a1) (c2:=a2) (c3:=a3) (by simp);have kr:=HM.out.row (b:=w.heap.size+1) (c0:=b0) (c1:=b1) (c2:=b2) (c3:=b3) (by simp);have u0:=kr.c0; have u1:=kr.c1; have u2:=kr.c2; have u3:=kr.c3;clear kr;have ul:=HM.out.lt (b:=w.heap.size+1) (c0:=b0) (c1:=b1) (c2:=b2) (c3:=b3) (by simp);go_wp2_with fail;refine (qL F hf.ok w1.heap.size a0 a1 a2 a3 b0 b1 b2 b3 ha hb lb _ KK.out).mono ?_
 rintro e w4 ⟨s0,s1,s2,s3,rfl,hs,hv,hbl⟩
 have HV:=Lib.hid hv;clear hv;have HM':=Lib.hid (HM.out.on hbl);have KK':=Lib.hid (KK.out.same hbl);have zk:=KK'.out.lt;clear HM KK hbl;have HM:=HM';have KK:=KK';clear HM' KK';clear x0 x1 x2 x3 xl u0 u1 u2 u3 ul zk;have kr:=HM.out.row (b:=w.heap.size+1+1) (c0:=0) (c1:=0) (c2:=0) (c3:=0) (by simp);have y0:=kr.c0; have y1:=kr.c1; have y2:=kr.c2; have y3:=kr.c3; have yf:=kr.fr;clear kr;have yl:=HM.out.lt (b:=w.heap.size+1+1) (c0:=0) (c1:=0) (c2:=0) (c3:=0) (by simp);go_wp2_with fail;refine bodyPost_ret (v:=.tuple #[.agg #[.int .u64 s0,.int .u64 s1,.int .u64 s2,.int .u64 s3],.int .i64 0]) (by simp[results,results83,go_sem, *]) rfl ?_;refine⟨_,_,_,_,rfl,hs,HV.out,?_⟩;exact bI HM.out.1 (by omega) _ _ _ _
set_option maxHeartbeats 2000000 in
theorem zN (f c:Int) (a0 a1 a2 a3:Nat) (ha:bP a0 a1 a2 a3) (h:Ln f (aB a0 a1 a2 a3) c) (w:World) :
  Calls prog 98 #[.int .i64 f,.agg #[.int .u64 a0,.int .u64 a1,.int .u64 a2,.int .u64 a3]] w fun e w'=>e=.returned (.int .i64 c)∧Below w.heap.size w w':=by
 rcases h with⟨h1,h2,rfl⟩|⟨F,hf,la,rfl⟩
 ·go_enter func98,ntmps98
  go_wp2_with fail;refine (ES f h1 h2 _).mono ?_
  rintro e w1 ⟨rfl,hbl⟩
  have M1:=((Mem.nil w).new (w.heap.size) a0 a1 a2 a3 25 (by simp)).on hbl;clear hbl;have z0:w.heap.size<w1.heap.size:=M1.lt (c0:=a0) (c1:=a1) (c2:=a2) (c3:=a3) (by simp);have HM:=Lib.hid (M1.on ((Below.refl _ _).alloc (Nat.le_refl _) (.cells #[.int .u64 0,.int .u64 0,.int .u64 0,.int .u64 0,.int .u64 0,.int .u64 0,.int .u64 0,.int .u64 0,.int .u64 0] 119)));go_wp2_with fail;refine (uX _).mono ?_
  rintro e w2 ⟨rfl,rfl⟩
  go_wp2_with fail;refine bodyPost_ret (v:=.int .i64 1) (by simp[results,results98,go_sem, *]) rfl ?_;exact⟨rfl,HM.out.1⟩
 ·go_enter func98,ntmps98
  go_wp2_with fail;refine (eO f F hf _).mono ?_
  rintro e w1 ⟨rfl,hbl⟩
  have M1:=((Mem.nil w).new (w.heap.size) a0 a1 a2 a3 25 (by simp)).on hbl;clear hbl;have z0:w.heap.size<w1.heap.size:=M1.lt (c0:=a0) (c1:=a1) (c2:=a2) (c3:=a3) (by simp);have HM:=Lib.hid (M1.on ((Below.refl _ _).alloc (Nat.le_refl _) (.cells #[.int .u64 F.m0,.int .u64 F.m1,.int .u64 F.m2,.int .u64 F.m3,.int .u64 F.inv,.int .u64 F.s0,.int .u64 F.s1,.int .u64 F.s2,.int .u64 F.s3] 119)));have KK:=Lib.hid (KIs.new w1 F 119);have kr:=M1.row (b:=w.heap.size) (c0:=a0) (c1:=a1) (c2:=a2) (c3:=a3) (by simp);have x0:=kr.c0; have x1:=kr.c1; have x2:=kr.c2; have x3:=kr.c3;clear kr;have xl:=M1.lt (b:=w.heap.size) (c0:=a0) (c1:=a1) (c2:=a2) (c3:=a3) (by simp);go_wp2_with fail;refine (dG F hf.ok w1.heap.size a0 a1 a2 a3 ha _ KK.out).mono ?_
  rintro e w2 ⟨he,hbl⟩
  rw[show vX (aB a0 a1 a2 a3) F.M=false from decide_eq_false la]at he;subst he;have HM':=Lib.hid (HM.out.on hbl);have KK':=Lib.hid (KK.out.same hbl);have zk:=KK'.out.lt;clear HM KK hbl M1;have HM:=HM';have KK:=KK';clear HM' KK';clear x0 x1 x2 x3 xl zk;go_wp2_with fail;refine (uW _).mono ?_
  rintro e w3 ⟨rfl,rfl⟩
  go_wp2_with fail;refine bodyPost_ret (v:=.int .i64 21) (by simp[results,results98,go_sem, *]) rfl ?_;exact⟨rfl,HM.out.1⟩
set_option maxHeartbeats 2000000 in
theorem EP (f:Int) (F:FC) (hf:FieldIs f F) (a0 a1 a2 a3:Nat) (ha:bP a0 a1 a2 a3) (la:aB a0 a1 a2 a3<F.M) (w:World) :
  Calls prog 98 #[.int .i64 f,.agg #[.int .u64 a0,.int .u64 a1,.int .u64 a2,.int .u64 a3]] w (fun e w'=>e=.returned (.int .i64 0)∧Below w.heap.size w w'):=by
 go_enter func98,ntmps98
 go_wp2_with fail;refine (eO f F hf _).mono ?_
 rintro e w1 ⟨rfl,hbl⟩
 have M1:=((Mem.nil w).new (w.heap.size) a0 a1 a2 a3 25 (by simp)).on hbl;clear hbl;have z0:w.heap.size<w1.heap.size:=M1.lt (c0:=a0) (c1:=a1) (c2:=a2) (c3:=a3) (by simp);have HM:=Lib.hid (M1.on ((Below.refl _ _).alloc (Nat.le_refl _) (.cells #[.int .u64 F.m0,.int .u64 F.m1,.int .u64 F.m2,.int .u64 F.m3,.int .u64 F.inv,.int .u64 F.s0,.int .u64 F.s1,.int .u64 F.s2,.int .u64 F.s3] 119)));have KK:=Lib.hid (KIs.new w1 F 119);have kr:=M1.row (b:=w.heap.size) (c0:=a0) (c1:=a1) (c2:=a2) (c3:=a3) (by simp);have x0:=kr.c0; have x1:=kr.c1; have x2:=kr.c2; have x3:=kr.c3;clear kr;have xl:=M1.lt (b:=w.heap.size) (c0:=a0) (c1:=a1) (c2:=a2) (c3:=a3) (by simp);go_wp2_with fail;refine (dG F hf.ok w1.heap.size a0 a1 a2 a3 ha _ KK.out).mono ?_
 rintro e w2 ⟨he,hbl⟩
 rw[show vX (aB a0 a1 a2 a3) F.M=true from decide_eq_true la]at he;subst he;have HM':=Lib.hid (HM.out.on hbl);have KK':=Lib.hid (KK.out.same hbl);have zk:=KK'.out.lt;clear HM KK hbl M1;have HM:=HM';have KK:=KK';clear HM' KK';clear x0 x1 x2 x3 xl zk;go_wp2_with fail;go_ret;exact⟨rfl,HM.out.1⟩
set_option maxHeartbeats 2000000 in
theorem qO (f:Int) (F:FC) (hf:FieldIs f F) (w:World):Calls prog 74 #[.int .i64 f] w fun e w'=>e=.returned (.agg #[.int .u64 F.m0,.int .u64 F.m1,.int .u64 F.m2,.int .u64 F.m3])∧Below w.heap.size w w':=by
 go_enter func74,ntmps74
 go_wp2_with fail;refine (eO f F hf _).mono ?_
 rintro e w1 ⟨rfl,hbl⟩
 have M1:=((Mem.nil w).new (w.heap.size) 0 0 0 0 85 (by simp)).on hbl;clear hbl;have z0:w.heap.size<w1.heap.size:=M1.lt (c0:=0) (c1:=0) (c2:=0) (c3:=0) (by simp);have HM:=Lib.hid (M1.on ((Below.refl _ _).alloc (Nat.le_refl _) (.cells #[.int .u64 F.m0,.int .u64 F.m1,.int .u64 F.m2,.int .u64 F.m3,.int .u64 F.inv,.int .u64 F.s0,.int .u64 F.s1,.int .u64 F.s2,.int .u64 F.s3] 119)));have KK:=Lib.hid (KIs.new w1 F 119);have k0:=KK.out.k0; have k1:=KK.out.k1; have k2:=KK.out.k2; have k3:=KK.out.k3;have kr:=M1.row (b:=w.heap.size) (c0:=0) (c1:=0) (c2:=0) (c3:=0) (by simp);have y0:=kr.c0; have y1:=kr.c1; have y2:=kr.c2; have y3:=kr.c3; have yf:=kr.fr;clear kr;have yl:=M1.lt (b:=w.heap.size) (c0:=0) (c1:=0) (c2:=0) (c3:=0) (by simp);go_wp2_with fail;refine bodyPost_ret (v:=.agg #[.int .u64 F.m0,.int .u64 F.m1,.int .u64 F.m2,.int .u64 F.m3]) (by simp[results,results74,go_sem, *]) rfl ?_;refine⟨rfl,?_⟩
 repeat (first|exact M1.1|exact HM.out.1|refine Below.alloc ?_ (by first|(simp; done)|(simp; omega)) _|refine Below.setCell ?_ (by first|(simp; done)|(simp; omega)) _)
set_option maxHeartbeats 2000000 in
theorem RB (f:Int) (F:FC) (hf:FieldIs f F) (a0 a1 a2 a3 b0 b1 b2 b3:Nat) (ha:bP a0 a1 a2 a3) (hb:bP b0 b1 b2 b3) (la:aB a0 a1 a2 a3<F.M) (lb:aB b0 b1 b2 b3<F.M) (hz:aB b0 b1 b2 b3≠0) (w:World) :
  Calls prog 97 #[.int .i64 f,.agg #[.int .u64 a0,.int .u64 a1,.int .u64 a2,.int .u64 a3],.agg #[.int .u64 b0,.int .u64 b1,.int .u64 b2,.int .u64 b3]] w (UI 0 (aB a0 a1 a2 a3*(aB b0 b1 b2 b3^(F.M-2))%F.M) w):=by
 have HE:=Lib.hid (show ∀w,(Op.equalIn 10000 25 (.agg #[.int .u64 b0,.int .u64 b1,.int .u64 b2,.int .u64 b3]) (.agg #[.int .u64 0,.int .u64 0,.int .u64 0,.int .u64 0])).run prog w=.ok false w from fun w=>by
  have h:=KZ 9998 b0 b1 b2 b3 0 0 0 0 w;have q:LA b0 b1 b2 b3 0 0 0 0=false:=by
   cases q:LA b0 b1 b2 b3 0 0 0 0
   ·rfl
   ·exact absurd (((oE hb Aq).1 q).trans rfl) hz
  rw[q]at h;exact h)
 have hG:=LC;clear hz
 go_enter func97,ntmps97
 go_wp2_with fail;refine (eO f F hf _).mono ?_
 rintro e w1 ⟨rfl,hbl⟩
 have M1:=((((Mem.nil w).new (w.heap.size) a0 a1 a2 a3 25 (by simp)).new (w.heap.size+1) b0 b1 b2 b3 25 (by simp)).new (w.heap.size+1+1) 0 0 0 0 25 (by simp)).on hbl;clear hbl;have z0:w.heap.size<w1.heap.size:=M1.lt (c0:=a0) (c1:=a1) (c2:=a2) (c3:=a3) (by simp);have z1:w.heap.size+1<w1.heap.size:=M1.lt (c0:=b0) (c1:=b1) (c2:=b2) (c3:=b3) (by simp);have z2:w.heap.size+1+1<w1.heap.size:=M1.lt (c0:=0) (c1:=0) (c2:=0) (c3:=0) (by simp);have HM:=Lib.hid (M1.on ((Below.refl _ _).alloc (Nat.le_refl _) (.cells #[.int .u64 F.m0,.int .u64 F.m1,.int .u64 F.m2,.int .u64 F.m3,.int .u64 F.inv,.int .u64 F.s0,.int .u64 F.s1,.int .u64 F.s2,.int .u64 F.s3] 119)));have KK:=Lib.hid (KIs.new w1 F 119);have kr:=M1.row (b:=w.heap.size) (c0:=a0) (c1:=a1) (c2:=a2) (c3:=a3) (by simp);have x0:=kr.c0; have x1:=kr.c1; have x2:=kr.c2; have x3:=kr.c3;clear kr;have xl:=M1.lt (b:=w.heap.size) (c0:=a0) (c1:=a1) (c2:=a2) (c3:=a3) (by simp);go_wp2_with fail;refine (dG F hf.ok w1.heap.size a0 a1 a2 a3 ha _ KK.out).mono ?_
 rintro e w2 ⟨he,hbl⟩
 rw[show vX (aB a0 a1 a2 a3) F.M=true from decide_eq_true la]at he;subst he;have HM':=Lib.hid (HM.out.on hbl);have KK':=Lib.hid (KK.out.same hbl);have zk:=KK'.out.lt;clear HM KK hbl M1;have HM:=HM';have KK:=KK';clear HM' KK';clear x0 x1 x2 x3 xl zk;have kr:=HM.out.row (b:=w.heap.size+1) (c0:=b0) (c1:=b1) (c2:=b2) (c3:=b3) (by simp);have x0:=kr.c0; have x1:=kr.c1; have x2:=kr.c2; have x3:=kr.c3;clear kr;have xl:=HM.out.lt (b:=w.heap.size+1) (c0:=b0) (c1:=b1) (c2:=b2) (c3:=b3) (by simp);go_wp2_with fail;refine (dG F hf.ok w1.heap.size b0 b1 b2 b3 hb _ KK.out).mono ?_
 rintro e w3 ⟨he,hbl⟩
 rw[show vX (aB b0 b1 b2 b3) F.M=true from decide_eq_true lb]at he;subst he;have HM':=Lib.hid (HM.out.on hbl);have KK':=Lib.hid (KK.out.same hbl);have zk:=KK'.out.lt;clear HM KK hbl;have HM:=HM';have KK:=KK';clear HM' KK';clear x0 x1 x2 x3 xl zk;have kr:=HM.out.row (b:=w.heap.size+1) (c0:=b0) (c1:=b1) (c2:=b2) (c3:=b3) (by simp);have u0:=kr.c0; have u1:=kr.c1; have u2:=kr.c2; have u3:=kr.c3;clear kr;have ul:=HM.out.lt (b:=w.heap.size+1) (c0:=b0) (c1:=b1) (c2:=b2) (c3:=b3) (by simp);have hE:=HE.out;go_wp2_with fail;clear u0 u1 u2 u3 ul hE;refine cW (fun wx=>Mem w wx [(w.heap.size+1,b0,b1,b2,b3),(w.heap.size,a0,a1,a2,a3)]) 6 (by kernel_rfl) ?_;have HM':=Lib.hid (HM.out.drewN 1);have KK':=Lib.hid (KK.out.drewN 1);clear HM KK;have HM:=HM';have KK:=KK';clear HM' KK';have HS:=HM.out.sub (rs':=[(w.heap.size+1,b0,b1,b2,b3),(w.heap.size,a0,a1,a2,a3)]) (by simp);refine aH (i:=0) (v:=.agg #[.int .u64 b0,.int .u64 b1,.int .u64 b2,.int .u64 b3]) rfl (by kernel_rfl) (by kernel_rfl) (by kernel_rfl) (by kernel_rfl) (fun _ _ _ h=>h) HS (Or.inl ⟨by kernel_rfl,fun wx hx => ?_⟩) ?_
 ·have kr:=hx.row (b:=w.heap.size+1) (c0:=b0) (c1:=b1) (c2:=b2) (c3:=b3) (by simp);have x0:=kr.c0; have x1:=kr.c1; have x2:=kr.c2; have x3:=kr.c3;clear kr HS hx;go_simp
 simp only[Act.put,List.setIfInBounds_toArray,List.set_cons_zero,List.set_cons_succ];refine aH (i:=3) (v:=.agg #[.int .u64 a0,.int .u64 a1,.int .u64 a2,.int .u64 a3]) rfl (by kernel_rfl) (by kernel_rfl) (by kernel_rfl) (by kernel_rfl) (fun _ _ _ h=>h) HS (Or.inl ⟨by kernel_rfl,fun wx hx => ?_⟩) ?_
 ·have kr:=hx.row (b:=w.heap.size) (c0:=a0) (c1:=a1) (c2:=a2) (c3:=a3) (by simp);have x0:=kr.c0; have x1:=kr.c1; have x2:=kr.c2; have x3:=kr.c3;clear kr HS hx;go_simp
 simp only[Act.put,List.setIfInBounds_toArray,List.set_cons_zero,List.set_cons_succ];clear HS;refine aI (i:=1) (by kernel_rfl) rfl (fun K hK => ?_);go_simp;refine (iN F hf.ok w1.heap.size b0 b1 b2 b3 hb _ KK.out).mono ?_
 rintro e w4 ⟨i0,i1,i2,i3,rfl,hi,hv,hbl⟩
 have HVi:=Lib.hid hv;clear hv;have HM':=Lib.hid (HM.out.on hbl);have KK':=Lib.hid (KK.out.same hbl);have zk_w4:=KK'.out.lt;clear HM KK hbl;have HM:=HM';have KK:=KK';clear HM' KK';have HS:=HM.out.sub (rs':=[(w.heap.size+1,b0,b1,b2,b3),(w.heap.size,a0,a1,a2,a3)]) (by simp);refine hK.out _ _ (Or.inr HS) (fun _ => ?_);clear hK K;clear HS;refine aI (i:=2) (by kernel_rfl) rfl (fun K hK => ?_);go_simp;refine (pK F hf.ok (aB b0 b1 b2 b3) w1.heap.size i0 i1 i2 i3 hi HVi.out _ KK.out).mono ?_
 rintro e w5 ⟨j0,j1,j2,j3,rfl,hj,hv,hbl⟩
 have HVj:=Lib.hid hv;clear hv;have HM':=Lib.hid (HM.out.on hbl);have KK':=Lib.hid (KK.out.same hbl);have zk_w5:=KK'.out.lt;clear HM KK hbl;have HM:=HM';have KK:=KK';clear HM' KK';have HS:=HM.out.sub (rs':=[(w.heap.size+1,b0,b1,b2,b3),(w.heap.size,a0,a1,a2,a3)]) (by simp);refine hK.out _ _ (Or.inr HS) (fun _ => ?_);clear hK K;clear HS;refine aI (i:=4) (by kernel_rfl) rfl (fun K hK => ?_);go_simp;refine (eL F hf.ok w1.heap.size j0 j1 j2 j3 a0 a1 a2 a3 hj ha la _ KK.out).mono ?_
 rintro e w6 ⟨s0,s1,s2,s3,rfl,hs,hv,hbl⟩
 have HVs:=Lib.hid (show aB s0 s1 s2 s3=aB a0 a1 a2 a3*(aB b0 b1 b2 b3^(F.M-2))%F.M by rw[hv,HVj.out,pF hf.ok,Nat.mul_comm]);clear hv;have HM':=Lib.hid (HM.out.on hbl);have KK':=Lib.hid (KK.out.same hbl);have zk_w6:=KK'.out.lt;clear HM KK hbl;have HM:=HM';have KK:=KK';clear HM' KK';have HS:=HM.out.sub (rs':=[(w.heap.size+1,b0,b1,b2,b3),(w.heap.size,a0,a1,a2,a3)]) (by simp);refine hK.out _ _ (Or.inr HS) (fun _ => ?_);clear hK K;clear HS;have kr:=HM.out.row (b:=w.heap.size+1+1) (c0:=0) (c1:=0) (c2:=0) (c3:=0) (by simp);have y0:=kr.c0; have y1:=kr.c1; have y2:=kr.c2; have y3:=kr.c3; have yf:=kr.fr;clear kr;have yl:=HM.out.lt (b:=w.heap.size+1+1) (c0:=0) (c1:=0) (c2:=0) (c3:=0) (by simp);refine aI (i:=5) (by kernel_rfl) rfl (fun K hK => ?_);go_simp;have HM':=Lib.hid ((HM.out.sub (rs':=[(w.heap.size+1+1,0,0,0,0),(w.heap.size+1,b0,b1,b2,b3),(w.heap.size,a0,a1,a2,a3)]) (by simp)).put s0 s1 s2 s3 (by omega) (by intro r hr; simp at hr; rcases hr with rfl|rfl<;>simp<;>omega));clear HM;have HM:=HM';clear HM';have HS:=HM.out.sub (rs':=[(w.heap.size+1,b0,b1,b2,b3),(w.heap.size,a0,a1,a2,a3)]) (by simp);refine hK.out _ _ (Or.inr HS) (fun _ => ?_);clear hK K;clear HS;refine aI (i:=6) (by kernel_rfl) rfl (fun K hK => ?_);go_simp;refine hK.out _ _ (Or.inl rfl) (fun _ => ?_);clear hK K;refine cG (by kernel_rfl) ?_;go_wp2_with fail;refine bodyPost_ret (v:=.tuple #[.agg #[.int .u64 s0,.int .u64 s1,.int .u64 s2,.int .u64 s3],.int .i64 0]) (by simp[results,results97,go_sem, *]) rfl ?_;exact⟨_,_,_,_,rfl,hs,HVs.out,HM.out.1⟩
set_option maxHeartbeats 2000000 in
theorem QZ (f c:Int) (V a0 a1 a2 a3:Nat) (hD:∀w,Calls prog 97 #[.int .i64 f,.agg #[.int .u64 1,.int .u64 0,.int .u64 0,.int .u64 0],.agg #[.int .u64 a0,.int .u64 a1,.int .u64 a2,.int .u64 a3]] w (UI c V w)) (w:World) :
  Calls prog 79 #[.int .i64 f,.agg #[.int .u64 a0,.int .u64 a1,.int .u64 a2,.int .u64 a3]] w (UI c V w):=by
 have HD:=Lib.hid hD;clear hD
 go_enter func79,ntmps79
 go_wp2_with fail;have HM:=Lib.hid (((Mem.nil w).new (w.heap.size) a0 a1 a2 a3 25 (by simp)).new (w.heap.size+1) 0 0 0 0 25 (by simp));refine cW (fun wx=>Mem w wx [(w.heap.size,a0,a1,a2,a3)]) 7 (by kernel_rfl) ?_;have HM':=Lib.hid (HM.out.drewN 1);clear HM;have HM:=HM';clear HM';have HS:=HM.out.sub (rs':=[(w.heap.size,a0,a1,a2,a3)]) (by simp);refine aH (i:=0) (v:=.int .i64 f) rfl (by kernel_rfl) (by kernel_rfl) (by kernel_rfl) (by kernel_rfl) (fun _ _ _ h=>h) HS (Or.inl ⟨by kernel_rfl,fun wx hx => ?_⟩) ?_
 ·clear HS hx;go_simp
 simp only[Act.put,List.setIfInBounds_toArray,List.set_cons_zero,List.set_cons_succ];refine aH (i:=2) (v:=.agg #[.int .u64 a0,.int .u64 a1,.int .u64 a2,.int .u64 a3]) rfl (by kernel_rfl) (by kernel_rfl) (by kernel_rfl) (by kernel_rfl) (fun _ _ _ h=>h) HS (Or.inl ⟨by kernel_rfl,fun wx hx => ?_⟩) ?_
 ·have kr:=hx.row (b:=w.heap.size) (c0:=a0) (c1:=a1) (c2:=a2) (c3:=a3) (by simp);have x0:=kr.c0; have x1:=kr.c1; have x2:=kr.c2; have x3:=kr.c3;clear kr HS hx;go_simp
 simp only[Act.put,List.setIfInBounds_toArray,List.set_cons_zero,List.set_cons_succ];clear HS;refine aI (i:=1) (by kernel_rfl) rfl (fun K hK => ?_);go_simp;refine (oZ 1 (by omega) _).mono ?_
 rintro e w1 ⟨rfl,hbl⟩
 have HM':=Lib.hid (HM.out.on hbl);clear HM hbl;have HM:=HM';clear HM';have HS:=HM.out.sub (rs':=[(w.heap.size,a0,a1,a2,a3)]) (by simp);refine hK.out _ _ (Or.inr HS) (fun _ => ?_);clear hK K;clear HS;refine aI (i:=3) (by kernel_rfl) rfl (fun K hK => ?_);go_simp;refine (HD.out _).mono ?_
 rintro e w2 ⟨s0,s1,s2,s3,rfl,hs,hv,hbl⟩
 have HVs:=Lib.hid hv;clear hv;have HM':=Lib.hid (HM.out.on hbl);clear HM hbl;have HM:=HM';clear HM';have HS:=HM.out.sub (rs':=[(w.heap.size,a0,a1,a2,a3)]) (by simp);refine hK.out _ _ (Or.inr HS) (fun _ => ?_);clear hK K;refine aH (i:=4) (v:=.agg #[.int .u64 s0,.int .u64 s1,.int .u64 s2,.int .u64 s3]) rfl (by kernel_rfl) (by kernel_rfl) (by kernel_rfl) (by kernel_rfl) (fun _ _ _ h=>h) HS (Or.inl ⟨by kernel_rfl,fun wx hx => ?_⟩) ?_
 ·clear HS hx;go_simp
 simp only[Act.put,List.setIfInBounds_toArray,List.set_cons_zero,List.set_cons_succ];refine aH (i:=5) (v:=.int .i64 c) rfl (by kernel_rfl) (by kernel_rfl) (by kernel_rfl) (by kernel_rfl) (fun _ _ _ h=>h) HS (Or.inl ⟨by kernel_rfl,fun wx hx => ?_⟩) ?_
 ·clear HS hx;go_simp
 simp only[Act.put,List.setIfInBounds_toArray,List.set_cons_zero,List.set_cons_succ];clear HS;have kr:=HM.out.row (b:=w.heap.size+1) (c0:=0) (c1:=0) (c2:=0) (c3:=0) (by simp);have y0:=kr.c0; have y1:=kr.c1; have y2:=kr.c2; have y3:=kr.c3; have yf:=kr.fr;clear kr;have yl:=HM.out.lt (b:=w.heap.size+1) (c0:=0) (c1:=0) (c2:=0) (c3:=0) (by simp);refine aI (i:=6) (by kernel_rfl) rfl (fun K hK => ?_);go_simp;have HM':=Lib.hid ((HM.out.sub (rs':=[(w.heap.size+1,0,0,0,0),(w.heap.size,a0,a1,a2,a3)]) (by simp)).put s0 s1 s2 s3 (by omega) (by intro r hr; simp at hr; rcases hr with rfl<;>simp<;>omega));clear HM;have HM:=HM';clear HM';have HS:=HM.out.sub (rs':=[(w.heap.size,a0,a1,a2,a3)]) (by simp);refine hK.out _ _ (Or.inr HS) (fun _ => ?_);clear hK K;clear HS;refine aI (i:=7) (by kernel_rfl) rfl (fun K hK => ?_);go_simp;refine hK.out _ _ (Or.inl rfl) (fun _ => ?_);clear hK K;refine cG (by kernel_rfl) ?_;go_wp2_with fail;refine bodyPost_ret (v:=.tuple #[.agg #[.int .u64 s0,.int .u64 s1,.int .u64 s2,.int .u64 s3],.int .i64 c]) (by simp[results,results79,go_sem, *]) rfl ?_;exact⟨_,_,_,_,rfl,hs,HVs.out,HM.out.1⟩
set_option maxHeartbeats 2000000 in
theorem RA (f:Int) (F:FC) (hf:FieldIs f F) (a0 a1 a2 a3 n0 n1 n2 n3:Nat) (ha:bP a0 a1 a2 a3) (hn:bP n0 n1 n2 n3) (la:aB a0 a1 a2 a3<F.M) (w:World) :
  Calls prog 75 #[.int .i64 f,.agg #[.int .u64 a0,.int .u64 a1,.int .u64 a2,.int .u64 a3],.agg #[.int .u64 n0,.int .u64 n1,.int .u64 n2,.int .u64 n3]] w (UI 0 (aB a0 a1 a2 a3^aB n0 n1 n2 n3%F.M) w):=by
 go_enter func75,ntmps75
 go_wp2_with fail;refine (eO f F hf _).mono ?_
 rintro e w1 ⟨rfl,hbl⟩
 have M1:=((((Mem.nil w).new (w.heap.size) a0 a1 a2 a3 25 (by simp)).new (w.heap.size+1) n0 n1 n2 n3 85 (by simp)).new (w.heap.size+1+1) 0 0 0 0 25 (by simp)).on hbl;clear hbl;have z0:w.heap.size<w1.heap.size:=M1.lt (c0:=a0) (c1:=a1) (c2:=a2) (c3:=a3) (by simp);have z1:w.heap.size+1<w1.heap.size:=M1.lt (c0:=n0) (c1:=n1) (c2:=n2) (c3:=n3) (by simp);have z2:w.heap.size+1+1<w1.heap.size:=M1.lt (c0:=0) (c1:=0) (c2:=0) (c3:=0) (by simp);have HM:=Lib.hid (M1.on ((Below.refl _ _).alloc (Nat.le_refl _) (.cells #[.int .u64 F.m0,.int .u64 F.m1,.int .u64 F.m2,.int .u64 F.m3,.int .u64 F.inv,.int .u64 F.s0,.int .u64 F.s1,.int .u64 F.s2,.int .u64 F.s3] 119)));have KK:=Lib.hid (KIs.new w1 F 119);have kr:=M1.row (b:=w.heap.size) (c0:=a0) (c1:=a1) (c2:=a2) (c3:=a3) (by simp);have x0:=kr.c0; have x1:=kr.c1; have x2:=kr.c2; have x3:=kr.c3;clear kr;have xl:=M1.lt (b:=w.heap.size) (c0:=a0) (c1:=a1) (c2:=a2) (c3:=a3) (by simp);go_wp2_with fail;refine (dG F hf.ok w1.heap.size a0 a1 a2 a3 ha _ KK.out).mono ?_
 rintro e w2 ⟨he,hbl⟩
 rw[show vX (aB a0 a1 a2 a3) F.M=true from decide_eq_true la]at he;subst he;have HM':=Lib.hid (HM.out.on hbl);have KK':=Lib.hid (KK.out.same hbl);have zk:=KK'.out.lt;clear HM KK hbl M1;have HM:=HM';have KK:=KK';clear HM' KK';clear x0 x1 x2 x3 xl zk;go_wp2_with fail;refine cW (fun wx=>Mem w wx [(w.heap.size+1,n0,n1,n2,n3),(w.heap.size,a0,a1,a2,a3)]) 6 (by kernel_rfl) ?_;have HM':=Lib.hid (HM.out.drewN 1);have KK':=Lib.hid (KK.out.drewN 1);clear HM KK;have HM:=HM';have KK:=KK';clear HM' KK';have HS:=HM.out.sub (rs':=[(w.heap.size+1,n0,n1,n2,n3),(w.heap.size,a0,a1,a2,a3)]) (by simp);refine aH (i:=0) (v:=.agg #[.int .u64 a0,.int .u64 a1,.int .u64 a2,.int .u64 a3]) rfl (by kernel_rfl) (by kernel_rfl) (by kernel_rfl) (by kernel_rfl) (fun _ _ _ h=>h) HS (Or.inl ⟨by kernel_rfl,fun wx hx => ?_⟩) ?_
 ·have kr:=hx.row (b:=w.heap.size) (c0:=a0) (c1:=a1) (c2:=a2) (c3:=a3) (by simp);have x0:=kr.c0; have x1:=kr.c1; have x2:=kr.c2; have x3:=kr.c3;clear kr HS hx;go_simp
 simp only[Act.put,List.setIfInBounds_toArray,List.set_cons_zero,List.set_cons_succ];refine aH (i:=2) (v:=.agg #[.int .u64 n0,.int .u64 n1,.int .u64 n2,.int .u64 n3]) rfl (by kernel_rfl) (by kernel_rfl) (by kernel_rfl) (by kernel_rfl) (fun _ _ _ h=>h) HS (Or.inl ⟨by kernel_rfl,fun wx hx => ?_⟩) ?_
 ·have kr:=hx.row (b:=w.heap.size+1) (c0:=n0) (c1:=n1) (c2:=n2) (c3:=n3) (by simp);have x0:=kr.c0; have x1:=kr.c1; have x2:=kr.c2; have x3:=kr.c3;clear kr HS hx;go_simp
 simp only[Act.put,List.setIfInBounds_toArray,List.set_cons_zero,List.set_cons_succ];clear HS;refine aI (i:=1) (by kernel_rfl) rfl (fun K hK => ?_);go_simp;refine (iN F hf.ok w1.heap.size a0 a1 a2 a3 ha _ KK.out).mono ?_
 rintro e w4 ⟨i0,i1,i2,i3,rfl,hi,hv,hbl⟩
 have HVi:=Lib.hid hv;clear hv;have HM':=Lib.hid (HM.out.on hbl);have KK':=Lib.hid (KK.out.same hbl);have zk_w4:=KK'.out.lt;clear HM KK hbl;have HM:=HM';have KK:=KK';clear HM' KK';have HS:=HM.out.sub (rs':=[(w.heap.size+1,n0,n1,n2,n3),(w.heap.size,a0,a1,a2,a3)]) (by simp);refine hK.out _ _ (Or.inr HS) (fun _ => ?_);clear hK K;clear HS;refine aI (i:=3) (by kernel_rfl) rfl (fun K hK => ?_);go_simp;refine (nJ F hf.ok (aB a0 a1 a2 a3) w1.heap.size i0 i1 i2 i3 n0 n1 n2 n3 hi hn HVi.out _ KK.out).mono ?_
 rintro e w5 ⟨j0,j1,j2,j3,rfl,hj,hv,hbl⟩
 have HVj:=Lib.hid hv;clear hv;have HM':=Lib.hid (HM.out.on hbl);have KK':=Lib.hid (KK.out.same hbl);have zk_w5:=KK'.out.lt;clear HM KK hbl;have HM:=HM';have KK:=KK';clear HM' KK';have HS:=HM.out.sub (rs':=[(w.heap.size+1,n0,n1,n2,n3),(w.heap.size,a0,a1,a2,a3)]) (by simp);refine hK.out _ _ (Or.inr HS) (fun _ => ?_);clear hK K;clear HS;refine aI (i:=4) (by kernel_rfl) rfl (fun K hK => ?_);go_simp;refine (DU F hf.ok w1.heap.size j0 j1 j2 j3 hj _ KK.out).mono ?_
 rintro e w6 ⟨s0,s1,s2,s3,rfl,hs,hv,hbl⟩
 have HVs:=Lib.hid (show aB s0 s1 s2 s3=aB a0 a1 a2 a3^aB n0 n1 n2 n3%F.M by rw[hv,HVj.out,←pG,XK hf.ok _ (Nat.mod_lt _ hf.ok.pos)]);clear hv;have HM':=Lib.hid (HM.out.on hbl);have KK':=Lib.hid (KK.out.same hbl);have zk_w6:=KK'.out.lt;clear HM KK hbl;have HM:=HM';have KK:=KK';clear HM' KK';have HS:=HM.out.sub (rs':=[(w.heap.size+1,n0,n1,n2,n3),(w.heap.size,a0,a1,a2,a3)]) (by simp);refine hK.out _ _ (Or.inr HS) (fun _ => ?_);clear hK K;clear HS;have kr:=HM.out.row (b:=w.heap.size+1+1) (c0:=0) (c1:=0) (c2:=0) (c3:=0) (by simp);have y0:=kr.c0; have y1:=kr.c1; have y2:=kr.c2; have y3:=kr.c3; have yf:=kr.fr;clear kr;have yl:=HM.out.lt (b:=w.heap.size+1+1) (c0:=0) (c1:=0) (c2:=0) (c3:=0) (by simp);refine aI (i:=5) (by kernel_rfl) rfl (fun K hK => ?_);go_simp;have HM':=Lib.hid ((HM.out.sub (rs':=[(w.heap.size+1+1,0,0,0,0),(w.heap.size+1,n0,n1,n2,n3),(w.heap.size,a0,a1,a2,a3)]) (by simp)).put s0 s1 s2 s3 (by omega) (by intro r hr; simp at hr; rcases hr with rfl|rfl<;>simp<;>omega));clear HM;have HM:=HM';clear HM';have HS:=HM.out.sub (rs':=[(w.heap.size+1,n0,n1,n2,n3),(w.heap.size,a0,a1,a2,a3)]) (by simp);refine hK.out _ _ (Or.inr HS) (fun _ => ?_);clear hK K;clear HS;refine aI (i:=6) (by kernel_rfl) rfl (fun K hK => ?_);go_simp;refine hK.out _ _ (Or.inl rfl) (fun _ => ?_);clear hK K;refine cG (by kernel_rfl) ?_;go_wp2_with fail;refine bodyPost_ret (v:=.tuple #[.agg #[.int .u64 s0,.int .u64 s1,.int .u64 s2,.int .u64 s3],.int .i64 0]) (by simp[results,results75,go_sem, *]) rfl ?_;exact⟨_,_,_,_,rfl,hs,HVs.out,HM.out.1⟩
end Go.Proofs.Ytiginhbnaloghaa
namespace Go.Proofs.Ytiginhbnaloghaa.Ex
open Go.Proofs.Try
open Go.RowKit
abbrev RM:Nat:=Go.Proofs.Ytiginhbnaloghaa.FR.M
abbrev bJ:Nat:=115792089237316195423570985008687907853269984665640564039457584007913129639936
theorem fS {x:Nat} (h:x<RM):x<bJ:=Nat.lt_trans h (by decide)
theorem gB:0<RM:=by decide
def jM (x y:Nat):Nat:=(x+y)%RM
def II (x y:Nat):Nat:=(x+RM-y)%RM
def fU (x y:Nat):Nat:=x*y%RM
def uL (x n:Nat):Nat:=x^n%RM
def OD (x:Nat):Nat:=1*(x^(RM-2))%RM
theorem mP (x y:Nat):jM x y<RM:=Nat.mod_lt _ gB
theorem yJ (x y:Nat):II x y<RM:=Nat.mod_lt _ gB
theorem iH (x y:Nat):fU x y<RM:=Nat.mod_lt _ gB
theorem sH (x y:Nat):uL x y<RM:=Nat.mod_lt _ gB
theorem IK (x:Nat):OD x<RM:=Nat.mod_lt _ gB
theorem lE:FieldIs 2 Go.Proofs.Ytiginhbnaloghaa.FR:=Or.inr ⟨rfl,rfl⟩
theorem mY {x:Nat} (h:x<RM):aB (fw x 0) (fw x 1) (fw x 2) (fw x 3)=x:=eU (fS h)
def TZ (op:Nat→Nat→Nat):jB
 | [.v (.im (.int .i64 2)),.v (.fl l),.v (.fl m)]=>match mI l,mI m with
  | some x,some y=>some ([x<RM,y<RM],.many [.fl [.q (op x y)],.im (.int .i64 0)])
  | _,_=>none
 | _=>none
theorem zH {fid:FuncId} {op:Nat→Nat→Nat} (hlt:∀x y,op x y<RM) (h:∀x y,x<RM→y<RM→∀w,Calls prog fid #[.int .i64 2,.agg (aC [At.q x]).toArray,.agg (aC [At.q y]).toArray] w (UI 0 (op x y) w)) :
  ∀cs pre r,TZ op cs=some (pre,r)→aQ pre→∀(args:List Value) (w:World),cQ w cs args→bC prog fid r args w:=by
 intro cs pre r hg hp args w ha;unfold TZ at hg;split at hg
 ·rename_i l m;split at hg
  ·rename_i x y hx hy;cases hg
   match args,ha with
   | [t,v,u],ha =>
    obtain⟨h1,h2,h3,_⟩:=ha;have h1:t=.int .i64 2:=h1;have h2:v=.agg (aC l).toArray:=h2;have h3:u=.agg (aC m).toArray:=h3;rw[cH l x hx]at h2;rw[cH m y hy]at h3;subst h1; subst h2; subst h3;refine (h x y hp.1 hp.2.1 w).mono ?_
    rintro e w' ⟨s0,s1,s2,s3,rfl,hs,hv,hb⟩
    obtain⟨rfl,rfl,rfl,rfl⟩:=hZ hs (fS (hlt x y)) hv;exact⟨rfl,hb⟩
   | [],ha=>exact ha.elim
   | [_],ha=>exact ha.2.elim
   | [_,_],ha=>exact ha.2.2.elim
   | _::_::_::_::_,ha=>exact ha.2.2.2.elim
  ·cases hg
 ·cases hg
theorem Cz:∀cs pre r,TZ jM cs=some (pre,r)→aQ pre→∀(args:List Value) (w:World),cQ w cs args→bC prog 99 r args w :=
 zH mP fun x y hx hy w=>by
  have:=RC 2 _ lE _ _ _ _ _ _ _ _ (dI x) (dI y) (by rw[mY hx]; exact hx) (by rw[mY hy]; exact hy) w;rw[mY hx,mY hy]at this;exact this
theorem Cw:∀cs pre r,TZ II cs=some (pre,r)→aQ pre→∀(args:List Value) (w:World),cQ w cs args→bC prog 84 r args w :=
 zH yJ fun x y hx hy w=>by
  have:=QX 2 _ lE _ _ _ _ _ _ _ _ (dI x) (dI y) (by rw[mY hx]; exact hx) (by rw[mY hy]; exact hy) w;rw[mY hx,mY hy]at this;exact this
theorem Cx:∀cs pre r,TZ fU cs=some (pre,r)→aQ pre→∀(args:List Value) (w:World),cQ w cs args→bC prog 83 r args w :=
 zH iH fun x y hx hy w=>by
  have:=QY 2 _ lE _ _ _ _ _ _ _ _ (dI x) (dI y) (by rw[mY hx]; exact hx) (by rw[mY hy]; exact hy) w;rw[mY hx,mY hy]at this;exact this
def UE (x:Nat):Int:=if x<RM then 0 else 21
def YO:jB
 | [.v (.im (.int .i64 2)),.v (.fl l)]=>match mI l with
  | some x=>some ([x<bJ],.one (.im (.int .i64 (UE x))))
  | none=>none
 | _=>none
theorem OR:∀cs pre r,YO cs=some (pre,r)→aQ pre→∀(args:List Value) (w:World),cQ w cs args→bC prog 98 r args w:=by
 intro cs pre r hg hp args w ha;unfold YO at hg;split at hg
 ·rename_i l;split at hg
  ·rename_i x hx;cases hg
   match args,ha with
   | [t,v],ha =>
    obtain⟨h1,h2,_⟩:=ha;have h1:t=.int .i64 2:=h1;have h2:v=.agg (aC l).toArray:=h2;rw[cH l x hx]at h2;subst h1; subst h2;unfold UE
    by_cases h:x<RM
    ·rw[if_pos h];exact EP 2 _ lE _ _ _ _ (dI x) (by rw[eU hp.1]; exact h) w
    ·rw[if_neg h];exact zN 2 21 _ _ _ _ (dI x) (Or.inr ⟨_,lE,by rw[eU hp.1]; exact h,rfl⟩) w
   | [],ha=>exact ha.elim
   | [_],ha=>exact ha.2.elim
   | _::_::_::_,ha=>exact ha.2.2.elim
  ·cases hg
 ·cases hg
def YG:jB
 | [.v (.im (.int .i64 2)),.v (.fl l)]=>match mI l with
  | some x=>some ([x<RM,x≠0],.many [.fl [.q (OD x)],.im (.int .i64 0)])
  | none=>none
 | _=>none
theorem Cy:∀cs pre r,YG cs=some (pre,r)→aQ pre→∀(args:List Value) (w:World),cQ w cs args→bC prog 79 r args w:=by
 intro cs pre r hg hp args w ha;unfold YG at hg;split at hg
 ·rename_i l;split at hg
  ·rename_i x hx;cases hg
   match args,ha with
   | [t,v],ha =>
    obtain⟨h1,h2,_⟩:=ha;have h1:t=.int .i64 2:=h1;have h2:v=.agg (aC l).toArray:=h2;rw[cH l x hx]at h2;subst h1; subst h2;refine (QZ 2 0 (OD x) _ _ _ _ (fun w => ?_) w).mono ?_
    ·have:=RB 2 _ lE 1 0 0 0 _ _ _ _ (by unfold bP; decide) (dI x) (by decide) (by rw[mY hp.1]; exact hp.1) (by rw[mY hp.1]; exact hp.2.1) w;rw[mY hp.1]at this;exact this
    rintro e w' ⟨s0,s1,s2,s3,rfl,hs,hv,hb⟩
    obtain⟨rfl,rfl,rfl,rfl⟩:=hZ hs (fS (IK x)) hv;exact⟨rfl,hb⟩
   | [],ha=>exact ha.elim
   | [_],ha=>exact ha.2.elim
   | _::_::_::_,ha=>exact ha.2.2.elim
  ·cases hg
 ·cases hg
def YE:jB
 | [.v (.im (.int .i64 2)),.v (.fl l),.v (.fl m)]=>match mI l,mI m with
  | some x,some y=>some ([x<RM,y<bJ],.many [.fl [.q (uL x y)],.im (.int .i64 0)])
  | _,_=>none
 | _=>none
theorem TE:∀cs pre r,YE cs=some (pre,r)→aQ pre→∀(args:List Value) (w:World),cQ w cs args→bC prog 75 r args w:=by
 intro cs pre r hg hp args w ha;unfold YE at hg;split at hg
 ·rename_i l m;split at hg
  ·rename_i x y hx hy;cases hg
   match args,ha with
   | [t,v,u],ha =>
    obtain⟨h1,h2,h3,_⟩:=ha;have h1:t=.int .i64 2:=h1;have h2:v=.agg (aC l).toArray:=h2;have h3:u=.agg (aC m).toArray:=h3;rw[cH l x hx]at h2;rw[cH m y hy]at h3;subst h1; subst h2; subst h3;have h:=RA 2 _ lE _ _ _ _ _ _ _ _ (dI x) (dI y) (by rw[mY hp.1]; exact hp.1) w;rw[mY hp.1,eU hp.2.1]at h;refine h.mono ?_
    rintro e w' ⟨s0,s1,s2,s3,rfl,hs,hv,hb⟩
    obtain⟨rfl,rfl,rfl,rfl⟩:=hZ hs (fS (sH x y)) hv;exact⟨rfl,hb⟩
   | [],ha=>exact ha.elim
   | [_],ha=>exact ha.2.elim
   | [_,_],ha=>exact ha.2.2.elim
   | _::_::_::_::_,ha=>exact ha.2.2.2.elim
  ·cases hg
 ·cases hg
def EJ:jB
 | [.v (.im (.int .u64 (.ofNat n)))]=>some ([n<18446744073709551616],.one (.fl [.q n]))
 | _=>none
theorem Ke:∀cs pre r,EJ cs=some (pre,r)→aQ pre→∀(args:List Value) (w:World),cQ w cs args→bC prog 58 r args w:=by
 intro cs pre r hg hp args w ha;unfold EJ at hg;split at hg
 ·rename_i n;cases hg
  match args,ha with
  | [t],ha =>
   have h1:t=.int .u64 (Int.ofNat n):=ha.1;subst h1;refine (oZ n hp.1 w).mono ?_
   rintro e w' ⟨rfl,hb⟩
   refine⟨?_,hb⟩;obtain⟨e0,e1,e2,e3⟩:=hZ (s0:=n) (s1:=0) (s2:=0) (s3:=0) (x:=n) ⟨hp.1,by omega,by omega,by omega⟩ (by have:=hp.1; omega) (by unfold aB; omega);show Ending.returned _=Ending.returned (.agg #[.int .u64 (fw n 0:Nat),.int .u64 (fw n 1:Nat),.int .u64 (fw n 2:Nat),.int .u64 (fw n 3:Nat)]);rw[←e0,←e1,←e2,←e3];rfl
  | [],ha=>exact ha.elim
  | _::_::_,ha=>exact ha.2.elim
 ·cases hg
def AE:Tab:=((((((T0.add 99 (TZ jM)).add 84 (TZ II)).add 83 (TZ fU)).add 98 YO).add 79 YG).add 75 YE).add 58 EJ
theorem oY:TabOk prog AE:=(((((((Hz _).add func99 (by kernel_rfl) (by kernel_rfl) Cz).add func84 (by kernel_rfl) (by kernel_rfl) Cw).add func83 (by kernel_rfl) (by kernel_rfl) Cx).add func98 (by kernel_rfl) (by kernel_rfl) OR).add func79 (by kernel_rfl) (by kernel_rfl) Cy).add func75 (by kernel_rfl) (by kernel_rfl) TE).add func58 (by kernel_rfl) (by kernel_rfl) Ke
def el (f:Nat→Nat) (j:Nat):List At:=[.q (f j)]
def LV (w:World) (v:Value) (N:Nat) (f:Nat→Nat):Prop:=∃p m,v=.slice p N m∧N≤m∧(∀j,j<N→f j<bJ)∧(0<N→∃b o,p=some ⟨b,o,none⟩∧b<w.heap.size∧w.rangeAt b o (aC (aS (el f) 0 N)))
theorem LV.on {w w':World} {v:Value} {N:Nat} {f:Nat→Nat} (h:LV w v N f) (hb:Below w.heap.size w w'):LV w' v N f:=by
 obtain⟨p,m,h1,h2,h3,h4⟩:=h;exact⟨p,m,h1,h2,h3,fun h=>by
  obtain⟨b,o,e,h5,h6⟩:=h4 h;exact⟨b,o,e,Nat.lt_of_lt_of_le h5 hb.size,cY hb h5 h6⟩⟩
theorem LV.ofS {w:World} {l:List At} {n m N:Nat} {f:Nat→Nat} {v:Value} (h:CA.ok w (.s l n m) v) (h1:aC l=aC (aS (el f) 0 N)) (h2:n=N) (h3:N≤m) (h4:∀j,j<N→f j<bJ):LV w v N f:=by
 obtain⟨b,o,rfl,hb,hr⟩:=h;rw[h1]at hr;exact⟨_,m,by rw[h2],h3,h4,fun _=>⟨b,o,rfl,hb,hr⟩⟩
theorem LV.nil (w:World) (f:Nat→Nat):LV w (.slice none 0 0) 0 f:=⟨none,0,rfl,Nat.le_refl _,fun j h=>by omega,fun h=>by omega⟩
theorem dL {w:World} {b o N i:Nat} {f:Nat→Nat} (hb:b<w.heap.size) (hr:w.rangeAt b o (aC (aS (el f) 0 N))) (hi:i<N):oldOf w b (o+i*4) [.q (f i)] :=
 ⟨hb,qZ (f:=el f) (c:=4) (fun _=>rfl) hi hr⟩
def xO (w:World) (idx:Nat→Option Nat) (ld:Nat→Option (List At)) (gen:Nat→Option Value):Ext:={ Ext.none with idx:=idx,ld:=ld,gen:=gen,old:=oldOf w,T2:=tM,T3:=wY,T4:=CJ,T5:=CM,T6:=CN }
theorem dH (w:World) (idx:Nat→Option Nat) (ld:Nat→Option (List At)) (gen:Nat→Option Value):bF prog { qG prog with x:=xO w idx ld gen } w.heap.size w :=
 ⟨(bD _).1,eG (fun b o l h=>h) (fun w' _=>FrAt.none _ _) (fun w' _=>FsAt.none _ _)⟩
def Kr (op:Nat→Nat) (c:Nat→List Prop):jB
 | [.v (.fl l)]=>match mI l with|some x=>some (c x,.one (.fl [.q (op x)]))|none=>none
 | _=>none
def Er (op:Nat→Nat→Nat) (c:Nat→Nat→List Prop):jB
 | [.v (.fl l),.v (.fl m)]=>match mI l,mI m with|some x,some y=>some (c x y,.one (.fl [.q (op x y)]))|_,_=>none
 | _=>none
def RZ (x y:Nat):List Prop:=[x<RM,y<RM]
theorem zJ {f:FuncId} {op:Nat→Nat→Nat} {c:Nat→Nat→List Prop} (h:∀x y,aQ (c x y)→∀args w,cQ w [.v (.fl [.q x]),.v (.fl [.q y])] args→bC prog f (.one (.fl [.q (op x y)])) args w) :
  ∀cs pre r,Er op c cs=some (pre,r)→aQ pre→∀(args:List Value) (w:World),cQ w cs args→bC prog f r args w:=by
 intro cs pre r hg hp args w ha;unfold Er at hg;split at hg
 ·rename_i l m;split at hg
  ·rename_i x y hx hy;cases hg;refine h x y hp args w ?_
   match args,ha with
   | [v,u],ha =>
    refine⟨?_,?_,trivial⟩
    ·show v=.agg (aC (q1 x)).toArray;rw[←cH l x hx]; exact ha.1
    ·show u=.agg (aC (q1 y)).toArray;rw[←cH m y hy]; exact ha.2.1
   | [],ha=>exact ha.elim
   | [_],ha=>exact ha.2.elim
   | _::_::_::_,ha=>exact ha.2.2.elim
  ·cases hg
 ·cases hg
theorem YL {f:FuncId} {op:Nat→Nat} {c:Nat→List Prop} (h:∀x,aQ (c x)→∀args w,cQ w [.v (.fl [.q x])] args→bC prog f (.one (.fl [.q (op x)])) args w) :
  ∀cs pre r,Kr op c cs=some (pre,r)→aQ pre→∀(args:List Value) (w:World),cQ w cs args→bC prog f r args w:=by
 intro cs pre r hg hp args w ha;unfold Kr at hg;split at hg
 ·rename_i l;split at hg
  ·rename_i x hx;cases hg;refine h x hp args w ?_
   match args,ha with
   | [v],ha =>
    refine⟨?_,trivial⟩;show v=.agg (aC (q1 x)).toArray;rw[←cH l x hx]; exact ha.1
   | [],ha=>exact ha.elim
   | _::_::_,ha=>exact ha.2.elim
  ·cases hg
 ·cases hg
theorem IF (x y:Nat):tC prog AE (qG prog) (fun _=>true) f82 40 [.v (.fl [.q x]),.v (.fl [.q y])]=some ([x<RM,y<RM],.one (.fl [.q (jM x y)])):=by kernel_rfl
theorem DD (x y:Nat):tC prog AE (qG prog) (fun _=>true) f57 40 [.v (.fl [.q x]),.v (.fl [.q y])]=some ([x<RM,y<RM],.one (.fl [.q (II x y)])):=by kernel_rfl
theorem DC (x y:Nat):tC prog AE (qG prog) (fun _=>true) f56 40 [.v (.fl [.q x]),.v (.fl [.q y])]=some ([x<RM,y<RM],.one (.fl [.q (fU x y)])):=by kernel_rfl
theorem uF (x:Nat):tC prog AE (qG prog) (fun _=>true) f47 40 [.v (.fl [.q x])]=some ([x<RM,x≠0],.one (.fl [.q (OD x)])):=by kernel_rfl
theorem uE:tC prog AE (qG prog) (fun _=>true) f36 40 []=some ([1<18446744073709551616],.one (.fl [.q 1])):=by kernel_rfl
def dN:Tab:=((((AE.add 82 (Er jM RZ)).add 57 (Er II RZ)).add 56 (Er fU RZ)).add 47 (Kr OD fun x=>[x<RM,x≠0])).add 36 (g0 (.one (.fl [.q 1])))
theorem aY:TabOk prog dN:=((((oY.add func82 (by kernel_rfl) (by kernel_rfl) (zJ fun x y h args w ha=>dY aJ oY (bD _) func82 (IF x y) h ha)).add
 func57 (by kernel_rfl) (by kernel_rfl) (zJ fun x y h args w ha=>dY aJ oY (bD _) func57 (DD x y) h ha)).add
 func56 (by kernel_rfl) (by kernel_rfl) (zJ fun x y h args w ha=>dY aJ oY (bD _) func56 (DC x y) h ha)).add
 func47 (by kernel_rfl) (by kernel_rfl) (YL fun x h args w ha=>dY aJ oY (bD _) func47 (uF x) h ha)).add
 func36 (by kernel_rfl) (by kernel_rfl) (BN fun w=>dY aJ oY (bD _) func36 uE ⟨by omega,trivial⟩ (args:=[]) trivial)
def AC (v:Value) (N i:Nat):List Fact:=[.slot 5 (.im v),.slot 6 (.im (iI N)),.slot 7 (.im (iI i))]
def gS:Code:=(f81.body).getD .skip
def qC:Code:=fW (fW (cB (cA (cB gS))))
theorem SH:gS=.seq (cA gS) (.seq (.seq (cA (cA (cB gS))) (.block 0 (.loop qC))) (cB (cB gS))):=by kernel_rfl
def bU (num:Nat→Option Value) (_:Nat):Cfg:=⟨fun _=>dN,fun _=>true,num⟩
theorem Ht (v:Value):aK prog (qG prog) f81.ntmps (bU fun _=>none) 40 (cA gS) (eK 0 [.v (.im v)]) [.slot 0 (.im v)]=some ([],.nrm,[.slot 0 (.im v)]):=by kernel_rfl
theorem Hs (p:Option Addr) (N m:Nat):aK prog (qG prog) f81.ntmps (bU fun _=>none) 40 (cA (cA (cB gS))) [.slot 0 (.im (.slice p N m))] (AC (.slice p N m) N 0)=some ([],.nrm,AC (.slice p N m) N 0):=by kernel_rfl
theorem Hu (w:World) (b o N m i x:Nat):aK prog { qG prog with x:=xO w (aE [(9,i)]) (aE [(10,[.q x])]) (fun _=>none) } f81.ntmps (bU (aE [(8,.bool true),(13,.bool false),(14,iI (i+1))])) 40 qC (AC (aV b o N m) N i) (AC (aV b o N m) N (i+1))=some ([aF .lss .i64 (Int.ofNat i) (Int.ofNat N)=some (.bool true),Int.ofNat i=Int.ofNat i,i<N,oldOf w b (o+i*4) [.q x],cN [.q x]=4,x<bJ,aF .neq .i64 (UE x) 0=some (.bool false),aF .add .i64 (Int.ofNat i) 1=some (iI (i+1))],.nrm,AC (aV b o N m) N (i+1)):=by kernel_rfl
theorem Hv (w:World) (b o N m i x:Nat):aK prog { qG prog with x:=xO w (aE [(9,i)]) (aE [(10,[.q x])]) (fun _=>none) } f81.ntmps (bU (aE [(8,.bool true),(13,.bool true)])) 40 qC (AC (aV b o N m) N i) [.slot 2 (.im (.bool false))]=some ([aF .lss .i64 (Int.ofNat i) (Int.ofNat N)=some (.bool true),Int.ofNat i=Int.ofNat i,i<N,oldOf w b (o+i*4) [.q x],cN [.q x]=4,x<bJ,aF .neq .i64 (UE x) 0=some (.bool true)],.rt,[.slot 2 (.im (.bool false))]):=by kernel_rfl
theorem ZQ (v:Value) (N i:Nat):aK prog (qG prog) f81.ntmps (bU (aE [(8,.bool false)])) 40 qC (AC v N i) (AC v N i)=some ([aF .lss .i64 (Int.ofNat i) (Int.ofNat N)=some (.bool false)],.ex 0,AC v N i):=by kernel_rfl
theorem SG (v:Value) (N i:Nat):aK prog (qG prog) f81.ntmps (bU fun _=>none) 40 (cB (cB gS)) (AC v N i) [.slot 2 (.im (.bool true))]=some ([],.rt,[.slot 2 (.im (.bool true))]):=by kernel_rfl
theorem ZF {x:Nat} (h:x<RM):aF .neq .i64 (UE x) 0=some (.bool false):=by unfold UE; rw[if_pos h]; rfl
theorem RS {x:Nat} (h:¬x<RM):aF .neq .i64 (UE x) 0=some (.bool true):=by unfold UE; rw[if_neg h]; rfl
theorem dZ {p:Nat→Prop} [DecidablePred p]:∀{N:Nat},(¬ ∀j,j<N→p j)→∃j,j<N∧(∀k,k<j→p k)∧¬p j:=by
 intro N
 induction N with
 | zero=>exact fun h=>(h fun j hj=>by omega).elim
 | succ N ih =>
  intro h
  by_cases h0:∀j,j<N→p j
  ·refine⟨N,by omega,h0,fun hp=>h fun j hj => ?_⟩
   by_cases e:j=N
   ·rw[e]; exact hp
   ·exact h0 j (by omega)
  ·obtain⟨j,h1,h2⟩:=ih h0;exact⟨j,by omega,h2⟩
theorem CI {w0:World} {b o N m i:Nat} {f:Nat→Nat} (hb:b<w0.heap.size) (hr:w0.rangeAt b o (aC (aS (el f) 0 N))) (hN:N≤4611686018427387904) (hi:i<N) (hx:f i<bJ) (h:f i<RM):Ok prog w0.heap.size w0 f81.ntmps qC (AC (aV b o N m) N i) .nrm (AC (aV b o N m) N (i+1)) :=
 ⟨_,_,_,_,dH w0 _ _ _,fun _ _=>aY.w _ _,Hu w0 b o N m i (f i),bR hi,rfl,hi,dL hb hr hi,rfl,hx,ZF h,eT (k:=1) (by omega),trivial⟩
def bQ (N:Nat) (f:Nat→Nat):Prop:=∀j,j<N→f j<RM
instance (N:Nat) (f:Nat→Nat):Decidable (bQ N f):=Nat.decidableBallLT N fun j _=>f j<RM
theorem LZ {w0:World} {v:Value} {N:Nat} {f:Nat→Nat} (hv:LV w0 v N f) (hN:N≤4611686018427387904):bC prog 81 (.one (.im (.bool (decide (bQ N f))))) [v] w0:=by
 obtain⟨p,m,rfl,hm,h256,hmem⟩:=hv;have hG:bF prog (qG prog) w0.heap.size w0:=(bD _).w _ _;have hT:∀n d:Nat,TabOkW prog dN w0.heap.size w0:=fun _ _=>aY.w _ _
 refine bO func81 (cs:=[.v (.im (.slice p N m))]) (args:=[.slice p N m]) (c:=gS) rfl ⟨rfl,trivial⟩ (Nat.le_of_ble_eq_true (by kernel_rfl)) fun a w' hA => ?_
 rw[SH];refine wp_seq (aA aJ hT hG (Ht _) trivial hA fun a w' hA => ?_);refine wp_seq (wp_seq (aA aJ hT hG (Hs p N m) trivial hA fun a w' hA => ?_));refine wp_block ?_;have fin:∀(P Q:Exit→Act→World→Prop) e a w,P e a w→(∀e a w,P e a w→Q e a w)→Q e a w:=fun P Q e a w h k=>k e a w h
 by_cases h:bQ N f
 ·rw[decide_eq_true h];refine cC aJ (fun i=>AC (.slice p N m) N i) N (fun i hi => ?_) (.ex 0) (by simp) (AC (.slice p N m) N N) ⟨_,_,_,_,hG,hT,ZQ _ N N,dM (Nat.le_refl _),trivial⟩ hA fun a w hA => ?_
  ·obtain⟨b,o,rfl,hb,hr⟩:=hmem (by omega);exact CI hb hr hN hi (h256 i hi) (h i hi)
  ·show (cB (cB gS)).wp _ _ _ _;exact aA aJ hT hG (SG _ N N) trivial hA fun a w' hA=>bE (l:=[.im (.bool true)]) (r:=.one (.im (.bool true))) (by kernel_rfl) (by kernel_rfl) hA
 ·rw[decide_eq_false h];obtain⟨j,hj,h1,h2⟩:=dZ (p:=fun j=>f j<RM) h;obtain⟨b,o,rfl,hb,hr⟩:=hmem (by omega);refine cC aJ (fun i=>AC (aV b o N m) N i) j (fun i hi=>CI hb hr hN (by omega) (h256 i (by omega)) (h1 i hi)) .rt (by simp) [.slot 2 (.im (.bool false))] ⟨_,_,_,_,dH w0 _ _ _,hT,Hv w0 b o N m j (f j),bR hj,rfl,hj,dL hb hr hj,rfl,h256 j hj,RS h2,trivial⟩ hA fun a w hA => ?_
  exact bE (l:=[.im (.bool false)]) (r:=.one (.im (.bool false))) (by kernel_rfl) (by kernel_rfl) hA
def FG (f:Nat→Nat) (N i:Nat):Nat:=if i<N then f i else 0
theorem VT (w:World) (b o N m i x:Nat):kZ prog { qG prog with x:=xO w (aE [(11,i)]) (aE [(12,[.q x])]) (fun _=>none) } (bU (aE [(8,.bool true)])) f53 40 [.v (.im (aV b o N m)),.v (.im (iI i))]=some ([aF .lss .i64 (Int.ofNat i) (Int.ofNat N)=some (.bool true),Int.ofNat i=Int.ofNat i,i<N,oldOf w b (o+i*4) [.q x],cN [.q x]=4],.one (.fl [.q x])):=by kernel_rfl
theorem OA (p:Option Addr) (N m i:Nat):kZ prog (qG prog) (bU (aE [(8,.bool false)])) f53 40 [.v (.im (.slice p N m)),.v (.im (iI i))]=some ([aF .lss .i64 (Int.ofNat i) (Int.ofNat N)=some (.bool false)],.one (.fl [.f ⟨0,cS⟩])):=by kernel_rfl
theorem wS {w0:World} {v:Value} {N i:Nat} {f:Nat→Nat} (hv:LV w0 v N f):bC prog 53 (.one (.fl [.q (FG f N i)])) [v,iI i] w0:=by
 obtain⟨p,m,rfl,hm,h256,hmem⟩:=hv;unfold FG
 by_cases h:i<N
 ·rw[if_pos h];obtain⟨b,o,rfl,hb,hr⟩:=hmem (by omega);exact cL aJ (fun _ _=>aY.w _ _) (dH w0 _ _ _) func53 (VT w0 b o N m i (f i)) ⟨bR h,rfl,h,dL hb hr h,rfl,trivial⟩ (args:=[aV b o N m,iI i]) ⟨rfl,rfl,trivial⟩
 ·rw[if_neg h];exact cL aJ (fun _ _=>aY.w _ _) ((bD _).w _ _) func53 (OA p N m i) ⟨dM (by omega),trivial⟩ (args:=[.slice p N m,iI i]) ⟨rfl,rfl,trivial⟩
def aD (f:Nat→Nat):Nat→Nat
 | 0=>0
 | n+1=>if f n=0 then aD f n else n+1
theorem bL (f:Nat→Nat):∀n,aD f n≤n
 | 0=>Nat.le_refl _
 | n+1=>by
  unfold aD;have:=bL f n;split<;>omega
theorem kN (f:Nat→Nat):∀n i,aD f n≤i→i<n→f i=0
 | n+1,i,h,hi=>by
  unfold aD at h
  by_cases h0:f n=0
  ·rw[if_pos h0]at h
   by_cases e:i=n
   ·rw[e]; exact h0
   ·exact kN f n i h (by omega)
  ·rw[if_neg h0]at h; omega
theorem gW (f:Nat→Nat):∀n,0<aD f n→f (aD f n-1)≠0
 | 0,h=>absurd h (Nat.lt_irrefl 0)
 | n+1,h=>by
  unfold aD at h ⊢
  by_cases h0:f n=0
  ·rw[if_pos h0]at h ⊢; exact gW f n h
  ·rw[if_neg h0]; exact h0
theorem jX {x:Nat} (hx:x<bJ):aC [At.q x]=aC [At.f ⟨0,cS⟩]↔x=0:=by
 constructor
 ·intro h;have h2:w4 x=w4 0:=by
   have h3:w4 x++[]=w4 0++[]:=h;simpa using h3
  unfold w4 at h2;simp only[List.cons.injEq,Value.int.injEq,true_and,and_true]at h2;obtain⟨e0,e1,e2,e3⟩:=h2;have h3:=eU hx;have h4:=eU (x:=0) (by omega);have c0:fw x 0=fw 0 0:=by omega
  have c1:fw x 1=fw 0 1:=by omega
  have c2:fw x 2=fw 0 2:=by omega
  have c3:fw x 3=fw 0 3:=by omega
  rw[c0,c1,c2,c3,h4]at h3;exact h3.symm
 ·rintro rfl
  rfl
def kI (v:Value) (i:Nat):List Fact:=[.slot 0 (.im v),.slot 3 (.im (iI i))]
def gN:Code:=(f33.body).getD .skip
def sU:Code:=fW (fW (cA (cB (cB gN))))
theorem PM:gN=.seq (cA gN) (.seq (cA (cB gN)) (.seq (.block 0 (.loop sU)) (cB (cB (cB gN))))):=by kernel_rfl
theorem Dk (p:Option Addr) (N m:Nat):aK prog (qG prog) f33.ntmps (bU fun _=>none) 40 (cA gN) (eK 0 [.v (.im (.slice p N m))]) [.slot 0 (.im (.slice p N m))]=some ([],.nrm,[.slot 0 (.im (.slice p N m))]):=by kernel_rfl
theorem Dj (p:Option Addr) (N m:Nat):aK prog (qG prog) f33.ntmps (bU fun _=>none) 40 (cA (cB gN)) [.slot 0 (.im (.slice p N m))] (kI (.slice p N m) N)=some ([],.nrm,kI (.slice p N m) N):=by kernel_rfl
def TP (h:Bool) (num:Nat→Option Value) (_:Nat):Cfg:=⟨fun _=>dN,fun _=>h,num⟩
theorem Dl (w:World) (b o N m i x:Nat):aK prog { qG prog with x:=xO w (aE [(12,i)]) (aE [(13,[.q x])]) (fun _=>none) } f33.ntmps (TP true (aE [(7,.bool true),(11,iI i),(18,iI i)])) 40 sU (kI (aV b o N m) (i+1)) (kI (aV b o N m) i)=some ([aF .gtr .i64 (Int.ofNat (i+1)) 0=some (.bool true),aF .sub .i64 (Int.ofNat (i+1)) 1=some (iI i),Int.ofNat i=Int.ofNat i,i<N,oldOf w b (o+i*4) [.q x],cN [.q x]=4,aC [.q x]=aC [.f ⟨0,cS⟩],aF .sub .i64 (Int.ofNat (i+1)) 1=some (iI i)],.nrm,kI (aV b o N m) i):=by kernel_rfl
theorem XE (w:World) (b o N m i x:Nat):aK prog { qG prog with x:=xO w (aE [(12,i)]) (aE [(13,[.q x])]) (fun _=>none) } f33.ntmps (TP false (aE [(7,.bool true),(11,iI i),(18,iI i)])) 40 sU (kI (aV b o N m) (i+1)) (kI (aV b o N m) (i+1))=some ([aF .gtr .i64 (Int.ofNat (i+1)) 0=some (.bool true),aF .sub .i64 (Int.ofNat (i+1)) 1=some (iI i),Int.ofNat i=Int.ofNat i,i<N,oldOf w b (o+i*4) [.q x],cN [.q x]=4,aC [.q x]≠aC [.f ⟨0,cS⟩]],.ex 0,kI (aV b o N m) (i+1)):=by kernel_rfl
theorem XF (v:Value):aK prog (qG prog) f33.ntmps (TP true (aE [(7,.bool false)])) 40 sU (kI v 0) (kI v 0)=some ([aF .gtr .i64 (Int.ofNat 0) 0=some (.bool false)],.ex 0,kI v 0):=by kernel_rfl
theorem PL (v:Value) (i:Nat):aK prog (qG prog) f33.ntmps (bU fun _=>none) 40 (cB (cB (cB gN))) (kI v i) [.slot 2 (.im (iI i))]=some ([],.rt,[.slot 2 (.im (iI i))]):=by kernel_rfl
theorem sR {i:Nat}:aF .gtr .i64 (Int.ofNat (i+1)) 0=some (.bool true):=by
 have:=@pA (i+1) 0;rw[decide_eq_true (Nat.succ_pos _)]at this;exact this
theorem mS {i:Nat} (h:i<4611686018427387904):aF .sub .i64 (Int.ofNat (i+1)) 1=some (iI i):=AX (k:=1) (by omega) (by omega)
theorem JO {w0:World} {v:Value} {N:Nat} {f:Nat→Nat} (hv:LV w0 v N f) (hN:N≤2305843009213693952):bC prog 33 (.one (.im (iI (aD f N)))) [v] w0:=by
 obtain⟨p,m,rfl,hm,h256,hmem⟩:=hv;have hG:bF prog (qG prog) w0.heap.size w0:=(bD _).w _ _;have hT:∀n d:Nat,TabOkW prog dN w0.heap.size w0:=fun _ _=>aY.w _ _
 refine bO func33 (cs:=[.v (.im (.slice p N m))]) (args:=[.slice p N m]) (c:=gN) rfl ⟨rfl,trivial⟩ (Nat.le_of_ble_eq_true (by kernel_rfl)) fun a w' hA => ?_
 rw[PM];refine wp_seq (aA aJ hT hG (Dk _ _ _) trivial hA fun a w' hA => ?_);refine wp_seq (aA aJ hT hG (Dj p N m) trivial hA fun a w' hA => ?_);refine wp_seq (wp_block ?_);have hle:=bL f N;have hz:=kN f N;have hl:=gW f N;generalize aD f N=T at hle hz hl ⊢;refine cC aJ (fun i=>kI (.slice p N m) (N-i)) (N-T) (fun i hi => ?_) (.ex 0) (by simp) (kI (.slice p N m) T) ?_ hA fun a w hA => ?_
 ·have h0:0<N:=by omega
  have hk:N-i=(N-i-1)+1:=by omega
  have hk2:N-(i+1)=N-i-1:=by omega
  have hk3:T≤N-i-1:=by omega
  have hk4:N-i-1<N:=by omega
  have hk5:N-i-1<4611686018427387904:=by omega
  show Ok _ _ _ _ _ (kI _ (N-i)) _ (kI _ (N-(i+1)));rw[hk2,hk];clear hk hk2;obtain⟨b,o,rfl,hb,hr⟩:=hmem h0;generalize N-i-1=k at hk3 hk4 hk5 ⊢;exact⟨_,_,_,_,dH w0 _ _ _,fun _ _=>aY.w _ _,Dl w0 b o N m k (f k),sR,mS hk5,rfl,hk4,dL hb hr hk4,rfl,(jX (h256 k hk4)).2 (hz k hk3 hk4),mS hk5,trivial⟩
 ·have e:N-(N-T)=T:=by omega
  rw[e];cases T with
  | zero=>exact⟨_,_,_,_,hG,fun _ _=>aY.w _ _,XF _,rfl,trivial⟩
  | succ k =>
   have h0:0<N:=by omega
   have hk4:k<N:=by omega
   have hk5:k<4611686018427387904:=by omega
   obtain⟨b,o,rfl,hb,hr⟩:=hmem h0;have hl:=hl (Nat.succ_pos k);exact⟨_,_,_,_,dH w0 _ _ _,fun _ _=>aY.w _ _,XE w0 b o N m k (f k),sR,mS hk5,rfl,hk4,dL hb hr hk4,rfl,fun h=>hl ((jX (h256 k hk4)).1 h),trivial⟩
 ·show (cB (cB (cB gN))).wp _ _ _ _;exact aA aJ hT hG (PL _ _) trivial hA fun a w' hA=>bE (l:=[.im (iI T)]) (r:=.one (.im (iI T))) (by kernel_rfl) (by kernel_rfl) hA
end Go.Proofs.Ytiginhbnaloghaa.Ex
