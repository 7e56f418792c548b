/- Jj06 -/
import Derived.OrdersHeld
import Derived.Deep.RegionHeld
import Derived.KernelRfl
import Derived.Deep.DeepCutAuto
import Derived.Test.YtjeplinbleofnaaJj05
import Derived.Test.YtjeplinbleofnaaJj04
import Derived.Test.YtjeplinbleofnaaJj00
import Derived.Test.YtjeplinbleofnaaJj01
import Derived.Test.YtjeplinbleofnaaProg
set_option maxRecDepth 100000
set_option linter.unusedVariables false
set_option linter.unusedSimpArgs false
set_option linter.unnecessarySimpa false
noncomputable section
namespace Go.Proofs.Ytjeplinbleofnaa
open Go.Proofs.Try
open Go.RowKit
theorem Mem.row {w wr:World} {rs:List (Nat×Nat×Nat×Nat×Nat)} (h:Mem w wr rs) {b c0 c1 c2 c3:Nat} (hm:(b,c0,c1,c2,c3)∈rs):Row4 wr b c0 c1 c2 c3:=(h.2 _ hm).2
theorem Mem.lt {w wr:World} {rs:List (Nat×Nat×Nat×Nat×Nat)} (h:Mem w wr rs) {b c0 c1 c2 c3:Nat} (hm:(b,c0,c1,c2,c3)∈rs):b<wr.heap.size:=(h.2 _ hm).1
theorem vX {N k L:Nat} (hk:k<L):N/2^(L-(k+1))=2*(N/2^(L-k))+bU N (L-1-k):=by
 have:=mJ N (L-1-k);rw[show L-1-k+1=L-k by omega]at this;rw[show L-(k+1)=L-1-k by omega,this]
set_option maxHeartbeats 4000000 in
theorem vW (F:FC) (hF:F.Ok) (A b a0 a1 a2 a3 n0 n1 n2 n3:Nat) (ha:bH a0 a1 a2 a3) (hn:bH n0 n1 n2 n3) (hA:aA a0 a1 a2 a3=kp F A) (w:World) (hk:KIs w b F) :
  Calls prog 116 #[.pointer (some ⟨b,0,none⟩),.agg #[.int .u64 a0,.int .u64 a1,.int .u64 a2,.int .u64 a3],.agg #[.int .u64 n0,.int .u64 n1,.int .u64 n2,.int .u64 n3]] w (dK (kp F (A^aA n0 n1 n2 n3)) w):=by
 have HK:=Lib.hid hk;have HF:=Lib.hid hF;have HA:=Lib.hid hA;have la:aA a0 a1 a2 a3<F.M:=by rw[hA]; exact RK hF _
 have hL:=hk.lt;have HLA:=Lib.hid la;clear hk hF hA la
 go_enter func116,ntmps116
 go_wp2_with fail;have M0:=((((Mem.nil w).new w.heap.size a0 a1 a2 a3 99 rfl).new (w.heap.size+1) n0 n1 n2 n3 27 (by simp)).new (w.heap.size+1+1) 0 0 0 0 99 (by simp));refine (DQ F HF.out b _ (HK.out.same M0.1)).mono ?_
 rintro e w1 ⟨s0,s1,s2,s3,rfl,hs,hv,hbl⟩
 have M1:=M0.on hbl;have HV1:=Lib.hid hv;have hz1:w.heap.size+1+1<w1.heap.size:=M1.lt (c0:=0) (c1:=0) (c2:=0) (c3:=0) (by simp);have R1:=M1.row (b:=w.heap.size+1) (c0:=n0) (c1:=n1) (c2:=n2) (c3:=n3) (by simp);have x0:=R1.c0; have x1:=R1.c1; have x2:=R1.c2; have x3:=R1.c3;have lt1:w.heap.size+1<w1.heap.size:=by omega
 have M2:=Lib.hid (M1.new w1.heap.size s0 s1 s2 s3 99 rfl);clear hbl hv R1 M0 M1;go_wp2_with fail;refine (rT n0 n1 n2 n3 hn _).mono ?_
 rintro e w2 ⟨L,rfl,hL256,hLen,hbl⟩
 have HLen:=Lib.hid hLen;have M3:=Lib.hid (M2.out.on hbl);have hz2:w1.heap.size<w2.heap.size:=by have:=hbl.size; simp at this; omega
 clear hbl hLen x0 x1 x2 x3;go_wp2_with fail
 go_loopw [15] (fun i wr=>∃k r0 r1 r2 r3:Nat,k≤L∧i=.int .i64 k∧bH r0 r1 r2 r3∧Hid (aA r0 r1 r2 r3=kp F (A^(aA n0 n1 n2 n3/2^(L-k))))∧Hid (Mem w wr [(w1.heap.size,r0,r1,r2,r3),(w.heap.size+1+1,0,0,0,0),(w.heap.size+1,n0,n1,n2,n3),(w.heap.size,a0,a1,a2,a3)])) (fun i _=>L-(intOf i).toNat)
 case atStart =>
  refine⟨0,s0,s1,s2,s3,Nat.zero_le _,rfl,hs,Lib.hid ?_,M3⟩;rw[HV1.out,Nat.sub_zero,Nat.div_eq_of_lt HLen.out.1,Nat.pow_zero]
 case round =>
  obtain⟨k,r0,r1,r2,r3,hkL,rfl,hr,HV,HM⟩:=hrel;have hrl:aA r0 r1 r2 r3<F.M:=by rw[HV.out]; exact RK HF.out _
  by_cases hlt:k<L
  ·have Rr:=HM.out.row (b:=w1.heap.size) (c0:=r0) (c1:=r1) (c2:=r2) (c3:=r3) (by simp);have x0:=Rr.c0; have x1:=Rr.c1; have x2:=Rr.c2; have x3:=Rr.c3;have ltr:=HM.out.lt (b:=w1.heap.size) (c0:=r0) (c1:=r1) (c2:=r2) (c3:=r3) (by simp);have Hrl:=Lib.hid hrl;clear Rr hrl;go_wp2_with fail;refine (eV F HF.out b r0 r1 r2 r3 r0 r1 r2 r3 hr hr Hrl.out _ (HK.out.same HM.out.1)).mono ?_
   rintro e w3 ⟨p0,p1,p2,p3,rfl,hp,hv,hbl⟩
   have hv':aA p0 p1 p2 p3=kp F (A^(aA n0 n1 n2 n3/2^(L-k))*A^(aA n0 n1 n2 n3/2^(L-k))%F.M):=by rw[hv,HV.out,wQ HF.out]
   have HP:=Lib.hid hv';have M4:=HM.out.on hbl;have lt4:=M4.lt (b:=w1.heap.size) (c0:=r0) (c1:=r1) (c2:=r2) (c3:=r3) (by simp);have Rr:=M4.row (b:=w1.heap.size) (c0:=r0) (c1:=r1) (c2:=r2) (c3:=r3) (by simp);have Rn:=M4.row (b:=w.heap.size+1) (c0:=n0) (c1:=n1) (c2:=n2) (c3:=n3) (by simp);have Ra:=M4.row (b:=w.heap.size) (c0:=a0) (c1:=a1) (c2:=a2) (c3:=a3) (by simp);have M5:=Lib.hid (M4.put p0 p1 p2 p3 (by omega) (by intro r hr; simp at hr; rcases hr with rfl|rfl|rfl<;>simp<;>omega));clear x0 x1 x2 x3 hv hv' hbl M4;have x0:=Rr.c0; have x1:=Rr.c1; have x2:=Rr.c2; have x3:=Rr.c3; have xf:=Rr.fr;have y0:=Rn.c0; have y1:=Rn.c1; have y2:=Rn.c2; have y3:=Rn.c3;have ne1:¬w.heap.size+1=w1.heap.size:=by omega
   have ne1':¬w1.heap.size=w.heap.size+1:=by omega
   clear Rr Rn Ra;obtain⟨L1,e1,hL1⟩:∃L1:Nat,(L:Int)-1=(L1:Int)∧L1+1=L:=⟨L-1,by omega,by omega⟩
   obtain⟨j,e2,hj⟩:∃j:Nat,(L1:Int)-(k:Int)=(j:Int)∧j+k=L1:=⟨L1-k,by omega,by omega⟩
   have hj256:j<256:=by omega
   have hjk:j=L-1-k:=by omega
   have HJ:=Lib.hid hjk;clear hjk;go_wp2_with fail;refine (VP n0 n1 n2 n3 j hn hj256 _).mono ?_
   rintro e w4 ⟨he,hbl⟩
   have M5':=M5.out;unfold set4 at M5';have M6:=M5'.on hbl;clear hbl M5' x0 x1 x2 x3 xf y0 y1 y2 y3;have lt6:=M6.lt (b:=w1.heap.size) (c0:=p0) (c1:=p1) (c2:=p2) (c3:=p3) (by simp)
   rcases gD (aA n0 n1 n2 n3) j with hb|hb
   ·rw[hb]at he;subst he;have HS:=Lib.hid (show aA p0 p1 p2 p3=kp F (A^(aA n0 n1 n2 n3/2^(L-(k+1)))) by
     rw[HP.out,vX hlt,←HJ.out,hb]; exact ((nQ F A _ 0 (Or.inl rfl)).1 rfl).symm)
    have M7:=Lib.hid M6;clear hb M6;go_wp2_with fail
    go_roundw
    case rel=>exact⟨k+1,p0,p1,p2,p3,by omega,by go_num,hp,HS,M7⟩
    case measure=>simp[intOf]; omega
   ·rw[hb]at he;subst he;have Rr:=M6.row (b:=w1.heap.size) (c0:=p0) (c1:=p1) (c2:=p2) (c3:=p3) (by simp);have Ra:=M6.row (b:=w.heap.size) (c0:=a0) (c1:=a1) (c2:=a2) (c3:=a3) (by simp);have x0:=Rr.c0; have x1:=Rr.c1; have x2:=Rr.c2; have x3:=Rr.c3;have z0:=Ra.c0; have z1:=Ra.c1; have z2:=Ra.c2; have z3:=Ra.c3;have HB:=Lib.hid hb;have M7:=Lib.hid M6;clear hb M6 Rr Ra;go_wp2_with fail;refine (eV F HF.out b p0 p1 p2 p3 a0 a1 a2 a3 hp ha HLA.out _ (HK.out.same M7.out.1)).mono ?_
    rintro e w5 ⟨q0,q1,q2,q3,rfl,hq,hv,hbl⟩
    have hv':aA q0 q1 q2 q3=kp F (A^(aA n0 n1 n2 n3/2^(L-(k+1)))):=by
     rw[hv,HP.out,HA.out,wQ HF.out,vX hlt,←HJ.out,HB.out]; exact ((nQ F A _ 1 (Or.inr rfl)).2 rfl).symm
    have HS:=Lib.hid hv';have M8:=M7.out.on hbl;have lt8:=M8.lt (b:=w1.heap.size) (c0:=p0) (c1:=p1) (c2:=p2) (c3:=p3) (by simp);have Rr:=M8.row (b:=w1.heap.size) (c0:=p0) (c1:=p1) (c2:=p2) (c3:=p3) (by simp);have M9:=Lib.hid (M8.put q0 q1 q2 q3 (by omega) (by intro r hr; simp at hr; rcases hr with rfl|rfl|rfl<;>simp<;>omega));clear x0 x1 x2 x3 z0 z1 z2 z3 hv hv' hbl M8;have x0:=Rr.c0; have x1:=Rr.c1; have x2:=Rr.c2; have x3:=Rr.c3; have xf:=Rr.fr;clear Rr;go_wp2_with fail
    go_roundw
    case rel=>exact⟨k+1,q0,q1,q2,q3,by omega,by go_num,hq,HS,M9⟩
    case measure=>simp[intOf]; omega
  ·obtain rfl:k=L:=by omega
   have Rr:=HM.out.row (b:=w1.heap.size) (c0:=r0) (c1:=r1) (c2:=r2) (c3:=r3) (by simp);have x0:=Rr.c0; have x1:=Rr.c1; have x2:=Rr.c2; have x3:=Rr.c3;have Ro:=HM.out.row (b:=w.heap.size+1+1) (c0:=0) (c1:=0) (c2:=0) (c3:=0) (by simp);have o0:=Ro.c0; have o1:=Ro.c1; have o2:=Ro.c2; have o3:=Ro.c3; have of:=Ro.fr;have ltr:=HM.out.lt (b:=w1.heap.size) (c0:=r0) (c1:=r1) (c2:=r2) (c3:=r3) (by simp);have lto:=HM.out.lt (b:=w.heap.size+1+1) (c0:=0) (c1:=0) (c2:=0) (c3:=0) (by simp);clear Rr Ro hrl;go_wp2_with fail;refine bodyPost_ret (v:=.agg #[.int .u64 r0,.int .u64 r1,.int .u64 r2,.int .u64 r3]) (by simp[results,results116,go_sem, *]) rfl ?_;refine⟨_,_,_,_,rfl,hr,by rw[HV.out,Nat.sub_self,Nat.pow_zero,Nat.div_one],?_⟩;exact aV HM.out.1 (by omega) _ _ _ _
theorem KT (d:Nat) (a0 a1 a2 a3 b0 b1 b2 b3:Nat) (w:World):(Op.equalIn (d+1+1) 24 (.agg #[.int .u64 a0,.int .u64 a1,.int .u64 a2,.int .u64 a3]) (.agg #[.int .u64 b0,.int .u64 b1,.int .u64 b2,.int .u64 b3])).run prog w=.ok (KU a0 a1 a2 a3 b0 b1 b2 b3) w:=by
 have h0:∀(x y:Int) (w:World),(Op.equalIn (d+1) 22 (.int .u64 x) (.int .u64 y)).run prog w=.ok (x==y) w:=fun x y w=>run_equalIn_int w d 22 .u64 .u64 x y underlying22
 rw[Op.equalIn];simp only[Sem.run_bind,run_underlying underlying24,Result.andThen_ok,Try.sizeOf22];simp[Std.Legacy.Range.forIn_eq_forIn_range',Std.Legacy.Range.size,List.range',part,h0,Sem.run_bind,Result.andThen_ok];unfold KU
 by_cases q0:a0=b0<;>by_cases q1:a1=b1<;>by_cases q2:a2=b2<;>by_cases q3:a3=b3<;>simp[q0,q1,q2,q3]<;>omega
theorem Mem.drew {w wr:World} {rs:List (Nat×Nat×Nat×Nat×Nat)} (h:Mem w wr rs):Mem w wr.drew rs :=
 ⟨h.1.drew,fun r hr=>⟨(h.2 r hr).1,⟨(h.2 r hr).2.c0,(h.2 r hr).2.c1,(h.2 r hr).2.c2,(h.2 r hr).2.c3,(h.2 r hr).2.fr⟩⟩⟩
theorem KX:prog.eqGuardType prog.depth 24=false:=by kernel_rfl
set_option maxHeartbeats 1000000 in
theorem pT (F:FC) (hF:F.Ok) (A b a0 a1 a2 a3:Nat) (ha:bH a0 a1 a2 a3) (hA:aA a0 a1 a2 a3=kp F A) (w:World) (hk:KIs w b F) :
  Calls prog 110 #[.pointer (some ⟨b,0,none⟩),.agg #[.int .u64 a0,.int .u64 a1,.int .u64 a2,.int .u64 a3]] w (dK (kp F (A^(F.M-2))) w):=by
 have HK:=Lib.hid hk;have HF:=Lib.hid hF;have HA:=Lib.hid hA;have hL:=hk.lt;have hL1:b<w.heap.size+1:=by omega
 have k0:=hk.k0; have k1:=hk.k1; have k2:=hk.k2; have k3:=hk.k3;clear hk hF hA
 go_enter func110,ntmps110
 go_wp2_with fail;have M0:=(((Mem.nil w).new w.heap.size a0 a1 a2 a3 99 rfl).new (w.heap.size+1) 0 0 0 0 99 (by simp));refine (CT F.m0 F.m1 F.m2 F.m3 2 0 0 0 HF.out.okm ⟨by omega,by omega,by omega,by omega⟩ _).mono ?_
 rintro e w1 ⟨n0,n1,n2,n3,c,rfl,hn,hc,hv,hbl⟩
 have hv':aA n0 n1 n2 n3=F.M-2:=by
  have e2:aA 2 0 0 0=2:=rfl;have:=bW hn; have:=HF.out.gt; have:=HF.out.two;rw[e2,show aA F.m0 F.m1 F.m2 F.m3=F.M from rfl]at hv;omega
 have HV:=Lib.hid hv';have M1:=M0.on hbl;have hz1:w.heap.size+1<w1.heap.size:=M1.lt (c0:=0) (c1:=0) (c2:=0) (c3:=0) (by simp);have R1:=M1.row (b:=w.heap.size) (c0:=a0) (c1:=a1) (c2:=a2) (c3:=a3) (by simp);have x0:=R1.c0; have x1:=R1.c1; have x2:=R1.c2; have x3:=R1.c3;have lt1:w.heap.size<w1.heap.size:=by omega
 have M2:=Lib.hid (M1.new w1.heap.size n0 n1 n2 n3 27 rfl);clear hbl hv hv' R1 M0 M1 k0 k1 k2 k3;go_wp2_with fail;refine (vW F HF.out A b a0 a1 a2 a3 n0 n1 n2 n3 ha hn HA.out _ (HK.out.same M2.out.1)).mono ?_
 rintro e w2 ⟨s0,s1,s2,s3,rfl,hs,hv,hbl⟩
 have HVs:=Lib.hid hv;have M3:=Lib.hid (M2.out.on hbl);have Ro:=M3.out.row (b:=w.heap.size+1) (c0:=0) (c1:=0) (c2:=0) (c3:=0) (by simp);have o0:=Ro.c0; have o1:=Ro.c1; have o2:=Ro.c2; have o3:=Ro.c3; have of:=Ro.fr;have lto:=M3.out.lt (b:=w.heap.size+1) (c0:=0) (c1:=0) (c2:=0) (c3:=0) (by simp);clear hbl hv Ro x0 x1 x2 x3;go_wp2_with fail;refine bodyPost_ret (v:=.agg #[.int .u64 s0,.int .u64 s1,.int .u64 s2,.int .u64 s3]) (by simp[results,results110,go_sem, *]) rfl ?_;refine⟨_,_,_,_,rfl,hs,by rw[HVs.out,HV.out],?_⟩;exact aV M3.out.1 (by omega) _ _ _ _
theorem WV (a0 a1 a2 a3:Nat) (n:Int) (ha:bH a0 a1 a2 a3) (h0:0<n) (hq:n/64=0) (w:World) :
  Calls prog 70 #[.agg #[.int .u64 a0,.int .u64 a1,.int .u64 a2,.int .u64 a3],.int .i64 n] w (fD (fun v=>v=aA a0 a1 a2 a3/2^n.toNat) w):=by
 obtain⟨p,hr,hp,en⟩:=PV (by omega) 0 hq (by omega);have b1:n<256:=by omega
 have t0:decide (n≤0)=false:=decide_eq_false (by omega);obtain⟨lo0,up0,u0,d0,bl0,bu0,e0,g0,m0⟩:=eU (a:=a0) (p:=p) ha.1 hp;obtain⟨lo1,up1,u1,d1,bl1,bu1,e1,g1,m1⟩:=eU (a:=a1) (p:=p) ha.2.1 hp;obtain⟨lo2,up2,u2,d2,bl2,bu2,e2,g2,m2⟩:=eU (a:=a2) (p:=p) ha.2.2.1 hp;obtain⟨lo3,up3,u3,d3,bl3,bu3,e3,g3,m3⟩:=eU (a:=a3) (p:=p) ha.2.2.2 hp;obtain⟨s0,o0,bs0,f0⟩:=lF bl0 bu1 g0 m1;obtain⟨s1,o1,bs1,f1⟩:=lF bl1 bu2 g1 m2;obtain⟨s2,o2,bs2,f2⟩:=lF bl2 bu3 g2 m3;have HF:Hid (aA s0 s1 s2 lo3=aA a0 a1 a2 a3/2^n.toNat):=Lib.hid (by
  rw[en,rJ,←Nat.div_div_eq_div_mul];have hq':aA a0 a1 a2 a3/18446744073709551616^((0:Int)).toNat=aA a0 a1 a2 a3:=by
   rw[show 18446744073709551616^((0:Int)).toNat=1 by simp];obtain⟨k0,k1,k2,k3⟩:=ha;unfold aA; omega
  rw[hq'];obtain⟨v0,x0,y0,z0⟩:=e0.out;obtain⟨v1,x1,y1,z1⟩:=e1.out;obtain⟨v2,x2,y2,z2⟩:=e2.out;obtain⟨v3,x3,y3,z3⟩:=e3.out;have f0:=f0.out;have f1:=f1.out;have f2:=f2.out;refine oR (m:=v0) ?_ y0;have hD:aA s0 s1 s2 lo3*2^p=1*(s0*2^p)+18446744073709551616*(s1*2^p)+340282366920938463463374607431768211456*(s2*2^p)+6277101735386680763835789423207666416102355444464034512896*(lo3*2^p):=by
   unfold aA; simp only[Nat.add_mul,Nat.mul_add,Nat.mul_assoc,Nat.mul_zero,Nat.zero_mul,Nat.add_zero]; omega
  rw[hD];have k0:s0*2^p=lo0*2^p+up1*2^p:=by rw[f0,Nat.add_mul]
  have k1:s1*2^p=lo1*2^p+up2*2^p:=by rw[f1,Nat.add_mul]
  have k2:s2*2^p=lo2*2^p+up3*2^p:=by rw[f2,Nat.add_mul]
  unfold aA;omega)
 clear e0 g0 m0 e1 g1 m1 e2 g2 m2 e3 g3 m3 f0 f1 f2;have HEN:=Lib.hid en;clear en
 go_enter func70,ntmps70
 go_wp2_with fail;refine wp_loop_rounds 5 ?_;rw[rounds_succ];go_wp2_with fail
 go_region
 go_wp2_with fail;rw[rounds_succ];go_wp2_with fail
 go_region
 go_wp2_with fail;rw[rounds_succ];go_wp2_with fail
 go_region
 go_wp2_with fail;rw[rounds_succ];go_wp2_with fail;rw[rounds_succ];go_wp2_with fail;refine bodyPost_ret (v:=.agg #[.int .u64 s0,.int .u64 s1,.int .u64 s2,.int .u64 lo3]) (by simp[results,results70,go_sem]) rfl ?_;refine⟨s0,s1,s2,lo3,rfl,⟨bs0,bs1,bs2,bl3⟩,HF.out,?_⟩
 repeat (first|exact Below.refl _ _|refine Below.drew ?_|refine Below.alloc ?_ (by first|(simp; done)|(simp; omega)) _)
theorem WU (a0 a1 a2 a3:Nat) (n:Int) (ha:bH a0 a1 a2 a3) (h0:0<n) (hq:n/64=1) (w:World) :
  Calls prog 70 #[.agg #[.int .u64 a0,.int .u64 a1,.int .u64 a2,.int .u64 a3],.int .i64 n] w (fD (fun v=>v=aA a0 a1 a2 a3/2^n.toNat) w):=by
 obtain⟨p,hr,hp,en⟩:=PV (by omega) 1 hq (by omega);have b1:n<256:=by omega
 have t0:decide (n≤0)=false:=decide_eq_false (by omega);obtain⟨lo1,up1,u1,d1,bl1,bu1,e1,g1,m1⟩:=eU (a:=a1) (p:=p) ha.2.1 hp;obtain⟨lo2,up2,u2,d2,bl2,bu2,e2,g2,m2⟩:=eU (a:=a2) (p:=p) ha.2.2.1 hp;obtain⟨lo3,up3,u3,d3,bl3,bu3,e3,g3,m3⟩:=eU (a:=a3) (p:=p) ha.2.2.2 hp;obtain⟨s1,o1,bs1,f1⟩:=lF bl1 bu2 g1 m2;obtain⟨s2,o2,bs2,f2⟩:=lF bl2 bu3 g2 m3;have HF:Hid (aA s1 s2 lo3 0=aA a0 a1 a2 a3/2^n.toNat):=Lib.hid (by
  rw[en,rJ,←Nat.div_div_eq_div_mul];have hq':aA a0 a1 a2 a3/18446744073709551616^((1:Int)).toNat=aA a1 a2 a3 0:=by
   rw[show 18446744073709551616^((1:Int)).toNat=18446744073709551616 by simp];obtain⟨k0,k1,k2,k3⟩:=ha;unfold aA; omega
  rw[hq'];obtain⟨v1,x1,y1,z1⟩:=e1.out;obtain⟨v2,x2,y2,z2⟩:=e2.out;obtain⟨v3,x3,y3,z3⟩:=e3.out;have f1:=f1.out;have f2:=f2.out;refine oR (m:=v1) ?_ y1;have hD:aA s1 s2 lo3 0*2^p=1*(s1*2^p)+18446744073709551616*(s2*2^p)+340282366920938463463374607431768211456*(lo3*2^p):=by
   unfold aA; simp only[Nat.add_mul,Nat.mul_add,Nat.mul_assoc,Nat.mul_zero,Nat.zero_mul,Nat.add_zero]; omega
  rw[hD];have k1:s1*2^p=lo1*2^p+up2*2^p:=by rw[f1,Nat.add_mul]
  have k2:s2*2^p=lo2*2^p+up3*2^p:=by rw[f2,Nat.add_mul]
  unfold aA;omega)
 clear e1 g1 m1 e2 g2 m2 e3 g3 m3 f1 f2;have HEN:=Lib.hid en;clear en
 go_enter func70,ntmps70
 go_wp2_with fail;refine wp_loop_rounds 4 ?_;rw[rounds_succ];go_wp2_with fail
 go_region
 go_wp2_with fail;rw[rounds_succ];go_wp2_with fail
 go_region
 go_wp2_with fail;rw[rounds_succ];go_wp2_with fail;rw[rounds_succ];go_wp2_with fail;refine bodyPost_ret (v:=.agg #[.int .u64 s1,.int .u64 s2,.int .u64 lo3,.int .u64 0]) (by simp[results,results70,go_sem]) rfl ?_;refine⟨s1,s2,lo3,0,rfl,⟨bs1,bs2,bl3,(by omega)⟩,HF.out,?_⟩
 repeat (first|exact Below.refl _ _|refine Below.drew ?_|refine Below.alloc ?_ (by first|(simp; done)|(simp; omega)) _)
theorem WT (a0 a1 a2 a3:Nat) (n:Int) (ha:bH a0 a1 a2 a3) (h0:0<n) (hq:n/64=2) (w:World) :
  Calls prog 70 #[.agg #[.int .u64 a0,.int .u64 a1,.int .u64 a2,.int .u64 a3],.int .i64 n] w (fD (fun v=>v=aA a0 a1 a2 a3/2^n.toNat) w):=by
 obtain⟨p,hr,hp,en⟩:=PV (by omega) 2 hq (by omega);have b1:n<256:=by omega
 have t0:decide (n≤0)=false:=decide_eq_false (by omega);obtain⟨lo2,up2,u2,d2,bl2,bu2,e2,g2,m2⟩:=eU (a:=a2) (p:=p) ha.2.2.1 hp;obtain⟨lo3,up3,u3,d3,bl3,bu3,e3,g3,m3⟩:=eU (a:=a3) (p:=p) ha.2.2.2 hp;obtain⟨s2,o2,bs2,f2⟩:=lF bl2 bu3 g2 m3;have HF:Hid (aA s2 lo3 0 0=aA a0 a1 a2 a3/2^n.toNat):=Lib.hid (by
  rw[en,rJ,←Nat.div_div_eq_div_mul];have hq':aA a0 a1 a2 a3/18446744073709551616^((2:Int)).toNat=aA a2 a3 0 0:=by
   rw[show 18446744073709551616^((2:Int)).toNat=340282366920938463463374607431768211456 by simp];obtain⟨k0,k1,k2,k3⟩:=ha;unfold aA; omega
  rw[hq'];obtain⟨v2,x2,y2,z2⟩:=e2.out;obtain⟨v3,x3,y3,z3⟩:=e3.out;have f2:=f2.out;refine oR (m:=v2) ?_ y2;have hD:aA s2 lo3 0 0*2^p=1*(s2*2^p)+18446744073709551616*(lo3*2^p):=by
   unfold aA; simp only[Nat.add_mul,Nat.mul_add,Nat.mul_assoc,Nat.mul_zero,Nat.zero_mul,Nat.add_zero]; omega
  rw[hD];have k2:s2*2^p=lo2*2^p+up3*2^p:=by rw[f2,Nat.add_mul]
  unfold aA;omega)
 clear e2 g2 m2 e3 g3 m3 f2;have HEN:=Lib.hid en;clear en
 go_enter func70,ntmps70
 go_wp2_with fail;refine wp_loop_rounds 3 ?_;rw[rounds_succ];go_wp2_with fail
 go_region
 go_wp2_with fail;rw[rounds_succ];go_wp2_with fail;rw[rounds_succ];go_wp2_with fail;refine bodyPost_ret (v:=.agg #[.int .u64 s2,.int .u64 lo3,.int .u64 0,.int .u64 0]) (by simp[results,results70,go_sem]) rfl ?_;refine⟨s2,lo3,0,0,rfl,⟨bs2,bl3,(by omega),(by omega)⟩,HF.out,?_⟩
 repeat (first|exact Below.refl _ _|refine Below.drew ?_|refine Below.alloc ?_ (by first|(simp; done)|(simp; omega)) _)
theorem WS (a0 a1 a2 a3:Nat) (n:Int) (ha:bH a0 a1 a2 a3) (h0:0<n) (hq:n/64=3) (w:World) :
  Calls prog 70 #[.agg #[.int .u64 a0,.int .u64 a1,.int .u64 a2,.int .u64 a3],.int .i64 n] w (fD (fun v=>v=aA a0 a1 a2 a3/2^n.toNat) w):=by
 obtain⟨p,hr,hp,en⟩:=PV (by omega) 3 hq (by omega);have b1:n<256:=by omega
 have t0:decide (n≤0)=false:=decide_eq_false (by omega);obtain⟨lo3,up3,u3,d3,bl3,bu3,e3,g3,m3⟩:=eU (a:=a3) (p:=p) ha.2.2.2 hp;have HF:Hid (aA lo3 0 0 0=aA a0 a1 a2 a3/2^n.toNat):=Lib.hid (by
  rw[en,rJ,←Nat.div_div_eq_div_mul];have hq':aA a0 a1 a2 a3/18446744073709551616^((3:Int)).toNat=aA a3 0 0 0:=by
   rw[show 18446744073709551616^((3:Int)).toNat=6277101735386680763835789423207666416102355444464034512896 by simp];obtain⟨k0,k1,k2,k3⟩:=ha;unfold aA; omega
  rw[hq'];obtain⟨v3,x3,y3,z3⟩:=e3.out;refine oR (m:=v3) ?_ y3;have hD:aA lo3 0 0 0*2^p=1*(lo3*2^p):=by
   unfold aA; simp only[Nat.add_mul,Nat.mul_add,Nat.mul_assoc,Nat.mul_zero,Nat.zero_mul,Nat.add_zero]; omega
  rw[hD];unfold aA;omega)
 clear e3 g3 m3;have HEN:=Lib.hid en;clear en
 go_enter func70,ntmps70
 go_wp2_with fail;refine wp_loop_rounds 2 ?_;rw[rounds_succ];go_wp2_with fail;rw[rounds_succ];go_wp2_with fail;refine bodyPost_ret (v:=.agg #[.int .u64 lo3,.int .u64 0,.int .u64 0,.int .u64 0]) (by simp[results,results70,go_sem]) rfl ?_;refine⟨lo3,0,0,0,rfl,⟨bl3,(by omega),(by omega),(by omega)⟩,HF.out,?_⟩
 repeat (first|exact Below.refl _ _|refine Below.drew ?_|refine Below.alloc ?_ (by first|(simp; done)|(simp; omega)) _)
theorem GO (a0 a1 a2 a3:Nat) (n:Int) (ha:bH a0 a1 a2 a3) (h0:n≤0) (w:World) :
  Calls prog 70 #[.agg #[.int .u64 a0,.int .u64 a1,.int .u64 a2,.int .u64 a3],.int .i64 n] w (fD (fun v=>v=aA a0 a1 a2 a3) w):=by
 have t0:decide (n≤0)=true:=decide_eq_true h0
 go_enter func70,ntmps70
 go_wp2_with fail;refine bodyPost_ret (v:=.agg #[.int .u64 a0,.int .u64 a1,.int .u64 a2,.int .u64 a3]) (by simp[results,results70,go_sem]) rfl ?_;refine⟨a0,a1,a2,a3,rfl,ha,rfl,?_⟩
 repeat (first|exact Below.refl _ _|refine Below.drew ?_|refine Below.alloc ?_ (by first|(simp; done)|(simp; omega)) _)
theorem MQ (a0 a1 a2 a3:Nat) (n:Int) (ha:bH a0 a1 a2 a3) (h0:256≤n) (h1:n≤9223372036854775807) (w:World) :
  Calls prog 70 #[.agg #[.int .u64 a0,.int .u64 a1,.int .u64 a2,.int .u64 a3],.int .i64 n] w (fD (fun v=>v=0) w):=by
 have t0:decide (n≤0)=false:=decide_eq_false (by omega);obtain⟨q,hq,bq,bq'⟩:∃q:Nat,n/64=(q:Int)∧4≤q∧q≤9223372036854775807:=⟨(n/64).toNat,by omega,by omega,by omega⟩
 have t1:decide ((0:Int)<4-(q:Int))=false:=decide_eq_false (by omega)
 go_enter func70,ntmps70
 go_wp2_with fail;refine wp_loop_rounds 1 ?_;rw[rounds_succ];go_wp2_with fail;refine bodyPost_ret (v:=.agg #[.int .u64 0,.int .u64 0,.int .u64 0,.int .u64 0]) (by simp[results,results70,go_sem]) rfl ?_;refine⟨0,0,0,0,rfl,⟨by omega,by omega,by omega,by omega⟩,rfl,?_⟩
 repeat (first|exact Below.refl _ _|refine Below.drew ?_|refine Below.alloc ?_ (by first|(simp; done)|(simp; omega)) _)
theorem CW (a0 a1 a2 a3:Nat) (n:Int) (ha:bH a0 a1 a2 a3) (h0:0≤n) (h1:n≤9223372036854775807) (w:World) :
  Calls prog 70 #[.agg #[.int .u64 a0,.int .u64 a1,.int .u64 a2,.int .u64 a3],.int .i64 n] w (fD (fun v=>v=aA a0 a1 a2 a3/2^n.toNat) w):=by
 by_cases hz:n≤0
 ·refine (GO a0 a1 a2 a3 n ha hz w).mono ?_
  rintro e w' ⟨s0,s1,s2,s3,he,hs,hv,hb⟩
  refine⟨s0,s1,s2,s3,he,hs,?_,hb⟩;have:=bW ha;rw[hv,show n.toNat=0 by omega,Nat.pow_zero]; omega
 ·by_cases hf:256≤n
  ·refine (MQ a0 a1 a2 a3 n ha hf h1 w).mono ?_
   rintro e w' ⟨s0,s1,s2,s3,he,hs,hv,hb⟩
   refine⟨s0,s1,s2,s3,he,hs,?_,hb⟩;rw[hv];have hp:=Nat.pow_le_pow_right (show 0<2 by omega) (show 256≤n.toNat by omega);have:=bW ha;exact (Nat.div_eq_of_lt (Nat.lt_of_lt_of_le this hp)).symm
  ·have hq:n/64=0∨n/64=1∨n/64=2∨n/64=3:=by omega
   rcases hq with h|h|h|h
   ·exact WV a0 a1 a2 a3 n ha (by omega) h w
   ·exact WU a0 a1 a2 a3 n ha (by omega) h w
   ·exact WT a0 a1 a2 a3 n ha (by omega) h w
   ·exact WS a0 a1 a2 a3 n ha (by omega) h w
section
variable {P:Program} {ops:Array Oper} {Q:Exit→Act→World→Prop} {md:Region.Mode} {S:World→Prop} {L:Nat}
def dP (P:Program) (md:Region.Mode) (ops:Array Oper) (Q:Exit→Act→World→Prop) (S:World→Prop) (L:Nat):Nat→Array Bool→Act→World→Prop
 | 0,got,a,w=>Region.ready md ops got=[]∧Q .normal a w
 | m+1,got,a,w =>
  (Region.ready md ops got=[]→Q .normal a w) ∧
  ∀i∈Region.ready md ops got,wpOp P ops Q i (fun b u=>(i=L∨S u)∧dP P md ops Q S L m (got.setIfInBounds i true) b u) a w
theorem nZ:∀(m:Nat) (got:Array Bool) (a:Act) (w:World),dP P md ops Q S L m got a w→wpAny P md ops Q m got a w
 | 0,_,_,_,h=>h
 | m+1,_,_,_,h=>⟨h.1,fun i hi=>wpOp_mono (fun b u k=>nZ m _ b u k.2) (h.2 i hi)⟩
def FY (md:Region.Mode) (ops:Array Oper) (L i:Nat):Bool :=
 match ops[L]? with
 | some o=>o.after.any fun e=>Region.binds md e&&e.on==i
 | none=>false
theorem xZ {i:Nat} {oi:Oper} {v:Value} (hi:ops[i]?=some oi) (hsel:∀(j:Nat) (o:Oper) cs b,ops[j]?=some o→o.op ≠ .select cs b)
  (hL:FY md ops L i=true) (hQ:∀c a w,Q (.panic c) (a.put oi.dst v) w→Q (.panic c) a w) :
  ∀(m:Nat) (got:Array Bool) (a:Act) (w:World),
   (∀j oj,ops[j]?=some oj→j≠i→got.getD j true=false→(∀e∈oj.after,Region.binds md e=true→e.on≠i)→oi.apart ops oj=true) →
   i∈Region.ready md ops got→YieldsIf P ops S oi v a→S w →
   dP P md ops Q S L m (got.setIfInBounds i true) (a.put oi.dst v) w→dP P md ops Q S L (m+1) got a w:=by
 intro m
 induction m with
 | zero =>
  intro got a w _ hr hy hS H;refine⟨fun h=>(by rw[h]at hr; cases hr),fun j hj => ?_⟩
  by_cases hji:j=i
  ·subst hji; exact hy.wpOp hi hS ⟨.inr hS,H⟩
  ·have:=ready_mono hj hji;rw[H.1]at this;cases this
 | succ m ih =>
  intro got a w hfree hr hy hS H;refine⟨fun h=>(by rw[h]at hr; cases hr),fun j hj => ?_⟩
  by_cases hji:j=i
  ·subst hji; exact hy.wpOp hi hS ⟨.inr hS,H⟩
  ·obtain⟨hun,oj,hoj,hall⟩:=mem_ready.1 hj;have hno:∀e∈oj.after,Region.binds md e=true→e.on≠i:=fun e he hb heq=>by
    have h1:=hall e he hb;have h0:=(mem_ready.1 hr).1;rw[heq]at h1
    rcases Nat.lt_or_ge i got.size with h'|h'
    ·simp[h']at h0 h1; rw[h0]at h1; cases h1
    ·simp[Array.getElem?_eq_none h']at h1
   have hjL:j≠L:=fun e=>by
    subst e;unfold FY at hL;rw[hoj]at hL;obtain⟨x,hx,hx2⟩:=Array.any_eq_true'.1 hL;simp only[Bool.and_eq_true,beq_iff_eq]at hx2;exact hno x hx hx2.1 hx2.2
   have h2:=wpOp_putIf hoj (hfree j oj hoj hji hun hno) (fun cs b=>hsel i oi cs b hi) (fun cs b=>hsel j oj cs b hoj) hQ hy (H.2 j (ready_mono hj hji));have hfree':∀k ok,ops[k]?=some ok→k≠i→(got.setIfInBounds j true).getD k true=false →
     (∀e∈ok.after,Region.binds md e=true→e.on≠i)→oi.apart ops ok=true:=fun k ok hk hki hu hn=>by
    refine hfree k ok hk hki ?_ hn
    by_cases hjk:j=k
    ·subst hjk; exact hun
    ·rw[getD_set_ne true hjk]at hu; exact hu
   refine wpOp_mono (fun b u h3=>⟨h3.2.1,ih (got.setIfInBounds j true) b u hfree' (ready_mono hr (Ne.symm hji)) h3.1 (h3.2.1.resolve_left hjL) ?_⟩) h2;rw[Array.setIfInBounds_comm _ _ hji];exact h3.2.2
theorem aE {i:Nat} {oi:Oper} {v:Value} {m:Nat} {got:Array Bool} {a:Act} {w:World} (hi:ops[i]?=some oi)
  (hs:Region.noSelect ops=true) (hf:Region.free md ops got i=true) (hr:(Region.ready md ops got).contains i=true) (hL:FY md ops L i=true)
  (hQ:∀c a w,Q (.panic c) (a.put oi.dst v) w→Q (.panic c) a w) (hS:S w) (hy:YieldsIf P ops S oi v a)
  (h:dP P md ops Q S L m (got.setIfInBounds i true) (a.put oi.dst v) w):dP P md ops Q S L (m+1) got a w :=
 xZ hi (Region.noSelect_spec hs) hL hQ m got a w (Region.free_spec hi hf) (by simpa using hr) hy hS h
theorem aH {i:Nat} {o:Oper} {m:Nat} {got:Array Bool} {a:Act} {w:World} (hr:Region.ready md ops got=[i]) (ho:ops[i]?=some o)
  (h:∀K:Act→World→Prop,Shut (∀b u,(i=L∨S u)→((i=L∨S u)→dP P md ops Q S L m (got.setIfInBounds i true) b u)→K b u)→if Region.wanted o (yielded ops a.tmps)=true then Oper.wp P o a w K Q else K (a.put o.dst undef) w) :
  dP P md ops Q S L (m+1) got a w :=
 ⟨fun h0=>(by rw[hr]at h0; cases h0),fun j hj=>by
  rw[hr]at hj;obtain rfl:j=i:=by simpa using hj
  exact wpOp_step ho (fun K hK=>h K (fun b u hS hW=>hK b u ⟨hS,hW hS⟩))⟩
theorem bR {got:Array Bool} {a:Act} {w:World} (hr:Region.ready md ops got=[]) (h:Q .normal a w):dP P md ops Q S L 0 got a w:=⟨hr,h⟩
theorem cQ (S:World→Prop) (L:Nat) {id:Nat} {a:Act} {w:World} (hm:P.follows .mixedOrders=true)
  (h:dP P .any ops Q S L ops.size (Array.replicate ops.size false) a w.drew):(Code.region id ops true).wp P Q a w :=
 wp_region_any hm (nZ _ _ _ _ h)
end
theorem fR {P:Program} {ops:Array Oper} {Q:Exit→Act→World→Prop} {md:Region.Mode} {S:World→Prop} {L:Nat} {i j:Nat} {oi oj:Oper} {m:Nat} {got:Array Bool} {a:Act} {w:World} (hr:Region.ready md ops got=[i,j]) (hoi:ops[i]?=some oi) (hoj:ops[j]?=some oj)
  (h1:∀K:Act→World→Prop,Shut (∀b u,(i=L∨S u)→((i=L∨S u)→dP P md ops Q S L m (got.setIfInBounds i true) b u)→K b u)→if Region.wanted oi (yielded ops a.tmps)=true then Oper.wp P oi a w K Q else K (a.put oi.dst undef) w)
  (h2:∀K:Act→World→Prop,Shut (∀b u,(j=L∨S u)→((j=L∨S u)→dP P md ops Q S L m (got.setIfInBounds j true) b u)→K b u)→if Region.wanted oj (yielded ops a.tmps)=true then Oper.wp P oj a w K Q else K (a.put oj.dst undef) w) :
  dP P md ops Q S L (m+1) got a w :=
 ⟨fun h0=>(by rw[hr]at h0; cases h0),fun k hk=>by
  rw[hr]at hk
  rcases List.mem_cons.1 hk with rfl|hk
  ·exact wpOp_step hoi (fun K hK=>h1 K (fun b u hS hW=>hK b u ⟨hS,hW hS⟩))
  ·obtain rfl:k=j:=by simpa using hk
   exact wpOp_step hoj (fun K hK=>h2 K (fun b u hS hW=>hK b u ⟨hS,hW hS⟩))⟩
def FieldIs (f:Int) (F:FC):Prop:=f=1∧F=FP∨f=2∧F=FR
theorem FieldIs.ok {f:Int} {F:FC} (h:FieldIs f F):F.Ok:=by rcases h with⟨_,rfl⟩|⟨_,rfl⟩; exact Aw; exact Au
theorem FieldIs.root {f:Int} {F:FC} (h:FieldIs f F):∃g,Root F.M g:=by
 rcases h with⟨_,rfl⟩|⟨_,rfl⟩
 ·exact⟨3,by rw[Dn]; exact SW⟩
 ·exact⟨5,by rw[Av]; exact GT⟩
def Bad1 (f:Int) (A:Nat) (c:Int):Prop:=f≠1∧f≠2∧c=1∨∃F,FieldIs f F∧¬A<F.M∧c=21
def Bad2 (f:Int) (A B:Nat) (c:Int):Prop:=Bad1 f A c∨∃F,FieldIs f F∧A<F.M∧¬B<F.M∧c=21
def As (c:Int) (V:Nat) (w:World) (e:Ending) (w':World):Prop :=
 ∃s0 s1 s2 s3:Nat,e=.returned (.tuple #[.agg #[.int .u64 s0,.int .u64 s1,.int .u64 s2,.int .u64 s3],.int .i64 c])∧bH s0 s1 s2 s3∧aA s0 s1 s2 s3=V∧Below w.heap.size w w'
theorem WH:bH 0 0 0 0:=⟨by omega,by omega,by omega,by omega⟩
theorem KIs.new (w:World) (F:FC) (t:TypeId):KIs (w.alloc (.cells #[.int .u64 F.m0,.int .u64 F.m1,.int .u64 F.m2,.int .u64 F.m3,.int .u64 F.inv,.int .u64 F.s0,.int .u64 F.s1,.int .u64 F.s2,.int .u64 F.s3] t)) w.heap.size F :=
 ⟨by rw[World.cell?_alloc_new]; rfl,by rw[World.cell?_alloc_new]; rfl,by rw[World.cell?_alloc_new]; rfl,by rw[World.cell?_alloc_new]; rfl,by rw[World.cell?_alloc_new]; rfl,by rw[World.cell?_alloc_new]; rfl,by rw[World.cell?_alloc_new]; rfl,by rw[World.cell?_alloc_new]; rfl,by rw[World.cell?_alloc_new]; rfl,by simp⟩
set_option maxHeartbeats 2000000 in
theorem fP (f:Int) (F:FC) (hf:FieldIs f F) (w:World):Calls prog 77 #[.int .i64 f] w fun e w'=>e=.returned (.tuple #[.agg #[.int .u64 F.m0,.int .u64 F.m1,.int .u64 F.m2,.int .u64 F.m3,.int .u64 F.inv,.int .u64 F.s0,.int .u64 F.s1,.int .u64 F.s2,.int .u64 F.s3],.int .i64 0])∧Below w.heap.size w w':=by
 rcases hf with⟨rfl,rfl⟩|⟨rfl,rfl⟩
 ·go_enter func77,ntmps77
  go_wp2_with fail;refine bodyPost_ret (v:=.tuple #[.agg #[.int .u64 FP.m0,.int .u64 FP.m1,.int .u64 FP.m2,.int .u64 FP.m3,.int .u64 FP.inv,.int .u64 FP.s0,.int .u64 FP.s1,.int .u64 FP.s2,.int .u64 FP.s3],.int .i64 0]) (by simp[results,results77,go_sem,FP]) rfl ?_;refine⟨rfl,?_⟩
  repeat (first|exact Below.refl _ _|refine Below.drew ?_|refine Below.alloc ?_ (by first|(simp; done)|(simp; omega)) _|refine Below.setCell ?_ (by simp) _)
 ·go_enter func77,ntmps77
  go_wp2_with fail;refine bodyPost_ret (v:=.tuple #[.agg #[.int .u64 FR.m0,.int .u64 FR.m1,.int .u64 FR.m2,.int .u64 FR.m3,.int .u64 FR.inv,.int .u64 FR.s0,.int .u64 FR.s1,.int .u64 FR.s2,.int .u64 FR.s3],.int .i64 0]) (by simp[results,results77,go_sem,FR]) rfl ?_;refine⟨rfl,?_⟩
  repeat (first|exact Below.refl _ _|refine Below.drew ?_|refine Below.alloc ?_ (by first|(simp; done)|(simp; omega)) _|refine Below.setCell ?_ (by simp) _)
set_option maxHeartbeats 2000000 in
theorem ES (f:Int) (h1:f≠1) (h2:f≠2) (w:World):Calls prog 77 #[.int .i64 f] w fun e w'=>e=.returned (.tuple #[.agg #[.int .u64 0,.int .u64 0,.int .u64 0,.int .u64 0,.int .u64 0,.int .u64 0,.int .u64 0,.int .u64 0,.int .u64 0],.int .i64 1])∧Below w.heap.size w w':=by
 have t1:(f==1)=false:=by simp[h1]
 have t2:(f==2)=false:=by simp[h2]
 go_enter func77,ntmps77
 go_wp2_with fail;refine bodyPost_ret (v:=.tuple #[.agg #[.int .u64 0,.int .u64 0,.int .u64 0,.int .u64 0,.int .u64 0,.int .u64 0,.int .u64 0,.int .u64 0,.int .u64 0],.int .i64 1]) (by simp[results,results77,go_sem]) rfl ?_;refine⟨rfl,?_⟩
 repeat (first|exact Below.refl _ _|refine Below.drew ?_|refine Below.alloc ?_ (by first|(simp; done)|(simp; omega)) _|refine Below.setCell ?_ (by simp) _)
theorem vN (w:World):Calls prog 79 #[.int .i64 1] w fun e w'=>e=.returned (.int .i64 1)∧w'=w:=by
 go_enter func79,ntmps79
 go_wp2_with fail;go_ret;exact⟨rfl,rfl⟩
theorem vM (w:World):Calls prog 79 #[.int .i64 0] w fun e w'=>e=.returned (.int .i64 21)∧w'=w:=by
 go_enter func79,ntmps79
 go_wp2_with fail;go_ret;exact⟨rfl,rfl⟩
set_option maxHeartbeats 2000000 in
theorem PT (f:Int) (F:FC) (hf:FieldIs f F) (a0 a1 a2 a3 b0 b1 b2 b3:Nat) (ha:bH a0 a1 a2 a3) (hb:bH b0 b1 b2 b3) (la:aA a0 a1 a2 a3<F.M) (lb:aA b0 b1 b2 b3<F.M) (w:World) :
  Calls prog 87 #[.int .i64 f,.agg #[.int .u64 a0,.int .u64 a1,.int .u64 a2,.int .u64 a3],.agg #[.int .u64 b0,.int .u64 b1,.int .u64 b2,.int .u64 b3]] w (As 0 ((aA a0 a1 a2 a3+aA b0 b1 b2 b3)%F.M) w):=by
 go_enter func87,ntmps87
 go_wp2_with fail;refine (fP f F hf _).mono ?_
 rintro e w1 ⟨rfl,hbl⟩
 have M1:=((((Mem.nil w).new (w.heap.size) a0 a1 a2 a3 24 (by simp)).new (w.heap.size+1) b0 b1 b2 b3 24 (by simp)).new (w.heap.size+1+1) 0 0 0 0 24 (by simp)).on hbl;clear hbl;have z0:w.heap.size<w1.heap.size:=M1.lt (c0:=a0) (c1:=a1) (c2:=a2) (c3:=a3) (by simp);have z1:w.heap.size+1<w1.heap.size:=M1.lt (c0:=b0) (c1:=b1) (c2:=b2) (c3:=b3) (by simp);have z2:w.heap.size+1+1<w1.heap.size:=M1.lt (c0:=0) (c1:=0) (c2:=0) (c3:=0) (by simp);have HM:=Lib.hid (M1.on ((Below.refl _ _).alloc (Nat.le_refl _) (.cells #[.int .u64 F.m0,.int .u64 F.m1,.int .u64 F.m2,.int .u64 F.m3,.int .u64 F.inv,.int .u64 F.s0,.int .u64 F.s1,.int .u64 F.s2,.int .u64 F.s3] 101)));have KK:=Lib.hid (KIs.new w1 F 101);have kr:=M1.row (b:=w.heap.size) (c0:=a0) (c1:=a1) (c2:=a2) (c3:=a3) (by simp);have x0:=kr.c0; have x1:=kr.c1; have x2:=kr.c2; have x3:=kr.c3;clear kr;have xl:=M1.lt (b:=w.heap.size) (c0:=a0) (c1:=a1) (c2:=a2) (c3:=a3) (by simp);go_wp2_with fail;refine (dJ F hf.ok w1.heap.size a0 a1 a2 a3 ha _ KK.out).mono ?_
 rintro e w2 ⟨he,hbl⟩
 rw[show xU (aA a0 a1 a2 a3) F.M=true from decide_eq_true la]at he;subst he;have HM':=Lib.hid (HM.out.on hbl);have KK':=Lib.hid (KK.out.same hbl);have zk:=KK'.out.lt;clear HM KK hbl M1;have HM:=HM';have KK:=KK';clear HM' KK';clear x0 x1 x2 x3 xl zk;have kr:=HM.out.row (b:=w.heap.size+1) (c0:=b0) (c1:=b1) (c2:=b2) (c3:=b3) (by simp);have x0:=kr.c0; have x1:=kr.c1; have x2:=kr.c2; have x3:=kr.c3;clear kr;have xl:=HM.out.lt (b:=w.heap.size+1) (c0:=b0) (c1:=b1) (c2:=b2) (c3:=b3) (by simp);go_wp2_with fail;refine (dJ F hf.ok w1.heap.size b0 b1 b2 b3 hb _ KK.out).mono ?_
 rintro e w3 ⟨he,hbl⟩
 rw[show xU (aA b0 b1 b2 b3) F.M=true from decide_eq_true lb]at he;subst he;have HM':=Lib.hid (HM.out.on hbl);have KK':=Lib.hid (KK.out.same hbl);have zk:=KK'.out.lt;clear HM KK hbl;have HM:=HM';have KK:=KK';clear HM' KK';clear x0 x1 x2 x3 xl zk;have kr:=HM.out.row (b:=w.heap.size) (c0:=a0) (c1:=a1) (c2:=a2) (c3:=a3) (by simp);have x0:=kr.c0; have x1:=kr.c1; have x2:=kr.c2; have x3:=kr.c3;clear kr;have xl:=HM.out.lt (b:=w.heap.size) (c0:=a0) (c1:=a1) (c2:=a2) (c3:=a3) (by simp);have kr:=HM.out.row (b:=w.heap.size+1) (c0:=b0) (c1:=b1) (c2:=b2) (c3:=b3) (by simp);have u0:=kr.c0; have u1:=kr.c1; have u2:=kr.c2; have u3:=kr.c3;clear kr;have ul:=HM.out.lt (b:=w.heap.size+1) (c0:=b0) (c1:=b1) (c2:=b2) (c3:=b3) (by simp);go_wp2_with fail;refine (zB F hf.ok w1.heap.size a0 a1 a2 a3 b0 b1 b2 b3 ha hb la lb _ KK.out).mono ?_
 rintro e w4 ⟨s0,s1,s2,s3,rfl,hs,hv,hbl⟩
 have HV:=Lib.hid hv;clear hv;have HM':=Lib.hid (HM.out.on hbl);have KK':=Lib.hid (KK.out.same hbl);have zk:=KK'.out.lt;clear HM KK hbl;have HM:=HM';have KK:=KK';clear HM' KK';clear x0 x1 x2 x3 xl u0 u1 u2 u3 ul zk;have kr:=HM.out.row (b:=w.heap.size+1+1) (c0:=0) (c1:=0) (c2:=0) (c3:=0) (by simp);have y0:=kr.c0; have y1:=kr.c1; have y2:=kr.c2; have y3:=kr.c3; have yf:=kr.fr;clear kr;have yl:=HM.out.lt (b:=w.heap.size+1+1) (c0:=0) (c1:=0) (c2:=0) (c3:=0) (by simp);go_wp2_with fail;refine bodyPost_ret (v:=.tuple #[.agg #[.int .u64 s0,.int .u64 s1,.int .u64 s2,.int .u64 s3],.int .i64 0]) (by simp[results,results87,go_sem, *]) rfl ?_;refine⟨_,_,_,_,rfl,hs,HV.out,?_⟩;exact aV HM.out.1 (by omega) _ _ _ _
set_option maxHeartbeats 2000000 in
theorem PP (f:Int) (F:FC) (hf:FieldIs f F) (a0 a1 a2 a3 b0 b1 b2 b3:Nat) (ha:bH a0 a1 a2 a3) (hb:bH b0 b1 b2 b3) (la:aA a0 a1 a2 a3<F.M) (lb:aA b0 b1 b2 b3<F.M) (w:World) :
  Calls prog 88 #[.int .i64 f,.agg #[.int .u64 a0,.int .u64 a1,.int .u64 a2,.int .u64 a3],.agg #[.int .u64 b0,.int .u64 b1,.int .u64 b2,.int .u64 b3]] w (As 0 ((aA a0 a1 a2 a3+F.M-aA b0 b1 b2 b3)%F.M) w):=by
 go_enter func88,ntmps88
 go_wp2_with fail;refine (fP f F hf _).mono ?_
 rintro e w1 ⟨rfl,hbl⟩
 have M1:=((((Mem.nil w).new (w.heap.size) a0 a1 a2 a3 24 (by simp)).new (w.heap.size+1) b0 b1 b2 b3 24 (by simp)).new (w.heap.size+1+1) 0 0 0 0 24 (by simp)).on hbl;clear hbl;have z0:w.heap.size<w1.heap.size:=M1.lt (c0:=a0) (c1:=a1) (c2:=a2) (c3:=a3) (by simp);have z1:w.heap.size+1<w1.heap.size:=M1.lt (c0:=b0) (c1:=b1) (c2:=b2) (c3:=b3) (by simp);have z2:w.heap.size+1+1<w1.heap.size:=M1.lt (c0:=0) (c1:=0) (c2:=0) (c3:=0) (by simp);have HM:=Lib.hid (M1.on ((Below.refl _ _).alloc (Nat.le_refl _) (.cells #[.int .u64 F.m0,.int .u64 F.m1,.int .u64 F.m2,.int .u64 F.m3,.int .u64 F.inv,.int .u64 F.s0,.int .u64 F.s1,.int .u64 F.s2,.int .u64 F.s3] 101)));have KK:=Lib.hid (KIs.new w1 F 101);have kr:=M1.row (b:=w.heap.size) (c0:=a0) (c1:=a1) (c2:=a2) (c3:=a3) (by simp);have x0:=kr.c0; have x1:=kr.c1; have x2:=kr.c2; have x3:=kr.c3;clear kr;have xl:=M1.lt (b:=w.heap.size) (c0:=a0) (c1:=a1) (c2:=a2) (c3:=a3) (by simp);go_wp2_with fail;refine (dJ F hf.ok w1.heap.size a0 a1 a2 a3 ha _ KK.out).mono ?_
 rintro e w2 ⟨he,hbl⟩
 rw[show xU (aA a0 a1 a2 a3) F.M=true from decide_eq_true la]at he;subst he;have HM':=Lib.hid (HM.out.on hbl);have KK':=Lib.hid (KK.out.same hbl);have zk:=KK'.out.lt;clear HM KK hbl M1;have HM:=HM';have KK:=KK';clear HM' KK';clear x0 x1 x2 x3 xl zk;have kr:=HM.out.row (b:=w.heap.size+1) (c0:=b0) (c1:=b1) (c2:=b2) (c3:=b3) (by simp);have x0:=kr.c0; have x1:=kr.c1; have x2:=kr.c2; have x3:=kr.c3;clear kr;have xl:=HM.out.lt (b:=w.heap.size+1) (c0:=b0) (c1:=b1) (c2:=b2) (c3:=b3) (by simp);go_wp2_with fail;refine (dJ F hf.ok w1.heap.size b0 b1 b2 b3 hb _ KK.out).mono ?_
 rintro e w3 ⟨he,hbl⟩
 rw[show xU (aA b0 b1 b2 b3) F.M=true from decide_eq_true lb]at he;subst he;have HM':=Lib.hid (HM.out.on hbl);have KK':=Lib.hid (KK.out.same hbl);have zk:=KK'.out.lt;clear HM KK hbl;have HM:=HM';have KK:=KK';clear HM' KK';clear x0 x1 x2 x3 xl zk;have kr:=HM.out.row (b:=w.heap.size) (c0:=a0) (c1:=a1) (c2:=a2) (c3:=a3) (by simp);have x0:=kr.c0; have x1:=kr.c1; have x2:=kr.c2; have x3:=kr.c3;clear kr;have xl:=HM.out.lt (b:=w.heap.size) (c0:=a0) (c1:=a1) (c2:=a2) (c3:=a3) (by simp);have kr:=HM.out.row (b:=w.heap.size+1) (c0:=b0) (c1:=b1) (c2:=b2) (c3:=b3) (by simp);have u0:=kr.c0; have u1:=kr.c1; have u2:=kr.c2; have u3:=kr.c3;clear kr;have ul:=HM.out.lt (b:=w.heap.size+1) (c0:=b0) (c1:=b1) (c2:=b2) (c3:=b3) (by simp);go_wp2_with fail;refine (wP F hf.ok w1.heap.size a0 a1 a2 a3 b0 b1 b2 b3 ha hb la lb _ KK.out).mono ?_
 rintro e w4 ⟨s0,s1,s2,s3,rfl,hs,hv,hbl⟩
 have HV:=Lib.hid hv;clear hv;have HM':=Lib.hid (HM.out.on hbl);have KK':=Lib.hid (KK.out.same hbl);have zk:=KK'.out.lt;clear HM KK hbl;have HM:=HM';have KK:=KK';clear HM' KK';clear x0 x1 x2 x3 xl u0 u1 u2 u3 ul zk;have kr:=HM.out.row (b:=w.heap.size+1+1) (c0:=0) (c1:=0) (c2:=0) (c3:=0) (by simp);have y0:=kr.c0; have y1:=kr.c1; have y2:=kr.c2; have y3:=kr.c3; have yf:=kr.fr;clear kr;have yl:=HM.out.lt (b:=w.heap.size+1+1) (c0:=0) (c1:=0) (c2:=0) (c3:=0) (by simp);go_wp2_with fail;refine bodyPost_ret (v:=.tuple #[.agg #[.int .u64 s0,.int .u64 s1,.int .u64 s2,.int .u64 s3],.int .i64 0]) (by simp[results,results88,go_sem, *]) rfl ?_;refine⟨_,_,_,_,rfl,hs,HV.out,?_⟩;exact aV HM.out.1 (by omega) _ _ _ _
set_option maxHeartbeats 2000000 in
theorem PR (f:Int) (F:FC) (hf:FieldIs f F) (a0 a1 a2 a3 b0 b1 b2 b3:Nat) (ha:bH a0 a1 a2 a3) (hb:bH b0 b1 b2 b3) (la:aA a0 a1 a2 a3<F.M) (lb:aA b0 b1 b2 b3<F.M) (w:World) :
  Calls prog 86 #[.int .i64 f,.agg #[.int .u64 a0,.int .u64 a1,.int .u64 a2,.int .u64 a3],.agg #[.int .u64 b0,.int .u64 b1,.int .u64 b2,.int .u64 b3]] w (As 0 (aA a0 a1 a2 a3*aA b0 b1 b2 b3%F.M) w):=by
 go_enter func86,ntmps86
 go_wp2_with fail;refine (fP f F hf _).mono ?_
 rintro e w1 ⟨rfl,hbl⟩
 have M1:=((((Mem.nil w).new (w.heap.size) a0 a1 a2 a3 24 (by simp)).new (w.heap.size+1) b0 b1 b2 b3 24 (by simp)).new (w.heap.size+1+1) 0 0 0 0 24 (by simp)).on hbl;clear hbl;have z0:w.heap.size<w1.heap.size:=M1.lt (c0:=a0) (c1:=a1) (c2:=a2) (c3:=a3) (by simp);have z1:w.heap.size+1<w1.heap.size:=M1.lt (c0:=b0) (c1:=b1) (c2:=b2) (c3:=b3) (by simp);have z2:w.heap.size+1+1<w1.heap.size:=M1.lt (c0:=0) (c1:=0) (c2:=0) (c3:=0) (by simp);have HM:=Lib.hid (M1.on ((Below.refl _ _).alloc (Nat.le_refl _) (.cells #[.int .u64 F.m0,.int .u64 F.m1,.int .u64 F.m2,.int .u64 F.m3,.int .u64 F.inv,.int .u64 F.s0,.int .u64 F.s1,.int .u64 F.s2,.int .u64 F.s3] 101)));have KK:=Lib.hid (KIs.new w1 F 101);have kr:=M1.row (b:=w.heap.size) (c0:=a0) (c1:=a1) (c2:=a2) (c3:=a3) (by simp);have x0:=kr.c0; have x1:=kr.c1; have x2:=kr.c2; have x3:=kr.c3;clear kr;have xl:=M1.lt (b:=w.heap.size) (c0:=a0) (c1:=a1) (c2:=a2) (c3:=a3) (by simp);go_wp2_with fail;refine (dJ F hf.ok w1.heap.size a0 a1 a2 a3 ha _ KK.out).mono ?_
 rintro e w2 ⟨he,hbl⟩
 rw[show xU (aA a0 a1 a2 a3) F.M=true from decide_eq_true la]at he;subst he;have HM':=Lib.hid (HM.out.on hbl);have KK':=Lib.hid (KK.out.same hbl);have zk:=KK'.out.lt;clear HM KK hbl M1;have HM:=HM';have KK:=KK';clear HM' KK';clear x0 x1 x2 x3 xl zk;have kr:=HM.out.row (b:=w.heap.size+1) (c0:=b0) (c1:=b1) (c2:=b2) (c3:=b3) (by simp);have x0:=kr.c0; have x1:=kr.c1; have x2:=kr.c2; have x3:=kr.c3;clear kr;have xl:=HM.out.lt (b:=w.heap.size+1) (c0:=b0) (c1:=b1) (c2:=b2) (c3:=b3) (by simp);go_wp2_with fail;refine (dJ F hf.ok w1.heap.size b0 b1 b2 b3 hb _ KK.out).mono ?_
 rintro e w3 ⟨he,hbl⟩
 rw[show xU (aA b0 b1 b2 b3) F.M=true from decide_eq_true lb]at he;subst he;have HM':=Lib.hid (HM.out.on hbl);have KK':=Lib.hid (KK.out.same hbl);have zk:=KK'.out.lt;clear HM KK hbl;have HM:=HM';have KK:=KK';clear HM' KK';clear x0 x1 x2 x3 xl zk;have kr:=HM.out.row (b:=w.heap.size) (c0:=a0) (c1:=a1) (c2:=a2) (c3:=a3) (by simp);have x0:=kr.c0; have x1:=kr.c1; have x2:=kr.c2; have x3:=kr.c3;clear kr;have xl:=HM.out.lt (b:=w.heap.size) (c0:=a0) (c1:=a1) (c2:=a2) (c3:=a3) (by simp);have kr:=HM.out.row (b:=w.heap.size+1) (c0:=b0) (c1:=b1) (c2:=b2) (c3:=b3) (by simp);have u0:=kr.c0; have u1:=kr.c1; have u2:=kr.c2; have u3:=kr.c3;clear kr;have ul:=HM.out.lt (b:=w.heap.size+1) (c0:=b0) (c1:=b1) (c2:=b2) (c3:=b3) (by simp);go_wp2_with fail;refine (qU F hf.ok w1.heap.size a0 a1 a2 a3 b0 b1 b2 b3 ha hb lb _ KK.out).mono ?_
 rintro e w4 ⟨s0,s1,s2,s3,rfl,hs,hv,hbl⟩
 have HV:=Lib.hid hv;clear hv;have HM':=Lib.hid (HM.out.on hbl);have KK':=Lib.hid (KK.out.same hbl);have zk:=KK'.out.lt;clear HM KK hbl;have HM:=HM';have KK:=KK';clear HM' KK';clear x0 x1 x2 x3 xl u0 u1 u2 u3 ul zk;have kr:=HM.out.row (b:=w.heap.size+1+1) (c0:=0) (c1:=0) (c2:=0) (c3:=0) (by simp);have y0:=kr.c0; have y1:=kr.c1; have y2:=kr.c2; have y3:=kr.c3; have yf:=kr.fr;clear kr;have yl:=HM.out.lt (b:=w.heap.size+1+1) (c0:=0) (c1:=0) (c2:=0) (c3:=0) (by simp);go_wp2_with fail;refine bodyPost_ret (v:=.tuple #[.agg #[.int .u64 s0,.int .u64 s1,.int .u64 s2,.int .u64 s3],.int .i64 0]) (by simp[results,results86,go_sem, *]) rfl ?_;refine⟨_,_,_,_,rfl,hs,HV.out,?_⟩;exact aV HM.out.1 (by omega) _ _ _ _
set_option maxHeartbeats 2000000 in
theorem zU (f c:Int) (a0 a1 a2 a3:Nat) (ha:bH a0 a1 a2 a3) (h:Bad1 f (aA a0 a1 a2 a3) c) (w:World) :
  Calls prog 85 #[.int .i64 f,.agg #[.int .u64 a0,.int .u64 a1,.int .u64 a2,.int .u64 a3]] w fun e w'=>e=.returned (.int .i64 c)∧Below w.heap.size w w':=by
 rcases h with⟨h1,h2,rfl⟩|⟨F,hf,la,rfl⟩
 ·go_enter func85,ntmps85
  go_wp2_with fail;refine (ES f h1 h2 _).mono ?_
  rintro e w1 ⟨rfl,hbl⟩
  have M1:=((Mem.nil w).new (w.heap.size) a0 a1 a2 a3 24 (by simp)).on hbl;clear hbl;have z0:w.heap.size<w1.heap.size:=M1.lt (c0:=a0) (c1:=a1) (c2:=a2) (c3:=a3) (by simp);have HM:=Lib.hid (M1.on ((Below.refl _ _).alloc (Nat.le_refl _) (.cells #[.int .u64 0,.int .u64 0,.int .u64 0,.int .u64 0,.int .u64 0,.int .u64 0,.int .u64 0,.int .u64 0,.int .u64 0] 101)));go_wp2_with fail;refine (vN _).mono ?_
  rintro e w2 ⟨rfl,rfl⟩
  go_wp2_with fail;refine bodyPost_ret (v:=.int .i64 1) (by simp[results,results85,go_sem, *]) rfl ?_;exact⟨rfl,HM.out.1⟩
 ·go_enter func85,ntmps85
  go_wp2_with fail;refine (fP f F hf _).mono ?_
  rintro e w1 ⟨rfl,hbl⟩
  have M1:=((Mem.nil w).new (w.heap.size) a0 a1 a2 a3 24 (by simp)).on hbl;clear hbl;have z0:w.heap.size<w1.heap.size:=M1.lt (c0:=a0) (c1:=a1) (c2:=a2) (c3:=a3) (by simp);have HM:=Lib.hid (M1.on ((Below.refl _ _).alloc (Nat.le_refl _) (.cells #[.int .u64 F.m0,.int .u64 F.m1,.int .u64 F.m2,.int .u64 F.m3,.int .u64 F.inv,.int .u64 F.s0,.int .u64 F.s1,.int .u64 F.s2,.int .u64 F.s3] 101)));have KK:=Lib.hid (KIs.new w1 F 101);have kr:=M1.row (b:=w.heap.size) (c0:=a0) (c1:=a1) (c2:=a2) (c3:=a3) (by simp);have x0:=kr.c0; have x1:=kr.c1; have x2:=kr.c2; have x3:=kr.c3;clear kr;have xl:=M1.lt (b:=w.heap.size) (c0:=a0) (c1:=a1) (c2:=a2) (c3:=a3) (by simp);go_wp2_with fail;refine (dJ F hf.ok w1.heap.size a0 a1 a2 a3 ha _ KK.out).mono ?_
  rintro e w2 ⟨he,hbl⟩
  rw[show xU (aA a0 a1 a2 a3) F.M=false from decide_eq_false la]at he;subst he;have HM':=Lib.hid (HM.out.on hbl);have KK':=Lib.hid (KK.out.same hbl);have zk:=KK'.out.lt;clear HM KK hbl M1;have HM:=HM';have KK:=KK';clear HM' KK';clear x0 x1 x2 x3 xl zk;go_wp2_with fail;refine (vM _).mono ?_
  rintro e w3 ⟨rfl,rfl⟩
  go_wp2_with fail;refine bodyPost_ret (v:=.int .i64 21) (by simp[results,results85,go_sem, *]) rfl ?_;exact⟨rfl,HM.out.1⟩
set_option maxHeartbeats 2000000 in
theorem EN (f:Int) (F:FC) (hf:FieldIs f F) (a0 a1 a2 a3:Nat) (ha:bH a0 a1 a2 a3) (la:aA a0 a1 a2 a3<F.M) (w:World) :
  Calls prog 85 #[.int .i64 f,.agg #[.int .u64 a0,.int .u64 a1,.int .u64 a2,.int .u64 a3]] w (fun e w'=>e=.returned (.int .i64 0)∧Below w.heap.size w w'):=by
 go_enter func85,ntmps85
 go_wp2_with fail;refine (fP f F hf _).mono ?_
 rintro e w1 ⟨rfl,hbl⟩
 have M1:=((Mem.nil w).new (w.heap.size) a0 a1 a2 a3 24 (by simp)).on hbl;clear hbl;have z0:w.heap.size<w1.heap.size:=M1.lt (c0:=a0) (c1:=a1) (c2:=a2) (c3:=a3) (by simp);have HM:=Lib.hid (M1.on ((Below.refl _ _).alloc (Nat.le_refl _) (.cells #[.int .u64 F.m0,.int .u64 F.m1,.int .u64 F.m2,.int .u64 F.m3,.int .u64 F.inv,.int .u64 F.s0,.int .u64 F.s1,.int .u64 F.s2,.int .u64 F.s3] 101)));have KK:=Lib.hid (KIs.new w1 F 101);have kr:=M1.row (b:=w.heap.size) (c0:=a0) (c1:=a1) (c2:=a2) (c3:=a3) (by simp);have x0:=kr.c0; have x1:=kr.c1; have x2:=kr.c2; have x3:=kr.c3;clear kr;have xl:=M1.lt (b:=w.heap.size) (c0:=a0) (c1:=a1) (c2:=a2) (c3:=a3) (by simp);go_wp2_with fail;refine (dJ F hf.ok w1.heap.size a0 a1 a2 a3 ha _ KK.out).mono ?_
 rintro e w2 ⟨he,hbl⟩
 rw[show xU (aA a0 a1 a2 a3) F.M=true from decide_eq_true la]at he;subst he;have HM':=Lib.hid (HM.out.on hbl);have KK':=Lib.hid (KK.out.same hbl);have zk:=KK'.out.lt;clear HM KK hbl M1;have HM:=HM';have KK:=KK';clear HM' KK';clear x0 x1 x2 x3 xl zk;go_wp2_with fail;go_ret;exact⟨rfl,HM.out.1⟩
set_option maxHeartbeats 2000000 in
theorem PS (f:Int) (F:FC) (hf:FieldIs f F) (a0 a1 a2 a3 b0 b1 b2 b3:Nat) (ha:bH a0 a1 a2 a3) (hb:bH b0 b1 b2 b3) (la:aA a0 a1 a2 a3<F.M) (lb:aA b0 b1 b2 b3<F.M) (hz:aA b0 b1 b2 b3≠0) (w:World) :
  Calls prog 89 #[.int .i64 f,.agg #[.int .u64 a0,.int .u64 a1,.int .u64 a2,.int .u64 a3],.agg #[.int .u64 b0,.int .u64 b1,.int .u64 b2,.int .u64 b3]] w (As 0 (aA a0 a1 a2 a3*(aA b0 b1 b2 b3^(F.M-2))%F.M) w):=by
 have HE:=Lib.hid (show ∀w,(Op.equalIn 10000 24 (.agg #[.int .u64 b0,.int .u64 b1,.int .u64 b2,.int .u64 b3]) (.agg #[.int .u64 0,.int .u64 0,.int .u64 0,.int .u64 0])).run prog w=.ok false w from fun w=>by
  have h:=KT 9998 b0 b1 b2 b3 0 0 0 0 w;have q:KU b0 b1 b2 b3 0 0 0 0=false:=by
   cases q:KU b0 b1 b2 b3 0 0 0 0
   ·rfl
   ·exact absurd (((oQ hb WH).1 q).trans rfl) hz
  rw[q]at h;exact h)
 have hG:=KX;clear hz
 go_enter func89,ntmps89
 go_wp2_with fail;refine (fP f F hf _).mono ?_
 rintro e w1 ⟨rfl,hbl⟩
 have M1:=((((Mem.nil w).new (w.heap.size) a0 a1 a2 a3 24 (by simp)).new (w.heap.size+1) b0 b1 b2 b3 24 (by simp)).new (w.heap.size+1+1) 0 0 0 0 24 (by simp)).on hbl;clear hbl;have z0:w.heap.size<w1.heap.size:=M1.lt (c0:=a0) (c1:=a1) (c2:=a2) (c3:=a3) (by simp);have z1:w.heap.size+1<w1.heap.size:=M1.lt (c0:=b0) (c1:=b1) (c2:=b2) (c3:=b3) (by simp);have z2:w.heap.size+1+1<w1.heap.size:=M1.lt (c0:=0) (c1:=0) (c2:=0) (c3:=0) (by simp);have HM:=Lib.hid (M1.on ((Below.refl _ _).alloc (Nat.le_refl _) (.cells #[.int .u64 F.m0,.int .u64 F.m1,.int .u64 F.m2,.int .u64 F.m3,.int .u64 F.inv,.int .u64 F.s0,.int .u64 F.s1,.int .u64 F.s2,.int .u64 F.s3] 101)));have KK:=Lib.hid (KIs.new w1 F 101);have kr:=M1.row (b:=w.heap.size) (c0:=a0) (c1:=a1) (c2:=a2) (c3:=a3) (by simp);have x0:=kr.c0; have x1:=kr.c1; have x2:=kr.c2; have x3:=kr.c3;clear kr;have xl:=M1.lt (b:=w.heap.size) (c0:=a0) (c1:=a1) (c2:=a2) (c3:=a3) (by simp);go_wp2_with fail;refine (dJ F hf.ok w1.heap.size a0 a1 a2 a3 ha _ KK.out).mono ?_
 rintro e w2 ⟨he,hbl⟩
 rw[show xU (aA a0 a1 a2 a3) F.M=true from decide_eq_true la]at he;subst he;have HM':=Lib.hid (HM.out.on hbl);have KK':=Lib.hid (KK.out.same hbl);have zk:=KK'.out.lt;clear HM KK hbl M1;have HM:=HM';have KK:=KK';clear HM' KK';clear x0 x1 x2 x3 xl zk;have kr:=HM.out.row (b:=w.heap.size+1) (c0:=b0) (c1:=b1) (c2:=b2) (c3:=b3) (by simp);have x0:=kr.c0; have x1:=kr.c1; have x2:=kr.c2; have x3:=kr.c3;clear kr;have xl:=HM.out.lt (b:=w.heap.size+1) (c0:=b0) (c1:=b1) (c2:=b2) (c3:=b3) (by simp);go_wp2_with fail;refine (dJ F hf.ok w1.heap.size b0 b1 b2 b3 hb _ KK.out).mono ?_
 rintro e w3 ⟨he,hbl⟩
 rw[show xU (aA b0 b1 b2 b3) F.M=true from decide_eq_true lb]at he;subst he;have HM':=Lib.hid (HM.out.on hbl);have KK':=Lib.hid (KK.out.same hbl);have zk:=KK'.out.lt;clear HM KK hbl;have HM:=HM';have KK:=KK';clear HM' KK';clear x0 x1 x2 x3 xl zk;have kr:=HM.out.row (b:=w.heap.size+1) (c0:=b0) (c1:=b1) (c2:=b2) (c3:=b3) (by simp);have u0:=kr.c0; have u1:=kr.c1; have u2:=kr.c2; have u3:=kr.c3;clear kr;have ul:=HM.out.lt (b:=w.heap.size+1) (c0:=b0) (c1:=b1) (c2:=b2) (c3:=b3) (by simp);have hE:=HE.out;go_wp2_with fail;clear u0 u1 u2 u3 ul hE;refine cQ (fun wx=>Mem w wx [(w.heap.size+1,b0,b1,b2,b3),(w.heap.size,a0,a1,a2,a3)]) 6 (by kernel_rfl) ?_;have HM':=Lib.hid (HM.out.drewN 1);have KK':=Lib.hid (KK.out.drewN 1);clear HM KK;have HM:=HM';have KK:=KK';clear HM' KK';have HS:=HM.out.sub (rs':=[(w.heap.size+1,b0,b1,b2,b3),(w.heap.size,a0,a1,a2,a3)]) (by simp);refine aE (i:=0) (v:=.agg #[.int .u64 b0,.int .u64 b1,.int .u64 b2,.int .u64 b3]) rfl (by kernel_rfl) (by kernel_rfl) (by kernel_rfl) (by kernel_rfl) (fun _ _ _ h=>h) HS (Or.inl ⟨by kernel_rfl,fun wx hx => ?_⟩) ?_
 ·have kr:=hx.row (b:=w.heap.size+1) (c0:=b0) (c1:=b1) (c2:=b2) (c3:=b3) (by simp);have x0:=kr.c0; have x1:=kr.c1; have x2:=kr.c2; have x3:=kr.c3;clear kr HS hx;go_simp
 simp only[Act.put,List.setIfInBounds_toArray,List.set_cons_zero,List.set_cons_succ];refine aE (i:=3) (v:=.agg #[.int .u64 a0,.int .u64 a1,.int .u64 a2,.int .u64 a3]) rfl (by kernel_rfl) (by kernel_rfl) (by kernel_rfl) (by kernel_rfl) (fun _ _ _ h=>h) HS (Or.inl ⟨by kernel_rfl,fun wx hx => ?_⟩) ?_
 ·have kr:=hx.row (b:=w.heap.size) (c0:=a0) (c1:=a1) (c2:=a2) (c3:=a3) (by simp);have x0:=kr.c0; have x1:=kr.c1; have x2:=kr.c2; have x3:=kr.c3;clear kr HS hx;go_simp
 simp only[Act.put,List.setIfInBounds_toArray,List.set_cons_zero,List.set_cons_succ];clear HS;refine aH (i:=1) (by kernel_rfl) rfl (fun K hK => ?_);go_simp;refine (lD F hf.ok w1.heap.size b0 b1 b2 b3 hb _ KK.out).mono ?_
 rintro e w4 ⟨i0,i1,i2,i3,rfl,hi,hv,hbl⟩
 have HVi:=Lib.hid hv;clear hv;have HM':=Lib.hid (HM.out.on hbl);have KK':=Lib.hid (KK.out.same hbl);have zk_w4:=KK'.out.lt;clear HM KK hbl;have HM:=HM';have KK:=KK';clear HM' KK';have HS:=HM.out.sub (rs':=[(w.heap.size+1,b0,b1,b2,b3),(w.heap.size,a0,a1,a2,a3)]) (by simp);refine hK.out _ _ (Or.inr HS) (fun _ => ?_);clear hK K;clear HS;refine aH (i:=2) (by kernel_rfl) rfl (fun K hK => ?_);go_simp;refine (pT F hf.ok (aA b0 b1 b2 b3) w1.heap.size i0 i1 i2 i3 hi HVi.out _ KK.out).mono ?_
 rintro e w5 ⟨j0,j1,j2,j3,rfl,hj,hv,hbl⟩
 have HVj:=Lib.hid hv;clear hv;have HM':=Lib.hid (HM.out.on hbl);have KK':=Lib.hid (KK.out.same hbl);have zk_w5:=KK'.out.lt;clear HM KK hbl;have HM:=HM';have KK:=KK';clear HM' KK';have HS:=HM.out.sub (rs':=[(w.heap.size+1,b0,b1,b2,b3),(w.heap.size,a0,a1,a2,a3)]) (by simp);refine hK.out _ _ (Or.inr HS) (fun _ => ?_);clear hK K;clear HS;refine aH (i:=4) (by kernel_rfl) rfl (fun K hK => ?_);go_simp;refine (eV F hf.ok w1.heap.size j0 j1 j2 j3 a0 a1 a2 a3 hj ha la _ KK.out).mono ?_
 rintro e w6 ⟨s0,s1,s2,s3,rfl,hs,hv,hbl⟩
 have HVs:=Lib.hid (show aA s0 s1 s2 s3=aA a0 a1 a2 a3*(aA b0 b1 b2 b3^(F.M-2))%F.M by rw[hv,HVj.out,pO hf.ok,Nat.mul_comm]);clear hv;have HM':=Lib.hid (HM.out.on hbl);have KK':=Lib.hid (KK.out.same hbl);have zk_w6:=KK'.out.lt;clear HM KK hbl;have HM:=HM';have KK:=KK';clear HM' KK';have HS:=HM.out.sub (rs':=[(w.heap.size+1,b0,b1,b2,b3),(w.heap.size,a0,a1,a2,a3)]) (by simp);refine hK.out _ _ (Or.inr HS) (fun _ => ?_);clear hK K;clear HS;have kr:=HM.out.row (b:=w.heap.size+1+1) (c0:=0) (c1:=0) (c2:=0) (c3:=0) (by simp);have y0:=kr.c0; have y1:=kr.c1; have y2:=kr.c2; have y3:=kr.c3; have yf:=kr.fr;clear kr;have yl:=HM.out.lt (b:=w.heap.size+1+1) (c0:=0) (c1:=0) (c2:=0) (c3:=0) (by simp);refine aH (i:=5) (by kernel_rfl) rfl (fun K hK => ?_);go_simp;have HM':=Lib.hid ((HM.out.sub (rs':=[(w.heap.size+1+1,0,0,0,0),(w.heap.size+1,b0,b1,b2,b3),(w.heap.size,a0,a1,a2,a3)]) (by simp)).put s0 s1 s2 s3 (by omega) (by intro r hr; simp at hr; rcases hr with rfl|rfl<;>simp<;>omega));clear HM;have HM:=HM';clear HM';have HS:=HM.out.sub (rs':=[(w.heap.size+1,b0,b1,b2,b3),(w.heap.size,a0,a1,a2,a3)]) (by simp);refine hK.out _ _ (Or.inr HS) (fun _ => ?_);clear hK K;clear HS;refine aH (i:=6) (by kernel_rfl) rfl (fun K hK => ?_);go_simp;refine hK.out _ _ (Or.inl rfl) (fun _ => ?_);clear hK K;refine bR (by kernel_rfl) ?_;go_wp2_with fail;refine bodyPost_ret (v:=.tuple #[.agg #[.int .u64 s0,.int .u64 s1,.int .u64 s2,.int .u64 s3],.int .i64 0]) (by simp[results,results89,go_sem, *]) rfl ?_;exact⟨_,_,_,_,rfl,hs,HVs.out,HM.out.1⟩
end Go.Proofs.Ytjeplinbleofnaa
namespace Go.Proofs.Ytjeplinbleofnaa.Ex
open Go.Proofs.Try
open Go.RowKit
abbrev RM:Nat:=Go.Proofs.Ytjeplinbleofnaa.FR.M
abbrev aC:Nat:=115792089237316195423570985008687907853269984665640564039457584007913129639936
theorem pB {x:Nat} (h:x<RM):x<aC:=Nat.lt_trans h (by decide)
theorem eG:0<RM:=by decide
def UX:kH
 | [.v (.im (.int .u64 (.ofNat n)))]=>some ([n<18446744073709551616],.one (.fl [.q n]))
 | _=>none
theorem Bx:∀cs pre r,UX cs=some (pre,r)→aU pre→∀(args:List Value) (w:World),cE w cs args→bC prog 46 r args w:=by
 intro cs pre r hg hp args w ha;unfold UX at hg;split at hg
 ·rename_i n;cases hg
  match args,ha with
  | [t],ha =>
   have h1:t=.int .u64 (Int.ofNat n):=ha.1;subst h1;refine (wK n hp.1 w).mono ?_
   rintro e w' ⟨rfl,hb⟩
   refine⟨?_,hb⟩;obtain⟨e0,e1,e2,e3⟩:=gN (s0:=n) (s1:=0) (s2:=0) (s3:=0) (x:=n) ⟨hp.1,by omega,by omega,by omega⟩ (by have:=hp.1; omega) (by unfold aA; omega);show Ending.returned _=Ending.returned (.agg #[.int .u64 (fw n 0:Nat),.int .u64 (fw n 1:Nat),.int .u64 (fw n 2:Nat),.int .u64 (fw n 3:Nat)]);rw[←e0,←e1,←e2,←e3];rfl
  | [],ha=>exact ha.elim
  | _::_::_,ha=>exact ha.2.elim
 ·cases hg
def el (f:Nat→Nat) (j:Nat):List At:=[.q (f j)]
def LV (w:World) (v:Value) (N:Nat) (f:Nat→Nat):Prop:=∃p m,v=.slice p N m∧N≤m∧(∀j,j<N→f j<aC)∧(0<N→∃b o,p=some ⟨b,o,none⟩∧b<w.heap.size∧w.rangeAt b o (aB (LN (el f) 0 N)))
theorem LV.on {w w':World} {v:Value} {N:Nat} {f:Nat→Nat} (h:LV w v N f) (hb:Below w.heap.size w w'):LV w' v N f:=by
 obtain⟨p,m,h1,h2,h3,h4⟩:=h;exact⟨p,m,h1,h2,h3,fun h=>by
  obtain⟨b,o,e,h5,h6⟩:=h4 h;exact⟨b,o,e,Nat.lt_of_lt_of_le h5 hb.size,jU hb h5 h6⟩⟩
theorem LV.nil (w:World) (f:Nat→Nat):LV w (.slice none 0 0) 0 f:=⟨none,0,rfl,Nat.le_refl _,fun j h=>by omega,fun h=>by omega⟩
def xO (w:World) (idx:Nat→Option Nat) (ld:Nat→Option (List At)) (gen:Nat→Option Value):Ext:={ Ext.none with idx:=idx,ld:=ld,gen:=gen,old:=oldOf w,T2:=Em,T3:=El,T4:=Ei,T5:=Ej,T6:=Ek }
theorem QT (w:World) (idx:Nat→Option Nat) (ld:Nat→Option (List At)) (gen:Nat→Option Value):iW prog { qG prog with x:=xO w idx ld gen } w.heap.size w :=
 ⟨(aS _).1,PU (fun b o l h=>h) (fun w' _=>FrAt.none _ _) (fun w' _=>FsAt.none _ _)⟩
def dM (x y:Nat):Nat:=(x+y)%RM
def eO (x y:Nat):Nat:=(x+RM-y)%RM
def aJ (x y:Nat):Nat:=x*y%RM
def QZ (x:Nat):Nat:=1*(x^(RM-2))%RM
theorem bP (x y:Nat):dM x y<RM:=Nat.mod_lt _ eG
theorem cC (x y:Nat):eO x y<RM:=Nat.mod_lt _ eG
theorem aD (x y:Nat):aJ x y<RM:=Nat.mod_lt _ eG
theorem tB (x:Nat):QZ x<RM:=Nat.mod_lt _ eG
theorem pV:FieldIs 2 Go.Proofs.Ytjeplinbleofnaa.FR:=Or.inr ⟨rfl,rfl⟩
theorem nG {x:Nat} (h:x<RM):aA (fw x 0) (fw x 1) (fw x 2) (fw x 3)=x:=gS (pB h)
def RR (op:Nat→Nat→Nat):kH
 | [.v (.im (.int .i64 2)),.v (.fl l),.v (.fl m)]=>match oK l,oK m with
  | some x,some y=>some ([x<RM,y<RM],.many [.fl [.q (op x y)],.im (.int .i64 0)])
  | _,_=>none
 | _=>none
theorem zP {fid:FuncId} {op:Nat→Nat→Nat} (hlt:∀x y,op x y<RM) (h:∀x y,x<RM→y<RM→∀w,Calls prog fid #[.int .i64 2,.agg (aB [At.q x]).toArray,.agg (aB [At.q y]).toArray] w (As 0 (op x y) w)) :
  ∀cs pre r,RR op cs=some (pre,r)→aU pre→∀(args:List Value) (w:World),cE w cs args→bC prog fid r args w:=by
 intro cs pre r hg hp args w ha;unfold RR at hg;split at hg
 ·rename_i l m;split at hg
  ·rename_i x y hx hy;cases hg
   match args,ha with
   | [t,v,u],ha =>
    obtain⟨h1,h2,h3,_⟩:=ha;have h1:t=.int .i64 2:=h1;have h2:v=.agg (aB l).toArray:=h2;have h3:u=.agg (aB m).toArray:=h3;rw[cJ l x hx]at h2;rw[cJ m y hy]at h3;subst h1; subst h2; subst h3;refine (h x y hp.1 hp.2.1 w).mono ?_
    rintro e w' ⟨s0,s1,s2,s3,rfl,hs,hv,hb⟩
    obtain⟨rfl,rfl,rfl,rfl⟩:=gN hs (pB (hlt x y)) hv;exact⟨rfl,hb⟩
   | [],ha=>exact ha.elim
   | [_],ha=>exact ha.2.elim
   | [_,_],ha=>exact ha.2.2.elim
   | _::_::_::_::_,ha=>exact ha.2.2.2.elim
  ·cases hg
 ·cases hg
theorem XK:∀cs pre r,RR dM cs=some (pre,r)→aU pre→∀(args:List Value) (w:World),cE w cs args→bC prog 87 r args w :=
 zP bP fun x y hx hy w=>by
  have:=PT 2 _ pV _ _ _ _ _ _ _ _ (cR x) (cR y) (by rw[nG hx]; exact hx) (by rw[nG hy]; exact hy) w;rw[nG hx,nG hy]at this;exact this
theorem XH:∀cs pre r,RR eO cs=some (pre,r)→aU pre→∀(args:List Value) (w:World),cE w cs args→bC prog 88 r args w :=
 zP cC fun x y hx hy w=>by
  have:=PP 2 _ pV _ _ _ _ _ _ _ _ (cR x) (cR y) (by rw[nG hx]; exact hx) (by rw[nG hy]; exact hy) w;rw[nG hx,nG hy]at this;exact this
theorem XI:∀cs pre r,RR aJ cs=some (pre,r)→aU pre→∀(args:List Value) (w:World),cE w cs args→bC prog 86 r args w :=
 zP aD fun x y hx hy w=>by
  have:=PR 2 _ pV _ _ _ _ _ _ _ _ (cR x) (cR y) (by rw[nG hx]; exact hx) (by rw[nG hy]; exact hy) w;rw[nG hx,nG hy]at this;exact this
def LI (x:Nat):Int:=if x<RM then 0 else 21
def UZ:kH
 | [.v (.im (.int .i64 2)),.v (.fl l)]=>match oK l with
  | some x=>some ([x<aC],.one (.im (.int .i64 (LI x))))
  | none=>none
 | _=>none
theorem NQ:∀cs pre r,UZ cs=some (pre,r)→aU pre→∀(args:List Value) (w:World),cE w cs args→bC prog 85 r args w:=by
 intro cs pre r hg hp args w ha;unfold UZ at hg;split at hg
 ·rename_i l;split at hg
  ·rename_i x hx;cases hg
   match args,ha with
   | [t,v],ha =>
    obtain⟨h1,h2,_⟩:=ha;have h1:t=.int .i64 2:=h1;have h2:v=.agg (aB l).toArray:=h2;rw[cJ l x hx]at h2;subst h1; subst h2;unfold LI
    by_cases h:x<RM
    ·rw[if_pos h];exact EN 2 _ pV _ _ _ _ (cR x) (by rw[gS hp.1]; exact h) w
    ·rw[if_neg h];exact zU 2 21 _ _ _ _ (cR x) (Or.inr ⟨_,pV,by rw[gS hp.1]; exact h,rfl⟩) w
   | [],ha=>exact ha.elim
   | [_],ha=>exact ha.2.elim
   | _::_::_::_,ha=>exact ha.2.2.elim
  ·cases hg
 ·cases hg
theorem cI:1<RM:=by decide
def KR:CR (Fin RM):=Cu RM cI
def fK (x:Nat):Fin RM:=⟨x%RM,Nat.mod_lt _ eG⟩
theorem iD (x y:Nat):fK (dM x y)=KR.add (fK x) (fK y):=Fin.ext (by
 show (x+y)%RM%RM=(x%RM+y%RM)%RM;rw[Nat.mod_mod,Nat.add_mod])
theorem fJ (x y:Nat):fK (aJ x y)=KR.mul (fK x) (fK y):=Fin.ext (by
 show x*y%RM%RM=(x%RM)*(y%RM)%RM;rw[Nat.mod_mod,Nat.mul_mod])
theorem MF (x:Nat) {y:Nat} (hy:y<RM):fK (eO x y)=KR.add (fK x) (KR.neg (fK y)):=Fin.ext (by
 show (x+RM-y)%RM%RM=(x%RM+(0+RM-y%RM)%RM)%RM;rw[Nat.mod_mod,Nat.mod_eq_of_lt hy,Nat.mod_add_mod,Nat.add_mod_mod,show x+(0+RM-y)=x+RM-y by omega])
theorem iC {x:Nat} (h:x<RM):(fK x).1=x:=Nat.mod_eq_of_lt h
theorem AT {x y:Nat} (hx:x<RM) (hy:y<RM) (h:fK x=fK y):x=y:=by
 have:=congrArg Fin.val h
 rwa [iC hx,iC hy]at this
theorem GE:fK 0=KR.zero:=rfl
theorem GD:fK 1=KR.one:=Fin.ext (Nat.mod_eq_of_lt cI)
open Classical
section
variable {R:Type} (K:CR R) (inv:R→R)
abbrev Jc (R:Type):=R×R×R
def xT (p:Jc R):Pt R:=if p.2.2=K.zero then none else some (K.mul p.1 (K.mul (inv p.2.2) (inv p.2.2)),K.mul p.2.1 (K.mul (K.mul (inv p.2.2) (inv p.2.2)) (inv p.2.2)))
def Db (p:Jc R):R:=K.add (K.add (K.mul p.1 p.1) (K.mul p.1 p.1)) (K.mul p.1 p.1)
def Da (p:Jc R):R:=K.add (K.mul p.2.1 p.2.1) (K.mul p.2.1 p.2.1)
def Dy (p:Jc R):R:=K.add (Da K p) (Da K p)
def Dc (p:Jc R):R:=K.mul p.1 (Dy K p)
def dX (p:Jc R):R:=K.sub (K.mul (Db K p) (Db K p)) (K.add (Dc K p) (Dc K p))
def dY (p:Jc R):R:=K.sub (K.mul (Db K p) (K.sub (Dc K p) (dX K p))) (K.mul (Dy K p) (Da K p))
def PG (p:Jc R):Jc R:=(dX K p,dY K p,K.mul (K.add p.2.1 p.2.1) p.2.2)
variable {K} {inv} {b:R}
theorem jM {p:Jc R} (h:p.2.2=K.zero):xT K inv p=none:=if_pos h
theorem mB {p:Jc R} (h:p.2.2≠K.zero):xT K inv p=some (K.mul p.1 (K.mul (inv p.2.2) (inv p.2.2)),K.mul p.2.1 (K.mul (K.mul (inv p.2.2) (inv p.2.2)) (inv p.2.2))):=if_neg h
theorem CV (E:EC K inv b) {x y l:R} (hy:K.add y y≠K.zero) (h:K.mul l (K.add y y)=K.add (K.add (K.mul x x) (K.mul x x)) (K.mul x x)):lO K inv x y x y=l:=by
 unfold lO;rw[if_pos rfl];refine E.F.cancel hy ?_;have hi:=E.F.inv _ hy;generalize inv (K.add y y)=k at hi;exact iV (K:=K) (c1:=(K.add (K.add (K.mul x x) (K.mul x x)) (K.mul x x))) (c2:=(K.neg K.one)) hi h (aL K (bI K [y,x,k,l]) ((Z0+Z0)*((Z1*Z1+Z1*Z1+Z1*Z1)*Z2)-(Z0+Z0)*Z3) ((Z1*Z1+Z1*Z1+Z1*Z1)*((Z0+Z0)*Z2-RE.one)+(-RE.one)*(Z3*(Z0+Z0)-(Z1*Z1+Z1*Z1+Z1*Z1))) (by kernel_rfl))
theorem PB (E:EC K inv b) {p:Jc R} (hp:On K b (xT K inv p)):xT K inv (PG K p)=xS K inv (xT K inv p) (xT K inv p):=by
 obtain⟨x,y,z⟩:=p
 by_cases hz:z=K.zero
 ·have h1:xT K inv (x,y,z)=none:=jM hz;rw[h1];refine jM ?_;show K.mul (K.add y y) z=K.zero;rw[hz,K.mul_zero]
 ·have h1:=mB (K:=K) (inv:=inv) (p:=(x,y,z)) hz;rw[h1]at hp ⊢;dsimp only at hp ⊢;have hi:=E.F.inv z hz;generalize inv z=i at hi hp ⊢;have hY:=E.y_ne (show K.mul (K.mul y (K.mul (K.mul i i) i)) (K.mul y (K.mul (K.mul i i) i))=_ from hp);have hy:y≠K.zero:=fun e=>hY (by rw[e,K.zero_mul])
  have hyy:=E.dbl_ne hy;have hz3:K.mul (K.add y y) z≠K.zero:=E.F.mul_ne hyy hz;have h3:=mB (K:=K) (inv:=inv) (p:=PG K (x,y,z)) hz3;rw[h3];show some (K.mul (dX K (x,y,z)) (K.mul (inv (K.mul (K.add y y) z)) (inv (K.mul (K.add y y) z))),K.mul (dY K (x,y,z)) (K.mul (K.mul (inv (K.mul (K.add y y) z)) (inv (K.mul (K.add y y) z))) (inv (K.mul (K.add y y) z))))=_;have hj:=E.F.inv _ hz3;generalize inv (K.mul (K.add y y) z)=j at hj ⊢;have e:i=K.mul (K.add y y) j:=iV (K:=K) (c1:=(K.neg i)) (c2:=(K.mul (K.add y y) j)) hj hi (aL K (bI K [i,y,j,z]) (Z0-(Z1+Z1)*Z2) ((-Z0)*((Z1+Z1)*Z3*Z2-RE.one)+(Z1+Z1)*Z2*(Z3*Z0-RE.one)) (by kernel_rfl));subst e;have hYY:=E.dbl_ne hY;rw[oL (fun h=>hYY h.2)];dsimp only;have hs:=CV (l:=(K.mul (K.add (K.add (K.mul x x) (K.mul x x)) (K.mul x x)) j)) (x:=(K.mul x (K.mul (K.mul (K.add y y) j) (K.mul (K.add y y) j)))) E hYY (aL K (bI K [x,j,y]) ((Z0*Z0+Z0*Z0+Z0*Z0)*Z1*(Z2*((Z2+Z2)*Z1*((Z2+Z2)*Z1)*((Z2+Z2)*Z1))+Z2*((Z2+Z2)*Z1*((Z2+Z2)*Z1)*((Z2+Z2)*Z1)))) (Z0*((Z2+Z2)*Z1*((Z2+Z2)*Z1))*(Z0*((Z2+Z2)*Z1*((Z2+Z2)*Z1)))+Z0*((Z2+Z2)*Z1*((Z2+Z2)*Z1))*(Z0*((Z2+Z2)*Z1*((Z2+Z2)*Z1)))+Z0*((Z2+Z2)*Z1*((Z2+Z2)*Z1))*(Z0*((Z2+Z2)*Z1*((Z2+Z2)*Z1)))) (by kernel_rfl));rw[hs];refine congrArg some (Prod.ext ?_ ?_)
  ·exact aL K (bI K [x,y,j]) (((Z0*Z0+Z0*Z0+Z0*Z0)*(Z0*Z0+Z0*Z0+Z0*Z0)-(Z0*(Z1*Z1+Z1*Z1+(Z1*Z1+Z1*Z1))+Z0*(Z1*Z1+Z1*Z1+(Z1*Z1+Z1*Z1))))*(Z2*Z2)) ((Z0*Z0+Z0*Z0+Z0*Z0)*Z2*((Z0*Z0+Z0*Z0+Z0*Z0)*Z2)-Z0*((Z1+Z1)*Z2*((Z1+Z1)*Z2))-Z0*((Z1+Z1)*Z2*((Z1+Z1)*Z2))) (by kernel_rfl)
  ·exact aL K (bI K [x,y,j]) (((Z0*Z0+Z0*Z0+Z0*Z0)*(Z0*(Z1*Z1+Z1*Z1+(Z1*Z1+Z1*Z1))-((Z0*Z0+Z0*Z0+Z0*Z0)*(Z0*Z0+Z0*Z0+Z0*Z0)-(Z0*(Z1*Z1+Z1*Z1+(Z1*Z1+Z1*Z1))+Z0*(Z1*Z1+Z1*Z1+(Z1*Z1+Z1*Z1)))))-(Z1*Z1+Z1*Z1+(Z1*Z1+Z1*Z1))*(Z1*Z1+Z1*Z1))*(Z2*Z2*Z2)) ((Z0*Z0+Z0*Z0+Z0*Z0)*Z2*(Z0*((Z1+Z1)*Z2*((Z1+Z1)*Z2))-((Z0*Z0+Z0*Z0+Z0*Z0)*Z2*((Z0*Z0+Z0*Z0+Z0*Z0)*Z2)-Z0*((Z1+Z1)*Z2*((Z1+Z1)*Z2))-Z0*((Z1+Z1)*Z2*((Z1+Z1)*Z2))))-Z1*((Z1+Z1)*Z2*((Z1+Z1)*Z2)*((Z1+Z1)*Z2))) (by kernel_rfl)
def JU (K:CR R) (p:Jc R):Jc R:=(p.1,K.sub K.zero p.2.1,p.2.2)
theorem PA (p:Jc R):xT K inv (JU K p)=RA K (xT K inv p):=by
 by_cases h:p.2.2=K.zero
 ·rw[jM h,jM (p:=JU K p) h]; rfl
 ·rw[mB h,mB (p:=JU K p) h];refine congrArg some (Prod.ext rfl ?_);show K.mul (K.sub K.zero p.2.1) _=K.neg (K.mul p.2.1 _);rw[←K.neg_mul];congr 1;exact K.zero_add _
end
namespace AG
variable {G:Type} (A:AG G)
theorem addz (a:G):A.add a A.zero=a:=by rw[A.comm,A.zadd]
theorem addn (a:G):A.add a (A.neg a)=A.zero:=by rw[A.comm,A.nadd]
theorem left_comm (a b c:G):A.add a (A.add b c)=A.add b (A.add a c):=by rw[←A.assoc,A.comm a b,A.assoc]
theorem cancel {a b c:G} (h:A.add a b=A.add a c):b=c:=by
 have:=congrArg (A.add (A.neg a)) h
 rwa [←A.assoc,←A.assoc,A.nadd,A.zadd,A.zadd]at this
theorem neg_add (a b:G):A.neg (A.add a b)=A.add (A.neg a) (A.neg b):=by
 apply A.cancel (a:=A.add a b);rw[A.addn,A.assoc,A.left_comm b,A.addn,A.addz,A.addn]
def ns:Nat→G→G
 | 0,_=>A.zero
 | n+1,g=>A.add (ns n g) g
theorem ns_add (m:Nat) (g:G):∀n,A.ns (m+n) g=A.add (A.ns m g) (A.ns n g)
 | 0=>(A.addz _).symm
 | n+1=>by show A.add (A.ns (m+n) g) g=A.add _ (A.add _ _); rw[ns_add m g n,A.assoc]
theorem ns_zero:∀n,A.ns n A.zero=A.zero
 | 0=>rfl
 | n+1=>by show A.add (A.ns n _) _=_; rw[ns_zero n,A.zadd]
theorem ns_mul (m:Nat) (g:G):∀n,A.ns (m*n) g=A.ns n (A.ns m g)
 | 0=>rfl
 | n+1=>by rw[Nat.mul_add,Nat.mul_one,ns_add,ns_mul m g n]; rfl
end AG
open Classical
section
variable {R:Type} {K:CR R} {inv:R→R} {b:R}
def Rp (E:EC K inv b) (p:Jc R) (P:{p:Pt R // On K b p}):Prop:=xT K inv p=P.1
theorem Rp.on {E:EC K inv b} {p:Jc R} {P:{p:Pt R // On K b p}} (h:Rp E p P):On K b (xT K inv p):=by
 rw[show xT K inv p=P.1 from h]; exact P.2
theorem Rp.dbl {E:EC K inv b} {p:Jc R} {P:{p:Pt R // On K b p}} (h:Rp E p P):Rp E (PG K p) (E.grp.add P P):=by
 show xT K inv (PG K p)=xS K inv P.1 P.1;rw[PB E h.on,show xT K inv p=P.1 from h]
theorem Rp.neg {E:EC K inv b} {p:Jc R} {P:{p:Pt R // On K b p}} (h:Rp E p P):Rp E (JU K p) (E.grp.neg P):=by
 show xT K inv (JU K p)=RA K P.1;rw[PA,show xT K inv p=P.1 from h]
theorem Rp.zero {E:EC K inv b} {p:Jc R} (h:p.2.2=K.zero):Rp E p E.grp.zero:=jM h
end
namespace AG
variable {G:Type} (A:AG G)
end AG
namespace AG
variable {G:Type} (A:AG G)
theorem ns_modz {g:G} {n:Nat} (h:A.ns n g=A.zero) (m:Nat):A.ns (m%n) g=A.ns m g:=by
 conv=>rhs; rw[←Nat.div_add_mod m n,A.ns_add,A.ns_mul,h,A.ns_zero,A.zadd]
theorem ns_gcd {g:G} (a b:Nat):A.ns a g=A.zero→A.ns b g=A.zero→A.ns (Nat.gcd a b) g=A.zero:=by
 induction a,b using Nat.gcd.induction with
 | H0 n=>intro _ h; rw[Nat.gcd_zero_left]; exact h
 | H1 m n hm ih =>
  intro h1 h2;rw[Nat.gcd_rec];exact ih (by rw[A.ns_modz h1]; exact h2) h1
theorem exact {g:G} {N:Nat} {l:List Nat} (hl:l.foldr (· * ·) 1=N) (hp:∀q,q∈l→cT q) (h0:A.ns N g=A.zero) (hq:∀q,q∈l→A.ns (N/q) g≠A.zero) (k:Nat) (hk:0<k) (hN:k<N):A.ns k g≠A.zero:=fun h=>by
 have hd:=A.ns_gcd k N h h0;obtain⟨e,he⟩:=Nat.gcd_dvd_right k N;have hdk:Nat.gcd k N≤k:=Nat.le_of_dvd hk (Nat.gcd_dvd_left k N);have hd0:0<Nat.gcd k N:=Nat.gcd_pos_of_pos_left N hk;have he1:1<e:=by
  rcases Nat.lt_or_ge 1 e with q|q
  ·exact q
  ·have:Nat.gcd k N*e≤Nat.gcd k N*1:=Nat.mul_le_mul_left _ q;omega
 obtain⟨q,hql,f,hf⟩:=lR l e (by rw[hl]; exact⟨Nat.gcd k N,by rw[Nat.mul_comm]; exact he⟩) he1 hp;refine hq q hql ?_;have hq0:0<q:=Nat.lt_trans Nat.zero_lt_one (hp q hql).1;have e1:N/q=Nat.gcd k N*f:=by
  rw[Nat.div_eq_of_eq_mul_left hq0];rw[Nat.mul_assoc,Nat.mul_comm f q,←hf];exact he
 rw[e1,A.ns_mul,hd,A.ns_zero]
theorem ns_inj {g:G} {N:Nat} (h:∀k,0<k→k<N→A.ns k g≠A.zero) {i j:Nat} (hi:i<N) (hj:j<N) (e:A.ns i g=A.ns j g):i=j:=by
 have key:∀i j,i<j→j<N→A.ns i g=A.ns j g→False:=fun i j hij hj e=>by
  refine h (j-i) (by omega) (by omega) ?_;have:A.ns j g=A.add (A.ns i g) (A.ns (j-i) g):=by rw[←A.ns_add,Nat.add_sub_cancel' (Nat.le_of_lt hij)]
  rw[this]at e;refine A.cancel (a:=A.ns i g) ?_;rw[←e,A.addz]
 rcases Nat.lt_trichotomy i j with q|q|q
 ·exact (key i j q hj e).elim
 ·exact q
 ·exact (key j i q hi e.symm).elim
theorem ns_back {g:G} {N:Nat} (h0:A.ns N g=A.zero) {j:Nat} (hj:j≤N):A.add (A.ns j g) (A.ns (N-j) g)=A.zero:=by
 rw[←A.ns_add,Nat.add_sub_cancel' hj,h0]
end AG
end Go.Proofs.Ytjeplinbleofnaa.Ex
namespace Go.Proofs.Ytjeplinbleofnaa
open Go.Proofs.Try
open Go.RowKit
theorem KIs.set4 {w:World} {b d:Nat} {F:FC} (h:KIs w b F) (hd:d≠b) (d0 d1 d2 d3:Nat):KIs (Go.Proofs.Ytjeplinbleofnaa.set4 w d d0 d1 d2 d3) b F:=(((h.other hd _).other hd _).other hd _).other hd _
theorem sC {a0 a1 a2 a3 b0 b1 b2 b3:Nat} (h:¬KU a0 a1 a2 a3 b0 b1 b2 b3=true):KU a0 a1 a2 a3 b0 b1 b2 b3=false:=by cases q:KU a0 a1 a2 a3 b0 b1 b2 b3 with|false=>rfl|true=>exact absurd q h
set_option maxHeartbeats 2000000 in
theorem fN (f:Int) (F:FC) (hf:FieldIs f F) (w:World):Calls prog 73 #[.int .i64 f] w fun e w'=>e=.returned (.agg #[.int .u64 F.m0,.int .u64 F.m1,.int .u64 F.m2,.int .u64 F.m3])∧Below w.heap.size w w':=by
 rcases hf with⟨rfl,rfl⟩|⟨rfl,rfl⟩
 ·go_enter func73,ntmps73
  go_wp2_with fail;refine bodyPost_ret (v:=.agg #[.int .u64 FP.m0,.int .u64 FP.m1,.int .u64 FP.m2,.int .u64 FP.m3]) (by simp[results,results73,go_sem,FP]) rfl ?_;refine⟨rfl,?_⟩
  repeat (first|exact Below.refl _ _|refine Below.drew ?_|refine Below.alloc ?_ (by first|(simp; done)|(simp; omega)) _|refine Below.setCell ?_ (by simp) _)
 ·go_enter func73,ntmps73
  go_wp2_with fail;refine bodyPost_ret (v:=.agg #[.int .u64 FR.m0,.int .u64 FR.m1,.int .u64 FR.m2,.int .u64 FR.m3]) (by simp[results,results73,go_sem,FR]) rfl ?_;refine⟨rfl,?_⟩
  repeat (first|exact Below.refl _ _|refine Below.drew ?_|refine Below.alloc ?_ (by first|(simp; done)|(simp; omega)) _|refine Below.setCell ?_ (by simp) _)
section
variable {M g:Nat}
theorem rV (A B C:Nat):A*B%M*C%M=A*(B*C%M)%M:=by rw[kD,nC,Nat.mul_assoc]
end
theorem Bad1.ne {f c:Int} {A:Nat} (h:Bad1 f A c):c≠0:=by rcases h with⟨_,_,h⟩|⟨_,_,_,h⟩<;>omega
theorem Bad2.ne {f c:Int} {A B:Nat} (h:Bad2 f A B c):c≠0:=by
 rcases h with h|⟨_,_,_,_,h⟩
 ·exact h.ne
 ·omega
theorem FieldIs.uniq {f:Int} {F G:FC} (h:FieldIs f F) (k:FieldIs f G):F=G:=by
 rcases h with⟨h,rfl⟩|⟨h,rfl⟩<;>rcases k with⟨k,rfl⟩|⟨k,rfl⟩<;>first|rfl|omega
end Go.Proofs.Ytjeplinbleofnaa
namespace Go.Proofs.Ytjeplinbleofnaa.Ex
open Go.Proofs.Try
open Go.RowKit
theorem Bv:Root RM 5:=by
 show Root Go.Proofs.Ytjeplinbleofnaa.FR.M 5;rw[Av];exact GT
theorem GW:2≤RM:=by decide
def OZ (x:Fin RM):Fin RM:=⟨QZ x.1,tB _⟩
theorem YW:FD KR OZ:=⟨fun h=>absurd (congrArg Fin.val h) (by decide),fun x h=>Fin.ext (by
 show x.1*(1*(x.1^(RM-2))%RM)%RM=1;rw[Nat.one_mul];exact BT Bv GW (Nat.pos_of_ne_zero fun e=>h (Fin.ext e)) x.2)⟩
def aR:Fin RM:=fK 168700
def dR:Fin RM:=fK 168696
theorem QA:168696^(RM/2)%RM≠1:=by
 rw[←IN RM 256 168696 (RM/2) (by decide)];exact of_decide_eq_true (by kernel_rfl)
theorem Dv (x:Fin RM):KR.mul x x≠dR:=fun h=>by
 have h1:x.1*x.1%RM=168696:=(congrArg Fin.val h).trans (Nat.mod_eq_of_lt (by decide))
 by_cases h0:x.1=0
 ·rw[h0]at h1;exact absurd h1 (by decide)
 ·have h2:=UP Bv (by decide) (Nat.pos_of_ne_zero h0) x.2;rw[h1]at h2;exact QA h2
def MU:Fin RM:=fK 7214280148105020021932206872019688659210616427216992810330019057549499971851
theorem dC:ED KR OZ aR dR where
 F:=YW
 two:=fun h=>absurd (congrArg Fin.val h) (by decide)
 sq:=⟨MU,of_decide_eq_true (by kernel_rfl)⟩
 ns:=Dv
abbrev JP:=AQ KR aR dR
abbrev NJ:=Nat×Nat×Nat
def gG (p q:NJ):NJ :=
 let z:=aJ p.2.2 q.2.2
 let x:=aJ p.1 q.1
 let y:=aJ p.2.1 q.2.1
 let both:=aJ 168696 (aJ x y)
 let square:=aJ z z
 let more:=dM square both
 let less:=eO square both
 let across:=eO (eO (aJ (dM p.1 p.2.1) (dM q.1 q.2.1)) x) y
 (aJ (aJ z less) across,aJ (aJ z more) (eO y (aJ 168700 x)),aJ less more)
def JV (p:NJ):NJ :=
 let x:=aJ p.1 p.1
 let y:=aJ p.2.1 p.2.1
 let z:=aJ p.2.2 p.2.2
 let across:=eO (eO (aJ (dM p.1 p.2.1) (dM p.1 p.2.1)) x) y
 let ax:=aJ 168700 x
 let more:=dM ax y
 let less:=eO (dM z z) more
 (aJ across less,aJ more (eO y ax),aJ more less)
def vO (x y:Nat):Nat:=x*(y^(RM-2))%RM
theorem tD (x y:Nat):vO x y<RM:=Nat.mod_lt _ eG
def tld (p:NJ):Nat×Nat:=(aJ p.1 (vO 1 p.2.2),aJ p.2.1 (vO 1 p.2.2))
def FK (p:NJ):Fin RM×Fin RM×Fin RM:=(fK p.1,fK p.2.1,fK p.2.2)
theorem eE (x:Nat) {y:Nat} (hy:y<RM):fK (eO x y)=KR.sub (fK x) (fK y):=MF x hy
theorem SE (p q:NJ):FK (gG p q)=xD KR aR dR (FK p) (FK q):=by
 refine Prod.ext ?_ (Prod.ext ?_ ?_)
 ·simp only[FK,gG,xD,fJ,iD,eE _ (aD _ _)]; rfl
 ·simp only[FK,gG,xD,fJ,iD,eE _ (aD _ _)]; rfl
 ·simp only[FK,gG,xD,fJ,iD,eE _ (aD _ _)]; rfl
theorem SF (p:NJ):FK (JV p)=xE KR aR (FK p):=by
 refine Prod.ext ?_ (Prod.ext ?_ ?_)
 ·simp only[FK,JV,xE,fJ,iD,eE _ (aD _ _),eE _ (bP _ _)]; rfl
 ·simp only[FK,JV,xE,fJ,iD,eE _ (aD _ _),eE _ (bP _ _)]; rfl
 ·simp only[FK,JV,xE,fJ,iD,eE _ (aD _ _),eE _ (bP _ _)]; rfl
structure JRep (p:NJ) (P:JP):Prop where
 x:p.1<RM
 y:p.2.1<RM
 z:p.2.2<RM
 rep:kM KR aR dR (FK p) P
theorem JRep.pl {p q:NJ} {P Q:JP} (hp:JRep p P) (hq:JRep q Q):JRep (gG p q) (dC.grp.add P Q) :=
 ⟨aD _ _,aD _ _,aD _ _,by rw[SE]; exact dC.sum hp.rep hq.rep⟩
theorem JRep.db {p:NJ} {P:JP} (hp:JRep p P):JRep (JV p) (dC.grp.add P P) :=
 ⟨aD _ _,aD _ _,aD _ _,by rw[SF]; exact dC.dbl hp.rep⟩
theorem JRep.nz {p:NJ} {P:JP} (hp:JRep p P):p.2.2≠0:=fun e=>hp.rep.2.2 (by show fK p.2.2=KR.zero; rw[e]; rfl)
theorem GC {z:Nat} (hz:z<RM):fK (vO 1 z)=OZ (fK z):=Fin.ext (by
 show vO 1 z%RM=1*((z%RM)^(RM-2))%RM;rw[Nat.mod_eq_of_lt (tD _ _),Nat.mod_eq_of_lt hz];rfl)
theorem JRep.tld {p:NJ} {P:JP} (hp:JRep p P):tld p=(P.1.1.1,P.1.2.1):=by
 obtain⟨h1,h2⟩:=dC.told hp.rep;have e1:fK (aJ p.1 (vO 1 p.2.2))=P.1.1:=by rw[fJ,GC hp.z]; exact h1
 have e2:fK (aJ p.2.1 (vO 1 p.2.2))=P.1.2:=by rw[fJ,GC hp.z]; exact h2
 refine Prod.ext ?_ ?_
 ·show aJ p.1 (vO 1 p.2.2)=_;rw[←iC (aD p.1 (vO 1 p.2.2)),e1]
 ·show aJ p.2.1 (vO 1 p.2.2)=_;rw[←iC (aD p.2.1 (vO 1 p.2.2)),e2]
def rO (x y:Nat):Prop:=dM (aJ 168700 (aJ x x)) (aJ y y)=dM 1 (aJ 168696 (aJ (aJ x x) (aJ y y)))
instance (x y:Nat):Decidable (rO x y):=Nat.decEq _ _
def OnJ (x y:Nat):Prop:=(x<RM∧y<RM)∧rO x y
instance (x y:Nat):Decidable (OnJ x y):=instDecidableAnd
theorem UF {x y:Nat} (h:rO x y):dG KR aR dR (fK x) (fK y):=by
 have e:=congrArg fK h;simp only[iD,fJ,GD]at e;exact e
def jp {x y:Nat} (h:OnJ x y):JP:=⟨(fK x,fK y),UF h.2⟩
theorem dS {x y:Nat} (h:OnJ x y):JRep (x,y,1) (jp h) :=
 ⟨h.1.1,h.1.2,cI,by show kM KR aR dR (fK x,fK y,fK 1) _; rw[GD]; exact dC.rep1 (jp h)⟩
theorem UE {x y:Fin RM} (h:dG KR aR dR x y):rO x.1 y.1:=by
 have h:KR.add (KR.mul aR (KR.mul x x)) (KR.mul y y)=KR.add KR.one (KR.mul dR (KR.mul (KR.mul x x) (KR.mul y y))):=h;have e:=congrArg Fin.val h;exact e
theorem JP.on (P:JP):OnJ P.1.1.1 P.1.2.1:=⟨⟨P.1.1.2,P.1.2.2⟩,UE P.2⟩
theorem Cp {x y:Nat} (h:OnJ x y):(jp h).1.1.1=x:=iC h.1.1
theorem YD {x y:Nat} (h:OnJ x y):(jp h).1.2.1=y:=iC h.1.2
theorem YE (P:JP) (h:OnJ P.1.1.1 P.1.2.1):jp h=P:=Subtype.ext (Prod.ext (Fin.ext (Nat.mod_eq_of_lt P.1.1.2)) (Fin.ext (Nat.mod_eq_of_lt P.1.2.2)))
theorem tP:JRep (0,1,1) dC.grp.zero:=⟨eG,cI,cI,by
 show kM KR aR dR (fK 0,fK 1,fK 1) _;rw[GD,GE];exact dC.rep1 dC.grp.zero⟩
def Bl {α:Type} (n:Nat) (k:Nat→α):α:=Nat.rec (motive:=fun _=>α) (k 0) (fun m _=>k (Nat.succ m)) n
theorem zT {α:Type} (n:Nat) (k:Nat→α):Bl n k=k n:=by cases n<;>rfl
def YV {α:Type} (p:NJ) (k:NJ→α):α:=Bl p.1 fun x=>Bl p.2.1 fun y=>Bl p.2.2 fun z=>k (x,y,z)
theorem KJ {α:Type} (p:NJ) (k:NJ→α):YV p k=k p:=by unfold YV; rw[zT,zT,zT]
def QD (p:NJ) (n L:Nat):Nat→NJ
 | 0=>(0,1,1)
 | k+1=>YV (QD p n L k) fun q=>YV (JV q) fun q2=>bif Nat.beq (n/2^(L-(k+1))%2) 1 then gG q2 p else q2
theorem CF {p:NJ} {P:JP} (h:JRep p P) (n L:Nat) (hn:n<2^L):∀k,k≤L→JRep (QD p n L k) (dC.grp.ns (n/2^(L-k)) P)
 | 0,_=>by
  rw[Nat.sub_zero,Nat.div_eq_of_lt hn];exact tP
 | k+1,hk=>by
  have ih:=CF h n L hn k (by omega);have e:n/2^(L-k)=n/2^(L-(k+1))/2:=by
   rw[show L-k=(L-(k+1))+1 by omega,Nat.pow_add,←Nat.div_div_eq_div_mul]
  rw[e]at ih;have h2:=ih.db;rw[←dC.grp.ns_add]at h2;show JRep (YV (QD p n L k) _) _;rw[KJ,KJ];cases hb:Nat.beq (n/2^(L-(k+1))%2) 1
  ·have hb:n/2^(L-(k+1))%2≠1:=fun q=>by rw[q]at hb; cases hb
   rw[show n/2^(L-(k+1))=n/2^(L-(k+1))/2+n/2^(L-(k+1))/2 by omega];exact h2
  ·have hb:=Nat.eq_of_beq_eq_true hb;rw[show n/2^(L-(k+1))=n/2^(L-(k+1))/2+n/2^(L-(k+1))/2+1 by omega];exact h2.pl h
theorem mI {p:NJ} {P:JP} (h:JRep p P) (n L:Nat) (hn:n<2^L):JRep (QD p n L L) (dC.grp.ns n P):=by
 have:=CF h n L hn L (Nat.le_refl _)
 rwa [Nat.sub_self,Nat.pow_zero,Nat.div_one]at this
def hU (p:NJ):Bool:=Nat.beq p.1 0&&Nat.beq p.2.1 p.2.2
theorem fY {p:NJ} {P:JP} (h:JRep p P):hU p=true↔P=dC.grp.zero:=by
 obtain⟨hx,hy,hz,h1,h2,h3⟩:=h;have h1:fK p.1=KR.mul P.1.1 (fK p.2.2):=h1;have h2:fK p.2.1=KR.mul P.1.2 (fK p.2.2):=h2;have h3:fK p.2.2≠KR.zero:=h3;unfold hU;rw[Bool.and_eq_true];constructor
 ·rintro⟨e1,e2⟩
  have e1:=Nat.eq_of_beq_eq_true e1;have e2:=Nat.eq_of_beq_eq_true e2;rw[e1]at h1;rw[e2]at h2;refine Subtype.ext (Prod.ext ?_ ?_)
  ·refine YW.zd (a:=fK p.2.2) ?_ h3;rw[KR.mul_comm,←h1];exact GE
  ·refine YW.cancel h3 ?_;rw[KR.mul_comm,←h2];exact (KR.mul_one _).symm
 ·rintro rfl
  have e1:fK p.1=KR.zero:=h1.trans (KR.zero_mul _);have e2:fK p.2.1=fK p.2.2:=h2.trans (KR.one_mul _);refine⟨?_,?_⟩
  ·rw[AT hx eG (e1.trans GE.symm)]; rfl
  ·rw[AT hy hz e2]; exact Nat.beq_refl _
def lJ:Nat:=2736030358979909402780800718157159386076813972158567259200215660948447373041
def bX:Nat:=5299619240641551281634865583518297030282874472190772894086521144482721001553
def bY:Nat:=16950150798460657717958625567821834550301663161624707787222815936182638968203
theorem uD:OnJ bX bY:=of_decide_eq_true (by kernel_rfl)
def JB:JP:=jp uD
theorem Ad:hU (QD (bX,bY,1) lJ 251 251)=true:=by kernel_rfl
theorem RX:dC.grp.ns lJ JB=dC.grp.zero:=(fY (mI (dS uD) lJ 251 (by decide))).1 Ad
def mY:Nat:=21888242871839275222246405745257275088548364400416034343698204186575808495616
theorem OY:OnJ 0 mY:=of_decide_eq_true (by kernel_rfl)
theorem XZ:hU (QD (0,mY,1) lJ 251 251)=false:=by kernel_rfl
theorem XY:dC.grp.ns lJ (jp OY)≠dC.grp.zero:=fun h=>by
 have:=(fY (mI (dS OY) lJ 251 (by decide))).2 h;rw[XZ]at this;cases this
def WA (op:Nat→Nat) (c:Nat→List Prop):kH
 | [.v (.fl l)]=>match oK l with|some x=>some (c x,.one (.fl [.q (op x)]))|none=>none
 | _=>none
def PM (op:Nat→Nat→Nat) (c:Nat→Nat→List Prop):kH
 | [.v (.fl l),.v (.fl m)]=>match oK l,oK m with|some x,some y=>some (c x y,.one (.fl [.q (op x y)]))|_,_=>none
 | _=>none
def uH (x y:Nat):List Prop:=[x<RM,y<RM]
theorem lE {f:FuncId} {op:Nat→Nat→Nat} {c:Nat→Nat→List Prop} (h:∀x y,aU (c x y)→∀args w,cE w [.v (.fl [.q x]),.v (.fl [.q y])] args→bC prog f (.one (.fl [.q (op x y)])) args w) :
  ∀cs pre r,PM op c cs=some (pre,r)→aU pre→∀(args:List Value) (w:World),cE w cs args→bC prog f r args w:=by
 intro cs pre r hg hp args w ha;unfold PM at hg;split at hg
 ·rename_i l m;split at hg
  ·rename_i x y hx hy;cases hg;refine h x y hp args w ?_
   match args,ha with
   | [v,u],ha =>
    refine⟨?_,?_,trivial⟩
    ·show v=.agg (aB (q1 x)).toArray;rw[←cJ l x hx]; exact ha.1
    ·show u=.agg (aB (q1 y)).toArray;rw[←cJ m y hy]; exact ha.2.1
   | [],ha=>exact ha.elim
   | [_],ha=>exact ha.2.elim
   | _::_::_::_,ha=>exact ha.2.2.elim
  ·cases hg
 ·cases hg
theorem tU {f:FuncId} {op:Nat→Nat} {c:Nat→List Prop} (h:∀x,aU (c x)→∀args w,cE w [.v (.fl [.q x])] args→bC prog f (.one (.fl [.q (op x)])) args w) :
  ∀cs pre r,WA op c cs=some (pre,r)→aU pre→∀(args:List Value) (w:World),cE w cs args→bC prog f r args w:=by
 intro cs pre r hg hp args w ha;unfold WA at hg;split at hg
 ·rename_i l;split at hg
  ·rename_i x hx;cases hg;refine h x hp args w ?_
   match args,ha with
   | [v],ha =>
    refine⟨?_,trivial⟩;show v=.agg (aB (q1 x)).toArray;rw[←cJ l x hx]; exact ha.1
   | [],ha=>exact ha.elim
   | _::_::_,ha=>exact ha.2.elim
  ·cases hg
 ·cases hg
theorem AJ {x:Nat} (h:x<RM):bJ .neq .i64 (LI x) 0=some (.bool false):=by unfold LI; rw[if_pos h]; rfl
theorem CG {x:Nat} (h:¬x<RM):bJ .neq .i64 (LI x) 0=some (.bool true):=by unfold LI; rw[if_neg h]; rfl
def Dg (N:Nat) (f:Nat→Nat):Prop:=∀j,j<N→f j<RM
instance (N:Nat) (f:Nat→Nat):Decidable (Dg N f):=Nat.decidableBallLT N fun j _=>f j<RM
def UY:kH
 | [.v (.im (.int .i64 2)),.v (.fl l),.v (.fl m)]=>match oK l,oK m with
  | some x,some y=>some ([x<RM,y<RM,y≠0],.many [.fl [.q (vO x y)],.im (.int .i64 0)])
  | _,_=>none
 | _=>none
theorem XJ:∀cs pre r,UY cs=some (pre,r)→aU pre→∀(args:List Value) (w:World),cE w cs args→bC prog 89 r args w:=by
 intro cs pre r hg hp args w ha;unfold UY at hg;split at hg
 ·rename_i l m;split at hg
  ·rename_i x y hx hy;cases hg
   match args,ha with
   | [t,v,u],ha =>
    obtain⟨h1,h2,h3,_⟩:=ha;have h1:t=.int .i64 2:=h1;have h2:v=.agg (aB l).toArray:=h2;have h3:u=.agg (aB m).toArray:=h3;rw[cJ l x hx]at h2;rw[cJ m y hy]at h3;subst h1; subst h2; subst h3;have h:=PS 2 _ pV _ _ _ _ _ _ _ _ (cR x) (cR y) (by rw[nG hp.1]; exact hp.1) (by rw[nG hp.2.1]; exact hp.2.1) (by rw[nG hp.2.1]; exact hp.2.2.1) w;rw[nG hp.1,nG hp.2.1]at h;refine h.mono ?_
    rintro e w' ⟨s0,s1,s2,s3,rfl,hs,hv,hb⟩
    obtain⟨rfl,rfl,rfl,rfl⟩:=gN hs (pB (tD x y)) hv;exact⟨rfl,hb⟩
   | [],ha=>exact ha.elim
   | [_],ha=>exact ha.2.elim
   | [_,_],ha=>exact ha.2.2.elim
   | _::_::_::_::_,ha=>exact ha.2.2.2.elim
  ·cases hg
 ·cases hg
def FH:Tab:=(((((T0.add 87 (RR dM)).add 88 (RR eO)).add 86 (RR aJ)).add 85 UZ).add 46 UX).add 89 UY
theorem wI:TabOk prog FH:=((((((sL _).add func87 (by kernel_rfl) (by kernel_rfl) XK).add func88 (by kernel_rfl) (by kernel_rfl) XH).add func86 (by kernel_rfl) (by kernel_rfl) XI).add func85 (by kernel_rfl) (by kernel_rfl) NQ).add func46 (by kernel_rfl) (by kernel_rfl) Bx).add func89 (by kernel_rfl) (by kernel_rfl) XJ
theorem PD (x y:Nat):jP prog FH (qG prog) (fun _=>true) f61 40 [.v (.fl [.q x]),.v (.fl [.q y])]=some ([x<RM,y<RM],.one (.fl [.q (dM x y)])):=by kernel_rfl
theorem JS (x y:Nat):jP prog FH (qG prog) (fun _=>true) f62 40 [.v (.fl [.q x]),.v (.fl [.q y])]=some ([x<RM,y<RM],.one (.fl [.q (eO x y)])):=by kernel_rfl
theorem JR (x y:Nat):jP prog FH (qG prog) (fun _=>true) f58 40 [.v (.fl [.q x]),.v (.fl [.q y])]=some ([x<RM,y<RM],.one (.fl [.q (aJ x y)])):=by kernel_rfl
theorem PE (x y:Nat):jP prog FH (qG prog) (fun _=>true) f64 40 [.v (.fl [.q x]),.v (.fl [.q y])]=some ([x<RM,y<RM,y≠0],.one (.fl [.q (vO x y)])):=by kernel_rfl
def FI:Tab:=((((FH.add 61 (PM dM uH)).add 62 (PM eO uH)).add 58 (PM aJ uH)).add 64 (PM vO fun x y=>[x<RM,y<RM,y≠0]))
theorem wJ:TabOk prog FI:=((((wI.add func61 (by kernel_rfl) (by kernel_rfl) (lE (op:=dM) (c:=uH) fun x y h args w ha=>bK aZ wI (aS _) func61 (PD x y) h ha)).add func62 (by kernel_rfl) (by kernel_rfl) (lE (op:=eO) (c:=uH) fun x y h args w ha=>bK aZ wI (aS _) func62 (JS x y) h ha)).add func58 (by kernel_rfl) (by kernel_rfl) (lE (op:=aJ) (c:=uH) fun x y h args w ha=>bK aZ wI (aS _) func58 (JR x y) h ha)).add func64 (by kernel_rfl) (by kernel_rfl) (lE (op:=vO) (c:=fun x y=>[x<RM,y<RM,y≠0]) fun x y h args w ha=>bK aZ wI (aS _) func64 (PE x y) h ha))
theorem zJ (x:Nat):jP prog FI (qG prog) (fun _=>true) f60 40 [.v (.fl [.q x])]=some ([x<RM,x<RM],.one (.fl [.q (aJ x x)])):=by kernel_rfl
theorem wU (x:Nat):jP prog FI (qG prog) (fun _=>true) f36 40 [.v (.fl [.q x])]=some ([0<RM,x<RM],.one (.fl [.q (eO 0 x)])):=by kernel_rfl
theorem EE (x:Nat):jP prog FI (qG prog) (fun _=>true) f63 40 [.v (.fl [.q x])]=some ([168700<18446744073709551616,168700<RM,x<RM],.one (.fl [.q (aJ 168700 x)])):=by kernel_rfl
theorem EB (x:Nat):jP prog FI (qG prog) (fun _=>true) f59 40 [.v (.fl [.q x])]=some ([168696<18446744073709551616,168696<RM,x<RM],.one (.fl [.q (aJ 168696 x)])):=by kernel_rfl
def AO:Tab:=((((FI.add 60 (WA (fun x=>aJ x x) fun x=>[x<RM])).add 36 (WA (eO 0) fun x=>[x<RM])).add 63 (WA (aJ 168700) fun x=>[x<RM])).add 59 (WA (aJ 168696) fun x=>[x<RM]))
theorem nO:TabOk prog AO:=((((wJ.add func60 (by kernel_rfl) (by kernel_rfl) (tU (op:=fun x=>aJ x x) (c:=fun x=>[x<RM]) fun x h args w ha=>bK aZ wJ (aS _) func60 (zJ x) ⟨h.1,h.1,trivial⟩ ha)).add func36 (by kernel_rfl) (by kernel_rfl) (tU (op:=eO 0) (c:=fun x=>[x<RM]) fun x h args w ha=>bK aZ wJ (aS _) func36 (wU x) ⟨eG,h.1,trivial⟩ ha)).add func63 (by kernel_rfl) (by kernel_rfl) (tU (op:=aJ 168700) (c:=fun x=>[x<RM]) fun x h args w ha=>bK aZ wJ (aS _) func63 (EE x) ⟨by decide,by decide,h.1,trivial⟩ ha)).add func59 (by kernel_rfl) (by kernel_rfl) (tU (op:=aJ 168696) (c:=fun x=>[x<RM]) fun x h args w ha=>bK aZ wJ (aS _) func59 (EB x) ⟨by decide,by decide,h.1,trivial⟩ ha))
abbrev NP:=Nat×Nat
def q3 (p:NJ):List At:=[.q p.1,.q p.2.1,.q p.2.2]
def FM (l:List At):Option NJ:=match zG l with|some [a,b,c]=>some (a,b,c)|_=>none
theorem gP:Rd FM q3:=fun l x h=>by
 unfold FM at h;split at h
 ·rename_i hn; cases h; rw[lY hn]; rfl
 ·cases h
def c3 (p:NJ):List Prop:=[p.1<RM,p.2.1<RM,p.2.2<RM]
theorem zK (x y:Nat):jP prog AO (qG prog) (fun _=>true) f30 40 [.v (.fl [.q x,.q y])]=some ([1<18446744073709551616],.one (.fl [.q x,.q y,.q 1])):=by kernel_rfl
theorem zL:jP prog AO (qG prog) (fun _=>true) f23 40 []=some ([1<18446744073709551616],.one (.fl [.f ⟨0,eI⟩,.q 1])):=by kernel_rfl
theorem nE (w:World):bC prog 23 (.one (.fl [.q 0,.q 1])) [] w:=bK aZ nO (aS _) func23 zL ⟨by decide,trivial⟩ (args:=[]) trivial
theorem wT (p q:NJ):jP prog AO (qG prog) (fun _=>true) f31 60 [.v (.fl (q3 p)),.v (.fl (q3 q))]=some ([p.2.2<RM,q.2.2<RM,p.1<RM,q.1<RM,p.2.1<RM,q.2.1<RM,(aJ p.1 q.1)<RM,(aJ p.2.1 q.2.1)<RM,(aJ (aJ p.1 q.1) (aJ p.2.1 q.2.1))<RM,(aJ p.2.2 q.2.2)<RM,(aJ (aJ p.2.2 q.2.2) (aJ p.2.2 q.2.2))<RM,(aJ 168696 (aJ (aJ p.1 q.1) (aJ p.2.1 q.2.1)))<RM,(aJ (aJ p.2.2 q.2.2) (aJ p.2.2 q.2.2))<RM,(aJ 168696 (aJ (aJ p.1 q.1) (aJ p.2.1 q.2.1)))<RM,p.1<RM,p.2.1<RM,q.1<RM,q.2.1<RM,(dM p.1 p.2.1)<RM,(dM q.1 q.2.1)<RM,(aJ (dM p.1 p.2.1) (dM q.1 q.2.1))<RM,(aJ p.1 q.1)<RM,(eO (aJ (dM p.1 p.2.1) (dM q.1 q.2.1)) (aJ p.1 q.1))<RM,(aJ p.2.1 q.2.1)<RM,(aJ p.2.2 q.2.2)<RM,(eO (aJ (aJ p.2.2 q.2.2) (aJ p.2.2 q.2.2)) (aJ 168696 (aJ (aJ p.1 q.1) (aJ p.2.1 q.2.1))))<RM,(aJ (aJ p.2.2 q.2.2) (eO (aJ (aJ p.2.2 q.2.2) (aJ p.2.2 q.2.2)) (aJ 168696 (aJ (aJ p.1 q.1) (aJ p.2.1 q.2.1)))))<RM,(eO (eO (aJ (dM p.1 p.2.1) (dM q.1 q.2.1)) (aJ p.1 q.1)) (aJ p.2.1 q.2.1))<RM,(aJ p.2.2 q.2.2)<RM,(dM (aJ (aJ p.2.2 q.2.2) (aJ p.2.2 q.2.2)) (aJ 168696 (aJ (aJ p.1 q.1) (aJ p.2.1 q.2.1))))<RM,(aJ p.1 q.1)<RM,(aJ p.2.1 q.2.1)<RM,(aJ 168700 (aJ p.1 q.1))<RM,(aJ (aJ p.2.2 q.2.2) (dM (aJ (aJ p.2.2 q.2.2) (aJ p.2.2 q.2.2)) (aJ 168696 (aJ (aJ p.1 q.1) (aJ p.2.1 q.2.1)))))<RM,(eO (aJ p.2.1 q.2.1) (aJ 168700 (aJ p.1 q.1)))<RM,(eO (aJ (aJ p.2.2 q.2.2) (aJ p.2.2 q.2.2)) (aJ 168696 (aJ (aJ p.1 q.1) (aJ p.2.1 q.2.1))))<RM,(dM (aJ (aJ p.2.2 q.2.2) (aJ p.2.2 q.2.2)) (aJ 168696 (aJ (aJ p.1 q.1) (aJ p.2.1 q.2.1))))<RM],.one (.fl (q3 (gG p q)))):=by kernel_rfl
theorem pR (p:NJ):jP prog AO (qG prog) (fun _=>true) f69 60 [.v (.fl (q3 p))]=some ([p.1<RM,p.2.1<RM,p.2.2<RM,p.1<RM,p.2.1<RM,(dM p.1 p.2.1)<RM,(aJ (dM p.1 p.2.1) (dM p.1 p.2.1))<RM,(aJ p.1 p.1)<RM,(eO (aJ (dM p.1 p.2.1) (dM p.1 p.2.1)) (aJ p.1 p.1))<RM,(aJ p.2.1 p.2.1)<RM,(aJ p.1 p.1)<RM,(aJ 168700 (aJ p.1 p.1))<RM,(aJ p.2.1 p.2.1)<RM,(aJ p.2.2 p.2.2)<RM,(aJ p.2.2 p.2.2)<RM,(dM (aJ p.2.2 p.2.2) (aJ p.2.2 p.2.2))<RM,(dM (aJ 168700 (aJ p.1 p.1)) (aJ p.2.1 p.2.1))<RM,(eO (eO (aJ (dM p.1 p.2.1) (dM p.1 p.2.1)) (aJ p.1 p.1)) (aJ p.2.1 p.2.1))<RM,(eO (dM (aJ p.2.2 p.2.2) (aJ p.2.2 p.2.2)) (dM (aJ 168700 (aJ p.1 p.1)) (aJ p.2.1 p.2.1)))<RM,(aJ p.2.1 p.2.1)<RM,(aJ 168700 (aJ p.1 p.1))<RM,(dM (aJ 168700 (aJ p.1 p.1)) (aJ p.2.1 p.2.1))<RM,(eO (aJ p.2.1 p.2.1) (aJ 168700 (aJ p.1 p.1)))<RM,(dM (aJ 168700 (aJ p.1 p.1)) (aJ p.2.1 p.2.1))<RM,(eO (dM (aJ p.2.2 p.2.2) (aJ p.2.2 p.2.2)) (dM (aJ 168700 (aJ p.1 p.1)) (aJ p.2.1 p.2.1)))<RM],.one (.fl (q3 (JV p)))):=by kernel_rfl
theorem PC (p:NJ):jP prog AO (qG prog) (fun _=>true) f32 60 [.v (.fl (q3 p))]=some ([1<18446744073709551616,1<RM,p.2.2<RM,p.2.2≠0,p.1<RM,(vO 1 p.2.2)<RM,p.2.1<RM,(vO 1 p.2.2)<RM],.one (.fl [.q (tld p).1,.q (tld p).2])):=by kernel_rfl
def kK:Tab:=(((((AO.add 30 (g1 FN fun p=>([],.one (.fl (q3 (p.1,p.2,1)))))).add 23 (g0 (.one (.fl [.q 0,.q 1])))).add 31 (g2 FM FM fun p q=>(c3 p++c3 q,.one (.fl (q3 (gG p q)))))).add 69 (g1 FM fun p=>(c3 p,.one (.fl (q3 (JV p)))))).add 32 (g1 FM fun p=>(c3 p++[p.2.2≠0],.one (.fl [.q (tld p).1,.q (tld p).2]))))
theorem fW:TabOk prog kK:=(((((nO.add func30 (by kernel_rfl) (by kernel_rfl) (jO (op:=fun p=>([],.one (.fl (q3 (p.1,p.2,1))))) gQ fun p h args w ha=>bK aZ nO (aS _) func30 (zK p.1 p.2) ⟨by decide,trivial⟩ ha)).add func23 (by kernel_rfl) (by kernel_rfl) (fZ nE)).add func31 (by kernel_rfl) (by kernel_rfl) (pU (op:=fun p q=>(c3 p++c3 q,.one (.fl (q3 (gG p q))))) gP gP fun p q h args w ha=>bK aZ nO (aS _) func31 (wT p q) ⟨h.2.2.1,h.2.2.2.2.2.1,h.1,h.2.2.2.1,h.2.1,h.2.2.2.2.1,(aD _ _),(aD _ _),(aD _ _),(aD _ _),(aD _ _),(aD _ _),(aD _ _),(aD _ _),h.1,h.2.1,h.2.2.2.1,h.2.2.2.2.1,(bP _ _),(bP _ _),(aD _ _),(aD _ _),(cC _ _),(aD _ _),(aD _ _),(cC _ _),(aD _ _),(cC _ _),(aD _ _),(bP _ _),(aD _ _),(aD _ _),(aD _ _),(aD _ _),(cC _ _),(cC _ _),(bP _ _),trivial⟩ ha)).add func69 (by kernel_rfl) (by kernel_rfl) (jO (op:=fun p=>(c3 p,.one (.fl (q3 (JV p))))) gP fun p h args w ha=>bK aZ nO (aS _) func69 (pR p) ⟨h.1,h.2.1,h.2.2.1,h.1,h.2.1,(bP _ _),(aD _ _),(aD _ _),(cC _ _),(aD _ _),(aD _ _),(aD _ _),(aD _ _),(aD _ _),(aD _ _),(bP _ _),(bP _ _),(cC _ _),(cC _ _),(aD _ _),(aD _ _),(bP _ _),(cC _ _),(bP _ _),(cC _ _),trivial⟩ ha)).add func32 (by kernel_rfl) (by kernel_rfl) (jO (op:=fun p=>(c3 p++[p.2.2≠0],.one (.fl [.q (tld p).1,.q (tld p).2]))) gP fun p h args w ha=>bK aZ nO (aS _) func32 (PC p) ⟨(by decide),cI,h.2.2.1,h.2.2.2.1,h.1,(tD _ _),h.2.1,(tD _ _),trivial⟩ ha))
end Go.Proofs.Ytjeplinbleofnaa.Ex
